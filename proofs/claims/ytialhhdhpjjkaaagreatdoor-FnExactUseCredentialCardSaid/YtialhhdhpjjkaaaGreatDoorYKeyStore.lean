import Derived.Test.YtialhhdhpjjkaaaGreatDoorBb
/-
  KeyStore: a struct of the laws as a thing of its own, and the laws' own functions over it.
-/
set_option linter.unusedVariables false
namespace Go.Proofs.YtialhhdhpjjkaaaGreatDoor.Fx
open Go.ChangeShapes Go.WideShapes Go.ChangeAt Go.RowKit Go.Deep
open S0 S1 S9 S10 Ty Dm Bx
structure KeyStore where
  Vendor : Int
  Serial : Int
  Seed : Int
  Counter : Int
def KeyStore.dcs (x : KeyStore) : List Dc := [.val (.int .i64 x.Vendor), .val (.int .i64 x.Serial), .val (.int .i64 x.Seed), .val (.int .i64 x.Counter)]
theorem KeyStore.len (x : KeyStore) : x.dcs.length = 4 := rfl
structure KeyStore.ok (x : KeyStore) : Prop where
  Vendor : -9223372036854775808 ≤ x.Vendor ∧ x.Vendor ≤ 9223372036854775807
  Serial : -9223372036854775808 ≤ x.Serial ∧ x.Serial ≤ 9223372036854775807
  Seed : -9223372036854775808 ≤ x.Seed ∧ x.Seed ≤ 9223372036854775807
  Counter : -9223372036854775808 ≤ x.Counter ∧ x.Counter ≤ 9223372036854775807
theorem KeyStore.rds {w : World} {hi : Nat} {x : KeyStore} {vs : List Go.Value} (h : RdsL w hi x.dcs vs) : vs = [.int .i64 x.Vendor, .int .i64 x.Serial, .int .i64 x.Seed, .int .i64 x.Counter] := by
  unfold KeyStore.dcs at h
  simp only [RdsL] at h
  obtain ⟨_, _, rfl, h0, ⟨_, _, rfl, h1, ⟨_, _, rfl, h2, ⟨_, _, rfl, h3, rfl⟩⟩⟩⟩ := h
  obtain rfl := rds_val h0
  obtain rfl := rds_val h1
  obtain rfl := rds_val h2
  obtain rfl := rds_val h3
  exact rfl
theorem KeyStore.mkR {w : World} {hi : Nat} {x : KeyStore}   : RdsL w hi x.dcs [.int .i64 x.Vendor, .int .i64 x.Serial, .int .i64 x.Seed, .int .i64 x.Counter] := by
  unfold KeyStore.dcs
  simp only [RdsL]
  exact ⟨_, _, rfl, by simp [Rds], ⟨_, _, rfl, by simp [Rds], ⟨_, _, rfl, by simp [Rds], ⟨_, _, rfl, by simp [Rds], rfl⟩⟩⟩⟩
theorem KeyStore.owns {w : World} {lo : Nat} {x : KeyStore} {vs : List Go.Value} {bs : List Nat} (h : OwnsL w lo x.dcs vs bs) : vs = [.int .i64 x.Vendor, .int .i64 x.Serial, .int .i64 x.Seed, .int .i64 x.Counter] ∧ bs = [] := by
  unfold KeyStore.dcs at h
  simp only [OwnsL] at h
  obtain ⟨_, _, _, _, rfl, h0, ⟨_, _, _, _, rfl, h1, ⟨_, _, _, _, rfl, h2, ⟨_, _, _, _, rfl, h3, ⟨rfl, rfl⟩, rfl⟩, rfl⟩, rfl⟩, rfl⟩ := h
  obtain ⟨rfl, rfl⟩ := owns_val h0
  obtain ⟨rfl, rfl⟩ := owns_val h1
  obtain ⟨rfl, rfl⟩ := owns_val h2
  obtain ⟨rfl, rfl⟩ := owns_val h3
  exact ⟨rfl, by simp⟩
theorem KeyStore.mkO {w : World} {lo : Nat} {x : KeyStore}    : OwnsL w lo x.dcs [.int .i64 x.Vendor, .int .i64 x.Serial, .int .i64 x.Seed, .int .i64 x.Counter] ([]) := by
  unfold KeyStore.dcs
  simp only [OwnsL]
  exact ⟨_, _, [], [], rfl, by simp [Owns], ⟨_, _, [], [], rfl, by simp [Owns], ⟨_, _, [], [], rfl, by simp [Owns], ⟨_, _, [], [], rfl, by simp [Owns], ⟨rfl, rfl⟩, by simp⟩, by simp⟩, by simp⟩, by simp⟩
theorem KeyStore.wt (x : KeyStore) : wtL x.dcs = 0 := by
  unfold KeyStore.dcs
  simp only [wtL]
  simp only [wt_int]
  first | done | omega
end Go.Proofs.YtialhhdhpjjkaaaGreatDoor.Fx
