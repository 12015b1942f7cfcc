/-
  Assertion: a struct of the laws as a thing of its own, and the laws' own functions over it.
-/
import Derived.Test.YtialhhdhpjjkaaaDoorBb
set_option linter.unusedVariables false
namespace Go.Proofs.YtialhhdhpjjkaaaDoor.Fx
open Go.ChangeShapes Go.WideShapes Go.ChangeAt Go.RowKit Go.Deep
open S0 S1 S9 S10 Ty Dm Bx
structure Assertion where
  Site : ByteArray
  Origin : ByteArray
  Challenge : Int
  Handle : Int
  Present : Bool
  Counter : Int
  Signature : Int
def Assertion.dcs (x : Assertion) : List Dc := [.val (.string x.Site), .val (.string x.Origin), .val (.int .i64 x.Challenge), .val (.int .i64 x.Handle), .val (.bool x.Present), .val (.int .i64 x.Counter), .val (.int .i64 x.Signature)]
theorem Assertion.len (x : Assertion) : x.dcs.length = 7 := rfl
structure Assertion.ok (x : Assertion) : Prop where
  Site : x.Site.size ≤ maxLen
  Origin : x.Origin.size ≤ maxLen
  Challenge : -9223372036854775808 ≤ x.Challenge ∧ x.Challenge ≤ 9223372036854775807
  Handle : -9223372036854775808 ≤ x.Handle ∧ x.Handle ≤ 9223372036854775807
  Present : True
  Counter : -9223372036854775808 ≤ x.Counter ∧ x.Counter ≤ 9223372036854775807
  Signature : -9223372036854775808 ≤ x.Signature ∧ x.Signature ≤ 9223372036854775807
def AssertionsD (l : List Assertion) : Dc := .row 29 7 l.length (l.flatMap Assertion.dcs)
theorem Assertion.rds {w : World} {hi : Nat} {x : Assertion} {vs : List Go.Value} (h : RdsL w hi x.dcs vs) : vs = [.string x.Site, .string x.Origin, .int .i64 x.Challenge, .int .i64 x.Handle, .bool x.Present, .int .i64 x.Counter, .int .i64 x.Signature] := by
  unfold Assertion.dcs at h
  simp only [RdsL] at h
  obtain ⟨_, _, rfl, h0, ⟨_, _, rfl, h1, ⟨_, _, rfl, h2, ⟨_, _, rfl, h3, ⟨_, _, rfl, h4, ⟨_, _, rfl, h5, ⟨_, _, rfl, h6, rfl⟩⟩⟩⟩⟩⟩⟩ := h
  obtain rfl := rds_val h0
  obtain rfl := rds_val h1
  obtain rfl := rds_val h2
  obtain rfl := rds_val h3
  obtain rfl := rds_val h4
  obtain rfl := rds_val h5
  obtain rfl := rds_val h6
  exact rfl
theorem Assertion.mkR {w : World} {hi : Nat} {x : Assertion}   : RdsL w hi x.dcs [.string x.Site, .string x.Origin, .int .i64 x.Challenge, .int .i64 x.Handle, .bool x.Present, .int .i64 x.Counter, .int .i64 x.Signature] := by
  unfold Assertion.dcs
  simp only [RdsL]
  exact ⟨_, _, rfl, by simp [Rds], ⟨_, _, rfl, by simp [Rds], ⟨_, _, rfl, by simp [Rds], ⟨_, _, rfl, by simp [Rds], ⟨_, _, rfl, by simp [Rds], ⟨_, _, rfl, by simp [Rds], ⟨_, _, rfl, by simp [Rds], rfl⟩⟩⟩⟩⟩⟩⟩
theorem Assertion.owns {w : World} {lo : Nat} {x : Assertion} {vs : List Go.Value} {bs : List Nat} (h : OwnsL w lo x.dcs vs bs) : vs = [.string x.Site, .string x.Origin, .int .i64 x.Challenge, .int .i64 x.Handle, .bool x.Present, .int .i64 x.Counter, .int .i64 x.Signature] ∧ bs = [] := by
  unfold Assertion.dcs at h
  simp only [OwnsL] at h
  obtain ⟨_, _, _, _, rfl, h0, ⟨_, _, _, _, rfl, h1, ⟨_, _, _, _, rfl, h2, ⟨_, _, _, _, rfl, h3, ⟨_, _, _, _, rfl, h4, ⟨_, _, _, _, rfl, h5, ⟨_, _, _, _, rfl, h6, ⟨rfl, rfl⟩, rfl⟩, rfl⟩, rfl⟩, rfl⟩, rfl⟩, rfl⟩, rfl⟩ := h
  obtain ⟨rfl, rfl⟩ := owns_val h0
  obtain ⟨rfl, rfl⟩ := owns_val h1
  obtain ⟨rfl, rfl⟩ := owns_val h2
  obtain ⟨rfl, rfl⟩ := owns_val h3
  obtain ⟨rfl, rfl⟩ := owns_val h4
  obtain ⟨rfl, rfl⟩ := owns_val h5
  obtain ⟨rfl, rfl⟩ := owns_val h6
  exact ⟨rfl, by simp⟩
theorem Assertion.mkO {w : World} {lo : Nat} {x : Assertion}    : OwnsL w lo x.dcs [.string x.Site, .string x.Origin, .int .i64 x.Challenge, .int .i64 x.Handle, .bool x.Present, .int .i64 x.Counter, .int .i64 x.Signature] ([]) := by
  unfold Assertion.dcs
  simp only [OwnsL]
  exact ⟨_, _, [], [], rfl, by simp [Owns], ⟨_, _, [], [], rfl, by simp [Owns], ⟨_, _, [], [], rfl, by simp [Owns], ⟨_, _, [], [], rfl, by simp [Owns], ⟨_, _, [], [], rfl, by simp [Owns], ⟨_, _, [], [], rfl, by simp [Owns], ⟨_, _, [], [], rfl, by simp [Owns], ⟨rfl, rfl⟩, by simp⟩, by simp⟩, by simp⟩, by simp⟩, by simp⟩, by simp⟩, by simp⟩
theorem Assertion.wt (x : Assertion) : wtL x.dcs = x.Site.size + x.Origin.size := by
  unfold Assertion.dcs
  simp only [wtL]
  simp only [wt_int, wt_bool, wt_str]
  first | done | omega
set_option maxHeartbeats 3200000 in
set_option maxRecDepth 100000 in
theorem eqAssertion (w : World) (x : Assertion) (us vs : List Value) (h : RdsL w w.heap.size x.dcs us) (h2 : RdsL w w.heap.size x.dcs vs) (hw : wtL x.dcs ≤ 4294967296) : Calls Tryd.prog 11 #[.agg us.toArray, .agg vs.toArray] w (Gives (.bool true) w) := by
  obtain rfl := Assertion.rds h
  obtain rfl := Assertion.rds h2
  go_enter Tryd.func11, Tryd.ntmps11
  go_wp2
  go_ret
  exact ⟨rfl, ((Below.refl _ _).alloc (Nat.le_refl _) _).alloc (by simp) _⟩
end Go.Proofs.YtialhhdhpjjkaaaDoor.Fx
