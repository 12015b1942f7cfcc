import Derived.Test.YtllaacdikjffmaaGreatBb
/-
  Origin: a struct of the laws as a thing of its own, and the laws' own functions over it.
-/
set_option linter.unusedVariables false
namespace Go.Proofs.YtllaacdikjffmaaGreat.Fx
open Go.ChangeShapes Go.WideShapes Go.ChangeAt Go.RowKit Go.Deep
open S0 S1 S9 S10 Ty Dm Bx
structure Origin where
  Secure : Bool
  Host : ByteArray
  Port : Int
def Origin.dcs (x : Origin) : List Dc := [.val (.bool x.Secure), .val (.string x.Host), .val (.int .i64 x.Port)]
theorem Origin.len (x : Origin) : x.dcs.length = 3 := rfl
structure Origin.ok (x : Origin) : Prop where
  Secure : True
  Host : x.Host.size ≤ maxLen
  Port : -9223372036854775808 ≤ x.Port ∧ x.Port ≤ 9223372036854775807
theorem Origin.rds {w : World} {hi : Nat} {x : Origin} {vs : List Go.Value} (h : RdsL w hi x.dcs vs) : vs = [.bool x.Secure, .string x.Host, .int .i64 x.Port] := by
  unfold Origin.dcs at h
  simp only [RdsL] at h
  obtain ⟨_, _, rfl, h0, ⟨_, _, rfl, h1, ⟨_, _, rfl, h2, rfl⟩⟩⟩ := h
  obtain rfl := rds_val h0
  obtain rfl := rds_val h1
  obtain rfl := rds_val h2
  exact rfl
theorem Origin.owns {w : World} {lo : Nat} {x : Origin} {vs : List Go.Value} {bs : List Nat} (h : OwnsL w lo x.dcs vs bs) : vs = [.bool x.Secure, .string x.Host, .int .i64 x.Port] ∧ bs = [] := by
  unfold Origin.dcs at h
  simp only [OwnsL] at h
  obtain ⟨_, _, _, _, rfl, h0, ⟨_, _, _, _, rfl, h1, ⟨_, _, _, _, rfl, h2, ⟨rfl, rfl⟩, rfl⟩, rfl⟩, rfl⟩ := h
  obtain ⟨rfl, rfl⟩ := owns_val h0
  obtain ⟨rfl, rfl⟩ := owns_val h1
  obtain ⟨rfl, rfl⟩ := owns_val h2
  exact ⟨rfl, by simp⟩
theorem Origin.wt (x : Origin) : wtL x.dcs = x.Host.size := by
  unfold Origin.dcs
  simp only [wtL]
  simp only [wt_int, wt_bool, wt_str]
  first | done | omega
end Go.Proofs.YtllaacdikjffmaaGreat.Fx
