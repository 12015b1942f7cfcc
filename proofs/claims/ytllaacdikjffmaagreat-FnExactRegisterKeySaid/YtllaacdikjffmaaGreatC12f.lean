import Derived.Test.YtllaacdikjffmaaGreatC12d
import Derived.Test.YtllaacdikjffmaaGreatC12t
import Derived.Test.YtllaacdikjffmaaGreatAp
import Derived.Deep.DeepCutAuto
/-
  Contract of chapter 12's ExpireChallenges, of the model.
-/
namespace Go.Proofs.YtllaacdikjffmaaGreat.C12f
open Go.ChangeShapes Go.WideShapes Go.ChangeAt Go.RowKit
open S0 S1 S9 Dm Fx M3 M8 C3 C6 C12b C12c C12d
set_option linter.unusedVariables false
set_option linter.unusedSimpArgs false
set_option maxRecDepth 100000
/-- What the rounds so far have kept. -/
def Kept (now : Int) (l : List Fx.Challenge) (k : Nat) (r : List Fx.Challenge) : Prop := r = (l.take k).filter (fun x => decide (now ≤ x.Until))
theorem Kept.no {now : Int} {l r : List Fx.Challenge} {k : Nat} {x : Fx.Challenge} (h : Kept now l k r) (hx : l[k]? = some x) (e : ¬ now ≤ x.Until) : Kept now l (k + 1) r := by
  obtain ⟨hl, hx⟩ := List.getElem?_eq_some_iff.1 hx
  unfold Kept at h ⊢
  rw [List.take_succ_eq_append_getElem hl, List.filter_append, ← h, hx]
  simp [e]
theorem Kept.len {now : Int} {l r : List Fx.Challenge} {k : Nat} (h : Kept now l k r) : r.length ≤ l.length := by
  unfold Kept at h
  rw [h]
  exact Nat.le_trans (List.length_filter_le _ _) (by rw [List.length_take]; omega)
end Go.Proofs.YtllaacdikjffmaaGreat.C12f
