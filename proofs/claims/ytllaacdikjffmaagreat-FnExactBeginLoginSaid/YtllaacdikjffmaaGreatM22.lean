import Derived.Test.YtllaacdikjffmaaGreatM21
import Derived.Test.YtllaacdikjffmaaGreatM18
/-
  What chapter 15 says of keys registered and logins begun, in plain words.
-/
namespace Go.Proofs.YtllaacdikjffmaaGreat.M22
open S0 S1 S9 Dm Fx M3 M8 C3 M12 M13 M18 M21 Das
set_option linter.unusedVariables false
noncomputable def fndB (s : Fx.Site) (i : Int) : Bool := vsi s && !decide (findA s.Accounts i < 0)
theorem fnd_t {s : Fx.Site} {i : Int} (h : fndB s i = true) : vsi s = true ∧ ∃ k : Nat, findA s.Accounts i = (k : Int) ∧ k < s.Accounts.length := by
  unfold fndB at h
  rw [Bool.and_eq_true] at h
  obtain ⟨h1, h2⟩ := h
  obtain ⟨k, _, h3, h4⟩ := posA_of (show ¬ findA s.Accounts i < 0 by simpa using h2)
  exact ⟨h1, k, h3, h4⟩
theorem fnd_f1 {s : Fx.Site} {i : Int} (h : vsi s = false) : fndB s i = false := by unfold fndB; rw [h]; rfl
theorem fnd_f2 {s : Fx.Site} {i : Int} (h : findA s.Accounts i < 0) : fndB s i = false := by unfold fndB; rw [decide_eq_true h]; simp
theorem fnd_y {s : Fx.Site} {i : Int} (h1 : vsi s = true) (h2 : ¬ findA s.Accounts i < 0) : fndB s i = true := by unfold fndB; rw [h1, decide_eq_false h2]; rfl
end Go.Proofs.YtllaacdikjffmaaGreat.M22
