import Derived.Test.YtllaacdikjffmaaGreatM21
import Derived.Test.YtllaacdikjffmaaGreatM18
/-
  What chapter 15 says of keys registered and logins begun, in plain words.
-/
namespace Go.Proofs.YtllaacdikjffmaaGreat.M22
open S0 S1 S9 Dm Fx M3 M8 C3 M12 M13 M18 M21 Das
set_option linter.unusedVariables false
noncomputable def fndB (s : Fx.Site) (i : Int) : Bool := vsi s && !decide (findA s.Accounts i < 0)
def accAt (s : Fx.Site) (i : Int) : Ac := s.Accounts.getD (findA s.Accounts i).toNat zAccount
def putA (s : Fx.Site) (i : Int) (a : Ac) : Fx.Site := ⟨s.Name, s.Accounts.set (findA s.Accounts i).toNat a, s.Book, s.Logins⟩
noncomputable def regB (s : Fx.Site) (i h p : Int) : Bool := fndB s i && addB (accAt s i) h p
noncomputable def regX (s : Fx.Site) (i h p : Int) : Fx.Site := match fndB s i with | true => putA s i (addX (accAt s i) h p) | false => s
theorem fnd_t {s : Fx.Site} {i : Int} (h : fndB s i = true) : vsi s = true ∧ ∃ k : Nat, findA s.Accounts i = (k : Int) ∧ k < s.Accounts.length := by
  unfold fndB at h
  rw [Bool.and_eq_true] at h
  obtain ⟨h1, h2⟩ := h
  obtain ⟨k, _, h3, h4⟩ := posA_of (show ¬ findA s.Accounts i < 0 by simpa using h2)
  exact ⟨h1, k, h3, h4⟩
theorem fnd_f1 {s : Fx.Site} {i : Int} (h : vsi s = false) : fndB s i = false := by unfold fndB; rw [h]; rfl
theorem fnd_f2 {s : Fx.Site} {i : Int} (h : findA s.Accounts i < 0) : fndB s i = false := by unfold fndB; rw [decide_eq_true h]; simp
theorem fnd_y {s : Fx.Site} {i : Int} (h1 : vsi s = true) (h2 : ¬ findA s.Accounts i < 0) : fndB s i = true := by unfold fndB; rw [h1, decide_eq_false h2]; rfl
theorem reg_t {s : Fx.Site} {i : Int} (e : fndB s i = true) (h p : Int) : regX s i h p = putA s i (addX (accAt s i) h p) ∧ regB s i h p = addB (accAt s i) h p := by
  unfold regX regB; rw [e]; exact ⟨rfl, Bool.true_and _⟩
theorem reg_f {s : Fx.Site} {i : Int} (e : fndB s i = false) (h p : Int) : regX s i h p = s ∧ regB s i h p = false := by
  unfold regX regB; rw [e]; exact ⟨rfl, rfl⟩
end Go.Proofs.YtllaacdikjffmaaGreat.M22
