/-
  Contracts of chapter 13's small functions, of the model: IsClone, AssertionName.
-/
import Derived.Test.YtmfgfofdloclbaaC13m
namespace Go.Proofs.Ytmfgfofdloclbaa.C13c
open Go.ChangeShapes Go.WideShapes Go.ChangeAt Go.RowKit
open S0 S1 S9 Dm Fx C13m
set_option linter.unusedVariables false
set_option linter.unusedSimpArgs false
set_option maxRecDepth 100000
def nameA (c : Int) : ByteArray :=
  if c = 0 then ⟨#[111, 107]⟩ else if c = 1 then ⟨#[111, 114, 105, 103, 105, 110]⟩ else if c = 2 then ⟨#[112, 114, 101, 115, 101, 110, 99, 101]⟩ else if c = 3 then ⟨#[99, 104, 97, 108, 108, 101, 110, 103, 101]⟩ else if c = 4 then ⟨#[99, 111, 117, 110, 116, 101, 114]⟩ else if c = 5 then ⟨#[115, 105, 103, 110, 97, 116, 117, 114, 101]⟩ else ⟨#[]⟩
set_option maxHeartbeats 1600000 in
theorem specClone (w : World) (a : Fx.Assertion) (n : Int) (us : List Value) (h : RdsL w w.heap.size a.dcs us) : Calls Try.prog 15 #[.agg us.toArray, .int .i64 n] w (Gives (.bool (decide (a.Counter ≤ n))) w) := by
  obtain rfl := Assertion.rds h
  clear h
  go_enter Try.func15, Try.ntmps15
  go_wp2
  go_ret
  exact ⟨rfl, (Below.refl _ _).alloc (Nat.le_refl _) _⟩
set_option maxHeartbeats 1600000 in
theorem specName (w : World) (c : Int) : Calls Try.prog 13 #[.int .i64 c] w (Gives (.string (nameA c)) w) := by
  by_cases hc : 0 ≤ c ∧ c ≤ 5
  · have h6 : c = 0 ∨ c = 1 ∨ c = 2 ∨ c = 3 ∨ c = 4 ∨ c = 5 := by omega
    clear hc
    rcases h6 with rfl | rfl | rfl | rfl | rfl | rfl
    all_goals (
      go_enter Try.func13, Try.ntmps13
      go_wp2_with (go_at_call 21; (with_reducible refine (C1.specIn_t _ _ _ _ (by omega) (by omega)).mono ?_); rintro e w' ⟨rfl, rfl⟩)
      go_ret
      exact ⟨rfl, (Below.refl _ _).alloc (Nat.le_refl _) _⟩)
  · have hn : nameA c = ⟨#[]⟩ := by unfold nameA; rw [if_neg (by omega), if_neg (by omega), if_neg (by omega), if_neg (by omega), if_neg (by omega), if_neg (by omega)]
    rw [hn]
    clear hn
    have hc2 : c < 0 ∨ 5 < c := by omega
    have HC := Lib.hid hc2
    clear hc hc2
    go_enter Try.func13, Try.ntmps13
    go_wp2_with (go_at_call 21; (with_reducible refine (C1.specIn_f _ _ _ _ HC.out).mono ?_); rintro e w' ⟨rfl, rfl⟩)
    go_ret
    exact ⟨rfl, (Below.refl _ _).alloc (Nat.le_refl _) _⟩
end Go.Proofs.Ytmfgfofdloclbaa.C13c
