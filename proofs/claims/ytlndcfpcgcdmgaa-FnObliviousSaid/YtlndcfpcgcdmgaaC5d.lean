/-
  Contracts of chapter 5's shares, of the program: AreShares, Interpolate.
-/
import Derived.Test.YtlndcfpcgcdmgaaC5c
namespace Go.Proofs.Ytlndcfpcgcdmgaa.C5d
open Go.ChangeShapes Go.WideShapes Go.ChangeAt Go.RowKit
open S0 S1 S3 C3 M4 M5 C5 C5b C5c
set_option linter.unusedVariables false
/-- A share in range; n shares as AreShares wants them. -/
def good (xs : List Int) (k : Nat) : Prop := 1 ≤ xs.getD (k * 2) 0 ∧ xs.getD (k * 2) 0 ≤ 7 ∧ 0 ≤ xs.getD (k * 2 + 1) 0 ∧ xs.getD (k * 2 + 1) 0 ≤ 1018
def are (xs : List Int) (n : Nat) : Prop := 1 ≤ n ∧ n ≤ 7 ∧ (∀ k, k < n → good xs k) ∧ ¬ dup (ixs xs n) n
theorem good_not {xs : List Int} {n k : Nat} (hk : k < n) (h : ¬ good xs k) : ¬ are xs n := fun ha => h (ha.2.2.1 k hk)
/-- All weights at t. -/
noncomputable def lws (is : List Int) (t : Int) (n : Nat) : List Int := (List.range n).map fun (k : Nat) => lw is k t
theorem lws_len (is : List Int) (t : Int) (n : Nat) : (lws is t n).length = n := by unfold lws; rw [List.length_map, List.length_range]
theorem lws_get (is : List Int) (t : Int) (n k : Nat) (hk : k < n) : (lws is t n).getD k 0 = lw is k t := by
  unfold lws
  rw [List.getD_eq_getElem?_getD, List.getElem?_map, List.getElem?_range hk]; rfl
theorem lws_small (is : List Int) (t : Int) (n : Nat) : small (lws is t n) := by
  intro k
  by_cases hk : k < n
  · rw [lws_get is t n k hk]; exact lw_in _ _ _
  · rw [List.getD_eq_getElem?_getD, List.getElem?_eq_none (by rw [lws_len]; omega)]
    simp
/-- The value at t of the polynomial through n points. -/
noncomputable def thr (xs : List Int) (n : Nat) (t : Int) : Int := fsum (vls xs n) (lws (ixs xs n) t n) n
theorem thr_in (xs : List Int) (n : Nat) (t : Int) : 0 ≤ thr xs n t ∧ thr xs n t ≤ 1018 := fsum_in _ _ _
end Go.Proofs.Ytlndcfpcgcdmgaa.C5d
