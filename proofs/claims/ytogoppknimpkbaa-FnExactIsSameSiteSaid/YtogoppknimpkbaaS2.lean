/-
  Contracts of functions that compare two slices of numbers, whatever their lengths; a slice of bytes as a string.
-/
import Derived.Test.YtogoppknimpkbaaS1
import Derived.Laws.BytesArg
namespace Go.Proofs.Ytogoppknimpkbaa.S2
open Go.ChangeShapes Go.WideShapes Go.ChangeAt Go.RowKit
open S0
set_option linter.unusedVariables false
theorem ne_len {xs ys : List Int} (h : xs.length ≠ ys.length) : decide (xs = ys) = false := by
  simp only [decide_eq_false_iff_not]
  intro e
  exact h (by rw [e])
theorem ne_at {xs ys : List Int} (k : Nat) (h : ¬ xs.getD k 0 = ys.getD k 0) : decide (xs = ys) = false := by
  simp only [decide_eq_false_iff_not]
  intro e
  exact h (by rw [e])
theorem eq_all {xs ys : List Int} (h : xs.length = ys.length) (hk : ∀ k, k < xs.length → xs.getD k 0 = ys.getD k 0) : decide (xs = ys) = true := by
  simp only [decide_eq_true_eq]
  refine List.ext_getElem h fun i h1 h2 => ?_
  have := hk i h1
  rw [List.getD_eq_getElem?_getD, List.getD_eq_getElem?_getD, List.getElem?_eq_getElem h1, List.getElem?_eq_getElem h2] at this
  simpa using this
theorem ret_bool {a b : Bool} (h : a = b) : Ending.returned (.bool a) = .returned (.bool b) := by rw [h]
theorem conv_rd {w : World} {hi n c : Nat} {A : Option Addr} {xs : List Int} (h : Rd w hi 1 A n (ints .u8 xs)) : (convert 90 9 (.slice A n c)).run Try.prog w = .ok (.string (strOfNums xs)) w := by
  have hl : xs.length = n := by have := h.len1; rw [ints_len] at this; exact this
  by_cases hn : n = 0
  · subst hn
    have hx : xs = [] := List.eq_nil_of_length_eq_zero hl
    subst hx
    rw [run_convert_bytes_string w 90 9 5 _ 0 c Try.underlying90 Try.underlying5 Try.underlying9]
    cases A with
    | none => simp [Conv.bytesToString]; rfl
    | some a => simp [Conv.bytesToString, loadCells, loadCellsFrom]; rfl
  · obtain ⟨b, off, rfl, _, hc⟩ := h.2 (by omega)
    exact run_convert_bytes_arg w 90 5 Try.underlying90 Try.underlying5 b off n c xs hl (fun i hi => by rw [hc i (by omega), ints_get .u8 xs i (by omega)]) 9 Try.underlying9
end Go.Proofs.Ytogoppknimpkbaa.S2
