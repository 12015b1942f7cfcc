/-
  Contracts of chapter 6's keys and signatures, of the model.
-/
import Derived.Test.YtmfgfofdloclbaaC1
import Derived.Test.YtmfgfofdloclbaaC3
import Derived.Test.YtmfgfofdloclbaaC4
import Derived.Test.YtmfgfofdloclbaaM8
namespace Go.Proofs.Ytmfgfofdloclbaa.C6
open Go.ChangeShapes Go.WideShapes Go.ChangeAt Go.RowKit
open S0 S1 C3 M3 M4 M8
set_option linter.unusedVariables false
theorem isKey_t {k : Int} (h : key k) : isKey k = true := by unfold isKey; exact decide_eq_true h
theorem isKey_f {k : Int} (h : ¬ key k) : isKey k = false := by unfold isKey; exact decide_eq_false h
/-- A list put behind a literal one. -/
theorem own_ints (w : World) (xs : List Int) (n : Nat) (hn : xs.length = n) (hm : n ≤ 1024) : (w.alloc (.cells (ints .i64 xs).toArray 3)).ownsRow w.heap.size 3 1 (.slice (some ⟨w.heap.size, 0, none⟩) n n) n (ints .i64 xs) := by
  have h := own_lit w (ints .i64 xs).toArray n w.heap.size 3 (Nat.le_refl _) (by rw [List.size_toArray, ints_len, hn]) (by unfold maxLen; omega)
  rw [List.toList_toArray] at h
  exact h
end Go.Proofs.Ytmfgfofdloclbaa.C6
