import Derived.Test.YtckplhmielckeabDoorBa
import Derived.Test.YtckplhmielckeabDoorC1F
import Derived.Test.YtckplhmielckeabDoorM1P
/-
  Contracts of ParseInt, of the program and of the model: a number and true at the numeral of a number up to MaxValue, 0 and false at every other string.
-/
namespace Go.Proofs.YtckplhmielckeabDoor.C1P
open Go.ChangeShapes Go.WideShapes Go.ChangeAt Go.RowKit
set_option linter.unusedVariables false
set_option maxRecDepth 100000
def No (s : ByteArray) : Prop := ∀ n : Nat, n ≤ 1000000000000 → s ≠ ⟨(Lib.decDigits n).toArray⟩
theorem No.beq {s : ByteArray} (h : No s) {n : Nat} (hn : n ≤ 1000000000000) : (Lib.decDigits n == s.toList) = false := by
  rw [Lib.toList_data, beq_eq_false_iff_ne]
  intro k
  exact h n hn (by rw [k])
theorem itoa_nat (n : Nat) : Lib.itoa (n : Int) = Lib.decDigits n := by unfold Lib.itoa; rw [if_neg (by omega)]; rfl

end Go.Proofs.YtckplhmielckeabDoor.C1P
