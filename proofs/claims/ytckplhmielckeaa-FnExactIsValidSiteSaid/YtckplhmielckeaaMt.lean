/-
  The text of a mark: contract of the laws' own markText.
-/
import Derived.Test.YtckplhmielckeaaBb
import Derived.Test.YtckplhmielckeaaBa
namespace Go.Proofs.Ytckplhmielckeaa.Mt
open Go.ChangeShapes Go.WideShapes Go.ChangeAt Go.RowKit
open S0 S1 S2 Dm
set_option linter.unusedVariables false
theorem digits_zero (f : Nat) : digits f 0 = [] := by cases f <;> simp [digits]
theorem digits_more (f k : Nat) (h : k ≠ 0) : digits (f + 1) k = digits f (k / 10) ++ [UInt8.ofNat (48 + k % 10)] := by simp [digits, h]
end Go.Proofs.Ytckplhmielckeaa.Mt
