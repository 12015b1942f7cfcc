/-
  Contracts of chapter 4's group, of the program and of the model: IsGroupElement, PowGroup, MulGroup, InverseExponent, DiscreteLog.
-/
import Derived.Test.YthmljddgaabnhaaC4
namespace Go.Proofs.Ythmljddgaabnhaa.C4b
open Go.ChangeShapes Go.WideShapes Go.ChangeAt Go.RowKit
open S0 S1 M4 C4
set_option linter.unusedVariables false
theorem pm_bool (x : Int) (h1 : 1 ≤ x) (h2 : x ≤ 2038) : (pm 2039 x 1019 == 1) = el x := by
  by_cases h : pm 2039 x 1019 = 1
  · rw [el_t ⟨h1, h2, h⟩, h]; rfl
  · rw [el_f (fun e => h e.2.2)]; simpa using h
end Go.Proofs.Ythmljddgaabnhaa.C4b
