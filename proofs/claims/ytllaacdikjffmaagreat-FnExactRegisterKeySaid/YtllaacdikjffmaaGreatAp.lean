import Derived.Test.YtllaacdikjffmaaGreatBb
import Derived.Deep.AppendLies
/-
  An append of one element with memory in it onto a row of the call's own.
-/
namespace Go.Proofs.YtllaacdikjffmaaGreat.Ap
open Go.ChangeShapes Go.WideShapes Go.ChangeAt Go.RowKit Go.Deep
open S0 S1 S9 S10 Ty Dm Bx
set_option linter.unusedVariables false
/-- What is known of a slice's elements. -/
structure El (P : Program) (t e : TypeId) (size bytes : Nat) : Prop where
  all : ∃ i z, P.underlying t = some (.slice e) ∧ P.info? e = some i ∧ i.zero = some z ∧ i.size = size ∧ i.bytes = bytes ∧ z.cells.size = size
  pos : 0 < size
  few : bytes ≤ 4096
section
variable {P : Program} {α : Type} {f : α → List Dc} {t e : TypeId} {size bytes : Nat}
end
end Go.Proofs.YtllaacdikjffmaaGreat.Ap
