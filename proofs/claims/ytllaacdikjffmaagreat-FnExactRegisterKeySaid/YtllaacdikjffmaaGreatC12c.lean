import Derived.Test.YtllaacdikjffmaaGreatC12b
/-
  Rows of challenges: read, owned, appended to; the model's l12Copy.
-/
namespace Go.Proofs.YtllaacdikjffmaaGreat.C12c
open Go.ChangeShapes Go.WideShapes Go.ChangeAt Go.RowKit
open S0 S1 S9 Dm Fx M3 M8 C3 C6 C12b
set_option linter.unusedVariables false
set_option linter.unusedSimpArgs false
set_option maxRecDepth 100000
def one (x : Fx.Challenge) : List Value := [.int .i64 x.Id, .int .i64 x.Account, .int .i64 x.Until]
def many (l : List Fx.Challenge) : List Value := l.flatMap one
theorem many_app (l k : List Fx.Challenge) : many l ++ many k = many (l ++ k) := by unfold many; rw [List.flatMap_append]
theorem many_len (l : List Fx.Challenge) : (many l).length = l.length * 3 := by
  unfold many
  induction l with
  | nil => rfl
  | cons x l ih => rw [List.flatMap_cons, List.length_append, ih, List.length_cons]; simp [one]; omega
theorem many_one (l : List Fx.Challenge) : ∀ u ∈ many l, u.oneCell' = true := by
  intro u hu
  unfold many at hu
  obtain ⟨x, _, hx⟩ := List.mem_flatMap.1 hu
  unfold one at hx
  simp only [List.mem_cons, List.not_mem_nil, or_false] at hx
  rcases hx with rfl | rfl | rfl <;> rfl
end Go.Proofs.YtllaacdikjffmaaGreat.C12c
