import Derived.Test.YtllaacdikjffmaaGreatC14k
namespace Go.Proofs.YtllaacdikjffmaaGreat.C14l
open Go.ChangeShapes Go.WideShapes Go.ChangeAt Go.RowKit
open S0 S1 S9 Dm Fx M8 M18 E0 E1 E2 E3 E4 E7 E10 E15 E16 E17 E18 E19 E20 E21 E22 E24 Das C14i C14j C14k
set_option linter.unusedVariables false
set_option linter.unusedSimpArgs false
set_option maxRecDepth 100000
section
variable {old : World → Prop} {id q r : Nat} {o : Oper} {c : Call} {y : AV} {a : Fx.Account} {d : Da} {h m : Int}
end
/-- A row's own cells as values. -/
def one (x : Cr) : List Value := [.int .i64 x.Handle, .int .i64 x.Public, .int .i64 x.Counter, .bool x.Cut]
def many (l : List Cr) : List Value := l.flatMap one
theorem many_len (l : List Cr) : (many l).length = l.length * 4 := by
  unfold many
  induction l with
  | nil => rfl
  | cons x l ih => rw [List.flatMap_cons, List.length_append, ih, List.length_cons]; simp [one]; omega
theorem many_app (l k : List Cr) : many (l ++ k) = many l ++ many k := by unfold many; rw [List.flatMap_append]
theorem many_drop (l : List Cr) (k : Nat) : (many l).drop (k * 4) = many (l.drop k) := by
  rcases Nat.lt_or_ge k l.length with h | h
  · have e : many l = many (l.take k) ++ many (l.drop k) := by rw [← many_app, List.take_append_drop]
    rw [e, List.drop_append_of_le_length (by rw [many_len, List.length_take]; omega), List.drop_of_length_le (by rw [many_len, List.length_take]; omega), List.nil_append]
  · rw [List.drop_of_length_le h, List.drop_of_length_le (by rw [many_len]; omega)]; rfl
theorem many_one (l : List Cr) : ∀ u ∈ many l, u.oneCell' = true := by
  intro u hu
  unfold many at hu
  obtain ⟨x, _, hx⟩ := List.mem_flatMap.1 hu
  unfold one at hx
  simp only [List.mem_cons, List.not_mem_nil, or_false] at hx
  rcases hx with rfl | rfl | rfl | rfl <;> rfl
end Go.Proofs.YtllaacdikjffmaaGreat.C14l
