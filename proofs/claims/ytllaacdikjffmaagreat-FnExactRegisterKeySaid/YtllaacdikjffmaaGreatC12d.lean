import Derived.Test.YtllaacdikjffmaaGreatC12c
import Derived.Test.YtllaacdikjffmaaGreatBb
/-
  Contract of chapter 12's TakeChallenge, of the model.
-/
namespace Go.Proofs.YtllaacdikjffmaaGreat.C12d
open Go.ChangeShapes Go.WideShapes Go.ChangeAt Go.RowKit
open S0 S1 S9 Dm Fx M3 M8 C3 C6 C12b C12c
set_option linter.unusedVariables false
set_option linter.unusedSimpArgs false
set_option maxRecDepth 100000
theorem many_take (l : List Fx.Challenge) (k : Nat) : many (l.take k) = (many l).take (k * 3) := by
  induction l generalizing k with
  | nil => simp [many]
  | cons x l ih =>
    cases k with
    | zero => simp [many]
    | succ k =>
      have e : many (x :: l) = one x ++ many l := rfl
      rw [List.take_succ_cons, e, show many (x :: l.take k) = one x ++ many (l.take k) from rfl, ih, List.take_append]
      have : (one x).length = 3 := rfl
      rw [this, List.take_of_length_le (l := one x) (by rw [this]; omega), show (k + 1) * 3 - 3 = k * 3 by omega]
theorem many_drop (l : List Fx.Challenge) (k : Nat) : many (l.drop k) = (many l).drop (k * 3) := by
  induction l generalizing k with
  | nil => simp [many]
  | cons x l ih =>
    cases k with
    | zero => simp [many]
    | succ k =>
      have e : many (x :: l) = one x ++ many l := rfl
      rw [List.drop_succ_cons, e, ih, List.drop_append]
      have : (one x).length = 3 := rfl
      rw [this, List.drop_of_length_le (l := one x) (by rw [this]; omega), show (k + 1) * 3 - 3 = k * 3 by omega, List.nil_append]
end Go.Proofs.YtllaacdikjffmaaGreat.C12d
