import Derived.Test.YtckplhmielckeabDoorC13i
/-
  Chapter 13 for its exact laws: a store and an assertion as two things made; how long the strings are that come back.
-/
namespace Go.Proofs.YtckplhmielckeabDoor.C13x
open Go.ChangeShapes Go.WideShapes Go.ChangeAt Go.RowKit
open S0 S1 S9 Dm Fx M13 C13m C13b
set_option linter.unusedVariables false
theorem two {y : Fx.KeyStore} {a : Fx.Assertion} {b : Bool} {w : World} {e : Ending} {w' : World} (h : Gives (mkV y a b) w e w') : MadeLLx y.dcs a.dcs (fun us vs => .tuple #[.agg us.toArray, .agg vs.toArray, .bool b]) w e w' := by
  obtain ⟨rfl, hb⟩ := h
  exact ⟨_, [], _, [], rfl, KeyStore.mkO, Assertion.mkO, by simp, by simp, by simp, hb⟩
theorem mk_size (x : Fx.KeyStore) (o : Fx.Origin) (z : ByteArray) (k ch : Int) (p : Bool) : (mkA x o z k ch p).Site.size ≤ z.size ∧ (mkA x o z k ch p).Origin.size ≤ 100 := by
  have h := fmt_size o
  unfold mkA
  split
  · exact ⟨Nat.le_refl _, h⟩
  · exact ⟨Nat.zero_le _, Nat.zero_le _⟩
end Go.Proofs.YtckplhmielckeabDoor.C13x
