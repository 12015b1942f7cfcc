import Derived.Test.YtllaacdikjffmaaGreatE26
/-
  A symbolic run in two goes: the code is cut behind its first parts; what the first go left may be named anew ahead of the second.
-/
namespace Go.Proofs.YtllaacdikjffmaaGreat.E31
open Go.ChangeShapes Go.WideShapes Go.ChangeAt Go.RowKit
open S0 S1 S9 E0 E1 E2 E3 E4 E5 E6 E7 E8 E9 E10 E11 E12 E15 E16 E17 E18 E20 E26
set_option linter.unusedVariables false
set_option maxRecDepth 100000
section
variable {P : Program} {W0 : World} {w w' : World} {C : Orc} {L : Loops}
/-- An object is told in another way. -/
theorem mem_as {obs : Nat → Ob} {ρ : Roots} (h : Mem W0 obs ρ w) {q : Nat} {ob : Ob} (ho : ObOK ρ W0 w q ob) : Mem W0 (upd obs q ob) ρ w where
  below := h.below
  all x := by
    by_cases e : x = q
    · subst e; rw [upd_same]; exact ho
    · rw [upd_ne _ _ e]; exact h.all x
  apart := h.apart
  nodup := h.nodup
/-- A row whose elements' values are named; the elements own what they reach. -/
structure OutAt (lo : Nat) (E : TypeId) (g off cap : Nat) (vs : List Value) (ds : List Dc) (b0 : List Nat) (v : Value) (cs : List Nat) (w : World) : Prop where
  v_is : v = .slice (some ⟨g, off, none⟩) vs.length cap
  cs_is : cs = b0
  at_ : Ow.At w lo E 1 v vs.length vs
  own : ∃ b2, OwnsL w lo ds vs b2 ∧ b0 = g :: b2
theorem OutAt.firm {lo : Nat} {E : TypeId} {g off cap : Nat} {vs : List Value} {ds : List Dc} {b0 : List Nat} {v : Value} {cs : List Nat} (w1 w2 : World) (hk : ∀ b, b ∈ cs → w2.heap[b]? = w1.heap[b]?) (h : OutAt lo E g off cap vs ds b0 v cs w1) : OutAt lo E g off cap vs ds b0 v cs w2 := by
  obtain ⟨h1, h2, h3, b2, h4, h5⟩ := h
  have hg : ∀ b, b ∈ g :: b2 → w2.heap[b]? = w1.heap[b]? := fun b hb => hk b (by rw [h2, h5]; exact hb)
  refine ⟨h1, h2, h3.keep fun k hk => ?_, b2, ownsL_keep _ _ _ h4 fun b hb => hg b (List.mem_cons_of_mem _ hb), h5⟩
  rw [h1] at hk
  obtain rfl : g = k := by simpa [Value.ownBlock] using hk
  exact hg g (by simp)
section
variable {old : World → Prop} {id q : Nat} {o : Oper} {lo : Nat} {E : TypeId} {g off cap : Nat} {vs : List Value} {ds : List Dc} {b0 : List Nat} {φ : Value → List Nat → World → Prop}
end
end
end Go.Proofs.YtllaacdikjffmaaGreat.E31
