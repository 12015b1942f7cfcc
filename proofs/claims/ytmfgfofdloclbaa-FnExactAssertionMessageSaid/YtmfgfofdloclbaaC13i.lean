/-
  Chapter 13's contracts of the program, in the forms of C13i.form.
-/
import Derived.Test.YtmfgfofdloclbaaC13r
namespace Go.Proofs.Ytmfgfofdloclbaa.C13i
open Go.ChangeShapes Go.WideShapes Go.ChangeAt Go.RowKit
open S0 S1 S9 Dm Fx C13m C13c
set_option linter.unusedVariables false
set_option linter.unusedSimpArgs false
set_option maxRecDepth 100000
theorem as_shs (w : World) (hi : Nat) (a : Fx.Assertion) {us : List Value} (h : RdsL w hi a.dcs us) : E0.ShsL w hi a.dcs us :=
  E0.shsL_vals (fun d hd => by
    simp only [Assertion.dcs, List.mem_cons, List.not_mem_nil, or_false] at hd
    rcases hd with rfl | rfl | rfl | rfl | rfl | rfl | rfl <;> exact ⟨_, rfl⟩) h
theorem implMsg (w : World) (a : Fx.Assertion) (us : List Value) (h : RdsL w w.heap.size a.dcs us) (hs : a.Site.size ≤ 16000000) (hs2 : a.Origin.size ≤ 16000000) : Calls Try.prog 9 #[.agg us.toArray] w (MadeS 3 1 6 (ints .i64 (msg a)) w) :=
  (E18.con_madeD (C13r.conMsg a hs hs2) (us := []) rfl (E18.numR_dc _ _ _) (E18.arg_agg (Das.dasAssertion_dc a) (as_shs w _ a h) E18.arg_nil)).mono fun e w' hq => by
    obtain ⟨v, bs, rfl, ho, hn, hb⟩ := hq
    have h1 := (flat_owns ho).1
    obtain ⟨A, c, rfl⟩ := own_nil_form h1
    exact ⟨A, c, rfl, h1, hb⟩
theorem implClone (w : World) (a : Fx.Assertion) (n : Int) (us : List Value) (h : RdsL w w.heap.size a.dcs us) : Calls Try.prog 16 #[.agg us.toArray, .int .i64 n] w (Gives (.bool (decide (a.Counter ≤ n))) w) :=
  E18.con_plain (C13r.conClone a n) (us := [.bool (decide (a.Counter ≤ n))]) rfl (E18.arg_agg (Das.dasAssertion_dc a) (as_shs w _ a h) (E18.arg_val E18.arg_nil))
theorem implName (w : World) (c : Int) : Calls Try.prog 14 #[.int .i64 c] w (Gives (.string (nameA c)) w) :=
  E18.con_plain (C13r.conName c) (us := [.string (nameA c)]) rfl (E18.arg_val E18.arg_nil)
end Go.Proofs.Ytmfgfofdloclbaa.C13i
