/-
  laws.FnExactParseOrigin returns true at every argument, and leaves what came in as it was: the program's ParseOrigin answers as the model's (strings of more than 1048576 bytes are passed over by the law itself). Conditions: the library's package-level variables math/bits.deBruijn32tab, math/bits.deBruijn64tab, internal/strconv.uint64pow10, strconv.ErrRange, strconv.ErrSyntax hold when the call begins what the program's text lays there (the card ties them to that text).
-/
import Derived.Test.YtagpoaajhmblkaaDoorFr
import Derived.Test.YtagpoaajhmblkaaDoorCards
import Derived.Test.YtagpoaajhmblkaaDoorTie
import Derived.Lay
import Derived.MakeChecks
import Derived.Test.YtagpoaajhmblkaaDoorLa
import Derived.Test.YtagpoaajhmblkaaDoorDg
import Derived.Test.YtagpoaajhmblkaaDoorSo
import Derived.Test.YtagpoaajhmblkaaDoorM1
import Derived.Test.YtagpoaajhmblkaaDoorLa
import Derived.Test.YtagpoaajhmblkaaDoorYOrigin
import Derived.Test.YtagpoaajhmblkaaDoorC9c
import Derived.Test.YtagpoaajhmblkaaDoorC9i
namespace Go.Proofs.YtagpoaajhmblkaaDoor.fnExactParseOrigin
open Go.ChangeShapes Go.WideShapes Go.ChangeAt Go.RowKit
set_option linter.unusedVariables false

open S0 S9 Dm in
set_option maxHeartbeats 8000000 in
set_option maxRecDepth 100000 in
theorem walk (s0 : ByteArray) (hs0 : s0.size ≤ maxLen) (W : World)  (hL : laidMetH Tryd.prog Rows.fnExactParseOriginRow.laid W) :
    Calls Tryd.prog 4 #[.string s0] W fun e w' => e = .returned (.bool true) ∧ Below W.heap.size W w' := by
  have ht : La.Pow W := La.pow_of rfl hL
  have he : La.Errs W := La.errs_of rfl rfl hL
  clear hL
  have hwr0 := Nat.le_of_eq (Fx.Origin.wt (M13.poO (M13.bts s0)))
  have hws0 := Nat.le_of_eq (Fx.Origin.wt (M13.poO (M13.bts s0))).symm
  have HB : Below W.heap.size W W := Below.refl _ _
  by_cases big0 : 1048576 < s0.size
  · go_enter Tryd.func4, Tryd.ntmps4
    go_wp2
    go_ret
    exact ⟨rfl, Below.refl _ _⟩
  have hs := M13.po_size (M13.bts s0)
  go_enter Tryd.func4, Tryd.ntmps4
  go_wp2_with fail
  (with_reducible refine (C9c.specPo _ s0 (by omega)).mono ?_); rintro e w1 ⟨v_w0, s_w0, rfl, o_w0, n_w0, b1⟩
  replace HB := HB.trans (b1.mono HB.size)
  have i_w0 := Fx.madeL_in o_w0
  obtain ⟨rfl, -⟩ := Fx.Origin.owns o_w0
  go_wp2_with fail
  obtain ⟨w2, hw2⟩ : ∃ y, y = w1.alloc (.cells #[.bool ((M13.poO (M13.bts s0))).Secure, .string ((M13.poO (M13.bts s0))).Host, .int .i64 ((M13.poO (M13.bts s0))).Port] 26) := ⟨_, rfl⟩
  have o_w0v := Fx.var_owns w1 26 3 [.bool ((M13.poO (M13.bts s0))).Secure, .string ((M13.poO (M13.bts s0))).Host, .int .i64 ((M13.poO (M13.bts s0))).Port] rfl
  have b2 : Below w1.heap.size w1 w2 := hw2 ▸ (Below.refl _ _).alloc (Nat.le_refl _) _
  rw [← hw2] at o_w0v ⊢
  clear hw2
  replace o_w0 := ownsL_below o_w0 b2
  replace HB := HB.trans (b2.mono HB.size)
  have n_w0v : [w1.heap.size].Nodup := by simp
  have i_w0v := Fx.made_in o_w0v
  (with_reducible refine (C9i.implPo _ s0 (by omega) (ht.stays HB) (he.stays HB)).mono ?_); rintro e w3 ⟨v_g0, s_g0, rfl, o_g0, n_g0, b3⟩
  replace o_w0 := ownsL_below o_w0 b3
  replace o_w0v := owns_below o_w0v b3
  replace HB := HB.trans (b3.mono HB.size)
  have i_g0 := Fx.madeL_in o_g0
  obtain ⟨rfl, -⟩ := Fx.Origin.owns o_g0
  have d_w0v_0 : w3.cell? ⟨w1.heap.size, 0, none⟩ = some (.bool ((M13.poO (M13.bts s0))).Secure) := Fx.var_load o_w0v n_w0v 0 _ rfl
  have d_w0v_1 : w3.cell? ⟨w1.heap.size, 1, none⟩ = some (.string ((M13.poO (M13.bts s0))).Host) := Fx.var_load o_w0v n_w0v 1 _ rfl
  have d_w0v_2 : w3.cell? ⟨w1.heap.size, 2, none⟩ = some (.int .i64 ((M13.poO (M13.bts s0))).Port) := Fx.var_load o_w0v n_w0v 2 _ rfl
  have e_w0v : w1.heap.size < w3.heap.size := Fx.var_lt o_w0v
  go_wp2_with fail
  clear d_w0v_0 d_w0v_1 d_w0v_2 e_w0v
  obtain ⟨w4, hw4⟩ : ∃ y, y = w3.alloc (.cells #[.bool ((M13.poO (M13.bts s0))).Secure, .string ((M13.poO (M13.bts s0))).Host, .int .i64 ((M13.poO (M13.bts s0))).Port] 26) := ⟨_, rfl⟩
  have o_g0v := Fx.var_owns w3 26 3 [.bool ((M13.poO (M13.bts s0))).Secure, .string ((M13.poO (M13.bts s0))).Host, .int .i64 ((M13.poO (M13.bts s0))).Port] rfl
  have b4 : Below w3.heap.size w3 w4 := hw4 ▸ (Below.refl _ _).alloc (Nat.le_refl _) _
  rw [← hw4] at o_g0v ⊢
  clear hw4
  replace o_w0 := ownsL_below o_w0 b4
  replace o_w0v := owns_below o_w0v b4
  replace o_g0 := ownsL_below o_g0 b4
  replace HB := HB.trans (b4.mono HB.size)
  have n_g0v : [w3.heap.size].Nodup := by simp
  have i_g0v := Fx.made_in o_g0v
  (with_reducible refine (Fx.eqOrigin _ (M13.poO (M13.bts s0)) _ _ (ownsL_rds _ _ _ o_g0) (ownsL_rds _ _ _ o_w0) (by omega)).mono ?_); rintro e w5 ⟨rfl, b5⟩
  replace o_w0 := ownsL_below o_w0 b5
  replace o_w0v := owns_below o_w0v b5
  replace o_g0 := ownsL_below o_g0 b5
  replace o_g0v := owns_below o_g0v b5
  replace HB := HB.trans (b5.mono HB.size)
  go_wp2
  go_ret
  exact ⟨rfl, HB⟩

set_option maxRecDepth 100000 in
theorem contract (H : Type) (enc : TypeId × Value → H) (W : World) (base : Nat) (args : Array Value) (ds gs : List (DataW H)) (before : List MemPlace)
    (hval : ∀ (j : Nat) t v, Tryd.f4.params[j]? = some t → args[j]? = some v → Value.okWide Tryd.prog W .any base t v)
    (hW : DataW.Whole enc Tryd.prog Tryd.f4.params.toList Rows.fnExactParseOriginSpec.vars false W args.toList ds gs before) (hL : laidMetH Tryd.prog Rows.fnExactParseOriginRow.laid W) :
    Calls Tryd.prog 4 args W fun e W' => ∃ v, e = .returned v ∧ Rows.fnExactParseOriginSpec.post enc Tryd.prog Tryd.f4 false true false false W args v W' := by
  have hW' := hW
  obtain ⟨p, q, hA0, hV, rfl, hfz, hnd⟩ := hW
  have hA : DataW.TrodAll enc Tryd.prog W 0 (fun _ => true) true Tryd.f4.params.toList args.toList ds p := hA0
  rw [Tryd.params4] at hA hval
  obtain ⟨v0, vs0, d0, ds0, p0, q0, hargs, rfl, rfl, h0, r0⟩ := trodAll_cons hA
  obtain ⟨rfl, rfl, rfl⟩ := trodAll_nil r0
  obtain rfl : args = #[v0] := by cases args; simp_all
  obtain ⟨rfl, rfl⟩ := trodVars_none hV
  obtain ⟨s0, rfl, rfl, rfl, hs0⟩ := ChangeMaps.open_string Tryd.underlying9 (hval 0 9 v0 rfl rfl) h0
  clear hA0
  refine Fr.closeLaw rfl (by kernel_rfl) (by rw [Tryd.params4]; decide) hW' rfl ?_
  exact walk s0 hs0 W hL

theorem laid_met (os : Os) : laidMetH Tryd.prog Rows.fnExactParseOriginRow.laid ((World.laidAll Tryd.prog os Rows.fnExactParseOriginRow.laid).forCall (fun _ _ => 0) ⟨#[], #[.string ⟨#[]⟩], []⟩).memory := by
  rw [MakeChecks.laidMetH_plain _ _ _ (by kernel_rfl)]; exact laidMet_laidAll _ (by kernel_rfl) (by kernel_rfl)
set_option maxRecDepth 100000 in
theorem reads (os : Os) {H : Type} (enc : TypeId × Value → H) : ∃ places, DataW.whole enc Tryd.prog ((World.laidAll Tryd.prog os Rows.fnExactParseOriginRow.laid).forCall (fun _ _ => 0) ⟨#[], #[.string ⟨#[]⟩], []⟩).memory Tryd.f4.params.toList Rows.fnExactParseOriginSpec.vars false (#[.string ⟨#[]⟩] : Array Value).toList 8 = some ([.lit (.string [])], [], places) :=
  ⟨[], by kernel_rfl⟩
set_option maxRecDepth 100000 in
theorem lifted (os : Os) (started : os.Started) (H : Type) (enc : TypeId × Value → H) (F : Stop.Interp) :
    ReturnsInHanded {} Tryd.checked os 4 .any ((OpenSpec.ofChange Rows.fnExactParseOriginSpec).preRow enc Tryd.prog Tryd.f4 Rows.fnExactParseOriginRow.domain false Rows.fnExactParseOriginRow.laid) (((OpenSpec.ofChange Rows.fnExactParseOriginSpec).at F).post enc Tryd.prog Tryd.f4 false true false false) := by
  obtain ⟨places, hx⟩ := reads os enc
  refine returnsInHanded_of_row (C := Tryd.checked) (s := OpenSpec.ofChange Rows.fnExactParseOriginSpec) Fr.own started (by kernel_rfl) Tryd.func4
    (witness_row_atRef (enc := enc) (C := Tryd.checked) false (World.laidAll Tryd.prog os Rows.fnExactParseOriginRow.laid) #[.string ⟨#[]⟩] (World.laidAll_os _ _ _) (by kernel_rfl) (by kernel_rfl) (by kernel_rfl)
      (OpenSpec.preRow_of_cond 8 hx (by kernel_rfl) (fun k hk => by cases hk) (by kernel_rfl) (laid_met os))) ?_
  intro W base args ds gs before hval hW _ hcond _ hL _ _
  exact contract H enc W base args ds gs before hval hW hL
set_option maxRecDepth 100000 in
theorem said : Rows.FnExactParseOriginSaid :=
  OpenClaim.holds_of_cond 4 Tryd.f4 rfl rfl rfl rfl rfl rfl rfl ⟨rfl, rfl, rfl, rfl, rfl⟩ rfl rfl rfl rfl rfl (by kernel_rfl) Tryd.func4 (by kernel_rfl)
    (of_decide_eq_true (by kernel_rfl)) (by unfold Func.isWrapper; first | (rw [if_pos (by decide +kernel)]; kernel_rfl) | (rw [if_neg (by decide +kernel)]; exact ⟨rfl, rfl⟩))
    (fun os started H enc _ F => by rw [OpenClaim.pre_eq_preRow]; exact lifted os started H enc F)
theorem plain (f : FuncId) (fn : Func) (hf : Tryd.pinned.checked.prog.funcNamed "loop.example/g00581/laws.FnExactParseOrigin" = some f) (hfn : Tryd.pinned.checked.prog.funcs[f]? = some fn) :
    true = Tryd.pinned.checked.prog.looks [] ∧ ∀ (j : Nat) t, fn.params[j]? = some t → Tryd.pinned.checked.prog.wantsStandIn t = false := by
  obtain rfl : f = 4 := Option.some.inj ((show Tryd.prog.funcNamed "loop.example/g00581/laws.FnExactParseOrigin" = some 4 by kernel_rfl).symm.trans hf) |>.symm
  obtain rfl : fn = Tryd.f4 := (Option.some.inj (Tryd.func4.symm.trans hfn)).symm
  refine ⟨by kernel_rfl, fun j t ht => ?_⟩
  rw [Tryd.params4] at ht
  have hall : ([9] : List TypeId).all (fun t => !Tryd.prog.wantsStandIn t) = true := by kernel_rfl
  have hm : t ∈ ([9] : List TypeId) := by have := Array.mem_of_getElem? ht; simpa using this
  have := List.all_eq_true.1 hall t hm
  exact (by simpa using this : Tryd.prog.wantsStandIn t = false)
theorem proved : Rows.FnExactParseOriginCardSaid :=
  Claim7.holds_tied_plain_at .later [] _ _ _ _ said (fun _ h => by cases h) (by kernel_rfl) (fun _ h => by cases h) fnExactParseOrigin_row_tie rfl ⟨rfl, rfl⟩ (by kernel_rfl) rfl plain (by kernel_rfl)
#print axioms proved
end Go.Proofs.YtagpoaajhmblkaaDoor.fnExactParseOrigin
