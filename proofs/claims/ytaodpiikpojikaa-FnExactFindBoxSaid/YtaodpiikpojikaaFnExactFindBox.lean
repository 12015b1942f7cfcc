/-
  laws.FnExactFindBox returns true at every argument, and leaves what came in as it was: the program's FindBox answers as the model's (boxes of more than 1048576 elements and bytes in all are passed over by the law itself). Conditions: none.
-/
import Derived.Test.YtaodpiikpojikaaFr
import Derived.Stop.Joined
import Derived.Test.YtaodpiikpojikaaDg
import Derived.Test.YtaodpiikpojikaaSo
import Derived.Test.YtaodpiikpojikaaM1
import Derived.Test.YtaodpiikpojikaaFx
import Derived.Test.YtaodpiikpojikaaC8k
import Derived.Test.YtaodpiikpojikaaC8f
import Derived.Test.YtaodpiikpojikaaC8e
import Derived.Test.YtaodpiikpojikaaC8d
namespace Go.Proofs.Ytaodpiikpojikaa.fnExactFindBox
open Go.ChangeShapes Go.WideShapes Go.ChangeAt Go.RowKit
set_option linter.unusedVariables false

open S0 S9 Dm in
set_option maxHeartbeats 8000000 in
set_option maxRecDepth 100000 in
theorem walk (v0 : Value) (a1 : Int) (u1 : (Lit.int .i64 a1).wf = true) (W : World) {H : Type} {enc : TypeId × Value → H} {b0 : Nat} {d0 : DataW H} {p0 : List MemPlace} (hv0 : Value.okWide Try.prog W .any b0 55 v0) (ht0 : DataW.Trod enc Try.prog W 0 (fun _ => true) true 55 v0 d0 p0) :
    Calls Try.prog 9 #[v0, .int .i64 a1] W fun e w' => e = .returned (.bool true) ∧ Below W.heap.size W w' := by
  obtain ⟨x0, hr0, hl0, ho0⟩ := Bx.boxes hv0 ht0
  have H0 := Lib.hid hr0
  clear hv0 ht0 hr0
  have hcx0 := Fx.cnt_boxes x0
  obtain ⟨A0, c0, rfl⟩ := Fx.rds_slice H0.out
  have hu1 := M1.i64_wf u1
  clear u1
  have hwr0 := Nat.le_of_eq (Fx.wt_bytesD (M10.findB a1 x0))
  have hcr0 := Fx.cnt_bytesD (M10.findB a1 x0)
  have hlr := M10.find_len a1 x0
  have HB : Below W.heap.size W W := Below.refl _ _
  go_enter Try.func9, Try.ntmps9
  go_wp2_with fail
  (with_reducible refine (Fx.szBoxS _ x0 _ (1048576) (rds_on H0.out HB) hl0 ho0 (by omega) (by omega)).mono ?_); rintro e w1 ⟨rfl, b1⟩
  replace HB := HB.trans (b1.mono HB.size)
  by_cases big0 : (wt (Bx.boxesD x0) : Int) ≤ 1048576
  rotate_left
  · rw [if_neg big0]
    go_wp2
    go_ret
    exact ⟨rfl, HB⟩
  rw [if_pos big0]
  go_wp2_with fail
  (with_reducible refine (Fx.toBoxS _ x0 _ (rds_on H0.out HB) (by omega)).mono ?_); rintro e w2 ⟨v_cw0, s_cw0, rfl, o_cw0, n_cw0, b2⟩
  replace HB := HB.trans (b2.mono HB.size)
  have i_cw0 := Fx.made_in o_cw0
  go_wp2_with fail
  (with_reducible refine (C8d.specFind _ x0 a1 v_cw0 (owns_rds _ _ _ o_cw0) ho0 (by omega)).mono ?_); rintro e w3 ⟨v_w0, s_w0, rfl, o_w0, n_w0, b3⟩
  replace o_cw0 := owns_below o_cw0 b3
  replace HB := HB.trans (b3.mono HB.size)
  have i_w0 := Fx.made_in o_w0
  clear o_cw0 i_cw0 n_cw0
  go_wp2_with fail
  (with_reducible refine (Fx.toBoxS _ x0 _ (rds_on H0.out HB) (by omega)).mono ?_); rintro e w4 ⟨v_y0, s_y0, rfl, o_y0, n_y0, b4⟩
  replace o_w0 := owns_below o_w0 b4
  replace HB := HB.trans (b4.mono HB.size)
  have i_y0 := Fx.made_in o_y0
  go_wp2_with fail
  (with_reducible refine (C8k.implFind _ x0 a1 v_y0 (owns_rds _ _ _ o_y0) ho0 (by omega)).mono ?_); rintro e w5 ⟨v_g0, s_g0, rfl, o_g0, n_g0, b5⟩
  replace o_w0 := owns_below o_w0 b5
  replace o_y0 := owns_below o_y0 b5
  replace HB := HB.trans (b5.mono HB.size)
  have i_g0 := Fx.made_in o_g0
  go_wp2_with fail
  (with_reducible refine (Fx.eqByteS _ (M10.findB a1 x0) _ _ (owns_rds _ _ _ o_g0) (owns_rds _ _ _ o_w0) (by omega)).mono ?_); rintro e w6 ⟨rfl, b6⟩
  replace o_w0 := owns_below o_w0 b6
  replace o_y0 := owns_below o_y0 b6
  replace o_g0 := owns_below o_g0 b6
  replace HB := HB.trans (b6.mono HB.size)
  go_wp2_with fail
  (with_reducible refine (Fx.toBoxS _ x0 _ (rds_on H0.out HB) (by omega)).mono ?_); rintro e w7 ⟨v_t0, s_t0, rfl, o_t0, n_t0, b7⟩
  replace o_w0 := owns_below o_w0 b7
  replace o_y0 := owns_below o_y0 b7
  replace o_g0 := owns_below o_g0 b7
  replace HB := HB.trans (b7.mono HB.size)
  have i_t0 := Fx.made_in o_t0
  go_wp2_with fail
  (with_reducible refine (Fx.eqBoxS _ x0 _ _ (owns_rds _ _ _ o_y0) (owns_rds _ _ _ o_t0) (by omega)).mono ?_); rintro e w8 ⟨rfl, b8⟩
  replace o_w0 := owns_below o_w0 b8
  replace o_y0 := owns_below o_y0 b8
  replace o_g0 := owns_below o_g0 b8
  replace o_t0 := owns_below o_t0 b8
  replace HB := HB.trans (b8.mono HB.size)
  clear o_t0 i_t0 n_t0
  have z1 := b1.size
  have z2 := b2.size
  have z3 := b3.size
  have z4 := b4.size
  have z5 := b5.size
  have z6 := b6.size
  have z7 := b7.size
  have z8 := b8.size
  go_wp2_with fail
  (with_reducible refine (Fx.markBoxS _ _ x0 _ _ _ o_y0 n_y0 (by omega) (by omega) (by omega)).mono ?_); rintro e w9 ⟨rfl, oz, t9⟩
  have z9 := t9.2.2.2.1
  replace o_w0 := owns_turned o_w0 t9 (fun b hb hb2 => by have h1 := i_w0 b hb; have h2 := i_y0 b hb2; omega)
  replace o_g0 := owns_turned o_g0 t9 (fun b hb hb2 => by have h1 := i_g0 b hb; have h2 := i_y0 b hb2; omega)
  replace HB := below_turned HB t9 (fun b hb => by have h1 := i_y0 b hb; omega)
  replace o_y0 := oz
  clear oz
  go_wp2_with fail
  (with_reducible refine (Fx.eqByteS _ (M10.findB a1 x0) _ _ (owns_rds _ _ _ o_g0) (owns_rds _ _ _ o_w0) (by omega)).mono ?_); rintro e w10 ⟨rfl, b10⟩
  replace o_w0 := owns_below o_w0 b10
  replace o_y0 := owns_below o_y0 b10
  replace o_g0 := owns_below o_g0 b10
  replace HB := HB.trans (b10.mono HB.size)
  clear o_y0 i_y0 n_y0
  go_wp2_with fail
  (with_reducible refine (Fx.markByteS _ _ (M10.findB a1 x0) _ _ _ o_g0 n_g0 (by omega) (by omega) (by omega)).mono ?_); rintro e w11 ⟨rfl, oz, t11⟩
  have z11 := t11.2.2.2.1
  replace o_w0 := owns_turned o_w0 t11 (fun b hb hb2 => by have h1 := i_w0 b hb; have h2 := i_g0 b hb2; omega)
  replace HB := below_turned HB t11 (fun b hb => by have h1 := i_g0 b hb; omega)
  replace o_g0 := oz
  clear oz
  go_wp2_with fail
  (with_reducible refine (Fx.heldByteS _ (M10.findB a1 x0) _ _ (owns_rds _ _ _ o_g0) (by omega) (by omega) (by omega)).mono ?_); rintro e w12 ⟨rfl, b12⟩
  replace o_w0 := owns_below o_w0 b12
  replace o_g0 := owns_below o_g0 b12
  replace HB := HB.trans (b12.mono HB.size)
  go_wp2_with fail
  (with_reducible refine (Fx.toBoxS _ x0 _ (rds_on H0.out HB) (by omega)).mono ?_); rintro e w13 ⟨v_ch0, s_ch0, rfl, o_ch0, n_ch0, b13⟩
  replace o_w0 := owns_below o_w0 b13
  replace o_g0 := owns_below o_g0 b13
  replace HB := HB.trans (b13.mono HB.size)
  have i_ch0 := Fx.made_in o_ch0
  go_wp2_with fail
  (with_reducible refine (C8k.implFind _ x0 a1 v_ch0 (owns_rds _ _ _ o_ch0) ho0 (by omega)).mono ?_); rintro e w14 ⟨v_h0, s_h0, rfl, o_h0, n_h0, b14⟩
  replace o_w0 := owns_below o_w0 b14
  replace o_g0 := owns_below o_g0 b14
  replace o_ch0 := owns_below o_ch0 b14
  replace HB := HB.trans (b14.mono HB.size)
  have i_h0 := Fx.made_in o_h0
  clear o_ch0 i_ch0 n_ch0
  go_wp2_with fail
  (with_reducible refine (Fx.eqByteS _ (M10.findB a1 x0) _ _ (owns_rds _ _ _ o_h0) (owns_rds _ _ _ o_w0) (by omega)).mono ?_); rintro e w15 ⟨rfl, b15⟩
  replace o_w0 := owns_below o_w0 b15
  replace o_g0 := owns_below o_g0 b15
  replace o_h0 := owns_below o_h0 b15
  replace HB := HB.trans (b15.mono HB.size)
  go_wp2_with fail
  (with_reducible refine (Fx.heldByteS _ (M10.findB a1 x0) _ _ (owns_rds _ _ _ o_g0) (by omega) (by omega) (by omega)).mono ?_); rintro e w16 ⟨rfl, b16⟩
  replace o_w0 := owns_below o_w0 b16
  replace o_g0 := owns_below o_g0 b16
  replace o_h0 := owns_below o_h0 b16
  replace HB := HB.trans (b16.mono HB.size)
  go_wp2
  go_ret
  exact ⟨rfl, HB⟩

set_option maxRecDepth 100000 in
theorem contract (H : Type) (enc : TypeId × Value → H) (W : World) (base : Nat) (args : Array Value) (ds gs : List (DataW H)) (before : List MemPlace)
    (hval : ∀ (j : Nat) t v, Try.f9.params[j]? = some t → args[j]? = some v → Value.okWide Try.prog W .any base t v)
    (hW : DataW.Whole enc Try.prog Try.f9.params.toList Rows.fnExactFindBoxSpec.vars false W args.toList ds gs before) :
    Calls Try.prog 9 args W fun e W' => ∃ v, e = .returned v ∧ Rows.fnExactFindBoxSpec.post enc Try.prog Try.f9 false true false false W args v W' := by
  have hW' := hW
  obtain ⟨p, q, hA0, hV, rfl, hfz, hnd⟩ := hW
  have hA : DataW.TrodAll enc Try.prog W 0 (fun _ => true) true Try.f9.params.toList args.toList ds p := hA0
  rw [Try.params9] at hA hval
  obtain ⟨v0, vs0, d0, ds0, p0, q0, hargs, rfl, rfl, h0, r0⟩ := trodAll_cons hA
  obtain ⟨v1, vs1, d1, ds1, p1, q1, rfl, rfl, rfl, h1, r1⟩ := trodAll_cons r0
  obtain ⟨rfl, rfl, rfl⟩ := trodAll_nil r1
  obtain rfl : args = #[v0, v1] := by cases args; simp_all
  obtain ⟨rfl, rfl⟩ := trodVars_none hV
  obtain ⟨a1, rfl, rfl, rfl, w1⟩ := open_int Try.underlying3 (hval 1 3 v1 rfl rfl) h1
  clear hA0
  refine Fr.closeLaw rfl (by kernel_rfl) (by rw [Try.params9]; decide) hW' rfl ?_
  exact walk v0 a1 w1 W (hval 0 55 v0 rfl rfl) h0

set_option maxRecDepth 100000 in
theorem reads (os : Os) {H : Type} (enc : TypeId × Value → H) : ∃ places, DataW.whole enc Try.prog ((World.holding Try.prog os ⟨#[], #[], []⟩).forCall (fun _ _ => 0) ⟨#[], #[.slice none 0 0, .int .i64 0], []⟩).memory Try.f9.params.toList Rows.fnExactFindBoxSpec.vars false (#[.slice none 0 0, .int .i64 0] : Array Value).toList 8 = some ([.nil, .lit (.int .i64 0)], [], places) :=
  ⟨[], by kernel_rfl⟩
set_option maxRecDepth 100000 in
theorem lifted (os : Os) (started : os.Started) (H : Type) (enc : TypeId × Value → H) (F : Stop.Interp) :
    ReturnsInHanded {} Try.checked os 9 .any ((OpenSpec.ofChange Rows.fnExactFindBoxSpec).preRow enc Try.prog Try.f9 Rows.fnExactFindBoxRow.domain false Rows.fnExactFindBoxRow.laid) (((OpenSpec.ofChange Rows.fnExactFindBoxSpec).at F).post enc Try.prog Try.f9 false true false false) := by
  obtain ⟨places, hx⟩ := reads os enc
  refine returnsInHanded_of_row (C := Try.checked) (s := OpenSpec.ofChange Rows.fnExactFindBoxSpec) Fr.own started (by kernel_rfl) Try.func9
    (witness_row_atRef (enc := enc) (C := Try.checked) false (World.holding Try.prog os ⟨#[], #[], []⟩) #[.slice none 0 0, .int .i64 0] rfl (by kernel_rfl) (by kernel_rfl) (by kernel_rfl)
      (OpenSpec.preRow_of_cond 8 hx (by kernel_rfl) (fun k hk => by cases hk) (by kernel_rfl) (laidMetH_nil _ _))) ?_
  intro W base args ds gs before hval hW _ hcond _ hL _ _
  exact contract H enc W base args ds gs before hval hW
set_option maxRecDepth 100000 in
theorem said : Rows.FnExactFindBoxSaid :=
  OpenClaim.holds_of_cond 9 Try.f9 rfl rfl rfl rfl rfl rfl rfl ⟨rfl, rfl, rfl, rfl, rfl⟩ rfl rfl rfl rfl rfl (by kernel_rfl) Try.func9 (by kernel_rfl)
    (of_decide_eq_true (by kernel_rfl)) (by unfold Func.isWrapper; first | (rw [if_pos (by decide +kernel)]; kernel_rfl) | (rw [if_neg (by decide +kernel)]; exact ⟨rfl, rfl⟩))
    (fun os started H enc _ F => by rw [OpenClaim.pre_eq_preRow]; exact lifted os started H enc F)
theorem proved : Rows.FnExactFindBoxSaid := said
#print axioms proved
end Go.Proofs.Ytaodpiikpojikaa.fnExactFindBox
