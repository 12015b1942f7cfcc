/-
  laws.FnExactSealBoxes returns true at every argument, and leaves what came in as it was: the program's SealBoxes answers as the model's (slices of more than 1048576 elements are passed over by the law itself). Conditions: none.
-/
import Derived.Test.YtaodpiikpojikaaFr
import Derived.Stop.Joined
import Derived.Test.YtaodpiikpojikaaDg
import Derived.Test.YtaodpiikpojikaaSo
import Derived.Test.YtaodpiikpojikaaM1
import Derived.Test.YtaodpiikpojikaaFx
import Derived.Test.YtaodpiikpojikaaC8k
import Derived.Test.YtaodpiikpojikaaC8f
import Derived.Test.YtaodpiikpojikaaC8e
import Derived.Test.YtaodpiikpojikaaC8d
namespace Go.Proofs.Ytaodpiikpojikaa.fnExactSealBoxes
open Go.ChangeShapes Go.WideShapes Go.ChangeAt Go.RowKit
set_option linter.unusedVariables false

open S0 S9 Dm in
set_option maxHeartbeats 8000000 in
set_option maxRecDepth 100000 in
theorem walk (v0 : Value) (a1 : Int) (u1 : (Lit.int .i64 a1).wf = true) (v2 : Value) (W : World) {H : Type} {enc : TypeId × Value → H} {b0 : Nat} {d0 : DataW H} {p0 : List MemPlace} (hv0 : Value.okWide Try.prog W .any b0 35 v0) (ht0 : DataW.Trod enc Try.prog W 0 (fun _ => true) true 35 v0 d0 p0) {b2 : Nat} {d2 : DataW H} {p2 : List MemPlace} (hv2 : Value.okWide Try.prog W .any b2 22 v2) (ht2 : DataW.Trod enc Try.prog W 0 (fun _ => true) true 22 v2 d2 p2) :
    Calls Try.prog 8 #[v0, .int .i64 a1, v2] W fun e w' => e = .returned (.bool true) ∧ Below W.heap.size W w' := by
  obtain ⟨A0, n0, c0, x0, rfl, hr0, hl0, hx0⟩ := So.numbers hv0 ht0
  obtain rfl : x0.length = n0 := by have := hr0.len1; rw [ints_len] at this; exact this
  have H0 := Lib.hid (show Rds W W.heap.size (Fx.numsD x0) (.slice A0 x0.length c0) from flat_rds hr0)
  have HX0 := Lib.hid (fun x (h : x ∈ x0) => So.okI_i64 (hx0 x h))
  clear hv0 ht0 hr0 hx0
  have hwx0 : wt (Fx.numsD x0) ≤ x0.length := Nat.le_of_eq (Fx.wt_numsD x0)
  have hcx0 : cnt (Fx.numsD x0) ≤ 64 * wt (Fx.numsD x0) := Fx.cnt_numsD x0
  unfold maxLen at hl0
  have hu1 := M1.i64_wf u1
  clear u1
  obtain ⟨A2, n2, c2, x2, rfl, hr2, hl2, hx2⟩ := So.bytes hv2 ht2
  obtain rfl : x2.length = n2 := by have := hr2.len1; rw [ints_len] at this; exact this
  have H2 := Lib.hid (show Rds W W.heap.size (Fx.bytesD x2) (.slice A2 x2.length c2) from flat_rds hr2)
  have HX2 := Lib.hid (fun x (h : x ∈ x2) => So.okI_u8 (hx2 x h))
  clear hv2 ht2 hr2 hx2
  have hwx2 : wt (Fx.bytesD x2) ≤ x2.length := Nat.le_of_eq (Fx.wt_bytesD x2)
  have hcx2 : cnt (Fx.bytesD x2) ≤ 64 * wt (Fx.bytesD x2) := Fx.cnt_bytesD x2
  unfold maxLen at hl2
  have hcr0 := Fx.cnt_boxes (M10.seals x0 a1 x2)
  have HB : Below W.heap.size W W := Below.refl _ _
  by_cases big0 : 1048576 < x0.length
  · go_enter Try.func8, Try.ntmps8
    go_wp2
    go_ret
    exact ⟨rfl, Below.refl _ _⟩
  by_cases big2 : 1048576 < x2.length
  · go_enter Try.func8, Try.ntmps8
    go_wp2
    go_ret
    exact ⟨rfl, Below.refl _ _⟩
  have hwr0 := M10.seals_wt x0 a1 x2 (by omega)
  have hcr0 := Fx.cnt_boxes (M10.seals x0 a1 x2)
  go_enter Try.func8, Try.ntmps8
  go_wp2_with fail
  (with_reducible refine (Fx.toIntS _ x0 _ (rds_on H0.out HB) (by omega)).mono ?_); rintro e w1 ⟨v_cw0, s_cw0, rfl, o_cw0, n_cw0, b1⟩
  replace HB := HB.trans (b1.mono HB.size)
  have i_cw0 := Fx.made_in o_cw0
  go_wp2_with fail
  (with_reducible refine (Fx.toByteS _ x2 _ (rds_on H2.out HB) (by omega)).mono ?_); rintro e w2 ⟨v_cw2, s_cw2, rfl, o_cw2, n_cw2, b2⟩
  replace o_cw0 := owns_below o_cw0 b2
  replace HB := HB.trans (b2.mono HB.size)
  have i_cw2 := Fx.made_in o_cw2
  go_wp2_with fail
  (with_reducible refine (C8f.specSeals _ x0 a1 x2 v_cw0 v_cw2 (owns_rds _ _ _ o_cw0) (owns_rds _ _ _ o_cw2) HX2.out (by omega) (by omega) (by omega) (by omega)).mono ?_); rintro e w3 ⟨v_w0, s_w0, rfl, o_w0, n_w0, b3⟩
  replace o_cw0 := owns_below o_cw0 b3
  replace o_cw2 := owns_below o_cw2 b3
  replace HB := HB.trans (b3.mono HB.size)
  have i_w0 := Fx.made_in o_w0
  clear o_cw0 i_cw0 n_cw0
  clear o_cw2 i_cw2 n_cw2
  go_wp2_with fail
  (with_reducible refine (Fx.toIntS _ x0 _ (rds_on H0.out HB) (by omega)).mono ?_); rintro e w4 ⟨v_y0, s_y0, rfl, o_y0, n_y0, b4⟩
  replace o_w0 := owns_below o_w0 b4
  replace HB := HB.trans (b4.mono HB.size)
  have i_y0 := Fx.made_in o_y0
  go_wp2_with fail
  (with_reducible refine (Fx.toByteS _ x2 _ (rds_on H2.out HB) (by omega)).mono ?_); rintro e w5 ⟨v_y2, s_y2, rfl, o_y2, n_y2, b5⟩
  replace o_w0 := owns_below o_w0 b5
  replace o_y0 := owns_below o_y0 b5
  replace HB := HB.trans (b5.mono HB.size)
  have i_y2 := Fx.made_in o_y2
  go_wp2_with fail
  (with_reducible refine (C8k.implSeals _ x0 a1 x2 v_y0 v_y2 (owns_rds _ _ _ o_y0) (owns_rds _ _ _ o_y2) HX2.out (by omega) (by omega) HX0.out (by omega) (by omega)).mono ?_); rintro e w6 ⟨v_g0, s_g0, rfl, o_g0, n_g0, b6⟩
  replace o_w0 := owns_below o_w0 b6
  replace o_y0 := owns_below o_y0 b6
  replace o_y2 := owns_below o_y2 b6
  replace HB := HB.trans (b6.mono HB.size)
  have i_g0 := Fx.made_in o_g0
  go_wp2_with fail
  (with_reducible refine (Fx.eqBoxS _ (M10.seals x0 a1 x2) _ _ (owns_rds _ _ _ o_g0) (owns_rds _ _ _ o_w0) (by omega)).mono ?_); rintro e w7 ⟨rfl, b7⟩
  replace o_w0 := owns_below o_w0 b7
  replace o_y0 := owns_below o_y0 b7
  replace o_y2 := owns_below o_y2 b7
  replace o_g0 := owns_below o_g0 b7
  replace HB := HB.trans (b7.mono HB.size)
  go_wp2_with fail
  (with_reducible refine (Fx.toIntS _ x0 _ (rds_on H0.out HB) (by omega)).mono ?_); rintro e w8 ⟨v_t0, s_t0, rfl, o_t0, n_t0, b8⟩
  replace o_w0 := owns_below o_w0 b8
  replace o_y0 := owns_below o_y0 b8
  replace o_y2 := owns_below o_y2 b8
  replace o_g0 := owns_below o_g0 b8
  replace HB := HB.trans (b8.mono HB.size)
  have i_t0 := Fx.made_in o_t0
  go_wp2_with fail
  (with_reducible refine (Fx.eqIntS _ x0 _ _ (owns_rds _ _ _ o_y0) (owns_rds _ _ _ o_t0) (by omega)).mono ?_); rintro e w9 ⟨rfl, b9⟩
  replace o_w0 := owns_below o_w0 b9
  replace o_y0 := owns_below o_y0 b9
  replace o_y2 := owns_below o_y2 b9
  replace o_g0 := owns_below o_g0 b9
  replace o_t0 := owns_below o_t0 b9
  replace HB := HB.trans (b9.mono HB.size)
  clear o_t0 i_t0 n_t0
  go_wp2_with fail
  (with_reducible refine (Fx.toByteS _ x2 _ (rds_on H2.out HB) (by omega)).mono ?_); rintro e w10 ⟨v_t2, s_t2, rfl, o_t2, n_t2, b10⟩
  replace o_w0 := owns_below o_w0 b10
  replace o_y0 := owns_below o_y0 b10
  replace o_y2 := owns_below o_y2 b10
  replace o_g0 := owns_below o_g0 b10
  replace HB := HB.trans (b10.mono HB.size)
  have i_t2 := Fx.made_in o_t2
  go_wp2_with fail
  (with_reducible refine (Fx.eqByteS _ x2 _ _ (owns_rds _ _ _ o_y2) (owns_rds _ _ _ o_t2) (by omega)).mono ?_); rintro e w11 ⟨rfl, b11⟩
  replace o_w0 := owns_below o_w0 b11
  replace o_y0 := owns_below o_y0 b11
  replace o_y2 := owns_below o_y2 b11
  replace o_g0 := owns_below o_g0 b11
  replace o_t2 := owns_below o_t2 b11
  replace HB := HB.trans (b11.mono HB.size)
  clear o_t2 i_t2 n_t2
  have z1 := b1.size
  have z2 := b2.size
  have z3 := b3.size
  have z4 := b4.size
  have z5 := b5.size
  have z6 := b6.size
  have z7 := b7.size
  have z8 := b8.size
  have z9 := b9.size
  have z10 := b10.size
  have z11 := b11.size
  go_wp2_with fail
  (with_reducible refine (Fx.markIntS _ _ x0 _ _ _ o_y0 n_y0 (by omega) (by omega) (by omega)).mono ?_); rintro e w12 ⟨rfl, oz, t12⟩
  have z12 := t12.2.2.2.1
  replace o_w0 := owns_turned o_w0 t12 (fun b hb hb2 => by have h1 := i_w0 b hb; have h2 := i_y0 b hb2; omega)
  replace o_y2 := owns_turned o_y2 t12 (fun b hb hb2 => by have h1 := i_y2 b hb; have h2 := i_y0 b hb2; omega)
  replace o_g0 := owns_turned o_g0 t12 (fun b hb hb2 => by have h1 := i_g0 b hb; have h2 := i_y0 b hb2; omega)
  replace HB := below_turned HB t12 (fun b hb => by have h1 := i_y0 b hb; omega)
  replace o_y0 := oz
  clear oz
  go_wp2_with fail
  (with_reducible refine (Fx.markByteS _ _ x2 _ _ _ o_y2 n_y2 (by omega) (by omega) (by omega)).mono ?_); rintro e w13 ⟨rfl, oz, t13⟩
  have z13 := t13.2.2.2.1
  replace o_w0 := owns_turned o_w0 t13 (fun b hb hb2 => by have h1 := i_w0 b hb; have h2 := i_y2 b hb2; omega)
  replace o_y0 := owns_turned o_y0 t13 (fun b hb hb2 => by have h1 := i_y0 b hb; have h2 := i_y2 b hb2; omega)
  replace o_g0 := owns_turned o_g0 t13 (fun b hb hb2 => by have h1 := i_g0 b hb; have h2 := i_y2 b hb2; omega)
  replace HB := below_turned HB t13 (fun b hb => by have h1 := i_y2 b hb; omega)
  replace o_y2 := oz
  clear oz
  go_wp2_with fail
  (with_reducible refine (Fx.eqBoxS _ (M10.seals x0 a1 x2) _ _ (owns_rds _ _ _ o_g0) (owns_rds _ _ _ o_w0) (by omega)).mono ?_); rintro e w14 ⟨rfl, b14⟩
  replace o_w0 := owns_below o_w0 b14
  replace o_y0 := owns_below o_y0 b14
  replace o_y2 := owns_below o_y2 b14
  replace o_g0 := owns_below o_g0 b14
  replace HB := HB.trans (b14.mono HB.size)
  clear o_y0 i_y0 n_y0
  clear o_y2 i_y2 n_y2
  go_wp2_with fail
  (with_reducible refine (Fx.markBoxS _ _ (M10.seals x0 a1 x2) _ _ _ o_g0 n_g0 (by omega) (by omega) (by omega)).mono ?_); rintro e w15 ⟨rfl, oz, t15⟩
  have z15 := t15.2.2.2.1
  replace o_w0 := owns_turned o_w0 t15 (fun b hb hb2 => by have h1 := i_w0 b hb; have h2 := i_g0 b hb2; omega)
  replace HB := below_turned HB t15 (fun b hb => by have h1 := i_g0 b hb; omega)
  replace o_g0 := oz
  clear oz
  go_wp2_with fail
  (with_reducible refine (Fx.heldBoxS _ (M10.seals x0 a1 x2) _ _ (owns_rds _ _ _ o_g0) (by omega) (by omega) (by omega)).mono ?_); rintro e w16 ⟨rfl, b16⟩
  replace o_w0 := owns_below o_w0 b16
  replace o_g0 := owns_below o_g0 b16
  replace HB := HB.trans (b16.mono HB.size)
  go_wp2_with fail
  (with_reducible refine (Fx.toIntS _ x0 _ (rds_on H0.out HB) (by omega)).mono ?_); rintro e w17 ⟨v_ch0, s_ch0, rfl, o_ch0, n_ch0, b17⟩
  replace o_w0 := owns_below o_w0 b17
  replace o_g0 := owns_below o_g0 b17
  replace HB := HB.trans (b17.mono HB.size)
  have i_ch0 := Fx.made_in o_ch0
  go_wp2_with fail
  (with_reducible refine (Fx.toByteS _ x2 _ (rds_on H2.out HB) (by omega)).mono ?_); rintro e w18 ⟨v_ch2, s_ch2, rfl, o_ch2, n_ch2, b18⟩
  replace o_w0 := owns_below o_w0 b18
  replace o_g0 := owns_below o_g0 b18
  replace o_ch0 := owns_below o_ch0 b18
  replace HB := HB.trans (b18.mono HB.size)
  have i_ch2 := Fx.made_in o_ch2
  go_wp2_with fail
  (with_reducible refine (C8k.implSeals _ x0 a1 x2 v_ch0 v_ch2 (owns_rds _ _ _ o_ch0) (owns_rds _ _ _ o_ch2) HX2.out (by omega) (by omega) HX0.out (by omega) (by omega)).mono ?_); rintro e w19 ⟨v_h0, s_h0, rfl, o_h0, n_h0, b19⟩
  replace o_w0 := owns_below o_w0 b19
  replace o_g0 := owns_below o_g0 b19
  replace o_ch0 := owns_below o_ch0 b19
  replace o_ch2 := owns_below o_ch2 b19
  replace HB := HB.trans (b19.mono HB.size)
  have i_h0 := Fx.made_in o_h0
  clear o_ch0 i_ch0 n_ch0
  clear o_ch2 i_ch2 n_ch2
  go_wp2_with fail
  (with_reducible refine (Fx.eqBoxS _ (M10.seals x0 a1 x2) _ _ (owns_rds _ _ _ o_h0) (owns_rds _ _ _ o_w0) (by omega)).mono ?_); rintro e w20 ⟨rfl, b20⟩
  replace o_w0 := owns_below o_w0 b20
  replace o_g0 := owns_below o_g0 b20
  replace o_h0 := owns_below o_h0 b20
  replace HB := HB.trans (b20.mono HB.size)
  go_wp2_with fail
  (with_reducible refine (Fx.heldBoxS _ (M10.seals x0 a1 x2) _ _ (owns_rds _ _ _ o_g0) (by omega) (by omega) (by omega)).mono ?_); rintro e w21 ⟨rfl, b21⟩
  replace o_w0 := owns_below o_w0 b21
  replace o_g0 := owns_below o_g0 b21
  replace o_h0 := owns_below o_h0 b21
  replace HB := HB.trans (b21.mono HB.size)
  go_wp2
  go_ret
  exact ⟨rfl, HB⟩

set_option maxRecDepth 100000 in
theorem contract (H : Type) (enc : TypeId × Value → H) (W : World) (base : Nat) (args : Array Value) (ds gs : List (DataW H)) (before : List MemPlace)
    (hval : ∀ (j : Nat) t v, Try.f8.params[j]? = some t → args[j]? = some v → Value.okWide Try.prog W .any base t v)
    (hW : DataW.Whole enc Try.prog Try.f8.params.toList Rows.fnExactSealBoxesSpec.vars false W args.toList ds gs before) :
    Calls Try.prog 8 args W fun e W' => ∃ v, e = .returned v ∧ Rows.fnExactSealBoxesSpec.post enc Try.prog Try.f8 false true false false W args v W' := by
  have hW' := hW
  obtain ⟨p, q, hA0, hV, rfl, hfz, hnd⟩ := hW
  have hA : DataW.TrodAll enc Try.prog W 0 (fun _ => true) true Try.f8.params.toList args.toList ds p := hA0
  rw [Try.params8] at hA hval
  obtain ⟨v0, vs0, d0, ds0, p0, q0, hargs, rfl, rfl, h0, r0⟩ := trodAll_cons hA
  obtain ⟨v1, vs1, d1, ds1, p1, q1, rfl, rfl, rfl, h1, r1⟩ := trodAll_cons r0
  obtain ⟨v2, vs2, d2, ds2, p2, q2, rfl, rfl, rfl, h2, r2⟩ := trodAll_cons r1
  obtain ⟨rfl, rfl, rfl⟩ := trodAll_nil r2
  obtain rfl : args = #[v0, v1, v2] := by cases args; simp_all
  obtain ⟨rfl, rfl⟩ := trodVars_none hV
  obtain ⟨a1, rfl, rfl, rfl, w1⟩ := open_int Try.underlying3 (hval 1 3 v1 rfl rfl) h1
  clear hA0
  refine Fr.closeLaw rfl (by kernel_rfl) (by rw [Try.params8]; decide) hW' rfl ?_
  exact walk v0 a1 w1 v2 W (hval 0 35 v0 rfl rfl) h0 (hval 2 22 v2 rfl rfl) h2

set_option maxRecDepth 100000 in
theorem reads (os : Os) {H : Type} (enc : TypeId × Value → H) : ∃ places, DataW.whole enc Try.prog ((World.holding Try.prog os ⟨#[], #[], []⟩).forCall (fun _ _ => 0) ⟨#[], #[.slice none 0 0, .int .i64 0, .slice none 0 0], []⟩).memory Try.f8.params.toList Rows.fnExactSealBoxesSpec.vars false (#[.slice none 0 0, .int .i64 0, .slice none 0 0] : Array Value).toList 8 = some ([.nil, .lit (.int .i64 0), .nil], [], places) :=
  ⟨[], by kernel_rfl⟩
set_option maxRecDepth 100000 in
theorem lifted (os : Os) (started : os.Started) (H : Type) (enc : TypeId × Value → H) (F : Stop.Interp) :
    ReturnsInHanded {} Try.checked os 8 .any ((OpenSpec.ofChange Rows.fnExactSealBoxesSpec).preRow enc Try.prog Try.f8 Rows.fnExactSealBoxesRow.domain false Rows.fnExactSealBoxesRow.laid) (((OpenSpec.ofChange Rows.fnExactSealBoxesSpec).at F).post enc Try.prog Try.f8 false true false false) := by
  obtain ⟨places, hx⟩ := reads os enc
  refine returnsInHanded_of_row (C := Try.checked) (s := OpenSpec.ofChange Rows.fnExactSealBoxesSpec) Fr.own started (by kernel_rfl) Try.func8
    (witness_row_atRef (enc := enc) (C := Try.checked) false (World.holding Try.prog os ⟨#[], #[], []⟩) #[.slice none 0 0, .int .i64 0, .slice none 0 0] rfl (by kernel_rfl) (by kernel_rfl) (by kernel_rfl)
      (OpenSpec.preRow_of_cond 8 hx (by kernel_rfl) (fun k hk => by cases hk) (by kernel_rfl) (laidMetH_nil _ _))) ?_
  intro W base args ds gs before hval hW _ hcond _ hL _ _
  exact contract H enc W base args ds gs before hval hW
set_option maxRecDepth 100000 in
theorem said : Rows.FnExactSealBoxesSaid :=
  OpenClaim.holds_of_cond 8 Try.f8 rfl rfl rfl rfl rfl rfl rfl ⟨rfl, rfl, rfl, rfl, rfl⟩ rfl rfl rfl rfl rfl (by kernel_rfl) Try.func8 (by kernel_rfl)
    (of_decide_eq_true (by kernel_rfl)) (by unfold Func.isWrapper; first | (rw [if_pos (by decide +kernel)]; kernel_rfl) | (rw [if_neg (by decide +kernel)]; exact ⟨rfl, rfl⟩))
    (fun os started H enc _ F => by rw [OpenClaim.pre_eq_preRow]; exact lifted os started H enc F)
theorem proved : Rows.FnExactSealBoxesSaid := said
#print axioms proved
end Go.Proofs.Ytaodpiikpojikaa.fnExactSealBoxes
