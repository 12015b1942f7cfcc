/-
  laws.FnExactSealBox returns true at every argument, and leaves what came in as it was: the program's SealBox answers as the model's (data of more than 1048576 bytes are passed over by the law itself). Conditions: none.
-/
import Derived.Test.YtaodpiikpojikaaFr
import Derived.Stop.Joined
import Derived.Test.YtaodpiikpojikaaDg
import Derived.Test.YtaodpiikpojikaaSo
import Derived.Test.YtaodpiikpojikaaM1
import Derived.Test.YtaodpiikpojikaaFx
import Derived.Test.YtaodpiikpojikaaC8k
import Derived.Test.YtaodpiikpojikaaC8f
import Derived.Test.YtaodpiikpojikaaC8e
import Derived.Test.YtaodpiikpojikaaC8d
namespace Go.Proofs.Ytaodpiikpojikaa.fnExactSealBox
open Go.ChangeShapes Go.WideShapes Go.ChangeAt Go.RowKit
set_option linter.unusedVariables false

open S0 S9 Dm in
set_option maxHeartbeats 8000000 in
set_option maxRecDepth 100000 in
theorem walk (a0 : Int) (u0 : (Lit.int .i64 a0).wf = true) (a1 : Int) (u1 : (Lit.int .i64 a1).wf = true) (v2 : Value) (W : World) {H : Type} {enc : TypeId × Value → H} {b2 : Nat} {d2 : DataW H} {p2 : List MemPlace} (hv2 : Value.okWide Try.prog W .any b2 22 v2) (ht2 : DataW.Trod enc Try.prog W 0 (fun _ => true) true 22 v2 d2 p2) :
    Calls Try.prog 4 #[.int .i64 a0, .int .i64 a1, v2] W fun e w' => e = .returned (.bool true) ∧ Below W.heap.size W w' := by
  have hu0 := M1.i64_wf u0
  clear u0
  have hu1 := M1.i64_wf u1
  clear u1
  obtain ⟨A2, n2, c2, x2, rfl, hr2, hl2, hx2⟩ := So.bytes hv2 ht2
  obtain rfl : x2.length = n2 := by have := hr2.len1; rw [ints_len] at this; exact this
  have H2 := Lib.hid (show Rds W W.heap.size (Fx.bytesD x2) (.slice A2 x2.length c2) from flat_rds hr2)
  have HX2 := Lib.hid (fun x (h : x ∈ x2) => So.okI_u8 (hx2 x h))
  clear hv2 ht2 hr2 hx2
  have hwx2 : wt (Fx.bytesD x2) ≤ x2.length := Nat.le_of_eq (Fx.wt_bytesD x2)
  have hcx2 : cnt (Fx.bytesD x2) ≤ 64 * wt (Fx.bytesD x2) := Fx.cnt_bytesD x2
  unfold maxLen at hl2
  have hlr := M10.seal_len a0 a1 x2
  have hwr0a := Nat.le_of_eq (Bs.wt_box (M10.sealB a0 a1 x2))
  have hcr0 := Nat.le_of_eq (Fx.cntT_box (M10.sealB a0 a1 x2))
  have HB : Below W.heap.size W W := Below.refl _ _
  by_cases big2 : 1048576 < x2.length
  · go_enter Try.func4, Try.ntmps4
    go_wp2
    go_ret
    exact ⟨rfl, Below.refl _ _⟩
  go_enter Try.func4, Try.ntmps4
  go_wp2_with fail
  (with_reducible refine (Fx.toByteS _ x2 _ (rds_on H2.out HB) (by omega)).mono ?_); rintro e w1 ⟨v_cw2, s_cw2, rfl, o_cw2, n_cw2, b1⟩
  replace HB := HB.trans (b1.mono HB.size)
  have i_cw2 := Fx.made_in o_cw2
  go_wp2_with fail
  (with_reducible refine (C8b.specSeal _ a0 a1 x2 v_cw2 (owns_rds _ _ _ o_cw2) HX2.out (by omega)).mono ?_); rintro e w2 ⟨v_w0, s_w0, rfl, o_w0, n_w0, b2⟩
  replace o_cw2 := owns_below o_cw2 b2
  replace HB := HB.trans (b2.mono HB.size)
  have i_w0 := Fx.madeL_in o_w0
  obtain ⟨A_w0, c_w0, rfl, -, -⟩ := Bx.Box.owns o_w0
  clear o_cw2 i_cw2 n_cw2
  go_wp2_with fail
  obtain ⟨w3, hw3⟩ : ∃ y, y = w2.alloc (.cells #[.int .i64 ((M10.sealB a0 a1 x2)).to, .int .i64 ((M10.sealB a0 a1 x2)).eph, .slice A_w0 ((M10.sealB a0 a1 x2)).data.length c_w0, .int .i64 ((M10.sealB a0 a1 x2)).mac] 26) := ⟨_, rfl⟩
  have o_w0v := Fx.var_owns w2 26 4 [.int .i64 ((M10.sealB a0 a1 x2)).to, .int .i64 ((M10.sealB a0 a1 x2)).eph, .slice A_w0 ((M10.sealB a0 a1 x2)).data.length c_w0, .int .i64 ((M10.sealB a0 a1 x2)).mac] rfl
  have b3 : Below w2.heap.size w2 w3 := hw3 ▸ (Below.refl _ _).alloc (Nat.le_refl _) _
  rw [← hw3] at o_w0v ⊢
  clear hw3
  replace o_w0 := ownsL_below o_w0 b3
  replace HB := HB.trans (b3.mono HB.size)
  have n_w0v : [w2.heap.size].Nodup := by simp
  have i_w0v := Fx.made_in o_w0v
  (with_reducible refine (Fx.toByteS _ x2 _ (rds_on H2.out HB) (by omega)).mono ?_); rintro e w4 ⟨v_y2, s_y2, rfl, o_y2, n_y2, b4⟩
  replace o_w0 := ownsL_below o_w0 b4
  replace o_w0v := owns_below o_w0v b4
  replace HB := HB.trans (b4.mono HB.size)
  have i_y2 := Fx.made_in o_y2
  go_wp2_with fail
  (with_reducible refine (C8i.implSeal _ a0 a1 x2 v_y2 (owns_rds _ _ _ o_y2) HX2.out (by omega) (by omega) (by omega)).mono ?_); rintro e w5 ⟨v_g0, s_g0, rfl, o_g0, n_g0, b5⟩
  replace o_w0 := ownsL_below o_w0 b5
  replace o_w0v := owns_below o_w0v b5
  replace o_y2 := owns_below o_y2 b5
  replace HB := HB.trans (b5.mono HB.size)
  have i_g0 := Fx.madeL_in o_g0
  obtain ⟨A_g0, c_g0, rfl, -, -⟩ := Bx.Box.owns o_g0
  have d_w0v_0 : w5.cell? ⟨w2.heap.size, 0, none⟩ = some (.int .i64 ((M10.sealB a0 a1 x2)).to) := Fx.var_load o_w0v n_w0v 0 _ rfl
  have d_w0v_1 : w5.cell? ⟨w2.heap.size, 1, none⟩ = some (.int .i64 ((M10.sealB a0 a1 x2)).eph) := Fx.var_load o_w0v n_w0v 1 _ rfl
  have d_w0v_2 : w5.cell? ⟨w2.heap.size, 2, none⟩ = some (.slice A_w0 ((M10.sealB a0 a1 x2)).data.length c_w0) := Fx.var_load o_w0v n_w0v 2 _ rfl
  have d_w0v_3 : w5.cell? ⟨w2.heap.size, 3, none⟩ = some (.int .i64 ((M10.sealB a0 a1 x2)).mac) := Fx.var_load o_w0v n_w0v 3 _ rfl
  have e_w0v : w2.heap.size < w5.heap.size := Fx.var_lt o_w0v
  go_wp2_with fail
  clear d_w0v_0 d_w0v_1 d_w0v_2 d_w0v_3 e_w0v
  obtain ⟨w6, hw6⟩ : ∃ y, y = w5.alloc (.cells #[.int .i64 ((M10.sealB a0 a1 x2)).to, .int .i64 ((M10.sealB a0 a1 x2)).eph, .slice A_g0 ((M10.sealB a0 a1 x2)).data.length c_g0, .int .i64 ((M10.sealB a0 a1 x2)).mac] 26) := ⟨_, rfl⟩
  have o_g0v := Fx.var_owns w5 26 4 [.int .i64 ((M10.sealB a0 a1 x2)).to, .int .i64 ((M10.sealB a0 a1 x2)).eph, .slice A_g0 ((M10.sealB a0 a1 x2)).data.length c_g0, .int .i64 ((M10.sealB a0 a1 x2)).mac] rfl
  have b6 : Below w5.heap.size w5 w6 := hw6 ▸ (Below.refl _ _).alloc (Nat.le_refl _) _
  rw [← hw6] at o_g0v ⊢
  clear hw6
  replace o_w0 := ownsL_below o_w0 b6
  replace o_w0v := owns_below o_w0v b6
  replace o_y2 := owns_below o_y2 b6
  replace o_g0 := ownsL_below o_g0 b6
  replace HB := HB.trans (b6.mono HB.size)
  have n_g0v : [w5.heap.size].Nodup := by simp
  have i_g0v := Fx.made_in o_g0v
  (with_reducible refine (Fx.eqBox _ (M10.sealB a0 a1 x2) _ _ (ownsL_rds _ _ _ o_g0) (ownsL_rds _ _ _ o_w0) (by omega)).mono ?_); rintro e w7 ⟨rfl, b7⟩
  replace o_w0 := ownsL_below o_w0 b7
  replace o_w0v := owns_below o_w0v b7
  replace o_y2 := owns_below o_y2 b7
  replace o_g0 := ownsL_below o_g0 b7
  replace o_g0v := owns_below o_g0v b7
  replace HB := HB.trans (b7.mono HB.size)
  go_wp2_with fail
  (with_reducible refine (Fx.toByteS _ x2 _ (rds_on H2.out HB) (by omega)).mono ?_); rintro e w8 ⟨v_t2, s_t2, rfl, o_t2, n_t2, b8⟩
  replace o_w0 := ownsL_below o_w0 b8
  replace o_w0v := owns_below o_w0v b8
  replace o_y2 := owns_below o_y2 b8
  replace o_g0 := ownsL_below o_g0 b8
  replace o_g0v := owns_below o_g0v b8
  replace HB := HB.trans (b8.mono HB.size)
  have i_t2 := Fx.made_in o_t2
  go_wp2_with fail
  (with_reducible refine (Fx.eqByteS _ x2 _ _ (owns_rds _ _ _ o_y2) (owns_rds _ _ _ o_t2) (by omega)).mono ?_); rintro e w9 ⟨rfl, b9⟩
  replace o_w0 := ownsL_below o_w0 b9
  replace o_w0v := owns_below o_w0v b9
  replace o_y2 := owns_below o_y2 b9
  replace o_g0 := ownsL_below o_g0 b9
  replace o_g0v := owns_below o_g0v b9
  replace o_t2 := owns_below o_t2 b9
  replace HB := HB.trans (b9.mono HB.size)
  clear o_t2 i_t2 n_t2
  have z1 := b1.size
  have z2 := b2.size
  have z3 := b3.size
  have z4 := b4.size
  have z5 := b5.size
  have z6 := b6.size
  have z7 := b7.size
  have z8 := b8.size
  have z9 := b9.size
  go_wp2_with fail
  (with_reducible refine (Fx.markByteS _ _ x2 _ _ _ o_y2 n_y2 (by omega) (by omega) (by omega)).mono ?_); rintro e w10 ⟨rfl, oz, t10⟩
  have z10 := t10.2.2.2.1
  replace o_w0 := ownsL_turned o_w0 t10 (fun b hb hb2 => by have h1 := i_w0 b hb; have h2 := i_y2 b hb2; omega)
  replace o_w0v := owns_turned o_w0v t10 (fun b hb hb2 => by have h1 := i_w0v b hb; have h2 := i_y2 b hb2; omega)
  replace o_g0 := ownsL_turned o_g0 t10 (fun b hb hb2 => by have h1 := i_g0 b hb; have h2 := i_y2 b hb2; omega)
  replace o_g0v := owns_turned o_g0v t10 (fun b hb hb2 => by have h1 := i_g0v b hb; have h2 := i_y2 b hb2; omega)
  replace HB := below_turned HB t10 (fun b hb => by have h1 := i_y2 b hb; omega)
  replace o_y2 := oz
  clear oz
  have d_g0v_0 : w10.cell? ⟨w5.heap.size, 0, none⟩ = some (.int .i64 ((M10.sealB a0 a1 x2)).to) := Fx.var_load o_g0v n_g0v 0 _ rfl
  have d_g0v_1 : w10.cell? ⟨w5.heap.size, 1, none⟩ = some (.int .i64 ((M10.sealB a0 a1 x2)).eph) := Fx.var_load o_g0v n_g0v 1 _ rfl
  have d_g0v_2 : w10.cell? ⟨w5.heap.size, 2, none⟩ = some (.slice A_g0 ((M10.sealB a0 a1 x2)).data.length c_g0) := Fx.var_load o_g0v n_g0v 2 _ rfl
  have d_g0v_3 : w10.cell? ⟨w5.heap.size, 3, none⟩ = some (.int .i64 ((M10.sealB a0 a1 x2)).mac) := Fx.var_load o_g0v n_g0v 3 _ rfl
  have e_g0v : w5.heap.size < w10.heap.size := Fx.var_lt o_g0v
  have d_w0v_0 : w10.cell? ⟨w2.heap.size, 0, none⟩ = some (.int .i64 ((M10.sealB a0 a1 x2)).to) := Fx.var_load o_w0v n_w0v 0 _ rfl
  have d_w0v_1 : w10.cell? ⟨w2.heap.size, 1, none⟩ = some (.int .i64 ((M10.sealB a0 a1 x2)).eph) := Fx.var_load o_w0v n_w0v 1 _ rfl
  have d_w0v_2 : w10.cell? ⟨w2.heap.size, 2, none⟩ = some (.slice A_w0 ((M10.sealB a0 a1 x2)).data.length c_w0) := Fx.var_load o_w0v n_w0v 2 _ rfl
  have d_w0v_3 : w10.cell? ⟨w2.heap.size, 3, none⟩ = some (.int .i64 ((M10.sealB a0 a1 x2)).mac) := Fx.var_load o_w0v n_w0v 3 _ rfl
  have e_w0v : w2.heap.size < w10.heap.size := Fx.var_lt o_w0v
  go_wp2_with fail
  (with_reducible refine (Fx.eqBox _ (M10.sealB a0 a1 x2) _ _ (ownsL_rds _ _ _ o_g0) (ownsL_rds _ _ _ o_w0) (by omega)).mono ?_); rintro e w11 ⟨rfl, b11⟩
  clear d_g0v_0 d_g0v_1 d_g0v_2 d_g0v_3 e_g0v d_w0v_0 d_w0v_1 d_w0v_2 d_w0v_3 e_w0v
  replace o_w0 := ownsL_below o_w0 b11
  replace o_w0v := owns_below o_w0v b11
  replace o_y2 := owns_below o_y2 b11
  replace o_g0 := ownsL_below o_g0 b11
  replace o_g0v := owns_below o_g0v b11
  replace HB := HB.trans (b11.mono HB.size)
  clear o_y2 i_y2 n_y2
  have d_g0v_0 : w11.cell? ⟨w5.heap.size, 0, none⟩ = some (.int .i64 ((M10.sealB a0 a1 x2)).to) := Fx.var_load o_g0v n_g0v 0 _ rfl
  have d_g0v_1 : w11.cell? ⟨w5.heap.size, 1, none⟩ = some (.int .i64 ((M10.sealB a0 a1 x2)).eph) := Fx.var_load o_g0v n_g0v 1 _ rfl
  have d_g0v_2 : w11.cell? ⟨w5.heap.size, 2, none⟩ = some (.slice A_g0 ((M10.sealB a0 a1 x2)).data.length c_g0) := Fx.var_load o_g0v n_g0v 2 _ rfl
  have d_g0v_3 : w11.cell? ⟨w5.heap.size, 3, none⟩ = some (.int .i64 ((M10.sealB a0 a1 x2)).mac) := Fx.var_load o_g0v n_g0v 3 _ rfl
  have e_g0v : w5.heap.size < w11.heap.size := Fx.var_lt o_g0v
  go_wp2_with fail
  (with_reducible refine (Fx.markBox _ _ (M10.sealB a0 a1 x2) _ _ _ o_g0 n_g0 (by omega) (by omega) (by omega)).mono ?_); rintro e w12 ⟨rfl, oz, t12⟩
  clear d_g0v_0 d_g0v_1 d_g0v_2 d_g0v_3 e_g0v
  have z12 := t12.2.2.2.1
  replace o_w0 := ownsL_turned o_w0 t12 (fun b hb hb2 => by have h1 := i_w0 b hb; have h2 := i_g0 b hb2; omega)
  replace o_w0v := owns_turned o_w0v t12 (fun b hb hb2 => by have h1 := i_w0v b hb; have h2 := i_g0 b hb2; omega)
  replace o_g0v := owns_turned o_g0v t12 (fun b hb hb2 => by have h1 := i_g0v b hb; have h2 := i_g0 b hb2; omega)
  replace HB := below_turned HB t12 (fun b hb => by have h1 := i_g0 b hb; omega)
  replace o_g0 := oz
  clear oz
  have d_g0v_0 : w12.cell? ⟨w5.heap.size, 0, none⟩ = some (.int .i64 ((M10.sealB a0 a1 x2)).to) := Fx.var_load o_g0v n_g0v 0 _ rfl
  have d_g0v_1 : w12.cell? ⟨w5.heap.size, 1, none⟩ = some (.int .i64 ((M10.sealB a0 a1 x2)).eph) := Fx.var_load o_g0v n_g0v 1 _ rfl
  have d_g0v_2 : w12.cell? ⟨w5.heap.size, 2, none⟩ = some (.slice A_g0 ((M10.sealB a0 a1 x2)).data.length c_g0) := Fx.var_load o_g0v n_g0v 2 _ rfl
  have d_g0v_3 : w12.cell? ⟨w5.heap.size, 3, none⟩ = some (.int .i64 ((M10.sealB a0 a1 x2)).mac) := Fx.var_load o_g0v n_g0v 3 _ rfl
  have e_g0v : w5.heap.size < w12.heap.size := Fx.var_lt o_g0v
  go_wp2_with fail
  (with_reducible refine (Fx.heldBox _ (M10.sealB a0 a1 x2) _ _ (ownsL_rds _ _ _ o_g0) (by omega) (by omega) (by omega)).mono ?_); rintro e w13 ⟨rfl, b13⟩
  clear d_g0v_0 d_g0v_1 d_g0v_2 d_g0v_3 e_g0v
  replace o_w0 := ownsL_below o_w0 b13
  replace o_w0v := owns_below o_w0v b13
  replace o_g0 := ownsL_below o_g0 b13
  replace o_g0v := owns_below o_g0v b13
  replace HB := HB.trans (b13.mono HB.size)
  go_wp2_with fail
  (with_reducible refine (Fx.toByteS _ x2 _ (rds_on H2.out HB) (by omega)).mono ?_); rintro e w14 ⟨v_ch2, s_ch2, rfl, o_ch2, n_ch2, b14⟩
  replace o_w0 := ownsL_below o_w0 b14
  replace o_w0v := owns_below o_w0v b14
  replace o_g0 := ownsL_below o_g0 b14
  replace o_g0v := owns_below o_g0v b14
  replace HB := HB.trans (b14.mono HB.size)
  have i_ch2 := Fx.made_in o_ch2
  go_wp2_with fail
  (with_reducible refine (C8i.implSeal _ a0 a1 x2 v_ch2 (owns_rds _ _ _ o_ch2) HX2.out (by omega) (by omega) (by omega)).mono ?_); rintro e w15 ⟨v_h0, s_h0, rfl, o_h0, n_h0, b15⟩
  replace o_w0 := ownsL_below o_w0 b15
  replace o_w0v := owns_below o_w0v b15
  replace o_g0 := ownsL_below o_g0 b15
  replace o_g0v := owns_below o_g0v b15
  replace o_ch2 := owns_below o_ch2 b15
  replace HB := HB.trans (b15.mono HB.size)
  have i_h0 := Fx.madeL_in o_h0
  obtain ⟨A_h0, c_h0, rfl, -, -⟩ := Bx.Box.owns o_h0
  clear o_ch2 i_ch2 n_ch2
  have d_w0v_0 : w15.cell? ⟨w2.heap.size, 0, none⟩ = some (.int .i64 ((M10.sealB a0 a1 x2)).to) := Fx.var_load o_w0v n_w0v 0 _ rfl
  have d_w0v_1 : w15.cell? ⟨w2.heap.size, 1, none⟩ = some (.int .i64 ((M10.sealB a0 a1 x2)).eph) := Fx.var_load o_w0v n_w0v 1 _ rfl
  have d_w0v_2 : w15.cell? ⟨w2.heap.size, 2, none⟩ = some (.slice A_w0 ((M10.sealB a0 a1 x2)).data.length c_w0) := Fx.var_load o_w0v n_w0v 2 _ rfl
  have d_w0v_3 : w15.cell? ⟨w2.heap.size, 3, none⟩ = some (.int .i64 ((M10.sealB a0 a1 x2)).mac) := Fx.var_load o_w0v n_w0v 3 _ rfl
  have e_w0v : w2.heap.size < w15.heap.size := Fx.var_lt o_w0v
  have d_g0v_0 : w15.cell? ⟨w5.heap.size, 0, none⟩ = some (.int .i64 ((M10.sealB a0 a1 x2)).to) := Fx.var_load o_g0v n_g0v 0 _ rfl
  have d_g0v_1 : w15.cell? ⟨w5.heap.size, 1, none⟩ = some (.int .i64 ((M10.sealB a0 a1 x2)).eph) := Fx.var_load o_g0v n_g0v 1 _ rfl
  have d_g0v_2 : w15.cell? ⟨w5.heap.size, 2, none⟩ = some (.slice A_g0 ((M10.sealB a0 a1 x2)).data.length c_g0) := Fx.var_load o_g0v n_g0v 2 _ rfl
  have d_g0v_3 : w15.cell? ⟨w5.heap.size, 3, none⟩ = some (.int .i64 ((M10.sealB a0 a1 x2)).mac) := Fx.var_load o_g0v n_g0v 3 _ rfl
  have e_g0v : w5.heap.size < w15.heap.size := Fx.var_lt o_g0v
  go_wp2_with fail
  clear d_w0v_0 d_w0v_1 d_w0v_2 d_w0v_3 e_w0v d_g0v_0 d_g0v_1 d_g0v_2 d_g0v_3 e_g0v
  obtain ⟨w16, hw16⟩ : ∃ y, y = w15.alloc (.cells #[.int .i64 ((M10.sealB a0 a1 x2)).to, .int .i64 ((M10.sealB a0 a1 x2)).eph, .slice A_h0 ((M10.sealB a0 a1 x2)).data.length c_h0, .int .i64 ((M10.sealB a0 a1 x2)).mac] 26) := ⟨_, rfl⟩
  have o_h0v := Fx.var_owns w15 26 4 [.int .i64 ((M10.sealB a0 a1 x2)).to, .int .i64 ((M10.sealB a0 a1 x2)).eph, .slice A_h0 ((M10.sealB a0 a1 x2)).data.length c_h0, .int .i64 ((M10.sealB a0 a1 x2)).mac] rfl
  have b16 : Below w15.heap.size w15 w16 := hw16 ▸ (Below.refl _ _).alloc (Nat.le_refl _) _
  rw [← hw16] at o_h0v ⊢
  clear hw16
  replace o_w0 := ownsL_below o_w0 b16
  replace o_w0v := owns_below o_w0v b16
  replace o_g0 := ownsL_below o_g0 b16
  replace o_g0v := owns_below o_g0v b16
  replace o_h0 := ownsL_below o_h0 b16
  replace HB := HB.trans (b16.mono HB.size)
  have n_h0v : [w15.heap.size].Nodup := by simp
  have i_h0v := Fx.made_in o_h0v
  (with_reducible refine (Fx.eqBox _ (M10.sealB a0 a1 x2) _ _ (ownsL_rds _ _ _ o_h0) (ownsL_rds _ _ _ o_w0) (by omega)).mono ?_); rintro e w17 ⟨rfl, b17⟩
  replace o_w0 := ownsL_below o_w0 b17
  replace o_w0v := owns_below o_w0v b17
  replace o_g0 := ownsL_below o_g0 b17
  replace o_g0v := owns_below o_g0v b17
  replace o_h0 := ownsL_below o_h0 b17
  replace o_h0v := owns_below o_h0v b17
  replace HB := HB.trans (b17.mono HB.size)
  have d_g0v_0 : w17.cell? ⟨w5.heap.size, 0, none⟩ = some (.int .i64 ((M10.sealB a0 a1 x2)).to) := Fx.var_load o_g0v n_g0v 0 _ rfl
  have d_g0v_1 : w17.cell? ⟨w5.heap.size, 1, none⟩ = some (.int .i64 ((M10.sealB a0 a1 x2)).eph) := Fx.var_load o_g0v n_g0v 1 _ rfl
  have d_g0v_2 : w17.cell? ⟨w5.heap.size, 2, none⟩ = some (.slice A_g0 ((M10.sealB a0 a1 x2)).data.length c_g0) := Fx.var_load o_g0v n_g0v 2 _ rfl
  have d_g0v_3 : w17.cell? ⟨w5.heap.size, 3, none⟩ = some (.int .i64 ((M10.sealB a0 a1 x2)).mac) := Fx.var_load o_g0v n_g0v 3 _ rfl
  have e_g0v : w5.heap.size < w17.heap.size := Fx.var_lt o_g0v
  go_wp2_with fail
  (with_reducible refine (Fx.heldBox _ (M10.sealB a0 a1 x2) _ _ (ownsL_rds _ _ _ o_g0) (by omega) (by omega) (by omega)).mono ?_); rintro e w18 ⟨rfl, b18⟩
  clear d_g0v_0 d_g0v_1 d_g0v_2 d_g0v_3 e_g0v
  replace o_w0 := ownsL_below o_w0 b18
  replace o_w0v := owns_below o_w0v b18
  replace o_g0 := ownsL_below o_g0 b18
  replace o_g0v := owns_below o_g0v b18
  replace o_h0 := ownsL_below o_h0 b18
  replace o_h0v := owns_below o_h0v b18
  replace HB := HB.trans (b18.mono HB.size)
  go_wp2
  go_ret
  exact ⟨rfl, HB⟩

set_option maxRecDepth 100000 in
theorem contract (H : Type) (enc : TypeId × Value → H) (W : World) (base : Nat) (args : Array Value) (ds gs : List (DataW H)) (before : List MemPlace)
    (hval : ∀ (j : Nat) t v, Try.f4.params[j]? = some t → args[j]? = some v → Value.okWide Try.prog W .any base t v)
    (hW : DataW.Whole enc Try.prog Try.f4.params.toList Rows.fnExactSealBoxSpec.vars false W args.toList ds gs before) :
    Calls Try.prog 4 args W fun e W' => ∃ v, e = .returned v ∧ Rows.fnExactSealBoxSpec.post enc Try.prog Try.f4 false true false false W args v W' := by
  have hW' := hW
  obtain ⟨p, q, hA0, hV, rfl, hfz, hnd⟩ := hW
  have hA : DataW.TrodAll enc Try.prog W 0 (fun _ => true) true Try.f4.params.toList args.toList ds p := hA0
  rw [Try.params4] at hA hval
  obtain ⟨v0, vs0, d0, ds0, p0, q0, hargs, rfl, rfl, h0, r0⟩ := trodAll_cons hA
  obtain ⟨v1, vs1, d1, ds1, p1, q1, rfl, rfl, rfl, h1, r1⟩ := trodAll_cons r0
  obtain ⟨v2, vs2, d2, ds2, p2, q2, rfl, rfl, rfl, h2, r2⟩ := trodAll_cons r1
  obtain ⟨rfl, rfl, rfl⟩ := trodAll_nil r2
  obtain rfl : args = #[v0, v1, v2] := by cases args; simp_all
  obtain ⟨rfl, rfl⟩ := trodVars_none hV
  obtain ⟨a0, rfl, rfl, rfl, w0⟩ := open_int Try.underlying3 (hval 0 3 v0 rfl rfl) h0
  obtain ⟨a1, rfl, rfl, rfl, w1⟩ := open_int Try.underlying3 (hval 1 3 v1 rfl rfl) h1
  clear hA0
  refine Fr.closeLaw rfl (by kernel_rfl) (by rw [Try.params4]; decide) hW' rfl ?_
  exact walk a0 w0 a1 w1 v2 W (hval 2 22 v2 rfl rfl) h2

set_option maxRecDepth 100000 in
theorem reads (os : Os) {H : Type} (enc : TypeId × Value → H) : ∃ places, DataW.whole enc Try.prog ((World.holding Try.prog os ⟨#[], #[], []⟩).forCall (fun _ _ => 0) ⟨#[], #[.int .i64 0, .int .i64 0, .slice none 0 0], []⟩).memory Try.f4.params.toList Rows.fnExactSealBoxSpec.vars false (#[.int .i64 0, .int .i64 0, .slice none 0 0] : Array Value).toList 8 = some ([.lit (.int .i64 0), .lit (.int .i64 0), .nil], [], places) :=
  ⟨[], by kernel_rfl⟩
set_option maxRecDepth 100000 in
theorem lifted (os : Os) (started : os.Started) (H : Type) (enc : TypeId × Value → H) (F : Stop.Interp) :
    ReturnsInHanded {} Try.checked os 4 .any ((OpenSpec.ofChange Rows.fnExactSealBoxSpec).preRow enc Try.prog Try.f4 Rows.fnExactSealBoxRow.domain false Rows.fnExactSealBoxRow.laid) (((OpenSpec.ofChange Rows.fnExactSealBoxSpec).at F).post enc Try.prog Try.f4 false true false false) := by
  obtain ⟨places, hx⟩ := reads os enc
  refine returnsInHanded_of_row (C := Try.checked) (s := OpenSpec.ofChange Rows.fnExactSealBoxSpec) Fr.own started (by kernel_rfl) Try.func4
    (witness_row_atRef (enc := enc) (C := Try.checked) false (World.holding Try.prog os ⟨#[], #[], []⟩) #[.int .i64 0, .int .i64 0, .slice none 0 0] rfl (by kernel_rfl) (by kernel_rfl) (by kernel_rfl)
      (OpenSpec.preRow_of_cond 8 hx (by kernel_rfl) (fun k hk => by cases hk) (by kernel_rfl) (laidMetH_nil _ _))) ?_
  intro W base args ds gs before hval hW _ hcond _ hL _ _
  exact contract H enc W base args ds gs before hval hW
set_option maxRecDepth 100000 in
theorem said : Rows.FnExactSealBoxSaid :=
  OpenClaim.holds_of_cond 4 Try.f4 rfl rfl rfl rfl rfl rfl rfl ⟨rfl, rfl, rfl, rfl, rfl⟩ rfl rfl rfl rfl rfl (by kernel_rfl) Try.func4 (by kernel_rfl)
    (of_decide_eq_true (by kernel_rfl)) (by unfold Func.isWrapper; first | (rw [if_pos (by decide +kernel)]; kernel_rfl) | (rw [if_neg (by decide +kernel)]; exact ⟨rfl, rfl⟩))
    (fun os started H enc _ F => by rw [OpenClaim.pre_eq_preRow]; exact lifted os started H enc F)
theorem proved : Rows.FnExactSealBoxSaid := said
#print axioms proved
end Go.Proofs.Ytaodpiikpojikaa.fnExactSealBox
