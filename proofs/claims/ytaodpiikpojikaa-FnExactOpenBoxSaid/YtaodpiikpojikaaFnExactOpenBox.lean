/-
  laws.FnExactOpenBox returns true at every argument, and leaves what came in as it was: the program's OpenBox answers as the model's (boxes of more than 1048576 bytes are passed over by the law itself). Conditions: none.
-/
import Derived.Test.YtaodpiikpojikaaFr
import Derived.Stop.Joined
import Derived.Test.YtaodpiikpojikaaDg
import Derived.Test.YtaodpiikpojikaaSo
import Derived.Test.YtaodpiikpojikaaM1
import Derived.Test.YtaodpiikpojikaaFx
import Derived.Test.YtaodpiikpojikaaC8k
import Derived.Test.YtaodpiikpojikaaC8f
import Derived.Test.YtaodpiikpojikaaC8e
import Derived.Test.YtaodpiikpojikaaC8d
namespace Go.Proofs.Ytaodpiikpojikaa.fnExactOpenBox
open Go.ChangeShapes Go.WideShapes Go.ChangeAt Go.RowKit
set_option linter.unusedVariables false

open S0 S9 Dm in
set_option maxHeartbeats 8000000 in
set_option maxRecDepth 100000 in
theorem walk (a0 : Int) (u0 : (Lit.int .i64 a0).wf = true) (v1 : Value) (W : World) {H : Type} {enc : TypeId × Value → H} {b1 : Nat} {d1 : DataW H} {p1 : List MemPlace} (hv1 : Value.okWide Try.prog W .any b1 44 v1) (ht1 : DataW.Trod enc Try.prog W 0 (fun _ => true) true 44 v1 d1 p1) :
    Calls Try.prog 7 #[.int .i64 a0, v1] W fun e w' => e = .returned (.bool true) ∧ Below W.heap.size W w' := by
  have hu0 := M1.i64_wf u0
  clear u0
  obtain ⟨vs1, x1, rfl, hr1, ho1⟩ := Bx.box hv1 ht1
  clear ht1 hv1
  obtain ⟨A_p1, c_p1, rfl, -⟩ := Bx.Box.rds hr1
  have H1 := Lib.hid hr1
  clear hr1
  have hwr0 := Nat.le_of_eq (Fx.wt_bytesD (M10.openB a0 x1))
  have hcr0 := Fx.cnt_bytesD (M10.openB a0 x1)
  have hlr := M10.open_len a0 x1
  have hcx1 := Nat.le_of_eq (Fx.cntT_box x1)
  have hwx1 := Nat.le_of_eq (Bs.wt_box x1)
  have hwy1 := Nat.le_of_eq (Bs.wt_box x1).symm
  have HB : Below W.heap.size W W := Below.refl _ _
  obtain ⟨q0, hq0⟩ : ∃ x, x = W.alloc (.cells #[.int .i64 (x1).to, .int .i64 (x1).eph, .slice A_p1 (x1).data.length c_p1, .int .i64 (x1).mac] 44) := ⟨_, rfl⟩
  have o_p1 := Fx.var_owns W 44 4 [.int .i64 (x1).to, .int .i64 (x1).eph, .slice A_p1 (x1).data.length c_p1, .int .i64 (x1).mac] rfl
  have n_p1 : [W.heap.size].Nodup := by simp
  have bq0 : Below W.heap.size W q0 := hq0 ▸ (Below.refl _ _).alloc (Nat.le_refl _) _
  rw [← hq0] at o_p1
  have sq0 : q0.heap.size = W.heap.size + 1 := by rw [hq0]; simp
  replace HB := HB.trans (bq0.mono HB.size)
  have i_p1 := Fx.made_in o_p1
  go_enter Try.func7, Try.ntmps7
  go_wp2_with fail
  rw [← hq0]
  (with_reducible refine (Fx.szBox _ x1 _ (1048576) (rdsL_on H1.out HB) ho1 (by omega) (by omega)).mono ?_); rintro e w1 ⟨rfl, b1⟩
  replace o_p1 := owns_below o_p1 b1
  replace HB := HB.trans (b1.mono HB.size)
  by_cases big1 : (wtL (Bx.Box.dcs x1) : Int) ≤ 1048576
  rotate_left
  · rw [if_neg big1]
    go_wp2
    go_ret
    exact ⟨rfl, HB⟩
  rw [if_pos big1]
  have d_p1_0 : w1.cell? ⟨W.heap.size, 0, none⟩ = some (.int .i64 (x1).to) := Fx.var_load o_p1 n_p1 0 _ rfl
  have d_p1_1 : w1.cell? ⟨W.heap.size, 1, none⟩ = some (.int .i64 (x1).eph) := Fx.var_load o_p1 n_p1 1 _ rfl
  have d_p1_2 : w1.cell? ⟨W.heap.size, 2, none⟩ = some (.slice A_p1 (x1).data.length c_p1) := Fx.var_load o_p1 n_p1 2 _ rfl
  have d_p1_3 : w1.cell? ⟨W.heap.size, 3, none⟩ = some (.int .i64 (x1).mac) := Fx.var_load o_p1 n_p1 3 _ rfl
  have e_p1 : W.heap.size < w1.heap.size := Fx.var_lt o_p1
  go_wp2_with fail
  (with_reducible refine (Fx.toBox _ x1 _ (rdsL_on H1.out HB) (by omega)).mono ?_); rintro e w2 ⟨v_cw1, s_cw1, rfl, o_cw1, n_cw1, b2⟩
  clear d_p1_0 d_p1_1 d_p1_2 d_p1_3 e_p1
  replace o_p1 := owns_below o_p1 b2
  replace HB := HB.trans (b2.mono HB.size)
  have i_cw1 := Fx.madeL_in o_cw1
  obtain ⟨A_cw1, c_cw1, rfl, -, -⟩ := Bx.Box.owns o_cw1
  go_wp2_with fail
  (with_reducible refine (C8c.specOpen _ a0 x1 _ (ownsL_rds _ _ _ o_cw1) ho1 (by omega)).mono ?_); rintro e w3 ⟨v_w0, s_w0, rfl, o_w0, n_w0, b3⟩
  replace o_p1 := owns_below o_p1 b3
  replace o_cw1 := ownsL_below o_cw1 b3
  replace HB := HB.trans (b3.mono HB.size)
  have i_w0 := Fx.made_in o_w0
  clear o_cw1 i_cw1 n_cw1
  have d_p1_0 : w3.cell? ⟨W.heap.size, 0, none⟩ = some (.int .i64 (x1).to) := Fx.var_load o_p1 n_p1 0 _ rfl
  have d_p1_1 : w3.cell? ⟨W.heap.size, 1, none⟩ = some (.int .i64 (x1).eph) := Fx.var_load o_p1 n_p1 1 _ rfl
  have d_p1_2 : w3.cell? ⟨W.heap.size, 2, none⟩ = some (.slice A_p1 (x1).data.length c_p1) := Fx.var_load o_p1 n_p1 2 _ rfl
  have d_p1_3 : w3.cell? ⟨W.heap.size, 3, none⟩ = some (.int .i64 (x1).mac) := Fx.var_load o_p1 n_p1 3 _ rfl
  have e_p1 : W.heap.size < w3.heap.size := Fx.var_lt o_p1
  go_wp2_with fail
  (with_reducible refine (Fx.toBox _ x1 _ (rdsL_on H1.out HB) (by omega)).mono ?_); rintro e w4 ⟨v_y1, s_y1, rfl, o_y1, n_y1, b4⟩
  clear d_p1_0 d_p1_1 d_p1_2 d_p1_3 e_p1
  replace o_p1 := owns_below o_p1 b4
  replace o_w0 := owns_below o_w0 b4
  replace HB := HB.trans (b4.mono HB.size)
  have i_y1 := Fx.madeL_in o_y1
  obtain ⟨A_y1, c_y1, rfl, -, -⟩ := Bx.Box.owns o_y1
  have d_p1_0 : w4.cell? ⟨W.heap.size, 0, none⟩ = some (.int .i64 (x1).to) := Fx.var_load o_p1 n_p1 0 _ rfl
  have d_p1_1 : w4.cell? ⟨W.heap.size, 1, none⟩ = some (.int .i64 (x1).eph) := Fx.var_load o_p1 n_p1 1 _ rfl
  have d_p1_2 : w4.cell? ⟨W.heap.size, 2, none⟩ = some (.slice A_p1 (x1).data.length c_p1) := Fx.var_load o_p1 n_p1 2 _ rfl
  have d_p1_3 : w4.cell? ⟨W.heap.size, 3, none⟩ = some (.int .i64 (x1).mac) := Fx.var_load o_p1 n_p1 3 _ rfl
  have e_p1 : W.heap.size < w4.heap.size := Fx.var_lt o_p1
  go_wp2_with fail
  clear d_p1_0 d_p1_1 d_p1_2 d_p1_3 e_p1
  obtain ⟨w5, hw5⟩ : ∃ y, y = w4.alloc (.cells #[.int .i64 (x1).to, .int .i64 (x1).eph, .slice A_y1 (x1).data.length c_y1, .int .i64 (x1).mac] 26) := ⟨_, rfl⟩
  have o_y1v := Fx.var_owns w4 26 4 [.int .i64 (x1).to, .int .i64 (x1).eph, .slice A_y1 (x1).data.length c_y1, .int .i64 (x1).mac] rfl
  have b5 : Below w4.heap.size w4 w5 := hw5 ▸ (Below.refl _ _).alloc (Nat.le_refl _) _
  rw [← hw5] at o_y1v ⊢
  clear hw5
  replace o_p1 := owns_below o_p1 b5
  replace o_w0 := owns_below o_w0 b5
  replace o_y1 := ownsL_below o_y1 b5
  replace HB := HB.trans (b5.mono HB.size)
  have n_y1v : [w4.heap.size].Nodup := by simp
  have i_y1v := Fx.made_in o_y1v
  (with_reducible refine (C8j.implOpen _ a0 x1 _ (ownsL_rds _ _ _ o_y1) ho1 (by omega)).mono ?_); rintro e w6 ⟨v_g0, s_g0, rfl, o_g0, n_g0, b6⟩
  replace o_p1 := owns_below o_p1 b6
  replace o_w0 := owns_below o_w0 b6
  replace o_y1 := ownsL_below o_y1 b6
  replace o_y1v := owns_below o_y1v b6
  replace HB := HB.trans (b6.mono HB.size)
  have i_g0 := Fx.made_in o_g0
  go_wp2_with fail
  (with_reducible refine (Fx.eqByteS _ (M10.openB a0 x1) _ _ (owns_rds _ _ _ o_g0) (owns_rds _ _ _ o_w0) (by omega)).mono ?_); rintro e w7 ⟨rfl, b7⟩
  replace o_p1 := owns_below o_p1 b7
  replace o_w0 := owns_below o_w0 b7
  replace o_y1 := ownsL_below o_y1 b7
  replace o_y1v := owns_below o_y1v b7
  replace o_g0 := owns_below o_g0 b7
  replace HB := HB.trans (b7.mono HB.size)
  have d7_y1v_0 : w7.cell? ⟨w4.heap.size, 0, none⟩ = some (.int .i64 (x1).to) := Fx.var_load o_y1v n_y1v 0 _ rfl
  have d7_y1v_1 : w7.cell? ⟨w4.heap.size, 1, none⟩ = some (.int .i64 (x1).eph) := Fx.var_load o_y1v n_y1v 1 _ rfl
  have d7_y1v_2 : w7.cell? ⟨w4.heap.size, 2, none⟩ = some (.slice A_y1 (x1).data.length c_y1) := Fx.var_load o_y1v n_y1v 2 _ rfl
  have d7_y1v_3 : w7.cell? ⟨w4.heap.size, 3, none⟩ = some (.int .i64 (x1).mac) := Fx.var_load o_y1v n_y1v 3 _ rfl
  have d7_p1_0 : w7.cell? ⟨W.heap.size, 0, none⟩ = some (.int .i64 (x1).to) := Fx.var_load o_p1 n_p1 0 _ rfl
  have d7_p1_1 : w7.cell? ⟨W.heap.size, 1, none⟩ = some (.int .i64 (x1).eph) := Fx.var_load o_p1 n_p1 1 _ rfl
  have d7_p1_2 : w7.cell? ⟨W.heap.size, 2, none⟩ = some (.slice A_p1 (x1).data.length c_p1) := Fx.var_load o_p1 n_p1 2 _ rfl
  have d7_p1_3 : w7.cell? ⟨W.heap.size, 3, none⟩ = some (.int .i64 (x1).mac) := Fx.var_load o_p1 n_p1 3 _ rfl
  have e7_y1v : w4.heap.size < w7.heap.size := Fx.var_lt o_y1v
  have e7_p1 : W.heap.size < w7.heap.size := Fx.var_lt o_p1
  go_wp2_with fail
  go_region_held3 (fun wx => wx.cell? ⟨w4.heap.size, 0, none⟩ = some (.int .i64 (x1).to) ∧ wx.cell? ⟨w4.heap.size, 1, none⟩ = some (.int .i64 (x1).eph) ∧ wx.cell? ⟨w4.heap.size, 2, none⟩ = some (.slice A_y1 (x1).data.length c_y1) ∧ wx.cell? ⟨w4.heap.size, 3, none⟩ = some (.int .i64 (x1).mac) ∧ wx.cell? ⟨W.heap.size, 0, none⟩ = some (.int .i64 (x1).to) ∧ wx.cell? ⟨W.heap.size, 1, none⟩ = some (.int .i64 (x1).eph) ∧ wx.cell? ⟨W.heap.size, 2, none⟩ = some (.slice A_p1 (x1).data.length c_p1) ∧ wx.cell? ⟨W.heap.size, 3, none⟩ = some (.int .i64 (x1).mac)) (first | exact ⟨d7_y1v_0, d7_y1v_1, d7_y1v_2, d7_y1v_3, d7_p1_0, d7_p1_1, d7_p1_2, d7_p1_3⟩ | exact ⟨d8_y1v_0, d8_y1v_1, d8_y1v_2, d8_y1v_3, d8_p1_0, d8_p1_1, d8_p1_2, d8_p1_3⟩ | exact ⟨d9_y1v_0, d9_y1v_1, d9_y1v_2, d9_y1v_3, d9_p1_0, d9_p1_1, d9_p1_2, d9_p1_3⟩) (first | (go_at_call 31; (with_reducible refine (Fx.toBox _ x1 _ (rdsL_on H1.out HB.drew) (by omega)).mono ?_); rintro e w8 ⟨v_t1, s_t1, rfl, o_t1, n_t1, b8⟩; replace b8 := (drewN_below w7 1 _).trans b8; replace o_p1 := owns_below o_p1 b8; replace o_w0 := owns_below o_w0 b8; replace o_y1 := ownsL_below o_y1 b8; replace o_y1v := owns_below o_y1v b8; replace o_g0 := owns_below o_g0 b8; replace HB := HB.trans (b8.mono HB.size); have i_t1 := Fx.madeL_in o_t1; obtain ⟨A_t1, c_t1, rfl, -, -⟩ := Bx.Box.owns o_t1; have d8_y1v_0 : w8.cell? ⟨w4.heap.size, 0, none⟩ = some (.int .i64 (x1).to) := Fx.var_load o_y1v n_y1v 0 _ rfl; have d8_y1v_1 : w8.cell? ⟨w4.heap.size, 1, none⟩ = some (.int .i64 (x1).eph) := Fx.var_load o_y1v n_y1v 1 _ rfl; have d8_y1v_2 : w8.cell? ⟨w4.heap.size, 2, none⟩ = some (.slice A_y1 (x1).data.length c_y1) := Fx.var_load o_y1v n_y1v 2 _ rfl; have d8_y1v_3 : w8.cell? ⟨w4.heap.size, 3, none⟩ = some (.int .i64 (x1).mac) := Fx.var_load o_y1v n_y1v 3 _ rfl; have d8_p1_0 : w8.cell? ⟨W.heap.size, 0, none⟩ = some (.int .i64 (x1).to) := Fx.var_load o_p1 n_p1 0 _ rfl; have d8_p1_1 : w8.cell? ⟨W.heap.size, 1, none⟩ = some (.int .i64 (x1).eph) := Fx.var_load o_p1 n_p1 1 _ rfl; have d8_p1_2 : w8.cell? ⟨W.heap.size, 2, none⟩ = some (.slice A_p1 (x1).data.length c_p1) := Fx.var_load o_p1 n_p1 2 _ rfl; have d8_p1_3 : w8.cell? ⟨W.heap.size, 3, none⟩ = some (.int .i64 (x1).mac) := Fx.var_load o_p1 n_p1 3 _ rfl; have e8_y1v : w4.heap.size < w8.heap.size := Fx.var_lt o_y1v; have e8_p1 : W.heap.size < w8.heap.size := Fx.var_lt o_p1) | (go_at_call 22; (with_reducible refine (Fx.eqBox _ x1 _ _ (ownsL_rds _ _ _ o_y1) (ownsL_rds _ _ _ o_t1) (by omega)).mono ?_); rintro e w9 ⟨rfl, b9⟩; replace o_p1 := owns_below o_p1 b9; replace o_w0 := owns_below o_w0 b9; replace o_y1 := ownsL_below o_y1 b9; replace o_y1v := owns_below o_y1v b9; replace o_g0 := owns_below o_g0 b9; replace o_t1 := ownsL_below o_t1 b9; replace HB := HB.trans (b9.mono HB.size); have d9_y1v_0 : w9.cell? ⟨w4.heap.size, 0, none⟩ = some (.int .i64 (x1).to) := Fx.var_load o_y1v n_y1v 0 _ rfl; have d9_y1v_1 : w9.cell? ⟨w4.heap.size, 1, none⟩ = some (.int .i64 (x1).eph) := Fx.var_load o_y1v n_y1v 1 _ rfl; have d9_y1v_2 : w9.cell? ⟨w4.heap.size, 2, none⟩ = some (.slice A_y1 (x1).data.length c_y1) := Fx.var_load o_y1v n_y1v 2 _ rfl; have d9_y1v_3 : w9.cell? ⟨w4.heap.size, 3, none⟩ = some (.int .i64 (x1).mac) := Fx.var_load o_y1v n_y1v 3 _ rfl; have d9_p1_0 : w9.cell? ⟨W.heap.size, 0, none⟩ = some (.int .i64 (x1).to) := Fx.var_load o_p1 n_p1 0 _ rfl; have d9_p1_1 : w9.cell? ⟨W.heap.size, 1, none⟩ = some (.int .i64 (x1).eph) := Fx.var_load o_p1 n_p1 1 _ rfl; have d9_p1_2 : w9.cell? ⟨W.heap.size, 2, none⟩ = some (.slice A_p1 (x1).data.length c_p1) := Fx.var_load o_p1 n_p1 2 _ rfl; have d9_p1_3 : w9.cell? ⟨W.heap.size, 3, none⟩ = some (.int .i64 (x1).mac) := Fx.var_load o_p1 n_p1 3 _ rfl; have e9_y1v : w4.heap.size < w9.heap.size := Fx.var_lt o_y1v; have e9_p1 : W.heap.size < w9.heap.size := Fx.var_lt o_p1))
  try clear d7_y1v_0 d7_y1v_1 d7_y1v_2 d7_y1v_3 d7_p1_0 d7_p1_1 d7_p1_2 d7_p1_3 e7_y1v e7_p1
  try clear d8_y1v_0 d8_y1v_1 d8_y1v_2 d8_y1v_3 d8_p1_0 d8_p1_1 d8_p1_2 d8_p1_3 e8_y1v e8_p1
  try clear d9_y1v_0 d9_y1v_1 d9_y1v_2 d9_y1v_3 d9_p1_0 d9_p1_1 d9_p1_2 d9_p1_3 e9_y1v e9_p1
  try clear o_t1 i_t1 n_t1
  have zq0 := bq0.size
  have z1 := b1.size
  have z2 := b2.size
  have z3 := b3.size
  have z4 := b4.size
  have z5 := b5.size
  have z6 := b6.size
  have z7 := b7.size
  have d_y1v_0 : w9.cell? ⟨w4.heap.size, 0, none⟩ = some (.int .i64 (x1).to) := Fx.var_load o_y1v n_y1v 0 _ rfl
  have d_y1v_1 : w9.cell? ⟨w4.heap.size, 1, none⟩ = some (.int .i64 (x1).eph) := Fx.var_load o_y1v n_y1v 1 _ rfl
  have d_y1v_2 : w9.cell? ⟨w4.heap.size, 2, none⟩ = some (.slice A_y1 (x1).data.length c_y1) := Fx.var_load o_y1v n_y1v 2 _ rfl
  have d_y1v_3 : w9.cell? ⟨w4.heap.size, 3, none⟩ = some (.int .i64 (x1).mac) := Fx.var_load o_y1v n_y1v 3 _ rfl
  have e_y1v : w4.heap.size < w9.heap.size := Fx.var_lt o_y1v
  go_wp2_with fail
  (with_reducible refine (Fx.markBox _ _ x1 _ _ _ o_y1 n_y1 (by omega) (by omega) (by omega)).mono ?_); rintro e w10 ⟨rfl, oz, t10⟩
  clear d_y1v_0 d_y1v_1 d_y1v_2 d_y1v_3 e_y1v
  have z10 := t10.2.2.2.1
  replace o_p1 := owns_turned o_p1 t10 (fun b hb hb2 => by have h1 := i_p1 b hb; have h2 := i_y1 b hb2; omega)
  replace o_w0 := owns_turned o_w0 t10 (fun b hb hb2 => by have h1 := i_w0 b hb; have h2 := i_y1 b hb2; omega)
  replace o_y1v := owns_turned o_y1v t10 (fun b hb hb2 => by have h1 := i_y1v b hb; have h2 := i_y1 b hb2; omega)
  replace o_g0 := owns_turned o_g0 t10 (fun b hb hb2 => by have h1 := i_g0 b hb; have h2 := i_y1 b hb2; omega)
  replace HB := below_turned HB t10 (fun b hb => by have h1 := i_y1 b hb; omega)
  replace o_y1 := oz
  clear oz
  go_wp2_with fail
  (with_reducible refine (Fx.eqByteS _ (M10.openB a0 x1) _ _ (owns_rds _ _ _ o_g0) (owns_rds _ _ _ o_w0) (by omega)).mono ?_); rintro e w11 ⟨rfl, b11⟩
  replace o_p1 := owns_below o_p1 b11
  replace o_w0 := owns_below o_w0 b11
  replace o_y1 := ownsL_below o_y1 b11
  replace o_y1v := owns_below o_y1v b11
  replace o_g0 := owns_below o_g0 b11
  replace HB := HB.trans (b11.mono HB.size)
  clear o_y1 i_y1 n_y1
  clear o_y1v i_y1v n_y1v
  go_wp2_with fail
  (with_reducible refine (Fx.markByteS _ _ (M10.openB a0 x1) _ _ _ o_g0 n_g0 (by omega) (by omega) (by omega)).mono ?_); rintro e w12 ⟨rfl, oz, t12⟩
  have z12 := t12.2.2.2.1
  replace o_p1 := owns_turned o_p1 t12 (fun b hb hb2 => by have h1 := i_p1 b hb; have h2 := i_g0 b hb2; omega)
  replace o_w0 := owns_turned o_w0 t12 (fun b hb hb2 => by have h1 := i_w0 b hb; have h2 := i_g0 b hb2; omega)
  replace HB := below_turned HB t12 (fun b hb => by have h1 := i_g0 b hb; omega)
  replace o_g0 := oz
  clear oz
  go_wp2_with fail
  (with_reducible refine (Fx.heldByteS _ (M10.openB a0 x1) _ _ (owns_rds _ _ _ o_g0) (by omega) (by omega) (by omega)).mono ?_); rintro e w13 ⟨rfl, b13⟩
  replace o_p1 := owns_below o_p1 b13
  replace o_w0 := owns_below o_w0 b13
  replace o_g0 := owns_below o_g0 b13
  replace HB := HB.trans (b13.mono HB.size)
  have d_p1_0 : w13.cell? ⟨W.heap.size, 0, none⟩ = some (.int .i64 (x1).to) := Fx.var_load o_p1 n_p1 0 _ rfl
  have d_p1_1 : w13.cell? ⟨W.heap.size, 1, none⟩ = some (.int .i64 (x1).eph) := Fx.var_load o_p1 n_p1 1 _ rfl
  have d_p1_2 : w13.cell? ⟨W.heap.size, 2, none⟩ = some (.slice A_p1 (x1).data.length c_p1) := Fx.var_load o_p1 n_p1 2 _ rfl
  have d_p1_3 : w13.cell? ⟨W.heap.size, 3, none⟩ = some (.int .i64 (x1).mac) := Fx.var_load o_p1 n_p1 3 _ rfl
  have e_p1 : W.heap.size < w13.heap.size := Fx.var_lt o_p1
  go_wp2_with fail
  (with_reducible refine (Fx.toBox _ x1 _ (rdsL_on H1.out HB) (by omega)).mono ?_); rintro e w14 ⟨v_ch1, s_ch1, rfl, o_ch1, n_ch1, b14⟩
  clear d_p1_0 d_p1_1 d_p1_2 d_p1_3 e_p1
  replace o_p1 := owns_below o_p1 b14
  replace o_w0 := owns_below o_w0 b14
  replace o_g0 := owns_below o_g0 b14
  replace HB := HB.trans (b14.mono HB.size)
  have i_ch1 := Fx.madeL_in o_ch1
  obtain ⟨A_ch1, c_ch1, rfl, -, -⟩ := Bx.Box.owns o_ch1
  go_wp2_with fail
  (with_reducible refine (C8j.implOpen _ a0 x1 _ (ownsL_rds _ _ _ o_ch1) ho1 (by omega)).mono ?_); rintro e w15 ⟨v_h0, s_h0, rfl, o_h0, n_h0, b15⟩
  replace o_p1 := owns_below o_p1 b15
  replace o_w0 := owns_below o_w0 b15
  replace o_g0 := owns_below o_g0 b15
  replace o_ch1 := ownsL_below o_ch1 b15
  replace HB := HB.trans (b15.mono HB.size)
  have i_h0 := Fx.made_in o_h0
  clear o_ch1 i_ch1 n_ch1
  go_wp2_with fail
  (with_reducible refine (Fx.eqByteS _ (M10.openB a0 x1) _ _ (owns_rds _ _ _ o_h0) (owns_rds _ _ _ o_w0) (by omega)).mono ?_); rintro e w16 ⟨rfl, b16⟩
  replace o_p1 := owns_below o_p1 b16
  replace o_w0 := owns_below o_w0 b16
  replace o_g0 := owns_below o_g0 b16
  replace o_h0 := owns_below o_h0 b16
  replace HB := HB.trans (b16.mono HB.size)
  go_wp2_with fail
  (with_reducible refine (Fx.heldByteS _ (M10.openB a0 x1) _ _ (owns_rds _ _ _ o_g0) (by omega) (by omega) (by omega)).mono ?_); rintro e w17 ⟨rfl, b17⟩
  replace o_p1 := owns_below o_p1 b17
  replace o_w0 := owns_below o_w0 b17
  replace o_g0 := owns_below o_g0 b17
  replace o_h0 := owns_below o_h0 b17
  replace HB := HB.trans (b17.mono HB.size)
  go_wp2
  go_ret
  exact ⟨rfl, HB⟩

set_option maxRecDepth 100000 in
theorem contract (H : Type) (enc : TypeId × Value → H) (W : World) (base : Nat) (args : Array Value) (ds gs : List (DataW H)) (before : List MemPlace)
    (hval : ∀ (j : Nat) t v, Try.f7.params[j]? = some t → args[j]? = some v → Value.okWide Try.prog W .any base t v)
    (hW : DataW.Whole enc Try.prog Try.f7.params.toList Rows.fnExactOpenBoxSpec.vars false W args.toList ds gs before) :
    Calls Try.prog 7 args W fun e W' => ∃ v, e = .returned v ∧ Rows.fnExactOpenBoxSpec.post enc Try.prog Try.f7 false true false false W args v W' := by
  have hW' := hW
  obtain ⟨p, q, hA0, hV, rfl, hfz, hnd⟩ := hW
  have hA : DataW.TrodAll enc Try.prog W 0 (fun _ => true) true Try.f7.params.toList args.toList ds p := hA0
  rw [Try.params7] at hA hval
  obtain ⟨v0, vs0, d0, ds0, p0, q0, hargs, rfl, rfl, h0, r0⟩ := trodAll_cons hA
  obtain ⟨v1, vs1, d1, ds1, p1, q1, rfl, rfl, rfl, h1, r1⟩ := trodAll_cons r0
  obtain ⟨rfl, rfl, rfl⟩ := trodAll_nil r1
  obtain rfl : args = #[v0, v1] := by cases args; simp_all
  obtain ⟨rfl, rfl⟩ := trodVars_none hV
  obtain ⟨a0, rfl, rfl, rfl, w0⟩ := open_int Try.underlying3 (hval 0 3 v0 rfl rfl) h0
  clear hA0
  refine Fr.closeLaw rfl (by kernel_rfl) (by rw [Try.params7]; decide) hW' rfl ?_
  exact walk a0 w0 v1 W (hval 1 44 v1 rfl rfl) h1

set_option maxRecDepth 100000 in
theorem reads (os : Os) {H : Type} (enc : TypeId × Value → H) : ∃ places, DataW.whole enc Try.prog ((World.holding Try.prog os ⟨#[], #[], []⟩).forCall (fun _ _ => 0) ⟨#[], #[.int .i64 0, .agg #[.int .i64 0, .int .i64 0, .slice none 0 0, .int .i64 0]], []⟩).memory Try.f7.params.toList Rows.fnExactOpenBoxSpec.vars false (#[.int .i64 0, .agg #[.int .i64 0, .int .i64 0, .slice none 0 0, .int .i64 0]] : Array Value).toList 8 = some ([.lit (.int .i64 0), .agg [.lit (.int .i64 0), .lit (.int .i64 0), .nil, .lit (.int .i64 0)]], [], places) :=
  ⟨[], by kernel_rfl⟩
set_option maxRecDepth 100000 in
theorem lifted (os : Os) (started : os.Started) (H : Type) (enc : TypeId × Value → H) (F : Stop.Interp) :
    ReturnsInHanded {} Try.checked os 7 .any ((OpenSpec.ofChange Rows.fnExactOpenBoxSpec).preRow enc Try.prog Try.f7 Rows.fnExactOpenBoxRow.domain false Rows.fnExactOpenBoxRow.laid) (((OpenSpec.ofChange Rows.fnExactOpenBoxSpec).at F).post enc Try.prog Try.f7 false true false false) := by
  obtain ⟨places, hx⟩ := reads os enc
  refine returnsInHanded_of_row (C := Try.checked) (s := OpenSpec.ofChange Rows.fnExactOpenBoxSpec) Fr.own started (by kernel_rfl) Try.func7
    (witness_row_atRef (enc := enc) (C := Try.checked) false (World.holding Try.prog os ⟨#[], #[], []⟩) #[.int .i64 0, .agg #[.int .i64 0, .int .i64 0, .slice none 0 0, .int .i64 0]] rfl (by kernel_rfl) (by kernel_rfl) (by kernel_rfl)
      (OpenSpec.preRow_of_cond 8 hx (by kernel_rfl) (fun k hk => by cases hk) (by kernel_rfl) (laidMetH_nil _ _))) ?_
  intro W base args ds gs before hval hW _ hcond _ hL _ _
  exact contract H enc W base args ds gs before hval hW
set_option maxRecDepth 100000 in
theorem said : Rows.FnExactOpenBoxSaid :=
  OpenClaim.holds_of_cond 7 Try.f7 rfl rfl rfl rfl rfl rfl rfl ⟨rfl, rfl, rfl, rfl, rfl⟩ rfl rfl rfl rfl rfl (by kernel_rfl) Try.func7 (by kernel_rfl)
    (of_decide_eq_true (by kernel_rfl)) (by unfold Func.isWrapper; first | (rw [if_pos (by decide +kernel)]; kernel_rfl) | (rw [if_neg (by decide +kernel)]; exact ⟨rfl, rfl⟩))
    (fun os started H enc _ F => by rw [OpenClaim.pre_eq_preRow]; exact lifted os started H enc F)
theorem proved : Rows.FnExactOpenBoxSaid := said
#print axioms proved
end Go.Proofs.Ytaodpiikpojikaa.fnExactOpenBox
