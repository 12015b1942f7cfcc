/-
  laws.FnExactBoxMAC returns true at every argument, and leaves what came in as it was: the program's BoxMAC answers as the model's (boxes of more than 1048576 bytes are passed over by the law itself). Conditions: none.
-/
import Derived.Test.YtaodpiikpojikaaFr
import Derived.Stop.Joined
import Derived.Test.YtaodpiikpojikaaDg
import Derived.Test.YtaodpiikpojikaaSo
import Derived.Test.YtaodpiikpojikaaM1
import Derived.Test.YtaodpiikpojikaaFx
import Derived.Test.YtaodpiikpojikaaC8k
import Derived.Test.YtaodpiikpojikaaC8f
import Derived.Test.YtaodpiikpojikaaC8e
import Derived.Test.YtaodpiikpojikaaC8d
namespace Go.Proofs.Ytaodpiikpojikaa.fnExactBoxMAC
open Go.ChangeShapes Go.WideShapes Go.ChangeAt Go.RowKit
set_option linter.unusedVariables false

open S0 S9 Dm in
set_option maxHeartbeats 8000000 in
set_option maxRecDepth 100000 in
theorem walk (a0 : Int) (u0 : (Lit.int .i64 a0).wf = true) (v1 : Value) (W : World) {H : Type} {enc : TypeId × Value → H} {b1 : Nat} {d1 : DataW H} {p1 : List MemPlace} (hv1 : Value.okWide Try.prog W .any b1 44 v1) (ht1 : DataW.Trod enc Try.prog W 0 (fun _ => true) true 44 v1 d1 p1) :
    Calls Try.prog 6 #[.int .i64 a0, v1] W fun e w' => e = .returned (.bool true) ∧ Below W.heap.size W w' := by
  have hu0 := M1.i64_wf u0
  clear u0
  obtain ⟨vs1, x1, rfl, hr1, ho1⟩ := Bx.box hv1 ht1
  clear ht1 hv1
  obtain ⟨A_p1, c_p1, rfl, -⟩ := Bx.Box.rds hr1
  have H1 := Lib.hid hr1
  clear hr1
  have HB : Below W.heap.size W W := Below.refl _ _
  obtain ⟨q0, hq0⟩ : ∃ x, x = W.alloc (.cells #[.int .i64 (x1).to, .int .i64 (x1).eph, .slice A_p1 (x1).data.length c_p1, .int .i64 (x1).mac] 44) := ⟨_, rfl⟩
  have o_p1 := Fx.var_owns W 44 4 [.int .i64 (x1).to, .int .i64 (x1).eph, .slice A_p1 (x1).data.length c_p1, .int .i64 (x1).mac] rfl
  have n_p1 : [W.heap.size].Nodup := by simp
  have bq0 : Below W.heap.size W q0 := hq0 ▸ (Below.refl _ _).alloc (Nat.le_refl _) _
  rw [← hq0] at o_p1
  have sq0 : q0.heap.size = W.heap.size + 1 := by rw [hq0]; simp
  replace HB := HB.trans (bq0.mono HB.size)
  have i_p1 := Fx.made_in o_p1
  go_enter Try.func6, Try.ntmps6
  go_wp2_with fail
  rw [← hq0]
  (with_reducible refine (Fx.szBox _ x1 _ (1048576) (rdsL_on H1.out HB) ho1 (by omega) (by omega)).mono ?_); rintro e w1 ⟨rfl, b1⟩
  replace o_p1 := owns_below o_p1 b1
  replace HB := HB.trans (b1.mono HB.size)
  by_cases big1 : (wtL (Bx.Box.dcs x1) : Int) ≤ 1048576
  rotate_left
  · rw [if_neg big1]
    go_wp2
    go_ret
    exact ⟨rfl, HB⟩
  rw [if_pos big1]
  have d_p1_0 : w1.cell? ⟨W.heap.size, 0, none⟩ = some (.int .i64 (x1).to) := Fx.var_load o_p1 n_p1 0 _ rfl
  have d_p1_1 : w1.cell? ⟨W.heap.size, 1, none⟩ = some (.int .i64 (x1).eph) := Fx.var_load o_p1 n_p1 1 _ rfl
  have d_p1_2 : w1.cell? ⟨W.heap.size, 2, none⟩ = some (.slice A_p1 (x1).data.length c_p1) := Fx.var_load o_p1 n_p1 2 _ rfl
  have d_p1_3 : w1.cell? ⟨W.heap.size, 3, none⟩ = some (.int .i64 (x1).mac) := Fx.var_load o_p1 n_p1 3 _ rfl
  have e_p1 : W.heap.size < w1.heap.size := Fx.var_lt o_p1
  go_wp2_with fail
  (with_reducible refine (Fx.toBox _ x1 _ (rdsL_on H1.out HB) (by omega)).mono ?_); rintro e w2 ⟨v_cw1, s_cw1, rfl, o_cw1, n_cw1, b2⟩
  clear d_p1_0 d_p1_1 d_p1_2 d_p1_3 e_p1
  replace o_p1 := owns_below o_p1 b2
  replace HB := HB.trans (b2.mono HB.size)
  have i_cw1 := Fx.madeL_in o_cw1
  obtain ⟨A_cw1, c_cw1, rfl, -, -⟩ := Bx.Box.owns o_cw1
  go_wp2_with fail
  (with_reducible refine (C8.specMac _ a0 x1 _ (by omega) (by omega) (ownsL_rds _ _ _ o_cw1) ho1 (by omega)).mono ?_); rintro e w3 ⟨rfl, b3⟩
  replace o_p1 := owns_below o_p1 b3
  replace o_cw1 := ownsL_below o_cw1 b3
  replace HB := HB.trans (b3.mono HB.size)
  clear o_cw1 i_cw1 n_cw1
  have d_p1_0 : w3.cell? ⟨W.heap.size, 0, none⟩ = some (.int .i64 (x1).to) := Fx.var_load o_p1 n_p1 0 _ rfl
  have d_p1_1 : w3.cell? ⟨W.heap.size, 1, none⟩ = some (.int .i64 (x1).eph) := Fx.var_load o_p1 n_p1 1 _ rfl
  have d_p1_2 : w3.cell? ⟨W.heap.size, 2, none⟩ = some (.slice A_p1 (x1).data.length c_p1) := Fx.var_load o_p1 n_p1 2 _ rfl
  have d_p1_3 : w3.cell? ⟨W.heap.size, 3, none⟩ = some (.int .i64 (x1).mac) := Fx.var_load o_p1 n_p1 3 _ rfl
  have e_p1 : W.heap.size < w3.heap.size := Fx.var_lt o_p1
  go_wp2_with fail
  (with_reducible refine (Fx.toBox _ x1 _ (rdsL_on H1.out HB) (by omega)).mono ?_); rintro e w4 ⟨v_y1, s_y1, rfl, o_y1, n_y1, b4⟩
  clear d_p1_0 d_p1_1 d_p1_2 d_p1_3 e_p1
  replace o_p1 := owns_below o_p1 b4
  replace HB := HB.trans (b4.mono HB.size)
  have i_y1 := Fx.madeL_in o_y1
  obtain ⟨A_y1, c_y1, rfl, -, -⟩ := Bx.Box.owns o_y1
  have d_p1_0 : w4.cell? ⟨W.heap.size, 0, none⟩ = some (.int .i64 (x1).to) := Fx.var_load o_p1 n_p1 0 _ rfl
  have d_p1_1 : w4.cell? ⟨W.heap.size, 1, none⟩ = some (.int .i64 (x1).eph) := Fx.var_load o_p1 n_p1 1 _ rfl
  have d_p1_2 : w4.cell? ⟨W.heap.size, 2, none⟩ = some (.slice A_p1 (x1).data.length c_p1) := Fx.var_load o_p1 n_p1 2 _ rfl
  have d_p1_3 : w4.cell? ⟨W.heap.size, 3, none⟩ = some (.int .i64 (x1).mac) := Fx.var_load o_p1 n_p1 3 _ rfl
  have e_p1 : W.heap.size < w4.heap.size := Fx.var_lt o_p1
  go_wp2_with fail
  clear d_p1_0 d_p1_1 d_p1_2 d_p1_3 e_p1
  obtain ⟨w5, hw5⟩ : ∃ y, y = w4.alloc (.cells #[.int .i64 (x1).to, .int .i64 (x1).eph, .slice A_y1 (x1).data.length c_y1, .int .i64 (x1).mac] 26) := ⟨_, rfl⟩
  have o_y1v := Fx.var_owns w4 26 4 [.int .i64 (x1).to, .int .i64 (x1).eph, .slice A_y1 (x1).data.length c_y1, .int .i64 (x1).mac] rfl
  have b5 : Below w4.heap.size w4 w5 := hw5 ▸ (Below.refl _ _).alloc (Nat.le_refl _) _
  rw [← hw5] at o_y1v ⊢
  clear hw5
  replace o_p1 := owns_below o_p1 b5
  replace o_y1 := ownsL_below o_y1 b5
  replace HB := HB.trans (b5.mono HB.size)
  have n_y1v : [w4.heap.size].Nodup := by simp
  have i_y1v := Fx.made_in o_y1v
  (with_reducible refine (C8h.implMac _ a0 x1 _ (by omega) (by omega) (ownsL_rds _ _ _ o_y1) ho1 (by omega)).mono ?_); rintro e w6 ⟨rfl, b6⟩
  replace o_p1 := owns_below o_p1 b6
  replace o_y1 := ownsL_below o_y1 b6
  replace o_y1v := owns_below o_y1v b6
  replace HB := HB.trans (b6.mono HB.size)
  have d6_y1v_0 : w6.cell? ⟨w4.heap.size, 0, none⟩ = some (.int .i64 (x1).to) := Fx.var_load o_y1v n_y1v 0 _ rfl
  have d6_y1v_1 : w6.cell? ⟨w4.heap.size, 1, none⟩ = some (.int .i64 (x1).eph) := Fx.var_load o_y1v n_y1v 1 _ rfl
  have d6_y1v_2 : w6.cell? ⟨w4.heap.size, 2, none⟩ = some (.slice A_y1 (x1).data.length c_y1) := Fx.var_load o_y1v n_y1v 2 _ rfl
  have d6_y1v_3 : w6.cell? ⟨w4.heap.size, 3, none⟩ = some (.int .i64 (x1).mac) := Fx.var_load o_y1v n_y1v 3 _ rfl
  have d6_p1_0 : w6.cell? ⟨W.heap.size, 0, none⟩ = some (.int .i64 (x1).to) := Fx.var_load o_p1 n_p1 0 _ rfl
  have d6_p1_1 : w6.cell? ⟨W.heap.size, 1, none⟩ = some (.int .i64 (x1).eph) := Fx.var_load o_p1 n_p1 1 _ rfl
  have d6_p1_2 : w6.cell? ⟨W.heap.size, 2, none⟩ = some (.slice A_p1 (x1).data.length c_p1) := Fx.var_load o_p1 n_p1 2 _ rfl
  have d6_p1_3 : w6.cell? ⟨W.heap.size, 3, none⟩ = some (.int .i64 (x1).mac) := Fx.var_load o_p1 n_p1 3 _ rfl
  have e6_y1v : w4.heap.size < w6.heap.size := Fx.var_lt o_y1v
  have e6_p1 : W.heap.size < w6.heap.size := Fx.var_lt o_p1
  go_wp2_with fail
  go_region_held3 (fun wx => wx.cell? ⟨w4.heap.size, 0, none⟩ = some (.int .i64 (x1).to) ∧ wx.cell? ⟨w4.heap.size, 1, none⟩ = some (.int .i64 (x1).eph) ∧ wx.cell? ⟨w4.heap.size, 2, none⟩ = some (.slice A_y1 (x1).data.length c_y1) ∧ wx.cell? ⟨w4.heap.size, 3, none⟩ = some (.int .i64 (x1).mac) ∧ wx.cell? ⟨W.heap.size, 0, none⟩ = some (.int .i64 (x1).to) ∧ wx.cell? ⟨W.heap.size, 1, none⟩ = some (.int .i64 (x1).eph) ∧ wx.cell? ⟨W.heap.size, 2, none⟩ = some (.slice A_p1 (x1).data.length c_p1) ∧ wx.cell? ⟨W.heap.size, 3, none⟩ = some (.int .i64 (x1).mac)) (first | exact ⟨d6_y1v_0, d6_y1v_1, d6_y1v_2, d6_y1v_3, d6_p1_0, d6_p1_1, d6_p1_2, d6_p1_3⟩ | exact ⟨d7_y1v_0, d7_y1v_1, d7_y1v_2, d7_y1v_3, d7_p1_0, d7_p1_1, d7_p1_2, d7_p1_3⟩ | exact ⟨d8_y1v_0, d8_y1v_1, d8_y1v_2, d8_y1v_3, d8_p1_0, d8_p1_1, d8_p1_2, d8_p1_3⟩) (first | (go_at_call 31; (with_reducible refine (Fx.toBox _ x1 _ (rdsL_on H1.out HB.drew) (by omega)).mono ?_); rintro e w7 ⟨v_t1, s_t1, rfl, o_t1, n_t1, b7⟩; replace b7 := (drewN_below w6 1 _).trans b7; replace o_p1 := owns_below o_p1 b7; replace o_y1 := ownsL_below o_y1 b7; replace o_y1v := owns_below o_y1v b7; replace HB := HB.trans (b7.mono HB.size); have i_t1 := Fx.madeL_in o_t1; obtain ⟨A_t1, c_t1, rfl, -, -⟩ := Bx.Box.owns o_t1; have d7_y1v_0 : w7.cell? ⟨w4.heap.size, 0, none⟩ = some (.int .i64 (x1).to) := Fx.var_load o_y1v n_y1v 0 _ rfl; have d7_y1v_1 : w7.cell? ⟨w4.heap.size, 1, none⟩ = some (.int .i64 (x1).eph) := Fx.var_load o_y1v n_y1v 1 _ rfl; have d7_y1v_2 : w7.cell? ⟨w4.heap.size, 2, none⟩ = some (.slice A_y1 (x1).data.length c_y1) := Fx.var_load o_y1v n_y1v 2 _ rfl; have d7_y1v_3 : w7.cell? ⟨w4.heap.size, 3, none⟩ = some (.int .i64 (x1).mac) := Fx.var_load o_y1v n_y1v 3 _ rfl; have d7_p1_0 : w7.cell? ⟨W.heap.size, 0, none⟩ = some (.int .i64 (x1).to) := Fx.var_load o_p1 n_p1 0 _ rfl; have d7_p1_1 : w7.cell? ⟨W.heap.size, 1, none⟩ = some (.int .i64 (x1).eph) := Fx.var_load o_p1 n_p1 1 _ rfl; have d7_p1_2 : w7.cell? ⟨W.heap.size, 2, none⟩ = some (.slice A_p1 (x1).data.length c_p1) := Fx.var_load o_p1 n_p1 2 _ rfl; have d7_p1_3 : w7.cell? ⟨W.heap.size, 3, none⟩ = some (.int .i64 (x1).mac) := Fx.var_load o_p1 n_p1 3 _ rfl; have e7_y1v : w4.heap.size < w7.heap.size := Fx.var_lt o_y1v; have e7_p1 : W.heap.size < w7.heap.size := Fx.var_lt o_p1) | (go_at_call 22; (with_reducible refine (Fx.eqBox _ x1 _ _ (ownsL_rds _ _ _ o_y1) (ownsL_rds _ _ _ o_t1) (by omega)).mono ?_); rintro e w8 ⟨rfl, b8⟩; replace o_p1 := owns_below o_p1 b8; replace o_y1 := ownsL_below o_y1 b8; replace o_y1v := owns_below o_y1v b8; replace o_t1 := ownsL_below o_t1 b8; replace HB := HB.trans (b8.mono HB.size); have d8_y1v_0 : w8.cell? ⟨w4.heap.size, 0, none⟩ = some (.int .i64 (x1).to) := Fx.var_load o_y1v n_y1v 0 _ rfl; have d8_y1v_1 : w8.cell? ⟨w4.heap.size, 1, none⟩ = some (.int .i64 (x1).eph) := Fx.var_load o_y1v n_y1v 1 _ rfl; have d8_y1v_2 : w8.cell? ⟨w4.heap.size, 2, none⟩ = some (.slice A_y1 (x1).data.length c_y1) := Fx.var_load o_y1v n_y1v 2 _ rfl; have d8_y1v_3 : w8.cell? ⟨w4.heap.size, 3, none⟩ = some (.int .i64 (x1).mac) := Fx.var_load o_y1v n_y1v 3 _ rfl; have d8_p1_0 : w8.cell? ⟨W.heap.size, 0, none⟩ = some (.int .i64 (x1).to) := Fx.var_load o_p1 n_p1 0 _ rfl; have d8_p1_1 : w8.cell? ⟨W.heap.size, 1, none⟩ = some (.int .i64 (x1).eph) := Fx.var_load o_p1 n_p1 1 _ rfl; have d8_p1_2 : w8.cell? ⟨W.heap.size, 2, none⟩ = some (.slice A_p1 (x1).data.length c_p1) := Fx.var_load o_p1 n_p1 2 _ rfl; have d8_p1_3 : w8.cell? ⟨W.heap.size, 3, none⟩ = some (.int .i64 (x1).mac) := Fx.var_load o_p1 n_p1 3 _ rfl; have e8_y1v : w4.heap.size < w8.heap.size := Fx.var_lt o_y1v; have e8_p1 : W.heap.size < w8.heap.size := Fx.var_lt o_p1))
  try clear d6_y1v_0 d6_y1v_1 d6_y1v_2 d6_y1v_3 d6_p1_0 d6_p1_1 d6_p1_2 d6_p1_3 e6_y1v e6_p1
  try clear d7_y1v_0 d7_y1v_1 d7_y1v_2 d7_y1v_3 d7_p1_0 d7_p1_1 d7_p1_2 d7_p1_3 e7_y1v e7_p1
  try clear d8_y1v_0 d8_y1v_1 d8_y1v_2 d8_y1v_3 d8_p1_0 d8_p1_1 d8_p1_2 d8_p1_3 e8_y1v e8_p1
  try clear o_t1 i_t1 n_t1
  go_wp2
  go_ret
  exact ⟨rfl, HB⟩

set_option maxRecDepth 100000 in
theorem contract (H : Type) (enc : TypeId × Value → H) (W : World) (base : Nat) (args : Array Value) (ds gs : List (DataW H)) (before : List MemPlace)
    (hval : ∀ (j : Nat) t v, Try.f6.params[j]? = some t → args[j]? = some v → Value.okWide Try.prog W .any base t v)
    (hW : DataW.Whole enc Try.prog Try.f6.params.toList Rows.fnExactBoxMACSpec.vars false W args.toList ds gs before) :
    Calls Try.prog 6 args W fun e W' => ∃ v, e = .returned v ∧ Rows.fnExactBoxMACSpec.post enc Try.prog Try.f6 false true false false W args v W' := by
  have hW' := hW
  obtain ⟨p, q, hA0, hV, rfl, hfz, hnd⟩ := hW
  have hA : DataW.TrodAll enc Try.prog W 0 (fun _ => true) true Try.f6.params.toList args.toList ds p := hA0
  rw [Try.params6] at hA hval
  obtain ⟨v0, vs0, d0, ds0, p0, q0, hargs, rfl, rfl, h0, r0⟩ := trodAll_cons hA
  obtain ⟨v1, vs1, d1, ds1, p1, q1, rfl, rfl, rfl, h1, r1⟩ := trodAll_cons r0
  obtain ⟨rfl, rfl, rfl⟩ := trodAll_nil r1
  obtain rfl : args = #[v0, v1] := by cases args; simp_all
  obtain ⟨rfl, rfl⟩ := trodVars_none hV
  obtain ⟨a0, rfl, rfl, rfl, w0⟩ := open_int Try.underlying3 (hval 0 3 v0 rfl rfl) h0
  clear hA0
  refine Fr.closeLaw rfl (by kernel_rfl) (by rw [Try.params6]; decide) hW' rfl ?_
  exact walk a0 w0 v1 W (hval 1 44 v1 rfl rfl) h1

set_option maxRecDepth 100000 in
theorem reads (os : Os) {H : Type} (enc : TypeId × Value → H) : ∃ places, DataW.whole enc Try.prog ((World.holding Try.prog os ⟨#[], #[], []⟩).forCall (fun _ _ => 0) ⟨#[], #[.int .i64 0, .agg #[.int .i64 0, .int .i64 0, .slice none 0 0, .int .i64 0]], []⟩).memory Try.f6.params.toList Rows.fnExactBoxMACSpec.vars false (#[.int .i64 0, .agg #[.int .i64 0, .int .i64 0, .slice none 0 0, .int .i64 0]] : Array Value).toList 8 = some ([.lit (.int .i64 0), .agg [.lit (.int .i64 0), .lit (.int .i64 0), .nil, .lit (.int .i64 0)]], [], places) :=
  ⟨[], by kernel_rfl⟩
set_option maxRecDepth 100000 in
theorem lifted (os : Os) (started : os.Started) (H : Type) (enc : TypeId × Value → H) (F : Stop.Interp) :
    ReturnsInHanded {} Try.checked os 6 .any ((OpenSpec.ofChange Rows.fnExactBoxMACSpec).preRow enc Try.prog Try.f6 Rows.fnExactBoxMACRow.domain false Rows.fnExactBoxMACRow.laid) (((OpenSpec.ofChange Rows.fnExactBoxMACSpec).at F).post enc Try.prog Try.f6 false true false false) := by
  obtain ⟨places, hx⟩ := reads os enc
  refine returnsInHanded_of_row (C := Try.checked) (s := OpenSpec.ofChange Rows.fnExactBoxMACSpec) Fr.own started (by kernel_rfl) Try.func6
    (witness_row_atRef (enc := enc) (C := Try.checked) false (World.holding Try.prog os ⟨#[], #[], []⟩) #[.int .i64 0, .agg #[.int .i64 0, .int .i64 0, .slice none 0 0, .int .i64 0]] rfl (by kernel_rfl) (by kernel_rfl) (by kernel_rfl)
      (OpenSpec.preRow_of_cond 8 hx (by kernel_rfl) (fun k hk => by cases hk) (by kernel_rfl) (laidMetH_nil _ _))) ?_
  intro W base args ds gs before hval hW _ hcond _ hL _ _
  exact contract H enc W base args ds gs before hval hW
set_option maxRecDepth 100000 in
theorem said : Rows.FnExactBoxMACSaid :=
  OpenClaim.holds_of_cond 6 Try.f6 rfl rfl rfl rfl rfl rfl rfl ⟨rfl, rfl, rfl, rfl, rfl⟩ rfl rfl rfl rfl rfl (by kernel_rfl) Try.func6 (by kernel_rfl)
    (of_decide_eq_true (by kernel_rfl)) (by unfold Func.isWrapper; first | (rw [if_pos (by decide +kernel)]; kernel_rfl) | (rw [if_neg (by decide +kernel)]; exact ⟨rfl, rfl⟩))
    (fun os started H enc _ F => by rw [OpenClaim.pre_eq_preRow]; exact lifted os started H enc F)
theorem proved : Rows.FnExactBoxMACSaid := said
#print axioms proved
end Go.Proofs.Ytaodpiikpojikaa.fnExactBoxMAC
