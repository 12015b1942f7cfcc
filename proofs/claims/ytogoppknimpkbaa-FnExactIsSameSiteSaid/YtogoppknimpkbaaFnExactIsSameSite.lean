/-
  laws.FnExactIsSameSite returns true at every argument, and leaves what came in as it was: the program's IsSameSite answers as the model's (strings of more than 1048576 bytes are passed over by the law itself). Conditions: none.
-/
import Derived.Test.YtogoppknimpkbaaFr
import Derived.Stop.Joined
import Derived.Test.YtogoppknimpkbaaDg
import Derived.Test.YtogoppknimpkbaaSo
import Derived.Test.YtogoppknimpkbaaM1
import Derived.Test.YtogoppknimpkbaaYOrigin
import Derived.Test.YtogoppknimpkbaaC9b
import Derived.Test.YtogoppknimpkbaaC9i
namespace Go.Proofs.Ytogoppknimpkbaa.fnExactIsSameSite
open Go.ChangeShapes Go.WideShapes Go.ChangeAt Go.RowKit
set_option linter.unusedVariables false

open S0 S9 Dm in
set_option maxHeartbeats 8000000 in
set_option maxRecDepth 100000 in
theorem walk (v0 : Value) (v1 : Value) (W : World) {H : Type} {enc : TypeId × Value → H} {b0 : Nat} {d0 : DataW H} {p0 : List MemPlace} (hv0 : Value.okWide Try.prog W .any b0 28 v0) (ht0 : DataW.Trod enc Try.prog W 0 (fun _ => true) true 28 v0 d0 p0) {b1 : Nat} {d1 : DataW H} {p1 : List MemPlace} (hv1 : Value.okWide Try.prog W .any b1 28 v1) (ht1 : DataW.Trod enc Try.prog W 0 (fun _ => true) true 28 v1 d1 p1) :
    Calls Try.prog 8 #[v0, v1] W fun e w' => e = .returned (.bool true) ∧ Below W.heap.size W w' := by
  obtain ⟨vs0, x0, rfl, hr0, ho0⟩ := Fx.argOrigin hv0 ht0
  clear ht0 hv0
  obtain rfl := Fx.Origin.rds hr0
  have H0 := Lib.hid hr0
  clear hr0
  have hwx0 := Nat.le_of_eq (Fx.Origin.wt x0)
  have hwy0 := Nat.le_of_eq (Fx.Origin.wt x0).symm
  obtain ⟨vs1, x1, rfl, hr1, ho1⟩ := Fx.argOrigin hv1 ht1
  clear ht1 hv1
  obtain rfl := Fx.Origin.rds hr1
  have H1 := Lib.hid hr1
  clear hr1
  have hwx1 := Nat.le_of_eq (Fx.Origin.wt x1)
  have hwy1 := Nat.le_of_eq (Fx.Origin.wt x1).symm
  have HB : Below W.heap.size W W := Below.refl _ _
  obtain ⟨q0, hq0⟩ : ∃ x, x = W.alloc (.cells #[.bool (x0).Secure, .string (x0).Host, .int .i64 (x0).Port] 28) := ⟨_, rfl⟩
  have o_p0 := Fx.var_owns W 28 3 [.bool (x0).Secure, .string (x0).Host, .int .i64 (x0).Port] rfl
  have n_p0 : [W.heap.size].Nodup := by simp
  have bq0 : Below W.heap.size W q0 := hq0 ▸ (Below.refl _ _).alloc (Nat.le_refl _) _
  rw [← hq0] at o_p0
  have sq0 : q0.heap.size = W.heap.size + 1 := by rw [hq0]; simp
  replace HB := HB.trans (bq0.mono HB.size)
  have i_p0 := Fx.made_in o_p0
  obtain ⟨q1, hq1⟩ : ∃ x, x = q0.alloc (.cells #[.bool (x1).Secure, .string (x1).Host, .int .i64 (x1).Port] 28) := ⟨_, rfl⟩
  have o_p1 := Fx.var_owns q0 28 3 [.bool (x1).Secure, .string (x1).Host, .int .i64 (x1).Port] rfl
  have n_p1 : [q0.heap.size].Nodup := by simp
  have bq1 : Below q0.heap.size q0 q1 := hq1 ▸ (Below.refl _ _).alloc (Nat.le_refl _) _
  rw [← hq1] at o_p1
  rw [sq0] at o_p1 n_p1
  have sq1 : q1.heap.size = W.heap.size + 1 + 1 := by rw [hq1]; simp [sq0]
  replace o_p0 := owns_below o_p0 bq1
  replace HB := HB.trans (bq1.mono HB.size)
  have i_p1 := Fx.made_in o_p1
  go_enter Try.func8, Try.ntmps8
  go_wp2_with fail
  rw [← hq0]
  rw [← hq1]
  (with_reducible refine (Fx.szOrigin _ x0 _ (1048576) (rdsL_on H0.out HB) ho0 (by omega) (by omega)).mono ?_); rintro e w1 ⟨rfl, b1⟩
  replace o_p0 := owns_below o_p0 b1
  replace o_p1 := owns_below o_p1 b1
  replace HB := HB.trans (b1.mono HB.size)
  by_cases big0 : (wtL (Fx.Origin.dcs x0) : Int) ≤ 1048576
  rotate_left
  · rw [if_neg big0]
    go_wp2
    go_ret
    exact ⟨rfl, HB⟩
  rw [if_pos big0]
  have d_p1_0 : w1.cell? ⟨W.heap.size + 1, 0, none⟩ = some (.bool (x1).Secure) := Fx.var_load o_p1 n_p1 0 _ rfl
  have d_p1_1 : w1.cell? ⟨W.heap.size + 1, 1, none⟩ = some (.string (x1).Host) := Fx.var_load o_p1 n_p1 1 _ rfl
  have d_p1_2 : w1.cell? ⟨W.heap.size + 1, 2, none⟩ = some (.int .i64 (x1).Port) := Fx.var_load o_p1 n_p1 2 _ rfl
  have e_p1 : W.heap.size + 1 < w1.heap.size := Fx.var_lt o_p1
  go_wp2_with fail
  (with_reducible refine (Fx.szOrigin _ x1 _ (1048576 - (wtL (Fx.Origin.dcs x0) : Int)) (rdsL_on H1.out HB) ho1 (by omega) (by omega)).mono ?_); rintro e w2 ⟨rfl, b2⟩
  clear d_p1_0 d_p1_1 d_p1_2 e_p1
  replace o_p0 := owns_below o_p0 b2
  replace o_p1 := owns_below o_p1 b2
  replace HB := HB.trans (b2.mono HB.size)
  by_cases big1 : (wtL (Fx.Origin.dcs x1) : Int) ≤ 1048576 - (wtL (Fx.Origin.dcs x0) : Int)
  rotate_left
  · rw [if_neg big1]
    go_wp2
    go_ret
    exact ⟨rfl, HB⟩
  rw [if_pos big1]
  have d2_p0_0 : w2.cell? ⟨W.heap.size, 0, none⟩ = some (.bool (x0).Secure) := Fx.var_load o_p0 n_p0 0 _ rfl
  have d2_p0_1 : w2.cell? ⟨W.heap.size, 1, none⟩ = some (.string (x0).Host) := Fx.var_load o_p0 n_p0 1 _ rfl
  have d2_p0_2 : w2.cell? ⟨W.heap.size, 2, none⟩ = some (.int .i64 (x0).Port) := Fx.var_load o_p0 n_p0 2 _ rfl
  have d2_p1_0 : w2.cell? ⟨W.heap.size + 1, 0, none⟩ = some (.bool (x1).Secure) := Fx.var_load o_p1 n_p1 0 _ rfl
  have d2_p1_1 : w2.cell? ⟨W.heap.size + 1, 1, none⟩ = some (.string (x1).Host) := Fx.var_load o_p1 n_p1 1 _ rfl
  have d2_p1_2 : w2.cell? ⟨W.heap.size + 1, 2, none⟩ = some (.int .i64 (x1).Port) := Fx.var_load o_p1 n_p1 2 _ rfl
  have e2_p0 : W.heap.size < w2.heap.size := Fx.var_lt o_p0
  have e2_p1 : W.heap.size + 1 < w2.heap.size := Fx.var_lt o_p1
  go_wp2_with fail
  go_region_held3 (fun wx => wx.cell? ⟨W.heap.size, 0, none⟩ = some (.bool (x0).Secure) ∧ wx.cell? ⟨W.heap.size, 1, none⟩ = some (.string (x0).Host) ∧ wx.cell? ⟨W.heap.size, 2, none⟩ = some (.int .i64 (x0).Port) ∧ wx.cell? ⟨W.heap.size + 1, 0, none⟩ = some (.bool (x1).Secure) ∧ wx.cell? ⟨W.heap.size + 1, 1, none⟩ = some (.string (x1).Host) ∧ wx.cell? ⟨W.heap.size + 1, 2, none⟩ = some (.int .i64 (x1).Port)) (first | exact ⟨d2_p0_0, d2_p0_1, d2_p0_2, d2_p1_0, d2_p1_1, d2_p1_2⟩ | exact ⟨d3_p0_0, d3_p0_1, d3_p0_2, d3_p1_0, d3_p1_1, d3_p1_2⟩ | exact ⟨d4_p0_0, d4_p0_1, d4_p0_2, d4_p1_0, d4_p1_1, d4_p1_2⟩ | exact ⟨d5_p0_0, d5_p0_1, d5_p0_2, d5_p1_0, d5_p1_1, d5_p1_2⟩) (first | (go_at_call 14; (with_reducible refine (Fx.toOrigin _ x0 _ (rdsL_on H0.out HB.drew) (by omega)).mono ?_); rintro e w3 ⟨v_cw0, s_cw0, rfl, o_cw0, n_cw0, b3⟩; replace b3 := (drewN_below w2 1 _).trans b3; replace o_p0 := owns_below o_p0 b3; replace o_p1 := owns_below o_p1 b3; replace HB := HB.trans (b3.mono HB.size); have i_cw0 := Fx.madeL_in o_cw0; obtain ⟨rfl, -⟩ := Fx.Origin.owns o_cw0; have d3_p0_0 : w3.cell? ⟨W.heap.size, 0, none⟩ = some (.bool (x0).Secure) := Fx.var_load o_p0 n_p0 0 _ rfl; have d3_p0_1 : w3.cell? ⟨W.heap.size, 1, none⟩ = some (.string (x0).Host) := Fx.var_load o_p0 n_p0 1 _ rfl; have d3_p0_2 : w3.cell? ⟨W.heap.size, 2, none⟩ = some (.int .i64 (x0).Port) := Fx.var_load o_p0 n_p0 2 _ rfl; have d3_p1_0 : w3.cell? ⟨W.heap.size + 1, 0, none⟩ = some (.bool (x1).Secure) := Fx.var_load o_p1 n_p1 0 _ rfl; have d3_p1_1 : w3.cell? ⟨W.heap.size + 1, 1, none⟩ = some (.string (x1).Host) := Fx.var_load o_p1 n_p1 1 _ rfl; have d3_p1_2 : w3.cell? ⟨W.heap.size + 1, 2, none⟩ = some (.int .i64 (x1).Port) := Fx.var_load o_p1 n_p1 2 _ rfl; have e3_p0 : W.heap.size < w3.heap.size := Fx.var_lt o_p0; have e3_p1 : W.heap.size + 1 < w3.heap.size := Fx.var_lt o_p1) | (go_at_call 14; (with_reducible refine (Fx.toOrigin _ x1 _ (rdsL_on H1.out HB) (by omega)).mono ?_); rintro e w4 ⟨v_cw1, s_cw1, rfl, o_cw1, n_cw1, b4⟩; replace o_p0 := owns_below o_p0 b4; replace o_p1 := owns_below o_p1 b4; replace o_cw0 := ownsL_below o_cw0 b4; replace HB := HB.trans (b4.mono HB.size); have i_cw1 := Fx.madeL_in o_cw1; obtain ⟨rfl, -⟩ := Fx.Origin.owns o_cw1; have d4_p0_0 : w4.cell? ⟨W.heap.size, 0, none⟩ = some (.bool (x0).Secure) := Fx.var_load o_p0 n_p0 0 _ rfl; have d4_p0_1 : w4.cell? ⟨W.heap.size, 1, none⟩ = some (.string (x0).Host) := Fx.var_load o_p0 n_p0 1 _ rfl; have d4_p0_2 : w4.cell? ⟨W.heap.size, 2, none⟩ = some (.int .i64 (x0).Port) := Fx.var_load o_p0 n_p0 2 _ rfl; have d4_p1_0 : w4.cell? ⟨W.heap.size + 1, 0, none⟩ = some (.bool (x1).Secure) := Fx.var_load o_p1 n_p1 0 _ rfl; have d4_p1_1 : w4.cell? ⟨W.heap.size + 1, 1, none⟩ = some (.string (x1).Host) := Fx.var_load o_p1 n_p1 1 _ rfl; have d4_p1_2 : w4.cell? ⟨W.heap.size + 1, 2, none⟩ = some (.int .i64 (x1).Port) := Fx.var_load o_p1 n_p1 2 _ rfl; have e4_p0 : W.heap.size < w4.heap.size := Fx.var_lt o_p0; have e4_p1 : W.heap.size + 1 < w4.heap.size := Fx.var_lt o_p1) | (go_at_call 27; (with_reducible refine (C9b.specSame _ x0 x1 _ _ (ownsL_rds _ _ _ o_cw0) (ownsL_rds _ _ _ o_cw1) (by omega) (by omega)).mono ?_); rintro e w5 ⟨rfl, b5⟩; replace o_p0 := owns_below o_p0 b5; replace o_p1 := owns_below o_p1 b5; replace o_cw0 := ownsL_below o_cw0 b5; replace o_cw1 := ownsL_below o_cw1 b5; replace HB := HB.trans (b5.mono HB.size); have d5_p0_0 : w5.cell? ⟨W.heap.size, 0, none⟩ = some (.bool (x0).Secure) := Fx.var_load o_p0 n_p0 0 _ rfl; have d5_p0_1 : w5.cell? ⟨W.heap.size, 1, none⟩ = some (.string (x0).Host) := Fx.var_load o_p0 n_p0 1 _ rfl; have d5_p0_2 : w5.cell? ⟨W.heap.size, 2, none⟩ = some (.int .i64 (x0).Port) := Fx.var_load o_p0 n_p0 2 _ rfl; have d5_p1_0 : w5.cell? ⟨W.heap.size + 1, 0, none⟩ = some (.bool (x1).Secure) := Fx.var_load o_p1 n_p1 0 _ rfl; have d5_p1_1 : w5.cell? ⟨W.heap.size + 1, 1, none⟩ = some (.string (x1).Host) := Fx.var_load o_p1 n_p1 1 _ rfl; have d5_p1_2 : w5.cell? ⟨W.heap.size + 1, 2, none⟩ = some (.int .i64 (x1).Port) := Fx.var_load o_p1 n_p1 2 _ rfl; have e5_p0 : W.heap.size < w5.heap.size := Fx.var_lt o_p0; have e5_p1 : W.heap.size + 1 < w5.heap.size := Fx.var_lt o_p1))
  try clear d2_p0_0 d2_p0_1 d2_p0_2 d2_p1_0 d2_p1_1 d2_p1_2 e2_p0 e2_p1
  try clear d3_p0_0 d3_p0_1 d3_p0_2 d3_p1_0 d3_p1_1 d3_p1_2 e3_p0 e3_p1
  try clear d4_p0_0 d4_p0_1 d4_p0_2 d4_p1_0 d4_p1_1 d4_p1_2 e4_p0 e4_p1
  try clear d5_p0_0 d5_p0_1 d5_p0_2 d5_p1_0 d5_p1_1 d5_p1_2 e5_p0 e5_p1
  clear o_cw0 i_cw0 n_cw0
  clear o_cw1 i_cw1 n_cw1
  have d5_p0_0 : w5.cell? ⟨W.heap.size, 0, none⟩ = some (.bool (x0).Secure) := Fx.var_load o_p0 n_p0 0 _ rfl
  have d5_p0_1 : w5.cell? ⟨W.heap.size, 1, none⟩ = some (.string (x0).Host) := Fx.var_load o_p0 n_p0 1 _ rfl
  have d5_p0_2 : w5.cell? ⟨W.heap.size, 2, none⟩ = some (.int .i64 (x0).Port) := Fx.var_load o_p0 n_p0 2 _ rfl
  have d5_p1_0 : w5.cell? ⟨W.heap.size + 1, 0, none⟩ = some (.bool (x1).Secure) := Fx.var_load o_p1 n_p1 0 _ rfl
  have d5_p1_1 : w5.cell? ⟨W.heap.size + 1, 1, none⟩ = some (.string (x1).Host) := Fx.var_load o_p1 n_p1 1 _ rfl
  have d5_p1_2 : w5.cell? ⟨W.heap.size + 1, 2, none⟩ = some (.int .i64 (x1).Port) := Fx.var_load o_p1 n_p1 2 _ rfl
  have e5_p0 : W.heap.size < w5.heap.size := Fx.var_lt o_p0
  have e5_p1 : W.heap.size + 1 < w5.heap.size := Fx.var_lt o_p1
  go_wp2_with fail
  go_region_held3 (fun wx => wx.cell? ⟨W.heap.size, 0, none⟩ = some (.bool (x0).Secure) ∧ wx.cell? ⟨W.heap.size, 1, none⟩ = some (.string (x0).Host) ∧ wx.cell? ⟨W.heap.size, 2, none⟩ = some (.int .i64 (x0).Port) ∧ wx.cell? ⟨W.heap.size + 1, 0, none⟩ = some (.bool (x1).Secure) ∧ wx.cell? ⟨W.heap.size + 1, 1, none⟩ = some (.string (x1).Host) ∧ wx.cell? ⟨W.heap.size + 1, 2, none⟩ = some (.int .i64 (x1).Port)) (first | exact ⟨d5_p0_0, d5_p0_1, d5_p0_2, d5_p1_0, d5_p1_1, d5_p1_2⟩ | exact ⟨d6_p0_0, d6_p0_1, d6_p0_2, d6_p1_0, d6_p1_1, d6_p1_2⟩ | exact ⟨d7_p0_0, d7_p0_1, d7_p0_2, d7_p1_0, d7_p1_1, d7_p1_2⟩ | exact ⟨d8_p0_0, d8_p0_1, d8_p0_2, d8_p1_0, d8_p1_1, d8_p1_2⟩) (first | (go_at_call 14; (with_reducible refine (Fx.toOrigin _ x0 _ (rdsL_on H0.out HB.drew) (by omega)).mono ?_); rintro e w6 ⟨v_cg0, s_cg0, rfl, o_cg0, n_cg0, b6⟩; replace b6 := (drewN_below w5 1 _).trans b6; replace o_p0 := owns_below o_p0 b6; replace o_p1 := owns_below o_p1 b6; replace HB := HB.trans (b6.mono HB.size); have i_cg0 := Fx.madeL_in o_cg0; obtain ⟨rfl, -⟩ := Fx.Origin.owns o_cg0; have d6_p0_0 : w6.cell? ⟨W.heap.size, 0, none⟩ = some (.bool (x0).Secure) := Fx.var_load o_p0 n_p0 0 _ rfl; have d6_p0_1 : w6.cell? ⟨W.heap.size, 1, none⟩ = some (.string (x0).Host) := Fx.var_load o_p0 n_p0 1 _ rfl; have d6_p0_2 : w6.cell? ⟨W.heap.size, 2, none⟩ = some (.int .i64 (x0).Port) := Fx.var_load o_p0 n_p0 2 _ rfl; have d6_p1_0 : w6.cell? ⟨W.heap.size + 1, 0, none⟩ = some (.bool (x1).Secure) := Fx.var_load o_p1 n_p1 0 _ rfl; have d6_p1_1 : w6.cell? ⟨W.heap.size + 1, 1, none⟩ = some (.string (x1).Host) := Fx.var_load o_p1 n_p1 1 _ rfl; have d6_p1_2 : w6.cell? ⟨W.heap.size + 1, 2, none⟩ = some (.int .i64 (x1).Port) := Fx.var_load o_p1 n_p1 2 _ rfl; have e6_p0 : W.heap.size < w6.heap.size := Fx.var_lt o_p0; have e6_p1 : W.heap.size + 1 < w6.heap.size := Fx.var_lt o_p1) | (go_at_call 14; (with_reducible refine (Fx.toOrigin _ x1 _ (rdsL_on H1.out HB) (by omega)).mono ?_); rintro e w7 ⟨v_cg1, s_cg1, rfl, o_cg1, n_cg1, b7⟩; replace o_p0 := owns_below o_p0 b7; replace o_p1 := owns_below o_p1 b7; replace o_cg0 := ownsL_below o_cg0 b7; replace HB := HB.trans (b7.mono HB.size); have i_cg1 := Fx.madeL_in o_cg1; obtain ⟨rfl, -⟩ := Fx.Origin.owns o_cg1; have d7_p0_0 : w7.cell? ⟨W.heap.size, 0, none⟩ = some (.bool (x0).Secure) := Fx.var_load o_p0 n_p0 0 _ rfl; have d7_p0_1 : w7.cell? ⟨W.heap.size, 1, none⟩ = some (.string (x0).Host) := Fx.var_load o_p0 n_p0 1 _ rfl; have d7_p0_2 : w7.cell? ⟨W.heap.size, 2, none⟩ = some (.int .i64 (x0).Port) := Fx.var_load o_p0 n_p0 2 _ rfl; have d7_p1_0 : w7.cell? ⟨W.heap.size + 1, 0, none⟩ = some (.bool (x1).Secure) := Fx.var_load o_p1 n_p1 0 _ rfl; have d7_p1_1 : w7.cell? ⟨W.heap.size + 1, 1, none⟩ = some (.string (x1).Host) := Fx.var_load o_p1 n_p1 1 _ rfl; have d7_p1_2 : w7.cell? ⟨W.heap.size + 1, 2, none⟩ = some (.int .i64 (x1).Port) := Fx.var_load o_p1 n_p1 2 _ rfl; have e7_p0 : W.heap.size < w7.heap.size := Fx.var_lt o_p0; have e7_p1 : W.heap.size + 1 < w7.heap.size := Fx.var_lt o_p1) | (go_at_call 28; (with_reducible refine (C9i.implSame _ x0 x1 _ _ (ownsL_rds _ _ _ o_cg0) (ownsL_rds _ _ _ o_cg1) (by omega) (by omega)).mono ?_); rintro e w8 ⟨rfl, b8⟩; replace o_p0 := owns_below o_p0 b8; replace o_p1 := owns_below o_p1 b8; replace o_cg0 := ownsL_below o_cg0 b8; replace o_cg1 := ownsL_below o_cg1 b8; replace HB := HB.trans (b8.mono HB.size); have d8_p0_0 : w8.cell? ⟨W.heap.size, 0, none⟩ = some (.bool (x0).Secure) := Fx.var_load o_p0 n_p0 0 _ rfl; have d8_p0_1 : w8.cell? ⟨W.heap.size, 1, none⟩ = some (.string (x0).Host) := Fx.var_load o_p0 n_p0 1 _ rfl; have d8_p0_2 : w8.cell? ⟨W.heap.size, 2, none⟩ = some (.int .i64 (x0).Port) := Fx.var_load o_p0 n_p0 2 _ rfl; have d8_p1_0 : w8.cell? ⟨W.heap.size + 1, 0, none⟩ = some (.bool (x1).Secure) := Fx.var_load o_p1 n_p1 0 _ rfl; have d8_p1_1 : w8.cell? ⟨W.heap.size + 1, 1, none⟩ = some (.string (x1).Host) := Fx.var_load o_p1 n_p1 1 _ rfl; have d8_p1_2 : w8.cell? ⟨W.heap.size + 1, 2, none⟩ = some (.int .i64 (x1).Port) := Fx.var_load o_p1 n_p1 2 _ rfl; have e8_p0 : W.heap.size < w8.heap.size := Fx.var_lt o_p0; have e8_p1 : W.heap.size + 1 < w8.heap.size := Fx.var_lt o_p1))
  try clear d5_p0_0 d5_p0_1 d5_p0_2 d5_p1_0 d5_p1_1 d5_p1_2 e5_p0 e5_p1
  try clear d6_p0_0 d6_p0_1 d6_p0_2 d6_p1_0 d6_p1_1 d6_p1_2 e6_p0 e6_p1
  try clear d7_p0_0 d7_p0_1 d7_p0_2 d7_p1_0 d7_p1_1 d7_p1_2 e7_p0 e7_p1
  try clear d8_p0_0 d8_p0_1 d8_p0_2 d8_p1_0 d8_p1_1 d8_p1_2 e8_p0 e8_p1
  clear o_cg0 i_cg0 n_cg0
  clear o_cg1 i_cg1 n_cg1
  go_wp2
  go_ret
  exact ⟨rfl, HB⟩

set_option maxRecDepth 100000 in
theorem contract (H : Type) (enc : TypeId × Value → H) (W : World) (base : Nat) (args : Array Value) (ds gs : List (DataW H)) (before : List MemPlace)
    (hval : ∀ (j : Nat) t v, Try.f8.params[j]? = some t → args[j]? = some v → Value.okWide Try.prog W .any base t v)
    (hW : DataW.Whole enc Try.prog Try.f8.params.toList Rows.fnExactIsSameSiteSpec.vars false W args.toList ds gs before) :
    Calls Try.prog 8 args W fun e W' => ∃ v, e = .returned v ∧ Rows.fnExactIsSameSiteSpec.post enc Try.prog Try.f8 false true false false W args v W' := by
  have hW' := hW
  obtain ⟨p, q, hA0, hV, rfl, hfz, hnd⟩ := hW
  have hA : DataW.TrodAll enc Try.prog W 0 (fun _ => true) true Try.f8.params.toList args.toList ds p := hA0
  rw [Try.params8] at hA hval
  obtain ⟨v0, vs0, d0, ds0, p0, q0, hargs, rfl, rfl, h0, r0⟩ := trodAll_cons hA
  obtain ⟨v1, vs1, d1, ds1, p1, q1, rfl, rfl, rfl, h1, r1⟩ := trodAll_cons r0
  obtain ⟨rfl, rfl, rfl⟩ := trodAll_nil r1
  obtain rfl : args = #[v0, v1] := by cases args; simp_all
  obtain ⟨rfl, rfl⟩ := trodVars_none hV
  clear hA0
  refine Fr.closeLaw rfl (by kernel_rfl) (by rw [Try.params8]; decide) hW' rfl ?_
  exact walk v0 v1 W (hval 0 28 v0 rfl rfl) h0 (hval 1 28 v1 rfl rfl) h1

set_option maxRecDepth 100000 in
theorem reads (os : Os) {H : Type} (enc : TypeId × Value → H) : ∃ places, DataW.whole enc Try.prog ((World.holding Try.prog os ⟨#[], #[], []⟩).forCall (fun _ _ => 0) ⟨#[], #[.agg #[.bool false, .string ⟨#[]⟩, .int .i64 0], .agg #[.bool false, .string ⟨#[]⟩, .int .i64 0]], []⟩).memory Try.f8.params.toList Rows.fnExactIsSameSiteSpec.vars false (#[.agg #[.bool false, .string ⟨#[]⟩, .int .i64 0], .agg #[.bool false, .string ⟨#[]⟩, .int .i64 0]] : Array Value).toList 8 = some ([.agg [.lit (.bool false), .lit (.string []), .lit (.int .i64 0)], .agg [.lit (.bool false), .lit (.string []), .lit (.int .i64 0)]], [], places) :=
  ⟨[], by kernel_rfl⟩
set_option maxRecDepth 100000 in
theorem lifted (os : Os) (started : os.Started) (H : Type) (enc : TypeId × Value → H) (F : Stop.Interp) :
    ReturnsInHanded {} Try.checked os 8 .any ((OpenSpec.ofChange Rows.fnExactIsSameSiteSpec).preRow enc Try.prog Try.f8 Rows.fnExactIsSameSiteRow.domain false Rows.fnExactIsSameSiteRow.laid) (((OpenSpec.ofChange Rows.fnExactIsSameSiteSpec).at F).post enc Try.prog Try.f8 false true false false) := by
  obtain ⟨places, hx⟩ := reads os enc
  refine returnsInHanded_of_row (C := Try.checked) (s := OpenSpec.ofChange Rows.fnExactIsSameSiteSpec) Fr.own started (by kernel_rfl) Try.func8
    (witness_row_atRef (enc := enc) (C := Try.checked) false (World.holding Try.prog os ⟨#[], #[], []⟩) #[.agg #[.bool false, .string ⟨#[]⟩, .int .i64 0], .agg #[.bool false, .string ⟨#[]⟩, .int .i64 0]] rfl (by kernel_rfl) (by kernel_rfl) (by kernel_rfl)
      (OpenSpec.preRow_of_cond 8 hx (by kernel_rfl) (fun k hk => by cases hk) (by kernel_rfl) (laidMetH_nil _ _))) ?_
  intro W base args ds gs before hval hW _ hcond _ hL _ _
  exact contract H enc W base args ds gs before hval hW
set_option maxRecDepth 100000 in
theorem said : Rows.FnExactIsSameSiteSaid :=
  OpenClaim.holds_of_cond 8 Try.f8 rfl rfl rfl rfl rfl rfl rfl ⟨rfl, rfl, rfl, rfl, rfl⟩ rfl rfl rfl rfl rfl (by kernel_rfl) Try.func8 (by kernel_rfl)
    (of_decide_eq_true (by kernel_rfl)) (by unfold Func.isWrapper; first | (rw [if_pos (by decide +kernel)]; kernel_rfl) | (rw [if_neg (by decide +kernel)]; exact ⟨rfl, rfl⟩))
    (fun os started H enc _ F => by rw [OpenClaim.pre_eq_preRow]; exact lifted os started H enc F)
theorem proved : Rows.FnExactIsSameSiteSaid := said
#print axioms proved
end Go.Proofs.Ytogoppknimpkbaa.fnExactIsSameSite
