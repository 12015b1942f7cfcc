/-
  laws.FnExactEqualBundles returns true at every argument, and leaves what came in as it was: the program's EqualBundles answers as the model's (slices of more than 1048576 elements are passed over by the law itself). Conditions: none.
-/
import Derived.Test.YtoedfeacpllkeaaFr
import Derived.Stop.Joined
import Derived.Test.YtoedfeacpllkeaaDg
import Derived.Test.YtoedfeacpllkeaaSo
import Derived.Test.YtoedfeacpllkeaaM1
import Derived.Test.YtoedfeacpllkeaaYBundle
import Derived.Test.YtoedfeacpllkeaaM26
import Derived.Test.YtoedfeacpllkeaaC17i
import Derived.Test.YtoedfeacpllkeaaC17j
import Derived.Test.YtoedfeacpllkeaaC17k
import Derived.Test.YtoedfeacpllkeaaC17s
import Derived.Test.YtoedfeacpllkeaaC17x
namespace Go.Proofs.Ytoedfeacpllkeaa.fnExactEqualBundles
open Go.ChangeShapes Go.WideShapes Go.ChangeAt Go.RowKit
set_option linter.unusedVariables false

open S0 S9 Dm in
set_option maxHeartbeats 8000000 in
set_option maxRecDepth 100000 in
theorem walk (v0 : Value) (v1 : Value) (W : World) {H : Type} {enc : TypeId × Value → H} {b0 : Nat} {d0 : DataW H} {p0 : List MemPlace} (hv0 : Value.okWide Try.prog W .any b0 42 v0) (ht0 : DataW.Trod enc Try.prog W 0 (fun _ => true) true 42 v0 d0 p0) {b1 : Nat} {d1 : DataW H} {p1 : List MemPlace} (hv1 : Value.okWide Try.prog W .any b1 42 v1) (ht1 : DataW.Trod enc Try.prog W 0 (fun _ => true) true 42 v1 d1 p1) :
    Calls Try.prog 12 #[v0, v1] W fun e w' => e = .returned (.bool true) ∧ Below W.heap.size W w' := by
  obtain ⟨vs0, x0, rfl, hr0, ho0⟩ := Fx.argBundle hv0 ht0
  clear ht0 hv0
  obtain ⟨A_p0_Entries, c_p0_Entries, rfl, -⟩ := Fx.Bundle.rds hr0
  have H0 := Lib.hid hr0
  clear hr0
  have hwx0 := Nat.le_of_eq (Fx.Bundle.wt x0)
  have hwy0 := Nat.le_of_eq (Fx.Bundle.wt x0).symm
  have hcx0 := Fx.cntTb_Bundle x0
  obtain ⟨vs1, x1, rfl, hr1, ho1⟩ := Fx.argBundle hv1 ht1
  clear ht1 hv1
  obtain ⟨A_p1_Entries, c_p1_Entries, rfl, -⟩ := Fx.Bundle.rds hr1
  have H1 := Lib.hid hr1
  clear hr1
  have hwx1 := Nat.le_of_eq (Fx.Bundle.wt x1)
  have hwy1 := Nat.le_of_eq (Fx.Bundle.wt x1).symm
  have hcx1 := Fx.cntTb_Bundle x1
  have hnx := Nat.le_of_eq (C17x.en_wt x0.Entries)
  have hmx := Nat.le_of_eq (C17x.en_wt x0.Entries).symm
  have hnz := Nat.le_of_eq (C17x.en_wt x1.Entries)
  have hmz := Nat.le_of_eq (C17x.en_wt x1.Entries).symm
  have HB : Below W.heap.size W W := Below.refl _ _
  obtain ⟨q0, hq0⟩ : ∃ x, x = W.alloc (.cells #[.slice A_p0_Entries (x0).Entries.length c_p0_Entries] 42) := ⟨_, rfl⟩
  have o_p0 := Fx.var_owns W 42 1 [.slice A_p0_Entries (x0).Entries.length c_p0_Entries] rfl
  have n_p0 : [W.heap.size].Nodup := by simp
  have bq0 : Below W.heap.size W q0 := hq0 ▸ (Below.refl _ _).alloc (Nat.le_refl _) _
  rw [← hq0] at o_p0
  have sq0 : q0.heap.size = W.heap.size + 1 := by rw [hq0]; simp
  replace HB := HB.trans (bq0.mono HB.size)
  have i_p0 := Fx.made_in o_p0
  obtain ⟨q1, hq1⟩ : ∃ x, x = q0.alloc (.cells #[.slice A_p1_Entries (x1).Entries.length c_p1_Entries] 42) := ⟨_, rfl⟩
  have o_p1 := Fx.var_owns q0 42 1 [.slice A_p1_Entries (x1).Entries.length c_p1_Entries] rfl
  have n_p1 : [q0.heap.size].Nodup := by simp
  have bq1 : Below q0.heap.size q0 q1 := hq1 ▸ (Below.refl _ _).alloc (Nat.le_refl _) _
  rw [← hq1] at o_p1
  rw [sq0] at o_p1 n_p1
  have sq1 : q1.heap.size = W.heap.size + 1 + 1 := by rw [hq1]; simp [sq0]
  replace o_p0 := owns_below o_p0 bq1
  replace HB := HB.trans (bq1.mono HB.size)
  have i_p1 := Fx.made_in o_p1
  go_enter Try.func12, Try.ntmps12
  go_wp2_with fail
  rw [← hq0]
  rw [← hq1]
  (with_reducible refine (Fx.szBundle _ x0 _ (1048576) (rdsL_on H0.out HB) ho0 (by omega) (by omega)).mono ?_); rintro e w1 ⟨rfl, b1⟩
  replace o_p0 := owns_below o_p0 b1
  replace o_p1 := owns_below o_p1 b1
  replace HB := HB.trans (b1.mono HB.size)
  by_cases big0 : (wtL (Fx.Bundle.dcs x0) : Int) ≤ 1048576
  rotate_left
  · rw [if_neg big0]
    go_wp2
    go_ret
    exact ⟨rfl, HB⟩
  rw [if_pos big0]
  have d_p1_0 : w1.cell? ⟨W.heap.size + 1, 0, none⟩ = some (.slice A_p1_Entries (x1).Entries.length c_p1_Entries) := Fx.var_load o_p1 n_p1 0 _ rfl
  have e_p1 : W.heap.size + 1 < w1.heap.size := Fx.var_lt o_p1
  go_wp2_with fail
  (with_reducible refine (Fx.szBundle _ x1 _ (1048576 - (wtL (Fx.Bundle.dcs x0) : Int)) (rdsL_on H1.out HB) ho1 (by omega) (by omega)).mono ?_); rintro e w2 ⟨rfl, b2⟩
  clear d_p1_0 e_p1
  replace o_p0 := owns_below o_p0 b2
  replace o_p1 := owns_below o_p1 b2
  replace HB := HB.trans (b2.mono HB.size)
  by_cases big1 : (wtL (Fx.Bundle.dcs x1) : Int) ≤ 1048576 - (wtL (Fx.Bundle.dcs x0) : Int)
  rotate_left
  · rw [if_neg big1]
    go_wp2
    go_ret
    exact ⟨rfl, HB⟩
  rw [if_pos big1]
  have d2_p0_0 : w2.cell? ⟨W.heap.size, 0, none⟩ = some (.slice A_p0_Entries (x0).Entries.length c_p0_Entries) := Fx.var_load o_p0 n_p0 0 _ rfl
  have d2_p1_0 : w2.cell? ⟨W.heap.size + 1, 0, none⟩ = some (.slice A_p1_Entries (x1).Entries.length c_p1_Entries) := Fx.var_load o_p1 n_p1 0 _ rfl
  have e2_p0 : W.heap.size < w2.heap.size := Fx.var_lt o_p0
  have e2_p1 : W.heap.size + 1 < w2.heap.size := Fx.var_lt o_p1
  go_wp2_with fail
  go_region_held3 (fun wx => wx.cell? ⟨W.heap.size, 0, none⟩ = some (.slice A_p0_Entries (x0).Entries.length c_p0_Entries) ∧ wx.cell? ⟨W.heap.size + 1, 0, none⟩ = some (.slice A_p1_Entries (x1).Entries.length c_p1_Entries)) (first | exact ⟨d2_p0_0, d2_p1_0⟩ | exact ⟨d3_p0_0, d3_p1_0⟩ | exact ⟨d4_p0_0, d4_p1_0⟩ | exact ⟨d5_p0_0, d5_p1_0⟩) (first | (go_at_call 28; (with_reducible refine (Fx.toBundle _ x0 _ (rdsL_on H0.out HB.drew) (by omega)).mono ?_); rintro e w3 ⟨v_cw0, s_cw0, rfl, o_cw0, n_cw0, b3⟩; replace b3 := (drewN_below w2 1 _).trans b3; replace o_p0 := owns_below o_p0 b3; replace o_p1 := owns_below o_p1 b3; replace HB := HB.trans (b3.mono HB.size); have i_cw0 := Fx.madeL_in o_cw0; obtain ⟨A_cw0_Entries, c_cw0_Entries, _, rfl, -, -⟩ := Fx.Bundle.owns o_cw0; have d3_p0_0 : w3.cell? ⟨W.heap.size, 0, none⟩ = some (.slice A_p0_Entries (x0).Entries.length c_p0_Entries) := Fx.var_load o_p0 n_p0 0 _ rfl; have d3_p1_0 : w3.cell? ⟨W.heap.size + 1, 0, none⟩ = some (.slice A_p1_Entries (x1).Entries.length c_p1_Entries) := Fx.var_load o_p1 n_p1 0 _ rfl; have e3_p0 : W.heap.size < w3.heap.size := Fx.var_lt o_p0; have e3_p1 : W.heap.size + 1 < w3.heap.size := Fx.var_lt o_p1) | (go_at_call 28; (with_reducible refine (Fx.toBundle _ x1 _ (rdsL_on H1.out HB) (by omega)).mono ?_); rintro e w4 ⟨v_cw1, s_cw1, rfl, o_cw1, n_cw1, b4⟩; replace o_p0 := owns_below o_p0 b4; replace o_p1 := owns_below o_p1 b4; replace o_cw0 := ownsL_below o_cw0 b4; replace HB := HB.trans (b4.mono HB.size); have i_cw1 := Fx.madeL_in o_cw1; obtain ⟨A_cw1_Entries, c_cw1_Entries, _, rfl, -, -⟩ := Fx.Bundle.owns o_cw1; have d4_p0_0 : w4.cell? ⟨W.heap.size, 0, none⟩ = some (.slice A_p0_Entries (x0).Entries.length c_p0_Entries) := Fx.var_load o_p0 n_p0 0 _ rfl; have d4_p1_0 : w4.cell? ⟨W.heap.size + 1, 0, none⟩ = some (.slice A_p1_Entries (x1).Entries.length c_p1_Entries) := Fx.var_load o_p1 n_p1 0 _ rfl; have e4_p0 : W.heap.size < w4.heap.size := Fx.var_lt o_p0; have e4_p1 : W.heap.size + 1 < w4.heap.size := Fx.var_lt o_p1) | (go_at_call 39; (with_reducible refine (C17x.specEql _ x0 x1 _ _ (E0.ownsL_shsL _ _ _ o_cw0) (E0.ownsL_shsL _ _ _ o_cw1) (by omega) (by omega)).mono ?_); rintro e w5 ⟨rfl, b5⟩; replace o_p0 := owns_below o_p0 b5; replace o_p1 := owns_below o_p1 b5; replace o_cw0 := ownsL_below o_cw0 b5; replace o_cw1 := ownsL_below o_cw1 b5; replace HB := HB.trans (b5.mono HB.size); have d5_p0_0 : w5.cell? ⟨W.heap.size, 0, none⟩ = some (.slice A_p0_Entries (x0).Entries.length c_p0_Entries) := Fx.var_load o_p0 n_p0 0 _ rfl; have d5_p1_0 : w5.cell? ⟨W.heap.size + 1, 0, none⟩ = some (.slice A_p1_Entries (x1).Entries.length c_p1_Entries) := Fx.var_load o_p1 n_p1 0 _ rfl; have e5_p0 : W.heap.size < w5.heap.size := Fx.var_lt o_p0; have e5_p1 : W.heap.size + 1 < w5.heap.size := Fx.var_lt o_p1))
  try clear d2_p0_0 d2_p1_0 e2_p0 e2_p1
  try clear d3_p0_0 d3_p1_0 e3_p0 e3_p1
  try clear d4_p0_0 d4_p1_0 e4_p0 e4_p1
  try clear d5_p0_0 d5_p1_0 e5_p0 e5_p1
  clear o_cw0 i_cw0 n_cw0
  clear o_cw1 i_cw1 n_cw1
  have d_p0_0 : w5.cell? ⟨W.heap.size, 0, none⟩ = some (.slice A_p0_Entries (x0).Entries.length c_p0_Entries) := Fx.var_load o_p0 n_p0 0 _ rfl
  have e_p0 : W.heap.size < w5.heap.size := Fx.var_lt o_p0
  go_wp2_with fail
  (with_reducible refine (Fx.toBundle _ x0 _ (rdsL_on H0.out HB) (by omega)).mono ?_); rintro e w6 ⟨v_y0, s_y0, rfl, o_y0, n_y0, b6⟩
  clear d_p0_0 e_p0
  replace o_p0 := owns_below o_p0 b6
  replace o_p1 := owns_below o_p1 b6
  replace HB := HB.trans (b6.mono HB.size)
  have i_y0 := Fx.madeL_in o_y0
  obtain ⟨A_y0_Entries, c_y0_Entries, _, rfl, -, -⟩ := Fx.Bundle.owns o_y0
  have d_p0_0 : w6.cell? ⟨W.heap.size, 0, none⟩ = some (.slice A_p0_Entries (x0).Entries.length c_p0_Entries) := Fx.var_load o_p0 n_p0 0 _ rfl
  have e_p0 : W.heap.size < w6.heap.size := Fx.var_lt o_p0
  have d_p1_0 : w6.cell? ⟨W.heap.size + 1, 0, none⟩ = some (.slice A_p1_Entries (x1).Entries.length c_p1_Entries) := Fx.var_load o_p1 n_p1 0 _ rfl
  have e_p1 : W.heap.size + 1 < w6.heap.size := Fx.var_lt o_p1
  go_wp2_with fail
  clear d_p0_0 e_p0 d_p1_0 e_p1
  obtain ⟨w7, hw7⟩ : ∃ y, y = w6.alloc (.cells #[.slice A_y0_Entries (x0).Entries.length c_y0_Entries] 26) := ⟨_, rfl⟩
  have o_y0v := Fx.var_owns w6 26 1 [.slice A_y0_Entries (x0).Entries.length c_y0_Entries] rfl
  have b7 : Below w6.heap.size w6 w7 := hw7 ▸ (Below.refl _ _).alloc (Nat.le_refl _) _
  rw [← hw7] at o_y0v ⊢
  clear hw7
  replace o_p0 := owns_below o_p0 b7
  replace o_p1 := owns_below o_p1 b7
  replace o_y0 := ownsL_below o_y0 b7
  replace HB := HB.trans (b7.mono HB.size)
  have n_y0v : [w6.heap.size].Nodup := by simp
  have i_y0v := Fx.made_in o_y0v
  (with_reducible refine (Fx.toBundle _ x1 _ (rdsL_on H1.out HB) (by omega)).mono ?_); rintro e w8 ⟨v_y1, s_y1, rfl, o_y1, n_y1, b8⟩
  replace o_p0 := owns_below o_p0 b8
  replace o_p1 := owns_below o_p1 b8
  replace o_y0 := ownsL_below o_y0 b8
  replace o_y0v := owns_below o_y0v b8
  replace HB := HB.trans (b8.mono HB.size)
  have i_y1 := Fx.madeL_in o_y1
  obtain ⟨A_y1_Entries, c_y1_Entries, _, rfl, -, -⟩ := Fx.Bundle.owns o_y1
  have d_p0_0 : w8.cell? ⟨W.heap.size, 0, none⟩ = some (.slice A_p0_Entries (x0).Entries.length c_p0_Entries) := Fx.var_load o_p0 n_p0 0 _ rfl
  have e_p0 : W.heap.size < w8.heap.size := Fx.var_lt o_p0
  have d_p1_0 : w8.cell? ⟨W.heap.size + 1, 0, none⟩ = some (.slice A_p1_Entries (x1).Entries.length c_p1_Entries) := Fx.var_load o_p1 n_p1 0 _ rfl
  have e_p1 : W.heap.size + 1 < w8.heap.size := Fx.var_lt o_p1
  have d_y0v_0 : w8.cell? ⟨w6.heap.size, 0, none⟩ = some (.slice A_y0_Entries (x0).Entries.length c_y0_Entries) := Fx.var_load o_y0v n_y0v 0 _ rfl
  have e_y0v : w6.heap.size < w8.heap.size := Fx.var_lt o_y0v
  go_wp2_with fail
  clear d_p0_0 e_p0 d_p1_0 e_p1 d_y0v_0 e_y0v
  obtain ⟨w9, hw9⟩ : ∃ y, y = w8.alloc (.cells #[.slice A_y1_Entries (x1).Entries.length c_y1_Entries] 26) := ⟨_, rfl⟩
  have o_y1v := Fx.var_owns w8 26 1 [.slice A_y1_Entries (x1).Entries.length c_y1_Entries] rfl
  have b9 : Below w8.heap.size w8 w9 := hw9 ▸ (Below.refl _ _).alloc (Nat.le_refl _) _
  rw [← hw9] at o_y1v ⊢
  clear hw9
  replace o_p0 := owns_below o_p0 b9
  replace o_p1 := owns_below o_p1 b9
  replace o_y0 := ownsL_below o_y0 b9
  replace o_y0v := owns_below o_y0v b9
  replace o_y1 := ownsL_below o_y1 b9
  replace HB := HB.trans (b9.mono HB.size)
  have n_y1v : [w8.heap.size].Nodup := by simp
  have i_y1v := Fx.made_in o_y1v
  (with_reducible refine (C17x.implEql _ x0 x1 _ _ (E0.ownsL_shsL _ _ _ o_y0) (E0.ownsL_shsL _ _ _ o_y1) (by omega) (by omega)).mono ?_); rintro e w10 ⟨rfl, b10⟩
  replace o_p0 := owns_below o_p0 b10
  replace o_p1 := owns_below o_p1 b10
  replace o_y0 := ownsL_below o_y0 b10
  replace o_y0v := owns_below o_y0v b10
  replace o_y1 := ownsL_below o_y1 b10
  replace o_y1v := owns_below o_y1v b10
  replace HB := HB.trans (b10.mono HB.size)
  have d10_y0v_0 : w10.cell? ⟨w6.heap.size, 0, none⟩ = some (.slice A_y0_Entries (x0).Entries.length c_y0_Entries) := Fx.var_load o_y0v n_y0v 0 _ rfl
  have d10_p0_0 : w10.cell? ⟨W.heap.size, 0, none⟩ = some (.slice A_p0_Entries (x0).Entries.length c_p0_Entries) := Fx.var_load o_p0 n_p0 0 _ rfl
  have e10_y0v : w6.heap.size < w10.heap.size := Fx.var_lt o_y0v
  have e10_p0 : W.heap.size < w10.heap.size := Fx.var_lt o_p0
  go_wp2_with fail
  go_region_held3 (fun wx => wx.cell? ⟨w6.heap.size, 0, none⟩ = some (.slice A_y0_Entries (x0).Entries.length c_y0_Entries) ∧ wx.cell? ⟨W.heap.size, 0, none⟩ = some (.slice A_p0_Entries (x0).Entries.length c_p0_Entries)) (first | exact ⟨d10_y0v_0, d10_p0_0⟩ | exact ⟨d11_y0v_0, d11_p0_0⟩ | exact ⟨d12_y0v_0, d12_p0_0⟩) (first | (go_at_call 28; (with_reducible refine (Fx.toBundle _ x0 _ (rdsL_on H0.out HB.drew) (by omega)).mono ?_); rintro e w11 ⟨v_t0, s_t0, rfl, o_t0, n_t0, b11⟩; replace b11 := (drewN_below w10 1 _).trans b11; replace o_p0 := owns_below o_p0 b11; replace o_p1 := owns_below o_p1 b11; replace o_y0 := ownsL_below o_y0 b11; replace o_y0v := owns_below o_y0v b11; replace o_y1 := ownsL_below o_y1 b11; replace o_y1v := owns_below o_y1v b11; replace HB := HB.trans (b11.mono HB.size); have i_t0 := Fx.madeL_in o_t0; obtain ⟨A_t0_Entries, c_t0_Entries, _, rfl, -, -⟩ := Fx.Bundle.owns o_t0; have d11_y0v_0 : w11.cell? ⟨w6.heap.size, 0, none⟩ = some (.slice A_y0_Entries (x0).Entries.length c_y0_Entries) := Fx.var_load o_y0v n_y0v 0 _ rfl; have d11_p0_0 : w11.cell? ⟨W.heap.size, 0, none⟩ = some (.slice A_p0_Entries (x0).Entries.length c_p0_Entries) := Fx.var_load o_p0 n_p0 0 _ rfl; have e11_y0v : w6.heap.size < w11.heap.size := Fx.var_lt o_y0v; have e11_p0 : W.heap.size < w11.heap.size := Fx.var_lt o_p0) | (go_at_call 29; (with_reducible refine (Fx.eqBundle _ x0 _ _ (ownsL_rds _ _ _ o_y0) (ownsL_rds _ _ _ o_t0) (by omega)).mono ?_); rintro e w12 ⟨rfl, b12⟩; replace o_p0 := owns_below o_p0 b12; replace o_p1 := owns_below o_p1 b12; replace o_y0 := ownsL_below o_y0 b12; replace o_y0v := owns_below o_y0v b12; replace o_y1 := ownsL_below o_y1 b12; replace o_y1v := owns_below o_y1v b12; replace o_t0 := ownsL_below o_t0 b12; replace HB := HB.trans (b12.mono HB.size); have d12_y0v_0 : w12.cell? ⟨w6.heap.size, 0, none⟩ = some (.slice A_y0_Entries (x0).Entries.length c_y0_Entries) := Fx.var_load o_y0v n_y0v 0 _ rfl; have d12_p0_0 : w12.cell? ⟨W.heap.size, 0, none⟩ = some (.slice A_p0_Entries (x0).Entries.length c_p0_Entries) := Fx.var_load o_p0 n_p0 0 _ rfl; have e12_y0v : w6.heap.size < w12.heap.size := Fx.var_lt o_y0v; have e12_p0 : W.heap.size < w12.heap.size := Fx.var_lt o_p0))
  try clear d10_y0v_0 d10_p0_0 e10_y0v e10_p0
  try clear d11_y0v_0 d11_p0_0 e11_y0v e11_p0
  try clear d12_y0v_0 d12_p0_0 e12_y0v e12_p0
  try clear o_t0 i_t0 n_t0
  have d12_y1v_0 : w12.cell? ⟨w8.heap.size, 0, none⟩ = some (.slice A_y1_Entries (x1).Entries.length c_y1_Entries) := Fx.var_load o_y1v n_y1v 0 _ rfl
  have d12_p1_0 : w12.cell? ⟨W.heap.size + 1, 0, none⟩ = some (.slice A_p1_Entries (x1).Entries.length c_p1_Entries) := Fx.var_load o_p1 n_p1 0 _ rfl
  have e12_y1v : w8.heap.size < w12.heap.size := Fx.var_lt o_y1v
  have e12_p1 : W.heap.size + 1 < w12.heap.size := Fx.var_lt o_p1
  go_wp2_with fail
  go_region_held3 (fun wx => wx.cell? ⟨w8.heap.size, 0, none⟩ = some (.slice A_y1_Entries (x1).Entries.length c_y1_Entries) ∧ wx.cell? ⟨W.heap.size + 1, 0, none⟩ = some (.slice A_p1_Entries (x1).Entries.length c_p1_Entries)) (first | exact ⟨d12_y1v_0, d12_p1_0⟩ | exact ⟨d13_y1v_0, d13_p1_0⟩ | exact ⟨d14_y1v_0, d14_p1_0⟩) (first | (go_at_call 28; (with_reducible refine (Fx.toBundle _ x1 _ (rdsL_on H1.out HB.drew) (by omega)).mono ?_); rintro e w13 ⟨v_t1, s_t1, rfl, o_t1, n_t1, b13⟩; replace b13 := (drewN_below w12 1 _).trans b13; replace o_p0 := owns_below o_p0 b13; replace o_p1 := owns_below o_p1 b13; replace o_y0 := ownsL_below o_y0 b13; replace o_y0v := owns_below o_y0v b13; replace o_y1 := ownsL_below o_y1 b13; replace o_y1v := owns_below o_y1v b13; replace HB := HB.trans (b13.mono HB.size); have i_t1 := Fx.madeL_in o_t1; obtain ⟨A_t1_Entries, c_t1_Entries, _, rfl, -, -⟩ := Fx.Bundle.owns o_t1; have d13_y1v_0 : w13.cell? ⟨w8.heap.size, 0, none⟩ = some (.slice A_y1_Entries (x1).Entries.length c_y1_Entries) := Fx.var_load o_y1v n_y1v 0 _ rfl; have d13_p1_0 : w13.cell? ⟨W.heap.size + 1, 0, none⟩ = some (.slice A_p1_Entries (x1).Entries.length c_p1_Entries) := Fx.var_load o_p1 n_p1 0 _ rfl; have e13_y1v : w8.heap.size < w13.heap.size := Fx.var_lt o_y1v; have e13_p1 : W.heap.size + 1 < w13.heap.size := Fx.var_lt o_p1) | (go_at_call 29; (with_reducible refine (Fx.eqBundle _ x1 _ _ (ownsL_rds _ _ _ o_y1) (ownsL_rds _ _ _ o_t1) (by omega)).mono ?_); rintro e w14 ⟨rfl, b14⟩; replace o_p0 := owns_below o_p0 b14; replace o_p1 := owns_below o_p1 b14; replace o_y0 := ownsL_below o_y0 b14; replace o_y0v := owns_below o_y0v b14; replace o_y1 := ownsL_below o_y1 b14; replace o_y1v := owns_below o_y1v b14; replace o_t1 := ownsL_below o_t1 b14; replace HB := HB.trans (b14.mono HB.size); have d14_y1v_0 : w14.cell? ⟨w8.heap.size, 0, none⟩ = some (.slice A_y1_Entries (x1).Entries.length c_y1_Entries) := Fx.var_load o_y1v n_y1v 0 _ rfl; have d14_p1_0 : w14.cell? ⟨W.heap.size + 1, 0, none⟩ = some (.slice A_p1_Entries (x1).Entries.length c_p1_Entries) := Fx.var_load o_p1 n_p1 0 _ rfl; have e14_y1v : w8.heap.size < w14.heap.size := Fx.var_lt o_y1v; have e14_p1 : W.heap.size + 1 < w14.heap.size := Fx.var_lt o_p1))
  try clear d12_y1v_0 d12_p1_0 e12_y1v e12_p1
  try clear d13_y1v_0 d13_p1_0 e13_y1v e13_p1
  try clear d14_y1v_0 d14_p1_0 e14_y1v e14_p1
  try clear o_t1 i_t1 n_t1
  go_wp2
  go_ret
  exact ⟨rfl, HB⟩

set_option maxRecDepth 100000 in
theorem contract (H : Type) (enc : TypeId × Value → H) (W : World) (base : Nat) (args : Array Value) (ds gs : List (DataW H)) (before : List MemPlace)
    (hval : ∀ (j : Nat) t v, Try.f12.params[j]? = some t → args[j]? = some v → Value.okWide Try.prog W .any base t v)
    (hW : DataW.Whole enc Try.prog Try.f12.params.toList Rows.fnExactEqualBundlesSpec.vars false W args.toList ds gs before) :
    Calls Try.prog 12 args W fun e W' => ∃ v, e = .returned v ∧ Rows.fnExactEqualBundlesSpec.post enc Try.prog Try.f12 false true false false W args v W' := by
  have hW' := hW
  obtain ⟨p, q, hA0, hV, rfl, hfz, hnd⟩ := hW
  have hA : DataW.TrodAll enc Try.prog W 0 (fun _ => true) true Try.f12.params.toList args.toList ds p := hA0
  rw [Try.params12] at hA hval
  obtain ⟨v0, vs0, d0, ds0, p0, q0, hargs, rfl, rfl, h0, r0⟩ := trodAll_cons hA
  obtain ⟨v1, vs1, d1, ds1, p1, q1, rfl, rfl, rfl, h1, r1⟩ := trodAll_cons r0
  obtain ⟨rfl, rfl, rfl⟩ := trodAll_nil r1
  obtain rfl : args = #[v0, v1] := by cases args; simp_all
  obtain ⟨rfl, rfl⟩ := trodVars_none hV
  clear hA0
  refine Fr.closeLaw rfl (by kernel_rfl) (by rw [Try.params12]; decide) hW' rfl ?_
  exact walk v0 v1 W (hval 0 42 v0 rfl rfl) h0 (hval 1 42 v1 rfl rfl) h1

set_option maxRecDepth 100000 in
theorem reads (os : Os) {H : Type} (enc : TypeId × Value → H) : ∃ places, DataW.whole enc Try.prog ((World.holding Try.prog os ⟨#[], #[], []⟩).forCall (fun _ _ => 0) ⟨#[], #[.agg #[.slice none 0 0], .agg #[.slice none 0 0]], []⟩).memory Try.f12.params.toList Rows.fnExactEqualBundlesSpec.vars false (#[.agg #[.slice none 0 0], .agg #[.slice none 0 0]] : Array Value).toList 8 = some ([.agg [.nil], .agg [.nil]], [], places) :=
  ⟨[], by kernel_rfl⟩
set_option maxRecDepth 100000 in
theorem lifted (os : Os) (started : os.Started) (H : Type) (enc : TypeId × Value → H) (F : Stop.Interp) :
    ReturnsInHanded {} Try.checked os 12 .any ((OpenSpec.ofChange Rows.fnExactEqualBundlesSpec).preRow enc Try.prog Try.f12 Rows.fnExactEqualBundlesRow.domain false Rows.fnExactEqualBundlesRow.laid) (((OpenSpec.ofChange Rows.fnExactEqualBundlesSpec).at F).post enc Try.prog Try.f12 false true false false) := by
  obtain ⟨places, hx⟩ := reads os enc
  refine returnsInHanded_of_row (C := Try.checked) (s := OpenSpec.ofChange Rows.fnExactEqualBundlesSpec) Fr.own started (by kernel_rfl) Try.func12
    (witness_row_atRef (enc := enc) (C := Try.checked) false (World.holding Try.prog os ⟨#[], #[], []⟩) #[.agg #[.slice none 0 0], .agg #[.slice none 0 0]] rfl (by kernel_rfl) (by kernel_rfl) (by kernel_rfl)
      (OpenSpec.preRow_of_cond 8 hx (by kernel_rfl) (fun k hk => by cases hk) (by kernel_rfl) (laidMetH_nil _ _))) ?_
  intro W base args ds gs before hval hW _ hcond _ hL _ _
  exact contract H enc W base args ds gs before hval hW
set_option maxRecDepth 100000 in
theorem said : Rows.FnExactEqualBundlesSaid :=
  OpenClaim.holds_of_cond 12 Try.f12 rfl rfl rfl rfl rfl rfl rfl ⟨rfl, rfl, rfl, rfl, rfl⟩ rfl rfl rfl rfl rfl (by kernel_rfl) Try.func12 (by kernel_rfl)
    (of_decide_eq_true (by kernel_rfl)) (by unfold Func.isWrapper; first | (rw [if_pos (by decide +kernel)]; kernel_rfl) | (rw [if_neg (by decide +kernel)]; exact ⟨rfl, rfl⟩))
    (fun os started H enc _ F => by rw [OpenClaim.pre_eq_preRow]; exact lifted os started H enc F)
theorem proved : Rows.FnExactEqualBundlesSaid := said
#print axioms proved
end Go.Proofs.Ytoedfeacpllkeaa.fnExactEqualBundles
