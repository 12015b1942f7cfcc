/-
  laws.FnExactCheckAttestation returns true at every argument, and leaves what came in as it was: the program's CheckAttestation answers as the model's (slices of more than 1048576 elements are passed over by the law itself). Conditions: none.
-/
import Derived.Test.YtpeagjpcdoegoaaFr
import Derived.Stop.Joined
import Derived.Test.YtpeagjpcdoegoaaDg
import Derived.Test.YtpeagjpcdoegoaaSo
import Derived.Test.YtpeagjpcdoegoaaM1
import Derived.Test.YtpeagjpcdoegoaaYVendorList
import Derived.Test.YtpeagjpcdoegoaaYAttestation
import Derived.Test.YtpeagjpcdoegoaaC11
import Derived.Test.YtpeagjpcdoegoaaC11b
import Derived.Test.YtpeagjpcdoegoaaC11c
import Derived.Test.YtpeagjpcdoegoaaC11i
namespace Go.Proofs.Ytpeagjpcdoegoaa.fnExactCheckAttestation
open Go.ChangeShapes Go.WideShapes Go.ChangeAt Go.RowKit
set_option linter.unusedVariables false

open S0 S9 Dm in
set_option maxHeartbeats 8000000 in
set_option maxRecDepth 100000 in
theorem walk (v0 : Value) (v1 : Value) (W : World) {H : Type} {enc : TypeId × Value → H} {b0 : Nat} {d0 : DataW H} {p0 : List MemPlace} (hv0 : Value.okWide Try.prog W .any b0 46 v0) (ht0 : DataW.Trod enc Try.prog W 0 (fun _ => true) true 46 v0 d0 p0) {b1 : Nat} {d1 : DataW H} {p1 : List MemPlace} (hv1 : Value.okWide Try.prog W .any b1 51 v1) (ht1 : DataW.Trod enc Try.prog W 0 (fun _ => true) true 51 v1 d1 p1) :
    Calls Try.prog 7 #[v0, v1] W fun e w' => e = .returned (.bool true) ∧ Below W.heap.size W w' := by
  obtain ⟨vs0, x0, rfl, hr0, ho0⟩ := Fx.argVendorList hv0 ht0
  clear ht0 hv0
  obtain ⟨A_p0_Revoked, c_p0_Revoked, rfl, -⟩ := Fx.VendorList.rds hr0
  have H0 := Lib.hid hr0
  clear hr0
  have hwx0 := Nat.le_of_eq (Fx.VendorList.wt x0)
  have hwy0 := Nat.le_of_eq (Fx.VendorList.wt x0).symm
  have hcx0 := Fx.cntTb_VendorList x0
  obtain ⟨vs1, x1, rfl, hr1, ho1⟩ := Fx.argAttestation hv1 ht1
  clear ht1 hv1
  obtain rfl := Fx.Attestation.rds hr1
  have H1 := Lib.hid hr1
  clear hr1
  have hwx1 := Nat.le_of_eq (Fx.Attestation.wt x1)
  have hwy1 := Nat.le_of_eq (Fx.Attestation.wt x1).symm
  have hnx := Nat.le_of_eq (Fx.wt_numsD x0.Revoked)
  have hmx := Nat.le_of_eq (Fx.wt_numsD x0.Revoked).symm
  have HB : Below W.heap.size W W := Below.refl _ _
  obtain ⟨q0, hq0⟩ : ∃ x, x = W.alloc (.cells #[.int .i64 (x0).Master, .slice A_p0_Revoked (x0).Revoked.length c_p0_Revoked] 46) := ⟨_, rfl⟩
  have o_p0 := Fx.var_owns W 46 2 [.int .i64 (x0).Master, .slice A_p0_Revoked (x0).Revoked.length c_p0_Revoked] rfl
  have n_p0 : [W.heap.size].Nodup := by simp
  have bq0 : Below W.heap.size W q0 := hq0 ▸ (Below.refl _ _).alloc (Nat.le_refl _) _
  rw [← hq0] at o_p0
  have sq0 : q0.heap.size = W.heap.size + 1 := by rw [hq0]; simp
  replace HB := HB.trans (bq0.mono HB.size)
  have i_p0 := Fx.made_in o_p0
  obtain ⟨q1, hq1⟩ : ∃ x, x = q0.alloc (.cells #[.int .i64 (x1).Vendor, .int .i64 (x1).Serial, .int .i64 (x1).Key, .int .i64 (x1).Signature] 51) := ⟨_, rfl⟩
  have o_p1 := Fx.var_owns q0 51 4 [.int .i64 (x1).Vendor, .int .i64 (x1).Serial, .int .i64 (x1).Key, .int .i64 (x1).Signature] rfl
  have n_p1 : [q0.heap.size].Nodup := by simp
  have bq1 : Below q0.heap.size q0 q1 := hq1 ▸ (Below.refl _ _).alloc (Nat.le_refl _) _
  rw [← hq1] at o_p1
  rw [sq0] at o_p1 n_p1
  have sq1 : q1.heap.size = W.heap.size + 1 + 1 := by rw [hq1]; simp [sq0]
  replace o_p0 := owns_below o_p0 bq1
  replace HB := HB.trans (bq1.mono HB.size)
  have i_p1 := Fx.made_in o_p1
  go_enter Try.func7, Try.ntmps7
  go_wp2_with fail
  rw [← hq0]
  rw [← hq1]
  (with_reducible refine (Fx.szVendorList _ x0 _ (1048576) (rdsL_on H0.out HB) ho0 (by omega) (by omega)).mono ?_); rintro e w1 ⟨rfl, b1⟩
  replace o_p0 := owns_below o_p0 b1
  replace o_p1 := owns_below o_p1 b1
  replace HB := HB.trans (b1.mono HB.size)
  by_cases big0 : (wtL (Fx.VendorList.dcs x0) : Int) ≤ 1048576
  rotate_left
  · rw [if_neg big0]
    go_wp2
    go_ret
    exact ⟨rfl, HB⟩
  rw [if_pos big0]
  have d1_p0_0 : w1.cell? ⟨W.heap.size, 0, none⟩ = some (.int .i64 (x0).Master) := Fx.var_load o_p0 n_p0 0 _ rfl
  have d1_p0_1 : w1.cell? ⟨W.heap.size, 1, none⟩ = some (.slice A_p0_Revoked (x0).Revoked.length c_p0_Revoked) := Fx.var_load o_p0 n_p0 1 _ rfl
  have d1_p1_0 : w1.cell? ⟨W.heap.size + 1, 0, none⟩ = some (.int .i64 (x1).Vendor) := Fx.var_load o_p1 n_p1 0 _ rfl
  have d1_p1_1 : w1.cell? ⟨W.heap.size + 1, 1, none⟩ = some (.int .i64 (x1).Serial) := Fx.var_load o_p1 n_p1 1 _ rfl
  have d1_p1_2 : w1.cell? ⟨W.heap.size + 1, 2, none⟩ = some (.int .i64 (x1).Key) := Fx.var_load o_p1 n_p1 2 _ rfl
  have d1_p1_3 : w1.cell? ⟨W.heap.size + 1, 3, none⟩ = some (.int .i64 (x1).Signature) := Fx.var_load o_p1 n_p1 3 _ rfl
  have e1_p0 : W.heap.size < w1.heap.size := Fx.var_lt o_p0
  have e1_p1 : W.heap.size + 1 < w1.heap.size := Fx.var_lt o_p1
  go_wp2_with fail
  go_region_held3 (fun wx => wx.cell? ⟨W.heap.size, 0, none⟩ = some (.int .i64 (x0).Master) ∧ wx.cell? ⟨W.heap.size, 1, none⟩ = some (.slice A_p0_Revoked (x0).Revoked.length c_p0_Revoked) ∧ wx.cell? ⟨W.heap.size + 1, 0, none⟩ = some (.int .i64 (x1).Vendor) ∧ wx.cell? ⟨W.heap.size + 1, 1, none⟩ = some (.int .i64 (x1).Serial) ∧ wx.cell? ⟨W.heap.size + 1, 2, none⟩ = some (.int .i64 (x1).Key) ∧ wx.cell? ⟨W.heap.size + 1, 3, none⟩ = some (.int .i64 (x1).Signature)) (first | exact ⟨d1_p0_0, d1_p0_1, d1_p1_0, d1_p1_1, d1_p1_2, d1_p1_3⟩ | exact ⟨d2_p0_0, d2_p0_1, d2_p1_0, d2_p1_1, d2_p1_2, d2_p1_3⟩ | exact ⟨d3_p0_0, d3_p0_1, d3_p1_0, d3_p1_1, d3_p1_2, d3_p1_3⟩ | exact ⟨d4_p0_0, d4_p0_1, d4_p1_0, d4_p1_1, d4_p1_2, d4_p1_3⟩) (first | (go_at_call 28; (with_reducible refine (Fx.toVendorList _ x0 _ (rdsL_on H0.out HB.drew) (by omega)).mono ?_); rintro e w2 ⟨v_cw0, s_cw0, rfl, o_cw0, n_cw0, b2⟩; replace b2 := (drewN_below w1 1 _).trans b2; replace o_p0 := owns_below o_p0 b2; replace o_p1 := owns_below o_p1 b2; replace HB := HB.trans (b2.mono HB.size); have i_cw0 := Fx.madeL_in o_cw0; obtain ⟨A_cw0_Revoked, c_cw0_Revoked, _, rfl, -, -⟩ := Fx.VendorList.owns o_cw0; have d2_p0_0 : w2.cell? ⟨W.heap.size, 0, none⟩ = some (.int .i64 (x0).Master) := Fx.var_load o_p0 n_p0 0 _ rfl; have d2_p0_1 : w2.cell? ⟨W.heap.size, 1, none⟩ = some (.slice A_p0_Revoked (x0).Revoked.length c_p0_Revoked) := Fx.var_load o_p0 n_p0 1 _ rfl; have d2_p1_0 : w2.cell? ⟨W.heap.size + 1, 0, none⟩ = some (.int .i64 (x1).Vendor) := Fx.var_load o_p1 n_p1 0 _ rfl; have d2_p1_1 : w2.cell? ⟨W.heap.size + 1, 1, none⟩ = some (.int .i64 (x1).Serial) := Fx.var_load o_p1 n_p1 1 _ rfl; have d2_p1_2 : w2.cell? ⟨W.heap.size + 1, 2, none⟩ = some (.int .i64 (x1).Key) := Fx.var_load o_p1 n_p1 2 _ rfl; have d2_p1_3 : w2.cell? ⟨W.heap.size + 1, 3, none⟩ = some (.int .i64 (x1).Signature) := Fx.var_load o_p1 n_p1 3 _ rfl; have e2_p0 : W.heap.size < w2.heap.size := Fx.var_lt o_p0; have e2_p1 : W.heap.size + 1 < w2.heap.size := Fx.var_lt o_p1) | (go_at_call 31; (with_reducible refine (Fx.toAttestation _ x1 _ (rdsL_on H1.out HB) (by omega)).mono ?_); rintro e w3 ⟨v_cw1, s_cw1, rfl, o_cw1, n_cw1, b3⟩; replace o_p0 := owns_below o_p0 b3; replace o_p1 := owns_below o_p1 b3; replace o_cw0 := ownsL_below o_cw0 b3; replace HB := HB.trans (b3.mono HB.size); have i_cw1 := Fx.madeL_in o_cw1; obtain ⟨rfl, -⟩ := Fx.Attestation.owns o_cw1; have d3_p0_0 : w3.cell? ⟨W.heap.size, 0, none⟩ = some (.int .i64 (x0).Master) := Fx.var_load o_p0 n_p0 0 _ rfl; have d3_p0_1 : w3.cell? ⟨W.heap.size, 1, none⟩ = some (.slice A_p0_Revoked (x0).Revoked.length c_p0_Revoked) := Fx.var_load o_p0 n_p0 1 _ rfl; have d3_p1_0 : w3.cell? ⟨W.heap.size + 1, 0, none⟩ = some (.int .i64 (x1).Vendor) := Fx.var_load o_p1 n_p1 0 _ rfl; have d3_p1_1 : w3.cell? ⟨W.heap.size + 1, 1, none⟩ = some (.int .i64 (x1).Serial) := Fx.var_load o_p1 n_p1 1 _ rfl; have d3_p1_2 : w3.cell? ⟨W.heap.size + 1, 2, none⟩ = some (.int .i64 (x1).Key) := Fx.var_load o_p1 n_p1 2 _ rfl; have d3_p1_3 : w3.cell? ⟨W.heap.size + 1, 3, none⟩ = some (.int .i64 (x1).Signature) := Fx.var_load o_p1 n_p1 3 _ rfl; have e3_p0 : W.heap.size < w3.heap.size := Fx.var_lt o_p0; have e3_p1 : W.heap.size + 1 < w3.heap.size := Fx.var_lt o_p1) | (go_at_call 30; (with_reducible refine (C11c.specChk _ x0 x1 _ _ (ownsL_rds _ _ _ o_cw0) (ownsL_rds _ _ _ o_cw1) ho0 ho1 (by omega)).mono ?_); rintro e w4 ⟨rfl, b4⟩; replace o_p0 := owns_below o_p0 b4; replace o_p1 := owns_below o_p1 b4; replace o_cw0 := ownsL_below o_cw0 b4; replace o_cw1 := ownsL_below o_cw1 b4; replace HB := HB.trans (b4.mono HB.size); have d4_p0_0 : w4.cell? ⟨W.heap.size, 0, none⟩ = some (.int .i64 (x0).Master) := Fx.var_load o_p0 n_p0 0 _ rfl; have d4_p0_1 : w4.cell? ⟨W.heap.size, 1, none⟩ = some (.slice A_p0_Revoked (x0).Revoked.length c_p0_Revoked) := Fx.var_load o_p0 n_p0 1 _ rfl; have d4_p1_0 : w4.cell? ⟨W.heap.size + 1, 0, none⟩ = some (.int .i64 (x1).Vendor) := Fx.var_load o_p1 n_p1 0 _ rfl; have d4_p1_1 : w4.cell? ⟨W.heap.size + 1, 1, none⟩ = some (.int .i64 (x1).Serial) := Fx.var_load o_p1 n_p1 1 _ rfl; have d4_p1_2 : w4.cell? ⟨W.heap.size + 1, 2, none⟩ = some (.int .i64 (x1).Key) := Fx.var_load o_p1 n_p1 2 _ rfl; have d4_p1_3 : w4.cell? ⟨W.heap.size + 1, 3, none⟩ = some (.int .i64 (x1).Signature) := Fx.var_load o_p1 n_p1 3 _ rfl; have e4_p0 : W.heap.size < w4.heap.size := Fx.var_lt o_p0; have e4_p1 : W.heap.size + 1 < w4.heap.size := Fx.var_lt o_p1))
  try clear d1_p0_0 d1_p0_1 d1_p1_0 d1_p1_1 d1_p1_2 d1_p1_3 e1_p0 e1_p1
  try clear d2_p0_0 d2_p0_1 d2_p1_0 d2_p1_1 d2_p1_2 d2_p1_3 e2_p0 e2_p1
  try clear d3_p0_0 d3_p0_1 d3_p1_0 d3_p1_1 d3_p1_2 d3_p1_3 e3_p0 e3_p1
  try clear d4_p0_0 d4_p0_1 d4_p1_0 d4_p1_1 d4_p1_2 d4_p1_3 e4_p0 e4_p1
  clear o_cw0 i_cw0 n_cw0
  clear o_cw1 i_cw1 n_cw1
  have d_p0_0 : w4.cell? ⟨W.heap.size, 0, none⟩ = some (.int .i64 (x0).Master) := Fx.var_load o_p0 n_p0 0 _ rfl
  have d_p0_1 : w4.cell? ⟨W.heap.size, 1, none⟩ = some (.slice A_p0_Revoked (x0).Revoked.length c_p0_Revoked) := Fx.var_load o_p0 n_p0 1 _ rfl
  have e_p0 : W.heap.size < w4.heap.size := Fx.var_lt o_p0
  go_wp2_with fail
  (with_reducible refine (Fx.toVendorList _ x0 _ (rdsL_on H0.out HB) (by omega)).mono ?_); rintro e w5 ⟨v_y0, s_y0, rfl, o_y0, n_y0, b5⟩
  clear d_p0_0 d_p0_1 e_p0
  replace o_p0 := owns_below o_p0 b5
  replace o_p1 := owns_below o_p1 b5
  replace HB := HB.trans (b5.mono HB.size)
  have i_y0 := Fx.madeL_in o_y0
  obtain ⟨A_y0_Revoked, c_y0_Revoked, _, rfl, -, -⟩ := Fx.VendorList.owns o_y0
  have d_p0_0 : w5.cell? ⟨W.heap.size, 0, none⟩ = some (.int .i64 (x0).Master) := Fx.var_load o_p0 n_p0 0 _ rfl
  have d_p0_1 : w5.cell? ⟨W.heap.size, 1, none⟩ = some (.slice A_p0_Revoked (x0).Revoked.length c_p0_Revoked) := Fx.var_load o_p0 n_p0 1 _ rfl
  have e_p0 : W.heap.size < w5.heap.size := Fx.var_lt o_p0
  have d_p1_0 : w5.cell? ⟨W.heap.size + 1, 0, none⟩ = some (.int .i64 (x1).Vendor) := Fx.var_load o_p1 n_p1 0 _ rfl
  have d_p1_1 : w5.cell? ⟨W.heap.size + 1, 1, none⟩ = some (.int .i64 (x1).Serial) := Fx.var_load o_p1 n_p1 1 _ rfl
  have d_p1_2 : w5.cell? ⟨W.heap.size + 1, 2, none⟩ = some (.int .i64 (x1).Key) := Fx.var_load o_p1 n_p1 2 _ rfl
  have d_p1_3 : w5.cell? ⟨W.heap.size + 1, 3, none⟩ = some (.int .i64 (x1).Signature) := Fx.var_load o_p1 n_p1 3 _ rfl
  have e_p1 : W.heap.size + 1 < w5.heap.size := Fx.var_lt o_p1
  go_wp2_with fail
  clear d_p0_0 d_p0_1 e_p0 d_p1_0 d_p1_1 d_p1_2 d_p1_3 e_p1
  obtain ⟨w6, hw6⟩ : ∃ y, y = w5.alloc (.cells #[.int .i64 (x0).Master, .slice A_y0_Revoked (x0).Revoked.length c_y0_Revoked] 27) := ⟨_, rfl⟩
  have o_y0v := Fx.var_owns w5 27 2 [.int .i64 (x0).Master, .slice A_y0_Revoked (x0).Revoked.length c_y0_Revoked] rfl
  have b6 : Below w5.heap.size w5 w6 := hw6 ▸ (Below.refl _ _).alloc (Nat.le_refl _) _
  rw [← hw6] at o_y0v ⊢
  clear hw6
  replace o_p0 := owns_below o_p0 b6
  replace o_p1 := owns_below o_p1 b6
  replace o_y0 := ownsL_below o_y0 b6
  replace HB := HB.trans (b6.mono HB.size)
  have n_y0v : [w5.heap.size].Nodup := by simp
  have i_y0v := Fx.made_in o_y0v
  have d6_y0v_0 : w6.cell? ⟨w5.heap.size, 0, none⟩ = some (.int .i64 (x0).Master) := Fx.var_load o_y0v n_y0v 0 _ rfl
  have d6_y0v_1 : w6.cell? ⟨w5.heap.size, 1, none⟩ = some (.slice A_y0_Revoked (x0).Revoked.length c_y0_Revoked) := Fx.var_load o_y0v n_y0v 1 _ rfl
  have d6_p1_0 : w6.cell? ⟨W.heap.size + 1, 0, none⟩ = some (.int .i64 (x1).Vendor) := Fx.var_load o_p1 n_p1 0 _ rfl
  have d6_p1_1 : w6.cell? ⟨W.heap.size + 1, 1, none⟩ = some (.int .i64 (x1).Serial) := Fx.var_load o_p1 n_p1 1 _ rfl
  have d6_p1_2 : w6.cell? ⟨W.heap.size + 1, 2, none⟩ = some (.int .i64 (x1).Key) := Fx.var_load o_p1 n_p1 2 _ rfl
  have d6_p1_3 : w6.cell? ⟨W.heap.size + 1, 3, none⟩ = some (.int .i64 (x1).Signature) := Fx.var_load o_p1 n_p1 3 _ rfl
  have e6_y0v : w5.heap.size < w6.heap.size := Fx.var_lt o_y0v
  have e6_p1 : W.heap.size + 1 < w6.heap.size := Fx.var_lt o_p1
  go_region_held3 (fun wx => wx.cell? ⟨w5.heap.size, 0, none⟩ = some (.int .i64 (x0).Master) ∧ wx.cell? ⟨w5.heap.size, 1, none⟩ = some (.slice A_y0_Revoked (x0).Revoked.length c_y0_Revoked) ∧ wx.cell? ⟨W.heap.size + 1, 0, none⟩ = some (.int .i64 (x1).Vendor) ∧ wx.cell? ⟨W.heap.size + 1, 1, none⟩ = some (.int .i64 (x1).Serial) ∧ wx.cell? ⟨W.heap.size + 1, 2, none⟩ = some (.int .i64 (x1).Key) ∧ wx.cell? ⟨W.heap.size + 1, 3, none⟩ = some (.int .i64 (x1).Signature)) (first | exact ⟨d6_y0v_0, d6_y0v_1, d6_p1_0, d6_p1_1, d6_p1_2, d6_p1_3⟩ | exact ⟨d7_y0v_0, d7_y0v_1, d7_p1_0, d7_p1_1, d7_p1_2, d7_p1_3⟩ | exact ⟨d8_y0v_0, d8_y0v_1, d8_p1_0, d8_p1_1, d8_p1_2, d8_p1_3⟩) (first | (go_at_call 31; (with_reducible refine (Fx.toAttestation _ x1 _ (rdsL_on H1.out HB.drew) (by omega)).mono ?_); rintro e w7 ⟨v_cg1, s_cg1, rfl, o_cg1, n_cg1, b7⟩; replace b7 := (drewN_below w6 1 _).trans b7; replace o_p0 := owns_below o_p0 b7; replace o_p1 := owns_below o_p1 b7; replace o_y0 := ownsL_below o_y0 b7; replace o_y0v := owns_below o_y0v b7; replace HB := HB.trans (b7.mono HB.size); have i_cg1 := Fx.madeL_in o_cg1; obtain ⟨rfl, -⟩ := Fx.Attestation.owns o_cg1; have d7_y0v_0 : w7.cell? ⟨w5.heap.size, 0, none⟩ = some (.int .i64 (x0).Master) := Fx.var_load o_y0v n_y0v 0 _ rfl; have d7_y0v_1 : w7.cell? ⟨w5.heap.size, 1, none⟩ = some (.slice A_y0_Revoked (x0).Revoked.length c_y0_Revoked) := Fx.var_load o_y0v n_y0v 1 _ rfl; have d7_p1_0 : w7.cell? ⟨W.heap.size + 1, 0, none⟩ = some (.int .i64 (x1).Vendor) := Fx.var_load o_p1 n_p1 0 _ rfl; have d7_p1_1 : w7.cell? ⟨W.heap.size + 1, 1, none⟩ = some (.int .i64 (x1).Serial) := Fx.var_load o_p1 n_p1 1 _ rfl; have d7_p1_2 : w7.cell? ⟨W.heap.size + 1, 2, none⟩ = some (.int .i64 (x1).Key) := Fx.var_load o_p1 n_p1 2 _ rfl; have d7_p1_3 : w7.cell? ⟨W.heap.size + 1, 3, none⟩ = some (.int .i64 (x1).Signature) := Fx.var_load o_p1 n_p1 3 _ rfl; have e7_y0v : w5.heap.size < w7.heap.size := Fx.var_lt o_y0v; have e7_p1 : W.heap.size + 1 < w7.heap.size := Fx.var_lt o_p1) | (go_at_call 18; (with_reducible refine (C11i.implChk _ x0 x1 _ _ (ownsL_rds _ _ _ o_y0) (ownsL_rds _ _ _ o_cg1) ho0 ho1 (by omega)).mono ?_); rintro e w8 ⟨rfl, b8⟩; replace o_p0 := owns_below o_p0 b8; replace o_p1 := owns_below o_p1 b8; replace o_y0 := ownsL_below o_y0 b8; replace o_y0v := owns_below o_y0v b8; replace o_cg1 := ownsL_below o_cg1 b8; replace HB := HB.trans (b8.mono HB.size); have d8_y0v_0 : w8.cell? ⟨w5.heap.size, 0, none⟩ = some (.int .i64 (x0).Master) := Fx.var_load o_y0v n_y0v 0 _ rfl; have d8_y0v_1 : w8.cell? ⟨w5.heap.size, 1, none⟩ = some (.slice A_y0_Revoked (x0).Revoked.length c_y0_Revoked) := Fx.var_load o_y0v n_y0v 1 _ rfl; have d8_p1_0 : w8.cell? ⟨W.heap.size + 1, 0, none⟩ = some (.int .i64 (x1).Vendor) := Fx.var_load o_p1 n_p1 0 _ rfl; have d8_p1_1 : w8.cell? ⟨W.heap.size + 1, 1, none⟩ = some (.int .i64 (x1).Serial) := Fx.var_load o_p1 n_p1 1 _ rfl; have d8_p1_2 : w8.cell? ⟨W.heap.size + 1, 2, none⟩ = some (.int .i64 (x1).Key) := Fx.var_load o_p1 n_p1 2 _ rfl; have d8_p1_3 : w8.cell? ⟨W.heap.size + 1, 3, none⟩ = some (.int .i64 (x1).Signature) := Fx.var_load o_p1 n_p1 3 _ rfl; have e8_y0v : w5.heap.size < w8.heap.size := Fx.var_lt o_y0v; have e8_p1 : W.heap.size + 1 < w8.heap.size := Fx.var_lt o_p1))
  try clear d6_y0v_0 d6_y0v_1 d6_p1_0 d6_p1_1 d6_p1_2 d6_p1_3 e6_y0v e6_p1
  try clear d7_y0v_0 d7_y0v_1 d7_p1_0 d7_p1_1 d7_p1_2 d7_p1_3 e7_y0v e7_p1
  try clear d8_y0v_0 d8_y0v_1 d8_p1_0 d8_p1_1 d8_p1_2 d8_p1_3 e8_y0v e8_p1
  clear o_cg1 i_cg1 n_cg1
  have d8_y0v_0 : w8.cell? ⟨w5.heap.size, 0, none⟩ = some (.int .i64 (x0).Master) := Fx.var_load o_y0v n_y0v 0 _ rfl
  have d8_y0v_1 : w8.cell? ⟨w5.heap.size, 1, none⟩ = some (.slice A_y0_Revoked (x0).Revoked.length c_y0_Revoked) := Fx.var_load o_y0v n_y0v 1 _ rfl
  have d8_p0_0 : w8.cell? ⟨W.heap.size, 0, none⟩ = some (.int .i64 (x0).Master) := Fx.var_load o_p0 n_p0 0 _ rfl
  have d8_p0_1 : w8.cell? ⟨W.heap.size, 1, none⟩ = some (.slice A_p0_Revoked (x0).Revoked.length c_p0_Revoked) := Fx.var_load o_p0 n_p0 1 _ rfl
  have e8_y0v : w5.heap.size < w8.heap.size := Fx.var_lt o_y0v
  have e8_p0 : W.heap.size < w8.heap.size := Fx.var_lt o_p0
  go_wp2_with fail
  go_region_held3 (fun wx => wx.cell? ⟨w5.heap.size, 0, none⟩ = some (.int .i64 (x0).Master) ∧ wx.cell? ⟨w5.heap.size, 1, none⟩ = some (.slice A_y0_Revoked (x0).Revoked.length c_y0_Revoked) ∧ wx.cell? ⟨W.heap.size, 0, none⟩ = some (.int .i64 (x0).Master) ∧ wx.cell? ⟨W.heap.size, 1, none⟩ = some (.slice A_p0_Revoked (x0).Revoked.length c_p0_Revoked)) (first | exact ⟨d8_y0v_0, d8_y0v_1, d8_p0_0, d8_p0_1⟩ | exact ⟨d9_y0v_0, d9_y0v_1, d9_p0_0, d9_p0_1⟩ | exact ⟨d10_y0v_0, d10_y0v_1, d10_p0_0, d10_p0_1⟩) (first | (go_at_call 28; (with_reducible refine (Fx.toVendorList _ x0 _ (rdsL_on H0.out HB.drew) (by omega)).mono ?_); rintro e w9 ⟨v_t0, s_t0, rfl, o_t0, n_t0, b9⟩; replace b9 := (drewN_below w8 1 _).trans b9; replace o_p0 := owns_below o_p0 b9; replace o_p1 := owns_below o_p1 b9; replace o_y0 := ownsL_below o_y0 b9; replace o_y0v := owns_below o_y0v b9; replace HB := HB.trans (b9.mono HB.size); have i_t0 := Fx.madeL_in o_t0; obtain ⟨A_t0_Revoked, c_t0_Revoked, _, rfl, -, -⟩ := Fx.VendorList.owns o_t0; have d9_y0v_0 : w9.cell? ⟨w5.heap.size, 0, none⟩ = some (.int .i64 (x0).Master) := Fx.var_load o_y0v n_y0v 0 _ rfl; have d9_y0v_1 : w9.cell? ⟨w5.heap.size, 1, none⟩ = some (.slice A_y0_Revoked (x0).Revoked.length c_y0_Revoked) := Fx.var_load o_y0v n_y0v 1 _ rfl; have d9_p0_0 : w9.cell? ⟨W.heap.size, 0, none⟩ = some (.int .i64 (x0).Master) := Fx.var_load o_p0 n_p0 0 _ rfl; have d9_p0_1 : w9.cell? ⟨W.heap.size, 1, none⟩ = some (.slice A_p0_Revoked (x0).Revoked.length c_p0_Revoked) := Fx.var_load o_p0 n_p0 1 _ rfl; have e9_y0v : w5.heap.size < w9.heap.size := Fx.var_lt o_y0v; have e9_p0 : W.heap.size < w9.heap.size := Fx.var_lt o_p0) | (go_at_call 29; (with_reducible refine (Fx.eqVendorList _ x0 _ _ (ownsL_rds _ _ _ o_y0) (ownsL_rds _ _ _ o_t0) (by omega)).mono ?_); rintro e w10 ⟨rfl, b10⟩; replace o_p0 := owns_below o_p0 b10; replace o_p1 := owns_below o_p1 b10; replace o_y0 := ownsL_below o_y0 b10; replace o_y0v := owns_below o_y0v b10; replace o_t0 := ownsL_below o_t0 b10; replace HB := HB.trans (b10.mono HB.size); have d10_y0v_0 : w10.cell? ⟨w5.heap.size, 0, none⟩ = some (.int .i64 (x0).Master) := Fx.var_load o_y0v n_y0v 0 _ rfl; have d10_y0v_1 : w10.cell? ⟨w5.heap.size, 1, none⟩ = some (.slice A_y0_Revoked (x0).Revoked.length c_y0_Revoked) := Fx.var_load o_y0v n_y0v 1 _ rfl; have d10_p0_0 : w10.cell? ⟨W.heap.size, 0, none⟩ = some (.int .i64 (x0).Master) := Fx.var_load o_p0 n_p0 0 _ rfl; have d10_p0_1 : w10.cell? ⟨W.heap.size, 1, none⟩ = some (.slice A_p0_Revoked (x0).Revoked.length c_p0_Revoked) := Fx.var_load o_p0 n_p0 1 _ rfl; have e10_y0v : w5.heap.size < w10.heap.size := Fx.var_lt o_y0v; have e10_p0 : W.heap.size < w10.heap.size := Fx.var_lt o_p0))
  try clear d8_y0v_0 d8_y0v_1 d8_p0_0 d8_p0_1 e8_y0v e8_p0
  try clear d9_y0v_0 d9_y0v_1 d9_p0_0 d9_p0_1 e9_y0v e9_p0
  try clear d10_y0v_0 d10_y0v_1 d10_p0_0 d10_p0_1 e10_y0v e10_p0
  try clear o_t0 i_t0 n_t0
  go_wp2
  go_ret
  exact ⟨rfl, HB⟩

set_option maxRecDepth 100000 in
theorem contract (H : Type) (enc : TypeId × Value → H) (W : World) (base : Nat) (args : Array Value) (ds gs : List (DataW H)) (before : List MemPlace)
    (hval : ∀ (j : Nat) t v, Try.f7.params[j]? = some t → args[j]? = some v → Value.okWide Try.prog W .any base t v)
    (hW : DataW.Whole enc Try.prog Try.f7.params.toList Rows.fnExactCheckAttestationSpec.vars false W args.toList ds gs before) :
    Calls Try.prog 7 args W fun e W' => ∃ v, e = .returned v ∧ Rows.fnExactCheckAttestationSpec.post enc Try.prog Try.f7 false true false false W args v W' := by
  have hW' := hW
  obtain ⟨p, q, hA0, hV, rfl, hfz, hnd⟩ := hW
  have hA : DataW.TrodAll enc Try.prog W 0 (fun _ => true) true Try.f7.params.toList args.toList ds p := hA0
  rw [Try.params7] at hA hval
  obtain ⟨v0, vs0, d0, ds0, p0, q0, hargs, rfl, rfl, h0, r0⟩ := trodAll_cons hA
  obtain ⟨v1, vs1, d1, ds1, p1, q1, rfl, rfl, rfl, h1, r1⟩ := trodAll_cons r0
  obtain ⟨rfl, rfl, rfl⟩ := trodAll_nil r1
  obtain rfl : args = #[v0, v1] := by cases args; simp_all
  obtain ⟨rfl, rfl⟩ := trodVars_none hV
  clear hA0
  refine Fr.closeLaw rfl (by kernel_rfl) (by rw [Try.params7]; decide) hW' rfl ?_
  exact walk v0 v1 W (hval 0 46 v0 rfl rfl) h0 (hval 1 51 v1 rfl rfl) h1

set_option maxRecDepth 100000 in
theorem reads (os : Os) {H : Type} (enc : TypeId × Value → H) : ∃ places, DataW.whole enc Try.prog ((World.holding Try.prog os ⟨#[], #[], []⟩).forCall (fun _ _ => 0) ⟨#[], #[.agg #[.int .i64 0, .slice none 0 0], .agg #[.int .i64 0, .int .i64 0, .int .i64 0, .int .i64 0]], []⟩).memory Try.f7.params.toList Rows.fnExactCheckAttestationSpec.vars false (#[.agg #[.int .i64 0, .slice none 0 0], .agg #[.int .i64 0, .int .i64 0, .int .i64 0, .int .i64 0]] : Array Value).toList 8 = some ([.agg [.lit (.int .i64 0), .nil], .agg [.lit (.int .i64 0), .lit (.int .i64 0), .lit (.int .i64 0), .lit (.int .i64 0)]], [], places) :=
  ⟨[], by kernel_rfl⟩
set_option maxRecDepth 100000 in
theorem lifted (os : Os) (started : os.Started) (H : Type) (enc : TypeId × Value → H) (F : Stop.Interp) :
    ReturnsInHanded {} Try.checked os 7 .any ((OpenSpec.ofChange Rows.fnExactCheckAttestationSpec).preRow enc Try.prog Try.f7 Rows.fnExactCheckAttestationRow.domain false Rows.fnExactCheckAttestationRow.laid) (((OpenSpec.ofChange Rows.fnExactCheckAttestationSpec).at F).post enc Try.prog Try.f7 false true false false) := by
  obtain ⟨places, hx⟩ := reads os enc
  refine returnsInHanded_of_row (C := Try.checked) (s := OpenSpec.ofChange Rows.fnExactCheckAttestationSpec) Fr.own started (by kernel_rfl) Try.func7
    (witness_row_atRef (enc := enc) (C := Try.checked) false (World.holding Try.prog os ⟨#[], #[], []⟩) #[.agg #[.int .i64 0, .slice none 0 0], .agg #[.int .i64 0, .int .i64 0, .int .i64 0, .int .i64 0]] rfl (by kernel_rfl) (by kernel_rfl) (by kernel_rfl)
      (OpenSpec.preRow_of_cond 8 hx (by kernel_rfl) (fun k hk => by cases hk) (by kernel_rfl) (laidMetH_nil _ _))) ?_
  intro W base args ds gs before hval hW _ hcond _ hL _ _
  exact contract H enc W base args ds gs before hval hW
set_option maxRecDepth 100000 in
theorem said : Rows.FnExactCheckAttestationSaid :=
  OpenClaim.holds_of_cond 7 Try.f7 rfl rfl rfl rfl rfl rfl rfl ⟨rfl, rfl, rfl, rfl, rfl⟩ rfl rfl rfl rfl rfl (by kernel_rfl) Try.func7 (by kernel_rfl)
    (of_decide_eq_true (by kernel_rfl)) (by unfold Func.isWrapper; first | (rw [if_pos (by decide +kernel)]; kernel_rfl) | (rw [if_neg (by decide +kernel)]; exact ⟨rfl, rfl⟩))
    (fun os started H enc _ F => by rw [OpenClaim.pre_eq_preRow]; exact lifted os started H enc F)
theorem proved : Rows.FnExactCheckAttestationSaid := said
#print axioms proved
end Go.Proofs.Ytpeagjpcdoegoaa.fnExactCheckAttestation
