/-
  laws.FnExactIsBundle returns true at every argument, and leaves what came in as it was: the program's IsBundle answers as the model's (slices of more than 1048576 elements are passed over by the law itself). Conditions: none.
-/
import Derived.Test.YtoedfeacpllkeaaFr
import Derived.Stop.Joined
import Derived.Test.YtoedfeacpllkeaaDg
import Derived.Test.YtoedfeacpllkeaaSo
import Derived.Test.YtoedfeacpllkeaaM1
import Derived.Test.YtoedfeacpllkeaaYBundle
import Derived.Test.YtoedfeacpllkeaaM26
import Derived.Test.YtoedfeacpllkeaaC17i
import Derived.Test.YtoedfeacpllkeaaC17j
import Derived.Test.YtoedfeacpllkeaaC17k
import Derived.Test.YtoedfeacpllkeaaC17s
import Derived.Test.YtoedfeacpllkeaaC17x
namespace Go.Proofs.Ytoedfeacpllkeaa.fnExactIsBundle
open Go.ChangeShapes Go.WideShapes Go.ChangeAt Go.RowKit
set_option linter.unusedVariables false

open S0 S9 Dm in
set_option maxHeartbeats 8000000 in
set_option maxRecDepth 100000 in
theorem walk (v0 : Value) (W : World) {H : Type} {enc : TypeId × Value → H} {b0 : Nat} {d0 : DataW H} {p0 : List MemPlace} (hv0 : Value.okWide Try.prog W .any b0 42 v0) (ht0 : DataW.Trod enc Try.prog W 0 (fun _ => true) true 42 v0 d0 p0) :
    Calls Try.prog 5 #[v0] W fun e w' => e = .returned (.bool true) ∧ Below W.heap.size W w' := by
  obtain ⟨vs0, x0, rfl, hr0, ho0⟩ := Fx.argBundle hv0 ht0
  clear ht0 hv0
  obtain ⟨A_p0_Entries, c_p0_Entries, rfl, -⟩ := Fx.Bundle.rds hr0
  have H0 := Lib.hid hr0
  clear hr0
  have hwx0 := Nat.le_of_eq (Fx.Bundle.wt x0)
  have hwy0 := Nat.le_of_eq (Fx.Bundle.wt x0).symm
  have hcx0 := Fx.cntTb_Bundle x0
  have hnx := Nat.le_of_eq (C17x.en_wt x0.Entries)
  have hmx := Nat.le_of_eq (C17x.en_wt x0.Entries).symm
  have HB : Below W.heap.size W W := Below.refl _ _
  obtain ⟨q0, hq0⟩ : ∃ x, x = W.alloc (.cells #[.slice A_p0_Entries (x0).Entries.length c_p0_Entries] 42) := ⟨_, rfl⟩
  have o_p0 := Fx.var_owns W 42 1 [.slice A_p0_Entries (x0).Entries.length c_p0_Entries] rfl
  have n_p0 : [W.heap.size].Nodup := by simp
  have bq0 : Below W.heap.size W q0 := hq0 ▸ (Below.refl _ _).alloc (Nat.le_refl _) _
  rw [← hq0] at o_p0
  have sq0 : q0.heap.size = W.heap.size + 1 := by rw [hq0]; simp
  replace HB := HB.trans (bq0.mono HB.size)
  have i_p0 := Fx.made_in o_p0
  go_enter Try.func5, Try.ntmps5
  go_wp2_with fail
  rw [← hq0]
  (with_reducible refine (Fx.szBundle _ x0 _ (1048576) (rdsL_on H0.out HB) ho0 (by omega) (by omega)).mono ?_); rintro e w1 ⟨rfl, b1⟩
  replace o_p0 := owns_below o_p0 b1
  replace HB := HB.trans (b1.mono HB.size)
  by_cases big0 : (wtL (Fx.Bundle.dcs x0) : Int) ≤ 1048576
  rotate_left
  · rw [if_neg big0]
    go_wp2
    go_ret
    exact ⟨rfl, HB⟩
  rw [if_pos big0]
  have d_p0_0 : w1.cell? ⟨W.heap.size, 0, none⟩ = some (.slice A_p0_Entries (x0).Entries.length c_p0_Entries) := Fx.var_load o_p0 n_p0 0 _ rfl
  have e_p0 : W.heap.size < w1.heap.size := Fx.var_lt o_p0
  go_wp2_with fail
  (with_reducible refine (Fx.toBundle _ x0 _ (rdsL_on H0.out HB) (by omega)).mono ?_); rintro e w2 ⟨v_cw0, s_cw0, rfl, o_cw0, n_cw0, b2⟩
  clear d_p0_0 e_p0
  replace o_p0 := owns_below o_p0 b2
  replace HB := HB.trans (b2.mono HB.size)
  have i_cw0 := Fx.madeL_in o_cw0
  obtain ⟨A_cw0_Entries, c_cw0_Entries, _, rfl, -, -⟩ := Fx.Bundle.owns o_cw0
  go_wp2_with fail
  (with_reducible refine (C17x.specIs _ x0 _ (E0.ownsL_shsL _ _ _ o_cw0) (by omega)).mono ?_); rintro e w3 ⟨rfl, b3⟩
  replace o_p0 := owns_below o_p0 b3
  replace o_cw0 := ownsL_below o_cw0 b3
  replace HB := HB.trans (b3.mono HB.size)
  clear o_cw0 i_cw0 n_cw0
  have d_p0_0 : w3.cell? ⟨W.heap.size, 0, none⟩ = some (.slice A_p0_Entries (x0).Entries.length c_p0_Entries) := Fx.var_load o_p0 n_p0 0 _ rfl
  have e_p0 : W.heap.size < w3.heap.size := Fx.var_lt o_p0
  go_wp2_with fail
  (with_reducible refine (Fx.toBundle _ x0 _ (rdsL_on H0.out HB) (by omega)).mono ?_); rintro e w4 ⟨v_y0, s_y0, rfl, o_y0, n_y0, b4⟩
  clear d_p0_0 e_p0
  replace o_p0 := owns_below o_p0 b4
  replace HB := HB.trans (b4.mono HB.size)
  have i_y0 := Fx.madeL_in o_y0
  obtain ⟨A_y0_Entries, c_y0_Entries, _, rfl, -, -⟩ := Fx.Bundle.owns o_y0
  have d_p0_0 : w4.cell? ⟨W.heap.size, 0, none⟩ = some (.slice A_p0_Entries (x0).Entries.length c_p0_Entries) := Fx.var_load o_p0 n_p0 0 _ rfl
  have e_p0 : W.heap.size < w4.heap.size := Fx.var_lt o_p0
  go_wp2_with fail
  clear d_p0_0 e_p0
  obtain ⟨w5, hw5⟩ : ∃ y, y = w4.alloc (.cells #[.slice A_y0_Entries (x0).Entries.length c_y0_Entries] 26) := ⟨_, rfl⟩
  have o_y0v := Fx.var_owns w4 26 1 [.slice A_y0_Entries (x0).Entries.length c_y0_Entries] rfl
  have b5 : Below w4.heap.size w4 w5 := hw5 ▸ (Below.refl _ _).alloc (Nat.le_refl _) _
  rw [← hw5] at o_y0v ⊢
  clear hw5
  replace o_p0 := owns_below o_p0 b5
  replace o_y0 := ownsL_below o_y0 b5
  replace HB := HB.trans (b5.mono HB.size)
  have n_y0v : [w4.heap.size].Nodup := by simp
  have i_y0v := Fx.made_in o_y0v
  (with_reducible refine (C17x.implIs _ x0 _ (E0.ownsL_shsL _ _ _ o_y0) (by omega)).mono ?_); rintro e w6 ⟨rfl, b6⟩
  replace o_p0 := owns_below o_p0 b6
  replace o_y0 := ownsL_below o_y0 b6
  replace o_y0v := owns_below o_y0v b6
  replace HB := HB.trans (b6.mono HB.size)
  have d6_y0v_0 : w6.cell? ⟨w4.heap.size, 0, none⟩ = some (.slice A_y0_Entries (x0).Entries.length c_y0_Entries) := Fx.var_load o_y0v n_y0v 0 _ rfl
  have d6_p0_0 : w6.cell? ⟨W.heap.size, 0, none⟩ = some (.slice A_p0_Entries (x0).Entries.length c_p0_Entries) := Fx.var_load o_p0 n_p0 0 _ rfl
  have e6_y0v : w4.heap.size < w6.heap.size := Fx.var_lt o_y0v
  have e6_p0 : W.heap.size < w6.heap.size := Fx.var_lt o_p0
  go_wp2_with fail
  go_region_held3 (fun wx => wx.cell? ⟨w4.heap.size, 0, none⟩ = some (.slice A_y0_Entries (x0).Entries.length c_y0_Entries) ∧ wx.cell? ⟨W.heap.size, 0, none⟩ = some (.slice A_p0_Entries (x0).Entries.length c_p0_Entries)) (first | exact ⟨d6_y0v_0, d6_p0_0⟩ | exact ⟨d7_y0v_0, d7_p0_0⟩ | exact ⟨d8_y0v_0, d8_p0_0⟩) (first | (go_at_call 28; (with_reducible refine (Fx.toBundle _ x0 _ (rdsL_on H0.out HB.drew) (by omega)).mono ?_); rintro e w7 ⟨v_t0, s_t0, rfl, o_t0, n_t0, b7⟩; replace b7 := (drewN_below w6 1 _).trans b7; replace o_p0 := owns_below o_p0 b7; replace o_y0 := ownsL_below o_y0 b7; replace o_y0v := owns_below o_y0v b7; replace HB := HB.trans (b7.mono HB.size); have i_t0 := Fx.madeL_in o_t0; obtain ⟨A_t0_Entries, c_t0_Entries, _, rfl, -, -⟩ := Fx.Bundle.owns o_t0; have d7_y0v_0 : w7.cell? ⟨w4.heap.size, 0, none⟩ = some (.slice A_y0_Entries (x0).Entries.length c_y0_Entries) := Fx.var_load o_y0v n_y0v 0 _ rfl; have d7_p0_0 : w7.cell? ⟨W.heap.size, 0, none⟩ = some (.slice A_p0_Entries (x0).Entries.length c_p0_Entries) := Fx.var_load o_p0 n_p0 0 _ rfl; have e7_y0v : w4.heap.size < w7.heap.size := Fx.var_lt o_y0v; have e7_p0 : W.heap.size < w7.heap.size := Fx.var_lt o_p0) | (go_at_call 29; (with_reducible refine (Fx.eqBundle _ x0 _ _ (ownsL_rds _ _ _ o_y0) (ownsL_rds _ _ _ o_t0) (by omega)).mono ?_); rintro e w8 ⟨rfl, b8⟩; replace o_p0 := owns_below o_p0 b8; replace o_y0 := ownsL_below o_y0 b8; replace o_y0v := owns_below o_y0v b8; replace o_t0 := ownsL_below o_t0 b8; replace HB := HB.trans (b8.mono HB.size); have d8_y0v_0 : w8.cell? ⟨w4.heap.size, 0, none⟩ = some (.slice A_y0_Entries (x0).Entries.length c_y0_Entries) := Fx.var_load o_y0v n_y0v 0 _ rfl; have d8_p0_0 : w8.cell? ⟨W.heap.size, 0, none⟩ = some (.slice A_p0_Entries (x0).Entries.length c_p0_Entries) := Fx.var_load o_p0 n_p0 0 _ rfl; have e8_y0v : w4.heap.size < w8.heap.size := Fx.var_lt o_y0v; have e8_p0 : W.heap.size < w8.heap.size := Fx.var_lt o_p0))
  try clear d6_y0v_0 d6_p0_0 e6_y0v e6_p0
  try clear d7_y0v_0 d7_p0_0 e7_y0v e7_p0
  try clear d8_y0v_0 d8_p0_0 e8_y0v e8_p0
  try clear o_t0 i_t0 n_t0
  go_wp2
  go_ret
  exact ⟨rfl, HB⟩

set_option maxRecDepth 100000 in
theorem contract (H : Type) (enc : TypeId × Value → H) (W : World) (base : Nat) (args : Array Value) (ds gs : List (DataW H)) (before : List MemPlace)
    (hval : ∀ (j : Nat) t v, Try.f5.params[j]? = some t → args[j]? = some v → Value.okWide Try.prog W .any base t v)
    (hW : DataW.Whole enc Try.prog Try.f5.params.toList Rows.fnExactIsBundleSpec.vars false W args.toList ds gs before) :
    Calls Try.prog 5 args W fun e W' => ∃ v, e = .returned v ∧ Rows.fnExactIsBundleSpec.post enc Try.prog Try.f5 false true false false W args v W' := by
  have hW' := hW
  obtain ⟨p, q, hA0, hV, rfl, hfz, hnd⟩ := hW
  have hA : DataW.TrodAll enc Try.prog W 0 (fun _ => true) true Try.f5.params.toList args.toList ds p := hA0
  rw [Try.params5] at hA hval
  obtain ⟨v0, vs0, d0, ds0, p0, q0, hargs, rfl, rfl, h0, r0⟩ := trodAll_cons hA
  obtain ⟨rfl, rfl, rfl⟩ := trodAll_nil r0
  obtain rfl : args = #[v0] := by cases args; simp_all
  obtain ⟨rfl, rfl⟩ := trodVars_none hV
  clear hA0
  refine Fr.closeLaw rfl (by kernel_rfl) (by rw [Try.params5]; decide) hW' rfl ?_
  exact walk v0 W (hval 0 42 v0 rfl rfl) h0

set_option maxRecDepth 100000 in
theorem reads (os : Os) {H : Type} (enc : TypeId × Value → H) : ∃ places, DataW.whole enc Try.prog ((World.holding Try.prog os ⟨#[], #[], []⟩).forCall (fun _ _ => 0) ⟨#[], #[.agg #[.slice none 0 0]], []⟩).memory Try.f5.params.toList Rows.fnExactIsBundleSpec.vars false (#[.agg #[.slice none 0 0]] : Array Value).toList 8 = some ([.agg [.nil]], [], places) :=
  ⟨[], by kernel_rfl⟩
set_option maxRecDepth 100000 in
theorem lifted (os : Os) (started : os.Started) (H : Type) (enc : TypeId × Value → H) (F : Stop.Interp) :
    ReturnsInHanded {} Try.checked os 5 .any ((OpenSpec.ofChange Rows.fnExactIsBundleSpec).preRow enc Try.prog Try.f5 Rows.fnExactIsBundleRow.domain false Rows.fnExactIsBundleRow.laid) (((OpenSpec.ofChange Rows.fnExactIsBundleSpec).at F).post enc Try.prog Try.f5 false true false false) := by
  obtain ⟨places, hx⟩ := reads os enc
  refine returnsInHanded_of_row (C := Try.checked) (s := OpenSpec.ofChange Rows.fnExactIsBundleSpec) Fr.own started (by kernel_rfl) Try.func5
    (witness_row_atRef (enc := enc) (C := Try.checked) false (World.holding Try.prog os ⟨#[], #[], []⟩) #[.agg #[.slice none 0 0]] rfl (by kernel_rfl) (by kernel_rfl) (by kernel_rfl)
      (OpenSpec.preRow_of_cond 8 hx (by kernel_rfl) (fun k hk => by cases hk) (by kernel_rfl) (laidMetH_nil _ _))) ?_
  intro W base args ds gs before hval hW _ hcond _ hL _ _
  exact contract H enc W base args ds gs before hval hW
set_option maxRecDepth 100000 in
theorem said : Rows.FnExactIsBundleSaid :=
  OpenClaim.holds_of_cond 5 Try.f5 rfl rfl rfl rfl rfl rfl rfl ⟨rfl, rfl, rfl, rfl, rfl⟩ rfl rfl rfl rfl rfl (by kernel_rfl) Try.func5 (by kernel_rfl)
    (of_decide_eq_true (by kernel_rfl)) (by unfold Func.isWrapper; first | (rw [if_pos (by decide +kernel)]; kernel_rfl) | (rw [if_neg (by decide +kernel)]; exact ⟨rfl, rfl⟩))
    (fun os started H enc _ F => by rw [OpenClaim.pre_eq_preRow]; exact lifted os started H enc F)
theorem proved : Rows.FnExactIsBundleSaid := said
#print axioms proved
end Go.Proofs.Ytoedfeacpllkeaa.fnExactIsBundle
