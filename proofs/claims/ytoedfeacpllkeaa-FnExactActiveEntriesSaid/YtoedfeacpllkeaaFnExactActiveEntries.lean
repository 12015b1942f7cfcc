/-
  laws.FnExactActiveEntries returns true at every argument, and leaves what came in as it was: the program's ActiveEntries answers as the model's (slices of more than 1048576 elements are passed over by the law itself). Conditions: none.
-/
import Derived.Test.YtoedfeacpllkeaaFr
import Derived.Stop.Joined
import Derived.Test.YtoedfeacpllkeaaDg
import Derived.Test.YtoedfeacpllkeaaSo
import Derived.Test.YtoedfeacpllkeaaM1
import Derived.Test.YtoedfeacpllkeaaYBundle
import Derived.Test.YtoedfeacpllkeaaYEntry
import Derived.Test.YtoedfeacpllkeaaM26
import Derived.Test.YtoedfeacpllkeaaC17i
import Derived.Test.YtoedfeacpllkeaaC17j
import Derived.Test.YtoedfeacpllkeaaC17k
import Derived.Test.YtoedfeacpllkeaaC17s
import Derived.Test.YtoedfeacpllkeaaC17x
namespace Go.Proofs.Ytoedfeacpllkeaa.fnExactActiveEntries
open Go.ChangeShapes Go.WideShapes Go.ChangeAt Go.RowKit
set_option linter.unusedVariables false

open S0 S9 Dm in
set_option maxHeartbeats 8000000 in
set_option maxRecDepth 100000 in
theorem walk (v0 : Value) (W : World) {H : Type} {enc : TypeId × Value → H} {b0 : Nat} {d0 : DataW H} {p0 : List MemPlace} (hv0 : Value.okWide Try.prog W .any b0 42 v0) (ht0 : DataW.Trod enc Try.prog W 0 (fun _ => true) true 42 v0 d0 p0) :
    Calls Try.prog 11 #[v0] W fun e w' => e = .returned (.bool true) ∧ Below W.heap.size W w' := by
  obtain ⟨vs0, x0, rfl, hr0, ho0⟩ := Fx.argBundle hv0 ht0
  clear ht0 hv0
  obtain ⟨A_p0_Entries, c_p0_Entries, rfl, -⟩ := Fx.Bundle.rds hr0
  have H0 := Lib.hid hr0
  clear hr0
  have hwx0 := Nat.le_of_eq (Fx.Bundle.wt x0)
  have hwy0 := Nat.le_of_eq (Fx.Bundle.wt x0).symm
  have hcx0 := Fx.cntTb_Bundle x0
  have hcr0 := Fx.cnt_Entrys (M26.actE x0.Entries)
  have hnx := Nat.le_of_eq (C17x.en_wt x0.Entries)
  have hmx := Nat.le_of_eq (C17x.en_wt x0.Entries).symm
  have hny0 := Nat.le_of_eq (C17x.en_wt (M26.actE x0.Entries))
  have hmy0 := Nat.le_of_eq (C17x.en_wt (M26.actE x0.Entries)).symm
  have hlr0 := M26.actE_len x0.Entries
  have HB : Below W.heap.size W W := Below.refl _ _
  obtain ⟨q0, hq0⟩ : ∃ x, x = W.alloc (.cells #[.slice A_p0_Entries (x0).Entries.length c_p0_Entries] 42) := ⟨_, rfl⟩
  have o_p0 := Fx.var_owns W 42 1 [.slice A_p0_Entries (x0).Entries.length c_p0_Entries] rfl
  have n_p0 : [W.heap.size].Nodup := by simp
  have bq0 : Below W.heap.size W q0 := hq0 ▸ (Below.refl _ _).alloc (Nat.le_refl _) _
  rw [← hq0] at o_p0
  have sq0 : q0.heap.size = W.heap.size + 1 := by rw [hq0]; simp
  replace HB := HB.trans (bq0.mono HB.size)
  have i_p0 := Fx.made_in o_p0
  go_enter Try.func11, Try.ntmps11
  go_wp2_with fail
  rw [← hq0]
  (with_reducible refine (Fx.szBundle _ x0 _ (1048576) (rdsL_on H0.out HB) ho0 (by omega) (by omega)).mono ?_); rintro e w1 ⟨rfl, b1⟩
  replace o_p0 := owns_below o_p0 b1
  replace HB := HB.trans (b1.mono HB.size)
  by_cases big0 : (wtL (Fx.Bundle.dcs x0) : Int) ≤ 1048576
  rotate_left
  · rw [if_neg big0]
    go_wp2
    go_ret
    exact ⟨rfl, HB⟩
  rw [if_pos big0]
  have d_p0_0 : w1.cell? ⟨W.heap.size, 0, none⟩ = some (.slice A_p0_Entries (x0).Entries.length c_p0_Entries) := Fx.var_load o_p0 n_p0 0 _ rfl
  have e_p0 : W.heap.size < w1.heap.size := Fx.var_lt o_p0
  go_wp2_with fail
  (with_reducible refine (Fx.toBundle _ x0 _ (rdsL_on H0.out HB) (by omega)).mono ?_); rintro e w2 ⟨v_cw0, s_cw0, rfl, o_cw0, n_cw0, b2⟩
  clear d_p0_0 e_p0
  replace o_p0 := owns_below o_p0 b2
  replace HB := HB.trans (b2.mono HB.size)
  have i_cw0 := Fx.madeL_in o_cw0
  obtain ⟨A_cw0_Entries, c_cw0_Entries, _, rfl, -, -⟩ := Fx.Bundle.owns o_cw0
  go_wp2_with fail
  (with_reducible refine (C17x.specAct _ x0 _ (E0.ownsL_shsL _ _ _ o_cw0) (by omega)).mono ?_); rintro e w3 ⟨v_w0, s_w0, rfl, o_w0, n_w0, b3⟩
  replace o_p0 := owns_below o_p0 b3
  replace o_cw0 := ownsL_below o_cw0 b3
  replace HB := HB.trans (b3.mono HB.size)
  have i_w0 := Fx.made_in o_w0
  clear o_cw0 i_cw0 n_cw0
  have d_p0_0 : w3.cell? ⟨W.heap.size, 0, none⟩ = some (.slice A_p0_Entries (x0).Entries.length c_p0_Entries) := Fx.var_load o_p0 n_p0 0 _ rfl
  have e_p0 : W.heap.size < w3.heap.size := Fx.var_lt o_p0
  go_wp2_with fail
  (with_reducible refine (Fx.toBundle _ x0 _ (rdsL_on H0.out HB) (by omega)).mono ?_); rintro e w4 ⟨v_y0, s_y0, rfl, o_y0, n_y0, b4⟩
  clear d_p0_0 e_p0
  replace o_p0 := owns_below o_p0 b4
  replace o_w0 := owns_below o_w0 b4
  replace HB := HB.trans (b4.mono HB.size)
  have i_y0 := Fx.madeL_in o_y0
  obtain ⟨A_y0_Entries, c_y0_Entries, _, rfl, -, -⟩ := Fx.Bundle.owns o_y0
  have d_p0_0 : w4.cell? ⟨W.heap.size, 0, none⟩ = some (.slice A_p0_Entries (x0).Entries.length c_p0_Entries) := Fx.var_load o_p0 n_p0 0 _ rfl
  have e_p0 : W.heap.size < w4.heap.size := Fx.var_lt o_p0
  go_wp2_with fail
  clear d_p0_0 e_p0
  obtain ⟨w5, hw5⟩ : ∃ y, y = w4.alloc (.cells #[.slice A_y0_Entries (x0).Entries.length c_y0_Entries] 26) := ⟨_, rfl⟩
  have o_y0v := Fx.var_owns w4 26 1 [.slice A_y0_Entries (x0).Entries.length c_y0_Entries] rfl
  have b5 : Below w4.heap.size w4 w5 := hw5 ▸ (Below.refl _ _).alloc (Nat.le_refl _) _
  rw [← hw5] at o_y0v ⊢
  clear hw5
  replace o_p0 := owns_below o_p0 b5
  replace o_w0 := owns_below o_w0 b5
  replace o_y0 := ownsL_below o_y0 b5
  replace HB := HB.trans (b5.mono HB.size)
  have n_y0v : [w4.heap.size].Nodup := by simp
  have i_y0v := Fx.made_in o_y0v
  (with_reducible refine (C17x.implAct _ x0 _ (E0.ownsL_shsL _ _ _ o_y0) (by omega)).mono ?_); rintro e w6 ⟨v_g0, s_g0, rfl, o_g0, n_g0, b6⟩
  replace o_p0 := owns_below o_p0 b6
  replace o_w0 := owns_below o_w0 b6
  replace o_y0 := ownsL_below o_y0 b6
  replace o_y0v := owns_below o_y0v b6
  replace HB := HB.trans (b6.mono HB.size)
  have i_g0 := Fx.made_in o_g0
  go_wp2_with fail
  (with_reducible refine (Fx.eqEntryS _ (M26.actE x0.Entries) _ _ (owns_rds _ _ _ o_g0) (owns_rds _ _ _ o_w0) (by omega)).mono ?_); rintro e w7 ⟨rfl, b7⟩
  replace o_p0 := owns_below o_p0 b7
  replace o_w0 := owns_below o_w0 b7
  replace o_y0 := ownsL_below o_y0 b7
  replace o_y0v := owns_below o_y0v b7
  replace o_g0 := owns_below o_g0 b7
  replace HB := HB.trans (b7.mono HB.size)
  have d7_y0v_0 : w7.cell? ⟨w4.heap.size, 0, none⟩ = some (.slice A_y0_Entries (x0).Entries.length c_y0_Entries) := Fx.var_load o_y0v n_y0v 0 _ rfl
  have d7_p0_0 : w7.cell? ⟨W.heap.size, 0, none⟩ = some (.slice A_p0_Entries (x0).Entries.length c_p0_Entries) := Fx.var_load o_p0 n_p0 0 _ rfl
  have e7_y0v : w4.heap.size < w7.heap.size := Fx.var_lt o_y0v
  have e7_p0 : W.heap.size < w7.heap.size := Fx.var_lt o_p0
  go_wp2_with fail
  go_region_held3 (fun wx => wx.cell? ⟨w4.heap.size, 0, none⟩ = some (.slice A_y0_Entries (x0).Entries.length c_y0_Entries) ∧ wx.cell? ⟨W.heap.size, 0, none⟩ = some (.slice A_p0_Entries (x0).Entries.length c_p0_Entries)) (first | exact ⟨d7_y0v_0, d7_p0_0⟩ | exact ⟨d8_y0v_0, d8_p0_0⟩ | exact ⟨d9_y0v_0, d9_p0_0⟩) (first | (go_at_call 28; (with_reducible refine (Fx.toBundle _ x0 _ (rdsL_on H0.out HB.drew) (by omega)).mono ?_); rintro e w8 ⟨v_t0, s_t0, rfl, o_t0, n_t0, b8⟩; replace b8 := (drewN_below w7 1 _).trans b8; replace o_p0 := owns_below o_p0 b8; replace o_w0 := owns_below o_w0 b8; replace o_y0 := ownsL_below o_y0 b8; replace o_y0v := owns_below o_y0v b8; replace o_g0 := owns_below o_g0 b8; replace HB := HB.trans (b8.mono HB.size); have i_t0 := Fx.madeL_in o_t0; obtain ⟨A_t0_Entries, c_t0_Entries, _, rfl, -, -⟩ := Fx.Bundle.owns o_t0; have d8_y0v_0 : w8.cell? ⟨w4.heap.size, 0, none⟩ = some (.slice A_y0_Entries (x0).Entries.length c_y0_Entries) := Fx.var_load o_y0v n_y0v 0 _ rfl; have d8_p0_0 : w8.cell? ⟨W.heap.size, 0, none⟩ = some (.slice A_p0_Entries (x0).Entries.length c_p0_Entries) := Fx.var_load o_p0 n_p0 0 _ rfl; have e8_y0v : w4.heap.size < w8.heap.size := Fx.var_lt o_y0v; have e8_p0 : W.heap.size < w8.heap.size := Fx.var_lt o_p0) | (go_at_call 29; (with_reducible refine (Fx.eqBundle _ x0 _ _ (ownsL_rds _ _ _ o_y0) (ownsL_rds _ _ _ o_t0) (by omega)).mono ?_); rintro e w9 ⟨rfl, b9⟩; replace o_p0 := owns_below o_p0 b9; replace o_w0 := owns_below o_w0 b9; replace o_y0 := ownsL_below o_y0 b9; replace o_y0v := owns_below o_y0v b9; replace o_g0 := owns_below o_g0 b9; replace o_t0 := ownsL_below o_t0 b9; replace HB := HB.trans (b9.mono HB.size); have d9_y0v_0 : w9.cell? ⟨w4.heap.size, 0, none⟩ = some (.slice A_y0_Entries (x0).Entries.length c_y0_Entries) := Fx.var_load o_y0v n_y0v 0 _ rfl; have d9_p0_0 : w9.cell? ⟨W.heap.size, 0, none⟩ = some (.slice A_p0_Entries (x0).Entries.length c_p0_Entries) := Fx.var_load o_p0 n_p0 0 _ rfl; have e9_y0v : w4.heap.size < w9.heap.size := Fx.var_lt o_y0v; have e9_p0 : W.heap.size < w9.heap.size := Fx.var_lt o_p0))
  try clear d7_y0v_0 d7_p0_0 e7_y0v e7_p0
  try clear d8_y0v_0 d8_p0_0 e8_y0v e8_p0
  try clear d9_y0v_0 d9_p0_0 e9_y0v e9_p0
  try clear o_t0 i_t0 n_t0
  have zq0 := bq0.size
  have z1 := b1.size
  have z2 := b2.size
  have z3 := b3.size
  have z4 := b4.size
  have z5 := b5.size
  have z6 := b6.size
  have z7 := b7.size
  have d_y0v_0 : w9.cell? ⟨w4.heap.size, 0, none⟩ = some (.slice A_y0_Entries (x0).Entries.length c_y0_Entries) := Fx.var_load o_y0v n_y0v 0 _ rfl
  have e_y0v : w4.heap.size < w9.heap.size := Fx.var_lt o_y0v
  go_wp2_with fail
  (with_reducible refine (Fx.markBundle _ _ x0 _ _ _ o_y0 n_y0 (by omega) (by omega) (by omega)).mono ?_); rintro e w10 ⟨rfl, oz, t10⟩
  clear d_y0v_0 e_y0v
  have z10 := t10.2.2.2.1
  replace o_p0 := owns_turned o_p0 t10 (fun b hb hb2 => by have h1 := i_p0 b hb; have h2 := i_y0 b hb2; omega)
  replace o_w0 := owns_turned o_w0 t10 (fun b hb hb2 => by have h1 := i_w0 b hb; have h2 := i_y0 b hb2; omega)
  replace o_y0v := owns_turned o_y0v t10 (fun b hb hb2 => by have h1 := i_y0v b hb; have h2 := i_y0 b hb2; omega)
  replace o_g0 := owns_turned o_g0 t10 (fun b hb hb2 => by have h1 := i_g0 b hb; have h2 := i_y0 b hb2; omega)
  replace HB := below_turned HB t10 (fun b hb => by have h1 := i_y0 b hb; omega)
  replace o_y0 := oz
  clear oz
  go_wp2_with fail
  (with_reducible refine (Fx.eqEntryS _ (M26.actE x0.Entries) _ _ (owns_rds _ _ _ o_g0) (owns_rds _ _ _ o_w0) (by omega)).mono ?_); rintro e w11 ⟨rfl, b11⟩
  replace o_p0 := owns_below o_p0 b11
  replace o_w0 := owns_below o_w0 b11
  replace o_y0 := ownsL_below o_y0 b11
  replace o_y0v := owns_below o_y0v b11
  replace o_g0 := owns_below o_g0 b11
  replace HB := HB.trans (b11.mono HB.size)
  clear o_y0 i_y0 n_y0
  clear o_y0v i_y0v n_y0v
  go_wp2_with fail
  (with_reducible refine (Fx.markEntryS _ _ (M26.actE x0.Entries) _ _ _ o_g0 n_g0 (by omega) (by omega) (by omega)).mono ?_); rintro e w12 ⟨rfl, oz, t12⟩
  have z12 := t12.2.2.2.1
  replace o_p0 := owns_turned o_p0 t12 (fun b hb hb2 => by have h1 := i_p0 b hb; have h2 := i_g0 b hb2; omega)
  replace o_w0 := owns_turned o_w0 t12 (fun b hb hb2 => by have h1 := i_w0 b hb; have h2 := i_g0 b hb2; omega)
  replace HB := below_turned HB t12 (fun b hb => by have h1 := i_g0 b hb; omega)
  replace o_g0 := oz
  clear oz
  go_wp2_with fail
  (with_reducible refine (Fx.heldEntryS _ (M26.actE x0.Entries) _ _ (owns_rds _ _ _ o_g0) (by omega) (by omega) (by omega)).mono ?_); rintro e w13 ⟨rfl, b13⟩
  replace o_p0 := owns_below o_p0 b13
  replace o_w0 := owns_below o_w0 b13
  replace o_g0 := owns_below o_g0 b13
  replace HB := HB.trans (b13.mono HB.size)
  have d_p0_0 : w13.cell? ⟨W.heap.size, 0, none⟩ = some (.slice A_p0_Entries (x0).Entries.length c_p0_Entries) := Fx.var_load o_p0 n_p0 0 _ rfl
  have e_p0 : W.heap.size < w13.heap.size := Fx.var_lt o_p0
  go_wp2_with fail
  (with_reducible refine (Fx.toBundle _ x0 _ (rdsL_on H0.out HB) (by omega)).mono ?_); rintro e w14 ⟨v_ch0, s_ch0, rfl, o_ch0, n_ch0, b14⟩
  clear d_p0_0 e_p0
  replace o_p0 := owns_below o_p0 b14
  replace o_w0 := owns_below o_w0 b14
  replace o_g0 := owns_below o_g0 b14
  replace HB := HB.trans (b14.mono HB.size)
  have i_ch0 := Fx.madeL_in o_ch0
  obtain ⟨A_ch0_Entries, c_ch0_Entries, _, rfl, -, -⟩ := Fx.Bundle.owns o_ch0
  go_wp2_with fail
  (with_reducible refine (C17x.implAct _ x0 _ (E0.ownsL_shsL _ _ _ o_ch0) (by omega)).mono ?_); rintro e w15 ⟨v_h0, s_h0, rfl, o_h0, n_h0, b15⟩
  replace o_p0 := owns_below o_p0 b15
  replace o_w0 := owns_below o_w0 b15
  replace o_g0 := owns_below o_g0 b15
  replace o_ch0 := ownsL_below o_ch0 b15
  replace HB := HB.trans (b15.mono HB.size)
  have i_h0 := Fx.made_in o_h0
  clear o_ch0 i_ch0 n_ch0
  go_wp2_with fail
  (with_reducible refine (Fx.eqEntryS _ (M26.actE x0.Entries) _ _ (owns_rds _ _ _ o_h0) (owns_rds _ _ _ o_w0) (by omega)).mono ?_); rintro e w16 ⟨rfl, b16⟩
  replace o_p0 := owns_below o_p0 b16
  replace o_w0 := owns_below o_w0 b16
  replace o_g0 := owns_below o_g0 b16
  replace o_h0 := owns_below o_h0 b16
  replace HB := HB.trans (b16.mono HB.size)
  go_wp2_with fail
  (with_reducible refine (Fx.heldEntryS _ (M26.actE x0.Entries) _ _ (owns_rds _ _ _ o_g0) (by omega) (by omega) (by omega)).mono ?_); rintro e w17 ⟨rfl, b17⟩
  replace o_p0 := owns_below o_p0 b17
  replace o_w0 := owns_below o_w0 b17
  replace o_g0 := owns_below o_g0 b17
  replace o_h0 := owns_below o_h0 b17
  replace HB := HB.trans (b17.mono HB.size)
  go_wp2
  go_ret
  exact ⟨rfl, HB⟩

set_option maxRecDepth 100000 in
theorem contract (H : Type) (enc : TypeId × Value → H) (W : World) (base : Nat) (args : Array Value) (ds gs : List (DataW H)) (before : List MemPlace)
    (hval : ∀ (j : Nat) t v, Try.f11.params[j]? = some t → args[j]? = some v → Value.okWide Try.prog W .any base t v)
    (hW : DataW.Whole enc Try.prog Try.f11.params.toList Rows.fnExactActiveEntriesSpec.vars false W args.toList ds gs before) :
    Calls Try.prog 11 args W fun e W' => ∃ v, e = .returned v ∧ Rows.fnExactActiveEntriesSpec.post enc Try.prog Try.f11 false true false false W args v W' := by
  have hW' := hW
  obtain ⟨p, q, hA0, hV, rfl, hfz, hnd⟩ := hW
  have hA : DataW.TrodAll enc Try.prog W 0 (fun _ => true) true Try.f11.params.toList args.toList ds p := hA0
  rw [Try.params11] at hA hval
  obtain ⟨v0, vs0, d0, ds0, p0, q0, hargs, rfl, rfl, h0, r0⟩ := trodAll_cons hA
  obtain ⟨rfl, rfl, rfl⟩ := trodAll_nil r0
  obtain rfl : args = #[v0] := by cases args; simp_all
  obtain ⟨rfl, rfl⟩ := trodVars_none hV
  clear hA0
  refine Fr.closeLaw rfl (by kernel_rfl) (by rw [Try.params11]; decide) hW' rfl ?_
  exact walk v0 W (hval 0 42 v0 rfl rfl) h0

set_option maxRecDepth 100000 in
theorem reads (os : Os) {H : Type} (enc : TypeId × Value → H) : ∃ places, DataW.whole enc Try.prog ((World.holding Try.prog os ⟨#[], #[], []⟩).forCall (fun _ _ => 0) ⟨#[], #[.agg #[.slice none 0 0]], []⟩).memory Try.f11.params.toList Rows.fnExactActiveEntriesSpec.vars false (#[.agg #[.slice none 0 0]] : Array Value).toList 8 = some ([.agg [.nil]], [], places) :=
  ⟨[], by kernel_rfl⟩
set_option maxRecDepth 100000 in
theorem lifted (os : Os) (started : os.Started) (H : Type) (enc : TypeId × Value → H) (F : Stop.Interp) :
    ReturnsInHanded {} Try.checked os 11 .any ((OpenSpec.ofChange Rows.fnExactActiveEntriesSpec).preRow enc Try.prog Try.f11 Rows.fnExactActiveEntriesRow.domain false Rows.fnExactActiveEntriesRow.laid) (((OpenSpec.ofChange Rows.fnExactActiveEntriesSpec).at F).post enc Try.prog Try.f11 false true false false) := by
  obtain ⟨places, hx⟩ := reads os enc
  refine returnsInHanded_of_row (C := Try.checked) (s := OpenSpec.ofChange Rows.fnExactActiveEntriesSpec) Fr.own started (by kernel_rfl) Try.func11
    (witness_row_atRef (enc := enc) (C := Try.checked) false (World.holding Try.prog os ⟨#[], #[], []⟩) #[.agg #[.slice none 0 0]] rfl (by kernel_rfl) (by kernel_rfl) (by kernel_rfl)
      (OpenSpec.preRow_of_cond 8 hx (by kernel_rfl) (fun k hk => by cases hk) (by kernel_rfl) (laidMetH_nil _ _))) ?_
  intro W base args ds gs before hval hW _ hcond _ hL _ _
  exact contract H enc W base args ds gs before hval hW
set_option maxRecDepth 100000 in
theorem said : Rows.FnExactActiveEntriesSaid :=
  OpenClaim.holds_of_cond 11 Try.f11 rfl rfl rfl rfl rfl rfl rfl ⟨rfl, rfl, rfl, rfl, rfl⟩ rfl rfl rfl rfl rfl (by kernel_rfl) Try.func11 (by kernel_rfl)
    (of_decide_eq_true (by kernel_rfl)) (by unfold Func.isWrapper; first | (rw [if_pos (by decide +kernel)]; kernel_rfl) | (rw [if_neg (by decide +kernel)]; exact ⟨rfl, rfl⟩))
    (fun os started H enc _ F => by rw [OpenClaim.pre_eq_preRow]; exact lifted os started H enc F)
theorem proved : Rows.FnExactActiveEntriesSaid := said
#print axioms proved
end Go.Proofs.Ytoedfeacpllkeaa.fnExactActiveEntries
