/-
  laws.FnExactDeleteEntry returns true at every argument, and leaves what came in as it was: the program's DeleteEntry answers as the model's (slices of more than 1048576 elements are passed over by the law itself). Conditions: none.
-/
import Derived.Test.YtoedfeacpllkeaaFr
import Derived.Stop.Joined
import Derived.Test.YtoedfeacpllkeaaDg
import Derived.Test.YtoedfeacpllkeaaSo
import Derived.Test.YtoedfeacpllkeaaM1
import Derived.Test.YtoedfeacpllkeaaYBundle
import Derived.Test.YtoedfeacpllkeaaM26
import Derived.Test.YtoedfeacpllkeaaC17i
import Derived.Test.YtoedfeacpllkeaaC17j
import Derived.Test.YtoedfeacpllkeaaC17k
import Derived.Test.YtoedfeacpllkeaaC17s
import Derived.Test.YtoedfeacpllkeaaC17x
namespace Go.Proofs.Ytoedfeacpllkeaa.fnExactDeleteEntry
open Go.ChangeShapes Go.WideShapes Go.ChangeAt Go.RowKit
set_option linter.unusedVariables false

open S0 S9 Dm in
set_option maxHeartbeats 8000000 in
set_option maxRecDepth 100000 in
theorem walk (v0 : Value) (a1 : Int) (u1 : (Lit.int .i64 a1).wf = true) (a2 : Int) (u2 : (Lit.int .i64 a2).wf = true) (W : World) {H : Type} {enc : TypeId × Value → H} {b0 : Nat} {d0 : DataW H} {p0 : List MemPlace} (hv0 : Value.okWide Try.prog W .any b0 42 v0) (ht0 : DataW.Trod enc Try.prog W 0 (fun _ => true) true 42 v0 d0 p0) :
    Calls Try.prog 8 #[v0, .int .i64 a1, .int .i64 a2] W fun e w' => e = .returned (.bool true) ∧ Below W.heap.size W w' := by
  obtain ⟨vs0, x0, rfl, hr0, ho0⟩ := Fx.argBundle hv0 ht0
  clear ht0 hv0
  obtain ⟨A_p0_Entries, c_p0_Entries, rfl, -⟩ := Fx.Bundle.rds hr0
  have H0 := Lib.hid hr0
  clear hr0
  have hwx0 := Nat.le_of_eq (Fx.Bundle.wt x0)
  have hwy0 := Nat.le_of_eq (Fx.Bundle.wt x0).symm
  have hcx0 := Fx.cntTb_Bundle x0
  have hu1 := M1.i64_wf u1
  clear u1
  have hu2 := M1.i64_wf u2
  clear u2
  have hwr0 := Nat.le_of_eq (Fx.Bundle.wt (C17x.delY x0 a1 a2))
  have hws0 := Nat.le_of_eq (Fx.Bundle.wt (C17x.delY x0 a1 a2)).symm
  have hcr0 := Fx.cntTb_Bundle (C17x.delY x0 a1 a2)
  have hnx := Nat.le_of_eq (C17x.en_wt x0.Entries)
  have hmx := Nat.le_of_eq (C17x.en_wt x0.Entries).symm
  have hny0 := Nat.le_of_eq (C17x.en_wt (C17x.delY x0 a1 a2).Entries)
  have hmy0 := Nat.le_of_eq (C17x.en_wt (C17x.delY x0 a1 a2).Entries).symm
  have hlr0 := C17x.del_len x0 a1 a2
  have HB : Below W.heap.size W W := Below.refl _ _
  obtain ⟨q0, hq0⟩ : ∃ x, x = W.alloc (.cells #[.slice A_p0_Entries (x0).Entries.length c_p0_Entries] 42) := ⟨_, rfl⟩
  have o_p0 := Fx.var_owns W 42 1 [.slice A_p0_Entries (x0).Entries.length c_p0_Entries] rfl
  have n_p0 : [W.heap.size].Nodup := by simp
  have bq0 : Below W.heap.size W q0 := hq0 ▸ (Below.refl _ _).alloc (Nat.le_refl _) _
  rw [← hq0] at o_p0
  have sq0 : q0.heap.size = W.heap.size + 1 := by rw [hq0]; simp
  replace HB := HB.trans (bq0.mono HB.size)
  have i_p0 := Fx.made_in o_p0
  go_enter Try.func8, Try.ntmps8
  go_wp2_with fail
  rw [← hq0]
  (with_reducible refine (Fx.szBundle _ x0 _ (1048576) (rdsL_on H0.out HB) ho0 (by omega) (by omega)).mono ?_); rintro e w1 ⟨rfl, b1⟩
  replace o_p0 := owns_below o_p0 b1
  replace HB := HB.trans (b1.mono HB.size)
  by_cases big0 : (wtL (Fx.Bundle.dcs x0) : Int) ≤ 1048576
  rotate_left
  · rw [if_neg big0]
    go_wp2
    go_ret
    exact ⟨rfl, HB⟩
  rw [if_pos big0]
  have d_p0_0 : w1.cell? ⟨W.heap.size, 0, none⟩ = some (.slice A_p0_Entries (x0).Entries.length c_p0_Entries) := Fx.var_load o_p0 n_p0 0 _ rfl
  have e_p0 : W.heap.size < w1.heap.size := Fx.var_lt o_p0
  go_wp2_with fail
  (with_reducible refine (Fx.toBundle _ x0 _ (rdsL_on H0.out HB) (by omega)).mono ?_); rintro e w2 ⟨v_cw0, s_cw0, rfl, o_cw0, n_cw0, b2⟩
  clear d_p0_0 e_p0
  replace o_p0 := owns_below o_p0 b2
  replace HB := HB.trans (b2.mono HB.size)
  have i_cw0 := Fx.madeL_in o_cw0
  obtain ⟨A_cw0_Entries, c_cw0_Entries, _, rfl, -, -⟩ := Fx.Bundle.owns o_cw0
  go_wp2_with fail
  (with_reducible refine (C17x.specDel _ x0 _ (E0.ownsL_shsL _ _ _ o_cw0) (by omega) a1 a2).mono ?_); rintro e w3 ⟨v_w0, s_w0, rfl, o_w0, n_w0, b3⟩
  replace o_p0 := owns_below o_p0 b3
  replace o_cw0 := ownsL_below o_cw0 b3
  replace HB := HB.trans (b3.mono HB.size)
  have i_w0 := Fx.madeL_in o_w0
  obtain ⟨A_w0_Entries, c_w0_Entries, _, rfl, -, -⟩ := Fx.Bundle.owns o_w0
  clear o_cw0 i_cw0 n_cw0
  have d_p0_0 : w3.cell? ⟨W.heap.size, 0, none⟩ = some (.slice A_p0_Entries (x0).Entries.length c_p0_Entries) := Fx.var_load o_p0 n_p0 0 _ rfl
  have e_p0 : W.heap.size < w3.heap.size := Fx.var_lt o_p0
  go_wp2_with fail
  clear d_p0_0 e_p0
  obtain ⟨w4, hw4⟩ : ∃ y, y = w3.alloc (.cells #[.slice A_w0_Entries ((C17x.delY x0 a1 a2)).Entries.length c_w0_Entries] 26) := ⟨_, rfl⟩
  have o_w0v := Fx.var_owns w3 26 1 [.slice A_w0_Entries ((C17x.delY x0 a1 a2)).Entries.length c_w0_Entries] rfl
  have b4 : Below w3.heap.size w3 w4 := hw4 ▸ (Below.refl _ _).alloc (Nat.le_refl _) _
  rw [← hw4] at o_w0v ⊢
  clear hw4
  replace o_p0 := owns_below o_p0 b4
  replace o_w0 := ownsL_below o_w0 b4
  replace HB := HB.trans (b4.mono HB.size)
  have n_w0v : [w3.heap.size].Nodup := by simp
  have i_w0v := Fx.made_in o_w0v
  (with_reducible refine (Fx.toBundle _ x0 _ (rdsL_on H0.out HB) (by omega)).mono ?_); rintro e w5 ⟨v_y0, s_y0, rfl, o_y0, n_y0, b5⟩
  replace o_p0 := owns_below o_p0 b5
  replace o_w0 := ownsL_below o_w0 b5
  replace o_w0v := owns_below o_w0v b5
  replace HB := HB.trans (b5.mono HB.size)
  have i_y0 := Fx.madeL_in o_y0
  obtain ⟨A_y0_Entries, c_y0_Entries, _, rfl, -, -⟩ := Fx.Bundle.owns o_y0
  have d_p0_0 : w5.cell? ⟨W.heap.size, 0, none⟩ = some (.slice A_p0_Entries (x0).Entries.length c_p0_Entries) := Fx.var_load o_p0 n_p0 0 _ rfl
  have e_p0 : W.heap.size < w5.heap.size := Fx.var_lt o_p0
  have d_w0v_0 : w5.cell? ⟨w3.heap.size, 0, none⟩ = some (.slice A_w0_Entries ((C17x.delY x0 a1 a2)).Entries.length c_w0_Entries) := Fx.var_load o_w0v n_w0v 0 _ rfl
  have e_w0v : w3.heap.size < w5.heap.size := Fx.var_lt o_w0v
  go_wp2_with fail
  clear d_p0_0 e_p0 d_w0v_0 e_w0v
  obtain ⟨w6, hw6⟩ : ∃ y, y = w5.alloc (.cells #[.slice A_y0_Entries (x0).Entries.length c_y0_Entries] 26) := ⟨_, rfl⟩
  have o_y0v := Fx.var_owns w5 26 1 [.slice A_y0_Entries (x0).Entries.length c_y0_Entries] rfl
  have b6 : Below w5.heap.size w5 w6 := hw6 ▸ (Below.refl _ _).alloc (Nat.le_refl _) _
  rw [← hw6] at o_y0v ⊢
  clear hw6
  replace o_p0 := owns_below o_p0 b6
  replace o_w0 := ownsL_below o_w0 b6
  replace o_w0v := owns_below o_w0v b6
  replace o_y0 := ownsL_below o_y0 b6
  replace HB := HB.trans (b6.mono HB.size)
  have n_y0v : [w5.heap.size].Nodup := by simp
  have i_y0v := Fx.made_in o_y0v
  (with_reducible refine (C17x.implDel _ x0 _ (E0.ownsL_shsL _ _ _ o_y0) (by omega) a1 a2).mono ?_); rintro e w7 ⟨v_g0, s_g0, rfl, o_g0, n_g0, b7⟩
  replace o_p0 := owns_below o_p0 b7
  replace o_w0 := ownsL_below o_w0 b7
  replace o_w0v := owns_below o_w0v b7
  replace o_y0 := ownsL_below o_y0 b7
  replace o_y0v := owns_below o_y0v b7
  replace HB := HB.trans (b7.mono HB.size)
  have i_g0 := Fx.madeL_in o_g0
  obtain ⟨A_g0_Entries, c_g0_Entries, _, rfl, -, -⟩ := Fx.Bundle.owns o_g0
  have d_p0_0 : w7.cell? ⟨W.heap.size, 0, none⟩ = some (.slice A_p0_Entries (x0).Entries.length c_p0_Entries) := Fx.var_load o_p0 n_p0 0 _ rfl
  have e_p0 : W.heap.size < w7.heap.size := Fx.var_lt o_p0
  have d_w0v_0 : w7.cell? ⟨w3.heap.size, 0, none⟩ = some (.slice A_w0_Entries ((C17x.delY x0 a1 a2)).Entries.length c_w0_Entries) := Fx.var_load o_w0v n_w0v 0 _ rfl
  have e_w0v : w3.heap.size < w7.heap.size := Fx.var_lt o_w0v
  have d_y0v_0 : w7.cell? ⟨w5.heap.size, 0, none⟩ = some (.slice A_y0_Entries (x0).Entries.length c_y0_Entries) := Fx.var_load o_y0v n_y0v 0 _ rfl
  have e_y0v : w5.heap.size < w7.heap.size := Fx.var_lt o_y0v
  go_wp2_with fail
  clear d_p0_0 e_p0 d_w0v_0 e_w0v d_y0v_0 e_y0v
  obtain ⟨w8, hw8⟩ : ∃ y, y = w7.alloc (.cells #[.slice A_g0_Entries ((C17x.delY x0 a1 a2)).Entries.length c_g0_Entries] 26) := ⟨_, rfl⟩
  have o_g0v := Fx.var_owns w7 26 1 [.slice A_g0_Entries ((C17x.delY x0 a1 a2)).Entries.length c_g0_Entries] rfl
  have b8 : Below w7.heap.size w7 w8 := hw8 ▸ (Below.refl _ _).alloc (Nat.le_refl _) _
  rw [← hw8] at o_g0v ⊢
  clear hw8
  replace o_p0 := owns_below o_p0 b8
  replace o_w0 := ownsL_below o_w0 b8
  replace o_w0v := owns_below o_w0v b8
  replace o_y0 := ownsL_below o_y0 b8
  replace o_y0v := owns_below o_y0v b8
  replace o_g0 := ownsL_below o_g0 b8
  replace HB := HB.trans (b8.mono HB.size)
  have n_g0v : [w7.heap.size].Nodup := by simp
  have i_g0v := Fx.made_in o_g0v
  (with_reducible refine (Fx.eqBundle _ (C17x.delY x0 a1 a2) _ _ (ownsL_rds _ _ _ o_g0) (ownsL_rds _ _ _ o_w0) (by omega)).mono ?_); rintro e w9 ⟨rfl, b9⟩
  replace o_p0 := owns_below o_p0 b9
  replace o_w0 := ownsL_below o_w0 b9
  replace o_w0v := owns_below o_w0v b9
  replace o_y0 := ownsL_below o_y0 b9
  replace o_y0v := owns_below o_y0v b9
  replace o_g0 := ownsL_below o_g0 b9
  replace o_g0v := owns_below o_g0v b9
  replace HB := HB.trans (b9.mono HB.size)
  have d9_y0v_0 : w9.cell? ⟨w5.heap.size, 0, none⟩ = some (.slice A_y0_Entries (x0).Entries.length c_y0_Entries) := Fx.var_load o_y0v n_y0v 0 _ rfl
  have d9_p0_0 : w9.cell? ⟨W.heap.size, 0, none⟩ = some (.slice A_p0_Entries (x0).Entries.length c_p0_Entries) := Fx.var_load o_p0 n_p0 0 _ rfl
  have e9_y0v : w5.heap.size < w9.heap.size := Fx.var_lt o_y0v
  have e9_p0 : W.heap.size < w9.heap.size := Fx.var_lt o_p0
  go_wp2_with fail
  go_region_held3 (fun wx => wx.cell? ⟨w5.heap.size, 0, none⟩ = some (.slice A_y0_Entries (x0).Entries.length c_y0_Entries) ∧ wx.cell? ⟨W.heap.size, 0, none⟩ = some (.slice A_p0_Entries (x0).Entries.length c_p0_Entries)) (first | exact ⟨d9_y0v_0, d9_p0_0⟩ | exact ⟨d10_y0v_0, d10_p0_0⟩ | exact ⟨d11_y0v_0, d11_p0_0⟩) (first | (go_at_call 28; (with_reducible refine (Fx.toBundle _ x0 _ (rdsL_on H0.out HB.drew) (by omega)).mono ?_); rintro e w10 ⟨v_t0, s_t0, rfl, o_t0, n_t0, b10⟩; replace b10 := (drewN_below w9 1 _).trans b10; replace o_p0 := owns_below o_p0 b10; replace o_w0 := ownsL_below o_w0 b10; replace o_w0v := owns_below o_w0v b10; replace o_y0 := ownsL_below o_y0 b10; replace o_y0v := owns_below o_y0v b10; replace o_g0 := ownsL_below o_g0 b10; replace o_g0v := owns_below o_g0v b10; replace HB := HB.trans (b10.mono HB.size); have i_t0 := Fx.madeL_in o_t0; obtain ⟨A_t0_Entries, c_t0_Entries, _, rfl, -, -⟩ := Fx.Bundle.owns o_t0; have d10_y0v_0 : w10.cell? ⟨w5.heap.size, 0, none⟩ = some (.slice A_y0_Entries (x0).Entries.length c_y0_Entries) := Fx.var_load o_y0v n_y0v 0 _ rfl; have d10_p0_0 : w10.cell? ⟨W.heap.size, 0, none⟩ = some (.slice A_p0_Entries (x0).Entries.length c_p0_Entries) := Fx.var_load o_p0 n_p0 0 _ rfl; have e10_y0v : w5.heap.size < w10.heap.size := Fx.var_lt o_y0v; have e10_p0 : W.heap.size < w10.heap.size := Fx.var_lt o_p0) | (go_at_call 29; (with_reducible refine (Fx.eqBundle _ x0 _ _ (ownsL_rds _ _ _ o_y0) (ownsL_rds _ _ _ o_t0) (by omega)).mono ?_); rintro e w11 ⟨rfl, b11⟩; replace o_p0 := owns_below o_p0 b11; replace o_w0 := ownsL_below o_w0 b11; replace o_w0v := owns_below o_w0v b11; replace o_y0 := ownsL_below o_y0 b11; replace o_y0v := owns_below o_y0v b11; replace o_g0 := ownsL_below o_g0 b11; replace o_g0v := owns_below o_g0v b11; replace o_t0 := ownsL_below o_t0 b11; replace HB := HB.trans (b11.mono HB.size); have d11_y0v_0 : w11.cell? ⟨w5.heap.size, 0, none⟩ = some (.slice A_y0_Entries (x0).Entries.length c_y0_Entries) := Fx.var_load o_y0v n_y0v 0 _ rfl; have d11_p0_0 : w11.cell? ⟨W.heap.size, 0, none⟩ = some (.slice A_p0_Entries (x0).Entries.length c_p0_Entries) := Fx.var_load o_p0 n_p0 0 _ rfl; have e11_y0v : w5.heap.size < w11.heap.size := Fx.var_lt o_y0v; have e11_p0 : W.heap.size < w11.heap.size := Fx.var_lt o_p0))
  try clear d9_y0v_0 d9_p0_0 e9_y0v e9_p0
  try clear d10_y0v_0 d10_p0_0 e10_y0v e10_p0
  try clear d11_y0v_0 d11_p0_0 e11_y0v e11_p0
  try clear o_t0 i_t0 n_t0
  have zq0 := bq0.size
  have z1 := b1.size
  have z2 := b2.size
  have z3 := b3.size
  have z4 := b4.size
  have z5 := b5.size
  have z6 := b6.size
  have z7 := b7.size
  have z8 := b8.size
  have z9 := b9.size
  have d_y0v_0 : w11.cell? ⟨w5.heap.size, 0, none⟩ = some (.slice A_y0_Entries (x0).Entries.length c_y0_Entries) := Fx.var_load o_y0v n_y0v 0 _ rfl
  have e_y0v : w5.heap.size < w11.heap.size := Fx.var_lt o_y0v
  go_wp2_with fail
  (with_reducible refine (Fx.markBundle _ _ x0 _ _ _ o_y0 n_y0 (by omega) (by omega) (by omega)).mono ?_); rintro e w12 ⟨rfl, oz, t12⟩
  clear d_y0v_0 e_y0v
  have z12 := t12.2.2.2.1
  replace o_p0 := owns_turned o_p0 t12 (fun b hb hb2 => by have h1 := i_p0 b hb; have h2 := i_y0 b hb2; omega)
  replace o_w0 := ownsL_turned o_w0 t12 (fun b hb hb2 => by have h1 := i_w0 b hb; have h2 := i_y0 b hb2; omega)
  replace o_w0v := owns_turned o_w0v t12 (fun b hb hb2 => by have h1 := i_w0v b hb; have h2 := i_y0 b hb2; omega)
  replace o_y0v := owns_turned o_y0v t12 (fun b hb hb2 => by have h1 := i_y0v b hb; have h2 := i_y0 b hb2; omega)
  replace o_g0 := ownsL_turned o_g0 t12 (fun b hb hb2 => by have h1 := i_g0 b hb; have h2 := i_y0 b hb2; omega)
  replace o_g0v := owns_turned o_g0v t12 (fun b hb hb2 => by have h1 := i_g0v b hb; have h2 := i_y0 b hb2; omega)
  replace HB := below_turned HB t12 (fun b hb => by have h1 := i_y0 b hb; omega)
  replace o_y0 := oz
  clear oz
  have d_g0v_0 : w12.cell? ⟨w7.heap.size, 0, none⟩ = some (.slice A_g0_Entries ((C17x.delY x0 a1 a2)).Entries.length c_g0_Entries) := Fx.var_load o_g0v n_g0v 0 _ rfl
  have e_g0v : w7.heap.size < w12.heap.size := Fx.var_lt o_g0v
  have d_w0v_0 : w12.cell? ⟨w3.heap.size, 0, none⟩ = some (.slice A_w0_Entries ((C17x.delY x0 a1 a2)).Entries.length c_w0_Entries) := Fx.var_load o_w0v n_w0v 0 _ rfl
  have e_w0v : w3.heap.size < w12.heap.size := Fx.var_lt o_w0v
  go_wp2_with fail
  (with_reducible refine (Fx.eqBundle _ (C17x.delY x0 a1 a2) _ _ (ownsL_rds _ _ _ o_g0) (ownsL_rds _ _ _ o_w0) (by omega)).mono ?_); rintro e w13 ⟨rfl, b13⟩
  clear d_g0v_0 e_g0v d_w0v_0 e_w0v
  replace o_p0 := owns_below o_p0 b13
  replace o_w0 := ownsL_below o_w0 b13
  replace o_w0v := owns_below o_w0v b13
  replace o_y0 := ownsL_below o_y0 b13
  replace o_y0v := owns_below o_y0v b13
  replace o_g0 := ownsL_below o_g0 b13
  replace o_g0v := owns_below o_g0v b13
  replace HB := HB.trans (b13.mono HB.size)
  clear o_y0 i_y0 n_y0
  clear o_y0v i_y0v n_y0v
  have d_g0v_0 : w13.cell? ⟨w7.heap.size, 0, none⟩ = some (.slice A_g0_Entries ((C17x.delY x0 a1 a2)).Entries.length c_g0_Entries) := Fx.var_load o_g0v n_g0v 0 _ rfl
  have e_g0v : w7.heap.size < w13.heap.size := Fx.var_lt o_g0v
  go_wp2_with fail
  (with_reducible refine (Fx.markBundle _ _ (C17x.delY x0 a1 a2) _ _ _ o_g0 n_g0 (by omega) (by omega) (by omega)).mono ?_); rintro e w14 ⟨rfl, oz, t14⟩
  clear d_g0v_0 e_g0v
  have z14 := t14.2.2.2.1
  replace o_p0 := owns_turned o_p0 t14 (fun b hb hb2 => by have h1 := i_p0 b hb; have h2 := i_g0 b hb2; omega)
  replace o_w0 := ownsL_turned o_w0 t14 (fun b hb hb2 => by have h1 := i_w0 b hb; have h2 := i_g0 b hb2; omega)
  replace o_w0v := owns_turned o_w0v t14 (fun b hb hb2 => by have h1 := i_w0v b hb; have h2 := i_g0 b hb2; omega)
  replace o_g0v := owns_turned o_g0v t14 (fun b hb hb2 => by have h1 := i_g0v b hb; have h2 := i_g0 b hb2; omega)
  replace HB := below_turned HB t14 (fun b hb => by have h1 := i_g0 b hb; omega)
  replace o_g0 := oz
  clear oz
  have d_g0v_0 : w14.cell? ⟨w7.heap.size, 0, none⟩ = some (.slice A_g0_Entries ((C17x.delY x0 a1 a2)).Entries.length c_g0_Entries) := Fx.var_load o_g0v n_g0v 0 _ rfl
  have e_g0v : w7.heap.size < w14.heap.size := Fx.var_lt o_g0v
  go_wp2_with fail
  (with_reducible refine (Fx.heldBundle _ (C17x.delY x0 a1 a2) _ _ (ownsL_rds _ _ _ o_g0) (by omega) (by omega) (by omega)).mono ?_); rintro e w15 ⟨rfl, b15⟩
  clear d_g0v_0 e_g0v
  replace o_p0 := owns_below o_p0 b15
  replace o_w0 := ownsL_below o_w0 b15
  replace o_w0v := owns_below o_w0v b15
  replace o_g0 := ownsL_below o_g0 b15
  replace o_g0v := owns_below o_g0v b15
  replace HB := HB.trans (b15.mono HB.size)
  have d_p0_0 : w15.cell? ⟨W.heap.size, 0, none⟩ = some (.slice A_p0_Entries (x0).Entries.length c_p0_Entries) := Fx.var_load o_p0 n_p0 0 _ rfl
  have e_p0 : W.heap.size < w15.heap.size := Fx.var_lt o_p0
  go_wp2_with fail
  (with_reducible refine (Fx.toBundle _ x0 _ (rdsL_on H0.out HB) (by omega)).mono ?_); rintro e w16 ⟨v_ch0, s_ch0, rfl, o_ch0, n_ch0, b16⟩
  clear d_p0_0 e_p0
  replace o_p0 := owns_below o_p0 b16
  replace o_w0 := ownsL_below o_w0 b16
  replace o_w0v := owns_below o_w0v b16
  replace o_g0 := ownsL_below o_g0 b16
  replace o_g0v := owns_below o_g0v b16
  replace HB := HB.trans (b16.mono HB.size)
  have i_ch0 := Fx.madeL_in o_ch0
  obtain ⟨A_ch0_Entries, c_ch0_Entries, _, rfl, -, -⟩ := Fx.Bundle.owns o_ch0
  go_wp2_with fail
  (with_reducible refine (C17x.implDel _ x0 _ (E0.ownsL_shsL _ _ _ o_ch0) (by omega) a1 a2).mono ?_); rintro e w17 ⟨v_h0, s_h0, rfl, o_h0, n_h0, b17⟩
  replace o_p0 := owns_below o_p0 b17
  replace o_w0 := ownsL_below o_w0 b17
  replace o_w0v := owns_below o_w0v b17
  replace o_g0 := ownsL_below o_g0 b17
  replace o_g0v := owns_below o_g0v b17
  replace o_ch0 := ownsL_below o_ch0 b17
  replace HB := HB.trans (b17.mono HB.size)
  have i_h0 := Fx.madeL_in o_h0
  obtain ⟨A_h0_Entries, c_h0_Entries, _, rfl, -, -⟩ := Fx.Bundle.owns o_h0
  clear o_ch0 i_ch0 n_ch0
  have d_p0_0 : w17.cell? ⟨W.heap.size, 0, none⟩ = some (.slice A_p0_Entries (x0).Entries.length c_p0_Entries) := Fx.var_load o_p0 n_p0 0 _ rfl
  have e_p0 : W.heap.size < w17.heap.size := Fx.var_lt o_p0
  have d_w0v_0 : w17.cell? ⟨w3.heap.size, 0, none⟩ = some (.slice A_w0_Entries ((C17x.delY x0 a1 a2)).Entries.length c_w0_Entries) := Fx.var_load o_w0v n_w0v 0 _ rfl
  have e_w0v : w3.heap.size < w17.heap.size := Fx.var_lt o_w0v
  have d_g0v_0 : w17.cell? ⟨w7.heap.size, 0, none⟩ = some (.slice A_g0_Entries ((C17x.delY x0 a1 a2)).Entries.length c_g0_Entries) := Fx.var_load o_g0v n_g0v 0 _ rfl
  have e_g0v : w7.heap.size < w17.heap.size := Fx.var_lt o_g0v
  go_wp2_with fail
  clear d_p0_0 e_p0 d_w0v_0 e_w0v d_g0v_0 e_g0v
  obtain ⟨w18, hw18⟩ : ∃ y, y = w17.alloc (.cells #[.slice A_h0_Entries ((C17x.delY x0 a1 a2)).Entries.length c_h0_Entries] 26) := ⟨_, rfl⟩
  have o_h0v := Fx.var_owns w17 26 1 [.slice A_h0_Entries ((C17x.delY x0 a1 a2)).Entries.length c_h0_Entries] rfl
  have b18 : Below w17.heap.size w17 w18 := hw18 ▸ (Below.refl _ _).alloc (Nat.le_refl _) _
  rw [← hw18] at o_h0v ⊢
  clear hw18
  replace o_p0 := owns_below o_p0 b18
  replace o_w0 := ownsL_below o_w0 b18
  replace o_w0v := owns_below o_w0v b18
  replace o_g0 := ownsL_below o_g0 b18
  replace o_g0v := owns_below o_g0v b18
  replace o_h0 := ownsL_below o_h0 b18
  replace HB := HB.trans (b18.mono HB.size)
  have n_h0v : [w17.heap.size].Nodup := by simp
  have i_h0v := Fx.made_in o_h0v
  (with_reducible refine (Fx.eqBundle _ (C17x.delY x0 a1 a2) _ _ (ownsL_rds _ _ _ o_h0) (ownsL_rds _ _ _ o_w0) (by omega)).mono ?_); rintro e w19 ⟨rfl, b19⟩
  replace o_p0 := owns_below o_p0 b19
  replace o_w0 := ownsL_below o_w0 b19
  replace o_w0v := owns_below o_w0v b19
  replace o_g0 := ownsL_below o_g0 b19
  replace o_g0v := owns_below o_g0v b19
  replace o_h0 := ownsL_below o_h0 b19
  replace o_h0v := owns_below o_h0v b19
  replace HB := HB.trans (b19.mono HB.size)
  have d_g0v_0 : w19.cell? ⟨w7.heap.size, 0, none⟩ = some (.slice A_g0_Entries ((C17x.delY x0 a1 a2)).Entries.length c_g0_Entries) := Fx.var_load o_g0v n_g0v 0 _ rfl
  have e_g0v : w7.heap.size < w19.heap.size := Fx.var_lt o_g0v
  go_wp2_with fail
  (with_reducible refine (Fx.heldBundle _ (C17x.delY x0 a1 a2) _ _ (ownsL_rds _ _ _ o_g0) (by omega) (by omega) (by omega)).mono ?_); rintro e w20 ⟨rfl, b20⟩
  clear d_g0v_0 e_g0v
  replace o_p0 := owns_below o_p0 b20
  replace o_w0 := ownsL_below o_w0 b20
  replace o_w0v := owns_below o_w0v b20
  replace o_g0 := ownsL_below o_g0 b20
  replace o_g0v := owns_below o_g0v b20
  replace o_h0 := ownsL_below o_h0 b20
  replace o_h0v := owns_below o_h0v b20
  replace HB := HB.trans (b20.mono HB.size)
  go_wp2
  go_ret
  exact ⟨rfl, HB⟩

set_option maxRecDepth 100000 in
theorem contract (H : Type) (enc : TypeId × Value → H) (W : World) (base : Nat) (args : Array Value) (ds gs : List (DataW H)) (before : List MemPlace)
    (hval : ∀ (j : Nat) t v, Try.f8.params[j]? = some t → args[j]? = some v → Value.okWide Try.prog W .any base t v)
    (hW : DataW.Whole enc Try.prog Try.f8.params.toList Rows.fnExactDeleteEntrySpec.vars false W args.toList ds gs before) :
    Calls Try.prog 8 args W fun e W' => ∃ v, e = .returned v ∧ Rows.fnExactDeleteEntrySpec.post enc Try.prog Try.f8 false true false false W args v W' := by
  have hW' := hW
  obtain ⟨p, q, hA0, hV, rfl, hfz, hnd⟩ := hW
  have hA : DataW.TrodAll enc Try.prog W 0 (fun _ => true) true Try.f8.params.toList args.toList ds p := hA0
  rw [Try.params8] at hA hval
  obtain ⟨v0, vs0, d0, ds0, p0, q0, hargs, rfl, rfl, h0, r0⟩ := trodAll_cons hA
  obtain ⟨v1, vs1, d1, ds1, p1, q1, rfl, rfl, rfl, h1, r1⟩ := trodAll_cons r0
  obtain ⟨v2, vs2, d2, ds2, p2, q2, rfl, rfl, rfl, h2, r2⟩ := trodAll_cons r1
  obtain ⟨rfl, rfl, rfl⟩ := trodAll_nil r2
  obtain rfl : args = #[v0, v1, v2] := by cases args; simp_all
  obtain ⟨rfl, rfl⟩ := trodVars_none hV
  obtain ⟨a1, rfl, rfl, rfl, w1⟩ := open_int Try.underlying3 (hval 1 3 v1 rfl rfl) h1
  obtain ⟨a2, rfl, rfl, rfl, w2⟩ := open_int Try.underlying3 (hval 2 3 v2 rfl rfl) h2
  clear hA0
  refine Fr.closeLaw rfl (by kernel_rfl) (by rw [Try.params8]; decide) hW' rfl ?_
  exact walk v0 a1 w1 a2 w2 W (hval 0 42 v0 rfl rfl) h0

set_option maxRecDepth 100000 in
theorem reads (os : Os) {H : Type} (enc : TypeId × Value → H) : ∃ places, DataW.whole enc Try.prog ((World.holding Try.prog os ⟨#[], #[], []⟩).forCall (fun _ _ => 0) ⟨#[], #[.agg #[.slice none 0 0], .int .i64 0, .int .i64 0], []⟩).memory Try.f8.params.toList Rows.fnExactDeleteEntrySpec.vars false (#[.agg #[.slice none 0 0], .int .i64 0, .int .i64 0] : Array Value).toList 8 = some ([.agg [.nil], .lit (.int .i64 0), .lit (.int .i64 0)], [], places) :=
  ⟨[], by kernel_rfl⟩
set_option maxRecDepth 100000 in
theorem lifted (os : Os) (started : os.Started) (H : Type) (enc : TypeId × Value → H) (F : Stop.Interp) :
    ReturnsInHanded {} Try.checked os 8 .any ((OpenSpec.ofChange Rows.fnExactDeleteEntrySpec).preRow enc Try.prog Try.f8 Rows.fnExactDeleteEntryRow.domain false Rows.fnExactDeleteEntryRow.laid) (((OpenSpec.ofChange Rows.fnExactDeleteEntrySpec).at F).post enc Try.prog Try.f8 false true false false) := by
  obtain ⟨places, hx⟩ := reads os enc
  refine returnsInHanded_of_row (C := Try.checked) (s := OpenSpec.ofChange Rows.fnExactDeleteEntrySpec) Fr.own started (by kernel_rfl) Try.func8
    (witness_row_atRef (enc := enc) (C := Try.checked) false (World.holding Try.prog os ⟨#[], #[], []⟩) #[.agg #[.slice none 0 0], .int .i64 0, .int .i64 0] rfl (by kernel_rfl) (by kernel_rfl) (by kernel_rfl)
      (OpenSpec.preRow_of_cond 8 hx (by kernel_rfl) (fun k hk => by cases hk) (by kernel_rfl) (laidMetH_nil _ _))) ?_
  intro W base args ds gs before hval hW _ hcond _ hL _ _
  exact contract H enc W base args ds gs before hval hW
set_option maxRecDepth 100000 in
theorem said : Rows.FnExactDeleteEntrySaid :=
  OpenClaim.holds_of_cond 8 Try.f8 rfl rfl rfl rfl rfl rfl rfl ⟨rfl, rfl, rfl, rfl, rfl⟩ rfl rfl rfl rfl rfl (by kernel_rfl) Try.func8 (by kernel_rfl)
    (of_decide_eq_true (by kernel_rfl)) (by unfold Func.isWrapper; first | (rw [if_pos (by decide +kernel)]; kernel_rfl) | (rw [if_neg (by decide +kernel)]; exact ⟨rfl, rfl⟩))
    (fun os started H enc _ F => by rw [OpenClaim.pre_eq_preRow]; exact lifted os started H enc F)
theorem proved : Rows.FnExactDeleteEntrySaid := said
#print axioms proved
end Go.Proofs.Ytoedfeacpllkeaa.fnExactDeleteEntry
