/-
  laws.FnExactSignWithStore returns true at every argument, and leaves what came in as it was: the program's SignWithStore answers as the model's (strings and slices of more than 1048576 elements are passed over by the law itself). Conditions: none.
-/
import Derived.Test.YtpeagjpcdoegoaaFr
import Derived.Stop.Joined
import Derived.Test.YtpeagjpcdoegoaaDg
import Derived.Test.YtpeagjpcdoegoaaSo
import Derived.Test.YtpeagjpcdoegoaaM1
import Derived.Test.YtpeagjpcdoegoaaYKeyStore
import Derived.Test.YtpeagjpcdoegoaaC10b
import Derived.Test.YtpeagjpcdoegoaaC10i
namespace Go.Proofs.Ytpeagjpcdoegoaa.fnExactSignWithStore
open Go.ChangeShapes Go.WideShapes Go.ChangeAt Go.RowKit
set_option linter.unusedVariables false

open S0 S9 Dm in
set_option maxHeartbeats 8000000 in
set_option maxRecDepth 100000 in
theorem walk (v0 : Value) (s1 : ByteArray) (hs1 : s1.size ≤ maxLen) (a2 : Int) (u2 : (Lit.int .i64 a2).wf = true) (v3 : Value) (W : World) {H : Type} {enc : TypeId × Value → H} {b0 : Nat} {d0 : DataW H} {p0 : List MemPlace} (hv0 : Value.okWide Try.prog W .any b0 42 v0) (ht0 : DataW.Trod enc Try.prog W 0 (fun _ => true) true 42 v0 d0 p0) {b3 : Nat} {d3 : DataW H} {p3 : List MemPlace} (hv3 : Value.okWide Try.prog W .any b3 25 v3) (ht3 : DataW.Trod enc Try.prog W 0 (fun _ => true) true 25 v3 d3 p3) :
    Calls Try.prog 12 #[v0, .string s1, .int .i64 a2, v3] W fun e w' => e = .returned (.bool true) ∧ Below W.heap.size W w' := by
  obtain ⟨vs0, x0, rfl, hr0, ho0⟩ := Fx.argKeyStore hv0 ht0
  clear ht0 hv0
  obtain rfl := Fx.KeyStore.rds hr0
  have H0 := Lib.hid hr0
  clear hr0
  have hwx0 := Nat.le_of_eq (Fx.KeyStore.wt x0)
  have hwy0 := Nat.le_of_eq (Fx.KeyStore.wt x0).symm
  have hu2 := M1.i64_wf u2
  clear u2
  obtain ⟨A3, n3, c3, x3, rfl, hr3, hl3, hx3⟩ := So.numbers hv3 ht3
  obtain rfl : x3.length = n3 := by have := hr3.len1; rw [ints_len] at this; exact this
  have H3 := Lib.hid (show Rds W W.heap.size (Fx.numsD x3) (.slice A3 x3.length c3) from flat_rds hr3)
  have HX3 := Lib.hid (fun x (h : x ∈ x3) => So.okI_i64 (hx3 x h))
  clear hv3 ht3 hr3 hx3
  have hwx3 : wt (Fx.numsD x3) ≤ x3.length := Nat.le_of_eq (Fx.wt_numsD x3)
  have hcx3 : cnt (Fx.numsD x3) ≤ 64 * wt (Fx.numsD x3) := Fx.cnt_numsD x3
  unfold maxLen at hl3
  have hwr0 := Nat.le_of_eq (Fx.KeyStore.wt (C10.signX x0))
  have hws0 := Nat.le_of_eq (Fx.KeyStore.wt (C10.signX x0)).symm
  have HM3 := Lib.hid (show C3.okInts x3 from HX3.out)
  have HB : Below W.heap.size W W := Below.refl _ _
  by_cases big1 : 1048576 < s1.size
  · go_enter Try.func12, Try.ntmps12
    go_wp2
    go_ret
    exact ⟨rfl, (Below.refl _ _).alloc (Nat.le_refl _) _⟩
  by_cases big3 : 1048576 < x3.length
  · go_enter Try.func12, Try.ntmps12
    go_wp2
    go_ret
    exact ⟨rfl, (Below.refl _ _).alloc (Nat.le_refl _) _⟩
  obtain ⟨q0, hq0⟩ : ∃ x, x = W.alloc (.cells #[.int .i64 (x0).Vendor, .int .i64 (x0).Serial, .int .i64 (x0).Seed, .int .i64 (x0).Counter] 42) := ⟨_, rfl⟩
  have o_p0 := Fx.var_owns W 42 4 [.int .i64 (x0).Vendor, .int .i64 (x0).Serial, .int .i64 (x0).Seed, .int .i64 (x0).Counter] rfl
  have n_p0 : [W.heap.size].Nodup := by simp
  have bq0 : Below W.heap.size W q0 := hq0 ▸ (Below.refl _ _).alloc (Nat.le_refl _) _
  rw [← hq0] at o_p0
  have sq0 : q0.heap.size = W.heap.size + 1 := by rw [hq0]; simp
  replace HB := HB.trans (bq0.mono HB.size)
  have i_p0 := Fx.made_in o_p0
  go_enter Try.func12, Try.ntmps12
  go_wp2_with fail
  rw [← hq0]
  (with_reducible refine (Fx.toKeyStore _ x0 _ (rdsL_on H0.out HB) (by omega)).mono ?_); rintro e w1 ⟨v_cw0, s_cw0, rfl, o_cw0, n_cw0, b1⟩
  replace o_p0 := owns_below o_p0 b1
  replace HB := HB.trans (b1.mono HB.size)
  have i_cw0 := Fx.madeL_in o_cw0
  obtain ⟨rfl, -⟩ := Fx.KeyStore.owns o_cw0
  go_wp2_with fail
  (with_reducible refine (Fx.toIntS _ x3 _ (rds_on H3.out HB) (by omega)).mono ?_); rintro e w2 ⟨v_cw3, s_cw3, rfl, o_cw3, n_cw3, b2⟩
  replace o_p0 := owns_below o_p0 b2
  replace o_cw0 := ownsL_below o_cw0 b2
  replace HB := HB.trans (b2.mono HB.size)
  have i_cw3 := Fx.made_in o_cw3
  go_wp2_with fail
  (with_reducible refine (C10b.specSign _ x0 s1 a2 x3 _ v_cw3 (ownsL_rds _ _ _ o_cw0) ho0 (by omega) (by omega) (by omega) (owns_rds _ _ _ o_cw3) HM3.out (by omega)).mono ?_); rintro e w3 ⟨v_w0, s_w0, rfl, o_w0, n_w0, b3⟩
  replace o_p0 := owns_below o_p0 b3
  replace o_cw0 := ownsL_below o_cw0 b3
  replace o_cw3 := owns_below o_cw3 b3
  replace HB := HB.trans (b3.mono HB.size)
  have i_w0 := Fx.madeL_in o_w0
  obtain ⟨rfl, -⟩ := Fx.KeyStore.owns o_w0
  clear o_cw0 i_cw0 n_cw0
  clear o_cw3 i_cw3 n_cw3
  have d_p0_0 : w3.cell? ⟨W.heap.size, 0, none⟩ = some (.int .i64 (x0).Vendor) := Fx.var_load o_p0 n_p0 0 _ rfl
  have d_p0_1 : w3.cell? ⟨W.heap.size, 1, none⟩ = some (.int .i64 (x0).Serial) := Fx.var_load o_p0 n_p0 1 _ rfl
  have d_p0_2 : w3.cell? ⟨W.heap.size, 2, none⟩ = some (.int .i64 (x0).Seed) := Fx.var_load o_p0 n_p0 2 _ rfl
  have d_p0_3 : w3.cell? ⟨W.heap.size, 3, none⟩ = some (.int .i64 (x0).Counter) := Fx.var_load o_p0 n_p0 3 _ rfl
  have e_p0 : W.heap.size < w3.heap.size := Fx.var_lt o_p0
  go_wp2_with fail
  clear d_p0_0 d_p0_1 d_p0_2 d_p0_3 e_p0
  obtain ⟨w4, hw4⟩ : ∃ y, y = w3.alloc (.cells #[.int .i64 ((C10.signX x0)).Vendor, .int .i64 ((C10.signX x0)).Serial, .int .i64 ((C10.signX x0)).Seed, .int .i64 ((C10.signX x0)).Counter] 29) := ⟨_, rfl⟩
  have o_w0v := Fx.var_owns w3 29 4 [.int .i64 ((C10.signX x0)).Vendor, .int .i64 ((C10.signX x0)).Serial, .int .i64 ((C10.signX x0)).Seed, .int .i64 ((C10.signX x0)).Counter] rfl
  have b4 : Below w3.heap.size w3 w4 := hw4 ▸ (Below.refl _ _).alloc (Nat.le_refl _) _
  rw [← hw4] at o_w0v ⊢
  clear hw4
  replace o_p0 := owns_below o_p0 b4
  replace o_w0 := ownsL_below o_w0 b4
  replace HB := HB.trans (b4.mono HB.size)
  have n_w0v : [w3.heap.size].Nodup := by simp
  have i_w0v := Fx.made_in o_w0v
  (with_reducible refine (Fx.toIntS _ x3 _ (rds_on H3.out HB) (by omega)).mono ?_); rintro e w5 ⟨v_y3, s_y3, rfl, o_y3, n_y3, b5⟩
  replace o_p0 := owns_below o_p0 b5
  replace o_w0 := ownsL_below o_w0 b5
  replace o_w0v := owns_below o_w0v b5
  replace HB := HB.trans (b5.mono HB.size)
  have i_y3 := Fx.made_in o_y3
  have d_p0_0 : w5.cell? ⟨W.heap.size, 0, none⟩ = some (.int .i64 (x0).Vendor) := Fx.var_load o_p0 n_p0 0 _ rfl
  have d_p0_1 : w5.cell? ⟨W.heap.size, 1, none⟩ = some (.int .i64 (x0).Serial) := Fx.var_load o_p0 n_p0 1 _ rfl
  have d_p0_2 : w5.cell? ⟨W.heap.size, 2, none⟩ = some (.int .i64 (x0).Seed) := Fx.var_load o_p0 n_p0 2 _ rfl
  have d_p0_3 : w5.cell? ⟨W.heap.size, 3, none⟩ = some (.int .i64 (x0).Counter) := Fx.var_load o_p0 n_p0 3 _ rfl
  have e_p0 : W.heap.size < w5.heap.size := Fx.var_lt o_p0
  go_wp2_with fail
  (with_reducible refine (Fx.toKeyStore _ x0 _ (rdsL_on H0.out HB) (by omega)).mono ?_); rintro e w6 ⟨v_cg0, s_cg0, rfl, o_cg0, n_cg0, b6⟩
  clear d_p0_0 d_p0_1 d_p0_2 d_p0_3 e_p0
  replace o_p0 := owns_below o_p0 b6
  replace o_w0 := ownsL_below o_w0 b6
  replace o_w0v := owns_below o_w0v b6
  replace o_y3 := owns_below o_y3 b6
  replace HB := HB.trans (b6.mono HB.size)
  have i_cg0 := Fx.madeL_in o_cg0
  obtain ⟨rfl, -⟩ := Fx.KeyStore.owns o_cg0
  go_wp2_with fail
  (with_reducible refine (C10i.implSign _ x0 s1 a2 x3 _ v_y3 (ownsL_rds _ _ _ o_cg0) ho0 (by omega) (by omega) (by omega) (owns_rds _ _ _ o_y3) HM3.out (by omega)).mono ?_); rintro e w7 ⟨v_g0, s_g0, rfl, o_g0, n_g0, b7⟩
  replace o_p0 := owns_below o_p0 b7
  replace o_w0 := ownsL_below o_w0 b7
  replace o_w0v := owns_below o_w0v b7
  replace o_y3 := owns_below o_y3 b7
  replace o_cg0 := ownsL_below o_cg0 b7
  replace HB := HB.trans (b7.mono HB.size)
  have i_g0 := Fx.madeL_in o_g0
  obtain ⟨rfl, -⟩ := Fx.KeyStore.owns o_g0
  clear o_cg0 i_cg0 n_cg0
  have d_p0_0 : w7.cell? ⟨W.heap.size, 0, none⟩ = some (.int .i64 (x0).Vendor) := Fx.var_load o_p0 n_p0 0 _ rfl
  have d_p0_1 : w7.cell? ⟨W.heap.size, 1, none⟩ = some (.int .i64 (x0).Serial) := Fx.var_load o_p0 n_p0 1 _ rfl
  have d_p0_2 : w7.cell? ⟨W.heap.size, 2, none⟩ = some (.int .i64 (x0).Seed) := Fx.var_load o_p0 n_p0 2 _ rfl
  have d_p0_3 : w7.cell? ⟨W.heap.size, 3, none⟩ = some (.int .i64 (x0).Counter) := Fx.var_load o_p0 n_p0 3 _ rfl
  have e_p0 : W.heap.size < w7.heap.size := Fx.var_lt o_p0
  have d_w0v_0 : w7.cell? ⟨w3.heap.size, 0, none⟩ = some (.int .i64 ((C10.signX x0)).Vendor) := Fx.var_load o_w0v n_w0v 0 _ rfl
  have d_w0v_1 : w7.cell? ⟨w3.heap.size, 1, none⟩ = some (.int .i64 ((C10.signX x0)).Serial) := Fx.var_load o_w0v n_w0v 1 _ rfl
  have d_w0v_2 : w7.cell? ⟨w3.heap.size, 2, none⟩ = some (.int .i64 ((C10.signX x0)).Seed) := Fx.var_load o_w0v n_w0v 2 _ rfl
  have d_w0v_3 : w7.cell? ⟨w3.heap.size, 3, none⟩ = some (.int .i64 ((C10.signX x0)).Counter) := Fx.var_load o_w0v n_w0v 3 _ rfl
  have e_w0v : w3.heap.size < w7.heap.size := Fx.var_lt o_w0v
  go_wp2_with fail
  clear d_p0_0 d_p0_1 d_p0_2 d_p0_3 e_p0 d_w0v_0 d_w0v_1 d_w0v_2 d_w0v_3 e_w0v
  obtain ⟨w8, hw8⟩ : ∃ y, y = w7.alloc (.cells #[.int .i64 ((C10.signX x0)).Vendor, .int .i64 ((C10.signX x0)).Serial, .int .i64 ((C10.signX x0)).Seed, .int .i64 ((C10.signX x0)).Counter] 29) := ⟨_, rfl⟩
  have o_g0v := Fx.var_owns w7 29 4 [.int .i64 ((C10.signX x0)).Vendor, .int .i64 ((C10.signX x0)).Serial, .int .i64 ((C10.signX x0)).Seed, .int .i64 ((C10.signX x0)).Counter] rfl
  have b8 : Below w7.heap.size w7 w8 := hw8 ▸ (Below.refl _ _).alloc (Nat.le_refl _) _
  rw [← hw8] at o_g0v ⊢
  clear hw8
  replace o_p0 := owns_below o_p0 b8
  replace o_w0 := ownsL_below o_w0 b8
  replace o_w0v := owns_below o_w0v b8
  replace o_y3 := owns_below o_y3 b8
  replace o_g0 := ownsL_below o_g0 b8
  replace HB := HB.trans (b8.mono HB.size)
  have n_g0v : [w7.heap.size].Nodup := by simp
  have i_g0v := Fx.made_in o_g0v
  (with_reducible refine (Fx.eqKeyStore _ (C10.signX x0) _ _ (ownsL_rds _ _ _ o_g0) (ownsL_rds _ _ _ o_w0) (by omega)).mono ?_); rintro e w9 ⟨rfl, b9⟩
  replace o_p0 := owns_below o_p0 b9
  replace o_w0 := ownsL_below o_w0 b9
  replace o_w0v := owns_below o_w0v b9
  replace o_y3 := owns_below o_y3 b9
  replace o_g0 := ownsL_below o_g0 b9
  replace o_g0v := owns_below o_g0v b9
  replace HB := HB.trans (b9.mono HB.size)
  go_wp2_with fail
  (with_reducible refine (Fx.toIntS _ x3 _ (rds_on H3.out HB) (by omega)).mono ?_); rintro e w10 ⟨v_t3, s_t3, rfl, o_t3, n_t3, b10⟩
  replace o_p0 := owns_below o_p0 b10
  replace o_w0 := ownsL_below o_w0 b10
  replace o_w0v := owns_below o_w0v b10
  replace o_y3 := owns_below o_y3 b10
  replace o_g0 := ownsL_below o_g0 b10
  replace o_g0v := owns_below o_g0v b10
  replace HB := HB.trans (b10.mono HB.size)
  have i_t3 := Fx.made_in o_t3
  go_wp2_with fail
  (with_reducible refine (Fx.eqIntS _ x3 _ _ (owns_rds _ _ _ o_y3) (owns_rds _ _ _ o_t3) (by omega)).mono ?_); rintro e w11 ⟨rfl, b11⟩
  replace o_p0 := owns_below o_p0 b11
  replace o_w0 := ownsL_below o_w0 b11
  replace o_w0v := owns_below o_w0v b11
  replace o_y3 := owns_below o_y3 b11
  replace o_g0 := ownsL_below o_g0 b11
  replace o_g0v := owns_below o_g0v b11
  replace o_t3 := owns_below o_t3 b11
  replace HB := HB.trans (b11.mono HB.size)
  clear o_t3 i_t3 n_t3
  go_wp2
  go_ret
  exact ⟨rfl, HB⟩

set_option maxRecDepth 100000 in
theorem contract (H : Type) (enc : TypeId × Value → H) (W : World) (base : Nat) (args : Array Value) (ds gs : List (DataW H)) (before : List MemPlace)
    (hval : ∀ (j : Nat) t v, Try.f12.params[j]? = some t → args[j]? = some v → Value.okWide Try.prog W .any base t v)
    (hW : DataW.Whole enc Try.prog Try.f12.params.toList Rows.fnExactSignWithStoreSpec.vars false W args.toList ds gs before) :
    Calls Try.prog 12 args W fun e W' => ∃ v, e = .returned v ∧ Rows.fnExactSignWithStoreSpec.post enc Try.prog Try.f12 false true false false W args v W' := by
  have hW' := hW
  obtain ⟨p, q, hA0, hV, rfl, hfz, hnd⟩ := hW
  have hA : DataW.TrodAll enc Try.prog W 0 (fun _ => true) true Try.f12.params.toList args.toList ds p := hA0
  rw [Try.params12] at hA hval
  obtain ⟨v0, vs0, d0, ds0, p0, q0, hargs, rfl, rfl, h0, r0⟩ := trodAll_cons hA
  obtain ⟨v1, vs1, d1, ds1, p1, q1, rfl, rfl, rfl, h1, r1⟩ := trodAll_cons r0
  obtain ⟨v2, vs2, d2, ds2, p2, q2, rfl, rfl, rfl, h2, r2⟩ := trodAll_cons r1
  obtain ⟨v3, vs3, d3, ds3, p3, q3, rfl, rfl, rfl, h3, r3⟩ := trodAll_cons r2
  obtain ⟨rfl, rfl, rfl⟩ := trodAll_nil r3
  obtain rfl : args = #[v0, v1, v2, v3] := by cases args; simp_all
  obtain ⟨rfl, rfl⟩ := trodVars_none hV
  obtain ⟨s1, rfl, rfl, rfl, hs1⟩ := ChangeMaps.open_string Try.underlying9 (hval 1 9 v1 rfl rfl) h1
  obtain ⟨a2, rfl, rfl, rfl, w2⟩ := open_int Try.underlying3 (hval 2 3 v2 rfl rfl) h2
  clear hA0
  refine Fr.closeLaw rfl (by kernel_rfl) (by rw [Try.params12]; decide) hW' rfl ?_
  exact walk v0 s1 hs1 a2 w2 v3 W (hval 0 42 v0 rfl rfl) h0 (hval 3 25 v3 rfl rfl) h3

set_option maxRecDepth 100000 in
theorem reads (os : Os) {H : Type} (enc : TypeId × Value → H) : ∃ places, DataW.whole enc Try.prog ((World.holding Try.prog os ⟨#[], #[], []⟩).forCall (fun _ _ => 0) ⟨#[], #[.agg #[.int .i64 0, .int .i64 0, .int .i64 0, .int .i64 0], .string ⟨#[]⟩, .int .i64 0, .slice none 0 0], []⟩).memory Try.f12.params.toList Rows.fnExactSignWithStoreSpec.vars false (#[.agg #[.int .i64 0, .int .i64 0, .int .i64 0, .int .i64 0], .string ⟨#[]⟩, .int .i64 0, .slice none 0 0] : Array Value).toList 8 = some ([.agg [.lit (.int .i64 0), .lit (.int .i64 0), .lit (.int .i64 0), .lit (.int .i64 0)], .lit (.string []), .lit (.int .i64 0), .nil], [], places) :=
  ⟨[], by kernel_rfl⟩
set_option maxRecDepth 100000 in
theorem lifted (os : Os) (started : os.Started) (H : Type) (enc : TypeId × Value → H) (F : Stop.Interp) :
    ReturnsInHanded {} Try.checked os 12 .any ((OpenSpec.ofChange Rows.fnExactSignWithStoreSpec).preRow enc Try.prog Try.f12 Rows.fnExactSignWithStoreRow.domain false Rows.fnExactSignWithStoreRow.laid) (((OpenSpec.ofChange Rows.fnExactSignWithStoreSpec).at F).post enc Try.prog Try.f12 false true false false) := by
  obtain ⟨places, hx⟩ := reads os enc
  refine returnsInHanded_of_row (C := Try.checked) (s := OpenSpec.ofChange Rows.fnExactSignWithStoreSpec) Fr.own started (by kernel_rfl) Try.func12
    (witness_row_atRef (enc := enc) (C := Try.checked) false (World.holding Try.prog os ⟨#[], #[], []⟩) #[.agg #[.int .i64 0, .int .i64 0, .int .i64 0, .int .i64 0], .string ⟨#[]⟩, .int .i64 0, .slice none 0 0] rfl (by kernel_rfl) (by kernel_rfl) (by kernel_rfl)
      (OpenSpec.preRow_of_cond 8 hx (by kernel_rfl) (fun k hk => by cases hk) (by kernel_rfl) (laidMetH_nil _ _))) ?_
  intro W base args ds gs before hval hW _ hcond _ hL _ _
  exact contract H enc W base args ds gs before hval hW
set_option maxRecDepth 100000 in
theorem said : Rows.FnExactSignWithStoreSaid :=
  OpenClaim.holds_of_cond 12 Try.f12 rfl rfl rfl rfl rfl rfl rfl ⟨rfl, rfl, rfl, rfl, rfl⟩ rfl rfl rfl rfl rfl (by kernel_rfl) Try.func12 (by kernel_rfl)
    (of_decide_eq_true (by kernel_rfl)) (by unfold Func.isWrapper; first | (rw [if_pos (by decide +kernel)]; kernel_rfl) | (rw [if_neg (by decide +kernel)]; exact ⟨rfl, rfl⟩))
    (fun os started H enc _ F => by rw [OpenClaim.pre_eq_preRow]; exact lifted os started H enc F)
theorem proved : Rows.FnExactSignWithStoreSaid := said
#print axioms proved
end Go.Proofs.Ytpeagjpcdoegoaa.fnExactSignWithStore
