/-
  laws.FnExactAttest returns true at every argument, and leaves what came in as it was: the program's Attest answers as the model's. Conditions: none.
-/
import Derived.Test.YtpeagjpcdoegoaaFr
import Derived.Stop.Joined
import Derived.Test.YtpeagjpcdoegoaaDg
import Derived.Test.YtpeagjpcdoegoaaSo
import Derived.Test.YtpeagjpcdoegoaaM1
import Derived.Test.YtpeagjpcdoegoaaYKeyStore
import Derived.Test.YtpeagjpcdoegoaaYAttestation
import Derived.Test.YtpeagjpcdoegoaaC11
import Derived.Test.YtpeagjpcdoegoaaC11b
import Derived.Test.YtpeagjpcdoegoaaC11c
import Derived.Test.YtpeagjpcdoegoaaC11i
namespace Go.Proofs.Ytpeagjpcdoegoaa.fnExactAttest
open Go.ChangeShapes Go.WideShapes Go.ChangeAt Go.RowKit
set_option linter.unusedVariables false

open S0 S9 Dm in
set_option maxHeartbeats 8000000 in
set_option maxRecDepth 100000 in
theorem walk (a0 : Int) (u0 : (Lit.int .i64 a0).wf = true) (v1 : Value) (W : World) {H : Type} {enc : TypeId × Value → H} {b1 : Nat} {d1 : DataW H} {p1 : List MemPlace} (hv1 : Value.okWide Try.prog W .any b1 42 v1) (ht1 : DataW.Trod enc Try.prog W 0 (fun _ => true) true 42 v1 d1 p1) :
    Calls Try.prog 5 #[.int .i64 a0, v1] W fun e w' => e = .returned (.bool true) ∧ Below W.heap.size W w' := by
  have hu0 := M1.i64_wf u0
  clear u0
  obtain ⟨vs1, x1, rfl, hr1, ho1⟩ := Fx.argKeyStore hv1 ht1
  clear ht1 hv1
  obtain rfl := Fx.KeyStore.rds hr1
  have H1 := Lib.hid hr1
  clear hr1
  have hwx1 := Nat.le_of_eq (Fx.KeyStore.wt x1)
  have hwy1 := Nat.le_of_eq (Fx.KeyStore.wt x1).symm
  have hwr0 := Nat.le_of_eq (Fx.Attestation.wt (C11.attX a0 x1))
  have hws0 := Nat.le_of_eq (Fx.Attestation.wt (C11.attX a0 x1)).symm
  have HB : Below W.heap.size W W := Below.refl _ _
  obtain ⟨q0, hq0⟩ : ∃ x, x = W.alloc (.cells #[.int .i64 (x1).Vendor, .int .i64 (x1).Serial, .int .i64 (x1).Seed, .int .i64 (x1).Counter] 42) := ⟨_, rfl⟩
  have o_p1 := Fx.var_owns W 42 4 [.int .i64 (x1).Vendor, .int .i64 (x1).Serial, .int .i64 (x1).Seed, .int .i64 (x1).Counter] rfl
  have n_p1 : [W.heap.size].Nodup := by simp
  have bq0 : Below W.heap.size W q0 := hq0 ▸ (Below.refl _ _).alloc (Nat.le_refl _) _
  rw [← hq0] at o_p1
  have sq0 : q0.heap.size = W.heap.size + 1 := by rw [hq0]; simp
  replace HB := HB.trans (bq0.mono HB.size)
  have i_p1 := Fx.made_in o_p1
  go_enter Try.func5, Try.ntmps5
  go_wp2_with fail
  rw [← hq0]
  (with_reducible refine (Fx.toKeyStore _ x1 _ (rdsL_on H1.out HB) (by omega)).mono ?_); rintro e w1 ⟨v_cw1, s_cw1, rfl, o_cw1, n_cw1, b1⟩
  replace o_p1 := owns_below o_p1 b1
  replace HB := HB.trans (b1.mono HB.size)
  have i_cw1 := Fx.madeL_in o_cw1
  obtain ⟨rfl, -⟩ := Fx.KeyStore.owns o_cw1
  go_wp2_with fail
  (with_reducible refine (C11c.specAtt _ a0 x1 _ (ownsL_rds _ _ _ o_cw1) ho1 (by omega) (by omega)).mono ?_); rintro e w2 ⟨v_w0, s_w0, rfl, o_w0, n_w0, b2⟩
  replace o_p1 := owns_below o_p1 b2
  replace o_cw1 := ownsL_below o_cw1 b2
  replace HB := HB.trans (b2.mono HB.size)
  have i_w0 := Fx.madeL_in o_w0
  obtain ⟨rfl, -⟩ := Fx.Attestation.owns o_w0
  clear o_cw1 i_cw1 n_cw1
  have d_p1_0 : w2.cell? ⟨W.heap.size, 0, none⟩ = some (.int .i64 (x1).Vendor) := Fx.var_load o_p1 n_p1 0 _ rfl
  have d_p1_1 : w2.cell? ⟨W.heap.size, 1, none⟩ = some (.int .i64 (x1).Serial) := Fx.var_load o_p1 n_p1 1 _ rfl
  have d_p1_2 : w2.cell? ⟨W.heap.size, 2, none⟩ = some (.int .i64 (x1).Seed) := Fx.var_load o_p1 n_p1 2 _ rfl
  have d_p1_3 : w2.cell? ⟨W.heap.size, 3, none⟩ = some (.int .i64 (x1).Counter) := Fx.var_load o_p1 n_p1 3 _ rfl
  have e_p1 : W.heap.size < w2.heap.size := Fx.var_lt o_p1
  go_wp2_with fail
  clear d_p1_0 d_p1_1 d_p1_2 d_p1_3 e_p1
  obtain ⟨w3, hw3⟩ : ∃ y, y = w2.alloc (.cells #[.int .i64 ((C11.attX a0 x1)).Vendor, .int .i64 ((C11.attX a0 x1)).Serial, .int .i64 ((C11.attX a0 x1)).Key, .int .i64 ((C11.attX a0 x1)).Signature] 31) := ⟨_, rfl⟩
  have o_w0v := Fx.var_owns w2 31 4 [.int .i64 ((C11.attX a0 x1)).Vendor, .int .i64 ((C11.attX a0 x1)).Serial, .int .i64 ((C11.attX a0 x1)).Key, .int .i64 ((C11.attX a0 x1)).Signature] rfl
  have b3 : Below w2.heap.size w2 w3 := hw3 ▸ (Below.refl _ _).alloc (Nat.le_refl _) _
  rw [← hw3] at o_w0v ⊢
  clear hw3
  replace o_p1 := owns_below o_p1 b3
  replace o_w0 := ownsL_below o_w0 b3
  replace HB := HB.trans (b3.mono HB.size)
  have n_w0v : [w2.heap.size].Nodup := by simp
  have i_w0v := Fx.made_in o_w0v
  (with_reducible refine (Fx.toKeyStore _ x1 _ (rdsL_on H1.out HB) (by omega)).mono ?_); rintro e w4 ⟨v_cg1, s_cg1, rfl, o_cg1, n_cg1, b4⟩
  replace o_p1 := owns_below o_p1 b4
  replace o_w0 := ownsL_below o_w0 b4
  replace o_w0v := owns_below o_w0v b4
  replace HB := HB.trans (b4.mono HB.size)
  have i_cg1 := Fx.madeL_in o_cg1
  obtain ⟨rfl, -⟩ := Fx.KeyStore.owns o_cg1
  go_wp2_with fail
  (with_reducible refine (C11i.implAtt _ a0 x1 _ (ownsL_rds _ _ _ o_cg1) ho1 (by omega) (by omega)).mono ?_); rintro e w5 ⟨v_g0, s_g0, rfl, o_g0, n_g0, b5⟩
  replace o_p1 := owns_below o_p1 b5
  replace o_w0 := ownsL_below o_w0 b5
  replace o_w0v := owns_below o_w0v b5
  replace o_cg1 := ownsL_below o_cg1 b5
  replace HB := HB.trans (b5.mono HB.size)
  have i_g0 := Fx.madeL_in o_g0
  obtain ⟨rfl, -⟩ := Fx.Attestation.owns o_g0
  clear o_cg1 i_cg1 n_cg1
  have d_p1_0 : w5.cell? ⟨W.heap.size, 0, none⟩ = some (.int .i64 (x1).Vendor) := Fx.var_load o_p1 n_p1 0 _ rfl
  have d_p1_1 : w5.cell? ⟨W.heap.size, 1, none⟩ = some (.int .i64 (x1).Serial) := Fx.var_load o_p1 n_p1 1 _ rfl
  have d_p1_2 : w5.cell? ⟨W.heap.size, 2, none⟩ = some (.int .i64 (x1).Seed) := Fx.var_load o_p1 n_p1 2 _ rfl
  have d_p1_3 : w5.cell? ⟨W.heap.size, 3, none⟩ = some (.int .i64 (x1).Counter) := Fx.var_load o_p1 n_p1 3 _ rfl
  have e_p1 : W.heap.size < w5.heap.size := Fx.var_lt o_p1
  have d_w0v_0 : w5.cell? ⟨w2.heap.size, 0, none⟩ = some (.int .i64 ((C11.attX a0 x1)).Vendor) := Fx.var_load o_w0v n_w0v 0 _ rfl
  have d_w0v_1 : w5.cell? ⟨w2.heap.size, 1, none⟩ = some (.int .i64 ((C11.attX a0 x1)).Serial) := Fx.var_load o_w0v n_w0v 1 _ rfl
  have d_w0v_2 : w5.cell? ⟨w2.heap.size, 2, none⟩ = some (.int .i64 ((C11.attX a0 x1)).Key) := Fx.var_load o_w0v n_w0v 2 _ rfl
  have d_w0v_3 : w5.cell? ⟨w2.heap.size, 3, none⟩ = some (.int .i64 ((C11.attX a0 x1)).Signature) := Fx.var_load o_w0v n_w0v 3 _ rfl
  have e_w0v : w2.heap.size < w5.heap.size := Fx.var_lt o_w0v
  go_wp2_with fail
  clear d_p1_0 d_p1_1 d_p1_2 d_p1_3 e_p1 d_w0v_0 d_w0v_1 d_w0v_2 d_w0v_3 e_w0v
  obtain ⟨w6, hw6⟩ : ∃ y, y = w5.alloc (.cells #[.int .i64 ((C11.attX a0 x1)).Vendor, .int .i64 ((C11.attX a0 x1)).Serial, .int .i64 ((C11.attX a0 x1)).Key, .int .i64 ((C11.attX a0 x1)).Signature] 31) := ⟨_, rfl⟩
  have o_g0v := Fx.var_owns w5 31 4 [.int .i64 ((C11.attX a0 x1)).Vendor, .int .i64 ((C11.attX a0 x1)).Serial, .int .i64 ((C11.attX a0 x1)).Key, .int .i64 ((C11.attX a0 x1)).Signature] rfl
  have b6 : Below w5.heap.size w5 w6 := hw6 ▸ (Below.refl _ _).alloc (Nat.le_refl _) _
  rw [← hw6] at o_g0v ⊢
  clear hw6
  replace o_p1 := owns_below o_p1 b6
  replace o_w0 := ownsL_below o_w0 b6
  replace o_w0v := owns_below o_w0v b6
  replace o_g0 := ownsL_below o_g0 b6
  replace HB := HB.trans (b6.mono HB.size)
  have n_g0v : [w5.heap.size].Nodup := by simp
  have i_g0v := Fx.made_in o_g0v
  (with_reducible refine (Fx.eqAttestation _ (C11.attX a0 x1) _ _ (ownsL_rds _ _ _ o_g0) (ownsL_rds _ _ _ o_w0) (by omega)).mono ?_); rintro e w7 ⟨rfl, b7⟩
  replace o_p1 := owns_below o_p1 b7
  replace o_w0 := ownsL_below o_w0 b7
  replace o_w0v := owns_below o_w0v b7
  replace o_g0 := ownsL_below o_g0 b7
  replace o_g0v := owns_below o_g0v b7
  replace HB := HB.trans (b7.mono HB.size)
  go_wp2
  go_ret
  exact ⟨rfl, HB⟩

set_option maxRecDepth 100000 in
theorem contract (H : Type) (enc : TypeId × Value → H) (W : World) (base : Nat) (args : Array Value) (ds gs : List (DataW H)) (before : List MemPlace)
    (hval : ∀ (j : Nat) t v, Try.f5.params[j]? = some t → args[j]? = some v → Value.okWide Try.prog W .any base t v)
    (hW : DataW.Whole enc Try.prog Try.f5.params.toList Rows.fnExactAttestSpec.vars false W args.toList ds gs before) :
    Calls Try.prog 5 args W fun e W' => ∃ v, e = .returned v ∧ Rows.fnExactAttestSpec.post enc Try.prog Try.f5 false true false false W args v W' := by
  have hW' := hW
  obtain ⟨p, q, hA0, hV, rfl, hfz, hnd⟩ := hW
  have hA : DataW.TrodAll enc Try.prog W 0 (fun _ => true) true Try.f5.params.toList args.toList ds p := hA0
  rw [Try.params5] at hA hval
  obtain ⟨v0, vs0, d0, ds0, p0, q0, hargs, rfl, rfl, h0, r0⟩ := trodAll_cons hA
  obtain ⟨v1, vs1, d1, ds1, p1, q1, rfl, rfl, rfl, h1, r1⟩ := trodAll_cons r0
  obtain ⟨rfl, rfl, rfl⟩ := trodAll_nil r1
  obtain rfl : args = #[v0, v1] := by cases args; simp_all
  obtain ⟨rfl, rfl⟩ := trodVars_none hV
  obtain ⟨a0, rfl, rfl, rfl, w0⟩ := open_int Try.underlying3 (hval 0 3 v0 rfl rfl) h0
  clear hA0
  refine Fr.closeLaw rfl (by kernel_rfl) (by rw [Try.params5]; decide) hW' rfl ?_
  exact walk a0 w0 v1 W (hval 1 42 v1 rfl rfl) h1

set_option maxRecDepth 100000 in
theorem reads (os : Os) {H : Type} (enc : TypeId × Value → H) : ∃ places, DataW.whole enc Try.prog ((World.holding Try.prog os ⟨#[], #[], []⟩).forCall (fun _ _ => 0) ⟨#[], #[.int .i64 0, .agg #[.int .i64 0, .int .i64 0, .int .i64 0, .int .i64 0]], []⟩).memory Try.f5.params.toList Rows.fnExactAttestSpec.vars false (#[.int .i64 0, .agg #[.int .i64 0, .int .i64 0, .int .i64 0, .int .i64 0]] : Array Value).toList 8 = some ([.lit (.int .i64 0), .agg [.lit (.int .i64 0), .lit (.int .i64 0), .lit (.int .i64 0), .lit (.int .i64 0)]], [], places) :=
  ⟨[], by kernel_rfl⟩
set_option maxRecDepth 100000 in
theorem lifted (os : Os) (started : os.Started) (H : Type) (enc : TypeId × Value → H) (F : Stop.Interp) :
    ReturnsInHanded {} Try.checked os 5 .any ((OpenSpec.ofChange Rows.fnExactAttestSpec).preRow enc Try.prog Try.f5 Rows.fnExactAttestRow.domain false Rows.fnExactAttestRow.laid) (((OpenSpec.ofChange Rows.fnExactAttestSpec).at F).post enc Try.prog Try.f5 false true false false) := by
  obtain ⟨places, hx⟩ := reads os enc
  refine returnsInHanded_of_row (C := Try.checked) (s := OpenSpec.ofChange Rows.fnExactAttestSpec) Fr.own started (by kernel_rfl) Try.func5
    (witness_row_atRef (enc := enc) (C := Try.checked) false (World.holding Try.prog os ⟨#[], #[], []⟩) #[.int .i64 0, .agg #[.int .i64 0, .int .i64 0, .int .i64 0, .int .i64 0]] rfl (by kernel_rfl) (by kernel_rfl) (by kernel_rfl)
      (OpenSpec.preRow_of_cond 8 hx (by kernel_rfl) (fun k hk => by cases hk) (by kernel_rfl) (laidMetH_nil _ _))) ?_
  intro W base args ds gs before hval hW _ hcond _ hL _ _
  exact contract H enc W base args ds gs before hval hW
set_option maxRecDepth 100000 in
theorem said : Rows.FnExactAttestSaid :=
  OpenClaim.holds_of_cond 5 Try.f5 rfl rfl rfl rfl rfl rfl rfl ⟨rfl, rfl, rfl, rfl, rfl⟩ rfl rfl rfl rfl rfl (by kernel_rfl) Try.func5 (by kernel_rfl)
    (of_decide_eq_true (by kernel_rfl)) (by unfold Func.isWrapper; first | (rw [if_pos (by decide +kernel)]; kernel_rfl) | (rw [if_neg (by decide +kernel)]; exact ⟨rfl, rfl⟩))
    (fun os started H enc _ F => by rw [OpenClaim.pre_eq_preRow]; exact lifted os started H enc F)
theorem proved : Rows.FnExactAttestSaid := said
#print axioms proved
end Go.Proofs.Ytpeagjpcdoegoaa.fnExactAttest
