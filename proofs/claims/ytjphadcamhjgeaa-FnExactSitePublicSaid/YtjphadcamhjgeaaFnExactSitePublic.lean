/-
  laws.FnExactSitePublic returns true at every argument, and leaves what came in as it was: the program's SitePublic answers as the model's (strings and slices of more than 1048576 elements are passed over by the law itself). Conditions: none.
-/
import Derived.Test.YtjphadcamhjgeaaFr
import Derived.Stop.Joined
import Derived.Test.YtjphadcamhjgeaaDg
import Derived.Test.YtjphadcamhjgeaaSo
import Derived.Test.YtjphadcamhjgeaaM1
import Derived.Test.YtjphadcamhjgeaaYKeyStore
import Derived.Test.YtjphadcamhjgeaaC10
import Derived.Test.YtjphadcamhjgeaaC10i
namespace Go.Proofs.Ytjphadcamhjgeaa.fnExactSitePublic
open Go.ChangeShapes Go.WideShapes Go.ChangeAt Go.RowKit
set_option linter.unusedVariables false

open S0 S9 Dm in
set_option maxHeartbeats 8000000 in
set_option maxRecDepth 100000 in
theorem walk (v0 : Value) (s1 : ByteArray) (hs1 : s1.size ≤ maxLen) (a2 : Int) (u2 : (Lit.int .i64 a2).wf = true) (W : World) {H : Type} {enc : TypeId × Value → H} {b0 : Nat} {d0 : DataW H} {p0 : List MemPlace} (hv0 : Value.okWide Try.prog W .any b0 38 v0) (ht0 : DataW.Trod enc Try.prog W 0 (fun _ => true) true 38 v0 d0 p0) :
    Calls Try.prog 6 #[v0, .string s1, .int .i64 a2] W fun e w' => e = .returned (.bool true) ∧ Below W.heap.size W w' := by
  obtain ⟨vs0, x0, rfl, hr0, ho0⟩ := Fx.argKeyStore hv0 ht0
  clear ht0 hv0
  obtain rfl := Fx.KeyStore.rds hr0
  have H0 := Lib.hid hr0
  clear hr0
  have hwx0 := Nat.le_of_eq (Fx.KeyStore.wt x0)
  have hwy0 := Nat.le_of_eq (Fx.KeyStore.wt x0).symm
  have hu2 := M1.i64_wf u2
  clear u2
  have HB : Below W.heap.size W W := Below.refl _ _
  by_cases big1 : 1048576 < s1.size
  · go_enter Try.func6, Try.ntmps6
    go_wp2
    go_ret
    exact ⟨rfl, (Below.refl _ _).alloc (Nat.le_refl _) _⟩
  obtain ⟨q0, hq0⟩ : ∃ x, x = W.alloc (.cells #[.int .i64 (x0).Vendor, .int .i64 (x0).Serial, .int .i64 (x0).Seed, .int .i64 (x0).Counter] 38) := ⟨_, rfl⟩
  have o_p0 := Fx.var_owns W 38 4 [.int .i64 (x0).Vendor, .int .i64 (x0).Serial, .int .i64 (x0).Seed, .int .i64 (x0).Counter] rfl
  have n_p0 : [W.heap.size].Nodup := by simp
  have bq0 : Below W.heap.size W q0 := hq0 ▸ (Below.refl _ _).alloc (Nat.le_refl _) _
  rw [← hq0] at o_p0
  have sq0 : q0.heap.size = W.heap.size + 1 := by rw [hq0]; simp
  replace HB := HB.trans (bq0.mono HB.size)
  have i_p0 := Fx.made_in o_p0
  go_enter Try.func6, Try.ntmps6
  go_wp2_with fail
  rw [← hq0]
  (with_reducible refine (Fx.toKeyStore _ x0 _ (rdsL_on H0.out HB) (by omega)).mono ?_); rintro e w1 ⟨v_cw0, s_cw0, rfl, o_cw0, n_cw0, b1⟩
  replace o_p0 := owns_below o_p0 b1
  replace HB := HB.trans (b1.mono HB.size)
  have i_cw0 := Fx.madeL_in o_cw0
  obtain ⟨rfl, -⟩ := Fx.KeyStore.owns o_cw0
  go_wp2_with fail
  (with_reducible refine (C10.specPubS _ x0 s1 a2 _ (ownsL_rds _ _ _ o_cw0) ho0 (by omega) (by omega) (by omega)).mono ?_); rintro e w2 ⟨rfl, b2⟩
  replace o_p0 := owns_below o_p0 b2
  replace o_cw0 := ownsL_below o_cw0 b2
  replace HB := HB.trans (b2.mono HB.size)
  clear o_cw0 i_cw0 n_cw0
  have d_p0_0 : w2.cell? ⟨W.heap.size, 0, none⟩ = some (.int .i64 (x0).Vendor) := Fx.var_load o_p0 n_p0 0 _ rfl
  have d_p0_1 : w2.cell? ⟨W.heap.size, 1, none⟩ = some (.int .i64 (x0).Serial) := Fx.var_load o_p0 n_p0 1 _ rfl
  have d_p0_2 : w2.cell? ⟨W.heap.size, 2, none⟩ = some (.int .i64 (x0).Seed) := Fx.var_load o_p0 n_p0 2 _ rfl
  have d_p0_3 : w2.cell? ⟨W.heap.size, 3, none⟩ = some (.int .i64 (x0).Counter) := Fx.var_load o_p0 n_p0 3 _ rfl
  have e_p0 : W.heap.size < w2.heap.size := Fx.var_lt o_p0
  go_wp2_with fail
  (with_reducible refine (Fx.toKeyStore _ x0 _ (rdsL_on H0.out HB) (by omega)).mono ?_); rintro e w3 ⟨v_cg0, s_cg0, rfl, o_cg0, n_cg0, b3⟩
  clear d_p0_0 d_p0_1 d_p0_2 d_p0_3 e_p0
  replace o_p0 := owns_below o_p0 b3
  replace HB := HB.trans (b3.mono HB.size)
  have i_cg0 := Fx.madeL_in o_cg0
  obtain ⟨rfl, -⟩ := Fx.KeyStore.owns o_cg0
  go_wp2_with fail
  (with_reducible refine (C10i.implPubS _ x0 s1 a2 _ (ownsL_rds _ _ _ o_cg0) ho0 (by omega) (by omega) (by omega)).mono ?_); rintro e w4 ⟨rfl, b4⟩
  replace o_p0 := owns_below o_p0 b4
  replace o_cg0 := ownsL_below o_cg0 b4
  replace HB := HB.trans (b4.mono HB.size)
  clear o_cg0 i_cg0 n_cg0
  go_wp2
  go_ret
  exact ⟨rfl, HB⟩

set_option maxRecDepth 100000 in
theorem contract (H : Type) (enc : TypeId × Value → H) (W : World) (base : Nat) (args : Array Value) (ds gs : List (DataW H)) (before : List MemPlace)
    (hval : ∀ (j : Nat) t v, Try.f6.params[j]? = some t → args[j]? = some v → Value.okWide Try.prog W .any base t v)
    (hW : DataW.Whole enc Try.prog Try.f6.params.toList Rows.fnExactSitePublicSpec.vars false W args.toList ds gs before) :
    Calls Try.prog 6 args W fun e W' => ∃ v, e = .returned v ∧ Rows.fnExactSitePublicSpec.post enc Try.prog Try.f6 false true false false W args v W' := by
  have hW' := hW
  obtain ⟨p, q, hA0, hV, rfl, hfz, hnd⟩ := hW
  have hA : DataW.TrodAll enc Try.prog W 0 (fun _ => true) true Try.f6.params.toList args.toList ds p := hA0
  rw [Try.params6] at hA hval
  obtain ⟨v0, vs0, d0, ds0, p0, q0, hargs, rfl, rfl, h0, r0⟩ := trodAll_cons hA
  obtain ⟨v1, vs1, d1, ds1, p1, q1, rfl, rfl, rfl, h1, r1⟩ := trodAll_cons r0
  obtain ⟨v2, vs2, d2, ds2, p2, q2, rfl, rfl, rfl, h2, r2⟩ := trodAll_cons r1
  obtain ⟨rfl, rfl, rfl⟩ := trodAll_nil r2
  obtain rfl : args = #[v0, v1, v2] := by cases args; simp_all
  obtain ⟨rfl, rfl⟩ := trodVars_none hV
  obtain ⟨s1, rfl, rfl, rfl, hs1⟩ := ChangeMaps.open_string Try.underlying9 (hval 1 9 v1 rfl rfl) h1
  obtain ⟨a2, rfl, rfl, rfl, w2⟩ := open_int Try.underlying3 (hval 2 3 v2 rfl rfl) h2
  clear hA0
  refine Fr.closeLaw rfl (by kernel_rfl) (by rw [Try.params6]; decide) hW' rfl ?_
  exact walk v0 s1 hs1 a2 w2 W (hval 0 38 v0 rfl rfl) h0

set_option maxRecDepth 100000 in
theorem reads (os : Os) {H : Type} (enc : TypeId × Value → H) : ∃ places, DataW.whole enc Try.prog ((World.holding Try.prog os ⟨#[], #[], []⟩).forCall (fun _ _ => 0) ⟨#[], #[.agg #[.int .i64 0, .int .i64 0, .int .i64 0, .int .i64 0], .string ⟨#[]⟩, .int .i64 0], []⟩).memory Try.f6.params.toList Rows.fnExactSitePublicSpec.vars false (#[.agg #[.int .i64 0, .int .i64 0, .int .i64 0, .int .i64 0], .string ⟨#[]⟩, .int .i64 0] : Array Value).toList 8 = some ([.agg [.lit (.int .i64 0), .lit (.int .i64 0), .lit (.int .i64 0), .lit (.int .i64 0)], .lit (.string []), .lit (.int .i64 0)], [], places) :=
  ⟨[], by kernel_rfl⟩
set_option maxRecDepth 100000 in
theorem lifted (os : Os) (started : os.Started) (H : Type) (enc : TypeId × Value → H) (F : Stop.Interp) :
    ReturnsInHanded {} Try.checked os 6 .any ((OpenSpec.ofChange Rows.fnExactSitePublicSpec).preRow enc Try.prog Try.f6 Rows.fnExactSitePublicRow.domain false Rows.fnExactSitePublicRow.laid) (((OpenSpec.ofChange Rows.fnExactSitePublicSpec).at F).post enc Try.prog Try.f6 false true false false) := by
  obtain ⟨places, hx⟩ := reads os enc
  refine returnsInHanded_of_row (C := Try.checked) (s := OpenSpec.ofChange Rows.fnExactSitePublicSpec) Fr.own started (by kernel_rfl) Try.func6
    (witness_row_atRef (enc := enc) (C := Try.checked) false (World.holding Try.prog os ⟨#[], #[], []⟩) #[.agg #[.int .i64 0, .int .i64 0, .int .i64 0, .int .i64 0], .string ⟨#[]⟩, .int .i64 0] rfl (by kernel_rfl) (by kernel_rfl) (by kernel_rfl)
      (OpenSpec.preRow_of_cond 8 hx (by kernel_rfl) (fun k hk => by cases hk) (by kernel_rfl) (laidMetH_nil _ _))) ?_
  intro W base args ds gs before hval hW _ hcond _ hL _ _
  exact contract H enc W base args ds gs before hval hW
set_option maxRecDepth 100000 in
theorem said : Rows.FnExactSitePublicSaid :=
  OpenClaim.holds_of_cond 6 Try.f6 rfl rfl rfl rfl rfl rfl rfl ⟨rfl, rfl, rfl, rfl, rfl⟩ rfl rfl rfl rfl rfl (by kernel_rfl) Try.func6 (by kernel_rfl)
    (of_decide_eq_true (by kernel_rfl)) (by unfold Func.isWrapper; first | (rw [if_pos (by decide +kernel)]; kernel_rfl) | (rw [if_neg (by decide +kernel)]; exact ⟨rfl, rfl⟩))
    (fun os started H enc _ F => by rw [OpenClaim.pre_eq_preRow]; exact lifted os started H enc F)
theorem proved : Rows.FnExactSitePublicSaid := said
#print axioms proved
end Go.Proofs.Ytjphadcamhjgeaa.fnExactSitePublic
