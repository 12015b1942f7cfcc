/-
  laws.FnExactIsClone returns true at every argument, and leaves what came in as it was: the program's IsClone answers as the model's (strings of more than 1048576 bytes are passed over by the law itself). Conditions: none.
-/
import Derived.Test.YtmfgfofdloclbaaFr
import Derived.Stop.Joined
import Derived.Test.YtmfgfofdloclbaaDg
import Derived.Test.YtmfgfofdloclbaaSo
import Derived.Test.YtmfgfofdloclbaaM1
import Derived.Test.YtmfgfofdloclbaaYAssertion
import Derived.Test.YtmfgfofdloclbaaC13c
import Derived.Test.YtmfgfofdloclbaaC13i
namespace Go.Proofs.Ytmfgfofdloclbaa.fnExactIsClone
open Go.ChangeShapes Go.WideShapes Go.ChangeAt Go.RowKit
set_option linter.unusedVariables false

open S0 S9 Dm in
set_option maxHeartbeats 8000000 in
set_option maxRecDepth 100000 in
theorem walk (v0 : Value) (a1 : Int) (u1 : (Lit.int .i64 a1).wf = true) (W : World) {H : Type} {enc : TypeId × Value → H} {b0 : Nat} {d0 : DataW H} {p0 : List MemPlace} (hv0 : Value.okWide Try.prog W .any b0 23 v0) (ht0 : DataW.Trod enc Try.prog W 0 (fun _ => true) true 23 v0 d0 p0) :
    Calls Try.prog 5 #[v0, .int .i64 a1] W fun e w' => e = .returned (.bool true) ∧ Below W.heap.size W w' := by
  obtain ⟨vs0, x0, rfl, hr0, ho0⟩ := Fx.argAssertion hv0 ht0
  clear ht0 hv0
  obtain rfl := Fx.Assertion.rds hr0
  have H0 := Lib.hid hr0
  clear hr0
  have hwx0 := Nat.le_of_eq (Fx.Assertion.wt x0)
  have hwy0 := Nat.le_of_eq (Fx.Assertion.wt x0).symm
  have hu1 := M1.i64_wf u1
  clear u1
  have HB : Below W.heap.size W W := Below.refl _ _
  obtain ⟨q0, hq0⟩ : ∃ x, x = W.alloc (.cells #[.string (x0).Site, .string (x0).Origin, .int .i64 (x0).Challenge, .int .i64 (x0).Handle, .bool (x0).Present, .int .i64 (x0).Counter, .int .i64 (x0).Signature] 23) := ⟨_, rfl⟩
  have o_p0 := Fx.var_owns W 23 7 [.string (x0).Site, .string (x0).Origin, .int .i64 (x0).Challenge, .int .i64 (x0).Handle, .bool (x0).Present, .int .i64 (x0).Counter, .int .i64 (x0).Signature] rfl
  have n_p0 : [W.heap.size].Nodup := by simp
  have bq0 : Below W.heap.size W q0 := hq0 ▸ (Below.refl _ _).alloc (Nat.le_refl _) _
  rw [← hq0] at o_p0
  have sq0 : q0.heap.size = W.heap.size + 1 := by rw [hq0]; simp
  replace HB := HB.trans (bq0.mono HB.size)
  have i_p0 := Fx.made_in o_p0
  go_enter Try.func5, Try.ntmps5
  go_wp2_with fail
  rw [← hq0]
  (with_reducible refine (Fx.szAssertion _ x0 _ (1048576) (rdsL_on H0.out HB) ho0 (by omega) (by omega)).mono ?_); rintro e w1 ⟨rfl, b1⟩
  replace o_p0 := owns_below o_p0 b1
  replace HB := HB.trans (b1.mono HB.size)
  by_cases big0 : (wtL (Fx.Assertion.dcs x0) : Int) ≤ 1048576
  rotate_left
  · rw [if_neg big0]
    go_wp2
    go_ret
    exact ⟨rfl, HB⟩
  rw [if_pos big0]
  have d_p0_0 : w1.cell? ⟨W.heap.size, 0, none⟩ = some (.string (x0).Site) := Fx.var_load o_p0 n_p0 0 _ rfl
  have d_p0_1 : w1.cell? ⟨W.heap.size, 1, none⟩ = some (.string (x0).Origin) := Fx.var_load o_p0 n_p0 1 _ rfl
  have d_p0_2 : w1.cell? ⟨W.heap.size, 2, none⟩ = some (.int .i64 (x0).Challenge) := Fx.var_load o_p0 n_p0 2 _ rfl
  have d_p0_3 : w1.cell? ⟨W.heap.size, 3, none⟩ = some (.int .i64 (x0).Handle) := Fx.var_load o_p0 n_p0 3 _ rfl
  have d_p0_4 : w1.cell? ⟨W.heap.size, 4, none⟩ = some (.bool (x0).Present) := Fx.var_load o_p0 n_p0 4 _ rfl
  have d_p0_5 : w1.cell? ⟨W.heap.size, 5, none⟩ = some (.int .i64 (x0).Counter) := Fx.var_load o_p0 n_p0 5 _ rfl
  have d_p0_6 : w1.cell? ⟨W.heap.size, 6, none⟩ = some (.int .i64 (x0).Signature) := Fx.var_load o_p0 n_p0 6 _ rfl
  have e_p0 : W.heap.size < w1.heap.size := Fx.var_lt o_p0
  go_wp2_with fail
  (with_reducible refine (Fx.toAssertion _ x0 _ (rdsL_on H0.out HB) (by omega)).mono ?_); rintro e w2 ⟨v_cw0, s_cw0, rfl, o_cw0, n_cw0, b2⟩
  clear d_p0_0 d_p0_1 d_p0_2 d_p0_3 d_p0_4 d_p0_5 d_p0_6 e_p0
  replace o_p0 := owns_below o_p0 b2
  replace HB := HB.trans (b2.mono HB.size)
  have i_cw0 := Fx.madeL_in o_cw0
  obtain ⟨rfl, -⟩ := Fx.Assertion.owns o_cw0
  go_wp2_with fail
  (with_reducible refine (C13c.specClone _ x0 a1 _ (ownsL_rds _ _ _ o_cw0)).mono ?_); rintro e w3 ⟨rfl, b3⟩
  replace o_p0 := owns_below o_p0 b3
  replace o_cw0 := ownsL_below o_cw0 b3
  replace HB := HB.trans (b3.mono HB.size)
  clear o_cw0 i_cw0 n_cw0
  have d_p0_0 : w3.cell? ⟨W.heap.size, 0, none⟩ = some (.string (x0).Site) := Fx.var_load o_p0 n_p0 0 _ rfl
  have d_p0_1 : w3.cell? ⟨W.heap.size, 1, none⟩ = some (.string (x0).Origin) := Fx.var_load o_p0 n_p0 1 _ rfl
  have d_p0_2 : w3.cell? ⟨W.heap.size, 2, none⟩ = some (.int .i64 (x0).Challenge) := Fx.var_load o_p0 n_p0 2 _ rfl
  have d_p0_3 : w3.cell? ⟨W.heap.size, 3, none⟩ = some (.int .i64 (x0).Handle) := Fx.var_load o_p0 n_p0 3 _ rfl
  have d_p0_4 : w3.cell? ⟨W.heap.size, 4, none⟩ = some (.bool (x0).Present) := Fx.var_load o_p0 n_p0 4 _ rfl
  have d_p0_5 : w3.cell? ⟨W.heap.size, 5, none⟩ = some (.int .i64 (x0).Counter) := Fx.var_load o_p0 n_p0 5 _ rfl
  have d_p0_6 : w3.cell? ⟨W.heap.size, 6, none⟩ = some (.int .i64 (x0).Signature) := Fx.var_load o_p0 n_p0 6 _ rfl
  have e_p0 : W.heap.size < w3.heap.size := Fx.var_lt o_p0
  go_wp2_with fail
  (with_reducible refine (Fx.toAssertion _ x0 _ (rdsL_on H0.out HB) (by omega)).mono ?_); rintro e w4 ⟨v_cg0, s_cg0, rfl, o_cg0, n_cg0, b4⟩
  clear d_p0_0 d_p0_1 d_p0_2 d_p0_3 d_p0_4 d_p0_5 d_p0_6 e_p0
  replace o_p0 := owns_below o_p0 b4
  replace HB := HB.trans (b4.mono HB.size)
  have i_cg0 := Fx.madeL_in o_cg0
  obtain ⟨rfl, -⟩ := Fx.Assertion.owns o_cg0
  go_wp2_with fail
  (with_reducible refine (C13i.implClone _ x0 a1 _ (ownsL_rds _ _ _ o_cg0)).mono ?_); rintro e w5 ⟨rfl, b5⟩
  replace o_p0 := owns_below o_p0 b5
  replace o_cg0 := ownsL_below o_cg0 b5
  replace HB := HB.trans (b5.mono HB.size)
  clear o_cg0 i_cg0 n_cg0
  go_wp2
  go_ret
  exact ⟨rfl, HB⟩

set_option maxRecDepth 100000 in
theorem contract (H : Type) (enc : TypeId × Value → H) (W : World) (base : Nat) (args : Array Value) (ds gs : List (DataW H)) (before : List MemPlace)
    (hval : ∀ (j : Nat) t v, Try.f5.params[j]? = some t → args[j]? = some v → Value.okWide Try.prog W .any base t v)
    (hW : DataW.Whole enc Try.prog Try.f5.params.toList Rows.fnExactIsCloneSpec.vars false W args.toList ds gs before) :
    Calls Try.prog 5 args W fun e W' => ∃ v, e = .returned v ∧ Rows.fnExactIsCloneSpec.post enc Try.prog Try.f5 false true false false W args v W' := by
  have hW' := hW
  obtain ⟨p, q, hA0, hV, rfl, hfz, hnd⟩ := hW
  have hA : DataW.TrodAll enc Try.prog W 0 (fun _ => true) true Try.f5.params.toList args.toList ds p := hA0
  rw [Try.params5] at hA hval
  obtain ⟨v0, vs0, d0, ds0, p0, q0, hargs, rfl, rfl, h0, r0⟩ := trodAll_cons hA
  obtain ⟨v1, vs1, d1, ds1, p1, q1, rfl, rfl, rfl, h1, r1⟩ := trodAll_cons r0
  obtain ⟨rfl, rfl, rfl⟩ := trodAll_nil r1
  obtain rfl : args = #[v0, v1] := by cases args; simp_all
  obtain ⟨rfl, rfl⟩ := trodVars_none hV
  obtain ⟨a1, rfl, rfl, rfl, w1⟩ := open_int Try.underlying3 (hval 1 3 v1 rfl rfl) h1
  clear hA0
  refine Fr.closeLaw rfl (by kernel_rfl) (by rw [Try.params5]; decide) hW' rfl ?_
  exact walk v0 a1 w1 W (hval 0 23 v0 rfl rfl) h0

set_option maxRecDepth 100000 in
theorem reads (os : Os) {H : Type} (enc : TypeId × Value → H) : ∃ places, DataW.whole enc Try.prog ((World.holding Try.prog os ⟨#[], #[], []⟩).forCall (fun _ _ => 0) ⟨#[], #[.agg #[.string ⟨#[]⟩, .string ⟨#[]⟩, .int .i64 0, .int .i64 0, .bool false, .int .i64 0, .int .i64 0], .int .i64 0], []⟩).memory Try.f5.params.toList Rows.fnExactIsCloneSpec.vars false (#[.agg #[.string ⟨#[]⟩, .string ⟨#[]⟩, .int .i64 0, .int .i64 0, .bool false, .int .i64 0, .int .i64 0], .int .i64 0] : Array Value).toList 8 = some ([.agg [.lit (.string []), .lit (.string []), .lit (.int .i64 0), .lit (.int .i64 0), .lit (.bool false), .lit (.int .i64 0), .lit (.int .i64 0)], .lit (.int .i64 0)], [], places) :=
  ⟨[], by kernel_rfl⟩
set_option maxRecDepth 100000 in
theorem lifted (os : Os) (started : os.Started) (H : Type) (enc : TypeId × Value → H) (F : Stop.Interp) :
    ReturnsInHanded {} Try.checked os 5 .any ((OpenSpec.ofChange Rows.fnExactIsCloneSpec).preRow enc Try.prog Try.f5 Rows.fnExactIsCloneRow.domain false Rows.fnExactIsCloneRow.laid) (((OpenSpec.ofChange Rows.fnExactIsCloneSpec).at F).post enc Try.prog Try.f5 false true false false) := by
  obtain ⟨places, hx⟩ := reads os enc
  refine returnsInHanded_of_row (C := Try.checked) (s := OpenSpec.ofChange Rows.fnExactIsCloneSpec) Fr.own started (by kernel_rfl) Try.func5
    (witness_row_atRef (enc := enc) (C := Try.checked) false (World.holding Try.prog os ⟨#[], #[], []⟩) #[.agg #[.string ⟨#[]⟩, .string ⟨#[]⟩, .int .i64 0, .int .i64 0, .bool false, .int .i64 0, .int .i64 0], .int .i64 0] rfl (by kernel_rfl) (by kernel_rfl) (by kernel_rfl)
      (OpenSpec.preRow_of_cond 8 hx (by kernel_rfl) (fun k hk => by cases hk) (by kernel_rfl) (laidMetH_nil _ _))) ?_
  intro W base args ds gs before hval hW _ hcond _ hL _ _
  exact contract H enc W base args ds gs before hval hW
set_option maxRecDepth 100000 in
theorem said : Rows.FnExactIsCloneSaid :=
  OpenClaim.holds_of_cond 5 Try.f5 rfl rfl rfl rfl rfl rfl rfl ⟨rfl, rfl, rfl, rfl, rfl⟩ rfl rfl rfl rfl rfl (by kernel_rfl) Try.func5 (by kernel_rfl)
    (of_decide_eq_true (by kernel_rfl)) (by unfold Func.isWrapper; first | (rw [if_pos (by decide +kernel)]; kernel_rfl) | (rw [if_neg (by decide +kernel)]; exact ⟨rfl, rfl⟩))
    (fun os started H enc _ F => by rw [OpenClaim.pre_eq_preRow]; exact lifted os started H enc F)
theorem proved : Rows.FnExactIsCloneSaid := said
#print axioms proved
end Go.Proofs.Ytmfgfofdloclbaa.fnExactIsClone
