/-
  laws.FnExactMayUse returns true at every argument, and leaves what came in as it was: the program's MayUse answers as the model's (strings of more than 1048576 bytes are passed over by the law itself). Conditions: none.
-/
import Derived.Test.YtogoppknimpkbaaFr
import Derived.Stop.Joined
import Derived.Test.YtogoppknimpkbaaDg
import Derived.Test.YtogoppknimpkbaaSo
import Derived.Test.YtogoppknimpkbaaM1
import Derived.Test.YtogoppknimpkbaaYOrigin
import Derived.Test.YtogoppknimpkbaaC9b
import Derived.Test.YtogoppknimpkbaaC9i
namespace Go.Proofs.Ytogoppknimpkbaa.fnExactMayUse
open Go.ChangeShapes Go.WideShapes Go.ChangeAt Go.RowKit
set_option linter.unusedVariables false

open S0 S9 Dm in
set_option maxHeartbeats 8000000 in
set_option maxRecDepth 100000 in
theorem walk (v0 : Value) (s1 : ByteArray) (hs1 : s1.size ≤ maxLen) (W : World) {H : Type} {enc : TypeId × Value → H} {b0 : Nat} {d0 : DataW H} {p0 : List MemPlace} (hv0 : Value.okWide Try.prog W .any b0 28 v0) (ht0 : DataW.Trod enc Try.prog W 0 (fun _ => true) true 28 v0 d0 p0) :
    Calls Try.prog 9 #[v0, .string s1] W fun e w' => e = .returned (.bool true) ∧ Below W.heap.size W w' := by
  obtain ⟨vs0, x0, rfl, hr0, ho0⟩ := Fx.argOrigin hv0 ht0
  clear ht0 hv0
  obtain rfl := Fx.Origin.rds hr0
  have H0 := Lib.hid hr0
  clear hr0
  have hwx0 := Nat.le_of_eq (Fx.Origin.wt x0)
  have hwy0 := Nat.le_of_eq (Fx.Origin.wt x0).symm
  have HB : Below W.heap.size W W := Below.refl _ _
  by_cases big1 : 1048576 < s1.size
  · go_enter Try.func9, Try.ntmps9
    go_wp2
    go_ret
    exact ⟨rfl, (Below.refl _ _).alloc (Nat.le_refl _) _⟩
  obtain ⟨q0, hq0⟩ : ∃ x, x = W.alloc (.cells #[.bool (x0).Secure, .string (x0).Host, .int .i64 (x0).Port] 28) := ⟨_, rfl⟩
  have o_p0 := Fx.var_owns W 28 3 [.bool (x0).Secure, .string (x0).Host, .int .i64 (x0).Port] rfl
  have n_p0 : [W.heap.size].Nodup := by simp
  have bq0 : Below W.heap.size W q0 := hq0 ▸ (Below.refl _ _).alloc (Nat.le_refl _) _
  rw [← hq0] at o_p0
  have sq0 : q0.heap.size = W.heap.size + 1 := by rw [hq0]; simp
  replace HB := HB.trans (bq0.mono HB.size)
  have i_p0 := Fx.made_in o_p0
  go_enter Try.func9, Try.ntmps9
  go_wp2_with fail
  rw [← hq0]
  (with_reducible refine (Fx.szOrigin _ x0 _ (1048576) (rdsL_on H0.out HB) ho0 (by omega) (by omega)).mono ?_); rintro e w1 ⟨rfl, b1⟩
  replace o_p0 := owns_below o_p0 b1
  replace HB := HB.trans (b1.mono HB.size)
  by_cases big0 : (wtL (Fx.Origin.dcs x0) : Int) ≤ 1048576
  rotate_left
  · rw [if_neg big0]
    go_wp2
    go_ret
    exact ⟨rfl, HB⟩
  rw [if_pos big0]
  have d_p0_0 : w1.cell? ⟨W.heap.size, 0, none⟩ = some (.bool (x0).Secure) := Fx.var_load o_p0 n_p0 0 _ rfl
  have d_p0_1 : w1.cell? ⟨W.heap.size, 1, none⟩ = some (.string (x0).Host) := Fx.var_load o_p0 n_p0 1 _ rfl
  have d_p0_2 : w1.cell? ⟨W.heap.size, 2, none⟩ = some (.int .i64 (x0).Port) := Fx.var_load o_p0 n_p0 2 _ rfl
  have e_p0 : W.heap.size < w1.heap.size := Fx.var_lt o_p0
  go_wp2_with fail
  (with_reducible refine (Fx.toOrigin _ x0 _ (rdsL_on H0.out HB) (by omega)).mono ?_); rintro e w2 ⟨v_cw0, s_cw0, rfl, o_cw0, n_cw0, b2⟩
  clear d_p0_0 d_p0_1 d_p0_2 e_p0
  replace o_p0 := owns_below o_p0 b2
  replace HB := HB.trans (b2.mono HB.size)
  have i_cw0 := Fx.madeL_in o_cw0
  obtain ⟨rfl, -⟩ := Fx.Origin.owns o_cw0
  go_wp2_with fail
  (with_reducible refine (C9b.specMay _ x0 s1 _ (ownsL_rds _ _ _ o_cw0) (by omega) (by omega)).mono ?_); rintro e w3 ⟨rfl, b3⟩
  replace o_p0 := owns_below o_p0 b3
  replace o_cw0 := ownsL_below o_cw0 b3
  replace HB := HB.trans (b3.mono HB.size)
  clear o_cw0 i_cw0 n_cw0
  have d_p0_0 : w3.cell? ⟨W.heap.size, 0, none⟩ = some (.bool (x0).Secure) := Fx.var_load o_p0 n_p0 0 _ rfl
  have d_p0_1 : w3.cell? ⟨W.heap.size, 1, none⟩ = some (.string (x0).Host) := Fx.var_load o_p0 n_p0 1 _ rfl
  have d_p0_2 : w3.cell? ⟨W.heap.size, 2, none⟩ = some (.int .i64 (x0).Port) := Fx.var_load o_p0 n_p0 2 _ rfl
  have e_p0 : W.heap.size < w3.heap.size := Fx.var_lt o_p0
  go_wp2_with fail
  (with_reducible refine (Fx.toOrigin _ x0 _ (rdsL_on H0.out HB) (by omega)).mono ?_); rintro e w4 ⟨v_cg0, s_cg0, rfl, o_cg0, n_cg0, b4⟩
  clear d_p0_0 d_p0_1 d_p0_2 e_p0
  replace o_p0 := owns_below o_p0 b4
  replace HB := HB.trans (b4.mono HB.size)
  have i_cg0 := Fx.madeL_in o_cg0
  obtain ⟨rfl, -⟩ := Fx.Origin.owns o_cg0
  go_wp2_with fail
  (with_reducible refine (C9i.implMay _ x0 s1 _ (ownsL_rds _ _ _ o_cg0) (by omega) (by omega)).mono ?_); rintro e w5 ⟨rfl, b5⟩
  replace o_p0 := owns_below o_p0 b5
  replace o_cg0 := ownsL_below o_cg0 b5
  replace HB := HB.trans (b5.mono HB.size)
  clear o_cg0 i_cg0 n_cg0
  go_wp2
  go_ret
  exact ⟨rfl, HB⟩

set_option maxRecDepth 100000 in
theorem contract (H : Type) (enc : TypeId × Value → H) (W : World) (base : Nat) (args : Array Value) (ds gs : List (DataW H)) (before : List MemPlace)
    (hval : ∀ (j : Nat) t v, Try.f9.params[j]? = some t → args[j]? = some v → Value.okWide Try.prog W .any base t v)
    (hW : DataW.Whole enc Try.prog Try.f9.params.toList Rows.fnExactMayUseSpec.vars false W args.toList ds gs before) :
    Calls Try.prog 9 args W fun e W' => ∃ v, e = .returned v ∧ Rows.fnExactMayUseSpec.post enc Try.prog Try.f9 false true false false W args v W' := by
  have hW' := hW
  obtain ⟨p, q, hA0, hV, rfl, hfz, hnd⟩ := hW
  have hA : DataW.TrodAll enc Try.prog W 0 (fun _ => true) true Try.f9.params.toList args.toList ds p := hA0
  rw [Try.params9] at hA hval
  obtain ⟨v0, vs0, d0, ds0, p0, q0, hargs, rfl, rfl, h0, r0⟩ := trodAll_cons hA
  obtain ⟨v1, vs1, d1, ds1, p1, q1, rfl, rfl, rfl, h1, r1⟩ := trodAll_cons r0
  obtain ⟨rfl, rfl, rfl⟩ := trodAll_nil r1
  obtain rfl : args = #[v0, v1] := by cases args; simp_all
  obtain ⟨rfl, rfl⟩ := trodVars_none hV
  obtain ⟨s1, rfl, rfl, rfl, hs1⟩ := ChangeMaps.open_string Try.underlying9 (hval 1 9 v1 rfl rfl) h1
  clear hA0
  refine Fr.closeLaw rfl (by kernel_rfl) (by rw [Try.params9]; decide) hW' rfl ?_
  exact walk v0 s1 hs1 W (hval 0 28 v0 rfl rfl) h0

set_option maxRecDepth 100000 in
theorem reads (os : Os) {H : Type} (enc : TypeId × Value → H) : ∃ places, DataW.whole enc Try.prog ((World.holding Try.prog os ⟨#[], #[], []⟩).forCall (fun _ _ => 0) ⟨#[], #[.agg #[.bool false, .string ⟨#[]⟩, .int .i64 0], .string ⟨#[]⟩], []⟩).memory Try.f9.params.toList Rows.fnExactMayUseSpec.vars false (#[.agg #[.bool false, .string ⟨#[]⟩, .int .i64 0], .string ⟨#[]⟩] : Array Value).toList 8 = some ([.agg [.lit (.bool false), .lit (.string []), .lit (.int .i64 0)], .lit (.string [])], [], places) :=
  ⟨[], by kernel_rfl⟩
set_option maxRecDepth 100000 in
theorem lifted (os : Os) (started : os.Started) (H : Type) (enc : TypeId × Value → H) (F : Stop.Interp) :
    ReturnsInHanded {} Try.checked os 9 .any ((OpenSpec.ofChange Rows.fnExactMayUseSpec).preRow enc Try.prog Try.f9 Rows.fnExactMayUseRow.domain false Rows.fnExactMayUseRow.laid) (((OpenSpec.ofChange Rows.fnExactMayUseSpec).at F).post enc Try.prog Try.f9 false true false false) := by
  obtain ⟨places, hx⟩ := reads os enc
  refine returnsInHanded_of_row (C := Try.checked) (s := OpenSpec.ofChange Rows.fnExactMayUseSpec) Fr.own started (by kernel_rfl) Try.func9
    (witness_row_atRef (enc := enc) (C := Try.checked) false (World.holding Try.prog os ⟨#[], #[], []⟩) #[.agg #[.bool false, .string ⟨#[]⟩, .int .i64 0], .string ⟨#[]⟩] rfl (by kernel_rfl) (by kernel_rfl) (by kernel_rfl)
      (OpenSpec.preRow_of_cond 8 hx (by kernel_rfl) (fun k hk => by cases hk) (by kernel_rfl) (laidMetH_nil _ _))) ?_
  intro W base args ds gs before hval hW _ hcond _ hL _ _
  exact contract H enc W base args ds gs before hval hW
set_option maxRecDepth 100000 in
theorem said : Rows.FnExactMayUseSaid :=
  OpenClaim.holds_of_cond 9 Try.f9 rfl rfl rfl rfl rfl rfl rfl ⟨rfl, rfl, rfl, rfl, rfl⟩ rfl rfl rfl rfl rfl (by kernel_rfl) Try.func9 (by kernel_rfl)
    (of_decide_eq_true (by kernel_rfl)) (by unfold Func.isWrapper; first | (rw [if_pos (by decide +kernel)]; kernel_rfl) | (rw [if_neg (by decide +kernel)]; exact ⟨rfl, rfl⟩))
    (fun os started H enc _ F => by rw [OpenClaim.pre_eq_preRow]; exact lifted os started H enc F)
theorem proved : Rows.FnExactMayUseSaid := said
#print axioms proved
end Go.Proofs.Ytogoppknimpkbaa.fnExactMayUse
