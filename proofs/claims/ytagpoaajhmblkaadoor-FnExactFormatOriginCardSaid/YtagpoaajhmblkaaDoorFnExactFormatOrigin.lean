/-
  laws.FnExactFormatOrigin returns true at every argument, and leaves what came in as it was: the program's FormatOrigin answers as the model's (strings of more than 1048576 bytes are passed over by the law itself). Conditions: the library's package-level variables math/bits.deBruijn32tab, math/bits.deBruijn64tab, internal/strconv.uint64pow10 hold when the call begins what the program's text lays there (the card ties them to that text).
-/
import Derived.Test.YtagpoaajhmblkaaDoorFr
import Derived.Test.YtagpoaajhmblkaaDoorCards
import Derived.Test.YtagpoaajhmblkaaDoorTie
import Derived.Lay
import Derived.MakeChecks
import Derived.Test.YtagpoaajhmblkaaDoorLa
import Derived.Test.YtagpoaajhmblkaaDoorDg
import Derived.Test.YtagpoaajhmblkaaDoorSo
import Derived.Test.YtagpoaajhmblkaaDoorM1
import Derived.Test.YtagpoaajhmblkaaDoorLa
import Derived.Test.YtagpoaajhmblkaaDoorYOrigin
import Derived.Test.YtagpoaajhmblkaaDoorC9b
import Derived.Test.YtagpoaajhmblkaaDoorC9i
namespace Go.Proofs.YtagpoaajhmblkaaDoor.fnExactFormatOrigin
open Go.ChangeShapes Go.WideShapes Go.ChangeAt Go.RowKit
set_option linter.unusedVariables false

open S0 S9 Dm in
set_option maxHeartbeats 8000000 in
set_option maxRecDepth 100000 in
theorem walk (v0 : Value) (W : World) {H : Type} {enc : TypeId × Value → H} {b0 : Nat} {d0 : DataW H} {p0 : List MemPlace} (hv0 : Value.okWide Tryd.prog W .any b0 23 v0) (ht0 : DataW.Trod enc Tryd.prog W 0 (fun _ => true) true 23 v0 d0 p0) (hL : laidMetH Tryd.prog Rows.fnExactFormatOriginRow.laid W) :
    Calls Tryd.prog 3 #[v0] W fun e w' => e = .returned (.bool true) ∧ Below W.heap.size W w' := by
  have ht : La.Pow W := La.pow_of rfl hL
  clear hL
  obtain ⟨vs0, x0, rfl, hr0, ho0⟩ := Fx.argOrigin hv0 ht0
  clear ht0 hv0
  obtain rfl := Fx.Origin.rds hr0
  have H0 := Lib.hid hr0
  clear hr0
  have hwx0 := Nat.le_of_eq (Fx.Origin.wt x0)
  have hwy0 := Nat.le_of_eq (Fx.Origin.wt x0).symm
  have HB : Below W.heap.size W W := Below.refl _ _
  obtain ⟨q0, hq0⟩ : ∃ x, x = W.alloc (.cells #[.bool (x0).Secure, .string (x0).Host, .int .i64 (x0).Port] 23) := ⟨_, rfl⟩
  have o_p0 := Fx.var_owns W 23 3 [.bool (x0).Secure, .string (x0).Host, .int .i64 (x0).Port] rfl
  have n_p0 : [W.heap.size].Nodup := by simp
  have bq0 : Below W.heap.size W q0 := hq0 ▸ (Below.refl _ _).alloc (Nat.le_refl _) _
  rw [← hq0] at o_p0
  have sq0 : q0.heap.size = W.heap.size + 1 := by rw [hq0]; simp
  replace HB := HB.trans (bq0.mono HB.size)
  have i_p0 := Fx.made_in o_p0
  go_enter Tryd.func3, Tryd.ntmps3
  go_wp2_with fail
  rw [← hq0]
  (with_reducible refine (Fx.szOrigin _ x0 _ (1048576) (rdsL_on H0.out HB) ho0 (by omega) (by omega)).mono ?_); rintro e w1 ⟨rfl, b1⟩
  replace o_p0 := owns_below o_p0 b1
  replace HB := HB.trans (b1.mono HB.size)
  by_cases big0 : (wtL (Fx.Origin.dcs x0) : Int) ≤ 1048576
  rotate_left
  · rw [if_neg big0]
    go_wp2
    go_ret
    exact ⟨rfl, HB⟩
  rw [if_pos big0]
  have d_p0_0 : w1.cell? ⟨W.heap.size, 0, none⟩ = some (.bool (x0).Secure) := Fx.var_load o_p0 n_p0 0 _ rfl
  have d_p0_1 : w1.cell? ⟨W.heap.size, 1, none⟩ = some (.string (x0).Host) := Fx.var_load o_p0 n_p0 1 _ rfl
  have d_p0_2 : w1.cell? ⟨W.heap.size, 2, none⟩ = some (.int .i64 (x0).Port) := Fx.var_load o_p0 n_p0 2 _ rfl
  have e_p0 : W.heap.size < w1.heap.size := Fx.var_lt o_p0
  go_wp2_with fail
  (with_reducible refine (Fx.toOrigin _ x0 _ (rdsL_on H0.out HB) (by omega)).mono ?_); rintro e w2 ⟨v_cw0, s_cw0, rfl, o_cw0, n_cw0, b2⟩
  clear d_p0_0 d_p0_1 d_p0_2 e_p0
  replace o_p0 := owns_below o_p0 b2
  replace HB := HB.trans (b2.mono HB.size)
  have i_cw0 := Fx.madeL_in o_cw0
  obtain ⟨rfl, -⟩ := Fx.Origin.owns o_cw0
  go_wp2_with fail
  (with_reducible refine (C9b.specFmtO _ x0 _ (ownsL_rds _ _ _ o_cw0) (by omega)).mono ?_); rintro e w3 ⟨rfl, b3⟩
  replace o_p0 := owns_below o_p0 b3
  replace o_cw0 := ownsL_below o_cw0 b3
  replace HB := HB.trans (b3.mono HB.size)
  clear o_cw0 i_cw0 n_cw0
  have d_p0_0 : w3.cell? ⟨W.heap.size, 0, none⟩ = some (.bool (x0).Secure) := Fx.var_load o_p0 n_p0 0 _ rfl
  have d_p0_1 : w3.cell? ⟨W.heap.size, 1, none⟩ = some (.string (x0).Host) := Fx.var_load o_p0 n_p0 1 _ rfl
  have d_p0_2 : w3.cell? ⟨W.heap.size, 2, none⟩ = some (.int .i64 (x0).Port) := Fx.var_load o_p0 n_p0 2 _ rfl
  have e_p0 : W.heap.size < w3.heap.size := Fx.var_lt o_p0
  go_wp2_with fail
  (with_reducible refine (Fx.toOrigin _ x0 _ (rdsL_on H0.out HB) (by omega)).mono ?_); rintro e w4 ⟨v_cg0, s_cg0, rfl, o_cg0, n_cg0, b4⟩
  clear d_p0_0 d_p0_1 d_p0_2 e_p0
  replace o_p0 := owns_below o_p0 b4
  replace HB := HB.trans (b4.mono HB.size)
  have i_cg0 := Fx.madeL_in o_cg0
  obtain ⟨rfl, -⟩ := Fx.Origin.owns o_cg0
  go_wp2_with fail
  (with_reducible refine (C9i.implFmtO _ x0 _ (ownsL_rds _ _ _ o_cg0) (by omega) (ht.stays HB)).mono ?_); rintro e w5 ⟨rfl, b5⟩
  replace o_p0 := owns_below o_p0 b5
  replace o_cg0 := ownsL_below o_cg0 b5
  replace HB := HB.trans (b5.mono HB.size)
  clear o_cg0 i_cg0 n_cg0
  go_wp2
  go_ret
  exact ⟨rfl, HB⟩

set_option maxRecDepth 100000 in
theorem contract (H : Type) (enc : TypeId × Value → H) (W : World) (base : Nat) (args : Array Value) (ds gs : List (DataW H)) (before : List MemPlace)
    (hval : ∀ (j : Nat) t v, Tryd.f3.params[j]? = some t → args[j]? = some v → Value.okWide Tryd.prog W .any base t v)
    (hW : DataW.Whole enc Tryd.prog Tryd.f3.params.toList Rows.fnExactFormatOriginSpec.vars false W args.toList ds gs before) (hL : laidMetH Tryd.prog Rows.fnExactFormatOriginRow.laid W) :
    Calls Tryd.prog 3 args W fun e W' => ∃ v, e = .returned v ∧ Rows.fnExactFormatOriginSpec.post enc Tryd.prog Tryd.f3 false true false false W args v W' := by
  have hW' := hW
  obtain ⟨p, q, hA0, hV, rfl, hfz, hnd⟩ := hW
  have hA : DataW.TrodAll enc Tryd.prog W 0 (fun _ => true) true Tryd.f3.params.toList args.toList ds p := hA0
  rw [Tryd.params3] at hA hval
  obtain ⟨v0, vs0, d0, ds0, p0, q0, hargs, rfl, rfl, h0, r0⟩ := trodAll_cons hA
  obtain ⟨rfl, rfl, rfl⟩ := trodAll_nil r0
  obtain rfl : args = #[v0] := by cases args; simp_all
  obtain ⟨rfl, rfl⟩ := trodVars_none hV
  clear hA0
  refine Fr.closeLaw rfl (by kernel_rfl) (by rw [Tryd.params3]; decide) hW' rfl ?_
  exact walk v0 W (hval 0 23 v0 rfl rfl) h0 hL

theorem laid_met (os : Os) : laidMetH Tryd.prog Rows.fnExactFormatOriginRow.laid ((World.laidAll Tryd.prog os Rows.fnExactFormatOriginRow.laid).forCall (fun _ _ => 0) ⟨#[], #[.agg #[.bool false, .string ⟨#[]⟩, .int .i64 0]], []⟩).memory := by
  rw [MakeChecks.laidMetH_plain _ _ _ (by kernel_rfl)]; exact laidMet_laidAll _ (by kernel_rfl) (by kernel_rfl)
set_option maxRecDepth 100000 in
theorem reads (os : Os) {H : Type} (enc : TypeId × Value → H) : ∃ places, DataW.whole enc Tryd.prog ((World.laidAll Tryd.prog os Rows.fnExactFormatOriginRow.laid).forCall (fun _ _ => 0) ⟨#[], #[.agg #[.bool false, .string ⟨#[]⟩, .int .i64 0]], []⟩).memory Tryd.f3.params.toList Rows.fnExactFormatOriginSpec.vars false (#[.agg #[.bool false, .string ⟨#[]⟩, .int .i64 0]] : Array Value).toList 8 = some ([.agg [.lit (.bool false), .lit (.string []), .lit (.int .i64 0)]], [], places) :=
  ⟨[], by kernel_rfl⟩
set_option maxRecDepth 100000 in
theorem lifted (os : Os) (started : os.Started) (H : Type) (enc : TypeId × Value → H) (F : Stop.Interp) :
    ReturnsInHanded {} Tryd.checked os 3 .any ((OpenSpec.ofChange Rows.fnExactFormatOriginSpec).preRow enc Tryd.prog Tryd.f3 Rows.fnExactFormatOriginRow.domain false Rows.fnExactFormatOriginRow.laid) (((OpenSpec.ofChange Rows.fnExactFormatOriginSpec).at F).post enc Tryd.prog Tryd.f3 false true false false) := by
  obtain ⟨places, hx⟩ := reads os enc
  refine returnsInHanded_of_row (C := Tryd.checked) (s := OpenSpec.ofChange Rows.fnExactFormatOriginSpec) Fr.own started (by kernel_rfl) Tryd.func3
    (witness_row_atRef (enc := enc) (C := Tryd.checked) false (World.laidAll Tryd.prog os Rows.fnExactFormatOriginRow.laid) #[.agg #[.bool false, .string ⟨#[]⟩, .int .i64 0]] (World.laidAll_os _ _ _) (by kernel_rfl) (by kernel_rfl) (by kernel_rfl)
      (OpenSpec.preRow_of_cond 8 hx (by kernel_rfl) (fun k hk => by cases hk) (by kernel_rfl) (laid_met os))) ?_
  intro W base args ds gs before hval hW _ hcond _ hL _ _
  exact contract H enc W base args ds gs before hval hW hL
set_option maxRecDepth 100000 in
theorem said : Rows.FnExactFormatOriginSaid :=
  OpenClaim.holds_of_cond 3 Tryd.f3 rfl rfl rfl rfl rfl rfl rfl ⟨rfl, rfl, rfl, rfl, rfl⟩ rfl rfl rfl rfl rfl (by kernel_rfl) Tryd.func3 (by kernel_rfl)
    (of_decide_eq_true (by kernel_rfl)) (by unfold Func.isWrapper; first | (rw [if_pos (by decide +kernel)]; kernel_rfl) | (rw [if_neg (by decide +kernel)]; exact ⟨rfl, rfl⟩))
    (fun os started H enc _ F => by rw [OpenClaim.pre_eq_preRow]; exact lifted os started H enc F)
theorem plain (f : FuncId) (fn : Func) (hf : Tryd.pinned.checked.prog.funcNamed "loop.example/g00581/laws.FnExactFormatOrigin" = some f) (hfn : Tryd.pinned.checked.prog.funcs[f]? = some fn) :
    true = Tryd.pinned.checked.prog.looks [] ∧ ∀ (j : Nat) t, fn.params[j]? = some t → Tryd.pinned.checked.prog.wantsStandIn t = false := by
  obtain rfl : f = 3 := Option.some.inj ((show Tryd.prog.funcNamed "loop.example/g00581/laws.FnExactFormatOrigin" = some 3 by kernel_rfl).symm.trans hf) |>.symm
  obtain rfl : fn = Tryd.f3 := (Option.some.inj (Tryd.func3.symm.trans hfn)).symm
  refine ⟨by kernel_rfl, fun j t ht => ?_⟩
  rw [Tryd.params3] at ht
  have hall : ([23] : List TypeId).all (fun t => !Tryd.prog.wantsStandIn t) = true := by kernel_rfl
  have hm : t ∈ ([23] : List TypeId) := by have := Array.mem_of_getElem? ht; simpa using this
  have := List.all_eq_true.1 hall t hm
  exact (by simpa using this : Tryd.prog.wantsStandIn t = false)
theorem proved : Rows.FnExactFormatOriginCardSaid :=
  Claim7.holds_tied_plain_at .later [] _ _ _ _ said (fun _ h => by cases h) (by kernel_rfl) (fun _ h => by cases h) fnExactFormatOrigin_row_tie rfl ⟨rfl, rfl⟩ (by kernel_rfl) rfl plain (by kernel_rfl)
#print axioms proved
end Go.Proofs.YtagpoaajhmblkaaDoor.fnExactFormatOrigin
