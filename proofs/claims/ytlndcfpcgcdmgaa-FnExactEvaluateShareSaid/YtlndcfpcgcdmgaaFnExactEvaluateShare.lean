/-
  laws.FnExactEvaluateShare returns true at every argument, and leaves what came in as it was: the program's EvaluateShare answers as the model's. Conditions: none.
-/
import Derived.Test.YtlndcfpcgcdmgaaFr
import Derived.Stop.Joined
import Derived.Test.YtlndcfpcgcdmgaaSo
import Derived.Test.YtlndcfpcgcdmgaaM1
import Derived.Test.YtlndcfpcgcdmgaaSo7
import Derived.Test.YtlndcfpcgcdmgaaC7i
namespace Go.Proofs.Ytlndcfpcgcdmgaa.fnExactEvaluateShare
open Go.ChangeShapes Go.WideShapes Go.ChangeAt Go.RowKit
set_option linter.unusedVariables false

open S0 in
set_option maxHeartbeats 4000000 in
set_option maxRecDepth 100000 in
theorem walk (v0 : Value) (a1 : Int) (u1 : (Lit.int .i64 a1).wf = true) (W : World) {H : Type} {enc : TypeId × Value → H} {b0 : Nat} {d0 : DataW H} {p0 : List MemPlace} (hv0 : Value.okWide Try.prog W .any b0 36 v0) (ht0 : DataW.Trod enc Try.prog W 0 (fun _ => true) true 36 v0 d0 p0) :
    Calls Try.prog 7 #[v0, .int .i64 a1] W fun e w' => e = .returned (.bool true) ∧ Below W.heap.size W w' := by
  obtain ⟨i0, x0, rfl, hi0, hv0⟩ := So7.share hv0 ht0
  clear ht0
  have hi0 := M1.i64_wf hi0
  have hv0 := M1.i64_wf hv0
  have hu1 := M1.i64_wf u1
  clear u1
  have _t := True.intro
  have HB : Below W.heap.size W (W.alloc (.cells #[.int .i64 i0, .int .i64 x0] 36)) := (Below.refl _ _).alloc (Nat.le_refl _) _
  have o_p0 : (W.alloc (.cells #[.int .i64 i0, .int .i64 x0] 36)).ownsRow W.heap.size 36 2 (.slice (some ⟨W.heap.size, 0, none⟩) 1 1) 1 (ints .i64 [i0, x0]) := W.ownsRow_lit _ 1 (Nat.le_refl _) (by unfold maxLen; omega) rfl
  have l_o_p0 := So.lt_of o_p0
  go_enter Try.func7, Try.ntmps7
  go_wp2_with fail
  (with_reducible refine (S3.toOne _ i0 x0).mono ?_); rintro e w1 ⟨rfl, b1⟩
  replace o_p0 := own_below o_p0 b1
  replace HB := HB.trans (b1.mono HB.size)
  go_wp2_with fail
  (with_reducible refine (C7.specEvs i0 x0 a1 _).mono ?_); rintro e w2 ⟨rfl, b2⟩
  replace o_p0 := own_below o_p0 b2
  replace HB := HB.trans (b2.mono HB.size)
  have d_p0_0 : w2.cell? ⟨W.heap.size, 0, none⟩ = some (.int .i64 i0) := (S3.stored_at2 o_p0 0 (by omega)).2.2.1
  have d_p0_1 : w2.cell? ⟨W.heap.size, 1, none⟩ = some (.int .i64 x0) := (S3.stored_at2 o_p0 1 (by omega)).2.2.1
  have e_p0 : W.heap.size < w2.heap.size := (So.lt_of o_p0) _ rfl
  go_wp2_with fail
  (with_reducible refine (S3.toOne _ i0 x0).mono ?_); rintro e w3 ⟨rfl, b3⟩
  replace o_p0 := own_below o_p0 b3
  replace HB := HB.trans (b3.mono HB.size)
  clear d_p0_0 d_p0_1 e_p0
  go_wp2_with fail
  (with_reducible refine (C7i.implEvs i0 x0 a1 _).mono ?_); rintro e w4 ⟨rfl, b4⟩
  replace o_p0 := own_below o_p0 b4
  replace HB := HB.trans (b4.mono HB.size)
  go_wp2
  go_ret
  exact ⟨rfl, HB⟩

theorem contract (H : Type) (enc : TypeId × Value → H) (W : World) (base : Nat) (args : Array Value) (ds gs : List (DataW H)) (before : List MemPlace)
    (hval : ∀ (j : Nat) t v, Try.f7.params[j]? = some t → args[j]? = some v → Value.okWide Try.prog W .any base t v)
    (hW : DataW.Whole enc Try.prog Try.f7.params.toList Rows.fnExactEvaluateShareSpec.vars false W args.toList ds gs before) :
    Calls Try.prog 7 args W fun e W' => ∃ v, e = .returned v ∧ Rows.fnExactEvaluateShareSpec.post enc Try.prog Try.f7 false true false false W args v W' := by
  have hW' := hW
  obtain ⟨p, q, hA0, hV, rfl, hfz, hnd⟩ := hW
  have hA : DataW.TrodAll enc Try.prog W 0 (fun _ => true) true Try.f7.params.toList args.toList ds p := hA0
  rw [Try.params7] at hA hval
  obtain ⟨v0, vs0, d0, ds0, p0, q0, hargs, rfl, rfl, h0, r0⟩ := trodAll_cons hA
  obtain ⟨v1, vs1, d1, ds1, p1, q1, rfl, rfl, rfl, h1, r1⟩ := trodAll_cons r0
  obtain ⟨rfl, rfl, rfl⟩ := trodAll_nil r1
  obtain rfl : args = #[v0, v1] := by cases args; simp_all
  obtain ⟨rfl, rfl⟩ := trodVars_none hV
  obtain ⟨a1, rfl, rfl, rfl, w1⟩ := open_int Try.underlying3 (hval 1 3 v1 rfl rfl) h1
  clear hA0
  refine Fr.closeLaw rfl (by kernel_rfl) (by rw [Try.params7]; decide) hW' rfl ?_
  exact walk v0 a1 w1 W (hval 0 36 v0 rfl rfl) h0

theorem reads (os : Os) {H : Type} (enc : TypeId × Value → H) : ∃ places, DataW.whole enc Try.prog ((World.holding Try.prog os ⟨#[], #[], []⟩).forCall (fun _ _ => 0) ⟨#[], #[.agg #[.int .i64 0, .int .i64 0], .int .i64 0], []⟩).memory Try.f7.params.toList Rows.fnExactEvaluateShareSpec.vars false (#[.agg #[.int .i64 0, .int .i64 0], .int .i64 0] : Array Value).toList 8 = some ([.agg [.lit (.int .i64 0), .lit (.int .i64 0)], .lit (.int .i64 0)], [], places) :=
  ⟨[], by kernel_rfl⟩
set_option maxRecDepth 100000 in
theorem lifted (os : Os) (started : os.Started) (H : Type) (enc : TypeId × Value → H) (F : Stop.Interp) :
    ReturnsInHanded {} Try.checked os 7 .any ((OpenSpec.ofChange Rows.fnExactEvaluateShareSpec).preRow enc Try.prog Try.f7 Rows.fnExactEvaluateShareRow.domain false Rows.fnExactEvaluateShareRow.laid) (((OpenSpec.ofChange Rows.fnExactEvaluateShareSpec).at F).post enc Try.prog Try.f7 false true false false) := by
  obtain ⟨places, hx⟩ := reads os enc
  refine returnsInHanded_of_row (C := Try.checked) (s := OpenSpec.ofChange Rows.fnExactEvaluateShareSpec) Fr.own started (by kernel_rfl) Try.func7
    (witness_row_atRef (enc := enc) (C := Try.checked) false (World.holding Try.prog os ⟨#[], #[], []⟩) #[.agg #[.int .i64 0, .int .i64 0], .int .i64 0] rfl (by kernel_rfl) (by kernel_rfl) (by kernel_rfl)
      (OpenSpec.preRow_of_cond 8 hx (by kernel_rfl) (fun k hk => by cases hk) (by kernel_rfl) (laidMetH_nil _ _))) ?_
  intro W base args ds gs before hval hW _ hcond _ hL _ _
  exact contract H enc W base args ds gs before hval hW
theorem said : Rows.FnExactEvaluateShareSaid :=
  OpenClaim.holds_of_cond 7 Try.f7 rfl rfl rfl rfl rfl rfl rfl ⟨rfl, rfl, rfl, rfl, rfl⟩ rfl rfl rfl rfl rfl (by kernel_rfl) Try.func7 (by kernel_rfl)
    (of_decide_eq_true (by kernel_rfl)) (by unfold Func.isWrapper; first | (rw [if_pos (by decide +kernel)]; kernel_rfl) | (rw [if_neg (by decide +kernel)]; exact ⟨rfl, rfl⟩))
    (fun os started H enc _ F => by rw [OpenClaim.pre_eq_preRow]; exact lifted os started H enc F)
theorem proved : Rows.FnExactEvaluateShareSaid := said
#print axioms proved
end Go.Proofs.Ytlndcfpcgcdmgaa.fnExactEvaluateShare
