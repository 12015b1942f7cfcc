/-
  laws.FnExactMissingShare returns true at every argument, and leaves what came in as it was: the program's MissingShare answers as the model's (slices of more than 1048576 elements are passed over by the law itself). Conditions: none.
-/
import Derived.Test.YthmljddgaabnhaaFr
import Derived.Stop.Joined
import Derived.Test.YthmljddgaabnhaaSo
import Derived.Test.YthmljddgaabnhaaM1
import Derived.Test.YthmljddgaabnhaaSo3
import Derived.Test.YthmljddgaabnhaaC5i
namespace Go.Proofs.Ythmljddgaabnhaa.fnExactMissingShare
open Go.ChangeShapes Go.WideShapes Go.ChangeAt Go.RowKit
set_option linter.unusedVariables false

open S0 in
set_option maxHeartbeats 4000000 in
set_option maxRecDepth 100000 in
theorem walk (v0 : Value) (a1 : Int) (u1 : (Lit.int .i64 a1).wf = true) (a2 : Int) (u2 : (Lit.int .i64 a2).wf = true) (W : World) {H : Type} {enc : TypeId × Value → H} {b0 : Nat} {d0 : DataW H} {p0 : List MemPlace} (hv0 : Value.okWide Try.prog W .any b0 44 v0) (ht0 : DataW.Trod enc Try.prog W 0 (fun _ => true) true 44 v0 d0 p0) :
    Calls Try.prog 10 #[v0, .int .i64 a1, .int .i64 a2] W fun e w' => e = .returned (.bool true) ∧ Below W.heap.size W w' := by
  obtain ⟨A0, n0, c0, xs0, rfl, hr0, hm0, hx0⟩ := So3.shares hv0 ht0
  clear hv0 ht0
  unfold maxLen at hm0
  have hu1 := M1.i64_wf u1
  clear u1
  have hu2 := M1.i64_wf u2
  clear u2
  by_cases big0 : 1048576 < n0
  · go_enter Try.func10, Try.ntmps10
    go_wp2_with fail
    (with_reducible refine (S3.szShareS_n _ A0 n0 c0 (by omega) (by omega)).mono ?_); rintro e w1 ⟨rfl, b1⟩
    go_wp2
    go_ret
    exact ⟨rfl, b1⟩
  have HB : Below W.heap.size W W := Below.refl _ _
  have HX0 := Lib.hid (fun x (h : x ∈ xs0) => So.okI_i64 (hx0 x h))
  have hxl0 : xs0.length = n0 * 2 := by have := hr0.1; rw [ints_len] at this; exact this
  have HN0 := Lib.hid hxl0
  clear hx0 hxl0
  have HK0 := Lib.hid (show C3.okInts xs0 from HX0.out)
  go_enter Try.func10, Try.ntmps10
  go_wp2_with fail
  (with_reducible refine (S3.szShareS_y _ A0 n0 c0 (by omega) (by omega)).mono ?_); rintro e w1 ⟨rfl, b1⟩
  replace HB := HB.trans (b1.mono HB.size)
  go_wp2_with fail
  (with_reducible refine (S3.toShareS _ A0 n0 c0 xs0 ((hr0.below HB).more HB.size) (by omega)).mono ?_); rintro e w2 ⟨A_s0, c_s0, rfl, o_s0, b2⟩
  replace HB := HB.trans (b2.mono HB.size)
  have l_o_s0 := So.lt_of o_s0
  go_wp2_with fail
  (with_reducible refine (C5i.specMis _ a1 a2 A_s0 _ _ xs0 hu1.1 hu1.2 (Rd.own o_s0) HK0.out (by omega)).mono ?_); rintro e w3 ⟨rfl, b3⟩
  replace o_s0 := own_below o_s0 b3
  replace HB := HB.trans (b3.mono HB.size)
  go_wp2_with fail
  obtain ⟨w4, hw4⟩ : ∃ x, x = w3.alloc (.cells #[.int .i64 (C5i.misI xs0 n0 a2), .int .i64 (C5i.misV xs0 n0 a1 a2)] 34) := ⟨_, rfl⟩
  have o_w0 : (w3.alloc (.cells #[.int .i64 (C5i.misI xs0 n0 a2), .int .i64 (C5i.misV xs0 n0 a1 a2)] 34)).ownsRow w3.heap.size 34 2 (.slice (some ⟨w3.heap.size, 0, none⟩) 1 1) 1 (ints .i64 [C5i.misI xs0 n0 a2, C5i.misV xs0 n0 a1 a2]) := w3.ownsRow_lit _ 1 (Nat.le_refl _) (by unfold maxLen; omega) rfl
  have b4 : Below w3.heap.size w3 w4 := hw4 ▸ (Below.refl _ _).alloc (Nat.le_refl _) _
  rw [← hw4] at o_w0 ⊢
  clear hw4
  replace o_s0 := own_below o_s0 b4
  replace HB := HB.trans (b4.mono HB.size)
  have l_o_w0 := So.lt_of o_w0
  clear o_s0 l_o_s0
  (with_reducible refine (S3.toShareS _ A0 n0 c0 xs0 ((hr0.below HB).more HB.size) (by omega)).mono ?_); rintro e w5 ⟨A_x0, c_x0, rfl, o_x0, b5⟩
  replace o_w0 := own_below o_w0 b5
  replace HB := HB.trans (b5.mono HB.size)
  have l_o_x0 := So.lt_of o_x0
  go_wp2_with fail
  (with_reducible refine (C5i.implMis _ a1 a2 A_x0 _ _ xs0 hu1.1 hu1.2 (Rd.own o_x0) HK0.out (by omega)).mono ?_); rintro e w6 ⟨rfl, b6⟩
  replace o_w0 := own_below o_w0 b6
  replace o_x0 := own_below o_x0 b6
  replace HB := HB.trans (b6.mono HB.size)
  have d_o_w0_0 : w6.cell? ⟨w3.heap.size, 0, none⟩ = some (.int .i64 (C5i.misI xs0 n0 a2)) := (S3.stored_at2 o_w0 0 (by omega)).2.2.1
  have d_o_w0_1 : w6.cell? ⟨w3.heap.size, 1, none⟩ = some (.int .i64 (C5i.misV xs0 n0 a1 a2)) := (S3.stored_at2 o_w0 1 (by omega)).2.2.1
  have e_o_w0 : w3.heap.size < w6.heap.size := (So.lt_of o_w0) _ rfl
  go_wp2_with fail
  clear d_o_w0_0 d_o_w0_1 e_o_w0
  obtain ⟨w7, hw7⟩ : ∃ x, x = w6.alloc (.cells #[.int .i64 (C5i.misI xs0 n0 a2), .int .i64 (C5i.misV xs0 n0 a1 a2)] 34) := ⟨_, rfl⟩
  have o_g0 : (w6.alloc (.cells #[.int .i64 (C5i.misI xs0 n0 a2), .int .i64 (C5i.misV xs0 n0 a1 a2)] 34)).ownsRow w6.heap.size 34 2 (.slice (some ⟨w6.heap.size, 0, none⟩) 1 1) 1 (ints .i64 [C5i.misI xs0 n0 a2, C5i.misV xs0 n0 a1 a2]) := w6.ownsRow_lit _ 1 (Nat.le_refl _) (by unfold maxLen; omega) rfl
  have b7 : Below w6.heap.size w6 w7 := hw7 ▸ (Below.refl _ _).alloc (Nat.le_refl _) _
  rw [← hw7] at o_g0 ⊢
  clear hw7
  replace o_w0 := own_below o_w0 b7
  replace o_x0 := own_below o_x0 b7
  replace HB := HB.trans (b7.mono HB.size)
  have l_o_g0 := So.lt_of o_g0
  (with_reducible refine (S3.eqOne _ (C5i.misI xs0 n0 a2) (C5i.misV xs0 n0 a1 a2)).mono ?_); rintro e w8 ⟨rfl, b8⟩
  replace o_w0 := own_below o_w0 b8
  replace o_x0 := own_below o_x0 b8
  replace o_g0 := own_below o_g0 b8
  replace HB := HB.trans (b8.mono HB.size)
  clear o_g0 l_o_g0
  clear o_w0 l_o_w0
  go_wp2_with fail
  (with_reducible refine (S3.toShareS _ A0 n0 c0 xs0 ((hr0.below HB).more HB.size) (by omega)).mono ?_); rintro e w9 ⟨A_t0, c_t0, rfl, o_t0, b9⟩
  replace o_x0 := own_below o_x0 b9
  replace HB := HB.trans (b9.mono HB.size)
  have l_o_t0 := So.lt_of o_t0
  go_wp2_with fail
  (with_reducible refine (S3.eqShareS_t _ A_x0 A_t0 _ _ _ _ (Rd.own o_x0) (Rd.own o_t0) (by omega)).mono ?_); rintro e w10 ⟨rfl, b10⟩
  replace o_x0 := own_below o_x0 b10
  replace o_t0 := own_below o_t0 b10
  replace HB := HB.trans (b10.mono HB.size)
  clear o_t0 l_o_t0
  go_wp2
  go_ret
  exact ⟨rfl, HB⟩

theorem contract (H : Type) (enc : TypeId × Value → H) (W : World) (base : Nat) (args : Array Value) (ds gs : List (DataW H)) (before : List MemPlace)
    (hval : ∀ (j : Nat) t v, Try.f10.params[j]? = some t → args[j]? = some v → Value.okWide Try.prog W .any base t v)
    (hW : DataW.Whole enc Try.prog Try.f10.params.toList Rows.fnExactMissingShareSpec.vars false W args.toList ds gs before) :
    Calls Try.prog 10 args W fun e W' => ∃ v, e = .returned v ∧ Rows.fnExactMissingShareSpec.post enc Try.prog Try.f10 false true false false W args v W' := by
  have hW' := hW
  obtain ⟨p, q, hA0, hV, rfl, hfz, hnd⟩ := hW
  have hA : DataW.TrodAll enc Try.prog W 0 (fun _ => true) true Try.f10.params.toList args.toList ds p := hA0
  rw [Try.params10] at hA hval
  obtain ⟨v0, vs0, d0, ds0, p0, q0, hargs, rfl, rfl, h0, r0⟩ := trodAll_cons hA
  obtain ⟨v1, vs1, d1, ds1, p1, q1, rfl, rfl, rfl, h1, r1⟩ := trodAll_cons r0
  obtain ⟨v2, vs2, d2, ds2, p2, q2, rfl, rfl, rfl, h2, r2⟩ := trodAll_cons r1
  obtain ⟨rfl, rfl, rfl⟩ := trodAll_nil r2
  obtain rfl : args = #[v0, v1, v2] := by cases args; simp_all
  obtain ⟨rfl, rfl⟩ := trodVars_none hV
  obtain ⟨a1, rfl, rfl, rfl, w1⟩ := open_int Try.underlying3 (hval 1 3 v1 rfl rfl) h1
  obtain ⟨a2, rfl, rfl, rfl, w2⟩ := open_int Try.underlying3 (hval 2 3 v2 rfl rfl) h2
  clear hA0
  refine Fr.closeLaw rfl (by kernel_rfl) (by rw [Try.params10]; decide) hW' rfl ?_
  exact walk v0 a1 w1 a2 w2 W (hval 0 44 v0 rfl rfl) h0

theorem reads (os : Os) {H : Type} (enc : TypeId × Value → H) : ∃ places, DataW.whole enc Try.prog ((World.holding Try.prog os ⟨#[], #[], []⟩).forCall (fun _ _ => 0) ⟨#[], #[.slice none 0 0, .int .i64 0, .int .i64 0], []⟩).memory Try.f10.params.toList Rows.fnExactMissingShareSpec.vars false (#[.slice none 0 0, .int .i64 0, .int .i64 0] : Array Value).toList 8 = some ([.nil, .lit (.int .i64 0), .lit (.int .i64 0)], [], places) :=
  ⟨[], by kernel_rfl⟩
set_option maxRecDepth 100000 in
theorem lifted (os : Os) (started : os.Started) (H : Type) (enc : TypeId × Value → H) (F : Stop.Interp) :
    ReturnsInHanded {} Try.checked os 10 .any ((OpenSpec.ofChange Rows.fnExactMissingShareSpec).preRow enc Try.prog Try.f10 Rows.fnExactMissingShareRow.domain false Rows.fnExactMissingShareRow.laid) (((OpenSpec.ofChange Rows.fnExactMissingShareSpec).at F).post enc Try.prog Try.f10 false true false false) := by
  obtain ⟨places, hx⟩ := reads os enc
  refine returnsInHanded_of_row (C := Try.checked) (s := OpenSpec.ofChange Rows.fnExactMissingShareSpec) Fr.own started (by kernel_rfl) Try.func10
    (witness_row_atRef (enc := enc) (C := Try.checked) false (World.holding Try.prog os ⟨#[], #[], []⟩) #[.slice none 0 0, .int .i64 0, .int .i64 0] rfl (by kernel_rfl) (by kernel_rfl) (by kernel_rfl)
      (OpenSpec.preRow_of_cond 8 hx (by kernel_rfl) (fun k hk => by cases hk) (by kernel_rfl) (laidMetH_nil _ _))) ?_
  intro W base args ds gs before hval hW _ hcond _ hL _ _
  exact contract H enc W base args ds gs before hval hW
theorem said : Rows.FnExactMissingShareSaid :=
  OpenClaim.holds_of_cond 10 Try.f10 rfl rfl rfl rfl rfl rfl rfl ⟨rfl, rfl, rfl, rfl, rfl⟩ rfl rfl rfl rfl rfl (by kernel_rfl) Try.func10 (by kernel_rfl)
    (of_decide_eq_true (by kernel_rfl)) (by unfold Func.isWrapper; first | (rw [if_pos (by decide +kernel)]; kernel_rfl) | (rw [if_neg (by decide +kernel)]; exact ⟨rfl, rfl⟩))
    (fun os started H enc _ F => by rw [OpenClaim.pre_eq_preRow]; exact lifted os started H enc F)
theorem proved : Rows.FnExactMissingShareSaid := said
#print axioms proved
end Go.Proofs.Ythmljddgaabnhaa.fnExactMissingShare
