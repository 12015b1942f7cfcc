/-
  laws.FnExactVerifySignature returns true at every argument, and leaves what came in as it was: the program's VerifySignature answers as the model's (slices of more than 1048576 elements are passed over by the law itself). Conditions: none.
-/
import Derived.Test.YtbbcmadihfpnlaaFr
import Derived.Stop.Joined
import Derived.Test.YtbbcmadihfpnlaaSo
import Derived.Test.YtbbcmadihfpnlaaM1
import Derived.Test.YtbbcmadihfpnlaaC6i
namespace Go.Proofs.Ytbbcmadihfpnlaa.fnExactVerifySignature
open Go.ChangeShapes Go.WideShapes Go.ChangeAt Go.RowKit
set_option linter.unusedVariables false

open S0 in
set_option maxHeartbeats 4000000 in
set_option maxRecDepth 100000 in
theorem walk (a0 : Int) (u0 : (Lit.int .i64 a0).wf = true) (v1 : Value) (a2 : Int) (u2 : (Lit.int .i64 a2).wf = true) (W : World) {H : Type} {enc : TypeId × Value → H} {b1 : Nat} {d1 : DataW H} {p1 : List MemPlace} (hv1 : Value.okWide Try.prog W .any b1 24 v1) (ht1 : DataW.Trod enc Try.prog W 0 (fun _ => true) true 24 v1 d1 p1) :
    Calls Try.prog 7 #[.int .i64 a0, v1, .int .i64 a2] W fun e w' => e = .returned (.bool true) ∧ Below W.heap.size W w' := by
  have hu0 := M1.i64_wf u0
  clear u0
  obtain ⟨A1, n1, c1, xs1, rfl, hr1, hm1, hx1⟩ := So.numbers hv1 ht1
  clear hv1 ht1
  unfold maxLen at hm1
  have hu2 := M1.i64_wf u2
  clear u2
  by_cases big1 : 1048576 < n1
  · go_enter Try.func7, Try.ntmps7
    go_wp2
    go_ret
    exact ⟨rfl, Below.refl _ _⟩
  have HB : Below W.heap.size W W := Below.refl _ _
  have HX1 := Lib.hid (fun x (h : x ∈ xs1) => So.okI_i64 (hx1 x h))
  have hxl1 : xs1.length = n1 := by have := hr1.len1; rw [ints_len] at this; exact this
  have HN1 := Lib.hid hxl1
  clear hx1 hxl1
  have HK1 := Lib.hid (show C3.okInts xs1 from HX1.out)
  go_enter Try.func7, Try.ntmps7
  go_wp2_with fail
  (with_reducible refine (S1.toIntS _ A1 n1 c1 xs1 ((hr1.below HB).more HB.size) (by omega)).mono ?_); rintro e w1 ⟨A_s1, c_s1, rfl, o_s1, b1⟩
  replace HB := HB.trans (b1.mono HB.size)
  have l_o_s1 := So.lt_of o_s1
  go_wp2_with fail
  (with_reducible refine (C6.specVsg _ A_s1 _ _ xs1 a0 a2 (Rd.own o_s1) HK1.out (by omega)).mono ?_); rintro e w2 ⟨rfl, b2⟩
  replace o_s1 := own_below o_s1 b2
  replace HB := HB.trans (b2.mono HB.size)
  clear o_s1 l_o_s1
  go_wp2_with fail
  (with_reducible refine (S1.toIntS _ A1 n1 c1 xs1 ((hr1.below HB).more HB.size) (by omega)).mono ?_); rintro e w3 ⟨A_x1, c_x1, rfl, o_x1, b3⟩
  replace HB := HB.trans (b3.mono HB.size)
  have l_o_x1 := So.lt_of o_x1
  go_wp2_with fail
  (with_reducible refine (C6i.implVsg _ A_x1 _ _ xs1 a0 a2 hu0.1 hu0.2 (Rd.own o_x1) HK1.out (by omega)).mono ?_); rintro e w4 ⟨rfl, b4⟩
  replace o_x1 := own_below o_x1 b4
  replace HB := HB.trans (b4.mono HB.size)
  go_wp2_with fail
  (with_reducible refine (S1.toIntS _ A1 n1 c1 xs1 ((hr1.below HB).more HB.size) (by omega)).mono ?_); rintro e w5 ⟨A_t1, c_t1, rfl, o_t1, b5⟩
  replace o_x1 := own_below o_x1 b5
  replace HB := HB.trans (b5.mono HB.size)
  have l_o_t1 := So.lt_of o_t1
  go_wp2_with fail
  (with_reducible refine (S1.eqIntS_t _ A_x1 A_t1 _ _ _ _ (Rd.own o_x1) (Rd.own o_t1) (by omega)).mono ?_); rintro e w6 ⟨rfl, b6⟩
  replace o_x1 := own_below o_x1 b6
  replace o_t1 := own_below o_t1 b6
  replace HB := HB.trans (b6.mono HB.size)
  clear o_t1 l_o_t1
  go_wp2
  go_ret
  exact ⟨rfl, HB⟩

theorem contract (H : Type) (enc : TypeId × Value → H) (W : World) (base : Nat) (args : Array Value) (ds gs : List (DataW H)) (before : List MemPlace)
    (hval : ∀ (j : Nat) t v, Try.f7.params[j]? = some t → args[j]? = some v → Value.okWide Try.prog W .any base t v)
    (hW : DataW.Whole enc Try.prog Try.f7.params.toList Rows.fnExactVerifySignatureSpec.vars false W args.toList ds gs before) :
    Calls Try.prog 7 args W fun e W' => ∃ v, e = .returned v ∧ Rows.fnExactVerifySignatureSpec.post enc Try.prog Try.f7 false true false false W args v W' := by
  have hW' := hW
  obtain ⟨p, q, hA0, hV, rfl, hfz, hnd⟩ := hW
  have hA : DataW.TrodAll enc Try.prog W 0 (fun _ => true) true Try.f7.params.toList args.toList ds p := hA0
  rw [Try.params7] at hA hval
  obtain ⟨v0, vs0, d0, ds0, p0, q0, hargs, rfl, rfl, h0, r0⟩ := trodAll_cons hA
  obtain ⟨v1, vs1, d1, ds1, p1, q1, rfl, rfl, rfl, h1, r1⟩ := trodAll_cons r0
  obtain ⟨v2, vs2, d2, ds2, p2, q2, rfl, rfl, rfl, h2, r2⟩ := trodAll_cons r1
  obtain ⟨rfl, rfl, rfl⟩ := trodAll_nil r2
  obtain rfl : args = #[v0, v1, v2] := by cases args; simp_all
  obtain ⟨rfl, rfl⟩ := trodVars_none hV
  obtain ⟨a0, rfl, rfl, rfl, w0⟩ := open_int Try.underlying3 (hval 0 3 v0 rfl rfl) h0
  obtain ⟨a2, rfl, rfl, rfl, w2⟩ := open_int Try.underlying3 (hval 2 3 v2 rfl rfl) h2
  clear hA0
  refine Fr.closeLaw rfl (by kernel_rfl) (by rw [Try.params7]; decide) hW' rfl ?_
  exact walk a0 w0 v1 a2 w2 W (hval 1 24 v1 rfl rfl) h1

theorem reads (os : Os) {H : Type} (enc : TypeId × Value → H) : ∃ places, DataW.whole enc Try.prog ((World.holding Try.prog os ⟨#[], #[], []⟩).forCall (fun _ _ => 0) ⟨#[], #[.int .i64 0, .slice none 0 0, .int .i64 0], []⟩).memory Try.f7.params.toList Rows.fnExactVerifySignatureSpec.vars false (#[.int .i64 0, .slice none 0 0, .int .i64 0] : Array Value).toList 8 = some ([.lit (.int .i64 0), .nil, .lit (.int .i64 0)], [], places) :=
  ⟨[], by kernel_rfl⟩
set_option maxRecDepth 100000 in
theorem lifted (os : Os) (started : os.Started) (H : Type) (enc : TypeId × Value → H) (F : Stop.Interp) :
    ReturnsInHanded {} Try.checked os 7 .any ((OpenSpec.ofChange Rows.fnExactVerifySignatureSpec).preRow enc Try.prog Try.f7 Rows.fnExactVerifySignatureRow.domain false Rows.fnExactVerifySignatureRow.laid) (((OpenSpec.ofChange Rows.fnExactVerifySignatureSpec).at F).post enc Try.prog Try.f7 false true false false) := by
  obtain ⟨places, hx⟩ := reads os enc
  refine returnsInHanded_of_row (C := Try.checked) (s := OpenSpec.ofChange Rows.fnExactVerifySignatureSpec) Fr.own started (by kernel_rfl) Try.func7
    (witness_row_atRef (enc := enc) (C := Try.checked) false (World.holding Try.prog os ⟨#[], #[], []⟩) #[.int .i64 0, .slice none 0 0, .int .i64 0] rfl (by kernel_rfl) (by kernel_rfl) (by kernel_rfl)
      (OpenSpec.preRow_of_cond 8 hx (by kernel_rfl) (fun k hk => by cases hk) (by kernel_rfl) (laidMetH_nil _ _))) ?_
  intro W base args ds gs before hval hW _ hcond _ hL _ _
  exact contract H enc W base args ds gs before hval hW
theorem said : Rows.FnExactVerifySignatureSaid :=
  OpenClaim.holds_of_cond 7 Try.f7 rfl rfl rfl rfl rfl rfl rfl ⟨rfl, rfl, rfl, rfl, rfl⟩ rfl rfl rfl rfl rfl (by kernel_rfl) Try.func7 (by kernel_rfl)
    (of_decide_eq_true (by kernel_rfl)) (by unfold Func.isWrapper; first | (rw [if_pos (by decide +kernel)]; kernel_rfl) | (rw [if_neg (by decide +kernel)]; exact ⟨rfl, rfl⟩))
    (fun os started H enc _ F => by rw [OpenClaim.pre_eq_preRow]; exact lifted os started H enc F)
theorem proved : Rows.FnExactVerifySignatureSaid := said
#print axioms proved
end Go.Proofs.Ytbbcmadihfpnlaa.fnExactVerifySignature
