/-
  laws.FnExactAppendUvarint returns true at every argument, and leaves what came in as it was: the program's AppendUvarint answers as the model's, in memory of its own (slices of more than 1048576 elements are passed over by the law itself). Conditions: none.
-/
import Derived.Test.YtpeagjpcdoegoabFr
import Derived.Stop.Joined
import Derived.Test.YtpeagjpcdoegoabSo
import Derived.Test.YtpeagjpcdoegoabM1
import Derived.Test.YtpeagjpcdoegoabC2
namespace Go.Proofs.Ytpeagjpcdoegoab.fnExactAppendUvarint
open Go.ChangeShapes Go.WideShapes Go.ChangeAt Go.RowKit
set_option linter.unusedVariables false

open S0 in
set_option maxHeartbeats 4000000 in
set_option maxRecDepth 100000 in
theorem walk (v0 : Value) (a1 : Int) (u1 : (Lit.int .i64 a1).wf = true) (W : World) {H : Type} {enc : TypeId × Value → H} {b0 : Nat} {d0 : DataW H} {p0 : List MemPlace} (hv0 : Value.okWide Try.prog W .any b0 22 v0) (ht0 : DataW.Trod enc Try.prog W 0 (fun _ => true) true 22 v0 d0 p0) :
    Calls Try.prog 5 #[v0, .int .i64 a1] W fun e w' => e = .returned (.bool true) ∧ Below W.heap.size W w' := by
  obtain ⟨A0, n0, c0, xs0, rfl, hr0, hm0, hx0⟩ := So.bytes hv0 ht0
  clear hv0 ht0
  unfold maxLen at hm0
  have hu1 := M1.i64_wf u1
  clear u1
  by_cases big0 : 1048576 < n0
  · go_enter Try.func5, Try.ntmps5
    go_wp2
    go_ret
    exact ⟨rfl, Below.refl _ _⟩
  have HB : Below W.heap.size W W := Below.refl _ _
  have HX0 := Lib.hid (fun x (h : x ∈ xs0) => So.okI_u8 (hx0 x h))
  have hxl0 : xs0.length = n0 := by have := hr0.len1; rw [ints_len] at this; exact this
  have HN0 := Lib.hid hxl0
  clear hx0 hxl0
  have he := M2.enc_len a1
  go_enter Try.func5, Try.ntmps5
  go_wp2_with fail
  (with_reducible refine (S1.toByteS _ A0 n0 c0 xs0 ((hr0.below HB).more HB.size) (by omega)).mono ?_); rintro e w1 ⟨A_s0, c_s0, rfl, o_s0, b1⟩
  replace HB := HB.trans (b1.mono HB.size)
  have l_o_s0 := So.lt_of o_s0
  go_wp2_with fail
  (with_reducible refine (C2.specAppend _ A_s0 _ _ xs0 a1 (Rd.own o_s0) (by omega)).mono ?_); rintro e w2 ⟨A_w0, c_w0, rfl, o_w0, b2⟩
  replace o_s0 := own_below o_s0 b2
  replace HB := HB.trans (b2.mono HB.size)
  have l_o_w0 := So.lt_of o_w0
  clear o_s0 l_o_s0
  go_wp2_with fail
  (with_reducible refine (S1.toByteS _ A0 n0 c0 xs0 ((hr0.below HB).more HB.size) (by omega)).mono ?_); rintro e w3 ⟨A_x0, c_x0, rfl, o_x0, b3⟩
  replace o_w0 := own_below o_w0 b3
  replace HB := HB.trans (b3.mono HB.size)
  have l_o_x0 := So.lt_of o_x0
  go_wp2_with fail
  (with_reducible refine (C2.implAppend _ A_x0 _ _ xs0 a1 (Rd.own o_x0) (by omega)).mono ?_); rintro e w4 ⟨A_g0, c_g0, rfl, o_g0, b4⟩
  replace o_w0 := own_below o_w0 b4
  replace o_x0 := own_below o_x0 b4
  replace HB := HB.trans (b4.mono HB.size)
  have l_o_g0 := So.lt_of o_g0
  go_wp2_with fail
  (with_reducible refine (S1.eqByteS_t _ A_g0 A_w0 _ _ _ _ (Rd.own o_g0) (Rd.own o_w0) (by omega)).mono ?_); rintro e w5 ⟨rfl, b5⟩
  replace o_w0 := own_below o_w0 b5
  replace o_x0 := own_below o_x0 b5
  replace o_g0 := own_below o_g0 b5
  replace HB := HB.trans (b5.mono HB.size)
  go_wp2_with fail
  (with_reducible refine (S1.toByteS _ A0 n0 c0 xs0 ((hr0.below HB).more HB.size) (by omega)).mono ?_); rintro e w6 ⟨A_t0, c_t0, rfl, o_t0, b6⟩
  replace o_w0 := own_below o_w0 b6
  replace o_x0 := own_below o_x0 b6
  replace o_g0 := own_below o_g0 b6
  replace HB := HB.trans (b6.mono HB.size)
  have l_o_t0 := So.lt_of o_t0
  go_wp2_with fail
  (with_reducible refine (S1.eqByteS_t _ A_x0 A_t0 _ _ _ _ (Rd.own o_x0) (Rd.own o_t0) (by omega)).mono ?_); rintro e w7 ⟨rfl, b7⟩
  replace o_w0 := own_below o_w0 b7
  replace o_x0 := own_below o_x0 b7
  replace o_g0 := own_below o_g0 b7
  replace o_t0 := own_below o_t0 b7
  replace HB := HB.trans (b7.mono HB.size)
  clear o_t0 l_o_t0
  have z1 := b1.size
  have z2 := b2.size
  have z3 := b3.size
  have z4 := b4.size
  have z5 := b5.size
  have z6 := b6.size
  have z7 := b7.size
  go_wp2_with fail
  (with_reducible refine (S1.markByteS _ _ A_x0 _ _ _ _ o_x0 (by omega) (by omega) (by omega)).mono ?_); rintro e w8 ⟨rfl, oz, g8⟩
  replace o_w0 := So.kept_lo o_w0 (l_o_w0.mono (by omega)) o_x0 g8
  replace o_g0 := So.kept_hi o_g0 (l_o_x0.mono (by omega)) g8
  replace HB := So.below_mark HB o_x0 (by omega) (Nat.le_refl _) g8
  replace o_x0 := oz
  clear oz
  go_wp2_with fail
  (with_reducible refine (S1.eqByteS_t _ A_g0 A_w0 _ _ _ _ (Rd.own o_g0) (Rd.own o_w0) (by omega)).mono ?_); rintro e w9 ⟨rfl, b9⟩
  replace o_w0 := own_below o_w0 b9
  replace o_x0 := own_below o_x0 b9
  replace o_g0 := own_below o_g0 b9
  replace HB := HB.trans (b9.mono HB.size)
  clear o_x0 l_o_x0
  go_wp2_with fail
  (with_reducible refine (S1.markByteS _ _ A_g0 _ _ _ _ o_g0 (by omega) (by omega) (by omega)).mono ?_); rintro e w10 ⟨rfl, oz, g10⟩
  replace o_w0 := So.kept_lo o_w0 (l_o_w0.mono (by omega)) o_g0 g10
  replace HB := So.below_mark HB o_g0 (by omega) (Nat.le_refl _) g10
  replace o_g0 := oz
  clear oz
  go_wp2_with fail
  (with_reducible refine (S1.heldByteS _ A_g0 _ _ _ (Rd.own o_g0) (by omega) (by omega) (by omega)).mono ?_); rintro e w11 ⟨rfl, b11⟩
  replace o_w0 := own_below o_w0 b11
  replace o_g0 := own_below o_g0 b11
  replace HB := HB.trans (b11.mono HB.size)
  go_wp2_with fail
  (with_reducible refine (S1.toByteS _ A0 n0 c0 xs0 ((hr0.below HB).more HB.size) (by omega)).mono ?_); rintro e w12 ⟨A_y0, c_y0, rfl, o_y0, b12⟩
  replace o_w0 := own_below o_w0 b12
  replace o_g0 := own_below o_g0 b12
  replace HB := HB.trans (b12.mono HB.size)
  have l_o_y0 := So.lt_of o_y0
  go_wp2_with fail
  (with_reducible refine (C2.implAppend _ A_y0 _ _ xs0 a1 (Rd.own o_y0) (by omega)).mono ?_); rintro e w13 ⟨A_h0, c_h0, rfl, o_h0, b13⟩
  replace o_w0 := own_below o_w0 b13
  replace o_g0 := own_below o_g0 b13
  replace o_y0 := own_below o_y0 b13
  replace HB := HB.trans (b13.mono HB.size)
  have l_o_h0 := So.lt_of o_h0
  go_wp2_with fail
  (with_reducible refine (S1.eqByteS_t _ A_h0 A_w0 _ _ _ _ (Rd.own o_h0) (Rd.own o_w0) (by omega)).mono ?_); rintro e w14 ⟨rfl, b14⟩
  replace o_w0 := own_below o_w0 b14
  replace o_g0 := own_below o_g0 b14
  replace o_y0 := own_below o_y0 b14
  replace o_h0 := own_below o_h0 b14
  replace HB := HB.trans (b14.mono HB.size)
  go_wp2_with fail
  (with_reducible refine (S1.heldByteS _ A_g0 _ _ _ (Rd.own o_g0) (by omega) (by omega) (by omega)).mono ?_); rintro e w15 ⟨rfl, b15⟩
  replace o_w0 := own_below o_w0 b15
  replace o_g0 := own_below o_g0 b15
  replace o_y0 := own_below o_y0 b15
  replace o_h0 := own_below o_h0 b15
  replace HB := HB.trans (b15.mono HB.size)
  go_wp2
  go_ret
  exact ⟨rfl, HB⟩

set_option maxRecDepth 100000 in
theorem contract (H : Type) (enc : TypeId × Value → H) (W : World) (base : Nat) (args : Array Value) (ds gs : List (DataW H)) (before : List MemPlace)
    (hval : ∀ (j : Nat) t v, Try.f5.params[j]? = some t → args[j]? = some v → Value.okWide Try.prog W .any base t v)
    (hW : DataW.Whole enc Try.prog Try.f5.params.toList Rows.fnExactAppendUvarintSpec.vars false W args.toList ds gs before) :
    Calls Try.prog 5 args W fun e W' => ∃ v, e = .returned v ∧ Rows.fnExactAppendUvarintSpec.post enc Try.prog Try.f5 false true false false W args v W' := by
  have hW' := hW
  obtain ⟨p, q, hA0, hV, rfl, hfz, hnd⟩ := hW
  have hA : DataW.TrodAll enc Try.prog W 0 (fun _ => true) true Try.f5.params.toList args.toList ds p := hA0
  rw [Try.params5] at hA hval
  obtain ⟨v0, vs0, d0, ds0, p0, q0, hargs, rfl, rfl, h0, r0⟩ := trodAll_cons hA
  obtain ⟨v1, vs1, d1, ds1, p1, q1, rfl, rfl, rfl, h1, r1⟩ := trodAll_cons r0
  obtain ⟨rfl, rfl, rfl⟩ := trodAll_nil r1
  obtain rfl : args = #[v0, v1] := by cases args; simp_all
  obtain ⟨rfl, rfl⟩ := trodVars_none hV
  obtain ⟨a1, rfl, rfl, rfl, w1⟩ := open_int Try.underlying3 (hval 1 3 v1 rfl rfl) h1
  clear hA0
  refine Fr.closeLaw rfl (by kernel_rfl) (by rw [Try.params5]; decide) hW' rfl ?_
  exact walk v0 a1 w1 W (hval 0 22 v0 rfl rfl) h0

set_option maxRecDepth 100000 in
theorem reads (os : Os) {H : Type} (enc : TypeId × Value → H) : ∃ places, DataW.whole enc Try.prog ((World.holding Try.prog os ⟨#[], #[], []⟩).forCall (fun _ _ => 0) ⟨#[], #[.slice none 0 0, .int .i64 0], []⟩).memory Try.f5.params.toList Rows.fnExactAppendUvarintSpec.vars false (#[.slice none 0 0, .int .i64 0] : Array Value).toList 8 = some ([.nil, .lit (.int .i64 0)], [], places) :=
  ⟨[], by kernel_rfl⟩
set_option maxRecDepth 100000 in
theorem lifted (os : Os) (started : os.Started) (H : Type) (enc : TypeId × Value → H) (F : Stop.Interp) :
    ReturnsInHanded {} Try.checked os 5 .any ((OpenSpec.ofChange Rows.fnExactAppendUvarintSpec).preRow enc Try.prog Try.f5 Rows.fnExactAppendUvarintRow.domain false Rows.fnExactAppendUvarintRow.laid) (((OpenSpec.ofChange Rows.fnExactAppendUvarintSpec).at F).post enc Try.prog Try.f5 false true false false) := by
  obtain ⟨places, hx⟩ := reads os enc
  refine returnsInHanded_of_row (C := Try.checked) (s := OpenSpec.ofChange Rows.fnExactAppendUvarintSpec) Fr.own started (by kernel_rfl) Try.func5
    (witness_row_atRef (enc := enc) (C := Try.checked) false (World.holding Try.prog os ⟨#[], #[], []⟩) #[.slice none 0 0, .int .i64 0] rfl (by kernel_rfl) (by kernel_rfl) (by kernel_rfl)
      (OpenSpec.preRow_of_cond 8 hx (by kernel_rfl) (fun k hk => by cases hk) (by kernel_rfl) (laidMetH_nil _ _))) ?_
  intro W base args ds gs before hval hW _ hcond _ hL _ _
  exact contract H enc W base args ds gs before hval hW
set_option maxRecDepth 100000 in
theorem said : Rows.FnExactAppendUvarintSaid :=
  OpenClaim.holds_of_cond 5 Try.f5 rfl rfl rfl rfl rfl rfl rfl ⟨rfl, rfl, rfl, rfl, rfl⟩ rfl rfl rfl rfl rfl (by kernel_rfl) Try.func5 (by kernel_rfl)
    (of_decide_eq_true (by kernel_rfl)) (by unfold Func.isWrapper; first | (rw [if_pos (by decide +kernel)]; kernel_rfl) | (rw [if_neg (by decide +kernel)]; exact ⟨rfl, rfl⟩))
    (fun os started H enc _ F => by rw [OpenClaim.pre_eq_preRow]; exact lifted os started H enc F)
theorem proved : Rows.FnExactAppendUvarintSaid := said
#print axioms proved
end Go.Proofs.Ytpeagjpcdoegoab.fnExactAppendUvarint
