/-
  laws.FnCipher returns true at every code, and leaves it as it was: decryption inverts encryption, encryption inverts decryption, and the length stays. Conditions: none.
-/
import Derived.Test.YtgalkoeljhifdaaFr
import Derived.Stop.Joined
import Derived.Test.YtgalkoeljhifdaaD3
import Derived.Test.YtgalkoeljhifdaaCd
import Derived.Test.YtgalkoeljhifdaaS2
import Derived.Test.YtgalkoeljhifdaaC3c
namespace Go.Proofs.Ytgalkoeljhifdaa.fnCipher
open Go.ChangeShapes Go.WideShapes Go.ChangeAt Go.RowKit
set_option linter.unusedVariables false

open S0
set_option maxHeartbeats 4000000 in
set_option maxRecDepth 100000 in
theorem walkSmall (A0 : Option Addr) (n0 c0 : Nat) (hl : ¬ 1048576 < n0) (W : World) (hc : C0.Code W W.heap.size (.slice A0 n0 c0)) :
    Calls Try.prog 3 #[.slice A0 n0 c0] W fun e w' => e = .returned (.bool true) ∧ Below W.heap.size W w' := by
  go_enter Try.func3, Try.ntmps3
  go_wp2_with fail
  (with_reducible refine (Cd.big_no A0 n0 c0 _ hl).mono ?_); rintro e w0 ⟨rfl, rfl⟩
  go_wp2_with fail
  (with_reducible refine (D3.encrypt _ _ hc).mono ?_); rintro e w1 ⟨k, A, n, c, ys, rfl, ⟨hk0, hk1⟩, hys, hn, o1, HB⟩
  have HY := Lib.hid (show ∀ y ∈ ys, 0 ≤ y ∧ y ≤ 255 from hys)
  have HE := Lib.hid (show ∀ y ∈ M3.encL k ys, 0 ≤ y ∧ y ≤ 255 from M3.ciph_ok _ _)
  have HD := Lib.hid (show ∀ y ∈ M3.decL k ys, 0 ≤ y ∧ y ≤ 255 from M3.ciph_ok _ _)
  clear hys hc
  go_wp2_with fail
  (with_reducible refine (C3c.implEncrypt _ k _ _ _ ys (by omega) (by omega) (Rd.own o1) HY.out (by omega)).mono ?_); rintro e w2 ⟨A2, c2, rfl, o2, b2⟩
  replace o1 := own_below o1 b2
  replace HB := HB.trans (b2.mono HB.size)
  go_wp2_with fail
  (with_reducible refine (C3c.implDecrypt _ k _ _ _ (M3.encL k ys) (by omega) (by omega) (Rd.own o2) HE.out (by omega)).mono ?_); rintro e w3 ⟨A3, c3, rfl, o3, b3⟩
  rw [M3.dec_enc k ys HY.out] at o3
  replace o1 := own_below o1 b3
  replace HB := HB.trans (b3.mono HB.size)
  go_wp2_with fail
  (with_reducible refine (S2.sameBytes_t _ _ _ _ _ _ _ (Rd.own o3) (Rd.own o1) (by omega)).mono ?_); rintro e w4 ⟨rfl, b4⟩
  replace o1 := own_below o1 b4
  replace HB := HB.trans (b4.mono HB.size)
  clear o2 o3 b2 b3 b4
  go_wp2_with fail
  (with_reducible refine (C3c.implDecrypt _ k _ _ _ ys (by omega) (by omega) (Rd.own o1) HY.out (by omega)).mono ?_); rintro e w5 ⟨A5, c5, rfl, o5, b5⟩
  replace o1 := own_below o1 b5
  replace HB := HB.trans (b5.mono HB.size)
  go_wp2_with fail
  (with_reducible refine (C3c.implEncrypt _ k _ _ _ (M3.decL k ys) (by omega) (by omega) (Rd.own o5) HD.out (by omega)).mono ?_); rintro e w6 ⟨A6, c6, rfl, o6, b6⟩
  rw [M3.enc_dec k ys HY.out] at o6
  replace o1 := own_below o1 b6
  replace HB := HB.trans (b6.mono HB.size)
  go_wp2_with fail
  (with_reducible refine (S2.sameBytes_t _ _ _ _ _ _ _ (Rd.own o6) (Rd.own o1) (by omega)).mono ?_); rintro e w7 ⟨rfl, b7⟩
  replace o1 := own_below o1 b7
  replace HB := HB.trans (b7.mono HB.size)
  clear o5 o6 b5 b6 b7
  go_wp2_with fail
  (with_reducible refine (C3c.implEncrypt _ k _ _ _ ys (by omega) (by omega) (Rd.own o1) HY.out (by omega)).mono ?_); rintro e w8 ⟨A8, c8, rfl, o8, b8⟩
  replace HB := HB.trans (b8.mono HB.size)
  clear o1 o8 b8
  go_wp2
  go_ret
  exact ⟨by simp, HB⟩
theorem walk (v0 : Value) (W : World) {H : Type} {enc : TypeId × Value → H} {b0 : Nat} {d0 : DataW H} {p0 : List MemPlace} (hv0 : Value.okWide Try.prog W .any b0 22 v0) (ht0 : DataW.Trod enc Try.prog W 0 (fun _ => true) true 22 v0 d0 p0) :
    Calls Try.prog 3 #[v0] W fun e w' => e = .returned (.bool true) ∧ Below W.heap.size W w' := by
  obtain ⟨A0, n0, c0, xs0, rfl, hr0, hm0, hx0⟩ := So.bytes hv0 ht0
  unfold maxLen at hm0
  by_cases hl : 1048576 < n0
  · clear hv0 ht0 hr0
    go_enter Try.func3, Try.ntmps3
    go_wp2_with fail
    (with_reducible refine (Cd.big_yes A0 n0 c0 _ (by omega) hl).mono ?_); rintro e w0 ⟨rfl, rfl⟩
    go_wp2
    go_ret
    exact ⟨rfl, Below.refl _ _⟩
  · exact walkSmall A0 n0 c0 hl W (D2.code_of hr0 hx0 (by omega))

theorem contract (H : Type) (enc : TypeId × Value → H) (W : World) (base : Nat) (args : Array Value) (ds gs : List (DataW H)) (before : List MemPlace)
    (hval : ∀ (j : Nat) t v, Try.f3.params[j]? = some t → args[j]? = some v → Value.okWide Try.prog W .any base t v)
    (hW : DataW.Whole enc Try.prog Try.f3.params.toList Rows.fnCipherSpec.vars false W args.toList ds gs before) :
    Calls Try.prog 3 args W fun e W' => ∃ v, e = .returned v ∧ Rows.fnCipherSpec.post enc Try.prog Try.f3 false true false false W args v W' := by
  have hW' := hW
  obtain ⟨p, q, hA0, hV, rfl, hfz, hnd⟩ := hW
  have hA : DataW.TrodAll enc Try.prog W 0 (fun _ => true) true Try.f3.params.toList args.toList ds p := hA0
  rw [Try.params3] at hA hval
  obtain ⟨v0, vs0, d0, ds0, p0, q0, hargs, rfl, rfl, h0, r0⟩ := trodAll_cons hA
  obtain ⟨rfl, rfl, rfl⟩ := trodAll_nil r0
  obtain rfl : args = #[v0] := by cases args; simp_all
  obtain ⟨rfl, rfl⟩ := trodVars_none hV
  clear hA0
  refine Fr.closeLaw rfl (by kernel_rfl) (by rw [Try.params3]; decide) hW' rfl ?_
  exact walk v0 W (hval 0 22 v0 rfl rfl) h0

theorem reads (os : Os) {H : Type} (enc : TypeId × Value → H) : ∃ places, DataW.whole enc Try.prog ((World.holding Try.prog os ⟨#[], #[], []⟩).forCall (fun _ _ => 0) ⟨#[], #[.slice none 0 0], []⟩).memory Try.f3.params.toList Rows.fnCipherSpec.vars false (#[.slice none 0 0] : Array Value).toList 8 = some ([.nil], [], places) :=
  ⟨[], by kernel_rfl⟩
set_option maxRecDepth 100000 in
theorem lifted (os : Os) (started : os.Started) (H : Type) (enc : TypeId × Value → H) (F : Stop.Interp) :
    ReturnsInHanded {} Try.checked os 3 .any ((OpenSpec.ofChange Rows.fnCipherSpec).preRow enc Try.prog Try.f3 Rows.fnCipherRow.domain false Rows.fnCipherRow.laid) (((OpenSpec.ofChange Rows.fnCipherSpec).at F).post enc Try.prog Try.f3 false true false false) := by
  obtain ⟨places, hx⟩ := reads os enc
  refine returnsInHanded_of_row (C := Try.checked) (s := OpenSpec.ofChange Rows.fnCipherSpec) Fr.own started (by kernel_rfl) Try.func3
    (witness_row_atRef (enc := enc) (C := Try.checked) false (World.holding Try.prog os ⟨#[], #[], []⟩) #[.slice none 0 0] rfl (by kernel_rfl) (by kernel_rfl) (by kernel_rfl)
      (OpenSpec.preRow_of_cond 8 hx (by kernel_rfl) (fun k hk => by cases hk) (by kernel_rfl) (laidMetH_nil _ _))) ?_
  intro W base args ds gs before hval hW _ hcond _ hL _ _
  exact contract H enc W base args ds gs before hval hW
theorem said : Rows.FnCipherSaid :=
  OpenClaim.holds_of_cond 3 Try.f3 rfl rfl rfl rfl rfl rfl rfl ⟨rfl, rfl, rfl, rfl, rfl⟩ rfl rfl rfl rfl rfl (by kernel_rfl) Try.func3 (by kernel_rfl)
    (of_decide_eq_true (by kernel_rfl)) (by unfold Func.isWrapper; first | (rw [if_pos (by decide +kernel)]; kernel_rfl) | (rw [if_neg (by decide +kernel)]; exact ⟨rfl, rfl⟩))
    (fun os started H enc _ F => by rw [OpenClaim.pre_eq_preRow]; exact lifted os started H enc F)
theorem proved : Rows.FnCipherSaid := said
#print axioms proved
end Go.Proofs.Ytgalkoeljhifdaa.fnCipher
