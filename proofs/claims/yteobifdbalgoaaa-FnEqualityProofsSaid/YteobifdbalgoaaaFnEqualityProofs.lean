/-
  laws.FnEqualityProofs returns true at every code, and leaves it as it was: a proof of equal exponents is accepted, the same with the response -1 is not, and on what is drawn from the code the program's VerifyEqual answers as the model's. Conditions: none.
-/
import Derived.Test.YteobifdbalgoaaaFr
import Derived.Stop.Joined
import Derived.Test.YteobifdbalgoaaaD4
import Derived.Test.YteobifdbalgoaaaCd
import Derived.Test.YteobifdbalgoaaaL0
namespace Go.Proofs.Yteobifdbalgoaaa.fnEqualityProofs
open Go.ChangeShapes Go.WideShapes Go.ChangeAt Go.RowKit
set_option linter.unusedVariables false

open S0 S1 M4 C4b C4d
theorem meets {g : Int} (hg : isEl g) (c s k : Int) : ml (pw g ((k % 1019 - c * (s % 1019)) % 1019)) (pw (pw g s) c) = pw g k := by
  rw [pw_pw hg, pw_add hg]
  refine pw_congr ?_
  have e1 : (s * c) % 1019 = (c * (s % 1019)) % 1019 := by
    rw [Int.mul_emod s c, Int.mul_emod c (s % 1019), Int.emod_emod, Int.mul_comm (s % 1019)]
  generalize s * c = a at e1 ⊢
  generalize c * (s % 1019) = b at e1 ⊢
  omega
theorem accepted {g h : Int} (hg : isEl g) (hh : isEl h) (s k : Int) : ver g h (pw g s) (pw h s) (prC g h s k) (prR g h s k) = true := by
  have e1 : prC g h s k = pc g h s k := by unfold prC; rw [if_pos ⟨hg, hh⟩]
  have e2 : prR g h s k = pr g h s k := by unfold prR; rw [if_pos ⟨hg, hh⟩]
  rw [e1, e2]
  have hc : 0 ≤ pc g h s k ∧ pc g h s k ≤ 1018 := chal_in _
  have hr : 0 ≤ pr g h s k ∧ pr g h s k ≤ 1018 := by unfold pr; omega
  have h3 : vch g h (pw g s) (pw h s) (pc g h s k) (pr g h s k) = pc g h s k := by
    unfold vch pr
    rw [meets hg, meets hh]
    rfl
  unfold ver vok
  rw [h3, el_t hg, el_t hh, el_t (pw_el s hg), el_t (pw_el s hh), inR_t hc.1 hc.2, inR_t hr.1 hr.2]
  simp
theorem refused (g h u v c : Int) : ver g h u v c (-1) = false := by
  have e : inR (-1) = false := by decide
  unfold ver vok
  rw [e]
  simp
set_option maxHeartbeats 4000000 in
set_option maxRecDepth 100000 in
theorem walkSmall (A0 : Option Addr) (n0 c0 : Nat) (xs0 : List Int) (hl : ¬ 1048576 < n0) (W : World) (hr : Rd W W.heap.size 1 A0 n0 (ints .u8 xs0)) (hx : ∀ x ∈ xs0, 0 ≤ x ∧ x ≤ 255) (hc : C0.Code W W.heap.size (.slice A0 n0 c0)) :
    Calls Try.prog 4 #[.slice A0 n0 c0] W fun e w' => e = .returned (.bool true) ∧ Below W.heap.size W w' := by
  have HR := Lib.hid hr
  have HX := Lib.hid hx
  have hn0 : n0 ≤ 1048576 := by omega
  have HC := Lib.hid (fun (w' : World) (h : Below W.heap.size W w') => (hc.below h).mono h.size)
  clear hr hx hc
  go_enter Try.func4, Try.ntmps4
  go_wp2_with fail
  (with_reducible refine (Cd.big_no A0 n0 c0 _ hl).mono ?_); rintro e w0 ⟨rfl, rfl⟩
  go_wp2_with fail
  (with_reducible refine (L0.at_some _ _ _ _ xs0 0 (by omega) (by omega) HR.out HX.out hn0).mono ?_); rintro e w0 ⟨q0, rfl, q00, q01, rfl⟩
  go_wp2_with fail
  (with_reducible refine (specPow 4 (1 + q0) _ (by omega) (by omega)).mono ?_); rintro e w0 ⟨rfl, rfl⟩
  obtain ⟨g, hg⟩ : ∃ g, g = pw 4 (1 + q0) := ⟨_, rfl⟩
  have EG := Lib.hid (show isEl g by rw [hg]; exact pw_el _ el_four)
  rw [← hg]
  clear hg
  go_wp2_with fail
  (with_reducible refine (L0.at_some _ _ _ _ xs0 1 (by omega) (by omega) HR.out HX.out hn0).mono ?_); rintro e w0 ⟨q1, rfl, q10, q11, rfl⟩
  go_wp2_with fail
  (with_reducible refine (specPow 4 (300 + q1) _ (by omega) (by omega)).mono ?_); rintro e w0 ⟨rfl, rfl⟩
  obtain ⟨h, hh⟩ : ∃ h, h = pw 4 (300 + q1) := ⟨_, rfl⟩
  have EH := Lib.hid (show isEl h by rw [hh]; exact pw_el _ el_four)
  rw [← hh]
  clear hh
  go_wp2_with fail
  (with_reducible refine (L0.at_some _ _ _ _ xs0 2 (by omega) (by omega) HR.out HX.out hn0).mono ?_); rintro e w0 ⟨q2, rfl, q20, q21, rfl⟩
  go_wp2_with fail
  (with_reducible refine (L0.at_some _ _ _ _ xs0 3 (by omega) (by omega) HR.out HX.out hn0).mono ?_); rintro e w0 ⟨q3, rfl, q30, q31, rfl⟩
  have HA := Lib.hid (accepted EG.out EH.out (q2 * 3) (q3 * 2))
  go_wp2_with fail
  (with_reducible refine (implProve g h (q2 * 3) (q3 * 2) _ (by omega) (by omega) (by omega) (by omega)).mono ?_); rintro e w1 ⟨rfl, HB⟩
  obtain ⟨c, hc⟩ : ∃ c, c = prC g h (q2 * 3) (q3 * 2) := ⟨_, rfl⟩
  obtain ⟨r, hr⟩ : ∃ r, r = prR g h (q2 * 3) (q3 * 2) := ⟨_, rfl⟩
  rw [← hc, ← hr] at HA ⊢
  clear hc hr
  go_wp2_with fail
  (with_reducible refine (specPow g (q2 * 3) _ (by omega) (by omega)).mono ?_); rintro e w0 ⟨rfl, rfl⟩
  go_wp2_with fail
  (with_reducible refine (specPow h (q2 * 3) _ (by omega) (by omega)).mono ?_); rintro e w0 ⟨rfl, rfl⟩
  go_wp2_with fail
  (with_reducible refine (D4.verifyEqual _ _ (HC.out _ HB)).mono ?_); rintro e w2 ⟨a, b, x, y, p, q, rfl, b2⟩
  replace HB := HB.trans (b2.mono HB.size)
  go_wp2_with fail
  (with_reducible refine (implVerify g h _ _ c r _).mono ?_); rintro e w3 ⟨rfl, b3⟩
  replace HB := HB.trans (b3.mono HB.size)
  rw [HA.out]
  go_wp2_with fail
  (with_reducible refine (implVerify a b x y p q _).mono ?_); rintro e w4 ⟨rfl, b4⟩
  replace HB := HB.trans (b4.mono HB.size)
  obtain ⟨z, hz⟩ : ∃ z, ver a b x y p q = z := ⟨_, rfl⟩
  have HZ := Lib.hid hz
  rw [hz]
  clear hz
  go_wp2_with fail
  (with_reducible refine (specVerify a b x y p q _).mono ?_); rintro e w5 ⟨rfl, b5⟩
  replace HB := HB.trans (b5.mono HB.size)
  rw [HZ.out]
  go_wp2_with fail
  (with_reducible refine (implVerify g h _ _ c (-1) _).mono ?_); rintro e w6 ⟨rfl, b6⟩
  replace HB := HB.trans (b6.mono HB.size)
  rw [refused]
  go_wp2
  go_ret
  exact ⟨rfl, HB⟩
theorem walk (v0 : Value) (W : World) {H : Type} {enc : TypeId × Value → H} {b0 : Nat} {d0 : DataW H} {p0 : List MemPlace} (hv0 : Value.okWide Try.prog W .any b0 22 v0) (ht0 : DataW.Trod enc Try.prog W 0 (fun _ => true) true 22 v0 d0 p0) :
    Calls Try.prog 4 #[v0] W fun e w' => e = .returned (.bool true) ∧ Below W.heap.size W w' := by
  obtain ⟨A0, n0, c0, xs0, rfl, hr0, hm0, hx0⟩ := So.bytes hv0 ht0
  unfold maxLen at hm0
  by_cases hl : 1048576 < n0
  · clear hv0 ht0 hr0
    go_enter Try.func4, Try.ntmps4
    go_wp2_with fail
    (with_reducible refine (Cd.big_yes A0 n0 c0 _ (by omega) hl).mono ?_); rintro e w0 ⟨rfl, rfl⟩
    go_wp2
    go_ret
    exact ⟨rfl, Below.refl _ _⟩
  · exact walkSmall A0 n0 c0 xs0 hl W hr0 (fun x h => So.okI_u8 (hx0 x h)) (D2.code_of hr0 hx0 (by omega))

theorem contract (H : Type) (enc : TypeId × Value → H) (W : World) (base : Nat) (args : Array Value) (ds gs : List (DataW H)) (before : List MemPlace)
    (hval : ∀ (j : Nat) t v, Try.f4.params[j]? = some t → args[j]? = some v → Value.okWide Try.prog W .any base t v)
    (hW : DataW.Whole enc Try.prog Try.f4.params.toList Rows.fnEqualityProofsSpec.vars false W args.toList ds gs before) :
    Calls Try.prog 4 args W fun e W' => ∃ v, e = .returned v ∧ Rows.fnEqualityProofsSpec.post enc Try.prog Try.f4 false true false false W args v W' := by
  have hW' := hW
  obtain ⟨p, q, hA0, hV, rfl, hfz, hnd⟩ := hW
  have hA : DataW.TrodAll enc Try.prog W 0 (fun _ => true) true Try.f4.params.toList args.toList ds p := hA0
  rw [Try.params4] at hA hval
  obtain ⟨v0, vs0, d0, ds0, p0, q0, hargs, rfl, rfl, h0, r0⟩ := trodAll_cons hA
  obtain ⟨rfl, rfl, rfl⟩ := trodAll_nil r0
  obtain rfl : args = #[v0] := by cases args; simp_all
  obtain ⟨rfl, rfl⟩ := trodVars_none hV
  clear hA0
  refine Fr.closeLaw rfl (by kernel_rfl) (by rw [Try.params4]; decide) hW' rfl ?_
  exact walk v0 W (hval 0 22 v0 rfl rfl) h0

theorem reads (os : Os) {H : Type} (enc : TypeId × Value → H) : ∃ places, DataW.whole enc Try.prog ((World.holding Try.prog os ⟨#[], #[], []⟩).forCall (fun _ _ => 0) ⟨#[], #[.slice none 0 0], []⟩).memory Try.f4.params.toList Rows.fnEqualityProofsSpec.vars false (#[.slice none 0 0] : Array Value).toList 8 = some ([.nil], [], places) :=
  ⟨[], by kernel_rfl⟩
set_option maxRecDepth 100000 in
theorem lifted (os : Os) (started : os.Started) (H : Type) (enc : TypeId × Value → H) (F : Stop.Interp) :
    ReturnsInHanded {} Try.checked os 4 .any ((OpenSpec.ofChange Rows.fnEqualityProofsSpec).preRow enc Try.prog Try.f4 Rows.fnEqualityProofsRow.domain false Rows.fnEqualityProofsRow.laid) (((OpenSpec.ofChange Rows.fnEqualityProofsSpec).at F).post enc Try.prog Try.f4 false true false false) := by
  obtain ⟨places, hx⟩ := reads os enc
  refine returnsInHanded_of_row (C := Try.checked) (s := OpenSpec.ofChange Rows.fnEqualityProofsSpec) Fr.own started (by kernel_rfl) Try.func4
    (witness_row_atRef (enc := enc) (C := Try.checked) false (World.holding Try.prog os ⟨#[], #[], []⟩) #[.slice none 0 0] rfl (by kernel_rfl) (by kernel_rfl) (by kernel_rfl)
      (OpenSpec.preRow_of_cond 8 hx (by kernel_rfl) (fun k hk => by cases hk) (by kernel_rfl) (laidMetH_nil _ _))) ?_
  intro W base args ds gs before hval hW _ hcond _ hL _ _
  exact contract H enc W base args ds gs before hval hW
theorem said : Rows.FnEqualityProofsSaid :=
  OpenClaim.holds_of_cond 4 Try.f4 rfl rfl rfl rfl rfl rfl rfl ⟨rfl, rfl, rfl, rfl, rfl⟩ rfl rfl rfl rfl rfl (by kernel_rfl) Try.func4 (by kernel_rfl)
    (of_decide_eq_true (by kernel_rfl)) (by unfold Func.isWrapper; first | (rw [if_pos (by decide +kernel)]; kernel_rfl) | (rw [if_neg (by decide +kernel)]; exact ⟨rfl, rfl⟩))
    (fun os started H enc _ F => by rw [OpenClaim.pre_eq_preRow]; exact lifted os started H enc F)
theorem proved : Rows.FnEqualityProofsSaid := said
#print axioms proved
end Go.Proofs.Yteobifdbalgoaaa.fnEqualityProofs
