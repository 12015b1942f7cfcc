/-
  laws.FnGroup returns true at every code, and leaves it as it was: what is drawn from the code is an element or none; of none the power is 0 and there is no logarithm; of an element powers are elements, exponents add up and have inverses, and logarithms are found; a hash to the group is an element other than 1. Conditions: none.
-/
import Derived.Test.YteobifdbalgoaaaFr
import Derived.Stop.Joined
import Derived.Test.YteobifdbalgoaaaD4
import Derived.Test.YteobifdbalgoaaaCd
import Derived.Test.YteobifdbalgoaaaC4c
import Derived.Test.YteobifdbalgoaaaL0
namespace Go.Proofs.Yteobifdbalgoaaa.fnGroup
open Go.ChangeShapes Go.WideShapes Go.ChangeAt Go.RowKit
set_option linter.unusedVariables false

open S0 S1 M4 C4b C4c C4d
theorem adds {g : Int} (h : isEl g) (n m r : Int) (hr : n % 1019 = r) : ml (pw g n) (pw g m) = pw g (r + m) := by
  rw [pw_add h]; exact pw_congr (by omega)
set_option maxHeartbeats 4000000 in
set_option maxRecDepth 100000 in
theorem walkSmall (A0 : Option Addr) (n0 c0 : Nat) (xs0 : List Int) (hl : ¬ 1048576 < n0) (W : World) (hr : Rd W W.heap.size 1 A0 n0 (ints .u8 xs0)) (hx : ∀ x ∈ xs0, 0 ≤ x ∧ x ≤ 255) (hc : C0.Code W W.heap.size (.slice A0 n0 c0)) :
    Calls Try.prog 3 #[.slice A0 n0 c0] W fun e w' => e = .returned (.bool true) ∧ Below W.heap.size W w' := by
  have HR := Lib.hid hr
  have HX := Lib.hid hx
  have hn0 : n0 ≤ 1048576 := by omega
  clear hr hx
  go_enter Try.func3, Try.ntmps3
  go_wp2_with fail
  (with_reducible refine (Cd.big_no A0 n0 c0 _ hl).mono ?_); rintro e w0 ⟨rfl, rfl⟩
  go_wp2_with fail
  (with_reducible refine (D4.powGroup _ _ hc).mono ?_); rintro e w1 ⟨g, n, rfl, ⟨hg0, hg1⟩, ⟨hn1, hn2⟩, HB⟩
  clear hc
  by_cases hg : isEl g
  · have eg := el_t hg
    obtain ⟨r, hr⟩ : ∃ r, n % 1019 = r := ⟨_, rfl⟩
    have hr0 : 0 ≤ r := by omega
    have hr1 : r < 1019 := by omega
    obtain ⟨i0, i1⟩ := inv_in r
    have HI := Lib.hid (show inv (n % 1019) = inv r by rw [hr])
    have HN := Lib.hid (inv_nz r hr0 hr1)
    have HPI := Lib.hid (fun (h : r ≠ 0) => show pw (pw g n) (inv r) = g by rw [← hr]; exact pw_inv hg n (by omega))
    have HLG := Lib.hid (fun (h : g ≠ 1) => show lg g (pw g n) = r by rw [← hr]; exact pw_log hg h n)
    have HAD := Lib.hid (fun m => adds hg n m r hr)
    have ex := el_t (pw_el n hg)
    have hxi := pw_in g n
    have HRM := Lib.hid hr
    obtain ⟨i, hi⟩ : ∃ i, i = inv r := ⟨_, rfl⟩
    obtain ⟨x, hx⟩ : ∃ x, x = pw g n := ⟨_, rfl⟩
    rw [← hi] at i0 i1 HI HN HPI
    rw [← hx] at HPI HLG HAD ex hxi
    have HXE := Lib.hid hx
    clear hi hx hr hg
    have hib : (i == 0) = (r == 0) := by
      rw [Bool.eq_iff_iff, beq_iff_eq, beq_iff_eq]; exact HN.out
    have HIB := Lib.hid hib
    clear hib
    go_wp2_with fail
    (with_reducible refine (specEl g _).mono ?_); rintro e w2 ⟨rfl, rfl⟩
    have HR1 := (HR.out.below HB).more HB.size
    go_wp2_with fail
    (with_reducible refine (L0.at_some _ _ _ _ xs0 0 (by omega) (by omega) HR1 HX.out hn0).mono ?_); rintro e w2 ⟨q, rfl, hq0, hq1, rfl⟩
    clear HR1
    go_wp2_with fail
    (with_reducible refine (implPow g n _ (by omega) (by omega)).mono ?_); rintro e w2 ⟨rfl, b2⟩
    replace HB := HB.trans (b2.mono HB.size)
    rw [← HXE.out]
    go_wp2_with fail
    (with_reducible refine (implInv n _ (by omega) (by omega)).mono ?_); rintro e w3 ⟨rfl, b3⟩
    replace HB := HB.trans (b3.mono HB.size)
    rw [HI.out]
    go_wp2_with fail
    (with_reducible refine (implEl x _).mono ?_); rintro e w4 ⟨rfl, b4⟩
    replace HB := HB.trans (b4.mono HB.size)
    go_wp2_with fail
    (with_reducible refine (implPow g (q * 5) _ (by omega) (by omega)).mono ?_); rintro e w5 ⟨rfl, b5⟩
    replace HB := HB.trans (b5.mono HB.size)
    go_wp2_with fail
    (with_reducible refine (implMul _ _ _).mono ?_); rintro e w6 ⟨rfl, b6⟩
    replace HB := HB.trans (b6.mono HB.size)
    rw [HAD.out]
    go_wp2_with fail
    (with_reducible refine (C1.specMod_in n 1019 _ (by omega) (by omega) (by omega) (by omega)).mono ?_); rintro e w7 ⟨rfl, rfl⟩
    rw [HRM.out]
    go_wp2_with fail
    (with_reducible refine (implPow g (r + q * 5) _ (by omega) (by omega)).mono ?_); rintro e w7 ⟨rfl, b7⟩
    replace HB := HB.trans (b7.mono HB.size)
    clear b2 b3 b4 b5 b6 b7
    go_wp2_with fail
    (with_reducible refine (C1.specMod_in n 1019 _ (by omega) (by omega) (by omega) (by omega)).mono ?_); rintro e w8 ⟨rfl, rfl⟩
    rw [HRM.out]
    by_cases hrz : r = 0
    · have hrb : (r == 0) = true := by simpa using hrz
      obtain rfl : i = 0 := HN.out.2 hrz
      clear hrz
      have HR2 := (HR.out.below HB).more HB.size
      go_wp2_with fail
      (with_reducible refine (L0.at_some _ _ _ _ xs0 1 (by omega) (by omega) HR2 HX.out hn0).mono ?_); rintro e w8 ⟨p, rfl, hp0, hp1, rfl⟩
      clear HR2
      have ehg := el_t (hg_el p (q * 5))
      have HNE := Lib.hid (show (hg p (q * 5) != 1) = true by simpa using hg_ne p (q * 5))
      go_wp2_with fail
      (with_reducible refine (implHash p (q * 5) _ (by omega) (by omega) (by omega) (by omega)).mono ?_); rintro e w9 ⟨rfl, b9⟩
      replace HB := HB.trans (b9.mono HB.size)
      by_cases hg1 : g = 1
      · have hgb : (g == 1) = true := by simpa using hg1
        clear hg1
        go_wp2_with fail
        (with_reducible refine (implEl _ _).mono ?_); rintro e wa ⟨rfl, ba⟩
        replace HB := HB.trans (ba.mono HB.size)
        go_wp2
        go_ret
        exact ⟨by show Ending.returned (Value.bool (hg p (q * 5) != 1)) = _; rw [HNE.out], HB⟩
      · have hgb : (g == 1) = false := by simpa using hg1
        have HLL := Lib.hid (HLG.out hg1)
        clear hg1
        go_wp2_with fail
        (with_reducible refine (implLog g x _).mono ?_); rintro e wa ⟨rfl, ba⟩
        replace HB := HB.trans (ba.mono HB.size)
        rw [HLL.out]
        go_wp2_with fail
        (with_reducible refine (C1.specMod_in n 1019 _ (by omega) (by omega) (by omega) (by omega)).mono ?_); rintro e wb ⟨rfl, rfl⟩
        rw [HRM.out]
        go_wp2_with fail
        (with_reducible refine (implEl _ _).mono ?_); rintro e wb ⟨rfl, bb⟩
        replace HB := HB.trans (bb.mono HB.size)
        go_wp2
        go_ret
        exact ⟨by show Ending.returned (Value.bool (hg p (q * 5) != 1)) = _; rw [HNE.out], HB⟩
    · have hrb : (r == 0) = false := by simpa using hrz
      have hib : (i == 0) = false := by rw [HIB.out]; exact hrb
      have HPP := Lib.hid (HPI.out hrz)
      have hni : ¬ i = 0 := fun e => hrz (HN.out.1 e)
      clear hrz
      go_wp2_with fail
      (with_reducible refine (implPow x i _ (by omega) (by omega)).mono ?_); rintro e wc ⟨rfl, bc⟩
      replace HB := HB.trans (bc.mono HB.size)
      rw [HPP.out]
      have HR2 := (HR.out.below HB).more HB.size
      go_wp2_with fail
      (with_reducible refine (L0.at_some _ _ _ _ xs0 1 (by omega) (by omega) HR2 HX.out hn0).mono ?_); rintro e w8 ⟨p, rfl, hp0, hp1, rfl⟩
      clear HR2
      have ehg := el_t (hg_el p (q * 5))
      have HNE := Lib.hid (show (hg p (q * 5) != 1) = true by simpa using hg_ne p (q * 5))
      go_wp2_with fail
      (with_reducible refine (implHash p (q * 5) _ (by omega) (by omega) (by omega) (by omega)).mono ?_); rintro e w9 ⟨rfl, b9⟩
      replace HB := HB.trans (b9.mono HB.size)
      by_cases hg1 : g = 1
      · have hgb : (g == 1) = true := by simpa using hg1
        clear hg1
        go_wp2_with fail
        (with_reducible refine (implEl _ _).mono ?_); rintro e wa ⟨rfl, ba⟩
        replace HB := HB.trans (ba.mono HB.size)
        go_wp2
        go_ret
        exact ⟨by show Ending.returned (Value.bool (hg p (q * 5) != 1)) = _; rw [HNE.out], HB⟩
      · have hgb : (g == 1) = false := by simpa using hg1
        have HLL := Lib.hid (HLG.out hg1)
        clear hg1
        go_wp2_with fail
        (with_reducible refine (implLog g x _).mono ?_); rintro e wa ⟨rfl, ba⟩
        replace HB := HB.trans (ba.mono HB.size)
        rw [HLL.out]
        go_wp2_with fail
        (with_reducible refine (C1.specMod_in n 1019 _ (by omega) (by omega) (by omega) (by omega)).mono ?_); rintro e wb ⟨rfl, rfl⟩
        rw [HRM.out]
        go_wp2_with fail
        (with_reducible refine (implEl _ _).mono ?_); rintro e wb ⟨rfl, bb⟩
        replace HB := HB.trans (bb.mono HB.size)
        go_wp2
        go_ret
        exact ⟨by show Ending.returned (Value.bool (hg p (q * 5) != 1)) = _; rw [HNE.out], HB⟩
  · have eg := el_f hg
    have HP := Lib.hid (pw_f n hg)
    have HL := Lib.hid (lg_f (g := g) (x := 4) (fun h => hg h.1))
    clear hg
    go_wp2_with fail
    (with_reducible refine (specEl g _).mono ?_); rintro e w2 ⟨rfl, rfl⟩
    go_wp2_with fail
    (with_reducible refine (implPow g n _ (by omega) (by omega)).mono ?_); rintro e w2 ⟨rfl, b2⟩
    replace HB := HB.trans (b2.mono HB.size)
    rw [HP.out]
    go_wp2_with fail
    (with_reducible refine (implLog g 4 _).mono ?_); rintro e w3 ⟨rfl, b3⟩
    replace HB := HB.trans (b3.mono HB.size)
    rw [HL.out]
    go_wp2
    go_ret
    exact ⟨rfl, HB⟩
theorem walk (v0 : Value) (W : World) {H : Type} {enc : TypeId × Value → H} {b0 : Nat} {d0 : DataW H} {p0 : List MemPlace} (hv0 : Value.okWide Try.prog W .any b0 22 v0) (ht0 : DataW.Trod enc Try.prog W 0 (fun _ => true) true 22 v0 d0 p0) :
    Calls Try.prog 3 #[v0] W fun e w' => e = .returned (.bool true) ∧ Below W.heap.size W w' := by
  obtain ⟨A0, n0, c0, xs0, rfl, hr0, hm0, hx0⟩ := So.bytes hv0 ht0
  unfold maxLen at hm0
  by_cases hl : 1048576 < n0
  · clear hv0 ht0 hr0
    go_enter Try.func3, Try.ntmps3
    go_wp2_with fail
    (with_reducible refine (Cd.big_yes A0 n0 c0 _ (by omega) hl).mono ?_); rintro e w0 ⟨rfl, rfl⟩
    go_wp2
    go_ret
    exact ⟨rfl, Below.refl _ _⟩
  · exact walkSmall A0 n0 c0 xs0 hl W hr0 (fun x h => So.okI_u8 (hx0 x h)) (D2.code_of hr0 hx0 (by omega))

theorem contract (H : Type) (enc : TypeId × Value → H) (W : World) (base : Nat) (args : Array Value) (ds gs : List (DataW H)) (before : List MemPlace)
    (hval : ∀ (j : Nat) t v, Try.f3.params[j]? = some t → args[j]? = some v → Value.okWide Try.prog W .any base t v)
    (hW : DataW.Whole enc Try.prog Try.f3.params.toList Rows.fnGroupSpec.vars false W args.toList ds gs before) :
    Calls Try.prog 3 args W fun e W' => ∃ v, e = .returned v ∧ Rows.fnGroupSpec.post enc Try.prog Try.f3 false true false false W args v W' := by
  have hW' := hW
  obtain ⟨p, q, hA0, hV, rfl, hfz, hnd⟩ := hW
  have hA : DataW.TrodAll enc Try.prog W 0 (fun _ => true) true Try.f3.params.toList args.toList ds p := hA0
  rw [Try.params3] at hA hval
  obtain ⟨v0, vs0, d0, ds0, p0, q0, hargs, rfl, rfl, h0, r0⟩ := trodAll_cons hA
  obtain ⟨rfl, rfl, rfl⟩ := trodAll_nil r0
  obtain rfl : args = #[v0] := by cases args; simp_all
  obtain ⟨rfl, rfl⟩ := trodVars_none hV
  clear hA0
  refine Fr.closeLaw rfl (by kernel_rfl) (by rw [Try.params3]; decide) hW' rfl ?_
  exact walk v0 W (hval 0 22 v0 rfl rfl) h0

theorem reads (os : Os) {H : Type} (enc : TypeId × Value → H) : ∃ places, DataW.whole enc Try.prog ((World.holding Try.prog os ⟨#[], #[], []⟩).forCall (fun _ _ => 0) ⟨#[], #[.slice none 0 0], []⟩).memory Try.f3.params.toList Rows.fnGroupSpec.vars false (#[.slice none 0 0] : Array Value).toList 8 = some ([.nil], [], places) :=
  ⟨[], by kernel_rfl⟩
set_option maxRecDepth 100000 in
theorem lifted (os : Os) (started : os.Started) (H : Type) (enc : TypeId × Value → H) (F : Stop.Interp) :
    ReturnsInHanded {} Try.checked os 3 .any ((OpenSpec.ofChange Rows.fnGroupSpec).preRow enc Try.prog Try.f3 Rows.fnGroupRow.domain false Rows.fnGroupRow.laid) (((OpenSpec.ofChange Rows.fnGroupSpec).at F).post enc Try.prog Try.f3 false true false false) := by
  obtain ⟨places, hx⟩ := reads os enc
  refine returnsInHanded_of_row (C := Try.checked) (s := OpenSpec.ofChange Rows.fnGroupSpec) Fr.own started (by kernel_rfl) Try.func3
    (witness_row_atRef (enc := enc) (C := Try.checked) false (World.holding Try.prog os ⟨#[], #[], []⟩) #[.slice none 0 0] rfl (by kernel_rfl) (by kernel_rfl) (by kernel_rfl)
      (OpenSpec.preRow_of_cond 8 hx (by kernel_rfl) (fun k hk => by cases hk) (by kernel_rfl) (laidMetH_nil _ _))) ?_
  intro W base args ds gs before hval hW _ hcond _ hL _ _
  exact contract H enc W base args ds gs before hval hW
theorem said : Rows.FnGroupSaid :=
  OpenClaim.holds_of_cond 3 Try.f3 rfl rfl rfl rfl rfl rfl rfl ⟨rfl, rfl, rfl, rfl, rfl⟩ rfl rfl rfl rfl rfl (by kernel_rfl) Try.func3 (by kernel_rfl)
    (of_decide_eq_true (by kernel_rfl)) (by unfold Func.isWrapper; first | (rw [if_pos (by decide +kernel)]; kernel_rfl) | (rw [if_neg (by decide +kernel)]; exact ⟨rfl, rfl⟩))
    (fun os started H enc _ F => by rw [OpenClaim.pre_eq_preRow]; exact lifted os started H enc F)
theorem proved : Rows.FnGroupSaid := said
#print axioms proved
end Go.Proofs.Yteobifdbalgoaaa.fnGroup
