/-
  laws.FnByteStrings returns true at every code, and leaves it as it was: byte strings and lists of integers are decoded from their encodings. Conditions: none.
-/
import Derived.Test.YtpeagjpcdoegoabFr
import Derived.Stop.Joined
import Derived.Test.YtpeagjpcdoegoabD2
import Derived.Test.YtpeagjpcdoegoabCd
import Derived.Test.YtpeagjpcdoegoabS2
import Derived.Test.YtpeagjpcdoegoabC2b
import Derived.Test.YtpeagjpcdoegoabC2c
import Derived.Test.YtpeagjpcdoegoabL0
namespace Go.Proofs.Ytpeagjpcdoegoab.fnByteStrings
open Go.ChangeShapes Go.WideShapes Go.ChangeAt Go.RowKit
set_option linter.unusedVariables false

open S0
theorem bytes_yes {w : World} {d : Option (List Int × Int)} {ys : List Int} {x : Int} {A : Array Value} {K : FuncId} {k : IntKind} {E n : Nat} (h : Calls Try.prog K A w (C2c.res3 k E d w)) (hd : d = some (ys, x)) (hn : ys.length = n) : Calls Try.prog K A w (C2c.Made3 E n (ints k ys) x true w) := by
  subst hn; rw [hd] at h; exact h
theorem bytes_no {w : World} {d : Option (List Int × Int)} {A : Array Value} {K : FuncId} {k : IntKind} {E : Nat} (h : Calls Try.prog K A w (C2c.res3 k E d w)) (hd : d = none) : Calls Try.prog K A w (C2c.Made3 E 0 [] 0 false w) := by
  rw [hd] at h; exact h
/-- The list of numbers, k of them. -/
def Nums (w : World) (k : Nat) (v : Value) (wr : World) : Prop := ∃ ys : List Int, ys.length = k ∧ (∀ y ∈ ys, M2.inNum y) ∧ wr.ownsRow w.heap.size 3 1 v k (ints .i64 ys) ∧ Below w.heap.size w wr
theorem Nums.next {w wr w2 : World} {k : Nat} {v v2 : Value} {ys : List Int} {y : Int} (h1 : ys.length = k) (h2 : ∀ y ∈ ys, M2.inNum y) (ho : wr.ownsRow w.heap.size 3 1 v k (ints .i64 ys)) (hb : Below w.heap.size w wr) (hy0 : 0 ≤ y) (hy1 : y ≤ 16581375)
    (ho2 : w2.ownsRow w.heap.size 3 1 v2 (k + 1) (ints .i64 ys ++ [.int .i64 y])) (hg : (wr.alloc (.cells #[.int .i64 y] 3)).grownBy w2 v.ownBlock) : Nums w (k + 1) v2 w2 := by
  refine ⟨ys ++ [y], by simp [h1], fun z hz => ?_, ?_, ?_⟩
  · rcases List.mem_append.1 hz with hz | hz
    · exact h2 z hz
    · obtain rfl : z = y := by simpa using hz
      exact ⟨hy0, by omega⟩
  · have : ints .i64 (ys ++ [y]) = ints .i64 ys ++ [.int .i64 y] := by simp [ints]
    rw [this]; exact ho2
  · exact (hb.alloc hb.size _).grown hg (by have := hb.size; simp; omega) (fun k hk => (ho.lt k hk).1)
set_option maxHeartbeats 4000000 in
set_option maxRecDepth 100000 in
theorem walkSmall (A0 : Option Addr) (n0 c0 : Nat) (xs0 : List Int) (hl : ¬ 1048576 < n0) (W : World) (hr : Rd W W.heap.size 1 A0 n0 (ints .u8 xs0)) (hx : ∀ x ∈ xs0, 0 ≤ x ∧ x ≤ 255) (hc : C0.Code W W.heap.size (.slice A0 n0 c0)) :
    Calls Try.prog 4 #[.slice A0 n0 c0] W fun e w' => e = .returned (.bool true) ∧ Below W.heap.size W w' := by
  have HR := Lib.hid hr
  have HX := Lib.hid hx
  clear hr hx
  have hn0 : n0 ≤ 1048576 := by omega
  go_enter Try.func4, Try.ntmps4
  go_wp2_with fail
  (with_reducible refine (Cd.big_no A0 n0 c0 _ hl).mono ?_); rintro e w0 ⟨rfl, rfl⟩
  go_wp2_with fail
  (with_reducible refine (D2.appendBytes _ _ hc).mono ?_); rintro e w1 ⟨A, n, c, ys, B, m, d, zs, rfl, hys, hn, hzs, hm, o1, p1, HB⟩
  have hyl : ys.length = n := by have := o1.1; rw [ints_len] at this; omega
  have hzl : zs.length = m := by have := p1.1; rw [ints_len] at this; omega
  have HOK := Lib.hid (show ∀ y ∈ ys ++ M2.enc m ++ zs, 0 ≤ y ∧ y ≤ 255 from (D2.bytesOK.app (D2.bytesOK.app hys (M2.enc_ok m)) hzs))
  have HD := Lib.hid (M2.decBytes_enc ys zs n m m hyl hzl (by omega) (Int.le_refl _))
  have HS := Lib.hid (M2.decBytes_short ys zs n m ((m : Int) - 1) hyl (by omega) (by omega))
  have HZL := Lib.hid hzl
  have hel := M2.enc_len m
  clear hyl hzl hys hzs
  go_wp2_with fail
  (with_reducible refine (C2b.implBytes _ _ _ _ _ _ _ ys zs (Rd.own o1) (Rd.own p1) (by omega) (by omega)).mono ?_); rintro e w2 ⟨A2, c2, rfl, o2, b2⟩
  replace p1 := own_below p1 b2
  replace HB := HB.trans (b2.mono HB.size)
  go_wp2_with fail
  (with_reducible refine (bytes_yes (C2c.implReadBytes _ _ _ _ _ _ _ (Rd.own o2) HOK.out (own_sh o2) (by omega) (by omega) (by omega)) HD.out HZL.out).mono ?_); rintro e w3 ⟨A3, c3, rfl, o3, b3⟩
  replace p1 := own_below p1 b3
  replace o2 := own_below o2 b3
  replace HB := HB.trans (b3.mono HB.size)
  go_wp2_with fail
  (with_reducible refine (bytes_no (C2c.implReadBytes _ _ _ _ _ _ _ (Rd.own o2) HOK.out (own_sh o2) (by omega) (by omega) (by omega)) HS.out).mono ?_); rintro e w4 ⟨A4, c4, rfl, o4, b4⟩
  replace p1 := own_below p1 b4
  replace o3 := own_below o3 b4
  replace HB := HB.trans (b4.mono HB.size)
  go_wp2_with fail
  (with_reducible refine (S2.sameBytes_t _ _ _ _ _ _ _ (Rd.own o3) (Rd.own p1) (by omega)).mono ?_); rintro e w5 ⟨rfl, b5⟩
  replace HB := HB.trans (b5.mono HB.size)
  clear o1 p1 o2 o3 o4 b2 b3 b4 b5 HD HS HZL HOK
  obtain ⟨t, ht, ht5⟩ : ∃ t : Nat, (t : Int) = L0.atv xs0 0 % 6 ∧ t ≤ 5 := ⟨(L0.atv xs0 0 % 6).toNat, by omega, by omega⟩
  have hat := L0.atv_bd xs0 0 HX.out
  obtain ⟨q, hq⟩ : ∃ q, q = L0.atv xs0 0 := ⟨_, rfl⟩
  rw [← hq] at ht hat
  have HQ := Lib.hid hq
  obtain ⟨hq0, hq1⟩ := hat
  have HT := Lib.hid ht
  clear hq ht
  have HN0 : Nums w5 0 (.slice (some ⟨w5.heap.size, 0, none⟩) 0 0) (w5.alloc (.cells #[] 3)) := ⟨[], rfl, (fun _ h => by cases h), own_lit w5 #[] 0 _ _ (Nat.le_refl _) rfl (Nat.zero_le _), (Below.refl _ _).alloc (Nat.le_refl _) _⟩
  have HRB := Lib.hid (fun (w' : World) (h : Below w5.heap.size w5 w') => (HR.out.on (HB.trans (h.mono HB.size))))
  go_wp2
  go_loopw [12, 13] (fun v i wr => ∃ k : Nat, k ≤ t ∧ i = .int .i64 k ∧ Nums w5 k v wr) (fun _ i _ => t - (intOf i).toNat)
  case atStart => exact ⟨0, by omega, rfl, HN0⟩
  case round =>
    obtain ⟨k, hk, rfl, ys, hyl, hyn, ho, hb⟩ := hrel
    have HYL := Lib.hid hyl
    have HYN := Lib.hid hyn
    have HRC := Lib.hid (HRB.out _ hb)
    clear hyl hyn
    have hA0 := L0.at_is wr A0 n0 c0 xs0 0 0 rfl HRC.out HX.out hn0 (by omega)
    rw [← HQ.out] at hA0
    have HA0 := Lib.hid hA0
    clear hA0
    have hqt : q % 6 = t := by rw [HT.out]
    go_wp2_with fail
    (with_reducible refine HA0.out.mono ?_); rintro e w' ⟨rfl, rfl⟩
    by_cases hlt : k < t
    · go_wp2_with fail
      (with_reducible refine (L0.at_some _ _ _ _ xs0 _ (by omega) (by omega) HRC.out HX.out hn0).mono ?_); rintro e w' ⟨x, rfl, hx0, hx1, rfl⟩
      go_wp2_with fail
      (with_reducible refine (L0.at_some _ _ _ _ xs0 _ (by omega) (by omega) HRC.out HX.out hn0).mono ?_); rintro e w' ⟨y, rfl, hy0, hy1, rfl⟩
      have hm0 : 0 ≤ x * y := Int.mul_nonneg hx0 hy0
      have hm1 : x * y ≤ 255 * 255 := Int.mul_le_mul hx1 hy1 hy0 (by omega)
      go_wp2_with fail
      (with_reducible refine (L0.at_some _ _ _ _ xs0 _ (by omega) (by omega) HRC.out HX.out hn0).mono ?_); rintro e w' ⟨z, rfl, hz0, hz1, rfl⟩
      have hm2 : 0 ≤ x * y * z := Int.mul_nonneg hm0 hz0
      have hm3 : x * y * z ≤ 65025 * 255 := Int.mul_le_mul (by omega) hz1 hz0 (by omega)
      go_wp2_with (at_builtin; refine S1.appI _ rfl _ _ rfl w5.heap.size _ _ _ rfl (ho.alloc _) _ _ 1 1 [.int .i64 (x * y * z)] rfl (rd_one _ _ _) (one_int .i64 _) (by omega) (by have := hb.size; simp; omega) ?_; intro v2 w2 ho2 hg2)
      go_roundw
      case rel => exact ⟨k + 1, by omega, by go_num, Nums.next HYL.out HYN.out ho hb hm2 (by omega) ho2 hg2⟩
      case measure => simp [intOf]; omega
    · obtain rfl : k = t := by omega
      obtain ⟨A6, c6, rfl⟩ := own_nil_form ho
      have hel2 := C2b.encs_len ys
      have hel3 : (M2.encs ys).length ≤ 600 := by have := HYL.out; omega
      have HD := Lib.hid (M2.decInts_encs ys k _ HYN.out HYL.out (by omega) rfl)
      have HS := Lib.hid (M2.decInts_more ys k _ HYN.out HYL.out (by omega) rfl)
      have HOK := Lib.hid (M2.encs_ok ys)
      clear hel2
      replace HB := HB.trans (hb.mono HB.size)
      go_wp2_with fail
      (with_reducible refine (C2b.implEncode _ _ _ _ ys (Rd.own ho) (by omega)).mono ?_); rintro e w6 ⟨A7, c7, rfl, o7, b6⟩
      replace ho := own_below ho b6
      replace HB := HB.trans (b6.mono HB.size)
      go_wp2_with fail
      (with_reducible refine (bytes_yes (C2c.implDecode _ _ _ _ _ _ _ (Rd.own o7) HOK.out (own_sh o7) (by omega)) HD.out HYL.out).mono ?_); rintro e w7 ⟨A8, c8, rfl, o8, b7⟩
      replace ho := own_below ho b7
      replace o7 := own_below o7 b7
      replace HB := HB.trans (b7.mono HB.size)
      go_wp2_with fail
      (with_reducible refine (bytes_no (C2c.implDecode _ _ _ _ _ _ _ (Rd.own o7) HOK.out (own_sh o7) (by omega)) HS.out).mono ?_); rintro e w8 ⟨A9, c9, rfl, o9, b8⟩
      replace ho := own_below ho b8
      replace o8 := own_below o8 b8
      replace HB := HB.trans (b8.mono HB.size)
      go_wp2_with fail
      (with_reducible refine (S2.sameInts_t _ _ _ _ _ _ _ (Rd.own o8) (Rd.own ho) (by omega)).mono ?_); rintro e w9 ⟨rfl, b9⟩
      replace HB := HB.trans (b9.mono HB.size)
      go_wp2
      go_ret
      exact ⟨rfl, HB⟩
theorem walk (v0 : Value) (W : World) {H : Type} {enc : TypeId × Value → H} {b0 : Nat} {d0 : DataW H} {p0 : List MemPlace} (hv0 : Value.okWide Try.prog W .any b0 22 v0) (ht0 : DataW.Trod enc Try.prog W 0 (fun _ => true) true 22 v0 d0 p0) :
    Calls Try.prog 4 #[v0] W fun e w' => e = .returned (.bool true) ∧ Below W.heap.size W w' := by
  obtain ⟨A0, n0, c0, xs0, rfl, hr0, hm0, hx0⟩ := So.bytes hv0 ht0
  unfold maxLen at hm0
  by_cases hl : 1048576 < n0
  · clear hv0 ht0 hr0
    go_enter Try.func4, Try.ntmps4
    go_wp2_with fail
    (with_reducible refine (Cd.big_yes A0 n0 c0 _ (by omega) hl).mono ?_); rintro e w0 ⟨rfl, rfl⟩
    go_wp2
    go_ret
    exact ⟨rfl, Below.refl _ _⟩
  · exact walkSmall A0 n0 c0 xs0 hl W hr0 (fun x h => So.okI_u8 (hx0 x h)) (D2.code_of hr0 hx0 (by omega))

set_option maxRecDepth 100000 in
theorem contract (H : Type) (enc : TypeId × Value → H) (W : World) (base : Nat) (args : Array Value) (ds gs : List (DataW H)) (before : List MemPlace)
    (hval : ∀ (j : Nat) t v, Try.f4.params[j]? = some t → args[j]? = some v → Value.okWide Try.prog W .any base t v)
    (hW : DataW.Whole enc Try.prog Try.f4.params.toList Rows.fnByteStringsSpec.vars false W args.toList ds gs before) :
    Calls Try.prog 4 args W fun e W' => ∃ v, e = .returned v ∧ Rows.fnByteStringsSpec.post enc Try.prog Try.f4 false true false false W args v W' := by
  have hW' := hW
  obtain ⟨p, q, hA0, hV, rfl, hfz, hnd⟩ := hW
  have hA : DataW.TrodAll enc Try.prog W 0 (fun _ => true) true Try.f4.params.toList args.toList ds p := hA0
  rw [Try.params4] at hA hval
  obtain ⟨v0, vs0, d0, ds0, p0, q0, hargs, rfl, rfl, h0, r0⟩ := trodAll_cons hA
  obtain ⟨rfl, rfl, rfl⟩ := trodAll_nil r0
  obtain rfl : args = #[v0] := by cases args; simp_all
  obtain ⟨rfl, rfl⟩ := trodVars_none hV
  clear hA0
  refine Fr.closeLaw rfl (by kernel_rfl) (by rw [Try.params4]; decide) hW' rfl ?_
  exact walk v0 W (hval 0 22 v0 rfl rfl) h0

set_option maxRecDepth 100000 in
theorem reads (os : Os) {H : Type} (enc : TypeId × Value → H) : ∃ places, DataW.whole enc Try.prog ((World.holding Try.prog os ⟨#[], #[], []⟩).forCall (fun _ _ => 0) ⟨#[], #[.slice none 0 0], []⟩).memory Try.f4.params.toList Rows.fnByteStringsSpec.vars false (#[.slice none 0 0] : Array Value).toList 8 = some ([.nil], [], places) :=
  ⟨[], by kernel_rfl⟩
set_option maxRecDepth 100000 in
theorem lifted (os : Os) (started : os.Started) (H : Type) (enc : TypeId × Value → H) (F : Stop.Interp) :
    ReturnsInHanded {} Try.checked os 4 .any ((OpenSpec.ofChange Rows.fnByteStringsSpec).preRow enc Try.prog Try.f4 Rows.fnByteStringsRow.domain false Rows.fnByteStringsRow.laid) (((OpenSpec.ofChange Rows.fnByteStringsSpec).at F).post enc Try.prog Try.f4 false true false false) := by
  obtain ⟨places, hx⟩ := reads os enc
  refine returnsInHanded_of_row (C := Try.checked) (s := OpenSpec.ofChange Rows.fnByteStringsSpec) Fr.own started (by kernel_rfl) Try.func4
    (witness_row_atRef (enc := enc) (C := Try.checked) false (World.holding Try.prog os ⟨#[], #[], []⟩) #[.slice none 0 0] rfl (by kernel_rfl) (by kernel_rfl) (by kernel_rfl)
      (OpenSpec.preRow_of_cond 8 hx (by kernel_rfl) (fun k hk => by cases hk) (by kernel_rfl) (laidMetH_nil _ _))) ?_
  intro W base args ds gs before hval hW _ hcond _ hL _ _
  exact contract H enc W base args ds gs before hval hW
set_option maxRecDepth 100000 in
theorem said : Rows.FnByteStringsSaid :=
  OpenClaim.holds_of_cond 4 Try.f4 rfl rfl rfl rfl rfl rfl rfl ⟨rfl, rfl, rfl, rfl, rfl⟩ rfl rfl rfl rfl rfl (by kernel_rfl) Try.func4 (by kernel_rfl)
    (of_decide_eq_true (by kernel_rfl)) (by unfold Func.isWrapper; first | (rw [if_pos (by decide +kernel)]; kernel_rfl) | (rw [if_neg (by decide +kernel)]; exact ⟨rfl, rfl⟩))
    (fun os started H enc _ F => by rw [OpenClaim.pre_eq_preRow]; exact lifted os started H enc F)
theorem proved : Rows.FnByteStringsSaid := said
#print axioms proved
end Go.Proofs.Ytpeagjpcdoegoab.fnByteStrings
