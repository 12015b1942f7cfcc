/-
  laws.FnBlinding returns true at every code, and leaves it as it was: an element blinded by a number that is not 0 is explained by every input, and the blinding found gives it back; blinding by 0 and evaluating 1 give 0. Conditions: none.
-/
import Derived.Test.YtlndcfpcgcdmgaaFr
import Derived.Stop.Joined
import Derived.Test.YtlndcfpcgcdmgaaC0
import Derived.Test.YtlndcfpcgcdmgaaCd
import Derived.Test.YtlndcfpcgcdmgaaSo
import Derived.Test.YtlndcfpcgcdmgaaL0
import Derived.Test.YtlndcfpcgcdmgaaM9
import Derived.Test.YtlndcfpcgcdmgaaC7i
namespace Go.Proofs.Ytlndcfpcgcdmgaa.fnBlinding
open Go.ChangeShapes Go.WideShapes Go.ChangeAt Go.RowKit
set_option linter.unusedVariables false

open S0 S1 C3 M3 M4 C4d C7 M9
theorem ex_is (w : World) (e l x n : Int) (l0 : 0 ≤ l) (l1 : l ≤ 255) (x0 : 0 ≤ x) (x1 : x ≤ 2295) (hn : lg (hg l x) e = n) (h1 : 1 ≤ n) :
    Calls Try.prog 15 #[.int .i64 e, .int .i64 l, .int .i64 x] w (Gives (.tuple #[.int .i64 n, .bool true]) w) := by
  have h := C7i.implEx e l x w (by omega) (by omega) (by omega) (by omega)
  obtain ⟨h2, h3⟩ := ex_t (e := e) (l := l) (x := x) (by omega)
  rw [h2, h3, hn] at h
  exact h
theorem bln_is (w : World) (l x b e : Int) (l0 : 0 ≤ l) (l1 : l ≤ 255) (x0 : 0 ≤ x) (x1 : x ≤ 2295) (b0 : 0 ≤ b) (b1 : b ≤ 1019) (he : bln l x b = e) :
    Calls Try.prog 13 #[.int .i64 l, .int .i64 x, .int .i64 b] w (Gives (.int .i64 e) w) := by
  subst he
  exact C7i.implBln l x b w (by omega) (by omega) (by omega) (by omega) (by omega) (by omega)
theorem evs_one (w : World) : Calls Try.prog 16 #[.agg #[.int .i64 1, .int .i64 5], .int .i64 1] w (Gives (.int .i64 0) w) := by
  have h := C7i.implEvs 1 5 1 w
  have e : evs 5 1 = 0 := by unfold evs; rw [if_neg (fun h => h.2.1 rfl)]
  rw [e] at h
  exact h
set_option maxHeartbeats 4000000 in
set_option maxRecDepth 100000 in
theorem walkSmall (A0 : Option Addr) (n0 c0 : Nat) (xs0 : List Int) (hl : ¬ 1048576 < n0) (W : World) (hr : Rd W W.heap.size 1 A0 n0 (ints .u8 xs0)) (hx : ∀ x ∈ xs0, 0 ≤ x ∧ x ≤ 255) :
    Calls Try.prog 3 #[.slice A0 n0 c0] W fun e w' => e = .returned (.bool true) ∧ Below W.heap.size W w' := by
  have HR := Lib.hid hr
  have HX := Lib.hid hx
  have hn0 : n0 ≤ 1048576 := by omega
  have HA := Lib.hid (fun i => L0.atv_bd xs0 i hx)
  have HB : Below W.heap.size W W := Below.refl _ _
  clear hr hx
  go_enter Try.func3, Try.ntmps3
  go_wp2_with fail
  (with_reducible refine (Cd.big_no A0 n0 c0 _ hl).mono ?_); rintro e w0 ⟨rfl, rfl⟩
  obtain ⟨la, lb⟩ := HA.out 0
  obtain ⟨l, hl0⟩ : ∃ x, x = L0.atv xs0 0 := ⟨_, rfl⟩
  rw [← hl0] at la lb
  have HL := Lib.hid hl0
  clear hl0
  go_wp2_with fail
  (with_reducible refine (L0.at_is _ A0 n0 c0 xs0 0 0 rfl (HR.out.on HB) HX.out hn0 (by omega)).mono ?_); rintro e w0 ⟨rfl, rfl⟩
  rw [← HL.out]
  go_wp2_with fail
  (with_reducible refine (L0.at_is _ A0 n0 c0 xs0 1 1 rfl (HR.out.on HB) HX.out hn0 (by omega)).mono ?_); rintro e w0 ⟨rfl, rfl⟩
  obtain ⟨xa, xb⟩ := HA.out 1
  obtain ⟨x, hx1⟩ : ∃ x, x = L0.atv xs0 1 := ⟨_, rfl⟩
  rw [← hx1] at xa xb ⊢
  clear hx1
  go_wp2_with fail
  (with_reducible refine (L0.at_is _ A0 n0 c0 xs0 2 2 rfl (HR.out.on HB) HX.out hn0 (by omega)).mono ?_); rintro e w0 ⟨rfl, rfl⟩
  obtain ⟨ba, bb⟩ := HA.out 2
  obtain ⟨b, hb1⟩ : ∃ x, x = L0.atv xs0 2 := ⟨_, rfl⟩
  rw [← hb1] at ba bb ⊢
  clear hb1
  have hbm : (1 + b) % 1019 ≠ 0 := by omega
  have HEX := Lib.hid (fun y => explain (l := l) (x := x) (y := y) (b := 1 + b) hbm)
  obtain ⟨e0, he0⟩ : ∃ e, bln l x (1 + b) = e := ⟨_, rfl⟩
  rw [he0] at HEX
  have HE := Lib.hid he0
  clear he0 hbm
  go_wp2_with fail
  (with_reducible refine (bln_is _ l x (1 + b) e0 la lb xa (by omega) (by omega) (by omega) HE.out).mono ?_); rintro e w1 ⟨rfl, b1⟩
  replace HB := HB.trans (b1.mono HB.size)
  go_wp2_with fail
  go_loopw [4] (fun i wr => ∃ k : Nat, k ≤ 5 ∧ i = .int .i64 k ∧ Below W.heap.size W wr) (fun i _ => 5 - (intOf i).toNat)
  case atStart => exact ⟨0, by omega, rfl, HB⟩
  case round =>
  obtain ⟨k, hk, rfl, hb⟩ := hrel
  clear b1 HB
  by_cases hlt : k < 5
  · have hki : (k : Int) < 5 := by omega
    go_wp2_with fail
    (with_reducible refine (L0.at_is _ A0 n0 c0 xs0 0 0 rfl (HR.out.on hb) HX.out hn0 (by omega)).mono ?_); rintro e w0 ⟨rfl, rfl⟩
    rw [← HL.out]
    go_wp2_with fail
    (with_reducible refine (L0.at_is _ A0 n0 c0 xs0 (3 + k) (3 + (k : Int)) (by omega) (HR.out.on hb) HX.out hn0 (by omega)).mono ?_); rintro e w0 ⟨rfl, rfl⟩
    obtain ⟨y0, y1⟩ := HA.out (3 + k)
    obtain ⟨y, hy⟩ : ∃ y, y = L0.atv xs0 (3 + k) := ⟨_, rfl⟩
    rw [← hy] at y0 y1 ⊢
    have HY := Lib.hid hy
    clear hy
    have hex := HEX.out (y * 9)
    obtain ⟨n, hn⟩ : ∃ n, lg (hg l (y * 9)) e0 = n := ⟨_, rfl⟩
    rw [hn] at hex
    obtain ⟨n1, n2, hbk⟩ := hex
    have HN := Lib.hid hn
    have HBK := Lib.hid hbk
    clear hn hbk
    go_wp2_with fail
    (with_reducible refine (ex_is _ e0 l (y * 9) n la lb (by omega) (by omega) HN.out n1).mono ?_); rintro e w2 ⟨rfl, b2⟩
    replace hb := hb.trans (b2.mono hb.size)
    clear b2
    go_wp2_with fail
    (with_reducible refine (L0.at_is _ A0 n0 c0 xs0 0 0 rfl (HR.out.on hb) HX.out hn0 (by omega)).mono ?_); rintro e w0 ⟨rfl, rfl⟩
    rw [← HL.out]
    go_wp2_with fail
    (with_reducible refine (L0.at_is _ A0 n0 c0 xs0 (3 + k) (3 + (k : Int)) (by omega) (HR.out.on hb) HX.out hn0 (by omega)).mono ?_); rintro e w0 ⟨rfl, rfl⟩
    rw [← HY.out]
    go_wp2_with fail
    (with_reducible refine (bln_is _ l (y * 9) n e0 la lb (by omega) (by omega) (by omega) (by omega) HBK.out).mono ?_); rintro e w3 ⟨rfl, b3⟩
    replace hb := hb.trans (b3.mono hb.size)
    clear b3
    go_wp2
    go_roundw
    case rel => exact ⟨k + 1, by omega, by go_num, hb⟩
    case measure => simp [intOf]; omega
  have hk5 : ¬ ((k : Int) < 5) := by omega
  have HZ := Lib.hid (show bln 1 2 1019 = 0 by unfold bln; rw [if_pos (by decide)])
  go_wp2_with fail
  (with_reducible refine (bln_is _ 1 2 1019 0 (by omega) (by omega) (by omega) (by omega) (by omega) (by omega) HZ.out).mono ?_); rintro e w3 ⟨rfl, b3⟩
  replace hb := hb.trans (b3.mono hb.size)
  clear b3
  go_wp2_with fail
  (with_reducible refine (evs_one _).mono ?_); rintro e w4 ⟨rfl, b4⟩
  replace hb := hb.trans (b4.mono hb.size)
  go_wp2
  go_ret
  exact ⟨rfl, hb⟩
theorem walk (v0 : Value) (W : World) {H : Type} {enc : TypeId × Value → H} {b0 : Nat} {d0 : DataW H} {p0 : List MemPlace} (hv0 : Value.okWide Try.prog W .any b0 22 v0) (ht0 : DataW.Trod enc Try.prog W 0 (fun _ => true) true 22 v0 d0 p0) :
    Calls Try.prog 3 #[v0] W fun e w' => e = .returned (.bool true) ∧ Below W.heap.size W w' := by
  obtain ⟨A0, n0, c0, xs0, rfl, hr0, hm0, hx0⟩ := So.bytes hv0 ht0
  unfold maxLen at hm0
  by_cases hl : 1048576 < n0
  · clear hv0 ht0 hr0
    go_enter Try.func3, Try.ntmps3
    go_wp2_with fail
    (with_reducible refine (Cd.big_yes A0 n0 c0 _ (by omega) hl).mono ?_); rintro e w0 ⟨rfl, rfl⟩
    go_wp2
    go_ret
    exact ⟨rfl, Below.refl _ _⟩
  · exact walkSmall A0 n0 c0 xs0 hl W hr0 (fun x h => So.okI_u8 (hx0 x h))

theorem contract (H : Type) (enc : TypeId × Value → H) (W : World) (base : Nat) (args : Array Value) (ds gs : List (DataW H)) (before : List MemPlace)
    (hval : ∀ (j : Nat) t v, Try.f3.params[j]? = some t → args[j]? = some v → Value.okWide Try.prog W .any base t v)
    (hW : DataW.Whole enc Try.prog Try.f3.params.toList Rows.fnBlindingSpec.vars false W args.toList ds gs before) :
    Calls Try.prog 3 args W fun e W' => ∃ v, e = .returned v ∧ Rows.fnBlindingSpec.post enc Try.prog Try.f3 false true false false W args v W' := by
  have hW' := hW
  obtain ⟨p, q, hA0, hV, rfl, hfz, hnd⟩ := hW
  have hA : DataW.TrodAll enc Try.prog W 0 (fun _ => true) true Try.f3.params.toList args.toList ds p := hA0
  rw [Try.params3] at hA hval
  obtain ⟨v0, vs0, d0, ds0, p0, q0, hargs, rfl, rfl, h0, r0⟩ := trodAll_cons hA
  obtain ⟨rfl, rfl, rfl⟩ := trodAll_nil r0
  obtain rfl : args = #[v0] := by cases args; simp_all
  obtain ⟨rfl, rfl⟩ := trodVars_none hV
  clear hA0
  refine Fr.closeLaw rfl (by kernel_rfl) (by rw [Try.params3]; decide) hW' rfl ?_
  exact walk v0 W (hval 0 22 v0 rfl rfl) h0

theorem reads (os : Os) {H : Type} (enc : TypeId × Value → H) : ∃ places, DataW.whole enc Try.prog ((World.holding Try.prog os ⟨#[], #[], []⟩).forCall (fun _ _ => 0) ⟨#[], #[.slice none 0 0], []⟩).memory Try.f3.params.toList Rows.fnBlindingSpec.vars false (#[.slice none 0 0] : Array Value).toList 8 = some ([.nil], [], places) :=
  ⟨[], by kernel_rfl⟩
set_option maxRecDepth 100000 in
theorem lifted (os : Os) (started : os.Started) (H : Type) (enc : TypeId × Value → H) (F : Stop.Interp) :
    ReturnsInHanded {} Try.checked os 3 .any ((OpenSpec.ofChange Rows.fnBlindingSpec).preRow enc Try.prog Try.f3 Rows.fnBlindingRow.domain false Rows.fnBlindingRow.laid) (((OpenSpec.ofChange Rows.fnBlindingSpec).at F).post enc Try.prog Try.f3 false true false false) := by
  obtain ⟨places, hx⟩ := reads os enc
  refine returnsInHanded_of_row (C := Try.checked) (s := OpenSpec.ofChange Rows.fnBlindingSpec) Fr.own started (by kernel_rfl) Try.func3
    (witness_row_atRef (enc := enc) (C := Try.checked) false (World.holding Try.prog os ⟨#[], #[], []⟩) #[.slice none 0 0] rfl (by kernel_rfl) (by kernel_rfl) (by kernel_rfl)
      (OpenSpec.preRow_of_cond 8 hx (by kernel_rfl) (fun k hk => by cases hk) (by kernel_rfl) (laidMetH_nil _ _))) ?_
  intro W base args ds gs before hval hW _ hcond _ hL _ _
  exact contract H enc W base args ds gs before hval hW
theorem said : Rows.FnBlindingSaid :=
  OpenClaim.holds_of_cond 3 Try.f3 rfl rfl rfl rfl rfl rfl rfl ⟨rfl, rfl, rfl, rfl, rfl⟩ rfl rfl rfl rfl rfl (by kernel_rfl) Try.func3 (by kernel_rfl)
    (of_decide_eq_true (by kernel_rfl)) (by unfold Func.isWrapper; first | (rw [if_pos (by decide +kernel)]; kernel_rfl) | (rw [if_neg (by decide +kernel)]; exact ⟨rfl, rfl⟩))
    (fun os started H enc _ F => by rw [OpenClaim.pre_eq_preRow]; exact lifted os started H enc F)
theorem proved : Rows.FnBlindingSaid := said
#print axioms proved
end Go.Proofs.Ytlndcfpcgcdmgaa.fnBlinding
