/-
  laws.FnKeyedHash returns true at every code, and leaves it as it was: a keyed hash is the hash of key, values, key, lies in its range, and changes with each value modulo Modulus; derived keys are valid. Conditions: none.
-/
import Derived.Test.YtbbcmadihfpnlaaFr
import Derived.Stop.Joined
import Derived.Test.YtbbcmadihfpnlaaD3
import Derived.Test.YtbbcmadihfpnlaaCd
import Derived.Test.YtbbcmadihfpnlaaS2
import Derived.Test.YtbbcmadihfpnlaaC3b
import Derived.Test.YtbbcmadihfpnlaaL0
import Derived.Deep.RegionHeld3
import Derived.Deep.RegionWith
namespace Go.Proofs.Ytbbcmadihfpnlaa.fnKeyedHash
open Go.ChangeShapes Go.WideShapes Go.ChangeAt Go.RowKit
set_option linter.unusedVariables false

open S0 S1
/-- A guarded operation that is wanted: as if it bore no guard. -/
theorem wanted_plain {P : Program} {ops : Array Oper} {rest : List Oper} {o : Oper} {a : Act} {w : World} {Q : Exit → Act → World → Prop} (hw : Region.wanted o (yielded ops a.tmps) = true) (h : wpList P ops Q ({ o with guard := none } :: rest) a w) : wpList P ops Q (o :: rest) a w := by
  unfold wpList at h ⊢
  rw [if_pos hw]
  rw [if_pos (by simp [Region.wanted])] at h
  exact h
theorem keyed_is (w : World) (A : Option Addr) (n c : Nat) (xs : List Int) (k z : Int) (hz : M3.khash k xs = z) (hk0 : -1 ≤ k) (hk1 : k ≤ 2147483648) (hr : Rd w w.heap.size 1 A n (ints .i64 xs)) (hx : C3.okInts xs) (hn : n ≤ 4294967296) :
    Calls Try.prog 32 #[.int .i64 k, .slice A n c] w (Gives (.int .i64 z) w) := by
  subst hz; exact C3.implKeyed w A n c xs k (by omega) (by omega) hr hx hn
theorem hash_is (w : World) (A : Option Addr) (n c : Nat) (xs : List Int) (z : Int) (hz : M3.hash xs = z) (hr : Rd w w.heap.size 1 A n (ints .i64 xs)) (hx : C3.okInts xs) (hn : n ≤ 4294967296) :
    Calls Try.prog 33 #[.slice A n c] w (Gives (.int .i64 z) w) := by
  subst hz; exact C3.implHash w A n c xs hr hx hn
theorem valid_is (w : World) (k : Int) (h1 : 1 ≤ k) (h2 : k ≤ 2147483646) : Calls Try.prog 37 #[.int .i64 k] w (Gives (.bool true) w) := by
  have e : C3.isKey k = true := by unfold C3.isKey; exact decide_eq_true ⟨h1, h2⟩
  have h := C3.implValidB w k
  rw [e] at h
  exact h
theorem words_ok {ys : List Int} (h : D3.words ys) : C3.okInts ys := fun y hy => by have := h y hy; unfold D3.isWord at this; omega
theorem words_get {ys : List Int} (h : D3.words ys) (i : Nat) : -1 ≤ ys.getD i 0 ∧ ys.getD i 0 ≤ 2147483648 := by
  rw [List.getD_eq_getElem?_getD]
  cases e : ys[i]? with
  | none => simp
  | some x => exact h x (List.mem_of_getElem? e)
theorem set_ok {ys : List Int} (h : D3.words ys) (i : Nat) (y : Int) (h0 : 0 ≤ y) (h1 : y ≤ 2147483646) : C3.okInts (ys.set i y) := by
  intro z hz
  rcases List.mem_or_eq_of_mem_set hz with hz | hz
  · exact words_ok h z hz
  · subst hz; omega
/-- Another value: another keyed hash. -/
theorem other (k : Int) (ys : List Int) (i : Nat) (x q : Int) (hi : i < ys.length) (hx : x = ys.getD i 0) (h0 : 0 ≤ q) (h1 : q ≤ 255) : M3.khash k (ys.set i ((x + 1 + q) % 2147483647)) ≠ M3.khash k ys := by
  refine M3.khash_set k ys i _ hi ?_
  rw [← hx]
  omega
theorem mod_wr (w : World) (x p : Int) (hx0 : -1 ≤ x) (hx1 : x ≤ 2147483648) (hp0 : 0 ≤ p) (hp1 : p ≤ 255) : Calls Try.prog 35 #[.int .i64 (IntKind.i64.wrap (IntKind.i64.wrap (x + 1) + p)), .int .i64 2147483647] w fun e w' => e = .returned (.int .i64 ((x + 1 + p) % 2147483647)) ∧ w = w' := by
  have e : IntKind.i64.wrap (IntKind.i64.wrap (x + 1) + p) = x + 1 + p := by rw [IntKind.wrap_i64, IntKind.wrap_i64]; omega
  rw [e]
  exact C1.specMod_in (x + 1 + p) 2147483647 w (by omega) (by omega) (by omega) (by omega)
set_option maxHeartbeats 4000000 in
set_option maxRecDepth 100000 in
theorem walkSmall (A0 : Option Addr) (n0 c0 : Nat) (xs0 : List Int) (hl : ¬ 1048576 < n0) (W : World) (hr : Rd W W.heap.size 1 A0 n0 (ints .u8 xs0)) (hx : ∀ x ∈ xs0, 0 ≤ x ∧ x ≤ 255) (hc : C0.Code W W.heap.size (.slice A0 n0 c0)) :
    Calls Try.prog 11 #[.slice A0 n0 c0] W fun e w' => e = .returned (.bool true) ∧ Below W.heap.size W w' := by
  have HR := Lib.hid hr
  have HX := Lib.hid hx
  have hn0 : n0 ≤ 1048576 := by omega
  clear hr hx
  go_enter Try.func11, Try.ntmps11
  go_wp2_with fail
  (with_reducible refine (Cd.big_no A0 n0 c0 _ hl).mono ?_); rintro e w0 ⟨rfl, rfl⟩
  have HC := Lib.hid (fun (w' : World) (h : Below W.heap.size W w') => (hc.below h).mono h.size)
  go_wp2_with fail
  (with_reducible refine (D3.keyedHash _ _ hc).mono ?_); rintro e w1 ⟨k, A, n, c, ys, rfl, ⟨hk0, hk1⟩, hys, hn, o1, HB⟩
  clear hc
  have hyl : ys.length = n := by have := o1.1; rw [ints_len] at this; omega
  have HYL := Lib.hid hyl
  have HYS := Lib.hid hys
  have HOK := Lib.hid (words_ok hys)
  have HKO := Lib.hid (((C3.okInts.one (x := k) (by omega) (by omega)).app (words_ok hys)).app (C3.okInts.one (x := k) (by omega) (by omega)))
  have hin := M3.khash_in k ys
  unfold M3.inP at hin
  obtain ⟨z, hz⟩ : ∃ z, M3.khash k ys = z := ⟨_, rfl⟩
  rw [hz] at hin
  obtain ⟨hz0, hz1⟩ := hin
  have HZ := Lib.hid hz
  have HZ2 := Lib.hid (show M3.hash ([k] ++ ys ++ [k]) = z from hz)
  clear hz hys hyl
  go_wp2_with fail
  (with_reducible refine (keyed_is _ _ _ _ ys k z HZ.out hk0 hk1 (Rd.own o1) HOK.out (by omega)).mono ?_); rintro e w2 ⟨rfl, b2⟩
  replace o1 := own_below o1 b2
  replace HB := HB.trans (b2.mono HB.size)
  have O1 := Lib.hid o1
  have ho0 := own_lit w2 #[.int .i64 k] 1 w2.heap.size 3 (Nat.le_refl _) rfl (by unfold maxLen; omega)
  have b0 : Below w2.heap.size w2 (w2.alloc (.cells #[.int .i64 k] 3)) := (Below.refl _ _).alloc (Nat.le_refl _) _
  clear o1 b2
  have hb1 : decide (z < 0) = false := by simp; omega
  have hb2 : decide (2147483647 ≤ z) = false := by simp; omega
  go_wp2_with (at_builtin; refine wanted_plain rfl ?_; first | (refine appI _ rfl _ _ rfl w2.heap.size (.slice (some ⟨w2.heap.size, 0, none⟩) 1 1) 1 _ rfl ho0 _ A n c _ rfl ((Rd.own O1.out).on b0) (ints_one _ _) (by omega) b0.size ?_; intro v3 w3 ho3 hg3; have hz3 : w2.heap.size ≤ w3.heap.size := Nat.le_trans b0.size hg3.size) | (refine appI _ rfl _ _ rfl w2.heap.size v3 _ _ rfl (ho3.alloc _) _ _ 1 1 [.int .i64 k] rfl (rd_one _ _ _) (one_int .i64 _) (by omega) (by simp; omega) ?_; intro v4 w4 ho4 hg4; obtain ⟨A4, c4, rfl⟩ := own_nil_form ho4))
  have hb3 : Below w2.heap.size w2 w3 := b0.grown hg3 b0.size (fun j hj => (ho0.lt j hj).1)
  have hb4 : Below w2.heap.size w2 w4 := (hb3.alloc hb3.size _).grown hg4 (by have := hb3.size; simp; omega) (fun j hj => (ho3.lt j hj).1)
  have e2 : ([Value.int .i64 k] ++ ints .i64 ys) ++ [.int .i64 k] = ints .i64 ([k] ++ ys ++ [k]) := by simp [ints]
  rw [e2] at ho4
  have o1 := own_below O1.out hb4
  replace HB := HB.trans (hb4.mono HB.size)
  clear e2 hb3 hb4 hg3 hg4 ho3 ho0 b0 O1
  (with_reducible refine (hash_is _ _ _ _ ([k] ++ ys ++ [k]) z HZ2.out (Rd.own ho4) HKO.out (by omega)).mono ?_); rintro e w5 ⟨rfl, b5⟩
  replace o1 := own_below o1 b5
  replace HB := HB.trans (b5.mono HB.size)
  clear ho4 b5 hz3
  by_cases hn1 : n = 0
  · subst hn1
    clear o1
    go_wp2_with fail
    (with_reducible refine (D3.deriveFromString _ _ (HC.out _ HB)).mono ?_); rintro e wa ⟨ka, sa, rfl, ⟨ha0, ha1⟩, hsa, ba⟩
    replace HB := HB.trans (ba.mono HB.size)
    obtain ⟨hd0, hd1⟩ := M3.derive_valid ka (C3b.sbytes sa)
    go_wp2_with fail
    (with_reducible refine (C3b.implDerive _ ka sa (by omega) (by omega) (by omega)).mono ?_); rintro e wb ⟨rfl, bb⟩
    replace HB := HB.trans (bb.mono HB.size)
    go_wp2_with fail
    (with_reducible refine (valid_is _ _ hd0 hd1).mono ?_); rintro e wc ⟨rfl, bc⟩
    replace HB := HB.trans (bc.mono HB.size)
    go_wp2
    go_ret
    exact ⟨rfl, HB⟩
  · have hnp : 0 < n := by omega
    have O1 := Lib.hid o1
    have hW5 : W.heap.size ≤ w5.heap.size := HB.size
    have ho0 := own_lit w5 #[] 0 w5.heap.size 3 (Nat.le_refl _) rfl (Nat.zero_le _)
    have b0 : Below w5.heap.size w5 (w5.alloc (.cells #[] 3)) := (Below.refl _ _).alloc (Nat.le_refl _) _
    clear o1 hn1
    go_wp2_with (at_builtin; refine appI _ rfl _ _ rfl w5.heap.size (.slice (some ⟨w5.heap.size, 0, none⟩) 0 0) 0 _ rfl ho0 _ A n c _ rfl ((Rd.own O1.out).on b0) (ints_one _ _) (by omega) b0.size ?_; intro v6 w6 ho6 hg6; obtain ⟨A6, c6, rfl⟩ := own_nil_form ho6)
    have hb6 : Below w5.heap.size w5 w6 := b0.grown hg6 b0.size (fun j hj => (ho0.lt j hj).1)
    replace HB := HB.trans (hb6.mono HB.size)
    rw [Nat.zero_add, List.nil_append] at ho6
    obtain ⟨g, rfl⟩ : ∃ g, A6 = some ⟨g, 0, none⟩ := by
      obtain ⟨g, cap, hv, _⟩ := ho6.form hnp
      injection hv with h1
      exact ⟨g, h1⟩
    clear hg6 ho0 b0 hb6
    have HR6 := (HR.out.below HB).more HB.size
    (with_reducible refine (L0.at_some _ _ _ _ xs0 0 (by omega) (by omega) HR6 HX.out hn0).mono ?_); rintro e w7 ⟨q, rfl, hq0, hq1, rfl⟩
    obtain ⟨i, hi, hin⟩ : ∃ i : Nat, q % (n : Int) = (i : Int) ∧ i < n := ⟨(q % (n : Int)).toNat, by have := Int.emod_nonneg q (show (n : Int) ≠ 0 by omega); omega, by have h1 := Int.emod_nonneg q (show (n : Int) ≠ 0 by omega); have h2 := Int.emod_lt_of_pos q (show (0 : Int) < n by omega); omega⟩
    have hi2 : q.tmod (n : Int) = (i : Int) := by rw [Int.tmod_eq_emod_of_nonneg hq0]; exact hi
    obtain ⟨hg, hbase, hold, hfr⟩ := stored_at ho6 i hin
    obtain ⟨hx0, hx1⟩ := words_get HYS.out i
    obtain ⟨x, hx⟩ : ∃ x, x = ys.getD i 0 := ⟨_, rfl⟩
    rw [← hx] at hold hx0 hx1
    have HXI := Lib.hid hx
    clear hx
    have hni : (0 : Int) < n := by omega
    have hin' : (i : Int) < n := by omega
    have HO6 := Lib.hid ho6
    clear ho6
    go_wp2_with fail
    have HR6d : Rd w6.drew w6.drew.heap.size 1 A0 n0 (ints .u8 xs0) := HR6.below ⟨rfl, rfl, rfl, Nat.le_refl _, fun _ _ => rfl⟩
    clear HR6
    go_region_with (first | (go_at_call 34; (refine (L0.at_some _ _ _ _ xs0 1 (by omega) (by omega) HR6d HX.out hn0).mono ?_; rintro e w8 ⟨p, rfl, hp0, hp1, rfl⟩)) | (go_at_call 35; refine (mod_wr _ x p hx0 hx1 hp0 hp1).mono ?_; rintro e w9 ⟨rfl, rfl⟩))
    all_goals
      have HOT := Lib.hid (other k ys i x p (by have := HYL.out; omega) HXI.out hp0 hp1)
      have hy0 : 0 ≤ (x + 1 + p) % 2147483647 := by omega
      have hy1 : (x + 1 + p) % 2147483647 ≤ 2147483646 := by omega
      obtain ⟨y, hy⟩ : ∃ y, y = (x + 1 + p) % 2147483647 := ⟨_, rfl⟩
      rw [← hy] at hy0 hy1 HOT
      simp only [← hy]
      have ho7 : (w6.setCell ⟨g, i, none⟩ (.int .i64 y)).drew.ownsRow w5.heap.size 3 1 (.slice (some ⟨g, 0, none⟩) n c6) n (ints .i64 (ys.set i y)) := by
        have h := (HO6.out.stored i (.int .i64 y)).1
        rw [ints_put] at h
        exact own_below h ⟨rfl, rfl, rfl, Nat.le_refl _, fun _ _ => rfl⟩
      have HB7 : Below W.heap.size W (w6.setCell ⟨g, i, none⟩ (.int .i64 y)).drew := (HB.setCell (by simp; omega) _).trans ⟨rfl, rfl, rfl, Nat.le_refl _, fun _ _ => rfl⟩
      have HSO := Lib.hid (set_ok HYS.out i y hy0 hy1)
      obtain ⟨z2, hz2⟩ : ∃ z2, M3.khash k (ys.set i y) = z2 := ⟨_, rfl⟩
      have hne : ¬ z2 = z := by rw [← hz2, ← HZ.out]; exact HOT.out
      have hneb : (z2 == z) = false := by simpa using hne
      have HZ2' := Lib.hid hz2
      clear hz2 hy HOT hold hfr HO6
      go_wp2_with fail
      (with_reducible refine (keyed_is _ _ _ _ (ys.set i y) k z2 HZ2'.out hk0 hk1 (Rd.own ho7) HSO.out (by omega)).mono ?_); rintro e w8 ⟨rfl, b8⟩
      replace HB := HB7.trans (b8.mono HB7.size)
      clear ho7 HB7 b8
      go_wp2_with fail
      (with_reducible refine (D3.deriveFromString _ _ (HC.out _ HB)).mono ?_); rintro e wa ⟨ka, sa, rfl, ⟨ha0, ha1⟩, hsa, ba⟩
      replace HB := HB.trans (ba.mono HB.size)
      obtain ⟨hd0, hd1⟩ := M3.derive_valid ka (C3b.sbytes sa)
      go_wp2_with fail
      (with_reducible refine (C3b.implDerive _ ka sa (by omega) (by omega) (by omega)).mono ?_); rintro e wb ⟨rfl, bb⟩
      replace HB := HB.trans (bb.mono HB.size)
      go_wp2_with fail
      (with_reducible refine (valid_is _ _ hd0 hd1).mono ?_); rintro e wc ⟨rfl, bc⟩
      replace HB := HB.trans (bc.mono HB.size)
      go_wp2
      go_ret
      exact ⟨rfl, HB⟩
theorem walk (v0 : Value) (W : World) {H : Type} {enc : TypeId × Value → H} {b0 : Nat} {d0 : DataW H} {p0 : List MemPlace} (hv0 : Value.okWide Try.prog W .any b0 22 v0) (ht0 : DataW.Trod enc Try.prog W 0 (fun _ => true) true 22 v0 d0 p0) :
    Calls Try.prog 11 #[v0] W fun e w' => e = .returned (.bool true) ∧ Below W.heap.size W w' := by
  obtain ⟨A0, n0, c0, xs0, rfl, hr0, hm0, hx0⟩ := So.bytes hv0 ht0
  unfold maxLen at hm0
  by_cases hl : 1048576 < n0
  · clear hv0 ht0 hr0
    go_enter Try.func11, Try.ntmps11
    go_wp2_with fail
    (with_reducible refine (Cd.big_yes A0 n0 c0 _ (by omega) hl).mono ?_); rintro e w0 ⟨rfl, rfl⟩
    go_wp2
    go_ret
    exact ⟨rfl, Below.refl _ _⟩
  · exact walkSmall A0 n0 c0 xs0 hl W hr0 (fun x h => So.okI_u8 (hx0 x h)) (D2.code_of hr0 hx0 (by omega))

theorem contract (H : Type) (enc : TypeId × Value → H) (W : World) (base : Nat) (args : Array Value) (ds gs : List (DataW H)) (before : List MemPlace)
    (hval : ∀ (j : Nat) t v, Try.f11.params[j]? = some t → args[j]? = some v → Value.okWide Try.prog W .any base t v)
    (hW : DataW.Whole enc Try.prog Try.f11.params.toList Rows.fnKeyedHashSpec.vars false W args.toList ds gs before) :
    Calls Try.prog 11 args W fun e W' => ∃ v, e = .returned v ∧ Rows.fnKeyedHashSpec.post enc Try.prog Try.f11 false true false false W args v W' := by
  have hW' := hW
  obtain ⟨p, q, hA0, hV, rfl, hfz, hnd⟩ := hW
  have hA : DataW.TrodAll enc Try.prog W 0 (fun _ => true) true Try.f11.params.toList args.toList ds p := hA0
  rw [Try.params11] at hA hval
  obtain ⟨v0, vs0, d0, ds0, p0, q0, hargs, rfl, rfl, h0, r0⟩ := trodAll_cons hA
  obtain ⟨rfl, rfl, rfl⟩ := trodAll_nil r0
  obtain rfl : args = #[v0] := by cases args; simp_all
  obtain ⟨rfl, rfl⟩ := trodVars_none hV
  clear hA0
  refine Fr.closeLaw rfl (by kernel_rfl) (by rw [Try.params11]; decide) hW' rfl ?_
  exact walk v0 W (hval 0 22 v0 rfl rfl) h0

theorem reads (os : Os) {H : Type} (enc : TypeId × Value → H) : ∃ places, DataW.whole enc Try.prog ((World.holding Try.prog os ⟨#[], #[], []⟩).forCall (fun _ _ => 0) ⟨#[], #[.slice none 0 0], []⟩).memory Try.f11.params.toList Rows.fnKeyedHashSpec.vars false (#[.slice none 0 0] : Array Value).toList 8 = some ([.nil], [], places) :=
  ⟨[], by kernel_rfl⟩
set_option maxRecDepth 100000 in
theorem lifted (os : Os) (started : os.Started) (H : Type) (enc : TypeId × Value → H) (F : Stop.Interp) :
    ReturnsInHanded {} Try.checked os 11 .any ((OpenSpec.ofChange Rows.fnKeyedHashSpec).preRow enc Try.prog Try.f11 Rows.fnKeyedHashRow.domain false Rows.fnKeyedHashRow.laid) (((OpenSpec.ofChange Rows.fnKeyedHashSpec).at F).post enc Try.prog Try.f11 false true false false) := by
  obtain ⟨places, hx⟩ := reads os enc
  refine returnsInHanded_of_row (C := Try.checked) (s := OpenSpec.ofChange Rows.fnKeyedHashSpec) Fr.own started (by kernel_rfl) Try.func11
    (witness_row_atRef (enc := enc) (C := Try.checked) false (World.holding Try.prog os ⟨#[], #[], []⟩) #[.slice none 0 0] rfl (by kernel_rfl) (by kernel_rfl) (by kernel_rfl)
      (OpenSpec.preRow_of_cond 8 hx (by kernel_rfl) (fun k hk => by cases hk) (by kernel_rfl) (laidMetH_nil _ _))) ?_
  intro W base args ds gs before hval hW _ hcond _ hL _ _
  exact contract H enc W base args ds gs before hval hW
theorem said : Rows.FnKeyedHashSaid :=
  OpenClaim.holds_of_cond 11 Try.f11 rfl rfl rfl rfl rfl rfl rfl ⟨rfl, rfl, rfl, rfl, rfl⟩ rfl rfl rfl rfl rfl (by kernel_rfl) Try.func11 (by kernel_rfl)
    (of_decide_eq_true (by kernel_rfl)) (by unfold Func.isWrapper; first | (rw [if_pos (by decide +kernel)]; kernel_rfl) | (rw [if_neg (by decide +kernel)]; exact ⟨rfl, rfl⟩))
    (fun os started H enc _ F => by rw [OpenClaim.pre_eq_preRow]; exact lifted os started H enc F)
theorem proved : Rows.FnKeyedHashSaid := said
#print axioms proved
end Go.Proofs.Ytbbcmadihfpnlaa.fnKeyedHash
