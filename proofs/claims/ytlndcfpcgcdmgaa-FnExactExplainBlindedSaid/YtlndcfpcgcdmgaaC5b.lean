/-
  Contracts of chapter 5's weights, of the program: areDifferentModulo, shareIndices, differenceModulo, LagrangeWeight.
-/
import Derived.Test.YtlndcfpcgcdmgaaC5
namespace Go.Proofs.Ytlndcfpcgcdmgaa.C5b
open Go.ChangeShapes Go.WideShapes Go.ChangeAt Go.RowKit
open S0 S1 S3 C3 M4 M5 C5
set_option linter.unusedVariables false
/-- Which remainders stand among the first k numbers. -/
def hit (is : List Int) (k r : Nat) : Bool := (is.take k).any fun x => x % 1019 == (r : Int)
def seen (is : List Int) (k : Nat) : List Value := (List.range 1019).map fun r => Value.bool (hit is k r)
theorem seen_len (is : List Int) (k : Nat) : (seen is k).length = 1019 := by unfold seen; rw [List.length_map, List.length_range]
theorem seen_zero (is : List Int) : seen is 0 = List.replicate 1019 (Value.bool false) := by
  refine List.ext_getElem (by rw [seen_len, List.length_replicate]) fun i h1 h2 => ?_
  rw [List.getElem_replicate]
  simp only [seen, List.getElem_map, hit, List.take_zero, List.any_nil]
theorem seen_get (is : List Int) (k r : Nat) (hr : r < 1019) : (seen is k)[r]? = some (.bool (hit is k r)) := by
  unfold seen; rw [List.getElem?_map, List.getElem?_range hr]; rfl
theorem hit_next (is : List Int) (k r : Nat) (hk : k < is.length) : hit is (k + 1) r = (hit is k r || is.getD k 0 % 1019 == (r : Int)) := by
  unfold hit
  rw [List.take_succ_eq_append_getElem hk, List.any_append, List.getD_eq_getElem?_getD, List.getElem?_eq_getElem hk]
  simp
theorem seen_set (is : List Int) (k r : Nat) (hk : k < is.length) (hr : (r : Int) = is.getD k 0 % 1019) : (seen is k).set r (.bool true) = seen is (k + 1) := by
  refine List.ext_getElem (by rw [List.length_set, seen_len, seen_len]) fun i h1 h2 => ?_
  rw [List.getElem_set]
  simp only [seen, List.getElem_map, List.getElem_range]
  rw [hit_next is k i hk]
  split
  · next h => subst h; rw [← hr]; simp
  · next h =>
      have : (is.getD k 0 % 1019 == (i : Int)) = false := by rw [← hr]; simp; omega
      rw [this, Bool.or_false]
theorem hit_t {is : List Int} {k r : Nat} (hk : k < is.length) (hr : (r : Int) = is.getD k 0 % 1019) (h : hit is k r = true) : dup is is.length := by
  unfold hit at h
  rw [List.any_eq_true] at h
  obtain ⟨x, hx, e⟩ := h
  obtain ⟨i, hi, rfl⟩ := List.getElem_of_mem hx
  rw [List.length_take] at hi
  refine ⟨i, k, by omega, hk, ?_⟩
  have e2 := eq_of_beq e
  rw [List.getElem_take] at e2
  rw [List.getD_eq_getElem?_getD, List.getElem?_eq_getElem (by omega : i < is.length)]
  exact e2.trans hr
theorem hit_f {is : List Int} {k r : Nat} (hk : k < is.length) (hr : (r : Int) = is.getD k 0 % 1019) (h : hit is k r = false) (hf : ¬ dup is k) : ¬ dup is (k + 1) := by
  rintro ⟨p, q, hpq, hq, e⟩
  by_cases hqk : q < k
  · exact hf ⟨p, q, hpq, hqk, e⟩
  · obtain rfl : q = k := by omega
    unfold hit at h
    rw [List.any_eq_false] at h
    refine h (is.getD p 0) ?_ ?_
    · have hl : p < (is.take q).length := by rw [List.length_take]; omega
      have e3 : (is.take q)[p] = is.getD p 0 := by rw [List.getElem_take, List.getD_eq_getElem?_getD, List.getElem?_eq_getElem (by omega : p < is.length)]; rfl
      rw [← e3]; exact List.getElem_mem hl
    · rw [e, ← hr]; simp
/-- The row as it begins. -/
def row0 : Array Value := (seen [] 0).toArray
theorem row0_size : row0.size = 1019 := by unfold row0; rw [List.size_toArray, seen_len]
theorem row0_eq (is : List Int) : row0.toList = seen is 0 := by unfold row0; rw [seen_zero, seen_zero]
theorem row0_one : row0.all (·.oneCell') = true := by
  unfold row0 seen
  rw [List.all_toArray, List.all_eq_true]
  intro x hx
  rw [List.mem_map] at hx
  obtain ⟨_, _, rfl⟩ := hx
  rfl
theorem row_info : (Try.prog.info? 61).map (fun i => (i.zero, i.size)) = some (some (.agg row0), 1019) := by kernel_rfl
/-- Behind k numbers: the row lies in the call's own block. -/
structure Seen (is : List Int) (w : World) (k : Nat) (wr : World) : Prop where
  own : wr.ownsRow w.heap.size 61 1 (.slice (some ⟨w.heap.size, 0, none⟩) 1019 1019) 1019 (seen is k)
  bel : Below w.heap.size w wr
theorem Seen.start (is : List Int) (w : World) : Seen is w 0 (w.alloc (.cells row0 61)) := by
  refine ⟨?_, (Below.refl _ _).alloc (Nat.le_refl _) _⟩
  rw [← row0_eq is]
  exact own_lit w row0 1019 w.heap.size 61 (Nat.le_refl _) row0_size (by unfold maxLen; omega)
theorem Seen.at_ {is : List Int} {w wr : World} {k : Nat} (h : Seen is w k wr) (r : Nat) (hr : r < 1019) : wr.cell? ⟨w.heap.size, r, none⟩ = some (.bool (hit is k r)) ∧ wr.frozen? ⟨w.heap.size, r, none⟩ = false :=
  ⟨by rw [h.own.cellAt r (by omega), seen_get is k r hr], h.own.frozenAt r⟩
theorem Seen.next {is : List Int} {w wr : World} {k r : Nat} (h : Seen is w k wr) (hk : k < is.length) (hr : (r : Int) = is.getD k 0 % 1019) : Seen is w (k + 1) (wr.setCell ⟨w.heap.size, r, none⟩ (.bool true)) := by
  have h1 := (h.own.stored r (.bool true)).1
  rw [seen_set is k r hk hr] at h1
  exact ⟨h1, h.bel.setCell (Nat.le_refl _) _⟩
set_option maxHeartbeats 1600000 in
set_option maxRecDepth 100000 in
theorem diff (w : World) (A : Option Addr) (n c : Nat) (is : List Int) (b : Bool) (hd : b = true ↔ ¬ dup is n) (hr : Rd w w.heap.size 1 A n (ints .i64 is)) (hok : okInts is) (hn : n ≤ 4294967296) :
    Calls Try.prog 62 #[.slice A n c] w (Gives (.bool b) w) := by
  have hl : is.length = n := by have := hr.len1; rw [ints_len] at this; exact this
  have HR := Lib.hid hr
  have HL := Lib.hid hl
  have HX := Lib.hid hok
  have HD := Lib.hid hd
  clear hr hl hok hd
  have HS := Seen.start is w
  obtain ⟨hz, hi⟩ := zero_of_info row_info
  have hsc := run_storeCells_new (P := Try.prog) w 61 row0 row0 (by rw [row0_size]; exact hi) rfl row0_one
  have hcs : (Value.agg row0).cells = row0 := rfl
  have hsz : row0.size = 1019 := row0_size
  obtain ⟨Z, hZ⟩ : ∃ Z, Z = row0 := ⟨_, rfl⟩
  rw [← hZ] at hsc hz HS hcs hsz
  clear hZ hi
  go_enter Try.func62, Try.ntmps62
  go_wp2
  go_loopw [10] (fun i wr => ∃ k : Nat, k ≤ n ∧ i = .int .i64 k ∧ Seen is w k wr ∧ ¬ dup is k) (fun i _ => n - (intOf i).toNat)
  case atStart => exact ⟨0, by omega, rfl, HS, fun ⟨_, _, _, h2, _⟩ => by omega⟩
  case round =>
    obtain ⟨k, hk, rfl, HSk, hF⟩ := hrel
    have HF := Lib.hid hF
    clear hF HS hsc hz hcs
    by_cases hlt : k < n
    · obtain ⟨g, off, rfl, hgl, hcell⟩ := (HR.out.below HSk.bel).at_ hlt
      obtain ⟨y0, y1⟩ := HX.out.get k
      obtain ⟨y, hy⟩ : ∃ y, y = is.getD k 0 := ⟨_, rfl⟩
      rw [← hy] at hcell y0 y1
      have HY := Lib.hid hy
      clear hy
      obtain ⟨r, hrr⟩ : ∃ r : Nat, (r : Int) = y % 1019 := ⟨(y % 1019).toNat, by omega⟩
      have hr1 : r < 1019 := by omega
      obtain ⟨hcr, hfr⟩ := HSk.at_ r hr1
      have hlk : k < is.length := by rw [HL.out]; exact hlt
      have hrk : (r : Int) = is.getD k 0 % 1019 := by rw [← HY.out]; exact hrr
      have HRR := Lib.hid hrr
      clear hrr
      cases hb : hit is k r with
      | true =>
        have HB := Lib.hid (hit_t hlk hrk hb)
        rw [hb] at hcr
        have HW := Lib.hid HSk.bel
        clear HSk hlk hrk
        have hbf : b = false := by
          cases hbb : b with
          | false => rfl
          | true => exact absurd (HL.out ▸ HB.out) (HD.out.1 hbb)
        subst hbf
        go_wp2_with fail
        (with_reducible refine (C1.implMod_in y 1019 _ y0 y1 (by omega) (by omega)).mono ?_); rintro e w2 ⟨rfl, rfl⟩
        rw [← HRR.out]
        go_wp2
        go_ret
        exact ⟨rfl, HW.out⟩
      | false =>
        have HB := Lib.hid (hit_f hlk hrk hb HF.out)
        have HN := Lib.hid (HSk.next hlk hrk)
        rw [hb] at hcr
        have hgs : w.heap.size < wr.heap.size := (HSk.own.lt _ rfl).2
        clear HSk hlk hrk
        go_wp2_with fail
        (with_reducible refine (C1.implMod_in y 1019 _ y0 y1 (by omega) (by omega)).mono ?_); rintro e w2 ⟨rfl, rfl⟩
        rw [← HRR.out]
        go_wp2
        go_roundw
        case rel => exact ⟨k + 1, by omega, by go_num, HN.out, HB.out⟩
        case measure => simp [intOf]; omega
    · obtain rfl : k = n := by omega
      have hbt : b = true := HD.out.2 HF.out
      subst hbt
      have HW := Lib.hid HSk.bel
      clear HSk
      go_wp2
      go_ret
      exact ⟨rfl, HW.out⟩
/-- The indices and the values of n shares in a flat row. -/
def ixs (xs : List Int) (n : Nat) : List Int := (List.range n).map fun k => xs.getD (k * 2) 0
def vls (xs : List Int) (n : Nat) : List Int := (List.range n).map fun k => xs.getD (k * 2 + 1) 0
theorem ixs_len (xs : List Int) (n : Nat) : (ixs xs n).length = n := by simp [ixs]
theorem vls_len (xs : List Int) (n : Nat) : (vls xs n).length = n := by simp [vls]
theorem ixs_get (xs : List Int) (n k : Nat) (hk : k < n) : (ixs xs n).getD k 0 = xs.getD (k * 2) 0 := by
  simp [ixs, List.getD_eq_getElem?_getD, List.getElem?_range hk]
theorem vls_get (xs : List Int) (n k : Nat) (hk : k < n) : (vls xs n).getD k 0 = xs.getD (k * 2 + 1) 0 := by
  simp [vls, List.getD_eq_getElem?_getD, List.getElem?_range hk]
theorem ixs_ok {xs : List Int} (h : okInts xs) (n : Nat) : okInts (ixs xs n) := by
  intro x hx
  unfold ixs at hx
  rw [List.mem_map] at hx
  obtain ⟨k, _, rfl⟩ := hx
  exact h.get _
theorem filled_next {E n k : Nat} {w wr w2 : World} {xs : List Int} {x : Int} (h : Filled E .i64 w n xs k wr) (hb : Below wr.heap.size wr w2) (hl : xs.length = n) (hk : k < n) (hx : x = xs.getD k 0) :
    Filled E .i64 w n xs (k + 1) (w2.setCell ⟨w.heap.size, k, none⟩ (.int .i64 x)) := by
  have h2 := ((own_below h.1 hb).stored k (.int .i64 x)).1
  rw [ints_put, hx, half_set xs k n hl hk] at h2
  exact ⟨by rw [hx]; exact h2, (h.2.trans (hb.mono h.2.size)).setCell (Nat.le_refl _) _⟩
theorem filled_alloc {E n k : Nat} {w wr : World} {xs : List Int} (h : Filled E .i64 w n xs k wr) (o : Obj) : Filled E .i64 w n xs k (wr.alloc o) :=
  ⟨own_below h.1 ((Below.refl _ _).alloc (Nat.le_refl _) o), h.2.alloc h.2.size o⟩
theorem difference (a b : Int) (w : World) (a0 : -9223372036854775808 ≤ a) (a1 : a ≤ 9223372036854775807) (b0 : -9223372036854775808 ≤ b) (b1 : b ≤ 9223372036854775807) :
    Calls Try.prog 69 #[.int .i64 a, .int .i64 b] w fun e w' => e = .returned (.int .i64 ((a - b) % 1019)) ∧ w = w' := by
  have HE := Lib.hid (Int.sub_emod a b 1019)
  go_enter Try.func69, Try.ntmps69
  go_wp2_with fail
  (with_reducible refine (C1.implMod_in a 1019 _ a0 a1 (by omega) (by omega)).mono ?_); rintro e w2 ⟨rfl, rfl⟩
  go_wp2_with fail
  (with_reducible refine (C1.implMod_in b 1019 _ b0 b1 (by omega) (by omega)).mono ?_); rintro e w2 ⟨rfl, rfl⟩
  obtain ⟨p, hp⟩ : ∃ p, p = a % 1019 := ⟨_, rfl⟩
  obtain ⟨q, hq⟩ : ∃ q, q = b % 1019 := ⟨_, rfl⟩
  have p0 : 0 ≤ p := by omega
  have p1 : p ≤ 1018 := by omega
  have q0 : 0 ≤ q := by omega
  have q1 : q ≤ 1018 := by omega
  rw [← hp, ← hq] at HE ⊢
  clear hp hq
  go_wp2_with fail
  (with_reducible refine (C1.implMod_in (p - q) 1019 _ (by omega) (by omega) (by omega) (by omega)).mono ?_); rintro e w2 ⟨rfl, rfl⟩
  rw [← HE.out]
  go_wp2
  go_ret
  exact ⟨rfl, rfl⟩
theorem weight_out (w : World) (k t : Int) (A : Option Addr) (n c : Nat) (is : List Int) (hl : is.length = n) (hn : n ≤ 4294967296) (hk : ¬ (0 ≤ k ∧ k < n)) :
    Calls Try.prog 64 #[.slice A n c, .int .i64 k, .int .i64 t] w (Gives (.int .i64 (lw is k t)) w) := by
  have HW := Lib.hid (lw_out (is := is) (k := k) t (by rw [hl]; exact hk))
  have h2 : k < 0 ∨ (n : Int) - 1 < k := by omega
  clear hk hl
  go_enter Try.func64, Try.ntmps64
  go_wp2_with fail
  (with_reducible refine (C1.implIn_f k 0 ((n : Int) - 1) _ h2).mono ?_); rintro e w1 ⟨rfl, rfl⟩
  go_wp2
  go_ret
  exact ⟨by rw [HW.out]; rfl, Below.refl _ _⟩
theorem weight_dup (w : World) (k : Nat) (t : Int) (A : Option Addr) (n c : Nat) (is : List Int) (hr : Rd w w.heap.size 1 A n (ints .i64 is)) (hok : okInts is) (hn : n ≤ 4294967296) (hk : k < n) (hd : dup is n) :
    Calls Try.prog 64 #[.slice A n c, .int .i64 (k : Int), .int .i64 t] w (Gives (.int .i64 (lw is k t)) w) := by
  have hl : is.length = n := by have := hr.len1; rw [ints_len] at this; exact this
  have HW := Lib.hid (lw_dup (is := is) (k := k) t (hl ▸ hd))
  have HR := Lib.hid hr
  have HX := Lib.hid hok
  have HD := Lib.hid hd
  clear hr hok hd hl
  go_enter Try.func64, Try.ntmps64
  go_wp2_with fail
  (with_reducible refine (C1.implIn_t k 0 ((n : Int) - 1) _ (by omega) (by omega)).mono ?_); rintro e w1 ⟨rfl, rfl⟩
  go_wp2_with fail
  (with_reducible refine (diff _ A n c is false ⟨fun h => (by cases h), fun h => absurd HD.out h⟩ HR.out HX.out hn).mono ?_); rintro e w1 ⟨rfl, b1⟩
  go_wp2
  go_ret
  exact ⟨by rw [HW.out]; rfl, b1⟩
theorem num_mod (is : List Int) (k : Nat) (t : Int) (j : Nat) (hj : j ≠ k) : num is k t j % 1019 * ((t - is.getD j 0) % 1019) % 1019 = num is k t (j + 1) % 1019 := by
  rw [← Int.mul_emod]
  simp only [num, if_neg hj]
theorem num_same (is : List Int) (k : Nat) (t : Int) : num is k t (k + 1) = num is k t k := by simp only [num, if_true]
theorem wt_inv (is : List Int) (k : Nat) (t : Int) (n : Nat) : num is k t n % 1019 * inv (den is k n % 1019 % 1019) % 1019 = wt is k t n := by
  rw [Int.emod_emod, inv_mod, ← Int.mul_emod]; rfl
set_option maxHeartbeats 1600000 in
set_option maxRecDepth 100000 in
theorem weight_in (w : World) (k : Nat) (t : Int) (ht0 : -9223372036854775808 ≤ t) (ht1 : t ≤ 9223372036854775807) (A : Option Addr) (n c : Nat) (is : List Int) (hr : Rd w w.heap.size 1 A n (ints .i64 is)) (hok : okInts is) (hn : n ≤ 4294967296) (hk : k < n) (hd : ¬ dup is n) :
    Calls Try.prog 64 #[.slice A n c, .int .i64 (k : Int), .int .i64 t] w (Gives (.int .i64 (lw is k t)) w) := by
  have hl : is.length = n := by have := hr.len1; rw [ints_len] at this; exact this
  have HW := Lib.hid (lw_t (is := is) (k := k) t (by rw [hl]; exact hk) (hl ▸ hd))
  have HR := Lib.hid hr
  have HL := Lib.hid hl
  have HX := Lib.hid hok
  have HD := Lib.hid hd
  clear hr hok hd hl
  go_enter Try.func64, Try.ntmps64
  go_wp2_with fail
  (with_reducible refine (C1.implIn_t k 0 ((n : Int) - 1) _ (by omega) (by omega)).mono ?_); rintro e w1 ⟨rfl, rfl⟩
  go_wp2_with fail
  (with_reducible refine (diff _ A n c is true ⟨fun _ => HD.out, fun _ => rfl⟩ HR.out HX.out hn).mono ?_); rintro e w1 ⟨rfl, b1⟩
  obtain ⟨bk, offk, rfl, hbk, hck⟩ := (HR.out.below b1).at_ (j := k) hk
  obtain ⟨x0, x1⟩ := HX.out.get k
  obtain ⟨x, hx⟩ : ∃ x, x = is.getD k 0 := ⟨_, rfl⟩
  rw [← hx] at hck x0 x1
  have HXK := Lib.hid hx
  clear hx
  have hki : (k : Int) < n := by omega
  go_wp2
  go_loop [7, 8, 24] (fun p q i => ∃ j : Nat, j ≤ n ∧ i = .int .i64 j ∧ p = .int .i64 (num is k t j % 1019) ∧ q = .int .i64 (num is k x j % 1019)) (fun _ _ i => n - (intOf i).toNat)
  case atStart => exact ⟨0, by omega, rfl, rfl, rfl⟩
  case round =>
    obtain ⟨j, hj, rfl, rfl, rfl⟩ := hrel
    obtain ⟨p, hp⟩ : ∃ p, p = num is k t j % 1019 := ⟨_, rfl⟩
    obtain ⟨q, hq⟩ : ∃ q, q = num is k x j % 1019 := ⟨_, rfl⟩
    have p0 : 0 ≤ p := by omega
    have p1 : p ≤ 1018 := by omega
    have q0 : 0 ≤ q := by omega
    have q1 : q ≤ 1018 := by omega
    by_cases hlt : j < n
    · obtain ⟨bj, offj, e, _, hcj⟩ := (HR.out.below b1).at_ hlt
      cases e
      obtain ⟨y0, y1⟩ := HX.out.get j
      obtain ⟨y, hy⟩ : ∃ y, y = is.getD j 0 := ⟨_, rfl⟩
      rw [← hy] at hcj y0 y1
      by_cases hjk : j = k
      · subst hjk
        have HS := Lib.hid (num_same is j t)
        have HS2 := Lib.hid (num_same is j x)
        rw [← hp, ← hq]
        have HP := Lib.hid hp
        have HQ := Lib.hid hq
        clear hp hq hy
        go_wp2
        go_round
        case rel => exact ⟨j + 1, by omega, by go_num, by rw [HS.out, HP.out], by rw [HS2.out, HQ.out]⟩
        case measure => simp [intOf]; omega
      · have hkb : ((j : Int) == (k : Int)) = false := by simp; omega
        have HM := Lib.hid (num_mod is k t j hjk)
        have HM2 := Lib.hid (num_mod is k x j hjk)
        rw [← hp, ← hy] at HM
        rw [← hq, ← hy] at HM2
        rw [← hp, ← hq]
        clear hp hq hy
        obtain ⟨m, hm⟩ : ∃ m, m = (t - y) % 1019 := ⟨_, rfl⟩
        obtain ⟨z, hz⟩ : ∃ z, z = (x - y) % 1019 := ⟨_, rfl⟩
        have m0 : 0 ≤ m := by omega
        have m1 : m ≤ 1018 := by omega
        have z0 : 0 ≤ z := by omega
        have z1 : z ≤ 1018 := by omega
        rw [← hm] at HM
        rw [← hz] at HM2
        have HMM := Lib.hid hm
        have HZZ := Lib.hid hz
        clear hm hz
        have n0 : 0 ≤ p * m := Int.mul_nonneg p0 m0
        have n1 : p * m ≤ 1018 * 1018 := Int.mul_le_mul p1 m1 m0 (by omega)
        have n2 : 0 ≤ q * z := Int.mul_nonneg q0 z0
        have n3 : q * z ≤ 1018 * 1018 := Int.mul_le_mul q1 z1 z0 (by omega)
        go_wp2_with fail
        (with_reducible refine (difference t y _ ht0 ht1 y0 y1).mono ?_); rintro e w2 ⟨rfl, rfl⟩
        rw [← HMM.out]
        go_wp2_with fail
        (with_reducible refine (difference x y _ x0 x1 y0 y1).mono ?_); rintro e w2 ⟨rfl, rfl⟩
        rw [← HZZ.out]
        go_wp2
        go_round
        case rel => exact ⟨j + 1, by omega, by go_num, by rw [HM.out], by rw [HM2.out]⟩
        case measure => simp [intOf]; omega
    · obtain rfl : j = n := by omega
      have HI := Lib.hid (wt_inv is k t j)
      have HDN := Lib.hid (show num is k x j = den is k j by rw [HXK.out]; rfl)
      rw [← HDN.out, ← hp, ← hq] at HI
      rw [← hp, ← hq]
      clear hp hq HDN
      go_wp2_with fail
      (with_reducible refine (C4c.implInv q _ (by omega) (by omega)).mono ?_); rintro e w2 ⟨rfl, b2⟩
      obtain ⟨i0, i1⟩ := inv_in (q % 1019)
      obtain ⟨v, hv⟩ : ∃ v, v = inv (q % 1019) := ⟨_, rfl⟩
      rw [← hv] at i0 i1 HI ⊢
      clear hv
      have n0 : 0 ≤ p * v := Int.mul_nonneg p0 i0
      have n1 : p * v ≤ 1018 * 1018 := Int.mul_le_mul p1 (by omega) i0 (by omega)
      go_wp2
      go_ret
      exact ⟨by rw [HW.out, HL.out, ← HI.out]; rfl, b1.trans (b2.mono b1.size)⟩
theorem weight (w : World) (k t : Int) (ht0 : -9223372036854775808 ≤ t) (ht1 : t ≤ 9223372036854775807) (A : Option Addr) (n c : Nat) (is : List Int) (hr : Rd w w.heap.size 1 A n (ints .i64 is)) (hok : okInts is) (hn : n ≤ 4294967296) :
    Calls Try.prog 64 #[.slice A n c, .int .i64 k, .int .i64 t] w (Gives (.int .i64 (lw is k t)) w) := by
  have hl : is.length = n := by have := hr.len1; rw [ints_len] at this; exact this
  by_cases hk : 0 ≤ k ∧ k < n
  · obtain ⟨j, rfl⟩ : ∃ j : Nat, k = j := ⟨k.toNat, by omega⟩
    by_cases hd : dup is n
    · exact weight_dup w j t A n c is hr hok hn (by omega) hd
    · exact weight_in w j t ht0 ht1 A n c is hr hok hn (by omega) hd
  · exact weight_out w k t A n c is hl hn hk
end Go.Proofs.Ytlndcfpcgcdmgaa.C5b
