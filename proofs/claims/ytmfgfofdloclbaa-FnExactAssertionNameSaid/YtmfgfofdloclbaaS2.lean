/-
  Contracts of functions that compare two slices of numbers, whatever their lengths; a slice of bytes as a string.
-/
import Derived.Test.YtmfgfofdloclbaaS1
import Derived.Laws.BytesArg
namespace Go.Proofs.Ytmfgfofdloclbaa.S2
open Go.ChangeShapes Go.WideShapes Go.ChangeAt Go.RowKit
open S0
set_option linter.unusedVariables false
theorem ne_len {xs ys : List Int} (h : xs.length ≠ ys.length) : decide (xs = ys) = false := by
  simp only [decide_eq_false_iff_not]
  intro e
  exact h (by rw [e])
theorem ne_at {xs ys : List Int} (k : Nat) (h : ¬ xs.getD k 0 = ys.getD k 0) : decide (xs = ys) = false := by
  simp only [decide_eq_false_iff_not]
  intro e
  exact h (by rw [e])
theorem eq_all {xs ys : List Int} (h : xs.length = ys.length) (hk : ∀ k, k < xs.length → xs.getD k 0 = ys.getD k 0) : decide (xs = ys) = true := by
  simp only [decide_eq_true_eq]
  refine List.ext_getElem h fun i h1 h2 => ?_
  have := hk i h1
  rw [List.getD_eq_getElem?_getD, List.getD_eq_getElem?_getD, List.getElem?_eq_getElem h1, List.getElem?_eq_getElem h2] at this
  simpa using this
theorem ret_bool {a b : Bool} (h : a = b) : Ending.returned (.bool a) = .returned (.bool b) := by rw [h]
set_option maxHeartbeats 400000 in
theorem eqIntS (w : World) (A B : Option Addr) (n m c d : Nat) (xs ys : List Int) (ha : Rd w w.heap.size 1 A n (ints .i64 xs)) (hb : Rd w w.heap.size 1 B m (ints .i64 ys)) (hn : n ≤ 4294967296) (hm : m ≤ 4294967296) :
    Calls Try.prog 10 #[.slice A n c, .slice B m d] w (Gives (.bool (decide (xs = ys))) w) := by
  have hla : xs.length = n := by have := ha.len1; rw [ints_len] at this; exact this
  have hlb : ys.length = m := by have := hb.len1; rw [ints_len] at this; exact this
  have HA := Lib.hid ha
  have HB := Lib.hid hb
  by_cases hnm : n = m
  · subst hnm
    have HLA := Lib.hid hla
    have HLB := Lib.hid hlb
    clear ha hb hla hlb
    go_enter Try.func10, Try.ntmps10
    go_wp2
    go_loopw [5] (fun i wr => ∃ k : Nat, k ≤ n ∧ i = .int .i64 k ∧ (∀ j, j < k → xs.getD j 0 = ys.getD j 0) ∧ Below w.heap.size w wr) (fun i _ => n - (intOf i).toNat)
    case atStart => exact ⟨0, by omega, rfl, fun j hj => by omega, Below.refl _ _⟩
    case round =>
      obtain ⟨k, hk, rfl, hall, HW⟩ := hrel
      have HALL := Lib.hid hall
      clear hall
      by_cases hlt : k < n
      · obtain ⟨b, off, rfl, hb, hcell⟩ := (HA.out.below HW).at_ hlt
        obtain ⟨b2, off2, rfl, hb2, hcell2⟩ := (HB.out.below HW).at_ hlt
        obtain ⟨x, hx⟩ : ∃ x, x = xs.getD k 0 := ⟨_, rfl⟩
        obtain ⟨y, hy⟩ : ∃ y, y = ys.getD k 0 := ⟨_, rfl⟩
        rw [← hx] at hcell
        rw [← hy] at hcell2
        by_cases he : x = y
        · have HE := Lib.hid (hx.symm.trans (he.trans hy))
          subst he
          clear hx hy
          go_wp2
          go_quiet (fail)
          go_wp2
          go_roundw
          case rel =>
            refine ⟨k + 1, by omega, by go_num, fun j hj => ?_, HW.trans (drewN_below _ _ _)⟩
            by_cases hjk : j < k
            · exact HALL.out j hjk
            · obtain rfl : j = k := by omega
              exact HE.out
          case measure => simp [intOf]; omega
        · have hne : (x != y) = true := by simpa using he
          have HE := Lib.hid (ne_at (xs := xs) (ys := ys) k (by rw [← hx, ← hy]; exact he))
          clear hx hy he
          go_wp2
          go_quiet (fail)
          go_wp2
          go_ret
          exact ⟨ret_bool HE.out.symm, HW.trans (drewN_below _ _ _)⟩
      · have hd : decide (k < n) = false := by simp; omega
        have HE := Lib.hid (eq_all (xs := xs) (ys := ys) (by rw [HLA.out, HLB.out]) (fun j hj => HALL.out j (by have := HLA.out; omega)))
        go_wp2
        go_ret
        exact ⟨ret_bool HE.out.symm, HW⟩
  · have hne : ((n : Int) != (m : Int)) = true := by simp; omega
    have HE := Lib.hid (ne_len (xs := xs) (ys := ys) (by omega))
    clear ha hb hla hlb
    go_enter Try.func10, Try.ntmps10
    go_wp2
    go_ret
    exact ⟨ret_bool HE.out.symm, Below.refl _ _⟩
theorem eqIntS_t (w : World) (A B : Option Addr) (n c d : Nat) (xs : List Int) (ha : Rd w w.heap.size 1 A n (ints .i64 xs)) (hb : Rd w w.heap.size 1 B n (ints .i64 xs)) (hn : n ≤ 4294967296) :
    Calls Try.prog 10 #[.slice A n c, .slice B n d] w (Gives (.bool true) w) := by
  have h := eqIntS w A B n n c d xs xs ha hb hn hn
  rw [decide_eq_true rfl] at h
  exact h
theorem conv_rd {w : World} {hi n c : Nat} {A : Option Addr} {xs : List Int} (h : Rd w hi 1 A n (ints .u8 xs)) : (convert 43 9 (.slice A n c)).run Try.prog w = .ok (.string (strOfNums xs)) w := by
  have hl : xs.length = n := by have := h.len1; rw [ints_len] at this; exact this
  by_cases hn : n = 0
  · subst hn
    have hx : xs = [] := List.eq_nil_of_length_eq_zero hl
    subst hx
    rw [run_convert_bytes_string w 43 9 5 _ 0 c Try.underlying43 Try.underlying5 Try.underlying9]
    cases A with
    | none => simp [Conv.bytesToString]; rfl
    | some a => simp [Conv.bytesToString, loadCells, loadCellsFrom]; rfl
  · obtain ⟨b, off, rfl, _, hc⟩ := h.2 (by omega)
    exact run_convert_bytes_arg w 43 5 Try.underlying43 Try.underlying5 b off n c xs hl (fun i hi => by rw [hc i (by omega), ints_get .u8 xs i (by omega)]) 9 Try.underlying9
end Go.Proofs.Ytmfgfofdloclbaa.S2
