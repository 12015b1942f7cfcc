/-
  Contracts of chapter 4's powers, of the program and of the model.
-/
import Derived.Test.YtlndcfpcgcdmgaaS2
import Derived.Test.YtlndcfpcgcdmgaaC0
import Derived.Test.YtlndcfpcgcdmgaaC1
import Derived.Test.YtlndcfpcgcdmgaaC3
import Derived.Test.YtlndcfpcgcdmgaaM4
import Derived.Deep.WholeRow
namespace Go.Proofs.Ytlndcfpcgcdmgaa.C4
open Go.ChangeShapes Go.WideShapes Go.ChangeAt Go.RowKit
open S0 S1 M4
set_option linter.unusedVariables false
theorem and1 (n : Int) : bits .and .i64 n 1 = n % 2 := by
  have h1 : (BitVec.ofInt 64 1).toNat = 2 ^ 1 - 1 := by decide
  have key : (BitVec.ofInt 64 n &&& BitVec.ofInt 64 1).toNat = (n % ((2 ^ 64 : Nat) : Int)).toNat % 2 ^ 1 := by
    rw [BitVec.toNat_and, BitVec.toNat_ofInt, h1, Nat.and_two_pow_sub_one_eq_mod]
  show IntKind.i64.wrap ((BitVec.ofInt 64 n &&& BitVec.ofInt 64 1).toNat : Nat) = n % 2
  rw [key, IntKind.wrap_i64]
  omega
/-- In the midst of a power by squaring. -/
def Half (g0 : Int) (n0 : Nat) (g : Int) (n : Nat) (o : Int) : Prop := 0 ≤ g ∧ g ≤ 2038 ∧ 0 ≤ o ∧ o ≤ 2038 ∧ n ≤ n0 ∧ o * g ^ n % 2039 = pm 2039 g0 n0
theorem Half.odd {g0 g o : Int} {n0 n : Nat} (h : Half g0 n0 g n o) (hn : n % 2 = 1) : Half g0 n0 (g * g % 2039) (n / 2) (o * g % 2039) := by
  obtain ⟨_, _, _, _, h5, h6⟩ := h
  have a := Int.emod_nonneg (g * g) (show (2039 : Int) ≠ 0 by omega)
  have b := Int.emod_lt_of_pos (g * g) (show (0 : Int) < 2039 by omega)
  have c := Int.emod_nonneg (o * g) (show (2039 : Int) ≠ 0 by omega)
  have d := Int.emod_lt_of_pos (o * g) (show (0 : Int) < 2039 by omega)
  exact ⟨a, by omega, c, by omega, by omega, by rw [half_odd _ _ _ _ hn, h6]⟩
theorem Half.even {g0 g o : Int} {n0 n : Nat} (h : Half g0 n0 g n o) (hn : n % 2 = 0) : Half g0 n0 (g * g % 2039) (n / 2) o := by
  obtain ⟨_, _, h3, h4, h5, h6⟩ := h
  have a := Int.emod_nonneg (g * g) (show (2039 : Int) ≠ 0 by omega)
  have b := Int.emod_lt_of_pos (g * g) (show (0 : Int) < 2039 by omega)
  exact ⟨a, by omega, h3, h4, by omega, by rw [half_even _ _ _ _ hn, h6]⟩
theorem Half.done {g0 g o : Int} {n0 : Nat} (h : Half g0 n0 g 0 o) : o = pm 2039 g0 n0 := by
  obtain ⟨_, _, h3, h4, _, h6⟩ := h
  rw [Int.pow_zero, Int.mul_one, Int.emod_eq_of_lt h3 (by omega)] at h6
  exact h6
set_option maxHeartbeats 800000 in
set_option maxRecDepth 100000 in
theorem l4Pow (g0 : Int) (n0 : Nat) (w : World) (h0 : 0 ≤ g0) (h1 : g0 ≤ 2038) (hn : n0 ≤ 1048576) :
    Calls Try.prog 55 #[.int .i64 g0, .int .i64 n0] w fun e w' => e = .returned (.int .i64 (pm 2039 g0 n0)) ∧ w = w' := by
  have HH : Half g0 n0 g0 n0 1 := ⟨h0, h1, by omega, by omega, Nat.le_refl _, by rw [Int.one_mul]; rfl⟩
  go_enter Try.func55, Try.ntmps55
  go_wp2
  go_loop [0, 1, 5] (fun gv nv ov => ∃ (g : Int) (n : Nat) (o : Int), gv = .int .i64 g ∧ nv = .int .i64 n ∧ ov = .int .i64 o ∧ Half g0 n0 g n o) (fun _ nv _ => (intOf nv).toNat)
  case atStart => exact ⟨g0, n0, 1, rfl, rfl, rfl, HH⟩
  case round =>
    obtain ⟨g, n, o, rfl, rfl, rfl, hH⟩ := hrel
    have H := Lib.hid hH
    obtain ⟨g1, g2, o1, o2, n1, _⟩ := hH
    have m0 : 0 ≤ g * g := Int.mul_nonneg g1 g1
    have m1 : g * g ≤ 2038 * 2038 := Int.mul_le_mul (by omega) (by omega) g1 (by omega)
    have m2 : 0 ≤ o * g := Int.mul_nonneg o1 g1
    have m3 : o * g ≤ 2038 * 2038 := Int.mul_le_mul (by omega) (by omega) g1 (by omega)
    have ha := and1 (n : Int)
    by_cases hlt : 0 < n
    · by_cases ho : n % 2 = 1
      · have ho' : (n : Int) % 2 = 1 := by omega
        rw [ho'] at ha
        go_wp2
        go_round
        case rel => exact ⟨_, n / 2, _, rfl, by simp, rfl, H.out.odd ho⟩
        case measure => simp [intOf]; omega
      · have ho' : (n : Int) % 2 = 0 := by omega
        have hn2 : n % 2 = 0 := by omega
        rw [ho'] at ha
        go_wp2
        go_round
        case rel => exact ⟨_, n / 2, _, rfl, by simp, rfl, H.out.even hn2⟩
        case measure => simp [intOf]; omega
    · obtain rfl : n = 0 := by omega
      go_wp2
      go_ret
      exact ⟨by rw [H.out.done]; rfl, rfl⟩
def P2 (b m : Int) (j : Nat) : Int := pm m b (2 ^ j)
def sqrow (b m : Int) (k : Nat) : List Int := (List.range 10).map fun j => if j < k then P2 b m j else 0
theorem sqrow_len (b m : Int) (k : Nat) : (sqrow b m k).length = 10 := by simp [sqrow]
theorem sqrow_get (b m : Int) (k j : Nat) (hj : j < 10) : (sqrow b m k).getD j 0 = if j < k then P2 b m j else 0 := by
  unfold sqrow
  rw [List.getD_eq_getElem?_getD, List.getElem?_map, List.getElem?_range hj]
  rfl
theorem sqrow_set (b m : Int) (k : Nat) (hk : k < 10) : (sqrow b m k).set k (P2 b m k) = sqrow b m (k + 1) := by
  refine List.ext_getElem (by simp [sqrow]) fun i h1 h2 => ?_
  rw [List.getElem_set]
  simp only [sqrow, List.getElem_map, List.getElem_range]
  split
  · next h => subst h; rw [if_pos (by omega)]
  · next h => by_cases h3 : i < k
              · rw [if_pos h3, if_pos (by omega)]
              · rw [if_neg h3, if_neg (by omega)]
theorem P2_in (b m : Int) (j : Nat) (hm : 0 < m) (hm2 : m ≤ 2039) : 0 ≤ P2 b m j ∧ P2 b m j ≤ 2038 := by
  have := pm_in m b (2 ^ j) hm
  unfold P2; omega
theorem P2_next (b m : Int) (k : Nat) : P2 b m k * P2 b m k % m = P2 b m (k + 1) := sq_next m b k
/-- Behind k squares: the row lies in the call's second block. -/
structure Sq (b m : Int) (w : World) (k : Nat) (wr : World) : Prop where
  own : wr.ownsRow (w.heap.size + 1) 59 1 (.slice (some ⟨w.heap.size + 1, 0, none⟩) 10 10) 10 (ints .i64 (sqrow b m k))
  bel : Below w.heap.size w wr
  res : wr.ownsRow w.heap.size 59 1 (.slice (some ⟨w.heap.size, 0, none⟩) 10 10) 10 (ints .i64 (List.replicate 10 0))
theorem Sq.at_ {b m : Int} {w wr : World} {k : Nat} (h : Sq b m w k wr) (j : Nat) (hj : j < 10) : wr.cell? ⟨w.heap.size + 1, j, none⟩ = some (.int .i64 ((sqrow b m k).getD j 0)) := by
  have h2 := h.own.cellAt j (by omega)
  rw [ints_get _ _ _ (by rw [sqrow_len]; exact hj)] at h2
  exact h2
theorem Sq.start (b m : Int) (w : World) (h0 : 0 ≤ b) (h1 : b < m) : Sq b m w 1 ((w.alloc (.cells #[.int .i64 0, .int .i64 0, .int .i64 0, .int .i64 0, .int .i64 0, .int .i64 0, .int .i64 0, .int .i64 0, .int .i64 0, .int .i64 0] 59)).alloc (.cells #[.int .i64 b, .int .i64 0, .int .i64 0, .int .i64 0, .int .i64 0, .int .i64 0, .int .i64 0, .int .i64 0, .int .i64 0, .int .i64 0] 59)) := by
  have e : P2 b m 0 = b := pm_one m b h0 h1
  refine ⟨?_, ((Below.refl _ _).alloc (Nat.le_refl _) _).alloc (by simp) _, ?_⟩
  · have h := own_lit (w.alloc (.cells #[.int .i64 0, .int .i64 0, .int .i64 0, .int .i64 0, .int .i64 0, .int .i64 0, .int .i64 0, .int .i64 0, .int .i64 0, .int .i64 0] 59)) #[.int .i64 b, .int .i64 0, .int .i64 0, .int .i64 0, .int .i64 0, .int .i64 0, .int .i64 0, .int .i64 0, .int .i64 0, .int .i64 0] 10 (w.heap.size + 1) 59 (by simp) rfl (by unfold maxLen; omega)
    have e2 : sqrow b m 1 = [b, 0, 0, 0, 0, 0, 0, 0, 0, 0] := by
      have : sqrow b m 1 = [P2 b m 0, 0, 0, 0, 0, 0, 0, 0, 0, 0] := rfl
      rw [this, e]
    rw [e2]
    simpa [ints] using h
  · exact (own_lit w #[.int .i64 0, .int .i64 0, .int .i64 0, .int .i64 0, .int .i64 0, .int .i64 0, .int .i64 0, .int .i64 0, .int .i64 0, .int .i64 0] 10 w.heap.size 59 (Nat.le_refl _) rfl (by unfold maxLen; omega)).alloc _
theorem Sq.next {b m x : Int} {w wr : World} {k : Nat} (h : Sq b m w (k + 1) wr) (hk : k < 9) (hx : x = P2 b m k) : Sq b m w (k + 2) (wr.setCell ⟨w.heap.size + 1, k + 1, none⟩ (.int .i64 (x * x % m))).drew := by
  obtain ⟨ho, hb, hr⟩ := h
  have hv : x * x % m = P2 b m (k + 1) := by rw [hx, P2_next]
  rw [hv]
  have hd : ∀ (wx : World) (B : Nat), Below B wx wx.drew := fun _ _ => ⟨rfl, rfl, rfl, Nat.le_refl _, fun _ _ => rfl⟩
  refine ⟨?_, (hb.setCell (by simp) _).trans (hd _ _), ?_⟩
  · have h := (ho.stored (k + 1) (.int .i64 (P2 b m (k + 1)))).1
    rw [ints_put, sqrow_set b m (k + 1) (by omega)] at h
    exact own_below h (hd _ _)
  · refine own_below (hr.kept (row := some (w.heap.size + 1)) ?_ (by simp [Value.ownBlock])) (hd _ _)
    exact ⟨rfl, rfl, rfl, by simp, fun j _ hj => Below.heap_setCell wr ⟨w.heap.size + 1, k + 1, none⟩ _ j (fun e => hj (by rw [e]))⟩
set_option maxHeartbeats 800000 in
set_option maxRecDepth 100000 in
theorem squares (b m : Int) (w : World) (h0 : 0 ≤ b) (h1 : b < m) (hm : m ≤ 2039) :
    Calls Try.prog 68 #[.int .i64 b, .int .i64 m] w fun e w' => e = .returned (.agg (ints .i64 (sqrow b m 10)).toArray) ∧ Below w.heap.size w w' := by
  have HS := Sq.start b m w h0 h1
  go_enter Try.func68, Try.ntmps68
  go_wp2
  go_loopw [6] (fun i wr => ∃ k : Nat, k ≤ 9 ∧ i = .int .i64 ((k : Int) + 1) ∧ Sq b m w (k + 1) wr) (fun i _ => 10 - (intOf i).toNat)
  case atStart => exact ⟨0, by omega, rfl, HS⟩
  case round =>
    obtain ⟨k, hk, rfl, hS⟩ := hrel
    by_cases hlt : k < 9
    · have hc := hS.at_ k (by omega)
      have hc2 := hS.at_ (k + 1) (by omega)
      obtain ⟨hg, hbase, hold, hf⟩ := stored_at hS.own (k + 1) (by omega)
      rw [sqrow_get _ _ _ _ (by omega), if_pos (by omega)] at hc
      obtain ⟨hx0, hx1⟩ := P2_in b m k (by omega) hm
      obtain ⟨x, hx⟩ : ∃ x, x = P2 b m k := ⟨_, rfl⟩
      rw [← hx] at hc hx0 hx1
      have HX := Lib.hid hx
      have H := Lib.hid hS
      clear hx hS hold hbase
      have m0 : 0 ≤ x * x := Int.mul_nonneg hx0 hx0
      have m1 : x * x ≤ 2038 * 2038 := Int.mul_le_mul (by omega) (by omega) hx0 (by omega)
      have hmp : 0 < m := by omega
      go_wp2
      go_region
      go_wp2
      go_roundw
      case rel => exact ⟨k + 1, by omega, by go_num, H.out.next hlt HX.out⟩
      case measure => simp [intOf]; omega
    · obtain rfl : k = 9 := by omega
      have H := Lib.hid hS
      have c0 : wr.cell? ⟨w.heap.size + 1, 0, none⟩ = some (.int .i64 (P2 b m 0)) := hS.at_ 0 (by omega)
      have c1 : wr.cell? ⟨w.heap.size + 1, 1, none⟩ = some (.int .i64 (P2 b m 1)) := hS.at_ 1 (by omega)
      have c2 : wr.cell? ⟨w.heap.size + 1, 2, none⟩ = some (.int .i64 (P2 b m 2)) := hS.at_ 2 (by omega)
      have c3 : wr.cell? ⟨w.heap.size + 1, 3, none⟩ = some (.int .i64 (P2 b m 3)) := hS.at_ 3 (by omega)
      have c4 : wr.cell? ⟨w.heap.size + 1, 4, none⟩ = some (.int .i64 (P2 b m 4)) := hS.at_ 4 (by omega)
      have c5 : wr.cell? ⟨w.heap.size + 1, 5, none⟩ = some (.int .i64 (P2 b m 5)) := hS.at_ 5 (by omega)
      have c6 : wr.cell? ⟨w.heap.size + 1, 6, none⟩ = some (.int .i64 (P2 b m 6)) := hS.at_ 6 (by omega)
      have c7 : wr.cell? ⟨w.heap.size + 1, 7, none⟩ = some (.int .i64 (P2 b m 7)) := hS.at_ 7 (by omega)
      have c8 : wr.cell? ⟨w.heap.size + 1, 8, none⟩ = some (.int .i64 (P2 b m 8)) := hS.at_ 8 (by omega)
      have c9 : wr.cell? ⟨w.heap.size + 1, 9, none⟩ = some (.int .i64 (P2 b m 9)) := hS.at_ 9 (by omega)
      obtain ⟨_, _, d0, f0⟩ := stored_at hS.res 0 (by omega)
      obtain ⟨_, _, d1, f1⟩ := stored_at hS.res 1 (by omega)
      obtain ⟨_, _, d2, f2⟩ := stored_at hS.res 2 (by omega)
      obtain ⟨_, _, d3, f3⟩ := stored_at hS.res 3 (by omega)
      obtain ⟨_, _, d4, f4⟩ := stored_at hS.res 4 (by omega)
      obtain ⟨_, _, d5, f5⟩ := stored_at hS.res 5 (by omega)
      obtain ⟨_, _, d6, f6⟩ := stored_at hS.res 6 (by omega)
      obtain ⟨_, _, d7, f7⟩ := stored_at hS.res 7 (by omega)
      obtain ⟨_, _, d8, f8⟩ := stored_at hS.res 8 (by omega)
      obtain ⟨_, _, d9, f9⟩ := stored_at hS.res 9 (by omega)
      clear HS hS
      go_wp2
      have hb := H.out.bel
      refine bodyPost_ret (v := .agg #[.int .i64 (P2 b m 0), .int .i64 (P2 b m 1), .int .i64 (P2 b m 2), .int .i64 (P2 b m 3), .int .i64 (P2 b m 4), .int .i64 (P2 b m 5), .int .i64 (P2 b m 6), .int .i64 (P2 b m 7), .int .i64 (P2 b m 8), .int .i64 (P2 b m 9)]) (by simp [results, Try.results68, go_sem, d0, d1, d2, d3, d4, d5, d6, d7, d8, d9]) rfl ⟨rfl, ?_⟩
      exact ((((((((((hb.setCell (Nat.le_refl _) _).setCell (Nat.le_refl _) _).setCell (Nat.le_refl _) _).setCell (Nat.le_refl _) _).setCell (Nat.le_refl _) _).setCell (Nat.le_refl _) _).setCell (Nat.le_refl _) _).setCell (Nat.le_refl _) _).setCell (Nat.le_refl _) _).setCell (Nat.le_refl _) _)
theorem bit_cast (n k : Nat) : (n : Int) / 2 ^ k % 2 = ((n / 2 ^ k % 2 : Nat) : Int) := by simp
theorem index0 (b m : Int) (w : World) : (Instr.index 59 (.agg (ints .i64 (sqrow b m 10)).toArray) (.int .i64 0)).run Try.prog w = .ok (.int .i64 (P2 b m 0)) w := by kernel_rfl
theorem index1 (b m : Int) (w : World) : (Instr.index 59 (.agg (ints .i64 (sqrow b m 10)).toArray) (.int .i64 1)).run Try.prog w = .ok (.int .i64 (P2 b m 1)) w := by kernel_rfl
theorem index2 (b m : Int) (w : World) : (Instr.index 59 (.agg (ints .i64 (sqrow b m 10)).toArray) (.int .i64 2)).run Try.prog w = .ok (.int .i64 (P2 b m 2)) w := by kernel_rfl
theorem index3 (b m : Int) (w : World) : (Instr.index 59 (.agg (ints .i64 (sqrow b m 10)).toArray) (.int .i64 3)).run Try.prog w = .ok (.int .i64 (P2 b m 3)) w := by kernel_rfl
theorem index4 (b m : Int) (w : World) : (Instr.index 59 (.agg (ints .i64 (sqrow b m 10)).toArray) (.int .i64 4)).run Try.prog w = .ok (.int .i64 (P2 b m 4)) w := by kernel_rfl
theorem index5 (b m : Int) (w : World) : (Instr.index 59 (.agg (ints .i64 (sqrow b m 10)).toArray) (.int .i64 5)).run Try.prog w = .ok (.int .i64 (P2 b m 5)) w := by kernel_rfl
theorem index6 (b m : Int) (w : World) : (Instr.index 59 (.agg (ints .i64 (sqrow b m 10)).toArray) (.int .i64 6)).run Try.prog w = .ok (.int .i64 (P2 b m 6)) w := by kernel_rfl
theorem index7 (b m : Int) (w : World) : (Instr.index 59 (.agg (ints .i64 (sqrow b m 10)).toArray) (.int .i64 7)).run Try.prog w = .ok (.int .i64 (P2 b m 7)) w := by kernel_rfl
theorem index8 (b m : Int) (w : World) : (Instr.index 59 (.agg (ints .i64 (sqrow b m 10)).toArray) (.int .i64 8)).run Try.prog w = .ok (.int .i64 (P2 b m 8)) w := by kernel_rfl
theorem index9 (b m : Int) (w : World) : (Instr.index 59 (.agg (ints .i64 (sqrow b m 10)).toArray) (.int .i64 9)).run Try.prog w = .ok (.int .i64 (P2 b m 9)) w := by kernel_rfl
theorem index_row (b m : Int) (j : Nat) (hj : j < 10) (w : World) : (Instr.index 59 (.agg (ints .i64 (sqrow b m 10)).toArray) (.int .i64 (j : Int))).run Try.prog w = .ok (.int .i64 (P2 b m j)) w := by
  have h : j = 0 ∨ j = 1 ∨ j = 2 ∨ j = 3 ∨ j = 4 ∨ j = 5 ∨ j = 6 ∨ j = 7 ∨ j = 8 ∨ j = 9 := by omega
  rcases h with rfl | rfl | rfl | rfl | rfl | rfl | rfl | rfl | rfl | rfl
  · exact index0 b m w
  · exact index1 b m w
  · exact index2 b m w
  · exact index3 b m w
  · exact index4 b m w
  · exact index5 b m w
  · exact index6 b m w
  · exact index7 b m w
  · exact index8 b m w
  · exact index9 b m w
set_option maxHeartbeats 800000 in
set_option maxRecDepth 100000 in
theorem power (b m : Int) (n : Nat) (w : World) (h0 : 0 ≤ b) (h1 : b < m) (hm1 : 1 < m) (hm : m ≤ 2039) (hn : n < 1024) :
    Calls Try.prog 58 #[.int .i64 b, .int .i64 n, .int .i64 m] w fun e w' => e = .returned (.int .i64 (pm m b n)) ∧ Below w.heap.size w w' := by
  go_enter Try.func58, Try.ntmps58
  go_wp2_with fail
  (with_reducible refine (squares b m _ h0 h1 hm).mono ?_); rintro e w1 ⟨rfl, b1⟩
  have HI := Lib.hid (index_row b m)
  obtain ⟨arr, harr⟩ : ∃ arr, arr = (ints .i64 (sqrow b m 10)).toArray := ⟨_, rfl⟩
  rw [← harr] at HI ⊢
  clear harr
  go_wp2
  go_loop [7, 13] (fun v i => ∃ (k : Nat), k ≤ 10 ∧ i = .int .i64 k ∧ v = .int .i64 (pm m b (n % 2 ^ k))) (fun _ i => 10 - (intOf i).toNat)
  case atStart => exact ⟨0, by omega, rfl, by rw [show n % 2 ^ 0 = 0 by omega, pm_zero m b hm1]⟩
  case round =>
    obtain ⟨k, hk, rfl, rfl⟩ := hrel
    by_cases hlt : k < 10
    · have hi := HI.out k hlt
      obtain ⟨x0, x1⟩ := P2_in b m k (by omega) hm
      obtain ⟨q0, q1⟩ := pm_in m b (n % 2 ^ k) (by omega)
      obtain ⟨x, hx⟩ : ∃ x, x = P2 b m k := ⟨_, rfl⟩
      obtain ⟨q, hq⟩ : ∃ q, q = pm m b (n % 2 ^ k) := ⟨_, rfl⟩
      rw [← hx] at hi x0 x1
      rw [← hq] at q0 q1 ⊢
      have HX := Lib.hid hx
      have HQ := Lib.hid hq
      clear hx hq
      have m0 : 0 ≤ q * x := Int.mul_nonneg q0 x0
      have m1 : q * x ≤ 2038 * 2038 := Int.mul_le_mul (by omega) (by omega) x0 (by omega)
      have hmp : 0 < m := by omega
      by_cases hb : n / 2 ^ k % 2 = 1
      · have ha : bits .and .i64 ((n : Int) / 2 ^ k) 1 = 1 := by rw [and1]; have := bit_cast n k; omega
        have HE := Lib.hid (bit_yes m b n k hb)
        clear hb
        go_wp2
        go_round
        case rel => exact ⟨k + 1, by omega, by go_num, by rw [← HE.out, HX.out, HQ.out]; rfl⟩
        case measure => simp [intOf]; omega
      · have hb0 : n / 2 ^ k % 2 = 0 := by omega
        have ha : bits .and .i64 ((n : Int) / 2 ^ k) 1 = 0 := by rw [and1]; have := bit_cast n k; omega
        have HE := Lib.hid (bit_no m b n k hb0)
        clear hb hb0
        go_wp2
        go_round
        case rel => exact ⟨k + 1, by omega, by go_num, by rw [← HE.out, HQ.out]⟩
        case measure => simp [intOf]; omega
    · obtain rfl : k = 10 := by omega
      have e : n % 2 ^ 10 = n := by omega
      rw [e]
      go_wp2
      go_ret
      exact ⟨rfl, b1⟩
end Go.Proofs.Ytlndcfpcgcdmgaa.C4
