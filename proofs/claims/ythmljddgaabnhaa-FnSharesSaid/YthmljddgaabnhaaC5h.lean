/-
  Contracts of chapter 5's shares, of the model: MissingShare.
-/
import Derived.Test.YthmljddgaabnhaaC5g
namespace Go.Proofs.Ythmljddgaabnhaa.C5h
open Go.ChangeShapes Go.WideShapes Go.ChangeAt Go.RowKit
open S0 S1 S3 C3 M4 M5 C5 C5b C5c C5d C5e C5f C5g M6
set_option linter.unusedVariables false
theorem zero_ok : okInts [(0 : Int)] := okInts.one (by omega) (by omega)
set_option maxHeartbeats 1600000 in
set_option maxRecDepth 100000 in
theorem specMissing_fa (w : World) (s i : Int) (A : Option Addr) (n c : Nat) (xs : List Int) (hr : Rd w w.heap.size 2 A n (ints .i64 xs)) (hok : okInts xs) (hn : 0 < n) (hn2 : n ≤ 4294967296) (ha : ¬ are xs n) :
    Calls Try.prog 33 #[.slice A n c, .int .i64 s, .int .i64 i] w (Gives (.tuple #[.agg #[.int .i64 0, .int .i64 0], .bool false]) w) := by
  have HR := Lib.hid hr
  have HX := Lib.hid hok
  have hb0 : Below w.heap.size w (w.alloc (.cells #[.int .i64 0, .int .i64 0] 34)) := (Below.refl _ _).alloc (Nat.le_refl _) _
  have hz0 : (w.alloc (.cells #[.int .i64 0, .int .i64 0] 34)).heap.size = w.heap.size + 1 := by simp
  clear hr hok
  have HA := Lib.hid ha
  clear ha
  go_enter Try.func33, Try.ntmps33
  go_wp2_with fail
  (with_reducible refine (specAre _ A n c xs false ⟨fun h => (by cases h), fun h => absurd h HA.out⟩ (HR.out.on hb0) HX.out hn2).mono ?_); rintro e w1 ⟨rfl, b1⟩
  obtain ⟨g0, g1, g2, g3, g4⟩ := box_at (w := w) (w' := w1) ((hz0 ▸ b1))
  have HW := Lib.hid (show Below w.heap.size w w1 from hb0.trans (b1.mono hb0.size))
  clear b1 hb0
  go_wp2
  obtain ⟨d0, d1⟩ := set2 w1 w.heap.size (.int .i64 0) (.int .i64 0) g0 g1 g2
  refine bodyPost_ret (v := .tuple #[.agg #[.int .i64 0, .int .i64 0], .bool false]) (by simp [results, Try.results33, go_sem, d0, d1]) rfl ⟨rfl, ?_⟩
  exact (HW.out.setCell (Nat.le_refl _) _).setCell (Nat.le_refl _) _
set_option maxHeartbeats 1600000 in
set_option maxRecDepth 100000 in
theorem specMissing_fo0 (w : World) (s i : Int) (A : Option Addr) (n c : Nat) (xs : List Int) (hr : Rd w w.heap.size 2 A n (ints .i64 xs)) (hok : okInts xs) (hn : n = 0) (hi : i < 1 ∨ 7 < i) :
    Calls Try.prog 33 #[.slice A n c, .int .i64 s, .int .i64 i] w (Gives (.tuple #[.agg #[.int .i64 0, .int .i64 0], .bool false]) w) := by
  have HR := Lib.hid hr
  have HX := Lib.hid hok
  have hb0 : Below w.heap.size w (w.alloc (.cells #[.int .i64 0, .int .i64 0] 34)) := (Below.refl _ _).alloc (Nat.le_refl _) _
  have hz0 : (w.alloc (.cells #[.int .i64 0, .int .i64 0] 34)).heap.size = w.heap.size + 1 := by simp
  clear hr hok
  have hnd : decide (0 < n) = false := by simp; omega
  have hn7 : n ≤ 7 := by omega
  have HN0 := Lib.hid hn
  clear hn
  go_enter Try.func33, Try.ntmps33
  go_wp2_with fail
  (with_reducible refine (C1.specIn_f i 1 7 _ hi).mono ?_); rintro e w5 ⟨rfl, rfl⟩
  have HW := Lib.hid hb0
  clear hb0
  go_wp2
  refine bodyPost_ret (v := .tuple #[.agg #[.int .i64 0, .int .i64 0], .bool false]) (by simp [results, Try.results33, go_sem]) rfl ⟨rfl, ?_⟩
  exact HW.out
set_option maxHeartbeats 1600000 in
set_option maxRecDepth 100000 in
theorem specMissing_t0 (w : World) (s i : Int) (A : Option Addr) (n c : Nat) (xs : List Int) (hs0 : -9223372036854775808 ≤ s) (hs1 : s ≤ 9223372036854775807) (hr : Rd w w.heap.size 2 A n (ints .i64 xs)) (hok : okInts xs) (hn : n = 0) (hm : mis xs n i) :
    Calls Try.prog 33 #[.slice A n c, .int .i64 s, .int .i64 i] w (Gives (.tuple #[.agg #[.int .i64 i, .int .i64 (thr ([0, s] ++ xs) (1 + n) i)], .bool true]) w) := by
  have HR := Lib.hid hr
  have HX := Lib.hid hok
  have hb0 : Below w.heap.size w (w.alloc (.cells #[.int .i64 0, .int .i64 0] 34)) := (Below.refl _ _).alloc (Nat.le_refl _) _
  have hz0 : (w.alloc (.cells #[.int .i64 0, .int .i64 0] 34)).heap.size = w.heap.size + 1 := by simp
  clear hr hok
  have hnd : decide (0 < n) = false := by simp; omega
  have hn7 : n ≤ 7 := by omega
  have HN0 := Lib.hid hn
  clear hn
  have HSUM := Lib.hid (missing_sum s hm)
  obtain ⟨_, hi0, hi1, hno⟩ := hm
  have HN := Lib.hid hno
  obtain ⟨V, hV⟩ : ∃ V, V = thr ([0, s] ++ xs) (1 + n) i := ⟨_, rfl⟩
  rw [← hV] at HSUM ⊢
  clear hno hV
  go_enter Try.func33, Try.ntmps33
  go_wp2_with fail
  (with_reducible refine (C1.specIn_t i 1 7 _ hi0 hi1).mono ?_); rintro e w5 ⟨rfl, rfl⟩
  have hb1 := hb0
  have hbx : Below (w.heap.size + 1) (w.alloc (.cells #[.int .i64 0, .int .i64 0] 34)) (w.alloc (.cells #[.int .i64 0, .int .i64 0] 34)) := Below.refl _ _
  go_wp2_with fail
  (with_reducible refine (specIdx _ A n c xs (HR.out.on hb1) (by omega)).mono ?_); rintro e w2 ⟨A2, c2, rfl, o2, b2⟩
  have hw1 : w.heap.size ≤ (w.alloc (.cells #[.int .i64 0, .int .i64 0] 34)).heap.size := hb1.size
  have hw2 := b2.size
  go_wp2_with (at_builtin; refine appI _ rfl _ _ rfl (w.alloc (.cells #[.int .i64 0, .int .i64 0] 34)).heap.size _ _ _ rfl (o2.alloc _) _ _ 1 1 [.int .i64 0] rfl (rd_one _ _ _) (one_int .i64 _) (by omega) (by simp only [World.size_alloc]; omega) ?_; intro v3 w3 o3 hg3)
  obtain ⟨A3, c3, rfl⟩ := own_nil_form o3
  have b3 : Below (w.alloc (.cells #[.int .i64 0, .int .i64 0] 34)).heap.size (w.alloc (.cells #[.int .i64 0, .int .i64 0] 34)) w3 := (b2.alloc b2.size _).grown hg3 (by simp only [World.size_alloc]; omega) (fun j hj => (o2.lt j hj).1)
  have HO := Lib.hid (show w3.ownsRow (w.alloc (.cells #[.int .i64 0, .int .i64 0] 34)).heap.size 3 1 (.slice A3 (n + 1) c3) (n + 1) (ints .i64 (ixs xs n ++ [0])) by rw [← ints_app]; exact o3)
  have hbq := Nat.le_trans (Nat.le_of_eq hz0.symm) hbx.size
  have HBX := Lib.hid (hbx.trans (b3.mono hbq))
  have HB := Lib.hid (hb1.trans (b3.mono hw1))
  clear o2 o3 hg3 b2 b3 hbx hbq hb1 hb0
  go_wp2
  go_loopw [9, 10] (fun q j wr => ∃ k : Nat, k ≤ n ∧ j = .int .i64 k ∧ q = .int .i64 (fsum (vls xs n) (lws (ixs xs n ++ [0]) i n) k) ∧ (∀ p, p < k → xs.getD (p * 2) 0 ≠ i) ∧ Below w3.heap.size w3 wr) (fun _ j _ => n - (intOf j).toNat)
  case atStart => exact ⟨0, by omega, rfl, rfl, fun _ h => by omega, Below.refl _ _⟩
  case round =>
    obtain ⟨k, hk, rfl, rfl, hG, hb⟩ := hrel
    have HG := Lib.hid hG
    clear hG
    have hbw : Below w.heap.size w wr := HB.out.trans (hb.mono HB.out.size)
    by_cases hlt : k < n
    · exfalso
      have := HN0.out
      omega
    · have hkn : k = n := by omega
      have hdd : decide (k < n) = false := by simp; omega
      rw [hkn]
      obtain ⟨s0, s1⟩ := fsum_in (vls xs n) (lws (ixs xs n ++ [0]) i n) n
      obtain ⟨z0, z1⟩ := lw_in (ixs xs n ++ [0]) (n : Int) i
      obtain ⟨z, hz⟩ : ∃ z, z = lw (ixs xs n ++ [0]) (n : Int) i := ⟨_, rfl⟩
      obtain ⟨q, hqq⟩ : ∃ q, q = fsum (vls xs n) (lws (ixs xs n ++ [0]) i n) n := ⟨_, rfl⟩
      obtain ⟨m, hm2⟩ : ∃ m, m = s % 1019 := ⟨_, rfl⟩
      have m0 : 0 ≤ m := by omega
      have m1 : m ≤ 1018 := by omega
      rw [← hz, ← hqq, ← hm2] at HSUM
      rw [← hz] at z0 z1
      rw [← hqq] at s0 s1 ⊢
      have HZ := Lib.hid hz
      have HM := Lib.hid hm2
      clear hz hqq hm2
      have hdn : decide (n < n) = false := by simp
      clear hdd hkn HG
      have n0 : 0 ≤ m * z := Int.mul_nonneg m0 z0
      have n1 : m * z ≤ 1018 * 1018 := Int.mul_le_mul m1 z1 z0 (by omega)
      go_wp2_with fail
      (with_reducible refine (l5Mod s _ hs0 hs1).mono ?_); rintro e w6 ⟨rfl, rfl⟩
      rw [← HM.out]
      go_wp2_with fail
      (with_reducible refine (specWeight _ (n : Int) i (by omega) (by omega) A3 (n + 1) c3 (ixs xs n ++ [0]) ((Rd.own HO.out).on hb) ((ixs_ok HX.out n).app zero_ok) (by omega)).mono ?_); rintro e w4 ⟨rfl, b4⟩
      rw [← HZ.out]
      have hb5 : Below w3.heap.size w3 w4 := hb.trans (b4.mono hb.size)
      have hbz := HBX.out.size
      obtain ⟨g0, g1, g2, g3, g4⟩ := box_at (w := w) (w' := w4) (HBX.out.trans (hb5.mono (by rw [hz0] at hbz; exact hbz)))
      have HW := Lib.hid (show Below w.heap.size w w4 from HB.out.trans (hb5.mono HB.out.size))
      clear b4 hb5 hb hbw hbz
      go_wp2
      rw [HSUM.out]
      obtain ⟨d0, d1⟩ := set2 w4 w.heap.size (.int .i64 i) (.int .i64 V) g0 g1 g2
      refine bodyPost_ret (v := .tuple #[.agg #[.int .i64 i, .int .i64 V], .bool true]) (by simp [results, Try.results33, go_sem, d0, d1]) rfl ⟨rfl, ?_⟩
      exact (HW.out.setCell (Nat.le_refl _) _).setCell (Nat.le_refl _) _
set_option maxHeartbeats 1600000 in
set_option maxRecDepth 100000 in
theorem specMissing_fo1 (w : World) (s i : Int) (A : Option Addr) (n c : Nat) (xs : List Int) (hr : Rd w w.heap.size 2 A n (ints .i64 xs)) (hok : okInts xs) (hn : 0 < n) (ha : are xs n) (hi : i < 1 ∨ 7 < i) :
    Calls Try.prog 33 #[.slice A n c, .int .i64 s, .int .i64 i] w (Gives (.tuple #[.agg #[.int .i64 0, .int .i64 0], .bool false]) w) := by
  have HR := Lib.hid hr
  have HX := Lib.hid hok
  have hb0 : Below w.heap.size w (w.alloc (.cells #[.int .i64 0, .int .i64 0] 34)) := (Below.refl _ _).alloc (Nat.le_refl _) _
  have hz0 : (w.alloc (.cells #[.int .i64 0, .int .i64 0] 34)).heap.size = w.heap.size + 1 := by simp
  clear hr hok
  have HA := Lib.hid ha
  have hn7 : n ≤ 7 := ha.2.1
  clear ha
  go_enter Try.func33, Try.ntmps33
  go_wp2_with fail
  (with_reducible refine (specAre _ A n c xs true ⟨fun _ => HA.out, fun _ => rfl⟩ (HR.out.on hb0) HX.out (by omega)).mono ?_); rintro e w1 ⟨rfl, b1⟩
  have hb1 : Below w.heap.size w w1 := hb0.trans (b1.mono hb0.size)
  have hbx : Below (w.heap.size + 1) (w.alloc (.cells #[.int .i64 0, .int .i64 0] 34)) w1 := hz0 ▸ b1
  go_wp2_with fail
  (with_reducible refine (C1.specIn_f i 1 7 _ hi).mono ?_); rintro e w5 ⟨rfl, rfl⟩
  obtain ⟨g0, g1, g2, g3, g4⟩ := box_at (w := w) (w' := w1) (hbx)
  have HW := Lib.hid (show Below w.heap.size w w1 from hb1)
  clear b1 hb0 hb1 hbx
  go_wp2
  obtain ⟨d0, d1⟩ := set2 w1 w.heap.size (.int .i64 0) (.int .i64 0) g0 g1 g2
  refine bodyPost_ret (v := .tuple #[.agg #[.int .i64 0, .int .i64 0], .bool false]) (by simp [results, Try.results33, go_sem, d0, d1]) rfl ⟨rfl, ?_⟩
  exact (HW.out.setCell (Nat.le_refl _) _).setCell (Nat.le_refl _) _
set_option maxHeartbeats 1600000 in
set_option maxRecDepth 100000 in
theorem specMissing_t1 (w : World) (s i : Int) (A : Option Addr) (n c : Nat) (xs : List Int) (hs0 : -9223372036854775808 ≤ s) (hs1 : s ≤ 9223372036854775807) (hr : Rd w w.heap.size 2 A n (ints .i64 xs)) (hok : okInts xs) (hn : 0 < n) (ha : are xs n) (hm : mis xs n i) :
    Calls Try.prog 33 #[.slice A n c, .int .i64 s, .int .i64 i] w (Gives (.tuple #[.agg #[.int .i64 i, .int .i64 (thr ([0, s] ++ xs) (1 + n) i)], .bool true]) w) := by
  have HR := Lib.hid hr
  have HX := Lib.hid hok
  have hb0 : Below w.heap.size w (w.alloc (.cells #[.int .i64 0, .int .i64 0] 34)) := (Below.refl _ _).alloc (Nat.le_refl _) _
  have hz0 : (w.alloc (.cells #[.int .i64 0, .int .i64 0] 34)).heap.size = w.heap.size + 1 := by simp
  clear hr hok
  have HA := Lib.hid ha
  have hn7 : n ≤ 7 := ha.2.1
  clear ha
  have HSUM := Lib.hid (missing_sum s hm)
  obtain ⟨_, hi0, hi1, hno⟩ := hm
  have HN := Lib.hid hno
  obtain ⟨V, hV⟩ : ∃ V, V = thr ([0, s] ++ xs) (1 + n) i := ⟨_, rfl⟩
  rw [← hV] at HSUM ⊢
  clear hno hV
  go_enter Try.func33, Try.ntmps33
  go_wp2_with fail
  (with_reducible refine (specAre _ A n c xs true ⟨fun _ => HA.out, fun _ => rfl⟩ (HR.out.on hb0) HX.out (by omega)).mono ?_); rintro e w1 ⟨rfl, b1⟩
  have hb1 : Below w.heap.size w w1 := hb0.trans (b1.mono hb0.size)
  have hbx : Below (w.heap.size + 1) (w.alloc (.cells #[.int .i64 0, .int .i64 0] 34)) w1 := hz0 ▸ b1
  go_wp2_with fail
  (with_reducible refine (C1.specIn_t i 1 7 _ hi0 hi1).mono ?_); rintro e w5 ⟨rfl, rfl⟩
  go_wp2_with fail
  (with_reducible refine (specIdx _ A n c xs (HR.out.on hb1) (by omega)).mono ?_); rintro e w2 ⟨A2, c2, rfl, o2, b2⟩
  have hw1 : w.heap.size ≤ w1.heap.size := hb1.size
  have hw2 := b2.size
  go_wp2_with (at_builtin; refine appI _ rfl _ _ rfl w1.heap.size _ _ _ rfl (o2.alloc _) _ _ 1 1 [.int .i64 0] rfl (rd_one _ _ _) (one_int .i64 _) (by omega) (by simp only [World.size_alloc]; omega) ?_; intro v3 w3 o3 hg3)
  obtain ⟨A3, c3, rfl⟩ := own_nil_form o3
  have b3 : Below w1.heap.size w1 w3 := (b2.alloc b2.size _).grown hg3 (by simp only [World.size_alloc]; omega) (fun j hj => (o2.lt j hj).1)
  have HO := Lib.hid (show w3.ownsRow w1.heap.size 3 1 (.slice A3 (n + 1) c3) (n + 1) (ints .i64 (ixs xs n ++ [0])) by rw [← ints_app]; exact o3)
  have hbq := Nat.le_trans (Nat.le_of_eq hz0.symm) hbx.size
  have HBX := Lib.hid (hbx.trans (b3.mono hbq))
  have HB := Lib.hid (hb1.trans (b3.mono hw1))
  clear o2 o3 hg3 b2 b3 hbx hbq hb1 b1 hb0
  go_wp2
  go_loopw [9, 10] (fun q j wr => ∃ k : Nat, k ≤ n ∧ j = .int .i64 k ∧ q = .int .i64 (fsum (vls xs n) (lws (ixs xs n ++ [0]) i n) k) ∧ (∀ p, p < k → xs.getD (p * 2) 0 ≠ i) ∧ Below w3.heap.size w3 wr) (fun _ j _ => n - (intOf j).toNat)
  case atStart => exact ⟨0, by omega, rfl, rfl, fun _ h => by omega, Below.refl _ _⟩
  case round =>
    obtain ⟨k, hk, rfl, rfl, hG, hb⟩ := hrel
    have HG := Lib.hid hG
    clear hG
    have hbw : Below w.heap.size w wr := HB.out.trans (hb.mono HB.out.size)
    by_cases hlt : k < n
    · obtain ⟨g, off, rfl, hgl, hcell, hcellv⟩ := Rd2.at_ (HR.out.below hbw) hlt
      obtain ⟨x, hx⟩ : ∃ x, x = xs.getD (k * 2) 0 := ⟨_, rfl⟩
      have HXX := Lib.hid hx
      rw [← hx] at hcell
      clear hx
      by_cases he : x = i
      · exact absurd ⟨k, hlt, by rw [← HXX.out]; exact he⟩ HN.out
      · have HN2 := Lib.hid (show ∀ p, p < k + 1 → xs.getD (p * 2) 0 ≠ i from fun p hp => by
          by_cases h : p < k
          · exact HG.out p h
          · obtain rfl : p = k := by omega
            rw [← HXX.out]; exact he)
        have heb : (x == i) = false := by simpa using he
        have hgood := HA.out.2.2.1 k hlt
        unfold good at hgood
        obtain ⟨_, _, y0, y1⟩ := hgood
        obtain ⟨s0, s1⟩ := fsum_in (vls xs n) (lws (ixs xs n ++ [0]) i n) k
        obtain ⟨z0, z1⟩ := lw_in (ixs xs n ++ [0]) (k : Int) i
        have HE := Lib.hid (show fsum (vls xs n) (lws (ixs xs n ++ [0]) i n) (k + 1) = (fsum (vls xs n) (lws (ixs xs n ++ [0]) i n) k + (lws (ixs xs n ++ [0]) i n).getD k 0 * ((vls xs n).getD k 0 % 1019)) % 1019 from rfl)
        rw [vls_get xs n k hlt, lws_get _ i n k hlt] at HE
        obtain ⟨y, hy⟩ : ∃ y, y = xs.getD (k * 2 + 1) 0 := ⟨_, rfl⟩
        obtain ⟨z, hz⟩ : ∃ z, z = lw (ixs xs n ++ [0]) (k : Int) i := ⟨_, rfl⟩
        obtain ⟨q, hqq⟩ : ∃ q, q = fsum (vls xs n) (lws (ixs xs n ++ [0]) i n) k := ⟨_, rfl⟩
        rw [← hy, ← hz, ← hqq] at HE
        rw [← hy] at hcellv y0 y1
        rw [← hz] at z0 z1
        rw [← hqq] at s0 s1 ⊢
        have hym : y % 1019 = y := by omega
        rw [hym, Int.mul_comm] at HE
        have HZ := Lib.hid hz
        clear hy hz hqq hym he
        have n0 : 0 ≤ y * z := Int.mul_nonneg y0 z0
        have n1 : y * z ≤ 1018 * 1018 := Int.mul_le_mul y1 z1 z0 (by omega)
        have hki : (k : Int) < n := by omega
        have hgr : g < wr.heap.size := by have := hbw.size; omega
        go_wp2_with fail
        go_region_held3 (fun wx => wx.cell? ⟨g, off + k * 2 + 1, none⟩ = some (.int .i64 y)) (first | exact hcellv | exact hcell3) (first | (go_at_call 30; refine (specWeight _ (k : Int) i (by omega) (by omega) A3 (n + 1) c3 (ixs xs n ++ [0]) ((Rd.own HO.out).on hb.drew) ((ixs_ok HX.out n).app zero_ok) (by omega)).mono ?_; rintro e w4 ⟨rfl, b4⟩; rw [← HZ.out]; have hcell3 : w4.cell? ⟨g, off + k * 2 + 1, none⟩ = some (.int .i64 y) := (b4.cell (p := ⟨g, off + k * 2 + 1, none⟩) hgr).trans hcellv))
        have hbd : Below w3.heap.size w3 wr.drew := hb.drew
        have hb4 : Below w3.heap.size w3 w4 := hbd.trans (b4.mono hbd.size)
        go_wp2
        go_roundw
        case rel => exact ⟨k + 1, by omega, by go_num, by rw [HE.out, red q (y * z) s0 s1 n0 n1], HN2.out, hb4⟩
        case measure => simp [intOf]; omega
    · have hkn : k = n := by omega
      have hdd : decide (k < n) = false := by simp; omega
      rw [hkn]
      obtain ⟨s0, s1⟩ := fsum_in (vls xs n) (lws (ixs xs n ++ [0]) i n) n
      obtain ⟨z0, z1⟩ := lw_in (ixs xs n ++ [0]) (n : Int) i
      obtain ⟨z, hz⟩ : ∃ z, z = lw (ixs xs n ++ [0]) (n : Int) i := ⟨_, rfl⟩
      obtain ⟨q, hqq⟩ : ∃ q, q = fsum (vls xs n) (lws (ixs xs n ++ [0]) i n) n := ⟨_, rfl⟩
      obtain ⟨m, hm2⟩ : ∃ m, m = s % 1019 := ⟨_, rfl⟩
      have m0 : 0 ≤ m := by omega
      have m1 : m ≤ 1018 := by omega
      rw [← hz, ← hqq, ← hm2] at HSUM
      rw [← hz] at z0 z1
      rw [← hqq] at s0 s1 ⊢
      have HZ := Lib.hid hz
      have HM := Lib.hid hm2
      clear hz hqq hm2
      have hdn : decide (n < n) = false := by simp
      clear hdd hkn HG
      have n0 : 0 ≤ m * z := Int.mul_nonneg m0 z0
      have n1 : m * z ≤ 1018 * 1018 := Int.mul_le_mul m1 z1 z0 (by omega)
      go_wp2_with fail
      (with_reducible refine (l5Mod s _ hs0 hs1).mono ?_); rintro e w6 ⟨rfl, rfl⟩
      rw [← HM.out]
      go_wp2_with fail
      (with_reducible refine (specWeight _ (n : Int) i (by omega) (by omega) A3 (n + 1) c3 (ixs xs n ++ [0]) ((Rd.own HO.out).on hb) ((ixs_ok HX.out n).app zero_ok) (by omega)).mono ?_); rintro e w4 ⟨rfl, b4⟩
      rw [← HZ.out]
      have hb5 : Below w3.heap.size w3 w4 := hb.trans (b4.mono hb.size)
      have hbz := HBX.out.size
      obtain ⟨g0, g1, g2, g3, g4⟩ := box_at (w := w) (w' := w4) (HBX.out.trans (hb5.mono (by rw [hz0] at hbz; exact hbz)))
      have HW := Lib.hid (show Below w.heap.size w w4 from HB.out.trans (hb5.mono HB.out.size))
      clear b4 hb5 hb hbw hbz
      go_wp2
      rw [HSUM.out]
      obtain ⟨d0, d1⟩ := set2 w4 w.heap.size (.int .i64 i) (.int .i64 V) g0 g1 g2
      refine bodyPost_ret (v := .tuple #[.agg #[.int .i64 i, .int .i64 V], .bool true]) (by simp [results, Try.results33, go_sem, d0, d1]) rfl ⟨rfl, ?_⟩
      exact (HW.out.setCell (Nat.le_refl _) _).setCell (Nat.le_refl _) _
set_option maxHeartbeats 1600000 in
set_option maxRecDepth 100000 in
theorem specMissing_h1 (w : World) (s i : Int) (A : Option Addr) (n c : Nat) (xs : List Int) (hs0 : -9223372036854775808 ≤ s) (hs1 : s ≤ 9223372036854775807) (hr : Rd w w.heap.size 2 A n (ints .i64 xs)) (hok : okInts xs) (hn : 0 < n) (ha : are xs n) (hi0 : 1 ≤ i) (hi1 : i ≤ 7) (hh : ∃ k, k < n ∧ xs.getD (k * 2) 0 = i) :
    Calls Try.prog 33 #[.slice A n c, .int .i64 s, .int .i64 i] w (Gives (.tuple #[.agg #[.int .i64 0, .int .i64 0], .bool false]) w) := by
  have HR := Lib.hid hr
  have HX := Lib.hid hok
  have hb0 : Below w.heap.size w (w.alloc (.cells #[.int .i64 0, .int .i64 0] 34)) := (Below.refl _ _).alloc (Nat.le_refl _) _
  have hz0 : (w.alloc (.cells #[.int .i64 0, .int .i64 0] 34)).heap.size = w.heap.size + 1 := by simp
  clear hr hok
  have HA := Lib.hid ha
  have hn7 : n ≤ 7 := ha.2.1
  clear ha
  have HN := Lib.hid hh
  clear hh
  go_enter Try.func33, Try.ntmps33
  go_wp2_with fail
  (with_reducible refine (specAre _ A n c xs true ⟨fun _ => HA.out, fun _ => rfl⟩ (HR.out.on hb0) HX.out (by omega)).mono ?_); rintro e w1 ⟨rfl, b1⟩
  have hb1 : Below w.heap.size w w1 := hb0.trans (b1.mono hb0.size)
  have hbx : Below (w.heap.size + 1) (w.alloc (.cells #[.int .i64 0, .int .i64 0] 34)) w1 := hz0 ▸ b1
  go_wp2_with fail
  (with_reducible refine (C1.specIn_t i 1 7 _ hi0 hi1).mono ?_); rintro e w5 ⟨rfl, rfl⟩
  go_wp2_with fail
  (with_reducible refine (specIdx _ A n c xs (HR.out.on hb1) (by omega)).mono ?_); rintro e w2 ⟨A2, c2, rfl, o2, b2⟩
  have hw1 : w.heap.size ≤ w1.heap.size := hb1.size
  have hw2 := b2.size
  go_wp2_with (at_builtin; refine appI _ rfl _ _ rfl w1.heap.size _ _ _ rfl (o2.alloc _) _ _ 1 1 [.int .i64 0] rfl (rd_one _ _ _) (one_int .i64 _) (by omega) (by simp only [World.size_alloc]; omega) ?_; intro v3 w3 o3 hg3)
  obtain ⟨A3, c3, rfl⟩ := own_nil_form o3
  have b3 : Below w1.heap.size w1 w3 := (b2.alloc b2.size _).grown hg3 (by simp only [World.size_alloc]; omega) (fun j hj => (o2.lt j hj).1)
  have HO := Lib.hid (show w3.ownsRow w1.heap.size 3 1 (.slice A3 (n + 1) c3) (n + 1) (ints .i64 (ixs xs n ++ [0])) by rw [← ints_app]; exact o3)
  have hbq := Nat.le_trans (Nat.le_of_eq hz0.symm) hbx.size
  have HBX := Lib.hid (hbx.trans (b3.mono hbq))
  have HB := Lib.hid (hb1.trans (b3.mono hw1))
  clear o2 o3 hg3 b2 b3 hbx hbq hb1 b1 hb0
  go_wp2
  go_loopw [9, 10] (fun q j wr => ∃ k : Nat, k ≤ n ∧ j = .int .i64 k ∧ q = .int .i64 (fsum (vls xs n) (lws (ixs xs n ++ [0]) i n) k) ∧ (∀ p, p < k → xs.getD (p * 2) 0 ≠ i) ∧ Below w3.heap.size w3 wr) (fun _ j _ => n - (intOf j).toNat)
  case atStart => exact ⟨0, by omega, rfl, rfl, fun _ h => by omega, Below.refl _ _⟩
  case round =>
    obtain ⟨k, hk, rfl, rfl, hG, hb⟩ := hrel
    have HG := Lib.hid hG
    clear hG
    have hbw : Below w.heap.size w wr := HB.out.trans (hb.mono HB.out.size)
    by_cases hlt : k < n
    · obtain ⟨g, off, rfl, hgl, hcell, hcellv⟩ := Rd2.at_ (HR.out.below hbw) hlt
      obtain ⟨x, hx⟩ : ∃ x, x = xs.getD (k * 2) 0 := ⟨_, rfl⟩
      have HXX := Lib.hid hx
      rw [← hx] at hcell
      clear hx
      by_cases he : x = i
      · have heb : (x == i) = true := by simpa using he
        have hbz := HBX.out.size
        obtain ⟨g0, g1, g2, g3, g4⟩ := box_at (w := w) (w' := wr) (HBX.out.trans (hb.mono (by rw [hz0] at hbz; exact hbz)))
        have HW := Lib.hid (show Below w.heap.size w wr from hbw)
        clear he
        go_wp2
        obtain ⟨d0, d1⟩ := set2 wr w.heap.size (.int .i64 0) (.int .i64 0) g0 g1 g2
        refine bodyPost_ret (v := .tuple #[.agg #[.int .i64 0, .int .i64 0], .bool false]) (by simp [results, Try.results33, go_sem, d0, d1]) rfl ⟨rfl, ?_⟩
        exact (HW.out.setCell (Nat.le_refl _) _).setCell (Nat.le_refl _) _
      · have HN2 := Lib.hid (show ∀ p, p < k + 1 → xs.getD (p * 2) 0 ≠ i from fun p hp => by
          by_cases h : p < k
          · exact HG.out p h
          · obtain rfl : p = k := by omega
            rw [← HXX.out]; exact he)
        have heb : (x == i) = false := by simpa using he
        have hgood := HA.out.2.2.1 k hlt
        unfold good at hgood
        obtain ⟨_, _, y0, y1⟩ := hgood
        obtain ⟨s0, s1⟩ := fsum_in (vls xs n) (lws (ixs xs n ++ [0]) i n) k
        obtain ⟨z0, z1⟩ := lw_in (ixs xs n ++ [0]) (k : Int) i
        have HE := Lib.hid (show fsum (vls xs n) (lws (ixs xs n ++ [0]) i n) (k + 1) = (fsum (vls xs n) (lws (ixs xs n ++ [0]) i n) k + (lws (ixs xs n ++ [0]) i n).getD k 0 * ((vls xs n).getD k 0 % 1019)) % 1019 from rfl)
        rw [vls_get xs n k hlt, lws_get _ i n k hlt] at HE
        obtain ⟨y, hy⟩ : ∃ y, y = xs.getD (k * 2 + 1) 0 := ⟨_, rfl⟩
        obtain ⟨z, hz⟩ : ∃ z, z = lw (ixs xs n ++ [0]) (k : Int) i := ⟨_, rfl⟩
        obtain ⟨q, hqq⟩ : ∃ q, q = fsum (vls xs n) (lws (ixs xs n ++ [0]) i n) k := ⟨_, rfl⟩
        rw [← hy, ← hz, ← hqq] at HE
        rw [← hy] at hcellv y0 y1
        rw [← hz] at z0 z1
        rw [← hqq] at s0 s1 ⊢
        have hym : y % 1019 = y := by omega
        rw [hym, Int.mul_comm] at HE
        have HZ := Lib.hid hz
        clear hy hz hqq hym he
        have n0 : 0 ≤ y * z := Int.mul_nonneg y0 z0
        have n1 : y * z ≤ 1018 * 1018 := Int.mul_le_mul y1 z1 z0 (by omega)
        have hki : (k : Int) < n := by omega
        have hgr : g < wr.heap.size := by have := hbw.size; omega
        go_wp2_with fail
        go_region_held3 (fun wx => wx.cell? ⟨g, off + k * 2 + 1, none⟩ = some (.int .i64 y)) (first | exact hcellv | exact hcell3) (first | (go_at_call 30; refine (specWeight _ (k : Int) i (by omega) (by omega) A3 (n + 1) c3 (ixs xs n ++ [0]) ((Rd.own HO.out).on hb.drew) ((ixs_ok HX.out n).app zero_ok) (by omega)).mono ?_; rintro e w4 ⟨rfl, b4⟩; rw [← HZ.out]; have hcell3 : w4.cell? ⟨g, off + k * 2 + 1, none⟩ = some (.int .i64 y) := (b4.cell (p := ⟨g, off + k * 2 + 1, none⟩) hgr).trans hcellv))
        have hbd : Below w3.heap.size w3 wr.drew := hb.drew
        have hb4 : Below w3.heap.size w3 w4 := hbd.trans (b4.mono hbd.size)
        go_wp2
        go_roundw
        case rel => exact ⟨k + 1, by omega, by go_num, by rw [HE.out, red q (y * z) s0 s1 n0 n1], HN2.out, hb4⟩
        case measure => simp [intOf]; omega
    · have hkn : k = n := by omega
      have hdd : decide (k < n) = false := by simp; omega
      exfalso
      obtain ⟨p, hp, e⟩ := HN.out
      exact HG.out p (by omega) e
theorem specMissing (w : World) (s i : Int) (A : Option Addr) (n c : Nat) (xs : List Int) (hs0 : -9223372036854775808 ≤ s) (hs1 : s ≤ 9223372036854775807) (hr : Rd w w.heap.size 2 A n (ints .i64 xs)) (hok : okInts xs) (hm : mis xs n i) :
    Calls Try.prog 33 #[.slice A n c, .int .i64 s, .int .i64 i] w (Gives (.tuple #[.agg #[.int .i64 i, .int .i64 (thr ([0, s] ++ xs) (1 + n) i)], .bool true]) w) := by
  by_cases hn : n = 0
  · exact specMissing_t0 w s i A n c xs hs0 hs1 hr hok hn hm
  · exact specMissing_t1 w s i A n c xs hs0 hs1 hr hok (by omega) (hm.1.resolve_left hn) hm
theorem specMissing_f (w : World) (s i : Int) (A : Option Addr) (n c : Nat) (xs : List Int) (hs0 : -9223372036854775808 ≤ s) (hs1 : s ≤ 9223372036854775807) (hr : Rd w w.heap.size 2 A n (ints .i64 xs)) (hok : okInts xs) (hn2 : n ≤ 4294967296) (hm : ¬ mis xs n i) :
    Calls Try.prog 33 #[.slice A n c, .int .i64 s, .int .i64 i] w (Gives (.tuple #[.agg #[.int .i64 0, .int .i64 0], .bool false]) w) := by
  by_cases hn : n = 0
  · refine specMissing_fo0 w s i A n c xs hr hok hn ?_
    by_cases hi : i < 1 ∨ 7 < i
    · exact hi
    · exact absurd ⟨.inl hn, by omega, by omega, fun ⟨k, hk, _⟩ => by omega⟩ hm
  · by_cases ha : are xs n
    · by_cases hi : i < 1 ∨ 7 < i
      · exact specMissing_fo1 w s i A n c xs hr hok (by omega) ha hi
      · refine specMissing_h1 w s i A n c xs hs0 hs1 hr hok (by omega) ha (by omega) (by omega) (Classical.byContradiction fun h => hm ⟨.inr ha, by omega, by omega, h⟩)
    · exact specMissing_fa w s i A n c xs hr hok (by omega) hn2 ha
end Go.Proofs.Ythmljddgaabnhaa.C5h
