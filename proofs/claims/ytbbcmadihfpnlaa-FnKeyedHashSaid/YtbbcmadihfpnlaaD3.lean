/-
  Contracts of the draws of chapter 3: a number about Modulus, a list of such, a key and what it goes with.
-/
import Derived.Test.YtbbcmadihfpnlaaD2
namespace Go.Proofs.Ytbbcmadihfpnlaa.D3
open Go.ChangeShapes Go.WideShapes Go.ChangeAt Go.RowKit
open C0 S0 S1 D2
set_option linter.unusedVariables false
def isWord (x : Int) : Prop := -1 ≤ x ∧ x ≤ 2147483648
def words (ys : List Int) : Prop := ∀ y ∈ ys, isWord y
theorem words.add {ys : List Int} (h : words ys) {y : Int} (hy : isWord y) : words (ys ++ [y]) := by
  intro z hz
  rcases List.mem_append.1 hz with hz | hz
  · exact h z hz
  · obtain rfl : z = y := by simpa using hz
    exact hy
theorem words.nil : words [] := fun _ h => by cases h
set_option maxHeartbeats 800000 in
theorem word_any (w : World) (B H0 : Nat) (C : IsCur w B H0) : Calls Try.prog 48 #[.pointer (some ⟨B, 0, none⟩)] w (Drawn isWord w B H0) := by
  go_enter Try.func48, Try.ntmps48
  go_wp2_with fail
  (with_reducible refine (once_any _ B H0 10 C).mono ?_); rintro e w1 ⟨b, rfl, C1, g1⟩
  cases b
  · go_wp2_with fail
    (with_reducible refine (once_any _ B H0 4 C1).mono ?_); rintro e w2 ⟨b, rfl, C2, g2⟩
    cases b
    · go_wp2_with fail
      (with_reducible refine (below_any _ B H0 1000000 C2).mono ?_); rintro e w3 ⟨x, rfl, ⟨hx0, hx1⟩, C3, g3⟩
      go_wp2_with fail
      (with_reducible refine (below_any _ B H0 2000 C3).mono ?_); rintro e w4 ⟨y, rfl, ⟨hy0, hy1⟩, C4, g4⟩
      have hm0 : 0 ≤ x * y := Int.mul_nonneg hx0 hy0
      have hm1 : x * y ≤ 999999 * 1999 := Int.mul_le_mul (by omega) (by omega) hy0 (by omega)
      clear hx1 hy1
      go_wp2
      go_ret
      exact ⟨_, rfl, ⟨by omega, by omega⟩, C4, grown_trans (grown_trans (grown_trans g1 g2) g3) g4⟩
    · have HL := Lib.hid (int_lit [0, 1, 2147483646] 3 rfl w2 B H0 3 C2 (by simp) (by simp) isWord (by simp [isWord]))
      go_wp2_with fail
      refine HL.out.mono ?_; rintro e w3 ⟨x, rfl, hx, C3, g3⟩
      go_wp2
      go_ret
      exact ⟨x, rfl, hx, C3, grown_trans (grown_trans g1 g2) g3⟩
  · have HL := Lib.hid (int_lit [-1, 2147483647, 2147483648] 3 rfl w1 B H0 3 C1 (by simp) (by simp) isWord (by simp [isWord]))
    go_wp2_with fail
    refine HL.out.mono ?_; rintro e w3 ⟨x, rfl, hx, C3, g3⟩
    go_wp2
    go_ret
    exact ⟨x, rfl, hx, C3, grown_trans g1 g3⟩
/-- A list of numbers that is drawn: new, the cursor moved on. -/
def DrawnInts (P : List Int → Prop) (w : World) (B H0 : Nat) (e : Ending) (w' : World) : Prop :=
  ∃ A n c ys, e = .returned (.slice A n c) ∧ P ys ∧ w'.ownsRow w.heap.size 3 1 (.slice A n c) n (ints .i64 ys) ∧ IsCur w' B H0 ∧ w.grownBy w' (some B)
def DrawsI (P : List Int → Prop) (w : World) (B H0 k : Nat) (v : Value) (wr : World) : Prop :=
  ∃ ys, P ys ∧ ys.length = k ∧ wr.ownsRow w.heap.size 3 1 v k (ints .i64 ys) ∧ IsCur wr B H0 ∧ w.grownBy wr (some B)
theorem DrawsI.start (w : World) (B H0 : Nat) (C : IsCur w B H0) : DrawsI words w B H0 0 (.slice (some ⟨w.heap.size, 0, none⟩) 0 0) (w.alloc (.cells #[] 3)) :=
  ⟨[], words.nil, rfl, own_lit w #[] 0 _ _ (Nat.le_refl _) rfl (Nat.zero_le _), C.alloc _, World.grownBy_alloc w _ _⟩
theorem DrawsI.next {w wr w1 w2 : World} {B H0 k : Nat} {v v2 : Value} {ys : List Int} {y : Int} {t : TypeId} (hp : words ys) (hk : ys.length = k) (ho : wr.ownsRow w.heap.size 3 1 v k (ints .i64 ys)) (hB : B < w.heap.size) (hH : H0 ≤ w.heap.size) (hg : w.grownBy wr (some B)) (hy : isWord y)
    (C1 : IsCur w1 B H0) (hg1 : wr.grownBy w1 (some B)) (ho2 : w2.ownsRow w.heap.size 3 1 v2 (k + 1) (ints .i64 ys ++ [.int .i64 y])) (hg2 : (w1.alloc (.cells #[.int .i64 y] t)).grownBy w2 v.ownBlock) : DrawsI words w B H0 (k + 1) v2 w2 := by
  have ho1 := (own_cur (H0 := H0) ho hB hg1).alloc (.cells #[.int .i64 y] t)
  refine ⟨ys ++ [y], hp.add hy, by simp [hk], ?_, cur_own ho1 hB hH (C1.alloc _) hg2, ?_⟩
  · have : ints .i64 (ys ++ [y]) = ints .i64 ys ++ [.int .i64 y] := by simp [ints]
    rw [this]; exact ho2
  · exact grown_new (grown_alloc (grown_trans hg hg1) _) hg2 (fun k hk => (ho1.lt k hk).1)
set_option maxHeartbeats 800000 in
theorem words_any (w : World) (B H0 : Nat) (C : IsCur w B H0) : Calls Try.prog 49 #[.pointer (some ⟨B, 0, none⟩)] w (DrawnInts (fun ys => words ys ∧ ys.length ≤ 4) w B H0) := by
  have hB := C.lt
  have hH : H0 ≤ w.heap.size := by have := C.low; omega
  have HD := DrawsI.start w B H0 C
  go_enter Try.func49, Try.ntmps49
  go_wp2_with fail
  (with_reducible refine (below_any _ B H0 5 (C.alloc _)).mono ?_); rintro e w1 ⟨x, rfl, ⟨hx0, hx1⟩, C1, g1⟩
  obtain ⟨m, rfl⟩ : ∃ m : Nat, x = m := ⟨x.toNat, by omega⟩
  have hm : m ≤ 4 := by omega
  have HD1 : DrawsI words w B H0 0 (.slice (some ⟨w.heap.size, 0, none⟩) 0 0) w1 := by
    obtain ⟨ys, h1, h2, h3, h4, h5⟩ := HD
    exact ⟨ys, h1, h2, own_cur (H0 := H0) h3 hB g1, C1, grown_trans h5 g1⟩
  clear HD hx1 C
  go_wp2
  go_loopw [3, 4] (fun u i wr => ∃ (k j : Nat), k + j = m ∧ i = .int .i64 j ∧ DrawsI words w B H0 k u wr) (fun _ i _ => (intOf i).toNat)
  case atStart => exact ⟨0, m, by omega, rfl, HD1⟩
  case round =>
    obtain ⟨k, j, hkj, rfl, ys, hp, hyl, ho, C, hg⟩ := hrel
    have HYL := Lib.hid hyl
    have HKJ := Lib.hid hkj
    have hj4 : j ≤ 4 := by omega
    have hk4 : k ≤ 4 := by omega
    clear hyl hkj
    by_cases hlt : 0 < j
    · go_wp2_with fail
      (with_reducible refine (word_any _ B H0 C).mono ?_); rintro e w2 ⟨y, rfl, hy, C2, g2⟩
      have ho1 := own_cur (H0 := H0) ho hB g2
      have hz := hg.size
      have hz1 := g2.size
      go_wp2_with (at_builtin; refine appI _ rfl _ _ rfl w.heap.size _ _ _ rfl (ho1.alloc _) _ _ 1 1 [.int .i64 y] rfl (rd_one _ _ _) (one_int .i64 _) (by omega) (by simp; omega) ?_; intro v2 w3 ho2 hg2)
      go_roundw
      case rel => exact ⟨k + 1, j - 1, by have := HKJ.out; omega, by go_num, DrawsI.next hp HYL.out ho hB hH hg hy C2 g2 ho2 hg2⟩
      case measure => simp [intOf]; omega
    · obtain rfl : j = 0 := by omega
      obtain ⟨A1, c1, rfl⟩ := own_nil_form ho
      go_wp2
      go_ret
      exact ⟨A1, k, c1, ys, rfl, ⟨hp, by have := HYL.out; omega⟩, ho, C, hg⟩
/-- A key and a list of numbers. -/
def KI (w : World) (e : Ending) (w' : World) : Prop :=
  ∃ k A n c ys, e = .returned (.tuple #[.int .i64 k, .slice A n c]) ∧ isWord k ∧ words ys ∧ n ≤ 4 ∧ w'.ownsRow w.heap.size 3 1 (.slice A n c) n (ints .i64 ys) ∧ Below w.heap.size w w'
set_option maxHeartbeats 800000 in
theorem keyedHash (w : World) (v : Value) (hc : C0.Code w w.heap.size v) : Calls Try.prog 31 #[v] w (KI w) := by
  go_enter Try.func31, Try.ntmps31
  go_wp2_with fail
  (with_reducible refine (new_any _ w.heap.size v hc (Nat.le_refl _)).mono ?_); rintro e w1 ⟨rfl, C1, g1⟩
  go_wp2_with fail
  (with_reducible refine (word_any _ _ w.heap.size C1).mono ?_); rintro e w2 ⟨k, rfl, hk, C2, g2⟩
  go_wp2_with fail
  (with_reducible refine (words_any _ _ w.heap.size C2).mono ?_); rintro e w4 ⟨A, n, c, ys, rfl, ⟨hys, hyl⟩, o4, C4, g4⟩
  have hn : n ≤ 4 := by have := o4.1; rw [ints_len] at this; omega
  have HYL := Lib.hid hyl
  clear hyl
  go_wp2
  go_ret2
  have hz : w.heap.size < w2.heap.size := C2.lt
  exact ⟨k, A, n, c, ys, rfl, hk, hys, hn, own_base o4 (Nat.le_of_lt hz), made_below g1 (grown_trans g2 g4)⟩
/-- A key and a short string. -/
def KS (w : World) (e : Ending) (w' : World) : Prop :=
  ∃ (k : Int) (s : ByteArray), e = .returned (.tuple #[.int .i64 k, .string s]) ∧ isWord k ∧ s.size ≤ 4 ∧ Below w.heap.size w w'
set_option maxHeartbeats 800000 in
set_option maxRecDepth 100000 in
theorem deriveFromString (w : World) (v : Value) (hc : C0.Code w w.heap.size v) : Calls Try.prog 36 #[v] w (KS w) := by
  go_enter Try.func36, Try.ntmps36
  go_wp2_with fail
  (with_reducible refine (new_any _ w.heap.size v hc (Nat.le_refl _)).mono ?_); rintro e w1 ⟨rfl, C1, g1⟩
  go_wp2_with fail
  (with_reducible refine (word_any _ _ w.heap.size C1).mono ?_); rintro e w2 ⟨k, rfl, hk, C2, g2⟩
  have HL := Lib.hid (str_lit [⟨#[]⟩, ⟨#[97]⟩, ⟨#[98]⟩, ⟨#[97, 98]⟩, ⟨#[110, 101, 119, 115]⟩, ⟨#[120]⟩] 6 4 rfl w2 _ w.heap.size 9 C2 (by simp) (by simp) (by decide))
  go_wp2_with fail
  refine HL.out.mono ?_; rintro e w3 ⟨s, rfl, hs, C3, g3⟩
  go_wp2
  go_ret2
  exact ⟨k, s, rfl, hk, hs, made_below g1 (grown_trans g2 g3)⟩
end Go.Proofs.Ytbbcmadihfpnlaa.D3
