/-
  Boxes, which are structs with a slice of bytes in them: contracts of the laws' own functions: copy, compare, mark, look at the marks, count.
-/
import Derived.Test.YtaodpiikpojikaaDg
import Derived.Deep.WholeRow
namespace Go.Proofs.Ytaodpiikpojikaa.S10
open Go.ChangeShapes Go.WideShapes Go.ChangeAt Go.RowKit
open S0 S1 S9
set_option linter.unusedVariables false
def bxv (t e : Int) (A : Option Addr) (n c : Nat) (m : Int) : Value := .agg #[.int .i64 t, .int .i64 e, .slice A n c, .int .i64 m]
set_option maxHeartbeats 1600000 in
set_option maxRecDepth 100000 in
theorem toBox (w : World) (t e m : Int) (A : Option Addr) (n c : Nat) (xs : List Int) (hr : Rd w w.heap.size 1 A n (ints .u8 xs)) (hn : n ≤ 4294967296) :
    Calls Try.prog 31 #[.agg #[.int .i64 t, .int .i64 e, .slice A n c, .int .i64 m]] w fun ed w' => ∃ A' c', ed = .returned (.agg #[.int .i64 t, .int .i64 e, .slice A' n c', .int .i64 m]) ∧ w'.ownsRow w.heap.size 5 1 (.slice A' n c') n (ints .u8 xs) ∧ Below w.heap.size w w' := by
  have HR := Lib.hid hr
  clear hr
  obtain ⟨w1, hw1⟩ : ∃ x, x = w.alloc (.cells #[.int .i64 t, .int .i64 e, .slice A n c, .int .i64 m] 44) := ⟨_, rfl⟩
  obtain ⟨w2, hw2⟩ : ∃ x, x = w1.alloc (.cells #[.int .i64 0, .int .i64 0, .slice none 0 0, .int .i64 0] 26) := ⟨_, rfl⟩
  obtain ⟨w3, hw3⟩ : ∃ x, x = w2.alloc (.cells #[.int .i64 t, .int .i64 e, .slice none 0 0, .int .i64 0] 26) := ⟨_, rfl⟩
  have s1 : w1.heap.size = w.heap.size + 1 := by rw [hw1]; simp
  have s2 : w2.heap.size = w.heap.size + 2 := by rw [hw2]; simp [s1]
  have s3 : w3.heap.size = w.heap.size + 3 := by rw [hw3]; simp [s2]
  have b1 : Below (w.heap.size + 1) w1 w3 := by
    rw [hw3, hw2]; exact ((Below.refl _ _).alloc (by omega) _).alloc (by simp; omega) _
  have b2 : Below (w.heap.size + 2) w2 w3 := by rw [hw3]; exact (Below.refl _ _).alloc (by omega) _
  have b3 : Below (w.heap.size + 3) w3 w3 := Below.refl _ _
  have bw : Below w.heap.size w w3 := by rw [hw3, hw2, hw1]; exact (((Below.refl _ _).alloc (Nat.le_refl _) _).alloc (by simp) _).alloc (by simp; omega) _
  go_enter Try.func31, Try.ntmps31
  have hs := bw.size
  have R3 := Lib.hid (HR.out.on bw)
  rw [hw3, hw2, hw1] at R3
  go_wp2_with fail
  (with_reducible refine (S1.toByteS _ A n c xs R3.out hn).mono ?_); rintro ed w4 ⟨A1, c1, rfl, o1, b4⟩
  rw [← hw1, ← hw2, ← hw3] at o1 b4
  rw [s3] at o1 b4
  have k1 : Below (w.heap.size + 1) w1 w4 := b1.trans (b4.mono (by omega))
  have k2 : Below (w1.heap.size + 1) w2 w4 := by rw [s1]; exact b2.trans (b4.mono (by omega))
  have k3 : Below (w2.heap.size + 1) w3 w4 := by rw [s2]; exact b3.trans (b4.mono (by omega))
  rw [hw1] at k1
  rw [hw2] at k2
  rw [hw3] at k3
  obtain ⟨p3, _⟩ := var_at k1 w.heap.size rfl 3 _ rfl
  obtain ⟨q0, f0⟩ := var_at k2 (w.heap.size + 1) s1 0 _ rfl
  obtain ⟨q1, f1⟩ := var_at k2 (w.heap.size + 1) s1 1 _ rfl
  obtain ⟨q2, f2⟩ := var_at k2 (w.heap.size + 1) s1 2 _ rfl
  obtain ⟨q3, f3⟩ := var_at k2 (w.heap.size + 1) s1 3 _ rfl
  obtain ⟨r0, e0⟩ := var_at k3 (w.heap.size + 1 + 1) s2 0 _ rfl
  obtain ⟨r1, e1⟩ := var_at k3 (w.heap.size + 1 + 1) s2 1 _ rfl
  obtain ⟨r2, e2⟩ := var_at k3 (w.heap.size + 1 + 1) s2 2 _ rfl
  obtain ⟨r3, e3⟩ := var_at k3 (w.heap.size + 1 + 1) s2 3 _ rfl
  have hb4 := bw.trans (b4.mono (by omega))
  have O1 := Lib.hid o1
  clear hw1 hw2 hw3 s1 s2 s3 b1 b2 b3 k1 k2 k3 bw b4 o1 hs R3
  go_wp2
  have z0 := ((set_block (g := w.heap.size + 1 + 1) (f := w.heap.size + 1) (j := 3) (k := 0) (x := .int .i64 m) (by omega)).trans ((set_block (g := w.heap.size + 1 + 1) (f := w.heap.size + 1) (j := 2) (k := 0) (x := .slice A1 n c1) (by omega)).trans q0))
  have z1 := ((set_block (g := w.heap.size + 1 + 1) (f := w.heap.size + 1) (j := 3) (k := 1) (x := .int .i64 m) (by omega)).trans ((set_block (g := w.heap.size + 1 + 1) (f := w.heap.size + 1) (j := 2) (k := 1) (x := .slice A1 n c1) (by omega)).trans q1))
  have z2 := ((set_block (g := w.heap.size + 1 + 1) (f := w.heap.size + 1) (j := 3) (k := 2) (x := .int .i64 m) (by omega)).trans ((set_block (g := w.heap.size + 1 + 1) (f := w.heap.size + 1) (j := 2) (k := 2) (x := .slice A1 n c1) (by omega)).trans q2))
  have z3 := ((set_block (g := w.heap.size + 1 + 1) (f := w.heap.size + 1) (j := 3) (k := 3) (x := .int .i64 m) (by omega)).trans ((set_block (g := w.heap.size + 1 + 1) (f := w.heap.size + 1) (j := 2) (k := 3) (x := .slice A1 n c1) (by omega)).trans q3))
  obtain ⟨d0, d1, d2, d3⟩ := set_four (x0 := .int .i64 t) (x1 := .int .i64 e) (x2 := .slice A1 n c1) (x3 := .int .i64 m) z0 z1 z2 z3
  have o1 := ownsRow_setCell_below (ownsRow_setCell_below (ownsRow_setCell_below (ownsRow_setCell_below (ownsRow_setCell_below (ownsRow_setCell_below O1.out
    (a := ⟨w.heap.size + 1 + 1, 2, none⟩) (by show w.heap.size + 1 + 1 < _; omega) (.slice A1 n c1))
    (a := ⟨w.heap.size + 1 + 1, 3, none⟩) (by show w.heap.size + 1 + 1 < _; omega) (.int .i64 m))
    (a := ⟨w.heap.size + 1, 0, none⟩) (by show w.heap.size + 1 < _; omega) (.int .i64 t))
    (a := ⟨w.heap.size + 1, 1, none⟩) (by show w.heap.size + 1 < _; omega) (.int .i64 e))
    (a := ⟨w.heap.size + 1, 2, none⟩) (by show w.heap.size + 1 < _; omega) (.slice A1 n c1))
    (a := ⟨w.heap.size + 1, 3, none⟩) (by show w.heap.size + 1 < _; omega) (.int .i64 m)
  clear z0 z1 z2 z3 q0 q1 q2 q3 r0 r1 r2 r3 p3 f0 f1 f2 f3 e0 e1 e2 e3
  refine bodyPost_ret (v := .agg #[.int .i64 t, .int .i64 e, .slice A1 n c1, .int .i64 m]) (by simp [results, Try.results31, go_sem, d0, d1, d2, d3]) rfl ⟨A1, c1, rfl, own_base o1 (by omega), ?_⟩
  exact (((((hb4.setCell (by show w.heap.size ≤ w.heap.size + 1 + 1; omega) _).setCell (by show w.heap.size ≤ w.heap.size + 1 + 1; omega) _).setCell (by show w.heap.size ≤ w.heap.size + 1; omega) _).setCell (by show w.heap.size ≤ w.heap.size + 1; omega) _).setCell (by show w.heap.size ≤ w.heap.size + 1; omega) _).setCell (by show w.heap.size ≤ w.heap.size + 1; omega) _
set_option maxHeartbeats 1600000 in
set_option maxRecDepth 100000 in
theorem eqBox (w : World) (t e m : Int) (A B : Option Addr) (n c d : Nat) (xs : List Int) (ha : Rd w w.heap.size 1 A n (ints .u8 xs)) (hb : Rd w w.heap.size 1 B n (ints .u8 xs)) (hn : n ≤ 4294967296) :
    Calls Try.prog 22 #[.agg #[.int .i64 t, .int .i64 e, .slice A n c, .int .i64 m], .agg #[.int .i64 t, .int .i64 e, .slice B n d, .int .i64 m]] w (Gives (.bool true) w) := by
  have HA := Lib.hid ha
  have HB := Lib.hid hb
  clear ha hb
  obtain ⟨w1, hw1⟩ : ∃ x, x = w.alloc (.cells #[.int .i64 t, .int .i64 e, .slice A n c, .int .i64 m] 26) := ⟨_, rfl⟩
  obtain ⟨w2, hw2⟩ : ∃ x, x = w1.alloc (.cells #[.int .i64 t, .int .i64 e, .slice B n d, .int .i64 m] 26) := ⟨_, rfl⟩
  have s1 : w1.heap.size = w.heap.size + 1 := by rw [hw1]; simp
  have s2 : w2.heap.size = w.heap.size + 2 := by rw [hw2]; simp [s1]
  have bw : Below w.heap.size w w2 := by rw [hw2, hw1]; exact ((Below.refl _ _).alloc (Nat.le_refl _) _).alloc (by simp) _
  have b1 : Below (w.heap.size + 1) w1 w2 := by rw [hw2]; exact (Below.refl _ _).alloc (by omega) _
  have RA := Lib.hid (HA.out.on bw)
  have RB := Lib.hid (HB.out.on bw)
  rw [hw2, hw1] at RA RB
  go_enter Try.func22, Try.ntmps22
  go_wp2_with fail
  (with_reducible refine (S1.eqByteS_t _ A B n c d xs RA.out RB.out hn).mono ?_); rintro ed w4 ⟨rfl, b4⟩
  rw [← hw1, ← hw2] at b4
  rw [s2] at b4
  have k1 : Below (w.heap.size + 1) w1 w4 := b1.trans (b4.mono (by omega))
  have k2 : Below (w1.heap.size + 1) w2 w4 := by rw [s1]; exact b4
  rw [hw1] at k1
  rw [hw2] at k2
  obtain ⟨p3, _⟩ := var_at k1 w.heap.size rfl 3 _ rfl
  obtain ⟨q3, _⟩ := var_at k2 (w.heap.size + 1) s1 3 _ rfl
  have hb4 := bw.trans (b4.mono (by omega))
  clear hw1 hw2 s1 s2 b1 k1 k2 bw b4 RA RB
  go_wp2
  go_ret
  exact ⟨rfl, hb4⟩
set_option maxRecDepth 100000 in
theorem markBox (w : World) (base : Nat) (t e m : Int) (A : Option Addr) (n c : Nat) (xs : List Int) (k : Int) (ho : w.ownsRow base 5 1 (.slice A n c) n (ints .u8 xs)) (hn : n ≤ 4294967296) (hk0 : 0 ≤ k) (hk1 : k ≤ 1099511627776) :
    Calls Try.prog 25 #[.agg #[.int .i64 t, .int .i64 e, .slice A n c, .int .i64 m], .int .i64 k] w fun ed w' => ed = .returned (.int .i64 (k + n)) ∧ w'.ownsRow base 5 1 (.slice A n c) n (ints .u8 (marks fu8 k n)) ∧ w.grownBy w' (Value.slice A n c).ownBlock := by
  have HO := Lib.hid (ho.alloc (.cells #[.int .i64 t, .int .i64 e, .slice A n c, .int .i64 m] 26))
  have hg0 : w.grownBy (w.alloc (.cells #[.int .i64 t, .int .i64 e, .slice A n c, .int .i64 m] 26)) (Value.slice A n c).ownBlock := ⟨rfl, rfl, rfl, by simp, fun j hj _ => Below.heap_alloc w _ j hj⟩
  clear ho
  go_enter Try.func25, Try.ntmps25
  go_wp2_with fail
  (with_reducible refine (S1.markByteS _ base A n c xs k HO.out hn hk0 hk1).mono ?_); rintro ed w4 ⟨rfl, o4, g4⟩
  have O4 := Lib.hid o4
  have G4 := Lib.hid (hg0.trans g4)
  clear o4 g4 hg0
  go_wp2
  go_ret
  exact ⟨rfl, O4.out, G4.out⟩
set_option maxRecDepth 100000 in
theorem heldBox (w : World) (t e m : Int) (A : Option Addr) (n c : Nat) (k : Int) (ho : Rd w w.heap.size 1 A n (ints .u8 (marks fu8 k n))) (hn : n ≤ 4294967296) (hk0 : 0 ≤ k) (hk1 : k ≤ 1099511627776) :
    Calls Try.prog 26 #[.agg #[.int .i64 t, .int .i64 e, .slice A n c, .int .i64 m], .int .i64 k] w (Gives (.int .i64 (k + n)) w) := by
  have bw : Below w.heap.size w (w.alloc (.cells #[.int .i64 t, .int .i64 e, .slice A n c, .int .i64 m] 26)) := (Below.refl _ _).alloc (Nat.le_refl _) _
  have HO := Lib.hid (ho.on bw)
  clear ho
  go_enter Try.func26, Try.ntmps26
  go_wp2_with fail
  (with_reducible refine (S1.heldByteS _ A n c k HO.out hn hk0 hk1).mono ?_); rintro ed w4 ⟨rfl, b4⟩
  have hb := bw.trans (b4.mono bw.size)
  clear b4 bw
  go_wp2
  go_ret
  exact ⟨rfl, hb⟩
theorem szByteS_y (w : World) (A : Option Addr) (n c : Nat) (l : Int) (hl : 0 ≤ l) (hl2 : l ≤ 1048576) (h : (n : Int) ≤ l) : Calls Try.prog 58 #[.slice A n c, .int .i64 l] w (Gives (.int .i64 (l - n)) w) := by
  go_enter Try.func58, Try.ntmps58
  go_wp2
  go_ret
  exact ⟨rfl, Below.refl _ _⟩
theorem szByteS_n (w : World) (A : Option Addr) (n c : Nat) (l : Int) (hn : n ≤ 9223372036854775807) (hl : 0 ≤ l) (hl2 : l ≤ 1048576) (h : l < (n : Int)) : Calls Try.prog 58 #[.slice A n c, .int .i64 l] w (Gives (.int .i64 (-1)) w) := by
  go_enter Try.func58, Try.ntmps58
  go_wp2
  go_ret
  exact ⟨rfl, Below.refl _ _⟩
theorem szBox_y (w : World) (t e m : Int) (A : Option Addr) (n c : Nat) (l : Int) (hl : 0 ≤ l) (hl2 : l ≤ 1048576) (h : (n : Int) ≤ l) : Calls Try.prog 29 #[.agg #[.int .i64 t, .int .i64 e, .slice A n c, .int .i64 m], .int .i64 l] w (Gives (.int .i64 (l - n)) w) := by
  have bw : Below w.heap.size w (w.alloc (.cells #[.int .i64 t, .int .i64 e, .slice A n c, .int .i64 m] 44)) := (Below.refl _ _).alloc (Nat.le_refl _) _
  go_enter Try.func29, Try.ntmps29
  go_wp2_with fail
  (with_reducible refine (szByteS_y _ A n c l hl hl2 h).mono ?_); rintro ed w4 ⟨rfl, b4⟩
  have hb := bw.trans (b4.mono bw.size)
  clear b4 bw
  go_wp2
  go_ret
  exact ⟨rfl, hb⟩
theorem szBox_n (w : World) (t e m : Int) (A : Option Addr) (n c : Nat) (l : Int) (hn : n ≤ 9223372036854775807) (hl : 0 ≤ l) (hl2 : l ≤ 1048576) (h : l < (n : Int)) : Calls Try.prog 29 #[.agg #[.int .i64 t, .int .i64 e, .slice A n c, .int .i64 m], .int .i64 l] w (Gives (.int .i64 (-1)) w) := by
  have bw : Below w.heap.size w (w.alloc (.cells #[.int .i64 t, .int .i64 e, .slice A n c, .int .i64 m] 44)) := (Below.refl _ _).alloc (Nat.le_refl _) _
  go_enter Try.func29, Try.ntmps29
  go_wp2_with fail
  (with_reducible refine (szByteS_n _ A n c l hn hl hl2 h).mono ?_); rintro ed w4 ⟨rfl, b4⟩
  have hb := bw.trans (b4.mono bw.size)
  clear b4 bw
  go_wp2
  go_ret
  exact ⟨rfl, hb⟩
end Go.Proofs.Ytaodpiikpojikaa.S10
