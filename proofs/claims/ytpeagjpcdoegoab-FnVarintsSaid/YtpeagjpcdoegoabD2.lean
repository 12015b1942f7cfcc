/-
  Contracts of the draws of chapter 2: whatever the code, slices of bytes and numbers.
-/
import Derived.Test.YtpeagjpcdoegoabC0
import Derived.Test.YtpeagjpcdoegoabSo
import Derived.Test.YtpeagjpcdoegoabC2
namespace Go.Proofs.Ytpeagjpcdoegoab.D2
open Go.ChangeShapes Go.WideShapes Go.ChangeAt Go.RowKit
open C0 S0 S1
set_option linter.unusedVariables false
def bytesOK (ys : List Int) : Prop := ∀ y ∈ ys, 0 ≤ y ∧ y ≤ 255
theorem bytesOK.add {ys : List Int} (h : bytesOK ys) {y : Int} (h0 : 0 ≤ y) (h1 : y ≤ 255) : bytesOK (ys ++ [y]) := by
  intro z hz
  rcases List.mem_append.1 hz with hz | hz
  · exact h z hz
  · obtain rfl : z = y := by simpa using hz
    exact ⟨h0, h1⟩
theorem bytesOK.nil : bytesOK [] := fun _ h => by cases h
theorem bytesOK.app {ys zs : List Int} (h : bytesOK ys) (h2 : bytesOK zs) : bytesOK (ys ++ zs) := by
  intro z hz
  rcases List.mem_append.1 hz with hz | hz
  · exact h z hz
  · exact h2 z hz
/-- The code, as the draws take it. -/
theorem code_of {w : World} {A : Option Addr} {n c : Nat} {xs : List Int} (h : Rd w w.heap.size 1 A n (ints .u8 xs)) (hx : ∀ x ∈ xs, So.okI .u8 x) (hn : n ≤ 140737488351232) : C0.Code w w.heap.size (.slice A n c) := by
  refine ⟨A, n, c, rfl, hn, fun k hk => ?_⟩
  obtain ⟨b, off, rfl, hb, hc⟩ := h.at_ hk
  have := C2.u8_get (fun x hx' => So.okI_u8 (hx x hx')) k
  exact ⟨b, off, _, rfl, hb, hc, this.1, this.2⟩
theorem grown_new {w a b : World} {B : Nat} {row : Option Nat} (h : w.grownBy a (some B)) (hg : a.grownBy b row) (hr : ∀ k, row = some k → w.heap.size ≤ k) : w.grownBy b (some B) :=
  ⟨hg.os.trans h.os, hg.tape.trans h.tape, hg.output.trans h.output, Nat.le_trans h.size hg.size, fun k hk hne => (hg.block k (Nat.lt_of_lt_of_le hk h.size) (fun e => by have := hr k e.symm; omega)).trans (h.block k hk hne)⟩
theorem grown_alloc {w a : World} {B : Nat} (h : w.grownBy a (some B)) (o : Obj) : w.grownBy (a.alloc o) (some B) := grown_new h (World.grownBy_alloc a o none) (fun _ e => by cases e)
/-- A slice of bytes that is drawn: new, the cursor moved on. -/
def DrawnBytes (P : List Int → Prop) (w : World) (B H0 : Nat) (e : Ending) (w' : World) : Prop :=
  ∃ A n c ys, e = .returned (.slice A n c) ∧ P ys ∧ w'.ownsRow w.heap.size 5 1 (.slice A n c) n (ints .u8 ys) ∧ IsCur w' B H0 ∧ w.grownBy w' (some B)
/-- Within the draw: k bytes are there. -/
def Draws (P : List Int → Prop) (w : World) (B H0 k : Nat) (v : Value) (wr : World) : Prop :=
  ∃ ys, P ys ∧ ys.length = k ∧ wr.ownsRow w.heap.size 5 1 v k (ints .u8 ys) ∧ IsCur wr B H0 ∧ w.grownBy wr (some B)
theorem Draws.start (w : World) (B H0 : Nat) (C : IsCur w B H0) : Draws bytesOK w B H0 0 (.slice (some ⟨w.heap.size, 0, none⟩) 0 0) (w.alloc (.cells #[] 5)) :=
  ⟨[], bytesOK.nil, rfl, own_lit w #[] 0 _ _ (Nat.le_refl _) rfl (Nat.zero_le _), C.alloc _, World.grownBy_alloc w _ _⟩
/-- What is owned anew stays while the cursor moves; and the other way. -/
theorem own_cur {w wr w1 : World} {B H0 n : Nat} {E : TypeId} {v : Value} {xs : List Value} (o : wr.ownsRow w.heap.size E 1 v n xs) (hB : B < w.heap.size) (hg : wr.grownBy w1 (some B)) : w1.ownsRow w.heap.size E 1 v n xs := by
  refine o.kept hg ?_
  cases h1 : v.ownBlock with
  | none => exact .inl rfl
  | some k =>
    right
    intro h2
    have := (o.lt k h1).1
    injection h2 with h2
    omega
theorem cur_own {w wr w1 : World} {B H0 n : Nat} {E : TypeId} {v : Value} {xs : List Value} (o : wr.ownsRow w.heap.size E 1 v n xs) (hB : B < w.heap.size) (hH : H0 ≤ w.heap.size) (C : IsCur wr B H0) (hg : wr.grownBy w1 v.ownBlock) : IsCur w1 B H0 := by
  refine C.kept hg (fun e => ?_) (fun r e => ?_)
  · have := (o.lt B e).1; omega
  · have := (o.lt r e).1; omega
theorem Draws.next {w wr w1 w2 : World} {B H0 k : Nat} {v v2 : Value} {ys : List Int} {y : Int} {t : TypeId} (hp : bytesOK ys) (hk : ys.length = k) (ho : wr.ownsRow w.heap.size 5 1 v k (ints .u8 ys)) (hB : B < w.heap.size) (hH : H0 ≤ w.heap.size) (hg : w.grownBy wr (some B)) (h0 : 0 ≤ y) (h1 : y ≤ 255)
    (C1 : IsCur w1 B H0) (hg1 : wr.grownBy w1 (some B)) (ho2 : w2.ownsRow w.heap.size 5 1 v2 (k + 1) (ints .u8 ys ++ [.int .u8 y])) (hg2 : (w1.alloc (.cells #[.int .u8 y] t)).grownBy w2 v.ownBlock) : Draws bytesOK w B H0 (k + 1) v2 w2 := by
  have ho1 := (own_cur (H0 := H0) ho hB hg1).alloc (.cells #[.int .u8 y] t)
  refine ⟨ys ++ [y], hp.add h0 h1, by simp [hk], ?_, cur_own ho1 hB hH (C1.alloc _) hg2, ?_⟩
  · have : ints .u8 (ys ++ [y]) = ints .u8 ys ++ [.int .u8 y] := by simp [ints]
    rw [this]; exact ho2
  · exact grown_new (grown_alloc (grown_trans hg hg1) _) hg2 (fun k hk => (ho1.lt k hk).1)
set_option maxHeartbeats 800000 in
theorem bytes_any (w : World) (B H0 n : Nat) (C : IsCur w B H0) (hn : n ≤ 1000) : Calls Try.prog 30 #[.pointer (some ⟨B, 0, none⟩), .int .i64 n] w (DrawnBytes (fun ys => bytesOK ys ∧ ys.length = n) w B H0) := by
  have hB := C.lt
  have hH : H0 ≤ w.heap.size := by have := C.low; omega
  have HD := Draws.start w B H0 C
  clear C
  go_enter Try.func30, Try.ntmps30
  go_wp2
  go_loopw [5, 6] (fun v i wr => ∃ k : Nat, k ≤ n ∧ i = .int .i64 k ∧ Draws bytesOK w B H0 k v wr) (fun _ i _ => n - (intOf i).toNat)
  case atStart => exact ⟨0, by omega, rfl, HD⟩
  case round =>
    obtain ⟨k, hk, rfl, ys, hp, hyl, ho, C, hg⟩ := hrel
    have HYL := Lib.hid hyl
    clear hyl
    by_cases hlt : k < n
    · go_wp2_with fail
      (with_reducible refine (byte_any _ B H0 C).mono ?_); rintro e w1 ⟨y, rfl, ⟨h0, h1⟩, C1, hg1⟩
      have ho1 := own_cur (H0 := H0) ho hB hg1
      have hz := hg.size
      have hz1 := hg1.size
      go_wp2_with (at_builtin; refine appB _ rfl _ _ rfl w.heap.size _ _ _ rfl (ho1.alloc _) _ _ 1 1 [.int .u8 y] rfl (rd_one _ _ _) (one_int .u8 _) (by omega) (by simp; omega) ?_; intro v2 w2 ho2 hg2)
      go_roundw
      case rel => exact ⟨k + 1, by omega, by go_num, Draws.next hp HYL.out ho hB hH hg h0 h1 C1 hg1 ho2 hg2⟩
      case measure => simp [intOf]; omega
    · obtain rfl : k = n := by omega
      obtain ⟨A1, c1, rfl⟩ := own_nil_form ho
      go_wp2
      go_ret
      exact ⟨A1, k, c1, ys, rfl, ⟨hp, HYL.out⟩, ho, C, hg⟩
theorem bytes_is (w : World) (B H0 n : Nat) (x : Int) (hx : x = n) (C : IsCur w B H0) (hn : n ≤ 1000) : Calls Try.prog 30 #[.pointer (some ⟨B, 0, none⟩), .int .i64 x] w (DrawnBytes (fun ys => bytesOK ys ∧ ys.length = n) w B H0) := by
  subst hx; exact bytes_any w B H0 n C hn
/-- What a draw of a slice of bytes and a number leaves. -/
def BI (P : List Int → Int → Prop) (w : World) (e : Ending) (w' : World) : Prop :=
  ∃ A n c ys x, e = .returned (.tuple #[.slice A n c, .int .i64 x]) ∧ bytesOK ys ∧ n ≤ 20 ∧ P ys x ∧ w'.ownsRow w.heap.size 5 1 (.slice A n c) n (ints .u8 ys) ∧ Below w.heap.size w w'
set_option maxHeartbeats 800000 in
theorem appendUvarint (w : World) (v : Value) (hc : C0.Code w w.heap.size v) : Calls Try.prog 9 #[v] w (BI (fun _ x => isI64 x) w) := by
  go_enter Try.func9, Try.ntmps9
  go_wp2_with fail
  (with_reducible refine (new_any _ w.heap.size v hc (Nat.le_refl _)).mono ?_); rintro e w1 ⟨rfl, C1, g1⟩
  go_wp2_with fail
  (with_reducible refine (below_any _ _ w.heap.size 3 C1).mono ?_); rintro e w2 ⟨x, rfl, ⟨hx0, hx1⟩, C2, g2⟩
  obtain ⟨k, rfl⟩ : ∃ k : Nat, x = k := ⟨x.toNat, by omega⟩
  have hk : k ≤ 3 := by omega
  clear hx1
  go_wp2_with fail
  (with_reducible refine (bytes_any _ _ w.heap.size k C2 (by omega)).mono ?_); rintro e w3 ⟨A, n, c, ys, rfl, ⟨hys, hyl⟩, o3, C3, g3⟩
  have hn : n ≤ 20 := by have := o3.1; rw [ints_len] at this; omega
  have HYL := Lib.hid hyl
  clear hyl
  go_wp2_with fail
  (with_reducible refine (one_any _ _ w.heap.size C3).mono ?_); rintro e w4 ⟨y, rfl, hy, C4, g4⟩
  go_wp2
  go_ret2
  have hz : w.heap.size < w2.heap.size := C2.lt
  exact ⟨A, n, c, ys, y, rfl, hys, hn, hy, own_base (own_cur (H0 := w.heap.size) o3 hz g4) (Nat.le_of_lt hz), made_below g1 (grown_trans (grown_trans g2 g3) g4)⟩
theorem Draws.drop {w wr : World} {B H0 k : Nat} {v : Value} (h : Draws bytesOK w B H0 k v wr) : ∃ ys, bytesOK ys ∧ ys.length = k ∧ wr.ownsRow w.heap.size 5 1 v k (ints .u8 ys) ∧ IsCur wr B H0 ∧ w.grownBy wr (some B) := h
set_option maxHeartbeats 1600000 in
set_option maxRecDepth 100000 in
theorem readUvarint (w : World) (v : Value) (hc : C0.Code w w.heap.size v) : Calls Try.prog 13 #[v] w (BI (fun _ x => -1 ≤ x ∧ x ≤ 3) w) := by
  go_enter Try.func13, Try.ntmps13
  go_wp2_with fail
  (with_reducible refine (new_any _ w.heap.size v hc (Nat.le_refl _)).mono ?_); rintro e w1 ⟨rfl, C1, g1⟩
  go_wp2_with fail
  (with_reducible refine (once_any _ _ w.heap.size 2 C1).mono ?_); rintro e w2 ⟨b, rfl, C2, g2⟩
  have hz : w.heap.size < w2.heap.size := C2.lt
  cases b
  · have HD := Draws.start w2 w.heap.size w.heap.size C2
    go_wp2_with fail
    (with_reducible refine (below_any _ _ w.heap.size 8 (C2.alloc _)).mono ?_); rintro e w3 ⟨x, rfl, ⟨hx0, hx1⟩, C3, g3⟩
    obtain ⟨m, rfl⟩ : ∃ m : Nat, x = m := ⟨x.toNat, by omega⟩
    have hm : m ≤ 8 := by omega
    have HD3 : Draws bytesOK w2 w.heap.size w.heap.size 0 (.slice (some ⟨w2.heap.size, 0, none⟩) 0 0) w3 := by
      obtain ⟨ys, h1, h2, h3, h4, h5⟩ := HD
      exact ⟨ys, h1, h2, own_cur (H0 := w.heap.size) h3 hz g3, C3, grown_trans h5 g3⟩
    clear HD hx1
    go_wp2
    go_loopw [5, 6] (fun u i wr => ∃ (k j : Nat), k + j = m ∧ i = .int .i64 j ∧ Draws bytesOK w2 w.heap.size w.heap.size k u wr) (fun _ i _ => (intOf i).toNat)
    case atStart => exact ⟨0, m, by omega, rfl, HD3⟩
    case round =>
      obtain ⟨k, j, hkj, rfl, ys, hp, hyl, ho, C, hg⟩ := hrel
      have HYL := Lib.hid hyl
      have HKJ := Lib.hid hkj
      have hj8 : j ≤ 8 := by omega
      have hk8 : k ≤ 8 := by omega
      clear hyl hkj
      by_cases hlt : 0 < j
      · have HL := Lib.hid (int_lit [128, 255, 0, 1, 127] 5 rfl wr w.heap.size w.heap.size 3 C (by simp) (by simp) isByte (by simp [isByte]))
        go_wp2_with fail
        refine HL.out.mono ?_; rintro e w4 ⟨y, rfl, ⟨h0, h1⟩, C4, g4⟩
        have ho1 := own_cur (H0 := w.heap.size) ho hz g4
        have hz3 := hg.size
        have hz4 := g4.size
        go_wp2_with (at_builtin; refine appB _ rfl _ _ rfl w2.heap.size _ _ _ rfl (ho1.alloc _) _ _ 1 1 [.int .u8 y] rfl (rd_one _ _ _) (one_int .u8 _) (by omega) (by simp; omega) ?_; intro v2 w5 ho2 hg2)
        go_roundw
        case rel => exact ⟨k + 1, j - 1, by have := HKJ.out; omega, by go_num, Draws.next hp HYL.out ho hz (Nat.le_of_lt hz) hg h0 h1 C4 g4 ho2 hg2⟩
        case measure => simp [intOf]; omega
      · obtain rfl : j = 0 := by omega
        obtain ⟨A1, c1, rfl⟩ := own_nil_form ho
        go_wp2_with fail
        (with_reducible refine (below_any _ _ w.heap.size 4 C).mono ?_); rintro e w4 ⟨y, rfl, ⟨h0, h1⟩, C4, g4⟩
        have h1' : y ≤ 3 := by omega
        clear h1
        go_wp2
        go_ret2
        exact ⟨A1, k, c1, ys, y - 1, rfl, hp, by omega, ⟨by omega, by omega⟩, own_base (own_cur (H0 := w.heap.size) ho hz g4) (Nat.le_of_lt hz), made_below g1 (grown_trans (grown_trans g2 hg) g4)⟩
  · go_wp2_with fail
    (with_reducible refine (bytes_is _ _ w.heap.size 1 1 rfl C2 (by omega)).mono ?_); rintro e w3 ⟨A, n, c, ys, rfl, ⟨hys, hyl⟩, o3, C3, g3⟩
    have hn : n = 1 := by have := o3.1; rw [ints_len] at this; omega
    subst hn
    have HYL := Lib.hid hyl
    clear hyl
    go_wp2_with fail
    (with_reducible refine (num_any _ _ w.heap.size C3).mono ?_); rintro e w4 ⟨y, rfl, hy, C4, g4⟩
    have o4 := own_cur (H0 := w.heap.size) o3 hz g4
    have he := M2.enc_len y
    go_wp2_with fail
    (with_reducible refine (Go.Proofs.Ytpeagjpcdoegoab.C2.specAppend _ _ _ _ ys y (Rd.own o4) (by omega)).mono ?_); rintro e w5 ⟨A5, c5, rfl, o5, b5⟩
    go_wp2
    go_ret2
    have hB := made_below g1 (grown_trans (grown_trans g2 g3) g4)
    exact ⟨A5, _, c5, _, 1, rfl, hys.app (M2.enc_ok y), by omega, ⟨by omega, by omega⟩, own_base o5 hB.size, hB.trans (b5.mono hB.size)⟩
def BB (w : World) (e : Ending) (w' : World) : Prop :=
  ∃ A n c ys A2 m d zs, e = .returned (.tuple #[.slice A n c, .slice A2 m d]) ∧ bytesOK ys ∧ n ≤ 20 ∧ bytesOK zs ∧ m ≤ 20 ∧ w'.ownsRow w.heap.size 5 1 (.slice A n c) n (ints .u8 ys) ∧ w'.ownsRow w.heap.size 5 1 (.slice A2 m d) m (ints .u8 zs) ∧ Below w.heap.size w w'
set_option maxHeartbeats 800000 in
theorem appendBytes (w : World) (v : Value) (hc : C0.Code w w.heap.size v) : Calls Try.prog 15 #[v] w (BB w) := by
  go_enter Try.func15, Try.ntmps15
  go_wp2_with fail
  (with_reducible refine (new_any _ w.heap.size v hc (Nat.le_refl _)).mono ?_); rintro e w1 ⟨rfl, C1, g1⟩
  go_wp2_with fail
  (with_reducible refine (below_any _ _ w.heap.size 3 C1).mono ?_); rintro e w2 ⟨x, rfl, ⟨hx0, hx1⟩, C2, g2⟩
  obtain ⟨k, rfl⟩ : ∃ k : Nat, x = k := ⟨x.toNat, by omega⟩
  have hk : k ≤ 3 := by omega
  clear hx1
  go_wp2_with fail
  (with_reducible refine (bytes_any _ _ w.heap.size k C2 (by omega)).mono ?_); rintro e w3 ⟨A, n, c, ys, rfl, ⟨hys, hyl⟩, o3, C3, g3⟩
  have hn : n ≤ 20 := by have := o3.1; rw [ints_len] at this; omega
  have HYL := Lib.hid hyl
  clear hyl
  go_wp2_with fail
  (with_reducible refine (below_any _ _ w.heap.size 6 C3).mono ?_); rintro e w4 ⟨y, rfl, ⟨hy0, hy1⟩, C4, g4⟩
  obtain ⟨j, rfl⟩ : ∃ j : Nat, y = j := ⟨y.toNat, by omega⟩
  have hj : j ≤ 6 := by omega
  clear hy1
  go_wp2_with fail
  (with_reducible refine (bytes_any _ _ w.heap.size j C4 (by omega)).mono ?_); rintro e w5 ⟨A2, m, d, zs, rfl, ⟨hzs, hzl⟩, o5, C5, g5⟩
  have hm : m ≤ 20 := by have := o5.1; rw [ints_len] at this; omega
  have HZL := Lib.hid hzl
  clear hzl
  go_wp2
  go_ret2
  have hz : w.heap.size < w2.heap.size := C2.lt
  have hz4 : w.heap.size < w4.heap.size := C4.lt
  exact ⟨A, n, c, ys, A2, m, d, zs, rfl, hys, hn, hzs, hm, own_base (own_cur (H0 := w.heap.size) (own_cur (H0 := w.heap.size) o3 hz g4) hz g5) (Nat.le_of_lt hz), own_base o5 (Nat.le_of_lt hz4), made_below g1 (grown_trans (grown_trans (grown_trans g2 g3) g4) g5)⟩
end Go.Proofs.Ytpeagjpcdoegoab.D2
