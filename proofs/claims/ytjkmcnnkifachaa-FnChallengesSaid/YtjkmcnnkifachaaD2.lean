/-
  Contracts of the draws of chapter 2: whatever the code, slices of bytes and numbers.
-/
import Derived.Test.YtjkmcnnkifachaaC0
import Derived.Test.YtjkmcnnkifachaaSo
import Derived.Test.YtjkmcnnkifachaaC2
namespace Go.Proofs.Ytjkmcnnkifachaa.D2
open Go.ChangeShapes Go.WideShapes Go.ChangeAt Go.RowKit
open C0 S0 S1
set_option linter.unusedVariables false
def bytesOK (ys : List Int) : Prop := ∀ y ∈ ys, 0 ≤ y ∧ y ≤ 255
theorem bytesOK.add {ys : List Int} (h : bytesOK ys) {y : Int} (h0 : 0 ≤ y) (h1 : y ≤ 255) : bytesOK (ys ++ [y]) := by
  intro z hz
  rcases List.mem_append.1 hz with hz | hz
  · exact h z hz
  · obtain rfl : z = y := by simpa using hz
    exact ⟨h0, h1⟩
theorem bytesOK.nil : bytesOK [] := fun _ h => by cases h
theorem bytesOK.app {ys zs : List Int} (h : bytesOK ys) (h2 : bytesOK zs) : bytesOK (ys ++ zs) := by
  intro z hz
  rcases List.mem_append.1 hz with hz | hz
  · exact h z hz
  · exact h2 z hz
/-- The code, as the draws take it. -/
theorem code_of {w : World} {A : Option Addr} {n c : Nat} {xs : List Int} (h : Rd w w.heap.size 1 A n (ints .u8 xs)) (hx : ∀ x ∈ xs, So.okI .u8 x) (hn : n ≤ 140737488351232) : C0.Code w w.heap.size (.slice A n c) := by
  refine ⟨A, n, c, rfl, hn, fun k hk => ?_⟩
  obtain ⟨b, off, rfl, hb, hc⟩ := h.at_ hk
  have := C2.u8_get (fun x hx' => So.okI_u8 (hx x hx')) k
  exact ⟨b, off, _, rfl, hb, hc, this.1, this.2⟩
theorem grown_new {w a b : World} {B : Nat} {row : Option Nat} (h : w.grownBy a (some B)) (hg : a.grownBy b row) (hr : ∀ k, row = some k → w.heap.size ≤ k) : w.grownBy b (some B) :=
  ⟨hg.os.trans h.os, hg.tape.trans h.tape, hg.output.trans h.output, Nat.le_trans h.size hg.size, fun k hk hne => (hg.block k (Nat.lt_of_lt_of_le hk h.size) (fun e => by have := hr k e.symm; omega)).trans (h.block k hk hne)⟩
theorem grown_alloc {w a : World} {B : Nat} (h : w.grownBy a (some B)) (o : Obj) : w.grownBy (a.alloc o) (some B) := grown_new h (World.grownBy_alloc a o none) (fun _ e => by cases e)
/-- A slice of bytes that is drawn: new, the cursor moved on. -/
def DrawnBytes (P : List Int → Prop) (w : World) (B H0 : Nat) (e : Ending) (w' : World) : Prop :=
  ∃ A n c ys, e = .returned (.slice A n c) ∧ P ys ∧ w'.ownsRow w.heap.size 5 1 (.slice A n c) n (ints .u8 ys) ∧ IsCur w' B H0 ∧ w.grownBy w' (some B)
/-- Within the draw: k bytes are there. -/
def Draws (P : List Int → Prop) (w : World) (B H0 k : Nat) (v : Value) (wr : World) : Prop :=
  ∃ ys, P ys ∧ ys.length = k ∧ wr.ownsRow w.heap.size 5 1 v k (ints .u8 ys) ∧ IsCur wr B H0 ∧ w.grownBy wr (some B)
theorem Draws.start (w : World) (B H0 : Nat) (C : IsCur w B H0) : Draws bytesOK w B H0 0 (.slice (some ⟨w.heap.size, 0, none⟩) 0 0) (w.alloc (.cells #[] 5)) :=
  ⟨[], bytesOK.nil, rfl, own_lit w #[] 0 _ _ (Nat.le_refl _) rfl (Nat.zero_le _), C.alloc _, World.grownBy_alloc w _ _⟩
/-- What is owned anew stays while the cursor moves; and the other way. -/
theorem own_cur {w wr w1 : World} {B H0 n : Nat} {E : TypeId} {v : Value} {xs : List Value} (o : wr.ownsRow w.heap.size E 1 v n xs) (hB : B < w.heap.size) (hg : wr.grownBy w1 (some B)) : w1.ownsRow w.heap.size E 1 v n xs := by
  refine o.kept hg ?_
  cases h1 : v.ownBlock with
  | none => exact .inl rfl
  | some k =>
    right
    intro h2
    have := (o.lt k h1).1
    injection h2 with h2
    omega
theorem cur_own {w wr w1 : World} {B H0 n : Nat} {E : TypeId} {v : Value} {xs : List Value} (o : wr.ownsRow w.heap.size E 1 v n xs) (hB : B < w.heap.size) (hH : H0 ≤ w.heap.size) (C : IsCur wr B H0) (hg : wr.grownBy w1 v.ownBlock) : IsCur w1 B H0 := by
  refine C.kept hg (fun e => ?_) (fun r e => ?_)
  · have := (o.lt B e).1; omega
  · have := (o.lt r e).1; omega
theorem Draws.next {w wr w1 w2 : World} {B H0 k : Nat} {v v2 : Value} {ys : List Int} {y : Int} {t : TypeId} (hp : bytesOK ys) (hk : ys.length = k) (ho : wr.ownsRow w.heap.size 5 1 v k (ints .u8 ys)) (hB : B < w.heap.size) (hH : H0 ≤ w.heap.size) (hg : w.grownBy wr (some B)) (h0 : 0 ≤ y) (h1 : y ≤ 255)
    (C1 : IsCur w1 B H0) (hg1 : wr.grownBy w1 (some B)) (ho2 : w2.ownsRow w.heap.size 5 1 v2 (k + 1) (ints .u8 ys ++ [.int .u8 y])) (hg2 : (w1.alloc (.cells #[.int .u8 y] t)).grownBy w2 v.ownBlock) : Draws bytesOK w B H0 (k + 1) v2 w2 := by
  have ho1 := (own_cur (H0 := H0) ho hB hg1).alloc (.cells #[.int .u8 y] t)
  refine ⟨ys ++ [y], hp.add h0 h1, by simp [hk], ?_, cur_own ho1 hB hH (C1.alloc _) hg2, ?_⟩
  · have : ints .u8 (ys ++ [y]) = ints .u8 ys ++ [.int .u8 y] := by simp [ints]
    rw [this]; exact ho2
  · exact grown_new (grown_alloc (grown_trans hg hg1) _) hg2 (fun k hk => (ho1.lt k hk).1)
/-- What a draw of a slice of bytes and a number leaves. -/
def BI (P : List Int → Int → Prop) (w : World) (e : Ending) (w' : World) : Prop :=
  ∃ A n c ys x, e = .returned (.tuple #[.slice A n c, .int .i64 x]) ∧ bytesOK ys ∧ n ≤ 20 ∧ P ys x ∧ w'.ownsRow w.heap.size 5 1 (.slice A n c) n (ints .u8 ys) ∧ Below w.heap.size w w'
end Go.Proofs.Ytjkmcnnkifachaa.D2
