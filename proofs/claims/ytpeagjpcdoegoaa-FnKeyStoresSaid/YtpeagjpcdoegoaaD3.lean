/-
  Contracts of the draws of chapter 3: a number about Modulus, a list of such, a key and what it goes with.
-/
import Derived.Test.YtpeagjpcdoegoaaD2
namespace Go.Proofs.Ytpeagjpcdoegoaa.D3
open Go.ChangeShapes Go.WideShapes Go.ChangeAt Go.RowKit
open C0 S0 S1 D2
set_option linter.unusedVariables false
def isWord (x : Int) : Prop := -1 ≤ x ∧ x ≤ 2147483648
def words (ys : List Int) : Prop := ∀ y ∈ ys, isWord y
theorem words.add {ys : List Int} (h : words ys) {y : Int} (hy : isWord y) : words (ys ++ [y]) := by
  intro z hz
  rcases List.mem_append.1 hz with hz | hz
  · exact h z hz
  · obtain rfl : z = y := by simpa using hz
    exact hy
theorem words.nil : words [] := fun _ h => by cases h
/-- A list of numbers that is drawn: new, the cursor moved on. -/
def DrawnInts (P : List Int → Prop) (w : World) (B H0 : Nat) (e : Ending) (w' : World) : Prop :=
  ∃ A n c ys, e = .returned (.slice A n c) ∧ P ys ∧ w'.ownsRow w.heap.size 3 1 (.slice A n c) n (ints .i64 ys) ∧ IsCur w' B H0 ∧ w.grownBy w' (some B)
def DrawsI (P : List Int → Prop) (w : World) (B H0 k : Nat) (v : Value) (wr : World) : Prop :=
  ∃ ys, P ys ∧ ys.length = k ∧ wr.ownsRow w.heap.size 3 1 v k (ints .i64 ys) ∧ IsCur wr B H0 ∧ w.grownBy wr (some B)
theorem DrawsI.start (w : World) (B H0 : Nat) (C : IsCur w B H0) : DrawsI words w B H0 0 (.slice (some ⟨w.heap.size, 0, none⟩) 0 0) (w.alloc (.cells #[] 3)) :=
  ⟨[], words.nil, rfl, own_lit w #[] 0 _ _ (Nat.le_refl _) rfl (Nat.zero_le _), C.alloc _, World.grownBy_alloc w _ _⟩
theorem DrawsI.next {w wr w1 w2 : World} {B H0 k : Nat} {v v2 : Value} {ys : List Int} {y : Int} {t : TypeId} (hp : words ys) (hk : ys.length = k) (ho : wr.ownsRow w.heap.size 3 1 v k (ints .i64 ys)) (hB : B < w.heap.size) (hH : H0 ≤ w.heap.size) (hg : w.grownBy wr (some B)) (hy : isWord y)
    (C1 : IsCur w1 B H0) (hg1 : wr.grownBy w1 (some B)) (ho2 : w2.ownsRow w.heap.size 3 1 v2 (k + 1) (ints .i64 ys ++ [.int .i64 y])) (hg2 : (w1.alloc (.cells #[.int .i64 y] t)).grownBy w2 v.ownBlock) : DrawsI words w B H0 (k + 1) v2 w2 := by
  have ho1 := (own_cur (H0 := H0) ho hB hg1).alloc (.cells #[.int .i64 y] t)
  refine ⟨ys ++ [y], hp.add hy, by simp [hk], ?_, cur_own ho1 hB hH (C1.alloc _) hg2, ?_⟩
  · have : ints .i64 (ys ++ [y]) = ints .i64 ys ++ [.int .i64 y] := by simp [ints]
    rw [this]; exact ho2
  · exact grown_new (grown_alloc (grown_trans hg hg1) _) hg2 (fun k hk => (ho1.lt k hk).1)
end Go.Proofs.Ytpeagjpcdoegoaa.D3
