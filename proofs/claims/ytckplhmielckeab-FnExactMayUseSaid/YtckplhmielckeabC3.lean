/-
  Contracts of chapter 3's hash, of the program and of the model: Hash, KeyedHash, IsValidKey, BytesToInts, DeriveFromString.
-/
import Derived.Test.YtckplhmielckeabS2
import Derived.Test.YtckplhmielckeabC1
import Derived.Test.YtckplhmielckeabM3
import Derived.Test.YtckplhmielckeabSo
import Derived.Test.YtckplhmielckeabC2
namespace Go.Proofs.Ytckplhmielckeab.C3
open Go.ChangeShapes Go.WideShapes Go.ChangeAt Go.RowKit
open S0 S1 M3
set_option linter.unusedVariables false
def okInts (xs : List Int) : Prop := ∀ x ∈ xs, -9223372036854775808 ≤ x ∧ x ≤ 9223372036854775807
theorem okInts.get {xs : List Int} (h : okInts xs) (k : Nat) : -9223372036854775808 ≤ xs.getD k 0 ∧ xs.getD k 0 ≤ 9223372036854775807 := by
  rw [List.getD_eq_getElem?_getD]
  cases e : xs[k]? with
  | none => simp
  | some x => exact h x (List.mem_of_getElem? e)
theorem okInts.app {xs ys : List Int} (h : okInts xs) (h2 : okInts ys) : okInts (xs ++ ys) := by
  intro z hz
  rcases List.mem_append.1 hz with hz | hz
  · exact h z hz
  · exact h2 z hz
theorem okInts.one {x : Int} (h0 : -9223372036854775808 ≤ x) (h1 : x ≤ 9223372036854775807) : okInts [x] := by
  intro z hz
  obtain rfl : z = x := by simpa using hz
  exact ⟨h0, h1⟩
theorem okInts.nil : okInts [] := fun _ h => by cases h
theorem okInts.bytes {xs : List Int} (h : ∀ x ∈ xs, 0 ≤ x ∧ x ≤ 255) : okInts xs := fun x hx => by have := h x hx; omega
/-- Behind k values. -/
def Fold (d0 : Int) (xs : List Int) (k : Nat) (v : Value) (w wr : World) : Prop := ∃ d : Int, v = .int .i64 d ∧ inP d ∧ d = hfrom d0 (xs.take k) ∧ Below w.heap.size w wr
theorem Fold.next {d0 d : Int} {xs : List Int} {k : Nat} {w wr : World} {x d' : Int} (e : d = hfrom d0 (xs.take k)) (hk : k < xs.length) (hx : x = xs.getD k 0) (hd : inP d) (h' : d' = (d * 1000003 + x % 2147483647 + 13) % 2147483647) (hb : Below w.heap.size w wr) : Fold d0 xs (k + 1) (.int .i64 d') w wr := by
  have h2 : d' = hstep d x := h'
  exact ⟨d', rfl, by rw [h2]; exact hstep_in d x, by rw [hfrom_take d0 xs k hk, ← e, ← hx, h2], hb⟩
theorem below_al {w w' : World} {o : Obj} (h : Below (w.alloc o).heap.size (w.alloc o) w') : Below w.heap.size w w' :=
  ((Below.refl _ _).alloc (Nat.le_refl _) o).trans (h.mono (by simp))
def isKey (k : Int) : Bool := decide (1 ≤ k ∧ k ≤ 2147483646)
end Go.Proofs.Ytckplhmielckeab.C3
