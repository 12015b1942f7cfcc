/-
  Contracts of chapter 5's shares, of the program and of the model, each for every argument at once.
-/
import Derived.Test.YtlndcfpcgcdmgaaC5h
namespace Go.Proofs.Ytlndcfpcgcdmgaa.C5i
open Go.ChangeShapes Go.WideShapes Go.ChangeAt Go.RowKit
open S0 S1 S3 C3 M4 M5 C5 C5b C5c C5d C5e C5f C5g C5h M6
set_option linter.unusedVariables false
open Classical in
noncomputable def areB (xs : List Int) (n : Nat) : Bool := decide (are xs n)
open Classical in
theorem areB_iff (xs : List Int) (n : Nat) : areB xs n = true ↔ are xs n := ⟨fun h => of_decide_eq_true h, fun h => decide_eq_true h⟩
open Classical in
theorem areB_f {xs : List Int} {n : Nat} (h : ¬ are xs n) : areB xs n = false := decide_eq_false h
open Classical in
noncomputable def secN (m : Nat) (n : Int) : Nat := if secB m n then n.toNat else 0
theorem secN_le (m : Nat) (n : Int) : secN m n ≤ 7 := by
  unfold secN; split
  · next h => have := h.2.1; omega
  · omega
open Classical in
noncomputable def refN (xs : List Int) (n : Nat) : Nat := if are xs n then n else 0
theorem refN_le (xs : List Int) (n : Nat) : refN xs n ≤ 7 := by
  unfold refN; split
  · next h => exact h.2.1
  · omega
open Classical in
noncomputable def itV (xs : List Int) (n : Nat) (t : Int) : Int := if are xs n then thr xs n t else 0
open Classical in
noncomputable def misB (xs : List Int) (n : Nat) (i : Int) : Bool := decide (mis xs n i)
open Classical in
theorem misB_t {xs : List Int} {n : Nat} {i : Int} (h : mis xs n i) : misB xs n i = true := decide_eq_true h
open Classical in
theorem misB_f {xs : List Int} {n : Nat} {i : Int} (h : ¬ mis xs n i) : misB xs n i = false := decide_eq_false h
open Classical in
noncomputable def misI (xs : List Int) (n : Nat) (i : Int) : Int := if mis xs n i then i else 0
open Classical in
noncomputable def misV (xs : List Int) (n : Nat) (s i : Int) : Int := if mis xs n i then thr ([0, s] ++ xs) (1 + n) i else 0
theorem specSecret (w : World) (s : Int) (A : Option Addr) (m c : Nat) (n : Int) (cs : List Int) (hs0 : -9223372036854775808 ≤ s) (hs1 : s ≤ 9223372036854775807) (hr : Rd w w.heap.size 1 A m (ints .i64 cs)) (hok : okInts cs) (hm : m ≤ 4294967296) :
    Calls Try.prog 31 #[.int .i64 s, .slice A m c, .int .i64 n] w (MadeS 30 2 (secN m n) (ints .i64 (prs shf (shg s cs) (secN m n))) w) := by
  by_cases h : secB m n
  · obtain ⟨k, rfl⟩ : ∃ k : Nat, n = k := ⟨n.toNat, by have := h.1; omega⟩
    rw [show secN m (k : Int) = k by unfold secN; rw [if_pos h]; simp]
    have h1 := h.2.1
    have h2 := h.2.2
    exact C5g.specSecret w s A m c k cs hs0 hs1 hr hok (by omega) (by omega)
  · rw [show secN m n = 0 by unfold secN; rw [if_neg h]]
    exact C5g.specSecret_f w s A m c n (by omega) h
end Go.Proofs.Ytlndcfpcgcdmgaa.C5i
