/-
  Contracts of chapter 5's shares, of the program and of the model, each for every argument at once.
-/
import Derived.Test.YthmljddgaabnhaaC5h
namespace Go.Proofs.Ythmljddgaabnhaa.C5i
open Go.ChangeShapes Go.WideShapes Go.ChangeAt Go.RowKit
open S0 S1 S3 C3 M4 M5 C5 C5b C5c C5d C5e C5f C5g C5h M6
set_option linter.unusedVariables false
open Classical in
noncomputable def areB (xs : List Int) (n : Nat) : Bool := decide (are xs n)
open Classical in
theorem areB_iff (xs : List Int) (n : Nat) : areB xs n = true ↔ are xs n := ⟨fun h => of_decide_eq_true h, fun h => decide_eq_true h⟩
open Classical in
theorem areB_f {xs : List Int} {n : Nat} (h : ¬ are xs n) : areB xs n = false := decide_eq_false h
open Classical in
noncomputable def secN (m : Nat) (n : Int) : Nat := if secB m n then n.toNat else 0
theorem secN_le (m : Nat) (n : Int) : secN m n ≤ 7 := by
  unfold secN; split
  · next h => have := h.2.1; omega
  · omega
open Classical in
noncomputable def refN (xs : List Int) (n : Nat) : Nat := if are xs n then n else 0
theorem refN_le (xs : List Int) (n : Nat) : refN xs n ≤ 7 := by
  unfold refN; split
  · next h => exact h.2.1
  · omega
open Classical in
noncomputable def itV (xs : List Int) (n : Nat) (t : Int) : Int := if are xs n then thr xs n t else 0
open Classical in
noncomputable def misB (xs : List Int) (n : Nat) (i : Int) : Bool := decide (mis xs n i)
open Classical in
theorem misB_t {xs : List Int} {n : Nat} {i : Int} (h : mis xs n i) : misB xs n i = true := decide_eq_true h
open Classical in
theorem misB_f {xs : List Int} {n : Nat} {i : Int} (h : ¬ mis xs n i) : misB xs n i = false := decide_eq_false h
open Classical in
noncomputable def misI (xs : List Int) (n : Nat) (i : Int) : Int := if mis xs n i then i else 0
open Classical in
noncomputable def misV (xs : List Int) (n : Nat) (s i : Int) : Int := if mis xs n i then thr ([0, s] ++ xs) (1 + n) i else 0
theorem implAre (w : World) (A : Option Addr) (n c : Nat) (xs : List Int) (hr : Rd w w.heap.size 2 A n (ints .i64 xs)) (hok : okInts xs) (hn : n ≤ 4294967296) :
    Calls Try.prog 14 #[.slice A n c] w (Gives (.bool (areB xs n)) w) := C5d.areShares w A n c xs _ (areB_iff xs n) hr hok hn
theorem specAre (w : World) (A : Option Addr) (n c : Nat) (xs : List Int) (hr : Rd w w.heap.size 2 A n (ints .i64 xs)) (hok : okInts xs) (hn : n ≤ 4294967296) :
    Calls Try.prog 28 #[.slice A n c] w (Gives (.bool (areB xs n)) w) := C5f.specAre w A n c xs _ (areB_iff xs n) hr hok hn
theorem implInter (w : World) (t : Int) (A : Option Addr) (n c : Nat) (xs : List Int) (ht0 : -9223372036854775808 ≤ t) (ht1 : t ≤ 9223372036854775807) (hr : Rd w w.heap.size 2 A n (ints .i64 xs)) (hok : okInts xs) (hn : n ≤ 4294967296) :
    Calls Try.prog 17 #[.slice A n c, .int .i64 t] w (Gives (.tuple #[.int .i64 (itV xs n t), .bool (areB xs n)]) w) := by
  by_cases h : are xs n
  · rw [show itV xs n t = thr xs n t by unfold itV; rw [if_pos h], (areB_iff xs n).2 h]
    exact C5d.interpolate w t A n c xs ht0 ht1 hr hok hn h
  · rw [show itV xs n t = 0 by unfold itV; rw [if_neg h], areB_f h]
    exact C5d.interpolate_f w t A n c xs hr hok hn h
theorem specInter (w : World) (t : Int) (A : Option Addr) (n c : Nat) (xs : List Int) (ht0 : -9223372036854775808 ≤ t) (ht1 : t ≤ 9223372036854775807) (hr : Rd w w.heap.size 2 A n (ints .i64 xs)) (hok : okInts xs) (hn : n ≤ 4294967296) :
    Calls Try.prog 31 #[.slice A n c, .int .i64 t] w (Gives (.tuple #[.int .i64 (itV xs n t), .bool (areB xs n)]) w) := by
  by_cases h : are xs n
  · rw [show itV xs n t = thr xs n t by unfold itV; rw [if_pos h], (areB_iff xs n).2 h]
    exact C5g.specInterpolate w t A n c xs ht0 ht1 hr hok hn h
  · rw [show itV xs n t = 0 by unfold itV; rw [if_neg h], areB_f h]
    exact C5g.specInterpolate_f w t A n c xs hr hok hn h
theorem implSecret (w : World) (s : Int) (A : Option Addr) (m c : Nat) (n : Int) (cs : List Int) (hs0 : -9223372036854775808 ≤ s) (hs1 : s ≤ 9223372036854775807) (hr : Rd w w.heap.size 1 A m (ints .i64 cs)) (hok : okInts cs) (hm : m ≤ 4294967296) :
    Calls Try.prog 13 #[.int .i64 s, .slice A m c, .int .i64 n] w (MadeS 34 2 (secN m n) (ints .i64 (prs shf (shg s cs) (secN m n))) w) := by
  by_cases h : secB m n
  · obtain ⟨k, rfl⟩ : ∃ k : Nat, n = k := ⟨n.toNat, by have := h.1; omega⟩
    rw [show secN m (k : Int) = k by unfold secN; rw [if_pos h]; simp]
    have h1 := h.2.1
    have h2 := h.2.2
    exact C5e.shareSecret w s A m c k cs hs0 hs1 hr hok (by omega) (by omega)
  · rw [show secN m n = 0 by unfold secN; rw [if_neg h]]
    exact C5e.shareSecret_f w s A m c n (by omega) h
theorem specSecret (w : World) (s : Int) (A : Option Addr) (m c : Nat) (n : Int) (cs : List Int) (hs0 : -9223372036854775808 ≤ s) (hs1 : s ≤ 9223372036854775807) (hr : Rd w w.heap.size 1 A m (ints .i64 cs)) (hok : okInts cs) (hm : m ≤ 4294967296) :
    Calls Try.prog 20 #[.int .i64 s, .slice A m c, .int .i64 n] w (MadeS 34 2 (secN m n) (ints .i64 (prs shf (shg s cs) (secN m n))) w) := by
  by_cases h : secB m n
  · obtain ⟨k, rfl⟩ : ∃ k : Nat, n = k := ⟨n.toNat, by have := h.1; omega⟩
    rw [show secN m (k : Int) = k by unfold secN; rw [if_pos h]; simp]
    have h1 := h.2.1
    have h2 := h.2.2
    exact C5g.specSecret w s A m c k cs hs0 hs1 hr hok (by omega) (by omega)
  · rw [show secN m n = 0 by unfold secN; rw [if_neg h]]
    exact C5g.specSecret_f w s A m c n (by omega) h
theorem implRef (w : World) (A B : Option Addr) (n c m d : Nat) (xs cs : List Int) (hr : Rd w w.heap.size 2 A n (ints .i64 xs)) (hok : okInts xs) (hrc : Rd w w.heap.size 1 B m (ints .i64 cs)) (hokc : okInts cs) (hn : n ≤ 4294967296) (hm : m ≤ 4294967296) :
    Calls Try.prog 15 #[.slice A n c, .slice B m d] w (MadeS 34 2 (refN xs n) (ints .i64 (prs (rff xs) (rfg xs cs) (refN xs n))) w) := by
  by_cases h : are xs n
  · rw [show refN xs n = n by unfold refN; rw [if_pos h]]
    exact C5e.refresh w A B n c m d xs cs hr hok hrc hokc hm h
  · rw [show refN xs n = 0 by unfold refN; rw [if_neg h]]
    exact C5e.refresh_f w A B n c m d xs hr hok hn h
theorem specRef (w : World) (A B : Option Addr) (n c m d : Nat) (xs cs : List Int) (hr : Rd w w.heap.size 2 A n (ints .i64 xs)) (hok : okInts xs) (hrc : Rd w w.heap.size 1 B m (ints .i64 cs)) (hokc : okInts cs) (hn : n ≤ 4294967296) (hm : m ≤ 4294967296) :
    Calls Try.prog 32 #[.slice A n c, .slice B m d] w (MadeS 34 2 (refN xs n) (ints .i64 (prs (rff xs) (rfg xs cs) (refN xs n))) w) := by
  by_cases h : are xs n
  · rw [show refN xs n = n by unfold refN; rw [if_pos h]]
    exact C5g.specRefresh w A B n c m d xs cs hr hok hrc hokc hm h
  · rw [show refN xs n = 0 by unfold refN; rw [if_neg h]]
    exact C5g.specRefresh_f w A B n c m d xs hr hok hn h
theorem specMis (w : World) (s i : Int) (A : Option Addr) (n c : Nat) (xs : List Int) (hs0 : -9223372036854775808 ≤ s) (hs1 : s ≤ 9223372036854775807) (hr : Rd w w.heap.size 2 A n (ints .i64 xs)) (hok : okInts xs) (hn : n ≤ 4294967296) :
    Calls Try.prog 33 #[.slice A n c, .int .i64 s, .int .i64 i] w (Gives (.tuple #[.agg #[.int .i64 (misI xs n i), .int .i64 (misV xs n s i)], .bool (misB xs n i)]) w) := by
  by_cases h : mis xs n i
  · rw [show misI xs n i = i by unfold misI; rw [if_pos h], show misV xs n s i = thr ([0, s] ++ xs) (1 + n) i by unfold misV; rw [if_pos h], misB_t h]
    exact specMissing w s i A n c xs hs0 hs1 hr hok h
  · rw [show misI xs n i = 0 by unfold misI; rw [if_neg h], show misV xs n s i = 0 by unfold misV; rw [if_neg h], misB_f h]
    exact specMissing_f w s i A n c xs hs0 hs1 hr hok hn h
theorem implMis (w : World) (s i : Int) (A : Option Addr) (n c : Nat) (xs : List Int) (hs0 : -9223372036854775808 ≤ s) (hs1 : s ≤ 9223372036854775807) (hr : Rd w w.heap.size 2 A n (ints .i64 xs)) (hok : okInts xs) (hn : n ≤ 4294967296) :
    Calls Try.prog 18 #[.slice A n c, .int .i64 s, .int .i64 i] w (Gives (.tuple #[.agg #[.int .i64 (misI xs n i), .int .i64 (misV xs n s i)], .bool (misB xs n i)]) w) := by
  by_cases h : mis xs n i
  · rw [show misI xs n i = i by unfold misI; rw [if_pos h], show misV xs n s i = thr ([0, s] ++ xs) (1 + n) i by unfold misV; rw [if_pos h], misB_t h]
    exact missing w s i A n c xs hs0 hs1 hr hok h
  · rw [show misI xs n i = 0 by unfold misI; rw [if_neg h], show misV xs n s i = 0 by unfold misV; rw [if_neg h], misB_f h]
    exact missing_f w s i A n c xs hr hok hn h
end Go.Proofs.Ythmljddgaabnhaa.C5i
