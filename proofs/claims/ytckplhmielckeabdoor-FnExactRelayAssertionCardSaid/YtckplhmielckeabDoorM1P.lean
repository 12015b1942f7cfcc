import Derived.Lib.ItoaNum
import Derived.Lib.ItoaLen
import Derived.Lib.Atoi
import Derived.Lib.AtoiAll
import Derived.Lib.AtoiTie
/-
  Plain facts on decimal numerals: the digits of a number spell it, and Atoi reads them.
-/
namespace Go.Proofs.YtckplhmielckeabDoor.M1P
open Go.Lib

theorem digits_len13 (u : Nat) (h : u ≤ 1000000000000) : (decDigits u).length ≤ 13 := by
  rw [decDigits_length]
  by_cases h0 : u < 1000000000000
  · have : ∀ (k u : Nat), u < 10 ^ k → nDigits u ≤ k + 1 := by
      intro k
      induction k with
      | zero => intro u hu; rw [nDigits_small (by omega)]; omega
      | succ k ih =>
        intro u hu
        by_cases hs : u < 10
        · rw [nDigits_small hs]; omega
        · rw [nDigits_big hs]
          have := ih (u / 10) (by rw [Nat.pow_succ] at hu; omega)
          omega
    have := this 12 u (by omega)
    omega
  · obtain rfl : u = 1000000000000 := by omega
    decide +kernel
end Go.Proofs.YtckplhmielckeabDoor.M1P
