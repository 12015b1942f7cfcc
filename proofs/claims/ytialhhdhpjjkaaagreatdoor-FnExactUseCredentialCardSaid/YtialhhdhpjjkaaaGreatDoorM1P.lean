import Derived.Lib.ItoaNum
import Derived.Lib.ItoaLen
import Derived.Lib.Atoi
import Derived.Lib.AtoiAll
import Derived.Lib.AtoiTie
/-
  Plain facts on decimal numerals: the digits of a number spell it, and Atoi reads them.
-/
namespace Go.Proofs.YtialhhdhpjjkaaaGreatDoor.M1P
open Go.Lib

theorem decFrom_append : ∀ (l r : List UInt8) (acc : Nat), decFrom acc (l ++ r) = (decFrom acc l).bind fun a => decFrom a r
  | [], r, acc => rfl
  | b :: l, r, acc => by
    simp only [List.cons_append, decFrom]
    cases digitVal b with
    | none => rfl
    | some d => exact decFrom_append l r _
theorem digit_ofNat (d : Nat) (h : d < 10) : digitVal (UInt8.ofNat (48 + d)) = some d := by
  unfold digitVal
  have e : (UInt8.ofNat (48 + d)).toNat = 48 + d := by simp; omega
  rw [e, if_pos (by omega)]; congr 1; omega
theorem decFrom_digits (u : Nat) : decFrom 0 (decDigits u) = some u := by
  induction u using Nat.strongRecOn with
  | ind u ih =>
    rw [decDigits]
    by_cases h : u < 10
    · rw [dif_pos h]
      simp only [decFrom, digit_ofNat u h]
      congr 1; omega
    · rw [dif_neg h, decFrom_append, ih (u / 10) (by omega)]
      simp only [Option.bind_some, decFrom, digit_ofNat (u % 10) (by omega)]
      congr 1; omega
theorem digits_ne (u : Nat) : decDigits u ≠ [] := by
  intro h
  have := decDigits_length u
  rw [h] at this
  have h2 : 1 ≤ nDigits u := by
    rw [nDigits]; split <;> omega
  simp at this; omega
theorem digits_len13 (u : Nat) (h : u ≤ 1000000000000) : (decDigits u).length ≤ 13 := by
  rw [decDigits_length]
  by_cases h0 : u < 1000000000000
  · have : ∀ (k u : Nat), u < 10 ^ k → nDigits u ≤ k + 1 := by
      intro k
      induction k with
      | zero => intro u hu; rw [nDigits_small (by omega)]; omega
      | succ k ih =>
        intro u hu
        by_cases hs : u < 10
        · rw [nDigits_small hs]; omega
        · rw [nDigits_big hs]
          have := ih (u / 10) (by rw [Nat.pow_succ] at hu; omega)
          omega
    have := this 12 u (by omega)
    omega
  · obtain rfl : u = 1000000000000 := by omega
    decide +kernel
theorem digits_head (u : Nat) : ∃ c r, decDigits u = c :: r ∧ 48 ≤ c.toNat ∧ c.toNat ≤ 57 := by
  cases h : decDigits u with
  | nil => exact absurd h (digits_ne u)
  | cons c r =>
    have hd := decFrom_digits u
    obtain ⟨d, hd'⟩ := digit_of_decFrom _ _ _ hd 0 c (by rw [h]; rfl)
    obtain ⟨h1, h2, _⟩ := digitVal_eq hd'
    exact ⟨c, r, rfl, h1, h2⟩
theorem atoi_digits (u : Nat) (h : u ≤ 1000000000000) : atoiAll (decDigits u) = .ok (u : Int) := by
  obtain ⟨c, r, e, h1, h2⟩ := digits_head u
  have hm : parseMag (decDigits u) = .ok u := by
    unfold parseMag
    rw [if_neg (digits_ne u), parseUint10_short _ 0 0 (by omega) (by have := digits_len13 u h; omega), decFrom_digits]; rfl
  rw [e] at hm ⊢
  unfold atoiAll
  simp only []
  rw [if_neg (by omega), hm]
  simp only []
  rw [if_neg (by omega), if_neg (by omega), if_neg (by omega)]
end Go.Proofs.YtialhhdhpjjkaaaGreatDoor.M1P
