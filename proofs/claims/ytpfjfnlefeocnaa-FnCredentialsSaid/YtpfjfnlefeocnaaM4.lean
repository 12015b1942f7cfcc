/-
  The group of chapter 4 in plain numbers: powers modulo a number, the elements, inverses of exponents, logarithms.
-/
import Derived.WalkKit
namespace Go.Proofs.Ytpfjfnlefeocnaa.M4
set_option linter.unusedVariables false

/-- The power n of b, modulo m. -/
def pm (m b : Int) (n : Nat) : Int := b ^ n % m
theorem pm_in (m b : Int) (n : Nat) (hm : 0 < m) : 0 ≤ pm m b n ∧ pm m b n < m := ⟨Int.emod_nonneg _ (by omega), Int.emod_lt_of_pos _ hm⟩
theorem pm_mod (m b : Int) (n : Nat) : pm m b n % m = pm m b n := Int.emod_emod _ _
theorem pm_zero (m b : Int) (hm : 1 < m) : pm m b 0 = 1 := by unfold pm; rw [Int.pow_zero]; exact Int.emod_eq_of_lt (by omega) hm
theorem pm_one (m b : Int) (h0 : 0 ≤ b) (h1 : b < m) : pm m b 1 = b := by
  unfold pm; rw [show b ^ 1 = b by rw [Int.pow_succ, Int.pow_zero, Int.one_mul]]; exact Int.emod_eq_of_lt h0 h1
theorem pm_add (m b : Int) (i j : Nat) : pm m b i * pm m b j % m = pm m b (i + j) := by
  unfold pm; rw [← Int.mul_emod, ← Int.pow_add]
theorem pow_mod (m b : Int) (n : Nat) : (b % m) ^ n % m = b ^ n % m := by
  induction n with
  | zero => rw [Int.pow_zero, Int.pow_zero]
  | succ n ih =>
    rw [Int.pow_succ, Int.pow_succ, Int.mul_emod, ih, Int.emod_emod, ← Int.mul_emod]
theorem pm_pm (m b : Int) (i j : Nat) : pm m (pm m b i) j = pm m b (i * j) := by
  unfold pm; rw [pow_mod, ← Int.pow_mul]
theorem pm_mulb (m a b : Int) (n : Nat) : pm m (a * b % m) n = pm m a n * pm m b n % m := by
  unfold pm; rw [pow_mod, Int.mul_pow, Int.mul_emod]
theorem pm_base1 (m : Int) (n : Nat) (hm : 1 < m) : pm m 1 n = 1 := by
  unfold pm; rw [Int.one_pow]; exact Int.emod_eq_of_lt (by omega) hm
theorem pm_base0 (m : Int) (n : Nat) (hn : n ≠ 0) : pm m 0 n = 0 := by
  unfold pm; rw [Int.zero_pow hn]; exact Int.zero_emod _
theorem pm_succ (m b : Int) (n : Nat) (h0 : 0 ≤ b) (h1 : b < m) : pm m b n * b % m = pm m b (n + 1) := by
  rw [← pm_add, pm_one m b h0 h1]

/-- The same of natural numbers, which the kernel reckons. -/
def np (k n m : Nat) : Nat := k ^ n % m
theorem pm_np (m k n : Nat) : pm (m : Int) (k : Int) n = ((np k n m : Nat) : Int) := by unfold pm np; rw [Int.natCast_emod, Int.natCast_pow]
/-- What is left to do of a power by squaring. -/
theorem half_odd (m o g : Int) (n : Nat) (h : n % 2 = 1) : (o * g % m) * (g * g % m) ^ (n / 2) % m = o * g ^ n % m := by
  have e : n = 1 + 2 * (n / 2) := by omega
  conv => rhs; rw [e]
  rw [Int.mul_emod, pow_mod, Int.emod_emod, ← Int.mul_emod, Int.pow_add, Int.pow_mul]
  rw [show g ^ 1 = g by rw [Int.pow_succ, Int.pow_zero, Int.one_mul], show g ^ 2 = g * g by rw [Int.pow_succ, Int.pow_succ, Int.pow_zero, Int.one_mul], Int.mul_assoc]
theorem half_even (m o g : Int) (n : Nat) (h : n % 2 = 0) : o * (g * g % m) ^ (n / 2) % m = o * g ^ n % m := by
  have e : n = 2 * (n / 2) := by omega
  conv => rhs; rw [e]
  rw [Int.mul_emod, pow_mod, ← Int.mul_emod, Int.pow_mul, show g ^ 2 = g * g by rw [Int.pow_succ, Int.pow_succ, Int.pow_zero, Int.one_mul]]

/-- The group's elements. -/
def isEl (x : Int) : Prop := 1 ≤ x ∧ x ≤ 2038 ∧ pm 2039 x 1019 = 1
instance (x : Int) : Decidable (isEl x) := by unfold isEl; exact inferInstance
def el (x : Int) : Bool := decide (isEl x)
theorem el_t {x : Int} (h : isEl x) : el x = true := decide_eq_true h
theorem el_f {x : Int} (h : ¬ isEl x) : el x = false := decide_eq_false h
theorem isEl.lo {x : Int} (h : isEl x) : 1 ≤ x := h.1
theorem isEl.hi {x : Int} (h : isEl x) : x ≤ 2038 := h.2.1
theorem isEl.ord {x : Int} (h : isEl x) : pm 2039 x 1019 = 1 := h.2.2
theorem el_of {x : Int} (h0 : 0 ≤ x) (h1 : x < 2039) (h2 : pm 2039 x 1019 = 1) : isEl x := by
  refine ⟨?_, by omega, h2⟩
  rcases Int.lt_or_le 0 x with h | h
  · omega
  · exfalso
    have e : x = 0 := by omega
    rw [e, pm_base0 _ _ (by omega)] at h2
    omega
theorem el_one : isEl 1 := ⟨by omega, by omega, pm_base1 _ _ (by omega)⟩
theorem el_pow {g : Int} (h : isEl g) (n : Nat) : isEl (pm 2039 g n) := by
  obtain ⟨h0, h1⟩ := pm_in 2039 g n (by omega)
  refine el_of h0 h1 ?_
  rw [pm_pm, Nat.mul_comm, ← pm_pm, h.ord, pm_base1 _ _ (by omega)]
theorem el_mul {a b : Int} (ha : isEl a) (hb : isEl b) : isEl (a * b % 2039) := by
  refine el_of (Int.emod_nonneg _ (by omega)) (Int.emod_lt_of_pos _ (by omega)) ?_
  rw [pm_mulb, ha.ord, hb.ord]; rfl
theorem el_four : isEl 4 := by
  have h : np 4 1019 2039 = 1 := by decide +kernel
  have h2 := pm_np 2039 4 1019
  rw [h] at h2
  exact ⟨by omega, by omega, h2⟩
/-- Exponents count modulo 1019. -/
theorem pm_red {g : Int} (h : isEl g) (n : Nat) : pm 2039 g (n % 1019) = pm 2039 g n := by
  have e : n = 1019 * (n / 1019) + n % 1019 := by omega
  conv => rhs; rw [e]
  rw [← pm_add, ← pm_pm, h.ord, pm_base1 _ _ (by omega), Int.one_mul, pm_mod]
theorem pm_congr {g : Int} (h : isEl g) {i j : Nat} (e : i % 1019 = j % 1019) : pm 2039 g i = pm 2039 g j := by
  rw [← pm_red h i, ← pm_red h j, e]

/-- The inverse of an exponent. -/
def inv (x : Int) : Int := pm 1019 x 1017
theorem fermat : ∀ x : Nat, x < 1019 → x = 0 ∨ np x 1018 1019 = 1 := by decide +kernel
theorem inv_in (x : Int) : 0 ≤ inv x ∧ inv x < 1019 := pm_in 1019 x 1017 (by omega)
theorem inv_mul (x : Int) (h0 : 1 ≤ x) (h1 : x < 1019) : x * inv x % 1019 = 1 := by
  unfold inv
  rw [Int.mul_comm, pm_succ 1019 x 1017 (by omega) h1]
  obtain ⟨k, rfl⟩ : ∃ k : Nat, x = k := ⟨x.toNat, by omega⟩
  rcases fermat k (by omega) with h | h
  · omega
  · have h2 := pm_np 1019 k 1018
    rw [h] at h2
    exact h2
theorem inv_zero : inv 0 = 0 := pm_base0 _ _ (by omega)
theorem inv_pos (x : Int) (h0 : 1 ≤ x) (h1 : x < 1019) : 1 ≤ inv x := by
  obtain ⟨h2, h3⟩ := inv_in x
  have h4 := inv_mul x h0 h1
  rcases Int.lt_or_le 0 (inv x) with h | h
  · omega
  · have e : inv x = 0 := by omega
    rw [e, Int.mul_zero] at h4
    omega
/-- There is no other. -/
theorem inv_uniq (x m : Int) (h0 : 1 ≤ x) (h1 : x < 1019) (hm0 : 0 ≤ m) (hm1 : m < 1019) (h : x * m % 1019 = 1) : m = inv x := by
  have h2 := inv_mul x h0 h1
  obtain ⟨h3, h4⟩ := inv_in x
  have e1 : m * (x * inv x) % 1019 = m % 1019 := by rw [Int.mul_emod, h2, Int.mul_one, Int.emod_emod]
  have e2 : m * (x * inv x) = (x * m) * inv x := by rw [← Int.mul_assoc, Int.mul_comm m x]
  have e3 : (x * m) * inv x % 1019 = inv x % 1019 := by rw [Int.mul_emod, h, Int.one_mul, Int.emod_emod]
  rw [e2, e3, Int.emod_eq_of_lt h3 h4, Int.emod_eq_of_lt hm0 hm1] at e1
  exact e1.symm
theorem inv_none (x : Int) (h0 : 0 ≤ x) (h1 : x < 1019) (h : ∀ m : Nat, 1 ≤ m → m < 1019 → x * (m : Int) % 1019 ≠ 1) : inv x = 0 := by
  rcases Int.lt_or_le 0 x with hx | hx
  · exfalso
    have h3 := inv_pos x (by omega) h1
    have h4 := inv_in x
    obtain ⟨k, hk⟩ : ∃ k : Nat, inv x = k := ⟨(inv x).toNat, by omega⟩
    have h5 := inv_mul x (by omega) h1
    rw [hk] at h5
    exact h k (by omega) (by omega) h5
  · have e : x = 0 := by omega
    rw [e]; exact inv_zero
theorem inv_nz (x : Int) (h0 : 0 ≤ x) (h1 : x < 1019) : inv x = 0 ↔ x = 0 := by
  constructor
  · intro h
    rcases Int.lt_or_le 0 x with hx | hx
    · have := inv_pos x (by omega) h1; omega
    · omega
  · rintro rfl; exact inv_zero
/-- The power of a power by the inverse. -/
theorem pow_inv {g : Int} (h : isEl g) (n : Nat) (h0 : 1 ≤ n) (h1 : n < 1019) : pm 2039 (pm 2039 g n) (inv (n : Int)).toNat = g := by
  rw [pm_pm]
  have h2 := inv_mul (n : Int) (by omega) (by omega)
  obtain ⟨h3, h4⟩ := inv_in (n : Int)
  obtain ⟨k, hk⟩ : ∃ k : Nat, inv (n : Int) = k := ⟨(inv (n : Int)).toNat, by omega⟩
  rw [hk] at h2 ⊢
  have h5 : n * k % 1019 = 1 := by
    have : ((n * k % 1019 : Nat) : Int) = 1 := by rw [Int.natCast_emod, Int.natCast_mul]; exact h2
    omega
  show pm 2039 g (n * k) = g
  rw [← pm_red h, h5, pm_one 2039 g (by have := h.lo; omega) (by have := h.hi; omega)]
/-- No power of an element but 1 is 1 below the order. -/
theorem pow_ne {g : Int} (h : isEl g) (hg : g ≠ 1) (n : Nat) (h0 : 1 ≤ n) (h1 : n < 1019) : pm 2039 g n ≠ 1 := by
  intro e
  have h2 := pow_inv h n h0 h1
  rw [e, pm_base1 _ _ (by omega)] at h2
  exact hg h2.symm
theorem pow_inj {g : Int} (h : isEl g) (hg : g ≠ 1) {i j : Nat} (hij : i < j) (hj : j < 1019) : pm 2039 g i ≠ pm 2039 g j := by
  intro e
  refine pow_ne h hg (j - i) (by omega) (by omega) ?_
  have e1 : pm 2039 g (j - i) = pm 2039 g (j + (1019 - i)) := pm_congr h (by omega)
  rw [e1, ← pm_add, ← e, pm_add, show i + (1019 - i) = 1019 by omega, h.ord]
/-- The logarithm: the least exponent, or -1. -/
def IsLog (g x : Int) (k : Nat) : Prop := k < 1019 ∧ pm 2039 g k = x ∧ ∀ j, j < k → pm 2039 g j ≠ x
open Classical in
noncomputable def dl (g x : Int) : Int := if h : ∃ k : Nat, IsLog g x k then ((Classical.choose h : Nat) : Int) else -1
theorem dl_found {g x : Int} {k : Nat} (hk : IsLog g x k) : dl g x = k := by
  have h : ∃ k : Nat, IsLog g x k := ⟨k, hk⟩
  unfold dl
  rw [dif_pos h]
  have h2 := Classical.choose_spec h
  have : Classical.choose h = k := by
    rcases Nat.lt_trichotomy (Classical.choose h) k with h3 | h3 | h3
    · exact absurd h2.2.1 (hk.2.2 _ h3)
    · exact h3
    · exact absurd hk.2.1 (h2.2.2 _ h3)
  rw [this]
theorem dl_none {g x : Int} (h : ∀ j, j < 1019 → pm 2039 g j ≠ x) : dl g x = -1 := by
  unfold dl
  rw [dif_neg]
  rintro ⟨k, hk⟩
  exact h k hk.1 hk.2.1
theorem dl_pow {g : Int} (h : isEl g) (hg : g ≠ 1) (n : Nat) (hn : n < 1019) : dl g (pm 2039 g n) = n :=
  dl_found ⟨hn, rfl, fun j hj => pow_inj h hg hj hn⟩
/-- PowGroup, MulGroup and DiscreteLog at every argument. -/
def pw (g n : Int) : Int := if isEl g then pm 2039 g (n % 1019).toNat else 0
def ml (a b : Int) : Int := if isEl a ∧ isEl b then a * b % 2039 else 0
noncomputable def lg (g x : Int) : Int := if isEl g ∧ isEl x ∧ g ≠ 1 then dl g x else -1
theorem pw_t {g : Int} (n : Int) (h : isEl g) : pw g n = pm 2039 g (n % 1019).toNat := by unfold pw; rw [if_pos h]
theorem pw_f {g : Int} (n : Int) (h : ¬ isEl g) : pw g n = 0 := by unfold pw; rw [if_neg h]
theorem ml_t {a b : Int} (ha : isEl a) (hb : isEl b) : ml a b = a * b % 2039 := by unfold ml; rw [if_pos ⟨ha, hb⟩]
theorem ml_f {a b : Int} (h : ¬ (isEl a ∧ isEl b)) : ml a b = 0 := by unfold ml; rw [if_neg h]
theorem lg_t {g x : Int} (hg : isEl g) (hx : isEl x) (h1 : g ≠ 1) : lg g x = dl g x := by unfold lg; rw [if_pos ⟨hg, hx, h1⟩]
theorem lg_f {g x : Int} (h : ¬ (isEl g ∧ isEl x ∧ g ≠ 1)) : lg g x = -1 := by unfold lg; rw [if_neg h]
theorem pw_in (g n : Int) : 0 ≤ pw g n ∧ pw g n ≤ 2038 := by
  unfold pw; split
  · have := pm_in 2039 g (n % 1019).toNat (by omega); omega
  · omega
theorem ml_in (a b : Int) : 0 ≤ ml a b ∧ ml a b ≤ 2038 := by
  unfold ml; split
  · have := Int.emod_nonneg (a * b) (show (2039 : Int) ≠ 0 by omega); have := Int.emod_lt_of_pos (a * b) (show (0 : Int) < 2039 by omega); omega
  · omega
theorem pw_el {g : Int} (n : Int) (h : isEl g) : isEl (pw g n) := by rw [pw_t n h]; exact el_pow h _
theorem pw_mod (g n : Int) : pw g (n % 1019) = pw g n := by unfold pw; rw [Int.emod_emod]
theorem pw_nat {g : Int} (n : Nat) (h : isEl g) : pw g (n : Int) = pm 2039 g n := by
  rw [pw_t _ h, show ((n : Int) % 1019).toNat = n % 1019 by omega, pm_red h]
theorem ml_el {a b : Int} (ha : isEl a) (hb : isEl b) : isEl (ml a b) := by rw [ml_t ha hb]; exact el_mul ha hb
/-- Exponents add up. -/
theorem pw_add {g : Int} (h : isEl g) (a b : Int) : ml (pw g a) (pw g b) = pw g (a + b) := by
  rw [ml_t (pw_el a h) (pw_el b h), pw_t a h, pw_t b h, pw_t _ h, pm_add]
  refine pm_congr h ?_
  omega
theorem pw_pw {g : Int} (h : isEl g) (a b : Int) : pw (pw g a) b = pw g (a * b) := by
  rw [pw_t b (pw_el a h), pw_t a h, pw_t _ h, pm_pm]
  refine pm_congr h ?_
  have e : (a * b) % 1019 = ((a % 1019) * (b % 1019)) % 1019 := Int.mul_emod _ _ _
  rw [e]
  obtain ⟨i, hi⟩ : ∃ i : Nat, a % 1019 = i := ⟨(a % 1019).toNat, by omega⟩
  obtain ⟨j, hj⟩ : ∃ j : Nat, b % 1019 = j := ⟨(b % 1019).toNat, by omega⟩
  rw [hi, hj]
  have e2 : ((i : Int) * (j : Int)) % 1019 = ((i * j % 1019 : Nat) : Int) := by rw [Int.natCast_emod, Int.natCast_mul]; rfl
  rw [e2, Int.toNat_natCast, Int.toNat_natCast, Int.toNat_natCast, Nat.mod_mod]
theorem pw_congr {g a b : Int} (e : a % 1019 = b % 1019) : pw g a = pw g b := by unfold pw; rw [e]
theorem pw_one {g : Int} (h : isEl g) {a : Int} (e : a % 1019 = 1) : pw g a = g := by
  rw [pw_t a h, e]
  exact pm_one 2039 g (by have := h.lo; omega) (by have := h.hi; omega)
theorem pw_inv {g : Int} (h : isEl g) (n : Int) (hn : n % 1019 ≠ 0) : pw (pw g n) (inv (n % 1019)) = g := by
  rw [pw_pw h]
  refine pw_one h ?_
  have h2 := inv_mul (n % 1019) (by omega) (by omega)
  rw [Int.mul_emod, ← Int.emod_emod n 1019, ← Int.mul_emod]
  rw [Int.emod_emod]
  exact h2
theorem pw_log {g : Int} (h : isEl g) (hg : g ≠ 1) (n : Int) : lg g (pw g n) = n % 1019 := by
  rw [lg_t h (pw_el n h) hg, pw_t n h, dl_pow h hg _ (by omega)]
  omega
theorem pw_ne {g : Int} (h : isEl g) (hg : g ≠ 1) (n : Int) (hn : n % 1019 ≠ 0) : pw g n ≠ 1 := by
  rw [pw_t n h]
  exact pow_ne h hg _ (by omega) (by omega)
/-- What a bit of the exponent adds. -/
theorem bit_yes (m b : Int) (n k : Nat) (h : n / 2 ^ k % 2 = 1) : pm m b (n % 2 ^ k) * pm m b (2 ^ k) % m = pm m b (n % 2 ^ (k + 1)) := by
  rw [pm_add]
  congr 1
  rw [Nat.pow_succ, Nat.mod_mul, h, Nat.mul_one]
theorem bit_no (m b : Int) (n k : Nat) (h : n / 2 ^ k % 2 = 0) : pm m b (n % 2 ^ k) = pm m b (n % 2 ^ (k + 1)) := by
  congr 1
  rw [Nat.pow_succ, Nat.mod_mul, h, Nat.mul_zero, Nat.add_zero]
theorem sq_next (m b : Int) (k : Nat) : pm m b (2 ^ k) * pm m b (2 ^ k) % m = pm m b (2 ^ (k + 1)) := by
  rw [pm_add]; congr 1; rw [Nat.pow_succ]; omega
end Go.Proofs.Ytpfjfnlefeocnaa.M4
