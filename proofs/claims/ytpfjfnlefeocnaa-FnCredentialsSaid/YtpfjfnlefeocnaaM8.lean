/-
  The keys of chapter 6 in plain numbers: public and private keys modulo 2147483647, powers by squaring, signatures.
-/
import Derived.Test.YtpfjfnlefeocnaaM4
import Derived.Test.YtpfjfnlefeocnaaM3
namespace Go.Proofs.Ytpfjfnlefeocnaa.M8
open M3 M4
set_option linter.unusedVariables false
theorem inv_ok : (48271 * 1899818559 : Int) % 2147483647 = 1 := by decide
theorem there (u : Int) (h0 : 0 ≤ u) (h1 : u ≤ 2147483646) : u * 1899818559 % 2147483647 * 48271 % 2147483647 = u := by
  rw [Int.mul_emod, Int.emod_emod, ← Int.mul_emod, Int.mul_assoc]
  omega
theorem back (k : Int) (h0 : 0 ≤ k) (h1 : k ≤ 2147483646) : k * 48271 % 2147483647 * 1899818559 % 2147483647 = k := by
  rw [Int.mul_emod, Int.emod_emod, ← Int.mul_emod, Int.mul_assoc]
  omega
/-- A valid key. -/
def key (k : Int) : Prop := 1 ≤ k ∧ k ≤ 2147483646
instance (k : Int) : Decidable (key k) := by unfold key; infer_instance
def pub (k : Int) : Int := if key k then k * 48271 % 2147483647 else 0
def prv (u : Int) : Int := if key u then u * 1899818559 % 2147483647 else 0
theorem pub_key {k : Int} (h : key k) : key (pub k) := by
  have e := back k (by have := h.1; omega) h.2
  unfold pub
  rw [if_pos h]
  have h1 := h.1
  refine ⟨?_, by omega⟩
  rcases Int.lt_or_le (k * 48271 % 2147483647) 1 with h2 | h2
  · have : k * 48271 % 2147483647 = 0 := by omega
    rw [this] at e
    omega
  · exact h2
theorem prv_key {u : Int} (h : key u) : key (prv u) := by
  have e := there u (by have := h.1; omega) h.2
  unfold prv
  rw [if_pos h]
  have h1 := h.1
  refine ⟨?_, by omega⟩
  rcases Int.lt_or_le (u * 1899818559 % 2147483647) 1 with h2 | h2
  · have : u * 1899818559 % 2147483647 = 0 := by omega
    rw [this] at e
    omega
  · exact h2
theorem pub_prv {u : Int} (h : key u) : pub (prv u) = u := by
  have h2 := prv_key h
  unfold pub
  rw [if_pos h2]
  unfold prv
  rw [if_pos h]
  exact there u (by have := h.1; omega) h.2
theorem prv_pub {k : Int} (h : key k) : prv (pub k) = k := by
  have h2 := pub_key h
  unfold prv
  rw [if_pos h2]
  unfold pub
  rw [if_pos h]
  exact back k (by have := h.1; omega) h.2
theorem pub_in (k : Int) : 0 ≤ pub k ∧ pub k ≤ 2147483646 := by unfold pub; split <;> omega
theorem prv_in (u : Int) : 0 ≤ prv u ∧ prv u ≤ 2147483646 := by unfold prv; split <;> omega
theorem prv_f {u : Int} (h : ¬ key u) : prv u = 0 := by unfold prv; rw [if_neg h]
theorem pub_f {k : Int} (h : ¬ key k) : pub k = 0 := by unfold pub; rw [if_neg h]
theorem prv_zero (u : Int) : prv u = 0 ↔ ¬ key u := by
  constructor
  · intro e h
    have := (prv_key h).1
    omega
  · exact prv_f
/-- A power by squaring, as the kernel reckons it. -/
def runp : Nat → Int → Nat → Int → Int
  | 0, _, _, o => o
  | f + 1, g, n, o => if n = 0 then o else runp f (g * g % 2147483647) (n / 2) (if n % 2 = 1 then o * g % 2147483647 else o)
theorem runp_is : ∀ (f : Nat) (g : Int) (n : Nat) (o : Int), n < 2 ^ f → runp f g n o % 2147483647 = o * g ^ n % 2147483647 := by
  intro f
  induction f with
  | zero =>
    intro g n o h
    obtain rfl : n = 0 := by simpa using h
    simp [runp]
  | succ f ih =>
    intro g n o h
    unfold runp
    by_cases hn : n = 0
    · subst hn; simp
    · rw [if_neg hn]
      have h2 : n / 2 < 2 ^ f := by rw [Nat.pow_succ] at h; omega
      rw [ih _ _ _ h2]
      by_cases ho : n % 2 = 1
      · rw [if_pos ho, half_odd _ _ _ _ ho]
      · rw [if_neg ho, half_even _ _ _ _ (by omega)]
theorem power_inv : pm 2147483647 48271 2147483645 = 1899818559 := by
  have h := runp_is 31 48271 2147483645 1 (by decide)
  have e : runp 31 48271 2147483645 1 = 1899818559 := by decide +kernel
  rw [e, Int.one_mul] at h
  unfold pm
  rw [← h]
  rfl
/-- Signatures. -/
def sgn (k : Int) (m : List Int) : Int := if key k then khash k ([139, (m.length : Int)] ++ m) else 0
def vsg (u : Int) (m : List Int) (s : Int) : Bool := if key u then sgn (prv u) m == s else false
def fpr (u : Int) : Int := khash 149 [u] % 1000000
def der (s : Int) (l : List Int) : Int := if 1 < khash s ([151] ++ l) then khash s ([151] ++ l) else 1
theorem sgn_in (k : Int) (m : List Int) : 0 ≤ sgn k m ∧ sgn k m ≤ 2147483646 := by
  unfold sgn; split
  · exact khash_in _ _
  · omega
theorem der_key (s : Int) (l : List Int) : key (der s l) := by
  have h := khash_in s ([151] ++ l)
  unfold inP at h
  unfold der key
  split <;> omega
end Go.Proofs.Ytpfjfnlefeocnaa.M8
