/-
  Plain arithmetic behind chapter 1: Go's remainder and the remainder that is never negative.
-/
import Derived.WalkKit
import Derived.IntWalk
namespace Go.Proofs.Ytoedfeacpllkeaa.M1
open Go.RowKit

theorem tmod_emod (p q : Int) : p.tmod q % q = p % q := by
  have h := Int.tmod_add_mul_tdiv p q
  conv => rhs; rw [← h]
  rw [Int.add_mul_emod_self_left]
theorem tmod_lt (p q : Int) (hq : 1 ≤ q) : p.tmod q < q := Int.tmod_lt_of_pos p (by omega)
theorem lt_tmod (p q : Int) (hq : 1 ≤ q) : -q < p.tmod q := Int.lt_tmod_of_pos p (by omega)
theorem tmod_pos (p q : Int) (hq : 1 ≤ q) (h : 0 ≤ p.tmod q) : p.tmod q = p % q := by
  rw [← tmod_emod, Int.emod_eq_of_lt h (tmod_lt p q hq)]
theorem tmod_neg (p q : Int) (hq : 1 ≤ q) (h : p.tmod q < 0) : p.tmod q + q = p % q := by
  have h1 := lt_tmod p q hq
  rw [← tmod_emod, ← Int.add_emod_right, Int.emod_eq_of_lt (by omega) (by omega)]
theorem emod_lt (p q : Int) (hq : 1 ≤ q) : 0 ≤ p % q ∧ p % q < q := ⟨Int.emod_nonneg p (by omega), Int.emod_lt_of_pos p (by omega)⟩
theorem wrap_add (p q : Int) (hq : 1 ≤ q) (hq' : q ≤ 1000000000000) : wrap64 (p.tmod q + q) = p.tmod q + q := by
  have h1 := lt_tmod p q hq
  have h2 := tmod_lt p q hq
  unfold wrap64; omega
theorem spec_mod (p q : Int) (hq : 1 ≤ q) (hq' : q ≤ 1000000000000) : (wrap64 (p.tmod q + q)).tmod q = p % q := by
  have h1 := lt_tmod p q hq
  rw [wrap_add p q hq hq', Int.tmod_eq_emod_of_nonneg (a := p.tmod q + q) (by omega), Int.add_emod_right, tmod_emod]
theorem ret_int {k : IntKind} {a b : Int} (h : a = b) : Ending.returned (.int k a) = .returned (.int k b) := by rw [h]
theorem i64_wf {n : Int} (h : (Lit.int .i64 n).wf = true) : -9223372036854775808 ≤ n ∧ n ≤ 9223372036854775807 := by
  simp only [Lit.wf, Bool.and_eq_true, decide_eq_true_eq, IntKind.min, IntKind.max, IntKind.signed, IntKind.bits] at h
  exact ⟨by simpa using h.1, by simpa using h.2⟩
end Go.Proofs.Ytoedfeacpllkeaa.M1
