/-
  Contracts of chapter 5's polynomials, of the program: powersModulo, weightedSum, polynomialAt.
-/
import Derived.Test.YtlndcfpcgcdmgaaC5b
namespace Go.Proofs.Ytlndcfpcgcdmgaa.C5c
open Go.ChangeShapes Go.WideShapes Go.ChangeAt Go.RowKit
open S0 S1 S3 C3 M4 M5 C5 C5b
set_option linter.unusedVariables false
/-- The powers x, x * x, .. modulo 1019. -/
def pws (x : Int) (n : Nat) : List Int := (List.range n).map fun k => pm 1019 x (k + 1)
theorem pws_len (x : Int) (n : Nat) : (pws x n).length = n := by simp [pws]
theorem pws_get (x : Int) (n k : Nat) (hk : k < n) : (pws x n).getD k 0 = pm 1019 x (k + 1) := by
  simp [pws, List.getD_eq_getElem?_getD, List.getElem?_range hk]
/-- The first k products, reduced at each step. -/
def fsum (vs ws : List Int) : Nat → Int
  | 0 => 0
  | k + 1 => (fsum vs ws k + ws.getD k 0 * (vs.getD k 0 % 1019)) % 1019
theorem fsum_in (vs ws : List Int) (k : Nat) : 0 ≤ fsum vs ws k ∧ fsum vs ws k ≤ 1018 := by
  cases k with
  | zero => simp [fsum]
  | succ k => unfold fsum; omega
theorem new_cell (w : World) (cs : Array Value) (t : TypeId) (j : Nat) : (w.alloc (.cells cs t)).cell? ⟨w.heap.size, j, none⟩ = cs[j]? := cell_of_row _ _ j cs t (0, 0) (heap_alloc_last w _)
theorem red (s q : Int) (s0 : 0 ≤ s) (s1 : s ≤ 1018) (q0 : 0 ≤ q) (q1 : q ≤ 1018 * 1018) : (IntKind.i64.wrap (s + IntKind.i64.wrap q)).tmod 1019 = (s + q) % 1019 := by
  have e : IntKind.i64.wrap q = q := by rw [IntKind.wrap_i64]; omega
  have e2 : IntKind.i64.wrap (s + q) = s + q := by rw [IntKind.wrap_i64]; omega
  rw [e, e2, Int.tmod_eq_emod_of_nonneg (by omega)]
def small (ws : List Int) : Prop := ∀ k, 0 ≤ ws.getD k 0 ∧ ws.getD k 0 ≤ 1018
theorem ev_snoc (cs : List Int) (c x : Int) : ev (cs ++ [c]) x = ev cs x + c * x ^ (cs.length + 1) := by
  induction cs with
  | nil => simp only [List.nil_append, ev, List.length_nil, Int.zero_add, Int.pow_succ, Int.pow_zero, Int.one_mul]
  | cons d cs ih =>
    simp only [List.cons_append, ev, ih, List.length_cons]
    rw [Int.pow_succ x (cs.length + 1), Int.add_mul, Int.add_mul, Int.add_mul, Int.mul_assoc]
    omega
theorem fsum_ev (cs : List Int) (x : Int) (n : Nat) (hn : cs.length = n) : ∀ k, k ≤ n → fsum cs (pws x n) k = ev (cs.take k) x % 1019 := by
  intro k
  induction k with
  | zero => intro _; simp [fsum, ev]
  | succ k ih =>
    intro hk
    have hk2 : k < cs.length := by omega
    have e : cs.getD k 0 = cs[k] := by rw [List.getD_eq_getElem?_getD, List.getElem?_eq_getElem hk2]; rfl
    rw [List.take_succ_eq_append_getElem hk2, ev_snoc, List.length_take, Nat.min_eq_left (by omega)]
    unfold fsum
    rw [ih (by omega), pws_get x n k (by omega), e]
    unfold pm
    rw [Int.mul_comm (x ^ (k + 1) % 1019), Int.add_emod, Int.emod_emod, ← Int.mul_emod, ← Int.add_emod]
theorem fsum_hor (cs : List Int) (x : Int) (n : Nat) (hn : cs.length = n) : fsum cs (pws x n) n = hor cs x := by
  rw [fsum_ev cs x n hn n (Nat.le_refl _), hor_ev, ← hn, List.take_length]
theorem pws_small (x : Int) (n : Nat) : small (pws x n) := by
  intro k
  by_cases hk : k < n
  · rw [pws_get x n k hk]
    have := pm_in 1019 x (k + 1) (by omega)
    omega
  · rw [List.getD_eq_getElem?_getD, List.getElem?_eq_none (by rw [pws_len]; omega)]
    simp
end Go.Proofs.Ytlndcfpcgcdmgaa.C5c
