import Derived.Test.YtllaacdikjffmaaGreatDa14
import Derived.Test.YtllaacdikjffmaaGreatBa
/-
  Accounts in plain words: when they are valid, what the functions of chapter 14 make of them.
-/
namespace Go.Proofs.YtllaacdikjffmaaGreat.M18
open S0 S1 S9 Dm Fx M8 Das
set_option linter.unusedVariables false
set_option linter.unusedSimpArgs false
abbrev Cr := Fx.Credential
def inB (n lo hi : Int) : Bool := decide (lo ≤ n) && decide (n ≤ hi)
theorem inB_t {n lo hi : Int} (h : lo ≤ n ∧ n ≤ hi) : inB n lo hi = true := by unfold inB; simp [h.1, h.2]
theorem inB_ok {n lo hi : Int} (h : inB n lo hi = true) : lo ≤ n ∧ n ≤ hi := by unfold inB at h; simpa using h
/-- Credential i is well formed, and stands well behind those before it. -/
structure Good (l : List Cr) (i : Nat) : Prop where
  handle : 0 ≤ (l.getD i zCredential).Handle ∧ (l.getD i zCredential).Handle ≤ 1000000
  rises : 0 < i → (l.getD (i - 1) zCredential).Handle < (l.getD i zCredential).Handle
  key : prv (l.getD i zCredential).Public ≠ 0
  counter : 0 ≤ (l.getD i zCredential).Counter ∧ (l.getD i zCredential).Counter ≤ 1000000
  once : ∀ k, k < i → (l.getD k zCredential).Public ≠ (l.getD i zCredential).Public
def Seen (l : List Cr) (i : Nat) : Prop := ∀ j, j < i → Good l j
theorem Seen.zero (l : List Cr) : Seen l 0 := fun j h => absurd h (Nat.not_lt_zero _)
theorem Seen.next {l : List Cr} {i : Nat} (h : Seen l i) (g : Good l i) : Seen l (i + 1) := fun j hj => by
  rcases Nat.lt_or_ge j i with h1 | h1
  · exact h j h1
  · obtain rfl : j = i := by omega
    exact g
open Classical in
noncomputable def okCs (l : List Cr) : Bool := decide (Seen l l.length)
open Classical in
theorem okCs_t {l : List Cr} (h : Seen l l.length) : okCs l = true := by unfold okCs; exact decide_eq_true h
open Classical in
theorem okCs_ok {l : List Cr} (h : okCs l = true) : Seen l l.length := by unfold okCs at h; exact of_decide_eq_true h
theorem okCs_f {l : List Cr} {i : Nat} (hi : i < l.length) (h : ¬ Good l i) : okCs l = false := by
  cases e : okCs l with
  | false => rfl
  | true => exact absurd (okCs_ok e i hi) h
noncomputable def vac (a : Fx.Account) : Bool := inB a.Id 0 1000000 && (inB a.Minimum 1 3 && (decide (a.Credentials.length ≤ 8) && okCs a.Credentials))
theorem vac_ok {a : Fx.Account} (h : vac a = true) : (0 ≤ a.Id ∧ a.Id ≤ 1000000) ∧ (1 ≤ a.Minimum ∧ a.Minimum ≤ 3) ∧ a.Credentials.length ≤ 8 ∧ Seen a.Credentials a.Credentials.length := by
  unfold vac at h
  rw [Bool.and_eq_true, Bool.and_eq_true, Bool.and_eq_true] at h
  exact ⟨inB_ok h.1, inB_ok h.2.1, of_decide_eq_true h.2.2.1, okCs_ok h.2.2.2⟩
theorem vac_f {a : Fx.Account} (h : okCs a.Credentials = false) : vac a = false := by unfold vac; rw [h]; simp
/-- Handles ascend. -/
theorem Seen.lt {l : List Cr} {n : Nat} (h : Seen l n) : ∀ {j i : Nat}, j < i → i < n → (l.getD j zCredential).Handle < (l.getD i zCredential).Handle := by
  intro j i
  induction i with
  | zero => intro h1; omega
  | succ i ih =>
    intro h1 h2
    have hr := (h (i + 1) h2).rises (by omega)
    rw [Nat.add_sub_cancel] at hr
    rcases Nat.lt_or_ge j i with h3 | h3
    · have := ih h3 (by omega); omega
    · obtain rfl : j = i := by omega
      exact hr
theorem Seen.low {l : List Cr} {i : Nat} (h : Seen l i) : 0 ≤ (match i with | 0 => (0 : Int) | k + 1 => (l.getD k zCredential).Handle + 1) := by
  cases i with
  | zero => exact Int.le_refl 0
  | succ k => have := (h k (by omega)).handle; show 0 ≤ (l.getD k zCredential).Handle + 1; omega
-- where a handle stands
def pos (l : List Cr) (h : Int) : Option Nat := l.findIdx? (fun x => x.Handle == h)
-- adding
def cnt (l : List Cr) (h : Int) : Nat := (l.takeWhile fun x => decide (x.Handle < h)).length
-- cutting, using
noncomputable def raiB (a : Fx.Account) (m : Int) : Bool := vac a && inB m a.Minimum 3
def open_ (l : List Cr) : Bool := l.any fun x => !x.Cut
noncomputable def allB (a : Fx.Account) (m : Int) : Bool := raiB a m && (open_ a.Credentials || !(m == 3))
end Go.Proofs.YtllaacdikjffmaaGreat.M18
