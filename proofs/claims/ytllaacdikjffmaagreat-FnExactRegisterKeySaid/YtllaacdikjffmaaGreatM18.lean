import Derived.Test.YtllaacdikjffmaaGreatDa14
import Derived.Test.YtllaacdikjffmaaGreatBa
/-
  Accounts in plain words: when they are valid, what the functions of chapter 14 make of them.
-/
namespace Go.Proofs.YtllaacdikjffmaaGreat.M18
open S0 S1 S9 Dm Fx M8 Das
set_option linter.unusedVariables false
set_option linter.unusedSimpArgs false
abbrev Cr := Fx.Credential
def inB (n lo hi : Int) : Bool := decide (lo ≤ n) && decide (n ≤ hi)
theorem inB_t {n lo hi : Int} (h : lo ≤ n ∧ n ≤ hi) : inB n lo hi = true := by unfold inB; simp [h.1, h.2]
theorem inB_ok {n lo hi : Int} (h : inB n lo hi = true) : lo ≤ n ∧ n ≤ hi := by unfold inB at h; simpa using h
/-- Credential i is well formed, and stands well behind those before it. -/
structure Good (l : List Cr) (i : Nat) : Prop where
  handle : 0 ≤ (l.getD i zCredential).Handle ∧ (l.getD i zCredential).Handle ≤ 1000000
  rises : 0 < i → (l.getD (i - 1) zCredential).Handle < (l.getD i zCredential).Handle
  key : prv (l.getD i zCredential).Public ≠ 0
  counter : 0 ≤ (l.getD i zCredential).Counter ∧ (l.getD i zCredential).Counter ≤ 1000000
  once : ∀ k, k < i → (l.getD k zCredential).Public ≠ (l.getD i zCredential).Public
def Seen (l : List Cr) (i : Nat) : Prop := ∀ j, j < i → Good l j
theorem Seen.zero (l : List Cr) : Seen l 0 := fun j h => absurd h (Nat.not_lt_zero _)
theorem Seen.next {l : List Cr} {i : Nat} (h : Seen l i) (g : Good l i) : Seen l (i + 1) := fun j hj => by
  rcases Nat.lt_or_ge j i with h1 | h1
  · exact h j h1
  · obtain rfl : j = i := by omega
    exact g
open Classical in
noncomputable def okCs (l : List Cr) : Bool := decide (Seen l l.length)
open Classical in
theorem okCs_t {l : List Cr} (h : Seen l l.length) : okCs l = true := by unfold okCs; exact decide_eq_true h
open Classical in
theorem okCs_ok {l : List Cr} (h : okCs l = true) : Seen l l.length := by unfold okCs at h; exact of_decide_eq_true h
theorem okCs_f {l : List Cr} {i : Nat} (hi : i < l.length) (h : ¬ Good l i) : okCs l = false := by
  cases e : okCs l with
  | false => rfl
  | true => exact absurd (okCs_ok e i hi) h
noncomputable def vac (a : Fx.Account) : Bool := inB a.Id 0 1000000 && (inB a.Minimum 1 3 && (decide (a.Credentials.length ≤ 8) && okCs a.Credentials))
theorem vac_ok {a : Fx.Account} (h : vac a = true) : (0 ≤ a.Id ∧ a.Id ≤ 1000000) ∧ (1 ≤ a.Minimum ∧ a.Minimum ≤ 3) ∧ a.Credentials.length ≤ 8 ∧ Seen a.Credentials a.Credentials.length := by
  unfold vac at h
  rw [Bool.and_eq_true, Bool.and_eq_true, Bool.and_eq_true] at h
  exact ⟨inB_ok h.1, inB_ok h.2.1, of_decide_eq_true h.2.2.1, okCs_ok h.2.2.2⟩
theorem vac_t {a : Fx.Account} (h1 : 0 ≤ a.Id ∧ a.Id ≤ 1000000) (h2 : 1 ≤ a.Minimum ∧ a.Minimum ≤ 3) (h3 : a.Credentials.length ≤ 8) (h4 : Seen a.Credentials a.Credentials.length) : vac a = true := by
  unfold vac; rw [inB_t h1, inB_t h2, decide_eq_true h3, okCs_t h4]; rfl
theorem vac_f {a : Fx.Account} (h : okCs a.Credentials = false) : vac a = false := by unfold vac; rw [h]; simp
/-- Handles ascend. -/
theorem Seen.lt {l : List Cr} {n : Nat} (h : Seen l n) : ∀ {j i : Nat}, j < i → i < n → (l.getD j zCredential).Handle < (l.getD i zCredential).Handle := by
  intro j i
  induction i with
  | zero => intro h1; omega
  | succ i ih =>
    intro h1 h2
    have hr := (h (i + 1) h2).rises (by omega)
    rw [Nat.add_sub_cancel] at hr
    rcases Nat.lt_or_ge j i with h3 | h3
    · have := ih h3 (by omega); omega
    · obtain rfl : j = i := by omega
      exact hr
theorem Seen.low {l : List Cr} {i : Nat} (h : Seen l i) : 0 ≤ (match i with | 0 => (0 : Int) | k + 1 => (l.getD k zCredential).Handle + 1) := by
  cases i with
  | zero => exact Int.le_refl 0
  | succ k => have := (h k (by omega)).handle; show 0 ≤ (l.getD k zCredential).Handle + 1; omega
-- where a handle stands
def pos (l : List Cr) (h : Int) : Option Nat := l.findIdx? (fun x => x.Handle == h)
-- adding
def cnt (l : List Cr) (h : Int) : Nat := (l.takeWhile fun x => decide (x.Handle < h)).length
theorem cnt_le (l : List Cr) (h : Int) : cnt l h ≤ l.length := (List.takeWhile_prefix _).length_le
theorem cnt_at {l : List Cr} {h : Int} {k : Nat} (hk : k ≤ l.length) (h1 : ∀ j, j < k → (l.getD j zCredential).Handle < h) (h2 : k < l.length → ¬ (l.getD k zCredential).Handle < h) : cnt l h = k := by
  unfold cnt
  induction l generalizing k with
  | nil => simp at hk; rw [hk]; rfl
  | cons x l ih =>
    cases k with
    | zero =>
      have := h2 (by simp)
      rw [List.takeWhile_cons_of_neg (by simpa using this)]; rfl
    | succ k =>
      have h0 := h1 0 (by omega)
      rw [List.takeWhile_cons_of_pos (by simpa using h0), List.length_cons]
      congr 1
      exact ih (by simpa using hk) (fun j hj => by have := h1 (j + 1) (by omega); simpa using this) (fun hj => by have := h2 (by simpa using hj); simpa using this)
/-- The credentials with a new one at place k. -/
def insK (l : List Cr) (k : Nat) (h p : Int) : List Cr := l.take k ++ [⟨h, p, 0, false⟩] ++ l.drop k
theorem insK_len {l : List Cr} {k : Nat} (h p : Int) (hk : k ≤ l.length) : (insK l k h p).length = l.length + 1 := by unfold insK; simp; omega
def addK (a : Fx.Account) (k : Nat) (h p : Int) : Fx.Account := ⟨a.Id, a.Minimum, insK a.Credentials k h p⟩
noncomputable def addB (a : Fx.Account) (h p : Int) : Bool := vac a && vac (addK a (cnt a.Credentials h) h p)
noncomputable def addX (a : Fx.Account) (h p : Int) : Fx.Account := match addB a h p with | true => addK a (cnt a.Credentials h) h p | false => a
theorem cnt_lt {l : List Cr} {h : Int} : ∀ {j : Nat}, j < cnt l h → (l.getD j zCredential).Handle < h := by
  unfold cnt
  induction l with
  | nil => intro j hj; simp at hj
  | cons x l ih =>
    intro j hj
    by_cases hx : x.Handle < h
    · rw [List.takeWhile_cons_of_pos (by simpa using hx), List.length_cons] at hj
      cases j with
      | zero => simpa using hx
      | succ j => have := ih (j := j) (by omega); simpa using this
    · rw [List.takeWhile_cons_of_neg (by simpa using hx)] at hj; simp at hj
theorem cnt_ge {l : List Cr} {h : Int} : cnt l h < l.length → ¬ (l.getD (cnt l h) zCredential).Handle < h := by
  unfold cnt
  induction l with
  | nil => intro hj; simp at hj
  | cons x l ih =>
    intro hj
    by_cases hx : x.Handle < h
    · rw [List.takeWhile_cons_of_pos (by simpa using hx), List.length_cons] at hj ⊢
      have := ih (by simpa using hj)
      simpa using this
    · rw [List.takeWhile_cons_of_neg (by simpa using hx)]; simpa using hx
theorem ins_at {l : List Cr} {k : Nat} {h p : Int} (hk : k ≤ l.length) {j : Nat} (hj : j < l.length) : (insK l k h p).getD (if j < k then j else j + 1) zCredential = l.getD j zCredential := by
  unfold insK
  have hl : (l.take k).length = k := by rw [List.length_take]; omega
  rw [List.getD_eq_getElem?_getD, List.getD_eq_getElem?_getD]
  congr 1
  split
  · next hjk => rw [List.append_assoc, List.getElem?_append_left (by omega), List.getElem?_take, if_pos hjk]
  · next hjk =>
    rw [List.getElem?_append_right (by simp; omega), List.length_append, hl, List.getElem?_drop]
    congr 1
    simp; omega
theorem ins_seen {l : List Cr} {k : Nat} {h p : Int} (hk : k ≤ l.length) (hs : Seen (insK l k h p) (l.length + 1)) : Seen l l.length := fun j hj => by
  have e := ins_at (h := h) (p := p) hk hj
  have hg := hs (if j < k then j else j + 1) (by split <;> omega)
  refine ⟨e ▸ hg.handle, fun h0 => ?_, e ▸ hg.key, e ▸ hg.counter, fun i hi => ?_⟩
  · have e' := ins_at (h := h) (p := p) hk (show j - 1 < l.length by omega)
    rw [← e, ← e']
    exact hs.lt (by split <;> split <;> omega) (by split <;> omega)
  · have e' := ins_at (h := h) (p := p) hk (show i < l.length by omega)
    rw [← e, ← e']
    exact hg.once _ (by split <;> split <;> omega)
theorem ins_vac {a : Fx.Account} {k : Nat} {h p : Int} (hk : k ≤ a.Credentials.length) (hv : vac (addK a k h p) = true) : vac a = true := by
  obtain ⟨h1, h2, h3, h4⟩ := vac_ok hv
  have hl := insK_len h p hk
  have h3 : (insK a.Credentials k h p).length ≤ 8 := h3
  have h4 : Seen (insK a.Credentials k h p) (insK a.Credentials k h p).length := h4
  rw [hl] at h3 h4
  exact vac_t h1 h2 (by omega) (ins_seen hk h4)
-- cutting, using
noncomputable def raiB (a : Fx.Account) (m : Int) : Bool := vac a && inB m a.Minimum 3
theorem addX_f {a : Fx.Account} {h p : Int} (e : addB a h p = false) : addX a h p = a := by unfold addX; rw [e]
theorem addX_t {a : Fx.Account} {h p : Int} (e : addB a h p = true) : addX a h p = addK a (cnt a.Credentials h) h p := by unfold addX; rw [e]
def open_ (l : List Cr) : Bool := l.any fun x => !x.Cut
noncomputable def allB (a : Fx.Account) (m : Int) : Bool := raiB a m && (open_ a.Credentials || !(m == 3))
end Go.Proofs.YtllaacdikjffmaaGreat.M18
