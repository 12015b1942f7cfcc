import Derived.Test.YtmhjjocmnmeapaaGreatDoorDa14
import Derived.Test.YtmhjjocmnmeapaaGreatDoorBa
/-
  Accounts in plain words: when they are valid, what the functions of chapter 14 make of them.
-/
namespace Go.Proofs.YtmhjjocmnmeapaaGreatDoor.M18
open S0 S1 S9 Dm Fx M8 Das
set_option linter.unusedVariables false
set_option linter.unusedSimpArgs false
abbrev Cr := Fx.Credential
def inB (n lo hi : Int) : Bool := decide (lo ≤ n) && decide (n ≤ hi)
theorem inB_t {n lo hi : Int} (h : lo ≤ n ∧ n ≤ hi) : inB n lo hi = true := by unfold inB; simp [h.1, h.2]
theorem inB_ok {n lo hi : Int} (h : inB n lo hi = true) : lo ≤ n ∧ n ≤ hi := by unfold inB at h; simpa using h
theorem inB_f {n lo hi : Int} (h : inB n lo hi = false) : ¬ (lo ≤ n ∧ n ≤ hi) := fun k => by rw [inB_t k] at h; cases h
/-- Credential i is well formed, and stands well behind those before it. -/
structure Good (l : List Cr) (i : Nat) : Prop where
  handle : 0 ≤ (l.getD i zCredential).Handle ∧ (l.getD i zCredential).Handle ≤ 1000000
  rises : 0 < i → (l.getD (i - 1) zCredential).Handle < (l.getD i zCredential).Handle
  key : prv (l.getD i zCredential).Public ≠ 0
  counter : 0 ≤ (l.getD i zCredential).Counter ∧ (l.getD i zCredential).Counter ≤ 1000000
  once : ∀ k, k < i → (l.getD k zCredential).Public ≠ (l.getD i zCredential).Public
def Seen (l : List Cr) (i : Nat) : Prop := ∀ j, j < i → Good l j
theorem Seen.zero (l : List Cr) : Seen l 0 := fun j h => absurd h (Nat.not_lt_zero _)
theorem Seen.next {l : List Cr} {i : Nat} (h : Seen l i) (g : Good l i) : Seen l (i + 1) := fun j hj => by
  rcases Nat.lt_or_ge j i with h1 | h1
  · exact h j h1
  · obtain rfl : j = i := by omega
    exact g
open Classical in
noncomputable def okCs (l : List Cr) : Bool := decide (Seen l l.length)
open Classical in
theorem okCs_t {l : List Cr} (h : Seen l l.length) : okCs l = true := by unfold okCs; exact decide_eq_true h
open Classical in
theorem okCs_ok {l : List Cr} (h : okCs l = true) : Seen l l.length := by unfold okCs at h; exact of_decide_eq_true h
theorem okCs_f {l : List Cr} {i : Nat} (hi : i < l.length) (h : ¬ Good l i) : okCs l = false := by
  cases e : okCs l with
  | false => rfl
  | true => exact absurd (okCs_ok e i hi) h
noncomputable def vac (a : Fx.Account) : Bool := inB a.Id 0 1000000 && (inB a.Minimum 1 3 && (decide (a.Credentials.length ≤ 8) && okCs a.Credentials))
theorem vac_ok {a : Fx.Account} (h : vac a = true) : (0 ≤ a.Id ∧ a.Id ≤ 1000000) ∧ (1 ≤ a.Minimum ∧ a.Minimum ≤ 3) ∧ a.Credentials.length ≤ 8 ∧ Seen a.Credentials a.Credentials.length := by
  unfold vac at h
  rw [Bool.and_eq_true, Bool.and_eq_true, Bool.and_eq_true] at h
  exact ⟨inB_ok h.1, inB_ok h.2.1, of_decide_eq_true h.2.2.1, okCs_ok h.2.2.2⟩
theorem vac_t {a : Fx.Account} (h1 : 0 ≤ a.Id ∧ a.Id ≤ 1000000) (h2 : 1 ≤ a.Minimum ∧ a.Minimum ≤ 3) (h3 : a.Credentials.length ≤ 8) (h4 : Seen a.Credentials a.Credentials.length) : vac a = true := by
  unfold vac; rw [inB_t h1, inB_t h2, decide_eq_true h3, okCs_t h4]; rfl
theorem vac_f {a : Fx.Account} (h : okCs a.Credentials = false) : vac a = false := by unfold vac; rw [h]; simp
/-- Handles ascend. -/
theorem Seen.lt {l : List Cr} {n : Nat} (h : Seen l n) : ∀ {j i : Nat}, j < i → i < n → (l.getD j zCredential).Handle < (l.getD i zCredential).Handle := by
  intro j i
  induction i with
  | zero => intro h1; omega
  | succ i ih =>
    intro h1 h2
    have hr := (h (i + 1) h2).rises (by omega)
    rw [Nat.add_sub_cancel] at hr
    rcases Nat.lt_or_ge j i with h3 | h3
    · have := ih h3 (by omega); omega
    · obtain rfl : j = i := by omega
      exact hr
theorem Seen.low {l : List Cr} {i : Nat} (h : Seen l i) : 0 ≤ (match i with | 0 => (0 : Int) | k + 1 => (l.getD k zCredential).Handle + 1) := by
  cases i with
  | zero => exact Int.le_refl 0
  | succ k => have := (h k (by omega)).handle; show 0 ≤ (l.getD k zCredential).Handle + 1; omega
-- where a handle stands
def pos (l : List Cr) (h : Int) : Option Nat := l.findIdx? (fun x => x.Handle == h)
def findC (l : List Cr) (h : Int) : Int := match pos l h with | some k => (k : Int) | none => -1
theorem pos_of {l : List Cr} {h : Int} (hf : ¬ findC l h < 0) : ∃ k : Nat, pos l h = some k ∧ findC l h = (k : Int) ∧ k < l.length := by
  cases e : pos l h with
  | none => unfold findC at hf; rw [e] at hf; exact absurd (by decide) hf
  | some k => exact ⟨k, rfl, by unfold findC; rw [e], (List.findIdx?_eq_some_iff_getElem.1 e).1⟩
theorem pos_none {l : List Cr} {h : Int} (hf : findC l h < 0) : pos l h = none := by
  cases e : pos l h with
  | none => rfl
  | some k => unfold findC at hf; rw [e] at hf; simp at hf; omega
theorem find_at {l : List Cr} {h : Int} {k : Nat} (hk : k < l.length) (h1 : ∀ j, j < k → (l.getD j zCredential).Handle ≠ h) (h2 : (l.getD k zCredential).Handle = h) : findC l h = (k : Int) := by
  have e : pos l h = some k := by
    unfold pos
    rw [List.findIdx?_eq_some_iff_getElem]
    refine ⟨hk, by simpa [List.getD_eq_getElem?_getD, List.getElem?_eq_getElem hk] using h2, fun j hj => ?_⟩
    have := h1 j hj
    simpa [List.getD_eq_getElem?_getD, List.getElem?_eq_getElem (Nat.lt_trans hj hk)] using this
  unfold findC; rw [e]
theorem find_no {l : List Cr} {h : Int} (h1 : ∀ j, j < l.length → (l.getD j zCredential).Handle ≠ h) : findC l h = -1 := by
  have e : pos l h = none := by
    unfold pos
    rw [List.findIdx?_eq_none_iff]
    intro x hx
    obtain ⟨j, hj, rfl⟩ := List.mem_iff_getElem.1 hx
    have := h1 j hj
    simpa [List.getD_eq_getElem?_getD, List.getElem?_eq_getElem hj] using this
  unfold findC; rw [e]
theorem pos_handle {l : List Cr} {h : Int} {k : Nat} (e : pos l h = some k) : k < l.length ∧ (l.getD k zCredential).Handle = h := by
  unfold pos at e
  obtain ⟨h1, h2, _⟩ := List.findIdx?_eq_some_iff_getElem.1 e
  exact ⟨h1, by simpa [List.getD_eq_getElem?_getD, List.getElem?_eq_getElem h1] using h2⟩
-- adding
def cnt (l : List Cr) (h : Int) : Nat := (l.takeWhile fun x => decide (x.Handle < h)).length
theorem cnt_le (l : List Cr) (h : Int) : cnt l h ≤ l.length := (List.takeWhile_prefix _).length_le
theorem cnt_at {l : List Cr} {h : Int} {k : Nat} (hk : k ≤ l.length) (h1 : ∀ j, j < k → (l.getD j zCredential).Handle < h) (h2 : k < l.length → ¬ (l.getD k zCredential).Handle < h) : cnt l h = k := by
  unfold cnt
  induction l generalizing k with
  | nil => simp at hk; rw [hk]; rfl
  | cons x l ih =>
    cases k with
    | zero =>
      have := h2 (by simp)
      rw [List.takeWhile_cons_of_neg (by simpa using this)]; rfl
    | succ k =>
      have h0 := h1 0 (by omega)
      rw [List.takeWhile_cons_of_pos (by simpa using h0), List.length_cons]
      congr 1
      exact ih (by simpa using hk) (fun j hj => by have := h1 (j + 1) (by omega); simpa using this) (fun hj => by have := h2 (by simpa using hj); simpa using this)
/-- The credentials with a new one at place k. -/
def insK (l : List Cr) (k : Nat) (h p : Int) : List Cr := l.take k ++ [⟨h, p, 0, false⟩] ++ l.drop k
theorem insK_len {l : List Cr} {k : Nat} (h p : Int) (hk : k ≤ l.length) : (insK l k h p).length = l.length + 1 := by unfold insK; simp; omega
def addK (a : Fx.Account) (k : Nat) (h p : Int) : Fx.Account := ⟨a.Id, a.Minimum, insK a.Credentials k h p⟩
noncomputable def addB (a : Fx.Account) (h p : Int) : Bool := vac a && vac (addK a (cnt a.Credentials h) h p)
noncomputable def addX (a : Fx.Account) (h p : Int) : Fx.Account := match addB a h p with | true => addK a (cnt a.Credentials h) h p | false => a
theorem cnt_lt {l : List Cr} {h : Int} : ∀ {j : Nat}, j < cnt l h → (l.getD j zCredential).Handle < h := by
  unfold cnt
  induction l with
  | nil => intro j hj; simp at hj
  | cons x l ih =>
    intro j hj
    by_cases hx : x.Handle < h
    · rw [List.takeWhile_cons_of_pos (by simpa using hx), List.length_cons] at hj
      cases j with
      | zero => simpa using hx
      | succ j => have := ih (j := j) (by omega); simpa using this
    · rw [List.takeWhile_cons_of_neg (by simpa using hx)] at hj; simp at hj
theorem ins_at {l : List Cr} {k : Nat} {h p : Int} (hk : k ≤ l.length) {j : Nat} (hj : j < l.length) : (insK l k h p).getD (if j < k then j else j + 1) zCredential = l.getD j zCredential := by
  unfold insK
  have hl : (l.take k).length = k := by rw [List.length_take]; omega
  rw [List.getD_eq_getElem?_getD, List.getD_eq_getElem?_getD]
  congr 1
  split
  · next hjk => rw [List.append_assoc, List.getElem?_append_left (by omega), List.getElem?_take, if_pos hjk]
  · next hjk =>
    rw [List.getElem?_append_right (by simp; omega), List.length_append, hl, List.getElem?_drop]
    congr 1
    simp; omega
-- cutting, using
noncomputable def cutB (a : Fx.Account) (h : Int) : Bool := vac a && (match pos a.Credentials h with | some k => !(a.Credentials.getD k zCredential).Cut | none => false)
def setC (l : List Cr) (k : Nat) : List Cr := l.set k { (l.getD k zCredential) with Cut := true }
def setN (l : List Cr) (k : Nat) (n : Int) : List Cr := l.set k { (l.getD k zCredential) with Counter := n }
noncomputable def cutX (a : Fx.Account) (h : Int) : Fx.Account := match cutB a h with | true => ⟨a.Id, a.Minimum, setC a.Credentials (findC a.Credentials h).toNat⟩ | false => a
noncomputable def raiB (a : Fx.Account) (m : Int) : Bool := vac a && inB m a.Minimum 3
noncomputable def raiX (a : Fx.Account) (m : Int) : Fx.Account := match raiB a m with | true => ⟨a.Id, m, a.Credentials⟩ | false => a
theorem addX_f {a : Fx.Account} {h p : Int} (e : addB a h p = false) : addX a h p = a := by unfold addX; rw [e]
theorem addX_t {a : Fx.Account} {h p : Int} (e : addB a h p = true) : addX a h p = addK a (cnt a.Credentials h) h p := by unfold addX; rw [e]
theorem cutB_v {a : Fx.Account} {h : Int} (e : vac a = false) : cutB a h = false := by unfold cutB; rw [e]; rfl
theorem cutB_n {a : Fx.Account} {h : Int} (e : findC a.Credentials h < 0) : cutB a h = false := by unfold cutB; rw [pos_none e]; simp
theorem cutB_p {a : Fx.Account} {h : Int} (e : vac a = true) (f : ¬ findC a.Credentials h < 0) : cutB a h = !(a.Credentials.getD (findC a.Credentials h).toNat zCredential).Cut := by
  obtain ⟨k, h1, h2, _⟩ := pos_of f
  unfold cutB
  rw [e, h1, h2]; rfl
theorem cutX_f {a : Fx.Account} {h : Int} (e : cutB a h = false) : cutX a h = a := by unfold cutX; rw [e]
theorem cutX_t {a : Fx.Account} {h : Int} (e : cutB a h = true) : cutX a h = ⟨a.Id, a.Minimum, setC a.Credentials (findC a.Credentials h).toNat⟩ := by unfold cutX; rw [e]
theorem raiX_f {a : Fx.Account} {m : Int} (e : raiB a m = false) : raiX a m = a := by unfold raiX; rw [e]
theorem raiX_t {a : Fx.Account} {m : Int} (e : raiB a m = true) : raiX a m = ⟨a.Id, m, a.Credentials⟩ := by unfold raiX; rw [e]
def open_ (l : List Cr) : Bool := l.any fun x => !x.Cut
noncomputable def allB (a : Fx.Account) (m : Int) : Bool := raiB a m && (open_ a.Credentials || !(m == 3))
theorem open_t {l : List Cr} {k : Nat} (hk : k < l.length) (h : (l.getD k zCredential).Cut = false) : open_ l = true := by
  unfold open_
  rw [List.any_eq_true]
  refine ⟨l[k], List.getElem_mem hk, ?_⟩
  simpa [List.getD_eq_getElem?_getD, List.getElem?_eq_getElem hk] using h
theorem open_f {l : List Cr} (h : ∀ j, j < l.length → (l.getD j zCredential).Cut = true) : open_ l = false := by
  unfold open_
  rw [List.any_eq_false]
  intro x hx
  obtain ⟨j, hj, rfl⟩ := List.mem_iff_getElem.1 hx
  have := h j hj
  simpa [List.getD_eq_getElem?_getD, List.getElem?_eq_getElem hj] using this
def cel (x : Cr) : Int × Int × Int × Bool := (x.Handle, x.Public, x.Counter, x.Cut)
theorem cel_inj {x y : Cr} (h : cel x = cel y) : x = y := by
  cases x; cases y
  simp only [cel, Prod.mk.injEq] at h
  obtain ⟨rfl, rfl, rfl, rfl⟩ := h
  rfl
def eqlC (l m : List Cr) : Bool := decide (l.map cel = m.map cel)
theorem eqlC_ok {l m : List Cr} (h : eqlC l m = true) : l = m := by
  have h := of_decide_eq_true h
  exact List.map_inj_right (f := cel) (fun _ _ => cel_inj) |>.1 h
theorem eqlC_rfl (l : List Cr) : eqlC l l = true := by unfold eqlC; simp
theorem eqlC_len {l m : List Cr} (h : l.length ≠ m.length) : eqlC l m = false := by unfold eqlC; exact decide_eq_false (fun e => h (by simpa using congrArg List.length e))
theorem eqlC_at {l m : List Cr} {k : Nat} (h1 : k < l.length) (h2 : k < m.length) (h : cel (l.getD k zCredential) ≠ cel (m.getD k zCredential)) : eqlC l m = false := by
  unfold eqlC
  refine decide_eq_false fun e => h ?_
  have := congrArg (fun l => l[k]?) e
  simpa [List.getElem?_map, List.getElem?_eq_getElem h1, List.getElem?_eq_getElem h2] using this
theorem eqlC_all {l m : List Cr} (hl : l.length = m.length) (h : ∀ j, j < l.length → cel (l.getD j zCredential) = cel (m.getD j zCredential)) : eqlC l m = true := by
  unfold eqlC
  refine decide_eq_true ?_
  apply List.ext_getElem?
  intro j
  rcases Nat.lt_or_ge j l.length with h1 | h1
  · have := h j h1
    simpa [List.getElem?_eq_getElem h1, List.getElem?_eq_getElem (show j < m.length by omega)] using this
  · rw [List.getElem?_eq_none (by simpa using h1), List.getElem?_eq_none (by simp; omega)]
def eqlA (a b : Fx.Account) : Bool := (a.Id == b.Id) && ((a.Minimum == b.Minimum) && eqlC a.Credentials b.Credentials)
theorem eqlA_ok {a b : Fx.Account} (h : eqlA a b = true) : a = b := by
  unfold eqlA at h
  rw [Bool.and_eq_true, Bool.and_eq_true] at h
  obtain ⟨h1, h2, h3⟩ := h
  cases a; cases b
  have k1 := beq_iff_eq.1 h1
  have k2 := beq_iff_eq.1 h2
  have k3 := eqlC_ok h3
  simp only at k1 k2 k3
  subst k1; subst k2; subst k3; rfl
theorem eqlA_rfl (a : Fx.Account) : eqlA a a = true := by unfold eqlA; simp [eqlC_rfl]
end Go.Proofs.YtmhjjocmnmeapaaGreatDoor.M18
