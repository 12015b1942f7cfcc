import Derived.Test.YtllaacdikjffmaaGreatM18
import Derived.Test.YtllaacdikjffmaaGreatBc
import Derived.Test.YtllaacdikjffmaaGreatC12b
import Derived.Test.YtllaacdikjffmaaGreatDa15
/-
  What chapter 15 says of sites, in plain words.
-/
namespace Go.Proofs.YtllaacdikjffmaaGreat.M21
open S0 S1 S9 Dm Fx M3 M8 C3 M12 M13 M18 Das
set_option linter.unusedVariables false
abbrev Ac := Fx.Account
/-- A host of two labels or more. -/
def nameB (z : ByteArray) : Bool := host (bts z) && decide (2 ≤ (split (bts z)).length)
def acpB (z : ByteArray) (k : Int) : Bool := nameB z && isKey k
def newX (z : ByteArray) (k : Int) : Fx.Site := match acpB z k with | true => ⟨z, [], ⟨k, 0, []⟩, []⟩ | false => ⟨⟨#[]⟩, [], ⟨0, 0, []⟩, []⟩
theorem newX_t {z : ByteArray} {k : Int} (h : acpB z k = true) : newX z k = ⟨z, [], ⟨k, 0, []⟩, []⟩ := by unfold newX; rw [h]
theorem newX_f {z : ByteArray} {k : Int} (h : acpB z k = false) : newX z k = ⟨⟨#[]⟩, [], ⟨0, 0, []⟩, []⟩ := by unfold newX; rw [h]
theorem acp_t {z : ByteArray} {k : Int} (h1 : host (bts z) = true) (h2 : 2 ≤ (split (bts z)).length) (h3 : isKey k = true) : acpB z k = true := by unfold acpB nameB; rw [h1, h3, decide_eq_true h2]; rfl
theorem acp_f1 {z : ByteArray} {k : Int} (h : host (bts z) = false) : acpB z k = false := by unfold acpB nameB; rw [h]; rfl
theorem acp_f2 {z : ByteArray} {k : Int} (h : ¬ 2 ≤ (split (bts z)).length) : acpB z k = false := by unfold acpB nameB; rw [decide_eq_false h, Bool.and_false]; rfl
theorem acp_f3 {z : ByteArray} {k : Int} (h : isKey k = false) : acpB z k = false := by unfold acpB; rw [h, Bool.and_false]
theorem new_name (z : ByteArray) (k : Int) : ((newX z k).Name.toList == []) = !acpB z k := by
  rw [toList_bts]
  cases h : acpB z k with
  | false => rw [newX_f h]; rfl
  | true =>
    rw [newX_t h]
    show (bts z == []) = false
    refine beq_eq_false_iff_ne.2 fun e => ?_
    unfold acpB nameB at h
    rw [e] at h
    revert h
    rw [show host [] = false by decide]
    simp
/-- Account i is valid and stands behind the one before. -/
structure GoodA (l : List Ac) (i : Nat) : Prop where
  vac : M18.vac (l.getD i zAccount) = true
  up : 0 < i → (l.getD (i - 1) zAccount).Id < (l.getD i zAccount).Id
def SeenA (l : List Ac) (i : Nat) : Prop := ∀ j, j < i → GoodA l j
theorem SeenA.zero (l : List Ac) : SeenA l 0 := fun j h => absurd h (Nat.not_lt_zero _)
theorem SeenA.next {l : List Ac} {i : Nat} (h : SeenA l i) (g : GoodA l i) : SeenA l (i + 1) := fun j hj => by
  rcases Nat.lt_or_ge j i with h1 | h1
  · exact h j h1
  · obtain rfl : j = i := by omega
    exact g
open Classical in
noncomputable def okAs (l : List Ac) : Bool := decide (SeenA l l.length)
open Classical in
theorem okAs_t {l : List Ac} (h : SeenA l l.length) : okAs l = true := by unfold okAs; exact decide_eq_true h
open Classical in
theorem okAs_ok {l : List Ac} (h : okAs l = true) : SeenA l l.length := by unfold okAs at h; exact of_decide_eq_true h
theorem okAs_f {l : List Ac} {i : Nat} (hi : i < l.length) (h : ¬ GoodA l i) : okAs l = false := by
  cases e : okAs l with
  | false => rfl
  | true => exact absurd (okAs_ok e i hi) h
noncomputable def vas (l : List Ac) : Bool := decide (l.length ≤ 8) && okAs l
noncomputable def vsi (s : Fx.Site) : Bool := acpB s.Name s.Book.Seed && (vas s.Accounts && C12b.vbk s.Book)
/-- The least Id that may stand at place i. -/
def lowA (l : List Ac) : Nat → Int
  | 0 => 0
  | k + 1 => (l.getD k zAccount).Id + 1
theorem vac_id {a : Ac} (h : M18.vac a = true) : 0 ≤ a.Id ∧ a.Id ≤ 1000000 := (vac_ok h).1
theorem lowA_succ (l : List Ac) (k : Nat) : lowA l (k + 1) = (l.getD k zAccount).Id + 1 := rfl
theorem lowA_zero (l : List Ac) : lowA l 0 = 0 := rfl
theorem SeenA.low {l : List Ac} {i : Nat} (h : SeenA l i) : 0 ≤ lowA l i ∧ lowA l i ≤ 1000001 := by
  cases i with
  | zero => rw [lowA_zero]; omega
  | succ k => have := vac_id (h k (by omega)).vac; rw [lowA_succ]; omega
theorem goodA {l : List Ac} {i : Nat} (h1 : ¬ (l.getD i zAccount).Id < lowA l i) (h2 : M18.vac (l.getD i zAccount) = true) : GoodA l i := ⟨h2, fun hi => by
  cases i with
  | zero => omega
  | succ k => rw [lowA_succ] at h1; rw [Nat.add_sub_cancel]; omega⟩
theorem GoodA.at_low {l : List Ac} {i : Nat} (g : GoodA l i) : ¬ (l.getD i zAccount).Id < lowA l i := by
  cases i with
  | zero => have := vac_id g.vac; rw [lowA_zero]; omega
  | succ k => have := g.up (by omega); rw [Nat.add_sub_cancel] at this; rw [lowA_succ]; omega
theorem cr_le {l : List Ac} {n : Nat} (h : ∀ a ∈ l, a.Credentials.length ≤ n) (k : Nat) : (l.getD k zAccount).Credentials.length ≤ n := by
  rw [List.getD_eq_getElem?_getD]
  rcases Nat.lt_or_ge k l.length with hk | hk
  · rw [List.getElem?_eq_getElem hk]; exact h _ (List.getElem_mem hk)
  · rw [List.getElem?_eq_none hk]; exact Nat.zero_le _
def posA (l : List Ac) (i : Int) : Option Nat := l.findIdx? (fun x => x.Id == i)
def findA (l : List Ac) (i : Int) : Int := match posA l i with | some k => (k : Int) | none => -1
theorem posA_of {l : List Ac} {i : Int} (hf : ¬ findA l i < 0) : ∃ k : Nat, posA l i = some k ∧ findA l i = (k : Int) ∧ k < l.length := by
  unfold findA at *
  cases h : posA l i with
  | none => rw [h] at hf; exact absurd (show (-1 : Int) < 0 by decide) hf
  | some k =>
    refine ⟨k, rfl, rfl, ?_⟩
    unfold posA at h
    exact (List.findIdx?_eq_some_iff_getElem.1 h).1
theorem findA_at {l : List Ac} {i : Int} {k : Nat} (hk : k < l.length) (h1 : ∀ j, j < k → (l.getD j zAccount).Id ≠ i) (h2 : (l.getD k zAccount).Id = i) : findA l i = (k : Int) := by
  have : posA l i = some k := by
    unfold posA
    rw [List.findIdx?_eq_some_iff_getElem]
    refine ⟨hk, ?_, fun j hj => ?_⟩
    · rw [List.getD_eq_getElem?_getD, List.getElem?_eq_getElem hk] at h2
      simpa using h2
    · have := h1 j hj
      rw [List.getD_eq_getElem?_getD, List.getElem?_eq_getElem (by omega)] at this
      simpa using this
  unfold findA; rw [this]
theorem findA_no {l : List Ac} {i : Int} (h1 : ∀ j, j < l.length → (l.getD j zAccount).Id ≠ i) : findA l i = -1 := by
  have : posA l i = none := by
    unfold posA
    rw [List.findIdx?_eq_none_iff]
    intro x hx
    obtain ⟨j, hj, rfl⟩ := List.getElem_of_mem hx
    have := h1 j hj
    rw [List.getD_eq_getElem?_getD, List.getElem?_eq_getElem hj] at this
    simpa using this
  unfold findA; rw [this]
end Go.Proofs.YtllaacdikjffmaaGreat.M21
