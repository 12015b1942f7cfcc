/-
  What chapter 17 says of bundles, in plain words.
-/
import Derived.Test.YtoedfeacpllkeaaYBundle
import Derived.Test.YtoedfeacpllkeaaDa17
namespace Go.Proofs.Ytoedfeacpllkeaa.M26
open S0 S1 S9 Dm Fx Das E18
set_option linter.unusedVariables false
abbrev En := Fx.Entry
def inT (n lo hi : Int) : Bool := decide (lo ≤ n) && decide (n ≤ hi)
theorem inT_ok {n lo hi : Int} (h : inT n lo hi = true) : lo ≤ n ∧ n ≤ hi := by unfold inT at h; simpa using h
theorem inT_t {n lo hi : Int} (h : lo ≤ n ∧ n ≤ hi) : inT n lo hi = true := by unfold inT; simp [h.1, h.2]
/-- Whether an entry's place comes earlier. -/
def ltE (a : En) (s h : Int) : Bool := decide (a.Site < s) || (decide (a.Site = s) && decide (a.Handle < h))
theorem ltE_iff {a : En} {s h : Int} : ltE a s h = true ↔ a.Site < s ∨ a.Site = s ∧ a.Handle < h := by unfold ltE; simp
theorem ltE_not {a : En} {s h : Int} : ltE a s h = false ↔ ¬ (a.Site < s ∨ a.Site = s ∧ a.Handle < h) := by
  rw [← ltE_iff]; simp
def isE (s h : Int) (x : En) : Bool := decide (x.Site = s) && decide (x.Handle = h)
theorem isE_iff {x : En} {s h : Int} : isE s h x = true ↔ x.Site = s ∧ x.Handle = h := by unfold isE; simp
theorem isE_not {x : En} {s h : Int} : isE s h x = false ↔ ¬ (x.Site = s ∧ x.Handle = h) := by rw [← isE_iff]; simp
def okE (x : En) : Bool := inT x.Site 0 2147483646 && (inT x.Handle 0 1000000 && inT x.Version 1 1000000)
def okAt (l : List En) (i : Nat) : Bool := okE (l.getD i zEntry) && (decide (i = 0) || ltE (l.getD (i - 1) zEntry) (l.getD i zEntry).Site (l.getD i zEntry).Handle)
def vbu (l : List En) : Bool := (List.range l.length).all (okAt l) && decide (l.length ≤ 20)
theorem vbu_at {l : List En} {i : Nat} (hi : i < l.length) (h : okAt l i = false) : vbu l = false := by
  cases e : vbu l with
  | false => rfl
  | true =>
    unfold vbu at e
    rw [Bool.and_eq_true, List.all_eq_true] at e
    rw [e.1 i (List.mem_range.2 hi)] at h
    cases h
theorem vbu_all {l : List En} (h : ∀ j, j < l.length → okAt l j = true) : vbu l = decide (l.length ≤ 20) := by
  unfold vbu
  rw [List.all_eq_true.2 (fun j hj => h j (List.mem_range.1 hj)), Bool.true_and]
theorem okAt_e {l : List En} {i : Nat} (h : okE (l.getD i zEntry) = false) : okAt l i = false := by unfold okAt; rw [h]; rfl
theorem okE_1 {x : En} (h : inT x.Site 0 2147483646 = false) : okE x = false := by unfold okE; rw [h]; rfl
theorem okE_2 {x : En} (h : inT x.Handle 0 1000000 = false) : okE x = false := by unfold okE; rw [h]; simp
theorem okE_3 {x : En} (h : inT x.Version 1 1000000 = false) : okE x = false := by unfold okE; rw [h]; simp
theorem okE_t {x : En} (h1 : inT x.Site 0 2147483646 = true) (h2 : inT x.Handle 0 1000000 = true) (h3 : inT x.Version 1 1000000 = true) : okE x = true := by unfold okE; rw [h1, h2, h3]; rfl
theorem okE_ok {x : En} (h : okE x = true) : (0 ≤ x.Site ∧ x.Site ≤ 2147483646) ∧ (0 ≤ x.Handle ∧ x.Handle ≤ 1000000) ∧ (1 ≤ x.Version ∧ x.Version ≤ 1000000) := by
  unfold okE at h
  rw [Bool.and_eq_true, Bool.and_eq_true] at h
  exact ⟨inT_ok h.1, inT_ok h.2.1, inT_ok h.2.2⟩
theorem okE_of {x : En} (h : (0 ≤ x.Site ∧ x.Site ≤ 2147483646) ∧ (0 ≤ x.Handle ∧ x.Handle ≤ 1000000) ∧ (1 ≤ x.Version ∧ x.Version ≤ 1000000)) : okE x = true := okE_t (inT_t h.1) (inT_t h.2.1) (inT_t h.2.2)
theorem okAt_0 {l : List En} {i : Nat} (h : okE (l.getD i zEntry) = true) (h0 : i = 0) : okAt l i = true := by unfold okAt; rw [h, decide_eq_true h0]; rfl
theorem okAt_l {l : List En} {i : Nat} (h : okE (l.getD i zEntry) = true) (h1 : ltE (l.getD (i - 1) zEntry) (l.getD i zEntry).Site (l.getD i zEntry).Handle = true) : okAt l i = true := by unfold okAt; rw [h, h1]; simp
theorem okAt_f {l : List En} {i : Nat} (h0 : i ≠ 0) (h1 : ltE (l.getD (i - 1) zEntry) (l.getD i zEntry).Site (l.getD i zEntry).Handle = false) : okAt l i = false := by unfold okAt; rw [h1, decide_eq_false h0]; simp
/-- Places in ascending order. -/
def lt2 (a b : En) : Prop := ltE a b.Site b.Handle = true
theorem lt2_iff {a b : En} : lt2 a b ↔ a.Site < b.Site ∨ a.Site = b.Site ∧ a.Handle < b.Handle := ltE_iff
theorem lt2_trans {a b c : En} (h1 : lt2 a b) (h2 : lt2 b c) : lt2 a c := by rw [lt2_iff] at *; omega
abbrev Asc (l : List En) : Prop := l.Pairwise lt2
theorem asc_adj : ∀ {l : List En}, (∀ i, i + 1 < l.length → lt2 (l.getD i zEntry) (l.getD (i + 1) zEntry)) → Asc l
  | [], _ => List.Pairwise.nil
  | [x], _ => List.pairwise_singleton _ _
  | x :: y :: l, h => by
    have ih : Asc (y :: l) := asc_adj fun i hi => h (i + 1) (by simp at hi ⊢; omega)
    have hxy : lt2 x y := h 0 (by simp)
    refine List.pairwise_cons.2 ⟨fun z hz => ?_, ih⟩
    rcases List.mem_cons.1 hz with rfl | hz
    · exact hxy
    · exact lt2_trans hxy ((List.pairwise_cons.1 ih).1 z hz)
theorem getD_lt {l : List En} {i : Nat} (h : i < l.length) : l.getD i zEntry = l[i] := by rw [List.getD_eq_getElem?_getD, List.getElem?_eq_getElem h]; rfl
theorem asc_at {l : List En} (h : Asc l) {i j : Nat} (hij : i < j) (hj : j < l.length) : lt2 (l.getD i zEntry) (l.getD j zEntry) := by
  rw [getD_lt hj, getD_lt (Nat.lt_trans hij hj)]
  exact List.pairwise_iff_getElem.1 h i j _ hj hij
theorem vbu_is {l : List En} (h : vbu l = true) : Asc l ∧ (∀ x ∈ l, okE x = true) ∧ l.length ≤ 20 := by
  unfold vbu at h
  rw [Bool.and_eq_true, List.all_eq_true] at h
  have hk : ∀ j, j < l.length → okAt l j = true := fun j hj => h.1 j (List.mem_range.2 hj)
  refine ⟨asc_adj fun i hi => ?_, fun x hx => ?_, of_decide_eq_true h.2⟩
  · have := hk (i + 1) hi
    unfold okAt at this
    rw [Bool.and_eq_true, Bool.or_eq_true] at this
    rcases this.2 with h0 | h0
    · exact absurd (of_decide_eq_true h0) (Nat.succ_ne_zero i)
    · exact h0
  · obtain ⟨i, hi, rfl⟩ := List.getElem_of_mem hx
    have := hk i hi
    unfold okAt at this
    rw [Bool.and_eq_true, getD_lt hi] at this
    exact this.1
theorem vbu_of {l : List En} (h1 : Asc l) (h2 : ∀ x ∈ l, okE x = true) (h3 : l.length ≤ 20) : vbu l = true := by
  rw [vbu_all (fun j hj => ?_), decide_eq_true h3]
  have h4 : okE (l.getD j zEntry) = true := by rw [getD_lt hj]; exact h2 _ (List.getElem_mem hj)
  by_cases h0 : j = 0
  · exact okAt_0 h4 h0
  · exact okAt_l h4 (asc_at h1 (show j - 1 < j by omega) hj)
/-- The place of an entry. -/
def fndE (l : List En) (s h : Int) : Option Nat := l.findIdx? (isE s h)
def fndI (l : List En) (s h : Int) : Int := match fndE l s h with | some k => (k : Int) | none => -1
theorem fndE_some {l : List En} {s h : Int} {k : Nat} (hk : k < l.length) (h1 : isE s h (l.getD k zEntry) = true) (h2 : ∀ j, j < k → isE s h (l.getD j zEntry) = false) : fndE l s h = some k := by
  unfold fndE
  refine List.findIdx?_eq_some_iff_getElem.2 ⟨hk, by rw [← getD_lt hk]; exact h1, fun j hj => ?_⟩
  have := h2 j hj
  rw [getD_lt (Nat.lt_trans hj hk)] at this
  simpa using this
theorem fndE_none {l : List En} {s h : Int} (h2 : ∀ j, j < l.length → isE s h (l.getD j zEntry) = false) : fndE l s h = none := by
  unfold fndE
  refine List.findIdx?_eq_none_iff.2 fun x hx => ?_
  obtain ⟨i, hi, rfl⟩ := List.getElem_of_mem hx
  rw [← getD_lt hi]
  exact h2 i hi
theorem fndE_at {l : List En} {s h : Int} {k : Nat} (e : fndE l s h = some k) : k < l.length ∧ (l.getD k zEntry).Site = s ∧ (l.getD k zEntry).Handle = h ∧ ∀ j, j < k → isE s h (l.getD j zEntry) = false := by
  unfold fndE at e
  obtain ⟨h1, h2, h3⟩ := List.findIdx?_eq_some_iff_getElem.1 e
  rw [← getD_lt h1, isE_iff] at h2
  exact ⟨h1, h2.1, h2.2, fun j hj => by have := h3 j hj; rw [getD_lt (Nat.lt_trans hj h1)]; simpa using this⟩
theorem fndE_no {l : List En} {s h : Int} (e : fndE l s h = none) : ∀ j, j < l.length → isE s h (l.getD j zEntry) = false := by
  unfold fndE at e
  intro j hj
  rw [getD_lt hj]
  exact List.findIdx?_eq_none_iff.1 e _ (List.getElem_mem hj)
theorem fndI_some {l : List En} {s h : Int} {k : Nat} (e : fndE l s h = some k) : fndI l s h = (k : Int) := by unfold fndI; rw [e]
theorem fndI_none {l : List En} {s h : Int} (e : fndE l s h = none) : fndI l s h = -1 := by unfold fndI; rw [e]
theorem fndI_pos {l : List En} {s h : Int} (e : 0 ≤ fndI l s h) : ∃ k, fndE l s h = some k ∧ fndI l s h = (k : Int) := by
  cases hf : fndE l s h with
  | some k => exact ⟨k, rfl, fndI_some hf⟩
  | none => rw [fndI_none hf] at e; omega
theorem fndI_neg {l : List En} {s h : Int} (e : ¬ 0 ≤ fndI l s h) : fndE l s h = none := by
  cases hf : fndE l s h with
  | some k => rw [fndI_some hf] at e; omega
  | none => rfl
theorem fndI_lt {l : List En} {s h : Int} (e : 0 ≤ fndI l s h) : (fndI l s h).toNat < l.length := by
  obtain ⟨k, h1, h2⟩ := fndI_pos e
  rw [h2]
  exact (fndE_at h1).1
/-- How many entries come earlier. -/
def cntE (l : List En) (s h : Int) : Nat := (l.takeWhile fun y => ltE y s h).length
theorem cntE_le (l : List En) (s h : Int) : cntE l s h ≤ l.length := List.Sublist.length_le (List.takeWhile_sublist _)
theorem cntE_is {l : List En} {s h : Int} {k : Nat} (h1 : ∀ j, j < k → ltE (l.getD j zEntry) s h = true) (hk : k ≤ l.length) (h2 : k < l.length → ltE (l.getD k zEntry) s h = false) : cntE l s h = k := by
  unfold cntE
  induction l generalizing k with
  | nil => simp at hk; simp [hk]
  | cons x l ih =>
    cases k with
    | zero =>
      have := h2 (by simp)
      rw [List.takeWhile_cons_of_neg (by simpa using this)]
      rfl
    | succ k =>
      have h0 := h1 0 (by omega)
      rw [List.takeWhile_cons_of_pos (by simpa using h0), List.length_cons, ih (fun j hj => h1 (j + 1) (by omega)) (by simpa using hk) (fun hl => h2 (by simpa using hl))]
def insE (l : List En) (k : Nat) (x : En) : List En := l.take k ++ x :: l.drop k
def setE (l : List En) (x : En) : List En := match fndE l x.Site x.Handle with | some k => l.set k x | none => insE l (cntE l x.Site x.Handle) x
theorem setE_some {l : List En} {x : En} {k : Nat} (e : fndE l x.Site x.Handle = some k) : setE l x = l.set k x := by unfold setE; rw [e]
theorem setE_none {l : List En} {x : En} (e : fndE l x.Site x.Handle = none) : setE l x = insE l (cntE l x.Site x.Handle) x := by unfold setE; rw [e]
theorem insE_len {l : List En} {k : Nat} {x : En} (h : k ≤ l.length) : (insE l k x).length = l.length + 1 := by unfold insE; simp; omega
theorem setE_len (l : List En) (x : En) : l.length ≤ (setE l x).length ∧ (setE l x).length ≤ l.length + 1 := by
  cases e : fndE l x.Site x.Handle with
  | some k => rw [setE_some e, List.length_set]; omega
  | none => rw [setE_none e, insE_len (cntE_le _ _ _)]; omega
/-- The next version of an entry. -/
def delAt (l : List En) (s h : Int) : Bool := match fndE l s h with | some k => (l.getD k zEntry).Deleted | none => true
def verAt (l : List En) (s h : Int) : Int := match fndE l s h with | some k => (l.getD k zEntry).Version | none => 0
def nxtE (l : List En) (s h : Int) (d : Bool) : En := ⟨s, h, IntKind.i64.wrap (verAt l s h + 1), d⟩
theorem at_some {l : List En} {s h : Int} {k : Nat} (e : fndE l s h = some k) : delAt l s h = (l.getD k zEntry).Deleted ∧ verAt l s h = (l.getD k zEntry).Version := by unfold delAt verAt; rw [e]; exact ⟨rfl, rfl⟩
theorem at_none {l : List En} {s h : Int} (e : fndE l s h = none) : delAt l s h = true ∧ verAt l s h = 0 := by unfold delAt verAt; rw [e]; exact ⟨rfl, rfl⟩
def putB (l : List En) (s h : Int) : Bool := delAt l s h && (vbu l && vbu (setE l (nxtE l s h false)))
def putX (l : List En) (s h : Int) : List En := match putB l s h with | true => setE l (nxtE l s h false) | false => l
theorem putX_t {l : List En} {s h : Int} (e : putB l s h = true) : putX l s h = setE l (nxtE l s h false) := by unfold putX; rw [e]
theorem putX_f {l : List En} {s h : Int} (e : putB l s h = false) : putX l s h = l := by unfold putX; rw [e]
def delB (l : List En) (s h : Int) : Bool := vbu l && (!delAt l s h && !(verAt l s h == 1000000))
def delX (l : List En) (s h : Int) : List En := match delB l s h with | true => setE l (nxtE l s h true) | false => l
theorem delX_t {l : List En} {s h : Int} (e : delB l s h = true) : delX l s h = setE l (nxtE l s h true) := by unfold delX; rw [e]
theorem delX_f {l : List En} {s h : Int} (e : delB l s h = false) : delX l s h = l := by unfold delX; rw [e]
def newE (x y : En) : Bool := decide (y.Version < x.Version) || (decide (x.Version = y.Version) && x.Deleted)
/-- One entry merged in. -/
def stpE (l : List En) (x : En) : List En := match fndE l x.Site x.Handle with | some k => (match newE x (l.getD k zEntry) with | true => l.set k x | false => l) | none => setE l x
theorem stpE_none {l : List En} {x : En} (e : fndE l x.Site x.Handle = none) : stpE l x = setE l x := by unfold stpE; rw [e]
theorem stpE_t {l : List En} {x : En} {k : Nat} (e : fndE l x.Site x.Handle = some k) (h : newE x (l.getD k zEntry) = true) : stpE l x = setE l x := by unfold stpE; rw [e, setE_some e]; simp only [h]
theorem stpE_f {l : List En} {x : En} {k : Nat} (e : fndE l x.Site x.Handle = some k) (h : newE x (l.getD k zEntry) = false) : stpE l x = l := by unfold stpE; rw [e]; simp only [h]
theorem stpE_len (l : List En) (x : En) : l.length ≤ (stpE l x).length ∧ (stpE l x).length ≤ l.length + 1 := by
  cases e : fndE l x.Site x.Handle with
  | none => rw [stpE_none e]; exact setE_len l x
  | some k =>
    cases h : newE x (l.getD k zEntry) with
    | true => rw [stpE_t e h]; exact setE_len l x
    | false => rw [stpE_f e h]; omega
def mrgL (a b : List En) : List En := b.foldl stpE a
theorem mrgL_len : ∀ (b a : List En), (mrgL a b).length ≤ a.length + b.length
  | [], a => by simp [mrgL]
  | x :: b, a => by
    have h1 := mrgL_len b (stpE a x)
    have h2 := (stpE_len a x).2
    show (mrgL (stpE a x) b).length ≤ _
    rw [List.length_cons]
    omega
theorem mrgL_take {a b : List En} {i : Nat} (hi : i < b.length) : mrgL a (b.take (i + 1)) = stpE (mrgL a (b.take i)) (b.getD i zEntry) := by
  unfold mrgL
  rw [List.take_add_one, List.getElem?_eq_getElem hi, List.foldl_append, getD_lt hi]
  rfl
def mrgB (a b : List En) : Bool := vbu a && (vbu b && vbu (mrgL a b))
def mrgX (a b : List En) : List En := match mrgB a b with | true => mrgL a b | false => a
theorem mrgX_t {a b : List En} (e : mrgB a b = true) : mrgX a b = mrgL a b := by unfold mrgX; rw [e]
theorem mrgX_f {a b : List En} (e : mrgB a b = false) : mrgX a b = a := by unfold mrgX; rw [e]
theorem mrgB_1 {a b : List En} (h : vbu a = false) : mrgB a b = false := by unfold mrgB; rw [h]; rfl
theorem mrgB_2 {a b : List En} (h : vbu b = false) : mrgB a b = false := by unfold mrgB; rw [h]; simp
theorem mrgB_3 {a b : List En} (h : vbu (mrgL a b) = false) : mrgB a b = false := by unfold mrgB; rw [h]; simp
theorem mrgB_t {a b : List En} (h1 : vbu a = true) (h2 : vbu b = true) (h3 : vbu (mrgL a b) = true) : mrgB a b = true := by unfold mrgB; rw [h1, h2, h3]; rfl
open Classical in
noncomputable def eqlE (a b : List En) : Bool := decide (a = b)
open Classical in
theorem eqlE_t {a b : List En} (h : a = b) : eqlE a b = true := by unfold eqlE; exact decide_eq_true h
open Classical in
theorem eqlE_f {a b : List En} (h : a ≠ b) : eqlE a b = false := by unfold eqlE; exact decide_eq_false h
open Classical in
theorem eqlE_iff {a b : List En} : eqlE a b = true ↔ a = b := by unfold eqlE; simp
noncomputable def incB (a b : List En) : Bool := mrgB a b && eqlE (mrgX a b) a
def actE (l : List En) : List En := l.filter fun x => !x.Deleted
theorem actE_len (l : List En) : (actE l).length ≤ l.length := List.length_filter_le _ _
theorem actE_take {l : List En} {i : Nat} (hi : i < l.length) : actE (l.take (i + 1)) = actE (l.take i) ++ (match (l.getD i zEntry).Deleted with | true => [] | false => [l.getD i zEntry]) := by
  unfold actE
  rw [List.take_add_one, List.getElem?_eq_getElem hi, List.filter_append, getD_lt hi]
  cases h : l[i].Deleted <;> simp [h]
theorem list_ext {a b : List En} (hl : a.length = b.length) (h : ∀ j, j < a.length → a.getD j zEntry = b.getD j zEntry) : a = b := by
  apply List.ext_getElem hl
  intro i h1 h2
  rw [← getD_lt h1, ← getD_lt h2]
  exact h i h1
/-- The search of a place in an ascending row. -/
theorem asc_not {l : List En} (ha : Asc l) {s h : Int} {k j : Nat} (hk : ltE (l.getD k zEntry) s h = false) (hkj : k ≤ j) (hj : j < l.length) : ltE (l.getD j zEntry) s h = false := by
  rcases Nat.eq_or_lt_of_le hkj with rfl | hlt
  · exact hk
  · have h1 := lt2_iff.1 (asc_at ha hlt hj)
    rw [ltE_not] at hk ⊢
    omega
theorem asc_lt {l : List En} (ha : Asc l) {s h : Int} {k j : Nat} (hk : ltE (l.getD k zEntry) s h = true) (hj : j ≤ k) (hl : k < l.length) : ltE (l.getD j zEntry) s h = true := by
  rcases Nat.eq_or_lt_of_le hj with rfl | hlt
  · exact hk
  · have h1 := lt2_iff.1 (asc_at ha hlt hl)
    rw [ltE_iff] at hk ⊢
    omega
def hitE (l : List En) (s h : Int) : Bool := decide (cntE l s h < l.length) && isE s h (l.getD (cntE l s h) zEntry)
theorem cntE_lt {l : List En} {s h : Int} {j : Nat} (hj : j < cntE l s h) : ltE (l.getD j zEntry) s h = true := by
  unfold cntE at hj
  induction l generalizing j with
  | nil => simp at hj
  | cons x l ih =>
    cases hx : ltE x s h with
    | false => rw [List.takeWhile_cons_of_neg (by simp [hx])] at hj; simp at hj
    | true =>
      rw [List.takeWhile_cons_of_pos (by simp [hx]), List.length_cons] at hj
      cases j with
      | zero => exact hx
      | succ j => exact ih (by omega)
theorem cntE_at {l : List En} {s h : Int} (hj : cntE l s h < l.length) : ltE (l.getD (cntE l s h) zEntry) s h = false := by
  unfold cntE at hj ⊢
  induction l with
  | nil => simp at hj
  | cons x l ih =>
    cases hx : ltE x s h with
    | false => rw [List.takeWhile_cons_of_neg (by simp [hx])]; exact hx
    | true =>
      rw [List.takeWhile_cons_of_pos (by simp [hx]), List.length_cons] at hj ⊢
      exact ih (by simpa using hj)
theorem hit_some {l : List En} (ha : Asc l) {s h : Int} (e : hitE l s h = true) : fndE l s h = some (cntE l s h) := by
  unfold hitE at e
  rw [Bool.and_eq_true] at e
  refine fndE_some (of_decide_eq_true e.1) e.2 fun j hj => ?_
  have := ltE_iff.1 (cntE_lt hj)
  rw [isE_not]
  omega
theorem hit_none {l : List En} (ha : Asc l) {s h : Int} (e : hitE l s h = false) : fndE l s h = none := by
  refine fndE_none fun j hj => ?_
  rcases Nat.lt_or_ge j (cntE l s h) with hc | hc
  · have := ltE_iff.1 (cntE_lt hc)
    rw [isE_not]
    omega
  · have hl : cntE l s h < l.length := by omega
    have h1 := cntE_at hl
    unfold hitE at e
    rw [decide_eq_true hl, Bool.true_and, isE_not] at e
    rw [ltE_not] at h1
    rw [isE_not]
    rcases Nat.eq_or_lt_of_le hc with rfl | hlt
    · exact e
    · have h2 := lt2_iff.1 (asc_at ha hlt hj)
      omega
theorem asc_set {l : List En} (ha : Asc l) {x : En} {k : Nat} (hk : k < l.length) (h1 : (l.getD k zEntry).Site = x.Site) (h2 : (l.getD k zEntry).Handle = x.Handle) : Asc (l.set k x) := by
  have hg : ∀ j, j < l.length → ((l.set k x).getD j zEntry).Site = (l.getD j zEntry).Site ∧ ((l.set k x).getD j zEntry).Handle = (l.getD j zEntry).Handle := fun j hj => by
    rw [List.getD_eq_getElem?_getD, List.getElem?_set]
    by_cases e : k = j
    · subst e; rw [if_pos rfl, if_pos hk]; exact ⟨h1.symm, h2.symm⟩
    · rw [if_neg e, ← List.getD_eq_getElem?_getD]; exact ⟨rfl, rfl⟩
  refine asc_adj fun i hi => ?_
  rw [List.length_set] at hi
  obtain ⟨a1, a2⟩ := hg i (by omega)
  obtain ⟨b1, b2⟩ := hg (i + 1) hi
  have := lt2_iff.1 (asc_at ha (Nat.lt_succ_self i) hi)
  rw [lt2_iff, a1, a2, b1, b2]
  exact this
theorem asc_ins {l : List En} (ha : Asc l) {x : En} (e : fndE l x.Site x.Handle = none) : Asc (insE l (cntE l x.Site x.Handle) x) := by
  unfold insE
  have hd : ∀ y ∈ l.drop (cntE l x.Site x.Handle), lt2 x y := fun y hy => by
    obtain ⟨i, hi, rfl⟩ := List.getElem_of_mem hy
    rw [List.length_drop] at hi
    have hl : cntE l x.Site x.Handle < l.length := by omega
    have h1 := asc_not ha (cntE_at hl) (Nat.le_add_right _ i) (by omega)
    have h2 := fndE_no e (cntE l x.Site x.Handle + i) (by omega)
    rw [getD_lt (by omega)] at h1 h2
    rw [List.getElem_drop, lt2_iff]
    rw [ltE_not] at h1
    rw [isE_not] at h2
    omega
  have ht : ∀ y ∈ l.take (cntE l x.Site x.Handle), lt2 y x := fun y hy => by
    obtain ⟨i, hi, rfl⟩ := List.getElem_of_mem hy
    rw [List.length_take] at hi
    have := cntE_lt (l := l) (s := x.Site) (h := x.Handle) (j := i) (by omega)
    rw [getD_lt (by omega)] at this
    rw [List.getElem_take]
    exact this
  rw [Asc, List.pairwise_append, List.pairwise_cons]
  refine ⟨ha.sublist (List.take_sublist _ _), ⟨hd, ha.sublist (List.drop_sublist _ _)⟩, fun a h1 b h2 => ?_⟩
  rcases List.mem_cons.1 h2 with rfl | h2
  · exact ht a h1
  · exact lt2_trans (ht a h1) (hd b h2)
theorem asc_setE {l : List En} (ha : Asc l) (x : En) : Asc (setE l x) := by
  cases e : fndE l x.Site x.Handle with
  | none => rw [setE_none e]; exact asc_ins ha e
  | some k =>
    obtain ⟨h1, h2, h3, _⟩ := fndE_at e
    rw [setE_some e]
    exact asc_set ha h1 h2 h3
theorem asc_stpE {l : List En} (ha : Asc l) (x : En) : Asc (stpE l x) := by
  cases e : fndE l x.Site x.Handle with
  | none => rw [stpE_none e]; exact asc_setE ha x
  | some k =>
    cases h : newE x (l.getD k zEntry) with
    | true => rw [stpE_t e h]; exact asc_setE ha x
    | false => rw [stpE_f e h]; exact ha
theorem asc_mrgL : ∀ (b : List En) {a : List En}, Asc a → Asc (mrgL a b)
  | [], a, h => h
  | x :: b, a, h => asc_mrgL b (asc_stpE h x)
theorem mem_setE {l : List En} {x y : En} (h : y ∈ setE l x) : y = x ∨ y ∈ l := by
  cases e : fndE l x.Site x.Handle with
  | some k =>
    rw [setE_some e] at h
    exact (List.mem_or_eq_of_mem_set h).symm
  | none =>
    rw [setE_none e] at h
    unfold insE at h
    rcases List.mem_append.1 h with h | h
    · exact .inr (List.mem_of_mem_take h)
    · rcases List.mem_cons.1 h with h | h
      · exact .inl h
      · exact .inr (List.mem_of_mem_drop h)
theorem mem_setE_self (l : List En) (x : En) : x ∈ setE l x := by
  cases e : fndE l x.Site x.Handle with
  | some k =>
    rw [setE_some e]
    exact List.mem_set (fndE_at e).1 x
  | none => rw [setE_none e]; unfold insE; simp
/-- A change of an entry is a merge with its next version. -/
theorem chg_mrg {l : List En} {s h : Int} {d : Bool} (hd : delAt l s h = !d) (hv : vbu l = true) : mrgL l [nxtE l s h d] = setE l (nxtE l s h d) := by
  show stpE l (nxtE l s h d) = _
  cases e : fndE l s h with
  | none => exact stpE_none (x := nxtE l s h d) e
  | some k =>
    refine stpE_t (x := nxtE l s h d) e ?_
    obtain ⟨h1, h2, h3, _⟩ := fndE_at e
    obtain ⟨_, h4, _⟩ := vbu_is hv
    have h5 := okE_ok (h4 (l.getD k zEntry) (by rw [getD_lt h1]; exact List.getElem_mem h1))
    unfold newE nxtE
    simp only
    rw [(at_some e).2, IntWalk.i64_in _ (by omega), decide_eq_true (by omega), Bool.true_or]
theorem vbu_one {x : En} : vbu [x] = okE x := by
  cases e : okE x with
  | true => exact vbu_of (List.pairwise_singleton _ _) (fun y hy => by obtain rfl := List.mem_singleton.1 hy; exact e) (by simp)
  | false => exact vbu_at (l := [x]) (i := 0) (by simp) (okAt_e e)
theorem chg_put {l : List En} {s h : Int} (hd : delAt l s h = true) : mrgB l [nxtE l s h false] = putB l s h ∧ mrgX l [nxtE l s h false] = putX l s h := by
  have hB : mrgB l [nxtE l s h false] = putB l s h := by
    unfold mrgB putB
    rw [hd, Bool.true_and]
    cases hv : vbu l with
    | false => rfl
    | true =>
      rw [chg_mrg hd hv, vbu_one, Bool.true_and, Bool.true_and]
      cases hk : okE (nxtE l s h false) with
      | true => rfl
      | false =>
        rw [Bool.false_and]
        cases hs : vbu (setE l (nxtE l s h false)) with
        | false => rfl
        | true => rw [(vbu_is hs).2.1 _ (mem_setE_self _ _)] at hk; cases hk
  refine ⟨hB, ?_⟩
  unfold mrgX putX
  rw [hB]
  cases hp : putB l s h with
  | false => rfl
  | true =>
    unfold putB at hp
    rw [Bool.and_eq_true, Bool.and_eq_true] at hp
    exact chg_mrg hd hp.2.1
theorem set_ok {l : List En} {x : En} {k : Nat} (e : fndE l x.Site x.Handle = some k) (hv : vbu l = true) (hx : okE x = true) : vbu (setE l x) = true := by
  obtain ⟨h1, h2, h3⟩ := vbu_is hv
  refine vbu_of (asc_setE h1 x) (fun y hy => ?_) (by rw [setE_some e, List.length_set]; exact h3)
  rcases mem_setE hy with rfl | hy
  · exact hx
  · exact h2 y hy
theorem chg_del {l : List En} {s h : Int} (hd : delAt l s h = false) : mrgB l [nxtE l s h true] = delB l s h ∧ mrgX l [nxtE l s h true] = delX l s h := by
  obtain ⟨k, e⟩ : ∃ k, fndE l s h = some k := by
    cases e : fndE l s h with
    | some k => exact ⟨k, rfl⟩
    | none => rw [(at_none e).1] at hd; cases hd
  obtain ⟨h1, h2, h3, _⟩ := fndE_at e
  have hB : mrgB l [nxtE l s h true] = delB l s h := by
    unfold mrgB delB
    rw [hd, Bool.not_false, Bool.true_and]
    cases hv : vbu l with
    | false => rfl
    | true =>
      rw [chg_mrg hd hv, vbu_one, Bool.true_and, Bool.true_and]
      obtain ⟨_, h4, _⟩ := vbu_is hv
      have h5 := okE_ok (h4 (l.getD k zEntry) (by rw [getD_lt h1]; exact List.getElem_mem h1))
      have hver := (at_some e).2
      have hw : (nxtE l s h true).Version = verAt l s h + 1 := by
        show IntKind.i64.wrap (verAt l s h + 1) = _
        rw [hver]
        exact IntWalk.i64_in _ (by omega)
      by_cases hm : verAt l s h = 1000000
      · have : okE (nxtE l s h true) = false := okE_3 (by rw [hw]; unfold inT; rw [decide_eq_false (show ¬ verAt l s h + 1 ≤ 1000000 by omega)]; simp)
        rw [this, hm]
        rfl
      · have hk : okE (nxtE l s h true) = true := okE_of ⟨by show 0 ≤ s ∧ s ≤ _; rw [← h2]; exact h5.1, by show 0 ≤ h ∧ h ≤ _; rw [← h3]; exact h5.2.1, by rw [hw, hver]; rw [hver] at hm; omega⟩
        rw [hk, set_ok (x := nxtE l s h true) e hv hk]
        simp [hm]
  refine ⟨hB, ?_⟩
  unfold mrgX delX
  rw [hB]
  cases hp : delB l s h with
  | false => rfl
  | true =>
    unfold delB at hp
    rw [Bool.and_eq_true] at hp
    exact chg_mrg hd hp.1
/-- A place compared. -/
def cmpI (a b : Int) : Int := if a < b then -1 else if b < a then 1 else 0
def cmpE (a b : En) : Int := if a.Site = b.Site then cmpI a.Handle b.Handle else cmpI a.Site b.Site
theorem cmpI_z {a b : Int} : cmpI a b = 0 ↔ a = b := by unfold cmpI; split <;> (try split) <;> omega
theorem cmpI_n {a b : Int} : cmpI a b < 0 ↔ a < b := by unfold cmpI; split <;> (try split) <;> omega
theorem cmpE_n {a b : En} : cmpE a b < 0 ↔ ltE a b.Site b.Handle = true := by
  unfold cmpE
  rw [ltE_iff]
  split
  · rw [cmpI_n]; omega
  · rw [cmpI_n]; omega
theorem cmpE_z {a b : En} : cmpE a b = 0 ↔ isE b.Site b.Handle a = true := by
  unfold cmpE
  rw [isE_iff]
  split
  · rw [cmpI_z]; omega
  · rw [cmpI_z]; omega
end Go.Proofs.Ytoedfeacpllkeaa.M26
