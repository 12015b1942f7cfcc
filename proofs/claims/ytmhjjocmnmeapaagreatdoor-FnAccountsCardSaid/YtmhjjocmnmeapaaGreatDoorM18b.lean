import Derived.Test.YtmhjjocmnmeapaaGreatDoorM18
/-
  Accounts in plain words, further: what adding a credential and cutting it mean.
-/
namespace Go.Proofs.YtmhjjocmnmeapaaGreatDoor.M18
open S0 S1 S9 Dm Fx M8 Das
set_option linter.unusedVariables false
set_option linter.unusedSimpArgs false
theorem ins_k {l : List Cr} {k : Nat} {h p : Int} (hk : k ≤ l.length) : (insK l k h p).getD k zCredential = ⟨h, p, 0, false⟩ := by
  unfold insK
  have hl : (l.take k).length = k := by rw [List.length_take]; omega
  rw [List.getD_eq_getElem?_getD, List.append_assoc, List.getElem?_append_right (by omega), hl, Nat.sub_self]
  rfl
theorem ins_lo {l : List Cr} {k : Nat} {h p : Int} (hk : k ≤ l.length) {j : Nat} (hj : j < k) : (insK l k h p).getD j zCredential = l.getD j zCredential := by
  have := ins_at (h := h) (p := p) hk (show j < l.length by omega)
  rwa [if_pos hj] at this
theorem find_ins {l : List Cr} {h p : Int} : findC (insK l (cnt l h) h p) h = (cnt l h : Int) := by
  have hk := cnt_le l h
  refine find_at (by rw [insK_len h p hk]; omega) (fun j hj => ?_) (by rw [ins_k hk])
  rw [ins_lo hk hj]
  have := cnt_lt hj
  omega
theorem add_cr {a : Fx.Account} {h p : Int} (e : addB a h p = true) : (addX a h p).Credentials = insK a.Credentials (cnt a.Credentials h) h p := by rw [addX_t e]; rfl
theorem find_add {a : Fx.Account} {h p : Int} (e : addB a h p = true) : findC (addX a h p).Credentials h = (cnt a.Credentials h : Int) := by rw [add_cr e]; exact find_ins
theorem len_add {a : Fx.Account} {h p : Int} (e : addB a h p = true) : (addX a h p).Credentials.length = a.Credentials.length + 1 := by rw [add_cr e]; exact insK_len h p (cnt_le _ _)
theorem add_lenL (a : Fx.Account) (h p : Int) : (addX a h p).Credentials.length ≤ a.Credentials.length + 1 := by
  cases e : addB a h p with
  | false => rw [addX_f e]; omega
  | true => exact Nat.le_of_eq (len_add e)
theorem cut_lenL (a : Fx.Account) (h : Int) : (cutX a h).Credentials.length ≤ a.Credentials.length := by
  cases e : cutB a h with
  | false => rw [cutX_f e]; omega
  | true => rw [cutX_t e]; show (setC _ _).length ≤ _; unfold setC; rw [List.length_set]; omega
theorem setN_len (l : List Cr) (k : Nat) (n : Int) : (setN l k n).length = l.length := by unfold setN; rw [List.length_set]
theorem Seen.inj {l : List Cr} (hs : Seen l l.length) {i j : Nat} (hi : i < l.length) (hj : j < l.length) (hne : i ≠ j) : (l.getD i zCredential).Handle ≠ (l.getD j zCredential).Handle ∧ (l.getD i zCredential).Public ≠ (l.getD j zCredential).Public := by
  rcases Nat.lt_or_ge i j with h | h
  · have h1 := hs.lt h hj
    exact ⟨by omega, (hs j hj).once i h⟩
  · have h2 : j < i := by omega
    have h1 := hs.lt h2 hi
    exact ⟨by omega, fun e => (hs i hi).once j h2 e.symm⟩
theorem getD_set {l : List Cr} {k : Nat} {y : Cr} (hk : k < l.length) (j : Nat) : (l.set k y).getD j zCredential = if j = k then y else l.getD j zCredential := by
  rw [List.getD_eq_getElem?_getD, List.getD_eq_getElem?_getD, List.getElem?_set]
  by_cases h : k = j
  · subst h; rw [if_pos rfl, if_pos rfl, if_pos hk]; rfl
  · rw [if_neg h, if_neg (fun e => h e.symm)]
theorem set_seen {l : List Cr} {k : Nat} {y : Cr} (hk : k < l.length) (h1 : y.Handle = (l.getD k zCredential).Handle) (h2 : y.Public = (l.getD k zCredential).Public) (h3 : 0 ≤ y.Counter ∧ y.Counter ≤ 1000000) (hs : Seen l l.length) : Seen (l.set k y) (l.set k y).length := fun j hj => by
  rw [List.length_set] at hj
  have hH : ∀ j, ((l.set k y).getD j zCredential).Handle = (l.getD j zCredential).Handle := fun j => by rw [getD_set hk]; split <;> simp_all
  have hP : ∀ j, ((l.set k y).getD j zCredential).Public = (l.getD j zCredential).Public := fun j => by rw [getD_set hk]; split <;> simp_all
  have g := hs j hj
  refine ⟨by rw [hH]; exact g.handle, fun h0 => by rw [hH, hH]; exact g.rises h0, by rw [hP]; exact g.key, ?_, fun i hi => by rw [hP, hP]; exact g.once i hi⟩
  rw [getD_set hk]
  split
  · exact h3
  · exact g.counter
theorem pos_before {l : List Cr} {h : Int} {k : Nat} (e : pos l h = some k) {j : Nat} (hj : j < k) : (l.getD j zCredential).Handle ≠ h := by
  unfold pos at e
  obtain ⟨h1, _, h3⟩ := List.findIdx?_eq_some_iff_getElem.1 e
  have := h3 j hj
  simpa [List.getD_eq_getElem?_getD, List.getElem?_eq_getElem (Nat.lt_trans hj h1)] using this
/-- A credential that was cut: found where it was, and cut. -/
theorem cut_of {a : Fx.Account} {h : Int} (e : cutB a h = true) : ∃ k, pos a.Credentials h = some k ∧ vac a = true ∧ (a.Credentials.getD k zCredential).Cut = false ∧ k < a.Credentials.length ∧ cutX a h = ⟨a.Id, a.Minimum, setC a.Credentials k⟩ := by
  have hx := cutX_t e
  unfold cutB at e
  rw [Bool.and_eq_true] at e
  obtain ⟨e1, e2⟩ := e
  cases hp : pos a.Credentials h with
  | none => rw [hp] at e2; cases e2
  | some k =>
    rw [hp] at e2
    have hf : findC a.Credentials h = (k : Int) := by unfold findC; rw [hp]
    rw [hf] at hx
    exact ⟨k, rfl, e1, by simpa using e2, (pos_handle hp).1, hx⟩
theorem vac_cut {a : Fx.Account} {h : Int} (hv : vac a = true) : vac (cutX a h) = true := by
  cases e : cutB a h with
  | false => rw [cutX_f e]; exact hv
  | true =>
    obtain ⟨k, hp, _, _, hk, hx⟩ := cut_of e
    rw [hx]
    obtain ⟨h1, h2, h3, h4⟩ := vac_ok hv
    exact vac_t h1 h2 (by show (setC _ _).length ≤ 8; unfold setC; rw [List.length_set]; exact h3) (set_seen hk rfl rfl (h4 k hk).counter h4)
theorem cut_more {a : Fx.Account} {h : Int} (e : cutB a h = true) : cutB (cutX a h) h = false := by
  obtain ⟨k, hp, hv, _, hk, hx⟩ := cut_of e
  have hf : findC (setC a.Credentials k) h = (k : Int) := find_at (by unfold setC; rw [List.length_set]; exact hk) (fun j hj => by
      unfold setC; rw [getD_set hk, if_neg (by omega)]; exact pos_before hp hj) (by unfold setC; rw [getD_set hk, if_pos rfl]; exact (pos_handle hp).2)
  have := cutB_p (a := cutX a h) (h := h) (vac_cut hv) (by rw [hx]; show ¬ findC (setC _ _) h < 0; rw [hf]; omega)
  rw [this, hx]
  show (!((setC a.Credentials k).getD (findC (setC a.Credentials k) h).toNat zCredential).Cut) = false
  rw [hf, Int.toNat_natCast]
  unfold setC
  rw [getD_set hk, if_pos rfl]
  rfl
end Go.Proofs.YtmhjjocmnmeapaaGreatDoor.M18
