import Derived.Test.YtialhhdhpjjkaaaGreatDoorM13
/-
  What origins promise, in plain lists: the last two labels of a host, and who may use a site's keys.
-/
namespace Go.Proofs.YtialhhdhpjjkaaaGreatDoor.M13b
open M12 M13
set_option linter.unusedVariables false
theorem split_app (p s : List UInt8) : split (p ++ 46 :: s) = split p ++ split s := by
  induction p with
  | nil => simp [split]
  | cons c p ih =>
    by_cases hc : c = 46
    · subst hc
      rw [List.cons_append, split_at, split_at, ih]
      rfl
    · cases hs : split p with
      | nil => exact absurd hs (split_ne p)
      | cons x xs =>
        rw [hs] at ih
        rw [List.cons_append, split_off hc ih, split_off hc hs]
        rfl
theorem lab_no {s : List UInt8} (h : lab s = true) : ∀ c ∈ s, c ≠ 46 := by
  intro c hc e
  have := List.all_eq_true.1 (lab_all h).1 c hc
  subst e
  exact absurd this (by decide)
theorem lab_short {s : List UInt8} (h : lab s = true) : s.length ≤ 20 := by
  unfold lab at h
  simp only [Bool.and_eq_true, decide_eq_true_eq] at h
  exact h.1.1.2.2
theorem host_labs {s : List UInt8} (h : host s = true) : ∀ x ∈ split s, lab x = true := by
  unfold host at h
  simp only [Bool.and_eq_true, List.all_eq_true] at h
  exact h.1
theorem getD_mem {α : Type} {l : List α} {i : Nat} (h : i < l.length) (d : α) : l.getD i d ∈ l := by
  rw [List.getD_eq_getElem?_getD, List.getElem?_eq_getElem h]
  exact List.getElem_mem h
/-- The last two labels of a host. -/
theorem reg_two {s : List UInt8} (h : host s = true) (h2 : 2 ≤ (split s).length) : ∃ a b, lab a = true ∧ lab b = true ∧ reg s = a ++ 46 :: b ∧ split (reg s) = [a, b] ∧ host (reg s) = true := by
  have ha := host_labs h _ (getD_mem (l := split s) (i := (split s).length - 2) (by omega) [])
  have hb := host_labs h _ (getD_mem (l := split s) (i := (split s).length - 1) (by omega) [])
  have e : reg s = (split s).getD ((split s).length - 2) [] ++ 46 :: (split s).getD ((split s).length - 1) [] := by
    unfold reg
    rw [if_pos h, if_neg (by omega)]
  have e2 : split (reg s) = [(split s).getD ((split s).length - 2) [], (split s).getD ((split s).length - 1) []] := by
    rw [e, split_app, split_last _ (lab_no ha), split_last _ (lab_no hb)]
    rfl
  refine ⟨_, _, ha, hb, e, e2, ?_⟩
  have l1 := lab_short ha
  have l2 := lab_short hb
  unfold host
  rw [e2]
  simp only [List.all_cons, List.all_nil, ha, hb, Bool.and_true, Bool.true_and, decide_eq_true_eq]
  rw [e, List.length_append, List.length_cons]
  omega
theorem reg_idem (s : List UInt8) : reg (reg s) = reg s := by
  cases h : host s with
  | false =>
    have e : reg s = [] := by unfold reg; rw [if_neg (by rw [h]; simp)]
    rw [e]
    rfl
  | true =>
    by_cases h2 : (split s).length < 2
    · have e : reg s = s := by unfold reg; rw [if_pos h, if_pos h2]
      rw [e, e]
    · obtain ⟨a, b, ha, hb, e, e2, e3⟩ := reg_two h (by omega)
      have e4 : reg (reg s) = a ++ 46 :: b := by
        unfold reg at e2 e3 ⊢
        rw [if_pos e3, e2, if_neg (by simp)]
        rfl
      rw [e4, e]
theorem reg_ne (s : List UInt8) : host s = (reg s != []) := by
  cases h : host s with
  | false =>
    have e : reg s = [] := by unfold reg; rw [if_neg (by rw [h]; simp)]
    rw [e]
    rfl
  | true =>
    by_cases h2 : (split s).length < 2
    · have e : reg s = s := by unfold reg; rw [if_pos h, if_pos h2]
      rw [e]
      have := host_ne h
      simpa using this
    · obtain ⟨a, b, ha, hb, e, e2, e3⟩ := reg_two h (by omega)
      rw [e]
      simp
theorem reg_size (s : List UInt8) : (reg s).length ≤ s.length + 41 := by
  cases h : host s with
  | false =>
    have e : reg s = [] := by unfold reg; rw [if_neg (by rw [h]; simp)]
    rw [e]
    exact Nat.zero_le _
  | true =>
    by_cases h2 : (split s).length < 2
    · have e : reg s = s := by unfold reg; rw [if_pos h, if_pos h2]
      rw [e]
      omega
    · obtain ⟨a, b, ha, hb, e, e2, e3⟩ := reg_two h (by omega)
      have l1 := lab_short ha
      have l2 := lab_short hb
      rw [e, List.length_append, List.length_cons]
      omega
theorem may_parts {o : Fx.Origin} {s : List UInt8} (h : mayO o s = true) : orgB o = true ∧ o.Secure = true ∧ host s = true ∧ 2 ≤ (split s).length ∧ (bts o.Host = s ∨ ∃ p, bts o.Host = p ++ 46 :: s) := by
  unfold mayO at h
  simp only [Bool.and_eq_true, Bool.or_eq_true, decide_eq_true_eq, beq_iff_eq, List.isSuffixOf_iff_suffix] at h
  obtain ⟨⟨⟨⟨h1, h2⟩, h3⟩, h4⟩, h5⟩ := h
  refine ⟨h1, h2, h3, h4, ?_⟩
  rcases h5 with h5 | ⟨p, h5⟩
  · exact Or.inl h5
  · exact Or.inr ⟨p, h5.symm⟩
/-- Who may use a site's keys has its last two labels. -/
theorem may_reg {o : Fx.Origin} {s : List UInt8} (h : mayO o s = true) : o.Secure = true ∧ reg s = reg (bts o.Host) := by
  obtain ⟨h1, h2, h3, h4, h5⟩ := may_parts h
  refine ⟨h2, ?_⟩
  rcases h5 with h5 | ⟨p, h5⟩
  · rw [h5]
  · have hh := (orgB_parts h1).1
    have e : split (bts o.Host) = split p ++ split s := by rw [h5, split_app]
    have hl : (split (bts o.Host)).length = (split p).length + (split s).length := by rw [e, List.length_append]
    unfold reg
    rw [if_pos h3, if_neg (by omega), if_pos hh, if_neg (by omega)]
    have g : ∀ j, 1 ≤ j → j ≤ (split s).length → (split (bts o.Host)).getD ((split (bts o.Host)).length - j) [] = (split s).getD ((split s).length - j) [] := by
      intro j j0 j1
      rw [hl, List.getD_eq_getElem?_getD, List.getD_eq_getElem?_getD, e, List.getElem?_append_right (by omega)]
      congr 2
      omega
    rw [g 2 (by omega) h4, g 1 (by omega) (by omega)]
theorem same_self (o : Fx.Origin) : sameO o o = orgB o := by
  unfold sameO
  simp
end Go.Proofs.YtialhhdhpjjkaaaGreatDoor.M13b
