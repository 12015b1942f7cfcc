import Derived.Test.YtogoppknimpkbaaGreatDoorBc
/-
  What origins promise, in plain lists: the last two labels of a host, and who may use a site's keys.
-/
namespace Go.Proofs.YtogoppknimpkbaaGreatDoor.M13b
open M12 M13
set_option linter.unusedVariables false
theorem split_app (p s : List UInt8) : split (p ++ 46 :: s) = split p ++ split s := by
  induction p with
  | nil => simp [split]
  | cons c p ih =>
    by_cases hc : c = 46
    · subst hc
      rw [List.cons_append, split_at, split_at, ih]
      rfl
    · cases hs : split p with
      | nil => exact absurd hs (split_ne p)
      | cons x xs =>
        rw [hs] at ih
        rw [List.cons_append, split_off hc ih, split_off hc hs]
        rfl
theorem lab_no {s : List UInt8} (h : lab s = true) : ∀ c ∈ s, c ≠ 46 := by
  intro c hc e
  have := List.all_eq_true.1 (lab_all h).1 c hc
  subst e
  exact absurd this (by decide)
theorem lab_short {s : List UInt8} (h : lab s = true) : s.length ≤ 20 := by
  unfold lab at h
  simp only [Bool.and_eq_true, decide_eq_true_eq] at h
  exact h.1.1.2.2
theorem host_labs {s : List UInt8} (h : host s = true) : ∀ x ∈ split s, lab x = true := by
  unfold host at h
  simp only [Bool.and_eq_true, List.all_eq_true] at h
  exact h.1
theorem getD_mem {α : Type} {l : List α} {i : Nat} (h : i < l.length) (d : α) : l.getD i d ∈ l := by
  rw [List.getD_eq_getElem?_getD, List.getElem?_eq_getElem h]
  exact List.getElem_mem h
/-- The last two labels of a host. -/
theorem reg_two {s : List UInt8} (h : host s = true) (h2 : 2 ≤ (split s).length) : ∃ a b, lab a = true ∧ lab b = true ∧ reg s = a ++ 46 :: b ∧ split (reg s) = [a, b] ∧ host (reg s) = true := by
  have ha := host_labs h _ (getD_mem (l := split s) (i := (split s).length - 2) (by omega) [])
  have hb := host_labs h _ (getD_mem (l := split s) (i := (split s).length - 1) (by omega) [])
  have e : reg s = (split s).getD ((split s).length - 2) [] ++ 46 :: (split s).getD ((split s).length - 1) [] := by
    unfold reg
    rw [if_pos h, if_neg (by omega)]
  have e2 : split (reg s) = [(split s).getD ((split s).length - 2) [], (split s).getD ((split s).length - 1) []] := by
    rw [e, split_app, split_last _ (lab_no ha), split_last _ (lab_no hb)]
    rfl
  refine ⟨_, _, ha, hb, e, e2, ?_⟩
  have l1 := lab_short ha
  have l2 := lab_short hb
  unfold host
  rw [e2]
  simp only [List.all_cons, List.all_nil, ha, hb, Bool.and_true, Bool.true_and, decide_eq_true_eq]
  rw [e, List.length_append, List.length_cons]
  omega
theorem reg_size (s : List UInt8) : (reg s).length ≤ s.length + 41 := by
  cases h : host s with
  | false =>
    have e : reg s = [] := by unfold reg; rw [if_neg (by rw [h]; simp)]
    rw [e]
    exact Nat.zero_le _
  | true =>
    by_cases h2 : (split s).length < 2
    · have e : reg s = s := by unfold reg; rw [if_pos h, if_pos h2]
      rw [e]
      omega
    · obtain ⟨a, b, ha, hb, e, e2, e3⟩ := reg_two h (by omega)
      have l1 := lab_short ha
      have l2 := lab_short hb
      rw [e, List.length_append, List.length_cons]
      omega
end Go.Proofs.YtogoppknimpkbaaGreatDoor.M13b
