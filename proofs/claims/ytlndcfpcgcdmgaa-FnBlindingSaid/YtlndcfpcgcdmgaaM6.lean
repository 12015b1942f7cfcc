/-
  Sums of weights in plain numbers: as sums over lists; a point put first or last.
-/
import Derived.Test.YtlndcfpcgcdmgaaC5e
namespace Go.Proofs.Ytlndcfpcgcdmgaa.M6
open M4 M5 C5b C5c C5d C5e
set_option linter.unusedVariables false
theorem fsum_take (vs ws : List Int) (n : Nat) (hv : vs.length = n) (hw : ws.length = n) : ∀ k, k ≤ n → fsum vs ws k = dot (vs.take k) (ws.take k) % 1019 := by
  intro k
  induction k with
  | zero => intro _; simp [fsum, dot]
  | succ k ih =>
    intro hk
    have h1 : k < vs.length := by omega
    have h2 : k < ws.length := by omega
    have e1 : vs.getD k 0 = vs[k] := by rw [List.getD_eq_getElem?_getD, List.getElem?_eq_getElem h1]; rfl
    have e2 : ws.getD k 0 = ws[k] := by rw [List.getD_eq_getElem?_getD, List.getElem?_eq_getElem h2]; rfl
    rw [List.take_succ_eq_append_getElem h1, List.take_succ_eq_append_getElem h2, dot_snoc _ _ _ _ (by rw [List.length_take, List.length_take]; omega)]
    unfold fsum
    rw [ih (by omega), e1, e2, Int.mul_comm vs[k], Int.add_emod, Int.emod_emod, Int.mul_emod ws[k], Int.emod_emod, ← Int.mul_emod, ← Int.add_emod]
theorem fsum_dot {vs ws : List Int} {n : Nat} (hv : vs.length = n) (hw : ws.length = n) : fsum vs ws n = dot vs ws % 1019 := by
  rw [fsum_take vs ws n hv hw n (Nat.le_refl _), List.take_of_length_le (by omega), List.take_of_length_le (by omega)]
theorem thr_dot (xs : List Int) (n : Nat) (t : Int) : thr xs n t = dot (vls xs n) (lws (ixs xs n) t n) % 1019 := fsum_dot (vls_len _ _) (lws_len _ _ _)
theorem ixs_cons (a s : Int) (xs : List Int) (n : Nat) : ixs ([a, s] ++ xs) (1 + n) = a :: ixs xs n := by
  unfold ixs
  rw [Nat.add_comm 1 n, List.range_succ_eq_map, List.map_cons, List.map_map]
  congr 1
  refine List.map_congr_left fun k _ => ?_
  show (a :: s :: xs).getD ((k + 1) * 2) 0 = _
  rw [show (k + 1) * 2 = k * 2 + 1 + 1 by omega, List.getD_cons_succ, List.getD_cons_succ]
theorem vls_cons (a s : Int) (xs : List Int) (n : Nat) : vls ([a, s] ++ xs) (1 + n) = s :: vls xs n := by
  unfold vls
  rw [Nat.add_comm 1 n, List.range_succ_eq_map, List.map_cons, List.map_map]
  congr 1
  refine List.map_congr_left fun k _ => ?_
  show (a :: s :: xs).getD ((k + 1) * 2 + 1) 0 = _
  rw [show (k + 1) * 2 + 1 = k * 2 + 1 + 1 + 1 by omega, List.getD_cons_succ, List.getD_cons_succ]
theorem num_cons (a : Int) (is : List Int) (k : Nat) (t : Int) : ∀ j, num (a :: is) (k + 1) t (j + 1) = (t - a) * num is k t j := by
  intro j
  induction j with
  | zero => simp only [num, Nat.zero_ne_add_one, if_false, List.getD_cons_zero]; omega
  | succ j ih =>
    rw [num, ih]
    by_cases h : j = k
    · subst h; simp only [num, if_true]
    · rw [if_neg (by omega), num, if_neg h, List.getD_cons_succ, Int.mul_assoc]
theorem num_cons0 (a : Int) (is : List Int) (n : Nat) (t : Int) : ∀ j, j ≤ n → num (a :: is) 0 t (j + 1) = num is n t j := by
  intro j
  induction j with
  | zero => intro _; simp only [num, if_true]
  | succ j ih =>
    intro h
    rw [num, ih (by omega), if_neg (by omega), num, if_neg (by omega), List.getD_cons_succ]
theorem num_app (a : Int) (is : List Int) (k : Nat) (t : Int) : ∀ j, j ≤ is.length → num (is ++ [a]) k t j = num is k t j := by
  intro j
  induction j with
  | zero => intro _; rfl
  | succ j ih =>
    intro h
    simp only [num]
    rw [ih (by omega), List.getD_eq_getElem?_getD (l := is ++ [a]), List.getElem?_append_left (by omega), ← List.getD_eq_getElem?_getD]
theorem num_last (a : Int) (is : List Int) (k : Nat) (t : Int) (hk : k < is.length) : num (is ++ [a]) k t (is.length + 1) = num is k t is.length * (t - a) := by
  rw [num, if_neg (by omega), num_app a is k t is.length (Nat.le_refl _), List.getD_eq_getElem?_getD, List.getElem?_append_right (Nat.le_refl _), Nat.sub_self]
  rfl
theorem num_last0 (a : Int) (is : List Int) (t : Int) : num (is ++ [a]) is.length t (is.length + 1) = num is is.length t is.length := by
  rw [num, if_pos rfl, num_app a is _ t is.length (Nat.le_refl _)]
theorem wt_move (a : Int) (is : List Int) (k : Nat) (t : Int) (hk : k < is.length) : wt (a :: is) (k + 1) t (is.length + 1) = wt (is ++ [a]) k t (is.length + 1) := by
  have e : (is ++ [a]).getD k 0 = is.getD k 0 := by rw [List.getD_eq_getElem?_getD, List.getElem?_append_left hk, ← List.getD_eq_getElem?_getD]
  unfold wt den
  rw [List.getD_cons_succ, e, num_cons, num_cons, num_last _ _ _ _ hk, num_last _ _ _ _ hk, Int.mul_comm (t - a), Int.mul_comm (is.getD k 0 - a)]
theorem wt_move0 (a : Int) (is : List Int) (t : Int) : wt (a :: is) 0 t (is.length + 1) = wt (is ++ [a]) is.length t (is.length + 1) := by
  have e : (is ++ [a]).getD is.length 0 = a := by rw [List.getD_eq_getElem?_getD, List.getElem?_append_right (Nat.le_refl _), Nat.sub_self]; rfl
  unfold wt den
  rw [List.getD_cons_zero, e, num_cons0 _ _ is.length _ _ (Nat.le_refl _), num_cons0 _ _ is.length _ _ (Nat.le_refl _), num_last0, num_last0]
/-- Indices of shares, and 0 with them. -/
theorem ix_facts {xs : List Int} {n : Nat} (h : n = 0 ∨ are xs n) : (∀ j, j < n → 1 ≤ (ixs xs n).getD j 0 ∧ (ixs xs n).getD j 0 ≤ 7) ∧ ∀ i j, i < j → j < n → (ixs xs n).getD i 0 ≠ (ixs xs n).getD j 0 := by
  rcases h with rfl | ⟨_, _, hg, hd⟩
  · exact ⟨fun j hj => by omega, fun i j _ hj => by omega⟩
  · refine ⟨fun j hj => ?_, fun i j hij hj e => hd ⟨i, j, hij, hj, by rw [e]⟩⟩
    rw [ixs_get xs n j hj]
    exact ⟨(hg j hj).1, (hg j hj).2.1⟩
theorem cons_apart {xs : List Int} {n : Nat} (h : n = 0 ∨ are xs n) : ¬ dup (0 :: ixs xs n) (0 :: ixs xs n).length := by
  obtain ⟨h1, h2⟩ := ix_facts h
  refine not_dup (fun j hj => ?_) (fun i j hij hj => ?_)
  · cases j with
    | zero => rw [List.getD_cons_zero]; omega
    | succ j => rw [List.length_cons, ixs_len] at hj; rw [List.getD_cons_succ]; have := h1 j (by omega); omega
  · rw [List.length_cons, ixs_len] at hj
    cases j with
    | zero => omega
    | succ j =>
      cases i with
      | zero => rw [List.getD_cons_zero, List.getD_cons_succ]; have := h1 j (by omega); omega
      | succ i => rw [List.getD_cons_succ, List.getD_cons_succ]; exact h2 i j (by omega) (by omega)
theorem app_get (is : List Int) (a : Int) (j : Nat) : (is ++ [a]).getD j 0 = if j < is.length then is.getD j 0 else if j = is.length then a else 0 := by
  rw [List.getD_eq_getElem?_getD]
  by_cases h : j < is.length
  · rw [List.getElem?_append_left h, if_pos h, ← List.getD_eq_getElem?_getD]
  · rw [List.getElem?_append_right (by omega), if_neg h]
    by_cases h2 : j = is.length
    · subst h2; rw [Nat.sub_self, if_pos rfl]; rfl
    · rw [if_neg h2, List.getElem?_eq_none (by simp; omega)]; rfl
theorem app_apart {xs : List Int} {n : Nat} (h : n = 0 ∨ are xs n) : ¬ dup (ixs xs n ++ [0]) (ixs xs n ++ [0]).length := by
  obtain ⟨h1, h2⟩ := ix_facts h
  have hl : (ixs xs n ++ [0]).length = n + 1 := by rw [List.length_append, ixs_len]; rfl
  refine not_dup (fun j hj => ?_) (fun i j hij hj => ?_)
  · rw [hl] at hj
    rw [app_get, ixs_len]
    by_cases h : j < n
    · rw [if_pos h]; have := h1 j h; omega
    · rw [if_neg h, if_pos (by omega)]; omega
  · rw [hl] at hj
    rw [app_get, app_get, ixs_len, if_pos (by omega)]
    by_cases h : j < n
    · rw [if_pos h]; exact h2 i j hij h
    · rw [if_neg h, if_pos (by omega)]
      have := h1 i (by omega)
      omega
theorem lw_move {xs : List Int} {n : Nat} (h : n = 0 ∨ are xs n) (k : Nat) (t : Int) (hk : k < n) : lw (0 :: ixs xs n) ((k + 1 : Nat) : Int) t = lw (ixs xs n ++ [0]) k t := by
  have hl := ixs_len xs n
  rw [lw_t t (by rw [List.length_cons, hl]; omega) (cons_apart h), lw_t t (by rw [List.length_append, hl]; simp; omega) (app_apart h), List.length_append, List.length_cons]
  exact wt_move 0 (ixs xs n) k t (by rw [hl]; exact hk)
theorem lw_move0 {xs : List Int} {n : Nat} (h : n = 0 ∨ are xs n) (t : Int) : lw (0 :: ixs xs n) 0 t = lw (ixs xs n ++ [0]) n t := by
  have hl := ixs_len xs n
  have e : lw (0 :: ixs xs n) 0 t = wt (0 :: ixs xs n) 0 t (0 :: ixs xs n).length := lw_t (is := 0 :: ixs xs n) (k := 0) t (by rw [List.length_cons]; omega) (cons_apart h)
  have e2 := lw_t (is := ixs xs n ++ [0]) (k := n) t (by rw [List.length_append, hl]; simp) (app_apart h)
  rw [e, e2, List.length_append, List.length_cons]
  have e3 := wt_move0 0 (ixs xs n) t
  rw [e3, hl]
  rfl
/-- The point at 0 counted last, as the model does. -/
theorem missing_sum {xs : List Int} {n : Nat} {i : Int} (s : Int) (hm : mis xs n i) :
    (fsum (vls xs n) (lws (ixs xs n ++ [0]) i n) n + s % 1019 * lw (ixs xs n ++ [0]) n i) % 1019 = thr ([0, s] ++ xs) (1 + n) i := by
  rw [thr_dot, ixs_cons, vls_cons, fsum_dot (vls_len _ _) (lws_len _ _ _)]
  have e : lws (0 :: ixs xs n) i (1 + n) = lw (ixs xs n ++ [0]) n i :: lws (ixs xs n ++ [0]) i n := by
    unfold lws
    rw [Nat.add_comm 1 n, List.range_succ_eq_map, List.map_cons, List.map_map]
    have e0 := lw_move0 hm.1 i
    congr 1
    refine List.map_congr_left fun k hk => ?_
    exact lw_move hm.1 k i (by simpa using hk)
  rw [e]
  simp only [dot]
  rw [Int.add_emod, Int.emod_emod, Int.mul_emod, Int.emod_emod, ← Int.mul_emod, ← Int.add_emod, Int.add_comm]
end Go.Proofs.Ytlndcfpcgcdmgaa.M6
