/-
  Books of challenges: what issuing one makes of a book, and what taking and expiring make of that.
-/
import Derived.Test.YtjkmcnnkifachaaC12f
namespace Go.Proofs.Ytjkmcnnkifachaa.M16
open S0 S1 S9 Dm Fx C12 C12b C12c C12d C12e C12f
set_option linter.unusedVariables false
set_option linter.unusedSimpArgs false
theorem wr {n : Int} (h0 : 0 ≤ n) (h1 : n ≤ 1000001) : IntKind.i64.wrap (n - 1) = n - 1 := IntWalk.i64_in _ (by omega)
theorem ch_up {nx : Int} {x : Fx.Challenge} (h0 : 0 ≤ nx) (h1 : nx ≤ 999999) (h : okCh nx x) : okCh (nx + 1) x := by
  unfold okCh at h ⊢
  rw [wr h0 (by omega)] at h
  rw [wr (by omega) (by omega)]
  omega
theorem ch_ne {nx : Int} {x : Fx.Challenge} (h0 : 0 ≤ nx) (h1 : nx ≤ 999999) (h : okCh nx x) : x.Id < nx := by
  unfold okCh at h
  rw [wr h0 (by omega)] at h
  omega
theorem book_drop {nx : Int} {l : List Fx.Challenge} (k : Nat) (h0 : 0 ≤ nx) (h1 : nx ≤ 999999) (h : okBook nx l) : okBook (nx + 1) (l.drop k) :=
  ⟨fun x hx => ch_up h0 h1 (h.1 x (List.mem_of_mem_drop hx)), fun j x y hx hy => by
    rw [List.getElem?_drop] at hx hy
    exact h.2 (k + j) x y hx (by rw [← hy]; congr 1)⟩
theorem book_new {nx a u : Int} {l : List Fx.Challenge} (k : Nat) (h0 : 0 ≤ nx) (h1 : nx ≤ 999999) (ha : 0 ≤ a ∧ a ≤ 1000005) (hu : 0 ≤ u ∧ u ≤ 1000005) (h : okBook nx l) : okBook (nx + 1) (l.drop k ++ [⟨nx, a, u⟩]) := by
  have hd := book_drop k h0 h1 h
  refine ⟨fun x hx => ?_, fun j x y hx hy => ?_⟩
  · rcases List.mem_append.1 hx with h2 | h2
    · exact hd.1 x h2
    · obtain rfl := List.mem_singleton.1 h2
      unfold okCh
      rw [wr (by omega) (by omega)]
      dsimp only
      omega
  · by_cases hj : j + 1 < (l.drop k).length
    · rw [List.getElem?_append_left (by omega)] at hx
      rw [List.getElem?_append_left hj] at hy
      exact hd.2 j x y hx hy
    · have hy2 := hy
      rw [List.getElem?_append_right (by omega)] at hy2
      obtain ⟨h3, h4⟩ := List.getElem?_eq_some_iff.1 hy2
      have h5 : j + 1 - (l.drop k).length = 0 := by simp at h3; simp; omega
      have h6 : y = ⟨nx, a, u⟩ := by rw [← h4]; simp [h5]
      rw [List.getElem?_append_left (by omega)] at hx
      have h7 := ch_ne h0 h1 (h.1 x (List.mem_of_mem_drop (List.mem_of_getElem? hx)))
      rw [h6]
      exact h7
theorem pos_no {l : List Fx.Challenge} {i : Int} (h : ∀ x ∈ l, x.Id ≠ i) : posC l i = none := by
  unfold posC
  rw [List.findIdx?_eq_none_iff]
  intro x hx
  simpa using h x hx
theorem pos_last {l : List Fx.Challenge} {c : Fx.Challenge} (h : ∀ x ∈ l, x.Id ≠ c.Id) : posC (l ++ [c]) c.Id = some l.length := by
  have h1 := pos_no h
  unfold posC at h1 ⊢
  rw [List.findIdx?_append, h1]
  simp [List.findIdx?_cons]
/-- What the law asks of an issued challenge. -/
structure Issued (b : Fx.ChallengeBook) (a t : Int) (X Y : Fx.ChallengeBook) : Prop where
  iss : issX b a t = X
  cha : issC b a t = ⟨b.Next, a, t + 5⟩
  vX : vbk X = true
  fine : takeB X b.Next a (t + 5) = true
  tk : takeX X b.Next = Y
  vY : vbk Y = true
  twice : takeB Y b.Next a t = false
  late : takeB X b.Next a (t + 6) = false
  other : takeB X b.Next (a + 1) t = false
  gone : findC (expX X (t + 6)).Open b.Next = -1
  at' : findC X.Open b.Next = (X.Open.length : Int) - 1
  nx : X.Next = b.Next + 1
  seed : X.Seed = b.Seed
  val : cval X b.Next = cval b b.Next
  len : X.Open.length ≤ 16 ∧ 1 ≤ X.Open.length
  ok : b.ok → X.ok ∧ Y.ok
  nxt : 0 ≤ b.Next ∧ b.Next ≤ 999999
  acc : 0 ≤ a ∧ a ≤ 1000000
  now : 0 ≤ t ∧ t ≤ 1000000
theorem issued {b : Fx.ChallengeBook} {a t : Int} (h : issOk b a t = true) : Issued b a t ⟨b.Seed, b.Next + 1, b.Open.drop (b.Open.length - 15) ++ [⟨b.Next, a, t + 5⟩]⟩ ⟨b.Seed, b.Next + 1, b.Open.drop (b.Open.length - 15)⟩ := by
  obtain ⟨e1, e2⟩ := issX_t h
  have hv : vbk b = true := by unfold issOk at h; simp only [Bool.and_eq_true] at h; exact h.1.1.1
  have hp : b.Next ≠ 1000000 ∧ (0 ≤ a ∧ a ≤ 1000000) ∧ (0 ≤ t ∧ t ≤ 1000000) := by
    unfold issOk at h
    simp only [Bool.and_eq_true, decide_eq_true_eq, Bool.not_eq_true', beq_eq_false_iff_ne, ne_eq] at h
    exact ⟨h.1.1.2, h.1.2, h.2⟩
  obtain ⟨p1, p2, p3⟩ := hp
  obtain ⟨v1, v2, v3⟩ := vbk_parts hv
  have hb : okBook b.Next b.Open := by unfold vbk at hv; simp only [Bool.and_eq_true] at hv; exact okB_ok hv.1.1
  have h9 : b.Next ≤ 999999 := by omega
  have kD := book_drop (b.Open.length - 15) v1 h9 hb
  have kN := book_new (a := a) (u := t + 5) (b.Open.length - 15) v1 h9 (by omega) (by omega) hb
  have hne : ∀ x ∈ b.Open.drop (b.Open.length - 15), x.Id ≠ b.Next := fun x hx => by have := ch_ne v1 h9 (hb.1 x (List.mem_of_mem_drop hx)); omega
  obtain ⟨M, hM⟩ : ∃ M, M = b.Open.drop (b.Open.length - 15) := ⟨_, rfl⟩
  have hMl : M.length ≤ 15 := by rw [hM, List.length_drop]; omega
  have hMo : ∀ x ∈ M, x ∈ b.Open := fun x hx => by rw [hM] at hx; exact List.mem_of_mem_drop hx
  rw [← hM] at e1 kD kN hne ⊢
  have q1 : posC (M ++ [(⟨b.Next, a, t + 5⟩ : Fx.Challenge)]) b.Next = some M.length := pos_last (c := ⟨b.Next, a, t + 5⟩) hne
  have q2 : posC M b.Next = none := pos_no hne
  have q3 : (M ++ [(⟨b.Next, a, t + 5⟩ : Fx.Challenge)])[M.length]? = some ⟨b.Next, a, t + 5⟩ := by simp
  have vX : vbk ⟨b.Seed, b.Next + 1, M ++ [⟨b.Next, a, t + 5⟩]⟩ = true := by
    unfold vbk
    rw [okB_t kN, decide_eq_true (by dsimp only; omega), decide_eq_true (by simp; omega)]
    rfl
  have vY : vbk ⟨b.Seed, b.Next + 1, M⟩ = true := by
    unfold vbk
    rw [okB_t kD, decide_eq_true (by dsimp only; omega), decide_eq_true (by dsimp only; omega)]
    rfl
  have hX : takeX ⟨b.Seed, b.Next + 1, M ++ [⟨b.Next, a, t + 5⟩]⟩ b.Next = ⟨b.Seed, b.Next + 1, M⟩ := by
    unfold takeX
    rw [if_pos vX]
    dsimp only
    rw [q1]
    simp
  have tB : ∀ a2 t2 : Int, takeB ⟨b.Seed, b.Next + 1, M ++ [⟨b.Next, a, t + 5⟩]⟩ b.Next a2 t2 = (decide (a = a2) && decide (t2 ≤ t + 5)) := fun a2 t2 => by
    unfold takeB
    rw [vX]
    dsimp only
    rw [q1]
    dsimp only
    rw [q3]
    rfl
  refine ⟨e1, e2, vX, ?_, hX, vY, ?_, ?_, ?_, ?_, ?_, rfl, rfl, rfl, ⟨?_, ?_⟩, ?_, ⟨v1, h9⟩, p2, p3⟩
  · rw [tB]; simp
  · unfold takeB
    rw [vY]
    dsimp only
    rw [q2]
    rfl
  · rw [tB, decide_eq_false (show ¬ t + 6 ≤ t + 5 by omega), Bool.and_false]
  · rw [tB, decide_eq_false (show ¬ a = a + 1 by omega)]; rfl
  · unfold expX
    rw [if_pos vX]
    dsimp only
    rw [List.filter_append]
    refine posC_none (pos_no fun x hx => ?_)
    rcases List.mem_append.1 hx with h2 | h2
    · exact hne x (List.mem_filter.1 h2).1
    · obtain ⟨h3, h4⟩ := List.mem_filter.1 h2
      obtain rfl := List.mem_singleton.1 h3
      simp at h4
  · rw [(posC_some q1).2]
    simp
  · simp; omega
  · simp
  · intro ho
    have m1 : ∀ y ∈ M, y.ok := fun y hy => ho.Open y (hMo y hy)
    refine ⟨⟨ho.Seed, by dsimp only; omega, by simp; unfold maxLen; omega, fun y hy => ?_⟩, ⟨ho.Seed, by dsimp only; omega, by dsimp only; unfold maxLen; omega, m1⟩⟩
    dsimp only at hy
    rcases List.mem_append.1 hy with h2 | h2
    · exact m1 y h2
    · obtain rfl := List.mem_singleton.1 h2
      exact ⟨by dsimp only; omega, by dsimp only; omega, by dsimp only; omega⟩
end Go.Proofs.Ytjkmcnnkifachaa.M16
