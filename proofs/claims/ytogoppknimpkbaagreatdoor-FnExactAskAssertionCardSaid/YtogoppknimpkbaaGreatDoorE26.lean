import Derived.Test.YtogoppknimpkbaaGreatDoorEb
/-
  A symbolic run: rows of things that have rows of their own: a literal of one, one row appended to another, an element stored anew.
-/
namespace Go.Proofs.YtogoppknimpkbaaGreatDoor.E26
open Go.ChangeShapes Go.WideShapes Go.ChangeAt Go.RowKit
open S0 S1 S9 Dm E0 E1 E2 E3 E4 E5 E7 E8 E9 E9e E10 E15 E16 E17 E18 E19 E20
set_option linter.unusedVariables false
set_option linter.unusedSimpArgs false
set_option maxRecDepth 100000
section
variable {P : Program} {W0 : World} {s : St} {ρ : Roots} {a : Act} {w w' : World} {obs : Nat → Ob} {o : Oper} {old : World → Prop} {id q r : Nat}
def goneO (ids : List Nat) : List (Nat × Ob) := ids.map fun q => (q, .gone)
/-- Objects pass away, their blocks are free. -/
theorem free_all : ∀ (ids : List Nat) (obs : Nat → Ob) (ρ : Roots), Mem W0 obs ρ w → (∀ q, q ∈ ids → ∃ p, ρ q = some p) →
    ∃ ρ', Le ρ ρ' ∧ Mem W0 (app obs (goneO ids)) ρ' w ∧ (∀ q, q ∉ ids → ρ' q = ρ q) ∧ (∀ q p, q ∈ ids → ρ' q = some p → p.2 = [])
  | [], obs, ρ, hm, _ => ⟨ρ, Le.refl _, hm, fun _ _ => rfl, fun q p h => by cases h⟩
  | q :: ids, obs, ρ, hm, h => by
    obtain ⟨p, hp⟩ := h q (by simp)
    have hr : ∀ p', ρ q = some p' → p'.1 = p.1 := fun p' hp' => by rw [hp] at hp'; cases hp'; rfl
    have hm1 : Mem W0 (upd obs q .gone) (upd ρ q (some (p.1, []))) w := hm.turn (cs := []) hr (turned_refl w _) (fun b hb => by cases hb) (fun _ _ _ _ _ _ hb => by cases hb) (fun b hb => by cases hb) (by simp) ⟨_, upd_same _ _ _⟩
    obtain ⟨ρ', h1, h2, h3, h4⟩ := free_all ids _ _ hm1 (fun q' hq' => by
      by_cases e : q' = q
      · subst e; exact ⟨_, upd_same _ _ _⟩
      · rw [upd_ne _ _ e]; exact h q' (by simp [hq']))
    refine ⟨ρ', (Le.upd ρ q p.1 [] hr).trans h1, h2, fun q' hq' => ?_, fun q' p' hq' hp' => ?_⟩
    · simp only [List.mem_cons, not_or] at hq'
      rw [h3 q' hq'.2, upd_ne _ _ hq'.1]
    · by_cases e : q' ∈ ids
      · exact h4 q' p' e hp'
      · rw [h3 q' e] at hp'
        obtain rfl : q' = q := by simpa [e] using hq'
        rw [upd_same] at hp'
        cases hp'; rfl
/-- Objects pass into another, that begins or stands already. -/
theorem take_over (h : Mem W0 obs ρ w) {ids : List Nat} (hids : ∀ q, q ∈ ids → ∃ p, ρ q = some p) (hni : id ∉ ids) {v : Value} {bs' : List Nat} (hr : ∀ p, ρ id = some p → p.1 = v) (ht : Turned w w' (bsOf ρ (id :: ids)))
    (hn : ∀ b, b ∈ bs' → b ∈ bsOf ρ (id :: ids) ∨ w.heap.size ≤ b) (hd : bs'.Nodup) {ob : Ob} (hob : ∀ ρ' : Roots, ρ' id = some (v, bs') → ObOK ρ' W0 w' id ob) :
    ∃ ρ', Le ρ ρ' ∧ Mem W0 (app obs (goneO ids ++ [(id, ob)])) ρ' w' ∧ ρ' id = some (v, bs') := by
  obtain ⟨ρ1, h1, h2, h3, h4⟩ := free_all ids obs ρ h hids
  have hr1 : ∀ p, ρ1 id = some p → p.1 = v := fun p hp => hr p (by rw [← h3 id hni]; exact hp)
  refine ⟨_, h1.trans (Le.upd ρ1 id v bs' hr1), ?_, upd_same _ _ _⟩
  rw [app_app]
  show Mem W0 (upd (app obs (goneO ids)) id ob) _ w'
  refine h2.turn hr1 ht (fun b hb => ?_) (fun q p hne hp b hb hb2 => ?_) hn hd (hob _ (upd_same _ _ _))
  · obtain ⟨q', p', _, k2, k3⟩ := bsOf_in hb
    exact (h.in_ k2 b k3).1
  · by_cases e : q ∈ ids
    · rw [h4 q p e hp] at hb; cases hb
    · rw [h3 q e] at hp
      obtain ⟨q', p', k1, k2, k3⟩ := bsOf_in hb2
      have hqq : q ≠ q' := fun e2 => by
        subst e2
        rcases List.mem_cons.1 k1 with k1 | k1
        · exact hne k1
        · exact e k1
      exact h.apart q q' p p' hqq hp k2 b hb k3
theorem mem_bsOf {p : Value × List Nat} {l : List Nat} {b : Nat} (hq : q ∈ l) (hp : ρ q = some p) (hb : b ∈ p.2) : b ∈ bsOf ρ l := by
  induction l with
  | nil => cases hq
  | cons x l ih =>
    show b ∈ (match ρ x with | some p => p.2 | none => []) ++ bsOf ρ l
    rcases List.mem_cons.1 hq with rfl | hq
    · rw [hp]; exact List.mem_append_left _ hb
    · exact List.mem_append_right _ (ih hq)
theorem bsOf_sub {l m : List Nat} (h : ∀ x, x ∈ l → x ∈ m) : ∀ b, b ∈ bsOf ρ l → b ∈ bsOf ρ m := fun b hb => by
  obtain ⟨q, p, h1, h2, h3⟩ := bsOf_in hb
  exact mem_bsOf (h q h1) h2 h3
/-- The objects of a struct's cells. -/
theorem own_cells : ∀ {cs : List Sc} {ds : List Da}, csRes obs cs ds → ∀ q, q ∈ csOwn cs → ∃ d, obs q = .own d
  | [], _, _, q, hq => by cases hq
  | c :: cs, [], h, q, hq => by cases cs <;> cases h
  | c :: cs, d :: ds, h, q, hq => by
    obtain ⟨h1, h2⟩ := csRes_cons h
    have ih := own_cells h2 q
    cases c with
    | own x =>
      rcases List.mem_cons.1 (show q ∈ x :: csOwn cs from hq) with rfl | hq
      · have h3 : match obs q with | .own d' => DaEq d' d | _ => False := by cases d <;> exact h1
        split at h3
        · next d' e => exact ⟨d', e⟩
        · cases h3
      · exact ih hq
    | _ => exact ih hq
theorem own_roots (hm : Mem W0 obs ρ w) {cs : List Sc} {ds : List Da} (h : csRes obs cs ds) : ∀ q, q ∈ csOwn cs → ∃ p, ρ q = some p := fun q hq => by
  obtain ⟨d, e⟩ := own_cells h q hq
  obtain ⟨r, bs, h1, _⟩ := own_of hm e
  exact ⟨_, h1⟩
theorem csRes_len : ∀ {cs : List Sc} {ds : List Da}, csRes obs cs ds → cs.length = ds.length
  | [], [], _ => rfl
  | [], _ :: _, h => by cases h
  | c :: cs, [], h => by cases cs <;> cases h
  | c :: cs, d :: ds, h => by rw [List.length_cons, List.length_cons, csRes_len (csRes_cons h).2]
theorem ownsL_one : ∀ {ds : List Dc} {vs : List Value} {bs : List Nat} {lo : Nat}, (∀ u, Dc.val u ∈ ds → u.oneCell' = true) → OwnsL w lo ds vs bs → ∀ v, v ∈ vs → v.oneCell' = true
  | [], vs, bs, lo, _, h, v, hv => by simp only [OwnsL] at h; rw [h.1] at hv; cases hv
  | d :: ds, vs, bs, lo, hu, h, v, hv => by
    simp only [OwnsL] at h
    obtain ⟨x, vs', b1, b2, rfl, h1, h2, rfl⟩ := h
    rcases List.mem_cons.1 hv with rfl | hv
    · cases d with
      | val u => simp only [Owns] at h1; rw [h1.1]; exact hu u (by simp)
      | row E sz n cs => exact owns_one h1
    · exact ownsL_one (fun u hm => hu u (List.mem_cons_of_mem _ hm)) h2 v hv
theorem ownsL_split {lo : Nat} : ∀ {ds es : List Dc} {vs : List Value} {bs : List Nat}, OwnsL w lo (ds ++ es) vs bs → ∃ v1 v2 b1 b2, vs = v1 ++ v2 ∧ OwnsL w lo ds v1 b1 ∧ OwnsL w lo es v2 b2 ∧ bs = b1 ++ b2
  | [], es, vs, bs, h => ⟨[], vs, [], bs, rfl, by simp [OwnsL], h, rfl⟩
  | d :: ds, es, vs, bs, h => by
    simp only [List.cons_append, OwnsL] at h
    obtain ⟨v, vs', c1, c2, rfl, h1, h2, rfl⟩ := h
    obtain ⟨v1, v2, b1, b2, rfl, k1, k2, rfl⟩ := ownsL_split h2
    exact ⟨v :: v1, v2, c1 ++ b1, b2, rfl, by simp only [OwnsL]; exact ⟨v, v1, c1, b1, rfl, h1, k1, rfl⟩, k2, by rw [List.append_assoc]⟩
def setL : List Value → Nat → List Value → List Value
  | xs, _, [] => xs
  | xs, j, u :: us => setL (xs.set j u) (j + 1) us
theorem setL_is : ∀ (us xs : List Value) (j : Nat), j + us.length ≤ xs.length → setL xs j us = xs.take j ++ us ++ xs.drop (j + us.length)
  | [], xs, j, _ => by simp [setL]
  | u :: us, xs, j, h => by
    simp only [List.length_cons] at h
    unfold setL
    rw [setL_is us (xs.set j u) (j + 1) (by rw [List.length_set]; omega)]
    have hj : j < xs.length := by omega
    rw [List.set_eq_take_append_cons_drop, if_pos hj]
    have hl : (xs.take j).length = j := by rw [List.length_take]; omega
    rw [List.take_append, List.drop_append, hl, show j + 1 - j = 1 by omega, show j + 1 + us.length - j = us.length + 1 by omega]
    rw [List.take_of_length_le (by omega : (xs.take j).length ≤ j + 1), List.drop_eq_nil_of_le (by omega : (xs.take j).length ≤ j + 1 + us.length)]
    simp only [List.take_succ_cons, List.take_zero, List.drop_succ_cons, List.drop_drop, List.nil_append, List.append_assoc, List.cons_append, List.length_cons]
    rw [show j + 1 + us.length = j + (us.length + 1) by omega]
theorem at_cells {base g off n cap size : Nat} {e : TypeId} : ∀ (us xs : List Value) (j : Nat) (w : World), Ow.At w base e size (.slice (some ⟨g, off, none⟩) n cap) n xs → Ow.At (w.setCells g (off + j) us) base e size (.slice (some ⟨g, off, none⟩) n cap) n (setL xs j us)
  | [], xs, j, w, h => h
  | u :: us, xs, j, w, h => at_cells us (xs.set j u) (j + 1) _ (h.stored j u).1
end
end Go.Proofs.YtogoppknimpkbaaGreatDoor.E26
