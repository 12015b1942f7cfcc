/-
  Data with memory in it: slices of structs that hold slices. What a cell reads as, what a call owns of it, and which blocks.
-/
import Derived.Test.YtoedfeacpllkeaaS1
import Derived.Test.YtoedfeacpllkeaaOw
namespace Go.Proofs.Ytoedfeacpllkeaa.S9
open Go.ChangeShapes Go.WideShapes Go.ChangeAt Go.RowKit
open S0 S1
set_option linter.unusedVariables false
/-- The datum of a cell: a plain value, or a slice of n elements of 'size' cells each, its cells in a row. -/
inductive Dc
  | val (v : Value)
  | row (E : TypeId) (size n : Nat) (cs : List Dc)
mutual
/-- The value v reads as the datum, in blocks below hi. -/
def Rds (w : World) (hi : Nat) : Dc → Value → Prop
  | .val u, v => v = u
  | .row E size n cs, v => ∃ A c vs, v = .slice A n c ∧ Rd w hi size A n vs ∧ RdsL w hi cs vs
def RdsL (w : World) (hi : Nat) : List Dc → List Value → Prop
  | [], vs => vs = []
  | d :: ds, vs => ∃ v vs', vs = v :: vs' ∧ Rds w hi d v ∧ RdsL w hi ds vs'
end
mutual
/-- The value v is the call's own, from block lo on, with all that it reaches: bs are its blocks. -/
def Owns (w : World) (lo : Nat) : Dc → Value → List Nat → Prop
  | .val u, v, bs => v = u ∧ bs = []
  | .row E size n cs, v, bs => ∃ vs b2, Ow.At w lo E size v n vs ∧ OwnsL w lo cs vs b2 ∧ bs = v.ownBlock.toList ++ b2
def OwnsL (w : World) (lo : Nat) : List Dc → List Value → List Nat → Prop
  | [], vs, bs => vs = [] ∧ bs = []
  | d :: ds, vs, bs => ∃ v vs' b1 b2, vs = v :: vs' ∧ Owns w lo d v b1 ∧ OwnsL w lo ds vs' b2 ∧ bs = b1 ++ b2
end
section
variable {w w' : World} {hi hi' lo lo' : Nat}
mutual
theorem rds_keep (hk : ∀ k, k < hi → w'.heap[k]? = w.heap[k]?) : ∀ (d : Dc) (v : Value), Rds w hi d v → Rds w' hi d v
  | .val u, v, h => by simpa only [Rds] using h
  | .row E size n cs, v, h => by
    simp only [Rds] at h ⊢
    obtain ⟨A, c, vs, e, hr, hl⟩ := h
    exact ⟨A, c, vs, e, hr.keep hk, rdsL_keep hk cs vs hl⟩
theorem rdsL_keep (hk : ∀ k, k < hi → w'.heap[k]? = w.heap[k]?) : ∀ (ds : List Dc) (vs : List Value), RdsL w hi ds vs → RdsL w' hi ds vs
  | [], vs, h => by simpa only [RdsL] using h
  | d :: ds, vs, h => by
    simp only [RdsL] at h ⊢
    obtain ⟨v, vs', e, h1, h2⟩ := h
    exact ⟨v, vs', e, rds_keep hk d v h1, rdsL_keep hk ds vs' h2⟩
end
mutual
theorem rds_more (hh : hi ≤ hi') : ∀ (d : Dc) (v : Value), Rds w hi d v → Rds w hi' d v
  | .val u, v, h => by simpa only [Rds] using h
  | .row E size n cs, v, h => by
    simp only [Rds] at h ⊢
    obtain ⟨A, c, vs, e, hr, hl⟩ := h
    exact ⟨A, c, vs, e, hr.more hh, rdsL_more hh cs vs hl⟩
theorem rdsL_more (hh : hi ≤ hi') : ∀ (ds : List Dc) (vs : List Value), RdsL w hi ds vs → RdsL w hi' ds vs
  | [], vs, h => by simpa only [RdsL] using h
  | d :: ds, vs, h => by
    simp only [RdsL] at h ⊢
    obtain ⟨v, vs', e, h1, h2⟩ := h
    exact ⟨v, vs', e, rds_more hh d v h1, rdsL_more hh ds vs' h2⟩
end
theorem rds_on {d : Dc} {v : Value} (h : Rds w w.heap.size d v) (hb : Below w.heap.size w w') : Rds w' w'.heap.size d v := rds_more hb.size d v (rds_keep hb.block d v h)
theorem rdsL_on {ds : List Dc} {vs : List Value} (h : RdsL w w.heap.size ds vs) (hb : Below w.heap.size w w') : RdsL w' w'.heap.size ds vs := rdsL_more hb.size ds vs (rdsL_keep hb.block ds vs h)
mutual
theorem owns_rds : ∀ (d : Dc) (v : Value) (bs : List Nat), Owns w lo d v bs → Rds w w.heap.size d v
  | .val u, v, bs, h => by simp only [Owns] at h; simp only [Rds]; exact h.1
  | .row E size n cs, v, bs, h => by
    simp only [Owns] at h
    simp only [Rds]
    obtain ⟨vs, b2, ho, hl, _⟩ := h
    obtain ⟨A, c, rfl⟩ := ho.nil_form
    exact ⟨A, c, vs, rfl, ho.rd, ownsL_rds cs vs b2 hl⟩
theorem ownsL_rds : ∀ (ds : List Dc) (vs : List Value) (bs : List Nat), OwnsL w lo ds vs bs → RdsL w w.heap.size ds vs
  | [], vs, bs, h => by simp only [OwnsL] at h; simp only [RdsL]; exact h.1
  | d :: ds, vs, bs, h => by
    simp only [OwnsL] at h
    simp only [RdsL]
    obtain ⟨v, vs', b1, b2, e, h1, h2, _⟩ := h
    exact ⟨v, vs', e, owns_rds d v b1 h1, ownsL_rds ds vs' b2 h2⟩
end
theorem row_keep {base : Nat} {e : TypeId} {size n : Nat} {v : Value} {xs : List Value} (h : Ow.At w base e size v n xs) (hk : ∀ k, v.ownBlock = some k → w'.heap[k]? = w.heap[k]?) : Ow.At w' base e size v n xs := h.keep hk
mutual
/-- What stands in untouched blocks is owned as before. -/
theorem owns_keep : ∀ (d : Dc) (v : Value) (bs : List Nat), Owns w lo d v bs → (∀ b, b ∈ bs → w'.heap[b]? = w.heap[b]?) → Owns w' lo d v bs
  | .val u, v, bs, h, _ => by simpa only [Owns] using h
  | .row E size n cs, v, bs, h, hk => by
    simp only [Owns] at h ⊢
    obtain ⟨vs, b2, ho, hl, e⟩ := h
    subst e
    refine ⟨vs, b2, row_keep ho (fun k hk2 => hk k ?_), ownsL_keep cs vs b2 hl (fun b hb => hk b (List.mem_append_right _ hb)), rfl⟩
    rw [hk2]; simp
theorem ownsL_keep : ∀ (ds : List Dc) (vs : List Value) (bs : List Nat), OwnsL w lo ds vs bs → (∀ b, b ∈ bs → w'.heap[b]? = w.heap[b]?) → OwnsL w' lo ds vs bs
  | [], vs, bs, h, _ => by simpa only [OwnsL] using h
  | d :: ds, vs, bs, h, hk => by
    simp only [OwnsL] at h ⊢
    obtain ⟨v, vs', b1, b2, e, h1, h2, eb⟩ := h
    subst eb
    exact ⟨v, vs', b1, b2, e, owns_keep d v b1 h1 (fun b hb => hk b (List.mem_append_left _ hb)), ownsL_keep ds vs' b2 h2 (fun b hb => hk b (List.mem_append_right _ hb)), rfl⟩
end
mutual
/-- The blocks lie from lo on, and are there. -/
theorem owns_in : ∀ (d : Dc) (v : Value) (bs : List Nat), Owns w lo d v bs → ∀ b, b ∈ bs → lo ≤ b ∧ b < w.heap.size
  | .val u, v, bs, h => by
    simp only [Owns] at h
    intro b hb
    rw [h.2] at hb; cases hb
  | .row E size n cs, v, bs, h => by
    simp only [Owns] at h
    obtain ⟨vs, b2, ho, hl, e⟩ := h
    subst e
    intro b hb
    rcases List.mem_append.1 hb with hb | hb
    · refine ho.lt b ?_
      cases hv : v.ownBlock with
      | none => rw [hv] at hb; cases hb
      | some k => rw [hv] at hb; obtain rfl : b = k := by simpa using hb
                  rfl
    · exact ownsL_in cs vs b2 hl b hb
theorem ownsL_in : ∀ (ds : List Dc) (vs : List Value) (bs : List Nat), OwnsL w lo ds vs bs → ∀ b, b ∈ bs → lo ≤ b ∧ b < w.heap.size
  | [], vs, bs, h => by
    simp only [OwnsL] at h
    intro b hb
    rw [h.2] at hb; cases hb
  | d :: ds, vs, bs, h => by
    simp only [OwnsL] at h
    obtain ⟨v, vs', b1, b2, e, h1, h2, eb⟩ := h
    subst eb
    intro b hb
    rcases List.mem_append.1 hb with hb | hb
    · exact owns_in d v b1 h1 b hb
    · exact ownsL_in ds vs' b2 h2 b hb
end
mutual
theorem owns_base (hb : lo' ≤ lo) : ∀ (d : Dc) (v : Value) (bs : List Nat), Owns w lo d v bs → Owns w lo' d v bs
  | .val u, v, bs, h => by simpa only [Owns] using h
  | .row E size n cs, v, bs, h => by
    simp only [Owns] at h ⊢
    obtain ⟨vs, b2, ho, hl, e⟩ := h
    exact ⟨vs, b2, ho.down hb, ownsL_base hb cs vs b2 hl, e⟩
theorem ownsL_base (hb : lo' ≤ lo) : ∀ (ds : List Dc) (vs : List Value) (bs : List Nat), OwnsL w lo ds vs bs → OwnsL w lo' ds vs bs
  | [], vs, bs, h => by simpa only [OwnsL] using h
  | d :: ds, vs, bs, h => by
    simp only [OwnsL] at h ⊢
    obtain ⟨v, vs', b1, b2, e, h1, h2, eb⟩ := h
    exact ⟨v, vs', b1, b2, e, owns_base hb d v b1 h1, ownsL_base hb ds vs' b2 h2, eb⟩
end
theorem owns_below {d : Dc} {v : Value} {bs : List Nat} (h : Owns w lo d v bs) (hb : Below w.heap.size w w') : Owns w' lo d v bs := owns_keep d v bs h (fun b hb2 => hb.block b (owns_in d v bs h b hb2).2)
theorem ownsL_below {ds : List Dc} {vs : List Value} {bs : List Nat} (h : OwnsL w lo ds vs bs) (hb : Below w.heap.size w w') : OwnsL w' lo ds vs bs := ownsL_keep ds vs bs h (fun b hb2 => hb.block b (ownsL_in ds vs bs h b hb2).2)
end
/-- A world that differs from another in the listed blocks, and in new ones, alone. -/
def Turned (w w' : World) (bs : List Nat) : Prop := w'.os = w.os ∧ w'.tape = w.tape ∧ w'.output = w.output ∧ w.heap.size ≤ w'.heap.size ∧ ∀ k, k < w.heap.size → k ∉ bs → w'.heap[k]? = w.heap[k]?
theorem turned_refl (w : World) (bs : List Nat) : Turned w w bs := ⟨rfl, rfl, rfl, Nat.le_refl _, fun _ _ _ => rfl⟩
theorem turned_trans {a b c : World} {bs : List Nat} (h : Turned a b bs) (k : Turned b c bs) : Turned a c bs :=
  ⟨k.1.trans h.1, k.2.1.trans h.2.1, k.2.2.1.trans h.2.2.1, Nat.le_trans h.2.2.2.1 k.2.2.2.1, fun j hj hn => (k.2.2.2.2 j (Nat.lt_of_lt_of_le hj h.2.2.2.1) hn).trans (h.2.2.2.2 j hj hn)⟩
theorem turned_more {a b : World} {bs cs : List Nat} (h : Turned a b bs) (hs : ∀ x, x ∈ bs → x ∈ cs) : Turned a b cs := ⟨h.1, h.2.1, h.2.2.1, h.2.2.2.1, fun k hk hn => h.2.2.2.2 k hk (fun hx => hn (hs k hx))⟩
theorem turned_below {a b : World} {bs : List Nat} (h : Below a.heap.size a b) : Turned a b bs := ⟨h.os, h.tape, h.output, h.size, fun k hk _ => h.block k hk⟩
theorem turned_grown {a b : World} {row : Option Nat} (h : a.grownBy b row) : Turned a b row.toList :=
  ⟨h.os, h.tape, h.output, h.size, fun k hk hn => h.block k hk (fun e => hn (by rw [← e]; simp))⟩
/-- What is owned elsewhere stays. -/
theorem owns_turned {w w' : World} {lo : Nat} {d : Dc} {v : Value} {bs cs : List Nat} (h : Owns w lo d v bs) (ht : Turned w w' cs) (hd : ∀ b, b ∈ bs → b ∉ cs) : Owns w' lo d v bs :=
  owns_keep d v bs h (fun b hb => ht.2.2.2.2 b (owns_in d v bs h b hb).2 (hd b hb))
theorem ownsL_turned {w w' : World} {lo : Nat} {ds : List Dc} {vs : List Value} {bs cs : List Nat} (h : OwnsL w lo ds vs bs) (ht : Turned w w' cs) (hd : ∀ b, b ∈ bs → b ∉ cs) : OwnsL w' lo ds vs bs :=
  ownsL_keep ds vs bs h (fun b hb => ht.2.2.2.2 b (ownsL_in ds vs bs h b hb).2 (hd b hb))
/-- New memory was made, and what lay below a block is as it was. -/
theorem below_turned {w0 w w' : World} {bs : List Nat} (hb : Below w0.heap.size w0 w) (ht : Turned w w' bs) (hl : ∀ b, b ∈ bs → w0.heap.size ≤ b) : Below w0.heap.size w0 w' :=
  ⟨ht.1.trans hb.os, ht.2.1.trans hb.tape, ht.2.2.1.trans hb.output, Nat.le_trans hb.size ht.2.2.2.1, fun k hk => (ht.2.2.2.2 k (Nat.lt_of_lt_of_le hk hb.size) (fun hx => by have := hl k hx; omega)).trans (hb.block k hk)⟩
/-- A flat row of numbers as a datum. -/
def flatD (E : TypeId) (kd : IntKind) (size n : Nat) (xs : List Int) : Dc := .row E size n (xs.map fun x => .val (.int kd x))
theorem ownsL_flat (w : World) (lo : Nat) (kd : IntKind) : ∀ xs : List Int, OwnsL w lo (xs.map fun x => Dc.val (.int kd x)) (ints kd xs) []
  | [] => by simp [OwnsL, ints]
  | x :: xs => by
    simp only [List.map_cons, OwnsL]
    exact ⟨.int kd x, ints kd xs, [], [], rfl, by simp [Owns], ownsL_flat w lo kd xs, rfl⟩
theorem flat_vals (w : World) (lo : Nat) (kd : IntKind) : ∀ (xs : List Int) (vs : List Value) (bs : List Nat), OwnsL w lo (xs.map fun x => Dc.val (.int kd x)) vs bs → vs = ints kd xs ∧ bs = []
  | [], vs, bs, h => by simpa [OwnsL, ints] using h
  | x :: xs, vs, bs, h => by
    simp only [List.map_cons, OwnsL] at h
    obtain ⟨v, vs', b1, b2, rfl, h1, h2, rfl⟩ := h
    simp only [Owns] at h1
    obtain ⟨rfl, rfl⟩ := h1
    obtain ⟨rfl, rfl⟩ := flat_vals w lo kd xs vs' b2 h2
    exact ⟨rfl, rfl⟩
theorem owns_flat {w : World} {lo : Nat} {E : TypeId} {kd : IntKind} {size n : Nat} {v : Value} {xs : List Int} (h : w.ownsRow lo E size v n (ints kd xs)) : Owns w lo (flatD E kd size n xs) v v.ownBlock.toList := by
  unfold flatD
  simp only [Owns]
  exact ⟨ints kd xs, [], .of h, ownsL_flat w lo kd xs, by simp⟩
theorem flat_owns {w : World} {lo : Nat} {E : TypeId} {kd : IntKind} {n : Nat} {v : Value} {xs : List Int} {bs : List Nat} (h : Owns w lo (flatD E kd 1 n xs) v bs) : w.ownsRow lo E 1 v n (ints kd xs) ∧ bs = v.ownBlock.toList := by
  unfold flatD at h
  simp only [Owns] at h
  obtain ⟨vs, b2, ho, hl, rfl⟩ := h
  obtain ⟨rfl, rfl⟩ := flat_vals w lo kd xs vs b2 hl
  exact ⟨ho.one, by simp⟩
end Go.Proofs.Ytoedfeacpllkeaa.S9
