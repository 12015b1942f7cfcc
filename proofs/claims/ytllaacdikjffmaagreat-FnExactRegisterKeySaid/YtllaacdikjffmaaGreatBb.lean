import Derived.Test.YtllaacdikjffmaaGreatBa
import Derived.Deep.Slices
import Derived.ChangeArms
import Derived.Deep.WholeRow
import Derived.Deep.RegionWith
import Derived.Deep.RegionHeld3
import Derived.Deep.AppendLies
-- part S9
/-
  Data with memory in it: slices of structs that hold slices. What a cell reads as, what a call owns of it, and which blocks.
-/
namespace Go.Proofs.YtllaacdikjffmaaGreat.S9
open Go.ChangeShapes Go.WideShapes Go.ChangeAt Go.RowKit
open S0 S1
set_option linter.unusedVariables false
/-- The datum of a cell: a plain value, or a slice of n elements of 'size' cells each, its cells in a row. -/
inductive Dc
  | val (v : Value)
  | row (E : TypeId) (size n : Nat) (cs : List Dc)
mutual
/-- The value v reads as the datum, in blocks below hi. -/
def Rds (w : World) (hi : Nat) : Dc → Value → Prop
  | .val u, v => v = u
  | .row E size n cs, v => ∃ A c vs, v = .slice A n c ∧ Rd w hi size A n vs ∧ RdsL w hi cs vs
def RdsL (w : World) (hi : Nat) : List Dc → List Value → Prop
  | [], vs => vs = []
  | d :: ds, vs => ∃ v vs', vs = v :: vs' ∧ Rds w hi d v ∧ RdsL w hi ds vs'
end
mutual
/-- The value v is the call's own, from block lo on, with all that it reaches: bs are its blocks. -/
def Owns (w : World) (lo : Nat) : Dc → Value → List Nat → Prop
  | .val u, v, bs => v = u ∧ bs = []
  | .row E size n cs, v, bs => ∃ vs b2, Ow.At w lo E size v n vs ∧ OwnsL w lo cs vs b2 ∧ bs = v.ownBlock.toList ++ b2
def OwnsL (w : World) (lo : Nat) : List Dc → List Value → List Nat → Prop
  | [], vs, bs => vs = [] ∧ bs = []
  | d :: ds, vs, bs => ∃ v vs' b1 b2, vs = v :: vs' ∧ Owns w lo d v b1 ∧ OwnsL w lo ds vs' b2 ∧ bs = b1 ++ b2
end
section
variable {w w' : World} {hi hi' lo lo' : Nat}
mutual
theorem rds_keep (hk : ∀ k, k < hi → w'.heap[k]? = w.heap[k]?) : ∀ (d : Dc) (v : Value), Rds w hi d v → Rds w' hi d v
  | .val u, v, h => by simpa only [Rds] using h
  | .row E size n cs, v, h => by
    simp only [Rds] at h ⊢
    obtain ⟨A, c, vs, e, hr, hl⟩ := h
    exact ⟨A, c, vs, e, hr.keep hk, rdsL_keep hk cs vs hl⟩
theorem rdsL_keep (hk : ∀ k, k < hi → w'.heap[k]? = w.heap[k]?) : ∀ (ds : List Dc) (vs : List Value), RdsL w hi ds vs → RdsL w' hi ds vs
  | [], vs, h => by simpa only [RdsL] using h
  | d :: ds, vs, h => by
    simp only [RdsL] at h ⊢
    obtain ⟨v, vs', e, h1, h2⟩ := h
    exact ⟨v, vs', e, rds_keep hk d v h1, rdsL_keep hk ds vs' h2⟩
end
mutual
theorem rds_more (hh : hi ≤ hi') : ∀ (d : Dc) (v : Value), Rds w hi d v → Rds w hi' d v
  | .val u, v, h => by simpa only [Rds] using h
  | .row E size n cs, v, h => by
    simp only [Rds] at h ⊢
    obtain ⟨A, c, vs, e, hr, hl⟩ := h
    exact ⟨A, c, vs, e, hr.more hh, rdsL_more hh cs vs hl⟩
theorem rdsL_more (hh : hi ≤ hi') : ∀ (ds : List Dc) (vs : List Value), RdsL w hi ds vs → RdsL w hi' ds vs
  | [], vs, h => by simpa only [RdsL] using h
  | d :: ds, vs, h => by
    simp only [RdsL] at h ⊢
    obtain ⟨v, vs', e, h1, h2⟩ := h
    exact ⟨v, vs', e, rds_more hh d v h1, rdsL_more hh ds vs' h2⟩
end
theorem rds_on {d : Dc} {v : Value} (h : Rds w w.heap.size d v) (hb : Below w.heap.size w w') : Rds w' w'.heap.size d v := rds_more hb.size d v (rds_keep hb.block d v h)
theorem rdsL_on {ds : List Dc} {vs : List Value} (h : RdsL w w.heap.size ds vs) (hb : Below w.heap.size w w') : RdsL w' w'.heap.size ds vs := rdsL_more hb.size ds vs (rdsL_keep hb.block ds vs h)
mutual
theorem owns_rds : ∀ (d : Dc) (v : Value) (bs : List Nat), Owns w lo d v bs → Rds w w.heap.size d v
  | .val u, v, bs, h => by simp only [Owns] at h; simp only [Rds]; exact h.1
  | .row E size n cs, v, bs, h => by
    simp only [Owns] at h
    simp only [Rds]
    obtain ⟨vs, b2, ho, hl, _⟩ := h
    obtain ⟨A, c, rfl⟩ := ho.nil_form
    exact ⟨A, c, vs, rfl, ho.rd, ownsL_rds cs vs b2 hl⟩
theorem ownsL_rds : ∀ (ds : List Dc) (vs : List Value) (bs : List Nat), OwnsL w lo ds vs bs → RdsL w w.heap.size ds vs
  | [], vs, bs, h => by simp only [OwnsL] at h; simp only [RdsL]; exact h.1
  | d :: ds, vs, bs, h => by
    simp only [OwnsL] at h
    simp only [RdsL]
    obtain ⟨v, vs', b1, b2, e, h1, h2, _⟩ := h
    exact ⟨v, vs', e, owns_rds d v b1 h1, ownsL_rds ds vs' b2 h2⟩
end
theorem row_keep {base : Nat} {e : TypeId} {size n : Nat} {v : Value} {xs : List Value} (h : Ow.At w base e size v n xs) (hk : ∀ k, v.ownBlock = some k → w'.heap[k]? = w.heap[k]?) : Ow.At w' base e size v n xs := h.keep hk
mutual
/-- What stands in untouched blocks is owned as before. -/
theorem owns_keep : ∀ (d : Dc) (v : Value) (bs : List Nat), Owns w lo d v bs → (∀ b, b ∈ bs → w'.heap[b]? = w.heap[b]?) → Owns w' lo d v bs
  | .val u, v, bs, h, _ => by simpa only [Owns] using h
  | .row E size n cs, v, bs, h, hk => by
    simp only [Owns] at h ⊢
    obtain ⟨vs, b2, ho, hl, e⟩ := h
    subst e
    refine ⟨vs, b2, row_keep ho (fun k hk2 => hk k ?_), ownsL_keep cs vs b2 hl (fun b hb => hk b (List.mem_append_right _ hb)), rfl⟩
    rw [hk2]; simp
theorem ownsL_keep : ∀ (ds : List Dc) (vs : List Value) (bs : List Nat), OwnsL w lo ds vs bs → (∀ b, b ∈ bs → w'.heap[b]? = w.heap[b]?) → OwnsL w' lo ds vs bs
  | [], vs, bs, h, _ => by simpa only [OwnsL] using h
  | d :: ds, vs, bs, h, hk => by
    simp only [OwnsL] at h ⊢
    obtain ⟨v, vs', b1, b2, e, h1, h2, eb⟩ := h
    subst eb
    exact ⟨v, vs', b1, b2, e, owns_keep d v b1 h1 (fun b hb => hk b (List.mem_append_left _ hb)), ownsL_keep ds vs' b2 h2 (fun b hb => hk b (List.mem_append_right _ hb)), rfl⟩
end
mutual
/-- The blocks lie from lo on, and are there. -/
theorem owns_in : ∀ (d : Dc) (v : Value) (bs : List Nat), Owns w lo d v bs → ∀ b, b ∈ bs → lo ≤ b ∧ b < w.heap.size
  | .val u, v, bs, h => by
    simp only [Owns] at h
    intro b hb
    rw [h.2] at hb; cases hb
  | .row E size n cs, v, bs, h => by
    simp only [Owns] at h
    obtain ⟨vs, b2, ho, hl, e⟩ := h
    subst e
    intro b hb
    rcases List.mem_append.1 hb with hb | hb
    · refine ho.lt b ?_
      cases hv : v.ownBlock with
      | none => rw [hv] at hb; cases hb
      | some k => rw [hv] at hb; obtain rfl : b = k := by simpa using hb
                  rfl
    · exact ownsL_in cs vs b2 hl b hb
theorem ownsL_in : ∀ (ds : List Dc) (vs : List Value) (bs : List Nat), OwnsL w lo ds vs bs → ∀ b, b ∈ bs → lo ≤ b ∧ b < w.heap.size
  | [], vs, bs, h => by
    simp only [OwnsL] at h
    intro b hb
    rw [h.2] at hb; cases hb
  | d :: ds, vs, bs, h => by
    simp only [OwnsL] at h
    obtain ⟨v, vs', b1, b2, e, h1, h2, eb⟩ := h
    subst eb
    intro b hb
    rcases List.mem_append.1 hb with hb | hb
    · exact owns_in d v b1 h1 b hb
    · exact ownsL_in ds vs' b2 h2 b hb
end
mutual
theorem owns_base (hb : lo' ≤ lo) : ∀ (d : Dc) (v : Value) (bs : List Nat), Owns w lo d v bs → Owns w lo' d v bs
  | .val u, v, bs, h => by simpa only [Owns] using h
  | .row E size n cs, v, bs, h => by
    simp only [Owns] at h ⊢
    obtain ⟨vs, b2, ho, hl, e⟩ := h
    exact ⟨vs, b2, ho.down hb, ownsL_base hb cs vs b2 hl, e⟩
theorem ownsL_base (hb : lo' ≤ lo) : ∀ (ds : List Dc) (vs : List Value) (bs : List Nat), OwnsL w lo ds vs bs → OwnsL w lo' ds vs bs
  | [], vs, bs, h => by simpa only [OwnsL] using h
  | d :: ds, vs, bs, h => by
    simp only [OwnsL] at h ⊢
    obtain ⟨v, vs', b1, b2, e, h1, h2, eb⟩ := h
    exact ⟨v, vs', b1, b2, e, owns_base hb d v b1 h1, ownsL_base hb ds vs' b2 h2, eb⟩
end
theorem owns_below {d : Dc} {v : Value} {bs : List Nat} (h : Owns w lo d v bs) (hb : Below w.heap.size w w') : Owns w' lo d v bs := owns_keep d v bs h (fun b hb2 => hb.block b (owns_in d v bs h b hb2).2)
theorem ownsL_below {ds : List Dc} {vs : List Value} {bs : List Nat} (h : OwnsL w lo ds vs bs) (hb : Below w.heap.size w w') : OwnsL w' lo ds vs bs := ownsL_keep ds vs bs h (fun b hb2 => hb.block b (ownsL_in ds vs bs h b hb2).2)
end
/-- A world that differs from another in the listed blocks, and in new ones, alone. -/
def Turned (w w' : World) (bs : List Nat) : Prop := w'.os = w.os ∧ w'.tape = w.tape ∧ w'.output = w.output ∧ w.heap.size ≤ w'.heap.size ∧ ∀ k, k < w.heap.size → k ∉ bs → w'.heap[k]? = w.heap[k]?
theorem turned_refl (w : World) (bs : List Nat) : Turned w w bs := ⟨rfl, rfl, rfl, Nat.le_refl _, fun _ _ _ => rfl⟩
theorem turned_trans {a b c : World} {bs : List Nat} (h : Turned a b bs) (k : Turned b c bs) : Turned a c bs :=
  ⟨k.1.trans h.1, k.2.1.trans h.2.1, k.2.2.1.trans h.2.2.1, Nat.le_trans h.2.2.2.1 k.2.2.2.1, fun j hj hn => (k.2.2.2.2 j (Nat.lt_of_lt_of_le hj h.2.2.2.1) hn).trans (h.2.2.2.2 j hj hn)⟩
theorem turned_more {a b : World} {bs cs : List Nat} (h : Turned a b bs) (hs : ∀ x, x ∈ bs → x ∈ cs) : Turned a b cs := ⟨h.1, h.2.1, h.2.2.1, h.2.2.2.1, fun k hk hn => h.2.2.2.2 k hk (fun hx => hn (hs k hx))⟩
theorem turned_below {a b : World} {bs : List Nat} (h : Below a.heap.size a b) : Turned a b bs := ⟨h.os, h.tape, h.output, h.size, fun k hk _ => h.block k hk⟩
theorem turned_grown {a b : World} {row : Option Nat} (h : a.grownBy b row) : Turned a b row.toList :=
  ⟨h.os, h.tape, h.output, h.size, fun k hk hn => h.block k hk (fun e => hn (by rw [← e]; simp))⟩
/-- What is owned elsewhere stays. -/
theorem owns_turned {w w' : World} {lo : Nat} {d : Dc} {v : Value} {bs cs : List Nat} (h : Owns w lo d v bs) (ht : Turned w w' cs) (hd : ∀ b, b ∈ bs → b ∉ cs) : Owns w' lo d v bs :=
  owns_keep d v bs h (fun b hb => ht.2.2.2.2 b (owns_in d v bs h b hb).2 (hd b hb))
theorem ownsL_turned {w w' : World} {lo : Nat} {ds : List Dc} {vs : List Value} {bs cs : List Nat} (h : OwnsL w lo ds vs bs) (ht : Turned w w' cs) (hd : ∀ b, b ∈ bs → b ∉ cs) : OwnsL w' lo ds vs bs :=
  ownsL_keep ds vs bs h (fun b hb => ht.2.2.2.2 b (ownsL_in ds vs bs h b hb).2 (hd b hb))
/-- New memory was made, and what lay below a block is as it was. -/
theorem below_turned {w0 w w' : World} {bs : List Nat} (hb : Below w0.heap.size w0 w) (ht : Turned w w' bs) (hl : ∀ b, b ∈ bs → w0.heap.size ≤ b) : Below w0.heap.size w0 w' :=
  ⟨ht.1.trans hb.os, ht.2.1.trans hb.tape, ht.2.2.1.trans hb.output, Nat.le_trans hb.size ht.2.2.2.1, fun k hk => (ht.2.2.2.2 k (Nat.lt_of_lt_of_le hk hb.size) (fun hx => by have := hl k hx; omega)).trans (hb.block k hk)⟩
/-- A flat row of numbers as a datum. -/
def flatD (E : TypeId) (kd : IntKind) (size n : Nat) (xs : List Int) : Dc := .row E size n (xs.map fun x => .val (.int kd x))
theorem ownsL_flat (w : World) (lo : Nat) (kd : IntKind) : ∀ xs : List Int, OwnsL w lo (xs.map fun x => Dc.val (.int kd x)) (ints kd xs) []
  | [] => by simp [OwnsL, ints]
  | x :: xs => by
    simp only [List.map_cons, OwnsL]
    exact ⟨.int kd x, ints kd xs, [], [], rfl, by simp [Owns], ownsL_flat w lo kd xs, rfl⟩
theorem flat_vals (w : World) (lo : Nat) (kd : IntKind) : ∀ (xs : List Int) (vs : List Value) (bs : List Nat), OwnsL w lo (xs.map fun x => Dc.val (.int kd x)) vs bs → vs = ints kd xs ∧ bs = []
  | [], vs, bs, h => by simpa [OwnsL, ints] using h
  | x :: xs, vs, bs, h => by
    simp only [List.map_cons, OwnsL] at h
    obtain ⟨v, vs', b1, b2, rfl, h1, h2, rfl⟩ := h
    simp only [Owns] at h1
    obtain ⟨rfl, rfl⟩ := h1
    obtain ⟨rfl, rfl⟩ := flat_vals w lo kd xs vs' b2 h2
    exact ⟨rfl, rfl⟩
theorem owns_flat {w : World} {lo : Nat} {E : TypeId} {kd : IntKind} {size n : Nat} {v : Value} {xs : List Int} (h : w.ownsRow lo E size v n (ints kd xs)) : Owns w lo (flatD E kd size n xs) v v.ownBlock.toList := by
  unfold flatD
  simp only [Owns]
  exact ⟨ints kd xs, [], .of h, ownsL_flat w lo kd xs, by simp⟩
theorem flat_owns {w : World} {lo : Nat} {E : TypeId} {kd : IntKind} {n : Nat} {v : Value} {xs : List Int} {bs : List Nat} (h : Owns w lo (flatD E kd 1 n xs) v bs) : w.ownsRow lo E 1 v n (ints kd xs) ∧ bs = v.ownBlock.toList := by
  unfold flatD at h
  simp only [Owns] at h
  obtain ⟨vs, b2, ho, hl, rfl⟩ := h
  obtain ⟨rfl, rfl⟩ := flat_vals w lo kd xs vs b2 hl
  exact ⟨ho.one, by simp⟩
end Go.Proofs.YtllaacdikjffmaaGreat.S9

-- part Ty
/-
  The shapes of data with memory in it, and how an argument of such a shape is opened: what came in reads as a datum of its shape.
-/
namespace Go.Proofs.YtllaacdikjffmaaGreat.Ty
open Go.ChangeShapes Go.WideShapes Go.ChangeAt Go.RowKit Go.Deep
open S0 S1 S9
set_option linter.unusedVariables false
/-- A shape: a number, a bool, a string, a slice (E: its elements' type as it came in; D: the type that the datum names), a struct's fields in order. -/
inductive Ty
  | int (kd : IntKind)
  | bool
  | str
  | slice (E D : TypeId) (e : Ty)
  | done
  | cons (f r : Ty)
/-- How many cells. -/
def Ty.size : Ty → Nat
  | .int _ => 1
  | .bool => 1
  | .str => 1
  | .slice _ _ _ => 1
  | .done => 0
  | .cons f r => f.size + r.size
mutual
/-- Type t of the program has the shape. -/
def fits (P : Program) : Ty → TypeId → Bool
  | .int kd, t => match P.underlying t with | some (.int k) => decide (k = kd) | _ => false
  | .bool, t => match P.underlying t with | some .bool => true | _ => false
  | .str, t => match P.underlying t with | some .string => true | _ => false
  | .slice E D e, t => (match P.underlying t with | some (.slice u) => decide (u = E) | _ => false) && decide (P.cellsOf E = e.size) && decide (0 < e.size) && fits P e E
  | .done, t => false
  | .cons f r, t => match P.underlying t with | some (.struct fs) => decide (P.cellsOf t = f.size + r.size) && (match fs.toList with | [] => false | g :: gs => decide (g.offset = 0) && decide (P.cellsOf g.type = f.size) && fits P f g.type && fitsF P r gs f.size) | _ => false
/-- .. fields from an offset on. -/
def fitsF (P : Program) : Ty → List Field → Nat → Bool
  | .done, fs, _ => fs.isEmpty
  | .cons f r, fs, off => match fs with | [] => false | g :: gs => decide (g.offset = off) && decide (P.cellsOf g.type = f.size) && fits P f g.type && fitsF P r gs (off + f.size)
  | .int _, _, _ => false
  | .bool, _, _ => false
  | .str, _, _ => false
  | .slice _ _ _, _, _ => false
end
/-- n pieces, each with Q. -/
def Pieces (Q : List Dc → Prop) : Nat → List Dc → Prop
  | 0, cs => cs = []
  | n + 1, cs => ∃ a b, cs = a ++ b ∧ Q a ∧ Pieces Q n b
/-- The data of a shape. -/
def Is : Ty → List Dc → Prop
  | .int kd, ds => ∃ x, ds = [.val (.int kd x)] ∧ (Lit.int kd x).wf = true
  | .bool, ds => ∃ b, ds = [.val (.bool b)]
  | .str, ds => ∃ s : ByteArray, ds = [.val (.string s)] ∧ s.size ≤ maxLen
  | .slice E D e, ds => ∃ n cs, ds = [.row D e.size n cs] ∧ n ≤ maxLen ∧ Pieces (Is e) n cs
  | .done, ds => ds = []
  | .cons f r, ds => ∃ a b, ds = a ++ b ∧ Is f a ∧ Is r b
theorem rdsL_app {w : World} {hi : Nat} : ∀ {ds es : List Dc} {us vs : List Value}, RdsL w hi ds us → RdsL w hi es vs → RdsL w hi (ds ++ es) (us ++ vs)
  | [], es, us, vs, h, k => by simp only [RdsL] at h; subst h; exact k
  | d :: ds, es, us, vs, h, k => by
    simp only [RdsL] at h
    obtain ⟨u, us', rfl, h1, h2⟩ := h
    simp only [List.cons_append, RdsL]
    exact ⟨u, us' ++ vs, rfl, h1, rdsL_app h2 k⟩
theorem rdsL_len {w : World} {hi : Nat} : ∀ {ds : List Dc} {vs : List Value}, RdsL w hi ds vs → vs.length = ds.length
  | [], vs, h => by simp only [RdsL] at h; simp [h]
  | d :: ds, vs, h => by
    simp only [RdsL] at h
    obtain ⟨v, vs', rfl, _, h2⟩ := h
    simp [rdsL_len h2]
section
variable {H : Type} {enc : TypeId × Value → H} {P : Program} {w : World} {base : Nat} {spare : Nat → Bool} {held : Bool}
theorem spot_none {a : Addr} {v : Value} (h : w.cell? (a.add 0) = some v) : a.spot = none := by
  cases a with
  | mk b o s =>
    cases s with
    | none => rfl
    | some s =>
      exfalso
      unfold Addr.add at h
      rw [if_pos rfl] at h
      simp only [World.cell?] at h
      split at h
      · simp at h
      · simp at h
theorem add_eq {a : Addr} (h : a.spot = none) (k : Nat) : a.add k = ⟨a.block, a.off + k, none⟩ := by
  cases a with
  | mk b o s =>
    obtain rfl : s = none := h
    unfold Addr.add
    split
    · next h0 => subst h0; rfl
    · rfl
theorem block_lt {a : Addr} {v : Value} (h : w.cell? a = some v) : a.block < w.heap.size := by
  by_cases hb : a.block < w.heap.size
  · exact hb
  · have e : w.heap[a.block]? = none := by rw [Array.getElem?_eq_none (by omega)]
    simp [World.cell?, e] at h
/-- n pieces of the memory, each read. -/
theorem pieces_of (k : Nat) (a : Addr) (Q : List Dc → Prop) (hi : Nat) : ∀ (n : Nat), (∀ i, i < n → ∃ cs ds, cs.length = k ∧ (∀ j, j < k → w.cell? (a.add (i * k + j)) = cs[j]?) ∧ Q ds ∧ RdsL w hi ds cs) →
    ∃ vs ds, vs.length = n * k ∧ (∀ j, j < n * k → w.cell? (a.add j) = vs[j]?) ∧ Pieces Q n ds ∧ RdsL w hi ds vs := by
  intro n h
  -- from the end: pieces p .. n
  have back : ∀ m, m ≤ n → ∃ vs ds, vs.length = m * k ∧ (∀ j, j < m * k → w.cell? (a.add ((n - m) * k + j)) = vs[j]?) ∧ Pieces Q m ds ∧ RdsL w hi ds vs := by
    intro m
    induction m with
    | zero => intro _; exact ⟨[], [], by simp, fun j hj => by omega, by simp [Pieces], by simp [RdsL]⟩
    | succ m ih =>
      intro hm
      obtain ⟨vs, ds, h1, h2, h3, h4⟩ := ih (by omega)
      obtain ⟨cs, es, g1, g2, g3, g4⟩ := h (n - (m + 1)) (by omega)
      refine ⟨cs ++ vs, es ++ ds, by rw [List.length_append, g1, h1, Nat.add_mul]; omega, fun j hj => ?_, ?_, rdsL_app g4 h4⟩
      · by_cases hjk : j < k
        · rw [List.getElem?_append_left (by omega)]
          exact g2 j hjk
        · rw [List.getElem?_append_right (by omega), g1]
          have e : (n - (m + 1)) * k + j = (n - m) * k + (j - k) := by
            have : n - m = n - (m + 1) + 1 := by omega
            rw [this, Nat.add_mul]; omega
          rw [e]
          exact h2 (j - k) (by rw [Nat.add_mul] at hj; omega)
      · simp only [Pieces]; exact ⟨es, ds, rfl, g3, h3⟩
  obtain ⟨vs, ds, h1, h2, h3, h4⟩ := back n (Nat.le_refl _)
  exact ⟨vs, ds, h1, fun j hj => by have := h2 j hj; simpa using this, h3, h4⟩
theorem get_fields {α : Type} {l : List α} {f : α} {r : List α} {k : Nat} (h : l.drop k = f :: r) : l[k]? = some f ∧ l.drop (k + 1) = r := by
  have e := List.getElem?_drop (xs := l) (i := k) (j := 0)
  rw [h] at e
  refine ⟨by simpa using e.symm, ?_⟩
  have e2 := List.drop_drop (i := 1) (j := k) (l := l)
  rw [h] at e2
  simpa using e2.symm
mutual
theorem opened : ∀ (ty : Ty) (t : TypeId), fits P ty t = true → ∀ (fuel : Nat) (cs : List Value) (x : DataW H × List MemPlace), DataW.trod enc P w base spare held fuel t cs = some x → ∃ ds, Is ty ds ∧ RdsL w w.heap.size ds cs
  | .int kd, t, hf, fuel, cs, x, h => by
    simp only [fits] at hf
    split at hf
    · next k hu =>
      obtain rfl : k = kd := of_decide_eq_true hf
      obtain ⟨a, rfl, _, hw⟩ := DataW.trod_int hu h
      exact ⟨_, by simp only [Is]; exact ⟨a, rfl, hw⟩, by simp [RdsL, Rds]⟩
    · cases hf
  | .bool, t, hf, fuel, cs, x, h => by
    simp only [fits] at hf
    split at hf
    · next hu =>
      obtain ⟨b, rfl, _⟩ := DataW.trod_bool hu h
      exact ⟨_, by simp only [Is]; exact ⟨b, rfl⟩, by simp [RdsL, Rds]⟩
    · cases hf
  | .str, t, hf, fuel, cs, x, h => by
    simp only [fits] at hf
    split at hf
    · next hu =>
      obtain ⟨s, rfl, _, hs⟩ := DataW.trod_string hu h
      exact ⟨_, by simp only [Is]; exact ⟨s, rfl, hs⟩, by simp [RdsL, Rds]⟩
    · cases hf
  | .slice E D e, t, hf, fuel, cs, x, h => by
    simp only [fits, Bool.and_eq_true, decide_eq_true_eq] at hf
    obtain ⟨⟨⟨hu, hc⟩, hs⟩, he⟩ := hf
    split at hu
    · next u hu2 =>
      obtain rfl : u = E := of_decide_eq_true hu
      rcases open_slice hu2 h with ⟨rfl, _⟩ | ⟨a, len, cap, m, n, Dm, Pl, rfl, _, hl, hm, hmm, _, hall⟩
      · exact ⟨[.row D e.size 0 []], by simp only [Is]; exact ⟨0, [], rfl, by omega, by simp [Pieces]⟩, by simp only [RdsL, Rds]; exact ⟨_, [], rfl, ⟨none, 0, [], rfl, Rd.nil, rfl⟩, rfl⟩⟩
      · have hlm : len ≤ m := by rw [hmm]; split <;> omega
        obtain ⟨vs, ds, h1, h2, h3, h4⟩ := pieces_of (w := w) e.size a (Is e) w.heap.size len (fun i hi => by
          obtain ⟨cs', g1, g2⟩ := hall i (by omega)
          rw [hc] at g1
          obtain ⟨_, hlen, hcell⟩ := World.cells?_some g1
          obtain ⟨ds, k1, k2⟩ := opened e u he n cs' _ g2
          exact ⟨cs', ds, hlen, fun j hj => by rw [← add_add]; exact hcell j hj, k1, k2⟩)
        refine ⟨[.row D e.size len ds], by simp only [Is]; exact ⟨len, ds, rfl, by omega, h3⟩, ?_⟩
        simp only [RdsL, Rds]
        refine ⟨_, [], rfl, ⟨some a, cap, vs, rfl, ⟨h1, fun hn => ?_⟩, h4⟩, rfl⟩
        have hp : 0 < len * e.size := Nat.mul_pos hn hs
        have h0 := h2 0 hp
        rw [List.getElem?_eq_getElem (by omega)] at h0
        have hsp := spot_none h0
        refine ⟨a.block, a.off, by cases a; simp_all, ?_, fun j hj => ?_⟩
        · rw [add_eq hsp] at h0
          exact block_lt (a := ⟨a.block, a.off + 0, none⟩) h0
        · rw [← h2 j hj, add_eq hsp]
    · cases hu
  | .done, t, hf, fuel, cs, x, h => by simp [fits] at hf
  | .cons f r, t, hf, fuel, cs, x, h => by
    simp only [fits] at hf
    split at hf
    · next fs hu =>
      simp only [Bool.and_eq_true, decide_eq_true_eq] at hf
      obtain ⟨hc, hf⟩ := hf
      obtain ⟨xs, n, _, _, hlen, _, hall⟩ := DataW.trod_struct hu h
      split at hf
      · cases hf
      · next g gs hg =>
        simp only [Bool.and_eq_true, decide_eq_true_eq] at hf
        obtain ⟨⟨⟨h1, h2⟩, h3⟩, h4⟩ := hf
        have hall2 : ∀ (i : Nat) (g : Field), fs.toList[i]? = some g → ∃ y, DataW.trod enc P w base spare held n g.type ((cs.drop g.offset).take (P.cellsOf g.type)) = some y := by
          intro i g hi
          have hi2 : fs[i]? = some g := by simpa using hi
          have hxl : i < xs.length := by
            have := (Array.getElem?_eq_some_iff.1 hi2).1
            omega
          exact ⟨xs[i], by rw [hall i g hi2, List.getElem?_eq_getElem hxl]⟩
        obtain ⟨y, hy⟩ := hall2 0 g (by rw [hg]; rfl)
        rw [h1, h2] at hy
        obtain ⟨a, ka, ra⟩ := opened f g.type h3 n _ y hy
        obtain ⟨b, kb, rb⟩ := openedF r gs f.size h4 n cs (fs.toList) 1 (by rw [hg]; rfl) (by rw [hlen, hc]) hall2
        refine ⟨a ++ b, by simp only [Is]; exact ⟨a, b, rfl, ka, kb⟩, ?_⟩
        have e : cs = (cs.drop 0).take f.size ++ cs.drop f.size := by simp
        rw [e]
        exact rdsL_app ra rb
    · cases hf
theorem openedF : ∀ (ty : Ty) (gs : List Field) (off : Nat), fitsF P ty gs off = true → ∀ (n : Nat) (cs : List Value) (fs : List Field) (k : Nat), fs.drop k = gs → cs.length = off + ty.size →
    (∀ (i : Nat) (g : Field), fs[i]? = some g → ∃ y : DataW H × List MemPlace, DataW.trod enc P w base spare held n g.type ((cs.drop g.offset).take (P.cellsOf g.type)) = some y) → ∃ ds, Is ty ds ∧ RdsL w w.heap.size ds (cs.drop off)
  | .done, gs, off, hf, n, cs, fs, k, hd, hl, hall => by
    refine ⟨[], by simp [Is], ?_⟩
    have : cs.drop off = [] := List.drop_eq_nil_of_le (by simp [Ty.size] at hl; omega)
    rw [this]
    simp [RdsL]
  | .cons f r, gs, off, hf, n, cs, fs, k, hd, hl, hall => by
    simp only [fitsF] at hf
    split at hf
    · cases hf
    · next g gs2 =>
      simp only [Bool.and_eq_true, decide_eq_true_eq] at hf
      obtain ⟨⟨⟨h1, h2⟩, h3⟩, h4⟩ := hf
      obtain ⟨hk, hk2⟩ := get_fields hd
      obtain ⟨y, hy⟩ := hall k g hk
      rw [h1, h2] at hy
      obtain ⟨a, ka, ra⟩ := opened f g.type h3 n _ y hy
      obtain ⟨b, kb, rb⟩ := openedF r gs2 (off + f.size) h4 n cs fs (k + 1) hk2 (by simp only [Ty.size] at hl; omega) hall
      refine ⟨a ++ b, by simp only [Is]; exact ⟨a, b, rfl, ka, kb⟩, ?_⟩
      have e : cs.drop off = (cs.drop off).take f.size ++ cs.drop (off + f.size) := by
        rw [← List.drop_drop, List.take_append_drop]
      rw [e]
      exact rdsL_app ra rb
  | .int _, gs, off, hf, n, cs, fs, k, hd, hl, hall => by simp [fitsF] at hf
  | .bool, gs, off, hf, n, cs, fs, k, hd, hl, hall => by simp [fitsF] at hf
  | .str, gs, off, hf, n, cs, fs, k, hd, hl, hall => by simp [fitsF] at hf
  | .slice _ _ _, gs, off, hf, n, cs, fs, k, hd, hl, hall => by simp [fitsF] at hf
end
end
/-- A list of things, each with its cells, out of the pieces. -/
theorem of_pieces {α : Type} {Q : List Dc → Prop} (f : α → List Dc) (ok : α → Prop) (h : ∀ ds, Q ds → ∃ x, ds = f x ∧ ok x) : ∀ (n : Nat) (cs : List Dc), Pieces Q n cs → ∃ l : List α, cs = l.flatMap f ∧ l.length = n ∧ ∀ x ∈ l, ok x
  | 0, cs, e => by simp only [Pieces] at e; exact ⟨[], by simp [e], rfl, fun x hx => by cases hx⟩
  | n + 1, cs, e => by
    simp only [Pieces] at e
    obtain ⟨a, b, rfl, ha, hb⟩ := e
    obtain ⟨x, rfl, hx⟩ := h a ha
    obtain ⟨l, rfl, hl, hok⟩ := of_pieces f ok h n b hb
    exact ⟨x :: l, by simp, by simp [hl], fun y hy => by
      rcases List.mem_cons.1 hy with rfl | hy
      · exact hx
      · exact hok y hy⟩
end Go.Proofs.YtllaacdikjffmaaGreat.Ty

-- part Dm
/-
  Marks over data with memory in it, and a cell in the midst of a row: what it reads as, what a store into it, or a change of what it leads to, does to the whole.
-/
namespace Go.Proofs.YtllaacdikjffmaaGreat.Dm
open Go.ChangeShapes Go.WideShapes Go.ChangeAt Go.RowKit
open S0 S1 S9 Ty
set_option linter.unusedVariables false
/-- The decimal digits of a mark's text. -/
def digits : Nat → Nat → List UInt8
  | 0, _ => []
  | f + 1, k => if k = 0 then [] else digits f (k / 10) ++ [UInt8.ofNat (48 + k % 10)]
def text (k : Int) : ByteArray := ⟨(if k ≤ 0 then [109, 48] else 109 :: digits 64 k.toNat).toArray⟩
/-- What a mark makes of a plain cell. -/
def mkV (k : Int) : Value → Value
  | .int .u8 _ => .int .u8 (k % 256)
  | .int kd _ => .int kd k
  | .bool _ => .bool (k % 3 == 0)
  | .string _ => .string (text k)
  | v => v
mutual
/-- How many marks a datum takes. -/
def cnt : Dc → Nat
  | .val _ => 1
  | .row _ _ _ cs => cntL cs
def cntL : List Dc → Nat
  | [] => 0
  | d :: ds => cnt d + cntL ds
end
mutual
/-- The datum with marks from k on. -/
def mk : Dc → Int → Dc
  | .val v, k => .val (mkV k v)
  | .row E s n cs, k => .row E s n (mkL cs k)
def mkL : List Dc → Int → List Dc
  | [], _ => []
  | d :: ds, k => mk d k :: mkL ds (k + cnt d)
end
mutual
/-- How much the laws count of a datum: the elements of its slices, the letters of its strings. -/
def wt : Dc → Nat
  | .val (.string s) => s.size
  | .val _ => 0
  | .row _ _ n cs => n + wtL cs
def wtL : List Dc → Nat
  | [] => 0
  | d :: ds => wt d + wtL ds
end
theorem cntL_app : ∀ a b : List Dc, cntL (a ++ b) = cntL a + cntL b
  | [], b => by simp [cntL]
  | d :: a, b => by simp only [List.cons_append, cntL, cntL_app a b]; omega
theorem wtL_app : ∀ a b : List Dc, wtL (a ++ b) = wtL a + wtL b
  | [], b => by simp [wtL]
  | d :: a, b => by simp only [List.cons_append, wtL, wtL_app a b]; omega
theorem mkL_app : ∀ (a b : List Dc) (k : Int), mkL (a ++ b) k = mkL a k ++ mkL b (k + cntL a)
  | [], b, k => by simp [mkL, cntL]
  | d :: a, b, k => by
    simp only [List.cons_append, mkL, cntL, mkL_app a b]
    congr 3
    omega
theorem mkL_len : ∀ (a : List Dc) (k : Int), (mkL a k).length = a.length
  | [], k => rfl
  | d :: a, k => by simp [mkL, mkL_len a]
theorem mkL_get : ∀ (a : List Dc) (k : Int) (p : Nat) (d : Dc), a[p]? = some d → (mkL a k)[p]? = some (mk d (k + cntL (a.take p)))
  | [], k, p, d, h => by simp at h
  | e :: a, k, 0, d, h => by obtain rfl : e = d := by simpa using h
                             simp [mkL, cntL]
  | e :: a, k, p + 1, d, h => by
    have h2 : a[p]? = some d := by simpa using h
    simp only [mkL, List.getElem?_cons_succ, List.take_succ_cons, cntL]
    rw [mkL_get a _ p d h2]
    congr 2
    omega
/-- Marked as far as cell p. -/
def mkP (cs : List Dc) (k : Int) (p : Nat) : List Dc := mkL (cs.take p) k ++ cs.drop p
def kP (cs : List Dc) (k : Int) (p : Nat) : Int := k + cntL (cs.take p)
theorem mkP_zero (cs : List Dc) (k : Int) : mkP cs k 0 = cs := by simp [mkP, mkL]
theorem mkP_all (cs : List Dc) (k : Int) (p : Nat) (h : cs.length = p) : mkP cs k p = mkL cs k := by simp [mkP, ← h]
theorem kP_zero (cs : List Dc) (k : Int) : kP cs k 0 = k := by simp [kP, cntL]
theorem kP_all (cs : List Dc) (k : Int) (p : Nat) (h : cs.length = p) : kP cs k p = k + cntL cs := by simp [kP, ← h]
theorem mkP_get {cs : List Dc} {k : Int} {p : Nat} {d : Dc} (h : cs[p]? = some d) : (mkP cs k p)[p]? = some d := by
  have hl : p < cs.length := (List.getElem?_eq_some_iff.1 h).1
  unfold mkP
  rw [List.getElem?_append_right (by rw [mkL_len, List.length_take]; omega), mkL_len, List.length_take, Nat.min_eq_left (by omega), Nat.sub_self, List.getElem?_drop]
  simpa using h
theorem take_one {cs : List Dc} {p : Nat} {d : Dc} (h : cs[p]? = some d) : cs.take (p + 1) = cs.take p ++ [d] := by
  obtain ⟨hl, e⟩ := List.getElem?_eq_some_iff.1 h
  rw [List.take_succ_eq_append_getElem hl, e]
theorem kP_step {cs : List Dc} {k : Int} {p : Nat} {d : Dc} (h : cs[p]? = some d) : kP cs k (p + 1) = kP cs k p + cnt d := by
  unfold kP
  rw [take_one h, cntL_app]
  simp [cntL]
  omega
theorem mkP_step {cs : List Dc} {k : Int} {p : Nat} {d : Dc} (h : cs[p]? = some d) : (mkP cs k p).set p (mk d (kP cs k p)) = mkP cs k (p + 1) := by
  obtain ⟨hl, e⟩ := List.getElem?_eq_some_iff.1 h
  have e1 : (mkL (cs.take p) k).length = p := by rw [mkL_len, List.length_take]; omega
  unfold mkP
  rw [List.set_append_right _ _ (by omega), e1, Nat.sub_self, List.drop_eq_getElem_cons hl, List.set_cons_zero, take_one h, mkL_app]
  simp [mkL, kP]
theorem kP_le {cs : List Dc} {k : Int} {p : Nat} : k ≤ kP cs k p ∧ kP cs k p ≤ k + cntL cs := by
  have h := cntL_app (cs.take p) (cs.drop p)
  rw [List.take_append_drop] at h
  unfold kP
  omega
/-- Lists of things with 'size' cells each. -/
theorem flat_len {α : Type} {f : α → List Dc} {k : Nat} (h : ∀ x, (f x).length = k) : ∀ l : List α, (l.flatMap f).length = l.length * k
  | [] => by simp
  | x :: l => by rw [List.flatMap_cons, List.length_append, h, flat_len h l, List.length_cons, Nat.add_mul]; omega
theorem flat_at {α : Type} {f : α → List Dc} {k : Nat} (h : ∀ x, (f x).length = k) : ∀ (l : List α) (i : Nat) (x : α) (j : Nat), l[i]? = some x → j < k → (l.flatMap f)[i * k + j]? = (f x)[j]?
  | [], i, x, j, e, _ => by simp at e
  | y :: l, 0, x, j, e, hj => by
    obtain rfl : y = x := by simpa using e
    rw [List.flatMap_cons, List.getElem?_append_left (by rw [h]; omega)]
    simp
  | y :: l, i + 1, x, j, e, hj => by
    have e2 : l[i]? = some x := by simpa using e
    have e3 : (i + 1) * k + j = k + (i * k + j) := by rw [Nat.add_mul]; omega
    rw [List.flatMap_cons, List.getElem?_append_right (by rw [h, e3]; omega), h, e3, Nat.add_sub_cancel_left]
    exact flat_at h l i x j e2 hj
theorem get_some {α : Type} (l : List α) {i : Nat} (h : i < l.length) : ∃ x, l[i]? = some x := ⟨l[i], List.getElem?_eq_getElem h⟩
/-- A cell of a row, read. -/
theorem rdsL_at {w : World} {hi : Nat} : ∀ {cs : List Dc} {vs : List Value} {p : Nat} {d : Dc}, RdsL w hi cs vs → cs[p]? = some d → ∃ u, vs[p]? = some u ∧ Rds w hi d u
  | [], vs, p, d, h, e => by simp at e
  | c :: cs, vs, 0, d, h, e => by
    simp only [RdsL] at h
    obtain ⟨v, vs', rfl, h1, _⟩ := h
    obtain rfl : c = d := by simpa using e
    exact ⟨v, rfl, h1⟩
  | c :: cs, vs, p + 1, d, h, e => by
    simp only [RdsL] at h
    obtain ⟨v, vs', rfl, _, h2⟩ := h
    obtain ⟨u, g1, g2⟩ := rdsL_at (p := p) h2 (by simpa using e)
    exact ⟨u, by simpa using g1, g2⟩
theorem rds_row {w : World} {hi E size n : Nat} {cs : List Dc} {v : Value} (h : Rds w hi (.row E size n cs) v) : ∃ A c vs, v = .slice A n c ∧ Rd w hi size A n vs ∧ RdsL w hi cs vs := by simpa only [Rds] using h
theorem rds_at {w : World} {hi E size n m c : Nat} {A : Option Addr} {cs : List Dc} {p : Nat} {d : Dc} (h : Rds w hi (.row E size n cs) (.slice A m c)) (e : cs[p]? = some d) :
    ∃ b off u, A = some ⟨b, off, none⟩ ∧ b < hi ∧ w.cell? ⟨b, off + p, none⟩ = some u ∧ Rds w hi d u := by
  obtain ⟨A', c', vs, ev, hr, hl⟩ := rds_row h
  injection ev with e1 e2 e3
  subst e1 e2 e3
  obtain ⟨u, g1, g2⟩ := rdsL_at hl e
  have hp : p < vs.length := (List.getElem?_eq_some_iff.1 g1).1
  rw [hr.1] at hp
  have hn : 0 < m := by
    rcases Nat.eq_zero_or_pos m with h0 | h0
    · subst h0; simp at hp
    · exact h0
  obtain ⟨b, off, ea, hb, hc⟩ := hr.2 hn
  exact ⟨b, off, u, ea, hb, by rw [hc p hp, g1], g2⟩
/-- Two rows of data, one behind the other. -/
theorem ownsL_app {w : World} {lo : Nat} : ∀ {ds es : List Dc} {us vs : List Value} {b1 b2 : List Nat}, OwnsL w lo ds us b1 → OwnsL w lo es vs b2 → OwnsL w lo (ds ++ es) (us ++ vs) (b1 ++ b2)
  | [], es, us, vs, b1, b2, h, k => by simp only [OwnsL] at h; obtain ⟨rfl, rfl⟩ := h; exact k
  | d :: ds, es, us, vs, b1, b2, h, k => by
    simp only [OwnsL] at h
    obtain ⟨v, vs', c1, c2, rfl, h1, h2, rfl⟩ := h
    simp only [List.cons_append, OwnsL]
    exact ⟨v, vs' ++ vs, c1, c2 ++ b2, rfl, h1, ownsL_app h2 k, by simp⟩
theorem ownsL_len {w : World} {lo : Nat} : ∀ {ds : List Dc} {vs : List Value} {bs : List Nat}, OwnsL w lo ds vs bs → vs.length = ds.length
  | [], vs, bs, h => by simp only [OwnsL] at h; simp [h.1]
  | d :: ds, vs, bs, h => by
    simp only [OwnsL] at h
    obtain ⟨v, vs', _, _, rfl, _, h2, _⟩ := h
    simp [ownsL_len h2]
/-- A cell in the midst: what it owns, and the whole once it is changed. -/
theorem ownsL_at {w : World} {lo : Nat} : ∀ {cs : List Dc} {vs : List Value} {bs : List Nat} {p : Nat} {d : Dc}, OwnsL w lo cs vs bs → bs.Nodup → cs[p]? = some d →
    ∃ u b1, vs[p]? = some u ∧ Owns w lo d u b1 ∧ b1.Nodup ∧ (∀ x, x ∈ b1 → x ∈ bs) ∧
      ∀ w' d' u', Owns w' lo d' u' b1 → (∀ x, x ∈ bs → x ∉ b1 → w'.heap[x]? = w.heap[x]?) → OwnsL w' lo (cs.set p d') (vs.set p u') bs
  | [], vs, bs, p, d, h, _, e => by simp at e
  | c :: cs, vs, bs, 0, d, h, hn, e => by
    simp only [OwnsL] at h
    obtain ⟨v, vs', b1, b2, rfl, h1, h2, rfl⟩ := h
    obtain rfl : c = d := by simpa using e
    obtain ⟨n1, n2, n3⟩ := List.nodup_append.1 hn
    refine ⟨v, b1, rfl, h1, n1, fun x hx => List.mem_append_left _ hx, fun w' d' u' ho hk => ?_⟩
    simp only [List.set_cons_zero, OwnsL]
    exact ⟨u', vs', b1, b2, rfl, ho, ownsL_keep cs vs' b2 h2 (fun b hb => hk b (List.mem_append_right _ hb) (fun hb1 => n3 b hb1 b hb rfl)), rfl⟩
  | c :: cs, vs, bs, p + 1, d, h, hn, e => by
    simp only [OwnsL] at h
    obtain ⟨v, vs', b1, b2, rfl, h1, h2, rfl⟩ := h
    obtain ⟨n1, n2, n3⟩ := List.nodup_append.1 hn
    obtain ⟨u, b3, g1, g2, g3, g4, g5⟩ := ownsL_at (p := p) (d := d) h2 n2 (by simpa using e)
    refine ⟨u, b3, by simpa using g1, g2, g3, fun x hx => List.mem_append_right _ (g4 x hx), fun w' d' u' ho hk => ?_⟩
    simp only [List.set_cons_succ, OwnsL]
    refine ⟨v, vs'.set p u', b1, b2, rfl, owns_keep c v b1 h1 (fun b hb => hk b (List.mem_append_left _ hb) (fun hb3 => n3 b hb b (g4 b hb3) rfl)), g5 w' d' u' ho (fun x hx hx3 => hk x (List.mem_append_right _ hx) hx3), rfl⟩
theorem set_get {α : Type} : ∀ (l : List α) (p : Nat) (x : α), l[p]? = some x → l.set p x = l
  | [], p, x, h => by simp at h
  | y :: l, 0, x, h => by obtain rfl : y = x := by simpa using h
                          rfl
  | y :: l, p + 1, x, h => by simp [set_get l p x (by simpa using h)]
theorem owns_row {w : World} {lo E size n : Nat} {cs : List Dc} {v : Value} {bs : List Nat} (h : Owns w lo (.row E size n cs) v bs) : ∃ vs b2, Ow.At w lo E size v n vs ∧ OwnsL w lo cs vs b2 ∧ bs = v.ownBlock.toList ++ b2 := by simpa only [Owns] using h
/-- A cell of a row of the call's own. -/
theorem owns_at {w : World} {lo E size n m c : Nat} {A : Option Addr} {cs : List Dc} {bs : List Nat} {p : Nat} {d : Dc} (h : Owns w lo (.row E size n cs) (.slice A m c) bs) (hn : bs.Nodup) (e : cs[p]? = some d) :
    ∃ g off u b1, A = some ⟨g, off, none⟩ ∧ lo ≤ g ∧ g < w.heap.size ∧ w.cell? ⟨g, off + p, none⟩ = some u ∧ w.frozen? ⟨g, off + p, none⟩ = false ∧ Owns w lo d u b1 ∧ b1.Nodup ∧
      (∀ w' d', Owns w' lo d' u b1 → Turned w w' b1 → Owns w' lo (.row E size n (cs.set p d')) (.slice A m c) bs ∧ Turned w w' bs) ∧
      (b1 = [] → ∀ x, Owns (w.setCell ⟨g, off + p, none⟩ x) lo (.row E size n (cs.set p (.val x))) (.slice A m c) bs ∧ Turned w (w.setCell ⟨g, off + p, none⟩ x) bs) := by
  obtain ⟨vs, b2, ho, hl, rfl⟩ := owns_row h
  obtain ⟨n1, n2, n3⟩ := List.nodup_append.1 hn
  obtain ⟨u, b1, g1, g2, g3, g4, g5⟩ := ownsL_at hl n2 e
  have hp : p < vs.length := (List.getElem?_eq_some_iff.1 g1).1
  have hnn : 0 < n := by
    rcases Nat.eq_zero_or_pos n with h0 | h0
    · have := ho.1; subst h0; simp at this; simp [this] at hp
    · exact h0
  obtain ⟨g, off, cap, hv, _, hlt⟩ := ho.form hnn
  injection hv with e1 e2 e3
  subst e1 e2 e3
  obtain ⟨k1, k2⟩ := ho.lt g rfl
  have hgn : g ∉ b2 := fun hg => n3 g (by simp [Value.ownBlock]) g hg rfl
  refine ⟨g, off, u, b1, rfl, k1, k2, by rw [ho.cellAt p (by rw [← ho.1]; exact hp), g1], ho.frozenAt _, g2, g3, fun w' d' ho' ht => ?_, fun hb x => ?_⟩
  · have hk : ∀ b, b ∈ (Value.slice (some ⟨g, off, none⟩) m c).ownBlock.toList ++ b2 → b ∉ b1 → w'.heap[b]? = w.heap[b]? := fun b hb hb1 => by
      refine ht.2.2.2.2 b ?_ hb1
      rcases List.mem_append.1 hb with hb | hb
      · obtain rfl : b = g := by simpa [Value.ownBlock] using hb
        exact k2
      · exact (ownsL_in cs vs b2 hl b hb).2
    refine ⟨?_, turned_more ht (fun x hx => List.mem_append_right _ (g4 x hx))⟩
    simp only [Owns]
    refine ⟨vs, b2, row_keep ho (fun k hk2 => hk k (List.mem_append_left _ (by rw [hk2]; simp)) (fun hk1 => hgn (by
      obtain rfl : g = k := by simpa [Value.ownBlock] using hk2
      exact g4 _ hk1))), ?_, rfl⟩
    have := g5 w' d' u ho' (fun x hx hx1 => hk x (List.mem_append_right _ hx) hx1)
    rwa [set_get vs p u g1] at this
  · subst hb
    obtain ⟨s1, s2⟩ := ho.stored p x
    have ht : Turned w (w.setCell ⟨g, off + p, none⟩ x) ((Value.slice (some ⟨g, off, none⟩) m c).ownBlock.toList) := turned_grown s2
    refine ⟨?_, turned_more ht (fun y hy => List.mem_append_left _ hy)⟩
    simp only [Owns]
    refine ⟨vs.set p x, b2, s1, g5 _ (.val x) x (by simp [Owns]) (fun y hy _ => ?_), rfl⟩
    refine ht.2.2.2.2 y (ownsL_in cs vs b2 hl y hy).2 (fun hy2 => ?_)
    obtain rfl : y = g := by simpa [Value.ownBlock] using hy2
    exact hgn hy
theorem owns_val {w : World} {lo : Nat} {x u : Value} {bs : List Nat} (h : Owns w lo (.val x) u bs) : u = x ∧ bs = [] := by simpa only [Owns] using h
theorem rds_val {w : World} {hi : Nat} {x u : Value} (h : Rds w hi (.val x) u) : u = x := by simpa only [Rds] using h
/-- A flat row of numbers, read. -/
theorem rds_flat {w : World} {hi E size n : Nat} {kd : IntKind} {xs : List Int} {u : Value} (h : Rds w hi (flatD E kd size n xs) u) : ∃ A c, u = .slice A n c ∧ Rd w hi size A n (ints kd xs) := by
  unfold flatD at h
  obtain ⟨A, c, vs, rfl, hr, hl⟩ := rds_row h
  have : vs = ints kd xs := by
    clear hr h
    revert vs
    induction xs with
    | nil => intro vs hl; simpa [RdsL, ints] using hl
    | cons x xs ih =>
      intro vs hl
      simp only [List.map_cons, RdsL] at hl
      obtain ⟨v, vs', rfl, h1, h2⟩ := hl
      rw [rds_val h1, ih vs' h2]
      rfl
  subst this
  exact ⟨A, c, rfl, hr⟩
theorem cnt_flat (E : TypeId) (kd : IntKind) (size n : Nat) (xs : List Int) : cnt (flatD E kd size n xs) = xs.length := by
  unfold flatD
  simp only [cnt]
  induction xs with
  | nil => rfl
  | cons x xs ih => simp [cntL, cnt, ih]; omega
theorem wt_flat (E : TypeId) (kd : IntKind) (size n : Nat) (xs : List Int) : wt (flatD E kd size n xs) = n := by
  unfold flatD
  simp only [wt]
  have : wtL (xs.map fun x => Dc.val (.int kd x)) = 0 := by
    induction xs with
    | nil => rfl
    | cons x xs ih => simp [wtL, wt, ih]
  omega
theorem marks_cons (f : Int → Int) : ∀ (n : Nat) (k : Int), marks f k (n + 1) = f k :: marks f (k + 1) n
  | 0, k => by simp [marks]
  | n + 1, k => by
    rw [show marks f k (n + 1 + 1) = marks f k (n + 1) ++ [f (k + (n + 1 : Nat))] from rfl, marks_cons f n k]
    rw [show marks f (k + 1) (n + 1) = marks f (k + 1) n ++ [f (k + 1 + n)] from rfl]
    simp only [List.cons_append]
    congr 4
    omega
theorem mk_numbers (E : TypeId) (size n : Nat) (xs : List Int) (k : Int) : mk (flatD E .i64 size n xs) k = flatD E .i64 size n (marks fi64 k xs.length) := by
  unfold flatD
  simp only [mk]
  congr 1
  revert k
  induction xs with
  | nil => intro k; simp [mkL, marks]
  | cons x xs ih => intro k; rw [List.length_cons, marks_cons]; simp [mkL, mk, mkV, cnt, ih, fi64]
/-- In the midst of marking a row: p cells are marked. -/
def Mkg (E size n base : Nat) (cs : List Dc) (k : Int) (A : Option Addr) (m c : Nat) (bs : List Nat) (w : World) (p : Nat) (wr : World) : Prop :=
  Owns wr base (.row E size n (mkP cs k p)) (.slice A m c) bs ∧ bs.Nodup ∧ Turned w wr bs
section
variable {E size n base : Nat} {cs : List Dc} {k : Int} {A : Option Addr} {m c : Nat} {bs : List Nat} {w wr : World} {p : Nat}
theorem mkg_addr (h : Mkg E size n base cs k A m c bs w p wr) {d : Dc} (hp : cs[p]? = some d) : ∃ g off, A = some ⟨g, off, none⟩ ∧ base ≤ g ∧ g < wr.heap.size := by
  obtain ⟨g, off, _, _, e, h1, h2, _⟩ := owns_at h.1 h.2.1 (mkP_get hp)
  exact ⟨g, off, e, h1, h2⟩
/-- A plain cell is marked. -/
theorem mkg_val {g off a : Nat} (ha : off + p = a) (h : Mkg E size n base cs k (some ⟨g, off, none⟩) m c bs w p wr) {v : Value} (hp : cs[p]? = some (.val v)) :
    wr.cell? ⟨g, a, none⟩ = some v ∧ wr.frozen? ⟨g, a, none⟩ = false ∧ Mkg E size n base cs k (some ⟨g, off, none⟩) m c bs w (p + 1) (wr.setCell ⟨g, a, none⟩ (mkV (kP cs k p) v)) := by
  subst ha
  obtain ⟨g', off', u, b1, e, _, _, hc, hf, ho, _, _, hs⟩ := owns_at h.1 h.2.1 (mkP_get hp)
  injection e with e; injection e with e eo _; subst e eo
  obtain ⟨rfl, rfl⟩ := owns_val ho
  obtain ⟨s1, s2⟩ := hs rfl (mkV (kP cs k p) u)
  have e2 := mkP_step (k := k) hp
  simp only [mk] at e2
  rw [e2] at s1
  exact ⟨hc, hf, s1, h.2.1, turned_trans h.2.2 s2⟩
/-- What a cell leads to is marked. -/
theorem mkg_row {g off a : Nat} (ha : off + p = a) (h : Mkg E size n base cs k (some ⟨g, off, none⟩) m c bs w p wr) {d : Dc} (hp : cs[p]? = some d) :
    ∃ u b1, wr.cell? ⟨g, a, none⟩ = some u ∧ Owns wr base d u b1 ∧ b1.Nodup ∧ ∀ w', Owns w' base (mk d (kP cs k p)) u b1 → Turned wr w' b1 → Mkg E size n base cs k (some ⟨g, off, none⟩) m c bs w (p + 1) w' := by
  subst ha
  obtain ⟨g', off', u, b1, e, _, _, hc, _, ho, hn, hi, _⟩ := owns_at h.1 h.2.1 (mkP_get hp)
  injection e with e; injection e with e eo _; subst e eo
  refine ⟨u, b1, hc, ho, hn, fun w' h1 h2 => ?_⟩
  obtain ⟨s1, s2⟩ := hi w' _ h1 h2
  rw [mkP_step hp] at s1
  exact ⟨s1, h.2.1, turned_trans h.2.2 s2⟩
end
theorem mkg_start {E size n base m c : Nat} {cs : List Dc} {k : Int} {A : Option Addr} {bs : List Nat} {w : World} (h : Owns w base (.row E size n cs) (.slice A m c) bs) (hn : bs.Nodup) : Mkg E size n base cs k A m c bs w 0 w :=
  ⟨by rw [mkP_zero]; exact h, hn, turned_refl _ _⟩
theorem mkg_end {E size n base m c p : Nat} {cs : List Dc} {k : Int} {A : Option Addr} {bs : List Nat} {w wr : World} (h : Mkg E size n base cs k A m c bs w p wr) (hp : cs.length = p) : Owns wr base (mk (.row E size n cs) k) (.slice A m c) bs ∧ Turned w wr bs := by
  obtain ⟨h1, _, h3⟩ := h
  rw [mkP_all _ _ _ hp] at h1
  exact ⟨by simp only [mk]; exact h1, h3⟩
/-- What a call that marks leaves. -/
def MarkD (d : Dc) (k : Int) (base : Nat) (v : Value) (bs : List Nat) (w : World) (e : Ending) (w' : World) : Prop := e = .returned (.int .i64 (k + cnt d)) ∧ Owns w' base (mk d k) v bs ∧ Turned w w' bs
/-- A cell of a marked row, read. -/
theorem marked_at {w : World} {hi E size n m c : Nat} {A : Option Addr} {cs : List Dc} {k : Int} {p : Nat} {d : Dc} (h : Rds w hi (mk (.row E size n cs) k) (.slice A m c)) (e : cs[p]? = some d) :
    ∃ b off u, A = some ⟨b, off, none⟩ ∧ b < hi ∧ w.cell? ⟨b, off + p, none⟩ = some u ∧ Rds w hi (mk d (kP cs k p)) u := by
  simp only [mk] at h
  exact rds_at h (mkL_get cs k p d e)
end Go.Proofs.YtllaacdikjffmaaGreat.Dm

-- part Dg
/-
  Data with memory in it, what serves every type: what a call made, how an argument of a shape is opened, rows that are filled, variables of the call's own, the laws' own functions over slices of numbers.
-/
set_option linter.unusedVariables false
namespace Go.Proofs.YtllaacdikjffmaaGreat.S10
open Go.ChangeShapes Go.WideShapes Go.ChangeAt Go.RowKit Go.Deep
open S0 S1 S9 Ty Dm
end Go.Proofs.YtllaacdikjffmaaGreat.S10
namespace Go.Proofs.YtllaacdikjffmaaGreat.Bx
open Go.ChangeShapes Go.WideShapes Go.ChangeAt Go.RowKit Go.Deep
open S0 S1 S9 S10 Ty Dm
/-- What a call made: cells, or one value. -/
def MadeL (ds : List Dc) (w : World) (e : Ending) (w' : World) : Prop := ∃ vs bs, e = .returned (.agg vs.toArray) ∧ OwnsL w' w.heap.size ds vs bs ∧ bs.Nodup ∧ Below w.heap.size w w'
def MadeD (d : Dc) (w : World) (e : Ending) (w' : World) : Prop := ∃ v bs, e = .returned v ∧ Owns w' w.heap.size d v bs ∧ bs.Nodup ∧ Below w.heap.size w w'
theorem is_flat {E D : TypeId} {kd : IntKind} {ds : List Dc} (h : Is (.slice E D (.int kd)) ds) : ∃ xs : List Int, ds = [flatD D kd 1 xs.length xs] ∧ xs.length ≤ maxLen ∧ ∀ x ∈ xs, (Lit.int kd x).wf = true := by
  simp only [Is] at h
  obtain ⟨n, cs, rfl, hn, hp⟩ := h
  obtain ⟨l, rfl, rfl, ho⟩ := of_pieces (fun x : Int => [Dc.val (.int kd x)]) (fun x => (Lit.int kd x).wf = true) (fun ds hd => hd) n cs hp
  refine ⟨l, ?_, hn, ho⟩
  unfold flatD
  have : ∀ l : List Int, l.flatMap (fun x => [Dc.val (.int kd x)]) = l.map fun x => Dc.val (.int kd x) := by
    intro l
    induction l with
    | nil => rfl
    | cons x l ih => rw [List.flatMap_cons, ih]; rfl
  rw [this]
  rfl
theorem nodup_own (v : Value) : v.ownBlock.toList.Nodup := by cases v.ownBlock <;> simp
section
variable {H : Type} {enc : TypeId × Value → H} {W : World} {b0 : Nat} {v : Value} {d : DataW H} {ps : List MemPlace}
/-- A struct that came in by value. -/
theorem arg_struct {P : Program} {f r : Ty} {t : TypeId} (hf : fits P (.cons f r) t = true) (hval : Value.okWide P W .any b0 t v) (h : DataW.Trod enc P W 0 (fun _ => true) true t v d ps) :
    ∃ vs ds, v = .agg vs.toArray ∧ Is (.cons f r) ds ∧ RdsL W W.heap.size ds vs := by
  obtain ⟨fuel, hfu⟩ := h
  obtain ⟨ds, k1, k2⟩ := opened _ t hf fuel _ _ hfu
  have hu : ∃ fs, P.underlying t = some (.struct fs) := by
    simp only [fits] at hf
    split at hf
    · next fs hu => exact ⟨fs, hu⟩
    · cases hf
  obtain ⟨fs, hu⟩ := hu
  unfold Value.okWide at hval
  rw [hu] at hval
  obtain ⟨cs, rfl, _⟩ := hval
  exact ⟨cs.toList, ds, by simp, k1, k2⟩
end
end Go.Proofs.YtllaacdikjffmaaGreat.Bx
namespace Go.Proofs.YtllaacdikjffmaaGreat.Bs
open Go.ChangeShapes Go.WideShapes Go.ChangeAt Go.RowKit Go.Deep
open S0 S1 S9 S10 Ty Dm Bx
/-- A row filled so far: what stands in front, what is still to come. -/
def Fill (E size n : Nat) (w : World) (ds : List Dc) (left : Nat) (wr : World) : Prop :=
  ∃ vp tail bs, wr.ownsRow w.heap.size E size (.slice (some ⟨w.heap.size, 0, none⟩) n n) n (vp ++ tail) ∧ tail.length = left ∧ OwnsL wr (w.heap.size + 1) ds vp bs ∧ bs.Nodup ∧ Below w.heap.size w wr
theorem fill_end {E size n : Nat} {w wr : World} {ds : List Dc} (h : Fill E size n w ds 0 wr) : ∃ bs, Owns wr w.heap.size (.row E size n ds) (.slice (some ⟨w.heap.size, 0, none⟩) n n) bs ∧ bs.Nodup ∧ Below w.heap.size w wr := by
  obtain ⟨vp, tail, bs, ho, ht, hl, hn, hb⟩ := h
  obtain rfl : tail = [] := List.eq_nil_of_length_eq_zero ht
  rw [List.append_nil] at ho
  refine ⟨_, by simp only [Owns]; exact ⟨vp, bs, .of ho, ownsL_base (by omega) _ _ _ hl, rfl⟩, ?_, hb⟩
  refine List.nodup_append.2 ⟨nodup_own _, hn, fun a ha b hb2 e => ?_⟩
  subst e
  obtain rfl : a = w.heap.size := by simpa [Value.ownBlock] using ha
  have := ownsL_in _ _ _ hl _ hb2
  omega
theorem append_blocks {w w2 : World} {lo : Nat} {ds es : List Dc} {us vs : List Value} {b1 b2 : List Nat} (h1 : OwnsL w lo ds us b1) (n1 : b1.Nodup) (hb : Below w.heap.size w w2) (h2 : OwnsL w2 w.heap.size es vs b2) (n2 : b2.Nodup) (hlo : lo ≤ w.heap.size) :
    OwnsL w2 lo (ds ++ es) (us ++ vs) (b1 ++ b2) ∧ (b1 ++ b2).Nodup := by
  refine ⟨ownsL_app (ownsL_below h1 hb) (ownsL_base hlo _ _ _ h2), List.nodup_append.2 ⟨n1, n2, fun a ha b hb2 e => ?_⟩⟩
  subst e
  have := (ownsL_in _ _ _ h1 _ ha).2
  have := (ownsL_in _ _ _ h2 _ hb2).1
  omega
theorem stored_any {w : World} {base E size n c g : Nat} {vs : List Value} (h : w.ownsRow base E size (.slice (some ⟨g, 0, none⟩) n c) n vs) (j : Nat) (hj : j < n * size) :
    ∃ z, w.cell? ⟨g, j, none⟩ = some z ∧ w.frozen? ⟨g, j, none⟩ = false := by
  have hl : j < vs.length := by rw [h.1]; exact hj
  exact ⟨vs[j], by rw [h.cellAt j hj, List.getElem?_eq_getElem hl], h.frozenAt j⟩
end Go.Proofs.YtllaacdikjffmaaGreat.Bs
namespace Go.Proofs.YtllaacdikjffmaaGreat.Fx
open Go.ChangeShapes Go.WideShapes Go.ChangeAt Go.RowKit Go.Deep
open S0 S1 S9 S10 Ty Dm Bx
def numsD (xs : List Int) : Dc := flatD 3 .i64 1 xs.length xs
theorem marked_flat {E : TypeId} {kd : IntKind} {base : Nat} {xs ys : List Int} {v : Value} {w w' : World} {bs : List Nat} (e : bs = v.ownBlock.toList) (h : w'.ownsRow base E 1 v xs.length (ints kd ys)) (hg : w.grownBy w' v.ownBlock) : Owns w' base (flatD E kd 1 xs.length ys) v bs ∧ Turned w w' bs := by
  subst e
  exact ⟨owns_flat h, turned_grown hg⟩
theorem toIntS (w : World) (xs : List Int) (v : Value) (h : Rds w w.heap.size (numsD xs) v) (hw : wt (numsD xs) ≤ 4294967296) : Calls Tryz.prog 23 #[v] w (MadeD (numsD xs) w) := by
  obtain ⟨A, c, rfl, hr⟩ := rds_flat h
  unfold numsD at hw
  rw [wt_flat] at hw
  refine (S1.toIntS w A xs.length c xs hr hw).mono ?_
  rintro e w' ⟨A', c', rfl, ho, hb⟩
  exact ⟨_, _, rfl, owns_flat ho, nodup_own _, hb⟩
theorem eqIntS (w : World) (xs : List Int) (u v : Value) (h : Rds w w.heap.size (numsD xs) u) (h2 : Rds w w.heap.size (numsD xs) v) (hw : wt (numsD xs) ≤ 4294967296) : Calls Tryz.prog 29 #[u, v] w (Gives (.bool true) w) := by
  obtain ⟨A, c, rfl, hr⟩ := rds_flat h
  obtain ⟨B, d, rfl, hr2⟩ := rds_flat h2
  unfold numsD at hw
  rw [wt_flat] at hw
  exact S1.eqIntS_t w A B xs.length c d xs hr hr2 hw
theorem markIntS (w : World) (base : Nat) (xs : List Int) (v : Value) (bs : List Nat) (k : Int) (ho : Owns w base (numsD xs) v bs) (hnd : bs.Nodup) (hw : wt (numsD xs) ≤ 4294967296) (hk0 : 0 ≤ k) (hk1 : k + cnt (numsD xs) ≤ 1099511627776) :
    Calls Tryz.prog 32 #[v, .int .i64 k] w (MarkD (numsD xs) k base v bs w) := by
  obtain ⟨h, e⟩ := flat_owns ho
  obtain ⟨A, c, rfl⟩ := own_nil_form h
  unfold numsD at hw hk1 ⊢
  rw [wt_flat] at hw
  rw [cnt_flat] at hk1
  refine (S1.markIntS w base A xs.length c xs k h hw hk0 (by omega)).mono ?_
  rintro ed w' ⟨rfl, h2, hg⟩
  obtain ⟨h3, h4⟩ := marked_flat e h2 hg
  exact ⟨by rw [cnt_flat], by rw [mk_numbers]; exact h3, h4⟩
theorem heldIntS (w : World) (xs : List Int) (v : Value) (k : Int) (h : Rds w w.heap.size (mk (numsD xs) k) v) (hw : wt (numsD xs) ≤ 4294967296) (hk0 : 0 ≤ k) (hk1 : k + cnt (numsD xs) ≤ 1099511627776) :
    Calls Tryz.prog 35 #[v, .int .i64 k] w (Gives (.int .i64 (k + cnt (numsD xs))) w) := by
  unfold numsD at h hw hk1 ⊢
  rw [mk_numbers] at h
  obtain ⟨A, c, rfl, hr⟩ := rds_flat h
  rw [wt_flat] at hw
  rw [cnt_flat] at hk1 ⊢
  exact S1.heldIntS w A xs.length c k hr hw hk0 (by omega)
theorem cnt_numsD (xs : List Int) : cnt (numsD xs) ≤ 64 * wt (numsD xs) := by unfold numsD; rw [cnt_flat, wt_flat]; omega
theorem wt_numsD (xs : List Int) : wt (numsD xs) = xs.length := by unfold numsD; rw [wt_flat]
theorem szIntS (w : World) (xs : List Int) (v : Value) (z : Int) (h : Rds w w.heap.size (numsD xs) v) (hn : xs.length ≤ maxLen) (hz0 : 0 ≤ z) (hz1 : z ≤ 1048576) :
    Calls Tryz.prog 16 #[v, .int .i64 z] w (Gives (.int .i64 (if (wt (numsD xs) : Int) ≤ z then z - wt (numsD xs) else -1)) w) := by
  obtain ⟨A, c, rfl, hr⟩ := rds_flat h
  rw [wt_numsD]
  unfold maxLen at hn
  obtain ⟨n, hnn⟩ : ∃ n, n = xs.length := ⟨_, rfl⟩
  rw [← hnn] at hn ⊢
  clear h hr hnn
  by_cases hle : (n : Int) ≤ z
  · rw [if_pos hle]
    go_enter Tryz.func16, Tryz.ntmps16
    go_wp2
    go_ret
    exact ⟨rfl, Below.refl _ _⟩
  · rw [if_neg hle]
    go_enter Tryz.func16, Tryz.ntmps16
    go_wp2
    go_ret
    exact ⟨rfl, Below.refl _ _⟩
/-- A struct's marks reach what its cells lead to, not the cells. -/
def mkT : List Dc → Int → List Dc
  | [], _ => []
  | .val v :: ds, k => .val v :: mkT ds k
  | .row E s n cs :: ds, k => mk (.row E s n cs) k :: mkT ds (k + cntL cs)
def cntT : List Dc → Nat
  | [] => 0
  | .val _ :: ds => cntT ds
  | .row _ _ _ cs :: ds => cntL cs + cntT ds
def MarkL (ds : List Dc) (k : Int) (base : Nat) (vs : List Value) (bs : List Nat) (w : World) (e : Ending) (w' : World) : Prop := e = .returned (.int .i64 (k + cntT ds)) ∧ OwnsL w' base (mkT ds k) vs bs ∧ Turned w w' bs
/-- A variable of the call's own: its cells as they lie there. -/
def varD (T size : Nat) (cs : List Value) : Dc := .row T size 1 (cs.map Dc.val)
theorem vals_own (w : World) (lo : Nat) : ∀ cs : List Value, OwnsL w lo (cs.map Dc.val) cs []
  | [] => by simp [OwnsL]
  | c :: cs => by simp only [List.map_cons, OwnsL]; exact ⟨c, cs, [], [], rfl, by simp [Owns], vals_own w lo cs, rfl⟩
theorem var_owns (w : World) (T size : Nat) (cs : List Value) (hl : cs.length = size) : Owns (w.alloc (.cells cs.toArray T)) w.heap.size (varD T size cs) (.slice (some ⟨w.heap.size, 0, none⟩) 1 1) [w.heap.size] := by
  have h := w.ownsRow_lit (base := w.heap.size) (size := size) (e := T) cs.toArray 1 (Nat.le_refl _) (by unfold maxLen; omega) (by simp [hl])
  unfold varD
  simp only [Owns]
  exact ⟨cs, [], .of (by simpa using h), vals_own _ _ _, by simp [Value.ownBlock]⟩
theorem var_load {w : World} {lo T size g : Nat} {cs : List Value} {bs : List Nat} (h : Owns w lo (varD T size cs) (.slice (some ⟨g, 0, none⟩) 1 1) bs) (hn : bs.Nodup) (j : Nat) (u : Value) (hj : cs[j]? = some u) : w.cell? ⟨g, j, none⟩ = some u := by
  obtain ⟨g', o', x, b1, e, _, _, hc, _, ho, _⟩ := owns_at h hn (p := j) (d := .val u) (by rw [List.getElem?_map, hj]; rfl)
  injection e with e; injection e with e eo _; subst e eo
  rw [Nat.zero_add] at hc
  rw [hc, (owns_val ho).1]
theorem var_frozen {w : World} {lo T size g : Nat} {cs : List Value} {bs : List Nat} (h : Owns w lo (varD T size cs) (.slice (some ⟨g, 0, none⟩) 1 1) bs) (hn : bs.Nodup) (j : Nat) (u : Value) (hj : cs[j]? = some u) : w.frozen? ⟨g, j, none⟩ = false := by
  obtain ⟨g', o', x, b1, e, _, _, _, hf, _⟩ := owns_at h hn (p := j) (d := .val u) (by rw [List.getElem?_map, hj]; rfl)
  injection e with e; injection e with e eo _; subst e eo
  rw [Nat.zero_add] at hf
  exact hf
theorem var_lt {w : World} {lo T size g : Nat} {cs : List Value} {bs : List Nat} (h : Owns w lo (varD T size cs) (.slice (some ⟨g, 0, none⟩) 1 1) bs) : g < w.heap.size := by
  obtain ⟨vs, b2, ho, _⟩ := owns_row h
  exact (ho.lt g rfl).2
theorem made_in {w' : World} {lo : Nat} {d : Dc} {v : Value} {bs : List Nat} (h : Owns w' lo d v bs) : ∀ b, b ∈ bs → lo ≤ b ∧ b < w'.heap.size := owns_in d v bs h
theorem madeL_in {w' : World} {lo : Nat} {ds : List Dc} {vs : List Value} {bs : List Nat} (h : OwnsL w' lo ds vs bs) : ∀ b, b ∈ bs → lo ≤ b ∧ b < w'.heap.size := ownsL_in ds vs bs h
theorem rds_slice {w : World} {hi E size n : Nat} {cs : List Dc} {v : Value} (h : Rds w hi (.row E size n cs) v) : ∃ A c, v = .slice A n c := by
  obtain ⟨A, c, vs, rfl, _⟩ := rds_row h
  exact ⟨A, c, rfl⟩
theorem owns_slice {w : World} {lo E size n : Nat} {cs : List Dc} {v : Value} {bs : List Nat} (h : Owns w lo (.row E size n cs) v bs) : ∃ A c, v = .slice A n c := rds_slice (owns_rds _ _ _ h)
theorem wt_int (k : IntKind) (x : Int) : Dm.wt (.val (.int k x)) = 0 := rfl
theorem wt_bool (b : Bool) : Dm.wt (.val (.bool b)) = 0 := rfl
theorem wt_str (s : ByteArray) : Dm.wt (.val (.string s)) = s.size := rfl
def tyI64 : Ty := .slice 3 3 (.int .i64)
/-- Cells of a block set one behind the other. -/
def setAll (w : World) (g : Nat) : Nat → List Value → World
  | _, [] => w
  | j, x :: xs => setAll (w.setCell ⟨g, j, none⟩ x) g (j + 1) xs
theorem var_set {w : World} {lo T size g j : Nat} {cs : List Value} (h : Owns w lo (varD T size cs) (.slice (some ⟨g, 0, none⟩) 1 1) [g]) (hj : j < cs.length) (x : Value) :
    Owns (w.setCell ⟨g, j, none⟩ x) lo (varD T size (cs.set j x)) (.slice (some ⟨g, 0, none⟩) 1 1) [g] ∧ Turned w (w.setCell ⟨g, j, none⟩ x) [g] := by
  obtain ⟨g', o', u, b1, e, _, _, _, _, ho, _, _, hs⟩ := owns_at h (by simp) (p := j) (d := .val cs[j]) (by rw [List.getElem?_map, List.getElem?_eq_getElem hj]; rfl)
  injection e with e; injection e with e eo _; subst e eo
  rw [Nat.zero_add] at hs
  obtain ⟨rfl, rfl⟩ := owns_val ho
  have h1 := hs rfl x
  unfold varD at h1 ⊢
  rw [← List.map_set] at h1
  exact h1
theorem var_some {lo T size g : Nat} : ∀ (ds : List Value) (j : Nat) (cs : List Value) (w : World), Owns w lo (varD T size cs) (.slice (some ⟨g, 0, none⟩) 1 1) [g] → j + ds.length ≤ cs.length →
    Owns (setAll w g j ds) lo (varD T size (cs.take j ++ ds ++ cs.drop (j + ds.length))) (.slice (some ⟨g, 0, none⟩) 1 1) [g] ∧ Turned w (setAll w g j ds) [g]
  | [], j, cs, w, h, _ => by
    simp only [List.append_nil, List.length_nil, Nat.add_zero, List.take_append_drop]
    exact ⟨h, turned_refl _ _⟩
  | x :: ds, j, cs, w, h, hl => by
    simp only [List.length_cons] at hl
    obtain ⟨h1, t1⟩ := var_set h (j := j) (by omega) x
    obtain ⟨h2, t2⟩ := var_some ds (j + 1) (cs.set j x) _ h1 (by rw [List.length_set]; omega)
    refine ⟨?_, turned_trans t1 t2⟩
    have e : (cs.set j x).take (j + 1) ++ ds ++ (cs.set j x).drop (j + 1 + ds.length) = cs.take j ++ (x :: ds) ++ cs.drop (j + (x :: ds).length) := by
      have hj : j < cs.length := by omega
      rw [List.take_succ_eq_append_getElem (by rw [List.length_set]; exact hj), List.take_set_of_le (Nat.le_refl _), List.getElem_set_self, List.drop_set_of_lt (by omega)]
      simp only [List.append_assoc, List.cons_append, List.nil_append, List.length_cons]
      congr 4
      omega
    rw [e] at h2
    exact h2
theorem nodup_app {a b : List Nat} {m : Nat} (ha : a.Nodup) (hb : b.Nodup) (h1 : ∀ x, x ∈ a → x < m) (h2 : ∀ x, x ∈ b → m ≤ x) : (a ++ b).Nodup :=
  List.nodup_append.2 ⟨ha, hb, fun x hx y hy e => by subst e; have := h1 x hx; have := h2 x hy; omega⟩
/-- A row. -/
def isRow : Dc → Prop
  | .val _ => False
  | .row _ _ _ _ => True
theorem mkT_val (v : Value) (ds : List Dc) (k : Int) : mkT (.val v :: ds) k = .val v :: mkT ds k := by simp [mkT]
theorem mkT_of {d : Dc} (h : isRow d) (ds : List Dc) (k : Int) : mkT (d :: ds) k = mk d k :: mkT ds (k + cnt d) := by
  cases d with
  | val v => exact h.elim
  | row E s n cs => simp [mkT, cnt]
theorem cntT_val (v : Value) (ds : List Dc) : cntT (.val v :: ds) = cntT ds := by simp [cntT]
theorem cntT_of {d : Dc} (h : isRow d) (ds : List Dc) : cntT (d :: ds) = cnt d + cntT ds := by
  cases d with
  | val v => exact h.elim
  | row E s n cs => simp [cntT, cnt]
theorem mk_row (E s n : Nat) (cs : List Dc) (k : Int) : mk (.row E s n cs) k = .row E s n (mkL cs k) := by simp only [mk]
theorem marked_slice {w : World} {hi E size n : Nat} {cs : List Dc} {k : Int} {v : Value} (h : Rds w hi (mk (.row E size n cs) k) v) : ∃ A c, v = .slice A n c := by
  rw [mk_row] at h
  exact rds_slice h
theorem ownsL_one {w : World} {lo : Nat} {d : Dc} {v : Value} {bs : List Nat} (h : Owns w lo d v bs) : OwnsL w lo [d] [v] bs := by
  simp only [OwnsL]
  exact ⟨v, [], bs, [], rfl, h, ⟨rfl, rfl⟩, by simp⟩
theorem nodup_last {a : List Nat} {l m : Nat} (na : a.Nodup) (ha : ∀ x, x ∈ a → l ≤ x ∧ x < m) : a.Nodup ∧ ∀ x, x ∈ a → l ≤ x := ⟨na, fun x hx => (ha x hx).1⟩
theorem nodup_step {a b : List Nat} {l m l2 : Nat} (na : a.Nodup) (ha : ∀ x, x ∈ a → l ≤ x ∧ x < m) (hb : b.Nodup ∧ ∀ x, x ∈ b → l2 ≤ x) (h : m ≤ l2) (hl : l ≤ l2) : (a ++ b).Nodup ∧ ∀ x, x ∈ a ++ b → l ≤ x :=
  ⟨nodup_app na hb.1 (fun x hx => (ha x hx).2) (fun x hx => Nat.le_trans h (hb.2 x hx)), fun x hx => by
    rcases List.mem_append.1 hx with hx | hx
    · exact (ha x hx).1
    · exact Nat.le_trans hl (hb.2 x hx)⟩
/-! Slices of structs, what serves every type. -/
theorem row_some {base E size n c g : Nat} : ∀ (ds : List Value) (p : Nat) (vs : List Value) (w : World), w.ownsRow base E size (.slice (some ⟨g, 0, none⟩) n c) n vs → p + ds.length ≤ vs.length →
    (setAll w g p ds).ownsRow base E size (.slice (some ⟨g, 0, none⟩) n c) n (vs.take p ++ ds ++ vs.drop (p + ds.length)) ∧ w.grownBy (setAll w g p ds) (some g)
  | [], p, vs, w, h, _ => by
    simp only [List.append_nil, List.length_nil, Nat.add_zero, List.take_append_drop]
    exact ⟨h, ⟨rfl, rfl, rfl, Nat.le_refl _, fun _ _ _ => rfl⟩⟩
  | x :: ds, p, vs, w, h, hl => by
    simp only [List.length_cons] at hl
    obtain ⟨h1, g1⟩ := h.stored p x
    obtain ⟨h2, g2⟩ := row_some ds (p + 1) (vs.set p x) _ h1 (by rw [List.length_set]; omega)
    refine ⟨?_, g1.trans g2⟩
    have e : (vs.set p x).take (p + 1) ++ ds ++ (vs.set p x).drop (p + 1 + ds.length) = vs.take p ++ (x :: ds) ++ vs.drop (p + (x :: ds).length) := by
      have hj : p < vs.length := by omega
      rw [List.take_succ_eq_append_getElem (by rw [List.length_set]; exact hj), List.take_set_of_le (Nat.le_refl _), List.getElem_set_self, List.drop_set_of_lt (by omega)]
      simp only [List.append_assoc, List.cons_append, List.nil_append, List.length_cons]
      congr 4
      omega
    rw [e] at h2
    exact h2
theorem fill_many {E size n : Nat} {w wr w2 : World} {ds es : List Dc} {left p m : Nat} {vals : List Value} {b2 : List Nat} (h : Bs.Fill E size n w ds (left + m) wr) (hp : ds.length = p) (hb : Below wr.heap.size wr w2) (h2 : OwnsL w2 wr.heap.size es vals b2) (n2 : b2.Nodup) (hm : vals.length = m) :
    Bs.Fill E size n w (ds ++ es) left (setAll w2 w.heap.size p vals) := by
  obtain ⟨vp, tail, bs, ho, ht, hl, hn, hbw⟩ := h
  have hlen : vp.length = p := by rw [ownsL_len hl, hp]
  have hlo : w.heap.size + 1 ≤ wr.heap.size := by have := (ho.lt w.heap.size rfl).2; omega
  obtain ⟨k1, k2⟩ := Bs.append_blocks hl hn hb h2 n2 hlo
  have ho0 := own_below ho hb
  obtain ⟨s1, g1⟩ := row_some vals p _ _ ho0 (by rw [List.length_append]; omega)
  have e1 : (vp ++ tail).take p = vp := by rw [← hlen, List.take_left]
  have e2 : (vp ++ tail).drop (p + vals.length) = tail.drop vals.length := by rw [← hlen, ← List.drop_drop, List.drop_left]
  rw [e1, e2] at s1
  refine ⟨vp ++ vals, tail.drop vals.length, bs ++ b2, s1, by rw [List.length_drop]; omega, ?_, k2, ?_⟩
  · refine ownsL_keep _ _ _ k1 (fun b hb => g1.block b ?_ ?_)
    · exact (ownsL_in _ _ _ k1 b hb).2
    · intro e
      have := (ownsL_in _ _ _ k1 b hb).1
      injection e with e
      omega
  · exact below_turned (hbw.trans (hb.mono hbw.size)) (turned_grown g1) (fun b hb => by simp at hb; omega)
theorem piece_at {α : Type} {f : α → List Dc} {m : Nat} (hlen : ∀ x, (f x).length = m) (hm : 0 < m) {w : World} {hi E nn k n c : Nat} {A : Option Addr} {l : List α} {x : α}
    (h : Rds w hi (.row E m nn (l.flatMap f)) (.slice A n c)) (e : l[k]? = some x) :
    ∃ g off vs, A = some ⟨g, off, none⟩ ∧ g < hi ∧ RdsL w hi (f x) vs ∧ ∀ j v, vs[j]? = some v → w.cell? ⟨g, off + k * m + j, none⟩ = some v := by
  obtain ⟨A', c', vs, ev, hr, hl⟩ := rds_row h
  injection ev with e1 e2 e3
  subst e1 e2 e3
  have hkl : k < l.length := (List.getElem?_eq_some_iff.1 e).1
  have hsz : vs.length = l.length * m := by rw [rdsL_len hl, flat_len hlen]
  have hvn : vs.length = n * m := hr.1
  have hln : n = l.length := Nat.eq_of_mul_eq_mul_right hm (by omega)
  obtain ⟨g, off, rfl, hg, hc⟩ := hr.2 (by omega)
  -- the list of data, split at the piece
  have split : ∀ (l : List α) (k : Nat) (vs : List Value), l[k]? = some x → RdsL w hi (l.flatMap f) vs → ∃ us, RdsL w hi (f x) us ∧ ∀ j v, us[j]? = some v → vs[k * m + j]? = some v := by
    intro l
    induction l with
    | nil => intro k vs e _; simp at e
    | cons y l ih =>
      intro k vs e h
      rw [List.flatMap_cons] at h
      have app : ∀ (ds es : List Dc) (vs : List Value), RdsL w hi (ds ++ es) vs → ∃ a b, vs = a ++ b ∧ RdsL w hi ds a ∧ RdsL w hi es b := by
        intro ds
        induction ds with
        | nil => intro es vs h; exact ⟨[], vs, rfl, by simp [RdsL], h⟩
        | cons d ds ihd =>
          intro es vs h
          simp only [List.cons_append, RdsL] at h
          obtain ⟨v, vs', rfl, h1, h2⟩ := h
          obtain ⟨a, b, rfl, k1, k2⟩ := ihd es vs' h2
          exact ⟨v :: a, b, rfl, by simp only [RdsL]; exact ⟨v, a, rfl, h1, k1⟩, k2⟩
      obtain ⟨a, b, rfl, ha, hb⟩ := app _ _ _ h
      have hal : a.length = m := by rw [rdsL_len ha, hlen]
      cases k with
      | zero =>
        obtain rfl : y = x := by simpa using e
        refine ⟨a, ha, fun j v hv => ?_⟩
        have hj : j < a.length := (List.getElem?_eq_some_iff.1 hv).1
        rw [Nat.zero_mul, Nat.zero_add, List.getElem?_append_left hj]
        exact hv
      | succ k =>
        obtain ⟨us, h1, h2⟩ := ih k b (by simpa using e) hb
        refine ⟨us, h1, fun j v hv => ?_⟩
        rw [List.getElem?_append_right (by rw [hal, Nat.add_mul]; omega), hal]
        have : (k + 1) * m + j - m = k * m + j := by rw [Nat.add_mul]; omega
        rw [this]
        exact h2 j v hv
  obtain ⟨us, h1, h2⟩ := split l k vs e hl
  refine ⟨g, off, us, rfl, hg, h1, fun j v hv => ?_⟩
  have hj : j < m := by have := (List.getElem?_eq_some_iff.1 hv).1; rw [rdsL_len h1, hlen] at this; exact this
  have hb : k * m + j < n * m := by
    have h3 : (k + 1) * m ≤ n * m := Nat.mul_le_mul_right _ (by omega)
    rw [Nat.add_mul] at h3
    omega
  rw [Nat.add_assoc, hc _ hb]
  exact h2 j v hv
theorem wt_mem {α : Type} (f : α → List Dc) {l : List α} {x : α} (h : x ∈ l) : wtL (f x) ≤ wtL (l.flatMap f) := by
  induction l with
  | nil => cases h
  | cons y l ih =>
    rw [List.flatMap_cons, wtL_app]
    rcases List.mem_cons.1 h with rfl | h
    · omega
    · have := ih h; omega
theorem cnt_flatMap {α : Type} (f : α → List Dc) (hf : ∀ x, cntL (f x) ≤ 64 + 64 * wtL (f x)) : ∀ l : List α, cntL (l.flatMap f) ≤ 64 * (l.length + wtL (l.flatMap f))
  | [] => by simp [cntL]
  | x :: l => by
    rw [List.flatMap_cons, cntL_app, wtL_app, List.length_cons]
    have h1 := hf x
    have h2 := cnt_flatMap f hf l
    omega
theorem take_next {α : Type} {f : α → List Dc} {l : List α} {k : Nat} {x : α} (h : l[k]? = some x) : (l.take (k + 1)).flatMap f = (l.take k).flatMap f ++ f x := by
  obtain ⟨hl2, e2⟩ := List.getElem?_eq_some_iff.1 h
  rw [List.take_succ_eq_append_getElem hl2, e2]; simp
theorem wt_next {α : Type} {f : α → List Dc} {l : List α} {k : Nat} {x : α} (h : l[k]? = some x) : wtL ((l.take (k + 1)).flatMap f) = wtL ((l.take k).flatMap f) + wtL (f x) := by rw [take_next h, wtL_app]
theorem wt_split {α : Type} {f : α → List Dc} (l : List α) (k : Nat) : wtL (l.flatMap f) = wtL ((l.take k).flatMap f) + wtL ((l.drop k).flatMap f) := by rw [← wtL_app, ← List.flatMap_append, List.take_append_drop]
theorem kP_val {cs : List Dc} {k : Int} {p : Nat} {v : Value} (h : cs[p]? = some (.val v)) : kP cs k (p + 1) = kP cs k p + 1 := by
  rw [kP_step h]; rfl
section
variable {E size n base : Nat} {cs : List Dc} {k : Int} {m c : Nat} {bs : List Nat} {w wr : World} {p g off a : Nat}
theorem mkg_int {K x : Int} (hk : kP cs k p = K) (ha : off + p = a) (h : Mkg E size n base cs k (some ⟨g, off, none⟩) m c bs w p wr) (hp : cs[p]? = some (.val (.int .i64 x))) :
    wr.cell? ⟨g, a, none⟩ = some (.int .i64 x) ∧ wr.frozen? ⟨g, a, none⟩ = false ∧ Mkg E size n base cs k (some ⟨g, off, none⟩) m c bs w (p + 1) (wr.setCell ⟨g, a, none⟩ (.int .i64 K)) := by
  subst hk
  exact mkg_val ha h hp
theorem mkg_bool {K : Int} {x : Bool} (hk : kP cs k p = K) (ha : off + p = a) (h0 : 0 ≤ K) (h : Mkg E size n base cs k (some ⟨g, off, none⟩) m c bs w p wr) (hp : cs[p]? = some (.val (.bool x))) :
    wr.cell? ⟨g, a, none⟩ = some (.bool x) ∧ wr.frozen? ⟨g, a, none⟩ = false ∧ Mkg E size n base cs k (some ⟨g, off, none⟩) m c bs w (p + 1) (wr.setCell ⟨g, a, none⟩ (.bool (K % 3 == 0))) := by
  subst hk
  exact mkg_val ha h hp
theorem mkg_rowK {K : Int} {d : Dc} (hk : kP cs k p = K) (ha : off + p = a) (h : Mkg E size n base cs k (some ⟨g, off, none⟩) m c bs w p wr) (hp : cs[p]? = some d) :
    ∃ u b1, wr.cell? ⟨g, a, none⟩ = some u ∧ Owns wr base d u b1 ∧ b1.Nodup ∧ ∀ w', Owns w' base (mk d K) u b1 → Turned wr w' b1 → Mkg E size n base cs k (some ⟨g, off, none⟩) m c bs w (p + 1) w' := by
  subst hk
  exact mkg_row ha h hp
end
/-- The cells of a marked piece. -/
theorem held_at {α : Type} {f : α → List Dc} {m : Nat} (hlen : ∀ x, (f x).length = m) {w : World} {hi E nn j n c : Nat} {A : Option Addr} {l : List α} {x : α} {k : Int}
    (h : Rds w hi (mk (.row E m nn (l.flatMap f)) k) (.slice A n c)) (e : l[j]? = some x) (hm : 0 < m) :
    ∃ g off, A = some ⟨g, off, none⟩ ∧ g < hi ∧ ∀ i d, i < m → (f x)[i]? = some d → ∃ u, w.cell? ⟨g, off + j * m + i, none⟩ = some u ∧ Rds w hi (mk d (kP (l.flatMap f) k (j * m + i))) u := by
  obtain ⟨d0, hd0⟩ := get_some (f x) (i := 0) (by rw [hlen]; exact hm)
  have e0 := flat_at hlen l j x 0 e hm
  rw [hd0] at e0
  obtain ⟨g, off, u0, rfl, hg, _, _⟩ := marked_at h e0
  refine ⟨g, off, rfl, hg, fun i d hi hd => ?_⟩
  have ei := flat_at hlen l j x i e hi
  rw [hd] at ei
  obtain ⟨_, _, u, ea, _, c1, r1⟩ := marked_at h ei
  injection ea with ea; injection ea with ea eb; subst ea eb
  exact ⟨u, by rw [Nat.add_assoc]; exact c1, r1⟩
theorem cnt_plain (v : Value) : cnt (.val v) = 1 := rfl
/-! What a call made, with plain results around it. -/
def MadeLx (ds : List Dc) (f : List Value → Value) (w : World) (e : Ending) (w' : World) : Prop := ∃ vs bs, e = .returned (f vs) ∧ OwnsL w' w.heap.size ds vs bs ∧ bs.Nodup ∧ Below w.heap.size w w'
def MadeDx (d : Dc) (f : Value → Value) (w : World) (e : Ending) (w' : World) : Prop := ∃ v bs, e = .returned (f v) ∧ Owns w' w.heap.size d v bs ∧ bs.Nodup ∧ Below w.heap.size w w'
section
variable {E size n base : Nat} {cs : List Dc} {k : Int} {m c : Nat} {bs : List Nat} {w wr w2 : World} {p g off a : Nat} {A : Option Addr}
end
end Go.Proofs.YtllaacdikjffmaaGreat.Fx

-- part Dv
/-
  Draws that keep variables of structs: what a cursor's draw leaves of them, and what setting them leaves of the cursor.
-/
namespace Go.Proofs.YtllaacdikjffmaaGreat.Dv
open Go.ChangeShapes Go.WideShapes Go.ChangeAt Go.RowKit
open C0 S0 S9 Dm Fx
set_option linter.unusedVariables false
theorem grown_alloc {w w' : World} {row : Option Nat} (h : w.grownBy w' row) (o : Obj) : w.grownBy (w'.alloc o) row := grown_trans h (World.grownBy_alloc w' o row)
theorem below_grown {w w' : World} {row : Option Nat} (b : Below w.heap.size w w') : w.grownBy w' row := ⟨b.os, b.tape, b.output, b.size, fun k hk _ => b.block k hk⟩
end Go.Proofs.YtllaacdikjffmaaGreat.Dv

-- part Ra
/-
  An append of numbers inside a region that draws its order, whatever is appended (nil and empty too).
-/
namespace Go.Proofs.YtllaacdikjffmaaGreat.Ra
open Go.ChangeShapes Go.WideShapes Go.ChangeAt Go.RowKit
open S0 S1
set_option linter.unusedVariables false
set_option maxRecDepth 100000
/-- Rows of the call's own, each in a block of its own. -/
def Far (v u : Value) : Prop := ∀ j, v.ownBlock = some j → u.ownBlock ≠ some j
theorem Far.symm {v u : Value} (h : Far v u) : Far u v := fun j hj hv => h j hv hj
end Go.Proofs.YtllaacdikjffmaaGreat.Ra

-- part Vn
/-
  A variable of a struct of two to six cells: what each cell holds, that none is frozen, and that it is there.
-/
namespace Go.Proofs.YtllaacdikjffmaaGreat.Vn
open S0 S9 Dm Fx
set_option linter.unusedVariables false
variable {w : World} {lo T g : Nat} {x0 x1 x2 x3 x4 x5 x6 x7 x8 x9 : Value}
theorem v2 (h : Owns w lo (varD T 2 [x0, x1]) (.slice (some ⟨g, 0, none⟩) 1 1) [g]) : w.cell? ⟨g, 0, none⟩ = some x0 ∧ w.frozen? ⟨g, 0, none⟩ = false ∧ w.cell? ⟨g, 1, none⟩ = some x1 ∧ w.frozen? ⟨g, 1, none⟩ = false ∧ g < w.heap.size :=
  ⟨var_load h (by simp) 0 _ rfl, var_frozen h (by simp) 0 _ rfl, var_load h (by simp) 1 _ rfl, var_frozen h (by simp) 1 _ rfl, var_lt h⟩
theorem v3 (h : Owns w lo (varD T 3 [x0, x1, x2]) (.slice (some ⟨g, 0, none⟩) 1 1) [g]) : w.cell? ⟨g, 0, none⟩ = some x0 ∧ w.frozen? ⟨g, 0, none⟩ = false ∧ w.cell? ⟨g, 1, none⟩ = some x1 ∧ w.frozen? ⟨g, 1, none⟩ = false ∧ w.cell? ⟨g, 2, none⟩ = some x2 ∧ w.frozen? ⟨g, 2, none⟩ = false ∧ g < w.heap.size :=
  ⟨var_load h (by simp) 0 _ rfl, var_frozen h (by simp) 0 _ rfl, var_load h (by simp) 1 _ rfl, var_frozen h (by simp) 1 _ rfl, var_load h (by simp) 2 _ rfl, var_frozen h (by simp) 2 _ rfl, var_lt h⟩
end Go.Proofs.YtllaacdikjffmaaGreat.Vn

-- part D2
/-
  Contracts of the draws of chapter 2: whatever the code, slices of bytes and numbers.
-/
namespace Go.Proofs.YtllaacdikjffmaaGreat.D2
open Go.ChangeShapes Go.WideShapes Go.ChangeAt Go.RowKit
open C0 S0 S1
set_option linter.unusedVariables false
def bytesOK (ys : List Int) : Prop := ∀ y ∈ ys, 0 ≤ y ∧ y ≤ 255
theorem bytesOK.add {ys : List Int} (h : bytesOK ys) {y : Int} (h0 : 0 ≤ y) (h1 : y ≤ 255) : bytesOK (ys ++ [y]) := by
  intro z hz
  rcases List.mem_append.1 hz with hz | hz
  · exact h z hz
  · obtain rfl : z = y := by simpa using hz
    exact ⟨h0, h1⟩
theorem bytesOK.nil : bytesOK [] := fun _ h => by cases h
theorem bytesOK.app {ys zs : List Int} (h : bytesOK ys) (h2 : bytesOK zs) : bytesOK (ys ++ zs) := by
  intro z hz
  rcases List.mem_append.1 hz with hz | hz
  · exact h z hz
  · exact h2 z hz
theorem grown_new {w a b : World} {B : Nat} {row : Option Nat} (h : w.grownBy a (some B)) (hg : a.grownBy b row) (hr : ∀ k, row = some k → w.heap.size ≤ k) : w.grownBy b (some B) :=
  ⟨hg.os.trans h.os, hg.tape.trans h.tape, hg.output.trans h.output, Nat.le_trans h.size hg.size, fun k hk hne => (hg.block k (Nat.lt_of_lt_of_le hk h.size) (fun e => by have := hr k e.symm; omega)).trans (h.block k hk hne)⟩
theorem grown_alloc {w a : World} {B : Nat} (h : w.grownBy a (some B)) (o : Obj) : w.grownBy (a.alloc o) (some B) := grown_new h (World.grownBy_alloc a o none) (fun _ e => by cases e)
/-- Within the draw: k bytes are there. -/
def Draws (P : List Int → Prop) (w : World) (B H0 k : Nat) (v : Value) (wr : World) : Prop :=
  ∃ ys, P ys ∧ ys.length = k ∧ wr.ownsRow w.heap.size 5 1 v k (ints .u8 ys) ∧ IsCur wr B H0 ∧ w.grownBy wr (some B)
/-- What is owned anew stays while the cursor moves; and the other way. -/
theorem own_cur {w wr w1 : World} {B H0 n : Nat} {E : TypeId} {v : Value} {xs : List Value} (o : wr.ownsRow w.heap.size E 1 v n xs) (hB : B < w.heap.size) (hg : wr.grownBy w1 (some B)) : w1.ownsRow w.heap.size E 1 v n xs := by
  refine o.kept hg ?_
  cases h1 : v.ownBlock with
  | none => exact .inl rfl
  | some k =>
    right
    intro h2
    have := (o.lt k h1).1
    injection h2 with h2
    omega
theorem cur_own {w wr w1 : World} {B H0 n : Nat} {E : TypeId} {v : Value} {xs : List Value} (o : wr.ownsRow w.heap.size E 1 v n xs) (hB : B < w.heap.size) (hH : H0 ≤ w.heap.size) (C : IsCur wr B H0) (hg : wr.grownBy w1 v.ownBlock) : IsCur w1 B H0 := by
  refine C.kept hg (fun e => ?_) (fun r e => ?_)
  · have := (o.lt B e).1; omega
  · have := (o.lt r e).1; omega
theorem Draws.next {w wr w1 w2 : World} {B H0 k : Nat} {v v2 : Value} {ys : List Int} {y : Int} {t : TypeId} (hp : bytesOK ys) (hk : ys.length = k) (ho : wr.ownsRow w.heap.size 5 1 v k (ints .u8 ys)) (hB : B < w.heap.size) (hH : H0 ≤ w.heap.size) (hg : w.grownBy wr (some B)) (h0 : 0 ≤ y) (h1 : y ≤ 255)
    (C1 : IsCur w1 B H0) (hg1 : wr.grownBy w1 (some B)) (ho2 : w2.ownsRow w.heap.size 5 1 v2 (k + 1) (ints .u8 ys ++ [.int .u8 y])) (hg2 : (w1.alloc (.cells #[.int .u8 y] t)).grownBy w2 v.ownBlock) : Draws bytesOK w B H0 (k + 1) v2 w2 := by
  have ho1 := (own_cur (H0 := H0) ho hB hg1).alloc (.cells #[.int .u8 y] t)
  refine ⟨ys ++ [y], hp.add h0 h1, by simp [hk], ?_, cur_own ho1 hB hH (C1.alloc _) hg2, ?_⟩
  · have : ints .u8 (ys ++ [y]) = ints .u8 ys ++ [.int .u8 y] := by simp [ints]
    rw [this]; exact ho2
  · exact grown_new (grown_alloc (grown_trans hg hg1) _) hg2 (fun k hk => (ho1.lt k hk).1)
end Go.Proofs.YtllaacdikjffmaaGreat.D2

-- part D3
/-
  Contracts of the draws of chapter 3: a number about Modulus, a list of such, a key and what it goes with.
-/
namespace Go.Proofs.YtllaacdikjffmaaGreat.D3
open Go.ChangeShapes Go.WideShapes Go.ChangeAt Go.RowKit
open C0 S0 S1 D2
set_option linter.unusedVariables false
def isWord (x : Int) : Prop := -1 ≤ x ∧ x ≤ 2147483648
def words (ys : List Int) : Prop := ∀ y ∈ ys, isWord y
theorem words.add {ys : List Int} (h : words ys) {y : Int} (hy : isWord y) : words (ys ++ [y]) := by
  intro z hz
  rcases List.mem_append.1 hz with hz | hz
  · exact h z hz
  · obtain rfl : z = y := by simpa using hz
    exact hy
theorem words.nil : words [] := fun _ h => by cases h
def DrawsI (P : List Int → Prop) (w : World) (B H0 k : Nat) (v : Value) (wr : World) : Prop :=
  ∃ ys, P ys ∧ ys.length = k ∧ wr.ownsRow w.heap.size 3 1 v k (ints .i64 ys) ∧ IsCur wr B H0 ∧ w.grownBy wr (some B)
theorem DrawsI.next {w wr w1 w2 : World} {B H0 k : Nat} {v v2 : Value} {ys : List Int} {y : Int} {t : TypeId} (hp : words ys) (hk : ys.length = k) (ho : wr.ownsRow w.heap.size 3 1 v k (ints .i64 ys)) (hB : B < w.heap.size) (hH : H0 ≤ w.heap.size) (hg : w.grownBy wr (some B)) (hy : isWord y)
    (C1 : IsCur w1 B H0) (hg1 : wr.grownBy w1 (some B)) (ho2 : w2.ownsRow w.heap.size 3 1 v2 (k + 1) (ints .i64 ys ++ [.int .i64 y])) (hg2 : (w1.alloc (.cells #[.int .i64 y] t)).grownBy w2 v.ownBlock) : DrawsI words w B H0 (k + 1) v2 w2 := by
  have ho1 := (own_cur (H0 := H0) ho hB hg1).alloc (.cells #[.int .i64 y] t)
  refine ⟨ys ++ [y], hp.add hy, by simp [hk], ?_, cur_own ho1 hB hH (C1.alloc _) hg2, ?_⟩
  · have : ints .i64 (ys ++ [y]) = ints .i64 ys ++ [.int .i64 y] := by simp [ints]
    rw [this]; exact ho2
  · exact grown_new (grown_alloc (grown_trans hg hg1) _) hg2 (fun k hk => (ho1.lt k hk).1)
end Go.Proofs.YtllaacdikjffmaaGreat.D3
