import Derived.Test.YtllaacdikjffmaaGreatBb
import Derived.Deep.MidRow
import Derived.Laws.Tables
import Derived.Orders
import Derived.Laws.Entries
import Derived.Laws.Slices
import Derived.Laws.IdiomCopy
import Derived.Laws.StructEq
-- part E0
/-
  Data read in the memory that came in, with the shapes of their slices (no longer than their room).
-/
namespace Go.Proofs.YtllaacdikjffmaaGreat.E0
open Go.ChangeShapes Go.WideShapes Go.ChangeAt Go.RowKit
open S0 S1 S9
set_option linter.unusedVariables false
mutual
def Shs (w : World) (hi : Nat) : Dc → Value → Prop
  | .val u, v => v = u
  | .row E size n cs, v => ∃ A c vs, v = .slice A n c ∧ Rd w hi size A n vs ∧ ShsL w hi cs vs ∧ Sh A n c
def ShsL (w : World) (hi : Nat) : List Dc → List Value → Prop
  | [], vs => vs = []
  | d :: ds, vs => ∃ v vs', vs = v :: vs' ∧ Shs w hi d v ∧ ShsL w hi ds vs'
end
section
variable {w w' : World} {hi hi' lo lo' : Nat}
mutual
theorem shs_rds : ∀ (d : Dc) (v : Value), Shs w hi d v → Rds w hi d v
  | .val u, v, h => by simpa only [Shs, Rds] using h
  | .row E size n cs, v, h => by
    simp only [Shs] at h
    simp only [Rds]
    obtain ⟨A, c, vs, e, hr, hl, _⟩ := h
    exact ⟨A, c, vs, e, hr, shsL_rdsL cs vs hl⟩
theorem shsL_rdsL : ∀ (ds : List Dc) (vs : List Value), ShsL w hi ds vs → RdsL w hi ds vs
  | [], vs, h => by simpa only [ShsL, RdsL] using h
  | d :: ds, vs, h => by
    simp only [ShsL] at h
    simp only [RdsL]
    obtain ⟨v, vs', e, h1, h2⟩ := h
    exact ⟨v, vs', e, shs_rds d v h1, shsL_rdsL ds vs' h2⟩
end
mutual
theorem shs_keep (hk : ∀ k, k < hi → w'.heap[k]? = w.heap[k]?) (hh : hi ≤ hi') : ∀ (d : Dc) (v : Value), Shs w hi d v → Shs w' hi' d v
  | .val u, v, h => by simpa only [Shs] using h
  | .row E size n cs, v, h => by
    simp only [Shs] at h ⊢
    obtain ⟨A, c, vs, e, hr, hl, hs⟩ := h
    exact ⟨A, c, vs, e, (hr.keep hk).more hh, shsL_keep hk hh cs vs hl, hs⟩
theorem shsL_keep (hk : ∀ k, k < hi → w'.heap[k]? = w.heap[k]?) (hh : hi ≤ hi') : ∀ (ds : List Dc) (vs : List Value), ShsL w hi ds vs → ShsL w' hi' ds vs
  | [], vs, h => by simpa only [ShsL] using h
  | d :: ds, vs, h => by
    simp only [ShsL] at h ⊢
    obtain ⟨v, vs', e, h1, h2⟩ := h
    exact ⟨v, vs', e, shs_keep hk hh d v h1, shsL_keep hk hh ds vs' h2⟩
end
theorem shs_on {d : Dc} {v : Value} (h : Shs w w.heap.size d v) (hb : Below w.heap.size w w') : Shs w' w'.heap.size d v := shs_keep hb.block hb.size d v h
theorem shsL_on {ds : List Dc} {vs : List Value} (h : ShsL w w.heap.size ds vs) (hb : Below w.heap.size w w') : ShsL w' w'.heap.size ds vs := shsL_keep hb.block hb.size ds vs h
mutual
theorem owns_shs : ∀ (d : Dc) (v : Value) (bs : List Nat), Owns w lo d v bs → Shs w w.heap.size d v
  | .val u, v, bs, h => by simp only [Owns] at h; simp only [Shs]; exact h.1
  | .row E size n cs, v, bs, h => by
    simp only [Owns] at h
    simp only [Shs]
    obtain ⟨vs, b2, ho, hl, _⟩ := h
    obtain ⟨A, c, rfl⟩ := ho.nil_form
    exact ⟨A, c, vs, rfl, ho.rd, ownsL_shsL cs vs b2 hl, ho.sh⟩
theorem ownsL_shsL : ∀ (ds : List Dc) (vs : List Value) (bs : List Nat), OwnsL w lo ds vs bs → ShsL w w.heap.size ds vs
  | [], vs, bs, h => by simp only [OwnsL] at h; simp only [ShsL]; exact h.1
  | d :: ds, vs, bs, h => by
    simp only [OwnsL] at h
    simp only [ShsL]
    obtain ⟨v, vs', b1, b2, e, h1, h2, _⟩ := h
    exact ⟨v, vs', e, owns_shs d v b1 h1, ownsL_shsL ds vs' b2 h2⟩
end
end
end Go.Proofs.YtllaacdikjffmaaGreat.E0

-- part E1
/-
  A symbolic run of a function's code, reckoned by the kernel: data as the run sees it, the state, what a state says of a frame and a world.
-/
namespace Go.Proofs.YtllaacdikjffmaaGreat.E1
open Go.ChangeShapes Go.WideShapes Go.ChangeAt Go.RowKit
open S0 S1 S9 E0
set_option linter.unusedVariables false
set_option maxRecDepth 100000
/-- A datum: a plain value, or a slice of n elements, each of 'size' cells: cell j of element i is 'el i j'. -/
inductive Da
  | val (u : Value)
  | row (E : TypeId) (size n : Nat) (el : Nat → Nat → Da)
/-- The same as a datum of flat cells. -/
def Da.dc : Da → Dc
  | .val u => .val u
  | .row E s n el => .row E s n ((List.range (n * s)).map fun q => (el (q / s) (q % s)).dc)
/-- A cell of the run: a plain value; a value that reads as a datum in the memory that came in; a slice of an object of the run's own; an address in a variable of the run's own; an address in an element (cell f of element i) of an old row, of an own one. -/
inductive Sc
  | val (u : Value)
  | old (d : Da)
  | own (o : Nat)
  | ptr (o off : Nat)
  | eld (d : Da) (i f : Nat)
  | elo (o s i f : Nat)
/-- A slot: one cell, a struct (or array) of cells, a tuple; nothing known. -/
inductive AV
  | one (c : Sc)
  | agg (cs : List Sc)
  | tup (vs : List (Bool × List Sc))
  | no
/-- An object of the run's own: not there yet, no more, a variable (its cells), a slice with all that it reaches. -/
inductive Ob
  | un
  | gone
  | var (T : TypeId) (cs : List Sc)
  | own (d : Da)
  | abs (φ : Value → List Nat → World → Prop)
  | tab (k : Nat) (ps : List Int) (φ : Nat → List Int → Value → List Nat → World → Prop)
structure St where
  slots : List AV
  obs : Nat → Ob
def upd {α : Type} (f : Nat → α) (o : Nat) (x : α) : Nat → α := fun q => match Nat.beq q o with | true => x | false => f q
theorem upd_same {α : Type} (f : Nat → α) (o : Nat) (x : α) : upd f o x o = x := by unfold upd; rw [Nat.beq_refl]
theorem upd_ne {α : Type} (f : Nat → α) {o q : Nat} (x : α) (h : q ≠ o) : upd f o x q = f q := by
  unfold upd
  cases hb : Nat.beq q o with
  | true => exact absurd (Nat.eq_of_beq_eq_true hb) h
  | false => rfl
/-- The objects' roots (a variable's address, a slice's value) and their blocks. -/
abbrev Roots := Nat → Option (Value × List Nat)
def ScOK (ρ : Roots) (W0 : World) : Sc → Value → Prop
  | .val u, v => v = u
  | .old d, v => Shs W0 W0.heap.size d.dc v
  | .own o, v => v.oneCell' = true ∧ ∃ bs, ρ o = some (v, bs)
  | .ptr o off, v => ∃ b bs, ρ o = some (.pointer (some ⟨b, 0, none⟩), bs) ∧ v = .pointer (some ⟨b, off, none⟩)
  | .eld (.val _) _ _, _ => False
  | .eld (.row E s n el) i f, v => ∃ b off c, Shs W0 W0.heap.size (Da.row E s n el).dc (.slice (some ⟨b, off, none⟩) n c) ∧ i < n ∧ v = .pointer (some ⟨b, off + (i * s + f), none⟩)
  | .elo o s i f, v => ∃ b off n c bs, ρ o = some (.slice (some ⟨b, off, none⟩) n c, bs) ∧ i < n ∧ v = .pointer (some ⟨b, off + (i * s + f), none⟩)
def CsOK (ρ : Roots) (W0 : World) : List Sc → List Value → Prop
  | [], vs => vs = []
  | c :: cs, vs => ∃ v vs', vs = v :: vs' ∧ ScOK ρ W0 c v ∧ CsOK ρ W0 cs vs'
def GrpOK (ρ : Roots) (W0 : World) (p : Bool × List Sc) (v : Value) : Prop :=
  if p.1 = true then ∃ vs, v = .agg vs.toArray ∧ CsOK ρ W0 p.2 vs else CsOK ρ W0 p.2 [v]
def TsOK (ρ : Roots) (W0 : World) : List (Bool × List Sc) → List Value → Prop
  | [], vs => vs = []
  | p :: ps, vs => ∃ v vs', vs = v :: vs' ∧ GrpOK ρ W0 p v ∧ TsOK ρ W0 ps vs'
def AvOK (ρ : Roots) (W0 : World) : AV → Value → Prop
  | .one c, v => ScOK ρ W0 c v
  | .agg cs, v => ∃ vs, v = .agg vs.toArray ∧ CsOK ρ W0 cs vs
  | .tup ts, v => ∃ vs, v = .tuple vs.toArray ∧ TsOK ρ W0 ts vs
  | .no, _ => True
def ObOK (ρ : Roots) (W0 w : World) (o : Nat) : Ob → Prop
  | .un => ρ o = none
  | .gone => ∃ r, ρ o = some (r, [])
  | .var T cs => ∃ b vs, ρ o = some (.pointer (some ⟨b, 0, none⟩), [b]) ∧ W0.heap.size ≤ b ∧ w.heap[b]? = some (.cells vs.toArray T (0, 0)) ∧ CsOK ρ W0 cs vs
  | .own d => ∃ r bs, ρ o = some (r, bs) ∧ Owns w W0.heap.size d.dc r bs
  | .abs φ => ∃ r bs, ρ o = some (r, bs) ∧ φ r bs w ∧ (∀ b, b ∈ bs → W0.heap.size ≤ b ∧ b < w.heap.size) ∧ ∀ w1 w2 : World, (∀ b, b ∈ bs → w2.heap[b]? = w1.heap[b]?) → φ r bs w1 → φ r bs w2
  | .tab k ps φ => ∃ r bs, ρ o = some (r, bs) ∧ φ k ps r bs w ∧ (∀ b, b ∈ bs → W0.heap.size ≤ b ∧ b < w.heap.size) ∧ ∀ w1 w2 : World, (∀ b, b ∈ bs → w2.heap[b]? = w1.heap[b]?) → φ k ps r bs w1 → φ k ps r bs w2
/-- What the objects say of a world. -/
structure Mem (W0 : World) (obs : Nat → Ob) (ρ : Roots) (w : World) : Prop where
  below : Below W0.heap.size W0 w
  all : ∀ o, ObOK ρ W0 w o (obs o)
  apart : ∀ (o o' : Nat) (p p' : Value × List Nat), o ≠ o' → ρ o = some p → ρ o' = some p' → ∀ b, b ∈ p.2 → b ∉ p'.2
  nodup : ∀ (o : Nat) (p : Value × List Nat), ρ o = some p → p.2.Nodup
/-- What a state says of a frame and a world. -/
structure Sat (W0 : World) (s : St) (ρ : Roots) (a : Act) (w : World) : Prop where
  mem : Mem W0 s.obs ρ w
  size : a.tmps.size = s.slots.length
  slots : ∀ (i : Nat) (av : AV), s.slots[i]? = some av → AvOK ρ W0 av (a.tmps.getD i undef)
  defers : a.defers = []
/-- The roots of the one are roots of the other. -/
def Le (ρ ρ' : Roots) : Prop := ∀ (o : Nat) (v : Value) (bs : List Nat), ρ o = some (v, bs) → ∃ bs', ρ' o = some (v, bs')
theorem Le.refl (ρ : Roots) : Le ρ ρ := fun o v bs h => ⟨bs, h⟩
theorem Le.trans {ρ ρ' ρ'' : Roots} (h : Le ρ ρ') (k : Le ρ' ρ'') : Le ρ ρ'' := fun o v bs e => by
  obtain ⟨bs', e'⟩ := h o v bs e
  exact k o v bs' e'
theorem Le.upd (ρ : Roots) (o : Nat) (r : Value) (bs' : List Nat) (h : ∀ p, ρ o = some p → p.1 = r) : Le ρ (upd ρ o (some (r, bs'))) := fun q u cs e => by
  by_cases hq : q = o
  · subst hq
    have := h _ e
    exact ⟨bs', by rw [upd_same]; simp at this; rw [this]⟩
  · exact ⟨cs, by rw [upd_ne _ _ hq]; exact e⟩
section
variable {ρ ρ' : Roots} {W0 : World}
theorem sc_le (h : Le ρ ρ') : ∀ {c : Sc} {v : Value}, ScOK ρ W0 c v → ScOK ρ' W0 c v
  | .val _, _, k => k
  | .old _, _, k => k
  | .own o, v, ⟨h1, bs, k⟩ => ⟨h1, h o v bs k⟩
  | .ptr o off, v, ⟨b, bs, k, e⟩ => by
    obtain ⟨bs', k'⟩ := h o _ bs k
    exact ⟨b, bs', k', e⟩
  | .eld (.val _) _ _, _, k => k
  | .eld (.row _ _ _ _) _ _, _, k => k
  | .elo o s i f, v, ⟨b, off, n, c, bs, k, hi, e⟩ => by
    obtain ⟨bs', k'⟩ := h o _ bs k
    exact ⟨b, off, n, c, bs', k', hi, e⟩
theorem cs_le (h : Le ρ ρ') : ∀ {cs : List Sc} {vs : List Value}, CsOK ρ W0 cs vs → CsOK ρ' W0 cs vs
  | [], _, k => k
  | c :: cs, _, ⟨v, vs', e, k1, k2⟩ => ⟨v, vs', e, sc_le h k1, cs_le h k2⟩
theorem grp_le (h : Le ρ ρ') {p : Bool × List Sc} {v : Value} (k : GrpOK ρ W0 p v) : GrpOK ρ' W0 p v := by
  unfold GrpOK at *
  split
  · next hp =>
    rw [if_pos hp] at k
    obtain ⟨vs, e, k⟩ := k
    exact ⟨vs, e, cs_le h k⟩
  · next hp =>
    rw [if_neg hp] at k
    exact cs_le h k
theorem ts_le (h : Le ρ ρ') : ∀ {ps : List (Bool × List Sc)} {vs : List Value}, TsOK ρ W0 ps vs → TsOK ρ' W0 ps vs
  | [], _, k => k
  | p :: ps, _, ⟨v, vs', e, k1, k2⟩ => ⟨v, vs', e, grp_le h k1, ts_le h k2⟩
theorem av_le (h : Le ρ ρ') : ∀ {av : AV} {v : Value}, AvOK ρ W0 av v → AvOK ρ' W0 av v
  | .one _, _, k => sc_le h k
  | .agg _, _, ⟨vs, e, k⟩ => ⟨vs, e, cs_le h k⟩
  | .tup _, _, ⟨vs, e, k⟩ => ⟨vs, e, ts_le h k⟩
  | .no, _, _ => trivial
end
theorem Mem.in_ {W0 : World} {obs : Nat → Ob} {ρ : Roots} {w : World} (h : Mem W0 obs ρ w) {o : Nat} {p : Value × List Nat} (hp : ρ o = some p) : ∀ b, b ∈ p.2 → W0.heap.size ≤ b ∧ b < w.heap.size := by
  have k := h.all o
  cases e : obs o with
  | un => rw [e] at k; rw [show ρ o = none from k] at hp; cases hp
  | gone =>
    rw [e] at k
    obtain ⟨r, k⟩ := k
    rw [k] at hp; cases hp
    intro b hb; cases hb
  | var T cs =>
    rw [e] at k
    obtain ⟨b, vs, k, h1, h2, h3⟩ := k
    rw [k] at hp; cases hp
    intro b' hb
    obtain rfl : b' = b := by simpa using hb
    exact ⟨h1, (Array.getElem?_eq_some_iff.1 h2).1⟩
  | own d =>
    rw [e] at k
    obtain ⟨r, bs, k, h1⟩ := k
    rw [k] at hp; cases hp
    exact owns_in _ _ _ h1
  | abs φ =>
    rw [e] at k
    obtain ⟨r, bs, k, _, h1, _⟩ := k
    rw [k] at hp; cases hp
    exact h1
  | tab i ps φ =>
    rw [e] at k
    obtain ⟨r, bs, k, _, h1, _⟩ := k
    rw [k] at hp; cases hp
    exact h1
/-- An object stands as it is where its blocks are as they were, and its root. -/
theorem ob_keep {ρ ρ' : Roots} {W0 w w' : World} {o : Nat} (h : Le ρ ρ') (ho : ρ' o = ρ o) : ∀ {ob : Ob}, ObOK ρ W0 w o ob → (∀ p, ρ o = some p → ∀ b, b ∈ p.2 → w'.heap[b]? = w.heap[b]?) → ObOK ρ' W0 w' o ob
  | .un, k, _ => ho.trans k
  | .gone, ⟨r, k⟩, _ => ⟨r, ho.trans k⟩
  | .var T cs, ⟨b, vs, k, h1, h2, h3⟩, hk => ⟨b, vs, ho.trans k, h1, (hk _ k b (by simp)).trans h2, cs_le h h3⟩
  | .own d, ⟨r, bs, k, h1⟩, hk => ⟨r, bs, ho.trans k, owns_keep _ _ _ h1 (hk _ k)⟩
  | .abs φ, ⟨r, bs, k, h1, h2, h3⟩, hk => ⟨r, bs, ho.trans k, h3 w w' (hk _ k) h1, fun b hb => ⟨(h2 b hb).1, by
      have h4 := hk _ k b hb
      rw [Array.getElem?_eq_getElem (h2 b hb).2] at h4
      exact (Array.getElem?_eq_some_iff.1 h4).1⟩, h3⟩
  | .tab _ _ φ, ⟨r, bs, k, h1, h2, h3⟩, hk => ⟨r, bs, ho.trans k, h3 w w' (hk _ k) h1, fun b hb => ⟨(h2 b hb).1, by
      have h4 := hk _ k b hb
      rw [Array.getElem?_eq_getElem (h2 b hb).2] at h4
      exact (Array.getElem?_eq_some_iff.1 h4).1⟩, h3⟩
/-- The world has changed in no block of the run's own. -/
theorem Mem.on {W0 : World} {obs : Nat → Ob} {ρ : Roots} {w w' : World} (h : Mem W0 obs ρ w) (hb : Below w.heap.size w w') : Mem W0 obs ρ w' where
  below := h.below.trans (hb.mono h.below.size)
  all o := ob_keep (Le.refl _) rfl (h.all o) (fun p hp b hb2 => hb.block b (h.in_ hp b hb2).2)
  apart := h.apart
  nodup := h.nodup
/-- An object is made, changed or ended: what else there is stands. cs: the blocks in which the world turns. -/
theorem Mem.turn {W0 : World} {obs : Nat → Ob} {ρ : Roots} {w w' : World} (h : Mem W0 obs ρ w) {o : Nat} {r : Value} {cs bs' : List Nat} {ob : Ob} (hr : ∀ p, ρ o = some p → p.1 = r) (ht : Turned w w' cs)
    (hlo : ∀ b, b ∈ cs → W0.heap.size ≤ b) (hcs : ∀ q p, q ≠ o → ρ q = some p → ∀ b, b ∈ p.2 → b ∉ cs) (hn : ∀ b, b ∈ bs' → b ∈ cs ∨ w.heap.size ≤ b) (hd : bs'.Nodup)
    (ho : ObOK (upd ρ o (some (r, bs'))) W0 w' o ob) : Mem W0 (upd obs o ob) (upd ρ o (some (r, bs'))) w' where
  below := below_turned h.below ht hlo
  all q := by
    by_cases hq : q = o
    · subst hq
      rw [upd_same]; exact ho
    · rw [upd_ne _ _ hq]
      exact ob_keep (Le.upd ρ o r bs' hr) (upd_ne _ _ hq) (h.all q) (fun p hp b hb => ht.2.2.2.2 b (h.in_ hp b hb).2 (hcs q p hq hp b hb))
  apart q q' p p' hne h1 h2 b hb1 hb2 := by
    have one : ∀ (q : Nat) (p : Value × List Nat), upd ρ o (some (r, bs')) q = some p → (q ≠ o ∧ ρ q = some p) ∨ (q = o ∧ p = (r, bs')) := fun q p hq => by
      by_cases e : q = o
      · subst e; rw [upd_same] at hq; exact .inr ⟨rfl, by simpa using hq.symm⟩
      · rw [upd_ne _ _ e] at hq; exact .inl ⟨e, hq⟩
    have far : ∀ (q : Nat) (p : Value × List Nat), q ≠ o → ρ q = some p → ∀ b, b ∈ p.2 → b ∉ bs' := fun q p e k b hb hb2 => by
      rcases hn b hb2 with h3 | h3
      · exact hcs q p e k b hb h3
      · have := (h.in_ k b hb).2; omega
    rcases one q p h1 with ⟨e, k1⟩ | ⟨e, rfl⟩
    · rcases one q' p' h2 with ⟨e', k2⟩ | ⟨e', rfl⟩
      · exact h.apart q q' p p' hne k1 k2 b hb1 hb2
      · exact far q p e k1 b hb1 hb2
    · rcases one q' p' h2 with ⟨e', k2⟩ | ⟨e', rfl⟩
      · exact far q' p' e' k2 b hb2 hb1
      · omega
  nodup q p hq := by
    by_cases e : q = o
    · subst e
      rw [upd_same] at hq
      obtain rfl : (r, bs') = p := by simpa using hq
      exact hd
    · rw [upd_ne _ _ e] at hq
      exact h.nodup q p hq
/-- A slot is written. -/
def St.put (s : St) (d : Option Tmp) (av : AV) : St := match d with | some i => { s with slots := s.slots.set i av } | none => s
theorem Sat.put {W0 : World} {s : St} {ρ : Roots} {a : Act} {w : World} (h : Sat W0 s ρ a w) (d : Option Tmp) {av : AV} {v : Value} (hv : AvOK ρ W0 av v) : Sat W0 (s.put d av) ρ (a.put d v) w := by
  cases d with
  | none => exact h
  | some i =>
    refine ⟨h.mem, ?_, fun j av' hj => ?_, h.defers⟩
    · show (a.tmps.setIfInBounds i v).size = (s.slots.set i av).length
      rw [Array.size_setIfInBounds, List.length_set, h.size]
    · have hj' : (s.slots.set i av)[j]? = some av' := hj
      show AvOK ρ W0 av' ((a.tmps.setIfInBounds i v).getD j undef)
      have hjl : j < s.slots.length := by have := (List.getElem?_eq_some_iff.1 hj').1; rwa [List.length_set] at this
      by_cases e : i = j
      · subst e
        rw [List.getElem?_set_self hjl] at hj'
        obtain rfl : av = av' := by simpa using hj'
        have : (a.tmps.setIfInBounds i v).getD i undef = v := by
          rw [Array.getD_eq_getD_getElem?, Array.getElem?_setIfInBounds_self_of_lt (by rw [h.size]; exact hjl)]; rfl
        rw [this]; exact hv
      · rw [List.getElem?_set_ne e] at hj'
        have : (a.tmps.setIfInBounds i v).getD j undef = a.tmps.getD j undef := by
          rw [Array.getD_eq_getD_getElem?, Array.getElem?_setIfInBounds_ne e, Array.getD_eq_getD_getElem?]
        rw [this]; exact h.slots j av' hj'
/-- The world, the objects turn; the slots stay. -/
theorem Sat.mem_to {W0 : World} {s : St} {ρ ρ' : Roots} {a : Act} {w w' : World} {obs : Nat → Ob} (h : Sat W0 s ρ a w) (hl : Le ρ ρ') (hm : Mem W0 obs ρ' w') : Sat W0 { s with obs := obs } ρ' a w' :=
  ⟨hm, h.size, fun i av hi => av_le hl (h.slots i av hi), h.defers⟩
end Go.Proofs.YtllaacdikjffmaaGreat.E1

-- part E2
/-
  A symbolic run: what one operation does to a state.
-/
namespace Go.Proofs.YtllaacdikjffmaaGreat.E2
open Go.ChangeShapes Go.WideShapes Go.ChangeAt Go.RowKit
open S0 S1 S9 E0 E1
set_option linter.unusedVariables false
set_option maxRecDepth 100000
/-- What a computation gives that neither looks at the world nor changes it. -/
def qz (P : Program) {α : Type} : Sem α → Option α
  | .pure a => some a
  | .program k => qz P (k P)
  | _ => none
theorem qz_run (P : Program) {α : Type} : ∀ {m : Sem α} {a : α} (w : World), qz P m = some a → m.run P w = .ok a w
  | .pure _, _, w, h => by cases h; rfl
  | .program k, a, w, h => qz_run P (m := k P) w h
def Sc.plain : Sc → Option Value | .val u => some u | _ => none
def plains : List Sc → Option (List Value)
  | [] => some []
  | c :: cs => match Sc.plain c, plains cs with | some u, some us => some (u :: us) | _, _ => none
def AV.plain : AV → Option Value
  | .one c => Sc.plain c
  | .agg cs => match plains cs with | some us => some (.agg us.toArray) | none => none
  | _ => none
def AV.cells : AV → Option (List Sc) | .one c => some [c] | .agg cs => some cs | _ => none
def grpV : Value → Bool × List Sc | .agg cs => (true, cs.toList.map .val) | v => (false, [.val v])
def ofV : Value → AV | .agg cs => .agg (cs.toList.map .val) | .tuple vs => .tup (vs.toList.map grpV) | v => .one (.val v)
def mkAV (b : Bool) (cs : List Sc) : AV := match b with | true => .agg cs | false => match cs with | [c] => .one c | _ => .no
/-- A cell whose value surely is one cell's. -/
def Sc.isOne : Sc → Bool
  | .val (.agg _) => false
  | .val (.tuple _) => false
  | .val _ => true
  | .old (.row _ _ _ _) => true
  | .own _ => true
  | .ptr _ _ => true
  | _ => false
def isRow (P : Program) (t : TypeId) : Option Bool := match P.underlying t with | some (.struct _) => some true | some (.array _ _) => some true | some _ => some false | none => none
def size? (P : Program) (t : TypeId) : Option Nat := (P.info? t).map (·.size)
section
variable {ρ : Roots} {W0 : World}
theorem plain_sc : ∀ {c : Sc} {u v : Value}, Sc.plain c = some u → ScOK ρ W0 c v → v = u
  | .val u, _, v, h, k => by cases h; exact k
theorem plain_cs : ∀ {cs : List Sc} {us vs : List Value}, plains cs = some us → CsOK ρ W0 cs vs → vs = us
  | [], _, _, h, k => by cases h; exact k
  | c :: cs, us, vs, h, ⟨v, vs', e, k1, k2⟩ => by
    unfold plains at h
    cases h1 : Sc.plain c with
    | none => rw [h1] at h; cases h
    | some u =>
      cases h2 : plains cs with
      | none => rw [h1, h2] at h; cases h
      | some us' =>
        rw [h1, h2] at h
        cases h
        rw [e, plain_sc h1 k1, plain_cs h2 k2]
theorem plain_av {av : AV} {u v : Value} (h : AV.plain av = some u) (k : AvOK ρ W0 av v) : v = u := by
  cases av with
  | one c => exact plain_sc h k
  | agg cs =>
    obtain ⟨vs, rfl, k⟩ := k
    cases h2 : plains cs with
    | none => simp only [AV.plain, h2] at h; cases h
    | some us => simp only [AV.plain, h2] at h; cases h; rw [plain_cs h2 k]
  | tup ts => cases h
  | no => cases h
theorem cs_vals : ∀ us : List Value, CsOK ρ W0 (us.map .val) us
  | [] => rfl
  | u :: us => ⟨u, us, rfl, rfl, cs_vals us⟩
theorem grp_ofV (v : Value) : GrpOK ρ W0 (grpV v) v := by
  cases v with
  | agg cs => unfold GrpOK grpV; rw [if_pos rfl]; exact ⟨cs.toList, by simp, cs_vals _⟩
  | _ => unfold GrpOK grpV; rw [if_neg (by simp)]; exact ⟨_, _, rfl, rfl, rfl⟩
theorem ts_ofV : ∀ vs : List Value, TsOK ρ W0 (vs.map grpV) vs
  | [] => rfl
  | v :: vs => ⟨v, vs, rfl, grp_ofV v, ts_ofV vs⟩
theorem ofV_ok (v : Value) : AvOK ρ W0 (ofV v) v := by
  cases v with
  | agg cs => exact ⟨cs.toList, by simp, cs_vals _⟩
  | tuple vs => exact ⟨vs.toList, by simp, ts_ofV _⟩
  | _ => rfl
theorem sc_one : ∀ {c : Sc} {v : Value}, Sc.isOne c = true → ScOK ρ W0 c v → v.oneCell' = true
  | .val u, v, h, k => by
    rw [show v = u from k]
    cases u <;> first | rfl | cases h
  | .old (.row E s n el), v, h, k => by
    obtain ⟨A, c, vs, rfl, _⟩ := k
    rfl
  | .own o, v, h, k => k.1
  | .ptr o off, v, h, ⟨b, bs, _, e⟩ => by rw [e]; rfl
theorem one_cells {v : Value} (h : v.oneCell' = true) : v.cells = #[v] := by
  cases v <;> first | rfl | cases h
theorem cells_ok {av : AV} {cs : List Sc} {v : Value} (h : AV.cells av = some cs) (ho : cs.all Sc.isOne = true) (k : AvOK ρ W0 av v) : CsOK ρ W0 cs v.cells.toList := by
  cases av with
  | one c =>
    cases h
    have h1 : v.oneCell' = true := sc_one (by simpa using ho) k
    rw [one_cells h1]
    exact ⟨v, [], rfl, k, rfl⟩
  | agg cs' =>
    cases h
    obtain ⟨vs, rfl, k⟩ := k
    simpa [Value.cells] using k
  | tup _ => cases h
  | no => cases h
theorem cs_one : ∀ {cs : List Sc} {vs : List Value}, cs.all Sc.isOne = true → CsOK ρ W0 cs vs → ∀ v, v ∈ vs → v.oneCell' = true
  | [], _, _, k, v, hv => by rw [show _ = [] from k] at hv; cases hv
  | c :: cs, _, h, ⟨u, us, e, k1, k2⟩, v, hv => by
    rw [List.all_cons, Bool.and_eq_true] at h
    rw [e] at hv
    rcases List.mem_cons.1 hv with rfl | hv
    · exact sc_one h.1 k1
    · exact cs_one h.2 k2 v hv
theorem cs_len : ∀ {cs : List Sc} {vs : List Value}, CsOK ρ W0 cs vs → vs.length = cs.length
  | [], _, k => by rw [show _ = [] from k]; rfl
  | c :: cs, _, ⟨v, vs', e, _, k⟩ => by rw [e, List.length_cons, List.length_cons, cs_len k]
theorem cs_drop : ∀ {cs : List Sc} {vs : List Value} (n : Nat), CsOK ρ W0 cs vs → CsOK ρ W0 (cs.drop n) (vs.drop n)
  | cs, vs, 0, k => by simpa using k
  | [], _, n + 1, k => by rw [show _ = [] from k]; exact rfl
  | c :: cs, _, n + 1, ⟨v, vs', e, _, k⟩ => by rw [e]; exact cs_drop n k
theorem cs_take : ∀ {cs : List Sc} {vs : List Value} (n : Nat), CsOK ρ W0 cs vs → CsOK ρ W0 (cs.take n) (vs.take n)
  | cs, vs, 0, k => by simp; exact rfl
  | [], _, n + 1, k => by rw [show _ = [] from k]; exact rfl
  | c :: cs, _, n + 1, ⟨v, vs', e, k1, k⟩ => by rw [e]; exact ⟨v, _, rfl, k1, cs_take n k⟩
theorem cs_app : ∀ {cs ds : List Sc} {vs us : List Value}, CsOK ρ W0 cs vs → CsOK ρ W0 ds us → CsOK ρ W0 (cs ++ ds) (vs ++ us)
  | [], _, _, _, k, k2 => by rw [show _ = [] from k]; exact k2
  | c :: cs, _, _, _, ⟨v, vs', e, k1, k⟩, k2 => by rw [e]; exact ⟨v, _, rfl, k1, cs_app k k2⟩
theorem mkAV_ok {cs : List Sc} {vs : List Value} (k : CsOK ρ W0 cs vs) : (AvOK ρ W0 (mkAV true cs) (.agg vs.toArray)) ∧ (∀ v, vs = [v] → AvOK ρ W0 (mkAV false cs) v) := by
  refine ⟨⟨vs, rfl, k⟩, fun v e => ?_⟩
  unfold mkAV
  cases cs with
  | nil => trivial
  | cons c cs =>
    obtain ⟨u, us, e2, k1, k2⟩ := k
    cases cs with
    | nil =>
      rw [show us = [] from k2, e] at e2
      cases e2
      exact k1
    | cons _ _ => trivial
end
/-- An operand in a state. -/
def St.ev (s : St) : Operand → AV
  | .tmp i => s.slots.getD i .no
  | .const v => ofV v
  | .global g => .one (.val (.pointer (some ⟨g, 0, none⟩)))
  | .func f => .one (.val (.func (.func f) #[] #[]))
theorem ev_ok {W0 : World} {s : St} {ρ : Roots} {a : Act} {w : World} (h : Sat W0 s ρ a w) (x : Operand) : AvOK ρ W0 (St.ev s x) (a.eval x) := by
  cases x with
  | tmp i =>
    show AvOK ρ W0 (s.slots.getD i .no) (a.tmps.getD i undef)
    cases e : s.slots[i]? with
    | none => rw [List.getD_eq_getElem?_getD, e]; trivial
    | some av => rw [List.getD_eq_getElem?_getD, e]; exact h.slots i av e
  | const v => exact ofV_ok v
  | global g => rfl
  | func f => rfl
end Go.Proofs.YtllaacdikjffmaaGreat.E2

-- part E3
/-
  A symbolic run: the operations one by one.
-/
namespace Go.Proofs.YtllaacdikjffmaaGreat.E3
open Go.ChangeShapes Go.WideShapes Go.ChangeAt Go.RowKit
open S0 S1 S9 E0 E1 E2
set_option linter.unusedVariables false
set_option maxRecDepth 100000
/-- All of them. -/
def allP : List Prop → Prop
  | [] => True
  | [p] => p
  | p :: q :: l => p ∧ allP (q :: l)
theorem allP_cons {p : Prop} {l : List Prop} (h : allP (p :: l)) : p ∧ allP l := by
  cases l with
  | nil => exact ⟨h, trivial⟩
  | cons q l => exact h
theorem allP_app : ∀ {l m : List Prop}, allP (l ++ m) → allP l ∧ allP m
  | [], m, h => ⟨trivial, h⟩
  | p :: l, m, h => by
    obtain ⟨h1, h2⟩ := allP_cons h
    obtain ⟨h3, h4⟩ := allP_app h2
    refine ⟨?_, h4⟩
    cases l with
    | nil => exact h1
    | cons q l => exact ⟨h1, h3⟩
/-- What an operation does: what it wants, its value, the objects that it makes, changes, ends. -/
structure Eff where
  need : List Prop
  val : AV
  mem : List (Nat × Ob)
def app (obs : Nat → Ob) : List (Nat × Ob) → (Nat → Ob)
  | [] => obs
  | (o, b) :: r => app (upd obs o b) r
/-- The operation goes, and leaves R. -/
def Goes (P : Program) (o : Oper) (a : Act) (w : World) (R : Value → World → Prop) : Prop := ∀ (K : Act → World → Prop) (Q : Exit → Act → World → Prop), (∀ v w', R v w' → K (a.put o.dst v) w') → o.wp P a w K Q
/-- What it leaves, in the words of an effect. -/
def EffPost (W0 : World) (obs : Nat → Ob) (ρ : Roots) (e : Eff) (v : Value) (w' : World) : Prop := ∃ ρ', Le ρ ρ' ∧ Mem W0 (app obs e.mem) ρ' w' ∧ AvOK ρ' W0 e.val v
section
variable {P : Program} {o : Oper} {a : Act} {w : World} {R : Value → World → Prop}
theorem goes_value {v : Value} {w' : World} (h : (execOp a.eval o).run P w = .ok (.value v) w') (hr : R v w') : Goes P o a w R := fun K Q hk => by
  unfold Oper.wp; rw [h]; exact hk v w' hr
theorem goes_skip {w' : World} (h : (execOp a.eval o).run P w = .ok .skip w') (hr : R undef w') : Goes P o a w R := fun K Q hk => by
  unfold Oper.wp; rw [h]; exact hk undef w' hr
theorem goes_enter {f : FuncId} {args : Array Value} (h : (execOp a.eval o).run P w = .ok (.enter f args) w) (hc : Calls P f args w fun e w' => ∃ v, e = .returned v ∧ R v w') : Goes P o a w R := fun K Q hk => by
  unfold Oper.wp; rw [h]
  exact hc.mono (by rintro e w' ⟨v, rfl, hr⟩; exact hk v w' hr)
end
section
variable {P : Program} {W0 : World} {s : St} {ρ : Roots} {o : Oper} {a : Act} {w : World}
theorem left_same {e : Eff} {v : Value} (h : Sat W0 s ρ a w) (he : e.mem = []) (hv : AvOK ρ W0 e.val v) : EffPost W0 s.obs ρ e v w := ⟨ρ, Le.refl _, by rw [he]; exact h.mem, hv⟩
-- copies
def eMove (ev : Operand → AV) (x : Operand) : Option Eff := some ⟨[], ev x, []⟩
theorem move_ok {x : Operand} {e : Eff} (ho : o.op = .move x ∨ o.op = .assign x) (h : Sat W0 s ρ a w) (he : eMove (St.ev s) x = some e) : Goes P o a w (EffPost W0 s.obs ρ e) := by
  cases he
  refine goes_value (v := a.eval x) (w' := w) ?_ (left_same h rfl (ev_ok h x))
  unfold execOp
  rcases ho with ho | ho <;> rw [ho] <;> rfl
/-- A pointer of the run's own is none that is nil. -/
def eNil (ev : Operand → AV) (x : Operand) : Option Eff := match ev x with
  | .one (.ptr q off) => some ⟨[], .one (.ptr q off), []⟩
  | .one (.elo q sz i f) => some ⟨[], .one (.elo q sz i f), []⟩
  | .one (.val (.pointer (some p))) => some ⟨[], .one (.val (.pointer (some p))), []⟩
  | _ => none
theorem nil_ok {x : Operand} {e : Eff} (ho : o.op = .nilCheck x) (h : Sat W0 s ρ a w) (he : eNil (St.ev s) x = some e) : Goes P o a w (EffPost W0 s.obs ρ e) := by
  have hv := ev_ok h x
  have go : ∀ p av, a.eval x = .pointer (some p) → AvOK ρ W0 av (a.eval x) → Goes P o a w (EffPost W0 s.obs ρ ⟨[], av, []⟩) := fun p av hp hav => by
    refine goes_value (v := a.eval x) (w' := w) ?_ (left_same h rfl hav)
    unfold execOp
    rw [ho]
    simp only [hp]
    rfl
  unfold eNil at he
  split at he
  · next q off hx =>
    cases he
    rw [hx] at hv
    have hv2 := hv
    obtain ⟨b, bs, _, hp⟩ := hv2
    exact go _ _ hp hv
  · next q sz i f hx =>
    cases he
    rw [hx] at hv
    have hv2 := hv
    obtain ⟨b, off, n, c, bs, _, _, hp⟩ := hv2
    exact go _ _ hp hv
  · next p hx =>
    cases he
    rw [hx] at hv
    exact go _ _ hv hv
  · cases he
def ePick (ev : Operand → AV) (c x y : Operand) : Option Eff := match ev c with | .one (.val (.bool b)) => some ⟨[], (match b with | true => ev x | false => ev y), []⟩ | _ => none
theorem pick_ok {c x y : Operand} {e : Eff} (ho : o.op = .pick c x y) (h : Sat W0 s ρ a w) (he : ePick (St.ev s) c x y = some e) : Goes P o a w (EffPost W0 s.obs ρ e) := by
  unfold ePick at he
  split at he
  · next b hb =>
    cases he
    have hc : a.eval c = .bool b := by have := ev_ok h c; rw [hb] at this; exact this
    refine goes_value (v := if b then a.eval x else a.eval y) (w' := w) ?_ (left_same h rfl ?_)
    · unfold execOp; rw [ho]; simp only [hc]; rfl
    · cases b
      · exact ev_ok h y
      · exact ev_ok h x
  · cases he
-- new variables
theorem own_new {obs : Nat → Ob} (h : Mem W0 obs ρ w) {id : Nat} (hid : obs id = .un) {T : TypeId} {cs : List Sc} {vs : List Value} (hc : CsOK ρ W0 cs vs) :
    ∃ ρ', Le ρ ρ' ∧ Mem W0 (upd obs id (.var T cs)) ρ' (w.alloc (.cells vs.toArray T)) ∧ ρ' id = some (.pointer (some ⟨w.heap.size, 0, none⟩), [w.heap.size]) := by
  have hn : ρ id = none := by have := h.all id; rw [hid] at this; exact this
  have hle : Le ρ (upd ρ id (some (.pointer (some ⟨w.heap.size, 0, none⟩), [w.heap.size]))) := Le.upd ρ id _ _ (fun p hp => by rw [hn] at hp; cases hp)
  have hb : Below w.heap.size w (w.alloc (.cells vs.toArray T)) := (Below.refl _ _).alloc (Nat.le_refl _) _
  refine ⟨_, hle, h.turn (cs := []) (fun p hp => by rw [hn] at hp; cases hp) (turned_below hb) (fun b hb => by cases hb) (fun _ _ _ _ _ _ hb => by cases hb) (fun b hb => .inr (by simp at hb; omega)) (by simp) ?_, upd_same _ _ _⟩
  exact ⟨w.heap.size, vs, upd_same _ _ _, h.below.size, heap_alloc_new w _, cs_le hle hc⟩
def eAlloc (P : Program) (id : Nat) (obs : Nat → Ob) (t : TypeId) : Option Eff := match obs id, qz P (zeroValue t) with | .un, some z => some ⟨[], .one (.ptr id 0), [(id, .var t (z.cells.toList.map .val))]⟩ | _, _ => none
theorem alloc_ok {id : Nat} {t : TypeId} {e : Eff} (ho : o.op = .alloc t) (h : Sat W0 s ρ a w) (he : eAlloc P id s.obs t = some e) : Goes P o a w (EffPost W0 s.obs ρ e) := by
  unfold eAlloc at he
  split at he
  · next z hid hz =>
    cases he
    obtain ⟨ρ', hl, hm, hr⟩ := own_new (T := t) h.mem hid (cs_vals (ρ := ρ) (W0 := W0) z.cells.toList)
    refine goes_value (v := .pointer (some ⟨w.heap.size, 0, none⟩)) (w' := w.alloc (.cells z.cells t)) ?_ ⟨ρ', hl, by simpa [app] using hm, w.heap.size, _, hr, rfl⟩
    unfold execOp; rw [ho]
    simp only [Instr.alloc, Sem.run_bind, qz_run P w hz, Result.andThen_ok]
    rfl
  · cases he
def eBox (id : Nat) (obs : Nat → Ob) (ev : Operand → AV) (t : TypeId) (x : Operand) : Option Eff := match obs id, AV.cells (ev x) with
  | .un, some cs => match cs.all Sc.isOne with | true => some ⟨[], .one (.ptr id 0), [(id, .var t cs)]⟩ | false => none
  | _, _ => none
theorem box_ok {id : Nat} {t : TypeId} {x : Operand} {e : Eff} (ho : o.op = .box t x) (h : Sat W0 s ρ a w) (he : eBox id s.obs (St.ev s) t x = some e) : Goes P o a w (EffPost W0 s.obs ρ e) := by
  unfold eBox at he
  split at he
  · next cs hid hcs =>
    split at he
    · next hone =>
      cases he
      have hc := cells_ok hcs hone (ev_ok h x)
      obtain ⟨ρ', hl, hm, hr⟩ := own_new (T := t) h.mem hid hc
      refine goes_value (v := .pointer (some ⟨w.heap.size, 0, none⟩)) (w' := w.alloc (.cells (a.eval x).cells t)) ?_ ⟨ρ', hl, by simpa [app] using hm, w.heap.size, _, hr, rfl⟩
      unfold execOp; rw [ho]
      rfl
    · cases he
  · cases he
end
end Go.Proofs.YtllaacdikjffmaaGreat.E3

-- part E4
/-
  A symbolic run: addresses, loads, stores.
-/
namespace Go.Proofs.YtllaacdikjffmaaGreat.E4
open Go.ChangeShapes Go.WideShapes Go.ChangeAt Go.RowKit
open S0 S1 S9 E0 E1 E2 E3
set_option linter.unusedVariables false
set_option maxRecDepth 100000
section
variable {P : Program} {W0 : World} {s : St} {ρ : Roots} {o : Oper} {a : Act} {w : World}
theorem load_run (b off : Nat) (t : TypeId) (r : Bool) (us : List Value) (hc : ∀ j v, us[j]? = some v → w.cell? ⟨b, off + j, none⟩ = some v) (hs : size? P t = some us.length) (hr : isRow P t = some r) (h1 : r = false → us.length = 1) :
    ∃ v, (Instr.loadAt t (.pointer (some ⟨b, off, none⟩))).run P w = .ok v w ∧ (∀ (ρ : Roots) (W0 : World) (cs : List Sc), CsOK ρ W0 cs us → AvOK ρ W0 (mkAV r cs) v) := by
  have row : ∀ d, P.underlying t = some d → d.isRow = true → (Instr.loadAt t (.pointer (some ⟨b, off, none⟩))).run P w = .ok (.agg us.toArray) w := fun d hu hd => run_loadAt_mid w b off t us d hc hu hd hs
  unfold isRow at hr
  cases hu : P.underlying t with
  | none => rw [hu] at hr; cases hr
  | some d =>
    rw [hu] at hr
    have one : d.isRow = false → ∀ u, us = [u] → (Instr.loadAt t (.pointer (some ⟨b, off, none⟩))).run P w = .ok u w := fun hd u hus => by
      have hcell : w.cell? ⟨b, off, none⟩ = some u := by have := hc 0 u (by rw [hus]; rfl); simpa using this
      have hagg : (isAgg t).run P w = .ok false w := by
        unfold isAgg
        rw [Sem.run_bind, run_underlying hu w]
        cases d <;> simp_all
      simp only [Instr.loadAt, Instr.sureAddr, Sem.run_bind, Sem.run_pure, Result.andThen_ok, loadVar, hagg]
      simp [load, Sem.run, hcell]
    cases r with
    | true =>
      refine ⟨.agg us.toArray, row d hu ?_, fun ρ W0 cs k => (mkAV_ok k).1⟩
      cases d <;> simp_all
    | false =>
      obtain ⟨u, hus⟩ : ∃ u, us = [u] := by
        have := h1 rfl
        match us, this with
        | [u], _ => exact ⟨u, rfl⟩
      refine ⟨u, one ?_ u hus, fun ρ W0 cs k => (mkAV_ok k).2 u hus⟩
      cases d <;> simp_all
theorem var_of {obs : Nat → Ob} (h : Mem W0 obs ρ w) {q : Nat} {T : TypeId} {cs : List Sc} (hq : obs q = .var T cs) : ∃ b vs, ρ q = some (.pointer (some ⟨b, 0, none⟩), [b]) ∧ W0.heap.size ≤ b ∧ w.heap[b]? = some (.cells vs.toArray T (0, 0)) ∧ CsOK ρ W0 cs vs := by
  have := h.all q; rw [hq] at this; exact this
theorem own_of {obs : Nat → Ob} (h : Mem W0 obs ρ w) {q : Nat} {d : Da} (hq : obs q = .own d) : ∃ r bs, ρ q = some (r, bs) ∧ Owns w W0.heap.size d.dc r bs := by
  have := h.all q; rw [hq] at this; exact this
theorem ptr_of {q off : Nat} {v : Value} {b : Nat} (hv : ScOK ρ W0 (.ptr q off) v) (hr : ρ q = some (.pointer (some ⟨b, 0, none⟩), [b])) : v = .pointer (some ⟨b, off, none⟩) := by
  obtain ⟨b', bs, h1, h2⟩ := hv
  rw [hr] at h1
  cases h1
  exact h2
def daSc : Da → Sc | .val u => .val u | .row E s n el => .old (.row E s n el)
def daVal : Da → Option Sc | .val u => some (.val u) | .row .. => none
def elC (el : Nat → Nat → Da) (i : Nat) : Nat → Nat → List Sc
  | _, 0 => []
  | f, k + 1 => daSc (el i f) :: elC el i (f + 1) k
def elV (el : Nat → Nat → Da) (i : Nat) : Nat → Nat → Option (List Sc)
  | _, 0 => some []
  | f, k + 1 => match daVal (el i f), elV el i (f + 1) k with | some c, some cs => some (c :: cs) | _, _ => none
theorem daSc_ok {d : Da} {v : Value} (h : Shs W0 W0.heap.size d.dc v) : ScOK ρ W0 (daSc d) v := by
  cases d with
  | val u => simp only [Da.dc, Shs] at h; exact h
  | row E s n el => exact h
theorem rdsL_get {w : World} {hi : Nat} : ∀ {ds : List Dc} {vs : List Value}, ShsL w hi ds vs → ds.length = vs.length ∧ ∀ (q : Nat) (d : Dc), ds[q]? = some d → ∃ v, vs[q]? = some v ∧ Shs w hi d v
  | [], vs, h => by simp only [ShsL] at h; subst h; exact ⟨rfl, fun q d hq => by simp at hq⟩
  | d :: ds, vs, h => by
    simp only [ShsL] at h
    obtain ⟨v, vs', rfl, h1, h2⟩ := h
    obtain ⟨h3, h4⟩ := rdsL_get h2
    refine ⟨by simp [h3], fun q d' hq => ?_⟩
    cases q with
    | zero => simp at hq; subst hq; exact ⟨v, rfl, h1⟩
    | succ q => simpa using h4 q d' (by simpa using hq)
theorem ownsL_get {w : World} {lo : Nat} : ∀ {ds : List Dc} {vs : List Value} {bs : List Nat}, OwnsL w lo ds vs bs → ds.length = vs.length ∧ ∀ (q : Nat) (d : Dc), ds[q]? = some d → ∃ v b1, vs[q]? = some v ∧ Owns w lo d v b1
  | [], vs, bs, h => by simp only [OwnsL] at h; obtain ⟨rfl, rfl⟩ := h; exact ⟨rfl, fun q d hq => by simp at hq⟩
  | d :: ds, vs, bs, h => by
    simp only [OwnsL] at h
    obtain ⟨v, vs', b1, b2, rfl, h1, h2, rfl⟩ := h
    obtain ⟨h3, h4⟩ := ownsL_get h2
    refine ⟨by simp [h3], fun q d' hq => ?_⟩
    cases q with
    | zero => simp at hq; subst hq; exact ⟨v, b1, rfl, h1⟩
    | succ q => simpa using h4 q d' (by simpa using hq)
theorem flat_get {s n : Nat} (el : Nat → Nat → Da) {i f : Nat} (hi : i < n) (hf : f < s) : ((List.range (n * s)).map fun q => (el (q / s) (q % s)).dc)[i * s + f]? = some (el i f).dc := by
  have hlt : i * s + f < n * s := by
    have : (i + 1) * s ≤ n * s := Nat.mul_le_mul_right s hi
    rw [Nat.add_mul, Nat.one_mul] at this
    omega
  rw [List.getElem?_map, List.getElem?_range hlt]
  have e1 : (i * s + f) / s = i := by rw [Nat.mul_comm, Nat.mul_add_div (by omega), Nat.div_eq_of_lt hf]; rfl
  have e2 : (i * s + f) % s = f := by rw [Nat.mul_comm, Nat.mul_add_mod, Nat.mod_eq_of_lt hf]
  simp [e1, e2]
/-- Cells of an element of an old row. -/
theorem old_cells {E : TypeId} {sz n c b off : Nat} {el : Nat → Nat → Da} (h : Shs W0 W0.heap.size (Da.row E sz n el).dc (.slice (some ⟨b, off, none⟩) n c)) {i : Nat} (hi : i < n) : ∀ (k f : Nat), f + k ≤ sz →
    ∃ us, us.length = k ∧ CsOK ρ W0 (elC el i f k) us ∧ ∀ j v, us[j]? = some v → W0.cell? ⟨b, off + (i * sz + f) + j, none⟩ = some v
  | 0, f, _ => ⟨[], rfl, rfl, fun j v hj => by simp at hj⟩
  | k + 1, f, hf => by
    obtain ⟨us, h1, h2, h3⟩ := old_cells h hi k (f + 1) (by omega)
    have hh := h
    simp only [Da.dc, Shs] at hh
    obtain ⟨A, c', vs, e, hr, hl, _⟩ := hh
    injection e with e1 _ e2
    subst e1
    obtain ⟨v, hv, hd⟩ := (rdsL_get hl).2 _ _ (flat_get el hi (show f < sz by omega))
    obtain ⟨b', off', e3, hb, hc⟩ := hr.2 (by omega)
    injection e3 with e3
    injection e3 with e3 e4 _
    subst e3; subst e4
    have hlt : i * sz + f < n * sz := by
      have : (i + 1) * sz ≤ n * sz := Nat.mul_le_mul_right sz hi
      rw [Nat.add_mul, Nat.one_mul] at this
      omega
    refine ⟨v :: us, by simp [h1], ⟨v, us, rfl, daSc_ok hd, h2⟩, fun j u hj => ?_⟩
    cases j with
    | zero =>
      obtain rfl : v = u := by simpa using hj
      rw [Nat.add_zero, hc _ hlt]; exact hv
    | succ j =>
      have := h3 j u (by simpa using hj)
      rw [show off + (i * sz + f) + (j + 1) = off + (i * sz + (f + 1)) + j by omega]
      exact this
/-- Plain cells of an element of an own row. -/
theorem own_cells {E : TypeId} {sz n c b off lo : Nat} {el : Nat → Nat → Da} {bs : List Nat} (h : Owns w lo (Da.row E sz n el).dc (.slice (some ⟨b, off, none⟩) n c) bs) {i : Nat} (hi : i < n) : ∀ (k f : Nat) (cs : List Sc), f + k ≤ sz → elV el i f k = some cs →
    ∃ us, us.length = k ∧ CsOK ρ W0 cs us ∧ ∀ j v, us[j]? = some v → w.cell? ⟨b, off + (i * sz + f) + j, none⟩ = some v
  | 0, f, cs, _, he => by cases he; exact ⟨[], rfl, rfl, fun j v hj => by simp at hj⟩
  | k + 1, f, cs, hf, he => by
    unfold elV at he
    cases hd1 : el i f with
    | row _ _ _ _ => simp only [hd1, daVal] at he; cases he
    | val u =>
    simp only [hd1, daVal] at he
    cases hd2 : elV el i (f + 1) k with
    | none => rw [hd2] at he; cases he
    | some cs' =>
    rw [hd2] at he
    cases he
    obtain ⟨us, h1, h2, h3⟩ := own_cells h hi k (f + 1) cs' (by omega) hd2
    have hh := h
    simp only [Da.dc, Owns] at hh
    obtain ⟨vs, b2, hat, hl, _⟩ := hh
    obtain ⟨v, b1, hv, hd⟩ := (ownsL_get hl).2 _ _ (flat_get el hi (show f < sz by omega))
    rw [hd1] at hd
    simp only [Da.dc, Owns] at hd
    have hlt : i * sz + f < n * sz := by
      have : (i + 1) * sz ≤ n * sz := Nat.mul_le_mul_right sz hi
      rw [Nat.add_mul, Nat.one_mul] at this
      omega
    refine ⟨v :: us, by simp [h1], ⟨v, us, rfl, hd.1, h2⟩, fun j u' hj => ?_⟩
    cases j with
    | zero =>
      obtain rfl : v = u' := by simpa using hj
      rw [Nat.add_zero, hat.cellAt _ hlt]; exact hv
    | succ j =>
      have := h3 j u' (by simpa using hj)
      rw [show off + (i * sz + f) + (j + 1) = off + (i * sz + (f + 1)) + j by omega]
      exact this
def eLoad (P : Program) (obs : Nat → Ob) (ev : Operand → AV) (t : TypeId) (x : Operand) : Option Eff :=
  match size? P t, isRow P t with
  | some k, some r =>
    match ev x with
    | .one (.ptr q off) => match obs q with
      | .var T cs => match Nat.beq ((cs.drop off).take k).length k && (r || Nat.beq k 1) with | true => some ⟨[], mkAV r ((cs.drop off).take k), []⟩ | false => none
      | _ => none
    | .one (.eld (.row E sz n el) i f) => match Nat.ble (f + k) sz && (r || Nat.beq k 1) with | true => some ⟨[], mkAV r (elC el i f k), []⟩ | false => none
    | .one (.elo q sz i f) => match obs q with
      | .own (.row E sz' n el) => match Nat.beq sz sz' && Nat.ble (f + k) sz && (r || Nat.beq k 1), elV el i f k with | true, some cs => some ⟨[], mkAV r cs, []⟩ | _, _ => none
      | _ => none
    | _ => none
  | _, _ => none
theorem one_of {r : Bool} {k : Nat} (h : (r || Nat.beq k 1) = true) : r = false → k = 1 := fun hr => by subst hr; exact Nat.eq_of_beq_eq_true (by simpa using h)
theorem loadR (h : Sat W0 s ρ a w) {t : TypeId} {x : Operand} (ho : o.op = .load t x) {b off : Nat} (hx : a.eval x = .pointer (some ⟨b, off, none⟩)) {r : Bool} {us : List Value} {cs : List Sc}
    (hc : ∀ j v, us[j]? = some v → w.cell? ⟨b, off + j, none⟩ = some v) (hs : size? P t = some us.length) (hr : isRow P t = some r) (h1 : r = false → us.length = 1) (hcs : CsOK ρ W0 cs us) :
    Goes P o a w (EffPost W0 s.obs ρ ⟨[], mkAV r cs, []⟩) := by
  obtain ⟨v, hrun, hv⟩ := load_run (P := P) (w := w) b off t r us hc hs hr h1
  refine goes_value (v := v) (w' := w) ?_ (left_same h rfl (hv ρ W0 cs hcs))
  unfold execOp
  rw [ho]
  simp only [hx, Sem.run_bind, hrun, Result.andThen_ok]
  rfl
theorem load_ok {t : TypeId} {x : Operand} {e : Eff} (ho : o.op = .load t x) (h : Sat W0 s ρ a w) (he : eLoad P s.obs (St.ev s) t x = some e) : Goes P o a w (EffPost W0 s.obs ρ e) := by
  unfold eLoad at he
  split at he
  · next k r hk hr =>
    split at he
    · next q off hx =>
      split at he
      · next T cs hq =>
        split at he
        · next hb =>
          cases he
          rw [Bool.and_eq_true] at hb
          have hl := Nat.eq_of_beq_eq_true hb.1
          obtain ⟨b, vs, hρ, hlo, hg, hcs⟩ := var_of h.mem hq
          have hv := ev_ok h x
          rw [hx] at hv
          have hsub : CsOK ρ W0 ((cs.drop off).take k) ((vs.drop off).take k) := cs_take k (cs_drop off hcs)
          have hul : ((vs.drop off).take k).length = k := by rw [cs_len hsub]; exact hl
          exact loadR h ho (ptr_of (W0 := W0) hv hρ) (fun j v hj => by
            rw [cell_of_row w b (off + j) _ _ _ hg]
            rw [List.getElem?_take] at hj
            split at hj
            · rw [List.getElem?_drop] at hj; simpa using hj
            · cases hj) (by rw [hul]; exact hk) hr (fun hr => by rw [hul]; exact one_of hb.2 hr) hsub
        · cases he
      · cases he
    · next E sz n el i f hx =>
      split at he
      · next hb =>
        cases he
        rw [Bool.and_eq_true] at hb
        have hf := Nat.le_of_ble_eq_true hb.1
        have hv := ev_ok h x
        rw [hx] at hv
        obtain ⟨b, off, c, hrd, hi, e⟩ := hv
        obtain ⟨us, h1, h2, h3⟩ := old_cells (ρ := ρ) hrd hi k f hf
        have hbl : b < W0.heap.size := by
          have hh := hrd
          simp only [Da.dc, Shs] at hh
          obtain ⟨A, c', vs, e', hr', _⟩ := hh
          obtain ⟨b', off', e3, hb3, _⟩ := hr'.2 (by omega)
          injection e' with e1 _ _
          rw [← e1] at e3
          injection e3 with e3
          injection e3 with e3 _ _
          omega
        exact loadR h ho e (fun j v hj => by rw [World.cell?_of_block (w := W0) (h.mem.below.block b hbl)]; exact h3 j v hj) (by rw [h1]; exact hk) hr (fun hr => by rw [h1]; exact one_of hb.2 hr) h2
      · cases he
    · next q sz i f hx =>
      split at he
      · next E sz' n el hq =>
        split at he
        · next cs hb hcs =>
          cases he
          rw [Bool.and_eq_true, Bool.and_eq_true] at hb
          obtain rfl := Nat.eq_of_beq_eq_true hb.1.1
          have hf := Nat.le_of_ble_eq_true hb.1.2
          have hv := ev_ok h x
          rw [hx] at hv
          obtain ⟨b, off, n', c, bs, hρ, hi, e⟩ := hv
          obtain ⟨r', bs', hρ', hown⟩ := own_of h.mem hq
          rw [hρ] at hρ'
          cases hρ'
          have hn : n' = n := by
            have hh := hown
            simp only [Da.dc, Owns] at hh
            obtain ⟨vs, b2, hat, _, _⟩ := hh
            obtain ⟨A, c', e5⟩ := hat.nil_form
            injection e5
          subst hn
          obtain ⟨us, h1, h2, h3⟩ := own_cells (ρ := ρ) (W0 := W0) hown hi k f cs hf hcs
          exact loadR h ho e h3 (by rw [h1]; exact hk) hr (fun hr => by rw [h1]; exact one_of hb.2 hr) h2
        · cases he
      · cases he
    · cases he
  · cases he
end
end Go.Proofs.YtllaacdikjffmaaGreat.E4

-- part E5
/-
  A symbolic run: stores, addresses of fields and elements, parts of structs, lengths, what needs no memory.
-/
namespace Go.Proofs.YtllaacdikjffmaaGreat.E5
open Go.ChangeShapes Go.WideShapes Go.ChangeAt Go.RowKit
open S0 S1 S9 E0 E1 E2 E3 E4
set_option linter.unusedVariables false
set_option maxRecDepth 100000
theorem heap_cells (g : Nat) (e : TypeId) : ∀ (vs : List Value) (o : Nat) (w : World) (cur : Array Value), w.heap[g]? = some (.cells cur e (0, 0)) → o + vs.length ≤ cur.size →
    ∃ cur' : Array Value, (w.setCells g o vs).heap[g]? = some (.cells cur' e (0, 0)) ∧ cur'.toList = cur.toList.take o ++ vs ++ cur.toList.drop (o + vs.length)
  | [], o, w, cur, h, _ => ⟨cur, h, by simp⟩
  | v :: vs, o, w, cur, h, hl => by
    simp only [List.length_cons] at hl
    obtain ⟨c', h2, h3⟩ := heap_cells g e vs (o + 1) (w.setCell ⟨g, o, none⟩ v) (cur.setIfInBounds o v) (heap_setCell_same w g o cur e v h) (by simp; omega)
    refine ⟨c', h2, ?_⟩
    have hs : (cur.setIfInBounds o v).toList = cur.toList.take o ++ v :: cur.toList.drop (o + 1) := by
      rw [Array.toList_setIfInBounds, List.set_eq_take_append_cons_drop, if_pos (by simp; omega)]
    have h4 : (cur.toList.take o).length = o := by rw [List.length_take, Array.length_toList]; omega
    have h5 : ∀ (a b : List Value), a.length = o → (a ++ v :: b).take (o + 1) = a ++ [v] := fun a b ha => by
      rw [List.take_append, List.take_of_length_le (by omega), ha, Nat.add_sub_cancel_left]; rfl
    have h6 : ∀ (a b : List Value) (n : Nat), a.length = o → (a ++ v :: b).drop (o + 1 + n) = b.drop n := fun a b n ha => by
      rw [List.drop_append, List.drop_of_length_le (by omega), ha, show o + 1 + n - o = n + 1 by omega]; rfl
    rw [h3, hs, h5 _ _ h4, h6 _ _ _ h4, List.drop_drop, List.length_cons, show o + (vs.length + 1) = o + 1 + vs.length by omega]
    simp
theorem turned_cells (g : Nat) : ∀ (vs : List Value) (o : Nat) (w : World), Turned w (w.setCells g o vs) [g]
  | [], _, w => turned_refl w _
  | v :: vs, o, w => turned_trans (b := w.setCell ⟨g, o, none⟩ v) ⟨rfl, rfl, rfl, by simp, fun k _ hk => heap_setCell_other w ⟨g, o, none⟩ k v (fun e => hk (by simp [e]))⟩ (turned_cells g vs (o + 1) _)
section
variable {P : Program} {W0 : World} {s : St} {ρ : Roots} {o : Oper} {a : Act} {w : World}
def eStore (P : Program) (obs : Nat → Ob) (ev : Operand → AV) (t : TypeId) (x y : Operand) : Option Eff :=
  match size? P t, ev x, AV.cells (ev y) with
  | some k, .one (.ptr q off), some xs => match obs q with
    | .var T cs => match Nat.beq xs.length k && Nat.ble (off + k) cs.length && xs.all Sc.isOne with
      | true => some ⟨[], .one (.val undef), [(q, .var T (cs.take off ++ xs ++ cs.drop (off + k)))]⟩
      | false => none
    | _ => none
  | _, _, _ => none
theorem store_ok {t : TypeId} {x y : Operand} {e : Eff} (ho : o.op = .store t x y) (h : Sat W0 s ρ a w) (he : eStore P s.obs (St.ev s) t x y = some e) : Goes P o a w (EffPost W0 s.obs ρ e) := by
  unfold eStore at he
  split at he
  · next k q off xs hk hx hy =>
    split at he
    · next T cs hq =>
      split at he
      · next hb =>
        cases he
        rw [Bool.and_eq_true, Bool.and_eq_true] at hb
        have hl := Nat.eq_of_beq_eq_true hb.1.1
        have hle := Nat.le_of_ble_eq_true hb.1.2
        obtain ⟨b, vs, hρ, hlo, hg, hcs⟩ := var_of h.mem hq
        have hv := ev_ok h x
        rw [hx] at hv
        have hxe := ptr_of (W0 := W0) hv hρ
        have hyc := cells_ok hy hb.2 (ev_ok h y)
        have hy1 := cs_one hb.2 hyc
        have hyl : (a.eval y).cells.toList.length = k := by rw [cs_len hyc]; exact hl
        have hvl := cs_len hcs
        obtain ⟨cur', h1, h2⟩ := heap_cells b T (a.eval y).cells.toList off w vs.toArray hg (by rw [hyl]; simp; omega)
        have hrun : (Instr.storeAt t (.pointer (some ⟨b, off, none⟩)) (a.eval y)).run P w = .ok () (w.setCells b off (a.eval y).cells.toList) := by
          have hst := run_storeCells_cells (P := P) b off (a.eval y).cells.toList 0 w (fun j hj => by
            rw [Nat.add_zero, cell_of_row w b (off + j) _ _ _ hg, Array.getElem?_eq_getElem (by simp; omega)]; rfl) (fun j hj => frozen_of_row w b _ _ _ hg) hy1
          rw [Nat.add_zero] at hst
          unfold size? at hk
          cases hi : P.info? t with
          | none => rw [hi] at hk; cases hk
          | some i =>
            rw [hi] at hk
            have hsz : i.size = k := by simpa using hk
            have hne : ¬ ((a.eval y).cells.size ≠ k) := by rw [← Array.length_toList, hyl]; simp
            simp only [Instr.storeAt, Instr.sureAddr, Sem.run_bind, Sem.run_pure, Result.andThen_ok, storeVar, run_sizeOf (P := P) (w := w) hi]
            have : P.cellsOf t = k := by unfold Program.cellsOf; rw [hi]; simpa using hsz
            rw [this, if_neg hne]
            simpa using hst
        refine goes_skip (w' := w.setCells b off (a.eval y).cells.toList) ?_ ?_
        · unfold execOp
          rw [ho]
          simp only [hxe, Sem.run_bind, hrun, Result.andThen_ok]
          rfl
        · have hr : ∀ p, ρ q = some p → p.1 = .pointer (some ⟨b, 0, none⟩) := fun p hp => by rw [hρ] at hp; cases hp; rfl
          have hl1 := Le.upd ρ q (.pointer (some ⟨b, 0, none⟩)) [b] hr
          refine ⟨upd ρ q (some (.pointer (some ⟨b, 0, none⟩), [b])), hl1, ?_, rfl⟩
          refine h.mem.turn (cs := [b]) hr (turned_cells b _ off w) (fun b' hb' => by rw [List.mem_singleton.1 hb']; exact hlo) (fun q' p hne hp b' hb1 hb2 => ?_) (fun b' hb' => .inl hb') (by simp) ?_
          · obtain rfl : b' = b := by simpa using hb2
            exact h.mem.apart q' q p _ hne hp hρ b' hb1 (by simp)
          · refine ⟨b, cur'.toList, upd_same _ _ _, hlo, by simpa using h1, ?_⟩
            rw [h2]
            have := cs_app (cs_app (cs_take off hcs) hyc) (cs_drop (off + k) hcs)
            rw [hyl]
            exact cs_le hl1 (by simpa using this)
      · cases he
    · cases he
  · cases he
def eFieldAddr (P : Program) (ev : Operand → AV) (t : TypeId) (x : Operand) (f : Nat) : Option Eff :=
  match P.underlying t with
  | some (.struct fs) => match fs[f]? with
    | some fd => match size? P fd.type with
      | some (_ + 1) => match ev x with
        | .one (.ptr q off) => some ⟨[], .one (.ptr q (off + fd.offset)), []⟩
        | .one (.eld (.row E sz n el) i g) => some ⟨[], .one (.eld (.row E sz n el) i (g + fd.offset)), []⟩
        | .one (.elo q sz i g) => some ⟨[], .one (.elo q sz i (g + fd.offset)), []⟩
        | .one (.val (.pointer (some ⟨b, off, none⟩))) => some ⟨[], .one (.val (.pointer (some ⟨b, off + fd.offset, none⟩))), []⟩
        | _ => none
      | _ => none
    | none => none
  | _ => none
theorem add_off (b off n : Nat) : (⟨b, off, none⟩ : Addr).add n = ⟨b, off + n, none⟩ := Addr.add_mid b off n
theorem fieldAddr_ok {t : TypeId} {x : Operand} {f : Nat} {e : Eff} (ho : o.op = .fieldAddr t x f) (h : Sat W0 s ρ a w) (he : eFieldAddr P (St.ev s) t x f = some e) : Goes P o a w (EffPost W0 s.obs ρ e) := by
  unfold eFieldAddr at he
  split at he
  · next fs hu =>
    split at he
    · next fd hf =>
      split at he
      · next k hk =>
        have hsz : P.cellsOf fd.type = k + 1 := by
          unfold size? at hk
          unfold Program.cellsOf
          rw [hk]; rfl
        have hrun : ∀ b off, a.eval x = .pointer (some ⟨b, off, none⟩) → (execOp a.eval o).run P w = .ok (.value (.pointer (some ⟨b, off + fd.offset, none⟩))) w := fun b off hx => by
          unfold size? at hk
          cases hi : P.info? fd.type with
          | none => rw [hi] at hk; cases hk
          | some i =>
          unfold execOp
          rw [ho]
          simp only [hx, Instr.fieldAt, Sem.run_bind, run_underlying hu w, Result.andThen_ok, hf, Instr.sureAddr, Sem.run_pure, fieldPlace, run_sizeOf (P := P) (w := w) hi, hsz]
          simp [add_off]
        have hv := ev_ok h x
        split at he
        · next q off hx =>
          cases he
          rw [hx] at hv
          obtain ⟨b, bs, h1, h2⟩ := hv
          exact goes_value (hrun b off h2) (left_same h rfl ⟨b, bs, h1, rfl⟩)
        · next E sz n el i g hx =>
          cases he
          rw [hx] at hv
          obtain ⟨b, off, c, h1, hi, h2⟩ := hv
          exact goes_value (hrun b _ h2) (left_same h rfl ⟨b, off, c, h1, hi, by rw [show off + (i * sz + g) + fd.offset = off + (i * sz + (g + fd.offset)) by omega]⟩)
        · next q sz i g hx =>
          cases he
          rw [hx] at hv
          obtain ⟨b, off, n, c, bs, h1, hi, h2⟩ := hv
          exact goes_value (hrun b _ h2) (left_same h rfl ⟨b, off, n, c, bs, h1, hi, by rw [show off + (i * sz + g) + fd.offset = off + (i * sz + (g + fd.offset)) by omega]⟩)
        · next b off hx =>
          cases he
          rw [hx] at hv
          exact goes_value (hrun b off hv) (left_same h rfl rfl)
        · cases he
      · cases he
    · cases he
  · cases he
def eIndexAddr (P : Program) (obs : Nat → Ob) (ev : Operand → AV) (t : TypeId) (x y : Operand) : Option Eff :=
  match P.underlying t with
  | some (.slice E) => match size? P E, AV.plain (ev y) with
    | some k, some (.int kd i) => match ev x with
      | .one (.old (.row E' sz n el)) => match Nat.beq k sz with | true => some ⟨[0 ≤ i ∧ i < (n : Int)], .one (.eld (.row E' sz n el) i.toNat 0), []⟩ | false => none
      | .one (.own q) => match obs q with
        | .own (.row E' sz n el) => match Nat.beq k sz with | true => some ⟨[0 ≤ i ∧ i < (n : Int)], .one (.elo q sz i.toNat 0), []⟩ | false => none
        | _ => none
      | .one (.val (.slice (some ⟨b, off, none⟩) n c)) => some ⟨[0 ≤ i ∧ i < (n : Int)], .one (.val (.pointer (some ⟨b, off + (i.toNat * k + 0), none⟩))), []⟩
      | _ => none
    | _, _ => none
  | _ => none
theorem indexAddr_ok {t : TypeId} {x y : Operand} {e : Eff} (ho : o.op = .indexAddr t x y) (h : Sat W0 s ρ a w) (he : eIndexAddr P s.obs (St.ev s) t x y = some e) (hn : allP e.need) : Goes P o a w (EffPost W0 s.obs ρ e) := by
  unfold eIndexAddr at he
  split at he
  · next E hu =>
    split at he
    · next k kd i hk hy =>
      have hye := plain_av hy (ev_ok h y)
      have hrun : ∀ b off n c, a.eval x = .slice (some ⟨b, off, none⟩) n c → 0 ≤ i → i < (n : Int) → (execOp a.eval o).run P w = .ok (.value (.pointer (some ⟨b, off + (i.toNat * k + 0), none⟩))) w := fun b off n c hx h0 h1 => by
        unfold size? at hk
        cases hi : P.info? E with
        | none => rw [hi] at hk; cases hk
        | some inf =>
        have hsz : P.cellsOf E = k := by unfold Program.cellsOf; rw [hk]; rfl
        unfold execOp
        rw [ho]
        simp only [hx, hye, Instr.indexAt, asIntOf, Sem.run_bind, Sem.run_pure, run_underlying hu w, Result.andThen_ok]
        rw [if_pos ⟨h0, h1⟩]
        simp only [Sem.run_bind, run_sizeOf (P := P) (w := w) hi, hsz, Result.andThen_ok, Sem.run_pure, add_off, Nat.add_zero]
      have hv := ev_ok h x
      split at he
      · next E' sz n el hx =>
        split at he
        · next hb =>
          cases he
          obtain rfl := Nat.eq_of_beq_eq_true hb
          obtain ⟨h0, h1⟩ := hn
          rw [hx] at hv
          have hh := hv
          simp only [AvOK, ScOK, Da.dc, Shs] at hh
          obtain ⟨A, c, vs, e1, hr, hl⟩ := hh
          obtain ⟨b, off, rfl, _⟩ := hr.2 (by omega)
          refine goes_value (hrun b off n c e1 h0 h1) (left_same h rfl ⟨b, off, c, ?_, by omega, rfl⟩)
          rw [← e1]; exact hv
        · cases he
      · next q hx =>
        split at he
        · next E' sz n el hq =>
          split at he
          · next hb =>
            cases he
            obtain rfl := Nat.eq_of_beq_eq_true hb
            obtain ⟨h0, h1⟩ := hn
            rw [hx] at hv
            obtain ⟨_, bs, hρ⟩ := hv
            obtain ⟨r', bs', hρ', hown⟩ := own_of h.mem hq
            rw [hρ] at hρ'
            injection hρ' with hρ'
            injection hρ' with e1 e2
            simp only [Da.dc, Owns] at hown
            obtain ⟨vs, b2, hat, _, _⟩ := hown
            obtain ⟨g, off, cap, hf, _, _⟩ := hat.form (by omega)
            rw [← e1] at hf
            exact goes_value (hrun g off n cap hf h0 h1) (left_same h rfl ⟨g, off, n, cap, bs, by rw [hρ, hf], by omega, rfl⟩)
          · cases he
        · cases he
      · next b off n c hx =>
        cases he
        obtain ⟨h0, h1⟩ := hn
        rw [hx] at hv
        exact goes_value (hrun b off n c hv h0 h1) (left_same h rfl rfl)
      · cases he
    · cases he
  · cases he
end
end Go.Proofs.YtllaacdikjffmaaGreat.E5

-- part E6
/-
  A symbolic run: parts of structs, structs and rows made, lengths, calls, what needs no memory; all operations together.
-/
namespace Go.Proofs.YtllaacdikjffmaaGreat.E6
open Go.ChangeShapes Go.WideShapes Go.ChangeAt Go.RowKit
open S0 S1 S9 E0 E1 E2 E3 E4 E5
set_option linter.unusedVariables false
set_option maxRecDepth 100000
section
variable {P : Program} {W0 : World} {s : St} {ρ : Roots} {o : Oper} {a : Act} {w : World}
def eField (P : Program) (ev : Operand → AV) (t : TypeId) (x : Operand) (f : Nat) : Option Eff :=
  match P.underlying t, ev x with
  | some (.struct fs), .agg cs => match fs[f]? with
    | some fd => match size? P fd.type, isRow P fd.type with
      | some k, some r => match Nat.beq ((cs.drop fd.offset).take k).length k && (r || Nat.beq k 1) with | true => some ⟨[], mkAV r ((cs.drop fd.offset).take k), []⟩ | false => none
      | _, _ => none
    | none => none
  | _, _ => none
theorem field_ok {t : TypeId} {x : Operand} {f : Nat} {e : Eff} (ho : o.op = .field t x f) (h : Sat W0 s ρ a w) (he : eField P (St.ev s) t x f = some e) : Goes P o a w (EffPost W0 s.obs ρ e) := by
  unfold eField at he
  split at he
  · next fs cs hu hx =>
    split at he
    · next fd hf =>
      split at he
      · next k r hk hr =>
        split at he
        · next hb =>
          cases he
          rw [Bool.and_eq_true] at hb
          have hl := Nat.eq_of_beq_eq_true hb.1
          have hv := ev_ok h x
          rw [hx] at hv
          obtain ⟨vs, hxe, hcs⟩ := hv
          have hsub : CsOK ρ W0 ((cs.drop fd.offset).take k) ((vs.drop fd.offset).take k) := cs_take k (cs_drop _ hcs)
          have hul : ((vs.drop fd.offset).take k).length = k := by rw [cs_len hsub]; exact hl
          unfold isRow at hr
          cases hu2 : P.underlying fd.type with
          | none => rw [hu2] at hr; cases hr
          | some d =>
            rw [hu2] at hr
            cases hi : P.info? fd.type with
            | none => unfold size? at hk; rw [hi] at hk; cases hk
            | some inf =>
            have hsz : P.cellsOf fd.type = k := by unfold size? at hk; unfold Program.cellsOf; rw [hk]; rfl
            have hagg : ∀ b, d.isRow = b → (isAgg fd.type).run P w = .ok b w := fun b hb => by
              unfold isAgg
              rw [Sem.run_bind, run_underlying hu2 w]
              cases d <;> simp_all
            cases r with
            | true =>
              refine goes_value (v := .agg ((vs.drop fd.offset).take k).toArray) (w' := w) ?_ (left_same h rfl (mkAV_ok hsub).1)
              unfold execOp
              rw [ho]
              have hag := hagg true (by cases d <;> simp_all)
              simp only [hxe, Instr.field, Sem.run_bind, run_underlying hu w, Result.andThen_ok, hf, asAgg, Sem.run_pure, part, hag, if_true, run_sizeOf (P := P) (w := w) hi, hsz]
              congr 3
              apply Array.ext'
              simp
            | false =>
              have hk1 := one_of hb.2 rfl
              subst hk1
              obtain ⟨u, hus⟩ : ∃ u, (vs.drop fd.offset).take 1 = [u] := by
                match (vs.drop fd.offset).take 1, hul with
                | [u], _ => exact ⟨u, rfl⟩
              have hget : vs.toArray[fd.offset]? = some u := by
                have : ((vs.drop fd.offset).take 1)[0]? = some u := by rw [hus]; rfl
                simpa using this
              refine goes_value (v := u) (w' := w) ?_ (left_same h rfl ((mkAV_ok hsub).2 u hus))
              unfold execOp
              rw [ho]
              have hag := hagg false (by cases d <;> simp_all)
              simp only [hxe, Instr.field, Sem.run_bind, run_underlying hu w, Result.andThen_ok, hf, asAgg, Sem.run_pure, part, hag]
              simp [hget]
        · cases he
      · cases he
    · cases he
  · cases he
def eExtract (ev : Operand → AV) (x : Operand) (i : Nat) : Option Eff :=
  match ev x with
  | .tup ts => match ts[i]? with | some p => some ⟨[], mkAV p.1 p.2, []⟩ | none => none
  | _ => none
theorem ts_get : ∀ {ts : List (Bool × List Sc)} {vs : List Value} {i : Nat} {p : Bool × List Sc}, TsOK ρ W0 ts vs → ts[i]? = some p → ∃ v, vs[i]? = some v ∧ GrpOK ρ W0 p v
  | t :: ts, _, 0, p, ⟨v, vs', e, k, _⟩, h => by
    obtain rfl : t = p := by simpa using h
    exact ⟨v, by rw [e]; rfl, k⟩
  | t :: ts, _, i + 1, p, ⟨v, vs', e, _, k⟩, h => by
    obtain ⟨u, h1, h2⟩ := ts_get k (by simpa using h : ts[i]? = some p)
    exact ⟨u, by rw [e]; simpa using h1, h2⟩
theorem grp_mk {p : Bool × List Sc} {v : Value} (k : GrpOK ρ W0 p v) : AvOK ρ W0 (mkAV p.1 p.2) v := by
  obtain ⟨b, cs⟩ := p
  unfold GrpOK at k
  cases b with
  | true =>
    rw [if_pos rfl] at k
    obtain ⟨vs, rfl, k⟩ := k
    exact (mkAV_ok k).1
  | false =>
    rw [if_neg (by simp)] at k
    exact (mkAV_ok k).2 v rfl
theorem extract_ok {x : Operand} {i : Nat} {e : Eff} (ho : o.op = .extract x i) (h : Sat W0 s ρ a w) (he : eExtract (St.ev s) x i = some e) : Goes P o a w (EffPost W0 s.obs ρ e) := by
  unfold eExtract at he
  split at he
  · next ts hx =>
    split at he
    · next p hp =>
      cases he
      have hv := ev_ok h x
      rw [hx] at hv
      obtain ⟨vs, hxe, hts⟩ := hv
      obtain ⟨v, h1, h2⟩ := ts_get hts hp
      refine goes_value (v := v) (w' := w) ?_ (left_same h rfl (grp_mk h2))
      unfold execOp
      rw [ho]
      have : vs.toArray[i]? = some v := by simpa using h1
      simp only [hxe, Instr.extract, this, Sem.run_bind, Sem.run_pure, Result.andThen_ok]
    · cases he
  · cases he
-- what needs no memory
def ePlain (P : Program) (o : Oper) (ev : Operand → AV) : Option Eff :=
  match o.op with
  | .select _ _ => none
  | _ => match o.op.operands.toList.all (fun x => (AV.plain (ev x)).isSome), qz P (execOp (fun x => (AV.plain (ev x)).getD undef) o) with
    | true, some (.value v) => some ⟨[], ofV v, []⟩
    | _, _ => none
theorem plain_ok {e : Eff} (h : Sat W0 s ρ a w) (he : ePlain P o (St.ev s) = some e) : Goes P o a w (EffPost W0 s.obs ρ e) := by
  unfold ePlain at he
  have hsel : ∀ cs b, o.op ≠ .select cs b := fun cs b hc => by rw [hc] at he; cases he
  have he2 : (match o.op.operands.toList.all (fun x => (AV.plain (St.ev s x)).isSome), qz P (execOp (fun x => (AV.plain (St.ev s x)).getD undef) o) with
    | true, some (.value v) => some (⟨[], ofV v, []⟩ : Eff)
    | _, _ => none) = some e := by
    revert he
    cases o.op <;> first | exact id | (intro he; cases he)
  clear he
  split at he2
  · next v hall hq =>
    cases he2
    refine goes_value (v := v) (w' := w) ?_ (left_same h rfl (ofV_ok v))
    have hc : execOp a.eval o = execOp (fun x => (AV.plain (St.ev s x)).getD undef) o := execOp_congr o hsel fun x hx => by
      have h1 := List.all_eq_true.1 hall x (by simpa using hx)
      obtain ⟨u, hu⟩ := Option.isSome_iff_exists.1 h1
      rw [hu]
      exact plain_av hu (ev_ok h x)
    rw [hc]
    exact qz_run P w hq
  · cases he2
-- division of ints: the divisor is not 0
def eDiv (f : Int → Int → Int) (ev : Operand → AV) (x y : Operand) : Option Eff :=
  match ev x, ev y with
  | .one (.val (.int .i64 a)), .one (.val (.int .i64 b)) => some ⟨[b ≠ 0], .one (.val (.int .i64 (f a b))), []⟩
  | _, _ => none
theorem div_ok {rem : Bool} {f : Int → Int → Int} {b : BinOp} {t t' : TypeId} {x y : Operand} {e : Eff} (ho : o.op = .binOp b t x y t') (hb : b = (match rem with | true => .rem | false => .quo)) (hf : f = (match rem with | true => Int.tmod | false => fun a b => IntKind.i64.wrap (a.tdiv b))) (h : Sat W0 s ρ a w) (he : eDiv f (St.ev s) x y = some e) (hn : allP e.need) : Goes P o a w (EffPost W0 s.obs ρ e) := by
  unfold eDiv at he
  split at he
  · next n m hx hy =>
    cases he
    have h1 : a.eval x = .int .i64 n := by have := ev_ok h x; rw [hx] at this; exact this
    have h2 : a.eval y = .int .i64 m := by have := ev_ok h y; rw [hy] at this; exact this
    have hm : m ≠ 0 := hn
    subst hb hf
    cases rem with
    | true =>
      refine goes_value (v := .int .i64 (n.tmod m)) (w' := w) ?_ (left_same h rfl (by first | rfl | exact rfl))
      unfold execOp
      rw [ho]
      simp [h1, h2, eqGuard, binOp, Op.intDiv, hm]
    | false =>
      refine goes_value (v := .int .i64 (IntKind.i64.wrap (n.tdiv m))) (w' := w) ?_ (left_same h rfl (by first | rfl | exact rfl))
      unfold execOp
      rw [ho]
      simp [h1, h2, eqGuard, binOp, Op.intDiv, hm]
  · cases he
-- lengths of slices
def eLen (P : Program) (obs : Nat → Ob) (ev : Operand → AV) (t : TypeId) (x : Operand) : Option Eff :=
  match P.underlying t with
  | some (.slice _) => match ev x with
    | .one (.old (.row _ _ n _)) => some ⟨[], .one (.val (.int .i64 n)), []⟩
    | .one (.own q) => match obs q with | .own (.row _ _ n _) => some ⟨[], .one (.val (.int .i64 n)), []⟩ | _ => none
    | _ => none
  | _ => none
theorem len_ok {c : Call} {t : TypeId} {x : Operand} {e : Eff} (ho : o.op = .call c) (hc : c.callee = .builtin .len) (ha : c.args = #[x]) (ht : c.argTypes[0]? = some t) (h : Sat W0 s ρ a w) (he : eLen P s.obs (St.ev s) t x = some e) : Goes P o a w (EffPost W0 s.obs ρ e) := by
  unfold eLen at he
  split at he
  · next el hu =>
    have hrun : ∀ A n c, a.eval x = .slice A n c → (execOp a.eval o).run P w = .ok (.value (.int .i64 n)) w := fun A n c' hx => by
      unfold execOp
      rw [ho]
      simp only [resolve, hc, ha, Sem.run_bind, Sem.run_pure, Result.andThen_ok, invoke, builtin, Builtin.len_, ht]
      simp [run_underlying hu w, hx, goInt]
    have hv := ev_ok h x
    split at he
    · next E sz n el' hx =>
      cases he
      rw [hx] at hv
      simp only [AvOK, ScOK, Da.dc, Shs] at hv
      obtain ⟨A, c', vs, e1, _⟩ := hv
      exact goes_value (hrun A n c' e1) (left_same h rfl rfl)
    · next q hx =>
      split at he
      · next E sz n el' hq =>
        cases he
        rw [hx] at hv
        obtain ⟨_, bs, hρ⟩ := hv
        obtain ⟨r', bs', hρ', hown⟩ := own_of h.mem hq
        rw [hρ] at hρ'
        injection hρ' with hρ'
        injection hρ' with e1 e2
        simp only [Da.dc, Owns] at hown
        obtain ⟨vs, b2, hat, _, _⟩ := hown
        obtain ⟨A, c', e5⟩ := hat.nil_form
        rw [← e1] at e5
        exact goes_value (hrun A n c' e5) (left_same h rfl rfl)
      · cases he
    · cases he
  · cases he
end
end Go.Proofs.YtllaacdikjffmaaGreat.E6

-- part E7
/-
  A symbolic run: calls by contracts.
-/
namespace Go.Proofs.YtllaacdikjffmaaGreat.E7
open Go.ChangeShapes Go.WideShapes Go.ChangeAt Go.RowKit
open S0 S1 S9 E0 E1 E2 E3 E4 E5 E6
set_option linter.unusedVariables false
set_option maxRecDepth 100000
abbrev Grp := Bool × List Da
/-- Arguments that read ags these data. -/
def ArgOK (w : World) : List Grp → List Value → Prop
  | [], vs => vs = []
  | p :: ags, vs => ∃ v vs', vs = v :: vs' ∧ (if p.1 = true then ∃ us, v = .agg us.toArray ∧ ShsL w w.heap.size (p.2.map Da.dc) us else ShsL w w.heap.size (p.2.map Da.dc) [v]) ∧ ArgOK w ags vs'
/-- Results that are these data, all new memory. -/
def ResOK (w : World) (lo : Nat) : List Grp → List Value → List Nat → Prop
  | [], vs, bs => vs = [] ∧ bs = []
  | p :: rs, vs, bs => ∃ v vs' us b1 b2, vs = v :: vs' ∧ (if p.1 = true then v = .agg us.toArray else us = [v]) ∧ OwnsL w lo (p.2.map Da.dc) us b1 ∧ ResOK w lo rs vs' b2 ∧ bs = b1 ++ b2
def retV : List Value → Value
  | [v] => v
  | vs => .tuple vs.toArray
/-- What a function gives at arguments that read ags these data. -/
structure FnCon (P : Program) (f : FuncId) (ags rs : List Grp) : Prop where
  enters : ∀ args w, (callFunc f args).run P w = .ok (.enter f args) w
  calls : ∀ w vs, ArgOK w ags vs → Calls P f vs.toArray w fun e w' => ∃ us bs, e = .returned (retV us) ∧ ResOK w' w.heap.size rs us bs ∧ bs.Nodup ∧ Below w.heap.size w w'
def scDa (obs : Nat → Ob) : Sc → Option Da
  | .val u => some (.val u)
  | .old d => some d
  | .own q => match obs q with | .own d => some d | _ => none
  | _ => none
def csDa (obs : Nat → Ob) : List Sc → Option (List Da)
  | [] => some []
  | c :: cs => match scDa obs c, csDa obs cs with | some d, some ds => some (d :: ds) | _, _ => none
def avDa (obs : Nat → Ob) : AV → Option Grp
  | .one c => match scDa obs c with | some d => some (false, [d]) | none => none
  | .agg cs => match csDa obs cs with | some ds => some (true, ds) | none => none
  | _ => none
def avsDa (obs : Nat → Ob) : List AV → Option (List Grp)
  | [] => some []
  | v :: vs => match avDa obs v, avsDa obs vs with | some g, some gs => some (g :: gs) | _, _ => none
/-- The cells of new data: each row an object of its own. -/
def daNew (id : Nat) : List Da → List Sc × List (Nat × Ob) × Nat
  | [] => ([], [], id)
  | .val u :: ds => match daNew id ds with | (cs, m, k) => (.val u :: cs, m, k)
  | .row E s n el :: ds => match daNew (id + 1) ds with | (cs, m, k) => (.own id :: cs, (id, .own (.row E s n el)) :: m, k)
def grpNew (id : Nat) : List Grp → List (Bool × List Sc) × List (Nat × Ob) × Nat
  | [] => ([], [], id)
  | p :: rs => match daNew id p.2 with | (cs, m, k) => match grpNew k rs with | (gs, m2, k2) => ((p.1, cs) :: gs, m ++ m2, k2)
def unTo (obs : Nat → Ob) (id : Nat) : Nat → Bool
  | 0 => true
  | n + 1 => match obs (id + n) with | .un => unTo obs id n | _ => false
theorem unTo_ok {obs : Nat → Ob} {id : Nat} : ∀ {n : Nat}, unTo obs id n = true → ∀ k, id ≤ k → k < id + n → obs k = .un
  | 0, _, k, h1, h2 => by omega
  | n + 1, h, k, h1, h2 => by
    unfold unTo at h
    split at h
    · next hu =>
      by_cases e : k = id + n
      · rw [e]; exact hu
      · exact unTo_ok h k h1 (by omega)
    · cases h
theorem app_app (m m2 : List (Nat × Ob)) : ∀ obs, app obs (m ++ m2) = app (app obs m) m2 := by
  induction m with
  | nil => intro obs; rfl
  | cons p m ih => intro obs; exact ih _
theorem daNew_le : ∀ (ds : List Da) (id : Nat), id ≤ (daNew id ds).2.2
  | [], id => Nat.le_refl _
  | .val u :: ds, id => daNew_le ds id
  | .row E s n el :: ds, id => by have := daNew_le ds (id + 1); show id ≤ (daNew (id + 1) ds).2.2; omega
section
variable {P : Program} {W0 : World} {s : St} {ρ : Roots} {o : Oper} {a : Act} {w : World}
theorem new_cells {lo : Nat} (hlo : W0.heap.size ≤ lo) : ∀ (ds : List Da) (id : Nat) (obs : Nat → Ob) (ρ : Roots) (us : List Value) (bs : List Nat), Mem W0 obs ρ w → OwnsL w lo (ds.map Da.dc) us bs → bs.Nodup →
    (∀ (q : Nat) (p : Value × List Nat), ρ q = some p → ∀ b, b ∈ p.2 → b ∉ bs) → (∀ k, id ≤ k → k < (daNew id ds).2.2 → obs k = .un) →
    ∃ ρ', Le ρ ρ' ∧ Mem W0 (app obs (daNew id ds).2.1) ρ' w ∧ CsOK ρ' W0 (daNew id ds).1 us ∧ (∀ (q : Nat) (p : Value × List Nat), ρ' q = some p → ρ q = some p ∨ ∀ b, b ∈ p.2 → b ∈ bs) ∧
      (∀ k, (daNew id ds).2.2 ≤ k → app obs (daNew id ds).2.1 k = obs k)
  | [], id, obs, ρ, us, bs, hm, ho, hd, hf, hu => by
    simp only [List.map_nil, OwnsL] at ho
    obtain ⟨rfl, rfl⟩ := ho
    exact ⟨ρ, Le.refl _, hm, rfl, fun q p h => .inl h, fun k _ => rfl⟩
  | .val u :: ds, id, obs, ρ, us, bs, hm, ho, hd, hf, hu => by
    simp only [List.map_cons, OwnsL, Da.dc, Owns] at ho
    obtain ⟨v, vs', b1, b2, rfl, ⟨e1, e2⟩, h2, e3⟩ := ho
    rw [e2, List.nil_append] at e3
    rw [← e3] at h2
    obtain ⟨ρ', h1, h3, h4, h5, h6⟩ := new_cells hlo ds id obs ρ vs' bs hm h2 hd hf hu
    exact ⟨ρ', h1, h3, ⟨v, vs', rfl, e1, h4⟩, h5, h6⟩
  | .row E s n el :: ds, id, obs, ρ, us, bs, hm, ho, hd, hf, hu => by
    simp only [List.map_cons, OwnsL] at ho
    obtain ⟨v, vs', b1, b2, rfl, h1, h2, rfl⟩ := ho
    have hk := daNew_le ds (id + 1)
    have hu0 : obs id = .un := hu id (Nat.le_refl _) (show id < (daNew (id + 1) ds).2.2 by omega)
    have hn : ρ id = none := by have := hm.all id; rw [hu0] at this; exact this
    have hr : ∀ p, ρ id = some p → p.1 = v := fun p hp => by rw [hn] at hp; cases hp
    have hle := Le.upd ρ id v b1 hr
    have hone : v.oneCell' = true := by
      have hh := h1
      simp only [Da.dc, Owns] at hh
      obtain ⟨vs, b3, hat, _, _⟩ := hh
      obtain ⟨A, c, rfl⟩ := hat.nil_form
      rfl
    have hd2 := List.nodup_append.1 hd
    have hm1 : Mem W0 (upd obs id (.own (.row E s n el))) (upd ρ id (some (v, b1))) w :=
      hm.turn (cs := b1) hr (turned_refl w _) (fun b hb => by have := (owns_in _ _ _ h1 b hb).1; omega) (fun q p hne hp b hb hb2 => hf q p hp b hb (List.mem_append_left _ hb2)) (fun b hb => .inl hb) hd2.1
        ⟨v, b1, upd_same _ _ _, owns_base hlo _ _ _ h1⟩
    obtain ⟨ρ', h3, h4, h5, h6, h7⟩ := new_cells hlo ds (id + 1) _ _ vs' b2 hm1 h2 hd2.2.1 (fun q p hp b hb hb2 => by
      by_cases e : q = id
      · subst e
        rw [upd_same] at hp
        obtain rfl : (v, b1) = p := by simpa using hp
        exact hd2.2.2 b hb b hb2 rfl
      · rw [upd_ne _ _ e] at hp
        exact hf q p hp b hb (List.mem_append_right _ hb2)) (fun k h8 h9 => by rw [upd_ne _ _ (by omega)]; exact hu k (by omega) h9)
    refine ⟨ρ', hle.trans h3, h4, ⟨v, vs', rfl, ⟨hone, h3 id v b1 (upd_same _ _ _)⟩, h5⟩, fun q p hp => ?_, fun k hk2 => ?_⟩
    · rcases h6 q p hp with h8 | h8
      · by_cases e : q = id
        · subst e
          rw [upd_same] at h8
          obtain rfl : (v, b1) = p := by simpa using h8
          exact .inr fun b hb => List.mem_append_left _ hb
        · rw [upd_ne _ _ e] at h8
          exact .inl h8
      · exact .inr fun b hb => List.mem_append_right _ (h8 b hb)
    · have h8 : (daNew (id + 1) ds).2.2 ≤ k := hk2
      have h9 := h7 k h8
      show app (upd obs id (.own (.row E s n el))) (daNew (id + 1) ds).2.1 k = obs k
      rw [h9, upd_ne _ _ (by omega)]
theorem new_grps {lo : Nat} (hlo : W0.heap.size ≤ lo) : ∀ (rs : List Grp) (id : Nat) (obs : Nat → Ob) (ρ : Roots) (us : List Value) (bs : List Nat), Mem W0 obs ρ w → ResOK w lo rs us bs → bs.Nodup →
    (∀ (q : Nat) (p : Value × List Nat), ρ q = some p → ∀ b, b ∈ p.2 → b ∉ bs) → (∀ k, id ≤ k → k < (grpNew id rs).2.2 → obs k = .un) →
    ∃ ρ', Le ρ ρ' ∧ Mem W0 (app obs (grpNew id rs).2.1) ρ' w ∧ TsOK ρ' W0 (grpNew id rs).1 us
  | [], id, obs, ρ, us, bs, hm, ho, hd, hf, hu => by
    obtain ⟨rfl, rfl⟩ := ho
    exact ⟨ρ, Le.refl _, hm, rfl⟩
  | p :: rs, id, obs, ρ, us, bs, hm, ho, hd, hf, hu => by
    obtain ⟨v, vs', xs, b1, b2, rfl, hv, h1, h2, rfl⟩ := ho
    have hd2 := List.nodup_append.1 hd
    have hk : (daNew id p.2).2.2 ≤ (grpNew id (p :: rs)).2.2 := by
      have : ∀ (rs : List Grp) (k : Nat), k ≤ (grpNew k rs).2.2 := fun rs => by
        induction rs with
        | nil => intro k; exact Nat.le_refl _
        | cons p rs ih => intro k; exact Nat.le_trans (daNew_le p.2 k) (ih _)
      exact this rs _
    obtain ⟨ρ1, h3, h4, h5, h6, h7⟩ := new_cells hlo p.2 id obs ρ xs b1 hm h1 hd2.1 (fun q p' hp b hb hb2 => hf q p' hp b hb (List.mem_append_left _ hb2)) (fun k h8 h9 => hu k h8 (by omega))
    obtain ⟨ρ2, k1, k2, k3⟩ := new_grps hlo rs (daNew id p.2).2.2 _ ρ1 vs' b2 h4 h2 hd2.2.1 (fun q p' hp b hb hb2 => by
      rcases h6 q p' hp with h8 | h8
      · exact hf q p' h8 b hb (List.mem_append_right _ hb2)
      · exact hd2.2.2 b (h8 b hb) b hb2 rfl) (fun k h8 h9 => by rw [h7 k h8]; exact hu k (by have := daNew_le p.2 id; omega) h9)
    refine ⟨ρ2, h3.trans k1, ?_, ⟨v, vs', rfl, ?_, k3⟩⟩
    · show Mem W0 (app obs ((daNew id p.2).2.1 ++ (grpNew (daNew id p.2).2.2 rs).2.1)) ρ2 w
      rw [app_app]; exact k2
    · show GrpOK ρ2 W0 (p.1, (daNew id p.2).1) v
      unfold GrpOK
      split
      · next hb =>
        rw [if_pos hb] at hv
        exact ⟨xs, hv, cs_le k1 h5⟩
      · next hb =>
        rw [if_neg hb] at hv
        rw [← hv]; exact cs_le k1 h5
def resAV : List (Bool × List Sc) → AV
  | [p] => mkAV p.1 p.2
  | ps => .tup ps
/-- An oracle tells what a call gives: by the call's slot, its function, its arguments. -/
structure Orc where
  call : Option Tmp → FuncId → List Grp → Option (List Grp)
  cust : Nat → List AV → List Ob → Option Eff
  old : World → Prop
def eCall (P : Program) (C : Orc) (id : Nat) (obs : Nat → Ob) (ev : Operand → AV) (dst : Option Tmp) (f : FuncId) (args : List Operand) : Option Eff :=
  match avsDa obs (args.map ev) with
  | some ags => match C.call dst f ags with
    | some rs => match grpNew id rs with
      | (gs, m, k) => match Nat.ble (k - id) 8 && unTo obs id (k - id) with | true => some ⟨[FnCon P f ags rs], resAV gs, m⟩ | false => none
    | none => none
  | none => none
theorem sc_rds {obs : Nat → Ob} (h : Mem W0 obs ρ w) : ∀ {c : Sc} {d : Da} {v : Value}, scDa obs c = some d → ScOK ρ W0 c v → Shs w w.heap.size d.dc v
  | .val u, d, v, hd, k => by cases hd; simp only [Da.dc, Shs]; exact k
  | .old d, _, v, hd, k => by cases hd; exact shs_on k h.below
  | .own q, d, v, hd, ⟨_, bs, hρ⟩ => by
    simp only [scDa] at hd
    split at hd
    · next d' hq =>
      cases hd
      obtain ⟨r, bs', hρ', hown⟩ := own_of h hq
      rw [hρ] at hρ'
      cases hρ'
      exact owns_shs _ _ _ hown
    · cases hd
theorem cs_rds {obs : Nat → Ob} (h : Mem W0 obs ρ w) : ∀ {cs : List Sc} {ds : List Da} {vs : List Value}, csDa obs cs = some ds → CsOK ρ W0 cs vs → ShsL w w.heap.size (ds.map Da.dc) vs
  | [], ds, vs, hd, k => by cases hd; simp only [List.map_nil, ShsL]; exact k
  | c :: cs, ds, vs, hd, ⟨v, vs', e, k1, k2⟩ => by
    unfold csDa at hd
    cases h1 : scDa obs c with
    | none => rw [h1] at hd; cases hd
    | some d =>
      cases h2 : csDa obs cs with
      | none => rw [h1, h2] at hd; cases hd
      | some ds' =>
        rw [h1, h2] at hd
        cases hd
        simp only [List.map_cons, ShsL]
        exact ⟨v, vs', e, sc_rds h h1 k1, cs_rds h h2 k2⟩
theorem args_ok (h : Sat W0 s ρ a w) : ∀ {xs : List Operand} {ags : List Grp}, avsDa s.obs (xs.map (St.ev s)) = some ags → ArgOK w ags (xs.map a.eval)
  | [], ags, hd => by cases hd; rfl
  | x :: xs, ags, hd => by
    simp only [List.map_cons] at hd ⊢
    unfold avsDa at hd
    cases h1 : avDa s.obs (St.ev s x) with
    | none => rw [h1] at hd; cases hd
    | some g =>
      cases h2 : avsDa s.obs (xs.map (St.ev s)) with
      | none => rw [h1, h2] at hd; cases hd
      | some gs =>
        rw [h1, h2] at hd
        cases hd
        refine ⟨_, _, rfl, ?_, args_ok h h2⟩
        have hv := ev_ok h x
        cases hx : St.ev s x with
        | one c =>
          rw [hx] at h1 hv
          unfold avDa at h1
          cases h3 : scDa s.obs c with
          | none => simp only [h3] at h1; cases h1
          | some d =>
            simp only [h3] at h1
            cases h1
            rw [if_neg (by simp)]
            simp only [List.map_cons, List.map_nil, ShsL]
            exact ⟨_, [], rfl, sc_rds h.mem h3 hv, rfl⟩
        | agg cs =>
          rw [hx] at h1 hv
          unfold avDa at h1
          cases h3 : csDa s.obs cs with
          | none => simp only [h3] at h1; cases h1
          | some ds =>
            simp only [h3] at h1
            cases h1
            rw [if_pos rfl]
            obtain ⟨vs, e, k⟩ := hv
            exact ⟨vs, e, cs_rds h.mem h3 k⟩
        | tup _ => rw [hx] at h1; cases h1
        | no => rw [hx] at h1; cases h1
theorem ret_ok {ρ : Roots} {gs : List (Bool × List Sc)} {us : List Value} (k : TsOK ρ W0 gs us) : AvOK ρ W0 (resAV gs) (retV us) := by
  match gs, us, k with
  | [], us, k => obtain rfl := k; exact ⟨[], rfl, rfl⟩
  | [p], us, k =>
    obtain ⟨v, vs', rfl, k1, k2⟩ := k
    obtain rfl := k2
    exact grp_mk k1
  | p :: q :: ps, us, k =>
    have hk := k
    obtain ⟨v, vs', rfl, k1, v2, vs2, rfl, k2, k3⟩ := k
    exact ⟨_, rfl, hk⟩
theorem call_ok {C : Orc} {id : Nat} {c : Call} {f : FuncId} {e : Eff} (ho : o.op = .call c) (hc : c.callee = .value (.func f)) (h : Sat W0 s ρ a w) (he : eCall P C id s.obs (St.ev s) o.dst f c.args.toList = some e) (hn : allP e.need) : Goes P o a w (EffPost W0 s.obs ρ e) := by
  unfold eCall at he
  split at he
  · next ags has =>
    split at he
    · next rs hrs =>
      split at he
      next gs m k hg =>
      split at he
      · next hu0 =>
        cases he
        have hn : FnCon P f ags rs := hn
        rw [Bool.and_eq_true] at hu0
        have hu := hu0.2
        have hrun : (execOp a.eval o).run P w = .ok (.enter f (c.args.map a.eval)) w := by
          unfold execOp
          rw [ho]
          simp only [resolve, hc, Act.eval, Deferred.ofValue, Sem.run_bind, Sem.run_pure, Result.andThen_ok, invoke]
          have := hn.enters (c.args.map a.eval) w
          simpa using this
        have hargs := args_ok h has
        refine goes_enter hrun ?_
        have hcall := hn.calls w _ hargs
        have hA : (c.args.toList.map a.eval).toArray = c.args.map a.eval := by apply Array.ext'; simp
        rw [hA] at hcall
        refine hcall.mono ?_
        rintro e' w' ⟨us, bs, rfl, hres, hnd, hb⟩
        refine ⟨_, rfl, ?_⟩
        have hin : ∀ {rs : List Grp} {us : List Value} {bs : List Nat}, ResOK w' w.heap.size rs us bs → ∀ b, b ∈ bs → w.heap.size ≤ b := by
          intro rs
          induction rs with
          | nil => intro us bs hr b hb; obtain ⟨_, rfl⟩ := hr; cases hb
          | cons p rs ih =>
            intro us bs hr b hb
            obtain ⟨v, vs', xs, b1, b2, _, _, h1, h2, rfl⟩ := hr
            rcases List.mem_append.1 hb with hb | hb
            · exact (ownsL_in _ _ _ h1 b hb).1
            · exact ih h2 b hb
        have hm := h.mem.on hb
        have hg2 : grpNew id rs = (gs, m, k) := hg
        obtain ⟨ρ', h1, h2, h3⟩ := new_grps (w := w') (lo := w.heap.size) h.mem.below.size rs id s.obs ρ us bs hm hres hnd (fun q p hp b hb1 hb2 => by
          have h5 := (h.mem.in_ hp b hb1).2
          have h6 := hin hres b hb2
          omega) (fun k' h5 h6 => unTo_ok hu k' h5 (by rw [hg2] at h6; simp at h6; omega))
        rw [hg2] at h2 h3
        exact ⟨ρ', h1, h2, ret_ok h3⟩
      · cases he
    · cases he
  · cases he
end
end Go.Proofs.YtllaacdikjffmaaGreat.E7

-- part E8
/-
  A symbolic run: structs and rows made.
-/
namespace Go.Proofs.YtllaacdikjffmaaGreat.E8
open Go.ChangeShapes Go.WideShapes Go.ChangeAt Go.RowKit
open S0 S1 S9 E0 E1 E2 E3 E4 E5 E6 E7
set_option linter.unusedVariables false
set_option maxRecDepth 100000
theorem foldl_put (off : Nat) : ∀ (vs : List Value) (k : Nat) (cells : Array Value), off + k + vs.length ≤ cells.size →
    ((vs.zipIdx k).foldl (fun (cs : Array Value) (p : Value × Nat) => cs.setIfInBounds (off + p.2) p.1) cells).toList = cells.toList.take (off + k) ++ vs ++ cells.toList.drop (off + k + vs.length)
  | [], k, cells, _ => by simp
  | v :: vs, k, cells, h => by
    simp only [List.length_cons] at h
    rw [List.zipIdx_cons, List.foldl_cons, foldl_put off vs (k + 1) _ (by simp; omega)]
    have hs : (cells.setIfInBounds (off + k) v).toList = cells.toList.take (off + k) ++ v :: cells.toList.drop (off + k + 1) := by
      rw [Array.toList_setIfInBounds, List.set_eq_take_append_cons_drop, if_pos (by simp; omega)]
    have h4 : (cells.toList.take (off + k)).length = off + k := by rw [List.length_take, Array.length_toList]; omega
    have h5 : ∀ (a b : List Value), a.length = off + k → (a ++ v :: b).take (off + (k + 1)) = a ++ [v] := fun a b ha => by
      rw [List.take_append, List.take_of_length_le (by omega), ha, show off + (k + 1) - (off + k) = 1 by omega]; rfl
    have h6 : ∀ (a b : List Value) (n : Nat), a.length = off + k → (a ++ v :: b).drop (off + (k + 1) + n) = b.drop n := fun a b n ha => by
      rw [List.drop_append, List.drop_of_length_le (by omega), ha, show off + (k + 1) + n - (off + k) = n + 1 by omega]; rfl
    rw [hs, h5 _ _ h4, h6 _ _ _ h4, List.drop_drop, List.length_cons, show off + k + (vs.length + 1) = off + k + 1 + vs.length by omega]
    simp
theorem put_all (off : Nat) (v cells : Array Value) (h : off + v.size ≤ cells.size) :
    (v.zipIdx.foldl (fun cs (c, j) => cs.setIfInBounds (off + j) c) cells).toList = cells.toList.take off ++ v.toList ++ cells.toList.drop (off + v.size) := by
  have := foldl_put off v.toList 0 cells (by simpa using h)
  rw [← Array.foldl_toList, Array.toList_zipIdx]
  simpa using this
def fillS (place : Nat → Option (Nat × Nat)) (cells : List Sc) : List (Nat × List Sc) → Option (List Sc)
  | [] => some cells
  | (i, xs) :: rest => match place i with
    | none => none
    | some (off, k) => match Nat.beq xs.length k && Nat.ble (off + k) cells.length with | true => fillS place (cells.take off ++ xs ++ cells.drop (off + k)) rest | false => none
def partsC (ev : Operand → AV) : List (Nat × Operand) → Option (List (Nat × List Sc))
  | [] => some []
  | (i, x) :: ps => match AV.cells (ev x), partsC ev ps with
    | some cs, some r => match cs.all Sc.isOne with | true => some ((i, cs) :: r) | false => none
    | _, _ => none
section
variable {P : Program} {W0 : World} {s : St} {ρ : Roots} {o : Oper} {a : Act} {w : World}
theorem fill_ok (h : Sat W0 s ρ a w) {place : Nat → Option (Nat × Nat)} : ∀ {ps : List (Nat × Operand)} {parts : List (Nat × List Sc)} {cells : List Sc} {arr : Array Value} {cs : List Sc}, partsC (St.ev s) ps = some parts → CsOK ρ W0 cells arr.toList → fillS place cells parts = some cs →
    ∃ arr', Instr.fill place arr (ps.map fun p => (p.1, a.eval p.2)) = some arr' ∧ CsOK ρ W0 cs arr'.toList
  | [], parts, cells, arr, cs, hp, hc, hf => by
    cases hp
    cases hf
    exact ⟨arr, rfl, hc⟩
  | (i, x) :: ps, parts, cells, arr, cs, hp, hc, hf => by
    unfold partsC at hp
    cases h1 : AV.cells (St.ev s x) with
    | none => simp only [h1] at hp; cases hp
    | some xs =>
    cases h2 : partsC (St.ev s) ps with
    | none => simp only [h1, h2] at hp; cases hp
    | some r =>
    simp only [h1, h2] at hp
    split at hp
    · next hone =>
      cases hp
      unfold fillS at hf
      cases h3 : place i with
      | none => simp only [h3] at hf; cases hf
      | some q =>
      obtain ⟨off, k⟩ := q
      simp only [h3] at hf
      split at hf
      · next hb =>
        rw [Bool.and_eq_true] at hb
        have hl := Nat.eq_of_beq_eq_true hb.1
        have hle := Nat.le_of_ble_eq_true hb.2
        have hxc := cells_ok h1 hone (ev_ok h x)
        have hxl : (a.eval x).cells.size = k := by rw [← Array.length_toList, cs_len hxc]; exact hl
        have hal : arr.size = cells.length := by rw [← Array.length_toList, cs_len hc]
        have hput := put_all off (a.eval x).cells arr (by omega)
        obtain ⟨arr', h5, h6⟩ := fill_ok h (arr := (a.eval x).cells.zipIdx.foldl (fun cs (c, j) => cs.setIfInBounds (off + j) c) arr) h2 (by
          rw [hput, hxl]; exact cs_app (cs_app (cs_take off hc) hxc) (cs_drop (off + k) hc)) hf
        refine ⟨arr', ?_, h6⟩
        simp only [List.map_cons, Instr.fill, h3]
        rw [if_neg (by simp only [ne_eq, Bool.or_eq_true, decide_eq_true_eq]; omega)]
        exact h5
      · cases hf
    · cases hp
def eBuild (P : Program) (ev : Operand → AV) (t : TypeId) (ps : List (Nat × Operand)) : Option Eff :=
  match P.info? t, P.underlying t with
  | some it, some (.struct fields) => match it.zero, fields.toList.mapM (fun f => (P.info? f.type).map fun i => (f.offset, i.size)), partsC ev ps with
    | some z, some places, some parts => match fillS (places.toArray[·]?) (z.cells.toList.map .val) parts with | some cs => some ⟨[], .agg cs, []⟩ | none => none
    | _, _, _ => none
  | _, _ => none
theorem build_ok {t : TypeId} {ps : Array (Nat × Operand)} {e : Eff} (ho : o.op = .build t ps) (h : Sat W0 s ρ a w) (he : eBuild P (St.ev s) t ps.toList = some e) : Goes P o a w (EffPost W0 s.obs ρ e) := by
  unfold eBuild at he
  split at he
  · next it fields hi hu =>
    split at he
    · next z places parts hz hpl hps =>
      split at he
      · next cs hf =>
        cases he
        obtain ⟨arr, h1, h2⟩ := fill_ok h hps (cs_vals z.cells.toList) hf
        have hb : P.built t (ps.map fun (i, x) => (i, a.eval x)).toList = some arr := by
          unfold Program.built
          simp only [hi, hu, hz, hpl]
          simpa using h1
        refine goes_value (v := .agg arr) (w' := w) ?_ (left_same h rfl ⟨arr.toList, by simp, h2⟩)
        unfold execOp
        rw [ho]
        simp only [Sem.run_bind, run_build w t _ arr hb, Result.andThen_ok]
        rfl
      · cases he
    · cases he
  · cases he
/-- A row of plain values. -/
def valsEl (k : Nat) (us : List Value) : Nat → Nat → Da := fun i j => .val (us.getD (i * k + j) undef)
theorem vals_dc {E : TypeId} {k n : Nat} {us : List Value} (h : us.length = n * k) : (Da.row E k n (valsEl k us)).dc = .row E k n (us.map Dc.val) := by
  simp only [Da.dc, valsEl]
  congr 1
  apply List.ext_getElem
  · simp [h]
  · intro q h1 h2
    have hq : q < us.length := by simpa using h2
    have e : q / k * k + q % k = q := by rw [Nat.mul_comm]; exact Nat.div_add_mod q k
    simp [e, List.getElem?_eq_getElem hq]
theorem ownsL_vals (w : World) (lo : Nat) : ∀ us : List Value, OwnsL w lo (us.map Dc.val) us []
  | [] => by simp [OwnsL]
  | u :: us => by
    simp only [List.map_cons, OwnsL]
    exact ⟨u, us, [], [], rfl, by simp [Owns], ownsL_vals w lo us, rfl⟩
def eBuildSlice (P : Program) (id : Nat) (obs : Nat → Ob) (ev : Operand → AV) (t : TypeId) (n : Nat) (ps : List (Nat × Operand)) : Option Eff :=
  match obs id, P.underlying t with
  | .un, some (.slice E) => match P.info? E, partsC ev ps with
    | some it, some parts => match it.zero, Nat.ble 1 it.size && Nat.ble (n * it.size) 16777216 with
      | some z, true => match Nat.beq z.cells.toList.length it.size with
        | true => match fillS (fun i => some (i * it.size, it.size)) ((List.range (n * it.size)).map fun q => .val (z.cells.toList.getD (q % it.size) undef)) parts with
          | some cs => match plains cs with
            | some us => match Nat.beq us.length (n * it.size) with | true => some ⟨[], .one (.own id), [(id, .own (.row E it.size n (valsEl it.size us)))]⟩ | false => none
            | none => none
          | none => none
        | false => none
      | _, _ => none
    | _, _ => none
  | _, _ => none
theorem buildSlice_ok {id : Nat} {t : TypeId} {n : Nat} {ps : Array (Nat × Operand)} {e : Eff} (ho : o.op = .buildSlice t n ps) (h : Sat W0 s ρ a w) (he : eBuildSlice P id s.obs (St.ev s) t n ps.toList = some e) : Goes P o a w (EffPost W0 s.obs ρ e) := by
  unfold eBuildSlice at he
  split at he
  · next E hid hu =>
    split at he
    · next it parts hi hps =>
      split at he
      · next z hz hb =>
        split at he
        · next hzl =>
          split at he
          · next cs hf =>
            split at he
            · next us hus =>
              split at he
              · next hul =>
                cases he
                rw [Bool.and_eq_true] at hb
                have h1k := Nat.le_of_ble_eq_true hb.1
                have hbig := Nat.le_of_ble_eq_true hb.2
                have hzl := Nat.eq_of_beq_eq_true hzl
                have hul := Nat.eq_of_beq_eq_true hul
                obtain ⟨Z, hZ⟩ : ∃ Z : Array Value, Z = if n * it.size = 0 then #[] else z.cells := ⟨_, rfl⟩
                obtain ⟨C0, hC0⟩ : ∃ C0 : Array Value, C0 = (Array.range (n * it.size)).map (Z[· % Z.size]!) := ⟨_, rfl⟩
                have hC : C0.toList = (List.range (n * it.size)).map fun q => z.cells.toList.getD (q % it.size) undef := by
                  rw [hC0, Array.toList_map, Array.toList_range]
                  apply List.map_congr_left
                  intro q hq
                  have hq := List.mem_range.1 hq
                  have hne : ¬ n * it.size = 0 := by omega
                  rw [hZ, if_neg hne]
                  have hs : z.cells.size = it.size := by rw [← Array.length_toList]; exact hzl
                  have hlt : q % it.size < z.cells.size := by rw [hs]; exact Nat.mod_lt _ (by omega)
                  rw [hs, getElem!_pos z.cells _ hlt]
                  simp [List.getD_eq_getElem?_getD, hlt]
                obtain ⟨arr, h1, h2⟩ := fill_ok h (arr := C0) hps (by rw [hC]; have := cs_vals (ρ := ρ) (W0 := W0) ((List.range (n * it.size)).map fun q => z.cells.toList.getD (q % it.size) undef); rw [List.map_map] at this; exact this) hf
                have harr : arr.toList = us := plain_cs hus h2
                have hn : ρ id = none := by have := h.mem.all id; rw [hid] at this; exact this
                have hr : ∀ p, ρ id = some p → p.1 = .slice (some ⟨w.heap.size, 0, none⟩) n n := fun p hp => by rw [hn] at hp; cases hp
                have hle := Le.upd ρ id (.slice (some ⟨w.heap.size, 0, none⟩) n n) [w.heap.size] hr
                have hbw : Below w.heap.size w (w.alloc (.cells arr E)) := (Below.refl _ _).alloc (Nat.le_refl _) _
                have hasz : arr.size = n * it.size := by rw [← Array.length_toList, harr]; exact hul
                have hn24 : n ≤ 16777216 := Nat.le_trans (Nat.le_mul_of_pos_right n (by omega)) hbig
                refine goes_value (v := .slice (some ⟨w.heap.size, 0, none⟩) n n) (w' := w.alloc (.cells arr E)) ?_ ⟨_, hle, h.mem.turn (cs := []) hr (turned_below hbw) (fun b hb => by cases hb) (fun _ _ _ _ _ _ hb => by cases hb) (fun b hb => .inr (by simp at hb; omega)) (by simp) ?_, rfl, [w.heap.size], upd_same _ _ _⟩
                · unfold execOp
                  rw [ho]
                  have hzv : (zeroValue E).run P w = .ok z w := by simp [zeroValue, typeInfo, hi, hz]
                  have hfill : Instr.fill (fun i => some (i * it.size, it.size)) C0 (ps.map fun (i, x) => (i, a.eval x)).toList = some arr := by simpa using h1
                  have hsz : P.cellsOf E = it.size := by unfold Program.cellsOf; rw [hi]; rfl
                  simp only [Instr.buildSlice, Sem.run_bind, run_underlying hu w, Result.andThen_ok, run_sizeOf (P := P) (w := w) hi, hsz]
                  rw [if_neg (by omega)]
                  by_cases h0 : n * it.size = 0
                  · rw [if_pos h0]
                    simp only [Sem.run_bind, Sem.run_pure, Result.andThen_ok]
                    rw [hZ, if_pos h0] at hC0
                    rw [← hC0, hfill]
                    rfl
                  · rw [if_neg h0]
                    simp only [Sem.run_bind, hzv, Sem.run_pure, Result.andThen_ok]
                    rw [hZ, if_neg h0] at hC0
                    rw [← hC0, hfill]
                    rfl
                · refine ⟨_, _, upd_same _ _ _, ?_⟩
                  rw [vals_dc hul]
                  simp only [Owns]
                  refine ⟨us, [], Ow.At.down (Ow.At.of (w := w.alloc (.cells arr E)) (base := w.heap.size) ⟨hul, .inr ⟨w.heap.size, n, arr, rfl, Nat.le_refl _, heap_alloc_new w _, Nat.le_refl _, by unfold maxLen; omega, hasz, by rw [harr, ← hul]; exact List.take_length⟩⟩) h.mem.below.size, ownsL_vals _ _ us, by simp [Value.ownBlock]⟩
              · cases he
            · cases he
          · cases he
        · cases he
      · cases he
    · cases he
  · cases he
end
end Go.Proofs.YtllaacdikjffmaaGreat.E8

-- part E9
/-
  A symbolic run: appends to rows of the run's own; cuts of old rows.
-/
namespace Go.Proofs.YtllaacdikjffmaaGreat.E9
open Go.ChangeShapes Go.WideShapes Go.ChangeAt Go.RowKit
open S0 S1 S9 E0 E1 E2 E3 E4 E5 E6 E7 E8
set_option linter.unusedVariables false
set_option linter.unusedSimpArgs false
set_option maxRecDepth 100000
def appEl (n : Nat) (el el2 : Nat → Nat → Da) : Nat → Nat → Da := fun i j => match Nat.blt i n with | true => el i j | false => el2 (i - n) j
def flat (n s : Nat) (el : Nat → Nat → Da) : List Dc := (List.range (n * s)).map fun q => (el (q / s) (q % s)).dc
theorem flat_app {n m s : Nat} (hs : 0 < s) (el el2 : Nat → Nat → Da) : flat (n + m) s (appEl n el el2) = flat n s el ++ flat m s el2 := by
  unfold flat
  rw [Nat.add_mul, List.range_add, List.map_append, List.map_map]
  congr 1
  · apply List.map_congr_left
    intro q hq
    have hq := List.mem_range.1 hq
    have : q / s < n := by rw [Nat.div_lt_iff_lt_mul hs]; exact hq
    unfold appEl
    rw [show Nat.blt (q / s) n = true from by simpa [Nat.blt_eq] using this]
  · apply List.map_congr_left
    intro q hq
    show (appEl n el el2 ((n * s + q) / s) ((n * s + q) % s)).dc = _
    have e1 : (n * s + q) / s = n + q / s := by rw [Nat.mul_comm, Nat.mul_add_div hs]
    have e2 : (n * s + q) % s = q % s := by rw [Nat.mul_comm, Nat.mul_add_mod]
    rw [e1, e2]
    unfold appEl
    rw [show Nat.blt (n + q / s) n = false from by
      cases h : Nat.blt (n + q / s) n with
      | false => rfl
      | true => rw [Nat.blt_eq] at h; exact absurd h (Nat.not_lt.2 (Nat.le_add_right _ _)), Nat.add_sub_cancel_left]
def isVal : Da → Bool | .val (.agg _) => false | .val (.tuple _) => false | .val _ => true | .row .. => false
theorem isVal_dc {d : Da} (h : isVal d = true) : ∃ u, d = .val u ∧ u.oneCell' = true := by
  cases d with
  | row _ _ _ _ => cases h
  | val u => exact ⟨u, rfl, by cases u <;> first | rfl | cases h⟩
/-- Elements of plain values. -/
def PlainEl (m s : Nat) (el : Nat → Nat → Da) : Prop := ∀ i, i < m → ∀ j, j < s → isVal (el i j) = true
theorem plain_owns {w w' : World} {hi lo : Nat} : ∀ {ds : List Da} {vs : List Value}, (∀ d, d ∈ ds → isVal d = true) → RdsL w hi (ds.map Da.dc) vs → OwnsL w' lo (ds.map Da.dc) vs [] ∧ ∀ v, v ∈ vs → v.oneCell' = true
  | [], vs, _, h => by simp only [List.map_nil, RdsL] at h; subst h; exact ⟨by simp [OwnsL], fun v hv => by cases hv⟩
  | d :: ds, vs, hp, h => by
    simp only [List.map_cons, RdsL] at h
    obtain ⟨v, vs', rfl, h1, h2⟩ := h
    obtain ⟨u, rfl, hu⟩ := isVal_dc (hp d (by simp))
    simp only [Da.dc, Rds] at h1
    subst h1
    obtain ⟨h3, h4⟩ := plain_owns (w' := w') (lo := lo) (fun d hd => hp d (by simp [hd])) h2
    refine ⟨?_, fun x hx => ?_⟩
    · simp only [List.map_cons, OwnsL, Da.dc]
      exact ⟨v, vs', [], [], rfl, by simp [Owns], h3, rfl⟩
    · rcases List.mem_cons.1 hx with rfl | hx
      · exact hu
      · exact h4 x hx
theorem ownsL_app {w : World} {lo : Nat} : ∀ {ds es : List Dc} {vs us : List Value} {bs cs : List Nat}, OwnsL w lo ds vs bs → OwnsL w lo es us cs → OwnsL w lo (ds ++ es) (vs ++ us) (bs ++ cs)
  | [], es, vs, us, bs, cs, h, k => by simp only [OwnsL] at h; obtain ⟨rfl, rfl⟩ := h; exact k
  | d :: ds, es, vs, us, bs, cs, h, k => by
    simp only [OwnsL] at h
    obtain ⟨v, vs', b1, b2, rfl, h1, h2, rfl⟩ := h
    simp only [List.cons_append, OwnsL]
    exact ⟨v, vs' ++ us, b1, b2 ++ cs, rfl, h1, ownsL_app h2 k, by rw [List.append_assoc]⟩
section
variable {P : Program} {W0 : World} {s : St} {ρ : Roots} {o : Oper} {a : Act} {w : World}
theorem app_zero {base : Nat} {t ty e : TypeId} {i : TypeInfo} (ht : P.underlying t = some (.slice e)) (hi : P.info? e = some i) {v : Value} {n : Nat} {xs : List Value} {sz : Nat} (hown : Ow.At w base e sz v n xs) (A : Option Addr) (c : Nat) :
    (Builtin.append_ #[t, t] ty #[v, .slice A 0 c]).run P w = .ok v w := by
  rcases hown.2 with ⟨rfl, _⟩ | ⟨_, _, _, _, rfl, _, _, hn, _⟩
  · cases A <;> simp [Builtin.append_, run_underlying ht, sizeOf, typeInfo, hi, Builtin.lenOf, Builtin.firstCells, loadCells, loadCellsFrom, storeCells]
  · cases A <;> simp [Builtin.append_, run_underlying ht, sizeOf, typeInfo, hi, Builtin.lenOf, Builtin.firstCells, hn, storeCells, loadCells, loadCellsFrom]
/-- The row that is appended to: its object (none: the nil slice), what it holds. -/
def dstRow (obs : Nat → Ob) (E : TypeId) (sz : Nat) : AV → Option (Option Nat × Nat × (Nat → Nat → Da))
  | .one (.own q) => match obs q with | .own (.row E' sz' n el) => (match Nat.beq E E' && Nat.beq sz sz' with | true => some (some q, n, el) | false => none) | _ => none
  | .one (.val (.slice none 0 0)) => some (none, 0, fun _ _ => .val undef)
  | _ => none
def srcRow (obs : Nat → Ob) (sz : Nat) : AV → Option (Nat × (Nat → Nat → Da))
  | .one (.own q) => match obs q with | .own (.row _ sz' n el) => (match Nat.beq sz sz' with | true => some (n, el) | false => none) | _ => none
  | .one (.old (.row _ sz' n el)) => (match Nat.beq sz sz' with | true => some (n, el) | false => none)
  | .one (.val (.slice none 0 0)) => some (0, fun _ _ => .val undef)
  | _ => none
theorem src_ok (h : Sat W0 s ρ a w) {x : Operand} {sz m : Nat} {el : Nat → Nat → Da} (hx : srcRow s.obs sz (St.ev s x) = some (m, el)) : ∃ A c vs hi, a.eval x = .slice A m c ∧ Rd w hi sz A m vs ∧ RdsL w hi (flat m sz el) vs := by
  have hv := ev_ok h x
  unfold srcRow at hx
  split at hx
  · next q hq =>
    split at hx
    · next E sz' n el' ho =>
      split at hx
      · next hb =>
        cases hx
        obtain rfl := Nat.eq_of_beq_eq_true hb
        rw [hq] at hv
        obtain ⟨_, bs, hρ⟩ := hv
        obtain ⟨r, bs', hρ', hown⟩ := own_of h.mem ho
        rw [hρ] at hρ'
        injection hρ' with hρ'
        injection hρ' with e1 e2
        have hr := owns_rds _ _ _ hown
        simp only [Da.dc, Rds] at hr
        obtain ⟨A, c, vs, e, h1, h2⟩ := hr
        exact ⟨A, c, vs, _, e1.trans e, h1, h2⟩
      · cases hx
    · cases hx
  · next E sz' n el' hq =>
    split at hx
    · next hb =>
      cases hx
      obtain rfl := Nat.eq_of_beq_eq_true hb
      rw [hq] at hv
      have hr := rds_on (shs_rds _ _ (show Shs W0 W0.heap.size (Da.row E sz m el).dc (a.eval x) from hv)) h.mem.below
      simp only [Da.dc, Rds] at hr
      obtain ⟨A, c, vs, e, h1, h2⟩ := hr
      exact ⟨A, c, vs, _, e, h1, h2⟩
    · cases hx
  · next hq =>
    cases hx
    rw [hq] at hv
    exact ⟨none, 0, [], w.heap.size, hv, Rd.nil, by simp [flat, RdsL]⟩
  · cases hx
def killed : Option Nat → List (Nat × Ob) | some q => [(q, .gone)] | none => []
def eAppend (P : Program) (id : Nat) (obs : Nat → Ob) (ev : Operand → AV) (t : TypeId) (x y : Operand) : Option Eff :=
  match obs id, P.underlying t with
  | .un, some (.slice E) => match P.info? E with
    | some i => match i.zero with
      | some z => match Nat.beq z.cells.size i.size && Nat.ble 1 i.size, dstRow obs E i.size (ev x), srcRow obs i.size (ev y) with
        | true, some (q, n, el), some (m, el2) => some ⟨[PlainEl m i.size el2, n + m ≤ 1000000000000, (n + m) * i.bytes ≤ 140737488355328], .one (.own id), killed q ++ [(id, .own (.row E i.size (n + m) (appEl n el el2)))]⟩
        | _, _, _ => none
      | none => none
    | none => none
  | _, _ => none
theorem append_ok {id : Nat} {c : Call} {t : TypeId} {x y : Operand} {e : Eff} (ho : o.op = .call c) (hc : c.callee = .builtin .append) (ha : c.args = #[x, y]) (ht : c.argTypes = #[t, t]) (h : Sat W0 s ρ a w) (he : eAppend P id s.obs (St.ev s) t x y = some e) (hne : allP e.need) : Goes P o a w (EffPost W0 s.obs ρ e) := by
  unfold eAppend at he
  split at he
  · next E hid hu =>
    split at he
    · next i hi =>
      split at he
      · next z hz =>
        split at he
        · next q n el m el2 hb hd hs =>
          cases he
          rw [Bool.and_eq_true] at hb
          have hzs := Nat.eq_of_beq_eq_true hb.1
          have hsz := Nat.le_of_ble_eq_true hb.2
          obtain ⟨hpl, hn1, hn2⟩ := hne
          obtain ⟨A, cc, news, hi2, hy, hrd, hrl⟩ := src_ok h hs
          have hplain : ∀ d, d ∈ (List.range (m * i.size)).map (fun q => el2 (q / i.size) (q % i.size)) → isVal d = true := fun d hd => by
            obtain ⟨q, hq, rfl⟩ := List.mem_map.1 hd
            have hq := List.mem_range.1 hq
            exact hpl _ (by rw [Nat.div_lt_iff_lt_mul (by omega)]; exact hq) _ (Nat.mod_lt _ (by omega))
          have hflat : flat m i.size el2 = ((List.range (m * i.size)).map (fun q => el2 (q / i.size) (q % i.size))).map Da.dc := by unfold flat; rw [List.map_map]; rfl
          rw [hflat] at hrl
          have hon := fun w' => plain_owns (w' := w') (lo := W0.heap.size) hplain hrl
          -- the row that grows
          have hdst : ∃ v bs obs1 ρ1, a.eval x = v ∧ Le ρ ρ1 ∧ Mem W0 obs1 ρ1 w ∧ Owns w W0.heap.size (.row E i.size n (flat n i.size el)) v bs ∧ bs.Nodup ∧ (∀ (q : Nat) (p : Value × List Nat), ρ1 q = some p → ∀ b, b ∈ p.2 → b ∉ bs) ∧ obs1 id = .un ∧
              app s.obs (killed q ++ [(id, .own (.row E i.size (n + m) (appEl n el el2)))]) = upd obs1 id (.own (.row E i.size (n + m) (appEl n el el2))) := by
            have hv := ev_ok h x
            unfold dstRow at hd
            split at hd
            · next q' hq =>
              split at hd
              · next E' sz' n' el' hob =>
                split at hd
                · next hb2 =>
                  cases hd
                  rw [Bool.and_eq_true] at hb2
                  obtain rfl := Nat.eq_of_beq_eq_true hb2.1
                  have e2 := Nat.eq_of_beq_eq_true hb2.2
                  subst e2
                  rw [hq] at hv
                  obtain ⟨_, bs, hρ⟩ := hv
                  obtain ⟨r, bs', hρ', hown⟩ := own_of h.mem hob
                  rw [hρ] at hρ'
                  injection hρ' with hρ'
                  injection hρ' with e1 e2
                  subst e1; subst e2
                  have hr : ∀ p, ρ q' = some p → p.1 = a.eval x := fun p hp => by rw [hρ] at hp; cases hp; rfl
                  have hne2 : id ≠ q' := fun e => by rw [e, hob] at hid; cases hid
                  refine ⟨_, bs, upd s.obs q' .gone, upd ρ q' (some (a.eval x, [])), rfl, Le.upd ρ q' _ _ hr, h.mem.turn (cs := []) hr (turned_refl w _) (fun b hb => by cases hb) (fun _ _ _ _ _ _ hb => by cases hb) (fun b hb => by cases hb) (by simp) ⟨_, upd_same _ _ _⟩, hown, h.mem.nodup _ _ hρ, fun q p hp b hb hb2 => ?_, by rw [upd_ne _ _ hne2]; exact hid, rfl⟩
                  by_cases e : q = q'
                  · subst e
                    rw [upd_same] at hp
                    cases hp
                    cases hb
                  · rw [upd_ne _ _ e] at hp
                    exact h.mem.apart q q' p _ e hp hρ b hb hb2
                · cases hd
              · cases hd
            · next hq =>
              cases hd
              rw [hq] at hv
              refine ⟨_, [], s.obs, ρ, hv, Le.refl _, h.mem, ?_, ?_, ?_, hid, rfl⟩
              · simp only [Owns]
                exact ⟨[], [], ⟨by simp, .inl ⟨rfl, rfl⟩⟩, by simp [flat, OwnsL], by simp [Value.ownBlock]⟩
              · simp
              · intro _ _ _ _ _ hb
                cases hb
            · cases hd
          obtain ⟨v, bs, obs1, ρ1, hx, hl1, hm1, hown, hnd, hfar, hun, happ⟩ := hdst
          have hown2 := hown
          simp only [Owns] at hown2
          obtain ⟨vs, b2, hat, hol, hbs⟩ := hown2
          have hnone : ρ1 id = none := by have := hm1.all id; rw [hun] at this; exact this
          have hflat2 : (Da.row E i.size (n + m) (appEl n el el2)).dc = .row E i.size (n + m) (flat n i.size el ++ flat m i.size el2) := by rw [← flat_app (by omega)]; rfl
          have hexec : ∀ v' w', (Builtin.append_ #[t, t] o.type #[v, .slice A m cc]).run P w = .ok v' w' → (execOp a.eval o).run P w = .ok (.value v') w' := fun v' w' hr => by
            unfold execOp
            simp only [ho, resolve, hc, ha, ht, invoke, builtin, Sem.run_bind, Sem.run_pure, Result.andThen_ok, List.map_toArray, List.map_cons, List.map_nil, hx, hy, hr]
          rcases Nat.eq_zero_or_pos m with hm0 | hm0
          · subst hm0
            have hnews : news = [] := List.eq_nil_of_length_eq_zero (by simpa using hrd.1)
            subst hnews
            have hr : ∀ p, ρ1 id = some p → p.1 = v := fun p hp => by rw [hnone] at hp; cases hp
            have hone : v.oneCell' = true := by obtain ⟨A', c', rfl⟩ := hat.nil_form; rfl
            refine goes_value (hexec v w (app_zero (P := P) hu hi hat A cc)) ⟨_, hl1.trans (Le.upd ρ1 id v bs hr), ?_, hone, bs, upd_same _ _ _⟩
            rw [happ]
            refine hm1.turn (cs := bs) hr (turned_refl w _) (fun b hb => (owns_in _ _ _ hown b hb).1) (fun q p hne hp b hb hb2 => hfar q p hp b hb hb2) (fun b hb => .inl hb) hnd ⟨v, bs, upd_same _ _ _, ?_⟩
            rw [hflat2, show flat 0 i.size el2 = [] by simp [flat], List.append_nil]
            exact hown
          · obtain ⟨b, off, hA, hbh, hcell⟩ := hrd.2 hm0
            subst hA
            obtain ⟨g, goff, cap, w', hrun, hat2, hgr, hg, hgl⟩ := Ow.run_app (P := P) w W0.heap.size t o.type E i z i.size i.bytes hu hi hz rfl rfl hzs (by omega) v n vs hat ⟨b, off, none⟩ m cc news hrd.1 (fun j u hj => by
              have hlt : j < m * i.size := by rw [← hrd.1]; exact (List.getElem?_eq_some_iff.1 hj).1
              rw [add_off, hcell j hlt]; exact hj) (hon w).2 hm0 (by unfold maxLen; omega) hn2 hm1.below.size w.heap.size rfl
            have hr : ∀ p, ρ1 id = some p → p.1 = .slice (some ⟨g, goff, none⟩) (n + m) cap := fun p hp => by rw [hnone] at hp; cases hp
            refine goes_value (hexec _ w' hrun) ⟨_, hl1.trans (Le.upd ρ1 id (.slice (some ⟨g, goff, none⟩) (n + m) cap) (g :: b2) hr), ?_, rfl, g :: b2, upd_same _ _ _⟩
            rw [happ]
            have hsub : ∀ b, b ∈ b2 → b ∈ bs := fun b hb => by rw [hbs]; exact List.mem_append_right _ hb
            have hgin : g ∈ bs ∨ w.heap.size ≤ g := by
              rcases hg with hg | hg
              · left; rw [hbs, hg]; simp
              · right; omega
            have hgne : g ∉ b2 := fun hb => by
              rcases hg with hg | hg
              · rw [hbs, hg] at hnd
                simp at hnd
                exact hnd.1 hb
              · have := (ownsL_in _ _ _ hol g hb).2; omega
            have hb2 : b2.Nodup := by rw [hbs] at hnd; exact (List.nodup_append.1 hnd).2.1
            have hturn : Turned w w' v.ownBlock.toList := turned_grown hgr
            refine hm1.turn (cs := bs) hr (turned_more hturn (fun b hb => by rw [hbs]; exact List.mem_append_left _ hb)) (fun b hb => (owns_in _ _ _ hown b hb).1) (fun q p hne hp b hb hb2 => hfar q p hp b hb hb2) (fun b hb => ?_) (List.nodup_cons.2 ⟨hgne, hb2⟩) ⟨_, _, upd_same _ _ _, ?_⟩
            · rcases List.mem_cons.1 hb with rfl | hb
              · exact hgin
              · exact .inl (hsub b hb)
            · rw [hflat2]
              simp only [Owns]
              have hol2 : OwnsL w' W0.heap.size (flat n i.size el) vs b2 := ownsL_turned hol hturn (fun b hb hb3 => by
                rw [hbs] at hnd
                exact (List.nodup_append.1 hnd).2.2 b hb3 b hb rfl)
              have hoa := ownsL_app hol2 (hon w').1
              rw [← hflat, List.append_nil] at hoa
              exact ⟨vs ++ news, b2, hat2, hoa, rfl⟩
        · cases he
      · cases he
    · cases he
  · cases he
end
end Go.Proofs.YtllaacdikjffmaaGreat.E9

-- part E9q
/-
  A symbolic run: two structs held against each other.
-/
namespace Go.Proofs.YtllaacdikjffmaaGreat.E9q
open Go.ChangeShapes Go.WideShapes Go.ChangeAt Go.RowKit
open S0 S1 S9 E0 E1 E2 E3 E4 E5 E6
set_option linter.unusedVariables false
set_option maxRecDepth 100000
def partV (P : Program) (t : TypeId) (xs : Array Value) (off : Nat) : Option Value :=
  match P.underlying t with
  | some (.struct _) => match P.info? t with | some i => some (.agg ((xs.toList.drop off).take i.size).toArray) | none => none
  | some .bool => xs.toList[off]?
  | some (.int _) => xs.toList[off]?
  | some .string => xs.toList[off]?
  | _ => none
def eqFs (P : Program) (rec : TypeId → Value → Value → Option Bool) (xs ys : Array Value) : List Field → Option Bool
  | [] => some true
  | f :: fs => match decide (f.name = "_"), partV P f.type xs f.offset, partV P f.type ys f.offset with
    | false, some a, some b => match rec f.type a b, eqFs P rec xs ys fs with | some r, some r' => some (r && r') | _, _ => none
    | _, _, _ => none
def eqV (P : Program) : Nat → TypeId → Value → Value → Option Bool
  | 0, _, _, _ => none
  | d + 1, t, a, b => match P.underlying t, a, b with
    | some .bool, .bool x, .bool y => some (x == y)
    | some (.int _), .int k x, .int k' y => match decide (k = k') with | true => some (x == y) | false => none
    | some .string, .string x, .string y => some (x == y)
    | some (.struct fs), .agg xs, .agg ys => match P.stoodInHeld t with | false => eqFs P (eqV P d) xs ys fs.toList | true => none
    | _, _, _ => none
theorem part_run {P : Program} {t : TypeId} {xs : Array Value} {off : Nat} {v : Value} (h : partV P t xs off = some v) (w : World) : (part t xs off).run P w = .ok v w := by
  unfold partV at h
  cases hu : P.underlying t with
  | none => rw [hu] at h; cases h
  | some d =>
    rw [hu] at h
    have hc : (match d with | .struct _ => true | .array _ _ => true | _ => false) = false → xs.toList[off]? = some v → (part t xs off).run P w = .ok v w := fun hd hx => by
      have hx : xs[off]? = some v := by simpa using hx
      cases d <;> first | exact Bool.noConfusion hd | simp [part, isAgg, run_underlying hu, hx]
    cases d with
    | struct fs =>
      cases hi : P.info? t with
      | none => simp only [hi] at h; cases h
      | some i =>
        simp only [hi] at h
        cases h
        simp only [part, isAgg, Sem.run_bind, run_underlying hu, Result.andThen_ok, Sem.run_pure, if_true, run_sizeOf (P := P) (w := w) hi, Program.cellsOf, hi]
        congr 2
        apply Array.ext'
        simp
    | bool => exact hc rfl h
    | int k => exact hc rfl h
    | string => exact hc rfl h
    | _ => cases h
theorem eqFs_run {P : Program} {d : Nat} {rec : TypeId → Value → Value → Option Bool} (hr : ∀ t a b r, rec t a b = some r → ∀ w, (Op.equalIn d t a b).run P w = .ok r w) (xs ys : Array Value) : ∀ (fs : List Field) (r : Bool), eqFs P rec xs ys fs = some r → ∀ w, (Op.eqFields d xs ys fs).run P w = .ok r w
  | [], r, h, w => by cases h; rfl
  | f :: fs, r, h, w => by
    unfold eqFs at h
    split at h
    · next a b hn ha hb =>
      split at h
      · next r1 r2 h1 h2 =>
        cases h
        have hn := of_decide_eq_false hn
        simp only [Op.eqFields, ne_eq, hn, not_false_eq_true, if_true, Sem.run_bind, part_run ha, part_run hb, Result.andThen_ok, hr _ _ _ _ h1]
        cases r1 with
        | true => simpa using eqFs_run hr xs ys fs r2 h2 w
        | false => rfl
      · cases h
    · cases h
theorem eqV_run {P : Program} (k : Nat) : ∀ (d : Nat) (t : TypeId) (a b : Value) (r : Bool), eqV P d t a b = some r → ∀ w, (Op.equalIn (d + k) t a b).run P w = .ok r w
  | 0, t, a, b, r, h, w => by cases h
  | d + 1, t, a, b, r, h, w => by
    unfold eqV at h
    rw [show d + 1 + k = d + k + 1 by omega]
    split at h
    · next x y hu => cases h; exact run_equalIn_bool' w _ t x y hu
    · next q k' x k'' y hu =>
      split at h
      · next hk => cases h; obtain rfl := of_decide_eq_true hk; exact run_equalIn_int w _ t _ _ x y hu
      · cases h
    · next x y hu => cases h; rw [run_equalIn_string w _ t x y hu, beq_toListBytes]
    · next fs xs ys hu =>
      split at h
      · next hs =>
        have hf : P.fieldsOf t = fs := by unfold Program.fieldsOf; rw [hu]
        rw [run_equalIn_agg w _ t xs ys (by rw [hf]; exact hu) hs, hf]
        exact eqFs_run (fun t a b r h w => eqV_run k d t a b r h w) xs ys fs.toList r h w
      · cases h
    · cases h
def negB (neg r : Bool) : Bool := match neg with | true => !r | false => r
def cmpOp (neg : Bool) : BinOp := match neg with | true => .neq | false => .eql
def eEqS (P : Program) (ev : Operand → AV) (neg : Bool) (t : TypeId) (x y : Operand) : Option Eff :=
  match AV.plain (ev x), AV.plain (ev y) with
  | some (.agg us), some (.agg vs) => match P.eqGuardType P.depth t, eqV P 4 t (.agg us) (.agg vs) with
    | false, some r => some ⟨[], .one (.val (.bool (negB neg r))), []⟩
    | _, _ => none
  | _, _ => none
section
variable {P : Program} {W0 : World} {s : St} {ρ : Roots} {o : Oper} {a : Act} {w : World}
theorem eqS_ok {neg : Bool} {t t' : TypeId} {x y : Operand} {e : Eff} (ho : o.op = .binOp (cmpOp neg) t x y t') (h : Sat W0 s ρ a w) (he : eEqS P (St.ev s) neg t x y = some e) : Goes P o a w (EffPost W0 s.obs ρ e) := by
  unfold eEqS at he
  split at he
  · next us vs hx hy =>
    split at he
    · next r hg hq =>
      cases he
      have hxe := plain_av hx (ev_ok h x)
      have hye := plain_av hy (ev_ok h y)
      have hrun := eqV_run 9996 4 t _ _ r hq w
      refine goes_value (v := .bool (negB neg r)) (w' := w) ?_ (left_same h rfl rfl)
      unfold execOp
      rw [ho]
      simp only [hxe, hye, Sem.run_bind, run_eqGuard_agg w _ t x y us vs hg, Result.andThen_ok]
      cases neg with
      | true => simp only [cmpOp, run_neq_struct, hrun, Result.andThen_ok]; rfl
      | false => simp only [cmpOp, run_eql_struct, hrun, Result.andThen_ok]; rfl
    · cases he
  · cases he
end
end Go.Proofs.YtllaacdikjffmaaGreat.E9q

-- part E9c
/-
  A symbolic run: cuts of old rows.
-/
namespace Go.Proofs.YtllaacdikjffmaaGreat.E9c
open Go.ChangeShapes Go.WideShapes Go.ChangeAt Go.RowKit
open S0 S1 S9 E0 E1 E2 E3 E4 E5 E6
set_option linter.unusedVariables false
set_option maxRecDepth 100000
theorem shsL_drop {w : World} {hi : Nat} : ∀ (k : Nat) {ds : List Dc} {vs : List Value}, ShsL w hi ds vs → ShsL w hi (ds.drop k) (vs.drop k)
  | 0, ds, vs, h => by simpa using h
  | k + 1, [], vs, h => by simp only [ShsL] at h; subst h; simp [ShsL]
  | k + 1, d :: ds, vs, h => by
    simp only [ShsL] at h
    obtain ⟨v, vs', rfl, _, h2⟩ := h
    exact shsL_drop k h2
theorem shsL_take {w : World} {hi : Nat} : ∀ (k : Nat) {ds : List Dc} {vs : List Value}, ShsL w hi ds vs → ShsL w hi (ds.take k) (vs.take k)
  | 0, ds, vs, h => by simp [ShsL]
  | k + 1, [], vs, h => by simp only [ShsL] at h; subst h; simp [ShsL]
  | k + 1, d :: ds, vs, h => by
    simp only [ShsL] at h
    obtain ⟨v, vs', rfl, h1, h2⟩ := h
    simp only [List.take_succ_cons, ShsL]
    exact ⟨v, _, rfl, h1, shsL_take k h2⟩
theorem flat_cut (n s l m : Nat) (el : Nat → Nat → Da) (h : l + m ≤ n) : (((List.range (n * s)).map fun q => (el (q / s) (q % s)).dc).drop (l * s)).take (m * s) = (List.range (m * s)).map fun q => (el (q / s + l) (q % s)).dc := by
  have hle : l * s + m * s ≤ n * s := by rw [← Nat.add_mul]; exact Nat.mul_le_mul_right s h
  apply List.ext_getElem
  · simp only [List.length_take, List.length_drop, List.length_map, List.length_range]; omega
  · intro q h1 h2
    have hq : q < m * s := by simpa using h2
    have hs : 0 < s := by rcases Nat.eq_zero_or_pos s with e | e; · subst e; omega
                          · exact e
    have e1 : (l * s + q) / s = q / s + l := by rw [Nat.mul_comm, Nat.mul_add_div hs, Nat.add_comm]
    have e2 : (l * s + q) % s = q % s := by rw [Nat.mul_comm, Nat.mul_add_mod]
    simp [e1, e2]
/-- A part of a row, as its slice is cut. -/
theorem cut_shs {w : World} {E : TypeId} {s n c l h : Nat} {A : Option Addr} {el : Nat → Nat → Da} (hr : Shs w w.heap.size (Da.row E s n el).dc (.slice A n c)) (h1 : l ≤ h) (h2 : h ≤ n) :
    Shs w w.heap.size (Da.row E s (h - l) (fun i j => el (i + l) j)).dc (sliced A l h c s) := by
  simp only [Da.dc, Shs] at hr ⊢
  obtain ⟨A', c', vs, e, hrd, hl, hs⟩ := hr
  injection e with e1 _ e2
  subst e1 e2
  have hc := hs.cap
  refine ⟨_, _, (vs.drop (l * s)).take ((h - l) * s), rfl, ⟨?_, fun hn => ?_⟩, ?_, ⟨by omega, fun hA => ?_, fun a ha => ?_⟩⟩
  · have hle : l * s + (h - l) * s ≤ n * s := by rw [← Nat.add_mul]; exact Nat.mul_le_mul_right s (by omega)
    simp only [List.length_take, List.length_drop, hrd.1]; omega
  · obtain ⟨b, off, rfl, hb, hcell⟩ := hrd.2 (by omega)
    refine ⟨b, off + l * s, ?_, hb, fun j hj => ?_⟩
    · rw [if_neg (by omega)]
      show some (Addr.add ⟨b, off, none⟩ (l * s)) = _
      unfold Addr.add
      split
      · next e0 => rw [e0]; rfl
      · rfl
    · have hle : l * s + (h - l) * s ≤ n * s := by rw [← Nat.add_mul]; exact Nat.mul_le_mul_right s (by omega)
      rw [Nat.add_assoc, hcell _ (by omega), List.getElem?_take, if_pos hj, List.getElem?_drop]
  · rw [← flat_cut n s l (h - l) el (by omega)]
    exact shsL_take _ (shsL_drop _ hl)
  · have hN : A = none := by
      split at hA
      · exact hA
      · cases A with
        | none => rfl
        | some a => cases hA
    obtain ⟨e3, e4⟩ := hs.nil_ hN
    omega
  · split at ha
    · exact hs.spot a ha
    · cases A with
      | none => cases ha
      | some a0 =>
        have h0 := hs.spot a0 rfl
        have : a0.add (l * s) = a := by simpa using ha
        rw [← this]
        unfold Addr.add
        split
        · exact h0
        · rfl
def cutLo (ev : Operand → AV) : Option Operand → Option Int
  | none => some 0
  | some y => match AV.plain (ev y) with | some (.int _ i) => some i | _ => none
def cutHi (ev : Operand → AV) (n : Nat) : Option Operand → Option Int
  | none => some n
  | some y => match AV.plain (ev y) with | some (.int _ i) => some i | _ => none
/-- The number of what is left. -/
def cutN (n : Nat) (lo hi : Option Operand) (l h : Int) : Nat := match lo, hi with
  | none, none => n
  | none, some _ => h.toNat
  | some _, none => n - l.toNat
  | some _, some _ => h.toNat - l.toNat
def cutEl (lo : Option Operand) (l : Int) (el : Nat → Nat → Da) : Nat → Nat → Da := match lo with | none => el | some _ => fun i j => el (i + l.toNat) j
def eCut (P : Program) (ev : Operand → AV) (t : TypeId) (x : Operand) (lo hi mx : Option Operand) : Option Eff :=
  match mx, P.underlying t with
  | none, some (.slice E) => match size? P E, ev x with
    | some k, .one (.old (.row E' sz n el)) => match Nat.beq k sz, cutLo ev lo, cutHi ev n hi with
      | true, some l, some h => some ⟨[0 ≤ l ∧ l ≤ h ∧ h ≤ (n : Int)], .one (.old (.row E' sz (cutN n lo hi l h) (cutEl lo l el))), []⟩
      | _, _, _ => none
    | _, _ => none
  | _, _ => none
section
variable {P : Program} {W0 : World} {s : St} {ρ : Roots} {o : Oper} {a : Act} {w : World}
theorem cut_ok {t : TypeId} {x : Operand} {lo hi mx : Option Operand} {e : Eff} (ho : o.op = .slice t x lo hi mx) (hs : Sat W0 s ρ a w) (he : eCut P (St.ev s) t x lo hi mx = some e) (hn : allP e.need) : Goes P o a w (EffPost W0 s.obs ρ e) := by
  unfold eCut at he
  split at he
  · next E hu =>
    split at he
    · next k E' sz n el hk hx =>
      split at he
      · next l h hb hlo hhi =>
        cases he
        obtain rfl := Nat.eq_of_beq_eq_true hb
        obtain ⟨h0, h1, h2⟩ := hn
        have hv := ev_ok hs x
        rw [hx] at hv
        have hv : Shs W0 W0.heap.size (Da.row E' k n el).dc (a.eval x) := hv
        have hv2 := hv
        simp only [Da.dc, Shs] at hv2
        obtain ⟨A, c, vs, e1, _, _, hsh⟩ := hv2
        rw [e1] at hv
        have hc := hsh.cap
        have hcut := cut_shs hv (l := l.toNat) (h := h.toNat) (by omega) (by omega)
        have hue : P.underlying t = some (.slice (P.elem t)) := by unfold Program.elem; rw [hu]
        have hel : P.elem t = E := by unfold Program.elem; rw [hu]
        have hsz : (sizeOf (P.elem t)).run P w = .ok k w := by
          unfold size? at hk
          cases hi : P.info? E with
          | none => rw [hi] at hk; cases hk
          | some inf =>
            rw [hel, run_sizeOf (P := P) (w := w) hi]
            unfold Program.cellsOf
            rw [hk]; rfl
        have hnew : cutN n lo hi l h = h.toNat - l.toNat ∧ cutEl lo l el = fun i j => el (i + l.toNat) j := by
          cases lo with
          | none =>
            obtain rfl : (0 : Int) = l := by simpa [cutLo] using hlo
            cases hi with
            | none => obtain rfl : (n : Int) = h := by simpa [cutHi] using hhi
                      exact ⟨by simp [cutN], rfl⟩
            | some y => exact ⟨by simp [cutN], rfl⟩
          | some y0 =>
            cases hi with
            | none => obtain rfl : (n : Int) = h := by simpa [cutHi] using hhi
                      exact ⟨by simp [cutN], rfl⟩
            | some y => exact ⟨rfl, rfl⟩
        have hrun : (Instr.sliceAt t (a.eval x) (lo.map a.eval) (hi.map a.eval) (none : Option Value)).run P w = .ok (sliced A l.toNat h.toNat c k) w := by
          rw [run_sliceAt_slice w t _ _ _ _ hue, e1]
          have val : ∀ y i, (match AV.plain (St.ev s y) with | some (.int _ i) => some i | _ => none) = some i → ∃ kd, a.eval y = .int kd i := fun y i hy => by
            split at hy
            · next kd i' hp => cases hy; exact ⟨kd, plain_av hp (ev_ok hs y)⟩
            · cases hy
          cases lo with
          | none =>
            obtain rfl : (0 : Int) = l := by simpa [cutLo] using hlo
            cases hi with
            | none =>
              obtain rfl : (n : Int) = h := by simpa [cutHi] using hhi
              simp only [Option.map_none, run_slice_all w t A n c hue, hsz, Result.andThen_ok]
              rfl
            | some y =>
              obtain ⟨kd, hy⟩ := val y h hhi
              simp only [Option.map_none, Option.map_some, hy, run_slice_h w t A n c hue kd h h1 (by omega), hsz, Result.andThen_ok]
              rfl
          | some y0 =>
            obtain ⟨kd0, hy0⟩ := val y0 l hlo
            cases hi with
            | none =>
              obtain rfl : (n : Int) = h := by simpa [cutHi] using hhi
              simp only [Option.map_none, Option.map_some, hy0, run_slice_l w t A n c hue kd0 l h0 h1, hsz, Result.andThen_ok]
              rfl
            | some y =>
              obtain ⟨kd, hy⟩ := val y h hhi
              simp only [Option.map_some, hy0, hy, run_slice_lh w t A n c hue kd0 kd l h h0 h1 (by omega), hsz, Result.andThen_ok]
        refine goes_value (v := sliced A l.toNat h.toNat c k) (w' := w) ?_ (left_same hs rfl ?_)
        · unfold execOp
          rw [ho]
          simp only [Option.map_none, Sem.run_bind, hrun, Result.andThen_ok]
          rfl
        · show Shs W0 W0.heap.size (Da.row E' k (cutN n lo hi l h) (cutEl lo l el)).dc _
          rw [hnew.1, hnew.2]
          exact hcut
      · cases he
    · cases he
  · cases he
end
end Go.Proofs.YtllaacdikjffmaaGreat.E9c

-- part E9d
/-
  A symbolic run: an own row cut at its beginning (not all of it).
-/
namespace Go.Proofs.YtllaacdikjffmaaGreat.E9d
open Go.ChangeShapes Go.WideShapes Go.ChangeAt Go.RowKit
open S0 S1 S9 E0 E1 E2 E3 E4 E5 E6 E9c
set_option linter.unusedVariables false
set_option maxRecDepth 100000
theorem ownsL_drop {w : World} {lo : Nat} : ∀ (k : Nat) {ds : List Dc} {vs : List Value} {bs : List Nat}, OwnsL w lo ds vs bs → ∃ b1 b2, bs = b1 ++ b2 ∧ OwnsL w lo (ds.drop k) (vs.drop k) b2
  | 0, ds, vs, bs, h => ⟨[], bs, rfl, by simpa using h⟩
  | k + 1, [], vs, bs, h => by
    simp only [OwnsL] at h
    obtain ⟨rfl, rfl⟩ := h
    exact ⟨[], [], rfl, by simp [OwnsL]⟩
  | k + 1, d :: ds, vs, bs, h => by
    simp only [OwnsL] at h
    obtain ⟨v, vs', b1, b2, rfl, _, h2, rfl⟩ := h
    obtain ⟨c1, c2, rfl, h3⟩ := ownsL_drop k h2
    exact ⟨b1 ++ c1, c2, by simp, h3⟩
def eCutOwn (P : Program) (id : Nat) (obs : Nat → Ob) (ev : Operand → AV) (t : TypeId) (x : Operand) (lo hi mx : Option Operand) : Option Eff :=
  match mx, hi, lo, P.underlying t with
  | none, none, some y, some (.slice E) => match size? P E, ev x, AV.plain (ev y), obs id with
    | some k, .one (.own q), some (.int _ l), .un => match obs q with
      | .own (.row E' sz n el) => match Nat.beq k sz && !(Nat.beq sz 1) with
        | true => some ⟨[0 ≤ l ∧ l < (n : Int)], .one (.own id), [(q, .gone), (id, .own (.row E' sz (n - l.toNat) (fun i j => el (i + l.toNat) j)))]⟩
        | false => none
      | _ => none
    | _, _, _, _ => none
  | _, _, _, _ => none
section
variable {P : Program} {W0 : World} {s : St} {ρ : Roots} {o : Oper} {a : Act} {w : World}
theorem cutOwn_ok {id : Nat} {t : TypeId} {x : Operand} {lo hi mx : Option Operand} {e : Eff} (ho : o.op = .slice t x lo hi mx) (hs : Sat W0 s ρ a w) (he : eCutOwn P id s.obs (St.ev s) t x lo hi mx = some e) (hn : allP e.need) : Goes P o a w (EffPost W0 s.obs ρ e) := by
  unfold eCutOwn at he
  split at he
  · next y E hu =>
    split at he
    · next k q kd l hk hx hy hid =>
      split at he
      · next E' sz n el hob =>
        split at he
        · next hb =>
          cases he
          rw [Bool.and_eq_true] at hb
          obtain rfl := Nat.eq_of_beq_eq_true hb.1
          have hk1 : k ≠ 1 := fun e => by subst e; exact absurd hb.2 (by decide)
          obtain ⟨h0, h1⟩ := hn
          have hv := ev_ok hs x
          rw [hx] at hv
          obtain ⟨_, bs, hρ⟩ := hv
          obtain ⟨r, bs', hρ', hown⟩ := own_of hs.mem hob
          rw [hρ] at hρ'
          injection hρ' with hρ'
          injection hρ' with e1 e2
          subst e1; subst e2
          have hin := owns_in _ _ _ hown
          have hnd := hs.mem.nodup _ _ hρ
          have hown2 := hown
          simp only [Da.dc, Owns] at hown2
          obtain ⟨vs, b2, hat, hol, hbs⟩ := hown2
          obtain ⟨g, off, cap, hA, hg1, hg2⟩ := hat.form (by omega)
          rw [hA] at hat hbs
          have hcap := hat.sh.cap
          have hye := plain_av hy (ev_ok hs y)
          have hcut := hat.cut l.toNat (by omega) hk1
          obtain ⟨c1, c2, hb2, hol2⟩ := ownsL_drop (l.toNat * k) hol
          have hue : P.underlying t = some (.slice (P.elem t)) := by unfold Program.elem; rw [hu]
          have hel : P.elem t = E := by unfold Program.elem; rw [hu]
          have hsz : (sizeOf (P.elem t)).run P w = .ok k w := by
            unfold size? at hk
            cases hi : P.info? E with
            | none => rw [hi] at hk; cases hk
            | some inf =>
              rw [hel, run_sizeOf (P := P) (w := w) hi]
              unfold Program.cellsOf
              rw [hk]; rfl
          have hval : sliced (some ⟨g, off, none⟩) l.toNat n cap k = .slice (some ⟨g, off + l.toNat * k, none⟩) (n - l.toNat) (cap - l.toNat) := by
            unfold sliced
            rw [if_neg (by omega)]
            show Value.slice (some (Addr.add ⟨g, off, none⟩ (l.toNat * k))) _ _ = _
            unfold Addr.add
            split
            · next e0 => rw [e0]; rfl
            · rfl
          have hrun : (execOp a.eval o).run P w = .ok (.value (.slice (some ⟨g, off + l.toNat * k, none⟩) (n - l.toNat) (cap - l.toNat))) w := by
            unfold execOp
            rw [ho]
            simp only [Option.map_none, Option.map_some, hye, Sem.run_bind]
            rw [run_sliceAt_slice w t _ _ _ _ hue, hA, run_slice_l w t _ n cap hue kd l h0 (by omega)]
            simp only [hsz, Result.andThen_ok, hval]
            rfl
          have hflat : ((List.range (n * k)).map fun q => (el (q / k) (q % k)).dc).drop (l.toNat * k) = (List.range ((n - l.toNat) * k)).map fun q => (el (q / k + l.toNat) (q % k)).dc := by
            rw [← flat_cut n k l.toNat (n - l.toNat) el (by omega), List.take_of_length_le]
            rw [List.length_drop, List.length_map, List.length_range, Nat.sub_mul]
            omega
          have hbsub : ∀ b, b ∈ g :: c2 → b ∈ bs := fun b hb => by
            rw [hbs, hb2]
            rcases List.mem_cons.1 hb with rfl | hb
            · simp [Value.ownBlock]
            · exact List.mem_append_right _ (List.mem_append_right _ hb)
          have hnd2 : (g :: c2).Nodup := by
            have hg : (Value.slice (some ⟨g, off, none⟩) n cap).ownBlock.toList = [g] := rfl
            rw [hbs, hb2, hg] at hnd
            have hnd : (g :: (c1 ++ c2)).Nodup := hnd
            rw [List.nodup_cons] at hnd
            exact List.nodup_cons.2 ⟨fun hb => hnd.1 (List.mem_append_right _ hb), (List.nodup_append.1 hnd.2).2.1⟩
          -- the old one ends, the new one begins
          have hr : ∀ p, ρ q = some p → p.1 = a.eval x := fun p hp => by rw [hρ] at hp; cases hp; rfl
          have hne2 : id ≠ q := fun e => by rw [e, hob] at hid; cases hid
          have hm1 : Mem W0 (upd s.obs q .gone) (upd ρ q (some (a.eval x, []))) w := hs.mem.turn (cs := []) hr (turned_refl w _) (fun b hb => by cases hb) (fun _ _ _ _ _ _ hb => by cases hb) (fun b hb => by cases hb) (by simp) ⟨_, upd_same _ _ _⟩
          have hfar : ∀ (q' : Nat) (p : Value × List Nat), upd ρ q (some (a.eval x, [])) q' = some p → ∀ b, b ∈ p.2 → b ∉ bs := fun q' p hp b hb hb3 => by
            by_cases e : q' = q
            · subst e
              rw [upd_same] at hp
              cases hp
              cases hb
            · rw [upd_ne _ _ e] at hp
              exact hs.mem.apart q' q p _ e hp hρ b hb hb3
          have hnone : upd ρ q (some (a.eval x, [])) id = none := by
            have := hm1.all id
            rw [upd_ne _ _ hne2, hid] at this
            exact this
          have hr2 : ∀ p, upd ρ q (some (a.eval x, [])) id = some p → p.1 = .slice (some ⟨g, off + l.toNat * k, none⟩) (n - l.toNat) (cap - l.toNat) := fun p hp => by rw [hnone] at hp; cases hp
          refine goes_value hrun ⟨_, (Le.upd ρ q (a.eval x) [] hr).trans (Le.upd _ id (.slice (some ⟨g, off + l.toNat * k, none⟩) (n - l.toNat) (cap - l.toNat)) (g :: c2) hr2), ?_, rfl, g :: c2, upd_same _ _ _⟩
          show Mem W0 (upd (upd s.obs q .gone) id _) _ w
          refine hm1.turn (cs := bs) hr2 (turned_refl w _) (fun b hb => (hin b hb).1) (fun q' p hne hp b hb hb3 => hfar q' p hp b hb hb3) (fun b hb => .inl (hbsub b hb)) hnd2 ⟨_, _, upd_same _ _ _, ?_⟩
          simp only [Da.dc, Owns]
          rw [← hflat]
          exact ⟨_, c2, hcut, hol2, rfl⟩
        · cases he
      · cases he
    · cases he
  · cases he
end
end Go.Proofs.YtllaacdikjffmaaGreat.E9d

-- part E9e
/-
  A symbolic run: a plain cell of an own row's element is stored anew.
-/
namespace Go.Proofs.YtllaacdikjffmaaGreat.E9e
open Go.ChangeShapes Go.WideShapes Go.ChangeAt Go.RowKit
open S0 S1 S9 Dm E0 E1 E2 E3 E4 E5
set_option linter.unusedVariables false
set_option maxRecDepth 100000
/-- Cell f of element i is d now. -/
def putEl (el : Nat → Nat → Da) (i f : Nat) (d : Da) : Nat → Nat → Da := fun a b => match Nat.beq a i && Nat.beq b f with | true => d | false => el a b
def eStoreEl (P : Program) (obs : Nat → Ob) (ev : Operand → AV) (t : TypeId) (x y : Operand) : Option Eff :=
  match ev x with
  | .one (.elo q sz i f) => match size? P t, ev y with
    | some 1, .one (.val u) => match obs q with
      | .own (.row E sz' n el) => match Nat.beq sz sz' && Nat.blt f sz && Sc.isOne (.val u), el i f with
        | true, .val _ => some ⟨[], .one (.val undef), [(q, .own (.row E sz' n (putEl el i f (.val u))))]⟩
        | _, _ => none
      | _ => none
    | _, _ => none
  | _ => none
theorem put_dc {E : TypeId} {sz n i f : Nat} {el : Nat → Nat → Da} {u : Value} (hf : f < sz) : (Da.row E sz n (putEl el i f (.val u))).dc = .row E sz n (((List.range (n * sz)).map fun q => (el (q / sz) (q % sz)).dc).set (i * sz + f) (.val u)) := by
  show Dc.row E sz n _ = _
  congr 1
  apply List.ext_getElem?
  intro q
  rw [List.getElem?_set]
  simp only [List.getElem?_map, List.length_map, List.length_range]
  by_cases hq : q < n * sz
  · rw [List.getElem?_range hq]
    simp only [Option.map_some]
    by_cases e : i * sz + f = q
    · rw [if_pos e, if_pos (by omega)]
      have h1 : q / sz = i := by rw [← e, Nat.mul_comm, Nat.mul_add_div (by omega), Nat.div_eq_of_lt hf, Nat.add_zero]
      have h2 : q % sz = f := by rw [← e, Nat.mul_comm, Nat.mul_add_mod, Nat.mod_eq_of_lt hf]
      unfold putEl
      rw [h1, h2, Nat.beq_refl, Nat.beq_refl]
      rfl
    · rw [if_neg e]
      unfold putEl
      have hne : (Nat.beq (q / sz) i && Nat.beq (q % sz) f) = false := by
        cases h1 : Nat.beq (q / sz) i with
        | false => rfl
        | true =>
          cases h2 : Nat.beq (q % sz) f with
          | false => rfl
          | true =>
            exfalso
            have h1 := Nat.eq_of_beq_eq_true h1
            have h2 := Nat.eq_of_beq_eq_true h2
            have := Nat.div_add_mod q sz
            rw [h1, h2, Nat.mul_comm] at this
            exact e this
      rw [hne]
  · have hn : (List.range (n * sz))[q]? = none := List.getElem?_eq_none (by simp; omega)
    rw [hn]
    by_cases e : i * sz + f = q
    · rw [if_pos e, if_neg (by omega)]; rfl
    · rw [if_neg e]; rfl
section
variable {P : Program} {W0 : World} {s : St} {ρ : Roots} {o : Oper} {a : Act} {w : World}
theorem storeEl_ok {t : TypeId} {x y : Operand} {e : Eff} (ho : o.op = .store t x y) (h : Sat W0 s ρ a w) (he : eStoreEl P s.obs (St.ev s) t x y = some e) : Goes P o a w (EffPost W0 s.obs ρ e) := by
  unfold eStoreEl at he
  split at he
  · next q sz i f hx =>
    split at he
    · next u hk hy =>
     split at he
     · next E sz' n el hq =>
       split at he
       · next u0 hb hel =>
         cases he
         rw [Bool.and_eq_true, Bool.and_eq_true] at hb
         obtain rfl := Nat.eq_of_beq_eq_true hb.1.1
         have hf : f < sz := by have := hb.1.2; rwa [Nat.blt_eq] at this
         have hone := hb.2
         have hv := ev_ok h x
         rw [hx] at hv
         obtain ⟨b, off, n', c, bs, hρ, hi, hxe⟩ := hv
         have hye : a.eval y = u := by have := ev_ok h y; rw [hy] at this; exact this
         obtain ⟨r', bs', hρ', hown⟩ := own_of h.mem hq
         rw [hρ] at hρ'
         cases hρ'
         have hn : n' = n := by
           have hh := hown
           simp only [Da.dc, Owns] at hh
           obtain ⟨vs, b2, hat, _, _⟩ := hh
           obtain ⟨A, c', e5⟩ := hat.nil_form
           injection e5
         subst hn
         have hlt : i * sz + f < n' * sz := by
           have : (i + 1) * sz ≤ n' * sz := Nat.mul_le_mul_right sz hi
           rw [Nat.add_mul, Nat.one_mul] at this
           omega
         have hget : ((List.range (n' * sz)).map fun q => (el (q / sz) (q % sz)).dc)[i * sz + f]? = some (.val u0) := by
           rw [List.getElem?_map, List.getElem?_range hlt, Option.map_some]
           have h1 : (i * sz + f) / sz = i := by rw [Nat.mul_comm, Nat.mul_add_div (by omega), Nat.div_eq_of_lt hf, Nat.add_zero]
           have h2 : (i * sz + f) % sz = f := by rw [Nat.mul_comm, Nat.mul_add_mod, Nat.mod_eq_of_lt hf]
           rw [h1, h2, hel]; rfl
         obtain ⟨g, off2, u1, b1, e1, hlo, hglt, hcell, hfrz, hown1, _, _, hset⟩ := owns_at (show Owns w W0.heap.size (.row E sz n' _) (.slice (some ⟨b, off, none⟩) n' c) bs from hown) (h.mem.nodup _ _ hρ) hget
         injection e1 with e1
         injection e1 with e1 e2 _
         subst e1 e2
         obtain ⟨_, hb1⟩ := owns_val hown1
         obtain ⟨hown2, hturn⟩ := hset hb1 u
         have hcs : u.cells.toList = [u] := by
           cases u <;> first | rfl | cases hone
         have hone' : ∀ v, v ∈ u.cells.toList → v.oneCell' = true := fun v hv => by
           rw [hcs] at hv
           obtain rfl := List.mem_singleton.1 hv
           cases v <;> first | rfl | cases hone
         have hrun : (Instr.storeAt t (.pointer (some ⟨b, off + (i * sz + f), none⟩)) u).run P w = .ok () (w.setCell ⟨b, off + (i * sz + f), none⟩ u) := by
           have hst := run_storeCells_cells (P := P) b (off + (i * sz + f)) u.cells.toList 0 w (fun j hj => by
             rw [hcs] at hj
             obtain rfl : j = 0 := by simpa using hj
             simp [hcell]) (fun j hj => by
             rw [hcs] at hj
             obtain rfl : j = 0 := by simpa using hj
             simpa using hfrz) hone'
           rw [Nat.add_zero] at hst
           unfold size? at hk
           cases hinf : P.info? t with
           | none => rw [hinf] at hk; cases hk
           | some inf =>
             rw [hinf] at hk
             have hsz : inf.size = 1 := by simpa using hk
             have hne : ¬ (u.cells.size ≠ 1) := by rw [← Array.length_toList, hcs]; simp
             simp only [Instr.storeAt, Instr.sureAddr, Sem.run_bind, Sem.run_pure, Result.andThen_ok, storeVar, run_sizeOf (P := P) (w := w) hinf]
             have : P.cellsOf t = 1 := by unfold Program.cellsOf; rw [hinf]; simpa using hsz
             rw [this, if_neg hne]
             have hst2 : (storeCells ⟨b, off + (i * sz + f), none⟩ u.cells.toList).run P w = .ok () (w.setCell ⟨b, off + (i * sz + f), none⟩ u) := by
               rw [hst, hcs]; rfl
             simpa using hst2
         refine goes_skip (w' := w.setCell ⟨b, off + (i * sz + f), none⟩ u) ?_ ?_
         · unfold execOp
           rw [ho]
           simp only [hxe, hye, Sem.run_bind, hrun, Result.andThen_ok]
           rfl
         · have hr : ∀ p, ρ q = some p → p.1 = .slice (some ⟨b, off, none⟩) n' c := fun p hp => by rw [hρ] at hp; cases hp; rfl
           have hl1 := Le.upd ρ q (.slice (some ⟨b, off, none⟩) n' c) bs hr
           refine ⟨_, hl1, ?_, rfl⟩
           refine h.mem.turn (cs := bs) hr hturn (fun b' hb' => (h.mem.in_ hρ b' hb').1) (fun q' p hne hp b' hb1 hb2 => h.mem.apart q' q p _ hne hp hρ b' hb1 hb2) (fun b' hb' => .inl hb') (h.mem.nodup _ _ hρ) ?_
           refine ⟨_, _, upd_same _ _ _, ?_⟩
           rw [put_dc hf]
           exact hown2
       · cases he
     · cases he
    · cases he
  · cases he
end
end Go.Proofs.YtllaacdikjffmaaGreat.E9e
