/-
  How a slice that came in is opened; what a row that a call owns keeps while another is written.
-/
import Derived.Test.YtckplhmielckeabS1
import Derived.Test.YtckplhmielckeabFr
namespace Go.Proofs.Ytckplhmielckeab.So
open Go.ChangeShapes Go.WideShapes Go.ChangeAt Go.RowKit
open S0
theorem spot_none {w : World} {a : Addr} {v : Value} (h : w.cell? (a.add 0) = some v) : a.spot = none := by
  cases a with
  | mk b o s =>
    cases s with
    | none => rfl
    | some s =>
      exfalso
      unfold Addr.add at h
      rw [if_pos rfl] at h
      simp only [World.cell?] at h
      split at h
      · simp at h
      · simp at h
theorem add_eq {a : Addr} (h : a.spot = none) (k : Nat) : a.add k = ⟨a.block, a.off + k, none⟩ := by
  cases a with
  | mk b o s =>
    obtain rfl : s = none := h
    unfold Addr.add
    split
    · next h0 => subst h0; rfl
    · rfl
theorem block_lt {w : World} {a : Addr} {v : Value} (h : w.cell? a = some v) : a.block < w.heap.size := by
  by_cases hb : a.block < w.heap.size
  · exact hb
  · have e : w.heap[a.block]? = none := by rw [Array.getElem?_eq_none (by omega)]
    simp [World.cell?, e] at h
def okI (k : IntKind) (x : Int) : Prop := (Lit.int k x).wf = true
theorem okI_u8 {x : Int} (h : okI .u8 x) : 0 ≤ x ∧ x ≤ 255 := by
  unfold okI at h
  simp only [Lit.wf, Bool.and_eq_true, IntKind.min, IntKind.max, IntKind.signed, IntKind.bits] at h
  exact ⟨by simpa using h.1, by simpa using h.2⟩
theorem okI_i64 {x : Int} (h : okI .i64 x) : -9223372036854775808 ≤ x ∧ x ≤ 9223372036854775807 := M1.i64_wf h
/-- The block of what a call owns lies below B. -/
def Lt (v : Value) (B : Nat) : Prop := ∀ k, v.ownBlock = some k → k < B
theorem lt_of {w : World} {base : Nat} {e : TypeId} {size n : Nat} {v : Value} {xs : List Value} (h : w.ownsRow base e size v n xs) : Lt v w.heap.size := fun k hk => (h.lt k hk).2
theorem Lt.mono {v : Value} {B B' : Nat} (h : Lt v B) (hb : B ≤ B') : Lt v B' := fun k hk => Nat.lt_of_lt_of_le (h k hk) hb
/-- What lies lower stays where a higher row is written; and the other way. -/
theorem kept_lo {w w' : World} {base B : Nat} {e e' : TypeId} {size n size' n' : Nat} {v x : Value} {xs ys : List Value} (o : w.ownsRow base e size v n xs) (hv : Lt v B) (hx : w.ownsRow B e' size' x n' ys) (hg : w.grownBy w' x.ownBlock) : w'.ownsRow base e size v n xs := by
  refine o.kept hg ?_
  cases h1 : v.ownBlock with
  | none => exact .inl rfl
  | some k =>
    right
    intro h2
    have h3 := hv k h1
    have h4 := (hx.lt k h2.symm).1
    omega
theorem kept_hi {w w' : World} {B : Nat} {e : TypeId} {size n : Nat} {v x : Value} {xs : List Value} (o : w.ownsRow B e size v n xs) (hx : Lt x B) (hg : w.grownBy w' x.ownBlock) : w'.ownsRow B e size v n xs := by
  refine o.kept hg ?_
  cases h1 : v.ownBlock with
  | none => exact .inl rfl
  | some k =>
    right
    intro h2
    have h3 := hx k h2.symm
    have h4 := (o.lt k h1).1
    omega
theorem below_mark {W w w' : World} {base B : Nat} {e : TypeId} {size n : Nat} {x : Value} {ys : List Value} (HB : Below B W w) (hx : w.ownsRow base e size x n ys) (hb : B ≤ base) (hW : B ≤ W.heap.size) (hg : w.grownBy w' x.ownBlock) : Below B W w' :=
  HB.grown hg (Nat.le_trans hW HB.size) (fun k hk => Nat.le_trans hb (hx.lt k hk).1)
end Go.Proofs.Ytckplhmielckeab.So
