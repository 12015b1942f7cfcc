/-
  How a slice that came in is opened; what a row that a call owns keeps while another is written.
-/
import Derived.Test.YtoedfeacpllkeaaS1
import Derived.Test.YtoedfeacpllkeaaFr
namespace Go.Proofs.Ytoedfeacpllkeaa.So
open Go.ChangeShapes Go.WideShapes Go.ChangeAt Go.RowKit
open S0
theorem spot_none {w : World} {a : Addr} {v : Value} (h : w.cell? (a.add 0) = some v) : a.spot = none := by
  cases a with
  | mk b o s =>
    cases s with
    | none => rfl
    | some s =>
      exfalso
      unfold Addr.add at h
      rw [if_pos rfl] at h
      simp only [World.cell?] at h
      split at h
      · simp at h
      · simp at h
theorem add_eq {a : Addr} (h : a.spot = none) (k : Nat) : a.add k = ⟨a.block, a.off + k, none⟩ := by
  cases a with
  | mk b o s =>
    obtain rfl : s = none := h
    unfold Addr.add
    split
    · next h0 => subst h0; rfl
    · rfl
theorem block_lt {w : World} {a : Addr} {v : Value} (h : w.cell? a = some v) : a.block < w.heap.size := by
  by_cases hb : a.block < w.heap.size
  · exact hb
  · have e : w.heap[a.block]? = none := by rw [Array.getElem?_eq_none (by omega)]
    simp [World.cell?, e] at h
def okI (k : IntKind) (x : Int) : Prop := (Lit.int k x).wf = true
theorem okI_u8 {x : Int} (h : okI .u8 x) : 0 ≤ x ∧ x ≤ 255 := by
  unfold okI at h
  simp only [Lit.wf, Bool.and_eq_true, IntKind.min, IntKind.max, IntKind.signed, IntKind.bits] at h
  exact ⟨by simpa using h.1, by simpa using h.2⟩
theorem okI_i64 {x : Int} (h : okI .i64 x) : -9223372036854775808 ≤ x ∧ x ≤ 9223372036854775807 := M1.i64_wf h
theorem cells_uint8 : Try.prog.cellsOf 5 = 1 := by kernel_rfl
set_option maxRecDepth 100000 in
theorem bytes {H : Type} {enc : TypeId × Value → H} {W : World} {b0 : Nat} {v : Value} {d : DataW H} {ps : List MemPlace}
    (hval : Value.okWide Try.prog W .any b0 22 v) (h : DataW.Trod enc Try.prog W 0 (fun _ => true) true 22 v d ps) :
    ∃ (A : Option Addr) (n c : Nat) (xs : List Int), v = .slice A n c ∧ Rd W W.heap.size 1 A n (ints .u8 xs) ∧ n ≤ maxLen ∧ ∀ x ∈ xs, okI .u8 x := by
  obtain ⟨a1, len, cap, rfl⟩ := okWide_slice Try.underlying22 hval
  obtain ⟨fuel, hf⟩ := h
  rcases open_ints Try.underlying22 Try.underlying5 cells_uint8 hf with ⟨hcs, _⟩ | ⟨a, len', cap', zs, hcs, _, hl, hm, hz, _, hcell, hwz⟩
  · simp [Value.cells] at hcs
    obtain ⟨rfl, rfl, rfl⟩ := hcs
    exact ⟨none, 0, 0, [], rfl, Rd.nil, Nat.zero_le _, fun x hx => by cases hx⟩
  · simp [Value.cells] at hcs
    obtain ⟨rfl, rfl, rfl⟩ := hcs
    simp only [if_true] at hz
    have hlt : (zs.take len).length = len := by simp; omega
    refine ⟨some a, len, cap, zs.take len, rfl, ⟨by rw [ints_len, hlt]; omega, fun hn => ?_⟩, by omega, fun x hx => hwz x (List.mem_of_mem_take hx)⟩
    have hs := spot_none (hcell 0 (by omega))
    refine ⟨a.block, a.off, by cases a; simp_all, ?_, fun j hj => ?_⟩
    · have h0 := hcell 0 (by omega)
      rw [add_eq hs] at h0
      exact block_lt (a := ⟨a.block, a.off + 0, none⟩) h0
    · have hc := hcell j (by omega)
      rw [add_eq hs] at hc
      rw [hc, ints_get .u8 _ j (by omega)]
      congr 2
      rw [List.getD_eq_getElem?_getD, List.getD_eq_getElem?_getD, List.getElem?_take, if_pos (by omega)]
theorem cells_int : Try.prog.cellsOf 3 = 1 := by kernel_rfl
set_option maxRecDepth 100000 in
theorem numbers {H : Type} {enc : TypeId × Value → H} {W : World} {b0 : Nat} {v : Value} {d : DataW H} {ps : List MemPlace}
    (hval : Value.okWide Try.prog W .any b0 85 v) (h : DataW.Trod enc Try.prog W 0 (fun _ => true) true 85 v d ps) :
    ∃ (A : Option Addr) (n c : Nat) (xs : List Int), v = .slice A n c ∧ Rd W W.heap.size 1 A n (ints .i64 xs) ∧ n ≤ maxLen ∧ ∀ x ∈ xs, okI .i64 x := by
  obtain ⟨a1, len, cap, rfl⟩ := okWide_slice Try.underlying85 hval
  obtain ⟨fuel, hf⟩ := h
  rcases open_ints Try.underlying85 Try.underlying3 cells_int hf with ⟨hcs, _⟩ | ⟨a, len', cap', zs, hcs, _, hl, hm, hz, _, hcell, hwz⟩
  · simp [Value.cells] at hcs
    obtain ⟨rfl, rfl, rfl⟩ := hcs
    exact ⟨none, 0, 0, [], rfl, Rd.nil, Nat.zero_le _, fun x hx => by cases hx⟩
  · simp [Value.cells] at hcs
    obtain ⟨rfl, rfl, rfl⟩ := hcs
    simp only [if_true] at hz
    have hlt : (zs.take len).length = len := by simp; omega
    refine ⟨some a, len, cap, zs.take len, rfl, ⟨by rw [ints_len, hlt]; omega, fun hn => ?_⟩, by omega, fun x hx => hwz x (List.mem_of_mem_take hx)⟩
    have hs := spot_none (hcell 0 (by omega))
    refine ⟨a.block, a.off, by cases a; simp_all, ?_, fun j hj => ?_⟩
    · have h0 := hcell 0 (by omega)
      rw [add_eq hs] at h0
      exact block_lt (a := ⟨a.block, a.off + 0, none⟩) h0
    · have hc := hcell j (by omega)
      rw [add_eq hs] at hc
      rw [hc, ints_get .i64 _ j (by omega)]
      congr 2
      rw [List.getD_eq_getElem?_getD, List.getD_eq_getElem?_getD, List.getElem?_take, if_pos (by omega)]
/-- The block of what a call owns lies below B. -/
def Lt (v : Value) (B : Nat) : Prop := ∀ k, v.ownBlock = some k → k < B
theorem lt_of {w : World} {base : Nat} {e : TypeId} {size n : Nat} {v : Value} {xs : List Value} (h : w.ownsRow base e size v n xs) : Lt v w.heap.size := fun k hk => (h.lt k hk).2
theorem Lt.mono {v : Value} {B B' : Nat} (h : Lt v B) (hb : B ≤ B') : Lt v B' := fun k hk => Nat.lt_of_lt_of_le (h k hk) hb
/-- What lies lower stays where a higher row is written; and the other way. -/
theorem kept_lo {w w' : World} {base B : Nat} {e e' : TypeId} {size n size' n' : Nat} {v x : Value} {xs ys : List Value} (o : w.ownsRow base e size v n xs) (hv : Lt v B) (hx : w.ownsRow B e' size' x n' ys) (hg : w.grownBy w' x.ownBlock) : w'.ownsRow base e size v n xs := by
  refine o.kept hg ?_
  cases h1 : v.ownBlock with
  | none => exact .inl rfl
  | some k =>
    right
    intro h2
    have h3 := hv k h1
    have h4 := (hx.lt k h2.symm).1
    omega
theorem kept_hi {w w' : World} {B : Nat} {e : TypeId} {size n : Nat} {v x : Value} {xs : List Value} (o : w.ownsRow B e size v n xs) (hx : Lt x B) (hg : w.grownBy w' x.ownBlock) : w'.ownsRow B e size v n xs := by
  refine o.kept hg ?_
  cases h1 : v.ownBlock with
  | none => exact .inl rfl
  | some k =>
    right
    intro h2
    have h3 := hx k h2.symm
    have h4 := (o.lt k h1).1
    omega
theorem below_mark {W w w' : World} {base B : Nat} {e : TypeId} {size n : Nat} {x : Value} {ys : List Value} (HB : Below B W w) (hx : w.ownsRow base e size x n ys) (hb : B ≤ base) (hW : B ≤ W.heap.size) (hg : w.grownBy w' x.ownBlock) : Below B W w' :=
  HB.grown hg (Nat.le_trans hW HB.size) (fun k hk => Nat.le_trans hb (hx.lt k hk).1)
end Go.Proofs.Ytoedfeacpllkeaa.So
