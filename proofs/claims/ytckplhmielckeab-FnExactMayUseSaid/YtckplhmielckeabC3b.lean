/-
  Contracts of chapter 3's BytesToInts and DeriveFromString, of the program and of the model.
-/
import Derived.Test.YtckplhmielckeabC3
import Derived.Lib.ConvBytes
namespace Go.Proofs.Ytckplhmielckeab.C3b
open Go.ChangeShapes Go.WideShapes Go.ChangeAt Go.RowKit
open S0 S1 M3 C3
set_option linter.unusedVariables false
/-- Behind k bytes. -/
def Ints (w : World) (xs : List Int) (k : Nat) (v : Value) (wr : World) : Prop :=
  wr.ownsRow w.heap.size 3 1 v (1 + k) (ints .i64 ([(xs.length : Int)] ++ xs.take k)) ∧ Below w.heap.size w wr
theorem Ints.next {w wr w2 : World} {xs : List Int} {k : Nat} {v v2 : Value} {x : Int} {o : Obj} (h : Ints w xs k v wr) (hk : k < xs.length) (hx : x = xs.getD k 0)
    (ho : w2.ownsRow w.heap.size 3 1 v2 (1 + k + 1) (ints .i64 ([(xs.length : Int)] ++ xs.take k) ++ [.int .i64 x])) (hg : (wr.alloc o).grownBy w2 v.ownBlock) : Ints w xs (k + 1) v2 w2 := by
  refine ⟨?_, (h.2.alloc h.2.size o).grown hg (by have := h.2.size; simp; omega) (fun j hj => (h.1.lt j hj).1)⟩
  have e : ints .i64 ([(xs.length : Int)] ++ xs.take (k + 1)) = ints .i64 ([(xs.length : Int)] ++ xs.take k) ++ [.int .i64 x] := by
    have e1 : xs.take (k + 1) = xs.take k ++ [x] := by rw [List.take_succ_eq_append_getElem hk, hx]; simp [List.getElem?_eq_getElem hk]
    rw [e1, ← List.append_assoc, ← ints_app]
    rfl
  rw [e]
  exact ho
/-- The bytes of a string. -/
def sbytes (s : ByteArray) : List Int := s.data.toList.map fun b => (b.toNat : Int)
theorem sbytes_len (s : ByteArray) : (sbytes s).length = s.size := by simp [sbytes]
theorem sbytes_ok (s : ByteArray) : ∀ x ∈ sbytes s, 0 ≤ x ∧ x ≤ 255 := by
  intro x hx
  simp only [sbytes, List.mem_map] at hx
  obtain ⟨b, _, rfl⟩ := hx
  have := b.toNat_lt
  omega
theorem rd_bytes (w : World) (e : TypeId) (s : ByteArray) : Rd (Lib.bytesWorld w e s) (Lib.bytesWorld w e s).heap.size 1 (some ⟨w.heap.size, 0, none⟩) s.size (ints .u8 (sbytes s)) := by
  refine ⟨by rw [ints_len, sbytes_len]; omega, fun hn => ⟨w.heap.size, 0, rfl, by rw [Lib.bytesWorld_size]; omega, fun j hj => ?_⟩⟩
  have hj' : j < s.size := by omega
  rw [Nat.zero_add, Lib.bytesWorld_cell w e s j hj', ints_get .u8 _ j (by rw [sbytes_len]; exact hj')]
  have hl : j < s.data.toList.length := by simpa using hj'
  simp [sbytes, List.getD_eq_getElem?_getD, List.getElem?_eq_getElem hl]
theorem below_bytes (w : World) (e : TypeId) (s : ByteArray) : Below w.heap.size w (Lib.bytesWorld w e s) :=
  ⟨rfl, rfl, rfl, by rw [Lib.bytesWorld_size]; omega, fun k hk => Lib.bytesWorld_at_old w e s k hk⟩
end Go.Proofs.Ytckplhmielckeab.C3b
