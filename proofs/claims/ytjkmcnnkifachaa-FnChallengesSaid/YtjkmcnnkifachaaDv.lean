/-
  Draws that keep variables of structs: what a cursor's draw leaves of them, and what setting them leaves of the cursor.
-/
import Derived.Test.YtjkmcnnkifachaaC0
import Derived.Test.YtjkmcnnkifachaaDg
namespace Go.Proofs.Ytjkmcnnkifachaa.Dv
open Go.ChangeShapes Go.WideShapes Go.ChangeAt Go.RowKit
open C0 S0 S9 Dm Fx
set_option linter.unusedVariables false
theorem grown_turned {w w' w'' : World} {row : Option Nat} {bs : List Nat} (h : w.grownBy w' row) (t : Turned w' w'' bs) (hb : ∀ b, b ∈ bs → w.heap.size ≤ b) : w.grownBy w'' row :=
  ⟨t.1.trans h.os, t.2.1.trans h.tape, t.2.2.1.trans h.output, Nat.le_trans h.size t.2.2.2.1, fun k hk hr => (t.2.2.2.2 k (Nat.lt_of_lt_of_le hk h.size) (fun hx => by have := hb k hx; omega)).trans (h.block k hk hr)⟩
theorem turned_one {w w' : World} {g : Nat} (t : Turned w w' [g]) : w.grownBy w' (some g) :=
  ⟨t.1, t.2.1, t.2.2.1, t.2.2.2.1, fun k hk hr => t.2.2.2.2 k hk (fun hx => hr (by rw [List.mem_singleton.1 hx]))⟩
theorem cur_turned {w w' : World} {B H0 g : Nat} (C : IsCur w B H0) (t : Turned w w' [g]) (hg : g ≠ B) (h0 : H0 ≤ g) : IsCur w' B H0 :=
  C.kept (turned_one t) (fun e => hg (by cases e; rfl)) (fun r h => by cases h; exact h0)
theorem owns_drawn {w w' : World} {lo T size g B : Nat} {cs : List Value} (h : Owns w lo (varD T size cs) (.slice (some ⟨g, 0, none⟩) 1 1) [g]) (hg : w.grownBy w' (some B)) (hb : g ≠ B) : Owns w' lo (varD T size cs) (.slice (some ⟨g, 0, none⟩) 1 1) [g] :=
  owns_turned h (turned_grown hg) (fun b h1 h2 => by simp at h1 h2; omega)
theorem grown_alloc {w w' : World} {row : Option Nat} (h : w.grownBy w' row) (o : Obj) : w.grownBy (w'.alloc o) row := grown_trans h (World.grownBy_alloc w' o row)
/-- A variable, new. -/
theorem new_var (w : World) (T size B H0 : Nat) (cs : List Value) (hl : cs.length = size) (C : IsCur w B H0) :
    Owns (w.alloc (.cells cs.toArray T)) w.heap.size (varD T size cs) (.slice (some ⟨w.heap.size, 0, none⟩) 1 1) [w.heap.size] ∧ IsCur (w.alloc (.cells cs.toArray T)) B H0 ∧ w.grownBy (w.alloc (.cells cs.toArray T)) (some B) ∧ w.heap.size ≠ B ∧ H0 ≤ w.heap.size :=
  ⟨var_owns w T size cs hl, C.alloc _, World.grownBy_alloc w _ _, by have := C.lt; omega, by have := C.lt; have := C.low; omega⟩
/-- A variable is set, from a cell on. -/
theorem set_var {w0 w : World} {lo T size g B H0 : Nat} {cs : List Value} (h : Owns w lo (varD T size cs) (.slice (some ⟨g, 0, none⟩) 1 1) [g]) (C : IsCur w B H0) (hG : w0.grownBy w (some B)) (hg : g ≠ B) (h0 : H0 ≤ g) (h1 : w0.heap.size ≤ g) (j : Nat) (ds : List Value) (hj : j + ds.length ≤ cs.length) :
    Owns (setAll w g j ds) lo (varD T size (cs.take j ++ ds ++ cs.drop (j + ds.length))) (.slice (some ⟨g, 0, none⟩) 1 1) [g] ∧ IsCur (setAll w g j ds) B H0 ∧ w0.grownBy (setAll w g j ds) (some B) ∧ w.grownBy (setAll w g j ds) (some g) ∧ (setAll w g j ds).heap.size = w.heap.size := by
  obtain ⟨h2, t⟩ := var_some ds j cs w h hj
  refine ⟨h2, cur_turned C t hg h0, grown_turned hG t (fun b hb => by rw [List.mem_singleton.1 hb]; exact h1), turned_one t, ?_⟩
  clear h h2 t hG C hj
  induction ds generalizing w j with
  | nil => rfl
  | cons x ds ih => exact (ih (w := w.setCell ⟨g, j, none⟩ x) (j := j + 1)).trans (by simp)
theorem below_grown {w w' : World} {row : Option Nat} (b : Below w.heap.size w w') : w.grownBy w' row := ⟨b.os, b.tape, b.output, b.size, fun k hk _ => b.block k hk⟩
theorem cur_below {w w' : World} {B H0 : Nat} (C : IsCur w B H0) (b : Below w.heap.size w w') : IsCur w' B H0 :=
  C.kept (row := none) ⟨b.os, b.tape, b.output, b.size, fun k hk _ => b.block k hk⟩ (by simp) (fun r h => by cases h)
end Go.Proofs.Ytjkmcnnkifachaa.Dv
