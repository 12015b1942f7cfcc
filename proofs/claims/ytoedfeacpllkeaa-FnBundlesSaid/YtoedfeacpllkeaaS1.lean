/-
  Contracts of the laws' own functions over []byte and []int: copy, compare, mark, look at the marks.
-/
import Derived.Test.YtoedfeacpllkeaaS0
namespace Go.Proofs.Ytoedfeacpllkeaa.S1
open Go.ChangeShapes Go.WideShapes Go.ChangeAt Go.RowKit
open S0
set_option linter.unusedVariables false

theorem u8_info : (Try.prog.info? 5).map (fun i => (i.zero, i.size, i.bytes)) = some (some (.int .u8 0), 1, 1) := by kernel_rfl
theorem int_info : (Try.prog.info? 3).map (fun i => (i.zero, i.size, i.bytes)) = some (some (.int .i64 0), 1, 8) := by kernel_rfl
theorem appB (w : World) {ops : Array Oper} {rest : List Oper} {o : Oper} {a : Act} {Q : Exit → Act → World → Prop} (hgd : o.guard = none) (s x : Operand)
    (ho : o.op = .call { callee := .builtin .append, args := #[s, x], argTypes := #[22, 22] }) (base : Nat) (v : Value) (n : Nat) (xs : List Value) (hs : a.eval s = v) (hown : w.ownsRow base 5 1 v n xs)
    (B : Nat) (A : Option Addr) (m c : Nat) (news : List Value) (hx : a.eval x = .slice A m c) (hr : Rd w B 1 A m news) (h1 : ∀ u ∈ news, u.oneCell' = true) (h63 : n + m ≤ 17592186044416) (hbase : base ≤ w.heap.size)
    (h : ∀ v' w', w'.ownsRow base 5 1 v' (n + m) (xs ++ news) → w.grownBy w' v.ownBlock → wpList Try.prog ops Q rest (a.put o.dst v') w') : wpList Try.prog ops Q (o :: rest) a w := by
  obtain ⟨i0, hi, hz0, hz1, hz2⟩ := info_parts u8_info
  exact wpList_app w hgd s x 22 ho base 5 i0 (.int .u8 0) 1 1 Try.underlying22 hi hz0 hz1 hz2 rfl (by decide) v n xs hs hown B A m c news hx hr h1 (by unfold maxLen; omega) (by omega) hbase h
theorem appI (w : World) {ops : Array Oper} {rest : List Oper} {o : Oper} {a : Act} {Q : Exit → Act → World → Prop} (hgd : o.guard = none) (s x : Operand)
    (ho : o.op = .call { callee := .builtin .append, args := #[s, x], argTypes := #[85, 85] }) (base : Nat) (v : Value) (n : Nat) (xs : List Value) (hs : a.eval s = v) (hown : w.ownsRow base 3 1 v n xs)
    (B : Nat) (A : Option Addr) (m c : Nat) (news : List Value) (hx : a.eval x = .slice A m c) (hr : Rd w B 1 A m news) (h1 : ∀ u ∈ news, u.oneCell' = true) (h63 : n + m ≤ 17592186044416) (hbase : base ≤ w.heap.size)
    (h : ∀ v' w', w'.ownsRow base 3 1 v' (n + m) (xs ++ news) → w.grownBy w' v.ownBlock → wpList Try.prog ops Q rest (a.put o.dst v') w') : wpList Try.prog ops Q (o :: rest) a w := by
  obtain ⟨i0, hi, hz0, hz1, hz2⟩ := info_parts int_info
  exact wpList_app w hgd s x 85 ho base 3 i0 (.int .i64 0) 1 8 Try.underlying85 hi hz0 hz1 hz2 rfl (by decide) v n xs hs hown B A m c news hx hr h1 (by unfold maxLen; omega) (by omega) hbase h
def half (xs : List Int) (k n : Nat) : List Int := xs.take k ++ List.replicate (n - k) 0
theorem half_set (xs : List Int) (k n : Nat) (hl : xs.length = n) (hk : k < n) : (half xs k n).set k (xs.getD k 0) = half xs (k + 1) n := by
  unfold half
  have e1 : n - k = (n - (k + 1)) + 1 := by omega
  rw [e1, List.replicate_succ, List.set_append_right _ _ (by simp; omega)]
  have e2 : k - (xs.take k).length = 0 := by simp; omega
  rw [e2, List.set_cons_zero, List.take_succ_eq_append_getElem (i := k) (l := xs) (by omega), List.append_assoc]
  simp [List.getElem?_eq_getElem (by omega : k < xs.length)]
theorem half_zero (xs : List Int) (n : Nat) : half xs 0 n = List.replicate n 0 := by simp [half]
theorem half_all (xs : List Int) (n : Nat) (hl : xs.length = n) : half xs n n = xs := by simp [half, ← hl]
theorem half_len (xs : List Int) (k n : Nat) (hl : xs.length = n) (hk : k ≤ n) : (half xs k n).length = n := by simp [half]; omega
theorem made_ints (kd : IntKind) (n : Nat) : (madeCells (Value.int kd 0).cells (n * 1)).toList = ints kd (List.replicate n 0) := by
  have : (Value.int kd 0).cells = #[.int kd 0] := rfl
  rw [this, toList_madeCells_one]; simp [ints]
/-- The marks: k, k + 1, .. as the kind holds them. -/
def marks (f : Int → Int) (k : Int) : Nat → List Int
  | 0 => []
  | n + 1 => marks f k n ++ [f (k + n)]
theorem marks_len (f : Int → Int) (k : Int) (n : Nat) : (marks f k n).length = n := by
  induction n with
  | zero => rfl
  | succ n ih => simp [marks, ih]
theorem marks_get (f : Int → Int) (k : Int) (n j : Nat) (h : j < n) : (marks f k n).getD j 0 = f (k + j) := by
  induction n with
  | zero => omega
  | succ n ih =>
    unfold marks
    by_cases hj : j < n
    · rw [List.getD_eq_getElem?_getD, List.getElem?_append_left (by rw [marks_len]; omega), ← List.getD_eq_getElem?_getD]; exact ih hj
    · obtain rfl : j = n := by omega
      rw [List.getD_eq_getElem?_getD, List.getElem?_append_right (by rw [marks_len]; omega), marks_len]
      simp
def marked (f : Int → Int) (k : Int) (xs : List Int) (j : Nat) : List Int := marks f k j ++ xs.drop j
theorem marked_set (f : Int → Int) (k : Int) (xs : List Int) (j : Nat) (h : j < xs.length) : (marked f k xs j).set j (f (k + j)) = marked f k xs (j + 1) := by
  unfold marked
  rw [List.set_append_right _ _ (by rw [marks_len]; omega), marks_len, Nat.sub_self, List.drop_eq_getElem_cons h, List.set_cons_zero]
  show _ = (marks f k j ++ [f (k + j)]) ++ _
  simp
theorem marked_all (f : Int → Int) (k : Int) (xs : List Int) (n : Nat) (h : xs.length = n) : marked f k xs n = marks f k n := by simp [marked, ← h]
theorem marked_zero (f : Int → Int) (k : Int) (xs : List Int) : marked f k xs 0 = xs := by simp [marked, marks]
theorem marked_len (f : Int → Int) (k : Int) (xs : List Int) (j n : Nat) (h : xs.length = n) (hj : j ≤ n) : (marked f k xs j).length = n := by
  unfold marked; rw [List.length_append, marks_len, List.length_drop]; omega
def fu8 (x : Int) : Int := x % 256
def fi64 (x : Int) : Int := x
theorem stored_at {w : World} {base E n c g : Nat} {kd : IntKind} {xs : List Int} (h : w.ownsRow base E 1 (.slice (some ⟨g, 0, none⟩) n c) n (ints kd xs)) (j : Nat) (hj : j < n) :
    g < w.heap.size ∧ base ≤ g ∧ w.cell? ⟨g, j, none⟩ = some (.int kd (xs.getD j 0)) ∧ w.frozen? ⟨g, j, none⟩ = false := by
  have hl : xs.length = n := by have := h.1; rw [ints_len] at this; omega
  obtain ⟨h1, h2⟩ := h.lt g rfl
  exact ⟨h2, h1, by rw [h.cellAt j (by omega), ints_get kd xs j (by omega)], h.frozenAt j⟩
def Filled (E : Nat) (kd : IntKind) (w : World) (n : Nat) (xs : List Int) (k : Nat) (wr : World) : Prop :=
  wr.ownsRow w.heap.size E 1 (.slice (some ⟨w.heap.size, 0, none⟩) n n) n (ints kd (half xs k n)) ∧ Below w.heap.size w wr

def MarkedTo (E : Nat) (f : Int → Int) (kd : IntKind) (base : Nat) (A : Option Addr) (n c : Nat) (k : Int) (w : World) (e : Ending) (w' : World) : Prop :=
  e = .returned (.int .i64 (k + n)) ∧ w'.ownsRow base E 1 (.slice A n c) n (ints kd (marks f k n)) ∧ w.grownBy w' (Value.slice A n c).ownBlock
def Marking (E : Nat) (f : Int → Int) (kd : IntKind) (base : Nat) (A : Option Addr) (n c : Nat) (xs : List Int) (k : Int) (j : Nat) (w wr : World) : Prop :=
  wr.ownsRow base E 1 (.slice A n c) n (ints kd (marked f k xs j)) ∧ w.grownBy wr (Value.slice A n c).ownBlock
theorem Marking.addr {E : Nat} {f : Int → Int} {kd : IntKind} {base : Nat} {A : Option Addr} {n c : Nat} {xs : List Int} {k : Int} {j : Nat} {w wr : World} (h : Marking E f kd base A n c xs k j w wr) (hn : 0 < n) : ∃ g, A = some ⟨g, 0, none⟩ := by
  obtain ⟨g, cap, hv, _⟩ := h.1.form hn
  injection hv with h1
  exact ⟨g, h1⟩
theorem Marking.step {E : Nat} {f : Int → Int} {kd : IntKind} {base : Nat} {g n c : Nat} {xs : List Int} {k : Int} {j : Nat} {w wr : World} (h : Marking E f kd base (some ⟨g, 0, none⟩) n c xs k j w wr) (hl : xs.length = n) (hj : j < n) :
    Marking E f kd base (some ⟨g, 0, none⟩) n c xs k (j + 1) w (wr.setCell ⟨g, j, none⟩ (.int kd (f (k + j)))) := by
  obtain ⟨h1, h2⟩ := h.1.stored j (.int kd (f (k + j)))
  rw [ints_put, marked_set f k xs j (by omega)] at h1
  exact ⟨h1, h.2.trans h2⟩
end Go.Proofs.Ytoedfeacpllkeaa.S1
