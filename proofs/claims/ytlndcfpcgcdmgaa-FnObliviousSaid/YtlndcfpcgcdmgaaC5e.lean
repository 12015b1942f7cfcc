/-
  Contracts of chapter 5's shares, of the program: ShareSecret, RefreshShares, MissingShare.
-/
import Derived.Test.YtlndcfpcgcdmgaaC5d
namespace Go.Proofs.Ytlndcfpcgcdmgaa.C5e
open Go.ChangeShapes Go.WideShapes Go.ChangeAt Go.RowKit
open S0 S1 S3 C3 M4 M5 C5 C5b C5c C5d
set_option linter.unusedVariables false
/-- n pairs, in a row. -/
def prs (f g : Nat → Int) : Nat → List Int
  | 0 => []
  | n + 1 => prs f g n ++ [f n, g n]
theorem prs_len (f g : Nat → Int) (n : Nat) : (prs f g n).length = n * 2 := by
  induction n with
  | zero => rfl
  | succ n ih => unfold prs; rw [List.length_append, ih]; simp; omega
theorem prs_ix (f g : Nat → Int) (n k : Nat) (hk : k < n) : (prs f g n).getD (k * 2) 0 = f k := by
  induction n with
  | zero => omega
  | succ n ih =>
    unfold prs
    rw [List.getD_eq_getElem?_getD]
    by_cases h : k < n
    · rw [List.getElem?_append_left (by rw [prs_len]; omega), ← List.getD_eq_getElem?_getD]; exact ih h
    · obtain rfl : k = n := by omega
      rw [List.getElem?_append_right (by rw [prs_len]; omega), prs_len]
      simp
theorem prs_vl (f g : Nat → Int) (n k : Nat) (hk : k < n) : (prs f g n).getD (k * 2 + 1) 0 = g k := by
  induction n with
  | zero => omega
  | succ n ih =>
    unfold prs
    rw [List.getD_eq_getElem?_getD]
    by_cases h : k < n
    · rw [List.getElem?_append_left (by rw [prs_len]; omega), ← List.getD_eq_getElem?_getD]; exact ih h
    · obtain rfl : k = n := by omega
      rw [List.getElem?_append_right (by rw [prs_len]; omega), prs_len, show k * 2 + 1 - k * 2 = 1 by omega]
      rfl
theorem prs_ixs (f g : Nat → Int) (n : Nat) : ixs (prs f g n) n = (List.range n).map f := by
  unfold ixs
  exact List.map_congr_left fun k hk => prs_ix f g n k (by simpa using hk)
theorem prs_vls (f g : Nat → Int) (n : Nat) : vls (prs f g n) n = (List.range n).map g := by
  unfold vls
  exact List.map_congr_left fun k hk => prs_vl f g n k (by simpa using hk)
theorem appS (w : World) {ops : Array Oper} {rest : List Oper} {o : Oper} {a : Act} {Q : Exit → Act → World → Prop} (hgd : o.guard = none) (s x : Operand)
    (ho : o.op = .call { callee := .builtin .append, args := #[s, x], argTypes := #[41, 41] }) (base : Nat) (v : Value) (n : Nat) (xs : List Value) (hs : a.eval s = v) (hown : w.ownsRow base 30 2 v n xs)
    (B : Nat) (A : Option Addr) (m c : Nat) (news : List Value) (hx : a.eval x = .slice A m c) (hr : Rd w B 2 A m news) (h1 : ∀ u ∈ news, u.oneCell' = true) (h63 : n + m ≤ 4398046511104) (hbase : base ≤ w.heap.size)
    (h : ∀ v' w', w'.ownsRow base 30 2 v' (n + m) (xs ++ news) → w.grownBy w' v.ownBlock → wpList Try.prog ops Q rest (a.put o.dst v') w') : wpList Try.prog ops Q (o :: rest) a w := by
  obtain ⟨i0, hi, hz0, hz1, hz2⟩ := info_parts share_info
  exact wpList_app w hgd s x 41 ho base 30 i0 (.agg #[.int .i64 0, .int .i64 0]) 2 16 Try.underlying41 hi hz0 hz1 hz2 rfl (by decide) v n xs hs hown B A m c news hx hr h1 (by unfold maxLen; omega) (by omega) hbase h
theorem rd_two (w : World) (u v : Value) (t : TypeId) : Rd (w.alloc (.cells #[u, v] t)) (w.alloc (.cells #[u, v] t)).heap.size 2 (some ⟨w.heap.size, 0, none⟩) 1 [u, v] :=
  ⟨rfl, fun _ => ⟨_, _, rfl, by simp, fun j hj => by rw [Nat.zero_add, new_cell]; simp⟩⟩
theorem rd_two_at (w : World) (u v : Value) (t : TypeId) (g : Nat) (hg : g = w.heap.size) : Rd (w.alloc (.cells #[u, v] t)) (w.alloc (.cells #[u, v] t)).heap.size 2 (some ⟨g, 0, none⟩) 1 [u, v] := hg ▸ rd_two w u v t
theorem one_two (x y : Int) : ∀ u ∈ [Value.int .i64 x, Value.int .i64 y], u.oneCell' = true := ints_oneCell .i64 [x, y]
theorem own_lit2 (w : World) (cs : Array Value) (n base : Nat) (E : TypeId) (hb : base ≤ w.heap.size) (hn : cs.size = n * 2) (hm : n ≤ maxLen) : (w.alloc (.cells cs E)).ownsRow base E 2 (.slice (some ⟨w.heap.size, 0, none⟩) n n) n cs.toList :=
  w.ownsRow_lit cs n hb hm hn
/-- Behind k shares of a list in the making. -/
def Made2 (f g : Nat → Int) (w : World) (k : Nat) (v : Value) (wr : World) : Prop :=
  wr.ownsRow w.heap.size 30 2 v k (ints .i64 (prs f g k)) ∧ Below w.heap.size w wr
theorem made2_start (f g : Nat → Int) (w : World) : Made2 f g w 0 (.slice (some ⟨w.heap.size, 0, none⟩) 0 0) (w.alloc (.cells #[] 30)) :=
  ⟨own_lit2 w #[] 0 w.heap.size 30 (Nat.le_refl _) rfl (by unfold maxLen; omega), (Below.refl _ _).alloc (Nat.le_refl _) _⟩
theorem made2_next {f g : Nat → Int} {w wr w1 w2 : World} {k : Nat} {v v2 : Value} {x y : Int} {o : Obj} (h : Made2 f g w k v wr) (hb : Below wr.heap.size wr w1) (hx : x = f k) (hy : y = g k)
    (ho : w2.ownsRow w.heap.size 30 2 v2 (k + 1) (ints .i64 (prs f g k) ++ [.int .i64 x, .int .i64 y])) (hg : (w1.alloc o).grownBy w2 v.ownBlock) : Made2 f g w (k + 1) v2 w2 := by
  have hb1 : Below w.heap.size w w1 := h.2.trans (hb.mono h.2.size)
  refine ⟨?_, (hb1.alloc hb1.size o).grown hg (by have := hb1.size; simp; omega) (fun j hj => (h.1.lt j hj).1)⟩
  have e : ints .i64 (prs f g (k + 1)) = ints .i64 (prs f g k) ++ [.int .i64 x, .int .i64 y] := by
    have : prs f g (k + 1) = prs f g k ++ [x, y] := by rw [hx, hy]; rfl
    rw [this, ← ints_app]; rfl
  rw [e]
  exact ho
theorem made2_form {f g : Nat → Int} {w wr : World} {k : Nat} {v : Value} (h : Made2 f g w k v wr) : ∃ A c, v = .slice A k c := own_nil_form h.1
/-- What ShareSecret gives. -/
def secB (m n : Int) : Prop := 1 ≤ n ∧ n ≤ 7 ∧ m < n
def shf (k : Nat) : Int := (k : Int) + 1
def shg (s : Int) (cs : List Int) (k : Nat) : Int := poly s cs ((k : Int) + 1)
/-- What RefreshShares gives. -/
def rff (xs : List Int) (k : Nat) : Int := xs.getD (k * 2) 0
def rfg (xs cs : List Int) (k : Nat) : Int := poly (xs.getD (k * 2 + 1) 0) cs (xs.getD (k * 2) 0)
set_option maxRecDepth 100000 in
/-- When MissingShare has an answer. -/
def mis (xs : List Int) (n : Nat) (i : Int) : Prop := (n = 0 ∨ are xs n) ∧ 1 ≤ i ∧ i ≤ 7 ∧ ¬ ∃ k, k < n ∧ xs.getD (k * 2) 0 = i
/-- The result's cells, wherever the call has come to. -/
theorem box_at {w w' : World} (hb : Below (w.heap.size + 1) (w.alloc (.cells #[.int .i64 0, .int .i64 0] 30)) w') :
    w.heap.size < w'.heap.size ∧ w'.cell? ⟨w.heap.size, 0, none⟩ = some (.int .i64 0) ∧ w'.cell? ⟨w.heap.size, 1, none⟩ = some (.int .i64 0) ∧ w'.frozen? ⟨w.heap.size, 0, none⟩ = false ∧ w'.frozen? ⟨w.heap.size, 1, none⟩ = false := by
  have h : w'.ownsRow w.heap.size 30 2 (.slice (some ⟨w.heap.size, 0, none⟩) 1 1) 1 (ints .i64 [0, 0]) := own_below (own_lit2 w #[.int .i64 0, .int .i64 0] 1 w.heap.size 30 (Nat.le_refl _) rfl (by unfold maxLen; omega)) (hb.mono (by simp))
  obtain ⟨h1, _, h2, h3⟩ := stored_at2 h 0 (by omega)
  obtain ⟨_, _, h4, h5⟩ := stored_at2 h 1 (by omega)
  exact ⟨h1, h2, h4, h3, h5⟩
end Go.Proofs.Ytlndcfpcgcdmgaa.C5e
