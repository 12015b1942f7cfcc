/-
  Contract of chapter 12's TakeChallenge, of the model.
-/
import Derived.Test.YtckplhmielckeaaC12c
import Derived.Test.YtckplhmielckeaaBb
namespace Go.Proofs.Ytckplhmielckeaa.C12d
open Go.ChangeShapes Go.WideShapes Go.ChangeAt Go.RowKit
open S0 S1 S9 Dm Fx M3 M8 C3 C6 C12 C12b C12c
set_option linter.unusedVariables false
set_option linter.unusedSimpArgs false
set_option maxRecDepth 100000
theorem stepC (w : World) {ops : Array Oper} {o : Oper} {a : Act} {K : Act → World → Prop} {Q : Exit → Act → World → Prop} {E : Prop} (hgd : o.guard = none) (s x : Operand)
    (ho : o.op = .call { callee := .builtin .append, args := #[s, x], argTypes := #[23, 23] }) (base : Nat) (v : Value) (n : Nat) (l : List Fx.Challenge) (hs : a.eval s = v) (hown : w.ownsRow base 92 3 v n (many l))
    (B : Nat) (A : Option Addr) (m c : Nat) (k : List Fx.Challenge) (hx : a.eval x = .slice A m c) (hr : Rd w B 3 A m (many k)) (h63 : n + m ≤ 4398046511104) (hbase : base ≤ w.heap.size)
    (h : ∀ v' w', w'.ownsRow base 92 3 v' (n + m) (many (l ++ k)) → w.grownBy w' v.ownBlock → (v'.ownBlock = v.ownBlock ∨ v'.ownBlock = some w.heap.size) → K (a.put o.dst v') w') :
    if Region.wanted o (yielded ops a.tmps) = true then Oper.wp Try.prog o a w K Q else E := by
  obtain ⟨i0, hi, hz0, hz1, hz2⟩ := info_parts chal_info
  exact Ra.step_app w hgd s x 23 ho base 92 i0 (.agg #[.int .i64 0, .int .i64 0, .int .i64 0]) 3 24 Try.underlying23 hi hz0 hz1 hz2 (by simp [Value.cells]) (by decide) v n (many l) hs hown B A m c (many k) hx hr (many_one k) (by unfold maxLen; omega) (by omega) hbase (fun v' w' h1 h2 h3 => h v' w' (by rw [← many_app]; exact h1) h2 h3)
theorem many_take (l : List Fx.Challenge) (k : Nat) : many (l.take k) = (many l).take (k * 3) := by
  induction l generalizing k with
  | nil => simp [many]
  | cons x l ih =>
    cases k with
    | zero => simp [many]
    | succ k =>
      have e : many (x :: l) = one x ++ many l := rfl
      rw [List.take_succ_cons, e, show many (x :: l.take k) = one x ++ many (l.take k) from rfl, ih, List.take_append]
      have : (one x).length = 3 := rfl
      rw [this, List.take_of_length_le (l := one x) (by rw [this]; omega), show (k + 1) * 3 - 3 = k * 3 by omega]
theorem many_drop (l : List Fx.Challenge) (k : Nat) : many (l.drop k) = (many l).drop (k * 3) := by
  induction l generalizing k with
  | nil => simp [many]
  | cons x l ih =>
    cases k with
    | zero => simp [many]
    | succ k =>
      have e : many (x :: l) = one x ++ many l := rfl
      rw [List.drop_succ_cons, e, ih, List.drop_append]
      have : (one x).length = 3 := rfl
      rw [this, List.drop_of_length_le (l := one x) (by rw [this]; omega), show (k + 1) * 3 - 3 = k * 3 by omega, List.nil_append]
theorem rd_take3 {w : World} {hi n k b off : Nat} {l : List Fx.Challenge} (h : Rd w hi 3 (some ⟨b, off, none⟩) n (many l)) (hk : k ≤ n) : Rd w hi 3 (some ⟨b, off, none⟩) k (many (l.take k)) := by
  have hl := h.1
  rw [many_len] at hl
  refine ⟨by rw [many_len, List.length_take]; omega, fun h0 => ?_⟩
  obtain ⟨b', off', e, hb, hc⟩ := h.2 (by omega)
  injection e with e
  injection e with e1 e2 _
  subst e1
  subst e2
  refine ⟨b, off, rfl, hb, fun j hj => ?_⟩
  rw [hc j (by omega), many_take, List.getElem?_take_of_lt (by omega)]
theorem rd_drop3 {w : World} {hi n k b off : Nat} {l : List Fx.Challenge} (h : Rd w hi 3 (some ⟨b, off, none⟩) n (many l)) (hk : k ≤ n) : Rd w hi 3 (some ⟨b, off + k * 3, none⟩) (n - k) (many (l.drop k)) := by
  have hl := h.1
  rw [many_len] at hl
  refine ⟨by rw [many_len, List.length_drop]; omega, fun h0 => ?_⟩
  obtain ⟨b', off', e, hb, hc⟩ := h.2 (by omega)
  injection e with e
  injection e with e1 e2 _
  subst e1
  subst e2
  refine ⟨b, off + k * 3, rfl, hb, fun j hj => ?_⟩
  rw [Nat.add_assoc, hc (k * 3 + j) (by omega), many_drop, List.getElem?_drop]
theorem rd_last {w : World} {hi n k : Nat} {A : Option Addr} {l : List Fx.Challenge} (hn : n = l.length) (h : n ≤ k + 1) : Rd w hi 3 A 0 (many (l.drop (k + 1))) := by
  rw [List.drop_of_length_le (by omega)]
  exact ⟨rfl, fun h => absurd h (by omega)⟩
theorem el_at {w : World} {hi n gb off k : Nat} {l : List Fx.Challenge} {y : Fx.Challenge} (h : Rd w hi 3 (some ⟨gb, off, none⟩) n (many l)) (hk : k < n) (hy : l[k]? = some y) : w.cell? ⟨gb, off + k * 3 + 1, none⟩ = some (.int .i64 y.Account) ∧ w.cell? ⟨gb, off + k * 3 + 2, none⟩ = some (.int .i64 y.Until) := by
  obtain ⟨b', off', e, hb, hc⟩ := h.2 (by omega)
  injection e with e
  injection e with e1 e2 _
  subst e1
  subst e2
  have hd : (many l).drop (k * 3) = one y ++ many (l.drop (k + 1)) := by
    rw [← many_drop, List.drop_eq_getElem_cons (List.getElem?_eq_some_iff.1 hy).1, (List.getElem?_eq_some_iff.1 hy).2]
    rfl
  have hg : ∀ j, (many l)[k * 3 + j]? = (one y ++ many (l.drop (k + 1)))[j]? := fun j => by rw [← hd, List.getElem?_drop]
  refine ⟨?_, ?_⟩
  · have h1 := hc (k * 3 + 1) (by omega)
    rw [hg 1] at h1
    exact h1
  · have h1 := hc (k * 3 + 2) (by omega)
    rw [hg 2] at h1
    exact h1
def posC (l : List Fx.Challenge) (i : Int) : Option Nat := l.findIdx? (fun x => x.Id == i)
theorem posC_some {l : List Fx.Challenge} {i : Int} {k : Nat} (h : posC l i = some k) : k < l.length ∧ findC l i = k := by
  refine ⟨(List.findIdx?_eq_some_iff_getElem.1 h).1, ?_⟩
  unfold posC at h
  unfold findC
  rw [h]
theorem posC_none {l : List Fx.Challenge} {i : Int} (h : posC l i = none) : findC l i = -1 := by
  unfold posC at h
  unfold findC
  rw [h]
noncomputable def takeX (b : Fx.ChallengeBook) (i : Int) : Fx.ChallengeBook := if vbk b then (match posC b.Open i with | some k => ⟨b.Seed, b.Next, b.Open.take k ++ b.Open.drop (k + 1)⟩ | none => b) else b
noncomputable def takeB (b : Fx.ChallengeBook) (i a now : Int) : Bool := vbk b && (match posC b.Open i with | some k => (match b.Open[k]? with | some x => decide (x.Account = a) && decide (now ≤ x.Until) | none => false) | none => false)
theorem made_tk {w wf : World} {x : Fx.ChallengeBook} {xs : List Fx.Challenge} {n c : Nat} {A : Option Addr} {bs : List Nat} {s nx : Int} {b : Bool} (hx : xs = x.Open) (hs : s = x.Seed) (hm : nx = x.Next) (hn : n = xs.length) (o : Owns wf w.heap.size (.row 92 3 n (xs.flatMap Challenge.dcs)) (.slice A n c) bs) (hd : bs.Nodup) (HB : Below w.heap.size w wf) :
    MadeLx x.dcs (fun vs => .tuple #[.agg vs.toArray, .bool b]) w (.returned (.tuple #[.agg #[.int .i64 s, .int .i64 nx, .slice A n c], .bool b])) wf := by
  subst hx
  subst hs
  subst hm
  subst hn
  exact ⟨_, _, rfl, ChallengeBook.mkO o, hd, HB⟩
end Go.Proofs.Ytckplhmielckeaa.C12d
