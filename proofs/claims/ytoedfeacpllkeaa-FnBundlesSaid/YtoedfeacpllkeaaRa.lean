/-
  An append of numbers inside a region that draws its order, whatever is appended (nil and empty too).
-/
import Derived.Test.YtoedfeacpllkeaaS1
import Derived.Deep.AppendLies
import Derived.Deep.RegionHeld3
namespace Go.Proofs.Ytoedfeacpllkeaa.Ra
open Go.ChangeShapes Go.WideShapes Go.ChangeAt Go.RowKit
open S0 S1
set_option linter.unusedVariables false
set_option maxRecDepth 100000
theorem step_app {P : Program} (w : World) {ops : Array Oper} {o : Oper} {a : Act} {K : Act → World → Prop} {Q : Exit → Act → World → Prop} {E : Prop} (hgd : o.guard = none) (s x : Operand) (t : TypeId)
    (ho : o.op = .call { callee := .builtin .append, args := #[s, x], argTypes := #[t, t] })
    (base : Nat) (e : TypeId) (i : TypeInfo) (z : Value) (size bytes : Nat) (ht : P.underlying t = some (.slice e)) (hi : P.info? e = some i) (hz : i.zero = some z)
    (hsize : i.size = size) (hby : i.bytes = bytes) (hzs : z.cells.size = size) (hsz : 0 < size)
    (v : Value) (n : Nat) (xs : List Value) (hs : a.eval s = v) (hown : w.ownsRow base e size v n xs)
    (B : Nat) (A : Option Addr) (m c : Nat) (news : List Value) (hx : a.eval x = .slice A m c) (hr : Rd w B size A m news) (h1 : ∀ u ∈ news, u.oneCell' = true)
    (h63 : n + m ≤ maxLen) (hbytes : (n + m) * bytes ≤ 140737488355328) (hbase : base ≤ w.heap.size)
    (h : ∀ v' w', w'.ownsRow base e size v' (n + m) (xs ++ news) → w.grownBy w' v.ownBlock → (v'.ownBlock = v.ownBlock ∨ v'.ownBlock = some w.heap.size) → K (a.put o.dst v') w') :
    if Region.wanted o (yielded ops a.tmps) = true then Oper.wp P o a w K Q else E := by
  have hw : Region.wanted o (yielded ops a.tmps) = true := by simp [Region.wanted, hgd]
  rw [if_pos hw]
  cases A with
  | none =>
    have hm : m = 0 := by
      rcases Nat.eq_zero_or_pos m with h0 | h0
      · exact h0
      · obtain ⟨_, _, h2, _⟩ := hr.2 h0; cases h2
    subst hm
    have hn : news = [] := List.eq_nil_of_length_eq_zero (by simpa using hr.1)
    subst hn
    have hrun := app_nil (P := P) (w := w) base t o.type e i size ht hi v n xs hown c
    have h5 := h v w (by simpa using hown) (World.grownBy.refl w _) (Or.inl rfl)
    unfold Oper.wp
    simp [execOp, ho, resolve, invoke, builtin, hs, hx, hrun, Result.andThen]
    exact h5
  | some ad =>
    have hnw : ∀ j u, news[j]? = some u → w.cell? (ad.add j) = some u := by
      intro j u hu
      have hj : j < news.length := by
        rcases Nat.lt_or_ge j news.length with h2 | h2
        · exact h2
        · rw [List.getElem?_eq_none h2] at hu; cases hu
      have hl := hr.1
      have hm : 0 < m := by
        rcases Nat.eq_zero_or_pos m with h0 | h0
        · subst h0; simp at hl; simp [hl] at hj
        · exact h0
      obtain ⟨b, off, h2, _, h3⟩ := hr.2 hm
      injection h2 with h2
      subst h2
      have e1 : (⟨b, off, none⟩ : Addr).add j = ⟨b, off + j, none⟩ := by
        unfold Addr.add
        split
        · next h0 => subst h0; rfl
        · rfl
      rw [e1, h3 j (by omega)]
      exact hu
    obtain ⟨v', w', hrun, h2, h3, _, h5⟩ := run_append_own_at (P := P) (w := w) base t o.type e i z size bytes ht hi hz hsize hby hzs hsz v n xs hown ad m c news hr.1 hnw h1 h63 hbytes hbase
    unfold Oper.wp execOp
    simp only [ho, resolve, invoke, builtin, Sem.run_bind, Sem.run_pure, Result.andThen_ok, List.map_toArray, List.map_cons, List.map_nil, hs, hx, hrun]
    exact h v' w' h2 h3 h5
theorem stepB (w : World) {ops : Array Oper} {o : Oper} {a : Act} {K : Act → World → Prop} {Q : Exit → Act → World → Prop} {E : Prop} (hgd : o.guard = none) (s x : Operand)
    (ho : o.op = .call { callee := .builtin .append, args := #[s, x], argTypes := #[22, 22] }) (base : Nat) (v : Value) (n : Nat) (xs : List Value) (hs : a.eval s = v) (hown : w.ownsRow base 5 1 v n xs)
    (B : Nat) (A : Option Addr) (m c : Nat) (ys : List Int) (hx : a.eval x = .slice A m c) (hr : Rd w B 1 A m (ints .u8 ys)) (h63 : n + m ≤ 17592186044416) (hbase : base ≤ w.heap.size)
    (h : ∀ v' w', w'.ownsRow base 5 1 v' (n + m) (xs ++ ints .u8 ys) → w.grownBy w' v.ownBlock → (v'.ownBlock = v.ownBlock ∨ v'.ownBlock = some w.heap.size) → K (a.put o.dst v') w') :
    if Region.wanted o (yielded ops a.tmps) = true then Oper.wp Try.prog o a w K Q else E := by
  obtain ⟨i0, hi, hz0, hz1, hz2⟩ := info_parts u8_info
  exact step_app w hgd s x 22 ho base 5 i0 (.int .u8 0) 1 1 Try.underlying22 hi hz0 hz1 hz2 rfl (by decide) v n xs hs hown B A m c (ints .u8 ys) hx hr (ints_one _ _) (by unfold maxLen; omega) (by omega) hbase h
theorem stepI (w : World) {ops : Array Oper} {o : Oper} {a : Act} {K : Act → World → Prop} {Q : Exit → Act → World → Prop} {E : Prop} (hgd : o.guard = none) (s x : Operand)
    (ho : o.op = .call { callee := .builtin .append, args := #[s, x], argTypes := #[85, 85] }) (base : Nat) (v : Value) (n : Nat) (xs : List Value) (hs : a.eval s = v) (hown : w.ownsRow base 3 1 v n xs)
    (B : Nat) (A : Option Addr) (m c : Nat) (ys : List Int) (hx : a.eval x = .slice A m c) (hr : Rd w B 1 A m (ints .i64 ys)) (h63 : n + m ≤ 17592186044416) (hbase : base ≤ w.heap.size)
    (h : ∀ v' w', w'.ownsRow base 3 1 v' (n + m) (xs ++ ints .i64 ys) → w.grownBy w' v.ownBlock → (v'.ownBlock = v.ownBlock ∨ v'.ownBlock = some w.heap.size) → K (a.put o.dst v') w') :
    if Region.wanted o (yielded ops a.tmps) = true then Oper.wp Try.prog o a w K Q else E := by
  obtain ⟨i0, hi, hz0, hz1, hz2⟩ := info_parts int_info
  exact step_app w hgd s x 85 ho base 3 i0 (.int .i64 0) 1 8 Try.underlying85 hi hz0 hz1 hz2 rfl (by decide) v n xs hs hown B A m c (ints .i64 ys) hx hr (ints_one _ _) (by unfold maxLen; omega) (by omega) hbase h
/-- A row of the call's own, another one appended to. -/
theorem kept_row {w w' : World} {base E size n g cap : Nat} {xs : List Value} {ob : Option Nat} (h : w.ownsRow base E size (.slice (some ⟨g, 0, none⟩) n cap) n xs) (hg : w.grownBy w' ob) (hne : ob ≠ some g) : w'.ownsRow base E size (.slice (some ⟨g, 0, none⟩) n cap) n xs :=
  h.kept hg (.inr (fun e => hne e.symm))
theorem rd_take {w : World} {hi n k b off : Nat} {kd : IntKind} {xs : List Int} (h : Rd w hi 1 (some ⟨b, off, none⟩) n (ints kd xs)) (hk : k ≤ n) : Rd w hi 1 (some ⟨b, off, none⟩) k (ints kd (xs.take k)) := by
  have hl := h.1
  rw [ints_len] at hl
  refine ⟨by rw [ints_len, List.length_take]; omega, fun h0 => ?_⟩
  obtain ⟨b', off', e, hb, hc⟩ := h.2 (by omega)
  injection e with e
  injection e with e1 e2 _
  subst e1
  subst e2
  refine ⟨b, off, rfl, hb, fun j hj => ?_⟩
  rw [hc j (by omega)]
  unfold ints
  rw [List.map_take, List.getElem?_take_of_lt (by omega)]
theorem rd_drop {w : World} {hi n k b off : Nat} {kd : IntKind} {xs : List Int} (h : Rd w hi 1 (some ⟨b, off, none⟩) n (ints kd xs)) (hk : k ≤ n) : Rd w hi 1 (some ⟨b, off + k, none⟩) (n - k) (ints kd (xs.drop k)) := by
  have hl := h.1
  rw [ints_len] at hl
  refine ⟨by rw [ints_len, List.length_drop]; omega, fun h0 => ?_⟩
  obtain ⟨b', off', e, hb, hc⟩ := h.2 (by omega)
  injection e with e
  injection e with e1 e2 _
  subst e1
  subst e2
  refine ⟨b, off + k, rfl, hb, fun j hj => ?_⟩
  rw [Nat.add_assoc, hc (k + j) (by omega)]
  unfold ints
  rw [List.map_drop, List.getElem?_drop]
theorem rd_none {w : World} {hi : Nat} {A : Option Addr} {kd : IntKind} : Rd w hi 1 A 0 (ints kd []) := ⟨rfl, fun h => absurd h (by omega)⟩
/-- Rows of the call's own, each in a block of its own. -/
def Far (v u : Value) : Prop := ∀ j, v.ownBlock = some j → u.ownBlock ≠ some j
theorem Far.symm {v u : Value} (h : Far v u) : Far u v := fun j hj hv => h j hv hj
theorem far_new {w : World} {base E size n m c : Nat} {v : Value} {xs : List Value} (h : w.ownsRow base E size v n xs) : Far v (.slice (some ⟨w.heap.size, 0, none⟩) m c) := fun j hj e => by
  have h1 := (h.lt j hj).2
  have h2 : w.heap.size = j := Option.some.inj e
  omega
theorem far_kept {w w' : World} {base E size n : Nat} {v u : Value} {xs : List Value} (h : w.ownsRow base E size u n xs) (hg : w.grownBy w' v.ownBlock) (D : Far v u) : w'.ownsRow base E size u n xs :=
  h.kept hg (by
    cases hu : u.ownBlock with
    | none => exact Or.inl rfl
    | some j => exact Or.inr (fun e => D j e.symm hu))
theorem far_grown {w : World} {base E size n : Nat} {v v' u : Value} {xs : List Value} (h : w.ownsRow base E size u n xs) (D : Far v u) (hv : v'.ownBlock = v.ownBlock ∨ v'.ownBlock = some w.heap.size) : Far v' u := fun j hj hu => by
  rcases hv with hv | hv
  · exact D j (hv ▸ hj) hu
  · have h1 := (h.lt j hu).2
    have h2 : w.heap.size = j := Option.some.inj (hv.symm.trans hj)
    omega
theorem block_nodup (v : Value) : v.ownBlock.toList.Nodup := by cases v.ownBlock <;> simp
end Go.Proofs.Ytoedfeacpllkeaa.Ra
