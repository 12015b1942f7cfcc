/-
  A map of challenges by their Ids: what it reads as; one that is laid, looked up, struck from.
-/
import Derived.Test.YtjkmcnnkifachaaC12
import Derived.Maps.OwnSet
import Derived.Maps.RangeWalk
import Derived.Lib.SlMapFilter
import Derived.Lib.SlKeysI
namespace Go.Proofs.Ytjkmcnnkifachaa.Mp
open Go.ChangeShapes Go.WideShapes Go.ChangeAt Go.RowKit
open Go.Maps (Keyed)
open S0 S1 S9 Dm Fx C12
set_option linter.unusedVariables false
set_option linter.unusedSimpArgs false
set_option maxRecDepth 100000
def valC (x : Fx.Challenge) : Value := .agg #[.int .i64 x.Id, .int .i64 x.Account, .int .i64 x.Until]
def dcC (x : Fx.Challenge) : DataW Nat := .agg [.lit (.int .i64 x.Id), .lit (.int .i64 x.Account), .lit (.int .i64 x.Until)]
def rL : List Value → Option (DataW Nat × List MemPlace)
  | [.int .i64 a, .int .i64 b, .int .i64 c] => some (dcC ⟨a, b, c⟩, [])
  | _ => none
def rC : Value → Option (DataW Nat × List MemPlace)
  | .agg cs => rL cs.toList
  | _ => none
theorem rC_mk (x : Fx.Challenge) : rC (valC x) = some (dcC x, []) := rfl
theorem rC_inv {v : Value} {z : DataW Nat × List MemPlace} (h : rC v = some z) : ∃ x, v = valC x ∧ z = (dcC x, []) := by
  cases v with
  | agg cs =>
    obtain ⟨l⟩ := cs
    have h : rL l = some z := h
    unfold rL at h
    split at h
    · cases h; exact ⟨⟨_, _, _⟩, rfl, rfl⟩
    · cases h
  | _ => cases h
theorem dcC_inj {x y : Fx.Challenge} (h : dcC x = dcC y) : x = y := by
  cases x; cases y
  simp only [dcC, DataW.agg.injEq, List.cons.injEq, DataW.lit.injEq, Lit.int.injEq, true_and, and_true] at h
  obtain ⟨rfl, rfl, rfl⟩ := h
  rfl
abbrev kl (i : Int) : Lit := .int .i64 i
def ents (l : List Fx.Challenge) : List (Lit × DataW Nat) := l.map fun x => (kl x.Id, dcC x)
def mapD (l : List Fx.Challenge) : DataW Nat := .map (ents l)
/-- In ascending order of their Ids. -/
def Asc (l : List Fx.Challenge) : Prop := l.Pairwise fun x y => x.Id < y.Id
theorem insert_end (x : Lit × DataW Nat) : ∀ l : List (Lit × DataW Nat), (∀ y ∈ l, x.1.before y.1 = false) → DataW.insert x l = l ++ [x]
  | [], _ => rfl
  | y :: l, h => by
    unfold DataW.insert
    rw [h y (by simp), insert_end x l (fun z hz => h z (by simp [hz]))]
    rfl
theorem kl_same (i j : Int) : (kl i).sameKey (kl j) = decide (i = j) := by simp [Lit.sameKey]
theorem put_last {l : List Fx.Challenge} {x : Fx.Challenge} (h : Asc (l ++ [x])) : (mapD l).put (kl x.Id) (dcC x) = mapD (l ++ [x]) := by
  have hlt : ∀ y ∈ l, y.Id < x.Id := fun y hy => (List.pairwise_append.1 h).2.2 y hy x (by simp)
  have hf : (ents l).filter (fun p => !p.1.sameKey (kl x.Id)) = ents l := List.filter_eq_self.2 fun p hp => by
    obtain ⟨y, hy, rfl⟩ := List.mem_map.1 hp
    have := hlt y hy
    rw [kl_same, decide_eq_false (by omega)]; rfl
  show DataW.map (DataW.insert (kl x.Id, dcC x) ((ents l).filter fun p => !p.1.sameKey (kl x.Id))) = _
  rw [hf, insert_end _ _ fun p hp => by
    obtain ⟨y, hy, rfl⟩ := List.mem_map.1 hp
    have := hlt y hy
    simp only [Lit.before]
    exact decide_eq_false (by omega)]
  unfold mapD ents
  rw [List.map_append]
  rfl
theorem has_map (l : List Fx.Challenge) (i : Int) : Maps.has (mapD l) (kl i) = l.any (fun x => x.Id == i) := by
  unfold mapD ents
  rw [Maps.has_eq, List.any_map]
  congr 1
  funext x
  show (kl x.Id).sameKey (kl i) = _
  rw [kl_same]
  by_cases h : x.Id = i <;> simp [h]
theorem at_map (l : List Fx.Challenge) (i : Int) (z : DataW Nat) : (mapD l).atKey (kl i) z = (match l.find? (fun x => x.Id == i) with | some x => dcC x | none => z) := by
  induction l with
  | nil => rfl
  | cons x l ih =>
    unfold mapD DataW.atKey at ih ⊢
    simp only at ih ⊢
    rw [show ents (x :: l) = (kl x.Id, dcC x) :: ents l from rfl]
    by_cases h : x.Id = i
    · rw [List.find?_cons_of_pos (by show (kl x.Id).sameKey (kl i) = true; rw [kl_same]; simpa using h), List.find?_cons_of_pos (by simpa using h)]
    · rw [List.find?_cons_of_neg (by show ¬ (kl x.Id).sameKey (kl i) = true; rw [kl_same]; simpa using h), List.find?_cons_of_neg (by simpa using h)]
      exact ih
theorem del_map (l : List Fx.Challenge) (i : Int) : (mapD l).del (kl i) = mapD (l.filter fun x => !(x.Id == i)) := by
  show DataW.map ((ents l).filter fun p => !p.1.sameKey (kl i)) = _
  unfold mapD ents
  rw [List.filter_map]
  congr 3
  funext x
  show (!(kl x.Id).sameKey (kl i)) = _
  rw [kl_same]
  by_cases h : x.Id = i <;> simp [h]
def lateD (now : Int) (_ : Lit) : DataW Nat → Bool
  | .agg [_, _, .lit (.int _ u)] => decide (u < now)
  | _ => false
theorem cut_map (l : List Fx.Challenge) (now : Int) : Lib.deleteFuncD (lateD now) (mapD l) = mapD (l.filter fun x => decide (now ≤ x.Until)) := by
  show DataW.map ((ents l).filter fun p => !lateD now p.1 p.2) = _
  unfold mapD ents
  rw [List.filter_map]
  congr 3
  funext x
  show (!decide (x.Until < now)) = decide (now ≤ x.Until)
  by_cases h : now ≤ x.Until
  · rw [decide_eq_true h, decide_eq_false (by omega)]; rfl
  · rw [decide_eq_false h, decide_eq_true (by omega)]; rfl
theorem keys_map (l : List Fx.Challenge) : intKeys (mapD l) = l.map (·.Id) := by
  show (ents l).map (fun p => intOf p.1) = _
  unfold ents
  rw [List.map_map]
  rfl
theorem asc_sort {l : List Fx.Challenge} (h : Asc l) {ss : List Int} (hp : ss.Perm (intKeys (mapD l))) : ss.mergeSort (fun x y => decide (x ≤ y)) = l.map (·.Id) := by
  rw [keys_map] at hp
  rw [mergeSort_of_perm_i hp]
  refine List.mergeSort_of_pairwise (List.pairwise_map.2 (h.imp fun {x y} hxy => ?_))
  simp only [decide_eq_true_eq]
  omega
theorem size_map (l : List Fx.Challenge) : Maps.size (mapD l) = l.length := by unfold mapD ents; rw [Maps.size_eq, List.length_map]
theorem asc_filter {l : List Fx.Challenge} (h : Asc l) (p : Fx.Challenge → Bool) : Asc (l.filter p) := List.Pairwise.filter _ h
theorem asc_take {l : List Fx.Challenge} (h : Asc l) (k : Nat) : Asc (l.take k) := h.sublist (List.take_sublist _ _)
theorem asc_find {l : List Fx.Challenge} (h : Asc l) {x : Fx.Challenge} (hx : x ∈ l) : l.find? (fun y => y.Id == x.Id) = some x := by
  induction l with
  | nil => cases hx
  | cons y l ih =>
    have h' := List.pairwise_cons.1 h
    rcases List.mem_cons.1 hx with rfl | hx
    · exact List.find?_cons_of_pos (by simp)
    · have := h'.1 x hx
      rw [List.find?_cons_of_neg (by simp; omega)]
      exact ih h'.2 hx
theorem keyI : Keyed Try.prog 3 := Maps.int_keyed Try.underlying3
theorem key_at {i : Int} (h0 : -9223372036854775808 ≤ i) (h1 : i ≤ 9223372036854775807) : keyOf Try.prog 3 (.int .i64 i) = some (kl i) := Maps.keyOf_int_mk Try.underlying3 (WalkArith.wf_i64 ⟨h0, h1⟩)
/-- The map in block b. -/
abbrev Lies (w : World) (b n : Nat) (l : List Fx.Challenge) : Prop := w.ownsMap Try.prog 3 rC b n (mapD l)
structure MapIs (m : Nat) (l : List Fx.Challenge) (v : Value) (bs : List Nat) (w : World) : Prop where
  is : ∃ b n, v = .map (some b) ∧ bs = [b] ∧ n ≤ m ∧ Lies w b n l
theorem MapIs.firm {m : Nat} {l : List Fx.Challenge} (v : Value) (bs : List Nat) (w1 w2 : World) (hk : ∀ b, b ∈ bs → w2.heap[b]? = w1.heap[b]?) (h : MapIs m l v bs w1) : MapIs m l v bs w2 := by
  obtain ⟨b, n, rfl, rfl, hn, es, clock, hb, r⟩ := h.is
  exact ⟨b, n, rfl, rfl, hn, es, clock, (hk b (by simp)).trans hb, r⟩
end Go.Proofs.Ytjkmcnnkifachaa.Mp
