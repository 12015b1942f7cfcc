/-
  Data with memory in it, what serves every type: what a call made, how an argument of a shape is opened, rows that are filled, variables of the call's own, the laws' own functions over slices of numbers.
-/
import Derived.Test.YtoedfeacpllkeaaDm
import Derived.Test.YtoedfeacpllkeaaSo
import Derived.Test.YtoedfeacpllkeaaM1
import Derived.Deep.WholeRow
import Derived.Deep.RegionWith
import Derived.Deep.RegionHeld3
set_option linter.unusedVariables false
namespace Go.Proofs.Ytoedfeacpllkeaa.S10
open Go.ChangeShapes Go.WideShapes Go.ChangeAt Go.RowKit Go.Deep
open S0 S1 S9 Ty Dm
/-- A variable of the call's own, wherever the call has come to. -/
theorem var_at {w w' : World} {T : TypeId} {cs : Array Value} (hb : Below (w.heap.size + 1) (w.alloc (.cells cs T)) w') (g : Nat) (hg : w.heap.size = g) (j : Nat) (u : Value) (hj : cs[j]? = some u) :
    w'.cell? ⟨g, j, none⟩ = some u ∧ w'.frozen? ⟨g, j, none⟩ = false := by
  subst hg
  have h1 : (w.alloc (.cells cs T)).cell? ⟨w.heap.size, j, none⟩ = some u := (cell_of_row _ _ j cs T (0, 0) (heap_alloc_last w _)).trans hj
  have h2 : (w.alloc (.cells cs T)).frozen? ⟨w.heap.size, j, none⟩ = false := by
    have e := heap_alloc_last w (.cells cs T)
    unfold World.frozen?
    rw [e]
    simp
  exact ⟨(hb.cell (p := ⟨w.heap.size, j, none⟩) (by simp)).trans h1, (hb.frozen (p := ⟨w.heap.size, j, none⟩) (by simp)).trans h2⟩
theorem set_same {w : World} {g j : Nat} {x u : Value} (h : w.cell? ⟨g, j, none⟩ = some u) : (w.setCell ⟨g, j, none⟩ x).cell? ⟨g, j, none⟩ = some x := World.cell?_setCell_same _ _ _ h
theorem set_off {w : World} {g j k : Nat} {x : Value} (h : j ≠ k) : (w.setCell ⟨g, j, none⟩ x).cell? ⟨g, k, none⟩ = w.cell? ⟨g, k, none⟩ := World.cell?_setCell_other _ _ _ _ (fun e => by injection e with _ e2 _; exact h e2)
theorem set_block {w : World} {g f j k : Nat} {x : Value} (h : g ≠ f) : (w.setCell ⟨g, j, none⟩ x).cell? ⟨f, k, none⟩ = w.cell? ⟨f, k, none⟩ := World.cell?_setCell_other _ _ _ _ (fun e => by injection e with e2 _ _; exact h e2)
theorem set_four {w : World} {g : Nat} {x0 x1 x2 x3 u0 u1 u2 u3 : Value} (h0 : w.cell? ⟨g, 0, none⟩ = some u0) (h1 : w.cell? ⟨g, 1, none⟩ = some u1) (h2 : w.cell? ⟨g, 2, none⟩ = some u2) (h3 : w.cell? ⟨g, 3, none⟩ = some u3) :
    ((((w.setCell ⟨g, 0, none⟩ x0).setCell ⟨g, 1, none⟩ x1).setCell ⟨g, 2, none⟩ x2).setCell ⟨g, 3, none⟩ x3).cell? ⟨g, 0, none⟩ = some x0 ∧
    ((((w.setCell ⟨g, 0, none⟩ x0).setCell ⟨g, 1, none⟩ x1).setCell ⟨g, 2, none⟩ x2).setCell ⟨g, 3, none⟩ x3).cell? ⟨g, 1, none⟩ = some x1 ∧
    ((((w.setCell ⟨g, 0, none⟩ x0).setCell ⟨g, 1, none⟩ x1).setCell ⟨g, 2, none⟩ x2).setCell ⟨g, 3, none⟩ x3).cell? ⟨g, 2, none⟩ = some x2 ∧
    ((((w.setCell ⟨g, 0, none⟩ x0).setCell ⟨g, 1, none⟩ x1).setCell ⟨g, 2, none⟩ x2).setCell ⟨g, 3, none⟩ x3).cell? ⟨g, 3, none⟩ = some x3 := by
  have a1 : (w.setCell ⟨g, 0, none⟩ x0).cell? ⟨g, 1, none⟩ = some u1 := (set_off (by omega)).trans h1
  have a2 : ((w.setCell ⟨g, 0, none⟩ x0).setCell ⟨g, 1, none⟩ x1).cell? ⟨g, 2, none⟩ = some u2 := (set_off (by omega)).trans ((set_off (by omega)).trans h2)
  have a3 : (((w.setCell ⟨g, 0, none⟩ x0).setCell ⟨g, 1, none⟩ x1).setCell ⟨g, 2, none⟩ x2).cell? ⟨g, 3, none⟩ = some u3 := (set_off (by omega)).trans ((set_off (by omega)).trans ((set_off (by omega)).trans h3))
  exact ⟨(set_off (by omega)).trans ((set_off (by omega)).trans ((set_off (by omega)).trans (set_same h0))), (set_off (by omega)).trans ((set_off (by omega)).trans (set_same a1)), (set_off (by omega)).trans (set_same a2), set_same a3⟩
end Go.Proofs.Ytoedfeacpllkeaa.S10
namespace Go.Proofs.Ytoedfeacpllkeaa.Bx
open Go.ChangeShapes Go.WideShapes Go.ChangeAt Go.RowKit Go.Deep
open S0 S1 S9 S10 Ty Dm
/-- What a call made: cells, or one value. -/
def MadeL (ds : List Dc) (w : World) (e : Ending) (w' : World) : Prop := ∃ vs bs, e = .returned (.agg vs.toArray) ∧ OwnsL w' w.heap.size ds vs bs ∧ bs.Nodup ∧ Below w.heap.size w w'
def MadeD (d : Dc) (w : World) (e : Ending) (w' : World) : Prop := ∃ v bs, e = .returned v ∧ Owns w' w.heap.size d v bs ∧ bs.Nodup ∧ Below w.heap.size w w'
theorem is_flat {E D : TypeId} {kd : IntKind} {ds : List Dc} (h : Is (.slice E D (.int kd)) ds) : ∃ xs : List Int, ds = [flatD D kd 1 xs.length xs] ∧ xs.length ≤ maxLen ∧ ∀ x ∈ xs, (Lit.int kd x).wf = true := by
  simp only [Is] at h
  obtain ⟨n, cs, rfl, hn, hp⟩ := h
  obtain ⟨l, rfl, rfl, ho⟩ := of_pieces (fun x : Int => [Dc.val (.int kd x)]) (fun x => (Lit.int kd x).wf = true) (fun ds hd => hd) n cs hp
  refine ⟨l, ?_, hn, ho⟩
  unfold flatD
  have : ∀ l : List Int, l.flatMap (fun x => [Dc.val (.int kd x)]) = l.map fun x => Dc.val (.int kd x) := by
    intro l
    induction l with
    | nil => rfl
    | cons x l ih => rw [List.flatMap_cons, ih]; rfl
  rw [this]
  rfl
theorem nodup_own (v : Value) : v.ownBlock.toList.Nodup := by cases v.ownBlock <;> simp
section
variable {H : Type} {enc : TypeId × Value → H} {W : World} {b0 : Nat} {v : Value} {d : DataW H} {ps : List MemPlace}
/-- A struct that came in by value. -/
theorem arg_struct {P : Program} {f r : Ty} {t : TypeId} (hf : fits P (.cons f r) t = true) (hval : Value.okWide P W .any b0 t v) (h : DataW.Trod enc P W 0 (fun _ => true) true t v d ps) :
    ∃ vs ds, v = .agg vs.toArray ∧ Is (.cons f r) ds ∧ RdsL W W.heap.size ds vs := by
  obtain ⟨fuel, hfu⟩ := h
  obtain ⟨ds, k1, k2⟩ := opened _ t hf fuel _ _ hfu
  have hu : ∃ fs, P.underlying t = some (.struct fs) := by
    simp only [fits] at hf
    split at hf
    · next fs hu => exact ⟨fs, hu⟩
    · cases hf
  obtain ⟨fs, hu⟩ := hu
  unfold Value.okWide at hval
  rw [hu] at hval
  obtain ⟨cs, rfl, _⟩ := hval
  exact ⟨cs.toList, ds, by simp, k1, k2⟩
/-- A slice that came in. -/
theorem arg_slice {P : Program} {E D : TypeId} {e : Ty} {t : TypeId} (hf : fits P (.slice E D e) t = true) (hval : Value.okWide P W .any b0 t v) (h : DataW.Trod enc P W 0 (fun _ => true) true t v d ps) :
    ∃ n cs, n ≤ maxLen ∧ Pieces (Is e) n cs ∧ Rds W W.heap.size (.row D e.size n cs) v := by
  obtain ⟨fuel, hfu⟩ := h
  obtain ⟨ds, k1, k2⟩ := opened _ t hf fuel _ _ hfu
  have hu : P.underlying t = some (.slice E) := by
    simp only [fits, Bool.and_eq_true, decide_eq_true_eq] at hf
    obtain ⟨⟨⟨hu, _⟩, _⟩, _⟩ := hf
    split at hu
    · next u hu2 => rw [hu2, of_decide_eq_true hu]
    · cases hu
  obtain ⟨a1, len, cap, rfl⟩ := okWide_slice hu hval
  simp only [Is] at k1
  obtain ⟨n, cs, rfl, h1, h2⟩ := k1
  have e : (Value.slice a1 len cap).cells.toList = [.slice a1 len cap] := rfl
  rw [e] at k2
  simp only [RdsL] at k2
  obtain ⟨u, vs', e2, h3, h4⟩ := k2
  injection e2 with e2 _
  subst e2
  exact ⟨n, cs, h1, h2, h3⟩
end
end Go.Proofs.Ytoedfeacpllkeaa.Bx
namespace Go.Proofs.Ytoedfeacpllkeaa.Bs
open Go.ChangeShapes Go.WideShapes Go.ChangeAt Go.RowKit Go.Deep
open S0 S1 S9 S10 Ty Dm Bx
/-- A row filled so far: what stands in front, what is still to come. -/
def Fill (E size n : Nat) (w : World) (ds : List Dc) (left : Nat) (wr : World) : Prop :=
  ∃ vp tail bs, wr.ownsRow w.heap.size E size (.slice (some ⟨w.heap.size, 0, none⟩) n n) n (vp ++ tail) ∧ tail.length = left ∧ OwnsL wr (w.heap.size + 1) ds vp bs ∧ bs.Nodup ∧ Below w.heap.size w wr
theorem fill_end {E size n : Nat} {w wr : World} {ds : List Dc} (h : Fill E size n w ds 0 wr) : ∃ bs, Owns wr w.heap.size (.row E size n ds) (.slice (some ⟨w.heap.size, 0, none⟩) n n) bs ∧ bs.Nodup ∧ Below w.heap.size w wr := by
  obtain ⟨vp, tail, bs, ho, ht, hl, hn, hb⟩ := h
  obtain rfl : tail = [] := List.eq_nil_of_length_eq_zero ht
  rw [List.append_nil] at ho
  refine ⟨_, by simp only [Owns]; exact ⟨vp, bs, .of ho, ownsL_base (by omega) _ _ _ hl, rfl⟩, ?_, hb⟩
  refine List.nodup_append.2 ⟨nodup_own _, hn, fun a ha b hb2 e => ?_⟩
  subst e
  obtain rfl : a = w.heap.size := by simpa [Value.ownBlock] using ha
  have := ownsL_in _ _ _ hl _ hb2
  omega
/-- What is owned elsewhere stays where one cell of another block is set. -/
theorem ownsL_set {w : World} {lo g p : Nat} {ds : List Dc} {vs : List Value} {bs : List Nat} {x : Value} (h : OwnsL w lo ds vs bs) (hg : g < lo) : OwnsL (w.setCell ⟨g, p, none⟩ x) lo ds vs bs :=
  ownsL_keep ds vs bs h (fun b hb => by
    have h1 := (ownsL_in ds vs bs h b hb).1
    exact heap_setCell_other w ⟨g, p, none⟩ b x (by show b ≠ g; omega))
theorem append_blocks {w w2 : World} {lo : Nat} {ds es : List Dc} {us vs : List Value} {b1 b2 : List Nat} (h1 : OwnsL w lo ds us b1) (n1 : b1.Nodup) (hb : Below w.heap.size w w2) (h2 : OwnsL w2 w.heap.size es vs b2) (n2 : b2.Nodup) (hlo : lo ≤ w.heap.size) :
    OwnsL w2 lo (ds ++ es) (us ++ vs) (b1 ++ b2) ∧ (b1 ++ b2).Nodup := by
  refine ⟨ownsL_app (ownsL_below h1 hb) (ownsL_base hlo _ _ _ h2), List.nodup_append.2 ⟨n1, n2, fun a ha b hb2 e => ?_⟩⟩
  subst e
  have := (ownsL_in _ _ _ h1 _ ha).2
  have := (ownsL_in _ _ _ h2 _ hb2).1
  omega
theorem set_mid {α : Type} (pre post : List α) (z x : α) : (pre ++ z :: post).set pre.length x = (pre ++ [x]) ++ post := by
  rw [List.set_append_right _ _ (Nat.le_refl _), Nat.sub_self]; simp
theorem len_four {α : Type} {l : List α} {k : Nat} (h : l.length = k + 4) : ∃ a b c d r, l = a :: b :: c :: d :: r ∧ r.length = k := by
  match l, h with
  | a :: b :: c :: d :: r, h => exact ⟨a, b, c, d, r, rfl, by simpa using h⟩
/-- Four cells filled. -/
theorem fill_four {E n : Nat} {w wr w2 : World} {ds es : List Dc} {left p : Nat} {x0 x1 x2 x3 : Value} {b2 : List Nat} (h : Fill E 4 n w ds (left + 4) wr) (hp : ds.length = p) (hb : Below wr.heap.size wr w2) (h2 : OwnsL w2 wr.heap.size es [x0, x1, x2, x3] b2) (n2 : b2.Nodup) :
    Fill E 4 n w (ds ++ es) left ((((w2.setCell ⟨w.heap.size, p, none⟩ x0).setCell ⟨w.heap.size, p + 1, none⟩ x1).setCell ⟨w.heap.size, p + 2, none⟩ x2).setCell ⟨w.heap.size, p + 3, none⟩ x3) := by
  obtain ⟨vp, tail, bs, ho, ht, hl, hn, hbw⟩ := h
  have hlen : vp.length = p := by rw [ownsL_len hl, hp]
  obtain ⟨z0, z1, z2, z3, r, rfl, hr⟩ := len_four ht
  have hlo : w.heap.size + 1 ≤ wr.heap.size := by have := (ho.lt w.heap.size rfl).2; omega
  obtain ⟨k1, k2⟩ := append_blocks hl hn hb h2 n2 hlo
  have ho0 := own_below ho hb
  have s0 := (ho0.stored p x0).1
  rw [← hlen, set_mid] at s0
  have s1 := (s0.stored (p + 1) x1).1
  rw [show p + 1 = (vp ++ [x0]).length by simp [hlen], set_mid] at s1
  have s2 := (s1.stored (p + 2) x2).1
  rw [show p + 2 = (vp ++ [x0] ++ [x1]).length by simp [hlen], set_mid] at s2
  have s3 := (s2.stored (p + 3) x3).1
  rw [show p + 3 = (vp ++ [x0] ++ [x1] ++ [x2]).length by simp [hlen], set_mid] at s3
  refine ⟨vp ++ [x0, x1, x2, x3], r, bs ++ b2, ?_, hr, ?_, k2, ?_⟩
  · simp only [List.append_assoc, List.cons_append, List.nil_append, List.length_append, List.length_cons, List.length_nil, hlen] at s3 ⊢
    exact s3
  · exact ownsL_set (ownsL_set (ownsL_set (ownsL_set k1 (by omega)) (by omega)) (by omega)) (by omega)
  · exact ((((hbw.trans (hb.mono hbw.size)).setCell (Nat.le_refl _) _).setCell (Nat.le_refl _) _).setCell (Nat.le_refl _) _).setCell (Nat.le_refl _) _
theorem stored_any {w : World} {base E size n c g : Nat} {vs : List Value} (h : w.ownsRow base E size (.slice (some ⟨g, 0, none⟩) n c) n vs) (j : Nat) (hj : j < n * size) :
    ∃ z, w.cell? ⟨g, j, none⟩ = some z ∧ w.frozen? ⟨g, j, none⟩ = false := by
  have hl : j < vs.length := by rw [h.1]; exact hj
  exact ⟨vs[j], by rw [h.cellAt j hj, List.getElem?_eq_getElem hl], h.frozenAt j⟩
end Go.Proofs.Ytoedfeacpllkeaa.Bs
namespace Go.Proofs.Ytoedfeacpllkeaa.Fx
open Go.ChangeShapes Go.WideShapes Go.ChangeAt Go.RowKit Go.Deep
open S0 S1 S9 S10 Ty Dm Bx
def bytesD (xs : List Int) : Dc := flatD 5 .u8 1 xs.length xs
def numsD (xs : List Int) : Dc := flatD 3 .i64 1 xs.length xs
theorem marked_flat {E : TypeId} {kd : IntKind} {base : Nat} {xs ys : List Int} {v : Value} {w w' : World} {bs : List Nat} (e : bs = v.ownBlock.toList) (h : w'.ownsRow base E 1 v xs.length (ints kd ys)) (hg : w.grownBy w' v.ownBlock) : Owns w' base (flatD E kd 1 xs.length ys) v bs ∧ Turned w w' bs := by
  subst e
  exact ⟨owns_flat h, turned_grown hg⟩
theorem cnt_bytesD (xs : List Int) : cnt (bytesD xs) ≤ 64 * wt (bytesD xs) := by unfold bytesD; rw [cnt_flat, wt_flat]; omega
theorem wt_bytesD (xs : List Int) : wt (bytesD xs) = xs.length := by unfold bytesD; rw [wt_flat]
theorem cnt_numsD (xs : List Int) : cnt (numsD xs) ≤ 64 * wt (numsD xs) := by unfold numsD; rw [cnt_flat, wt_flat]; omega
theorem wt_numsD (xs : List Int) : wt (numsD xs) = xs.length := by unfold numsD; rw [wt_flat]
/-- A struct's marks reach what its cells lead to, not the cells. -/
def mkT : List Dc → Int → List Dc
  | [], _ => []
  | .val v :: ds, k => .val v :: mkT ds k
  | .row E s n cs :: ds, k => mk (.row E s n cs) k :: mkT ds (k + cntL cs)
def cntT : List Dc → Nat
  | [] => 0
  | .val _ :: ds => cntT ds
  | .row _ _ _ cs :: ds => cntL cs + cntT ds
def MarkL (ds : List Dc) (k : Int) (base : Nat) (vs : List Value) (bs : List Nat) (w : World) (e : Ending) (w' : World) : Prop := e = .returned (.int .i64 (k + cntT ds)) ∧ OwnsL w' base (mkT ds k) vs bs ∧ Turned w w' bs
theorem no_bytes (w : World) (lo : Nat) (E : TypeId) (kd : IntKind) : Owns w lo (flatD E kd 1 0 []) (.slice none 0 0) [] := by
  have h : w.ownsRow lo E 1 (.slice none 0 0) 0 (ints kd []) := ⟨rfl, Or.inl ⟨rfl, rfl⟩⟩
  exact owns_flat h
/-- What a call made, with a plain result beside it. -/
def MadeD1 (d : Dc) (s : Value) (w : World) (e : Ending) (w' : World) : Prop := ∃ v bs, e = .returned (.tuple #[v, s]) ∧ Owns w' w.heap.size d v bs ∧ bs.Nodup ∧ Below w.heap.size w w'
def MadeL1 (ds : List Dc) (s : Value) (w : World) (e : Ending) (w' : World) : Prop := ∃ vs bs, e = .returned (.tuple #[.agg vs.toArray, s]) ∧ OwnsL w' w.heap.size ds vs bs ∧ bs.Nodup ∧ Below w.heap.size w w'
/-- A variable of the call's own: its cells as they lie there. -/
def varD (T size : Nat) (cs : List Value) : Dc := .row T size 1 (cs.map Dc.val)
theorem vals_own (w : World) (lo : Nat) : ∀ cs : List Value, OwnsL w lo (cs.map Dc.val) cs []
  | [] => by simp [OwnsL]
  | c :: cs => by simp only [List.map_cons, OwnsL]; exact ⟨c, cs, [], [], rfl, by simp [Owns], vals_own w lo cs, rfl⟩
theorem var_owns (w : World) (T size : Nat) (cs : List Value) (hl : cs.length = size) : Owns (w.alloc (.cells cs.toArray T)) w.heap.size (varD T size cs) (.slice (some ⟨w.heap.size, 0, none⟩) 1 1) [w.heap.size] := by
  have h := w.ownsRow_lit (base := w.heap.size) (size := size) (e := T) cs.toArray 1 (Nat.le_refl _) (by unfold maxLen; omega) (by simp [hl])
  unfold varD
  simp only [Owns]
  exact ⟨cs, [], .of (by simpa using h), vals_own _ _ _, by simp [Value.ownBlock]⟩
theorem var_load {w : World} {lo T size g : Nat} {cs : List Value} {bs : List Nat} (h : Owns w lo (varD T size cs) (.slice (some ⟨g, 0, none⟩) 1 1) bs) (hn : bs.Nodup) (j : Nat) (u : Value) (hj : cs[j]? = some u) : w.cell? ⟨g, j, none⟩ = some u := by
  obtain ⟨g', o', x, b1, e, _, _, hc, _, ho, _⟩ := owns_at h hn (p := j) (d := .val u) (by rw [List.getElem?_map, hj]; rfl)
  injection e with e; injection e with e eo _; subst e eo
  rw [Nat.zero_add] at hc
  rw [hc, (owns_val ho).1]
theorem var_frozen {w : World} {lo T size g : Nat} {cs : List Value} {bs : List Nat} (h : Owns w lo (varD T size cs) (.slice (some ⟨g, 0, none⟩) 1 1) bs) (hn : bs.Nodup) (j : Nat) (u : Value) (hj : cs[j]? = some u) : w.frozen? ⟨g, j, none⟩ = false := by
  obtain ⟨g', o', x, b1, e, _, _, _, hf, _⟩ := owns_at h hn (p := j) (d := .val u) (by rw [List.getElem?_map, hj]; rfl)
  injection e with e; injection e with e eo _; subst e eo
  rw [Nat.zero_add] at hf
  exact hf
theorem var_lt {w : World} {lo T size g : Nat} {cs : List Value} {bs : List Nat} (h : Owns w lo (varD T size cs) (.slice (some ⟨g, 0, none⟩) 1 1) bs) : g < w.heap.size := by
  obtain ⟨vs, b2, ho, _⟩ := owns_row h
  exact (ho.lt g rfl).2
theorem made_in {w' : World} {lo : Nat} {d : Dc} {v : Value} {bs : List Nat} (h : Owns w' lo d v bs) : ∀ b, b ∈ bs → lo ≤ b ∧ b < w'.heap.size := owns_in d v bs h
theorem madeL_in {w' : World} {lo : Nat} {ds : List Dc} {vs : List Value} {bs : List Nat} (h : OwnsL w' lo ds vs bs) : ∀ b, b ∈ bs → lo ≤ b ∧ b < w'.heap.size := ownsL_in ds vs bs h
theorem rds_slice {w : World} {hi E size n : Nat} {cs : List Dc} {v : Value} (h : Rds w hi (.row E size n cs) v) : ∃ A c, v = .slice A n c := by
  obtain ⟨A, c, vs, rfl, _⟩ := rds_row h
  exact ⟨A, c, rfl⟩
theorem owns_slice {w : World} {lo E size n : Nat} {cs : List Dc} {v : Value} {bs : List Nat} (h : Owns w lo (.row E size n cs) v bs) : ∃ A c, v = .slice A n c := rds_slice (owns_rds _ _ _ h)
theorem wt_int (k : IntKind) (x : Int) : Dm.wt (.val (.int k x)) = 0 := rfl
theorem wt_bool (b : Bool) : Dm.wt (.val (.bool b)) = 0 := rfl
theorem wt_str (s : ByteArray) : Dm.wt (.val (.string s)) = s.size := rfl
def boolsD (l : List Bool) : Dc := .row 4 1 l.length (l.map fun b => .val (.bool b))
theorem is_bools {E D : TypeId} {ds : List Dc} (h : Is (.slice E D .bool) ds) : ∃ l : List Bool, ds = [.row D 1 l.length (l.map fun b => Dc.val (.bool b))] ∧ l.length ≤ maxLen := by
  simp only [Is] at h
  obtain ⟨n, cs, rfl, hn, hp⟩ := h
  obtain ⟨l, rfl, rfl, ho⟩ := of_pieces (fun b : Bool => [Dc.val (.bool b)]) (fun _ => True) (fun ds hd => by obtain ⟨b, rfl⟩ := hd; exact ⟨b, rfl, trivial⟩) n cs hp
  refine ⟨l, ?_, hn⟩
  have : ∀ l : List Bool, l.flatMap (fun b => [Dc.val (.bool b)]) = l.map fun b => Dc.val (.bool b) := by
    intro l
    induction l with
    | nil => rfl
    | cons x l ih => rw [List.flatMap_cons, ih]; rfl
  rw [this]
  rfl
def tyU8 : Ty := .slice 5 5 (.int .u8)
def tyI64 : Ty := .slice 3 3 (.int .i64)
def tyBl : Ty := .slice 4 4 .bool
/-- Cells of a block set one behind the other. -/
def setAll (w : World) (g : Nat) : Nat → List Value → World
  | _, [] => w
  | j, x :: xs => setAll (w.setCell ⟨g, j, none⟩ x) g (j + 1) xs
theorem var_set {w : World} {lo T size g j : Nat} {cs : List Value} (h : Owns w lo (varD T size cs) (.slice (some ⟨g, 0, none⟩) 1 1) [g]) (hj : j < cs.length) (x : Value) :
    Owns (w.setCell ⟨g, j, none⟩ x) lo (varD T size (cs.set j x)) (.slice (some ⟨g, 0, none⟩) 1 1) [g] ∧ Turned w (w.setCell ⟨g, j, none⟩ x) [g] := by
  obtain ⟨g', o', u, b1, e, _, _, _, _, ho, _, _, hs⟩ := owns_at h (by simp) (p := j) (d := .val cs[j]) (by rw [List.getElem?_map, List.getElem?_eq_getElem hj]; rfl)
  injection e with e; injection e with e eo _; subst e eo
  rw [Nat.zero_add] at hs
  obtain ⟨rfl, rfl⟩ := owns_val ho
  have h1 := hs rfl x
  unfold varD at h1 ⊢
  rw [← List.map_set] at h1
  exact h1
theorem var_some {lo T size g : Nat} : ∀ (ds : List Value) (j : Nat) (cs : List Value) (w : World), Owns w lo (varD T size cs) (.slice (some ⟨g, 0, none⟩) 1 1) [g] → j + ds.length ≤ cs.length →
    Owns (setAll w g j ds) lo (varD T size (cs.take j ++ ds ++ cs.drop (j + ds.length))) (.slice (some ⟨g, 0, none⟩) 1 1) [g] ∧ Turned w (setAll w g j ds) [g]
  | [], j, cs, w, h, _ => by
    simp only [List.append_nil, List.length_nil, Nat.add_zero, List.take_append_drop]
    exact ⟨h, turned_refl _ _⟩
  | x :: ds, j, cs, w, h, hl => by
    simp only [List.length_cons] at hl
    obtain ⟨h1, t1⟩ := var_set h (j := j) (by omega) x
    obtain ⟨h2, t2⟩ := var_some ds (j + 1) (cs.set j x) _ h1 (by rw [List.length_set]; omega)
    refine ⟨?_, turned_trans t1 t2⟩
    have e : (cs.set j x).take (j + 1) ++ ds ++ (cs.set j x).drop (j + 1 + ds.length) = cs.take j ++ (x :: ds) ++ cs.drop (j + (x :: ds).length) := by
      have hj : j < cs.length := by omega
      rw [List.take_succ_eq_append_getElem (by rw [List.length_set]; exact hj), List.take_set_of_le (Nat.le_refl _), List.getElem_set_self, List.drop_set_of_lt (by omega)]
      simp only [List.append_assoc, List.cons_append, List.nil_append, List.length_cons]
      congr 4
      omega
    rw [e] at h2
    exact h2
/-- One block, and what is owned elsewhere. -/
theorem one_apart {g : Nat} {bs : List Nat} {m : Nat} (h : ∀ b, b ∈ bs → m ≤ b ∧ True) (hg : g < m) : ∀ b, b ∈ bs → b ∉ [g] := fun b hb hb2 => by
  have := (h b hb).1
  obtain rfl : b = g := by simpa using hb2
  omega
theorem nodup_app {a b : List Nat} {m : Nat} (ha : a.Nodup) (hb : b.Nodup) (h1 : ∀ x, x ∈ a → x < m) (h2 : ∀ x, x ∈ b → m ≤ x) : (a ++ b).Nodup :=
  List.nodup_append.2 ⟨ha, hb, fun x hx y hy e => by subst e; have := h1 x hx; have := h2 x hy; omega⟩
/-- A row. -/
def isRow : Dc → Prop
  | .val _ => False
  | .row _ _ _ _ => True
theorem mkT_val (v : Value) (ds : List Dc) (k : Int) : mkT (.val v :: ds) k = .val v :: mkT ds k := by simp [mkT]
theorem mkT_of {d : Dc} (h : isRow d) (ds : List Dc) (k : Int) : mkT (d :: ds) k = mk d k :: mkT ds (k + cnt d) := by
  cases d with
  | val v => exact h.elim
  | row E s n cs => simp [mkT, cnt]
theorem cntT_val (v : Value) (ds : List Dc) : cntT (.val v :: ds) = cntT ds := by simp [cntT]
theorem cntT_of {d : Dc} (h : isRow d) (ds : List Dc) : cntT (d :: ds) = cnt d + cntT ds := by
  cases d with
  | val v => exact h.elim
  | row E s n cs => simp [cntT, cnt]
theorem mk_row (E s n : Nat) (cs : List Dc) (k : Int) : mk (.row E s n cs) k = .row E s n (mkL cs k) := by simp only [mk]
theorem marked_slice {w : World} {hi E size n : Nat} {cs : List Dc} {k : Int} {v : Value} (h : Rds w hi (mk (.row E size n cs) k) v) : ∃ A c, v = .slice A n c := by
  rw [mk_row] at h
  exact rds_slice h
theorem ownsL_one {w : World} {lo : Nat} {d : Dc} {v : Value} {bs : List Nat} (h : Owns w lo d v bs) : OwnsL w lo [d] [v] bs := by
  simp only [OwnsL]
  exact ⟨v, [], bs, [], rfl, h, ⟨rfl, rfl⟩, by simp⟩
theorem nodup_nil (l : Nat) : ([] : List Nat).Nodup ∧ ∀ x, x ∈ ([] : List Nat) → l ≤ x := ⟨List.nodup_nil, fun x hx => by cases hx⟩
theorem nodup_last {a : List Nat} {l m : Nat} (na : a.Nodup) (ha : ∀ x, x ∈ a → l ≤ x ∧ x < m) : a.Nodup ∧ ∀ x, x ∈ a → l ≤ x := ⟨na, fun x hx => (ha x hx).1⟩
theorem nodup_step {a b : List Nat} {l m l2 : Nat} (na : a.Nodup) (ha : ∀ x, x ∈ a → l ≤ x ∧ x < m) (hb : b.Nodup ∧ ∀ x, x ∈ b → l2 ≤ x) (h : m ≤ l2) (hl : l ≤ l2) : (a ++ b).Nodup ∧ ∀ x, x ∈ a ++ b → l ≤ x :=
  ⟨nodup_app na hb.1 (fun x hx => (ha x hx).2) (fun x hx => Nat.le_trans h (hb.2 x hx)), fun x hx => by
    rcases List.mem_append.1 hx with hx | hx
    · exact (ha x hx).1
    · exact Nat.le_trans hl (hb.2 x hx)⟩
/-! Slices of structs, what serves every type. -/
theorem row_some {base E size n c g : Nat} : ∀ (ds : List Value) (p : Nat) (vs : List Value) (w : World), w.ownsRow base E size (.slice (some ⟨g, 0, none⟩) n c) n vs → p + ds.length ≤ vs.length →
    (setAll w g p ds).ownsRow base E size (.slice (some ⟨g, 0, none⟩) n c) n (vs.take p ++ ds ++ vs.drop (p + ds.length)) ∧ w.grownBy (setAll w g p ds) (some g)
  | [], p, vs, w, h, _ => by
    simp only [List.append_nil, List.length_nil, Nat.add_zero, List.take_append_drop]
    exact ⟨h, ⟨rfl, rfl, rfl, Nat.le_refl _, fun _ _ _ => rfl⟩⟩
  | x :: ds, p, vs, w, h, hl => by
    simp only [List.length_cons] at hl
    obtain ⟨h1, g1⟩ := h.stored p x
    obtain ⟨h2, g2⟩ := row_some ds (p + 1) (vs.set p x) _ h1 (by rw [List.length_set]; omega)
    refine ⟨?_, g1.trans g2⟩
    have e : (vs.set p x).take (p + 1) ++ ds ++ (vs.set p x).drop (p + 1 + ds.length) = vs.take p ++ (x :: ds) ++ vs.drop (p + (x :: ds).length) := by
      have hj : p < vs.length := by omega
      rw [List.take_succ_eq_append_getElem (by rw [List.length_set]; exact hj), List.take_set_of_le (Nat.le_refl _), List.getElem_set_self, List.drop_set_of_lt (by omega)]
      simp only [List.append_assoc, List.cons_append, List.nil_append, List.length_cons]
      congr 4
      omega
    rw [e] at h2
    exact h2
theorem fill_many {E size n : Nat} {w wr w2 : World} {ds es : List Dc} {left p m : Nat} {vals : List Value} {b2 : List Nat} (h : Bs.Fill E size n w ds (left + m) wr) (hp : ds.length = p) (hb : Below wr.heap.size wr w2) (h2 : OwnsL w2 wr.heap.size es vals b2) (n2 : b2.Nodup) (hm : vals.length = m) :
    Bs.Fill E size n w (ds ++ es) left (setAll w2 w.heap.size p vals) := by
  obtain ⟨vp, tail, bs, ho, ht, hl, hn, hbw⟩ := h
  have hlen : vp.length = p := by rw [ownsL_len hl, hp]
  have hlo : w.heap.size + 1 ≤ wr.heap.size := by have := (ho.lt w.heap.size rfl).2; omega
  obtain ⟨k1, k2⟩ := Bs.append_blocks hl hn hb h2 n2 hlo
  have ho0 := own_below ho hb
  obtain ⟨s1, g1⟩ := row_some vals p _ _ ho0 (by rw [List.length_append]; omega)
  have e1 : (vp ++ tail).take p = vp := by rw [← hlen, List.take_left]
  have e2 : (vp ++ tail).drop (p + vals.length) = tail.drop vals.length := by rw [← hlen, ← List.drop_drop, List.drop_left]
  rw [e1, e2] at s1
  refine ⟨vp ++ vals, tail.drop vals.length, bs ++ b2, s1, by rw [List.length_drop]; omega, ?_, k2, ?_⟩
  · refine ownsL_keep _ _ _ k1 (fun b hb => g1.block b ?_ ?_)
    · exact (ownsL_in _ _ _ k1 b hb).2
    · intro e
      have := (ownsL_in _ _ _ k1 b hb).1
      injection e with e
      omega
  · exact below_turned (hbw.trans (hb.mono hbw.size)) (turned_grown g1) (fun b hb => by simp at hb; omega)
theorem piece_at {α : Type} {f : α → List Dc} {m : Nat} (hlen : ∀ x, (f x).length = m) (hm : 0 < m) {w : World} {hi E nn k n c : Nat} {A : Option Addr} {l : List α} {x : α}
    (h : Rds w hi (.row E m nn (l.flatMap f)) (.slice A n c)) (e : l[k]? = some x) :
    ∃ g off vs, A = some ⟨g, off, none⟩ ∧ g < hi ∧ RdsL w hi (f x) vs ∧ ∀ j v, vs[j]? = some v → w.cell? ⟨g, off + k * m + j, none⟩ = some v := by
  obtain ⟨A', c', vs, ev, hr, hl⟩ := rds_row h
  injection ev with e1 e2 e3
  subst e1 e2 e3
  have hkl : k < l.length := (List.getElem?_eq_some_iff.1 e).1
  have hsz : vs.length = l.length * m := by rw [rdsL_len hl, flat_len hlen]
  have hvn : vs.length = n * m := hr.1
  have hln : n = l.length := Nat.eq_of_mul_eq_mul_right hm (by omega)
  obtain ⟨g, off, rfl, hg, hc⟩ := hr.2 (by omega)
  -- the list of data, split at the piece
  have split : ∀ (l : List α) (k : Nat) (vs : List Value), l[k]? = some x → RdsL w hi (l.flatMap f) vs → ∃ us, RdsL w hi (f x) us ∧ ∀ j v, us[j]? = some v → vs[k * m + j]? = some v := by
    intro l
    induction l with
    | nil => intro k vs e _; simp at e
    | cons y l ih =>
      intro k vs e h
      rw [List.flatMap_cons] at h
      have app : ∀ (ds es : List Dc) (vs : List Value), RdsL w hi (ds ++ es) vs → ∃ a b, vs = a ++ b ∧ RdsL w hi ds a ∧ RdsL w hi es b := by
        intro ds
        induction ds with
        | nil => intro es vs h; exact ⟨[], vs, rfl, by simp [RdsL], h⟩
        | cons d ds ihd =>
          intro es vs h
          simp only [List.cons_append, RdsL] at h
          obtain ⟨v, vs', rfl, h1, h2⟩ := h
          obtain ⟨a, b, rfl, k1, k2⟩ := ihd es vs' h2
          exact ⟨v :: a, b, rfl, by simp only [RdsL]; exact ⟨v, a, rfl, h1, k1⟩, k2⟩
      obtain ⟨a, b, rfl, ha, hb⟩ := app _ _ _ h
      have hal : a.length = m := by rw [rdsL_len ha, hlen]
      cases k with
      | zero =>
        obtain rfl : y = x := by simpa using e
        refine ⟨a, ha, fun j v hv => ?_⟩
        have hj : j < a.length := (List.getElem?_eq_some_iff.1 hv).1
        rw [Nat.zero_mul, Nat.zero_add, List.getElem?_append_left hj]
        exact hv
      | succ k =>
        obtain ⟨us, h1, h2⟩ := ih k b (by simpa using e) hb
        refine ⟨us, h1, fun j v hv => ?_⟩
        rw [List.getElem?_append_right (by rw [hal, Nat.add_mul]; omega), hal]
        have : (k + 1) * m + j - m = k * m + j := by rw [Nat.add_mul]; omega
        rw [this]
        exact h2 j v hv
  obtain ⟨us, h1, h2⟩ := split l k vs e hl
  refine ⟨g, off, us, rfl, hg, h1, fun j v hv => ?_⟩
  have hj : j < m := by have := (List.getElem?_eq_some_iff.1 hv).1; rw [rdsL_len h1, hlen] at this; exact this
  have hb : k * m + j < n * m := by
    have h3 : (k + 1) * m ≤ n * m := Nat.mul_le_mul_right _ (by omega)
    rw [Nat.add_mul] at h3
    omega
  rw [Nat.add_assoc, hc _ hb]
  exact h2 j v hv
theorem wt_mem {α : Type} (f : α → List Dc) {l : List α} {x : α} (h : x ∈ l) : wtL (f x) ≤ wtL (l.flatMap f) := by
  induction l with
  | nil => cases h
  | cons y l ih =>
    rw [List.flatMap_cons, wtL_app]
    rcases List.mem_cons.1 h with rfl | h
    · omega
    · have := ih h; omega
theorem cnt_flatMap {α : Type} (f : α → List Dc) (hf : ∀ x, cntL (f x) ≤ 64 + 64 * wtL (f x)) : ∀ l : List α, cntL (l.flatMap f) ≤ 64 * (l.length + wtL (l.flatMap f))
  | [] => by simp [cntL]
  | x :: l => by
    rw [List.flatMap_cons, cntL_app, wtL_app, List.length_cons]
    have h1 := hf x
    have h2 := cnt_flatMap f hf l
    omega
theorem take_next {α : Type} {f : α → List Dc} {l : List α} {k : Nat} {x : α} (h : l[k]? = some x) : (l.take (k + 1)).flatMap f = (l.take k).flatMap f ++ f x := by
  obtain ⟨hl2, e2⟩ := List.getElem?_eq_some_iff.1 h
  rw [List.take_succ_eq_append_getElem hl2, e2]; simp
theorem wt_next {α : Type} {f : α → List Dc} {l : List α} {k : Nat} {x : α} (h : l[k]? = some x) : wtL ((l.take (k + 1)).flatMap f) = wtL ((l.take k).flatMap f) + wtL (f x) := by rw [take_next h, wtL_app]
theorem wt_split {α : Type} {f : α → List Dc} (l : List α) (k : Nat) : wtL (l.flatMap f) = wtL ((l.take k).flatMap f) + wtL ((l.drop k).flatMap f) := by rw [← wtL_app, ← List.flatMap_append, List.take_append_drop]
theorem kP_val {cs : List Dc} {k : Int} {p : Nat} {v : Value} (h : cs[p]? = some (.val v)) : kP cs k (p + 1) = kP cs k p + 1 := by
  rw [kP_step h]; rfl
theorem mod3 {K : Int} (h : 0 ≤ K) : K % 3 = K.tmod 3 := (Int.tmod_eq_emod_of_nonneg h).symm
section
variable {E size n base : Nat} {cs : List Dc} {k : Int} {m c : Nat} {bs : List Nat} {w wr : World} {p g off a : Nat}
theorem mkg_int {K x : Int} (hk : kP cs k p = K) (ha : off + p = a) (h : Mkg E size n base cs k (some ⟨g, off, none⟩) m c bs w p wr) (hp : cs[p]? = some (.val (.int .i64 x))) :
    wr.cell? ⟨g, a, none⟩ = some (.int .i64 x) ∧ wr.frozen? ⟨g, a, none⟩ = false ∧ Mkg E size n base cs k (some ⟨g, off, none⟩) m c bs w (p + 1) (wr.setCell ⟨g, a, none⟩ (.int .i64 K)) := by
  subst hk
  exact mkg_val ha h hp
theorem mkg_bool {K : Int} {x : Bool} (hk : kP cs k p = K) (ha : off + p = a) (h0 : 0 ≤ K) (h : Mkg E size n base cs k (some ⟨g, off, none⟩) m c bs w p wr) (hp : cs[p]? = some (.val (.bool x))) :
    wr.cell? ⟨g, a, none⟩ = some (.bool x) ∧ wr.frozen? ⟨g, a, none⟩ = false ∧ Mkg E size n base cs k (some ⟨g, off, none⟩) m c bs w (p + 1) (wr.setCell ⟨g, a, none⟩ (.bool (K % 3 == 0))) := by
  subst hk
  exact mkg_val ha h hp
theorem mkg_rowK {K : Int} {d : Dc} (hk : kP cs k p = K) (ha : off + p = a) (h : Mkg E size n base cs k (some ⟨g, off, none⟩) m c bs w p wr) (hp : cs[p]? = some d) :
    ∃ u b1, wr.cell? ⟨g, a, none⟩ = some u ∧ Owns wr base d u b1 ∧ b1.Nodup ∧ ∀ w', Owns w' base (mk d K) u b1 → Turned wr w' b1 → Mkg E size n base cs k (some ⟨g, off, none⟩) m c bs w (p + 1) w' := by
  subst hk
  exact mkg_row ha h hp
theorem mkg_lt (h : Mkg E size n base cs k (some ⟨g, off, none⟩) m c bs w p wr) {d : Dc} (hp : cs[p]? = some d) : g < wr.heap.size := by
  obtain ⟨g', o', e, _, h2⟩ := mkg_addr h hp
  injection e with e; injection e with e _ _; subst e
  exact h2
theorem mkg_end2 {A : Option Addr} (h : Mkg E size n base cs k A m c bs w p wr) (hp : cs.length = p) : Owns wr base (mk (.row E size n cs) k) (.slice A m c) bs ∧ Turned w wr bs := mkg_end h hp
end
/-- The cells of a marked piece. -/
theorem held_at {α : Type} {f : α → List Dc} {m : Nat} (hlen : ∀ x, (f x).length = m) {w : World} {hi E nn j n c : Nat} {A : Option Addr} {l : List α} {x : α} {k : Int}
    (h : Rds w hi (mk (.row E m nn (l.flatMap f)) k) (.slice A n c)) (e : l[j]? = some x) (hm : 0 < m) :
    ∃ g off, A = some ⟨g, off, none⟩ ∧ g < hi ∧ ∀ i d, i < m → (f x)[i]? = some d → ∃ u, w.cell? ⟨g, off + j * m + i, none⟩ = some u ∧ Rds w hi (mk d (kP (l.flatMap f) k (j * m + i))) u := by
  obtain ⟨d0, hd0⟩ := get_some (f x) (i := 0) (by rw [hlen]; exact hm)
  have e0 := flat_at hlen l j x 0 e hm
  rw [hd0] at e0
  obtain ⟨g, off, u0, rfl, hg, _, _⟩ := marked_at h e0
  refine ⟨g, off, rfl, hg, fun i d hi hd => ?_⟩
  have ei := flat_at hlen l j x i e hi
  rw [hd] at ei
  obtain ⟨_, _, u, ea, _, c1, r1⟩ := marked_at h ei
  injection ea with ea; injection ea with ea eb; subst ea eb
  exact ⟨u, by rw [Nat.add_assoc]; exact c1, r1⟩
theorem cnt_plain (v : Value) : cnt (.val v) = 1 := rfl
/-! What a call made, with plain results around it. -/
def MadeLx (ds : List Dc) (f : List Value → Value) (w : World) (e : Ending) (w' : World) : Prop := ∃ vs bs, e = .returned (f vs) ∧ OwnsL w' w.heap.size ds vs bs ∧ bs.Nodup ∧ Below w.heap.size w w'
def MadeDx (d : Dc) (f : Value → Value) (w : World) (e : Ending) (w' : World) : Prop := ∃ v bs, e = .returned (f v) ∧ Owns w' w.heap.size d v bs ∧ bs.Nodup ∧ Below w.heap.size w w'
def MadeLLx (ds es : List Dc) (f : List Value → List Value → Value) (w : World) (e : Ending) (w' : World) : Prop :=
  ∃ us bs vs cs, e = .returned (f us vs) ∧ OwnsL w' w.heap.size ds us bs ∧ OwnsL w' w.heap.size es vs cs ∧ bs.Nodup ∧ cs.Nodup ∧ (∀ b, b ∈ bs → b ∉ cs) ∧ Below w.heap.size w w'
section
variable {E size n base : Nat} {cs : List Dc} {k : Int} {m c : Nat} {bs : List Nat} {w wr w2 : World} {p g off a : Nat} {A : Option Addr}
theorem mkg_below (h : Mkg E size n base cs k A m c bs w p wr) (hb : Below wr.heap.size wr w2) : Mkg E size n base cs k A m c bs w p w2 :=
  ⟨owns_below h.1 hb, h.2.1, turned_trans h.2.2 (turned_below hb)⟩
theorem mkg_str {K : Int} {x : ByteArray} (hk : kP cs k p = K) (ha : off + p = a) (h : Mkg E size n base cs k (some ⟨g, off, none⟩) m c bs w p wr) (hp : cs[p]? = some (.val (.string x))) :
    wr.cell? ⟨g, a, none⟩ = some (.string x) ∧ wr.frozen? ⟨g, a, none⟩ = false ∧ Mkg E size n base cs k (some ⟨g, off, none⟩) m c bs w (p + 1) (wr.setCell ⟨g, a, none⟩ (.string (text K))) := by
  subst hk
  exact mkg_val ha h hp
end
end Go.Proofs.Ytoedfeacpllkeaa.Fx
