/-
  Marks over data with memory in it, and a cell in the midst of a row: what it reads as, what a store into it, or a change of what it leads to, does to the whole.
-/
import Derived.Test.YtoedfeacpllkeaaTy
namespace Go.Proofs.Ytoedfeacpllkeaa.Dm
open Go.ChangeShapes Go.WideShapes Go.ChangeAt Go.RowKit
open S0 S1 S9 Ty
set_option linter.unusedVariables false
/-- The decimal digits of a mark's text. -/
def digits : Nat → Nat → List UInt8
  | 0, _ => []
  | f + 1, k => if k = 0 then [] else digits f (k / 10) ++ [UInt8.ofNat (48 + k % 10)]
def text (k : Int) : ByteArray := ⟨(if k ≤ 0 then [109, 48] else 109 :: digits 64 k.toNat).toArray⟩
/-- What a mark makes of a plain cell. -/
def mkV (k : Int) : Value → Value
  | .int .u8 _ => .int .u8 (k % 256)
  | .int kd _ => .int kd k
  | .bool _ => .bool (k % 3 == 0)
  | .string _ => .string (text k)
  | v => v
mutual
/-- How many marks a datum takes. -/
def cnt : Dc → Nat
  | .val _ => 1
  | .row _ _ _ cs => cntL cs
def cntL : List Dc → Nat
  | [] => 0
  | d :: ds => cnt d + cntL ds
end
mutual
/-- The datum with marks from k on. -/
def mk : Dc → Int → Dc
  | .val v, k => .val (mkV k v)
  | .row E s n cs, k => .row E s n (mkL cs k)
def mkL : List Dc → Int → List Dc
  | [], _ => []
  | d :: ds, k => mk d k :: mkL ds (k + cnt d)
end
mutual
/-- How much the laws count of a datum: the elements of its slices, the letters of its strings. -/
def wt : Dc → Nat
  | .val (.string s) => s.size
  | .val _ => 0
  | .row _ _ n cs => n + wtL cs
def wtL : List Dc → Nat
  | [] => 0
  | d :: ds => wt d + wtL ds
end
theorem cntL_app : ∀ a b : List Dc, cntL (a ++ b) = cntL a + cntL b
  | [], b => by simp [cntL]
  | d :: a, b => by simp only [List.cons_append, cntL, cntL_app a b]; omega
theorem wtL_app : ∀ a b : List Dc, wtL (a ++ b) = wtL a + wtL b
  | [], b => by simp [wtL]
  | d :: a, b => by simp only [List.cons_append, wtL, wtL_app a b]; omega
theorem mkL_app : ∀ (a b : List Dc) (k : Int), mkL (a ++ b) k = mkL a k ++ mkL b (k + cntL a)
  | [], b, k => by simp [mkL, cntL]
  | d :: a, b, k => by
    simp only [List.cons_append, mkL, cntL, mkL_app a b]
    congr 3
    omega
theorem mkL_len : ∀ (a : List Dc) (k : Int), (mkL a k).length = a.length
  | [], k => rfl
  | d :: a, k => by simp [mkL, mkL_len a]
theorem mkL_get : ∀ (a : List Dc) (k : Int) (p : Nat) (d : Dc), a[p]? = some d → (mkL a k)[p]? = some (mk d (k + cntL (a.take p)))
  | [], k, p, d, h => by simp at h
  | e :: a, k, 0, d, h => by obtain rfl : e = d := by simpa using h
                             simp [mkL, cntL]
  | e :: a, k, p + 1, d, h => by
    have h2 : a[p]? = some d := by simpa using h
    simp only [mkL, List.getElem?_cons_succ, List.take_succ_cons, cntL]
    rw [mkL_get a _ p d h2]
    congr 2
    omega
/-- Marked as far as cell p. -/
def mkP (cs : List Dc) (k : Int) (p : Nat) : List Dc := mkL (cs.take p) k ++ cs.drop p
def kP (cs : List Dc) (k : Int) (p : Nat) : Int := k + cntL (cs.take p)
theorem mkP_zero (cs : List Dc) (k : Int) : mkP cs k 0 = cs := by simp [mkP, mkL]
theorem mkP_all (cs : List Dc) (k : Int) (p : Nat) (h : cs.length = p) : mkP cs k p = mkL cs k := by simp [mkP, ← h]
theorem kP_zero (cs : List Dc) (k : Int) : kP cs k 0 = k := by simp [kP, cntL]
theorem kP_all (cs : List Dc) (k : Int) (p : Nat) (h : cs.length = p) : kP cs k p = k + cntL cs := by simp [kP, ← h]
theorem mkP_get {cs : List Dc} {k : Int} {p : Nat} {d : Dc} (h : cs[p]? = some d) : (mkP cs k p)[p]? = some d := by
  have hl : p < cs.length := (List.getElem?_eq_some_iff.1 h).1
  unfold mkP
  rw [List.getElem?_append_right (by rw [mkL_len, List.length_take]; omega), mkL_len, List.length_take, Nat.min_eq_left (by omega), Nat.sub_self, List.getElem?_drop]
  simpa using h
theorem take_one {cs : List Dc} {p : Nat} {d : Dc} (h : cs[p]? = some d) : cs.take (p + 1) = cs.take p ++ [d] := by
  obtain ⟨hl, e⟩ := List.getElem?_eq_some_iff.1 h
  rw [List.take_succ_eq_append_getElem hl, e]
theorem kP_step {cs : List Dc} {k : Int} {p : Nat} {d : Dc} (h : cs[p]? = some d) : kP cs k (p + 1) = kP cs k p + cnt d := by
  unfold kP
  rw [take_one h, cntL_app]
  simp [cntL]
  omega
theorem mkP_step {cs : List Dc} {k : Int} {p : Nat} {d : Dc} (h : cs[p]? = some d) : (mkP cs k p).set p (mk d (kP cs k p)) = mkP cs k (p + 1) := by
  obtain ⟨hl, e⟩ := List.getElem?_eq_some_iff.1 h
  have e1 : (mkL (cs.take p) k).length = p := by rw [mkL_len, List.length_take]; omega
  unfold mkP
  rw [List.set_append_right _ _ (by omega), e1, Nat.sub_self, List.drop_eq_getElem_cons hl, List.set_cons_zero, take_one h, mkL_app]
  simp [mkL, kP]
theorem mkP_len {cs : List Dc} {k : Int} {p : Nat} (h : p ≤ cs.length) : (mkP cs k p).length = cs.length := by
  unfold mkP; rw [List.length_append, mkL_len, List.length_take, List.length_drop]; omega
theorem kP_le {cs : List Dc} {k : Int} {p : Nat} : k ≤ kP cs k p ∧ kP cs k p ≤ k + cntL cs := by
  have h := cntL_app (cs.take p) (cs.drop p)
  rw [List.take_append_drop] at h
  unfold kP
  omega
/-- Lists of things with 'size' cells each. -/
theorem flat_len {α : Type} {f : α → List Dc} {k : Nat} (h : ∀ x, (f x).length = k) : ∀ l : List α, (l.flatMap f).length = l.length * k
  | [] => by simp
  | x :: l => by rw [List.flatMap_cons, List.length_append, h, flat_len h l, List.length_cons, Nat.add_mul]; omega
theorem flat_at {α : Type} {f : α → List Dc} {k : Nat} (h : ∀ x, (f x).length = k) : ∀ (l : List α) (i : Nat) (x : α) (j : Nat), l[i]? = some x → j < k → (l.flatMap f)[i * k + j]? = (f x)[j]?
  | [], i, x, j, e, _ => by simp at e
  | y :: l, 0, x, j, e, hj => by
    obtain rfl : y = x := by simpa using e
    rw [List.flatMap_cons, List.getElem?_append_left (by rw [h]; omega)]
    simp
  | y :: l, i + 1, x, j, e, hj => by
    have e2 : l[i]? = some x := by simpa using e
    have e3 : (i + 1) * k + j = k + (i * k + j) := by rw [Nat.add_mul]; omega
    rw [List.flatMap_cons, List.getElem?_append_right (by rw [h, e3]; omega), h, e3, Nat.add_sub_cancel_left]
    exact flat_at h l i x j e2 hj
theorem flat_take {α : Type} {f : α → List Dc} {k : Nat} (h : ∀ x, (f x).length = k) : ∀ (l : List α) (i : Nat), (l.flatMap f).take (i * k) = (l.take i).flatMap f
  | [], i => by simp
  | x :: l, 0 => by simp
  | x :: l, i + 1 => by
    rw [List.flatMap_cons, List.take_succ_cons, List.flatMap_cons, show (i + 1) * k = (f x).length + i * k by rw [h, Nat.add_mul]; omega, List.take_length_add_append, flat_take h l i]
theorem get_some {α : Type} (l : List α) {i : Nat} (h : i < l.length) : ∃ x, l[i]? = some x := ⟨l[i], List.getElem?_eq_getElem h⟩
/-- A cell of a row, read. -/
theorem rdsL_at {w : World} {hi : Nat} : ∀ {cs : List Dc} {vs : List Value} {p : Nat} {d : Dc}, RdsL w hi cs vs → cs[p]? = some d → ∃ u, vs[p]? = some u ∧ Rds w hi d u
  | [], vs, p, d, h, e => by simp at e
  | c :: cs, vs, 0, d, h, e => by
    simp only [RdsL] at h
    obtain ⟨v, vs', rfl, h1, _⟩ := h
    obtain rfl : c = d := by simpa using e
    exact ⟨v, rfl, h1⟩
  | c :: cs, vs, p + 1, d, h, e => by
    simp only [RdsL] at h
    obtain ⟨v, vs', rfl, _, h2⟩ := h
    obtain ⟨u, g1, g2⟩ := rdsL_at (p := p) h2 (by simpa using e)
    exact ⟨u, by simpa using g1, g2⟩
theorem rds_row {w : World} {hi E size n : Nat} {cs : List Dc} {v : Value} (h : Rds w hi (.row E size n cs) v) : ∃ A c vs, v = .slice A n c ∧ Rd w hi size A n vs ∧ RdsL w hi cs vs := by simpa only [Rds] using h
theorem rds_at {w : World} {hi E size n m c : Nat} {A : Option Addr} {cs : List Dc} {p : Nat} {d : Dc} (h : Rds w hi (.row E size n cs) (.slice A m c)) (e : cs[p]? = some d) :
    ∃ b off u, A = some ⟨b, off, none⟩ ∧ b < hi ∧ w.cell? ⟨b, off + p, none⟩ = some u ∧ Rds w hi d u := by
  obtain ⟨A', c', vs, ev, hr, hl⟩ := rds_row h
  injection ev with e1 e2 e3
  subst e1 e2 e3
  obtain ⟨u, g1, g2⟩ := rdsL_at hl e
  have hp : p < vs.length := (List.getElem?_eq_some_iff.1 g1).1
  rw [hr.1] at hp
  have hn : 0 < m := by
    rcases Nat.eq_zero_or_pos m with h0 | h0
    · subst h0; simp at hp
    · exact h0
  obtain ⟨b, off, ea, hb, hc⟩ := hr.2 hn
  exact ⟨b, off, u, ea, hb, by rw [hc p hp, g1], g2⟩
/-- Two rows of data, one behind the other. -/
theorem ownsL_app {w : World} {lo : Nat} : ∀ {ds es : List Dc} {us vs : List Value} {b1 b2 : List Nat}, OwnsL w lo ds us b1 → OwnsL w lo es vs b2 → OwnsL w lo (ds ++ es) (us ++ vs) (b1 ++ b2)
  | [], es, us, vs, b1, b2, h, k => by simp only [OwnsL] at h; obtain ⟨rfl, rfl⟩ := h; exact k
  | d :: ds, es, us, vs, b1, b2, h, k => by
    simp only [OwnsL] at h
    obtain ⟨v, vs', c1, c2, rfl, h1, h2, rfl⟩ := h
    simp only [List.cons_append, OwnsL]
    exact ⟨v, vs' ++ vs, c1, c2 ++ b2, rfl, h1, ownsL_app h2 k, by simp⟩
theorem ownsL_len {w : World} {lo : Nat} : ∀ {ds : List Dc} {vs : List Value} {bs : List Nat}, OwnsL w lo ds vs bs → vs.length = ds.length
  | [], vs, bs, h => by simp only [OwnsL] at h; simp [h.1]
  | d :: ds, vs, bs, h => by
    simp only [OwnsL] at h
    obtain ⟨v, vs', _, _, rfl, _, h2, _⟩ := h
    simp [ownsL_len h2]
/-- A cell in the midst: what it owns, and the whole once it is changed. -/
theorem ownsL_at {w : World} {lo : Nat} : ∀ {cs : List Dc} {vs : List Value} {bs : List Nat} {p : Nat} {d : Dc}, OwnsL w lo cs vs bs → bs.Nodup → cs[p]? = some d →
    ∃ u b1, vs[p]? = some u ∧ Owns w lo d u b1 ∧ b1.Nodup ∧ (∀ x, x ∈ b1 → x ∈ bs) ∧
      ∀ w' d' u', Owns w' lo d' u' b1 → (∀ x, x ∈ bs → x ∉ b1 → w'.heap[x]? = w.heap[x]?) → OwnsL w' lo (cs.set p d') (vs.set p u') bs
  | [], vs, bs, p, d, h, _, e => by simp at e
  | c :: cs, vs, bs, 0, d, h, hn, e => by
    simp only [OwnsL] at h
    obtain ⟨v, vs', b1, b2, rfl, h1, h2, rfl⟩ := h
    obtain rfl : c = d := by simpa using e
    obtain ⟨n1, n2, n3⟩ := List.nodup_append.1 hn
    refine ⟨v, b1, rfl, h1, n1, fun x hx => List.mem_append_left _ hx, fun w' d' u' ho hk => ?_⟩
    simp only [List.set_cons_zero, OwnsL]
    exact ⟨u', vs', b1, b2, rfl, ho, ownsL_keep cs vs' b2 h2 (fun b hb => hk b (List.mem_append_right _ hb) (fun hb1 => n3 b hb1 b hb rfl)), rfl⟩
  | c :: cs, vs, bs, p + 1, d, h, hn, e => by
    simp only [OwnsL] at h
    obtain ⟨v, vs', b1, b2, rfl, h1, h2, rfl⟩ := h
    obtain ⟨n1, n2, n3⟩ := List.nodup_append.1 hn
    obtain ⟨u, b3, g1, g2, g3, g4, g5⟩ := ownsL_at (p := p) (d := d) h2 n2 (by simpa using e)
    refine ⟨u, b3, by simpa using g1, g2, g3, fun x hx => List.mem_append_right _ (g4 x hx), fun w' d' u' ho hk => ?_⟩
    simp only [List.set_cons_succ, OwnsL]
    refine ⟨v, vs'.set p u', b1, b2, rfl, owns_keep c v b1 h1 (fun b hb => hk b (List.mem_append_left _ hb) (fun hb3 => n3 b hb b (g4 b hb3) rfl)), g5 w' d' u' ho (fun x hx hx3 => hk x (List.mem_append_right _ hx) hx3), rfl⟩
theorem set_get {α : Type} : ∀ (l : List α) (p : Nat) (x : α), l[p]? = some x → l.set p x = l
  | [], p, x, h => by simp at h
  | y :: l, 0, x, h => by obtain rfl : y = x := by simpa using h
                          rfl
  | y :: l, p + 1, x, h => by simp [set_get l p x (by simpa using h)]
theorem owns_row {w : World} {lo E size n : Nat} {cs : List Dc} {v : Value} {bs : List Nat} (h : Owns w lo (.row E size n cs) v bs) : ∃ vs b2, Ow.At w lo E size v n vs ∧ OwnsL w lo cs vs b2 ∧ bs = v.ownBlock.toList ++ b2 := by simpa only [Owns] using h
/-- A cell of a row of the call's own. -/
theorem owns_at {w : World} {lo E size n m c : Nat} {A : Option Addr} {cs : List Dc} {bs : List Nat} {p : Nat} {d : Dc} (h : Owns w lo (.row E size n cs) (.slice A m c) bs) (hn : bs.Nodup) (e : cs[p]? = some d) :
    ∃ g off u b1, A = some ⟨g, off, none⟩ ∧ lo ≤ g ∧ g < w.heap.size ∧ w.cell? ⟨g, off + p, none⟩ = some u ∧ w.frozen? ⟨g, off + p, none⟩ = false ∧ Owns w lo d u b1 ∧ b1.Nodup ∧
      (∀ w' d', Owns w' lo d' u b1 → Turned w w' b1 → Owns w' lo (.row E size n (cs.set p d')) (.slice A m c) bs ∧ Turned w w' bs) ∧
      (b1 = [] → ∀ x, Owns (w.setCell ⟨g, off + p, none⟩ x) lo (.row E size n (cs.set p (.val x))) (.slice A m c) bs ∧ Turned w (w.setCell ⟨g, off + p, none⟩ x) bs) := by
  obtain ⟨vs, b2, ho, hl, rfl⟩ := owns_row h
  obtain ⟨n1, n2, n3⟩ := List.nodup_append.1 hn
  obtain ⟨u, b1, g1, g2, g3, g4, g5⟩ := ownsL_at hl n2 e
  have hp : p < vs.length := (List.getElem?_eq_some_iff.1 g1).1
  have hnn : 0 < n := by
    rcases Nat.eq_zero_or_pos n with h0 | h0
    · have := ho.1; subst h0; simp at this; simp [this] at hp
    · exact h0
  obtain ⟨g, off, cap, hv, _, hlt⟩ := ho.form hnn
  injection hv with e1 e2 e3
  subst e1 e2 e3
  obtain ⟨k1, k2⟩ := ho.lt g rfl
  have hgn : g ∉ b2 := fun hg => n3 g (by simp [Value.ownBlock]) g hg rfl
  refine ⟨g, off, u, b1, rfl, k1, k2, by rw [ho.cellAt p (by rw [← ho.1]; exact hp), g1], ho.frozenAt _, g2, g3, fun w' d' ho' ht => ?_, fun hb x => ?_⟩
  · have hk : ∀ b, b ∈ (Value.slice (some ⟨g, off, none⟩) m c).ownBlock.toList ++ b2 → b ∉ b1 → w'.heap[b]? = w.heap[b]? := fun b hb hb1 => by
      refine ht.2.2.2.2 b ?_ hb1
      rcases List.mem_append.1 hb with hb | hb
      · obtain rfl : b = g := by simpa [Value.ownBlock] using hb
        exact k2
      · exact (ownsL_in cs vs b2 hl b hb).2
    refine ⟨?_, turned_more ht (fun x hx => List.mem_append_right _ (g4 x hx))⟩
    simp only [Owns]
    refine ⟨vs, b2, row_keep ho (fun k hk2 => hk k (List.mem_append_left _ (by rw [hk2]; simp)) (fun hk1 => hgn (by
      obtain rfl : g = k := by simpa [Value.ownBlock] using hk2
      exact g4 _ hk1))), ?_, rfl⟩
    have := g5 w' d' u ho' (fun x hx hx1 => hk x (List.mem_append_right _ hx) hx1)
    rwa [set_get vs p u g1] at this
  · subst hb
    obtain ⟨s1, s2⟩ := ho.stored p x
    have ht : Turned w (w.setCell ⟨g, off + p, none⟩ x) ((Value.slice (some ⟨g, off, none⟩) m c).ownBlock.toList) := turned_grown s2
    refine ⟨?_, turned_more ht (fun y hy => List.mem_append_left _ hy)⟩
    simp only [Owns]
    refine ⟨vs.set p x, b2, s1, g5 _ (.val x) x (by simp [Owns]) (fun y hy _ => ?_), rfl⟩
    refine ht.2.2.2.2 y (ownsL_in cs vs b2 hl y hy).2 (fun hy2 => ?_)
    obtain rfl : y = g := by simpa [Value.ownBlock] using hy2
    exact hgn hy
theorem owns_val {w : World} {lo : Nat} {x u : Value} {bs : List Nat} (h : Owns w lo (.val x) u bs) : u = x ∧ bs = [] := by simpa only [Owns] using h
theorem rds_val {w : World} {hi : Nat} {x u : Value} (h : Rds w hi (.val x) u) : u = x := by simpa only [Rds] using h
/-- A flat row of numbers, read. -/
theorem rds_flat {w : World} {hi E size n : Nat} {kd : IntKind} {xs : List Int} {u : Value} (h : Rds w hi (flatD E kd size n xs) u) : ∃ A c, u = .slice A n c ∧ Rd w hi size A n (ints kd xs) := by
  unfold flatD at h
  obtain ⟨A, c, vs, rfl, hr, hl⟩ := rds_row h
  have : vs = ints kd xs := by
    clear hr h
    revert vs
    induction xs with
    | nil => intro vs hl; simpa [RdsL, ints] using hl
    | cons x xs ih =>
      intro vs hl
      simp only [List.map_cons, RdsL] at hl
      obtain ⟨v, vs', rfl, h1, h2⟩ := hl
      rw [rds_val h1, ih vs' h2]
      rfl
  subst this
  exact ⟨A, c, rfl, hr⟩
theorem flat_rds {w : World} {hi E size n c : Nat} {kd : IntKind} {xs : List Int} {A : Option Addr} (h : Rd w hi size A n (ints kd xs)) : Rds w hi (flatD E kd size n xs) (.slice A n c) := by
  unfold flatD
  simp only [Rds]
  refine ⟨A, c, ints kd xs, rfl, h, ?_⟩
  clear h
  induction xs with
  | nil => simp [RdsL, ints]
  | cons x xs ih => simp only [List.map_cons, RdsL]; exact ⟨_, _, rfl, by simp [Rds], ih⟩
theorem cnt_flat (E : TypeId) (kd : IntKind) (size n : Nat) (xs : List Int) : cnt (flatD E kd size n xs) = xs.length := by
  unfold flatD
  simp only [cnt]
  induction xs with
  | nil => rfl
  | cons x xs ih => simp [cntL, cnt, ih]; omega
theorem wt_flat (E : TypeId) (kd : IntKind) (size n : Nat) (xs : List Int) : wt (flatD E kd size n xs) = n := by
  unfold flatD
  simp only [wt]
  have : wtL (xs.map fun x => Dc.val (.int kd x)) = 0 := by
    induction xs with
    | nil => rfl
    | cons x xs ih => simp [wtL, wt, ih]
  omega
theorem marks_cons (f : Int → Int) : ∀ (n : Nat) (k : Int), marks f k (n + 1) = f k :: marks f (k + 1) n
  | 0, k => by simp [marks]
  | n + 1, k => by
    rw [show marks f k (n + 1 + 1) = marks f k (n + 1) ++ [f (k + (n + 1 : Nat))] from rfl, marks_cons f n k]
    rw [show marks f (k + 1) (n + 1) = marks f (k + 1) n ++ [f (k + 1 + n)] from rfl]
    simp only [List.cons_append]
    congr 4
    omega
theorem mk_bytes (E : TypeId) (size n : Nat) (xs : List Int) (k : Int) : mk (flatD E .u8 size n xs) k = flatD E .u8 size n (marks fu8 k xs.length) := by
  unfold flatD
  simp only [mk]
  congr 1
  revert k
  induction xs with
  | nil => intro k; simp [mkL, marks]
  | cons x xs ih => intro k; rw [List.length_cons, marks_cons]; simp [mkL, mk, mkV, cnt, ih, fu8]
theorem mk_numbers (E : TypeId) (size n : Nat) (xs : List Int) (k : Int) : mk (flatD E .i64 size n xs) k = flatD E .i64 size n (marks fi64 k xs.length) := by
  unfold flatD
  simp only [mk]
  congr 1
  revert k
  induction xs with
  | nil => intro k; simp [mkL, marks]
  | cons x xs ih => intro k; rw [List.length_cons, marks_cons]; simp [mkL, mk, mkV, cnt, ih, fi64]
/-- In the midst of marking a row: p cells are marked. -/
def Mkg (E size n base : Nat) (cs : List Dc) (k : Int) (A : Option Addr) (m c : Nat) (bs : List Nat) (w : World) (p : Nat) (wr : World) : Prop :=
  Owns wr base (.row E size n (mkP cs k p)) (.slice A m c) bs ∧ bs.Nodup ∧ Turned w wr bs
section
variable {E size n base : Nat} {cs : List Dc} {k : Int} {A : Option Addr} {m c : Nat} {bs : List Nat} {w wr : World} {p : Nat}
theorem mkg_addr (h : Mkg E size n base cs k A m c bs w p wr) {d : Dc} (hp : cs[p]? = some d) : ∃ g off, A = some ⟨g, off, none⟩ ∧ base ≤ g ∧ g < wr.heap.size := by
  obtain ⟨g, off, _, _, e, h1, h2, _⟩ := owns_at h.1 h.2.1 (mkP_get hp)
  exact ⟨g, off, e, h1, h2⟩
/-- A plain cell is marked. -/
theorem mkg_val {g off a : Nat} (ha : off + p = a) (h : Mkg E size n base cs k (some ⟨g, off, none⟩) m c bs w p wr) {v : Value} (hp : cs[p]? = some (.val v)) :
    wr.cell? ⟨g, a, none⟩ = some v ∧ wr.frozen? ⟨g, a, none⟩ = false ∧ Mkg E size n base cs k (some ⟨g, off, none⟩) m c bs w (p + 1) (wr.setCell ⟨g, a, none⟩ (mkV (kP cs k p) v)) := by
  subst ha
  obtain ⟨g', off', u, b1, e, _, _, hc, hf, ho, _, _, hs⟩ := owns_at h.1 h.2.1 (mkP_get hp)
  injection e with e; injection e with e eo _; subst e eo
  obtain ⟨rfl, rfl⟩ := owns_val ho
  obtain ⟨s1, s2⟩ := hs rfl (mkV (kP cs k p) u)
  have e2 := mkP_step (k := k) hp
  simp only [mk] at e2
  rw [e2] at s1
  exact ⟨hc, hf, s1, h.2.1, turned_trans h.2.2 s2⟩
/-- What a cell leads to is marked. -/
theorem mkg_row {g off a : Nat} (ha : off + p = a) (h : Mkg E size n base cs k (some ⟨g, off, none⟩) m c bs w p wr) {d : Dc} (hp : cs[p]? = some d) :
    ∃ u b1, wr.cell? ⟨g, a, none⟩ = some u ∧ Owns wr base d u b1 ∧ b1.Nodup ∧ ∀ w', Owns w' base (mk d (kP cs k p)) u b1 → Turned wr w' b1 → Mkg E size n base cs k (some ⟨g, off, none⟩) m c bs w (p + 1) w' := by
  subst ha
  obtain ⟨g', off', u, b1, e, _, _, hc, _, ho, hn, hi, _⟩ := owns_at h.1 h.2.1 (mkP_get hp)
  injection e with e; injection e with e eo _; subst e eo
  refine ⟨u, b1, hc, ho, hn, fun w' h1 h2 => ?_⟩
  obtain ⟨s1, s2⟩ := hi w' _ h1 h2
  rw [mkP_step hp] at s1
  exact ⟨s1, h.2.1, turned_trans h.2.2 s2⟩
end
theorem mkg_start {E size n base m c : Nat} {cs : List Dc} {k : Int} {A : Option Addr} {bs : List Nat} {w : World} (h : Owns w base (.row E size n cs) (.slice A m c) bs) (hn : bs.Nodup) : Mkg E size n base cs k A m c bs w 0 w :=
  ⟨by rw [mkP_zero]; exact h, hn, turned_refl _ _⟩
theorem mkg_end {E size n base m c p : Nat} {cs : List Dc} {k : Int} {A : Option Addr} {bs : List Nat} {w wr : World} (h : Mkg E size n base cs k A m c bs w p wr) (hp : cs.length = p) : Owns wr base (mk (.row E size n cs) k) (.slice A m c) bs ∧ Turned w wr bs := by
  obtain ⟨h1, _, h3⟩ := h
  rw [mkP_all _ _ _ hp] at h1
  exact ⟨by simp only [mk]; exact h1, h3⟩
/-- What a call that marks leaves. -/
def MarkD (d : Dc) (k : Int) (base : Nat) (v : Value) (bs : List Nat) (w : World) (e : Ending) (w' : World) : Prop := e = .returned (.int .i64 (k + cnt d)) ∧ Owns w' base (mk d k) v bs ∧ Turned w w' bs
/-- A cell of a marked row, read. -/
theorem marked_at {w : World} {hi E size n m c : Nat} {A : Option Addr} {cs : List Dc} {k : Int} {p : Nat} {d : Dc} (h : Rds w hi (mk (.row E size n cs) k) (.slice A m c)) (e : cs[p]? = some d) :
    ∃ b off u, A = some ⟨b, off, none⟩ ∧ b < hi ∧ w.cell? ⟨b, off + p, none⟩ = some u ∧ Rds w hi (mk d (kP cs k p)) u := by
  simp only [mk] at h
  exact rds_at h (mkL_get cs k p d e)
end Go.Proofs.Ytoedfeacpllkeaa.Dm
