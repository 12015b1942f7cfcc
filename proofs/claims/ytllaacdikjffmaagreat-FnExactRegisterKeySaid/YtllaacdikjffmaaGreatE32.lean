import Derived.Test.YtllaacdikjffmaaGreatE26
import Derived.Test.YtllaacdikjffmaaGreatE31
/-
  A symbolic run: an element of a row of rows is loaded (what it has in memory is taken out, a hole stays) and stored anew.
-/
namespace Go.Proofs.YtllaacdikjffmaaGreat.E32
open Go.ChangeShapes Go.WideShapes Go.ChangeAt Go.RowKit
open S0 S1 S9 Dm E0 E1 E2 E3 E4 E5 E7 E8 E9 E9e E10 E15 E16 E17 E18 E19 E20 E26 E31
set_option linter.unusedVariables false
set_option maxRecDepth 100000
/-- A row of one's own, of which a cell has been taken out: some value stands there. -/
structure HoleD (lo : Nat) (E : TypeId) (sz n : Nat) (el : Nat → Nat → Da) (i f : Nat) (v : Value) (bs : List Nat) (w : World) : Prop where
  is : ∃ u, u.oneCell' = true ∧ Owns w lo (Da.row E sz n (putEl el i f (.val u))).dc v bs
section
variable {P : Program} {W0 W : World} {ρ : Roots} {w : World} {obs : Nat → Ob} {o : Oper} {id q : Nat} {E : TypeId} {n k : Nat} {el : Nat → Nat → Da}
theorem HoleD.firm {lo sz i f : Nat} (v : Value) (bs : List Nat) (w1 w2 : World) (hk : ∀ b, b ∈ bs → w2.heap[b]? = w1.heap[b]?) (h : HoleD lo E sz n el i f v bs w1) : HoleD lo E sz n el i f v bs w2 := by
  obtain ⟨u, h1, h2⟩ := h.is
  exact ⟨u, h1, owns_keep _ _ _ h2 hk⟩
/-- Blocks go over from one object to a new one. -/
theorem mem_part (h : Mem W0 obs ρ w) {r v : Value} {bs b1 cs : List Nat} {ob1 ob2 : Ob} (hρ : ρ q = some (r, bs)) (hid : ρ id = none) (h1 : ∀ b, b ∈ b1 → b ∈ bs) (h2 : ∀ b, b ∈ cs → b ∈ bs) (hd : ∀ b, b ∈ b1 → b ∉ cs) (n1 : b1.Nodup) (n2 : cs.Nodup)
    (o1 : ObOK (upd (upd ρ q (some (r, b1))) id (some (v, cs))) W0 w q ob1) (o2 : ObOK (upd (upd ρ q (some (r, b1))) id (some (v, cs))) W0 w id ob2) :
    Le ρ (upd (upd ρ q (some (r, b1))) id (some (v, cs))) ∧ Mem W0 (upd (upd obs q ob1) id ob2) (upd (upd ρ q (some (r, b1))) id (some (v, cs))) w := by
  have hne : q ≠ id := fun e => by rw [e, hid] at hρ; cases hρ
  have hle : Le ρ (upd (upd ρ q (some (r, b1))) id (some (v, cs))) := (Le.upd ρ q r b1 (fun p hp => by rw [hρ] at hp; cases hp; rfl)).trans (Le.upd _ id v cs (fun p hp => by rw [upd_ne _ _ (fun e => hne e.symm), hid] at hp; cases hp))
  have three : ∀ (x : Nat) (p : Value × List Nat), upd (upd ρ q (some (r, b1))) id (some (v, cs)) x = some p → (x ≠ q ∧ x ≠ id ∧ ρ x = some p) ∨ (x = q ∧ p = (r, b1)) ∨ (x = id ∧ p = (v, cs)) := fun x p hx => by
    by_cases e1 : x = id
    · subst e1; rw [upd_same] at hx; exact .inr (.inr ⟨rfl, by simpa using hx.symm⟩)
    · rw [upd_ne _ _ e1] at hx
      by_cases e2 : x = q
      · subst e2; rw [upd_same] at hx; exact .inr (.inl ⟨rfl, by simpa using hx.symm⟩)
      · rw [upd_ne _ _ e2] at hx; exact .inl ⟨e2, e1, hx⟩
  refine ⟨hle, h.below, fun x => ?_, fun x x' p p' hne' k1 k2 b hb1 hb2 => ?_, fun x p hx => ?_⟩
  · by_cases e1 : x = id
    · subst e1; rw [upd_same]; exact o2
    · rw [upd_ne _ _ e1]
      by_cases e2 : x = q
      · subst e2; rw [upd_same]; exact o1
      · rw [upd_ne _ _ e2]
        exact ob_keep hle (by rw [upd_ne _ _ e1, upd_ne _ _ e2]) (h.all x) (fun _ _ _ _ => rfl)
  · rcases three x p k1 with ⟨a1, a2, a3⟩ | ⟨rfl, rfl⟩ | ⟨rfl, rfl⟩ <;> rcases three x' p' k2 with ⟨c1, c2, c3⟩ | ⟨rfl, rfl⟩ | ⟨rfl, rfl⟩
    · exact h.apart x x' p p' hne' a3 c3 b hb1 hb2
    · exact h.apart x x' p _ hne' a3 hρ b hb1 (h1 b hb2)
    · exact h.apart x q p _ a1 a3 hρ b hb1 (h2 b hb2)
    · exact h.apart x' x p' _ (fun e => hne' e.symm) c3 hρ b hb2 (h1 b hb1)
    · exact hne' rfl
    · exact hd b hb1 hb2
    · exact h.apart x' q p' _ c1 c3 hρ b hb2 (h2 b hb1)
    · exact hd b hb2 hb1
    · exact hne' rfl
  · rcases three x p hx with ⟨a1, a2, a3⟩ | ⟨rfl, rfl⟩ | ⟨rfl, rfl⟩
    · exact h.nodup x p a3
    · exact n1
    · exact n2
theorem ownsL_out {lo : Nat} : ∀ {cs : List Dc} {vs : List Value} {bs : List Nat} {p : Nat} {d : Dc}, OwnsL w lo cs vs bs → cs[p]? = some d → ∃ u ba c1 bb, vs[p]? = some u ∧ Owns w lo d u c1 ∧ bs = ba ++ (c1 ++ bb) ∧ OwnsL w lo (cs.set p (.val u)) vs (ba ++ bb)
  | [], vs, bs, p, d, h, e => by simp at e
  | c :: cs, vs, bs, 0, d, h, e => by
    obtain ⟨v, vs', b1, b2, rfl, h1, h2, rfl⟩ := h
    obtain rfl : c = d := by simpa using e
    exact ⟨v, [], b1, b2, rfl, h1, rfl, v, vs', [], b2, rfl, by simp [Owns], h2, rfl⟩
  | c :: cs, vs, bs, p + 1, d, h, e => by
    obtain ⟨v, vs', b1, b2, rfl, h1, h2, rfl⟩ := h
    obtain ⟨u, ba, c1, bb, g1, g2, rfl, g3⟩ := ownsL_out (p := p) (d := d) h2 (by simpa using e)
    exact ⟨u, b1 ++ ba, c1, bb, by simpa using g1, g2, by simp, v, vs', b1, ba ++ bb, rfl, h1, g3, by simp⟩
/-- An element of three cells, the last one a row: loaded, the row goes along. -/
theorem cust_take3 {t : TypeId} {x : Operand} {a0 a1 : Value} {E2 : TypeId} {s2 n2 : Nat} {el2 : Nat → Nat → Da} (ho : o.op = .load t x) (hs : size? P t = some 3) (hr : isRow P t = some true) (hk : k < n) (e0 : el k 0 = .val a0) (e1 : el k 1 = .val a1) (e2 : el k 2 = .row E2 s2 n2 el2) :
    Cust P (fun w => w = W) id o [.one (.elo q 3 k 0)] [.own (.row E 3 n el)] ⟨[], .agg [.val a0, .val a1, .own id], [(q, .abs (HoleD W.heap.size E 3 n el k 2)), (id, .own (.row E2 s2 n2 el2))]⟩ :=
  cust_val fun W0 obs ρ a w hold hm hv hos hun hn => by
    subst hold
    have hops : o.op.operands.toList = [x] := by rw [ho]; rfl
    rw [hops] at hv
    obtain ⟨v1, s1, ex, ⟨b, off, n', c, bs, hρ, _, k1⟩, k2⟩ := hv
    have hx : a.eval x = v1 := (List.cons.inj ex).1
    have hq : obs q = .own (.row E 3 n el) := by simpa [AvIds, ScIds] using hos
    obtain ⟨r, bs', hρ', hown⟩ := own_of hm hq
    rw [hρ] at hρ'
    cases hρ'
    have hown : Owns w W0.heap.size (.row E 3 n (flat n 3 el)) (.slice (some ⟨b, off, none⟩) n' c) bs := hown
    obtain ⟨vs, b2, hat, hl, hbs⟩ := owns_row hown
    have hn' : n' = n := by obtain ⟨A, c', e5⟩ := hat.nil_form; injection e5
    subst hn'
    have hlen : (flat n' 3 el).length = n' * 3 := by unfold flat; simp
    have cell : ∀ j d, j < 3 → el k j = d → (flat n' 3 el)[k * 3 + j]? = some d.dc := fun j d hj e => by
      unfold flat
      rw [List.getElem?_map, List.getElem?_range (by omega), Option.map_some, show (k * 3 + j) / 3 = k by omega, show (k * 3 + j) % 3 = j by omega, e]
    obtain ⟨u, ba, c1, bb, g1, g2, g3, g4⟩ := ownsL_out (p := k * 3 + 2) hl (cell 2 _ (by omega) e2)
    obtain ⟨_, gg⟩ := E4.ownsL_get hl
    obtain ⟨w0, _, f0, o0⟩ := gg _ _ (cell 0 _ (by omega) e0)
    obtain ⟨w1, _, f1, o1⟩ := gg _ _ (cell 1 _ (by omega) e1)
    obtain ⟨rfl, _⟩ := owns_val o0
    obtain ⟨rfl, _⟩ := owns_val o1
    have hone : u.oneCell' = true := by
      simp only [Da.dc] at g2
      exact owns_one g2
    have hnd := hm.nodup _ _ hρ
    have hbs : bs = b :: b2 := hbs
    have hnd : (b :: b2).Nodup := hbs ▸ hnd
    have n0 := (List.nodup_cons.1 hnd)
    have nb2 := n0.2
    rw [g3] at nb2
    obtain ⟨m1, m2, m3⟩ := List.nodup_append.1 nb2
    obtain ⟨m4, m5, m6⟩ := List.nodup_append.1 m2
    have hc : ∀ j v, [w0, w1, u][j]? = some v → w.cell? ⟨b, off + (k * 3 + 0) + j, none⟩ = some v := fun j v hj => by
      match j, hj with
      | 0, hj => cases hj; rw [show off + (k * 3 + 0) + 0 = off + (k * 3 + 0) by omega, hat.cellAt _ (by omega)]; exact f0
      | 1, hj => cases hj; rw [show off + (k * 3 + 0) + 1 = off + (k * 3 + 1) by omega, hat.cellAt _ (by omega)]; exact f1
      | 2, hj => cases hj; rw [show off + (k * 3 + 0) + 2 = off + (k * 3 + 2) by omega, hat.cellAt _ (by omega)]; exact g1
    obtain ⟨v, hrun, hav⟩ := load_run (P := P) (w := w) b (off + (k * 3 + 0)) t true [w0, w1, u] hc hs hr (fun h => by cases h)
    have hidn : ρ id = none := by have := hm.all id; rw [hun id (Nat.le_refl _) (by omega)] at this; exact this
    have hhole : HoleD W0.heap.size E 3 n' el k 2 (.slice (some ⟨b, off, none⟩) n' c) (b :: (ba ++ bb)) w := ⟨u, hone, by
      rw [put_dc (by omega)]
      simp only [Owns]
      exact ⟨vs, ba ++ bb, hat, g4, rfl⟩⟩
    have hin := hm.in_ hρ
    obtain ⟨hle, hmem⟩ := mem_part (ob1 := .abs (HoleD W0.heap.size E 3 n' el k 2)) (ob2 := .own (.row E2 s2 n2 el2)) (v := u) (b1 := b :: (ba ++ bb)) (cs := c1) hm hρ hidn (fun y hy => by
        rw [hbs, g3]
        rcases List.mem_cons.1 hy with rfl | hy
        · simp
        · rcases List.mem_append.1 hy with hy | hy <;> simp [hy]) (fun y hy => by rw [hbs, g3]; simp [hy]) (fun y hy hy2 => by
        rcases List.mem_cons.1 hy with rfl | hy
        · exact n0.1 (by rw [g3]; simp [hy2])
        · rcases List.mem_append.1 hy with hy | hy
          · exact m3 y hy y (List.mem_append_left _ hy2) rfl
          · exact m6 y hy2 y hy rfl)
      (List.nodup_cons.2 ⟨fun hy => n0.1 (by
        rw [g3]
        rcases List.mem_append.1 hy with hy | hy <;> simp [hy]), List.nodup_append.2 ⟨m1, m5, fun y hy z hz e => m3 y hy z (List.mem_append_right _ hz) e⟩⟩) m4
      ⟨_, _, by rw [upd_ne _ _ (fun e => by rw [e, hidn] at hρ; cases hρ), upd_same], hhole, fun y hy => hin y (by
        rw [hbs, g3]
        rcases List.mem_cons.1 hy with rfl | hy
        · simp
        · rcases List.mem_append.1 hy with hy | hy <;> simp [hy]), fun w1 w2 h k => HoleD.firm _ _ w1 w2 h k⟩
      ⟨_, _, upd_same _ _ _, g2⟩
    refine ⟨v, w, ?_, _, hle, hmem, hav _ W0 [.val w0, .val w1, .own id] ⟨w0, _, rfl, rfl, w1, _, rfl, rfl, u, [], rfl, ⟨hone, c1, upd_same _ _ _⟩, rfl⟩⟩
    unfold execOp
    rw [ho]
    simp only [hx, k1, Sem.run_bind, hrun, Result.andThen_ok]
    rfl
theorem putRow_putEl {i f : Nat} {d : Da} {ds : List Da} : putRow (putEl el i f d) i ds = putRow el i ds := by
  funext a b
  unfold putRow putEl
  cases h : Nat.beq a i with
  | true => rfl
  | false => rfl
theorem app_last {obs : Nat → Ob} {X Y : Ob} : ∀ (l : List (Nat × Ob)), app (upd obs q X) (l ++ [(q, Y)]) = app obs (l ++ [(q, Y)]) := fun l => by
  have step : ∀ (l : List (Nat × Ob)) (f g : Nat → Ob), (∀ x, x ≠ q → f x = g x) → app f (l ++ [(q, Y)]) = app g (l ++ [(q, Y)]) := by
    intro l
    induction l with
    | nil =>
      intro f g h
      show upd f q Y = upd g q Y
      funext x
      by_cases e : x = q
      · subst e; rw [upd_same, upd_same]
      · rw [upd_ne _ _ e, upd_ne _ _ e]; exact h x e
    | cons p l ih =>
      intro f g h
      obtain ⟨x0, y0⟩ := p
      refine ih (upd f x0 y0) (upd g x0 y0) fun x hx => ?_
      by_cases e : x = x0
      · subst e; rw [upd_same, upd_same]
      · rw [upd_ne _ _ e, upd_ne _ _ e]; exact h x hx
  exact step l _ _ fun x hx => upd_ne _ _ hx
/-- An element stored anew over the hole. -/
theorem cust_putH {t : TypeId} {x y : Operand} {f i : Nat} {cs : List Sc} {ds : List Da} {os : List Ob} (ho : o.op = .store t x y) (hk : size? P t = some k) (hcl : cs.length = k) (hk0 : 0 < k)
    (hcs : ∀ obs : Nat → Ob, (cs.flatMap ScIds).map obs = os → csRes obs cs ds) (hnd : (csOwn cs).Nodup) (hq : q ∉ csOwn cs) (hqi : q ∉ cs.flatMap ScIds) (hlen : os.length = (cs.flatMap ScIds).length) (hone : ∀ u, Da.val u ∈ ds → u.oneCell' = true) :
    Cust P (fun w => w = W) id o [.one (.elo q k i 0), .agg cs] (.abs (HoleD W.heap.size E k n el i f) :: os) ⟨[], .one (.val undef), goneO (csOwn cs) ++ [(q, .own (.row E k n (putRow el i ds)))]⟩ where
  goes W0 s ρ a w hold h hvs hos hun hn := by
    subst hold
    have hnm := named_one hos (by simp [List.flatMap_cons, AvIds, ScIds, hlen])
    have hnm2 := hnm
    simp only [List.flatMap_cons, List.flatMap_nil, AvIds, ScIds, List.append_nil, List.cons_append, List.nil_append, List.map_cons, List.cons.injEq] at hnm2
    obtain ⟨oq, hnm2⟩ := hnm2
    obtain ⟨r, bs, hρ, ⟨⟨u, hu, hown⟩⟩, _⟩ := abs_of h.mem oq
    have hs' : Sat W0 ⟨s.slots, upd s.obs q (.own (.row E k n (putEl el i f (.val u))))⟩ ρ a w := ⟨mem_as h.mem ⟨r, bs, hρ, hown⟩, h.size, h.slots, h.defers⟩
    have hc := (cust_put (P := P) (old := fun _ => True) (id := id) (q := q) (E := E) (n := n) (i := i) (el := putEl el i f (.val u)) ho hk hcl hk0 hcs hnd hq hlen hone).goes W0 _ ρ a w trivial hs' hvs (by
      have hnr : ∀ (obs : Nat → Ob) (ids : List Nat), near o.op obs ids = [] := fun obs ids => by rw [ho]; rfl
      unfold named
      rw [hnr, List.map_nil, List.append_nil]
      simp only [List.flatMap_cons, List.flatMap_nil, AvIds, ScIds, List.append_nil, List.cons_append, List.nil_append, List.map_cons, List.cons.injEq]
      refine ⟨upd_same _ _ _, ?_⟩
      rw [← hnm2]
      apply List.map_congr_left
      intro z hz
      exact upd_ne _ _ (fun e => hqi (e ▸ hz))) (fun z h5 h6 => by
      have := hun z h5 h6
      show upd s.obs q _ z = .un
      rw [upd_ne _ _ (fun e => by subst e; rw [oq] at this; cases this)]
      exact this) hn
    intro K Q hK
    refine hc K Q fun v w' hv => hK v w' ?_
    obtain ⟨ρ', e1, e2, e3⟩ := hv
    refine ⟨ρ', e1, ?_, e3⟩
    have e4 : app (upd s.obs q (.own (.row E k n (putEl el i f (.val u))))) (goneO (csOwn cs) ++ [(q, .own (.row E k n (putRow (putEl el i f (.val u)) i ds)))]) = app s.obs (goneO (csOwn cs) ++ [(q, .own (.row E k n (putRow el i ds)))]) := by
      rw [app_last, putRow_putEl]
    have e2 : Mem W0 (app (upd s.obs q (.own (.row E k n (putEl el i f (.val u))))) (goneO (csOwn cs) ++ [(q, .own (.row E k n (putRow (putEl el i f (.val u)) i ds)))])) ρ' w' := e2
    rw [e4] at e2
    exact e2
end
end Go.Proofs.YtllaacdikjffmaaGreat.E32
