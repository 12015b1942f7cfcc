import Derived.Test.YtllaacdikjffmaaGreatE26
/-
  A symbolic run: rows half taken over (the first elements one's own, the rest still what came in), rows with one element out.
-/
namespace Go.Proofs.YtllaacdikjffmaaGreat.E27
open Go.ChangeShapes Go.WideShapes Go.ChangeAt Go.RowKit
open S0 S1 S9 Dm E0 E1 E2 E3 E4 E5 E7 E8 E9 E9e E10 E15 E16 E17 E18 E19 E20 E26
set_option linter.unusedVariables false
set_option linter.unusedSimpArgs false
set_option maxRecDepth 100000
section
variable {P : Program} {W0 W : World} {s : St} {ρ : Roots} {a : Act} {w w' : World} {obs : Nat → Ob} {o : Oper} {old : World → Prop} {id q r : Nat}
/-- The first i elements are one's own, the others' cells are what came in. -/
structure Half (W : World) (E : TypeId) (k n i : Nat) (ds : List Dc) (v : Value) (bs : List Nat) (w : World) : Prop where
  is : ∃ vs b2, Ow.At w W.heap.size E k v n vs ∧ OwnsL w W.heap.size (ds.take (i * k)) (vs.take (i * k)) b2 ∧ ShsL W W.heap.size (ds.drop (i * k)) (vs.drop (i * k)) ∧ bs = v.ownBlock.toList ++ b2
variable {E : TypeId} {k n i f : Nat} {ds : List Dc} {d : Da}
theorem Half.firm (v : Value) (bs : List Nat) (w1 w2 : World) (hk : ∀ b, b ∈ bs → w2.heap[b]? = w1.heap[b]?) (h : Half W E k n i ds v bs w1) : Half W E k n i ds v bs w2 := by
  obtain ⟨vs, b2, h1, h2, h3, h4⟩ := h.is
  exact ⟨vs, b2, h1.keep (fun b hb => hk b (by rw [h4, hb]; simp)), ownsL_keep _ _ _ h2 (fun b hb => hk b (by rw [h4]; exact List.mem_append_right _ hb)), h3, h4⟩
theorem Half.inb {v : Value} {bs : List Nat} (h : Half W E k n i ds v bs w) : ∀ b, b ∈ bs → W.heap.size ≤ b ∧ b < w.heap.size := fun b hb => by
  obtain ⟨vs, b2, h1, h2, h3, h4⟩ := h.is
  rw [h4] at hb
  rcases List.mem_append.1 hb with hb | hb
  · exact h1.lt b (by simpa using hb)
  · exact ownsL_in _ _ _ h2 b hb
theorem Half.all {v : Value} {bs : List Nat} (hl : ds.length = n * k) (h : Half W E k n n ds v bs w) : Owns w W.heap.size (.row E k n ds) v bs := by
  obtain ⟨vs, b2, h1, h2, h3, h4⟩ := h.is
  rw [List.take_of_length_le (by omega), List.take_of_length_le (by rw [h1.1]; omega)] at h2
  simp only [Owns]
  exact ⟨vs, b2, h1, h2, h4⟩
theorem shsL_at : ∀ {ds : List Dc} {vs : List Value} {hi j : Nat} {d : Dc}, ShsL w hi ds vs → ds[j]? = some d → ∃ v, vs[j]? = some v ∧ Shs w hi d v
  | [], _, _, _, _, _, h => by simp at h
  | e :: ds, vs, hi, j, d, h, hj => by
    simp only [ShsL] at h
    obtain ⟨v, vs', rfl, h1, h2⟩ := h
    cases j with
    | zero => simp at hj; subst hj; exact ⟨v, rfl, h1⟩
    | succ j => obtain ⟨u, h3, h4⟩ := shsL_at h2 (by simpa using hj); exact ⟨u, by simpa using h3, h4⟩
theorem shsL_take : ∀ {ds : List Dc} {vs : List Value} {hi : Nat} (m : Nat), ShsL w hi ds vs → ShsL w hi (ds.take m) (vs.take m) ∧ ShsL w hi (ds.drop m) (vs.drop m)
  | [], _, _, m, h => by simp only [ShsL] at h; subst h; simp [ShsL]
  | e :: ds, vs, hi, m, h => by
    have h0 := h
    simp only [ShsL] at h
    obtain ⟨v, vs', rfl, h1, h2⟩ := h
    cases m with
    | zero => exact ⟨by simp [ShsL], h0⟩
    | succ m =>
      obtain ⟨k1, k2⟩ := shsL_take m h2
      exact ⟨by simp only [List.take_succ_cons, ShsL]; exact ⟨v, _, rfl, h1, k1⟩, k2⟩
/-- Plain cells are owned by nobody. -/
theorem vals_owned : ∀ {es : List Dc} {us : List Value} {hi lo : Nat}, (∀ e, e ∈ es → ∃ u, e = .val u) → ShsL W hi es us → OwnsL w lo es us []
  | [], us, _, _, _, h => by simp only [ShsL] at h; subst h; simp [OwnsL]
  | e :: es, us, hi, lo, hv, h => by
    simp only [ShsL] at h
    obtain ⟨v, vs', rfl, h1, h2⟩ := h
    obtain ⟨u, rfl⟩ := hv e (by simp)
    simp only [Shs] at h1
    simp only [OwnsL, Owns]
    exact ⟨v, vs', [], [], rfl, ⟨h1, rfl⟩, vals_owned (fun e he => hv e (by simp [he])) h2, rfl⟩
theorem el_owned : ∀ {es : List Dc} {us : List Value} {hi lo f : Nat} {d : Dc} {x : Value} {bx : List Nat}, ShsL W hi es us → es[f]? = some d → (∀ j, j ≠ f → ∀ e, es[j]? = some e → ∃ u, e = .val u) → Owns w lo d x bx → OwnsL w lo es (us.set f x) bx
  | [], _, _, _, _, _, _, _, _, h, _, _ => by simp at h
  | e :: es, us, hi, lo, f, d, x, bx, h, hf, hv, hx => by
    simp only [ShsL] at h
    obtain ⟨v, vs', rfl, h1, h2⟩ := h
    cases f with
    | zero =>
      simp at hf
      subst hf
      simp only [List.set_cons_zero, OwnsL]
      exact ⟨x, vs', bx, [], rfl, hx, vals_owned (fun e' he => by
        obtain ⟨j, hj, rfl⟩ := List.getElem_of_mem he
        exact hv (j + 1) (by omega) _ (by simp [List.getElem?_eq_getElem hj])) h2, by simp⟩
    | succ f =>
      obtain ⟨u, rfl⟩ := hv 0 (by omega) e rfl
      simp only [Shs] at h1
      simp only [List.set_cons_succ, OwnsL, Owns]
      exact ⟨v, _, [], bx, rfl, ⟨h1, rfl⟩, el_owned h2 (by simpa using hf) (fun j hj e he => hv (j + 1) (by omega) e (by simpa using he)) hx, rfl⟩
theorem cust_lenH {E' t : TypeId} {c : Call} {x : Operand} (ho : o.op = .call c) (hc : c.callee = .builtin .len) (ha : c.args = #[x]) (ht : c.argTypes[0]? = some t) (hu : P.underlying t = some (.slice E')) :
    Cust P old id o [.one (.own q)] [.abs (Half W E k n i ds)] ⟨[], .one (.val (.int .i64 n)), []⟩ where
  goes W0 s ρ a w hold h hvs hos hun hn := by
    have hnm := named_one hos rfl
    simp only [List.flatMap_cons, List.flatMap_nil, AvIds, ScIds, List.append_nil, List.map_cons, List.map_nil, List.cons.injEq, and_true] at hnm
    have hops : o.op.operands.toList = [x] := by rw [ho]; simp [Op.operands, Call.operands, hc, ha]
    rw [hops] at hvs
    simp only [List.map_cons, List.map_nil, List.cons.injEq, and_true] at hvs
    have hv := ev_ok h x
    rw [hvs] at hv
    obtain ⟨_, bs, hρ⟩ := hv
    obtain ⟨r', bs', hρ', hφ, _⟩ := abs_of h.mem hnm
    rw [hρ] at hρ'
    cases hρ'
    obtain ⟨vs, b2, hat, _⟩ := hφ.is
    obtain ⟨A, c', e5⟩ := hat.nil_form
    refine goes_value (v := .int .i64 n) (w' := w) ?_ (left_same h rfl rfl)
    unfold execOp
    rw [ho]
    simp only [resolve, hc, ha, Sem.run_bind, Sem.run_pure, Result.andThen_ok, invoke, builtin, Builtin.len_, ht]
    simp [run_underlying hu w, e5, goInt]
theorem cust_indexH {E' t : TypeId} {x y : Operand} {j : Int} (ho : o.op = .indexAddr t x y) (hu : P.underlying t = some (.slice E')) (hk : size? P E' = some k) :
    Cust P old id o [.one (.own q), .one (.val (.int .i64 j))] [.abs (Half W E k n i ds)] ⟨[0 ≤ j ∧ j < (n : Int)], .one (.elo q k j.toNat 0), []⟩ where
  goes W0 s ρ a w hold h hvs hos hun hn := by
    have hnm := named_one hos rfl
    simp only [List.flatMap_cons, List.flatMap_nil, AvIds, ScIds, List.append_nil, List.map_cons, List.map_nil, List.cons.injEq, and_true] at hnm
    rw [ho] at hvs
    simp only [Op.operands, List.map_cons, List.map_nil, List.cons.injEq, and_true] at hvs
    have hv := ev_ok h x
    rw [hvs.1] at hv
    have hy : a.eval y = .int .i64 j := by have := ev_ok h y; rw [hvs.2] at this; exact this
    obtain ⟨_, bs, hρ⟩ := hv
    obtain ⟨r', bs', hρ', hφ, _⟩ := abs_of h.mem hnm
    rw [hρ] at hρ'
    cases hρ'
    obtain ⟨vs, b2, hat, _⟩ := hφ.is
    obtain ⟨h0, h1⟩ : 0 ≤ j ∧ j < (n : Int) := hn
    obtain ⟨g, off, cap, hf, _, _⟩ := hat.form (by omega)
    have hinf : ∃ inf, P.info? E' = some inf ∧ inf.size = k := by
      unfold size? at hk
      cases hinf : P.info? E' with
      | none => rw [hinf] at hk; cases hk
      | some inf => rw [hinf] at hk; exact ⟨inf, rfl, by simpa using hk⟩
    obtain ⟨inf, hinf, hsz0⟩ := hinf
    have hsz : P.cellsOf E' = k := by unfold Program.cellsOf; rw [hinf]; exact hsz0
    refine goes_value (v := .pointer (some ⟨g, off + (j.toNat * k + 0), none⟩)) (w' := w) ?_ (left_same h rfl ⟨g, off, n, cap, bs, by rw [hρ, hf], by omega, rfl⟩)
    unfold execOp
    rw [ho]
    simp only [hf, hy, Instr.indexAt, asIntOf, Sem.run_bind, Sem.run_pure, run_underlying hu w, Result.andThen_ok]
    rw [if_pos ⟨h0, h1⟩]
    simp only [Sem.run_bind, run_sizeOf (P := P) (w := w) hinf, hsz, Result.andThen_ok, Sem.run_pure, add_off, Nat.add_zero]
/-- A cell of the first element that still is what came in. -/
theorem cust_loadH {t : TypeId} {x : Operand} (ho : o.op = .load t x) (hs : size? P t = some 1) (hr : isRow P t = some false) (hf : f < k) (hd : ds[i * k + f]? = some d.dc) (hW : ∀ w, old w → w = W) :
    Cust P old id o [.one (.elo q k i f)] [.abs (Half W E k n i ds)] ⟨[], .one (.old d), []⟩ where
  goes W0 s ρ a w hold h hvs hos hun hn := by
    obtain rfl := hW _ hold
    have hnm := named_one hos rfl
    simp only [List.flatMap_cons, List.flatMap_nil, AvIds, ScIds, List.append_nil, List.map_cons, List.map_nil, List.cons.injEq, and_true] at hnm
    rw [ho] at hvs
    simp only [Op.operands, List.map_cons, List.map_nil, List.cons.injEq, and_true] at hvs
    have hv := ev_ok h x
    rw [hvs] at hv
    obtain ⟨b, off, n', c, bs, hρ, hi, hx⟩ := hv
    obtain ⟨r', bs', hρ', hφ, _⟩ := abs_of h.mem hnm
    rw [hρ] at hρ'
    cases hρ'
    obtain ⟨vs, b2, hat, _, hsh, _⟩ := hφ.is
    have hnn : n' = n := by obtain ⟨A, c', e5⟩ := hat.nil_form; injection e5
    subst hnn
    obtain ⟨u, hu1, hu2⟩ := shsL_at (j := f) hsh (by rw [List.getElem?_drop]; exact hd)
    rw [List.getElem?_drop] at hu1
    have hik : i * k + f < n' * k := by have := Nat.mul_le_mul_right k (show i + 1 ≤ n' from hi); rw [Nat.add_mul, Nat.one_mul] at this; omega
    exact loadR h ho hx (us := [u]) (cs := [.old d]) (r := false) (fun j v hj => by
      match j, hj with
      | 0, hj =>
        cases hj
        rw [Nat.add_zero, hat.cellAt (i * k + f) hik]; exact hu1
      | j + 1, hj => simp at hj) hs hr (fun _ => rfl) ⟨u, [], rfl, hu2, rfl⟩
/-- .. which becomes one's own. -/
theorem cust_storeH {t E2 : TypeId} {x y : Operand} {k2 m : Nat} {el : Nat → Nat → Da} (ho : o.op = .store t x y) (hs : size? P t = some 1) (hf : f < k) (hl : ds.length = n * k) (hd : ds[i * k + f]? = some (Da.row E2 k2 m el).dc) (hv : ∀ j, j < k → j ≠ f → ∃ u, ds[i * k + j]? = some (.val u)) (hW : ∀ w, old w → w = W) (hqr : q ≠ r) :
    Cust P old id o [.one (.elo q k i f), .one (.own r)] [.abs (Half W E k n i ds), .own (.row E2 k2 m el)] ⟨[], .one (.val undef), [(r, .gone), (q, .abs (Half W E k n (i + 1) ds))]⟩ where
  goes W0 s ρ a w hold h hvs hos hun hn := by
    obtain rfl := hW _ hold
    have hnm := named_one hos rfl
    simp only [List.flatMap_cons, List.flatMap_nil, AvIds, ScIds, List.append_nil, List.cons_append, List.nil_append, List.map_cons, List.map_nil, List.cons.injEq, and_true] at hnm
    obtain ⟨oq, or_⟩ := hnm
    rw [ho] at hvs
    simp only [Op.operands, List.map_cons, List.map_nil, List.cons.injEq, and_true] at hvs
    have hx := ev_ok h x
    have hy := ev_ok h y
    rw [hvs.1] at hx
    rw [hvs.2] at hy
    obtain ⟨b, off, n', c, bs, hρ, hi, hxe⟩ := hx
    obtain ⟨hone, br, hρr⟩ := hy
    obtain ⟨r', bs', hρ', hφ, hnd⟩ := abs_of h.mem oq
    rw [hρ] at hρ'
    cases hρ'
    obtain ⟨rr, br', hρr', hown⟩ := own_of h.mem or_
    rw [hρr] at hρr'
    cases hρr'
    obtain ⟨vs, b2, hat, hol, hsh, hbs⟩ := hφ.is
    have hnn : n' = n := by obtain ⟨A, c', e5⟩ := hat.nil_form; injection e5
    subst hnn
    have hik : i * k + k ≤ n' * k := by have := Nat.mul_le_mul_right k (show i + 1 ≤ n' from hi); rw [Nat.add_mul, Nat.one_mul] at this; exact this
    have hvl : vs.length = n' * k := hat.1
    obtain ⟨hat2, hgr⟩ := hat.stored (i * k + f) (a.eval y)
    have hgb : b ∈ bs := by rw [hbs]; simp [Value.ownBlock]
    have hturn : Turned w (w.setCell ⟨b, off + (i * k + f), none⟩ (a.eval y)) [b] := turned_grown hgr
    have hnd2 := hnd
    rw [hbs] at hnd2
    simp only [Value.ownBlock, Option.toList_some, List.singleton_append, List.nodup_cons] at hnd2
    have hap : ∀ z, z ∈ bs → z ∉ br := fun z hz hz2 => h.mem.apart q r _ _ hqr hρ hρr z hz hz2
    have hb2s : ∀ z, z ∈ b2 → z ∈ bs := fun z hz => by rw [hbs]; exact List.mem_append_right _ hz
    have hol2 := ownsL_turned hol hturn (fun z hz hb => by obtain rfl := List.mem_singleton.1 hb; exact hnd2.1 hz)
    have hown2 := owns_turned hown hturn (fun z hz hb => by obtain rfl := List.mem_singleton.1 hb; exact hap z hgb hz)
    obtain ⟨hs1, hs2⟩ := shsL_take k hsh
    have hel := el_owned (f := f) hs1 (by rw [List.getElem?_take_of_lt hf, List.getElem?_drop]; exact hd) (fun j hj e he => by
      have hjk : j < k := by
        have := (List.getElem?_eq_some_iff.1 he).1
        rw [List.length_take] at this
        omega
      rw [List.getElem?_take_of_lt hjk, List.getElem?_drop] at he
      obtain ⟨u, hu⟩ := hv j hjk hj
      rw [hu] at he
      exact ⟨u, by simpa using he.symm⟩) hown2
    have hall := E9.ownsL_app hol2 hel
    have e1 : ds.take ((i + 1) * k) = ds.take (i * k) ++ (ds.drop (i * k)).take k := by rw [Nat.add_mul, Nat.one_mul, List.take_add]
    have e2 : (vs.set (i * k + f) (a.eval y)).take ((i + 1) * k) = vs.take (i * k) ++ ((vs.drop (i * k)).take k).set f (a.eval y) := by
      rw [Nat.add_mul, Nat.one_mul, List.take_set, List.take_add, List.set_append_right _ _ (by rw [List.length_take]; omega)]
      congr 1
      rw [List.length_take, show min (i * k) vs.length = i * k by omega, Nat.add_sub_cancel_left]
    have e3 : (vs.set (i * k + f) (a.eval y)).drop ((i + 1) * k) = (vs.drop (i * k)).drop k := by
      rw [List.drop_drop, Nat.add_mul, Nat.one_mul, List.drop_set_of_lt (by omega)]
    have hhalf : Half W0 E k n' (i + 1) ds (.slice (some ⟨b, off, none⟩) n' c) (b :: (b2 ++ br)) (w.setCell ⟨b, off + (i * k + f), none⟩ (a.eval y)) := by
      refine ⟨_, b2 ++ br, hat2, ?_, ?_, by simp [Value.ownBlock]⟩
      · rw [e1, e2]; exact hall
      · rw [e3, Nat.add_mul, Nat.one_mul, ← List.drop_drop]; exact hs2
    have hin := hhalf.inb
    obtain ⟨ρ', k1, k2, k3⟩ := take_over (w' := w.setCell ⟨b, off + (i * k + f), none⟩ (a.eval y)) (id := q) h.mem (ids := [r]) (fun z hz => by obtain rfl := List.mem_singleton.1 hz; exact ⟨_, hρr⟩) (by simpa using hqr) (v := .slice (some ⟨b, off, none⟩) n' c) (bs' := b :: (b2 ++ br)) (fun p hp => by rw [hρ] at hp; cases hp; rfl) (turned_more hturn (fun z hz => by obtain rfl := List.mem_singleton.1 hz; exact mem_bsOf (by simp) hρ hgb)) (fun z hz => .inl (by
        rcases List.mem_cons.1 hz with rfl | hz
        · exact mem_bsOf (by simp) hρ hgb
        · rcases List.mem_append.1 hz with hz | hz
          · exact mem_bsOf (by simp) hρ (hb2s z hz)
          · exact mem_bsOf (q := r) (by simp) hρr hz))
      (List.nodup_cons.2 ⟨fun hz => by
        rcases List.mem_append.1 hz with hz | hz
        · exact hnd2.1 hz
        · exact hap b hgb hz, List.nodup_append.2 ⟨hnd2.2, h.mem.nodup _ _ hρr, fun x hx y hy e => by subst e; exact hap x (hb2s x hx) hy⟩⟩)
      (ob := .abs (Half W0 E k n' (i + 1) ds)) (ob_abs hhalf (fun z hz => hin z hz) (Half.firm _ _))
    have hik2 : i * k + f < n' * k := by omega
    refine goes_skip (w' := w.setCell ⟨b, off + (i * k + f), none⟩ (a.eval y)) ?_ ⟨ρ', k1, k2, rfl⟩
    have hinf : ∃ inf, P.info? t = some inf ∧ inf.size = 1 := by
      unfold size? at hs
      cases hinf : P.info? t with
      | none => rw [hinf] at hs; cases hs
      | some inf => rw [hinf] at hs; exact ⟨inf, rfl, by simpa using hs⟩
    obtain ⟨inf, hinf, hsz⟩ := hinf
    have hpc : P.cellsOf t = 1 := by unfold Program.cellsOf; rw [hinf]; exact hsz
    have hcs : (a.eval y).cells.toList = [a.eval y] := by
      have ho3 := hown
      simp only [Da.dc, Owns] at ho3
      obtain ⟨_, _, ho2, _⟩ := ho3
      obtain ⟨A, c2, e⟩ := ho2.nil_form
      rw [e]; rfl
    have hone' : ∀ v, v ∈ (a.eval y).cells.toList → v.oneCell' = true := fun v hv => by
      rw [hcs] at hv
      obtain rfl := List.mem_singleton.1 hv
      exact owns_one hown
    have hcell : w.cell? ⟨b, off + (i * k + f), none⟩ = vs[i * k + f]? := hat.cellAt _ hik2
    have hst := run_storeCells_cells (P := P) b (off + (i * k + f)) (a.eval y).cells.toList 0 w (fun j hj => by
      rw [hcs] at hj
      obtain rfl : j = 0 := by simpa using hj
      simp only [Nat.add_zero]; rw [hcell, List.getElem?_eq_getElem (by omega)]; rfl) (fun j hj => hat.frozenAt _) hone'
    rw [Nat.add_zero] at hst
    have hne : ¬ ((a.eval y).cells.size ≠ 1) := by rw [← Array.length_toList, hcs]; simp
    have hrun : (Instr.storeAt t (.pointer (some ⟨b, off + (i * k + f), none⟩)) (a.eval y)).run P w = .ok () (w.setCell ⟨b, off + (i * k + f), none⟩ (a.eval y)) := by
      simp only [Instr.storeAt, Instr.sureAddr, Sem.run_bind, Sem.run_pure, Result.andThen_ok, storeVar, run_sizeOf (P := P) (w := w) hinf]
      rw [hpc, if_neg hne]
      have hst2 : (storeCells ⟨b, off + (i * k + f), none⟩ (a.eval y).cells.toList).run P w = .ok () (w.setCell ⟨b, off + (i * k + f), none⟩ (a.eval y)) := by
        rw [hst, hcs]; rfl
      simpa using hst2
    unfold execOp
    rw [ho]
    simp only [hxe, Sem.run_bind, hrun, Result.andThen_ok]
    rfl
/-- The results, where object q, told by φ, stands for the datum d. -/
def retH (P : Program) (results : List ResultVar) (rs : List Grp) (q : Nat) (φ : Value → List Nat → World → Prop) (d : Da) : Exit → St → Prop
  | .ret, s => (match s.obs q with | .abs ψ => ψ = φ | _ => False) ∧ (match resCells P s results with | some gs => (match nodupB (grpOwn gs) with | true => grpsRes (upd s.obs q (.own d)) gs rs | false => False) | none => False)
  | .normal, s => (match s.obs q with | .abs ψ => ψ = φ | _ => False) ∧ (match resCells P s results with | some gs => (match nodupB (grpOwn gs) with | true => grpsRes (upd s.obs q (.own d)) gs rs | false => False) | none => False)
  | _, _ => False
theorem mem_told {φ : Value → List Nat → World → Prop} (h : Mem W0 obs ρ w) (hq : obs q = .abs φ) (hφ : ∀ v bs, φ v bs w → Owns w W0.heap.size d.dc v bs) : Mem W0 (upd obs q (.own d)) ρ w where
  below := h.below
  all x := by
    by_cases e : x = q
    · subst e
      rw [upd_same]
      have := h.all x
      rw [hq] at this
      obtain ⟨v, bs, h1, h2, _⟩ := this
      exact ⟨v, bs, h1, hφ v bs h2⟩
    · rw [upd_ne _ _ e]; exact h.all x
  apart := h.apart
  nodup := h.nodup
theorem retH_ok {results : List ResultVar} {g : List Grp} {e : Exit} {φ : Value → List Nat → World → Prop} (hφ : ∀ v bs w, φ v bs w → Owns w W0.heap.size d.dc v bs) (hk : retH P results g q φ d e s) (hs : Sat W0 s ρ a w') : (e = .ret ∨ e = .normal) ∧ ∃ gs, resCells P s results = some gs ∧ ∀ us, TsOK ρ W0 gs us → ∃ bs, ResOK w' W0.heap.size g us bs ∧ bs.Nodup ∧ Below W0.heap.size W0 w' := by
  have fin : ((match s.obs q with | .abs ψ => ψ = φ | _ => False) ∧ (match resCells P s results with | some gs => (match nodupB (grpOwn gs) with | true => grpsRes (upd s.obs q (.own d)) gs g | false => False) | none => False)) →
      ∃ gs, resCells P s results = some gs ∧ ∀ us, TsOK ρ W0 gs us → ∃ bs, ResOK w' W0.heap.size g us bs ∧ bs.Nodup ∧ Below W0.heap.size W0 w' := fun ⟨h1, hk⟩ => by
    have hq : s.obs q = .abs φ := by
      split at h1
      · next ψ e => rw [e, h1]
      · cases h1
    have hm := mem_told hs.mem hq (fun v bs => hφ v bs w')
    split at hk
    · next gs hg =>
      split at hk
      · next hnd => exact ⟨gs, hg, fun us h2 => ⟨_, grps_res hm hk h2, bsOf_nodup hs.mem (nodupB_ok hnd), hs.mem.below⟩⟩
      · cases hk
    · cases hk
  cases e with
  | ret => exact ⟨.inl rfl, fin hk⟩
  | normal => exact ⟨.inr rfl, fin hk⟩
  | _ => cases hk
theorem con_goH {f : FuncId} {fn : Func} {ags rs : List Grp} (C : World → Orc) (L : World → Loops) (hf : P.funcs[f]? = some fn) (hb : fn.body = some (fn.body.getD .skip)) (hname : (fn.name == "runtime.NumGoroutine") = false) (hm : P.follows .mixedOrders = true) (hC : ∀ w, (C w).old w) {φ : World → Value → List Nat → World → Prop} (hφ : ∀ W v bs w, φ W v bs w → Owns w W.heap.size d.dc v bs)
    (h : ∀ W, awp P (C W) (L W) (fn.body.getD .skip) ⟨ags.map argAV ++ List.replicate (fn.ntmps - (ags.map argAV).length) (.one (.val undef)), fun _ => .un⟩ (retH P fn.results.toList rs q (φ W) d)) : FnCon P f ags rs where
  enters := con_enters hf hb hname
  calls w vs hv := (go_ok (C w) (L w) hf hb hm (h w) (hC w) (by rw [arg_len hv, List.length_map]) (fun i av hi => start_ok i av hv hi) (R := fun us w' => ∃ bs, ResOK w' w.heap.size rs us bs ∧ bs.Nodup ∧ Below w.heap.size w w') fun e s' ρ' a' w' hk hs' => retH_ok (hφ w) hk hs').mono fun e w' ⟨us, h1, bs, h2⟩ => ⟨us, bs, h1, h2⟩
/-- A row that came in, copied by its cells. -/
theorem shsL_vals2 {hi : Nat} : ∀ vs : List Value, ShsL w hi (vs.map Dc.val) vs
  | [] => by simp [ShsL]
  | v :: vs => by simp only [List.map_cons, ShsL, Shs]; exact ⟨v, vs, rfl, rfl, shsL_vals2 vs⟩
theorem vals_none {lo : Nat} : ∀ {us vs : List Value} {bs : List Nat}, OwnsL w lo (us.map Dc.val) vs bs → vs = us ∧ bs = []
  | [], vs, bs, h => by simp only [List.map_nil, OwnsL] at h; exact h
  | u :: us, vs, bs, h => by
    simp only [List.map_cons, OwnsL, Owns] at h
    obtain ⟨v, vs', b1, b2, rfl, ⟨rfl, rfl⟩, h2, rfl⟩ := h
    obtain ⟨rfl, rfl⟩ := vals_none h2
    exact ⟨rfl, rfl⟩
theorem cust_copyH {c : Call} {g : FuncId} {y : AV} {dd : Da} (ho : o.op = .call c) (hc : c.callee = .value (.func g)) (hy : AvIds y = []) (hW : ∀ w, old w → w = W) (hdd : dd.dc = .row E k n ds) (hen : ∀ args w, (callFunc g args).run P w = .ok (.enter g args) w)
    (con : ∀ vs : List Value, vs.length = n * k → (∃ hi, ShsL W hi ds vs) → FnCon P g [(false, [.row E k n (valsEl k vs)])] [(false, [.row E k n (valsEl k vs)])]) :
    Cust P old id o [y, .one (.old dd)] [] ⟨[], .one (.own id), [(id, .abs (Half W E k n 0 ds))]⟩ :=
  cust_call (hlen := by rw [List.flatMap_cons, hy]; rfl) ho hc hen fun W0 obs ρ w args hold hm hv hos hun hn => by
    obtain rfl := hW _ hold
    obtain ⟨v1, s1, rfl, k1, k3⟩ := hv
    obtain rfl : s1 = [] := k3
    have k1 : Shs W0 W0.heap.size dd.dc v1 := k1
    rw [hdd] at k1
    simp only [Shs] at k1
    obtain ⟨A, c', vs, rfl, hr, hsl, hsh⟩ := k1
    have hargs : ArgOK w [(false, [Da.row E k n (valsEl k vs)])] [.slice A n c'] := arg_row (vals_dc hr.1) (by
      simp only [Shs]
      exact ⟨A, c', vs, rfl, hr.on hm.below, shsL_vals2 vs, hsh⟩) arg_nil
    refine ((con vs hr.1 ⟨_, hsl⟩).calls w [.slice A n c'] hargs).mono ?_
    rintro e' w' ⟨us, bs, rfl, hres, hnd, hb⟩
    obtain ⟨v, vs', xs, b1, b2, rfl, hv2, h1, ⟨rfl, rfl⟩, rfl⟩ := hres
    rw [if_neg (by simp)] at hv2
    subst hv2
    simp only [List.map_cons, List.map_nil, OwnsL] at h1
    obtain ⟨x, ys, c1, c2, e2, h8, ⟨rfl, rfl⟩, e3⟩ := h1
    cases e2
    rw [List.append_nil] at e3
    subst e3
    rw [List.append_nil] at hnd
    rw [vals_dc hr.1] at h8
    have h9 := owns_in _ _ _ h8
    have hone := owns_one h8
    simp only [Owns] at h8
    obtain ⟨vs2, d2, hat, hol, hbs⟩ := h8
    obtain ⟨rfl, rfl⟩ := vals_none hol
    refine ⟨v, rfl, post_new hm (hun id (Nat.le_refl _) (by omega)) hb hone (fun b hb2 => (h9 b hb2).1) hnd (ob_abs ⟨vs2, [], hat.down hm.below.size, by simp [OwnsL], by simpa using hsl, by rw [hbs]⟩ (fun b hb2 => ⟨Nat.le_trans hm.below.size (h9 b hb2).1, (h9 b hb2).2⟩) (Half.firm _ _))⟩
end
end Go.Proofs.YtllaacdikjffmaaGreat.E27
