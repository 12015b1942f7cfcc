/-
  A symbolic run: methods found by the type of what an interface value holds; method expressions as function values; functions that capture two variables.
-/
import Derived.Test.YtoedfeacpllkeaaE28
namespace Go.Proofs.Ytoedfeacpllkeaa.E29
open Go.ChangeShapes Go.WideShapes Go.ChangeAt Go.RowKit
open S0 S1 S9 Dm E0 E1 E2 E3 E4 E5 E7 E8 E9 E9e E10 E15 E16 E17 E18 E19 E20 E26 E28
set_option linter.unusedVariables false
set_option linter.unusedSimpArgs false
set_option maxRecDepth 100000
section
variable {P : Program} {W0 : World} {s : St} {ρ : Roots} {a : Act} {w w' : World} {obs : Nat → Ob} {o : Oper} {old : World → Prop} {id q r : Nat}
/-- The method of a struct that is held by value. -/
abbrev MethOf (P : Program) (T : TypeId) (name : String) (f : FuncId) : Prop := ∀ u : Value, qz P (method (P.types.size + Made.depth) T u name) = some (f, u)
/-- A call by a contract, whatever the operands: what is left behind the entry. -/
theorem enter_con {f : FuncId} {ags rs : List Grp} {gs : List (Bool × List Sc)} {m : List (Nat × Ob)} {k : Nat} {l : List Prop} {args : List Value} (h : Mem W0 obs ρ w) (con : FnCon P f ags rs) (hargs : ArgOK w ags args) (hg : grpNew id rs = (gs, m, k)) (hk : k ≤ id + 8) (hun : ∀ k, id ≤ k → k < id + 8 → obs k = .un) :
    Calls P f args.toArray w fun en w' => ∃ v, en = .returned v ∧ EffPost W0 obs ρ ⟨l, resAV gs, m⟩ v w' := by
  refine (con.calls w _ hargs).mono ?_
  rintro e' w' ⟨us, bs, rfl, hres, hnd, hb⟩
  refine ⟨_, rfl, ?_⟩
  have hin : ∀ {rs : List Grp} {us : List Value} {bs : List Nat}, ResOK w' w.heap.size rs us bs → ∀ b, b ∈ bs → w.heap.size ≤ b := by
    intro rs
    induction rs with
    | nil => intro us bs hr b hb; obtain ⟨_, rfl⟩ := hr; cases hb
    | cons p rs ih =>
      intro us bs hr b hb
      obtain ⟨v, vs', xs, b1, b2, _, _, h1, h2, rfl⟩ := hr
      rcases List.mem_append.1 hb with hb | hb
      · exact (ownsL_in _ _ _ h1 b hb).1
      · exact ih h2 b hb
  have hm := h.on hb
  obtain ⟨ρ', h1, h2, h3⟩ := new_grps (w := w') (lo := w.heap.size) h.below.size rs id obs ρ us bs hm hres hnd (fun q p hp b hb1 hb2 => by
    have h5 := (h.in_ hp b hb1).2
    have h6 := hin hres b hb2
    omega) (fun k' h5 h6 => hun k' h5 (by rw [hg] at h6; simp at h6; omega))
  rw [hg] at h2 h3
  exact ⟨ρ', h1, h2, ret_ok h3⟩
/-- A method called by what an interface value holds. -/
theorem cust_invoke {vs vs' : List AV} {os : List Ob} {c : Call} {x : Operand} {name : String} {T : TypeId} {u : Value} {f : FuncId} {ags rs : List Grp} {gs : List (Bool × List Sc)} {m : List (Nat × Ob)} {k : Nat} {l : List Prop} (ho : o.op = .call c) (hc : c.callee = .invoke x name) (hvs : vs = .one (.val (.iface T u)) :: vs') (hm : MethOf P T name f) (con : FnCon P f ags rs)
    (hav : ∀ obs : Nat → Ob, named o.op obs vs = os → avsDa obs (ofV u :: vs') = some ags) (hg : grpNew id rs = (gs, m, k)) (hk : k ≤ id + 8) : Cust P old id o vs os ⟨l, resAV gs, m⟩ where
  goes W0 s ρ a w hold h hvs2 hos hun hn := by
    have hops : o.op.operands.toList = x :: c.args.toList := by rw [ho]; simp [Op.operands, Call.operands, hc]
    rw [hops, List.map_cons, hvs] at hvs2
    injection hvs2 with h1 htail
    have hx : a.eval x = .iface T u := by
      have := ev_ok h x
      rw [h1] at this
      exact this
    have hmeth := qz_run P w (hm u)
    have hrun : (execOp a.eval o).run P w = .ok (.enter f (#[u] ++ c.args.map a.eval)) w := by
      unfold execOp
      rw [ho]
      have hsz : ∀ z : Value, (#[z] ++ c.args.map a.eval).extract 1 (#[z] ++ c.args.map a.eval).size = c.args.map a.eval := fun z => by apply Array.ext'; simp [List.take_of_length_le]
      have h0 : ∀ z : Value, (#[z] ++ c.args.map a.eval)[0]? = some z := fun z => by rw [← Array.getElem?_toList, Array.toList_append]; rfl
      have hp : (program).run P w = .ok P w := rfl
      simp only [resolve, hc, Sem.run_bind, Sem.run_pure, Result.andThen_ok, invoke, h0, hsz, hx, callMethod, hp, hmeth]
      exact con.enters _ _
    have has := hav s.obs hos
    have e1 : ofV u :: vs' = ((Operand.const u) :: c.args.toList).map (St.ev s) := by rw [List.map_cons, htail]; rfl
    rw [e1] at has
    have hargs := args_ok h has
    have hA : ((((Operand.const u) :: c.args.toList).map a.eval).toArray : Array Value) = #[u] ++ c.args.map a.eval := by apply Array.ext'; simp [Act.eval]
    have hfin := enter_con (id := id) (l := l) h.mem con hargs hg hk hun
    rw [hA] at hfin
    exact goes_enter hrun hfin
/-- A method expression called. -/
theorem cust_methexp {vs vs' : List AV} {os : List Ob} {c : Call} {x : Operand} {y : Operand} {ys : List Operand} {name : String} {T : TypeId} {fs : Array Field} {f : FuncId} {ags rs : List Grp} {gs : List (Bool × List Sc)} {m : List (Nat × Ob)} {k : Nat} {l : List Prop} (ho : o.op = .call c) (hc : c.callee = .value x) (hya : c.args.toList = y :: ys) (hvs : vs = .one (.val (.func (.methodOf T name) #[] #[])) :: vs') (hT : P.underlying T = some (.struct fs)) (hm : MethOf P T name f) (con : FnCon P f ags rs)
    (hav : ∀ obs : Nat → Ob, named o.op obs vs = os → avsDa obs vs' = some ags) (hg : grpNew id rs = (gs, m, k)) (hk : k ≤ id + 8) : Cust P old id o vs os ⟨l, resAV gs, m⟩ where
  goes W0 s ρ a w hold h hvs2 hos hun hn := by
    have hops : o.op.operands.toList = x :: c.args.toList := by rw [ho]; simp [Op.operands, Call.operands, hc]
    rw [hops, List.map_cons, hvs] at hvs2
    injection hvs2 with h1 htail
    have hx : a.eval x = .func (.methodOf T name) #[] #[] := by
      have := ev_ok h x
      rw [h1] at this
      exact this
    have hargsA : c.args = (y :: ys).toArray := by apply Array.ext'; simpa using hya
    have hmeth := qz_run P w (hm (a.eval y))
    have hund : (underlying T).run P w = .ok (.struct fs) w := by simp [underlying, hT]
    have hrun : (execOp a.eval o).run P w = .ok (.enter f (c.args.map a.eval)) w := by
      unfold execOp
      rw [ho]
      have h0 : (c.args.map a.eval)[0]? = some (a.eval y) := by rw [hargsA]; simp
      have hsz : #[a.eval y] ++ (c.args.map a.eval).extract 1 (c.args.map a.eval).size = c.args.map a.eval := by rw [hargsA]; apply Array.ext'; simp [List.take_of_length_le]
      have hp : (program).run P w = .ok P w := rfl
      simp only [resolve, hc, hx, Deferred.ofValue, Sem.run_bind, Sem.run_pure, Result.andThen_ok, invoke, Array.empty_append, h0, hund, callMethod, hp, hmeth, hsz]
      exact con.enters _ _
    have has := hav s.obs hos
    rw [← htail] at has
    have hargs := args_ok h has
    have hA : ((c.args.toList.map a.eval).toArray : Array Value) = c.args.map a.eval := by apply Array.ext'; simp
    have hfin := enter_con (id := id) (l := l) h.mem con hargs hg hk hun
    rw [hA] at hfin
    exact goes_enter hrun hfin
/-- A method expression as a value. -/
theorem cust_methval {T : TypeId} {name : String} {l : List Prop} (ho : o.op = .makeFunc (.methodOf T name) #[] #[]) : Cust P old id o [] [] ⟨l, .one (.val (.func (.methodOf T name) #[] #[])), []⟩ :=
  cust_val (fun W0 obs ρ a w hold hm hv hos hun hn => by
    refine ⟨.func (.methodOf T name) #[] #[], w, ?_, post_same hm (Below.refl _ _) rfl⟩
    unfold execOp
    rw [ho]
    simp [Instr.makeFunc, Result.andThen]) rfl
/-- A function that has captured two variables of one plain cell each. -/
structure Cap2 (g : Nat) (x y : Value) (v : Value) (bs : List Nat) (w : World) : Prop where
  is : ∃ b c T T', v = .func (.func g) #[] #[.pointer (some ⟨b, 0, none⟩), .pointer (some ⟨c, 0, none⟩)] ∧ bs = [b, c] ∧ w.heap[b]? = some (.cells #[x] T (0, 0)) ∧ w.heap[c]? = some (.cells #[y] T' (0, 0))
theorem Cap2.firm {g : Nat} {x y : Value} (v : Value) (bs : List Nat) (w1 w2 : World) (hk : ∀ b, b ∈ bs → w2.heap[b]? = w1.heap[b]?) (h : Cap2 g x y v bs w1) : Cap2 g x y v bs w2 := by
  obtain ⟨b, c, T, T', rfl, rfl, hb, hc⟩ := h.is
  exact ⟨b, c, T, T', rfl, rfl, (hk b (by simp)).trans hb, (hk c (by simp)).trans hc⟩
theorem cust_capture2 {g : Nat} {x y : Operand} {T T' : TypeId} {u v : Value} (ho : o.op = .makeFunc (.func g) #[] #[x, y]) (hqr : q ≠ r) :
    Cust P old id o [.one (.ptr q 0), .one (.ptr r 0)] [.var T [.val u], .var T' [.val v]] ⟨[], .one (.own id), [(q, .gone), (r, .gone), (id, .abs (Cap2 g u v))]⟩ :=
  cust_val fun W0 obs ρ a w hold hm hv hos hun hn => by
    have hops : o.op.operands.toList = [x, y] := by rw [ho]; simp [Op.operands]
    rw [hops] at hv
    obtain ⟨v1, s1, e1, k1, v2, s2, e2, k2, k3⟩ := hv
    obtain ⟨ex, ey⟩ : a.eval x = v1 ∧ a.eval y = v2 := by subst e2; simp at e1; exact ⟨e1.1, e1.2.1⟩
    have hos2 : obs q = .var T [.val u] ∧ obs r = .var T' [.val v] := by simpa [AvIds, ScIds] using hos
    obtain ⟨b, vs, hr1, hb1, hb2, hc1⟩ := var_of hm hos2.1
    obtain ⟨c, vs', hr2, hd1, hd2, hc2⟩ := var_of hm hos2.2
    have hv1 := ptr_of (W0 := W0) k1 hr1
    have hv2 := ptr_of (W0 := W0) k2 hr2
    obtain rfl := plain_cs (us := [u]) rfl hc1
    obtain rfl := plain_cs (us := [v]) rfl hc2
    have hne : b ≠ c := fun e => hm.apart q r _ _ hqr hr1 hr2 b (by simp) (by simp [e])
    have hin1 := hm.in_ hr1
    have hin2 := hm.in_ hr2
    have hidn : obs id = .un := hun id (Nat.le_refl _) (by omega)
    have hni : id ∉ [q, r] := fun hmem => by
      simp only [List.mem_cons, List.not_mem_nil, or_false] at hmem
      rcases hmem with rfl | rfl
      · rw [hos2.1] at hidn; cases hidn
      · rw [hos2.2] at hidn; cases hidn
    have hbs : ∀ z, z ∈ [b, c] → z ∈ bsOf ρ [id, q, r] := fun z hz => by
      simp only [List.mem_cons, List.not_mem_nil, or_false] at hz
      rcases hz with rfl | rfl
      · exact mem_bsOf (q := q) (by simp) hr1 (by simp)
      · exact mem_bsOf (q := r) (by simp) hr2 (by simp)
    obtain ⟨ρ', h1, h2, h3⟩ := take_over hm (ids := [q, r]) (id := id) (v := .func (.func g) #[] #[.pointer (some ⟨b, 0, none⟩), .pointer (some ⟨c, 0, none⟩)]) (bs' := [b, c]) (fun z hz => by
      simp only [List.mem_cons, List.not_mem_nil, or_false] at hz
      rcases hz with rfl | rfl
      · exact ⟨_, hr1⟩
      · exact ⟨_, hr2⟩) hni (fun p hp => by rw [un_none hm hidn] at hp; cases hp) (turned_refl w _) (fun z hz => .inl (hbs z hz)) (by simp [hne])
      (ob_abs (φ := Cap2 g u v) ⟨b, c, T, T', rfl, rfl, hb2, hd2⟩ (fun z hz => by
        simp only [List.mem_cons, List.not_mem_nil, or_false] at hz
        rcases hz with rfl | rfl
        · exact hin1 z (by simp)
        · exact hin2 z (by simp)) (Cap2.firm _ _))
    refine ⟨.func (.func g) #[] #[.pointer (some ⟨b, 0, none⟩), .pointer (some ⟨c, 0, none⟩)], w, ?_, ρ', h1, h2, rfl, [b, c], h3⟩
    unfold execOp
    rw [ho]
    simp [Instr.makeFunc, ex, ey, hv1, hv2, Result.andThen]
end
end Go.Proofs.Ytoedfeacpllkeaa.E29
