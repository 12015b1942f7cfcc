/-
  A symbolic run: calls by contracts that hold in some worlds only; rows told by any data.
-/
import Derived.Test.YtoedfeacpllkeaaEb
namespace Go.Proofs.Ytoedfeacpllkeaa.E25
open Go.ChangeShapes Go.WideShapes Go.ChangeAt Go.RowKit
open S0 S1 S9 Dm Fx E0 E1 E2 E3 E4 E5 E6 E7 E8 E9 E10 E15 E16 E17 E18 E19 E20
set_option linter.unusedVariables false
set_option maxRecDepth 100000
theorem cust_on {P : Program} {old : World → Prop} {id : Nat} {o : Oper} {vs : List AV} {os : List Ob} {c : Call} {f : FuncId} {ags rs : List Grp} {gs : List (Bool × List Sc)} {m : List (Nat × Ob)} {k : Nat} {l : List Prop} (ho : o.op = .call c) (hc : c.callee = .value (.func f)) (hen : ∀ args w, (callFunc f args).run P w = .ok (.enter f args) w)
    (hav : ∀ obs : Nat → Ob, named o.op obs vs = os → avsDa obs vs.tail = some ags) (hg : grpNew id rs = (gs, m, k)) (hk : k ≤ id + 8)
    (K : ∀ W0 w : World, old W0 → Below W0.heap.size W0 w → ∀ args : List Value, ArgOK w ags args → Calls P f args.toArray w fun e w' => ∃ us bs, e = .returned (retV us) ∧ ResOK w' w.heap.size rs us bs ∧ bs.Nodup ∧ Below w.heap.size w w') : Cust P old id o vs os ⟨l, resAV gs, m⟩ where
  goes W0 s ρ a w hold h hvs hos hun hn := by
    have hops : o.op.operands.toList = .func f :: c.args.toList := by rw [ho]; simp [Op.operands, Call.operands, hc]
    have htail : vs.tail = c.args.toList.map (St.ev s) := by rw [← hvs, hops]; rfl
    have hrun : (execOp a.eval o).run P w = .ok (.enter f (c.args.map a.eval)) w := by
      unfold execOp
      rw [ho]
      simp only [resolve, hc, Act.eval, Deferred.ofValue, Sem.run_bind, Sem.run_pure, Result.andThen_ok, invoke]
      have := hen (c.args.map a.eval) w
      simpa using this
    have has := hav s.obs hos
    rw [htail] at has
    have hargs := args_ok h has
    refine goes_enter hrun ?_
    have hcall := K W0 w hold h.mem.below _ hargs
    have hA : (c.args.toList.map a.eval).toArray = c.args.map a.eval := by apply Array.ext'; simp
    rw [hA] at hcall
    refine hcall.mono ?_
    rintro e' w' ⟨us, bs, rfl, hres, hnd, hb⟩
    refine ⟨_, rfl, ?_⟩
    have hin : ∀ {rs : List Grp} {us : List Value} {bs : List Nat}, ResOK w' w.heap.size rs us bs → ∀ b, b ∈ bs → w.heap.size ≤ b := by
      intro rs
      induction rs with
      | nil => intro us bs hr b hb; obtain ⟨_, rfl⟩ := hr; cases hb
      | cons p rs ih =>
        intro us bs hr b hb
        obtain ⟨v, vs', xs, b1, b2, _, _, h1, h2, rfl⟩ := hr
        rcases List.mem_append.1 hb with hb | hb
        · exact (ownsL_in _ _ _ h1 b hb).1
        · exact ih h2 b hb
    have hm := h.mem.on hb
    obtain ⟨ρ', h1, h2, h3⟩ := new_grps (w := w') (lo := w.heap.size) h.mem.below.size rs id s.obs ρ us bs hm hres hnd (fun q p hp b hb1 hb2 => by
      have h5 := (h.mem.in_ hp b hb1).2
      have h6 := hin hres b hb2
      omega) (fun k' h5 h6 => hun k' h5 (by rw [hg] at h6; simp at h6; omega))
    rw [hg] at h2 h3
    exact ⟨ρ', h1, h2, ret_ok h3⟩
/-- A row of one's own by its data, whatever they are. -/
structure OwnAt (lo : Nat) (d : Dc) (v : Value) (bs : List Nat) (w : World) : Prop where
  is : Owns w lo d v bs
theorem OwnAt.firm {lo : Nat} {d : Dc} (v : Value) (bs : List Nat) (w1 w2 : World) (hk : ∀ b, b ∈ bs → w2.heap[b]? = w1.heap[b]?) (h : OwnAt lo d v bs w1) : OwnAt lo d v bs w2 := ⟨owns_keep _ _ _ h.is hk⟩
theorem made_res {w w' : World} {e : Ending} {ds : List Da} {dcs : List Dc} {rs : List Grp} {us : List Value} (hp : plainGs rs = some us) (e1 : ds.map Da.dc = dcs) (h : MadeLx dcs (fun xs => retV (.agg xs.toArray :: us)) w e w') : ∃ us bs, e = .returned (retV us) ∧ ResOK w' w.heap.size ((true, ds) :: rs) us bs ∧ bs.Nodup ∧ Below w.heap.size w w' := by
  obtain ⟨xs, bs, h1, h2, h3, h4⟩ := h
  exact ⟨_, bs, h1, ⟨_, us, xs, bs, [], rfl, by rw [if_pos rfl], by rw [e1]; exact h2, plainGs_res hp, by simp⟩, h3, h4⟩
theorem arg_open {w : World} {ds : List Da} {dcs : List Dc} {ags : List Grp} {vs : List Value} (e : ds.map Da.dc = dcs) (h : ArgOK w ((true, ds) :: ags) vs) : ∃ us vs', vs = .agg us.toArray :: vs' ∧ ShsL w w.heap.size dcs us ∧ ArgOK w ags vs' := by
  obtain ⟨v, vs', e1, h1, h2⟩ := h
  rw [if_pos rfl] at h1
  obtain ⟨us, rfl, h3⟩ := h1
  exact ⟨us, vs', e1, by rw [← e]; exact h3, h2⟩
end Go.Proofs.Ytoedfeacpllkeaa.E25
