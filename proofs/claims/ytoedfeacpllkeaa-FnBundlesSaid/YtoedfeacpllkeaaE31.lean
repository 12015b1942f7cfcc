/-
  A symbolic run in two goes: the code is cut behind its first parts; what the first go left may be named anew ahead of the second.
-/
import Derived.Test.YtoedfeacpllkeaaE26
namespace Go.Proofs.Ytoedfeacpllkeaa.E31
open Go.ChangeShapes Go.WideShapes Go.ChangeAt Go.RowKit
open S0 S1 S9 E0 E1 E2 E3 E4 E5 E6 E7 E8 E9 E10 E11 E12 E15 E16 E17 E18 E20 E26
set_option linter.unusedVariables false
set_option maxRecDepth 100000
/-- The first n parts of a code, and the rest. -/
def headL : Nat → Code → List Code
  | 0, _ => []
  | n + 1, c => match c with | .seq x y => x :: headL n y | _ => []
def tailN : Nat → Code → Code
  | 0, c => c
  | n + 1, c => match c with | .seq _ y => tailN n y | c => c
def ofL : List Code → Code → Code
  | [], y => y
  | x :: l, y => .seq x (ofL l y)
section
variable {P : Program} {W0 : World} {w w' : World} {C : Orc} {L : Loops}
theorem split_ok (hm : P.follows .mixedOrders = true) (hC : C.old W0) (y : Code) {Q : Exit → Act → World → Prop} : ∀ (l : List Code) {K : Exit → St → Prop} {s : St} {ρ : Roots} {a : Act} {w : World}, awp P C L (ofL l .skip) s K → Sat W0 s ρ a w →
    (∀ e s' ρ' a' w', K e s' → Low ρ ρ' → Sat W0 s' ρ' a' w' → match e with | .normal => y.wp P Q a' w' | e => Q e a' w') → (ofL l y).wp P Q a w
  | [], K, s, ρ, a, w, h, hs, hQ => by
    have h : awp P C L .skip s K := h
    unfold awp at h
    exact hQ .normal s ρ a w h (.refl ρ) hs
  | x :: l, K, s, ρ, a, w, h, hs, hQ => by
    have h : awp P C L (.seq x (ofL l .skip)) s K := h
    unfold awp at h
    refine wp_seq (awp_ok hm hC x h hs fun e s' ρ' a' w' hk hle hs' => ?_)
    cases e with
    | normal => exact split_ok hm hC y l hk hs' fun e s2 ρ2 a2 w2 hk2 hl2 hs2 => hQ e s2 ρ2 a2 w2 hk2 (hle.trans hl2) hs2
    | _ => exact hQ _ s' ρ' a' w' hk hle hs'
/-- A function's run in two goes: what the first leaves may be named anew. -/
theorem go2 {f : FuncId} {fn : Func} {l : List Code} {y : Code} (hf : P.funcs[f]? = some fn) (hb : fn.body = some (ofL l y)) (hm : P.follows .mixedOrders = true) {ags : List Grp} {vs : List Value} {R : List Value → World → Prop} (C : Orc) (L : Loops) (hC : C.old w) {K : Exit → St → Prop}
    (h : awp P C L (ofL l .skip) (st0 fn.ntmps ags) K) (hv : ArgOK w ags vs) (hK : ∀ e s, K e s → e = .normal)
    (h2 : ∀ s ρ a w', K .normal s → Sat w s ρ a w' → ∃ (C2 : Orc) (L2 : Loops) (s2 : St) (ρ2 : Roots) (K2 : Exit → St → Prop), C2.old w ∧ Sat w s2 ρ2 a w' ∧ awp P C2 L2 y s2 K2 ∧ ∀ e s3 ρ3 a3 w3, K2 e s3 → Sat w s3 ρ3 a3 w3 → (e = .ret ∨ e = .normal) ∧ ∃ gs, resCells P s3 fn.results.toList = some gs ∧ ∀ us, TsOK ρ3 w gs us → R us w3) :
    Calls P f vs.toArray w fun e w' => ∃ us, e = .returned (retV us) ∧ R us w' := by
  refine calls_of_wp hf hb ?_
  have hvl := arg_len hv
  have hst : st0 fn.ntmps ags = ⟨ags.map argAV ++ List.replicate (fn.ntmps - (ags.map argAV).length) (.one (.val undef)), fun _ => .un⟩ := by unfold st0; rw [List.length_map]
  rw [hst] at h
  have hm0 : Mem w (fun _ => .un) (fun _ => none) w := ⟨Below.refl _ _, fun o => rfl, fun _ _ _ _ _ h1 => (by cases h1), fun _ _ h1 => (by cases h1)⟩
  have hs : Sat w ⟨ags.map argAV ++ List.replicate (fn.ntmps - (ags.map argAV).length) (.one (.val undef)), fun _ => .un⟩ (fun _ => none) { tmps := vs.toArray ++ Array.replicate (fn.ntmps - vs.toArray.size) undef, defers := [] } w := by
    refine ⟨hm0, ?_, fun i av hi => ?_, rfl⟩
    · simp [hvl]
    · have h2 : (ags.map argAV ++ List.replicate (fn.ntmps - (ags.map argAV).length) (.one (.val undef)))[i]? = some av := hi
      by_cases hlt : i < (ags.map argAV).length
      · rw [List.getElem?_append_left hlt] at h2
        obtain ⟨v, h3, h4⟩ := start_ok i av hv h2
        have : (vs.toArray ++ Array.replicate (fn.ntmps - vs.toArray.size) undef).getD i undef = v := by
          rw [Array.getD_eq_getD_getElem?, Array.getElem?_append_left (by rw [List.length_map] at hlt; simp; omega)]
          simp [h3]
        rw [this]; exact h4
      · rw [List.getElem?_append_right (by omega), List.getElem?_replicate] at h2
        split at h2
        · obtain rfl : AV.one (.val undef) = av := by simpa using h2
          show (vs.toArray ++ Array.replicate (fn.ntmps - vs.toArray.size) undef).getD i undef = undef
          rw [Array.getD_eq_getD_getElem?, Array.getElem?_append_right (by rw [List.length_map] at hlt; simp; omega), Array.getElem?_replicate]
          split <;> rfl
        · cases h2
  refine split_ok (W0 := w) hm hC y l h hs fun e s' ρ' a' w' hk hle hs' => ?_
  obtain rfl := hK e s' hk
  obtain ⟨C2, L2, s2, ρ2, K2, hC2, hs2, hawp, hend⟩ := h2 s' ρ' a' w' hk hs'
  show y.wp P _ a' w'
  refine awp_ok (W0 := w) hm hC2 y hawp hs2 fun e s3 ρ3 a3 w3 hk3 hle3 hs3 => ?_
  obtain ⟨he, gs, hg, hr⟩ := hend e s3 ρ3 a3 w3 hk3 hs3
  have fin : a3.defers = [] ∧ ∃ v, (results fn a3.tmps).run P w3 = .ok v w3 ∧ ∃ us, Ending.returned v = .returned (retV us) ∧ R us w3 := by
    obtain ⟨us, h1, h2⟩ := res_ok hs3 hg
    refine ⟨hs3.defers, retV us, ?_, us, rfl, hr us h2⟩
    have hres : results fn a3.tmps = (fn.results.mapM (rdRes a3.tmps) >>= fun vs => pure (if h : vs.size = 1 then vs[0] else .tuple vs)) := rfl
    rw [hres]
    have hmap : ∀ (M : Sem (List Value)), (List.toArray <$> M) = (M >>= fun y => pure y.toArray) := fun M => rfl
    rw [Sem.run_bind, Array.mapM_eq_mapM_toList, hmap, Sem.run_bind]
    simp only [h1, Result.andThen_ok, Sem.run_pure]
    match us with
    | [] => rfl
    | [u] => rfl
    | _ :: _ :: _ => simp [retV]
  rcases he with rfl | rfl
  · exact fin
  · exact fin
/-- An object is told in another way. -/
theorem mem_as {obs : Nat → Ob} {ρ : Roots} (h : Mem W0 obs ρ w) {q : Nat} {ob : Ob} (ho : ObOK ρ W0 w q ob) : Mem W0 (upd obs q ob) ρ w where
  below := h.below
  all x := by
    by_cases e : x = q
    · subst e; rw [upd_same]; exact ho
    · rw [upd_ne _ _ e]; exact h.all x
  apart := h.apart
  nodup := h.nodup
/-- A row whose elements' values are named; the elements own what they reach. -/
structure OutAt (lo : Nat) (E : TypeId) (g off cap : Nat) (vs : List Value) (ds : List Dc) (b0 : List Nat) (v : Value) (cs : List Nat) (w : World) : Prop where
  v_is : v = .slice (some ⟨g, off, none⟩) vs.length cap
  cs_is : cs = b0
  at_ : Ow.At w lo E 1 v vs.length vs
  own : ∃ b2, OwnsL w lo ds vs b2 ∧ b0 = g :: b2
def IsV (u : Value) (v : Value) (bs : List Nat) (w : World) : Prop := v = u ∧ bs = []
theorem OutAt.firm {lo : Nat} {E : TypeId} {g off cap : Nat} {vs : List Value} {ds : List Dc} {b0 : List Nat} {v : Value} {cs : List Nat} (w1 w2 : World) (hk : ∀ b, b ∈ cs → w2.heap[b]? = w1.heap[b]?) (h : OutAt lo E g off cap vs ds b0 v cs w1) : OutAt lo E g off cap vs ds b0 v cs w2 := by
  obtain ⟨h1, h2, h3, b2, h4, h5⟩ := h
  have hg : ∀ b, b ∈ g :: b2 → w2.heap[b]? = w1.heap[b]? := fun b hb => hk b (by rw [h2, h5]; exact hb)
  refine ⟨h1, h2, h3.keep fun k hk => ?_, b2, ownsL_keep _ _ _ h4 fun b hb => hg b (List.mem_cons_of_mem _ hb), h5⟩
  rw [h1] at hk
  obtain rfl : g = k := by simpa [Value.ownBlock] using hk
  exact hg g (by simp)
section
variable {old : World → Prop} {id q : Nat} {o : Oper} {lo : Nat} {E : TypeId} {g off cap : Nat} {vs : List Value} {ds : List Dc} {b0 : List Nat} {φ : Value → List Nat → World → Prop}
theorem cust_idxO (hφ : φ = OutAt lo E g off cap vs ds b0) {t : TypeId} {x y : Operand} (ho : o.op = .indexAddr t x y) (hu : P.underlying t = some (.slice E)) (hs : size? P E = some 1) (i : Nat) (hi : i < vs.length) :
    Cust P old id o [.one (.own q), .one (.val (.int .i64 i))] [.abs φ] ⟨[], .one (.elo q 1 i 0), []⟩ :=
  cust_val fun W0 obs ρ a w hold hm hv hos hun hn => by
    have hops : o.op.operands.toList = [x, y] := by rw [ho]; rfl
    rw [hops] at hv
    obtain ⟨v1, s1, e1, ⟨k1, bs, hρ⟩, v2, s2, e2, k2, k3⟩ := hv
    have k2 : v2 = .int .i64 i := k2
    subst k2 e2
    obtain rfl : s2 = [] := k3
    have hx : a.eval x = v1 := (List.cons.inj e1).1
    have hy : a.eval y = .int .i64 i := (List.cons.inj (List.cons.inj e1).2).1
    have hq : obs q = .abs φ := by simpa [AvIds, ScIds] using hos
    obtain ⟨r, bs', hρ', hw, _⟩ := abs_of hm hq
    rw [hρ] at hρ'
    injection hρ' with hρ'
    injection hρ' with e3 e4
    subst e3 hφ
    have hf := hw.v_is
    refine ⟨.pointer (some ⟨g, off + (i * 1 + 0), none⟩), w, ?_, post_same hm (Below.refl _ _) ⟨g, off, vs.length, cap, bs, by rw [hρ, hf], hi, rfl⟩⟩
    obtain ⟨inf, hinf⟩ : ∃ inf, P.info? E = some inf := by
      unfold size? at hs
      cases hi : P.info? E with
      | none => rw [hi] at hs; cases hs
      | some inf => exact ⟨inf, rfl⟩
    have hsz : P.cellsOf E = 1 := by unfold Program.cellsOf; unfold size? at hs; rw [hs]; rfl
    unfold execOp
    rw [ho]
    simp only [hx, hf, hy, Instr.indexAt, asIntOf, Sem.run_bind, Sem.run_pure, run_underlying hu w, Result.andThen_ok]
    rw [if_pos ⟨Int.natCast_nonneg i, by omega⟩]
    simp only [Sem.run_bind, run_sizeOf (P := P) (w := w) hinf, hsz, Result.andThen_ok, Sem.run_pure, add_off, Nat.add_zero, Int.toNat_natCast]
theorem cust_loadO (hφ : φ = OutAt lo E g off cap vs ds b0) {t : TypeId} {x : Operand} (ho : o.op = .load t x) (hs : size? P t = some 1) (hr : isRow P t = some true) (i : Nat) {u : Value} (hu : vs[i]? = some u) (hone : u.oneCell' = true) :
    Cust P old id o [.one (.elo q 1 i 0)] [.abs φ] ⟨[], .agg [.own id], [(id, .abs (IsV u))]⟩ :=
  cust_val fun W0 obs ρ a w hold hm hv hos hun hn => by
    have hops : o.op.operands.toList = [x] := by rw [ho]; rfl
    rw [hops] at hv
    obtain ⟨v1, s1, e1, ⟨b', off', n', c', bs, hρ, _, k1⟩, k2⟩ := hv
    have hx : a.eval x = v1 := (List.cons.inj e1).1
    have hq : obs q = .abs φ := by simpa [AvIds, ScIds] using hos
    obtain ⟨r, bs', hρ', hw, _⟩ := abs_of hm hq
    rw [hρ] at hρ'
    injection hρ' with hρ'
    injection hρ' with e3 e4
    subst e3 hφ
    have hf := hw.v_is
    injection hf with f1 f2 f3
    injection f1 with f1
    injection f1 with f4 f5
    subst f4 f5 f3
    have hi : i < vs.length := by
      rcases Nat.lt_or_ge i vs.length with h | h
      · exact h
      · rw [List.getElem?_eq_none h] at hu; cases hu
    have hat := hw.at_
    rw [f2] at hat
    have hcell := hat.cellAt i (by omega)
    rw [hu] at hcell
    obtain ⟨v, hrun, hav⟩ := load_run (P := P) (w := w) b' (off' + (i * 1 + 0)) t true [u] (fun j v hj => by
      match j, hj with
      | 0, hj =>
        cases hj
        rw [Nat.mul_one, Nat.add_zero, Nat.add_zero]
        exact hcell) hs hr (fun h => by cases h)
    have hid := hun id (Nat.le_refl _) (by omega)
    have hn : ρ id = none := by have := hm.all id; rw [hid] at this; exact this
    have hrr : ∀ p, ρ id = some p → p.1 = u := fun p hp => by rw [hn] at hp; cases hp
    refine ⟨v, w, ?_, _, Le.upd ρ id u [] hrr, hm.turn (cs := []) hrr (turned_below (Below.refl _ _)) (fun b hb => by cases hb) (fun _ _ _ _ _ _ hb => by cases hb) (fun b hb => by cases hb) (by simp) ⟨u, [], upd_same _ _ _, ⟨rfl, rfl⟩, (fun b hb => (by cases hb)), fun _ _ _ h => h⟩, hav _ W0 [.own id] ⟨u, [], rfl, ⟨hone, [], upd_same _ _ _⟩, rfl⟩⟩
    unfold execOp
    rw [ho]
    simp only [hx, k1, Sem.run_bind, hrun, Result.andThen_ok]
    rfl
end
end
end Go.Proofs.Ytoedfeacpllkeaa.E31
