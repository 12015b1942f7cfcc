import Derived.Test.YtoedfeacpllkeaaC17i
namespace Go.Proofs.Ytoedfeacpllkeaa.C17j
open Go.ChangeShapes Go.WideShapes Go.ChangeAt Go.RowKit
open S0 S1 S9 Dm Fx M26 E0 E1 E2 E3 E4 E7 E10 E15 E16 E17 E18 E19 E20 E24 E25 E26 E28 E29 Das C17i
set_option linter.unusedVariables false
set_option linter.unusedSimpArgs false
set_option maxRecDepth 100000
structure Box2 (b c : Nat) (s h : Int) (w : World) : Prop where
  is : (b < w.heap.size ∧ w.cell? ⟨b, 0, none⟩ = some (.int .i64 s)) ∧ (c < w.heap.size ∧ w.cell? ⟨c, 0, none⟩ = some (.int .i64 h))
theorem Box2.on {b c : Nat} {s h : Int} {W w : World} (k : Box2 b c s h W) (hb : Below W.heap.size W w) : Box2 b c s h w :=
  ⟨⟨Nat.lt_of_lt_of_le k.is.1.1 hb.size, by rw [World.cell?_of_block (w := W) (hb.block b k.is.1.1)]; exact k.is.1.2⟩, ⟨Nat.lt_of_lt_of_le k.is.2.1 hb.size, by rw [World.cell?_of_block (w := W) (hb.block c k.is.2.1)]; exact k.is.2.2⟩⟩
def f2C (b c : Nat) (s h : Int) : Orc := ⟨fun _ _ _ => none, fun id vs _ => match id with
  | 20016 => some ⟨[], .one (.val (.int .i64 s)), []⟩
  | 20056 => some ⟨[], .one (.val (.int .i64 h)), []⟩
  | _ => none, Box2 b c s h⟩
theorem wpF2 (x : En) (s h : Int) (b c : Nat) : awp Try.prog (f2C b c s h) (noLoops) (Try.f52.body.getD .skip) ⟨[.agg [.val (.int .i64 x.Site), .val (.int .i64 x.Handle), .val (.int .i64 x.Version), .val (.bool x.Deleted)], .one (.val (.pointer (some ⟨b, 0, none⟩))), .one (.val (.pointer (some ⟨c, 0, none⟩)))] ++ List.replicate (Try.f52.ntmps - ([.agg [.val (.int .i64 x.Site), .val (.int .i64 x.Handle), .val (.int .i64 x.Version), .val (.bool x.Deleted)], .one (.val (.pointer (some ⟨b, 0, none⟩))), .one (.val (.pointer (some ⟨c, 0, none⟩)))] : List AV).length) (.one (.val undef)), fun _ => .un⟩ (retK Try.prog Try.f52.results.toList [bV (isE s h x)]) := by
  have hh_ : bcase (x.1 == s) (Cust Try.prog (Box2 b c s h) 20016 (opOf (Try.f52.body.getD Code.skip) 1 2) [AV.one (Sc.val (Value.pointer (some { block := b, off := 0 })))] [] { need := [], val := AV.one (Sc.val (vI s)), mem := [] } ∧ ((x.1 == s) = true ∧ (Cust Try.prog (Box2 b c s h) 20056 (opOf (Try.f52.body.getD Code.skip) 1 7) [AV.one (Sc.val (Value.pointer (some { block := c, off := 0 })))] [] { need := [], val := AV.one (Sc.val (vI h)), mem := [] } ∧ (false = false ∧ Value.bool (x.2 == h) = Value.bool (isE s h x))))) (Cust Try.prog (Box2 b c s h) 20016 (opOf (Try.f52.body.getD Code.skip) 1 2) [AV.one (Sc.val (Value.pointer (some { block := b, off := 0 })))] [] { need := [], val := AV.one (Sc.val (vI s)), mem := [] } ∧ ((x.1 == s) = false ∧ (false = false ∧ Value.bool false = Value.bool (isE s h x)))) = (awp Try.prog (f2C b c s h) (noLoops) (Try.f52.body.getD .skip) ⟨[.agg [.val (.int .i64 x.Site), .val (.int .i64 x.Handle), .val (.int .i64 x.Version), .val (.bool x.Deleted)], .one (.val (.pointer (some ⟨b, 0, none⟩))), .one (.val (.pointer (some ⟨c, 0, none⟩)))] ++ List.replicate (Try.f52.ntmps - ([.agg [.val (.int .i64 x.Site), .val (.int .i64 x.Handle), .val (.int .i64 x.Version), .val (.bool x.Deleted)], .one (.val (.pointer (some ⟨b, 0, none⟩))), .one (.val (.pointer (some ⟨c, 0, none⟩)))] : List AV).length) (.one (.val undef)), fun _ => .un⟩ (retK Try.prog Try.f52.results.toList [bV (isE s h x)])) := by kernel_rfl
  rw [← hh_]
  clear hh_
  refine bcase_intro (fun h0 => ⟨?g1, h0, ?g2, rfl, congrArg _ ?g3⟩) (fun h0 => ⟨?g4, h0, rfl, congrArg _ ?g5⟩)
  case g1 | g4 => exact cust_loadP (r := false) (us := [.int .i64 s]) rfl (by kernel_rfl) (by kernel_rfl) (fun _ => rfl) (fun W hW => ⟨hW.is.1.1, fun j v hj => by
      match j, hj with
      | 0, hj => cases hj; exact hW.is.1.2⟩) rfl
  case g2 => exact cust_loadP (r := false) (us := [.int .i64 h]) rfl (by kernel_rfl) (by kernel_rfl) (fun _ => rfl) (fun W hW => ⟨hW.is.2.1, fun j v hj => by
      match j, hj with
      | 0, hj => cases hj; exact hW.is.2.2⟩) rfl
  case g3 => unfold isE; rw [decide_eq_true (eq_of_beq h0), Bool.true_and]; rfl
  case g5 => unfold isE; rw [decide_eq_false (ne_of_beq_false h0)]; rfl
theorem find2_c (w : World) (x : En) (s h : Int) (b c : Nat) (hb : Box2 b c s h w) : Calls Try.prog 52 #[.agg #[.int .i64 x.Site, .int .i64 x.Handle, .int .i64 x.Version, .bool x.Deleted], .pointer (some ⟨b, 0, none⟩), .pointer (some ⟨c, 0, none⟩)] w (Gives (.bool (isE s h x)) w) :=
  law_go (f2C b c s h) noLoops Try.func52 (by kernel_rfl) (by kernel_rfl) (wpF2 x s h b c) hb rfl (args_of (us := [.agg #[.int .i64 x.Site, .int .i64 x.Handle, .int .i64 x.Version, .bool x.Deleted], .pointer (some ⟨b, 0, none⟩), .pointer (some ⟨c, 0, none⟩)]))
abbrev IxX (l : List En) (s h : Int) : Type := { i : Nat // i ≤ l.length ∧ ∀ j, j < i → isE s h (l.getD j zEntry) = false }
def ixL (l : List En) (s h : Int) : Loops := fun r _ => match r with
  | 2 => some ⟨IxX l s h, fun v sl => only [0, 1, 7, 8] 0 (sl.set 8 (.one (.val (vI v.1)))), fun _ _ => [], fun v => l.length - v.1⟩
  | _ => none
def ixC (b c : Nat) (s h : Int) : Orc := ⟨fun _ _ _ => none, fun id vs _ => match id with
  | 50040 => (match vs with | [_, .agg [.val (.int _ s2), .val (.int _ h2), .val (.int _ v2), .val (.bool d2)]] => some ⟨[], .one (.val (.bool (isE s h ⟨s2, h2, v2, d2⟩))), []⟩ | _ => none)
  | _ => none, Box2 b c s h⟩
theorem wpIx (l : List En) (s h : Int) (b c : Nat) (hnl : l.length ≤ 1000000000) : awp Try.prog (ixC b c s h) (ixL l s h) (Try.f51.body.getD .skip) ⟨[.one (.old (rowR 38 4 dasEntry zEntry l)), .one (.val (.func (.func 52) #[] #[.pointer (some ⟨b, 0, none⟩), .pointer (some ⟨c, 0, none⟩)]))] ++ List.replicate (Try.f51.ntmps - ([.one (.old (rowR 38 4 dasEntry zEntry l)), .one (.val (.func (.func 52) #[] #[.pointer (some ⟨b, 0, none⟩), .pointer (some ⟨c, 0, none⟩)]))] : List AV).length) (.one (.val undef)), fun _ => .un⟩ (retK Try.prog Try.f51.results.toList [iV (fndI l s h)]) := by
  have hh_ : ((∃ x0 : IxX l s h, (((DaEq (rowR 38 4 dasEntry zEntry l) (rowR 38 4 dasEntry zEntry l)) ∧ (Value.func (Fn.func 52) { toList := [] } { toList := [Value.pointer (some { block := b, off := 0 }), Value.pointer (some { block := c, off := 0 })] } = Value.func (Fn.func 52) { toList := [] } { toList := [Value.pointer (some { block := b, off := 0 }), Value.pointer (some { block := c, off := 0 })] } ∧ (vI (↑l.length : Int) = vI (↑l.length : Int) ∧ (vI 0 = vI (↑x0.1 : Int) ∧ True)))) ∧ True)) ∧ (∀ v : IxX l s h, bcase (decide ((↑v.1 : Int) < (↑l.length : Int))) ((0 ≤ (↑v.1 : Int) ∧ (↑v.1 : Int) < (↑l.length : Int)) ∧ (Cust Try.prog (Box2 b c s h) 50040 (opOf (Try.f51.body.getD Code.skip) 4 5) [AV.one (Sc.val (Value.func (Fn.func 52) { toList := [] } { toList := [Value.pointer (some { block := b, off := 0 }), Value.pointer (some { block := c, off := 0 })] })), AV.agg [Sc.val (vI (l.getD (↑v.1 : Int).toNat zEntry).1), Sc.val (vI (l.getD (↑v.1 : Int).toNat zEntry).2), Sc.val (vI (l.getD (↑v.1 : Int).toNat zEntry).3), Sc.val (Value.bool (l.getD (↑v.1 : Int).toNat zEntry).4)]] [] { need := [], val := AV.one (Sc.val (Value.bool (isE s h { Site := (l.getD (↑v.1 : Int).toNat zEntry).1, Handle := (l.getD (↑v.1 : Int).toNat zEntry).2, Version := (l.getD (↑v.1 : Int).toNat zEntry).3, Deleted := (l.getD (↑v.1 : Int).toNat zEntry).4 }))), mem := [] } ∧ bcase (isE s h { Site := (l.getD (↑v.1 : Int).toNat zEntry).1, Handle := (l.getD (↑v.1 : Int).toNat zEntry).2, Version := (l.getD (↑v.1 : Int).toNat zEntry).3, Deleted := (l.getD (↑v.1 : Int).toNat zEntry).4 }) (false = false ∧ vI (↑v.1 : Int) = vI (fndI l s h)) (∃ v' : IxX l s h, (l.length.sub v'.1 < l.length.sub v.1 ∧ (((DaEq (rowR 38 4 dasEntry zEntry l) (rowR 38 4 dasEntry zEntry l)) ∧ (Value.func (Fn.func 52) { toList := [] } { toList := [Value.pointer (some { block := b, off := 0 }), Value.pointer (some { block := c, off := 0 })] } = Value.func (Fn.func 52) { toList := [] } { toList := [Value.pointer (some { block := b, off := 0 }), Value.pointer (some { block := c, off := 0 })] } ∧ (vI (↑l.length : Int) = vI (↑l.length : Int) ∧ (vI (IntKind.i64.wrap ((↑v.1 : Int) + 1)) = vI (↑v'.1 : Int) ∧ True)))) ∧ True))))) (false = false ∧ vI (-1) = vI (fndI l s h)))) = (awp Try.prog (ixC b c s h) (ixL l s h) (Try.f51.body.getD .skip) ⟨[.one (.old (rowR 38 4 dasEntry zEntry l)), .one (.val (.func (.func 52) #[] #[.pointer (some ⟨b, 0, none⟩), .pointer (some ⟨c, 0, none⟩)]))] ++ List.replicate (Try.f51.ntmps - ([.one (.old (rowR 38 4 dasEntry zEntry l)), .one (.val (.func (.func 52) #[] #[.pointer (some ⟨b, 0, none⟩), .pointer (some ⟨c, 0, none⟩)]))] : List AV).length) (.one (.val undef)), fun _ => .un⟩ (retK Try.prog Try.f51.results.toList [iV (fndI l s h)])) := by kernel_rfl
  rw [← hh_]
  clear hh_
  refine ⟨⟨⟨0, Nat.zero_le _, fun j h => absurd h (Nat.not_lt_zero _)⟩, ⟨⟨DaEq.refl _, rfl, rfl, congrArg _ ?g1, trivial⟩, trivial⟩⟩, fun v => bcase_intro (fun h2 => ⟨⟨?g3, ?g4⟩, ?g5, bcase_intro (fun h6 => ⟨rfl, congrArg _ ?g7⟩) (fun h6 => ⟨⟨v.1 + 1, ?wa, ?wb⟩, ⟨?g9, ⟨DaEq.refl _, rfl, rfl, congrArg _ ?g10, trivial⟩, trivial⟩⟩)⟩) (fun h2 => ⟨rfl, congrArg _ ?g11⟩)⟩
  case g1 => rfl
  case g11 =>
    have h2 := of_decide_eq_false h2
    exact (fndI_none (fndE_none fun j hj => v.2.2 j (by omega))).symm
  all_goals have h2 := of_decide_eq_true h2
  case g3 | g4 => omega
  case g5 =>
    refine cust_dyn rfl rfl rfl (con_enters Try.func52 (by kernel_rfl) (by kernel_rfl)) fun W0 obs ρ w args hold hm hv hos hun hn => ?_
    have e := vs_plain (us := [.agg #[.int .i64 (l.getD (↑v.1 : Int).toNat zEntry).Site, .int .i64 (l.getD (↑v.1 : Int).toNat zEntry).Handle, .int .i64 (l.getD (↑v.1 : Int).toNat zEntry).Version, .bool (l.getD (↑v.1 : Int).toNat zEntry).Deleted]]) rfl hv
    subst e
    refine (find2_c w _ s h b c (Box2.on hold hm.below)).mono ?_
    rintro e w' ⟨rfl, hb⟩
    exact ⟨_, rfl, post_same hm hb rfl⟩
  all_goals have h6 : isE s h (l.getD v.1 zEntry) = _ := h6
  case g7 => exact (fndI_some (fndE_some (k := v.1) (by omega) h6 v.2.2)).symm
  case wa => omega
  case wb =>
    intro j hj
    rcases Nat.lt_or_ge j v.1 with h | h
    · exact v.2.2 j h
    · obtain rfl : j = v.1 := by omega
      exact h6
  case g9 => show l.length - (v.1 + 1) < l.length - v.1; omega
  case g10 => show IntKind.i64.wrap ((v.1 : Int) + 1) = ((v.1 + 1 : Nat) : Int); rw [IntWalk.i64_in _ (by omega)]; rfl
theorem index_c (w : World) (v : Value) (l : List En) (s h : Int) (b c : Nat) (hn : l.length ≤ 1000000000) (hv : Shs w w.heap.size (rowR 38 4 dasEntry zEntry l).dc v) (hx : Box2 b c s h w) :
    Calls Try.prog 51 #[v, .func (.func 52) #[] #[.pointer (some ⟨b, 0, none⟩), .pointer (some ⟨c, 0, none⟩)]] w (Gives (.int .i64 (fndI l s h)) w) :=
  law_go (ixC b c s h) (ixL l s h) Try.func51 (by kernel_rfl) (by kernel_rfl) (wpIx l s h b c hn) (vs := [v, .func (.func 52) #[] #[.pointer (some ⟨b, 0, none⟩), .pointer (some ⟨c, 0, none⟩)]]) hx rfl (fun j av hi => by
    match j, hi with
    | 0, hi => cases hi; exact ⟨v, rfl, hv⟩
    | 1, hi => cases hi; exact ⟨_, rfl, rfl⟩
    | j + 2, hi => cases hi)
theorem cust_index {old : World → Prop} {id q : Nat} {o : Oper} {cl : Call} {u : AV} {l : List En} {s h : Int} {d : Da} (ho : o.op = .call cl) (hc : cl.callee = .value (.func 51)) (hd : d = rowR 38 4 dasEntry zEntry l) (hu : AvIds u = []) (hn : l.length ≤ 1000000000) :
    Cust Try.prog old id o [u, .one (.old d), .one (.own q)] [.abs (Cap2 52 (vI s) (vI h))] ⟨[], .one (.val (.int .i64 (fndI l s h))), []⟩ := by
  subst hd
  refine cust_call (hlen := by rw [List.flatMap_cons, hu]; rfl) ho hc (con_enters Try.func51 (by kernel_rfl) (by kernel_rfl)) fun W0 obs ρ w args hold hm hv hos hun hn2 => ?_
  obtain ⟨v1, s1, rfl, k1, v2, s2, rfl, k2, k3⟩ := hv
  obtain rfl : s2 = [] := k3
  have hq : obs q = .abs (Cap2 52 (vI s) (vI h)) := by rw [List.flatMap_cons, hu] at hos; simpa [AvIds, ScIds] using hos
  obtain ⟨r, bs, hr, hφ, hnd⟩ := abs_of hm hq
  have h2 := own_val k2 hr
  obtain ⟨b, c, T, T', rfl, rfl, hb, hc2⟩ := hφ.is
  obtain rfl : v2 = _ := h2
  refine (index_c w v1 l s h b c hn (shs_on k1 hm.below) ⟨⟨(Array.getElem?_eq_some_iff.1 hb).1, by simp [World.cell?, hb]⟩, ⟨(Array.getElem?_eq_some_iff.1 hc2).1, by simp [World.cell?, hc2]⟩⟩).mono ?_
  rintro e w' ⟨rfl, hb2⟩
  exact ⟨_, rfl, post_same hm hb2 rfl⟩
def fndC (l : List En) (s h : Int) : Orc := ⟨fun _ _ _ => none, fun id vs _ => match id with
  | 20016 => (match vs with | [.one (.ptr q _), .one (.ptr r _)] => some ⟨[], .one (.own 20016), [(q, .gone), (r, .gone), (20016, .abs (Cap2 52 (vI s) (vI h)))]⟩ | _ => none)
  | 20024 => some ⟨[], .one (.val (vI (fndI l s h))), []⟩
  | _ => none, fun _ => True⟩
/-- The first deleted entry. -/
def idxD (l : List En) : Option Nat := l.findIdx? fun x => x.Deleted
def idxI (l : List En) : Int := match idxD l with | some k => (k : Int) | none => -1
theorem idxD_some {l : List En} {k : Nat} (hk : k < l.length) (h1 : (l.getD k zEntry).Deleted = true) (h2 : ∀ j, j < k → (l.getD j zEntry).Deleted = false) : idxD l = some k := by
  unfold idxD
  refine List.findIdx?_eq_some_iff_getElem.2 ⟨hk, by rw [← getD_lt hk]; exact h1, fun j hj => ?_⟩
  have := h2 j hj
  rw [getD_lt (Nat.lt_trans hj hk)] at this
  simpa using this
theorem idxD_none {l : List En} (h2 : ∀ j, j < l.length → (l.getD j zEntry).Deleted = false) : idxD l = none := by
  unfold idxD
  refine List.findIdx?_eq_none_iff.2 fun x hx => ?_
  obtain ⟨i, hi, rfl⟩ := List.getElem_of_mem hx
  rw [← getD_lt hi]
  exact h2 i hi
theorem idxD_at {l : List En} {k : Nat} (e : idxD l = some k) : k < l.length ∧ (l.getD k zEntry).Deleted = true ∧ ∀ j, j < k → (l.getD j zEntry).Deleted = false := by
  unfold idxD at e
  obtain ⟨h1, h2, h3⟩ := List.findIdx?_eq_some_iff_getElem.1 e
  rw [← getD_lt h1] at h2
  exact ⟨h1, h2, fun j hj => by have := h3 j hj; rw [getD_lt (Nat.lt_trans hj h1)]; simpa using this⟩
theorem idxD_no {l : List En} (e : idxD l = none) : ∀ j, j < l.length → (l.getD j zEntry).Deleted = false := by
  unfold idxD at e
  intro j hj
  rw [getD_lt hj]
  exact List.findIdx?_eq_none_iff.1 e _ (List.getElem_mem hj)
theorem idxI_some {l : List En} {k : Nat} (e : idxD l = some k) : idxI l = (k : Int) := by unfold idxI; rw [e]
theorem idxI_none {l : List En} (e : idxD l = none) : idxI l = -1 := by unfold idxI; rw [e]
def dxC : Orc := ⟨fun _ _ _ => none, fun id vs _ => match id with
  | 50040 => (match vs with | [_, .agg [.val (.int _ s2), .val (.int _ h2), .val (.int _ v2), .val (.bool d2)]] => some ⟨[], .one (.val (.bool d2)), []⟩ | _ => none)
  | _ => none, fun _ => True⟩
abbrev DxX (l : List En) : Type := { i : Nat // i ≤ l.length ∧ ∀ j, j < i → (l.getD j zEntry).Deleted = false }
def dxL (l : List En) : Loops := fun r _ => match r with
  | 2 => some ⟨DxX l, fun v sl => only [0, 1, 7, 8] 0 (sl.set 8 (.one (.val (vI v.1)))), fun _ _ => [], fun v => l.length - v.1⟩
  | _ => none
def cpC (l : List En) : Orc := callsBy fun d _ _ => match d with | some 5 => some [(false, [rowR 38 4 dasEntry zEntry l])] | _ => none
theorem conFnd (l : List En) (s h : Int) (hnl : l.length ≤ 1000000000) : FnCon Try.prog 22 ([(true, [rowR 38 4 dasEntry zEntry l]), iV s, iV h]) ([iV (fndI l s h)]) := by
  refine fn_go (p := ((Cust Try.prog (fun x => True) 20016 (opOf (Try.f22.body.getD Code.skip) 1 2) [AV.one (Sc.ptr 10008 0), AV.one (Sc.ptr 10016 0)] [Ob.var 3 [Sc.val (vI s)], Ob.var 3 [Sc.val (vI h)]] { need := [], val := AV.one (Sc.own 20016), mem := [(10008, Ob.gone), (10016, Ob.gone), (20016, Ob.abs (Cap2 52 (vI s) (vI h)))] }) ∧ ((Cust Try.prog (fun x => True) 20024 (opOf (Try.f22.body.getD Code.skip) 1 3) [AV.one (Sc.val (Value.func (Fn.func 51) { toList := [] } { toList := [] })), AV.one (Sc.old (rowR 38 4 dasEntry zEntry l)), AV.one (Sc.own 20016)] [Ob.abs (Cap2 52 (vI s) (vI h))] { need := [], val := AV.one (Sc.val (vI (fndI l s h))), mem := [] }) ∧ (false = false ∧ vI (fndI l s h) = vI (fndI l s h))))) (fndC l s h) (noLoops) Try.func22 (by kernel_rfl) (by kernel_rfl) (by kernel_rfl) (fun _ => trivial) (by kernel_rfl) ?_
  refine ⟨?g0, ?g1, rfl, rfl⟩
  case g0 => exact cust_capture2 rfl (by decide)
  case g1 => exact cust_index rfl rfl rfl rfl hnl
theorem conDel (x : En) : FnCon Try.prog 55 ([(true, dasEntry x)]) ([bV x.Deleted]) := by
  refine fn_go (p := (false = false ∧ Value.bool x.4 = Value.bool x.4)) (noCalls) (noLoops) Try.func55 (by kernel_rfl) (by kernel_rfl) (by kernel_rfl) (fun _ => trivial) (by kernel_rfl) ?_
  refine ⟨rfl, rfl⟩
theorem conIxD (l : List En) (hnl : l.length ≤ 1000000000) : FnCon Try.prog 51 ([(false, [rowR 38 4 dasEntry zEntry l]), (false, [.val (.func (.func 55) #[] #[])])]) ([iV (idxI l)]) := by
  refine fn_go (p := ((∃ x0 : DxX l, (((DaEq (rowR 38 4 dasEntry zEntry l) (rowR 38 4 dasEntry zEntry l)) ∧ (Value.func (Fn.func 55) { toList := [] } { toList := [] } = Value.func (Fn.func 55) { toList := [] } { toList := [] } ∧ (vI (↑l.length : Int) = vI (↑l.length : Int) ∧ (vI 0 = vI (↑x0.1 : Int) ∧ True)))) ∧ True)) ∧ (∀ v : DxX l, bcase (decide ((↑v.1 : Int) < (↑l.length : Int))) ((0 ≤ (↑v.1 : Int) ∧ (↑v.1 : Int) < (↑l.length : Int)) ∧ ((Cust Try.prog (fun x => True) 50040 (opOf (Try.f51.body.getD Code.skip) 4 5) [AV.one (Sc.val (Value.func (Fn.func 55) { toList := [] } { toList := [] })), AV.agg [Sc.val (vI (l.getD (↑v.1 : Int).toNat zEntry).1), Sc.val (vI (l.getD (↑v.1 : Int).toNat zEntry).2), Sc.val (vI (l.getD (↑v.1 : Int).toNat zEntry).3), Sc.val (Value.bool (l.getD (↑v.1 : Int).toNat zEntry).4)]] [] { need := [], val := AV.one (Sc.val (Value.bool (l.getD (↑v.1 : Int).toNat zEntry).4)), mem := [] }) ∧ bcase ((l.getD (↑v.1 : Int).toNat zEntry).4) (false = false ∧ vI (↑v.1 : Int) = vI (idxI l)) (∃ v' : DxX l, (l.length.sub v'.1 < l.length.sub v.1 ∧ (((DaEq (rowR 38 4 dasEntry zEntry l) (rowR 38 4 dasEntry zEntry l)) ∧ (Value.func (Fn.func 55) { toList := [] } { toList := [] } = Value.func (Fn.func 55) { toList := [] } { toList := [] } ∧ (vI (↑l.length : Int) = vI (↑l.length : Int) ∧ (vI (IntKind.i64.wrap ((↑v.1 : Int) + 1)) = vI (↑v'.1 : Int) ∧ True)))) ∧ True))))) (false = false ∧ vI (-1) = vI (idxI l))))) (dxC) (dxL l) Try.func51 (by kernel_rfl) (by kernel_rfl) (by kernel_rfl) (fun _ => trivial) (by kernel_rfl) ?_
  refine ⟨⟨⟨0, Nat.zero_le _, fun j h => absurd h (Nat.not_lt_zero _)⟩, ⟨⟨DaEq.refl _, rfl, rfl, congrArg _ ?g1, trivial⟩, trivial⟩⟩, fun v => bcase_intro (fun h2 => ⟨⟨?g3, ?g4⟩, ?g5, bcase_intro (fun h6 => ⟨rfl, congrArg _ ?g7⟩) (fun h6 => ⟨⟨v.1 + 1, ?wa, ?wb⟩, ⟨?g9, ⟨DaEq.refl _, rfl, rfl, congrArg _ ?g10, trivial⟩, trivial⟩⟩)⟩) (fun h2 => ⟨rfl, congrArg _ ?g11⟩)⟩
  case g1 => rfl
  case g11 =>
    have h2 := of_decide_eq_false h2
    exact (idxI_none (idxD_none fun j hj => v.2.2 j (by omega))).symm
  all_goals have h2 := of_decide_eq_true h2
  case g3 | g4 => omega
  case g5 => exact cust_dynon (gs := [(false, [.val (.bool (l.getD (↑v.1 : Int).toNat zEntry).Deleted)])]) (m := []) (k := 50040) rfl rfl rfl (conDel (l.getD (↑v.1 : Int).toNat zEntry)) (fun obs h => rfl) rfl (by omega)
  all_goals have h6 : (l.getD v.1 zEntry).Deleted = _ := h6
  case g7 => exact (idxI_some (idxD_some (k := v.1) (by omega) h6 v.2.2)).symm
  case wa => omega
  case wb =>
    intro j hj
    rcases Nat.lt_or_ge j v.1 with h | h
    · exact v.2.2 j h
    · obtain rfl : j = v.1 := by omega
      exact h6
  case g9 => show l.length - (v.1 + 1) < l.length - v.1; omega
  case g10 => show IntKind.i64.wrap ((v.1 : Int) + 1) = ((v.1 + 1 : Nat) : Int); rw [IntWalk.i64_in _ (by omega)]; rfl
theorem conCopy (l : List En) (hnl : l.length ≤ 16000000) : FnCon Try.prog 54 ([(false, [rowR 38 4 dasEntry zEntry l])]) ([(false, [rowR 38 4 dasEntry zEntry l])]) := by
  refine fn_go (p := ((E9.PlainEl l.length 4 fun i j => (dasEntry (l.getD i zEntry)).getD j (Da.val undef)) ∧ (0 + l.length ≤ 1000000000000 ∧ ((0 + l.length) * 32 ≤ 140737488355328 ∧ (false = false ∧ (DaEq (Da.row 38 4 (0 + l.length) fun i j => (dasEntry (l.getD (i - 0) zEntry)).getD j (Da.val undef)) (rowR 38 4 dasEntry zEntry l))))))) (noCalls) (noLoops) Try.func54 (by kernel_rfl) (by kernel_rfl) (by kernel_rfl) (fun _ => trivial) (by kernel_rfl) ?_
  refine ⟨?g0, ?g1, ?g2, rfl, ?g3⟩
  case g0 => exact plainE _ _
  case g3 => exact row_to (row_app row_nil row_self) (by simp)
  all_goals omega
theorem conCopied (l : List En) (hnl : l.length ≤ 16000000) : FnCon Try.prog 45 ([(true, [rowR 38 4 dasEntry zEntry l])]) ([(true, [rowR 38 4 dasEntry zEntry l])]) := by
  refine fn_go (p := ((FnCon Try.prog 54 [(false, [rowR 38 4 dasEntry zEntry l])] [(false, [rowR 38 4 dasEntry zEntry l])]) ∧ (true = true ∧ (DaEq (rowR 38 4 dasEntry zEntry l) (rowR 38 4 dasEntry zEntry l))))) (cpC l) (noLoops) Try.func45 (by kernel_rfl) (by kernel_rfl) (by kernel_rfl) (fun _ => trivial) (by kernel_rfl) ?_
  refine ⟨?g0, rfl, DaEq.refl _⟩
  case g0 => exact conCopy l hnl
end Go.Proofs.Ytoedfeacpllkeaa.C17j
