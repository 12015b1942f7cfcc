import Derived.Test.YtoedfeacpllkeaaDf17
namespace Go.Proofs.Ytoedfeacpllkeaa.C17k
open Go.ChangeShapes Go.WideShapes Go.ChangeAt Go.RowKit
open S0 S1 S9 Dm Fx M26 E0 E1 E2 E3 E4 E7 E10 E15 E16 E17 E18 E19 E20 E24 E25 E26 E28 E29 Das C17i C17j Df17
set_option linter.unusedVariables false
set_option linter.unusedSimpArgs false
set_option maxRecDepth 100000
/-- A whole entry stored in an element of a row of one's own. -/
def putEl (vs : List AV) (os : List Ob) : Option Eff := match vs with
  | [.one (.elo q k i f), .agg [.val (.int _ s), .val (.int _ h), .val (.int _ v), .val (.bool d)]] => (match os with
    | .own (.row E _ n el) :: _ => some ⟨[], .one (.val undef), [(q, .own (.row E k n (putAt el i f [.val (.int .i64 s), .val (.int .i64 h), .val (.int .i64 v), .val (.bool d)])))]⟩
    | _ => none)
  | _ => none
theorem put_ent {old : World → Prop} {id q n i : Nat} {ob : Oper} {x y : Operand} {el : Nat → Nat → Da} {E : TypeId} {o : En} (ho : ob.op = .store 38 x y) (hs : size? Try.prog 38 = some 4) :
    Cust Try.prog old id ob [.one (.elo q 4 i 0), .agg [.val (.int .i64 o.Site), .val (.int .i64 o.Handle), .val (.int .i64 o.Version), .val (.bool o.Deleted)]] [.own (.row E 4 n el)] ⟨[], .one (.val undef), [(q, .own (.row E 4 n (putAt el i 0 (dasEntry o))))]⟩ :=
  cust_putV (us := [.int .i64 o.Site, .int .i64 o.Handle, .int .i64 o.Version, .bool o.Deleted]) ho hs rfl (by decide) (by decide) (fun u hu => by
    simp only [List.mem_cons, List.not_mem_nil, or_false] at hu
    rcases hu with rfl | rfl | rfl | rfl <;> rfl)
theorem put_all (x y : En) (i : Nat) : ∀ j, j < 4 → (dasEntry y).getD j (.val undef) = putAt (fun _ j => (dasEntry x).getD j (.val undef)) i 0 (dasEntry y) i j := fun j hj => by
  rw [putAt_if]
  match j, hj with
  | 0, _ | 1, _ | 2, _ | 3, _ => simp [dasEntry]
noncomputable def mgC (l : List En) : Orc := ⟨fun d _ a => match d with
  | some 11 => some [(true, [rowR 38 4 dasEntry zEntry l])]
  | some 24 => (match a with | [(_, [.row _ _ n el]), (_, [.val (.int _ s), .val (.int _ h), _, _]), _] => some [iV (cntE (unE n el) s h : Nat), bV (hitE (unE n el) s h)] | _ => none)
  | _ => none, fun id vs os => match id with
  | 60024 => some ⟨[], .one (.val (.func (.methodOf 38 "loop.example/g00581/impl.comparePlace") #[] #[])), []⟩
  | 80040 => (match vs, os with | [_, .one (.own q), .one (.val (.int _ k)), .one (.own r)], [.own (.row _ _ n el), .own (.row _ _ _ e2)] => some ⟨[], .one (.own 80040), [(q, .gone), (80040, .own (rowR 38 4 dasEntry zEntry (insE (unE n el) k.toNat ⟨uI (e2 0 0), uI (e2 0 1), uI (e2 0 2), uB (e2 0 3)⟩)))]⟩ | _, _ => none)
  | 90008 => toIf vs
  | 90056 => outIf vs
  | 100040 => putEl vs os
  | _ => none, fun _ => True⟩
abbrev UpX (l : List En) : Type := { i : Nat // i ≤ l.length }
def mgL (l m : List En) : Loops := fun r _ => match r with
  | 3 => some ⟨UpX m, fun v sl => only [2, 3, 4, 5, 13, 14, 15] 0 (sl.set 15 (.one (.val (vI v.1)))), fun v obs => keepO [10000, 10008, 10016] obs ++ [(20016, .var 26 [.own 7]), (7, .own (rowR 38 4 dasEntry zEntry (mrgL l (m.take v.1))))], fun v => m.length - v.1⟩
  | _ => none
noncomputable def mrgC (l m : List En) : Orc := callsBy fun d _ a => match d with
  | some 8 => some [bV (vbu l)]
  | some 12 => some [bV (vbu m)]
  | some 16 => some [(true, [rowR 38 4 dasEntry zEntry l])]
  | some 24 => some [(true, [rowR 38 4 dasEntry zEntry l])]
  | some 19 => some [(true, [rowR 38 4 dasEntry zEntry (mrgL l m)])]
  | some 21 => some [bV (vbu (mrgL l m))]
  | _ => none
def chgX (l : List En) (s h : Int) (d : Bool) : List En := match delAt l s h == d with | true => l | false => mrgX l [nxtE l s h d]
def chgB (l : List En) (s h : Int) (d : Bool) : Bool := match delAt l s h == d with | true => false | false => mrgB l [nxtE l s h d]
theorem chgX_t {l : List En} {s h : Int} {d : Bool} (e : delAt l s h = d) : chgX l s h d = l ∧ chgB l s h d = false := by unfold chgX chgB; rw [e]; simp
theorem chgX_f {l : List En} {s h : Int} {d : Bool} (e : delAt l s h ≠ d) : chgX l s h d = mrgX l [nxtE l s h d] ∧ chgB l s h d = mrgB l [nxtE l s h d] := by unfold chgX chgB; rw [beq_eq_false_iff_ne.2 e]; simp
theorem chg_putX (l : List En) (s h : Int) : chgX l s h false = putX l s h ∧ chgB l s h false = putB l s h := by
  by_cases e : delAt l s h = false
  · have hb : putB l s h = false := by unfold putB; rw [e]; rfl
    rw [(chgX_t e).1, (chgX_t e).2, hb, putX_f hb]; simp
  · have e2 : delAt l s h = true := by simpa using e
    rw [(chgX_f e).1, (chgX_f e).2]
    exact ⟨(chg_put e2).2, (chg_put e2).1⟩
theorem chg_delX (l : List En) (s h : Int) : chgX l s h true = delX l s h ∧ chgB l s h true = delB l s h := by
  by_cases e : delAt l s h = true
  · have hb : delB l s h = false := by unfold delB; rw [e]; simp
    rw [(chgX_t e).1, (chgX_t e).2, hb, delX_f hb]; simp
  · have e2 : delAt l s h = false := by simpa using e
    rw [(chgX_f e).1, (chgX_f e).2]
    exact ⟨(chg_del e2).2, (chg_del e2).1⟩
noncomputable def chgC (l : List En) (s h : Int) (d : Bool) : Orc := callsBy fun t _ a => match t with
  | some 18 => some [iV (fndI l s h)]
  | some 31 => some [(true, [rowR 38 4 dasEntry zEntry l])]
  | some 42 => some [(true, [rowR 38 4 dasEntry zEntry (mrgX l [nxtE l s h d])]), bV (mrgB l [nxtE l s h d])]
  | _ => none
noncomputable def putC (l : List En) (s h : Int) : Orc := callsBy fun t _ a => match t with
  | some 11 => some [(true, [rowR 38 4 dasEntry zEntry (chgX l s h false)]), bV (chgB l s h false)]
  | _ => none
noncomputable def delC (l : List En) (s h : Int) : Orc := callsBy fun t _ a => match t with
  | some 11 => some [(true, [rowR 38 4 dasEntry zEntry (chgX l s h true)]), bV (chgB l s h true)]
  | _ => none
noncomputable def incC (l m : List En) : Orc := callsBy fun d f a => match d with
  | some 10 => some [(true, [rowR 38 4 dasEntry zEntry (mrgX l m)]), bV (mrgB l m)]
  | some 17 => some [bV (eqlE (mrgX l m) l)]
  | _ => none
noncomputable def eqC (l m : List En) : Orc := callsBy fun _ _ _ => some [bV (eqlE l m)]
noncomputable def isC (l : List En) : Orc := callsBy fun _ _ _ => some [bV (vbu l)]
noncomputable def acC (l : List En) : Orc := ⟨fun d _ _ => match d with | some 5 => some [(false, [rowR 38 4 dasEntry zEntry l])] | _ => none, fun id vs os => match id with
  | 20024 => (match vs with | [_, .one (.own q), _] => some ⟨[], .one (.own 20024), [(q, .gone), (20024, .own (rowR 38 4 dasEntry zEntry (actE l)))]⟩ | _ => none)
  | _ => none, fun _ => True⟩
theorem mrgX_len (l m : List En) : (mrgX l m).length ≤ l.length + m.length := by
  cases e : mrgB l m with
  | true => rw [mrgX_t e]; exact mrgL_len m l
  | false => rw [mrgX_f e]; omega
theorem conMg (l m : List En) (ha : Asc l) (hnl : l.length ≤ 8000000) (hnm : m.length ≤ 8000000) : FnCon Try.prog 46 ([(true, [rowR 38 4 dasEntry zEntry l]), (true, [rowR 38 4 dasEntry zEntry m])]) ([(true, [rowR 38 4 dasEntry zEntry (mrgL l m)])]) := by
  refine fn_go (p := ((FnCon Try.prog 45 [(true, [rowR 38 4 dasEntry zEntry l])] [(true, [rowR 38 4 dasEntry zEntry l])]) ∧ ((∃ x0 : UpX m, (((some 10000 = some 10000 ∧ 0 = 0) ∧ ((some 10008 = some 10008 ∧ 0 = 0) ∧ ((some 10016 = some 10016 ∧ 0 = 0) ∧ ((some 20016 = some 20016 ∧ 0 = 0) ∧ ((DaEq (rowR 38 4 dasEntry zEntry m) (rowR 38 4 dasEntry zEntry m)) ∧ (vI (↑m.length : Int) = vI (↑m.length : Int) ∧ (vI 0 = vI (↑x0.1 : Int) ∧ True))))))) ∧ ((26 = 26 ∧ (DaEq (rowR 38 4 dasEntry zEntry l) (rowR 38 4 dasEntry zEntry l))) ∧ ((26 = 26 ∧ (DaEq (rowR 38 4 dasEntry zEntry m) (rowR 38 4 dasEntry zEntry m))) ∧ ((26 = 26 ∧ Value.slice none 0 0 = Value.slice none 0 0) ∧ ((26 = 26 ∧ some 20008 = some 20008) ∧ ((DaEq (rowR 38 4 dasEntry zEntry l) (Da.row 38 4 (mrgL l (List.take x0.1 m)).length fun i j => (dasEntry ((mrgL l (List.take x0.1 m)).getD i zEntry)).getD j (Da.val undef))) ∧ True))))))) ∧ (∀ v : UpX m, bcase (decide ((↑v.1 : Int) < (↑m.length : Int))) ((0 ≤ (↑v.1 : Int) ∧ (↑v.1 : Int) < (↑m.length : Int)) ∧ ((Cust Try.prog (fun x => True) 60024 (opOf (Try.f46.body.getD Code.skip) 5 3) [] [] { need := [], val := AV.one (Sc.val (Value.func (Fn.methodOf 38 "loop.example/g00581/impl.comparePlace") { toList := [] } { toList := [] })), mem := [] }) ∧ ((FnCon Try.prog 63 [(false, [Da.row 38 4 (mrgL l (List.take v.1 m)).length fun i j => (dasEntry ((mrgL l (List.take v.1 m)).getD i zEntry)).getD j (Da.val undef)]), (true, [dI ((m.getD (↑v.1 : Int).toNat zEntry).1), dI ((m.getD (↑v.1 : Int).toNat zEntry).2), dI ((m.getD (↑v.1 : Int).toNat zEntry).3), dB ((m.getD (↑v.1 : Int).toNat zEntry).4)]), (false, [Da.val (Value.func (Fn.methodOf 38 "loop.example/g00581/impl.comparePlace") { toList := [] } { toList := [] })])] [(false, [dI ((↑(cntE (unE (mrgL l (List.take v.1 m)).length fun i j => (dasEntry ((mrgL l (List.take v.1 m)).getD i zEntry)).getD j (Da.val undef)) (m.getD (↑v.1 : Int).toNat zEntry).1 (m.getD (↑v.1 : Int).toNat zEntry).2) : Int))]), (false, [dB ((hitE (unE (mrgL l (List.take v.1 m)).length fun i j => (dasEntry ((mrgL l (List.take v.1 m)).getD i zEntry)).getD j (Da.val undef)) (m.getD (↑v.1 : Int).toNat zEntry).1 (m.getD (↑v.1 : Int).toNat zEntry).2))])]) ∧ bcase (!hitE (unE (mrgL l (List.take v.1 m)).length fun i j => (dasEntry ((mrgL l (List.take v.1 m)).getD i zEntry)).getD j (Da.val undef)) (m.getD (↑v.1 : Int).toNat zEntry).1 (m.getD (↑v.1 : Int).toNat zEntry).2) ((Cust Try.prog (fun x => True) 80040 (opOf (Try.f46.body.getD Code.skip) 7 5) [AV.one (Sc.val (Value.func (Fn.func 64) { toList := [] } { toList := [] })), AV.one (Sc.own 7), AV.one (Sc.val (vI (↑(cntE (unE (mrgL l (List.take v.1 m)).length fun i j => (dasEntry ((mrgL l (List.take v.1 m)).getD i zEntry)).getD j (Da.val undef)) (m.getD (↑v.1 : Int).toNat zEntry).1 (m.getD (↑v.1 : Int).toNat zEntry).2) : Int))), AV.one (Sc.own 80032)] [Ob.own (Da.row 38 4 (mrgL l (List.take v.1 m)).length fun i j => (dasEntry ((mrgL l (List.take v.1 m)).getD i zEntry)).getD j (Da.val undef)), Ob.own (Da.row 38 4 1 fun i j => Da.val ([vI (m.getD (↑v.1 : Int).toNat zEntry).1, vI (m.getD (↑v.1 : Int).toNat zEntry).2, vI (m.getD (↑v.1 : Int).toNat zEntry).3, Value.bool (m.getD (↑v.1 : Int).toNat zEntry).4].getD (i * 4 + j) undef))] { need := [], val := AV.one (Sc.own 80040), mem := [(7, Ob.gone), (80040, Ob.own (Da.row 38 4 (insE (unE (mrgL l (List.take v.1 m)).length fun i j => (dasEntry ((mrgL l (List.take v.1 m)).getD i zEntry)).getD j (Da.val undef)) (↑(cntE (unE (mrgL l (List.take v.1 m)).length fun i j => (dasEntry ((mrgL l (List.take v.1 m)).getD i zEntry)).getD j (Da.val undef)) (m.getD (↑v.1 : Int).toNat zEntry).1 (m.getD (↑v.1 : Int).toNat zEntry).2) : Int).toNat { Site := uI (Da.val ([vI (m.getD (↑v.1 : Int).toNat zEntry).1, vI (m.getD (↑v.1 : Int).toNat zEntry).2, vI (m.getD (↑v.1 : Int).toNat zEntry).3, Value.bool (m.getD (↑v.1 : Int).toNat zEntry).4].getD 0 undef)), Handle := uI (Da.val ([vI (m.getD (↑v.1 : Int).toNat zEntry).1, vI (m.getD (↑v.1 : Int).toNat zEntry).2, vI (m.getD (↑v.1 : Int).toNat zEntry).3, Value.bool (m.getD (↑v.1 : Int).toNat zEntry).4].getD 1 undef)), Version := uI (Da.val ([vI (m.getD (↑v.1 : Int).toNat zEntry).1, vI (m.getD (↑v.1 : Int).toNat zEntry).2, vI (m.getD (↑v.1 : Int).toNat zEntry).3, Value.bool (m.getD (↑v.1 : Int).toNat zEntry).4].getD 2 undef)), Deleted := uB (Da.val ([vI (m.getD (↑v.1 : Int).toNat zEntry).1, vI (m.getD (↑v.1 : Int).toNat zEntry).2, vI (m.getD (↑v.1 : Int).toNat zEntry).3, Value.bool (m.getD (↑v.1 : Int).toNat zEntry).4].getD 3 undef)) }).length fun i j => (dasEntry ((insE (unE (mrgL l (List.take v.1 m)).length fun i j => (dasEntry ((mrgL l (List.take v.1 m)).getD i zEntry)).getD j (Da.val undef)) (↑(cntE (unE (mrgL l (List.take v.1 m)).length fun i j => (dasEntry ((mrgL l (List.take v.1 m)).getD i zEntry)).getD j (Da.val undef)) (m.getD (↑v.1 : Int).toNat zEntry).1 (m.getD (↑v.1 : Int).toNat zEntry).2) : Int).toNat { Site := uI (Da.val ([vI (m.getD (↑v.1 : Int).toNat zEntry).1, vI (m.getD (↑v.1 : Int).toNat zEntry).2, vI (m.getD (↑v.1 : Int).toNat zEntry).3, Value.bool (m.getD (↑v.1 : Int).toNat zEntry).4].getD 0 undef)), Handle := uI (Da.val ([vI (m.getD (↑v.1 : Int).toNat zEntry).1, vI (m.getD (↑v.1 : Int).toNat zEntry).2, vI (m.getD (↑v.1 : Int).toNat zEntry).3, Value.bool (m.getD (↑v.1 : Int).toNat zEntry).4].getD 1 undef)), Version := uI (Da.val ([vI (m.getD (↑v.1 : Int).toNat zEntry).1, vI (m.getD (↑v.1 : Int).toNat zEntry).2, vI (m.getD (↑v.1 : Int).toNat zEntry).3, Value.bool (m.getD (↑v.1 : Int).toNat zEntry).4].getD 2 undef)), Deleted := uB (Da.val ([vI (m.getD (↑v.1 : Int).toNat zEntry).1, vI (m.getD (↑v.1 : Int).toNat zEntry).2, vI (m.getD (↑v.1 : Int).toNat zEntry).3, Value.bool (m.getD (↑v.1 : Int).toNat zEntry).4].getD 3 undef)) }).getD i zEntry)).getD j (Da.val undef)))] }) ∧ (∃ v' : UpX m, (m.length.sub v'.1 < m.length.sub v.1 ∧ (((some 10000 = some 10000 ∧ 0 = 0) ∧ ((some 10008 = some 10008 ∧ 0 = 0) ∧ ((some 10016 = some 10016 ∧ 0 = 0) ∧ ((some 20016 = some 20016 ∧ 0 = 0) ∧ ((DaEq (rowR 38 4 dasEntry zEntry m) (rowR 38 4 dasEntry zEntry m)) ∧ (vI (↑m.length : Int) = vI (↑m.length : Int) ∧ (vI (IntKind.i64.wrap ((↑v.1 : Int) + 1)) = vI (↑v'.1 : Int) ∧ True))))))) ∧ ((26 = 26 ∧ (DaEq (rowR 38 4 dasEntry zEntry l) (rowR 38 4 dasEntry zEntry l))) ∧ ((26 = 26 ∧ (DaEq (rowR 38 4 dasEntry zEntry m) (rowR 38 4 dasEntry zEntry m))) ∧ ((26 = 26 ∧ Value.slice none 0 0 = Value.slice none 0 0) ∧ ((26 = 26 ∧ some 80040 = some 80040) ∧ ((DaEq (Da.row 38 4 (insE (unE (mrgL l (List.take v.1 m)).length fun i j => (dasEntry ((mrgL l (List.take v.1 m)).getD i zEntry)).getD j (Da.val undef)) (↑(cntE (unE (mrgL l (List.take v.1 m)).length fun i j => (dasEntry ((mrgL l (List.take v.1 m)).getD i zEntry)).getD j (Da.val undef)) (m.getD (↑v.1 : Int).toNat zEntry).1 (m.getD (↑v.1 : Int).toNat zEntry).2) : Int).toNat { Site := uI (Da.val ([vI (m.getD (↑v.1 : Int).toNat zEntry).1, vI (m.getD (↑v.1 : Int).toNat zEntry).2, vI (m.getD (↑v.1 : Int).toNat zEntry).3, Value.bool (m.getD (↑v.1 : Int).toNat zEntry).4].getD 0 undef)), Handle := uI (Da.val ([vI (m.getD (↑v.1 : Int).toNat zEntry).1, vI (m.getD (↑v.1 : Int).toNat zEntry).2, vI (m.getD (↑v.1 : Int).toNat zEntry).3, Value.bool (m.getD (↑v.1 : Int).toNat zEntry).4].getD 1 undef)), Version := uI (Da.val ([vI (m.getD (↑v.1 : Int).toNat zEntry).1, vI (m.getD (↑v.1 : Int).toNat zEntry).2, vI (m.getD (↑v.1 : Int).toNat zEntry).3, Value.bool (m.getD (↑v.1 : Int).toNat zEntry).4].getD 2 undef)), Deleted := uB (Da.val ([vI (m.getD (↑v.1 : Int).toNat zEntry).1, vI (m.getD (↑v.1 : Int).toNat zEntry).2, vI (m.getD (↑v.1 : Int).toNat zEntry).3, Value.bool (m.getD (↑v.1 : Int).toNat zEntry).4].getD 3 undef)) }).length fun i j => (dasEntry ((insE (unE (mrgL l (List.take v.1 m)).length fun i j => (dasEntry ((mrgL l (List.take v.1 m)).getD i zEntry)).getD j (Da.val undef)) (↑(cntE (unE (mrgL l (List.take v.1 m)).length fun i j => (dasEntry ((mrgL l (List.take v.1 m)).getD i zEntry)).getD j (Da.val undef)) (m.getD (↑v.1 : Int).toNat zEntry).1 (m.getD (↑v.1 : Int).toNat zEntry).2) : Int).toNat { Site := uI (Da.val ([vI (m.getD (↑v.1 : Int).toNat zEntry).1, vI (m.getD (↑v.1 : Int).toNat zEntry).2, vI (m.getD (↑v.1 : Int).toNat zEntry).3, Value.bool (m.getD (↑v.1 : Int).toNat zEntry).4].getD 0 undef)), Handle := uI (Da.val ([vI (m.getD (↑v.1 : Int).toNat zEntry).1, vI (m.getD (↑v.1 : Int).toNat zEntry).2, vI (m.getD (↑v.1 : Int).toNat zEntry).3, Value.bool (m.getD (↑v.1 : Int).toNat zEntry).4].getD 1 undef)), Version := uI (Da.val ([vI (m.getD (↑v.1 : Int).toNat zEntry).1, vI (m.getD (↑v.1 : Int).toNat zEntry).2, vI (m.getD (↑v.1 : Int).toNat zEntry).3, Value.bool (m.getD (↑v.1 : Int).toNat zEntry).4].getD 2 undef)), Deleted := uB (Da.val ([vI (m.getD (↑v.1 : Int).toNat zEntry).1, vI (m.getD (↑v.1 : Int).toNat zEntry).2, vI (m.getD (↑v.1 : Int).toNat zEntry).3, Value.bool (m.getD (↑v.1 : Int).toNat zEntry).4].getD 3 undef)) }).getD i zEntry)).getD j (Da.val undef)) (Da.row 38 4 (mrgL l (List.take v'.1 m)).length fun i j => (dasEntry ((mrgL l (List.take v'.1 m)).getD i zEntry)).getD j (Da.val undef))) ∧ True))))))))) ((Cust Try.prog (fun x => True) 90008 (opOf (Try.f46.body.getD Code.skip) 8 1) [AV.agg [Sc.val (vI (m.getD (↑v.1 : Int).toNat zEntry).1), Sc.val (vI (m.getD (↑v.1 : Int).toNat zEntry).2), Sc.val (vI (m.getD (↑v.1 : Int).toNat zEntry).3), Sc.val (Value.bool (m.getD (↑v.1 : Int).toNat zEntry).4)]] [] { need := [], val := AV.one (Sc.val (Value.iface 38 (Value.agg { toList := [vI (m.getD (↑v.1 : Int).toNat zEntry).1, vI (m.getD (↑v.1 : Int).toNat zEntry).2, vI (m.getD (↑v.1 : Int).toNat zEntry).3, Value.bool (m.getD (↑v.1 : Int).toNat zEntry).4] }))), mem := [] }) ∧ (((0 ≤ (↑(cntE (unE (mrgL l (List.take v.1 m)).length fun i j => (dasEntry ((mrgL l (List.take v.1 m)).getD i zEntry)).getD j (Da.val undef)) (m.getD (↑v.1 : Int).toNat zEntry).1 (m.getD (↑v.1 : Int).toNat zEntry).2) : Int)) ∧ ((↑(cntE (unE (mrgL l (List.take v.1 m)).length fun i j => (dasEntry ((mrgL l (List.take v.1 m)).getD i zEntry)).getD j (Da.val undef)) (m.getD (↑v.1 : Int).toNat zEntry).1 (m.getD (↑v.1 : Int).toNat zEntry).2) : Int) < (↑(mrgL l (List.take v.1 m)).length : Int))) ∧ ((Cust Try.prog (fun x => True) 90056 (opOf (Try.f46.body.getD Code.skip) 8 7) [AV.one (Sc.val (Value.iface 38 (Value.agg { toList := [vI (m.getD (↑v.1 : Int).toNat zEntry).1, vI (m.getD (↑v.1 : Int).toNat zEntry).2, vI (m.getD (↑v.1 : Int).toNat zEntry).3, Value.bool (m.getD (↑v.1 : Int).toNat zEntry).4] }))), AV.agg [Sc.val (vI ((mrgL l (List.take v.1 m)).getD (↑(cntE (unE (mrgL l (List.take v.1 m)).length fun i j => (dasEntry ((mrgL l (List.take v.1 m)).getD i zEntry)).getD j (Da.val undef)) (m.getD (↑v.1 : Int).toNat zEntry).1 (m.getD (↑v.1 : Int).toNat zEntry).2) : Int).toNat zEntry).1), Sc.val (vI ((mrgL l (List.take v.1 m)).getD (↑(cntE (unE (mrgL l (List.take v.1 m)).length fun i j => (dasEntry ((mrgL l (List.take v.1 m)).getD i zEntry)).getD j (Da.val undef)) (m.getD (↑v.1 : Int).toNat zEntry).1 (m.getD (↑v.1 : Int).toNat zEntry).2) : Int).toNat zEntry).2), Sc.val (vI ((mrgL l (List.take v.1 m)).getD (↑(cntE (unE (mrgL l (List.take v.1 m)).length fun i j => (dasEntry ((mrgL l (List.take v.1 m)).getD i zEntry)).getD j (Da.val undef)) (m.getD (↑v.1 : Int).toNat zEntry).1 (m.getD (↑v.1 : Int).toNat zEntry).2) : Int).toNat zEntry).3), Sc.val (Value.bool ((mrgL l (List.take v.1 m)).getD (↑(cntE (unE (mrgL l (List.take v.1 m)).length fun i j => (dasEntry ((mrgL l (List.take v.1 m)).getD i zEntry)).getD j (Da.val undef)) (m.getD (↑v.1 : Int).toNat zEntry).1 (m.getD (↑v.1 : Int).toNat zEntry).2) : Int).toNat zEntry).4)]] [] { need := [], val := AV.one (Sc.val (Value.bool (newE { Site := (m.getD (↑v.1 : Int).toNat zEntry).1, Handle := (m.getD (↑v.1 : Int).toNat zEntry).2, Version := (m.getD (↑v.1 : Int).toNat zEntry).3, Deleted := (m.getD (↑v.1 : Int).toNat zEntry).4 } { Site := ((mrgL l (List.take v.1 m)).getD (↑(cntE (unE (mrgL l (List.take v.1 m)).length fun i j => (dasEntry ((mrgL l (List.take v.1 m)).getD i zEntry)).getD j (Da.val undef)) (m.getD (↑v.1 : Int).toNat zEntry).1 (m.getD (↑v.1 : Int).toNat zEntry).2) : Int).toNat zEntry).1, Handle := ((mrgL l (List.take v.1 m)).getD (↑(cntE (unE (mrgL l (List.take v.1 m)).length fun i j => (dasEntry ((mrgL l (List.take v.1 m)).getD i zEntry)).getD j (Da.val undef)) (m.getD (↑v.1 : Int).toNat zEntry).1 (m.getD (↑v.1 : Int).toNat zEntry).2) : Int).toNat zEntry).2, Version := ((mrgL l (List.take v.1 m)).getD (↑(cntE (unE (mrgL l (List.take v.1 m)).length fun i j => (dasEntry ((mrgL l (List.take v.1 m)).getD i zEntry)).getD j (Da.val undef)) (m.getD (↑v.1 : Int).toNat zEntry).1 (m.getD (↑v.1 : Int).toNat zEntry).2) : Int).toNat zEntry).3, Deleted := ((mrgL l (List.take v.1 m)).getD (↑(cntE (unE (mrgL l (List.take v.1 m)).length fun i j => (dasEntry ((mrgL l (List.take v.1 m)).getD i zEntry)).getD j (Da.val undef)) (m.getD (↑v.1 : Int).toNat zEntry).1 (m.getD (↑v.1 : Int).toNat zEntry).2) : Int).toNat zEntry).4 }))), mem := [] }) ∧ bcase (newE { Site := (m.getD (↑v.1 : Int).toNat zEntry).1, Handle := (m.getD (↑v.1 : Int).toNat zEntry).2, Version := (m.getD (↑v.1 : Int).toNat zEntry).3, Deleted := (m.getD (↑v.1 : Int).toNat zEntry).4 } { Site := ((mrgL l (List.take v.1 m)).getD (↑(cntE (unE (mrgL l (List.take v.1 m)).length fun i j => (dasEntry ((mrgL l (List.take v.1 m)).getD i zEntry)).getD j (Da.val undef)) (m.getD (↑v.1 : Int).toNat zEntry).1 (m.getD (↑v.1 : Int).toNat zEntry).2) : Int).toNat zEntry).1, Handle := ((mrgL l (List.take v.1 m)).getD (↑(cntE (unE (mrgL l (List.take v.1 m)).length fun i j => (dasEntry ((mrgL l (List.take v.1 m)).getD i zEntry)).getD j (Da.val undef)) (m.getD (↑v.1 : Int).toNat zEntry).1 (m.getD (↑v.1 : Int).toNat zEntry).2) : Int).toNat zEntry).2, Version := ((mrgL l (List.take v.1 m)).getD (↑(cntE (unE (mrgL l (List.take v.1 m)).length fun i j => (dasEntry ((mrgL l (List.take v.1 m)).getD i zEntry)).getD j (Da.val undef)) (m.getD (↑v.1 : Int).toNat zEntry).1 (m.getD (↑v.1 : Int).toNat zEntry).2) : Int).toNat zEntry).3, Deleted := ((mrgL l (List.take v.1 m)).getD (↑(cntE (unE (mrgL l (List.take v.1 m)).length fun i j => (dasEntry ((mrgL l (List.take v.1 m)).getD i zEntry)).getD j (Da.val undef)) (m.getD (↑v.1 : Int).toNat zEntry).1 (m.getD (↑v.1 : Int).toNat zEntry).2) : Int).toNat zEntry).4 }) (((0 ≤ (↑(cntE (unE (mrgL l (List.take v.1 m)).length fun i j => (dasEntry ((mrgL l (List.take v.1 m)).getD i zEntry)).getD j (Da.val undef)) (m.getD (↑v.1 : Int).toNat zEntry).1 (m.getD (↑v.1 : Int).toNat zEntry).2) : Int)) ∧ ((↑(cntE (unE (mrgL l (List.take v.1 m)).length fun i j => (dasEntry ((mrgL l (List.take v.1 m)).getD i zEntry)).getD j (Da.val undef)) (m.getD (↑v.1 : Int).toNat zEntry).1 (m.getD (↑v.1 : Int).toNat zEntry).2) : Int) < (↑(mrgL l (List.take v.1 m)).length : Int))) ∧ ((Cust Try.prog (fun x => True) 100040 (opOf (Try.f46.body.getD Code.skip) 9 5) [AV.one (Sc.elo 7 4 (↑(cntE (unE (mrgL l (List.take v.1 m)).length fun i j => (dasEntry ((mrgL l (List.take v.1 m)).getD i zEntry)).getD j (Da.val undef)) (m.getD (↑v.1 : Int).toNat zEntry).1 (m.getD (↑v.1 : Int).toNat zEntry).2) : Int).toNat 0), AV.agg [Sc.val (vI (m.getD (↑v.1 : Int).toNat zEntry).1), Sc.val (vI (m.getD (↑v.1 : Int).toNat zEntry).2), Sc.val (vI (m.getD (↑v.1 : Int).toNat zEntry).3), Sc.val (Value.bool (m.getD (↑v.1 : Int).toNat zEntry).4)]] [Ob.own (Da.row 38 4 (mrgL l (List.take v.1 m)).length fun i j => (dasEntry ((mrgL l (List.take v.1 m)).getD i zEntry)).getD j (Da.val undef))]
  { need := [], val := AV.one (Sc.val undef),
    mem :=
      [(7,
          Ob.own
            (Da.row 38 4 (mrgL l (List.take v.1 m)).length fun a b =>
              match a.beq (↑(cntE (unE (mrgL l (List.take v.1 m)).length fun i j => (dasEntry ((mrgL l (List.take v.1 m)).getD i zEntry)).getD j (Da.val undef)) (m.getD (↑v.1 : Int).toNat zEntry).1 (m.getD (↑v.1 : Int).toNat zEntry).2) : Int).toNat with
              | true =>
                match (0 + [dI ((m.getD (↑v.1 : Int).toNat zEntry).1), dI ((m.getD (↑v.1 : Int).toNat zEntry).2), dI ((m.getD (↑v.1 : Int).toNat zEntry).3), dB ((m.getD (↑v.1 : Int).toNat zEntry).4)].length).ble b with
                | true => (dasEntry ((mrgL l (List.take v.1 m)).getD a zEntry)).getD b (Da.val undef)
                | false => [dI ((m.getD (↑v.1 : Int).toNat zEntry).1), dI ((m.getD (↑v.1 : Int).toNat zEntry).2), dI ((m.getD (↑v.1 : Int).toNat zEntry).3), dB ((m.getD (↑v.1 : Int).toNat zEntry).4)].getD (b - 0) (Da.val undef)
              | false => (dasEntry ((mrgL l (List.take v.1 m)).getD a zEntry)).getD b (Da.val undef)))] }) ∧ (∃ v' : UpX m, (m.length.sub v'.1 < m.length.sub v.1 ∧ (((some 10000 = some 10000 ∧ 0 = 0) ∧ ((some 10008 = some 10008 ∧ 0 = 0) ∧ ((some 10016 = some 10016 ∧ 0 = 0) ∧ ((some 20016 = some 20016 ∧ 0 = 0) ∧ ((DaEq (rowR 38 4 dasEntry zEntry m) (rowR 38 4 dasEntry zEntry m)) ∧ (vI (↑m.length : Int) = vI (↑m.length : Int) ∧ (vI (IntKind.i64.wrap ((↑v.1 : Int) + 1)) = vI (↑v'.1 : Int) ∧ True))))))) ∧ ((26 = 26 ∧ (DaEq (rowR 38 4 dasEntry zEntry l) (rowR 38 4 dasEntry zEntry l))) ∧ ((26 = 26 ∧ (DaEq (rowR 38 4 dasEntry zEntry m) (rowR 38 4 dasEntry zEntry m))) ∧ ((26 = 26 ∧ Value.slice none 0 0 = Value.slice none 0 0) ∧ ((26 = 26 ∧ some 7 = some 7) ∧ ((DaEq
  (Da.row 38 4 (mrgL l (List.take v.1 m)).length fun a b =>
    match a.beq (↑(cntE (unE (mrgL l (List.take v.1 m)).length fun i j => (dasEntry ((mrgL l (List.take v.1 m)).getD i zEntry)).getD j (Da.val undef)) (m.getD (↑v.1 : Int).toNat zEntry).1 (m.getD (↑v.1 : Int).toNat zEntry).2) : Int).toNat with
    | true =>
      match (0 + [dI ((m.getD (↑v.1 : Int).toNat zEntry).1), dI ((m.getD (↑v.1 : Int).toNat zEntry).2), dI ((m.getD (↑v.1 : Int).toNat zEntry).3), dB ((m.getD (↑v.1 : Int).toNat zEntry).4)].length).ble b with
      | true => (dasEntry ((mrgL l (List.take v.1 m)).getD a zEntry)).getD b (Da.val undef)
      | false => [dI ((m.getD (↑v.1 : Int).toNat zEntry).1), dI ((m.getD (↑v.1 : Int).toNat zEntry).2), dI ((m.getD (↑v.1 : Int).toNat zEntry).3), dB ((m.getD (↑v.1 : Int).toNat zEntry).4)].getD (b - 0) (Da.val undef)
    | false => (dasEntry ((mrgL l (List.take v.1 m)).getD a zEntry)).getD b (Da.val undef))
  (Da.row 38 4 (mrgL l (List.take v'.1 m)).length fun i j => (dasEntry ((mrgL l (List.take v'.1 m)).getD i zEntry)).getD j (Da.val undef))) ∧ True)))))))))) (∃ v' : UpX m, (m.length.sub v'.1 < m.length.sub v.1 ∧ (((some 10000 = some 10000 ∧ 0 = 0) ∧ ((some 10008 = some 10008 ∧ 0 = 0) ∧ ((some 10016 = some 10016 ∧ 0 = 0) ∧ ((some 20016 = some 20016 ∧ 0 = 0) ∧ ((DaEq (rowR 38 4 dasEntry zEntry m) (rowR 38 4 dasEntry zEntry m)) ∧ (vI (↑m.length : Int) = vI (↑m.length : Int) ∧ (vI (IntKind.i64.wrap ((↑v.1 : Int) + 1)) = vI (↑v'.1 : Int) ∧ True))))))) ∧ ((26 = 26 ∧ (DaEq (rowR 38 4 dasEntry zEntry l) (rowR 38 4 dasEntry zEntry l))) ∧ ((26 = 26 ∧ (DaEq (rowR 38 4 dasEntry zEntry m) (rowR 38 4 dasEntry zEntry m))) ∧ ((26 = 26 ∧ Value.slice none 0 0 = Value.slice none 0 0) ∧ ((26 = 26 ∧ some 7 = some 7) ∧ ((DaEq (Da.row 38 4 (mrgL l (List.take v.1 m)).length fun i j => (dasEntry ((mrgL l (List.take v.1 m)).getD i zEntry)).getD j (Da.val undef)) (Da.row 38 4 (mrgL l (List.take v'.1 m)).length fun i j => (dasEntry ((mrgL l (List.take v'.1 m)).getD i zEntry)).getD j (Da.val undef))) ∧ True)))))))))))))) (true = true ∧ (DaEq (Da.row 38 4 (mrgL l (List.take v.1 m)).length fun i j => (dasEntry ((mrgL l (List.take v.1 m)).getD i zEntry)).getD j (Da.val undef)) (Da.row 38 4 (mrgL l m).length fun i j => (dasEntry ((mrgL l m).getD i zEntry)).getD j (Da.val undef)))))))) (mgC l) (mgL l m) Try.func46 (by kernel_rfl) (by kernel_rfl) (by kernel_rfl) (fun _ => trivial) (by kernel_rfl) ?_
  refine ⟨?g0, ⟨⟨0, Nat.zero_le _⟩, ⟨⟨⟨rfl, rfl⟩, ⟨rfl, rfl⟩, ⟨rfl, rfl⟩, ⟨rfl, rfl⟩, DaEq.refl _, rfl, congrArg _ ?g2, trivial⟩, ⟨rfl, DaEq.refl _⟩, ⟨rfl, DaEq.refl _⟩, ⟨rfl, rfl⟩, ⟨rfl, rfl⟩, ?g3, trivial⟩⟩, fun v => bcase_intro (fun h4 => ⟨⟨?g5, ?g6⟩, ?g7, ?g8, bcase_intro (fun h9 => ⟨?g10, ⟨⟨v.1 + 1, ?wa⟩, ⟨?g12, ⟨⟨rfl, rfl⟩, ⟨rfl, rfl⟩, ⟨rfl, rfl⟩, ⟨rfl, rfl⟩, DaEq.refl _, rfl, congrArg _ ?g13, trivial⟩, ⟨rfl, DaEq.refl _⟩, ⟨rfl, DaEq.refl _⟩, ⟨rfl, rfl⟩, ⟨rfl, rfl⟩, ?g14, trivial⟩⟩⟩) (fun h9 => ⟨?g15, ⟨?g16, ?g17⟩, ?g18, bcase_intro (fun h19 => ⟨⟨?g20, ?g21⟩, ?g22, ⟨⟨v.1 + 1, ?wb⟩, ⟨?g24, ⟨⟨rfl, rfl⟩, ⟨rfl, rfl⟩, ⟨rfl, rfl⟩, ⟨rfl, rfl⟩, DaEq.refl _, rfl, congrArg _ ?g25, trivial⟩, ⟨rfl, DaEq.refl _⟩, ⟨rfl, DaEq.refl _⟩, ⟨rfl, rfl⟩, ⟨rfl, rfl⟩, ?g26, trivial⟩⟩⟩) (fun h19 => ⟨⟨v.1 + 1, ?wc⟩, ⟨?g28, ⟨⟨rfl, rfl⟩, ⟨rfl, rfl⟩, ⟨rfl, rfl⟩, ⟨rfl, rfl⟩, DaEq.refl _, rfl, congrArg _ ?g29, trivial⟩, ⟨rfl, DaEq.refl _⟩, ⟨rfl, DaEq.refl _⟩, ⟨rfl, rfl⟩, ⟨rfl, rfl⟩, ?g30, trivial⟩⟩)⟩)⟩) (fun h4 => ⟨rfl, ?g31⟩)⟩
  case g0 => exact conCopied l (by omega)
  case g2 => rfl
  case g3 => exact row_to row_self rfl
  all_goals
    have hlen : (mrgL l (m.take v.1)).length ≤ 16000000 := by have := mrgL_len (m.take v.1) l; rw [List.length_take] at this; omega
    have hasc : Asc (mrgL l (m.take v.1)) := asc_mrgL _ ha
  case g31 =>
    have h4 := of_decide_eq_false h4
    exact row_to row_self (by rw [List.take_of_length_le (show m.length ≤ v.1 by omega)])
  all_goals have h4 := of_decide_eq_true h4
  case g5 | g6 => omega
  case g7 => exact cust_methval rfl
  case g8 => rw [unE_self]; exact conBs _ (m.getD _ zEntry) hasc (by omega)
  case g12 | g24 | g28 => show m.length - (v.1 + 1) < m.length - v.1; omega
  case g13 | g25 | g29 => show IntKind.i64.wrap ((v.1 : Int) + 1) = ((v.1 + 1 : Nat) : Int); rw [IntWalk.i64_in _ (by omega)]; rfl
  case wa | wb | wc => omega
  case g15 => exact cust_toIf (m.getD _ zEntry) rfl
  case g16 | g20 => exact Int.natCast_nonneg _
  case g18 => exact cust_outI (m.getD _ zEntry) ((mrgL l (m.take v.1)).getD _ zEntry) rfl rfl
  case g22 => exact put_ent rfl (by kernel_rfl)
  all_goals simp only [unE_self, Int.toNat_natCast] at *
  all_goals have hmt := mrgL_take (a := l) (b := m) (i := v.1) (by omega)
  case g10 => exact cust_insert (l := mrgL l (m.take v.1)) (k := cntE (mrgL l (m.take v.1)) (m.getD v.1 zEntry).Site (m.getD v.1 zEntry).Handle) (x := m.getD v.1 zEntry) rfl rfl rfl rfl (DaEq.dc (row_to (row_one (x := m.getD v.1 zEntry) fun j hj => by
      match j, hj with
      | 0, _ | 1, _ | 2, _ | 3, _ => rfl) rfl)) rfl (cntE_le _ _ _) hlen (by decide)
  case g14 =>
    have e := hit_none hasc (by simpa using h9)
    exact row_to row_self (hmt.trans ((stpE_none e).trans (setE_none e))).symm
  all_goals have e := hit_some (s := (m.getD v.1 zEntry).Site) (h := (m.getD v.1 zEntry).Handle) hasc (by simpa using h9)
  case g17 | g21 => have := (fndE_at e).1; omega
  case g26 =>
    have h19 : newE (m.getD v.1 zEntry) ((mrgL l (m.take v.1)).getD _ zEntry) = true := h19
    exact row_to (row_putAt (i := cntE (mrgL l (m.take v.1)) (m.getD v.1 zEntry).Site (m.getD v.1 zEntry).Handle) (f := 0) (ds := dasEntry (m.getD v.1 zEntry)) (y := m.getD v.1 zEntry) row_self fun j hj => put_all _ _ _ j hj) (hmt.trans ((stpE_t e h19).trans (setE_some e))).symm
  case g30 =>
    have h19 : newE (m.getD v.1 zEntry) ((mrgL l (m.take v.1)).getD _ zEntry) = false := h19
    exact row_to row_self (hmt.trans (stpE_f e h19)).symm
theorem conMrg (l m : List En) (hnl : l.length ≤ 8000000) (hnm : m.length ≤ 8000000) : FnCon Try.prog 15 ([(true, [rowR 38 4 dasEntry zEntry l]), (true, [rowR 38 4 dasEntry zEntry m])]) ([(true, [rowR 38 4 dasEntry zEntry (mrgX l m)]), bV (mrgB l m)]) := by
  refine fn_go (p := bcase (!vbu l) ((FnCon Try.prog 44 [(true, [rowR 38 4 dasEntry zEntry l])] [(false, [dB ((vbu l))])]) ∧ ((!vbu l) = true ∧ ((FnCon Try.prog 45 [(true, [rowR 38 4 dasEntry zEntry l])] [(true, [rowR 38 4 dasEntry zEntry l])]) ∧ ((true = true ∧ (DaEq (rowR 38 4 dasEntry zEntry l) (Da.row 38 4 (mrgX l m).length fun i j => (dasEntry ((mrgX l m).getD i zEntry)).getD j (Da.val undef)))) ∧ (false = false ∧ Value.bool false = Value.bool (mrgB l m)))))) ((FnCon Try.prog 44 [(true, [rowR 38 4 dasEntry zEntry l])] [(false, [dB ((vbu l))])]) ∧ ((!vbu l) = false ∧ ((FnCon Try.prog 44 [(true, [rowR 38 4 dasEntry zEntry m])] [(false, [dB ((vbu m))])]) ∧ bcase (!vbu m) ((FnCon Try.prog 45 [(true, [rowR 38 4 dasEntry zEntry l])] [(true, [rowR 38 4 dasEntry zEntry l])]) ∧ ((true = true ∧ (DaEq (rowR 38 4 dasEntry zEntry l) (Da.row 38 4 (mrgX l m).length fun i j => (dasEntry ((mrgX l m).getD i zEntry)).getD j (Da.val undef)))) ∧ (false = false ∧ Value.bool false = Value.bool (mrgB l m)))) ((FnCon Try.prog 46 [(true, [rowR 38 4 dasEntry zEntry l]), (true, [rowR 38 4 dasEntry zEntry m])] [(true, [Da.row 38 4 (mrgL l m).length fun i j => (dasEntry ((mrgL l m).getD i zEntry)).getD j (Da.val undef)])]) ∧ ((FnCon Try.prog 44 [(true, [Da.row 38 4 (mrgL l m).length fun i j => (dasEntry ((mrgL l m).getD i zEntry)).getD j (Da.val undef)])] [(false, [dB ((vbu (mrgL l m)))])]) ∧ bcase (!vbu (mrgL l m)) ((FnCon Try.prog 45 [(true, [rowR 38 4 dasEntry zEntry l])] [(true, [rowR 38 4 dasEntry zEntry l])]) ∧ ((true = true ∧ (DaEq (rowR 38 4 dasEntry zEntry l) (Da.row 38 4 (mrgX l m).length fun i j => (dasEntry ((mrgX l m).getD i zEntry)).getD j (Da.val undef)))) ∧ (false = false ∧ Value.bool false = Value.bool (mrgB l m)))) ((true = true ∧ (DaEq (Da.row 38 4 (mrgL l m).length fun i j => (dasEntry ((mrgL l m).getD i zEntry)).getD j (Da.val undef)) (Da.row 38 4 (mrgX l m).length fun i j => (dasEntry ((mrgX l m).getD i zEntry)).getD j (Da.val undef)))) ∧ (false = false ∧ Value.bool true = Value.bool (mrgB l m))))))))) (mrgC l m) (noLoops) Try.func15 (by kernel_rfl) (by kernel_rfl) (by kernel_rfl) (fun _ => trivial) (by kernel_rfl) ?_
  refine bcase_intro (fun h0 => ⟨?g1, h0, ?g2, ⟨rfl, ?g3⟩, rfl, congrArg _ ?g4⟩) (fun h0 => ⟨?g5, h0, ?g6, bcase_intro (fun h7 => ⟨?g8, ⟨rfl, ?g9⟩, rfl, congrArg _ ?g10⟩) (fun h7 => ⟨?g11, ?g12, bcase_intro (fun h13 => ⟨?g14, ⟨rfl, ?g15⟩, rfl, congrArg _ ?g16⟩) (fun h13 => ⟨⟨rfl, ?g17⟩, rfl, congrArg _ ?g18⟩)⟩)⟩)
  case g1 | g5 => exact conIs l (by omega)
  case g6 => exact conIs m (by omega)
  case g2 | g8 | g14 => exact conCopied l (by omega)
  case g3 | g4 =>
    have hb := mrgB_1 (b := m) (show vbu l = false by simpa using h0)
    first | exact hb.symm | exact row_to row_self (mrgX_f hb).symm
  case g9 | g10 =>
    have hb := mrgB_2 (a := l) (show vbu m = false by simpa using h7)
    first | exact hb.symm | exact row_to row_self (mrgX_f hb).symm
  all_goals have hv : vbu l = true := by simpa using h0
  case g11 => exact conMg l m (vbu_is hv).1 hnl hnm
  case g12 => exact conIs _ (by have := mrgL_len m l; omega)
  case g15 | g16 =>
    have hb := mrgB_3 (show vbu (mrgL l m) = false by simpa using h13)
    first | exact hb.symm | exact row_to row_self (mrgX_f hb).symm
  all_goals have hb := mrgB_t hv (show vbu m = true by simpa using h7) (show vbu (mrgL l m) = true by simpa using h13)
  case g17 => exact row_to row_self (mrgX_t hb).symm
  case g18 => exact hb.symm
theorem conChg (l : List En) (s h : Int) (d : Bool) (hnl : l.length ≤ 8000000) : FnCon Try.prog 49 ([(true, [rowR 38 4 dasEntry zEntry l]), iV s, iV h, bV d]) ([(true, [rowR 38 4 dasEntry zEntry (chgX l s h d)]), bV (chgB l s h d)]) := by
  refine fn_go (p := ((FnCon Try.prog 22 [(true, [rowR 38 4 dasEntry zEntry l]), (false, [dI (s)]), (false, [dI (h)])] [(false, [dI ((fndI l s h))])]) ∧ bcase (decide (fndI l s h ≥ 0)) ((0 ≤ fndI l s h ∧ fndI l s h < (↑l.length : Int)) ∧ bcase ((l.getD (fndI l s h).toNat zEntry).4 == d) ((FnCon Try.prog 45 [(true, [rowR 38 4 dasEntry zEntry l])] [(true, [rowR 38 4 dasEntry zEntry l])]) ∧ ((true = true ∧ (DaEq (rowR 38 4 dasEntry zEntry l) (Da.row 38 4 (chgX l s h d).length fun i j => (dasEntry ((chgX l s h d).getD i zEntry)).getD j (Da.val undef)))) ∧ (false = false ∧ Value.bool false = Value.bool (chgB l s h d)))) ((FnCon Try.prog 15 [(true, [rowR 38 4 dasEntry zEntry l]), (true, [Da.row 38 4 1 fun i j => Da.val ([vI (l.getD (fndI l s h).toNat zEntry).1, vI (l.getD (fndI l s h).toNat zEntry).2, vI (IntKind.i64.wrap ((l.getD (fndI l s h).toNat zEntry).3 + 1)), Value.bool d].getD (i * 4 + j) undef)])] [(true, [Da.row 38 4 (mrgX l [nxtE l s h d]).length fun i j => (dasEntry ((mrgX l [nxtE l s h d]).getD i zEntry)).getD j (Da.val undef)]), (false, [dB ((mrgB l [nxtE l s h d]))])]) ∧ ((true = true ∧ (DaEq (Da.row 38 4 (mrgX l [nxtE l s h d]).length fun i j => (dasEntry ((mrgX l [nxtE l s h d]).getD i zEntry)).getD j (Da.val undef)) (Da.row 38 4 (chgX l s h d).length fun i j => (dasEntry ((chgX l s h d).getD i zEntry)).getD j (Da.val undef)))) ∧ (false = false ∧ Value.bool (mrgB l [nxtE l s h d]) = Value.bool (chgB l s h d))))) (bcase (true == d) ((FnCon Try.prog 45 [(true, [rowR 38 4 dasEntry zEntry l])] [(true, [rowR 38 4 dasEntry zEntry l])]) ∧ ((true = true ∧ (DaEq (rowR 38 4 dasEntry zEntry l) (Da.row 38 4 (chgX l s h d).length fun i j => (dasEntry ((chgX l s h d).getD i zEntry)).getD j (Da.val undef)))) ∧ (false = false ∧ Value.bool false = Value.bool (chgB l s h d)))) ((FnCon Try.prog 15 [(true, [rowR 38 4 dasEntry zEntry l]), (true, [Da.row 38 4 1 fun i j => Da.val ([vI s, vI h, vI 1, Value.bool d].getD (i * 4 + j) undef)])] [(true, [Da.row 38 4 (mrgX l [nxtE l s h d]).length fun i j => (dasEntry ((mrgX l [nxtE l s h d]).getD i zEntry)).getD j (Da.val undef)]), (false, [dB ((mrgB l [nxtE l s h d]))])]) ∧ ((true = true ∧ (DaEq (Da.row 38 4 (mrgX l [nxtE l s h d]).length fun i j => (dasEntry ((mrgX l [nxtE l s h d]).getD i zEntry)).getD j (Da.val undef)) (Da.row 38 4 (chgX l s h d).length fun i j => (dasEntry ((chgX l s h d).getD i zEntry)).getD j (Da.val undef)))) ∧ (false = false ∧ Value.bool (mrgB l [nxtE l s h d]) = Value.bool (chgB l s h d))))))) (chgC l s h d) (noLoops) Try.func49 (by kernel_rfl) (by kernel_rfl) (by kernel_rfl) (fun _ => trivial) (by kernel_rfl) ?_
  refine ⟨?g0, bcase_intro (fun h1 => ⟨⟨?g2, ?g3⟩, bcase_intro (fun h4 => ⟨?g5, ⟨rfl, ?g6⟩, rfl, congrArg _ ?g7⟩) (fun h4 => ⟨?g8, ⟨rfl, ?g9⟩, rfl, congrArg _ ?g10⟩)⟩) (fun h1 => bcase_intro (fun h11 => ⟨?g12, ⟨rfl, ?g13⟩, rfl, congrArg _ ?g14⟩) (fun h11 => ⟨?g15, ⟨rfl, ?g16⟩, rfl, congrArg _ ?g17⟩))⟩
  case g0 => exact conFnd l s h (by omega)
  case g5 | g12 => exact conCopied l (by omega)
  case g13 | g14 | g15 | g16 | g17 =>
    have e : fndE l s h = none := fndI_neg (of_decide_eq_false h1)
    have hd := (at_none e).1
    first
      | (have h11 : true = d := eq_of_beq h11
         have hc := chgX_t (hd.trans h11)
         first | exact hc.2.symm | exact row_to row_self hc.1.symm)
      | (have h11 : ¬ true = d := ne_of_beq_false h11
         have hc := chgX_f (d := d) (fun q => h11 (hd.symm.trans q))
         first
           | exact hc.2.symm
           | exact row_to row_self hc.1.symm
           | (have hn : nxtE l s h d = ⟨s, h, 1, d⟩ := by unfold nxtE; rw [(at_none e).2]; rfl
              rw [hn]
              exact con_at (conMrg l [⟨s, h, 1, d⟩] hnl (by simp)) (by kernel_rfl) rfl))
  all_goals
    obtain ⟨k, e, ek⟩ := fndI_pos (of_decide_eq_true h1)
    obtain ⟨hk, hs, hh, _⟩ := fndE_at e
  case g2 | g3 => omega
  all_goals
    have h4 : ((l.getD (fndI l s h).toNat zEntry).Deleted == d) = _ := h4
    rw [ek] at h4
    simp only [Int.toNat_natCast] at h4
  case g6 | g7 =>
    have hc := chgX_t ((at_some e).1.trans (eq_of_beq h4))
    first | exact hc.2.symm | exact row_to row_self hc.1.symm
  all_goals have hc := chgX_f (d := d) (fun q => ne_of_beq_false h4 ((at_some e).1.symm.trans q))
  case g9 => exact row_to row_self hc.1.symm
  case g10 => exact hc.2.symm
  case g8 =>
    have hn : nxtE l s h d = ⟨(l.getD (fndI l s h).toNat zEntry).Site, (l.getD (fndI l s h).toNat zEntry).Handle, IntKind.i64.wrap ((l.getD (fndI l s h).toNat zEntry).Version + 1), d⟩ := by
      unfold nxtE
      rw [(at_some e).2, ek, Int.toNat_natCast, hs, hh]
    rw [hn]
    exact con_at (conMrg l [⟨(l.getD (fndI l s h).toNat zEntry).Site, (l.getD (fndI l s h).toNat zEntry).Handle, IntKind.i64.wrap ((l.getD (fndI l s h).toNat zEntry).Version + 1), d⟩] hnl (by simp)) (by kernel_rfl) rfl
theorem conPut (l : List En) (s h : Int) (hnl : l.length ≤ 8000000) : FnCon Try.prog 24 ([(true, [rowR 38 4 dasEntry zEntry l]), iV s, iV h]) ([(true, [rowR 38 4 dasEntry zEntry (putX l s h)]), bV (putB l s h)]) := by
  refine fn_go (p := ((FnCon Try.prog 49 [(true, [rowR 38 4 dasEntry zEntry l]), (false, [dI (s)]), (false, [dI (h)]), (false, [dB (false)])] [(true, [Da.row 38 4 (chgX l s h false).length fun i j => (dasEntry ((chgX l s h false).getD i zEntry)).getD j (Da.val undef)]), (false, [dB ((chgB l s h false))])]) ∧ ((true = true ∧ (DaEq (Da.row 38 4 (chgX l s h false).length fun i j => (dasEntry ((chgX l s h false).getD i zEntry)).getD j (Da.val undef)) (Da.row 38 4 (putX l s h).length fun i j => (dasEntry ((putX l s h).getD i zEntry)).getD j (Da.val undef)))) ∧ (false = false ∧ Value.bool (chgB l s h false) = Value.bool (putB l s h))))) (putC l s h) (noLoops) Try.func24 (by kernel_rfl) (by kernel_rfl) (by kernel_rfl) (fun _ => trivial) (by kernel_rfl) ?_
  refine ⟨?g0, ⟨rfl, ?g1⟩, rfl, congrArg _ ?g2⟩
  case g0 => exact conChg l s h false hnl
  case g1 => exact row_to row_self (chg_putX l s h).1
  case g2 => exact (chg_putX l s h).2
theorem conDel (l : List En) (s h : Int) (hnl : l.length ≤ 8000000) : FnCon Try.prog 20 ([(true, [rowR 38 4 dasEntry zEntry l]), iV s, iV h]) ([(true, [rowR 38 4 dasEntry zEntry (delX l s h)]), bV (delB l s h)]) := by
  refine fn_go (p := ((FnCon Try.prog 49 [(true, [rowR 38 4 dasEntry zEntry l]), (false, [dI (s)]), (false, [dI (h)]), (false, [dB (true)])] [(true, [Da.row 38 4 (chgX l s h true).length fun i j => (dasEntry ((chgX l s h true).getD i zEntry)).getD j (Da.val undef)]), (false, [dB ((chgB l s h true))])]) ∧ ((true = true ∧ (DaEq (Da.row 38 4 (chgX l s h true).length fun i j => (dasEntry ((chgX l s h true).getD i zEntry)).getD j (Da.val undef)) (Da.row 38 4 (delX l s h).length fun i j => (dasEntry ((delX l s h).getD i zEntry)).getD j (Da.val undef)))) ∧ (false = false ∧ Value.bool (chgB l s h true) = Value.bool (delB l s h))))) (delC l s h) (noLoops) Try.func20 (by kernel_rfl) (by kernel_rfl) (by kernel_rfl) (fun _ => trivial) (by kernel_rfl) ?_
  refine ⟨?g0, ⟨rfl, ?g1⟩, rfl, congrArg _ ?g2⟩
  case g0 => exact conChg l s h true hnl
  case g1 => exact row_to row_self (chg_delX l s h).1
  case g2 => exact (chg_delX l s h).2
theorem conEql (l m : List En) (hnl : l.length ≤ 1000000000) (hnm : m.length ≤ 1000000000) : FnCon Try.prog 16 ([(true, [rowR 38 4 dasEntry zEntry l]), (true, [rowR 38 4 dasEntry zEntry m])]) ([bV (eqlE l m)]) := by
  refine fn_go (p := ((FnCon Try.prog 47 [(false, [rowR 38 4 dasEntry zEntry l]), (false, [rowR 38 4 dasEntry zEntry m])] [(false, [dB ((eqlE l m))])]) ∧ (false = false ∧ Value.bool (eqlE l m) = Value.bool (eqlE l m)))) (eqC l m) (noLoops) Try.func16 (by kernel_rfl) (by kernel_rfl) (by kernel_rfl) (fun _ => trivial) (by kernel_rfl) ?_
  refine ⟨?g0, rfl, rfl⟩
  case g0 => exact conEq l m hnl hnm
theorem conInc (l m : List En) (hnl : l.length ≤ 8000000) (hnm : m.length ≤ 8000000) : FnCon Try.prog 17 ([(true, [rowR 38 4 dasEntry zEntry l]), (true, [rowR 38 4 dasEntry zEntry m])]) ([bV (incB l m)]) := by
  refine fn_go (p := ((FnCon Try.prog 15 [(true, [rowR 38 4 dasEntry zEntry l]), (true, [rowR 38 4 dasEntry zEntry m])] [(true, [Da.row 38 4 (mrgX l m).length fun i j => (dasEntry ((mrgX l m).getD i zEntry)).getD j (Da.val undef)]), (false, [dB ((mrgB l m))])]) ∧ bcase (mrgB l m) (mrgB l m = true ∧ ((FnCon Try.prog 16 [(true, [Da.row 38 4 (mrgX l m).length fun i j => (dasEntry ((mrgX l m).getD i zEntry)).getD j (Da.val undef)]), (true, [rowR 38 4 dasEntry zEntry l])] [(false, [dB ((eqlE (mrgX l m) l))])]) ∧ (false = false ∧ Value.bool (eqlE (mrgX l m) l) = Value.bool (incB l m)))) (mrgB l m = false ∧ (false = false ∧ Value.bool false = Value.bool (incB l m))))) (incC l m) (noLoops) Try.func17 (by kernel_rfl) (by kernel_rfl) (by kernel_rfl) (fun _ => trivial) (by kernel_rfl) ?_
  refine ⟨?g0, bcase_intro (fun h1 => ⟨h1, ?g2, rfl, congrArg _ ?g3⟩) (fun h1 => ⟨h1, rfl, congrArg _ ?g4⟩)⟩
  case g0 => exact conMrg l m hnl hnm
  case g2 => exact conEql (mrgX l m) l (by have := mrgX_len l m; omega) (by omega)
  case g3 => unfold incB; rw [h1]; rfl
  case g4 => unfold incB; rw [h1]; rfl
theorem conIsB (l : List En) (hnl : l.length ≤ 1000000000) : FnCon Try.prog 18 ([(true, [rowR 38 4 dasEntry zEntry l])]) ([bV (vbu l)]) := by
  refine fn_go (p := ((FnCon Try.prog 44 [(true, [rowR 38 4 dasEntry zEntry l])] [(false, [dB ((vbu l))])]) ∧ (false = false ∧ Value.bool (vbu l) = Value.bool (vbu l)))) (isC l) (noLoops) Try.func18 (by kernel_rfl) (by kernel_rfl) (by kernel_rfl) (fun _ => trivial) (by kernel_rfl) ?_
  refine ⟨?g0, rfl, rfl⟩
  case g0 => exact conIs l hnl
theorem conAct (l : List En) (hnl : l.length ≤ 16000000) : FnCon Try.prog 23 ([(true, [rowR 38 4 dasEntry zEntry l])]) ([(false, [rowR 38 4 dasEntry zEntry (actE l)])]) := by
  refine fn_go (p := ((FnCon Try.prog 54 [(false, [rowR 38 4 dasEntry zEntry l])] [(false, [rowR 38 4 dasEntry zEntry l])]) ∧ ((Cust Try.prog (fun x => True) 20024 (opOf (Try.f23.body.getD Code.skip) 1 3) [AV.one (Sc.val (Value.func (Fn.func 53) { toList := [] } { toList := [] })), AV.one (Sc.own 20016), AV.one (Sc.val (Value.func (Fn.func 55) { toList := [] } { toList := [] }))] [Ob.own (rowR 38 4 dasEntry zEntry l)] { need := [], val := AV.one (Sc.own 20024), mem := [(20016, Ob.gone), (20024, Ob.own (Da.row 38 4 (actE l).length fun i j => (dasEntry ((actE l).getD i zEntry)).getD j (Da.val undef)))] }) ∧ (false = false ∧ (DaEq (Da.row 38 4 (actE l).length fun i j => (dasEntry ((actE l).getD i zEntry)).getD j (Da.val undef)) (Da.row 38 4 (actE l).length fun i j => (dasEntry ((actE l).getD i zEntry)).getD j (Da.val undef))))))) (acC l) (noLoops) Try.func23 (by kernel_rfl) (by kernel_rfl) (by kernel_rfl) (fun _ => trivial) (by kernel_rfl) ?_
  refine ⟨?g0, ?g1, rfl, DaEq.refl _⟩
  case g0 => exact conCopy l hnl
  case g1 => exact cust_delFunc rfl rfl rfl rfl rfl hnl
end Go.Proofs.Ytoedfeacpllkeaa.C17k
