import Derived.Test.YtoedfeacpllkeaaM26
import Derived.Test.YtoedfeacpllkeaaE29
import Derived.Test.YtoedfeacpllkeaaE25
namespace Go.Proofs.Ytoedfeacpllkeaa.C17i
open Go.ChangeShapes Go.WideShapes Go.ChangeAt Go.RowKit
open S0 S1 S9 Dm Fx M26 E0 E1 E2 E3 E4 E7 E10 E15 E16 E17 E18 E19 E20 E25 E26 E28 E29 Das
set_option linter.unusedVariables false
set_option linter.unusedSimpArgs false
set_option maxRecDepth 100000
def uI : Da → Int
  | .val (.int _ x) => x
  | _ => 0
def uB : Da → Bool
  | .val (.bool b) => b
  | _ => false
/-- The entries of a row. -/
def unE (n : Nat) (el : Nat → Nat → Da) : List En := (List.range n).map fun i => ⟨uI (el i 0), uI (el i 1), uI (el i 2), uB (el i 3)⟩
theorem unE_of {n : Nat} {el : Nat → Nat → Da} {xs : List En} (h : RowOf 4 dasEntry zEntry n el xs) : unE n el = xs := by
  obtain ⟨h1, h2⟩ := h
  unfold unE
  apply List.ext_getElem (by simp [h1])
  intro i hi hj
  have e := fun j hj => h2 i (by omega) j hj
  have hg : xs.getD i zEntry = xs[i] := by simp [List.getD_eq_getElem?_getD, List.getElem?_eq_getElem hj]
  rw [List.getElem_map, List.getElem_range, e 0 (by omega), e 1 (by omega), e 2 (by omega), e 3 (by omega), hg]
  generalize xs[i] = x
  obtain ⟨_, _, _, _⟩ := x
  simp [dasEntry, uB, uI]
theorem unE_self (l : List En) : unE l.length (fun i j => (dasEntry (l.getD i zEntry)).getD j (Da.val undef)) = l := unE_of row_self
def keepO (qs : List Nat) (obs : Nat → Ob) : List (Nat × Ob) := qs.map fun q => (q, obs q)
theorem plainE (f : Nat → En) (n : Nat) : E9.PlainEl n 4 (fun i j => (dasEntry (f i)).getD j (.val undef)) := plain_row (das := dasEntry) (k := 4) (fun _ => rfl) (fun _ => rfl) f n
theorem meth_in : MethOf Try.prog 38 "loop.example/g00581/impl.isInRange" 89 := fun u => by kernel_rfl
theorem meth_cmp : MethOf Try.prog 38 "loop.example/g00581/impl.comparePlace" 88 := fun u => by kernel_rfl
theorem meth_out : MethOf Try.prog 38 "loop.example/g00581/impl.outdates" 90 := fun u => by kernel_rfl
def nanC : Orc := callsBy fun _ f _ => match f with | 94 => some [bV false] | _ => none
abbrev OrX (a b : Int) : Type := { i : Nat // i ≤ 2 ∧ (1 ≤ i → a = 0) ∧ (2 ≤ i → b = 0) }
def orL (a b : Int) : Loops := fun r _ => match r with
  | 3 => some ⟨OrX a b, fun v sl => only [3, 6, 7, 8] 0 (sl.set 8 (.one (.val (vI v.1)))), fun _ _ => [], fun v => 2 - v.1⟩
  | _ => none
def orI (a b : Int) : Int := if a = 0 then b else a
theorem orI_z {b : Int} : orI 0 b = b := rfl
theorem orI_n {a b : Int} (h : a ≠ 0) : orI a b = a := if_neg h
theorem orI_cmp (x y : En) : orI (cmpI x.Site y.Site) (cmpI x.Handle y.Handle) = cmpE x y := by
  unfold cmpE
  by_cases h : x.Site = y.Site
  · rw [if_pos h, cmpI_z.2 h]; rfl
  · rw [if_neg h, orI_n (fun e => h (cmpI_z.1 e))]
def cmpC (x y : En) : Orc := callsBy fun d f a => match d with
  | some 9 => some [iV (cmpI x.Site y.Site)]
  | some 14 => some [iV (cmpI x.Handle y.Handle)]
  | some 16 => some [iV (cmpE x y)]
  | _ => none
def inC : Orc := callsBy fun _ f a => match a with
  | [(_, [.val (.int _ n)]), (_, [.val (.int _ lo)]), (_, [.val (.int _ hi)])] => some [bV (inT n lo hi)]
  | _ => none
/-- An entry as an interface value; the methods called by it. -/
def toIf (vs : List AV) : Option Eff := match vs with
  | [.agg [.val (.int _ s), .val (.int _ h), .val (.int _ v), .val (.bool d)]] => some ⟨[], .one (.val (.iface 38 (.agg ⟨[.int .i64 s, .int .i64 h, .int .i64 v, .bool d]⟩))), []⟩
  | _ => none
def inIf (vs : List AV) : Option Eff := match vs with
  | [.one (.val (.iface _ (.agg ⟨[.int _ s, .int _ h, .int _ v, .bool d]⟩)))] => some ⟨[], .one (.val (.bool (okE ⟨s, h, v, d⟩))), []⟩
  | _ => none
def cmpIf (vs : List AV) : Option Eff := match vs with
  | [.one (.val (.iface _ (.agg ⟨[.int _ s, .int _ h, .int _ v, .bool d]⟩))), .agg [.val (.int _ s2), .val (.int _ h2), .val (.int _ v2), .val (.bool d2)]] => some ⟨[], .one (.val (.int .i64 (cmpE ⟨s, h, v, d⟩ ⟨s2, h2, v2, d2⟩))), []⟩
  | _ => none
def outIf (vs : List AV) : Option Eff := match vs with
  | [.one (.val (.iface _ (.agg ⟨[.int _ s, .int _ h, .int _ v, .bool d]⟩))), .agg [.val (.int _ s2), .val (.int _ h2), .val (.int _ v2), .val (.bool d2)]] => some ⟨[], .one (.val (.bool (newE ⟨s, h, v, d⟩ ⟨s2, h2, v2, d2⟩))), []⟩
  | _ => none
/-- A comparison by the method's expression. -/
def cmpFv (vs : List AV) : Option Eff := match vs with
  | [_, .agg [.val (.int _ s), .val (.int _ h), .val (.int _ v), .val (.bool d)], .agg [.val (.int _ s2), .val (.int _ h2), .val (.int _ v2), .val (.bool d2)]] => some ⟨[], .one (.val (.int .i64 (cmpE ⟨s, h, v, d⟩ ⟨s2, h2, v2, d2⟩))), []⟩
  | _ => none
theorem conNan (a : Int) : FnCon Try.prog 94 ([iV a]) ([bV false]) := by
  refine fn_go (p := (false = false ∧ Value.bool (a != a) = Value.bool false)) (noCalls) (noLoops) Try.func94 (by kernel_rfl) (by kernel_rfl) (by kernel_rfl) (fun _ => trivial) (by kernel_rfl) ?_
  refine ⟨rfl, congrArg _ ?g0⟩
  case g0 => simp
theorem conCi (a b : Int) : FnCon Try.prog 92 ([iV a, iV b]) ([iV (cmpI a b)]) := by
  refine fn_go (p := (FnCon Try.prog 94 [(false, [dI (a)])] [(false, [dB (false)])] ∧ (FnCon Try.prog 94 [(false, [dI (b)])] [(false, [dB (false)])] ∧ bcase (decide (a < b)) (false = false ∧ vI (-1) = vI (cmpI a b)) (bcase (decide (a > b)) (false = false ∧ vI 1 = vI (cmpI a b)) (false = false ∧ vI 0 = vI (cmpI a b)))))) (nanC) (noLoops) Try.func92 (by kernel_rfl) (by kernel_rfl) (by kernel_rfl) (fun _ => trivial) (by kernel_rfl) ?_
  refine ⟨?g0, ?g1, bcase_intro (fun h2 => ⟨rfl, congrArg _ ?g3⟩) (fun h2 => bcase_intro (fun h4 => ⟨rfl, congrArg _ ?g5⟩) (fun h4 => ⟨rfl, congrArg _ ?g6⟩))⟩
  case g0 | g1 => exact conNan _
  case g3 => unfold cmpI; rw [if_pos (of_decide_eq_true h2)]
  all_goals have h2 := of_decide_eq_false h2
  case g5 => unfold cmpI; rw [if_neg h2, if_pos (of_decide_eq_true h4)]
  case g6 => unfold cmpI; rw [if_neg h2, if_neg (of_decide_eq_false h4)]
theorem conOr (a b : Int) : FnCon Try.prog 91 ([(false, [numR 3 .i64 [a, b]])]) ([iV (orI a b)]) := by
  refine fn_go (p := ((∃ x0 : OrX a b, ((vI 0 = vI 0 ∧ ((DaEq (Da.row 3 1 [a, b].length fun i x => dI (([a, b].getD i 0))) (Da.row 3 1 [a, b].length fun i x => dI (([a, b].getD i 0)))) ∧ (vI (↑[a, b].length : Int) = vI (↑[a, b].length : Int) ∧ (vI 0 = vI (↑x0.1 : Int) ∧ True)))) ∧ True)) ∧ (∀ v : OrX a b, bcase (decide ((↑v.1 : Int) < (↑[a, b].length : Int))) ((0 ≤ (↑v.1 : Int) ∧ (↑v.1 : Int) < (↑[a, b].length : Int)) ∧ bcase ([a, b].getD (↑v.1 : Int).toNat 0 != 0) (false = false ∧ vI ([a, b].getD (↑v.1 : Int).toNat 0) = vI (orI a b)) (∃ v' : OrX a b, (Nat.sub 2 v'.1 < Nat.sub 2 v.1 ∧ ((vI 0 = vI 0 ∧ ((DaEq (Da.row 3 1 [a, b].length fun i x => dI (([a, b].getD i 0))) (Da.row 3 1 [a, b].length fun i x => dI (([a, b].getD i 0)))) ∧ (vI (↑[a, b].length : Int) = vI (↑[a, b].length : Int) ∧ (vI (IntKind.i64.wrap ((↑v.1 : Int) + 1)) = vI (↑v'.1 : Int) ∧ True)))) ∧ True)))) (false = false ∧ vI 0 = vI (orI a b))))) (noCalls) (orL a b) Try.func91 (by kernel_rfl) (by kernel_rfl) (by kernel_rfl) (fun _ => trivial) (by kernel_rfl) ?_
  refine ⟨⟨⟨0, by omega, fun h => by omega, fun h => by omega⟩, ⟨⟨rfl, DaEq.refl _, rfl, congrArg _ ?g1, trivial⟩, trivial⟩⟩, fun v => bcase_intro (fun h2 => ⟨⟨?g3, ?g4⟩, bcase_intro (fun h5 => ⟨rfl, congrArg _ ?g6⟩) (fun h5 => ⟨⟨v.1 + 1, ?wa, ?wb, ?wc⟩, ⟨?g8, ⟨rfl, DaEq.refl _, rfl, congrArg _ ?g9, trivial⟩, trivial⟩⟩)⟩) (fun h2 => ⟨rfl, congrArg _ ?g10⟩)⟩
  case g1 => rfl
  case g10 =>
    have h2 := of_decide_eq_false h2
    have h2 : ¬ (v.1 : Int) < 2 := h2
    have h3 := v.2.1
    rw [v.2.2.1 (by omega), orI_z, v.2.2.2 (by omega)]
  all_goals have h2 := of_decide_eq_true h2
  all_goals have h2 : (v.1 : Int) < 2 := h2
  case g3 => omega
  case g4 => exact h2
  case g8 => show 2 - (v.1 + 1) < 2 - v.1; omega
  case g9 => show IntKind.i64.wrap ((v.1 : Int) + 1) = ((v.1 + 1 : Nat) : Int); rw [IntWalk.i64_in _ (by omega)]; rfl
  all_goals obtain ⟨i, hi, ha, hb⟩ := v
  all_goals simp only [Int.toNat_natCast] at *
  case g6 =>
    match i, hi, h2, ha, h5 with
    | 0, _, _, _, h5 => exact (orI_n (bne_iff_ne.1 h5)).symm
    | 1, _, _, ha, h5 => rw [ha (by omega)]; rfl
  case wa => omega
  case wb =>
    intro _
    match i, hi, h2, ha, h5 with
    | 0, _, _, _, h5 => exact bne_eq_false_iff_eq.1 h5
    | 1, _, _, ha, h5 => exact ha (by omega)
  case wc =>
    intro _
    match i, hi, h2, ha, h5 with
    | 0, _, _, _, h5 => omega
    | 1, _, _, ha, h5 => exact bne_eq_false_iff_eq.1 h5
theorem conCmp (x y : En) : FnCon Try.prog 88 ([(true, dasEntry x), (true, dasEntry y)]) ([iV (cmpE x y)]) := by
  refine fn_go (p := (FnCon Try.prog 92 [(false, [dI (x.1)]), (false, [dI (y.1)])] [(false, [dI ((cmpI x.1 y.1))])] ∧ (FnCon Try.prog 92 [(false, [dI (x.2)]), (false, [dI (y.2)])] [(false, [dI ((cmpI x.2 y.2))])] ∧ ((FnCon Try.prog 91 [(false, [Da.row 3 1 2 fun i j => Da.val ([vI (cmpI x.1 y.1), vI (cmpI x.2 y.2)].getD (i * 1 + j) undef)])] [(false, [dI ((cmpE x y))])]) ∧ (false = false ∧ vI (cmpE x y) = vI (cmpE x y)))))) (cmpC x y) (noLoops) Try.func88 (by kernel_rfl) (by kernel_rfl) (by kernel_rfl) (fun _ => trivial) (by kernel_rfl) ?_
  refine ⟨?g0, ?g1, ?g2, rfl, rfl⟩
  case g0 | g1 => exact conCi _ _
  case g2 =>
    have h := conOr (cmpI x.Site y.Site) (cmpI x.Handle y.Handle)
    rw [orI_cmp] at h
    exact con_at h (by kernel_rfl) rfl
theorem conIn (n lo hi : Int) : FnCon Try.prog 93 ([iV n, iV lo, iV hi]) ([bV (inT n lo hi)]) := by
  refine fn_go (p := bcase (decide (lo ≤ n)) (decide (lo ≤ n) = true ∧ (false = false ∧ Value.bool (decide (n ≤ hi)) = Value.bool (inT n lo hi))) (decide (lo ≤ n) = false ∧ (false = false ∧ Value.bool false = Value.bool (inT n lo hi)))) (noCalls) (noLoops) Try.func93 (by kernel_rfl) (by kernel_rfl) (by kernel_rfl) (fun _ => trivial) (by kernel_rfl) ?_
  refine bcase_intro (fun h0 => ⟨h0, rfl, congrArg _ ?g1⟩) (fun h0 => ⟨h0, rfl, congrArg _ ?g2⟩)
  case g1 => unfold inT; rw [show decide (lo ≤ n) = true from h0, Bool.true_and]
  case g2 => unfold inT; rw [show decide (lo ≤ n) = false from h0, Bool.false_and]
theorem conOk (x : En) : FnCon Try.prog 89 ([(true, dasEntry x)]) ([bV (okE x)]) := by
  refine fn_go (p := bcase (inT x.1 0 2147483646) (bcase (inT x.2 0 1000000) (FnCon Try.prog 93 [(false, [dI (x.1)]), (false, [dI (0)]), (false, [dI (2147483646)])] [(false, [dB ((inT x.1 0 2147483646))])] ∧ (inT x.1 0 2147483646 = true ∧ (FnCon Try.prog 93 [(false, [dI (x.2)]), (false, [dI (0)]), (false, [dI (1000000)])] [(false, [dB ((inT x.2 0 1000000))])] ∧ (inT x.2 0 1000000 = true ∧ (FnCon Try.prog 93 [(false, [dI (x.3)]), (false, [dI (1)]), (false, [dI (1000000)])] [(false, [dB ((inT x.3 1 1000000))])] ∧ (false = false ∧ Value.bool (inT x.3 1 1000000) = Value.bool (okE x))))))) (FnCon Try.prog 93 [(false, [dI (x.1)]), (false, [dI (0)]), (false, [dI (2147483646)])] [(false, [dB ((inT x.1 0 2147483646))])] ∧ (inT x.1 0 2147483646 = true ∧ (FnCon Try.prog 93 [(false, [dI (x.2)]), (false, [dI (0)]), (false, [dI (1000000)])] [(false, [dB ((inT x.2 0 1000000))])] ∧ (inT x.2 0 1000000 = false ∧ (false = false ∧ Value.bool false = Value.bool (okE x))))))) (FnCon Try.prog 93 [(false, [dI (x.1)]), (false, [dI (0)]), (false, [dI (2147483646)])] [(false, [dB ((inT x.1 0 2147483646))])] ∧ (inT x.1 0 2147483646 = false ∧ (false = false ∧ (false = false ∧ Value.bool false = Value.bool (okE x)))))) (inC) (noLoops) Try.func89 (by kernel_rfl) (by kernel_rfl) (by kernel_rfl) (fun _ => trivial) (by kernel_rfl) ?_
  refine bcase_intro (fun h0 => bcase_intro (fun h1 => ⟨?g2, h0, ?g3, h1, ?g4, rfl, congrArg _ ?g5⟩) (fun h1 => ⟨?g6, h0, ?g7, h1, rfl, congrArg _ ?g8⟩)) (fun h0 => ⟨?g9, h0, rfl, rfl, congrArg _ ?g10⟩)
  case g2 | g3 | g4 | g6 | g7 | g9 => exact conIn _ _ _
  case g5 => unfold okE; rw [h0, h1]; rfl
  case g8 => unfold okE; rw [h0, h1]; rfl
  case g10 => unfold okE; rw [h0]; rfl
theorem conNew (x y : En) : FnCon Try.prog 90 ([(true, dasEntry x), (true, dasEntry y)]) ([bV (newE x y)]) := by
  refine fn_go (p := bcase (decide (x.3 > y.3)) (decide (x.3 > y.3) = true ∧ (false = false ∧ Value.bool true = Value.bool (newE x y))) (bcase (x.3 == y.3) (decide (x.3 > y.3) = false ∧ ((x.3 == y.3) = true ∧ (false = false ∧ Value.bool x.4 = Value.bool (newE x y)))) (decide (x.3 > y.3) = false ∧ ((x.3 == y.3) = false ∧ (false = false ∧ Value.bool false = Value.bool (newE x y)))))) (noCalls) (noLoops) Try.func90 (by kernel_rfl) (by kernel_rfl) (by kernel_rfl) (fun _ => trivial) (by kernel_rfl) ?_
  refine bcase_intro (fun h0 => ⟨h0, rfl, congrArg _ ?g1⟩) (fun h0 => bcase_intro (fun h2 => ⟨h0, h2, rfl, congrArg _ ?g3⟩) (fun h2 => ⟨h0, h2, rfl, congrArg _ ?g4⟩))
  case g1 => unfold newE; rw [show decide (y.Version < x.Version) = true from h0]; rfl
  case g3 => unfold newE; rw [show decide (y.Version < x.Version) = false from h0, show decide (x.Version = y.Version) = true from decide_eq_true (eq_of_beq h2)]; rfl
  case g4 => unfold newE; rw [show decide (y.Version < x.Version) = false from h0, show decide (x.Version = y.Version) = false from decide_eq_false (ne_of_beq_false h2)]; rfl
section
variable {old : World → Prop} {id : Nat} {o : Oper} {c : Call} {y z z2 : Operand}
abbrev enI (x : En) : Value := .iface 38 (.agg ⟨[.int .i64 x.Site, .int .i64 x.Handle, .int .i64 x.Version, .bool x.Deleted]⟩)
abbrev enA (x : En) : AV := .agg [.val (.int .i64 x.Site), .val (.int .i64 x.Handle), .val (.int .i64 x.Version), .val (.bool x.Deleted)]
theorem cust_toIf (x : En) (ho : o.op = .makeInterface 38 y) : Cust Try.prog old id o [enA x] [] ⟨[], .one (.val (enI x)), []⟩ := cust_iface ho Try.underlying38 (fun _ h => by cases h) rfl
theorem cust_inR (x : En) (ho : o.op = .call c) (hc : c.callee = .invoke y "loop.example/g00581/impl.isInRange") : Cust Try.prog old id o [.one (.val (enI x))] [] ⟨[], .one (.val (.bool (okE x))), []⟩ :=
  cust_invoke (gs := [(false, [.val (.bool (okE x))])]) (m := []) (k := id) ho hc rfl meth_in (conOk x) (fun obs h => rfl) rfl (by omega)
theorem cust_cmpI (x x2 : En) (ho : o.op = .call c) (hc : c.callee = .invoke y "loop.example/g00581/impl.comparePlace") : Cust Try.prog old id o [.one (.val (enI x)), enA x2] [] ⟨[], .one (.val (.int .i64 (cmpE x x2))), []⟩ :=
  cust_invoke (gs := [(false, [.val (.int .i64 (cmpE x x2))])]) (m := []) (k := id) ho hc rfl meth_cmp (conCmp x x2) (fun obs h => rfl) rfl (by omega)
theorem cust_outI (x x2 : En) (ho : o.op = .call c) (hc : c.callee = .invoke y "loop.example/g00581/impl.outdates") : Cust Try.prog old id o [.one (.val (enI x)), enA x2] [] ⟨[], .one (.val (.bool (newE x x2))), []⟩ :=
  cust_invoke (gs := [(false, [.val (.bool (newE x x2))])]) (m := []) (k := id) ho hc rfl meth_out (conNew x x2) (fun obs h => rfl) rfl (by omega)
theorem cust_cmpF (x x2 : En) (ho : o.op = .call c) (hc : c.callee = .value y) (ha : c.args.toList = [z, z2]) : Cust Try.prog old id o [.one (.val (.func (.methodOf 38 "loop.example/g00581/impl.comparePlace") #[] #[])), enA x, enA x2] [] ⟨[], .one (.val (.int .i64 (cmpE x x2))), []⟩ :=
  cust_methexp (gs := [(false, [.val (.int .i64 (cmpE x x2))])]) (m := []) (k := id) ho hc ha rfl Try.underlying38 meth_cmp (conCmp x x2) (fun obs h => rfl) rfl (by omega)
end
theorem mid_is {a b : Nat} (h : a ≤ b) (hb : b ≤ 1000000000) : IntKind.i64.wrap ((IntKind.u64.wrap (IntKind.i64.wrap ((a : Int) + (b : Int)))).fdiv 2) = (((a + b) / 2 : Nat) : Int) := by
  rw [IntWalk.i64_in ((a : Int) + b) (by omega), IntWalk.u64_in _ (by omega), Int.fdiv_eq_ediv_of_nonneg _ (by omega), IntWalk.i64_in _ (by omega)]
  omega
open Classical in
theorem mE (x y : En) : (match x.Site == y.Site with | false => false | true => match x.Handle == y.Handle with | false => false | true => match x.Version == y.Version with | false => false | true => match x.Deleted == y.Deleted with | false => false | true => true) = decide (x = y) := by
  obtain ⟨a, b, c, d⟩ := x
  obtain ⟨a', b', c', d'⟩ := y
  by_cases h1 : a = a'
  · by_cases h2 : b = b'
    · by_cases h3 : c = c'
      · by_cases h4 : d = d'
        · subst h1 h2 h3 h4; simp
        · subst h1 h2 h3
          have e : (d == d') = false := beq_eq_false_iff_ne.2 h4
          simp [e, h4]
      · subst h1 h2
        have e : (c == c') = false := beq_eq_false_iff_ne.2 h3
        simp [e, h3]
    · subst h1
      have e : (b == b') = false := beq_eq_false_iff_ne.2 h2
      simp [e, h2]
  · have e : (a == a') = false := beq_eq_false_iff_ne.2 h1
    simp [e, h1]
open Classical in
theorem en_not {x y : En} (h : (match (match x.Site == y.Site with | false => false | true => match x.Handle == y.Handle with | false => false | true => match x.Version == y.Version with | false => false | true => match x.Deleted == y.Deleted with | false => false | true => true) with | true => false | false => true) = true) : x ≠ y := by
  rw [mE] at h
  intro e
  rw [decide_eq_true e] at h
  cases h
open Classical in
theorem en_of {x y : En} (h : (match (match x.Site == y.Site with | false => false | true => match x.Handle == y.Handle with | false => false | true => match x.Version == y.Version with | false => false | true => match x.Deleted == y.Deleted with | false => false | true => true) with | true => false | false => true) = false) : x = y := by
  rw [mE] at h
  by_cases e : x = y
  · exact e
  · rw [decide_eq_false e] at h
    cases h
def isC : Orc := ⟨fun _ _ _ => none, fun id vs _ => match id with
  | 50008 => toIf vs
  | 50016 => inIf vs
  | 50112 => toIf vs
  | 50128 => cmpIf vs
  | _ => none, fun _ => True⟩
abbrev IsX (l : List En) : Type := { i : Nat // i ≤ l.length ∧ ∀ j, j < i → okAt l j = true }
def isL (l : List En) : Loops := fun r _ => match r with
  | 2 => some ⟨IsX l, fun v sl => only [1, 2, 6, 7, 8] 0 (sl.set 8 (.one (.val (vI v.1)))), fun _ obs => keepO [10000] obs, fun v => l.length - v.1⟩
  | _ => none
abbrev EqX (l m : List En) : Type := { i : Nat // i ≤ l.length ∧ l.length = m.length ∧ ∀ j, j < i → l.getD j zEntry = m.getD j zEntry }
def eqL (l m : List En) : Loops := fun r _ => match r with
  | 4 => some ⟨EqX l m, fun v sl => only [0, 1, 4, 12, 13] 0 (sl.set 13 (.one (.val (vI v.1)))), fun _ _ => [], fun v => l.length - v.1⟩
  | _ => none
def bsC : Orc := ⟨fun _ _ _ => none, fun id vs _ => match id with
  | 60048 => cmpFv vs
  | 90088 => cmpFv vs
  | _ => none, fun _ => True⟩
abbrev BsX (l : List En) (x : En) : Type := { p : Nat × Nat // p.1 ≤ p.2 ∧ p.2 ≤ l.length ∧ (∀ t, t < p.1 → ltE (l.getD t zEntry) x.Site x.Handle = true) ∧ ∀ t, p.2 ≤ t → t < l.length → ltE (l.getD t zEntry) x.Site x.Handle = false }
def bsL (l : List En) (x : En) : Loops := fun r _ => match r with
  | 3 => some ⟨BsX l x, fun v sl => only [0, 2, 4, 6, 7, 8, 9, 10] 0 ((sl.set 9 (.one (.val (vI v.1.1)))).set 10 (.one (.val (vI v.1.2)))), fun _ obs => keepO [10000] obs, fun v => v.1.2 - v.1.1⟩
  | _ => none
theorem conIs (l : List En) (hnl : l.length ≤ 1000000000) : FnCon Try.prog 44 ([(true, [rowR 38 4 dasEntry zEntry l])]) ([bV (vbu l)]) := by
  refine fn_go (p := ((∃ x0 : IsX l, (((some 10000 = some 10000 ∧ 0 = 0) ∧ (Value.bool false = Value.bool false ∧ ((DaEq (rowR 38 4 dasEntry zEntry l) (rowR 38 4 dasEntry zEntry l)) ∧ (vI (↑l.length : Int) = vI (↑l.length : Int) ∧ (vI 0 = vI (↑x0.1 : Int) ∧ True))))) ∧ ((26 = 26 ∧ (DaEq (rowR 38 4 dasEntry zEntry l) (rowR 38 4 dasEntry zEntry l))) ∧ True))) ∧ (∀ v : IsX l, bcase (decide ((↑v.1 : Int) < (↑l.length : Int))) ((0 ≤ (↑v.1 : Int) ∧ (↑v.1 : Int) < (↑l.length : Int)) ∧ bcase (!okE { Site := (l.getD (↑v.1 : Int).toNat zEntry).1, Handle := (l.getD (↑v.1 : Int).toNat zEntry).2, Version := (l.getD (↑v.1 : Int).toNat zEntry).3, Deleted := (l.getD (↑v.1 : Int).toNat zEntry).4 }) ((Cust Try.prog (fun x => True) 50008 (opOf (Try.f44.body.getD Code.skip) 4 1) [AV.agg [Sc.val (vI (l.getD (↑v.1 : Int).toNat zEntry).1), Sc.val (vI (l.getD (↑v.1 : Int).toNat zEntry).2), Sc.val (vI (l.getD (↑v.1 : Int).toNat zEntry).3), Sc.val (Value.bool (l.getD (↑v.1 : Int).toNat zEntry).4)]] [] { need := [], val := AV.one (Sc.val (Value.iface 38 (Value.agg { toList := [vI (l.getD (↑v.1 : Int).toNat zEntry).1, vI (l.getD (↑v.1 : Int).toNat zEntry).2, vI (l.getD (↑v.1 : Int).toNat zEntry).3, Value.bool (l.getD (↑v.1 : Int).toNat zEntry).4] }))), mem := [] }) ∧ ((Cust Try.prog (fun x => True) 50016 (opOf (Try.f44.body.getD Code.skip) 4 2) [AV.one (Sc.val (Value.iface 38 (Value.agg { toList := [vI (l.getD (↑v.1 : Int).toNat zEntry).1, vI (l.getD (↑v.1 : Int).toNat zEntry).2, vI (l.getD (↑v.1 : Int).toNat zEntry).3, Value.bool (l.getD (↑v.1 : Int).toNat zEntry).4] })))] [] { need := [], val := AV.one (Sc.val (Value.bool (okE { Site := (l.getD (↑v.1 : Int).toNat zEntry).1, Handle := (l.getD (↑v.1 : Int).toNat zEntry).2, Version := (l.getD (↑v.1 : Int).toNat zEntry).3, Deleted := (l.getD (↑v.1 : Int).toNat zEntry).4 }))), mem := [] }) ∧ ((!okE { Site := (l.getD (↑v.1 : Int).toNat zEntry).1, Handle := (l.getD (↑v.1 : Int).toNat zEntry).2, Version := (l.getD (↑v.1 : Int).toNat zEntry).3, Deleted := (l.getD (↑v.1 : Int).toNat zEntry).4 }) = true ∧ (false = false ∧ Value.bool false = Value.bool (vbu l))))) (bcase (decide ((↑v.1 : Int) > 0)) ((Cust Try.prog (fun x => True) 50008 (opOf (Try.f44.body.getD Code.skip) 4 1) [AV.agg [Sc.val (vI (l.getD (↑v.1 : Int).toNat zEntry).1), Sc.val (vI (l.getD (↑v.1 : Int).toNat zEntry).2), Sc.val (vI (l.getD (↑v.1 : Int).toNat zEntry).3), Sc.val (Value.bool (l.getD (↑v.1 : Int).toNat zEntry).4)]] [] { need := [], val := AV.one (Sc.val (Value.iface 38 (Value.agg { toList := [vI (l.getD (↑v.1 : Int).toNat zEntry).1, vI (l.getD (↑v.1 : Int).toNat zEntry).2, vI (l.getD (↑v.1 : Int).toNat zEntry).3, Value.bool (l.getD (↑v.1 : Int).toNat zEntry).4] }))), mem := [] }) ∧ ((Cust Try.prog (fun x => True) 50016 (opOf (Try.f44.body.getD Code.skip) 4 2) [AV.one (Sc.val (Value.iface 38 (Value.agg { toList := [vI (l.getD (↑v.1 : Int).toNat zEntry).1, vI (l.getD (↑v.1 : Int).toNat zEntry).2, vI (l.getD (↑v.1 : Int).toNat zEntry).3, Value.bool (l.getD (↑v.1 : Int).toNat zEntry).4] })))] [] { need := [], val := AV.one (Sc.val (Value.bool (okE { Site := (l.getD (↑v.1 : Int).toNat zEntry).1, Handle := (l.getD (↑v.1 : Int).toNat zEntry).2, Version := (l.getD (↑v.1 : Int).toNat zEntry).3, Deleted := (l.getD (↑v.1 : Int).toNat zEntry).4 }))), mem := [] }) ∧ ((!okE { Site := (l.getD (↑v.1 : Int).toNat zEntry).1, Handle := (l.getD (↑v.1 : Int).toNat zEntry).2, Version := (l.getD (↑v.1 : Int).toNat zEntry).3, Deleted := (l.getD (↑v.1 : Int).toNat zEntry).4 }) = false ∧ (decide ((↑v.1 : Int) > 0) = true ∧ ((0 ≤ IntKind.i64.wrap ((↑v.1 : Int) - 1) ∧ IntKind.i64.wrap ((↑v.1 : Int) - 1) < (↑l.length : Int)) ∧ ((Cust Try.prog (fun x => True) 50112 (opOf (Try.f44.body.getD Code.skip) 4 14) [AV.agg [Sc.val (vI (l.getD (IntKind.i64.wrap ((↑v.1 : Int) - 1)).toNat zEntry).1), Sc.val (vI (l.getD (IntKind.i64.wrap ((↑v.1 : Int) - 1)).toNat zEntry).2), Sc.val (vI (l.getD (IntKind.i64.wrap ((↑v.1 : Int) - 1)).toNat zEntry).3), Sc.val (Value.bool (l.getD (IntKind.i64.wrap ((↑v.1 : Int) - 1)).toNat zEntry).4)]] [] { need := [], val := AV.one (Sc.val (Value.iface 38 (Value.agg { toList := [vI (l.getD (IntKind.i64.wrap ((↑v.1 : Int) - 1)).toNat zEntry).1, vI (l.getD (IntKind.i64.wrap ((↑v.1 : Int) - 1)).toNat zEntry).2, vI (l.getD (IntKind.i64.wrap ((↑v.1 : Int) - 1)).toNat zEntry).3, Value.bool (l.getD (IntKind.i64.wrap ((↑v.1 : Int) - 1)).toNat zEntry).4] }))), mem := [] }) ∧ ((Cust Try.prog (fun x => True) 50128 (opOf (Try.f44.body.getD Code.skip) 4 16) [AV.one (Sc.val (Value.iface 38 (Value.agg { toList := [vI (l.getD (IntKind.i64.wrap ((↑v.1 : Int) - 1)).toNat zEntry).1, vI (l.getD (IntKind.i64.wrap ((↑v.1 : Int) - 1)).toNat zEntry).2, vI (l.getD (IntKind.i64.wrap ((↑v.1 : Int) - 1)).toNat zEntry).3, Value.bool (l.getD (IntKind.i64.wrap ((↑v.1 : Int) - 1)).toNat zEntry).4] }))), AV.agg [Sc.val (vI (l.getD (↑v.1 : Int).toNat zEntry).1), Sc.val (vI (l.getD (↑v.1 : Int).toNat zEntry).2), Sc.val (vI (l.getD (↑v.1 : Int).toNat zEntry).3), Sc.val (Value.bool (l.getD (↑v.1 : Int).toNat zEntry).4)]] [] { need := [], val := AV.one (Sc.val (vI (cmpE { Site := (l.getD (IntKind.i64.wrap ((↑v.1 : Int) - 1)).toNat zEntry).1, Handle := (l.getD (IntKind.i64.wrap ((↑v.1 : Int) - 1)).toNat zEntry).2, Version := (l.getD (IntKind.i64.wrap ((↑v.1 : Int) - 1)).toNat zEntry).3, Deleted := (l.getD (IntKind.i64.wrap ((↑v.1 : Int) - 1)).toNat zEntry).4 } { Site := (l.getD (↑v.1 : Int).toNat zEntry).1, Handle := (l.getD (↑v.1 : Int).toNat zEntry).2, Version := (l.getD (↑v.1 : Int).toNat zEntry).3, Deleted := (l.getD (↑v.1 : Int).toNat zEntry).4 }))), mem := [] }) ∧ bcase (decide (cmpE { Site := (l.getD (IntKind.i64.wrap ((↑v.1 : Int) - 1)).toNat zEntry).1, Handle := (l.getD (IntKind.i64.wrap ((↑v.1 : Int) - 1)).toNat zEntry).2, Version := (l.getD (IntKind.i64.wrap ((↑v.1 : Int) - 1)).toNat zEntry).3, Deleted := (l.getD (IntKind.i64.wrap ((↑v.1 : Int) - 1)).toNat zEntry).4 } { Site := (l.getD (↑v.1 : Int).toNat zEntry).1, Handle := (l.getD (↑v.1 : Int).toNat zEntry).2, Version := (l.getD (↑v.1 : Int).toNat zEntry).3, Deleted := (l.getD (↑v.1 : Int).toNat zEntry).4 } ≥ 0)) (false = false ∧ Value.bool false = Value.bool (vbu l)) (∃ v' : IsX l, (l.length.sub v'.1 < l.length.sub v.1 ∧ (((some 10000 = some 10000 ∧ 0 = 0) ∧ (Value.bool false = Value.bool false ∧ ((DaEq (rowR 38 4 dasEntry zEntry l) (rowR 38 4 dasEntry zEntry l)) ∧ (vI (↑l.length : Int) = vI (↑l.length : Int) ∧ (vI (IntKind.i64.wrap ((↑v.1 : Int) + 1)) = vI (↑v'.1 : Int) ∧ True))))) ∧ ((26 = 26 ∧ (DaEq (rowR 38 4 dasEntry zEntry l) (rowR 38 4 dasEntry zEntry l))) ∧ True))))))))))) ((Cust Try.prog (fun x => True) 50008 (opOf (Try.f44.body.getD Code.skip) 4 1) [AV.agg [Sc.val (vI (l.getD (↑v.1 : Int).toNat zEntry).1), Sc.val (vI (l.getD (↑v.1 : Int).toNat zEntry).2), Sc.val (vI (l.getD (↑v.1 : Int).toNat zEntry).3), Sc.val (Value.bool (l.getD (↑v.1 : Int).toNat zEntry).4)]] [] { need := [], val := AV.one (Sc.val (Value.iface 38 (Value.agg { toList := [vI (l.getD (↑v.1 : Int).toNat zEntry).1, vI (l.getD (↑v.1 : Int).toNat zEntry).2, vI (l.getD (↑v.1 : Int).toNat zEntry).3, Value.bool (l.getD (↑v.1 : Int).toNat zEntry).4] }))), mem := [] }) ∧ ((Cust Try.prog (fun x => True) 50016 (opOf (Try.f44.body.getD Code.skip) 4 2) [AV.one (Sc.val (Value.iface 38 (Value.agg { toList := [vI (l.getD (↑v.1 : Int).toNat zEntry).1, vI (l.getD (↑v.1 : Int).toNat zEntry).2, vI (l.getD (↑v.1 : Int).toNat zEntry).3, Value.bool (l.getD (↑v.1 : Int).toNat zEntry).4] })))] [] { need := [], val := AV.one (Sc.val (Value.bool (okE { Site := (l.getD (↑v.1 : Int).toNat zEntry).1, Handle := (l.getD (↑v.1 : Int).toNat zEntry).2, Version := (l.getD (↑v.1 : Int).toNat zEntry).3, Deleted := (l.getD (↑v.1 : Int).toNat zEntry).4 }))), mem := [] }) ∧ ((!okE { Site := (l.getD (↑v.1 : Int).toNat zEntry).1, Handle := (l.getD (↑v.1 : Int).toNat zEntry).2, Version := (l.getD (↑v.1 : Int).toNat zEntry).3, Deleted := (l.getD (↑v.1 : Int).toNat zEntry).4 }) = false ∧ (decide ((↑v.1 : Int) > 0) = false ∧ (∃ v' : IsX l, (l.length.sub v'.1 < l.length.sub v.1 ∧ (((some 10000 = some 10000 ∧ 0 = 0) ∧ (Value.bool false = Value.bool false ∧ ((DaEq (rowR 38 4 dasEntry zEntry l) (rowR 38 4 dasEntry zEntry l)) ∧ (vI (↑l.length : Int) = vI (↑l.length : Int) ∧ (vI (IntKind.i64.wrap ((↑v.1 : Int) + 1)) = vI (↑v'.1 : Int) ∧ True))))) ∧ ((26 = 26 ∧ (DaEq (rowR 38 4 dasEntry zEntry l) (rowR 38 4 dasEntry zEntry l))) ∧ True)))))))))) (false = false ∧ Value.bool (decide ((↑l.length : Int) ≤ 20)) = Value.bool (vbu l))))) (isC) (isL l) Try.func44 (by kernel_rfl) (by kernel_rfl) (by kernel_rfl) (fun _ => trivial) (by kernel_rfl) ?_
  refine ⟨⟨⟨0, Nat.zero_le _, fun j h => absurd h (Nat.not_lt_zero _)⟩, ⟨⟨⟨rfl, rfl⟩, rfl, DaEq.refl _, rfl, congrArg _ ?g1, trivial⟩, ⟨rfl, DaEq.refl _⟩, trivial⟩⟩, fun v => bcase_intro (fun h2 => ⟨⟨?g3, ?g4⟩, bcase_intro (fun h5 => ⟨?g6, ?g7, h5, rfl, congrArg _ ?g8⟩) (fun h5 => bcase_intro (fun h9 => ⟨?g10, ?g11, h5, h9, ⟨?g12, ?g13⟩, ?g14, ?g15, bcase_intro (fun h16 => ⟨rfl, congrArg _ ?g17⟩) (fun h16 => ⟨⟨v.1 + 1, ?wa, ?wb⟩, ⟨?g19, ⟨⟨rfl, rfl⟩, rfl, DaEq.refl _, rfl, congrArg _ ?g20, trivial⟩, ⟨rfl, DaEq.refl _⟩, trivial⟩⟩)⟩) (fun h9 => ⟨?g21, ?g22, h5, h9, ⟨⟨v.1 + 1, ?wc, ?wd⟩, ⟨?g24, ⟨⟨rfl, rfl⟩, rfl, DaEq.refl _, rfl, congrArg _ ?g25, trivial⟩, ⟨rfl, DaEq.refl _⟩, trivial⟩⟩⟩))⟩) (fun h2 => ⟨rfl, congrArg _ ?g26⟩)⟩
  case g1 => rfl
  case g26 =>
    have h2 := of_decide_eq_false h2
    rw [vbu_all fun j hj => v.2.2 j (by omega)]
    exact decide_eq_decide.2 (by omega)
  all_goals have h2 := of_decide_eq_true h2
  case g3 | g4 => omega
  case g6 | g10 | g14 | g21 => exact cust_toIf (l.getD _ zEntry) rfl
  case g7 | g11 | g22 => exact cust_inR (l.getD _ zEntry) rfl rfl
  case g15 => exact cust_cmpI (l.getD _ zEntry) (l.getD _ zEntry) rfl rfl
  case g19 | g24 => show l.length - (v.1 + 1) < l.length - v.1; omega
  case g20 | g25 => show IntKind.i64.wrap ((v.1 : Int) + 1) = ((v.1 + 1 : Nat) : Int); rw [IntWalk.i64_in _ (by omega)]; rfl
  case wa | wc => omega
  all_goals
    have h5 : (!okE (l.getD v.1 zEntry)) = _ := h5
  case g8 => exact (vbu_at (i := v.1) (by omega) (okAt_e (by simpa using h5))).symm
  case wd =>
    intro j hj
    rcases Nat.lt_or_ge j v.1 with h | h
    · exact v.2.2 j h
    · obtain rfl : j = v.1 := by omega
      have h9 := of_decide_eq_false h9
      exact okAt_0 (by simpa using h5) (by omega)
  all_goals have h9 := of_decide_eq_true h9
  case g12 | g13 =>
    rw [IntWalk.i64_in _ (by omega)]
    omega
  all_goals
    have e : (IntKind.i64.wrap ((v.1 : Int) - 1)).toNat = v.1 - 1 := by rw [IntWalk.i64_in _ (by omega)]; omega
    have h16 : decide (cmpE (l.getD (IntKind.i64.wrap ((v.1 : Int) - 1)).toNat zEntry) (l.getD v.1 zEntry) ≥ 0) = _ := h16
    rw [e] at h16
  case g17 =>
    have h16 := of_decide_eq_true h16
    refine (vbu_at (i := v.1) (by omega) (okAt_f (by omega) ?_)).symm
    cases hl : ltE (l.getD (v.1 - 1) zEntry) (l.getD v.1 zEntry).Site (l.getD v.1 zEntry).Handle with
    | false => rfl
    | true => have := cmpE_n.2 hl; omega
  case wb =>
    have h16 := of_decide_eq_false h16
    intro j hj
    rcases Nat.lt_or_ge j v.1 with h | h
    · exact v.2.2 j h
    · obtain rfl : j = v.1 := by omega
      exact okAt_l (by simpa using h5) (cmpE_n.1 (by omega))
theorem conEq (l m : List En) (hnl : l.length ≤ 1000000000) (hnm : m.length ≤ 1000000000) : FnCon Try.prog 47 ([(false, [rowR 38 4 dasEntry zEntry l]), (false, [rowR 38 4 dasEntry zEntry m])]) ([bV (eqlE l m)]) := by
  refine fn_go (p := bcase ((↑l.length : Int) != (↑m.length : Int)) (false = false ∧ Value.bool false = Value.bool (eqlE l m)) ((∃ x0 : EqX l m, (((DaEq (rowR 38 4 dasEntry zEntry l) (rowR 38 4 dasEntry zEntry l)) ∧ ((DaEq (rowR 38 4 dasEntry zEntry m) (rowR 38 4 dasEntry zEntry m)) ∧ (Value.bool false = Value.bool false ∧ (vI (↑l.length : Int) = vI (↑l.length : Int) ∧ (vI 0 = vI (↑x0.1 : Int) ∧ True))))) ∧ True)) ∧ (∀ v : EqX l m, bcase (decide ((↑v.1 : Int) < (↑l.length : Int))) ((0 ≤ (↑v.1 : Int) ∧ (↑v.1 : Int) < (↑l.length : Int)) ∧ ((0 ≤ (↑v.1 : Int) ∧ (↑v.1 : Int) < (↑m.length : Int)) ∧ bcase (match
  match (l.getD (↑v.1 : Int).toNat zEntry).1 == (m.getD (↑v.1 : Int).toNat zEntry).1 with
  | false => false
  | true =>
    match (l.getD (↑v.1 : Int).toNat zEntry).2 == (m.getD (↑v.1 : Int).toNat zEntry).2 with
    | false => false
    | true =>
      match (l.getD (↑v.1 : Int).toNat zEntry).3 == (m.getD (↑v.1 : Int).toNat zEntry).3 with
      | false => false
      | true =>
        match (l.getD (↑v.1 : Int).toNat zEntry).4 == (m.getD (↑v.1 : Int).toNat zEntry).4 with
        | false => false
        | true => true with
| true => false
| false => true) (false = false ∧ Value.bool false = Value.bool (eqlE l m)) (∃ v' : EqX l m, (l.length.sub v'.1 < l.length.sub v.1 ∧ (((DaEq (rowR 38 4 dasEntry zEntry l) (rowR 38 4 dasEntry zEntry l)) ∧ ((DaEq (rowR 38 4 dasEntry zEntry m) (rowR 38 4 dasEntry zEntry m)) ∧ (Value.bool false = Value.bool false ∧ (vI (↑l.length : Int) = vI (↑l.length : Int) ∧ (vI (IntKind.i64.wrap ((↑v.1 : Int) + 1)) = vI (↑v'.1 : Int) ∧ True))))) ∧ True))))) (false = false ∧ Value.bool true = Value.bool (eqlE l m))))) (noCalls) (eqL l m) Try.func47 (by kernel_rfl) (by kernel_rfl) (by kernel_rfl) (fun _ => trivial) (by kernel_rfl) ?_
  refine bcase_intro (fun h0 => ⟨rfl, congrArg _ ?g1⟩) (fun h0 => ⟨⟨⟨0, Nat.zero_le _, (by have := bne_eq_false_iff_eq.1 h0; omega), fun j h => absurd h (Nat.not_lt_zero _)⟩, ⟨⟨DaEq.refl _, DaEq.refl _, rfl, rfl, congrArg _ ?g3, trivial⟩, trivial⟩⟩, fun v => bcase_intro (fun h4 => ⟨⟨?g5, ?g6⟩, ⟨?g7, ?g8⟩, bcase_intro (fun h9 => ⟨rfl, congrArg _ ?g10⟩) (fun h9 => ⟨⟨v.1 + 1, ?wa, v.2.2.1, ?wb⟩, ⟨?g12, ⟨DaEq.refl _, DaEq.refl _, rfl, rfl, congrArg _ ?g13, trivial⟩, trivial⟩⟩)⟩) (fun h4 => ⟨rfl, congrArg _ ?g14⟩)⟩)
  case g1 => exact (eqlE_f fun e => by rw [e] at h0; simp at h0).symm
  case g3 => rfl
  all_goals have hlen := v.2.2.1
  case g14 =>
    have h4 := of_decide_eq_false h4
    exact (eqlE_t (list_ext hlen fun j hj => v.2.2.2 j (by omega))).symm
  all_goals have h4 := of_decide_eq_true h4
  case g5 | g6 | g7 | g8 => omega
  case wa => omega
  case g12 => show l.length - (v.1 + 1) < l.length - v.1; omega
  case g13 => show IntKind.i64.wrap ((v.1 : Int) + 1) = ((v.1 + 1 : Nat) : Int); rw [IntWalk.i64_in _ (by omega)]; rfl
  all_goals simp only [Int.toNat_natCast] at h9
  case g10 => exact (eqlE_f fun e => en_not h9 (congrArg (fun z : List En => z.getD v.1 zEntry) e)).symm
  case wb =>
    intro j hj
    rcases Nat.lt_or_ge j v.1 with h | h
    · exact v.2.2.2 j h
    · obtain rfl : j = v.1 := by omega
      exact en_of h9
theorem conBs (l : List En) (x : En) (ha : Asc l) (hnl : l.length ≤ 1000000000) : FnCon Try.prog 63 ([(false, [rowR 38 4 dasEntry zEntry l]), (true, dasEntry x), (false, [.val (.func (.methodOf 38 "loop.example/g00581/impl.comparePlace") #[] #[])])]) ([iV (cntE l x.Site x.Handle), bV (hitE l x.Site x.Handle)]) := by
  refine fn_go (p := ((∃ x0 : BsX l x, (((DaEq (rowR 38 4 dasEntry zEntry l) (rowR 38 4 dasEntry zEntry l)) ∧ (Value.func (Fn.methodOf 38 "loop.example/g00581/impl.comparePlace") { toList := [] } { toList := [] } = Value.func (Fn.methodOf 38 "loop.example/g00581/impl.comparePlace") { toList := [] } { toList := [] } ∧ ((some 10000 = some 10000 ∧ 0 = 0) ∧ (vI 0 = vI 0 ∧ (Value.bool false = Value.bool false ∧ (vI (↑l.length : Int) = vI (↑l.length : Int) ∧ (vI 0 = vI (↑x0.val.1 : Int) ∧ (vI (↑l.length : Int) = vI (↑x0.val.2 : Int) ∧ True)))))))) ∧ ((38 = 38 ∧ (vI x.1 = vI x.1 ∧ (vI x.2 = vI x.2 ∧ (vI x.3 = vI x.3 ∧ Value.bool x.4 = Value.bool x.4)))) ∧ True))) ∧ (∀ v : BsX l x, bcase (decide ((↑v.val.1 : Int) < (↑v.val.2 : Int))) ((0 ≤ IntKind.i64.wrap ((IntKind.u64.wrap (IntKind.i64.wrap ((↑v.val.1 : Int) + (↑v.val.2 : Int)))).fdiv 2) ∧ IntKind.i64.wrap ((IntKind.u64.wrap (IntKind.i64.wrap ((↑v.val.1 : Int) + (↑v.val.2 : Int)))).fdiv 2) < (↑l.length : Int)) ∧ ((Cust Try.prog (fun x => True) 60048 (opOf (Try.f63.body.getD Code.skip) 5 6) [AV.one (Sc.val (Value.func (Fn.methodOf 38 "loop.example/g00581/impl.comparePlace") { toList := [] } { toList := [] })), AV.agg [Sc.val (vI (l.getD (IntKind.i64.wrap ((IntKind.u64.wrap (IntKind.i64.wrap ((↑v.val.1 : Int) + (↑v.val.2 : Int)))).fdiv 2)).toNat zEntry).1), Sc.val (vI (l.getD (IntKind.i64.wrap ((IntKind.u64.wrap (IntKind.i64.wrap ((↑v.val.1 : Int) + (↑v.val.2 : Int)))).fdiv 2)).toNat zEntry).2), Sc.val (vI (l.getD (IntKind.i64.wrap ((IntKind.u64.wrap (IntKind.i64.wrap ((↑v.val.1 : Int) + (↑v.val.2 : Int)))).fdiv 2)).toNat zEntry).3), Sc.val (Value.bool (l.getD (IntKind.i64.wrap ((IntKind.u64.wrap (IntKind.i64.wrap ((↑v.val.1 : Int) + (↑v.val.2 : Int)))).fdiv 2)).toNat zEntry).4)], AV.agg [Sc.val (vI x.1), Sc.val (vI x.2), Sc.val (vI x.3), Sc.val (Value.bool x.4)]] [] { need := [], val := AV.one (Sc.val (vI (cmpE { Site := (l.getD (IntKind.i64.wrap ((IntKind.u64.wrap (IntKind.i64.wrap ((↑v.val.1 : Int) + (↑v.val.2 : Int)))).fdiv 2)).toNat zEntry).1, Handle := (l.getD (IntKind.i64.wrap ((IntKind.u64.wrap (IntKind.i64.wrap ((↑v.val.1 : Int) + (↑v.val.2 : Int)))).fdiv 2)).toNat zEntry).2, Version := (l.getD (IntKind.i64.wrap ((IntKind.u64.wrap (IntKind.i64.wrap ((↑v.val.1 : Int) + (↑v.val.2 : Int)))).fdiv 2)).toNat zEntry).3, Deleted := (l.getD (IntKind.i64.wrap ((IntKind.u64.wrap (IntKind.i64.wrap ((↑v.val.1 : Int) + (↑v.val.2 : Int)))).fdiv 2)).toNat zEntry).4 } { Site := x.1, Handle := x.2, Version := x.3, Deleted := x.4 }))), mem := [] }) ∧ bcase (decide (cmpE { Site := (l.getD (IntKind.i64.wrap ((IntKind.u64.wrap (IntKind.i64.wrap ((↑v.val.1 : Int) + (↑v.val.2 : Int)))).fdiv 2)).toNat zEntry).1, Handle := (l.getD (IntKind.i64.wrap ((IntKind.u64.wrap (IntKind.i64.wrap ((↑v.val.1 : Int) + (↑v.val.2 : Int)))).fdiv 2)).toNat zEntry).2, Version := (l.getD (IntKind.i64.wrap ((IntKind.u64.wrap (IntKind.i64.wrap ((↑v.val.1 : Int) + (↑v.val.2 : Int)))).fdiv 2)).toNat zEntry).3, Deleted := (l.getD (IntKind.i64.wrap ((IntKind.u64.wrap (IntKind.i64.wrap ((↑v.val.1 : Int) + (↑v.val.2 : Int)))).fdiv 2)).toNat zEntry).4 } { Site := x.1, Handle := x.2, Version := x.3, Deleted := x.4 } < 0)) (∃ v' : BsX l x, (v'.val.2.sub v'.val.1 < v.val.2.sub v.val.1 ∧ (((DaEq (rowR 38 4 dasEntry zEntry l) (rowR 38 4 dasEntry zEntry l)) ∧ (Value.func (Fn.methodOf 38 "loop.example/g00581/impl.comparePlace") { toList := [] } { toList := [] } = Value.func (Fn.methodOf 38 "loop.example/g00581/impl.comparePlace") { toList := [] } { toList := [] } ∧ ((some 10000 = some 10000 ∧ 0 = 0) ∧ (vI 0 = vI 0 ∧ (Value.bool false = Value.bool false ∧ (vI (↑l.length : Int) = vI (↑l.length : Int) ∧ (vI (IntKind.i64.wrap (IntKind.i64.wrap ((IntKind.u64.wrap (IntKind.i64.wrap ((↑v.val.1 : Int) + (↑v.val.2 : Int)))).fdiv 2) + 1)) = vI (↑v'.val.1 : Int) ∧ (vI (↑v.val.2 : Int) = vI (↑v'.val.2 : Int) ∧ True)))))))) ∧ ((38 = 38 ∧ (vI x.1 = vI x.1 ∧ (vI x.2 = vI x.2 ∧ (vI x.3 = vI x.3 ∧ Value.bool x.4 = Value.bool x.4)))) ∧ True)))) (∃ v' : BsX l x, (v'.val.2.sub v'.val.1 < v.val.2.sub v.val.1 ∧ (((DaEq (rowR 38 4 dasEntry zEntry l) (rowR 38 4 dasEntry zEntry l)) ∧ (Value.func (Fn.methodOf 38 "loop.example/g00581/impl.comparePlace") { toList := [] } { toList := [] } = Value.func (Fn.methodOf 38 "loop.example/g00581/impl.comparePlace") { toList := [] } { toList := [] } ∧ ((some 10000 = some 10000 ∧ 0 = 0) ∧ (vI 0 = vI 0 ∧ (Value.bool false = Value.bool false ∧ (vI (↑l.length : Int) = vI (↑l.length : Int) ∧ (vI (↑v.val.1 : Int) = vI (↑v'.val.1 : Int) ∧ (vI (IntKind.i64.wrap ((IntKind.u64.wrap (IntKind.i64.wrap ((↑v.val.1 : Int) + (↑v.val.2 : Int)))).fdiv 2)) = vI (↑v'.val.2 : Int) ∧ True)))))))) ∧ ((38 = 38 ∧ (vI x.1 = vI x.1 ∧ (vI x.2 = vI x.2 ∧ (vI x.3 = vI x.3 ∧ Value.bool x.4 = Value.bool x.4)))) ∧ True)))))) (bcase (decide ((↑v.val.1 : Int) < (↑l.length : Int))) (decide ((↑v.val.1 : Int) < (↑l.length : Int)) = true ∧ ((0 ≤ (↑v.val.1 : Int) ∧ (↑v.val.1 : Int) < (↑l.length : Int)) ∧ ((Cust Try.prog (fun x => True) 90088 (opOf (Try.f63.body.getD Code.skip) 8 11) [AV.one (Sc.val (Value.func (Fn.methodOf 38 "loop.example/g00581/impl.comparePlace") { toList := [] } { toList := [] })), AV.agg [Sc.val (vI (l.getD (↑v.val.1 : Int).toNat zEntry).1), Sc.val (vI (l.getD (↑v.val.1 : Int).toNat zEntry).2), Sc.val (vI (l.getD (↑v.val.1 : Int).toNat zEntry).3), Sc.val (Value.bool (l.getD (↑v.val.1 : Int).toNat zEntry).4)], AV.agg [Sc.val (vI x.1), Sc.val (vI x.2), Sc.val (vI x.3), Sc.val (Value.bool x.4)]] [] { need := [], val := AV.one (Sc.val (vI (cmpE { Site := (l.getD (↑v.val.1 : Int).toNat zEntry).1, Handle := (l.getD (↑v.val.1 : Int).toNat zEntry).2, Version := (l.getD (↑v.val.1 : Int).toNat zEntry).3, Deleted := (l.getD (↑v.val.1 : Int).toNat zEntry).4 } { Site := x.1, Handle := x.2, Version := x.3, Deleted := x.4 }))), mem := [] }) ∧ ((false = false ∧ vI (↑v.val.1 : Int) = vI (↑(cntE l x.1 x.2) : Int)) ∧ (false = false ∧ Value.bool (cmpE { Site := (l.getD (↑v.val.1 : Int).toNat zEntry).1, Handle := (l.getD (↑v.val.1 : Int).toNat zEntry).2, Version := (l.getD (↑v.val.1 : Int).toNat zEntry).3, Deleted := (l.getD (↑v.val.1 : Int).toNat zEntry).4 } { Site := x.1, Handle := x.2, Version := x.3, Deleted := x.4 } == 0) = Value.bool (hitE l x.1 x.2)))))) (decide ((↑v.val.1 : Int) < (↑l.length : Int)) = false ∧ ((false = false ∧ vI (↑v.val.1 : Int) = vI (↑(cntE l x.1 x.2) : Int)) ∧ (false = false ∧ Value.bool false = Value.bool (hitE l x.1 x.2)))))))) (bsC) (bsL l x) Try.func63 (by kernel_rfl) (by kernel_rfl) (by kernel_rfl) (fun _ => trivial) (by kernel_rfl) ?_
  refine ⟨⟨⟨(0, l.length), Nat.zero_le _, Nat.le_refl _, fun t h => absurd h (Nat.not_lt_zero _), fun t h1 h2 => by omega⟩, ⟨⟨DaEq.refl _, rfl, ⟨rfl, rfl⟩, rfl, rfl, rfl, congrArg _ ?g1, congrArg _ ?g2, trivial⟩, ⟨rfl, rfl, rfl, rfl, rfl⟩, trivial⟩⟩, fun v => bcase_intro (fun h3 => ⟨⟨?g4, ?g5⟩, ?g6, bcase_intro (fun h7 => ⟨⟨((v.1.1 + v.1.2) / 2 + 1, v.1.2), ?wa, ?wb, ?wc, ?wd⟩, ⟨?g9, ⟨DaEq.refl _, rfl, ⟨rfl, rfl⟩, rfl, rfl, rfl, congrArg _ ?g10, congrArg _ ?g11, trivial⟩, ⟨rfl, rfl, rfl, rfl, rfl⟩, trivial⟩⟩) (fun h7 => ⟨⟨(v.1.1, (v.1.1 + v.1.2) / 2), ?we, ?wf, ?wg, ?wh⟩, ⟨?g13, ⟨DaEq.refl _, rfl, ⟨rfl, rfl⟩, rfl, rfl, rfl, congrArg _ ?g14, congrArg _ ?g15, trivial⟩, ⟨rfl, rfl, rfl, rfl, rfl⟩, trivial⟩⟩)⟩) (fun h3 => bcase_intro (fun h16 => ⟨h16, ⟨?g17, ?g18⟩, ?g19, ⟨rfl, congrArg _ ?g20⟩, rfl, congrArg _ ?g21⟩) (fun h16 => ⟨h16, ⟨rfl, congrArg _ ?g22⟩, rfl, congrArg _ ?g23⟩))⟩
  case g1 | g2 => rfl
  all_goals
    have hv1 := v.2.1
    have hv2 := v.2.2.1
  case g20 | g21 | g22 | g23 =>
    have h3 := of_decide_eq_false h3
    have hc : cntE l x.Site x.Handle = v.1.1 := cntE_is v.2.2.2.1 (by omega) (fun h => v.2.2.2.2 _ (by omega) h)
    first
      | exact (congrArg (fun n : Nat => (n : Int)) hc).symm
      | (unfold hitE; rw [hc, decide_eq_false (by have := of_decide_eq_false h16; omega)]; rfl)
      | (have h16 := of_decide_eq_true h16
         have hz : (cmpE (l.getD v.1.1 zEntry) x == 0) = isE x.Site x.Handle (l.getD v.1.1 zEntry) := by rw [Bool.eq_iff_iff, beq_iff_eq]; exact cmpE_z
         unfold hitE
         rw [hc, decide_eq_true (by omega), Bool.true_and]
         exact hz)
  case g19 => exact cust_cmpF (l.getD _ zEntry) x rfl rfl rfl
  case g17 => omega
  case g18 => exact of_decide_eq_true h16
  all_goals have h3 := of_decide_eq_true h3
  case g6 => exact cust_cmpF (l.getD _ zEntry) x rfl rfl rfl
  all_goals have hm := mid_is (a := v.1.1) (b := v.1.2) hv1 (by omega)
  case g4 | g5 => rw [hm]; omega
  case g9 => show v.1.2 - ((v.1.1 + v.1.2) / 2 + 1) < v.1.2 - v.1.1; omega
  case g10 => rw [hm]; show IntKind.i64.wrap ((((v.1.1 + v.1.2) / 2 : Nat) : Int) + 1) = (((v.1.1 + v.1.2) / 2 + 1 : Nat) : Int); rw [IntWalk.i64_in _ (by omega)]; rfl
  case g11 | g14 => rfl
  case g13 => show (v.1.1 + v.1.2) / 2 - v.1.1 < v.1.2 - v.1.1; omega
  case g15 => rw [hm]
  all_goals have h7 : decide (cmpE (l.getD (IntKind.i64.wrap ((IntKind.u64.wrap (IntKind.i64.wrap ((v.1.1 : Int) + (v.1.2 : Int)))).fdiv 2)).toNat zEntry) x < 0) = _ := h7
  all_goals rw [hm, Int.toNat_natCast] at h7
  case wa | wb | we | wf => show _ ≤ _; simp only; omega
  case wc =>
    have h7 := of_decide_eq_true h7
    intro t ht
    exact asc_lt ha (cmpE_n.1 h7) (show t ≤ (v.1.1 + v.1.2) / 2 by simp only at ht; omega) (by omega)
  case wd => exact v.2.2.2.2
  case wg => exact v.2.2.2.1
  case wh =>
    have h7 := of_decide_eq_false h7
    intro t ht hl
    refine asc_not ha (k := (v.1.1 + v.1.2) / 2) ?_ ht hl
    cases hlt : ltE (l.getD ((v.1.1 + v.1.2) / 2) zEntry) x.Site x.Handle with
    | false => rfl
    | true => exact absurd (cmpE_n.2 hlt) h7
end Go.Proofs.Ytoedfeacpllkeaa.C17i
