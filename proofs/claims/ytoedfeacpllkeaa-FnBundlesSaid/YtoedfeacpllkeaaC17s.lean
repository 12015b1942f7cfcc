import Derived.Test.YtoedfeacpllkeaaM26
import Derived.Test.YtoedfeacpllkeaaE29
namespace Go.Proofs.Ytoedfeacpllkeaa.C17s
open Go.ChangeShapes Go.WideShapes Go.ChangeAt Go.RowKit
open S0 S1 S9 Dm Fx M26 E0 E1 E2 E3 E4 E7 E10 E15 E16 E17 E18 E19 E20 E26 E28 E29 Das
set_option linter.unusedVariables false
set_option linter.unusedSimpArgs false
set_option maxRecDepth 100000
def uI : Da → Int
  | .val (.int _ x) => x
  | _ => 0
def uB : Da → Bool
  | .val (.bool b) => b
  | _ => false
/-- The entries of a row. -/
def unE (n : Nat) (el : Nat → Nat → Da) : List En := (List.range n).map fun i => ⟨uI (el i 0), uI (el i 1), uI (el i 2), uB (el i 3)⟩
theorem unE_of {n : Nat} {el : Nat → Nat → Da} {xs : List En} (h : RowOf 4 dasEntry zEntry n el xs) : unE n el = xs := by
  obtain ⟨h1, h2⟩ := h
  unfold unE
  apply List.ext_getElem (by simp [h1])
  intro i hi hj
  have e := fun j hj => h2 i (by omega) j hj
  have hg : xs.getD i zEntry = xs[i] := by simp [List.getD_eq_getElem?_getD, List.getElem?_eq_getElem hj]
  rw [List.getElem_map, List.getElem_range, e 0 (by omega), e 1 (by omega), e 2 (by omega), e 3 (by omega), hg]
  generalize xs[i] = x
  obtain ⟨_, _, _, _⟩ := x
  simp [dasEntry, uB, uI]
theorem unE_self (l : List En) : unE l.length (fun i j => (dasEntry (l.getD i zEntry)).getD j (Da.val undef)) = l := unE_of row_self
def keepO (qs : List Nat) (obs : Nat → Ob) : List (Nat × Ob) := qs.map fun q => (q, obs q)
theorem plainE (f : Nat → En) (n : Nat) : E9.PlainEl n 4 (fun i j => (dasEntry (f i)).getD j (.val undef)) := plain_row (das := dasEntry) (k := 4) (fun _ => rfl) (fun _ => rfl) f n
/-- What the calls of chapter 17 give, by their arguments. -/
noncomputable def call17 : Option Tmp → FuncId → List Grp → Option (List Grp) := fun _ f a => match f, a with
  | 57, [(_, [.val (.int _ n)]), (_, [.val (.int _ lo)]), (_, [.val (.int _ hi)])] => some [bV (inT n lo hi)]
  | 58, [(true, [.val (.int _ s1), .val (.int _ h1), .val (.int _ v1), .val (.bool d1)]), (_, [.val (.int _ s)]), (_, [.val (.int _ h)])] => some [bV (ltE ⟨s1, h1, v1, d1⟩ s h)]
  | 30, [(true, [.row _ _ n el]), (_, [.val (.int _ s)]), (_, [.val (.int _ h)])] => some [iV (fndI (unE n el) s h)]
  | 27, [(true, [.row _ _ n el])] => some [bV (vbu (unE n el))]
  | 43, [(true, [.row _ _ n el])] => some [(true, [rowR 38 4 dasEntry zEntry (unE n el)])]
  | 50, [(true, [.row _ _ n el]), (true, [.val (.int _ s1), .val (.int _ h1), .val (.int _ v1), .val (.bool d1)])] => some [(true, [rowR 38 4 dasEntry zEntry (setE (unE n el) ⟨s1, h1, v1, d1⟩)])]
  | 39, [(true, [.row _ _ n el]), (true, [.row _ _ m em])] => some [bV (eqlE (unE n el) (unE m em))]
  | 33, [(true, [.row _ _ n el]), (true, [.row _ _ m em])] => some [(true, [rowR 38 4 dasEntry zEntry (mrgX (unE n el) (unE m em))]), bV (mrgB (unE n el) (unE m em))]
  | _, _ => none
noncomputable def isC : Orc := callsBy call17
abbrev IsX (l : List En) : Type := { i : Nat // i ≤ l.length ∧ ∀ j, j < i → okAt l j = true }
def isL (l : List En) : Loops := fun r _ => match r with
  | 2 => some ⟨IsX l, fun v sl => only [1, 2, 3] 0 (sl.set 3 (.one (.val (vI v.1)))), fun _ obs => keepO [10000] obs, fun v => l.length - v.1⟩
  | _ => none
abbrev FnX (l : List En) (s h : Int) : Type := { i : Nat // i ≤ l.length ∧ ∀ j, j < i → isE s h (l.getD j zEntry) = false }
def fnL (l : List En) (s h : Int) : Loops := fun r _ => match r with
  | 2 => some ⟨FnX l s h, fun v sl => only [1, 2, 3, 6, 7] 0 (sl.set 7 (.one (.val (vI v.1)))), fun _ obs => keepO [10000] obs, fun v => l.length - v.1⟩
  | _ => none
abbrev StX (l : List En) (s h : Int) : Type := { k : Nat // k ≤ l.length ∧ ∀ j, j < k → ltE (l.getD j zEntry) s h = true }
def stL (l : List En) (s h : Int) : Loops := fun r _ => match r with
  | 7 => some ⟨StX l s h, fun v sl => only [2, 3, 4, 5, 7] 0 (sl.set 7 (.one (.val (vI v.1)))), fun _ obs => keepO [10000, 10008, 10016, 20008, 20016] obs, fun v => l.length - v.1⟩
  | _ => none
/-- A whole entry stored in an element of a row of one's own. -/
def putEl (vs : List AV) (os : List Ob) : Option Eff := match vs with
  | [.one (.elo q k i f), .agg [.val (.int _ s), .val (.int _ h), .val (.int _ v), .val (.bool d)]] => (match os with
    | .own (.row E _ n el) :: _ => some ⟨[], .one (.val undef), [(q, .own (.row E k n (putAt el i f [.val (.int .i64 s), .val (.int .i64 h), .val (.int .i64 v), .val (.bool d)])))]⟩
    | _ => none)
  | _ => none
theorem put_ent {old : World → Prop} {id q n i : Nat} {ob : Oper} {x y : Operand} {el : Nat → Nat → Da} {E : TypeId} {o : En} (ho : ob.op = .store 38 x y) (hs : size? Try.prog 38 = some 4) :
    Cust Try.prog old id ob [.one (.elo q 4 i 0), .agg [.val (.int .i64 o.Site), .val (.int .i64 o.Handle), .val (.int .i64 o.Version), .val (.bool o.Deleted)]] [.own (.row E 4 n el)] ⟨[], .one (.val undef), [(q, .own (.row E 4 n (putAt el i 0 (dasEntry o))))]⟩ :=
  cust_putV (us := [.int .i64 o.Site, .int .i64 o.Handle, .int .i64 o.Version, .bool o.Deleted]) ho hs rfl (by decide) (by decide) (fun u hu => by
    simp only [List.mem_cons, List.not_mem_nil, or_false] at hu
    rcases hu with rfl | rfl | rfl | rfl <;> rfl)
theorem put_all (x y : En) (i : Nat) : ∀ j, j < 4 → (dasEntry y).getD j (.val undef) = putAt (fun _ j => (dasEntry x).getD j (.val undef)) i 0 (dasEntry y) i j := fun j hj => by
  rw [putAt_if]
  match j, hj with
  | 0, _ | 1, _ | 2, _ | 3, _ => simp [dasEntry]
open Classical in
theorem mE (x y : En) : (match x.Site == y.Site with | false => false | true => match x.Handle == y.Handle with | false => false | true => match x.Version == y.Version with | false => false | true => match x.Deleted == y.Deleted with | false => false | true => true) = decide (x = y) := by
  obtain ⟨a, b, c, d⟩ := x
  obtain ⟨a', b', c', d'⟩ := y
  by_cases h1 : a = a'
  · by_cases h2 : b = b'
    · by_cases h3 : c = c'
      · by_cases h4 : d = d'
        · subst h1 h2 h3 h4; simp
        · subst h1 h2 h3
          have e : (d == d') = false := beq_eq_false_iff_ne.2 h4
          simp [e, h4]
      · subst h1 h2
        have e : (c == c') = false := beq_eq_false_iff_ne.2 h3
        simp [e, h3]
    · subst h1
      have e : (b == b') = false := beq_eq_false_iff_ne.2 h2
      simp [e, h2]
  · have e : (a == a') = false := beq_eq_false_iff_ne.2 h1
    simp [e, h1]
open Classical in
theorem en_not {x y : En} (h : (match (match x.Site == y.Site with | false => false | true => match x.Handle == y.Handle with | false => false | true => match x.Version == y.Version with | false => false | true => match x.Deleted == y.Deleted with | false => false | true => true) with | true => false | false => true) = true) : x ≠ y := by
  rw [mE] at h
  intro e
  rw [decide_eq_true e] at h
  cases h
open Classical in
theorem en_of {x y : En} (h : (match (match x.Site == y.Site with | false => false | true => match x.Handle == y.Handle with | false => false | true => match x.Version == y.Version with | false => false | true => match x.Deleted == y.Deleted with | false => false | true => true) with | true => false | false => true) = false) : x = y := by
  rw [mE] at h
  by_cases e : x = y
  · exact e
  · rw [decide_eq_false e] at h
    cases h
theorem mrgX_len (l m : List En) : (mrgX l m).length ≤ l.length + m.length := by
  cases e : mrgB l m with
  | true => rw [mrgX_t e]; exact mrgL_len m l
  | false => rw [mrgX_f e]; omega
noncomputable def setC (l : List En) (x : En) : Orc := ⟨fun d f a => match d with
  | some 9 => some [(true, [rowR 38 4 dasEntry zEntry l])]
  | some 15 => some [iV (fndI l x.Site x.Handle)]
  | _ => call17 d f a, fun id vs os => match id with | 50040 => putEl vs os | _ => none, fun _ => True⟩
noncomputable def putC (l : List En) (s h : Int) : Orc := callsBy fun d f a => match d with
  | some 17 => some [iV (fndI l s h)]
  | some 28 => some [(true, [rowR 38 4 dasEntry zEntry l])]
  | some 49 => some [(true, [rowR 38 4 dasEntry zEntry l])]
  | some 41 => some [bV (vbu l)]
  | some 39 => (match a with | [_, (true, [.val (.int _ s1), .val (.int _ h1), .val (.int _ v1), .val (.bool d1)])] => some [(true, [rowR 38 4 dasEntry zEntry (setE l ⟨s1, h1, v1, d1⟩)])] | _ => none)
  | _ => call17 d f a
noncomputable def delC (l : List En) (s h : Int) : Orc := callsBy fun d f a => match d with
  | some 12 => some [iV (fndI l s h)]
  | some 14 => some [bV (vbu l)]
  | some 38 => some [(true, [rowR 38 4 dasEntry zEntry l])]
  | some 50 => (match a with | [_, (true, [.val (.int _ s1), .val (.int _ h1), .val (.int _ v1), .val (.bool d1)])] => some [(true, [rowR 38 4 dasEntry zEntry (setE l ⟨s1, h1, v1, d1⟩)])] | _ => none)
  | _ => none
noncomputable def mrgC (l m : List En) : Orc := callsBy fun d f a => match d with
  | some 11 => some [bV (vbu l)]
  | some 15 => some [bV (vbu m)]
  | some 19 => some [(true, [rowR 38 4 dasEntry zEntry l])]
  | some 21 => some [(true, [rowR 38 4 dasEntry zEntry l])]
  | some 75 => some [(true, [rowR 38 4 dasEntry zEntry l])]
  | _ => call17 d f a
noncomputable def incC (l m : List En) : Orc := callsBy fun d f a => match d with
  | some 10 => some [(true, [rowR 38 4 dasEntry zEntry (mrgX l m)]), bV (mrgB l m)]
  | some 17 => some [bV (eqlE (mrgX l m) l)]
  | _ => none
abbrev UpX (l : List En) : Type := { i : Nat // i ≤ l.length }
def mgL (l m : List En) : Loops := fun r _ => match r with
  | 5 => some ⟨UpX m, fun v sl => only [2, 3, 4, 5, 6, 7] 0 (sl.set 7 (.one (.val (vI v.1)))), fun v obs => keepO [10000, 10008, 10016] obs ++ [(40016, .var 26 [.own 7]), (7, .own (rowR 38 4 dasEntry zEntry (mrgL l (m.take v.1))))], fun v => m.length - v.1⟩
  | _ => none
abbrev EqX (l m : List En) : Type := { i : Nat // i ≤ l.length ∧ l.length = m.length ∧ ∀ j, j < i → l.getD j zEntry = m.getD j zEntry }
def eqL (l m : List En) : Loops := fun r _ => match r with
  | 4 => some ⟨EqX l m, fun v sl => only [2, 3, 4, 5] 0 (sl.set 5 (.one (.val (vI v.1)))), fun _ obs => keepO [10000, 10008] obs, fun v => l.length - v.1⟩
  | _ => none
def acL (l : List En) : Loops := fun r _ => match r with
  | 3 => some ⟨UpX l, fun v sl => only [1, 2, 3, 4] 0 ((sl.set 4 (.one (.val (vI v.1)))).set 3 (.one (.own 7))), fun v obs => keepO [10000] obs ++ [(7, .own (rowR 38 4 dasEntry zEntry (actE (l.take v.1))))], fun v => l.length - v.1⟩
  | _ => none
theorem conIn (n lo hi : Int) : FnCon Try.prog 57 ([iV n, iV lo, iV hi]) ([bV (inT n lo hi)]) := by
  refine fn_go (p := bcase (decide (n ≥ lo)) (decide (n ≥ lo) = true ∧ (false = false ∧ Value.bool (decide (n ≤ hi)) = Value.bool (inT n lo hi))) (decide (n ≥ lo) = false ∧ (false = false ∧ Value.bool false = Value.bool (inT n lo hi)))) (noCalls) (noLoops) Try.func57 (by kernel_rfl) (by kernel_rfl) (by kernel_rfl) (fun _ => trivial) (by kernel_rfl) ?_
  refine bcase_intro (fun h0 => ⟨h0, rfl, congrArg _ ?g1⟩) (fun h0 => ⟨h0, rfl, congrArg _ ?g2⟩)
  case g1 => unfold inT; rw [show decide (lo ≤ n) = true from h0, Bool.true_and]
  case g2 => unfold inT; rw [show decide (lo ≤ n) = false from h0, Bool.false_and]
theorem conLess (a : En) (s h : Int) : FnCon Try.prog 58 ([(true, dasEntry a), iV s, iV h]) ([bV (ltE a s h)]) := by
  refine fn_go (p := bcase (decide (a.1 < s)) (decide (a.1 < s) = true ∧ (false = false ∧ Value.bool true = Value.bool (ltE a s h))) (bcase (a.1 == s) (decide (a.1 < s) = false ∧ ((a.1 == s) = true ∧ (false = false ∧ Value.bool (decide (a.2 < h)) = Value.bool (ltE a s h)))) (decide (a.1 < s) = false ∧ ((a.1 == s) = false ∧ (false = false ∧ Value.bool false = Value.bool (ltE a s h)))))) (noCalls) (noLoops) Try.func58 (by kernel_rfl) (by kernel_rfl) (by kernel_rfl) (fun _ => trivial) (by kernel_rfl) ?_
  refine bcase_intro (fun h0 => ⟨h0, rfl, congrArg _ ?g1⟩) (fun h0 => bcase_intro (fun h2 => ⟨h0, h2, rfl, congrArg _ ?g3⟩) (fun h2 => ⟨h0, h2, rfl, congrArg _ ?g4⟩))
  case g1 => unfold ltE; rw [h0]; rfl
  case g3 => unfold ltE; rw [show decide (a.Site < s) = false from h0, show decide (a.Site = s) = true from decide_eq_true (eq_of_beq h2)]; rfl
  case g4 => unfold ltE; rw [show decide (a.Site < s) = false from h0, show decide (a.Site = s) = false from decide_eq_false (ne_of_beq_false h2)]; rfl
theorem conIs (l : List En) (hnl : l.length ≤ 1000000000) : FnCon Try.prog 27 ([(true, [rowR 38 4 dasEntry zEntry l])]) ([bV (vbu l)]) := by
  refine fn_go (p := ((∃ x0 : IsX l, (((some 10000 = some 10000 ∧ 0 = 0) ∧ (Value.bool false = Value.bool false ∧ (vI 0 = vI (↑x0.1 : Int) ∧ True))) ∧ ((26 = 26 ∧ (DaEq (rowR 38 4 dasEntry zEntry l) (rowR 38 4 dasEntry zEntry l))) ∧ True))) ∧ (∀ v : IsX l, bcase (decide ((↑v.1 : Int) < (↑l.length : Int))) ((0 ≤ (↑v.1 : Int) ∧ (↑v.1 : Int) < (↑l.length : Int)) ∧ bcase (!inT (l.getD (↑v.1 : Int).toNat zEntry).1 0 2147483646) (FnCon Try.prog 57 [(false, [dI ((l.getD (↑v.1 : Int).toNat zEntry).1)]), (false, [dI (0)]), (false, [dI (2147483646)])] [(false, [dB ((inT (l.getD (↑v.1 : Int).toNat zEntry).1 0 2147483646))])] ∧ ((!inT (l.getD (↑v.1 : Int).toNat zEntry).1 0 2147483646) = true ∧ (true = true ∧ (true = true ∧ (false = false ∧ Value.bool false = Value.bool (vbu l)))))) (bcase (!inT (l.getD (↑v.1 : Int).toNat zEntry).2 0 1000000) (FnCon Try.prog 57 [(false, [dI ((l.getD (↑v.1 : Int).toNat zEntry).1)]), (false, [dI (0)]), (false, [dI (2147483646)])] [(false, [dB ((inT (l.getD (↑v.1 : Int).toNat zEntry).1 0 2147483646))])] ∧ ((!inT (l.getD (↑v.1 : Int).toNat zEntry).1 0 2147483646) = false ∧ (FnCon Try.prog 57 [(false, [dI ((l.getD (↑v.1 : Int).toNat zEntry).2)]), (false, [dI (0)]), (false, [dI (1000000)])] [(false, [dB ((inT (l.getD (↑v.1 : Int).toNat zEntry).2 0 1000000))])] ∧ ((!inT (l.getD (↑v.1 : Int).toNat zEntry).2 0 1000000) = true ∧ (true = true ∧ (false = false ∧ Value.bool false = Value.bool (vbu l))))))) (bcase (!inT (l.getD (↑v.1 : Int).toNat zEntry).3 1 1000000) (FnCon Try.prog 57 [(false, [dI ((l.getD (↑v.1 : Int).toNat zEntry).1)]), (false, [dI (0)]), (false, [dI (2147483646)])] [(false, [dB ((inT (l.getD (↑v.1 : Int).toNat zEntry).1 0 2147483646))])] ∧ ((!inT (l.getD (↑v.1 : Int).toNat zEntry).1 0 2147483646) = false ∧ (FnCon Try.prog 57 [(false, [dI ((l.getD (↑v.1 : Int).toNat zEntry).2)]), (false, [dI (0)]), (false, [dI (1000000)])] [(false, [dB ((inT (l.getD (↑v.1 : Int).toNat zEntry).2 0 1000000))])] ∧ ((!inT (l.getD (↑v.1 : Int).toNat zEntry).2 0 1000000) = false ∧ (FnCon Try.prog 57 [(false, [dI ((l.getD (↑v.1 : Int).toNat zEntry).3)]), (false, [dI (1)]), (false, [dI (1000000)])] [(false, [dB ((inT (l.getD (↑v.1 : Int).toNat zEntry).3 1 1000000))])] ∧ ((!inT (l.getD (↑v.1 : Int).toNat zEntry).3 1 1000000) = true ∧ (false = false ∧ Value.bool false = Value.bool (vbu l)))))))) (bcase (decide ((↑v.1 : Int) > 0)) (FnCon Try.prog 57 [(false, [dI ((l.getD (↑v.1 : Int).toNat zEntry).1)]), (false, [dI (0)]), (false, [dI (2147483646)])] [(false, [dB ((inT (l.getD (↑v.1 : Int).toNat zEntry).1 0 2147483646))])] ∧ ((!inT (l.getD (↑v.1 : Int).toNat zEntry).1 0 2147483646) = false ∧ (FnCon Try.prog 57 [(false, [dI ((l.getD (↑v.1 : Int).toNat zEntry).2)]), (false, [dI (0)]), (false, [dI (1000000)])] [(false, [dB ((inT (l.getD (↑v.1 : Int).toNat zEntry).2 0 1000000))])] ∧ ((!inT (l.getD (↑v.1 : Int).toNat zEntry).2 0 1000000) = false ∧ (FnCon Try.prog 57 [(false, [dI ((l.getD (↑v.1 : Int).toNat zEntry).3)]), (false, [dI (1)]), (false, [dI (1000000)])] [(false, [dB ((inT (l.getD (↑v.1 : Int).toNat zEntry).3 1 1000000))])] ∧ ((!inT (l.getD (↑v.1 : Int).toNat zEntry).3 1 1000000) = false ∧ (decide ((↑v.1 : Int) > 0) = true ∧ ((0 ≤ IntKind.i64.wrap ((↑v.1 : Int) - 1) ∧ IntKind.i64.wrap ((↑v.1 : Int) - 1) < (↑l.length : Int)) ∧ (FnCon Try.prog 58 [(true, [dI ((l.getD (IntKind.i64.wrap ((↑v.1 : Int) - 1)).toNat zEntry).1), dI ((l.getD (IntKind.i64.wrap ((↑v.1 : Int) - 1)).toNat zEntry).2), dI ((l.getD (IntKind.i64.wrap ((↑v.1 : Int) - 1)).toNat zEntry).3), dB ((l.getD (IntKind.i64.wrap ((↑v.1 : Int) - 1)).toNat zEntry).4)]), (false, [dI ((l.getD (↑v.1 : Int).toNat zEntry).1)]), (false, [dI ((l.getD (↑v.1 : Int).toNat zEntry).2)])] [(false, [dB ((ltE { Site := (l.getD (IntKind.i64.wrap ((↑v.1 : Int) - 1)).toNat zEntry).1, Handle := (l.getD (IntKind.i64.wrap ((↑v.1 : Int) - 1)).toNat zEntry).2, Version := (l.getD (IntKind.i64.wrap ((↑v.1 : Int) - 1)).toNat zEntry).3, Deleted := (l.getD (IntKind.i64.wrap ((↑v.1 : Int) - 1)).toNat zEntry).4 } (l.getD (↑v.1 : Int).toNat zEntry).1 (l.getD (↑v.1 : Int).toNat zEntry).2))])] ∧ bcase (!ltE { Site := (l.getD (IntKind.i64.wrap ((↑v.1 : Int) - 1)).toNat zEntry).1, Handle := (l.getD (IntKind.i64.wrap ((↑v.1 : Int) - 1)).toNat zEntry).2, Version := (l.getD (IntKind.i64.wrap ((↑v.1 : Int) - 1)).toNat zEntry).3, Deleted := (l.getD (IntKind.i64.wrap ((↑v.1 : Int) - 1)).toNat zEntry).4 } (l.getD (↑v.1 : Int).toNat zEntry).1 (l.getD (↑v.1 : Int).toNat zEntry).2) (false = false ∧ Value.bool false = Value.bool (vbu l)) (∃ v' : IsX l, (l.length.sub v'.1 < l.length.sub v.1 ∧ (((some 10000 = some 10000 ∧ 0 = 0) ∧ (Value.bool false = Value.bool false ∧ (vI (IntKind.i64.wrap ((↑v.1 : Int) + 1)) = vI (↑v'.1 : Int) ∧ True))) ∧ ((26 = 26 ∧ (DaEq (rowR 38 4 dasEntry zEntry l) (rowR 38 4 dasEntry zEntry l))) ∧ True))))))))))))) (FnCon Try.prog 57 [(false, [dI ((l.getD (↑v.1 : Int).toNat zEntry).1)]), (false, [dI (0)]), (false, [dI (2147483646)])] [(false, [dB ((inT (l.getD (↑v.1 : Int).toNat zEntry).1 0 2147483646))])] ∧ ((!inT (l.getD (↑v.1 : Int).toNat zEntry).1 0 2147483646) = false ∧ (FnCon Try.prog 57 [(false, [dI ((l.getD (↑v.1 : Int).toNat zEntry).2)]), (false, [dI (0)]), (false, [dI (1000000)])] [(false, [dB ((inT (l.getD (↑v.1 : Int).toNat zEntry).2 0 1000000))])] ∧ ((!inT (l.getD (↑v.1 : Int).toNat zEntry).2 0 1000000) = false ∧ (FnCon Try.prog 57 [(false, [dI ((l.getD (↑v.1 : Int).toNat zEntry).3)]), (false, [dI (1)]), (false, [dI (1000000)])] [(false, [dB ((inT (l.getD (↑v.1 : Int).toNat zEntry).3 1 1000000))])] ∧ ((!inT (l.getD (↑v.1 : Int).toNat zEntry).3 1 1000000) = false ∧ (decide ((↑v.1 : Int) > 0) = false ∧ (∃ v' : IsX l, (l.length.sub v'.1 < l.length.sub v.1 ∧ (((some 10000 = some 10000 ∧ 0 = 0) ∧ (Value.bool false = Value.bool false ∧ (vI (IntKind.i64.wrap ((↑v.1 : Int) + 1)) = vI (↑v'.1 : Int) ∧ True))) ∧ ((26 = 26 ∧ (DaEq (rowR 38 4 dasEntry zEntry l) (rowR 38 4 dasEntry zEntry l))) ∧ True))))))))))))))) (false = false ∧ Value.bool (decide ((↑l.length : Int) ≤ 20)) = Value.bool (vbu l))))) (isC) (isL l) Try.func27 (by kernel_rfl) (by kernel_rfl) (by kernel_rfl) (fun _ => trivial) (by kernel_rfl) ?_
  refine ⟨⟨⟨0, Nat.zero_le _, fun j h => absurd h (Nat.not_lt_zero _)⟩, ⟨⟨⟨rfl, rfl⟩, rfl, congrArg _ ?g1, trivial⟩, ⟨rfl, DaEq.refl _⟩, trivial⟩⟩, fun v => bcase_intro (fun h2 => ⟨⟨?g3, ?g4⟩, bcase_intro (fun h5 => ⟨?g6, h5, rfl, rfl, rfl, congrArg _ ?g7⟩) (fun h5 => bcase_intro (fun h8 => ⟨?g9, h5, ?g10, h8, rfl, rfl, congrArg _ ?g11⟩) (fun h8 => bcase_intro (fun h12 => ⟨?g13, h5, ?g14, h8, ?g15, h12, rfl, congrArg _ ?g16⟩) (fun h12 => bcase_intro (fun h17 => ⟨?g18, h5, ?g19, h8, ?g20, h12, h17, ⟨?g21, ?g22⟩, ?g23, bcase_intro (fun h24 => ⟨rfl, congrArg _ ?g25⟩) (fun h24 => ⟨⟨v.1 + 1, ?wa, ?wb⟩, ⟨?g27, ⟨⟨rfl, rfl⟩, rfl, congrArg _ ?g28, trivial⟩, ⟨rfl, DaEq.refl _⟩, trivial⟩⟩)⟩) (fun h17 => ⟨?g29, h5, ?g30, h8, ?g31, h12, h17, ⟨⟨v.1 + 1, ?wc, ?wd⟩, ⟨?g33, ⟨⟨rfl, rfl⟩, rfl, congrArg _ ?g34, trivial⟩, ⟨rfl, DaEq.refl _⟩, trivial⟩⟩⟩))))⟩) (fun h2 => ⟨rfl, congrArg _ ?g35⟩)⟩
  case g1 => rfl
  case g35 =>
    have h2 := of_decide_eq_false h2
    rw [vbu_all fun j hj => v.2.2 j (by omega)]
    exact decide_eq_decide.2 (by omega)
  all_goals have h2 := of_decide_eq_true h2
  case g3 | g4 => omega
  case g6 | g9 | g10 | g13 | g14 | g15 | g18 | g19 | g20 | g29 | g30 | g31 => exact conIn _ _ _
  case g23 => exact conLess (l.getD _ zEntry) _ _
  case g27 | g33 => show l.length - (v.1 + 1) < l.length - v.1; omega
  case g28 | g34 => show IntKind.i64.wrap ((v.1 : Int) + 1) = ((v.1 + 1 : Nat) : Int); rw [IntWalk.i64_in _ (by omega)]; rfl
  case g7 => exact (vbu_at (i := v.1) (by omega) (okAt_e (okE_1 (by simpa using h5)))).symm
  case g11 => exact (vbu_at (i := v.1) (by omega) (okAt_e (okE_2 (by simpa using h8)))).symm
  case g16 => exact (vbu_at (i := v.1) (by omega) (okAt_e (okE_3 (by simpa using h12)))).symm
  case g21 | g22 =>
    have h17 := of_decide_eq_true h17
    rw [IntWalk.i64_in _ (by omega)]
    omega
  case g25 =>
    have h17 := of_decide_eq_true h17
    have e : (IntKind.i64.wrap ((v.1 : Int) - 1)).toNat = v.1 - 1 := by rw [IntWalk.i64_in _ (by omega)]; omega
    rw [e] at h24
    exact (vbu_at (i := v.1) (by omega) (okAt_f (by omega) (by simpa using h24))).symm
  case wa | wc => omega
  case wb =>
    intro j hj
    rcases Nat.lt_or_ge j v.1 with h | h
    · exact v.2.2 j h
    · obtain rfl : j = v.1 := by omega
      have h17 := of_decide_eq_true h17
      have e : (IntKind.i64.wrap ((v.1 : Int) - 1)).toNat = v.1 - 1 := by rw [IntWalk.i64_in _ (by omega)]; omega
      rw [e] at h24
      exact okAt_l (okE_t (by simpa using h5) (by simpa using h8) (by simpa using h12)) (by simpa using h24)
  case wd =>
    intro j hj
    rcases Nat.lt_or_ge j v.1 with h | h
    · exact v.2.2 j h
    · obtain rfl : j = v.1 := by omega
      have h17 := of_decide_eq_false h17
      exact okAt_0 (okE_t (by simpa using h5) (by simpa using h8) (by simpa using h12)) (by omega)
theorem conFnd (l : List En) (s h : Int) (hnl : l.length ≤ 1000000000) : FnCon Try.prog 30 ([(true, [rowR 38 4 dasEntry zEntry l]), iV s, iV h]) ([iV (fndI l s h)]) := by
  refine fn_go (p := ((∃ x0 : FnX l s h, ((vI s = vI s ∧ (vI h = vI h ∧ ((some 10000 = some 10000 ∧ 0 = 0) ∧ (vI 0 = vI 0 ∧ (vI 0 = vI (↑x0.1 : Int) ∧ True))))) ∧ ((26 = 26 ∧ (DaEq (rowR 38 4 dasEntry zEntry l) (rowR 38 4 dasEntry zEntry l))) ∧ True))) ∧ (∀ v : FnX l s h, bcase (decide ((↑v.1 : Int) < (↑l.length : Int))) (bcase ((l.getD (↑v.1 : Int).toNat zEntry).1 == s) ((0 ≤ (↑v.1 : Int) ∧ (↑v.1 : Int) < (↑l.length : Int)) ∧ (((l.getD (↑v.1 : Int).toNat zEntry).1 == s) = true ∧ ((0 ≤ (↑v.1 : Int) ∧ (↑v.1 : Int) < (↑l.length : Int)) ∧ bcase ((l.getD (↑v.1 : Int).toNat zEntry).2 == h) (false = false ∧ vI (↑v.1 : Int) = vI (fndI l s h)) (∃ v' : FnX l s h, (l.length.sub v'.1 < l.length.sub v.1 ∧ ((vI s = vI s ∧ (vI h = vI h ∧ ((some 10000 = some 10000 ∧ 0 = 0) ∧ (vI 0 = vI 0 ∧ (vI (IntKind.i64.wrap ((↑v.1 : Int) + 1)) = vI (↑v'.1 : Int) ∧ True))))) ∧ ((26 = 26 ∧ (DaEq (rowR 38 4 dasEntry zEntry l) (rowR 38 4 dasEntry zEntry l))) ∧ True))))))) ((0 ≤ (↑v.1 : Int) ∧ (↑v.1 : Int) < (↑l.length : Int)) ∧ (((l.getD (↑v.1 : Int).toNat zEntry).1 == s) = false ∧ (∃ v' : FnX l s h, (l.length.sub v'.1 < l.length.sub v.1 ∧ ((vI s = vI s ∧ (vI h = vI h ∧ ((some 10000 = some 10000 ∧ 0 = 0) ∧ (vI 0 = vI 0 ∧ (vI (IntKind.i64.wrap ((↑v.1 : Int) + 1)) = vI (↑v'.1 : Int) ∧ True))))) ∧ ((26 = 26 ∧ (DaEq (rowR 38 4 dasEntry zEntry l) (rowR 38 4 dasEntry zEntry l))) ∧ True))))))) (false = false ∧ vI (-1) = vI (fndI l s h))))) (noCalls) (fnL l s h) Try.func30 (by kernel_rfl) (by kernel_rfl) (by kernel_rfl) (fun _ => trivial) (by kernel_rfl) ?_
  refine ⟨⟨⟨0, Nat.zero_le _, fun j h => absurd h (Nat.not_lt_zero _)⟩, ⟨⟨rfl, rfl, ⟨rfl, rfl⟩, rfl, congrArg _ ?g1, trivial⟩, ⟨rfl, DaEq.refl _⟩, trivial⟩⟩, fun v => bcase_intro (fun h2 => bcase_intro (fun h3 => ⟨⟨?g4, ?g5⟩, h3, ⟨?g6, ?g7⟩, bcase_intro (fun h8 => ⟨rfl, congrArg _ ?g9⟩) (fun h8 => ⟨⟨v.1 + 1, ?wa, ?wb⟩, ⟨?g11, ⟨rfl, rfl, ⟨rfl, rfl⟩, rfl, congrArg _ ?g12, trivial⟩, ⟨rfl, DaEq.refl _⟩, trivial⟩⟩)⟩) (fun h3 => ⟨⟨?g13, ?g14⟩, h3, ⟨⟨v.1 + 1, ?wc, ?wd⟩, ⟨?g16, ⟨rfl, rfl, ⟨rfl, rfl⟩, rfl, congrArg _ ?g17, trivial⟩, ⟨rfl, DaEq.refl _⟩, trivial⟩⟩⟩)) (fun h2 => ⟨rfl, congrArg _ ?g18⟩)⟩
  case g1 => rfl
  case g18 =>
    have h2 := of_decide_eq_false h2
    exact (fndI_none (fndE_none fun j hj => v.2.2 j (by omega))).symm
  all_goals have h2 := of_decide_eq_true h2
  case g4 | g5 | g6 | g7 | g13 | g14 => omega
  case g11 | g16 => show l.length - (v.1 + 1) < l.length - v.1; omega
  case g12 | g17 => show IntKind.i64.wrap ((v.1 : Int) + 1) = ((v.1 + 1 : Nat) : Int); rw [IntWalk.i64_in _ (by omega)]; rfl
  case g9 => exact (fndI_some (fndE_some (k := v.1) (by omega) (isE_iff.2 ⟨eq_of_beq h3, eq_of_beq h8⟩) v.2.2)).symm
  case wa | wc => omega
  case wb =>
    intro j hj
    rcases Nat.lt_or_ge j v.1 with h | h
    · exact v.2.2 j h
    · obtain rfl : j = v.1 := by omega
      exact isE_not.2 fun e => ne_of_beq_false h8 e.2
  case wd =>
    intro j hj
    rcases Nat.lt_or_ge j v.1 with h | h
    · exact v.2.2 j h
    · obtain rfl : j = v.1 := by omega
      exact isE_not.2 fun e => ne_of_beq_false h3 e.1
theorem conCopy (l : List En) (hnl : l.length ≤ 16000000) : FnCon Try.prog 43 ([(true, [rowR 38 4 dasEntry zEntry l])]) ([(true, [rowR 38 4 dasEntry zEntry l])]) := by
  refine fn_go (p := ((E9.PlainEl l.length 4 fun i j => (dasEntry (l.getD i zEntry)).getD j (Da.val undef)) ∧ (0 + l.length ≤ 1000000000000 ∧ ((0 + l.length) * 32 ≤ 140737488355328 ∧ (true = true ∧ (DaEq (Da.row 38 4 (0 + l.length) fun i j => (dasEntry (l.getD (i - 0) zEntry)).getD j (Da.val undef)) (rowR 38 4 dasEntry zEntry l))))))) (noCalls) (noLoops) Try.func43 (by kernel_rfl) (by kernel_rfl) (by kernel_rfl) (fun _ => trivial) (by kernel_rfl) ?_
  refine ⟨?g0, ?g1, ?g2, rfl, ?g3⟩
  case g0 => exact plainE _ _
  case g3 => exact row_to (row_app row_nil row_self) (by simp)
  all_goals omega
theorem conSet (l : List En) (x : En) (hnl : l.length ≤ 16000000) : FnCon Try.prog 50 ([(true, [rowR 38 4 dasEntry zEntry l]), (true, dasEntry x)]) ([(true, [rowR 38 4 dasEntry zEntry (setE l x)])]) := by
  refine fn_go (p := ((FnCon Try.prog 43 [(true, [rowR 38 4 dasEntry zEntry l])] [(true, [rowR 38 4 dasEntry zEntry l])]) ∧ ((FnCon Try.prog 30 [(true, [rowR 38 4 dasEntry zEntry l]), (false, [dI (x.1)]), (false, [dI (x.2)])] [(false, [dI ((fndI l x.1 x.2))])]) ∧ bcase (decide (fndI l x.1 x.2 ≥ 0)) ((0 ≤ fndI l x.1 x.2 ∧ fndI l x.1 x.2 < (↑l.length : Int)) ∧ ((Cust Try.prog (fun x => True) 50040 (opOf (Try.f50.body.getD Code.skip) 4 5) [AV.one (Sc.elo 20008 4 (fndI l x.1 x.2).toNat 0), AV.agg [Sc.val (vI x.1), Sc.val (vI x.2), Sc.val (vI x.3), Sc.val (Value.bool x.4)]] [Ob.own (rowR 38 4 dasEntry zEntry l)]
  { need := [], val := AV.one (Sc.val undef),
    mem :=
      [(20008,
          Ob.own
            (Da.row 38 4 l.length fun a b =>
              match a.beq (fndI l x.1 x.2).toNat with
              | true =>
                match (0 + [dI (x.1), dI (x.2), dI (x.3), dB (x.4)].length).ble b with
                | true => (dasEntry (l.getD a zEntry)).getD b (Da.val undef)
                | false => [dI (x.1), dI (x.2), dI (x.3), dB (x.4)].getD (b - 0) (Da.val undef)
              | false => (dasEntry (l.getD a zEntry)).getD b (Da.val undef)))] }) ∧ (true = true ∧ (DaEq
  (Da.row 38 4 l.length fun a b =>
    match a.beq (fndI l x.1 x.2).toNat with
    | true =>
      match (0 + [dI (x.1), dI (x.2), dI (x.3), dB (x.4)].length).ble b with
      | true => (dasEntry (l.getD a zEntry)).getD b (Da.val undef)
      | false => [dI (x.1), dI (x.2), dI (x.3), dB (x.4)].getD (b - 0) (Da.val undef)
    | false => (dasEntry (l.getD a zEntry)).getD b (Da.val undef))
  (Da.row 38 4 (setE l x).length fun i j => (dasEntry ((setE l x).getD i zEntry)).getD j (Da.val undef)))))) ((∃ x0 : StX l x.1 x.2, (((some 10000 = some 10000 ∧ 0 = 0) ∧ ((some 10008 = some 10008 ∧ 0 = 0) ∧ ((some 10016 = some 10016 ∧ 0 = 0) ∧ ((some 20016 = some 20016 ∧ 0 = 0) ∧ (vI 0 = vI (↑x0.1 : Int) ∧ True))))) ∧ ((26 = 26 ∧ (DaEq (rowR 38 4 dasEntry zEntry l) (rowR 38 4 dasEntry zEntry l))) ∧ ((38 = 38 ∧ (vI x.1 = vI x.1 ∧ (vI x.2 = vI x.2 ∧ (vI x.3 = vI x.3 ∧ Value.bool x.4 = Value.bool x.4)))) ∧ ((26 = 26 ∧ Value.slice none 0 0 = Value.slice none 0 0) ∧ ((DaEq (rowR 38 4 dasEntry zEntry l) (rowR 38 4 dasEntry zEntry l)) ∧ ((26 = 26 ∧ some 20008 = some 20008) ∧ True))))))) ∧ (∀ v : StX l x.1 x.2, bcase (decide ((↑v.1 : Int) < (↑l.length : Int))) (decide ((↑v.1 : Int) < (↑l.length : Int)) = true ∧ ((0 ≤ (↑v.1 : Int) ∧ (↑v.1 : Int) < (↑l.length : Int)) ∧ (FnCon Try.prog 58 [(true, [dI ((l.getD (↑v.1 : Int).toNat zEntry).1), dI ((l.getD (↑v.1 : Int).toNat zEntry).2), dI ((l.getD (↑v.1 : Int).toNat zEntry).3), dB ((l.getD (↑v.1 : Int).toNat zEntry).4)]), (false, [dI (x.1)]), (false, [dI (x.2)])] [(false, [dB ((ltE { Site := (l.getD (↑v.1 : Int).toNat zEntry).1, Handle := (l.getD (↑v.1 : Int).toNat zEntry).2, Version := (l.getD (↑v.1 : Int).toNat zEntry).3, Deleted := (l.getD (↑v.1 : Int).toNat zEntry).4 } x.1 x.2))])] ∧ bcase (ltE { Site := (l.getD (↑v.1 : Int).toNat zEntry).1, Handle := (l.getD (↑v.1 : Int).toNat zEntry).2, Version := (l.getD (↑v.1 : Int).toNat zEntry).3, Deleted := (l.getD (↑v.1 : Int).toNat zEntry).4 } x.1 x.2) (∃ v' : StX l x.1 x.2, (l.length.sub v'.1 < l.length.sub v.1 ∧ (((some 10000 = some 10000 ∧ 0 = 0) ∧ ((some 10008 = some 10008 ∧ 0 = 0) ∧ ((some 10016 = some 10016 ∧ 0 = 0) ∧ ((some 20016 = some 20016 ∧ 0 = 0) ∧ (vI (IntKind.i64.wrap ((↑v.1 : Int) + 1)) = vI (↑v'.1 : Int) ∧ True))))) ∧ ((26 = 26 ∧ (DaEq (rowR 38 4 dasEntry zEntry l) (rowR 38 4 dasEntry zEntry l))) ∧ ((38 = 38 ∧ (vI x.1 = vI x.1 ∧ (vI x.2 = vI x.2 ∧ (vI x.3 = vI x.3 ∧ Value.bool x.4 = Value.bool x.4)))) ∧ ((26 = 26 ∧ Value.slice none 0 0 = Value.slice none 0 0) ∧ ((DaEq (rowR 38 4 dasEntry zEntry l) (rowR 38 4 dasEntry zEntry l)) ∧ ((26 = 26 ∧ some 20008 = some 20008) ∧ True)))))))) ((Int.NonNeg 0 ∧ (0 ≤ (↑v.1 : Int) ∧ (↑v.1 : Int) ≤ (↑l.length : Int))) ∧ ((E9.PlainEl (↑v.1 : Int).toNat 4 fun i j => (dasEntry (l.getD i zEntry)).getD j (Da.val undef)) ∧ (0 + (↑v.1 : Int).toNat ≤ 1000000000000 ∧ ((0 + (↑v.1 : Int).toNat) * 32 ≤ 140737488355328 ∧ ((E9.PlainEl 1 4 fun i j => Da.val ([vI x.1, vI x.2, vI x.3, Value.bool x.4].getD (i * 4 + j) undef)) ∧ (0 + (↑v.1 : Int).toNat + 1 ≤ 1000000000000 ∧ ((0 + (↑v.1 : Int).toNat + 1) * 32 ≤ 140737488355328 ∧ ((0 ≤ (↑v.1 : Int) ∧ ((↑v.1 : Int) ≤ (↑l.length : Int) ∧ (↑l.length : Int) ≤ (↑l.length : Int))) ∧ ((E9.PlainEl (l.length.sub (↑v.1 : Int).toNat) 4 fun i j => (dasEntry (l.getD (i + (↑v.1 : Int).toNat) zEntry)).getD j (Da.val undef)) ∧ (0 + (↑v.1 : Int).toNat + 1 + l.length.sub (↑v.1 : Int).toNat ≤ 1000000000000 ∧ ((0 + (↑v.1 : Int).toNat + 1 + l.length.sub (↑v.1 : Int).toNat) * 32 ≤ 140737488355328 ∧ (true = true ∧ (DaEq
  (Da.row 38 4 (0 + (↑v.1 : Int).toNat + 1 + l.length.sub (↑v.1 : Int).toNat) fun i j =>
    match i.ble (0 + (↑v.1 : Int).toNat) with
    | true =>
      match i.succ.ble (0 + (↑v.1 : Int).toNat) with
      | true => (dasEntry (l.getD (i - 0) zEntry)).getD j (Da.val undef)
      | false => Da.val ([vI x.1, vI x.2, vI x.3, Value.bool x.4].getD ((i - (0 + (↑v.1 : Int).toNat)) * 4 + j) undef)
    | false => (dasEntry (l.getD (i - (0 + (↑v.1 : Int).toNat + 1) + (↑v.1 : Int).toNat) zEntry)).getD j (Da.val undef))
  (Da.row 38 4 (setE l x).length fun i j => (dasEntry ((setE l x).getD i zEntry)).getD j (Da.val undef)))))))))))))))))) (decide ((↑v.1 : Int) < (↑l.length : Int)) = false ∧ ((Int.NonNeg 0 ∧ (0 ≤ (↑v.1 : Int) ∧ (↑v.1 : Int) ≤ (↑l.length : Int))) ∧ ((E9.PlainEl (↑v.1 : Int).toNat 4 fun i j => (dasEntry (l.getD i zEntry)).getD j (Da.val undef)) ∧ (0 + (↑v.1 : Int).toNat ≤ 1000000000000 ∧ ((0 + (↑v.1 : Int).toNat) * 32 ≤ 140737488355328 ∧ ((E9.PlainEl 1 4 fun i j => Da.val ([vI x.1, vI x.2, vI x.3, Value.bool x.4].getD (i * 4 + j) undef)) ∧ (0 + (↑v.1 : Int).toNat + 1 ≤ 1000000000000 ∧ ((0 + (↑v.1 : Int).toNat + 1) * 32 ≤ 140737488355328 ∧ ((0 ≤ (↑v.1 : Int) ∧ ((↑v.1 : Int) ≤ (↑l.length : Int) ∧ (↑l.length : Int) ≤ (↑l.length : Int))) ∧ ((E9.PlainEl (l.length.sub (↑v.1 : Int).toNat) 4 fun i j => (dasEntry (l.getD (i + (↑v.1 : Int).toNat) zEntry)).getD j (Da.val undef)) ∧ (0 + (↑v.1 : Int).toNat + 1 + l.length.sub (↑v.1 : Int).toNat ≤ 1000000000000 ∧ ((0 + (↑v.1 : Int).toNat + 1 + l.length.sub (↑v.1 : Int).toNat) * 32 ≤ 140737488355328 ∧ (true = true ∧ (DaEq
  (Da.row 38 4 (0 + (↑v.1 : Int).toNat + 1 + l.length.sub (↑v.1 : Int).toNat) fun i j =>
    match i.ble (0 + (↑v.1 : Int).toNat) with
    | true =>
      match i.succ.ble (0 + (↑v.1 : Int).toNat) with
      | true => (dasEntry (l.getD (i - 0) zEntry)).getD j (Da.val undef)
      | false => Da.val ([vI x.1, vI x.2, vI x.3, Value.bool x.4].getD ((i - (0 + (↑v.1 : Int).toNat)) * 4 + j) undef)
    | false => (dasEntry (l.getD (i - (0 + (↑v.1 : Int).toNat + 1) + (↑v.1 : Int).toNat) zEntry)).getD j (Da.val undef))
  (Da.row 38 4 (setE l x).length fun i j => (dasEntry ((setE l x).getD i zEntry)).getD j (Da.val undef))))))))))))))))))))) (setC l x) (stL l x.Site x.Handle) Try.func50 (by kernel_rfl) (by kernel_rfl) (by kernel_rfl) (fun _ => trivial) (by kernel_rfl) ?_
  refine ⟨?g0, ?g1, bcase_intro (fun h2 => ⟨⟨?g3, ?g4⟩, ?g5, rfl, ?g6⟩) (fun h2 => ⟨⟨⟨0, Nat.zero_le _, fun j h => absurd h (Nat.not_lt_zero _)⟩, ⟨⟨⟨rfl, rfl⟩, ⟨rfl, rfl⟩, ⟨rfl, rfl⟩, ⟨rfl, rfl⟩, congrArg _ ?g8, trivial⟩, ⟨rfl, DaEq.refl _⟩, ⟨rfl, rfl, rfl, rfl, rfl⟩, ⟨rfl, rfl⟩, DaEq.refl _, ⟨rfl, rfl⟩, trivial⟩⟩, fun v => bcase_intro (fun h9 => ⟨h9, ⟨?g10, ?g11⟩, ?g12, bcase_intro (fun h13 => ⟨⟨v.1 + 1, ?wa, ?wb⟩, ⟨?g15, ⟨⟨rfl, rfl⟩, ⟨rfl, rfl⟩, ⟨rfl, rfl⟩, ⟨rfl, rfl⟩, congrArg _ ?g16, trivial⟩, ⟨rfl, DaEq.refl _⟩, ⟨rfl, rfl, rfl, rfl, rfl⟩, ⟨rfl, rfl⟩, DaEq.refl _, ⟨rfl, rfl⟩, trivial⟩⟩) (fun h13 => ⟨⟨?g17, ?g18, ?g19⟩, ?g20, ?g21, ?g22, ?g23, ?g24, ?g25, ⟨?g26, ?g27, ?g28⟩, ?g29, ?g30, ?g31, rfl, ?g32⟩)⟩) (fun h9 => ⟨h9, ⟨?g33, ?g34, ?g35⟩, ?g36, ?g37, ?g38, ?g39, ?g40, ?g41, ⟨?g42, ?g43, ?g44⟩, ?g45, ?g46, ?g47, rfl, ?g48⟩)⟩)⟩
  case g0 => exact conCopy l hnl
  case g1 => exact conFnd l _ _ (by omega)
  case g3 => exact of_decide_eq_true h2
  case g4 =>
    obtain ⟨k, e, ek⟩ := fndI_pos (of_decide_eq_true h2)
    have := (fndE_at e).1
    omega
  case g5 => exact put_ent rfl (by kernel_rfl)
  case g6 =>
    obtain ⟨k, e, ek⟩ := fndI_pos (of_decide_eq_true h2)
    exact row_to (row_putAt (i := (fndI l x.Site x.Handle).toNat) (f := 0) (ds := dasEntry x) (y := x) row_self fun j hj => put_all _ _ _ j hj) (by rw [setE_some e, ek]; rfl)
  all_goals have e : fndE l x.Site x.Handle = none := fndI_neg (of_decide_eq_false h2)
  case g8 => rfl
  case g20 | g29 | g36 | g45 => exact plainE _ _
  case g23 | g39 =>
    intro i hi j hj
    obtain rfl : i = 0 := by omega
    match j, hj with
    | 0, _ | 1, _ | 2, _ | 3, _ => rfl
  case g30 | g46 => show 0 + (v.1 : Int).toNat + 1 + (l.length - (v.1 : Int).toNat) ≤ _; omega
  case g31 | g47 => show (0 + (v.1 : Int).toNat + 1 + (l.length - (v.1 : Int).toNat)) * 32 ≤ _; omega
  case g32 =>
    have hc : cntE l x.Site x.Handle = v.1 := cntE_is v.2.2 v.2.1 fun _ => h13
    exact row_to (row_app (row_app (row_app row_nil (row_take row_self (m := (v.1 : Int).toNat) (by omega))) (row_one (x := x) fun j hj => by
      match j, hj with
      | 0, _ | 1, _ | 2, _ | 3, _ => rfl)) (row_drop row_self (v.1 : Int).toNat)) (by rw [setE_none e, hc]; unfold insE; simp)
  case g48 =>
    have h9 := of_decide_eq_false h9
    have hc : cntE l x.Site x.Handle = v.1 := cntE_is v.2.2 v.2.1 fun _ => by omega
    exact row_to (row_app (row_app (row_app row_nil (row_take row_self (m := (v.1 : Int).toNat) (by omega))) (row_one (x := x) fun j hj => by
      match j, hj with
      | 0, _ | 1, _ | 2, _ | 3, _ => rfl)) (row_drop row_self (v.1 : Int).toNat)) (by rw [setE_none e, hc]; unfold insE; simp)
  case g17 | g33 => exact Int.le_refl 0
  case g18 | g19 | g21 | g22 | g24 | g25 | g26 | g27 | g28 | g34 | g35 | g37 | g38 | g40 | g41 | g42 | g43 | g44 => have := v.2.1; omega
  all_goals have h9 := of_decide_eq_true h9
  case g10 | g11 => omega
  case g12 => exact conLess (l.getD _ zEntry) _ _
  case g15 => show l.length - (v.1 + 1) < l.length - v.1; omega
  case g16 => show IntKind.i64.wrap ((v.1 : Int) + 1) = ((v.1 + 1 : Nat) : Int); rw [IntWalk.i64_in _ (by omega)]; rfl
  case wa => omega
  case wb =>
    intro j hj
    rcases Nat.lt_or_ge j v.1 with h | h
    · exact v.2.2 j h
    · obtain rfl : j = v.1 := by omega
      exact h13
theorem conPut (l : List En) (s h : Int) (hnl : l.length ≤ 16000000) : FnCon Try.prog 25 ([(true, [rowR 38 4 dasEntry zEntry l]), iV s, iV h]) ([(true, [rowR 38 4 dasEntry zEntry (putX l s h)]), bV (putB l s h)]) := by
  refine fn_go (p := ((FnCon Try.prog 30 [(true, [rowR 38 4 dasEntry zEntry l]), (false, [dI (s)]), (false, [dI (h)])] [(false, [dI ((fndI l s h))])]) ∧ bcase (decide (fndI l s h ≥ 0)) ((0 ≤ fndI l s h ∧ fndI l s h < (↑l.length : Int)) ∧ bcase (!(l.getD (fndI l s h).toNat zEntry).4) ((FnCon Try.prog 43 [(true, [rowR 38 4 dasEntry zEntry l])] [(true, [rowR 38 4 dasEntry zEntry l])]) ∧ ((true = true ∧ (DaEq (rowR 38 4 dasEntry zEntry l) (Da.row 38 4 (putX l s h).length fun i j => (dasEntry ((putX l s h).getD i zEntry)).getD j (Da.val undef)))) ∧ (false = false ∧ Value.bool false = Value.bool (putB l s h)))) ((0 ≤ fndI l s h ∧ fndI l s h < (↑l.length : Int)) ∧ ((FnCon Try.prog 50 [(true, [rowR 38 4 dasEntry zEntry l]), (true, [dI (s), dI (h), dI ((IntKind.i64.wrap ((l.getD (fndI l s h).toNat zEntry).3 + 1))), dB (false)])] [(true, [Da.row 38 4 (setE l { Site := s, Handle := h, Version := IntKind.i64.wrap ((l.getD (fndI l s h).toNat zEntry).3 + 1), Deleted := false }).length fun i j => (dasEntry ((setE l { Site := s, Handle := h, Version := IntKind.i64.wrap ((l.getD (fndI l s h).toNat zEntry).3 + 1), Deleted := false }).getD i zEntry)).getD j (Da.val undef)])]) ∧ bcase (!vbu l) ((FnCon Try.prog 27 [(true, [rowR 38 4 dasEntry zEntry l])] [(false, [dB ((vbu l))])]) ∧ ((!vbu l) = true ∧ ((FnCon Try.prog 43 [(true, [rowR 38 4 dasEntry zEntry l])] [(true, [rowR 38 4 dasEntry zEntry l])]) ∧ ((true = true ∧ (DaEq (rowR 38 4 dasEntry zEntry l) (Da.row 38 4 (putX l s h).length fun i j => (dasEntry ((putX l s h).getD i zEntry)).getD j (Da.val undef)))) ∧ (false = false ∧ Value.bool false = Value.bool (putB l s h)))))) ((FnCon Try.prog 27 [(true, [rowR 38 4 dasEntry zEntry l])] [(false, [dB ((vbu l))])]) ∧ ((!vbu l) = false ∧ ((FnCon Try.prog 27 [(true, [Da.row 38 4 (setE l { Site := s, Handle := h, Version := IntKind.i64.wrap ((l.getD (fndI l s h).toNat zEntry).3 + 1), Deleted := false }).length fun i j => (dasEntry ((setE l { Site := s, Handle := h, Version := IntKind.i64.wrap ((l.getD (fndI l s h).toNat zEntry).3 + 1), Deleted := false }).getD i zEntry)).getD j (Da.val undef)])] [(false, [dB ((vbu (unE (setE l { Site := s, Handle := h, Version := IntKind.i64.wrap ((l.getD (fndI l s h).toNat zEntry).3 + 1), Deleted := false }).length fun i j => (dasEntry ((setE l { Site := s, Handle := h, Version := IntKind.i64.wrap ((l.getD (fndI l s h).toNat zEntry).3 + 1), Deleted := false }).getD i zEntry)).getD j (Da.val undef))))])]) ∧ bcase (!vbu (unE (setE l { Site := s, Handle := h, Version := IntKind.i64.wrap ((l.getD (fndI l s h).toNat zEntry).3 + 1), Deleted := false }).length fun i j => (dasEntry ((setE l { Site := s, Handle := h, Version := IntKind.i64.wrap ((l.getD (fndI l s h).toNat zEntry).3 + 1), Deleted := false }).getD i zEntry)).getD j (Da.val undef))) ((FnCon Try.prog 43 [(true, [rowR 38 4 dasEntry zEntry l])] [(true, [rowR 38 4 dasEntry zEntry l])]) ∧ ((true = true ∧ (DaEq (rowR 38 4 dasEntry zEntry l) (Da.row 38 4 (putX l s h).length fun i j => (dasEntry ((putX l s h).getD i zEntry)).getD j (Da.val undef)))) ∧ (false = false ∧ Value.bool false = Value.bool (putB l s h)))) ((true = true ∧ (DaEq (Da.row 38 4 (setE l { Site := s, Handle := h, Version := IntKind.i64.wrap ((l.getD (fndI l s h).toNat zEntry).3 + 1), Deleted := false }).length fun i j => (dasEntry ((setE l { Site := s, Handle := h, Version := IntKind.i64.wrap ((l.getD (fndI l s h).toNat zEntry).3 + 1), Deleted := false }).getD i zEntry)).getD j (Da.val undef)) (Da.row 38 4 (putX l s h).length fun i j => (dasEntry ((putX l s h).getD i zEntry)).getD j (Da.val undef)))) ∧ (false = false ∧ Value.bool true = Value.bool (putB l s h))))))))) ((FnCon Try.prog 50 [(true, [rowR 38 4 dasEntry zEntry l]), (true, [dI (s), dI (h), dI (1), dB (false)])] [(true, [Da.row 38 4 (setE l { Site := s, Handle := h, Version := 1, Deleted := false }).length fun i j => (dasEntry ((setE l { Site := s, Handle := h, Version := 1, Deleted := false }).getD i zEntry)).getD j (Da.val undef)])]) ∧ bcase (!vbu l) ((FnCon Try.prog 27 [(true, [rowR 38 4 dasEntry zEntry l])] [(false, [dB ((vbu l))])]) ∧ ((!vbu l) = true ∧ ((FnCon Try.prog 43 [(true, [rowR 38 4 dasEntry zEntry l])] [(true, [rowR 38 4 dasEntry zEntry l])]) ∧ ((true = true ∧ (DaEq (rowR 38 4 dasEntry zEntry l) (Da.row 38 4 (putX l s h).length fun i j => (dasEntry ((putX l s h).getD i zEntry)).getD j (Da.val undef)))) ∧ (false = false ∧ Value.bool false = Value.bool (putB l s h)))))) ((FnCon Try.prog 27 [(true, [rowR 38 4 dasEntry zEntry l])] [(false, [dB ((vbu l))])]) ∧ ((!vbu l) = false ∧ ((FnCon Try.prog 27 [(true, [Da.row 38 4 (setE l { Site := s, Handle := h, Version := 1, Deleted := false }).length fun i j => (dasEntry ((setE l { Site := s, Handle := h, Version := 1, Deleted := false }).getD i zEntry)).getD j (Da.val undef)])] [(false, [dB ((vbu (unE (setE l { Site := s, Handle := h, Version := 1, Deleted := false }).length fun i j => (dasEntry ((setE l { Site := s, Handle := h, Version := 1, Deleted := false }).getD i zEntry)).getD j (Da.val undef))))])]) ∧ bcase (!vbu (unE (setE l { Site := s, Handle := h, Version := 1, Deleted := false }).length fun i j => (dasEntry ((setE l { Site := s, Handle := h, Version := 1, Deleted := false }).getD i zEntry)).getD j (Da.val undef))) ((FnCon Try.prog 43 [(true, [rowR 38 4 dasEntry zEntry l])] [(true, [rowR 38 4 dasEntry zEntry l])]) ∧ ((true = true ∧ (DaEq (rowR 38 4 dasEntry zEntry l) (Da.row 38 4 (putX l s h).length fun i j => (dasEntry ((putX l s h).getD i zEntry)).getD j (Da.val undef)))) ∧ (false = false ∧ Value.bool false = Value.bool (putB l s h)))) ((true = true ∧ (DaEq (Da.row 38 4 (setE l { Site := s, Handle := h, Version := 1, Deleted := false }).length fun i j => (dasEntry ((setE l { Site := s, Handle := h, Version := 1, Deleted := false }).getD i zEntry)).getD j (Da.val undef)) (Da.row 38 4 (putX l s h).length fun i j => (dasEntry ((putX l s h).getD i zEntry)).getD j (Da.val undef)))) ∧ (false = false ∧ Value.bool true = Value.bool (putB l s h))))))))) (putC l s h) (noLoops) Try.func25 (by kernel_rfl) (by kernel_rfl) (by kernel_rfl) (fun _ => trivial) (by kernel_rfl) ?_
  refine ⟨?g0, bcase_intro (fun h1 => ⟨⟨?g2, ?g3⟩, bcase_intro (fun h4 => ⟨?g5, ⟨rfl, ?g6⟩, rfl, congrArg _ ?g7⟩) (fun h4 => ⟨⟨?g8, ?g9⟩, ?g10, bcase_intro (fun h11 => ⟨?g12, h11, ?g13, ⟨rfl, ?g14⟩, rfl, congrArg _ ?g15⟩) (fun h11 => ⟨?g16, h11, ?g17, bcase_intro (fun h18 => ⟨?g19, ⟨rfl, ?g20⟩, rfl, congrArg _ ?g21⟩) (fun h18 => ⟨⟨rfl, ?g22⟩, rfl, congrArg _ ?g23⟩)⟩)⟩)⟩) (fun h1 => ⟨?g24, bcase_intro (fun h25 => ⟨?g26, h25, ?g27, ⟨rfl, ?g28⟩, rfl, congrArg _ ?g29⟩) (fun h25 => ⟨?g30, h25, ?g31, bcase_intro (fun h32 => ⟨?g33, ⟨rfl, ?g34⟩, rfl, congrArg _ ?g35⟩) (fun h32 => ⟨⟨rfl, ?g36⟩, rfl, congrArg _ ?g37⟩)⟩)⟩)⟩
  case g0 => exact conFnd l s h (by omega)
  case g5 | g13 | g19 | g27 | g33 => exact conCopy l hnl
  case g12 | g16 | g26 | g30 => exact conIs l (by omega)
  case g10 => exact conSet l ⟨s, h, IntKind.i64.wrap ((l.getD (fndI l s h).toNat zEntry).Version + 1), false⟩ hnl
  case g24 => exact conSet l ⟨s, h, 1, false⟩ hnl
  case g17 | g31 => rw [unE_self]; exact conIs _ (Nat.le_trans (setE_len l _).2 (by omega))
  case g2 | g8 => exact of_decide_eq_true h1
  case g3 | g9 =>
    obtain ⟨k, e, ek⟩ := fndI_pos (of_decide_eq_true h1)
    have := (fndE_at e).1
    omega
  case g6 | g7 =>
    obtain ⟨k, e, ek⟩ := fndI_pos (of_decide_eq_true h1)
    have hb : putB l s h = false := by unfold putB; rw [(at_some e).1]; rw [ek] at h4; simp only [Int.toNat_natCast] at h4; rw [show (l.getD k zEntry).Deleted = false by simpa using h4]; rfl
    first | exact hb.symm | exact row_to row_self (putX_f hb).symm
  case g14 | g15 | g28 | g29 =>
    have hv : vbu l = false := by first | simpa using h11 | simpa using h25
    have hb : putB l s h = false := by unfold putB; rw [hv]; simp
    first | exact hb.symm | exact row_to row_self (putX_f hb).symm
  case g20 | g21 | g22 | g23 =>
    obtain ⟨k, e, ek⟩ := fndI_pos (of_decide_eq_true h1)
    have hd : delAt l s h = true := by rw [(at_some e).1]; rw [ek] at h4; simp only [Int.toNat_natCast] at h4; simpa using h4
    have hn : nxtE l s h false = ⟨s, h, IntKind.i64.wrap ((l.getD (fndI l s h).toNat zEntry).Version + 1), false⟩ := by unfold nxtE; rw [(at_some e).2, ek]; rfl
    rw [unE_self] at h18
    have hb : putB l s h = vbu (setE l (nxtE l s h false)) := by unfold putB; rw [hd, show vbu l = true by simpa using h11]; rfl
    rw [hn] at hb
    first
      | (have hb2 : putB l s h = false := hb.trans (by simpa using h18); first | exact hb2.symm | exact row_to row_self (putX_f hb2).symm)
      | (have hb2 : putB l s h = true := hb.trans (by simpa using h18); first | exact hb2.symm | exact row_to row_self (by rw [putX_t hb2, hn]))
  case g34 | g35 | g36 | g37 =>
    have e : fndE l s h = none := fndI_neg (of_decide_eq_false h1)
    have hd : delAt l s h = true := (at_none e).1
    have hn : nxtE l s h false = ⟨s, h, 1, false⟩ := by unfold nxtE; rw [(at_none e).2]; rfl
    rw [unE_self] at h32
    have hb : putB l s h = vbu (setE l (nxtE l s h false)) := by unfold putB; rw [hd, show vbu l = true by simpa using h25]; rfl
    rw [hn] at hb
    first
      | (have hb2 : putB l s h = false := hb.trans (by simpa using h32); first | exact hb2.symm | exact row_to row_self (putX_f hb2).symm)
      | (have hb2 : putB l s h = true := hb.trans (by simpa using h32); first | exact hb2.symm | exact row_to row_self (by rw [putX_t hb2, hn]))
theorem conDel (l : List En) (s h : Int) (hnl : l.length ≤ 16000000) : FnCon Try.prog 21 ([(true, [rowR 38 4 dasEntry zEntry l]), iV s, iV h]) ([(true, [rowR 38 4 dasEntry zEntry (delX l s h)]), bV (delB l s h)]) := by
  refine fn_go (p := ((FnCon Try.prog 30 [(true, [rowR 38 4 dasEntry zEntry l]), (false, [dI (s)]), (false, [dI (h)])] [(false, [dI ((fndI l s h))])]) ∧ bcase (!vbu l) ((FnCon Try.prog 27 [(true, [rowR 38 4 dasEntry zEntry l])] [(false, [dB ((vbu l))])]) ∧ ((!vbu l) = true ∧ (true = true ∧ (true = true ∧ ((FnCon Try.prog 43 [(true, [rowR 38 4 dasEntry zEntry l])] [(true, [rowR 38 4 dasEntry zEntry l])]) ∧ ((true = true ∧ (DaEq (rowR 38 4 dasEntry zEntry l) (Da.row 38 4 (delX l s h).length fun i j => (dasEntry ((delX l s h).getD i zEntry)).getD j (Da.val undef)))) ∧ (false = false ∧ Value.bool false = Value.bool (delB l s h)))))))) (bcase (decide (fndI l s h < 0)) ((FnCon Try.prog 27 [(true, [rowR 38 4 dasEntry zEntry l])] [(false, [dB ((vbu l))])]) ∧ ((!vbu l) = false ∧ (decide (fndI l s h < 0) = true ∧ (true = true ∧ ((FnCon Try.prog 43 [(true, [rowR 38 4 dasEntry zEntry l])] [(true, [rowR 38 4 dasEntry zEntry l])]) ∧ ((true = true ∧ (DaEq (rowR 38 4 dasEntry zEntry l) (Da.row 38 4 (delX l s h).length fun i j => (dasEntry ((delX l s h).getD i zEntry)).getD j (Da.val undef)))) ∧ (false = false ∧ Value.bool false = Value.bool (delB l s h)))))))) (bcase ((l.getD (fndI l s h).toNat zEntry).4) ((FnCon Try.prog 27 [(true, [rowR 38 4 dasEntry zEntry l])] [(false, [dB ((vbu l))])]) ∧ ((!vbu l) = false ∧ (decide (fndI l s h < 0) = false ∧ ((0 ≤ fndI l s h ∧ fndI l s h < (↑l.length : Int)) ∧ ((l.getD (fndI l s h).toNat zEntry).4 = true ∧ ((FnCon Try.prog 43 [(true, [rowR 38 4 dasEntry zEntry l])] [(true, [rowR 38 4 dasEntry zEntry l])]) ∧ ((true = true ∧ (DaEq (rowR 38 4 dasEntry zEntry l) (Da.row 38 4 (delX l s h).length fun i j => (dasEntry ((delX l s h).getD i zEntry)).getD j (Da.val undef)))) ∧ (false = false ∧ Value.bool false = Value.bool (delB l s h))))))))) ((FnCon Try.prog 27 [(true, [rowR 38 4 dasEntry zEntry l])] [(false, [dB ((vbu l))])]) ∧ ((!vbu l) = false ∧ (decide (fndI l s h < 0) = false ∧ ((0 ≤ fndI l s h ∧ fndI l s h < (↑l.length : Int)) ∧ ((l.getD (fndI l s h).toNat zEntry).4 = false ∧ ((0 ≤ fndI l s h ∧ fndI l s h < (↑l.length : Int)) ∧ bcase ((l.getD (fndI l s h).toNat zEntry).3 == 1000000) ((FnCon Try.prog 43 [(true, [rowR 38 4 dasEntry zEntry l])] [(true, [rowR 38 4 dasEntry zEntry l])]) ∧ ((true = true ∧ (DaEq (rowR 38 4 dasEntry zEntry l) (Da.row 38 4 (delX l s h).length fun i j => (dasEntry ((delX l s h).getD i zEntry)).getD j (Da.val undef)))) ∧ (false = false ∧ Value.bool false = Value.bool (delB l s h)))) ((0 ≤ fndI l s h ∧ fndI l s h < (↑l.length : Int)) ∧ ((FnCon Try.prog 50 [(true, [rowR 38 4 dasEntry zEntry l]), (true, [dI (s), dI (h), dI ((IntKind.i64.wrap ((l.getD (fndI l s h).toNat zEntry).3 + 1))), dB (true)])] [(true, [Da.row 38 4 (setE l { Site := s, Handle := h, Version := IntKind.i64.wrap ((l.getD (fndI l s h).toNat zEntry).3 + 1), Deleted := true }).length fun i j => (dasEntry ((setE l { Site := s, Handle := h, Version := IntKind.i64.wrap ((l.getD (fndI l s h).toNat zEntry).3 + 1), Deleted := true }).getD i zEntry)).getD j (Da.val undef)])]) ∧ ((true = true ∧ (DaEq (Da.row 38 4 (setE l { Site := s, Handle := h, Version := IntKind.i64.wrap ((l.getD (fndI l s h).toNat zEntry).3 + 1), Deleted := true }).length fun i j => (dasEntry ((setE l { Site := s, Handle := h, Version := IntKind.i64.wrap ((l.getD (fndI l s h).toNat zEntry).3 + 1), Deleted := true }).getD i zEntry)).getD j (Da.val undef)) (Da.row 38 4 (delX l s h).length fun i j => (dasEntry ((delX l s h).getD i zEntry)).getD j (Da.val undef)))) ∧ (false = false ∧ Value.bool true = Value.bool (delB l s h))))))))))))))) (delC l s h) (noLoops) Try.func21 (by kernel_rfl) (by kernel_rfl) (by kernel_rfl) (fun _ => trivial) (by kernel_rfl) ?_
  refine ⟨?g0, bcase_intro (fun h1 => ⟨?g2, h1, rfl, rfl, ?g3, ⟨rfl, ?g4⟩, rfl, congrArg _ ?g5⟩) (fun h1 => bcase_intro (fun h6 => ⟨?g7, h1, h6, rfl, ?g8, ⟨rfl, ?g9⟩, rfl, congrArg _ ?g10⟩) (fun h6 => bcase_intro (fun h11 => ⟨?g12, h1, h6, ⟨?g13, ?g14⟩, h11, ?g15, ⟨rfl, ?g16⟩, rfl, congrArg _ ?g17⟩) (fun h11 => ⟨?g18, h1, h6, ⟨?g19, ?g20⟩, h11, ⟨?g21, ?g22⟩, bcase_intro (fun h23 => ⟨?g24, ⟨rfl, ?g25⟩, rfl, congrArg _ ?g26⟩) (fun h23 => ⟨⟨?g27, ?g28⟩, ?g29, ⟨rfl, ?g30⟩, rfl, congrArg _ ?g31⟩)⟩)))⟩
  case g0 => exact conFnd l s h (by omega)
  case g3 | g8 | g15 | g24 => exact conCopy l hnl
  case g2 | g7 | g12 | g18 => exact conIs l (by omega)
  case g29 => exact conSet l ⟨s, h, IntKind.i64.wrap ((l.getD (fndI l s h).toNat zEntry).Version + 1), true⟩ hnl
  case g4 | g5 =>
    have hb : delB l s h = false := by unfold delB; rw [show vbu l = false by simpa using h1]; rfl
    first | exact hb.symm | exact row_to row_self (delX_f hb).symm
  case g9 | g10 =>
    have e : fndE l s h = none := fndI_neg (by have := of_decide_eq_true h6; omega)
    have hb : delB l s h = false := by unfold delB; rw [(at_none e).1]; simp
    first | exact hb.symm | exact row_to row_self (delX_f hb).symm
  all_goals
    obtain ⟨k, e, ek⟩ := fndI_pos (l := l) (s := s) (h := h) (by have := of_decide_eq_false h6; omega)
    have hk := (fndE_at e).1
  case g13 | g14 | g19 | g20 | g21 | g22 | g27 | g28 => omega
  all_goals
    rw [ek] at h11
    simp only [Int.toNat_natCast] at h11
  case g16 | g17 =>
    have hb : delB l s h = false := by unfold delB; rw [(at_some e).1, h11]; simp
    first | exact hb.symm | exact row_to row_self (delX_f hb).symm
  all_goals
    rw [ek] at h23
    simp only [Int.toNat_natCast] at h23
  case g25 | g26 =>
    have hb : delB l s h = false := by unfold delB; rw [(at_some e).2, h23]; simp
    first | exact hb.symm | exact row_to row_self (delX_f hb).symm
  all_goals
    have hb : delB l s h = true := by unfold delB; rw [(at_some e).1, (at_some e).2, h11, h23, show vbu l = true by simpa using h1]; rfl
    have hn : nxtE l s h true = ⟨s, h, IntKind.i64.wrap ((l.getD (fndI l s h).toNat zEntry).Version + 1), true⟩ := by unfold nxtE; rw [(at_some e).2, ek]; rfl
  case g30 => exact row_to row_self (by rw [delX_t hb, hn])
  case g31 => exact hb.symm
theorem conMrg (l m : List En) (hnl : l.length ≤ 8000000) (hnm : m.length ≤ 8000000) : FnCon Try.prog 33 ([(true, [rowR 38 4 dasEntry zEntry l]), (true, [rowR 38 4 dasEntry zEntry m])]) ([(true, [rowR 38 4 dasEntry zEntry (mrgX l m)]), bV (mrgB l m)]) := by
  refine fn_go (p := bcase (!vbu l) ((FnCon Try.prog 27 [(true, [rowR 38 4 dasEntry zEntry l])] [(false, [dB ((vbu l))])]) ∧ ((!vbu l) = true ∧ ((FnCon Try.prog 43 [(true, [rowR 38 4 dasEntry zEntry l])] [(true, [rowR 38 4 dasEntry zEntry l])]) ∧ ((true = true ∧ (DaEq (rowR 38 4 dasEntry zEntry l) (Da.row 38 4 (mrgX l m).length fun i j => (dasEntry ((mrgX l m).getD i zEntry)).getD j (Da.val undef)))) ∧ (false = false ∧ Value.bool false = Value.bool (mrgB l m)))))) ((FnCon Try.prog 27 [(true, [rowR 38 4 dasEntry zEntry l])] [(false, [dB ((vbu l))])]) ∧ ((!vbu l) = false ∧ ((FnCon Try.prog 27 [(true, [rowR 38 4 dasEntry zEntry m])] [(false, [dB ((vbu m))])]) ∧ bcase (!vbu m) ((FnCon Try.prog 43 [(true, [rowR 38 4 dasEntry zEntry l])] [(true, [rowR 38 4 dasEntry zEntry l])]) ∧ ((true = true ∧ (DaEq (rowR 38 4 dasEntry zEntry l) (Da.row 38 4 (mrgX l m).length fun i j => (dasEntry ((mrgX l m).getD i zEntry)).getD j (Da.val undef)))) ∧ (false = false ∧ Value.bool false = Value.bool (mrgB l m)))) ((FnCon Try.prog 43 [(true, [rowR 38 4 dasEntry zEntry l])] [(true, [rowR 38 4 dasEntry zEntry l])]) ∧ ((∃ x0 : UpX m, (((some 10000 = some 10000 ∧ 0 = 0) ∧ ((some 10008 = some 10008 ∧ 0 = 0) ∧ ((some 10016 = some 10016 ∧ 0 = 0) ∧ (Value.bool false = Value.bool false ∧ ((some 40016 = some 40016 ∧ 0 = 0) ∧ (vI 0 = vI (↑x0.1 : Int) ∧ True)))))) ∧ ((26 = 26 ∧ (DaEq (rowR 38 4 dasEntry zEntry l) (rowR 38 4 dasEntry zEntry l))) ∧ ((26 = 26 ∧ (DaEq (rowR 38 4 dasEntry zEntry m) (rowR 38 4 dasEntry zEntry m))) ∧ ((26 = 26 ∧ Value.slice none 0 0 = Value.slice none 0 0) ∧ ((26 = 26 ∧ some 40008 = some 40008) ∧ ((DaEq (rowR 38 4 dasEntry zEntry l) (Da.row 38 4 (mrgL l (List.take x0.1 m)).length fun i j => (dasEntry ((mrgL l (List.take x0.1 m)).getD i zEntry)).getD j (Da.val undef))) ∧ True))))))) ∧ (∀ v : UpX m, bcase (decide ((↑v.1 : Int) < (↑m.length : Int))) ((0 ≤ (↑v.1 : Int) ∧ (↑v.1 : Int) < (↑m.length : Int)) ∧ ((FnCon Try.prog 30 [(true, [Da.row 38 4 (mrgL l (List.take v.1 m)).length fun i j => (dasEntry ((mrgL l (List.take v.1 m)).getD i zEntry)).getD j (Da.val undef)]), (false, [dI ((m.getD (↑v.1 : Int).toNat zEntry).1)]), (false, [dI ((m.getD (↑v.1 : Int).toNat zEntry).2)])] [(false, [dI ((fndI (unE (mrgL l (List.take v.1 m)).length fun i j => (dasEntry ((mrgL l (List.take v.1 m)).getD i zEntry)).getD j (Da.val undef)) (m.getD (↑v.1 : Int).toNat zEntry).1 (m.getD (↑v.1 : Int).toNat zEntry).2))])]) ∧ bcase (decide (fndI (unE (mrgL l (List.take v.1 m)).length fun i j => (dasEntry ((mrgL l (List.take v.1 m)).getD i zEntry)).getD j (Da.val undef)) (m.getD (↑v.1 : Int).toNat zEntry).1 (m.getD (↑v.1 : Int).toNat zEntry).2 < 0)) ((decide (fndI (unE (mrgL l (List.take v.1 m)).length fun i j => (dasEntry ((mrgL l (List.take v.1 m)).getD i zEntry)).getD j (Da.val undef)) (m.getD (↑v.1 : Int).toNat zEntry).1 (m.getD (↑v.1 : Int).toNat zEntry).2 < 0) = true) ∧ (true = true ∧ ((FnCon Try.prog 50 [(true, [Da.row 38 4 (mrgL l (List.take v.1 m)).length fun i j => (dasEntry ((mrgL l (List.take v.1 m)).getD i zEntry)).getD j (Da.val undef)]), (true, [dI ((m.getD (↑v.1 : Int).toNat zEntry).1), dI ((m.getD (↑v.1 : Int).toNat zEntry).2), dI ((m.getD (↑v.1 : Int).toNat zEntry).3), dB ((m.getD (↑v.1 : Int).toNat zEntry).4)])] [(true, [Da.row 38 4 (setE (unE (mrgL l (List.take v.1 m)).length fun i j => (dasEntry ((mrgL l (List.take v.1 m)).getD i zEntry)).getD j (Da.val undef)) { Site := (m.getD (↑v.1 : Int).toNat zEntry).1, Handle := (m.getD (↑v.1 : Int).toNat zEntry).2, Version := (m.getD (↑v.1 : Int).toNat zEntry).3, Deleted := (m.getD (↑v.1 : Int).toNat zEntry).4 }).length fun i j => (dasEntry ((setE (unE (mrgL l (List.take v.1 m)).length fun i j => (dasEntry ((mrgL l (List.take v.1 m)).getD i zEntry)).getD j (Da.val undef)) { Site := (m.getD (↑v.1 : Int).toNat zEntry).1, Handle := (m.getD (↑v.1 : Int).toNat zEntry).2, Version := (m.getD (↑v.1 : Int).toNat zEntry).3, Deleted := (m.getD (↑v.1 : Int).toNat zEntry).4 }).getD i zEntry)).getD j (Da.val undef)])]) ∧ (∃ v' : UpX m, (m.length.sub v'.1 < m.length.sub v.1 ∧ (((some 10000 = some 10000 ∧ 0 = 0) ∧ ((some 10008 = some 10008 ∧ 0 = 0) ∧ ((some 10016 = some 10016 ∧ 0 = 0) ∧ (Value.bool false = Value.bool false ∧ ((some 40016 = some 40016 ∧ 0 = 0) ∧ (vI (IntKind.i64.wrap ((↑v.1 : Int) + 1)) = vI (↑v'.1 : Int) ∧ True)))))) ∧ ((26 = 26 ∧ (DaEq (rowR 38 4 dasEntry zEntry l) (rowR 38 4 dasEntry zEntry l))) ∧ ((26 = 26 ∧ (DaEq (rowR 38 4 dasEntry zEntry m) (rowR 38 4 dasEntry zEntry m))) ∧ ((26 = 26 ∧ Value.slice none 0 0 = Value.slice none 0 0) ∧ ((26 = 26 ∧ some 110016 = some 110016) ∧ ((DaEq (Da.row 38 4 (setE (unE (mrgL l (List.take v.1 m)).length fun i j => (dasEntry ((mrgL l (List.take v.1 m)).getD i zEntry)).getD j (Da.val undef)) { Site := (m.getD (↑v.1 : Int).toNat zEntry).1, Handle := (m.getD (↑v.1 : Int).toNat zEntry).2, Version := (m.getD (↑v.1 : Int).toNat zEntry).3, Deleted := (m.getD (↑v.1 : Int).toNat zEntry).4 }).length fun i j => (dasEntry ((setE (unE (mrgL l (List.take v.1 m)).length fun i j => (dasEntry ((mrgL l (List.take v.1 m)).getD i zEntry)).getD j (Da.val undef)) { Site := (m.getD (↑v.1 : Int).toNat zEntry).1, Handle := (m.getD (↑v.1 : Int).toNat zEntry).2, Version := (m.getD (↑v.1 : Int).toNat zEntry).3, Deleted := (m.getD (↑v.1 : Int).toNat zEntry).4 }).getD i zEntry)).getD j (Da.val undef)) (Da.row 38 4 (mrgL l (List.take v'.1 m)).length fun i j => (dasEntry ((mrgL l (List.take v'.1 m)).getD i zEntry)).getD j (Da.val undef))) ∧ True))))))))))) (bcase (decide ((m.getD (↑v.1 : Int).toNat zEntry).3 > ((mrgL l (List.take v.1 m)).getD (fndI (unE (mrgL l (List.take v.1 m)).length fun i j => (dasEntry ((mrgL l (List.take v.1 m)).getD i zEntry)).getD j (Da.val undef)) (m.getD (↑v.1 : Int).toNat zEntry).1 (m.getD (↑v.1 : Int).toNat zEntry).2).toNat zEntry).3)) ((decide (fndI (unE (mrgL l (List.take v.1 m)).length fun i j => (dasEntry ((mrgL l (List.take v.1 m)).getD i zEntry)).getD j (Da.val undef)) (m.getD (↑v.1 : Int).toNat zEntry).1 (m.getD (↑v.1 : Int).toNat zEntry).2 < 0) = false) ∧ (((0 ≤ fndI (unE (mrgL l (List.take v.1 m)).length fun i j => (dasEntry ((mrgL l (List.take v.1 m)).getD i zEntry)).getD j (Da.val undef)) (m.getD (↑v.1 : Int).toNat zEntry).1 (m.getD (↑v.1 : Int).toNat zEntry).2) ∧ (fndI (unE (mrgL l (List.take v.1 m)).length fun i j => (dasEntry ((mrgL l (List.take v.1 m)).getD i zEntry)).getD j (Da.val undef)) (m.getD (↑v.1 : Int).toNat zEntry).1 (m.getD (↑v.1 : Int).toNat zEntry).2 < (↑(mrgL l (List.take v.1 m)).length : Int))) ∧ ((decide ((m.getD (↑v.1 : Int).toNat zEntry).3 > ((mrgL l (List.take v.1 m)).getD (fndI (unE (mrgL l (List.take v.1 m)).length fun i j => (dasEntry ((mrgL l (List.take v.1 m)).getD i zEntry)).getD j (Da.val undef)) (m.getD (↑v.1 : Int).toNat zEntry).1 (m.getD (↑v.1 : Int).toNat zEntry).2).toNat zEntry).3) = true) ∧ ((FnCon Try.prog 50 [(true, [Da.row 38 4 (mrgL l (List.take v.1 m)).length fun i j => (dasEntry ((mrgL l (List.take v.1 m)).getD i zEntry)).getD j (Da.val undef)]), (true, [dI ((m.getD (↑v.1 : Int).toNat zEntry).1), dI ((m.getD (↑v.1 : Int).toNat zEntry).2), dI ((m.getD (↑v.1 : Int).toNat zEntry).3), dB ((m.getD (↑v.1 : Int).toNat zEntry).4)])] [(true, [Da.row 38 4 (setE (unE (mrgL l (List.take v.1 m)).length fun i j => (dasEntry ((mrgL l (List.take v.1 m)).getD i zEntry)).getD j (Da.val undef)) { Site := (m.getD (↑v.1 : Int).toNat zEntry).1, Handle := (m.getD (↑v.1 : Int).toNat zEntry).2, Version := (m.getD (↑v.1 : Int).toNat zEntry).3, Deleted := (m.getD (↑v.1 : Int).toNat zEntry).4 }).length fun i j => (dasEntry ((setE (unE (mrgL l (List.take v.1 m)).length fun i j => (dasEntry ((mrgL l (List.take v.1 m)).getD i zEntry)).getD j (Da.val undef)) { Site := (m.getD (↑v.1 : Int).toNat zEntry).1, Handle := (m.getD (↑v.1 : Int).toNat zEntry).2, Version := (m.getD (↑v.1 : Int).toNat zEntry).3, Deleted := (m.getD (↑v.1 : Int).toNat zEntry).4 }).getD i zEntry)).getD j (Da.val undef)])]) ∧ (∃ v' : UpX m, (m.length.sub v'.1 < m.length.sub v.1 ∧ (((some 10000 = some 10000 ∧ 0 = 0) ∧ ((some 10008 = some 10008 ∧ 0 = 0) ∧ ((some 10016 = some 10016 ∧ 0 = 0) ∧ (Value.bool false = Value.bool false ∧ ((some 40016 = some 40016 ∧ 0 = 0) ∧ (vI (IntKind.i64.wrap ((↑v.1 : Int) + 1)) = vI (↑v'.1 : Int) ∧ True)))))) ∧ ((26 = 26 ∧ (DaEq (rowR 38 4 dasEntry zEntry l) (rowR 38 4 dasEntry zEntry l))) ∧ ((26 = 26 ∧ (DaEq (rowR 38 4 dasEntry zEntry m) (rowR 38 4 dasEntry zEntry m))) ∧ ((26 = 26 ∧ Value.slice none 0 0 = Value.slice none 0 0) ∧ ((26 = 26 ∧ some 110016 = some 110016) ∧ ((DaEq (Da.row 38 4 (setE (unE (mrgL l (List.take v.1 m)).length fun i j => (dasEntry ((mrgL l (List.take v.1 m)).getD i zEntry)).getD j (Da.val undef)) { Site := (m.getD (↑v.1 : Int).toNat zEntry).1, Handle := (m.getD (↑v.1 : Int).toNat zEntry).2, Version := (m.getD (↑v.1 : Int).toNat zEntry).3, Deleted := (m.getD (↑v.1 : Int).toNat zEntry).4 }).length fun i j => (dasEntry ((setE (unE (mrgL l (List.take v.1 m)).length fun i j => (dasEntry ((mrgL l (List.take v.1 m)).getD i zEntry)).getD j (Da.val undef)) { Site := (m.getD (↑v.1 : Int).toNat zEntry).1, Handle := (m.getD (↑v.1 : Int).toNat zEntry).2, Version := (m.getD (↑v.1 : Int).toNat zEntry).3, Deleted := (m.getD (↑v.1 : Int).toNat zEntry).4 }).getD i zEntry)).getD j (Da.val undef)) (Da.row 38 4 (mrgL l (List.take v'.1 m)).length fun i j => (dasEntry ((mrgL l (List.take v'.1 m)).getD i zEntry)).getD j (Da.val undef))) ∧ True)))))))))))) (bcase ((m.getD (↑v.1 : Int).toNat zEntry).3 == ((mrgL l (List.take v.1 m)).getD (fndI (unE (mrgL l (List.take v.1 m)).length fun i j => (dasEntry ((mrgL l (List.take v.1 m)).getD i zEntry)).getD j (Da.val undef)) (m.getD (↑v.1 : Int).toNat zEntry).1 (m.getD (↑v.1 : Int).toNat zEntry).2).toNat zEntry).3) ((decide (fndI (unE (mrgL l (List.take v.1 m)).length fun i j => (dasEntry ((mrgL l (List.take v.1 m)).getD i zEntry)).getD j (Da.val undef)) (m.getD (↑v.1 : Int).toNat zEntry).1 (m.getD (↑v.1 : Int).toNat zEntry).2 < 0) = false) ∧ (((0 ≤ fndI (unE (mrgL l (List.take v.1 m)).length fun i j => (dasEntry ((mrgL l (List.take v.1 m)).getD i zEntry)).getD j (Da.val undef)) (m.getD (↑v.1 : Int).toNat zEntry).1 (m.getD (↑v.1 : Int).toNat zEntry).2) ∧ (fndI (unE (mrgL l (List.take v.1 m)).length fun i j => (dasEntry ((mrgL l (List.take v.1 m)).getD i zEntry)).getD j (Da.val undef)) (m.getD (↑v.1 : Int).toNat zEntry).1 (m.getD (↑v.1 : Int).toNat zEntry).2 < (↑(mrgL l (List.take v.1 m)).length : Int))) ∧ ((decide ((m.getD (↑v.1 : Int).toNat zEntry).3 > ((mrgL l (List.take v.1 m)).getD (fndI (unE (mrgL l (List.take v.1 m)).length fun i j => (dasEntry ((mrgL l (List.take v.1 m)).getD i zEntry)).getD j (Da.val undef)) (m.getD (↑v.1 : Int).toNat zEntry).1 (m.getD (↑v.1 : Int).toNat zEntry).2).toNat zEntry).3) = false) ∧ (((0 ≤ fndI (unE (mrgL l (List.take v.1 m)).length fun i j => (dasEntry ((mrgL l (List.take v.1 m)).getD i zEntry)).getD j (Da.val undef)) (m.getD (↑v.1 : Int).toNat zEntry).1 (m.getD (↑v.1 : Int).toNat zEntry).2) ∧ (fndI (unE (mrgL l (List.take v.1 m)).length fun i j => (dasEntry ((mrgL l (List.take v.1 m)).getD i zEntry)).getD j (Da.val undef)) (m.getD (↑v.1 : Int).toNat zEntry).1 (m.getD (↑v.1 : Int).toNat zEntry).2 < (↑(mrgL l (List.take v.1 m)).length : Int))) ∧ ((((m.getD (↑v.1 : Int).toNat zEntry).3 == ((mrgL l (List.take v.1 m)).getD (fndI (unE (mrgL l (List.take v.1 m)).length fun i j => (dasEntry ((mrgL l (List.take v.1 m)).getD i zEntry)).getD j (Da.val undef)) (m.getD (↑v.1 : Int).toNat zEntry).1 (m.getD (↑v.1 : Int).toNat zEntry).2).toNat zEntry).3) = true) ∧ bcase ((m.getD (↑v.1 : Int).toNat zEntry).4) ((FnCon Try.prog 50 [(true, [Da.row 38 4 (mrgL l (List.take v.1 m)).length fun i j => (dasEntry ((mrgL l (List.take v.1 m)).getD i zEntry)).getD j (Da.val undef)]), (true, [dI ((m.getD (↑v.1 : Int).toNat zEntry).1), dI ((m.getD (↑v.1 : Int).toNat zEntry).2), dI ((m.getD (↑v.1 : Int).toNat zEntry).3), dB ((m.getD (↑v.1 : Int).toNat zEntry).4)])] [(true, [Da.row 38 4 (setE (unE (mrgL l (List.take v.1 m)).length fun i j => (dasEntry ((mrgL l (List.take v.1 m)).getD i zEntry)).getD j (Da.val undef)) { Site := (m.getD (↑v.1 : Int).toNat zEntry).1, Handle := (m.getD (↑v.1 : Int).toNat zEntry).2, Version := (m.getD (↑v.1 : Int).toNat zEntry).3, Deleted := (m.getD (↑v.1 : Int).toNat zEntry).4 }).length fun i j => (dasEntry ((setE (unE (mrgL l (List.take v.1 m)).length fun i j => (dasEntry ((mrgL l (List.take v.1 m)).getD i zEntry)).getD j (Da.val undef)) { Site := (m.getD (↑v.1 : Int).toNat zEntry).1, Handle := (m.getD (↑v.1 : Int).toNat zEntry).2, Version := (m.getD (↑v.1 : Int).toNat zEntry).3, Deleted := (m.getD (↑v.1 : Int).toNat zEntry).4 }).getD i zEntry)).getD j (Da.val undef)])]) ∧ (∃ v' : UpX m, (m.length.sub v'.1 < m.length.sub v.1 ∧ (((some 10000 = some 10000 ∧ 0 = 0) ∧ ((some 10008 = some 10008 ∧ 0 = 0) ∧ ((some 10016 = some 10016 ∧ 0 = 0) ∧ (Value.bool false = Value.bool false ∧ ((some 40016 = some 40016 ∧ 0 = 0) ∧ (vI (IntKind.i64.wrap ((↑v.1 : Int) + 1)) = vI (↑v'.1 : Int) ∧ True)))))) ∧ ((26 = 26 ∧ (DaEq (rowR 38 4 dasEntry zEntry l) (rowR 38 4 dasEntry zEntry l))) ∧ ((26 = 26 ∧ (DaEq (rowR 38 4 dasEntry zEntry m) (rowR 38 4 dasEntry zEntry m))) ∧ ((26 = 26 ∧ Value.slice none 0 0 = Value.slice none 0 0) ∧ ((26 = 26 ∧ some 110016 = some 110016) ∧ ((DaEq (Da.row 38 4 (setE (unE (mrgL l (List.take v.1 m)).length fun i j => (dasEntry ((mrgL l (List.take v.1 m)).getD i zEntry)).getD j (Da.val undef)) { Site := (m.getD (↑v.1 : Int).toNat zEntry).1, Handle := (m.getD (↑v.1 : Int).toNat zEntry).2, Version := (m.getD (↑v.1 : Int).toNat zEntry).3, Deleted := (m.getD (↑v.1 : Int).toNat zEntry).4 }).length fun i j => (dasEntry ((setE (unE (mrgL l (List.take v.1 m)).length fun i j => (dasEntry ((mrgL l (List.take v.1 m)).getD i zEntry)).getD j (Da.val undef)) { Site := (m.getD (↑v.1 : Int).toNat zEntry).1, Handle := (m.getD (↑v.1 : Int).toNat zEntry).2, Version := (m.getD (↑v.1 : Int).toNat zEntry).3, Deleted := (m.getD (↑v.1 : Int).toNat zEntry).4 }).getD i zEntry)).getD j (Da.val undef)) (Da.row 38 4 (mrgL l (List.take v'.1 m)).length fun i j => (dasEntry ((mrgL l (List.take v'.1 m)).getD i zEntry)).getD j (Da.val undef))) ∧ True))))))))) (∃ v' : UpX m, (m.length.sub v'.1 < m.length.sub v.1 ∧ (((some 10000 = some 10000 ∧ 0 = 0) ∧ ((some 10008 = some 10008 ∧ 0 = 0) ∧ ((some 10016 = some 10016 ∧ 0 = 0) ∧ (Value.bool false = Value.bool false ∧ ((some 40016 = some 40016 ∧ 0 = 0) ∧ (vI (IntKind.i64.wrap ((↑v.1 : Int) + 1)) = vI (↑v'.1 : Int) ∧ True)))))) ∧ ((26 = 26 ∧ (DaEq (rowR 38 4 dasEntry zEntry l) (rowR 38 4 dasEntry zEntry l))) ∧ ((26 = 26 ∧ (DaEq (rowR 38 4 dasEntry zEntry m) (rowR 38 4 dasEntry zEntry m))) ∧ ((26 = 26 ∧ Value.slice none 0 0 = Value.slice none 0 0) ∧ ((26 = 26 ∧ some 7 = some 7) ∧ ((DaEq (Da.row 38 4 (mrgL l (List.take v.1 m)).length fun i j => (dasEntry ((mrgL l (List.take v.1 m)).getD i zEntry)).getD j (Da.val undef)) (Da.row 38 4 (mrgL l (List.take v'.1 m)).length fun i j => (dasEntry ((mrgL l (List.take v'.1 m)).getD i zEntry)).getD j (Da.val undef))) ∧ True))))))))))))) ((decide (fndI (unE (mrgL l (List.take v.1 m)).length fun i j => (dasEntry ((mrgL l (List.take v.1 m)).getD i zEntry)).getD j (Da.val undef)) (m.getD (↑v.1 : Int).toNat zEntry).1 (m.getD (↑v.1 : Int).toNat zEntry).2 < 0) = false) ∧ (((0 ≤ fndI (unE (mrgL l (List.take v.1 m)).length fun i j => (dasEntry ((mrgL l (List.take v.1 m)).getD i zEntry)).getD j (Da.val undef)) (m.getD (↑v.1 : Int).toNat zEntry).1 (m.getD (↑v.1 : Int).toNat zEntry).2) ∧ (fndI (unE (mrgL l (List.take v.1 m)).length fun i j => (dasEntry ((mrgL l (List.take v.1 m)).getD i zEntry)).getD j (Da.val undef)) (m.getD (↑v.1 : Int).toNat zEntry).1 (m.getD (↑v.1 : Int).toNat zEntry).2 < (↑(mrgL l (List.take v.1 m)).length : Int))) ∧ ((decide ((m.getD (↑v.1 : Int).toNat zEntry).3 > ((mrgL l (List.take v.1 m)).getD (fndI (unE (mrgL l (List.take v.1 m)).length fun i j => (dasEntry ((mrgL l (List.take v.1 m)).getD i zEntry)).getD j (Da.val undef)) (m.getD (↑v.1 : Int).toNat zEntry).1 (m.getD (↑v.1 : Int).toNat zEntry).2).toNat zEntry).3) = false) ∧ (((0 ≤ fndI (unE (mrgL l (List.take v.1 m)).length fun i j => (dasEntry ((mrgL l (List.take v.1 m)).getD i zEntry)).getD j (Da.val undef)) (m.getD (↑v.1 : Int).toNat zEntry).1 (m.getD (↑v.1 : Int).toNat zEntry).2) ∧ (fndI (unE (mrgL l (List.take v.1 m)).length fun i j => (dasEntry ((mrgL l (List.take v.1 m)).getD i zEntry)).getD j (Da.val undef)) (m.getD (↑v.1 : Int).toNat zEntry).1 (m.getD (↑v.1 : Int).toNat zEntry).2 < (↑(mrgL l (List.take v.1 m)).length : Int))) ∧ ((((m.getD (↑v.1 : Int).toNat zEntry).3 == ((mrgL l (List.take v.1 m)).getD (fndI (unE (mrgL l (List.take v.1 m)).length fun i j => (dasEntry ((mrgL l (List.take v.1 m)).getD i zEntry)).getD j (Da.val undef)) (m.getD (↑v.1 : Int).toNat zEntry).1 (m.getD (↑v.1 : Int).toNat zEntry).2).toNat zEntry).3) = false) ∧ (∃ v' : UpX m, (m.length.sub v'.1 < m.length.sub v.1 ∧ (((some 10000 = some 10000 ∧ 0 = 0) ∧ ((some 10008 = some 10008 ∧ 0 = 0) ∧ ((some 10016 = some 10016 ∧ 0 = 0) ∧ (Value.bool false = Value.bool false ∧ ((some 40016 = some 40016 ∧ 0 = 0) ∧ (vI (IntKind.i64.wrap ((↑v.1 : Int) + 1)) = vI (↑v'.1 : Int) ∧ True)))))) ∧ ((26 = 26 ∧ (DaEq (rowR 38 4 dasEntry zEntry l) (rowR 38 4 dasEntry zEntry l))) ∧ ((26 = 26 ∧ (DaEq (rowR 38 4 dasEntry zEntry m) (rowR 38 4 dasEntry zEntry m))) ∧ ((26 = 26 ∧ Value.slice none 0 0 = Value.slice none 0 0) ∧ ((26 = 26 ∧ some 7 = some 7) ∧ ((DaEq (Da.row 38 4 (mrgL l (List.take v.1 m)).length fun i j => (dasEntry ((mrgL l (List.take v.1 m)).getD i zEntry)).getD j (Da.val undef)) (Da.row 38 4 (mrgL l (List.take v'.1 m)).length fun i j => (dasEntry ((mrgL l (List.take v'.1 m)).getD i zEntry)).getD j (Da.val undef))) ∧ True))))))))))))))))) ((FnCon Try.prog 27 [(true, [Da.row 38 4 (mrgL l (List.take v.1 m)).length fun i j => (dasEntry ((mrgL l (List.take v.1 m)).getD i zEntry)).getD j (Da.val undef)])] [(false, [dB ((vbu (unE (mrgL l (List.take v.1 m)).length fun i j => (dasEntry ((mrgL l (List.take v.1 m)).getD i zEntry)).getD j (Da.val undef))))])]) ∧ bcase (!vbu (unE (mrgL l (List.take v.1 m)).length fun i j => (dasEntry ((mrgL l (List.take v.1 m)).getD i zEntry)).getD j (Da.val undef))) ((FnCon Try.prog 43 [(true, [rowR 38 4 dasEntry zEntry l])] [(true, [rowR 38 4 dasEntry zEntry l])]) ∧ ((true = true ∧ (DaEq (rowR 38 4 dasEntry zEntry l) (Da.row 38 4 (mrgX l m).length fun i j => (dasEntry ((mrgX l m).getD i zEntry)).getD j (Da.val undef)))) ∧ (false = false ∧ Value.bool false = Value.bool (mrgB l m)))) ((true = true ∧ (DaEq (Da.row 38 4 (mrgL l (List.take v.1 m)).length fun i j => (dasEntry ((mrgL l (List.take v.1 m)).getD i zEntry)).getD j (Da.val undef)) (Da.row 38 4 (mrgX l m).length fun i j => (dasEntry ((mrgX l m).getD i zEntry)).getD j (Da.val undef)))) ∧ (false = false ∧ Value.bool true = Value.bool (mrgB l m))))))))))) (mrgC l m) (mgL l m) Try.func33 (by kernel_rfl) (by kernel_rfl) (by kernel_rfl) (fun _ => trivial) (by kernel_rfl) ?_
  refine bcase_intro (fun h0 => ⟨?g1, h0, ?g2, ⟨rfl, ?g3⟩, rfl, congrArg _ ?g4⟩) (fun h0 => ⟨?g5, h0, ?g6, bcase_intro (fun h7 => ⟨?g8, ⟨rfl, ?g9⟩, rfl, congrArg _ ?g10⟩) (fun h7 => ⟨?g11, ⟨⟨0, Nat.zero_le _⟩, ⟨⟨⟨rfl, rfl⟩, ⟨rfl, rfl⟩, ⟨rfl, rfl⟩, rfl, ⟨rfl, rfl⟩, congrArg _ ?g13, trivial⟩, ⟨rfl, DaEq.refl _⟩, ⟨rfl, DaEq.refl _⟩, ⟨rfl, rfl⟩, ⟨rfl, rfl⟩, ?g14, trivial⟩⟩, fun v => bcase_intro (fun h15 => ⟨⟨?g16, ?g17⟩, ?g18, bcase_intro (fun h19 => ⟨h19, rfl, ?g20, ⟨⟨v.1 + 1, ?wa⟩, ⟨?g22, ⟨⟨rfl, rfl⟩, ⟨rfl, rfl⟩, ⟨rfl, rfl⟩, rfl, ⟨rfl, rfl⟩, congrArg _ ?g23, trivial⟩, ⟨rfl, DaEq.refl _⟩, ⟨rfl, DaEq.refl _⟩, ⟨rfl, rfl⟩, ⟨rfl, rfl⟩, ?g24, trivial⟩⟩⟩) (fun h19 => bcase_intro (fun h25 => ⟨h19, ⟨?g26, ?g27⟩, h25, ?g28, ⟨⟨v.1 + 1, ?wb⟩, ⟨?g30, ⟨⟨rfl, rfl⟩, ⟨rfl, rfl⟩, ⟨rfl, rfl⟩, rfl, ⟨rfl, rfl⟩, congrArg _ ?g31, trivial⟩, ⟨rfl, DaEq.refl _⟩, ⟨rfl, DaEq.refl _⟩, ⟨rfl, rfl⟩, ⟨rfl, rfl⟩, ?g32, trivial⟩⟩⟩) (fun h25 => bcase_intro (fun h33 => ⟨h19, ⟨?g34, ?g35⟩, h25, ⟨?g36, ?g37⟩, h33, bcase_intro (fun h38 => ⟨?g39, ⟨⟨v.1 + 1, ?wc⟩, ⟨?g41, ⟨⟨rfl, rfl⟩, ⟨rfl, rfl⟩, ⟨rfl, rfl⟩, rfl, ⟨rfl, rfl⟩, congrArg _ ?g42, trivial⟩, ⟨rfl, DaEq.refl _⟩, ⟨rfl, DaEq.refl _⟩, ⟨rfl, rfl⟩, ⟨rfl, rfl⟩, ?g43, trivial⟩⟩⟩) (fun h38 => ⟨⟨v.1 + 1, ?wd⟩, ⟨?g45, ⟨⟨rfl, rfl⟩, ⟨rfl, rfl⟩, ⟨rfl, rfl⟩, rfl, ⟨rfl, rfl⟩, congrArg _ ?g46, trivial⟩, ⟨rfl, DaEq.refl _⟩, ⟨rfl, DaEq.refl _⟩, ⟨rfl, rfl⟩, ⟨rfl, rfl⟩, ?g47, trivial⟩⟩)⟩) (fun h33 => ⟨h19, ⟨?g48, ?g49⟩, h25, ⟨?g50, ?g51⟩, h33, ⟨⟨v.1 + 1, ?we⟩, ⟨?g53, ⟨⟨rfl, rfl⟩, ⟨rfl, rfl⟩, ⟨rfl, rfl⟩, rfl, ⟨rfl, rfl⟩, congrArg _ ?g54, trivial⟩, ⟨rfl, DaEq.refl _⟩, ⟨rfl, DaEq.refl _⟩, ⟨rfl, rfl⟩, ⟨rfl, rfl⟩, ?g55, trivial⟩⟩⟩)))⟩) (fun h15 => ⟨?g56, bcase_intro (fun h57 => ⟨?g58, ⟨rfl, ?g59⟩, rfl, congrArg _ ?g60⟩) (fun h57 => ⟨⟨rfl, ?g61⟩, rfl, congrArg _ ?g62⟩)⟩)⟩)⟩)
  case g1 | g5 => exact conIs l (by omega)
  case g6 => exact conIs m (by omega)
  case g2 | g8 | g11 | g58 => exact conCopy l (by omega)
  case g3 | g4 =>
    have hb := mrgB_1 (b := m) (show vbu l = false by simpa using h0)
    first | exact hb.symm | exact row_to row_self (mrgX_f hb).symm
  case g9 | g10 =>
    have hb := mrgB_2 (a := l) (show vbu m = false by simpa using h7)
    first | exact hb.symm | exact row_to row_self (mrgX_f hb).symm
  case g13 => rfl
  case g14 => exact row_to row_self rfl
  all_goals
    have hlen : (mrgL l (m.take v.1)).length ≤ 16000000 := by have := mrgL_len (m.take v.1) l; rw [List.length_take] at this; omega
  case g56 => rw [unE_self]; exact conIs _ (by omega)
  case g59 | g60 | g61 | g62 =>
    have h15 := of_decide_eq_false h15
    rw [unE_self] at h57
    rw [List.take_of_length_le (show m.length ≤ v.1 by omega)] at h57
    try rw [List.take_of_length_le (show m.length ≤ v.1 by omega)]
    first
      | (have hb := mrgB_3 (show vbu (mrgL l m) = false by simpa using h57); first | exact hb.symm | exact row_to row_self (mrgX_f hb).symm)
      | (have hb := mrgB_t (show vbu l = true by simpa using h0) (show vbu m = true by simpa using h7) (show vbu (mrgL l m) = true by simpa using h57); first | exact hb.symm | exact row_to row_self (mrgX_t hb).symm)
  all_goals have h15 := of_decide_eq_true h15
  case g16 | g17 => omega
  case g18 => rw [unE_self]; exact conFnd _ _ _ (by omega)
  case g20 | g28 | g39 => rw [unE_self]; exact conSet _ (m.getD _ zEntry) hlen
  case g22 | g30 | g41 | g45 | g53 => show m.length - (v.1 + 1) < m.length - v.1; omega
  case g23 | g31 | g42 | g46 | g54 => show IntKind.i64.wrap ((v.1 : Int) + 1) = ((v.1 + 1 : Nat) : Int); rw [IntWalk.i64_in _ (by omega)]; rfl
  case wa | wb | wc | wd | we => omega
  all_goals simp only [unE_self, Int.toNat_natCast] at *
  all_goals have hmt := mrgL_take (a := l) (b := m) (i := v.1) (by omega)
  case g24 => exact row_to row_self (by rw [hmt, stpE_none (fndI_neg (by have := of_decide_eq_true h19; omega))])
  all_goals
    obtain ⟨k, e, ek⟩ := fndI_pos (l := mrgL l (m.take v.1)) (s := (m.getD v.1 zEntry).Site) (h := (m.getD v.1 zEntry).Handle) (by have := of_decide_eq_false h19; omega)
    have hk := (fndE_at e).1
  case g26 | g27 | g34 | g35 | g36 | g37 | g48 | g49 | g50 | g51 => omega
  all_goals
    rw [ek] at h25
    simp only [Int.toNat_natCast] at h25
  case g32 =>
    have h25 := of_decide_eq_true h25
    exact row_to row_self (by rw [hmt, stpE_t e (by unfold newE; rw [decide_eq_true (by omega)]; rfl)])
  all_goals
    have h25 := of_decide_eq_false h25
    rw [ek] at h33
    simp only [Int.toNat_natCast] at h33
  case g43 => exact row_to row_self (by rw [hmt, stpE_t e (by unfold newE; rw [decide_eq_true (eq_of_beq h33), h38]; simp)])
  case g47 => exact row_to row_self (by rw [hmt, stpE_f e (by unfold newE; rw [decide_eq_false (by omega), h38]; simp)])
  case g55 => exact row_to row_self (by rw [hmt, stpE_f e (by unfold newE; rw [decide_eq_false (by omega), decide_eq_false (ne_of_beq_false h33)]; rfl)])
theorem conEql (l m : List En) (hnl : l.length ≤ 1000000000) (hnm : m.length ≤ 1000000000) : FnCon Try.prog 39 ([(true, [rowR 38 4 dasEntry zEntry l]), (true, [rowR 38 4 dasEntry zEntry m])]) ([bV (eqlE l m)]) := by
  refine fn_go (p := bcase ((↑l.length : Int) != (↑m.length : Int)) (false = false ∧ Value.bool false = Value.bool (eqlE l m)) ((∃ x0 : EqX l m, (((some 10000 = some 10000 ∧ 0 = 0) ∧ ((some 10008 = some 10008 ∧ 0 = 0) ∧ (Value.bool false = Value.bool false ∧ (vI 0 = vI (↑x0.1 : Int) ∧ True)))) ∧ ((26 = 26 ∧ (DaEq (rowR 38 4 dasEntry zEntry l) (rowR 38 4 dasEntry zEntry l))) ∧ ((26 = 26 ∧ (DaEq (rowR 38 4 dasEntry zEntry m) (rowR 38 4 dasEntry zEntry m))) ∧ True)))) ∧ (∀ v : EqX l m, bcase (decide ((↑v.1 : Int) < (↑l.length : Int))) ((0 ≤ (↑v.1 : Int) ∧ (↑v.1 : Int) < (↑l.length : Int)) ∧ ((0 ≤ (↑v.1 : Int) ∧ (↑v.1 : Int) < (↑m.length : Int)) ∧ bcase (match
  match (l.getD (↑v.1 : Int).toNat zEntry).1 == (m.getD (↑v.1 : Int).toNat zEntry).1 with
  | false => false
  | true =>
    match (l.getD (↑v.1 : Int).toNat zEntry).2 == (m.getD (↑v.1 : Int).toNat zEntry).2 with
    | false => false
    | true =>
      match (l.getD (↑v.1 : Int).toNat zEntry).3 == (m.getD (↑v.1 : Int).toNat zEntry).3 with
      | false => false
      | true =>
        match (l.getD (↑v.1 : Int).toNat zEntry).4 == (m.getD (↑v.1 : Int).toNat zEntry).4 with
        | false => false
        | true => true with
| true => false
| false => true) (false = false ∧ Value.bool false = Value.bool (eqlE l m)) (∃ v' : EqX l m, (l.length.sub v'.1 < l.length.sub v.1 ∧ (((some 10000 = some 10000 ∧ 0 = 0) ∧ ((some 10008 = some 10008 ∧ 0 = 0) ∧ (Value.bool false = Value.bool false ∧ (vI (IntKind.i64.wrap ((↑v.1 : Int) + 1)) = vI (↑v'.1 : Int) ∧ True)))) ∧ ((26 = 26 ∧ (DaEq (rowR 38 4 dasEntry zEntry l) (rowR 38 4 dasEntry zEntry l))) ∧ ((26 = 26 ∧ (DaEq (rowR 38 4 dasEntry zEntry m) (rowR 38 4 dasEntry zEntry m))) ∧ True))))))) (false = false ∧ Value.bool true = Value.bool (eqlE l m))))) (isC) (eqL l m) Try.func39 (by kernel_rfl) (by kernel_rfl) (by kernel_rfl) (fun _ => trivial) (by kernel_rfl) ?_
  refine bcase_intro (fun h0 => ⟨rfl, congrArg _ ?g1⟩) (fun h0 => ⟨⟨⟨0, Nat.zero_le _, (by have := bne_eq_false_iff_eq.1 h0; omega), fun j h => absurd h (Nat.not_lt_zero _)⟩, ⟨⟨⟨rfl, rfl⟩, ⟨rfl, rfl⟩, rfl, congrArg _ ?g3, trivial⟩, ⟨rfl, DaEq.refl _⟩, ⟨rfl, DaEq.refl _⟩, trivial⟩⟩, fun v => bcase_intro (fun h4 => ⟨⟨?g5, ?g6⟩, ⟨?g7, ?g8⟩, bcase_intro (fun h9 => ⟨rfl, congrArg _ ?g10⟩) (fun h9 => ⟨⟨v.1 + 1, ?wa, v.2.2.1, ?wb⟩, ⟨?g12, ⟨⟨rfl, rfl⟩, ⟨rfl, rfl⟩, rfl, congrArg _ ?g13, trivial⟩, ⟨rfl, DaEq.refl _⟩, ⟨rfl, DaEq.refl _⟩, trivial⟩⟩)⟩) (fun h4 => ⟨rfl, congrArg _ ?g14⟩)⟩)
  case g1 => exact (eqlE_f fun e => by rw [e] at h0; simp at h0).symm
  case g3 => rfl
  all_goals have hlen := v.2.2.1
  case g14 =>
    have h4 := of_decide_eq_false h4
    exact (eqlE_t (list_ext hlen fun j hj => v.2.2.2 j (by omega))).symm
  all_goals have h4 := of_decide_eq_true h4
  case g5 | g6 | g7 | g8 => omega
  case wa => omega
  case g12 => show l.length - (v.1 + 1) < l.length - v.1; omega
  case g13 => show IntKind.i64.wrap ((v.1 : Int) + 1) = ((v.1 + 1 : Nat) : Int); rw [IntWalk.i64_in _ (by omega)]; rfl
  all_goals simp only [Int.toNat_natCast] at h9
  case g10 => exact (eqlE_f fun e => en_not h9 (congrArg (fun z : List En => z.getD v.1 zEntry) e)).symm
  case wb =>
    intro j hj
    rcases Nat.lt_or_ge j v.1 with h | h
    · exact v.2.2.2 j h
    · obtain rfl : j = v.1 := by omega
      exact en_of h9
theorem conInc (l m : List En) (hnl : l.length ≤ 8000000) (hnm : m.length ≤ 8000000) : FnCon Try.prog 34 ([(true, [rowR 38 4 dasEntry zEntry l]), (true, [rowR 38 4 dasEntry zEntry m])]) ([bV (incB l m)]) := by
  refine fn_go (p := ((FnCon Try.prog 33 [(true, [rowR 38 4 dasEntry zEntry l]), (true, [rowR 38 4 dasEntry zEntry m])] [(true, [Da.row 38 4 (mrgX l m).length fun i j => (dasEntry ((mrgX l m).getD i zEntry)).getD j (Da.val undef)]), (false, [dB ((mrgB l m))])]) ∧ bcase (mrgB l m) (mrgB l m = true ∧ ((FnCon Try.prog 39 [(true, [Da.row 38 4 (mrgX l m).length fun i j => (dasEntry ((mrgX l m).getD i zEntry)).getD j (Da.val undef)]), (true, [rowR 38 4 dasEntry zEntry l])] [(false, [dB ((eqlE (mrgX l m) l))])]) ∧ (false = false ∧ Value.bool (eqlE (mrgX l m) l) = Value.bool (incB l m)))) (mrgB l m = false ∧ (false = false ∧ Value.bool false = Value.bool (incB l m))))) (incC l m) (noLoops) Try.func34 (by kernel_rfl) (by kernel_rfl) (by kernel_rfl) (fun _ => trivial) (by kernel_rfl) ?_
  refine ⟨?g0, bcase_intro (fun h1 => ⟨h1, ?g2, rfl, congrArg _ ?g3⟩) (fun h1 => ⟨h1, rfl, congrArg _ ?g4⟩)⟩
  case g0 => exact conMrg l m hnl hnm
  case g2 => exact conEql (mrgX l m) l (by have := mrgX_len l m; omega) (by omega)
  case g3 => unfold incB; rw [h1]; rfl
  case g4 => unfold incB; rw [h1]; rfl
theorem conAct (l : List En) (hnl : l.length ≤ 16000000) : FnCon Try.prog 35 ([(true, [rowR 38 4 dasEntry zEntry l])]) ([(false, [rowR 38 4 dasEntry zEntry (actE l)])]) := by
  refine fn_go (p := ((∃ x0 : UpX l, (((some 10000 = some 10000 ∧ 0 = 0) ∧ (Value.slice none 0 0 = Value.slice none 0 0 ∧ (some 20000 = some 20000 ∧ (vI 0 = vI (↑x0.1 : Int) ∧ True)))) ∧ ((26 = 26 ∧ (DaEq (rowR 38 4 dasEntry zEntry l) (rowR 38 4 dasEntry zEntry l))) ∧ ((DaEq (Da.row 38 4 0 fun i j => Da.val ([].getD (i * 4 + j) undef)) (Da.row 38 4 (actE (List.take x0.1 l)).length fun i j => (dasEntry ((actE (List.take x0.1 l)).getD i zEntry)).getD j (Da.val undef))) ∧ True)))) ∧ (∀ v : UpX l, bcase (decide ((↑v.1 : Int) < (↑l.length : Int))) ((0 ≤ (↑v.1 : Int) ∧ (↑v.1 : Int) < (↑l.length : Int)) ∧ bcase (!(l.getD (↑v.1 : Int).toNat zEntry).4) ((0 ≤ (↑v.1 : Int) ∧ (↑v.1 : Int) < (↑l.length : Int)) ∧ ((E9.PlainEl 1 4 fun i j => Da.val ([vI (l.getD (↑v.1 : Int).toNat zEntry).1, vI (l.getD (↑v.1 : Int).toNat zEntry).2, vI (l.getD (↑v.1 : Int).toNat zEntry).3, Value.bool (l.getD (↑v.1 : Int).toNat zEntry).4].getD (i * 4 + j) undef)) ∧ ((actE (List.take v.1 l)).length + 1 ≤ 1000000000000 ∧ (((actE (List.take v.1 l)).length + 1) * 32 ≤ 140737488355328 ∧ (∃ v' : UpX l, (l.length.sub v'.1 < l.length.sub v.1 ∧ (((some 10000 = some 10000 ∧ 0 = 0) ∧ (Value.slice none 0 0 = Value.slice none 0 0 ∧ (some 70056 = some 70056 ∧ (vI (IntKind.i64.wrap ((↑v.1 : Int) + 1)) = vI (↑v'.1 : Int) ∧ True)))) ∧ ((26 = 26 ∧ (DaEq (rowR 38 4 dasEntry zEntry l) (rowR 38 4 dasEntry zEntry l))) ∧ ((DaEq
  (Da.row 38 4 ((actE (List.take v.1 l)).length + 1) fun i j =>
    match i.succ.ble (actE (List.take v.1 l)).length with
    | true => (dasEntry ((actE (List.take v.1 l)).getD i zEntry)).getD j (Da.val undef)
    | false => Da.val ([vI (l.getD (↑v.1 : Int).toNat zEntry).1, vI (l.getD (↑v.1 : Int).toNat zEntry).2, vI (l.getD (↑v.1 : Int).toNat zEntry).3, Value.bool (l.getD (↑v.1 : Int).toNat zEntry).4].getD ((i - (actE (List.take v.1 l)).length) * 4 + j) undef))
  (Da.row 38 4 (actE (List.take v'.1 l)).length fun i j => (dasEntry ((actE (List.take v'.1 l)).getD i zEntry)).getD j (Da.val undef))) ∧ True))))))))) (∃ v' : UpX l, (l.length.sub v'.1 < l.length.sub v.1 ∧ (((some 10000 = some 10000 ∧ 0 = 0) ∧ (Value.slice none 0 0 = Value.slice none 0 0 ∧ (some 7 = some 7 ∧ (vI (IntKind.i64.wrap ((↑v.1 : Int) + 1)) = vI (↑v'.1 : Int) ∧ True)))) ∧ ((26 = 26 ∧ (DaEq (rowR 38 4 dasEntry zEntry l) (rowR 38 4 dasEntry zEntry l))) ∧ ((DaEq (Da.row 38 4 (actE (List.take v.1 l)).length fun i j => (dasEntry ((actE (List.take v.1 l)).getD i zEntry)).getD j (Da.val undef)) (Da.row 38 4 (actE (List.take v'.1 l)).length fun i j => (dasEntry ((actE (List.take v'.1 l)).getD i zEntry)).getD j (Da.val undef))) ∧ True)))))) (false = false ∧ (DaEq (Da.row 38 4 (actE (List.take v.1 l)).length fun i j => (dasEntry ((actE (List.take v.1 l)).getD i zEntry)).getD j (Da.val undef)) (Da.row 38 4 (actE l).length fun i j => (dasEntry ((actE l).getD i zEntry)).getD j (Da.val undef))))))) (isC) (acL l) Try.func35 (by kernel_rfl) (by kernel_rfl) (by kernel_rfl) (fun _ => trivial) (by kernel_rfl) ?_
  refine ⟨⟨⟨0, Nat.zero_le _⟩, ⟨⟨⟨rfl, rfl⟩, rfl, rfl, congrArg _ ?g1, trivial⟩, ⟨rfl, DaEq.refl _⟩, ?g2, trivial⟩⟩, fun v => bcase_intro (fun h3 => ⟨⟨?g4, ?g5⟩, bcase_intro (fun h6 => ⟨⟨?g7, ?g8⟩, ?g9, ?g10, ?g11, ⟨⟨v.1 + 1, ?wa⟩, ⟨?g13, ⟨⟨rfl, rfl⟩, rfl, rfl, congrArg _ ?g14, trivial⟩, ⟨rfl, DaEq.refl _⟩, ?g15, trivial⟩⟩⟩) (fun h6 => ⟨⟨v.1 + 1, ?wb⟩, ⟨?g17, ⟨⟨rfl, rfl⟩, rfl, rfl, congrArg _ ?g18, trivial⟩, ⟨rfl, DaEq.refl _⟩, ?g19, trivial⟩⟩)⟩) (fun h3 => ⟨rfl, ?g20⟩)⟩
  case g1 => rfl
  case g2 => exact row_to row_nil rfl
  case g20 =>
    have h3 := of_decide_eq_false h3
    exact row_to row_self (by rw [List.take_of_length_le (show l.length ≤ v.1 by omega)])
  all_goals have h3 := of_decide_eq_true h3
  all_goals have hal : (actE (l.take v.1)).length ≤ l.length := by have := actE_len (l.take v.1); rw [List.length_take] at this; omega
  case g4 | g5 | g7 | g8 | g10 | g11 | wa | wb => omega
  case g9 =>
    intro i hi j hj
    obtain rfl : i = 0 := by omega
    match j, hj with
    | 0, _ | 1, _ | 2, _ | 3, _ => rfl
  case g13 | g17 => show l.length - (v.1 + 1) < l.length - v.1; omega
  case g14 | g18 => show IntKind.i64.wrap ((v.1 : Int) + 1) = ((v.1 + 1 : Nat) : Int); rw [IntWalk.i64_in _ (by omega)]; rfl
  case g15 =>
    refine row_to (row_app row_self (row_one (x := l.getD v.1 zEntry) fun j hj => by
      match j, hj with
      | 0, _ | 1, _ | 2, _ | 3, _ => rfl)) ?_
    rw [actE_take (by omega), show (l.getD v.1 zEntry).Deleted = false by simpa using h6]
  case g19 => exact row_to row_self (by rw [actE_take (by omega), show (l.getD v.1 zEntry).Deleted = true by simpa using h6, List.append_nil])
end Go.Proofs.Ytoedfeacpllkeaa.C17s
