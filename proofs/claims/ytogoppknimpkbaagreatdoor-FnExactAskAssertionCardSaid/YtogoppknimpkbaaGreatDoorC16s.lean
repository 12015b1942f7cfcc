import Derived.Test.YtogoppknimpkbaaGreatDoorM24
import Derived.Test.YtogoppknimpkbaaGreatDoorC16c
import Derived.Test.YtogoppknimpkbaaGreatDoorE28
namespace Go.Proofs.YtogoppknimpkbaaGreatDoor.C16s
open Go.ChangeShapes Go.WideShapes Go.ChangeAt Go.RowKit
open S0 S1 S9 Dm Fx M3 M8 M12 M13 C9 C10 M24 C16c E0 E1 E2 E3 E4 E7 E10 E15 E16 E17 E18 E19 E20 E26 E28 Das
set_option linter.unusedVariables false
set_option linter.unusedSimpArgs false
set_option maxRecDepth 100000
theorem put_org {old : World → Prop} {id q n i f : Nat} {ob : Oper} {x y : Operand} {el : Nat → Nat → Da} {E : TypeId} {o : Fx.Origin} (ho : ob.op = .store 43 x y) (hs : size? Tryz.prog 43 = some 3) (hf : f + 3 ≤ 6) :
    Cust Tryz.prog old id ob [.one (.elo q 6 i f), .agg [.val (.bool o.Secure), .val (.string o.Host), .val (.int .i64 o.Port)]] [.own (.row E 6 n el)] ⟨[], .one (.val undef), [(q, .own (.row E 6 n (putAt el i f (dasOrigin o))))]⟩ :=
  cust_putV (us := [.bool o.Secure, .string o.Host, .int .i64 o.Port]) ho hs rfl (by decide) hf (fun u hu => by
    simp only [List.mem_cons, List.not_mem_nil, or_false] at hu
    rcases hu with rfl | rfl | rfl <;> rfl)
theorem put_top (x : Tb) (i : Nat) (o : Fx.Origin) : ∀ j, j < 6 → (dasTab ⟨x.Origin, o⟩).getD j (.val undef) = putAt (fun _ j => (dasTab x).getD j (.val undef)) i 3 (dasOrigin o) i j := fun j hj => by
  rw [putAt_if]
  match j, hj with
  | 0, _ | 1, _ | 2, _ | 3, _ | 4, _ | 5, _ => simp [dasTab, dasOrigin]
theorem put_own (x x' : Tb) (i : Nat) (o : Fx.Origin) : ∀ j, j < 6 → x' = x → (dasTab ⟨o, x.Top⟩).getD j (.val undef) = putAt (fun _ j => (dasTab x').getD j (.val undef)) i 0 (dasOrigin o) i j := fun j hj e => by
  subst e
  rw [putAt_if]
  match j, hj with
  | 0, _ | 1, _ | 2, _ | 3, _ | 4, _ | 5, _ => simp [dasTab, dasOrigin]
theorem ba_beq (a b : ByteArray) : (a == b) = decide (a = b) := by
  obtain ⟨x⟩ := a
  obtain ⟨y⟩ := b
  by_cases h : x = y
  · subst h
    rw [decide_eq_true rfl]
    show (x == x) = true
    simp
  · rw [decide_eq_false (fun e => h (by injection e))]
    show (x == y) = false
    simpa using h
theorem org_of {x y : Fx.Origin} (h : (match x.Secure == y.Secure with | false => false | true => match x.Host == y.Host with | false => false | true => match x.Port == y.Port with | false => false | true => true) = true) : x = y := by
  obtain ⟨a, b, c⟩ := x
  obtain ⟨a', b', c'⟩ := y
  simp only at h
  cases h1 : a == a' with
  | false => simp [h1] at h
  | true =>
    cases h2 : b == b' with
    | false => simp [h1, h2] at h
    | true =>
      cases h3 : c == c' with
      | false => simp [h1, h2, h3] at h
      | true => rw [eq_of_beq h1, of_decide_eq_true ((ba_beq b b').symm.trans h2), eq_of_beq h3]
theorem org_not {x y : Fx.Origin} (h : (match x.Secure == y.Secure with | false => false | true => match x.Host == y.Host with | false => false | true => match x.Port == y.Port with | false => false | true => true) = false) : x ≠ y := fun e => by
  subst e
  rw [ba_beq] at h
  simp at h
open Classical in
theorem mO (x y : Fx.Origin) : (match x.Secure == y.Secure with | false => false | true => match x.Host == y.Host with | false => false | true => match x.Port == y.Port with | false => false | true => true) = decide (x = y) := by
  by_cases h : x = y
  · rw [decide_eq_true h]; subst h; rw [ba_beq]; simp
  · rw [decide_eq_false h]
    refine Bool.eq_false_iff.2 fun e => h (org_of e)
open Classical in
theorem tab_not {x y : Tb} (h : (match (match (match x.Origin.Secure == y.Origin.Secure with | false => false | true => match x.Origin.Host == y.Origin.Host with | false => false | true => match x.Origin.Port == y.Origin.Port with | false => false | true => true) with | false => false | true => match (match x.Top.Secure == y.Top.Secure with | false => false | true => match x.Top.Host == y.Top.Host with | false => false | true => match x.Top.Port == y.Top.Port with | false => false | true => true) with | false => false | true => true) with | true => false | false => true) = true) : x ≠ y := fun e => by
  subst e
  rw [mO, mO, decide_eq_true rfl, decide_eq_true rfl] at h
  cases h
theorem tab_of {x y : Tb} (h : (match (match (match x.Origin.Secure == y.Origin.Secure with | false => false | true => match x.Origin.Host == y.Origin.Host with | false => false | true => match x.Origin.Port == y.Origin.Port with | false => false | true => true) with | false => false | true => match (match x.Top.Secure == y.Top.Secure with | false => false | true => match x.Top.Host == y.Top.Host with | false => false | true => match x.Top.Port == y.Top.Port with | false => false | true => true) with | false => false | true => true) with | true => false | false => true) = false) : x = y := by
  rw [mO, mO] at h
  by_cases h1 : x.Origin = y.Origin
  · by_cases h2 : x.Top = y.Top
    · obtain ⟨a, b⟩ := x
      obtain ⟨a', b'⟩ := y
      rw [show a = a' from h1, show b = b' from h2]
    · simp [h1, h2] at h
  · simp [h1] at h
theorem st_of {x y : Fx.KeyStore} (h : (match (match x.Vendor == y.Vendor with | false => false | true => match x.Serial == y.Serial with | false => false | true => match x.Seed == y.Seed with | false => false | true => match x.Counter == y.Counter with | false => false | true => true) with | true => false | false => true) = false) : x = y := by
  obtain ⟨a, b, c, d⟩ := x
  obtain ⟨a', b', c', d'⟩ := y
  simp only at h
  cases h1 : a == a' with
  | false => simp [h1] at h
  | true =>
    cases h2 : b == b' with
    | false => simp [h1, h2] at h
    | true =>
      cases h3 : c == c' with
      | false => simp [h1, h2, h3] at h
      | true =>
        cases h4 : d == d' with
        | false => simp [h1, h2, h3, h4] at h
        | true => rw [eq_of_beq h1, eq_of_beq h2, eq_of_beq h3, eq_of_beq h4]
theorem nav_eq {x : Tb} {o : Fx.Origin} (h : x.Top = x.Origin) : navT x o = ⟨o, o⟩ := by unfold navT; rw [if_pos h]
theorem nav_ne {x : Tb} {o : Fx.Origin} (h : x.Top ≠ x.Origin) : navT x o = ⟨o, x.Top⟩ := by unfold navT; rw [if_neg h]
def keepO (qs : List Nat) (obs : Nat → Ob) : List (Nat × Ob) := qs.map fun q => (q, obs q)
theorem plainT (f : Nat → Tb) (n : Nat) : E9.PlainEl n 6 (fun i j => (dasTab (f i)).getD j (.val undef)) := plain_row (das := dasTab) (k := 6) (fun _ => rfl) (fun _ => rfl) f n
noncomputable def opnC (b : Fx.Browser) (o p : Fx.Origin) : Orc := callsBy fun d _ _ => match d with | some 10 => some [(true, dasBrowser b)] | some 12 => some [bV (orgB o)] | some 16 => some [bV (orgB p)] | _ => none
noncomputable def canC (b : Fx.Browser) (t : Int) (z : ByteArray) : Orc := callsBy fun d _ a => match d with | some 12 => some [bV (isTab b t)] | some 21 => some [bV (mayO (tabAt b t).Origin (bts z))] | some 36 => some [bV (sameO (tabAt b t).Origin (tabAt b t).Top)] | _ => none
/-- An origin stored in an element of a row of one's own. -/
def navE (o : Fx.Origin) (vs : List AV) (os : List Ob) : Option Eff := match vs with
  | .one (.elo q k i f) :: _ => (match os with
    | .own (.row E _ n el) :: _ => some ⟨[], .one (.val undef), [(q, .own (.row E k n (putAt el i f [.val (.bool o.Secure), .val (.string o.Host), .val (.int .i64 o.Port)])))]⟩
    | _ => none)
  | _ => none
noncomputable def navC (b : Fx.Browser) (t : Int) (o : Fx.Origin) : Orc := ⟨fun d _ _ => match d with | some 10 => some [(true, dasBrowser b)] | some 16 => some [bV (isTab b t)] | some 20 => some [bV (orgB o)] | _ => none, fun id vs os => match id with
  | 60048 => navE o vs os
  | 70048 => navE o vs os
  | _ => none, fun _ => True⟩
noncomputable def regC (b : Fx.Browser) (t : Int) (z : ByteArray) (k : Int) : Orc := callsBy fun d _ _ => match d with | some 15 => some [(true, dasBrowser b)] | some 19 => some [bV (canB b t z)] | some 31 => some [bV (vst b.Store)] | some 40 => some [iV (pubS b.Store z k)] | _ => none
abbrev EqlX (l m : List Tb) : Type := { i : Nat // i ≤ l.length ∧ l.length = m.length ∧ ∀ j, j < i → l.getD j zTab = m.getD j zTab }
def eqlL (l m : List Tb) : Loops := fun r _ => match r with
  | 4 => some ⟨EqlX l m, fun v sl => only [2, 3, 4, 5] 0 (sl.set 5 (.one (.val (vI v.1)))), fun _ obs => keepO [10000, 10008] obs, fun v => l.length - v.1⟩
  | _ => none
theorem conIn (n lo hi : Int) : FnCon Tryz.prog 31 ([iV n, iV lo, iV hi]) ([bV (inT n lo hi)]) := by
  refine fn_go (p := bcase (decide (n ≥ lo)) (decide (n ≥ lo) = true ∧ (false = false ∧ Value.bool (decide (n ≤ hi)) = Value.bool (inT n lo hi))) (decide (n ≥ lo) = false ∧ (false = false ∧ Value.bool false = Value.bool (inT n lo hi)))) (noCalls) (noLoops) Tryz.func31 (by kernel_rfl) (by kernel_rfl) (by kernel_rfl) (fun _ => trivial) (by kernel_rfl) ?_
  refine bcase_intro (fun h0 => ⟨h0, rfl, congrArg _ ?g1⟩) (fun h0 => ⟨h0, rfl, congrArg _ ?g2⟩)
  case g1 => unfold inT; rw [show decide (lo ≤ n) = true from h0, Bool.true_and]
  case g2 => unfold inT; rw [show decide (lo ≤ n) = false from h0, Bool.false_and]
theorem conCopy (b : Fx.Browser) (hn : b.Tabs.length ≤ 16000000) : FnCon Tryz.prog 44 ([(true, dasBrowser b)]) ([(true, dasBrowser b)]) := by
  refine fn_go (p := ((E9.PlainEl b.Tabs.length 6 fun i j => (dasTab (b.Tabs.getD i zTab)).getD j (Da.val undef)) ∧ (0 + b.Tabs.length ≤ 1000000000000 ∧ ((0 + b.Tabs.length) * 64 ≤ 140737488355328 ∧ (true = true ∧ (vI b.Store.Vendor = vI b.Store.Vendor ∧ (vI b.Store.Serial = vI b.Store.Serial ∧ (vI b.Store.Seed = vI b.Store.Seed ∧ (vI b.Store.Counter = vI b.Store.Counter ∧ ((DaEq (Da.row 62 6 (0 + b.Tabs.length) fun i j => (dasTab (b.Tabs.getD (i - 0) zTab)).getD j (Da.val undef)) (rowR 62 6 dasTab zTab b.Tabs)) ∧ vI b.Asked = vI b.Asked)))))))))) (noCalls) (noLoops) Tryz.func44 (by kernel_rfl) (by kernel_rfl) (by kernel_rfl) (fun _ => trivial) (by kernel_rfl) ?_
  refine ⟨?g0, ?g1, ?g2, rfl, rfl, rfl, rfl, rfl, ?g3, rfl⟩
  case g0 => exact plainT _ _
  case g3 => exact row_to (row_app row_nil row_self) (by simp)
  all_goals omega
theorem conOpen (b : Fx.Browser) (o p : Fx.Origin) (hn : b.Tabs.length ≤ 15000000) (h1 : o.Host.size ≤ 4294967296) (h2 : p.Host.size ≤ 4294967296) : FnCon Tryz.prog 87 ([(true, dasBrowser b), (true, dasOrigin o), (true, dasOrigin p)]) ([(true, dasBrowser (openX b o p)), bV (openB b o p)]) := by
  refine fn_go (p := ((FnCon Tryz.prog 44 [(true, (dasBrowser b))] [(true, dasBrowser b)]) ∧ bcase (!orgB o) (FnCon Tryz.prog 63 [(true, (dasOrigin o))] [(false, [dB ((orgB o))])] ∧ ((!orgB o) = true ∧ (true = true ∧ ((true = true ∧ (vI b.Store.Vendor = vI (openX b o p).Store.Vendor ∧ (vI b.Store.Serial = vI (openX b o p).Store.Serial ∧ (vI b.Store.Seed = vI (openX b o p).Store.Seed ∧ (vI b.Store.Counter = vI (openX b o p).Store.Counter ∧ ((DaEq (rowR 62 6 dasTab zTab b.Tabs) (Da.row 62 6 (openX b o p).Tabs.length fun i j => (dasTab ((openX b o p).Tabs.getD i zTab)).getD j (Da.val undef))) ∧ vI b.Asked = vI (openX b o p).Asked)))))) ∧ (false = false ∧ Value.bool false = Value.bool (openB b o p)))))) (bcase (!orgB p) (FnCon Tryz.prog 63 [(true, (dasOrigin o))] [(false, [dB ((orgB o))])] ∧ ((!orgB o) = false ∧ (FnCon Tryz.prog 63 [(true, (dasOrigin p))] [(false, [dB ((orgB p))])] ∧ ((!orgB p) = true ∧ ((true = true ∧ (vI b.Store.Vendor = vI (openX b o p).Store.Vendor ∧ (vI b.Store.Serial = vI (openX b o p).Store.Serial ∧ (vI b.Store.Seed = vI (openX b o p).Store.Seed ∧ (vI b.Store.Counter = vI (openX b o p).Store.Counter ∧ ((DaEq (rowR 62 6 dasTab zTab b.Tabs) (Da.row 62 6 (openX b o p).Tabs.length fun i j => (dasTab ((openX b o p).Tabs.getD i zTab)).getD j (Da.val undef))) ∧ vI b.Asked = vI (openX b o p).Asked)))))) ∧ (false = false ∧ Value.bool false = Value.bool (openB b o p))))))) (FnCon Tryz.prog 63 [(true, (dasOrigin o))] [(false, [dB ((orgB o))])] ∧ ((!orgB o) = false ∧ (FnCon Tryz.prog 63 [(true, (dasOrigin p))] [(false, [dB ((orgB p))])] ∧ ((!orgB p) = false ∧ bcase (decide ((↑b.Tabs.length : Int) ≥ 8)) ((true = true ∧ (vI b.Store.Vendor = vI (openX b o p).Store.Vendor ∧ (vI b.Store.Serial = vI (openX b o p).Store.Serial ∧ (vI b.Store.Seed = vI (openX b o p).Store.Seed ∧ (vI b.Store.Counter = vI (openX b o p).Store.Counter ∧ ((DaEq (rowR 62 6 dasTab zTab b.Tabs) (Da.row 62 6 (openX b o p).Tabs.length fun i j => (dasTab ((openX b o p).Tabs.getD i zTab)).getD j (Da.val undef))) ∧ vI b.Asked = vI (openX b o p).Asked)))))) ∧ (false = false ∧ Value.bool false = Value.bool (openB b o p))) ((E9.PlainEl 1 6 fun i j => Da.val ([Value.bool o.Secure, Value.string o.Host, vI o.Port, Value.bool p.Secure, Value.string p.Host, vI p.Port].getD (i * 6 + j) undef)) ∧ (b.Tabs.length + 1 ≤ 1000000000000 ∧ ((b.Tabs.length + 1) * 64 ≤ 140737488355328 ∧ ((true = true ∧ (vI b.Store.Vendor = vI (openX b o p).Store.Vendor ∧ (vI b.Store.Serial = vI (openX b o p).Store.Serial ∧ (vI b.Store.Seed = vI (openX b o p).Store.Seed ∧ (vI b.Store.Counter = vI (openX b o p).Store.Counter ∧ ((DaEq
  (Da.row 62 6 (b.Tabs.length + 1) fun i j =>
    match i.succ.ble b.Tabs.length with
    | true => (dasTab (b.Tabs.getD i zTab)).getD j (Da.val undef)
    | false => Da.val ([Value.bool o.Secure, Value.string o.Host, vI o.Port, Value.bool p.Secure, Value.string p.Host, vI p.Port].getD ((i - b.Tabs.length) * 6 + j) undef))
  (Da.row 62 6 (openX b o p).Tabs.length fun i j => (dasTab ((openX b o p).Tabs.getD i zTab)).getD j (Da.val undef))) ∧ vI b.Asked = vI (openX b o p).Asked)))))) ∧ (false = false ∧ Value.bool true = Value.bool (openB b o p))))))))))))) (opnC b o p) (noLoops) Tryz.func87 (by kernel_rfl) (by kernel_rfl) (by kernel_rfl) (fun _ => trivial) (by kernel_rfl) ?_
  refine ⟨(conCopy b (by omega)), bcase_intro (fun h1 => ⟨(sOrg _ (by assumption)), h1, rfl, ⟨rfl, congrArg _ ?g3, congrArg _ ?g4, congrArg _ ?g5, congrArg _ ?g6, ?g7, congrArg _ ?g8⟩, rfl, congrArg _ ?g9⟩) (fun h1 => bcase_intro (fun h10 => ⟨(sOrg _ (by assumption)), h1, (sOrg _ (by assumption)), h10, ⟨rfl, congrArg _ ?g13, congrArg _ ?g14, congrArg _ ?g15, congrArg _ ?g16, ?g17, congrArg _ ?g18⟩, rfl, congrArg _ ?g19⟩) (fun h10 => ⟨(sOrg _ (by assumption)), h1, (sOrg _ (by assumption)), h10, bcase_intro (fun h22 => ⟨⟨rfl, congrArg _ ?g23, congrArg _ ?g24, congrArg _ ?g25, congrArg _ ?g26, ?g27, congrArg _ ?g28⟩, rfl, congrArg _ ?g29⟩) (fun h22 => ⟨?g30, ?g31, ?g32, ⟨rfl, congrArg _ ?g33, congrArg _ ?g34, congrArg _ ?g35, congrArg _ ?g36, ?g37, congrArg _ ?g38⟩, rfl, congrArg _ ?g39⟩)⟩))⟩
  case g30 =>
    intro i hi j hj
    obtain rfl : i = 0 := by omega
    match j, hj with
    | 0, _ | 1, _ | 2, _ | 3, _ | 4, _ | 5, _ => rfl
  case g31 | g32 => omega
  case g3 | g4 | g5 | g6 | g8 | g9 =>
    have e := openB_f1 (b := b) (p := p) (show orgB o = false by simpa using h1)
    first | exact e.symm | rw [openX_f e]
  case g7 =>
    have e := openB_f1 (b := b) (p := p) (show orgB o = false by simpa using h1)
    exact row_to row_self (by rw [openX_f e])
  case g13 | g14 | g15 | g16 | g18 | g19 =>
    have e := openB_f2 (b := b) (o := o) (show orgB p = false by simpa using h10)
    first | exact e.symm | rw [openX_f e]
  case g17 =>
    have e := openB_f2 (b := b) (o := o) (show orgB p = false by simpa using h10)
    exact row_to row_self (by rw [openX_f e])
  case g23 | g24 | g25 | g26 | g28 | g29 =>
    have h22 := of_decide_eq_true h22
    have e := openB_f3 (b := b) (o := o) (p := p) (by omega)
    first | exact e.symm | rw [openX_f e]
  case g27 =>
    have h22 := of_decide_eq_true h22
    have e := openB_f3 (b := b) (o := o) (p := p) (by omega)
    exact row_to row_self (by rw [openX_f e])
  all_goals
    have h22 := of_decide_eq_false h22
    have e := openB_t (b := b) (show orgB o = true by simpa using h1) (show orgB p = true by simpa using h10) (by omega)
  case g37 => exact row_to (row_app row_self (row_one (x := (⟨o, p⟩ : Tb)) fun j hj => by
      match j, hj with
      | 0, _ | 1, _ | 2, _ | 3, _ | 4, _ | 5, _ => rfl)) (by rw [openX_t e])
  all_goals first | exact e.symm | rw [openX_t e]
theorem conCan (b : Fx.Browser) (t : Int) (z : ByteArray) (hn : b.Tabs.length ≤ 16000000) (hs : short b) (hz : z.size ≤ 4294967296) : FnCon Tryz.prog 9 ([(true, dasBrowser b), iV t, sV z]) ([bV (canB b t z)]) := by
  refine fn_go (p := bcase (isTab b t) (bcase (mayO (tabAt b t).Origin (bts z)) (FnCon Tryz.prog 31 [(false, [dI (t)]), (false, [dI (0)]), (false, [dI ((IntKind.i64.wrap ((↑b.Tabs.length : Int) - 1)))])] [(false, [dB ((isTab b t))])] ∧ (isTab b t = true ∧ ((0 ≤ t ∧ t < (↑b.Tabs.length : Int)) ∧ (FnCon Tryz.prog 32 [(true, [dB ((b.Tabs.getD t.toNat zTab).Origin.Secure), dS ((b.Tabs.getD t.toNat zTab).Origin.Host), dI ((b.Tabs.getD t.toNat zTab).Origin.Port)]), (false, [dS (z)])] [(false, [dB ((mayO (tabAt b t).Origin (bts z)))])] ∧ (mayO (tabAt b t).Origin (bts z) = true ∧ ((0 ≤ t ∧ t < (↑b.Tabs.length : Int)) ∧ ((0 ≤ t ∧ t < (↑b.Tabs.length : Int)) ∧ (FnCon Tryz.prog 33 [(true, [dB ((b.Tabs.getD t.toNat zTab).Origin.Secure), dS ((b.Tabs.getD t.toNat zTab).Origin.Host), dI ((b.Tabs.getD t.toNat zTab).Origin.Port)]), (true, [dB ((b.Tabs.getD t.toNat zTab).Top.Secure), dS ((b.Tabs.getD t.toNat zTab).Top.Host), dI ((b.Tabs.getD t.toNat zTab).Top.Port)])] [(false, [dB ((sameO (tabAt b t).Origin (tabAt b t).Top))])] ∧ (false = false ∧ Value.bool (sameO (tabAt b t).Origin (tabAt b t).Top) = Value.bool (canB b t z)))))))))) (FnCon Tryz.prog 31 [(false, [dI (t)]), (false, [dI (0)]), (false, [dI ((IntKind.i64.wrap ((↑b.Tabs.length : Int) - 1)))])] [(false, [dB ((isTab b t))])] ∧ (isTab b t = true ∧ ((0 ≤ t ∧ t < (↑b.Tabs.length : Int)) ∧ (FnCon Tryz.prog 32 [(true, [dB ((b.Tabs.getD t.toNat zTab).Origin.Secure), dS ((b.Tabs.getD t.toNat zTab).Origin.Host), dI ((b.Tabs.getD t.toNat zTab).Origin.Port)]), (false, [dS (z)])] [(false, [dB ((mayO (tabAt b t).Origin (bts z)))])] ∧ (mayO (tabAt b t).Origin (bts z) = false ∧ (false = false ∧ Value.bool false = Value.bool (canB b t z)))))))) (FnCon Tryz.prog 31 [(false, [dI (t)]), (false, [dI (0)]), (false, [dI ((IntKind.i64.wrap ((↑b.Tabs.length : Int) - 1)))])] [(false, [dB ((isTab b t))])] ∧ (isTab b t = false ∧ (false = false ∧ (false = false ∧ Value.bool false = Value.bool (canB b t z)))))) (canC b t z) (noLoops) Tryz.func9 (by kernel_rfl) (by kernel_rfl) (by kernel_rfl) (fun _ => trivial) (by kernel_rfl) ?_
  refine bcase_intro (fun h0 => bcase_intro (fun h1 => ⟨?g2, h0, ⟨?g3, ?g4⟩, ?g5, h1, ⟨?g6, ?g7⟩, ⟨?g8, ?g9⟩, ?g10, rfl, congrArg _ ?g11⟩) (fun h1 => ⟨?g12, h0, ⟨?g13, ?g14⟩, ?g15, h1, rfl, congrArg _ ?g16⟩)) (fun h0 => ⟨?g17, h0, rfl, rfl, congrArg _ ?g18⟩)
  case g2 | g12 | g17 =>
    have := conIn t 0 (IntKind.i64.wrap ((b.Tabs.length : Int) - 1))
    rw [IntWalk.i64_in _ (by omega)] at this ⊢
    exact this
  case g16 => exact (canB_m (by simpa [tabAt] using h1)).symm
  case g18 => exact (canB_i h0).symm
  case g3 | g4 | g6 | g7 | g8 | g9 | g13 | g14 => have := isTab_lt h0; omega
  case g5 | g15 => exact sMay _ z (short_at hs _).1 hz
  case g10 => exact sSame _ _ (short_at hs _).1 (short_at hs _).2
  case g11 => unfold canB mayT; rw [h0, h1]; rfl
end Go.Proofs.YtogoppknimpkbaaGreatDoor.C16s
