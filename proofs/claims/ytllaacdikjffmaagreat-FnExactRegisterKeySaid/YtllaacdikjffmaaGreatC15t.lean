import Derived.Test.YtllaacdikjffmaaGreatC15s
import Derived.Test.YtllaacdikjffmaaGreatE26
import Derived.Test.YtllaacdikjffmaaGreatC14s
import Derived.Test.YtllaacdikjffmaaGreatC12t
namespace Go.Proofs.YtllaacdikjffmaaGreat.C15t
open Go.ChangeShapes Go.WideShapes Go.ChangeAt Go.RowKit
open S0 S1 S9 Dm Fx M8 M12 M13 M18 M21 C3 E0 E1 E2 E3 E7 E9 E10 E15 E16 E17 E18 E19 E20 E26 Das C15s
set_option linter.unusedVariables false
set_option linter.unusedSimpArgs false
set_option maxRecDepth 100000
theorem acc_info : (Tryz.prog.info? 52).map (fun i => (i.zero, i.size, i.bytes)) = some (some (.agg #[.int .i64 0, .int .i64 0, .slice none 0 0]), 3, 40) := by kernel_rfl
/-- One account as a row. -/
theorem cust_litA {old : World → Prop} {id r : Nat} {o : Oper} {x : Operand} {i m : Int} {d : Da} (ho : o.op = .buildSlice 30 1 #[(0, x)]) :
    Cust Tryz.prog old id o [.agg [.val (.int .i64 i), .val (.int .i64 m), .own r]] [.own d] ⟨[], .one (.own id), [(r, .gone), (id, .own (.row 52 3 1 (oneEl [.val (.int .i64 i), .val (.int .i64 m), d])))]⟩ := by
  obtain ⟨i0, hi, hz, hsz, hby⟩ := info_parts acc_info
  have h := cust_lit (P := Tryz.prog) (old := old) (id := id) (o := o) (x := x) (E := 52) (it := i0) (cs := [.val (.int .i64 i), .val (.int .i64 m), .own r]) (ds := [.val (.int .i64 i), .val (.int .i64 m), d]) (os := [.own d]) ho (by kernel_rfl) hi hz (by rw [hsz]; rfl) (by omega) (by omega) rfl (by rw [hsz]; rfl) (fun obs h => by
    have hr : obs r = .own d := by simpa [ScIds] using h
    refine ⟨rfl, rfl, ?_⟩
    show match obs r with | .own d' => DaEq d' d | _ => False
    rw [hr]
    exact DaEq.refl _) (by simp [csOwn]) rfl
  rw [hsz] at h
  exact h
theorem cust_appA {old : World → Prop} {id q r : Nat} {o : Oper} {c : Call} {x y : Operand} {n m : Nat} {el el2 : Nat → Nat → Da} (ho : o.op = .call c) (hc : c.callee = .builtin .append) (ha : c.args = #[x, y]) (ht : c.argTypes = #[30, 30]) (hqr : q ≠ r) (hone : OneEl m 3 el2) :
    Cust Tryz.prog old id o [.one (.own q), .one (.own r)] [.own (.row 52 3 n el), .own (.row 52 3 m el2)] ⟨[n + m ≤ 1000000000000, (n + m) * 40 ≤ 140737488355328], .one (.own id), [(q, .gone), (r, .gone), (id, .own (.row 52 3 (n + m) (appEl n el el2)))]⟩ := by
  obtain ⟨i0, hi, hz, hsz, hby⟩ := info_parts acc_info
  have h := cust_app (P := Tryz.prog) (old := old) (id := id) (q := q) (r := r) (o := o) (c := c) (x := x) (y := y) (E := 52) (i := i0) (n := n) (m := m) (el := el) (el2 := el2) ho hc ha ht (by kernel_rfl) hi hz (by rw [hsz]; rfl) (by omega) hqr (by rw [hsz]; exact hone)
  rw [hsz, hby] at h
  exact h
theorem row_oneEl {x : Ac} {ds : List Da} (h : ∀ j, j < 3 → ds.getD j (.val undef) = (dasAccount x).getD j (.val undef)) : RowOf 3 dasAccount zAccount 1 (oneEl ds) [x] := ⟨rfl, fun i hi j hj => by
  obtain rfl : i = 0 := by omega
  show ds.getD j (.val undef) = _
  rw [h j hj]
  rfl⟩
theorem one_lit {i m : Int} {E : TypeId} {k n : Nat} {el : Nat → Nat → Da} : OneEl 1 3 (oneEl [.val (.int .i64 i), .val (.int .i64 m), .row E k n el]) := fun a _ j hj u hu => by
  match j, hj with
  | 0, _ =>
    have hu : Da.val (.int .i64 i) = Da.val u := hu
    cases hu; rfl
  | 1, _ =>
    have hu : Da.val (.int .i64 m) = Da.val u := hu
    cases hu; rfl
  | 2, _ =>
    have hu : Da.row E k n el = Da.val u := hu
    cases hu
/-- An account off its data. -/
def mkAc (i m : Int) (n : Nat) (el : Nat → Nat → Da) : Ac := ⟨i, m, unC n el⟩
attribute [irreducible] mkAc
theorem mkAc_is (a : Ac) : mkAc a.Id a.Minimum a.Credentials.length (fun i j => (dasCredential (a.Credentials.getD i zCredential)).getD j (Da.val undef)) = a := by unfold mkAc; rw [unC_self]
abbrev CpX (l : List Ac) : Type := { i : Nat // i ≤ l.length }
noncomputable def cpL (s : Fx.Site) : Loops := fun r _ => match r with
  | 4 => some ⟨CpX s.Accounts, fun v sl => only [1, 2, 3, 4] 0 (sl.set 4 (.one (.val (vI v.1)))), fun v obs => keepO [10000, 10008] obs ++ [(20008, .var 35 [.val (.string s.Name), .own 7, .val (vI s.Book.Seed), .val (vI s.Book.Next), .old (rowR 67 3 dasChallenge zChallenge s.Book.Open), .old (numR 3 .i64 s.Logins)]), (7, .own (rowR 52 3 dasAccount zAccount (s.Accounts.take v.1)))], fun v => s.Accounts.length - v.1⟩
  | _ => none
noncomputable def cpC (s : Fx.Site) : Orc := ⟨fun d f a => match f with
  | 42 => (match a with | [(_, [.val (.int _ i), .val (.int _ m), .row _ _ n el])] => some [(true, dasAccount (mkAc i m n el))] | _ => none)
  | 43 => some [(true, dasChallengeBook s.Book)]
  | _ => none, fun id vs os => match id with
  | 70064 => (match vs, os with | [.agg [.val (.int _ i), .val (.int _ m), .own r]], [.own d] => some ⟨[], .one (.own 70064), [(r, .gone), (70064, .own (.row 52 3 1 (oneEl [.val (.int .i64 i), .val (.int .i64 m), d])))]⟩ | _, _ => none)
  | 70072 => (match vs, os with | [.one (.own q), .one (.own r)], [.own (.row _ _ n el), .own (.row _ _ m el2)] => some ⟨[n + m ≤ 1000000000000, (n + m) * 40 ≤ 140737488355328], .one (.own 70072), [(q, .gone), (r, .gone), (70072, .own (.row 52 3 (n + m) (appEl n el el2)))]⟩ | _, _ => none)
  | _ => none, fun _ => True⟩
theorem conCopy (s : Fx.Site) (hn : s.Accounts.length ≤ 16000000) (hc : ∀ a ∈ s.Accounts, a.Credentials.length ≤ 16000000) (hb : s.Book.Open.length ≤ 16000000) (hl : s.Logins.length ≤ 16000000) : FnCon Tryz.prog 17 ([(true, dasSite s)]) ([(true, dasSite s)]) := by
  refine fn_go (p := ((∃ x0 : CpX s.Accounts, (((some 10000 = some 10000 ∧ 0 = 0) ∧ ((some 10008 = some 10008 ∧ 0 = 0) ∧ ((some 20008 = some 20008 ∧ 0 = 0) ∧ (vI 0 = vI (↑x0.1 : Int) ∧ True)))) ∧ ((35 = 35 ∧ (Value.string s.Name = Value.string s.Name ∧ ((DaEq (rowR 52 3 dasAccount zAccount s.Accounts) (rowR 52 3 dasAccount zAccount s.Accounts)) ∧ (vI s.Book.Seed = vI s.Book.Seed ∧ (vI s.Book.Next = vI s.Book.Next ∧ ((DaEq (rowR 67 3 dasChallenge zChallenge s.Book.Open) (rowR 67 3 dasChallenge zChallenge s.Book.Open)) ∧ (DaEq (numR 3 .i64 s.Logins) (numR 3 .i64 s.Logins)))))))) ∧ ((35 = 35 ∧ (Value.string { data := { toList := [] } } = Value.string { data := { toList := [] } } ∧ (Value.slice none 0 0 = Value.slice none 0 0 ∧ (vI 0 = vI 0 ∧ (vI 0 = vI 0 ∧ (Value.slice none 0 0 = Value.slice none 0 0 ∧ Value.slice none 0 0 = Value.slice none 0 0)))))) ∧ ((35 = 35 ∧ (Value.string s.Name = Value.string s.Name ∧ (some 30000 = some 30000 ∧ (vI s.Book.Seed = vI s.Book.Seed ∧ (vI s.Book.Next = vI s.Book.Next ∧ ((DaEq (rowR 67 3 dasChallenge zChallenge s.Book.Open) (rowR 67 3 dasChallenge zChallenge s.Book.Open)) ∧ (DaEq (numR 3 .i64 s.Logins) (numR 3 .i64 s.Logins)))))))) ∧ ((DaEq (Da.row 52 3 0 fun i j => Da.val ([].getD (i * 3 + j) undef)) (Da.row 52 3 (List.take x0.1 s.Accounts).length fun i j => (dasAccount ((List.take x0.1 s.Accounts).getD i zAccount)).getD j (Da.val undef))) ∧ True)))))) ∧ (∀ v : CpX s.Accounts, bcase (decide ((↑v.1 : Int) < (↑s.Accounts.length : Int))) ((0 ≤ (↑v.1 : Int) ∧ (↑v.1 : Int) < (↑s.Accounts.length : Int)) ∧ ((FnCon Tryz.prog 42 [(true, [dI ((s.Accounts.getD (↑v.1 : Int).toNat zAccount).Id), dI ((s.Accounts.getD (↑v.1 : Int).toNat zAccount).Minimum), Da.row 81 4 (s.Accounts.getD (↑v.1 : Int).toNat zAccount).Credentials.length fun i j => (dasCredential ((s.Accounts.getD (↑v.1 : Int).toNat zAccount).Credentials.getD i zCredential)).getD j (Da.val undef)])] [(true, dasAccount (mkAc (s.Accounts.getD (↑v.1 : Int).toNat zAccount).Id (s.Accounts.getD (↑v.1 : Int).toNat zAccount).Minimum (s.Accounts.getD (↑v.1 : Int).toNat zAccount).Credentials.length fun i j => (dasCredential ((s.Accounts.getD (↑v.1 : Int).toNat zAccount).Credentials.getD i zCredential)).getD j (Da.val undef)))]) ∧ ((Cust Tryz.prog (fun x => True) 70064 (opOf (Tryz.f17.body.getD Code.skip) 6 8) [AV.agg [Sc.val (vI (mkAc (s.Accounts.getD (↑v.1 : Int).toNat zAccount).Id (s.Accounts.getD (↑v.1 : Int).toNat zAccount).Minimum (s.Accounts.getD (↑v.1 : Int).toNat zAccount).Credentials.length fun i j => (dasCredential ((s.Accounts.getD (↑v.1 : Int).toNat zAccount).Credentials.getD i zCredential)).getD j (Da.val undef)).Id), Sc.val (vI (mkAc (s.Accounts.getD (↑v.1 : Int).toNat zAccount).Id (s.Accounts.getD (↑v.1 : Int).toNat zAccount).Minimum (s.Accounts.getD (↑v.1 : Int).toNat zAccount).Credentials.length fun i j => (dasCredential ((s.Accounts.getD (↑v.1 : Int).toNat zAccount).Credentials.getD i zCredential)).getD j (Da.val undef)).Minimum), Sc.own 70056]] [Ob.own (Da.row 81 4 (mkAc (s.Accounts.getD (↑v.1 : Int).toNat zAccount).Id (s.Accounts.getD (↑v.1 : Int).toNat zAccount).Minimum (s.Accounts.getD (↑v.1 : Int).toNat zAccount).Credentials.length fun i j => (dasCredential ((s.Accounts.getD (↑v.1 : Int).toNat zAccount).Credentials.getD i zCredential)).getD j (Da.val undef)).Credentials.length fun i j => (dasCredential ((mkAc (s.Accounts.getD (↑v.1 : Int).toNat zAccount).Id (s.Accounts.getD (↑v.1 : Int).toNat zAccount).Minimum (s.Accounts.getD (↑v.1 : Int).toNat zAccount).Credentials.length fun i j => (dasCredential ((s.Accounts.getD (↑v.1 : Int).toNat zAccount).Credentials.getD i zCredential)).getD j (Da.val undef)).Credentials.getD i zCredential)).getD j (Da.val undef))] { need := [], val := AV.one (Sc.own 70064), mem := [(70056, Ob.gone), (70064, Ob.own (Da.row 52 3 1 fun x j => [dI ((mkAc (s.Accounts.getD (↑v.1 : Int).toNat zAccount).Id (s.Accounts.getD (↑v.1 : Int).toNat zAccount).Minimum (s.Accounts.getD (↑v.1 : Int).toNat zAccount).Credentials.length fun i j => (dasCredential ((s.Accounts.getD (↑v.1 : Int).toNat zAccount).Credentials.getD i zCredential)).getD j (Da.val undef)).Id), dI ((mkAc (s.Accounts.getD (↑v.1 : Int).toNat zAccount).Id (s.Accounts.getD (↑v.1 : Int).toNat zAccount).Minimum (s.Accounts.getD (↑v.1 : Int).toNat zAccount).Credentials.length fun i j => (dasCredential ((s.Accounts.getD (↑v.1 : Int).toNat zAccount).Credentials.getD i zCredential)).getD j (Da.val undef)).Minimum), Da.row 81 4 (mkAc (s.Accounts.getD (↑v.1 : Int).toNat zAccount).Id (s.Accounts.getD (↑v.1 : Int).toNat zAccount).Minimum (s.Accounts.getD (↑v.1 : Int).toNat zAccount).Credentials.length fun i j => (dasCredential ((s.Accounts.getD (↑v.1 : Int).toNat zAccount).Credentials.getD i zCredential)).getD j (Da.val undef)).Credentials.length fun i j => (dasCredential ((mkAc (s.Accounts.getD (↑v.1 : Int).toNat zAccount).Id (s.Accounts.getD (↑v.1 : Int).toNat zAccount).Minimum (s.Accounts.getD (↑v.1 : Int).toNat zAccount).Credentials.length fun i j => (dasCredential ((s.Accounts.getD (↑v.1 : Int).toNat zAccount).Credentials.getD i zCredential)).getD j (Da.val undef)).Credentials.getD i zCredential)).getD j (Da.val undef)].getD j (Da.val undef)))] }) ∧ ((Cust Tryz.prog (fun x => True) 70072 (opOf (Tryz.f17.body.getD Code.skip) 6 9) [AV.one (Sc.own 7), AV.one (Sc.own 70064)] [Ob.own (Da.row 52 3 (List.take v.1 s.Accounts).length fun i j => (dasAccount ((List.take v.1 s.Accounts).getD i zAccount)).getD j (Da.val undef)), Ob.own (Da.row 52 3 1 fun x j => [dI ((mkAc (s.Accounts.getD (↑v.1 : Int).toNat zAccount).Id (s.Accounts.getD (↑v.1 : Int).toNat zAccount).Minimum (s.Accounts.getD (↑v.1 : Int).toNat zAccount).Credentials.length fun i j => (dasCredential ((s.Accounts.getD (↑v.1 : Int).toNat zAccount).Credentials.getD i zCredential)).getD j (Da.val undef)).Id), dI ((mkAc (s.Accounts.getD (↑v.1 : Int).toNat zAccount).Id (s.Accounts.getD (↑v.1 : Int).toNat zAccount).Minimum (s.Accounts.getD (↑v.1 : Int).toNat zAccount).Credentials.length fun i j => (dasCredential ((s.Accounts.getD (↑v.1 : Int).toNat zAccount).Credentials.getD i zCredential)).getD j (Da.val undef)).Minimum), Da.row 81 4 (mkAc (s.Accounts.getD (↑v.1 : Int).toNat zAccount).Id (s.Accounts.getD (↑v.1 : Int).toNat zAccount).Minimum (s.Accounts.getD (↑v.1 : Int).toNat zAccount).Credentials.length fun i j => (dasCredential ((s.Accounts.getD (↑v.1 : Int).toNat zAccount).Credentials.getD i zCredential)).getD j (Da.val undef)).Credentials.length fun i j => (dasCredential ((mkAc (s.Accounts.getD (↑v.1 : Int).toNat zAccount).Id (s.Accounts.getD (↑v.1 : Int).toNat zAccount).Minimum (s.Accounts.getD (↑v.1 : Int).toNat zAccount).Credentials.length fun i j => (dasCredential ((s.Accounts.getD (↑v.1 : Int).toNat zAccount).Credentials.getD i zCredential)).getD j (Da.val undef)).Credentials.getD i zCredential)).getD j (Da.val undef)].getD j (Da.val undef))]
  { need := [(List.take v.1 s.Accounts).length + 1 ≤ 1000000000000, ((List.take v.1 s.Accounts).length + 1) * 40 ≤ 140737488355328], val := AV.one (Sc.own 70072),
    mem :=
      [(7, Ob.gone), (70064, Ob.gone),
        (70072,
          Ob.own
            (Da.row 52 3 ((List.take v.1 s.Accounts).length + 1) fun i j =>
              match i.succ.ble (List.take v.1 s.Accounts).length with
              | true => (dasAccount ((List.take v.1 s.Accounts).getD i zAccount)).getD j (Da.val undef)
              | false => [dI ((mkAc (s.Accounts.getD (↑v.1 : Int).toNat zAccount).Id (s.Accounts.getD (↑v.1 : Int).toNat zAccount).Minimum (s.Accounts.getD (↑v.1 : Int).toNat zAccount).Credentials.length fun i j => (dasCredential ((s.Accounts.getD (↑v.1 : Int).toNat zAccount).Credentials.getD i zCredential)).getD j (Da.val undef)).Id), dI ((mkAc (s.Accounts.getD (↑v.1 : Int).toNat zAccount).Id (s.Accounts.getD (↑v.1 : Int).toNat zAccount).Minimum (s.Accounts.getD (↑v.1 : Int).toNat zAccount).Credentials.length fun i j => (dasCredential ((s.Accounts.getD (↑v.1 : Int).toNat zAccount).Credentials.getD i zCredential)).getD j (Da.val undef)).Minimum), Da.row 81 4 (mkAc (s.Accounts.getD (↑v.1 : Int).toNat zAccount).Id (s.Accounts.getD (↑v.1 : Int).toNat zAccount).Minimum (s.Accounts.getD (↑v.1 : Int).toNat zAccount).Credentials.length fun i j => (dasCredential ((s.Accounts.getD (↑v.1 : Int).toNat zAccount).Credentials.getD i zCredential)).getD j (Da.val undef)).Credentials.length fun i j => (dasCredential ((mkAc (s.Accounts.getD (↑v.1 : Int).toNat zAccount).Id (s.Accounts.getD (↑v.1 : Int).toNat zAccount).Minimum (s.Accounts.getD (↑v.1 : Int).toNat zAccount).Credentials.length fun i j => (dasCredential ((s.Accounts.getD (↑v.1 : Int).toNat zAccount).Credentials.getD i zCredential)).getD j (Da.val undef)).Credentials.getD i zCredential)).getD j (Da.val undef)].getD j (Da.val undef)))] }) ∧ ((List.take v.1 s.Accounts).length + 1 ≤ 1000000000000 ∧ (((List.take v.1 s.Accounts).length + 1) * 40 ≤ 140737488355328 ∧ (∃ v' : CpX s.Accounts, (s.Accounts.length.sub v'.1 < s.Accounts.length.sub v.1 ∧ (((some 10000 = some 10000 ∧ 0 = 0) ∧ ((some 10008 = some 10008 ∧ 0 = 0) ∧ ((some 20008 = some 20008 ∧ 0 = 0) ∧ (vI (IntKind.i64.wrap ((↑v.1 : Int) + 1)) = vI (↑v'.1 : Int) ∧ True)))) ∧ ((35 = 35 ∧ (Value.string s.Name = Value.string s.Name ∧ ((DaEq (rowR 52 3 dasAccount zAccount s.Accounts) (rowR 52 3 dasAccount zAccount s.Accounts)) ∧ (vI s.Book.Seed = vI s.Book.Seed ∧ (vI s.Book.Next = vI s.Book.Next ∧ ((DaEq (rowR 67 3 dasChallenge zChallenge s.Book.Open) (rowR 67 3 dasChallenge zChallenge s.Book.Open)) ∧ (DaEq (numR 3 .i64 s.Logins) (numR 3 .i64 s.Logins)))))))) ∧ ((35 = 35 ∧ (Value.string { data := { toList := [] } } = Value.string { data := { toList := [] } } ∧ (Value.slice none 0 0 = Value.slice none 0 0 ∧ (vI 0 = vI 0 ∧ (vI 0 = vI 0 ∧ (Value.slice none 0 0 = Value.slice none 0 0 ∧ Value.slice none 0 0 = Value.slice none 0 0)))))) ∧ ((35 = 35 ∧ (Value.string s.Name = Value.string s.Name ∧ (some 70072 = some 70072 ∧ (vI s.Book.Seed = vI s.Book.Seed ∧ (vI s.Book.Next = vI s.Book.Next ∧ ((DaEq (rowR 67 3 dasChallenge zChallenge s.Book.Open) (rowR 67 3 dasChallenge zChallenge s.Book.Open)) ∧ (DaEq (numR 3 .i64 s.Logins) (numR 3 .i64 s.Logins)))))))) ∧ ((DaEq
  (Da.row 52 3 ((List.take v.1 s.Accounts).length + 1) fun i j =>
    match i.succ.ble (List.take v.1 s.Accounts).length with
    | true => (dasAccount ((List.take v.1 s.Accounts).getD i zAccount)).getD j (Da.val undef)
    | false => [dI ((mkAc (s.Accounts.getD (↑v.1 : Int).toNat zAccount).Id (s.Accounts.getD (↑v.1 : Int).toNat zAccount).Minimum (s.Accounts.getD (↑v.1 : Int).toNat zAccount).Credentials.length fun i j => (dasCredential ((s.Accounts.getD (↑v.1 : Int).toNat zAccount).Credentials.getD i zCredential)).getD j (Da.val undef)).Id), dI ((mkAc (s.Accounts.getD (↑v.1 : Int).toNat zAccount).Id (s.Accounts.getD (↑v.1 : Int).toNat zAccount).Minimum (s.Accounts.getD (↑v.1 : Int).toNat zAccount).Credentials.length fun i j => (dasCredential ((s.Accounts.getD (↑v.1 : Int).toNat zAccount).Credentials.getD i zCredential)).getD j (Da.val undef)).Minimum), Da.row 81 4 (mkAc (s.Accounts.getD (↑v.1 : Int).toNat zAccount).Id (s.Accounts.getD (↑v.1 : Int).toNat zAccount).Minimum (s.Accounts.getD (↑v.1 : Int).toNat zAccount).Credentials.length fun i j => (dasCredential ((s.Accounts.getD (↑v.1 : Int).toNat zAccount).Credentials.getD i zCredential)).getD j (Da.val undef)).Credentials.length fun i j => (dasCredential ((mkAc (s.Accounts.getD (↑v.1 : Int).toNat zAccount).Id (s.Accounts.getD (↑v.1 : Int).toNat zAccount).Minimum (s.Accounts.getD (↑v.1 : Int).toNat zAccount).Credentials.length fun i j => (dasCredential ((s.Accounts.getD (↑v.1 : Int).toNat zAccount).Credentials.getD i zCredential)).getD j (Da.val undef)).Credentials.getD i zCredential)).getD j (Da.val undef)].getD j (Da.val undef))
  (Da.row 52 3 (List.take v'.1 s.Accounts).length fun i j => (dasAccount ((List.take v'.1 s.Accounts).getD i zAccount)).getD j (Da.val undef))) ∧ True))))))))))))) ((FnCon Tryz.prog 43 [(true, [dI (s.Book.Seed), dI (s.Book.Next), rowR 67 3 dasChallenge zChallenge s.Book.Open])] [(true, dasChallengeBook s.Book)]) ∧ ((PlainEl s.Logins.length 1 fun i x => dI ((s.Logins.getD i 0))) ∧ (0 + s.Logins.length ≤ 1000000000000 ∧ ((0 + s.Logins.length) * 8 ≤ 140737488355328 ∧ (true = true ∧ (Value.string s.Name = Value.string s.Name ∧ ((DaEq (Da.row 52 3 (List.take v.1 s.Accounts).length fun i j => (dasAccount ((List.take v.1 s.Accounts).getD i zAccount)).getD j (Da.val undef)) (rowR 52 3 dasAccount zAccount s.Accounts)) ∧ (vI s.Book.Seed = vI s.Book.Seed ∧ (vI s.Book.Next = vI s.Book.Next ∧ ((DaEq (rowR 67 3 dasChallenge zChallenge s.Book.Open) (rowR 67 3 dasChallenge zChallenge s.Book.Open)) ∧ (DaEq (Da.row 3 1 (0 + s.Logins.length) fun i j => dI ((s.Logins.getD (i - 0) 0))) (numR 3 .i64 s.Logins))))))))))))))) (cpC s) (cpL s) Tryz.func17 (by kernel_rfl) (by kernel_rfl) (by kernel_rfl) (fun _ => trivial) (by kernel_rfl) ?_
  refine ⟨⟨⟨0, Nat.zero_le _⟩, ⟨⟨⟨rfl, rfl⟩, ⟨rfl, rfl⟩, ⟨rfl, rfl⟩, congrArg _ ?g1, trivial⟩, ⟨rfl, rfl, DaEq.refl _, rfl, rfl, DaEq.refl _, DaEq.refl _⟩, ⟨rfl, rfl, rfl, rfl, rfl, rfl, rfl⟩, ⟨rfl, rfl, rfl, rfl, rfl, DaEq.refl _, DaEq.refl _⟩, ?g2, trivial⟩⟩, fun v => bcase_intro (fun h3 => ⟨⟨?g4, ?g5⟩, ?g6, ?g7, ?g8, ?g9, ?g10, ⟨⟨v.1 + 1, ?wa⟩, ⟨?g12, ⟨⟨rfl, rfl⟩, ⟨rfl, rfl⟩, ⟨rfl, rfl⟩, congrArg _ ?g13, trivial⟩, ⟨rfl, rfl, DaEq.refl _, rfl, rfl, DaEq.refl _, DaEq.refl _⟩, ⟨rfl, rfl, rfl, rfl, rfl, rfl, rfl⟩, ⟨rfl, rfl, rfl, rfl, rfl, DaEq.refl _, DaEq.refl _⟩, ?g14, trivial⟩⟩⟩) (fun h3 => ⟨(T12s.conCopy _ hb), ?g16, ?g17, ?g18, rfl, rfl, ?g19, rfl, rfl, DaEq.refl _, ?g20⟩)⟩
  case g1 => rfl
  case g2 => exact ⟨rfl, rfl, rfl, fun i hi => absurd hi (Nat.not_lt_zero _)⟩
  case g16 => exact fun i _ j _ => rfl
  case g17 | g18 => omega
  case g19 =>
    have h3 := of_decide_eq_false h3
    exact row_to row_self (List.take_of_length_le (by omega))
  case g20 => exact ⟨rfl, rfl, Nat.zero_add _, fun i _ j _ => rfl⟩
  all_goals
    have hl : v.1 < s.Accounts.length := by have := of_decide_eq_true h3; omega
    have htn : (↑v.1 : Int).toNat = v.1 := Int.toNat_natCast _
  case g4 | g5 => omega
  case g6 =>
    simp only [mkAc_is]
    exact C14s.conCopy _ (cr_le hc _)
  case g7 => exact cust_litA rfl
  case g8 => exact cust_appA rfl rfl rfl rfl (by decide) one_lit
  case g9 | g10 => rw [List.length_take]; omega
  case wa => omega
  case g12 => show s.Accounts.length - (v.1 + 1) < s.Accounts.length - v.1; omega
  case g13 => show IntKind.i64.wrap ((v.1 : Int) + 1) = ((v.1 + 1 : Nat) : Int); rw [IntWalk.i64_in _ (by omega)]; rfl
  case g14 =>
    simp only [mkAc_is]
    refine row_to (row_app row_self (row_oneEl (x := s.Accounts.getD (v.1 : Int).toNat zAccount) fun j hj => ?_)) ?_
    · match j, hj with
      | 0, _ => rfl
      | 1, _ => rfl
      | 2, _ => rfl
    · show s.Accounts.take v.1 ++ [s.Accounts.getD (v.1 : Int).toNat zAccount] = s.Accounts.take (v.1 + 1)
      rw [htn, List.take_succ_eq_append_getElem hl, List.getD_eq_getElem?_getD, List.getElem?_eq_getElem hl]
      rfl
end Go.Proofs.YtllaacdikjffmaaGreat.C15t
