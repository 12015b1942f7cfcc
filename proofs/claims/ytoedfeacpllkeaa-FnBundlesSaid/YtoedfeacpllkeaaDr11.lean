import Derived.Test.YtoedfeacpllkeaaDr10
import Derived.Test.YtoedfeacpllkeaaE31
import Derived.Test.YtoedfeacpllkeaaM28
namespace Go.Proofs.Ytoedfeacpllkeaa.Dr
open Go.ChangeShapes Go.WideShapes Go.ChangeAt Go.RowKit
open S0 S1 S9 Dm Fx M26 M27 M28 E0 E1 E2 E3 E4 E7 E9e E10 E15 E16 E17 E18 E19 E20 E22 E23 E26 E30 E31 Das
set_option linter.unusedVariables false
set_option linter.unusedSimpArgs false
set_option maxRecDepth 100000
set_option maxHeartbeats 4000000
/-- A list of bundles as a row of rows. -/
def rowB (ls : List (List En)) : Da := .row 26 1 ls.length (fun i _ => rowR 38 4 dasEntry zEntry (ls.getD i []))
/-- A bundle after some steps. -/
def tB (xs : List Int) (x : List En) (s : Cu) : BS := runB xs (belV xs 6 s).toNat ⟨(belV xs 6 s).toNat, x, belS xs 6 s⟩
def t0 (xs : List Int) : BS := tB xs [] (start xs)
def tS (xs : List Int) : Nat → Cu
  | 0 => (t0 xs).s
  | k + 1 => (tB xs (t0 xs).l (tS xs k)).s
def tL (xs : List Int) (k : Nat) : List En := (tB xs (t0 xs).l (tS xs k)).l
def tLs (xs : List Int) (k : Nat) : List (List En) := (List.range k).map (tL xs)
structure TI (xs : List Int) (R v : BS) : Prop where
  ok : OkC xs v.s
  n6 : v.n ≤ 6
  kp : Few v.l
  run : runB xs v.n v = R
theorem few_step {xs : List Int} {l : List En} {s : Cu} (k : Few l) : Few (stepL xs l s) := by
  have h1 := belV_bd xs (n := 4) s (by omega)
  have h2 := belV_bd xs (n := 3) (belS xs 4 s) (by omega)
  cases e : (belV xs 3 (belS xs 3 (belS xs 4 s)) == 0) with
  | true => rw [stepL_t e]; exact k.del (by omega) (by omega)
  | false => rw [stepL_f e]; exact k.put (by omega) (by omega)
theorem TI.step {xs : List Int} {R v : BS} (h : TI xs R v) (hn : 0 < v.n) : TI xs R (passB xs v) := by
  have h1 := h.n6
  refine ⟨stepS_ok h.ok, by show v.n - 1 ≤ 6; omega, few_step h.kp, ?_⟩
  have hr := h.run
  obtain ⟨m, hm⟩ : ∃ m, v.n = m + 1 := ⟨v.n - 1, by omega⟩
  rw [hm] at hr
  show runB xs (v.n - 1) _ = R
  rw [hm, Nat.add_sub_cancel]
  exact hr
theorem TI.done {xs : List Int} {R v : BS} (h : TI xs R v) (hn : v.n = 0) : v = R := by
  have hr := h.run
  rw [hn] at hr
  exact hr
theorem TI.all {xs : List Int} {R : BS} : ∀ (n : Nat) (v : BS), v.n = n → TI xs R v → OkC xs R.s ∧ Few R.l
  | 0, v, e, h => by
    obtain rfl := h.done e
    exact ⟨h.ok, h.kp⟩
  | n + 1, v, e, h => TI.all n (passB xs v) (by show v.n - 1 = n; omega) (h.step (by omega))
theorem tB_is {xs : List Int} {x : List En} {s : Cu} (k : OkC xs s) (hx : Few x) : TI xs (tB xs x s) ⟨(belV xs 6 s).toNat, x, belS xs 6 s⟩ := by
  have := belV_bd xs (n := 6) s (by omega)
  exact ⟨belS_ok k, by show (belV xs 6 s).toNat ≤ 6; omega, hx, rfl⟩
theorem t0_is {xs : List Int} (hx : xs.length ≤ 140737488351232) : OkC xs (t0 xs).s ∧ Few (t0 xs).l := TI.all _ _ rfl (tB_is (start_ok hx) Few.nil)
theorem tS_ok {xs : List Int} (hx : xs.length ≤ 140737488351232) : ∀ k, OkC xs (tS xs k)
  | 0 => (t0_is hx).1
  | k + 1 => (TI.all _ _ rfl (tB_is (tS_ok hx k) (t0_is hx).2)).1
theorem tL_is {xs : List Int} (hx : xs.length ≤ 140737488351232) (k : Nat) : Few (tL xs k) := (TI.all _ _ rfl (tB_is (tS_ok hx k) (t0_is hx).2)).2
abbrev TX (xs : List Int) (R : BS) : Type := { v : BS // TI xs R v }
abbrev KX : Type := { k : Nat // k ≤ 3 }
def thLp (xs : List Int) : Loops := fun r sl => match r with
  | 5 => some ⟨TX xs (t0 xs), fun v sl => only [2, 3, 4, 5, 6, 7, 8] 0 (sl.set 8 (.one (.val (vI v.1.n)))), fun v obs => (20008, .var 71 (cur xs v.1.s)) :: keepB [10000, 10008, 10016, 30000] obs ++ [(40008, .var 26 [.own 7]), (7, .own (rowR 38 4 dasEntry zEntry v.1.l))], fun v => v.1.n⟩
  | 9 => some ⟨KX, fun v sl => only [2, 3, 4, 5, 6, 7, 9] 0 ((sl.set 6 (.one (.own 8))).set 9 (.one (.val (vI v.1)))), fun v obs => (20008, .var 71 (cur xs (tS xs v.1))) :: keepB [10000, 10008, 10016] obs ++ [(40008, .var 26 [.own 7]), (7, .own (rowR 38 4 dasEntry zEntry (t0 xs).l)), (8, .own (rowB (tLs xs v.1)))], fun v => 3 - v.1⟩
  | 13 => (match sl.getD 9 .no with
    | .one (.val (.int _ k)) => some ⟨TX xs (tB xs (t0 xs).l (tS xs k.toNat)), fun v sl => only [2, 3, 4, 5, 6, 7, 9, 10, 11] 0 (sl.set 11 (.one (.val (vI v.1.n)))), fun v obs => (20008, .var 71 (cur xs v.1.s)) :: keepB [10000, 10008, 10016, 40008, 7, 8] obs ++ [(120016, .var 26 [.own 9]), (9, .own (rowR 38 4 dasEntry zEntry v.1.l))], fun v => v.1.n⟩
    | _ => none)
  | _ => none
noncomputable def thA : Func := { Try.f14 with body := some (ofL (headL 6 (Try.f14.body.getD .skip)) .skip) }
noncomputable abbrev thSL : List AV := only [2, 3, 4, 6] 0 (((((List.replicate Try.f14.ntmps AV.no).set 2 (.one (.ptr 10000 0))).set 3 (.one (.ptr 10008 0))).set 4 (.one (.ptr 10016 0))).set 6 (.one (.own 8)))
abbrev thOB (xs : List Int) : List (Nat × Ob) := [(10000, .var 26 [.val (.slice none 0 0)]), (10008, .var 26 [.val (.slice none 0 0)]), (10016, .var 26 [.val (.slice none 0 0)]), (8, .own (rowB (tLs xs 3)))]
theorem bun_info : (Try.prog.info? 26).map (fun i => (i.zero, i.size, i.bytes)) = some (some (.agg #[.slice none 0 0]), 1, 24) := by kernel_rfl
theorem cust_litU {old : World → Prop} {id r : Nat} {o : Oper} {x : Operand} {d : Da} (ho : o.op = .buildSlice 53 1 #[(0, x)]) :
    Cust Try.prog old id o [.agg [.own r]] [.own d] ⟨[], .one (.own id), [(r, .gone), (id, .own (.row 26 1 1 (oneEl [d])))]⟩ := by
  obtain ⟨i0, hi, hz, hsz, hby⟩ := info_parts bun_info
  have h := cust_lit (P := Try.prog) (old := old) (id := id) (o := o) (x := x) (E := 26) (it := i0) (cs := [.own r]) (ds := [d]) (os := [.own d]) ho (by kernel_rfl) hi hz (by rw [hsz]; rfl) (by omega) (by omega) rfl (by rw [hsz]; rfl) (fun obs h => by
    have hr : obs r = .own d := by simpa [ScIds] using h
    show match obs r with | .own d' => DaEq d' d | _ => False
    rw [hr]
    exact DaEq.refl _) (by simp [csOwn]) rfl
  rw [hsz] at h
  exact h
theorem cust_appU {old : World → Prop} {id q r : Nat} {o : Oper} {c : Call} {x y : Operand} {n m : Nat} {el el2 : Nat → Nat → Da} (ho : o.op = .call c) (hc : c.callee = .builtin .append) (ha : c.args = #[x, y]) (ht : c.argTypes = #[53, 53]) (hqr : q ≠ r) (hone : OneEl m 1 el2) :
    Cust Try.prog old id o [.one (.own q), .one (.own r)] [.own (.row 26 1 n el), .own (.row 26 1 m el2)] ⟨[n + m ≤ 1000000000000, (n + m) * 24 ≤ 140737488355328], .one (.own id), [(q, .gone), (r, .gone), (id, .own (.row 26 1 (n + m) (E9.appEl n el el2)))]⟩ := by
  obtain ⟨i0, hi, hz, hsz, hby⟩ := info_parts bun_info
  have h := cust_app (P := Try.prog) (old := old) (id := id) (q := q) (r := r) (o := o) (c := c) (x := x) (y := y) (E := 26) (i := i0) (n := n) (m := m) (el := el) (el2 := el2) ho hc ha ht (by kernel_rfl) hi hz (by rw [hsz]; rfl) (by omega) hqr (by rw [hsz]; exact hone)
  rw [hsz, hby] at h
  exact h
theorem one_litU {E : TypeId} {k n : Nat} {el : Nat → Nat → Da} : OneEl 1 1 (oneEl [.row E k n el]) := fun a _ j hj u hu => by
  obtain rfl : j = 0 := by omega
  have hu : Da.row E k n el = Da.val u := hu
  cases hu
theorem tLs_len (xs : List Int) (k : Nat) : (tLs xs k).length = k := by unfold tLs; simp
theorem tLs_succ (xs : List Int) (k : Nat) : tLs xs (k + 1) = tLs xs k ++ [tL xs k] := by unfold tLs; rw [List.range_succ, List.map_append]; rfl
theorem rowB_app {ls : List (List En)} {l : List En} : DaEq (.row 26 1 (ls.length + 1) (fun i j => match i.succ.ble ls.length with | true => rowR 38 4 dasEntry zEntry (ls.getD i []) | false => [rowR 38 4 dasEntry zEntry l].getD j (Da.val undef))) (rowB (ls ++ [l])) := by
  refine ⟨rfl, rfl, by simp, fun i hi j hj => ?_⟩
  obtain rfl : j = 0 := by omega
  cases hb : i.succ.ble ls.length with
  | true =>
    have hlt : i < ls.length := Nat.le_of_ble_eq_true hb
    have e : (ls ++ [l]).getD i [] = ls.getD i [] := by rw [List.getD_eq_getElem?_getD, List.getElem?_append_left hlt, List.getD_eq_getElem?_getD]
    simp only [hb, e]
  | false =>
    have hge : ¬ i.succ ≤ ls.length := fun h => by rw [Nat.ble_eq_true_of_le h] at hb; cases hb
    have e : (ls ++ [l]).getD i [] = l := by rw [show i = ls.length by omega]; simp
    simp only [hb, e]
    rfl
theorem wpThA (xs : List Int) (hx : xs.length ≤ 140737488351232) : awp Try.prog (⟨fun d _ _ => match d with | some 30 => some [(true, [rowR 38 4 dasEntry zEntry (t0 xs).l])] | _ => none, fun id vs os => match id with | 20008 => some ⟨[], .one (.ptr 20008 0), [(20008, .var 71 (cur xs (start xs)))]⟩ | 50008 => (match os with | .var _ [_, .val (.int _ i), .val (.int _ h)] :: _ => some ⟨[], .one (.val (.int .i64 (belV xs 6 ⟨i, h⟩))), [(20008, .var 71 (cur xs (belS xs 6 ⟨i, h⟩)))]⟩ | _ => none) | 130008 => (match os with | .var _ [_, .val (.int _ i), .val (.int _ h)] :: _ => some ⟨[], .one (.val (.int .i64 (belV xs 6 ⟨i, h⟩))), [(20008, .var 71 (cur xs (belS xs 6 ⟨i, h⟩)))]⟩ | _ => none) | 40000 => some ⟨[], .agg [.own 40000], [(40000, .own (rowR 38 4 dasEntry zEntry ([] : List En)))]⟩ | 80016 => ((match vs, os with | [_, _, .agg [.own r]], .var _ [_, .val (.int _ i), .val (.int _ h)] :: .own (.row _ _ m el) :: _ => some ⟨[], .agg [.own 80016], [(r, .gone), (20008, .var 71 (cur xs (stepS xs ⟨i, h⟩))), (80016, .own (rowR 38 4 dasEntry zEntry (stepL xs (C17s.unE m el) ⟨i, h⟩)))]⟩ | _, _ => none)) | 160016 => ((match vs, os with | [_, _, .agg [.own r]], .var _ [_, .val (.int _ i), .val (.int _ h)] :: .own (.row _ _ m el) :: _ => some ⟨[], .agg [.own 160016], [(r, .gone), (20008, .var 71 (cur xs (stepS xs ⟨i, h⟩))), (160016, .own (rowR 38 4 dasEntry zEntry (stepL xs (C17s.unE m el) ⟨i, h⟩)))]⟩ | _, _ => none)) | 170016 => ((match vs, os with | [.agg [.own r]], [.own d] => some ⟨[], .one (.own 170016), goneO [r] ++ [(170016, .own (.row 26 1 1 (oneEl [d])))]⟩ | _, _ => none)) | 170024 => ((match vs, os with | [.one (.own q), .one (.own r)], [.own (.row _ _ n el), .own (.row _ _ m el2)] => some ⟨[n + m ≤ 1000000000000, (n + m) * 24 ≤ 140737488355328], .one (.own 170024), goneO [q, r] ++ [(170024, .own (.row 26 1 (n + m) (E9.appEl n el el2)))]⟩ | _, _ => none)) | _ => none, fun _ => True⟩) (thLp xs) (thA.body.getD .skip) ⟨[.one (.old (numR 5 .u8 xs))] ++ List.replicate (thA.ntmps - ([.one (.old (numR 5 .u8 xs))] : List AV).length) (.one (.val undef)), fun _ => .un⟩ (fun e s => e = .normal ∧ Ent s thSL (thOB xs)) := by
  have hh_ : ((Cust Try.prog (fun x => True) 20008 (opOf (thA.body.getD Code.skip) 1 1) [AV.one (Sc.val (Value.func (Fn.func 40) { toList := [] } { toList := [] })), AV.one (Sc.old (Da.row 5 1 xs.length fun i x => Da.val (Value.int IntKind.u8 (xs.getD i 0))))] [] { need := [], val := AV.one (Sc.ptr 20008 0), mem := [(20008, Ob.var 71 (cur xs (start xs)))] }) ∧ ((Cust Try.prog (fun x => True) 40000 (opOf (thA.body.getD Code.skip) 3 0) [] [] { need := [], val := AV.agg [Sc.own 40000], mem := [(40000, Ob.own (Da.row 38 4 0 fun i j => (dasEntry ([].getD i zEntry)).getD j (Da.val undef)))] }) ∧ ((Cust Try.prog (fun x => True) 50008 (opOf (thA.body.getD Code.skip) 4 1) [AV.one (Sc.val (Value.func (Fn.func 41) { toList := [] } { toList := [] })), AV.one (Sc.ptr 20008 0), AV.one (Sc.val (vI 6))] [Ob.var 71 (cur xs (start xs))] { need := [], val := AV.one (Sc.val (vI (belV xs 6 (start xs)))), mem := [(20008, Ob.var 71 (cur xs (belS xs 6 (start xs))))] }) ∧ ((∃ x0 : TX xs (t0 xs), (((some 10000 = some 10000 ∧ 0 = 0) ∧ ((some 10008 = some 10008 ∧ 0 = 0) ∧ ((some 10016 = some 10016 ∧ 0 = 0) ∧ ((some 20008 = some 20008 ∧ 0 = 0) ∧ (some 30000 = some 30000 ∧ ((some 40008 = some 40008 ∧ 0 = 0) ∧ (vI (belV xs 6 (start xs)) = vI (↑x0.1.n : Int) ∧ True))))))) ∧ ((71 = 71 ∧ ((DaEq (Da.row 5 1 xs.length fun i x => Da.val (Value.int IntKind.u8 (xs.getD i 0))) (Da.row 5 1 xs.length fun i x => Da.val (Value.int IntKind.u8 (xs.getD i 0)))) ∧ (vI (belS xs 6 (start xs)).i = vI x0.1.s.i ∧ vI (belS xs 6 (start xs)).h = vI x0.1.s.h))) ∧ ((26 = 26 ∧ Value.slice none 0 0 = Value.slice none 0 0) ∧ ((26 = 26 ∧ Value.slice none 0 0 = Value.slice none 0 0) ∧ ((26 = 26 ∧ Value.slice none 0 0 = Value.slice none 0 0) ∧ ((26 = 26 ∧ (1 = 1 ∧ (0 = 0 ∧ (∀ i : Nat, i < 0 → ∀ (j : Nat), j < 1 → Da.val ([].getD (i * 1 + j) undef) = Da.val ([].getD (i * 1 + j) undef))))) ∧ ((26 = 26 ∧ some 40000 = some 40000) ∧ ((DaEq (Da.row 38 4 0 fun i j => (dasEntry ([].getD i zEntry)).getD j (Da.val undef)) (rowR 38 4 dasEntry zEntry x0.1.l)) ∧ True))))))))) ∧ (∀ v : TX xs (t0 xs), bcase (decide ((↑v.1.n : Int) > 0)) ((Cust Try.prog (fun x => True) 80016 (opOf (thA.body.getD Code.skip) 7 2) [AV.one (Sc.val (Value.func (Fn.func 42) { toList := [] } { toList := [] })), AV.one (Sc.ptr 20008 0), AV.agg [Sc.own 7]] [Ob.var 71 (cur xs v.1.s), Ob.own (rowR 38 4 dasEntry zEntry v.1.l)] { need := [], val := AV.agg [Sc.own 80016], mem := [(7, Ob.gone), (20008, Ob.var 71 (cur xs (stepS xs v.1.s))), (80016, Ob.own (Da.row 38 4 (stepL xs (C17s.unE v.1.l.length fun i j => (dasEntry (v.1.l.getD i zEntry)).getD j (Da.val undef)) v.1.s).length fun i j => (dasEntry ((stepL xs (C17s.unE v.1.l.length fun i j => (dasEntry (v.1.l.getD i zEntry)).getD j (Da.val undef)) v.1.s).getD i zEntry)).getD j (Da.val undef)))] }) ∧ (∃ v' : TX xs (t0 xs), (v'.val.1 < v.val.1 ∧ (((some 10000 = some 10000 ∧ 0 = 0) ∧ ((some 10008 = some 10008 ∧ 0 = 0) ∧ ((some 10016 = some 10016 ∧ 0 = 0) ∧ ((some 20008 = some 20008 ∧ 0 = 0) ∧ (some 30000 = some 30000 ∧ ((some 40008 = some 40008 ∧ 0 = 0) ∧ (vI (IntKind.i64.wrap ((↑v.1.n : Int) - 1)) = vI (↑v'.1.n : Int) ∧ True))))))) ∧ ((71 = 71 ∧ ((DaEq (Da.row 5 1 xs.length fun i x => Da.val (Value.int IntKind.u8 (xs.getD i 0))) (Da.row 5 1 xs.length fun i x => Da.val (Value.int IntKind.u8 (xs.getD i 0)))) ∧ (vI (stepS xs v.1.s).i = vI v'.1.s.i ∧ vI (stepS xs v.1.s).h = vI v'.1.s.h))) ∧ ((26 = 26 ∧ Value.slice none 0 0 = Value.slice none 0 0) ∧ ((26 = 26 ∧ Value.slice none 0 0 = Value.slice none 0 0) ∧ ((26 = 26 ∧ Value.slice none 0 0 = Value.slice none 0 0) ∧ ((26 = 26 ∧ (1 = 1 ∧ (0 = 0 ∧ (∀ i : Nat, i < 0 → ∀ (j : Nat), j < 1 → Da.val ([].getD (i * 1 + j) undef) = Da.val ([].getD (i * 1 + j) undef))))) ∧ ((26 = 26 ∧ some 80016 = some 80016) ∧ ((DaEq (Da.row 38 4 (stepL xs (C17s.unE v.1.l.length fun i j => (dasEntry (v.1.l.getD i zEntry)).getD j (Da.val undef)) v.1.s).length fun i j => (dasEntry ((stepL xs (C17s.unE v.1.l.length fun i j => (dasEntry (v.1.l.getD i zEntry)).getD j (Da.val undef)) v.1.s).getD i zEntry)).getD j (Da.val undef)) (rowR 38 4 dasEntry zEntry v'.1.l)) ∧ True))))))))))) ((∃ x0 : KX, (((some 10000 = some 10000 ∧ 0 = 0) ∧ ((some 10008 = some 10008 ∧ 0 = 0) ∧ ((some 10016 = some 10016 ∧ 0 = 0) ∧ ((some 20008 = some 20008 ∧ 0 = 0) ∧ (some 30000 = some 30000 ∧ ((some 40008 = some 40008 ∧ 0 = 0) ∧ (vI 0 = vI (↑x0.1 : Int) ∧ True))))))) ∧ ((71 = 71 ∧ ((DaEq (Da.row 5 1 xs.length fun i x => Da.val (Value.int IntKind.u8 (xs.getD i 0))) (Da.row 5 1 xs.length fun i x => Da.val (Value.int IntKind.u8 (xs.getD i 0)))) ∧ (vI v.1.s.i = vI (tS xs x0.1).i ∧ vI v.1.s.h = vI (tS xs x0.1).h))) ∧ ((26 = 26 ∧ Value.slice none 0 0 = Value.slice none 0 0) ∧ ((26 = 26 ∧ Value.slice none 0 0 = Value.slice none 0 0) ∧ ((26 = 26 ∧ Value.slice none 0 0 = Value.slice none 0 0) ∧ ((26 = 26 ∧ some 7 = some 7) ∧ ((DaEq (rowR 38 4 dasEntry zEntry v.1.l) (Da.row 38 4 (t0 xs).l.length fun i j => (dasEntry ((t0 xs).l.getD i zEntry)).getD j (Da.val undef))) ∧ ((DaEq (Da.row 26 1 0 fun i j => Da.val ([].getD (i * 1 + j) undef)) (rowB (tLs xs x0.1))) ∧ True))))))))) ∧ (∀ u : KX, bcase (decide ((↑u.1 : Int) < 3)) ((FnCon Try.prog 43 [(true, [Da.row 38 4 (t0 xs).l.length fun i j => (dasEntry ((t0 xs).l.getD i zEntry)).getD j (Da.val undef)])] [(true, [Da.row 38 4 (t0 xs).l.length fun i j => (dasEntry ((t0 xs).l.getD i zEntry)).getD j (Da.val undef)])]) ∧ ((Cust Try.prog (fun x => True) 130008 (opOf (thA.body.getD Code.skip) 12 1) [AV.one (Sc.val (Value.func (Fn.func 41) { toList := [] } { toList := [] })), AV.one (Sc.ptr 20008 0), AV.one (Sc.val (vI 6))] [Ob.var 71 (cur xs (tS xs u.1))] { need := [], val := AV.one (Sc.val (vI (belV xs 6 (tS xs u.1)))), mem := [(20008, Ob.var 71 (cur xs (belS xs 6 (tS xs u.1))))] }) ∧ ((∃ x0 : TX xs (tB xs (t0 xs).l (tS xs (↑u.1 : Int).toNat)), (((some 10000 = some 10000 ∧ 0 = 0) ∧ ((some 10008 = some 10008 ∧ 0 = 0) ∧ ((some 10016 = some 10016 ∧ 0 = 0) ∧ ((some 20008 = some 20008 ∧ 0 = 0) ∧ (some 8 = some 8 ∧ ((some 40008 = some 40008 ∧ 0 = 0) ∧ (vI (↑u.1 : Int) = vI (↑u.1 : Int) ∧ ((some 120016 = some 120016 ∧ 0 = 0) ∧ (vI (belV xs 6 (tS xs u.1)) = vI (↑x0.1.n : Int) ∧ True))))))))) ∧ ((71 = 71 ∧ ((DaEq (Da.row 5 1 xs.length fun i x => Da.val (Value.int IntKind.u8 (xs.getD i 0))) (Da.row 5 1 xs.length fun i x => Da.val (Value.int IntKind.u8 (xs.getD i 0)))) ∧ (vI (belS xs 6 (tS xs u.1)).i = vI x0.1.s.i ∧ vI (belS xs 6 (tS xs u.1)).h = vI x0.1.s.h))) ∧ ((26 = 26 ∧ Value.slice none 0 0 = Value.slice none 0 0) ∧ ((26 = 26 ∧ Value.slice none 0 0 = Value.slice none 0 0) ∧ ((26 = 26 ∧ Value.slice none 0 0 = Value.slice none 0 0) ∧ ((26 = 26 ∧ some 7 = some 7) ∧ ((DaEq (Da.row 38 4 (t0 xs).l.length fun i j => (dasEntry ((t0 xs).l.getD i zEntry)).getD j (Da.val undef)) (Da.row 38 4 (t0 xs).l.length fun i j => (dasEntry ((t0 xs).l.getD i zEntry)).getD j (Da.val undef))) ∧ (DaEq (rowB (tLs xs u.1)) (rowB (tLs xs u.1)) ∧ ((26 = 26 ∧ some 120008 = some 120008) ∧ ((DaEq (Da.row 38 4 (t0 xs).l.length fun i j => (dasEntry ((t0 xs).l.getD i zEntry)).getD j (Da.val undef)) (rowR 38 4 dasEntry zEntry x0.1.l)) ∧ True))))))))))) ∧ (∀ t : TX xs (tB xs (t0 xs).l (tS xs (↑u.1 : Int).toNat)), bcase (decide ((↑t.1.n : Int) > 0)) ((Cust Try.prog (fun x => True) 160016 (opOf (thA.body.getD Code.skip) 15 2) [AV.one (Sc.val (Value.func (Fn.func 42) { toList := [] } { toList := [] })), AV.one (Sc.ptr 20008 0), AV.agg [Sc.own 9]] [Ob.var 71 (cur xs t.1.s), Ob.own (rowR 38 4 dasEntry zEntry t.1.l)] { need := [], val := AV.agg [Sc.own 160016], mem := [(9, Ob.gone), (20008, Ob.var 71 (cur xs (stepS xs t.1.s))), (160016, Ob.own (Da.row 38 4 (stepL xs (C17s.unE t.1.l.length fun i j => (dasEntry (t.1.l.getD i zEntry)).getD j (Da.val undef)) t.1.s).length fun i j => (dasEntry ((stepL xs (C17s.unE t.1.l.length fun i j => (dasEntry (t.1.l.getD i zEntry)).getD j (Da.val undef)) t.1.s).getD i zEntry)).getD j (Da.val undef)))] }) ∧ (∃ t' : TX xs (tB xs (t0 xs).l (tS xs (↑u.1 : Int).toNat)), (t'.val.1 < t.val.1 ∧ (((some 10000 = some 10000 ∧ 0 = 0) ∧ ((some 10008 = some 10008 ∧ 0 = 0) ∧ ((some 10016 = some 10016 ∧ 0 = 0) ∧ ((some 20008 = some 20008 ∧ 0 = 0) ∧ (some 8 = some 8 ∧ ((some 40008 = some 40008 ∧ 0 = 0) ∧ (vI (↑u.1 : Int) = vI (↑u.1 : Int) ∧ ((some 120016 = some 120016 ∧ 0 = 0) ∧ (vI (IntKind.i64.wrap ((↑t.1.n : Int) - 1)) = vI (↑t'.1.n : Int) ∧ True))))))))) ∧ ((71 = 71 ∧ ((DaEq (Da.row 5 1 xs.length fun i x => Da.val (Value.int IntKind.u8 (xs.getD i 0))) (Da.row 5 1 xs.length fun i x => Da.val (Value.int IntKind.u8 (xs.getD i 0)))) ∧ (vI (stepS xs t.1.s).i = vI t'.1.s.i ∧ vI (stepS xs t.1.s).h = vI t'.1.s.h))) ∧ ((26 = 26 ∧ Value.slice none 0 0 = Value.slice none 0 0) ∧ ((26 = 26 ∧ Value.slice none 0 0 = Value.slice none 0 0) ∧ ((26 = 26 ∧ Value.slice none 0 0 = Value.slice none 0 0) ∧ ((26 = 26 ∧ some 7 = some 7) ∧ ((DaEq (Da.row 38 4 (t0 xs).l.length fun i j => (dasEntry ((t0 xs).l.getD i zEntry)).getD j (Da.val undef)) (Da.row 38 4 (t0 xs).l.length fun i j => (dasEntry ((t0 xs).l.getD i zEntry)).getD j (Da.val undef))) ∧ (DaEq (rowB (tLs xs u.1)) (rowB (tLs xs u.1)) ∧ ((26 = 26 ∧ some 160016 = some 160016) ∧ ((DaEq (Da.row 38 4 (stepL xs (C17s.unE t.1.l.length fun i j => (dasEntry (t.1.l.getD i zEntry)).getD j (Da.val undef)) t.1.s).length fun i j => (dasEntry ((stepL xs (C17s.unE t.1.l.length fun i j => (dasEntry (t.1.l.getD i zEntry)).getD j (Da.val undef)) t.1.s).getD i zEntry)).getD j (Da.val undef)) (rowR 38 4 dasEntry zEntry t'.1.l)) ∧ True))))))))))))) ((Cust Try.prog (fun x => True) 170016 (opOf (thA.body.getD Code.skip) 16 2) [AV.agg [Sc.own 9]] [Ob.own (rowR 38 4 dasEntry zEntry t.1.l)] { need := [], val := AV.one (Sc.own 170016), mem := [(9, Ob.gone), (170016, Ob.own (Da.row 26 1 1 fun x j => [rowR 38 4 dasEntry zEntry t.1.l].getD j (Da.val undef)))] }) ∧ ((Cust Try.prog (fun x => True) 170024 (opOf (thA.body.getD Code.skip) 16 3) [AV.one (Sc.own 8), AV.one (Sc.own 170016)] [Ob.own (rowB (tLs xs u.1)), Ob.own (Da.row 26 1 1 fun x j => [rowR 38 4 dasEntry zEntry t.1.l].getD j (Da.val undef))]
  { need := [(tLs xs u.1).length + 1 ≤ 1000000000000, ((tLs xs u.1).length + 1) * 24 ≤ 140737488355328], val := AV.one (Sc.own 170024),
    mem :=
      [(8, Ob.gone), (170016, Ob.gone),
        (170024,
          Ob.own
            (Da.row 26 1 ((tLs xs u.1).length + 1) fun i j =>
              match i.succ.ble (tLs xs u.1).length with
              | true => Da.row 38 4 ((tLs xs u.1).getD i []).length fun i_1 j => (dasEntry (((tLs xs u.1).getD i []).getD i_1 zEntry)).getD j (Da.val undef)
              | false => [rowR 38 4 dasEntry zEntry t.1.l].getD j (Da.val undef)))] }) ∧ ((tLs xs u.1).length + 1 ≤ 1000000000000 ∧ (((tLs xs u.1).length + 1) * 24 ≤ 140737488355328 ∧ (∃ u' : KX, (Nat.sub 3 u'.1 < Nat.sub 3 u.1 ∧ (((some 10000 = some 10000 ∧ 0 = 0) ∧ ((some 10008 = some 10008 ∧ 0 = 0) ∧ ((some 10016 = some 10016 ∧ 0 = 0) ∧ ((some 20008 = some 20008 ∧ 0 = 0) ∧ (some 170024 = some 170024 ∧ ((some 40008 = some 40008 ∧ 0 = 0) ∧ (vI (IntKind.i64.wrap ((↑u.1 : Int) + 1)) = vI (↑u'.1 : Int) ∧ True))))))) ∧ ((71 = 71 ∧ ((DaEq (Da.row 5 1 xs.length fun i x => Da.val (Value.int IntKind.u8 (xs.getD i 0))) (Da.row 5 1 xs.length fun i x => Da.val (Value.int IntKind.u8 (xs.getD i 0)))) ∧ (vI t.1.s.i = vI (tS xs u'.1).i ∧ vI t.1.s.h = vI (tS xs u'.1).h))) ∧ ((26 = 26 ∧ Value.slice none 0 0 = Value.slice none 0 0) ∧ ((26 = 26 ∧ Value.slice none 0 0 = Value.slice none 0 0) ∧ ((26 = 26 ∧ Value.slice none 0 0 = Value.slice none 0 0) ∧ ((26 = 26 ∧ some 7 = some 7) ∧ ((DaEq (Da.row 38 4 (t0 xs).l.length fun i j => (dasEntry ((t0 xs).l.getD i zEntry)).getD j (Da.val undef)) (Da.row 38 4 (t0 xs).l.length fun i j => (dasEntry ((t0 xs).l.getD i zEntry)).getD j (Da.val undef))) ∧ ((DaEq
  (Da.row 26 1 ((tLs xs u.1).length + 1) fun i j =>
    match i.succ.ble (tLs xs u.1).length with
    | true => Da.row 38 4 ((tLs xs u.1).getD i []).length fun i_1 j => (dasEntry (((tLs xs u.1).getD i []).getD i_1 zEntry)).getD j (Da.val undef)
    | false => [rowR 38 4 dasEntry zEntry t.1.l].getD j (Da.val undef))
  (rowB (tLs xs u'.1))) ∧ True)))))))))))))))))) (Exit.normal = Exit.normal ∧ (((some 10000 = some 10000 ∧ 0 = 0) ∧ ((some 10008 = some 10008 ∧ 0 = 0) ∧ ((some 10016 = some 10016 ∧ 0 = 0) ∧ (some 8 = some 8 ∧ True)))) ∧ ((26 = 26 ∧ Value.slice none 0 0 = Value.slice none 0 0) ∧ ((26 = 26 ∧ Value.slice none 0 0 = Value.slice none 0 0) ∧ ((26 = 26 ∧ Value.slice none 0 0 = Value.slice none 0 0) ∧ (DaEq (rowB (tLs xs u.1)) (rowB (tLs xs 3)) ∧ True))))))))))))) = (awp Try.prog (⟨fun d _ _ => match d with | some 30 => some [(true, [rowR 38 4 dasEntry zEntry (t0 xs).l])] | _ => none, fun id vs os => match id with | 20008 => some ⟨[], .one (.ptr 20008 0), [(20008, .var 71 (cur xs (start xs)))]⟩ | 50008 => (match os with | .var _ [_, .val (.int _ i), .val (.int _ h)] :: _ => some ⟨[], .one (.val (.int .i64 (belV xs 6 ⟨i, h⟩))), [(20008, .var 71 (cur xs (belS xs 6 ⟨i, h⟩)))]⟩ | _ => none) | 130008 => (match os with | .var _ [_, .val (.int _ i), .val (.int _ h)] :: _ => some ⟨[], .one (.val (.int .i64 (belV xs 6 ⟨i, h⟩))), [(20008, .var 71 (cur xs (belS xs 6 ⟨i, h⟩)))]⟩ | _ => none) | 40000 => some ⟨[], .agg [.own 40000], [(40000, .own (rowR 38 4 dasEntry zEntry ([] : List En)))]⟩ | 80016 => ((match vs, os with | [_, _, .agg [.own r]], .var _ [_, .val (.int _ i), .val (.int _ h)] :: .own (.row _ _ m el) :: _ => some ⟨[], .agg [.own 80016], [(r, .gone), (20008, .var 71 (cur xs (stepS xs ⟨i, h⟩))), (80016, .own (rowR 38 4 dasEntry zEntry (stepL xs (C17s.unE m el) ⟨i, h⟩)))]⟩ | _, _ => none)) | 160016 => ((match vs, os with | [_, _, .agg [.own r]], .var _ [_, .val (.int _ i), .val (.int _ h)] :: .own (.row _ _ m el) :: _ => some ⟨[], .agg [.own 160016], [(r, .gone), (20008, .var 71 (cur xs (stepS xs ⟨i, h⟩))), (160016, .own (rowR 38 4 dasEntry zEntry (stepL xs (C17s.unE m el) ⟨i, h⟩)))]⟩ | _, _ => none)) | 170016 => ((match vs, os with | [.agg [.own r]], [.own d] => some ⟨[], .one (.own 170016), goneO [r] ++ [(170016, .own (.row 26 1 1 (oneEl [d])))]⟩ | _, _ => none)) | 170024 => ((match vs, os with | [.one (.own q), .one (.own r)], [.own (.row _ _ n el), .own (.row _ _ m el2)] => some ⟨[n + m ≤ 1000000000000, (n + m) * 24 ≤ 140737488355328], .one (.own 170024), goneO [q, r] ++ [(170024, .own (.row 26 1 (n + m) (E9.appEl n el el2)))]⟩ | _, _ => none)) | _ => none, fun _ => True⟩) (thLp xs) (thA.body.getD .skip) ⟨[.one (.old (numR 5 .u8 xs))] ++ List.replicate (thA.ntmps - ([.one (.old (numR 5 .u8 xs))] : List AV).length) (.one (.val undef)), fun _ => .un⟩ (fun e s => e = .normal ∧ Ent s thSL (thOB xs))) := by kernel_rfl
  rw [← hh_]
  clear hh_
  refine ⟨?g0, ?g1, ?g2, ⟨⟨⟨(belV xs 6 (start xs)).toNat, [], belS xs 6 (start xs)⟩, tB_is (start_ok hx) Few.nil⟩, ⟨⟨⟨rfl, rfl⟩, ⟨rfl, rfl⟩, ⟨rfl, rfl⟩, ⟨rfl, rfl⟩, rfl, ⟨rfl, rfl⟩, congrArg _ ?g4, trivial⟩, ⟨rfl, DaEq.refl _, congrArg _ ?g5, congrArg _ ?g6⟩, ⟨rfl, rfl⟩, ⟨rfl, rfl⟩, ⟨rfl, rfl⟩, ⟨rfl, rfl, rfl, fun i => fun _ => fun j => fun _ => rfl⟩, ⟨rfl, rfl⟩, ?g7, trivial⟩⟩, fun v => bcase_intro (fun h8 => ⟨?g9, ⟨⟨passB xs v.1, v.2.step ?wa⟩, ⟨?g11, ⟨⟨rfl, rfl⟩, ⟨rfl, rfl⟩, ⟨rfl, rfl⟩, ⟨rfl, rfl⟩, rfl, ⟨rfl, rfl⟩, congrArg _ ?g12, trivial⟩, ⟨rfl, DaEq.refl _, congrArg _ ?g13, congrArg _ ?g14⟩, ⟨rfl, rfl⟩, ⟨rfl, rfl⟩, ⟨rfl, rfl⟩, ⟨rfl, rfl, rfl, fun i => fun _ => fun j => fun _ => rfl⟩, ⟨rfl, rfl⟩, ?g15, trivial⟩⟩⟩) (fun h8 => ⟨⟨⟨0, by omega⟩, ⟨⟨⟨rfl, rfl⟩, ⟨rfl, rfl⟩, ⟨rfl, rfl⟩, ⟨rfl, rfl⟩, rfl, ⟨rfl, rfl⟩, congrArg _ ?g17, trivial⟩, ⟨rfl, DaEq.refl _, congrArg _ ?g18, congrArg _ ?g19⟩, ⟨rfl, rfl⟩, ⟨rfl, rfl⟩, ⟨rfl, rfl⟩, ⟨rfl, rfl⟩, ?g20, ?g21, trivial⟩⟩, fun u => bcase_intro (fun h22 => ⟨?g23, ?g24, ⟨⟨⟨(belV xs 6 (tS xs u.1)).toNat, (t0 xs).l, belS xs 6 (tS xs u.1)⟩, ?wc⟩, ⟨⟨⟨rfl, rfl⟩, ⟨rfl, rfl⟩, ⟨rfl, rfl⟩, ⟨rfl, rfl⟩, rfl, ⟨rfl, rfl⟩, rfl, ⟨rfl, rfl⟩, congrArg _ ?g26, trivial⟩, ⟨rfl, DaEq.refl _, congrArg _ ?g27, congrArg _ ?g28⟩, ⟨rfl, rfl⟩, ⟨rfl, rfl⟩, ⟨rfl, rfl⟩, ⟨rfl, rfl⟩, DaEq.refl _, DaEq.refl _, ⟨rfl, rfl⟩, ?g29, trivial⟩⟩, fun t => bcase_intro (fun h30 => ⟨?g31, ⟨⟨passB xs t.1, t.2.step ?wb⟩, ⟨?g33, ⟨⟨rfl, rfl⟩, ⟨rfl, rfl⟩, ⟨rfl, rfl⟩, ⟨rfl, rfl⟩, rfl, ⟨rfl, rfl⟩, rfl, ⟨rfl, rfl⟩, congrArg _ ?g34, trivial⟩, ⟨rfl, DaEq.refl _, congrArg _ ?g35, congrArg _ ?g36⟩, ⟨rfl, rfl⟩, ⟨rfl, rfl⟩, ⟨rfl, rfl⟩, ⟨rfl, rfl⟩, DaEq.refl _, DaEq.refl _, ⟨rfl, rfl⟩, ?g37, trivial⟩⟩⟩) (fun h30 => ⟨?g38, ?g39, ?g40, ?g41, ⟨⟨u.1 + 1, ?wd⟩, ⟨?g43, ⟨⟨rfl, rfl⟩, ⟨rfl, rfl⟩, ⟨rfl, rfl⟩, ⟨rfl, rfl⟩, rfl, ⟨rfl, rfl⟩, congrArg _ ?g44, trivial⟩, ⟨rfl, DaEq.refl _, congrArg _ ?g45, congrArg _ ?g46⟩, ⟨rfl, rfl⟩, ⟨rfl, rfl⟩, ⟨rfl, rfl⟩, ⟨rfl, rfl⟩, DaEq.refl _, ?g47, trivial⟩⟩⟩)⟩) (fun h22 => ⟨rfl, ⟨⟨rfl, rfl⟩, ⟨rfl, rfl⟩, ⟨rfl, rfl⟩, rfl, trivial⟩, ⟨rfl, rfl⟩, ⟨rfl, rfl⟩, ⟨rfl, rfl⟩, ?g48, trivial⟩)⟩)⟩
  case g0 => exact cust_new rfl rfl rfl rfl rfl (nwStart xs hx)
  case g2 => exact cust_lent rfl rfl rfl rfl rfl rfl rfl rfl (lnB xs _ _ (by with_reducible repeat first | exact k | exact tS_ok hx _ | exact start_ok hx | apply belS_ok) (by omega)) rfl (by omega)
  case g9 => simp only [C17s.unE_self]; first | exact cust_row rfl rfl rfl rfl rfl rfl rfl (lnStep xs v.1.l v.1.s v.2.ok (by have := (vbu_is v.2.kp.vb).2.2; omega)) rfl (by omega) | exact cust_row rfl rfl rfl rfl rfl rfl rfl (lnStep xs t.1.l t.1.s t.2.ok (by have := (vbu_is t.2.kp.vb).2.2; omega)) rfl (by omega)
  case g24 => exact cust_lent rfl rfl rfl rfl rfl rfl rfl rfl (lnB xs _ _ (by with_reducible repeat first | exact k | exact tS_ok hx _ | exact start_ok hx | apply belS_ok) (by omega)) rfl (by omega)
  case g31 => simp only [C17s.unE_self]; first | exact cust_row rfl rfl rfl rfl rfl rfl rfl (lnStep xs v.1.l v.1.s v.2.ok (by have := (vbu_is v.2.kp.vb).2.2; omega)) rfl (by omega) | exact cust_row rfl rfl rfl rfl rfl rfl rfl (lnStep xs t.1.l t.1.s t.2.ok (by have := (vbu_is t.2.kp.vb).2.2; omega)) rfl (by omega)
  case g1 => exact cust_newBu rfl
  case g4 => exact (Int.toNat_of_nonneg (belV_bd xs (start xs) (by omega)).1).symm
  case g5 | g6 | g13 | g14 | g17 | g27 | g28 | g35 | g36 => rfl
  case g7 | g29 => exact row_to row_self rfl
  case g15 | g37 => simp only [C17s.unE_self]; exact row_to row_self rfl
  case wa | g11 | g12 =>
    have h8 := of_decide_eq_true h8
    have hn := v.2.n6
    first
      | omega
      | (show (passB xs v.1).n < v.1.n; show v.1.n - 1 < v.1.n; omega)
      | (show IntKind.i64.wrap ((v.1.n : Int) - 1) = ((v.1.n - 1 : Nat) : Int); rw [IntWalk.i64_in _ (by omega)]; omega)
  all_goals have h8 := of_decide_eq_false h8
  all_goals have hv : v.1 = t0 xs := v.2.done (by omega)
  case g18 | g19 => rw [hv]; rfl
  case g20 => rw [hv]; exact row_to row_self rfl
  case g21 => exact ⟨rfl, rfl, rfl, fun i hi => absurd hi (Nat.not_lt_zero _)⟩
  case g48 =>
    have h22 := of_decide_eq_false h22
    have hu := u.2
    have h3 : u.1 = 3 := by omega
    rw [h3]
    exact DaEq.refl _
  all_goals have h22 := of_decide_eq_true h22
  case g23 => exact C17s.conCopy (t0 xs).l (by have := (vbu_is (t0_is hx).2.vb).2.2; omega)
  case wc => rw [Int.toNat_natCast]; exact tB_is (tS_ok hx _) (t0_is hx).2
  case g26 => exact (Int.toNat_of_nonneg (belV_bd xs (tS xs u.1) (by omega)).1).symm
  case wb | g33 | g34 =>
    have h30 := of_decide_eq_true h30
    have hn := t.2.n6
    first
      | omega
      | (show (passB xs t.1).n < t.1.n; show t.1.n - 1 < t.1.n; omega)
      | (show IntKind.i64.wrap ((t.1.n : Int) - 1) = ((t.1.n - 1 : Nat) : Int); rw [IntWalk.i64_in _ (by omega)]; omega)
  all_goals have h30 := of_decide_eq_false h30
  all_goals have ht : t.1 = tB xs (t0 xs).l (tS xs u.1) := by exact (t.2.done (by omega)).trans (congrArg (fun k => tB xs (t0 xs).l (tS xs k)) (Int.toNat_natCast u.1))
  case g38 => exact cust_litU rfl
  case g39 => exact cust_appU rfl rfl rfl rfl (by decide) one_litU
  case g40 | g41 => have := tLs_len xs u.1; omega
  case wd => omega
  case g43 => show 3 - (u.1 + 1) < 3 - u.1; omega
  case g44 => exact IntWalk.i64_in _ (by omega)
  case g45 => exact congrArg (fun y : BS => y.s.i) ht
  case g46 => exact congrArg (fun y : BS => y.s.h) ht
  case g47 =>
    show DaEq _ (rowB (tLs xs (u.1 + 1)))
    rw [tLs_succ, show tL xs u.1 = t.1.l from (congrArg (fun y : BS => y.l) ht).symm]
    exact rowB_app
noncomputable def thB : Func := { Try.f14 with body := some (tailN 6 (Try.f14.body.getD .skip)) }
theorem wpThB (xs : List Int) (φ : Value → List Nat → World → Prop) (v0 v1 v2 : Value) (lo g off cap : Nat) (ds : List Dc) (b0 : List Nat) (hφ : φ = OutAt lo 26 g off cap [v0, v1, v2] ds b0) (h0 : v0.oneCell' = true) (h1 : v1.oneCell' = true) (h2 : v2.oneCell' = true) : awp Try.prog (⟨fun _ _ _ => none, fun id vs os => match id with | 180008 => some ⟨[], .one (.elo 8 1 0 0), []⟩ | 180016 => some ⟨[], .agg [.own 180016], [(180016, .abs (IsV v0))]⟩ | 180032 => some ⟨[], .one (.elo 8 1 1 0), []⟩ | 180040 => some ⟨[], .agg [.own 180040], [(180040, .abs (IsV v1))]⟩ | 180056 => some ⟨[], .one (.elo 8 1 2 0), []⟩ | 180064 => some ⟨[], .agg [.own 180064], [(180064, .abs (IsV v2))]⟩ | _ => none, fun _ => True⟩) (noLoops) (thB.body.getD .skip) ⟨thSL ++ List.replicate (thB.ntmps - (thSL : List AV).length) (.one (.val undef)), upd (app (fun _ => .un) (thOB xs)) 8 (.abs φ)⟩ (fun e s => e = .ret ∧ resCells Try.prog s thB.results.toList = some [(true, [.own 180016]), (true, [.own 180040]), (true, [.own 180064])] ∧ s.obs 180016 = .abs (IsV v0) ∧ s.obs 180040 = .abs (IsV v1) ∧ s.obs 180064 = .abs (IsV v2) ∧ s.obs 8 = .abs φ) := by
  have hh_ : ((Cust Try.prog (fun x => True) 180008 (opOf (thB.body.getD Code.skip) 17 1) [AV.one (Sc.own 8), AV.one (Sc.val (vI 0))] [Ob.abs φ] { need := [], val := AV.one (Sc.elo 8 1 0 0), mem := [] }) ∧ ((Cust Try.prog (fun x => True) 180016 (opOf (thB.body.getD Code.skip) 17 2) [AV.one (Sc.elo 8 1 0 0)] [Ob.abs φ] { need := [], val := AV.agg [Sc.own 180016], mem := [(180016, Ob.abs fun v bs w => v = v0 ∧ bs = [])] }) ∧ ((Cust Try.prog (fun x => True) 180032 (opOf (thB.body.getD Code.skip) 17 4) [AV.one (Sc.own 8), AV.one (Sc.val (vI 1))] [Ob.abs φ] { need := [], val := AV.one (Sc.elo 8 1 1 0), mem := [] }) ∧ ((Cust Try.prog (fun x => True) 180040 (opOf (thB.body.getD Code.skip) 17 5) [AV.one (Sc.elo 8 1 1 0)] [Ob.abs φ] { need := [], val := AV.agg [Sc.own 180040], mem := [(180040, Ob.abs fun v bs w => v = v1 ∧ bs = [])] }) ∧ ((Cust Try.prog (fun x => True) 180056 (opOf (thB.body.getD Code.skip) 17 7) [AV.one (Sc.own 8), AV.one (Sc.val (vI 2))] [Ob.abs φ] { need := [], val := AV.one (Sc.elo 8 1 2 0), mem := [] }) ∧ ((Cust Try.prog (fun x => True) 180064 (opOf (thB.body.getD Code.skip) 17 8) [AV.one (Sc.elo 8 1 2 0)] [Ob.abs φ] { need := [], val := AV.agg [Sc.own 180064], mem := [(180064, Ob.abs fun v bs w => v = v2 ∧ bs = [])] }) ∧ (Exit.ret = Exit.ret ∧ (some [(true, [Sc.own 180016]), (true, [Sc.own 180040]), (true, [Sc.own 180064])] = some [(true, [Sc.own 180016]), (true, [Sc.own 180040]), (true, [Sc.own 180064])] ∧ (((Ob.abs fun v bs w => v = v0 ∧ bs = []) = Ob.abs fun v bs w => v = v0 ∧ bs = []) ∧ (((Ob.abs fun v bs w => v = v1 ∧ bs = []) = Ob.abs fun v bs w => v = v1 ∧ bs = []) ∧ (((Ob.abs fun v bs w => v = v2 ∧ bs = []) = Ob.abs fun v bs w => v = v2 ∧ bs = []) ∧ Ob.abs φ = Ob.abs φ))))))))))) = (awp Try.prog (⟨fun _ _ _ => none, fun id vs os => match id with | 180008 => some ⟨[], .one (.elo 8 1 0 0), []⟩ | 180016 => some ⟨[], .agg [.own 180016], [(180016, .abs (IsV v0))]⟩ | 180032 => some ⟨[], .one (.elo 8 1 1 0), []⟩ | 180040 => some ⟨[], .agg [.own 180040], [(180040, .abs (IsV v1))]⟩ | 180056 => some ⟨[], .one (.elo 8 1 2 0), []⟩ | 180064 => some ⟨[], .agg [.own 180064], [(180064, .abs (IsV v2))]⟩ | _ => none, fun _ => True⟩) (noLoops) (thB.body.getD .skip) ⟨thSL ++ List.replicate (thB.ntmps - (thSL : List AV).length) (.one (.val undef)), upd (app (fun _ => .un) (thOB xs)) 8 (.abs φ)⟩ (fun e s => e = .ret ∧ resCells Try.prog s thB.results.toList = some [(true, [.own 180016]), (true, [.own 180040]), (true, [.own 180064])] ∧ s.obs 180016 = .abs (IsV v0) ∧ s.obs 180040 = .abs (IsV v1) ∧ s.obs 180064 = .abs (IsV v2) ∧ s.obs 8 = .abs φ)) := by kernel_rfl
  rw [← hh_]
  clear hh_
  refine ⟨?g0, ?g1, ?g2, ?g3, ?g4, ?g5, rfl, rfl, rfl, rfl, rfl, rfl⟩
  case g0 => exact cust_idxO hφ rfl (by kernel_rfl) (by kernel_rfl) 0 (show 0 < 3 by decide)
  case g1 => exact cust_loadO hφ rfl (by kernel_rfl) (by kernel_rfl) 0 rfl h0
  case g2 => exact cust_idxO hφ rfl (by kernel_rfl) (by kernel_rfl) 1 (show 1 < 3 by decide)
  case g3 => exact cust_loadO hφ rfl (by kernel_rfl) (by kernel_rfl) 1 rfl h1
  case g4 => exact cust_idxO hφ rfl (by kernel_rfl) (by kernel_rfl) 2 (show 2 < 3 by decide)
  case g5 => exact cust_loadO hφ rfl (by kernel_rfl) (by kernel_rfl) 2 rfl h2
theorem own_grp {ρ : Roots} {W : World} {q : Nat} {u v : Value} {bs : List Nat} (hr : ρ q = some (u, bs)) (h : GrpOK ρ W (true, [.own q]) v) : v = .agg #[u] := by
  obtain ⟨vs, rfl, x, ys, rfl, ⟨_, cs, hx⟩, hy⟩ : ∃ vs : List Value, v = .agg vs.toArray ∧ CsOK ρ W [.own q] vs := h
  obtain rfl : ys = [] := hy
  rw [hr] at hx
  cases hx
  rfl
theorem isv_of {W w : World} {obs : Nat → Ob} {ρ : Roots} (h : Mem W obs ρ w) {q : Nat} {u : Value} (hq : obs q = .abs (IsV u)) : ∃ bs, ρ q = some (u, bs) := by
  obtain ⟨r, bs, h1, ⟨h2, _⟩, _⟩ := abs_of h hq
  exact ⟨bs, by rw [h1, h2]⟩
/-- What three bundles are drawn. -/
theorem conThree (xs : List Int) (hx : xs.length ≤ 140737488351232) : FnCon Try.prog 14 [(false, [numR 5 .u8 xs])] [(true, [rowR 38 4 dasEntry zEntry (tL xs 0)]), (true, [rowR 38 4 dasEntry zEntry (tL xs 1)]), (true, [rowR 38 4 dasEntry zEntry (tL xs 2)])] where
  enters := con_enters Try.func14 (by kernel_rfl) (by kernel_rfl)
  calls w vs hv := by
    have hb : Try.f14.body = some (ofL (headL 6 (Try.f14.body.getD .skip)) (tailN 6 (Try.f14.body.getD .skip))) := by kernel_rfl
    refine (go2 (R := fun us w' => ∃ bs, ResOK w' w.heap.size [(true, [rowR 38 4 dasEntry zEntry (tL xs 0)]), (true, [rowR 38 4 dasEntry zEntry (tL xs 1)]), (true, [rowR 38 4 dasEntry zEntry (tL xs 2)])] us bs ∧ bs.Nodup ∧ Below w.heap.size w w') Try.func14 hb (by kernel_rfl) _ _ trivial (wpThA xs hx) hv (fun e s hk => hk.1) fun s ρ a w' hk hs => ?_).mono fun e w' ⟨us, h1, bs, h2⟩ => ⟨us, bs, h1, h2⟩
    obtain ⟨ρ1, _, hs1⟩ := ent_ok hk.2 hs
    have hm := hs1.mem
    have hq : (mkSt thSL (thOB xs)).obs 8 = .own (rowB (tLs xs 3)) := rfl
    obtain ⟨r, bs, hρ, hown⟩ := own_of hm hq
    have hnd := hm.nodup 8 _ hρ
    have hdc : (rowB (tLs xs 3)).dc = .row 26 1 3 [(rowR 38 4 dasEntry zEntry (tL xs 0)).dc, (rowR 38 4 dasEntry zEntry (tL xs 1)).dc, (rowR 38 4 dasEntry zEntry (tL xs 2)).dc] := by kernel_rfl
    rw [hdc] at hown
    obtain ⟨us, b2, hat, hl, hbs⟩ := owns_row hown
    obtain ⟨g, off, cap, rfl, _, _⟩ := hat.form (by omega)
    obtain ⟨v0, us1, c0, d0, rfl, o0, hl, rfl⟩ := hl
    obtain ⟨v1, us2, c1, d1, rfl, o1, hl, rfl⟩ := hl
    obtain ⟨v2, us3, c2, d2, rfl, o2, hl, rfl⟩ := hl
    obtain ⟨rfl, rfl⟩ := hl
    have hbs : bs = g :: (c0 ++ (c1 ++ (c2 ++ []))) := hbs
    have w0 : OwnsL w' w.heap.size [(rowR 38 4 dasEntry zEntry (tL xs 0)).dc, (rowR 38 4 dasEntry zEntry (tL xs 1)).dc, (rowR 38 4 dasEntry zEntry (tL xs 2)).dc] [v0, v1, v2] (c0 ++ (c1 ++ (c2 ++ []))) := ⟨v0, _, c0, _, rfl, o0, ⟨v1, _, c1, _, rfl, o1, ⟨v2, _, c2, _, rfl, o2, ⟨rfl, rfl⟩, rfl⟩, rfl⟩, rfl⟩
    have one : ∀ {v : Value} {c : List Nat} {l : List En}, Owns w' w.heap.size (rowR 38 4 dasEntry zEntry l).dc v c → v.oneCell' = true := fun h => by
      rw [rowR_dc 38 zEntry Entry.len dasEntry_dc] at h
      exact owns_one h
    have hO : OutAt w.heap.size 26 g off cap [v0, v1, v2] [(rowR 38 4 dasEntry zEntry (tL xs 0)).dc, (rowR 38 4 dasEntry zEntry (tL xs 1)).dc, (rowR 38 4 dasEntry zEntry (tL xs 2)).dc] bs (.slice (some ⟨g, off, none⟩) 3 cap) bs w' := ⟨rfl, rfl, hat, _, w0, hbs⟩
    have hs2 : Sat w ⟨thSL ++ List.replicate (thB.ntmps - (thSL : List AV).length) (.one (.val undef)), upd (app (fun _ => .un) (thOB xs)) 8 (.abs (OutAt w.heap.size 26 g off cap [v0, v1, v2] [(rowR 38 4 dasEntry zEntry (tL xs 0)).dc, (rowR 38 4 dasEntry zEntry (tL xs 1)).dc, (rowR 38 4 dasEntry zEntry (tL xs 2)).dc] bs))⟩ ρ1 a w' :=
      ⟨mem_as hm ⟨_, _, hρ, hO, fun b hb => hm.in_ hρ b hb, fun w1 w2 h k => OutAt.firm w1 w2 h k⟩, hs1.size, hs1.slots, hs1.defers⟩
    refine ⟨_, _, _, ρ1, _, trivial, hs2, wpThB xs _ v0 v1 v2 w.heap.size g off cap _ bs rfl (one o0) (one o1) (one o2), fun e s3 ρ3 a3 w3 hk3 hs3 => ?_⟩
    obtain ⟨he, hres, q0, q1, q2, q8⟩ := hk3
    refine ⟨.inl he, _, hres, fun us hus => ?_⟩
    obtain ⟨_, _, p8, h8, n8⟩ := abs_of hs3.mem q8
    obtain ⟨e0, p0⟩ := isv_of hs3.mem q0
    obtain ⟨e1, p1⟩ := isv_of hs3.mem q1
    obtain ⟨e2, p2⟩ := isv_of hs3.mem q2
    obtain ⟨u0, us, rfl, g0, hus⟩ := hus
    obtain ⟨u1, us, rfl, g1, hus⟩ := hus
    obtain ⟨u2, us, rfl, g2, hus⟩ := hus
    obtain rfl : us = [] := hus
    obtain rfl := own_grp p0 g0
    obtain rfl := own_grp p1 g1
    obtain rfl := own_grp p2 g2
    obtain ⟨b3, hl3, hb3⟩ := h8.own
    have hcs := h8.cs_is
    rw [hb3] at hcs
    rw [hcs] at n8
    obtain ⟨x0, y0, c0', d0', e0', o0', hl3, rfl⟩ := hl3
    obtain ⟨x1, y1, c1', d1', e1', o1', hl3, rfl⟩ := hl3
    obtain ⟨x2, y2, c2', d2', e2', o2', hl3, rfl⟩ := hl3
    obtain ⟨rfl, rfl⟩ := hl3
    cases e0'
    cases e1'
    cases e2'
    exact ⟨_, ⟨_, _, [v0], c0', _, rfl, rfl, ⟨v0, [], c0', [], rfl, o0', ⟨rfl, rfl⟩, by simp⟩, ⟨_, _, [v1], c1', _, rfl, rfl, ⟨v1, [], c1', [], rfl, o1', ⟨rfl, rfl⟩, by simp⟩, ⟨_, _, [v2], c2', _, rfl, rfl, ⟨v2, [], c2', [], rfl, o2', ⟨rfl, rfl⟩, by simp⟩, ⟨rfl, rfl⟩, rfl⟩, rfl⟩, rfl⟩, (List.nodup_cons.1 n8).2, hs3.mem.below⟩
end Go.Proofs.Ytoedfeacpllkeaa.Dr
