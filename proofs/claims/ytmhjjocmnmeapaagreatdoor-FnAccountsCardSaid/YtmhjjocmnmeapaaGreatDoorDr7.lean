import Derived.Test.YtmhjjocmnmeapaaGreatDoorDr6
import Derived.Test.YtmhjjocmnmeapaaGreatDoorC14s
import Derived.Test.YtmhjjocmnmeapaaGreatDoorC10
import Derived.Test.YtmhjjocmnmeapaaGreatDoorM18b
namespace Go.Proofs.YtmhjjocmnmeapaaGreatDoor.Dr
open Go.ChangeShapes Go.WideShapes Go.ChangeAt Go.RowKit
open S0 S1 S9 Dm Fx M8 M18 E0 E1 E2 E3 E4 E7 E9e E10 E15 E16 E17 E18 E19 E20 E22 E23 Das
set_option linter.unusedVariables false
set_option linter.unusedSimpArgs false
set_option maxRecDepth 100000
set_option maxHeartbeats 4000000
theorem runA_ok {xs : List Int} {z : ByteArray} : ∀ {n : Nat} {y : AS}, OkC xs y.s → OkC xs (runA xs z n y).s
  | 0, _, k => k
  | n + 1, y, k => runA_ok (n := n) (pass_is k).2.1
theorem accS_ok {xs : List Int} {z : ByteArray} {s : Cu} (k : OkC xs s) : OkC xs (accS xs z s) := runA_ok (as0_is (z := z) k).ok
theorem runA_a3 {xs : List Int} {z : ByteArray} : ∀ {n : Nat} {y : AS}, OkC xs y.s → (runA xs z n y).a.Credentials.length ≤ y.a.Credentials.length + n ∧ (runA xs z n y).l.length ≤ y.l.length + n
  | 0, _, k => ⟨Nat.le_refl _, Nat.le_refl _⟩
  | n + 1, y, k => by
    obtain ⟨_, k1, k2, k3⟩ := pass_is (z := z) k
    have := runA_a3 (z := z) (n := n) k1
    show (runA xs z n (pass xs z y)).a.Credentials.length ≤ _ ∧ (runA xs z n (pass xs z y)).l.length ≤ _
    omega
theorem acc_len {xs : List Int} {z : ByteArray} {s : Cu} (k : OkC xs s) : (accA xs z s).Credentials.length ≤ 3 ∧ (accL xs z s).length ≤ 3 := by
  have h := as0_is (z := z) k
  have := runA_a3 (z := z) (n := (as0 xs s).n) h.ok
  have h1 := h.a3
  have h2 := h.l3
  unfold accA accL acc
  omega
def BANK : ByteArray := ⟨#[98, 97, 110, 107, 46, 99, 111, 109]⟩
noncomputable def anT (xs : List Int) (s : Cu) : Int := belV xs 12 (accS xs BANK s)
noncomputable def anU (xs : List Int) (s : Cu) : Cu := belS xs 12 (accS xs BANK s)
noncomputable def anC (xs : List Int) (s : Cu) : Fx.Credential := ⟨IntKind.i64.wrap (belV xs 9 (anU xs s) - 1), ([0, 5, 7] : List Int).getD (belV xs 3 (belS xs 9 (anU xs s))).toNat 0, ([-1, 0, 1000001] : List Int).getD (belV xs 3 (belS xs 3 (belS xs 9 (anU xs s)))).toNat 0, false⟩
noncomputable def anA (xs : List Int) (s : Cu) : Fx.Account := match anT xs s == 0 with
  | true => ⟨([-1, 1000000, 1000001] : List Int).getD (belV xs 3 (anU xs s)).toNat 0, (accA xs BANK s).Minimum, (accA xs BANK s).Credentials⟩
  | false => (match anT xs s == 1 with
    | true => ⟨(accA xs BANK s).Id, ([0, 4] : List Int).getD (belV xs 2 (anU xs s)).toNat 0, (accA xs BANK s).Credentials⟩
    | false => (match anT xs s == 2 with
      | true => ⟨(accA xs BANK s).Id, (accA xs BANK s).Minimum, (accA xs BANK s).Credentials ++ [anC xs s]⟩
      | false => accA xs BANK s))
noncomputable def anS (xs : List Int) (s : Cu) : Cu := match anT xs s == 0 with
  | true => belS xs 3 (anU xs s)
  | false => (match anT xs s == 1 with
    | true => belS xs 2 (anU xs s)
    | false => (match anT xs s == 2 with
      | true => belS xs 3 (belS xs 3 (belS xs 9 (anU xs s)))
      | false => anU xs s))
theorem an0 {xs : List Int} {s : Cu} (e : (anT xs s == 0) = true) : anA xs s = ⟨([-1, 1000000, 1000001] : List Int).getD (belV xs 3 (anU xs s)).toNat 0, (accA xs BANK s).Minimum, (accA xs BANK s).Credentials⟩ ∧ anS xs s = belS xs 3 (anU xs s) := by unfold anA anS; rw [e]; exact ⟨rfl, rfl⟩
theorem an1 {xs : List Int} {s : Cu} (e : (anT xs s == 0) = false) (e1 : (anT xs s == 1) = true) : anA xs s = ⟨(accA xs BANK s).Id, ([0, 4] : List Int).getD (belV xs 2 (anU xs s)).toNat 0, (accA xs BANK s).Credentials⟩ ∧ anS xs s = belS xs 2 (anU xs s) := by unfold anA anS; rw [e, e1]; exact ⟨rfl, rfl⟩
theorem an2 {xs : List Int} {s : Cu} (e : (anT xs s == 0) = false) (e1 : (anT xs s == 1) = false) (e2 : (anT xs s == 2) = true) : anA xs s = ⟨(accA xs BANK s).Id, (accA xs BANK s).Minimum, (accA xs BANK s).Credentials ++ [anC xs s]⟩ ∧ anS xs s = belS xs 3 (belS xs 3 (belS xs 9 (anU xs s))) := by unfold anA anS; rw [e, e1, e2]; exact ⟨rfl, rfl⟩
theorem an3 {xs : List Int} {s : Cu} (e : (anT xs s == 0) = false) (e1 : (anT xs s == 1) = false) (e2 : (anT xs s == 2) = false) : anA xs s = accA xs BANK s ∧ anS xs s = anU xs s := by unfold anA anS; rw [e, e1, e2]; exact ⟨rfl, rfl⟩
theorem row_oneC (x : Fx.Credential) : RowOf 4 dasCredential zCredential 1 (fun i j => Da.val ([vI x.Handle, vI x.Public, vI x.Counter, Value.bool x.Cut].getD (i * 4 + j) undef)) [x] := row_one fun j hj => by
  match j, hj with
  | 0, _ => rfl
  | 1, _ => rfl
  | 2, _ => rfl
  | 3, _ => rfl
theorem lnAny (xs : List Int) (s : Cu) (k : OkC xs s) : E22.LentCon Tryz.prog 21 72 (cur xs s) ([]) ([(true, dasAccount (anA xs s))]) (cur xs (anS xs s)) := by
  refine E22.lent_go (p := fun R => ((Cust Tryz.prog (fun x => True) 20008 (opOf (Tryz.f21.body.getD Code.skip) 1 1) [AV.one (Sc.val (Value.func (Fn.func 15) { toList := [] } { toList := [] })), AV.one (Sc.ptr 1 0), AV.one (Sc.val (Value.string { data := { toList := [98, 97, 110, 107, 46, 99, 111, 109] } }))] [Ob.var 72 (cur xs s)] { need := [], val := AV.tup [(true, [Sc.val (vI (accA xs { data := { toList := [98, 97, 110, 107, 46, 99, 111, 109] } } s).Id), Sc.val (vI (accA xs { data := { toList := [98, 97, 110, 107, 46, 99, 111, 109] } } s).Minimum), Sc.own 20008]), (false, [Sc.own 20009])], mem := [(1, Ob.var 72 (cur xs (accS xs { data := { toList := [98, 97, 110, 107, 46, 99, 111, 109] } } s))), (20008, Ob.own (Da.row 49 4 (accA xs { data := { toList := [98, 97, 110, 107, 46, 99, 111, 109] } } s).Credentials.length fun i j => (dasCredential ((accA xs { data := { toList := [98, 97, 110, 107, 46, 99, 111, 109] } } s).Credentials.getD i zCredential)).getD j (Da.val undef))), (20009, Ob.own (Da.row 52 4 (accL xs { data := { toList := [98, 97, 110, 107, 46, 99, 111, 109] } } s).length fun i j => (dasKeyStore ((accL xs { data := { toList := [98, 97, 110, 107, 46, 99, 111, 109] } } s).getD i zKeyStore)).getD j (Da.val undef)))] }) ∧ ((Cust Tryz.prog (fun x => True) 30008 (opOf (Tryz.f21.body.getD Code.skip) 2 1) [AV.one (Sc.val (Value.func (Fn.func 16) { toList := [] } { toList := [] })), AV.one (Sc.ptr 1 0), AV.one (Sc.val (vI 12))] [Ob.var 72 (cur xs (accS xs { data := { toList := [98, 97, 110, 107, 46, 99, 111, 109] } } s))] { need := [], val := AV.one (Sc.val (vI (belV xs 12 (accS xs { data := { toList := [98, 97, 110, 107, 46, 99, 111, 109] } } s)))), mem := [(1, Ob.var 72 (cur xs (belS xs 12 (accS xs { data := { toList := [98, 97, 110, 107, 46, 99, 111, 109] } } s))))] }) ∧ bcase (belV xs 12 (accS xs { data := { toList := [98, 97, 110, 107, 46, 99, 111, 109] } } s) == 0) ((Cust Tryz.prog (fun x => True) 50016 (opOf (Tryz.f21.body.getD Code.skip) 4 2) [AV.one (Sc.val (Value.func (Fn.func 46) { toList := [] } { toList := [] })), AV.one (Sc.ptr 1 0), AV.one (Sc.own 50008)] [Ob.var 72 (cur xs (belS xs 12 (accS xs { data := { toList := [98, 97, 110, 107, 46, 99, 111, 109] } } s))), Ob.own (Da.row 3 1 3 fun i j => Da.val ([vI (-1), vI 1000000, vI 1000001].getD (i * 1 + j) undef))] { need := [], val := AV.one (Sc.val (vI ([-1, 1000000, 1000001].getD (belV xs 3 (belS xs 12 (accS xs { data := { toList := [98, 97, 110, 107, 46, 99, 111, 109] } } s))).toNat 0))), mem := [(1, Ob.var 72 (cur xs (belS xs 3 (belS xs 12 (accS xs { data := { toList := [98, 97, 110, 107, 46, 99, 111, 109] } } s)))))] }) ∧ ((true = true ∧ (vI ([-1, 1000000, 1000001].getD (belV xs 3 (belS xs 12 (accS xs { data := { toList := [98, 97, 110, 107, 46, 99, 111, 109] } } s))).toNat 0) = vI (anA xs s).Id ∧ (vI (accA xs { data := { toList := [98, 97, 110, 107, 46, 99, 111, 109] } } s).Minimum = vI (anA xs s).Minimum ∧ (DaEq (Da.row 49 4 (accA xs { data := { toList := [98, 97, 110, 107, 46, 99, 111, 109] } } s).Credentials.length fun i j => (dasCredential ((accA xs { data := { toList := [98, 97, 110, 107, 46, 99, 111, 109] } } s).Credentials.getD i zCredential)).getD j (Da.val undef)) (Da.row 49 4 (anA xs s).Credentials.length fun i j => (dasCredential ((anA xs s).Credentials.getD i zCredential)).getD j (Da.val undef)))))) ∧ ((72 = 72 ∧ ((Sc.old (Da.row 5 1 xs.length fun i x => Da.val (Value.int IntKind.u8 (xs.getD i 0))) = Sc.old (Da.row 5 1 xs.length fun i x => Da.val (Value.int IntKind.u8 (xs.getD i 0)))) ∧ (vI (belS xs 3 (belS xs 12 (accS xs { data := { toList := [98, 97, 110, 107, 46, 99, 111, 109] } } s))).i = vI (anS xs s).i ∧ vI (belS xs 3 (belS xs 12 (accS xs { data := { toList := [98, 97, 110, 107, 46, 99, 111, 109] } } s))).h = vI (anS xs s).h))) ∧ R = R))) (bcase (belV xs 12 (accS xs { data := { toList := [98, 97, 110, 107, 46, 99, 111, 109] } } s) == 1) ((Cust Tryz.prog (fun x => True) 70016 (opOf (Tryz.f21.body.getD Code.skip) 6 2) [AV.one (Sc.val (Value.func (Fn.func 46) { toList := [] } { toList := [] })), AV.one (Sc.ptr 1 0), AV.one (Sc.own 70008)] [Ob.var 72 (cur xs (belS xs 12 (accS xs { data := { toList := [98, 97, 110, 107, 46, 99, 111, 109] } } s))), Ob.own (Da.row 3 1 2 fun i j => Da.val ([vI 0, vI 4].getD (i * 1 + j) undef))] { need := [], val := AV.one (Sc.val (vI ([0, 4].getD (belV xs 2 (belS xs 12 (accS xs { data := { toList := [98, 97, 110, 107, 46, 99, 111, 109] } } s))).toNat 0))), mem := [(1, Ob.var 72 (cur xs (belS xs 2 (belS xs 12 (accS xs { data := { toList := [98, 97, 110, 107, 46, 99, 111, 109] } } s)))))] }) ∧ ((true = true ∧ (vI (accA xs { data := { toList := [98, 97, 110, 107, 46, 99, 111, 109] } } s).Id = vI (anA xs s).Id ∧ (vI ([0, 4].getD (belV xs 2 (belS xs 12 (accS xs { data := { toList := [98, 97, 110, 107, 46, 99, 111, 109] } } s))).toNat 0) = vI (anA xs s).Minimum ∧ (DaEq (Da.row 49 4 (accA xs { data := { toList := [98, 97, 110, 107, 46, 99, 111, 109] } } s).Credentials.length fun i j => (dasCredential ((accA xs { data := { toList := [98, 97, 110, 107, 46, 99, 111, 109] } } s).Credentials.getD i zCredential)).getD j (Da.val undef)) (Da.row 49 4 (anA xs s).Credentials.length fun i j => (dasCredential ((anA xs s).Credentials.getD i zCredential)).getD j (Da.val undef)))))) ∧ ((72 = 72 ∧ ((Sc.old (Da.row 5 1 xs.length fun i x => Da.val (Value.int IntKind.u8 (xs.getD i 0))) = Sc.old (Da.row 5 1 xs.length fun i x => Da.val (Value.int IntKind.u8 (xs.getD i 0)))) ∧ (vI (belS xs 2 (belS xs 12 (accS xs { data := { toList := [98, 97, 110, 107, 46, 99, 111, 109] } } s))).i = vI (anS xs s).i ∧ vI (belS xs 2 (belS xs 12 (accS xs { data := { toList := [98, 97, 110, 107, 46, 99, 111, 109] } } s))).h = vI (anS xs s).h))) ∧ R = R))) (bcase (belV xs 12 (accS xs { data := { toList := [98, 97, 110, 107, 46, 99, 111, 109] } } s) == 2) ((Cust Tryz.prog (fun x => True) 90024 (opOf (Tryz.f21.body.getD Code.skip) 8 3) [AV.one (Sc.val (Value.func (Fn.func 16) { toList := [] } { toList := [] })), AV.one (Sc.ptr 1 0), AV.one (Sc.val (vI 9))] [Ob.var 72 (cur xs (belS xs 12 (accS xs { data := { toList := [98, 97, 110, 107, 46, 99, 111, 109] } } s)))] { need := [], val := AV.one (Sc.val (vI (belV xs 9 (belS xs 12 (accS xs { data := { toList := [98, 97, 110, 107, 46, 99, 111, 109] } } s))))), mem := [(1, Ob.var 72 (cur xs (belS xs 9 (belS xs 12 (accS xs { data := { toList := [98, 97, 110, 107, 46, 99, 111, 109] } } s)))))] }) ∧ ((Cust Tryz.prog (fun x => True) 90056 (opOf (Tryz.f21.body.getD Code.skip) 8 7) [AV.one (Sc.val (Value.func (Fn.func 46) { toList := [] } { toList := [] })), AV.one (Sc.ptr 1 0), AV.one (Sc.own 90048)] [Ob.var 72 (cur xs (belS xs 9 (belS xs 12 (accS xs { data := { toList := [98, 97, 110, 107, 46, 99, 111, 109] } } s)))), Ob.own (Da.row 3 1 3 fun i j => Da.val ([vI 0, vI 5, vI 7].getD (i * 1 + j) undef))] { need := [], val := AV.one (Sc.val (vI ([0, 5, 7].getD (belV xs 3 (belS xs 9 (belS xs 12 (accS xs { data := { toList := [98, 97, 110, 107, 46, 99, 111, 109] } } s)))).toNat 0))), mem := [(1, Ob.var 72 (cur xs (belS xs 3 (belS xs 9 (belS xs 12 (accS xs { data := { toList := [98, 97, 110, 107, 46, 99, 111, 109] } } s))))))] }) ∧ ((Cust Tryz.prog (fun x => True) 90080 (opOf (Tryz.f21.body.getD Code.skip) 8 10) [AV.one (Sc.val (Value.func (Fn.func 46) { toList := [] } { toList := [] })), AV.one (Sc.ptr 1 0), AV.one (Sc.own 90072)] [Ob.var 72 (cur xs (belS xs 3 (belS xs 9 (belS xs 12 (accS xs { data := { toList := [98, 97, 110, 107, 46, 99, 111, 109] } } s))))), Ob.own (Da.row 3 1 3 fun i j => Da.val ([vI (-1), vI 0, vI 1000001].getD (i * 1 + j) undef))] { need := [], val := AV.one (Sc.val (vI ([-1, 0, 1000001].getD (belV xs 3 (belS xs 3 (belS xs 9 (belS xs 12 (accS xs { data := { toList := [98, 97, 110, 107, 46, 99, 111, 109] } } s))))).toNat 0))), mem := [(1, Ob.var 72 (cur xs (belS xs 3 (belS xs 3 (belS xs 9 (belS xs 12 (accS xs { data := { toList := [98, 97, 110, 107, 46, 99, 111, 109] } } s)))))))] }) ∧ ((E9.PlainEl 1 4 fun i j => Da.val ([vI (IntKind.i64.wrap (belV xs 9 (belS xs 12 (accS xs { data := { toList := [98, 97, 110, 107, 46, 99, 111, 109] } } s)) - 1)), vI ([0, 5, 7].getD (belV xs 3 (belS xs 9 (belS xs 12 (accS xs { data := { toList := [98, 97, 110, 107, 46, 99, 111, 109] } } s)))).toNat 0), vI ([-1, 0, 1000001].getD (belV xs 3 (belS xs 3 (belS xs 9 (belS xs 12 (accS xs { data := { toList := [98, 97, 110, 107, 46, 99, 111, 109] } } s))))).toNat 0), Value.bool false].getD (i * 4 + j) undef)) ∧ ((accA xs { data := { toList := [98, 97, 110, 107, 46, 99, 111, 109] } } s).Credentials.length + 1 ≤ 1000000000000 ∧ (((accA xs { data := { toList := [98, 97, 110, 107, 46, 99, 111, 109] } } s).Credentials.length + 1) * 32 ≤ 140737488355328 ∧ ((true = true ∧ (vI (accA xs { data := { toList := [98, 97, 110, 107, 46, 99, 111, 109] } } s).Id = vI (anA xs s).Id ∧ (vI (accA xs { data := { toList := [98, 97, 110, 107, 46, 99, 111, 109] } } s).Minimum = vI (anA xs s).Minimum ∧ (DaEq
  (Da.row 49 4 ((accA xs { data := { toList := [98, 97, 110, 107, 46, 99, 111, 109] } } s).Credentials.length + 1) fun i j =>
    match i.succ.ble (accA xs { data := { toList := [98, 97, 110, 107, 46, 99, 111, 109] } } s).Credentials.length with
    | true => (dasCredential ((accA xs { data := { toList := [98, 97, 110, 107, 46, 99, 111, 109] } } s).Credentials.getD i zCredential)).getD j (Da.val undef)
    | false => Da.val ([vI (IntKind.i64.wrap (belV xs 9 (belS xs 12 (accS xs { data := { toList := [98, 97, 110, 107, 46, 99, 111, 109] } } s)) - 1)), vI ([0, 5, 7].getD (belV xs 3 (belS xs 9 (belS xs 12 (accS xs { data := { toList := [98, 97, 110, 107, 46, 99, 111, 109] } } s)))).toNat 0), vI ([-1, 0, 1000001].getD (belV xs 3 (belS xs 3 (belS xs 9 (belS xs 12 (accS xs { data := { toList := [98, 97, 110, 107, 46, 99, 111, 109] } } s))))).toNat 0), Value.bool false].getD ((i - (accA xs { data := { toList := [98, 97, 110, 107, 46, 99, 111, 109] } } s).Credentials.length) * 4 + j) undef))
  (Da.row 49 4 (anA xs s).Credentials.length fun i j => (dasCredential ((anA xs s).Credentials.getD i zCredential)).getD j (Da.val undef)))))) ∧ ((72 = 72 ∧ ((Sc.old (Da.row 5 1 xs.length fun i x => Da.val (Value.int IntKind.u8 (xs.getD i 0))) = Sc.old (Da.row 5 1 xs.length fun i x => Da.val (Value.int IntKind.u8 (xs.getD i 0)))) ∧ (vI (belS xs 3 (belS xs 3 (belS xs 9 (belS xs 12 (accS xs { data := { toList := [98, 97, 110, 107, 46, 99, 111, 109] } } s))))).i = vI (anS xs s).i ∧ vI (belS xs 3 (belS xs 3 (belS xs 9 (belS xs 12 (accS xs { data := { toList := [98, 97, 110, 107, 46, 99, 111, 109] } } s))))).h = vI (anS xs s).h))) ∧ R = R)))))))) ((true = true ∧ (vI (accA xs { data := { toList := [98, 97, 110, 107, 46, 99, 111, 109] } } s).Id = vI (anA xs s).Id ∧ (vI (accA xs { data := { toList := [98, 97, 110, 107, 46, 99, 111, 109] } } s).Minimum = vI (anA xs s).Minimum ∧ (DaEq (Da.row 49 4 (accA xs { data := { toList := [98, 97, 110, 107, 46, 99, 111, 109] } } s).Credentials.length fun i j => (dasCredential ((accA xs { data := { toList := [98, 97, 110, 107, 46, 99, 111, 109] } } s).Credentials.getD i zCredential)).getD j (Da.val undef)) (Da.row 49 4 (anA xs s).Credentials.length fun i j => (dasCredential ((anA xs s).Credentials.getD i zCredential)).getD j (Da.val undef)))))) ∧ ((72 = 72 ∧ ((Sc.old (Da.row 5 1 xs.length fun i x => Da.val (Value.int IntKind.u8 (xs.getD i 0))) = Sc.old (Da.row 5 1 xs.length fun i x => Da.val (Value.int IntKind.u8 (xs.getD i 0)))) ∧ (vI (belS xs 12 (accS xs { data := { toList := [98, 97, 110, 107, 46, 99, 111, 109] } } s)).i = vI (anS xs s).i ∧ vI (belS xs 12 (accS xs { data := { toList := [98, 97, 110, 107, 46, 99, 111, 109] } } s)).h = vI (anS xs s).h))) ∧ R = R))))))) (⟨fun _ _ _ => none, fun id vs os => match id with | 20008 => (match os with | .var _ [_, .val (.int _ i), .val (.int _ h)] :: _ => some ⟨[], E7.resAV (E7.grpNew 20008 [(true, dasAccount (accA xs ⟨#[98, 97, 110, 107, 46, 99, 111, 109]⟩ ⟨i, h⟩)), (false, [rowR 52 4 dasKeyStore zKeyStore (accL xs ⟨#[98, 97, 110, 107, 46, 99, 111, 109]⟩ ⟨i, h⟩)])]).1, (1, .var 72 (cur xs (accS xs ⟨#[98, 97, 110, 107, 46, 99, 111, 109]⟩ ⟨i, h⟩))) :: (E7.grpNew 20008 [(true, dasAccount (accA xs ⟨#[98, 97, 110, 107, 46, 99, 111, 109]⟩ ⟨i, h⟩)), (false, [rowR 52 4 dasKeyStore zKeyStore (accL xs ⟨#[98, 97, 110, 107, 46, 99, 111, 109]⟩ ⟨i, h⟩)])]).2.1⟩ | _ => none) | 30008 => (match os with | .var _ [_, .val (.int _ i), .val (.int _ h)] :: _ => some ⟨[], .one (.val (.int .i64 (belV xs 12 ⟨i, h⟩))), [(1, .var 72 (cur xs (belS xs 12 ⟨i, h⟩)))]⟩ | _ => none) | 50016 => (match os with | .var _ [_, .val (.int _ i), .val (.int _ h)] :: _ => some ⟨[], .one (.val (.int .i64 (([-1, 1000000, 1000001] : List Int).getD (belV xs 3 ⟨i, h⟩).toNat 0))), [(1, .var 72 (cur xs (belS xs 3 ⟨i, h⟩)))]⟩ | _ => none) | 70016 => (match os with | .var _ [_, .val (.int _ i), .val (.int _ h)] :: _ => some ⟨[], .one (.val (.int .i64 (([0, 4] : List Int).getD (belV xs 2 ⟨i, h⟩).toNat 0))), [(1, .var 72 (cur xs (belS xs 2 ⟨i, h⟩)))]⟩ | _ => none) | 90024 => (match os with | .var _ [_, .val (.int _ i), .val (.int _ h)] :: _ => some ⟨[], .one (.val (.int .i64 (belV xs 9 ⟨i, h⟩))), [(1, .var 72 (cur xs (belS xs 9 ⟨i, h⟩)))]⟩ | _ => none) | 90056 => (match os with | .var _ [_, .val (.int _ i), .val (.int _ h)] :: _ => some ⟨[], .one (.val (.int .i64 (([0, 5, 7] : List Int).getD (belV xs 3 ⟨i, h⟩).toNat 0))), [(1, .var 72 (cur xs (belS xs 3 ⟨i, h⟩)))]⟩ | _ => none) | 90080 => (match os with | .var _ [_, .val (.int _ i), .val (.int _ h)] :: _ => some ⟨[], .one (.val (.int .i64 (([-1, 0, 1000001] : List Int).getD (belV xs 3 ⟨i, h⟩).toNat 0))), [(1, .var 72 (cur xs (belS xs 3 ⟨i, h⟩)))]⟩ | _ => none) | _ => none, fun _ => True⟩) (noLoops) Tryz.func21 (by kernel_rfl) (by kernel_rfl) (by kernel_rfl) (fun _ => trivial) rfl (by kernel_rfl) ?_
  intro R hR
  refine ⟨?g0, ?g1, bcase_intro (fun h2 => ⟨?g3, ⟨rfl, congrArg _ ?g4, congrArg _ ?g5, ?g6⟩, ⟨rfl, rfl, congrArg _ ?g7, congrArg _ ?g8⟩, rfl⟩) (fun h2 => bcase_intro (fun h9 => ⟨?g10, ⟨rfl, congrArg _ ?g11, congrArg _ ?g12, ?g13⟩, ⟨rfl, rfl, congrArg _ ?g14, congrArg _ ?g15⟩, rfl⟩) (fun h9 => bcase_intro (fun h16 => ⟨?g17, ?g18, ?g19, ?g20, ?g21, ?g22, ⟨rfl, congrArg _ ?g23, congrArg _ ?g24, ?g25⟩, ⟨rfl, rfl, congrArg _ ?g26, congrArg _ ?g27⟩, rfl⟩) (fun h16 => ⟨⟨rfl, congrArg _ ?g28, congrArg _ ?g29, ?g30⟩, ⟨rfl, rfl, congrArg _ ?g31, congrArg _ ?g32⟩, rfl⟩)))⟩
  case g0 => exact cust_lent rfl rfl rfl rfl rfl rfl rfl rfl (lnAcc xs _ _ (by with_reducible repeat first | exact k | apply belS_ok | apply storeS_ok | apply keyS_ok | apply accS_ok) (by decide)) rfl (by omega)
  case g1 => exact cust_lent rfl rfl rfl rfl rfl rfl rfl rfl (lnB xs _ _ (by with_reducible repeat first | exact k | apply belS_ok | apply storeS_ok | apply keyS_ok | apply accS_ok) (by omega)) rfl (by omega)
  case g3 => exact cust_intL rfl rfl rfl rfl rfl (fun _ _ => elm) rfl (by decide) (by decide) (by with_reducible repeat first | exact k | apply belS_ok | apply storeS_ok | apply keyS_ok | apply accS_ok)
  case g10 => exact cust_intL rfl rfl rfl rfl rfl (fun _ _ => elm) rfl (by decide) (by decide) (by with_reducible repeat first | exact k | apply belS_ok | apply storeS_ok | apply keyS_ok | apply accS_ok)
  case g17 => exact cust_lent rfl rfl rfl rfl rfl rfl rfl rfl (lnB xs _ _ (by with_reducible repeat first | exact k | apply belS_ok | apply storeS_ok | apply keyS_ok | apply accS_ok) (by omega)) rfl (by omega)
  case g18 => exact cust_intL rfl rfl rfl rfl rfl (fun _ _ => elm) rfl (by decide) (by decide) (by with_reducible repeat first | exact k | apply belS_ok | apply storeS_ok | apply keyS_ok | apply accS_ok)
  case g19 => exact cust_intL rfl rfl rfl rfl rfl (fun _ _ => elm) rfl (by decide) (by decide) (by with_reducible repeat first | exact k | apply belS_ok | apply storeS_ok | apply keyS_ok | apply accS_ok)
  all_goals have hal := (acc_len (z := BANK) k).1
  all_goals have hal' : (accA xs { data := { toList := [98, 97, 110, 107, 46, 99, 111, 109] } } s).Credentials.length ≤ 3 := hal
  case g20 =>
    intro i hi j hj
    obtain rfl : i = 0 := by omega
    match j, hj with
    | 0, _ => rfl
    | 1, _ => rfl
    | 2, _ => rfl
    | 3, _ => rfl
  case g21 | g22 => omega
  case g4 | g5 | g6 | g7 | g8 =>
    obtain ⟨eA, eS⟩ := an0 (xs := xs) (s := s) h2
    first
      | exact (congrArg (fun y : Fx.Account => y.Id) eA).symm
      | exact (congrArg (fun y : Fx.Account => y.Minimum) eA).symm
      | exact (congrArg (fun y : Cu => y.i) eS).symm
      | exact (congrArg (fun y : Cu => y.h) eS).symm
      | exact row_to row_self (congrArg (fun y : Fx.Account => y.Credentials) eA).symm
  case g11 | g12 | g13 | g14 | g15 =>
    obtain ⟨eA, eS⟩ := an1 (xs := xs) (s := s) h2 h9
    first
      | exact (congrArg (fun y : Fx.Account => y.Id) eA).symm
      | exact (congrArg (fun y : Fx.Account => y.Minimum) eA).symm
      | exact (congrArg (fun y : Cu => y.i) eS).symm
      | exact (congrArg (fun y : Cu => y.h) eS).symm
      | exact row_to row_self (congrArg (fun y : Fx.Account => y.Credentials) eA).symm
  case g23 | g24 | g25 | g26 | g27 =>
    obtain ⟨eA, eS⟩ := an2 (xs := xs) (s := s) h2 h9 h16
    first
      | exact (congrArg (fun y : Fx.Account => y.Id) eA).symm
      | exact (congrArg (fun y : Fx.Account => y.Minimum) eA).symm
      | exact (congrArg (fun y : Cu => y.i) eS).symm
      | exact (congrArg (fun y : Cu => y.h) eS).symm
      | exact row_to (row_app row_self (row_oneC (anC xs s))) (congrArg (fun y : Fx.Account => y.Credentials) eA).symm
  case g28 | g29 | g30 | g31 | g32 =>
    obtain ⟨eA, eS⟩ := an3 (xs := xs) (s := s) h2 h9 h16
    first
      | exact (congrArg (fun y : Fx.Account => y.Id) eA).symm
      | exact (congrArg (fun y : Fx.Account => y.Minimum) eA).symm
      | exact (congrArg (fun y : Cu => y.i) eS).symm
      | exact (congrArg (fun y : Cu => y.h) eS).symm
      | exact row_to row_self (congrArg (fun y : Fx.Account => y.Credentials) eA).symm
end Go.Proofs.YtmhjjocmnmeapaaGreatDoor.Dr
