import Derived.Test.YtmhjjocmnmeapaaGreatDoorDr4
import Derived.Test.YtmhjjocmnmeapaaGreatDoorC14s
import Derived.Test.YtmhjjocmnmeapaaGreatDoorC10
import Derived.Test.YtmhjjocmnmeapaaGreatDoorM18b
namespace Go.Proofs.YtmhjjocmnmeapaaGreatDoor.Dr
open Go.ChangeShapes Go.WideShapes Go.ChangeAt Go.RowKit
open S0 S1 S9 Dm Fx M8 M18 E0 E1 E2 E3 E4 E7 E9e E10 E15 E16 E17 E18 E19 E20 E22 E23 Das
set_option linter.unusedVariables false
set_option linter.unusedSimpArgs false
set_option maxRecDepth 100000
set_option maxHeartbeats 4000000
/-- A row's data as a list. -/
def unI : Da → Int
  | .val (.int _ x) => x
  | _ => 0
def unB : Da → Bool
  | .val (.bool b) => b
  | _ => false
def unC (n : Nat) (el : Nat → Nat → Da) : List Fx.Credential := (List.range n).map fun i => ⟨unI (el i 0), unI (el i 1), unI (el i 2), unB (el i 3)⟩
theorem unC_of {n : Nat} {el : Nat → Nat → Da} {xs : List Fx.Credential} (h : RowOf 4 dasCredential zCredential n el xs) : unC n el = xs := by
  obtain ⟨h1, h2⟩ := h
  unfold unC
  apply List.ext_getElem (by simp [h1])
  intro i hi hj
  have e := fun j hj => h2 i (by omega) j hj
  have hg : xs.getD i zCredential = xs[i] := by simp [List.getD_eq_getElem?_getD, List.getElem?_eq_getElem hj]
  rw [List.getElem_map, List.getElem_range, e 0 (by omega), e 1 (by omega), e 2 (by omega), e 3 (by omega), hg]
  generalize xs[i] = x
  cases x
  rfl
structure AS where
  n : Nat
  a : Fx.Account
  l : List Fx.KeyStore
  s : Cu
def stK (xs : List Int) (s : Cu) : Fx.KeyStore := ⟨(store0 xs s).Vendor, (store0 xs s).Serial, (store0 xs s).Seed, IntKind.i64.wrap (3 + belV xs 9 (storeS xs s))⟩
def stS (xs : List Int) (s : Cu) : Cu := belS xs 9 (storeS xs s)
def stH (xs : List Int) (n : Nat) (s : Cu) : Int := IntKind.i64.wrap (n + IntKind.i64.wrap (IntKind.i64.wrap (2 * belV xs 2 s) * n))
def passP (xs : List Int) (z : ByteArray) (y : AS) : Int := C10.pubS (stK xs y.s) z (stH xs y.l.length (stS xs y.s))
def passC (xs : List Int) (z : ByteArray) (y : AS) : Cu := belS xs 2 (stS xs y.s)
def passH (xs : List Int) (y : AS) : Int := stH xs y.l.length (stS xs y.s)
noncomputable def passA (xs : List Int) (z : ByteArray) (y : AS) : AS := match addB y.a (passH xs y) (passP xs z y) with
  | true => ⟨y.n - 1, ⟨(addX y.a (passH xs y) (passP xs z y)).Id, (addX y.a (passH xs y) (passP xs z y)).Minimum, setN (addX y.a (passH xs y) (passP xs z y)).Credentials (findC (addX y.a (passH xs y) (passP xs z y)).Credentials (passH xs y)).toNat (belV xs 5 (passC xs z y))⟩, y.l ++ [stK xs y.s], belS xs 5 (passC xs z y)⟩
  | false => ⟨y.n - 1, y.a, y.l, passC xs z y⟩
noncomputable def pass (xs : List Int) (z : ByteArray) (y : AS) : AS := match belV xs 5 (passA xs z y).s == 0 with
  | true => ⟨y.n - 1, cutX (passA xs z y).a (passH xs y), (passA xs z y).l, belS xs 5 (passA xs z y).s⟩
  | false => ⟨y.n - 1, (passA xs z y).a, (passA xs z y).l, belS xs 5 (passA xs z y).s⟩
noncomputable def runA (xs : List Int) (z : ByteArray) : Nat → AS → AS
  | 0, y => y
  | k + 1, y => runA xs z k (pass xs z y)
def as0 (xs : List Int) (s : Cu) : AS := ⟨(belV xs 4 (belS xs 3 (belS xs 5 s))).toNat, ⟨belV xs 5 s, IntKind.i64.wrap (1 + belV xs 3 (belS xs 5 s)), []⟩, [], belS xs 4 (belS xs 3 (belS xs 5 s))⟩
noncomputable def acc (xs : List Int) (z : ByteArray) (s : Cu) : AS := runA xs z (as0 xs s).n (as0 xs s)
noncomputable def accA (xs : List Int) (z : ByteArray) (s : Cu) : Fx.Account := (acc xs z s).a
noncomputable def accL (xs : List Int) (z : ByteArray) (s : Cu) : List Fx.KeyStore := (acc xs z s).l
noncomputable def accS (xs : List Int) (z : ByteArray) (s : Cu) : Cu := (acc xs z s).s
structure AcI (xs : List Int) (z : ByteArray) (R : AS) (v : AS) : Prop where
  ok : OkC xs v.s
  n3 : v.n ≤ 3
  l3 : v.l.length + v.n ≤ 3
  a3 : v.a.Credentials.length + v.n ≤ 3
  run : runA xs z v.n v = R
abbrev AcX (xs : List Int) (z : ByteArray) (R : AS) : Type := { v : AS // AcI xs z R v }
noncomputable def accLp (xs : List Int) (z : ByteArray) (R : AS) : Loops := fun r _ => match r with
  | 4 => some ⟨AcX xs z R, fun v sl => only [0, 1, 4, 6, 7, 8] 0 ((sl.set 8 (.one (.val (vI v.1.n)))).set 7 (.one (.own 8))), fun v obs => (1, .var 72 (cur xs v.1.s)) :: keepO [2, 10000] obs ++ [(20048, .var 26 [.val (.int .i64 (v.1.a).Id), .val (.int .i64 (v.1.a).Minimum), .own 7]), (7, .own (rowR 49 4 dasCredential zCredential v.1.a.Credentials)), (8, .own (rowR 52 4 dasKeyStore zKeyStore v.1.l))], fun v => v.1.n⟩
  | _ => none
noncomputable def accCall : Option Tmp → FuncId → List Grp → Option (List Grp) := fun d _ a => match d, a with
  | some 48, [(_, [.val (.int _ v), .val (.int _ n), .val (.int _ k), .val (.int _ c)]), (_, [.val (.string z)]), (_, [.val (.int _ h)])] => some [iV (C10.pubS ⟨v, n, k, c⟩ z h)]
  | some 49, [(_, [.val (.int _ i), .val (.int _ m), .row _ _ n el]), (_, [.val (.int _ h)]), (_, [.val (.int _ p)])] => some [(true, dasAccount (addX ⟨i, m, unC n el⟩ h p)), bV (addB ⟨i, m, unC n el⟩ h p)]
  | some 55, [(_, [_, _, .row _ _ n el]), (_, [.val (.int _ h)])] => some [iV (findC (unC n el) h)]
  | some 73, [(_, [.val (.int _ i), .val (.int _ m), .row _ _ n el]), (_, [.val (.int _ h)])] => some [(true, dasAccount (cutX ⟨i, m, unC n el⟩ h)), bV (cutB ⟨i, m, unC n el⟩ h)]
  | _, _ => none
theorem unC_self (l : List Fx.Credential) : unC l.length (fun i j => (dasCredential (l.getD i zCredential)).getD j (Da.val undef)) = l := unC_of row_self
theorem row_put (l : List Fx.Credential) (k : Nat) (x : Int) : RowOf 4 dasCredential zCredential l.length (fun a b => match (match a.beq k with | false => false | true => b.beq 2) with | true => Da.val (vI x) | false => (dasCredential (l.getD a zCredential)).getD b (Da.val undef)) (setN l k x) :=
  row_set (f := 2) row_self fun j hj => by
    match j, hj with
    | 0, _ => rfl
    | 1, _ => rfl
    | 2, _ => rfl
    | 3, _ => rfl
theorem unC_put (l : List Fx.Credential) (k : Nat) (x : Int) : unC l.length (fun a b => match (match a.beq k with | false => false | true => b.beq 2) with | true => Da.val (vI x) | false => (dasCredential (l.getD a zCredential)).getD b (Da.val undef)) = setN l k x := unC_of (row_put l k x)
theorem wr_bd (x : Int) : -9223372036854775808 ≤ IntKind.i64.wrap x ∧ IntKind.i64.wrap x ≤ 9223372036854775807 := by rw [IntKind.wrap_i64]; omega
theorem stK_ok (xs : List Int) (s : Cu) : (stK xs s).ok := by
  have := belV_bd xs (n := 20) (belS xs 3 s) (by omega)
  exact ⟨wr_bd _, ⟨by show -9223372036854775808 ≤ belV xs 20 (belS xs 3 s); omega, by show belV xs 20 (belS xs 3 s) ≤ 9223372036854775807; omega⟩, wr_bd _, wr_bd _⟩
theorem stH_bd (xs : List Int) (n : Nat) (s : Cu) : -9223372036854775808 ≤ stH xs n s ∧ stH xs n s ≤ 9223372036854775807 := wr_bd _
theorem row_oneK (x : Fx.KeyStore) : RowOf 4 dasKeyStore zKeyStore 1 (fun i j => Da.val ([vI x.Vendor, vI x.Serial, vI x.Seed, vI x.Counter].getD (i * 4 + j) undef)) [x] := row_one fun j hj => by
  match j, hj with
  | 0, _ => rfl
  | 1, _ => rfl
  | 2, _ => rfl
  | 3, _ => rfl
theorem passA_t {xs : List Int} {z : ByteArray} {y : AS} (e : addB y.a (passH xs y) (passP xs z y) = true) : passA xs z y = ⟨y.n - 1, ⟨(addX y.a (passH xs y) (passP xs z y)).Id, (addX y.a (passH xs y) (passP xs z y)).Minimum, setN (addX y.a (passH xs y) (passP xs z y)).Credentials (findC (addX y.a (passH xs y) (passP xs z y)).Credentials (passH xs y)).toNat (belV xs 5 (passC xs z y))⟩, y.l ++ [stK xs y.s], belS xs 5 (passC xs z y)⟩ := by unfold passA; rw [e]
theorem passA_f {xs : List Int} {z : ByteArray} {y : AS} (e : addB y.a (passH xs y) (passP xs z y) = false) : passA xs z y = ⟨y.n - 1, y.a, y.l, passC xs z y⟩ := by unfold passA; rw [e]
theorem pass_t {xs : List Int} {z : ByteArray} {y : AS} (e : (belV xs 5 (passA xs z y).s == 0) = true) : pass xs z y = ⟨y.n - 1, cutX (passA xs z y).a (passH xs y), (passA xs z y).l, belS xs 5 (passA xs z y).s⟩ := by unfold pass; rw [e]
theorem pass_f {xs : List Int} {z : ByteArray} {y : AS} (e : (belV xs 5 (passA xs z y).s == 0) = false) : pass xs z y = ⟨y.n - 1, (passA xs z y).a, (passA xs z y).l, belS xs 5 (passA xs z y).s⟩ := by unfold pass; rw [e]
theorem passA_is {xs : List Int} {z : ByteArray} {y : AS} (k : OkC xs y.s) : OkC xs (passA xs z y).s ∧ (passA xs z y).l.length ≤ y.l.length + 1 ∧ (passA xs z y).a.Credentials.length ≤ y.a.Credentials.length + 1 := by
  have kc : OkC xs (passC xs z y) := belS_ok (belS_ok (storeS_ok k))
  cases e : addB y.a (passH xs y) (passP xs z y) with
  | true =>
    rw [passA_t e]
    refine ⟨belS_ok kc, by simp, ?_⟩
    show (setN _ _ _).length ≤ _
    rw [setN_len]
    exact add_lenL _ _ _
  | false => rw [passA_f e]; exact ⟨kc, by simp, by simp⟩
theorem pass_is {xs : List Int} {z : ByteArray} {y : AS} (k : OkC xs y.s) : (pass xs z y).n = y.n - 1 ∧ OkC xs (pass xs z y).s ∧ (pass xs z y).l.length ≤ y.l.length + 1 ∧ (pass xs z y).a.Credentials.length ≤ y.a.Credentials.length + 1 := by
  obtain ⟨k1, k2, k3⟩ := passA_is (z := z) k
  cases e : (belV xs 5 (passA xs z y).s == 0) with
  | true => rw [pass_t e]; exact ⟨rfl, belS_ok k1, k2, Nat.le_trans (cut_lenL _ _) k3⟩
  | false => rw [pass_f e]; exact ⟨rfl, belS_ok k1, k2, k3⟩
theorem AcI.step {xs : List Int} {z : ByteArray} {R v : AS} (h : AcI xs z R v) (hn : 0 < v.n) : AcI xs z R (pass xs z v) := by
  obtain ⟨k0, k1, k2, k3⟩ := pass_is (z := z) h.ok
  have h1 := h.n3
  have h2 := h.l3
  have h3 := h.a3
  refine ⟨k1, by omega, by omega, by omega, ?_⟩
  have hr := h.run
  obtain ⟨m, hm⟩ : ∃ m, v.n = m + 1 := ⟨v.n - 1, by omega⟩
  rw [hm] at hr k0
  rw [k0, Nat.add_sub_cancel]
  exact hr
theorem as0_is {xs : List Int} {z : ByteArray} {s : Cu} (k : OkC xs s) : AcI xs z (acc xs z s) (as0 xs s) := by
  have hb := belV_bd xs (n := 4) (belS xs 3 (belS xs 5 s)) (by omega)
  have hn : (as0 xs s).n ≤ 3 := by show (belV xs 4 (belS xs 3 (belS xs 5 s))).toNat ≤ 3; omega
  exact ⟨belS_ok (belS_ok (belS_ok k)), hn, by show 0 + (as0 xs s).n ≤ 3; omega, by show 0 + (as0 xs s).n ≤ 3; omega, rfl⟩
theorem conSite (x : Fx.KeyStore) (z : ByteArray) (h : Int) (ho : x.ok) (hz : z.size ≤ 16000000) (h0 : -9223372036854775808 ≤ h ∧ h ≤ 9223372036854775807) : FnCon Tryz.prog 17 [(true, dasKeyStore x), (false, [.val (.string z)]), iV h] [iV (C10.pubS x z h)] :=
  con_of_plain (con_enters Tryz.func17 (by kernel_rfl) (by kernel_rfl)) rfl fun w v0 k0 => by
    obtain ⟨us, v1, rfl, k1, k2⟩ := of_aggA (dasKeyStore_dc x) k0
    obtain ⟨v2, rfl, k3⟩ := of_valA k2
    obtain ⟨v3, rfl, k4⟩ := of_valA k3
    obtain rfl := of_nil k4
    exact C10.specPubS w x z h us k1 ho hz h0.1 h0.2
theorem acc_row {f : FuncId} {i m : Int} {d : Da} {rest rs : List Grp} {l : List Fx.Credential} (h : FnCon Tryz.prog f ((true, dasAccount ⟨i, m, l⟩) :: rest) rs) (hd : DaEq d (rowR 49 4 dasCredential zCredential l)) : FnCon Tryz.prog f ((true, [dI i, dI m, d]) :: rest) rs :=
  con_at h (by simp [flatG, dasAccount, hd.dc]) rfl
theorem cust_new0 {old : World → Prop} {id : Nat} {o : Oper} {x y : Operand} {n m : Int} (ho : o.op = .build 26 #[(0, x), (1, y)]) :
    Cust Tryz.prog old id o [.one (.val (.int .i64 n)), .one (.val (.int .i64 m))] [] ⟨[], .agg [.val (.int .i64 n), .val (.int .i64 m), .own id], [(id, .own (rowR 49 4 dasCredential zCredential ([] : List Fx.Credential)))]⟩ :=
  cust_val fun W0 obs ρ a w hold hm hv hos hun hne => by
    have hops : o.op.operands.toList = [x, y] := by rw [ho]; simp [Op.operands]
    rw [hops] at hv
    have e := vs_plain (us := [.int .i64 n, .int .i64 m]) rfl hv
    have e1 : a.eval x = .int .i64 n := (List.cons.inj e).1
    have e2 : a.eval y = .int .i64 m := (List.cons.inj (List.cons.inj e).2).1
    refine ⟨.agg #[.int .i64 n, .int .i64 m, .slice none 0 0], w, ?_, ?_⟩
    · have hb : Program.built Tryz.prog 26 [(0, .int .i64 n), (1, .int .i64 m)] = some #[.int .i64 n, .int .i64 m, .slice none 0 0] := by kernel_rfl
      unfold execOp
      rw [ho]
      have hq : (#[(0, x), (1, y)].map fun (i, x) => (i, a.eval x)) = #[(0, .int .i64 n), (1, .int .i64 m)] := by simp [e1, e2]
      simp only [hq, Sem.run_bind, run_build w 26 #[(0, .int .i64 n), (1, .int .i64 m)] _ hb, Result.andThen_ok]
      rfl
    · have hnil : Owns w W0.heap.size (rowR 49 4 dasCredential zCredential ([] : List Fx.Credential)).dc (.slice none 0 0) [] := by
        rw [rowR_dc 49 zCredential Credential.len dasCredential_dc]
        simp only [Owns]
        exact ⟨[], [], Ow.At.of (World.ownsRow_nil _ _ _ _), ⟨rfl, rfl⟩, rfl⟩
      obtain ⟨ρ', h1, h2, h3⟩ := post_new (l := []) hm (hun id (Nat.le_refl _) (by omega)) (Below.refl _ _) (v := .slice none 0 0) (bs := []) rfl (by simp) (by simp) (ob_own hnil)
      exact ⟨ρ', h1, h2, _, rfl, _, _, rfl, rfl, _, _, rfl, rfl, _, _, rfl, h3, rfl⟩
noncomputable def qzc (n r i : Nat) := Cust Tryz.prog (fun x => True) n (opOf (Tryz.f15.body.getD Code.skip) r i)
noncomputable def qzf (k : Nat) := AV.one (Sc.val (Value.func (Fn.func k) { toList := [] } { toList := [] }))
noncomputable def qz0 (xs : List Int) (y : AS) := IntKind.i64.wrap ((↑y.l.length : Int) + IntKind.i64.wrap (IntKind.i64.wrap (2 * belV xs 2 (belS xs 9 (storeS xs y.s))) * (↑y.l.length : Int)))
noncomputable def qz1 (a : Fx.Account) := ({ Id := a.Id, Minimum := a.Minimum, Credentials := unC a.Credentials.length fun i j => (dasCredential (a.Credentials.getD i zCredential)).getD j (Da.val undef) } : Fx.Account)
noncomputable def qz2 (xs : List Int) (s : Cu) := ({ Vendor := (store0 xs s).Vendor, Serial := (store0 xs s).Serial, Seed := (store0 xs s).Seed, Counter := IntKind.i64.wrap (3 + belV xs 9 (storeS xs s)) } : Fx.KeyStore)
noncomputable def qz3 (xs : List Int) (z : ByteArray) (y : AS) := C10.pubS (qz2 xs y.s) z (qz0 xs y)
noncomputable def qz4 (xs : List Int) (z : ByteArray) (y : AS) := addX (qz1 y.a) (qz0 xs y) (qz3 xs z y)
noncomputable def qzD (l : List Fx.Credential) := Da.row 49 4 l.length fun i j => (dasCredential (l.getD i zCredential)).getD j (Da.val undef)
noncomputable def qzE (l : List Fx.KeyStore) := Da.row 52 4 l.length fun i j => (dasKeyStore (l.getD i zKeyStore)).getD j (Da.val undef)
theorem lnAcc (xs : List Int) (z : ByteArray) (s : Cu) (k : OkC xs s) (hz : z.size ≤ 16000000) : E22.LentCon Tryz.prog 15 72 (cur xs s) ([.string z]) ([(true, dasAccount (accA xs z s)), (false, [rowR 52 4 dasKeyStore zKeyStore (accL xs z s)])]) (cur xs (accS xs z s)) := by
  refine E22.lent_go (p := fun R => ((qzc 20008 1 1 [qzf 16, AV.one (Sc.ptr 1 0), AV.one (Sc.val (vI 5))] [Ob.var 72 (cur xs s)] { need := [], val := AV.one (Sc.val (vI (belV xs 5 s))), mem := [(1, Ob.var 72 (cur xs (belS xs 5 s)))] }) ∧ ((qzc 20024 1 3 [qzf 16, AV.one (Sc.ptr 1 0), AV.one (Sc.val (vI 3))] [Ob.var 72 (cur xs (belS xs 5 s))] { need := [], val := AV.one (Sc.val (vI (belV xs 3 (belS xs 5 s)))), mem := [(1, Ob.var 72 (cur xs (belS xs 3 (belS xs 5 s))))] }) ∧ ((qzc 20040 1 5 [AV.one (Sc.val (vI (belV xs 5 s))), AV.one (Sc.val (vI (IntKind.i64.wrap (1 + belV xs 3 (belS xs 5 s)))))] [] { need := [], val := AV.agg [Sc.val (vI (belV xs 5 s)), Sc.val (vI (IntKind.i64.wrap (1 + belV xs 3 (belS xs 5 s)))), Sc.own 20040], mem := [(20040, Ob.own (Da.row 49 4 0 fun i j => (dasCredential ([].getD i zCredential)).getD j (Da.val undef)))] }) ∧ ((qzc 40008 3 1 [qzf 16, AV.one (Sc.ptr 1 0), AV.one (Sc.val (vI 4))] [Ob.var 72 (cur xs (belS xs 3 (belS xs 5 s)))] { need := [], val := AV.one (Sc.val (vI (belV xs 4 (belS xs 3 (belS xs 5 s))))), mem := [(1, Ob.var 72 (cur xs (belS xs 4 (belS xs 3 (belS xs 5 s)))))] }) ∧ ((∃ x0 : AcX xs z (acc xs z s), (((some 1 = some 1 ∧ 0 = 0) ∧ (Value.string z = Value.string z ∧ ((some 10000 = some 10000 ∧ 0 = 0) ∧ ((some 20048 = some 20048 ∧ 0 = 0) ∧ (some 30000 = some 30000 ∧ (vI (belV xs 4 (belS xs 3 (belS xs 5 s))) = vI (↑x0.1.n : Int) ∧ True)))))) ∧ ((72 = 72 ∧ ((DaEq (Da.row 5 1 xs.length fun i x => Da.val (Value.int IntKind.u8 (xs.getD i 0))) (Da.row 5 1 xs.length fun i x => Da.val (Value.int IntKind.u8 (xs.getD i 0)))) ∧ (vI (belS xs 4 (belS xs 3 (belS xs 5 s))).i = vI x0.1.s.i ∧ vI (belS xs 4 (belS xs 3 (belS xs 5 s))).h = vI x0.1.s.h))) ∧ (AbsLe R R ∧ ((26 = 26 ∧ (vI 0 = vI 0 ∧ (vI 0 = vI 0 ∧ Value.slice none 0 0 = Value.slice none 0 0))) ∧ ((26 = 26 ∧ (vI (belV xs 5 s) = vI x0.1.a.Id ∧ (vI (IntKind.i64.wrap (1 + belV xs 3 (belS xs 5 s))) = vI x0.1.a.Minimum ∧ some 20040 = some 20040))) ∧ ((DaEq (Da.row 49 4 0 fun i j => (dasCredential ([].getD i zCredential)).getD j (Da.val undef)) (rowR 49 4 dasCredential zCredential x0.1.a.Credentials)) ∧ ((DaEq (Da.row 52 4 0 fun i j => Da.val ([].getD (i * 4 + j) undef)) (rowR 52 4 dasKeyStore zKeyStore x0.1.l)) ∧ True)))))))) ∧ (∀ v : AcX xs z (acc xs z s), bcase (decide ((↑v.1.n : Int) > 0)) ((qzc 70008 6 1 [qzf 34, AV.one (Sc.ptr 1 0)] [Ob.var 72 (cur xs v.1.s)] { need := [], val := AV.agg [Sc.val (vI (store0 xs v.1.s).Vendor), Sc.val (vI (store0 xs v.1.s).Serial), Sc.val (vI (store0 xs v.1.s).Seed), Sc.val (vI (store0 xs v.1.s).Counter)], mem := [(1, Ob.var 72 (cur xs (storeS xs v.1.s)))] }) ∧ ((qzc 80008 7 1 [qzf 16, AV.one (Sc.ptr 1 0), AV.one (Sc.val (vI 9))] [Ob.var 72 (cur xs (storeS xs v.1.s))] { need := [], val := AV.one (Sc.val (vI (belV xs 9 (storeS xs v.1.s)))), mem := [(1, Ob.var 72 (cur xs (belS xs 9 (storeS xs v.1.s))))] }) ∧ ((qzc 90024 8 3 [qzf 16, AV.one (Sc.ptr 1 0), AV.one (Sc.val (vI 2))] [Ob.var 72 (cur xs (belS xs 9 (storeS xs v.1.s)))] { need := [], val := AV.one (Sc.val (vI (belV xs 2 (belS xs 9 (storeS xs v.1.s))))), mem := [(1, Ob.var 72 (cur xs (belS xs 2 (belS xs 9 (storeS xs v.1.s)))))] }) ∧ (FnCon Tryz.prog 17 [(true, [dI ((store0 xs v.1.s).Vendor), dI ((store0 xs v.1.s).Serial), dI ((store0 xs v.1.s).Seed), dI ((IntKind.i64.wrap (3 + belV xs 9 (storeS xs v.1.s))))]), (false, [dS (z)]), (false, [dI ((qz0 xs v.1))])] [(false, [dI ((qz3 xs z v.1))])] ∧ ((FnCon Tryz.prog 35 [(true, [dI (v.1.a.Id), dI (v.1.a.Minimum), rowR 49 4 dasCredential zCredential v.1.a.Credentials]), (false, [dI ((qz0 xs v.1))]), (false, [dI ((qz3 xs z v.1))])] [(true, dasAccount (qz4 xs z v.1)), (false, [dB ((addB (qz1 v.1.a) (qz0 xs v.1) (qz3 xs z v.1)))])]) ∧ bcase (addB (qz1 v.1.a) (qz0 xs v.1) (qz3 xs z v.1)) ((FnCon Tryz.prog 26 [(true, [dI ((qz4 xs z v.1).Id), dI ((qz4 xs z v.1).Minimum), qzD ((qz4 xs z v.1).Credentials)]), (false, [dI ((qz0 xs v.1))])] [(false, [dI ((findC (unC (qz4 xs z v.1).Credentials.length fun i j => (dasCredential ((qz4 xs z v.1).Credentials.getD i zCredential)).getD j (Da.val undef)) (qz0 xs v.1)))])]) ∧ ((qzc 130032 12 4 [qzf 16, AV.one (Sc.ptr 1 0), AV.one (Sc.val (vI 5))] [Ob.var 72 (cur xs (belS xs 2 (belS xs 9 (storeS xs v.1.s))))] { need := [], val := AV.one (Sc.val (vI (belV xs 5 (belS xs 2 (belS xs 9 (storeS xs v.1.s)))))), mem := [(1, Ob.var 72 (cur xs (belS xs 5 (belS xs 2 (belS xs 9 (storeS xs v.1.s))))))] }) ∧ (((0 ≤ findC (unC (qz4 xs z v.1).Credentials.length fun i j => (dasCredential ((qz4 xs z v.1).Credentials.getD i zCredential)).getD j (Da.val undef)) (qz0 xs v.1)) ∧ (findC (unC (qz4 xs z v.1).Credentials.length fun i j => (dasCredential ((qz4 xs z v.1).Credentials.getD i zCredential)).getD j (Da.val undef)) (qz0 xs v.1) < (↑(qz4 xs z v.1).Credentials.length : Int))) ∧ ((E9.PlainEl 1 4 fun i j => Da.val ([vI (store0 xs v.1.s).Vendor, vI (store0 xs v.1.s).Serial, vI (store0 xs v.1.s).Seed, vI (IntKind.i64.wrap (3 + belV xs 9 (storeS xs v.1.s)))].getD (i * 4 + j) undef)) ∧ (v.1.l.length + 1 ≤ 1000000000000 ∧ ((v.1.l.length + 1) * 32 ≤ 140737488355328 ∧ ((qzc 160008 15 1 [qzf 19, AV.one (Sc.ptr 1 0), AV.one (Sc.val (vI 5))] [Ob.var 72 (cur xs (belS xs 5 (belS xs 2 (belS xs 9 (storeS xs v.1.s)))))] { need := [], val := AV.one (Sc.val (Value.bool (belV xs 5 (belS xs 5 (belS xs 2 (belS xs 9 (storeS xs v.1.s)))) == 0))), mem := [(1, Ob.var 72 (cur xs (belS xs 5 (belS xs 5 (belS xs 2 (belS xs 9 (storeS xs v.1.s)))))))] }) ∧ bcase (belV xs 5 (belS xs 5 (belS xs 2 (belS xs 9 (storeS xs v.1.s)))) == 0) ((FnCon Tryz.prog 36
  [(true,
      [dI ((qz4 xs z v.1).Id), dI ((qz4 xs z v.1).Minimum),
        Da.row 49 4 (qz4 xs z v.1).Credentials.length fun a b =>
          match
            match a.beq (findC (unC (qz4 xs z v.1).Credentials.length fun i j => (dasCredential ((qz4 xs z v.1).Credentials.getD i zCredential)).getD j (Da.val undef)) (qz0 xs v.1)).toNat with
            | false => false
            | true => b.beq 2 with
          | true => dI ((belV xs 5 (belS xs 2 (belS xs 9 (storeS xs v.1.s)))))
          | false => (dasCredential ((qz4 xs z v.1).Credentials.getD a zCredential)).getD b (Da.val undef)]),
    (false, [dI ((qz0 xs v.1))])]
  [(true,
      dasAccount
        (cutX
          { Id := (qz4 xs z v.1).Id, Minimum := (qz4 xs z v.1).Minimum,
            Credentials :=
              unC (qz4 xs z v.1).Credentials.length fun a b =>
                match
                  match a.beq (findC (unC (qz4 xs z v.1).Credentials.length fun i j => (dasCredential ((qz4 xs z v.1).Credentials.getD i zCredential)).getD j (Da.val undef)) (qz0 xs v.1)).toNat with
                  | false => false
                  | true => b.beq 2 with
                | true => dI ((belV xs 5 (belS xs 2 (belS xs 9 (storeS xs v.1.s)))))
                | false => (dasCredential ((qz4 xs z v.1).Credentials.getD a zCredential)).getD b (Da.val undef) }
          (qz0 xs v.1))),
    (false,
      [Da.val
          (Value.bool
            (cutB
              { Id := (qz4 xs z v.1).Id, Minimum := (qz4 xs z v.1).Minimum,
                Credentials :=
                  unC (qz4 xs z v.1).Credentials.length fun a b =>
                    match
                      match a.beq (findC (unC (qz4 xs z v.1).Credentials.length fun i j => (dasCredential ((qz4 xs z v.1).Credentials.getD i zCredential)).getD j (Da.val undef)) (qz0 xs v.1)).toNat with
                      | false => false
                      | true => b.beq 2 with
                    | true => dI ((belV xs 5 (belS xs 2 (belS xs 9 (storeS xs v.1.s)))))
                    | false => (dasCredential ((qz4 xs z v.1).Credentials.getD a zCredential)).getD b (Da.val undef) }
              (qz0 xs v.1)))])]) ∧ (∃ v' : AcX xs z (acc xs z s), (v'.val.1 < v.val.1 ∧ (((some 1 = some 1 ∧ 0 = 0) ∧ (Value.string z = Value.string z ∧ ((some 10000 = some 10000 ∧ 0 = 0) ∧ ((some 20048 = some 20048 ∧ 0 = 0) ∧ (some 140024 = some 140024 ∧ (vI (IntKind.i64.wrap ((↑v.1.n : Int) - 1)) = vI (↑v'.1.n : Int) ∧ True)))))) ∧ ((72 = 72 ∧ ((DaEq (Da.row 5 1 xs.length fun i x => Da.val (Value.int IntKind.u8 (xs.getD i 0))) (Da.row 5 1 xs.length fun i x => Da.val (Value.int IntKind.u8 (xs.getD i 0)))) ∧ (vI (belS xs 5 (belS xs 5 (belS xs 2 (belS xs 9 (storeS xs v.1.s))))).i = vI v'.1.s.i ∧ vI (belS xs 5 (belS xs 5 (belS xs 2 (belS xs 9 (storeS xs v.1.s))))).h = vI v'.1.s.h))) ∧ (AbsLe R R ∧ ((26 = 26 ∧ (vI 0 = vI 0 ∧ (vI 0 = vI 0 ∧ Value.slice none 0 0 = Value.slice none 0 0))) ∧ ((26 = 26 ∧ ((Value.int IntKind.i64
    (cutX
        { Id := (qz4 xs z v.1).Id, Minimum := (qz4 xs z v.1).Minimum,
          Credentials :=
            unC (qz4 xs z v.1).Credentials.length fun a b =>
              match
                match a.beq (findC (unC (qz4 xs z v.1).Credentials.length fun i j => (dasCredential ((qz4 xs z v.1).Credentials.getD i zCredential)).getD j (Da.val undef)) (qz0 xs v.1)).toNat with
                | false => false
                | true => b.beq 2 with
              | true => dI ((belV xs 5 (belS xs 2 (belS xs 9 (storeS xs v.1.s)))))
              | false => (dasCredential ((qz4 xs z v.1).Credentials.getD a zCredential)).getD b (Da.val undef) }
        (qz0 xs v.1)).Id =
  vI v'.1.a.Id) ∧ ((Value.int IntKind.i64
    (cutX
        { Id := (qz4 xs z v.1).Id, Minimum := (qz4 xs z v.1).Minimum,
          Credentials :=
            unC (qz4 xs z v.1).Credentials.length fun a b =>
              match
                match a.beq (findC (unC (qz4 xs z v.1).Credentials.length fun i j => (dasCredential ((qz4 xs z v.1).Credentials.getD i zCredential)).getD j (Da.val undef)) (qz0 xs v.1)).toNat with
                | false => false
                | true => b.beq 2 with
              | true => dI ((belV xs 5 (belS xs 2 (belS xs 9 (storeS xs v.1.s)))))
              | false => (dasCredential ((qz4 xs z v.1).Credentials.getD a zCredential)).getD b (Da.val undef) }
        (qz0 xs v.1)).Minimum =
  vI v'.1.a.Minimum) ∧ some 170016 = some 170016))) ∧ ((DaEq
  (Da.row 49 4
    (cutX
          { Id := (qz4 xs z v.1).Id, Minimum := (qz4 xs z v.1).Minimum,
            Credentials :=
              unC (qz4 xs z v.1).Credentials.length fun a b =>
                match
                  match a.beq (findC (unC (qz4 xs z v.1).Credentials.length fun i j => (dasCredential ((qz4 xs z v.1).Credentials.getD i zCredential)).getD j (Da.val undef)) (qz0 xs v.1)).toNat with
                  | false => false
                  | true => b.beq 2 with
                | true => dI ((belV xs 5 (belS xs 2 (belS xs 9 (storeS xs v.1.s)))))
                | false => (dasCredential ((qz4 xs z v.1).Credentials.getD a zCredential)).getD b (Da.val undef) }
          (qz0 xs v.1)).Credentials.length
    fun i j =>
    (dasCredential
          ((cutX
                  { Id := (qz4 xs z v.1).Id, Minimum := (qz4 xs z v.1).Minimum,
                    Credentials :=
                      unC (qz4 xs z v.1).Credentials.length fun a b =>
                        match
                          match a.beq (findC (unC (qz4 xs z v.1).Credentials.length fun i j => (dasCredential ((qz4 xs z v.1).Credentials.getD i zCredential)).getD j (Da.val undef)) (qz0 xs v.1)).toNat with
                          | false => false
                          | true => b.beq 2 with
                        | true => dI ((belV xs 5 (belS xs 2 (belS xs 9 (storeS xs v.1.s)))))
                        | false => (dasCredential ((qz4 xs z v.1).Credentials.getD a zCredential)).getD b (Da.val undef) }
                  (qz0 xs v.1)).Credentials.getD
            i zCredential)).getD
      j (Da.val undef))
  (rowR 49 4 dasCredential zCredential v'.1.a.Credentials)) ∧ ((DaEq
  (Da.row 52 4 (v.1.l.length + 1) fun i j =>
    match i.succ.ble v.1.l.length with
    | true => (dasKeyStore (v.1.l.getD i zKeyStore)).getD j (Da.val undef)
    | false => Da.val ([vI (store0 xs v.1.s).Vendor, vI (store0 xs v.1.s).Serial, vI (store0 xs v.1.s).Seed, vI (IntKind.i64.wrap (3 + belV xs 9 (storeS xs v.1.s)))].getD ((i - v.1.l.length) * 4 + j) undef))
  (rowR 52 4 dasKeyStore zKeyStore v'.1.l)) ∧ True)))))))))) (∃ v' : AcX xs z (acc xs z s), (v'.val.1 < v.val.1 ∧ (((some 1 = some 1 ∧ 0 = 0) ∧ (Value.string z = Value.string z ∧ ((some 10000 = some 10000 ∧ 0 = 0) ∧ ((some 20048 = some 20048 ∧ 0 = 0) ∧ (some 140024 = some 140024 ∧ (vI (IntKind.i64.wrap ((↑v.1.n : Int) - 1)) = vI (↑v'.1.n : Int) ∧ True)))))) ∧ ((72 = 72 ∧ ((DaEq (Da.row 5 1 xs.length fun i x => Da.val (Value.int IntKind.u8 (xs.getD i 0))) (Da.row 5 1 xs.length fun i x => Da.val (Value.int IntKind.u8 (xs.getD i 0)))) ∧ (vI (belS xs 5 (belS xs 5 (belS xs 2 (belS xs 9 (storeS xs v.1.s))))).i = vI v'.1.s.i ∧ vI (belS xs 5 (belS xs 5 (belS xs 2 (belS xs 9 (storeS xs v.1.s))))).h = vI v'.1.s.h))) ∧ (AbsLe R R ∧ ((26 = 26 ∧ (vI 0 = vI 0 ∧ (vI 0 = vI 0 ∧ Value.slice none 0 0 = Value.slice none 0 0))) ∧ ((26 = 26 ∧ ((vI (qz4 xs z v.1).Id = vI v'.1.a.Id) ∧ ((vI (qz4 xs z v.1).Minimum = vI v'.1.a.Minimum) ∧ some 100048 = some 100048))) ∧ ((DaEq
  (Da.row 49 4 (qz4 xs z v.1).Credentials.length fun a b =>
    match
      match a.beq (findC (unC (qz4 xs z v.1).Credentials.length fun i j => (dasCredential ((qz4 xs z v.1).Credentials.getD i zCredential)).getD j (Da.val undef)) (qz0 xs v.1)).toNat with
      | false => false
      | true => b.beq 2 with
    | true => dI ((belV xs 5 (belS xs 2 (belS xs 9 (storeS xs v.1.s)))))
    | false => (dasCredential ((qz4 xs z v.1).Credentials.getD a zCredential)).getD b (Da.val undef))
  (rowR 49 4 dasCredential zCredential v'.1.a.Credentials)) ∧ ((DaEq
  (Da.row 52 4 (v.1.l.length + 1) fun i j =>
    match i.succ.ble v.1.l.length with
    | true => (dasKeyStore (v.1.l.getD i zKeyStore)).getD j (Da.val undef)
    | false => Da.val ([vI (store0 xs v.1.s).Vendor, vI (store0 xs v.1.s).Serial, vI (store0 xs v.1.s).Seed, vI (IntKind.i64.wrap (3 + belV xs 9 (storeS xs v.1.s)))].getD ((i - v.1.l.length) * 4 + j) undef))
  (rowR 52 4 dasKeyStore zKeyStore v'.1.l)) ∧ True)))))))))))))))) ((qzc 160008 15 1 [qzf 19, AV.one (Sc.ptr 1 0), AV.one (Sc.val (vI 5))] [Ob.var 72 (cur xs (belS xs 2 (belS xs 9 (storeS xs v.1.s))))] { need := [], val := AV.one (Sc.val (Value.bool (belV xs 5 (belS xs 2 (belS xs 9 (storeS xs v.1.s))) == 0))), mem := [(1, Ob.var 72 (cur xs (belS xs 5 (belS xs 2 (belS xs 9 (storeS xs v.1.s))))))] }) ∧ bcase (belV xs 5 (belS xs 2 (belS xs 9 (storeS xs v.1.s))) == 0) ((FnCon Tryz.prog 36 [(true, [dI (v.1.a.Id), dI (v.1.a.Minimum), rowR 49 4 dasCredential zCredential v.1.a.Credentials]), (false, [dI ((qz0 xs v.1))])] [(true, dasAccount (cutX (qz1 v.1.a) (qz0 xs v.1))), (false, [dB ((cutB (qz1 v.1.a) (qz0 xs v.1)))])]) ∧ (∃ v' : AcX xs z (acc xs z s), (v'.val.1 < v.val.1 ∧ (((some 1 = some 1 ∧ 0 = 0) ∧ (Value.string z = Value.string z ∧ ((some 10000 = some 10000 ∧ 0 = 0) ∧ ((some 20048 = some 20048 ∧ 0 = 0) ∧ (some 8 = some 8 ∧ (vI (IntKind.i64.wrap ((↑v.1.n : Int) - 1)) = vI (↑v'.1.n : Int) ∧ True)))))) ∧ ((72 = 72 ∧ ((DaEq (Da.row 5 1 xs.length fun i x => Da.val (Value.int IntKind.u8 (xs.getD i 0))) (Da.row 5 1 xs.length fun i x => Da.val (Value.int IntKind.u8 (xs.getD i 0)))) ∧ (vI (belS xs 5 (belS xs 2 (belS xs 9 (storeS xs v.1.s)))).i = vI v'.1.s.i ∧ vI (belS xs 5 (belS xs 2 (belS xs 9 (storeS xs v.1.s)))).h = vI v'.1.s.h))) ∧ (AbsLe R R ∧ ((26 = 26 ∧ (vI 0 = vI 0 ∧ (vI 0 = vI 0 ∧ Value.slice none 0 0 = Value.slice none 0 0))) ∧ ((26 = 26 ∧ ((vI (cutX (qz1 v.1.a) (qz0 xs v.1)).Id = vI v'.1.a.Id) ∧ ((vI (cutX (qz1 v.1.a) (qz0 xs v.1)).Minimum = vI v'.1.a.Minimum) ∧ some 170016 = some 170016))) ∧ ((DaEq (Da.row 49 4 (cutX (qz1 v.1.a) (qz0 xs v.1)).Credentials.length fun i j => (dasCredential ((cutX (qz1 v.1.a) (qz0 xs v.1)).Credentials.getD i zCredential)).getD j (Da.val undef)) (rowR 49 4 dasCredential zCredential v'.1.a.Credentials)) ∧ ((DaEq (rowR 52 4 dasKeyStore zKeyStore v.1.l) (rowR 52 4 dasKeyStore zKeyStore v'.1.l)) ∧ True)))))))))) (∃ v' : AcX xs z (acc xs z s), (v'.val.1 < v.val.1 ∧ (((some 1 = some 1 ∧ 0 = 0) ∧ (Value.string z = Value.string z ∧ ((some 10000 = some 10000 ∧ 0 = 0) ∧ ((some 20048 = some 20048 ∧ 0 = 0) ∧ (some 8 = some 8 ∧ (vI (IntKind.i64.wrap ((↑v.1.n : Int) - 1)) = vI (↑v'.1.n : Int) ∧ True)))))) ∧ ((72 = 72 ∧ ((DaEq (Da.row 5 1 xs.length fun i x => Da.val (Value.int IntKind.u8 (xs.getD i 0))) (Da.row 5 1 xs.length fun i x => Da.val (Value.int IntKind.u8 (xs.getD i 0)))) ∧ (vI (belS xs 5 (belS xs 2 (belS xs 9 (storeS xs v.1.s)))).i = vI v'.1.s.i ∧ vI (belS xs 5 (belS xs 2 (belS xs 9 (storeS xs v.1.s)))).h = vI v'.1.s.h))) ∧ (AbsLe R R ∧ ((26 = 26 ∧ (vI 0 = vI 0 ∧ (vI 0 = vI 0 ∧ Value.slice none 0 0 = Value.slice none 0 0))) ∧ ((26 = 26 ∧ (vI v.1.a.Id = vI v'.1.a.Id ∧ (vI v.1.a.Minimum = vI v'.1.a.Minimum ∧ some 7 = some 7))) ∧ ((DaEq (rowR 49 4 dasCredential zCredential v.1.a.Credentials) (rowR 49 4 dasCredential zCredential v'.1.a.Credentials)) ∧ ((DaEq (rowR 52 4 dasKeyStore zKeyStore v.1.l) (rowR 52 4 dasKeyStore zKeyStore v'.1.l)) ∧ True))))))))))))))) (((true = true ∧ (vI v.1.a.Id = vI (accA xs z s).Id ∧ (vI v.1.a.Minimum = vI (accA xs z s).Minimum ∧ (DaEq (rowR 49 4 dasCredential zCredential v.1.a.Credentials) (qzD ((accA xs z s).Credentials)))))) ∧ (false = false ∧ (DaEq (rowR 52 4 dasKeyStore zKeyStore v.1.l) (qzE ((accL xs z s)))))) ∧ ((72 = 72 ∧ ((Sc.old (Da.row 5 1 xs.length fun i x => Da.val (Value.int IntKind.u8 (xs.getD i 0))) = Sc.old (Da.row 5 1 xs.length fun i x => Da.val (Value.int IntKind.u8 (xs.getD i 0)))) ∧ (vI v.1.s.i = vI (accS xs z s).i ∧ vI v.1.s.h = vI (accS xs z s).h))) ∧ R = R))))))))) (⟨accCall, fun id vs os => match id with | 20008 => (match os with | .var _ [_, .val (.int _ i), .val (.int _ h)] :: _ => some ⟨[], .one (.val (.int .i64 (belV xs 5 ⟨i, h⟩))), [(1, .var 72 (cur xs (belS xs 5 ⟨i, h⟩)))]⟩ | _ => none) | 20024 => (match os with | .var _ [_, .val (.int _ i), .val (.int _ h)] :: _ => some ⟨[], .one (.val (.int .i64 (belV xs 3 ⟨i, h⟩))), [(1, .var 72 (cur xs (belS xs 3 ⟨i, h⟩)))]⟩ | _ => none) | 40008 => (match os with | .var _ [_, .val (.int _ i), .val (.int _ h)] :: _ => some ⟨[], .one (.val (.int .i64 (belV xs 4 ⟨i, h⟩))), [(1, .var 72 (cur xs (belS xs 4 ⟨i, h⟩)))]⟩ | _ => none) | 70008 => (match os with | .var _ [_, .val (.int _ i), .val (.int _ h)] :: _ => some ⟨[], E7.resAV (E7.grpNew 70008 [(true, dasKeyStore (store0 xs ⟨i, h⟩))]).1, (1, .var 72 (cur xs (storeS xs ⟨i, h⟩))) :: (E7.grpNew 70008 [(true, dasKeyStore (store0 xs ⟨i, h⟩))]).2.1⟩ | _ => none) | 80008 => (match os with | .var _ [_, .val (.int _ i), .val (.int _ h)] :: _ => some ⟨[], .one (.val (.int .i64 (belV xs 9 ⟨i, h⟩))), [(1, .var 72 (cur xs (belS xs 9 ⟨i, h⟩)))]⟩ | _ => none) | 90024 => (match os with | .var _ [_, .val (.int _ i), .val (.int _ h)] :: _ => some ⟨[], .one (.val (.int .i64 (belV xs 2 ⟨i, h⟩))), [(1, .var 72 (cur xs (belS xs 2 ⟨i, h⟩)))]⟩ | _ => none) | 130032 => (match os with | .var _ [_, .val (.int _ i), .val (.int _ h)] :: _ => some ⟨[], .one (.val (.int .i64 (belV xs 5 ⟨i, h⟩))), [(1, .var 72 (cur xs (belS xs 5 ⟨i, h⟩)))]⟩ | _ => none) | 160008 => (match os with | .var _ [_, .val (.int _ i), .val (.int _ h)] :: _ => some ⟨[], .one (.val (.bool (belV xs 5 ⟨i, h⟩ == 0))), [(1, .var 72 (cur xs (belS xs 5 ⟨i, h⟩)))]⟩ | _ => none) | 20040 => ((match vs with | [.one (.val (.int _ n)), .one (.val (.int _ m))] => some ⟨[], .agg [.val (.int .i64 n), .val (.int .i64 m), .own 20040], [(20040, .own (rowR 49 4 dasCredential zCredential ([] : List Fx.Credential)))]⟩ | _ => none)) | _ => none, fun _ => True⟩) (accLp xs z (acc xs z s)) Tryz.func15 (by kernel_rfl) (by kernel_rfl) (by kernel_rfl) (fun _ => trivial) rfl (by kernel_rfl) ?_
  intro R hR
  refine ⟨?g0, ?g1, ?g2, ?g3, ⟨⟨as0 xs s, as0_is k⟩, ⟨⟨⟨rfl, rfl⟩, rfl, ⟨rfl, rfl⟩, ⟨rfl, rfl⟩, rfl, congrArg _ ?g5, trivial⟩, ⟨rfl, DaEq.refl _, congrArg _ ?g6, congrArg _ ?g7⟩, ?g8, ⟨rfl, rfl, rfl, rfl⟩, ⟨rfl, congrArg _ ?g9, congrArg _ ?g10, rfl⟩, ?g11, ?g12, trivial⟩⟩, fun v => bcase_intro (fun h13 => ⟨?g14, ?g15, ?g16, ?g17, ?g18, bcase_intro (fun h19 => ⟨?g20, ?g21, ⟨?g22, ?g23⟩, ?g24, ?g25, ?g26, ?g27, bcase_intro (fun h28 => ⟨?g29, ⟨⟨pass xs z v.1, AcI.step v.2 ?wa⟩, ⟨?g31, ⟨⟨rfl, rfl⟩, rfl, ⟨rfl, rfl⟩, ⟨rfl, rfl⟩, rfl, congrArg _ ?g32, trivial⟩, ⟨rfl, DaEq.refl _, congrArg _ ?g33, congrArg _ ?g34⟩, ?g35, ⟨rfl, rfl, rfl, rfl⟩, ⟨rfl, congrArg _ ?g36, congrArg _ ?g37, rfl⟩, ?g38, ?g39, trivial⟩⟩⟩) (fun h28 => ⟨⟨pass xs z v.1, AcI.step v.2 ?wb⟩, ⟨?g41, ⟨⟨rfl, rfl⟩, rfl, ⟨rfl, rfl⟩, ⟨rfl, rfl⟩, rfl, congrArg _ ?g42, trivial⟩, ⟨rfl, DaEq.refl _, congrArg _ ?g43, congrArg _ ?g44⟩, ?g45, ⟨rfl, rfl, rfl, rfl⟩, ⟨rfl, congrArg _ ?g46, congrArg _ ?g47, rfl⟩, ?g48, ?g49, trivial⟩⟩)⟩) (fun h19 => ⟨?g50, bcase_intro (fun h51 => ⟨?g52, ⟨⟨pass xs z v.1, AcI.step v.2 ?wc⟩, ⟨?g54, ⟨⟨rfl, rfl⟩, rfl, ⟨rfl, rfl⟩, ⟨rfl, rfl⟩, rfl, congrArg _ ?g55, trivial⟩, ⟨rfl, DaEq.refl _, congrArg _ ?g56, congrArg _ ?g57⟩, ?g58, ⟨rfl, rfl, rfl, rfl⟩, ⟨rfl, congrArg _ ?g59, congrArg _ ?g60, rfl⟩, ?g61, ?g62, trivial⟩⟩⟩) (fun h51 => ⟨⟨pass xs z v.1, AcI.step v.2 ?wd⟩, ⟨?g64, ⟨⟨rfl, rfl⟩, rfl, ⟨rfl, rfl⟩, ⟨rfl, rfl⟩, rfl, congrArg _ ?g65, trivial⟩, ⟨rfl, DaEq.refl _, congrArg _ ?g66, congrArg _ ?g67⟩, ?g68, ⟨rfl, rfl, rfl, rfl⟩, ⟨rfl, congrArg _ ?g69, congrArg _ ?g70, rfl⟩, ?g71, ?g72, trivial⟩⟩)⟩)⟩) (fun h13 => ⟨⟨⟨rfl, congrArg _ ?g73, congrArg _ ?g74, ?g75⟩, rfl, ?g76⟩, ⟨rfl, rfl, congrArg _ ?g77, congrArg _ ?g78⟩, rfl⟩)⟩
  all_goals (try delta qzE qzD qz4 qz3 qz2 qz1 qz0 qzf qzc)
  all_goals ((try unfold qz3 at h13); (try unfold qz2 at h13); (try unfold qz1 at h13); (try unfold qz0 at h13); (try unfold qz3 at h19); (try unfold qz2 at h19); (try unfold qz1 at h19); (try unfold qz0 at h19); (try unfold qz3 at h28); (try unfold qz2 at h28); (try unfold qz1 at h28); (try unfold qz0 at h28); (try unfold qz3 at h51); (try unfold qz2 at h51); (try unfold qz1 at h51); (try unfold qz0 at h51))
  case g0 => exact cust_lent rfl rfl rfl rfl rfl rfl rfl rfl (lnB xs _ _ (by with_reducible repeat first | exact k | exact v.2.ok | apply belS_ok | apply storeS_ok | apply keyS_ok) (by omega)) rfl (by omega)
  case g1 => exact cust_lent rfl rfl rfl rfl rfl rfl rfl rfl (lnB xs _ _ (by with_reducible repeat first | exact k | exact v.2.ok | apply belS_ok | apply storeS_ok | apply keyS_ok) (by omega)) rfl (by omega)
  case g2 => exact cust_new0 rfl
  case g3 => exact cust_lent rfl rfl rfl rfl rfl rfl rfl rfl (lnB xs _ _ (by with_reducible repeat first | exact k | exact v.2.ok | apply belS_ok | apply storeS_ok | apply keyS_ok) (by omega)) rfl (by omega)
  case g14 => exact cust_lent rfl rfl rfl rfl rfl rfl rfl rfl (lnStore xs _ (by with_reducible repeat first | exact k | exact v.2.ok | apply belS_ok | apply storeS_ok | apply keyS_ok)) rfl (by omega)
  case g15 => exact cust_lent rfl rfl rfl rfl rfl rfl rfl rfl (lnB xs _ _ (by with_reducible repeat first | exact k | exact v.2.ok | apply belS_ok | apply storeS_ok | apply keyS_ok) (by omega)) rfl (by omega)
  case g16 => exact cust_lent rfl rfl rfl rfl rfl rfl rfl rfl (lnB xs _ _ (by with_reducible repeat first | exact k | exact v.2.ok | apply belS_ok | apply storeS_ok | apply keyS_ok) (by omega)) rfl (by omega)
  case g21 => exact cust_lent rfl rfl rfl rfl rfl rfl rfl rfl (lnB xs _ _ (by with_reducible repeat first | exact k | exact v.2.ok | apply belS_ok | apply storeS_ok | apply keyS_ok) (by omega)) rfl (by omega)
  case g27 => exact cust_lent rfl rfl rfl rfl rfl rfl rfl rfl (lnOnce xs _ _ (by with_reducible repeat first | exact k | exact v.2.ok | apply belS_ok | apply storeS_ok | apply keyS_ok) (by omega)) rfl (by omega)
  case g50 => exact cust_lent rfl rfl rfl rfl rfl rfl rfl rfl (lnOnce xs _ _ (by with_reducible repeat first | exact k | exact v.2.ok | apply belS_ok | apply storeS_ok | apply keyS_ok) (by omega)) rfl (by omega)
  case g5 => exact (Int.toNat_of_nonneg (belV_bd xs (n := 4) _ (by omega)).1).symm
  case g6 | g7 | g9 | g10 => rfl
  case g8 | g35 | g45 | g58 | g68 => exact hR
  case g11 => exact row_to row_self rfl
  case g12 => exact ⟨rfl, rfl, rfl, fun i hi => absurd hi (Nat.not_lt_zero _)⟩
  all_goals have hI := v.2
  all_goals have hn3 := hI.n3
  all_goals have hl3 := hI.l3
  all_goals have ha3 := hI.a3
  case g73 | g74 | g75 | g76 | g77 | g78 =>
    have h13 := of_decide_eq_false h13
    have h0 : v.1.n = 0 := by omega
    have hr := hI.run
    rw [h0] at hr
    have hr : v.1 = acc xs z s := hr
    first
      | exact congrArg (fun y : AS => y.a.Id) hr
      | exact congrArg (fun y : AS => y.a.Minimum) hr
      | exact congrArg (fun y : AS => y.s.i) hr
      | exact congrArg (fun y : AS => y.s.h) hr
      | exact row_to row_self (congrArg (fun y : AS => y.a.Credentials) hr)
      | exact row_to row_self (congrArg (fun y : AS => y.l) hr)
  all_goals have h13 := of_decide_eq_true h13
  case g17 => exact conSite (stK xs v.1.s) z _ (stK_ok _ _) hz (wr_bd _)
  case g18 => rw [unC_self]; exact C14s.conAdd v.1.a _ _ (by omega)
  all_goals simp only [unC_self, unC_put] at h19 ⊢
  case g24 =>
    intro i hi j hj
    obtain rfl : i = 0 := by omega
    match j, hj with
    | 0, _ => rfl
    | 1, _ => rfl
    | 2, _ => rfl
    | 3, _ => rfl
  case g25 | g26 => omega
  all_goals have hpn := (pass_is (z := z) hI.ok).1
  case g31 | g41 | g54 | g64 => show (pass xs z v.1).n < v.1.n; omega
  case g32 | g42 | g55 | g65 => show IntKind.i64.wrap ((v.1.n : Int) - 1) = ((pass xs z v.1).n : Int); rw [IntWalk.i64_in _ (by omega), hpn]; omega
  case wa | wb | wc | wd => omega
  case g52 => exact C14s.conCut v.1.a _ (by omega)
  case g56 | g57 | g59 | g60 | g61 | g62 | g66 | g67 | g69 | g70 | g71 | g72 =>
    have h19 : addB v.1.a (passH xs v.1) (passP xs z v.1) = false := h19
    have eA := passA_f h19
    have h5 := (congrArg (fun y : AS => belV xs 5 y.s == 0) eA).trans h51
    first
      | have eP := pass_t h5
      | have eP := pass_f h5
    rw [eA] at eP
    first
      | exact (congrArg (fun y : AS => y.a.Id) eP).symm
      | exact (congrArg (fun y : AS => y.a.Minimum) eP).symm
      | exact (congrArg (fun y : AS => y.s.i) eP).symm
      | exact (congrArg (fun y : AS => y.s.h) eP).symm
      | exact row_to row_self (congrArg (fun y : AS => y.a.Credentials) eP).symm
      | exact row_to row_self (congrArg (fun y : AS => y.l) eP).symm
  all_goals
    have h19 : addB v.1.a (passH xs v.1) (passP xs z v.1) = true := h19
    have hfa := find_add h19
    have hla := len_add h19
    have hck := cnt_le v.1.a.Credentials (passH xs v.1)
  case g20 => exact C14s.conFnd (addX v.1.a (passH xs v.1) (passP xs z v.1)) _ (by omega)
  case g22 => show 0 ≤ findC (addX v.1.a (passH xs v.1) (passP xs z v.1)).Credentials (passH xs v.1); omega
  case g23 => show findC (addX v.1.a (passH xs v.1) (passP xs z v.1)).Credentials (passH xs v.1) < ((addX v.1.a (passH xs v.1) (passP xs z v.1)).Credentials.length : Int); omega
  case g29 => exact acc_row (C14s.conCut ⟨(addX v.1.a (passH xs v.1) (passP xs z v.1)).Id, (addX v.1.a (passH xs v.1) (passP xs z v.1)).Minimum, setN (addX v.1.a (passH xs v.1) (passP xs z v.1)).Credentials (findC (addX v.1.a (passH xs v.1) (passP xs z v.1)).Credentials (passH xs v.1)).toNat (belV xs 5 (passC xs z v.1))⟩ (passH xs v.1) (by show (setN _ _ _).length ≤ _; rw [setN_len]; omega)) (row_to (row_put _ _ _) rfl)
  all_goals
    have eA := passA_t h19
    have h5 := (congrArg (fun y : AS => belV xs 5 y.s == 0) eA).trans h28
    first
      | have eP := pass_t h5
      | have eP := pass_f h5
    rw [eA] at eP
    first
      | exact (congrArg (fun y : AS => y.a.Id) eP).symm
      | exact (congrArg (fun y : AS => y.a.Minimum) eP).symm
      | exact (congrArg (fun y : AS => y.s.i) eP).symm
      | exact (congrArg (fun y : AS => y.s.h) eP).symm
      | exact row_to row_self (congrArg (fun y : AS => y.a.Credentials) eP).symm
      | exact row_to (row_put _ _ _) (congrArg (fun y : AS => y.a.Credentials) eP).symm
      | exact row_to (row_app row_self (row_oneK (stK xs v.1.s))) (congrArg (fun y : AS => y.l) eP).symm
end Go.Proofs.YtmhjjocmnmeapaaGreatDoor.Dr
