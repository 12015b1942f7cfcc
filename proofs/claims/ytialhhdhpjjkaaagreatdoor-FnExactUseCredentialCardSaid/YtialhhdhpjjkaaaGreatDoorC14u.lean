import Derived.Test.YtialhhdhpjjkaaaGreatDoorC14l
import Derived.Test.YtialhhdhpjjkaaaGreatDoorC14s
import Derived.Test.YtialhhdhpjjkaaaGreatDoorM19
import Derived.Test.YtialhhdhpjjkaaaGreatDoorC13i
import Derived.Test.YtialhhdhpjjkaaaGreatDoorC13s
import Derived.Test.YtialhhdhpjjkaaaGreatDoorAs
import Derived.Test.YtialhhdhpjjkaaaGreatDoorLa
namespace Go.Proofs.YtialhhdhpjjkaaaGreatDoor.C14u
open Go.ChangeShapes Go.WideShapes Go.ChangeAt Go.RowKit
open S0 S1 S9 Dm Fx M8 M18 M19 C13 E0 E1 E2 E3 E4 E7 E10 E15 E16 E17 E18 E19 E20 E21 E22 E24 Das C14l
set_option linter.unusedVariables false
set_option linter.unusedSimpArgs false
set_option maxRecDepth 100000
set_option maxHeartbeats 4000000
theorem conChk (p : Int) (x : Fx.Assertion) (z : ByteArray) (n c : Int) (hx : x.ok) (hs : x.Site.size ≤ 16000000) (hs2 : x.Origin.size ≤ 16000000) (hz : z.size ≤ 16000000) : FnCon Tryz.prog 9 [iV p, (true, dasAssertion x), (false, [.val (.string z)]), iV n, iV c] [iV (chkA p x z n c)] :=
  con_of_plain (con_enters Tryz.func9 (by kernel_rfl) (by kernel_rfl)) rfl fun w v0 k0 => by
    obtain ⟨v1, rfl, k1⟩ := of_valA k0
    obtain ⟨us, v2, rfl, k2, k3⟩ := of_aggA (dasAssertion_dc x) k1
    obtain ⟨v3, rfl, k4⟩ := of_valA k3
    obtain ⟨v4, rfl, k5⟩ := of_valA k4
    obtain ⟨v5, rfl, k6⟩ := of_valA k5
    obtain rfl := of_nil k6
    exact C13.specChk w p x z n c us k2 hx hs hs2 hz
noncomputable def useO (a : Fx.Account) (x : Fx.Assertion) (z : ByteArray) (n : Int) (t : Bool) (Q : World → Prop) : Orc := ⟨fun d _ _ => match d with | some 15 => some [(false, [rowR 86 4 dasCredential zCredential a.Credentials])] | _ => none, fun id vs os => match id with
  | 30016 => (match t with
    | true => (match os with | [.var _ [_, _, .own r], _] => some ⟨[], .tup [(false, [.elo r 4 (findC a.Credentials x.Handle).toNat 0]), (false, [.val (.bool true)])], []⟩ | _ => none)
    | false => some ⟨[], .tup [(false, [.val (.pointer none)]), (false, [.val (.bool false)])], []⟩)
  | 60088 => some ⟨[], .one (.val (.int .i64 (useK a x z n))), []⟩
  | _ => none, Q⟩
theorem cr_at {l : List Cr} (h : ∀ y ∈ l, Credential.ok y) (k : Nat) : Credential.ok (l.getD k zCredential) := by
  rw [List.getD_eq_getElem?_getD]
  rcases Nat.lt_or_ge k l.length with hk | hk
  · rw [List.getElem?_eq_getElem hk]; exact h _ (List.getElem_mem hk)
  · rw [List.getElem?_eq_none hk]; exact ⟨by decide, by decide, by decide, trivial⟩
theorem row_cnt (l : List Cr) (k : Nat) (c : Int) : RowOf 4 dasCredential zCredential l.length (E9e.putEl (fun i j => (dasCredential (l.getD i zCredential)).getD j (Da.val undef)) k 2 (.val (.int .i64 c))) (setN l k c) :=
  row_set (f := 2) row_self fun j hj => by
    match j, hj with
    | 0, _ => rfl
    | 1, _ => rfl
    | 2, _ => rfl
    | 3, _ => rfl
theorem row_cut (l : List Cr) (k : Nat) : RowOf 4 dasCredential zCredential l.length (E9e.putEl (fun i j => (dasCredential (l.getD i zCredential)).getD j (Da.val undef)) k 3 (.val (.bool true))) (setC l k) :=
  row_set (f := 3) row_self fun j hj => by
    match j, hj with
    | 0, _ => rfl
    | 1, _ => rfl
    | 2, _ => rfl
    | 3, _ => rfl
theorem conUseS (a : Fx.Account) (x : Fx.Assertion) (z : ByteArray) (n : Int) (hn : a.Credentials.length ≤ 16000000) (hx : x.ok) (hs : x.Site.size ≤ 16000000) (hs2 : x.Origin.size ≤ 16000000) (hz : z.size ≤ 16000000) : FnCon Tryz.prog 13 ([(true, dasAccount a), (true, dasAssertion x), (false, [.val (.string z)]), iV n]) ([(true, dasAccount (useX a x z n)), iV (useR a x z n)]) := by
  refine fn_go (p := ((FnCon Tryz.prog 50 [(true, dasAccount a)] [(true, dasAccount a)]) ∧ ((FnCon Tryz.prog 51 [(true, dasAccount a), (false, [dI (x.Handle)])] [(false, [dI ((findC a.Credentials x.Handle))])]) ∧ bcase (!vac a) ((FnCon Tryz.prog 52 [(true, dasAccount a)] [(false, [dB ((vac a))])]) ∧ ((!vac a) = true ∧ (true = true ∧ ((true = true ∧ (vI a.Id = vI (useX a x z n).Id ∧ (vI a.Minimum = vI (useX a x z n).Minimum ∧ (DaEq (rowR 86 4 dasCredential zCredential a.Credentials) (Da.row 86 4 (useX a x z n).Credentials.length fun i j => (dasCredential ((useX a x z n).Credentials.getD i zCredential)).getD j (Da.val undef)))))) ∧ (false = false ∧ vI 5 = vI (useR a x z n)))))) (bcase (decide (findC a.Credentials x.Handle < 0)) ((FnCon Tryz.prog 52 [(true, dasAccount a)] [(false, [dB ((vac a))])]) ∧ ((!vac a) = false ∧ (decide (findC a.Credentials x.Handle < 0) = true ∧ ((true = true ∧ (vI a.Id = vI (useX a x z n).Id ∧ (vI a.Minimum = vI (useX a x z n).Minimum ∧ (DaEq (rowR 86 4 dasCredential zCredential a.Credentials) (Da.row 86 4 (useX a x z n).Credentials.length fun i j => (dasCredential ((useX a x z n).Credentials.getD i zCredential)).getD j (Da.val undef)))))) ∧ (false = false ∧ vI 5 = vI (useR a x z n)))))) ((FnCon Tryz.prog 52 [(true, dasAccount a)] [(false, [dB ((vac a))])]) ∧ ((!vac a) = false ∧ (decide (findC a.Credentials x.Handle < 0) = false ∧ ((0 ≤ findC a.Credentials x.Handle ∧ findC a.Credentials x.Handle < (↑a.Credentials.length : Int)) ∧ bcase ((a.Credentials.getD (findC a.Credentials x.Handle).toNat zCredential).Cut) ((true = true ∧ (vI a.Id = vI (useX a x z n).Id ∧ (vI a.Minimum = vI (useX a x z n).Minimum ∧ (DaEq (rowR 86 4 dasCredential zCredential a.Credentials) (Da.row 86 4 (useX a x z n).Credentials.length fun i j => (dasCredential ((useX a x z n).Credentials.getD i zCredential)).getD j (Da.val undef)))))) ∧ (false = false ∧ vI 5 = vI (useR a x z n))) ((0 ≤ findC a.Credentials x.Handle ∧ findC a.Credentials x.Handle < (↑a.Credentials.length : Int)) ∧ ((0 ≤ findC a.Credentials x.Handle ∧ findC a.Credentials x.Handle < (↑a.Credentials.length : Int)) ∧ (FnCon Tryz.prog 9 [(false, [dI ((a.Credentials.getD (findC a.Credentials x.Handle).toNat zCredential).Public)]), (true, dasAssertion x), (false, [dS (z)]), (false, [dI (n)]), (false, [dI ((a.Credentials.getD (findC a.Credentials x.Handle).toNat zCredential).Counter)])] [(false, [dI ((useK a x z n))])] ∧ bcase (useK a x z n == 0) ((0 ≤ findC a.Credentials x.Handle ∧ findC a.Credentials x.Handle < (↑a.Credentials.length : Int)) ∧ ((true = true ∧ (vI a.Id = vI (useX a x z n).Id ∧ (vI a.Minimum = vI (useX a x z n).Minimum ∧ (DaEq
  (Da.row 86 4 a.Credentials.length fun a_1 b =>
    match
      match a_1.beq (findC a.Credentials x.Handle).toNat with
      | false => false
      | true => b.beq 2 with
    | true => dI (x.Counter)
    | false => (dasCredential (a.Credentials.getD a_1 zCredential)).getD b (Da.val undef))
  (Da.row 86 4 (useX a x z n).Credentials.length fun i j => (dasCredential ((useX a x z n).Credentials.getD i zCredential)).getD j (Da.val undef)))))) ∧ (false = false ∧ vI (useK a x z n) = vI (useR a x z n)))) (bcase (useK a x z n == 4) ((0 ≤ findC a.Credentials x.Handle ∧ findC a.Credentials x.Handle < (↑a.Credentials.length : Int)) ∧ ((true = true ∧ (vI a.Id = vI (useX a x z n).Id ∧ (vI a.Minimum = vI (useX a x z n).Minimum ∧ (DaEq
  (Da.row 86 4 a.Credentials.length fun a_1 b =>
    match
      match a_1.beq (findC a.Credentials x.Handle).toNat with
      | false => false
      | true => b.beq 3 with
    | true => dB (true)
    | false => (dasCredential (a.Credentials.getD a_1 zCredential)).getD b (Da.val undef))
  (Da.row 86 4 (useX a x z n).Credentials.length fun i j => (dasCredential ((useX a x z n).Credentials.getD i zCredential)).getD j (Da.val undef)))))) ∧ (false = false ∧ vI (useK a x z n) = vI (useR a x z n)))) ((true = true ∧ (vI a.Id = vI (useX a x z n).Id ∧ (vI a.Minimum = vI (useX a x z n).Minimum ∧ (DaEq (rowR 86 4 dasCredential zCredential a.Credentials) (Da.row 86 4 (useX a x z n).Credentials.length fun i j => (dasCredential ((useX a x z n).Credentials.getD i zCredential)).getD j (Da.val undef)))))) ∧ (false = false ∧ vI (useK a x z n) = vI (useR a x z n))))))))))))))) (callsBy fun d _ _ => match d with | some 14 => some [(true, dasAccount a)] | some 18 => some [iV (findC a.Credentials x.Handle)] | some 20 => some [bV (vac a)] | some 50 => some [iV (useK a x z n)] | _ => none) (noLoops) Tryz.func13 (by kernel_rfl) (by kernel_rfl) (by kernel_rfl) (fun _ => trivial) (by kernel_rfl) ?_
  refine ⟨(C14s.conCopy a hn), (C14s.conFnd a _ hn), bcase_intro (fun h2 => ⟨(C14s.conVac a hn), h2, rfl, ⟨rfl, congrArg _ ?g4, congrArg _ ?g5, ?g6⟩, rfl, congrArg _ ?g7⟩) (fun h2 => bcase_intro (fun h8 => ⟨(C14s.conVac a hn), h2, h8, ⟨rfl, congrArg _ ?g10, congrArg _ ?g11, ?g12⟩, rfl, congrArg _ ?g13⟩) (fun h8 => ⟨(C14s.conVac a hn), h2, h8, ⟨?g15, ?g16⟩, bcase_intro (fun h17 => ⟨⟨rfl, congrArg _ ?g18, congrArg _ ?g19, ?g20⟩, rfl, congrArg _ ?g21⟩) (fun h17 => ⟨⟨?g22, ?g23⟩, ⟨?g24, ?g25⟩, (conChk _ x z n _ hx hs hs2 hz), bcase_intro (fun h27 => ⟨⟨?g28, ?g29⟩, ⟨rfl, congrArg _ ?g30, congrArg _ ?g31, ?g32⟩, rfl, congrArg _ ?g33⟩) (fun h27 => bcase_intro (fun h34 => ⟨⟨?g35, ?g36⟩, ⟨rfl, congrArg _ ?g37, congrArg _ ?g38, ?g39⟩, rfl, congrArg _ ?g40⟩) (fun h34 => ⟨⟨rfl, congrArg _ ?g41, congrArg _ ?g42, ?g43⟩, rfl, congrArg _ ?g44⟩))⟩)⟩))⟩
  case g4 | g5 | g6 | g7 =>
    obtain ⟨eX, eR⟩ := use_f (z := z) (n := n) (cutB_v (h := x.Handle) (show vac a = false by simpa using h2))
    first
      | exact (congrArg (fun y : Fx.Account => y.Id) eX).symm
      | exact (congrArg (fun y : Fx.Account => y.Minimum) eX).symm
      | exact row_to row_self (congrArg (fun y : Fx.Account => y.Credentials) eX).symm
      | exact row_to (row_cnt _ _ _) (congrArg (fun y : Fx.Account => y.Credentials) eX).symm
      | exact row_to (row_cut _ _) (congrArg (fun y : Fx.Account => y.Credentials) eX).symm
      | exact eR.symm
  case g10 | g11 | g12 | g13 =>
    obtain ⟨eX, eR⟩ := use_f (z := z) (n := n) (cutB_n (of_decide_eq_true h8))
    first
      | exact (congrArg (fun y : Fx.Account => y.Id) eX).symm
      | exact (congrArg (fun y : Fx.Account => y.Minimum) eX).symm
      | exact row_to row_self (congrArg (fun y : Fx.Account => y.Credentials) eX).symm
      | exact row_to (row_cnt _ _ _) (congrArg (fun y : Fx.Account => y.Credentials) eX).symm
      | exact row_to (row_cut _ _) (congrArg (fun y : Fx.Account => y.Credentials) eX).symm
      | exact eR.symm
  all_goals
    have hv : vac a = true := by simpa using h2
    have h8 := of_decide_eq_false h8
    have hcp := cutB_p hv h8
    obtain ⟨k, hk1, hk2, hk3⟩ := pos_of h8
  case g15 | g16 | g22 | g23 | g24 | g25 | g28 | g29 | g35 | g36 => omega
  case g18 | g19 | g20 | g21 =>
    rw [h17] at hcp
    obtain ⟨eX, eR⟩ := use_f (z := z) (n := n) hcp
    first
      | exact (congrArg (fun y : Fx.Account => y.Id) eX).symm
      | exact (congrArg (fun y : Fx.Account => y.Minimum) eX).symm
      | exact row_to row_self (congrArg (fun y : Fx.Account => y.Credentials) eX).symm
      | exact row_to (row_cnt _ _ _) (congrArg (fun y : Fx.Account => y.Credentials) eX).symm
      | exact row_to (row_cut _ _) (congrArg (fun y : Fx.Account => y.Credentials) eX).symm
      | exact eR.symm
  all_goals
    rw [h17] at hcp
    have eR := use_r (z := z) (n := n) hcp
  case g30 | g31 | g32 | g33 =>
    have eX := use_0 hcp h27
    first
      | exact (congrArg (fun y : Fx.Account => y.Id) eX).symm
      | exact (congrArg (fun y : Fx.Account => y.Minimum) eX).symm
      | exact row_to row_self (congrArg (fun y : Fx.Account => y.Credentials) eX).symm
      | exact row_to (row_cnt _ _ _) (congrArg (fun y : Fx.Account => y.Credentials) eX).symm
      | exact row_to (row_cut _ _) (congrArg (fun y : Fx.Account => y.Credentials) eX).symm
      | exact eR.symm
  case g37 | g38 | g39 | g40 =>
    have eX := use_4 hcp h27 h34
    first
      | exact (congrArg (fun y : Fx.Account => y.Id) eX).symm
      | exact (congrArg (fun y : Fx.Account => y.Minimum) eX).symm
      | exact row_to row_self (congrArg (fun y : Fx.Account => y.Credentials) eX).symm
      | exact row_to (row_cnt _ _ _) (congrArg (fun y : Fx.Account => y.Credentials) eX).symm
      | exact row_to (row_cut _ _) (congrArg (fun y : Fx.Account => y.Credentials) eX).symm
      | exact eR.symm
  case g41 | g42 | g43 | g44 =>
    have eX := use_9 hcp h27 h34
    first
      | exact (congrArg (fun y : Fx.Account => y.Id) eX).symm
      | exact (congrArg (fun y : Fx.Account => y.Minimum) eX).symm
      | exact row_to row_self (congrArg (fun y : Fx.Account => y.Credentials) eX).symm
      | exact row_to (row_cnt _ _ _) (congrArg (fun y : Fx.Account => y.Credentials) eX).symm
      | exact row_to (row_cut _ _) (congrArg (fun y : Fx.Account => y.Credentials) eX).symm
      | exact eR.symm
theorem wpUseT (Q : World → Prop) (hQ : ∀ w, Q w → La.Pow w ∧ As.Er w) (a : Fx.Account) (x : Fx.Assertion) (z : ByteArray) (n : Int) (hn : a.Credentials.length ≤ 16000000) (hx : x.ok) (hs : x.Site.size ≤ 16000000) (hs2 : x.Origin.size ≤ 16000000) (hz : z.size ≤ 16000000) (ho : ∀ y ∈ a.Credentials, Credential.ok y) (hb : cutB a x.Handle = true) : awp Tryz.prog (useO a x z n true Q) (noLoops) (Tryz.f15.body.getD .skip) ⟨[.agg [.val (.int .i64 a.Id), .val (.int .i64 a.Minimum), .old (rowR 86 4 dasCredential zCredential a.Credentials)], .agg [.val (.string x.Site), .val (.string x.Origin), .val (.int .i64 x.Challenge), .val (.int .i64 x.Handle), .val (.bool x.Present), .val (.int .i64 x.Counter), .val (.int .i64 x.Signature)], .one (.val (.string z)), .one (.val (.int .i64 n))] ++ List.replicate (Tryz.f15.ntmps - ([.agg [.val (.int .i64 a.Id), .val (.int .i64 a.Minimum), .old (rowR 86 4 dasCredential zCredential a.Credentials)], .agg [.val (.string x.Site), .val (.string x.Origin), .val (.int .i64 x.Challenge), .val (.int .i64 x.Handle), .val (.bool x.Present), .val (.int .i64 x.Counter), .val (.int .i64 x.Signature)], .one (.val (.string z)), .one (.val (.int .i64 n))] : List AV).length) (.one (.val undef)), fun _ => .un⟩ (retK Tryz.prog Tryz.f15.results.toList [(true, dasAccount (useX a x z n)), iV (useR a x z n)]) := by
  have hh_ : ((FnCon Tryz.prog 54 [(false, [rowR 86 4 dasCredential zCredential a.Credentials])] [(false, [rowR 86 4 dasCredential zCredential a.Credentials])]) ∧ ((Cust Tryz.prog Q 30016 (opOf (Tryz.f15.body.getD Code.skip) 2 2) [AV.one (Sc.val (Value.func (Fn.func 55) { toList := [] } { toList := [] })), AV.one (Sc.ptr 10000 0), AV.one (Sc.val (vI x.Handle))] [Ob.var 35 [Sc.val (vI a.Id), Sc.val (vI a.Minimum), Sc.own 20016], Ob.own (rowR 86 4 dasCredential zCredential a.Credentials)] { need := [], val := AV.tup [(false, [Sc.elo 20016 4 (findC a.Credentials x.Handle).toNat 0]), (false, [Sc.val (Value.bool true)])], mem := [] }) ∧ (Cust Tryz.prog Q 60088 (opOf (Tryz.f15.body.getD Code.skip) 5 11) [AV.one (Sc.val (Value.func (Fn.func 11) { toList := [] } { toList := [] })), AV.one (Sc.val (vI (a.Credentials.getD (findC a.Credentials x.Handle).toNat zCredential).Public)), AV.agg [Sc.val (Value.string x.Site), Sc.val (Value.string x.Origin), Sc.val (vI x.Challenge), Sc.val (vI x.Handle), Sc.val (Value.bool x.Present), Sc.val (vI x.Counter), Sc.val (vI x.Signature)], AV.one (Sc.val (Value.string z)), AV.one (Sc.val (vI n)), AV.one (Sc.val (vI (a.Credentials.getD (findC a.Credentials x.Handle).toNat zCredential).Counter))] [] { need := [], val := AV.one (Sc.val (vI (useK a x z n))), mem := [] } ∧ bcase (useK a x z n == 0) ((true = true ∧ (vI a.Id = vI (useX a x z n).Id ∧ (vI a.Minimum = vI (useX a x z n).Minimum ∧ (DaEq
  (Da.row 86 4 a.Credentials.length fun a_1 b =>
    match
      match a_1.beq (findC a.Credentials x.Handle).toNat with
      | false => false
      | true => b.beq 2 with
    | true => dI (x.Counter)
    | false => (dasCredential (a.Credentials.getD a_1 zCredential)).getD b (Da.val undef))
  (Da.row 86 4 (useX a x z n).Credentials.length fun i j => (dasCredential ((useX a x z n).Credentials.getD i zCredential)).getD j (Da.val undef)))))) ∧ (false = false ∧ vI (useK a x z n) = vI (useR a x z n))) (bcase (useK a x z n == 4) ((true = true ∧ (vI a.Id = vI (useX a x z n).Id ∧ (vI a.Minimum = vI (useX a x z n).Minimum ∧ (DaEq
  (Da.row 86 4 a.Credentials.length fun a_1 b =>
    match
      match a_1.beq (findC a.Credentials x.Handle).toNat with
      | false => false
      | true => b.beq 3 with
    | true => dB (true)
    | false => (dasCredential (a.Credentials.getD a_1 zCredential)).getD b (Da.val undef))
  (Da.row 86 4 (useX a x z n).Credentials.length fun i j => (dasCredential ((useX a x z n).Credentials.getD i zCredential)).getD j (Da.val undef)))))) ∧ (false = false ∧ vI (useK a x z n) = vI (useR a x z n))) ((true = true ∧ (vI a.Id = vI (useX a x z n).Id ∧ (vI a.Minimum = vI (useX a x z n).Minimum ∧ (DaEq (rowR 86 4 dasCredential zCredential a.Credentials) (Da.row 86 4 (useX a x z n).Credentials.length fun i j => (dasCredential ((useX a x z n).Credentials.getD i zCredential)).getD j (Da.val undef)))))) ∧ (false = false ∧ vI (useK a x z n) = vI (useR a x z n))))))) = (awp Tryz.prog (useO a x z n true Q) (noLoops) (Tryz.f15.body.getD .skip) ⟨[.agg [.val (.int .i64 a.Id), .val (.int .i64 a.Minimum), .old (rowR 86 4 dasCredential zCredential a.Credentials)], .agg [.val (.string x.Site), .val (.string x.Origin), .val (.int .i64 x.Challenge), .val (.int .i64 x.Handle), .val (.bool x.Present), .val (.int .i64 x.Counter), .val (.int .i64 x.Signature)], .one (.val (.string z)), .one (.val (.int .i64 n))] ++ List.replicate (Tryz.f15.ntmps - ([.agg [.val (.int .i64 a.Id), .val (.int .i64 a.Minimum), .old (rowR 86 4 dasCredential zCredential a.Credentials)], .agg [.val (.string x.Site), .val (.string x.Origin), .val (.int .i64 x.Challenge), .val (.int .i64 x.Handle), .val (.bool x.Present), .val (.int .i64 x.Counter), .val (.int .i64 x.Signature)], .one (.val (.string z)), .one (.val (.int .i64 n))] : List AV).length) (.one (.val undef)), fun _ => .un⟩ (retK Tryz.prog Tryz.f15.results.toList [(true, dasAccount (useX a x z n)), iV (useR a x z n)])) := by kernel_rfl
  rw [← hh_]
  clear hh_
  refine ⟨(C14i.conCopy _ hn), ?g1, ?g2, bcase_intro (fun h3 => ⟨⟨rfl, congrArg _ ?g4, congrArg _ ?g5, ?g6⟩, rfl, congrArg _ ?g7⟩) (fun h3 => bcase_intro (fun h8 => ⟨⟨rfl, congrArg _ ?g9, congrArg _ ?g10, ?g11⟩, rfl, congrArg _ ?g12⟩) (fun h8 => ⟨⟨rfl, congrArg _ ?g13, congrArg _ ?g14, ?g15⟩, rfl, congrArg _ ?g16⟩))⟩
  case g1 => exact cust_uncutT rfl rfl rfl (DaEq.refl _) hn ho hb
  case g2 => exact cust_plain rfl rfl (con_enters Tryz.func11 (by kernel_rfl) (by kernel_rfl)) rfl rfl fun W0 w h hb => C13i.implChk w _ x z n _ _ Assertion.mkR hx hs hs2 hz (cr_at ho _).Public.1 (cr_at ho _).Public.2 ((hQ _ h).1.stays hb) ((hQ _ h).2.stays hb)
  all_goals have eR := use_r (z := z) (n := n) hb
  case g4 | g5 | g6 | g7 =>
    have eX := use_0 hb h3
    first
      | exact (congrArg (fun y : Fx.Account => y.Id) eX).symm
      | exact (congrArg (fun y : Fx.Account => y.Minimum) eX).symm
      | exact row_to row_self (congrArg (fun y : Fx.Account => y.Credentials) eX).symm
      | exact row_to (row_cnt _ _ _) (congrArg (fun y : Fx.Account => y.Credentials) eX).symm
      | exact row_to (row_cut _ _) (congrArg (fun y : Fx.Account => y.Credentials) eX).symm
      | exact eR.symm
  case g9 | g10 | g11 | g12 =>
    have eX := use_4 hb h3 h8
    first
      | exact (congrArg (fun y : Fx.Account => y.Id) eX).symm
      | exact (congrArg (fun y : Fx.Account => y.Minimum) eX).symm
      | exact row_to row_self (congrArg (fun y : Fx.Account => y.Credentials) eX).symm
      | exact row_to (row_cnt _ _ _) (congrArg (fun y : Fx.Account => y.Credentials) eX).symm
      | exact row_to (row_cut _ _) (congrArg (fun y : Fx.Account => y.Credentials) eX).symm
      | exact eR.symm
  case g13 | g14 | g15 | g16 =>
    have eX := use_9 hb h3 h8
    first
      | exact (congrArg (fun y : Fx.Account => y.Id) eX).symm
      | exact (congrArg (fun y : Fx.Account => y.Minimum) eX).symm
      | exact row_to row_self (congrArg (fun y : Fx.Account => y.Credentials) eX).symm
      | exact row_to (row_cnt _ _ _) (congrArg (fun y : Fx.Account => y.Credentials) eX).symm
      | exact row_to (row_cut _ _) (congrArg (fun y : Fx.Account => y.Credentials) eX).symm
      | exact eR.symm
theorem wpUseF (Q : World → Prop) (a : Fx.Account) (x : Fx.Assertion) (z : ByteArray) (n : Int) (hn : a.Credentials.length ≤ 16000000) (hx : x.ok) (hs : x.Site.size ≤ 16000000) (hs2 : x.Origin.size ≤ 16000000) (hz : z.size ≤ 16000000) (ho : ∀ y ∈ a.Credentials, Credential.ok y) (hb : cutB a x.Handle = false) : awp Tryz.prog (useO a x z n false Q) (noLoops) (Tryz.f15.body.getD .skip) ⟨[.agg [.val (.int .i64 a.Id), .val (.int .i64 a.Minimum), .old (rowR 86 4 dasCredential zCredential a.Credentials)], .agg [.val (.string x.Site), .val (.string x.Origin), .val (.int .i64 x.Challenge), .val (.int .i64 x.Handle), .val (.bool x.Present), .val (.int .i64 x.Counter), .val (.int .i64 x.Signature)], .one (.val (.string z)), .one (.val (.int .i64 n))] ++ List.replicate (Tryz.f15.ntmps - ([.agg [.val (.int .i64 a.Id), .val (.int .i64 a.Minimum), .old (rowR 86 4 dasCredential zCredential a.Credentials)], .agg [.val (.string x.Site), .val (.string x.Origin), .val (.int .i64 x.Challenge), .val (.int .i64 x.Handle), .val (.bool x.Present), .val (.int .i64 x.Counter), .val (.int .i64 x.Signature)], .one (.val (.string z)), .one (.val (.int .i64 n))] : List AV).length) (.one (.val undef)), fun _ => .un⟩ (retK Tryz.prog Tryz.f15.results.toList [(true, dasAccount (useX a x z n)), iV (useR a x z n)]) := by
  have hh_ : ((FnCon Tryz.prog 54 [(false, [rowR 86 4 dasCredential zCredential a.Credentials])] [(false, [rowR 86 4 dasCredential zCredential a.Credentials])]) ∧ ((Cust Tryz.prog Q 30016 (opOf (Tryz.f15.body.getD Code.skip) 2 2) [AV.one (Sc.val (Value.func (Fn.func 55) { toList := [] } { toList := [] })), AV.one (Sc.ptr 10000 0), AV.one (Sc.val (vI x.Handle))] [Ob.var 35 [Sc.val (vI a.Id), Sc.val (vI a.Minimum), Sc.own 20016], Ob.own (rowR 86 4 dasCredential zCredential a.Credentials)] { need := [], val := AV.tup [(false, [Sc.val (Value.pointer none)]), (false, [Sc.val (Value.bool false)])], mem := [] }) ∧ ((true = true ∧ (vI a.Id = vI (useX a x z n).Id ∧ (vI a.Minimum = vI (useX a x z n).Minimum ∧ (DaEq (rowR 86 4 dasCredential zCredential a.Credentials) (Da.row 86 4 (useX a x z n).Credentials.length fun i j => (dasCredential ((useX a x z n).Credentials.getD i zCredential)).getD j (Da.val undef)))))) ∧ (false = false ∧ vI 5 = vI (useR a x z n))))) = (awp Tryz.prog (useO a x z n false Q) (noLoops) (Tryz.f15.body.getD .skip) ⟨[.agg [.val (.int .i64 a.Id), .val (.int .i64 a.Minimum), .old (rowR 86 4 dasCredential zCredential a.Credentials)], .agg [.val (.string x.Site), .val (.string x.Origin), .val (.int .i64 x.Challenge), .val (.int .i64 x.Handle), .val (.bool x.Present), .val (.int .i64 x.Counter), .val (.int .i64 x.Signature)], .one (.val (.string z)), .one (.val (.int .i64 n))] ++ List.replicate (Tryz.f15.ntmps - ([.agg [.val (.int .i64 a.Id), .val (.int .i64 a.Minimum), .old (rowR 86 4 dasCredential zCredential a.Credentials)], .agg [.val (.string x.Site), .val (.string x.Origin), .val (.int .i64 x.Challenge), .val (.int .i64 x.Handle), .val (.bool x.Present), .val (.int .i64 x.Counter), .val (.int .i64 x.Signature)], .one (.val (.string z)), .one (.val (.int .i64 n))] : List AV).length) (.one (.val undef)), fun _ => .un⟩ (retK Tryz.prog Tryz.f15.results.toList [(true, dasAccount (useX a x z n)), iV (useR a x z n)])) := by kernel_rfl
  rw [← hh_]
  clear hh_
  refine ⟨(C14i.conCopy _ hn), ?g1, ⟨rfl, congrArg _ ?g2, congrArg _ ?g3, ?g4⟩, rfl, congrArg _ ?g5⟩
  case g1 => exact cust_uncutF rfl rfl rfl (DaEq.refl _) hn ho hb
  all_goals
    obtain ⟨eX, eR⟩ := use_f (z := z) (n := n) hb
    first
      | exact (congrArg (fun y : Fx.Account => y.Id) eX).symm
      | exact (congrArg (fun y : Fx.Account => y.Minimum) eX).symm
      | exact row_to row_self (congrArg (fun y : Fx.Account => y.Credentials) eX).symm
      | exact row_to (row_cnt _ _ _) (congrArg (fun y : Fx.Account => y.Credentials) eX).symm
      | exact row_to (row_cut _ _) (congrArg (fun y : Fx.Account => y.Credentials) eX).symm
      | exact eR.symm
theorem law_made {P : Program} {f : FuncId} {fn : Func} {c : Code} {w : World} (C : Orc) (L : Loops) (hf : P.funcs[f]? = some fn) (hb : fn.body = some c) (hm : P.follows .mixedOrders = true) {s0 : List AV} {ds : List Da} {dcs : List Dc} {rs : List Grp} {us : List Value} (hp : plainGs rs = some us) (e : ds.map Da.dc = dcs)
    (h : awp P C L c ⟨s0 ++ List.replicate (fn.ntmps - s0.length) (.one (.val undef)), fun _ => .un⟩ (retK P fn.results.toList ((true, ds) :: rs))) {vs : List Value} (hC : C.old w) (hl : vs.length = s0.length) (hv : ∀ (i : Nat) (av : AV), s0[i]? = some av → ∃ v, vs[i]? = some v ∧ AvOK (fun _ => none) w av v) :
    Calls P f vs.toArray w (MadeLx dcs (fun xs => retV (.agg xs.toArray :: us)) w) :=
  (go_ok C L hf hb hm h hC hl hv (R := fun us w' => ∃ bs, ResOK w' w.heap.size ((true, ds) :: rs) us bs ∧ bs.Nodup ∧ Below w.heap.size w w') fun e s ρ a w' hk hs => retK_ok hk hs).mono fun _ w' ⟨xs, h1, bs, ⟨v, vs', ys, b1, b2, e1, h2, h3, h4, h5⟩, h6, h7⟩ => by
    obtain ⟨rfl, rfl⟩ := plainGs_ok hp h4
    rw [if_pos rfl] at h2
    exact ⟨ys, b1, by rw [h1, e1, h2], by rw [← e]; exact h3, by rw [h5] at h6; simpa using h6, h7⟩
section
variable (w : World) (a : Fx.Account) (x : Fx.Assertion) (z : ByteArray) (n : Int) (us vs : List Value) (h : ShsL w w.heap.size a.dcs us) (h2 : RdsL w w.heap.size x.dcs vs) (hn : a.Credentials.length ≤ 16000000) (hx : x.ok) (hs : x.Site.size ≤ 16000000) (hs2 : x.Origin.size ≤ 16000000) (hz : z.size ≤ 16000000)
include h h2 hn hx hs hs2 hz
theorem implUse (ho : ∀ y ∈ a.Credentials, Credential.ok y) (ht : La.Pow w) (he : As.Er w) : Calls Tryz.prog 15 #[.agg us.toArray, .agg vs.toArray, .string z, .int .i64 n] w (MadeLx (useX a x z n).dcs (fun vs => .tuple #[.agg vs.toArray, .int .i64 (useR a x z n)]) w) := by
  obtain rfl := Assertion.rds h2
  have h3 := h
  rw [← dasAccount_dc a] at h3
  simp only [dasAccount, List.map_cons, List.map_nil, ShsL] at h3
  obtain ⟨v1, _, rfl, k1, v2, _, rfl, k2, v3, _, rfl, k3, rfl⟩ := h3
  simp only [Da.dc, Shs] at k1 k2
  subst k1 k2
  have hv : ∀ (i : Nat) (av : AV), ([.agg [.val (.int .i64 a.Id), .val (.int .i64 a.Minimum), .old (rowR 86 4 dasCredential zCredential a.Credentials)], .agg [.val (.string x.Site), .val (.string x.Origin), .val (.int .i64 x.Challenge), .val (.int .i64 x.Handle), .val (.bool x.Present), .val (.int .i64 x.Counter), .val (.int .i64 x.Signature)], .one (.val (.string z)), .one (.val (.int .i64 n))] : List AV)[i]? = some av → ∃ v, [Value.agg [Value.int .i64 a.Id, .int .i64 a.Minimum, v3].toArray, .agg [Value.string x.Site, .string x.Origin, .int .i64 x.Challenge, .int .i64 x.Handle, .bool x.Present, .int .i64 x.Counter, .int .i64 x.Signature].toArray, .string z, .int .i64 n][i]? = some v ∧ AvOK (fun _ => none) w av v := fun i av hi => by
    match i, hi with
    | 0, hi => cases hi; exact ⟨_, rfl, _, rfl, _, _, rfl, rfl, _, _, rfl, rfl, _, _, rfl, k3, rfl⟩
    | 1, hi => cases hi; exact ⟨_, rfl, _, rfl, _, _, rfl, rfl, _, _, rfl, rfl, _, _, rfl, rfl, _, _, rfl, rfl, _, _, rfl, rfl, _, _, rfl, rfl, _, _, rfl, rfl, rfl⟩
    | 2, hi => cases hi; exact ⟨_, rfl, rfl⟩
    | 3, hi => cases hi; exact ⟨_, rfl, rfl⟩
    | i + 4, hi => cases hi
  cases hb : cutB a x.Handle with
  | true => exact law_made (us := [.int .i64 (useR a x z n)]) (useO a x z n true (fun W => W = w)) E18.noLoops Tryz.func15 (by kernel_rfl) (by kernel_rfl) rfl (dasAccount_dc _) (wpUseT (fun W => W = w) (fun W h => by subst h; exact ⟨ht, he⟩) a x z n hn hx hs hs2 hz ho hb) rfl rfl hv
  | false => exact law_made (us := [.int .i64 (useR a x z n)]) (useO a x z n false (fun W => W = w)) E18.noLoops Tryz.func15 (by kernel_rfl) (by kernel_rfl) rfl (dasAccount_dc _) (wpUseF (fun W => W = w) a x z n hn hx hs hs2 hz ho hb) rfl rfl hv
end
end Go.Proofs.YtialhhdhpjjkaaaGreatDoor.C14u
