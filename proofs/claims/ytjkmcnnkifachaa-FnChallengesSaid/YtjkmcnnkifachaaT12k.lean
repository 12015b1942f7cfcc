import Derived.Test.YtjkmcnnkifachaaMi
namespace Go.Proofs.Ytjkmcnnkifachaa.T12k
open Go.ChangeShapes Go.WideShapes Go.ChangeAt Go.RowKit
open S0 S1 S9 Dm Fx M3 C3 C12 C12b C12c C12d C12e C12f E0 E1 E2 E3 E4 E7 E10 E15 E16 E17 E18 E19 E20 Das Mp Mc Mk Mr Mq T12i T12j Mi
set_option linter.unusedVariables false
set_option linter.unusedSimpArgs false
set_option maxRecDepth 100000
theorem inB_dec (n lo hi : Int) : decide (lo ≤ n ∧ n ≤ hi) = inB n lo hi := by unfold inB; simp [Bool.decide_and]
theorem issOk_eq (b : Fx.ChallengeBook) (a now : Int) : issOk b a now = (vbk b && !(b.Next == 1000000) && inB a 0 1000000 && inB now 0 1000000) := by unfold issOk; rw [inB_dec, inB_dec]
theorem len_le {l m : List Fx.Challenge} (h : l.Sublist m) (hn : m.length ≤ 16000000) : l.length ≤ 16000000 := Nat.le_trans h.length_le hn
theorem inI_sub {l m : List Fx.Challenge} (h : l.Sublist m) (hi : inI m) : inI l := fun x hx => hi x (h.subset hx)
theorem conFnd (b : Fx.ChallengeBook) (i : Int) (hn : b.Open.length ≤ 16000000) : FnCon Try.prog 18 ([(true, dasChallengeBook b), iV i]) ([iV (findC b.Open i)]) := by
  refine fn_go (p := ((Cust Try.prog (fun x => True) 20016 (opOf (Try.f18.body.getD Code.skip) 1 2) [AV.one (Sc.ptr 10008 0)] [Ob.var 3 [Sc.val (vI i)]] { need := [], val := AV.one (Sc.own 20016), mem := [(10008, Ob.gone), (20016, Ob.abs (BoundI 47 i))] }) ∧ ((Cust Try.prog (fun x => True) 20024 (opOf (Try.f18.body.getD Code.skip) 1 3) [AV.one (Sc.val (Value.func (Fn.func 46) { toList := [] } { toList := [] })), AV.one (Sc.old (rowR 30 3 dasChallenge zChallenge b.Open)), AV.one (Sc.own 20016)] [Ob.abs (BoundI 47 i)] { need := [], val := AV.one (Sc.val (vI (findC b.Open i))), mem := [] }) ∧ (false = false ∧ vI (findC b.Open i) = vI (findC b.Open i))))) (fndC b i) (noLoops) Try.func18 (by kernel_rfl) (by kernel_rfl) (by kernel_rfl) (fun _ => trivial) (by kernel_rfl) ?_
  refine ⟨?g0, ?g1, rfl, rfl⟩
  case g0 => exact cust_makeFunc rfl
  case g1 => exact cust_index rfl rfl rfl rfl hn
theorem conTake (b : Fx.ChallengeBook) (i a now : Int) (hn : b.Open.length ≤ 16000000) (i0 : -9223372036854775808 ≤ i) (i1 : i ≤ 9223372036854775807) : FnCon Try.prog 16 ([(true, dasChallengeBook b), iV i, iV a, iV now]) ([(true, dasChallengeBook (takeX b i)), bV (takeB b i a now)]) := by
  refine fn_go (p := ((FnCon Try.prog 36 [(false, [rowR 30 3 dasChallenge zChallenge b.Open])] [(false, [rowR 30 3 dasChallenge zChallenge b.Open])]) ∧ ((FnCon Try.prog 19 [(true, dasChallengeBook b)] [(false, [dB ((vbk b))])]) ∧ bcase (!vbk b) ((true = true ∧ (vI b.Seed = vI (takeX b i).Seed ∧ (vI b.Next = vI (takeX b i).Next ∧ (DaEq (rowR 30 3 dasChallenge zChallenge b.Open) (Da.row 30 3 (takeX b i).Open.length fun i_1 j => (dasChallenge ((takeX b i).Open.getD i_1 zChallenge)).getD j (Da.val undef)))))) ∧ (false = false ∧ Value.bool false = Value.bool (takeB b i a now))) ((Cust Try.prog (fun x => True) 50016 (opOf (Try.f16.body.getD Code.skip) 4 2) [AV.one (Sc.val (Value.func (Fn.func 42) { toList := [] } { toList := [] })), AV.one (Sc.own 20016)] [Ob.own (rowR 30 3 dasChallenge zChallenge b.Open)] { need := [], val := AV.one (Sc.own 50016), mem := [(50016, Ob.abs (MapIs b.Open.length b.Open))] }) ∧ ((Cust Try.prog (fun x => True) 60016 (opOf (Try.f16.body.getD Code.skip) 5 2) [AV.one (Sc.own 50016), AV.one (Sc.val (vI i))] [Ob.abs (MapIs b.Open.length b.Open)] { need := [], val := AV.tup [(true, [Sc.val (vI (fnd b.Open i).Id), Sc.val (vI (fnd b.Open i).Account), Sc.val (vI (fnd b.Open i).Until)]), (false, [Sc.val (Value.bool (hasI b.Open i))])], mem := [] }) ∧ bcase (!hasI b.Open i) ((true = true ∧ (vI b.Seed = vI (takeX b i).Seed ∧ (vI b.Next = vI (takeX b i).Next ∧ (DaEq (rowR 30 3 dasChallenge zChallenge b.Open) (Da.row 30 3 (takeX b i).Open.length fun i_1 j => (dasChallenge ((takeX b i).Open.getD i_1 zChallenge)).getD j (Da.val undef)))))) ∧ (false = false ∧ Value.bool false = Value.bool (takeB b i a now))) ((Cust Try.prog (fun x => True) 90016 (opOf (Try.f16.body.getD Code.skip) 8 2) [AV.one (Sc.own 50016), AV.one (Sc.val (vI i))] [Ob.abs (MapIs b.Open.length b.Open)] { need := [], val := AV.no, mem := [(50016, Ob.abs (MapIs b.Open.length (dropI b.Open i)))] }) ∧ ((Cust Try.prog (fun x => True) 100008 (opOf (Try.f16.body.getD Code.skip) 9 1) [AV.one (Sc.val (Value.func (Fn.func 43) { toList := [] } { toList := [] })), AV.one (Sc.own 50016)] [Ob.abs (MapIs b.Open.length (dropI b.Open i))] { need := [], val := AV.one (Sc.own 100008), mem := [(100008, Ob.own (Da.row 30 3 (dropI b.Open i).length fun i_1 j => (dasChallenge ((dropI b.Open i).getD i_1 zChallenge)).getD j (Da.val undef)))] }) ∧ bcase ((fnd b.Open i).Account == a) (((fnd b.Open i).Account == a) = true ∧ ((true = true ∧ (vI b.Seed = vI (takeX b i).Seed ∧ (vI b.Next = vI (takeX b i).Next ∧ (DaEq (Da.row 30 3 (dropI b.Open i).length fun i_1 j => (dasChallenge ((dropI b.Open i).getD i_1 zChallenge)).getD j (Da.val undef)) (Da.row 30 3 (takeX b i).Open.length fun i_1 j => (dasChallenge ((takeX b i).Open.getD i_1 zChallenge)).getD j (Da.val undef)))))) ∧ (false = false ∧ Value.bool (decide (now ≤ (fnd b.Open i).Until)) = Value.bool (takeB b i a now)))) (((fnd b.Open i).Account == a) = false ∧ ((true = true ∧ (vI b.Seed = vI (takeX b i).Seed ∧ (vI b.Next = vI (takeX b i).Next ∧ (DaEq (Da.row 30 3 (dropI b.Open i).length fun i_1 j => (dasChallenge ((dropI b.Open i).getD i_1 zChallenge)).getD j (Da.val undef)) (Da.row 30 3 (takeX b i).Open.length fun i_1 j => (dasChallenge ((takeX b i).Open.getD i_1 zChallenge)).getD j (Da.val undef)))))) ∧ (false = false ∧ Value.bool false = Value.bool (takeB b i a now))))))))))) (takC b i) (noLoops) Try.func16 (by kernel_rfl) (by kernel_rfl) (by kernel_rfl) (fun _ => trivial) (by kernel_rfl) ?_
  refine ⟨(conCopy _ hn), (conVbk b hn), bcase_intro (fun h2 => ⟨⟨rfl, congrArg _ ?g3, congrArg _ ?g4, ?g5⟩, rfl, congrArg _ ?g6⟩) (fun h2 => ⟨?g7, ?g8, bcase_intro (fun h9 => ⟨⟨rfl, congrArg _ ?g10, congrArg _ ?g11, ?g12⟩, rfl, congrArg _ ?g13⟩) (fun h9 => ⟨?g14, ?g15, bcase_intro (fun h16 => ⟨h16, ⟨rfl, congrArg _ ?g17, congrArg _ ?g18, ?g19⟩, rfl, congrArg _ ?g20⟩) (fun h16 => ⟨h16, ⟨rfl, congrArg _ ?g21, congrArg _ ?g22, ?g23⟩, rfl, congrArg _ ?g24⟩)⟩)⟩)⟩
  case g3 | g4 | g6 =>
    have hv : vbk b = false := by simpa using h2
    first | (unfold takeX; simp [hv]) | (unfold takeB; simp [hv])
  case g5 =>
    have hv : vbk b = false := by simpa using h2
    exact row_to row_self (by unfold takeX; simp [hv])
  all_goals
    have hv : vbk b = true := by simpa using h2
    obtain ⟨ha, hi, hl, hx0, hx1⟩ := vbk_asc hv
  case g7 => exact cust_byId rfl rfl rfl rfl hn ha hi
  case g8 => exact cust_lookOk rfl i0 i1 rfl rfl
  case g10 | g11 | g13 =>
    have hf := has_none (show hasI b.Open i = false by simpa using h9)
    first | (unfold takeX; simp [hf]) | (unfold takeB; simp [hf])
  case g12 =>
    have hf := has_none (show hasI b.Open i = false by simpa using h9)
    exact row_to row_self (by unfold takeX; simp [hf])
  case g14 => exact cust_delete rfl rfl rfl rfl i0 i1 rfl
  case g15 => exact cust_inOrder rfl rfl rfl (len_le List.filter_sublist hn) (asc_filter ha _) (inI_sub List.filter_sublist hi) rfl
  all_goals
    obtain ⟨k, hk⟩ := has_some (show hasI b.Open i = true by simpa using h9)
    have hx : takeX b i = ⟨b.Seed, b.Next, dropI b.Open i⟩ := by unfold takeX; rw [if_pos hv, hk]; simp only; rw [drop_at ha hk]
    have hb : takeB b i a now = (decide ((fnd b.Open i).Account = a) && decide (now ≤ (fnd b.Open i).Until)) := by unfold takeB; rw [hv, hk]; simp only; rw [fnd_pos hk]; rfl
  case g17 | g18 | g21 | g22 => rw [hx]
  case g19 | g23 => exact row_to row_self (by rw [hx])
  case g20 => rw [hb, decide_eq_true (beq_iff_eq.1 h16), Bool.true_and]
  case g24 => rw [hb, decide_eq_false (beq_eq_false_iff_ne.1 h16), Bool.false_and]
theorem conExp (b : Fx.ChallengeBook) (now : Int) (hn : b.Open.length ≤ 16000000) : FnCon Try.prog 17 ([(true, dasChallengeBook b), iV now]) ([(true, dasChallengeBook (expX b now))]) := by
  refine fn_go (p := ((FnCon Try.prog 36 [(false, [rowR 30 3 dasChallenge zChallenge b.Open])] [(false, [rowR 30 3 dasChallenge zChallenge b.Open])]) ∧ ((FnCon Try.prog 19 [(true, dasChallengeBook b)] [(false, [dB ((vbk b))])]) ∧ bcase (!vbk b) (true = true ∧ (vI b.Seed = vI (expX b now).Seed ∧ (vI b.Next = vI (expX b now).Next ∧ (DaEq (rowR 30 3 dasChallenge zChallenge b.Open) (Da.row 30 3 (expX b now).Open.length fun i j => (dasChallenge ((expX b now).Open.getD i zChallenge)).getD j (Da.val undef)))))) ((Cust Try.prog (fun x => True) 50016 (opOf (Try.f17.body.getD Code.skip) 4 2) [AV.one (Sc.val (Value.func (Fn.func 42) { toList := [] } { toList := [] })), AV.one (Sc.own 20016)] [Ob.own (rowR 30 3 dasChallenge zChallenge b.Open)] { need := [], val := AV.one (Sc.own 50016), mem := [(50016, Ob.abs (MapIs b.Open.length b.Open))] }) ∧ ((Cust Try.prog (fun x => True) 60008 (opOf (Try.f17.body.getD Code.skip) 5 1) [AV.one (Sc.ptr 10008 0)] [Ob.var 3 [Sc.val (vI now)]] { need := [], val := AV.one (Sc.own 60008), mem := [(10008, Ob.gone), (60008, Ob.abs (BoundI 45 now))] }) ∧ ((Cust Try.prog (fun x => True) 60016 (opOf (Try.f17.body.getD Code.skip) 5 2) [AV.one (Sc.val (Value.func (Fn.func 44) { toList := [] } { toList := [] })), AV.one (Sc.own 50016), AV.one (Sc.own 60008)] [Ob.abs (MapIs b.Open.length b.Open), Ob.abs (BoundI 45 now)] { need := [], val := AV.no, mem := [(50016, Ob.abs (MapIs b.Open.length (keepT b.Open now)))] }) ∧ ((Cust Try.prog (fun x => True) 70008 (opOf (Try.f17.body.getD Code.skip) 6 1) [AV.one (Sc.val (Value.func (Fn.func 43) { toList := [] } { toList := [] })), AV.one (Sc.own 50016)] [Ob.abs (MapIs b.Open.length (keepT b.Open now))] { need := [], val := AV.one (Sc.own 70008), mem := [(70008, Ob.own (Da.row 30 3 (keepT b.Open now).length fun i j => (dasChallenge ((keepT b.Open now).getD i zChallenge)).getD j (Da.val undef)))] }) ∧ (true = true ∧ (vI b.Seed = vI (expX b now).Seed ∧ (vI b.Next = vI (expX b now).Next ∧ (DaEq (Da.row 30 3 (keepT b.Open now).length fun i j => (dasChallenge ((keepT b.Open now).getD i zChallenge)).getD j (Da.val undef)) (Da.row 30 3 (expX b now).Open.length fun i j => (dasChallenge ((expX b now).Open.getD i zChallenge)).getD j (Da.val undef))))))))))))) (expC b now) (noLoops) Try.func17 (by kernel_rfl) (by kernel_rfl) (by kernel_rfl) (fun _ => trivial) (by kernel_rfl) ?_
  refine ⟨(conCopy _ hn), (conVbk b hn), bcase_intro (fun h2 => ⟨rfl, congrArg _ ?g3, congrArg _ ?g4, ?g5⟩) (fun h2 => ⟨?g6, ?g7, ?g8, ?g9, rfl, congrArg _ ?g10, congrArg _ ?g11, ?g12⟩)⟩
  case g3 | g4 =>
    have hv : vbk b = false := by simpa using h2
    unfold expX; simp [hv]
  case g5 =>
    have hv : vbk b = false := by simpa using h2
    exact row_to row_self (by unfold expX; simp [hv])
  all_goals
    have hv : vbk b = true := by simpa using h2
    obtain ⟨ha, hi, hl, hx0, hx1⟩ := vbk_asc hv
  case g6 => exact cust_byId rfl rfl rfl rfl hn ha hi
  case g7 => exact cust_makeFunc rfl
  case g8 => exact cust_deleteFunc rfl rfl rfl (by omega)
  case g9 => exact cust_inOrder rfl rfl rfl (len_le List.filter_sublist hn) (asc_filter ha _) (inI_sub List.filter_sublist hi) rfl
  all_goals have hx : expX b now = ⟨b.Seed, b.Next, keepT b.Open now⟩ := by unfold expX; rw [if_pos hv]; rfl
  case g10 | g11 => rw [hx]
  case g12 => exact row_to row_self (by rw [hx])
theorem conIssue (b : Fx.ChallengeBook) (a now : Int) (hn : b.Open.length ≤ 16000000) : FnCon Try.prog 13 ([(true, dasChallengeBook b), iV a, iV now]) ([(true, dasChallengeBook (issX b a now)), (true, dasChallenge (issC b a now)), bV (issOk b a now)]) := by
  refine fn_go (p := ((FnCon Try.prog 36 [(false, [rowR 30 3 dasChallenge zChallenge b.Open])] [(false, [rowR 30 3 dasChallenge zChallenge b.Open])]) ∧ bcase (!vbk b) ((FnCon Try.prog 19 [(true, dasChallengeBook b)] [(false, [dB ((vbk b))])]) ∧ ((!vbk b) = true ∧ (true = true ∧ (true = true ∧ ((true = true ∧ (vI b.Seed = vI (issX b a now).Seed ∧ (vI b.Next = vI (issX b a now).Next ∧ (DaEq (rowR 30 3 dasChallenge zChallenge b.Open) (Da.row 30 3 (issX b a now).Open.length fun i j => (dasChallenge ((issX b a now).Open.getD i zChallenge)).getD j (Da.val undef)))))) ∧ ((true = true ∧ (vI 0 = vI (issC b a now).Id ∧ (vI 0 = vI (issC b a now).Account ∧ vI 0 = vI (issC b a now).Until))) ∧ (false = false ∧ Value.bool false = Value.bool (issOk b a now)))))))) (bcase (b.Next == 1000000) ((FnCon Try.prog 19 [(true, dasChallengeBook b)] [(false, [dB ((vbk b))])]) ∧ ((!vbk b) = false ∧ ((b.Next == 1000000) = true ∧ (true = true ∧ ((true = true ∧ (vI b.Seed = vI (issX b a now).Seed ∧ (vI b.Next = vI (issX b a now).Next ∧ (DaEq (rowR 30 3 dasChallenge zChallenge b.Open) (Da.row 30 3 (issX b a now).Open.length fun i j => (dasChallenge ((issX b a now).Open.getD i zChallenge)).getD j (Da.val undef)))))) ∧ ((true = true ∧ (vI 0 = vI (issC b a now).Id ∧ (vI 0 = vI (issC b a now).Account ∧ vI 0 = vI (issC b a now).Until))) ∧ (false = false ∧ Value.bool false = Value.bool (issOk b a now)))))))) (bcase (!inB a 0 1000000) ((FnCon Try.prog 19 [(true, dasChallengeBook b)] [(false, [dB ((vbk b))])]) ∧ ((!vbk b) = false ∧ ((b.Next == 1000000) = false ∧ (FnCon Try.prog 37 [(false, [dI (a)]), (false, [dI (0)]), (false, [dI (1000000)])] [(false, [dB ((inB a 0 1000000))])] ∧ ((!inB a 0 1000000) = true ∧ ((true = true ∧ (vI b.Seed = vI (issX b a now).Seed ∧ (vI b.Next = vI (issX b a now).Next ∧ (DaEq (rowR 30 3 dasChallenge zChallenge b.Open) (Da.row 30 3 (issX b a now).Open.length fun i j => (dasChallenge ((issX b a now).Open.getD i zChallenge)).getD j (Da.val undef)))))) ∧ ((true = true ∧ (vI 0 = vI (issC b a now).Id ∧ (vI 0 = vI (issC b a now).Account ∧ vI 0 = vI (issC b a now).Until))) ∧ (false = false ∧ Value.bool false = Value.bool (issOk b a now))))))))) ((FnCon Try.prog 19 [(true, dasChallengeBook b)] [(false, [dB ((vbk b))])]) ∧ ((!vbk b) = false ∧ ((b.Next == 1000000) = false ∧ (FnCon Try.prog 37 [(false, [dI (a)]), (false, [dI (0)]), (false, [dI (1000000)])] [(false, [dB ((inB a 0 1000000))])] ∧ ((!inB a 0 1000000) = false ∧ (FnCon Try.prog 37 [(false, [dI (now)]), (false, [dI (0)]), (false, [dI (1000000)])] [(false, [dB ((inB now 0 1000000))])] ∧ bcase (!inB now 0 1000000) ((true = true ∧ (vI b.Seed = vI (issX b a now).Seed ∧ (vI b.Next = vI (issX b a now).Next ∧ (DaEq (rowR 30 3 dasChallenge zChallenge b.Open) (Da.row 30 3 (issX b a now).Open.length fun i j => (dasChallenge ((issX b a now).Open.getD i zChallenge)).getD j (Da.val undef)))))) ∧ ((true = true ∧ (vI 0 = vI (issC b a now).Id ∧ (vI 0 = vI (issC b a now).Account ∧ vI 0 = vI (issC b a now).Until))) ∧ (false = false ∧ Value.bool false = Value.bool (issOk b a now)))) (bcase ((↑b.Open.length : Int) == 16) ((Cust Try.prog (fun x => True) 60016 (opOf (Try.f13.body.getD Code.skip) 5 2) [AV.one (Sc.val (Value.func (Fn.func 38) { toList := [] } { toList := [] })), AV.one (Sc.own 20016), AV.one (Sc.val (vI 0)), AV.one (Sc.val (vI 1))] [Ob.own (rowR 30 3 dasChallenge zChallenge b.Open)] { need := [], val := AV.one (Sc.own 60016), mem := [(20016, Ob.gone), (60016, Ob.own (Da.row 30 3 (List.drop 1 b.Open).length fun i j => (dasChallenge ((List.drop 1 b.Open).getD i zChallenge)).getD j (Da.val undef)))] }) ∧ ((E9.PlainEl 1 3 fun i j => Da.val ([vI b.Next, vI a, vI (IntKind.i64.wrap (now + 5))].getD (i * 3 + j) undef)) ∧ ((List.drop 1 b.Open).length + 1 ≤ 1000000000000 ∧ (((List.drop 1 b.Open).length + 1) * 24 ≤ 140737488355328 ∧ ((true = true ∧ (vI b.Seed = vI (issX b a now).Seed ∧ (vI (IntKind.i64.wrap (b.Next + 1)) = vI (issX b a now).Next ∧ (DaEq
  (Da.row 30 3 ((List.drop 1 b.Open).length + 1) fun i j =>
    match i.succ.ble (List.drop 1 b.Open).length with
    | true => (dasChallenge ((List.drop 1 b.Open).getD i zChallenge)).getD j (Da.val undef)
    | false => Da.val ([vI b.Next, vI a, vI (IntKind.i64.wrap (now + 5))].getD ((i - (List.drop 1 b.Open).length) * 3 + j) undef))
  (Da.row 30 3 (issX b a now).Open.length fun i j => (dasChallenge ((issX b a now).Open.getD i zChallenge)).getD j (Da.val undef)))))) ∧ ((true = true ∧ (vI b.Next = vI (issC b a now).Id ∧ (vI a = vI (issC b a now).Account ∧ vI (IntKind.i64.wrap (now + 5)) = vI (issC b a now).Until))) ∧ (false = false ∧ Value.bool true = Value.bool (issOk b a now)))))))) ((E9.PlainEl 1 3 fun i j => Da.val ([vI b.Next, vI a, vI (IntKind.i64.wrap (now + 5))].getD (i * 3 + j) undef)) ∧ (b.Open.length + 1 ≤ 1000000000000 ∧ ((b.Open.length + 1) * 24 ≤ 140737488355328 ∧ ((true = true ∧ (vI b.Seed = vI (issX b a now).Seed ∧ (vI (IntKind.i64.wrap (b.Next + 1)) = vI (issX b a now).Next ∧ (DaEq
  (Da.row 30 3 (b.Open.length + 1) fun i j =>
    match i.succ.ble b.Open.length with
    | true => (dasChallenge (b.Open.getD i zChallenge)).getD j (Da.val undef)
    | false => Da.val ([vI b.Next, vI a, vI (IntKind.i64.wrap (now + 5))].getD ((i - b.Open.length) * 3 + j) undef))
  (Da.row 30 3 (issX b a now).Open.length fun i j => (dasChallenge ((issX b a now).Open.getD i zChallenge)).getD j (Da.val undef)))))) ∧ ((true = true ∧ (vI b.Next = vI (issC b a now).Id ∧ (vI a = vI (issC b a now).Account ∧ vI (IntKind.i64.wrap (now + 5)) = vI (issC b a now).Until))) ∧ (false = false ∧ Value.bool true = Value.bool (issOk b a now)))))))))))))))))) (issO b a now) (noLoops) Try.func13 (by kernel_rfl) (by kernel_rfl) (by kernel_rfl) (fun _ => trivial) (by kernel_rfl) ?_
  refine ⟨(conCopy _ hn), bcase_intro (fun h1 => ⟨(conVbk b hn), h1, rfl, rfl, ⟨rfl, congrArg _ ?g3, congrArg _ ?g4, ?g5⟩, ⟨rfl, congrArg _ ?g6, congrArg _ ?g7, congrArg _ ?g8⟩, rfl, congrArg _ ?g9⟩) (fun h1 => bcase_intro (fun h10 => ⟨(conVbk b hn), h1, h10, rfl, ⟨rfl, congrArg _ ?g12, congrArg _ ?g13, ?g14⟩, ⟨rfl, congrArg _ ?g15, congrArg _ ?g16, congrArg _ ?g17⟩, rfl, congrArg _ ?g18⟩) (fun h10 => bcase_intro (fun h19 => ⟨(conVbk b hn), h1, h10, (conIn _ _ _), h19, ⟨rfl, congrArg _ ?g22, congrArg _ ?g23, ?g24⟩, ⟨rfl, congrArg _ ?g25, congrArg _ ?g26, congrArg _ ?g27⟩, rfl, congrArg _ ?g28⟩) (fun h19 => ⟨(conVbk b hn), h1, h10, (conIn _ _ _), h19, (conIn _ _ _), bcase_intro (fun h32 => ⟨⟨rfl, congrArg _ ?g33, congrArg _ ?g34, ?g35⟩, ⟨rfl, congrArg _ ?g36, congrArg _ ?g37, congrArg _ ?g38⟩, rfl, congrArg _ ?g39⟩) (fun h32 => bcase_intro (fun h40 => ⟨?g41, ?g42, ?g43, ?g44, ⟨rfl, congrArg _ ?g45, congrArg _ ?g46, ?g47⟩, ⟨rfl, congrArg _ ?g48, congrArg _ ?g49, congrArg _ ?g50⟩, rfl, congrArg _ ?g51⟩) (fun h40 => ⟨?g52, ?g53, ?g54, ⟨rfl, congrArg _ ?g55, congrArg _ ?g56, ?g57⟩, ⟨rfl, congrArg _ ?g58, congrArg _ ?g59, congrArg _ ?g60⟩, rfl, congrArg _ ?g61⟩))⟩)))⟩
  case g3 | g4 | g6 | g7 | g8 | g9 | g12 | g13 | g15 | g16 | g17 | g18 | g22 | g23 | g25 | g26 | g27 | g28 | g33 | g34 | g36 | g37 | g38 | g39 =>
    have hk : issOk b a now = false := by rw [issOk_eq]; simp_all
    first | exact hk.symm | (unfold issX; simp [hk]) | (unfold issC; simp [hk])
  case g5 | g14 | g24 | g35 =>
    have hk : issOk b a now = false := by rw [issOk_eq]; simp_all
    exact row_to row_self (by unfold issX; simp [hk])
  case g42 | g52 =>
    intro i hi j hj
    obtain rfl : i = 0 := by omega
    match j, hj with
    | 0, _ => rfl
    | 1, _ => rfl
    | 2, _ => rfl
  all_goals
    have hk : issOk b a now = true := by rw [issOk_eq]; simp_all
    have hnow : IntKind.i64.wrap (now + 5) = now + 5 := by
      have h32 := inB_ok (show inB now 0 1000000 = true by simpa using h32)
      exact IntWalk.i64_in _ (by omega)
    have hv : vbk b = true := by simpa using h1
    obtain ⟨ha, hi, hl, hx0, hx1⟩ := vbk_asc hv
    have hnx : IntKind.i64.wrap (b.Next + 1) = b.Next + 1 := IntWalk.i64_in _ (by omega)
    have hx : issX b a now = ⟨b.Seed, b.Next + 1, b.Open.drop (b.Open.length - 15) ++ [⟨b.Next, a, now + 5⟩]⟩ := by unfold issX; rw [if_pos hk]
    have hc : issC b a now = ⟨b.Next, a, now + 5⟩ := by unfold issC; rw [if_pos hk]
  case g41 =>
    have h40 : b.Open.length = 16 := by have := beq_iff_eq.1 h40; omega
    exact cust_delete1 rfl rfl rfl rfl rfl (by omega) hn
  case g47 =>
    have h40 : b.Open.length = 16 := by have := beq_iff_eq.1 h40; omega
    rw [hx, hnow]
    refine row_to (row_app (row_self (xs := b.Open.drop 1)) (row_one (x := ⟨b.Next, a, now + 5⟩) fun j hj => ?_)) (by rw [show b.Open.length - 15 = 1 by omega])
    match j, hj with
    | 0, _ => rfl
    | 1, _ => rfl
    | 2, _ => rfl
  case g57 =>
    have h40 : b.Open.length ≠ 16 := by have := beq_eq_false_iff_ne.1 h40; omega
    rw [hx, hnow]
    refine row_to (row_app row_self (row_one (x := ⟨b.Next, a, now + 5⟩) fun j hj => ?_)) (by rw [show b.Open.length - 15 = 0 by omega]; rfl)
    match j, hj with
    | 0, _ => rfl
    | 1, _ => rfl
    | 2, _ => rfl
  case g43 | g44 => rw [List.length_drop]; omega
  all_goals first | exact hk.symm | (rw [hx]; done) | (rw [hc]; done) | (rw [hx, hnx]; done) | (rw [hc, hnow]; done) | omega
end Go.Proofs.Ytjkmcnnkifachaa.T12k
