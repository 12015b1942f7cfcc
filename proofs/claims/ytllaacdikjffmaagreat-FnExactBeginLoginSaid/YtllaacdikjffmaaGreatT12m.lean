import Derived.Test.YtllaacdikjffmaaGreatT12i
import Derived.Test.YtllaacdikjffmaaGreatMq
import Derived.Test.YtllaacdikjffmaaGreatC12f
import Derived.Test.YtllaacdikjffmaaGreatC12e
/-
  Chapter 12's IssueChallenge, of the program (seats that reach no map of challenges).
-/
namespace Go.Proofs.YtllaacdikjffmaaGreat.T12m
open Go.ChangeShapes Go.WideShapes Go.ChangeAt Go.RowKit
open S0 S1 S9 Dm Fx M3 C3 C12 C12b C12c C12d C12e C12f E0 E1 E2 E3 E4 E7 E10 E15 E16 E17 E18 E19 E20 Das Mq T12i
set_option linter.unusedVariables false
set_option linter.unusedSimpArgs false
set_option maxRecDepth 100000
theorem cust_delete1 {old : World → Prop} {id q : Nat} {o : Oper} {c : Call} {u : AV} {l : List Fx.Challenge} {d d2 : Da} (ho : o.op = .call c) (hc : c.callee = .value (.func 70)) (hu : AvIds u = []) (hd : d.dc = (rowR 67 3 dasChallenge zChallenge l).dc) (hd2 : d2 = rowR 67 3 dasChallenge zChallenge (l.drop 1)) (h2 : 2 ≤ l.length) (hn : l.length ≤ 16000000) :
    Cust Tryz.prog old id o [u, .one (.own q), .one (.val (.int .i64 0)), .one (.val (.int .i64 1))] [.own d] ⟨[], .one (.own id), [(q, .gone), (id, .own d2)]⟩ := by
  subst hd2
  refine cust_call (hlen := by rw [List.flatMap_cons, hu]; rfl) ho hc (con_enters Tryz.func70 (by kernel_rfl) (by kernel_rfl)) fun W0 obs ρ w args hold hm hv hos hun hn2 => ?_
  obtain ⟨v1, s1, rfl, k1, v2, s2, rfl, k2, v3, s3, rfl, k3, k4⟩ := hv
  obtain rfl : s3 = [] := k4
  obtain rfl : v2 = .int .i64 0 := k2
  obtain rfl : v3 = .int .i64 1 := k3
  have hq : obs q = .own d := by rw [List.flatMap_cons, hu] at hos; simpa [AvIds, ScIds] using hos
  obtain ⟨r, bs, hr, hown⟩ := own_of hm hq
  have h1 := own_val k1 hr
  rw [hd, rowR_dc 67 zChallenge Fx.Challenge.len dasChallenge_dc] at hown
  have hat := many_owns hown
  obtain ⟨g, off, cap, rfl, hg1, hg2⟩ := hat.form (by omega)
  obtain rfl : v1 = _ := h1
  have hbs : bs = [g] := own_block hown
  subst hbs
  obtain ⟨m, hm1⟩ : ∃ m, l.length = m + 1 := ⟨l.length - 1, by omega⟩
  rw [hm1] at hat ⊢
  refine (delete_c w W0.heap.size g off cap m (many l) hat (many_one l) (by omega) (by omega)).mono ?_
  rintro e w' ⟨rfl, hat', hg'⟩
  have hl1 : (l.drop 1).length = m := by rw [List.length_drop]; omega
  rw [show (many l).drop 3 = many (l.drop 1) from (many_drop l 1).symm, ← hl1] at hat'
  have ho2 := owns_manyA hat'
  rw [← rowR_dc 67 zChallenge Fx.Challenge.len dasChallenge_dc] at ho2
  refine ⟨_, rfl, ?_⟩
  rw [← hl1]
  exact post_move hm hr (hun id (Nat.le_refl _) (by omega)) (turned_grown hg') rfl (fun b hb => .inl hb) (by simp) (ob_own ho2)
noncomputable def issO (b : Fx.ChallengeBook) (a t : Int) : Orc := ⟨fun d _ _ => match d with | some 12 => some [(false, [rowR 67 3 dasChallenge zChallenge b.Open])] | some 15 => some [bV (vbk b)] | some 24 => some [bV (inB a 0 1000000)] | some 29 => some [bV (inB t 0 1000000)] | _ => none, fun id vs _ => match id with
  | 60016 => (match vs with | _ :: .one (.own q) :: _ => some ⟨[], .one (.own 60016), [(q, .gone), (60016, .own (rowR 67 3 dasChallenge zChallenge (b.Open.drop 1)))]⟩ | _ => none)
  | _ => none, fun _ => True⟩
theorem inB_dec (n lo hi : Int) : decide (lo ≤ n ∧ n ≤ hi) = inB n lo hi := by unfold inB; simp [Bool.decide_and]
theorem issOk_eq (b : Fx.ChallengeBook) (a now : Int) : issOk b a now = (vbk b && !(b.Next == 1000000) && inB a 0 1000000 && inB now 0 1000000) := by unfold issOk; rw [inB_dec, inB_dec]
theorem conIssue (b : Fx.ChallengeBook) (a now : Int) (hn : b.Open.length ≤ 16000000) : FnCon Tryz.prog 38 ([(true, dasChallengeBook b), iV a, iV now]) ([(true, dasChallengeBook (issX b a now)), (true, dasChallenge (issC b a now)), bV (issOk b a now)]) := by
  refine fn_go (p := ((FnCon Tryz.prog 51 [(false, [rowR 67 3 dasChallenge zChallenge b.Open])] [(false, [rowR 67 3 dasChallenge zChallenge b.Open])]) ∧ bcase (!vbk b) ((FnCon Tryz.prog 68 [(true, (dasChallengeBook b))] [(false, [dB ((vbk b))])]) ∧ ((!vbk b) = true ∧ (true = true ∧ (true = true ∧ ((true = true ∧ (vI b.Seed = vI (issX b a now).Seed ∧ (vI b.Next = vI (issX b a now).Next ∧ (DaEq (rowR 67 3 dasChallenge zChallenge b.Open) (Da.row 67 3 (issX b a now).Open.length fun i j => (dasChallenge ((issX b a now).Open.getD i zChallenge)).getD j (Da.val undef)))))) ∧ ((true = true ∧ (vI 0 = vI (issC b a now).Id ∧ (vI 0 = vI (issC b a now).Account ∧ vI 0 = vI (issC b a now).Until))) ∧ (false = false ∧ Value.bool false = Value.bool (issOk b a now)))))))) (bcase (b.Next == 1000000) ((FnCon Tryz.prog 68 [(true, (dasChallengeBook b))] [(false, [dB ((vbk b))])]) ∧ ((!vbk b) = false ∧ ((b.Next == 1000000) = true ∧ (true = true ∧ ((true = true ∧ (vI b.Seed = vI (issX b a now).Seed ∧ (vI b.Next = vI (issX b a now).Next ∧ (DaEq (rowR 67 3 dasChallenge zChallenge b.Open) (Da.row 67 3 (issX b a now).Open.length fun i j => (dasChallenge ((issX b a now).Open.getD i zChallenge)).getD j (Da.val undef)))))) ∧ ((true = true ∧ (vI 0 = vI (issC b a now).Id ∧ (vI 0 = vI (issC b a now).Account ∧ vI 0 = vI (issC b a now).Until))) ∧ (false = false ∧ Value.bool false = Value.bool (issOk b a now)))))))) (bcase (!inB a 0 1000000) ((FnCon Tryz.prog 68 [(true, (dasChallengeBook b))] [(false, [dB ((vbk b))])]) ∧ ((!vbk b) = false ∧ ((b.Next == 1000000) = false ∧ (FnCon Tryz.prog 69 [(false, [dI (a)]), (false, [dI (0)]), (false, [dI (1000000)])] [(false, [dB ((inB a 0 1000000))])] ∧ ((!inB a 0 1000000) = true ∧ ((true = true ∧ (vI b.Seed = vI (issX b a now).Seed ∧ (vI b.Next = vI (issX b a now).Next ∧ (DaEq (rowR 67 3 dasChallenge zChallenge b.Open) (Da.row 67 3 (issX b a now).Open.length fun i j => (dasChallenge ((issX b a now).Open.getD i zChallenge)).getD j (Da.val undef)))))) ∧ ((true = true ∧ (vI 0 = vI (issC b a now).Id ∧ (vI 0 = vI (issC b a now).Account ∧ vI 0 = vI (issC b a now).Until))) ∧ (false = false ∧ Value.bool false = Value.bool (issOk b a now))))))))) ((FnCon Tryz.prog 68 [(true, (dasChallengeBook b))] [(false, [dB ((vbk b))])]) ∧ ((!vbk b) = false ∧ ((b.Next == 1000000) = false ∧ (FnCon Tryz.prog 69 [(false, [dI (a)]), (false, [dI (0)]), (false, [dI (1000000)])] [(false, [dB ((inB a 0 1000000))])] ∧ ((!inB a 0 1000000) = false ∧ (FnCon Tryz.prog 69 [(false, [dI (now)]), (false, [dI (0)]), (false, [dI (1000000)])] [(false, [dB ((inB now 0 1000000))])] ∧ bcase (!inB now 0 1000000) ((true = true ∧ (vI b.Seed = vI (issX b a now).Seed ∧ (vI b.Next = vI (issX b a now).Next ∧ (DaEq (rowR 67 3 dasChallenge zChallenge b.Open) (Da.row 67 3 (issX b a now).Open.length fun i j => (dasChallenge ((issX b a now).Open.getD i zChallenge)).getD j (Da.val undef)))))) ∧ ((true = true ∧ (vI 0 = vI (issC b a now).Id ∧ (vI 0 = vI (issC b a now).Account ∧ vI 0 = vI (issC b a now).Until))) ∧ (false = false ∧ Value.bool false = Value.bool (issOk b a now)))) (bcase ((↑b.Open.length : Int) == 16) ((Cust Tryz.prog (fun x => True) 60016 (opOf (Tryz.f38.body.getD Code.skip) 5 2) [AV.one (Sc.val (Value.func (Fn.func 70) { toList := [] } { toList := [] })), AV.one (Sc.own 20016), AV.one (Sc.val (vI 0)), AV.one (Sc.val (vI 1))] [Ob.own (rowR 67 3 dasChallenge zChallenge b.Open)] { need := [], val := AV.one (Sc.own 60016), mem := [(20016, Ob.gone), (60016, Ob.own (Da.row 67 3 (List.drop 1 b.Open).length fun i j => (dasChallenge ((List.drop 1 b.Open).getD i zChallenge)).getD j (Da.val undef)))] }) ∧ ((E9.PlainEl 1 3 fun i j => Da.val ([vI b.Next, vI a, vI (IntKind.i64.wrap (now + 5))].getD (i * 3 + j) undef)) ∧ ((List.drop 1 b.Open).length + 1 ≤ 1000000000000 ∧ (((List.drop 1 b.Open).length + 1) * 24 ≤ 140737488355328 ∧ ((true = true ∧ (vI b.Seed = vI (issX b a now).Seed ∧ (vI (IntKind.i64.wrap (b.Next + 1)) = vI (issX b a now).Next ∧ (DaEq
  (Da.row 67 3 ((List.drop 1 b.Open).length + 1) fun i j =>
    match i.succ.ble (List.drop 1 b.Open).length with
    | true => (dasChallenge ((List.drop 1 b.Open).getD i zChallenge)).getD j (Da.val undef)
    | false => Da.val ([vI b.Next, vI a, vI (IntKind.i64.wrap (now + 5))].getD ((i - (List.drop 1 b.Open).length) * 3 + j) undef))
  (Da.row 67 3 (issX b a now).Open.length fun i j => (dasChallenge ((issX b a now).Open.getD i zChallenge)).getD j (Da.val undef)))))) ∧ ((true = true ∧ (vI b.Next = vI (issC b a now).Id ∧ (vI a = vI (issC b a now).Account ∧ vI (IntKind.i64.wrap (now + 5)) = vI (issC b a now).Until))) ∧ (false = false ∧ Value.bool true = Value.bool (issOk b a now)))))))) ((E9.PlainEl 1 3 fun i j => Da.val ([vI b.Next, vI a, vI (IntKind.i64.wrap (now + 5))].getD (i * 3 + j) undef)) ∧ (b.Open.length + 1 ≤ 1000000000000 ∧ ((b.Open.length + 1) * 24 ≤ 140737488355328 ∧ ((true = true ∧ (vI b.Seed = vI (issX b a now).Seed ∧ (vI (IntKind.i64.wrap (b.Next + 1)) = vI (issX b a now).Next ∧ (DaEq
  (Da.row 67 3 (b.Open.length + 1) fun i j =>
    match i.succ.ble b.Open.length with
    | true => (dasChallenge (b.Open.getD i zChallenge)).getD j (Da.val undef)
    | false => Da.val ([vI b.Next, vI a, vI (IntKind.i64.wrap (now + 5))].getD ((i - b.Open.length) * 3 + j) undef))
  (Da.row 67 3 (issX b a now).Open.length fun i j => (dasChallenge ((issX b a now).Open.getD i zChallenge)).getD j (Da.val undef)))))) ∧ ((true = true ∧ (vI b.Next = vI (issC b a now).Id ∧ (vI a = vI (issC b a now).Account ∧ vI (IntKind.i64.wrap (now + 5)) = vI (issC b a now).Until))) ∧ (false = false ∧ Value.bool true = Value.bool (issOk b a now)))))))))))))))))) (issO b a now) (noLoops) Tryz.func38 (by kernel_rfl) (by kernel_rfl) (by kernel_rfl) (fun _ => trivial) (by kernel_rfl) ?_
  refine ⟨(conCopy _ hn), bcase_intro (fun h1 => ⟨(conVbk b hn), h1, rfl, rfl, ⟨rfl, congrArg _ ?g3, congrArg _ ?g4, ?g5⟩, ⟨rfl, congrArg _ ?g6, congrArg _ ?g7, congrArg _ ?g8⟩, rfl, congrArg _ ?g9⟩) (fun h1 => bcase_intro (fun h10 => ⟨(conVbk b hn), h1, h10, rfl, ⟨rfl, congrArg _ ?g12, congrArg _ ?g13, ?g14⟩, ⟨rfl, congrArg _ ?g15, congrArg _ ?g16, congrArg _ ?g17⟩, rfl, congrArg _ ?g18⟩) (fun h10 => bcase_intro (fun h19 => ⟨(conVbk b hn), h1, h10, (conIn _ _ _), h19, ⟨rfl, congrArg _ ?g22, congrArg _ ?g23, ?g24⟩, ⟨rfl, congrArg _ ?g25, congrArg _ ?g26, congrArg _ ?g27⟩, rfl, congrArg _ ?g28⟩) (fun h19 => ⟨(conVbk b hn), h1, h10, (conIn _ _ _), h19, (conIn _ _ _), bcase_intro (fun h32 => ⟨⟨rfl, congrArg _ ?g33, congrArg _ ?g34, ?g35⟩, ⟨rfl, congrArg _ ?g36, congrArg _ ?g37, congrArg _ ?g38⟩, rfl, congrArg _ ?g39⟩) (fun h32 => bcase_intro (fun h40 => ⟨?g41, ?g42, ?g43, ?g44, ⟨rfl, congrArg _ ?g45, congrArg _ ?g46, ?g47⟩, ⟨rfl, congrArg _ ?g48, congrArg _ ?g49, congrArg _ ?g50⟩, rfl, congrArg _ ?g51⟩) (fun h40 => ⟨?g52, ?g53, ?g54, ⟨rfl, congrArg _ ?g55, congrArg _ ?g56, ?g57⟩, ⟨rfl, congrArg _ ?g58, congrArg _ ?g59, congrArg _ ?g60⟩, rfl, congrArg _ ?g61⟩))⟩)))⟩
  case g3 | g4 | g6 | g7 | g8 | g9 | g12 | g13 | g15 | g16 | g17 | g18 | g22 | g23 | g25 | g26 | g27 | g28 | g33 | g34 | g36 | g37 | g38 | g39 =>
    have hk : issOk b a now = false := by rw [issOk_eq]; simp_all
    first | exact hk.symm | (unfold issX; simp [hk]) | (unfold issC; simp [hk])
  case g5 | g14 | g24 | g35 =>
    have hk : issOk b a now = false := by rw [issOk_eq]; simp_all
    exact row_to row_self (by unfold issX; simp [hk])
  case g42 | g52 =>
    intro i hi j hj
    obtain rfl : i = 0 := by omega
    match j, hj with
    | 0, _ => rfl
    | 1, _ => rfl
    | 2, _ => rfl
  all_goals
    have hk : issOk b a now = true := by rw [issOk_eq]; simp_all
    have hnow : IntKind.i64.wrap (now + 5) = now + 5 := by
      have h32 := inB_ok (show inB now 0 1000000 = true by simpa using h32)
      exact IntWalk.i64_in _ (by omega)
    have hv : vbk b = true := by simpa using h1
    obtain ⟨hx0, hx1, hl⟩ := vbk_parts hv
    have hnx : IntKind.i64.wrap (b.Next + 1) = b.Next + 1 := IntWalk.i64_in _ (by omega)
    have hx : issX b a now = ⟨b.Seed, b.Next + 1, b.Open.drop (b.Open.length - 15) ++ [⟨b.Next, a, now + 5⟩]⟩ := by unfold issX; rw [if_pos hk]
    have hc : issC b a now = ⟨b.Next, a, now + 5⟩ := by unfold issC; rw [if_pos hk]
  case g41 =>
    have h40 : b.Open.length = 16 := by have := beq_iff_eq.1 h40; omega
    exact cust_delete1 rfl rfl rfl rfl rfl (by omega) hn
  case g47 =>
    have h40 : b.Open.length = 16 := by have := beq_iff_eq.1 h40; omega
    rw [hx, hnow]
    refine row_to (row_app (row_self (xs := b.Open.drop 1)) (row_one (x := ⟨b.Next, a, now + 5⟩) fun j hj => ?_)) (by rw [show b.Open.length - 15 = 1 by omega])
    match j, hj with
    | 0, _ => rfl
    | 1, _ => rfl
    | 2, _ => rfl
  case g57 =>
    have h40 : b.Open.length ≠ 16 := by have := beq_eq_false_iff_ne.1 h40; omega
    rw [hx, hnow]
    refine row_to (row_app row_self (row_one (x := ⟨b.Next, a, now + 5⟩) fun j hj => ?_)) (by rw [show b.Open.length - 15 = 0 by omega]; rfl)
    match j, hj with
    | 0, _ => rfl
    | 1, _ => rfl
    | 2, _ => rfl
  case g43 | g44 => rw [List.length_drop]; omega
  all_goals first | exact hk.symm | (rw [hx]; done) | (rw [hc]; done) | (rw [hx, hnx]; done) | (rw [hc, hnow]; done) | omega
end Go.Proofs.YtllaacdikjffmaaGreat.T12m
