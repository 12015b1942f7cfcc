import Derived.Test.YtllaacdikjffmaaGreatDas
import Derived.Test.YtllaacdikjffmaaGreatC12d
namespace Go.Proofs.YtllaacdikjffmaaGreat.T12s
open Go.ChangeShapes Go.WideShapes Go.ChangeAt Go.RowKit
open S0 S1 S9 Dm Fx M3 C3 C12b C12c C12d E0 E1 E2 E3 E7 E10 E15 E16 E17 E18 E19 Das
set_option linter.unusedVariables false
set_option maxRecDepth 100000
theorem vbk_f {b : Fx.ChallengeBook} (h : ¬ okBook b.Next b.Open) : vbk b = false := by unfold vbk; rw [okB_f h]; rfl
def inB (n lo hi : Int) : Bool := decide (lo ≤ n) && decide (n ≤ hi)
theorem inB_t {n lo hi : Int} (h : lo ≤ n ∧ n ≤ hi) : inB n lo hi = true := by unfold inB; simp [h.1, h.2]
theorem inB_ok {n lo hi : Int} (h : inB n lo hi = true) : lo ≤ n ∧ n ≤ hi := by unfold inB at h; simpa using h
def keepO (qs : List Nat) (obs : Nat → Ob) : List (Nat × Ob) := qs.map fun q => (q, obs q)
def vbkL (b : Fx.ChallengeBook) : Loops := fun r _ => match r with
  | 2 => some ⟨{ i : Nat // i ≤ b.Open.length ∧ Seen b.Next b.Open i }, fun v sl => only [1, 2, 3] 0 (sl.set 3 (.one (.val (vI v.1)))), fun _ obs => keepO [10000] obs, fun v => b.Open.length - v.1⟩
  | _ => none
theorem conIn (n lo hi : Int) : FnCon Tryz.prog 66 ([iV n, iV lo, iV hi]) ([bV (inB n lo hi)]) := by
  refine fn_go (p := bcase (decide (n ≥ lo)) (decide (n ≥ lo) = true ∧ (false = false ∧ Value.bool (decide (n ≤ hi)) = Value.bool (inB n lo hi))) (decide (n ≥ lo) = false ∧ (false = false ∧ Value.bool false = Value.bool (inB n lo hi)))) (noCalls) (noLoops) Tryz.func66 (by kernel_rfl) (by kernel_rfl) (by kernel_rfl) (fun _ => trivial) (by kernel_rfl) ?_
  refine bcase_intro (fun h0 => ⟨h0, rfl, congrArg _ ?g1⟩) (fun h0 => ⟨h0, rfl, congrArg _ ?g2⟩)
  case g1 => unfold inB; rw [show decide (lo ≤ n) = true from h0, Bool.true_and]
  case g2 => unfold inB; rw [show decide (lo ≤ n) = false from h0, Bool.false_and]
theorem plainC (f : Nat → Fx.Challenge) (n : Nat) : E9.PlainEl n 3 (fun i j => (dasChallenge (f i)).getD j (.val undef)) := plain_row (das := dasChallenge) (k := 3) (fun _ => rfl) (fun _ => rfl) f n
theorem conCopy (b : Fx.ChallengeBook) (hn : b.Open.length ≤ 16000000) : FnCon Tryz.prog 43 ([(true, dasChallengeBook b)]) ([(true, dasChallengeBook b)]) := by
  refine fn_go (p := ((E9.PlainEl b.Open.length 3 fun i j => (dasChallenge (b.Open.getD i zChallenge)).getD j (Da.val undef)) ∧ (0 + b.Open.length ≤ 1000000000000 ∧ ((0 + b.Open.length) * 24 ≤ 140737488355328 ∧ (true = true ∧ (vI b.Seed = vI b.Seed ∧ (vI b.Next = vI b.Next ∧ (DaEq (Da.row 67 3 (0 + b.Open.length) fun i j => (dasChallenge (b.Open.getD (i - 0) zChallenge)).getD j (Da.val undef)) (rowR 67 3 dasChallenge zChallenge b.Open))))))))) (noCalls) (noLoops) Tryz.func43 (by kernel_rfl) (by kernel_rfl) (by kernel_rfl) (fun _ => trivial) (by kernel_rfl) ?_
  refine ⟨?g0, ?g1, ?g2, rfl, rfl, rfl, ?g3⟩
  case g0 => exact plainC _ _
  case g3 => exact row_to (row_app row_nil row_self) (by simp)
  all_goals omega
theorem conVbk (b : Fx.ChallengeBook) (hn : b.Open.length ≤ 16000000) : FnCon Tryz.prog 46 ([(true, dasChallengeBook b)]) ([bV (vbk b)]) := by
  refine fn_go (p := ((∃ x0 : { i // i ≤ b.Open.length ∧ Seen b.Next b.Open i }, (((some 10000 = some 10000 ∧ 0 = 0) ∧ (Value.bool false = Value.bool false ∧ (vI 0 = vI (↑x0.1 : Int) ∧ True))) ∧ ((33 = 33 ∧ (vI b.Seed = vI b.Seed ∧ (vI b.Next = vI b.Next ∧ (DaEq (rowR 67 3 dasChallenge zChallenge b.Open) (rowR 67 3 dasChallenge zChallenge b.Open))))) ∧ True))) ∧ (∀ v : { i // i ≤ b.Open.length ∧ Seen b.Next b.Open i }, bcase (decide ((↑v.1 : Int) < (↑b.Open.length : Int))) ((0 ≤ (↑v.1 : Int) ∧ (↑v.1 : Int) < (↑b.Open.length : Int)) ∧ bcase (!inB (b.Open.getD (↑v.1 : Int).toNat zChallenge).Id 0 (IntKind.i64.wrap (b.Next - 1))) (FnCon Tryz.prog 66 [(false, [dI ((b.Open.getD (↑v.1 : Int).toNat zChallenge).Id)]), (false, [dI (0)]), (false, [dI ((IntKind.i64.wrap (b.Next - 1)))])] [(false, [dB ((inB (b.Open.getD (↑v.1 : Int).toNat zChallenge).Id 0 (IntKind.i64.wrap (b.Next - 1))))])] ∧ ((!inB (b.Open.getD (↑v.1 : Int).toNat zChallenge).Id 0 (IntKind.i64.wrap (b.Next - 1))) = true ∧ (true = true ∧ (true = true ∧ (false = false ∧ Value.bool false = Value.bool (vbk b)))))) (bcase (decide ((↑v.1 : Int) > 0)) (bcase (decide ((b.Open.getD (IntKind.i64.wrap ((↑v.1 : Int) - 1)).toNat zChallenge).Id ≥ (b.Open.getD (↑v.1 : Int).toNat zChallenge).Id)) (FnCon Tryz.prog 66 [(false, [dI ((b.Open.getD (↑v.1 : Int).toNat zChallenge).Id)]), (false, [dI (0)]), (false, [dI ((IntKind.i64.wrap (b.Next - 1)))])] [(false, [dB ((inB (b.Open.getD (↑v.1 : Int).toNat zChallenge).Id 0 (IntKind.i64.wrap (b.Next - 1))))])] ∧ ((!inB (b.Open.getD (↑v.1 : Int).toNat zChallenge).Id 0 (IntKind.i64.wrap (b.Next - 1))) = false ∧ (decide ((↑v.1 : Int) > 0) = true ∧ ((0 ≤ IntKind.i64.wrap ((↑v.1 : Int) - 1) ∧ IntKind.i64.wrap ((↑v.1 : Int) - 1) < (↑b.Open.length : Int)) ∧ (decide ((b.Open.getD (IntKind.i64.wrap ((↑v.1 : Int) - 1)).toNat zChallenge).Id ≥ (b.Open.getD (↑v.1 : Int).toNat zChallenge).Id) = true ∧ (true = true ∧ (false = false ∧ Value.bool false = Value.bool (vbk b)))))))) (bcase (!inB (b.Open.getD (↑v.1 : Int).toNat zChallenge).Account 0 1000005) (FnCon Tryz.prog 66 [(false, [dI ((b.Open.getD (↑v.1 : Int).toNat zChallenge).Id)]), (false, [dI (0)]), (false, [dI ((IntKind.i64.wrap (b.Next - 1)))])] [(false, [dB ((inB (b.Open.getD (↑v.1 : Int).toNat zChallenge).Id 0 (IntKind.i64.wrap (b.Next - 1))))])] ∧ ((!inB (b.Open.getD (↑v.1 : Int).toNat zChallenge).Id 0 (IntKind.i64.wrap (b.Next - 1))) = false ∧ (decide ((↑v.1 : Int) > 0) = true ∧ ((0 ≤ IntKind.i64.wrap ((↑v.1 : Int) - 1) ∧ IntKind.i64.wrap ((↑v.1 : Int) - 1) < (↑b.Open.length : Int)) ∧ (decide ((b.Open.getD (IntKind.i64.wrap ((↑v.1 : Int) - 1)).toNat zChallenge).Id ≥ (b.Open.getD (↑v.1 : Int).toNat zChallenge).Id) = false ∧ (FnCon Tryz.prog 66 [(false, [dI ((b.Open.getD (↑v.1 : Int).toNat zChallenge).Account)]), (false, [dI (0)]), (false, [dI (1000005)])] [(false, [dB ((inB (b.Open.getD (↑v.1 : Int).toNat zChallenge).Account 0 1000005))])] ∧ ((!inB (b.Open.getD (↑v.1 : Int).toNat zChallenge).Account 0 1000005) = true ∧ (false = false ∧ Value.bool false = Value.bool (vbk b))))))))) (FnCon Tryz.prog 66 [(false, [dI ((b.Open.getD (↑v.1 : Int).toNat zChallenge).Id)]), (false, [dI (0)]), (false, [dI ((IntKind.i64.wrap (b.Next - 1)))])] [(false, [dB ((inB (b.Open.getD (↑v.1 : Int).toNat zChallenge).Id 0 (IntKind.i64.wrap (b.Next - 1))))])] ∧ ((!inB (b.Open.getD (↑v.1 : Int).toNat zChallenge).Id 0 (IntKind.i64.wrap (b.Next - 1))) = false ∧ (decide ((↑v.1 : Int) > 0) = true ∧ ((0 ≤ IntKind.i64.wrap ((↑v.1 : Int) - 1) ∧ IntKind.i64.wrap ((↑v.1 : Int) - 1) < (↑b.Open.length : Int)) ∧ (decide ((b.Open.getD (IntKind.i64.wrap ((↑v.1 : Int) - 1)).toNat zChallenge).Id ≥ (b.Open.getD (↑v.1 : Int).toNat zChallenge).Id) = false ∧ (FnCon Tryz.prog 66 [(false, [dI ((b.Open.getD (↑v.1 : Int).toNat zChallenge).Account)]), (false, [dI (0)]), (false, [dI (1000005)])] [(false, [dB ((inB (b.Open.getD (↑v.1 : Int).toNat zChallenge).Account 0 1000005))])] ∧ ((!inB (b.Open.getD (↑v.1 : Int).toNat zChallenge).Account 0 1000005) = false ∧ (FnCon Tryz.prog 66 [(false, [dI ((b.Open.getD (↑v.1 : Int).toNat zChallenge).Until)]), (false, [dI (0)]), (false, [dI (1000005)])] [(false, [dB ((inB (b.Open.getD (↑v.1 : Int).toNat zChallenge).Until 0 1000005))])] ∧ bcase (!inB (b.Open.getD (↑v.1 : Int).toNat zChallenge).Until 0 1000005) (false = false ∧ Value.bool false = Value.bool (vbk b)) (∃ v' : { i // i ≤ b.Open.length ∧ Seen b.Next b.Open i }, (b.Open.length.sub v'.1 < b.Open.length.sub v.1 ∧ (((some 10000 = some 10000 ∧ 0 = 0) ∧ (Value.bool false = Value.bool false ∧ (vI (IntKind.i64.wrap ((↑v.1 : Int) + 1)) = vI (↑v'.1 : Int) ∧ True))) ∧ ((33 = 33 ∧ (vI b.Seed = vI b.Seed ∧ (vI b.Next = vI b.Next ∧ (DaEq (rowR 67 3 dasChallenge zChallenge b.Open) (rowR 67 3 dasChallenge zChallenge b.Open))))) ∧ True)))))))))))))) (bcase (!inB (b.Open.getD (↑v.1 : Int).toNat zChallenge).Account 0 1000005) (FnCon Tryz.prog 66 [(false, [dI ((b.Open.getD (↑v.1 : Int).toNat zChallenge).Id)]), (false, [dI (0)]), (false, [dI ((IntKind.i64.wrap (b.Next - 1)))])] [(false, [dB ((inB (b.Open.getD (↑v.1 : Int).toNat zChallenge).Id 0 (IntKind.i64.wrap (b.Next - 1))))])] ∧ ((!inB (b.Open.getD (↑v.1 : Int).toNat zChallenge).Id 0 (IntKind.i64.wrap (b.Next - 1))) = false ∧ (decide ((↑v.1 : Int) > 0) = false ∧ (false = false ∧ (FnCon Tryz.prog 66 [(false, [dI ((b.Open.getD (↑v.1 : Int).toNat zChallenge).Account)]), (false, [dI (0)]), (false, [dI (1000005)])] [(false, [dB ((inB (b.Open.getD (↑v.1 : Int).toNat zChallenge).Account 0 1000005))])] ∧ ((!inB (b.Open.getD (↑v.1 : Int).toNat zChallenge).Account 0 1000005) = true ∧ (false = false ∧ Value.bool false = Value.bool (vbk b)))))))) (FnCon Tryz.prog 66 [(false, [dI ((b.Open.getD (↑v.1 : Int).toNat zChallenge).Id)]), (false, [dI (0)]), (false, [dI ((IntKind.i64.wrap (b.Next - 1)))])] [(false, [dB ((inB (b.Open.getD (↑v.1 : Int).toNat zChallenge).Id 0 (IntKind.i64.wrap (b.Next - 1))))])] ∧ ((!inB (b.Open.getD (↑v.1 : Int).toNat zChallenge).Id 0 (IntKind.i64.wrap (b.Next - 1))) = false ∧ (decide ((↑v.1 : Int) > 0) = false ∧ (false = false ∧ (FnCon Tryz.prog 66 [(false, [dI ((b.Open.getD (↑v.1 : Int).toNat zChallenge).Account)]), (false, [dI (0)]), (false, [dI (1000005)])] [(false, [dB ((inB (b.Open.getD (↑v.1 : Int).toNat zChallenge).Account 0 1000005))])] ∧ ((!inB (b.Open.getD (↑v.1 : Int).toNat zChallenge).Account 0 1000005) = false ∧ (FnCon Tryz.prog 66 [(false, [dI ((b.Open.getD (↑v.1 : Int).toNat zChallenge).Until)]), (false, [dI (0)]), (false, [dI (1000005)])] [(false, [dB ((inB (b.Open.getD (↑v.1 : Int).toNat zChallenge).Until 0 1000005))])] ∧ bcase (!inB (b.Open.getD (↑v.1 : Int).toNat zChallenge).Until 0 1000005) (false = false ∧ Value.bool false = Value.bool (vbk b)) (∃ v' : { i // i ≤ b.Open.length ∧ Seen b.Next b.Open i }, (b.Open.length.sub v'.1 < b.Open.length.sub v.1 ∧ (((some 10000 = some 10000 ∧ 0 = 0) ∧ (Value.bool false = Value.bool false ∧ (vI (IntKind.i64.wrap ((↑v.1 : Int) + 1)) = vI (↑v'.1 : Int) ∧ True))) ∧ ((33 = 33 ∧ (vI b.Seed = vI b.Seed ∧ (vI b.Next = vI b.Next ∧ (DaEq (rowR 67 3 dasChallenge zChallenge b.Open) (rowR 67 3 dasChallenge zChallenge b.Open))))) ∧ True)))))))))))))) (bcase (inB b.Next 0 1000000) (FnCon Tryz.prog 66 [(false, [dI (b.Next)]), (false, [dI (0)]), (false, [dI (1000000)])] [(false, [dB ((inB b.Next 0 1000000))])] ∧ (inB b.Next 0 1000000 = true ∧ (false = false ∧ Value.bool (decide ((↑b.Open.length : Int) ≤ 16)) = Value.bool (vbk b)))) (FnCon Tryz.prog 66 [(false, [dI (b.Next)]), (false, [dI (0)]), (false, [dI (1000000)])] [(false, [dB ((inB b.Next 0 1000000))])] ∧ (inB b.Next 0 1000000 = false ∧ (false = false ∧ Value.bool false = Value.bool (vbk b)))))))) (callsBy fun d _ a => match a with | [(_, [.val (.int _ n)]), (_, [.val (.int _ lo)]), (_, [.val (.int _ hi)])] => some [bV (inB n lo hi)] | _ => none) (vbkL b) Tryz.func46 (by kernel_rfl) (by kernel_rfl) (by kernel_rfl) (fun _ => trivial) (by kernel_rfl) ?_
  refine ⟨⟨⟨0, Nat.zero_le _, ⟨fun j x h => absurd h (Nat.not_lt_zero _), fun j x y h => absurd h (Nat.not_lt_zero _)⟩⟩, ⟨⟨⟨rfl, rfl⟩, rfl, congrArg _ ?g1, trivial⟩, ⟨rfl, rfl, rfl, DaEq.refl _⟩, trivial⟩⟩, fun v => bcase_intro (fun h2 => ⟨⟨?g3, ?g4⟩, bcase_intro (fun h5 => ⟨(conIn _ _ _), h5, rfl, rfl, rfl, congrArg _ ?g7⟩) (fun h5 => bcase_intro (fun h8 => bcase_intro (fun h9 => ⟨(conIn _ _ _), h5, h8, ⟨?g11, ?g12⟩, h9, rfl, rfl, congrArg _ ?g13⟩) (fun h9 => bcase_intro (fun h14 => ⟨(conIn _ _ _), h5, h8, ⟨?g16, ?g17⟩, h9, (conIn _ _ _), h14, rfl, congrArg _ ?g19⟩) (fun h14 => ⟨(conIn _ _ _), h5, h8, ⟨?g21, ?g22⟩, h9, (conIn _ _ _), h14, (conIn _ _ _), bcase_intro (fun h25 => ⟨rfl, congrArg _ ?g26⟩) (fun h25 => ⟨⟨v.1 + 1, ?wa, ?wb⟩, ⟨?g28, ⟨⟨rfl, rfl⟩, rfl, congrArg _ ?g29, trivial⟩, ⟨rfl, rfl, rfl, DaEq.refl _⟩, trivial⟩⟩)⟩))) (fun h8 => bcase_intro (fun h30 => ⟨(conIn _ _ _), h5, h8, rfl, (conIn _ _ _), h30, rfl, congrArg _ ?g33⟩) (fun h30 => ⟨(conIn _ _ _), h5, h8, rfl, (conIn _ _ _), h30, (conIn _ _ _), bcase_intro (fun h37 => ⟨rfl, congrArg _ ?g38⟩) (fun h37 => ⟨⟨v.1 + 1, ?wc, ?wd⟩, ⟨?g40, ⟨⟨rfl, rfl⟩, rfl, congrArg _ ?g41, trivial⟩, ⟨rfl, rfl, rfl, DaEq.refl _⟩, trivial⟩⟩)⟩)))⟩) (fun h2 => bcase_intro (fun h42 => ⟨(conIn _ _ _), h42, rfl, congrArg _ ?g44⟩) (fun h42 => ⟨(conIn _ _ _), h42, rfl, congrArg _ ?g46⟩))⟩
  case g1 => rfl
  case g41 | g29 =>
    have := of_decide_eq_true h2
    show IntKind.i64.wrap ((v.1 : Int) + 1) = ((v.1 + 1 : Nat) : Int)
    rw [IntWalk.i64_in _ (by omega)]; rfl
  case g44 =>
    have h2 := of_decide_eq_false h2
    have h3 := inB_ok h42
    unfold vbk
    rw [okB_t (v.2.2.all (by omega)), decide_eq_true h3, Bool.true_and, Bool.true_and]
    exact decide_eq_decide.2 (by omega)
  case g46 =>
    have h3 : ¬ (0 ≤ b.Next ∧ b.Next ≤ 1000000) := fun h => by rw [inB_t h] at h42; cases h42
    unfold vbk
    rw [decide_eq_false h3, Bool.and_false, Bool.false_and]
  all_goals
    have hl : v.1 < b.Open.length := by have := of_decide_eq_true h2; omega
    have hx : b.Open[v.1]? = some (b.Open.getD v.1 zChallenge) := by simp [List.getElem?_eq_getElem hl]
    have htn : (↑v.1 : Int).toNat = v.1 := Int.toNat_natCast _
    try rw [htn] at h5
  case g7 => exact (vbk_f fun ho => by rw [inB_t (ho.1 _ (List.mem_of_getElem? hx)).1] at h5; cases h5).symm
  case g13 =>
    have h8 := of_decide_eq_true h8
    have h9 := of_decide_eq_true h9
    rw [IntWalk.i64_in _ (by omega), htn, show ((↑v.1 : Int) - 1).toNat = v.1 - 1 by omega] at h9
    have hp : b.Open[v.1 - 1]? = some (b.Open.getD (v.1 - 1) zChallenge) := by simp [List.getElem?_eq_getElem (show v.1 - 1 < b.Open.length by omega)]
    exact (vbk_f fun ho => by have := ho.2 (v.1 - 1) _ _ hp (by rw [show v.1 - 1 + 1 = v.1 by omega]; exact hx); omega).symm
  case g19 => rw [htn] at h14; exact (vbk_f fun ho => by rw [inB_t (ho.1 _ (List.mem_of_getElem? hx)).2.1] at h14; cases h14).symm
  case g33 => rw [htn] at h30; exact (vbk_f fun ho => by rw [inB_t (ho.1 _ (List.mem_of_getElem? hx)).2.1] at h30; cases h30).symm
  case g26 => rw [htn] at h25; exact (vbk_f fun ho => by rw [inB_t (ho.1 _ (List.mem_of_getElem? hx)).2.2] at h25; cases h25).symm
  case g38 => rw [htn] at h37; exact (vbk_f fun ho => by rw [inB_t (ho.1 _ (List.mem_of_getElem? hx)).2.2] at h37; cases h37).symm
  case wb =>
    have h8 := of_decide_eq_true h8
    have h9 := of_decide_eq_false h9
    rw [htn] at h14 h25
    rw [IntWalk.i64_in _ (by omega), htn, show ((↑v.1 : Int) - 1).toNat = v.1 - 1 by omega] at h9
    refine v.2.2.next hx ⟨inB_ok (by simpa using h5), inB_ok (by simpa using h14), inB_ok (by simpa using h25)⟩ fun j y hj hy => ?_
    have : b.Open.getD (v.1 - 1) zChallenge = y := by rw [show v.1 - 1 = j by omega]; simp [List.getD_eq_getElem?_getD, hy]
    rw [this] at h9
    omega
  case wd =>
    have h8 := of_decide_eq_false h8
    rw [htn] at h30 h37
    exact v.2.2.next hx ⟨inB_ok (by simpa using h5), inB_ok (by simpa using h30), inB_ok (by simpa using h37)⟩ fun j y hj hy => by omega
  all_goals first | omega | (have h8 := of_decide_eq_true h8; rw [IntWalk.i64_in _ (by omega)]; omega) | (rw [IntWalk.i64_in _ (by omega)]; rfl) | (show b.Open.length - (v.1 + 1) < b.Open.length - v.1; omega)
end Go.Proofs.YtllaacdikjffmaaGreat.T12s
namespace Go.Proofs.YtllaacdikjffmaaGreat.C12d
open Go.ChangeShapes Go.WideShapes Go.ChangeAt Go.RowKit
open S0 S1 S9 Dm Fx E0 E18 Das C12b C12c
end Go.Proofs.YtllaacdikjffmaaGreat.C12d
