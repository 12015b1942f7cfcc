import Derived.Test.YtllaacdikjffmaaGreatDas
import Derived.Test.YtllaacdikjffmaaGreatC12c
namespace Go.Proofs.YtllaacdikjffmaaGreat.T12i
open Go.ChangeShapes Go.WideShapes Go.ChangeAt Go.RowKit
open S0 S1 S9 Dm Fx M3 C3 C12b C12c E0 E1 E2 E3 E7 E10 E15 E16 E17 E18 E19 Das
set_option linter.unusedVariables false
set_option maxRecDepth 100000
def inB (n lo hi : Int) : Bool := decide (lo ≤ n) && decide (n ≤ hi)
theorem inB_t {n lo hi : Int} (h : lo ≤ n ∧ n ≤ hi) : inB n lo hi = true := by unfold inB; simp [h.1, h.2]
theorem inB_ok {n lo hi : Int} (h : inB n lo hi = true) : lo ≤ n ∧ n ≤ hi := by unfold inB at h; simpa using h
def keepO (qs : List Nat) (obs : Nat → Ob) : List (Nat × Ob) := qs.map fun q => (q, obs q)
def low (l : List Fx.Challenge) : Nat → Int
  | 0 => 0
  | k + 1 => (l.getD k zChallenge).Id + 1
abbrev IssX (l : List Fx.Challenge) (nx : Int) : Type := { i : Nat // i ≤ l.length ∧ Seen nx l i }
def issL (l : List Fx.Challenge) (nx : Int) : Loops := fun r _ => match r with
  | 3 => some ⟨IssX l nx, fun v sl => only [1, 5, 8, 9, 10] 0 ((sl.set 10 (.one (.val (vI v.1)))).set 5 (.one (.val (vI (low l v.1))))), fun _ _ => [], fun v => l.length - v.1⟩
  | _ => none
theorem conIn (n lo hi : Int) : FnCon Tryz.prog 69 ([iV n, iV lo, iV hi]) ([bV (inB n lo hi)]) := by
  refine fn_go (p := bcase (decide (lo ≤ n)) (decide (lo ≤ n) = true ∧ (false = false ∧ Value.bool (decide (n ≤ hi)) = Value.bool (inB n lo hi))) (decide (lo ≤ n) = false ∧ (false = false ∧ Value.bool false = Value.bool (inB n lo hi)))) (noCalls) (noLoops) Tryz.func69 (by kernel_rfl) (by kernel_rfl) (by kernel_rfl) (fun _ => trivial) (by kernel_rfl) ?_
  refine bcase_intro (fun h0 => ⟨h0, rfl, congrArg _ ?g1⟩) (fun h0 => ⟨h0, rfl, congrArg _ ?g2⟩)
  case g1 => unfold inB; rw [show decide (lo ≤ n) = true from h0, Bool.true_and]
  case g2 => unfold inB; rw [show decide (lo ≤ n) = false from h0, Bool.false_and]
theorem plainC (f : Nat → Fx.Challenge) (n : Nat) : E9.PlainEl n 3 (fun i j => (dasChallenge (f i)).getD j (.val undef)) := plain_row (das := dasChallenge) (k := 3) (fun _ => rfl) (fun _ => rfl) f n
theorem conCopy (l : List Fx.Challenge) (hn : l.length ≤ 16000000) : FnCon Tryz.prog 51 ([(false, [rowR 67 3 dasChallenge zChallenge l])]) ([(false, [rowR 67 3 dasChallenge zChallenge l])]) := by
  refine fn_go (p := ((E9.PlainEl l.length 3 fun i j => (dasChallenge (l.getD i zChallenge)).getD j (Da.val undef)) ∧ (0 + l.length ≤ 1000000000000 ∧ ((0 + l.length) * 24 ≤ 140737488355328 ∧ (false = false ∧ (DaEq (Da.row 67 3 (0 + l.length) fun i j => (dasChallenge (l.getD (i - 0) zChallenge)).getD j (Da.val undef)) (rowR 67 3 dasChallenge zChallenge l))))))) (noCalls) (noLoops) Tryz.func51 (by kernel_rfl) (by kernel_rfl) (by kernel_rfl) (fun _ => trivial) (by kernel_rfl) ?_
  refine ⟨?g0, ?g1, ?g2, rfl, ?g3⟩
  case g0 => exact plainC _ _
  case g3 => exact row_to (row_app row_nil row_self) (by simp)
  all_goals omega
theorem low_le {nx : Int} {l : List Fx.Challenge} {k : Nat} {x : Fx.Challenge} (h : okBook nx l) (hx : l[k]? = some x) : low l k ≤ x.Id := by
  cases k with
  | zero => exact (h.1 x (List.mem_of_getElem? hx)).1.1
  | succ k =>
    have hl := (List.getElem?_eq_some_iff.1 hx).1
    have hp : l[k]? = some (l.getD k zChallenge) := by simp [List.getElem?_eq_getElem (show k < l.length by omega)]
    have := h.2 k _ _ hp hx
    show (l.getD k zChallenge).Id + 1 ≤ x.Id
    omega
theorem low_nn {nx : Int} {l : List Fx.Challenge} {k : Nat} (h : Seen nx l k) (hk : k ≤ l.length) : 0 ≤ low l k := by
  cases k with
  | zero => exact Int.le_refl 0
  | succ k =>
    have hp : l[k]? = some (l.getD k zChallenge) := by simp [List.getElem?_eq_getElem (show k < l.length by omega)]
    have := (h.1 k _ (by omega) hp).1.1
    show 0 ≤ (l.getD k zChallenge).Id + 1
    omega
theorem conIss (l : List Fx.Challenge) (nx : Int) (hn : l.length ≤ 16000000) (hx : 0 ≤ nx ∧ nx ≤ 1000000) : FnCon Tryz.prog 92 ([(false, [rowR 67 3 dasChallenge zChallenge l]), iV nx]) ([bV (okB nx l)]) := by
  refine fn_go (p := ((∃ x0 : IssX l nx, ((vI nx = vI nx ∧ (vI 0 = vI (low l x0.1) ∧ ((67 = 67 ∧ (3 = 3 ∧ (l.length = l.length ∧ (∀ i : Nat, i < l.length → ∀ (j : Nat), j < 3 → (dasChallenge (l.getD i zChallenge)).getD j (Da.val undef) = (dasChallenge (l.getD i zChallenge)).getD j (Da.val undef))))) ∧ (vI (↑l.length : Int) = vI (↑l.length : Int) ∧ (vI 0 = vI (↑x0.1 : Int) ∧ True))))) ∧ True)) ∧ (∀ v : IssX l nx, bcase (decide ((↑v.1 : Int) < (↑l.length : Int))) ((0 ≤ (↑v.1 : Int) ∧ (↑v.1 : Int) < (↑l.length : Int)) ∧ bcase (!inB (l.getD (↑v.1 : Int).toNat zChallenge).Id (low l v.1) (IntKind.i64.wrap (nx - 1))) (FnCon Tryz.prog 69 [(false, [dI ((l.getD (↑v.1 : Int).toNat zChallenge).Id)]), (false, [dI ((low l v.1))]), (false, [dI ((IntKind.i64.wrap (nx - 1)))])] [(false, [dB ((inB (l.getD (↑v.1 : Int).toNat zChallenge).Id (low l v.1) (IntKind.i64.wrap (nx - 1))))])] ∧ ((!inB (l.getD (↑v.1 : Int).toNat zChallenge).Id (low l v.1) (IntKind.i64.wrap (nx - 1))) = true ∧ (true = true ∧ (false = false ∧ Value.bool false = Value.bool (okB nx l))))) (bcase (!inB (l.getD (↑v.1 : Int).toNat zChallenge).Account 0 1000005) (FnCon Tryz.prog 69 [(false, [dI ((l.getD (↑v.1 : Int).toNat zChallenge).Id)]), (false, [dI ((low l v.1))]), (false, [dI ((IntKind.i64.wrap (nx - 1)))])] [(false, [dB ((inB (l.getD (↑v.1 : Int).toNat zChallenge).Id (low l v.1) (IntKind.i64.wrap (nx - 1))))])] ∧ ((!inB (l.getD (↑v.1 : Int).toNat zChallenge).Id (low l v.1) (IntKind.i64.wrap (nx - 1))) = false ∧ (FnCon Tryz.prog 69 [(false, [dI ((l.getD (↑v.1 : Int).toNat zChallenge).Account)]), (false, [dI (0)]), (false, [dI (1000005)])] [(false, [dB ((inB (l.getD (↑v.1 : Int).toNat zChallenge).Account 0 1000005))])] ∧ ((!inB (l.getD (↑v.1 : Int).toNat zChallenge).Account 0 1000005) = true ∧ (false = false ∧ Value.bool false = Value.bool (okB nx l)))))) (FnCon Tryz.prog 69 [(false, [dI ((l.getD (↑v.1 : Int).toNat zChallenge).Id)]), (false, [dI ((low l v.1))]), (false, [dI ((IntKind.i64.wrap (nx - 1)))])] [(false, [dB ((inB (l.getD (↑v.1 : Int).toNat zChallenge).Id (low l v.1) (IntKind.i64.wrap (nx - 1))))])] ∧ ((!inB (l.getD (↑v.1 : Int).toNat zChallenge).Id (low l v.1) (IntKind.i64.wrap (nx - 1))) = false ∧ (FnCon Tryz.prog 69 [(false, [dI ((l.getD (↑v.1 : Int).toNat zChallenge).Account)]), (false, [dI (0)]), (false, [dI (1000005)])] [(false, [dB ((inB (l.getD (↑v.1 : Int).toNat zChallenge).Account 0 1000005))])] ∧ ((!inB (l.getD (↑v.1 : Int).toNat zChallenge).Account 0 1000005) = false ∧ (FnCon Tryz.prog 69 [(false, [dI ((l.getD (↑v.1 : Int).toNat zChallenge).Until)]), (false, [dI (0)]), (false, [dI (1000005)])] [(false, [dB ((inB (l.getD (↑v.1 : Int).toNat zChallenge).Until 0 1000005))])] ∧ bcase (!inB (l.getD (↑v.1 : Int).toNat zChallenge).Until 0 1000005) (false = false ∧ Value.bool false = Value.bool (okB nx l)) (∃ v' : IssX l nx, (l.length.sub v'.1 < l.length.sub v.1 ∧ ((vI nx = vI nx ∧ (vI (IntKind.i64.wrap ((l.getD (↑v.1 : Int).toNat zChallenge).Id + 1)) = vI (low l v'.1) ∧ ((67 = 67 ∧ (3 = 3 ∧ (l.length = l.length ∧ (∀ i : Nat, i < l.length → ∀ (j : Nat), j < 3 → (dasChallenge (l.getD i zChallenge)).getD j (Da.val undef) = (dasChallenge (l.getD i zChallenge)).getD j (Da.val undef))))) ∧ (vI (↑l.length : Int) = vI (↑l.length : Int) ∧ (vI (IntKind.i64.wrap ((↑v.1 : Int) + 1)) = vI (↑v'.1 : Int) ∧ True))))) ∧ True)))))))))) (false = false ∧ Value.bool true = Value.bool (okB nx l))))) (callsBy fun d _ a => match a with | [(_, [.val (.int _ n)]), (_, [.val (.int _ lo)]), (_, [.val (.int _ hi)])] => some [bV (inB n lo hi)] | _ => none) (issL l nx) Tryz.func92 (by kernel_rfl) (by kernel_rfl) (by kernel_rfl) (fun _ => trivial) (by kernel_rfl) ?_
  refine ⟨⟨⟨0, Nat.zero_le _, ⟨fun j x h => absurd h (Nat.not_lt_zero _), fun j x y h => absurd h (Nat.not_lt_zero _)⟩⟩, ⟨⟨rfl, congrArg _ ?g1, ⟨rfl, rfl, rfl, fun i => fun _ => fun j => fun _ => rfl⟩, rfl, congrArg _ ?g2, trivial⟩, trivial⟩⟩, fun v => bcase_intro (fun h3 => ⟨⟨?g4, ?g5⟩, bcase_intro (fun h6 => ⟨(conIn _ _ _), h6, rfl, rfl, congrArg _ ?g8⟩) (fun h6 => bcase_intro (fun h9 => ⟨(conIn _ _ _), h6, (conIn _ _ _), h9, rfl, congrArg _ ?g12⟩) (fun h9 => ⟨(conIn _ _ _), h6, (conIn _ _ _), h9, (conIn _ _ _), bcase_intro (fun h16 => ⟨rfl, congrArg _ ?g17⟩) (fun h16 => ⟨⟨v.1 + 1, ?wa, ?wb⟩, ⟨?g19, ⟨rfl, congrArg _ ?g20, ⟨rfl, rfl, rfl, fun i => fun _ => fun j => fun _ => rfl⟩, rfl, congrArg _ ?g21, trivial⟩, trivial⟩⟩)⟩))⟩) (fun h3 => ⟨rfl, congrArg _ ?g22⟩)⟩
  case g1 => rfl
  case g2 => rfl
  case g22 =>
    have h3 := of_decide_eq_false h3
    exact (okB_t (v.2.2.all (by omega))).symm
  all_goals
    have hl : v.1 < l.length := by have := of_decide_eq_true h3; omega
    have hq : l[v.1]? = some (l.getD v.1 zChallenge) := by simp [List.getElem?_eq_getElem hl]
    have htn : (↑v.1 : Int).toNat = v.1 := Int.toNat_natCast _
  case g4 | g5 => omega
  case wa => omega
  case g19 => show l.length - (v.1 + 1) < l.length - v.1; omega
  case g21 => show IntKind.i64.wrap ((v.1 : Int) + 1) = ((v.1 + 1 : Nat) : Int); rw [IntWalk.i64_in _ (by omega)]; rfl
  all_goals rw [htn] at h6
  case g8 => exact (okB_f fun ho => by rw [inB_t ⟨low_le ho hq, (ho.1 _ (List.mem_of_getElem? hq)).1.2⟩] at h6; cases h6).symm
  all_goals rw [htn] at h9
  case g12 => exact (okB_f fun ho => by rw [inB_t (ho.1 _ (List.mem_of_getElem? hq)).2.1] at h9; cases h9).symm
  all_goals rw [htn] at h16
  case g17 => exact (okB_f fun ho => by rw [inB_t (ho.1 _ (List.mem_of_getElem? hq)).2.2] at h16; cases h16).symm
  all_goals
    have hId := inB_ok (show inB (l.getD v.1 zChallenge).Id (low l v.1) (IntKind.i64.wrap (nx - 1)) = true by simpa using h6)
    have hnn := low_nn v.2.2 v.2.1
    rw [IntWalk.i64_in _ (by omega)] at hId
  case g20 =>
    show IntKind.i64.wrap ((l.getD (↑v.1 : Int).toNat zChallenge).Id + 1) = (l.getD v.1 zChallenge).Id + 1
    rw [htn, IntWalk.i64_in _ (by omega)]
  case wb =>
    refine v.2.2.next hq ⟨⟨by omega, by rw [IntWalk.i64_in _ (by omega)]; omega⟩, inB_ok (by simpa using h9), inB_ok (by simpa using h16)⟩ fun j y hj hy => ?_
    have hlo : low l v.1 = y.Id + 1 := by
      rw [hj]
      show (l.getD j zChallenge).Id + 1 = y.Id + 1
      rw [List.getD_eq_getElem?_getD, hy]; rfl
    omega
theorem conVbk (b : Fx.ChallengeBook) (hn : b.Open.length ≤ 16000000) : FnCon Tryz.prog 68 ([(true, dasChallengeBook b)]) ([bV (vbk b)]) := by
  refine fn_go (p := bcase (inB b.Next 0 1000000) (bcase (decide ((↑b.Open.length : Int) ≤ 16)) (FnCon Tryz.prog 69 [(false, [dI (b.Next)]), (false, [dI (0)]), (false, [dI (1000000)])] [(false, [dB ((inB b.Next 0 1000000))])] ∧ (inB b.Next 0 1000000 = true ∧ (decide ((↑b.Open.length : Int) ≤ 16) = true ∧ ((FnCon Tryz.prog 92 [(false, [rowR 67 3 dasChallenge zChallenge b.Open]), (false, [dI (b.Next)])] [(false, [dB ((okB b.Next b.Open))])]) ∧ (false = false ∧ Value.bool (okB b.Next b.Open) = Value.bool (vbk b)))))) (FnCon Tryz.prog 69 [(false, [dI (b.Next)]), (false, [dI (0)]), (false, [dI (1000000)])] [(false, [dB ((inB b.Next 0 1000000))])] ∧ (inB b.Next 0 1000000 = true ∧ (decide ((↑b.Open.length : Int) ≤ 16) = false ∧ (false = false ∧ Value.bool false = Value.bool (vbk b)))))) (FnCon Tryz.prog 69 [(false, [dI (b.Next)]), (false, [dI (0)]), (false, [dI (1000000)])] [(false, [dB ((inB b.Next 0 1000000))])] ∧ (inB b.Next 0 1000000 = false ∧ (false = false ∧ (false = false ∧ Value.bool false = Value.bool (vbk b)))))) (callsBy fun d _ a => match d with | some 5 => some [bV (inB b.Next 0 1000000)] | some 17 => some [bV (okB b.Next b.Open)] | _ => none) (noLoops) Tryz.func68 (by kernel_rfl) (by kernel_rfl) (by kernel_rfl) (fun _ => trivial) (by kernel_rfl) ?_
  refine bcase_intro (fun h0 => bcase_intro (fun h1 => ⟨(conIn _ _ _), h0, h1, (conIss _ _ hn (inB_ok h0)), rfl, congrArg _ ?g4⟩) (fun h1 => ⟨(conIn _ _ _), h0, h1, rfl, congrArg _ ?g6⟩)) (fun h0 => ⟨(conIn _ _ _), h0, rfl, rfl, congrArg _ ?g8⟩)
  case g4 =>
    have h1 := of_decide_eq_true h1
    unfold vbk
    rw [decide_eq_true (inB_ok h0), Bool.and_true, decide_eq_true (by omega), Bool.and_true]
  case g6 =>
    have h1 := of_decide_eq_false h1
    unfold vbk
    rw [decide_eq_false (p := b.Open.length ≤ 16) (by omega), Bool.and_false]
  case g8 =>
    have h3 : ¬ (0 ≤ b.Next ∧ b.Next ≤ 1000000) := fun h => by rw [inB_t h] at h0; cases h0
    unfold vbk
    rw [decide_eq_false h3, Bool.and_false, Bool.false_and]
end Go.Proofs.YtllaacdikjffmaaGreat.T12i
