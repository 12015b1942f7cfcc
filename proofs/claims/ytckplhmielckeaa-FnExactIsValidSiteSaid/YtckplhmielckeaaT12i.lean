import Derived.Test.YtckplhmielckeaaDas
import Derived.Test.YtckplhmielckeaaC12c
namespace Go.Proofs.Ytckplhmielckeaa.T12i
open Go.ChangeShapes Go.WideShapes Go.ChangeAt Go.RowKit
open S0 S1 S9 Dm Fx M3 C3 C12 C12b C12c E0 E1 E2 E3 E7 E10 E15 E16 E17 E18 E19 Das
set_option linter.unusedVariables false
set_option maxRecDepth 100000
theorem vbk_f {b : Fx.ChallengeBook} (h : ¬ okBook b.Next b.Open) : vbk b = false := by unfold vbk; rw [okB_f h]; rfl
def inB (n lo hi : Int) : Bool := decide (lo ≤ n) && decide (n ≤ hi)
theorem inB_t {n lo hi : Int} (h : lo ≤ n ∧ n ≤ hi) : inB n lo hi = true := by unfold inB; simp [h.1, h.2]
theorem inB_ok {n lo hi : Int} (h : inB n lo hi = true) : lo ≤ n ∧ n ≤ hi := by unfold inB at h; simpa using h
def keepO (qs : List Nat) (obs : Nat → Ob) : List (Nat × Ob) := qs.map fun q => (q, obs q)
def low (l : List Fx.Challenge) : Nat → Int
  | 0 => 0
  | k + 1 => (l.getD k zChallenge).Id + 1
abbrev IssX (l : List Fx.Challenge) (nx : Int) : Type := { i : Nat // i ≤ l.length ∧ Seen nx l i }
def issL (l : List Fx.Challenge) (nx : Int) : Loops := fun r _ => match r with
  | 3 => some ⟨IssX l nx, fun v sl => only [1, 5, 8, 9, 10] 0 ((sl.set 10 (.one (.val (vI v.1)))).set 5 (.one (.val (vI (low l v.1))))), fun _ _ => [], fun v => l.length - v.1⟩
  | _ => none
abbrev EqlX (l m : List Fx.Challenge) : Type := { i : Nat // i ≤ l.length ∧ l.length = m.length ∧ ∀ j, j < i → cel (l.getD j zChallenge) = cel (m.getD j zChallenge) }
def eqlL (l m : List Fx.Challenge) : Loops := fun r _ => match r with
  | 4 => some ⟨EqlX l m, fun v sl => only [0, 1, 12, 13] 0 (sl.set 13 (.one (.val (vI v.1)))), fun _ _ => [], fun v => l.length - v.1⟩
  | _ => none
theorem conIn (n lo hi : Int) : FnCon Try.prog 78 ([iV n, iV lo, iV hi]) ([bV (inB n lo hi)]) := by
  refine fn_go (p := bcase (decide (lo ≤ n)) (decide (lo ≤ n) = true ∧ (false = false ∧ Value.bool (decide (n ≤ hi)) = Value.bool (inB n lo hi))) (decide (lo ≤ n) = false ∧ (false = false ∧ Value.bool false = Value.bool (inB n lo hi)))) (noCalls) (noLoops) Try.func78 (by kernel_rfl) (by kernel_rfl) (by kernel_rfl) (fun _ => trivial) (by kernel_rfl) ?_
  refine bcase_intro (fun h0 => ⟨h0, rfl, congrArg _ ?g1⟩) (fun h0 => ⟨h0, rfl, congrArg _ ?g2⟩)
  case g1 => unfold inB; rw [show decide (lo ≤ n) = true from h0, Bool.true_and]
  case g2 => unfold inB; rw [show decide (lo ≤ n) = false from h0, Bool.false_and]
theorem plainC (f : Nat → Fx.Challenge) (n : Nat) : E9.PlainEl n 3 (fun i j => (dasChallenge (f i)).getD j (.val undef)) := plain_row (das := dasChallenge) (k := 3) (fun _ => rfl) (fun _ => rfl) f n
theorem conCopy (l : List Fx.Challenge) (hn : l.length ≤ 16000000) : FnCon Try.prog 83 ([(false, [rowR 92 3 dasChallenge zChallenge l])]) ([(false, [rowR 92 3 dasChallenge zChallenge l])]) := by
  refine fn_go (p := ((E9.PlainEl l.length 3 fun i j => (dasChallenge (l.getD i zChallenge)).getD j (Da.val undef)) ∧ (0 + l.length ≤ 1000000000000 ∧ ((0 + l.length) * 24 ≤ 140737488355328 ∧ (false = false ∧ (DaEq (Da.row 92 3 (0 + l.length) fun i j => (dasChallenge (l.getD (i - 0) zChallenge)).getD j (Da.val undef)) (rowR 92 3 dasChallenge zChallenge l))))))) (noCalls) (noLoops) Try.func83 (by kernel_rfl) (by kernel_rfl) (by kernel_rfl) (fun _ => trivial) (by kernel_rfl) ?_
  refine ⟨?g0, ?g1, ?g2, rfl, ?g3⟩
  case g0 => exact plainC _ _
  case g3 => exact row_to (row_app row_nil row_self) (by simp)
  all_goals omega
theorem low_le {nx : Int} {l : List Fx.Challenge} {k : Nat} {x : Fx.Challenge} (h : okBook nx l) (hx : l[k]? = some x) : low l k ≤ x.Id := by
  cases k with
  | zero => exact (h.1 x (List.mem_of_getElem? hx)).1.1
  | succ k =>
    have hl := (List.getElem?_eq_some_iff.1 hx).1
    have hp : l[k]? = some (l.getD k zChallenge) := by simp [List.getElem?_eq_getElem (show k < l.length by omega)]
    have := h.2 k _ _ hp hx
    show (l.getD k zChallenge).Id + 1 ≤ x.Id
    omega
theorem low_nn {nx : Int} {l : List Fx.Challenge} {k : Nat} (h : Seen nx l k) (hk : k ≤ l.length) : 0 ≤ low l k := by
  cases k with
  | zero => exact Int.le_refl 0
  | succ k =>
    have hp : l[k]? = some (l.getD k zChallenge) := by simp [List.getElem?_eq_getElem (show k < l.length by omega)]
    have := (h.1 k _ (by omega) hp).1.1
    show 0 ≤ (l.getD k zChallenge).Id + 1
    omega
theorem conIss (l : List Fx.Challenge) (nx : Int) (hn : l.length ≤ 16000000) (hx : 0 ≤ nx ∧ nx ≤ 1000000) : FnCon Try.prog 79 ([(false, [rowR 92 3 dasChallenge zChallenge l]), iV nx]) ([bV (okB nx l)]) := by
  refine fn_go (p := ((∃ x0 : IssX l nx, ((vI nx = vI nx ∧ (vI 0 = vI (low l x0.1) ∧ ((92 = 92 ∧ (3 = 3 ∧ (l.length = l.length ∧ (∀ i : Nat, i < l.length → ∀ (j : Nat), j < 3 → (dasChallenge (l.getD i zChallenge)).getD j (Da.val undef) = (dasChallenge (l.getD i zChallenge)).getD j (Da.val undef))))) ∧ (vI (↑l.length : Int) = vI (↑l.length : Int) ∧ (vI 0 = vI (↑x0.1 : Int) ∧ True))))) ∧ True)) ∧ (∀ v : IssX l nx, bcase (decide ((↑v.1 : Int) < (↑l.length : Int))) ((0 ≤ (↑v.1 : Int) ∧ (↑v.1 : Int) < (↑l.length : Int)) ∧ bcase (!inB (l.getD (↑v.1 : Int).toNat zChallenge).Id (low l v.1) (IntKind.i64.wrap (nx - 1))) (FnCon Try.prog 78 [(false, [dI ((l.getD (↑v.1 : Int).toNat zChallenge).Id)]), (false, [dI ((low l v.1))]), (false, [dI ((IntKind.i64.wrap (nx - 1)))])] [(false, [dB ((inB (l.getD (↑v.1 : Int).toNat zChallenge).Id (low l v.1) (IntKind.i64.wrap (nx - 1))))])] ∧ ((!inB (l.getD (↑v.1 : Int).toNat zChallenge).Id (low l v.1) (IntKind.i64.wrap (nx - 1))) = true ∧ (true = true ∧ (false = false ∧ Value.bool false = Value.bool (okB nx l))))) (bcase (!inB (l.getD (↑v.1 : Int).toNat zChallenge).Account 0 1000005) (FnCon Try.prog 78 [(false, [dI ((l.getD (↑v.1 : Int).toNat zChallenge).Id)]), (false, [dI ((low l v.1))]), (false, [dI ((IntKind.i64.wrap (nx - 1)))])] [(false, [dB ((inB (l.getD (↑v.1 : Int).toNat zChallenge).Id (low l v.1) (IntKind.i64.wrap (nx - 1))))])] ∧ ((!inB (l.getD (↑v.1 : Int).toNat zChallenge).Id (low l v.1) (IntKind.i64.wrap (nx - 1))) = false ∧ (FnCon Try.prog 78 [(false, [dI ((l.getD (↑v.1 : Int).toNat zChallenge).Account)]), (false, [dI (0)]), (false, [dI (1000005)])] [(false, [dB ((inB (l.getD (↑v.1 : Int).toNat zChallenge).Account 0 1000005))])] ∧ ((!inB (l.getD (↑v.1 : Int).toNat zChallenge).Account 0 1000005) = true ∧ (false = false ∧ Value.bool false = Value.bool (okB nx l)))))) (FnCon Try.prog 78 [(false, [dI ((l.getD (↑v.1 : Int).toNat zChallenge).Id)]), (false, [dI ((low l v.1))]), (false, [dI ((IntKind.i64.wrap (nx - 1)))])] [(false, [dB ((inB (l.getD (↑v.1 : Int).toNat zChallenge).Id (low l v.1) (IntKind.i64.wrap (nx - 1))))])] ∧ ((!inB (l.getD (↑v.1 : Int).toNat zChallenge).Id (low l v.1) (IntKind.i64.wrap (nx - 1))) = false ∧ (FnCon Try.prog 78 [(false, [dI ((l.getD (↑v.1 : Int).toNat zChallenge).Account)]), (false, [dI (0)]), (false, [dI (1000005)])] [(false, [dB ((inB (l.getD (↑v.1 : Int).toNat zChallenge).Account 0 1000005))])] ∧ ((!inB (l.getD (↑v.1 : Int).toNat zChallenge).Account 0 1000005) = false ∧ (FnCon Try.prog 78 [(false, [dI ((l.getD (↑v.1 : Int).toNat zChallenge).Until)]), (false, [dI (0)]), (false, [dI (1000005)])] [(false, [dB ((inB (l.getD (↑v.1 : Int).toNat zChallenge).Until 0 1000005))])] ∧ bcase (!inB (l.getD (↑v.1 : Int).toNat zChallenge).Until 0 1000005) (false = false ∧ Value.bool false = Value.bool (okB nx l)) (∃ v' : IssX l nx, (l.length.sub v'.1 < l.length.sub v.1 ∧ ((vI nx = vI nx ∧ (vI (IntKind.i64.wrap ((l.getD (↑v.1 : Int).toNat zChallenge).Id + 1)) = vI (low l v'.1) ∧ ((92 = 92 ∧ (3 = 3 ∧ (l.length = l.length ∧ (∀ i : Nat, i < l.length → ∀ (j : Nat), j < 3 → (dasChallenge (l.getD i zChallenge)).getD j (Da.val undef) = (dasChallenge (l.getD i zChallenge)).getD j (Da.val undef))))) ∧ (vI (↑l.length : Int) = vI (↑l.length : Int) ∧ (vI (IntKind.i64.wrap ((↑v.1 : Int) + 1)) = vI (↑v'.1 : Int) ∧ True))))) ∧ True)))))))))) (false = false ∧ Value.bool true = Value.bool (okB nx l))))) (callsBy fun d _ a => match a with | [(_, [.val (.int _ n)]), (_, [.val (.int _ lo)]), (_, [.val (.int _ hi)])] => some [bV (inB n lo hi)] | _ => none) (issL l nx) Try.func79 (by kernel_rfl) (by kernel_rfl) (by kernel_rfl) (fun _ => trivial) (by kernel_rfl) ?_
  refine ⟨⟨⟨0, Nat.zero_le _, ⟨fun j x h => absurd h (Nat.not_lt_zero _), fun j x y h => absurd h (Nat.not_lt_zero _)⟩⟩, ⟨⟨rfl, congrArg _ ?g1, ⟨rfl, rfl, rfl, fun i => fun _ => fun j => fun _ => rfl⟩, rfl, congrArg _ ?g2, trivial⟩, trivial⟩⟩, fun v => bcase_intro (fun h3 => ⟨⟨?g4, ?g5⟩, bcase_intro (fun h6 => ⟨(conIn _ _ _), h6, rfl, rfl, congrArg _ ?g8⟩) (fun h6 => bcase_intro (fun h9 => ⟨(conIn _ _ _), h6, (conIn _ _ _), h9, rfl, congrArg _ ?g12⟩) (fun h9 => ⟨(conIn _ _ _), h6, (conIn _ _ _), h9, (conIn _ _ _), bcase_intro (fun h16 => ⟨rfl, congrArg _ ?g17⟩) (fun h16 => ⟨⟨v.1 + 1, ?wa, ?wb⟩, ⟨?g19, ⟨rfl, congrArg _ ?g20, ⟨rfl, rfl, rfl, fun i => fun _ => fun j => fun _ => rfl⟩, rfl, congrArg _ ?g21, trivial⟩, trivial⟩⟩)⟩))⟩) (fun h3 => ⟨rfl, congrArg _ ?g22⟩)⟩
  case g1 => rfl
  case g2 => rfl
  case g22 =>
    have h3 := of_decide_eq_false h3
    exact (okB_t (v.2.2.all (by omega))).symm
  all_goals
    have hl : v.1 < l.length := by have := of_decide_eq_true h3; omega
    have hq : l[v.1]? = some (l.getD v.1 zChallenge) := by simp [List.getElem?_eq_getElem hl]
    have htn : (↑v.1 : Int).toNat = v.1 := Int.toNat_natCast _
  case g4 | g5 => omega
  case wa => omega
  case g19 => show l.length - (v.1 + 1) < l.length - v.1; omega
  case g21 => show IntKind.i64.wrap ((v.1 : Int) + 1) = ((v.1 + 1 : Nat) : Int); rw [IntWalk.i64_in _ (by omega)]; rfl
  all_goals rw [htn] at h6
  case g8 => exact (okB_f fun ho => by rw [inB_t ⟨low_le ho hq, (ho.1 _ (List.mem_of_getElem? hq)).1.2⟩] at h6; cases h6).symm
  all_goals rw [htn] at h9
  case g12 => exact (okB_f fun ho => by rw [inB_t (ho.1 _ (List.mem_of_getElem? hq)).2.1] at h9; cases h9).symm
  all_goals rw [htn] at h16
  case g17 => exact (okB_f fun ho => by rw [inB_t (ho.1 _ (List.mem_of_getElem? hq)).2.2] at h16; cases h16).symm
  all_goals
    have hId := inB_ok (show inB (l.getD v.1 zChallenge).Id (low l v.1) (IntKind.i64.wrap (nx - 1)) = true by simpa using h6)
    have hnn := low_nn v.2.2 v.2.1
    rw [IntWalk.i64_in _ (by omega)] at hId
  case g20 =>
    show IntKind.i64.wrap ((l.getD (↑v.1 : Int).toNat zChallenge).Id + 1) = (l.getD v.1 zChallenge).Id + 1
    rw [htn, IntWalk.i64_in _ (by omega)]
  case wb =>
    refine v.2.2.next hq ⟨⟨by omega, by rw [IntWalk.i64_in _ (by omega)]; omega⟩, inB_ok (by simpa using h9), inB_ok (by simpa using h16)⟩ fun j y hj hy => ?_
    have hlo : low l v.1 = y.Id + 1 := by
      rw [hj]
      show (l.getD j zChallenge).Id + 1 = y.Id + 1
      rw [List.getD_eq_getElem?_getD, hy]; rfl
    omega
theorem conVbk (b : Fx.ChallengeBook) (hn : b.Open.length ≤ 16000000) : FnCon Try.prog 45 ([(true, dasChallengeBook b)]) ([bV (vbk b)]) := by
  refine fn_go (p := bcase (inB b.Next 0 1000000) (bcase (decide ((↑b.Open.length : Int) ≤ 16)) (FnCon Try.prog 78 [(false, [dI (b.Next)]), (false, [dI (0)]), (false, [dI (1000000)])] [(false, [dB ((inB b.Next 0 1000000))])] ∧ (inB b.Next 0 1000000 = true ∧ (decide ((↑b.Open.length : Int) ≤ 16) = true ∧ ((FnCon Try.prog 79 [(false, [rowR 92 3 dasChallenge zChallenge b.Open]), (false, [dI (b.Next)])] [(false, [dB ((okB b.Next b.Open))])]) ∧ (false = false ∧ Value.bool (okB b.Next b.Open) = Value.bool (vbk b)))))) (FnCon Try.prog 78 [(false, [dI (b.Next)]), (false, [dI (0)]), (false, [dI (1000000)])] [(false, [dB ((inB b.Next 0 1000000))])] ∧ (inB b.Next 0 1000000 = true ∧ (decide ((↑b.Open.length : Int) ≤ 16) = false ∧ (false = false ∧ Value.bool false = Value.bool (vbk b)))))) (FnCon Try.prog 78 [(false, [dI (b.Next)]), (false, [dI (0)]), (false, [dI (1000000)])] [(false, [dB ((inB b.Next 0 1000000))])] ∧ (inB b.Next 0 1000000 = false ∧ (false = false ∧ (false = false ∧ Value.bool false = Value.bool (vbk b)))))) (callsBy fun d _ a => match d with | some 5 => some [bV (inB b.Next 0 1000000)] | some 17 => some [bV (okB b.Next b.Open)] | _ => none) (noLoops) Try.func45 (by kernel_rfl) (by kernel_rfl) (by kernel_rfl) (fun _ => trivial) (by kernel_rfl) ?_
  refine bcase_intro (fun h0 => bcase_intro (fun h1 => ⟨(conIn _ _ _), h0, h1, (conIss _ _ hn (inB_ok h0)), rfl, congrArg _ ?g4⟩) (fun h1 => ⟨(conIn _ _ _), h0, h1, rfl, congrArg _ ?g6⟩)) (fun h0 => ⟨(conIn _ _ _), h0, rfl, rfl, congrArg _ ?g8⟩)
  case g4 =>
    have h1 := of_decide_eq_true h1
    unfold vbk
    rw [decide_eq_true (inB_ok h0), Bool.and_true, decide_eq_true (by omega), Bool.and_true]
  case g6 =>
    have h1 := of_decide_eq_false h1
    unfold vbk
    rw [decide_eq_false (p := b.Open.length ≤ 16) (by omega), Bool.and_false]
  case g8 =>
    have h3 : ¬ (0 ≤ b.Next ∧ b.Next ≤ 1000000) := fun h => by rw [inB_t h] at h0; cases h0
    unfold vbk
    rw [decide_eq_false h3, Bool.and_false, Bool.false_and]
theorem conEql (l m : List Fx.Challenge) (hn : l.length ≤ 16000000) (hm : m.length ≤ 16000000) : FnCon Try.prog 89 ([(false, [rowR 92 3 dasChallenge zChallenge l]), (false, [rowR 92 3 dasChallenge zChallenge m])]) ([bV (decide (l.map cel = m.map cel))]) := by
  refine fn_go (p := bcase ((↑l.length : Int) != (↑m.length : Int)) (false = false ∧ (Value.bool false = Value.bool (decide (List.map (fun x => [x.Id, x.Account, x.Until]) l = List.map (fun x => [x.Id, x.Account, x.Until]) m)))) ((∃ x0 : EqlX l m, (((DaEq (rowR 92 3 dasChallenge zChallenge l) (rowR 92 3 dasChallenge zChallenge l)) ∧ ((DaEq (rowR 92 3 dasChallenge zChallenge m) (rowR 92 3 dasChallenge zChallenge m)) ∧ (vI (↑l.length : Int) = vI (↑l.length : Int) ∧ (vI 0 = vI (↑x0.1 : Int) ∧ True)))) ∧ True)) ∧ (∀ v : EqlX l m, bcase (decide ((↑v.1 : Int) < (↑l.length : Int))) ((0 ≤ (↑v.1 : Int) ∧ (↑v.1 : Int) < (↑l.length : Int)) ∧ ((0 ≤ (↑v.1 : Int) ∧ (↑v.1 : Int) < (↑m.length : Int)) ∧ bcase (match
  match (l.getD (↑v.1 : Int).toNat zChallenge).Id == (m.getD (↑v.1 : Int).toNat zChallenge).Id with
  | false => false
  | true =>
    match (l.getD (↑v.1 : Int).toNat zChallenge).Account == (m.getD (↑v.1 : Int).toNat zChallenge).Account with
    | false => false
    | true =>
      match (l.getD (↑v.1 : Int).toNat zChallenge).Until == (m.getD (↑v.1 : Int).toNat zChallenge).Until with
      | false => false
      | true => true with
| true => false
| false => true) (false = false ∧ (Value.bool false = Value.bool (decide (List.map (fun x => [x.Id, x.Account, x.Until]) l = List.map (fun x => [x.Id, x.Account, x.Until]) m)))) (∃ v' : EqlX l m, (l.length.sub v'.1 < l.length.sub v.1 ∧ (((DaEq (rowR 92 3 dasChallenge zChallenge l) (rowR 92 3 dasChallenge zChallenge l)) ∧ ((DaEq (rowR 92 3 dasChallenge zChallenge m) (rowR 92 3 dasChallenge zChallenge m)) ∧ (vI (↑l.length : Int) = vI (↑l.length : Int) ∧ (vI (IntKind.i64.wrap ((↑v.1 : Int) + 1)) = vI (↑v'.1 : Int) ∧ True)))) ∧ True))))) (false = false ∧ (Value.bool true = Value.bool (decide (List.map (fun x => [x.Id, x.Account, x.Until]) l = List.map (fun x => [x.Id, x.Account, x.Until]) m))))))) (noCalls) (eqlL l m) Try.func89 (by kernel_rfl) (by kernel_rfl) (by kernel_rfl) (fun _ => trivial) (by kernel_rfl) ?_
  refine bcase_intro (fun h0 => ⟨rfl, congrArg _ ?g1⟩) (fun h0 => ⟨⟨⟨0, Nat.zero_le _, (by have := bne_eq_false_iff_eq.1 h0; omega), fun j h => absurd h (Nat.not_lt_zero _)⟩, ⟨⟨DaEq.refl _, DaEq.refl _, rfl, congrArg _ ?g3, trivial⟩, trivial⟩⟩, fun v => bcase_intro (fun h4 => ⟨⟨?g5, ?g6⟩, ⟨?g7, ?g8⟩, bcase_intro (fun h9 => ⟨rfl, congrArg _ ?g10⟩) (fun h9 => ⟨⟨v.1 + 1, ?wa, ?wb⟩, ⟨?g12, ⟨DaEq.refl _, DaEq.refl _, rfl, congrArg _ ?g13, trivial⟩, trivial⟩⟩)⟩) (fun h4 => ⟨rfl, congrArg _ ?g14⟩)⟩)
  case g1 =>
    have hne : l.length ≠ m.length := fun e => by rw [e] at h0; simp at h0
    exact (decide_eq_false (p := l.map cel = m.map cel) (fun e => hne (by simpa using congrArg List.length e))).symm
  case g3 => rfl
  case g14 =>
    have h4 := of_decide_eq_false h4
    refine (decide_eq_true (p := l.map cel = m.map cel) ?_).symm
    apply List.ext_getElem?
    intro j
    rcases Nat.lt_or_ge j l.length with h | h
    · have := v.2.2.2 j (by omega)
      have h' : j < m.length := by have := v.2.2.1; omega
      simpa [List.getElem?_eq_getElem h, List.getElem?_eq_getElem h'] using this
    · rw [List.getElem?_eq_none (by simpa using h), List.getElem?_eq_none (by have := v.2.2.1; simp; omega)]
  all_goals have h4 := of_decide_eq_true h4
  all_goals have hlen := v.2.2.1
  case g5 | g6 | g7 | g8 => omega
  case wa => omega
  case g12 => show l.length - (v.1 + 1) < l.length - v.1; omega
  case g13 =>
    show IntKind.i64.wrap ((v.1 : Int) + 1) = ((v.1 + 1 : Nat) : Int)
    rw [IntWalk.i64_in _ (by omega)]; rfl
  all_goals simp only [Int.toNat_natCast] at h9
  all_goals have h1 : v.1 < l.length := by omega
  all_goals have h3 : v.1 < m.length := by omega
  case g10 =>
    refine (decide_eq_false (p := l.map cel = m.map cel) fun e => ?_).symm
    have := congrArg (fun l => l[v.1]?) e
    simp only [List.getElem?_map, List.getElem?_eq_getElem h1, List.getElem?_eq_getElem h3, Option.map_some, Option.some.injEq, cel, List.cons.injEq, and_true] at this
    obtain ⟨e1, e2, e3⟩ := this
    simp [List.getElem?_eq_getElem h1, List.getElem?_eq_getElem h3, e1, e2, e3] at h9
  case wb =>
    refine ⟨hlen, fun j hj => ?_⟩
    rcases Nat.lt_or_ge j v.1 with h | h
    · exact v.2.2.2 j h
    · obtain rfl : j = v.1 := by omega
      generalize l.getD v.1 zChallenge = x at h9 ⊢
      generalize m.getD v.1 zChallenge = y at h9 ⊢
      cases hA : x.Id == y.Id <;> cases hB : x.Account == y.Account <;> cases hC : x.Until == y.Until <;> simp [hA, hB, hC] at h9
      unfold cel
      rw [beq_iff_eq.1 hA, beq_iff_eq.1 hB, beq_iff_eq.1 hC]
theorem conEqB (a b : Fx.ChallengeBook) (hn : a.Open.length ≤ 16000000) (hm : b.Open.length ≤ 16000000) : FnCon Try.prog 60 ([(true, dasChallengeBook a), (true, dasChallengeBook b)]) ([bV (eqBk a b)]) := by
  refine fn_go (p := bcase (a.Seed == b.Seed) (bcase (a.Next == b.Next) ((a.Seed == b.Seed) = true ∧ ((a.Next == b.Next) = true ∧ ((FnCon Try.prog 89 [(false, [rowR 92 3 dasChallenge zChallenge a.Open]), (false, [rowR 92 3 dasChallenge zChallenge b.Open])] [(false, [dB ((decide (List.map (fun x => [x.Id, x.Account, x.Until]) a.Open = List.map (fun x => [x.Id, x.Account, x.Until]) b.Open)))])]) ∧ (false = false ∧ (Value.bool (decide (List.map (fun x => [x.Id, x.Account, x.Until]) a.Open = List.map (fun x => [x.Id, x.Account, x.Until]) b.Open)) = Value.bool (eqBk a b)))))) ((a.Seed == b.Seed) = true ∧ ((a.Next == b.Next) = false ∧ (false = false ∧ Value.bool false = Value.bool (eqBk a b))))) ((a.Seed == b.Seed) = false ∧ (false = false ∧ (false = false ∧ Value.bool false = Value.bool (eqBk a b))))) (callsBy fun d _ a' => match d with | some 22 => some [bV (decide (a.Open.map cel = b.Open.map cel))] | _ => none) (noLoops) Try.func60 (by kernel_rfl) (by kernel_rfl) (by kernel_rfl) (fun _ => trivial) (by kernel_rfl) ?_
  refine bcase_intro (fun h0 => bcase_intro (fun h1 => ⟨h0, h1, (conEql _ _ hn hm), rfl, congrArg _ ?g3⟩) (fun h1 => ⟨h0, h1, rfl, congrArg _ ?g4⟩)) (fun h0 => ⟨h0, rfl, rfl, congrArg _ ?g5⟩)
  case g3 =>
    have e1 : a.Seed = b.Seed := by simpa using h0
    have e2 : a.Next = b.Next := by simpa using h1
    unfold eqBk
    rw [decide_eq_true e1, decide_eq_true e2]
    rfl
  case g4 =>
    have : a.Next ≠ b.Next := by simpa using h1
    unfold eqBk; simp [this]
  case g5 =>
    have : a.Seed ≠ b.Seed := by simpa using h0
    unfold eqBk; simp [this]
end Go.Proofs.Ytckplhmielckeaa.T12i
