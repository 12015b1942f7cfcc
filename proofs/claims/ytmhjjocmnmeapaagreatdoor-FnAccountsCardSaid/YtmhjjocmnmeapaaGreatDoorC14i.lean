import Derived.Test.YtmhjjocmnmeapaaGreatDoorM18
import Derived.Test.YtmhjjocmnmeapaaGreatDoorBa
namespace Go.Proofs.YtmhjjocmnmeapaaGreatDoor.C14i
open Go.ChangeShapes Go.WideShapes Go.ChangeAt Go.RowKit
open S0 S1 S9 Dm Fx M8 M18 E0 E1 E2 E3 E4 E7 E10 E15 E16 E17 E18 E19 E20 E22 Das
set_option linter.unusedVariables false
set_option linter.unusedSimpArgs false
set_option maxRecDepth 100000
def keepO (qs : List Nat) (obs : Nat → Ob) : List (Nat × Ob) := qs.map fun q => (q, obs q)
theorem plainC (f : Nat → Cr) (n : Nat) : E9.PlainEl n 4 (fun i j => (dasCredential (f i)).getD j (.val undef)) := plain_row (das := dasCredential) (k := 4) (fun _ => rfl) (fun _ => rfl) f n
theorem conIn (n lo hi : Int) : FnCon Tryz.prog 68 ([iV n, iV lo, iV hi]) ([bV (inB n lo hi)]) := by
  refine fn_go (p := bcase (decide (lo ≤ n)) (decide (lo ≤ n) = true ∧ (false = false ∧ Value.bool (decide (n ≤ hi)) = Value.bool (inB n lo hi))) (decide (lo ≤ n) = false ∧ (false = false ∧ Value.bool false = Value.bool (inB n lo hi)))) (noCalls) (noLoops) Tryz.func68 (by kernel_rfl) (by kernel_rfl) (by kernel_rfl) (fun _ => trivial) (by kernel_rfl) ?_
  refine bcase_intro (fun h0 => ⟨h0, rfl, congrArg _ ?g1⟩) (fun h0 => ⟨h0, rfl, congrArg _ ?g2⟩)
  case g1 => unfold inB; rw [show decide (lo ≤ n) = true from h0, Bool.true_and]
  case g2 => unfold inB; rw [show decide (lo ≤ n) = false from h0, Bool.false_and]
theorem conIsM (n : Int) : FnCon Tryz.prog 54 ([iV n]) ([bV (inB n 1 3)]) := by
  refine fn_go (p := (FnCon Tryz.prog 68 [(false, [dI (n)]), (false, [dI (1)]), (false, [dI (3)])] [(false, [dB ((inB n 1 3))])] ∧ (false = false ∧ Value.bool (inB n 1 3) = Value.bool (inB n 1 3)))) (callsBy fun _ _ _ => some [bV (inB n 1 3)]) (noLoops) Tryz.func54 (by kernel_rfl) (by kernel_rfl) (by kernel_rfl) (fun _ => trivial) (by kernel_rfl) ?_
  refine ⟨(conIn _ _ _), rfl, rfl⟩
theorem conPrv (u : Int) (u0 : -9223372036854775808 ≤ u) (u1 : u ≤ 9223372036854775807) : FnCon Tryz.prog 82 [iV u] [iV (prv u)] :=
  con_of_plain (con_enters Tryz.func82 (by kernel_rfl) (by kernel_rfl)) rfl fun w v0 k0 => by
    obtain ⟨v1, rfl, k1⟩ := of_valA k0
    obtain rfl := of_nil k1
    exact C6i.implPrv u w u0 u1
theorem conCopy (l : List Cr) (hn : l.length ≤ 16000000) : FnCon Tryz.prog 22 ([(false, [rowR 49 4 dasCredential zCredential l])]) ([(false, [rowR 49 4 dasCredential zCredential l])]) := by
  refine fn_go (p := ((E9.PlainEl l.length 4 fun i j => (dasCredential (l.getD i zCredential)).getD j (Da.val undef)) ∧ (0 + l.length ≤ 1000000000000 ∧ ((0 + l.length) * 32 ≤ 140737488355328 ∧ (false = false ∧ (DaEq (Da.row 49 4 (0 + l.length) fun i j => (dasCredential (l.getD (i - 0) zCredential)).getD j (Da.val undef)) (rowR 49 4 dasCredential zCredential l))))))) (noCalls) (noLoops) Tryz.func22 (by kernel_rfl) (by kernel_rfl) (by kernel_rfl) (fun _ => trivial) (by kernel_rfl) ?_
  refine ⟨?g0, ?g1, ?g2, rfl, ?g3⟩
  case g0 => exact plainC _ _
  case g3 => exact row_to (row_app row_nil row_self) (by simp)
  all_goals omega
abbrev EqlX (l m : List Cr) : Type := { i : Nat // i ≤ l.length ∧ l.length = m.length ∧ ∀ j, j < i → cel (l.getD j zCredential) = cel (m.getD j zCredential) }
theorem cel_of {x y : Cr} (h : (match (match x.Handle == y.Handle with | false => false | true => match x.Public == y.Public with | false => false | true => match x.Counter == y.Counter with | false => false | true => match x.Cut == y.Cut with | false => false | true => true) with | true => false | false => true) = false) : cel x = cel y := by
  cases h1 : x.Handle == y.Handle with
  | false => simp [h1] at h
  | true =>
    cases h2 : x.Public == y.Public with
    | false => simp [h1, h2] at h
    | true =>
      cases h3 : x.Counter == y.Counter with
      | false => simp [h1, h2, h3] at h
      | true =>
        cases h4 : x.Cut == y.Cut with
        | false => simp [h1, h2, h3, h4] at h
        | true => unfold cel; rw [beq_iff_eq.1 h1, beq_iff_eq.1 h2, beq_iff_eq.1 h3, beq_iff_eq.1 h4]
def eqlL (l m : List Cr) : Loops := fun r _ => match r with
  | 4 => some ⟨EqlX l m, fun v sl => only [0, 1, 12, 13] 0 (sl.set 13 (.one (.val (vI v.1)))), fun _ _ => [], fun v => l.length - v.1⟩
  | _ => none
theorem conEqlS (l m : List Cr) (hn : l.length ≤ 16000000) (hm : m.length ≤ 16000000) : FnCon Tryz.prog 28 ([(false, [rowR 49 4 dasCredential zCredential l]), (false, [rowR 49 4 dasCredential zCredential m])]) ([bV (eqlC l m)]) := by
  refine fn_go (p := bcase ((↑l.length : Int) != (↑m.length : Int)) (false = false ∧ Value.bool false = Value.bool (eqlC l m)) ((∃ x0 : EqlX l m, (((DaEq (rowR 49 4 dasCredential zCredential l) (rowR 49 4 dasCredential zCredential l)) ∧ ((DaEq (rowR 49 4 dasCredential zCredential m) (rowR 49 4 dasCredential zCredential m)) ∧ (vI (↑l.length : Int) = vI (↑l.length : Int) ∧ (vI 0 = vI (↑x0.1 : Int) ∧ True)))) ∧ True)) ∧ (∀ v : EqlX l m, bcase (decide ((↑v.1 : Int) < (↑l.length : Int))) ((0 ≤ (↑v.1 : Int) ∧ (↑v.1 : Int) < (↑l.length : Int)) ∧ ((0 ≤ (↑v.1 : Int) ∧ (↑v.1 : Int) < (↑m.length : Int)) ∧ bcase (match
  match (l.getD (↑v.1 : Int).toNat zCredential).Handle == (m.getD (↑v.1 : Int).toNat zCredential).Handle with
  | false => false
  | true =>
    match (l.getD (↑v.1 : Int).toNat zCredential).Public == (m.getD (↑v.1 : Int).toNat zCredential).Public with
    | false => false
    | true =>
      match (l.getD (↑v.1 : Int).toNat zCredential).Counter == (m.getD (↑v.1 : Int).toNat zCredential).Counter with
      | false => false
      | true =>
        match (l.getD (↑v.1 : Int).toNat zCredential).Cut == (m.getD (↑v.1 : Int).toNat zCredential).Cut with
        | false => false
        | true => true with
| true => false
| false => true) (false = false ∧ Value.bool false = Value.bool (eqlC l m)) (∃ v' : EqlX l m, (l.length.sub v'.1 < l.length.sub v.1 ∧ (((DaEq (rowR 49 4 dasCredential zCredential l) (rowR 49 4 dasCredential zCredential l)) ∧ ((DaEq (rowR 49 4 dasCredential zCredential m) (rowR 49 4 dasCredential zCredential m)) ∧ (vI (↑l.length : Int) = vI (↑l.length : Int) ∧ (vI (IntKind.i64.wrap ((↑v.1 : Int) + 1)) = vI (↑v'.1 : Int) ∧ True)))) ∧ True))))) (false = false ∧ Value.bool true = Value.bool (eqlC l m))))) (noCalls) (eqlL l m) Tryz.func28 (by kernel_rfl) (by kernel_rfl) (by kernel_rfl) (fun _ => trivial) (by kernel_rfl) ?_
  refine bcase_intro (fun h0 => ⟨rfl, congrArg _ ?g1⟩) (fun h0 => ⟨⟨⟨0, Nat.zero_le _, (by have := bne_eq_false_iff_eq.1 h0; omega), fun j h => absurd h (Nat.not_lt_zero _)⟩, ⟨⟨DaEq.refl _, DaEq.refl _, rfl, congrArg _ ?g3, trivial⟩, trivial⟩⟩, fun v => bcase_intro (fun h4 => ⟨⟨?g5, ?g6⟩, ⟨?g7, ?g8⟩, bcase_intro (fun h9 => ⟨rfl, congrArg _ ?g10⟩) (fun h9 => ⟨⟨v.1 + 1, ?wa, v.2.2.1, ?wb⟩, ⟨?g12, ⟨DaEq.refl _, DaEq.refl _, rfl, congrArg _ ?g13, trivial⟩, trivial⟩⟩)⟩) (fun h4 => ⟨rfl, congrArg _ ?g14⟩)⟩)
  case g1 => rw [eqlC_len (fun e => by rw [e] at h0; simp at h0)]
  case g3 => rfl
  all_goals have hlen := v.2.2.1
  case g14 =>
    have h4 := of_decide_eq_false h4
    rw [eqlC_all hlen fun j hj => v.2.2.2 j (by omega)]
  all_goals have h4 := of_decide_eq_true h4
  case g5 | g6 | g7 | g8 => omega
  case wa => omega
  case g12 => show l.length - (v.1 + 1) < l.length - v.1; omega
  case g13 => show IntKind.i64.wrap ((v.1 : Int) + 1) = ((v.1 + 1 : Nat) : Int); rw [IntWalk.i64_in _ (by omega)]; rfl
  all_goals simp only [Int.toNat_natCast] at h9
  case g10 =>
    refine (eqlC_at (k := v.1) (by omega) (by omega) fun e => ?_).symm
    simp only [cel, Prod.mk.injEq] at e
    obtain ⟨e1, e2, e3, e4⟩ := e
    rw [e1, e2, e3, e4] at h9
    simp at h9
  case wb =>
    intro j hj
    rcases Nat.lt_or_ge j v.1 with h | h
    · exact v.2.2.2 j h
    · obtain rfl : j = v.1 := by omega
      exact cel_of h9
theorem conEql (a b : Fx.Account) (hn : a.Credentials.length ≤ 16000000) (hm : b.Credentials.length ≤ 16000000) : FnCon Tryz.prog 8 ([(true, dasAccount a), (true, dasAccount b)]) ([bV (eqlA a b)]) := by
  refine fn_go (p := bcase (a.Id == b.Id) (bcase (a.Minimum == b.Minimum) ((a.Id == b.Id) = true ∧ ((a.Minimum == b.Minimum) = true ∧ ((FnCon Tryz.prog 28 [(false, [rowR 49 4 dasCredential zCredential a.Credentials]), (false, [rowR 49 4 dasCredential zCredential b.Credentials])] [(false, [dB ((eqlC a.Credentials b.Credentials))])]) ∧ (false = false ∧ Value.bool (eqlC a.Credentials b.Credentials) = Value.bool (eqlA a b))))) ((a.Id == b.Id) = true ∧ ((a.Minimum == b.Minimum) = false ∧ (false = false ∧ Value.bool false = Value.bool (eqlA a b))))) ((a.Id == b.Id) = false ∧ (false = false ∧ (false = false ∧ Value.bool false = Value.bool (eqlA a b))))) (callsBy fun _ _ _ => some [bV (eqlC a.Credentials b.Credentials)]) (noLoops) Tryz.func8 (by kernel_rfl) (by kernel_rfl) (by kernel_rfl) (fun _ => trivial) (by kernel_rfl) ?_
  refine bcase_intro (fun h0 => bcase_intro (fun h1 => ⟨h0, h1, (conEqlS _ _ hn hm), rfl, congrArg _ ?g3⟩) (fun h1 => ⟨h0, h1, rfl, congrArg _ ?g4⟩)) (fun h0 => ⟨h0, rfl, rfl, congrArg _ ?g5⟩)
  case g3 => unfold eqlA; rw [h0, h1]; rfl
  case g4 => unfold eqlA; rw [h1]; simp
  case g5 => unfold eqlA; rw [h0]; rfl
theorem drop_row (l : List Cr) : (Da.row 49 4 (l.length.sub 1) fun i j => (dasCredential (l.getD (i + 1) zCredential)).getD j (Da.val undef)) = Da.row 49 4 (List.drop 1 l).length fun i j => (dasCredential ((List.drop 1 l).getD i zCredential)).getD j (Da.val undef) := by
  cases l with
  | nil => simp only [List.drop_nil, List.getD_nil]; rfl
  | cons x l => rfl
theorem lnNext (l : List Cr) (i m : Int) (hn : l.length ≤ 16000000) : E22.LentCon Tryz.prog 33 26 ([.val (.int .i64 i), .val (.int .i64 m), .old (rowR 49 4 dasCredential zCredential (l))]) ([]) ([(true, dasCredential (l.getD 0 zCredential)), bV (decide (0 < l.length))]) ([.val (.int .i64 i), .val (.int .i64 m), .old (rowR 49 4 dasCredential zCredential (l.drop 1))]) := by
  refine E22.lent_go (p := fun R => bcase ((↑l.length : Int) == 0) (((true = true ∧ (vI 0 = vI (l.getD 0 zCredential).Handle ∧ (vI 0 = vI (l.getD 0 zCredential).Public ∧ (vI 0 = vI (l.getD 0 zCredential).Counter ∧ Value.bool false = Value.bool (l.getD 0 zCredential).Cut)))) ∧ (false = false ∧ Value.bool false = Value.bool (decide (0 < l.length)))) ∧ ((26 = 26 ∧ (vI i = vI i ∧ (vI m = vI m ∧ (Sc.old (rowR 49 4 dasCredential zCredential l) = Sc.old (Da.row 49 4 (List.drop 1 l).length fun i j => (dasCredential ((List.drop 1 l).getD i zCredential)).getD j (Da.val undef)))))) ∧ R = R)) ((Int.NonNeg 0 ∧ 0 < (↑l.length : Int)) ∧ ((Int.NonNeg 1 ∧ (1 ≤ (↑l.length : Int) ∧ (↑l.length : Int) ≤ (↑l.length : Int))) ∧ (((true = true ∧ (vI (l.getD 0 zCredential).Handle = vI (l.getD 0 zCredential).Handle ∧ (vI (l.getD 0 zCredential).Public = vI (l.getD 0 zCredential).Public ∧ (vI (l.getD 0 zCredential).Counter = vI (l.getD 0 zCredential).Counter ∧ Value.bool (l.getD 0 zCredential).Cut = Value.bool (l.getD 0 zCredential).Cut)))) ∧ (false = false ∧ Value.bool true = Value.bool (decide (0 < l.length)))) ∧ ((26 = 26 ∧ (vI i = vI i ∧ (vI m = vI m ∧ (Sc.old (Da.row 49 4 (l.length.sub 1) fun i j => (dasCredential (l.getD (i + 1) zCredential)).getD j (Da.val undef)) = Sc.old (Da.row 49 4 (List.drop 1 l).length fun i j => (dasCredential ((List.drop 1 l).getD i zCredential)).getD j (Da.val undef)))))) ∧ R = R))))) (noCalls) (noLoops) Tryz.func33 (by kernel_rfl) (by kernel_rfl) (by kernel_rfl) (fun _ => trivial) rfl (by kernel_rfl) ?_
  intro R hR
  refine bcase_intro (fun h0 => ⟨⟨⟨rfl, congrArg _ ?g1, congrArg _ ?g2, congrArg _ ?g3, congrArg _ ?g4⟩, rfl, congrArg _ ?g5⟩, ⟨rfl, rfl, rfl, ?g6⟩, rfl⟩) (fun h0 => ⟨⟨?g7, ?g8⟩, ⟨?g9, ?g10, ?g11⟩, ⟨⟨rfl, congrArg _ ?g12, congrArg _ ?g13, congrArg _ ?g14, congrArg _ ?g15⟩, rfl, congrArg _ ?g16⟩, ⟨rfl, rfl, rfl, ?g17⟩, rfl⟩)
  case g1 | g2 | g3 | g4 | g5 | g6 =>
    obtain rfl : l = [] := List.eq_nil_of_length_eq_zero (by have := beq_iff_eq.1 h0; omega)
    rfl
  all_goals have hl : 0 < l.length := by have := beq_eq_false_iff_ne.1 h0; omega
  case g7 => exact Int.NonNeg.mk 0
  case g9 => exact Int.NonNeg.mk 1
  case g16 => exact (decide_eq_true hl).symm
  case g17 => exact congrArg _ (drop_row l)
  all_goals first | rfl | omega
end Go.Proofs.YtmhjjocmnmeapaaGreatDoor.C14i
