import Derived.Test.YtllaacdikjffmaaGreatM18
import Derived.Test.YtllaacdikjffmaaGreatBa
namespace Go.Proofs.YtllaacdikjffmaaGreat.C14i
open Go.ChangeShapes Go.WideShapes Go.ChangeAt Go.RowKit
open S0 S1 S9 Dm Fx M8 M18 E0 E1 E2 E3 E4 E7 E10 E15 E16 E17 E18 E19 E20 E22 Das
set_option linter.unusedVariables false
set_option linter.unusedSimpArgs false
set_option maxRecDepth 100000
def keepO (qs : List Nat) (obs : Nat → Ob) : List (Nat × Ob) := qs.map fun q => (q, obs q)
theorem plainC (f : Nat → Cr) (n : Nat) : E9.PlainEl n 4 (fun i j => (dasCredential (f i)).getD j (.val undef)) := plain_row (das := dasCredential) (k := 4) (fun _ => rfl) (fun _ => rfl) f n
theorem conIn (n lo hi : Int) : FnCon Tryz.prog 69 ([iV n, iV lo, iV hi]) ([bV (inB n lo hi)]) := by
  refine fn_go (p := bcase (decide (lo ≤ n)) (decide (lo ≤ n) = true ∧ (false = false ∧ Value.bool (decide (n ≤ hi)) = Value.bool (inB n lo hi))) (decide (lo ≤ n) = false ∧ (false = false ∧ Value.bool false = Value.bool (inB n lo hi)))) (noCalls) (noLoops) Tryz.func69 (by kernel_rfl) (by kernel_rfl) (by kernel_rfl) (fun _ => trivial) (by kernel_rfl) ?_
  refine bcase_intro (fun h0 => ⟨h0, rfl, congrArg _ ?g1⟩) (fun h0 => ⟨h0, rfl, congrArg _ ?g2⟩)
  case g1 => unfold inB; rw [show decide (lo ≤ n) = true from h0, Bool.true_and]
  case g2 => unfold inB; rw [show decide (lo ≤ n) = false from h0, Bool.false_and]
theorem conIsM (n : Int) : FnCon Tryz.prog 86 ([iV n]) ([bV (inB n 1 3)]) := by
  refine fn_go (p := (FnCon Tryz.prog 69 [(false, [dI (n)]), (false, [dI (1)]), (false, [dI (3)])] [(false, [dB ((inB n 1 3))])] ∧ (false = false ∧ Value.bool (inB n 1 3) = Value.bool (inB n 1 3)))) (callsBy fun _ _ _ => some [bV (inB n 1 3)]) (noLoops) Tryz.func86 (by kernel_rfl) (by kernel_rfl) (by kernel_rfl) (fun _ => trivial) (by kernel_rfl) ?_
  refine ⟨(conIn _ _ _), rfl, rfl⟩
theorem conPrv (u : Int) (u0 : -9223372036854775808 ≤ u) (u1 : u ≤ 9223372036854775807) : FnCon Tryz.prog 101 [iV u] [iV (prv u)] :=
  con_of_plain (con_enters Tryz.func101 (by kernel_rfl) (by kernel_rfl)) rfl fun w v0 k0 => by
    obtain ⟨v1, rfl, k1⟩ := of_valA k0
    obtain rfl := of_nil k1
    exact C6i.implPrv u w u0 u1
theorem conCopy (l : List Cr) (hn : l.length ≤ 16000000) : FnCon Tryz.prog 50 ([(false, [rowR 81 4 dasCredential zCredential l])]) ([(false, [rowR 81 4 dasCredential zCredential l])]) := by
  refine fn_go (p := ((E9.PlainEl l.length 4 fun i j => (dasCredential (l.getD i zCredential)).getD j (Da.val undef)) ∧ (0 + l.length ≤ 1000000000000 ∧ ((0 + l.length) * 32 ≤ 140737488355328 ∧ (false = false ∧ (DaEq (Da.row 81 4 (0 + l.length) fun i j => (dasCredential (l.getD (i - 0) zCredential)).getD j (Da.val undef)) (rowR 81 4 dasCredential zCredential l))))))) (noCalls) (noLoops) Tryz.func50 (by kernel_rfl) (by kernel_rfl) (by kernel_rfl) (fun _ => trivial) (by kernel_rfl) ?_
  refine ⟨?g0, ?g1, ?g2, rfl, ?g3⟩
  case g0 => exact plainC _ _
  case g3 => exact row_to (row_app row_nil row_self) (by simp)
  all_goals omega
theorem drop_row (l : List Cr) : (Da.row 81 4 (l.length.sub 1) fun i j => (dasCredential (l.getD (i + 1) zCredential)).getD j (Da.val undef)) = Da.row 81 4 (List.drop 1 l).length fun i j => (dasCredential ((List.drop 1 l).getD i zCredential)).getD j (Da.val undef) := by
  cases l with
  | nil => simp only [List.drop_nil, List.getD_nil]; rfl
  | cons x l => rfl
theorem lnNext (l : List Cr) (i m : Int) (hn : l.length ≤ 16000000) : E22.LentCon Tryz.prog 88 52 ([.val (.int .i64 i), .val (.int .i64 m), .old (rowR 81 4 dasCredential zCredential (l))]) ([]) ([(true, dasCredential (l.getD 0 zCredential)), bV (decide (0 < l.length))]) ([.val (.int .i64 i), .val (.int .i64 m), .old (rowR 81 4 dasCredential zCredential (l.drop 1))]) := by
  refine E22.lent_go (p := fun R => bcase ((↑l.length : Int) == 0) (((true = true ∧ (vI 0 = vI (l.getD 0 zCredential).Handle ∧ (vI 0 = vI (l.getD 0 zCredential).Public ∧ (vI 0 = vI (l.getD 0 zCredential).Counter ∧ Value.bool false = Value.bool (l.getD 0 zCredential).Cut)))) ∧ (false = false ∧ Value.bool false = Value.bool (decide (0 < l.length)))) ∧ ((52 = 52 ∧ (vI i = vI i ∧ (vI m = vI m ∧ (Sc.old (rowR 81 4 dasCredential zCredential l) = Sc.old (Da.row 81 4 (List.drop 1 l).length fun i j => (dasCredential ((List.drop 1 l).getD i zCredential)).getD j (Da.val undef)))))) ∧ R = R)) ((Int.NonNeg 0 ∧ 0 < (↑l.length : Int)) ∧ ((Int.NonNeg 1 ∧ (1 ≤ (↑l.length : Int) ∧ (↑l.length : Int) ≤ (↑l.length : Int))) ∧ (((true = true ∧ (vI (l.getD 0 zCredential).Handle = vI (l.getD 0 zCredential).Handle ∧ (vI (l.getD 0 zCredential).Public = vI (l.getD 0 zCredential).Public ∧ (vI (l.getD 0 zCredential).Counter = vI (l.getD 0 zCredential).Counter ∧ Value.bool (l.getD 0 zCredential).Cut = Value.bool (l.getD 0 zCredential).Cut)))) ∧ (false = false ∧ Value.bool true = Value.bool (decide (0 < l.length)))) ∧ ((52 = 52 ∧ (vI i = vI i ∧ (vI m = vI m ∧ (Sc.old (Da.row 81 4 (l.length.sub 1) fun i j => (dasCredential (l.getD (i + 1) zCredential)).getD j (Da.val undef)) = Sc.old (Da.row 81 4 (List.drop 1 l).length fun i j => (dasCredential ((List.drop 1 l).getD i zCredential)).getD j (Da.val undef)))))) ∧ R = R))))) (noCalls) (noLoops) Tryz.func88 (by kernel_rfl) (by kernel_rfl) (by kernel_rfl) (fun _ => trivial) rfl (by kernel_rfl) ?_
  intro R hR
  refine bcase_intro (fun h0 => ⟨⟨⟨rfl, congrArg _ ?g1, congrArg _ ?g2, congrArg _ ?g3, congrArg _ ?g4⟩, rfl, congrArg _ ?g5⟩, ⟨rfl, rfl, rfl, ?g6⟩, rfl⟩) (fun h0 => ⟨⟨?g7, ?g8⟩, ⟨?g9, ?g10, ?g11⟩, ⟨⟨rfl, congrArg _ ?g12, congrArg _ ?g13, congrArg _ ?g14, congrArg _ ?g15⟩, rfl, congrArg _ ?g16⟩, ⟨rfl, rfl, rfl, ?g17⟩, rfl⟩)
  case g1 | g2 | g3 | g4 | g5 | g6 =>
    obtain rfl : l = [] := List.eq_nil_of_length_eq_zero (by have := beq_iff_eq.1 h0; omega)
    rfl
  all_goals have hl : 0 < l.length := by have := beq_eq_false_iff_ne.1 h0; omega
  case g7 => exact Int.NonNeg.mk 0
  case g9 => exact Int.NonNeg.mk 1
  case g16 => exact (decide_eq_true hl).symm
  case g17 => exact congrArg _ (drop_row l)
  all_goals first | rfl | omega
end Go.Proofs.YtllaacdikjffmaaGreat.C14i
