import Derived.Test.YtllaacdikjffmaaGreatM18
import Derived.Test.YtllaacdikjffmaaGreatBa
namespace Go.Proofs.YtllaacdikjffmaaGreat.C14s
open Go.ChangeShapes Go.WideShapes Go.ChangeAt Go.RowKit
open S0 S1 S9 Dm Fx M8 M18 E0 E1 E2 E3 E7 E10 E15 E16 E17 E18 E19 Das
set_option linter.unusedVariables false
set_option linter.unusedSimpArgs false
set_option maxRecDepth 100000
def keepO (qs : List Nat) (obs : Nat → Ob) : List (Nat × Ob) := qs.map fun q => (q, obs q)
abbrev OutX (l : List Cr) : Type := { i : Nat // i ≤ l.length ∧ Seen l i }
abbrev InX (l : List Cr) (i : Nat) : Type := { k : Nat // k ≤ i ∧ ∀ j, j < k → (l.getD j zCredential).Public ≠ (l.getD i zCredential).Public }
def vacL (l : List Cr) : Loops := fun r sl => match r with
  | 2 => some ⟨OutX l, fun v sl => only [1, 2, 3] 0 (sl.set 3 (.one (.val (vI v.1)))), fun _ obs => keepO [10000] obs, fun v => l.length - v.1⟩
  | 8 => some ⟨InX l (natAt sl 3), fun v sl => only [1, 2, 3, 4, 5] 0 (sl.set 5 (.one (.val (vI v.1)))), fun _ obs => keepO [10000, 50040] obs, fun v => natAt sl 3 - v.1⟩
  | _ => none
theorem conIn (n lo hi : Int) : FnCon Tryz.prog 66 ([iV n, iV lo, iV hi]) ([bV (inB n lo hi)]) := by
  refine fn_go (p := bcase (decide (n ≥ lo)) (decide (n ≥ lo) = true ∧ (false = false ∧ Value.bool (decide (n ≤ hi)) = Value.bool (inB n lo hi))) (decide (n ≥ lo) = false ∧ (false = false ∧ Value.bool false = Value.bool (inB n lo hi)))) (noCalls) (noLoops) Tryz.func66 (by kernel_rfl) (by kernel_rfl) (by kernel_rfl) (fun _ => trivial) (by kernel_rfl) ?_
  refine bcase_intro (fun h0 => ⟨h0, rfl, congrArg _ ?g1⟩) (fun h0 => ⟨h0, rfl, congrArg _ ?g2⟩)
  case g1 => unfold inB; rw [show decide (lo ≤ n) = true from h0, Bool.true_and]
  case g2 => unfold inB; rw [show decide (lo ≤ n) = false from h0, Bool.false_and]
theorem plainC (f : Nat → Cr) (n : Nat) : E9.PlainEl n 4 (fun i j => (dasCredential (f i)).getD j (.val undef)) := plain_row (das := dasCredential) (k := 4) (fun _ => rfl) (fun _ => rfl) f n
theorem conPrv (u : Int) : FnCon Tryz.prog 73 [iV u] [iV (prv u)] :=
  con_of_plain (con_enters Tryz.func73 (by kernel_rfl) (by kernel_rfl)) rfl fun w v0 k0 => by
    obtain ⟨v1, rfl, k1⟩ := of_valA k0
    obtain rfl := of_nil k1
    exact (C6.specPrv u w).mono (by rintro e w2 ⟨rfl, rfl⟩; exact ⟨rfl, Below.refl _ _⟩)
theorem conVac (a : Fx.Account) (hn : a.Credentials.length ≤ 16000000) : FnCon Tryz.prog 44 ([(true, dasAccount a)]) ([bV (vac a)]) := by
  refine fn_go (p := ((∃ x0 : OutX a.Credentials, (((some 10000 = some 10000 ∧ 0 = 0) ∧ (Value.bool false = Value.bool false ∧ (vI 0 = vI (↑x0.1 : Int) ∧ True))) ∧ ((52 = 52 ∧ (vI a.Id = vI a.Id ∧ (vI a.Minimum = vI a.Minimum ∧ (DaEq (rowR 81 4 dasCredential zCredential a.Credentials) (rowR 81 4 dasCredential zCredential a.Credentials))))) ∧ True))) ∧ (∀ v : OutX a.Credentials, bcase (decide ((↑v.1 : Int) < (↑a.Credentials.length : Int))) ((0 ≤ (↑v.1 : Int) ∧ (↑v.1 : Int) < (↑a.Credentials.length : Int)) ∧ bcase (!inB (a.Credentials.getD (↑v.1 : Int).toNat zCredential).Handle 0 1000000) (FnCon Tryz.prog 66 [(false, [dI ((a.Credentials.getD (↑v.1 : Int).toNat zCredential).Handle)]), (false, [dI (0)]), (false, [dI (1000000)])] [(false, [dB ((inB (a.Credentials.getD (↑v.1 : Int).toNat zCredential).Handle 0 1000000))])] ∧ ((!inB (a.Credentials.getD (↑v.1 : Int).toNat zCredential).Handle 0 1000000) = true ∧ (true = true ∧ (true = true ∧ (false = false ∧ Value.bool false = Value.bool (vac a)))))) (bcase (decide ((↑v.1 : Int) > 0)) (bcase (decide ((a.Credentials.getD (IntKind.i64.wrap ((↑v.1 : Int) - 1)).toNat zCredential).Handle ≥ (a.Credentials.getD (↑v.1 : Int).toNat zCredential).Handle)) (FnCon Tryz.prog 66 [(false, [dI ((a.Credentials.getD (↑v.1 : Int).toNat zCredential).Handle)]), (false, [dI (0)]), (false, [dI (1000000)])] [(false, [dB ((inB (a.Credentials.getD (↑v.1 : Int).toNat zCredential).Handle 0 1000000))])] ∧ ((!inB (a.Credentials.getD (↑v.1 : Int).toNat zCredential).Handle 0 1000000) = false ∧ (decide ((↑v.1 : Int) > 0) = true ∧ ((0 ≤ IntKind.i64.wrap ((↑v.1 : Int) - 1) ∧ IntKind.i64.wrap ((↑v.1 : Int) - 1) < (↑a.Credentials.length : Int)) ∧ (decide ((a.Credentials.getD (IntKind.i64.wrap ((↑v.1 : Int) - 1)).toNat zCredential).Handle ≥ (a.Credentials.getD (↑v.1 : Int).toNat zCredential).Handle) = true ∧ (true = true ∧ (false = false ∧ Value.bool false = Value.bool (vac a)))))))) (bcase (prv (a.Credentials.getD (↑v.1 : Int).toNat zCredential).Public == 0) (FnCon Tryz.prog 66 [(false, [dI ((a.Credentials.getD (↑v.1 : Int).toNat zCredential).Handle)]), (false, [dI (0)]), (false, [dI (1000000)])] [(false, [dB ((inB (a.Credentials.getD (↑v.1 : Int).toNat zCredential).Handle 0 1000000))])] ∧ ((!inB (a.Credentials.getD (↑v.1 : Int).toNat zCredential).Handle 0 1000000) = false ∧ (decide ((↑v.1 : Int) > 0) = true ∧ ((0 ≤ IntKind.i64.wrap ((↑v.1 : Int) - 1) ∧ IntKind.i64.wrap ((↑v.1 : Int) - 1) < (↑a.Credentials.length : Int)) ∧ (decide ((a.Credentials.getD (IntKind.i64.wrap ((↑v.1 : Int) - 1)).toNat zCredential).Handle ≥ (a.Credentials.getD (↑v.1 : Int).toNat zCredential).Handle) = false ∧ (FnCon Tryz.prog 73 [(false, [dI ((a.Credentials.getD (↑v.1 : Int).toNat zCredential).Public)])] [(false, [dI ((prv (a.Credentials.getD (↑v.1 : Int).toNat zCredential).Public))])] ∧ ((prv (a.Credentials.getD (↑v.1 : Int).toNat zCredential).Public == 0) = true ∧ (false = false ∧ Value.bool false = Value.bool (vac a))))))))) (FnCon Tryz.prog 66 [(false, [dI ((a.Credentials.getD (↑v.1 : Int).toNat zCredential).Handle)]), (false, [dI (0)]), (false, [dI (1000000)])] [(false, [dB ((inB (a.Credentials.getD (↑v.1 : Int).toNat zCredential).Handle 0 1000000))])] ∧ ((!inB (a.Credentials.getD (↑v.1 : Int).toNat zCredential).Handle 0 1000000) = false ∧ (decide ((↑v.1 : Int) > 0) = true ∧ ((0 ≤ IntKind.i64.wrap ((↑v.1 : Int) - 1) ∧ IntKind.i64.wrap ((↑v.1 : Int) - 1) < (↑a.Credentials.length : Int)) ∧ (decide ((a.Credentials.getD (IntKind.i64.wrap ((↑v.1 : Int) - 1)).toNat zCredential).Handle ≥ (a.Credentials.getD (↑v.1 : Int).toNat zCredential).Handle) = false ∧ (FnCon Tryz.prog 73 [(false, [dI ((a.Credentials.getD (↑v.1 : Int).toNat zCredential).Public)])] [(false, [dI ((prv (a.Credentials.getD (↑v.1 : Int).toNat zCredential).Public))])] ∧ ((prv (a.Credentials.getD (↑v.1 : Int).toNat zCredential).Public == 0) = false ∧ (FnCon Tryz.prog 66 [(false, [dI ((a.Credentials.getD (↑v.1 : Int).toNat zCredential).Counter)]), (false, [dI (0)]), (false, [dI (1000000)])] [(false, [dB ((inB (a.Credentials.getD (↑v.1 : Int).toNat zCredential).Counter 0 1000000))])] ∧ bcase (!inB (a.Credentials.getD (↑v.1 : Int).toNat zCredential).Counter 0 1000000) (false = false ∧ Value.bool false = Value.bool (vac a)) ((∃ x0 : InX a.Credentials v.1, (((some 10000 = some 10000 ∧ 0 = 0) ∧ (Value.bool false = Value.bool false ∧ (vI (↑v.1 : Int) = vI (↑v.1 : Int) ∧ ((some 50040 = some 50040 ∧ 0 = 0) ∧ (vI 0 = vI (↑x0.1 : Int) ∧ True))))) ∧ ((52 = 52 ∧ (vI a.Id = vI a.Id ∧ (vI a.Minimum = vI a.Minimum ∧ (DaEq (rowR 81 4 dasCredential zCredential a.Credentials) (rowR 81 4 dasCredential zCredential a.Credentials))))) ∧ ((81 = 81 ∧ (vI (a.Credentials.getD (↑v.1 : Int).toNat zCredential).Handle = vI (a.Credentials.getD (↑v.1 : Int).toNat zCredential).Handle ∧ (vI (a.Credentials.getD (↑v.1 : Int).toNat zCredential).Public = vI (a.Credentials.getD (↑v.1 : Int).toNat zCredential).Public ∧ (vI (a.Credentials.getD (↑v.1 : Int).toNat zCredential).Counter = vI (a.Credentials.getD (↑v.1 : Int).toNat zCredential).Counter ∧ Value.bool (a.Credentials.getD (↑v.1 : Int).toNat zCredential).Cut = Value.bool (a.Credentials.getD (↑v.1 : Int).toNat zCredential).Cut)))) ∧ True)))) ∧ (∀ u : InX a.Credentials v.1, bcase (decide ((↑u.1 : Int) < (↑v.1 : Int))) ((0 ≤ (↑u.1 : Int) ∧ (↑u.1 : Int) < (↑a.Credentials.length : Int)) ∧ bcase ((a.Credentials.getD (↑u.1 : Int).toNat zCredential).Public == (a.Credentials.getD (↑v.1 : Int).toNat zCredential).Public) (false = false ∧ Value.bool false = Value.bool (vac a)) (∃ u' : InX a.Credentials v.1, (v.1.sub u'.1 < v.1.sub u.1 ∧ (((some 10000 = some 10000 ∧ 0 = 0) ∧ (Value.bool false = Value.bool false ∧ (vI (↑v.1 : Int) = vI (↑v.1 : Int) ∧ ((some 50040 = some 50040 ∧ 0 = 0) ∧ (vI (IntKind.i64.wrap ((↑u.1 : Int) + 1)) = vI (↑u'.1 : Int) ∧ True))))) ∧ ((52 = 52 ∧ (vI a.Id = vI a.Id ∧ (vI a.Minimum = vI a.Minimum ∧ (DaEq (rowR 81 4 dasCredential zCredential a.Credentials) (rowR 81 4 dasCredential zCredential a.Credentials))))) ∧ ((81 = 81 ∧ (vI (a.Credentials.getD (↑v.1 : Int).toNat zCredential).Handle = vI (a.Credentials.getD (↑v.1 : Int).toNat zCredential).Handle ∧ (vI (a.Credentials.getD (↑v.1 : Int).toNat zCredential).Public = vI (a.Credentials.getD (↑v.1 : Int).toNat zCredential).Public ∧ (vI (a.Credentials.getD (↑v.1 : Int).toNat zCredential).Counter = vI (a.Credentials.getD (↑v.1 : Int).toNat zCredential).Counter ∧ Value.bool (a.Credentials.getD (↑v.1 : Int).toNat zCredential).Cut = Value.bool (a.Credentials.getD (↑v.1 : Int).toNat zCredential).Cut)))) ∧ True)))))) (∃ v' : OutX a.Credentials, (a.Credentials.length.sub v'.1 < a.Credentials.length.sub v.1 ∧ (((some 10000 = some 10000 ∧ 0 = 0) ∧ (Value.bool false = Value.bool false ∧ (vI (IntKind.i64.wrap ((↑v.1 : Int) + 1)) = vI (↑v'.1 : Int) ∧ True))) ∧ ((52 = 52 ∧ (vI a.Id = vI a.Id ∧ (vI a.Minimum = vI a.Minimum ∧ (DaEq (rowR 81 4 dasCredential zCredential a.Credentials) (rowR 81 4 dasCredential zCredential a.Credentials))))) ∧ True)))))))))))))))) (bcase (prv (a.Credentials.getD (↑v.1 : Int).toNat zCredential).Public == 0) (FnCon Tryz.prog 66 [(false, [dI ((a.Credentials.getD (↑v.1 : Int).toNat zCredential).Handle)]), (false, [dI (0)]), (false, [dI (1000000)])] [(false, [dB ((inB (a.Credentials.getD (↑v.1 : Int).toNat zCredential).Handle 0 1000000))])] ∧ ((!inB (a.Credentials.getD (↑v.1 : Int).toNat zCredential).Handle 0 1000000) = false ∧ (decide ((↑v.1 : Int) > 0) = false ∧ (false = false ∧ (FnCon Tryz.prog 73 [(false, [dI ((a.Credentials.getD (↑v.1 : Int).toNat zCredential).Public)])] [(false, [dI ((prv (a.Credentials.getD (↑v.1 : Int).toNat zCredential).Public))])] ∧ ((prv (a.Credentials.getD (↑v.1 : Int).toNat zCredential).Public == 0) = true ∧ (false = false ∧ Value.bool false = Value.bool (vac a)))))))) (FnCon Tryz.prog 66 [(false, [dI ((a.Credentials.getD (↑v.1 : Int).toNat zCredential).Handle)]), (false, [dI (0)]), (false, [dI (1000000)])] [(false, [dB ((inB (a.Credentials.getD (↑v.1 : Int).toNat zCredential).Handle 0 1000000))])] ∧ ((!inB (a.Credentials.getD (↑v.1 : Int).toNat zCredential).Handle 0 1000000) = false ∧ (decide ((↑v.1 : Int) > 0) = false ∧ (false = false ∧ (FnCon Tryz.prog 73 [(false, [dI ((a.Credentials.getD (↑v.1 : Int).toNat zCredential).Public)])] [(false, [dI ((prv (a.Credentials.getD (↑v.1 : Int).toNat zCredential).Public))])] ∧ ((prv (a.Credentials.getD (↑v.1 : Int).toNat zCredential).Public == 0) = false ∧ (FnCon Tryz.prog 66 [(false, [dI ((a.Credentials.getD (↑v.1 : Int).toNat zCredential).Counter)]), (false, [dI (0)]), (false, [dI (1000000)])] [(false, [dB ((inB (a.Credentials.getD (↑v.1 : Int).toNat zCredential).Counter 0 1000000))])] ∧ bcase (!inB (a.Credentials.getD (↑v.1 : Int).toNat zCredential).Counter 0 1000000) (false = false ∧ Value.bool false = Value.bool (vac a)) ((∃ x0 : InX a.Credentials v.1, (((some 10000 = some 10000 ∧ 0 = 0) ∧ (Value.bool false = Value.bool false ∧ (vI (↑v.1 : Int) = vI (↑v.1 : Int) ∧ ((some 50040 = some 50040 ∧ 0 = 0) ∧ (vI 0 = vI (↑x0.1 : Int) ∧ True))))) ∧ ((52 = 52 ∧ (vI a.Id = vI a.Id ∧ (vI a.Minimum = vI a.Minimum ∧ (DaEq (rowR 81 4 dasCredential zCredential a.Credentials) (rowR 81 4 dasCredential zCredential a.Credentials))))) ∧ ((81 = 81 ∧ (vI (a.Credentials.getD (↑v.1 : Int).toNat zCredential).Handle = vI (a.Credentials.getD (↑v.1 : Int).toNat zCredential).Handle ∧ (vI (a.Credentials.getD (↑v.1 : Int).toNat zCredential).Public = vI (a.Credentials.getD (↑v.1 : Int).toNat zCredential).Public ∧ (vI (a.Credentials.getD (↑v.1 : Int).toNat zCredential).Counter = vI (a.Credentials.getD (↑v.1 : Int).toNat zCredential).Counter ∧ Value.bool (a.Credentials.getD (↑v.1 : Int).toNat zCredential).Cut = Value.bool (a.Credentials.getD (↑v.1 : Int).toNat zCredential).Cut)))) ∧ True)))) ∧ (∀ u : InX a.Credentials v.1, bcase (decide ((↑u.1 : Int) < (↑v.1 : Int))) ((0 ≤ (↑u.1 : Int) ∧ (↑u.1 : Int) < (↑a.Credentials.length : Int)) ∧ bcase ((a.Credentials.getD (↑u.1 : Int).toNat zCredential).Public == (a.Credentials.getD (↑v.1 : Int).toNat zCredential).Public) (false = false ∧ Value.bool false = Value.bool (vac a)) (∃ u' : InX a.Credentials v.1, (v.1.sub u'.1 < v.1.sub u.1 ∧ (((some 10000 = some 10000 ∧ 0 = 0) ∧ (Value.bool false = Value.bool false ∧ (vI (↑v.1 : Int) = vI (↑v.1 : Int) ∧ ((some 50040 = some 50040 ∧ 0 = 0) ∧ (vI (IntKind.i64.wrap ((↑u.1 : Int) + 1)) = vI (↑u'.1 : Int) ∧ True))))) ∧ ((52 = 52 ∧ (vI a.Id = vI a.Id ∧ (vI a.Minimum = vI a.Minimum ∧ (DaEq (rowR 81 4 dasCredential zCredential a.Credentials) (rowR 81 4 dasCredential zCredential a.Credentials))))) ∧ ((81 = 81 ∧ (vI (a.Credentials.getD (↑v.1 : Int).toNat zCredential).Handle = vI (a.Credentials.getD (↑v.1 : Int).toNat zCredential).Handle ∧ (vI (a.Credentials.getD (↑v.1 : Int).toNat zCredential).Public = vI (a.Credentials.getD (↑v.1 : Int).toNat zCredential).Public ∧ (vI (a.Credentials.getD (↑v.1 : Int).toNat zCredential).Counter = vI (a.Credentials.getD (↑v.1 : Int).toNat zCredential).Counter ∧ Value.bool (a.Credentials.getD (↑v.1 : Int).toNat zCredential).Cut = Value.bool (a.Credentials.getD (↑v.1 : Int).toNat zCredential).Cut)))) ∧ True)))))) (∃ v' : OutX a.Credentials, (a.Credentials.length.sub v'.1 < a.Credentials.length.sub v.1 ∧ (((some 10000 = some 10000 ∧ 0 = 0) ∧ (Value.bool false = Value.bool false ∧ (vI (IntKind.i64.wrap ((↑v.1 : Int) + 1)) = vI (↑v'.1 : Int) ∧ True))) ∧ ((52 = 52 ∧ (vI a.Id = vI a.Id ∧ (vI a.Minimum = vI a.Minimum ∧ (DaEq (rowR 81 4 dasCredential zCredential a.Credentials) (rowR 81 4 dasCredential zCredential a.Credentials))))) ∧ True)))))))))))))))) (bcase (inB a.Id 0 1000000) (bcase (inB a.Minimum 1 3) (FnCon Tryz.prog 66 [(false, [dI (a.Id)]), (false, [dI (0)]), (false, [dI (1000000)])] [(false, [dB ((inB a.Id 0 1000000))])] ∧ (inB a.Id 0 1000000 = true ∧ (FnCon Tryz.prog 66 [(false, [dI (a.Minimum)]), (false, [dI (1)]), (false, [dI (3)])] [(false, [dB ((inB a.Minimum 1 3))])] ∧ (inB a.Minimum 1 3 = true ∧ (false = false ∧ Value.bool (decide ((↑a.Credentials.length : Int) ≤ 8)) = Value.bool (vac a)))))) (FnCon Tryz.prog 66 [(false, [dI (a.Id)]), (false, [dI (0)]), (false, [dI (1000000)])] [(false, [dB ((inB a.Id 0 1000000))])] ∧ (inB a.Id 0 1000000 = true ∧ (FnCon Tryz.prog 66 [(false, [dI (a.Minimum)]), (false, [dI (1)]), (false, [dI (3)])] [(false, [dB ((inB a.Minimum 1 3))])] ∧ (inB a.Minimum 1 3 = false ∧ (false = false ∧ Value.bool false = Value.bool (vac a))))))) (FnCon Tryz.prog 66 [(false, [dI (a.Id)]), (false, [dI (0)]), (false, [dI (1000000)])] [(false, [dB ((inB a.Id 0 1000000))])] ∧ (inB a.Id 0 1000000 = false ∧ (false = false ∧ (false = false ∧ Value.bool false = Value.bool (vac a))))))))) (callsBy fun d _ a => match a with | [(_, [.val (.int _ n)]), (_, [.val (.int _ lo)]), (_, [.val (.int _ hi)])] => some [bV (inB n lo hi)] | [(_, [.val (.int _ n)])] => some [iV (prv n)] | _ => none) (vacL a.Credentials) Tryz.func44 (by kernel_rfl) (by kernel_rfl) (by kernel_rfl) (fun _ => trivial) (by kernel_rfl) ?_
  refine ⟨⟨⟨0, Nat.zero_le _, Seen.zero _⟩, ⟨⟨⟨rfl, rfl⟩, rfl, congrArg _ ?g1, trivial⟩, ⟨rfl, rfl, rfl, DaEq.refl _⟩, trivial⟩⟩, fun v => bcase_intro (fun h2 => ⟨⟨?g3, ?g4⟩, bcase_intro (fun h5 => ⟨(conIn _ _ _), h5, rfl, rfl, rfl, congrArg _ ?g7⟩) (fun h5 => bcase_intro (fun h8 => bcase_intro (fun h9 => ⟨(conIn _ _ _), h5, h8, ⟨?g11, ?g12⟩, h9, rfl, rfl, congrArg _ ?g13⟩) (fun h9 => bcase_intro (fun h14 => ⟨(conIn _ _ _), h5, h8, ⟨?g16, ?g17⟩, h9, (conPrv _), h14, rfl, congrArg _ ?g19⟩) (fun h14 => ⟨(conIn _ _ _), h5, h8, ⟨?g21, ?g22⟩, h9, (conPrv _), h14, (conIn _ _ _), bcase_intro (fun h25 => ⟨rfl, congrArg _ ?g26⟩) (fun h25 => ⟨⟨⟨0, Nat.zero_le _, fun j h => absurd h (Nat.not_lt_zero _)⟩, ⟨⟨⟨rfl, rfl⟩, rfl, rfl, ⟨rfl, rfl⟩, congrArg _ ?g28, trivial⟩, ⟨rfl, rfl, rfl, DaEq.refl _⟩, ⟨rfl, rfl, rfl, rfl, rfl⟩, trivial⟩⟩, fun u => bcase_intro (fun h29 => ⟨⟨?g30, ?g31⟩, bcase_intro (fun h32 => ⟨rfl, congrArg _ ?g33⟩) (fun h32 => ⟨⟨u.1 + 1, ?wa, ?wb⟩, ⟨?g35, ⟨⟨rfl, rfl⟩, rfl, rfl, ⟨rfl, rfl⟩, congrArg _ ?g36, trivial⟩, ⟨rfl, rfl, rfl, DaEq.refl _⟩, ⟨rfl, rfl, rfl, rfl, rfl⟩, trivial⟩⟩)⟩) (fun h29 => ⟨⟨v.1 + 1, ?we, ?wf⟩, ⟨?g38, ⟨⟨rfl, rfl⟩, rfl, congrArg _ ?g39, trivial⟩, ⟨rfl, rfl, rfl, DaEq.refl _⟩, trivial⟩⟩)⟩)⟩))) (fun h8 => bcase_intro (fun h40 => ⟨(conIn _ _ _), h5, h8, rfl, (conPrv _), h40, rfl, congrArg _ ?g43⟩) (fun h40 => ⟨(conIn _ _ _), h5, h8, rfl, (conPrv _), h40, (conIn _ _ _), bcase_intro (fun h47 => ⟨rfl, congrArg _ ?g48⟩) (fun h47 => ⟨⟨⟨0, Nat.zero_le _, fun j h => absurd h (Nat.not_lt_zero _)⟩, ⟨⟨⟨rfl, rfl⟩, rfl, rfl, ⟨rfl, rfl⟩, congrArg _ ?g50, trivial⟩, ⟨rfl, rfl, rfl, DaEq.refl _⟩, ⟨rfl, rfl, rfl, rfl, rfl⟩, trivial⟩⟩, fun u => bcase_intro (fun h51 => ⟨⟨?g52, ?g53⟩, bcase_intro (fun h54 => ⟨rfl, congrArg _ ?g55⟩) (fun h54 => ⟨⟨u.1 + 1, ?wc, ?wd⟩, ⟨?g57, ⟨⟨rfl, rfl⟩, rfl, rfl, ⟨rfl, rfl⟩, congrArg _ ?g58, trivial⟩, ⟨rfl, rfl, rfl, DaEq.refl _⟩, ⟨rfl, rfl, rfl, rfl, rfl⟩, trivial⟩⟩)⟩) (fun h51 => ⟨⟨v.1 + 1, ?wg, ?wh⟩, ⟨?g60, ⟨⟨rfl, rfl⟩, rfl, congrArg _ ?g61, trivial⟩, ⟨rfl, rfl, rfl, DaEq.refl _⟩, trivial⟩⟩)⟩)⟩)))⟩) (fun h2 => bcase_intro (fun h62 => bcase_intro (fun h63 => ⟨(conIn _ _ _), h62, (conIn _ _ _), h63, rfl, congrArg _ ?g66⟩) (fun h63 => ⟨(conIn _ _ _), h62, (conIn _ _ _), h63, rfl, congrArg _ ?g69⟩)) (fun h62 => ⟨(conIn _ _ _), h62, rfl, rfl, congrArg _ ?g71⟩))⟩
  case g1 | g28 | g50 => rfl
  case g66 =>
    have h2 := of_decide_eq_false h2
    have hs : okCs a.Credentials = true := okCs_t (by have : v.1 = a.Credentials.length := by have := v.2.1; omega
                                                      rw [← this]; exact v.2.2)
    unfold vac
    rw [h62, h63, hs, Bool.true_and, Bool.true_and, Bool.and_true]
    exact decide_eq_decide.2 (by omega)
  case g69 => unfold vac; rw [h63]; simp
  case g71 => unfold vac; rw [h62]; simp
  all_goals
    have hl : v.1 < a.Credentials.length := by have := of_decide_eq_true h2; omega
    have htn : (↑v.1 : Int).toNat = v.1 := Int.toNat_natCast _
    try simp only [htn] at h5
  case g7 => exact (vac_f (okCs_f hl fun g => by rw [inB_t g.handle] at h5; cases h5)).symm
  case g3 | g4 | g11 | g16 | g21 | g12 | g17 | g22 | g30 | g31 | g52 | g53 =>
    first | omega | (have h8 := of_decide_eq_true h8; rw [IntWalk.i64_in _ (by omega)]; omega) | (have h29 := of_decide_eq_true h29; omega) | (have h51 := of_decide_eq_true h51; omega)
  case g39 | g61 => show IntKind.i64.wrap ((v.1 : Int) + 1) = ((v.1 + 1 : Nat) : Int); rw [IntWalk.i64_in _ (by omega)]; rfl
  case g38 | g60 => show a.Credentials.length - (v.1 + 1) < a.Credentials.length - v.1; omega
  case we | wg => omega
  case g13 =>
    have h8 := of_decide_eq_true h8
    have h9 := of_decide_eq_true h9
    rw [IntWalk.i64_in _ (by omega), htn, show ((↑v.1 : Int) - 1).toNat = v.1 - 1 by omega] at h9
    exact (vac_f (okCs_f hl fun g => by have := g.rises (by omega); omega)).symm
  case g19 => rw [htn] at h14; exact (vac_f (okCs_f hl fun g => g.key (by simpa using h14))).symm
  case g43 => rw [htn] at h40; exact (vac_f (okCs_f hl fun g => g.key (by simpa using h40))).symm
  case g26 => rw [htn] at h25; exact (vac_f (okCs_f hl fun g => by rw [inB_t g.counter] at h25; cases h25)).symm
  case g48 => rw [htn] at h47; exact (vac_f (okCs_f hl fun g => by rw [inB_t g.counter] at h47; cases h47)).symm
  case g33 =>
    have h29 := of_decide_eq_true h29
    simp only [htn, Int.toNat_natCast] at h32
    exact (vac_f (okCs_f hl fun g => g.once u.1 (by omega) (by simpa using h32))).symm
  case g55 =>
    have h51 := of_decide_eq_true h51
    simp only [htn, Int.toNat_natCast] at h54
    exact (vac_f (okCs_f hl fun g => g.once u.1 (by omega) (by simpa using h54))).symm
  case g36 => have h29 := of_decide_eq_true h29; show IntKind.i64.wrap ((u.1 : Int) + 1) = ((u.1 + 1 : Nat) : Int); rw [IntWalk.i64_in _ (by omega)]; rfl
  case g58 => have h51 := of_decide_eq_true h51; show IntKind.i64.wrap ((u.1 : Int) + 1) = ((u.1 + 1 : Nat) : Int); rw [IntWalk.i64_in _ (by omega)]; rfl
  case g35 => have h29 := of_decide_eq_true h29; show v.1 - (u.1 + 1) < v.1 - u.1; omega
  case g57 => have h51 := of_decide_eq_true h51; show v.1 - (u.1 + 1) < v.1 - u.1; omega
  case wa => have h29 := of_decide_eq_true h29; omega
  case wc => have h51 := of_decide_eq_true h51; omega
  case wb =>
    intro j hj
    simp only [htn, Int.toNat_natCast] at h32
    rcases Nat.lt_or_ge j u.1 with h | h
    · exact u.2.2 j h
    · obtain rfl : j = u.1 := by omega
      simpa using h32
  case wd =>
    intro j hj
    simp only [htn, Int.toNat_natCast] at h54
    rcases Nat.lt_or_ge j u.1 with h | h
    · exact u.2.2 j h
    · obtain rfl : j = u.1 := by omega
      simpa using h54
  case wf =>
    have h8 := of_decide_eq_true h8
    have h9 := of_decide_eq_false h9
    have h29 := of_decide_eq_false h29
    rw [htn] at h14 h25
    rw [IntWalk.i64_in _ (by omega), htn, show ((↑v.1 : Int) - 1).toNat = v.1 - 1 by omega] at h9
    exact v.2.2.next ⟨inB_ok (by simpa using h5), fun _ => by omega, by simpa using h14, inB_ok (by simpa using h25), fun k hk => u.2.2 k (by omega)⟩
  case wh =>
    have h8 := of_decide_eq_false h8
    have h51 := of_decide_eq_false h51
    rw [htn] at h40 h47
    exact v.2.2.next ⟨inB_ok (by simpa using h5), fun _ => by omega, by simpa using h40, inB_ok (by simpa using h47), fun k hk => u.2.2 k (by omega)⟩
theorem vac_row {a : Fx.Account} (hn : a.Credentials.length ≤ 16000000) {d : Da} (hd : DaEq d (rowR 81 4 dasCredential zCredential a.Credentials)) : FnCon Tryz.prog 44 [(true, [dI a.Id, dI a.Minimum, d])] [bV (vac a)] :=
  con_at (conVac a hn) (by simp [flatG, dasAccount, hd.dc]) rfl
abbrev AddX (l : List Cr) (h : Int) : Type := { i : Nat // i ≤ l.length ∧ ∀ j, j < i → (l.getD j zCredential).Handle < h }
def addL (l : List Cr) (h : Int) : Loops := fun r _ => match r with
  | 3 => some ⟨AddX l h, fun v sl => only [1, 2, 3, 6, 7, 8, 9] 0 (sl.set 9 (.one (.val (vI v.1)))), fun _ obs => keepO [10000, 10008, 20008, 20016] obs, fun v => l.length - v.1⟩
  | _ => none
noncomputable def addC (a : Fx.Account) (h p : Int) : Orc := callsBy fun d _ _ => match d with | some 47 => some [bV (vac a)] | some 51 => some [bV (vac (addK a (cnt a.Credentials h) h p))] | _ => some [(true, dasAccount a)]
theorem conCopy (a : Fx.Account) (hn : a.Credentials.length ≤ 16000000) : FnCon Tryz.prog 42 ([(true, dasAccount a)]) ([(true, dasAccount a)]) := by
  refine fn_go (p := ((E9.PlainEl a.Credentials.length 4 fun i j => (dasCredential (a.Credentials.getD i zCredential)).getD j (Da.val undef)) ∧ (0 + a.Credentials.length ≤ 1000000000000 ∧ ((0 + a.Credentials.length) * 32 ≤ 140737488355328 ∧ (true = true ∧ (vI a.Id = vI a.Id ∧ (vI a.Minimum = vI a.Minimum ∧ (DaEq (Da.row 81 4 (0 + a.Credentials.length) fun i j => (dasCredential (a.Credentials.getD (i - 0) zCredential)).getD j (Da.val undef)) (rowR 81 4 dasCredential zCredential a.Credentials))))))))) (noCalls) (noLoops) Tryz.func42 (by kernel_rfl) (by kernel_rfl) (by kernel_rfl) (fun _ => trivial) (by kernel_rfl) ?_
  refine ⟨?g0, ?g1, ?g2, rfl, rfl, rfl, ?g3⟩
  case g0 => exact plainC _ _
  case g3 => exact row_to (row_app row_nil row_self) (by simp)
  all_goals omega
theorem conAdd (a : Fx.Account) (h p : Int) (hn : a.Credentials.length ≤ 15000000) : FnCon Tryz.prog 20 ([(true, dasAccount a), iV h, iV p]) ([(true, dasAccount (addX a h p)), bV (addB a h p)]) := by
  refine fn_go (p := ((FnCon Tryz.prog 42 [(true, dasAccount a)] [(true, dasAccount a)]) ∧ ((∃ x0 : AddX a.Credentials h, ((vI h = vI h ∧ (vI p = vI p ∧ ((some 10000 = some 10000 ∧ 0 = 0) ∧ ((some 10008 = some 10008 ∧ 0 = 0) ∧ (Value.bool false = Value.bool false ∧ ((some 20016 = some 20016 ∧ 0 = 0) ∧ (vI 0 = vI (↑x0.1 : Int) ∧ True))))))) ∧ ((52 = 52 ∧ (vI a.Id = vI a.Id ∧ (vI a.Minimum = vI a.Minimum ∧ (DaEq (rowR 81 4 dasCredential zCredential a.Credentials) (rowR 81 4 dasCredential zCredential a.Credentials))))) ∧ ((52 = 52 ∧ (vI 0 = vI 0 ∧ (vI 0 = vI 0 ∧ Value.slice none 0 0 = Value.slice none 0 0))) ∧ ((DaEq (rowR 81 4 dasCredential zCredential a.Credentials) (rowR 81 4 dasCredential zCredential a.Credentials)) ∧ ((52 = 52 ∧ (vI a.Id = vI a.Id ∧ (vI a.Minimum = vI a.Minimum ∧ some 20008 = some 20008))) ∧ True)))))) ∧ (∀ v : AddX a.Credentials h, bcase (decide ((↑v.1 : Int) < (↑a.Credentials.length : Int))) (decide ((↑v.1 : Int) < (↑a.Credentials.length : Int)) = true ∧ ((0 ≤ (↑v.1 : Int) ∧ (↑v.1 : Int) < (↑a.Credentials.length : Int)) ∧ bcase (decide ((a.Credentials.getD (↑v.1 : Int).toNat zCredential).Handle < h)) (∃ v' : AddX a.Credentials h, (a.Credentials.length.sub v'.1 < a.Credentials.length.sub v.1 ∧ ((vI h = vI h ∧ (vI p = vI p ∧ ((some 10000 = some 10000 ∧ 0 = 0) ∧ ((some 10008 = some 10008 ∧ 0 = 0) ∧ (Value.bool false = Value.bool false ∧ ((some 20016 = some 20016 ∧ 0 = 0) ∧ (vI (IntKind.i64.wrap ((↑v.1 : Int) + 1)) = vI (↑v'.1 : Int) ∧ True))))))) ∧ ((52 = 52 ∧ (vI a.Id = vI a.Id ∧ (vI a.Minimum = vI a.Minimum ∧ (DaEq (rowR 81 4 dasCredential zCredential a.Credentials) (rowR 81 4 dasCredential zCredential a.Credentials))))) ∧ ((52 = 52 ∧ (vI 0 = vI 0 ∧ (vI 0 = vI 0 ∧ Value.slice none 0 0 = Value.slice none 0 0))) ∧ ((DaEq (rowR 81 4 dasCredential zCredential a.Credentials) (rowR 81 4 dasCredential zCredential a.Credentials)) ∧ ((52 = 52 ∧ (vI a.Id = vI a.Id ∧ (vI a.Minimum = vI a.Minimum ∧ some 20008 = some 20008))) ∧ True))))))) ((Int.NonNeg 0 ∧ (0 ≤ (↑v.1 : Int) ∧ (↑v.1 : Int) ≤ (↑a.Credentials.length : Int))) ∧ ((E9.PlainEl (↑v.1 : Int).toNat 4 fun i j => (dasCredential (a.Credentials.getD i zCredential)).getD j (Da.val undef)) ∧ (0 + (↑v.1 : Int).toNat ≤ 1000000000000 ∧ ((0 + (↑v.1 : Int).toNat) * 32 ≤ 140737488355328 ∧ ((E9.PlainEl 1 4 fun i j => Da.val ([vI h, vI p, vI 0, Value.bool false].getD (i * 4 + j) undef)) ∧ (0 + (↑v.1 : Int).toNat + 1 ≤ 1000000000000 ∧ ((0 + (↑v.1 : Int).toNat + 1) * 32 ≤ 140737488355328 ∧ ((0 ≤ (↑v.1 : Int) ∧ ((↑v.1 : Int) ≤ (↑a.Credentials.length : Int) ∧ (↑a.Credentials.length : Int) ≤ (↑a.Credentials.length : Int))) ∧ ((E9.PlainEl (a.Credentials.length.sub (↑v.1 : Int).toNat) 4 fun i j => (dasCredential (a.Credentials.getD (i + (↑v.1 : Int).toNat) zCredential)).getD j (Da.val undef)) ∧ (0 + (↑v.1 : Int).toNat + 1 + a.Credentials.length.sub (↑v.1 : Int).toNat ≤ 1000000000000 ∧ ((0 + (↑v.1 : Int).toNat + 1 + a.Credentials.length.sub (↑v.1 : Int).toNat) * 32 ≤ 140737488355328 ∧ bcase (!vac a) ((FnCon Tryz.prog 44 [(true, dasAccount a)] [(false, [dB ((vac a))])]) ∧ ((!vac a) = true ∧ ((FnCon Tryz.prog 42 [(true, dasAccount a)] [(true, dasAccount a)]) ∧ ((true = true ∧ (vI a.Id = vI (addX a h p).Id ∧ (vI a.Minimum = vI (addX a h p).Minimum ∧ (DaEq (rowR 81 4 dasCredential zCredential a.Credentials) (Da.row 81 4 (addX a h p).Credentials.length fun i j => (dasCredential ((addX a h p).Credentials.getD i zCredential)).getD j (Da.val undef)))))) ∧ (false = false ∧ Value.bool false = Value.bool (addB a h p)))))) ((FnCon Tryz.prog 44 [(true, dasAccount a)] [(false, [dB ((vac a))])]) ∧ ((!vac a) = false ∧ ((FnCon Tryz.prog 44
  [(true,
      [dI (a.Id), dI (a.Minimum),
        Da.row 81 4 (0 + (↑v.1 : Int).toNat + 1 + a.Credentials.length.sub (↑v.1 : Int).toNat) fun i j =>
          match i.ble (0 + (↑v.1 : Int).toNat) with
          | true =>
            match i.succ.ble (0 + (↑v.1 : Int).toNat) with
            | true => (dasCredential (a.Credentials.getD (i - 0) zCredential)).getD j (Da.val undef)
            | false => Da.val ([vI h, vI p, vI 0, Value.bool false].getD ((i - (0 + (↑v.1 : Int).toNat)) * 4 + j) undef)
          | false => (dasCredential (a.Credentials.getD (i - (0 + (↑v.1 : Int).toNat + 1) + (↑v.1 : Int).toNat) zCredential)).getD j (Da.val undef)])]
  [(false, [dB ((vac (addK a (M18.cnt a.Credentials h) h p)))])]) ∧ bcase (!vac (addK a (M18.cnt a.Credentials h) h p)) ((FnCon Tryz.prog 42 [(true, dasAccount a)] [(true, dasAccount a)]) ∧ ((true = true ∧ (vI a.Id = vI (addX a h p).Id ∧ (vI a.Minimum = vI (addX a h p).Minimum ∧ (DaEq (rowR 81 4 dasCredential zCredential a.Credentials) (Da.row 81 4 (addX a h p).Credentials.length fun i j => (dasCredential ((addX a h p).Credentials.getD i zCredential)).getD j (Da.val undef)))))) ∧ (false = false ∧ Value.bool false = Value.bool (addB a h p)))) ((true = true ∧ (vI a.Id = vI (addX a h p).Id ∧ (vI a.Minimum = vI (addX a h p).Minimum ∧ (DaEq
  (Da.row 81 4 (0 + (↑v.1 : Int).toNat + 1 + a.Credentials.length.sub (↑v.1 : Int).toNat) fun i j =>
    match i.ble (0 + (↑v.1 : Int).toNat) with
    | true =>
      match i.succ.ble (0 + (↑v.1 : Int).toNat) with
      | true => (dasCredential (a.Credentials.getD (i - 0) zCredential)).getD j (Da.val undef)
      | false => Da.val ([vI h, vI p, vI 0, Value.bool false].getD ((i - (0 + (↑v.1 : Int).toNat)) * 4 + j) undef)
    | false => (dasCredential (a.Credentials.getD (i - (0 + (↑v.1 : Int).toNat + 1) + (↑v.1 : Int).toNat) zCredential)).getD j (Da.val undef))
  (Da.row 81 4 (addX a h p).Credentials.length fun i j => (dasCredential ((addX a h p).Credentials.getD i zCredential)).getD j (Da.val undef)))))) ∧ (false = false ∧ Value.bool true = Value.bool (addB a h p))))))))))))))))))) (decide ((↑v.1 : Int) < (↑a.Credentials.length : Int)) = false ∧ ((Int.NonNeg 0 ∧ (0 ≤ (↑v.1 : Int) ∧ (↑v.1 : Int) ≤ (↑a.Credentials.length : Int))) ∧ ((E9.PlainEl (↑v.1 : Int).toNat 4 fun i j => (dasCredential (a.Credentials.getD i zCredential)).getD j (Da.val undef)) ∧ (0 + (↑v.1 : Int).toNat ≤ 1000000000000 ∧ ((0 + (↑v.1 : Int).toNat) * 32 ≤ 140737488355328 ∧ ((E9.PlainEl 1 4 fun i j => Da.val ([vI h, vI p, vI 0, Value.bool false].getD (i * 4 + j) undef)) ∧ (0 + (↑v.1 : Int).toNat + 1 ≤ 1000000000000 ∧ ((0 + (↑v.1 : Int).toNat + 1) * 32 ≤ 140737488355328 ∧ ((0 ≤ (↑v.1 : Int) ∧ ((↑v.1 : Int) ≤ (↑a.Credentials.length : Int) ∧ (↑a.Credentials.length : Int) ≤ (↑a.Credentials.length : Int))) ∧ ((E9.PlainEl (a.Credentials.length.sub (↑v.1 : Int).toNat) 4 fun i j => (dasCredential (a.Credentials.getD (i + (↑v.1 : Int).toNat) zCredential)).getD j (Da.val undef)) ∧ (0 + (↑v.1 : Int).toNat + 1 + a.Credentials.length.sub (↑v.1 : Int).toNat ≤ 1000000000000 ∧ ((0 + (↑v.1 : Int).toNat + 1 + a.Credentials.length.sub (↑v.1 : Int).toNat) * 32 ≤ 140737488355328 ∧ bcase (!vac a) ((FnCon Tryz.prog 44 [(true, dasAccount a)] [(false, [dB ((vac a))])]) ∧ ((!vac a) = true ∧ ((FnCon Tryz.prog 42 [(true, dasAccount a)] [(true, dasAccount a)]) ∧ ((true = true ∧ (vI a.Id = vI (addX a h p).Id ∧ (vI a.Minimum = vI (addX a h p).Minimum ∧ (DaEq (rowR 81 4 dasCredential zCredential a.Credentials) (Da.row 81 4 (addX a h p).Credentials.length fun i j => (dasCredential ((addX a h p).Credentials.getD i zCredential)).getD j (Da.val undef)))))) ∧ (false = false ∧ Value.bool false = Value.bool (addB a h p)))))) ((FnCon Tryz.prog 44 [(true, dasAccount a)] [(false, [dB ((vac a))])]) ∧ ((!vac a) = false ∧ ((FnCon Tryz.prog 44
  [(true,
      [dI (a.Id), dI (a.Minimum),
        Da.row 81 4 (0 + (↑v.1 : Int).toNat + 1 + a.Credentials.length.sub (↑v.1 : Int).toNat) fun i j =>
          match i.ble (0 + (↑v.1 : Int).toNat) with
          | true =>
            match i.succ.ble (0 + (↑v.1 : Int).toNat) with
            | true => (dasCredential (a.Credentials.getD (i - 0) zCredential)).getD j (Da.val undef)
            | false => Da.val ([vI h, vI p, vI 0, Value.bool false].getD ((i - (0 + (↑v.1 : Int).toNat)) * 4 + j) undef)
          | false => (dasCredential (a.Credentials.getD (i - (0 + (↑v.1 : Int).toNat + 1) + (↑v.1 : Int).toNat) zCredential)).getD j (Da.val undef)])]
  [(false, [dB ((vac (addK a (M18.cnt a.Credentials h) h p)))])]) ∧ bcase (!vac (addK a (M18.cnt a.Credentials h) h p)) ((FnCon Tryz.prog 42 [(true, dasAccount a)] [(true, dasAccount a)]) ∧ ((true = true ∧ (vI a.Id = vI (addX a h p).Id ∧ (vI a.Minimum = vI (addX a h p).Minimum ∧ (DaEq (rowR 81 4 dasCredential zCredential a.Credentials) (Da.row 81 4 (addX a h p).Credentials.length fun i j => (dasCredential ((addX a h p).Credentials.getD i zCredential)).getD j (Da.val undef)))))) ∧ (false = false ∧ Value.bool false = Value.bool (addB a h p)))) ((true = true ∧ (vI a.Id = vI (addX a h p).Id ∧ (vI a.Minimum = vI (addX a h p).Minimum ∧ (DaEq
  (Da.row 81 4 (0 + (↑v.1 : Int).toNat + 1 + a.Credentials.length.sub (↑v.1 : Int).toNat) fun i j =>
    match i.ble (0 + (↑v.1 : Int).toNat) with
    | true =>
      match i.succ.ble (0 + (↑v.1 : Int).toNat) with
      | true => (dasCredential (a.Credentials.getD (i - 0) zCredential)).getD j (Da.val undef)
      | false => Da.val ([vI h, vI p, vI 0, Value.bool false].getD ((i - (0 + (↑v.1 : Int).toNat)) * 4 + j) undef)
    | false => (dasCredential (a.Credentials.getD (i - (0 + (↑v.1 : Int).toNat + 1) + (↑v.1 : Int).toNat) zCredential)).getD j (Da.val undef))
  (Da.row 81 4 (addX a h p).Credentials.length fun i j => (dasCredential ((addX a h p).Credentials.getD i zCredential)).getD j (Da.val undef)))))) ∧ (false = false ∧ Value.bool true = Value.bool (addB a h p)))))))))))))))))))))) (addC a h p) (addL a.Credentials h) Tryz.func20 (by kernel_rfl) (by kernel_rfl) (by kernel_rfl) (fun _ => trivial) (by kernel_rfl) ?_
  refine ⟨(conCopy a (by omega)), ⟨⟨0, Nat.zero_le _, fun j h => absurd h (Nat.not_lt_zero _)⟩, ⟨⟨rfl, rfl, ⟨rfl, rfl⟩, ⟨rfl, rfl⟩, rfl, ⟨rfl, rfl⟩, congrArg _ ?g2, trivial⟩, ⟨rfl, rfl, rfl, DaEq.refl _⟩, ⟨rfl, rfl, rfl, rfl⟩, DaEq.refl _, ⟨rfl, rfl, rfl, rfl⟩, trivial⟩⟩, fun v => bcase_intro (fun h3 => ⟨h3, ⟨?g4, ?g5⟩, bcase_intro (fun h6 => ⟨⟨v.1 + 1, ?wa, ?wb⟩, ⟨?g8, ⟨rfl, rfl, ⟨rfl, rfl⟩, ⟨rfl, rfl⟩, rfl, ⟨rfl, rfl⟩, congrArg _ ?g9, trivial⟩, ⟨rfl, rfl, rfl, DaEq.refl _⟩, ⟨rfl, rfl, rfl, rfl⟩, DaEq.refl _, ⟨rfl, rfl, rfl, rfl⟩, trivial⟩⟩) (fun h6 => ⟨⟨?g10, ?g11, ?g12⟩, ?g13, ?g14, ?g15, ?g16, ?g17, ?g18, ⟨?g19, ?g20, ?g21⟩, ?g22, ?g23, ?g24, bcase_intro (fun h25 => ⟨?g26, h25, (conCopy a (by omega)), ⟨rfl, congrArg _ ?g28, congrArg _ ?g29, ?g30⟩, rfl, congrArg _ ?g31⟩) (fun h25 => ⟨?g32, h25, ?g33, bcase_intro (fun h34 => ⟨(conCopy a (by omega)), ⟨rfl, congrArg _ ?g36, congrArg _ ?g37, ?g38⟩, rfl, congrArg _ ?g39⟩) (fun h34 => ⟨⟨rfl, congrArg _ ?g40, congrArg _ ?g41, ?g42⟩, rfl, congrArg _ ?g43⟩)⟩)⟩)⟩) (fun h3 => ⟨h3, ⟨?g44, ?g45, ?g46⟩, ?g47, ?g48, ?g49, ?g50, ?g51, ?g52, ⟨?g53, ?g54, ?g55⟩, ?g56, ?g57, ?g58, bcase_intro (fun h59 => ⟨?g60, h59, (conCopy a (by omega)), ⟨rfl, congrArg _ ?g62, congrArg _ ?g63, ?g64⟩, rfl, congrArg _ ?g65⟩) (fun h59 => ⟨?g66, h59, ?g67, bcase_intro (fun h68 => ⟨(conCopy a (by omega)), ⟨rfl, congrArg _ ?g70, congrArg _ ?g71, ?g72⟩, rfl, congrArg _ ?g73⟩) (fun h68 => ⟨⟨rfl, congrArg _ ?g74, congrArg _ ?g75, ?g76⟩, rfl, congrArg _ ?g77⟩)⟩)⟩)⟩
  case g2 => rfl
  case g10 | g44 => exact Int.NonNeg.mk 0
  case g13 | g22 | g47 | g56 => exact plainC _ _
  case g16 | g50 =>
    intro i hi j hj
    obtain rfl : i = 0 := by omega
    match j, hj with
    | 0, _ => rfl
    | 1, _ => rfl
    | 2, _ => rfl
    | 3, _ => rfl
  case g26 | g32 | g60 | g66 => exact conVac a (by omega)
  all_goals have htn : (↑v.1 : Int).toNat = v.1 := Int.toNat_natCast _
  all_goals have hvl := v.2.1
  all_goals try simp only [htn] at h6
  all_goals try rw [htn]
  case g4 | g5 => have h3 := of_decide_eq_true h3; omega
  case g8 => have h3 := of_decide_eq_true h3; show a.Credentials.length - (v.1 + 1) < a.Credentials.length - v.1; omega
  case g9 => have h3 := of_decide_eq_true h3; show IntKind.i64.wrap ((v.1 : Int) + 1) = ((v.1 + 1 : Nat) : Int); rw [IntWalk.i64_in _ (by omega)]; rfl
  case wa => have h3 := of_decide_eq_true h3; omega
  case wb =>
    have h3 := of_decide_eq_true h3
    have h6 := of_decide_eq_true h6
    intro j hj
    rcases Nat.lt_or_ge j v.1 with h | h
    · exact v.2.2 j h
    · obtain rfl : j = v.1 := by omega
      exact h6
  case g11 | g12 | g14 | g15 | g17 | g18 | g19 | g20 | g21 | g23 | g24 | g45 | g46 | g48 | g49 | g51 | g52 | g53 | g54 | g55 | g57 | g58 => first | omega | (rw [Nat.sub_eq]; omega)
  case g28 | g29 | g31 | g62 | g63 | g65 =>
    have e : vac a = false := by first | simpa using h25 | simpa using h59
    have eb : addB a h p = false := by unfold addB; rw [e]; rfl
    first | rw [addX_f eb] | exact eb.symm
  case g30 | g64 =>
    have e : vac a = false := by first | simpa using h25 | simpa using h59
    have eb : addB a h p = false := by unfold addB; rw [e]; rfl
    exact row_to row_self (by rw [addX_f eb])
  all_goals
    have hk : M18.cnt a.Credentials h = v.1 := cnt_at hvl v.2.2 fun hl => by first | (have h6 := of_decide_eq_false h6; exact h6) | (have h3 := of_decide_eq_false h3; omega)
    have hlen := insK_len (l := a.Credentials) h p hvl
    have hrow : DaEq (Da.row 81 4 (0 + v.1 + 1 + a.Credentials.length.sub v.1) fun i j =>
        match i.ble (0 + v.1) with
        | true =>
          match i.succ.ble (0 + v.1) with
          | true => (dasCredential (a.Credentials.getD (i - 0) zCredential)).getD j (Da.val undef)
          | false => Da.val ([vI h, vI p, vI 0, Value.bool false].getD ((i - (0 + v.1)) * 4 + j) undef)
        | false => (dasCredential (a.Credentials.getD (i - (0 + v.1 + 1) + v.1) zCredential)).getD j (Da.val undef)) (rowR 81 4 dasCredential zCredential (addK a (M18.cnt a.Credentials h) h p).Credentials) := by
      rw [hk]
      have h1 : RowOf 4 dasCredential zCredential v.1 (fun i j => (dasCredential (a.Credentials.getD i zCredential)).getD j (.val undef)) (a.Credentials.take v.1) := row_take row_self hvl
      have h2 : RowOf 4 dasCredential zCredential 1 (fun i j => Da.val ([vI h, vI p, vI 0, Value.bool false].getD (i * 4 + j) undef)) [(⟨h, p, 0, false⟩ : Cr)] := row_one fun j hj => by
        match j, hj with
        | 0, _ => rfl
        | 1, _ => rfl
        | 2, _ => rfl
        | 3, _ => rfl
      have h3 : RowOf 4 dasCredential zCredential (a.Credentials.length - v.1) (fun i j => (dasCredential (a.Credentials.getD (i + v.1) zCredential)).getD j (.val undef)) (a.Credentials.drop v.1) := row_drop row_self v.1
      exact row_to (row_app (row_app (row_app row_nil h1) h2) h3) (by simp [addK, insK])
  case g33 | g67 => exact vac_row (a := addK a (M18.cnt a.Credentials h) h p) (by show (insK _ _ _ _).length ≤ 16000000; rw [hk, hlen]; omega) hrow
  all_goals have hv : vac a = true := by first | simpa using h25 | simpa using h59
  case g36 | g37 | g39 | g70 | g71 | g73 =>
    have e : vac (addK a (M18.cnt a.Credentials h) h p) = false := by first | simpa using h34 | simpa using h68
    have eb : addB a h p = false := by unfold addB; rw [e]; simp
    first | rw [addX_f eb] | exact eb.symm
  case g38 | g72 =>
    have e : vac (addK a (M18.cnt a.Credentials h) h p) = false := by first | simpa using h34 | simpa using h68
    have eb : addB a h p = false := by unfold addB; rw [e]; simp
    exact row_to row_self (by rw [addX_f eb])
  all_goals
    have e : vac (addK a (M18.cnt a.Credentials h) h p) = true := by first | simpa using h34 | simpa using h68
    have eb : addB a h p = true := by unfold addB; rw [hv, e]; rfl
    rw [← addX_t eb] at hrow
  case g42 | g76 => exact hrow
  all_goals first | exact eb.symm | (rw [addX_t eb]; rfl)
end Go.Proofs.YtllaacdikjffmaaGreat.C14s
