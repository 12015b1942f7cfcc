import Derived.Test.YtialhhdhpjjkaaaDoorDa14
import Derived.Test.YtialhhdhpjjkaaaDoorC13m
import Derived.Test.YtialhhdhpjjkaaaDoorC13c
import Derived.Test.YtialhhdhpjjkaaaDoorH1
namespace Go.Proofs.YtialhhdhpjjkaaaDoor.C13r
open Go.ChangeShapes Go.WideShapes Go.ChangeAt Go.RowKit
open S0 S1 S9 Dm Fx M3 M8 H1 C3 C6 C13m C13c E0 E1 E2 E3 E4 E7 E10 E15 E16 E17 E18 E19 E20 Das
set_option linter.unusedVariables false
set_option linter.unusedSimpArgs false
set_option maxRecDepth 100000
set_option maxHeartbeats 4000000
theorem six {i : Nat} (h : i < 6) : i = 0 ∨ i = 1 ∨ i = 2 ∨ i = 3 ∨ i = 4 ∨ i = 5 := by omega
theorem conSiteH (s : ByteArray) (hs : s.size ≤ 16000000) : FnCon Tryd.prog 36 [sV s] [iV (H1.siteH s)] :=
  con_of_plain (con_enters Tryd.func36 (by kernel_rfl) (by kernel_rfl)) rfl fun w v0 k0 => by
    obtain ⟨v1, rfl, k1⟩ := of_valA k0
    obtain rfl := of_nil k1
    exact H1.implSiteH w s hs
theorem conDer (n : Int) (s : ByteArray) (n0 : -9223372036854775808 ≤ n) (n1 : n ≤ 9223372036854775807) (hs : s.size ≤ 16777216) : FnCon Tryd.prog 37 [iV n, sV s] [iV (derive n (C3b.sbytes s))] :=
  con_of_plain (con_enters Tryd.func37 (by kernel_rfl) (by kernel_rfl)) rfl fun w v0 k0 => by
    obtain ⟨v1, rfl, k1⟩ := of_valA k0
    obtain ⟨v2, rfl, k2⟩ := of_valA k1
    obtain rfl := of_nil k2
    exact C3b.implDerive w n s n0 n1 hs
theorem conMsg (a : Fx.Assertion) (hs : a.Site.size ≤ 16000000) (hs2 : a.Origin.size ≤ 16000000) : FnCon Tryd.prog 21 ([(true, dasAssertion a)]) ([(false, [numR 3 .i64 (msg a)])]) := by
  refine fn_go (p := bcase (a.Present) (FnCon Tryd.prog 36 [(false, [dS (a.Site)])] [(false, [dI ((siteH a.Site))])] ∧ (FnCon Tryd.prog 37 [(false, [dI (211)]), (false, [dS (a.Origin)])] [(false, [dI ((derive 211 (C3b.sbytes a.Origin)))])] ∧ (false = false ∧ (DaEq (Da.row 3 1 6 fun i j => Da.val ([vI 199, vI (siteH a.Site), vI (derive 211 (C3b.sbytes a.Origin)), vI a.Challenge, vI a.Handle, vI 1].getD (i * 1 + j) undef)) (Da.row 3 1 (msg a).length fun i x => dI (((msg a).getD i 0))))))) (FnCon Tryd.prog 36 [(false, [dS (a.Site)])] [(false, [dI ((siteH a.Site))])] ∧ (FnCon Tryd.prog 37 [(false, [dI (211)]), (false, [dS (a.Origin)])] [(false, [dI ((derive 211 (C3b.sbytes a.Origin)))])] ∧ (false = false ∧ (DaEq (Da.row 3 1 6 fun i j => Da.val ([vI 199, vI (siteH a.Site), vI (derive 211 (C3b.sbytes a.Origin)), vI a.Challenge, vI a.Handle, vI 0].getD (i * 1 + j) undef)) (Da.row 3 1 (msg a).length fun i x => dI (((msg a).getD i 0)))))))) (callsBy fun d _ _ => match d with | some 8 => some [iV (H1.siteH a.Site)] | some 11 => some [iV (derive 211 (C3b.sbytes a.Origin))] | _ => none) (noLoops) Tryd.func21 (by kernel_rfl) (by kernel_rfl) (by kernel_rfl) (fun _ => trivial) (by kernel_rfl) ?_
  refine bcase_intro (fun h0 => ⟨(conSiteH _ hs), (conDer _ _ (by omega) (by omega) (by omega)), rfl, ?g3⟩) (fun h0 => ⟨(conSiteH _ hs), (conDer _ _ (by omega) (by omega) (by omega)), rfl, ?g6⟩)
  case g3 =>
    refine ⟨rfl, rfl, rfl, fun i hi j hj => ?_⟩
    obtain rfl : j = 0 := by omega
    unfold msg
    rw [if_pos h0]
    rcases six hi with rfl | rfl | rfl | rfl | rfl | rfl <;> rfl
  case g6 =>
    refine ⟨rfl, rfl, rfl, fun i hi j hj => ?_⟩
    obtain rfl : j = 0 := by omega
    unfold msg
    rw [if_neg (by simp [h0])]
    rcases six hi with rfl | rfl | rfl | rfl | rfl | rfl <;> rfl
end Go.Proofs.YtialhhdhpjjkaaaDoor.C13r
