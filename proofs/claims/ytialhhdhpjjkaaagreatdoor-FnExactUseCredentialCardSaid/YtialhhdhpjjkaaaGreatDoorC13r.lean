import Derived.Test.YtialhhdhpjjkaaaGreatDoorDa14
import Derived.Test.YtialhhdhpjjkaaaGreatDoorC13m
import Derived.Test.YtialhhdhpjjkaaaGreatDoorC13c
import Derived.Test.YtialhhdhpjjkaaaGreatDoorH1
namespace Go.Proofs.YtialhhdhpjjkaaaGreatDoor.C13r
open Go.ChangeShapes Go.WideShapes Go.ChangeAt Go.RowKit
open S0 S1 S9 Dm Fx M3 M8 H1 C3 C6 C13m C13c E0 E1 E2 E3 E4 E7 E10 E15 E16 E17 E18 E19 E20 Das
set_option linter.unusedVariables false
set_option linter.unusedSimpArgs false
set_option maxRecDepth 100000
set_option maxHeartbeats 4000000
theorem six {i : Nat} (h : i < 6) : i = 0 ∨ i = 1 ∨ i = 2 ∨ i = 3 ∨ i = 4 ∨ i = 5 := by omega
theorem conSiteH (s : ByteArray) (hs : s.size ≤ 16000000) : FnCon Tryz.prog 33 [sV s] [iV (H1.siteH s)] :=
  con_of_plain (con_enters Tryz.func33 (by kernel_rfl) (by kernel_rfl)) rfl fun w v0 k0 => by
    obtain ⟨v1, rfl, k1⟩ := of_valA k0
    obtain rfl := of_nil k1
    exact H1.implSiteH w s hs
theorem conDer (n : Int) (s : ByteArray) (n0 : -9223372036854775808 ≤ n) (n1 : n ≤ 9223372036854775807) (hs : s.size ≤ 16777216) : FnCon Tryz.prog 79 [iV n, sV s] [iV (derive n (C3b.sbytes s))] :=
  con_of_plain (con_enters Tryz.func79 (by kernel_rfl) (by kernel_rfl)) rfl fun w v0 k0 => by
    obtain ⟨v1, rfl, k1⟩ := of_valA k0
    obtain ⟨v2, rfl, k2⟩ := of_valA k1
    obtain rfl := of_nil k2
    exact C3b.implDerive w n s n0 n1 hs
theorem conMsg (a : Fx.Assertion) (hs : a.Site.size ≤ 16000000) (hs2 : a.Origin.size ≤ 16000000) : FnCon Tryz.prog 44 ([(true, dasAssertion a)]) ([(false, [numR 3 .i64 (msg a)])]) := by
  refine fn_go (p := bcase (a.Present) (FnCon Tryz.prog 33 [(false, [dS (a.Site)])] [(false, [dI ((siteH a.Site))])] ∧ (FnCon Tryz.prog 79 [(false, [dI (211)]), (false, [dS (a.Origin)])] [(false, [dI ((derive 211 (C3b.sbytes a.Origin)))])] ∧ (false = false ∧ (DaEq (Da.row 3 1 6 fun i j => Da.val ([vI 199, vI (siteH a.Site), vI (derive 211 (C3b.sbytes a.Origin)), vI a.Challenge, vI a.Handle, vI 1].getD (i * 1 + j) undef)) (Da.row 3 1 (msg a).length fun i x => dI (((msg a).getD i 0))))))) (FnCon Tryz.prog 33 [(false, [dS (a.Site)])] [(false, [dI ((siteH a.Site))])] ∧ (FnCon Tryz.prog 79 [(false, [dI (211)]), (false, [dS (a.Origin)])] [(false, [dI ((derive 211 (C3b.sbytes a.Origin)))])] ∧ (false = false ∧ (DaEq (Da.row 3 1 6 fun i j => Da.val ([vI 199, vI (siteH a.Site), vI (derive 211 (C3b.sbytes a.Origin)), vI a.Challenge, vI a.Handle, vI 0].getD (i * 1 + j) undef)) (Da.row 3 1 (msg a).length fun i x => dI (((msg a).getD i 0)))))))) (callsBy fun d _ _ => match d with | some 8 => some [iV (H1.siteH a.Site)] | some 11 => some [iV (derive 211 (C3b.sbytes a.Origin))] | _ => none) (noLoops) Tryz.func44 (by kernel_rfl) (by kernel_rfl) (by kernel_rfl) (fun _ => trivial) (by kernel_rfl) ?_
  refine bcase_intro (fun h0 => ⟨(conSiteH _ hs), (conDer _ _ (by omega) (by omega) (by omega)), rfl, ?g3⟩) (fun h0 => ⟨(conSiteH _ hs), (conDer _ _ (by omega) (by omega) (by omega)), rfl, ?g6⟩)
  case g3 =>
    refine ⟨rfl, rfl, rfl, fun i hi j hj => ?_⟩
    obtain rfl : j = 0 := by omega
    unfold msg
    rw [if_pos h0]
    rcases six hi with rfl | rfl | rfl | rfl | rfl | rfl <;> rfl
  case g6 =>
    refine ⟨rfl, rfl, rfl, fun i hi j hj => ?_⟩
    obtain rfl : j = 0 := by omega
    unfold msg
    rw [if_neg (by simp [h0])]
    rcases six hi with rfl | rfl | rfl | rfl | rfl | rfl <;> rfl
theorem conClone (a : Fx.Assertion) (n : Int) : FnCon Tryz.prog 38 ([(true, dasAssertion a), iV n]) ([bV (decide (a.Counter ≤ n))]) := by
  refine fn_go (p := (false = false ∧ Value.bool (decide (a.Counter ≤ n)) = Value.bool (decide (a.Counter ≤ n)))) (noCalls) (noLoops) Tryz.func38 (by kernel_rfl) (by kernel_rfl) (by kernel_rfl) (fun _ => trivial) (by kernel_rfl) ?_
  refine ⟨rfl, rfl⟩
theorem conName (c : Int) : FnCon Tryz.prog 39 ([iV c]) ([sV (nameA c)]) := by
  refine fn_go (p := bcase (c == 0) (false = false ∧ Value.string { data := { toList := [111, 107] } } = Value.string (nameA c)) (bcase (c == 1) (false = false ∧ Value.string { data := { toList := [111, 114, 105, 103, 105, 110] } } = Value.string (nameA c)) (bcase (c == 2) (false = false ∧ Value.string { data := { toList := [112, 114, 101, 115, 101, 110, 99, 101] } } = Value.string (nameA c)) (bcase (c == 3) (false = false ∧ Value.string { data := { toList := [99, 104, 97, 108, 108, 101, 110, 103, 101] } } = Value.string (nameA c)) (bcase (c == 4) (false = false ∧ Value.string { data := { toList := [99, 111, 117, 110, 116, 101, 114] } } = Value.string (nameA c)) (bcase (c == 5) (false = false ∧ Value.string { data := { toList := [115, 105, 103, 110, 97, 116, 117, 114, 101] } } = Value.string (nameA c)) (false = false ∧ Value.string { data := { toList := [] } } = Value.string (nameA c)))))))) (noCalls) (noLoops) Tryz.func39 (by kernel_rfl) (by kernel_rfl) (by kernel_rfl) (fun _ => trivial) (by kernel_rfl) ?_
  refine bcase_intro (fun h0 => ⟨rfl, congrArg _ ?g1⟩) (fun h0 => bcase_intro (fun h2 => ⟨rfl, congrArg _ ?g3⟩) (fun h2 => bcase_intro (fun h4 => ⟨rfl, congrArg _ ?g5⟩) (fun h4 => bcase_intro (fun h6 => ⟨rfl, congrArg _ ?g7⟩) (fun h6 => bcase_intro (fun h8 => ⟨rfl, congrArg _ ?g9⟩) (fun h8 => bcase_intro (fun h10 => ⟨rfl, congrArg _ ?g11⟩) (fun h10 => ⟨rfl, congrArg _ ?g12⟩))))))
  case g1 | g3 | g5 | g7 | g9 | g11 =>
    first
    | (obtain rfl : c = 5 := by simpa using h10
       rfl)
    | (obtain rfl : c = 4 := by simpa using h8
       rfl)
    | (obtain rfl : c = 3 := by simpa using h6
       rfl)
    | (obtain rfl : c = 2 := by simpa using h4
       rfl)
    | (obtain rfl : c = 1 := by simpa using h2
       rfl)
    | (obtain rfl : c = 0 := by simpa using h0
       rfl)
  case g12 =>
    have e0 : ¬ c = 0 := by simpa using h0
    have e1 : ¬ c = 1 := by simpa using h2
    have e2 : ¬ c = 2 := by simpa using h4
    have e3 : ¬ c = 3 := by simpa using h6
    have e4 : ¬ c = 4 := by simpa using h8
    have e5 : ¬ c = 5 := by simpa using h10
    unfold nameA
    rw [if_neg e0, if_neg e1, if_neg e2, if_neg e3, if_neg e4, if_neg e5]
end Go.Proofs.YtialhhdhpjjkaaaGreatDoor.C13r
