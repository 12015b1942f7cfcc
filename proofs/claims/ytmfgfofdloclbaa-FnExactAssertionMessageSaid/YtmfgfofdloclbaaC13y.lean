/-
  Chapter 13's message for its exact law: a row of numbers that was made.
-/
import Derived.Test.YtmfgfofdloclbaaC13i
namespace Go.Proofs.Ytmfgfofdloclbaa.C13y
open Go.ChangeShapes Go.WideShapes Go.ChangeAt Go.RowKit
open S0 S1 S9 Dm Fx C13m
set_option linter.unusedVariables false
theorem madeD {xs : List Int} {n : Nat} {w : World} {e : Ending} {w' : World} (hn : xs.length = n) (h : MadeS 3 1 n (ints .i64 xs) w e w') : Bx.MadeD (numsD xs) w e w' := by
  subst hn
  obtain ⟨A, c, rfl, ho, hb⟩ := h
  exact ⟨_, _, rfl, owns_flat ho, Ra.block_nodup _, hb⟩
theorem specMsg2 (w : World) (a : Fx.Assertion) (us : List Value) (h : RdsL w w.heap.size a.dcs us) (hs : a.Site.size ≤ 16000000) (hs2 : a.Origin.size ≤ 16000000) : Calls Try.prog 7 #[.agg us.toArray] w (Bx.MadeD (numsD (msg a)) w) := (specMsg w a us h hs hs2).mono fun _ _ h => madeD rfl h
theorem implMsg2 (w : World) (a : Fx.Assertion) (us : List Value) (h : RdsL w w.heap.size a.dcs us) (hs : a.Site.size ≤ 16000000) (hs2 : a.Origin.size ≤ 16000000) : Calls Try.prog 9 #[.agg us.toArray] w (Bx.MadeD (numsD (msg a)) w) := (C13i.implMsg w a us h hs hs2).mono fun _ _ h => madeD rfl h
end Go.Proofs.Ytmfgfofdloclbaa.C13y
