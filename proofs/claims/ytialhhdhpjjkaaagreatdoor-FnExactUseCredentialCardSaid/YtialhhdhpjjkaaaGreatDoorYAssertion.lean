import Derived.Test.YtialhhdhpjjkaaaGreatDoorBb
/-
  Assertion: a struct of the laws as a thing of its own, and the laws' own functions over it.
-/
set_option linter.unusedVariables false
namespace Go.Proofs.YtialhhdhpjjkaaaGreatDoor.Fx
open Go.ChangeShapes Go.WideShapes Go.ChangeAt Go.RowKit Go.Deep
open S0 S1 S9 S10 Ty Dm Bx
structure Assertion where
  Site : ByteArray
  Origin : ByteArray
  Challenge : Int
  Handle : Int
  Present : Bool
  Counter : Int
  Signature : Int
def Assertion.dcs (x : Assertion) : List Dc := [.val (.string x.Site), .val (.string x.Origin), .val (.int .i64 x.Challenge), .val (.int .i64 x.Handle), .val (.bool x.Present), .val (.int .i64 x.Counter), .val (.int .i64 x.Signature)]
theorem Assertion.len (x : Assertion) : x.dcs.length = 7 := rfl
structure Assertion.ok (x : Assertion) : Prop where
  Site : x.Site.size ≤ maxLen
  Origin : x.Origin.size ≤ maxLen
  Challenge : -9223372036854775808 ≤ x.Challenge ∧ x.Challenge ≤ 9223372036854775807
  Handle : -9223372036854775808 ≤ x.Handle ∧ x.Handle ≤ 9223372036854775807
  Present : True
  Counter : -9223372036854775808 ≤ x.Counter ∧ x.Counter ≤ 9223372036854775807
  Signature : -9223372036854775808 ≤ x.Signature ∧ x.Signature ≤ 9223372036854775807
def tyAssertion : Ty := .cons .str (.cons .str (.cons (.int .i64) (.cons (.int .i64) (.cons .bool (.cons (.int .i64) (.cons (.int .i64) (.done)))))))
set_option maxRecDepth 100000 in
theorem fitAssertion : fits Tryz.prog tyAssertion 23 = true := by kernel_rfl
set_option maxRecDepth 100000 in
theorem Assertion.is {ds : List Dc} (h : Is tyAssertion ds) : ∃ x : Assertion, ds = x.dcs ∧ x.ok := by
  unfold tyAssertion at h
  simp only [Is] at h
  obtain ⟨_, _, rfl, ⟨x0, rfl, h0⟩, ⟨_, _, rfl, ⟨x1, rfl, h1⟩, ⟨_, _, rfl, ⟨x2, rfl, h2⟩, ⟨_, _, rfl, ⟨x3, rfl, h3⟩, ⟨_, _, rfl, ⟨x4, rfl⟩, ⟨_, _, rfl, ⟨x5, rfl, h5⟩, ⟨_, _, rfl, ⟨x6, rfl, h6⟩, rfl⟩⟩⟩⟩⟩⟩⟩ := h
  exact ⟨⟨x0, x1, x2, x3, x4, x5, x6⟩, rfl, ⟨h0, h1, M1.i64_wf h2, M1.i64_wf h3, trivial, M1.i64_wf h5, M1.i64_wf h6⟩⟩
set_option maxRecDepth 100000 in
theorem argAssertion {H : Type} {enc : TypeId × Value → H} {W : World} {b0 : Nat} {v : Value} {d : DataW H} {ps : List MemPlace}
    (hval : Value.okWide Tryz.prog W .any b0 23 v) (h : DataW.Trod enc Tryz.prog W 0 (fun _ => true) true 23 v d ps) :
    ∃ (vs : List Go.Value) (x : Assertion), v = .agg vs.toArray ∧ RdsL W W.heap.size x.dcs vs ∧ x.ok := by
  obtain ⟨vs, ds, rfl, h1, h2⟩ := arg_struct fitAssertion hval h
  obtain ⟨x, rfl, ho⟩ := Assertion.is h1
  exact ⟨vs, x, rfl, h2, ho⟩
theorem Assertion.rds {w : World} {hi : Nat} {x : Assertion} {vs : List Go.Value} (h : RdsL w hi x.dcs vs) : vs = [.string x.Site, .string x.Origin, .int .i64 x.Challenge, .int .i64 x.Handle, .bool x.Present, .int .i64 x.Counter, .int .i64 x.Signature] := by
  unfold Assertion.dcs at h
  simp only [RdsL] at h
  obtain ⟨_, _, rfl, h0, ⟨_, _, rfl, h1, ⟨_, _, rfl, h2, ⟨_, _, rfl, h3, ⟨_, _, rfl, h4, ⟨_, _, rfl, h5, ⟨_, _, rfl, h6, rfl⟩⟩⟩⟩⟩⟩⟩ := h
  obtain rfl := rds_val h0
  obtain rfl := rds_val h1
  obtain rfl := rds_val h2
  obtain rfl := rds_val h3
  obtain rfl := rds_val h4
  obtain rfl := rds_val h5
  obtain rfl := rds_val h6
  exact rfl
theorem Assertion.mkR {w : World} {hi : Nat} {x : Assertion}   : RdsL w hi x.dcs [.string x.Site, .string x.Origin, .int .i64 x.Challenge, .int .i64 x.Handle, .bool x.Present, .int .i64 x.Counter, .int .i64 x.Signature] := by
  unfold Assertion.dcs
  simp only [RdsL]
  exact ⟨_, _, rfl, by simp [Rds], ⟨_, _, rfl, by simp [Rds], ⟨_, _, rfl, by simp [Rds], ⟨_, _, rfl, by simp [Rds], ⟨_, _, rfl, by simp [Rds], ⟨_, _, rfl, by simp [Rds], ⟨_, _, rfl, by simp [Rds], rfl⟩⟩⟩⟩⟩⟩⟩
theorem Assertion.owns {w : World} {lo : Nat} {x : Assertion} {vs : List Go.Value} {bs : List Nat} (h : OwnsL w lo x.dcs vs bs) : vs = [.string x.Site, .string x.Origin, .int .i64 x.Challenge, .int .i64 x.Handle, .bool x.Present, .int .i64 x.Counter, .int .i64 x.Signature] ∧ bs = [] := by
  unfold Assertion.dcs at h
  simp only [OwnsL] at h
  obtain ⟨_, _, _, _, rfl, h0, ⟨_, _, _, _, rfl, h1, ⟨_, _, _, _, rfl, h2, ⟨_, _, _, _, rfl, h3, ⟨_, _, _, _, rfl, h4, ⟨_, _, _, _, rfl, h5, ⟨_, _, _, _, rfl, h6, ⟨rfl, rfl⟩, rfl⟩, rfl⟩, rfl⟩, rfl⟩, rfl⟩, rfl⟩, rfl⟩ := h
  obtain ⟨rfl, rfl⟩ := owns_val h0
  obtain ⟨rfl, rfl⟩ := owns_val h1
  obtain ⟨rfl, rfl⟩ := owns_val h2
  obtain ⟨rfl, rfl⟩ := owns_val h3
  obtain ⟨rfl, rfl⟩ := owns_val h4
  obtain ⟨rfl, rfl⟩ := owns_val h5
  obtain ⟨rfl, rfl⟩ := owns_val h6
  exact ⟨rfl, by simp⟩
theorem Assertion.mkO {w : World} {lo : Nat} {x : Assertion}    : OwnsL w lo x.dcs [.string x.Site, .string x.Origin, .int .i64 x.Challenge, .int .i64 x.Handle, .bool x.Present, .int .i64 x.Counter, .int .i64 x.Signature] ([]) := by
  unfold Assertion.dcs
  simp only [OwnsL]
  exact ⟨_, _, [], [], rfl, by simp [Owns], ⟨_, _, [], [], rfl, by simp [Owns], ⟨_, _, [], [], rfl, by simp [Owns], ⟨_, _, [], [], rfl, by simp [Owns], ⟨_, _, [], [], rfl, by simp [Owns], ⟨_, _, [], [], rfl, by simp [Owns], ⟨_, _, [], [], rfl, by simp [Owns], ⟨rfl, rfl⟩, by simp⟩, by simp⟩, by simp⟩, by simp⟩, by simp⟩, by simp⟩, by simp⟩
theorem Assertion.wt (x : Assertion) : wtL x.dcs = x.Site.size + x.Origin.size := by
  unfold Assertion.dcs
  simp only [wtL]
  simp only [wt_int, wt_bool, wt_str]
  first | done | omega
set_option maxHeartbeats 3200000 in
set_option maxRecDepth 100000 in
theorem toAssertion (w : World) (x : Assertion) (vs : List Go.Value) (h : RdsL w w.heap.size x.dcs vs) (hw : wtL x.dcs ≤ 4294967296) : Calls Tryz.prog 10 #[.agg vs.toArray] w (MadeL x.dcs w) := by
  obtain rfl := Assertion.rds h
  go_enter Tryz.func10, Tryz.ntmps10
  go_wp2
  refine bodyPost_ret (v := .agg #[.string x.Site, .string x.Origin, .int .i64 x.Challenge, .int .i64 x.Handle, .bool x.Present, .int .i64 x.Counter, .int .i64 x.Signature]) (by simp [results, Tryz.results10, go_sem]) rfl ⟨[.string x.Site, .string x.Origin, .int .i64 x.Challenge, .int .i64 x.Handle, .bool x.Present, .int .i64 x.Counter, .int .i64 x.Signature], [], rfl, Assertion.mkO, by simp, ?_⟩
  exact (((Below.refl _ _).alloc (Nat.le_refl _) _).alloc (by simp) _).alloc (by simp; omega) _
set_option maxHeartbeats 3200000 in
set_option maxRecDepth 100000 in
theorem szAssertion (w : World) (x : Assertion) (vs : List Go.Value) (z : Int) (h : RdsL w w.heap.size x.dcs vs) (ho : x.ok) (hz0 : 0 ≤ z) (hz1 : z ≤ 1048576) :
    Calls Tryz.prog 8 #[.agg vs.toArray, .int .i64 z] w (Gives (.int .i64 (if (wtL x.dcs : Int) ≤ z then z - wtL x.dcs else -1)) w) := by
  obtain rfl := Assertion.rds h
  have hwt := Nat.le_of_eq (Assertion.wt x)
  have hwu := Nat.le_of_eq (Assertion.wt x).symm
  have hs_Site := ho.Site
  unfold maxLen at hs_Site
  have hs_Origin := ho.Origin
  unfold maxLen at hs_Origin
  obtain ⟨r, hr⟩ : ∃ r : Int, r = if (wtL x.dcs : Int) ≤ z then z - wtL x.dcs else -1 := ⟨_, rfl⟩
  rw [← hr]
  have HR := Lib.hid hr
  clear hr
  obtain ⟨w1, hw1⟩ : ∃ y, y = w.alloc (.cells #[.string x.Site, .string x.Origin, .int .i64 x.Challenge, .int .i64 x.Handle, .bool x.Present, .int .i64 x.Counter, .int .i64 x.Signature] 23) := ⟨_, rfl⟩
  have op := var_owns w 23 7 [.string x.Site, .string x.Origin, .int .i64 x.Challenge, .int .i64 x.Handle, .bool x.Present, .int .i64 x.Counter, .int .i64 x.Signature] rfl
  have HB : Below w.heap.size w w1 := hw1 ▸ (Below.refl _ _).alloc (Nat.le_refl _) _
  rw [← hw1] at op
  go_enter Tryz.func8, Tryz.ntmps8
  by_cases hl0 : (x.Site.size : Int) ≤ z
  · by_cases hl1 : (x.Origin.size : Int) ≤ (z - (x.Site.size : Int))
    · obtain rfl : r = ((z - (x.Site.size : Int)) - (x.Origin.size : Int)) := by rw [HR.out, if_pos (by omega)]; omega
      go_wp2
      go_ret
      exact ⟨rfl, hw1 ▸ HB⟩
    · obtain rfl : r = -1 := by rw [HR.out, if_neg (by omega)]
      go_wp2
      go_ret
      exact ⟨rfl, hw1 ▸ HB⟩
  · obtain rfl : r = -1 := by rw [HR.out, if_neg (by omega)]
    go_wp2
    go_ret
    exact ⟨rfl, hw1 ▸ HB⟩
end Go.Proofs.YtialhhdhpjjkaaaGreatDoor.Fx
