/-
  Origin: a struct of the laws as a thing of its own, and the laws' own functions over it.
-/
import Derived.Test.YtialhhdhpjjkaaaDoorBb
set_option linter.unusedVariables false
namespace Go.Proofs.YtialhhdhpjjkaaaDoor.Fx
open Go.ChangeShapes Go.WideShapes Go.ChangeAt Go.RowKit Go.Deep
open S0 S1 S9 S10 Ty Dm Bx
structure Origin where
  Secure : Bool
  Host : ByteArray
  Port : Int
def Origin.dcs (x : Origin) : List Dc := [.val (.bool x.Secure), .val (.string x.Host), .val (.int .i64 x.Port)]
theorem Origin.len (x : Origin) : x.dcs.length = 3 := rfl
structure Origin.ok (x : Origin) : Prop where
  Secure : True
  Host : x.Host.size ≤ maxLen
  Port : -9223372036854775808 ≤ x.Port ∧ x.Port ≤ 9223372036854775807
def tyOrigin : Ty := .cons .bool (.cons .str (.cons (.int .i64) (.done)))
set_option maxRecDepth 100000 in
theorem fitOrigin : fits Tryd.prog tyOrigin 25 = true := by kernel_rfl
set_option maxRecDepth 100000 in
theorem Origin.is {ds : List Dc} (h : Is tyOrigin ds) : ∃ x : Origin, ds = x.dcs ∧ x.ok := by
  unfold tyOrigin at h
  simp only [Is] at h
  obtain ⟨_, _, rfl, ⟨x0, rfl⟩, ⟨_, _, rfl, ⟨x1, rfl, h1⟩, ⟨_, _, rfl, ⟨x2, rfl, h2⟩, rfl⟩⟩⟩ := h
  exact ⟨⟨x0, x1, x2⟩, rfl, ⟨trivial, h1, M1.i64_wf h2⟩⟩
set_option maxRecDepth 100000 in
theorem argOrigin {H : Type} {enc : TypeId × Value → H} {W : World} {b0 : Nat} {v : Value} {d : DataW H} {ps : List MemPlace}
    (hval : Value.okWide Tryd.prog W .any b0 25 v) (h : DataW.Trod enc Tryd.prog W 0 (fun _ => true) true 25 v d ps) :
    ∃ (vs : List Go.Value) (x : Origin), v = .agg vs.toArray ∧ RdsL W W.heap.size x.dcs vs ∧ x.ok := by
  obtain ⟨vs, ds, rfl, h1, h2⟩ := arg_struct fitOrigin hval h
  obtain ⟨x, rfl, ho⟩ := Origin.is h1
  exact ⟨vs, x, rfl, h2, ho⟩
def OriginsD (l : List Origin) : Dc := .row 33 3 l.length (l.flatMap Origin.dcs)
theorem Origin.rds {w : World} {hi : Nat} {x : Origin} {vs : List Go.Value} (h : RdsL w hi x.dcs vs) : vs = [.bool x.Secure, .string x.Host, .int .i64 x.Port] := by
  unfold Origin.dcs at h
  simp only [RdsL] at h
  obtain ⟨_, _, rfl, h0, ⟨_, _, rfl, h1, ⟨_, _, rfl, h2, rfl⟩⟩⟩ := h
  obtain rfl := rds_val h0
  obtain rfl := rds_val h1
  obtain rfl := rds_val h2
  exact rfl
theorem Origin.mkR {w : World} {hi : Nat} {x : Origin}   : RdsL w hi x.dcs [.bool x.Secure, .string x.Host, .int .i64 x.Port] := by
  unfold Origin.dcs
  simp only [RdsL]
  exact ⟨_, _, rfl, by simp [Rds], ⟨_, _, rfl, by simp [Rds], ⟨_, _, rfl, by simp [Rds], rfl⟩⟩⟩
theorem Origin.owns {w : World} {lo : Nat} {x : Origin} {vs : List Go.Value} {bs : List Nat} (h : OwnsL w lo x.dcs vs bs) : vs = [.bool x.Secure, .string x.Host, .int .i64 x.Port] ∧ bs = [] := by
  unfold Origin.dcs at h
  simp only [OwnsL] at h
  obtain ⟨_, _, _, _, rfl, h0, ⟨_, _, _, _, rfl, h1, ⟨_, _, _, _, rfl, h2, ⟨rfl, rfl⟩, rfl⟩, rfl⟩, rfl⟩ := h
  obtain ⟨rfl, rfl⟩ := owns_val h0
  obtain ⟨rfl, rfl⟩ := owns_val h1
  obtain ⟨rfl, rfl⟩ := owns_val h2
  exact ⟨rfl, by simp⟩
theorem Origin.mkO {w : World} {lo : Nat} {x : Origin}    : OwnsL w lo x.dcs [.bool x.Secure, .string x.Host, .int .i64 x.Port] ([]) := by
  unfold Origin.dcs
  simp only [OwnsL]
  exact ⟨_, _, [], [], rfl, by simp [Owns], ⟨_, _, [], [], rfl, by simp [Owns], ⟨_, _, [], [], rfl, by simp [Owns], ⟨rfl, rfl⟩, by simp⟩, by simp⟩, by simp⟩
theorem Origin.wt (x : Origin) : wtL x.dcs = x.Host.size := by
  unfold Origin.dcs
  simp only [wtL]
  simp only [wt_int, wt_bool, wt_str]
  first | done | omega
set_option maxHeartbeats 3200000 in
set_option maxRecDepth 100000 in
theorem toOrigin (w : World) (x : Origin) (vs : List Go.Value) (h : RdsL w w.heap.size x.dcs vs) (hw : wtL x.dcs ≤ 4294967296) : Calls Tryd.prog 8 #[.agg vs.toArray] w (MadeL x.dcs w) := by
  obtain rfl := Origin.rds h
  go_enter Tryd.func8, Tryd.ntmps8
  go_wp2
  refine bodyPost_ret (v := .agg #[.bool x.Secure, .string x.Host, .int .i64 x.Port]) (by simp [results, Tryd.results8, go_sem]) rfl ⟨[.bool x.Secure, .string x.Host, .int .i64 x.Port], [], rfl, Origin.mkO, by simp, ?_⟩
  exact (((Below.refl _ _).alloc (Nat.le_refl _) _).alloc (by simp) _).alloc (by simp; omega) _
set_option maxHeartbeats 3200000 in
set_option maxRecDepth 100000 in
theorem szOrigin (w : World) (x : Origin) (vs : List Go.Value) (z : Int) (h : RdsL w w.heap.size x.dcs vs) (ho : x.ok) (hz0 : 0 ≤ z) (hz1 : z ≤ 1048576) :
    Calls Tryd.prog 5 #[.agg vs.toArray, .int .i64 z] w (Gives (.int .i64 (if (wtL x.dcs : Int) ≤ z then z - wtL x.dcs else -1)) w) := by
  obtain rfl := Origin.rds h
  have hwt := Nat.le_of_eq (Origin.wt x)
  have hwu := Nat.le_of_eq (Origin.wt x).symm
  have hs_Host := ho.Host
  unfold maxLen at hs_Host
  obtain ⟨r, hr⟩ : ∃ r : Int, r = if (wtL x.dcs : Int) ≤ z then z - wtL x.dcs else -1 := ⟨_, rfl⟩
  rw [← hr]
  have HR := Lib.hid hr
  clear hr
  obtain ⟨w1, hw1⟩ : ∃ y, y = w.alloc (.cells #[.bool x.Secure, .string x.Host, .int .i64 x.Port] 25) := ⟨_, rfl⟩
  have op := var_owns w 25 3 [.bool x.Secure, .string x.Host, .int .i64 x.Port] rfl
  have HB : Below w.heap.size w w1 := hw1 ▸ (Below.refl _ _).alloc (Nat.le_refl _) _
  rw [← hw1] at op
  go_enter Tryd.func5, Tryd.ntmps5
  by_cases hl0 : (x.Host.size : Int) ≤ z
  · obtain rfl : r = (z - (x.Host.size : Int)) := by rw [HR.out, if_pos (by omega)]; omega
    go_wp2
    go_ret
    exact ⟨rfl, hw1 ▸ HB⟩
  · obtain rfl : r = -1 := by rw [HR.out, if_neg (by omega)]
    go_wp2
    go_ret
    exact ⟨rfl, hw1 ▸ HB⟩
end Go.Proofs.YtialhhdhpjjkaaaDoor.Fx
