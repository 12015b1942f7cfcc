import Derived.Test.YtogoppknimpkbaaGreatDoorBb
/-
  Origin: a struct of the laws as a thing of its own, and the laws' own functions over it.
-/
set_option linter.unusedVariables false
namespace Go.Proofs.YtogoppknimpkbaaGreatDoor.Fx
open Go.ChangeShapes Go.WideShapes Go.ChangeAt Go.RowKit Go.Deep
open S0 S1 S9 S10 Ty Dm Bx
structure Origin where
  Secure : Bool
  Host : ByteArray
  Port : Int
def Origin.dcs (x : Origin) : List Dc := [.val (.bool x.Secure), .val (.string x.Host), .val (.int .i64 x.Port)]
theorem Origin.len (x : Origin) : x.dcs.length = 3 := rfl
structure Origin.ok (x : Origin) : Prop where
  Secure : True
  Host : x.Host.size ≤ maxLen
  Port : -9223372036854775808 ≤ x.Port ∧ x.Port ≤ 9223372036854775807
def tyOrigin : Ty := .cons .bool (.cons .str (.cons (.int .i64) (.done)))
set_option maxRecDepth 100000 in
theorem Origin.is {ds : List Dc} (h : Is tyOrigin ds) : ∃ x : Origin, ds = x.dcs ∧ x.ok := by
  unfold tyOrigin at h
  simp only [Is] at h
  obtain ⟨_, _, rfl, ⟨x0, rfl⟩, ⟨_, _, rfl, ⟨x1, rfl, h1⟩, ⟨_, _, rfl, ⟨x2, rfl, h2⟩, rfl⟩⟩⟩ := h
  exact ⟨⟨x0, x1, x2⟩, rfl, ⟨trivial, h1, M1.i64_wf h2⟩⟩
theorem Origin.rds {w : World} {hi : Nat} {x : Origin} {vs : List Go.Value} (h : RdsL w hi x.dcs vs) : vs = [.bool x.Secure, .string x.Host, .int .i64 x.Port] := by
  unfold Origin.dcs at h
  simp only [RdsL] at h
  obtain ⟨_, _, rfl, h0, ⟨_, _, rfl, h1, ⟨_, _, rfl, h2, rfl⟩⟩⟩ := h
  obtain rfl := rds_val h0
  obtain rfl := rds_val h1
  obtain rfl := rds_val h2
  exact rfl
theorem Origin.mkR {w : World} {hi : Nat} {x : Origin}   : RdsL w hi x.dcs [.bool x.Secure, .string x.Host, .int .i64 x.Port] := by
  unfold Origin.dcs
  simp only [RdsL]
  exact ⟨_, _, rfl, by simp [Rds], ⟨_, _, rfl, by simp [Rds], ⟨_, _, rfl, by simp [Rds], rfl⟩⟩⟩
theorem Origin.owns {w : World} {lo : Nat} {x : Origin} {vs : List Go.Value} {bs : List Nat} (h : OwnsL w lo x.dcs vs bs) : vs = [.bool x.Secure, .string x.Host, .int .i64 x.Port] ∧ bs = [] := by
  unfold Origin.dcs at h
  simp only [OwnsL] at h
  obtain ⟨_, _, _, _, rfl, h0, ⟨_, _, _, _, rfl, h1, ⟨_, _, _, _, rfl, h2, ⟨rfl, rfl⟩, rfl⟩, rfl⟩, rfl⟩ := h
  obtain ⟨rfl, rfl⟩ := owns_val h0
  obtain ⟨rfl, rfl⟩ := owns_val h1
  obtain ⟨rfl, rfl⟩ := owns_val h2
  exact ⟨rfl, by simp⟩
theorem Origin.mkO {w : World} {lo : Nat} {x : Origin}    : OwnsL w lo x.dcs [.bool x.Secure, .string x.Host, .int .i64 x.Port] ([]) := by
  unfold Origin.dcs
  simp only [OwnsL]
  exact ⟨_, _, [], [], rfl, by simp [Owns], ⟨_, _, [], [], rfl, by simp [Owns], ⟨_, _, [], [], rfl, by simp [Owns], ⟨rfl, rfl⟩, by simp⟩, by simp⟩, by simp⟩
theorem Origin.wt (x : Origin) : wtL x.dcs = x.Host.size := by
  unfold Origin.dcs
  simp only [wtL]
  simp only [wt_int, wt_bool, wt_str]
  first | done | omega
set_option maxHeartbeats 3200000 in
set_option maxRecDepth 100000 in
theorem toOrigin (w : World) (x : Origin) (vs : List Go.Value) (h : RdsL w w.heap.size x.dcs vs) (hw : wtL x.dcs ≤ 4294967296) : Calls Tryz.prog 108 #[.agg vs.toArray] w (MadeL x.dcs w) := by
  obtain rfl := Origin.rds h
  go_enter Tryz.func108, Tryz.ntmps108
  go_wp2
  refine bodyPost_ret (v := .agg #[.bool x.Secure, .string x.Host, .int .i64 x.Port]) (by simp [results, Tryz.results108, go_sem]) rfl ⟨[.bool x.Secure, .string x.Host, .int .i64 x.Port], [], rfl, Origin.mkO, by simp, ?_⟩
  exact (((Below.refl _ _).alloc (Nat.le_refl _) _).alloc (by simp) _).alloc (by simp; omega) _
set_option maxHeartbeats 3200000 in
set_option maxRecDepth 100000 in
theorem eqOrigin (w : World) (x : Origin) (us vs : List Value) (h : RdsL w w.heap.size x.dcs us) (h2 : RdsL w w.heap.size x.dcs vs) (hw : wtL x.dcs ≤ 4294967296) : Calls Tryz.prog 109 #[.agg us.toArray, .agg vs.toArray] w (Gives (.bool true) w) := by
  obtain rfl := Origin.rds h
  obtain rfl := Origin.rds h2
  go_enter Tryz.func109, Tryz.ntmps109
  go_wp2
  go_ret
  exact ⟨rfl, ((Below.refl _ _).alloc (Nat.le_refl _) _).alloc (by simp) _⟩
set_option maxHeartbeats 3200000 in
set_option maxRecDepth 100000 in
theorem szOrigin (w : World) (x : Origin) (vs : List Go.Value) (z : Int) (h : RdsL w w.heap.size x.dcs vs) (ho : x.ok) (hz0 : 0 ≤ z) (hz1 : z ≤ 1048576) :
    Calls Tryz.prog 106 #[.agg vs.toArray, .int .i64 z] w (Gives (.int .i64 (if (wtL x.dcs : Int) ≤ z then z - wtL x.dcs else -1)) w) := by
  obtain rfl := Origin.rds h
  have hwt := Nat.le_of_eq (Origin.wt x)
  have hwu := Nat.le_of_eq (Origin.wt x).symm
  have hs_Host := ho.Host
  unfold maxLen at hs_Host
  obtain ⟨r, hr⟩ : ∃ r : Int, r = if (wtL x.dcs : Int) ≤ z then z - wtL x.dcs else -1 := ⟨_, rfl⟩
  rw [← hr]
  have HR := Lib.hid hr
  clear hr
  obtain ⟨w1, hw1⟩ : ∃ y, y = w.alloc (.cells #[.bool x.Secure, .string x.Host, .int .i64 x.Port] 109) := ⟨_, rfl⟩
  have op := var_owns w 109 3 [.bool x.Secure, .string x.Host, .int .i64 x.Port] rfl
  have HB : Below w.heap.size w w1 := hw1 ▸ (Below.refl _ _).alloc (Nat.le_refl _) _
  rw [← hw1] at op
  go_enter Tryz.func106, Tryz.ntmps106
  by_cases hl0 : (x.Host.size : Int) ≤ z
  · obtain rfl : r = (z - (x.Host.size : Int)) := by rw [HR.out, if_pos (by omega)]; omega
    go_wp2
    go_ret
    exact ⟨rfl, hw1 ▸ HB⟩
  · obtain rfl : r = -1 := by rw [HR.out, if_neg (by omega)]
    go_wp2
    go_ret
    exact ⟨rfl, hw1 ▸ HB⟩
end Go.Proofs.YtogoppknimpkbaaGreatDoor.Fx
