/-
  KeyStore: a struct of the laws as a thing of its own, and the laws' own functions over it.
-/
import Derived.Test.YtialhhdhpjjkaaaDoorBb
set_option linter.unusedVariables false
namespace Go.Proofs.YtialhhdhpjjkaaaDoor.Fx
open Go.ChangeShapes Go.WideShapes Go.ChangeAt Go.RowKit Go.Deep
open S0 S1 S9 S10 Ty Dm Bx
structure KeyStore where
  Vendor : Int
  Serial : Int
  Seed : Int
  Counter : Int
def KeyStore.dcs (x : KeyStore) : List Dc := [.val (.int .i64 x.Vendor), .val (.int .i64 x.Serial), .val (.int .i64 x.Seed), .val (.int .i64 x.Counter)]
theorem KeyStore.len (x : KeyStore) : x.dcs.length = 4 := rfl
structure KeyStore.ok (x : KeyStore) : Prop where
  Vendor : -9223372036854775808 ≤ x.Vendor ∧ x.Vendor ≤ 9223372036854775807
  Serial : -9223372036854775808 ≤ x.Serial ∧ x.Serial ≤ 9223372036854775807
  Seed : -9223372036854775808 ≤ x.Seed ∧ x.Seed ≤ 9223372036854775807
  Counter : -9223372036854775808 ≤ x.Counter ∧ x.Counter ≤ 9223372036854775807
def tyKeyStore : Ty := .cons (.int .i64) (.cons (.int .i64) (.cons (.int .i64) (.cons (.int .i64) (.done))))
set_option maxRecDepth 100000 in
theorem fitKeyStore : fits Tryd.prog tyKeyStore 23 = true := by kernel_rfl
set_option maxRecDepth 100000 in
theorem KeyStore.is {ds : List Dc} (h : Is tyKeyStore ds) : ∃ x : KeyStore, ds = x.dcs ∧ x.ok := by
  unfold tyKeyStore at h
  simp only [Is] at h
  obtain ⟨_, _, rfl, ⟨x0, rfl, h0⟩, ⟨_, _, rfl, ⟨x1, rfl, h1⟩, ⟨_, _, rfl, ⟨x2, rfl, h2⟩, ⟨_, _, rfl, ⟨x3, rfl, h3⟩, rfl⟩⟩⟩⟩ := h
  exact ⟨⟨x0, x1, x2, x3⟩, rfl, ⟨M1.i64_wf h0, M1.i64_wf h1, M1.i64_wf h2, M1.i64_wf h3⟩⟩
set_option maxRecDepth 100000 in
theorem argKeyStore {H : Type} {enc : TypeId × Value → H} {W : World} {b0 : Nat} {v : Value} {d : DataW H} {ps : List MemPlace}
    (hval : Value.okWide Tryd.prog W .any b0 23 v) (h : DataW.Trod enc Tryd.prog W 0 (fun _ => true) true 23 v d ps) :
    ∃ (vs : List Go.Value) (x : KeyStore), v = .agg vs.toArray ∧ RdsL W W.heap.size x.dcs vs ∧ x.ok := by
  obtain ⟨vs, ds, rfl, h1, h2⟩ := arg_struct fitKeyStore hval h
  obtain ⟨x, rfl, ho⟩ := KeyStore.is h1
  exact ⟨vs, x, rfl, h2, ho⟩
def KeyStoresD (l : List KeyStore) : Dc := .row 27 4 l.length (l.flatMap KeyStore.dcs)
theorem KeyStore.rds {w : World} {hi : Nat} {x : KeyStore} {vs : List Go.Value} (h : RdsL w hi x.dcs vs) : vs = [.int .i64 x.Vendor, .int .i64 x.Serial, .int .i64 x.Seed, .int .i64 x.Counter] := by
  unfold KeyStore.dcs at h
  simp only [RdsL] at h
  obtain ⟨_, _, rfl, h0, ⟨_, _, rfl, h1, ⟨_, _, rfl, h2, ⟨_, _, rfl, h3, rfl⟩⟩⟩⟩ := h
  obtain rfl := rds_val h0
  obtain rfl := rds_val h1
  obtain rfl := rds_val h2
  obtain rfl := rds_val h3
  exact rfl
theorem KeyStore.mkR {w : World} {hi : Nat} {x : KeyStore}   : RdsL w hi x.dcs [.int .i64 x.Vendor, .int .i64 x.Serial, .int .i64 x.Seed, .int .i64 x.Counter] := by
  unfold KeyStore.dcs
  simp only [RdsL]
  exact ⟨_, _, rfl, by simp [Rds], ⟨_, _, rfl, by simp [Rds], ⟨_, _, rfl, by simp [Rds], ⟨_, _, rfl, by simp [Rds], rfl⟩⟩⟩⟩
theorem KeyStore.owns {w : World} {lo : Nat} {x : KeyStore} {vs : List Go.Value} {bs : List Nat} (h : OwnsL w lo x.dcs vs bs) : vs = [.int .i64 x.Vendor, .int .i64 x.Serial, .int .i64 x.Seed, .int .i64 x.Counter] ∧ bs = [] := by
  unfold KeyStore.dcs at h
  simp only [OwnsL] at h
  obtain ⟨_, _, _, _, rfl, h0, ⟨_, _, _, _, rfl, h1, ⟨_, _, _, _, rfl, h2, ⟨_, _, _, _, rfl, h3, ⟨rfl, rfl⟩, rfl⟩, rfl⟩, rfl⟩, rfl⟩ := h
  obtain ⟨rfl, rfl⟩ := owns_val h0
  obtain ⟨rfl, rfl⟩ := owns_val h1
  obtain ⟨rfl, rfl⟩ := owns_val h2
  obtain ⟨rfl, rfl⟩ := owns_val h3
  exact ⟨rfl, by simp⟩
theorem KeyStore.mkO {w : World} {lo : Nat} {x : KeyStore}    : OwnsL w lo x.dcs [.int .i64 x.Vendor, .int .i64 x.Serial, .int .i64 x.Seed, .int .i64 x.Counter] ([]) := by
  unfold KeyStore.dcs
  simp only [OwnsL]
  exact ⟨_, _, [], [], rfl, by simp [Owns], ⟨_, _, [], [], rfl, by simp [Owns], ⟨_, _, [], [], rfl, by simp [Owns], ⟨_, _, [], [], rfl, by simp [Owns], ⟨rfl, rfl⟩, by simp⟩, by simp⟩, by simp⟩, by simp⟩
theorem KeyStore.wt (x : KeyStore) : wtL x.dcs = 0 := by
  unfold KeyStore.dcs
  simp only [wtL]
  simp only [wt_int]
  first | done | omega
set_option maxHeartbeats 3200000 in
set_option maxRecDepth 100000 in
theorem toKeyStore (w : World) (x : KeyStore) (vs : List Go.Value) (h : RdsL w w.heap.size x.dcs vs) (hw : wtL x.dcs ≤ 4294967296) : Calls Tryd.prog 7 #[.agg vs.toArray] w (MadeL x.dcs w) := by
  obtain rfl := KeyStore.rds h
  go_enter Tryd.func7, Tryd.ntmps7
  go_wp2
  refine bodyPost_ret (v := .agg #[.int .i64 x.Vendor, .int .i64 x.Serial, .int .i64 x.Seed, .int .i64 x.Counter]) (by simp [results, Tryd.results7, go_sem]) rfl ⟨[.int .i64 x.Vendor, .int .i64 x.Serial, .int .i64 x.Seed, .int .i64 x.Counter], [], rfl, KeyStore.mkO, by simp, ?_⟩
  exact (((Below.refl _ _).alloc (Nat.le_refl _) _).alloc (by simp) _).alloc (by simp; omega) _
set_option maxHeartbeats 3200000 in
set_option maxRecDepth 100000 in
theorem eqKeyStore (w : World) (x : KeyStore) (us vs : List Value) (h : RdsL w w.heap.size x.dcs us) (h2 : RdsL w w.heap.size x.dcs vs) (hw : wtL x.dcs ≤ 4294967296) : Calls Tryd.prog 10 #[.agg us.toArray, .agg vs.toArray] w (Gives (.bool true) w) := by
  obtain rfl := KeyStore.rds h
  obtain rfl := KeyStore.rds h2
  go_enter Tryd.func10, Tryd.ntmps10
  go_wp2
  go_ret
  exact ⟨rfl, ((Below.refl _ _).alloc (Nat.le_refl _) _).alloc (by simp) _⟩
end Go.Proofs.YtialhhdhpjjkaaaDoor.Fx
