/-
  Attestation: a struct of the laws as a thing of its own, and the laws' own functions over it.
-/
import Derived.Test.YtpeagjpcdoegoaaDg
set_option linter.unusedVariables false
namespace Go.Proofs.Ytpeagjpcdoegoaa.Fx
open Go.ChangeShapes Go.WideShapes Go.ChangeAt Go.RowKit Go.Deep
open S0 S1 S9 S10 Ty Dm Bx
structure Attestation where
  Vendor : Int
  Serial : Int
  Key : Int
  Signature : Int
def Attestation.dcs (x : Attestation) : List Dc := [.val (.int .i64 x.Vendor), .val (.int .i64 x.Serial), .val (.int .i64 x.Key), .val (.int .i64 x.Signature)]
theorem Attestation.len (x : Attestation) : x.dcs.length = 4 := rfl
structure Attestation.ok (x : Attestation) : Prop where
  Vendor : -9223372036854775808 ≤ x.Vendor ∧ x.Vendor ≤ 9223372036854775807
  Serial : -9223372036854775808 ≤ x.Serial ∧ x.Serial ≤ 9223372036854775807
  Key : -9223372036854775808 ≤ x.Key ∧ x.Key ≤ 9223372036854775807
  Signature : -9223372036854775808 ≤ x.Signature ∧ x.Signature ≤ 9223372036854775807
def tyAttestation : Ty := .cons (.int .i64) (.cons (.int .i64) (.cons (.int .i64) (.cons (.int .i64) (.done))))
set_option maxRecDepth 100000 in
theorem fitAttestation : fits Try.prog tyAttestation 51 = true := by kernel_rfl
set_option maxRecDepth 100000 in
theorem Attestation.is {ds : List Dc} (h : Is tyAttestation ds) : ∃ x : Attestation, ds = x.dcs ∧ x.ok := by
  unfold tyAttestation at h
  simp only [Is] at h
  obtain ⟨_, _, rfl, ⟨x0, rfl, h0⟩, ⟨_, _, rfl, ⟨x1, rfl, h1⟩, ⟨_, _, rfl, ⟨x2, rfl, h2⟩, ⟨_, _, rfl, ⟨x3, rfl, h3⟩, rfl⟩⟩⟩⟩ := h
  exact ⟨⟨x0, x1, x2, x3⟩, rfl, ⟨M1.i64_wf h0, M1.i64_wf h1, M1.i64_wf h2, M1.i64_wf h3⟩⟩
set_option maxRecDepth 100000 in
theorem argAttestation {H : Type} {enc : TypeId × Value → H} {W : World} {b0 : Nat} {v : Value} {d : DataW H} {ps : List MemPlace}
    (hval : Value.okWide Try.prog W .any b0 51 v) (h : DataW.Trod enc Try.prog W 0 (fun _ => true) true 51 v d ps) :
    ∃ (vs : List Go.Value) (x : Attestation), v = .agg vs.toArray ∧ RdsL W W.heap.size x.dcs vs ∧ x.ok := by
  obtain ⟨vs, ds, rfl, h1, h2⟩ := arg_struct fitAttestation hval h
  obtain ⟨x, rfl, ho⟩ := Attestation.is h1
  exact ⟨vs, x, rfl, h2, ho⟩
def AttestationsD (l : List Attestation) : Dc := .row 31 4 l.length (l.flatMap Attestation.dcs)
theorem Attestation.rds {w : World} {hi : Nat} {x : Attestation} {vs : List Go.Value} (h : RdsL w hi x.dcs vs) : vs = [.int .i64 x.Vendor, .int .i64 x.Serial, .int .i64 x.Key, .int .i64 x.Signature] := by
  unfold Attestation.dcs at h
  simp only [RdsL] at h
  obtain ⟨_, _, rfl, h0, ⟨_, _, rfl, h1, ⟨_, _, rfl, h2, ⟨_, _, rfl, h3, rfl⟩⟩⟩⟩ := h
  obtain rfl := rds_val h0
  obtain rfl := rds_val h1
  obtain rfl := rds_val h2
  obtain rfl := rds_val h3
  exact rfl
theorem Attestation.mkR {w : World} {hi : Nat} {x : Attestation}   : RdsL w hi x.dcs [.int .i64 x.Vendor, .int .i64 x.Serial, .int .i64 x.Key, .int .i64 x.Signature] := by
  unfold Attestation.dcs
  simp only [RdsL]
  exact ⟨_, _, rfl, by simp [Rds], ⟨_, _, rfl, by simp [Rds], ⟨_, _, rfl, by simp [Rds], ⟨_, _, rfl, by simp [Rds], rfl⟩⟩⟩⟩
theorem Attestation.owns {w : World} {lo : Nat} {x : Attestation} {vs : List Go.Value} {bs : List Nat} (h : OwnsL w lo x.dcs vs bs) : vs = [.int .i64 x.Vendor, .int .i64 x.Serial, .int .i64 x.Key, .int .i64 x.Signature] ∧ bs = [] := by
  unfold Attestation.dcs at h
  simp only [OwnsL] at h
  obtain ⟨_, _, _, _, rfl, h0, ⟨_, _, _, _, rfl, h1, ⟨_, _, _, _, rfl, h2, ⟨_, _, _, _, rfl, h3, ⟨rfl, rfl⟩, rfl⟩, rfl⟩, rfl⟩, rfl⟩ := h
  obtain ⟨rfl, rfl⟩ := owns_val h0
  obtain ⟨rfl, rfl⟩ := owns_val h1
  obtain ⟨rfl, rfl⟩ := owns_val h2
  obtain ⟨rfl, rfl⟩ := owns_val h3
  exact ⟨rfl, by simp⟩
theorem Attestation.mkO {w : World} {lo : Nat} {x : Attestation}    : OwnsL w lo x.dcs [.int .i64 x.Vendor, .int .i64 x.Serial, .int .i64 x.Key, .int .i64 x.Signature] ([]) := by
  unfold Attestation.dcs
  simp only [OwnsL]
  exact ⟨_, _, [], [], rfl, by simp [Owns], ⟨_, _, [], [], rfl, by simp [Owns], ⟨_, _, [], [], rfl, by simp [Owns], ⟨_, _, [], [], rfl, by simp [Owns], ⟨rfl, rfl⟩, by simp⟩, by simp⟩, by simp⟩, by simp⟩
theorem Attestation.wt (x : Attestation) : wtL x.dcs = 0 := by
  unfold Attestation.dcs
  simp only [wtL]
  simp only [wt_int]
  first | done | omega
set_option maxHeartbeats 3200000 in
set_option maxRecDepth 100000 in
theorem toAttestation (w : World) (x : Attestation) (vs : List Go.Value) (h : RdsL w w.heap.size x.dcs vs) (hw : wtL x.dcs ≤ 4294967296) : Calls Try.prog 31 #[.agg vs.toArray] w (MadeL x.dcs w) := by
  obtain rfl := Attestation.rds h
  go_enter Try.func31, Try.ntmps31
  go_wp2
  refine bodyPost_ret (v := .agg #[.int .i64 x.Vendor, .int .i64 x.Serial, .int .i64 x.Key, .int .i64 x.Signature]) (by simp [results, Try.results31, go_sem]) rfl ⟨[.int .i64 x.Vendor, .int .i64 x.Serial, .int .i64 x.Key, .int .i64 x.Signature], [], rfl, Attestation.mkO, by simp, ?_⟩
  exact (((Below.refl _ _).alloc (Nat.le_refl _) _).alloc (by simp) _).alloc (by simp; omega) _
set_option maxHeartbeats 3200000 in
set_option maxRecDepth 100000 in
theorem eqAttestation (w : World) (x : Attestation) (us vs : List Value) (h : RdsL w w.heap.size x.dcs us) (h2 : RdsL w w.heap.size x.dcs vs) (hw : wtL x.dcs ≤ 4294967296) : Calls Try.prog 25 #[.agg us.toArray, .agg vs.toArray] w (Gives (.bool true) w) := by
  obtain rfl := Attestation.rds h
  obtain rfl := Attestation.rds h2
  go_enter Try.func25, Try.ntmps25
  go_wp2
  go_ret
  exact ⟨rfl, ((Below.refl _ _).alloc (Nat.le_refl _) _).alloc (by simp) _⟩
end Go.Proofs.Ytpeagjpcdoegoaa.Fx
