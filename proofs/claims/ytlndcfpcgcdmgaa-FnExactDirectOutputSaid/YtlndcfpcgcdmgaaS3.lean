/-
  Slices of shares, which are structs of two ints: contracts of the laws' own functions over them: copy, compare, mark, look at the marks.
-/
import Derived.Test.YtlndcfpcgcdmgaaS1
import Derived.Deep.RegionHeld3
import Derived.Deep.RegionWith
namespace Go.Proofs.Ytlndcfpcgcdmgaa.S3
open Go.ChangeShapes Go.WideShapes Go.ChangeAt Go.RowKit
open S0 S1
set_option linter.unusedVariables false
theorem share_info : (Try.prog.info? 30).map (fun i => (i.zero, i.size, i.bytes)) = some (some (.agg #[.int .i64 0, .int .i64 0]), 2, 16) := by kernel_rfl
theorem stored_at2 {w : World} {base E n c g : Nat} {kd : IntKind} {xs : List Int} (h : w.ownsRow base E 2 (.slice (some ⟨g, 0, none⟩) n c) n (ints kd xs)) (j : Nat) (hj : j < n * 2) :
    g < w.heap.size ∧ base ≤ g ∧ w.cell? ⟨g, j, none⟩ = some (.int kd (xs.getD j 0)) ∧ w.frozen? ⟨g, j, none⟩ = false := by
  obtain ⟨h1, h2⟩ := h.lt g rfl
  refine ⟨h2, h1, ?_, ?_⟩
  · rw [h.cellAt j hj, ints_get kd xs j (by have := h.1; rw [ints_len] at this; omega)]
  · rcases h.2 with ⟨e, _⟩ | ⟨_, _, _, e, _, hb, _⟩
    · cases e
    · injection e with e1
      injection e1 with e1
      injection e1 with e2
      subst e2
      simp [World.frozen?, hb]
/-- The two cells of a share. -/
theorem Rd2.at_ {w : World} {hi n : Nat} {A : Option Addr} {k : IntKind} {xs : List Int} (h : Rd w hi 2 A n (ints k xs)) {j : Nat} (hj : j < n) :
    ∃ b off, A = some ⟨b, off, none⟩ ∧ b < hi ∧ w.cell? ⟨b, off + j * 2, none⟩ = some (.int k (xs.getD (j * 2) 0)) ∧ w.cell? ⟨b, off + j * 2 + 1, none⟩ = some (.int k (xs.getD (j * 2 + 1) 0)) := by
  obtain ⟨b, off, e, hb, hc⟩ := h.2 (by omega)
  have hl := h.1
  rw [ints_len] at hl
  refine ⟨b, off, e, hb, ?_, ?_⟩
  · rw [hc (j * 2) (by omega), ints_get k xs (j * 2) (by omega)]
  · rw [Nat.add_assoc, hc (j * 2 + 1) (by omega), ints_get k xs (j * 2 + 1) (by omega)]
theorem toOne (w : World) (i v : Int) : Calls Try.prog 25 #[.agg #[.int .i64 i, .int .i64 v]] w (Gives (.agg #[.int .i64 i, .int .i64 v]) w) := by
  go_enter Try.func25, Try.ntmps25
  go_wp2
  refine bodyPost_ret (v := .agg #[.int .i64 i, .int .i64 v]) (by simp [results, Try.results25, go_sem]) rfl ⟨rfl, ?_⟩
  exact (((Below.refl _ _).alloc (Nat.le_refl _) _).alloc (by simp) _).alloc (by simp; omega) _
end Go.Proofs.Ytlndcfpcgcdmgaa.S3
