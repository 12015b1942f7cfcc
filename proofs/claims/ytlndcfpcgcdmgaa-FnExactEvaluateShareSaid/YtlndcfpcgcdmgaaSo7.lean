/-
  How a share that came in by value is opened.
-/
import Derived.Test.YtlndcfpcgcdmgaaS3
import Derived.Lib.SmallJoins
import Derived.ChangeSame
namespace Go.Proofs.Ytlndcfpcgcdmgaa.So7
open Go.Joins Go.ChangeShapes Go.WideShapes Go.RowKit Go.Deep
set_option linter.unusedVariables false
theorem share {H : Type} {enc : TypeId × Value → H} {W : World} {b0 : Nat} {v : Value} {d : DataW H} {ps : List MemPlace}
    (hval : Value.okWide Try.prog W .any b0 36 v) (h : DataW.Trod enc Try.prog W 0 (fun _ => true) true 36 v d ps) :
    ∃ (i x : Int), v = .agg #[.int .i64 i, .int .i64 x] ∧ (Lit.int .i64 i).wf = true ∧ (Lit.int .i64 x).wf = true := by
  obtain ⟨v0, v1, y0, y1, n, rfl, _, _, h0, h1⟩ := open_agg2 Try.underlying36 (by kernel_rfl) (by kernel_rfl) hval h
  obtain ⟨i, e0, _, w0⟩ := DataW.trod_int Try.underlying3 h0
  obtain ⟨x, e1, _, w1⟩ := DataW.trod_int Try.underlying3 h1
  injection e0 with e0
  injection e1 with e1
  exact ⟨i, x, by rw [e0, e1], w0, w1⟩
end Go.Proofs.Ytlndcfpcgcdmgaa.So7
