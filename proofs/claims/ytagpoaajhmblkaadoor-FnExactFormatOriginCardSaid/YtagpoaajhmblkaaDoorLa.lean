/-
  What a row's list of package-level variables gives: the library's table of powers of ten, and the two errors of strconv.
-/
import Derived.Test.YtagpoaajhmblkaaDoorRows
import Derived.WalkKit
import Derived.Below
import Derived.LaidSub
import Derived.Lib.LaidTab
import Derived.Lib.SmallJoins
import Derived.Lib.ItoaNum
import Derived.Stop.LaidErr
import Derived.LaidLaws
namespace Go.Proofs.YtagpoaajhmblkaaDoor.La
open Go.ChangeShapes Go.WideShapes Go.ChangeAt Go.RowKit
theorem gPow : Tryd.prog.globalNamed "internal/strconv.uint64pow10" = some 3 := by kernel_rfl
theorem gPowType : (Tryd.prog.globals[3]?).map (·.type) = some 81 := by kernel_rfl
theorem cellsU64 : Tryd.prog.cellsOf 66 = 1 := by kernel_rfl
theorem cellsPow : Tryd.prog.cellsOf 81 = 20 := by kernel_rfl
def Pow (W : World) : Prop := Lib.TabIs Tryd.prog W "internal/strconv.uint64pow10" .u64 Lib.pow10Tab
theorem pow_of {W : World} {l : List (String × DataW Unit)} (hl : l.filter (fun x => x.1 == "internal/strconv.uint64pow10") = [("internal/strconv.uint64pow10", Rows.laid_internal_strconv_uint64pow10)]) (h : laidMetH Tryd.prog l W) : Pow W := by
  have h1 := laidMetH.filter (fun x => x.1 == "internal/strconv.uint64pow10") h
  rw [hl] at h1
  exact Lib.tabIs_of_head (rest := []) gPow gPowType Tryd.underlying81 Tryd.underlying66 cellsU64 cellsPow h1
theorem Pow.stays {w w' : World} (h : Pow w) (hb : Below w.heap.size w w') : Pow w' := Joins.tab_stays gPow h hb (Nat.le_refl _)
theorem star : "*" ++ "errors.errorString" = "*errors.errorString" := by decide
theorem rowErr (u : TypeId) (h : Tryd.prog.typeName? 3 u = some "*errors.errorString") : u = 87 :=
  typeName_ptr_named (nm := "errors.errorString") (by rw [star]; kernel_rfl) (by kernel_rfl) (by decide) u (by rw [star]; exact h)
theorem cellsErrStr : Tryd.prog.cellsOf 89 = 1 := by kernel_rfl
theorem cellsStr : Tryd.prog.cellsOf 9 = 1 := by kernel_rfl
theorem gSyn : Tryd.prog.globalNamed "strconv.ErrSyntax" = some 1 := by kernel_rfl
theorem gSynType : (Tryd.prog.globals[1]?).map (·.type) = some 46 := by kernel_rfl
theorem gRan : Tryd.prog.globalNamed "strconv.ErrRange" = some 2 := by kernel_rfl
theorem gRanType : (Tryd.prog.globals[2]?).map (·.type) = some 46 := by kernel_rfl
def Errs (W : World) : Prop := (∃ p, W.var? Tryd.prog "strconv.ErrSyntax" = some #[.iface 87 p]) ∧ (∃ p, W.var? Tryd.prog "strconv.ErrRange" = some #[.iface 87 p])
theorem errs_of {W : World} {l : List (String × DataW Unit)} (h1 : l.filter (fun x => x.1 == "strconv.ErrSyntax") = [("strconv.ErrSyntax", Rows.laid_strconv_ErrSyntax)])
    (h2 : l.filter (fun x => x.1 == "strconv.ErrRange") = [("strconv.ErrRange", Rows.laid_strconv_ErrRange)]) (h : laidMetH Tryd.prog l W) : Errs W := by
  have k1 := laidMetH.filter (fun x => x.1 == "strconv.ErrSyntax") h
  have k2 := laidMetH.filter (fun x => x.1 == "strconv.ErrRange") h
  rw [h1] at k1
  rw [h2] at k2
  obtain ⟨a1, _, hv1, _⟩ := laid_sentinel (r := []) k1 gSyn gSynType Tryd.underlying46 rowErr Tryd.underlying87 Tryd.underlying89 rfl rfl Tryd.underlying9 cellsErrStr cellsStr
  obtain ⟨a2, _, hv2, _⟩ := laid_sentinel (r := []) k2 gRan gRanType Tryd.underlying46 rowErr Tryd.underlying87 Tryd.underlying89 rfl rfl Tryd.underlying9 cellsErrStr cellsStr
  exact ⟨⟨_, hv1⟩, ⟨_, hv2⟩⟩
theorem Errs.stays {w w' : World} (h : Errs w) (hb : Below w.heap.size w w') : Errs w' := by
  obtain ⟨⟨p, hp⟩, q, hq⟩ := h
  exact ⟨⟨p, Joins.var_stays gSyn hp hb (Nat.le_refl _)⟩, q, Joins.var_stays gRan hq hb (Nat.le_refl _)⟩
end Go.Proofs.YtagpoaajhmblkaaDoor.La
