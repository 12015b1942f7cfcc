import Derived.Test.YtialhhdhpjjkaaaGreatDoorRows
import Derived.WalkKit
import Derived.Below
import Derived.LaidSub
import Derived.Lib.LaidTab
import Derived.Lib.SmallJoins
import Derived.Lib.ItoaNum
import Derived.Stop.LaidErr
import Derived.LaidLaws
/-
  What a row's list of package-level variables gives: the library's table of powers of ten, and the two errors of strconv.
-/
namespace Go.Proofs.YtialhhdhpjjkaaaGreatDoor.La
open Go.ChangeShapes Go.WideShapes Go.ChangeAt Go.RowKit
theorem gPow : Tryz.prog.globalNamed "internal/strconv.uint64pow10" = some 4 := by kernel_rfl
theorem gPowType : (Tryz.prog.globals[4]?).map (·.type) = some 214 := by kernel_rfl
theorem cellsU64 : Tryz.prog.cellsOf 197 = 1 := by kernel_rfl
theorem cellsPow : Tryz.prog.cellsOf 214 = 20 := by kernel_rfl
def Pow (W : World) : Prop := Lib.TabIs Tryz.prog W "internal/strconv.uint64pow10" .u64 Lib.pow10Tab
theorem pow_of {W : World} {l : List (String × DataW Unit)} (hl : l.filter (fun x => x.1 == "internal/strconv.uint64pow10") = [("internal/strconv.uint64pow10", Rows.laid_internal_strconv_uint64pow10)]) (h : laidMetH Tryz.prog l W) : Pow W := by
  have h1 := laidMetH.filter (fun x => x.1 == "internal/strconv.uint64pow10") h
  rw [hl] at h1
  exact Lib.tabIs_of_head (rest := []) gPow gPowType Tryz.underlying214 Tryz.underlying197 cellsU64 cellsPow h1
theorem Pow.stays {w w' : World} (h : Pow w) (hb : Below w.heap.size w w') : Pow w' := Joins.tab_stays gPow h hb (Nat.le_refl _)
theorem star : "*" ++ "errors.errorString" = "*errors.errorString" := by decide
theorem rowErr (u : TypeId) (h : Tryz.prog.typeName? 3 u = some "*errors.errorString") : u = 210 :=
  typeName_ptr_named (nm := "errors.errorString") (by rw [star]; kernel_rfl) (by kernel_rfl) (by decide) u (by rw [star]; exact h)
theorem cellsErrStr : Tryz.prog.cellsOf 212 = 1 := by kernel_rfl
theorem cellsStr : Tryz.prog.cellsOf 9 = 1 := by kernel_rfl
theorem gSyn : Tryz.prog.globalNamed "strconv.ErrSyntax" = some 2 := by kernel_rfl
theorem gSynType : (Tryz.prog.globals[2]?).map (·.type) = some 79 := by kernel_rfl
theorem gRan : Tryz.prog.globalNamed "strconv.ErrRange" = some 3 := by kernel_rfl
theorem gRanType : (Tryz.prog.globals[3]?).map (·.type) = some 79 := by kernel_rfl
def Errs (W : World) : Prop := (∃ p, W.var? Tryz.prog "strconv.ErrSyntax" = some #[.iface 210 p]) ∧ (∃ p, W.var? Tryz.prog "strconv.ErrRange" = some #[.iface 210 p])
theorem errs_of {W : World} {l : List (String × DataW Unit)} (h1 : l.filter (fun x => x.1 == "strconv.ErrSyntax") = [("strconv.ErrSyntax", Rows.laid_strconv_ErrSyntax)])
    (h2 : l.filter (fun x => x.1 == "strconv.ErrRange") = [("strconv.ErrRange", Rows.laid_strconv_ErrRange)]) (h : laidMetH Tryz.prog l W) : Errs W := by
  have k1 := laidMetH.filter (fun x => x.1 == "strconv.ErrSyntax") h
  have k2 := laidMetH.filter (fun x => x.1 == "strconv.ErrRange") h
  rw [h1] at k1
  rw [h2] at k2
  obtain ⟨a1, _, hv1, _⟩ := laid_sentinel (r := []) k1 gSyn gSynType Tryz.underlying79 rowErr Tryz.underlying210 Tryz.underlying212 rfl rfl Tryz.underlying9 cellsErrStr cellsStr
  obtain ⟨a2, _, hv2, _⟩ := laid_sentinel (r := []) k2 gRan gRanType Tryz.underlying79 rowErr Tryz.underlying210 Tryz.underlying212 rfl rfl Tryz.underlying9 cellsErrStr cellsStr
  exact ⟨⟨_, hv1⟩, ⟨_, hv2⟩⟩
theorem Errs.stays {w w' : World} (h : Errs w) (hb : Below w.heap.size w w') : Errs w' := by
  obtain ⟨⟨p, hp⟩, q, hq⟩ := h
  exact ⟨⟨p, Joins.var_stays gSyn hp hb (Nat.le_refl _)⟩, q, Joins.var_stays gRan hq hb (Nat.le_refl _)⟩
end Go.Proofs.YtialhhdhpjjkaaaGreatDoor.La
