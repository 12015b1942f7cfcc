/-
  The sorted keys of a map of challenges.
-/
import Derived.Test.YtjkmcnnkifachaaMp
import Derived.Test.YtjkmcnnkifachaaKl
import Derived.RangeFuncBound
namespace Go.Proofs.Ytjkmcnnkifachaa.Mk
open Go.ChangeShapes Go.WideShapes Go.ChangeAt Go.RowKit
open Go.Maps Go.Sort
open S0 S1 S9 Dm Fx C12 Mp
set_option linter.unusedVariables false
set_option maxRecDepth 100000
theorem sorts (m : Nat) : AnyZI.SortsIn Try.prog Try.sortedL_ren Fence.wide m :=
  ⟨fun blk off cap ss W hH hblk hsz => callsIn_wide.2 (AnyM.slices_Sort_int Try.sortL blk off cap ss W hH hblk hsz),
   fun p cap W => callsIn_wide.2 (AnyM.slices_Sort_int_none Try.sortL p cap W)⟩
theorem keys_c (mb : Option Nat) (w : World) : Calls Try.prog 59 #[.map mb] w fun e w' => e = .returned (.func (.func 67) #[] #[.pointer (some ⟨w.heap.size, 0, none⟩)]) ∧ w' = w.alloc (.cells #[.map mb] 60) :=
  (callsIn_wide (n := 5)).1 (AnyZI.keys_in Try.keysL Fence.wide 5 trivial rfl mb w)
theorem sorted_c {b n bx : Nat} {l : List Fx.Challenge} (w : World) (hown : Lies w b n l) (ha : Asc l) (hn : l.length ≤ 16000000) (hx : w.cell? ⟨bx, 0, none⟩ = some (.map (some b))) (hbx : bx < w.heap.size) :
    Calls Try.prog 58 #[.func (.func 67) #[] #[.pointer (some ⟨bx, 0, none⟩)]] w fun e w' => ∃ v, e = .returned v ∧ w'.ownsRow w.heap.size 3 1 v l.length (ints .i64 (l.map (·.Id))) ∧ Below w.heap.size w w' := by
  have hz := size_map l
  have hseq : SeqGives Fence.wide 2 Try.prog 67 #[.pointer (some ⟨bx, 0, none⟩)] encZ (fun ss => ss.Perm (intKeys (mapD l))) (Maps.size (mapD l)) w :=
    AnyZI.keys_gives (ρ := Try.keysL_ren) { Try.keysL with } Fence.wide _ trivial rfl (by omega) bx b n (mapD l) w hbx hx hown
  have cS := AnyZI.sorted_in Try.sortedL Fence.wide 5 trivial trivial trivial trivial rfl (by omega) (sorts _) (enters_of Try.func66 (by kernel_rfl) rfl) 67 #[.pointer (some ⟨bx, 0, none⟩)] trivial (enters_of Try.func67 (by kernel_rfl) rfl) _ _ (by unfold maxLen; omega) (by omega) _ hseq
  change CallsIn _ _ Try.prog 58 _ _ _ at cS
  refine ((callsIn_wide (n := 5)).1 cS).mono ?_
  rintro e w' ⟨v, ss, rfl, hS, hrow, -, hb⟩
  have hl : ss.length = l.length := by have := hS.length_eq; rw [keys_map, List.length_map] at this; exact this
  rw [asc_sort ha hS, hl] at hrow
  exact ⟨v, rfl, hrow, hb⟩
end Go.Proofs.Ytjkmcnnkifachaa.Mk
