import Derived.Test.YtllaacdikjffmaaGreatBa
import Derived.Test.YtllaacdikjffmaaGreatYChallengeBook
import Derived.Test.YtllaacdikjffmaaGreatBb
import Derived.Deep.QuietTactic
import Derived.BigQuiet
import Derived.IntWalk
/-
  Contracts of chapter 12's challenges, of the model: those that read alone.
-/
namespace Go.Proofs.YtllaacdikjffmaaGreat.C12
open Go.ChangeShapes Go.WideShapes Go.ChangeAt Go.RowKit
open S0 S1 S9 Dm Fx M3 M8 C3 C6
set_option linter.unusedVariables false
set_option linter.unusedSimpArgs false
set_option maxRecDepth 100000
def cval (b : Fx.ChallengeBook) (i : Int) : Int := khash b.Seed [197, i]
theorem specCval (w : World) (b : Fx.ChallengeBook) (i : Int) (us : List Value) (h : RdsL w w.heap.size b.dcs us) (hb : b.ok) (i0 : -9223372036854775808 ≤ i) (i1 : i ≤ 9223372036854775807) : Calls Tryz.prog 37 #[.agg us.toArray, .int .i64 i] w (Gives (.int .i64 (cval b i)) w) := by
  obtain ⟨A, c, rfl, g⟩ := ChallengeBook.rds h
  clear h g
  obtain ⟨s0, s1⟩ := hb.Seed
  obtain ⟨w1, hw1⟩ : ∃ y, y = w.alloc (.cells #[.int .i64 b.Seed, .int .i64 b.Next, .slice A b.Open.length c] 33) := ⟨_, rfl⟩
  have op := var_owns w 33 3 [.int .i64 b.Seed, .int .i64 b.Next, .slice A b.Open.length c] rfl
  have HB : Below w.heap.size w w1 := hw1 ▸ (Below.refl _ _).alloc (Nat.le_refl _) _
  rw [← hw1] at op
  have ho3 : (w1.alloc (.cells #[.int .i64 197, .int .i64 i] 3)).ownsRow w1.heap.size 3 1 (.slice (some ⟨w1.heap.size, 0, none⟩) 2 2) 2 (ints .i64 [197, i]) := own_ints w1 [197, i] 2 rfl (by omega)
  have b2 : Below w1.heap.size w1 (w1.alloc (.cells #[.int .i64 197, .int .i64 i] 3)) := (Below.refl _ _).alloc (Nat.le_refl _) _
  obtain ⟨w2, hw2⟩ : ∃ y, y = w1.alloc (.cells #[.int .i64 197, .int .i64 i] 3) := ⟨_, rfl⟩
  rw [← hw2] at ho3 b2
  have z1 : w1.heap.size = w.heap.size + 1 := by rw [hw1]; simp
  rw [z1] at ho3
  have HO := Lib.hid (show okInts [197, i] from (okInts.one (x := 197) (by omega) (by omega)).app (okInts.one i0 i1))
  have c0 : w1.cell? ⟨w.heap.size, 0, none⟩ = some (.int .i64 b.Seed) := var_load op (by simp) 0 _ rfl
  have l1 := var_lt op
  go_enter Tryz.func37, Tryz.ntmps37
  go_wp2_with fail
  rw [← hw1, ← hw2]
  (with_reducible refine (specKeyed w2 (some ⟨w.heap.size + 1, 0, none⟩) 2 2 [197, i] b.Seed s0 s1 (Rd.own ho3) HO.out (by omega)).mono ?_); rintro e w3 ⟨rfl, b3⟩
  go_wp2
  go_ret
  exact ⟨rfl, HB.trans ((b2.trans (b3.mono b2.size)).mono HB.size)⟩
end Go.Proofs.YtllaacdikjffmaaGreat.C12
