/-
  Contracts of the model's draws: a cursor over the bytes of a code, and the numbers that are drawn from it.
-/
import Derived.Test.YtmfgfofdloclbaaChecked
import Derived.Test.YtmfgfofdloclbaaM1
import Derived.WalkKit
import Derived.ProofKit
import Derived.OpenShut
import Derived.Below
import Derived.OwnWalk
import Derived.RegionTactic
import Derived.ChangeAlike
import Derived.Deep.QuietTactic
import Derived.BigQuiet
import Derived.Lib.Hide
import Derived.Laws.BitsLemmas
namespace Go.Proofs.Ytmfgfofdloclbaa.C0
open Go.ChangeShapes Go.WideShapes Go.ChangeAt Go.RowKit
set_option linter.unusedVariables false

/-- What lies at a cursor B: the code's bytes (below H0), the place, the number. -/
structure Cur (w : World) (B H0 : Nat) (a : Option Addr) (len cap : Nat) (i h : Int) : Prop where
  lt : B < w.heap.size
  low : H0 ≤ B
  c0 : w.cell? ⟨B, 0, none⟩ = some (.slice a len cap)
  c1 : w.cell? ⟨B, 1, none⟩ = some (.int .i64 i)
  c2 : w.cell? ⟨B, 2, none⟩ = some (.int .i64 h)
  f1 : w.frozen? ⟨B, 1, none⟩ = false
  f2 : w.frozen? ⟨B, 2, none⟩ = false
  i0 : 0 ≤ i
  i1 : i ≤ len
  fits : len ≤ 140737488351232
  reads : ∀ k, k < len → ∃ (b off : Nat) (x : Int), a = some ⟨b, off, none⟩ ∧ b < H0 ∧ w.cell? ⟨b, off + k, none⟩ = some (.int .u8 x) ∧ 0 ≤ x ∧ x ≤ 255

def IsCur (w : World) (B H0 : Nat) : Prop := ∃ a len cap i h, Cur w B H0 a len cap i h
theorem IsCur.lt {w : World} {B H0 : Nat} (h : IsCur w B H0) : B < w.heap.size := by obtain ⟨_, _, _, _, _, C⟩ := h; exact C.lt
theorem IsCur.low {w : World} {B H0 : Nat} (h : IsCur w B H0) : H0 ≤ B := by obtain ⟨_, _, _, _, _, C⟩ := h; exact C.low

theorem and255 (n : Int) : bits .and .i64 n 255 = n % 256 := by
  have h255 : (BitVec.ofInt 64 255).toNat = 2 ^ 8 - 1 := by decide
  have key : (BitVec.ofInt 64 n &&& BitVec.ofInt 64 255).toNat = (n % ((2 ^ 64 : Nat) : Int)).toNat % 2 ^ 8 := by
    rw [BitVec.toNat_and, BitVec.toNat_ofInt, h255, Nat.and_two_pow_sub_one_eq_mod]
  show IntKind.i64.wrap ((BitVec.ofInt 64 n &&& BitVec.ofInt 64 255).toNat : Nat) = n % 256
  rw [key, IntKind.wrap_i64]
  omega
theorem and255_bd (n : Int) : 0 ≤ bits .and .i64 n 255 ∧ bits .and .i64 n 255 ≤ 255 := by rw [and255]; omega

/-- A cursor stands where only other blocks from H0 on, and new ones, have changed. -/
theorem Cur.kept {w w' : World} {B H0 : Nat} {a : Option Addr} {len cap : Nat} {i h : Int} (C : Cur w B H0 a len cap i h) {row : Option Nat} (hg : w.grownBy w' row) (hr : row ≠ some B) (hr2 : ∀ r, row = some r → H0 ≤ r) : Cur w' B H0 a len cap i h := by
  have hB : w'.heap[B]? = w.heap[B]? := hg.block B C.lt (fun e => hr e.symm)
  refine ⟨Nat.lt_of_lt_of_le C.lt hg.size, C.low, ?_, ?_, ?_, ?_, ?_, C.i0, C.i1, C.fits, ?_⟩
  · rw [World.cell?_of_block (a := ⟨B, 0, none⟩) hB]; exact C.c0
  · rw [World.cell?_of_block (a := ⟨B, 1, none⟩) hB]; exact C.c1
  · rw [World.cell?_of_block (a := ⟨B, 2, none⟩) hB]; exact C.c2
  · rw [World.frozen?_of_block (a := ⟨B, 1, none⟩) hB]; exact C.f1
  · rw [World.frozen?_of_block (a := ⟨B, 2, none⟩) hB]; exact C.f2
  · intro k hk
    obtain ⟨b, off, x, h1, h2, h3, h4⟩ := C.reads k hk
    refine ⟨b, off, x, h1, h2, ?_, h4⟩
    rw [World.cell?_of_block (a := ⟨b, off + k, none⟩) (hg.block b (by have := C.low; have := C.lt; omega) (fun e => by have := hr2 b e.symm; omega))]
    exact h3
theorem IsCur.kept {w w' : World} {B H0 : Nat} (C : IsCur w B H0) {row : Option Nat} (hg : w.grownBy w' row) (hr : row ≠ some B) (hr2 : ∀ r, row = some r → H0 ≤ r) : IsCur w' B H0 := by
  obtain ⟨a, len, cap, i, h, C⟩ := C
  exact ⟨a, len, cap, i, h, C.kept hg hr hr2⟩
theorem IsCur.alloc {w : World} {B H0 : Nat} (C : IsCur w B H0) (o : Obj) : IsCur (w.alloc o) B H0 := C.kept (World.grownBy_alloc w o none) (by simp) (fun r h => by cases h)

theorem Cur.drewN {w : World} {B H0 : Nat} {a : Option Addr} {len cap : Nat} {i h : Int} (C : Cur w B H0 a len cap i h) (n : Nat) : Cur (w.drewN n) B H0 a len cap i h :=
  ⟨C.lt, C.low, C.c0, C.c1, C.c2, C.f1, C.f2, C.i0, C.i1, C.fits, C.reads⟩
theorem IsCur.drewN {w : World} {B H0 : Nat} (C : IsCur w B H0) (n : Nat) : IsCur (w.drewN n) B H0 := by
  obtain ⟨a, len, cap, i, h, C⟩ := C
  exact ⟨a, len, cap, i, h, C.drewN n⟩
theorem grown_trans {a b c : World} {row : Option Nat} (h : a.grownBy b row) (k : b.grownBy c row) : a.grownBy c row :=
  ⟨k.os.trans h.os, k.tape.trans h.tape, k.output.trans h.output, Nat.le_trans h.size k.size, fun j hj hr => (k.block j (Nat.lt_of_lt_of_le hj h.size) hr).trans (h.block j hj hr)⟩
theorem grown_set (w : World) (B o : Nat) (v : Value) : w.grownBy (w.setCell ⟨B, o, none⟩ v) (some B) :=
  ⟨rfl, rfl, rfl, by simp, fun k _ hr => Below.heap_setCell w ⟨B, o, none⟩ v k (fun e => hr (by rw [e]))⟩
theorem grown_drewN (w : World) (n : Nat) (row : Option Nat) : w.grownBy (w.drewN n) row := ⟨rfl, rfl, rfl, Nat.le_refl _, fun _ _ _ => rfl⟩
theorem grown_below {w w' : World} {row : Option Nat} (h : w.grownBy w' row) {H0 : Nat} (h0 : H0 ≤ w.heap.size) (hr : ∀ r, row = some r → H0 ≤ r) : Below H0 w w' := (Below.refl _ _).grown h h0 hr
theorem grown_widen {w w' : World} (h : w.grownBy w' none) (row : Option Nat) : w.grownBy w' row := ⟨h.os, h.tape, h.output, h.size, fun k hk _ => h.block k hk (by simp)⟩

/-- The cursor's own two numbers are written anew. -/
theorem Cur.write {w : World} {B H0 : Nat} {a : Option Addr} {len cap : Nat} {i h : Int} (C : Cur w B H0 a len cap i h) (h' : Int) (n : Nat) : Cur ((w.setCell ⟨B, 2, none⟩ (.int .i64 h')).drewN n) B H0 a len cap i h' := by
  obtain ⟨lt, low, c0, c1, c2, f1, f2, i0, i1, fits, reads⟩ := C
  refine ⟨by simpa using lt, low, ?_, ?_, ?_, ?_, ?_, i0, i1, fits, ?_⟩
  · go_simp
  · go_simp
  · go_simp
  · go_simp
  · go_simp
  · intro k hk
    obtain ⟨b, off, x, h1, h2, h3, h4⟩ := reads k hk
    refine ⟨b, off, x, h1, h2, ?_, h4⟩
    have hne : b ≠ B := by omega
    go_simp
theorem Cur.move {w : World} {B H0 : Nat} {a : Option Addr} {len cap : Nat} {i h : Int} (C : Cur w B H0 a len cap i h) (hi : i < len) : Cur (w.setCell ⟨B, 1, none⟩ (.int .i64 (i + 1))) B H0 a len cap (i + 1) h := by
  obtain ⟨lt, low, c0, c1, c2, f1, f2, i0, i1, fits, reads⟩ := C
  refine ⟨by simpa using lt, low, ?_, ?_, ?_, ?_, ?_, by omega, by omega, fits, ?_⟩
  · go_simp
  · go_simp
  · go_simp
  · go_simp
  · go_simp
  · intro k hk
    obtain ⟨b, off, x, h1, h2, h3, h4⟩ := reads k hk
    refine ⟨b, off, x, h1, h2, ?_, h4⟩
    have hne : b ≠ B := by omega
    go_simp
/-- What a cursor that the call itself made, and all that is drawn with it, leaves of what lay there. -/
theorem made_below {w w1 w2 : World} (h1 : w.grownBy w1 none) (h2 : w1.grownBy w2 (some w.heap.size)) : Below w.heap.size w w2 :=
  (grown_below h1 (Nat.le_refl _) (fun _ e => by cases e)).trans (grown_below h2 h1.size (fun r e => by cases e; exact Nat.le_refl _))
end Go.Proofs.Ytmfgfofdloclbaa.C0
