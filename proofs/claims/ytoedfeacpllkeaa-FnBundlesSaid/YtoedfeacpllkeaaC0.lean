/-
  Contracts of the model's draws: a cursor over the bytes of a code, and the numbers that are drawn from it.
-/
import Derived.Test.YtoedfeacpllkeaaChecked
import Derived.Test.YtoedfeacpllkeaaM1
import Derived.WalkKit
import Derived.ProofKit
import Derived.OpenShut
import Derived.Below
import Derived.OwnWalk
import Derived.RegionTactic
import Derived.ChangeAlike
import Derived.Deep.QuietTactic
import Derived.BigQuiet
import Derived.Lib.Hide
import Derived.Laws.BitsLemmas
namespace Go.Proofs.Ytoedfeacpllkeaa.C0
open Go.ChangeShapes Go.WideShapes Go.ChangeAt Go.RowKit
set_option linter.unusedVariables false

/-- What lies at a cursor B: the code's bytes (below H0), the place, the number. -/
structure Cur (w : World) (B H0 : Nat) (a : Option Addr) (len cap : Nat) (i h : Int) : Prop where
  lt : B < w.heap.size
  low : H0 ≤ B
  c0 : w.cell? ⟨B, 0, none⟩ = some (.slice a len cap)
  c1 : w.cell? ⟨B, 1, none⟩ = some (.int .i64 i)
  c2 : w.cell? ⟨B, 2, none⟩ = some (.int .i64 h)
  f1 : w.frozen? ⟨B, 1, none⟩ = false
  f2 : w.frozen? ⟨B, 2, none⟩ = false
  i0 : 0 ≤ i
  i1 : i ≤ len
  fits : len ≤ 140737488351232
  reads : ∀ k, k < len → ∃ (b off : Nat) (x : Int), a = some ⟨b, off, none⟩ ∧ b < H0 ∧ w.cell? ⟨b, off + k, none⟩ = some (.int .u8 x) ∧ 0 ≤ x ∧ x ≤ 255

def IsCur (w : World) (B H0 : Nat) : Prop := ∃ a len cap i h, Cur w B H0 a len cap i h
theorem IsCur.lt {w : World} {B H0 : Nat} (h : IsCur w B H0) : B < w.heap.size := by obtain ⟨_, _, _, _, _, C⟩ := h; exact C.lt
theorem IsCur.low {w : World} {B H0 : Nat} (h : IsCur w B H0) : H0 ≤ B := by obtain ⟨_, _, _, _, _, C⟩ := h; exact C.low

theorem and255 (n : Int) : bits .and .i64 n 255 = n % 256 := by
  have h255 : (BitVec.ofInt 64 255).toNat = 2 ^ 8 - 1 := by decide
  have key : (BitVec.ofInt 64 n &&& BitVec.ofInt 64 255).toNat = (n % ((2 ^ 64 : Nat) : Int)).toNat % 2 ^ 8 := by
    rw [BitVec.toNat_and, BitVec.toNat_ofInt, h255, Nat.and_two_pow_sub_one_eq_mod]
  show IntKind.i64.wrap ((BitVec.ofInt 64 n &&& BitVec.ofInt 64 255).toNat : Nat) = n % 256
  rw [key, IntKind.wrap_i64]
  omega
theorem and255_bd (n : Int) : 0 ≤ bits .and .i64 n 255 ∧ bits .and .i64 n 255 ≤ 255 := by rw [and255]; omega

/-- A cursor stands where only other blocks from H0 on, and new ones, have changed. -/
theorem Cur.kept {w w' : World} {B H0 : Nat} {a : Option Addr} {len cap : Nat} {i h : Int} (C : Cur w B H0 a len cap i h) {row : Option Nat} (hg : w.grownBy w' row) (hr : row ≠ some B) (hr2 : ∀ r, row = some r → H0 ≤ r) : Cur w' B H0 a len cap i h := by
  have hB : w'.heap[B]? = w.heap[B]? := hg.block B C.lt (fun e => hr e.symm)
  refine ⟨Nat.lt_of_lt_of_le C.lt hg.size, C.low, ?_, ?_, ?_, ?_, ?_, C.i0, C.i1, C.fits, ?_⟩
  · rw [World.cell?_of_block (a := ⟨B, 0, none⟩) hB]; exact C.c0
  · rw [World.cell?_of_block (a := ⟨B, 1, none⟩) hB]; exact C.c1
  · rw [World.cell?_of_block (a := ⟨B, 2, none⟩) hB]; exact C.c2
  · rw [World.frozen?_of_block (a := ⟨B, 1, none⟩) hB]; exact C.f1
  · rw [World.frozen?_of_block (a := ⟨B, 2, none⟩) hB]; exact C.f2
  · intro k hk
    obtain ⟨b, off, x, h1, h2, h3, h4⟩ := C.reads k hk
    refine ⟨b, off, x, h1, h2, ?_, h4⟩
    rw [World.cell?_of_block (a := ⟨b, off + k, none⟩) (hg.block b (by have := C.low; have := C.lt; omega) (fun e => by have := hr2 b e.symm; omega))]
    exact h3
theorem IsCur.kept {w w' : World} {B H0 : Nat} (C : IsCur w B H0) {row : Option Nat} (hg : w.grownBy w' row) (hr : row ≠ some B) (hr2 : ∀ r, row = some r → H0 ≤ r) : IsCur w' B H0 := by
  obtain ⟨a, len, cap, i, h, C⟩ := C
  exact ⟨a, len, cap, i, h, C.kept hg hr hr2⟩
theorem IsCur.alloc {w : World} {B H0 : Nat} (C : IsCur w B H0) (o : Obj) : IsCur (w.alloc o) B H0 := C.kept (World.grownBy_alloc w o none) (by simp) (fun r h => by cases h)

theorem Cur.drewN {w : World} {B H0 : Nat} {a : Option Addr} {len cap : Nat} {i h : Int} (C : Cur w B H0 a len cap i h) (n : Nat) : Cur (w.drewN n) B H0 a len cap i h :=
  ⟨C.lt, C.low, C.c0, C.c1, C.c2, C.f1, C.f2, C.i0, C.i1, C.fits, C.reads⟩
theorem IsCur.drewN {w : World} {B H0 : Nat} (C : IsCur w B H0) (n : Nat) : IsCur (w.drewN n) B H0 := by
  obtain ⟨a, len, cap, i, h, C⟩ := C
  exact ⟨a, len, cap, i, h, C.drewN n⟩
theorem grown_trans {a b c : World} {row : Option Nat} (h : a.grownBy b row) (k : b.grownBy c row) : a.grownBy c row :=
  ⟨k.os.trans h.os, k.tape.trans h.tape, k.output.trans h.output, Nat.le_trans h.size k.size, fun j hj hr => (k.block j (Nat.lt_of_lt_of_le hj h.size) hr).trans (h.block j hj hr)⟩
theorem grown_set (w : World) (B o : Nat) (v : Value) : w.grownBy (w.setCell ⟨B, o, none⟩ v) (some B) :=
  ⟨rfl, rfl, rfl, by simp, fun k _ hr => Below.heap_setCell w ⟨B, o, none⟩ v k (fun e => hr (by rw [e]))⟩
theorem grown_drewN (w : World) (n : Nat) (row : Option Nat) : w.grownBy (w.drewN n) row := ⟨rfl, rfl, rfl, Nat.le_refl _, fun _ _ _ => rfl⟩
theorem grown_below {w w' : World} {row : Option Nat} (h : w.grownBy w' row) {H0 : Nat} (h0 : H0 ≤ w.heap.size) (hr : ∀ r, row = some r → H0 ≤ r) : Below H0 w w' := (Below.refl _ _).grown h h0 hr
theorem grown_widen {w w' : World} (h : w.grownBy w' none) (row : Option Nat) : w.grownBy w' row := ⟨h.os, h.tape, h.output, h.size, fun k hk _ => h.block k hk (by simp)⟩

/-- The cursor's own two numbers are written anew. -/
theorem Cur.write {w : World} {B H0 : Nat} {a : Option Addr} {len cap : Nat} {i h : Int} (C : Cur w B H0 a len cap i h) (h' : Int) (n : Nat) : Cur ((w.setCell ⟨B, 2, none⟩ (.int .i64 h')).drewN n) B H0 a len cap i h' := by
  obtain ⟨lt, low, c0, c1, c2, f1, f2, i0, i1, fits, reads⟩ := C
  refine ⟨by simpa using lt, low, ?_, ?_, ?_, ?_, ?_, i0, i1, fits, ?_⟩
  · go_simp
  · go_simp
  · go_simp
  · go_simp
  · go_simp
  · intro k hk
    obtain ⟨b, off, x, h1, h2, h3, h4⟩ := reads k hk
    refine ⟨b, off, x, h1, h2, ?_, h4⟩
    have hne : b ≠ B := by omega
    go_simp
theorem Cur.move {w : World} {B H0 : Nat} {a : Option Addr} {len cap : Nat} {i h : Int} (C : Cur w B H0 a len cap i h) (hi : i < len) : Cur (w.setCell ⟨B, 1, none⟩ (.int .i64 (i + 1))) B H0 a len cap (i + 1) h := by
  obtain ⟨lt, low, c0, c1, c2, f1, f2, i0, i1, fits, reads⟩ := C
  refine ⟨by simpa using lt, low, ?_, ?_, ?_, ?_, ?_, by omega, by omega, fits, ?_⟩
  · go_simp
  · go_simp
  · go_simp
  · go_simp
  · go_simp
  · intro k hk
    obtain ⟨b, off, x, h1, h2, h3, h4⟩ := reads k hk
    refine ⟨b, off, x, h1, h2, ?_, h4⟩
    have hne : b ≠ B := by omega
    go_simp
def Drawn (P : Int → Prop) (w : World) (B H0 : Nat) (e : Ending) (w' : World) : Prop := ∃ x : Int, e = .returned (.int .i64 x) ∧ P x ∧ IsCur w' B H0 ∧ w.grownBy w' (some B)
def isByte (x : Int) : Prop := 0 ≤ x ∧ x ≤ 255
set_option maxHeartbeats 800000 in
theorem byte_end (w : World) (B H0 : Nat) (a : Option Addr) (len cap : Nat) (i h : Int) (C : Cur w B H0 a len cap i h) (hi : ¬ i < len) :
    Calls Try.prog 61 #[.pointer (some ⟨B, 0, none⟩)] w (Drawn isByte w B H0) := by
  have C' := C
  obtain ⟨lt, low, c0, c1, c2, f1, f2, i0, i1, fits, reads⟩ := C
  clear reads
  go_enter Try.func61, Try.ntmps61
  go_wp2
  go_quiet (fail)
  go_wp2
  go_quiet (fail)
  go_wp2
  go_ret
  refine ⟨_, rfl, and255_bd _, ?_, ?_⟩
  · exact IsCur.drewN ⟨a, len, cap, i, _, C'.write _ _⟩ _
  · exact grown_trans (grown_trans (grown_set w B 2 _) (grown_drewN _ _ _)) (grown_drewN _ _ _)
set_option maxHeartbeats 800000 in
theorem byte_more (w : World) (B H0 b off k : Nat) (x : Int) (len cap : Nat) (h : Int) (C : Cur w B H0 (some ⟨b, off, none⟩) len cap k h) (hi : k < len) (hx : w.cell? ⟨b, off + k, none⟩ = some (.int .u8 x)) (hx0 : 0 ≤ x) (hx1 : x ≤ 255) (hb : b < H0) :
    Calls Try.prog 61 #[.pointer (some ⟨B, 0, none⟩)] w (Drawn isByte w B H0) := by
  have C' := C
  obtain ⟨lt, low, c0, c1, c2, f1, f2, i0, i1, fits, reads⟩ := C
  have hne : b ≠ B := by omega
  clear reads
  go_enter Try.func61, Try.ntmps61
  go_wp2
  go_quiet (fail)
  go_wp2
  go_quiet (fail)
  go_wp2
  go_quiet (fail)
  go_wp2
  go_ret
  refine ⟨_, rfl, and255_bd _, ?_, ?_⟩
  · exact ⟨_, len, cap, _, _, (C'.write _ _).move (by omega)⟩
  · exact grown_trans (grown_trans (grown_set w B 2 _) (grown_drewN _ _ _)) (grown_set _ B 1 _)
theorem byte_any (w : World) (B H0 : Nat) (C : IsCur w B H0) : Calls Try.prog 61 #[.pointer (some ⟨B, 0, none⟩)] w (Drawn isByte w B H0) := by
  obtain ⟨a, len, cap, i, h, C⟩ := C
  by_cases hi : i < len
  · obtain ⟨k, rfl⟩ : ∃ k : Nat, i = k := ⟨i.toNat, by have := C.i0; omega⟩
    obtain ⟨b, off, x, rfl, hb, hx, hx0, hx1⟩ := C.reads k (by omega)
    exact byte_more w B H0 b off k x len cap h C (by omega) hx hx0 hx1 hb
  · exact byte_end w B H0 a len cap i h C hi
def under (n x : Int) : Prop := 0 ≤ x ∧ (x < n ∨ (n ≤ 0 ∧ x = 0))
set_option maxHeartbeats 800000 in
theorem below_any (w : World) (B H0 : Nat) (n : Int) (C : IsCur w B H0) : Calls Try.prog 41 #[.pointer (some ⟨B, 0, none⟩), .int .i64 n] w (Drawn (under n) w B H0) := by
  by_cases h0 : n ≤ 0
  · go_enter Try.func41, Try.ntmps41
    go_wp2
    go_ret
    exact ⟨0, rfl, ⟨Int.le_refl 0, Or.inr ⟨h0, rfl⟩⟩, C, World.grownBy.refl _ _⟩
  · by_cases h1 : n ≤ 256
    · go_enter Try.func41, Try.ntmps41
      go_wp2_with (go_at_call 61; (with_reducible refine (byte_any _ B H0 C).mono ?_); rintro e w' ⟨x, rfl, ⟨hx0, hx1⟩, hC, hg⟩)
      go_ret
      exact ⟨_, rfl, ⟨Int.emod_nonneg _ (by omega), Or.inl (Int.emod_lt_of_pos _ (by omega))⟩, hC, hg⟩
    · go_enter Try.func41, Try.ntmps41
      go_wp2_with fail
      (with_reducible refine (byte_any _ B H0 C).mono ?_); rintro e w1 ⟨x, rfl, ⟨hx0, hx1⟩, hC1, hg1⟩
      go_wp2_with fail
      (with_reducible refine (byte_any _ B H0 hC1).mono ?_); rintro e w2 ⟨y, rfl, ⟨hy0, hy1⟩, hC2, hg2⟩
      go_wp2_with fail
      (with_reducible refine (byte_any _ B H0 hC2).mono ?_); rintro e w3 ⟨z, rfl, ⟨hz0, hz1⟩, hC3, hg3⟩
      go_wp2
      go_ret
      exact ⟨_, rfl, ⟨Int.emod_nonneg _ (by omega), Or.inl (Int.emod_lt_of_pos _ (by omega))⟩, hC3, grown_trans (grown_trans hg1 hg2) hg3⟩
def DrawnB (w : World) (B H0 : Nat) (e : Ending) (w' : World) : Prop := ∃ b : Bool, e = .returned (.bool b) ∧ IsCur w' B H0 ∧ w.grownBy w' (some B)
theorem once_any (w : World) (B H0 : Nat) (n : Int) (C : IsCur w B H0) : Calls Try.prog 62 #[.pointer (some ⟨B, 0, none⟩), .int .i64 n] w (DrawnB w B H0) := by
  go_enter Try.func62, Try.ntmps62
  go_wp2_with (go_at_call 41; (with_reducible refine (below_any _ B H0 n C).mono ?_); rintro e w' ⟨x, rfl, _, hC, hg⟩)
  go_ret
  exact ⟨_, rfl, hC, hg⟩
def IntRow (P : Int → Prop) (w : World) (L n : Nat) : Prop := L < w.heap.size ∧ ∀ k, k < n → ∃ z : Int, P z ∧ w.cell? ⟨L, k, none⟩ = some (.int .i64 z)
theorem IntRow.kept {P : Int → Prop} {w w' : World} {L n : Nat} (h : IntRow P w L n) {row : Option Nat} (hg : w.grownBy w' row) (hr : row ≠ some L) : IntRow P w' L n :=
  ⟨Nat.lt_of_lt_of_le h.1 hg.size, fun k hk => by
    obtain ⟨z, hz, hc⟩ := h.2 k hk
    exact ⟨z, hz, by rw [World.cell?_of_block (a := ⟨L, k, none⟩) (hg.block L h.1 (fun e => hr e.symm))]; exact hc⟩⟩
theorem new_cell (w : World) (c : Array Value) (t : TypeId) (k : Nat) (v : Value) (h : c[k]? = some v) : (w.alloc (.cells c t)).cell? ⟨w.heap.size, k, none⟩ = some v := by
  have e : (w.alloc (.cells c t)).heap[w.heap.size]? = some (.cells c t) := (MapKept.heap_alloc w _).1
  simp only [World.cell?, e, h]
  rfl
theorem intRow_alloc (zs : List Int) (w : World) (t : TypeId) : IntRow (· ∈ zs) (w.alloc (.cells (zs.map (Value.int .i64)).toArray t)) w.heap.size zs.length :=
  ⟨by simp, fun k hk => ⟨zs[k], List.getElem_mem hk, new_cell w _ t k _ (by simp [hk])⟩⟩
set_option maxHeartbeats 800000 in
theorem int_any (P : Int → Prop) (w : World) (B H0 L n : Nat) (C : IsCur w B H0) (hR : IntRow P w L n) (hL : L ≠ B) (h0 : 0 < n) (h1 : n ≤ 1000) :
    Calls Try.prog 70 #[.pointer (some ⟨B, 0, none⟩), .slice (some ⟨L, 0, none⟩) n n] w (Drawn P w B H0) := by
  go_enter Try.func70, Try.ntmps70
  go_wp2_with fail
  (with_reducible refine (below_any _ B H0 n C).mono ?_); rintro e w1 ⟨x, rfl, ⟨hx0, hx1⟩, hC1, hg1⟩
  obtain ⟨k, rfl⟩ : ∃ k : Nat, x = k := ⟨x.toNat, by omega⟩
  have hk : k < n := by omega
  obtain ⟨z, hz, hc⟩ := (hR.kept hg1 (fun e => hL (by cases e; rfl))).2 k hk
  clear hx1
  go_wp2
  go_ret
  exact ⟨z, rfl, hz, hC1, hg1⟩
def isI64 (x : Int) : Prop := -9223372036854775808 ≤ x ∧ x ≤ 9223372036854775807
def isNum (x : Int) : Prop := 0 ≤ x ∧ x ≤ 1000000000000
theorem Drawn.weaken {P Q : Int → Prop} {w : World} {B H0 : Nat} {e : Ending} {w' : World} (h : Drawn P w B H0 e w') (hpq : ∀ x, P x → Q x) : Drawn Q w B H0 e w' := by
  obtain ⟨x, he, hx, hC, hg⟩ := h
  exact ⟨x, he, hpq x hx, hC, hg⟩
/-- A list of numbers that is written out, and one of them. -/
theorem int_lit (zs : List Int) (n : Nat) (hn : n = zs.length) (w : World) (B H0 : Nat) (t : TypeId) (C : IsCur w B H0) (h0 : 0 < zs.length) (h1 : zs.length ≤ 1000) (P : Int → Prop) (hz : ∀ z ∈ zs, P z) :
    Calls Try.prog 70 #[.pointer (some ⟨B, 0, none⟩), .slice (some ⟨w.heap.size, 0, none⟩) n n] (w.alloc (.cells (zs.map (Value.int .i64)).toArray t)) (Drawn P w B H0) := by
  subst hn
  refine (int_any (· ∈ zs) _ B H0 w.heap.size zs.length (C.alloc _) (intRow_alloc zs w t) (by have := C.lt; omega) h0 h1).mono fun e w' h => ?_
  obtain ⟨x, he, hx, hC, hg⟩ := h
  exact ⟨x, he, hz x hx, hC, grown_trans (World.grownBy_alloc w _ _) hg⟩
theorem int_litg (zs : List Int) (n : Nat) (hn : n = zs.length) (w : World) (B H0 g : Nat) (hg : g = w.heap.size) (t : TypeId) (C : IsCur w B H0) (h0 : 0 < zs.length) (h1 : zs.length ≤ 1000) (P : Int → Prop) (hz : ∀ z ∈ zs, P z) :
    Calls Try.prog 70 #[.pointer (some ⟨B, 0, none⟩), .slice (some ⟨g, 0, none⟩) n n] (w.alloc (.cells (zs.map (Value.int .i64)).toArray t)) (Drawn P w B H0) := by
  subst hg
  exact int_lit zs n hn w B H0 t C h0 h1 P hz
/-- The code that a draw goes over: its bytes lie below H0. -/
def Code (w : World) (H0 : Nat) (v : Value) : Prop := ∃ (a : Option Addr) (len cap : Nat), v = .slice a len cap ∧ len ≤ 140737488351232 ∧
  ∀ k, k < len → ∃ (b off : Nat) (x : Int), a = some ⟨b, off, none⟩ ∧ b < H0 ∧ w.cell? ⟨b, off + k, none⟩ = some (.int .u8 x) ∧ 0 ≤ x ∧ x ≤ 255
theorem Code.below {w w' : World} {H0 : Nat} {v : Value} (h : Code w H0 v) (hb : Below H0 w w') : Code w' H0 v := by
  obtain ⟨a, len, cap, hv, hl, hr⟩ := h
  refine ⟨a, len, cap, hv, hl, fun k hk => ?_⟩
  obtain ⟨b, off, x, h1, h2, h3, h4⟩ := hr k hk
  exact ⟨b, off, x, h1, h2, by rw [hb.cell (p := ⟨b, off + k, none⟩) h2]; exact h3, h4⟩
theorem Code.mono {w : World} {H0 H1 : Nat} {v : Value} (h : Code w H0 v) (hl : H0 ≤ H1) : Code w H1 v := by
  obtain ⟨a, len, cap, hv, hl', hr⟩ := h
  refine ⟨a, len, cap, hv, hl', fun k hk => ?_⟩
  obtain ⟨b, off, x, h1, h2, h3, h4⟩ := hr k hk
  exact ⟨b, off, x, h1, by omega, h3, h4⟩
def Made (w : World) (H0 : Nat) (e : Ending) (w' : World) : Prop := e = .returned (.pointer (some ⟨w.heap.size, 0, none⟩)) ∧ IsCur w' w.heap.size H0 ∧ w.grownBy w' none
theorem cur_new (w : World) (H0 : Nat) (a : Option Addr) (len cap : Nat) (h : Int) (h0 : H0 ≤ w.heap.size) (hl : len ≤ 140737488351232)
    (hr : ∀ k, k < len → ∃ (b off : Nat) (x : Int), a = some ⟨b, off, none⟩ ∧ b < H0 ∧ w.cell? ⟨b, off + k, none⟩ = some (.int .u8 x) ∧ 0 ≤ x ∧ x ≤ 255) (t : TypeId) :
    Cur (w.alloc (.cells #[.slice a len cap, .int .i64 0, .int .i64 h] t)) w.heap.size H0 a len cap 0 h := by
  refine ⟨by simp, h0, ?_, ?_, ?_, ?_, ?_, Int.le_refl 0, by omega, hl, ?_⟩
  · exact new_cell w _ t 0 _ rfl
  · exact new_cell w _ t 1 _ rfl
  · exact new_cell w _ t 2 _ rfl
  · go_simp
  · go_simp
  · intro k hk
    obtain ⟨b, off, x, h1, h2, h3, h4⟩ := hr k hk
    refine ⟨b, off, x, h1, h2, ?_, h4⟩
    rw [World.cell?_of_block (a := ⟨b, off + k, none⟩) (Below.heap_alloc w _ b (by omega))]
    exact h3
set_option maxHeartbeats 800000 in
set_option maxRecDepth 100000 in
theorem new_any (w : World) (H0 : Nat) (v : Value) (hc : Code w H0 v) (h0 : H0 ≤ w.heap.size) : Calls Try.prog 40 #[v] w (Made w H0) := by
  obtain ⟨a, len, cap, rfl, hl, hr⟩ := hc
  have HR := Lib.hid hr
  clear hr
  go_enter Try.func40, Try.ntmps40
  go_wp2
  go_loop [3, 4] (fun h i => ∃ (k : Nat) (x : Int), k ≤ len ∧ i = .int .i64 k ∧ h = .int .i64 x) (fun _ i => len - (intOf i).toNat)
  case atStart => exact ⟨0, _, by omega, rfl, rfl⟩
  case round =>
    obtain ⟨k, x, hk, rfl, rfl⟩ := hrel
    by_cases hlt : k < len
    · by_cases h4 : k < 4000
      · obtain ⟨b, off, y, rfl, hb, hy, hy0, hy1⟩ := HR.out k hlt
        go_wp2
        go_round
        case rel => exact ⟨k + 1, _, by omega, by go_num, rfl⟩
        case measure => simp [intOf]; omega
      · have h4' : decide ((k : Int) < 4000) = false := by simp; omega
        go_wp2
        go_ret
        exact ⟨rfl, ⟨a, len, cap, 0, x, cur_new w H0 a len cap x h0 hl HR.out _⟩, World.grownBy_alloc w _ none⟩
    · have h4' : decide (k < len) = false := by simp; omega
      go_wp2
      go_ret
      exact ⟨rfl, ⟨a, len, cap, 0, x, cur_new w H0 a len cap x h0 hl HR.out _⟩, World.grownBy_alloc w _ none⟩
/-- What a cursor that the call itself made, and all that is drawn with it, leaves of what lay there. -/
theorem made_below {w w1 w2 : World} (h1 : w.grownBy w1 none) (h2 : w1.grownBy w2 (some w.heap.size)) : Below w.heap.size w w2 :=
  (grown_below h1 (Nat.le_refl _) (fun _ e => by cases e)).trans (grown_below h2 h1.size (fun r e => by cases e; exact Nat.le_refl _))
end Go.Proofs.Ytoedfeacpllkeaa.C0
