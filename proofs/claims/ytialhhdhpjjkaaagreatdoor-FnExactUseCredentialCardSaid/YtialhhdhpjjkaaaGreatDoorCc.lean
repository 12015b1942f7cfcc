import Derived.Test.YtialhhdhpjjkaaaGreatDoorBa
import Derived.Lib.AppendZerosOnto
import Derived.Handy
/-
  slices.Concat of two slices, slices.Grow of nil, at numbers.
-/
namespace Go.Proofs.YtialhhdhpjjkaaaGreatDoor.Cc
open Go.ChangeShapes Go.WideShapes Go.ChangeAt Go.RowKit
open S0 S1
set_option linter.unusedVariables false
set_option maxRecDepth 100000
theorem zero_len (z : Value) (hz : z.cells.size = 1) (k : Nat) : (Builtin.zeroCells z.cells k).size = k := by
  simp [Builtin.zeroCells, hz]
set_option maxHeartbeats 1600000 in
theorem growNil (w : World) (n : Nat) (hn : n ≤ 4000000) : Calls Tryz.prog 166 #[.slice none 0 0, .int .i64 n] w (MadeS 3 1 0 [] w) := by
  by_cases h0 : n = 0
  · subst h0
    go_enter Tryz.func166, Tryz.ntmps166
    go_wp2
    go_ret
    exact ⟨none, 0, rfl, ⟨rfl, .inl ⟨rfl, rfl⟩⟩, Below.refl _ _⟩
  · obtain ⟨i0, hi, hz0, hz1, hz2⟩ := info_parts int_info
    obtain ⟨G, hG⟩ : ∃ G, G = grownCap w n 0 3 := ⟨_, rfl⟩
    have hGn : n ≤ G := hG ▸ grownCap_ge w _ _ _
    have hG63 : G ≤ maxLen := by
      rw [hG]
      exact grownCap_le_maxLen w n 0 3 (by unfold maxLen; omega)
    obtain ⟨C, hC⟩ : ∃ C, C = (#[] ++ Builtin.zeroCells (Value.int .i64 0).cells n ++ Builtin.zeroCells (Value.int .i64 0).cells (G - n) : Array Value) := ⟨_, rfl⟩
    have hCs : C.size = G := by
      rw [hC]
      have e : (Value.int .i64 0).cells.size = 1 := rfl
      simp [zero_len _ e]
      omega
    have hrz : ∀ ty, (Builtin.append_ #[72, 3] ty #[.slice none 0 0, .int .i64 n]).run Tryz.prog w = .ok (.slice (some ⟨w.heap.size, 0, none⟩) n G) (w.drew.alloc (.cells C 3)) := fun ty => by
      have h := Lib.run_append_grow_zeros w 72 3 ty 3 i0 (.int .i64 0) .i64 .i64 Tryz.underlying72 Tryz.underlying3 hi hz0 none 0 0 [] (run_firstCells_none w.drew _ 0 0 0) n (by omega) (by omega) (by omega) (by omega)
        (by rw [hz2]; omega) (by rw [hz2]; exact growslice_fits (by omega) (by omega))
      rw [Nat.zero_add, ← hG] at h
      rw [hC]
      exact h
    have hown : (w.drew.alloc (.cells C 3)).ownsRow w.heap.size 3 1 (.slice (some ⟨w.heap.size, 0, none⟩) 0 G) 0 [] :=
      ⟨rfl, .inr ⟨w.heap.size, G, C, rfl, Nat.le_refl _, (MapKept.heap_alloc w.drew _).1, by omega, hG63, by omega, by simp⟩⟩
    have hB : Below w.heap.size w (w.drew.alloc (.cells C 3)) := (Below.refl _ _).drew.alloc (by simp) _
    have h1 : ¬ ((n : Int) < 0) := by omega
    have h4 : (n : Int) > 0 := by omega
    clear hC hG hi hz0
    go_enter Tryz.func166, Tryz.ntmps166
    go_wp2_with (at_builtin; refine Lib.wpList_append_run _ rfl _ _ _ _ rfl _ _ rfl rfl _ _ (hrz _) ?_)
    all_goals (go_ret; exact ⟨_, _, rfl, hown, hB⟩)
theorem growNilI (w : World) (k : Int) (h0 : 0 ≤ k) (h1 : k ≤ 4000000) : Calls Tryz.prog 166 #[.slice none 0 0, .int .i64 k] w (MadeS 3 1 0 [] w) := by
  obtain ⟨n, rfl⟩ := Int.eq_ofNat_of_zero_le h0
  exact growNil w n (by omega)
set_option maxHeartbeats 3200000 in
/-- Concat of two slices of numbers. -/
theorem concat2 (w : World) (b : Nat) (A D : Option Addr) (n c m d : Nat) (xs ys : List Int) (h0 : w.cell? ⟨b, 0, none⟩ = some (.slice A n c)) (h1 : w.cell? ⟨b, 1, none⟩ = some (.slice D m d)) (hb : b < w.heap.size)
    (hx : Rd w w.heap.size 1 A n (ints .i64 xs)) (hy : Rd w w.heap.size 1 D m (ints .i64 ys)) (hn : n ≤ 1500000) (hm : m ≤ 1500000) :
    Calls Tryz.prog 144 #[.slice (some ⟨b, 0, none⟩) 2 2] w (MadeS 3 1 (n + m) (ints .i64 (xs ++ ys)) w) := by
  have HX := Lib.hid hx
  have HY := Lib.hid hy
  have H0 := Lib.hid h0
  have H1 := Lib.hid h1
  have k0 : ¬ ((n : Int) < 0) := by omega
  have k1 : ¬ ((n : Int) + (m : Int) < 0) := by omega
  clear hx hy
  go_enter Tryz.func144, Tryz.ntmps144
  go_wp2_with fail
  refine wp_loop_rounds 3 ?_
  repeat any_goals (rw [rounds_succ]; go_wp2_with fail)
  (with_reducible refine (growNilI _ ((n : Int) + (m : Int)) (by omega) (by omega)).mono ?_); rintro e w2 ⟨A2, c2, rfl, ho2, b2⟩
  have c0 : w2.cell? ⟨b, 0, none⟩ = some (.slice A n c) := by rw [World.cell?_of_block (b2.block b hb)]; exact H0.out
  have c1 : w2.cell? ⟨b, 1, none⟩ = some (.slice D m d) := by rw [World.cell?_of_block (b2.block b hb)]; exact H1.out
  clear h0 h1
  go_wp2_with fail
  refine wp_loop_rounds 3 ?_
  rw [rounds_succ]
  go_wp2_with (at_builtin; refine appI _ rfl _ _ rfl w.heap.size (.slice A2 0 c2) 0 _ rfl ho2 _ A n c _ rfl (HX.out.on b2) (ints_one _ _) (by omega) b2.size ?_; intro v3 w3 ho3 hg3; obtain ⟨A3, c3, rfl⟩ := own_nil_form ho3)
  have b3 : Below w.heap.size w w3 := b2.grown hg3 b2.size (fun k hk => (ho2.lt k hk).1)
  rw [Nat.zero_add, List.nil_append] at ho3
  have d1 : w3.cell? ⟨b, 1, none⟩ = some (.slice D m d) := by rw [World.cell?_of_block (b3.block b hb)]; exact H1.out
  clear c0 c1 ho2 hg3 b2
  rw [rounds_succ]
  go_wp2_with (at_builtin; refine appI _ rfl _ _ rfl w.heap.size (.slice A3 n c3) n _ rfl ho3 _ D m d _ rfl (HY.out.on b3) (ints_one _ _) (by omega) b3.size ?_; intro v4 w4 ho4 hg4; obtain ⟨A4, c4, rfl⟩ := own_nil_form ho4)
  have b4 : Below w.heap.size w w4 := b3.grown hg4 b3.size (fun k hk => (ho3.lt k hk).1)
  rw [ints_app] at ho4
  clear d1 ho3 hg4 b3
  rw [rounds_succ]
  go_wp2
  go_ret
  exact ⟨A4, c4, rfl, ho4, b4⟩
end Go.Proofs.YtialhhdhpjjkaaaGreatDoor.Cc
