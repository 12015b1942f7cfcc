import Derived.Test.YtialhhdhpjjkaaaGreatDoorBa
import Derived.Test.YtialhhdhpjjkaaaGreatDoorBb
import Derived.Test.YtialhhdhpjjkaaaGreatDoorC10
import Derived.Deep.RegionHeld3
/-
  Contracts of chapter 10's draws: a key store with a seed of few values, a site of nine, a handle, a message.
-/
namespace Go.Proofs.YtialhhdhpjjkaaaGreatDoor.D10
open Go.ChangeShapes Go.WideShapes Go.ChangeAt Go.RowKit
open C0 S0 S1 S9 Dm Fx C3 D2 D3 Dv
set_option linter.unusedVariables false
set_option linter.unusedSimpArgs false
set_option maxRecDepth 100000
def hosts : List ByteArray := [⟨#[98, 97, 110, 107, 46, 99, 111, 109]⟩, ⟨#[119, 119, 119, 46, 98, 97, 110, 107, 46, 99, 111, 109]⟩, ⟨#[98, 97, 110, 107, 46, 99, 111, 109, 46, 101, 118, 105, 108, 46, 110, 101, 116]⟩, ⟨#[101, 118, 105, 108, 98, 97, 110, 107, 46, 99, 111, 109]⟩, ⟨#[115, 104, 111, 112, 46, 111, 114, 103]⟩, ⟨#[97, 46, 98, 46, 115, 104, 111, 112, 46, 111, 114, 103]⟩, ⟨#[99, 111, 109]⟩, ⟨#[108, 111, 99, 97, 108, 104, 111, 115, 116]⟩, ⟨#[120, 45, 121, 46, 105, 111]⟩]
theorem hosts_short {s : ByteArray} (h : s ∈ hosts) : s.size ≤ 100 := by
  have : ∀ s ∈ hosts, s.size ≤ 100 := by decide
  exact this s h
def isSeed (x : Int) : Prop := x ∈ [(0 : Int), -1, 1, 2147483646, 2147483647] ∨ (1 ≤ x ∧ x ≤ 99999)
theorem isSeed.i64 {x : Int} (h : isSeed x) : isI64 x := by
  unfold isSeed at h
  unfold isI64
  simp only [List.mem_cons, List.not_mem_nil, or_false] at h
  omega
def okK (x : Fx.KeyStore) : Prop := isI64 x.Vendor ∧ isI64 x.Serial ∧ isSeed x.Seed ∧ isI64 x.Counter
theorem okK.ok {x : Fx.KeyStore} (h : okK x) : x.ok := ⟨h.1, h.2.1, h.2.2.1.i64, h.2.2.2⟩
def DrawnK (w : World) (B H0 : Nat) (e : Ending) (w' : World) : Prop := ∃ x : Fx.KeyStore, e = .returned (.agg #[.int .i64 x.Vendor, .int .i64 x.Serial, .int .i64 x.Seed, .int .i64 x.Counter]) ∧ okK x ∧ IsCur w' B H0 ∧ w.grownBy w' (some B)
theorem host_in (w : World) (B H0 : Nat) (C : IsCur w B H0) : Calls Tryz.prog 109 #[.pointer (some ⟨B, 0, none⟩)] w (DrawnS (· ∈ hosts) w B H0) := by
  have HL := Lib.hid (str_lit_in hosts 9 rfl w B H0 9 C (by decide) (by decide))
  go_enter Tryz.func109, Tryz.ntmps109
  go_wp2_with fail
  refine HL.out.mono ?_; rintro e w1 ⟨x, rfl, hx, hC1, hg1⟩
  go_wp2
  go_ret
  exact ⟨x, rfl, hx, hC1, hg1⟩
theorem key_any (w : World) (B H0 : Nat) (C : IsCur w B H0) : Calls Tryz.prog 148 #[.pointer (some ⟨B, 0, none⟩)] w (Drawn isSeed w B H0) := by
  go_enter Tryz.func148, Tryz.ntmps148
  go_wp2_with fail
  (with_reducible refine (once_any _ _ H0 10 C).mono ?_); rintro e w1 ⟨b, rfl, C1, g1⟩
  cases b
  · go_wp2_with fail
    (with_reducible refine (below_any _ _ H0 99999 C1).mono ?_); rintro e w2 ⟨x, rfl, ⟨h0, h1⟩, C2, g2⟩
    have h2 : x ≤ 99998 := by omega
    clear h1
    go_wp2
    go_ret
    exact ⟨_, rfl, Or.inr ⟨by omega, by omega⟩, C2, grown_trans g1 g2⟩
  · have HL := Lib.hid (int_lit [0, -1, 1, 2147483646, 2147483647] 5 rfl w1 B H0 3 C1 (by simp) (by simp) isSeed (fun z hz => Or.inl hz))
    go_wp2_with fail
    refine HL.out.mono ?_; rintro e w2 ⟨x, rfl, hx, C2, g2⟩
    go_wp2
    go_ret
    exact ⟨x, rfl, hx, C2, grown_trans g1 g2⟩
set_option maxHeartbeats 1600000 in
theorem store_any (w : World) (B H0 : Nat) (C : IsCur w B H0) : Calls Tryz.prog 147 #[.pointer (some ⟨B, 0, none⟩)] w (DrawnK w B H0) := by
  have hB := C.lt
  have hH := C.low
  go_enter Tryz.func147, Tryz.ntmps147
  obtain ⟨w1, hw1⟩ : ∃ y, y = w.alloc (.cells #[.int .i64 0, .int .i64 0, .int .i64 0, .int .i64 0] 61) := ⟨_, rfl⟩
  have o_r := var_owns w 61 4 [.int .i64 0, .int .i64 0, .int .i64 0, .int .i64 0] rfl
  have bw1 : Below w.heap.size w w1 := hw1 ▸ (Below.refl _ _).alloc (Nat.le_refl _) _
  rw [← hw1] at o_r
  have sw1 : w1.heap.size = w.heap.size + 1 := by rw [hw1]; simp
  have gw1 : w.grownBy w1 (some B) := hw1 ▸ World.grownBy_alloc w _ _
  have zw1 : w.heap.size < w1.heap.size := by rw [hw1]; simp
  have n_r : w.heap.size ≠ B := by have := C.lt; have := C.low; omega
  have m_r : H0 ≤ w.heap.size := by have := C.lt; have := C.low; omega
  replace C : IsCur w1 B H0 := hw1 ▸ C.alloc _
  have hG := gw1
  go_wp2_with fail
  rw [← hw1]
  clear hw1 sw1
  (with_reducible refine (below_any _ _ H0 3 C).mono ?_); rintro e w2 ⟨a, rfl, ⟨ha0, ha1⟩, C, gw2⟩
  replace o_r := Dv.owns_drawn o_r gw2 (by omega)
  replace hG := grown_trans hG gw2
  have zw2 := gw2.size
  replace ha1 : a ≤ 2 := by omega
  have c_r0 : w2.cell? ⟨w.heap.size, 0, none⟩ = some (.int .i64 0) := var_load o_r (by simp) 0 _ rfl
  have f_r0 : w2.frozen? ⟨w.heap.size, 0, none⟩ = false := var_frozen o_r (by simp) 0 _ rfl
  have c_r1 : w2.cell? ⟨w.heap.size, 1, none⟩ = some (.int .i64 0) := var_load o_r (by simp) 1 _ rfl
  have f_r1 : w2.frozen? ⟨w.heap.size, 1, none⟩ = false := var_frozen o_r (by simp) 1 _ rfl
  have c_r2 : w2.cell? ⟨w.heap.size, 2, none⟩ = some (.int .i64 0) := var_load o_r (by simp) 2 _ rfl
  have f_r2 : w2.frozen? ⟨w.heap.size, 2, none⟩ = false := var_frozen o_r (by simp) 2 _ rfl
  have c_r3 : w2.cell? ⟨w.heap.size, 3, none⟩ = some (.int .i64 0) := var_load o_r (by simp) 3 _ rfl
  have f_r3 : w2.frozen? ⟨w.heap.size, 3, none⟩ = false := var_frozen o_r (by simp) 3 _ rfl
  have l_r := var_lt o_r
  go_wp2_with fail
  (with_reducible refine (below_any _ _ H0 20 C).mono ?_); rintro e w3 ⟨b, rfl, ⟨hb0, hb1⟩, C, gw3⟩
  clear c_r0 f_r0 c_r1 f_r1 c_r2 f_r2 c_r3 f_r3 l_r
  replace o_r := Dv.owns_drawn o_r gw3 (by omega)
  replace hG := grown_trans hG gw3
  have zw3 := gw3.size
  replace hb1 : b ≤ 19 := by omega
  have c_r0 : w3.cell? ⟨w.heap.size, 0, none⟩ = some (.int .i64 0) := var_load o_r (by simp) 0 _ rfl
  have f_r0 : w3.frozen? ⟨w.heap.size, 0, none⟩ = false := var_frozen o_r (by simp) 0 _ rfl
  have c_r1 : w3.cell? ⟨w.heap.size, 1, none⟩ = some (.int .i64 0) := var_load o_r (by simp) 1 _ rfl
  have f_r1 : w3.frozen? ⟨w.heap.size, 1, none⟩ = false := var_frozen o_r (by simp) 1 _ rfl
  have c_r2 : w3.cell? ⟨w.heap.size, 2, none⟩ = some (.int .i64 0) := var_load o_r (by simp) 2 _ rfl
  have f_r2 : w3.frozen? ⟨w.heap.size, 2, none⟩ = false := var_frozen o_r (by simp) 2 _ rfl
  have c_r3 : w3.cell? ⟨w.heap.size, 3, none⟩ = some (.int .i64 0) := var_load o_r (by simp) 3 _ rfl
  have f_r3 : w3.frozen? ⟨w.heap.size, 3, none⟩ = false := var_frozen o_r (by simp) 3 _ rfl
  have l_r := var_lt o_r
  go_wp2_with fail
  (with_reducible refine (below_any _ _ H0 9999 C).mono ?_); rintro e w4 ⟨c, rfl, ⟨hc0, hc1⟩, C, gw4⟩
  clear c_r0 f_r0 c_r1 f_r1 c_r2 f_r2 c_r3 f_r3 l_r
  replace o_r := Dv.owns_drawn o_r gw4 (by omega)
  replace hG := grown_trans hG gw4
  have zw4 := gw4.size
  replace hc1 : c ≤ 9998 := by omega
  have c_r0 : w4.cell? ⟨w.heap.size, 0, none⟩ = some (.int .i64 0) := var_load o_r (by simp) 0 _ rfl
  have f_r0 : w4.frozen? ⟨w.heap.size, 0, none⟩ = false := var_frozen o_r (by simp) 0 _ rfl
  have c_r1 : w4.cell? ⟨w.heap.size, 1, none⟩ = some (.int .i64 0) := var_load o_r (by simp) 1 _ rfl
  have f_r1 : w4.frozen? ⟨w.heap.size, 1, none⟩ = false := var_frozen o_r (by simp) 1 _ rfl
  have c_r2 : w4.cell? ⟨w.heap.size, 2, none⟩ = some (.int .i64 0) := var_load o_r (by simp) 2 _ rfl
  have f_r2 : w4.frozen? ⟨w.heap.size, 2, none⟩ = false := var_frozen o_r (by simp) 2 _ rfl
  have c_r3 : w4.cell? ⟨w.heap.size, 3, none⟩ = some (.int .i64 0) := var_load o_r (by simp) 3 _ rfl
  have f_r3 : w4.frozen? ⟨w.heap.size, 3, none⟩ = false := var_frozen o_r (by simp) 3 _ rfl
  have l_r := var_lt o_r
  go_wp2_with fail
  (with_reducible refine (below_any _ _ H0 50 C).mono ?_); rintro e w5 ⟨d, rfl, ⟨hd0, hd1⟩, C, gw5⟩
  clear c_r0 f_r0 c_r1 f_r1 c_r2 f_r2 c_r3 f_r3 l_r
  replace o_r := Dv.owns_drawn o_r gw5 (by omega)
  replace hG := grown_trans hG gw5
  have zw5 := gw5.size
  replace hd1 : d ≤ 49 := by omega
  have c_r0 : w5.cell? ⟨w.heap.size, 0, none⟩ = some (.int .i64 0) := var_load o_r (by simp) 0 _ rfl
  have f_r0 : w5.frozen? ⟨w.heap.size, 0, none⟩ = false := var_frozen o_r (by simp) 0 _ rfl
  have c_r1 : w5.cell? ⟨w.heap.size, 1, none⟩ = some (.int .i64 0) := var_load o_r (by simp) 1 _ rfl
  have f_r1 : w5.frozen? ⟨w.heap.size, 1, none⟩ = false := var_frozen o_r (by simp) 1 _ rfl
  have c_r2 : w5.cell? ⟨w.heap.size, 2, none⟩ = some (.int .i64 0) := var_load o_r (by simp) 2 _ rfl
  have f_r2 : w5.frozen? ⟨w.heap.size, 2, none⟩ = false := var_frozen o_r (by simp) 2 _ rfl
  have c_r3 : w5.cell? ⟨w.heap.size, 3, none⟩ = some (.int .i64 0) := var_load o_r (by simp) 3 _ rfl
  have f_r3 : w5.frozen? ⟨w.heap.size, 3, none⟩ = false := var_frozen o_r (by simp) 3 _ rfl
  have l_r := var_lt o_r
  go_wp2
  clear c_r0 f_r0 c_r1 f_r1 c_r2 f_r2 c_r3 f_r3 l_r
  obtain ⟨w6, hw6⟩ : ∃ y, y = ((((w5.setCell ⟨w.heap.size, 0, none⟩ (.int .i64 (1 + a))).setCell ⟨w.heap.size, 1, none⟩ (.int .i64 b)).setCell ⟨w.heap.size, 2, none⟩ (.int .i64 (1 + c))).setCell ⟨w.heap.size, 3, none⟩ (.int .i64 d)) := ⟨_, rfl⟩
  obtain ⟨o_new, tw6⟩ := var_some [.int .i64 (1 + a), .int .i64 b, .int .i64 (1 + c), .int .i64 d] 0 _ _ o_r (by simp)
  rw [show setAll w5 (w.heap.size) 0 [.int .i64 (1 + a), .int .i64 b, .int .i64 (1 + c), .int .i64 d] = w6 from hw6.symm] at o_new tw6
  replace o_r : Owns w6 _ (varD 61 4 [.int .i64 (1 + a), .int .i64 b, .int .i64 (1 + c), .int .i64 d]) _ _ := o_new
  clear o_new
  replace hG := Dv.grown_turned hG tw6 (fun b hb => by simp at hb; omega)
  replace C := Dv.cur_turned C tw6 (by omega) (by omega)
  have zw6 := tw6.2.2.2.1
  rw [← hw6]
  clear hw6
  have y0 : w6.cell? ⟨w.heap.size, 0, none⟩ = some (.int .i64 (1 + a)) := var_load o_r (by simp) 0 _ rfl
  have y1 : w6.cell? ⟨w.heap.size, 1, none⟩ = some (.int .i64 b) := var_load o_r (by simp) 1 _ rfl
  have y2 : w6.cell? ⟨w.heap.size, 2, none⟩ = some (.int .i64 (1 + c)) := var_load o_r (by simp) 2 _ rfl
  have y3 : w6.cell? ⟨w.heap.size, 3, none⟩ = some (.int .i64 d) := var_load o_r (by simp) 3 _ rfl
  refine bodyPost_ret (v := .agg #[.int .i64 (1 + a), .int .i64 b, .int .i64 (1 + c), .int .i64 d]) (by simp [results, Tryz.results147, go_sem, y0, y1, y2, y3]) rfl ?_
  exact ⟨⟨1 + a, b, 1 + c, d⟩, rfl, ⟨(show isI64 (1 + a) from ⟨by omega, by omega⟩), (show isI64 b from ⟨by omega, by omega⟩), (show isSeed (1 + c) from Or.inr ⟨by omega, by omega⟩), (show isI64 d from ⟨by omega, by omega⟩)⟩, C, hG⟩
set_option maxHeartbeats 3200000 in
theorem any_any (w : World) (B H0 : Nat) (C : IsCur w B H0) : Calls Tryz.prog 121 #[.pointer (some ⟨B, 0, none⟩)] w (DrawnK w B H0) := by
  have hB := C.lt
  have hH := C.low
  go_enter Tryz.func121, Tryz.ntmps121
  obtain ⟨w1, hw1⟩ : ∃ y, y = w.alloc (.cells #[.int .i64 0, .int .i64 0, .int .i64 0, .int .i64 0] 61) := ⟨_, rfl⟩
  have o_r := var_owns w 61 4 [.int .i64 0, .int .i64 0, .int .i64 0, .int .i64 0] rfl
  have bw1 : Below w.heap.size w w1 := hw1 ▸ (Below.refl _ _).alloc (Nat.le_refl _) _
  rw [← hw1] at o_r
  have sw1 : w1.heap.size = w.heap.size + 1 := by rw [hw1]; simp
  have gw1 : w.grownBy w1 (some B) := hw1 ▸ World.grownBy_alloc w _ _
  have zw1 : w.heap.size < w1.heap.size := by rw [hw1]; simp
  have n_r : w.heap.size ≠ B := by have := C.lt; have := C.low; omega
  have m_r : H0 ≤ w.heap.size := by have := C.lt; have := C.low; omega
  replace C : IsCur w1 B H0 := hw1 ▸ C.alloc _
  have hG := gw1
  go_wp2_with fail
  rw [← hw1]
  clear hw1 sw1
  (with_reducible refine (store_any _ _ H0 C).mono ?_); rintro e w2 ⟨x, rfl, ⟨hx1, hx2, hx3, hx4⟩, C, gw2⟩
  replace o_r := Dv.owns_drawn o_r gw2 (by omega)
  replace hG := grown_trans hG gw2
  have zw2 := gw2.size
  have c_r0 : w2.cell? ⟨w.heap.size, 0, none⟩ = some (.int .i64 0) := var_load o_r (by simp) 0 _ rfl
  have f_r0 : w2.frozen? ⟨w.heap.size, 0, none⟩ = false := var_frozen o_r (by simp) 0 _ rfl
  have c_r1 : w2.cell? ⟨w.heap.size, 1, none⟩ = some (.int .i64 0) := var_load o_r (by simp) 1 _ rfl
  have f_r1 : w2.frozen? ⟨w.heap.size, 1, none⟩ = false := var_frozen o_r (by simp) 1 _ rfl
  have c_r2 : w2.cell? ⟨w.heap.size, 2, none⟩ = some (.int .i64 0) := var_load o_r (by simp) 2 _ rfl
  have f_r2 : w2.frozen? ⟨w.heap.size, 2, none⟩ = false := var_frozen o_r (by simp) 2 _ rfl
  have c_r3 : w2.cell? ⟨w.heap.size, 3, none⟩ = some (.int .i64 0) := var_load o_r (by simp) 3 _ rfl
  have f_r3 : w2.frozen? ⟨w.heap.size, 3, none⟩ = false := var_frozen o_r (by simp) 3 _ rfl
  have l_r := var_lt o_r
  obtain ⟨w3, hw3⟩ : ∃ y, y = w2.alloc (.cells #[.int .i64 x.Vendor, .int .i64 x.Serial, .int .i64 x.Seed, .int .i64 x.Counter] 61) := ⟨_, rfl⟩
  have o_s := var_owns w2 61 4 [.int .i64 x.Vendor, .int .i64 x.Serial, .int .i64 x.Seed, .int .i64 x.Counter] rfl
  have bw3 : Below w2.heap.size w2 w3 := hw3 ▸ (Below.refl _ _).alloc (Nat.le_refl _) _
  rw [← hw3] at o_s
  have sw3 : w3.heap.size = w2.heap.size + 1 := by rw [hw3]; simp
  have gw3 : w2.grownBy w3 (some B) := hw3 ▸ World.grownBy_alloc w2 _ _
  have zw3 : w2.heap.size < w3.heap.size := by rw [hw3]; simp
  have n_s : w2.heap.size ≠ B := by have := C.lt; have := C.low; omega
  have m_s : H0 ≤ w2.heap.size := by have := C.lt; have := C.low; omega
  replace C : IsCur w3 B H0 := hw3 ▸ C.alloc _
  replace o_r := owns_below o_r bw3
  replace hG := grown_trans hG gw3
  go_wp2_with fail
  rw [← hw3]
  clear hw3 sw3
  (with_reducible refine (below_any _ _ H0 12 C).mono ?_); rintro e w4 ⟨q, rfl, ⟨hq0, hq1⟩, C, gw4⟩
  clear c_r0 f_r0 c_r1 f_r1 c_r2 f_r2 c_r3 f_r3 l_r
  replace o_r := Dv.owns_drawn o_r gw4 (by omega)
  replace o_s := Dv.owns_drawn o_s gw4 (by omega)
  replace hG := grown_trans hG gw4
  have zw4 := gw4.size
  clear hq1
  by_cases h0 : q = 0
  · subst h0
    have HL := Lib.hid (int_lit [0, 9, 10] 3 rfl w4 B H0 3 C (by simp) (by simp) isI64 (by simp [isI64]))
    have c_r0 : w4.cell? ⟨w.heap.size, 0, none⟩ = some (.int .i64 0) := var_load o_r (by simp) 0 _ rfl
    have f_r0 : w4.frozen? ⟨w.heap.size, 0, none⟩ = false := var_frozen o_r (by simp) 0 _ rfl
    have c_r1 : w4.cell? ⟨w.heap.size, 1, none⟩ = some (.int .i64 0) := var_load o_r (by simp) 1 _ rfl
    have f_r1 : w4.frozen? ⟨w.heap.size, 1, none⟩ = false := var_frozen o_r (by simp) 1 _ rfl
    have c_r2 : w4.cell? ⟨w.heap.size, 2, none⟩ = some (.int .i64 0) := var_load o_r (by simp) 2 _ rfl
    have f_r2 : w4.frozen? ⟨w.heap.size, 2, none⟩ = false := var_frozen o_r (by simp) 2 _ rfl
    have c_r3 : w4.cell? ⟨w.heap.size, 3, none⟩ = some (.int .i64 0) := var_load o_r (by simp) 3 _ rfl
    have f_r3 : w4.frozen? ⟨w.heap.size, 3, none⟩ = false := var_frozen o_r (by simp) 3 _ rfl
    have l_r := var_lt o_r
    have c_s0 : w4.cell? ⟨w2.heap.size, 0, none⟩ = some (.int .i64 x.Vendor) := var_load o_s (by simp) 0 _ rfl
    have f_s0 : w4.frozen? ⟨w2.heap.size, 0, none⟩ = false := var_frozen o_s (by simp) 0 _ rfl
    have c_s1 : w4.cell? ⟨w2.heap.size, 1, none⟩ = some (.int .i64 x.Serial) := var_load o_s (by simp) 1 _ rfl
    have f_s1 : w4.frozen? ⟨w2.heap.size, 1, none⟩ = false := var_frozen o_s (by simp) 1 _ rfl
    have c_s2 : w4.cell? ⟨w2.heap.size, 2, none⟩ = some (.int .i64 x.Seed) := var_load o_s (by simp) 2 _ rfl
    have f_s2 : w4.frozen? ⟨w2.heap.size, 2, none⟩ = false := var_frozen o_s (by simp) 2 _ rfl
    have c_s3 : w4.cell? ⟨w2.heap.size, 3, none⟩ = some (.int .i64 x.Counter) := var_load o_s (by simp) 3 _ rfl
    have f_s3 : w4.frozen? ⟨w2.heap.size, 3, none⟩ = false := var_frozen o_s (by simp) 3 _ rfl
    have l_s := var_lt o_s
    go_wp2_with fail
    (refine (HL.out).mono ?_); rintro e w5 ⟨u, rfl, hu, C, gw5⟩
    clear c_r0 f_r0 c_r1 f_r1 c_r2 f_r2 c_r3 f_r3 l_r c_s0 f_s0 c_s1 f_s1 c_s2 f_s2 c_s3 f_s3 l_s
    replace o_r := Dv.owns_drawn o_r gw5 (by omega)
    replace o_s := Dv.owns_drawn o_s gw5 (by omega)
    replace hG := grown_trans hG gw5
    have zw5 := gw5.size
    have c_r0 : w5.cell? ⟨w.heap.size, 0, none⟩ = some (.int .i64 0) := var_load o_r (by simp) 0 _ rfl
    have f_r0 : w5.frozen? ⟨w.heap.size, 0, none⟩ = false := var_frozen o_r (by simp) 0 _ rfl
    have c_r1 : w5.cell? ⟨w.heap.size, 1, none⟩ = some (.int .i64 0) := var_load o_r (by simp) 1 _ rfl
    have f_r1 : w5.frozen? ⟨w.heap.size, 1, none⟩ = false := var_frozen o_r (by simp) 1 _ rfl
    have c_r2 : w5.cell? ⟨w.heap.size, 2, none⟩ = some (.int .i64 0) := var_load o_r (by simp) 2 _ rfl
    have f_r2 : w5.frozen? ⟨w.heap.size, 2, none⟩ = false := var_frozen o_r (by simp) 2 _ rfl
    have c_r3 : w5.cell? ⟨w.heap.size, 3, none⟩ = some (.int .i64 0) := var_load o_r (by simp) 3 _ rfl
    have f_r3 : w5.frozen? ⟨w.heap.size, 3, none⟩ = false := var_frozen o_r (by simp) 3 _ rfl
    have l_r := var_lt o_r
    have c_s0 : w5.cell? ⟨w2.heap.size, 0, none⟩ = some (.int .i64 x.Vendor) := var_load o_s (by simp) 0 _ rfl
    have f_s0 : w5.frozen? ⟨w2.heap.size, 0, none⟩ = false := var_frozen o_s (by simp) 0 _ rfl
    have c_s1 : w5.cell? ⟨w2.heap.size, 1, none⟩ = some (.int .i64 x.Serial) := var_load o_s (by simp) 1 _ rfl
    have f_s1 : w5.frozen? ⟨w2.heap.size, 1, none⟩ = false := var_frozen o_s (by simp) 1 _ rfl
    have c_s2 : w5.cell? ⟨w2.heap.size, 2, none⟩ = some (.int .i64 x.Seed) := var_load o_s (by simp) 2 _ rfl
    have f_s2 : w5.frozen? ⟨w2.heap.size, 2, none⟩ = false := var_frozen o_s (by simp) 2 _ rfl
    have c_s3 : w5.cell? ⟨w2.heap.size, 3, none⟩ = some (.int .i64 x.Counter) := var_load o_s (by simp) 3 _ rfl
    have f_s3 : w5.frozen? ⟨w2.heap.size, 3, none⟩ = false := var_frozen o_s (by simp) 3 _ rfl
    have l_s := var_lt o_s
    go_wp2
    clear c_r0 f_r0 c_r1 f_r1 c_r2 f_r2 c_r3 f_r3 l_r c_s0 f_s0 c_s1 f_s1 c_s2 f_s2 c_s3 f_s3 l_s
    obtain ⟨w6, hw6⟩ : ∃ y, y = (w5.setCell ⟨w2.heap.size, 0, none⟩ (.int .i64 u)) := ⟨_, rfl⟩
    obtain ⟨o_new, tw6⟩ := var_some [.int .i64 u] 0 _ _ o_s (by simp)
    rw [show setAll w5 (w2.heap.size) 0 [.int .i64 u] = w6 from hw6.symm] at o_new tw6
    replace o_s : Owns w6 _ (varD 61 4 [.int .i64 u, .int .i64 x.Serial, .int .i64 x.Seed, .int .i64 x.Counter]) _ _ := o_new
    clear o_new
    replace o_r := owns_turned o_r tw6 (fun b hb hb2 => by simp at hb hb2; omega)
    replace hG := Dv.grown_turned hG tw6 (fun b hb => by simp at hb; omega)
    replace C := Dv.cur_turned C tw6 (by omega) (by omega)
    have zw6 := tw6.2.2.2.1
    rw [← hw6]
    clear hw6
    obtain ⟨w7, hw7⟩ : ∃ y, y = ((((w6.setCell ⟨w.heap.size, 0, none⟩ (.int .i64 u)).setCell ⟨w.heap.size, 1, none⟩ (.int .i64 x.Serial)).setCell ⟨w.heap.size, 2, none⟩ (.int .i64 x.Seed)).setCell ⟨w.heap.size, 3, none⟩ (.int .i64 x.Counter)) := ⟨_, rfl⟩
    obtain ⟨o_new, tw7⟩ := var_some [.int .i64 u, .int .i64 x.Serial, .int .i64 x.Seed, .int .i64 x.Counter] 0 _ _ o_r (by simp)
    rw [show setAll w6 (w.heap.size) 0 [.int .i64 u, .int .i64 x.Serial, .int .i64 x.Seed, .int .i64 x.Counter] = w7 from hw7.symm] at o_new tw7
    replace o_r : Owns w7 _ (varD 61 4 [.int .i64 u, .int .i64 x.Serial, .int .i64 x.Seed, .int .i64 x.Counter]) _ _ := o_new
    clear o_new
    replace o_s := owns_turned o_s tw7 (fun b hb hb2 => by simp at hb hb2; omega)
    replace hG := Dv.grown_turned hG tw7 (fun b hb => by simp at hb; omega)
    replace C := Dv.cur_turned C tw7 (by omega) (by omega)
    have zw7 := tw7.2.2.2.1
    rw [← hw7]
    clear hw7
    have y0 : w7.cell? ⟨w.heap.size, 0, none⟩ = some (.int .i64 u) := var_load o_r (by simp) 0 _ rfl
    have y1 : w7.cell? ⟨w.heap.size, 1, none⟩ = some (.int .i64 x.Serial) := var_load o_r (by simp) 1 _ rfl
    have y2 : w7.cell? ⟨w.heap.size, 2, none⟩ = some (.int .i64 x.Seed) := var_load o_r (by simp) 2 _ rfl
    have y3 : w7.cell? ⟨w.heap.size, 3, none⟩ = some (.int .i64 x.Counter) := var_load o_r (by simp) 3 _ rfl
    refine bodyPost_ret (v := .agg #[.int .i64 u, .int .i64 x.Serial, .int .i64 x.Seed, .int .i64 x.Counter]) (by simp [results, Tryz.results121, go_sem, y0, y1, y2, y3]) rfl ?_
    exact ⟨⟨u, x.Serial, x.Seed, x.Counter⟩, rfl, ⟨hu, hx2, hx3, hx4⟩, C, hG⟩
  · have e0 : (q == 0) = false := by simpa using h0
    by_cases h1 : q = 1
    · subst h1
      have HL := Lib.hid (int_lit [-1, 1000000, 1000001] 3 rfl w4 B H0 3 C (by simp) (by simp) isI64 (by simp [isI64]))
      have c_r0 : w4.cell? ⟨w.heap.size, 0, none⟩ = some (.int .i64 0) := var_load o_r (by simp) 0 _ rfl
      have f_r0 : w4.frozen? ⟨w.heap.size, 0, none⟩ = false := var_frozen o_r (by simp) 0 _ rfl
      have c_r1 : w4.cell? ⟨w.heap.size, 1, none⟩ = some (.int .i64 0) := var_load o_r (by simp) 1 _ rfl
      have f_r1 : w4.frozen? ⟨w.heap.size, 1, none⟩ = false := var_frozen o_r (by simp) 1 _ rfl
      have c_r2 : w4.cell? ⟨w.heap.size, 2, none⟩ = some (.int .i64 0) := var_load o_r (by simp) 2 _ rfl
      have f_r2 : w4.frozen? ⟨w.heap.size, 2, none⟩ = false := var_frozen o_r (by simp) 2 _ rfl
      have c_r3 : w4.cell? ⟨w.heap.size, 3, none⟩ = some (.int .i64 0) := var_load o_r (by simp) 3 _ rfl
      have f_r3 : w4.frozen? ⟨w.heap.size, 3, none⟩ = false := var_frozen o_r (by simp) 3 _ rfl
      have l_r := var_lt o_r
      have c_s0 : w4.cell? ⟨w2.heap.size, 0, none⟩ = some (.int .i64 x.Vendor) := var_load o_s (by simp) 0 _ rfl
      have f_s0 : w4.frozen? ⟨w2.heap.size, 0, none⟩ = false := var_frozen o_s (by simp) 0 _ rfl
      have c_s1 : w4.cell? ⟨w2.heap.size, 1, none⟩ = some (.int .i64 x.Serial) := var_load o_s (by simp) 1 _ rfl
      have f_s1 : w4.frozen? ⟨w2.heap.size, 1, none⟩ = false := var_frozen o_s (by simp) 1 _ rfl
      have c_s2 : w4.cell? ⟨w2.heap.size, 2, none⟩ = some (.int .i64 x.Seed) := var_load o_s (by simp) 2 _ rfl
      have f_s2 : w4.frozen? ⟨w2.heap.size, 2, none⟩ = false := var_frozen o_s (by simp) 2 _ rfl
      have c_s3 : w4.cell? ⟨w2.heap.size, 3, none⟩ = some (.int .i64 x.Counter) := var_load o_s (by simp) 3 _ rfl
      have f_s3 : w4.frozen? ⟨w2.heap.size, 3, none⟩ = false := var_frozen o_s (by simp) 3 _ rfl
      have l_s := var_lt o_s
      go_wp2_with fail
      (refine (HL.out).mono ?_); rintro e w5 ⟨u, rfl, hu, C, gw5⟩
      clear c_r0 f_r0 c_r1 f_r1 c_r2 f_r2 c_r3 f_r3 l_r c_s0 f_s0 c_s1 f_s1 c_s2 f_s2 c_s3 f_s3 l_s
      replace o_r := Dv.owns_drawn o_r gw5 (by omega)
      replace o_s := Dv.owns_drawn o_s gw5 (by omega)
      replace hG := grown_trans hG gw5
      have zw5 := gw5.size
      have c_r0 : w5.cell? ⟨w.heap.size, 0, none⟩ = some (.int .i64 0) := var_load o_r (by simp) 0 _ rfl
      have f_r0 : w5.frozen? ⟨w.heap.size, 0, none⟩ = false := var_frozen o_r (by simp) 0 _ rfl
      have c_r1 : w5.cell? ⟨w.heap.size, 1, none⟩ = some (.int .i64 0) := var_load o_r (by simp) 1 _ rfl
      have f_r1 : w5.frozen? ⟨w.heap.size, 1, none⟩ = false := var_frozen o_r (by simp) 1 _ rfl
      have c_r2 : w5.cell? ⟨w.heap.size, 2, none⟩ = some (.int .i64 0) := var_load o_r (by simp) 2 _ rfl
      have f_r2 : w5.frozen? ⟨w.heap.size, 2, none⟩ = false := var_frozen o_r (by simp) 2 _ rfl
      have c_r3 : w5.cell? ⟨w.heap.size, 3, none⟩ = some (.int .i64 0) := var_load o_r (by simp) 3 _ rfl
      have f_r3 : w5.frozen? ⟨w.heap.size, 3, none⟩ = false := var_frozen o_r (by simp) 3 _ rfl
      have l_r := var_lt o_r
      have c_s0 : w5.cell? ⟨w2.heap.size, 0, none⟩ = some (.int .i64 x.Vendor) := var_load o_s (by simp) 0 _ rfl
      have f_s0 : w5.frozen? ⟨w2.heap.size, 0, none⟩ = false := var_frozen o_s (by simp) 0 _ rfl
      have c_s1 : w5.cell? ⟨w2.heap.size, 1, none⟩ = some (.int .i64 x.Serial) := var_load o_s (by simp) 1 _ rfl
      have f_s1 : w5.frozen? ⟨w2.heap.size, 1, none⟩ = false := var_frozen o_s (by simp) 1 _ rfl
      have c_s2 : w5.cell? ⟨w2.heap.size, 2, none⟩ = some (.int .i64 x.Seed) := var_load o_s (by simp) 2 _ rfl
      have f_s2 : w5.frozen? ⟨w2.heap.size, 2, none⟩ = false := var_frozen o_s (by simp) 2 _ rfl
      have c_s3 : w5.cell? ⟨w2.heap.size, 3, none⟩ = some (.int .i64 x.Counter) := var_load o_s (by simp) 3 _ rfl
      have f_s3 : w5.frozen? ⟨w2.heap.size, 3, none⟩ = false := var_frozen o_s (by simp) 3 _ rfl
      have l_s := var_lt o_s
      go_wp2
      clear c_r0 f_r0 c_r1 f_r1 c_r2 f_r2 c_r3 f_r3 l_r c_s0 f_s0 c_s1 f_s1 c_s2 f_s2 c_s3 f_s3 l_s
      obtain ⟨w6, hw6⟩ : ∃ y, y = (w5.setCell ⟨w2.heap.size, 1, none⟩ (.int .i64 u)) := ⟨_, rfl⟩
      obtain ⟨o_new, tw6⟩ := var_some [.int .i64 u] 1 _ _ o_s (by simp)
      rw [show setAll w5 (w2.heap.size) 1 [.int .i64 u] = w6 from hw6.symm] at o_new tw6
      replace o_s : Owns w6 _ (varD 61 4 [.int .i64 x.Vendor, .int .i64 u, .int .i64 x.Seed, .int .i64 x.Counter]) _ _ := o_new
      clear o_new
      replace o_r := owns_turned o_r tw6 (fun b hb hb2 => by simp at hb hb2; omega)
      replace hG := Dv.grown_turned hG tw6 (fun b hb => by simp at hb; omega)
      replace C := Dv.cur_turned C tw6 (by omega) (by omega)
      have zw6 := tw6.2.2.2.1
      rw [← hw6]
      clear hw6
      obtain ⟨w7, hw7⟩ : ∃ y, y = ((((w6.setCell ⟨w.heap.size, 0, none⟩ (.int .i64 x.Vendor)).setCell ⟨w.heap.size, 1, none⟩ (.int .i64 u)).setCell ⟨w.heap.size, 2, none⟩ (.int .i64 x.Seed)).setCell ⟨w.heap.size, 3, none⟩ (.int .i64 x.Counter)) := ⟨_, rfl⟩
      obtain ⟨o_new, tw7⟩ := var_some [.int .i64 x.Vendor, .int .i64 u, .int .i64 x.Seed, .int .i64 x.Counter] 0 _ _ o_r (by simp)
      rw [show setAll w6 (w.heap.size) 0 [.int .i64 x.Vendor, .int .i64 u, .int .i64 x.Seed, .int .i64 x.Counter] = w7 from hw7.symm] at o_new tw7
      replace o_r : Owns w7 _ (varD 61 4 [.int .i64 x.Vendor, .int .i64 u, .int .i64 x.Seed, .int .i64 x.Counter]) _ _ := o_new
      clear o_new
      replace o_s := owns_turned o_s tw7 (fun b hb hb2 => by simp at hb hb2; omega)
      replace hG := Dv.grown_turned hG tw7 (fun b hb => by simp at hb; omega)
      replace C := Dv.cur_turned C tw7 (by omega) (by omega)
      have zw7 := tw7.2.2.2.1
      rw [← hw7]
      clear hw7
      have y0 : w7.cell? ⟨w.heap.size, 0, none⟩ = some (.int .i64 x.Vendor) := var_load o_r (by simp) 0 _ rfl
      have y1 : w7.cell? ⟨w.heap.size, 1, none⟩ = some (.int .i64 u) := var_load o_r (by simp) 1 _ rfl
      have y2 : w7.cell? ⟨w.heap.size, 2, none⟩ = some (.int .i64 x.Seed) := var_load o_r (by simp) 2 _ rfl
      have y3 : w7.cell? ⟨w.heap.size, 3, none⟩ = some (.int .i64 x.Counter) := var_load o_r (by simp) 3 _ rfl
      refine bodyPost_ret (v := .agg #[.int .i64 x.Vendor, .int .i64 u, .int .i64 x.Seed, .int .i64 x.Counter]) (by simp [results, Tryz.results121, go_sem, y0, y1, y2, y3]) rfl ?_
      exact ⟨⟨x.Vendor, u, x.Seed, x.Counter⟩, rfl, ⟨hx1, hu, hx3, hx4⟩, C, hG⟩
    · have e1 : (q == 1) = false := by simpa using h1
      by_cases h2 : q = 2
      · subst h2
        have c_r0 : w4.cell? ⟨w.heap.size, 0, none⟩ = some (.int .i64 0) := var_load o_r (by simp) 0 _ rfl
        have f_r0 : w4.frozen? ⟨w.heap.size, 0, none⟩ = false := var_frozen o_r (by simp) 0 _ rfl
        have c_r1 : w4.cell? ⟨w.heap.size, 1, none⟩ = some (.int .i64 0) := var_load o_r (by simp) 1 _ rfl
        have f_r1 : w4.frozen? ⟨w.heap.size, 1, none⟩ = false := var_frozen o_r (by simp) 1 _ rfl
        have c_r2 : w4.cell? ⟨w.heap.size, 2, none⟩ = some (.int .i64 0) := var_load o_r (by simp) 2 _ rfl
        have f_r2 : w4.frozen? ⟨w.heap.size, 2, none⟩ = false := var_frozen o_r (by simp) 2 _ rfl
        have c_r3 : w4.cell? ⟨w.heap.size, 3, none⟩ = some (.int .i64 0) := var_load o_r (by simp) 3 _ rfl
        have f_r3 : w4.frozen? ⟨w.heap.size, 3, none⟩ = false := var_frozen o_r (by simp) 3 _ rfl
        have l_r := var_lt o_r
        have c_s0 : w4.cell? ⟨w2.heap.size, 0, none⟩ = some (.int .i64 x.Vendor) := var_load o_s (by simp) 0 _ rfl
        have f_s0 : w4.frozen? ⟨w2.heap.size, 0, none⟩ = false := var_frozen o_s (by simp) 0 _ rfl
        have c_s1 : w4.cell? ⟨w2.heap.size, 1, none⟩ = some (.int .i64 x.Serial) := var_load o_s (by simp) 1 _ rfl
        have f_s1 : w4.frozen? ⟨w2.heap.size, 1, none⟩ = false := var_frozen o_s (by simp) 1 _ rfl
        have c_s2 : w4.cell? ⟨w2.heap.size, 2, none⟩ = some (.int .i64 x.Seed) := var_load o_s (by simp) 2 _ rfl
        have f_s2 : w4.frozen? ⟨w2.heap.size, 2, none⟩ = false := var_frozen o_s (by simp) 2 _ rfl
        have c_s3 : w4.cell? ⟨w2.heap.size, 3, none⟩ = some (.int .i64 x.Counter) := var_load o_s (by simp) 3 _ rfl
        have f_s3 : w4.frozen? ⟨w2.heap.size, 3, none⟩ = false := var_frozen o_s (by simp) 3 _ rfl
        have l_s := var_lt o_s
        go_wp2_with fail
        (with_reducible refine (key_any _ _ H0 C).mono ?_); rintro e w5 ⟨u, rfl, hu, C, gw5⟩
        clear c_r0 f_r0 c_r1 f_r1 c_r2 f_r2 c_r3 f_r3 l_r c_s0 f_s0 c_s1 f_s1 c_s2 f_s2 c_s3 f_s3 l_s
        replace o_r := Dv.owns_drawn o_r gw5 (by omega)
        replace o_s := Dv.owns_drawn o_s gw5 (by omega)
        replace hG := grown_trans hG gw5
        have zw5 := gw5.size
        have c_r0 : w5.cell? ⟨w.heap.size, 0, none⟩ = some (.int .i64 0) := var_load o_r (by simp) 0 _ rfl
        have f_r0 : w5.frozen? ⟨w.heap.size, 0, none⟩ = false := var_frozen o_r (by simp) 0 _ rfl
        have c_r1 : w5.cell? ⟨w.heap.size, 1, none⟩ = some (.int .i64 0) := var_load o_r (by simp) 1 _ rfl
        have f_r1 : w5.frozen? ⟨w.heap.size, 1, none⟩ = false := var_frozen o_r (by simp) 1 _ rfl
        have c_r2 : w5.cell? ⟨w.heap.size, 2, none⟩ = some (.int .i64 0) := var_load o_r (by simp) 2 _ rfl
        have f_r2 : w5.frozen? ⟨w.heap.size, 2, none⟩ = false := var_frozen o_r (by simp) 2 _ rfl
        have c_r3 : w5.cell? ⟨w.heap.size, 3, none⟩ = some (.int .i64 0) := var_load o_r (by simp) 3 _ rfl
        have f_r3 : w5.frozen? ⟨w.heap.size, 3, none⟩ = false := var_frozen o_r (by simp) 3 _ rfl
        have l_r := var_lt o_r
        have c_s0 : w5.cell? ⟨w2.heap.size, 0, none⟩ = some (.int .i64 x.Vendor) := var_load o_s (by simp) 0 _ rfl
        have f_s0 : w5.frozen? ⟨w2.heap.size, 0, none⟩ = false := var_frozen o_s (by simp) 0 _ rfl
        have c_s1 : w5.cell? ⟨w2.heap.size, 1, none⟩ = some (.int .i64 x.Serial) := var_load o_s (by simp) 1 _ rfl
        have f_s1 : w5.frozen? ⟨w2.heap.size, 1, none⟩ = false := var_frozen o_s (by simp) 1 _ rfl
        have c_s2 : w5.cell? ⟨w2.heap.size, 2, none⟩ = some (.int .i64 x.Seed) := var_load o_s (by simp) 2 _ rfl
        have f_s2 : w5.frozen? ⟨w2.heap.size, 2, none⟩ = false := var_frozen o_s (by simp) 2 _ rfl
        have c_s3 : w5.cell? ⟨w2.heap.size, 3, none⟩ = some (.int .i64 x.Counter) := var_load o_s (by simp) 3 _ rfl
        have f_s3 : w5.frozen? ⟨w2.heap.size, 3, none⟩ = false := var_frozen o_s (by simp) 3 _ rfl
        have l_s := var_lt o_s
        go_wp2
        clear c_r0 f_r0 c_r1 f_r1 c_r2 f_r2 c_r3 f_r3 l_r c_s0 f_s0 c_s1 f_s1 c_s2 f_s2 c_s3 f_s3 l_s
        obtain ⟨w6, hw6⟩ : ∃ y, y = (w5.setCell ⟨w2.heap.size, 2, none⟩ (.int .i64 u)) := ⟨_, rfl⟩
        obtain ⟨o_new, tw6⟩ := var_some [.int .i64 u] 2 _ _ o_s (by simp)
        rw [show setAll w5 (w2.heap.size) 2 [.int .i64 u] = w6 from hw6.symm] at o_new tw6
        replace o_s : Owns w6 _ (varD 61 4 [.int .i64 x.Vendor, .int .i64 x.Serial, .int .i64 u, .int .i64 x.Counter]) _ _ := o_new
        clear o_new
        replace o_r := owns_turned o_r tw6 (fun b hb hb2 => by simp at hb hb2; omega)
        replace hG := Dv.grown_turned hG tw6 (fun b hb => by simp at hb; omega)
        replace C := Dv.cur_turned C tw6 (by omega) (by omega)
        have zw6 := tw6.2.2.2.1
        rw [← hw6]
        clear hw6
        obtain ⟨w7, hw7⟩ : ∃ y, y = ((((w6.setCell ⟨w.heap.size, 0, none⟩ (.int .i64 x.Vendor)).setCell ⟨w.heap.size, 1, none⟩ (.int .i64 x.Serial)).setCell ⟨w.heap.size, 2, none⟩ (.int .i64 u)).setCell ⟨w.heap.size, 3, none⟩ (.int .i64 x.Counter)) := ⟨_, rfl⟩
        obtain ⟨o_new, tw7⟩ := var_some [.int .i64 x.Vendor, .int .i64 x.Serial, .int .i64 u, .int .i64 x.Counter] 0 _ _ o_r (by simp)
        rw [show setAll w6 (w.heap.size) 0 [.int .i64 x.Vendor, .int .i64 x.Serial, .int .i64 u, .int .i64 x.Counter] = w7 from hw7.symm] at o_new tw7
        replace o_r : Owns w7 _ (varD 61 4 [.int .i64 x.Vendor, .int .i64 x.Serial, .int .i64 u, .int .i64 x.Counter]) _ _ := o_new
        clear o_new
        replace o_s := owns_turned o_s tw7 (fun b hb hb2 => by simp at hb hb2; omega)
        replace hG := Dv.grown_turned hG tw7 (fun b hb => by simp at hb; omega)
        replace C := Dv.cur_turned C tw7 (by omega) (by omega)
        have zw7 := tw7.2.2.2.1
        rw [← hw7]
        clear hw7
        have y0 : w7.cell? ⟨w.heap.size, 0, none⟩ = some (.int .i64 x.Vendor) := var_load o_r (by simp) 0 _ rfl
        have y1 : w7.cell? ⟨w.heap.size, 1, none⟩ = some (.int .i64 x.Serial) := var_load o_r (by simp) 1 _ rfl
        have y2 : w7.cell? ⟨w.heap.size, 2, none⟩ = some (.int .i64 u) := var_load o_r (by simp) 2 _ rfl
        have y3 : w7.cell? ⟨w.heap.size, 3, none⟩ = some (.int .i64 x.Counter) := var_load o_r (by simp) 3 _ rfl
        refine bodyPost_ret (v := .agg #[.int .i64 x.Vendor, .int .i64 x.Serial, .int .i64 u, .int .i64 x.Counter]) (by simp [results, Tryz.results121, go_sem, y0, y1, y2, y3]) rfl ?_
        exact ⟨⟨x.Vendor, x.Serial, u, x.Counter⟩, rfl, ⟨hx1, hx2, hu, hx4⟩, C, hG⟩
      · have e2 : (q == 2) = false := by simpa using h2
        by_cases h3 : q = 3
        · subst h3
          have HL := Lib.hid (int_lit [-1, 999999, 1000000, 1000001] 4 rfl w4 B H0 3 C (by simp) (by simp) isI64 (by simp [isI64]))
          have c_r0 : w4.cell? ⟨w.heap.size, 0, none⟩ = some (.int .i64 0) := var_load o_r (by simp) 0 _ rfl
          have f_r0 : w4.frozen? ⟨w.heap.size, 0, none⟩ = false := var_frozen o_r (by simp) 0 _ rfl
          have c_r1 : w4.cell? ⟨w.heap.size, 1, none⟩ = some (.int .i64 0) := var_load o_r (by simp) 1 _ rfl
          have f_r1 : w4.frozen? ⟨w.heap.size, 1, none⟩ = false := var_frozen o_r (by simp) 1 _ rfl
          have c_r2 : w4.cell? ⟨w.heap.size, 2, none⟩ = some (.int .i64 0) := var_load o_r (by simp) 2 _ rfl
          have f_r2 : w4.frozen? ⟨w.heap.size, 2, none⟩ = false := var_frozen o_r (by simp) 2 _ rfl
          have c_r3 : w4.cell? ⟨w.heap.size, 3, none⟩ = some (.int .i64 0) := var_load o_r (by simp) 3 _ rfl
          have f_r3 : w4.frozen? ⟨w.heap.size, 3, none⟩ = false := var_frozen o_r (by simp) 3 _ rfl
          have l_r := var_lt o_r
          have c_s0 : w4.cell? ⟨w2.heap.size, 0, none⟩ = some (.int .i64 x.Vendor) := var_load o_s (by simp) 0 _ rfl
          have f_s0 : w4.frozen? ⟨w2.heap.size, 0, none⟩ = false := var_frozen o_s (by simp) 0 _ rfl
          have c_s1 : w4.cell? ⟨w2.heap.size, 1, none⟩ = some (.int .i64 x.Serial) := var_load o_s (by simp) 1 _ rfl
          have f_s1 : w4.frozen? ⟨w2.heap.size, 1, none⟩ = false := var_frozen o_s (by simp) 1 _ rfl
          have c_s2 : w4.cell? ⟨w2.heap.size, 2, none⟩ = some (.int .i64 x.Seed) := var_load o_s (by simp) 2 _ rfl
          have f_s2 : w4.frozen? ⟨w2.heap.size, 2, none⟩ = false := var_frozen o_s (by simp) 2 _ rfl
          have c_s3 : w4.cell? ⟨w2.heap.size, 3, none⟩ = some (.int .i64 x.Counter) := var_load o_s (by simp) 3 _ rfl
          have f_s3 : w4.frozen? ⟨w2.heap.size, 3, none⟩ = false := var_frozen o_s (by simp) 3 _ rfl
          have l_s := var_lt o_s
          go_wp2_with fail
          (refine (HL.out).mono ?_); rintro e w5 ⟨u, rfl, hu, C, gw5⟩
          clear c_r0 f_r0 c_r1 f_r1 c_r2 f_r2 c_r3 f_r3 l_r c_s0 f_s0 c_s1 f_s1 c_s2 f_s2 c_s3 f_s3 l_s
          replace o_r := Dv.owns_drawn o_r gw5 (by omega)
          replace o_s := Dv.owns_drawn o_s gw5 (by omega)
          replace hG := grown_trans hG gw5
          have zw5 := gw5.size
          have c_r0 : w5.cell? ⟨w.heap.size, 0, none⟩ = some (.int .i64 0) := var_load o_r (by simp) 0 _ rfl
          have f_r0 : w5.frozen? ⟨w.heap.size, 0, none⟩ = false := var_frozen o_r (by simp) 0 _ rfl
          have c_r1 : w5.cell? ⟨w.heap.size, 1, none⟩ = some (.int .i64 0) := var_load o_r (by simp) 1 _ rfl
          have f_r1 : w5.frozen? ⟨w.heap.size, 1, none⟩ = false := var_frozen o_r (by simp) 1 _ rfl
          have c_r2 : w5.cell? ⟨w.heap.size, 2, none⟩ = some (.int .i64 0) := var_load o_r (by simp) 2 _ rfl
          have f_r2 : w5.frozen? ⟨w.heap.size, 2, none⟩ = false := var_frozen o_r (by simp) 2 _ rfl
          have c_r3 : w5.cell? ⟨w.heap.size, 3, none⟩ = some (.int .i64 0) := var_load o_r (by simp) 3 _ rfl
          have f_r3 : w5.frozen? ⟨w.heap.size, 3, none⟩ = false := var_frozen o_r (by simp) 3 _ rfl
          have l_r := var_lt o_r
          have c_s0 : w5.cell? ⟨w2.heap.size, 0, none⟩ = some (.int .i64 x.Vendor) := var_load o_s (by simp) 0 _ rfl
          have f_s0 : w5.frozen? ⟨w2.heap.size, 0, none⟩ = false := var_frozen o_s (by simp) 0 _ rfl
          have c_s1 : w5.cell? ⟨w2.heap.size, 1, none⟩ = some (.int .i64 x.Serial) := var_load o_s (by simp) 1 _ rfl
          have f_s1 : w5.frozen? ⟨w2.heap.size, 1, none⟩ = false := var_frozen o_s (by simp) 1 _ rfl
          have c_s2 : w5.cell? ⟨w2.heap.size, 2, none⟩ = some (.int .i64 x.Seed) := var_load o_s (by simp) 2 _ rfl
          have f_s2 : w5.frozen? ⟨w2.heap.size, 2, none⟩ = false := var_frozen o_s (by simp) 2 _ rfl
          have c_s3 : w5.cell? ⟨w2.heap.size, 3, none⟩ = some (.int .i64 x.Counter) := var_load o_s (by simp) 3 _ rfl
          have f_s3 : w5.frozen? ⟨w2.heap.size, 3, none⟩ = false := var_frozen o_s (by simp) 3 _ rfl
          have l_s := var_lt o_s
          go_wp2
          clear c_r0 f_r0 c_r1 f_r1 c_r2 f_r2 c_r3 f_r3 l_r c_s0 f_s0 c_s1 f_s1 c_s2 f_s2 c_s3 f_s3 l_s
          obtain ⟨w6, hw6⟩ : ∃ y, y = (w5.setCell ⟨w2.heap.size, 3, none⟩ (.int .i64 u)) := ⟨_, rfl⟩
          obtain ⟨o_new, tw6⟩ := var_some [.int .i64 u] 3 _ _ o_s (by simp)
          rw [show setAll w5 (w2.heap.size) 3 [.int .i64 u] = w6 from hw6.symm] at o_new tw6
          replace o_s : Owns w6 _ (varD 61 4 [.int .i64 x.Vendor, .int .i64 x.Serial, .int .i64 x.Seed, .int .i64 u]) _ _ := o_new
          clear o_new
          replace o_r := owns_turned o_r tw6 (fun b hb hb2 => by simp at hb hb2; omega)
          replace hG := Dv.grown_turned hG tw6 (fun b hb => by simp at hb; omega)
          replace C := Dv.cur_turned C tw6 (by omega) (by omega)
          have zw6 := tw6.2.2.2.1
          rw [← hw6]
          clear hw6
          obtain ⟨w7, hw7⟩ : ∃ y, y = ((((w6.setCell ⟨w.heap.size, 0, none⟩ (.int .i64 x.Vendor)).setCell ⟨w.heap.size, 1, none⟩ (.int .i64 x.Serial)).setCell ⟨w.heap.size, 2, none⟩ (.int .i64 x.Seed)).setCell ⟨w.heap.size, 3, none⟩ (.int .i64 u)) := ⟨_, rfl⟩
          obtain ⟨o_new, tw7⟩ := var_some [.int .i64 x.Vendor, .int .i64 x.Serial, .int .i64 x.Seed, .int .i64 u] 0 _ _ o_r (by simp)
          rw [show setAll w6 (w.heap.size) 0 [.int .i64 x.Vendor, .int .i64 x.Serial, .int .i64 x.Seed, .int .i64 u] = w7 from hw7.symm] at o_new tw7
          replace o_r : Owns w7 _ (varD 61 4 [.int .i64 x.Vendor, .int .i64 x.Serial, .int .i64 x.Seed, .int .i64 u]) _ _ := o_new
          clear o_new
          replace o_s := owns_turned o_s tw7 (fun b hb hb2 => by simp at hb hb2; omega)
          replace hG := Dv.grown_turned hG tw7 (fun b hb => by simp at hb; omega)
          replace C := Dv.cur_turned C tw7 (by omega) (by omega)
          have zw7 := tw7.2.2.2.1
          rw [← hw7]
          clear hw7
          have y0 : w7.cell? ⟨w.heap.size, 0, none⟩ = some (.int .i64 x.Vendor) := var_load o_r (by simp) 0 _ rfl
          have y1 : w7.cell? ⟨w.heap.size, 1, none⟩ = some (.int .i64 x.Serial) := var_load o_r (by simp) 1 _ rfl
          have y2 : w7.cell? ⟨w.heap.size, 2, none⟩ = some (.int .i64 x.Seed) := var_load o_r (by simp) 2 _ rfl
          have y3 : w7.cell? ⟨w.heap.size, 3, none⟩ = some (.int .i64 u) := var_load o_r (by simp) 3 _ rfl
          refine bodyPost_ret (v := .agg #[.int .i64 x.Vendor, .int .i64 x.Serial, .int .i64 x.Seed, .int .i64 u]) (by simp [results, Tryz.results121, go_sem, y0, y1, y2, y3]) rfl ?_
          exact ⟨⟨x.Vendor, x.Serial, x.Seed, u⟩, rfl, ⟨hx1, hx2, hx3, hu⟩, C, hG⟩
        · have e3 : (q == 3) = false := by simpa using h3
          have c_r0 : w4.cell? ⟨w.heap.size, 0, none⟩ = some (.int .i64 0) := var_load o_r (by simp) 0 _ rfl
          have f_r0 : w4.frozen? ⟨w.heap.size, 0, none⟩ = false := var_frozen o_r (by simp) 0 _ rfl
          have c_r1 : w4.cell? ⟨w.heap.size, 1, none⟩ = some (.int .i64 0) := var_load o_r (by simp) 1 _ rfl
          have f_r1 : w4.frozen? ⟨w.heap.size, 1, none⟩ = false := var_frozen o_r (by simp) 1 _ rfl
          have c_r2 : w4.cell? ⟨w.heap.size, 2, none⟩ = some (.int .i64 0) := var_load o_r (by simp) 2 _ rfl
          have f_r2 : w4.frozen? ⟨w.heap.size, 2, none⟩ = false := var_frozen o_r (by simp) 2 _ rfl
          have c_r3 : w4.cell? ⟨w.heap.size, 3, none⟩ = some (.int .i64 0) := var_load o_r (by simp) 3 _ rfl
          have f_r3 : w4.frozen? ⟨w.heap.size, 3, none⟩ = false := var_frozen o_r (by simp) 3 _ rfl
          have l_r := var_lt o_r
          have c_s0 : w4.cell? ⟨w2.heap.size, 0, none⟩ = some (.int .i64 x.Vendor) := var_load o_s (by simp) 0 _ rfl
          have f_s0 : w4.frozen? ⟨w2.heap.size, 0, none⟩ = false := var_frozen o_s (by simp) 0 _ rfl
          have c_s1 : w4.cell? ⟨w2.heap.size, 1, none⟩ = some (.int .i64 x.Serial) := var_load o_s (by simp) 1 _ rfl
          have f_s1 : w4.frozen? ⟨w2.heap.size, 1, none⟩ = false := var_frozen o_s (by simp) 1 _ rfl
          have c_s2 : w4.cell? ⟨w2.heap.size, 2, none⟩ = some (.int .i64 x.Seed) := var_load o_s (by simp) 2 _ rfl
          have f_s2 : w4.frozen? ⟨w2.heap.size, 2, none⟩ = false := var_frozen o_s (by simp) 2 _ rfl
          have c_s3 : w4.cell? ⟨w2.heap.size, 3, none⟩ = some (.int .i64 x.Counter) := var_load o_s (by simp) 3 _ rfl
          have f_s3 : w4.frozen? ⟨w2.heap.size, 3, none⟩ = false := var_frozen o_s (by simp) 3 _ rfl
          have l_s := var_lt o_s
          go_wp2
          clear c_r0 f_r0 c_r1 f_r1 c_r2 f_r2 c_r3 f_r3 l_r c_s0 f_s0 c_s1 f_s1 c_s2 f_s2 c_s3 f_s3 l_s
          obtain ⟨w5, hw5⟩ : ∃ y, y = ((((w4.setCell ⟨w.heap.size, 0, none⟩ (.int .i64 x.Vendor)).setCell ⟨w.heap.size, 1, none⟩ (.int .i64 x.Serial)).setCell ⟨w.heap.size, 2, none⟩ (.int .i64 x.Seed)).setCell ⟨w.heap.size, 3, none⟩ (.int .i64 x.Counter)) := ⟨_, rfl⟩
          obtain ⟨o_new, tw5⟩ := var_some [.int .i64 x.Vendor, .int .i64 x.Serial, .int .i64 x.Seed, .int .i64 x.Counter] 0 _ _ o_r (by simp)
          rw [show setAll w4 (w.heap.size) 0 [.int .i64 x.Vendor, .int .i64 x.Serial, .int .i64 x.Seed, .int .i64 x.Counter] = w5 from hw5.symm] at o_new tw5
          replace o_r : Owns w5 _ (varD 61 4 [.int .i64 x.Vendor, .int .i64 x.Serial, .int .i64 x.Seed, .int .i64 x.Counter]) _ _ := o_new
          clear o_new
          replace o_s := owns_turned o_s tw5 (fun b hb hb2 => by simp at hb hb2; omega)
          replace hG := Dv.grown_turned hG tw5 (fun b hb => by simp at hb; omega)
          replace C := Dv.cur_turned C tw5 (by omega) (by omega)
          have zw5 := tw5.2.2.2.1
          rw [← hw5]
          clear hw5
          have y0 : w5.cell? ⟨w.heap.size, 0, none⟩ = some (.int .i64 x.Vendor) := var_load o_r (by simp) 0 _ rfl
          have y1 : w5.cell? ⟨w.heap.size, 1, none⟩ = some (.int .i64 x.Serial) := var_load o_r (by simp) 1 _ rfl
          have y2 : w5.cell? ⟨w.heap.size, 2, none⟩ = some (.int .i64 x.Seed) := var_load o_r (by simp) 2 _ rfl
          have y3 : w5.cell? ⟨w.heap.size, 3, none⟩ = some (.int .i64 x.Counter) := var_load o_r (by simp) 3 _ rfl
          refine bodyPost_ret (v := .agg #[.int .i64 x.Vendor, .int .i64 x.Serial, .int .i64 x.Seed, .int .i64 x.Counter]) (by simp [results, Tryz.results121, go_sem, y0, y1, y2, y3]) rfl ?_
          exact ⟨⟨x.Vendor, x.Serial, x.Seed, x.Counter⟩, rfl, ⟨hx1, hx2, hx3, hx4⟩, C, hG⟩
end Go.Proofs.YtialhhdhpjjkaaaGreatDoor.D10
