/-
  Contracts of chapter 10's draws: a key store with a seed of few values, a site of nine, a handle, a message.
-/
import Derived.Test.YtpeagjpcdoegoaaC0
import Derived.Test.YtpeagjpcdoegoaaDv
import Derived.Test.YtpeagjpcdoegoaaC10
import Derived.Test.YtpeagjpcdoegoaaD3
import Derived.Deep.RegionHeld3
namespace Go.Proofs.Ytpeagjpcdoegoaa.D10
open Go.ChangeShapes Go.WideShapes Go.ChangeAt Go.RowKit
open C0 S0 S1 S9 Dm Fx C3 D2 D3 Dv
set_option linter.unusedVariables false
set_option linter.unusedSimpArgs false
set_option maxRecDepth 100000
def hosts : List ByteArray := [⟨#[98, 97, 110, 107, 46, 99, 111, 109]⟩, ⟨#[119, 119, 119, 46, 98, 97, 110, 107, 46, 99, 111, 109]⟩, ⟨#[98, 97, 110, 107, 46, 99, 111, 109, 46, 101, 118, 105, 108, 46, 110, 101, 116]⟩, ⟨#[101, 118, 105, 108, 98, 97, 110, 107, 46, 99, 111, 109]⟩, ⟨#[115, 104, 111, 112, 46, 111, 114, 103]⟩, ⟨#[97, 46, 98, 46, 115, 104, 111, 112, 46, 111, 114, 103]⟩, ⟨#[99, 111, 109]⟩, ⟨#[108, 111, 99, 97, 108, 104, 111, 115, 116]⟩, ⟨#[120, 45, 121, 46, 105, 111]⟩]
theorem hosts_short {s : ByteArray} (h : s ∈ hosts) : s.size ≤ 100 := by
  have : ∀ s ∈ hosts, s.size ≤ 100 := by decide
  exact this s h
def isSeed (x : Int) : Prop := x ∈ [(0 : Int), -1, 1, 2147483646, 2147483647] ∨ (1 ≤ x ∧ x ≤ 99999)
theorem isSeed.i64 {x : Int} (h : isSeed x) : isI64 x := by
  unfold isSeed at h
  unfold isI64
  simp only [List.mem_cons, List.not_mem_nil, or_false] at h
  omega
def okK (x : Fx.KeyStore) : Prop := isI64 x.Vendor ∧ isI64 x.Serial ∧ isSeed x.Seed ∧ isI64 x.Counter
theorem okK.ok {x : Fx.KeyStore} (h : okK x) : x.ok := ⟨h.1, h.2.1, h.2.2.1.i64, h.2.2.2⟩
def DrawnK (w : World) (B H0 : Nat) (e : Ending) (w' : World) : Prop := ∃ x : Fx.KeyStore, e = .returned (.agg #[.int .i64 x.Vendor, .int .i64 x.Serial, .int .i64 x.Seed, .int .i64 x.Counter]) ∧ okK x ∧ IsCur w' B H0 ∧ w.grownBy w' (some B)
theorem host_in (w : World) (B H0 : Nat) (C : IsCur w B H0) : Calls Try.prog 93 #[.pointer (some ⟨B, 0, none⟩)] w (DrawnS (· ∈ hosts) w B H0) := by
  have HL := Lib.hid (str_lit_in hosts 9 rfl w B H0 9 C (by decide) (by decide))
  go_enter Try.func93, Try.ntmps93
  go_wp2_with fail
  refine HL.out.mono ?_; rintro e w1 ⟨x, rfl, hx, hC1, hg1⟩
  go_wp2
  go_ret
  exact ⟨x, rfl, hx, hC1, hg1⟩
theorem key_any (w : World) (B H0 : Nat) (C : IsCur w B H0) : Calls Try.prog 106 #[.pointer (some ⟨B, 0, none⟩)] w (Drawn isSeed w B H0) := by
  go_enter Try.func106, Try.ntmps106
  go_wp2_with fail
  (with_reducible refine (once_any _ _ H0 10 C).mono ?_); rintro e w1 ⟨b, rfl, C1, g1⟩
  cases b
  · go_wp2_with fail
    (with_reducible refine (below_any _ _ H0 99999 C1).mono ?_); rintro e w2 ⟨x, rfl, ⟨h0, h1⟩, C2, g2⟩
    have h2 : x ≤ 99998 := by omega
    clear h1
    go_wp2
    go_ret
    exact ⟨_, rfl, Or.inr ⟨by omega, by omega⟩, C2, grown_trans g1 g2⟩
  · have HL := Lib.hid (int_lit [0, -1, 1, 2147483646, 2147483647] 5 rfl w1 B H0 3 C1 (by simp) (by simp) isSeed (fun z hz => Or.inl hz))
    go_wp2_with fail
    refine HL.out.mono ?_; rintro e w2 ⟨x, rfl, hx, C2, g2⟩
    go_wp2
    go_ret
    exact ⟨x, rfl, hx, C2, grown_trans g1 g2⟩
set_option maxHeartbeats 800000 in
theorem message_any (w : World) (B H0 : Nat) (C : IsCur w B H0) : Calls Try.prog 73 #[.pointer (some ⟨B, 0, none⟩)] w (DrawnInts (fun ys => words ys ∧ ys.length ≤ 4) w B H0) := by
  have hB := C.lt
  have hH : H0 ≤ w.heap.size := by have := C.low; omega
  have HD := DrawsI.start w B H0 C
  go_enter Try.func73, Try.ntmps73
  go_wp2_with fail
  (with_reducible refine (below_any _ B H0 5 (C.alloc _)).mono ?_); rintro e w1 ⟨x, rfl, ⟨hx0, hx1⟩, C1, g1⟩
  obtain ⟨m, rfl⟩ : ∃ m : Nat, x = m := ⟨x.toNat, by omega⟩
  have hm : m ≤ 4 := by omega
  have HD1 : DrawsI words w B H0 0 (.slice (some ⟨w.heap.size, 0, none⟩) 0 0) w1 := by
    obtain ⟨ys, h1, h2, h3, h4, h5⟩ := HD
    exact ⟨ys, h1, h2, own_cur (H0 := H0) h3 hB g1, C1, grown_trans h5 g1⟩
  clear HD hx1 C
  go_wp2
  go_loopw [3, 4] (fun u i wr => ∃ (k j : Nat), k + j = m ∧ i = .int .i64 j ∧ DrawsI words w B H0 k u wr) (fun _ i _ => (intOf i).toNat)
  case atStart => exact ⟨0, m, by omega, rfl, HD1⟩
  case round =>
    obtain ⟨k, j, hkj, rfl, ys, hp, hyl, ho, C, hg⟩ := hrel
    have HYL := Lib.hid hyl
    have HKJ := Lib.hid hkj
    have hj4 : j ≤ 4 := by omega
    have hk4 : k ≤ 4 := by omega
    clear hyl hkj
    by_cases hlt : 0 < j
    · go_wp2_with fail
      (with_reducible refine (below_any _ B H0 100 C).mono ?_); rintro e w2 ⟨y, rfl, ⟨hy0, hy1⟩, C2, g2⟩
      have hy : isWord y := by unfold isWord; omega
      clear hy1
      have ho1 := own_cur (H0 := H0) ho hB g2
      have hz := hg.size
      have hz1 := g2.size
      go_wp2_with (at_builtin; refine appI _ rfl _ _ rfl w.heap.size _ _ _ rfl (ho1.alloc _) _ _ 1 1 [.int .i64 y] rfl (rd_one _ _ _) (one_int .i64 _) (by omega) (by simp; omega) ?_; intro v2 w3 ho2 hg2)
      go_roundw
      case rel => exact ⟨k + 1, j - 1, by have := HKJ.out; omega, by go_num, DrawsI.next hp HYL.out ho hB hH hg hy C2 g2 ho2 hg2⟩
      case measure => simp [intOf]; omega
    · obtain rfl : j = 0 := by omega
      obtain ⟨A1, c1, rfl⟩ := own_nil_form ho
      go_wp2
      go_ret
      exact ⟨A1, k, c1, ys, rfl, ⟨hp, by have := HYL.out; omega⟩, ho, C, hg⟩
set_option maxHeartbeats 1600000 in
theorem store_any (w : World) (B H0 : Nat) (C : IsCur w B H0) : Calls Try.prog 104 #[.pointer (some ⟨B, 0, none⟩)] w (DrawnK w B H0) := by
  have hB := C.lt
  have hH := C.low
  go_enter Try.func104, Try.ntmps104
  obtain ⟨w1, hw1⟩ : ∃ y, y = w.alloc (.cells #[.int .i64 0, .int .i64 0, .int .i64 0, .int .i64 0] 29) := ⟨_, rfl⟩
  have o_r := var_owns w 29 4 [.int .i64 0, .int .i64 0, .int .i64 0, .int .i64 0] rfl
  have bw1 : Below w.heap.size w w1 := hw1 ▸ (Below.refl _ _).alloc (Nat.le_refl _) _
  rw [← hw1] at o_r
  have sw1 : w1.heap.size = w.heap.size + 1 := by rw [hw1]; simp
  have gw1 : w.grownBy w1 (some B) := hw1 ▸ World.grownBy_alloc w _ _
  have zw1 : w.heap.size < w1.heap.size := by rw [hw1]; simp
  have n_r : w.heap.size ≠ B := by have := C.lt; have := C.low; omega
  have m_r : H0 ≤ w.heap.size := by have := C.lt; have := C.low; omega
  replace C : IsCur w1 B H0 := hw1 ▸ C.alloc _
  have hG := gw1
  go_wp2_with fail
  rw [← hw1]
  clear hw1 sw1
  (with_reducible refine (below_any _ _ H0 3 C).mono ?_); rintro e w2 ⟨a, rfl, ⟨ha0, ha1⟩, C, gw2⟩
  replace o_r := Dv.owns_drawn o_r gw2 (by omega)
  replace hG := grown_trans hG gw2
  have zw2 := gw2.size
  replace ha1 : a ≤ 2 := by omega
  have c_r0 : w2.cell? ⟨w.heap.size, 0, none⟩ = some (.int .i64 0) := var_load o_r (by simp) 0 _ rfl
  have f_r0 : w2.frozen? ⟨w.heap.size, 0, none⟩ = false := var_frozen o_r (by simp) 0 _ rfl
  have c_r1 : w2.cell? ⟨w.heap.size, 1, none⟩ = some (.int .i64 0) := var_load o_r (by simp) 1 _ rfl
  have f_r1 : w2.frozen? ⟨w.heap.size, 1, none⟩ = false := var_frozen o_r (by simp) 1 _ rfl
  have c_r2 : w2.cell? ⟨w.heap.size, 2, none⟩ = some (.int .i64 0) := var_load o_r (by simp) 2 _ rfl
  have f_r2 : w2.frozen? ⟨w.heap.size, 2, none⟩ = false := var_frozen o_r (by simp) 2 _ rfl
  have c_r3 : w2.cell? ⟨w.heap.size, 3, none⟩ = some (.int .i64 0) := var_load o_r (by simp) 3 _ rfl
  have f_r3 : w2.frozen? ⟨w.heap.size, 3, none⟩ = false := var_frozen o_r (by simp) 3 _ rfl
  have l_r := var_lt o_r
  go_wp2_with fail
  (with_reducible refine (below_any _ _ H0 20 C).mono ?_); rintro e w3 ⟨b, rfl, ⟨hb0, hb1⟩, C, gw3⟩
  clear c_r0 f_r0 c_r1 f_r1 c_r2 f_r2 c_r3 f_r3 l_r
  replace o_r := Dv.owns_drawn o_r gw3 (by omega)
  replace hG := grown_trans hG gw3
  have zw3 := gw3.size
  replace hb1 : b ≤ 19 := by omega
  have c_r0 : w3.cell? ⟨w.heap.size, 0, none⟩ = some (.int .i64 0) := var_load o_r (by simp) 0 _ rfl
  have f_r0 : w3.frozen? ⟨w.heap.size, 0, none⟩ = false := var_frozen o_r (by simp) 0 _ rfl
  have c_r1 : w3.cell? ⟨w.heap.size, 1, none⟩ = some (.int .i64 0) := var_load o_r (by simp) 1 _ rfl
  have f_r1 : w3.frozen? ⟨w.heap.size, 1, none⟩ = false := var_frozen o_r (by simp) 1 _ rfl
  have c_r2 : w3.cell? ⟨w.heap.size, 2, none⟩ = some (.int .i64 0) := var_load o_r (by simp) 2 _ rfl
  have f_r2 : w3.frozen? ⟨w.heap.size, 2, none⟩ = false := var_frozen o_r (by simp) 2 _ rfl
  have c_r3 : w3.cell? ⟨w.heap.size, 3, none⟩ = some (.int .i64 0) := var_load o_r (by simp) 3 _ rfl
  have f_r3 : w3.frozen? ⟨w.heap.size, 3, none⟩ = false := var_frozen o_r (by simp) 3 _ rfl
  have l_r := var_lt o_r
  go_wp2_with fail
  (with_reducible refine (below_any _ _ H0 9999 C).mono ?_); rintro e w4 ⟨c, rfl, ⟨hc0, hc1⟩, C, gw4⟩
  clear c_r0 f_r0 c_r1 f_r1 c_r2 f_r2 c_r3 f_r3 l_r
  replace o_r := Dv.owns_drawn o_r gw4 (by omega)
  replace hG := grown_trans hG gw4
  have zw4 := gw4.size
  replace hc1 : c ≤ 9998 := by omega
  have c_r0 : w4.cell? ⟨w.heap.size, 0, none⟩ = some (.int .i64 0) := var_load o_r (by simp) 0 _ rfl
  have f_r0 : w4.frozen? ⟨w.heap.size, 0, none⟩ = false := var_frozen o_r (by simp) 0 _ rfl
  have c_r1 : w4.cell? ⟨w.heap.size, 1, none⟩ = some (.int .i64 0) := var_load o_r (by simp) 1 _ rfl
  have f_r1 : w4.frozen? ⟨w.heap.size, 1, none⟩ = false := var_frozen o_r (by simp) 1 _ rfl
  have c_r2 : w4.cell? ⟨w.heap.size, 2, none⟩ = some (.int .i64 0) := var_load o_r (by simp) 2 _ rfl
  have f_r2 : w4.frozen? ⟨w.heap.size, 2, none⟩ = false := var_frozen o_r (by simp) 2 _ rfl
  have c_r3 : w4.cell? ⟨w.heap.size, 3, none⟩ = some (.int .i64 0) := var_load o_r (by simp) 3 _ rfl
  have f_r3 : w4.frozen? ⟨w.heap.size, 3, none⟩ = false := var_frozen o_r (by simp) 3 _ rfl
  have l_r := var_lt o_r
  go_wp2_with fail
  (with_reducible refine (below_any _ _ H0 50 C).mono ?_); rintro e w5 ⟨d, rfl, ⟨hd0, hd1⟩, C, gw5⟩
  clear c_r0 f_r0 c_r1 f_r1 c_r2 f_r2 c_r3 f_r3 l_r
  replace o_r := Dv.owns_drawn o_r gw5 (by omega)
  replace hG := grown_trans hG gw5
  have zw5 := gw5.size
  replace hd1 : d ≤ 49 := by omega
  have c_r0 : w5.cell? ⟨w.heap.size, 0, none⟩ = some (.int .i64 0) := var_load o_r (by simp) 0 _ rfl
  have f_r0 : w5.frozen? ⟨w.heap.size, 0, none⟩ = false := var_frozen o_r (by simp) 0 _ rfl
  have c_r1 : w5.cell? ⟨w.heap.size, 1, none⟩ = some (.int .i64 0) := var_load o_r (by simp) 1 _ rfl
  have f_r1 : w5.frozen? ⟨w.heap.size, 1, none⟩ = false := var_frozen o_r (by simp) 1 _ rfl
  have c_r2 : w5.cell? ⟨w.heap.size, 2, none⟩ = some (.int .i64 0) := var_load o_r (by simp) 2 _ rfl
  have f_r2 : w5.frozen? ⟨w.heap.size, 2, none⟩ = false := var_frozen o_r (by simp) 2 _ rfl
  have c_r3 : w5.cell? ⟨w.heap.size, 3, none⟩ = some (.int .i64 0) := var_load o_r (by simp) 3 _ rfl
  have f_r3 : w5.frozen? ⟨w.heap.size, 3, none⟩ = false := var_frozen o_r (by simp) 3 _ rfl
  have l_r := var_lt o_r
  go_wp2
  clear c_r0 f_r0 c_r1 f_r1 c_r2 f_r2 c_r3 f_r3 l_r
  obtain ⟨w6, hw6⟩ : ∃ y, y = ((((w5.setCell ⟨w.heap.size, 0, none⟩ (.int .i64 (1 + a))).setCell ⟨w.heap.size, 1, none⟩ (.int .i64 b)).setCell ⟨w.heap.size, 2, none⟩ (.int .i64 (1 + c))).setCell ⟨w.heap.size, 3, none⟩ (.int .i64 d)) := ⟨_, rfl⟩
  obtain ⟨o_new, tw6⟩ := var_some [.int .i64 (1 + a), .int .i64 b, .int .i64 (1 + c), .int .i64 d] 0 _ _ o_r (by simp)
  rw [show setAll w5 (w.heap.size) 0 [.int .i64 (1 + a), .int .i64 b, .int .i64 (1 + c), .int .i64 d] = w6 from hw6.symm] at o_new tw6
  replace o_r : Owns w6 _ (varD 29 4 [.int .i64 (1 + a), .int .i64 b, .int .i64 (1 + c), .int .i64 d]) _ _ := o_new
  clear o_new
  replace hG := Dv.grown_turned hG tw6 (fun b hb => by simp at hb; omega)
  replace C := Dv.cur_turned C tw6 (by omega) (by omega)
  have zw6 := tw6.2.2.2.1
  rw [← hw6]
  clear hw6
  have y0 : w6.cell? ⟨w.heap.size, 0, none⟩ = some (.int .i64 (1 + a)) := var_load o_r (by simp) 0 _ rfl
  have y1 : w6.cell? ⟨w.heap.size, 1, none⟩ = some (.int .i64 b) := var_load o_r (by simp) 1 _ rfl
  have y2 : w6.cell? ⟨w.heap.size, 2, none⟩ = some (.int .i64 (1 + c)) := var_load o_r (by simp) 2 _ rfl
  have y3 : w6.cell? ⟨w.heap.size, 3, none⟩ = some (.int .i64 d) := var_load o_r (by simp) 3 _ rfl
  refine bodyPost_ret (v := .agg #[.int .i64 (1 + a), .int .i64 b, .int .i64 (1 + c), .int .i64 d]) (by simp [results, Try.results104, go_sem, y0, y1, y2, y3]) rfl ?_
  exact ⟨⟨1 + a, b, 1 + c, d⟩, rfl, ⟨(show isI64 (1 + a) from ⟨by omega, by omega⟩), (show isI64 b from ⟨by omega, by omega⟩), (show isSeed (1 + c) from Or.inr ⟨by omega, by omega⟩), (show isI64 d from ⟨by omega, by omega⟩)⟩, C, hG⟩
set_option maxHeartbeats 3200000 in
theorem any_any (w : World) (B H0 : Nat) (C : IsCur w B H0) : Calls Try.prog 92 #[.pointer (some ⟨B, 0, none⟩)] w (DrawnK w B H0) := by
  have hB := C.lt
  have hH := C.low
  go_enter Try.func92, Try.ntmps92
  obtain ⟨w1, hw1⟩ : ∃ y, y = w.alloc (.cells #[.int .i64 0, .int .i64 0, .int .i64 0, .int .i64 0] 29) := ⟨_, rfl⟩
  have o_r := var_owns w 29 4 [.int .i64 0, .int .i64 0, .int .i64 0, .int .i64 0] rfl
  have bw1 : Below w.heap.size w w1 := hw1 ▸ (Below.refl _ _).alloc (Nat.le_refl _) _
  rw [← hw1] at o_r
  have sw1 : w1.heap.size = w.heap.size + 1 := by rw [hw1]; simp
  have gw1 : w.grownBy w1 (some B) := hw1 ▸ World.grownBy_alloc w _ _
  have zw1 : w.heap.size < w1.heap.size := by rw [hw1]; simp
  have n_r : w.heap.size ≠ B := by have := C.lt; have := C.low; omega
  have m_r : H0 ≤ w.heap.size := by have := C.lt; have := C.low; omega
  replace C : IsCur w1 B H0 := hw1 ▸ C.alloc _
  have hG := gw1
  go_wp2_with fail
  rw [← hw1]
  clear hw1 sw1
  (with_reducible refine (store_any _ _ H0 C).mono ?_); rintro e w2 ⟨x, rfl, ⟨hx1, hx2, hx3, hx4⟩, C, gw2⟩
  replace o_r := Dv.owns_drawn o_r gw2 (by omega)
  replace hG := grown_trans hG gw2
  have zw2 := gw2.size
  have c_r0 : w2.cell? ⟨w.heap.size, 0, none⟩ = some (.int .i64 0) := var_load o_r (by simp) 0 _ rfl
  have f_r0 : w2.frozen? ⟨w.heap.size, 0, none⟩ = false := var_frozen o_r (by simp) 0 _ rfl
  have c_r1 : w2.cell? ⟨w.heap.size, 1, none⟩ = some (.int .i64 0) := var_load o_r (by simp) 1 _ rfl
  have f_r1 : w2.frozen? ⟨w.heap.size, 1, none⟩ = false := var_frozen o_r (by simp) 1 _ rfl
  have c_r2 : w2.cell? ⟨w.heap.size, 2, none⟩ = some (.int .i64 0) := var_load o_r (by simp) 2 _ rfl
  have f_r2 : w2.frozen? ⟨w.heap.size, 2, none⟩ = false := var_frozen o_r (by simp) 2 _ rfl
  have c_r3 : w2.cell? ⟨w.heap.size, 3, none⟩ = some (.int .i64 0) := var_load o_r (by simp) 3 _ rfl
  have f_r3 : w2.frozen? ⟨w.heap.size, 3, none⟩ = false := var_frozen o_r (by simp) 3 _ rfl
  have l_r := var_lt o_r
  obtain ⟨w3, hw3⟩ : ∃ y, y = w2.alloc (.cells #[.int .i64 x.Vendor, .int .i64 x.Serial, .int .i64 x.Seed, .int .i64 x.Counter] 29) := ⟨_, rfl⟩
  have o_s := var_owns w2 29 4 [.int .i64 x.Vendor, .int .i64 x.Serial, .int .i64 x.Seed, .int .i64 x.Counter] rfl
  have bw3 : Below w2.heap.size w2 w3 := hw3 ▸ (Below.refl _ _).alloc (Nat.le_refl _) _
  rw [← hw3] at o_s
  have sw3 : w3.heap.size = w2.heap.size + 1 := by rw [hw3]; simp
  have gw3 : w2.grownBy w3 (some B) := hw3 ▸ World.grownBy_alloc w2 _ _
  have zw3 : w2.heap.size < w3.heap.size := by rw [hw3]; simp
  have n_s : w2.heap.size ≠ B := by have := C.lt; have := C.low; omega
  have m_s : H0 ≤ w2.heap.size := by have := C.lt; have := C.low; omega
  replace C : IsCur w3 B H0 := hw3 ▸ C.alloc _
  replace o_r := owns_below o_r bw3
  replace hG := grown_trans hG gw3
  go_wp2_with fail
  rw [← hw3]
  clear hw3 sw3
  (with_reducible refine (below_any _ _ H0 12 C).mono ?_); rintro e w4 ⟨q, rfl, ⟨hq0, hq1⟩, C, gw4⟩
  clear c_r0 f_r0 c_r1 f_r1 c_r2 f_r2 c_r3 f_r3 l_r
  replace o_r := Dv.owns_drawn o_r gw4 (by omega)
  replace o_s := Dv.owns_drawn o_s gw4 (by omega)
  replace hG := grown_trans hG gw4
  have zw4 := gw4.size
  clear hq1
  by_cases h0 : q = 0
  · subst h0
    have HL := Lib.hid (int_lit [0, 9, 10] 3 rfl w4 B H0 3 C (by simp) (by simp) isI64 (by simp [isI64]))
    have c_r0 : w4.cell? ⟨w.heap.size, 0, none⟩ = some (.int .i64 0) := var_load o_r (by simp) 0 _ rfl
    have f_r0 : w4.frozen? ⟨w.heap.size, 0, none⟩ = false := var_frozen o_r (by simp) 0 _ rfl
    have c_r1 : w4.cell? ⟨w.heap.size, 1, none⟩ = some (.int .i64 0) := var_load o_r (by simp) 1 _ rfl
    have f_r1 : w4.frozen? ⟨w.heap.size, 1, none⟩ = false := var_frozen o_r (by simp) 1 _ rfl
    have c_r2 : w4.cell? ⟨w.heap.size, 2, none⟩ = some (.int .i64 0) := var_load o_r (by simp) 2 _ rfl
    have f_r2 : w4.frozen? ⟨w.heap.size, 2, none⟩ = false := var_frozen o_r (by simp) 2 _ rfl
    have c_r3 : w4.cell? ⟨w.heap.size, 3, none⟩ = some (.int .i64 0) := var_load o_r (by simp) 3 _ rfl
    have f_r3 : w4.frozen? ⟨w.heap.size, 3, none⟩ = false := var_frozen o_r (by simp) 3 _ rfl
    have l_r := var_lt o_r
    have c_s0 : w4.cell? ⟨w2.heap.size, 0, none⟩ = some (.int .i64 x.Vendor) := var_load o_s (by simp) 0 _ rfl
    have f_s0 : w4.frozen? ⟨w2.heap.size, 0, none⟩ = false := var_frozen o_s (by simp) 0 _ rfl
    have c_s1 : w4.cell? ⟨w2.heap.size, 1, none⟩ = some (.int .i64 x.Serial) := var_load o_s (by simp) 1 _ rfl
    have f_s1 : w4.frozen? ⟨w2.heap.size, 1, none⟩ = false := var_frozen o_s (by simp) 1 _ rfl
    have c_s2 : w4.cell? ⟨w2.heap.size, 2, none⟩ = some (.int .i64 x.Seed) := var_load o_s (by simp) 2 _ rfl
    have f_s2 : w4.frozen? ⟨w2.heap.size, 2, none⟩ = false := var_frozen o_s (by simp) 2 _ rfl
    have c_s3 : w4.cell? ⟨w2.heap.size, 3, none⟩ = some (.int .i64 x.Counter) := var_load o_s (by simp) 3 _ rfl
    have f_s3 : w4.frozen? ⟨w2.heap.size, 3, none⟩ = false := var_frozen o_s (by simp) 3 _ rfl
    have l_s := var_lt o_s
    go_wp2_with fail
    (refine (HL.out).mono ?_); rintro e w5 ⟨u, rfl, hu, C, gw5⟩
    clear c_r0 f_r0 c_r1 f_r1 c_r2 f_r2 c_r3 f_r3 l_r c_s0 f_s0 c_s1 f_s1 c_s2 f_s2 c_s3 f_s3 l_s
    replace o_r := Dv.owns_drawn o_r gw5 (by omega)
    replace o_s := Dv.owns_drawn o_s gw5 (by omega)
    replace hG := grown_trans hG gw5
    have zw5 := gw5.size
    have c_r0 : w5.cell? ⟨w.heap.size, 0, none⟩ = some (.int .i64 0) := var_load o_r (by simp) 0 _ rfl
    have f_r0 : w5.frozen? ⟨w.heap.size, 0, none⟩ = false := var_frozen o_r (by simp) 0 _ rfl
    have c_r1 : w5.cell? ⟨w.heap.size, 1, none⟩ = some (.int .i64 0) := var_load o_r (by simp) 1 _ rfl
    have f_r1 : w5.frozen? ⟨w.heap.size, 1, none⟩ = false := var_frozen o_r (by simp) 1 _ rfl
    have c_r2 : w5.cell? ⟨w.heap.size, 2, none⟩ = some (.int .i64 0) := var_load o_r (by simp) 2 _ rfl
    have f_r2 : w5.frozen? ⟨w.heap.size, 2, none⟩ = false := var_frozen o_r (by simp) 2 _ rfl
    have c_r3 : w5.cell? ⟨w.heap.size, 3, none⟩ = some (.int .i64 0) := var_load o_r (by simp) 3 _ rfl
    have f_r3 : w5.frozen? ⟨w.heap.size, 3, none⟩ = false := var_frozen o_r (by simp) 3 _ rfl
    have l_r := var_lt o_r
    have c_s0 : w5.cell? ⟨w2.heap.size, 0, none⟩ = some (.int .i64 x.Vendor) := var_load o_s (by simp) 0 _ rfl
    have f_s0 : w5.frozen? ⟨w2.heap.size, 0, none⟩ = false := var_frozen o_s (by simp) 0 _ rfl
    have c_s1 : w5.cell? ⟨w2.heap.size, 1, none⟩ = some (.int .i64 x.Serial) := var_load o_s (by simp) 1 _ rfl
    have f_s1 : w5.frozen? ⟨w2.heap.size, 1, none⟩ = false := var_frozen o_s (by simp) 1 _ rfl
    have c_s2 : w5.cell? ⟨w2.heap.size, 2, none⟩ = some (.int .i64 x.Seed) := var_load o_s (by simp) 2 _ rfl
    have f_s2 : w5.frozen? ⟨w2.heap.size, 2, none⟩ = false := var_frozen o_s (by simp) 2 _ rfl
    have c_s3 : w5.cell? ⟨w2.heap.size, 3, none⟩ = some (.int .i64 x.Counter) := var_load o_s (by simp) 3 _ rfl
    have f_s3 : w5.frozen? ⟨w2.heap.size, 3, none⟩ = false := var_frozen o_s (by simp) 3 _ rfl
    have l_s := var_lt o_s
    go_wp2
    clear c_r0 f_r0 c_r1 f_r1 c_r2 f_r2 c_r3 f_r3 l_r c_s0 f_s0 c_s1 f_s1 c_s2 f_s2 c_s3 f_s3 l_s
    obtain ⟨w6, hw6⟩ : ∃ y, y = (w5.setCell ⟨w2.heap.size, 0, none⟩ (.int .i64 u)) := ⟨_, rfl⟩
    obtain ⟨o_new, tw6⟩ := var_some [.int .i64 u] 0 _ _ o_s (by simp)
    rw [show setAll w5 (w2.heap.size) 0 [.int .i64 u] = w6 from hw6.symm] at o_new tw6
    replace o_s : Owns w6 _ (varD 29 4 [.int .i64 u, .int .i64 x.Serial, .int .i64 x.Seed, .int .i64 x.Counter]) _ _ := o_new
    clear o_new
    replace o_r := owns_turned o_r tw6 (fun b hb hb2 => by simp at hb hb2; omega)
    replace hG := Dv.grown_turned hG tw6 (fun b hb => by simp at hb; omega)
    replace C := Dv.cur_turned C tw6 (by omega) (by omega)
    have zw6 := tw6.2.2.2.1
    rw [← hw6]
    clear hw6
    obtain ⟨w7, hw7⟩ : ∃ y, y = ((((w6.setCell ⟨w.heap.size, 0, none⟩ (.int .i64 u)).setCell ⟨w.heap.size, 1, none⟩ (.int .i64 x.Serial)).setCell ⟨w.heap.size, 2, none⟩ (.int .i64 x.Seed)).setCell ⟨w.heap.size, 3, none⟩ (.int .i64 x.Counter)) := ⟨_, rfl⟩
    obtain ⟨o_new, tw7⟩ := var_some [.int .i64 u, .int .i64 x.Serial, .int .i64 x.Seed, .int .i64 x.Counter] 0 _ _ o_r (by simp)
    rw [show setAll w6 (w.heap.size) 0 [.int .i64 u, .int .i64 x.Serial, .int .i64 x.Seed, .int .i64 x.Counter] = w7 from hw7.symm] at o_new tw7
    replace o_r : Owns w7 _ (varD 29 4 [.int .i64 u, .int .i64 x.Serial, .int .i64 x.Seed, .int .i64 x.Counter]) _ _ := o_new
    clear o_new
    replace o_s := owns_turned o_s tw7 (fun b hb hb2 => by simp at hb hb2; omega)
    replace hG := Dv.grown_turned hG tw7 (fun b hb => by simp at hb; omega)
    replace C := Dv.cur_turned C tw7 (by omega) (by omega)
    have zw7 := tw7.2.2.2.1
    rw [← hw7]
    clear hw7
    have y0 : w7.cell? ⟨w.heap.size, 0, none⟩ = some (.int .i64 u) := var_load o_r (by simp) 0 _ rfl
    have y1 : w7.cell? ⟨w.heap.size, 1, none⟩ = some (.int .i64 x.Serial) := var_load o_r (by simp) 1 _ rfl
    have y2 : w7.cell? ⟨w.heap.size, 2, none⟩ = some (.int .i64 x.Seed) := var_load o_r (by simp) 2 _ rfl
    have y3 : w7.cell? ⟨w.heap.size, 3, none⟩ = some (.int .i64 x.Counter) := var_load o_r (by simp) 3 _ rfl
    refine bodyPost_ret (v := .agg #[.int .i64 u, .int .i64 x.Serial, .int .i64 x.Seed, .int .i64 x.Counter]) (by simp [results, Try.results92, go_sem, y0, y1, y2, y3]) rfl ?_
    exact ⟨⟨u, x.Serial, x.Seed, x.Counter⟩, rfl, ⟨hu, hx2, hx3, hx4⟩, C, hG⟩
  · have e0 : (q == 0) = false := by simpa using h0
    by_cases h1 : q = 1
    · subst h1
      have HL := Lib.hid (int_lit [-1, 1000000, 1000001] 3 rfl w4 B H0 3 C (by simp) (by simp) isI64 (by simp [isI64]))
      have c_r0 : w4.cell? ⟨w.heap.size, 0, none⟩ = some (.int .i64 0) := var_load o_r (by simp) 0 _ rfl
      have f_r0 : w4.frozen? ⟨w.heap.size, 0, none⟩ = false := var_frozen o_r (by simp) 0 _ rfl
      have c_r1 : w4.cell? ⟨w.heap.size, 1, none⟩ = some (.int .i64 0) := var_load o_r (by simp) 1 _ rfl
      have f_r1 : w4.frozen? ⟨w.heap.size, 1, none⟩ = false := var_frozen o_r (by simp) 1 _ rfl
      have c_r2 : w4.cell? ⟨w.heap.size, 2, none⟩ = some (.int .i64 0) := var_load o_r (by simp) 2 _ rfl
      have f_r2 : w4.frozen? ⟨w.heap.size, 2, none⟩ = false := var_frozen o_r (by simp) 2 _ rfl
      have c_r3 : w4.cell? ⟨w.heap.size, 3, none⟩ = some (.int .i64 0) := var_load o_r (by simp) 3 _ rfl
      have f_r3 : w4.frozen? ⟨w.heap.size, 3, none⟩ = false := var_frozen o_r (by simp) 3 _ rfl
      have l_r := var_lt o_r
      have c_s0 : w4.cell? ⟨w2.heap.size, 0, none⟩ = some (.int .i64 x.Vendor) := var_load o_s (by simp) 0 _ rfl
      have f_s0 : w4.frozen? ⟨w2.heap.size, 0, none⟩ = false := var_frozen o_s (by simp) 0 _ rfl
      have c_s1 : w4.cell? ⟨w2.heap.size, 1, none⟩ = some (.int .i64 x.Serial) := var_load o_s (by simp) 1 _ rfl
      have f_s1 : w4.frozen? ⟨w2.heap.size, 1, none⟩ = false := var_frozen o_s (by simp) 1 _ rfl
      have c_s2 : w4.cell? ⟨w2.heap.size, 2, none⟩ = some (.int .i64 x.Seed) := var_load o_s (by simp) 2 _ rfl
      have f_s2 : w4.frozen? ⟨w2.heap.size, 2, none⟩ = false := var_frozen o_s (by simp) 2 _ rfl
      have c_s3 : w4.cell? ⟨w2.heap.size, 3, none⟩ = some (.int .i64 x.Counter) := var_load o_s (by simp) 3 _ rfl
      have f_s3 : w4.frozen? ⟨w2.heap.size, 3, none⟩ = false := var_frozen o_s (by simp) 3 _ rfl
      have l_s := var_lt o_s
      go_wp2_with fail
      (refine (HL.out).mono ?_); rintro e w5 ⟨u, rfl, hu, C, gw5⟩
      clear c_r0 f_r0 c_r1 f_r1 c_r2 f_r2 c_r3 f_r3 l_r c_s0 f_s0 c_s1 f_s1 c_s2 f_s2 c_s3 f_s3 l_s
      replace o_r := Dv.owns_drawn o_r gw5 (by omega)
      replace o_s := Dv.owns_drawn o_s gw5 (by omega)
      replace hG := grown_trans hG gw5
      have zw5 := gw5.size
      have c_r0 : w5.cell? ⟨w.heap.size, 0, none⟩ = some (.int .i64 0) := var_load o_r (by simp) 0 _ rfl
      have f_r0 : w5.frozen? ⟨w.heap.size, 0, none⟩ = false := var_frozen o_r (by simp) 0 _ rfl
      have c_r1 : w5.cell? ⟨w.heap.size, 1, none⟩ = some (.int .i64 0) := var_load o_r (by simp) 1 _ rfl
      have f_r1 : w5.frozen? ⟨w.heap.size, 1, none⟩ = false := var_frozen o_r (by simp) 1 _ rfl
      have c_r2 : w5.cell? ⟨w.heap.size, 2, none⟩ = some (.int .i64 0) := var_load o_r (by simp) 2 _ rfl
      have f_r2 : w5.frozen? ⟨w.heap.size, 2, none⟩ = false := var_frozen o_r (by simp) 2 _ rfl
      have c_r3 : w5.cell? ⟨w.heap.size, 3, none⟩ = some (.int .i64 0) := var_load o_r (by simp) 3 _ rfl
      have f_r3 : w5.frozen? ⟨w.heap.size, 3, none⟩ = false := var_frozen o_r (by simp) 3 _ rfl
      have l_r := var_lt o_r
      have c_s0 : w5.cell? ⟨w2.heap.size, 0, none⟩ = some (.int .i64 x.Vendor) := var_load o_s (by simp) 0 _ rfl
      have f_s0 : w5.frozen? ⟨w2.heap.size, 0, none⟩ = false := var_frozen o_s (by simp) 0 _ rfl
      have c_s1 : w5.cell? ⟨w2.heap.size, 1, none⟩ = some (.int .i64 x.Serial) := var_load o_s (by simp) 1 _ rfl
      have f_s1 : w5.frozen? ⟨w2.heap.size, 1, none⟩ = false := var_frozen o_s (by simp) 1 _ rfl
      have c_s2 : w5.cell? ⟨w2.heap.size, 2, none⟩ = some (.int .i64 x.Seed) := var_load o_s (by simp) 2 _ rfl
      have f_s2 : w5.frozen? ⟨w2.heap.size, 2, none⟩ = false := var_frozen o_s (by simp) 2 _ rfl
      have c_s3 : w5.cell? ⟨w2.heap.size, 3, none⟩ = some (.int .i64 x.Counter) := var_load o_s (by simp) 3 _ rfl
      have f_s3 : w5.frozen? ⟨w2.heap.size, 3, none⟩ = false := var_frozen o_s (by simp) 3 _ rfl
      have l_s := var_lt o_s
      go_wp2
      clear c_r0 f_r0 c_r1 f_r1 c_r2 f_r2 c_r3 f_r3 l_r c_s0 f_s0 c_s1 f_s1 c_s2 f_s2 c_s3 f_s3 l_s
      obtain ⟨w6, hw6⟩ : ∃ y, y = (w5.setCell ⟨w2.heap.size, 1, none⟩ (.int .i64 u)) := ⟨_, rfl⟩
      obtain ⟨o_new, tw6⟩ := var_some [.int .i64 u] 1 _ _ o_s (by simp)
      rw [show setAll w5 (w2.heap.size) 1 [.int .i64 u] = w6 from hw6.symm] at o_new tw6
      replace o_s : Owns w6 _ (varD 29 4 [.int .i64 x.Vendor, .int .i64 u, .int .i64 x.Seed, .int .i64 x.Counter]) _ _ := o_new
      clear o_new
      replace o_r := owns_turned o_r tw6 (fun b hb hb2 => by simp at hb hb2; omega)
      replace hG := Dv.grown_turned hG tw6 (fun b hb => by simp at hb; omega)
      replace C := Dv.cur_turned C tw6 (by omega) (by omega)
      have zw6 := tw6.2.2.2.1
      rw [← hw6]
      clear hw6
      obtain ⟨w7, hw7⟩ : ∃ y, y = ((((w6.setCell ⟨w.heap.size, 0, none⟩ (.int .i64 x.Vendor)).setCell ⟨w.heap.size, 1, none⟩ (.int .i64 u)).setCell ⟨w.heap.size, 2, none⟩ (.int .i64 x.Seed)).setCell ⟨w.heap.size, 3, none⟩ (.int .i64 x.Counter)) := ⟨_, rfl⟩
      obtain ⟨o_new, tw7⟩ := var_some [.int .i64 x.Vendor, .int .i64 u, .int .i64 x.Seed, .int .i64 x.Counter] 0 _ _ o_r (by simp)
      rw [show setAll w6 (w.heap.size) 0 [.int .i64 x.Vendor, .int .i64 u, .int .i64 x.Seed, .int .i64 x.Counter] = w7 from hw7.symm] at o_new tw7
      replace o_r : Owns w7 _ (varD 29 4 [.int .i64 x.Vendor, .int .i64 u, .int .i64 x.Seed, .int .i64 x.Counter]) _ _ := o_new
      clear o_new
      replace o_s := owns_turned o_s tw7 (fun b hb hb2 => by simp at hb hb2; omega)
      replace hG := Dv.grown_turned hG tw7 (fun b hb => by simp at hb; omega)
      replace C := Dv.cur_turned C tw7 (by omega) (by omega)
      have zw7 := tw7.2.2.2.1
      rw [← hw7]
      clear hw7
      have y0 : w7.cell? ⟨w.heap.size, 0, none⟩ = some (.int .i64 x.Vendor) := var_load o_r (by simp) 0 _ rfl
      have y1 : w7.cell? ⟨w.heap.size, 1, none⟩ = some (.int .i64 u) := var_load o_r (by simp) 1 _ rfl
      have y2 : w7.cell? ⟨w.heap.size, 2, none⟩ = some (.int .i64 x.Seed) := var_load o_r (by simp) 2 _ rfl
      have y3 : w7.cell? ⟨w.heap.size, 3, none⟩ = some (.int .i64 x.Counter) := var_load o_r (by simp) 3 _ rfl
      refine bodyPost_ret (v := .agg #[.int .i64 x.Vendor, .int .i64 u, .int .i64 x.Seed, .int .i64 x.Counter]) (by simp [results, Try.results92, go_sem, y0, y1, y2, y3]) rfl ?_
      exact ⟨⟨x.Vendor, u, x.Seed, x.Counter⟩, rfl, ⟨hx1, hu, hx3, hx4⟩, C, hG⟩
    · have e1 : (q == 1) = false := by simpa using h1
      by_cases h2 : q = 2
      · subst h2
        have c_r0 : w4.cell? ⟨w.heap.size, 0, none⟩ = some (.int .i64 0) := var_load o_r (by simp) 0 _ rfl
        have f_r0 : w4.frozen? ⟨w.heap.size, 0, none⟩ = false := var_frozen o_r (by simp) 0 _ rfl
        have c_r1 : w4.cell? ⟨w.heap.size, 1, none⟩ = some (.int .i64 0) := var_load o_r (by simp) 1 _ rfl
        have f_r1 : w4.frozen? ⟨w.heap.size, 1, none⟩ = false := var_frozen o_r (by simp) 1 _ rfl
        have c_r2 : w4.cell? ⟨w.heap.size, 2, none⟩ = some (.int .i64 0) := var_load o_r (by simp) 2 _ rfl
        have f_r2 : w4.frozen? ⟨w.heap.size, 2, none⟩ = false := var_frozen o_r (by simp) 2 _ rfl
        have c_r3 : w4.cell? ⟨w.heap.size, 3, none⟩ = some (.int .i64 0) := var_load o_r (by simp) 3 _ rfl
        have f_r3 : w4.frozen? ⟨w.heap.size, 3, none⟩ = false := var_frozen o_r (by simp) 3 _ rfl
        have l_r := var_lt o_r
        have c_s0 : w4.cell? ⟨w2.heap.size, 0, none⟩ = some (.int .i64 x.Vendor) := var_load o_s (by simp) 0 _ rfl
        have f_s0 : w4.frozen? ⟨w2.heap.size, 0, none⟩ = false := var_frozen o_s (by simp) 0 _ rfl
        have c_s1 : w4.cell? ⟨w2.heap.size, 1, none⟩ = some (.int .i64 x.Serial) := var_load o_s (by simp) 1 _ rfl
        have f_s1 : w4.frozen? ⟨w2.heap.size, 1, none⟩ = false := var_frozen o_s (by simp) 1 _ rfl
        have c_s2 : w4.cell? ⟨w2.heap.size, 2, none⟩ = some (.int .i64 x.Seed) := var_load o_s (by simp) 2 _ rfl
        have f_s2 : w4.frozen? ⟨w2.heap.size, 2, none⟩ = false := var_frozen o_s (by simp) 2 _ rfl
        have c_s3 : w4.cell? ⟨w2.heap.size, 3, none⟩ = some (.int .i64 x.Counter) := var_load o_s (by simp) 3 _ rfl
        have f_s3 : w4.frozen? ⟨w2.heap.size, 3, none⟩ = false := var_frozen o_s (by simp) 3 _ rfl
        have l_s := var_lt o_s
        go_wp2_with fail
        (with_reducible refine (key_any _ _ H0 C).mono ?_); rintro e w5 ⟨u, rfl, hu, C, gw5⟩
        clear c_r0 f_r0 c_r1 f_r1 c_r2 f_r2 c_r3 f_r3 l_r c_s0 f_s0 c_s1 f_s1 c_s2 f_s2 c_s3 f_s3 l_s
        replace o_r := Dv.owns_drawn o_r gw5 (by omega)
        replace o_s := Dv.owns_drawn o_s gw5 (by omega)
        replace hG := grown_trans hG gw5
        have zw5 := gw5.size
        have c_r0 : w5.cell? ⟨w.heap.size, 0, none⟩ = some (.int .i64 0) := var_load o_r (by simp) 0 _ rfl
        have f_r0 : w5.frozen? ⟨w.heap.size, 0, none⟩ = false := var_frozen o_r (by simp) 0 _ rfl
        have c_r1 : w5.cell? ⟨w.heap.size, 1, none⟩ = some (.int .i64 0) := var_load o_r (by simp) 1 _ rfl
        have f_r1 : w5.frozen? ⟨w.heap.size, 1, none⟩ = false := var_frozen o_r (by simp) 1 _ rfl
        have c_r2 : w5.cell? ⟨w.heap.size, 2, none⟩ = some (.int .i64 0) := var_load o_r (by simp) 2 _ rfl
        have f_r2 : w5.frozen? ⟨w.heap.size, 2, none⟩ = false := var_frozen o_r (by simp) 2 _ rfl
        have c_r3 : w5.cell? ⟨w.heap.size, 3, none⟩ = some (.int .i64 0) := var_load o_r (by simp) 3 _ rfl
        have f_r3 : w5.frozen? ⟨w.heap.size, 3, none⟩ = false := var_frozen o_r (by simp) 3 _ rfl
        have l_r := var_lt o_r
        have c_s0 : w5.cell? ⟨w2.heap.size, 0, none⟩ = some (.int .i64 x.Vendor) := var_load o_s (by simp) 0 _ rfl
        have f_s0 : w5.frozen? ⟨w2.heap.size, 0, none⟩ = false := var_frozen o_s (by simp) 0 _ rfl
        have c_s1 : w5.cell? ⟨w2.heap.size, 1, none⟩ = some (.int .i64 x.Serial) := var_load o_s (by simp) 1 _ rfl
        have f_s1 : w5.frozen? ⟨w2.heap.size, 1, none⟩ = false := var_frozen o_s (by simp) 1 _ rfl
        have c_s2 : w5.cell? ⟨w2.heap.size, 2, none⟩ = some (.int .i64 x.Seed) := var_load o_s (by simp) 2 _ rfl
        have f_s2 : w5.frozen? ⟨w2.heap.size, 2, none⟩ = false := var_frozen o_s (by simp) 2 _ rfl
        have c_s3 : w5.cell? ⟨w2.heap.size, 3, none⟩ = some (.int .i64 x.Counter) := var_load o_s (by simp) 3 _ rfl
        have f_s3 : w5.frozen? ⟨w2.heap.size, 3, none⟩ = false := var_frozen o_s (by simp) 3 _ rfl
        have l_s := var_lt o_s
        go_wp2
        clear c_r0 f_r0 c_r1 f_r1 c_r2 f_r2 c_r3 f_r3 l_r c_s0 f_s0 c_s1 f_s1 c_s2 f_s2 c_s3 f_s3 l_s
        obtain ⟨w6, hw6⟩ : ∃ y, y = (w5.setCell ⟨w2.heap.size, 2, none⟩ (.int .i64 u)) := ⟨_, rfl⟩
        obtain ⟨o_new, tw6⟩ := var_some [.int .i64 u] 2 _ _ o_s (by simp)
        rw [show setAll w5 (w2.heap.size) 2 [.int .i64 u] = w6 from hw6.symm] at o_new tw6
        replace o_s : Owns w6 _ (varD 29 4 [.int .i64 x.Vendor, .int .i64 x.Serial, .int .i64 u, .int .i64 x.Counter]) _ _ := o_new
        clear o_new
        replace o_r := owns_turned o_r tw6 (fun b hb hb2 => by simp at hb hb2; omega)
        replace hG := Dv.grown_turned hG tw6 (fun b hb => by simp at hb; omega)
        replace C := Dv.cur_turned C tw6 (by omega) (by omega)
        have zw6 := tw6.2.2.2.1
        rw [← hw6]
        clear hw6
        obtain ⟨w7, hw7⟩ : ∃ y, y = ((((w6.setCell ⟨w.heap.size, 0, none⟩ (.int .i64 x.Vendor)).setCell ⟨w.heap.size, 1, none⟩ (.int .i64 x.Serial)).setCell ⟨w.heap.size, 2, none⟩ (.int .i64 u)).setCell ⟨w.heap.size, 3, none⟩ (.int .i64 x.Counter)) := ⟨_, rfl⟩
        obtain ⟨o_new, tw7⟩ := var_some [.int .i64 x.Vendor, .int .i64 x.Serial, .int .i64 u, .int .i64 x.Counter] 0 _ _ o_r (by simp)
        rw [show setAll w6 (w.heap.size) 0 [.int .i64 x.Vendor, .int .i64 x.Serial, .int .i64 u, .int .i64 x.Counter] = w7 from hw7.symm] at o_new tw7
        replace o_r : Owns w7 _ (varD 29 4 [.int .i64 x.Vendor, .int .i64 x.Serial, .int .i64 u, .int .i64 x.Counter]) _ _ := o_new
        clear o_new
        replace o_s := owns_turned o_s tw7 (fun b hb hb2 => by simp at hb hb2; omega)
        replace hG := Dv.grown_turned hG tw7 (fun b hb => by simp at hb; omega)
        replace C := Dv.cur_turned C tw7 (by omega) (by omega)
        have zw7 := tw7.2.2.2.1
        rw [← hw7]
        clear hw7
        have y0 : w7.cell? ⟨w.heap.size, 0, none⟩ = some (.int .i64 x.Vendor) := var_load o_r (by simp) 0 _ rfl
        have y1 : w7.cell? ⟨w.heap.size, 1, none⟩ = some (.int .i64 x.Serial) := var_load o_r (by simp) 1 _ rfl
        have y2 : w7.cell? ⟨w.heap.size, 2, none⟩ = some (.int .i64 u) := var_load o_r (by simp) 2 _ rfl
        have y3 : w7.cell? ⟨w.heap.size, 3, none⟩ = some (.int .i64 x.Counter) := var_load o_r (by simp) 3 _ rfl
        refine bodyPost_ret (v := .agg #[.int .i64 x.Vendor, .int .i64 x.Serial, .int .i64 u, .int .i64 x.Counter]) (by simp [results, Try.results92, go_sem, y0, y1, y2, y3]) rfl ?_
        exact ⟨⟨x.Vendor, x.Serial, u, x.Counter⟩, rfl, ⟨hx1, hx2, hu, hx4⟩, C, hG⟩
      · have e2 : (q == 2) = false := by simpa using h2
        by_cases h3 : q = 3
        · subst h3
          have HL := Lib.hid (int_lit [-1, 999999, 1000000, 1000001] 4 rfl w4 B H0 3 C (by simp) (by simp) isI64 (by simp [isI64]))
          have c_r0 : w4.cell? ⟨w.heap.size, 0, none⟩ = some (.int .i64 0) := var_load o_r (by simp) 0 _ rfl
          have f_r0 : w4.frozen? ⟨w.heap.size, 0, none⟩ = false := var_frozen o_r (by simp) 0 _ rfl
          have c_r1 : w4.cell? ⟨w.heap.size, 1, none⟩ = some (.int .i64 0) := var_load o_r (by simp) 1 _ rfl
          have f_r1 : w4.frozen? ⟨w.heap.size, 1, none⟩ = false := var_frozen o_r (by simp) 1 _ rfl
          have c_r2 : w4.cell? ⟨w.heap.size, 2, none⟩ = some (.int .i64 0) := var_load o_r (by simp) 2 _ rfl
          have f_r2 : w4.frozen? ⟨w.heap.size, 2, none⟩ = false := var_frozen o_r (by simp) 2 _ rfl
          have c_r3 : w4.cell? ⟨w.heap.size, 3, none⟩ = some (.int .i64 0) := var_load o_r (by simp) 3 _ rfl
          have f_r3 : w4.frozen? ⟨w.heap.size, 3, none⟩ = false := var_frozen o_r (by simp) 3 _ rfl
          have l_r := var_lt o_r
          have c_s0 : w4.cell? ⟨w2.heap.size, 0, none⟩ = some (.int .i64 x.Vendor) := var_load o_s (by simp) 0 _ rfl
          have f_s0 : w4.frozen? ⟨w2.heap.size, 0, none⟩ = false := var_frozen o_s (by simp) 0 _ rfl
          have c_s1 : w4.cell? ⟨w2.heap.size, 1, none⟩ = some (.int .i64 x.Serial) := var_load o_s (by simp) 1 _ rfl
          have f_s1 : w4.frozen? ⟨w2.heap.size, 1, none⟩ = false := var_frozen o_s (by simp) 1 _ rfl
          have c_s2 : w4.cell? ⟨w2.heap.size, 2, none⟩ = some (.int .i64 x.Seed) := var_load o_s (by simp) 2 _ rfl
          have f_s2 : w4.frozen? ⟨w2.heap.size, 2, none⟩ = false := var_frozen o_s (by simp) 2 _ rfl
          have c_s3 : w4.cell? ⟨w2.heap.size, 3, none⟩ = some (.int .i64 x.Counter) := var_load o_s (by simp) 3 _ rfl
          have f_s3 : w4.frozen? ⟨w2.heap.size, 3, none⟩ = false := var_frozen o_s (by simp) 3 _ rfl
          have l_s := var_lt o_s
          go_wp2_with fail
          (refine (HL.out).mono ?_); rintro e w5 ⟨u, rfl, hu, C, gw5⟩
          clear c_r0 f_r0 c_r1 f_r1 c_r2 f_r2 c_r3 f_r3 l_r c_s0 f_s0 c_s1 f_s1 c_s2 f_s2 c_s3 f_s3 l_s
          replace o_r := Dv.owns_drawn o_r gw5 (by omega)
          replace o_s := Dv.owns_drawn o_s gw5 (by omega)
          replace hG := grown_trans hG gw5
          have zw5 := gw5.size
          have c_r0 : w5.cell? ⟨w.heap.size, 0, none⟩ = some (.int .i64 0) := var_load o_r (by simp) 0 _ rfl
          have f_r0 : w5.frozen? ⟨w.heap.size, 0, none⟩ = false := var_frozen o_r (by simp) 0 _ rfl
          have c_r1 : w5.cell? ⟨w.heap.size, 1, none⟩ = some (.int .i64 0) := var_load o_r (by simp) 1 _ rfl
          have f_r1 : w5.frozen? ⟨w.heap.size, 1, none⟩ = false := var_frozen o_r (by simp) 1 _ rfl
          have c_r2 : w5.cell? ⟨w.heap.size, 2, none⟩ = some (.int .i64 0) := var_load o_r (by simp) 2 _ rfl
          have f_r2 : w5.frozen? ⟨w.heap.size, 2, none⟩ = false := var_frozen o_r (by simp) 2 _ rfl
          have c_r3 : w5.cell? ⟨w.heap.size, 3, none⟩ = some (.int .i64 0) := var_load o_r (by simp) 3 _ rfl
          have f_r3 : w5.frozen? ⟨w.heap.size, 3, none⟩ = false := var_frozen o_r (by simp) 3 _ rfl
          have l_r := var_lt o_r
          have c_s0 : w5.cell? ⟨w2.heap.size, 0, none⟩ = some (.int .i64 x.Vendor) := var_load o_s (by simp) 0 _ rfl
          have f_s0 : w5.frozen? ⟨w2.heap.size, 0, none⟩ = false := var_frozen o_s (by simp) 0 _ rfl
          have c_s1 : w5.cell? ⟨w2.heap.size, 1, none⟩ = some (.int .i64 x.Serial) := var_load o_s (by simp) 1 _ rfl
          have f_s1 : w5.frozen? ⟨w2.heap.size, 1, none⟩ = false := var_frozen o_s (by simp) 1 _ rfl
          have c_s2 : w5.cell? ⟨w2.heap.size, 2, none⟩ = some (.int .i64 x.Seed) := var_load o_s (by simp) 2 _ rfl
          have f_s2 : w5.frozen? ⟨w2.heap.size, 2, none⟩ = false := var_frozen o_s (by simp) 2 _ rfl
          have c_s3 : w5.cell? ⟨w2.heap.size, 3, none⟩ = some (.int .i64 x.Counter) := var_load o_s (by simp) 3 _ rfl
          have f_s3 : w5.frozen? ⟨w2.heap.size, 3, none⟩ = false := var_frozen o_s (by simp) 3 _ rfl
          have l_s := var_lt o_s
          go_wp2
          clear c_r0 f_r0 c_r1 f_r1 c_r2 f_r2 c_r3 f_r3 l_r c_s0 f_s0 c_s1 f_s1 c_s2 f_s2 c_s3 f_s3 l_s
          obtain ⟨w6, hw6⟩ : ∃ y, y = (w5.setCell ⟨w2.heap.size, 3, none⟩ (.int .i64 u)) := ⟨_, rfl⟩
          obtain ⟨o_new, tw6⟩ := var_some [.int .i64 u] 3 _ _ o_s (by simp)
          rw [show setAll w5 (w2.heap.size) 3 [.int .i64 u] = w6 from hw6.symm] at o_new tw6
          replace o_s : Owns w6 _ (varD 29 4 [.int .i64 x.Vendor, .int .i64 x.Serial, .int .i64 x.Seed, .int .i64 u]) _ _ := o_new
          clear o_new
          replace o_r := owns_turned o_r tw6 (fun b hb hb2 => by simp at hb hb2; omega)
          replace hG := Dv.grown_turned hG tw6 (fun b hb => by simp at hb; omega)
          replace C := Dv.cur_turned C tw6 (by omega) (by omega)
          have zw6 := tw6.2.2.2.1
          rw [← hw6]
          clear hw6
          obtain ⟨w7, hw7⟩ : ∃ y, y = ((((w6.setCell ⟨w.heap.size, 0, none⟩ (.int .i64 x.Vendor)).setCell ⟨w.heap.size, 1, none⟩ (.int .i64 x.Serial)).setCell ⟨w.heap.size, 2, none⟩ (.int .i64 x.Seed)).setCell ⟨w.heap.size, 3, none⟩ (.int .i64 u)) := ⟨_, rfl⟩
          obtain ⟨o_new, tw7⟩ := var_some [.int .i64 x.Vendor, .int .i64 x.Serial, .int .i64 x.Seed, .int .i64 u] 0 _ _ o_r (by simp)
          rw [show setAll w6 (w.heap.size) 0 [.int .i64 x.Vendor, .int .i64 x.Serial, .int .i64 x.Seed, .int .i64 u] = w7 from hw7.symm] at o_new tw7
          replace o_r : Owns w7 _ (varD 29 4 [.int .i64 x.Vendor, .int .i64 x.Serial, .int .i64 x.Seed, .int .i64 u]) _ _ := o_new
          clear o_new
          replace o_s := owns_turned o_s tw7 (fun b hb hb2 => by simp at hb hb2; omega)
          replace hG := Dv.grown_turned hG tw7 (fun b hb => by simp at hb; omega)
          replace C := Dv.cur_turned C tw7 (by omega) (by omega)
          have zw7 := tw7.2.2.2.1
          rw [← hw7]
          clear hw7
          have y0 : w7.cell? ⟨w.heap.size, 0, none⟩ = some (.int .i64 x.Vendor) := var_load o_r (by simp) 0 _ rfl
          have y1 : w7.cell? ⟨w.heap.size, 1, none⟩ = some (.int .i64 x.Serial) := var_load o_r (by simp) 1 _ rfl
          have y2 : w7.cell? ⟨w.heap.size, 2, none⟩ = some (.int .i64 x.Seed) := var_load o_r (by simp) 2 _ rfl
          have y3 : w7.cell? ⟨w.heap.size, 3, none⟩ = some (.int .i64 u) := var_load o_r (by simp) 3 _ rfl
          refine bodyPost_ret (v := .agg #[.int .i64 x.Vendor, .int .i64 x.Serial, .int .i64 x.Seed, .int .i64 u]) (by simp [results, Try.results92, go_sem, y0, y1, y2, y3]) rfl ?_
          exact ⟨⟨x.Vendor, x.Serial, x.Seed, u⟩, rfl, ⟨hx1, hx2, hx3, hu⟩, C, hG⟩
        · have e3 : (q == 3) = false := by simpa using h3
          have c_r0 : w4.cell? ⟨w.heap.size, 0, none⟩ = some (.int .i64 0) := var_load o_r (by simp) 0 _ rfl
          have f_r0 : w4.frozen? ⟨w.heap.size, 0, none⟩ = false := var_frozen o_r (by simp) 0 _ rfl
          have c_r1 : w4.cell? ⟨w.heap.size, 1, none⟩ = some (.int .i64 0) := var_load o_r (by simp) 1 _ rfl
          have f_r1 : w4.frozen? ⟨w.heap.size, 1, none⟩ = false := var_frozen o_r (by simp) 1 _ rfl
          have c_r2 : w4.cell? ⟨w.heap.size, 2, none⟩ = some (.int .i64 0) := var_load o_r (by simp) 2 _ rfl
          have f_r2 : w4.frozen? ⟨w.heap.size, 2, none⟩ = false := var_frozen o_r (by simp) 2 _ rfl
          have c_r3 : w4.cell? ⟨w.heap.size, 3, none⟩ = some (.int .i64 0) := var_load o_r (by simp) 3 _ rfl
          have f_r3 : w4.frozen? ⟨w.heap.size, 3, none⟩ = false := var_frozen o_r (by simp) 3 _ rfl
          have l_r := var_lt o_r
          have c_s0 : w4.cell? ⟨w2.heap.size, 0, none⟩ = some (.int .i64 x.Vendor) := var_load o_s (by simp) 0 _ rfl
          have f_s0 : w4.frozen? ⟨w2.heap.size, 0, none⟩ = false := var_frozen o_s (by simp) 0 _ rfl
          have c_s1 : w4.cell? ⟨w2.heap.size, 1, none⟩ = some (.int .i64 x.Serial) := var_load o_s (by simp) 1 _ rfl
          have f_s1 : w4.frozen? ⟨w2.heap.size, 1, none⟩ = false := var_frozen o_s (by simp) 1 _ rfl
          have c_s2 : w4.cell? ⟨w2.heap.size, 2, none⟩ = some (.int .i64 x.Seed) := var_load o_s (by simp) 2 _ rfl
          have f_s2 : w4.frozen? ⟨w2.heap.size, 2, none⟩ = false := var_frozen o_s (by simp) 2 _ rfl
          have c_s3 : w4.cell? ⟨w2.heap.size, 3, none⟩ = some (.int .i64 x.Counter) := var_load o_s (by simp) 3 _ rfl
          have f_s3 : w4.frozen? ⟨w2.heap.size, 3, none⟩ = false := var_frozen o_s (by simp) 3 _ rfl
          have l_s := var_lt o_s
          go_wp2
          clear c_r0 f_r0 c_r1 f_r1 c_r2 f_r2 c_r3 f_r3 l_r c_s0 f_s0 c_s1 f_s1 c_s2 f_s2 c_s3 f_s3 l_s
          obtain ⟨w5, hw5⟩ : ∃ y, y = ((((w4.setCell ⟨w.heap.size, 0, none⟩ (.int .i64 x.Vendor)).setCell ⟨w.heap.size, 1, none⟩ (.int .i64 x.Serial)).setCell ⟨w.heap.size, 2, none⟩ (.int .i64 x.Seed)).setCell ⟨w.heap.size, 3, none⟩ (.int .i64 x.Counter)) := ⟨_, rfl⟩
          obtain ⟨o_new, tw5⟩ := var_some [.int .i64 x.Vendor, .int .i64 x.Serial, .int .i64 x.Seed, .int .i64 x.Counter] 0 _ _ o_r (by simp)
          rw [show setAll w4 (w.heap.size) 0 [.int .i64 x.Vendor, .int .i64 x.Serial, .int .i64 x.Seed, .int .i64 x.Counter] = w5 from hw5.symm] at o_new tw5
          replace o_r : Owns w5 _ (varD 29 4 [.int .i64 x.Vendor, .int .i64 x.Serial, .int .i64 x.Seed, .int .i64 x.Counter]) _ _ := o_new
          clear o_new
          replace o_s := owns_turned o_s tw5 (fun b hb hb2 => by simp at hb hb2; omega)
          replace hG := Dv.grown_turned hG tw5 (fun b hb => by simp at hb; omega)
          replace C := Dv.cur_turned C tw5 (by omega) (by omega)
          have zw5 := tw5.2.2.2.1
          rw [← hw5]
          clear hw5
          have y0 : w5.cell? ⟨w.heap.size, 0, none⟩ = some (.int .i64 x.Vendor) := var_load o_r (by simp) 0 _ rfl
          have y1 : w5.cell? ⟨w.heap.size, 1, none⟩ = some (.int .i64 x.Serial) := var_load o_r (by simp) 1 _ rfl
          have y2 : w5.cell? ⟨w.heap.size, 2, none⟩ = some (.int .i64 x.Seed) := var_load o_r (by simp) 2 _ rfl
          have y3 : w5.cell? ⟨w.heap.size, 3, none⟩ = some (.int .i64 x.Counter) := var_load o_r (by simp) 3 _ rfl
          refine bodyPost_ret (v := .agg #[.int .i64 x.Vendor, .int .i64 x.Serial, .int .i64 x.Seed, .int .i64 x.Counter]) (by simp [results, Try.results92, go_sem, y0, y1, y2, y3]) rfl ?_
          exact ⟨⟨x.Vendor, x.Serial, x.Seed, x.Counter⟩, rfl, ⟨hx1, hx2, hx3, hx4⟩, C, hG⟩
def EndP (w : World) (e : Ending) (w' : World) : Prop := ∃ (x : Fx.KeyStore) (u : ByteArray) (q : Int), e = .returned (.tuple #[.agg #[.int .i64 x.Vendor, .int .i64 x.Serial, .int .i64 x.Seed, .int .i64 x.Counter], .string u, .int .i64 q]) ∧ okK x ∧ u ∈ hosts ∧ (0 ≤ q ∧ q ≤ 4) ∧ Below w.heap.size w w'
set_option maxHeartbeats 3200000 in
theorem sitePrivate (w : World) (H0 : Nat) (v : Value) (hc : C0.Code w H0 v) (h0 : H0 ≤ w.heap.size) : Calls Try.prog 71 #[v] w (EndP w) := by
  go_enter Try.func71, Try.ntmps71
  obtain ⟨w1, hw1⟩ : ∃ y, y = w.alloc (.cells #[.int .i64 0, .int .i64 0, .int .i64 0, .int .i64 0] 29) := ⟨_, rfl⟩
  have o_r := var_owns w 29 4 [.int .i64 0, .int .i64 0, .int .i64 0, .int .i64 0] rfl
  have bw1 : Below w.heap.size w w1 := hw1 ▸ (Below.refl _ _).alloc (Nat.le_refl _) _
  rw [← hw1] at o_r
  have sw1 : w1.heap.size = w.heap.size + 1 := by rw [hw1]; simp
  have zw1 : w.heap.size < w1.heap.size := by rw [hw1]; simp
  have HB := bw1
  have hc0 : C0.Code w1 H0 v := hc.below (HB.mono h0)
  go_wp2_with fail
  rw [← hw1]
  clear hw1 sw1
  (with_reducible refine (new_any _ H0 v hc0 (by omega)).mono ?_); rintro e w2 ⟨rfl, C, gw2⟩
  replace o_r := owns_turned o_r (turned_grown gw2) (fun b h1 h2 => by simp at h2)
  replace HB := HB.trans (grown_below gw2 (by omega) (fun r h => by cases h))
  have zw2 := gw2.size
  have c_r0 : w2.cell? ⟨w.heap.size, 0, none⟩ = some (.int .i64 0) := var_load o_r (by simp) 0 _ rfl
  have f_r0 : w2.frozen? ⟨w.heap.size, 0, none⟩ = false := var_frozen o_r (by simp) 0 _ rfl
  have c_r1 : w2.cell? ⟨w.heap.size, 1, none⟩ = some (.int .i64 0) := var_load o_r (by simp) 1 _ rfl
  have f_r1 : w2.frozen? ⟨w.heap.size, 1, none⟩ = false := var_frozen o_r (by simp) 1 _ rfl
  have c_r2 : w2.cell? ⟨w.heap.size, 2, none⟩ = some (.int .i64 0) := var_load o_r (by simp) 2 _ rfl
  have f_r2 : w2.frozen? ⟨w.heap.size, 2, none⟩ = false := var_frozen o_r (by simp) 2 _ rfl
  have c_r3 : w2.cell? ⟨w.heap.size, 3, none⟩ = some (.int .i64 0) := var_load o_r (by simp) 3 _ rfl
  have f_r3 : w2.frozen? ⟨w.heap.size, 3, none⟩ = false := var_frozen o_r (by simp) 3 _ rfl
  have l_r := var_lt o_r
  go_wp2_with fail
  (with_reducible refine (any_any _ _ H0 C).mono ?_); rintro e w3 ⟨x, rfl, hx, C, gw3⟩
  clear c_r0 f_r0 c_r1 f_r1 c_r2 f_r2 c_r3 f_r3 l_r
  replace o_r := Dv.owns_drawn o_r gw3 (by omega)
  replace HB := HB.trans (grown_below gw3 (by omega) (fun r h => by cases h; omega))
  have zw3 := gw3.size
  have c_r0 : w3.cell? ⟨w.heap.size, 0, none⟩ = some (.int .i64 0) := var_load o_r (by simp) 0 _ rfl
  have f_r0 : w3.frozen? ⟨w.heap.size, 0, none⟩ = false := var_frozen o_r (by simp) 0 _ rfl
  have c_r1 : w3.cell? ⟨w.heap.size, 1, none⟩ = some (.int .i64 0) := var_load o_r (by simp) 1 _ rfl
  have f_r1 : w3.frozen? ⟨w.heap.size, 1, none⟩ = false := var_frozen o_r (by simp) 1 _ rfl
  have c_r2 : w3.cell? ⟨w.heap.size, 2, none⟩ = some (.int .i64 0) := var_load o_r (by simp) 2 _ rfl
  have f_r2 : w3.frozen? ⟨w.heap.size, 2, none⟩ = false := var_frozen o_r (by simp) 2 _ rfl
  have c_r3 : w3.cell? ⟨w.heap.size, 3, none⟩ = some (.int .i64 0) := var_load o_r (by simp) 3 _ rfl
  have f_r3 : w3.frozen? ⟨w.heap.size, 3, none⟩ = false := var_frozen o_r (by simp) 3 _ rfl
  have l_r := var_lt o_r
  obtain ⟨w4, hw4⟩ : ∃ y, y = w3.alloc (.cells #[.int .i64 x.Vendor, .int .i64 x.Serial, .int .i64 x.Seed, .int .i64 x.Counter] 29) := ⟨_, rfl⟩
  have o_s := var_owns w3 29 4 [.int .i64 x.Vendor, .int .i64 x.Serial, .int .i64 x.Seed, .int .i64 x.Counter] rfl
  have bw4 : Below w3.heap.size w3 w4 := hw4 ▸ (Below.refl _ _).alloc (Nat.le_refl _) _
  rw [← hw4] at o_s
  have sw4 : w4.heap.size = w3.heap.size + 1 := by rw [hw4]; simp
  have zw4 : w3.heap.size < w4.heap.size := by rw [hw4]; simp
  have n_s : w3.heap.size ≠ w1.heap.size := by have := C.lt; have := C.low; omega
  have m_s : H0 ≤ w3.heap.size := by have := C.lt; have := C.low; omega
  replace C : IsCur w4 w1.heap.size H0 := hw4 ▸ C.alloc _
  replace o_r := owns_below o_r bw4
  replace HB := HB.trans (bw4.mono HB.size)
  go_wp2_with fail
  rw [← hw4]
  clear hw4 sw4
  (with_reducible refine (host_in _ _ H0 C).mono ?_); rintro e w5 ⟨u, rfl, hu, C, gw5⟩
  clear c_r0 f_r0 c_r1 f_r1 c_r2 f_r2 c_r3 f_r3 l_r
  replace o_r := Dv.owns_drawn o_r gw5 (by omega)
  replace o_s := Dv.owns_drawn o_s gw5 (by omega)
  replace HB := HB.trans (grown_below gw5 (by omega) (fun r h => by cases h; omega))
  have zw5 := gw5.size
  have c_r0 : w5.cell? ⟨w.heap.size, 0, none⟩ = some (.int .i64 0) := var_load o_r (by simp) 0 _ rfl
  have f_r0 : w5.frozen? ⟨w.heap.size, 0, none⟩ = false := var_frozen o_r (by simp) 0 _ rfl
  have c_r1 : w5.cell? ⟨w.heap.size, 1, none⟩ = some (.int .i64 0) := var_load o_r (by simp) 1 _ rfl
  have f_r1 : w5.frozen? ⟨w.heap.size, 1, none⟩ = false := var_frozen o_r (by simp) 1 _ rfl
  have c_r2 : w5.cell? ⟨w.heap.size, 2, none⟩ = some (.int .i64 0) := var_load o_r (by simp) 2 _ rfl
  have f_r2 : w5.frozen? ⟨w.heap.size, 2, none⟩ = false := var_frozen o_r (by simp) 2 _ rfl
  have c_r3 : w5.cell? ⟨w.heap.size, 3, none⟩ = some (.int .i64 0) := var_load o_r (by simp) 3 _ rfl
  have f_r3 : w5.frozen? ⟨w.heap.size, 3, none⟩ = false := var_frozen o_r (by simp) 3 _ rfl
  have l_r := var_lt o_r
  have c_s0 : w5.cell? ⟨w3.heap.size, 0, none⟩ = some (.int .i64 x.Vendor) := var_load o_s (by simp) 0 _ rfl
  have f_s0 : w5.frozen? ⟨w3.heap.size, 0, none⟩ = false := var_frozen o_s (by simp) 0 _ rfl
  have c_s1 : w5.cell? ⟨w3.heap.size, 1, none⟩ = some (.int .i64 x.Serial) := var_load o_s (by simp) 1 _ rfl
  have f_s1 : w5.frozen? ⟨w3.heap.size, 1, none⟩ = false := var_frozen o_s (by simp) 1 _ rfl
  have c_s2 : w5.cell? ⟨w3.heap.size, 2, none⟩ = some (.int .i64 x.Seed) := var_load o_s (by simp) 2 _ rfl
  have f_s2 : w5.frozen? ⟨w3.heap.size, 2, none⟩ = false := var_frozen o_s (by simp) 2 _ rfl
  have c_s3 : w5.cell? ⟨w3.heap.size, 3, none⟩ = some (.int .i64 x.Counter) := var_load o_s (by simp) 3 _ rfl
  have f_s3 : w5.frozen? ⟨w3.heap.size, 3, none⟩ = false := var_frozen o_s (by simp) 3 _ rfl
  have l_s := var_lt o_s
  go_wp2_with fail
  clear c_r0 f_r0 c_r1 f_r1 c_r2 f_r2 c_r3 f_r3 l_r c_s0 f_s0 c_s1 f_s1 c_s2 f_s2 c_s3 f_s3 l_s
  obtain ⟨w6, hw6⟩ : ∃ y, y = w5.drew := ⟨_, rfl⟩
  have bw6 : Below w5.heap.size w5 w6 := hw6 ▸ drewN_below w5 1 _
  replace C : IsCur w6 w1.heap.size H0 := hw6 ▸ C.drewN 1
  replace o_r := owns_below o_r bw6
  replace o_s := owns_below o_s bw6
  replace HB := HB.trans (bw6.mono HB.size)
  have zw6 := bw6.size
  refine wp_region_held_drew (S := (fun wx => wx.cell? ⟨w3.heap.size, 0, none⟩ = some (.int .i64 x.Vendor) ∧ wx.cell? ⟨w3.heap.size, 1, none⟩ = some (.int .i64 x.Serial) ∧ wx.cell? ⟨w3.heap.size, 2, none⟩ = some (.int .i64 x.Seed) ∧ wx.cell? ⟨w3.heap.size, 3, none⟩ = some (.int .i64 x.Counter))) (by kernel_rfl) ?_ (fun hHeld => ?_)
  · rw [← hw6]; exact ⟨var_load o_s (by simp) 0 _ rfl, var_load o_s (by simp) 1 _ rfl, var_load o_s (by simp) 2 _ rfl, var_load o_s (by simp) 3 _ rfl⟩
  rw [← hw6] at hHeld ⊢
  clear hw6
  refine wpAnyH_take (i := 0) (oi := ?oir_0_1) (v := ?vr_0_1) ?hir_0_1 (by kernel_rfl) (by kernel_rfl) (by kernel_rfl) ?hQr_0_1 (Or.inl ⟨?hwr_0_1, ?hyr_0_1⟩) (by assumption) ?_
  case hir_0_1 => simp only [List.getElem?_toArray, List.getElem?_cons_zero]; rfl
  case hQr_0_1 => exact fun _ _ _ h => h
  case hwr_0_1 => rfl
  case hyr_0_1 => intro w hSw; (try dsimp only at hSw); (first | (go_simp; done) | (go_simp; with_reducible rfl))
  try simp only [Act.put, List.setIfInBounds_toArray, List.set_cons_zero, List.set_cons_succ]
  refine wpAnyH_take (i := 1) (oi := ?oir_1_2) (v := ?vr_1_2) ?hir_1_2 (by kernel_rfl) (by kernel_rfl) (by kernel_rfl) ?hQr_1_2 (Or.inl ⟨?hwr_1_2, ?hyr_1_2⟩) (by assumption) ?_
  case hir_1_2 => simp only [List.getElem?_toArray, List.getElem?_cons_succ, List.getElem?_cons_zero]; rfl
  case hQr_1_2 => exact fun _ _ _ h => h
  case hwr_1_2 => rfl
  case hyr_1_2 => intro w hSw; (try dsimp only at hSw); (first | (go_simp; done) | (go_simp; with_reducible rfl))
  try simp only [Act.put, List.setIfInBounds_toArray, List.set_cons_zero, List.set_cons_succ]
  refine wpAnyH_take (i := 2) (oi := ?oir_2_3) (v := ?vr_2_3) ?hir_2_3 (by kernel_rfl) (by kernel_rfl) (by kernel_rfl) ?hQr_2_3 (Or.inl ⟨?hwr_2_3, ?hyr_2_3⟩) (by assumption) ?_
  case hir_2_3 => simp only [List.getElem?_toArray, List.getElem?_cons_succ, List.getElem?_cons_zero]; rfl
  case hQr_2_3 => exact fun _ _ _ h => h
  case hwr_2_3 => rfl
  case hyr_2_3 => intro w hSw; (try dsimp only at hSw); (first | (go_simp; done) | (go_simp; with_reducible rfl))
  try simp only [Act.put, List.setIfInBounds_toArray, List.set_cons_zero, List.set_cons_succ]
  refine wpAnyH_ready (rs := [3]) (by kernel_rfl) (by simp) ?_
  refine AllReadyH.cons (o := ?or_3_4) ?hir_3_4 (fun K hK => ?gr_3_4) AllReadyH.nil
  case hir_3_4 => simp only [List.getElem?_toArray, List.getElem?_cons_succ, List.getElem?_cons_zero]; rfl
  case gr_3_4 =>
    go_simp
    go_at_call 94
    (with_reducible refine (below_any _ _ H0 5 C).mono ?_); rintro e w7 ⟨q, rfl, ⟨hq0, hq1⟩, C, gw7⟩
    replace o_r := Dv.owns_drawn o_r gw7 (by omega)
    replace o_s := Dv.owns_drawn o_s gw7 (by omega)
    replace HB := HB.trans (grown_below gw7 (by omega) (fun r h => by cases h; omega))
    have zw7 := gw7.size
    replace hq1 : q ≤ 4 := by omega
    refine hK.out _ _ ?_ (fun hHeld => ?_)
    · exact ⟨var_load o_s (by simp) 0 _ rfl, var_load o_s (by simp) 1 _ rfl, var_load o_s (by simp) 2 _ rfl, var_load o_s (by simp) 3 _ rfl⟩
    clear hK K
    try simp only [Act.put, List.setIfInBounds_toArray, List.set_cons_zero, List.set_cons_succ]
    refine wpAnyH_ready (rs := [4]) (by kernel_rfl) (by simp) ?_
    refine AllReadyH.cons (o := ?or_4_5) ?hir_4_5 (fun K hK => ?gr_4_5) AllReadyH.nil
    case hir_4_5 => simp only [List.getElem?_toArray, List.getElem?_cons_succ, List.getElem?_cons_zero]; rfl
    case gr_4_5 =>
      have c_r0 : w7.cell? ⟨w.heap.size, 0, none⟩ = some (.int .i64 0) := var_load o_r (by simp) 0 _ rfl
      have f_r0 : w7.frozen? ⟨w.heap.size, 0, none⟩ = false := var_frozen o_r (by simp) 0 _ rfl
      have c_r1 : w7.cell? ⟨w.heap.size, 1, none⟩ = some (.int .i64 0) := var_load o_r (by simp) 1 _ rfl
      have f_r1 : w7.frozen? ⟨w.heap.size, 1, none⟩ = false := var_frozen o_r (by simp) 1 _ rfl
      have c_r2 : w7.cell? ⟨w.heap.size, 2, none⟩ = some (.int .i64 0) := var_load o_r (by simp) 2 _ rfl
      have f_r2 : w7.frozen? ⟨w.heap.size, 2, none⟩ = false := var_frozen o_r (by simp) 2 _ rfl
      have c_r3 : w7.cell? ⟨w.heap.size, 3, none⟩ = some (.int .i64 0) := var_load o_r (by simp) 3 _ rfl
      have f_r3 : w7.frozen? ⟨w.heap.size, 3, none⟩ = false := var_frozen o_r (by simp) 3 _ rfl
      have l_r := var_lt o_r
      have c_s0 : w7.cell? ⟨w3.heap.size, 0, none⟩ = some (.int .i64 x.Vendor) := var_load o_s (by simp) 0 _ rfl
      have f_s0 : w7.frozen? ⟨w3.heap.size, 0, none⟩ = false := var_frozen o_s (by simp) 0 _ rfl
      have c_s1 : w7.cell? ⟨w3.heap.size, 1, none⟩ = some (.int .i64 x.Serial) := var_load o_s (by simp) 1 _ rfl
      have f_s1 : w7.frozen? ⟨w3.heap.size, 1, none⟩ = false := var_frozen o_s (by simp) 1 _ rfl
      have c_s2 : w7.cell? ⟨w3.heap.size, 2, none⟩ = some (.int .i64 x.Seed) := var_load o_s (by simp) 2 _ rfl
      have f_s2 : w7.frozen? ⟨w3.heap.size, 2, none⟩ = false := var_frozen o_s (by simp) 2 _ rfl
      have c_s3 : w7.cell? ⟨w3.heap.size, 3, none⟩ = some (.int .i64 x.Counter) := var_load o_s (by simp) 3 _ rfl
      have f_s3 : w7.frozen? ⟨w3.heap.size, 3, none⟩ = false := var_frozen o_s (by simp) 3 _ rfl
      have l_s := var_lt o_s
      go_simp
      clear c_r0 f_r0 c_r1 f_r1 c_r2 f_r2 c_r3 f_r3 l_r c_s0 f_s0 c_s1 f_s1 c_s2 f_s2 c_s3 f_s3 l_s
      obtain ⟨w8, hw8⟩ : ∃ y, y = ((((w7.setCell ⟨w.heap.size, 0, none⟩ (.int .i64 x.Vendor)).setCell ⟨w.heap.size, 1, none⟩ (.int .i64 x.Serial)).setCell ⟨w.heap.size, 2, none⟩ (.int .i64 x.Seed)).setCell ⟨w.heap.size, 3, none⟩ (.int .i64 x.Counter)) := ⟨_, rfl⟩
      obtain ⟨o_new, tw8⟩ := var_some [.int .i64 x.Vendor, .int .i64 x.Serial, .int .i64 x.Seed, .int .i64 x.Counter] 0 _ _ o_r (by simp)
      rw [show setAll w7 (w.heap.size) 0 [.int .i64 x.Vendor, .int .i64 x.Serial, .int .i64 x.Seed, .int .i64 x.Counter] = w8 from hw8.symm] at o_new tw8
      replace o_r : Owns w8 _ (varD 29 4 [.int .i64 x.Vendor, .int .i64 x.Serial, .int .i64 x.Seed, .int .i64 x.Counter]) _ _ := o_new
      clear o_new
      replace o_s := owns_turned o_s tw8 (fun b hb hb2 => by simp at hb hb2; omega)
      replace HB := below_turned HB tw8 (fun b hb => by simp at hb; omega)
      replace C := Dv.cur_turned C tw8 (by omega) (by omega)
      have zw8 := tw8.2.2.2.1
      rw [← hw8]
      clear hw8
      refine hK.out _ _ ?_ (fun hHeld => ?_)
      · exact ⟨var_load o_s (by simp) 0 _ rfl, var_load o_s (by simp) 1 _ rfl, var_load o_s (by simp) 2 _ rfl, var_load o_s (by simp) 3 _ rfl⟩
      clear hK K
      try simp only [Act.put, List.setIfInBounds_toArray, List.set_cons_zero, List.set_cons_succ]
      refine wpAnyH_take (i := 5) (oi := ?oir_5_6) (v := ?vr_5_6) ?hir_5_6 (by kernel_rfl) (by kernel_rfl) (by kernel_rfl) ?hQr_5_6 (Or.inl ⟨?hwr_5_6, ?hyr_5_6⟩) (by assumption) ?_
      case hir_5_6 => simp only [List.getElem?_toArray, List.getElem?_cons_succ, List.getElem?_cons_zero]; rfl
      case hQr_5_6 => exact fun _ _ _ h => h
      case hwr_5_6 => rfl
      case hyr_5_6 => intro w hSw; (try dsimp only at hSw); (first | (go_simp; done) | (go_simp; with_reducible rfl))
      try simp only [Act.put, List.setIfInBounds_toArray, List.set_cons_zero, List.set_cons_succ]
      refine wpAnyH_take (i := 6) (oi := ?oir_6_7) (v := ?vr_6_7) ?hir_6_7 (by kernel_rfl) (by kernel_rfl) (by kernel_rfl) ?hQr_6_7 (Or.inl ⟨?hwr_6_7, ?hyr_6_7⟩) (by assumption) ?_
      case hir_6_7 => simp only [List.getElem?_toArray, List.getElem?_cons_succ, List.getElem?_cons_zero]; rfl
      case hQr_6_7 => exact fun _ _ _ h => h
      case hwr_6_7 => rfl
      case hyr_6_7 => intro w hSw; (try dsimp only at hSw); (first | (go_simp; done) | (go_simp; with_reducible rfl))
      try simp only [Act.put, List.setIfInBounds_toArray, List.set_cons_zero, List.set_cons_succ]
      refine wpAnyH_done (by kernel_rfl) ?_ _
      go_wp2
      have y0 : w8.cell? ⟨w.heap.size, 0, none⟩ = some (.int .i64 x.Vendor) := var_load o_r (by simp) 0 _ rfl
      have y1 : w8.cell? ⟨w.heap.size, 1, none⟩ = some (.int .i64 x.Serial) := var_load o_r (by simp) 1 _ rfl
      have y2 : w8.cell? ⟨w.heap.size, 2, none⟩ = some (.int .i64 x.Seed) := var_load o_r (by simp) 2 _ rfl
      have y3 : w8.cell? ⟨w.heap.size, 3, none⟩ = some (.int .i64 x.Counter) := var_load o_r (by simp) 3 _ rfl
      refine bodyPost_ret (v := .tuple #[.agg #[.int .i64 x.Vendor, .int .i64 x.Serial, .int .i64 x.Seed, .int .i64 x.Counter], .string u, .int .i64 q]) (by simp [results, Try.results71, go_sem, y0, y1, y2, y3]) rfl ?_
      exact ⟨x, u, q, rfl, hx, hu, ⟨hq0, hq1⟩, HB⟩
def EndG (w : World) (e : Ending) (w' : World) : Prop := ∃ (x : Fx.KeyStore) (u : ByteArray) (q : Int) (A : Option Addr) (n c : Nat) (ys : List Int), e = .returned (.tuple #[.agg #[.int .i64 x.Vendor, .int .i64 x.Serial, .int .i64 x.Seed, .int .i64 x.Counter], .string u, .int .i64 q, .slice A n c]) ∧ okK x ∧ u ∈ hosts ∧ (0 ≤ q ∧ q ≤ 4) ∧ words ys ∧ ys.length ≤ 4 ∧ w'.ownsRow w.heap.size 3 1 (.slice A n c) n (ints .i64 ys) ∧ Below w.heap.size w w'
set_option maxHeartbeats 3200000 in
theorem signWithStore (w : World) (H0 : Nat) (v : Value) (hc : C0.Code w H0 v) (h0 : H0 ≤ w.heap.size) : Calls Try.prog 36 #[v] w (EndG w) := by
  go_enter Try.func36, Try.ntmps36
  obtain ⟨w1, hw1⟩ : ∃ y, y = w.alloc (.cells #[.int .i64 0, .int .i64 0, .int .i64 0, .int .i64 0] 29) := ⟨_, rfl⟩
  have o_r := var_owns w 29 4 [.int .i64 0, .int .i64 0, .int .i64 0, .int .i64 0] rfl
  have bw1 : Below w.heap.size w w1 := hw1 ▸ (Below.refl _ _).alloc (Nat.le_refl _) _
  rw [← hw1] at o_r
  have sw1 : w1.heap.size = w.heap.size + 1 := by rw [hw1]; simp
  have zw1 : w.heap.size < w1.heap.size := by rw [hw1]; simp
  have HB := bw1
  have hc0 : C0.Code w1 H0 v := hc.below (HB.mono h0)
  go_wp2_with fail
  rw [← hw1]
  clear hw1 sw1
  (with_reducible refine (sitePrivate _ H0 v hc0 (by omega)).mono ?_); rintro e w2 ⟨x, u, q, rfl, hx, hu, hq, bw2⟩
  replace o_r := owns_below o_r bw2
  replace HB := HB.trans (bw2.mono HB.size)
  have zw2 := bw2.size
  have c_r0 : w2.cell? ⟨w.heap.size, 0, none⟩ = some (.int .i64 0) := var_load o_r (by simp) 0 _ rfl
  have f_r0 : w2.frozen? ⟨w.heap.size, 0, none⟩ = false := var_frozen o_r (by simp) 0 _ rfl
  have c_r1 : w2.cell? ⟨w.heap.size, 1, none⟩ = some (.int .i64 0) := var_load o_r (by simp) 1 _ rfl
  have f_r1 : w2.frozen? ⟨w.heap.size, 1, none⟩ = false := var_frozen o_r (by simp) 1 _ rfl
  have c_r2 : w2.cell? ⟨w.heap.size, 2, none⟩ = some (.int .i64 0) := var_load o_r (by simp) 2 _ rfl
  have f_r2 : w2.frozen? ⟨w.heap.size, 2, none⟩ = false := var_frozen o_r (by simp) 2 _ rfl
  have c_r3 : w2.cell? ⟨w.heap.size, 3, none⟩ = some (.int .i64 0) := var_load o_r (by simp) 3 _ rfl
  have f_r3 : w2.frozen? ⟨w.heap.size, 3, none⟩ = false := var_frozen o_r (by simp) 3 _ rfl
  have l_r := var_lt o_r
  obtain ⟨w3, hw3⟩ : ∃ y, y = w2.alloc (.cells #[.int .i64 x.Vendor, .int .i64 x.Serial, .int .i64 x.Seed, .int .i64 x.Counter] 29) := ⟨_, rfl⟩
  have o_s := var_owns w2 29 4 [.int .i64 x.Vendor, .int .i64 x.Serial, .int .i64 x.Seed, .int .i64 x.Counter] rfl
  have bw3 : Below w2.heap.size w2 w3 := hw3 ▸ (Below.refl _ _).alloc (Nat.le_refl _) _
  rw [← hw3] at o_s
  have sw3 : w3.heap.size = w2.heap.size + 1 := by rw [hw3]; simp
  have zw3 : w2.heap.size < w3.heap.size := by rw [hw3]; simp
  replace o_r := owns_below o_r bw3
  replace HB := HB.trans (bw3.mono HB.size)
  have hc1 : C0.Code w3 H0 v := hc.below (HB.mono h0)
  have hz1 := HB.size
  go_wp2_with fail
  rw [← hw3]
  clear hw3 sw3
  (with_reducible refine (new_any _ H0 v hc1 (by omega)).mono ?_); rintro e w4 ⟨rfl, C, gw4⟩
  clear c_r0 f_r0 c_r1 f_r1 c_r2 f_r2 c_r3 f_r3 l_r
  replace o_r := owns_turned o_r (turned_grown gw4) (fun b h1 h2 => by simp at h2)
  replace o_s := owns_turned o_s (turned_grown gw4) (fun b h1 h2 => by simp at h2)
  replace HB := HB.trans (grown_below gw4 (by omega) (fun r h => by cases h))
  have zw4 := gw4.size
  have c_r0 : w4.cell? ⟨w.heap.size, 0, none⟩ = some (.int .i64 0) := var_load o_r (by simp) 0 _ rfl
  have f_r0 : w4.frozen? ⟨w.heap.size, 0, none⟩ = false := var_frozen o_r (by simp) 0 _ rfl
  have c_r1 : w4.cell? ⟨w.heap.size, 1, none⟩ = some (.int .i64 0) := var_load o_r (by simp) 1 _ rfl
  have f_r1 : w4.frozen? ⟨w.heap.size, 1, none⟩ = false := var_frozen o_r (by simp) 1 _ rfl
  have c_r2 : w4.cell? ⟨w.heap.size, 2, none⟩ = some (.int .i64 0) := var_load o_r (by simp) 2 _ rfl
  have f_r2 : w4.frozen? ⟨w.heap.size, 2, none⟩ = false := var_frozen o_r (by simp) 2 _ rfl
  have c_r3 : w4.cell? ⟨w.heap.size, 3, none⟩ = some (.int .i64 0) := var_load o_r (by simp) 3 _ rfl
  have f_r3 : w4.frozen? ⟨w.heap.size, 3, none⟩ = false := var_frozen o_r (by simp) 3 _ rfl
  have l_r := var_lt o_r
  have c_s0 : w4.cell? ⟨w2.heap.size, 0, none⟩ = some (.int .i64 x.Vendor) := var_load o_s (by simp) 0 _ rfl
  have f_s0 : w4.frozen? ⟨w2.heap.size, 0, none⟩ = false := var_frozen o_s (by simp) 0 _ rfl
  have c_s1 : w4.cell? ⟨w2.heap.size, 1, none⟩ = some (.int .i64 x.Serial) := var_load o_s (by simp) 1 _ rfl
  have f_s1 : w4.frozen? ⟨w2.heap.size, 1, none⟩ = false := var_frozen o_s (by simp) 1 _ rfl
  have c_s2 : w4.cell? ⟨w2.heap.size, 2, none⟩ = some (.int .i64 x.Seed) := var_load o_s (by simp) 2 _ rfl
  have f_s2 : w4.frozen? ⟨w2.heap.size, 2, none⟩ = false := var_frozen o_s (by simp) 2 _ rfl
  have c_s3 : w4.cell? ⟨w2.heap.size, 3, none⟩ = some (.int .i64 x.Counter) := var_load o_s (by simp) 3 _ rfl
  have f_s3 : w4.frozen? ⟨w2.heap.size, 3, none⟩ = false := var_frozen o_s (by simp) 3 _ rfl
  have l_s := var_lt o_s
  go_wp2_with fail
  clear c_r0 f_r0 c_r1 f_r1 c_r2 f_r2 c_r3 f_r3 l_r c_s0 f_s0 c_s1 f_s1 c_s2 f_s2 c_s3 f_s3 l_s
  obtain ⟨w5, hw5⟩ : ∃ y, y = w4.drew := ⟨_, rfl⟩
  have bw5 : Below w4.heap.size w4 w5 := hw5 ▸ drewN_below w4 1 _
  replace C : IsCur w5 w3.heap.size H0 := hw5 ▸ C.drewN 1
  replace o_r := owns_below o_r bw5
  replace o_s := owns_below o_s bw5
  replace HB := HB.trans (bw5.mono HB.size)
  have zw5 := bw5.size
  refine wp_region_held_drew (S := (fun wx => wx.cell? ⟨w2.heap.size, 0, none⟩ = some (.int .i64 x.Vendor) ∧ wx.cell? ⟨w2.heap.size, 1, none⟩ = some (.int .i64 x.Serial) ∧ wx.cell? ⟨w2.heap.size, 2, none⟩ = some (.int .i64 x.Seed) ∧ wx.cell? ⟨w2.heap.size, 3, none⟩ = some (.int .i64 x.Counter))) (by kernel_rfl) ?_ (fun hHeld => ?_)
  · rw [← hw5]; exact ⟨var_load o_s (by simp) 0 _ rfl, var_load o_s (by simp) 1 _ rfl, var_load o_s (by simp) 2 _ rfl, var_load o_s (by simp) 3 _ rfl⟩
  rw [← hw5] at hHeld ⊢
  clear hw5
  refine wpAnyH_take (i := 0) (oi := ?oir_0_1) (v := ?vr_0_1) ?hir_0_1 (by kernel_rfl) (by kernel_rfl) (by kernel_rfl) ?hQr_0_1 (Or.inl ⟨?hwr_0_1, ?hyr_0_1⟩) (by assumption) ?_
  case hir_0_1 => simp only [List.getElem?_toArray, List.getElem?_cons_zero]; rfl
  case hQr_0_1 => exact fun _ _ _ h => h
  case hwr_0_1 => rfl
  case hyr_0_1 => intro w hSw; (try dsimp only at hSw); (first | (go_simp; done) | (go_simp; with_reducible rfl))
  try simp only [Act.put, List.setIfInBounds_toArray, List.set_cons_zero, List.set_cons_succ]
  refine wpAnyH_take (i := 1) (oi := ?oir_1_2) (v := ?vr_1_2) ?hir_1_2 (by kernel_rfl) (by kernel_rfl) (by kernel_rfl) ?hQr_1_2 (Or.inl ⟨?hwr_1_2, ?hyr_1_2⟩) (by assumption) ?_
  case hir_1_2 => simp only [List.getElem?_toArray, List.getElem?_cons_succ, List.getElem?_cons_zero]; rfl
  case hQr_1_2 => exact fun _ _ _ h => h
  case hwr_1_2 => rfl
  case hyr_1_2 => intro w hSw; (try dsimp only at hSw); (first | (go_simp; done) | (go_simp; with_reducible rfl))
  try simp only [Act.put, List.setIfInBounds_toArray, List.set_cons_zero, List.set_cons_succ]
  refine wpAnyH_take (i := 2) (oi := ?oir_2_3) (v := ?vr_2_3) ?hir_2_3 (by kernel_rfl) (by kernel_rfl) (by kernel_rfl) ?hQr_2_3 (Or.inl ⟨?hwr_2_3, ?hyr_2_3⟩) (by assumption) ?_
  case hir_2_3 => simp only [List.getElem?_toArray, List.getElem?_cons_succ, List.getElem?_cons_zero]; rfl
  case hQr_2_3 => exact fun _ _ _ h => h
  case hwr_2_3 => rfl
  case hyr_2_3 => intro w hSw; (try dsimp only at hSw); (first | (go_simp; done) | (go_simp; with_reducible rfl))
  try simp only [Act.put, List.setIfInBounds_toArray, List.set_cons_zero, List.set_cons_succ]
  refine wpAnyH_take (i := 3) (oi := ?oir_3_4) (v := ?vr_3_4) ?hir_3_4 (by kernel_rfl) (by kernel_rfl) (by kernel_rfl) ?hQr_3_4 (Or.inl ⟨?hwr_3_4, ?hyr_3_4⟩) (by assumption) ?_
  case hir_3_4 => simp only [List.getElem?_toArray, List.getElem?_cons_succ, List.getElem?_cons_zero]; rfl
  case hQr_3_4 => exact fun _ _ _ h => h
  case hwr_3_4 => rfl
  case hyr_3_4 => intro w hSw; (try dsimp only at hSw); (first | (go_simp; done) | (go_simp; with_reducible rfl))
  try simp only [Act.put, List.setIfInBounds_toArray, List.set_cons_zero, List.set_cons_succ]
  refine wpAnyH_ready (rs := [4]) (by kernel_rfl) (by simp) ?_
  refine AllReadyH.cons (o := ?or_4_5) ?hir_4_5 (fun K hK => ?gr_4_5) AllReadyH.nil
  case hir_4_5 => simp only [List.getElem?_toArray, List.getElem?_cons_succ, List.getElem?_cons_zero]; rfl
  case gr_4_5 =>
    go_simp
    go_at_call 73
    (with_reducible refine (message_any _ _ H0 C).mono ?_); rintro e w6 ⟨A, n, c, ys, rfl, ⟨hy1, hy2⟩, o_m0, C, gw6⟩
    replace o_r := Dv.owns_drawn o_r gw6 (by omega)
    replace o_s := Dv.owns_drawn o_s gw6 (by omega)
    replace HB := HB.trans (grown_below gw6 (by omega) (fun r h => by cases h; omega))
    have zw6 := gw6.size
    have o_m := owns_flat (own_base o_m0 (show w.heap.size ≤ w5.heap.size by omega))
    have i_m0 := Fx.made_in (owns_flat o_m0)
    have i_m := i_m0
    clear o_m0 i_m0
    refine hK.out _ _ ?_ (fun hHeld => ?_)
    · exact ⟨var_load o_s (by simp) 0 _ rfl, var_load o_s (by simp) 1 _ rfl, var_load o_s (by simp) 2 _ rfl, var_load o_s (by simp) 3 _ rfl⟩
    clear hK K
    try simp only [Act.put, List.setIfInBounds_toArray, List.set_cons_zero, List.set_cons_succ]
    refine wpAnyH_ready (rs := [5]) (by kernel_rfl) (by simp) ?_
    refine AllReadyH.cons (o := ?or_5_6) ?hir_5_6 (fun K hK => ?gr_5_6) AllReadyH.nil
    case hir_5_6 => simp only [List.getElem?_toArray, List.getElem?_cons_succ, List.getElem?_cons_zero]; rfl
    case gr_5_6 =>
      have c_r0 : w6.cell? ⟨w.heap.size, 0, none⟩ = some (.int .i64 0) := var_load o_r (by simp) 0 _ rfl
      have f_r0 : w6.frozen? ⟨w.heap.size, 0, none⟩ = false := var_frozen o_r (by simp) 0 _ rfl
      have c_r1 : w6.cell? ⟨w.heap.size, 1, none⟩ = some (.int .i64 0) := var_load o_r (by simp) 1 _ rfl
      have f_r1 : w6.frozen? ⟨w.heap.size, 1, none⟩ = false := var_frozen o_r (by simp) 1 _ rfl
      have c_r2 : w6.cell? ⟨w.heap.size, 2, none⟩ = some (.int .i64 0) := var_load o_r (by simp) 2 _ rfl
      have f_r2 : w6.frozen? ⟨w.heap.size, 2, none⟩ = false := var_frozen o_r (by simp) 2 _ rfl
      have c_r3 : w6.cell? ⟨w.heap.size, 3, none⟩ = some (.int .i64 0) := var_load o_r (by simp) 3 _ rfl
      have f_r3 : w6.frozen? ⟨w.heap.size, 3, none⟩ = false := var_frozen o_r (by simp) 3 _ rfl
      have l_r := var_lt o_r
      have c_s0 : w6.cell? ⟨w2.heap.size, 0, none⟩ = some (.int .i64 x.Vendor) := var_load o_s (by simp) 0 _ rfl
      have f_s0 : w6.frozen? ⟨w2.heap.size, 0, none⟩ = false := var_frozen o_s (by simp) 0 _ rfl
      have c_s1 : w6.cell? ⟨w2.heap.size, 1, none⟩ = some (.int .i64 x.Serial) := var_load o_s (by simp) 1 _ rfl
      have f_s1 : w6.frozen? ⟨w2.heap.size, 1, none⟩ = false := var_frozen o_s (by simp) 1 _ rfl
      have c_s2 : w6.cell? ⟨w2.heap.size, 2, none⟩ = some (.int .i64 x.Seed) := var_load o_s (by simp) 2 _ rfl
      have f_s2 : w6.frozen? ⟨w2.heap.size, 2, none⟩ = false := var_frozen o_s (by simp) 2 _ rfl
      have c_s3 : w6.cell? ⟨w2.heap.size, 3, none⟩ = some (.int .i64 x.Counter) := var_load o_s (by simp) 3 _ rfl
      have f_s3 : w6.frozen? ⟨w2.heap.size, 3, none⟩ = false := var_frozen o_s (by simp) 3 _ rfl
      have l_s := var_lt o_s
      go_simp
      clear c_r0 f_r0 c_r1 f_r1 c_r2 f_r2 c_r3 f_r3 l_r c_s0 f_s0 c_s1 f_s1 c_s2 f_s2 c_s3 f_s3 l_s
      obtain ⟨w7, hw7⟩ : ∃ y, y = ((((w6.setCell ⟨w.heap.size, 0, none⟩ (.int .i64 x.Vendor)).setCell ⟨w.heap.size, 1, none⟩ (.int .i64 x.Serial)).setCell ⟨w.heap.size, 2, none⟩ (.int .i64 x.Seed)).setCell ⟨w.heap.size, 3, none⟩ (.int .i64 x.Counter)) := ⟨_, rfl⟩
      obtain ⟨o_new, tw7⟩ := var_some [.int .i64 x.Vendor, .int .i64 x.Serial, .int .i64 x.Seed, .int .i64 x.Counter] 0 _ _ o_r (by simp)
      rw [show setAll w6 (w.heap.size) 0 [.int .i64 x.Vendor, .int .i64 x.Serial, .int .i64 x.Seed, .int .i64 x.Counter] = w7 from hw7.symm] at o_new tw7
      replace o_r : Owns w7 _ (varD 29 4 [.int .i64 x.Vendor, .int .i64 x.Serial, .int .i64 x.Seed, .int .i64 x.Counter]) _ _ := o_new
      clear o_new
      replace o_s := owns_turned o_s tw7 (fun b hb hb2 => by simp at hb hb2; omega)
      replace o_m := owns_turned o_m tw7 (fun b hb hb2 => by have h1 := i_m b hb; simp at hb2; omega)
      replace HB := below_turned HB tw7 (fun b hb => by simp at hb; omega)
      replace C := Dv.cur_turned C tw7 (by omega) (by omega)
      have zw7 := tw7.2.2.2.1
      rw [← hw7]
      clear hw7
      refine hK.out _ _ ?_ (fun hHeld => ?_)
      · exact ⟨var_load o_s (by simp) 0 _ rfl, var_load o_s (by simp) 1 _ rfl, var_load o_s (by simp) 2 _ rfl, var_load o_s (by simp) 3 _ rfl⟩
      clear hK K
      try simp only [Act.put, List.setIfInBounds_toArray, List.set_cons_zero, List.set_cons_succ]
      refine wpAnyH_take (i := 6) (oi := ?oir_6_7) (v := ?vr_6_7) ?hir_6_7 (by kernel_rfl) (by kernel_rfl) (by kernel_rfl) ?hQr_6_7 (Or.inl ⟨?hwr_6_7, ?hyr_6_7⟩) (by assumption) ?_
      case hir_6_7 => simp only [List.getElem?_toArray, List.getElem?_cons_succ, List.getElem?_cons_zero]; rfl
      case hQr_6_7 => exact fun _ _ _ h => h
      case hwr_6_7 => rfl
      case hyr_6_7 => intro w hSw; (try dsimp only at hSw); (first | (go_simp; done) | (go_simp; with_reducible rfl))
      try simp only [Act.put, List.setIfInBounds_toArray, List.set_cons_zero, List.set_cons_succ]
      refine wpAnyH_take (i := 7) (oi := ?oir_7_8) (v := ?vr_7_8) ?hir_7_8 (by kernel_rfl) (by kernel_rfl) (by kernel_rfl) ?hQr_7_8 (Or.inl ⟨?hwr_7_8, ?hyr_7_8⟩) (by assumption) ?_
      case hir_7_8 => simp only [List.getElem?_toArray, List.getElem?_cons_succ, List.getElem?_cons_zero]; rfl
      case hQr_7_8 => exact fun _ _ _ h => h
      case hwr_7_8 => rfl
      case hyr_7_8 => intro w hSw; (try dsimp only at hSw); (first | (go_simp; done) | (go_simp; with_reducible rfl))
      try simp only [Act.put, List.setIfInBounds_toArray, List.set_cons_zero, List.set_cons_succ]
      refine wpAnyH_take (i := 8) (oi := ?oir_8_9) (v := ?vr_8_9) ?hir_8_9 (by kernel_rfl) (by kernel_rfl) (by kernel_rfl) ?hQr_8_9 (Or.inl ⟨?hwr_8_9, ?hyr_8_9⟩) (by assumption) ?_
      case hir_8_9 => simp only [List.getElem?_toArray, List.getElem?_cons_succ, List.getElem?_cons_zero]; rfl
      case hQr_8_9 => exact fun _ _ _ h => h
      case hwr_8_9 => rfl
      case hyr_8_9 => intro w hSw; (try dsimp only at hSw); (first | (go_simp; done) | (go_simp; with_reducible rfl))
      try simp only [Act.put, List.setIfInBounds_toArray, List.set_cons_zero, List.set_cons_succ]
      refine wpAnyH_done (by kernel_rfl) ?_ _
      go_wp2
      have y0 : w7.cell? ⟨w.heap.size, 0, none⟩ = some (.int .i64 x.Vendor) := var_load o_r (by simp) 0 _ rfl
      have y1 : w7.cell? ⟨w.heap.size, 1, none⟩ = some (.int .i64 x.Serial) := var_load o_r (by simp) 1 _ rfl
      have y2 : w7.cell? ⟨w.heap.size, 2, none⟩ = some (.int .i64 x.Seed) := var_load o_r (by simp) 2 _ rfl
      have y3 : w7.cell? ⟨w.heap.size, 3, none⟩ = some (.int .i64 x.Counter) := var_load o_r (by simp) 3 _ rfl
      refine bodyPost_ret (v := .tuple #[.agg #[.int .i64 x.Vendor, .int .i64 x.Serial, .int .i64 x.Seed, .int .i64 x.Counter], .string u, .int .i64 q, .slice A n c]) (by simp [results, Try.results36, go_sem, y0, y1, y2, y3]) rfl ?_
      exact ⟨x, u, q, A, n, c, ys, rfl, hx, hu, hq, hy1, hy2, (flat_owns o_m).1, HB⟩
end Go.Proofs.Ytpeagjpcdoegoaa.D10
