import Derived.Test.YtialhhdhpjjkaaaGreatDoorBa
import Derived.Test.YtialhhdhpjjkaaaGreatDoorBb
import Derived.Test.YtialhhdhpjjkaaaGreatDoorD10
import Derived.Test.YtialhhdhpjjkaaaGreatDoorYOrigin
import Derived.Deep.RegionHeld3
/-
  Contracts of chapter 13's draws: a store, an origin out of few hosts and ports, a site of two.
-/
namespace Go.Proofs.YtialhhdhpjjkaaaGreatDoor.D13
open Go.ChangeShapes Go.WideShapes Go.ChangeAt Go.RowKit
open C0 S0 S9 Dm Fx D10 Dv
set_option linter.unusedVariables false
set_option linter.unusedSimpArgs false
set_option maxRecDepth 100000
def odd : List ByteArray := [⟨#[]⟩, ⟨#[46]⟩, ⟨#[97, 46, 46, 98]⟩, ⟨#[45, 97, 46, 99, 111, 109]⟩, ⟨#[97, 45, 46, 99, 111, 109]⟩, ⟨#[65, 46, 99, 111, 109]⟩, ⟨#[97, 95, 98, 46, 99, 111, 109]⟩, ⟨#[97, 98, 99, 100, 101, 102, 103, 104, 105, 106, 107, 108, 109, 110, 111, 112, 113, 114, 115, 116, 117, 46, 99, 111, 109]⟩, ⟨#[97, 98, 99, 100, 101, 102, 103, 104, 105, 106, 107, 108, 109, 110, 111, 112, 113, 114, 115, 116, 46, 97, 98, 99, 100, 101, 102, 103, 104, 105, 106, 107, 108, 109, 110, 111, 112, 113, 114, 115, 116, 46, 97, 98, 99, 100, 101, 102, 103, 104, 105, 106, 107, 108, 109, 110, 111, 112, 113, 114]⟩, ⟨#[97, 98, 99, 100, 101, 102, 103, 104, 105, 106, 107, 108, 109, 110, 111, 112, 113, 114, 115, 116, 46, 97, 98, 99, 100, 101, 102, 103, 104, 105, 106, 107, 108, 109, 110, 111, 112, 113, 114, 115, 116, 46, 97, 98, 99, 100, 101, 102, 103, 104, 105, 106, 107, 108, 109, 110, 111, 112, 113, 114, 115]⟩]
def ports : List Int := [-1, 0, 1, 80, 443, 8080, 65535, 65536, 8443]
/-- An origin as it is drawn: out of few hosts, few ports. -/
def okP (x : Fx.Origin) : Prop := (x.Host ∈ hosts ∨ x.Host ∈ odd) ∧ x.Port ∈ ports
theorem odd_short {s : ByteArray} (h : s ∈ odd) : s.size ≤ 100 := by
  have : ∀ s ∈ odd, s.size ≤ 100 := by decide
  exact this s h
def DrawnP (w : World) (B H0 : Nat) (e : Ending) (w' : World) : Prop := ∃ x : Fx.Origin, e = .returned (.agg #[.bool x.Secure, .string x.Host, .int .i64 x.Port]) ∧ okP x ∧ IsCur w' B H0 ∧ w.grownBy w' (some B)
def sites : List ByteArray := [⟨#[98, 97, 110, 107, 46, 99, 111, 109]⟩, ⟨#[115, 104, 111, 112, 46, 111, 114, 103]⟩]
set_option maxHeartbeats 1600000 in
theorem hostAny_in (w : World) (B H0 : Nat) (C : IsCur w B H0) : Calls Tryz.prog 74 #[.pointer (some ⟨B, 0, none⟩)] w (DrawnS (fun s => s ∈ hosts ∨ s ∈ odd) w B H0) := by
  have hB := C.lt
  have hH := C.low
  go_enter Tryz.func74, Tryz.ntmps74
  go_wp2_with fail
  (with_reducible refine (once_any _ _ H0 4 C).mono ?_); rintro e w1 ⟨b_1, rfl, C, gw1⟩
  have hG := gw1
  have zw1 := gw1.size
  cases hq1 : b_1 with
  | true =>
    have HL := Lib.hid (show Calls Tryz.prog 69 #[.pointer (some ⟨B, 0, none⟩), .slice (some ⟨w1.heap.size, 0, none⟩) 10 10] (w1.alloc (.cells #[.string ⟨#[]⟩, .string ⟨#[46]⟩, .string ⟨#[97, 46, 46, 98]⟩, .string ⟨#[45, 97, 46, 99, 111, 109]⟩, .string ⟨#[97, 45, 46, 99, 111, 109]⟩, .string ⟨#[65, 46, 99, 111, 109]⟩, .string ⟨#[97, 95, 98, 46, 99, 111, 109]⟩, .string ⟨#[97, 98, 99, 100, 101, 102, 103, 104, 105, 106, 107, 108, 109, 110, 111, 112, 113, 114, 115, 116, 117, 46, 99, 111, 109]⟩, .string ⟨#[97, 98, 99, 100, 101, 102, 103, 104, 105, 106, 107, 108, 109, 110, 111, 112, 113, 114, 115, 116, 46, 97, 98, 99, 100, 101, 102, 103, 104, 105, 106, 107, 108, 109, 110, 111, 112, 113, 114, 115, 116, 46, 97, 98, 99, 100, 101, 102, 103, 104, 105, 106, 107, 108, 109, 110, 111, 112, 113, 114]⟩, .string ⟨#[97, 98, 99, 100, 101, 102, 103, 104, 105, 106, 107, 108, 109, 110, 111, 112, 113, 114, 115, 116, 46, 97, 98, 99, 100, 101, 102, 103, 104, 105, 106, 107, 108, 109, 110, 111, 112, 113, 114, 115, 116, 46, 97, 98, 99, 100, 101, 102, 103, 104, 105, 106, 107, 108, 109, 110, 111, 112, 113, 114, 115]⟩] 9)) (DrawnS (fun z => z ∈ odd) w1 B H0) from str_litg [⟨#[]⟩, ⟨#[46]⟩, ⟨#[97, 46, 46, 98]⟩, ⟨#[45, 97, 46, 99, 111, 109]⟩, ⟨#[97, 45, 46, 99, 111, 109]⟩, ⟨#[65, 46, 99, 111, 109]⟩, ⟨#[97, 95, 98, 46, 99, 111, 109]⟩, ⟨#[97, 98, 99, 100, 101, 102, 103, 104, 105, 106, 107, 108, 109, 110, 111, 112, 113, 114, 115, 116, 117, 46, 99, 111, 109]⟩, ⟨#[97, 98, 99, 100, 101, 102, 103, 104, 105, 106, 107, 108, 109, 110, 111, 112, 113, 114, 115, 116, 46, 97, 98, 99, 100, 101, 102, 103, 104, 105, 106, 107, 108, 109, 110, 111, 112, 113, 114, 115, 116, 46, 97, 98, 99, 100, 101, 102, 103, 104, 105, 106, 107, 108, 109, 110, 111, 112, 113, 114]⟩, ⟨#[97, 98, 99, 100, 101, 102, 103, 104, 105, 106, 107, 108, 109, 110, 111, 112, 113, 114, 115, 116, 46, 97, 98, 99, 100, 101, 102, 103, 104, 105, 106, 107, 108, 109, 110, 111, 112, 113, 114, 115, 116, 46, 97, 98, 99, 100, 101, 102, 103, 104, 105, 106, 107, 108, 109, 110, 111, 112, 113, 114, 115]⟩] 10 rfl w1 B H0 _ (rfl) 9 C (by simp) (by simp) (fun z => z ∈ odd) (fun z hz => hz))
    go_wp2_with fail
    (with_reducible refine (HL.out).mono ?_); rintro e w2 ⟨x_2, rfl, hx_2, C, gw2⟩
    replace hG := grown_trans hG gw2
    have zw2 := gw2.size
    clear HL
    go_wp2
    refine bodyPost_ret (v := .string x_2) (by simp [results, Tryz.results74, go_sem]) rfl ?_
    exact ⟨_, rfl, Or.inr hx_2, C, hG⟩
  | false =>
    go_wp2_with fail
    (with_reducible refine (host_in _ _ H0 C).mono ?_); rintro e w2 ⟨x_3, rfl, hx_3, C, gw2⟩
    replace hG := grown_trans hG gw2
    have zw2 := gw2.size
    go_wp2
    refine bodyPost_ret (v := .string x_3) (by simp [results, Tryz.results74, go_sem]) rfl ?_
    exact ⟨_, rfl, Or.inl hx_3, C, hG⟩
set_option maxHeartbeats 3200000 in
theorem origin_in (w : World) (B H0 : Nat) (C : IsCur w B H0) : Calls Tryz.prog 98 #[.pointer (some ⟨B, 0, none⟩)] w (DrawnP w B H0) := by
  have hB := C.lt
  have hH := C.low
  go_enter Tryz.func98, Tryz.ntmps98
  go_wp2_with fail
  obtain ⟨w1, hw1⟩ : ∃ ww, ww = w.alloc (.cells #[.bool false, .string ⟨#[]⟩, .int .i64 0] 45) := ⟨_, rfl⟩
  have o_v2 := var_owns w 45 3 [.bool false, .string ⟨#[]⟩, .int .i64 0] rfl
  have bw1 : Below w.heap.size w w1 := hw1 ▸ (Below.refl _ _).alloc (Nat.le_refl _) _
  have sw1 : w1.heap.size = w.heap.size + 1 := by rw [hw1]; simp
  rw [← hw1] at o_v2 ⊢
  have gw1 : w.grownBy w1 (some B) := hw1 ▸ World.grownBy_alloc w _ _
  have zw1 : w.heap.size < w1.heap.size := by omega
  replace C : IsCur w1 B H0 := hw1 ▸ C.alloc _
  have hG := gw1
  clear hw1
  clear sw1
  (with_reducible refine (once_any _ _ H0 4 C).mono ?_); rintro e w2 ⟨b_1, rfl, C, gw2⟩
  replace o_v2 := Dv.owns_drawn o_v2 gw2 (by omega)
  replace hG := grown_trans hG gw2
  have zw2 := gw2.size
  cases hq1 : b_1 with
  | true =>
    go_wp2_with fail
    (with_reducible refine (host_in _ _ H0 C).mono ?_); rintro e w3 ⟨x_2, rfl, hx_2, C, gw3⟩
    replace o_v2 := Dv.owns_drawn o_v2 gw3 (by omega)
    replace hG := grown_trans hG gw3
    have zw3 := gw3.size
    obtain ⟨c_v20, f_v20, c_v21, f_v21, c_v22, f_v22, l_v2⟩ := Vn.v3 o_v2
    go_wp2
    clear c_v20 f_v20 c_v21 f_v21 c_v22 f_v22 l_v2
    obtain ⟨w4, hw4⟩ : ∃ ww, ww = (((w3.setCell ⟨w.heap.size, 0, none⟩ (.bool false)).setCell ⟨w.heap.size, 1, none⟩ (.string x_2)).setCell ⟨w.heap.size, 2, none⟩ (.int .i64 80)) := ⟨_, rfl⟩
    obtain ⟨o_new, tw4⟩ := var_some [.bool false, .string x_2, .int .i64 80] 0 _ _ o_v2 (by simp)
    rw [show setAll w3 (w.heap.size) 0 [.bool false, .string x_2, .int .i64 80] = w4 from hw4.symm] at o_new tw4
    replace o_v2 : Owns w4 _ (varD 45 3 [.bool false, .string x_2, .int .i64 80]) _ _ := o_new
    clear o_new
    replace hG := Dv.grown_turned hG tw4 (fun b hb => by simp at hb; omega)
    replace C := Dv.cur_turned C tw4 (by omega) (by omega)
    have zw4 := tw4.2.2.2.1
    rw [← hw4]
    clear hw4
    obtain ⟨w5, hw5⟩ : ∃ ww, ww = w4.alloc (.cells #[.bool false, .string x_2, .int .i64 80] 45) := ⟨_, rfl⟩
    have o_v3 := var_owns w4 45 3 [.bool false, .string x_2, .int .i64 80] rfl
    have bw5 : Below w4.heap.size w4 w5 := hw5 ▸ (Below.refl _ _).alloc (Nat.le_refl _) _
    have sw5 : w5.heap.size = w4.heap.size + 1 := by rw [hw5]; simp
    rw [← hw5] at o_v3 ⊢
    have gw5 : w4.grownBy w5 (some B) := hw5 ▸ World.grownBy_alloc w4 _ _
    have zw5 : w4.heap.size < w5.heap.size := by omega
    replace C : IsCur w5 B H0 := hw5 ▸ C.alloc _
    replace o_v2 := owns_below o_v2 bw5
    replace hG := grown_trans hG gw5
    clear hw5
    clear sw5
    have y_v2_0 : w5.cell? ⟨w.heap.size, 0, none⟩ = some (.bool false) := var_load o_v2 (by simp) 0 _ rfl
    have y_v2_1 : w5.cell? ⟨w.heap.size, 1, none⟩ = some (.string x_2) := var_load o_v2 (by simp) 1 _ rfl
    have y_v2_2 : w5.cell? ⟨w.heap.size, 2, none⟩ = some (.int .i64 80) := var_load o_v2 (by simp) 2 _ rfl
    refine bodyPost_ret (v := .agg #[.bool false, .string x_2, .int .i64 80]) (by simp [results, Tryz.results98, go_sem, y_v2_0, y_v2_1, y_v2_2]) rfl ?_
    exact ⟨⟨false, x_2, 80⟩, rfl, ⟨Or.inl hx_2, (show (80 : Int) ∈ ports by decide)⟩, C, hG⟩
  | false =>
    go_wp2_with fail
    (with_reducible refine (host_in _ _ H0 C).mono ?_); rintro e w3 ⟨x_3, rfl, hx_3, C, gw3⟩
    replace o_v2 := Dv.owns_drawn o_v2 gw3 (by omega)
    replace hG := grown_trans hG gw3
    have zw3 := gw3.size
    obtain ⟨c_v20, f_v20, c_v21, f_v21, c_v22, f_v22, l_v2⟩ := Vn.v3 o_v2
    go_wp2
    clear c_v20 f_v20 c_v21 f_v21 c_v22 f_v22 l_v2
    obtain ⟨w4, hw4⟩ : ∃ ww, ww = (((w3.setCell ⟨w.heap.size, 0, none⟩ (.bool true)).setCell ⟨w.heap.size, 1, none⟩ (.string x_3)).setCell ⟨w.heap.size, 2, none⟩ (.int .i64 443)) := ⟨_, rfl⟩
    obtain ⟨o_new, tw4⟩ := var_some [.bool true, .string x_3, .int .i64 443] 0 _ _ o_v2 (by simp)
    rw [show setAll w3 (w.heap.size) 0 [.bool true, .string x_3, .int .i64 443] = w4 from hw4.symm] at o_new tw4
    replace o_v2 : Owns w4 _ (varD 45 3 [.bool true, .string x_3, .int .i64 443]) _ _ := o_new
    clear o_new
    replace hG := Dv.grown_turned hG tw4 (fun b hb => by simp at hb; omega)
    replace C := Dv.cur_turned C tw4 (by omega) (by omega)
    have zw4 := tw4.2.2.2.1
    rw [← hw4]
    clear hw4
    obtain ⟨w5, hw5⟩ : ∃ ww, ww = w4.alloc (.cells #[.bool true, .string x_3, .int .i64 443] 45) := ⟨_, rfl⟩
    have o_v3 := var_owns w4 45 3 [.bool true, .string x_3, .int .i64 443] rfl
    have bw5 : Below w4.heap.size w4 w5 := hw5 ▸ (Below.refl _ _).alloc (Nat.le_refl _) _
    have sw5 : w5.heap.size = w4.heap.size + 1 := by rw [hw5]; simp
    rw [← hw5] at o_v3 ⊢
    have gw5 : w4.grownBy w5 (some B) := hw5 ▸ World.grownBy_alloc w4 _ _
    have zw5 : w4.heap.size < w5.heap.size := by omega
    replace C : IsCur w5 B H0 := hw5 ▸ C.alloc _
    replace o_v2 := owns_below o_v2 bw5
    replace hG := grown_trans hG gw5
    clear hw5
    clear sw5
    have y_v2_0 : w5.cell? ⟨w.heap.size, 0, none⟩ = some (.bool true) := var_load o_v2 (by simp) 0 _ rfl
    have y_v2_1 : w5.cell? ⟨w.heap.size, 1, none⟩ = some (.string x_3) := var_load o_v2 (by simp) 1 _ rfl
    have y_v2_2 : w5.cell? ⟨w.heap.size, 2, none⟩ = some (.int .i64 443) := var_load o_v2 (by simp) 2 _ rfl
    refine bodyPost_ret (v := .agg #[.bool true, .string x_3, .int .i64 443]) (by simp [results, Tryz.results98, go_sem, y_v2_0, y_v2_1, y_v2_2]) rfl ?_
    exact ⟨⟨true, x_3, 443⟩, rfl, ⟨Or.inl hx_3, (show (443 : Int) ∈ ports by decide)⟩, C, hG⟩
set_option maxHeartbeats 3200000 in
theorem any_in (w : World) (B H0 : Nat) (C : IsCur w B H0) : Calls Tryz.prog 60 #[.pointer (some ⟨B, 0, none⟩)] w (DrawnP w B H0) := by
  have hB := C.lt
  have hH := C.low
  go_enter Tryz.func60, Tryz.ntmps60
  go_wp2_with fail
  obtain ⟨w1, hw1⟩ : ∃ ww, ww = w.alloc (.cells #[.bool false, .string ⟨#[]⟩, .int .i64 0] 45) := ⟨_, rfl⟩
  have o_v2 := var_owns w 45 3 [.bool false, .string ⟨#[]⟩, .int .i64 0] rfl
  have bw1 : Below w.heap.size w w1 := hw1 ▸ (Below.refl _ _).alloc (Nat.le_refl _) _
  have sw1 : w1.heap.size = w.heap.size + 1 := by rw [hw1]; simp
  rw [← hw1] at o_v2 ⊢
  have gw1 : w.grownBy w1 (some B) := hw1 ▸ World.grownBy_alloc w _ _
  have zw1 : w.heap.size < w1.heap.size := by omega
  replace C : IsCur w1 B H0 := hw1 ▸ C.alloc _
  have hG := gw1
  clear hw1
  clear sw1
  (with_reducible refine (origin_in _ _ H0 C).mono ?_); rintro e w2 ⟨o_1, rfl, ho_1, C, gw2⟩
  replace o_v2 := Dv.owns_drawn o_v2 gw2 (by omega)
  replace hG := grown_trans hG gw2
  have zw2 := gw2.size
  have Ho_1 := Lib.hid ho_1
  clear ho_1
  go_wp2_with fail
  obtain ⟨w3, hw3⟩ : ∃ ww, ww = w2.alloc (.cells #[.bool o_1.Secure, .string o_1.Host, .int .i64 o_1.Port] 45) := ⟨_, rfl⟩
  have o_v3 := var_owns w2 45 3 [.bool o_1.Secure, .string o_1.Host, .int .i64 o_1.Port] rfl
  have bw3 : Below w2.heap.size w2 w3 := hw3 ▸ (Below.refl _ _).alloc (Nat.le_refl _) _
  have sw3 : w3.heap.size = w2.heap.size + 1 := by rw [hw3]; simp
  rw [← hw3] at o_v3 ⊢
  have gw3 : w2.grownBy w3 (some B) := hw3 ▸ World.grownBy_alloc w2 _ _
  have zw3 : w2.heap.size < w3.heap.size := by omega
  replace C : IsCur w3 B H0 := hw3 ▸ C.alloc _
  replace o_v2 := owns_below o_v2 bw3
  replace hG := grown_trans hG gw3
  clear hw3
  clear sw3
  (with_reducible refine (below_any _ _ H0 6 C).mono ?_); rintro e w4 ⟨u_2, rfl, ⟨u_2a, u_2b⟩, C, gw4⟩
  replace o_v2 := Dv.owns_drawn o_v2 gw4 (by omega)
  replace o_v3 := Dv.owns_drawn o_v3 gw4 (by omega)
  replace hG := grown_trans hG gw4
  have zw4 := gw4.size
  replace u_2b : u_2 < 6 := by omega
  by_cases hq1 : u_2 = 0
  ·
    have hq1a : (u_2 == 0) = true := by simpa using hq1
    have hq1b : (u_2 != 0) = false := by simp [hq1]
    have HQ1 := Lib.hid hq1
    clear hq1
    go_wp2_with fail
    (with_reducible refine (hostAny_in _ _ H0 C).mono ?_); rintro e w5 ⟨x_3, rfl, hx_3, C, gw5⟩
    replace o_v2 := Dv.owns_drawn o_v2 gw5 (by omega)
    replace o_v3 := Dv.owns_drawn o_v3 gw5 (by omega)
    replace hG := grown_trans hG gw5
    have zw5 := gw5.size
    obtain ⟨c_v20, f_v20, c_v21, f_v21, c_v22, f_v22, l_v2⟩ := Vn.v3 o_v2
    obtain ⟨c_v30, f_v30, c_v31, f_v31, c_v32, f_v32, l_v3⟩ := Vn.v3 o_v3
    go_wp2
    clear c_v20 f_v20 c_v21 f_v21 c_v22 f_v22 l_v2 c_v30 f_v30 c_v31 f_v31 c_v32 f_v32 l_v3
    obtain ⟨w6, hw6⟩ : ∃ ww, ww = (w5.setCell ⟨w2.heap.size, 1, none⟩ (.string x_3)) := ⟨_, rfl⟩
    obtain ⟨o_new, tw6⟩ := var_some [.string x_3] 1 _ _ o_v3 (by simp)
    rw [show setAll w5 (w2.heap.size) 1 [.string x_3] = w6 from hw6.symm] at o_new tw6
    replace o_v3 : Owns w6 _ (varD 45 3 [.bool o_1.Secure, .string x_3, .int .i64 o_1.Port]) _ _ := o_new
    clear o_new
    replace o_v2 := owns_turned o_v2 tw6 (fun b hb hb2 => by simp at hb hb2; omega)
    replace hG := Dv.grown_turned hG tw6 (fun b hb => by simp at hb; omega)
    replace C := Dv.cur_turned C tw6 (by omega) (by omega)
    have zw6 := tw6.2.2.2.1
    rw [← hw6]
    clear hw6
    obtain ⟨w7, hw7⟩ : ∃ ww, ww = (((w6.setCell ⟨w.heap.size, 0, none⟩ (.bool o_1.Secure)).setCell ⟨w.heap.size, 1, none⟩ (.string x_3)).setCell ⟨w.heap.size, 2, none⟩ (.int .i64 o_1.Port)) := ⟨_, rfl⟩
    obtain ⟨o_new, tw7⟩ := var_some [.bool o_1.Secure, .string x_3, .int .i64 o_1.Port] 0 _ _ o_v2 (by simp)
    rw [show setAll w6 (w.heap.size) 0 [.bool o_1.Secure, .string x_3, .int .i64 o_1.Port] = w7 from hw7.symm] at o_new tw7
    replace o_v2 : Owns w7 _ (varD 45 3 [.bool o_1.Secure, .string x_3, .int .i64 o_1.Port]) _ _ := o_new
    clear o_new
    replace o_v3 := owns_turned o_v3 tw7 (fun b hb hb2 => by simp at hb hb2; omega)
    replace hG := Dv.grown_turned hG tw7 (fun b hb => by simp at hb; omega)
    replace C := Dv.cur_turned C tw7 (by omega) (by omega)
    have zw7 := tw7.2.2.2.1
    rw [← hw7]
    clear hw7
    have y_v2_0 : w7.cell? ⟨w.heap.size, 0, none⟩ = some (.bool o_1.Secure) := var_load o_v2 (by simp) 0 _ rfl
    have y_v2_1 : w7.cell? ⟨w.heap.size, 1, none⟩ = some (.string x_3) := var_load o_v2 (by simp) 1 _ rfl
    have y_v2_2 : w7.cell? ⟨w.heap.size, 2, none⟩ = some (.int .i64 o_1.Port) := var_load o_v2 (by simp) 2 _ rfl
    refine bodyPost_ret (v := .agg #[.bool o_1.Secure, .string x_3, .int .i64 o_1.Port]) (by simp [results, Tryz.results60, go_sem, y_v2_0, y_v2_1, y_v2_2]) rfl ?_
    exact ⟨⟨o_1.Secure, x_3, o_1.Port⟩, rfl, ⟨hx_3, Ho_1.out.2⟩, C, hG⟩
  ·
    have hq1a : (u_2 == 0) = false := by simpa using hq1
    have hq1b : (u_2 != 0) = true := by simp [hq1]
    have HQ1 := Lib.hid hq1
    clear hq1
    by_cases hq2 : u_2 = 1
    ·
      have hq2a : (u_2 == 1) = true := by simpa using hq2
      have hq2b : (u_2 != 1) = false := by simp [hq2]
      have HQ2 := Lib.hid hq2
      clear hq2
      have HL := Lib.hid (show Calls Tryz.prog 100 #[.pointer (some ⟨B, 0, none⟩), .slice (some ⟨w4.heap.size, 0, none⟩) 8 8] (w4.alloc (.cells #[.int .i64 (-1), .int .i64 0, .int .i64 1, .int .i64 80, .int .i64 443, .int .i64 8080, .int .i64 65535, .int .i64 65536] 3)) (Drawn (fun z => z ∈ ports) w4 B H0) from int_litg [-1, 0, 1, 80, 443, 8080, 65535, 65536] 8 rfl w4 B H0 _ (rfl) 3 C (by simp) (by simp) (fun z => z ∈ ports) (by decide))
      go_wp2_with fail
      (with_reducible refine (HL.out).mono ?_); rintro e w5 ⟨x_4, rfl, hx_4, C, gw5⟩
      replace o_v2 := Dv.owns_drawn o_v2 gw5 (by omega)
      replace o_v3 := Dv.owns_drawn o_v3 gw5 (by omega)
      replace hG := grown_trans hG gw5
      have zw5 := gw5.size
      clear HL
      obtain ⟨c_v20, f_v20, c_v21, f_v21, c_v22, f_v22, l_v2⟩ := Vn.v3 o_v2
      obtain ⟨c_v30, f_v30, c_v31, f_v31, c_v32, f_v32, l_v3⟩ := Vn.v3 o_v3
      go_wp2
      clear c_v20 f_v20 c_v21 f_v21 c_v22 f_v22 l_v2 c_v30 f_v30 c_v31 f_v31 c_v32 f_v32 l_v3
      obtain ⟨w6, hw6⟩ : ∃ ww, ww = (w5.setCell ⟨w2.heap.size, 2, none⟩ (.int .i64 x_4)) := ⟨_, rfl⟩
      obtain ⟨o_new, tw6⟩ := var_some [.int .i64 x_4] 2 _ _ o_v3 (by simp)
      rw [show setAll w5 (w2.heap.size) 2 [.int .i64 x_4] = w6 from hw6.symm] at o_new tw6
      replace o_v3 : Owns w6 _ (varD 45 3 [.bool o_1.Secure, .string o_1.Host, .int .i64 x_4]) _ _ := o_new
      clear o_new
      replace o_v2 := owns_turned o_v2 tw6 (fun b hb hb2 => by simp at hb hb2; omega)
      replace hG := Dv.grown_turned hG tw6 (fun b hb => by simp at hb; omega)
      replace C := Dv.cur_turned C tw6 (by omega) (by omega)
      have zw6 := tw6.2.2.2.1
      rw [← hw6]
      clear hw6
      obtain ⟨w7, hw7⟩ : ∃ ww, ww = (((w6.setCell ⟨w.heap.size, 0, none⟩ (.bool o_1.Secure)).setCell ⟨w.heap.size, 1, none⟩ (.string o_1.Host)).setCell ⟨w.heap.size, 2, none⟩ (.int .i64 x_4)) := ⟨_, rfl⟩
      obtain ⟨o_new, tw7⟩ := var_some [.bool o_1.Secure, .string o_1.Host, .int .i64 x_4] 0 _ _ o_v2 (by simp)
      rw [show setAll w6 (w.heap.size) 0 [.bool o_1.Secure, .string o_1.Host, .int .i64 x_4] = w7 from hw7.symm] at o_new tw7
      replace o_v2 : Owns w7 _ (varD 45 3 [.bool o_1.Secure, .string o_1.Host, .int .i64 x_4]) _ _ := o_new
      clear o_new
      replace o_v3 := owns_turned o_v3 tw7 (fun b hb hb2 => by simp at hb hb2; omega)
      replace hG := Dv.grown_turned hG tw7 (fun b hb => by simp at hb; omega)
      replace C := Dv.cur_turned C tw7 (by omega) (by omega)
      have zw7 := tw7.2.2.2.1
      rw [← hw7]
      clear hw7
      have y_v2_0 : w7.cell? ⟨w.heap.size, 0, none⟩ = some (.bool o_1.Secure) := var_load o_v2 (by simp) 0 _ rfl
      have y_v2_1 : w7.cell? ⟨w.heap.size, 1, none⟩ = some (.string o_1.Host) := var_load o_v2 (by simp) 1 _ rfl
      have y_v2_2 : w7.cell? ⟨w.heap.size, 2, none⟩ = some (.int .i64 x_4) := var_load o_v2 (by simp) 2 _ rfl
      refine bodyPost_ret (v := .agg #[.bool o_1.Secure, .string o_1.Host, .int .i64 x_4]) (by simp [results, Tryz.results60, go_sem, y_v2_0, y_v2_1, y_v2_2]) rfl ?_
      exact ⟨⟨o_1.Secure, o_1.Host, x_4⟩, rfl, ⟨Ho_1.out.1, hx_4⟩, C, hG⟩
    ·
      have hq2a : (u_2 == 1) = false := by simpa using hq2
      have hq2b : (u_2 != 1) = true := by simp [hq2]
      have HQ2 := Lib.hid hq2
      clear hq2
      obtain ⟨c_v20, f_v20, c_v21, f_v21, c_v22, f_v22, l_v2⟩ := Vn.v3 o_v2
      obtain ⟨c_v30, f_v30, c_v31, f_v31, c_v32, f_v32, l_v3⟩ := Vn.v3 o_v3
      go_wp2
      clear c_v20 f_v20 c_v21 f_v21 c_v22 f_v22 l_v2 c_v30 f_v30 c_v31 f_v31 c_v32 f_v32 l_v3
      obtain ⟨w5, hw5⟩ : ∃ ww, ww = (((w4.setCell ⟨w.heap.size, 0, none⟩ (.bool o_1.Secure)).setCell ⟨w.heap.size, 1, none⟩ (.string o_1.Host)).setCell ⟨w.heap.size, 2, none⟩ (.int .i64 o_1.Port)) := ⟨_, rfl⟩
      obtain ⟨o_new, tw5⟩ := var_some [.bool o_1.Secure, .string o_1.Host, .int .i64 o_1.Port] 0 _ _ o_v2 (by simp)
      rw [show setAll w4 (w.heap.size) 0 [.bool o_1.Secure, .string o_1.Host, .int .i64 o_1.Port] = w5 from hw5.symm] at o_new tw5
      replace o_v2 : Owns w5 _ (varD 45 3 [.bool o_1.Secure, .string o_1.Host, .int .i64 o_1.Port]) _ _ := o_new
      clear o_new
      replace o_v3 := owns_turned o_v3 tw5 (fun b hb hb2 => by simp at hb hb2; omega)
      replace hG := Dv.grown_turned hG tw5 (fun b hb => by simp at hb; omega)
      replace C := Dv.cur_turned C tw5 (by omega) (by omega)
      have zw5 := tw5.2.2.2.1
      rw [← hw5]
      clear hw5
      have y_v2_0 : w5.cell? ⟨w.heap.size, 0, none⟩ = some (.bool o_1.Secure) := var_load o_v2 (by simp) 0 _ rfl
      have y_v2_1 : w5.cell? ⟨w.heap.size, 1, none⟩ = some (.string o_1.Host) := var_load o_v2 (by simp) 1 _ rfl
      have y_v2_2 : w5.cell? ⟨w.heap.size, 2, none⟩ = some (.int .i64 o_1.Port) := var_load o_v2 (by simp) 2 _ rfl
      refine bodyPost_ret (v := .agg #[.bool o_1.Secure, .string o_1.Host, .int .i64 o_1.Port]) (by simp [results, Tryz.results60, go_sem, y_v2_0, y_v2_1, y_v2_2]) rfl ?_
      exact ⟨⟨o_1.Secure, o_1.Host, o_1.Port⟩, rfl, ⟨Ho_1.out.1, Ho_1.out.2⟩, C, hG⟩
def DrawnZ (w : World) (B H0 : Nat) (e : Ending) (w' : World) : Prop := ∃ (z : ByteArray) (x : Fx.Origin), e = .returned (.tuple #[.string z, .agg #[.bool x.Secure, .string x.Host, .int .i64 x.Port]]) ∧ z ∈ sites ∧ okP x ∧ IsCur w' B H0 ∧ w.grownBy w' (some B)
set_option maxHeartbeats 3200000 in
theorem site_in (w : World) (B H0 : Nat) (C : IsCur w B H0) : Calls Tryz.prog 122 #[.pointer (some ⟨B, 0, none⟩)] w (DrawnZ w B H0) := by
  have hB := C.lt
  have hH := C.low
  go_enter Tryz.func122, Tryz.ntmps122
  go_wp2_with fail
  obtain ⟨w1, hw1⟩ : ∃ ww, ww = w.alloc (.cells #[.bool false, .string ⟨#[]⟩, .int .i64 0] 45) := ⟨_, rfl⟩
  have o_v3 := var_owns w 45 3 [.bool false, .string ⟨#[]⟩, .int .i64 0] rfl
  have bw1 : Below w.heap.size w w1 := hw1 ▸ (Below.refl _ _).alloc (Nat.le_refl _) _
  have sw1 : w1.heap.size = w.heap.size + 1 := by rw [hw1]; simp
  rw [← hw1] at o_v3 ⊢
  have gw1 : w.grownBy w1 (some B) := hw1 ▸ World.grownBy_alloc w _ _
  have zw1 : w.heap.size < w1.heap.size := by omega
  replace C : IsCur w1 B H0 := hw1 ▸ C.alloc _
  have hG := gw1
  clear hw1
  clear sw1
  (with_reducible refine (below_any _ _ H0 3 C).mono ?_); rintro e w2 ⟨u_1, rfl, ⟨u_1a, u_1b⟩, C, gw2⟩
  replace o_v3 := Dv.owns_drawn o_v3 gw2 (by omega)
  replace hG := grown_trans hG gw2
  have zw2 := gw2.size
  replace u_1b : u_1 < 3 := by omega
  by_cases hq1 : u_1 = 0
  ·
    have hq1a : (u_1 == 0) = true := by simpa using hq1
    have hq1b : (u_1 != 0) = false := by simp [hq1]
    have HQ1 := Lib.hid hq1
    clear hq1
    obtain ⟨c_v30, f_v30, c_v31, f_v31, c_v32, f_v32, l_v3⟩ := Vn.v3 o_v3
    go_wp2
    clear c_v30 f_v30 c_v31 f_v31 c_v32 f_v32 l_v3
    obtain ⟨w3, hw3⟩ : ∃ ww, ww = (((w2.setCell ⟨w.heap.size, 0, none⟩ (.bool true)).setCell ⟨w.heap.size, 1, none⟩ (.string ⟨#[119, 119, 119, 46, 98, 97, 110, 107, 46, 99, 111, 109]⟩)).setCell ⟨w.heap.size, 2, none⟩ (.int .i64 443)) := ⟨_, rfl⟩
    obtain ⟨o_new, tw3⟩ := var_some [.bool true, .string ⟨#[119, 119, 119, 46, 98, 97, 110, 107, 46, 99, 111, 109]⟩, .int .i64 443] 0 _ _ o_v3 (by simp)
    rw [show setAll w2 (w.heap.size) 0 [.bool true, .string ⟨#[119, 119, 119, 46, 98, 97, 110, 107, 46, 99, 111, 109]⟩, .int .i64 443] = w3 from hw3.symm] at o_new tw3
    replace o_v3 : Owns w3 _ (varD 45 3 [.bool true, .string ⟨#[119, 119, 119, 46, 98, 97, 110, 107, 46, 99, 111, 109]⟩, .int .i64 443]) _ _ := o_new
    clear o_new
    replace hG := Dv.grown_turned hG tw3 (fun b hb => by simp at hb; omega)
    replace C := Dv.cur_turned C tw3 (by omega) (by omega)
    have zw3 := tw3.2.2.2.1
    rw [← hw3]
    clear hw3
    have y_v3_0 : w3.cell? ⟨w.heap.size, 0, none⟩ = some (.bool true) := var_load o_v3 (by simp) 0 _ rfl
    have y_v3_1 : w3.cell? ⟨w.heap.size, 1, none⟩ = some (.string ⟨#[119, 119, 119, 46, 98, 97, 110, 107, 46, 99, 111, 109]⟩) := var_load o_v3 (by simp) 1 _ rfl
    have y_v3_2 : w3.cell? ⟨w.heap.size, 2, none⟩ = some (.int .i64 443) := var_load o_v3 (by simp) 2 _ rfl
    refine bodyPost_ret (v := .tuple #[.string ⟨#[98, 97, 110, 107, 46, 99, 111, 109]⟩, .agg #[.bool true, .string ⟨#[119, 119, 119, 46, 98, 97, 110, 107, 46, 99, 111, 109]⟩, .int .i64 443]]) (by simp [results, Tryz.results122, go_sem, y_v3_0, y_v3_1, y_v3_2]) rfl ?_
    exact ⟨⟨#[98, 97, 110, 107, 46, 99, 111, 109]⟩, ⟨true, ⟨#[119, 119, 119, 46, 98, 97, 110, 107, 46, 99, 111, 109]⟩, 443⟩, rfl, by simp [sites], ⟨Or.inl (by simp [hosts]), by simp [ports]⟩, C, hG⟩
  ·
    have hq1a : (u_1 == 0) = false := by simpa using hq1
    have hq1b : (u_1 != 0) = true := by simp [hq1]
    have HQ1 := Lib.hid hq1
    clear hq1
    by_cases hq2 : u_1 = 1
    ·
      have hq2a : (u_1 == 1) = true := by simpa using hq2
      have hq2b : (u_1 != 1) = false := by simp [hq2]
      have HQ2 := Lib.hid hq2
      clear hq2
      obtain ⟨c_v30, f_v30, c_v31, f_v31, c_v32, f_v32, l_v3⟩ := Vn.v3 o_v3
      go_wp2
      clear c_v30 f_v30 c_v31 f_v31 c_v32 f_v32 l_v3
      obtain ⟨w3, hw3⟩ : ∃ ww, ww = (((w2.setCell ⟨w.heap.size, 0, none⟩ (.bool true)).setCell ⟨w.heap.size, 1, none⟩ (.string ⟨#[115, 104, 111, 112, 46, 111, 114, 103]⟩)).setCell ⟨w.heap.size, 2, none⟩ (.int .i64 8443)) := ⟨_, rfl⟩
      obtain ⟨o_new, tw3⟩ := var_some [.bool true, .string ⟨#[115, 104, 111, 112, 46, 111, 114, 103]⟩, .int .i64 8443] 0 _ _ o_v3 (by simp)
      rw [show setAll w2 (w.heap.size) 0 [.bool true, .string ⟨#[115, 104, 111, 112, 46, 111, 114, 103]⟩, .int .i64 8443] = w3 from hw3.symm] at o_new tw3
      replace o_v3 : Owns w3 _ (varD 45 3 [.bool true, .string ⟨#[115, 104, 111, 112, 46, 111, 114, 103]⟩, .int .i64 8443]) _ _ := o_new
      clear o_new
      replace hG := Dv.grown_turned hG tw3 (fun b hb => by simp at hb; omega)
      replace C := Dv.cur_turned C tw3 (by omega) (by omega)
      have zw3 := tw3.2.2.2.1
      rw [← hw3]
      clear hw3
      have y_v3_0 : w3.cell? ⟨w.heap.size, 0, none⟩ = some (.bool true) := var_load o_v3 (by simp) 0 _ rfl
      have y_v3_1 : w3.cell? ⟨w.heap.size, 1, none⟩ = some (.string ⟨#[115, 104, 111, 112, 46, 111, 114, 103]⟩) := var_load o_v3 (by simp) 1 _ rfl
      have y_v3_2 : w3.cell? ⟨w.heap.size, 2, none⟩ = some (.int .i64 8443) := var_load o_v3 (by simp) 2 _ rfl
      refine bodyPost_ret (v := .tuple #[.string ⟨#[115, 104, 111, 112, 46, 111, 114, 103]⟩, .agg #[.bool true, .string ⟨#[115, 104, 111, 112, 46, 111, 114, 103]⟩, .int .i64 8443]]) (by simp [results, Tryz.results122, go_sem, y_v3_0, y_v3_1, y_v3_2]) rfl ?_
      exact ⟨⟨#[115, 104, 111, 112, 46, 111, 114, 103]⟩, ⟨true, ⟨#[115, 104, 111, 112, 46, 111, 114, 103]⟩, 8443⟩, rfl, by simp [sites], ⟨Or.inl (by simp [hosts]), by simp [ports]⟩, C, hG⟩
    ·
      have hq2a : (u_1 == 1) = false := by simpa using hq2
      have hq2b : (u_1 != 1) = true := by simp [hq2]
      have HQ2 := Lib.hid hq2
      clear hq2
      obtain ⟨c_v30, f_v30, c_v31, f_v31, c_v32, f_v32, l_v3⟩ := Vn.v3 o_v3
      go_wp2
      clear c_v30 f_v30 c_v31 f_v31 c_v32 f_v32 l_v3
      obtain ⟨w3, hw3⟩ : ∃ ww, ww = (((w2.setCell ⟨w.heap.size, 0, none⟩ (.bool true)).setCell ⟨w.heap.size, 1, none⟩ (.string ⟨#[98, 97, 110, 107, 46, 99, 111, 109]⟩)).setCell ⟨w.heap.size, 2, none⟩ (.int .i64 443)) := ⟨_, rfl⟩
      obtain ⟨o_new, tw3⟩ := var_some [.bool true, .string ⟨#[98, 97, 110, 107, 46, 99, 111, 109]⟩, .int .i64 443] 0 _ _ o_v3 (by simp)
      rw [show setAll w2 (w.heap.size) 0 [.bool true, .string ⟨#[98, 97, 110, 107, 46, 99, 111, 109]⟩, .int .i64 443] = w3 from hw3.symm] at o_new tw3
      replace o_v3 : Owns w3 _ (varD 45 3 [.bool true, .string ⟨#[98, 97, 110, 107, 46, 99, 111, 109]⟩, .int .i64 443]) _ _ := o_new
      clear o_new
      replace hG := Dv.grown_turned hG tw3 (fun b hb => by simp at hb; omega)
      replace C := Dv.cur_turned C tw3 (by omega) (by omega)
      have zw3 := tw3.2.2.2.1
      rw [← hw3]
      clear hw3
      have y_v3_0 : w3.cell? ⟨w.heap.size, 0, none⟩ = some (.bool true) := var_load o_v3 (by simp) 0 _ rfl
      have y_v3_1 : w3.cell? ⟨w.heap.size, 1, none⟩ = some (.string ⟨#[98, 97, 110, 107, 46, 99, 111, 109]⟩) := var_load o_v3 (by simp) 1 _ rfl
      have y_v3_2 : w3.cell? ⟨w.heap.size, 2, none⟩ = some (.int .i64 443) := var_load o_v3 (by simp) 2 _ rfl
      refine bodyPost_ret (v := .tuple #[.string ⟨#[98, 97, 110, 107, 46, 99, 111, 109]⟩, .agg #[.bool true, .string ⟨#[98, 97, 110, 107, 46, 99, 111, 109]⟩, .int .i64 443]]) (by simp [results, Tryz.results122, go_sem, y_v3_0, y_v3_1, y_v3_2]) rfl ?_
      exact ⟨⟨#[98, 97, 110, 107, 46, 99, 111, 109]⟩, ⟨true, ⟨#[98, 97, 110, 107, 46, 99, 111, 109]⟩, 443⟩, rfl, by simp [sites], ⟨Or.inl (by simp [hosts]), by simp [ports]⟩, C, hG⟩
def EndA (w : World) (e : Ending) (w' : World) : Prop := ∃ (x : Fx.KeyStore) (o : Fx.Origin) (z : ByteArray) (h n : Int) (b : Bool), e = .returned (.tuple #[.agg #[.int .i64 x.Vendor, .int .i64 x.Serial, .int .i64 x.Seed, .int .i64 x.Counter], .agg #[.bool o.Secure, .string o.Host, .int .i64 o.Port], .string z, .int .i64 h, .int .i64 n, .bool b]) ∧ okK x ∧ okP o ∧ z ∈ sites ∧ (0 ≤ h ∧ h ≤ 2) ∧ (0 ≤ n ∧ n ≤ 8) ∧ Below w.heap.size w w'
set_option maxHeartbeats 8000000 in
theorem makeD (w : World) (H0 : Nat) (v : Value) (hc : C0.Code w H0 v) (h0 : H0 ≤ w.heap.size) : Calls Tryz.prog 84 #[v] w (EndA w) := by
  go_enter Tryz.func84, Tryz.ntmps84
  go_wp2_with fail
  obtain ⟨w1, hw1⟩ : ∃ ww, ww = w.alloc (.cells #[.int .i64 0, .int .i64 0, .int .i64 0, .int .i64 0] 61) := ⟨_, rfl⟩
  have o_v2 := var_owns w 61 4 [.int .i64 0, .int .i64 0, .int .i64 0, .int .i64 0] rfl
  have bw1 : Below w.heap.size w w1 := hw1 ▸ (Below.refl _ _).alloc (Nat.le_refl _) _
  have sw1 : w1.heap.size = w.heap.size + 1 := by rw [hw1]; simp
  rw [← hw1] at o_v2 ⊢
  have zw1 : w.heap.size < w1.heap.size := by omega
  have HB := bw1
  clear hw1
  obtain ⟨w2, hw2⟩ : ∃ ww, ww = w1.alloc (.cells #[.bool false, .string ⟨#[]⟩, .int .i64 0] 45) := ⟨_, rfl⟩
  have o_v3 := var_owns w1 45 3 [.bool false, .string ⟨#[]⟩, .int .i64 0] rfl
  have bw2 : Below w1.heap.size w1 w2 := hw2 ▸ (Below.refl _ _).alloc (Nat.le_refl _) _
  have sw2 : w2.heap.size = w1.heap.size + 1 := by rw [hw2]; simp
  rw [← hw2] at o_v3 ⊢
  have qw2 : w1.heap.size = w.heap.size + 1 := by omega
  rw [qw2] at o_v3
  clear qw2
  have zw2 : w1.heap.size < w2.heap.size := by omega
  replace o_v2 := owns_below o_v2 bw2
  replace HB := HB.trans (bw2.mono HB.size)
  clear hw2
  clear sw1 sw2
  have hc0 : C0.Code w2 H0 v := hc.below (HB.mono h0)
  (with_reducible refine (new_any _ H0 v hc0 (by omega)).mono ?_); rintro e w3 ⟨rfl, C, gw3⟩
  replace o_v2 := owns_turned o_v2 (turned_grown gw3) (fun b h1 h2 => by simp at h2)
  replace o_v3 := owns_turned o_v3 (turned_grown gw3) (fun b h1 h2 => by simp at h2)
  replace HB := HB.trans (grown_below gw3 (by omega) (fun r h => by cases h))
  have zw3 := gw3.size
  have zcur := C.lt
  go_wp2_with fail
  (with_reducible refine (D10.any_any _ _ H0 C).mono ?_); rintro e w4 ⟨k_1, rfl, hk_1, C, gw4⟩
  replace o_v2 := Dv.owns_drawn o_v2 gw4 (by omega)
  replace o_v3 := Dv.owns_drawn o_v3 gw4 (by omega)
  replace HB := HB.trans (grown_below gw4 (by omega) (fun r h => by cases h; omega))
  have zw4 := gw4.size
  have Hk_1 := Lib.hid hk_1
  clear hk_1
  go_wp2_with fail
  obtain ⟨w5, hw5⟩ : ∃ ww, ww = w4.alloc (.cells #[.int .i64 k_1.Vendor, .int .i64 k_1.Serial, .int .i64 k_1.Seed, .int .i64 k_1.Counter] 61) := ⟨_, rfl⟩
  have o_v9 := var_owns w4 61 4 [.int .i64 k_1.Vendor, .int .i64 k_1.Serial, .int .i64 k_1.Seed, .int .i64 k_1.Counter] rfl
  have bw5 : Below w4.heap.size w4 w5 := hw5 ▸ (Below.refl _ _).alloc (Nat.le_refl _) _
  have sw5 : w5.heap.size = w4.heap.size + 1 := by rw [hw5]; simp
  rw [← hw5] at o_v9 ⊢
  have zw5 : w4.heap.size < w5.heap.size := by omega
  replace C : IsCur w5 w2.heap.size H0 := hw5 ▸ C.alloc _
  replace o_v2 := owns_below o_v2 bw5
  replace o_v3 := owns_below o_v3 bw5
  replace HB := HB.trans (bw5.mono HB.size)
  clear hw5
  clear sw5
  (with_reducible refine (site_in _ _ H0 C).mono ?_); rintro e w6 ⟨z_2, o_3, rfl, hz_2, ho_3, C, gw6⟩
  replace o_v2 := Dv.owns_drawn o_v2 gw6 (by omega)
  replace o_v3 := Dv.owns_drawn o_v3 gw6 (by omega)
  replace o_v9 := Dv.owns_drawn o_v9 gw6 (by omega)
  replace HB := HB.trans (grown_below gw6 (by omega) (fun r h => by cases h; omega))
  have zw6 := gw6.size
  have Ho_3 := Lib.hid ho_3
  clear ho_3
  go_wp2_with fail
  obtain ⟨w7, hw7⟩ : ∃ ww, ww = w6.alloc (.cells #[.bool o_3.Secure, .string o_3.Host, .int .i64 o_3.Port] 45) := ⟨_, rfl⟩
  have o_v11 := var_owns w6 45 3 [.bool o_3.Secure, .string o_3.Host, .int .i64 o_3.Port] rfl
  have bw7 : Below w6.heap.size w6 w7 := hw7 ▸ (Below.refl _ _).alloc (Nat.le_refl _) _
  have sw7 : w7.heap.size = w6.heap.size + 1 := by rw [hw7]; simp
  rw [← hw7] at o_v11 ⊢
  have zw7 : w6.heap.size < w7.heap.size := by omega
  replace C : IsCur w7 w2.heap.size H0 := hw7 ▸ C.alloc _
  replace o_v2 := owns_below o_v2 bw7
  replace o_v3 := owns_below o_v3 bw7
  replace o_v9 := owns_below o_v9 bw7
  replace HB := HB.trans (bw7.mono HB.size)
  clear hw7
  clear sw7
  (with_reducible refine (once_any _ _ H0 3 C).mono ?_); rintro e w8 ⟨b_4, rfl, C, gw8⟩
  replace o_v2 := Dv.owns_drawn o_v2 gw8 (by omega)
  replace o_v3 := Dv.owns_drawn o_v3 gw8 (by omega)
  replace o_v9 := Dv.owns_drawn o_v9 gw8 (by omega)
  replace o_v11 := Dv.owns_drawn o_v11 gw8 (by omega)
  replace HB := HB.trans (grown_below gw8 (by omega) (fun r h => by cases h; omega))
  have zw8 := gw8.size
  cases hq1 : b_4 with
  | true =>
    go_wp2_with fail
    (with_reducible refine (any_in _ _ H0 C).mono ?_); rintro e w9 ⟨o_5, rfl, ho_5, C, gw9⟩
    replace o_v2 := Dv.owns_drawn o_v2 gw9 (by omega)
    replace o_v3 := Dv.owns_drawn o_v3 gw9 (by omega)
    replace o_v9 := Dv.owns_drawn o_v9 gw9 (by omega)
    replace o_v11 := Dv.owns_drawn o_v11 gw9 (by omega)
    replace HB := HB.trans (grown_below gw9 (by omega) (fun r h => by cases h; omega))
    have zw9 := gw9.size
    have Ho_5 := Lib.hid ho_5
    clear ho_5
    obtain ⟨c_v110, f_v110, c_v111, f_v111, c_v112, f_v112, l_v11⟩ := Vn.v3 o_v11
    go_wp2_with fail
    clear c_v110 f_v110 c_v111 f_v111 c_v112 f_v112 l_v11
    obtain ⟨w10, hw10⟩ : ∃ ww, ww = (((w9.setCell ⟨w6.heap.size, 0, none⟩ (.bool o_5.Secure)).setCell ⟨w6.heap.size, 1, none⟩ (.string o_5.Host)).setCell ⟨w6.heap.size, 2, none⟩ (.int .i64 o_5.Port)) := ⟨_, rfl⟩
    obtain ⟨o_new, tw10⟩ := var_some [.bool o_5.Secure, .string o_5.Host, .int .i64 o_5.Port] 0 _ _ o_v11 (by simp)
    rw [show setAll w9 (w6.heap.size) 0 [.bool o_5.Secure, .string o_5.Host, .int .i64 o_5.Port] = w10 from hw10.symm] at o_new tw10
    replace o_v11 : Owns w10 _ (varD 45 3 [.bool o_5.Secure, .string o_5.Host, .int .i64 o_5.Port]) _ _ := o_new
    clear o_new
    replace o_v2 := owns_turned o_v2 tw10 (fun b hb hb2 => by simp at hb hb2; omega)
    replace o_v3 := owns_turned o_v3 tw10 (fun b hb hb2 => by simp at hb hb2; omega)
    replace o_v9 := owns_turned o_v9 tw10 (fun b hb hb2 => by simp at hb hb2; omega)
    replace HB := below_turned HB tw10 (fun b hb => by simp at hb; omega)
    replace C := Dv.cur_turned C tw10 (by omega) (by omega)
    have zw10 := tw10.2.2.2.1
    rw [← hw10]
    clear hw10
    (with_reducible refine (below_any _ _ H0 3 C).mono ?_); rintro e w11 ⟨u_6, rfl, ⟨u_6a, u_6b⟩, C, gw11⟩
    replace o_v2 := Dv.owns_drawn o_v2 gw11 (by omega)
    replace o_v3 := Dv.owns_drawn o_v3 gw11 (by omega)
    replace o_v9 := Dv.owns_drawn o_v9 gw11 (by omega)
    replace o_v11 := Dv.owns_drawn o_v11 gw11 (by omega)
    replace HB := HB.trans (grown_below gw11 (by omega) (fun r h => by cases h; omega))
    have zw11 := gw11.size
    replace u_6b : u_6 < 3 := by omega
    go_wp2_with fail
    (with_reducible refine (below_any _ _ H0 9 C).mono ?_); rintro e w12 ⟨u_7, rfl, ⟨u_7a, u_7b⟩, C, gw12⟩
    replace o_v2 := Dv.owns_drawn o_v2 gw12 (by omega)
    replace o_v3 := Dv.owns_drawn o_v3 gw12 (by omega)
    replace o_v9 := Dv.owns_drawn o_v9 gw12 (by omega)
    replace o_v11 := Dv.owns_drawn o_v11 gw12 (by omega)
    replace HB := HB.trans (grown_below gw12 (by omega) (fun r h => by cases h; omega))
    have zw12 := gw12.size
    replace u_7b : u_7 < 9 := by omega
    go_wp2_with fail
    obtain ⟨w13, hw13⟩ : ∃ ww, ww = w12.drew := ⟨_, rfl⟩
    have bw13 : Below w12.heap.size w12 w13 := hw13 ▸ drewN_below w12 1 _
    replace C : IsCur w13 w2.heap.size H0 := hw13 ▸ C.drewN 1
    replace o_v2 := owns_below o_v2 bw13
    replace o_v3 := owns_below o_v3 bw13
    replace o_v9 := owns_below o_v9 bw13
    replace o_v11 := owns_below o_v11 bw13
    replace HB := HB.trans (bw13.mono HB.size)
    have zw13 := bw13.size
    refine wp_region_held_drew (S := (fun (wx : World) => wx.cell? ⟨w6.heap.size, 0, none⟩ = some (.bool o_5.Secure) ∧ wx.cell? ⟨w6.heap.size, 1, none⟩ = some (.string o_5.Host) ∧ wx.cell? ⟨w6.heap.size, 2, none⟩ = some (.int .i64 o_5.Port) ∧ wx.cell? ⟨w4.heap.size, 0, none⟩ = some (.int .i64 k_1.Vendor) ∧ wx.cell? ⟨w4.heap.size, 1, none⟩ = some (.int .i64 k_1.Serial) ∧ wx.cell? ⟨w4.heap.size, 2, none⟩ = some (.int .i64 k_1.Seed) ∧ wx.cell? ⟨w4.heap.size, 3, none⟩ = some (.int .i64 k_1.Counter))) (by kernel_rfl) ?_ (fun hHeld => ?_)
    · rw [← hw13]; exact ⟨var_load o_v11 (by simp) 0 _ rfl, var_load o_v11 (by simp) 1 _ rfl, var_load o_v11 (by simp) 2 _ rfl, var_load o_v9 (by simp) 0 _ rfl, var_load o_v9 (by simp) 1 _ rfl, var_load o_v9 (by simp) 2 _ rfl, var_load o_v9 (by simp) 3 _ rfl⟩
    rw [← hw13] at hHeld ⊢
    clear hw13
    refine wpAnyH_take (i := 0) (oi := ?oix1__0_1) (v := ?vx1__0_1) ?hix1__0_1 (by kernel_rfl) (by kernel_rfl) (by kernel_rfl) ?hQx1__0_1 (Or.inl ⟨?hwx1__0_1, ?hyx1__0_1⟩) (by assumption) ?_
    case hix1__0_1 => simp only [List.getElem?_toArray, List.getElem?_cons_zero]; rfl
    case hQx1__0_1 => exact fun _ _ _ h => h
    case hwx1__0_1 => rfl
    case hyx1__0_1 => intro w hSw; (try dsimp only at hSw); (first | (go_simp; done) | (go_simp; with_reducible rfl))
    try simp only [Act.put, List.setIfInBounds_toArray, List.set_cons_zero, List.set_cons_succ]
    refine wpAnyH_take (i := 1) (oi := ?oix1__1_2) (v := ?vx1__1_2) ?hix1__1_2 (by kernel_rfl) (by kernel_rfl) (by kernel_rfl) ?hQx1__1_2 (Or.inl ⟨?hwx1__1_2, ?hyx1__1_2⟩) (by assumption) ?_
    case hix1__1_2 => simp only [List.getElem?_toArray, List.getElem?_cons_succ, List.getElem?_cons_zero]; rfl
    case hQx1__1_2 => exact fun _ _ _ h => h
    case hwx1__1_2 => rfl
    case hyx1__1_2 => intro w hSw; (try dsimp only at hSw); (first | (go_simp; done) | (go_simp; with_reducible rfl))
    try simp only [Act.put, List.setIfInBounds_toArray, List.set_cons_zero, List.set_cons_succ]
    refine wpAnyH_take (i := 2) (oi := ?oix1__2_3) (v := ?vx1__2_3) ?hix1__2_3 (by kernel_rfl) (by kernel_rfl) (by kernel_rfl) ?hQx1__2_3 (Or.inl ⟨?hwx1__2_3, ?hyx1__2_3⟩) (by assumption) ?_
    case hix1__2_3 => simp only [List.getElem?_toArray, List.getElem?_cons_succ, List.getElem?_cons_zero]; rfl
    case hQx1__2_3 => exact fun _ _ _ h => h
    case hwx1__2_3 => rfl
    case hyx1__2_3 => intro w hSw; (try dsimp only at hSw); (first | (go_simp; done) | (go_simp; with_reducible rfl))
    try simp only [Act.put, List.setIfInBounds_toArray, List.set_cons_zero, List.set_cons_succ]
    refine wpAnyH_take (i := 3) (oi := ?oix1__3_4) (v := ?vx1__3_4) ?hix1__3_4 (by kernel_rfl) (by kernel_rfl) (by kernel_rfl) ?hQx1__3_4 (Or.inl ⟨?hwx1__3_4, ?hyx1__3_4⟩) (by assumption) ?_
    case hix1__3_4 => simp only [List.getElem?_toArray, List.getElem?_cons_succ, List.getElem?_cons_zero]; rfl
    case hQx1__3_4 => exact fun _ _ _ h => h
    case hwx1__3_4 => rfl
    case hyx1__3_4 => intro w hSw; (try dsimp only at hSw); (first | (go_simp; done) | (go_simp; with_reducible rfl))
    try simp only [Act.put, List.setIfInBounds_toArray, List.set_cons_zero, List.set_cons_succ]
    refine wpAnyH_take (i := 4) (oi := ?oix1__4_5) (v := ?vx1__4_5) ?hix1__4_5 (by kernel_rfl) (by kernel_rfl) (by kernel_rfl) ?hQx1__4_5 (Or.inl ⟨?hwx1__4_5, ?hyx1__4_5⟩) (by assumption) ?_
    case hix1__4_5 => simp only [List.getElem?_toArray, List.getElem?_cons_succ, List.getElem?_cons_zero]; rfl
    case hQx1__4_5 => exact fun _ _ _ h => h
    case hwx1__4_5 => rfl
    case hyx1__4_5 => intro w hSw; (try dsimp only at hSw); (first | (go_simp; done) | (go_simp; with_reducible rfl))
    try simp only [Act.put, List.setIfInBounds_toArray, List.set_cons_zero, List.set_cons_succ]
    refine wpAnyH_take (i := 5) (oi := ?oix1__5_6) (v := ?vx1__5_6) ?hix1__5_6 (by kernel_rfl) (by kernel_rfl) (by kernel_rfl) ?hQx1__5_6 (Or.inl ⟨?hwx1__5_6, ?hyx1__5_6⟩) (by assumption) ?_
    case hix1__5_6 => simp only [List.getElem?_toArray, List.getElem?_cons_succ, List.getElem?_cons_zero]; rfl
    case hQx1__5_6 => exact fun _ _ _ h => h
    case hwx1__5_6 => rfl
    case hyx1__5_6 => intro w hSw; (try dsimp only at hSw); (first | (go_simp; done) | (go_simp; with_reducible rfl))
    try simp only [Act.put, List.setIfInBounds_toArray, List.set_cons_zero, List.set_cons_succ]
    refine wpAnyH_ready (rs := [6]) (by kernel_rfl) (by simp) ?_
    refine AllReadyH.cons (o := ?ox1__6_7) ?hix1__6_7 (fun K hK => ?gx1__6_7) AllReadyH.nil
    case hix1__6_7 => simp only [List.getElem?_toArray, List.getElem?_cons_succ, List.getElem?_cons_zero]; rfl
    case gx1__6_7 =>
      go_simp
      go_at_call 68
      (with_reducible refine (once_any _ _ H0 2 C).mono ?_); rintro e w14 ⟨b_9, rfl, C, gw14⟩
      replace o_v2 := Dv.owns_drawn o_v2 gw14 (by omega)
      replace o_v3 := Dv.owns_drawn o_v3 gw14 (by omega)
      replace o_v9 := Dv.owns_drawn o_v9 gw14 (by omega)
      replace o_v11 := Dv.owns_drawn o_v11 gw14 (by omega)
      replace HB := HB.trans (grown_below gw14 (by omega) (fun r h => by cases h; omega))
      have zw14 := gw14.size
      refine hK.out _ _ ?_ (fun hHeld => ?_)
      · exact ⟨var_load o_v11 (by simp) 0 _ rfl, var_load o_v11 (by simp) 1 _ rfl, var_load o_v11 (by simp) 2 _ rfl, var_load o_v9 (by simp) 0 _ rfl, var_load o_v9 (by simp) 1 _ rfl, var_load o_v9 (by simp) 2 _ rfl, var_load o_v9 (by simp) 3 _ rfl⟩
      clear hK K
      try simp only [Act.put, List.setIfInBounds_toArray, List.set_cons_zero, List.set_cons_succ]
      refine wpAnyH_ready (rs := [7]) (by kernel_rfl) (by simp) ?_
      refine AllReadyH.cons (o := ?ox1__7_8) ?hix1__7_8 (fun K hK => ?gx1__7_8) AllReadyH.nil
      case hix1__7_8 => simp only [List.getElem?_toArray, List.getElem?_cons_succ, List.getElem?_cons_zero]; rfl
      case gx1__7_8 =>
        obtain ⟨c_v20, f_v20, c_v21, f_v21, c_v22, f_v22, c_v23, f_v23, l_v2⟩ := Vn.v4 o_v2
        go_simp
        clear c_v20 f_v20 c_v21 f_v21 c_v22 f_v22 c_v23 f_v23 l_v2
        obtain ⟨w15, hw15⟩ : ∃ ww, ww = ((((w14.setCell ⟨w.heap.size, 0, none⟩ (.int .i64 k_1.Vendor)).setCell ⟨w.heap.size, 1, none⟩ (.int .i64 k_1.Serial)).setCell ⟨w.heap.size, 2, none⟩ (.int .i64 k_1.Seed)).setCell ⟨w.heap.size, 3, none⟩ (.int .i64 k_1.Counter)) := ⟨_, rfl⟩
        obtain ⟨o_new, tw15⟩ := var_some [.int .i64 k_1.Vendor, .int .i64 k_1.Serial, .int .i64 k_1.Seed, .int .i64 k_1.Counter] 0 _ _ o_v2 (by simp)
        rw [show setAll w14 (w.heap.size) 0 [.int .i64 k_1.Vendor, .int .i64 k_1.Serial, .int .i64 k_1.Seed, .int .i64 k_1.Counter] = w15 from hw15.symm] at o_new tw15
        replace o_v2 : Owns w15 _ (varD 61 4 [.int .i64 k_1.Vendor, .int .i64 k_1.Serial, .int .i64 k_1.Seed, .int .i64 k_1.Counter]) _ _ := o_new
        clear o_new
        replace o_v3 := owns_turned o_v3 tw15 (fun b hb hb2 => by simp at hb hb2; omega)
        replace o_v9 := owns_turned o_v9 tw15 (fun b hb hb2 => by simp at hb hb2; omega)
        replace o_v11 := owns_turned o_v11 tw15 (fun b hb hb2 => by simp at hb hb2; omega)
        replace HB := below_turned HB tw15 (fun b hb => by simp at hb; omega)
        replace C := Dv.cur_turned C tw15 (by omega) (by omega)
        have zw15 := tw15.2.2.2.1
        rw [← hw15]
        clear hw15
        refine hK.out _ _ ?_ (fun hHeld => ?_)
        · exact ⟨var_load o_v11 (by simp) 0 _ rfl, var_load o_v11 (by simp) 1 _ rfl, var_load o_v11 (by simp) 2 _ rfl, var_load o_v9 (by simp) 0 _ rfl, var_load o_v9 (by simp) 1 _ rfl, var_load o_v9 (by simp) 2 _ rfl, var_load o_v9 (by simp) 3 _ rfl⟩
        clear hK K
        try simp only [Act.put, List.setIfInBounds_toArray, List.set_cons_zero, List.set_cons_succ]
        refine wpAnyH_ready (rs := [8]) (by kernel_rfl) (by simp) ?_
        refine AllReadyH.cons (o := ?ox1__8_9) ?hix1__8_9 (fun K hK => ?gx1__8_9) AllReadyH.nil
        case hix1__8_9 => simp only [List.getElem?_toArray, List.getElem?_cons_succ, List.getElem?_cons_zero]; rfl
        case gx1__8_9 =>
          obtain ⟨c_v30, f_v30, c_v31, f_v31, c_v32, f_v32, l_v3⟩ := Vn.v3 o_v3
          go_simp
          clear c_v30 f_v30 c_v31 f_v31 c_v32 f_v32 l_v3
          obtain ⟨w16, hw16⟩ : ∃ ww, ww = (((w15.setCell ⟨(w.heap.size + 1), 0, none⟩ (.bool o_5.Secure)).setCell ⟨(w.heap.size + 1), 1, none⟩ (.string o_5.Host)).setCell ⟨(w.heap.size + 1), 2, none⟩ (.int .i64 o_5.Port)) := ⟨_, rfl⟩
          obtain ⟨o_new, tw16⟩ := var_some [.bool o_5.Secure, .string o_5.Host, .int .i64 o_5.Port] 0 _ _ o_v3 (by simp)
          rw [show setAll w15 ((w.heap.size + 1)) 0 [.bool o_5.Secure, .string o_5.Host, .int .i64 o_5.Port] = w16 from hw16.symm] at o_new tw16
          replace o_v3 : Owns w16 _ (varD 45 3 [.bool o_5.Secure, .string o_5.Host, .int .i64 o_5.Port]) _ _ := o_new
          clear o_new
          replace o_v2 := owns_turned o_v2 tw16 (fun b hb hb2 => by simp at hb hb2; omega)
          replace o_v9 := owns_turned o_v9 tw16 (fun b hb hb2 => by simp at hb hb2; omega)
          replace o_v11 := owns_turned o_v11 tw16 (fun b hb hb2 => by simp at hb hb2; omega)
          replace HB := below_turned HB tw16 (fun b hb => by simp at hb; omega)
          replace C := Dv.cur_turned C tw16 (by omega) (by omega)
          have zw16 := tw16.2.2.2.1
          rw [← hw16]
          clear hw16
          refine hK.out _ _ ?_ (fun hHeld => ?_)
          · exact ⟨var_load o_v11 (by simp) 0 _ rfl, var_load o_v11 (by simp) 1 _ rfl, var_load o_v11 (by simp) 2 _ rfl, var_load o_v9 (by simp) 0 _ rfl, var_load o_v9 (by simp) 1 _ rfl, var_load o_v9 (by simp) 2 _ rfl, var_load o_v9 (by simp) 3 _ rfl⟩
          clear hK K
          try simp only [Act.put, List.setIfInBounds_toArray, List.set_cons_zero, List.set_cons_succ]
          refine wpAnyH_take (i := 9) (oi := ?oix1__9_10) (v := ?vx1__9_10) ?hix1__9_10 (by kernel_rfl) (by kernel_rfl) (by kernel_rfl) ?hQx1__9_10 (Or.inl ⟨?hwx1__9_10, ?hyx1__9_10⟩) (by assumption) ?_
          case hix1__9_10 => simp only [List.getElem?_toArray, List.getElem?_cons_succ, List.getElem?_cons_zero]; rfl
          case hQx1__9_10 => exact fun _ _ _ h => h
          case hwx1__9_10 => rfl
          case hyx1__9_10 => intro w hSw; (try dsimp only at hSw); (first | (go_simp; done) | (go_simp; with_reducible rfl))
          try simp only [Act.put, List.setIfInBounds_toArray, List.set_cons_zero, List.set_cons_succ]
          refine wpAnyH_take (i := 10) (oi := ?oix1__10_11) (v := ?vx1__10_11) ?hix1__10_11 (by kernel_rfl) (by kernel_rfl) (by kernel_rfl) ?hQx1__10_11 (Or.inl ⟨?hwx1__10_11, ?hyx1__10_11⟩) (by assumption) ?_
          case hix1__10_11 => simp only [List.getElem?_toArray, List.getElem?_cons_succ, List.getElem?_cons_zero]; rfl
          case hQx1__10_11 => exact fun _ _ _ h => h
          case hwx1__10_11 => rfl
          case hyx1__10_11 => intro w hSw; (try dsimp only at hSw); (first | (go_simp; done) | (go_simp; with_reducible rfl))
          try simp only [Act.put, List.setIfInBounds_toArray, List.set_cons_zero, List.set_cons_succ]
          refine wpAnyH_take (i := 11) (oi := ?oix1__11_12) (v := ?vx1__11_12) ?hix1__11_12 (by kernel_rfl) (by kernel_rfl) (by kernel_rfl) ?hQx1__11_12 (Or.inl ⟨?hwx1__11_12, ?hyx1__11_12⟩) (by assumption) ?_
          case hix1__11_12 => simp only [List.getElem?_toArray, List.getElem?_cons_succ, List.getElem?_cons_zero]; rfl
          case hQx1__11_12 => exact fun _ _ _ h => h
          case hwx1__11_12 => rfl
          case hyx1__11_12 => intro w hSw; (try dsimp only at hSw); (first | (go_simp; done) | (go_simp; with_reducible rfl))
          try simp only [Act.put, List.setIfInBounds_toArray, List.set_cons_zero, List.set_cons_succ]
          refine wpAnyH_take (i := 12) (oi := ?oix1__12_13) (v := ?vx1__12_13) ?hix1__12_13 (by kernel_rfl) (by kernel_rfl) (by kernel_rfl) ?hQx1__12_13 (Or.inl ⟨?hwx1__12_13, ?hyx1__12_13⟩) (by assumption) ?_
          case hix1__12_13 => simp only [List.getElem?_toArray, List.getElem?_cons_succ, List.getElem?_cons_zero]; rfl
          case hQx1__12_13 => exact fun _ _ _ h => h
          case hwx1__12_13 => rfl
          case hyx1__12_13 => intro w hSw; (try dsimp only at hSw); (first | (go_simp; done) | (go_simp; with_reducible rfl))
          try simp only [Act.put, List.setIfInBounds_toArray, List.set_cons_zero, List.set_cons_succ]
          refine wpAnyH_done (by kernel_rfl) ?_ _
          obtain ⟨c_v20, f_v20, c_v21, f_v21, c_v22, f_v22, c_v23, f_v23, l_v2⟩ := Vn.v4 o_v2
          obtain ⟨c_v30, f_v30, c_v31, f_v31, c_v32, f_v32, l_v3⟩ := Vn.v3 o_v3
          go_wp2
          clear c_v20 f_v20 c_v21 f_v21 c_v22 f_v22 c_v23 f_v23 l_v2 c_v30 f_v30 c_v31 f_v31 c_v32 f_v32 l_v3
          have y_v2_0 : w16.cell? ⟨w.heap.size, 0, none⟩ = some (.int .i64 k_1.Vendor) := var_load o_v2 (by simp) 0 _ rfl
          have y_v2_1 : w16.cell? ⟨w.heap.size, 1, none⟩ = some (.int .i64 k_1.Serial) := var_load o_v2 (by simp) 1 _ rfl
          have y_v2_2 : w16.cell? ⟨w.heap.size, 2, none⟩ = some (.int .i64 k_1.Seed) := var_load o_v2 (by simp) 2 _ rfl
          have y_v2_3 : w16.cell? ⟨w.heap.size, 3, none⟩ = some (.int .i64 k_1.Counter) := var_load o_v2 (by simp) 3 _ rfl
          have y_v3_0 : w16.cell? ⟨(w.heap.size + 1), 0, none⟩ = some (.bool o_5.Secure) := var_load o_v3 (by simp) 0 _ rfl
          have y_v3_1 : w16.cell? ⟨(w.heap.size + 1), 1, none⟩ = some (.string o_5.Host) := var_load o_v3 (by simp) 1 _ rfl
          have y_v3_2 : w16.cell? ⟨(w.heap.size + 1), 2, none⟩ = some (.int .i64 o_5.Port) := var_load o_v3 (by simp) 2 _ rfl
          refine bodyPost_ret (v := .tuple #[.agg #[.int .i64 k_1.Vendor, .int .i64 k_1.Serial, .int .i64 k_1.Seed, .int .i64 k_1.Counter], .agg #[.bool o_5.Secure, .string o_5.Host, .int .i64 o_5.Port], .string z_2, .int .i64 u_6, .int .i64 u_7, .bool b_9]) (by simp [results, Tryz.results84, go_sem, y_v2_0, y_v2_1, y_v2_2, y_v2_3, y_v3_0, y_v3_1, y_v3_2]) rfl ?_
          exact ⟨k_1, o_5, z_2, u_6, u_7, _, rfl, Hk_1.out, Ho_5.out, hz_2, ⟨by omega, by omega⟩, ⟨by omega, by omega⟩, HB⟩
  | false =>
    go_wp2_with fail
    (with_reducible refine (below_any _ _ H0 3 C).mono ?_); rintro e w9 ⟨u_10, rfl, ⟨u_10a, u_10b⟩, C, gw9⟩
    replace o_v2 := Dv.owns_drawn o_v2 gw9 (by omega)
    replace o_v3 := Dv.owns_drawn o_v3 gw9 (by omega)
    replace o_v9 := Dv.owns_drawn o_v9 gw9 (by omega)
    replace o_v11 := Dv.owns_drawn o_v11 gw9 (by omega)
    replace HB := HB.trans (grown_below gw9 (by omega) (fun r h => by cases h; omega))
    have zw9 := gw9.size
    replace u_10b : u_10 < 3 := by omega
    go_wp2_with fail
    (with_reducible refine (below_any _ _ H0 9 C).mono ?_); rintro e w10 ⟨u_11, rfl, ⟨u_11a, u_11b⟩, C, gw10⟩
    replace o_v2 := Dv.owns_drawn o_v2 gw10 (by omega)
    replace o_v3 := Dv.owns_drawn o_v3 gw10 (by omega)
    replace o_v9 := Dv.owns_drawn o_v9 gw10 (by omega)
    replace o_v11 := Dv.owns_drawn o_v11 gw10 (by omega)
    replace HB := HB.trans (grown_below gw10 (by omega) (fun r h => by cases h; omega))
    have zw10 := gw10.size
    replace u_11b : u_11 < 9 := by omega
    go_wp2_with fail
    obtain ⟨w11, hw11⟩ : ∃ ww, ww = w10.drew := ⟨_, rfl⟩
    have bw11 : Below w10.heap.size w10 w11 := hw11 ▸ drewN_below w10 1 _
    replace C : IsCur w11 w2.heap.size H0 := hw11 ▸ C.drewN 1
    replace o_v2 := owns_below o_v2 bw11
    replace o_v3 := owns_below o_v3 bw11
    replace o_v9 := owns_below o_v9 bw11
    replace o_v11 := owns_below o_v11 bw11
    replace HB := HB.trans (bw11.mono HB.size)
    have zw11 := bw11.size
    refine wp_region_held_drew (S := (fun (wx : World) => wx.cell? ⟨w6.heap.size, 0, none⟩ = some (.bool o_3.Secure) ∧ wx.cell? ⟨w6.heap.size, 1, none⟩ = some (.string o_3.Host) ∧ wx.cell? ⟨w6.heap.size, 2, none⟩ = some (.int .i64 o_3.Port) ∧ wx.cell? ⟨w4.heap.size, 0, none⟩ = some (.int .i64 k_1.Vendor) ∧ wx.cell? ⟨w4.heap.size, 1, none⟩ = some (.int .i64 k_1.Serial) ∧ wx.cell? ⟨w4.heap.size, 2, none⟩ = some (.int .i64 k_1.Seed) ∧ wx.cell? ⟨w4.heap.size, 3, none⟩ = some (.int .i64 k_1.Counter))) (by kernel_rfl) ?_ (fun hHeld => ?_)
    · rw [← hw11]; exact ⟨var_load o_v11 (by simp) 0 _ rfl, var_load o_v11 (by simp) 1 _ rfl, var_load o_v11 (by simp) 2 _ rfl, var_load o_v9 (by simp) 0 _ rfl, var_load o_v9 (by simp) 1 _ rfl, var_load o_v9 (by simp) 2 _ rfl, var_load o_v9 (by simp) 3 _ rfl⟩
    rw [← hw11] at hHeld ⊢
    clear hw11
    refine wpAnyH_take (i := 0) (oi := ?oix2__0_1) (v := ?vx2__0_1) ?hix2__0_1 (by kernel_rfl) (by kernel_rfl) (by kernel_rfl) ?hQx2__0_1 (Or.inl ⟨?hwx2__0_1, ?hyx2__0_1⟩) (by assumption) ?_
    case hix2__0_1 => simp only [List.getElem?_toArray, List.getElem?_cons_zero]; rfl
    case hQx2__0_1 => exact fun _ _ _ h => h
    case hwx2__0_1 => rfl
    case hyx2__0_1 => intro w hSw; (try dsimp only at hSw); (first | (go_simp; done) | (go_simp; with_reducible rfl))
    try simp only [Act.put, List.setIfInBounds_toArray, List.set_cons_zero, List.set_cons_succ]
    refine wpAnyH_take (i := 1) (oi := ?oix2__1_2) (v := ?vx2__1_2) ?hix2__1_2 (by kernel_rfl) (by kernel_rfl) (by kernel_rfl) ?hQx2__1_2 (Or.inl ⟨?hwx2__1_2, ?hyx2__1_2⟩) (by assumption) ?_
    case hix2__1_2 => simp only [List.getElem?_toArray, List.getElem?_cons_succ, List.getElem?_cons_zero]; rfl
    case hQx2__1_2 => exact fun _ _ _ h => h
    case hwx2__1_2 => rfl
    case hyx2__1_2 => intro w hSw; (try dsimp only at hSw); (first | (go_simp; done) | (go_simp; with_reducible rfl))
    try simp only [Act.put, List.setIfInBounds_toArray, List.set_cons_zero, List.set_cons_succ]
    refine wpAnyH_take (i := 2) (oi := ?oix2__2_3) (v := ?vx2__2_3) ?hix2__2_3 (by kernel_rfl) (by kernel_rfl) (by kernel_rfl) ?hQx2__2_3 (Or.inl ⟨?hwx2__2_3, ?hyx2__2_3⟩) (by assumption) ?_
    case hix2__2_3 => simp only [List.getElem?_toArray, List.getElem?_cons_succ, List.getElem?_cons_zero]; rfl
    case hQx2__2_3 => exact fun _ _ _ h => h
    case hwx2__2_3 => rfl
    case hyx2__2_3 => intro w hSw; (try dsimp only at hSw); (first | (go_simp; done) | (go_simp; with_reducible rfl))
    try simp only [Act.put, List.setIfInBounds_toArray, List.set_cons_zero, List.set_cons_succ]
    refine wpAnyH_take (i := 3) (oi := ?oix2__3_4) (v := ?vx2__3_4) ?hix2__3_4 (by kernel_rfl) (by kernel_rfl) (by kernel_rfl) ?hQx2__3_4 (Or.inl ⟨?hwx2__3_4, ?hyx2__3_4⟩) (by assumption) ?_
    case hix2__3_4 => simp only [List.getElem?_toArray, List.getElem?_cons_succ, List.getElem?_cons_zero]; rfl
    case hQx2__3_4 => exact fun _ _ _ h => h
    case hwx2__3_4 => rfl
    case hyx2__3_4 => intro w hSw; (try dsimp only at hSw); (first | (go_simp; done) | (go_simp; with_reducible rfl))
    try simp only [Act.put, List.setIfInBounds_toArray, List.set_cons_zero, List.set_cons_succ]
    refine wpAnyH_take (i := 4) (oi := ?oix2__4_5) (v := ?vx2__4_5) ?hix2__4_5 (by kernel_rfl) (by kernel_rfl) (by kernel_rfl) ?hQx2__4_5 (Or.inl ⟨?hwx2__4_5, ?hyx2__4_5⟩) (by assumption) ?_
    case hix2__4_5 => simp only [List.getElem?_toArray, List.getElem?_cons_succ, List.getElem?_cons_zero]; rfl
    case hQx2__4_5 => exact fun _ _ _ h => h
    case hwx2__4_5 => rfl
    case hyx2__4_5 => intro w hSw; (try dsimp only at hSw); (first | (go_simp; done) | (go_simp; with_reducible rfl))
    try simp only [Act.put, List.setIfInBounds_toArray, List.set_cons_zero, List.set_cons_succ]
    refine wpAnyH_take (i := 5) (oi := ?oix2__5_6) (v := ?vx2__5_6) ?hix2__5_6 (by kernel_rfl) (by kernel_rfl) (by kernel_rfl) ?hQx2__5_6 (Or.inl ⟨?hwx2__5_6, ?hyx2__5_6⟩) (by assumption) ?_
    case hix2__5_6 => simp only [List.getElem?_toArray, List.getElem?_cons_succ, List.getElem?_cons_zero]; rfl
    case hQx2__5_6 => exact fun _ _ _ h => h
    case hwx2__5_6 => rfl
    case hyx2__5_6 => intro w hSw; (try dsimp only at hSw); (first | (go_simp; done) | (go_simp; with_reducible rfl))
    try simp only [Act.put, List.setIfInBounds_toArray, List.set_cons_zero, List.set_cons_succ]
    refine wpAnyH_ready (rs := [6]) (by kernel_rfl) (by simp) ?_
    refine AllReadyH.cons (o := ?ox2__6_7) ?hix2__6_7 (fun K hK => ?gx2__6_7) AllReadyH.nil
    case hix2__6_7 => simp only [List.getElem?_toArray, List.getElem?_cons_succ, List.getElem?_cons_zero]; rfl
    case gx2__6_7 =>
      go_simp
      go_at_call 68
      (with_reducible refine (once_any _ _ H0 2 C).mono ?_); rintro e w12 ⟨b_13, rfl, C, gw12⟩
      replace o_v2 := Dv.owns_drawn o_v2 gw12 (by omega)
      replace o_v3 := Dv.owns_drawn o_v3 gw12 (by omega)
      replace o_v9 := Dv.owns_drawn o_v9 gw12 (by omega)
      replace o_v11 := Dv.owns_drawn o_v11 gw12 (by omega)
      replace HB := HB.trans (grown_below gw12 (by omega) (fun r h => by cases h; omega))
      have zw12 := gw12.size
      refine hK.out _ _ ?_ (fun hHeld => ?_)
      · exact ⟨var_load o_v11 (by simp) 0 _ rfl, var_load o_v11 (by simp) 1 _ rfl, var_load o_v11 (by simp) 2 _ rfl, var_load o_v9 (by simp) 0 _ rfl, var_load o_v9 (by simp) 1 _ rfl, var_load o_v9 (by simp) 2 _ rfl, var_load o_v9 (by simp) 3 _ rfl⟩
      clear hK K
      try simp only [Act.put, List.setIfInBounds_toArray, List.set_cons_zero, List.set_cons_succ]
      refine wpAnyH_ready (rs := [7]) (by kernel_rfl) (by simp) ?_
      refine AllReadyH.cons (o := ?ox2__7_8) ?hix2__7_8 (fun K hK => ?gx2__7_8) AllReadyH.nil
      case hix2__7_8 => simp only [List.getElem?_toArray, List.getElem?_cons_succ, List.getElem?_cons_zero]; rfl
      case gx2__7_8 =>
        obtain ⟨c_v20, f_v20, c_v21, f_v21, c_v22, f_v22, c_v23, f_v23, l_v2⟩ := Vn.v4 o_v2
        go_simp
        clear c_v20 f_v20 c_v21 f_v21 c_v22 f_v22 c_v23 f_v23 l_v2
        obtain ⟨w13, hw13⟩ : ∃ ww, ww = ((((w12.setCell ⟨w.heap.size, 0, none⟩ (.int .i64 k_1.Vendor)).setCell ⟨w.heap.size, 1, none⟩ (.int .i64 k_1.Serial)).setCell ⟨w.heap.size, 2, none⟩ (.int .i64 k_1.Seed)).setCell ⟨w.heap.size, 3, none⟩ (.int .i64 k_1.Counter)) := ⟨_, rfl⟩
        obtain ⟨o_new, tw13⟩ := var_some [.int .i64 k_1.Vendor, .int .i64 k_1.Serial, .int .i64 k_1.Seed, .int .i64 k_1.Counter] 0 _ _ o_v2 (by simp)
        rw [show setAll w12 (w.heap.size) 0 [.int .i64 k_1.Vendor, .int .i64 k_1.Serial, .int .i64 k_1.Seed, .int .i64 k_1.Counter] = w13 from hw13.symm] at o_new tw13
        replace o_v2 : Owns w13 _ (varD 61 4 [.int .i64 k_1.Vendor, .int .i64 k_1.Serial, .int .i64 k_1.Seed, .int .i64 k_1.Counter]) _ _ := o_new
        clear o_new
        replace o_v3 := owns_turned o_v3 tw13 (fun b hb hb2 => by simp at hb hb2; omega)
        replace o_v9 := owns_turned o_v9 tw13 (fun b hb hb2 => by simp at hb hb2; omega)
        replace o_v11 := owns_turned o_v11 tw13 (fun b hb hb2 => by simp at hb hb2; omega)
        replace HB := below_turned HB tw13 (fun b hb => by simp at hb; omega)
        replace C := Dv.cur_turned C tw13 (by omega) (by omega)
        have zw13 := tw13.2.2.2.1
        rw [← hw13]
        clear hw13
        refine hK.out _ _ ?_ (fun hHeld => ?_)
        · exact ⟨var_load o_v11 (by simp) 0 _ rfl, var_load o_v11 (by simp) 1 _ rfl, var_load o_v11 (by simp) 2 _ rfl, var_load o_v9 (by simp) 0 _ rfl, var_load o_v9 (by simp) 1 _ rfl, var_load o_v9 (by simp) 2 _ rfl, var_load o_v9 (by simp) 3 _ rfl⟩
        clear hK K
        try simp only [Act.put, List.setIfInBounds_toArray, List.set_cons_zero, List.set_cons_succ]
        refine wpAnyH_ready (rs := [8]) (by kernel_rfl) (by simp) ?_
        refine AllReadyH.cons (o := ?ox2__8_9) ?hix2__8_9 (fun K hK => ?gx2__8_9) AllReadyH.nil
        case hix2__8_9 => simp only [List.getElem?_toArray, List.getElem?_cons_succ, List.getElem?_cons_zero]; rfl
        case gx2__8_9 =>
          obtain ⟨c_v30, f_v30, c_v31, f_v31, c_v32, f_v32, l_v3⟩ := Vn.v3 o_v3
          go_simp
          clear c_v30 f_v30 c_v31 f_v31 c_v32 f_v32 l_v3
          obtain ⟨w14, hw14⟩ : ∃ ww, ww = (((w13.setCell ⟨(w.heap.size + 1), 0, none⟩ (.bool o_3.Secure)).setCell ⟨(w.heap.size + 1), 1, none⟩ (.string o_3.Host)).setCell ⟨(w.heap.size + 1), 2, none⟩ (.int .i64 o_3.Port)) := ⟨_, rfl⟩
          obtain ⟨o_new, tw14⟩ := var_some [.bool o_3.Secure, .string o_3.Host, .int .i64 o_3.Port] 0 _ _ o_v3 (by simp)
          rw [show setAll w13 ((w.heap.size + 1)) 0 [.bool o_3.Secure, .string o_3.Host, .int .i64 o_3.Port] = w14 from hw14.symm] at o_new tw14
          replace o_v3 : Owns w14 _ (varD 45 3 [.bool o_3.Secure, .string o_3.Host, .int .i64 o_3.Port]) _ _ := o_new
          clear o_new
          replace o_v2 := owns_turned o_v2 tw14 (fun b hb hb2 => by simp at hb hb2; omega)
          replace o_v9 := owns_turned o_v9 tw14 (fun b hb hb2 => by simp at hb hb2; omega)
          replace o_v11 := owns_turned o_v11 tw14 (fun b hb hb2 => by simp at hb hb2; omega)
          replace HB := below_turned HB tw14 (fun b hb => by simp at hb; omega)
          replace C := Dv.cur_turned C tw14 (by omega) (by omega)
          have zw14 := tw14.2.2.2.1
          rw [← hw14]
          clear hw14
          refine hK.out _ _ ?_ (fun hHeld => ?_)
          · exact ⟨var_load o_v11 (by simp) 0 _ rfl, var_load o_v11 (by simp) 1 _ rfl, var_load o_v11 (by simp) 2 _ rfl, var_load o_v9 (by simp) 0 _ rfl, var_load o_v9 (by simp) 1 _ rfl, var_load o_v9 (by simp) 2 _ rfl, var_load o_v9 (by simp) 3 _ rfl⟩
          clear hK K
          try simp only [Act.put, List.setIfInBounds_toArray, List.set_cons_zero, List.set_cons_succ]
          refine wpAnyH_take (i := 9) (oi := ?oix2__9_10) (v := ?vx2__9_10) ?hix2__9_10 (by kernel_rfl) (by kernel_rfl) (by kernel_rfl) ?hQx2__9_10 (Or.inl ⟨?hwx2__9_10, ?hyx2__9_10⟩) (by assumption) ?_
          case hix2__9_10 => simp only [List.getElem?_toArray, List.getElem?_cons_succ, List.getElem?_cons_zero]; rfl
          case hQx2__9_10 => exact fun _ _ _ h => h
          case hwx2__9_10 => rfl
          case hyx2__9_10 => intro w hSw; (try dsimp only at hSw); (first | (go_simp; done) | (go_simp; with_reducible rfl))
          try simp only [Act.put, List.setIfInBounds_toArray, List.set_cons_zero, List.set_cons_succ]
          refine wpAnyH_take (i := 10) (oi := ?oix2__10_11) (v := ?vx2__10_11) ?hix2__10_11 (by kernel_rfl) (by kernel_rfl) (by kernel_rfl) ?hQx2__10_11 (Or.inl ⟨?hwx2__10_11, ?hyx2__10_11⟩) (by assumption) ?_
          case hix2__10_11 => simp only [List.getElem?_toArray, List.getElem?_cons_succ, List.getElem?_cons_zero]; rfl
          case hQx2__10_11 => exact fun _ _ _ h => h
          case hwx2__10_11 => rfl
          case hyx2__10_11 => intro w hSw; (try dsimp only at hSw); (first | (go_simp; done) | (go_simp; with_reducible rfl))
          try simp only [Act.put, List.setIfInBounds_toArray, List.set_cons_zero, List.set_cons_succ]
          refine wpAnyH_take (i := 11) (oi := ?oix2__11_12) (v := ?vx2__11_12) ?hix2__11_12 (by kernel_rfl) (by kernel_rfl) (by kernel_rfl) ?hQx2__11_12 (Or.inl ⟨?hwx2__11_12, ?hyx2__11_12⟩) (by assumption) ?_
          case hix2__11_12 => simp only [List.getElem?_toArray, List.getElem?_cons_succ, List.getElem?_cons_zero]; rfl
          case hQx2__11_12 => exact fun _ _ _ h => h
          case hwx2__11_12 => rfl
          case hyx2__11_12 => intro w hSw; (try dsimp only at hSw); (first | (go_simp; done) | (go_simp; with_reducible rfl))
          try simp only [Act.put, List.setIfInBounds_toArray, List.set_cons_zero, List.set_cons_succ]
          refine wpAnyH_take (i := 12) (oi := ?oix2__12_13) (v := ?vx2__12_13) ?hix2__12_13 (by kernel_rfl) (by kernel_rfl) (by kernel_rfl) ?hQx2__12_13 (Or.inl ⟨?hwx2__12_13, ?hyx2__12_13⟩) (by assumption) ?_
          case hix2__12_13 => simp only [List.getElem?_toArray, List.getElem?_cons_succ, List.getElem?_cons_zero]; rfl
          case hQx2__12_13 => exact fun _ _ _ h => h
          case hwx2__12_13 => rfl
          case hyx2__12_13 => intro w hSw; (try dsimp only at hSw); (first | (go_simp; done) | (go_simp; with_reducible rfl))
          try simp only [Act.put, List.setIfInBounds_toArray, List.set_cons_zero, List.set_cons_succ]
          refine wpAnyH_done (by kernel_rfl) ?_ _
          obtain ⟨c_v20, f_v20, c_v21, f_v21, c_v22, f_v22, c_v23, f_v23, l_v2⟩ := Vn.v4 o_v2
          obtain ⟨c_v30, f_v30, c_v31, f_v31, c_v32, f_v32, l_v3⟩ := Vn.v3 o_v3
          go_wp2
          clear c_v20 f_v20 c_v21 f_v21 c_v22 f_v22 c_v23 f_v23 l_v2 c_v30 f_v30 c_v31 f_v31 c_v32 f_v32 l_v3
          have y_v2_0 : w14.cell? ⟨w.heap.size, 0, none⟩ = some (.int .i64 k_1.Vendor) := var_load o_v2 (by simp) 0 _ rfl
          have y_v2_1 : w14.cell? ⟨w.heap.size, 1, none⟩ = some (.int .i64 k_1.Serial) := var_load o_v2 (by simp) 1 _ rfl
          have y_v2_2 : w14.cell? ⟨w.heap.size, 2, none⟩ = some (.int .i64 k_1.Seed) := var_load o_v2 (by simp) 2 _ rfl
          have y_v2_3 : w14.cell? ⟨w.heap.size, 3, none⟩ = some (.int .i64 k_1.Counter) := var_load o_v2 (by simp) 3 _ rfl
          have y_v3_0 : w14.cell? ⟨(w.heap.size + 1), 0, none⟩ = some (.bool o_3.Secure) := var_load o_v3 (by simp) 0 _ rfl
          have y_v3_1 : w14.cell? ⟨(w.heap.size + 1), 1, none⟩ = some (.string o_3.Host) := var_load o_v3 (by simp) 1 _ rfl
          have y_v3_2 : w14.cell? ⟨(w.heap.size + 1), 2, none⟩ = some (.int .i64 o_3.Port) := var_load o_v3 (by simp) 2 _ rfl
          refine bodyPost_ret (v := .tuple #[.agg #[.int .i64 k_1.Vendor, .int .i64 k_1.Serial, .int .i64 k_1.Seed, .int .i64 k_1.Counter], .agg #[.bool o_3.Secure, .string o_3.Host, .int .i64 o_3.Port], .string z_2, .int .i64 u_10, .int .i64 u_11, .bool b_13]) (by simp [results, Tryz.results84, go_sem, y_v2_0, y_v2_1, y_v2_2, y_v2_3, y_v3_0, y_v3_1, y_v3_2]) rfl ?_
          exact ⟨k_1, o_3, z_2, u_10, u_11, _, rfl, Hk_1.out, Ho_3.out, hz_2, ⟨by omega, by omega⟩, ⟨by omega, by omega⟩, HB⟩
def EndR (w : World) (e : Ending) (w' : World) : Prop := ∃ (x : Fx.KeyStore) (o : Fx.Origin) (z : ByteArray) (h n : Int), e = .returned (.tuple #[.agg #[.int .i64 x.Vendor, .int .i64 x.Serial, .int .i64 x.Seed, .int .i64 x.Counter], .agg #[.bool o.Secure, .string o.Host, .int .i64 o.Port], .string z, .int .i64 h, .int .i64 n]) ∧ okK x ∧ okP o ∧ z ∈ sites ∧ (0 ≤ h ∧ h ≤ 2) ∧ (0 ≤ n ∧ n ≤ 8) ∧ Below w.heap.size w w'
set_option maxHeartbeats 8000000 in
theorem relayD (w : World) (H0 : Nat) (v : Value) (hc : C0.Code w H0 v) (h0 : H0 ≤ w.heap.size) : Calls Tryz.prog 40 #[v] w (EndR w) := by
  go_enter Tryz.func40, Tryz.ntmps40
  go_wp2_with fail
  obtain ⟨w1, hw1⟩ : ∃ ww, ww = w.alloc (.cells #[.int .i64 0, .int .i64 0, .int .i64 0, .int .i64 0] 61) := ⟨_, rfl⟩
  have o_v2 := var_owns w 61 4 [.int .i64 0, .int .i64 0, .int .i64 0, .int .i64 0] rfl
  have bw1 : Below w.heap.size w w1 := hw1 ▸ (Below.refl _ _).alloc (Nat.le_refl _) _
  have sw1 : w1.heap.size = w.heap.size + 1 := by rw [hw1]; simp
  rw [← hw1] at o_v2 ⊢
  have zw1 : w.heap.size < w1.heap.size := by omega
  have HB := bw1
  clear hw1
  obtain ⟨w2, hw2⟩ : ∃ ww, ww = w1.alloc (.cells #[.bool false, .string ⟨#[]⟩, .int .i64 0] 45) := ⟨_, rfl⟩
  have o_v3 := var_owns w1 45 3 [.bool false, .string ⟨#[]⟩, .int .i64 0] rfl
  have bw2 : Below w1.heap.size w1 w2 := hw2 ▸ (Below.refl _ _).alloc (Nat.le_refl _) _
  have sw2 : w2.heap.size = w1.heap.size + 1 := by rw [hw2]; simp
  rw [← hw2] at o_v3 ⊢
  have qw2 : w1.heap.size = w.heap.size + 1 := by omega
  rw [qw2] at o_v3
  clear qw2
  have zw2 : w1.heap.size < w2.heap.size := by omega
  replace o_v2 := owns_below o_v2 bw2
  replace HB := HB.trans (bw2.mono HB.size)
  clear hw2
  clear sw1 sw2
  have hc0 : C0.Code w2 H0 v := hc.below (HB.mono h0)
  (with_reducible refine (makeD _ H0 v hc0 (by omega)).mono ?_); rintro e w3 ⟨kx, ox, zz, hh, nn, bb, rfl, hk, ho, hz, h2, h3, bw3⟩
  replace o_v2 := owns_below o_v2 bw3
  replace o_v3 := owns_below o_v3 bw3
  replace HB := HB.trans (bw3.mono HB.size)
  have zw3 := bw3.size
  have HK := Lib.hid hk
  have HO := Lib.hid ho
  clear hk ho
  go_wp2_with fail
  obtain ⟨w4, hw4⟩ : ∃ ww, ww = w3.alloc (.cells #[.int .i64 kx.Vendor, .int .i64 kx.Serial, .int .i64 kx.Seed, .int .i64 kx.Counter] 61) := ⟨_, rfl⟩
  have o_v7 := var_owns w3 61 4 [.int .i64 kx.Vendor, .int .i64 kx.Serial, .int .i64 kx.Seed, .int .i64 kx.Counter] rfl
  have bw4 : Below w3.heap.size w3 w4 := hw4 ▸ (Below.refl _ _).alloc (Nat.le_refl _) _
  have sw4 : w4.heap.size = w3.heap.size + 1 := by rw [hw4]; simp
  rw [← hw4] at o_v7 ⊢
  have zw4 : w3.heap.size < w4.heap.size := by omega
  replace o_v2 := owns_below o_v2 bw4
  replace o_v3 := owns_below o_v3 bw4
  replace HB := HB.trans (bw4.mono HB.size)
  clear hw4
  obtain ⟨w5, hw5⟩ : ∃ ww, ww = w4.alloc (.cells #[.bool ox.Secure, .string ox.Host, .int .i64 ox.Port] 45) := ⟨_, rfl⟩
  have o_v8 := var_owns w4 45 3 [.bool ox.Secure, .string ox.Host, .int .i64 ox.Port] rfl
  have bw5 : Below w4.heap.size w4 w5 := hw5 ▸ (Below.refl _ _).alloc (Nat.le_refl _) _
  have sw5 : w5.heap.size = w4.heap.size + 1 := by rw [hw5]; simp
  rw [← hw5] at o_v8 ⊢
  have qw5 : w4.heap.size = w3.heap.size + 1 := by omega
  rw [qw5] at o_v8
  clear qw5
  have zw5 : w4.heap.size < w5.heap.size := by omega
  replace o_v2 := owns_below o_v2 bw5
  replace o_v3 := owns_below o_v3 bw5
  replace o_v7 := owns_below o_v7 bw5
  replace HB := HB.trans (bw5.mono HB.size)
  clear hw5
  clear sw4 sw5
  obtain ⟨w6, hw6⟩ : ∃ ww, ww = w5.drew := ⟨_, rfl⟩
  have bw6 : Below w5.heap.size w5 w6 := hw6 ▸ drewN_below w5 1 _
  replace o_v2 := owns_below o_v2 bw6
  replace o_v3 := owns_below o_v3 bw6
  replace o_v7 := owns_below o_v7 bw6
  replace o_v8 := owns_below o_v8 bw6
  replace HB := HB.trans (bw6.mono HB.size)
  have zw6 := bw6.size
  refine wp_region_held_drew (S := (fun (wx : World) => wx.cell? ⟨w3.heap.size, 0, none⟩ = some (.int .i64 kx.Vendor) ∧ wx.cell? ⟨w3.heap.size, 1, none⟩ = some (.int .i64 kx.Serial) ∧ wx.cell? ⟨w3.heap.size, 2, none⟩ = some (.int .i64 kx.Seed) ∧ wx.cell? ⟨w3.heap.size, 3, none⟩ = some (.int .i64 kx.Counter) ∧ wx.cell? ⟨(w3.heap.size + 1), 0, none⟩ = some (.bool ox.Secure) ∧ wx.cell? ⟨(w3.heap.size + 1), 1, none⟩ = some (.string ox.Host) ∧ wx.cell? ⟨(w3.heap.size + 1), 2, none⟩ = some (.int .i64 ox.Port))) (by kernel_rfl) ?_ (fun hHeld => ?_)
  · rw [← hw6]; exact ⟨var_load o_v7 (by simp) 0 _ rfl, var_load o_v7 (by simp) 1 _ rfl, var_load o_v7 (by simp) 2 _ rfl, var_load o_v7 (by simp) 3 _ rfl, var_load o_v8 (by simp) 0 _ rfl, var_load o_v8 (by simp) 1 _ rfl, var_load o_v8 (by simp) 2 _ rfl⟩
  rw [← hw6] at hHeld ⊢
  clear hw6
  refine wpAnyH_take (i := 0) (oi := ?oix1__0_1) (v := ?vx1__0_1) ?hix1__0_1 (by kernel_rfl) (by kernel_rfl) (by kernel_rfl) ?hQx1__0_1 (Or.inl ⟨?hwx1__0_1, ?hyx1__0_1⟩) (by assumption) ?_
  case hix1__0_1 => simp only [List.getElem?_toArray, List.getElem?_cons_zero]; rfl
  case hQx1__0_1 => exact fun _ _ _ h => h
  case hwx1__0_1 => rfl
  case hyx1__0_1 => intro w hSw; (try dsimp only at hSw); (first | (go_simp; done) | (go_simp; with_reducible rfl))
  try simp only [Act.put, List.setIfInBounds_toArray, List.set_cons_zero, List.set_cons_succ]
  refine wpAnyH_take (i := 1) (oi := ?oix1__1_2) (v := ?vx1__1_2) ?hix1__1_2 (by kernel_rfl) (by kernel_rfl) (by kernel_rfl) ?hQx1__1_2 (Or.inl ⟨?hwx1__1_2, ?hyx1__1_2⟩) (by assumption) ?_
  case hix1__1_2 => simp only [List.getElem?_toArray, List.getElem?_cons_succ, List.getElem?_cons_zero]; rfl
  case hQx1__1_2 => exact fun _ _ _ h => h
  case hwx1__1_2 => rfl
  case hyx1__1_2 => intro w hSw; (try dsimp only at hSw); (first | (go_simp; done) | (go_simp; with_reducible rfl))
  try simp only [Act.put, List.setIfInBounds_toArray, List.set_cons_zero, List.set_cons_succ]
  refine wpAnyH_take (i := 2) (oi := ?oix1__2_3) (v := ?vx1__2_3) ?hix1__2_3 (by kernel_rfl) (by kernel_rfl) (by kernel_rfl) ?hQx1__2_3 (Or.inl ⟨?hwx1__2_3, ?hyx1__2_3⟩) (by assumption) ?_
  case hix1__2_3 => simp only [List.getElem?_toArray, List.getElem?_cons_succ, List.getElem?_cons_zero]; rfl
  case hQx1__2_3 => exact fun _ _ _ h => h
  case hwx1__2_3 => rfl
  case hyx1__2_3 => intro w hSw; (try dsimp only at hSw); (first | (go_simp; done) | (go_simp; with_reducible rfl))
  try simp only [Act.put, List.setIfInBounds_toArray, List.set_cons_zero, List.set_cons_succ]
  refine wpAnyH_take (i := 3) (oi := ?oix1__3_4) (v := ?vx1__3_4) ?hix1__3_4 (by kernel_rfl) (by kernel_rfl) (by kernel_rfl) ?hQx1__3_4 (Or.inl ⟨?hwx1__3_4, ?hyx1__3_4⟩) (by assumption) ?_
  case hix1__3_4 => simp only [List.getElem?_toArray, List.getElem?_cons_succ, List.getElem?_cons_zero]; rfl
  case hQx1__3_4 => exact fun _ _ _ h => h
  case hwx1__3_4 => rfl
  case hyx1__3_4 => intro w hSw; (try dsimp only at hSw); (first | (go_simp; done) | (go_simp; with_reducible rfl))
  try simp only [Act.put, List.setIfInBounds_toArray, List.set_cons_zero, List.set_cons_succ]
  refine wpAnyH_take (i := 4) (oi := ?oix1__4_5) (v := ?vx1__4_5) ?hix1__4_5 (by kernel_rfl) (by kernel_rfl) (by kernel_rfl) ?hQx1__4_5 (Or.inl ⟨?hwx1__4_5, ?hyx1__4_5⟩) (by assumption) ?_
  case hix1__4_5 => simp only [List.getElem?_toArray, List.getElem?_cons_succ, List.getElem?_cons_zero]; rfl
  case hQx1__4_5 => exact fun _ _ _ h => h
  case hwx1__4_5 => rfl
  case hyx1__4_5 => intro w hSw; (try dsimp only at hSw); (first | (go_simp; done) | (go_simp; with_reducible rfl))
  try simp only [Act.put, List.setIfInBounds_toArray, List.set_cons_zero, List.set_cons_succ]
  refine wpAnyH_ready (rs := [5]) (by kernel_rfl) (by simp) ?_
  refine AllReadyH.cons (o := ?ox1__5_6) ?hix1__5_6 (fun K hK => ?gx1__5_6) AllReadyH.nil
  case hix1__5_6 => simp only [List.getElem?_toArray, List.getElem?_cons_succ, List.getElem?_cons_zero]; rfl
  case gx1__5_6 =>
    obtain ⟨c_v20, f_v20, c_v21, f_v21, c_v22, f_v22, c_v23, f_v23, l_v2⟩ := Vn.v4 o_v2
    go_simp
    clear c_v20 f_v20 c_v21 f_v21 c_v22 f_v22 c_v23 f_v23 l_v2
    obtain ⟨w7, hw7⟩ : ∃ ww, ww = ((((w6.setCell ⟨w.heap.size, 0, none⟩ (.int .i64 kx.Vendor)).setCell ⟨w.heap.size, 1, none⟩ (.int .i64 kx.Serial)).setCell ⟨w.heap.size, 2, none⟩ (.int .i64 kx.Seed)).setCell ⟨w.heap.size, 3, none⟩ (.int .i64 kx.Counter)) := ⟨_, rfl⟩
    obtain ⟨o_new, tw7⟩ := var_some [.int .i64 kx.Vendor, .int .i64 kx.Serial, .int .i64 kx.Seed, .int .i64 kx.Counter] 0 _ _ o_v2 (by simp)
    rw [show setAll w6 (w.heap.size) 0 [.int .i64 kx.Vendor, .int .i64 kx.Serial, .int .i64 kx.Seed, .int .i64 kx.Counter] = w7 from hw7.symm] at o_new tw7
    replace o_v2 : Owns w7 _ (varD 61 4 [.int .i64 kx.Vendor, .int .i64 kx.Serial, .int .i64 kx.Seed, .int .i64 kx.Counter]) _ _ := o_new
    clear o_new
    replace o_v3 := owns_turned o_v3 tw7 (fun b hb hb2 => by simp at hb hb2; omega)
    replace o_v7 := owns_turned o_v7 tw7 (fun b hb hb2 => by simp at hb hb2; omega)
    replace o_v8 := owns_turned o_v8 tw7 (fun b hb hb2 => by simp at hb hb2; omega)
    replace HB := below_turned HB tw7 (fun b hb => by simp at hb; omega)
    have zw7 := tw7.2.2.2.1
    rw [← hw7]
    clear hw7
    refine hK.out _ _ ?_ (fun hHeld => ?_)
    · exact ⟨var_load o_v7 (by simp) 0 _ rfl, var_load o_v7 (by simp) 1 _ rfl, var_load o_v7 (by simp) 2 _ rfl, var_load o_v7 (by simp) 3 _ rfl, var_load o_v8 (by simp) 0 _ rfl, var_load o_v8 (by simp) 1 _ rfl, var_load o_v8 (by simp) 2 _ rfl⟩
    clear hK K
    try simp only [Act.put, List.setIfInBounds_toArray, List.set_cons_zero, List.set_cons_succ]
    refine wpAnyH_ready (rs := [6]) (by kernel_rfl) (by simp) ?_
    refine AllReadyH.cons (o := ?ox1__6_7) ?hix1__6_7 (fun K hK => ?gx1__6_7) AllReadyH.nil
    case hix1__6_7 => simp only [List.getElem?_toArray, List.getElem?_cons_succ, List.getElem?_cons_zero]; rfl
    case gx1__6_7 =>
      obtain ⟨c_v30, f_v30, c_v31, f_v31, c_v32, f_v32, l_v3⟩ := Vn.v3 o_v3
      go_simp
      clear c_v30 f_v30 c_v31 f_v31 c_v32 f_v32 l_v3
      obtain ⟨w8, hw8⟩ : ∃ ww, ww = (((w7.setCell ⟨(w.heap.size + 1), 0, none⟩ (.bool ox.Secure)).setCell ⟨(w.heap.size + 1), 1, none⟩ (.string ox.Host)).setCell ⟨(w.heap.size + 1), 2, none⟩ (.int .i64 ox.Port)) := ⟨_, rfl⟩
      obtain ⟨o_new, tw8⟩ := var_some [.bool ox.Secure, .string ox.Host, .int .i64 ox.Port] 0 _ _ o_v3 (by simp)
      rw [show setAll w7 ((w.heap.size + 1)) 0 [.bool ox.Secure, .string ox.Host, .int .i64 ox.Port] = w8 from hw8.symm] at o_new tw8
      replace o_v3 : Owns w8 _ (varD 45 3 [.bool ox.Secure, .string ox.Host, .int .i64 ox.Port]) _ _ := o_new
      clear o_new
      replace o_v2 := owns_turned o_v2 tw8 (fun b hb hb2 => by simp at hb hb2; omega)
      replace o_v7 := owns_turned o_v7 tw8 (fun b hb hb2 => by simp at hb hb2; omega)
      replace o_v8 := owns_turned o_v8 tw8 (fun b hb hb2 => by simp at hb hb2; omega)
      replace HB := below_turned HB tw8 (fun b hb => by simp at hb; omega)
      have zw8 := tw8.2.2.2.1
      rw [← hw8]
      clear hw8
      refine hK.out _ _ ?_ (fun hHeld => ?_)
      · exact ⟨var_load o_v7 (by simp) 0 _ rfl, var_load o_v7 (by simp) 1 _ rfl, var_load o_v7 (by simp) 2 _ rfl, var_load o_v7 (by simp) 3 _ rfl, var_load o_v8 (by simp) 0 _ rfl, var_load o_v8 (by simp) 1 _ rfl, var_load o_v8 (by simp) 2 _ rfl⟩
      clear hK K
      try simp only [Act.put, List.setIfInBounds_toArray, List.set_cons_zero, List.set_cons_succ]
      refine wpAnyH_take (i := 7) (oi := ?oix1__7_8) (v := ?vx1__7_8) ?hix1__7_8 (by kernel_rfl) (by kernel_rfl) (by kernel_rfl) ?hQx1__7_8 (Or.inl ⟨?hwx1__7_8, ?hyx1__7_8⟩) (by assumption) ?_
      case hix1__7_8 => simp only [List.getElem?_toArray, List.getElem?_cons_succ, List.getElem?_cons_zero]; rfl
      case hQx1__7_8 => exact fun _ _ _ h => h
      case hwx1__7_8 => rfl
      case hyx1__7_8 => intro w hSw; (try dsimp only at hSw); (first | (go_simp; done) | (go_simp; with_reducible rfl))
      try simp only [Act.put, List.setIfInBounds_toArray, List.set_cons_zero, List.set_cons_succ]
      refine wpAnyH_take (i := 8) (oi := ?oix1__8_9) (v := ?vx1__8_9) ?hix1__8_9 (by kernel_rfl) (by kernel_rfl) (by kernel_rfl) ?hQx1__8_9 (Or.inl ⟨?hwx1__8_9, ?hyx1__8_9⟩) (by assumption) ?_
      case hix1__8_9 => simp only [List.getElem?_toArray, List.getElem?_cons_succ, List.getElem?_cons_zero]; rfl
      case hQx1__8_9 => exact fun _ _ _ h => h
      case hwx1__8_9 => rfl
      case hyx1__8_9 => intro w hSw; (try dsimp only at hSw); (first | (go_simp; done) | (go_simp; with_reducible rfl))
      try simp only [Act.put, List.setIfInBounds_toArray, List.set_cons_zero, List.set_cons_succ]
      refine wpAnyH_take (i := 9) (oi := ?oix1__9_10) (v := ?vx1__9_10) ?hix1__9_10 (by kernel_rfl) (by kernel_rfl) (by kernel_rfl) ?hQx1__9_10 (Or.inl ⟨?hwx1__9_10, ?hyx1__9_10⟩) (by assumption) ?_
      case hix1__9_10 => simp only [List.getElem?_toArray, List.getElem?_cons_succ, List.getElem?_cons_zero]; rfl
      case hQx1__9_10 => exact fun _ _ _ h => h
      case hwx1__9_10 => rfl
      case hyx1__9_10 => intro w hSw; (try dsimp only at hSw); (first | (go_simp; done) | (go_simp; with_reducible rfl))
      try simp only [Act.put, List.setIfInBounds_toArray, List.set_cons_zero, List.set_cons_succ]
      refine wpAnyH_done (by kernel_rfl) ?_ _
      obtain ⟨c_v20, f_v20, c_v21, f_v21, c_v22, f_v22, c_v23, f_v23, l_v2⟩ := Vn.v4 o_v2
      obtain ⟨c_v30, f_v30, c_v31, f_v31, c_v32, f_v32, l_v3⟩ := Vn.v3 o_v3
      go_wp2
      clear c_v20 f_v20 c_v21 f_v21 c_v22 f_v22 c_v23 f_v23 l_v2 c_v30 f_v30 c_v31 f_v31 c_v32 f_v32 l_v3
      have y_v2_0 : w8.cell? ⟨w.heap.size, 0, none⟩ = some (.int .i64 kx.Vendor) := var_load o_v2 (by simp) 0 _ rfl
      have y_v2_1 : w8.cell? ⟨w.heap.size, 1, none⟩ = some (.int .i64 kx.Serial) := var_load o_v2 (by simp) 1 _ rfl
      have y_v2_2 : w8.cell? ⟨w.heap.size, 2, none⟩ = some (.int .i64 kx.Seed) := var_load o_v2 (by simp) 2 _ rfl
      have y_v2_3 : w8.cell? ⟨w.heap.size, 3, none⟩ = some (.int .i64 kx.Counter) := var_load o_v2 (by simp) 3 _ rfl
      have y_v3_0 : w8.cell? ⟨(w.heap.size + 1), 0, none⟩ = some (.bool ox.Secure) := var_load o_v3 (by simp) 0 _ rfl
      have y_v3_1 : w8.cell? ⟨(w.heap.size + 1), 1, none⟩ = some (.string ox.Host) := var_load o_v3 (by simp) 1 _ rfl
      have y_v3_2 : w8.cell? ⟨(w.heap.size + 1), 2, none⟩ = some (.int .i64 ox.Port) := var_load o_v3 (by simp) 2 _ rfl
      refine bodyPost_ret (v := .tuple #[.agg #[.int .i64 kx.Vendor, .int .i64 kx.Serial, .int .i64 kx.Seed, .int .i64 kx.Counter], .agg #[.bool ox.Secure, .string ox.Host, .int .i64 ox.Port], .string zz, .int .i64 hh, .int .i64 nn]) (by simp [results, Tryz.results40, go_sem, y_v2_0, y_v2_1, y_v2_2, y_v2_3, y_v3_0, y_v3_1, y_v3_2]) rfl ?_
      exact ⟨kx, ox, zz, hh, nn, rfl, HK.out, HO.out, hz, h2, h3, HB⟩
end Go.Proofs.YtialhhdhpjjkaaaGreatDoor.D13
