import Derived.Test.YtialhhdhpjjkaaaGreatDoorBa
import Derived.Test.YtialhhdhpjjkaaaGreatDoorC9b
import Derived.Test.YtialhhdhpjjkaaaGreatDoorBb
/-
  Contracts of chapter 9's draws: an origin, a host, a text, of few bytes.
-/
namespace Go.Proofs.YtialhhdhpjjkaaaGreatDoor.D9
open Go.ChangeShapes Go.WideShapes Go.ChangeAt Go.RowKit
open C0 S0 S9 Dm Fx M12 M13 Dv
set_option linter.unusedVariables false
set_option maxRecDepth 100000
set_option linter.unusedSimpArgs false
def okO (x : Fx.Origin) : Prop := x.Host.size ≤ 100 ∧ isI64 x.Port
def DrawnO (w : World) (B H0 : Nat) (e : Ending) (w' : World) : Prop := ∃ x : Fx.Origin, e = .returned (.agg #[.bool x.Secure, .string x.Host, .int .i64 x.Port]) ∧ okO x ∧ IsCur w' B H0 ∧ w.grownBy w' (some B)
theorem host_any (w : World) (B H0 : Nat) (C : IsCur w B H0) : Calls Tryz.prog 109 #[.pointer (some ⟨B, 0, none⟩)] w (DrawnS (fun s => s.size ≤ 100) w B H0) := by
  have HL := Lib.hid (str_lit [⟨#[98, 97, 110, 107, 46, 99, 111, 109]⟩, ⟨#[119, 119, 119, 46, 98, 97, 110, 107, 46, 99, 111, 109]⟩, ⟨#[98, 97, 110, 107, 46, 99, 111, 109, 46, 101, 118, 105, 108, 46, 110, 101, 116]⟩, ⟨#[101, 118, 105, 108, 98, 97, 110, 107, 46, 99, 111, 109]⟩, ⟨#[115, 104, 111, 112, 46, 111, 114, 103]⟩, ⟨#[97, 46, 98, 46, 115, 104, 111, 112, 46, 111, 114, 103]⟩, ⟨#[99, 111, 109]⟩, ⟨#[108, 111, 99, 97, 108, 104, 111, 115, 116]⟩, ⟨#[120, 45, 121, 46, 105, 111]⟩] 9 100 rfl w B H0 9 C (by simp) (by simp) (by decide))
  go_enter Tryz.func109, Tryz.ntmps109
  go_wp2_with fail
  refine HL.out.mono ?_; rintro e w1 ⟨x, rfl, hx, hC1, hg1⟩
  go_wp2
  go_ret
  exact ⟨x, rfl, hx, hC1, hg1⟩
theorem hostAny_any (w : World) (B H0 : Nat) (C : IsCur w B H0) : Calls Tryz.prog 74 #[.pointer (some ⟨B, 0, none⟩)] w (DrawnS (fun s => s.size ≤ 100) w B H0) := by
  go_enter Tryz.func74, Tryz.ntmps74
  go_wp2_with fail
  (with_reducible refine (once_any _ _ H0 4 C).mono ?_); rintro e w1 ⟨b, rfl, hC1, hg1⟩
  cases b
  · go_wp2_with fail
    (with_reducible refine (host_any _ _ H0 hC1).mono ?_); rintro e w2 ⟨x, rfl, hx, hC2, hg2⟩
    go_wp2
    go_ret
    exact ⟨x, rfl, hx, hC2, grown_trans hg1 hg2⟩
  · have HL := Lib.hid (str_lit [⟨#[]⟩, ⟨#[46]⟩, ⟨#[97, 46, 46, 98]⟩, ⟨#[45, 97, 46, 99, 111, 109]⟩, ⟨#[97, 45, 46, 99, 111, 109]⟩, ⟨#[65, 46, 99, 111, 109]⟩, ⟨#[97, 95, 98, 46, 99, 111, 109]⟩, ⟨#[97, 98, 99, 100, 101, 102, 103, 104, 105, 106, 107, 108, 109, 110, 111, 112, 113, 114, 115, 116, 117, 46, 99, 111, 109]⟩, ⟨#[97, 98, 99, 100, 101, 102, 103, 104, 105, 106, 107, 108, 109, 110, 111, 112, 113, 114, 115, 116, 46, 97, 98, 99, 100, 101, 102, 103, 104, 105, 106, 107, 108, 109, 110, 111, 112, 113, 114, 115, 116, 46, 97, 98, 99, 100, 101, 102, 103, 104, 105, 106, 107, 108, 109, 110, 111, 112, 113, 114]⟩, ⟨#[97, 98, 99, 100, 101, 102, 103, 104, 105, 106, 107, 108, 109, 110, 111, 112, 113, 114, 115, 116, 46, 97, 98, 99, 100, 101, 102, 103, 104, 105, 106, 107, 108, 109, 110, 111, 112, 113, 114, 115, 116, 46, 97, 98, 99, 100, 101, 102, 103, 104, 105, 106, 107, 108, 109, 110, 111, 112, 113, 114, 115]⟩] 10 100 rfl w1 B H0 9 hC1 (by simp) (by simp) (by decide))
    go_wp2_with fail
    refine HL.out.mono ?_; rintro e w2 ⟨x, rfl, hx, hC2, hg2⟩
    go_wp2
    go_ret
    exact ⟨x, rfl, hx, hC2, grown_trans hg1 hg2⟩
/-- An origin in its variable, at a draw's end. -/
theorem fin_o {w0 w wf : World} {lo T g B H0 : Nat} {a b c : Value} (h : Owns w lo (varD T 3 [a, b, c]) (.slice (some ⟨g, 0, none⟩) 1 1) [g]) (C : IsCur w B H0) (hG : w0.grownBy w (some B)) (hg : g ≠ B) (h0 : H0 ≤ g) (h1 : w0.heap.size ≤ g) (x : Fx.Origin) (hx : okO x) (o : Obj)
    (hf : wf = (((w.setCell ⟨g, 0, none⟩ (.bool x.Secure)).setCell ⟨g, 1, none⟩ (.string x.Host)).setCell ⟨g, 2, none⟩ (.int .i64 x.Port)).alloc o) :
    wf.cell? ⟨g, 0, none⟩ = some (.bool x.Secure) ∧ wf.cell? ⟨g, 1, none⟩ = some (.string x.Host) ∧ wf.cell? ⟨g, 2, none⟩ = some (.int .i64 x.Port) ∧ DrawnO w0 B H0 (.returned (.agg #[.bool x.Secure, .string x.Host, .int .i64 x.Port])) wf := by
  obtain ⟨h2, C2, hG2, hs2, z2⟩ := set_var h C hG hg h0 h1 0 [.bool x.Secure, .string x.Host, .int .i64 x.Port] (by simp)
  have h3 := owns_below h2 ((Below.refl _ _).alloc (Nat.le_refl _) o)
  subst hf
  exact ⟨var_load h3 (by simp) 0 _ rfl, var_load h3 (by simp) 1 _ rfl, var_load h3 (by simp) 2 _ rfl, x, rfl, hx, C2.alloc _, Dv.grown_alloc hG2 _⟩
theorem fin_p {w0 w wf : World} {lo T g B H0 : Nat} {a b c : Value} (h : Owns w lo (varD T 3 [a, b, c]) (.slice (some ⟨g, 0, none⟩) 1 1) [g]) (C : IsCur w B H0) (hG : w0.grownBy w (some B)) (hg : g ≠ B) (h0 : H0 ≤ g) (h1 : w0.heap.size ≤ g) (x : Fx.Origin) (hx : okO x)
    (hf : wf = ((w.setCell ⟨g, 0, none⟩ (.bool x.Secure)).setCell ⟨g, 1, none⟩ (.string x.Host)).setCell ⟨g, 2, none⟩ (.int .i64 x.Port)) :
    wf.cell? ⟨g, 0, none⟩ = some (.bool x.Secure) ∧ wf.cell? ⟨g, 1, none⟩ = some (.string x.Host) ∧ wf.cell? ⟨g, 2, none⟩ = some (.int .i64 x.Port) ∧ DrawnO w0 B H0 (.returned (.agg #[.bool x.Secure, .string x.Host, .int .i64 x.Port])) wf := by
  obtain ⟨h2, C2, hG2, hs2, z2⟩ := set_var h C hG hg h0 h1 0 [.bool x.Secure, .string x.Host, .int .i64 x.Port] (by simp)
  subst hf
  exact ⟨var_load h2 (by simp) 0 _ rfl, var_load h2 (by simp) 1 _ rfl, var_load h2 (by simp) 2 _ rfl, x, rfl, hx, C2, hG2⟩
set_option maxHeartbeats 800000 in
theorem origin_any (w : World) (B H0 : Nat) (C : IsCur w B H0) : Calls Tryz.prog 98 #[.pointer (some ⟨B, 0, none⟩)] w (DrawnO w B H0) := by
  obtain ⟨w0, hw0⟩ : ∃ y, y = w.alloc (.cells #[.bool false, .string ⟨#[]⟩, .int .i64 0] 45) := ⟨_, rfl⟩
  obtain ⟨o_r, C0, hG, ne_r, lo_r⟩ := new_var w 45 3 B H0 [.bool false, .string ⟨#[]⟩, .int .i64 0] rfl C
  rw [← hw0] at o_r C0 hG
  go_enter Tryz.func98, Tryz.ntmps98
  go_wp2_with fail
  rw [← hw0]
  clear hw0
  (with_reducible refine (once_any _ _ H0 4 C0).mono ?_); rintro e w1 ⟨b, rfl, C1, hg1⟩
  replace o_r := owns_drawn o_r hg1 ne_r
  replace hG := grown_trans hG hg1
  go_wp2_with fail
  (with_reducible refine (host_any _ _ H0 C1).mono ?_); rintro e w2 ⟨s, rfl, hs, C2, hg2⟩
  replace o_r := owns_drawn o_r hg2 ne_r
  replace hG := grown_trans hG hg2
  have y0 : w2.cell? ⟨w.heap.size, 0, none⟩ = some (.bool false) := var_load o_r (by simp) 0 _ rfl
  have x0 : w2.frozen? ⟨w.heap.size, 0, none⟩ = false := var_frozen o_r (by simp) 0 _ rfl
  have y1 : w2.cell? ⟨w.heap.size, 1, none⟩ = some (.string ⟨#[]⟩) := var_load o_r (by simp) 1 _ rfl
  have x1 : w2.frozen? ⟨w.heap.size, 1, none⟩ = false := var_frozen o_r (by simp) 1 _ rfl
  have y2 : w2.cell? ⟨w.heap.size, 2, none⟩ = some (.int .i64 0) := var_load o_r (by simp) 2 _ rfl
  have x2 : w2.frozen? ⟨w.heap.size, 2, none⟩ = false := var_frozen o_r (by simp) 2 _ rfl
  have lr := var_lt o_r
  cases b
  · go_wp2
    obtain ⟨wf, hf⟩ : ∃ y, y = ((((w2.setCell ⟨w.heap.size, 0, none⟩ (.bool true)).setCell ⟨w.heap.size, 1, none⟩ (.string s)).setCell ⟨w.heap.size, 2, none⟩ (.int .i64 443)).alloc (.cells #[.bool true, .string s, .int .i64 443] 45)) := ⟨_, rfl⟩
    obtain ⟨y0, y1, y2, hd⟩ := fin_o o_r C2 hG ne_r lo_r (Nat.le_refl _) ⟨true, s, 443⟩ ⟨hs, by simp [isI64]⟩ _ hf
    rw [← hf]
    exact bodyPost_ret (v := .agg #[.bool true, .string s, .int .i64 443]) (by simp [results, Tryz.results98, go_sem, y0, y1, y2]) rfl hd
  · go_wp2
    obtain ⟨wf, hf⟩ : ∃ y, y = ((((w2.setCell ⟨w.heap.size, 0, none⟩ (.bool false)).setCell ⟨w.heap.size, 1, none⟩ (.string s)).setCell ⟨w.heap.size, 2, none⟩ (.int .i64 80)).alloc (.cells #[.bool false, .string s, .int .i64 80] 45)) := ⟨_, rfl⟩
    obtain ⟨y0, y1, y2, hd⟩ := fin_o o_r C2 hG ne_r lo_r (Nat.le_refl _) ⟨false, s, 80⟩ ⟨hs, by simp [isI64]⟩ _ hf
    rw [← hf]
    exact bodyPost_ret (v := .agg #[.bool false, .string s, .int .i64 80]) (by simp [results, Tryz.results98, go_sem, y0, y1, y2]) rfl hd
set_option maxHeartbeats 1600000 in
theorem any_any (w : World) (B H0 : Nat) (C : IsCur w B H0) : Calls Tryz.prog 60 #[.pointer (some ⟨B, 0, none⟩)] w (DrawnO w B H0) := by
  obtain ⟨w0, hw0⟩ : ∃ y, y = w.alloc (.cells #[.bool false, .string ⟨#[]⟩, .int .i64 0] 45) := ⟨_, rfl⟩
  obtain ⟨o_r, C0, hG, ne_r, lo_r⟩ := new_var w 45 3 B H0 [.bool false, .string ⟨#[]⟩, .int .i64 0] rfl C
  have z0 : w.heap.size < w0.heap.size := by rw [hw0]; simp
  rw [← hw0] at o_r C0 hG
  go_enter Tryz.func60, Tryz.ntmps60
  go_wp2_with fail
  rw [← hw0]
  clear hw0
  (with_reducible refine (origin_any _ _ H0 C0).mono ?_); rintro e w1 ⟨x, rfl, ⟨hx1, hx2⟩, C1, hg1⟩
  replace o_r := owns_drawn o_r hg1 ne_r
  replace hG := grown_trans hG hg1
  have zr := var_lt o_r
  obtain ⟨w2, hw2⟩ : ∃ y, y = w1.alloc (.cells #[.bool x.Secure, .string x.Host, .int .i64 x.Port] 45) := ⟨_, rfl⟩
  obtain ⟨o_o, C2, hg2, ne_o, lo_o⟩ := new_var w1 45 3 B H0 [.bool x.Secure, .string x.Host, .int .i64 x.Port] rfl C1
  rw [← hw2] at o_o C2 hg2
  replace o_r := owns_drawn o_r hg2 ne_r
  replace hG := grown_trans hG hg2
  go_wp2_with fail
  rw [← hw2]
  clear hw2
  (with_reducible refine (below_any _ _ H0 6 C2).mono ?_); rintro e w3 ⟨k, rfl, ⟨hk0, hk1⟩, C3, hg3⟩
  replace o_r := owns_drawn o_r hg3 ne_r
  replace o_o := owns_drawn o_o hg3 ne_o
  replace hG := grown_trans hG hg3
  clear hk1
  by_cases h0 : k = 0
  · subst h0
    go_wp2_with fail
    (with_reducible refine (hostAny_any _ _ H0 C3).mono ?_); rintro e w4 ⟨s, rfl, hs, C4, hg4⟩
    replace o_r := owns_drawn o_r hg4 ne_r
    replace o_o := owns_drawn o_o hg4 ne_o
    replace hG := grown_trans hG hg4
    have q0 : w4.cell? ⟨w1.heap.size, 0, none⟩ = some (.bool x.Secure) := var_load o_o (by simp) 0 _ rfl
    have q1 : w4.cell? ⟨w1.heap.size, 1, none⟩ = some (.string x.Host) := var_load o_o (by simp) 1 _ rfl
    have q2 : w4.cell? ⟨w1.heap.size, 2, none⟩ = some (.int .i64 x.Port) := var_load o_o (by simp) 2 _ rfl
    have p1 : w4.frozen? ⟨w1.heap.size, 1, none⟩ = false := var_frozen o_o (by simp) 1 _ rfl
    have p2 : w4.frozen? ⟨w1.heap.size, 2, none⟩ = false := var_frozen o_o (by simp) 2 _ rfl
    have y0 : w4.cell? ⟨w.heap.size, 0, none⟩ = some (.bool false) := var_load o_r (by simp) 0 _ rfl
    have x0 : w4.frozen? ⟨w.heap.size, 0, none⟩ = false := var_frozen o_r (by simp) 0 _ rfl
    have y1 : w4.cell? ⟨w.heap.size, 1, none⟩ = some (.string ⟨#[]⟩) := var_load o_r (by simp) 1 _ rfl
    have x1 : w4.frozen? ⟨w.heap.size, 1, none⟩ = false := var_frozen o_r (by simp) 1 _ rfl
    have y2 : w4.cell? ⟨w.heap.size, 2, none⟩ = some (.int .i64 0) := var_load o_r (by simp) 2 _ rfl
    have x2 : w4.frozen? ⟨w.heap.size, 2, none⟩ = false := var_frozen o_r (by simp) 2 _ rfl
    have lr := var_lt o_r
    have lo := var_lt o_o
    go_wp2
    obtain ⟨w5, h5⟩ : ∃ y, y = w4.setCell ⟨w1.heap.size, 1, none⟩ (.string s) := ⟨_, rfl⟩
    obtain ⟨o_o2, C5, hG5, hs5, z5⟩ := set_var o_o C4 hG ne_o lo_o (Nat.le_of_lt zr) 1 [(.string s)] (by simp)
    replace o_r := owns_drawn o_r hs5 (by omega)
    rw [show setAll w4 w1.heap.size 1 [(.string s)] = w5 from h5.symm] at o_r C5 hG5
    rw [← h5]
    clear h5
    obtain ⟨wf, hf⟩ : ∃ y, y = (((w5.setCell ⟨w.heap.size, 0, none⟩ (.bool x.Secure)).setCell ⟨w.heap.size, 1, none⟩ (.string s)).setCell ⟨w.heap.size, 2, none⟩ (.int .i64 x.Port)) := ⟨_, rfl⟩
    obtain ⟨y0, y1, y2, hd⟩ := fin_p o_r C5 hG5 ne_r lo_r (Nat.le_refl _) ⟨x.Secure, s, x.Port⟩ ⟨hs, hx2⟩ hf
    rw [← hf]
    exact bodyPost_ret (v := .agg #[.bool x.Secure, .string s, .int .i64 x.Port]) (by simp [results, Tryz.results60, go_sem, y0, y1, y2]) rfl hd
  · have h0b : (k == 0) = false := by simpa using h0
    by_cases h1 : k = 1
    · subst h1
      have HL := Lib.hid (int_lit [-1, 0, 1, 80, 443, 8080, 65535, 65536] 8 rfl w3 B H0 3 C3 (by simp) (by simp) isI64 (by simp [isI64]))
      go_wp2_with fail
      refine HL.out.mono ?_; rintro e w4 ⟨u, rfl, hu, C4, hg4⟩
      replace o_r := owns_drawn o_r hg4 ne_r
      replace o_o := owns_drawn o_o hg4 ne_o
      replace hG := grown_trans hG hg4
      have q0 : w4.cell? ⟨w1.heap.size, 0, none⟩ = some (.bool x.Secure) := var_load o_o (by simp) 0 _ rfl
      have q1 : w4.cell? ⟨w1.heap.size, 1, none⟩ = some (.string x.Host) := var_load o_o (by simp) 1 _ rfl
      have q2 : w4.cell? ⟨w1.heap.size, 2, none⟩ = some (.int .i64 x.Port) := var_load o_o (by simp) 2 _ rfl
      have p1 : w4.frozen? ⟨w1.heap.size, 1, none⟩ = false := var_frozen o_o (by simp) 1 _ rfl
      have p2 : w4.frozen? ⟨w1.heap.size, 2, none⟩ = false := var_frozen o_o (by simp) 2 _ rfl
      have y0 : w4.cell? ⟨w.heap.size, 0, none⟩ = some (.bool false) := var_load o_r (by simp) 0 _ rfl
      have x0 : w4.frozen? ⟨w.heap.size, 0, none⟩ = false := var_frozen o_r (by simp) 0 _ rfl
      have y1 : w4.cell? ⟨w.heap.size, 1, none⟩ = some (.string ⟨#[]⟩) := var_load o_r (by simp) 1 _ rfl
      have x1 : w4.frozen? ⟨w.heap.size, 1, none⟩ = false := var_frozen o_r (by simp) 1 _ rfl
      have y2 : w4.cell? ⟨w.heap.size, 2, none⟩ = some (.int .i64 0) := var_load o_r (by simp) 2 _ rfl
      have x2 : w4.frozen? ⟨w.heap.size, 2, none⟩ = false := var_frozen o_r (by simp) 2 _ rfl
      have lr := var_lt o_r
      have lo := var_lt o_o
      go_wp2
      obtain ⟨w5, h5⟩ : ∃ y, y = w4.setCell ⟨w1.heap.size, 2, none⟩ (.int .i64 u) := ⟨_, rfl⟩
      obtain ⟨o_o2, C5, hG5, hs5, z5⟩ := set_var o_o C4 hG ne_o lo_o (Nat.le_of_lt zr) 2 [(.int .i64 u)] (by simp)
      replace o_r := owns_drawn o_r hs5 (by omega)
      rw [show setAll w4 w1.heap.size 2 [(.int .i64 u)] = w5 from h5.symm] at o_r C5 hG5
      rw [← h5]
      clear h5
      obtain ⟨wf, hf⟩ : ∃ y, y = (((w5.setCell ⟨w.heap.size, 0, none⟩ (.bool x.Secure)).setCell ⟨w.heap.size, 1, none⟩ (.string x.Host)).setCell ⟨w.heap.size, 2, none⟩ (.int .i64 u)) := ⟨_, rfl⟩
      obtain ⟨y0, y1, y2, hd⟩ := fin_p o_r C5 hG5 ne_r lo_r (Nat.le_refl _) ⟨x.Secure, x.Host, u⟩ ⟨hx1, hu⟩ hf
      rw [← hf]
      exact bodyPost_ret (v := .agg #[.bool x.Secure, .string x.Host, .int .i64 u]) (by simp [results, Tryz.results60, go_sem, y0, y1, y2]) rfl hd
    · have h1b : (k == 1) = false := by simpa using h1
      have q0 : w3.cell? ⟨w1.heap.size, 0, none⟩ = some (.bool x.Secure) := var_load o_o (by simp) 0 _ rfl
      have q1 : w3.cell? ⟨w1.heap.size, 1, none⟩ = some (.string x.Host) := var_load o_o (by simp) 1 _ rfl
      have q2 : w3.cell? ⟨w1.heap.size, 2, none⟩ = some (.int .i64 x.Port) := var_load o_o (by simp) 2 _ rfl
      have p1 : w3.frozen? ⟨w1.heap.size, 1, none⟩ = false := var_frozen o_o (by simp) 1 _ rfl
      have p2 : w3.frozen? ⟨w1.heap.size, 2, none⟩ = false := var_frozen o_o (by simp) 2 _ rfl
      have y0 : w3.cell? ⟨w.heap.size, 0, none⟩ = some (.bool false) := var_load o_r (by simp) 0 _ rfl
      have x0 : w3.frozen? ⟨w.heap.size, 0, none⟩ = false := var_frozen o_r (by simp) 0 _ rfl
      have y1 : w3.cell? ⟨w.heap.size, 1, none⟩ = some (.string ⟨#[]⟩) := var_load o_r (by simp) 1 _ rfl
      have x1 : w3.frozen? ⟨w.heap.size, 1, none⟩ = false := var_frozen o_r (by simp) 1 _ rfl
      have y2 : w3.cell? ⟨w.heap.size, 2, none⟩ = some (.int .i64 0) := var_load o_r (by simp) 2 _ rfl
      have x2 : w3.frozen? ⟨w.heap.size, 2, none⟩ = false := var_frozen o_r (by simp) 2 _ rfl
      have lr := var_lt o_r
      have lo := var_lt o_o
      go_wp2
      obtain ⟨wf, hf⟩ : ∃ y, y = (((w3.setCell ⟨w.heap.size, 0, none⟩ (.bool x.Secure)).setCell ⟨w.heap.size, 1, none⟩ (.string x.Host)).setCell ⟨w.heap.size, 2, none⟩ (.int .i64 x.Port)) := ⟨_, rfl⟩
      obtain ⟨y0, y1, y2, hd⟩ := fin_p o_r C3 hG ne_r lo_r (Nat.le_refl _) ⟨x.Secure, x.Host, x.Port⟩ ⟨hx1, hx2⟩ hf
      rw [← hf]
      exact bodyPost_ret (v := .agg #[.bool x.Secure, .string x.Host, .int .i64 x.Port]) (by simp [results, Tryz.results60, go_sem, y0, y1, y2]) rfl hd
def EndO (w : World) (e : Ending) (w' : World) : Prop := ∃ x : Fx.Origin, e = .returned (.agg #[.bool x.Secure, .string x.Host, .int .i64 x.Port]) ∧ okO x ∧ Below w.heap.size w w'
theorem isOrigin (w : World) (H0 : Nat) (v : Value) (hc : C0.Code w H0 v) (h0 : H0 ≤ w.heap.size) : Calls Tryz.prog 20 #[v] w (EndO w) := by
  obtain ⟨w0, hw0⟩ : ∃ y, y = w.alloc (.cells #[.bool false, .string ⟨#[]⟩, .int .i64 0] 45) := ⟨_, rfl⟩
  have o_r := var_owns w 45 3 [.bool false, .string ⟨#[]⟩, .int .i64 0] rfl
  have z0 : w.heap.size < w0.heap.size := by rw [hw0]; simp
  have HB : Below w.heap.size w w0 := hw0 ▸ (Below.refl _ _).alloc (Nat.le_refl _) _
  rw [← hw0] at o_r
  have hc0 : C0.Code w0 H0 v := hc.below (HB.mono h0)
  go_enter Tryz.func20, Tryz.ntmps20
  go_wp2_with fail
  rw [← hw0]
  clear hw0
  (with_reducible refine (new_any _ H0 v hc0 (by omega)).mono ?_); rintro e w1 ⟨rfl, hC1, hg1⟩
  replace o_r := owns_turned o_r (turned_grown hg1) (fun b h1 h2 => by simp at h2)
  replace HB := HB.trans (grown_below hg1 (by omega) (fun r h => by cases h))
  have z1 := hg1.size
  go_wp2_with fail
  (with_reducible refine (any_any _ _ H0 hC1).mono ?_); rintro e w2 ⟨x, rfl, ⟨hx1, hx2⟩, hC2, hg2⟩
  replace o_r := owns_drawn o_r hg2 (by omega)
  replace HB := HB.trans (grown_below hg2 (by omega) (fun r h => by cases h; omega))
  have z2 := hg2.size
  have y0 : w2.cell? ⟨w.heap.size, 0, none⟩ = some (.bool false) := var_load o_r (by simp) 0 _ rfl
  have x0 : w2.frozen? ⟨w.heap.size, 0, none⟩ = false := var_frozen o_r (by simp) 0 _ rfl
  have y1 : w2.cell? ⟨w.heap.size, 1, none⟩ = some (.string ⟨#[]⟩) := var_load o_r (by simp) 1 _ rfl
  have x1 : w2.frozen? ⟨w.heap.size, 1, none⟩ = false := var_frozen o_r (by simp) 1 _ rfl
  have y2 : w2.cell? ⟨w.heap.size, 2, none⟩ = some (.int .i64 0) := var_load o_r (by simp) 2 _ rfl
  have x2 : w2.frozen? ⟨w.heap.size, 2, none⟩ = false := var_frozen o_r (by simp) 2 _ rfl
  go_wp2
  obtain ⟨wf, hf⟩ : ∃ y, y = (((w2.setCell ⟨w.heap.size, 0, none⟩ (.bool x.Secure)).setCell ⟨w.heap.size, 1, none⟩ (.string x.Host)).setCell ⟨w.heap.size, 2, none⟩ (.int .i64 x.Port)) := ⟨_, rfl⟩
  obtain ⟨o_r2, t2⟩ := var_some [.bool x.Secure, .string x.Host, .int .i64 x.Port] 0 _ _ o_r (by simp)
  rw [show setAll w2 w.heap.size 0 [.bool x.Secure, .string x.Host, .int .i64 x.Port] = wf from hf.symm] at o_r2 t2
  have HF := below_turned HB t2 (fun b hb => by simp at hb; omega)
  clear y0 x0 y1 x1 y2 x2
  have y0 : wf.cell? ⟨w.heap.size, 0, none⟩ = some (.bool x.Secure) := var_load o_r2 (by simp) 0 _ rfl
  have y1 : wf.cell? ⟨w.heap.size, 1, none⟩ = some (.string x.Host) := var_load o_r2 (by simp) 1 _ rfl
  have y2 : wf.cell? ⟨w.heap.size, 2, none⟩ = some (.int .i64 x.Port) := var_load o_r2 (by simp) 2 _ rfl
  rw [← hf]
  exact bodyPost_ret (v := .agg #[.bool x.Secure, .string x.Host, .int .i64 x.Port]) (by simp [results, Tryz.results20, go_sem, y0, y1, y2]) rfl ⟨x, rfl, ⟨hx1, hx2⟩, HF⟩
def EndS (w : World) (e : Ending) (w' : World) : Prop := ∃ s : ByteArray, e = .returned (.string s) ∧ s.size ≤ 200 ∧ Below w.heap.size w w'
set_option maxHeartbeats 800000 in
theorem parseOrigin (w : World) (H0 : Nat) (v : Value) (hc : C0.Code w H0 v) (h0 : H0 ≤ w.heap.size) : Calls Tryz.prog 23 #[v] w (EndS w) := by
  go_enter Tryz.func23, Tryz.ntmps23
  go_wp2_with fail
  (with_reducible refine (new_any _ H0 v hc h0).mono ?_); rintro e w1 ⟨rfl, hC1, hg1⟩
  go_wp2_with fail
  (with_reducible refine (once_any _ _ H0 2 hC1).mono ?_); rintro e w2 ⟨b, rfl, hC2, hg2⟩
  cases b
  · go_wp2_with fail
    (with_reducible refine (any_any _ _ H0 hC2).mono ?_); rintro e w3 ⟨x, rfl, ⟨hx1, hx2⟩, hC3, hg3⟩
    have hz := fmtO_size x
    go_wp2_with fail
    (with_reducible refine (C9b.specFmtO _ x _ Origin.mkR (by omega)).mono ?_); rintro e w4 ⟨rfl, hb4⟩
    go_wp2
    go_ret
    refine ⟨_, rfl, ?_, ?_⟩
    · rw [str_size]; omega
    · have hb := made_below hg1 (grown_trans hg2 hg3)
      exact hb.trans (hb4.mono hb.size)
  · have HL := Lib.hid (str_lit [⟨#[]⟩, ⟨#[104, 116, 116, 112, 115, 58, 47, 47]⟩, ⟨#[104, 116, 116, 112, 58, 47, 47]⟩, ⟨#[104, 116, 116, 112, 115, 58, 47, 47, 97, 46, 99, 111, 109, 58, 52, 52, 51]⟩, ⟨#[104, 116, 116, 112, 115, 58, 47, 47, 97, 46, 99, 111, 109, 58, 56, 48]⟩, ⟨#[104, 116, 116, 112, 58, 47, 47, 97, 46, 99, 111, 109, 58, 52, 52, 51]⟩, ⟨#[104, 116, 116, 112, 58, 47, 47, 97, 46, 99, 111, 109, 58, 48, 56, 48]⟩, ⟨#[104, 116, 116, 112, 115, 58, 47, 47, 97, 46, 99, 111, 109, 58, 48]⟩, ⟨#[104, 116, 116, 112, 115, 58, 47, 47, 97, 46, 99, 111, 109, 58, 54, 53, 53, 51, 54]⟩, ⟨#[102, 116, 112, 58, 47, 47, 97, 46, 99, 111, 109]⟩, ⟨#[104, 116, 116, 112, 115, 58, 47, 47, 97, 46, 99, 111, 109, 47]⟩, ⟨#[104, 116, 116, 112, 115, 58, 47, 47, 97, 58, 98, 58, 99]⟩, ⟨#[72, 84, 84, 80, 83, 58, 47, 47, 97, 46, 99, 111, 109]⟩, ⟨#[104, 116, 116, 112, 115, 58, 47, 47, 97, 46, 99, 111, 109, 58]⟩] 14 100 rfl w2 w.heap.size H0 9 hC2 (by simp) (by simp) (by decide))
    go_wp2_with fail
    refine HL.out.mono ?_; rintro e w3 ⟨x, rfl, hx, hC3, hg3⟩
    go_wp2
    go_ret
    exact ⟨x, rfl, by omega, made_below hg1 (grown_trans hg2 hg3)⟩
def EndM (w : World) (e : Ending) (w' : World) : Prop := ∃ (x : Fx.Origin) (s : ByteArray), e = .returned (.tuple #[.agg #[.bool x.Secure, .string x.Host, .int .i64 x.Port], .string s]) ∧ okO x ∧ s.size ≤ 100 ∧ Below w.heap.size w w'
set_option maxHeartbeats 800000 in
theorem mayUse (w : World) (H0 : Nat) (v : Value) (hc : C0.Code w H0 v) (h0 : H0 ≤ w.heap.size) : Calls Tryz.prog 26 #[v] w (EndM w) := by
  obtain ⟨w0, hw0⟩ : ∃ y, y = w.alloc (.cells #[.bool false, .string ⟨#[]⟩, .int .i64 0] 45) := ⟨_, rfl⟩
  have o_r := var_owns w 45 3 [.bool false, .string ⟨#[]⟩, .int .i64 0] rfl
  have z0 : w.heap.size < w0.heap.size := by rw [hw0]; simp
  have HB : Below w.heap.size w w0 := hw0 ▸ (Below.refl _ _).alloc (Nat.le_refl _) _
  rw [← hw0] at o_r
  have hc0 : C0.Code w0 H0 v := hc.below (HB.mono h0)
  go_enter Tryz.func26, Tryz.ntmps26
  go_wp2_with fail
  rw [← hw0]
  clear hw0
  (with_reducible refine (new_any _ H0 v hc0 (by omega)).mono ?_); rintro e w1 ⟨rfl, hC1, hg1⟩
  replace o_r := owns_turned o_r (turned_grown hg1) (fun b h1 h2 => by simp at h2)
  replace HB := HB.trans (grown_below hg1 (by omega) (fun r h => by cases h))
  have z1 := hg1.size
  go_wp2_with fail
  (with_reducible refine (any_any _ _ H0 hC1).mono ?_); rintro e w2 ⟨x, rfl, ⟨hx1, hx2⟩, hC2, hg2⟩
  replace o_r := owns_drawn o_r hg2 (by omega)
  replace HB := HB.trans (grown_below hg2 (by omega) (fun r h => by cases h; omega))
  have z2 := hg2.size
  obtain ⟨w3, hw3⟩ : ∃ y, y = w2.alloc (.cells #[.bool x.Secure, .string x.Host, .int .i64 x.Port] 45) := ⟨_, rfl⟩
  obtain ⟨o_o, hC3, hg3, ne_o, lo_o⟩ := new_var w2 45 3 w0.heap.size H0 [.bool x.Secure, .string x.Host, .int .i64 x.Port] rfl hC2
  rw [← hw3] at o_o hC3 hg3
  replace o_r := owns_drawn o_r hg3 (by omega)
  replace HB := HB.trans (grown_below hg3 (by omega) (fun r h => by cases h; omega))
  go_wp2_with fail
  rw [← hw3]
  clear hw3
  have c0 : w3.cell? ⟨w2.heap.size, 0, none⟩ = some (.bool x.Secure) := var_load o_o (by simp) 0 _ rfl
  have c1 : w3.cell? ⟨w2.heap.size, 1, none⟩ = some (.string x.Host) := var_load o_o (by simp) 1 _ rfl
  have c2 : w3.cell? ⟨w2.heap.size, 2, none⟩ = some (.int .i64 x.Port) := var_load o_o (by simp) 2 _ rfl
  have hCd : IsCur w3.drew w0.heap.size H0 := hC3.drewN 1
  have hGd : w3.grownBy w3.drew (some w0.heap.size) := grown_drewN w3 1 _
  have ne1 : ¬ w.heap.size = w2.heap.size := by omega
  have ne2 : ¬ w2.heap.size = w.heap.size := by omega
  have z3 := hg3.size
  go_region_held3 (fun wx => wx.cell? ⟨w2.heap.size, 0, none⟩ = some (.bool x.Secure) ∧ wx.cell? ⟨w2.heap.size, 1, none⟩ = some (.string x.Host) ∧ wx.cell? ⟨w2.heap.size, 2, none⟩ = some (.int .i64 x.Port)) (first | exact ⟨c0, c1, c2⟩ | exact ⟨d0, d1, d2⟩ | (refine ⟨?_, ?_, ?_⟩ <;> simp [go_sem, ne1, ne2, d0, d1, d2])) (first | (go_at_call 74; (with_reducible refine (hostAny_any _ _ H0 hCd).mono ?_); rintro e w4 ⟨s, rfl, hs, hC4, hg4⟩; replace hg4 := grown_trans hGd hg4; replace o_r := owns_drawn o_r hg4 (by omega); replace o_o := owns_drawn o_o hg4 ne_o; replace HB := HB.trans (grown_below hg4 (by omega) (fun r h => by cases h; omega)); have d0 : w4.cell? ⟨w2.heap.size, 0, none⟩ = some (.bool x.Secure) := var_load o_o (by simp) 0 _ rfl; have d1 : w4.cell? ⟨w2.heap.size, 1, none⟩ = some (.string x.Host) := var_load o_o (by simp) 1 _ rfl; have d2 : w4.cell? ⟨w2.heap.size, 2, none⟩ = some (.int .i64 x.Port) := var_load o_o (by simp) 2 _ rfl; have y0 : w4.cell? ⟨w.heap.size, 0, none⟩ = some (.bool false) := var_load o_r (by simp) 0 _ rfl; have x0 : w4.frozen? ⟨w.heap.size, 0, none⟩ = false := var_frozen o_r (by simp) 0 _ rfl; have y1 : w4.cell? ⟨w.heap.size, 1, none⟩ = some (.string ⟨#[]⟩) := var_load o_r (by simp) 1 _ rfl; have x1 : w4.frozen? ⟨w.heap.size, 1, none⟩ = false := var_frozen o_r (by simp) 1 _ rfl; have y2 : w4.cell? ⟨w.heap.size, 2, none⟩ = some (.int .i64 0) := var_load o_r (by simp) 2 _ rfl; have x2 : w4.frozen? ⟨w.heap.size, 2, none⟩ = false := var_frozen o_r (by simp) 2 _ rfl))
  go_wp2
  obtain ⟨wf, hf⟩ : ∃ y, y = (((w4.setCell ⟨w.heap.size, 0, none⟩ (.bool x.Secure)).setCell ⟨w.heap.size, 1, none⟩ (.string x.Host)).setCell ⟨w.heap.size, 2, none⟩ (.int .i64 x.Port)) := ⟨_, rfl⟩
  obtain ⟨o_r2, t2⟩ := var_some [.bool x.Secure, .string x.Host, .int .i64 x.Port] 0 _ _ o_r (by simp)
  rw [show setAll w4 w.heap.size 0 [.bool x.Secure, .string x.Host, .int .i64 x.Port] = wf from hf.symm] at o_r2 t2
  have HF := below_turned HB t2 (fun b hb => by simp at hb; omega)
  clear y0 x0 y1 x1 y2 x2
  have y0 : wf.cell? ⟨w.heap.size, 0, none⟩ = some (.bool x.Secure) := var_load o_r2 (by simp) 0 _ rfl
  have y1 : wf.cell? ⟨w.heap.size, 1, none⟩ = some (.string x.Host) := var_load o_r2 (by simp) 1 _ rfl
  have y2 : wf.cell? ⟨w.heap.size, 2, none⟩ = some (.int .i64 x.Port) := var_load o_r2 (by simp) 2 _ rfl
  rw [← hf]
  exact bodyPost_ret (v := .tuple #[.agg #[.bool x.Secure, .string x.Host, .int .i64 x.Port], .string s]) (by simp [results, Tryz.results26, go_sem, y0, y1, y2]) rfl ⟨x, s, rfl, ⟨hx1, hx2⟩, hs, HF⟩
end Go.Proofs.YtialhhdhpjjkaaaGreatDoor.D9
