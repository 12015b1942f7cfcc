/-
  Contracts of the draws of chapter 4: an element or nearly one, a number about FieldSize, what PowGroup and VerifyEqual are tried on.
-/
import Derived.Test.YteobifdbalgoaaaD2
import Derived.Test.YteobifdbalgoaaaC4d
namespace Go.Proofs.Yteobifdbalgoaaa.D4
open Go.ChangeShapes Go.WideShapes Go.ChangeAt Go.RowKit
open C0 S0 S1 M4 C4 C4b C4d
set_option linter.unusedVariables false
def near (x : Int) : Prop := -1 ≤ x ∧ x ≤ 5000
theorem cur_below {w w' : World} {B H0 : Nat} (C : IsCur w B H0) (hb : Below w.heap.size w w') : IsCur w' B H0 := C.kept (grown_of_below hb) (by simp) (fun r h => by cases h)
theorem grown_b {w w' : World} (hb : Below w.heap.size w w') (B : Nat) : w.grownBy w' (some B) := grown_widen (grown_of_below hb) _
theorem element_any (w : World) (B H0 : Nat) (C : IsCur w B H0) : Calls Try.prog 51 #[.pointer (some ⟨B, 0, none⟩)] w (Drawn near w B H0) := by
  go_enter Try.func51, Try.ntmps51
  go_wp2_with fail
  (with_reducible refine (below_any _ B H0 1019 C).mono ?_); rintro e w1 ⟨x, rfl, ⟨hx0, hx1⟩, C1, g1⟩
  obtain ⟨k, rfl⟩ : ∃ k : Nat, x = k := ⟨x.toNat, by omega⟩
  have hk : k < 1019 := by omega
  clear hx1
  obtain ⟨p0, p1⟩ := pm_in 2039 4 k (by omega)
  go_wp2_with fail
  (with_reducible refine (l4Pow 4 k _ (by omega) (by omega) (by omega)).mono ?_); rintro e w2 ⟨rfl, rfl⟩
  go_wp2
  go_ret
  exact ⟨_, rfl, ⟨by omega, by omega⟩, C1, g1⟩
theorem any_any (w : World) (B H0 : Nat) (C : IsCur w B H0) : Calls Try.prog 35 #[.pointer (some ⟨B, 0, none⟩)] w (Drawn near w B H0) := by
  go_enter Try.func35, Try.ntmps35
  go_wp2_with fail
  (with_reducible refine (once_any _ B H0 5 C).mono ?_); rintro e w1 ⟨b, rfl, C1, g1⟩
  cases b
  · go_wp2_with fail
    (with_reducible refine (element_any _ B H0 C1).mono ?_); rintro e w2 ⟨x, rfl, hx, C2, g2⟩
    go_wp2
    go_ret
    exact ⟨x, rfl, hx, C2, grown_trans g1 g2⟩
  · have HL := Lib.hid (int_lit [-1, 0, 1, 2, 2038, 2039] 6 rfl w1 B H0 3 C1 (by simp) (by simp) near (by simp [near]))
    go_wp2_with fail
    refine HL.out.mono ?_; rintro e w2 ⟨x, rfl, hx, C2, g2⟩
    go_wp2
    go_ret
    exact ⟨x, rfl, hx, C2, grown_trans g1 g2⟩
theorem near_list (x y : Int) (hx0 : 0 ≤ x) (hx1 : x ≤ 1018) (hy0 : 0 ≤ y) (hy1 : y ≤ 1018) : ∀ z ∈ [x, y, -1, 0, 1, 1018, 1019, 5000], near z := by
  intro z hz
  simp only [List.mem_cons, List.not_mem_nil, or_false] at hz
  unfold near
  omega
set_option maxHeartbeats 800000 in
theorem number_any (w : World) (B H0 : Nat) (C : IsCur w B H0) : Calls Try.prog 36 #[.pointer (some ⟨B, 0, none⟩)] w (Drawn near w B H0) := by
  go_enter Try.func36, Try.ntmps36
  go_wp2_with fail
  (with_reducible refine (below_any _ B H0 1019 C).mono ?_); rintro e w1 ⟨x, rfl, ⟨hx0, hx1⟩, C1, g1⟩
  go_wp2_with fail
  (with_reducible refine (below_any _ B H0 1019 C1).mono ?_); rintro e w2 ⟨y, rfl, ⟨hy0, hy1⟩, C2, g2⟩
  have HL := Lib.hid (int_lit [x, y, -1, 0, 1, 1018, 1019, 5000] 8 rfl w2 B H0 3 C2 (by simp) (by simp) near (near_list x y hx0 (by omega) hy0 (by omega)))
  clear hx1 hy1
  go_wp2_with fail
  refine HL.out.mono ?_; rintro e w3 ⟨z, rfl, hz, C3, g3⟩
  go_wp2
  go_ret
  exact ⟨z, rfl, hz, C3, grown_trans (grown_trans g1 g2) g3⟩
/-- Two numbers. -/
def Two (w : World) (e : Ending) (w' : World) : Prop := ∃ g n : Int, e = .returned (.tuple #[.int .i64 g, .int .i64 n]) ∧ near g ∧ near n ∧ Below w.heap.size w w'
theorem powGroup (w : World) (v : Value) (hc : C0.Code w w.heap.size v) : Calls Try.prog 14 #[v] w (Two w) := by
  go_enter Try.func14, Try.ntmps14
  go_wp2_with fail
  (with_reducible refine (new_any _ w.heap.size v hc (Nat.le_refl _)).mono ?_); rintro e w1 ⟨rfl, C1, g1⟩
  go_wp2_with fail
  (with_reducible refine (any_any _ _ w.heap.size C1).mono ?_); rintro e w2 ⟨g, rfl, hg, C2, g2⟩
  go_wp2_with fail
  (with_reducible refine (number_any _ _ w.heap.size C2).mono ?_); rintro e w3 ⟨n, rfl, hn, C3, g3⟩
  go_wp2
  go_ret2
  exact ⟨g, n, rfl, hg, hn, made_below g1 (grown_trans g2 g3)⟩
/-- Six numbers. -/
def Six (w : World) (e : Ending) (w' : World) : Prop := ∃ a b x y p q : Int, e = .returned (.tuple #[.int .i64 a, .int .i64 b, .int .i64 x, .int .i64 y, .int .i64 p, .int .i64 q]) ∧ Below w.heap.size w w'
theorem results_tmp6 {fn : Func} {t u v x y z : Tmp} (h : fn.results = #[.tmp t, .tmp u, .tmp v, .tmp x, .tmp y, .tmp z]) (tmps : Array Value) (P : Program) (w : World) :
    (results fn tmps).run P w = .ok (.tuple #[tmps.getD t undef, tmps.getD u undef, tmps.getD v undef, tmps.getD x undef, tmps.getD y undef, tmps.getD z undef]) w := by
  simp [results, h]
set_option maxHeartbeats 1600000 in
set_option maxRecDepth 100000 in
theorem verifyEqual (w : World) (v : Value) (hc : C0.Code w w.heap.size v) : Calls Try.prog 26 #[v] w (Six w) := by
  go_enter Try.func26, Try.ntmps26
  go_wp2_with fail
  (with_reducible refine (new_any _ w.heap.size v hc (Nat.le_refl _)).mono ?_); rintro e w1 ⟨rfl, C1, g1⟩
  go_wp2_with fail
  (with_reducible refine (any_any _ _ w.heap.size C1).mono ?_); rintro e w2 ⟨g, rfl, _, C2, g2⟩
  go_wp2_with fail
  (with_reducible refine (any_any _ _ w.heap.size C2).mono ?_); rintro e w3 ⟨h, rfl, _, C3, g3⟩
  replace g2 := grown_trans g2 g3
  go_wp2_with fail
  (with_reducible refine (number_any _ _ w.heap.size C3).mono ?_); rintro e w4 ⟨s, rfl, ⟨hs0, hs1⟩, C4, g4⟩
  replace g2 := grown_trans g2 g4
  go_wp2_with fail
  (with_reducible refine (number_any _ _ w.heap.size C4).mono ?_); rintro e w5 ⟨k, rfl, ⟨hk0, hk1⟩, C5, g5⟩
  replace g2 := grown_trans g2 g5
  go_wp2_with fail
  (with_reducible refine (specProve g h s k _ (by omega) (by omega) (by omega) (by omega)).mono ?_); rintro e w6 ⟨rfl, b6⟩
  have C6 := cur_below C5 b6
  replace g2 := grown_trans g2 (grown_b b6 _)
  go_wp2_with fail
  (with_reducible refine (specPow g s _ (by omega) (by omega)).mono ?_); rintro e w7 ⟨rfl, rfl⟩
  go_wp2_with fail
  (with_reducible refine (specPow h s _ (by omega) (by omega)).mono ?_); rintro e w7 ⟨rfl, rfl⟩
  go_wp2_with fail
  (with_reducible refine (below_any _ _ w.heap.size 6 C6).mono ?_); rintro e w7 ⟨x, rfl, ⟨hx0, hx1⟩, C7, g7⟩
  replace g2 := grown_trans g2 g7
  have hx : x = 0 ∨ x = 1 ∨ x = 2 ∨ (3 ≤ x ∧ x ≤ 5) := by omega
  clear hx0 hx1
  rcases hx with rfl | rfl | rfl | ⟨hx0, hx1⟩
  · go_wp2_with fail
    (with_reducible refine (any_any _ _ w.heap.size C7).mono ?_); rintro e w8 ⟨y, rfl, _, C8, g8⟩
    go_wp2
    refine bodyPost_ret (results_tmp6 rfl _ _ _) rfl ?_
    exact ⟨_, _, _, _, _, _, rfl, made_below g1 (grown_trans g2 g8)⟩
  · have HL := Lib.hid (int_lit [-1, 0, 1018, 1019] 4 rfl w7 _ w.heap.size 3 C7 (by simp) (by simp) near (by simp [near]))
    go_wp2_with fail
    refine HL.out.mono ?_; rintro e w8 ⟨y, rfl, _, C8, g8⟩
    go_wp2
    refine bodyPost_ret (results_tmp6 rfl _ _ _) rfl ?_
    exact ⟨_, _, _, _, _, _, rfl, made_below g1 (grown_trans g2 g8)⟩
  · have HL := Lib.hid (int_lit [-1, 0, 1018, 1019] 4 rfl w7 _ w.heap.size 3 C7 (by simp) (by simp) near (by simp [near]))
    go_wp2_with fail
    refine HL.out.mono ?_; rintro e w8 ⟨y, rfl, _, C8, g8⟩
    go_wp2
    refine bodyPost_ret (results_tmp6 rfl _ _ _) rfl ?_
    exact ⟨_, _, _, _, _, _, rfl, made_below g1 (grown_trans g2 g8)⟩
  · go_wp2
    refine bodyPost_ret (results_tmp6 rfl _ _ _) rfl ?_
    exact ⟨_, _, _, _, _, _, rfl, made_below g1 g2⟩
end Go.Proofs.Yteobifdbalgoaaa.D4
