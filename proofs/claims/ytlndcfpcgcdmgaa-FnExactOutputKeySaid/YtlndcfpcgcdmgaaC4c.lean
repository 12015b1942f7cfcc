/-
  Contracts of chapter 4's inverses and logarithms, of the program and of the model: InverseExponent, DiscreteLog.
-/
import Derived.Test.YtlndcfpcgcdmgaaC4b
namespace Go.Proofs.Ytlndcfpcgcdmgaa.C4c
open Go.ChangeShapes Go.WideShapes Go.ChangeAt Go.RowKit
open S0 S1 M4 C4 C4b
set_option linter.unusedVariables false
theorem implInv (n : Int) (w : World) (hn0 : -9223372036854775808 ≤ n) (hn1 : n ≤ 9223372036854775807) : Calls Try.prog 49 #[.int .i64 n] w (Gives (.int .i64 (inv (n % 1019))) w) := by
  have h0 : 0 ≤ n % 1019 := by omega
  have h1 : n % 1019 < 1019 := by omega
  obtain ⟨x, hx⟩ : ∃ x, n % 1019 = x := ⟨_, rfl⟩
  rw [hx] at h0 h1
  have HX := Lib.hid hx
  have HQ := Lib.hid (power x 1019 1017 w h0 h1 (by omega) (by omega) (by omega))
  clear hx
  go_enter Try.func49, Try.ntmps49
  go_wp2_with fail
  (with_reducible refine (C1.implMod_in n 1019 _ hn0 hn1 (by omega) (by omega)).mono ?_); rintro e w2 ⟨rfl, rfl⟩
  rw [HX.out]
  go_wp2_with fail
  (refine HQ.out.mono ?_); rintro e w3 ⟨rfl, b3⟩
  go_wp2
  go_ret
  exact ⟨by rw [HX.out]; rfl, b3⟩
/-- No number from 1 to k - 1 is the inverse. -/
def noInv (x : Int) (k : Nat) : Prop := ∀ m : Nat, 1 ≤ m → m < k → x * (m : Int) % 1019 ≠ 1
theorem noInv.next {x : Int} {k : Nat} (h : noInv x k) (h1 : ¬ x * (k : Int) % 1019 = 1) : noInv x (k + 1) := by
  intro m hm1 hm2
  rcases Nat.lt_or_ge m k with h2 | h2
  · exact h m hm1 h2
  · obtain rfl : m = k := by omega
    exact h1
theorem inv_hit (x : Int) (k : Nat) (h0 : 0 ≤ x) (h1 : x < 1019) (hk : k < 1019) (e : x * (k : Int) % 1019 = 1) : (k : Int) = inv x := by
  rcases Int.lt_or_le 0 x with h | h
  · exact inv_uniq x k (by omega) h1 (by omega) (by omega) e
  · have hx : x = 0 := by omega
    rw [hx, Int.zero_mul] at e
    omega
set_option maxHeartbeats 800000 in
set_option maxRecDepth 100000 in
theorem specInv (n : Int) (w : World) (hn0 : -9223372036854775808 ≤ n) (hn1 : n ≤ 9223372036854775807) : Calls Try.prog 48 #[.int .i64 n] w (Gives (.int .i64 (inv (n % 1019))) w) := by
  have h0 : 0 ≤ n % 1019 := by omega
  have h1 : n % 1019 < 1019 := by omega
  obtain ⟨x, hx⟩ : ∃ x, n % 1019 = x := ⟨_, rfl⟩
  rw [hx] at h0 h1
  have HX := Lib.hid hx
  clear hx
  go_enter Try.func48, Try.ntmps48
  go_wp2_with fail
  (with_reducible refine (C1.specMod_in n 1019 _ hn0 hn1 (by omega) (by omega)).mono ?_); rintro e w2 ⟨rfl, rfl⟩
  rw [HX.out]
  go_wp2
  go_loop [4] (fun i => ∃ k : Nat, 1 ≤ k ∧ k ≤ 1019 ∧ i = .int .i64 k ∧ noInv x k) (fun i => 1019 - (intOf i).toNat)
  case atStart => exact ⟨1, by omega, by omega, rfl, fun m h1 h2 => by omega⟩
  case round =>
    obtain ⟨k, hk1, hk, rfl, hN⟩ := hrel
    have HN := Lib.hid hN
    clear hN
    have m0 : 0 ≤ x * (k : Int) := Int.mul_nonneg h0 (by omega)
    have m1 : x * (k : Int) ≤ 1018 * 1019 := Int.mul_le_mul (by omega) (by omega) (by omega) (by omega)
    by_cases hlt : k < 1019
    · by_cases he : x * (k : Int) % 1019 = 1
      · have HI := Lib.hid (inv_hit x k h0 h1 hlt he)
        go_wp2
        go_ret
        exact ⟨by rw [HX.out, ← HI.out]; rfl, Below.refl _ _⟩
      · have hf : (x * (k : Int) % 1019 == 1) = false := by simpa using he
        have HA := Lib.hid (HN.out.next he)
        clear he
        go_wp2
        go_round
        case rel => exact ⟨k + 1, by omega, by omega, by go_num, HA.out⟩
        case measure => simp [intOf]; omega
    · have hd' : decide ((k : Int) < 1019) = false := by simp; omega
      obtain rfl : k = 1019 := by omega
      have HI := Lib.hid (inv_none x h0 h1 HN.out)
      go_wp2
      go_ret
      exact ⟨by rw [HX.out, HI.out]; rfl, Below.refl _ _⟩
/-- No power below k is x. -/
def noLog (g x : Int) (k : Nat) : Prop := ∀ j, j < k → pm 2039 g j ≠ x
theorem noLog.next {g x : Int} {k : Nat} (h : noLog g x k) (h1 : ¬ pm 2039 g k = x) : noLog g x (k + 1) := by
  intro j hj
  rcases Nat.lt_or_ge j k with h2 | h2
  · exact h j h2
  · obtain rfl : j = k := by omega
    exact h1
theorem log_hit {g x : Int} {k : Nat} (hg : isEl g) (hx : isEl x) (h1 : ¬ g = 1) (hk : k < 1019) (h : noLog g x k) (e : pm 2039 g k = x) : lg g x = k := by
  rw [lg_t hg hx h1]; exact dl_found ⟨hk, e, h⟩
theorem log_miss {g x : Int} (hg : isEl g) (hx : isEl x) (h1 : ¬ g = 1) (h : noLog g x 1019) : lg g x = -1 := by
  rw [lg_t hg hx h1]; exact dl_none h
set_option maxHeartbeats 800000 in
set_option maxRecDepth 100000 in
theorem implLog (g x : Int) (w : World) : Calls Try.prog 36 #[.int .i64 g, .int .i64 x] w (Gives (.int .i64 (lg g x)) w) := by
  by_cases hg : g = 1
  · subst hg
    have HL := Lib.hid (lg_f (g := 1) (x := x) (fun h => h.2.2 rfl))
    go_enter Try.func36, Try.ntmps36
    go_wp2
    go_ret
    exact ⟨by rw [HL.out]; rfl, Below.refl _ _⟩
  · have hgb : (g == 1) = false := by simpa using hg
    by_cases hh : isEl g ∧ isEl x
    · have HZ := Lib.hid (show (el g && el x) = true by rw [el_t hh.1, el_t hh.2]; rfl)
      have HG := Lib.hid hh.1
      have HXE := Lib.hid hh.2
      have HNE := Lib.hid hg
      have g1 := hh.1.lo
      have g2 := hh.1.hi
      clear hh hg
      go_enter Try.func36, Try.ntmps36
      go_wp2_with fail
      (refine (els_two g x w true HZ.out).mono ?_); rintro e w1 ⟨rfl, c1⟩
      go_wp2
      go_loop [5, 16] (fun v i => ∃ k : Nat, k ≤ 1019 ∧ i = .int .i64 k ∧ v = .int .i64 (pm 2039 g k) ∧ noLog g x k) (fun _ i => 1019 - (intOf i).toNat)
      case atStart => exact ⟨0, by omega, rfl, by rw [pm_zero 2039 g (by omega)], fun m h => by omega⟩
      case round =>
        obtain ⟨k, hk, rfl, rfl, hN⟩ := hrel
        have HN := Lib.hid hN
        clear hN
        obtain ⟨q0, q1⟩ := pm_in 2039 g k (by omega)
        have HS := Lib.hid (pm_succ 2039 g k (by omega) (by omega))
        by_cases hlt : k < 1019
        · by_cases he : pm 2039 g k = x
          · have HI := Lib.hid (log_hit HG.out HXE.out HNE.out hlt HN.out he)
            have hb : (pm 2039 g k == x) = true := by simpa using he
            clear he
            go_wp2
            go_ret
            exact ⟨by rw [HI.out]; rfl, c1⟩
          · have hb : (pm 2039 g k == x) = false := by simpa using he
            have HA := Lib.hid (HN.out.next he)
            clear he
            obtain ⟨q, hq⟩ : ∃ q, q = pm 2039 g k := ⟨_, rfl⟩
            rw [← hq] at q0 q1 hb HS ⊢
            clear hq
            have m0 : 0 ≤ q * g := Int.mul_nonneg (by omega) (by omega)
            have m1 : q * g ≤ 2038 * 2038 := Int.mul_le_mul (by omega) (by omega) (by omega) (by omega)
            go_wp2
            go_round
            case rel => exact ⟨k + 1, by omega, by go_num, by rw [← HS.out], HA.out⟩
            case measure => simp [intOf]; omega
        · have hd' : decide ((k : Int) < 1019) = false := by simp; omega
          obtain rfl : k = 1019 := by omega
          have HI := Lib.hid (log_miss HG.out HXE.out HNE.out HN.out)
          go_wp2
          go_ret
          exact ⟨by rw [HI.out]; rfl, c1⟩
    · have HL := Lib.hid (lg_f (g := g) (x := x) (fun h => hh ⟨h.1, h.2.1⟩))
      have HZ := Lib.hid (show (el g && el x) = false by
        rw [Bool.eq_false_iff]; intro e; rw [Bool.and_eq_true] at e; exact hh ⟨of_decide_eq_true e.1, of_decide_eq_true e.2⟩)
      clear hh hg
      go_enter Try.func36, Try.ntmps36
      go_wp2_with fail
      (refine (els_two g x w false HZ.out).mono ?_); rintro e w1 ⟨rfl, c1⟩
      go_wp2
      go_ret
      exact ⟨by rw [HL.out]; rfl, c1⟩
set_option maxHeartbeats 800000 in
set_option maxRecDepth 100000 in
theorem specLog (g x : Int) (w : World) : Calls Try.prog 47 #[.int .i64 g, .int .i64 x] w (Gives (.int .i64 (lg g x)) w) := by
  by_cases hg : isEl g
  · by_cases hx : isEl x
    · by_cases h1 : g = 1
      · subst h1
        have HL := Lib.hid (lg_f (g := 1) (x := x) (fun h => h.2.2 rfl))
        have ea := el_t hg
        have eb := el_t hx
        clear hg hx
        go_enter Try.func47, Try.ntmps47
        go_wp2_with fail
        (with_reducible refine (specEl 1 _).mono ?_); rintro e w1 ⟨rfl, rfl⟩
        go_wp2_with fail
        (with_reducible refine (specEl x _).mono ?_); rintro e w1 ⟨rfl, rfl⟩
        go_wp2
        go_ret
        exact ⟨by rw [HL.out]; rfl, Below.refl _ _⟩
      · have ea := el_t hg
        have eb := el_t hx
        have hgb : (g == 1) = false := by simpa using h1
        have HG := Lib.hid hg
        have HXE := Lib.hid hx
        have HNE := Lib.hid h1
        have g1 := hg.lo
        have g2 := hg.hi
        clear hg hx h1
        go_enter Try.func47, Try.ntmps47
        go_wp2_with fail
        (with_reducible refine (specEl g _).mono ?_); rintro e w1 ⟨rfl, rfl⟩
        go_wp2_with fail
        (with_reducible refine (specEl x _).mono ?_); rintro e w1 ⟨rfl, rfl⟩
        go_wp2
        go_loop [5, 6] (fun v i => ∃ k : Nat, k ≤ 1019 ∧ i = .int .i64 k ∧ v = .int .i64 (pm 2039 g k) ∧ noLog g x k) (fun _ i => 1019 - (intOf i).toNat)
        case atStart => exact ⟨0, by omega, rfl, by rw [pm_zero 2039 g (by omega)], fun m h => by omega⟩
        case round =>
          obtain ⟨k, hk, rfl, rfl, hN⟩ := hrel
          have HN := Lib.hid hN
          clear hN
          obtain ⟨q0, q1⟩ := pm_in 2039 g k (by omega)
          have HS := Lib.hid (pm_succ 2039 g k (by omega) (by omega))
          by_cases hlt : k < 1019
          · by_cases he : pm 2039 g k = x
            · have HI := Lib.hid (log_hit HG.out HXE.out HNE.out hlt HN.out he)
              have hb : (pm 2039 g k == x) = true := by simpa using he
              clear he
              go_wp2
              go_ret
              exact ⟨by rw [HI.out]; rfl, Below.refl _ _⟩
            · have hb : (pm 2039 g k == x) = false := by simpa using he
              have HA := Lib.hid (HN.out.next he)
              clear he
              obtain ⟨q, hq⟩ : ∃ q, q = pm 2039 g k := ⟨_, rfl⟩
              rw [← hq] at q0 q1 hb HS ⊢
              clear hq
              have m0 : 0 ≤ q * g := Int.mul_nonneg (by omega) (by omega)
              have m1 : q * g ≤ 2038 * 2038 := Int.mul_le_mul (by omega) (by omega) (by omega) (by omega)
              go_wp2
              go_round
              case rel => exact ⟨k + 1, by omega, by go_num, by rw [← HS.out], HA.out⟩
              case measure => simp [intOf]; omega
          · have hd' : decide ((k : Int) < 1019) = false := by simp; omega
            obtain rfl : k = 1019 := by omega
            have HI := Lib.hid (log_miss HG.out HXE.out HNE.out HN.out)
            go_wp2
            go_ret
            exact ⟨by rw [HI.out]; rfl, Below.refl _ _⟩
    · have HL := Lib.hid (lg_f (g := g) (x := x) (fun h => hx h.2.1))
      have ea := el_t hg
      have eb := el_f hx
      clear hg hx
      go_enter Try.func47, Try.ntmps47
      go_wp2_with fail
      (with_reducible refine (specEl g _).mono ?_); rintro e w1 ⟨rfl, rfl⟩
      go_wp2_with fail
      (with_reducible refine (specEl x _).mono ?_); rintro e w1 ⟨rfl, rfl⟩
      go_wp2
      go_ret
      exact ⟨by rw [HL.out]; rfl, Below.refl _ _⟩
  · have HL := Lib.hid (lg_f (g := g) (x := x) (fun h => hg h.1))
    have ea := el_f hg
    clear hg
    go_enter Try.func47, Try.ntmps47
    go_wp2_with fail
    (with_reducible refine (specEl g _).mono ?_); rintro e w1 ⟨rfl, rfl⟩
    go_wp2
    go_ret
    exact ⟨by rw [HL.out]; rfl, Below.refl _ _⟩
end Go.Proofs.Ytlndcfpcgcdmgaa.C4c
