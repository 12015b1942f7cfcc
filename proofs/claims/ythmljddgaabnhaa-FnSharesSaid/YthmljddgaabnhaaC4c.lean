/-
  Contracts of chapter 4's inverses and logarithms, of the program and of the model: InverseExponent, DiscreteLog.
-/
import Derived.Test.YthmljddgaabnhaaC4b
namespace Go.Proofs.Ythmljddgaabnhaa.C4c
open Go.ChangeShapes Go.WideShapes Go.ChangeAt Go.RowKit
open S0 S1 M4 C4 C4b
set_option linter.unusedVariables false
theorem implInv (n : Int) (w : World) (hn0 : -9223372036854775808 ≤ n) (hn1 : n ≤ 9223372036854775807) : Calls Try.prog 42 #[.int .i64 n] w (Gives (.int .i64 (inv (n % 1019))) w) := by
  have h0 : 0 ≤ n % 1019 := by omega
  have h1 : n % 1019 < 1019 := by omega
  obtain ⟨x, hx⟩ : ∃ x, n % 1019 = x := ⟨_, rfl⟩
  rw [hx] at h0 h1
  have HX := Lib.hid hx
  have HQ := Lib.hid (power x 1019 1017 w h0 h1 (by omega) (by omega) (by omega))
  clear hx
  go_enter Try.func42, Try.ntmps42
  go_wp2_with fail
  (with_reducible refine (C1.implMod_in n 1019 _ hn0 hn1 (by omega) (by omega)).mono ?_); rintro e w2 ⟨rfl, rfl⟩
  rw [HX.out]
  go_wp2_with fail
  (refine HQ.out.mono ?_); rintro e w3 ⟨rfl, b3⟩
  go_wp2
  go_ret
  exact ⟨by rw [HX.out]; rfl, b3⟩
/-- No number from 1 to k - 1 is the inverse. -/
def noInv (x : Int) (k : Nat) : Prop := ∀ m : Nat, 1 ≤ m → m < k → x * (m : Int) % 1019 ≠ 1
theorem noInv.next {x : Int} {k : Nat} (h : noInv x k) (h1 : ¬ x * (k : Int) % 1019 = 1) : noInv x (k + 1) := by
  intro m hm1 hm2
  rcases Nat.lt_or_ge m k with h2 | h2
  · exact h m hm1 h2
  · obtain rfl : m = k := by omega
    exact h1
theorem inv_hit (x : Int) (k : Nat) (h0 : 0 ≤ x) (h1 : x < 1019) (hk : k < 1019) (e : x * (k : Int) % 1019 = 1) : (k : Int) = inv x := by
  rcases Int.lt_or_le 0 x with h | h
  · exact inv_uniq x k (by omega) h1 (by omega) (by omega) e
  · have hx : x = 0 := by omega
    rw [hx, Int.zero_mul] at e
    omega
set_option maxHeartbeats 800000 in
set_option maxRecDepth 100000 in
theorem specInv (n : Int) (w : World) (hn0 : -9223372036854775808 ≤ n) (hn1 : n ≤ 9223372036854775807) : Calls Try.prog 47 #[.int .i64 n] w (Gives (.int .i64 (inv (n % 1019))) w) := by
  have h0 : 0 ≤ n % 1019 := by omega
  have h1 : n % 1019 < 1019 := by omega
  obtain ⟨x, hx⟩ : ∃ x, n % 1019 = x := ⟨_, rfl⟩
  rw [hx] at h0 h1
  have HX := Lib.hid hx
  clear hx
  go_enter Try.func47, Try.ntmps47
  go_wp2_with fail
  (with_reducible refine (C1.specMod_in n 1019 _ hn0 hn1 (by omega) (by omega)).mono ?_); rintro e w2 ⟨rfl, rfl⟩
  rw [HX.out]
  go_wp2
  go_loop [4] (fun i => ∃ k : Nat, 1 ≤ k ∧ k ≤ 1019 ∧ i = .int .i64 k ∧ noInv x k) (fun i => 1019 - (intOf i).toNat)
  case atStart => exact ⟨1, by omega, by omega, rfl, fun m h1 h2 => by omega⟩
  case round =>
    obtain ⟨k, hk1, hk, rfl, hN⟩ := hrel
    have HN := Lib.hid hN
    clear hN
    have m0 : 0 ≤ x * (k : Int) := Int.mul_nonneg h0 (by omega)
    have m1 : x * (k : Int) ≤ 1018 * 1019 := Int.mul_le_mul (by omega) (by omega) (by omega) (by omega)
    by_cases hlt : k < 1019
    · by_cases he : x * (k : Int) % 1019 = 1
      · have HI := Lib.hid (inv_hit x k h0 h1 hlt he)
        go_wp2
        go_ret
        exact ⟨by rw [HX.out, ← HI.out]; rfl, Below.refl _ _⟩
      · have hf : (x * (k : Int) % 1019 == 1) = false := by simpa using he
        have HA := Lib.hid (HN.out.next he)
        clear he
        go_wp2
        go_round
        case rel => exact ⟨k + 1, by omega, by omega, by go_num, HA.out⟩
        case measure => simp [intOf]; omega
    · have hd' : decide ((k : Int) < 1019) = false := by simp; omega
      obtain rfl : k = 1019 := by omega
      have HI := Lib.hid (inv_none x h0 h1 HN.out)
      go_wp2
      go_ret
      exact ⟨by rw [HX.out, HI.out]; rfl, Below.refl _ _⟩
/-- No power below k is x. -/
def noLog (g x : Int) (k : Nat) : Prop := ∀ j, j < k → pm 2039 g j ≠ x
theorem noLog.next {g x : Int} {k : Nat} (h : noLog g x k) (h1 : ¬ pm 2039 g k = x) : noLog g x (k + 1) := by
  intro j hj
  rcases Nat.lt_or_ge j k with h2 | h2
  · exact h j h2
  · obtain rfl : j = k := by omega
    exact h1
theorem log_hit {g x : Int} {k : Nat} (hg : isEl g) (hx : isEl x) (h1 : ¬ g = 1) (hk : k < 1019) (h : noLog g x k) (e : pm 2039 g k = x) : lg g x = k := by
  rw [lg_t hg hx h1]; exact dl_found ⟨hk, e, h⟩
theorem log_miss {g x : Int} (hg : isEl g) (hx : isEl x) (h1 : ¬ g = 1) (h : noLog g x 1019) : lg g x = -1 := by
  rw [lg_t hg hx h1]; exact dl_none h
end Go.Proofs.Ythmljddgaabnhaa.C4c
