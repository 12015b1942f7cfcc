/-
  Contracts of chapter 6's keys and signatures, of the model.
-/
import Derived.Test.YtpfjfnlefeocnaaC1
import Derived.Test.YtpfjfnlefeocnaaC3
import Derived.Test.YtpfjfnlefeocnaaC4
import Derived.Test.YtpfjfnlefeocnaaM8
namespace Go.Proofs.Ytpfjfnlefeocnaa.C6
open Go.ChangeShapes Go.WideShapes Go.ChangeAt Go.RowKit
open S0 S1 C3 M3 M4 M8
set_option linter.unusedVariables false
theorem isKey_t {k : Int} (h : key k) : isKey k = true := by unfold isKey; exact decide_eq_true h
theorem isKey_f {k : Int} (h : ¬ key k) : isKey k = false := by unfold isKey; exact decide_eq_false h
set_option maxRecDepth 100000 in
theorem specPub (k : Int) (w : World) : Calls Try.prog 35 #[.int .i64 k] w fun e w' => e = .returned (.int .i64 (pub k)) ∧ w = w' := by
  by_cases h : key k
  · have HP := Lib.hid (show pub k = k * 48271 % 2147483647 by unfold pub; rw [if_pos h])
    have HK := Lib.hid (isKey_t h)
    have h0 := h.1
    have h1 := h.2
    clear h
    go_enter Try.func35, Try.ntmps35
    go_wp2_with fail
    (with_reducible refine (specValid _ k).mono ?_); rintro e w2 ⟨rfl, rfl⟩
    rw [HK.out]
    go_wp2
    go_ret
    exact ⟨by rw [HP.out]; rfl, rfl⟩
  · have HP := Lib.hid (pub_f h)
    have HK := Lib.hid (isKey_f h)
    clear h
    go_enter Try.func35, Try.ntmps35
    go_wp2_with fail
    (with_reducible refine (specValid _ k).mono ?_); rintro e w2 ⟨rfl, rfl⟩
    rw [HK.out]
    go_wp2
    go_ret
    exact ⟨by rw [HP.out]; rfl, rfl⟩
/-- In the midst of a power by squaring. -/
def Half6 (g0 : Int) (n0 : Nat) (g : Int) (n : Nat) (o : Int) : Prop := 0 ≤ g ∧ g ≤ 2147483646 ∧ 0 ≤ o ∧ o ≤ 2147483646 ∧ n ≤ n0 ∧ o * g ^ n % 2147483647 = pm 2147483647 g0 n0
theorem half6_odd {g0 g o : Int} {n0 n : Nat} (h : Half6 g0 n0 g n o) (hn : n % 2 = 1) : Half6 g0 n0 (g * g % 2147483647) (n / 2) (o * g % 2147483647) := by
  obtain ⟨_, _, _, _, h5, h6⟩ := h
  have a := Int.emod_nonneg (g * g) (show (2147483647 : Int) ≠ 0 by omega)
  have b := Int.emod_lt_of_pos (g * g) (show (0 : Int) < 2147483647 by omega)
  have c := Int.emod_nonneg (o * g) (show (2147483647 : Int) ≠ 0 by omega)
  have d := Int.emod_lt_of_pos (o * g) (show (0 : Int) < 2147483647 by omega)
  exact ⟨a, by omega, c, by omega, by omega, by rw [half_odd _ _ _ _ hn, h6]⟩
theorem half6_even {g0 g o : Int} {n0 n : Nat} (h : Half6 g0 n0 g n o) (hn : n % 2 = 0) : Half6 g0 n0 (g * g % 2147483647) (n / 2) o := by
  obtain ⟨_, _, h3, h4, h5, h6⟩ := h
  have a := Int.emod_nonneg (g * g) (show (2147483647 : Int) ≠ 0 by omega)
  have b := Int.emod_lt_of_pos (g * g) (show (0 : Int) < 2147483647 by omega)
  exact ⟨a, by omega, h3, h4, by omega, by rw [half_even _ _ _ _ hn, h6]⟩
theorem half6_done {g0 g o : Int} {n0 : Nat} (h : Half6 g0 n0 g 0 o) : o = pm 2147483647 g0 n0 := by
  obtain ⟨_, _, h3, h4, _, h6⟩ := h
  rw [Int.pow_zero, Int.mul_one, Int.emod_eq_of_lt h3 (by omega)] at h6
  exact h6
set_option maxHeartbeats 800000 in
set_option maxRecDepth 100000 in
theorem l6Power (g0 : Int) (n0 : Nat) (w : World) (h0 : 0 ≤ g0) (h1 : g0 ≤ 2147483646) (hn : n0 ≤ 2147483647) :
    Calls Try.prog 68 #[.int .i64 g0, .int .i64 n0] w fun e w' => e = .returned (.int .i64 (pm 2147483647 g0 n0)) ∧ w = w' := by
  have HH : Half6 g0 n0 g0 n0 1 := ⟨h0, h1, by omega, by omega, Nat.le_refl _, by rw [Int.one_mul]; rfl⟩
  go_enter Try.func68, Try.ntmps68
  go_wp2
  go_loop [0, 1, 5] (fun gv nv ov => ∃ (g : Int) (n : Nat) (o : Int), gv = .int .i64 g ∧ nv = .int .i64 n ∧ ov = .int .i64 o ∧ Half6 g0 n0 g n o) (fun _ nv _ => (intOf nv).toNat)
  case atStart => exact ⟨g0, n0, 1, rfl, rfl, rfl, HH⟩
  case round =>
    obtain ⟨g, n, o, rfl, rfl, rfl, hH⟩ := hrel
    have H := Lib.hid hH
    obtain ⟨g1, g2, o1, o2, n1, _⟩ := hH
    have m0 : 0 ≤ g * g := Int.mul_nonneg g1 g1
    have m1 : g * g ≤ 2147483646 * 2147483646 := Int.mul_le_mul (by omega) (by omega) g1 (by omega)
    have m2 : 0 ≤ o * g := Int.mul_nonneg o1 g1
    have m3 : o * g ≤ 2147483646 * 2147483646 := Int.mul_le_mul (by omega) (by omega) g1 (by omega)
    have ha := C4.and1 (n : Int)
    by_cases hlt : 0 < n
    · by_cases ho : n % 2 = 1
      · have ho' : (n : Int) % 2 = 1 := by omega
        rw [ho'] at ha
        go_wp2
        go_round
        case rel => exact ⟨_, n / 2, _, rfl, by simp, rfl, half6_odd H.out ho⟩
        case measure => simp [intOf]; omega
      · have ho' : (n : Int) % 2 = 0 := by omega
        have hn2 : n % 2 = 0 := by omega
        rw [ho'] at ha
        go_wp2
        go_round
        case rel => exact ⟨_, n / 2, _, rfl, by simp, rfl, half6_even H.out hn2⟩
        case measure => simp [intOf]; omega
    · obtain rfl : n = 0 := by omega
      go_wp2
      go_ret
      exact ⟨by rw [half6_done H.out]; rfl, rfl⟩
theorem powInv (w : World) : Calls Try.prog 68 #[.int .i64 48271, .int .i64 2147483645] w fun e w' => e = .returned (.int .i64 1899818559) ∧ w = w' := by
  have h := l6Power 48271 2147483645 w (by omega) (by omega) (by omega)
  rw [power_inv] at h
  exact h
set_option maxHeartbeats 800000 in
set_option maxRecDepth 100000 in
theorem specPrv (u : Int) (w : World) : Calls Try.prog 54 #[.int .i64 u] w fun e w' => e = .returned (.int .i64 (prv u)) ∧ w = w' := by
  by_cases h : key u
  · have HP := Lib.hid (show prv u = u * 1899818559 % 2147483647 by unfold prv; rw [if_pos h])
    have HB := Lib.hid (pub_prv h)
    have h0 := h.1
    have h1 := h.2
    clear h
    go_enter Try.func54, Try.ntmps54
    go_wp2_with fail
    (with_reducible refine (C1.specIn_t u 1 2147483646 _ h0 h1).mono ?_); rintro e w2 ⟨rfl, rfl⟩
    go_wp2_with fail
    (with_reducible refine (powInv _).mono ?_); rintro e w2 ⟨rfl, rfl⟩
    have n0 : 0 ≤ u * 1899818559 := by omega
    have n1 : u * 1899818559 ≤ 9223372036854775807 := by omega
    go_wp2_with fail
    rw [← HP.out]
    (with_reducible refine (specPub (prv u) _).mono ?_); rintro e w2 ⟨rfl, rfl⟩
    rw [HB.out]
    go_wp2
    go_ret
    exact ⟨rfl, rfl⟩
  · have HP := Lib.hid (prv_f h)
    have h2 : u < 1 ∨ 2147483646 < u := by unfold key at h; omega
    clear h
    go_enter Try.func54, Try.ntmps54
    go_wp2_with fail
    (with_reducible refine (C1.specIn_f u 1 2147483646 _ h2).mono ?_); rintro e w2 ⟨rfl, rfl⟩
    go_wp2
    go_ret
    exact ⟨by rw [HP.out]; rfl, rfl⟩
/-- A list put behind a literal one. -/
theorem own_ints (w : World) (xs : List Int) (n : Nat) (hn : xs.length = n) (hm : n ≤ 1024) : (w.alloc (.cells (ints .i64 xs).toArray 3)).ownsRow w.heap.size 3 1 (.slice (some ⟨w.heap.size, 0, none⟩) n n) n (ints .i64 xs) := by
  have h := own_lit w (ints .i64 xs).toArray n w.heap.size 3 (Nat.le_refl _) (by rw [List.size_toArray, ints_len, hn]) (by unfold maxLen; omega)
  rw [List.toList_toArray] at h
  exact h
set_option maxHeartbeats 800000 in
set_option maxRecDepth 100000 in
theorem specDer (w : World) (A : Option Addr) (n c : Nat) (xs : List Int) (k : Int) (hk0 : -9223372036854775808 ≤ k) (hk1 : k ≤ 9223372036854775807) (hr : Rd w w.heap.size 1 A n (ints .i64 xs)) (hx : okInts xs) (hn : n ≤ 16000000) :
    Calls Try.prog 79 #[.int .i64 k, .slice A n c] w (Gives (.int .i64 (der k xs)) w) := by
  have HP := Lib.hid (show der k xs = if khash k ([151] ++ xs) > 1 then khash k ([151] ++ xs) else 1 from rfl)
  have HR := Lib.hid hr
  have HO := Lib.hid ((okInts.one (x := 151) (by omega) (by omega)).app hx)
  have ho0 : (w.alloc (.cells #[.int .i64 151] 3)).ownsRow w.heap.size 3 1 (.slice (some ⟨w.heap.size, 0, none⟩) 1 1) 1 (ints .i64 [151]) := own_ints w [151] 1 rfl (by omega)
  have b0 : Below w.heap.size w (w.alloc (.cells #[.int .i64 151] 3)) := (Below.refl _ _).alloc (Nat.le_refl _) _
  clear hr hx
  go_enter Try.func79, Try.ntmps79
  go_wp2_with (at_builtin; refine appI _ rfl _ _ rfl w.heap.size (.slice (some ⟨w.heap.size, 0, none⟩) 1 1) 1 _ rfl ho0 _ A n c _ rfl (HR.out.on b0) (ints_one _ _) (by omega) b0.size ?_; intro v1 w1 ho1 hg1; obtain ⟨A1, c1, rfl⟩ := own_nil_form ho1)
  have hb1 : Below w.heap.size w w1 := b0.grown hg1 b0.size (fun k hk => (ho0.lt k hk).1)
  rw [ints_app] at ho1
  have HO1 := Lib.hid ho1
  clear ho1 ho0 b0 hg1
  go_wp2_with fail
  (with_reducible refine (specKeyed _ A1 (1 + n) c1 ([151] ++ xs) k hk0 hk1 (Rd.own HO1.out) HO.out (by omega)).mono ?_); rintro e w2 ⟨rfl, b2⟩
  obtain ⟨q, hq⟩ : ∃ q, q = khash k ([151] ++ xs) := ⟨_, rfl⟩
  rw [← hq] at HP ⊢
  clear hq
  go_wp2_with fail
  (with_reducible refine (C1.specMax 1 q _).mono ?_); rintro e w3 ⟨rfl, rfl⟩
  rw [← HP.out]
  go_wp2
  go_ret
  exact ⟨rfl, hb1.trans (b2.mono hb1.size)⟩
end Go.Proofs.Ytpfjfnlefeocnaa.C6
