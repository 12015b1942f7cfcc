/-
  Contracts of chapter 4's group, of the program and of the model: IsGroupElement, PowGroup, MulGroup, InverseExponent, DiscreteLog.
-/
import Derived.Test.YtlndcfpcgcdmgaaC4
namespace Go.Proofs.Ytlndcfpcgcdmgaa.C4b
open Go.ChangeShapes Go.WideShapes Go.ChangeAt Go.RowKit
open S0 S1 M4 C4
set_option linter.unusedVariables false
theorem pm_bool (x : Int) (h1 : 1 ≤ x) (h2 : x ≤ 2038) : (pm 2039 x 1019 == 1) = el x := by
  by_cases h : pm 2039 x 1019 = 1
  · rw [el_t ⟨h1, h2, h⟩, h]; rfl
  · rw [el_f (fun e => h e.2.2)]; simpa using h
theorem specEl (x : Int) (w : World) : Calls Try.prog 32 #[.int .i64 x] w fun e w' => e = .returned (.bool (el x)) ∧ w = w' := by
  by_cases h : 1 ≤ x ∧ x ≤ 2038
  · obtain ⟨h1, h2⟩ := h
    have HE := Lib.hid (pm_bool x h1 h2)
    obtain ⟨q, hq⟩ : ∃ q, q = pm 2039 x 1019 := ⟨_, rfl⟩
    rw [← hq] at HE
    have HQ := Lib.hid (hq ▸ l4Pow x 1019 w (by omega) h2 (by omega))
    clear hq
    go_enter Try.func32, Try.ntmps32
    go_wp2_with fail
    (with_reducible refine (C1.specIn_t x 1 2038 _ h1 h2).mono ?_); rintro e w1 ⟨rfl, rfl⟩
    go_wp2_with fail
    (refine HQ.out.mono ?_); rintro e w1 ⟨rfl, rfl⟩
    go_wp2
    go_ret
    exact ⟨by rw [← HE.out]; rfl, rfl⟩
  · have h2 : x < 1 ∨ 2038 < x := by omega
    have he : el x = false := el_f (fun e => h ⟨e.1, e.2.1⟩)
    rw [he]
    clear h he
    go_enter Try.func32, Try.ntmps32
    go_wp2_with fail
    (with_reducible refine (C1.specIn_f x 1 2038 _ h2).mono ?_); rintro e w1 ⟨rfl, rfl⟩
    go_wp2
    go_ret
    exact ⟨rfl, rfl⟩
theorem specElB (x : Int) (w : World) : Calls Try.prog 32 #[.int .i64 x] w (Gives (.bool (el x)) w) :=
  (specEl x w).mono fun _ _ ⟨he, hw⟩ => ⟨he, hw ▸ Below.refl _ _⟩
theorem implEl (x : Int) (w : World) : Calls Try.prog 57 #[.int .i64 x] w (Gives (.bool (el x)) w) := by
  by_cases h : 1 ≤ x ∧ x ≤ 2038
  · obtain ⟨h1, h2⟩ := h
    have HE := Lib.hid (pm_bool x h1 h2)
    obtain ⟨q, hq⟩ : ∃ q, q = pm 2039 x 1019 := ⟨_, rfl⟩
    rw [← hq] at HE
    have HQ := Lib.hid (hq ▸ power x 2039 1019 w (by omega) (by omega) (by omega) (by omega) (by omega))
    clear hq
    go_enter Try.func57, Try.ntmps57
    go_wp2_with fail
    (with_reducible refine (C1.implIn_t x 1 2038 _ h1 h2).mono ?_); rintro e w1 ⟨rfl, rfl⟩
    go_wp2_with fail
    (refine HQ.out.mono ?_); rintro e w1 ⟨rfl, b1⟩
    go_wp2
    go_ret
    exact ⟨by rw [← HE.out]; rfl, b1⟩
  · have h2 : x < 1 ∨ 2038 < x := by omega
    have he : el x = false := el_f (fun e => h ⟨e.1, e.2.1⟩)
    rw [he]
    clear h he
    go_enter Try.func57, Try.ntmps57
    go_wp2_with fail
    (with_reducible refine (C1.implIn_f x 1 2038 _ h2).mono ?_); rintro e w1 ⟨rfl, rfl⟩
    go_wp2
    go_ret
    exact ⟨rfl, Below.refl _ _⟩
def elTo (xs : List Int) (k : Nat) : Prop := ∀ j, j < k → el (xs.getD j 0) = true
theorem all_of {xs : List Int} (h : elTo xs xs.length) : xs.all el = true := by
  rw [List.all_eq_true]
  intro x hx
  obtain ⟨j, hj, rfl⟩ := List.getElem_of_mem hx
  have := h j hj
  rw [List.getD_eq_getElem?_getD, List.getElem?_eq_getElem hj] at this
  exact this
theorem all_not {xs : List Int} {k : Nat} (hk : k < xs.length) (h : el (xs.getD k 0) = false) : xs.all el = false := by
  rw [List.all_eq_false]
  rw [List.getD_eq_getElem?_getD, List.getElem?_eq_getElem hk] at h
  exact ⟨_, List.getElem_mem hk, by simpa using h⟩
theorem elTo.next {xs : List Int} {k : Nat} (h : elTo xs k) (h1 : el (xs.getD k 0) = true) : elTo xs (k + 1) := by
  intro j hj
  rcases Nat.lt_or_ge j k with h2 | h2
  · exact h j h2
  · obtain rfl : j = k := by omega
    exact h1
set_option maxHeartbeats 800000 in
theorem implEls (w : World) (A : Option Addr) (n c : Nat) (xs : List Int) (hr : Rd w w.heap.size 1 A n (ints .i64 xs)) (hn : n ≤ 1000) :
    Calls Try.prog 59 #[.slice A n c] w (Gives (.bool (xs.all el)) w) := by
  have hl : xs.length = n := by have := hr.len1; rw [ints_len] at this; exact this
  have HR := Lib.hid hr
  have HL := Lib.hid hl
  clear hr hl
  go_enter Try.func59, Try.ntmps59
  go_wp2
  go_loopw [7] (fun i wr => ∃ k : Nat, k ≤ n ∧ i = .int .i64 k ∧ elTo xs k ∧ Below w.heap.size w wr) (fun i _ => n - (intOf i).toNat)
  case atStart => exact ⟨0, by omega, rfl, fun j hj => by omega, Below.refl _ _⟩
  case round =>
    obtain ⟨k, hk, rfl, hE, hb⟩ := hrel
    have HE := Lib.hid hE
    clear hE
    by_cases hlt : k < n
    · obtain ⟨b, off, rfl, hbl, hcell⟩ := (HR.out.below hb).at_ hlt
      obtain ⟨x, hx⟩ : ∃ x, x = xs.getD k 0 := ⟨_, rfl⟩
      rw [← hx] at hcell
      have HX := Lib.hid hx
      clear hx
      go_wp2_with fail
      (with_reducible refine (implEl x _).mono ?_); rintro e w1 ⟨rfl, b1⟩
      replace hb := hb.trans (b1.mono hb.size)
      cases he : el x
      · have HA := Lib.hid (all_not (xs := xs) (k := k) (by have := HL.out; omega) (by rw [← HX.out]; exact he))
        go_wp2
        go_ret
        exact ⟨by rw [HA.out]; rfl, hb⟩
      · have HA := Lib.hid (HE.out.next (by rw [← HX.out]; exact he))
        go_wp2
        go_roundw
        case rel => exact ⟨k + 1, by omega, by go_num, HA.out, hb⟩
        case measure => simp [intOf]; omega
    · have hd' : decide (k < n) = false := by simp; omega
      have hkn : k = n := by omega
      have HA := Lib.hid (all_of (xs := xs) (by rw [HL.out, ← hkn]; exact HE.out))
      clear hkn
      go_wp2
      go_ret
      exact ⟨by rw [HA.out]; rfl, hb⟩
/-- The slice of a call's own extra arguments. -/
theorem rd_two (w : World) (a b : Int) : Rd (w.alloc (.cells #[.int .i64 a, .int .i64 b] 3)) (w.alloc (.cells #[.int .i64 a, .int .i64 b] 3)).heap.size 1 (some ⟨w.heap.size, 0, none⟩) 2 (ints .i64 [a, b]) :=
  Rd.own (own_lit w #[.int .i64 a, .int .i64 b] 2 w.heap.size 3 (Nat.le_refl _) rfl (by unfold maxLen; omega))
theorem els_two (a b : Int) (w : World) (z : Bool) (hz : (el a && el b) = z) : Calls Try.prog 59 #[.slice (some ⟨w.heap.size, 0, none⟩) 2 2] (w.alloc (.cells #[.int .i64 a, .int .i64 b] 3)) (Gives (.bool z) w) := by
  refine (implEls _ _ 2 2 [a, b] (rd_two w a b) (by omega)).mono fun e w' h => ⟨?_, C3.below_al h.2⟩
  rw [h.1, ← hz]; simp
theorem implPow (g n : Int) (w : World) (hn0 : -9223372036854775808 ≤ n) (hn1 : n ≤ 9223372036854775807) : Calls Try.prog 34 #[.int .i64 g, .int .i64 n] w (Gives (.int .i64 (pw g n)) w) := by
  by_cases h : isEl g
  · have he := el_t h
    have HP := Lib.hid (pw_t n h)
    have h1 := h.lo
    have h2 := h.hi
    obtain ⟨k, hk⟩ : ∃ k : Nat, n % 1019 = k := ⟨(n % 1019).toNat, by omega⟩
    have hk2 : k < 1019 := by omega
    have HK := Lib.hid hk
    clear hk
    go_enter Try.func34, Try.ntmps34
    go_wp2_with fail
    (with_reducible refine (implEl g _).mono ?_); rintro e w1 ⟨rfl, b1⟩
    go_wp2_with fail
    (with_reducible refine (C1.implMod_in n 1019 _ hn0 hn1 (by omega) (by omega)).mono ?_); rintro e w2 ⟨rfl, rfl⟩
    rw [HK.out]
    go_wp2_with fail
    (with_reducible refine (power g 2039 k _ (by omega) (by omega) (by omega) (by omega) (by omega)).mono ?_); rintro e w3 ⟨rfl, b3⟩
    go_wp2
    go_ret
    exact ⟨by rw [HP.out, HK.out]; rfl, b1.trans (b3.mono b1.size)⟩
  · have he := el_f h
    have HP := Lib.hid (pw_f n h)
    clear h
    go_enter Try.func34, Try.ntmps34
    go_wp2_with fail
    (with_reducible refine (implEl g _).mono ?_); rintro e w1 ⟨rfl, b1⟩
    go_wp2
    go_ret
    exact ⟨by rw [HP.out]; rfl, b1⟩
theorem specPow (g n : Int) (w : World) (hn0 : -9223372036854775808 ≤ n) (hn1 : n ≤ 9223372036854775807) : Calls Try.prog 39 #[.int .i64 g, .int .i64 n] w fun e w' => e = .returned (.int .i64 (pw g n)) ∧ w = w' := by
  by_cases h : isEl g
  · have he := el_t h
    have HP := Lib.hid (pw_t n h)
    have h1 := h.lo
    have h2 := h.hi
    obtain ⟨k, hk⟩ : ∃ k : Nat, n % 1019 = k := ⟨(n % 1019).toNat, by omega⟩
    have hk2 : k < 1019 := by omega
    have HK := Lib.hid hk
    clear hk
    go_enter Try.func39, Try.ntmps39
    go_wp2_with fail
    (with_reducible refine (specEl g _).mono ?_); rintro e w1 ⟨rfl, rfl⟩
    go_wp2_with fail
    (with_reducible refine (C1.specMod_in n 1019 _ hn0 hn1 (by omega) (by omega)).mono ?_); rintro e w2 ⟨rfl, rfl⟩
    rw [HK.out]
    go_wp2_with fail
    (with_reducible refine (l4Pow g k _ (by omega) (by omega) (by omega)).mono ?_); rintro e w3 ⟨rfl, rfl⟩
    go_wp2
    go_ret
    exact ⟨by rw [HP.out, HK.out]; rfl, rfl⟩
  · have he := el_f h
    have HP := Lib.hid (pw_f n h)
    clear h
    go_enter Try.func39, Try.ntmps39
    go_wp2_with fail
    (with_reducible refine (specEl g _).mono ?_); rintro e w1 ⟨rfl, rfl⟩
    go_wp2
    go_ret
    exact ⟨by rw [HP.out]; rfl, rfl⟩
theorem specPowB (g n : Int) (w : World) (hn0 : -9223372036854775808 ≤ n) (hn1 : n ≤ 9223372036854775807) : Calls Try.prog 39 #[.int .i64 g, .int .i64 n] w (Gives (.int .i64 (pw g n)) w) :=
  (specPow g n w hn0 hn1).mono fun _ _ ⟨he, hw⟩ => ⟨he, hw ▸ Below.refl _ _⟩
theorem implMul (a b : Int) (w : World) : Calls Try.prog 63 #[.int .i64 a, .int .i64 b] w (Gives (.int .i64 (ml a b)) w) := by
  by_cases h : isEl a ∧ isEl b
  · have HP := Lib.hid (ml_t h.1 h.2)
    have HZ := Lib.hid (show (el a && el b) = true by rw [el_t h.1, el_t h.2]; rfl)
    have a1 := h.1.lo
    have a2 := h.1.hi
    have b1 := h.2.lo
    have b2 := h.2.hi
    have m0 : 0 ≤ a * b := Int.mul_nonneg (by omega) (by omega)
    have m1 : a * b ≤ 2038 * 2038 := Int.mul_le_mul (by omega) (by omega) (by omega) (by omega)
    clear h
    go_enter Try.func63, Try.ntmps63
    go_wp2_with fail
    (refine (els_two a b w true HZ.out).mono ?_); rintro e w1 ⟨rfl, c1⟩
    go_wp2
    go_ret
    exact ⟨by rw [HP.out]; rfl, c1⟩
  · have HP := Lib.hid (ml_f h)
    have HZ := Lib.hid (show (el a && el b) = false by
      rw [Bool.eq_false_iff]; intro e; rw [Bool.and_eq_true] at e; exact h ⟨of_decide_eq_true e.1, of_decide_eq_true e.2⟩)
    clear h
    go_enter Try.func63, Try.ntmps63
    go_wp2_with fail
    (refine (els_two a b w false HZ.out).mono ?_); rintro e w1 ⟨rfl, c1⟩
    go_wp2
    go_ret
    exact ⟨by rw [HP.out]; rfl, c1⟩
theorem specMul (a b : Int) (w : World) : Calls Try.prog 42 #[.int .i64 a, .int .i64 b] w fun e w' => e = .returned (.int .i64 (ml a b)) ∧ w = w' := by
  by_cases ha : isEl a
  · by_cases hb : isEl b
    · have HP := Lib.hid (ml_t ha hb)
      have ea := el_t ha
      have eb := el_t hb
      have a1 := ha.lo
      have a2 := ha.hi
      have b1 := hb.lo
      have b2 := hb.hi
      have m0 : 0 ≤ a * b := Int.mul_nonneg (by omega) (by omega)
      have m1 : a * b ≤ 2038 * 2038 := Int.mul_le_mul (by omega) (by omega) (by omega) (by omega)
      clear ha hb
      go_enter Try.func42, Try.ntmps42
      go_wp2_with fail
      (with_reducible refine (specEl a _).mono ?_); rintro e w1 ⟨rfl, rfl⟩
      go_wp2_with fail
      (with_reducible refine (specEl b _).mono ?_); rintro e w1 ⟨rfl, rfl⟩
      go_wp2
      go_ret
      exact ⟨by rw [HP.out]; rfl, rfl⟩
    · have HP := Lib.hid (ml_f (a := a) (b := b) (fun h => hb h.2))
      have ea := el_t ha
      have eb := el_f hb
      clear ha hb
      go_enter Try.func42, Try.ntmps42
      go_wp2_with fail
      (with_reducible refine (specEl a _).mono ?_); rintro e w1 ⟨rfl, rfl⟩
      go_wp2_with fail
      (with_reducible refine (specEl b _).mono ?_); rintro e w1 ⟨rfl, rfl⟩
      go_wp2
      go_ret
      exact ⟨by rw [HP.out]; rfl, rfl⟩
  · have HP := Lib.hid (ml_f (a := a) (b := b) (fun h => ha h.1))
    have ea := el_f ha
    clear ha
    go_enter Try.func42, Try.ntmps42
    go_wp2_with fail
    (with_reducible refine (specEl a _).mono ?_); rintro e w1 ⟨rfl, rfl⟩
    go_wp2
    go_ret
    exact ⟨by rw [HP.out]; rfl, rfl⟩
theorem specMulB (a b : Int) (w : World) : Calls Try.prog 42 #[.int .i64 a, .int .i64 b] w (Gives (.int .i64 (ml a b)) w) :=
  (specMul a b w).mono fun _ _ ⟨he, hw⟩ => ⟨he, hw ▸ Below.refl _ _⟩
end Go.Proofs.Ytlndcfpcgcdmgaa.C4b
