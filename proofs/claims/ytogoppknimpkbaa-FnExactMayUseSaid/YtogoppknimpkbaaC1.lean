/-
  Contracts of chapter 1's arithmetic (Min, Max, CeilDiv, Mod, InRange), of the program and of the model: what each call returns at every argument, the world left as it was or with new blocks only.
-/
import Derived.Test.YtogoppknimpkbaaChecked
import Derived.Test.YtogoppknimpkbaaM1
import Derived.WalkKit
import Derived.ProofKit
import Derived.OpenShut
import Derived.Lib.Hide
import Derived.Below
namespace Go.Proofs.Ytogoppknimpkbaa.C1
open Go.ChangeShapes Go.WideShapes Go.ChangeAt Go.RowKit
set_option linter.unusedVariables false

theorem specIn_t (n a b : Int) (w : World) (h1 : a ≤ n) (h2 : n ≤ b) :
    Calls Try.prog 42 #[.int .i64 n, .int .i64 a, .int .i64 b] w fun e w' => e = .returned (.bool true) ∧ w = w' := by
  go_enter Try.func42, Try.ntmps42
  go_wp2
  go_ret
  exact ⟨rfl, rfl⟩
theorem specIn_f (n a b : Int) (w : World) (h : n < a ∨ b < n) :
    Calls Try.prog 42 #[.int .i64 n, .int .i64 a, .int .i64 b] w fun e w' => e = .returned (.bool false) ∧ w = w' := by
  by_cases h1 : a ≤ n
  · have h2 : ¬ n ≤ b := by omega
    have h3 : decide (n ≤ b) = false := by simpa using h2
    clear h
    go_enter Try.func42, Try.ntmps42
    go_wp2
    go_ret
    exact ⟨rfl, rfl⟩
  · have h3 : decide (a ≤ n) = false := by simpa using h1
    clear h
    go_enter Try.func42, Try.ntmps42
    go_wp2
    go_ret
    exact ⟨rfl, rfl⟩
theorem implIn_t (n a b : Int) (w : World) (h1 : a ≤ n) (h2 : n ≤ b) :
    Calls Try.prog 59 #[.int .i64 n, .int .i64 a, .int .i64 b] w fun e w' => e = .returned (.bool true) ∧ w = w' := by
  go_enter Try.func59, Try.ntmps59
  go_wp2
  go_ret
  exact ⟨rfl, rfl⟩
theorem implIn_f (n a b : Int) (w : World) (h : n < a ∨ b < n) :
    Calls Try.prog 59 #[.int .i64 n, .int .i64 a, .int .i64 b] w fun e w' => e = .returned (.bool false) ∧ w = w' := by
  by_cases h1 : a ≤ n
  · have h2 : ¬ n ≤ b := by omega
    have h3 : decide (n ≤ b) = false := by simpa using h2
    clear h
    go_enter Try.func59, Try.ntmps59
    go_wp2
    go_ret
    exact ⟨rfl, rfl⟩
  · have h3 : decide (a ≤ n) = false := by simpa using h1
    clear h
    go_enter Try.func59, Try.ntmps59
    go_wp2
    go_ret
    exact ⟨rfl, rfl⟩
theorem specMax (a b : Int) (w : World) :
    Calls Try.prog 82 #[.int .i64 a, .int .i64 b] w fun e w' => e = .returned (.int .i64 (if b > a then b else a)) ∧ w = w' := by
  by_cases h : b > a
  · rw [if_pos h]
    go_enter Try.func82, Try.ntmps82
    go_wp2
    go_ret
    exact ⟨rfl, rfl⟩
  · rw [if_neg h]
    go_enter Try.func82, Try.ntmps82
    go_wp2
    go_ret
    exact ⟨rfl, rfl⟩
def pick (l : Bool) (a b : Int) : Int := if decide (a < b) = l then b else a
theorem pick_y (l : Bool) (a b : Int) (h : (decide (a < b) == l) = true) : pick l a b = b := by
  unfold pick; rw [if_pos (by simpa using h)]
theorem pick_n (l : Bool) (a b : Int) (h : (decide (a < b) == l) = false) : pick l a b = a := by
  unfold pick; rw [if_neg (by simpa using h)]
def best (l : Bool) (a b : Int) (k : Nat) : Int := if k = 0 then a else pick l a b
theorem extr (l : Bool) (a b : Int) (B : Nat) (w : World) (h0 : w.cell? ⟨B, 0, none⟩ = some (.int .i64 b)) :
    Calls Try.prog 96 #[.bool l, .int .i64 a, .slice (some ⟨B, 0, none⟩) 1 1] w fun e w' => e = .returned (.int .i64 (pick l a b)) ∧ w = w' := by
  by_cases hb : (decide (a < b) == l) = true
  · have hp := Lib.hid (pick_y l a b hb)
    go_enter Try.func96, Try.ntmps96
    go_wp2
    go_loop [7, 13] (fun v i => ∃ k : Nat, k ≤ 1 ∧ i = .int .i64 k ∧ v = .int .i64 (best l a b k)) (fun _ i => 1 - (intOf i).toNat)
    case atStart => exact ⟨0, by omega, rfl, rfl⟩
    case round =>
      obtain ⟨k, hk, rfl, rfl⟩ := hrel
      by_cases hlt : k < 1
      · obtain rfl : k = 0 := by omega
        simp only [best, if_pos]
        go_wp2
        go_round
        case rel => exact ⟨1, by omega, rfl, by simp [hp.out]⟩
        case measure => simp [intOf]
      · obtain rfl : k = 1 := by omega
        simp only [best, if_neg Nat.one_ne_zero]
        go_wp2
        go_ret
        exact ⟨rfl, rfl⟩
  · have hb' : (decide (a < b) == l) = false := by simpa using hb
    have hp := Lib.hid (pick_n l a b hb')
    clear hb
    go_enter Try.func96, Try.ntmps96
    go_wp2
    go_loop [7, 13] (fun v i => ∃ k : Nat, k ≤ 1 ∧ i = .int .i64 k ∧ v = .int .i64 (best l a b k)) (fun _ i => 1 - (intOf i).toNat)
    case atStart => exact ⟨0, by omega, rfl, rfl⟩
    case round =>
      obtain ⟨k, hk, rfl, rfl⟩ := hrel
      by_cases hlt : k < 1
      · obtain rfl : k = 0 := by omega
        simp only [best, if_pos]
        go_wp2
        go_round
        case rel => exact ⟨1, by omega, rfl, by simp [hp.out]⟩
        case measure => simp [intOf]
      · obtain rfl : k = 1 := by omega
        simp only [best, if_neg Nat.one_ne_zero]
        go_wp2
        go_ret
        exact ⟨rfl, rfl⟩
theorem implMax (a b : Int) (w : World) :
    Calls Try.prog 91 #[.int .i64 a, .int .i64 b] w fun e w' => e = .returned (.int .i64 (if b > a then b else a)) ∧ Grown w w' := by
  have hv : pick true a b = if b > a then b else a := by unfold pick; by_cases h : a < b <;> simp [h] <;> omega
  rw [← hv]
  clear hv
  go_enter Try.func91, Try.ntmps91
  go_wp2_with (go_at_call 96; refine (extr _ a b w.heap.size (w.alloc (.cells #[.int .i64 b] 3)) (by go_simp)).mono ?_; rintro e w' ⟨rfl, rfl⟩)
  go_ret
  exact ⟨rfl, by repeat (first | exact Grown.refl _ | apply Grown.drew | apply Grown.alloc)⟩
/-- As implMax, the world left with new memory only. -/
theorem implMaxB (a b : Int) (w : World) :
    Calls Try.prog 91 #[.int .i64 a, .int .i64 b] w fun e w' => e = .returned (.int .i64 (if b>a then b else a)) ∧ Below w.heap.size w w' := by
  have hv : pick true a b = if b>a then b else a := by unfold pick; by_cases h : a < b <;> simp [h] <;> omega
  rw [← hv]
  clear hv
  go_enter Try.func91, Try.ntmps91
  go_wp2_with (go_at_call 96; refine (extr _ a b w.heap.size (w.alloc (.cells #[.int .i64 b] 3)) (by go_simp)).mono ?_; rintro e w' ⟨rfl, rfl⟩)
  go_ret
  exact ⟨rfl, (Below.refl _ _).alloc (Nat.le_refl _) _⟩
theorem specMod_in (p q : Int) (w : World) (hp : -9223372036854775808 ≤ p) (hp' : p ≤ 9223372036854775807) (hq : 1 ≤ q) (hq' : q ≤ 1000000000000) :
    Calls Try.prog 95 #[.int .i64 p, .int .i64 q] w fun e w' => e = .returned (.int .i64 (p % q)) ∧ w = w' := by
  go_enter Try.func95, Try.ntmps95
  go_wp2_with (go_at_call 42; refine (specIn_t _ _ _ _ (by omega) (by omega)).mono ?_; rintro e w' ⟨rfl, rfl⟩)
  go_ret
  exact ⟨M1.ret_int (M1.spec_mod p q hq hq'), rfl⟩
theorem specMod_out (p q : Int) (w : World) (h : q < 1 ∨ 1000000000000 < q) :
    Calls Try.prog 95 #[.int .i64 p, .int .i64 q] w fun e w' => e = .returned (.int .i64 0) ∧ w = w' := by
  go_enter Try.func95, Try.ntmps95
  go_wp2_with (go_at_call 42; refine (specIn_f _ _ _ _ (by omega)).mono ?_; rintro e w' ⟨rfl, rfl⟩)
  go_ret
  exact ⟨rfl, rfl⟩
theorem implMod_in (p q : Int) (w : World) (hp : -9223372036854775808 ≤ p) (hp' : p ≤ 9223372036854775807) (hq : 1 ≤ q) (hq' : q ≤ 1000000000000) :
    Calls Try.prog 97 #[.int .i64 p, .int .i64 q] w fun e w' => e = .returned (.int .i64 (p % q)) ∧ w = w' := by
  go_enter Try.func97, Try.ntmps97
  go_wp2_with (go_at_call 59; refine (implIn_t _ _ _ _ (by omega) (by omega)).mono ?_; rintro e w' ⟨rfl, rfl⟩)
  all_goals go_ret
  · exact ⟨M1.ret_int (by rw [M1.wrap_add p q hq hq', M1.tmod_neg p q hq (by assumption)]), rfl⟩
  · exact ⟨M1.ret_int (M1.tmod_pos p q hq (by assumption)), rfl⟩
theorem implMod_out (p q : Int) (w : World) (h : q < 1 ∨ 1000000000000 < q) :
    Calls Try.prog 97 #[.int .i64 p, .int .i64 q] w fun e w' => e = .returned (.int .i64 0) ∧ w = w' := by
  go_enter Try.func97, Try.ntmps97
  go_wp2_with (go_at_call 59; refine (implIn_f _ _ _ _ (by omega)).mono ?_; rintro e w' ⟨rfl, rfl⟩)
  go_ret
  exact ⟨rfl, rfl⟩
end Go.Proofs.Ytogoppknimpkbaa.C1
