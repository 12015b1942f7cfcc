/-
  Contracts of the laws' own small functions: a byte of the code, whether it is too great.
-/
import Derived.Test.YtpeagjpcdoegoaaSo
import Derived.Test.YtpeagjpcdoegoaaC2
namespace Go.Proofs.Ytpeagjpcdoegoaa.L0
open Go.ChangeShapes Go.WideShapes Go.ChangeAt Go.RowKit
open S0
set_option linter.unusedVariables false
def atv (xs : List Int) (i : Nat) : Int := if i < xs.length then xs.getD i 0 else ((i : Int) * 31 + (xs.length : Int) * 7) % 256
theorem at_is (w : World) (A : Option Addr) (n c : Nat) (xs : List Int) (i : Nat) (x : Int) (hxi : x = i) (hr : Rd w w.heap.size 1 A n (ints .u8 xs)) (hx : ∀ x ∈ xs, 0 ≤ x ∧ x ≤ 255) (hn : n ≤ 1048576) (hi : i ≤ 1048576) :
    Calls Try.prog 14 #[.slice A n c, .int .i64 x] w fun e w' => e = .returned (.int .i64 (atv xs i)) ∧ w = w' := by
  subst hxi
  have hl : xs.length = n := by have := hr.len1; rw [ints_len] at this; exact this
  by_cases h : i < n
  · obtain ⟨b, off, rfl, hb, hcell⟩ := hr.at_ h
    have hv : atv xs i = xs.getD i 0 := by unfold atv; rw [if_pos (by omega)]
    obtain ⟨h0, h1⟩ := C2.u8_get hx i
    obtain ⟨y, hy⟩ : ∃ y, y = xs.getD i 0 := ⟨_, rfl⟩
    rw [hv]
    rw [← hy] at hcell h0 h1 ⊢
    clear hr hl hv hy hx
    go_enter Try.func14, Try.ntmps14
    go_wp2
    go_ret
    exact ⟨rfl, rfl⟩
  · have hv : atv xs i = ((i : Int) * 31 + (n : Int) * 7) % 256 := by unfold atv; rw [if_neg (by omega), hl]
    rw [hv]
    have hd : decide (i < n) = false := by simp; omega
    clear hr hl hv hx
    go_enter Try.func14, Try.ntmps14
    go_wp2
    go_ret
    exact ⟨rfl, rfl⟩
theorem atv_bd (xs : List Int) (i : Nat) (hx : ∀ x ∈ xs, 0 ≤ x ∧ x ≤ 255) : 0 ≤ atv xs i ∧ atv xs i ≤ 255 := by
  unfold atv; split
  · exact C2.u8_get hx i
  · omega
def Byte (w : World) (e : Ending) (w' : World) : Prop := ∃ x : Int, e = .returned (.int .i64 x) ∧ 0 ≤ x ∧ x ≤ 255 ∧ w = w'
theorem at_some (w : World) (A : Option Addr) (n c : Nat) (xs : List Int) (x : Int) (h0 : 0 ≤ x) (h1 : x ≤ 1048576) (hr : Rd w w.heap.size 1 A n (ints .u8 xs)) (hx : ∀ x ∈ xs, 0 ≤ x ∧ x ≤ 255) (hn : n ≤ 1048576) :
    Calls Try.prog 14 #[.slice A n c, .int .i64 x] w (Byte w) :=
  (at_is w A n c xs x.toNat x (by omega) hr hx hn (by omega)).mono fun _ _ ⟨he, hw⟩ => ⟨_, he, (atv_bd xs _ hx).1, (atv_bd xs _ hx).2, hw⟩
end Go.Proofs.Ytpeagjpcdoegoaa.L0
