/-
  Contracts of chapter 1's draws: whatever the code, a number that an int holds, or a short string.
-/
import Derived.Test.YtakfcjemlplljaaDoorC0
import Derived.Test.YtakfcjemlplljaaDoorC1F
namespace Go.Proofs.YtakfcjemlplljaaDoor.D1
open Go.ChangeShapes Go.WideShapes Go.ChangeAt Go.RowKit
open C0
set_option linter.unusedVariables false
def IntEnd (w : World) (e : Ending) (w' : World) : Prop := ∃ x : Int, e = .returned (.int .i64 x) ∧ isI64 x ∧ Below w.heap.size w w'
def Int2End (w : World) (e : Ending) (w' : World) : Prop := ∃ x y : Int, e = .returned (.tuple #[.int .i64 x, .int .i64 y]) ∧ isI64 x ∧ isI64 y ∧ Below w.heap.size w w'
def StrEnd (w : World) (e : Ending) (w' : World) : Prop := ∃ s : ByteArray, e = .returned (.string s) ∧ s.size ≤ 20 ∧ Below w.heap.size w w'
theorem formatInt (w : World) (H0 : Nat) (v : Value) (hc : C0.Code w H0 v) (h0 : H0 ≤ w.heap.size) : Calls Tryd.prog 9 #[v] w (IntEnd w) := by
  go_enter Tryd.func9, Tryd.ntmps9
  go_wp2_with fail
  (with_reducible refine (new_any _ H0 v hc h0).mono ?_); rintro e w1 ⟨rfl, hC1, hg1⟩
  go_wp2_with fail
  (with_reducible refine (one_any _ _ H0 hC1).mono ?_); rintro e w2 ⟨x, rfl, hx, hC2, hg2⟩
  go_wp2
  go_ret
  exact ⟨x, rfl, hx, made_below hg1 hg2⟩
theorem ceilDiv (w : World) (H0 : Nat) (v : Value) (hc : C0.Code w H0 v) (h0 : H0 ≤ w.heap.size) : Calls Tryd.prog 11 #[v] w (Int2End w) := by
  go_enter Tryd.func11, Tryd.ntmps11
  go_wp2_with fail
  (with_reducible refine (new_any _ H0 v hc h0).mono ?_); rintro e w1 ⟨rfl, hC1, hg1⟩
  go_wp2_with fail
  (with_reducible refine (one_any _ _ H0 hC1).mono ?_); rintro e w2 ⟨x, rfl, hx, hC2, hg2⟩
  go_wp2_with fail
  (with_reducible refine (one_any _ _ H0 hC2).mono ?_); rintro e w3 ⟨y, rfl, hy, hC3, hg3⟩
  go_wp2
  go_ret2
  exact ⟨x, y, rfl, hx, hy, made_below hg1 (grown_trans hg2 hg3)⟩
theorem str_len {n : Nat} (hn : (n : Int) ≤ 9223372036854775808) : (ByteArray.mk (Lib.decDigits n).toArray).size ≤ 20 := by
  have := C1F.dec_len n hn
  simpa [ByteArray.size] using this
set_option maxHeartbeats 800000 in
theorem parseInt (w : World) (H0 : Nat) (v : Value) (hc : C0.Code w H0 v) (h0 : H0 ≤ w.heap.size) : Calls Tryd.prog 7 #[v] w (StrEnd w) := by
  go_enter Tryd.func7, Tryd.ntmps7
  go_wp2_with fail
  (with_reducible refine (new_any _ H0 v hc h0).mono ?_); rintro e w1 ⟨rfl, hC1, hg1⟩
  go_wp2_with fail
  (with_reducible refine (once_any _ _ H0 2 hC1).mono ?_); rintro e w2 ⟨b, rfl, hC2, hg2⟩
  cases b
  · go_wp2_with fail
    (with_reducible refine (num_any _ _ H0 hC2).mono ?_); rintro e w3 ⟨x, rfl, hx, hC3, hg3⟩
    obtain ⟨n, rfl⟩ : ∃ n : Nat, x = n := ⟨x.toNat, by have := hx.1; omega⟩
    have hn : (n : Int) ≤ 1000000000000 := hx.2
    go_wp2_with fail
    (with_reducible refine (C1F.specFmt (n : Int) _ (by omega) (by omega)).mono ?_); rintro e w4 ⟨rfl, hb4⟩
    go_wp2
    go_ret
    have e1 : Lib.itoa (n : Int) = Lib.decDigits n := by unfold Lib.itoa; rw [if_neg (by omega)]; rfl
    refine ⟨_, rfl, ?_, ?_⟩
    · rw [e1]; exact str_len (by omega)
    · have hb := made_below hg1 (grown_trans hg2 hg3)
      exact hb.trans (hb4.mono hb.size)
  · have HL := Lib.hid (str_lit [⟨#[]⟩, ⟨#[48]⟩, ⟨#[48, 48]⟩, ⟨#[45, 49]⟩, ⟨#[48, 49]⟩, ⟨#[55]⟩, ⟨#[49, 48, 48, 48, 48, 48, 48, 48, 48, 48, 48, 48, 48]⟩, ⟨#[49, 48, 48, 48, 48, 48, 48, 48, 48, 48, 48, 48, 49]⟩, ⟨#[57, 57, 57, 57, 57, 57, 57, 57, 57, 57, 57, 57, 57, 57]⟩, ⟨#[49, 120]⟩, ⟨#[32, 49]⟩] 11 20 rfl w2 w.heap.size H0 9 hC2 (by decide) (by decide) (by decide))
    go_wp2_with fail
    refine HL.out.mono ?_; rintro e w3 ⟨x, rfl, hx, hC3, hg3⟩
    go_wp2
    go_ret
    exact ⟨x, rfl, hx, made_below hg1 (grown_trans hg2 hg3)⟩
end Go.Proofs.YtakfcjemlplljaaDoor.D1
