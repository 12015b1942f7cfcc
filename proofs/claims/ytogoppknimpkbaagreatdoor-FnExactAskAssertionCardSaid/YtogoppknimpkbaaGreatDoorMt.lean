import Derived.Test.YtogoppknimpkbaaGreatDoorBb
import Derived.Test.YtogoppknimpkbaaGreatDoorBa
/-
  The text of a mark: contract of the laws' own markText.
-/
namespace Go.Proofs.YtogoppknimpkbaaGreatDoor.Mt
open Go.ChangeShapes Go.WideShapes Go.ChangeAt Go.RowKit
open S0 S1 S2 Dm
set_option linter.unusedVariables false
theorem digits_zero (f : Nat) : digits f 0 = [] := by cases f <;> simp [digits]
theorem digits_more (f k : Nat) (h : k ≠ 0) : digits (f + 1) k = digits f (k / 10) ++ [UInt8.ofNat (48 + k % 10)] := by simp [digits, h]
/-- Where the loop stands. -/
def Mid (k0 k : Nat) (o : ByteArray) : Prop := ∃ f, k < 10 ^ f ∧ o.size + f ≤ 64 ∧ digits 64 k0 = digits f k ++ o.data.toList
theorem one_size (x : Int) : (strOfNums [x]).size = 1 := rfl
theorem mid_size {k0 k : Nat} {o : ByteArray} (h : Mid k0 k o) : o.size ≤ 64 := by
  obtain ⟨f, _, h3, _⟩ := h
  omega
theorem mid_step {k0 k : Nat} {o : ByteArray} (h : Mid k0 k o) (hk : k ≠ 0) : Mid k0 (k / 10) (strOfNums [48 + (k : Int) % 10] ++ o) := by
  rw [show (48 + (k : Int) % 10) = ((48 + k % 10 : Nat) : Int) by omega]
  obtain ⟨f, h1, h3, h2⟩ := h
  cases f with
  | zero => simp at h1; omega
  | succ f =>
    refine ⟨f, by rw [Nat.pow_succ] at h1; omega, by rw [ByteArray.size_append, one_size]; omega, ?_⟩
    rw [h2, digits_more f k hk]
    have e : (strOfNums [((48 + k % 10 : Nat) : Int)] ++ o).data.toList = [UInt8.ofNat (48 + k % 10)] ++ o.data.toList := by
      rw [ByteArray.data_append, Array.toList_append]
      congr 1
    rw [e]
    simp
theorem mid_done {k0 : Nat} {o : ByteArray} (h : Mid k0 0 o) : o.data.toList = digits 64 k0 := by
  obtain ⟨f, _, _, h2⟩ := h
  rw [digits_zero] at h2
  simpa using h2.symm
set_option maxRecDepth 100000 in
theorem markText (w : World) (k : Int) (hk0 : 0 ≤ k) (hk1 : k ≤ 1099511627776) : Calls Tryz.prog 83 #[.int .i64 k] w (Gives (.string (text k)) w) := by
  by_cases h : k ≤ 0
  · have HT := Lib.hid (show text k = ⟨#[109, 48]⟩ by unfold text; rw [if_pos h])
    go_enter Tryz.func83, Tryz.ntmps83
    go_wp2
    go_ret
    exact ⟨by rw [HT.out]; rfl, Below.refl _ _⟩
  · obtain ⟨n, rfl⟩ : ∃ n : Nat, k = n := ⟨k.toNat, by omega⟩
    have HT := Lib.hid (show text (n : Int) = ⟨(109 :: digits 64 n).toArray⟩ by unfold text; rw [if_neg h]; rfl)
    have HM := Lib.hid (show Mid n n ⟨#[]⟩ from ⟨64, Nat.lt_of_le_of_lt (show n ≤ 1099511627776 by omega) (by decide), by decide, by simp⟩)
    go_enter Tryz.func83, Tryz.ntmps83
    go_wp2
    go_loopw [0, 3] (fun i o wr => ∃ (k : Nat) (s : ByteArray), k ≤ n ∧ i = .int .i64 k ∧ o = .string s ∧ Mid n k s ∧ Below w.heap.size w wr) (fun i _ _ => (intOf i).toNat)
    case atStart => exact ⟨n, _, Nat.le_refl _, rfl, rfl, HM.out, Below.refl _ _⟩
    case round =>
      obtain ⟨k, s, hkn, rfl, rfl, hM, hb⟩ := hrel
      have HS := Lib.hid hM
      have hss := mid_size hM
      clear hM HM
      by_cases hk : k = 0
      · subst hk
        have HD := Lib.hid (show ((⟨#[109]⟩ : ByteArray) ++ s) = text (n : Int) by
          rw [HT.out, ← mid_done HS.out]
          apply ByteArray.ext
          apply Array.ext'
          simp [ByteArray.data_append])
        go_wp2
        go_ret
        exact ⟨by rw [← HD.out]; rfl, hb⟩
      · have HN := Lib.hid (mid_step HS.out hk)
        have hkp : 0 < k := by omega
        have hr : Rd (wr.alloc (.cells #[.int .u8 (48 + (k : Int) % 10)] 5)) (wr.alloc (.cells #[.int .u8 (48 + (k : Int) % 10)] 5)).heap.size 1 (some ⟨wr.heap.size, 0, none⟩) 1 (ints .u8 [48 + (k : Int) % 10]) := rd_one wr (.int .u8 (48 + (k : Int) % 10)) 5
        have hc := conv_rd (c := 1) hr
        have h1s : (strOfNums [48 + (k : Int) % 10]).size ≤ 1 := Nat.le_of_eq (one_size _)
        go_wp2
        go_roundw
        case rel => exact ⟨k / 10, _, by omega, by go_num, rfl, HN.out, hb.alloc hb.size _⟩
        case measure => simp [intOf]; omega
end Go.Proofs.YtogoppknimpkbaaGreatDoor.Mt
