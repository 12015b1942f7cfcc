/-
  Contracts of chapter 2's functions, more: AppendBytes, EncodeInts.
-/
import Derived.Test.YtpeagjpcdoegoabC2
namespace Go.Proofs.Ytpeagjpcdoegoab.C2b
open Go.ChangeShapes Go.WideShapes Go.ChangeAt Go.RowKit
open S0 S1 M2 C2
set_option linter.unusedVariables false

theorem implBytes (w : World) (A B : Option Addr) (n c m d : Nat) (xs ys : List Int) (hr : Rd w w.heap.size 1 A n (ints .u8 xs)) (hs : Rd w w.heap.size 1 B m (ints .u8 ys)) (hn : n ≤ 16777216) (hm : m ≤ 16777216) :
    Calls Try.prog 16 #[.slice A n c, .slice B m d] w (MadeS 5 1 (n + (enc m).length + m) (ints .u8 (xs ++ enc m ++ ys)) w) := by
  have hel := enc_len m
  have HS := Lib.hid hs
  clear hs
  go_enter Try.func16, Try.ntmps16
  go_wp2_with fail
  (with_reducible refine (implAppend _ _ _ _ xs (m : Int) hr (by omega)).mono ?_); rintro e w1 ⟨A1, c1, rfl, ho1, hb1⟩
  go_wp2_with (at_builtin; refine appB _ rfl _ _ rfl w.heap.size _ _ _ rfl ho1 _ B m d _ rfl (HS.out.on hb1) (ints_one _ _) (by omega) hb1.size ?_; intro v2 w2 ho2 hg2)
  go_ret
  obtain ⟨A', c', rfl⟩ := own_nil_form ho2
  rw [ints_app] at ho2
  exact ⟨A', c', rfl, ho2, hb1.grown hg2 hb1.size (own_lt ho1)⟩
theorem specBytes (w : World) (A B : Option Addr) (n c m d : Nat) (xs ys : List Int) (hr : Rd w w.heap.size 1 A n (ints .u8 xs)) (hs : Rd w w.heap.size 1 B m (ints .u8 ys)) (hn : n ≤ 16777216) (hm : m ≤ 16777216) :
    Calls Try.prog 27 #[.slice A n c, .slice B m d] w (MadeS 5 1 (n + (enc m).length + m) (ints .u8 (xs ++ enc m ++ ys)) w) := by
  have hel := enc_len m
  have HS := Lib.hid hs
  clear hs
  go_enter Try.func27, Try.ntmps27
  go_wp2_with fail
  (with_reducible refine (specAppend _ _ _ _ xs (m : Int) hr (by omega)).mono ?_); rintro e w1 ⟨A1, c1, rfl, ho1, hb1⟩
  go_wp2_with (at_builtin; refine appB _ rfl _ _ rfl w.heap.size _ _ _ rfl ho1 _ B m d _ rfl (HS.out.on hb1) (ints_one _ _) (by omega) hb1.size ?_; intro v2 w2 ho2 hg2)
  go_ret
  obtain ⟨A', c', rfl⟩ := own_nil_form ho2
  rw [ints_app] at ho2
  exact ⟨A', c', rfl, ho2, hb1.grown hg2 hb1.size (own_lt ho1)⟩
theorem encs_len (l : List Int) : (encs l).length ≤ 6 * l.length := by
  induction l with
  | nil => simp [encs]
  | cons x l ih => have := enc_len x; simp [encs] at ih ⊢; omega
theorem encs_take (l : List Int) (k : Nat) (h : k < l.length) : encs (l.take (k + 1)) = encs (l.take k) ++ enc (l.getD k 0) := by
  unfold encs
  rw [List.take_succ_eq_append_getElem h, List.flatMap_append]
  simp [List.getElem?_eq_getElem h]
theorem encs_take_len (l : List Int) (k n : Nat) (h : l.length = n) : (encs (l.take k)).length ≤ 6 * n := by
  have h1 := encs_len (l.take k)
  have h2 : (l.take k).length ≤ l.length := by simp; omega
  omega
/-- Behind k numbers. -/
def Enc (w : World) (l : List Int) (k : Nat) (v : Value) (wr : World) : Prop :=
  wr.ownsRow w.heap.size 5 1 v (encs (l.take k)).length (ints .u8 (encs (l.take k))) ∧ Below w.heap.size w wr
set_option maxHeartbeats 800000 in
set_option maxRecDepth 100000 in
theorem implEncode (w : World) (A : Option Addr) (n c : Nat) (l : List Int) (hr : Rd w w.heap.size 1 A n (ints .i64 l)) (hn : n ≤ 16777216) :
    Calls Try.prog 19 #[.slice A n c] w (MadeS 5 1 (encs l).length (ints .u8 (encs l)) w) := by
  have hl : l.length = n := by have := hr.len1; rw [ints_len] at this; exact this
  have HR := Lib.hid hr
  have HL := Lib.hid hl
  have HE : Enc w l 0 (.slice (some ⟨w.heap.size, 0, none⟩) 0 0) (w.alloc (.cells #[] 5)) := ⟨by simpa [encs, ints] using own_lit w #[] 0 _ 5 (Nat.le_refl _) rfl (Nat.zero_le _), (Below.refl _ _).alloc (Nat.le_refl _) _⟩
  clear hr hl
  go_enter Try.func19, Try.ntmps19
  go_wp2
  go_loopw [3, 9] (fun v i wr => ∃ k : Nat, k ≤ n ∧ i = .int .i64 k ∧ Enc w l k v wr) (fun _ i _ => n - (intOf i).toNat)
  case atStart => exact ⟨0, by omega, rfl, HE⟩
  case round =>
    obtain ⟨k, hk, rfl, hE⟩ := hrel
    obtain ⟨A1, c1, rfl⟩ := own_nil_form hE.1
    by_cases hlt : k < n
    · obtain ⟨b, off, rfl, hb, hcell⟩ := (HR.out.below hE.2).at_ hlt
      have hbd := encs_take_len l k n HL.out
      have hE1 := hE.1
      have hE2 := hE.2.size
      obtain ⟨x, hx⟩ : ∃ x, x = l.getD k 0 := ⟨_, rfl⟩
      rw [← hx] at hcell
      have HX := Lib.hid hx
      clear hx
      go_wp2_with fail
      (with_reducible refine (extend _ w.heap.size _ _ _ _ x hE1 hE2 (by omega)).mono ?_); rintro e w2 ⟨A2, c2, rfl, ho2, hb2⟩
      go_wp2
      go_roundw
      case rel =>
        refine ⟨k + 1, by omega, by go_num, ?_, hE.2.trans hb2⟩
        rw [encs_take l k (by have := HL.out; omega), ← HX.out, List.length_append]
        exact ho2
      case measure => simp [intOf]; omega
    · have hd : decide (k < n) = false := by simp; omega
      have hkn : k = n := by omega
      have HK := Lib.hid hkn
      clear hkn
      go_wp2
      go_ret
      have e : l.take k = l := by rw [HK.out, ← HL.out, List.take_length]
      have hE' := hE
      unfold Enc at hE'
      rw [e] at hE'
      refine ⟨A1, c1, by rw [e]; rfl, hE'.1, hE'.2⟩
end Go.Proofs.Ytpeagjpcdoegoab.C2b
