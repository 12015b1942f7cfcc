import Derived.Test.YtialhhdhpjjkaaaGreatDoorChecked
import Derived.Test.YtialhhdhpjjkaaaGreatDoorBa
import Derived.WalkKit
import Derived.ProofKit
import Derived.OpenShut
import Derived.Below
import Derived.Lib.Hide
import Derived.Lib.ItoaNum
import Derived.Lib.ItoaLen
import Derived.Laws.IdiomStrings
import Derived.Lib.Strings
import Derived.Lib.AtoiTie
import Derived.Test.YtialhhdhpjjkaaaGreatDoorLa
import Derived.Test.YtialhhdhpjjkaaaGreatDoorShelf
/-
  Contracts of FormatInt: the model's loop over digits writes the decimal numeral.
-/
namespace Go.Proofs.YtialhhdhpjjkaaaGreatDoor.C1F
open Go.ChangeShapes Go.WideShapes Go.ChangeAt Go.RowKit
set_option linter.unusedVariables false
set_option maxRecDepth 100000

def dig (m : Nat) : UInt8 := UInt8.ofNat (48 + m % 10)
theorem dig_toNat (m : Nat) : 48 + (m : Int) % 10 = (dig m).toNat := by
  unfold dig; simp; omega
def high (m : Nat) : List UInt8 := if m = 0 then [] else Lib.decDigits m
theorem high_step (m : Nat) (h : m ≠ 0) : high m = high (m / 10) ++ [dig m] := by
  unfold high dig
  rw [if_neg h, Lib.decDigits]
  by_cases h10 : m < 10
  · rw [dif_pos h10, if_pos (by omega), Nat.mod_eq_of_lt h10]; rfl
  · rw [dif_neg h10, if_neg (by omega)]
theorem high_pos (m : Nat) (h : 0 < m) : high m = Lib.decDigits m := by unfold high; rw [if_neg (by omega)]
theorem append_mk (d : UInt8) (l : List UInt8) : (ByteArray.mk #[d]) ++ (ByteArray.mk l.toArray) = ByteArray.mk (d :: l).toArray := by
  ext1; simp
theorem ret_str {a b : List UInt8} (h : a = b) : Ending.returned (.string ⟨a.toArray⟩) = .returned (.string ⟨b.toArray⟩) := by rw [h]
theorem ret_bytes {a b : ByteArray} (h : a = b) : Ending.returned (.string a) = .returned (.string b) := by rw [h]
theorem dec_len (n : Nat) (h : (n : Int) ≤ 9223372036854775808) : (Lib.decDigits n).length ≤ 20 := by
  rw [Lib.decDigits_length]; exact Lib.nDigits_le20 n (by omega)

theorem oneByte (w : World) (x : Int) (d : UInt8) (hx : x = d.toNat) :
    (convert 42 9 (.slice (some ⟨w.heap.size, 0, none⟩) 1 1)).run Tryz.prog (w.alloc (.cells #[.int .u8 x] 5)) = .ok (.string ⟨#[d]⟩) (w.alloc (.cells #[.int .u8 x] 5)) := by
  refine run_convert_bytes_back (P := Tryz.prog) (w.alloc (.cells #[.int .u8 x] 5)) 42 9 5 ⟨w.heap.size, 0, none⟩ 1 [d] Tryz.underlying42 Tryz.underlying5 Tryz.underlying9 ?_
  intro j hj
  obtain rfl : j = 0 := by simpa using hj
  subst hx
  simp only [Addr.add]
  go_simp
def Num (n : Nat) (w : World) (m : Nat) (l : List UInt8) (wr : World) : Prop := m ≤ n ∧ high m ++ l = Lib.decDigits n ∧ Below w.heap.size w wr
theorem Num.step {n m : Nat} {w wr : World} {l : List UInt8} (h : Num n w m l wr) (hm : m ≠ 0) (o : Obj) : Num n w (m / 10) (dig m :: l) (wr.alloc o) := by
  obtain ⟨h1, h2, h3⟩ := h
  refine ⟨by omega, ?_, h3.alloc h3.size o⟩
  rw [← h2, high_step m hm]; simp
theorem Num.len {n m : Nat} {w wr : World} {l : List UInt8} (h : Num n w m l wr) (hn : (n : Int) ≤ 9223372036854775808) : l.length ≤ 20 := by
  have := dec_len n hn
  rw [← h.2.1] at this
  simp at this; omega
set_option maxHeartbeats 400000 in
theorem specPos (n : Nat) (w : World) (h0 : 0 < n) (h1 : (n : Int) ≤ 9223372036854775807) :
    Calls Tryz.prog 107 #[.int .i64 n] w fun e w' => e = .returned (.string ⟨(Lib.decDigits n).toArray⟩) ∧ Below w.heap.size w w' := by
  have hz : ((n : Int) == 0) = false := by simp; omega
  have hz2 : decide ((n : Int) < 0) = false := by simp
  go_enter Tryz.func107, Tryz.ntmps107
  go_wp2
  go_loopw [3, 4] (fun s x wr => ∃ (m : Nat) (l : List UInt8), x = .int .i64 m ∧ s = .string ⟨l.toArray⟩ ∧ Num n w m l wr) (fun _ x _ => (intOf x).toNat)
  case atStart => exact ⟨n, [], rfl, rfl, by omega, by rw [high_pos n h0]; simp, Below.refl _ _⟩
  case round =>
    obtain ⟨m, l, rfl, rfl, HL⟩ := hrel
    have hll := HL.len (by omega)
    have hmn : m ≤ n := HL.1
    by_cases hlt : m = 0
    · subst hlt
      have H2 := Lib.hid (p := l = Lib.decDigits n) (by have := HL.2.1; simpa [high] using this)
      go_wp2
      go_ret
      exact ⟨ret_str H2.out, HL.2.2⟩
    · have hm0 : ((m : Int) == 0) = false := by simp; omega
      have hm1 : 0 < (m : Int) := by omega
      have hc := oneByte wr (48 + (m : Int) % 10) (dig m) (dig_toNat m)
      go_wp2
      go_roundw
      case rel => exact ⟨m / 10, dig m :: l, by go_num, by rw [append_mk], HL.step hlt _⟩
      case measure => simp [intOf]; omega
theorem ntmod (m : Nat) : (-(m : Int)).tmod 10 = -((m : Int) % 10) := by rw [Int.neg_tmod, Int.tmod_eq_emod_of_nonneg (by omega)]
theorem ntdiv (m : Nat) : (-(m : Int)).tdiv 10 = -((m / 10 : Nat) : Int) := by rw [Int.neg_tdiv, Int.tdiv_eq_ediv_of_nonneg (by omega)]; rfl
theorem cons_minus (l : List UInt8) : (ByteArray.mk #[45]) ++ (ByteArray.mk l.toArray) = ByteArray.mk (45 :: l).toArray := append_mk 45 l
set_option maxHeartbeats 400000 in
theorem specNeg (n : Nat) (w : World) (h0 : 0 < n) (h1 : (n : Int) ≤ 9223372036854775808) :
    Calls Tryz.prog 107 #[.int .i64 (-(n : Int))] w fun e w' => e = .returned (.string ⟨(45 :: Lib.decDigits n).toArray⟩) ∧ Below w.heap.size w w' := by
  have hz : (-(n : Int) == 0) = false := by simp; omega
  have hz2 : decide (-(n : Int) < 0) = true := by simp; omega
  go_enter Tryz.func107, Tryz.ntmps107
  go_wp2
  go_loopw [3, 4] (fun s x wr => ∃ (m : Nat) (l : List UInt8), x = .int .i64 (-(m : Int)) ∧ s = .string ⟨l.toArray⟩ ∧ Num n w m l wr) (fun _ x _ => (-(intOf x)).toNat)
  case atStart => exact ⟨n, [], rfl, rfl, by omega, by rw [high_pos n h0]; simp, Below.refl _ _⟩
  case round =>
    obtain ⟨m, l, rfl, rfl, HL⟩ := hrel
    have hll := HL.len (by omega)
    have hmn : m ≤ n := HL.1
    by_cases hlt : m = 0
    · subst hlt
      have H2 := Lib.hid (p := l = Lib.decDigits n) (by have := HL.2.1; simpa [high] using this)
      go_wp2
      go_ret
      exact ⟨by rw [← H2.out]; exact ret_bytes (cons_minus l), HL.2.2⟩
    · have hm0 : (-(m : Int) == 0) = false := by simp; omega
      have hm1 : 0 < (m : Int) := by omega
      have e1 := ntmod m
      have e2 := ntdiv m
      by_cases hd : 0 < (m : Int) % 10
      · have hc := oneByte wr (48 + (m : Int) % 10) (dig m) (dig_toNat m)
        go_wp2
        go_roundw
        case rel => exact ⟨m / 10, dig m :: l, rfl, by rw [append_mk], HL.step hlt _⟩
        case measure => simp [intOf]; omega
      · have hc := oneByte wr 48 (dig m) (by rw [← dig_toNat m]; omega)
        have hd2 : -((m : Int) % 10) = 0 := by omega
        rw [hd2] at e1
        clear hd hd2
        go_wp2
        go_roundw
        case rel => exact ⟨m / 10, dig m :: l, rfl, by rw [append_mk], HL.step hlt _⟩
        case measure => simp [intOf]; omega
theorem spec0 (w : World) :
    Calls Tryz.prog 107 #[.int .i64 0] w fun e w' => e = .returned (.string ⟨#[48]⟩) ∧ Below w.heap.size w w' := by
  go_enter Tryz.func107, Tryz.ntmps107
  go_wp2
  go_ret
  exact ⟨rfl, Below.refl _ _⟩
theorem specFmt (n : Int) (w : World) (h0 : -9223372036854775808 ≤ n) (h1 : n ≤ 9223372036854775807) :
    Calls Tryz.prog 107 #[.int .i64 n] w fun e w' => e = .returned (.string ⟨(Lib.itoa n).toArray⟩) ∧ Below w.heap.size w w' := by
  unfold Lib.itoa
  by_cases hn : n < 0
  · rw [if_pos hn]
    have e : n = -((n.natAbs : Nat) : Int) := by omega
    have h := specNeg n.natAbs w (by omega) (by omega)
    rw [← e] at h
    exact h
  · rw [if_neg hn]
    by_cases hz : n = 0
    · subst hz
      have e : Lib.decDigits (Int.toNat 0) = [48] := by rw [Lib.decDigits]; rfl
      rw [e]
      exact spec0 w
    · have e : n = ((n.toNat : Nat) : Int) := by omega
      have h := specPos n.toNat w (by omega) (by omega)
      rw [← e] at h
      exact h
theorem below_grow {w : World} (k : Nat) (os : Array Obj) : Below w.heap.size w (Sort.grow (w.drewN k) os) :=
  ⟨rfl, rfl, rfl, by simp, fun j hj => Sort.heap_grow_old (w.drewN k) os hj⟩
theorem itoaAt (n : Int) (w : World) (h0 : -9223372036854775808 ≤ n) (h1 : n ≤ 9223372036854775807) (ht : La.Pow w) :
    Calls Tryz.prog 106 #[.int .i64 n] w fun e w' => e = .returned (.string ⟨(Lib.itoa n).toArray⟩) ∧ Below w.heap.size w w' :=
  (Tryz.strconv_Itoa n h0 h1 w ht).mono fun _ _ ⟨he, k, os, hw⟩ => ⟨he, by rw [hw]; exact below_grow k os⟩
theorem implFmt (n : Int) (w : World) (h0 : -9223372036854775808 ≤ n) (h1 : n ≤ 9223372036854775807) (ht : La.Pow w) :
    Calls Tryz.prog 67 #[.int .i64 n] w fun e w' => e = .returned (.string ⟨(Lib.itoa n).toArray⟩) ∧ Below w.heap.size w w' := by
  go_enter Tryz.func67, Tryz.ntmps67
  go_wp2_with (go_at_call 106; (with_reducible refine (itoaAt _ _ h0 h1 ht).mono ?_); rintro e w' ⟨rfl, hb⟩)
  go_ret
  exact ⟨rfl, hb⟩
end Go.Proofs.YtialhhdhpjjkaaaGreatDoor.C1F
