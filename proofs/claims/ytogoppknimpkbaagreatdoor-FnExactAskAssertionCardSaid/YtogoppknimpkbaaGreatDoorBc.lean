import Derived.Test.YtogoppknimpkbaaGreatDoorBa
import Derived.Test.YtogoppknimpkbaaGreatDoorChecked
import Derived.WalkKit
import Derived.ProofKit
import Derived.OpenShut
import Derived.Below
import Derived.Lib.Hide
import Derived.Lib.ItoaNum
import Derived.Lib.ItoaLen
import Derived.Laws.IdiomStrings
import Derived.Lib.Strings
import Derived.Lib.AtoiTie
import Derived.Test.YtogoppknimpkbaaGreatDoorLa
import Derived.Test.YtogoppknimpkbaaGreatDoorShelf
import Derived.Lib.Atoi
import Derived.Lib.AtoiAll
import Derived.Test.YtogoppknimpkbaaGreatDoorYOrigin
import Derived.BigQuiet
import Derived.Deep.RegionHeld3
import Derived.Deep.RegionLaw
/-
  Hosts, in plain lists of bytes: labels, what is split at dots.
-/
namespace Go.Proofs.YtogoppknimpkbaaGreatDoor.M12
set_option linter.unusedVariables false
/-- A character of a label. -/
def okc (c : UInt8) : Bool := (decide (97 ≤ c.toNat) && decide (c.toNat ≤ 122)) || (decide (48 ≤ c.toNat) && decide (c.toNat ≤ 57)) || c.toNat == 45
def lab (s : List UInt8) : Bool := s.all okc && (decide (1 ≤ s.length) && decide (s.length ≤ 20)) && s.head? != some 45 && s.getLast? != some 45
/-- What stands between the dots. -/
def split : List UInt8 → List (List UInt8)
  | [] => [[]]
  | c :: cs => if c = 46 then [] :: split cs else match split cs with
    | [] => [[c]]
    | x :: xs => (c :: x) :: xs
theorem split_at (cs : List UInt8) : split (46 :: cs) = [] :: split cs := by simp [split]
theorem split_off {c : UInt8} {cs x : List UInt8} {xs : List (List UInt8)} (hc : c ≠ 46) (h : split cs = x :: xs) : split (c :: cs) = (c :: x) :: xs := by simp [split, hc, h]
theorem split_ne (s : List UInt8) : split s ≠ [] := by
  cases s with
  | nil => simp [split]
  | cons c cs =>
    unfold split
    split
    · simp
    · split <;> simp
/-- Characters ahead of what is split. -/
def glue (p : List UInt8) : List (List UInt8) → List (List UInt8)
  | [] => [p]
  | x :: xs => (p ++ x) :: xs
theorem split_glue (p s : List UInt8) (h : ∀ c ∈ p, c ≠ 46) : split (p ++ s) = glue p (split s) := by
  induction p with
  | nil => cases hs : split s with
    | nil => exact absurd hs (split_ne s)
    | cons x xs => simp [glue, hs]
  | cons c p ih =>
    have ih := ih (fun c hc => h c (List.mem_cons_of_mem _ hc))
    have hc := h c (List.mem_cons_self ..)
    cases hs : split s with
    | nil => exact absurd hs (split_ne s)
    | cons x xs =>
      rw [hs] at ih
      exact split_off hc ih
theorem split_dot (p s : List UInt8) (h : ∀ c ∈ p, c ≠ 46) : split (p ++ 46 :: s) = p :: split s := by
  rw [split_glue p _ h, split_at]
  simp [glue]
theorem split_last (p : List UInt8) (h : ∀ c ∈ p, c ≠ 46) : split p = [p] := by
  have := split_glue p [] h
  simpa [split, glue] using this
def host (s : List UInt8) : Bool := (split s).all lab && decide (s.length ≤ 60)
/-- The labels that stand whole in front of position i, and where the current one begins. -/
structure Cut (s : List UInt8) (i f : Nat) (outs : List (List UInt8)) : Prop where
  le : f ≤ i
  il : i ≤ s.length
  eq : split s = outs ++ split (s.drop f)
  no : ∀ c ∈ (s.drop f).take (i - f), c ≠ 46
theorem Cut.start (s : List UInt8) : Cut s 0 0 [] := ⟨Nat.le_refl _, Nat.zero_le _, by simp, by simp⟩
theorem Cut.char {s : List UInt8} {i f : Nat} {outs : List (List UInt8)} (h : Cut s i f outs) (hi : i < s.length) (hc : s[i] ≠ 46) : Cut s (i + 1) f outs := by
  refine ⟨by have := h.le; omega, hi, h.eq, fun c hm => ?_⟩
  have hl := h.le
  have e : (s.drop f).take (i + 1 - f) = (s.drop f).take (i - f) ++ [s[i]] := by
    rw [show i + 1 - f = (i - f) + 1 by omega, List.take_succ_eq_append_getElem (by rw [List.length_drop]; omega)]
    congr 2
    rw [List.getElem_drop]
    congr 1
    omega
  rw [e] at hm
  rcases List.mem_append.1 hm with hm | hm
  · exact h.no c hm
  · obtain rfl : c = s[i] := by simpa using hm
    exact hc
theorem Cut.dot {s : List UInt8} {i f : Nat} {outs : List (List UInt8)} (h : Cut s i f outs) (hi : i < s.length) (hc : s[i] = 46) : Cut s (i + 1) (i + 1) (outs ++ [(s.drop f).take (i - f)]) := by
  refine ⟨Nat.le_refl _, hi, ?_, by simp⟩
  have hl := h.le
  have e : s.drop f = (s.drop f).take (i - f) ++ 46 :: s.drop (i + 1) := by
    have h1 : (s.drop f).drop (i - f) = s[i] :: s.drop (i + 1) := by
      rw [List.drop_drop, show f + (i - f) = i by omega, List.drop_eq_getElem_cons hi]
    rw [hc] at h1
    rw [← h1, List.take_append_drop]
  rw [h.eq, e, split_dot _ _ h.no, List.append_assoc, ← e]
  rfl
theorem Cut.done {s : List UInt8} {f : Nat} {outs : List (List UInt8)} (h : Cut s s.length f outs) : split s = outs ++ [s.drop f] := by
  have hn := h.no
  have e : (s.drop f).take (s.length - f) = s.drop f := by rw [List.take_of_length_le]; simp
  rw [e] at hn
  rw [h.eq, split_last _ hn]
end Go.Proofs.YtogoppknimpkbaaGreatDoor.M12

/-
  Contracts of FormatInt: the model's loop over digits writes the decimal numeral.
-/
namespace Go.Proofs.YtogoppknimpkbaaGreatDoor.C1F
open Go.ChangeShapes Go.WideShapes Go.ChangeAt Go.RowKit
set_option linter.unusedVariables false
set_option maxRecDepth 100000

def dig (m : Nat) : UInt8 := UInt8.ofNat (48 + m % 10)
theorem dig_toNat (m : Nat) : 48 + (m : Int) % 10 = (dig m).toNat := by
  unfold dig; simp; omega
def high (m : Nat) : List UInt8 := if m = 0 then [] else Lib.decDigits m
theorem high_step (m : Nat) (h : m ≠ 0) : high m = high (m / 10) ++ [dig m] := by
  unfold high dig
  rw [if_neg h, Lib.decDigits]
  by_cases h10 : m < 10
  · rw [dif_pos h10, if_pos (by omega), Nat.mod_eq_of_lt h10]; rfl
  · rw [dif_neg h10, if_neg (by omega)]
theorem high_pos (m : Nat) (h : 0 < m) : high m = Lib.decDigits m := by unfold high; rw [if_neg (by omega)]
theorem append_mk (d : UInt8) (l : List UInt8) : (ByteArray.mk #[d]) ++ (ByteArray.mk l.toArray) = ByteArray.mk (d :: l).toArray := by
  ext1; simp
theorem ret_str {a b : List UInt8} (h : a = b) : Ending.returned (.string ⟨a.toArray⟩) = .returned (.string ⟨b.toArray⟩) := by rw [h]
theorem ret_bytes {a b : ByteArray} (h : a = b) : Ending.returned (.string a) = .returned (.string b) := by rw [h]
theorem dec_len (n : Nat) (h : (n : Int) ≤ 9223372036854775808) : (Lib.decDigits n).length ≤ 20 := by
  rw [Lib.decDigits_length]; exact Lib.nDigits_le20 n (by omega)

theorem oneByte (w : World) (x : Int) (d : UInt8) (hx : x = d.toNat) :
    (convert 22 9 (.slice (some ⟨w.heap.size, 0, none⟩) 1 1)).run Tryz.prog (w.alloc (.cells #[.int .u8 x] 5)) = .ok (.string ⟨#[d]⟩) (w.alloc (.cells #[.int .u8 x] 5)) := by
  refine run_convert_bytes_back (P := Tryz.prog) (w.alloc (.cells #[.int .u8 x] 5)) 22 9 5 ⟨w.heap.size, 0, none⟩ 1 [d] Tryz.underlying22 Tryz.underlying5 Tryz.underlying9 ?_
  intro j hj
  obtain rfl : j = 0 := by simpa using hj
  subst hx
  simp only [Addr.add]
  go_simp
def Num (n : Nat) (w : World) (m : Nat) (l : List UInt8) (wr : World) : Prop := m ≤ n ∧ high m ++ l = Lib.decDigits n ∧ Below w.heap.size w wr
theorem Num.step {n m : Nat} {w wr : World} {l : List UInt8} (h : Num n w m l wr) (hm : m ≠ 0) (o : Obj) : Num n w (m / 10) (dig m :: l) (wr.alloc o) := by
  obtain ⟨h1, h2, h3⟩ := h
  refine ⟨by omega, ?_, h3.alloc h3.size o⟩
  rw [← h2, high_step m hm]; simp
theorem Num.len {n m : Nat} {w wr : World} {l : List UInt8} (h : Num n w m l wr) (hn : (n : Int) ≤ 9223372036854775808) : l.length ≤ 20 := by
  have := dec_len n hn
  rw [← h.2.1] at this
  simp at this; omega
set_option maxHeartbeats 400000 in
theorem specPos (n : Nat) (w : World) (h0 : 0 < n) (h1 : (n : Int) ≤ 9223372036854775807) :
    Calls Tryz.prog 99 #[.int .i64 n] w fun e w' => e = .returned (.string ⟨(Lib.decDigits n).toArray⟩) ∧ Below w.heap.size w w' := by
  have hz : ((n : Int) == 0) = false := by simp; omega
  have hz2 : decide ((n : Int) < 0) = false := by simp
  go_enter Tryz.func99, Tryz.ntmps99
  go_wp2
  go_loopw [3, 4] (fun s x wr => ∃ (m : Nat) (l : List UInt8), x = .int .i64 m ∧ s = .string ⟨l.toArray⟩ ∧ Num n w m l wr) (fun _ x _ => (intOf x).toNat)
  case atStart => exact ⟨n, [], rfl, rfl, by omega, by rw [high_pos n h0]; simp, Below.refl _ _⟩
  case round =>
    obtain ⟨m, l, rfl, rfl, HL⟩ := hrel
    have hll := HL.len (by omega)
    have hmn : m ≤ n := HL.1
    by_cases hlt : m = 0
    · subst hlt
      have H2 := Lib.hid (p := l = Lib.decDigits n) (by have := HL.2.1; simpa [high] using this)
      go_wp2
      go_ret
      exact ⟨ret_str H2.out, HL.2.2⟩
    · have hm0 : ((m : Int) == 0) = false := by simp; omega
      have hm1 : 0 < (m : Int) := by omega
      have hc := oneByte wr (48 + (m : Int) % 10) (dig m) (dig_toNat m)
      go_wp2
      go_roundw
      case rel => exact ⟨m / 10, dig m :: l, by go_num, by rw [append_mk], HL.step hlt _⟩
      case measure => simp [intOf]; omega
theorem ntmod (m : Nat) : (-(m : Int)).tmod 10 = -((m : Int) % 10) := by rw [Int.neg_tmod, Int.tmod_eq_emod_of_nonneg (by omega)]
theorem ntdiv (m : Nat) : (-(m : Int)).tdiv 10 = -((m / 10 : Nat) : Int) := by rw [Int.neg_tdiv, Int.tdiv_eq_ediv_of_nonneg (by omega)]; rfl
theorem cons_minus (l : List UInt8) : (ByteArray.mk #[45]) ++ (ByteArray.mk l.toArray) = ByteArray.mk (45 :: l).toArray := append_mk 45 l
set_option maxHeartbeats 400000 in
theorem specNeg (n : Nat) (w : World) (h0 : 0 < n) (h1 : (n : Int) ≤ 9223372036854775808) :
    Calls Tryz.prog 99 #[.int .i64 (-(n : Int))] w fun e w' => e = .returned (.string ⟨(45 :: Lib.decDigits n).toArray⟩) ∧ Below w.heap.size w w' := by
  have hz : (-(n : Int) == 0) = false := by simp; omega
  have hz2 : decide (-(n : Int) < 0) = true := by simp; omega
  go_enter Tryz.func99, Tryz.ntmps99
  go_wp2
  go_loopw [3, 4] (fun s x wr => ∃ (m : Nat) (l : List UInt8), x = .int .i64 (-(m : Int)) ∧ s = .string ⟨l.toArray⟩ ∧ Num n w m l wr) (fun _ x _ => (-(intOf x)).toNat)
  case atStart => exact ⟨n, [], rfl, rfl, by omega, by rw [high_pos n h0]; simp, Below.refl _ _⟩
  case round =>
    obtain ⟨m, l, rfl, rfl, HL⟩ := hrel
    have hll := HL.len (by omega)
    have hmn : m ≤ n := HL.1
    by_cases hlt : m = 0
    · subst hlt
      have H2 := Lib.hid (p := l = Lib.decDigits n) (by have := HL.2.1; simpa [high] using this)
      go_wp2
      go_ret
      exact ⟨by rw [← H2.out]; exact ret_bytes (cons_minus l), HL.2.2⟩
    · have hm0 : (-(m : Int) == 0) = false := by simp; omega
      have hm1 : 0 < (m : Int) := by omega
      have e1 := ntmod m
      have e2 := ntdiv m
      by_cases hd : 0 < (m : Int) % 10
      · have hc := oneByte wr (48 + (m : Int) % 10) (dig m) (dig_toNat m)
        go_wp2
        go_roundw
        case rel => exact ⟨m / 10, dig m :: l, rfl, by rw [append_mk], HL.step hlt _⟩
        case measure => simp [intOf]; omega
      · have hc := oneByte wr 48 (dig m) (by rw [← dig_toNat m]; omega)
        have hd2 : -((m : Int) % 10) = 0 := by omega
        rw [hd2] at e1
        clear hd hd2
        go_wp2
        go_roundw
        case rel => exact ⟨m / 10, dig m :: l, rfl, by rw [append_mk], HL.step hlt _⟩
        case measure => simp [intOf]; omega
theorem spec0 (w : World) :
    Calls Tryz.prog 99 #[.int .i64 0] w fun e w' => e = .returned (.string ⟨#[48]⟩) ∧ Below w.heap.size w w' := by
  go_enter Tryz.func99, Tryz.ntmps99
  go_wp2
  go_ret
  exact ⟨rfl, Below.refl _ _⟩
theorem specFmt (n : Int) (w : World) (h0 : -9223372036854775808 ≤ n) (h1 : n ≤ 9223372036854775807) :
    Calls Tryz.prog 99 #[.int .i64 n] w fun e w' => e = .returned (.string ⟨(Lib.itoa n).toArray⟩) ∧ Below w.heap.size w w' := by
  unfold Lib.itoa
  by_cases hn : n < 0
  · rw [if_pos hn]
    have e : n = -((n.natAbs : Nat) : Int) := by omega
    have h := specNeg n.natAbs w (by omega) (by omega)
    rw [← e] at h
    exact h
  · rw [if_neg hn]
    by_cases hz : n = 0
    · subst hz
      have e : Lib.decDigits (Int.toNat 0) = [48] := by rw [Lib.decDigits]; rfl
      rw [e]
      exact spec0 w
    · have e : n = ((n.toNat : Nat) : Int) := by omega
      have h := specPos n.toNat w (by omega) (by omega)
      rw [← e] at h
      exact h
theorem below_grow {w : World} (k : Nat) (os : Array Obj) : Below w.heap.size w (Sort.grow (w.drewN k) os) :=
  ⟨rfl, rfl, rfl, by simp, fun j hj => Sort.heap_grow_old (w.drewN k) os hj⟩
theorem itoaAt (n : Int) (w : World) (h0 : -9223372036854775808 ≤ n) (h1 : n ≤ 9223372036854775807) (ht : La.Pow w) :
    Calls Tryz.prog 112 #[.int .i64 n] w fun e w' => e = .returned (.string ⟨(Lib.itoa n).toArray⟩) ∧ Below w.heap.size w w' :=
  (Tryz.strconv_Itoa n h0 h1 w ht).mono fun _ _ ⟨he, k, os, hw⟩ => ⟨he, by rw [hw]; exact below_grow k os⟩
theorem implFmt (n : Int) (w : World) (h0 : -9223372036854775808 ≤ n) (h1 : n ≤ 9223372036854775807) (ht : La.Pow w) :
    Calls Tryz.prog 91 #[.int .i64 n] w fun e w' => e = .returned (.string ⟨(Lib.itoa n).toArray⟩) ∧ Below w.heap.size w w' := by
  go_enter Tryz.func91, Tryz.ntmps91
  go_wp2_with (go_at_call 112; (with_reducible refine (itoaAt _ _ h0 h1 ht).mono ?_); rintro e w' ⟨rfl, hb⟩)
  go_ret
  exact ⟨rfl, hb⟩
end Go.Proofs.YtogoppknimpkbaaGreatDoor.C1F

/-
  Plain facts on decimal numerals: the digits of a number spell it, and Atoi reads them.
-/
namespace Go.Proofs.YtogoppknimpkbaaGreatDoor.M1P
open Go.Lib

theorem decFrom_append : ∀ (l r : List UInt8) (acc : Nat), decFrom acc (l ++ r) = (decFrom acc l).bind fun a => decFrom a r
  | [], r, acc => rfl
  | b :: l, r, acc => by
    simp only [List.cons_append, decFrom]
    cases digitVal b with
    | none => rfl
    | some d => exact decFrom_append l r _
theorem digit_ofNat (d : Nat) (h : d < 10) : digitVal (UInt8.ofNat (48 + d)) = some d := by
  unfold digitVal
  have e : (UInt8.ofNat (48 + d)).toNat = 48 + d := by simp; omega
  rw [e, if_pos (by omega)]; congr 1; omega
theorem decFrom_digits (u : Nat) : decFrom 0 (decDigits u) = some u := by
  induction u using Nat.strongRecOn with
  | ind u ih =>
    rw [decDigits]
    by_cases h : u < 10
    · rw [dif_pos h]
      simp only [decFrom, digit_ofNat u h]
      congr 1; omega
    · rw [dif_neg h, decFrom_append, ih (u / 10) (by omega)]
      simp only [Option.bind_some, decFrom, digit_ofNat (u % 10) (by omega)]
      congr 1; omega
theorem digits_ne (u : Nat) : decDigits u ≠ [] := by
  intro h
  have := decDigits_length u
  rw [h] at this
  have h2 : 1 ≤ nDigits u := by
    rw [nDigits]; split <;> omega
  simp at this; omega
theorem digits_len13 (u : Nat) (h : u ≤ 1000000000000) : (decDigits u).length ≤ 13 := by
  rw [decDigits_length]
  by_cases h0 : u < 1000000000000
  · have : ∀ (k u : Nat), u < 10 ^ k → nDigits u ≤ k + 1 := by
      intro k
      induction k with
      | zero => intro u hu; rw [nDigits_small (by omega)]; omega
      | succ k ih =>
        intro u hu
        by_cases hs : u < 10
        · rw [nDigits_small hs]; omega
        · rw [nDigits_big hs]
          have := ih (u / 10) (by rw [Nat.pow_succ] at hu; omega)
          omega
    have := this 12 u (by omega)
    omega
  · obtain rfl : u = 1000000000000 := by omega
    decide +kernel
end Go.Proofs.YtogoppknimpkbaaGreatDoor.M1P

/-
  Contracts of ParseInt, of the program and of the model: a number and true at the numeral of a number up to MaxValue, 0 and false at every other string.
-/
namespace Go.Proofs.YtogoppknimpkbaaGreatDoor.C1P
open Go.ChangeShapes Go.WideShapes Go.ChangeAt Go.RowKit
set_option linter.unusedVariables false
set_option maxRecDepth 100000
def Yes (s : ByteArray) (n : Nat) : Prop := n ≤ 1000000000000 ∧ s = ⟨(Lib.decDigits n).toArray⟩
def No (s : ByteArray) : Prop := ∀ n : Nat, n ≤ 1000000000000 → s ≠ ⟨(Lib.decDigits n).toArray⟩
theorem yes_or_no (s : ByteArray) : (∃ n, Yes s n) ∨ No s := by
  by_cases h : ∃ n, Yes s n
  · exact Or.inl h
  · exact Or.inr fun n hn e => h ⟨n, hn, e⟩
theorem toList_mk (l : List UInt8) : (ByteArray.mk l.toArray).data.toList = l := by simp
theorem No.beq {s : ByteArray} (h : No s) {n : Nat} (hn : n ≤ 1000000000000) : (Lib.decDigits n == s.toList) = false := by
  rw [Lib.toList_data, beq_eq_false_iff_ne]
  intro k
  exact h n hn (by rw [k])
theorem itoa_nat (n : Nat) : Lib.itoa (n : Int) = Lib.decDigits n := by unfold Lib.itoa; rw [if_neg (by omega)]; rfl

theorem digits_inj {m n : Nat} (h : Lib.decDigits m = Lib.decDigits n) : m = n := by
  have h1 := M1P.decFrom_digits m
  rw [h, M1P.decFrom_digits n] at h1
  exact (Option.some.inj h1).symm
theorem at_take (s : ByteArray) (k : Nat) (h : k < s.size) : s.data.toList[k]? = some s[k] := by
  rw [List.getElem?_eq_getElem (by simpa using h)]; rfl
theorem take_digit {s : ByteArray} {k m : Nat} (h : k < s.size) (hm : Lib.decFrom 0 (s.data.toList.take k) = some m) (h1 : 48 ≤ s[k].toNat) (h2 : s[k].toNat ≤ 57) :
    Lib.decFrom 0 (s.data.toList.take (k + 1)) = some (m * 10 + (s[k].toNat - 48)) :=
  Lib.decFrom_take _ k 0 m s[k] (s[k].toNat - 48) hm (at_take s k h) (by unfold Lib.digitVal; rw [if_pos ⟨h1, h2⟩])
theorem take_lt {s : ByteArray} {k m : Nat} (hk : k ≤ 13) (hm : Lib.decFrom 0 (s.data.toList.take k) = some m) : m < 10000000000000 := by
  have h1 := Lib.decFrom_lt _ _ _ hm
  have h2 : (s.data.toList.take k).length ≤ 13 := by simp; omega
  have h3 : (10 : Nat) ^ (s.data.toList.take k).length ≤ 10 ^ 13 := Nat.pow_le_pow_right (by omega) h2
  omega
def Sofar (s : ByteArray) (k m : Nat) : Prop := k ≤ s.size ∧ m < 10000000000000 ∧ Lib.decFrom 0 (s.data.toList.take k) = some m
theorem Sofar.step {s : ByteArray} {k m : Nat} (h : Sofar s k m) (hs : s.size ≤ 13) (hk : k < s.size) (h1 : 48 ≤ s[k].toNat) (h2 : s[k].toNat ≤ 57) : Sofar s (k + 1) (m * 10 + (s[k].toNat - 48)) :=
  ⟨by omega, take_lt (by omega) (take_digit hk h.2.2 h1 h2), take_digit hk h.2.2 h1 h2⟩
theorem Sofar.all {s : ByteArray} {m : Nat} (h : Sofar s s.size m) : Lib.decFrom 0 s.data.toList = some m := by
  have := h.2.2
  rwa [List.take_of_length_le (by simp)] at this
theorem specFmtNat (n : Nat) (hn : n ≤ 1000000000000) (w : World) :
    Calls Tryz.prog 99 #[.int .i64 n] w fun e w' => e = .returned (.string ⟨(Lib.decDigits n).toArray⟩) ∧ Below w.heap.size w w' := by
  have f := C1F.specFmt (n : Int) w (by omega) (by omega)
  rw [itoa_nat n] at f
  exact f
set_option maxHeartbeats 800000 in
theorem specNo13 (s : ByteArray) (hs1 : 1 ≤ s.size) (hs2 : s.size ≤ 13) (h : No s) (w : World) :
    Calls Tryz.prog 66 #[.string s] w fun e w' => e = .returned (.tuple #[.int .i64 0, .bool false]) ∧ Below w.heap.size w w' := by
  go_enter Tryz.func66, Tryz.ntmps66
  go_wp2_with (go_at_call 31; (with_reducible refine (C1.specIn_t _ _ _ _ (by omega) (by omega)).mono ?_); rintro e w' ⟨rfl, rfl⟩)
  go_loop [4, 5] (fun n i => ∃ k m : Nat, i = .int .i64 k ∧ n = .int .i64 m ∧ Sofar s k m) (fun _ i => s.size - (intOf i).toNat)
  case atStart => exact ⟨0, 0, rfl, rfl, by omega, by omega, rfl⟩
  case round =>
    obtain ⟨k, m, rfl, rfl, HS⟩ := hrel
    have hk := HS.1
    have hm := HS.2.1
    by_cases hlt : k < s.size
    · by_cases hd : 48 ≤ s[k].toNat ∧ s[k].toNat ≤ 57
      · obtain ⟨hd1, hd2⟩ := hd
        have HN := HS.step hs2 hlt hd1 hd2
        go_wp2_with (go_at_call 31; (with_reducible refine (C1.specIn_t _ _ _ _ (by omega) (by omega)).mono ?_); rintro e w' ⟨rfl, rfl⟩)
        go_round
        case rel => exact ⟨k + 1, m * 10 + (s[k].toNat - 48), by go_num, congrArg (Value.int .i64) (by omega), HN⟩
        case measure => simp [intOf]; omega
      · have hd' : (s[k].toNat : Int) < 48 ∨ 57 < (s[k].toNat : Int) := by omega
        have hu : s[k].toNat < 256 := UInt8.toNat_lt _
        clear hd
        go_wp2_with (go_at_call 31; (with_reducible refine (C1.specIn_f _ _ _ _ hd').mono ?_); rintro e w' ⟨rfl, rfl⟩)
        go_ret2
        exact ⟨rfl, Below.refl _ _⟩
    · obtain rfl : k = s.size := by omega
      by_cases hbig : (1000000000000 : Int) < m
      · go_wp2
        go_ret2
        exact ⟨rfl, Below.refl _ _⟩
      · have hne := h.beq (n := m) (by omega)
        go_wp2_with (go_at_call 99; (with_reducible refine (specFmtNat _ (by omega) _).mono ?_); rintro e w' ⟨rfl, hb⟩)
        go_ret2
        exact ⟨rfl, hb⟩
theorem specNo (s : ByteArray) (h : No s) (w : World) (hs : s.size ≤ 281474976710656) :
    Calls Tryz.prog 66 #[.string s] w fun e w' => e = .returned (.tuple #[.int .i64 0, .bool false]) ∧ Below w.heap.size w w' := by
  by_cases hz : (s.size : Int) < 1 ∨ 13 < (s.size : Int)
  · go_enter Tryz.func66, Tryz.ntmps66
    go_wp2_with (go_at_call 31; (with_reducible refine (C1.specIn_f _ _ _ _ hz).mono ?_); rintro e w' ⟨rfl, rfl⟩)
    go_ret2
    exact ⟨rfl, Below.refl _ _⟩
  · exact specNo13 s (by omega) (by omega) h w
theorem digit_at {n : Nat} {s : ByteArray} (hn : s = ⟨(Lib.decDigits n).toArray⟩) (k : Nat) (hk : k < s.size) : 48 ≤ s[k].toNat ∧ s[k].toNat ≤ 57 := by
  obtain ⟨d, hd⟩ := Lib.digit_of_decFrom (Lib.decDigits n) 0 n (M1P.decFrom_digits n) k s[k] (by have := at_take s k hk; rw [← this, hn])
  obtain ⟨h1, h2, _⟩ := Lib.digitVal_eq hd
  exact ⟨h1, h2⟩
set_option maxHeartbeats 800000 in
theorem specYes (s : ByteArray) (n : Nat) (hY : Yes s n) (w : World) :
    Calls Tryz.prog 66 #[.string s] w fun e w' => e = .returned (.tuple #[.int .i64 n, .bool true]) ∧ Below w.heap.size w w' := by
  obtain ⟨hn, hsn⟩ := hY
  have hs1 : 1 ≤ s.size := by
    have := List.length_pos_iff.2 (M1P.digits_ne n)
    rw [hsn]; simp [ByteArray.size]; omega
  have hs2 : s.size ≤ 13 := by
    have := M1P.digits_len13 n hn
    rw [hsn]; simpa [ByteArray.size] using this
  have HD := Lib.hid (fun k hk => digit_at (s := s) hsn k hk)
  have HE := Lib.hid (p := Lib.decFrom 0 s.data.toList = some n) (by rw [hsn, toList_mk]; exact M1P.decFrom_digits n)
  have HQ := Lib.hid (p := Lib.decDigits n = s.toList) (by rw [Lib.toList_data, hsn])
  clear hsn
  go_enter Tryz.func66, Tryz.ntmps66
  go_wp2_with (go_at_call 31; (with_reducible refine (C1.specIn_t _ _ _ _ (by omega) (by omega)).mono ?_); rintro e w' ⟨rfl, rfl⟩)
  go_loop [4, 5] (fun n i => ∃ k m : Nat, i = .int .i64 k ∧ n = .int .i64 m ∧ Sofar s k m) (fun _ i => s.size - (intOf i).toNat)
  case atStart => exact ⟨0, 0, rfl, rfl, by omega, by omega, rfl⟩
  case round =>
    obtain ⟨k, m, rfl, rfl, HS⟩ := hrel
    have hk := HS.1
    have hm := HS.2.1
    by_cases hlt : k < s.size
    · obtain ⟨hd1, hd2⟩ := HD.out k hlt
      have HN := HS.step hs2 hlt hd1 hd2
      go_wp2_with (go_at_call 31; (with_reducible refine (C1.specIn_t _ _ _ _ (by omega) (by omega)).mono ?_); rintro e w' ⟨rfl, rfl⟩)
      go_round
      case rel => exact ⟨k + 1, m * 10 + (s[k].toNat - 48), by go_num, congrArg (Value.int .i64) (by omega), HN⟩
      case measure => simp [intOf]; omega
    · obtain rfl : k = s.size := by omega
      obtain rfl : n = m := Option.some.inj (HE.out.symm.trans HS.all)
      have hne : (Lib.decDigits n == s.toList) = true := by rw [← HQ.out]; simp
      have hbig : ¬ (1000000000000 : Int) < n := by omega
      go_wp2_with (go_at_call 99; (with_reducible refine (specFmtNat _ (by omega) _).mono ?_); rintro e w' ⟨rfl, hb⟩)
      go_ret2
      exact ⟨rfl, hb⟩
end Go.Proofs.YtogoppknimpkbaaGreatDoor.C1P

/-
  Origins, in plain lists of bytes: their texts, the last two labels of a host, who may use a site's keys.
-/
namespace Go.Proofs.YtogoppknimpkbaaGreatDoor.M13
open M12
set_option linter.unusedVariables false
def bts (s : ByteArray) : List UInt8 := s.data.toList
def str (l : List UInt8) : ByteArray := ⟨l.toArray⟩
theorem bts_str (l : List UInt8) : bts (str l) = l := by simp [bts, str]
theorem str_bts (s : ByteArray) : str (bts s) = s := by cases s; simp [bts, str]
theorem bts_len (s : ByteArray) : (bts s).length = s.size := Array.length_toList
theorem str_size (l : List UInt8) : (str l).size = l.length := by rw [← bts_len, bts_str]
theorem str_toList (l : List UInt8) : (str l).toList = l := by rw [Lib.toList_data]; exact bts_str l
theorem toList_bts (s : ByteArray) : s.toList = bts s := Lib.toList_data s
theorem bts_app (a b : ByteArray) : bts (a ++ b) = bts a ++ bts b := by simp [bts, ByteArray.data_append]
theorem bts_inj {a b : ByteArray} (h : bts a = bts b) : a = b := by rw [← str_bts a, h, str_bts]
def orgB (o : Fx.Origin) : Bool := host (bts o.Host) && (decide (1 ≤ o.Port) && decide (o.Port ≤ 65535))
def pre (s : Bool) : List UInt8 := if s then [104, 116, 116, 112, 115, 58, 47, 47] else [104, 116, 116, 112, 58, 47, 47]
def usual (s : Bool) : Int := if s then 443 else 80
def fmtO (o : Fx.Origin) : List UInt8 := if orgB o then pre o.Secure ++ bts o.Host ++ (if o.Port = usual o.Secure then [] else 58 :: Lib.itoa o.Port) else []
def reg (s : List UInt8) : List UInt8 := if host s then (if (split s).length < 2 then s else (split s).getD ((split s).length - 2) [] ++ 46 :: (split s).getD ((split s).length - 1) []) else []
def sameO (a b : Fx.Origin) : Bool := orgB a && orgB b && (a.Secure == b.Secure) && (reg (bts a.Host) == reg (bts b.Host))
def mayO (o : Fx.Origin) (s : List UInt8) : Bool := orgB o && o.Secure && host s && decide (2 ≤ (split s).length) && (bts o.Host == s || (46 :: s).isSuffixOf (bts o.Host))
theorem orgB_parts {o : Fx.Origin} (h : orgB o = true) : host (bts o.Host) = true ∧ 1 ≤ o.Port ∧ o.Port ≤ 65535 := by
  unfold orgB at h
  simp only [Bool.and_eq_true, decide_eq_true_eq] at h
  exact ⟨h.1, h.2.1, h.2.2⟩
theorem host_len {s : List UInt8} (h : host s = true) : s.length ≤ 60 := by
  unfold host at h
  simp only [Bool.and_eq_true, decide_eq_true_eq] at h
  exact h.2
theorem lab_all {s : List UInt8} (h : lab s = true) : s.all okc = true ∧ 1 ≤ s.length := by
  unfold lab at h
  simp only [Bool.and_eq_true, decide_eq_true_eq] at h
  exact ⟨h.1.1.1, h.1.1.2.1⟩
/-- The characters of a host: those of labels, and dots. -/
theorem split_chars (s : List UInt8) (h : ∀ x ∈ split s, ∀ c ∈ x, okc c = true) : ∀ c ∈ s, okc c = true ∨ c = 46 := by
  induction s with
  | nil => intro c hc; cases hc
  | cons a s ih =>
    intro c hc
    by_cases ha : a = 46
    · subst ha
      rw [split_at] at h
      rcases List.mem_cons.1 hc with rfl | hc
      · exact Or.inr rfl
      · exact ih (fun x hx => h x (List.mem_cons_of_mem _ hx)) c hc
    · cases hs : split s with
      | nil => exact absurd hs (split_ne s)
      | cons y ys =>
        rw [split_off ha hs] at h
        rcases List.mem_cons.1 hc with rfl | hc
        · exact Or.inl (h (c :: y) (List.mem_cons_self ..) c (List.mem_cons_self ..))
        · refine ih (fun x hx d hd => ?_) c hc
          rw [hs] at hx
          rcases List.mem_cons.1 hx with rfl | hx
          · exact h _ (List.mem_cons_self ..) d (List.mem_cons_of_mem _ hd)
          · exact h x (List.mem_cons_of_mem _ hx) d hd
theorem host_chars {s : List UInt8} (h : host s = true) : ∀ c ∈ s, c ≠ 58 := by
  unfold host at h
  simp only [Bool.and_eq_true, List.all_eq_true] at h
  intro c hc
  rcases split_chars s (fun x hx d hd => List.all_eq_true.1 (lab_all (h.1 x hx)).1 d hd) c hc with h1 | h1
  · intro e; subst e; exact absurd h1 (by decide)
  · intro e; subst e; exact absurd h1 (by decide)
theorem host_ne {s : List UInt8} (h : host s = true) : s ≠ [] := by
  intro e
  subst e
  exact absurd h (by decide)
/-- The first colon of a text: where it stands. -/
theorem colon_at {a b : List UInt8} (h : ∀ c ∈ a, c ≠ 58) (x y : List UInt8) (hx : ∀ c ∈ x, c ≠ 58) (e : a ++ 58 :: b = x ++ 58 :: y) : a = x ∧ b = y := by
  induction a generalizing x with
  | nil => cases x with
    | nil => simp at e; exact ⟨rfl, e⟩
    | cons d x =>
      simp only [List.nil_append, List.cons_append] at e
      injection e with e1 _
      exact absurd e1.symm (hx d (List.mem_cons_self ..))
  | cons c a ih => cases x with
    | nil =>
      simp only [List.nil_append, List.cons_append] at e
      injection e with e1 _
      exact absurd e1 (h c (List.mem_cons_self ..))
    | cons d x =>
      simp only [List.cons_append] at e
      injection e with e1 e2
      obtain ⟨h1, h2⟩ := ih (fun c hc => h c (List.mem_cons_of_mem _ hc)) x (fun c hc => hx c (List.mem_cons_of_mem _ hc)) e2
      exact ⟨by rw [e1, h1], h2⟩
theorem fmtO_t {o : Fx.Origin} (h : orgB o = true) : fmtO o = pre o.Secure ++ bts o.Host ++ (if o.Port = usual o.Secure then [] else 58 :: Lib.itoa o.Port) := by unfold fmtO; rw [if_pos h]
theorem fmtO_f {o : Fx.Origin} (h : orgB o = false) : fmtO o = [] := by unfold fmtO; rw [if_neg (by rw [h]; simp)]
/-- When a text ends with a dot and another text. -/
theorem suffix_at {h s : List UInt8} {n : Nat} (hn : n + s.length = h.length) (h0 : 0 < n) : (46 :: s).isSuffixOf h = ((h.drop n == s) && (h.getD (n - 1) 0 == 46)) := by
  rw [Bool.eq_iff_iff]
  simp only [List.isSuffixOf_iff_suffix, Bool.and_eq_true, beq_iff_eq]
  have hd : h.drop (n - 1) = h.getD (n - 1) 0 :: h.drop n := by
    have hl : n - 1 < h.length := by omega
    rw [List.drop_eq_getElem_cons hl, List.getD_eq_getElem?_getD, List.getElem?_eq_getElem hl]
    congr 2
    omega
  constructor
  · rintro ⟨p, hp⟩
    have hpl : p.length = n - 1 := by
      have := congrArg List.length hp
      rw [List.length_append, List.length_cons] at this
      omega
    have : h.drop (n - 1) = 46 :: s := by rw [← hp, ← hpl, List.drop_left]
    rw [hd] at this
    injection this with h1 h2
    exact ⟨h2, h1⟩
  · rintro ⟨h1, h2⟩
    rw [h1, h2] at hd
    exact ⟨h.take (n - 1), by rw [← hd, List.take_append_drop]⟩
theorem suffix_short {h s : List UInt8} (hn : h.length ≤ s.length) : (46 :: s).isSuffixOf h = false := by
  rw [← Bool.not_eq_true, List.isSuffixOf_iff_suffix]
  intro hs
  have := hs.length_le
  simp at this
  omega
theorem itoa_inj {a b : Int} (a0 : 0 ≤ a) (b0 : 0 ≤ b) (h : Lib.itoa a = Lib.itoa b) : a = b := by
  have ea := C1P.itoa_nat a.toNat
  have eb := C1P.itoa_nat b.toNat
  rw [show ((a.toNat : Nat) : Int) = a by omega] at ea
  rw [show ((b.toNat : Nat) : Int) = b by omega] at eb
  rw [ea, eb] at h
  have := C1P.digits_inj h
  omega
/-- The host and what follows: a text tells them. -/
theorem tail_inj {a b : List UInt8} {p q : Int} {u : Int} (ha : ∀ c ∈ a, c ≠ 58) (hb : ∀ c ∈ b, c ≠ 58) (p0 : 0 ≤ p) (q0 : 0 ≤ q)
    (h : a ++ (if p = u then [] else 58 :: Lib.itoa p) = b ++ (if q = u then [] else 58 :: Lib.itoa q)) : a = b ∧ p = q := by
  by_cases h1 : p = u
  · by_cases h2 : q = u
    · rw [if_pos h1, if_pos h2, List.append_nil, List.append_nil] at h
      exact ⟨h, h1.trans h2.symm⟩
    · rw [if_pos h1, if_neg h2, List.append_nil] at h
      exact absurd rfl (ha 58 (by rw [h]; simp))
  · by_cases h2 : q = u
    · rw [if_neg h1, if_pos h2, List.append_nil] at h
      exact absurd rfl (hb 58 (by rw [← h]; simp))
    · rw [if_neg h1, if_neg h2] at h
      obtain ⟨e1, e2⟩ := colon_at ha b _ hb h
      exact ⟨e1, itoa_inj p0 q0 e2⟩
/-- The text of an origin tells it. -/
theorem fmtO_inj {o o' : Fx.Origin} (h : orgB o = true) (h' : orgB o' = true) (e : fmtO o = fmtO o') : o = o' := by
  obtain ⟨a1, a2, a3⟩ := orgB_parts h
  obtain ⟨b1, b2, b3⟩ := orgB_parts h'
  rw [fmtO_t h, fmtO_t h', List.append_assoc, List.append_assoc] at e
  have hs : o.Secure = o'.Secure := by
    cases hs1 : o.Secure <;> cases hs2 : o'.Secure
    · rfl
    · rw [hs1, hs2] at e
      simp [pre] at e
    · rw [hs1, hs2] at e
      simp [pre] at e
    · rfl
  rw [hs] at e
  have e2 := List.append_cancel_left e
  obtain ⟨k1, k2⟩ := tail_inj (host_chars a1) (host_chars b1) (by omega) (by omega) e2
  cases o
  cases o'
  simp only at hs k1 k2
  rw [hs, k2, bts_inj k1]
open Classical in
/-- What ParseOrigin gives. -/
noncomputable def poB (s : List UInt8) : Bool := decide (∃ o : Fx.Origin, orgB o = true ∧ fmtO o = s)
open Classical in
noncomputable def poO (s : List UInt8) : Fx.Origin := if h : ∃ o : Fx.Origin, orgB o = true ∧ fmtO o = s then h.choose else ⟨false, ⟨#[]⟩, 0⟩
open Classical in
theorem po_t {s : List UInt8} {o : Fx.Origin} (h : orgB o = true) (e : fmtO o = s) : poB s = true ∧ poO s = o := by
  have hx : ∃ o : Fx.Origin, orgB o = true ∧ fmtO o = s := ⟨o, h, e⟩
  refine ⟨decide_eq_true hx, ?_⟩
  unfold poO
  rw [dif_pos hx]
  obtain ⟨k1, k2⟩ := hx.choose_spec
  exact fmtO_inj k1 h (k2.trans e.symm)
open Classical in
theorem po_f {s : List UInt8} (h : ∀ o : Fx.Origin, orgB o = true → fmtO o ≠ s) : poB s = false ∧ poO s = ⟨false, ⟨#[]⟩, 0⟩ := by
  have hx : ¬ ∃ o : Fx.Origin, orgB o = true ∧ fmtO o = s := fun ⟨o, k1, k2⟩ => h o k1 k2
  exact ⟨decide_eq_false hx, by unfold poO; rw [dif_neg hx]⟩
theorem fmtO_eq {s : List UInt8} {o : Fx.Origin} (h : orgB o = true) (e : fmtO o = s) : s = pre o.Secure ++ (bts o.Host ++ (if o.Port = usual o.Secure then [] else 58 :: Lib.itoa o.Port)) := by
  rw [← e, fmtO_t h, List.append_assoc]
/-- Two beginnings of origins. -/
theorem pre_inj {a b : Bool} {x y : List UInt8} (h : pre a ++ x = pre b ++ y) : a = b ∧ x = y := by
  cases a <;> cases b
  · exact ⟨rfl, List.append_cancel_left h⟩
  · simp [pre] at h
  · simp [pre] at h
  · exact ⟨rfl, List.append_cancel_left h⟩
/-- A text without an origin's beginning is none's. -/
theorem po_none {s : List UInt8} (h : ∀ (b : Bool) (x : List UInt8), x ≠ [] → s ≠ pre b ++ x) : ∀ o : Fx.Origin, orgB o = true → fmtO o ≠ s := by
  intro o ho e
  refine h o.Secure _ ?_ (fmtO_eq ho e)
  intro e2
  exact host_ne (orgB_parts ho).1 (List.append_eq_nil_iff.1 e2).1
/-- The one origin that a text without a port can be of. -/
theorem po_plain {s rest : List UInt8} {sec : Bool} (hp : s = pre sec ++ rest) (hn : ∀ c ∈ rest, c ≠ 58) : ∀ o : Fx.Origin, orgB o = true → fmtO o = s → o = ⟨sec, str rest, usual sec⟩ := by
  intro o ho e
  obtain ⟨h1, h2⟩ := pre_inj ((fmtO_eq ho e).symm.trans hp)
  by_cases hu : o.Port = usual o.Secure
  · rw [if_pos hu, List.append_nil] at h2
    cases o
    simp only at h1 h2 hu
    rw [h1] at hu
    rw [h1, hu, ← h2, str_bts]
  · rw [if_neg hu] at h2
    exact absurd rfl (hn 58 (by rw [← h2]; simp))
/-- What a text with a colon can be of. -/
theorem po_colon {s a b : List UInt8} {sec : Bool} (hp : s = pre sec ++ (a ++ 58 :: b)) (ha : ∀ c ∈ a, c ≠ 58) : ∀ o : Fx.Origin, orgB o = true → fmtO o = s → o.Secure = sec ∧ o.Host = str a ∧ Lib.itoa o.Port = b := by
  intro o ho e
  obtain ⟨h1, h2⟩ := pre_inj ((fmtO_eq ho e).symm.trans hp)
  by_cases hu : o.Port = usual o.Secure
  · rw [if_pos hu, List.append_nil] at h2
    exact absurd rfl (host_chars (orgB_parts ho).1 58 (by rw [h2]; simp))
  · rw [if_neg hu] at h2
    obtain ⟨e1, e2⟩ := colon_at (host_chars (orgB_parts ho).1) a b ha h2
    exact ⟨h1, by rw [← e1, str_bts], e2⟩
/-- .. and with a number behind it. -/
theorem po_port {s a : List UInt8} {n : Nat} {sec : Bool} (hp : s = pre sec ++ (a ++ 58 :: Lib.decDigits n)) (ha : ∀ c ∈ a, c ≠ 58) : ∀ o : Fx.Origin, orgB o = true → fmtO o = s → o = ⟨sec, str a, n⟩ := by
  intro o ho e
  obtain ⟨h1, h2, h3⟩ := po_colon hp ha o ho e
  obtain ⟨-, p0, p1⟩ := orgB_parts ho
  have := itoa_inj (a := o.Port) (b := n) (by omega) (by omega) (by rw [h3, C1P.itoa_nat])
  cases o
  simp only at h1 h2 this
  rw [h1, h2, this]
theorem po_noport {s a b : List UInt8} {sec : Bool} (hp : s = pre sec ++ (a ++ 58 :: b)) (ha : ∀ c ∈ a, c ≠ 58) (hb : C1P.No (str b)) : ∀ o : Fx.Origin, orgB o = true → fmtO o ≠ s := by
  intro o ho e
  obtain ⟨h1, h2, h3⟩ := po_colon hp ha o ho e
  obtain ⟨-, p0, p1⟩ := orgB_parts ho
  have := C1P.itoa_nat o.Port.toNat
  rw [show ((o.Port.toNat : Nat) : Int) = o.Port by omega, h3] at this
  exact hb o.Port.toNat (by omega) (by rw [this]; rfl)
/-- What a walk finds that knows the one origin that it can be. -/
theorem po_c {s : List UInt8} {c : Fx.Origin} (hu : ∀ o : Fx.Origin, orgB o = true → fmtO o = s → o = c) : (orgB c = true ∧ fmtO c = s ∧ poB s = true ∧ poO s = c) ∨ ((orgB c = false ∨ fmtO c ≠ s) ∧ poB s = false ∧ poO s = ⟨false, ⟨#[]⟩, 0⟩) := by
  by_cases h : orgB c = true ∧ fmtO c = s
  · exact Or.inl ⟨h.1, h.2, po_t h.1 h.2⟩
  · refine Or.inr ⟨?_, po_f (fun o ho e => h ?_)⟩
    · by_cases h1 : orgB c = true
      · exact Or.inr (fun e => h ⟨h1, e⟩)
      · exact Or.inl (by simpa using h1)
    · rw [← hu o ho e]; exact ⟨ho, e⟩
theorem po_size (s : List UInt8) : (poO s).Host.size ≤ 60 := by
  by_cases h : ∃ o : Fx.Origin, orgB o = true ∧ fmtO o = s
  · obtain ⟨o, ho, e⟩ := h
    rw [(po_t ho e).2, ← bts_len]
    exact host_len (orgB_parts ho).1
  · rw [(po_f (s := s) (fun o ho e => h ⟨o, ho, e⟩)).2]
    exact Nat.zero_le _
theorem po_fmt (o : Fx.Origin) : poB (fmtO o) = orgB o ∧ (orgB o = true → poO (fmtO o) = o) := by
  cases ho : orgB o with
  | true =>
    obtain ⟨e1, e2⟩ := po_t ho rfl
    exact ⟨e1, fun _ => e2⟩
  | false =>
    refine ⟨?_, fun h => by cases h⟩
    rw [fmtO_f ho]
    exact (po_f (po_none (fun b x hx e => by cases b <;> simp [pre] at e))).1
theorem fmtO_size (o : Fx.Origin) : (fmtO o).length ≤ 100 := by
  cases ho : orgB o with
  | false => rw [fmtO_f ho]; simp
  | true =>
    obtain ⟨h1, h2, h3⟩ := orgB_parts ho
    have h4 := host_len h1
    have hi : (Lib.itoa o.Port).length ≤ 13 := by
      have h := C1P.itoa_nat o.Port.toNat
      rw [show ((o.Port.toNat : Nat) : Int) = o.Port by omega] at h
      rw [h]
      exact M1P.digits_len13 _ (by omega)
    rw [fmtO_t ho]
    have hp : (pre o.Secure).length ≤ 8 := by cases o.Secure <;> simp [pre]
    by_cases hu : o.Port = usual o.Secure
    · rw [if_pos hu, List.length_append, List.length_append, List.length_nil]; omega
    · rw [if_neg hu, List.length_append, List.length_append, List.length_cons]; omega
end Go.Proofs.YtogoppknimpkbaaGreatDoor.M13

/-
  Contracts of chapter 9's hosts, of the model.
-/
namespace Go.Proofs.YtogoppknimpkbaaGreatDoor.C9
open Go.ChangeShapes Go.WideShapes Go.ChangeAt Go.RowKit
open S0 M12
set_option linter.unusedVariables false
theorem data_len (s : ByteArray) : s.data.toList.length = s.size := Array.length_toList
theorem data_get (s : ByteArray) (k : Nat) (hk : k < s.size) : s.data.toList[k]'(by rw [data_len]; exact hk) = s[k] := rfl
/-- What a character is to the walk. -/
theorem okc_cases (c : UInt8) : (okc c = true ∧ ((97 ≤ c.toNat ∧ c.toNat ≤ 122) ∨ (48 ≤ c.toNat ∧ c.toNat ≤ 57) ∨ c.toNat = 45)) ∨ (okc c = false ∧ (c.toNat < 45 ∨ (45 < c.toNat ∧ c.toNat < 48) ∨ (57 < c.toNat ∧ c.toNat < 97) ∨ 122 < c.toNat)) := by
  by_cases h : okc c = true
  · refine Or.inl ⟨h, ?_⟩
    unfold okc at h
    simp only [Bool.or_eq_true, Bool.and_eq_true, decide_eq_true_eq, beq_iff_eq] at h
    omega
  · refine Or.inr ⟨by simpa using h, ?_⟩
    unfold okc at h
    simp only [Bool.or_eq_true, Bool.and_eq_true, decide_eq_true_eq, beq_iff_eq] at h
    omega
theorem okc_lt {c : UInt8} (h : okc c = true) : c.toNat ≤ 122 ∧ c ≠ 46 ∧ c ≠ 58 := by
  unfold okc at h
  simp only [Bool.or_eq_true, Bool.and_eq_true, decide_eq_true_eq, beq_iff_eq] at h
  refine ⟨by omega, fun e => ?_, fun e => ?_⟩ <;> (subst e; simp at h)
theorem all_okc {s : ByteArray} (h : ∀ j (h : j < s.size), okc s[j] = true) : s.data.toList.all okc = true := by
  rw [List.all_eq_true]
  intro c hc
  obtain ⟨j, hj, rfl⟩ := List.getElem_of_mem hc
  exact h j (by rw [← data_len]; exact hj)
theorem not_okc {s : ByteArray} {k : Nat} (hk : k < s.size) (h : okc s[k] = false) : s.data.toList.all okc = false := by
  rw [← Bool.not_eq_true, List.all_eq_true]
  intro hc
  have := hc s[k] (by rw [← data_get s k hk]; exact List.getElem_mem _)
  rw [h] at this
  cases this
/-- What a label is, by its ends. -/
theorem lab_of {s : ByteArray} (h : s.data.toList.all okc = true) (h1 : 1 ≤ s.size) (h2 : s.size ≤ 20) : lab s.data.toList = ((s[0]'(by omega)).toNat != 45 && (s[s.size - 1]'(by omega)).toNat != 45) := by
  have hl := data_len s
  have e1 : s.data.toList.head? = some (s[0]'(by omega)) := by
    rw [List.head?_eq_getElem?, List.getElem?_eq_getElem (by omega)]
    exact congrArg some (data_get s 0 (by omega))
  have e2 : s.data.toList.getLast? = some (s[s.size - 1]'(by omega)) := by
    rw [List.getLast?_eq_getElem?, List.getElem?_eq_getElem (by omega)]
    congr 1
  have e3 : ∀ c : UInt8, (some c != some 45) = (c.toNat != 45) := by
    intro c
    show (!(some c == some 45)) = !(c.toNat == 45)
    congr 1
    rw [Bool.eq_iff_iff]
    simp only [beq_iff_eq, Option.some.injEq]
    exact ⟨fun h => by rw [h]; rfl, fun h => by rw [← UInt8.toNat_inj]; exact h⟩
  unfold lab
  rw [h, e1, e2, e3, e3, decide_eq_true (by omega), decide_eq_true (by omega)]
  simp
theorem lab_no {s : ByteArray} (h : s.data.toList.all okc = false ∨ s.size = 0 ∨ 20 < s.size) : lab s.data.toList = false := by
  have hl := data_len s
  unfold lab
  rcases h with h | h | h
  · rw [h]; rfl
  · rw [decide_eq_false (show ¬ 1 ≤ s.data.toList.length by omega)]; simp
  · rw [decide_eq_false (show ¬ s.data.toList.length ≤ 20 by omega)]; simp
set_option maxHeartbeats 1600000 in
set_option maxRecDepth 100000 in
theorem specLab (s : ByteArray) (w : World) (hs : s.size ≤ 4294967296) : Calls Tryz.prog 98 #[.string s] w fun e w' => e = .returned (.bool (lab s.data.toList)) ∧ w = w' := by
  obtain ⟨r, hr⟩ : ∃ r, r = lab s.data.toList := ⟨_, rfl⟩
  rw [← hr]
  have HR := Lib.hid hr
  clear hr
  go_enter Tryz.func98, Tryz.ntmps98
  go_wp2
  go_loop [3] (fun i => ∃ k : Nat, k ≤ s.size ∧ i = .int .i64 k ∧ ∀ j (h : j < s.size), j < k → okc s[j] = true) (fun i => s.size - (intOf i).toNat)
  case atStart => exact ⟨0, by omega, rfl, fun _ _ h => by omega⟩
  case round =>
    obtain ⟨k, hk, rfl, hG⟩ := hrel
    have HG := Lib.hid hG
    clear hG
    by_cases hlt : k < s.size
    · rcases okc_cases s[k] with ⟨ho, hc⟩ | ⟨ho, hc⟩
      · have HN := Lib.hid (show ∀ j (h : j < s.size), j < k + 1 → okc s[j] = true from fun j h hj => by
          by_cases hjk : j < k
          · exact HG.out j h hjk
          · obtain rfl : j = k := by omega
            exact ho)
        clear ho
        rcases hc with hc | hc | hc
        all_goals
          go_wp2
          go_round
          case rel => exact ⟨k + 1, by omega, by go_num, HN.out⟩
          case measure => simp [intOf]; omega
      · obtain rfl : r = false := by rw [HR.out]; exact lab_no (Or.inl (not_okc hlt ho))
        clear ho
        have hne : ((s[k].toNat : Int) == 45) = false := by simp; omega
        rcases hc with hc | hc | hc | hc
        · go_wp2
          go_ret
          exact ⟨rfl, rfl⟩
        · go_wp2
          go_ret
          exact ⟨rfl, rfl⟩
        · have h5 : decide ((s[k].toNat : Int) ≤ 57) = false := by simp; omega
          go_wp2
          go_ret
          exact ⟨rfl, rfl⟩
        · have h5 : decide ((s[k].toNat : Int) ≤ 57) = false := by simp; omega
          have h6 : decide ((s[k].toNat : Int) ≤ 122) = false := by simp; omega
          go_wp2
          go_ret
          exact ⟨rfl, rfl⟩
    · obtain rfl : k = s.size := by omega
      have hA := all_okc (fun j h => HG.out j h h)
      have HA := Lib.hid hA
      clear hA
      by_cases hb : 1 ≤ s.size ∧ s.size ≤ 20
      · have HL := Lib.hid (HR.out.trans (lab_of HA.out hb.1 hb.2))
        clear HR
        go_wp2_with fail
        (with_reducible refine (C1.specIn_t _ 1 20 _ (by omega) (by omega)).mono ?_); rintro e w1 ⟨rfl, rfl⟩
        obtain ⟨b1, b2⟩ := hb
        have hi : 0 < s.size := by omega
        have hi2 : s.size - 1 < s.size := by omega
        by_cases h0 : s[0].toNat = 45
        · obtain rfl : r = false := by rw [HL.out]; simp [h0]
          clear HL
          go_wp2
          go_ret
          exact ⟨rfl, rfl⟩
        · by_cases h9 : s[s.size - 1].toNat = 45
          · obtain rfl : r = false := by rw [HL.out]; simp [h9]
            clear HL
            have e0 : ((s[0].toNat : Int) == 45) = false := by simp; omega
            go_wp2
            go_ret
            exact ⟨rfl, rfl⟩
          · obtain rfl : r = true := by rw [HL.out]; simp [h0, h9]
            clear HL
            have e0 : ((s[0].toNat : Int) == 45) = false := by simp; omega
            have e9 : ((s[s.size - 1].toNat : Int) == 45) = false := by simp; omega
            have hv : ((s[0].toNat : Int) != 45 && (s[s.size - 1].toNat : Int) != 45) = true := by simp [bne, e0, e9]
            go_wp2
            go_ret
            exact ⟨by rw [← hv]; rfl, rfl⟩
      · obtain rfl : r = false := by rw [HR.out]; exact lab_no (by omega)
        go_wp2_with fail
        (with_reducible refine (C1.specIn_f _ 1 20 _ (by omega)).mono ?_); rintro e w1 ⟨rfl, rfl⟩
        go_wp2
        go_ret
        exact ⟨rfl, rfl⟩
/-- A row of strings. -/
def strs (ls : List (List UInt8)) : List Value := ls.map fun l => .string ⟨l.toArray⟩
theorem strs_len (ls : List (List UInt8)) : (strs ls).length = ls.length := by simp [strs]
theorem strs_get {ls : List (List UInt8)} {k : Nat} {l : List UInt8} (h : ls[k]? = some l) : (strs ls)[k]? = some (.string ⟨l.toArray⟩) := by simp [strs, h]
theorem extract_is (s : ByteArray) (f k : Nat) (h : f ≤ k) (hk : k ≤ s.size) : s.extract f k = ⟨((s.data.toList.drop f).take (k - f)).toArray⟩ := by
  apply ByteArray.ext
  apply Array.ext'
  simp [ByteArray.data_extract]
theorem cut_len {s : List UInt8} {i f : Nat} {outs : List (List UInt8)} (h : (split s).length ≤ s.length + 1) (hc : Cut s i f outs) : outs.length ≤ s.length := by
  rw [hc.eq, List.length_append] at h
  have := List.length_pos_iff.2 (split_ne (s.drop f))
  omega
theorem split_len (s : List UInt8) : (split s).length ≤ s.length + 1 := by
  induction s with
  | nil => simp [split]
  | cons c cs ih =>
    by_cases hc : c = 46
    · subst hc; rw [split_at]; simp; omega
    · cases hs : split cs with
      | nil => exact absurd hs (split_ne cs)
      | cons x xs =>
        rw [hs] at ih
        rw [split_off hc hs]
        simp only [List.length_cons] at ih ⊢
        omega
theorem str_info : (Tryz.prog.info? 9).map (fun i => (i.zero, i.size, i.bytes)) = some (some (.string ⟨#[]⟩), 1, 16) := by kernel_rfl
theorem appS (w : World) {ops : Array Oper} {rest : List Oper} {o : Oper} {a : Act} {Q : Exit → Act → World → Prop} (hgd : o.guard = none) (s x : Operand)
    (ho : o.op = .call { callee := .builtin .append, args := #[s, x], argTypes := #[98, 98] }) (base : Nat) (v : Value) (n : Nat) (xs : List Value) (hs : a.eval s = v) (hown : w.ownsRow base 9 1 v n xs)
    (B : Nat) (A : Option Addr) (m c : Nat) (news : List Value) (hx : a.eval x = .slice A m c) (hr : Rd w B 1 A m news) (h1 : ∀ u ∈ news, u.oneCell' = true) (h63 : n + m ≤ 8796093022208) (hbase : base ≤ w.heap.size)
    (h : ∀ v' w', w'.ownsRow base 9 1 v' (n + m) (xs ++ news) → w.grownBy w' v.ownBlock → wpList Tryz.prog ops Q rest (a.put o.dst v') w') : wpList Tryz.prog ops Q (o :: rest) a w := by
  obtain ⟨i0, hi, hz0, hz1, hz2⟩ := info_parts str_info
  exact wpList_app w hgd s x 98 ho base 9 i0 (.string ⟨#[]⟩) 1 16 Tryz.underlying98 hi hz0 hz1 hz2 rfl (by decide) v n xs hs hown B A m c news hx hr h1 (by unfold maxLen; omega) (by omega) hbase h
/-- Where the loop stands. -/
def At (s : ByteArray) (w : World) (v fv iv : Value) (wr : World) : Prop :=
  (∃ (k f : Nat) (outs : List (List UInt8)), k ≤ s.size ∧ iv = .int .i64 k ∧ fv = .int .i64 f ∧ Cut s.data.toList k f outs ∧ wr.ownsRow w.heap.size 9 1 v outs.length (strs outs) ∧ Below w.heap.size w wr)
  ∨ (iv = .int .i64 ((s.size : Int) + 1) ∧ (∃ f : Nat, fv = .int .i64 f) ∧ wr.ownsRow w.heap.size 9 1 v (split s.data.toList).length (strs (split s.data.toList)) ∧ Below w.heap.size w wr)
set_option maxHeartbeats 1600000 in
set_option maxRecDepth 100000 in
theorem specLabs (s : ByteArray) (w : World) (hs : s.size ≤ 4294967296) : Calls Tryz.prog 65 #[.string s] w (MadeS 9 1 (split s.data.toList).length (strs (split s.data.toList)) w) := by
  have HSL := Lib.hid (split_len s.data.toList)
  have HDL := Lib.hid (data_len s)
  have h0 : (w.alloc (.cells #[] 9)).ownsRow w.heap.size 9 1 (.slice (some ⟨w.heap.size, 0, none⟩) 0 0) 0 (strs []) := own_lit w #[] 0 w.heap.size 9 (Nat.le_refl _) rfl (Nat.zero_le _)
  have HZ := Lib.hid (show At s w (.slice (some ⟨w.heap.size, 0, none⟩) 0 0) (.int .i64 0) (.int .i64 0) (w.alloc (.cells #[] 9)) from Or.inl ⟨0, 0, [], by omega, rfl, rfl, Cut.start _, h0, (Below.refl _ _).alloc (Nat.le_refl _) _⟩)
  clear h0
  go_enter Tryz.func65, Tryz.ntmps65
  go_wp2
  go_loopw [3, 4, 5] (fun v fv iv wr => At s w v fv iv wr) (fun _ _ i _ => s.size + 1 - (intOf i).toNat)
  case atStart => exact HZ.out
  case round =>
    rcases hrel with ⟨k, f, outs, hk, rfl, rfl, hC, ho, hb⟩ | ⟨rfl, ⟨f, rfl⟩, ho, hb⟩
    · have hol := cut_len HSL.out hC
      rw [HDL.out] at hol
      have hfk := hC.le
      have HC := Lib.hid hC
      have HO := Lib.hid ho
      have hws := hb.size
      obtain ⟨A, c, rfl⟩ := own_nil_form ho
      clear hC ho HZ
      by_cases hlt : k < s.size
      · have hkd : k < s.data.toList.length := by rw [HDL.out]; exact hlt
        have hkn : ((k : Int) == s.size) = false := by simp; omega
        by_cases hd : s[k].toNat = 46
        · have hd1 : s.data.toList[k] = 46 := by rw [data_get s k hlt, ← UInt8.toNat_inj]; exact hd
          have HN := Lib.hid (HC.out.dot hkd hd1)
          have HE := Lib.hid (extract_is s f k hfk hk)
          clear hd1
          go_wp2_with (at_builtin; refine appS _ rfl _ _ rfl w.heap.size _ _ _ rfl (HO.out.alloc _) _ _ 1 1 [.string (s.extract f k)] rfl (rd_one _ _ _) (fun u hu => by obtain rfl := List.mem_singleton.1 hu; rfl) (by omega) (by simp; omega) ?_; intro v2 w2 ho2 hg2)
          obtain ⟨A2, c2, rfl⟩ := own_nil_form ho2
          have hb2 := below_grown hg2 (show w.heap.size ≤ (wr.alloc _).heap.size by simp; omega) (fun j hj => (HO.out.lt j hj).1)
          have HB := Lib.hid ((hb.alloc hws _).trans hb2)
          have HO2 := Lib.hid (show w2.ownsRow w.heap.size 9 1 (.slice A2 (outs.length + 1) c2) (outs ++ [(s.data.toList.drop f).take (k - f)]).length (strs (outs ++ [(s.data.toList.drop f).take (k - f)])) by
            rw [List.length_append]
            simp only [strs, List.map_append, List.map_cons, List.map_nil] at ho2 ⊢
            rw [← HE.out]
            exact ho2)
          clear ho2 hg2 hb2
          go_roundw
          case rel => exact Or.inl ⟨k + 1, k + 1, _, by omega, by go_num, by go_num, HN.out, HO2.out, HB.out⟩
          case measure => simp [intOf]; omega
        · have hd1 : s.data.toList[k] ≠ 46 := by rw [data_get s k hlt]; intro e; exact hd (by rw [e]; rfl)
          have HN := Lib.hid (HC.out.char hkd hd1)
          have hne : ((s[k].toNat : Int) == 46) = false := by simp; omega
          clear hd1
          go_wp2
          go_roundw
          case rel => exact Or.inl ⟨k + 1, f, outs, by omega, by go_num, rfl, HN.out, HO.out, hb⟩
          case measure => simp [intOf]; omega
      · obtain rfl : k = s.size := by omega
        have hkn : ((s.size : Int) == s.size) = true := by simp
        have HN := Lib.hid (show split s.data.toList = outs ++ [s.data.toList.drop f] by have h := HC.out; rw [← HDL.out] at h; exact h.done)
        have HE := Lib.hid (show s.extract f s.size = ⟨(s.data.toList.drop f).toArray⟩ by rw [extract_is s f s.size hfk (Nat.le_refl _), List.take_of_length_le]; rw [List.length_drop, HDL.out]; omega)
        go_wp2_with (at_builtin; refine appS _ rfl _ _ rfl w.heap.size _ _ _ rfl (HO.out.alloc _) _ _ 1 1 [.string (s.extract f s.size)] rfl (rd_one _ _ _) (fun u hu => by obtain rfl := List.mem_singleton.1 hu; rfl) (by omega) (by simp; omega) ?_; intro v2 w2 ho2 hg2)
        obtain ⟨A2, c2, rfl⟩ := own_nil_form ho2
        have hb2 := below_grown hg2 (show w.heap.size ≤ (wr.alloc _).heap.size by simp; omega) (fun j hj => (HO.out.lt j hj).1)
        have HB := Lib.hid ((hb.alloc hws _).trans hb2)
        have HO2 := Lib.hid (show w2.ownsRow w.heap.size 9 1 (.slice A2 (outs.length + 1) c2) (split s.data.toList).length (strs (split s.data.toList)) by
          rw [HN.out, List.length_append]
          simp only [strs, List.map_append, List.map_cons, List.map_nil] at ho2 ⊢
          rw [← HE.out]
          exact ho2)
        clear ho2 hg2 hb2
        go_roundw
        case rel => exact Or.inr ⟨by go_num, ⟨s.size + 1, by go_num⟩, HO2.out, HB.out⟩
        case measure => simp [intOf]
    · have hd : decide ((s.size : Int) + 1 ≤ s.size) = false := by simp; omega
      have HO := Lib.hid ho
      obtain ⟨A, c, rfl⟩ := own_nil_form ho
      clear HZ ho
      go_wp2
      go_ret
      exact ⟨A, c, rfl, HO.out, hb⟩
/-- A string of a row, read. -/
theorem strs_at {w : World} {hi n : Nat} {A : Option Addr} {ls : List (List UInt8)} (h : Rd w hi 1 A n (strs ls)) {k : Nat} {l : List UInt8} (hk : ls[k]? = some l) :
    ∃ b off, A = some ⟨b, off, none⟩ ∧ b < hi ∧ w.cell? ⟨b, off + k, none⟩ = some (.string ⟨l.toArray⟩) := by
  have hlen : ls.length = n := by have := h.len1; rw [strs_len] at this; exact this
  have hkl : k < ls.length := (List.getElem?_eq_some_iff.1 hk).1
  obtain ⟨b, off, e, hb, hc⟩ := h.2 (by omega)
  exact ⟨b, off, e, hb, by rw [hc k (by omega)]; exact strs_get hk⟩
theorem split_sum (s : List UInt8) : ∀ x ∈ split s, x.length ≤ s.length := by
  induction s with
  | nil => intro x hx; simp [split] at hx; simp [hx]
  | cons c cs ih =>
    intro x hx
    by_cases hc : c = 46
    · subst hc
      rw [split_at] at hx
      rcases List.mem_cons.1 hx with rfl | hx
      · simp
      · have := ih x hx; simp; omega
    · cases hs : split cs with
      | nil => exact absurd hs (split_ne cs)
      | cons y ys =>
        rw [split_off hc hs] at hx
        rcases List.mem_cons.1 hx with rfl | hx
        · have := ih y (by rw [hs]; exact List.mem_cons_self ..); simp; omega
        · have := ih x (by rw [hs]; exact List.mem_cons_of_mem _ hx); simp; omega
set_option maxHeartbeats 1600000 in
set_option maxRecDepth 100000 in
theorem specHost (s : ByteArray) (w : World) (hs : s.size ≤ 4294967296) : Calls Tryz.prog 64 #[.string s] w (Gives (.bool (host s.data.toList)) w) := by
  obtain ⟨r, hr⟩ : ∃ r, r = host s.data.toList := ⟨_, rfl⟩
  rw [← hr]
  have HR := Lib.hid hr
  have HSS := Lib.hid (split_sum s.data.toList)
  have HDL := Lib.hid (data_len s)
  have hsl := split_len s.data.toList
  rw [HDL.out] at hsl
  clear hr
  go_enter Tryz.func64, Tryz.ntmps64
  go_wp2_with fail
  (with_reducible refine (specLabs s _ hs).mono ?_); rintro e w1 ⟨A, c, rfl, ho, hb⟩
  obtain ⟨ls, hls⟩ : ∃ ls, ls = split s.data.toList := ⟨_, rfl⟩
  rw [← hls] at ho hsl HSS ⊢
  have HLS := Lib.hid hls
  have RR := Lib.hid (Rd.own ho)
  obtain ⟨n, hn⟩ : ∃ n, n = ls.length := ⟨_, rfl⟩
  rw [← hn] at RR hsl ⊢
  have HN := Lib.hid hn
  clear ho hls hn
  have hwb := hb.size
  go_wp2
  go_loop [4] (fun i => ∃ k : Nat, k ≤ n ∧ i = .int .i64 k ∧ ∀ x ∈ ls.take k, lab x = true) (fun i => n - (intOf i).toNat)
  case atStart => exact ⟨0, by omega, rfl, fun x hx => by simp at hx⟩
  case round =>
    obtain ⟨k, hk, rfl, hG⟩ := hrel
    have HG := Lib.hid hG
    clear hG
    by_cases hlt : k < n
    · have hkl : k < ls.length := by rw [← HN.out]; exact hlt
      obtain ⟨b, off, rfl, hbl, hcell⟩ := strs_at RR.out (List.getElem?_eq_getElem hkl)
      have hsz : (⟨ls[k].toArray⟩ : ByteArray).size ≤ 4294967296 := by
        have := HSS.out ls[k] (List.getElem_mem _)
        rw [HDL.out] at this
        have e : (⟨ls[k].toArray⟩ : ByteArray).size = ls[k].length := by simp [ByteArray.size]
        omega
      have HL := Lib.hid (specLab ⟨ls[k].toArray⟩ w1 hsz)
      have e : (⟨ls[k].toArray⟩ : ByteArray).data.toList = ls[k] := by simp
      rw [e] at HL
      clear e hsz
      cases hlb : lab ls[k] with
      | true =>
        rw [hlb] at HL
        have HX := Lib.hid (show ∀ x ∈ ls.take (k + 1), lab x = true from fun x hx => by
          rw [List.take_succ_eq_append_getElem hkl] at hx
          rcases List.mem_append.1 hx with hx | hx
          · exact HG.out x hx
          · obtain rfl := List.mem_singleton.1 hx; exact hlb)
        clear hlb
        go_wp2_with fail
        (refine HL.out.mono ?_); rintro e w2 ⟨rfl, rfl⟩
        go_wp2
        go_round
        case rel => exact ⟨k + 1, by omega, by go_num, HX.out⟩
        case measure => simp [intOf]; omega
      | false =>
        rw [hlb] at HL
        obtain rfl : r = false := by
          rw [HR.out]
          unfold host
          have : (split s.data.toList).all lab = false := by
            rw [← Bool.not_eq_true, List.all_eq_true, ← HLS.out]
            intro h
            rw [h ls[k] (List.getElem_mem _)] at hlb
            cases hlb
          rw [this]; rfl
        clear hlb
        go_wp2_with fail
        (refine HL.out.mono ?_); rintro e w2 ⟨rfl, rfl⟩
        go_wp2
        go_ret
        exact ⟨rfl, hb⟩
    · obtain rfl : k = n := by omega
      obtain rfl : r = decide ((s.size : Int) ≤ 60) := by
        rw [HR.out]
        unfold host
        have h1 := HG.out
        rw [HN.out, List.take_length] at h1
        have : (split s.data.toList).all lab = true := by rw [List.all_eq_true, ← HLS.out]; exact h1
        rw [this, HDL.out]
        simp
        omega
      clear HR
      have hd : decide (k < k) = false := by simp
      go_wp2
      go_ret
      exact ⟨rfl, hb⟩
end Go.Proofs.YtogoppknimpkbaaGreatDoor.C9

/-
  Contracts of chapter 9's origins, of the model.
-/
namespace Go.Proofs.YtogoppknimpkbaaGreatDoor.C9b
open Go.ChangeShapes Go.WideShapes Go.ChangeAt Go.RowKit
open S0 S9 Dm Fx M12 M13 C9
set_option linter.unusedVariables false
set_option maxHeartbeats 1600000 in
set_option maxRecDepth 100000 in
theorem specOrg (w : World) (x : Fx.Origin) (vs : List Value) (h : RdsL w w.heap.size x.dcs vs) (hs : x.Host.size ≤ 4294967296) : Calls Tryz.prog 63 #[.agg vs.toArray] w (Gives (.bool (orgB x)) w) := by
  obtain rfl := Origin.rds h
  obtain ⟨r, hr⟩ : ∃ r, r = orgB x := ⟨_, rfl⟩
  rw [← hr]
  have HR := Lib.hid hr
  clear hr h
  have b0 : Below w.heap.size w (w.alloc (.cells #[.bool x.Secure, .string x.Host, .int .i64 x.Port] 43)) := (Below.refl _ _).alloc (Nat.le_refl _) _
  have HH := Lib.hid (show Calls Tryz.prog 64 #[.string x.Host] (w.alloc (.cells #[.bool x.Secure, .string x.Host, .int .i64 x.Port] 43)) (Gives (.bool (host (bts x.Host))) (w.alloc (.cells #[.bool x.Secure, .string x.Host, .int .i64 x.Port] 43))) from specHost x.Host _ hs)
  cases hh : host (bts x.Host) with
  | false =>
    obtain rfl : r = false := by rw [HR.out]; unfold orgB; rw [hh]; rfl
    rw [hh] at HH
    go_enter Tryz.func63, Tryz.ntmps63
    go_wp2_with fail
    (refine HH.out.mono ?_); rintro e w2 ⟨rfl, b2⟩
    go_wp2
    go_ret
    exact ⟨rfl, b0.trans (b2.mono b0.size)⟩
  | true =>
    rw [hh] at HH
    have hp2 : r = (decide (1 ≤ x.Port) && decide (x.Port ≤ 65535)) := by rw [HR.out]; unfold orgB; rw [hh]; rfl
    clear HR hh
    go_enter Tryz.func63, Tryz.ntmps63
    go_wp2_with fail
    (refine HH.out.mono ?_); rintro e w2 ⟨rfl, b2⟩
    have c2 : w2.cell? ⟨w.heap.size, 2, none⟩ = some (.int .i64 x.Port) := (b2.cell (p := ⟨w.heap.size, 2, none⟩) (by simp)).trans (by exact cell_of_row _ _ 2 _ 43 (0, 0) (heap_alloc_last w _))
    by_cases hp : 1 ≤ x.Port ∧ x.Port ≤ 65535
    · obtain rfl : r = true := by rw [hp2, decide_eq_true hp.1, decide_eq_true hp.2]; rfl
      clear hp2
      go_wp2_with fail
      (with_reducible refine (C1.specIn_t _ 1 65535 _ hp.1 hp.2).mono ?_); rintro e w3 ⟨rfl, rfl⟩
      go_wp2
      go_ret
      exact ⟨rfl, b0.trans (b2.mono b0.size)⟩
    · obtain rfl : r = false := by
        rw [hp2]
        by_cases h1 : 1 ≤ x.Port
        · rw [decide_eq_true h1, decide_eq_false (by omega)]; rfl
        · rw [decide_eq_false h1]; rfl
      clear hp2
      go_wp2_with fail
      (with_reducible refine (C1.specIn_f _ 1 65535 _ (by omega)).mono ?_); rintro e w3 ⟨rfl, rfl⟩
      go_wp2
      go_ret
      exact ⟨rfl, b0.trans (b2.mono b0.size)⟩
theorem itoa_size (n : Int) (h0 : 1 ≤ n) (h1 : n ≤ 65535) : (Lib.itoa n).length ≤ 20 := by
  have h := C1P.itoa_nat n.toNat
  rw [show ((n.toNat : Nat) : Int) = n by omega] at h
  rw [h]
  have := M1P.digits_len13 n.toNat (by omega)
  omega
set_option maxHeartbeats 3200000 in
set_option maxRecDepth 100000 in
theorem specFmtO (w : World) (x : Fx.Origin) (vs : List Value) (h : RdsL w w.heap.size x.dcs vs) (hs : x.Host.size ≤ 4294967296) : Calls Tryz.prog 67 #[.agg vs.toArray] w (Gives (.string (str (fmtO x))) w) := by
  obtain rfl := Origin.rds h
  obtain ⟨w1, hw1⟩ : ∃ y, y = w.alloc (.cells #[.bool x.Secure, .string x.Host, .int .i64 x.Port] 43) := ⟨_, rfl⟩
  have b0 : Below w.heap.size w w1 := hw1 ▸ (Below.refl _ _).alloc (Nat.le_refl _) _
  have op := Fx.var_owns w 43 3 [.bool x.Secure, .string x.Host, .int .i64 x.Port] rfl
  rw [← hw1] at op
  have HR1 := Lib.hid (rdsL_on h b0)
  clear h
  cases ho : orgB x with
  | false =>
    have HF := Lib.hid (show str (fmtO x) = ⟨#[]⟩ by rw [fmtO_f ho]; rfl)
    have HO := Lib.hid (show Calls Tryz.prog 63 #[.agg [.bool x.Secure, .string x.Host, .int .i64 x.Port].toArray] w1 (Gives (.bool false) w1) from ho ▸ specOrg w1 x _ HR1.out hs)
    clear ho
    go_enter Tryz.func67, Tryz.ntmps67
    go_wp2_with fail
    rw [← hw1]
    (refine HO.out.mono ?_); rintro e w2 ⟨rfl, b2⟩
    go_wp2
    go_ret
    exact ⟨by rw [HF.out]; rfl, b0.trans (b2.mono b0.size)⟩
  | true =>
    obtain ⟨hh, hp0, hp1⟩ := orgB_parts ho
    have hh60 := host_len hh
    rw [bts_len] at hh60
    have HO := Lib.hid (show Calls Tryz.prog 63 #[.agg [.bool x.Secure, .string x.Host, .int .i64 x.Port].toArray] w1 (Gives (.bool true) w1) from ho ▸ specOrg w1 x _ HR1.out hs)
    have HT := Lib.hid (fmtO_t ho)
    have his := itoa_size x.Port hp0 hp1
    clear ho hh
    go_enter Tryz.func67, Tryz.ntmps67
    go_wp2_with fail
    rw [← hw1]
    (refine HO.out.mono ?_); rintro e w2 ⟨rfl, b2⟩
    have op2 := owns_below op b2
    have c0 : w2.cell? ⟨w.heap.size, 0, none⟩ = some (.bool x.Secure) := Fx.var_load op2 (by simp) 0 _ rfl
    have c1 : w2.cell? ⟨w.heap.size, 1, none⟩ = some (.string x.Host) := Fx.var_load op2 (by simp) 1 _ rfl
    have c2 : w2.cell? ⟨w.heap.size, 2, none⟩ = some (.int .i64 x.Port) := Fx.var_load op2 (by simp) 2 _ rfl
    have HB := Lib.hid (b0.trans (b2.mono b0.size))
    have lp := Fx.var_lt op2
    clear op op2 b2 HO HR1 hw1 b0
    cases hsec : x.Secure with
    | true =>
      rw [hsec] at c0
      by_cases hu : x.Port = 443
      · have hub : (x.Port == 443) = true := by simpa using hu
        have HV := Lib.hid (show str (fmtO x) = ⟨#[104, 116, 116, 112, 115, 58, 47, 47]⟩ ++ x.Host by
          apply bts_inj
          rw [bts_str, HT.out, hsec, hu, bts_app]
          simp [usual, pre]
          rfl)
        go_wp2
        go_ret
        exact ⟨by rw [HV.out]; rfl, HB.out⟩
      · have hub : (x.Port == 443) = false := by simpa using hu
        have HV := Lib.hid (show str (fmtO x) = ⟨#[104, 116, 116, 112, 115, 58, 47, 47]⟩ ++ x.Host ++ ⟨#[58]⟩ ++ ⟨(Lib.itoa x.Port).toArray⟩ by
          apply bts_inj
          rw [bts_str, HT.out, hsec, bts_app, bts_app, bts_app, if_neg (by simpa [usual] using hu)]
          simp [pre, bts])
        have n1 : ¬ 9223372036854775807 < 8 + x.Host.size := by omega
        have n2 : ¬ 9223372036854775807 < 8 + x.Host.size + 1 := by omega
        have n3 : ¬ 9223372036854775807 < 8 + x.Host.size + 1 + (Lib.itoa x.Port).length := by omega
        go_wp2_with fail
        go_region_held3 (fun wx => wx.cell? ⟨w.heap.size, 1, none⟩ = some (.string x.Host) ∧ wx.cell? ⟨w.heap.size, 2, none⟩ = some (.int .i64 x.Port)) (first | exact ⟨c1, c2⟩ | exact ⟨k1, k2⟩) (first | (go_at_call 99; (with_reducible refine (C1F.specFmt x.Port _ (by omega) (by omega)).mono ?_); rintro e w3 ⟨rfl, b3⟩; replace b3 : Below w2.heap.size w2 w3 := (drewN_below w2 1 _).trans b3; have k1 := (b3.cell (p := ⟨w.heap.size, 1, none⟩) lp).trans c1; have k2 := (b3.cell (p := ⟨w.heap.size, 2, none⟩) lp).trans c2))
        have HB3 := HB.out.trans (b3.mono HB.out.size)
        go_wp2
        go_ret
        exact ⟨by rw [HV.out]; rfl, HB3⟩
    | false =>
      rw [hsec] at c0
      by_cases hu : x.Port = 80
      · have hub : (x.Port == 80) = true := by simpa using hu
        have HV := Lib.hid (show str (fmtO x) = ⟨#[104, 116, 116, 112, 58, 47, 47]⟩ ++ x.Host by
          apply bts_inj
          rw [bts_str, HT.out, hsec, hu, bts_app]
          simp [usual, pre]
          rfl)
        go_wp2
        go_ret
        exact ⟨by rw [HV.out]; rfl, HB.out⟩
      · have hub : (x.Port == 80) = false := by simpa using hu
        have HV := Lib.hid (show str (fmtO x) = ⟨#[104, 116, 116, 112, 58, 47, 47]⟩ ++ x.Host ++ ⟨#[58]⟩ ++ ⟨(Lib.itoa x.Port).toArray⟩ by
          apply bts_inj
          rw [bts_str, HT.out, hsec, bts_app, bts_app, bts_app, if_neg (by simpa [usual] using hu)]
          simp [pre, bts])
        have n1 : ¬ 9223372036854775807 < 7 + x.Host.size := by omega
        have n2 : ¬ 9223372036854775807 < 7 + x.Host.size + 1 := by omega
        have n3 : ¬ 9223372036854775807 < 7 + x.Host.size + 1 + (Lib.itoa x.Port).length := by omega
        go_wp2_with fail
        go_region_held3 (fun wx => wx.cell? ⟨w.heap.size, 1, none⟩ = some (.string x.Host) ∧ wx.cell? ⟨w.heap.size, 2, none⟩ = some (.int .i64 x.Port)) (first | exact ⟨c1, c2⟩ | exact ⟨k1, k2⟩) (first | (go_at_call 99; (with_reducible refine (C1F.specFmt x.Port _ (by omega) (by omega)).mono ?_); rintro e w3 ⟨rfl, b3⟩; replace b3 : Below w2.heap.size w2 w3 := (drewN_below w2 1 _).trans b3; have k1 := (b3.cell (p := ⟨w.heap.size, 1, none⟩) lp).trans c1; have k2 := (b3.cell (p := ⟨w.heap.size, 2, none⟩) lp).trans c2))
        have HB3 := HB.out.trans (b3.mono HB.out.size)
        go_wp2
        go_ret
        exact ⟨by rw [HV.out]; rfl, HB3⟩
theorem reg_f {s : List UInt8} (h : host s = false) : reg s = [] := by unfold reg; rw [if_neg (by rw [h]; simp)]
theorem reg_t {s : List UInt8} (h : host s = true) : reg s = if (split s).length < 2 then s else (split s).getD ((split s).length - 2) [] ++ 46 :: (split s).getD ((split s).length - 1) [] := by unfold reg; rw [if_pos h]
set_option maxHeartbeats 1600000 in
set_option maxRecDepth 100000 in
theorem specReg (w : World) (s : ByteArray) (hs : s.size ≤ 4294967296) : Calls Tryz.prog 53 #[.string s] w (Gives (.string (str (reg (bts s)))) w) := by
  have HH := Lib.hid (show Calls Tryz.prog 64 #[.string s] w (Gives (.bool (host (bts s))) w) from specHost s w hs)
  cases hh : host (bts s) with
  | false =>
    have HF := Lib.hid (show str (reg (bts s)) = ⟨#[]⟩ by rw [reg_f hh]; rfl)
    rw [hh] at HH
    go_enter Tryz.func53, Tryz.ntmps53
    go_wp2_with fail
    (refine HH.out.mono ?_); rintro e w2 ⟨rfl, b2⟩
    go_wp2
    go_ret
    exact ⟨by rw [HF.out]; rfl, b2⟩
  | true =>
    rw [hh] at HH
    have HT := Lib.hid (reg_t hh)
    have hlen := host_len hh
    have hsl := split_len (bts s)
    have HSS := Lib.hid (split_sum (bts s))
    obtain ⟨ls, hls⟩ : ∃ ls, ls = split (bts s) := ⟨_, rfl⟩
    rw [← hls] at HT hsl HSS
    have HLS := Lib.hid (fun (w2 : World) => show Calls Tryz.prog 65 #[.string s] w2 (MadeS 9 1 ls.length (strs ls) w2) from hls ▸ specLabs s w2 hs)
    clear hls hh
    go_enter Tryz.func53, Tryz.ntmps53
    go_wp2_with fail
    (refine HH.out.mono ?_); rintro e w2 ⟨rfl, b2⟩
    go_wp2_with fail
    (refine (HLS.out _).mono ?_); rintro e w3 ⟨A, c, rfl, ho, b3⟩
    have RR := Lib.hid (Rd.own ho)
    have HB := Lib.hid (b2.trans (b3.mono b2.size))
    clear ho b2 b3
    by_cases h2 : ls.length < 2
    · have HV := Lib.hid (show str (reg (bts s)) = s by rw [HT.out, if_pos h2, str_bts])
      have h2i : ((ls.length : Nat) : Int) < 2 := by omega
      go_wp2
      go_ret
      exact ⟨by rw [HV.out]; rfl, HB.out⟩
    · obtain ⟨m, hm⟩ : ∃ m, ls.length = m + 2 := ⟨ls.length - 2, by omega⟩
      have HM := Lib.hid hm
      have ha : ls[m]? = some ls[m] := List.getElem?_eq_getElem (by omega)
      have hb : ls[m + 1]? = some ls[m + 1] := List.getElem?_eq_getElem (by omega)
      have sa := HSS.out ls[m] (List.getElem_mem _)
      have sb := HSS.out ls[m + 1] (List.getElem_mem _)
      obtain ⟨x, hx⟩ : ∃ x, x = ls[m] := ⟨_, rfl⟩
      obtain ⟨y, hy⟩ : ∃ y, y = ls[m + 1] := ⟨_, rfl⟩
      rw [← hx] at ha sa
      rw [← hy] at hb sb
      have HV := Lib.hid (show str (reg (bts s)) = str x ++ ⟨#[46]⟩ ++ str y by
        apply bts_inj
        rw [bts_str, HT.out, if_neg h2, hm, show m + 2 - 2 = m by omega, show m + 2 - 1 = m + 1 by omega, List.getD_eq_getElem?_getD, List.getD_eq_getElem?_getD, ha, hb, bts_app, bts_app, bts_str, bts_str]
        simp [bts])
      obtain ⟨g, off, rfl, hg, c0⟩ := strs_at RR.out ha
      obtain ⟨g2, off2, e2, _, c1⟩ := strs_at RR.out hb
      injection e2 with e2; injection e2 with e2 e3; subst e2 e3
      change w3.cell? ⟨g, off + m, none⟩ = some (.string (str x)) at c0
      change w3.cell? ⟨g, off + (m + 1), none⟩ = some (.string (str y)) at c1
      have sx : (str x).size ≤ 60 := by rw [str_size]; omega
      have sy : (str y).size ≤ 60 := by rw [str_size]; omega
      obtain ⟨X, hX⟩ : ∃ X, X = str x := ⟨_, rfl⟩
      obtain ⟨Y, hY⟩ : ∃ Y, Y = str y := ⟨_, rfl⟩
      rw [← hX] at c0 sx HV
      rw [← hY] at c1 sy HV
      have n1 : ¬ 9223372036854775807 < X.size + 1 := by omega
      have n2 : ¬ 9223372036854775807 < X.size + 1 + Y.size := by omega
      rw [hm]
      have hml : m ≤ 61 := by omega
      clear hx hy ha hb sa sb hX hY HSS hsl h2 RR hm
      have i0 : ((m + 2 : Nat) : Int) = (m : Int) + 2 := by omega
      have i1 : IntKind.i64.wrap ((m : Int) + 2 - 2) = m := by rw [IntKind.wrap_i64]; omega
      have i2 : IntKind.i64.wrap ((m : Int) + 2 - 1) = (m : Int) + 1 := by rw [IntKind.wrap_i64]; omega
      have i3 : ((m : Int) + 1).toNat = m + 1 := by omega
      have i4 : (0 : Int) ≤ (m : Int) + 1 := by omega
      have i5 : (m : Int) + 1 < (m : Int) + 2 := by omega
      have i6 : (m : Int) < (m : Int) + 2 := by omega
      go_wp2_with fail
      go_quiet (fail)
      go_wp2
      go_ret
      exact ⟨by rw [HV.out]; rfl, HB.out.trans (drewN_below _ _ _)⟩
set_option maxRecDepth 100000 in
theorem specSiteH (w : World) (s : ByteArray) (hs : s.size ≤ 16000000) : Calls Tryz.prog 70 #[.string s] w (Gives (.int .i64 (M3.derive 173 (C3b.sbytes s))) w) := by
  go_enter Tryz.func70, Tryz.ntmps70
  go_wp2_with fail
  (with_reducible refine (C3b.specDerive _ 173 s (by omega) (by omega) hs).mono ?_); rintro e w2 ⟨rfl, b2⟩
  go_wp2
  go_ret
  exact ⟨rfl, b2⟩
set_option maxHeartbeats 3200000 in
set_option maxRecDepth 100000 in
theorem specMay (w : World) (x : Fx.Origin) (s : ByteArray) (us : List Value) (h : RdsL w w.heap.size x.dcs us) (hx : x.Host.size ≤ 4294967296) (hs : s.size ≤ 4294967296) :
    Calls Tryz.prog 32 #[.agg us.toArray, .string s] w (Gives (.bool (mayO x (bts s))) w) := by
  obtain rfl := Origin.rds h
  clear h
  obtain ⟨w1, hw1⟩ : ∃ z, z = w.alloc (.cells #[.bool x.Secure, .string x.Host, .int .i64 x.Port] 43) := ⟨_, rfl⟩
  have op := Fx.var_owns w 43 3 [.bool x.Secure, .string x.Host, .int .i64 x.Port] rfl
  have HB : Below w.heap.size w w1 := hw1 ▸ (Below.refl _ _).alloc (Nat.le_refl _) _
  rw [← hw1] at op
  have l1 : w.heap.size < w1.heap.size := Fx.var_lt op
  have HF := Lib.hid (show ∀ wx, Below w1.heap.size w1 wx → wx.cell? ⟨w.heap.size, 0, none⟩ = some (.bool x.Secure) ∧ wx.cell? ⟨w.heap.size, 1, none⟩ = some (.string x.Host) from fun wx hb =>
    ⟨Fx.var_load (owns_below op hb) (by simp) 0 _ rfl, Fx.var_load (owns_below op hb) (by simp) 1 _ rfl⟩)
  clear op
  obtain ⟨r, hr⟩ : ∃ r, r = mayO x (bts s) := ⟨_, rfl⟩
  rw [← hr]
  have HR := Lib.hid hr
  clear hr
  cases ha : orgB x with
  | false =>
    have HA := Lib.hid (fun wx : World => show Calls Tryz.prog 63 #[.agg ([.bool x.Secure, .string x.Host, .int .i64 x.Port] : List Value).toArray] wx (Gives (.bool false) wx) from ha ▸ specOrg wx x _ Origin.mkR hx)
    obtain rfl : r = false := by rw [HR.out]; unfold mayO; rw [ha]; rfl
    clear ha HR
    go_enter Tryz.func32, Tryz.ntmps32
    go_wp2_with fail
    rw [← hw1]
    (refine (HA.out _).mono ?_); rintro e w2 ⟨rfl, b2⟩
    go_wp2
    go_ret
    exact ⟨rfl, HB.trans (b2.mono HB.size)⟩
  | true =>
    have HA := Lib.hid (fun wx : World => show Calls Tryz.prog 63 #[.agg ([.bool x.Secure, .string x.Host, .int .i64 x.Port] : List Value).toArray] wx (Gives (.bool true) wx) from ha ▸ specOrg wx x _ Origin.mkR hx)
    have hh60 := host_len (orgB_parts ha).1
    rw [bts_len] at hh60
    go_enter Tryz.func32, Tryz.ntmps32
    go_wp2_with fail
    rw [← hw1]
    (refine (HA.out _).mono ?_); rintro e w2 ⟨rfl, b2⟩
    obtain ⟨c0, c1⟩ := HF.out w2 b2
    have lp2 : w.heap.size < w2.heap.size := Nat.lt_of_lt_of_le l1 b2.size
    cases hsec : x.Secure with
    | false =>
      rw [hsec] at c0
      obtain rfl : r = false := by rw [HR.out]; unfold mayO; rw [ha, hsec]; rfl
      clear ha HR HA hw1
      go_wp2
      go_ret
      exact ⟨rfl, HB.trans (b2.mono HB.size)⟩
    | true =>
      rw [hsec] at c0
      cases hh : host (bts s) with
      | false =>
        obtain rfl : r = false := by rw [HR.out]; unfold mayO; rw [ha, hsec, hh]; rfl
        have HH := Lib.hid (fun wx : World => show Calls Tryz.prog 64 #[.string s] wx (Gives (.bool false) wx) from hh ▸ specHost s wx hs)
        clear ha HR HA hw1 hh
        go_wp2_with fail
        (refine (HH.out _).mono ?_); rintro e w3 ⟨rfl, b3⟩
        go_wp2
        go_ret
        have b4 := b2.trans (b3.mono b2.size)
        exact ⟨rfl, HB.trans (b4.mono HB.size)⟩
      | true =>
        have HH := Lib.hid (fun wx : World => show Calls Tryz.prog 64 #[.string s] wx (Gives (.bool true) wx) from hh ▸ specHost s wx hs)
        have hs60 := host_len hh
        rw [bts_len] at hs60
        have HLS := Lib.hid (fun wx : World => show Calls Tryz.prog 65 #[.string s] wx (MadeS 9 1 (split (bts s)).length (strs (split (bts s))) wx) from specLabs s wx hs)
        obtain ⟨m, hm⟩ : ∃ m, m = (split (bts s)).length := ⟨_, rfl⟩
        rw [← hm] at HLS
        have hml := split_len (bts s)
        rw [← hm, bts_len] at hml
        have HR2 := Lib.hid (show r = (decide (2 ≤ m) && (bts x.Host == bts s || (46 :: bts s).isSuffixOf (bts x.Host))) by rw [HR.out]; unfold mayO; rw [ha, hsec, hh, hm]; simp)
        clear ha HR HA hw1 hh hm
        go_wp2_with fail
        (refine (HH.out _).mono ?_); rintro e w3 ⟨rfl, b3⟩
        go_wp2_with fail
        (refine (HLS.out _).mono ?_); rintro e w4 ⟨A, c, rfl, ho, b4⟩
        have b34 := b2.trans ((b3.trans (b4.mono b3.size)).mono b2.size)
        have HB4 := HB.trans (b34.mono HB.size)
        obtain ⟨k0, k1⟩ := HF.out w4 b34
        have lp4 : w.heap.size < w4.heap.size := Nat.lt_of_lt_of_le l1 b34.size
        clear ho b2 b3 b4 c0 c1 HF HH HLS
        by_cases h2 : m < 2
        · obtain rfl : r = false := by rw [HR2.out, decide_eq_false (by omega)]; rfl
          have h2i : ((m : Nat) : Int) < 2 := by omega
          clear HR2
          go_wp2
          go_ret
          exact ⟨rfl, HB4⟩
        · have h2i : ¬ ((m : Nat) : Int) < 2 := by omega
          have HV := Lib.hid (show r = (bts x.Host == bts s || (46 :: bts s).isSuffixOf (bts x.Host)) by rw [HR2.out, decide_eq_true (by omega)]; rfl)
          clear HR2
          by_cases he : bts x.Host = bts s
          · obtain rfl : r = true := by rw [HV.out, he]; simp
            have heb : (x.Host.toList == s.toList) = true := by rw [toList_bts, toList_bts, he]; simp
            clear HV he
            go_wp2
            go_ret
            exact ⟨rfl, HB4⟩
          · have heb : (x.Host.toList == s.toList) = false := by rw [toList_bts, toList_bts]; simpa using he
            have heb2 : (bts x.Host == bts s) = false := by simpa using he
            by_cases hn : s.size < x.Host.size
            · have hidx : x.Host.size - s.size - 1 < x.Host.size := by omega
              have hsum : x.Host.size - s.size + (bts s).length = (bts x.Host).length := by rw [bts_len, bts_len]; omega
              have hcut : bts (x.Host.extract (x.Host.size - s.size) x.Host.size) = (bts x.Host).drop (x.Host.size - s.size) := by
                rw [extract_is x.Host _ _ (by omega) (Nat.le_refl _)]
                show bts (str _) = _
                rw [bts_str, List.take_of_length_le]
                · rfl
                · rw [List.length_drop]; have := bts_len x.Host; show (bts x.Host).length - _ ≤ _; omega
              have hch : (bts x.Host).getD (x.Host.size - s.size - 1) 0 = x.Host[x.Host.size - s.size - 1] := by
                rw [List.getD_eq_getElem?_getD, List.getElem?_eq_getElem (by rw [bts_len]; exact hidx)]
                exact data_get x.Host _ hidx
              have hfin : r = ((x.Host.extract (x.Host.size - s.size) x.Host.size).toList == s.toList && (x.Host[x.Host.size - s.size - 1].toNat : Int) == 46) := by
                rw [HV.out, heb2, suffix_at hsum (by omega), ← hcut, hch, toList_bts, toList_bts, Bool.false_or]
                congr 1
                rw [Bool.eq_iff_iff]
                simp only [beq_iff_eq]
                obtain ⟨u, hu⟩ : ∃ u : UInt8, u = x.Host[x.Host.size - s.size - 1] := ⟨_, rfl⟩
                rw [← hu]
                refine ⟨fun e => by rw [e]; rfl, fun e => ?_⟩
                rw [← UInt8.toNat_inj]
                show u.toNat = 46
                omega
              have HX := Lib.hid hfin
              clear HV he hsum hcut hch hfin
              cases h3 : (x.Host.extract (x.Host.size - s.size) x.Host.size).toList == s.toList with
              | false =>
                obtain rfl : r = false := by rw [HX.out, h3]; rfl
                clear HX
                go_wp2
                go_ret
                exact ⟨rfl, HB4⟩
              | true =>
                cases h4 : (x.Host[x.Host.size - s.size - 1].toNat : Int) == 46 with
                | false =>
                  obtain rfl : r = false := by rw [HX.out, h3, h4]; rfl
                  clear HX
                  go_wp2
                  go_ret
                  exact ⟨rfl, HB4⟩
                | true =>
                  obtain rfl : r = true := by rw [HX.out, h3, h4]; rfl
                  clear HX
                  go_wp2
                  go_ret
                  exact ⟨rfl, HB4⟩
            · obtain rfl : r = false := by rw [HV.out, heb2, suffix_short (by rw [bts_len, bts_len]; omega)]; rfl
              clear HV he
              go_wp2
              go_ret
              exact ⟨rfl, HB4⟩
end Go.Proofs.YtogoppknimpkbaaGreatDoor.C9b

/-
  A host told character by character, and the last two labels of one, in plain lists of bytes.
-/
namespace Go.Proofs.YtogoppknimpkbaaGreatDoor.M12i
open M12
set_option linter.unusedVariables false
def alnum (c : UInt8) : Bool := (decide (97 ≤ c.toNat) && decide (c.toNat ≤ 122)) || (decide (48 ≤ c.toNat) && decide (c.toNat ≤ 57))
theorem okc_alnum (c : UInt8) : okc c = (alnum c || c.toNat == 45) := rfl
theorem okc_ne {c : UInt8} (h : okc c = true) : c ≠ 46 := by intro e; subst e; exact absurd h (by decide)
theorem alnum_of {c : UInt8} (h : okc c = true) : alnum c = (some c != some 45) := by
  rw [okc_alnum] at h
  by_cases hc : c = 45
  · subst hc; rfl
  · have h5 : (c.toNat == 45) = false := by
      rw [beq_eq_false_iff_ne]; intro e; exact hc (by rw [← UInt8.toNat_inj]; exact e)
    rw [h5, Bool.or_false] at h
    rw [h]
    have : (some c == some 45) = false := by rw [beq_eq_false_iff_ne]; simpa using hc
    rw [bne, this]; rfl
/-- May the character stand behind the one before it? -/
def mayB (c p : UInt8) : Bool := if c = 46 then alnum p else if c = 45 then !(p == 46) else alnum c
def scan : UInt8 → Nat → List UInt8 → Bool
  | p, _, [] => alnum p
  | p, n, c :: cs => mayB c p && decide ((if c = 46 then 0 else n + 1) ≤ 20) && scan c (if c = 46 then 0 else n + 1) cs
/-- The last character of the label so far; a dot where there is none. -/
def lastc (l : List UInt8) : UInt8 := l.getLast?.getD 46
theorem lab_end {l : List UInt8} (ha : l.all okc = true) (hl : l.length ≤ 20) (hh : l.head? ≠ some 45) : lab l = alnum (lastc l) := by
  rcases List.eq_nil_or_concat l with rfl | ⟨l', c, rfl⟩
  · rfl
  · rw [List.concat_eq_append] at *
    have hc : okc c = true := List.all_eq_true.1 ha c (by simp)
    have e1 : lastc (l' ++ [c]) = c := by simp [lastc]
    rw [e1, alnum_of hc]
    unfold lab
    have e2 : ((l' ++ [c]).head? != some 45) = true := by rw [bne, Bool.not_eq_true', beq_eq_false_iff_ne]; exact hh
    have e3 : (l' ++ [c]).getLast? = some c := by simp
    rw [ha, e2, e3, decide_eq_true (by simp), decide_eq_true hl]
    rfl
theorem lab_f1 {l x : List UInt8} {c : UInt8} (h : okc c = false) : lab (l ++ c :: x) = false := by
  have : (l ++ c :: x).all okc = false := by
    rw [← Bool.not_eq_true, List.all_eq_true]
    intro k
    rw [k c (by simp)] at h; cases h
  unfold lab; rw [this]; rfl
theorem lab_f2 {l : List UInt8} (h : 20 < l.length) : lab l = false := by
  unfold lab; rw [decide_eq_false (show ¬ l.length ≤ 20 by omega)]; simp
theorem lab_f3 {x : List UInt8} : lab (45 :: x) = false := by
  unfold lab; simp
theorem last_dot {l : List UInt8} (ha : l.all okc = true) (h : lastc l = 46) : l = [] := by
  rcases List.eq_nil_or_concat l with rfl | ⟨l', c, rfl⟩
  · rfl
  · rw [List.concat_eq_append] at *
    have hc : okc c = true := List.all_eq_true.1 ha c (by simp)
    have e1 : lastc (l' ++ [c]) = c := by simp [lastc]
    rw [e1] at h
    exact absurd h (okc_ne hc)
theorem scan_is (s : List UInt8) : ∀ l : List UInt8, l.all okc = true → l.length ≤ 20 → l.head? ≠ some 45 → scan (lastc l) l.length s = (glue l (split s)).all lab := by
  induction s with
  | nil =>
    intro l ha hl hh
    show alnum (lastc l) = _
    simp [split, glue, lab_end ha hl hh]
  | cons c cs ih =>
    intro l ha hl hh
    by_cases hc : c = 46
    · subst hc
      have h0 := ih [] rfl (Nat.zero_le _) (by simp)
      have e0 : glue [] (split cs) = split cs := by
        cases hs : split cs with
        | nil => exact absurd hs (split_ne cs)
        | cons x xs => rfl
      rw [e0] at h0
      have h1 : scan 46 0 cs = (split cs).all lab := h0
      rw [split_at]
      show (alnum (lastc l) && true && scan 46 0 cs) = (lab (l ++ []) && (split cs).all lab)
      rw [h1, List.append_nil, lab_end ha hl hh, Bool.and_true]
    · cases hs : split cs with
      | nil => exact absurd hs (split_ne cs)
      | cons x xs =>
        rw [split_off hc hs]
        have eu : scan (lastc l) l.length (c :: cs) = (mayB c (lastc l) && decide (l.length + 1 ≤ 20) && scan c (l.length + 1) cs) := by
          show (mayB c (lastc l) && decide ((if c = 46 then 0 else l.length + 1) ≤ 20) && scan c (if c = 46 then 0 else l.length + 1) cs) = _
          rw [if_neg hc]
        rw [eu]
        show _ = (lab (l ++ c :: x) && xs.all lab)
        have em : mayB c (lastc l) = if c = 45 then !(lastc l == 46) else alnum c := by unfold mayB; rw [if_neg hc]
        cases hm : mayB c (lastc l) with
        | false =>
          rw [hm] at em
          have : lab (l ++ c :: x) = false := by
            by_cases h5 : c = 45
            · rw [if_pos h5] at em
              have : lastc l = 46 := by simpa using em
              rw [last_dot ha this, h5]
              exact lab_f3
            · rw [if_neg h5] at em
              refine lab_f1 ?_
              rw [okc_alnum, ← em, Bool.false_or, beq_eq_false_iff_ne]
              intro e; exact h5 (by rw [← UInt8.toNat_inj]; exact e)
          rw [this]; rfl
        | true =>
          by_cases hl2 : l.length + 1 ≤ 20
          · have hok : okc c = true := by
              by_cases h5 : c = 45
              · rw [h5]; rfl
              · rw [hm, if_neg h5] at em
                rw [okc_alnum, ← em]; rfl
            have h1 := ih (l ++ [c]) (by rw [List.all_append, ha]; simp [hok]) (by simpa using hl2) (by
              cases l with
              | nil =>
                intro e
                have e : c = 45 := by simpa using e
                rw [hm, if_pos e] at em
                exact absurd em (by decide)
              | cons a l => simpa using hh)
            have e1 : lastc (l ++ [c]) = c := by simp [lastc]
            have e2 : (l ++ [c]).length = l.length + 1 := by simp
            rw [e1, e2, hs] at h1
            rw [h1, decide_eq_true hl2]
            show (true && true && (lab (l ++ [c] ++ x) && xs.all lab)) = _
            rw [List.append_assoc]; rfl
          · rw [decide_eq_false hl2, lab_f2 (by simp; omega)]; rfl
theorem scan_host (s : List UInt8) (h : s.length ≤ 60) : scan 46 0 s = host s := by
  have h0 := scan_is s [] rfl (Nat.zero_le _) (by simp)
  have e0 : glue [] (split s) = split s := by
    cases hs : split s with
    | nil => exact absurd hs (split_ne s)
    | cons x xs => rfl
  rw [e0] at h0
  unfold host
  rw [decide_eq_true h, Bool.and_true]
  exact h0
theorem host_long (s : List UInt8) (h : 60 < s.length) : host s = false := by
  unfold host
  rw [decide_eq_false (by omega), Bool.and_false]
theorem scan_off {p c : UInt8} {n : Nat} {cs : List UInt8} (h : mayB c p = false) : scan p n (c :: cs) = false := by
  show (mayB c p && _ && _) = false
  rw [h]; rfl
theorem scan_long {p c : UInt8} {n : Nat} {cs : List UInt8} (hc : c ≠ 46) (h : 20 < n + 1) : scan p n (c :: cs) = false := by
  show (mayB c p && decide ((if c = 46 then 0 else n + 1) ≤ 20) && _) = false
  rw [if_neg hc, decide_eq_false (by omega), Bool.and_false]; rfl
theorem scan_char {p c : UInt8} {n : Nat} {cs : List UInt8} (hc : c ≠ 46) (hm : mayB c p = true) (h : n + 1 ≤ 20) : scan p n (c :: cs) = scan c (n + 1) cs := by
  show (mayB c p && decide ((if c = 46 then 0 else n + 1) ≤ 20) && scan c (if c = 46 then 0 else n + 1) cs) = _
  rw [if_neg hc, decide_eq_true h, hm]; rfl
theorem scan_dot {p c : UInt8} {n : Nat} {cs : List UInt8} (hc : c = 46) (hm : mayB c p = true) : scan p n (c :: cs) = scan c 0 cs := by
  show (mayB c p && decide ((if c = 46 then 0 else n + 1) ≤ 20) && scan c (if c = 46 then 0 else n + 1) cs) = _
  rw [if_pos hc, hm]; rfl
/-- The same over numbers. -/
def alnumI (x : Int) : Bool := (decide (97 ≤ x) && decide (x ≤ 122)) || (decide (48 ≤ x) && decide (x ≤ 57))
def mayI (x p : Int) : Bool := if x = 46 then alnumI p else if x = 45 then !(p == 46) else alnumI x
theorem alnumI_is (c : UInt8) : alnumI c.toNat = alnum c := by
  have h1 : decide ((97 : Int) ≤ (c.toNat : Int)) = decide (97 ≤ c.toNat) := by rw [decide_eq_decide]; omega
  have h2 : decide ((c.toNat : Int) ≤ 122) = decide (c.toNat ≤ 122) := by rw [decide_eq_decide]; omega
  have h3 : decide ((48 : Int) ≤ (c.toNat : Int)) = decide (48 ≤ c.toNat) := by rw [decide_eq_decide]; omega
  have h4 : decide ((c.toNat : Int) ≤ 57) = decide (c.toNat ≤ 57) := by rw [decide_eq_decide]; omega
  unfold alnumI alnum
  rw [h1, h2, h3, h4]
theorem mayI_is (c p : UInt8) : mayI c.toNat p.toNat = mayB c p := by
  have e : ∀ (c : UInt8) (k : Nat) (hk : k < 256), ((c.toNat : Int) = (k : Int)) ↔ c = UInt8.ofNat k := by
    intro c k hk
    rw [← UInt8.toNat_inj]
    have : (UInt8.ofNat k).toNat = k := by simp; omega
    rw [this]
    omega
  unfold mayI mayB
  rw [alnumI_is, alnumI_is]
  have e6 : (c.toNat : Int) = 46 ↔ c = 46 := e c 46 (by decide)
  have e5 : (c.toNat : Int) = 45 ↔ c = 45 := e c 45 (by decide)
  have ep := e p 46 (by decide)
  have eb : ((p.toNat : Int) == 46) = (p == 46) := by
    rw [Bool.eq_iff_iff, beq_iff_eq, beq_iff_eq]; exact ep
  rw [eb]
  by_cases h6 : c = 46
  · rw [if_pos h6, if_pos (e6.2 h6)]
  · rw [if_neg h6, if_neg (fun h => h6 (e6.1 h))]
    by_cases h5 : c = 45
    · rw [if_pos h5, if_pos (e5.2 h5)]
    · rw [if_neg h5, if_neg (fun h => h5 (e5.1 h))]
theorem mayB_high {c p : UInt8} (h : 128 ≤ c.toNat) : mayB c p = false := by
  have e : ∀ k : UInt8, k.toNat < 128 → c ≠ k := by intro k hk e; subst e; omega
  unfold mayB
  rw [if_neg (e 46 (by decide)), if_neg (e 45 (by decide))]
  unfold alnum
  rw [decide_eq_false (show ¬ c.toNat ≤ 122 by omega), decide_eq_false (show ¬ c.toNat ≤ 57 by omega)]
  simp
theorem mayI_high {x p : Int} (h : 128 ≤ x) : mayI x p = false := by
  unfold mayI
  rw [if_neg (by omega), if_neg (by omega)]
  unfold alnumI
  rw [decide_eq_false (show ¬ x ≤ 122 by omega), decide_eq_false (show ¬ x ≤ 57 by omega)]
  simp
end Go.Proofs.YtogoppknimpkbaaGreatDoor.M12i

/-
  The last two labels of a host, found by one walk over its characters, in plain lists of bytes.
-/
namespace Go.Proofs.YtogoppknimpkbaaGreatDoor.M13i
open M12 M13
set_option linter.unusedVariables false
/-- Where the last two labels begin, of what stands in front of position k. -/
structure RegAt (s : List UInt8) (k b f : Nat) (outs : List (List UInt8)) : Prop where
  cut : Cut s k f outs
  at_ : (outs = [] ∧ b = 0 ∧ f = 0) ∨ ∃ os p, outs = os ++ [p] ∧ b + p.length + 1 = f ∧ s.drop b = p ++ 46 :: s.drop f
theorem RegAt.start (s : List UInt8) : RegAt s 0 0 0 [] := ⟨Cut.start s, Or.inl ⟨rfl, rfl, rfl⟩⟩
theorem RegAt.char {s : List UInt8} {k b f : Nat} {outs : List (List UInt8)} (h : RegAt s k b f outs) (hk : k < s.length) (hc : s[k] ≠ 46) : RegAt s (k + 1) b f outs := ⟨h.cut.char hk hc, h.at_⟩
theorem RegAt.dot {s : List UInt8} {k b f : Nat} {outs : List (List UInt8)} (h : RegAt s k b f outs) (hk : k < s.length) (hc : s[k] = 46) : RegAt s (k + 1) f (k + 1) (outs ++ [(s.drop f).take (k - f)]) := by
  have hl := h.cut.le
  refine ⟨h.cut.dot hk hc, Or.inr ⟨_, _, rfl, ?_, ?_⟩⟩
  · rw [List.length_take, List.length_drop]; omega
  · have h1 : (s.drop f).drop (k - f) = s[k] :: s.drop (k + 1) := by
      rw [List.drop_drop, show f + (k - f) = k by omega, List.drop_eq_getElem_cons hk]
    rw [hc] at h1
    rw [← h1, List.take_append_drop]
theorem RegAt.le {s : List UInt8} {k b f : Nat} {outs : List (List UInt8)} (h : RegAt s k b f outs) : b ≤ k ∧ f ≤ k := by
  have hl := h.cut.le
  rcases h.at_ with ⟨_, h1, _⟩ | ⟨os, p, _, h1, _⟩ <;> omega
theorem RegAt.done {s : List UInt8} {b f : Nat} {outs : List (List UInt8)} (h : RegAt s s.length b f outs) (hh : host s = true) : reg s = s.drop b := by
  have e := h.cut.done
  unfold reg
  rw [if_pos hh, e]
  rcases h.at_ with ⟨rfl, rfl, rfl⟩ | ⟨os, p, rfl, h1, h2⟩
  · simp
  · rw [if_neg (by simp), h2]
    have e1 : (os ++ [p] ++ [s.drop f]).length = os.length + 2 := by simp
    rw [e1, show os.length + 2 - 2 = os.length by omega, show os.length + 2 - 1 = os.length + 1 by omega]
    congr 1
    · rw [List.getD_eq_getElem?_getD, List.append_assoc, List.getElem?_append_right (Nat.le_refl _)]; simp
    · congr 1
      rw [List.getD_eq_getElem?_getD, List.getElem?_append_right (by simp)]; simp
end Go.Proofs.YtogoppknimpkbaaGreatDoor.M13i
