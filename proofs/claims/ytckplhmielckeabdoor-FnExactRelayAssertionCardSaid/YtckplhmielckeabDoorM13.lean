import Derived.Test.YtckplhmielckeabDoorM12
import Derived.Test.YtckplhmielckeabDoorYOrigin
import Derived.Lib.ItoaNum
import Derived.Lib.ItoaLen
import Derived.Lib.Strings
import Derived.Test.YtckplhmielckeabDoorC1P
/-
  Origins, in plain lists of bytes: their texts, the last two labels of a host, who may use a site's keys.
-/
namespace Go.Proofs.YtckplhmielckeabDoor.M13
open M12
set_option linter.unusedVariables false
def bts (s : ByteArray) : List UInt8 := s.data.toList
def str (l : List UInt8) : ByteArray := ⟨l.toArray⟩
theorem bts_str (l : List UInt8) : bts (str l) = l := by simp [bts, str]
theorem str_bts (s : ByteArray) : str (bts s) = s := by cases s; simp [bts, str]
theorem bts_len (s : ByteArray) : (bts s).length = s.size := Array.length_toList
theorem toList_bts (s : ByteArray) : s.toList = bts s := Lib.toList_data s
theorem bts_app (a b : ByteArray) : bts (a ++ b) = bts a ++ bts b := by simp [bts, ByteArray.data_append]
theorem bts_inj {a b : ByteArray} (h : bts a = bts b) : a = b := by rw [← str_bts a, h, str_bts]
def orgB (o : Fx.Origin) : Bool := host (bts o.Host) && (decide (1 ≤ o.Port) && decide (o.Port ≤ 65535))
def pre (s : Bool) : List UInt8 := if s then [104, 116, 116, 112, 115, 58, 47, 47] else [104, 116, 116, 112, 58, 47, 47]
def usual (s : Bool) : Int := if s then 443 else 80
def fmtO (o : Fx.Origin) : List UInt8 := if orgB o then pre o.Secure ++ bts o.Host ++ (if o.Port = usual o.Secure then [] else 58 :: Lib.itoa o.Port) else []
def reg (s : List UInt8) : List UInt8 := if host s then (if (split s).length < 2 then s else (split s).getD ((split s).length - 2) [] ++ 46 :: (split s).getD ((split s).length - 1) []) else []
def mayO (o : Fx.Origin) (s : List UInt8) : Bool := orgB o && o.Secure && host s && decide (2 ≤ (split s).length) && (bts o.Host == s || (46 :: s).isSuffixOf (bts o.Host))
theorem orgB_parts {o : Fx.Origin} (h : orgB o = true) : host (bts o.Host) = true ∧ 1 ≤ o.Port ∧ o.Port ≤ 65535 := by
  unfold orgB at h
  simp only [Bool.and_eq_true, decide_eq_true_eq] at h
  exact ⟨h.1, h.2.1, h.2.2⟩
theorem host_len {s : List UInt8} (h : host s = true) : s.length ≤ 60 := by
  unfold host at h
  simp only [Bool.and_eq_true, decide_eq_true_eq] at h
  exact h.2
theorem fmtO_t {o : Fx.Origin} (h : orgB o = true) : fmtO o = pre o.Secure ++ bts o.Host ++ (if o.Port = usual o.Secure then [] else 58 :: Lib.itoa o.Port) := by unfold fmtO; rw [if_pos h]
theorem fmtO_f {o : Fx.Origin} (h : orgB o = false) : fmtO o = [] := by unfold fmtO; rw [if_neg (by rw [h]; simp)]
/-- When a text ends with a dot and another text. -/
theorem suffix_at {h s : List UInt8} {n : Nat} (hn : n + s.length = h.length) (h0 : 0 < n) : (46 :: s).isSuffixOf h = ((h.drop n == s) && (h.getD (n - 1) 0 == 46)) := by
  rw [Bool.eq_iff_iff]
  simp only [List.isSuffixOf_iff_suffix, Bool.and_eq_true, beq_iff_eq]
  have hd : h.drop (n - 1) = h.getD (n - 1) 0 :: h.drop n := by
    have hl : n - 1 < h.length := by omega
    rw [List.drop_eq_getElem_cons hl, List.getD_eq_getElem?_getD, List.getElem?_eq_getElem hl]
    congr 2
    omega
  constructor
  · rintro ⟨p, hp⟩
    have hpl : p.length = n - 1 := by
      have := congrArg List.length hp
      rw [List.length_append, List.length_cons] at this
      omega
    have : h.drop (n - 1) = 46 :: s := by rw [← hp, ← hpl, List.drop_left]
    rw [hd] at this
    injection this with h1 h2
    exact ⟨h2, h1⟩
  · rintro ⟨h1, h2⟩
    rw [h1, h2] at hd
    exact ⟨h.take (n - 1), by rw [← hd, List.take_append_drop]⟩
theorem suffix_short {h s : List UInt8} (hn : h.length ≤ s.length) : (46 :: s).isSuffixOf h = false := by
  rw [← Bool.not_eq_true, List.isSuffixOf_iff_suffix]
  intro hs
  have := hs.length_le
  simp at this
  omega
theorem fmtO_size (o : Fx.Origin) : (fmtO o).length ≤ 100 := by
  cases ho : orgB o with
  | false => rw [fmtO_f ho]; simp
  | true =>
    obtain ⟨h1, h2, h3⟩ := orgB_parts ho
    have h4 := host_len h1
    have hi : (Lib.itoa o.Port).length ≤ 13 := by
      have h := C1P.itoa_nat o.Port.toNat
      rw [show ((o.Port.toNat : Nat) : Int) = o.Port by omega] at h
      rw [h]
      exact M1P.digits_len13 _ (by omega)
    rw [fmtO_t ho]
    have hp : (pre o.Secure).length ≤ 8 := by cases o.Secure <;> simp [pre]
    by_cases hu : o.Port = usual o.Secure
    · rw [if_pos hu, List.length_append, List.length_append, List.length_nil]; omega
    · rw [if_neg hu, List.length_append, List.length_append, List.length_cons]; omega
end Go.Proofs.YtckplhmielckeabDoor.M13
