/-
  Contracts of chapter 3's BytesToInts and DeriveFromString, of the program and of the model.
-/
import Derived.Test.YtogoppknimpkbaaC3
import Derived.Lib.ConvBytes
namespace Go.Proofs.Ytogoppknimpkbaa.C3b
open Go.ChangeShapes Go.WideShapes Go.ChangeAt Go.RowKit
open S0 S1 M3 C3
set_option linter.unusedVariables false
/-- Behind k bytes. -/
def Ints (w : World) (xs : List Int) (k : Nat) (v : Value) (wr : World) : Prop :=
  wr.ownsRow w.heap.size 3 1 v (1 + k) (ints .i64 ([(xs.length : Int)] ++ xs.take k)) ∧ Below w.heap.size w wr
theorem Ints.next {w wr w2 : World} {xs : List Int} {k : Nat} {v v2 : Value} {x : Int} {o : Obj} (h : Ints w xs k v wr) (hk : k < xs.length) (hx : x = xs.getD k 0)
    (ho : w2.ownsRow w.heap.size 3 1 v2 (1 + k + 1) (ints .i64 ([(xs.length : Int)] ++ xs.take k) ++ [.int .i64 x])) (hg : (wr.alloc o).grownBy w2 v.ownBlock) : Ints w xs (k + 1) v2 w2 := by
  refine ⟨?_, (h.2.alloc h.2.size o).grown hg (by have := h.2.size; simp; omega) (fun j hj => (h.1.lt j hj).1)⟩
  have e : ints .i64 ([(xs.length : Int)] ++ xs.take (k + 1)) = ints .i64 ([(xs.length : Int)] ++ xs.take k) ++ [.int .i64 x] := by
    have e1 : xs.take (k + 1) = xs.take k ++ [x] := by rw [List.take_succ_eq_append_getElem hk, hx]; simp [List.getElem?_eq_getElem hk]
    rw [e1, ← List.append_assoc, ← ints_app]
    rfl
  rw [e]
  exact ho
set_option maxHeartbeats 800000 in
set_option maxRecDepth 100000 in
theorem specInts (w : World) (A : Option Addr) (n c : Nat) (xs : List Int) (hr : Rd w w.heap.size 1 A n (ints .u8 xs)) (hx : ∀ x ∈ xs, 0 ≤ x ∧ x ≤ 255) (hn : n ≤ 16777216) :
    Calls Try.prog 90 #[.slice A n c] w (MadeS 3 1 (1 + n) (ints .i64 (b2i xs)) w) := by
  have hl : xs.length = n := by have := hr.len1; rw [ints_len] at this; exact this
  have HR := Lib.hid hr
  have HL := Lib.hid hl
  have HX := Lib.hid hx
  have HE : Ints w xs 0 (.slice (some ⟨w.heap.size, 0, none⟩) 1 1) (w.alloc (.cells #[.int .i64 n] 3)) := ⟨by simpa [ints, hl] using own_lit w #[.int .i64 n] 1 _ 3 (Nat.le_refl _) rfl (by unfold maxLen; omega), (Below.refl _ _).alloc (Nat.le_refl _) _⟩
  clear hr hl hx
  go_enter Try.func90, Try.ntmps90
  go_wp2
  go_loopw [3, 4] (fun v i wr => ∃ k : Nat, k ≤ n ∧ i = .int .i64 k ∧ Ints w xs k v wr) (fun _ i _ => n - (intOf i).toNat)
  case atStart => exact ⟨0, by omega, rfl, HE⟩
  case round =>
    obtain ⟨k, hk, rfl, hE⟩ := hrel
    obtain ⟨A1, c1, rfl⟩ := own_nil_form hE.1
    by_cases hlt : k < n
    · obtain ⟨b, off, rfl, hb, hcell⟩ := (HR.out.below hE.2).at_ hlt
      obtain ⟨h0, h1⟩ := C2.u8_get HX.out k
      have hE1 := hE.1
      have hE2 := hE.2.size
      obtain ⟨x, hxx⟩ : ∃ x, x = xs.getD k 0 := ⟨_, rfl⟩
      rw [← hxx] at hcell h0 h1
      have HXX := Lib.hid hxx
      clear hxx
      go_wp2_with (at_builtin; refine appI _ rfl _ _ rfl w.heap.size _ _ _ rfl (hE1.alloc _) _ _ 1 1 [.int .i64 x] rfl (rd_one _ _ _) (one_int .i64 _) (by omega) (by simp; omega) ?_; intro v2 w2 ho2 hg2)
      go_roundw
      case rel => exact ⟨k + 1, by omega, by go_num, Ints.next hE (by have := HL.out; omega) HXX.out ho2 hg2⟩
      case measure => simp [intOf]; omega
    · have hd : decide (k < n) = false := by simp; omega
      have hkn : k = n := by omega
      have HK := Lib.hid hkn
      clear hkn
      go_wp2
      go_ret
      have e : xs.take k = xs := by rw [HK.out, ← HL.out, List.take_length]
      have hE' := hE
      unfold Ints at hE'
      rw [e] at hE'
      have hkn := HK.out
      subst hkn
      exact ⟨A1, c1, rfl, hE'.1, hE'.2⟩
set_option maxHeartbeats 800000 in
set_option maxRecDepth 100000 in
theorem implInts (w : World) (A : Option Addr) (n c : Nat) (xs : List Int) (hr : Rd w w.heap.size 1 A n (ints .u8 xs)) (hx : ∀ x ∈ xs, 0 ≤ x ∧ x ≤ 255) (hn : n ≤ 16777216) :
    Calls Try.prog 93 #[.slice A n c] w (MadeS 3 1 (1 + n) (ints .i64 (b2i xs)) w) := by
  obtain ⟨i0, hi, hz0, hz1, hz2⟩ := info_parts int_info
  have hl : xs.length = n := by have := hr.len1; rw [ints_len] at this; exact this
  have HR := Lib.hid hr
  have HL := Lib.hid hl
  have HX := Lib.hid hx
  clear hr hl hx
  go_enter Try.func93, Try.ntmps93
  go_wp2_with (first | (at_make; refine wpList_make_own _ rfl _ _ 93 rfl w.heap.size 3 i0 (.int .i64 0) 1 Try.underlying93 hi hz0 hz1 _ _ _ (1 + n) rfl rfl (by omega) (by rw [hz2]; omega) (by unfold maxLen; omega) (Nat.le_refl _) ?_; intro w1 ho1 hg1; have hz1' : w.heap.size ≤ w1.heap.size := hg1.size) | (at_builtin; refine appI _ rfl _ _ rfl w.heap.size _ _ _ rfl (ho1.alloc _) _ _ 1 1 [.int .i64 n] rfl (rd_one _ _ _) (one_int .i64 _) (by omega) (by simp; omega) ?_; intro v2 w2 ho2 hg2))
  have HE : Ints w xs 0 v2 w2 := by
    have hb1 : Below w.heap.size w w1 := below_grown hg1 (Nat.le_refl _) (fun _ h => by cases h)
    refine ⟨?_, (hb1.alloc hb1.size _).grown hg2 (by have := hb1.size; simp; omega) (fun j hj => (ho1.lt j hj).1)⟩
    have := HL.out
    simpa [ints, this] using ho2
  clear ho1 hg1 ho2 hg2
  go_loopw [3, 17] (fun v i wr => ∃ k : Nat, k ≤ n ∧ i = .int .i64 k ∧ Ints w xs k v wr) (fun _ i _ => n - (intOf i).toNat)
  case atStart => exact ⟨0, by omega, rfl, HE⟩
  case round =>
    obtain ⟨k, hk, rfl, hE⟩ := hrel
    obtain ⟨A1, c1, rfl⟩ := own_nil_form hE.1
    by_cases hlt : k < n
    · obtain ⟨b, off, rfl, hb, hcell⟩ := (HR.out.below hE.2).at_ hlt
      obtain ⟨h0, h1⟩ := C2.u8_get HX.out k
      have hE1 := hE.1
      have hE2 := hE.2.size
      obtain ⟨x, hxx⟩ : ∃ x, x = xs.getD k 0 := ⟨_, rfl⟩
      rw [← hxx] at hcell h0 h1
      have HXX := Lib.hid hxx
      clear hxx
      go_wp2_with (at_builtin; refine appI _ rfl _ _ rfl w.heap.size _ _ _ rfl (hE1.alloc _) _ _ 1 1 [.int .i64 x] rfl (rd_one _ _ _) (one_int .i64 _) (by omega) (by simp; omega) ?_; intro v3 w3 ho3 hg3)
      go_roundw
      case rel => exact ⟨k + 1, by omega, by go_num, Ints.next hE (by have := HL.out; omega) HXX.out ho3 hg3⟩
      case measure => simp [intOf]; omega
    · have hd : decide (k < n) = false := by simp; omega
      have hkn : k = n := by omega
      have HK := Lib.hid hkn
      clear hkn
      go_wp2
      go_ret
      have e : xs.take k = xs := by rw [HK.out, ← HL.out, List.take_length]
      have hE' := hE
      unfold Ints at hE'
      rw [e] at hE'
      have hkn := HK.out
      subst hkn
      exact ⟨A1, c1, rfl, hE'.1, hE'.2⟩
/-- The bytes of a string. -/
def sbytes (s : ByteArray) : List Int := s.data.toList.map fun b => (b.toNat : Int)
theorem sbytes_len (s : ByteArray) : (sbytes s).length = s.size := by simp [sbytes]
theorem sbytes_ok (s : ByteArray) : ∀ x ∈ sbytes s, 0 ≤ x ∧ x ≤ 255 := by
  intro x hx
  simp only [sbytes, List.mem_map] at hx
  obtain ⟨b, _, rfl⟩ := hx
  have := b.toNat_lt
  omega
theorem rd_bytes (w : World) (e : TypeId) (s : ByteArray) : Rd (Lib.bytesWorld w e s) (Lib.bytesWorld w e s).heap.size 1 (some ⟨w.heap.size, 0, none⟩) s.size (ints .u8 (sbytes s)) := by
  refine ⟨by rw [ints_len, sbytes_len]; omega, fun hn => ⟨w.heap.size, 0, rfl, by rw [Lib.bytesWorld_size]; omega, fun j hj => ?_⟩⟩
  have hj' : j < s.size := by omega
  rw [Nat.zero_add, Lib.bytesWorld_cell w e s j hj', ints_get .u8 _ j (by rw [sbytes_len]; exact hj')]
  have hl : j < s.data.toList.length := by simpa using hj'
  simp [sbytes, List.getD_eq_getElem?_getD, List.getElem?_eq_getElem hl]
theorem below_bytes (w : World) (e : TypeId) (s : ByteArray) : Below w.heap.size w (Lib.bytesWorld w e s) :=
  ⟨rfl, rfl, rfl, by rw [Lib.bytesWorld_size]; omega, fun k hk => Lib.bytesWorld_at_old w e s k hk⟩
set_option maxHeartbeats 800000 in
theorem implDerive (w : World) (k : Int) (s : ByteArray) (hk0 : -9223372036854775808 ≤ k) (hk1 : k ≤ 9223372036854775807) (hn : s.size ≤ 16777216) :
    Calls Try.prog 87 #[.int .i64 k, .string s] w (Gives (.int .i64 (derive k (sbytes s))) w) := by
  have hconv := Lib.run_convert_string_bytes (P := Try.prog) w 9 90 5 s Try.underlying9 Try.underlying90 Try.underlying5
  have hok : okInts (b2i (sbytes s)) := (okInts.one (by omega) (by rw [sbytes_len]; omega)).app (okInts.bytes (sbytes_ok s))
  have hb0 := below_bytes w 5 s
  go_enter Try.func87, Try.ntmps87
  go_wp2_with fail
  (with_reducible refine (implInts _ _ _ _ (sbytes s) (rd_bytes w 5 s) (sbytes_ok s) hn).mono ?_); rintro e w1 ⟨A1, c1, rfl, ho1, hb1⟩
  go_wp2_with fail
  (with_reducible refine (implKeyed _ _ _ _ (b2i (sbytes s)) k hk0 hk1 (Rd.own ho1) hok (by omega)).mono ?_); rintro e w2 ⟨rfl, hb2⟩
  go_wp2_with fail
  (with_reducible refine (fromHash _ _).mono ?_); rintro e w3 ⟨he, hg3⟩
  rw [← derive_eq] at he
  subst he
  go_wp2
  go_ret
  have h1 := hb0.trans (hb1.mono hb0.size)
  have h2 := h1.trans (hb2.mono h1.size)
  exact ⟨rfl, h2.trans (hg3.mono h2.size)⟩
set_option maxHeartbeats 800000 in
theorem specDerive (w : World) (k : Int) (s : ByteArray) (hk0 : -9223372036854775808 ≤ k) (hk1 : k ≤ 9223372036854775807) (hn : s.size ≤ 16000000) :
    Calls Try.prog 84 #[.int .i64 k, .string s] w (Gives (.int .i64 (derive k (sbytes s))) w) := by
  have hconv := Lib.run_convert_string_bytes (P := Try.prog) w 9 90 5 s Try.underlying9 Try.underlying90 Try.underlying5
  have hok : okInts (b2i (sbytes s)) := (okInts.one (by omega) (by rw [sbytes_len]; omega)).app (okInts.bytes (sbytes_ok s))
  have hb0 := below_bytes w 5 s
  go_enter Try.func84, Try.ntmps84
  go_wp2_with fail
  (with_reducible refine (specInts _ _ _ _ (sbytes s) (rd_bytes w 5 s) (sbytes_ok s) (by omega)).mono ?_); rintro e w1 ⟨A1, c1, rfl, ho1, hb1⟩
  go_wp2_with fail
  (with_reducible refine (specKeyed _ _ _ _ (b2i (sbytes s)) k hk0 hk1 (Rd.own ho1) hok (by omega)).mono ?_); rintro e w2 ⟨rfl, hb2⟩
  go_wp2_with fail
  (with_reducible refine (C1.specMax _ _ _).mono ?_); rintro e w3 ⟨he, rfl⟩
  rw [← derive_eq'] at he
  subst he
  go_wp2
  go_ret
  have h1 := hb0.trans (hb1.mono hb0.size)
  exact ⟨rfl, h1.trans (hb2.mono h1.size)⟩
end Go.Proofs.Ytogoppknimpkbaa.C3b
