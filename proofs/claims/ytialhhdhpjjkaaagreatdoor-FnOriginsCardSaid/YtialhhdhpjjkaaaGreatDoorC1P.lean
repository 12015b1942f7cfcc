import Derived.Test.YtialhhdhpjjkaaaGreatDoorBa
import Derived.Test.YtialhhdhpjjkaaaGreatDoorC1F
import Derived.Test.YtialhhdhpjjkaaaGreatDoorM1P
import Derived.Test.YtialhhdhpjjkaaaGreatDoorLa
import Derived.Test.YtialhhdhpjjkaaaGreatDoorShelf
/-
  Contracts of ParseInt, of the program and of the model: a number and true at the numeral of a number up to MaxValue, 0 and false at every other string.
-/
namespace Go.Proofs.YtialhhdhpjjkaaaGreatDoor.C1P
open Go.ChangeShapes Go.WideShapes Go.ChangeAt Go.RowKit
set_option linter.unusedVariables false
set_option maxRecDepth 100000
def Yes (s : ByteArray) (n : Nat) : Prop := n ≤ 1000000000000 ∧ s = ⟨(Lib.decDigits n).toArray⟩
def No (s : ByteArray) : Prop := ∀ n : Nat, n ≤ 1000000000000 → s ≠ ⟨(Lib.decDigits n).toArray⟩
theorem yes_or_no (s : ByteArray) : (∃ n, Yes s n) ∨ No s := by
  by_cases h : ∃ n, Yes s n
  · exact Or.inl h
  · exact Or.inr fun n hn e => h ⟨n, hn, e⟩
theorem toList_mk (l : List UInt8) : (ByteArray.mk l.toArray).data.toList = l := by simp
theorem No.beq {s : ByteArray} (h : No s) {n : Nat} (hn : n ≤ 1000000000000) : (Lib.decDigits n == s.toList) = false := by
  rw [Lib.toList_data, beq_eq_false_iff_ne]
  intro k
  exact h n hn (by rw [k])
theorem itoa_nat (n : Nat) : Lib.itoa (n : Int) = Lib.decDigits n := by unfold Lib.itoa; rw [if_neg (by omega)]; rfl

theorem digits_inj {m n : Nat} (h : Lib.decDigits m = Lib.decDigits n) : m = n := by
  have h1 := M1P.decFrom_digits m
  rw [h, M1P.decFrom_digits n] at h1
  exact (Option.some.inj h1).symm
theorem below_atoi {w w' : World} (h : w' = w ∨ ∃ t, w' = Lib.bytesWorld w 5 t) : Below w.heap.size w w' := by
  rcases h with rfl | ⟨t, rfl⟩
  · exact Below.refl _ _
  · exact Joins.below_bytesWorld _ _ _ _ (Nat.le_refl _)
theorem atoi_ok (s : ByteArray) (hs : s.size ≤ 281474976710656) (v : Int) (h : Lib.atoiAll s.data.toList = .ok v) (w : World) :
    Calls Tryz.prog 104 #[.string s] w fun e w' => e = .returned (.tuple #[.int .i64 v, .nilIface]) ∧ Below w.heap.size w w' :=
  (Tryz.strconv_Atoi_ok s (by omega) v h w).mono fun _ _ ⟨he, hw⟩ => ⟨he, below_atoi hw⟩
def ErrEnd (w : World) (e : Ending) (w' : World) : Prop := ∃ (x : Int) (N : Nat), e = .returned (.tuple #[.int .i64 x, .iface 183 (.pointer (some ⟨N, 0, none⟩))]) ∧ Below w.heap.size w w'
theorem third (x : Lib.NumEnd Int) (h1 : ∀ v, x ≠ .ok v) (h2 : x ≠ .range) : x = .ofOption none := by
  cases x
  · exact absurd rfl (h1 _)
  · rfl
  · exact absurd rfl h2
theorem atoi_err (s : ByteArray) (hs : s.size ≤ 281474976710656) (h : ∀ v, Lib.atoiAll s.data.toList ≠ .ok v) (w : World) (he : La.Errs w) :
    Calls Tryz.prog 104 #[.string s] w (ErrEnd w) := by
  obtain ⟨⟨p, hp⟩, q, hq⟩ := he
  by_cases hc : Lib.atoiAll s.data.toList = .range
  · exact (Tryz.strconv_Atoi_range_var s hs hc _ q w hq).mono fun _ _ ⟨N, he, _, _, hb⟩ => ⟨_, N, he, hb⟩
  · exact (Tryz.strconv_Atoi_syntax_var s hs (third _ h hc) _ p w hp).mono fun _ _ ⟨N, he, _, _, hb⟩ => ⟨_, N, he, hb⟩

set_option maxHeartbeats 400000 in
theorem implErr (s : ByteArray) (hs : s.size ≤ 281474976710656) (h : ∀ v, Lib.atoiAll s.data.toList ≠ .ok v) (w : World) (he : La.Errs w) :
    Calls Tryz.prog 65 #[.string s] w fun e w' => e = .returned (.tuple #[.int .i64 0, .bool false]) ∧ Below w.heap.size w w' := by
  go_enter Tryz.func65, Tryz.ntmps65
  go_wp2_with (go_at_call 104; (with_reducible refine (atoi_err s hs h _ he).mono ?_); rintro e w' ⟨x, N, rfl, hb⟩)
  go_ret2
  exact ⟨rfl, hb⟩
set_option maxHeartbeats 400000 in
theorem implOut (s : ByteArray) (hs : s.size ≤ 281474976710656) (v : Int) (h : Lib.atoiAll s.data.toList = .ok v) (hv : v < 0 ∨ 1000000000000 < v) (w : World) :
    Calls Tryz.prog 65 #[.string s] w fun e w' => e = .returned (.tuple #[.int .i64 0, .bool false]) ∧ Below w.heap.size w w' := by
  have H := Lib.hid h
  clear h
  go_enter Tryz.func65, Tryz.ntmps65
  go_wp2_with (first | (go_at_call 104; (with_reducible refine (atoi_ok s hs v H.out _).mono ?_); rintro e w' ⟨rfl, hb⟩) | (go_at_call 105; (with_reducible refine (C1.implIn_f _ _ _ _ hv).mono ?_); rintro e w' ⟨rfl, rfl⟩))
  go_ret2
  exact ⟨rfl, hb⟩
theorem fmtNat (n : Nat) (hn : n ≤ 1000000000000) (w : World) (ht : La.Pow w) :
    Calls Tryz.prog 67 #[.int .i64 n] w fun e w' => e = .returned (.string ⟨(Lib.decDigits n).toArray⟩) ∧ Below w.heap.size w w' := by
  have f := C1F.implFmt (n : Int) w (by omega) (by omega) ht
  rw [itoa_nat n] at f
  exact f
set_option maxHeartbeats 400000 in
theorem implYes (n : Nat) (hn : n ≤ 1000000000000) (w : World) (ht : La.Pow w) :
    Calls Tryz.prog 65 #[.string ⟨(Lib.decDigits n).toArray⟩] w fun e w' => e = .returned (.tuple #[.int .i64 n, .bool true]) ∧ Below w.heap.size w w' := by
  have hz : (ByteArray.mk (Lib.decDigits n).toArray).size ≤ 281474976710656 := by
    have := M1P.digits_len13 n hn
    simp [ByteArray.size]; omega
  have H := Lib.hid (p := Lib.atoiAll (ByteArray.mk (Lib.decDigits n).toArray).data.toList = .ok (n : Int)) (by rw [toList_mk]; exact M1P.atoi_digits n hn)
  go_enter Tryz.func65, Tryz.ntmps65
  go_wp2_with (first | (go_at_call 104; (with_reducible refine (atoi_ok _ hz n H.out _).mono ?_); rintro e w' ⟨rfl, hb1⟩) | (go_at_call 105; (with_reducible refine (C1.implIn_t _ _ _ _ (by omega) (by omega)).mono ?_); rintro e w' ⟨rfl, rfl⟩) | (go_at_call 67; (with_reducible refine (fmtNat _ hn _ (ht.stays hb1)).mono ?_); rintro e w'' ⟨rfl, hb2⟩))
  go_ret2
  exact ⟨rfl, hb1.trans (hb2.mono hb1.size)⟩
set_option maxHeartbeats 400000 in
theorem implOther (s : ByteArray) (hs : s.size ≤ 281474976710656) (n : Nat) (h : Lib.atoiAll s.data.toList = .ok (n : Int)) (hn : n ≤ 1000000000000) (w : World) (ht : La.Pow w)
    (hb : (Lib.decDigits n == s.toList) = false) :
    Calls Tryz.prog 65 #[.string s] w fun e w' => e = .returned (.tuple #[.int .i64 0, .bool false]) ∧ Below w.heap.size w w' := by
  have H := Lib.hid h
  clear h
  go_enter Tryz.func65, Tryz.ntmps65
  go_wp2_with (first | (go_at_call 104; (with_reducible refine (atoi_ok _ hs n H.out _).mono ?_); rintro e w' ⟨rfl, hb1⟩) | (go_at_call 105; (with_reducible refine (C1.implIn_t _ _ _ _ (by omega) (by omega)).mono ?_); rintro e w' ⟨rfl, rfl⟩) | (go_at_call 67; (with_reducible refine (fmtNat _ hn _ (ht.stays hb1)).mono ?_); rintro e w'' ⟨rfl, hb2⟩))
  go_ret2
  exact ⟨rfl, hb1.trans (hb2.mono hb1.size)⟩
theorem implNo (s : ByteArray) (hs : s.size ≤ 281474976710656) (h : No s) (w : World) (ht : La.Pow w) (he : La.Errs w) :
    Calls Tryz.prog 65 #[.string s] w fun e w' => e = .returned (.tuple #[.int .i64 0, .bool false]) ∧ Below w.heap.size w w' := by
  by_cases hv : ∃ v, Lib.atoiAll s.data.toList = .ok v
  · obtain ⟨v, hv⟩ := hv
    by_cases hr : v < 0 ∨ 1000000000000 < v
    · exact implOut s hs v hv hr w
    · have e : v = ((v.toNat : Nat) : Int) := by omega
      rw [e] at hv
      exact implOther s hs v.toNat hv (by omega) w ht (h.beq (by omega))
  · exact implErr s hs (fun v k => hv ⟨v, k⟩) w he
theorem at_take (s : ByteArray) (k : Nat) (h : k < s.size) : s.data.toList[k]? = some s[k] := by
  rw [List.getElem?_eq_getElem (by simpa using h)]; rfl
theorem take_digit {s : ByteArray} {k m : Nat} (h : k < s.size) (hm : Lib.decFrom 0 (s.data.toList.take k) = some m) (h1 : 48 ≤ s[k].toNat) (h2 : s[k].toNat ≤ 57) :
    Lib.decFrom 0 (s.data.toList.take (k + 1)) = some (m * 10 + (s[k].toNat - 48)) :=
  Lib.decFrom_take _ k 0 m s[k] (s[k].toNat - 48) hm (at_take s k h) (by unfold Lib.digitVal; rw [if_pos ⟨h1, h2⟩])
theorem take_lt {s : ByteArray} {k m : Nat} (hk : k ≤ 13) (hm : Lib.decFrom 0 (s.data.toList.take k) = some m) : m < 10000000000000 := by
  have h1 := Lib.decFrom_lt _ _ _ hm
  have h2 : (s.data.toList.take k).length ≤ 13 := by simp; omega
  have h3 : (10 : Nat) ^ (s.data.toList.take k).length ≤ 10 ^ 13 := Nat.pow_le_pow_right (by omega) h2
  omega
def Sofar (s : ByteArray) (k m : Nat) : Prop := k ≤ s.size ∧ m < 10000000000000 ∧ Lib.decFrom 0 (s.data.toList.take k) = some m
theorem Sofar.step {s : ByteArray} {k m : Nat} (h : Sofar s k m) (hs : s.size ≤ 13) (hk : k < s.size) (h1 : 48 ≤ s[k].toNat) (h2 : s[k].toNat ≤ 57) : Sofar s (k + 1) (m * 10 + (s[k].toNat - 48)) :=
  ⟨by omega, take_lt (by omega) (take_digit hk h.2.2 h1 h2), take_digit hk h.2.2 h1 h2⟩
theorem Sofar.all {s : ByteArray} {m : Nat} (h : Sofar s s.size m) : Lib.decFrom 0 s.data.toList = some m := by
  have := h.2.2
  rwa [List.take_of_length_le (by simp)] at this
theorem specFmtNat (n : Nat) (hn : n ≤ 1000000000000) (w : World) :
    Calls Tryz.prog 107 #[.int .i64 n] w fun e w' => e = .returned (.string ⟨(Lib.decDigits n).toArray⟩) ∧ Below w.heap.size w w' := by
  have f := C1F.specFmt (n : Int) w (by omega) (by omega)
  rw [itoa_nat n] at f
  exact f
set_option maxHeartbeats 800000 in
theorem specNo13 (s : ByteArray) (hs1 : 1 ≤ s.size) (hs2 : s.size ≤ 13) (h : No s) (w : World) :
    Calls Tryz.prog 73 #[.string s] w fun e w' => e = .returned (.tuple #[.int .i64 0, .bool false]) ∧ Below w.heap.size w w' := by
  go_enter Tryz.func73, Tryz.ntmps73
  go_wp2_with (go_at_call 72; (with_reducible refine (C1.specIn_t _ _ _ _ (by omega) (by omega)).mono ?_); rintro e w' ⟨rfl, rfl⟩)
  go_loop [4, 5] (fun n i => ∃ k m : Nat, i = .int .i64 k ∧ n = .int .i64 m ∧ Sofar s k m) (fun _ i => s.size - (intOf i).toNat)
  case atStart => exact ⟨0, 0, rfl, rfl, by omega, by omega, rfl⟩
  case round =>
    obtain ⟨k, m, rfl, rfl, HS⟩ := hrel
    have hk := HS.1
    have hm := HS.2.1
    by_cases hlt : k < s.size
    · by_cases hd : 48 ≤ s[k].toNat ∧ s[k].toNat ≤ 57
      · obtain ⟨hd1, hd2⟩ := hd
        have HN := HS.step hs2 hlt hd1 hd2
        go_wp2_with (go_at_call 72; (with_reducible refine (C1.specIn_t _ _ _ _ (by omega) (by omega)).mono ?_); rintro e w' ⟨rfl, rfl⟩)
        go_round
        case rel => exact ⟨k + 1, m * 10 + (s[k].toNat - 48), by go_num, congrArg (Value.int .i64) (by omega), HN⟩
        case measure => simp [intOf]; omega
      · have hd' : (s[k].toNat : Int) < 48 ∨ 57 < (s[k].toNat : Int) := by omega
        have hu : s[k].toNat < 256 := UInt8.toNat_lt _
        clear hd
        go_wp2_with (go_at_call 72; (with_reducible refine (C1.specIn_f _ _ _ _ hd').mono ?_); rintro e w' ⟨rfl, rfl⟩)
        go_ret2
        exact ⟨rfl, Below.refl _ _⟩
    · obtain rfl : k = s.size := by omega
      by_cases hbig : (1000000000000 : Int) < m
      · go_wp2
        go_ret2
        exact ⟨rfl, Below.refl _ _⟩
      · have hne := h.beq (n := m) (by omega)
        go_wp2_with (go_at_call 107; (with_reducible refine (specFmtNat _ (by omega) _).mono ?_); rintro e w' ⟨rfl, hb⟩)
        go_ret2
        exact ⟨rfl, hb⟩
theorem specNo (s : ByteArray) (h : No s) (w : World) (hs : s.size ≤ 281474976710656) :
    Calls Tryz.prog 73 #[.string s] w fun e w' => e = .returned (.tuple #[.int .i64 0, .bool false]) ∧ Below w.heap.size w w' := by
  by_cases hz : (s.size : Int) < 1 ∨ 13 < (s.size : Int)
  · go_enter Tryz.func73, Tryz.ntmps73
    go_wp2_with (go_at_call 72; (with_reducible refine (C1.specIn_f _ _ _ _ hz).mono ?_); rintro e w' ⟨rfl, rfl⟩)
    go_ret2
    exact ⟨rfl, Below.refl _ _⟩
  · exact specNo13 s (by omega) (by omega) h w
theorem digit_at {n : Nat} {s : ByteArray} (hn : s = ⟨(Lib.decDigits n).toArray⟩) (k : Nat) (hk : k < s.size) : 48 ≤ s[k].toNat ∧ s[k].toNat ≤ 57 := by
  obtain ⟨d, hd⟩ := Lib.digit_of_decFrom (Lib.decDigits n) 0 n (M1P.decFrom_digits n) k s[k] (by have := at_take s k hk; rw [← this, hn])
  obtain ⟨h1, h2, _⟩ := Lib.digitVal_eq hd
  exact ⟨h1, h2⟩
set_option maxHeartbeats 800000 in
theorem specYes (s : ByteArray) (n : Nat) (hY : Yes s n) (w : World) :
    Calls Tryz.prog 73 #[.string s] w fun e w' => e = .returned (.tuple #[.int .i64 n, .bool true]) ∧ Below w.heap.size w w' := by
  obtain ⟨hn, hsn⟩ := hY
  have hs1 : 1 ≤ s.size := by
    have := List.length_pos_iff.2 (M1P.digits_ne n)
    rw [hsn]; simp [ByteArray.size]; omega
  have hs2 : s.size ≤ 13 := by
    have := M1P.digits_len13 n hn
    rw [hsn]; simpa [ByteArray.size] using this
  have HD := Lib.hid (fun k hk => digit_at (s := s) hsn k hk)
  have HE := Lib.hid (p := Lib.decFrom 0 s.data.toList = some n) (by rw [hsn, toList_mk]; exact M1P.decFrom_digits n)
  have HQ := Lib.hid (p := Lib.decDigits n = s.toList) (by rw [Lib.toList_data, hsn])
  clear hsn
  go_enter Tryz.func73, Tryz.ntmps73
  go_wp2_with (go_at_call 72; (with_reducible refine (C1.specIn_t _ _ _ _ (by omega) (by omega)).mono ?_); rintro e w' ⟨rfl, rfl⟩)
  go_loop [4, 5] (fun n i => ∃ k m : Nat, i = .int .i64 k ∧ n = .int .i64 m ∧ Sofar s k m) (fun _ i => s.size - (intOf i).toNat)
  case atStart => exact ⟨0, 0, rfl, rfl, by omega, by omega, rfl⟩
  case round =>
    obtain ⟨k, m, rfl, rfl, HS⟩ := hrel
    have hk := HS.1
    have hm := HS.2.1
    by_cases hlt : k < s.size
    · obtain ⟨hd1, hd2⟩ := HD.out k hlt
      have HN := HS.step hs2 hlt hd1 hd2
      go_wp2_with (go_at_call 72; (with_reducible refine (C1.specIn_t _ _ _ _ (by omega) (by omega)).mono ?_); rintro e w' ⟨rfl, rfl⟩)
      go_round
      case rel => exact ⟨k + 1, m * 10 + (s[k].toNat - 48), by go_num, congrArg (Value.int .i64) (by omega), HN⟩
      case measure => simp [intOf]; omega
    · obtain rfl : k = s.size := by omega
      obtain rfl : n = m := Option.some.inj (HE.out.symm.trans HS.all)
      have hne : (Lib.decDigits n == s.toList) = true := by rw [← HQ.out]; simp
      have hbig : ¬ (1000000000000 : Int) < n := by omega
      go_wp2_with (go_at_call 107; (with_reducible refine (specFmtNat _ (by omega) _).mono ?_); rintro e w' ⟨rfl, hb⟩)
      go_ret2
      exact ⟨rfl, hb⟩
end Go.Proofs.YtialhhdhpjjkaaaGreatDoor.C1P
