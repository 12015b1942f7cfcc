/-
  Contracts of chapter 2's functions, of the program and of the model.
-/
import Derived.Test.YtpeagjpcdoegoabS1
import Derived.Test.YtpeagjpcdoegoabM2
import Derived.Test.YtpeagjpcdoegoabC1
namespace Go.Proofs.Ytpeagjpcdoegoab.C2
open Go.ChangeShapes Go.WideShapes Go.ChangeAt Go.RowKit
open S0 S1 M2
set_option linter.unusedVariables false

theorem copyBytes (w : World) (A : Option Addr) (n c : Nat) (xs : List Int) (hr : Rd w w.heap.size 1 A n (ints .u8 xs)) (hn : n ≤ 4294967296) :
    Calls Try.prog 34 #[.slice A n c] w (MadeS 5 1 n (ints .u8 xs) w) := by
  obtain ⟨i0, hi, hz0, hz1, hz2⟩ := info_parts u8_info
  have hsize : (w.alloc (.cells #[] 5)).heap.size = w.heap.size + 1 := by simp
  have HR := Lib.hid hr
  clear hr
  go_enter Try.func34, Try.ntmps34
  go_wp2_with (at_builtin; refine wpList_app _ rfl _ _ 22 rfl w.heap.size 5 i0 (.int .u8 0) 1 1 Try.underlying22 hi hz0 hz1 hz2 rfl (by decide) _ 0 [] rfl (own_lit w #[] 0 _ 5 (Nat.le_refl _) rfl (Nat.zero_le _)) _ A n c _ rfl (HR.out.alloc _) (ints_one _ _) (by unfold maxLen; omega) (by omega) (by omega) ?_; intro v1 w1 hown hgrow)
  go_ret
  obtain ⟨A', c', rfl⟩ := own_nil_form hown
  refine ⟨A', c', by simp, by simpa using hown, ?_⟩
  exact ((Below.refl _ _).alloc (Nat.le_refl _) _).grown hgrow (by simp) (fun k hk => by cases hk; exact Nat.le_refl _)
/-- So far: ys is written, m is left. -/
def Ext (base : Nat) (w : World) (xs : List Int) (n m : Nat) (v : Value) (wr : World) : Prop :=
  ∃ ys : List Int, wr.ownsRow base 5 1 v (xs.length + ys.length) (ints .u8 (xs ++ ys)) ∧ ys ++ uv m = uv n ∧ m ≤ n ∧ Below base w wr ∧ base ≤ wr.heap.size
theorem own_lt {w : World} {base : Nat} {e : TypeId} {size n : Nat} {v : Value} {xs : List Value} (h : w.ownsRow base e size v n xs) : ∀ k, v.ownBlock = some k → base ≤ k := fun k hk => (h.lt k hk).1
set_option maxHeartbeats 800000 in
set_option maxRecDepth 100000 in
theorem extend_in (w : World) (base : Nat) (A : Option Addr) (m c : Nat) (xs : List Int) (n : Nat) (ho : w.ownsRow base 5 1 (.slice A m c) m (ints .u8 xs)) (hb : base ≤ w.heap.size) (hm : m ≤ 4294967296) (hn : n ≤ 1000000000000) :
    Calls Try.prog 33 #[.slice A m c, .int .i64 n] w (MadeAt base 5 1 (m + (uv n).length) (ints .u8 (xs ++ uv n)) w) := by
  obtain ⟨i0, hi, hz0, hz1, hz2⟩ := info_parts u8_info
  have hl : xs.length = m := by have := ho.1; rw [ints_len] at this; omega
  have HE : Ext base w xs n n (.slice A m c) w := ⟨[], by rw [hl]; simpa using ho, rfl, Nat.le_refl _, Below.refl _ _, hb⟩
  have HL := Lib.hid hl
  clear ho hl
  go_enter Try.func33, Try.ntmps33
  go_wp2_with (go_at_call 35; refine (C1.implIn_t _ _ _ _ (by omega) (by omega)).mono ?_; rintro e w' ⟨rfl, rfl⟩)
  go_loopw [0, 1] (fun v x wr => ∃ j : Nat, x = .int .i64 j ∧ Ext base w xs n j v wr) (fun _ x _ => (intOf x).toNat)
  case atStart => exact ⟨n, rfl, HE⟩
  case round =>
    obtain ⟨j, rfl, ys, hown, hys, hjn, hbel, hbw⟩ := hrel
    have hyl : xs.length + ys.length ≤ 4294967302 := by
      have h1 := congrArg List.length hys
      have h2 := uv_len6 n hn
      have h3 := HL.out
      simp at h1; omega
    have HY := Lib.hid hys
    have HX := Lib.hid hyl
    clear hys hyl
    have tok : True := trivial
    by_cases hlt : j < 128
    · go_wp2_with (at_builtin; refine wpList_app _ rfl _ _ 22 rfl base 5 i0 (.int .u8 0) 1 1 Try.underlying22 hi hz0 hz1 hz2 rfl (by decide) _ _ _ rfl (hown.alloc _) _ _ 1 1 [.int .u8 j] rfl (rd_one _ _ _) (one_int .u8 j) (by have := HX.out; unfold maxLen; omega) (by have := HX.out; omega) (by simp; omega) ?_; intro v1 w1 hown1 hgrow)
      go_ret
      obtain ⟨A', c', rfl⟩ := own_nil_form hown1
      have hu : ys ++ [(j : Int)] = uv n := by rw [← HY.out, uv_small j hlt]
      have h1 := ints_app .u8 (xs ++ ys) [(j : Int)]
      have hn1 : xs.length + ys.length + 1 = m + (uv n).length := by rw [← hu, HL.out]; simp; omega
      rw [show [Value.int .u8 (j : Int)] = ints .u8 [(j : Int)] from rfl, ints_app, List.append_assoc, hu, hn1] at hown1
      exact ⟨A', c', by rw [hn1]; rfl, hown1, (hbel.alloc hbw _).grown hgrow (by simp; omega) (own_lt hown)⟩
    · go_wp2_with (at_builtin; refine wpList_app _ rfl _ _ 22 rfl base 5 i0 (.int .u8 0) 1 1 Try.underlying22 hi hz0 hz1 hz2 rfl (by decide) _ _ _ rfl (hown.alloc _) _ _ 1 1 [.int .u8 ((j : Int) % 128 + 128)] rfl (rd_one _ _ _) (one_int .u8 _) (by have := HX.out; unfold maxLen; omega) (by have := HX.out; omega) (by simp; omega) ?_; intro v1 w1 hown1 hgrow)
      go_roundw
      case rel =>
        have hu : ys ++ [(j : Int) % 128 + 128] ++ uv (j / 128) = uv n := by rw [← HY.out, uv_big j hlt]; simp
        refine ⟨j / 128, by go_num, ys ++ [(j : Int) % 128 + 128], ?_, hu, by omega, (hbel.alloc hbw _).grown hgrow (by simp; omega) (own_lt hown), ?_⟩
        · rw [show [Value.int .u8 ((j : Int) % 128 + 128)] = ints .u8 [(j : Int) % 128 + 128] from rfl, ints_app, List.append_assoc] at hown1
          simpa [Nat.add_assoc] using hown1
        · have := hgrow.size; simp at this; omega
      case measure => simp [intOf]; omega
theorem extend_out (w : World) (base : Nat) (A : Option Addr) (m c : Nat) (xs : List Int) (n : Int) (ho : w.ownsRow base 5 1 (.slice A m c) m (ints .u8 xs)) (hn : n < 0 ∨ 1000000000000 < n) :
    Calls Try.prog 33 #[.slice A m c, .int .i64 n] w (MadeAt base 5 1 m (ints .u8 xs) w) := by
  go_enter Try.func33, Try.ntmps33
  go_wp2_with (go_at_call 35; refine (C1.implIn_f _ _ _ _ (by omega)).mono ?_; rintro e w' ⟨rfl, rfl⟩)
  go_ret
  exact ⟨A, c, rfl, ho, Below.refl _ _⟩
theorem extend (w : World) (base : Nat) (A : Option Addr) (m c : Nat) (xs : List Int) (n : Int) (ho : w.ownsRow base 5 1 (.slice A m c) m (ints .u8 xs)) (hb : base ≤ w.heap.size) (hm : m ≤ 4294967296) :
    Calls Try.prog 33 #[.slice A m c, .int .i64 n] w (MadeAt base 5 1 (m + (enc n).length) (ints .u8 (xs ++ enc n)) w) := by
  by_cases h : 0 ≤ n ∧ n ≤ 1000000000000
  · have e : n = ((n.toNat : Nat) : Int) := by omega
    have h1 := extend_in w base A m c xs n.toNat ho hb hm (by omega)
    rw [← enc_in n.toNat (by omega), ← e] at h1
    exact h1
  · have h1 := extend_out w base A m c xs n ho (by omega)
    rw [enc_out n (by omega), List.append_nil]
    exact h1
theorem implAppend (w : World) (A : Option Addr) (m c : Nat) (xs : List Int) (n : Int) (hr : Rd w w.heap.size 1 A m (ints .u8 xs)) (hm : m ≤ 4294967296) :
    Calls Try.prog 10 #[.slice A m c, .int .i64 n] w (MadeS 5 1 (m + (enc n).length) (ints .u8 (xs ++ enc n)) w) := by
  go_enter Try.func10, Try.ntmps10
  go_wp2_with fail
  (with_reducible refine (copyBytes _ _ _ _ xs hr hm).mono ?_); rintro e w1 ⟨A1, c1, rfl, ho1, hb1⟩
  go_wp2_with fail
  (with_reducible refine (extend _ w.heap.size _ _ _ xs n ho1 hb1.size hm).mono ?_); rintro e w2 ⟨A2, c2, rfl, ho2, hb2⟩
  go_wp2
  go_ret
  exact ⟨A2, c2, rfl, ho2, hb1.trans hb2⟩
set_option maxHeartbeats 800000 in
set_option maxRecDepth 100000 in
theorem specAppend_in (w : World) (A : Option Addr) (m c : Nat) (xs : List Int) (n : Nat) (hr : Rd w w.heap.size 1 A m (ints .u8 xs)) (hm : m ≤ 4294967296) (hn : n ≤ 1000000000000) :
    Calls Try.prog 22 #[.slice A m c, .int .i64 n] w (MadeS 5 1 (m + (uv n).length) (ints .u8 (xs ++ uv n)) w) := by
  obtain ⟨i0, hi, hz0, hz1, hz2⟩ := info_parts u8_info
  have hl : xs.length = m := by have := hr.len1; rw [ints_len] at this; omega
  have HR := Lib.hid hr
  have HL := Lib.hid hl
  clear hr hl
  go_enter Try.func22, Try.ntmps22
  go_wp2_with (first | (go_at_call 40; refine (C1.specIn_t _ _ _ _ (by omega) (by omega)).mono ?_; rintro e w' ⟨rfl, rfl⟩) | (at_builtin; refine wpList_app _ rfl (.tmp 6) _ 22 rfl w.heap.size 5 i0 (.int .u8 0) 1 1 Try.underlying22 hi hz0 hz1 hz2 rfl (by decide) _ 0 [] rfl (own_lit w #[] 0 _ 5 (Nat.le_refl _) rfl (Nat.zero_le _)) _ A m c _ rfl (HR.out.alloc _) (ints_one _ _) (by unfold maxLen; omega) (by omega) (by simp) ?_; intro v1 w1 hown hgrow))
  have HE : Ext w.heap.size w xs n n v1 w1 := ⟨[], by rw [HL.out]; simpa using hown, rfl, Nat.le_refl _, ((Below.refl _ _).alloc (Nat.le_refl _) _).grown hgrow (by simp) (fun k hk => by cases hk; exact Nat.le_refl _), by have := hgrow.size; simp at this; omega⟩
  clear hown hgrow
  go_loopw [5, 1] (fun v x wr => ∃ j : Nat, x = .int .i64 j ∧ Ext w.heap.size w xs n j v wr) (fun _ x _ => (intOf x).toNat)
  case atStart => exact ⟨n, rfl, HE⟩
  case round =>
    obtain ⟨j, rfl, ys, hown, hys, hjn, hbel, hbw⟩ := hrel
    have hyl : xs.length + ys.length ≤ 4294967302 := by
      have h1 := congrArg List.length hys
      have h2 := uv_len6 n hn
      have h3 := HL.out
      simp at h1; omega
    have HY := Lib.hid hys
    have HX := Lib.hid hyl
    clear hys hyl
    by_cases hlt : j < 128
    · go_wp2_with (at_builtin; refine wpList_app _ rfl (.tmp 24) _ 22 rfl w.heap.size 5 i0 (.int .u8 0) 1 1 Try.underlying22 hi hz0 hz1 hz2 rfl (by decide) _ _ _ rfl (hown.alloc _) _ _ 1 1 [.int .u8 j] rfl (rd_one _ _ _) (one_int .u8 j) (by have := HX.out; unfold maxLen; omega) (by have := HX.out; omega) (by simp; omega) ?_; intro v1 w1 hown1 hgrow)
      go_ret
      obtain ⟨A', c', rfl⟩ := own_nil_form hown1
      have hu : ys ++ [(j : Int)] = uv n := by rw [← HY.out, uv_small j hlt]
      have hn1 : xs.length + ys.length + 1 = m + (uv n).length := by rw [← hu, HL.out]; simp; omega
      rw [show [Value.int .u8 (j : Int)] = ints .u8 [(j : Int)] from rfl, ints_app, List.append_assoc, hu, hn1] at hown1
      exact ⟨A', c', by rw [hn1]; rfl, hown1, (hbel.alloc hbw _).grown hgrow (by simp; omega) (own_lt hown)⟩
    · have e1 := and127 (j : Int) (by omega) (by omega)
      have e2 := or128 ((j : Int) % 128) (by omega) (by omega)
      go_wp2_with (at_builtin; refine wpList_app _ rfl (.tmp 15) _ 22 rfl w.heap.size 5 i0 (.int .u8 0) 1 1 Try.underlying22 hi hz0 hz1 hz2 rfl (by decide) _ _ _ rfl (hown.alloc _) _ _ 1 1 [.int .u8 ((j : Int) % 128 + 128)] rfl (rd_one _ _ _) (one_int .u8 _) (by have := HX.out; unfold maxLen; omega) (by have := HX.out; omega) (by simp; omega) ?_; intro v1 w1 hown1 hgrow)
      go_roundw
      case rel =>
        have hu : ys ++ [(j : Int) % 128 + 128] ++ uv (j / 128) = uv n := by rw [← HY.out, uv_big j hlt]; simp
        refine ⟨j / 128, by go_num, ys ++ [(j : Int) % 128 + 128], ?_, hu, by omega, (hbel.alloc hbw _).grown hgrow (by simp; omega) (own_lt hown), ?_⟩
        · rw [show [Value.int .u8 ((j : Int) % 128 + 128)] = ints .u8 [(j : Int) % 128 + 128] from rfl, ints_app, List.append_assoc] at hown1
          simpa [Nat.add_assoc] using hown1
        · have := hgrow.size; simp at this; omega
      case measure => simp [intOf]; omega
theorem specAppend_out (w : World) (A : Option Addr) (m c : Nat) (xs : List Int) (n : Int) (hr : Rd w w.heap.size 1 A m (ints .u8 xs)) (hm : m ≤ 4294967296) (hn : n < 0 ∨ 1000000000000 < n) :
    Calls Try.prog 22 #[.slice A m c, .int .i64 n] w (MadeS 5 1 m (ints .u8 xs) w) := by
  obtain ⟨i0, hi, hz0, hz1, hz2⟩ := info_parts u8_info
  have HR := Lib.hid hr
  clear hr
  go_enter Try.func22, Try.ntmps22
  go_wp2_with (first | (go_at_call 40; refine (C1.specIn_f _ _ _ _ (by omega)).mono ?_; rintro e w' ⟨rfl, rfl⟩) | (at_builtin; refine wpList_app _ rfl (.tmp 6) _ 22 rfl w.heap.size 5 i0 (.int .u8 0) 1 1 Try.underlying22 hi hz0 hz1 hz2 rfl (by decide) _ 0 [] rfl (own_lit w #[] 0 _ 5 (Nat.le_refl _) rfl (Nat.zero_le _)) _ A m c _ rfl (HR.out.alloc _) (ints_one _ _) (by unfold maxLen; omega) (by omega) (by simp) ?_; intro v1 w1 hown hgrow))
  go_ret
  obtain ⟨A', c', rfl⟩ := own_nil_form hown
  refine ⟨A', c', by simp, by simpa using hown, ?_⟩
  exact ((Below.refl _ _).alloc (Nat.le_refl _) _).grown hgrow (by simp) (fun k hk => by cases hk; exact Nat.le_refl _)
theorem specAppend (w : World) (A : Option Addr) (m c : Nat) (xs : List Int) (n : Int) (hr : Rd w w.heap.size 1 A m (ints .u8 xs)) (hm : m ≤ 4294967296) :
    Calls Try.prog 22 #[.slice A m c, .int .i64 n] w (MadeS 5 1 (m + (enc n).length) (ints .u8 (xs ++ enc n)) w) := by
  by_cases h : 0 ≤ n ∧ n ≤ 1000000000000
  · have e : n = ((n.toNat : Nat) : Int) := by omega
    have h1 := specAppend_in w A m c xs n.toNat hr hm (by omega)
    rw [← enc_in n.toNat (by omega), ← e] at h1
    exact h1
  · have h1 := specAppend_out w A m c xs n hr hm (by omega)
    rw [enc_out n (by omega), List.append_nil]
    exact h1
theorem u8_get {xs : List Int} (hx : ∀ x ∈ xs, 0 ≤ x ∧ x ≤ 255) (j : Nat) : 0 ≤ xs.getD j 0 ∧ xs.getD j 0 ≤ 255 := by
  rw [List.getD_eq_getElem?_getD]
  cases h : xs[j]? with
  | none => simp
  | some v => exact hx v (List.mem_of_getElem? h)
/-- The three results of ReadUvarint. -/
def rd3 (d : Option (Int × Int)) : Value := .tuple #[.int .i64 (rn d), .int .i64 (rx d), .bool (rb d)]
theorem rd3_none {d : Option (Int × Int)} (h : d = none) : Ending.returned (.tuple #[.int .i64 0, .int .i64 0, .bool false]) = .returned (rd3 d) := by rw [h]; rfl
theorem rd3_some {d : Option (Int × Int)} {a b a' b' : Int} (h : d = some (a, b)) (ha : a' = a) (hb : b' = b) : Ending.returned (.tuple #[.int .i64 a', .int .i64 b', .bool true]) = .returned (rd3 d) := by rw [h, ha, hb]; rfl
theorem minB (a b : Int) (L : Int) (w : World) (hL : L = if b < a then b else a) :
    Calls Try.prog 36 #[.int .i64 a, .int .i64 b] w fun e w' => e = .returned (.int .i64 L) ∧ Below w.heap.size w w' := by
  have hv : C1.pick false a b = if b < a then b else a := by unfold C1.pick; by_cases h : a < b <;> simp [h] <;> omega
  rw [hL, ← hv]
  clear hv hL
  go_enter Try.func36, Try.ntmps36
  go_wp2_with (go_at_call 43; refine (C1.extr _ a b w.heap.size (w.alloc (.cells #[.int .i64 b] 3)) (by go_simp)).mono ?_; rintro e w' ⟨rfl, rfl⟩)
  go_ret
  exact ⟨rfl, by repeat (first | exact Below.refl _ _ | apply Below.drew | refine Below.alloc ?_ (Nat.le_refl _) _)⟩
theorem implRead_out (w : World) (A : Option Addr) (n c : Nat) (xs : List Int) (off : Int) (hl : xs.length = n) (hn : n ≤ 4294967296) (ho : off < 0 ∨ (n : Int) < off) :
    Calls Try.prog 11 #[.slice A n c, .int .i64 off] w (Gives (rd3 (dec xs off)) w) := by
  have HD := Lib.hid (dec_out xs off (by omega))
  clear hl
  go_enter Try.func11, Try.ntmps11
  go_wp2_with (go_at_call 35; refine (C1.implIn_f _ _ _ _ (by omega)).mono ?_; rintro e w' ⟨rfl, rfl⟩)
  go_ret3
  exact ⟨rd3_none HD.out, Below.refl _ _⟩
set_option maxHeartbeats 1600000 in
set_option maxRecDepth 100000 in
theorem implRead_in (w : World) (b o n c : Nat) (xs : List Int) (off : Nat) (hr : Rd w w.heap.size 1 (some ⟨b, o, none⟩) n (ints .u8 xs)) (hx : ∀ x ∈ xs, 0 ≤ x ∧ x ≤ 255) (hc : n ≤ c) (hn : n ≤ 4294967296) (ho : off < n) :
    Calls Try.prog 11 #[.slice (some ⟨b, o, none⟩) n c, .int .i64 off] w (Gives (rd3 (dec xs off)) w) := by
  have hl : xs.length = n := by have := hr.len1; rw [ints_len] at this; omega
  obtain ⟨L, hL0, hL1, hL2, hL3⟩ : ∃ L : Nat, (L : Int) = (if (6 : Int) < (n : Int) - off then 6 else (n : Int) - off) ∧ L ≤ 6 ∧ off + L ≤ n ∧ (L = 6 ∨ off + L = n) := by
    by_cases h : (6 : Int) < (n : Int) - off
    · exact ⟨6, by rw [if_pos h]; rfl, by omega, by omega, by omega⟩
    · exact ⟨n - off, by rw [if_neg h]; omega, by omega, by omega, by omega⟩
  have HR := Lib.hid hr
  have HL := Lib.hid hl
  have HX := Lib.hid hx
  have HL0 := Lib.hid hL0
  have HL3 := Lib.hid hL3
  have hLp : 0 < L := by omega
  clear hr hl hx hL0 hL3
  go_enter Try.func11, Try.ntmps11
  go_wp2_with (first | (go_at_call 35; refine (C1.implIn_t _ _ _ _ (by omega) (by omega)).mono ?_; rintro e w' ⟨rfl, rfl⟩) | (go_at_call 36; refine (minB _ _ (L : Int) _ HL0.out).mono ?_; rintro e w1 ⟨rfl, hb1⟩))
  have HW := Lib.hid (HR.out.below hb1)
  go_loop [8, 30] (fun a i => ∃ (k : Nat) (acc : Int), k ≤ L ∧ i = .int .i64 k ∧ a = .int .i64 acc ∧ Dec xs off k acc) (fun _ i => L - (intOf i).toNat)
  case atStart => exact ⟨0, 0, by omega, rfl, rfl, Dec.start xs off (by have := HL.out; omega)⟩
  case round =>
    obtain ⟨k, acc, hk, rfl, rfl, hD⟩ := hrel
    have hab := hD.bd
    by_cases hlt : k < L
    · obtain ⟨b', o', hA, _, hcell⟩ := HW.out.at_ (j := off + k) (by omega)
      obtain ⟨rfl, rfl⟩ : b = b' ∧ o = o' := by injection hA with hA; injection hA with h1 h2; exact ⟨h1, h2⟩
      clear hA
      rw [← Nat.add_assoc] at hcell
      have hxl := HL.out
      have hxb := u8_get HX.out (off + k)
      obtain ⟨x, hxe⟩ : ∃ x, x = xs.getD (off + k) 0 := ⟨_, rfl⟩
      rw [← hxe] at hcell hxb
      have hvb := part_bd k x (by omega) hxb.1 hxb.2
      obtain ⟨V, hV⟩ : ∃ V, V = x % 128 * 2 ^ (7 * k) := ⟨_, rfl⟩
      rw [← hV] at hvb
      have HE := Lib.hid hxe
      have HV := Lib.hid hV
      have HXL := Lib.hid hxl
      obtain ⟨hx0, hx1⟩ := hxb
      obtain ⟨hv0, hv1⟩ := hvb
      obtain ⟨ha0, ha1⟩ := hab
      clear hxe hV hxl
      have hk6 : k < 6 := by omega
      have e1 : wrap64 (x % 128 * 2 ^ (7 * k)) = V := by rw [← HV.out]; exact IntWalk.wrap64_in _ ⟨by omega, by omega⟩
      by_cases hx : x < 128
      · have hxV : x * 2 ^ (7 * k) = V := by rw [HV.out, Int.emod_eq_of_lt hx0 hx]
        have hll : off + k < xs.length := by have := HXL.out; omega
        have hB := hD.bad hk6 hll
        have hH := hD.hit hk6 hll
        rw [← HE.out, hxV] at hB hH
        have HB := Lib.hid hB
        have HH := Lib.hid hH
        clear hB hH hxV hll
        by_cases hz : x = 0
        · have hz1 : (x == 0) = true := by simpa using hz
          have HZ := Lib.hid hz
          clear hz
          by_cases hk0 : 0 < k
          · go_wp2
            go_ret3
            exact ⟨rd3_none (HB.out hx (.inl ⟨HZ.out, hk0⟩)), hb1⟩
          · by_cases hbig : 1000000000000 < acc + V
            · go_wp2
              go_ret3
              exact ⟨rd3_none (HB.out hx (.inr hbig)), hb1⟩
            · go_wp2
              go_ret3
              exact ⟨rd3_some (HH.out hx (by omega)) rfl rfl, hb1⟩
        · have hz1 : (x == 0) = false := by simpa using hz
          by_cases hbig : 1000000000000 < acc + V
          · by_cases hk0 : 0 < k
            all_goals
              go_wp2
              go_ret3
              exact ⟨rd3_none (HB.out hx (.inr hbig)), hb1⟩
          · by_cases hk0 : 0 < k
            all_goals
              go_wp2
              go_ret3
              exact ⟨rd3_some (HH.out hx (by omega)) rfl rfl, hb1⟩
      · go_wp2
        go_round
        case rel => exact ⟨k + 1, acc + V, by omega, by go_num, rfl, by have := hD.next hk6 (by have := HXL.out; omega) (by rw [← HE.out]; exact hx); rw [← HE.out, ← HV.out] at this; exact this⟩
        case measure => simp [intOf]; omega
    · have hd : decide (k < L) = false := by simp; omega
      have HN := Lib.hid (hD.none_ (by have := HL3.out; have := HL.out; omega))
      go_wp2
      go_ret3
      exact ⟨rd3_none HN.out, hb1⟩
theorem implRead_end (w : World) (A : Option Addr) (n c : Nat) (xs : List Int) (hl : xs.length = n) (hS : Sh A n c) (hn : n ≤ 4294967296) :
    Calls Try.prog 11 #[.slice A n c, .int .i64 n] w (Gives (rd3 (dec xs n)) w) := by
  have HD := Lib.hid ((Dec.start xs n (by omega)).none_ (by omega))
  have hm : (0 : Int) = (if (6 : Int) < (n : Int) - n then 6 else (n : Int) - n) := by rw [if_neg (by omega)]; omega
  have hm' : (0 : Int) = (if (6 : Int) < 0 then 6 else 0) := by rw [if_neg (by omega)]
  have HM := Lib.hid hm
  have HM' := Lib.hid hm'
  obtain ⟨hc, hA, hs⟩ := hS
  clear hl hm hm'
  cases A with
  | none =>
    obtain ⟨rfl, rfl⟩ := hA rfl
    clear hA hs
    go_enter Try.func11, Try.ntmps11
    go_wp2_with (first | (go_at_call 35; refine (C1.implIn_t _ _ _ _ (by omega) (by omega)).mono ?_; rintro e w' ⟨rfl, rfl⟩) | (go_at_call 36; refine (minB _ _ 0 _ HM'.out).mono ?_; rintro e w1 ⟨rfl, hb1⟩))
    go_loop [30] (fun i => i = .int .i64 0) (fun _ => 0)
    case atStart => rfl
    case round =>
      subst hrel
      go_wp2
      go_ret3
      exact ⟨rd3_none HD.out, hb1⟩
  | some a =>
    obtain ⟨b, o, s⟩ := a
    obtain rfl : s = none := hs _ rfl
    clear hA hs
    go_enter Try.func11, Try.ntmps11
    go_wp2_with (first | (go_at_call 35; refine (C1.implIn_t _ _ _ _ (by omega) (by omega)).mono ?_; rintro e w' ⟨rfl, rfl⟩) | (go_at_call 36; refine (minB _ _ 0 _ (by first | exact HM.out | exact HM'.out)).mono ?_; rintro e w1 ⟨rfl, hb1⟩))
    go_loop [30] (fun i => i = .int .i64 0) (fun _ => 0)
    case atStart => rfl
    case round =>
      subst hrel
      go_wp2
      go_ret3
      exact ⟨rd3_none HD.out, hb1⟩
theorem implRead (w : World) (A : Option Addr) (n c : Nat) (xs : List Int) (off : Int) (hr : Rd w w.heap.size 1 A n (ints .u8 xs)) (hx : ∀ x ∈ xs, 0 ≤ x ∧ x ≤ 255) (hS : Sh A n c) (hn : n ≤ 4294967296) :
    Calls Try.prog 11 #[.slice A n c, .int .i64 off] w (Gives (rd3 (dec xs off)) w) := by
  have hl : xs.length = n := by have := hr.len1; rw [ints_len] at this; omega
  by_cases h1 : off < 0 ∨ (n : Int) < off
  · exact implRead_out w A n c xs off hl hn h1
  · obtain ⟨k, rfl⟩ : ∃ k : Nat, off = k := ⟨off.toNat, by omega⟩
    by_cases h2 : k = n
    · subst h2; exact implRead_end w A k c xs hl hS hn
    · obtain ⟨b, o, rfl, _, _⟩ := hr.2 (by omega)
      exact implRead_in w b o n c xs k hr hx hS.cap hn (by omega)
set_option maxHeartbeats 400000 in
theorem specRead_out (w : World) (A : Option Addr) (n c : Nat) (xs : List Int) (off : Int) (hl : xs.length = n) (hn : n ≤ 4294967296) (h0 : -9223372036854775808 ≤ off) (h1 : off ≤ 9223372036854775807) (ho : off < 0 ∨ (n : Int) ≤ off) :
    Calls Try.prog 14 #[.slice A n c, .int .i64 off] w (Gives (rd3 (dec xs off)) w) := by
  have hd : dec xs off = none := by
    by_cases h : off = n
    · subst h; exact (Dec.start xs n (by omega)).none_ (by omega)
    · exact dec_out xs off (by omega)
  have HD := Lib.hid hd
  clear hl hd
  go_enter Try.func14, Try.ntmps14
  go_wp2
  go_loop [7, 8] (fun a i => a = .int .i64 0 ∧ i = .int .i64 0) (fun _ _ => 0)
  case atStart => exact ⟨rfl, rfl⟩
  case round =>
    obtain ⟨rfl, rfl⟩ := hrel
    by_cases h : off < 0
    · have hd : decide (off < 0) = true := by simpa using h
      clear ho
      go_wp2
      go_ret3
      exact ⟨rd3_none HD.out, Below.refl _ _⟩
    · have hd : decide (off < 0) = false := by simpa using h
      have h2 : (n : Int) ≤ off := by omega
      clear ho
      go_wp2
      go_ret3
      exact ⟨rd3_none HD.out, Below.refl _ _⟩
theorem or_part (k : Nat) (acc x : Int) (hk : k < 6) (h0 : 0 ≤ acc) (h1 : acc < 2 ^ (7 * k)) (hx0 : 0 ≤ x) (hx1 : x ≤ 255) : bits .or .i64 acc (x % 128 * 2 ^ (7 * k)) = acc + x % 128 * 2 ^ (7 * k) := by
  have hb := part_bd k x hk hx0 hx1
  have hp := pow_le6 k (by omega)
  have h := bits_join .i64 62 (by decide) i64_wraps (7 * k) (x % 128 * 2 ^ (7 * k)) acc hb.1 (Int.mul_emod_left _ _) (by omega) h0 h1 (by omega)
  have hc : bits .or .i64 acc (x % 128 * 2 ^ (7 * k)) = bits .or .i64 (x % 128 * 2 ^ (7 * k)) acc := by simp only [bits, BitVec.or_comm]
  rw [hc, h]; omega
set_option maxHeartbeats 1600000 in
set_option maxRecDepth 100000 in
theorem specRead_in (w : World) (b o n c : Nat) (xs : List Int) (off : Nat) (hr : Rd w w.heap.size 1 (some ⟨b, o, none⟩) n (ints .u8 xs)) (hx : ∀ x ∈ xs, 0 ≤ x ∧ x ≤ 255) (hn : n ≤ 4294967296) (ho : off < n) :
    Calls Try.prog 14 #[.slice (some ⟨b, o, none⟩) n c, .int .i64 off] w (Gives (rd3 (dec xs off)) w) := by
  have hl : xs.length = n := by have := hr.len1; rw [ints_len] at this; omega
  have HR := Lib.hid hr
  have HL := Lib.hid hl
  have HX := Lib.hid hx
  clear hr hl hx
  go_enter Try.func14, Try.ntmps14
  go_wp2
  go_loop [7, 8] (fun a i => ∃ (k : Nat) (acc : Int), k ≤ 6 ∧ i = .int .i64 k ∧ a = .int .i64 acc ∧ Dec xs off k acc) (fun _ i => 6 - (intOf i).toNat)
  case atStart => exact ⟨0, 0, by omega, rfl, rfl, Dec.start xs off (by have := HL.out; omega)⟩
  case round =>
    obtain ⟨k, acc, hk, rfl, rfl, hD⟩ := hrel
    have hab := hD.bd
    by_cases hk6 : k < 6
    · by_cases hlt : off + k < n
      · obtain ⟨b', o', hA, _, hcell⟩ := HR.out.at_ (j := off + k) (by omega)
        obtain ⟨rfl, rfl⟩ : b = b' ∧ o = o' := by injection hA with hA; injection hA with h1 h2; exact ⟨h1, h2⟩
        clear hA
        have hxl := HL.out
        have hxb := u8_get HX.out (off + k)
        obtain ⟨x, hxe⟩ : ∃ x, x = xs.getD (off + k) 0 := ⟨_, rfl⟩
        rw [← hxe] at hcell hxb
        have hvb := part_bd k x (by omega) hxb.1 hxb.2
        have e0 := and127 x hxb.1 (by omega)
        have e2 := or_part k acc x hk6 hD.2.2.1 hD.2.2.2.1 hxb.1 hxb.2
        obtain ⟨V, hV⟩ : ∃ V, V = x % 128 * 2 ^ (7 * k) := ⟨_, rfl⟩
        rw [← hV] at hvb e2
        have HE := Lib.hid hxe
        have HV := Lib.hid hV
        have HXL := Lib.hid hxl
        obtain ⟨hx0, hx1⟩ := hxb
        obtain ⟨hv0, hv1⟩ := hvb
        obtain ⟨ha0, ha1⟩ := hab
        clear hxe hV hxl
        have e1 : wrap64 (x % 128 * 2 ^ (7 * k)) = V := by rw [← HV.out]; exact IntWalk.wrap64_in _ ⟨by omega, by omega⟩
        have hnn : decide ((off : Int) < 0) = false := by simp
        by_cases hx : x < 128
        · have hxV : x * 2 ^ (7 * k) = V := by rw [HV.out, Int.emod_eq_of_lt hx0 hx]
          have hll : off + k < xs.length := by have := HXL.out; omega
          have hB := hD.bad hk6 hll
          have hH := hD.hit hk6 hll
          rw [← HE.out, hxV] at hB hH
          have HB := Lib.hid hB
          have HH := Lib.hid hH
          clear hB hH hxV hll
          by_cases hz : x = 0
          · have hz1 : (x == 0) = true := by simpa using hz
            have HZ := Lib.hid hz
            clear hz
            by_cases hk0 : 0 < k
            · go_wp2
              go_ret3
              exact ⟨rd3_none (HB.out hx (.inl ⟨HZ.out, hk0⟩)), Below.refl _ _⟩
            · by_cases hbig : 1000000000000 < acc + V
              · go_wp2
                go_ret3
                exact ⟨rd3_none (HB.out hx (.inr hbig)), Below.refl _ _⟩
              · go_wp2
                go_ret3
                exact ⟨rd3_some (HH.out hx (by omega)) rfl rfl, Below.refl _ _⟩
          · have hz1 : (x == 0) = false := by simpa using hz
            by_cases hbig : 1000000000000 < acc + V
            · by_cases hk0 : 0 < k
              all_goals
                go_wp2
                go_ret3
                exact ⟨rd3_none (HB.out hx (.inr hbig)), Below.refl _ _⟩
            · by_cases hk0 : 0 < k
              all_goals
                go_wp2
                go_ret3
                exact ⟨rd3_some (HH.out hx (by omega)) rfl rfl, Below.refl _ _⟩
        · go_wp2
          go_round
          case rel => exact ⟨k + 1, acc + V, by omega, by go_num, rfl, by have := hD.next hk6 (by have := HXL.out; omega) (by rw [← HE.out]; exact hx); rw [← HE.out, ← HV.out] at this; exact this⟩
          case measure => simp [intOf]; omega
      · have hd : decide ((off : Int) < 0) = false := by simp
        have HN := Lib.hid (hD.none_ (by have := hD.2.1; have := HL.out; omega))
        go_wp2
        go_ret3
        exact ⟨rd3_none HN.out, Below.refl _ _⟩
    · have HN := Lib.hid (hD.none_ (by omega))
      go_wp2
      go_ret3
      exact ⟨rd3_none HN.out, Below.refl _ _⟩
theorem specRead (w : World) (A : Option Addr) (n c : Nat) (xs : List Int) (off : Int) (hr : Rd w w.heap.size 1 A n (ints .u8 xs)) (hx : ∀ x ∈ xs, 0 ≤ x ∧ x ≤ 255) (hn : n ≤ 4294967296) (h0 : -9223372036854775808 ≤ off) (h1 : off ≤ 9223372036854775807) :
    Calls Try.prog 14 #[.slice A n c, .int .i64 off] w (Gives (rd3 (dec xs off)) w) := by
  have hl : xs.length = n := by have := hr.len1; rw [ints_len] at this; omega
  by_cases h2 : off < 0 ∨ (n : Int) ≤ off
  · exact specRead_out w A n c xs off hl hn h0 h1 h2
  · obtain ⟨k, rfl⟩ : ∃ k : Nat, off = k := ⟨off.toNat, by omega⟩
    obtain ⟨b, o, rfl, _, _⟩ := hr.2 (by omega)
    exact specRead_in w b o n c xs k hr hx hn (by omega)
end Go.Proofs.Ytpeagjpcdoegoab.C2
