/-
  Contracts of chapter 2's functions, the rest: ReadBytes, DecodeInts.
-/
import Derived.Test.YtpeagjpcdoegoabC2
namespace Go.Proofs.Ytpeagjpcdoegoab.C2c
open Go.ChangeShapes Go.WideShapes Go.ChangeAt Go.RowKit
open S0 S1 M2 C2
set_option linter.unusedVariables false

/-- A slice that a call made, with a number and a bool. -/
def Made3 (E n : Nat) (cells : List Value) (x : Int) (ok : Bool) (w : World) (e : Ending) (w' : World) : Prop :=
  ∃ A c, e = .returned (.tuple #[.slice A n c, .int .i64 x, .bool ok]) ∧ w'.ownsRow w.heap.size E 1 (.slice A n c) n cells ∧ Below w.heap.size w w'
def res3 (k : IntKind) (E : Nat) (d : Option (List Int × Int)) (w : World) (e : Ending) (w' : World) : Prop := Made3 E (il d).length (ints k (il d)) (ix d) (ib d) w e w'
theorem res_none {k : IntKind} {E : Nat} {d : Option (List Int × Int)} {w wx : World} (h : d = none) (hb : Below w.heap.size w wx) (A : Option Addr) (ho : wx.ownsRow w.heap.size E 1 (.slice A 0 0) 0 []) :
    res3 k E d w (.returned (.tuple #[.slice A 0 0, .int .i64 0, .bool false])) wx := by
  subst h
  exact ⟨A, 0, rfl, ho, hb⟩
theorem res_some {k : IntKind} {E : Nat} {d : Option (List Int × Int)} {ys : List Int} {x x' : Int} {w wx : World} (h : d = some (ys, x)) (hx : x' = x) (hb : Below w.heap.size w wx) {A : Option Addr} {n c : Nat} (hn : n = ys.length) (ho : wx.ownsRow w.heap.size E 1 (.slice A n c) n (ints k ys)) :
    res3 k E d w (.returned (.tuple #[.slice A n c, .int .i64 x', .bool true])) wx := by
  subst h hx hn
  exact ⟨A, c, rfl, ho, hb⟩
theorem rd_cut {w : World} {hi b o n : Nat} {xs : List Int} (h : Rd w hi 1 (some ⟨b, o, none⟩) n (ints .u8 xs)) (st L : Nat) (hl : st + L ≤ n) : Rd w hi 1 (some ⟨b, o + st, none⟩) L (ints .u8 ((xs.drop st).take L)) := by
  have hx : xs.length = n := by have := h.len1; rw [ints_len] at this; exact this
  have hlen : ((xs.drop st).take L).length = L := by simp; omega
  refine ⟨by rw [ints_len, hlen]; omega, fun hL => ?_⟩
  obtain ⟨b', o', hA, hb, hc⟩ := h.2 (by omega)
  injection hA with hA
  injection hA with h1 h2
  subst h1 h2
  refine ⟨b, o + st, rfl, hb, fun j hj => ?_⟩
  rw [show o + st + j = o + (st + j) by omega, hc (st + j) (by omega), ints_get .u8 xs (st + j) (by omega), ints_get .u8 _ j (by omega)]
  congr 2
  rw [List.getD_eq_getElem?_getD, List.getD_eq_getElem?_getD, List.getElem?_take, if_pos (by omega), List.getElem?_drop]
theorem iRead_none (w : World) (A : Option Addr) (n c : Nat) (xs : List Int) (off : Int) (hd : dec xs off = none) (hr : Rd w w.heap.size 1 A n (ints .u8 xs)) (hx : ∀ x ∈ xs, 0 ≤ x ∧ x ≤ 255) (hS : Sh A n c) (hn : n ≤ 4294967296) :
    Calls Try.prog 11 #[.slice A n c, .int .i64 off] w (Gives (.tuple #[.int .i64 0, .int .i64 0, .bool false]) w) := by have h := implRead w A n c xs off hr hx hS hn; rw [hd] at h; exact h
theorem iRead_some (w : World) (A : Option Addr) (n c : Nat) (xs : List Int) (off a b : Int) (hd : dec xs off = some (a, b)) (hr : Rd w w.heap.size 1 A n (ints .u8 xs)) (hx : ∀ x ∈ xs, 0 ≤ x ∧ x ≤ 255) (hS : Sh A n c) (hn : n ≤ 4294967296) :
    Calls Try.prog 11 #[.slice A n c, .int .i64 off] w (Gives (.tuple #[.int .i64 a, .int .i64 b, .bool true]) w) := by have h := implRead w A n c xs off hr hx hS hn; rw [hd] at h; exact h
theorem implReadT (w : World) (A : Option Addr) (n c : Nat) (xs : List Int) (off : Int) (hr : Rd w w.heap.size 1 A n (ints .u8 xs)) (hx : ∀ x ∈ xs, 0 ≤ x ∧ x ≤ 255) (hS : Sh A n c) (hn : n ≤ 4294967296) :
    Calls Try.prog 11 #[.slice A n c, .int .i64 off] w (Gives (.tuple #[.int .i64 (rn (dec xs off)), .int .i64 (rx (dec xs off)), .bool (rb (dec xs off))]) w) := implRead w A n c xs off hr hx hS hn
theorem sRead_none (w : World) (A : Option Addr) (n c : Nat) (xs : List Int) (off : Int) (hd : dec xs off = none) (hr : Rd w w.heap.size 1 A n (ints .u8 xs)) (hx : ∀ x ∈ xs, 0 ≤ x ∧ x ≤ 255) (hn : n ≤ 4294967296) (h0 : -9223372036854775808 ≤ off) (h1 : off ≤ 9223372036854775807) :
    Calls Try.prog 14 #[.slice A n c, .int .i64 off] w (Gives (.tuple #[.int .i64 0, .int .i64 0, .bool false]) w) := by have h := specRead w A n c xs off hr hx hn h0 h1; rw [hd] at h; exact h
theorem sRead_some (w : World) (A : Option Addr) (n c : Nat) (xs : List Int) (off a b : Int) (hd : dec xs off = some (a, b)) (hr : Rd w w.heap.size 1 A n (ints .u8 xs)) (hx : ∀ x ∈ xs, 0 ≤ x ∧ x ≤ 255) (hn : n ≤ 4294967296) (h0 : -9223372036854775808 ≤ off) (h1 : off ≤ 9223372036854775807) :
    Calls Try.prog 14 #[.slice A n c, .int .i64 off] w (Gives (.tuple #[.int .i64 a, .int .i64 b, .bool true]) w) := by have h := specRead w A n c xs off hr hx hn h0 h1; rw [hd] at h; exact h
theorem specReadT (w : World) (A : Option Addr) (n c : Nat) (xs : List Int) (off : Int) (hr : Rd w w.heap.size 1 A n (ints .u8 xs)) (hx : ∀ x ∈ xs, 0 ≤ x ∧ x ≤ 255) (hn : n ≤ 4294967296) (h0 : -9223372036854775808 ≤ off) (h1 : off ≤ 9223372036854775807) :
    Calls Try.prog 14 #[.slice A n c, .int .i64 off] w (Gives (.tuple #[.int .i64 (rn (dec xs off)), .int .i64 (rx (dec xs off)), .bool (rb (dec xs off))]) w) := specRead w A n c xs off hr hx hn h0 h1
set_option maxHeartbeats 800000 in
set_option maxRecDepth 100000 in
theorem implReadBytes (w : World) (A : Option Addr) (n c : Nat) (xs : List Int) (off most : Int) (hr : Rd w w.heap.size 1 A n (ints .u8 xs)) (hx : ∀ x ∈ xs, 0 ≤ x ∧ x ≤ 255) (hS : Sh A n c) (hn : n ≤ 16777216) (h2 : -9223372036854775808 ≤ most) (h3 : most ≤ 9223372036854775807) :
    Calls Try.prog 17 #[.slice A n c, .int .i64 off, .int .i64 most] w (res3 .u8 5 (decBytes xs off most) w) := by
  have hl : xs.length = n := by have := hr.len1; rw [ints_len] at this; exact this
  have HR := Lib.hid hr
  have HX := Lib.hid hx
  have HS := Lib.hid hS
  have HL := Lib.hid hl
  cases hd : dec xs off with
  | none =>
    have HD := Lib.hid (decBytes_none (most := most) hd)
    have HD1 := Lib.hid hd
    clear hr hx hS hl hd
    go_enter Try.func17, Try.ntmps17
    go_wp2_with fail
    (with_reducible refine (iRead_none _ _ _ _ xs off HD1.out HR.out HX.out HS.out (by omega)).mono ?_); rintro e w1 ⟨rfl, hb1⟩
    go_wp2
    go_ret3
    exact res_none HD.out (hb1.alloc hb1.size _) _ (own_lit _ _ 0 _ _ hb1.size rfl (Nat.zero_le _))
  | some p =>
    obtain ⟨a, b⟩ := p
    have hbd := dec_bd hd hx
    obtain ⟨st, rfl⟩ : ∃ st : Nat, b = st := ⟨b.toNat, by omega⟩
    obtain ⟨L, rfl⟩ : ∃ L : Nat, a = L := ⟨a.toNat, by omega⟩
    have hst : st ≤ n := by omega
    have hL : (L : Int) ≤ 1000000000000 := by omega
    have HD1 := Lib.hid hd
    by_cases hbad : most < L ∨ (n : Int) - st < L
    · have HD := Lib.hid (decBytes_bad (most := most) hd (by rw [hl]; exact hbad))
      clear hr hx hS hl hd hbd
      by_cases hb1 : most < L
      · have hdec : decide (most < (L : Int)) = true := by simpa using hb1
        clear hbad
        go_enter Try.func17, Try.ntmps17
        go_wp2_with fail
        (with_reducible refine (iRead_some _ _ _ _ xs off _ _ HD1.out HR.out HX.out HS.out (by omega)).mono ?_); rintro e w1 ⟨rfl, hb1⟩
        go_wp2
        go_ret3
        exact res_none HD.out (hb1.alloc hb1.size _) _ (own_lit _ _ 0 _ _ hb1.size rfl (Nat.zero_le _))
      · have hdec : decide (most < (L : Int)) = false := by simpa using hb1
        have hb2 : (n : Int) - st < L := by omega
        clear hbad
        go_enter Try.func17, Try.ntmps17
        go_wp2_with fail
        (with_reducible refine (iRead_some _ _ _ _ xs off _ _ HD1.out HR.out HX.out HS.out (by omega)).mono ?_); rintro e w1 ⟨rfl, hb1⟩
        go_wp2
        go_ret3
        exact res_none HD.out (hb1.alloc hb1.size _) _ (own_lit _ _ 0 _ _ hb1.size rfl (Nat.zero_le _))
    · have HD := Lib.hid (decBytes_some (most := most) hd (by rw [hl]; exact hbad))
      have hm1 : (L : Int) ≤ most := by omega
      have hm2 : st + L ≤ n := by omega
      have hdec : decide (most < (L : Int)) = false := by simp; omega
      have hcap := hS.cap
      have hlen : ((xs.drop st).take L).length = L := by simp; omega
      have HLEN := Lib.hid hlen
      have hst0 : 0 < st := by omega
      obtain ⟨blk, o, rfl, _, _⟩ := hr.2 (by omega)
      clear hr hx hS hl hd hbd hbad hlen
      by_cases hL0 : L = 0
      · subst hL0
        have HC := Lib.hid (Rd.nil (w := w) (hi := w.heap.size) (size := 1) (A := some ⟨blk, o, none⟩))
        go_enter Try.func17, Try.ntmps17
        go_wp2_with fail
        (with_reducible refine (iRead_some _ _ _ _ xs off _ _ HD1.out HR.out HX.out HS.out (by omega)).mono ?_); rintro e w1 ⟨rfl, hb1⟩
        go_wp2_with fail
        (with_reducible refine (copyBytes _ _ _ _ [] (HC.out.on hb1) (by omega)).mono ?_); rintro e w2 ⟨A2, c2, rfl, ho2, hb2⟩
        go_wp2
        go_ret3
        exact res_some HD.out (by simp) (hb1.trans (hb2.mono hb1.size)) (by simp) (own_base ho2 hb1.size)
      · have HC := Lib.hid (rd_cut HR.out st L hm2)
        go_enter Try.func17, Try.ntmps17
        go_wp2_with fail
        (with_reducible refine (iRead_some _ _ _ _ xs off _ _ HD1.out HR.out HX.out HS.out (by omega)).mono ?_); rintro e w1 ⟨rfl, hb1⟩
        go_wp2_with fail
        rw [show st + L - st = L by omega]
        (with_reducible refine (copyBytes _ _ _ _ _ (HC.out.on hb1) (by omega)).mono ?_); rintro e w2 ⟨A2, c2, rfl, ho2, hb2⟩
        go_wp2
        go_ret3
        exact res_some HD.out rfl (hb1.trans (hb2.mono hb1.size)) (by simp; have := HLEN.out; simp at this; omega) (own_base ho2 hb1.size)
set_option maxHeartbeats 800000 in
set_option maxRecDepth 100000 in
theorem specReadBytes (w : World) (A : Option Addr) (n c : Nat) (xs : List Int) (off most : Int) (hr : Rd w w.heap.size 1 A n (ints .u8 xs)) (hx : ∀ x ∈ xs, 0 ≤ x ∧ x ≤ 255) (hS : Sh A n c) (hn : n ≤ 16777216) (h0 : -9223372036854775808 ≤ off) (h1 : off ≤ 9223372036854775807) (h2 : -9223372036854775808 ≤ most) (h3 : most ≤ 9223372036854775807) :
    Calls Try.prog 28 #[.slice A n c, .int .i64 off, .int .i64 most] w (res3 .u8 5 (decBytes xs off most) w) := by
  have hl : xs.length = n := by have := hr.len1; rw [ints_len] at this; exact this
  have HR := Lib.hid hr
  have HX := Lib.hid hx
  have HL := Lib.hid hl
  have HO := Lib.hid (And.intro h0 h1)
  cases hd : dec xs off with
  | none =>
    have HD := Lib.hid (decBytes_none (most := most) hd)
    have HD1 := Lib.hid hd
    clear hr hx hS hl hd
    go_enter Try.func28, Try.ntmps28
    go_wp2_with fail
    (with_reducible refine (sRead_none _ _ _ _ xs off HD1.out HR.out HX.out (by omega) HO.out.1 HO.out.2).mono ?_); rintro e w1 ⟨rfl, hb1⟩
    go_wp2
    go_ret3
    exact res_none HD.out (hb1.alloc hb1.size _) _ (own_lit _ _ 0 _ _ hb1.size rfl (Nat.zero_le _))
  | some p =>
    obtain ⟨a, b⟩ := p
    have hbd := dec_bd hd hx
    obtain ⟨st, rfl⟩ : ∃ st : Nat, b = st := ⟨b.toNat, by omega⟩
    obtain ⟨L, rfl⟩ : ∃ L : Nat, a = L := ⟨a.toNat, by omega⟩
    have hst : st ≤ n := by omega
    have hL : (L : Int) ≤ 1000000000000 := by omega
    have HD1 := Lib.hid hd
    by_cases hbad : most < L ∨ (n : Int) - st < L
    · have HD := Lib.hid (decBytes_bad (most := most) hd (by rw [hl]; exact hbad))
      clear hr hx hS hl hd hbd
      by_cases hb1 : most < L
      · have hdec : decide (most < (L : Int)) = true := by simpa using hb1
        clear hbad
        go_enter Try.func28, Try.ntmps28
        go_wp2_with fail
        (with_reducible refine (sRead_some _ _ _ _ xs off _ _ HD1.out HR.out HX.out (by omega) HO.out.1 HO.out.2).mono ?_); rintro e w1 ⟨rfl, hb1⟩
        go_wp2
        go_ret3
        exact res_none HD.out (hb1.alloc hb1.size _) _ (own_lit _ _ 0 _ _ hb1.size rfl (Nat.zero_le _))
      · have hdec : decide (most < (L : Int)) = false := by simpa using hb1
        have hb2 : (n : Int) - st < L := by omega
        clear hbad
        go_enter Try.func28, Try.ntmps28
        go_wp2_with fail
        (with_reducible refine (sRead_some _ _ _ _ xs off _ _ HD1.out HR.out HX.out (by omega) HO.out.1 HO.out.2).mono ?_); rintro e w1 ⟨rfl, hb1⟩
        go_wp2
        go_ret3
        exact res_none HD.out (hb1.alloc hb1.size _) _ (own_lit _ _ 0 _ _ hb1.size rfl (Nat.zero_le _))
    · have HD := Lib.hid (decBytes_some (most := most) hd (by rw [hl]; exact hbad))
      have hm1 : (L : Int) ≤ most := by omega
      have hm2 : st + L ≤ n := by omega
      have hdec : decide (most < (L : Int)) = false := by simp; omega
      have hcap := hS.cap
      have hlen : ((xs.drop st).take L).length = L := by simp; omega
      have HLEN := Lib.hid hlen
      have hst0 : 0 < st := by omega
      obtain ⟨blk, o, rfl, _, _⟩ := hr.2 (by omega)
      clear hr hx hS hl hd hbd hbad hlen
      by_cases hL0 : L = 0
      · subst hL0
        by_cases hcs : c = st
        · subst hcs
          go_enter Try.func28, Try.ntmps28
          go_wp2_with fail
          (with_reducible refine (sRead_some _ _ _ _ xs off _ _ HD1.out HR.out HX.out (by omega) HO.out.1 HO.out.2).mono ?_); rintro e w1 ⟨rfl, hb1⟩
          go_wp2_with (at_builtin; refine appB _ rfl _ _ rfl w.heap.size _ _ _ rfl (own_lit w1 #[] 0 _ _ hb1.size rfl (Nat.zero_le _)) w.heap.size _ 0 _ [] rfl Rd.nil (by simp) (by omega) (by have := hb1.size; simp; omega) ?_; intro v2 w2 ho2 hg2)
          go_ret3
          obtain ⟨A', c', rfl⟩ := own_nil_form ho2
          exact res_some HD.out (by simp) ((hb1.alloc hb1.size _).grown hg2 (by have := hb1.size; simp; omega) (fun k hk => by cases hk; exact hb1.size)) (by simp) ho2
        · go_enter Try.func28, Try.ntmps28
          go_wp2_with fail
          (with_reducible refine (sRead_some _ _ _ _ xs off _ _ HD1.out HR.out HX.out (by omega) HO.out.1 HO.out.2).mono ?_); rintro e w1 ⟨rfl, hb1⟩
          go_wp2_with (at_builtin; refine appB _ rfl _ _ rfl w.heap.size _ _ _ rfl (own_lit w1 #[] 0 _ _ hb1.size rfl (Nat.zero_le _)) w.heap.size _ 0 _ [] rfl Rd.nil (by simp) (by omega) (by have := hb1.size; simp; omega) ?_; intro v2 w2 ho2 hg2)
          go_ret3
          obtain ⟨A', c', rfl⟩ := own_nil_form ho2
          exact res_some HD.out (by simp) ((hb1.alloc hb1.size _).grown hg2 (by have := hb1.size; simp; omega) (fun k hk => by cases hk; exact hb1.size)) (by simp) ho2
      · have HC := Lib.hid (rd_cut HR.out st (st + L - st) (by omega))
        go_enter Try.func28, Try.ntmps28
        go_wp2_with fail
        (with_reducible refine (sRead_some _ _ _ _ xs off _ _ HD1.out HR.out HX.out (by omega) HO.out.1 HO.out.2).mono ?_); rintro e w1 ⟨rfl, hb1⟩
        go_wp2_with (at_builtin; refine appB _ rfl _ _ rfl w.heap.size _ _ _ rfl (own_lit w1 #[] 0 _ _ hb1.size rfl (Nat.zero_le _)) _ _ (st + L - st) _ _ rfl ((HC.out.on hb1).alloc _) (ints_one _ _) (by omega) (by have := hb1.size; simp; omega) ?_; intro v2 w2 ho2 hg2)
        go_ret3
        have eL : st + L - st = L := by omega
        obtain ⟨A', c', rfl⟩ := own_nil_form ho2
        refine res_some HD.out rfl ((hb1.alloc hb1.size _).grown hg2 (by have := hb1.size; simp; omega) (fun k hk => by cases hk; exact hb1.size)) ?_ ?_
        · have h := HLEN.out; rw [show (st : Int).toNat = st from rfl, show (L : Int).toNat = L from rfl]; omega
        · rw [eL] at ho2; rw [eL]; exact ho2
/-- Behind i of count numbers: the row that holds what was read. -/
def DecW (xs : List Int) (off : Int) (count i : Nat) (cur : Int) (w : World) (v : Value) (wr : World) : Prop :=
  ∃ ys, DecA xs off count i ys cur ∧ wr.ownsRow w.heap.size 3 1 v i (ints .i64 ys) ∧ Below w.heap.size w wr
theorem DecW.next {xs : List Int} {off : Int} {count i : Nat} {cur a b : Int} {w wr w1 w2 : World} {ys : List Int} {v v1 : Value} (hA : DecA xs off count i ys cur) (ho : wr.ownsRow w.heap.size 3 1 v i (ints .i64 ys)) (hb : Below w.heap.size w wr) (hi : i < count) (hd : dec xs cur = some (a, b)) (hx : ∀ x ∈ xs, 0 ≤ x ∧ x ≤ 255)
    (hb1 : Below wr.heap.size wr w1) (ho2 : w2.ownsRow w.heap.size 3 1 v1 (i + 1) (ints .i64 ys ++ [.int .i64 a])) (hg : (w1.alloc (.cells #[.int .i64 a] 3)).grownBy w2 v.ownBlock) : DecW xs off count (i + 1) b w v1 w2 := by
  refine ⟨ys ++ [a], hA.next hi hd hx, ?_, ?_⟩
  · have : ints .i64 (ys ++ [a]) = ints .i64 ys ++ [.int .i64 a] := by simp [ints]
    rw [this]; exact ho2
  · have h1 := hb.trans (hb1.mono hb.size)
    exact (h1.alloc h1.size _).grown hg (by have := h1.size; simp; omega) (fun k hk => (ho.lt k hk).1)
set_option maxHeartbeats 1600000 in
set_option maxRecDepth 100000 in
theorem implDecode_in (w : World) (A : Option Addr) (n c : Nat) (xs : List Int) (off : Int) (count : Nat) (hr : Rd w w.heap.size 1 A n (ints .u8 xs)) (hx : ∀ x ∈ xs, 0 ≤ x ∧ x ≤ 255) (hS : Sh A n c) (hn : n ≤ 16777216) (h0 : 0 ≤ off) (h1 : off ≤ n) (hc : count ≤ 100) :
    Calls Try.prog 20 #[.slice A n c, .int .i64 off, .int .i64 count] w (res3 .i64 3 (decInts xs off count) w) := by
  have hl : xs.length = n := by have := hr.len1; rw [ints_len] at this; exact this
  have HI := Lib.hid (decInts_in (xs := xs) (off := off) hc h0 (by omega))
  have HW : DecW xs off count 0 off w (.slice (some ⟨w.heap.size, 0, none⟩) 0 0) (w.alloc (.cells #[] 3)) := ⟨[], DecA.start xs off count h0 (by omega), own_lit w #[] 0 _ _ (Nat.le_refl _) rfl (Nat.zero_le _), (Below.refl _ _).alloc (Nat.le_refl _) _⟩
  have HR := Lib.hid hr
  have HX := Lib.hid hx
  have HS := Lib.hid hS
  clear hr hx hS hl
  go_enter Try.func20, Try.ntmps20
  go_wp2_with (go_at_call 35; refine (C1.implIn_t _ _ _ _ (by omega) (by omega)).mono ?_; rintro e w' ⟨rfl, rfl⟩)
  go_loopw [1, 9, 26] (fun x v i wr => ∃ (k : Nat) (cur : Int), k ≤ count ∧ x = .int .i64 cur ∧ i = .int .i64 k ∧ DecW xs off count k cur w v wr) (fun _ _ i _ => count - (intOf i).toNat)
  case atStart => exact ⟨0, off, by omega, rfl, rfl, HW⟩
  case round =>
    obtain ⟨k, cur, hk, rfl, rfl, ys, hA, ho, hb⟩ := hrel
    by_cases hlt : k < count
    · cases hd : dec xs cur with
      | none =>
        have HD1 := Lib.hid hd
        have HF := Lib.hid (HI.out.trans (hA.fail hlt hd))
        have HR1 := Lib.hid (HR.out.on hb)
        clear hd
        go_wp2_with fail
        (with_reducible refine (iRead_none _ _ _ _ xs cur HD1.out HR1.out HX.out HS.out (by omega)).mono ?_); rintro e w1 ⟨rfl, hb1⟩
        go_wp2
        go_ret3
        have h2 := hb.trans (hb1.mono hb.size)
        exact res_none HF.out (h2.alloc h2.size _) _ (own_lit _ _ 0 _ _ h2.size rfl (Nat.zero_le _))
      | some p =>
        obtain ⟨a, b⟩ := p
        have HD1 := Lib.hid hd
        have HR1 := Lib.hid (HR.out.on hb)
        clear hd
        go_wp2_with fail
        (with_reducible refine (iRead_some _ _ _ _ xs cur a b HD1.out HR1.out HX.out HS.out (by omega)).mono ?_); rintro e w1 ⟨rfl, hb1⟩
        have ho1 := own_below ho hb1
        go_wp2_with (at_builtin; refine appI _ rfl _ _ rfl w.heap.size _ _ _ rfl (ho1.alloc _) _ _ 1 1 [.int .i64 a] rfl (rd_one _ _ _) (one_int .i64 _) (by omega) (by have := hb1.size; have := hb.size; simp; omega) ?_; intro v2 w2 ho2 hg2)
        go_roundw
        case rel => exact ⟨k + 1, b, by omega, rfl, by go_num, DecW.next hA ho hb hlt HD1.out HX.out hb1 ho2 hg2⟩
        case measure => simp [intOf]; omega
    · obtain rfl : k = count := by omega
      obtain ⟨A1, c1, rfl⟩ := own_nil_form ho
      have HF := Lib.hid (HI.out.trans hA.done)
      have HY := Lib.hid hA.1
      go_wp2
      go_ret3
      exact res_some HF.out rfl hb HY.out.symm ho
theorem implDecode_out (w : World) (A : Option Addr) (n c : Nat) (xs : List Int) (off count : Int) (hl : xs.length = n) (hn : n ≤ 16777216) (ho : count < 0 ∨ 100 < count ∨ off < 0 ∨ (n : Int) < off) :
    Calls Try.prog 20 #[.slice A n c, .int .i64 off, .int .i64 count] w (res3 .i64 3 (decInts xs off count) w) := by
  have HD := Lib.hid (decInts_out (xs := xs) (off := off) (count := count) (by omega))
  clear hl
  by_cases h : count < 0 ∨ 100 < count
  · clear ho
    go_enter Try.func20, Try.ntmps20
    go_wp2_with (go_at_call 35; refine (C1.implIn_f _ _ _ _ (by omega)).mono ?_; rintro e w' ⟨rfl, rfl⟩)
    go_ret3
    exact res_none HD.out ((Below.refl _ _).alloc (Nat.le_refl _) _) _ (own_lit _ _ 0 _ _ (Nat.le_refl _) rfl (Nat.zero_le _))
  · have h1 : 0 ≤ count := by omega
    have h2 : count ≤ 100 := by omega
    have h3 : off < 0 ∨ (n : Int) < off := by omega
    clear ho h
    go_enter Try.func20, Try.ntmps20
    go_wp2_with fail
    (with_reducible refine (C1.implIn_t _ _ _ _ h1 h2).mono ?_); rintro e w' ⟨rfl, rfl⟩
    go_wp2_with fail
    (with_reducible refine (C1.implIn_f _ _ _ _ h3).mono ?_); rintro e w' ⟨rfl, rfl⟩
    go_wp2
    go_ret3
    exact res_none HD.out ((Below.refl _ _).alloc (Nat.le_refl _) _) _ (own_lit _ _ 0 _ _ (Nat.le_refl _) rfl (Nat.zero_le _))
theorem implDecode (w : World) (A : Option Addr) (n c : Nat) (xs : List Int) (off count : Int) (hr : Rd w w.heap.size 1 A n (ints .u8 xs)) (hx : ∀ x ∈ xs, 0 ≤ x ∧ x ≤ 255) (hS : Sh A n c) (hn : n ≤ 16777216) :
    Calls Try.prog 20 #[.slice A n c, .int .i64 off, .int .i64 count] w (res3 .i64 3 (decInts xs off count) w) := by
  have hl : xs.length = n := by have := hr.len1; rw [ints_len] at this; exact this
  by_cases h : count < 0 ∨ 100 < count ∨ off < 0 ∨ (n : Int) < off
  · exact implDecode_out w A n c xs off count hl hn h
  · obtain ⟨k, rfl⟩ : ∃ k : Nat, count = k := ⟨count.toNat, by omega⟩
    exact implDecode_in w A n c xs off k hr hx hS hn (by omega) (by omega) (by omega)
end Go.Proofs.Ytpeagjpcdoegoab.C2c
