/-
  laws.FnVarints returns true at every code, and leaves it as it was: an integer is decoded from its varint, and a decoded varint is the encoding of its integer. Conditions: none.
-/
import Derived.Test.YtpeagjpcdoegoabFr
import Derived.Stop.Joined
import Derived.Test.YtpeagjpcdoegoabD2
import Derived.Test.YtpeagjpcdoegoabCd
import Derived.Test.YtpeagjpcdoegoabS2
import Derived.Test.YtpeagjpcdoegoabC2c
import Derived.Deep.RegionHeld3
namespace Go.Proofs.Ytpeagjpcdoegoab.fnVarints
open Go.ChangeShapes Go.WideShapes Go.ChangeAt Go.RowKit
set_option linter.unusedVariables false

open S0
theorem dec_end (ys : List Int) : M2.dec ys ys.length = none := (M2.Dec.start ys ys.length (Nat.le_refl _)).none_ (by omega)
theorem below_al {w w7 : World} {o : Obj} {m : Nat} (h : Below ((w.alloc o).drewN m).heap.size ((w.alloc o).drewN m) w7) : Below w.heap.size w w7 :=
  (((Below.refl _ _).alloc (Nat.le_refl _) o).trans (drewN_below _ m _)).trans (h.mono (by show w.heap.size ≤ (w.alloc o).heap.size; simp))
theorem cut7 {w w7 : World} {base g n c : Nat} {zs : List Int} (o : w.ownsRow base 5 1 (.slice (some ⟨g, 0, none⟩) n c) n (ints .u8 zs)) (h : Below w.heap.size w w7) (q r : Nat) (hq : q < r) (hr : r ≤ n) : Rd w7 w7.heap.size 1 (some ⟨g, q, none⟩) (r - q) (ints .u8 ((zs.drop q).take (r - q))) := by
  have h := C2c.rd_cut (Rd.own (own_below o h)) q (r - q) (by omega)
  rw [Nat.zero_add] at h
  exact h
theorem same7 (w : World) (A B : Option Addr) (n m c d : Nat) {base : Nat} {xs ys : List Int} (o : w.ownsRow base 5 1 (.slice A n c) n (ints .u8 xs)) (h : Rd w w.heap.size 1 B m (ints .u8 ys)) (he : xs = ys) (hn : xs.length ≤ 6) :
    Calls Try.prog 12 #[.slice A n c, .slice B m d] w (Gives (.bool true) w) := by
  have h1 : xs.length = n := by have := o.1; rw [ints_len] at this; omega
  have h2 : ys.length = m := by have := h.len1; rw [ints_len] at this; omega
  have h3 := S2.sameBytes w A B n m c d xs ys (Rd.own o) h (by omega) (by rw [← h2, ← he]; omega)
  rw [decide_eq_true he] at h3
  exact h3
/-- The second half: what is read is what is written. -/
def Half (w : World) (e : Ending) (w' : World) : Prop := e = .returned (.bool true) ∧ Below w.heap.size w w'
set_option maxHeartbeats 4000000 in
set_option maxRecDepth 100000 in
theorem walkSmall (A0 : Option Addr) (n0 c0 : Nat) (hl : ¬ 1048576 < n0) (W : World) (hc : C0.Code W W.heap.size (.slice A0 n0 c0)) :
    Calls Try.prog 3 #[.slice A0 n0 c0] W fun e w' => e = .returned (.bool true) ∧ Below W.heap.size W w' := by
  go_enter Try.func3, Try.ntmps3
  go_wp2_with fail
  (with_reducible refine (Cd.big_no A0 n0 c0 _ hl).mono ?_); rintro e w0 ⟨rfl, rfl⟩
  go_wp2_with fail
  (with_reducible refine (D2.appendUvarint _ _ hc).mono ?_); rintro e w1 ⟨A, n, c, ys, x, rfl, hys, hn, ⟨hx0, hx1⟩, o1, b1⟩
  have hyl : ys.length = n := by have := o1.1; rw [ints_len] at this; omega
  have HYL := Lib.hid hyl
  clear hyl
  have HYS := Lib.hid (show ∀ y ∈ ys, 0 ≤ y ∧ y ≤ 255 from hys)
  clear hys
  by_cases hx : x < 0 ∨ 1000000000000 < x
  · have hA := C2.implAppend _ A n c ys x (Rd.own o1) (by omega)
    rw [M2.enc_out x hx, List.append_nil, List.length_nil, Nat.add_zero] at hA
    have HA := Lib.hid hA
    clear hA
    have HD := Lib.hid (show M2.dec ys (n : Int) = none by rw [← HYL.out]; exact dec_end ys)
    go_wp2_with fail
    (with_reducible refine HA.out.mono ?_); rintro e w2 ⟨A2, c2, rfl, o2, b2⟩
    clear HA
    replace o1 := own_below o1 b2
    have HB := b1.trans (b2.mono b1.size)
    go_wp2_with fail
    (with_reducible refine (C2c.iRead_none _ _ _ _ ys _ HD.out (Rd.own o2) HYS.out (own_sh o2) (by omega)).mono ?_); rintro e w3 ⟨rfl, b3⟩
    replace o1 := own_below o1 b3
    replace o2 := own_below o2 b3
    replace HB := HB.trans (b3.mono HB.size)
    by_cases hx2 : x < 0
    · have hdx : decide (x < 0) = true := by simpa using hx2
      clear hx
      go_wp2_with fail
      (with_reducible refine (S2.sameBytes_t _ _ _ _ _ _ _ (Rd.own o2) (Rd.own o1) (by omega)).mono ?_); rintro e w4 ⟨rfl, b4⟩
      replace HB := HB.trans (b4.mono HB.size)
      clear o1 o2 b1 b2 b3 b4 hx2 hdx HD HYS HYL
      go_wp2_with fail
      (with_reducible refine (D2.readUvarint _ _ ((hc.below HB).mono HB.size)).mono ?_); rintro e w5 ⟨A3, n3, c3, zs, y, rfl, hzs, hn3, ⟨hy0, hy1⟩, o3, b5⟩
      replace HB := HB.trans (b5.mono HB.size)
      have hzl : zs.length = n3 := by have := o3.1; rw [ints_len] at this; omega
      have HZL := Lib.hid hzl
      have HZS := Lib.hid (show ∀ y ∈ zs, 0 ≤ y ∧ y ≤ 255 from hzs)
      clear hzl hzs
      cases hd : M2.dec zs y with
      | none =>
        have HD := Lib.hid hd
        clear hd
        go_wp2_with fail
        (with_reducible refine (C2c.iRead_none _ _ _ _ zs _ HD.out (Rd.own o3) HZS.out (own_sh o3) (by omega)).mono ?_); rintro e w6 ⟨rfl, b6⟩
        replace o3 := own_below o3 b6
        replace HB := HB.trans (b6.mono HB.size)
        go_wp2_with fail
        (with_reducible refine (C2c.sRead_none _ _ _ _ zs _ HD.out (Rd.own o3) HZS.out (by omega) (by omega) (by omega)).mono ?_); rintro e w7 ⟨rfl, b7⟩
        replace HB := HB.trans (b7.mono HB.size)
        go_wp2
        go_ret
        exact ⟨rfl, HB⟩
      | some p =>
        obtain ⟨m, a⟩ := p
        have hbd := M2.dec_bd hd HZS.out
        have hso := M2.dec_sound hd HZS.out
        have hel := M2.enc_len m
        have HD := Lib.hid hd
        obtain ⟨q, rfl⟩ : ∃ q : Nat, y = q := ⟨y.toNat, by omega⟩
        obtain ⟨r, rfl⟩ : ∃ r : Nat, a = r := ⟨a.toNat, by omega⟩
        have hqr : q < r := by omega
        have hrn : r ≤ n3 := by have := HZL.out; omega
        have hm0 : 0 ≤ m := by omega
        have hm1 : m ≤ 1000000000000 := by omega
        have HSO := Lib.hid (show M2.enc m = (zs.drop q).take (r - q) by rw [hso, show ((r : Int) - q).toNat = r - q by omega]; rfl)
        clear hd hbd hso
        go_wp2_with fail
        (with_reducible refine (C2c.iRead_some _ _ _ _ zs _ _ _ HD.out (Rd.own o3) HZS.out (own_sh o3) (by omega)).mono ?_); rintro e w6 ⟨rfl, b6⟩
        replace o3 := own_below o3 b6
        replace HB := HB.trans (b6.mono HB.size)
        obtain ⟨g, cap, hv, _, _⟩ := o3.form (by omega)
        obtain ⟨rfl, rfl⟩ : A3 = some ⟨g, 0, none⟩ ∧ c3 = cap := by injection hv with h1 h2 h3; exact ⟨h1, h3⟩
        clear hv
        have hcap := (own_sh o3).cap
        have i1 : (0 : Int) ≤ (q : Int) := Int.natCast_nonneg _
        have i2 : (q : Int) ≤ (r : Int) := by omega
        have i3 : (r : Int) ≤ (c3 : Int) := by omega
        have i4 : (r : Int) ≤ (n3 : Int) := by omega
        have i5 : (q : Int) < (r : Int) := by omega
        have i6 : (0 : Int) ≤ (r : Int) := by omega
        have i7 : (q : Int) ≤ (c3 : Int) := by omega
        have i8 : ¬ c3 = q := by omega
        go_wp2_with fail
        go_region_held3 (fun _ => True) (first | trivial) (first | (go_at_call 10; refine (C2.implAppend _ _ _ _ [] m Rd.nil (by omega)).mono ?_; rintro e w7 ⟨A7, c7, rfl, o7, b7⟩; simp only [Nat.zero_add, List.nil_append] at o7; have hb7 := below_al b7; have hcut := cut7 o3 hb7 q r hqr hrn) | (go_at_call 12; (with_reducible refine (same7 _ _ _ _ _ _ _ o7 hcut HSO.out hel).mono ?_); rintro e w8 ⟨rfl, b8⟩))
        go_wp2
        go_ret
        have HB7 := HB.trans (hb7.mono HB.size)
        exact ⟨rfl, HB7.trans (b8.mono HB7.size)⟩
    · have hdx : decide (x < 0) = false := by simpa using hx2
      have hx3 : 1000000000000 < x := by omega
      clear hx
      go_wp2_with fail
      (with_reducible refine (S2.sameBytes_t _ _ _ _ _ _ _ (Rd.own o2) (Rd.own o1) (by omega)).mono ?_); rintro e w4 ⟨rfl, b4⟩
      replace HB := HB.trans (b4.mono HB.size)
      clear o1 o2 b1 b2 b3 b4 hx2 hdx hx3 HD HYS HYL
      go_wp2_with fail
      (with_reducible refine (D2.readUvarint _ _ ((hc.below HB).mono HB.size)).mono ?_); rintro e w5 ⟨A3, n3, c3, zs, y, rfl, hzs, hn3, ⟨hy0, hy1⟩, o3, b5⟩
      replace HB := HB.trans (b5.mono HB.size)
      have hzl : zs.length = n3 := by have := o3.1; rw [ints_len] at this; omega
      have HZL := Lib.hid hzl
      have HZS := Lib.hid (show ∀ y ∈ zs, 0 ≤ y ∧ y ≤ 255 from hzs)
      clear hzl hzs
      cases hd : M2.dec zs y with
      | none =>
        have HD := Lib.hid hd
        clear hd
        go_wp2_with fail
        (with_reducible refine (C2c.iRead_none _ _ _ _ zs _ HD.out (Rd.own o3) HZS.out (own_sh o3) (by omega)).mono ?_); rintro e w6 ⟨rfl, b6⟩
        replace o3 := own_below o3 b6
        replace HB := HB.trans (b6.mono HB.size)
        go_wp2_with fail
        (with_reducible refine (C2c.sRead_none _ _ _ _ zs _ HD.out (Rd.own o3) HZS.out (by omega) (by omega) (by omega)).mono ?_); rintro e w7 ⟨rfl, b7⟩
        replace HB := HB.trans (b7.mono HB.size)
        go_wp2
        go_ret
        exact ⟨rfl, HB⟩
      | some p =>
        obtain ⟨m, a⟩ := p
        have hbd := M2.dec_bd hd HZS.out
        have hso := M2.dec_sound hd HZS.out
        have hel := M2.enc_len m
        have HD := Lib.hid hd
        obtain ⟨q, rfl⟩ : ∃ q : Nat, y = q := ⟨y.toNat, by omega⟩
        obtain ⟨r, rfl⟩ : ∃ r : Nat, a = r := ⟨a.toNat, by omega⟩
        have hqr : q < r := by omega
        have hrn : r ≤ n3 := by have := HZL.out; omega
        have hm0 : 0 ≤ m := by omega
        have hm1 : m ≤ 1000000000000 := by omega
        have HSO := Lib.hid (show M2.enc m = (zs.drop q).take (r - q) by rw [hso, show ((r : Int) - q).toNat = r - q by omega]; rfl)
        clear hd hbd hso
        go_wp2_with fail
        (with_reducible refine (C2c.iRead_some _ _ _ _ zs _ _ _ HD.out (Rd.own o3) HZS.out (own_sh o3) (by omega)).mono ?_); rintro e w6 ⟨rfl, b6⟩
        replace o3 := own_below o3 b6
        replace HB := HB.trans (b6.mono HB.size)
        obtain ⟨g, cap, hv, _, _⟩ := o3.form (by omega)
        obtain ⟨rfl, rfl⟩ : A3 = some ⟨g, 0, none⟩ ∧ c3 = cap := by injection hv with h1 h2 h3; exact ⟨h1, h3⟩
        clear hv
        have hcap := (own_sh o3).cap
        have i1 : (0 : Int) ≤ (q : Int) := Int.natCast_nonneg _
        have i2 : (q : Int) ≤ (r : Int) := by omega
        have i3 : (r : Int) ≤ (c3 : Int) := by omega
        have i4 : (r : Int) ≤ (n3 : Int) := by omega
        have i5 : (q : Int) < (r : Int) := by omega
        have i6 : (0 : Int) ≤ (r : Int) := by omega
        have i7 : (q : Int) ≤ (c3 : Int) := by omega
        have i8 : ¬ c3 = q := by omega
        go_wp2_with fail
        go_region_held3 (fun _ => True) (first | trivial) (first | (go_at_call 10; refine (C2.implAppend _ _ _ _ [] m Rd.nil (by omega)).mono ?_; rintro e w7 ⟨A7, c7, rfl, o7, b7⟩; simp only [Nat.zero_add, List.nil_append] at o7; have hb7 := below_al b7; have hcut := cut7 o3 hb7 q r hqr hrn) | (go_at_call 12; (with_reducible refine (same7 _ _ _ _ _ _ _ o7 hcut HSO.out hel).mono ?_); rintro e w8 ⟨rfl, b8⟩))
        go_wp2
        go_ret
        have HB7 := HB.trans (hb7.mono HB.size)
        exact ⟨rfl, HB7.trans (b8.mono HB7.size)⟩
  · obtain ⟨k, rfl⟩ : ∃ k : Nat, x = k := ⟨x.toNat, by omega⟩
    have hk : k ≤ 1000000000000 := by omega
    have hA := C2.implAppend _ A n c ys k (Rd.own o1) (by omega)
    rw [M2.enc_in k hk] at hA
    have HA := Lib.hid hA
    have hul := M2.uv_len6 k hk
    clear hA hx
    have HD := Lib.hid (show M2.dec (ys ++ M2.uv k) (n : Int) = some ((k : Int), (n : Int) + (M2.uv k).length) by
      have h := M2.dec_enc ys k [] hk
      rw [List.append_nil, HYL.out] at h
      exact h)
    have HOK := Lib.hid (show ∀ y ∈ ys ++ M2.uv k, 0 ≤ y ∧ y ≤ 255 from D2.bytesOK.app HYS.out (M2.uv_ok k))
    go_wp2_with fail
    (with_reducible refine HA.out.mono ?_); rintro e w2 ⟨A2, c2, rfl, o2, b2⟩
    clear HA
    have HB := b1.trans (b2.mono b1.size)
    go_wp2_with fail
    (with_reducible refine (C2c.iRead_some _ _ _ _ _ _ _ _ HD.out (Rd.own o2) HOK.out (own_sh o2) (by omega)).mono ?_); rintro e w4 ⟨rfl, b4⟩
    replace HB := HB.trans (b4.mono HB.size)
    clear o1 o2 b1 b2 b4 HD HYS HYL HOK
    go_wp2_with fail
    (with_reducible refine (D2.readUvarint _ _ ((hc.below HB).mono HB.size)).mono ?_); rintro e w5 ⟨A3, n3, c3, zs, y, rfl, hzs, hn3, ⟨hy0, hy1⟩, o3, b5⟩
    replace HB := HB.trans (b5.mono HB.size)
    have hzl : zs.length = n3 := by have := o3.1; rw [ints_len] at this; omega
    have HZL := Lib.hid hzl
    have HZS := Lib.hid (show ∀ y ∈ zs, 0 ≤ y ∧ y ≤ 255 from hzs)
    clear hzl hzs
    cases hd : M2.dec zs y with
    | none =>
      have HD := Lib.hid hd
      clear hd
      go_wp2_with fail
      (with_reducible refine (C2c.iRead_none _ _ _ _ zs _ HD.out (Rd.own o3) HZS.out (own_sh o3) (by omega)).mono ?_); rintro e w6 ⟨rfl, b6⟩
      replace o3 := own_below o3 b6
      replace HB := HB.trans (b6.mono HB.size)
      go_wp2_with fail
      (with_reducible refine (C2c.sRead_none _ _ _ _ zs _ HD.out (Rd.own o3) HZS.out (by omega) (by omega) (by omega)).mono ?_); rintro e w7 ⟨rfl, b7⟩
      replace HB := HB.trans (b7.mono HB.size)
      go_wp2
      go_ret
      exact ⟨rfl, HB⟩
    | some p =>
      obtain ⟨m, a⟩ := p
      have hbd := M2.dec_bd hd HZS.out
      have hso := M2.dec_sound hd HZS.out
      have hel := M2.enc_len m
      have HD := Lib.hid hd
      obtain ⟨q, rfl⟩ : ∃ q : Nat, y = q := ⟨y.toNat, by omega⟩
      obtain ⟨r, rfl⟩ : ∃ r : Nat, a = r := ⟨a.toNat, by omega⟩
      have hqr : q < r := by omega
      have hrn : r ≤ n3 := by have := HZL.out; omega
      have hm0 : 0 ≤ m := by omega
      have hm1 : m ≤ 1000000000000 := by omega
      have HSO := Lib.hid (show M2.enc m = (zs.drop q).take (r - q) by rw [hso, show ((r : Int) - q).toNat = r - q by omega]; rfl)
      clear hd hbd hso
      go_wp2_with fail
      (with_reducible refine (C2c.iRead_some _ _ _ _ zs _ _ _ HD.out (Rd.own o3) HZS.out (own_sh o3) (by omega)).mono ?_); rintro e w6 ⟨rfl, b6⟩
      replace o3 := own_below o3 b6
      replace HB := HB.trans (b6.mono HB.size)
      obtain ⟨g, cap, hv, _, _⟩ := o3.form (by omega)
      obtain ⟨rfl, rfl⟩ : A3 = some ⟨g, 0, none⟩ ∧ c3 = cap := by injection hv with h1 h2 h3; exact ⟨h1, h3⟩
      clear hv
      have hcap := (own_sh o3).cap
      have i1 : (0 : Int) ≤ (q : Int) := Int.natCast_nonneg _
      have i2 : (q : Int) ≤ (r : Int) := by omega
      have i3 : (r : Int) ≤ (c3 : Int) := by omega
      have i4 : (r : Int) ≤ (n3 : Int) := by omega
      have i5 : (q : Int) < (r : Int) := by omega
      have i6 : (0 : Int) ≤ (r : Int) := by omega
      have i7 : (q : Int) ≤ (c3 : Int) := by omega
      have i8 : ¬ c3 = q := by omega
      go_wp2_with fail
      go_region_held3 (fun _ => True) (first | trivial) (first | (go_at_call 10; refine (C2.implAppend _ _ _ _ [] m Rd.nil (by omega)).mono ?_; rintro e w7 ⟨A7, c7, rfl, o7, b7⟩; simp only [Nat.zero_add, List.nil_append] at o7; have hb7 := below_al b7; have hcut := cut7 o3 hb7 q r hqr hrn) | (go_at_call 12; (with_reducible refine (same7 _ _ _ _ _ _ _ o7 hcut HSO.out hel).mono ?_); rintro e w8 ⟨rfl, b8⟩))
      go_wp2
      go_ret
      have HB7 := HB.trans (hb7.mono HB.size)
      exact ⟨rfl, HB7.trans (b8.mono HB7.size)⟩
theorem walk (v0 : Value) (W : World) {H : Type} {enc : TypeId × Value → H} {b0 : Nat} {d0 : DataW H} {p0 : List MemPlace} (hv0 : Value.okWide Try.prog W .any b0 22 v0) (ht0 : DataW.Trod enc Try.prog W 0 (fun _ => true) true 22 v0 d0 p0) :
    Calls Try.prog 3 #[v0] W fun e w' => e = .returned (.bool true) ∧ Below W.heap.size W w' := by
  obtain ⟨A0, n0, c0, xs0, rfl, hr0, hm0, hx0⟩ := So.bytes hv0 ht0
  unfold maxLen at hm0
  by_cases hl : 1048576 < n0
  · clear hv0 ht0 hr0
    go_enter Try.func3, Try.ntmps3
    go_wp2_with fail
    (with_reducible refine (Cd.big_yes A0 n0 c0 _ (by omega) hl).mono ?_); rintro e w0 ⟨rfl, rfl⟩
    go_wp2
    go_ret
    exact ⟨rfl, Below.refl _ _⟩
  · exact walkSmall A0 n0 c0 hl W (D2.code_of hr0 hx0 (by omega))

set_option maxRecDepth 100000 in
theorem contract (H : Type) (enc : TypeId × Value → H) (W : World) (base : Nat) (args : Array Value) (ds gs : List (DataW H)) (before : List MemPlace)
    (hval : ∀ (j : Nat) t v, Try.f3.params[j]? = some t → args[j]? = some v → Value.okWide Try.prog W .any base t v)
    (hW : DataW.Whole enc Try.prog Try.f3.params.toList Rows.fnVarintsSpec.vars false W args.toList ds gs before) :
    Calls Try.prog 3 args W fun e W' => ∃ v, e = .returned v ∧ Rows.fnVarintsSpec.post enc Try.prog Try.f3 false true false false W args v W' := by
  have hW' := hW
  obtain ⟨p, q, hA0, hV, rfl, hfz, hnd⟩ := hW
  have hA : DataW.TrodAll enc Try.prog W 0 (fun _ => true) true Try.f3.params.toList args.toList ds p := hA0
  rw [Try.params3] at hA hval
  obtain ⟨v0, vs0, d0, ds0, p0, q0, hargs, rfl, rfl, h0, r0⟩ := trodAll_cons hA
  obtain ⟨rfl, rfl, rfl⟩ := trodAll_nil r0
  obtain rfl : args = #[v0] := by cases args; simp_all
  obtain ⟨rfl, rfl⟩ := trodVars_none hV
  clear hA0
  refine Fr.closeLaw rfl (by kernel_rfl) (by rw [Try.params3]; decide) hW' rfl ?_
  exact walk v0 W (hval 0 22 v0 rfl rfl) h0

set_option maxRecDepth 100000 in
theorem reads (os : Os) {H : Type} (enc : TypeId × Value → H) : ∃ places, DataW.whole enc Try.prog ((World.holding Try.prog os ⟨#[], #[], []⟩).forCall (fun _ _ => 0) ⟨#[], #[.slice none 0 0], []⟩).memory Try.f3.params.toList Rows.fnVarintsSpec.vars false (#[.slice none 0 0] : Array Value).toList 8 = some ([.nil], [], places) :=
  ⟨[], by kernel_rfl⟩
set_option maxRecDepth 100000 in
theorem lifted (os : Os) (started : os.Started) (H : Type) (enc : TypeId × Value → H) (F : Stop.Interp) :
    ReturnsInHanded {} Try.checked os 3 .any ((OpenSpec.ofChange Rows.fnVarintsSpec).preRow enc Try.prog Try.f3 Rows.fnVarintsRow.domain false Rows.fnVarintsRow.laid) (((OpenSpec.ofChange Rows.fnVarintsSpec).at F).post enc Try.prog Try.f3 false true false false) := by
  obtain ⟨places, hx⟩ := reads os enc
  refine returnsInHanded_of_row (C := Try.checked) (s := OpenSpec.ofChange Rows.fnVarintsSpec) Fr.own started (by kernel_rfl) Try.func3
    (witness_row_atRef (enc := enc) (C := Try.checked) false (World.holding Try.prog os ⟨#[], #[], []⟩) #[.slice none 0 0] rfl (by kernel_rfl) (by kernel_rfl) (by kernel_rfl)
      (OpenSpec.preRow_of_cond 8 hx (by kernel_rfl) (fun k hk => by cases hk) (by kernel_rfl) (laidMetH_nil _ _))) ?_
  intro W base args ds gs before hval hW _ hcond _ hL _ _
  exact contract H enc W base args ds gs before hval hW
set_option maxRecDepth 100000 in
theorem said : Rows.FnVarintsSaid :=
  OpenClaim.holds_of_cond 3 Try.f3 rfl rfl rfl rfl rfl rfl rfl ⟨rfl, rfl, rfl, rfl, rfl⟩ rfl rfl rfl rfl rfl (by kernel_rfl) Try.func3 (by kernel_rfl)
    (of_decide_eq_true (by kernel_rfl)) (by unfold Func.isWrapper; first | (rw [if_pos (by decide +kernel)]; kernel_rfl) | (rw [if_neg (by decide +kernel)]; exact ⟨rfl, rfl⟩))
    (fun os started H enc _ F => by rw [OpenClaim.pre_eq_preRow]; exact lifted os started H enc F)
theorem proved : Rows.FnVarintsSaid := said
#print axioms proved
end Go.Proofs.Ytpeagjpcdoegoab.fnVarints
