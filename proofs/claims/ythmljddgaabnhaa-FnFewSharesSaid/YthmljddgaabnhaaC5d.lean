/-
  Contracts of chapter 5's shares, of the program: AreShares, Interpolate.
-/
import Derived.Test.YthmljddgaabnhaaC5c
namespace Go.Proofs.Ythmljddgaabnhaa.C5d
open Go.ChangeShapes Go.WideShapes Go.ChangeAt Go.RowKit
open S0 S1 S3 C3 M4 M5 C5 C5b C5c
set_option linter.unusedVariables false
/-- A share in range; n shares as AreShares wants them. -/
def good (xs : List Int) (k : Nat) : Prop := 1 ≤ xs.getD (k * 2) 0 ∧ xs.getD (k * 2) 0 ≤ 7 ∧ 0 ≤ xs.getD (k * 2 + 1) 0 ∧ xs.getD (k * 2 + 1) 0 ≤ 1018
def are (xs : List Int) (n : Nat) : Prop := 1 ≤ n ∧ n ≤ 7 ∧ (∀ k, k < n → good xs k) ∧ ¬ dup (ixs xs n) n
theorem good_not {xs : List Int} {n k : Nat} (hk : k < n) (h : ¬ good xs k) : ¬ are xs n := fun ha => h (ha.2.2.1 k hk)
set_option maxHeartbeats 1600000 in
set_option maxRecDepth 100000 in
theorem areShares (w : World) (A : Option Addr) (n c : Nat) (xs : List Int) (b : Bool) (hd : b = true ↔ are xs n) (hr : Rd w w.heap.size 2 A n (ints .i64 xs)) (hok : okInts xs) (hn : n ≤ 4294967296) :
    Calls Try.prog 14 #[.slice A n c] w (Gives (.bool b) w) := by
  have HR := Lib.hid hr
  have HX := Lib.hid hok
  have HD := Lib.hid hd
  have hbf : ¬ are xs n → b = false := fun h => by
    cases hb : b with
    | false => rfl
    | true => exact absurd (hd.1 hb) h
  have HBF := Lib.hid hbf
  clear hr hok hd hbf
  by_cases hin : 1 ≤ n ∧ n ≤ 7
  · go_enter Try.func14, Try.ntmps14
    go_wp2_with fail
    (with_reducible refine (C1.implIn_t (n : Int) 1 7 _ (by omega) (by omega)).mono ?_); rintro e w1 ⟨rfl, rfl⟩
    go_wp2
    go_loopw [11] (fun i wr => ∃ k : Nat, k ≤ n ∧ i = .int .i64 k ∧ (∀ j, j < k → good xs j) ∧ Below w.heap.size w wr) (fun i _ => n - (intOf i).toNat)
    case atStart => exact ⟨0, by omega, rfl, fun _ h => by omega, Below.refl _ _⟩
    case round =>
      obtain ⟨k, hk, rfl, hG, hb⟩ := hrel
      have HG := Lib.hid hG
      clear hG
      by_cases hlt : k < n
      · obtain ⟨g, off, rfl, hgl, hcell, hcellv⟩ := Rd2.at_ (HR.out.below hb) hlt
        obtain ⟨x, hx⟩ : ∃ x, x = xs.getD (k * 2) 0 := ⟨_, rfl⟩
        obtain ⟨y, hy⟩ : ∃ y, y = xs.getD (k * 2 + 1) 0 := ⟨_, rfl⟩
        have HGK := Lib.hid (show good xs k ↔ (1 ≤ x ∧ x ≤ 7 ∧ 0 ≤ y ∧ y ≤ 1018) by rw [hx, hy]; exact Iff.rfl)
        rw [← hx] at hcell
        rw [← hy] at hcellv
        clear hx hy
        have hsz := hb.size
        have hgr : g < wr.heap.size := by omega
        by_cases hi : 1 ≤ x ∧ x ≤ 7
        · by_cases hv : 0 ≤ y ∧ y ≤ 1018
          · have HN := Lib.hid (show ∀ j, j < k + 1 → good xs j from fun j hj => by
              by_cases h : j < k
              · exact HG.out j h
              · obtain rfl : j = k := by omega
                exact HGK.out.2 ⟨hi.1, hi.2, hv.1, hv.2⟩)
            go_wp2_with fail
            (with_reducible refine (C1.implIn_t x 1 7 _ hi.1 hi.2).mono ?_); rintro e w2 ⟨rfl, rfl⟩
            go_wp2_with fail
            (with_reducible refine (C1.implIn_t y 0 1018 _ hv.1 hv.2).mono ?_); rintro e w2 ⟨rfl, rfl⟩
            go_wp2
            go_roundw
            case rel => exact ⟨k + 1, by omega, by go_num, HN.out, hb.alloc hsz _⟩
            case measure => simp [intOf]; omega
          · have HB := Lib.hid (HBF.out (good_not hlt (fun h => hv ⟨(HGK.out.1 h).2.2.1, (HGK.out.1 h).2.2.2⟩)))
            have hv2 : y < 0 ∨ 1018 < y := by omega
            clear hv
            go_wp2_with fail
            (with_reducible refine (C1.implIn_t x 1 7 _ hi.1 hi.2).mono ?_); rintro e w2 ⟨rfl, rfl⟩
            go_wp2_with fail
            (with_reducible refine (C1.implIn_f y 0 1018 _ hv2).mono ?_); rintro e w2 ⟨rfl, rfl⟩
            go_wp2
            go_ret
            exact ⟨by rw [HB.out]; rfl, hb.alloc hsz _⟩
        · have HB := Lib.hid (HBF.out (good_not hlt (fun h => hi ⟨(HGK.out.1 h).1, (HGK.out.1 h).2.1⟩)))
          have hi2 : x < 1 ∨ 7 < x := by omega
          clear hi
          go_wp2_with fail
          (with_reducible refine (C1.implIn_f x 1 7 _ hi2).mono ?_); rintro e w2 ⟨rfl, rfl⟩
          go_wp2
          go_ret
          exact ⟨by rw [HB.out]; rfl, hb.alloc hsz _⟩
      · obtain rfl : k = n := by omega
        have hdd : decide (k < k) = false := by simp
        have hb' : b = true ↔ ¬ dup (ixs xs k) k := ⟨fun h => (HD.out.1 h).2.2.2, fun h => HD.out.2 ⟨hin.1, hin.2, HG.out, h⟩⟩
        have HB := Lib.hid hb'
        clear hb'
        go_wp2_with fail
        (with_reducible refine (indices _ A k c xs (HR.out.on hb) hn).mono ?_); rintro e w2 ⟨A2, c2, rfl, o2, b2⟩
        have HO := Lib.hid o2
        clear o2
        go_wp2_with fail
        (with_reducible refine (diff _ A2 k c2 (ixs xs k) b HB.out (Rd.own HO.out) (ixs_ok HX.out k) hn).mono ?_); rintro e w3 ⟨rfl, b3⟩
        go_wp2
        go_ret
        exact ⟨rfl, hb.trans ((b2.trans (b3.mono b2.size)).mono hb.size)⟩
  · have HB := Lib.hid (HBF.out (fun h => hin ⟨h.1, h.2.1⟩))
    have h2 : (n : Int) < 1 ∨ 7 < (n : Int) := by omega
    clear hin
    go_enter Try.func14, Try.ntmps14
    go_wp2_with fail
    (with_reducible refine (C1.implIn_f (n : Int) 1 7 _ h2).mono ?_); rintro e w1 ⟨rfl, rfl⟩
    go_wp2
    go_ret
    exact ⟨by rw [HB.out]; rfl, Below.refl _ _⟩
/-- All weights at t. -/
noncomputable def lws (is : List Int) (t : Int) (n : Nat) : List Int := (List.range n).map fun (k : Nat) => lw is k t
theorem lws_len (is : List Int) (t : Int) (n : Nat) : (lws is t n).length = n := by unfold lws; rw [List.length_map, List.length_range]
theorem lws_get (is : List Int) (t : Int) (n k : Nat) (hk : k < n) : (lws is t n).getD k 0 = lw is k t := by
  unfold lws
  rw [List.getD_eq_getElem?_getD, List.getElem?_map, List.getElem?_range hk]; rfl
theorem lws_small (is : List Int) (t : Int) (n : Nat) : small (lws is t n) := by
  intro k
  by_cases hk : k < n
  · rw [lws_get is t n k hk]; exact lw_in _ _ _
  · rw [List.getD_eq_getElem?_getD, List.getElem?_eq_none (by rw [lws_len]; omega)]
    simp
/-- The value at t of the polynomial through n points. -/
noncomputable def thr (xs : List Int) (n : Nat) (t : Int) : Int := fsum (vls xs n) (lws (ixs xs n) t n) n
theorem thr_in (xs : List Int) (n : Nat) (t : Int) : 0 ≤ thr xs n t ∧ thr xs n t ≤ 1018 := fsum_in _ _ _
set_option maxHeartbeats 1600000 in
set_option maxRecDepth 100000 in
theorem through (w : World) (t : Int) (A : Option Addr) (n c : Nat) (xs : List Int) (ht0 : -9223372036854775808 ≤ t) (ht1 : t ≤ 9223372036854775807) (hr : Rd w w.heap.size 2 A n (ints .i64 xs)) (hok : okInts xs) (hn : n ≤ 4294967296) :
    Calls Try.prog 39 #[.slice A n c, .int .i64 t] w (Gives (.int .i64 (thr xs n t)) w) := by
  obtain ⟨i0, hi, hz0, hz1, hz2⟩ := info_parts int_info
  have HR := Lib.hid hr
  have HX := Lib.hid hok
  clear hr hok
  go_enter Try.func39, Try.ntmps39
  go_wp2_with fail
  (with_reducible refine (indices _ A n c xs HR.out hn).mono ?_); rintro e w1 ⟨A1, c1, rfl, o1, b1⟩
  have HO := Lib.hid o1
  clear o1
  go_wp2_with (at_make; refine wpList_make_full _ rfl _ _ 25 rfl w1.heap.size 3 i0 (.int .i64 0) 1 Try.underlying25 hi hz0 hz1 _ _ _ _ n rfl rfl rfl rfl (by rw [hz2]; omega) (by unfold maxLen; omega) (Nat.le_refl _) ?_; intro w2 hown hgrow)
  have HF : Filled 3 .i64 w1 n (lws (ixs xs n) t n) 0 w2 := ⟨by rw [half_zero, ← made_ints]; exact hown, below_grown hgrow (Nat.le_refl _) (fun _ h => by cases h)⟩
  clear hown hgrow
  go_loopw [15] (fun i wr => ∃ k : Nat, k ≤ n ∧ i = .int .i64 k ∧ Filled 3 .i64 w1 n (lws (ixs xs n) t n) k wr) (fun i _ => n - (intOf i).toNat)
  case atStart => exact ⟨0, by omega, rfl, HF⟩
  case round =>
    obtain ⟨k, hk, rfl, HF⟩ := hrel
    have H := Lib.hid HF
    have hb := HF.2
    have hz := HF.2.size
    clear HF
    by_cases hlt : k < n
    · have HE := Lib.hid (lws_get (ixs xs n) t n k hlt)
      go_wp2_with fail
      (with_reducible refine (weight wr (k : Int) t ht0 ht1 A1 n c1 (ixs xs n) ((Rd.own HO.out).on hb) (ixs_ok HX.out n) hn).mono ?_); rintro e w3 ⟨rfl, b3⟩
      rw [← HE.out]
      obtain ⟨hg, hbase, hold, hfr⟩ := stored_at (own_below H.out.1 b3) k hlt
      obtain ⟨x, hx⟩ : ∃ x, x = (lws (ixs xs n) t n).getD k 0 := ⟨_, rfl⟩
      rw [← hx]
      have HXX := Lib.hid hx
      clear hx hbase
      go_wp2
      go_roundw
      case rel => exact ⟨k + 1, by omega, by go_num, filled_next H.out b3 (lws_len _ _ _) hlt HXX.out⟩
      case measure => simp [intOf]; omega
    · have hkn : k = n := by omega
      have HG := Lib.hid (show wr.ownsRow w1.heap.size 3 1 (.slice (some ⟨w1.heap.size, 0, none⟩) n n) n (ints .i64 (lws (ixs xs n) t n)) by
        have h := H.out.1
        rw [hkn, half_all _ n (lws_len _ _ _)] at h
        exact h)
      have hd : decide (k < n) = false := by simp; omega
      clear hkn
      have hbb : Below w.heap.size w wr := b1.trans (hb.mono b1.size)
      go_wp2_with fail
      (with_reducible refine (sumShares wr A _ n c n xs (lws (ixs xs n) t n) (HR.out.on hbb) (Rd.own HG.out) HX.out (lws_small _ _ _) hn).mono ?_); rintro e w3 ⟨rfl, b3⟩
      go_wp2
      go_ret
      exact ⟨rfl, hbb.trans (b3.mono hbb.size)⟩
set_option maxHeartbeats 1600000 in
set_option maxRecDepth 100000 in
theorem interpolate (w : World) (t : Int) (A : Option Addr) (n c : Nat) (xs : List Int) (ht0 : -9223372036854775808 ≤ t) (ht1 : t ≤ 9223372036854775807) (hr : Rd w w.heap.size 2 A n (ints .i64 xs)) (hok : okInts xs) (hn : n ≤ 4294967296) (ha : are xs n) :
    Calls Try.prog 17 #[.slice A n c, .int .i64 t] w (Gives (.tuple #[.int .i64 (thr xs n t), .bool true]) w) := by
  have HR := Lib.hid hr
  have HX := Lib.hid hok
  have HA := Lib.hid ha
  clear hr hok ha
  go_enter Try.func17, Try.ntmps17
  go_wp2_with fail
  (with_reducible refine (areShares _ A n c xs true ⟨fun _ => HA.out, fun _ => rfl⟩ HR.out HX.out hn).mono ?_); rintro e w1 ⟨rfl, b1⟩
  go_wp2_with fail
  (with_reducible refine (through _ t A n c xs ht0 ht1 (HR.out.on b1) HX.out hn).mono ?_); rintro e w2 ⟨rfl, b2⟩
  go_wp2
  go_ret2
  exact ⟨rfl, b1.trans (b2.mono b1.size)⟩
set_option maxRecDepth 100000 in
theorem interpolate_f (w : World) (t : Int) (A : Option Addr) (n c : Nat) (xs : List Int) (hr : Rd w w.heap.size 2 A n (ints .i64 xs)) (hok : okInts xs) (hn : n ≤ 4294967296) (ha : ¬ are xs n) :
    Calls Try.prog 17 #[.slice A n c, .int .i64 t] w (Gives (.tuple #[.int .i64 0, .bool false]) w) := by
  have HR := Lib.hid hr
  have HX := Lib.hid hok
  have HA := Lib.hid ha
  clear hr hok ha
  go_enter Try.func17, Try.ntmps17
  go_wp2_with fail
  (with_reducible refine (areShares _ A n c xs false ⟨fun h => (by cases h), fun h => absurd h HA.out⟩ HR.out HX.out hn).mono ?_); rintro e w1 ⟨rfl, b1⟩
  go_wp2
  go_ret2
  exact ⟨rfl, b1⟩
set_option maxHeartbeats 1600000 in
set_option maxRecDepth 100000 in
theorem hasIndex (w : World) (x0 : Int) (A : Option Addr) (n c : Nat) (xs : List Int) (b : Bool) (hd : b = true ↔ ∃ k, k < n ∧ xs.getD (k * 2) 0 = x0) (hr : Rd w w.heap.size 2 A n (ints .i64 xs)) (hn : n ≤ 4294967296) :
    Calls Try.prog 40 #[.slice A n c, .int .i64 x0] w (Gives (.bool b) w) := by
  have HR := Lib.hid hr
  have HD := Lib.hid hd
  clear hr hd
  go_enter Try.func40, Try.ntmps40
  go_wp2
  go_loopw [9] (fun i wr => ∃ k : Nat, k ≤ n ∧ i = .int .i64 k ∧ (∀ j, j < k → xs.getD (j * 2) 0 ≠ x0) ∧ Below w.heap.size w wr) (fun i _ => n - (intOf i).toNat)
  case atStart => exact ⟨0, by omega, rfl, fun _ h => by omega, Below.refl _ _⟩
  case round =>
    obtain ⟨k, hk, rfl, hG, hb⟩ := hrel
    have HG := Lib.hid hG
    clear hG
    by_cases hlt : k < n
    · obtain ⟨g, off, rfl, hgl, hcell, hcellv⟩ := Rd2.at_ (HR.out.below hb) hlt
      obtain ⟨x, hx⟩ : ∃ x, x = xs.getD (k * 2) 0 := ⟨_, rfl⟩
      obtain ⟨y, hy⟩ : ∃ y, y = xs.getD (k * 2 + 1) 0 := ⟨_, rfl⟩
      rw [← hx] at hcell
      rw [← hy] at hcellv
      have HXX := Lib.hid hx
      clear hx hy
      have hsz := hb.size
      have hgr : g < wr.heap.size := by omega
      by_cases he : x = x0
      · have HB := Lib.hid (HD.out.2 ⟨k, hlt, by rw [← HXX.out]; exact he⟩)
        have heb : (x == x0) = true := by simpa using he
        clear he
        go_wp2
        go_ret
        exact ⟨by rw [HB.out]; rfl, hb.alloc hsz _⟩
      · have HN := Lib.hid (show ∀ j, j < k + 1 → xs.getD (j * 2) 0 ≠ x0 from fun j hj => by
          by_cases h : j < k
          · exact HG.out j h
          · obtain rfl : j = k := by omega
            rw [← HXX.out]; exact he)
        have heb : (x == x0) = false := by simpa using he
        clear he
        go_wp2
        go_roundw
        case rel => exact ⟨k + 1, by omega, by go_num, HN.out, hb.alloc hsz _⟩
        case measure => simp [intOf]; omega
    · obtain rfl : k = n := by omega
      have hdd : decide (k < k) = false := by simp
      have HB := Lib.hid (show b = false by
        cases hb : b with
        | false => rfl
        | true =>
          obtain ⟨j, hj, e⟩ := HD.out.1 hb
          exact absurd e (HG.out j hj))
      go_wp2
      go_ret
      exact ⟨by rw [HB.out]; rfl, hb⟩
end Go.Proofs.Ythmljddgaabnhaa.C5d
