/-
  laws.FnIntegers returns true at every code, and leaves it as it was: integers in range are parsed from their decimal form; CeilDiv and Mod satisfy their defining inequalities. Conditions: the library's package-level variables math/bits.deBruijn32tab, math/bits.deBruijn64tab, internal/strconv.uint64pow10, strconv.ErrRange, strconv.ErrSyntax hold when the call begins what the program's text lays there (the card ties them to that text).
-/
import Derived.Test.YtakfcjemlplljaaDoorFr
import Derived.Test.YtakfcjemlplljaaDoorCards
import Derived.Test.YtakfcjemlplljaaDoorTie
import Derived.Lay
import Derived.MakeChecks
import Derived.Test.YtakfcjemlplljaaDoorLa
import Derived.Test.YtakfcjemlplljaaDoorC1P
import Derived.Test.YtakfcjemlplljaaDoorD1
import Derived.Test.YtakfcjemlplljaaDoorCd
namespace Go.Proofs.YtakfcjemlplljaaDoor.fnIntegers
open Go.ChangeShapes Go.WideShapes Go.ChangeAt Go.RowKit
set_option linter.unusedVariables false

theorem ceil_le (a b : Int) (hb : 1 ≤ b) : a ≤ (a + b - 1) / b * b := by
  have h1 := Int.emod_add_mul_ediv (a + b - 1) b
  have h2 := Int.emod_lt_of_pos (a + b - 1) (by omega : 0 < b)
  have h3 : b * ((a + b - 1) / b) = (a + b - 1) / b * b := Int.mul_comm _ _
  omega
theorem ceil_lt (a b : Int) (hb : 1 ≤ b) : (a + b - 1) / b * b - a < b := by
  have h1 := Int.emod_add_mul_ediv (a + b - 1) b
  have h2 := Int.emod_nonneg (a + b - 1) (by omega : b ≠ 0)
  have h3 : b * ((a + b - 1) / b) = (a + b - 1) / b * b := Int.mul_comm _ _
  omega
theorem diff_mod (a b : Int) (hb : 1 ≤ b) (hb2 : b ≤ 1000000000000) : (wrap64 (a.tmod b - a % b)).tmod b = 0 := by
  have h1 := M1.emod_lt a b hb
  by_cases h : a.tmod b < 0
  · have h2 := M1.tmod_neg a b hb h
    have e : wrap64 (a.tmod b - a % b) = -b := by unfold wrap64; omega
    rw [e, Int.neg_tmod, Int.tmod_self]; rfl
  · have h2 := M1.tmod_pos a b hb (by omega)
    have e : wrap64 (a.tmod b - a % b) = 0 := by unfold wrap64; omega
    rw [e, Int.zero_tmod]
theorem itoa_small (m : Int) (h0 : -9223372036854775808 ≤ m) (h1 : m ≤ 9223372036854775807) : (ByteArray.mk (Lib.itoa m).toArray).size ≤ 281474976710656 := by
  have h2 : (Lib.itoa m).length ≤ 21 := by
    unfold Lib.itoa
    split
    · have := C1F.dec_len m.natAbs (by omega)
      simp; omega
    · have := C1F.dec_len m.toNat (by omega)
      omega
  simp [ByteArray.size]; omega
theorem ceil_bd (a b : Int) (ha : 0 ≤ a) (ha2 : a ≤ 1000000000000) (hb : 1 ≤ b) (hb2 : b ≤ 1000000000000) : 0 ≤ (a + b - 1) / b ∧ 0 ≤ (a + b - 1) / b * b ∧ (a + b - 1) / b * b ≤ 2000000000000 := by
  have h0 : 0 ≤ (a + b - 1) / b := Int.ediv_nonneg (by omega) (by omega)
  have h1 := ceil_lt a b hb
  exact ⟨h0, Int.mul_nonneg h0 (by omega), by omega⟩
set_option maxHeartbeats 8000000 in
set_option maxRecDepth 100000 in
theorem walkSmall (a : Option Addr) (len cap : Nat) (hl : ¬ 1048576 < len) (w : World) (hc : C0.Code w w.heap.size (.slice a len cap)) (ht : La.Pow w) (he : La.Errs w) :
    Calls Tryd.prog 3 #[.slice a len cap] w fun e w' => e = .returned (.bool true) ∧ Below w.heap.size w w' := by
  go_enter Tryd.func3, Tryd.ntmps3
  go_wp2_with fail
  (with_reducible refine (Cd.big_no a len cap _ hl).mono ?_); rintro e w0 ⟨rfl, rfl⟩
  go_wp2_with fail
  (with_reducible refine (D1.parseInt _ _ _ hc (Nat.le_refl _)).mono ?_); rintro e w1 ⟨s, rfl, hs, hb1⟩
  have hsm : s.size ≤ 281474976710656 := by omega
  rcases C1P.yes_or_no s with ⟨n, hY⟩ | hN
  · have hn : n ≤ 1000000000000 := hY.1
    have hlen := M1P.digits_len13 n hn
    obtain rfl := hY.2
    go_wp2_with fail
    (with_reducible refine (C1P.implYes n hn _ (ht.stays hb1)).mono ?_); rintro e w2 ⟨rfl, hb2⟩
    have hB2 := hb1.trans (hb2.mono hb1.size)
    go_wp2_with fail
    (with_reducible refine (D1.formatInt _ _ _ (hc.below hB2) hB2.size).mono ?_); rintro e w3 ⟨m, rfl, ⟨hm0, hm1⟩, hb3⟩
    have hB3 := hB2.trans (hb3.mono hB2.size)
    go_wp2_with fail
    (with_reducible refine (C1F.implFmt m _ hm0 hm1 (ht.stays hB3)).mono ?_); rintro e w4 ⟨rfl, hb4⟩
    have hB4 := hB3.trans (hb4.mono hB3.size)
    by_cases hm : m < 0 ∨ 1000000000000 < m
    · have HM := Lib.hid hm
      have hsz : (ByteArray.mk (Lib.itoa m).toArray).size ≤ 281474976710656 := itoa_small m hm0 hm1
      go_wp2_with fail
      (with_reducible refine (C1P.implNo _ hsz (C1P.no_big m HM.out) _ (ht.stays hB4) (he.stays hB4)).mono ?_); rintro e w5 ⟨rfl, hb5⟩
      have hB5 := hB4.trans (hb5.mono hB4.size)
      by_cases hma : m < 0
      · clear hm
        go_wp2_with fail
        (with_reducible refine (D1.ceilDiv _ _ _ (hc.below hB5) hB5.size).mono ?_); rintro e w6 ⟨x, y, rfl, ⟨hx0, hx1⟩, ⟨hy0, hy1⟩, hb6⟩
        have hB6 := hB5.trans (hb6.mono hB5.size)
        by_cases hy : y < 1 ∨ 1000000000000 < y
        · have HD := Lib.hid hy
          have hyb : (decide (y < 1) || decide (1000000000000 < y)) = true := by simpa using hy
          clear hy
          go_wp2_with fail
          (with_reducible refine (C1.implCeil_out _ _ _ (by have := HD.out; omega)).mono ?_); rintro e w' ⟨rfl, rfl⟩
          go_wp2_with fail
          (with_reducible refine (C1.implMod_out _ _ _ HD.out).mono ?_); rintro e w' ⟨rfl, rfl⟩
          go_wp2_with fail
          (with_reducible refine (C1P.fmtNat n hn _ (ht.stays hB6)).mono ?_); rintro e w7 ⟨rfl, hb7⟩
          have hB7 := hB6.trans (hb7.mono hB6.size)
          by_cases hy2 : y < 1
          · clear hyb
            go_wp2
            all_goals go_ret
            all_goals exact ⟨rfl, hB7⟩
          · have hy3 : 1000000000000 < y := by have := HD.out; omega
            clear hyb
            go_wp2
            all_goals go_ret
            all_goals exact ⟨rfl, hB7⟩
        · have hya : 1 ≤ y := by omega
          have hyb : y ≤ 1000000000000 := by omega
          clear hy
          have hmod := M1.emod_lt x y hya
          obtain ⟨hmod0, hmod1⟩ := hmod
          have hdm := diff_mod x y hya hyb
          by_cases hx : x < 0 ∨ 1000000000000 < x
          · have HD := Lib.hid hx
            clear hx
            go_wp2_with fail
            (with_reducible refine (C1.implCeil_out _ _ _ (by have := HD.out; omega)).mono ?_); rintro e w' ⟨rfl, rfl⟩
            go_wp2_with fail
            (with_reducible refine (C1.implMod_in _ _ _ hx0 hx1 hya hyb).mono ?_); rintro e w' ⟨rfl, rfl⟩
            go_wp2_with fail
            (with_reducible refine (C1P.fmtNat n hn _ (ht.stays hB6)).mono ?_); rintro e w7 ⟨rfl, hb7⟩
            have hB7 := hB6.trans (hb7.mono hB6.size)
            by_cases hx2 : x < 0
            · go_wp2
              all_goals go_ret
              all_goals exact ⟨rfl, hB7⟩
            · have hx3 : 1000000000000 < x := by have := HD.out; omega
              go_wp2
              all_goals go_ret
              all_goals exact ⟨rfl, hB7⟩
          · have hxa : 0 ≤ x := by omega
            have hxb : x ≤ 1000000000000 := by omega
            clear hx
            have hc1' := ceil_le x y hya
            have hc2' := ceil_lt x y hya
            have hc3' := ceil_bd x y hxa hxb hya hyb
            obtain ⟨hq0, hq1, hq2⟩ := hc3'
            go_wp2_with fail
            (with_reducible refine (C1.implCeil_in _ _ _ hxa hxb hya hyb).mono ?_); rintro e w' ⟨rfl, rfl⟩
            go_wp2_with fail
            (with_reducible refine (C1.implMod_in _ _ _ hx0 hx1 hya hyb).mono ?_); rintro e w' ⟨rfl, rfl⟩
            go_wp2_with fail
            (with_reducible refine (C1P.fmtNat n hn _ (ht.stays hB6)).mono ?_); rintro e w7 ⟨rfl, hb7⟩
            have hB7 := hB6.trans (hb7.mono hB6.size)
            generalize (x + y - 1) / y = q at *
            go_wp2
            all_goals go_ret
            all_goals exact ⟨rfl, hB7⟩
      · have hmb : 1000000000000 < m := by omega
        clear hm
        go_wp2_with fail
        (with_reducible refine (D1.ceilDiv _ _ _ (hc.below hB5) hB5.size).mono ?_); rintro e w6 ⟨x, y, rfl, ⟨hx0, hx1⟩, ⟨hy0, hy1⟩, hb6⟩
        have hB6 := hB5.trans (hb6.mono hB5.size)
        by_cases hy : y < 1 ∨ 1000000000000 < y
        · have HD := Lib.hid hy
          have hyb : (decide (y < 1) || decide (1000000000000 < y)) = true := by simpa using hy
          clear hy
          go_wp2_with fail
          (with_reducible refine (C1.implCeil_out _ _ _ (by have := HD.out; omega)).mono ?_); rintro e w' ⟨rfl, rfl⟩
          go_wp2_with fail
          (with_reducible refine (C1.implMod_out _ _ _ HD.out).mono ?_); rintro e w' ⟨rfl, rfl⟩
          go_wp2_with fail
          (with_reducible refine (C1P.fmtNat n hn _ (ht.stays hB6)).mono ?_); rintro e w7 ⟨rfl, hb7⟩
          have hB7 := hB6.trans (hb7.mono hB6.size)
          by_cases hy2 : y < 1
          · clear hyb
            go_wp2
            all_goals go_ret
            all_goals exact ⟨rfl, hB7⟩
          · have hy3 : 1000000000000 < y := by have := HD.out; omega
            clear hyb
            go_wp2
            all_goals go_ret
            all_goals exact ⟨rfl, hB7⟩
        · have hya : 1 ≤ y := by omega
          have hyb : y ≤ 1000000000000 := by omega
          clear hy
          have hmod := M1.emod_lt x y hya
          obtain ⟨hmod0, hmod1⟩ := hmod
          have hdm := diff_mod x y hya hyb
          by_cases hx : x < 0 ∨ 1000000000000 < x
          · have HD := Lib.hid hx
            clear hx
            go_wp2_with fail
            (with_reducible refine (C1.implCeil_out _ _ _ (by have := HD.out; omega)).mono ?_); rintro e w' ⟨rfl, rfl⟩
            go_wp2_with fail
            (with_reducible refine (C1.implMod_in _ _ _ hx0 hx1 hya hyb).mono ?_); rintro e w' ⟨rfl, rfl⟩
            go_wp2_with fail
            (with_reducible refine (C1P.fmtNat n hn _ (ht.stays hB6)).mono ?_); rintro e w7 ⟨rfl, hb7⟩
            have hB7 := hB6.trans (hb7.mono hB6.size)
            by_cases hx2 : x < 0
            · go_wp2
              all_goals go_ret
              all_goals exact ⟨rfl, hB7⟩
            · have hx3 : 1000000000000 < x := by have := HD.out; omega
              go_wp2
              all_goals go_ret
              all_goals exact ⟨rfl, hB7⟩
          · have hxa : 0 ≤ x := by omega
            have hxb : x ≤ 1000000000000 := by omega
            clear hx
            have hc1' := ceil_le x y hya
            have hc2' := ceil_lt x y hya
            have hc3' := ceil_bd x y hxa hxb hya hyb
            obtain ⟨hq0, hq1, hq2⟩ := hc3'
            go_wp2_with fail
            (with_reducible refine (C1.implCeil_in _ _ _ hxa hxb hya hyb).mono ?_); rintro e w' ⟨rfl, rfl⟩
            go_wp2_with fail
            (with_reducible refine (C1.implMod_in _ _ _ hx0 hx1 hya hyb).mono ?_); rintro e w' ⟨rfl, rfl⟩
            go_wp2_with fail
            (with_reducible refine (C1P.fmtNat n hn _ (ht.stays hB6)).mono ?_); rintro e w7 ⟨rfl, hb7⟩
            have hB7 := hB6.trans (hb7.mono hB6.size)
            generalize (x + y - 1) / y = q at *
            go_wp2
            all_goals go_ret
            all_goals exact ⟨rfl, hB7⟩
    · obtain ⟨k, rfl⟩ : ∃ k : Nat, m = k := ⟨m.toNat, by omega⟩
      have hk : k ≤ 1000000000000 := by omega
      clear hm
      rw [C1P.itoa_nat k]
      go_wp2_with fail
      (with_reducible refine (C1P.implYes k hk _ (ht.stays hB4)).mono ?_); rintro e w5 ⟨rfl, hb5⟩
      have hB5 := hB4.trans (hb5.mono hB4.size)
      go_wp2_with fail
      (with_reducible refine (D1.ceilDiv _ _ _ (hc.below hB5) hB5.size).mono ?_); rintro e w6 ⟨x, y, rfl, ⟨hx0, hx1⟩, ⟨hy0, hy1⟩, hb6⟩
      have hB6 := hB5.trans (hb6.mono hB5.size)
      by_cases hy : y < 1 ∨ 1000000000000 < y
      · have HD := Lib.hid hy
        have hyb : (decide (y < 1) || decide (1000000000000 < y)) = true := by simpa using hy
        clear hy
        go_wp2_with fail
        (with_reducible refine (C1.implCeil_out _ _ _ (by have := HD.out; omega)).mono ?_); rintro e w' ⟨rfl, rfl⟩
        go_wp2_with fail
        (with_reducible refine (C1.implMod_out _ _ _ HD.out).mono ?_); rintro e w' ⟨rfl, rfl⟩
        go_wp2_with fail
        (with_reducible refine (C1P.fmtNat n hn _ (ht.stays hB6)).mono ?_); rintro e w7 ⟨rfl, hb7⟩
        have hB7 := hB6.trans (hb7.mono hB6.size)
        by_cases hy2 : y < 1
        · clear hyb
          go_wp2
          all_goals go_ret
          all_goals exact ⟨rfl, hB7⟩
        · have hy3 : 1000000000000 < y := by have := HD.out; omega
          clear hyb
          go_wp2
          all_goals go_ret
          all_goals exact ⟨rfl, hB7⟩
      · have hya : 1 ≤ y := by omega
        have hyb : y ≤ 1000000000000 := by omega
        clear hy
        have hmod := M1.emod_lt x y hya
        obtain ⟨hmod0, hmod1⟩ := hmod
        have hdm := diff_mod x y hya hyb
        by_cases hx : x < 0 ∨ 1000000000000 < x
        · have HD := Lib.hid hx
          clear hx
          go_wp2_with fail
          (with_reducible refine (C1.implCeil_out _ _ _ (by have := HD.out; omega)).mono ?_); rintro e w' ⟨rfl, rfl⟩
          go_wp2_with fail
          (with_reducible refine (C1.implMod_in _ _ _ hx0 hx1 hya hyb).mono ?_); rintro e w' ⟨rfl, rfl⟩
          go_wp2_with fail
          (with_reducible refine (C1P.fmtNat n hn _ (ht.stays hB6)).mono ?_); rintro e w7 ⟨rfl, hb7⟩
          have hB7 := hB6.trans (hb7.mono hB6.size)
          by_cases hx2 : x < 0
          · go_wp2
            all_goals go_ret
            all_goals exact ⟨rfl, hB7⟩
          · have hx3 : 1000000000000 < x := by have := HD.out; omega
            go_wp2
            all_goals go_ret
            all_goals exact ⟨rfl, hB7⟩
        · have hxa : 0 ≤ x := by omega
          have hxb : x ≤ 1000000000000 := by omega
          clear hx
          have hc1' := ceil_le x y hya
          have hc2' := ceil_lt x y hya
          have hc3' := ceil_bd x y hxa hxb hya hyb
          obtain ⟨hq0, hq1, hq2⟩ := hc3'
          go_wp2_with fail
          (with_reducible refine (C1.implCeil_in _ _ _ hxa hxb hya hyb).mono ?_); rintro e w' ⟨rfl, rfl⟩
          go_wp2_with fail
          (with_reducible refine (C1.implMod_in _ _ _ hx0 hx1 hya hyb).mono ?_); rintro e w' ⟨rfl, rfl⟩
          go_wp2_with fail
          (with_reducible refine (C1P.fmtNat n hn _ (ht.stays hB6)).mono ?_); rintro e w7 ⟨rfl, hb7⟩
          have hB7 := hB6.trans (hb7.mono hB6.size)
          generalize (x + y - 1) / y = q at *
          go_wp2
          all_goals go_ret
          all_goals exact ⟨rfl, hB7⟩
  · go_wp2_with fail
    (with_reducible refine (C1P.implNo s hsm hN _ (ht.stays hb1) (he.stays hb1)).mono ?_); rintro e w2 ⟨rfl, hb2⟩
    have hB2 := hb1.trans (hb2.mono hb1.size)
    go_wp2_with fail
    (with_reducible refine (D1.formatInt _ _ _ (hc.below hB2) hB2.size).mono ?_); rintro e w3 ⟨m, rfl, ⟨hm0, hm1⟩, hb3⟩
    have hB3 := hB2.trans (hb3.mono hB2.size)
    go_wp2_with fail
    (with_reducible refine (C1F.implFmt m _ hm0 hm1 (ht.stays hB3)).mono ?_); rintro e w4 ⟨rfl, hb4⟩
    have hB4 := hB3.trans (hb4.mono hB3.size)
    by_cases hm : m < 0 ∨ 1000000000000 < m
    · have HM := Lib.hid hm
      have hsz : (ByteArray.mk (Lib.itoa m).toArray).size ≤ 281474976710656 := itoa_small m hm0 hm1
      go_wp2_with fail
      (with_reducible refine (C1P.implNo _ hsz (C1P.no_big m HM.out) _ (ht.stays hB4) (he.stays hB4)).mono ?_); rintro e w5 ⟨rfl, hb5⟩
      have hB5 := hB4.trans (hb5.mono hB4.size)
      by_cases hma : m < 0
      · clear hm
        go_wp2_with fail
        (with_reducible refine (D1.ceilDiv _ _ _ (hc.below hB5) hB5.size).mono ?_); rintro e w6 ⟨x, y, rfl, ⟨hx0, hx1⟩, ⟨hy0, hy1⟩, hb6⟩
        have hB6 := hB5.trans (hb6.mono hB5.size)
        by_cases hy : y < 1 ∨ 1000000000000 < y
        · have HD := Lib.hid hy
          have hyb : (decide (y < 1) || decide (1000000000000 < y)) = true := by simpa using hy
          clear hy
          go_wp2_with fail
          (with_reducible refine (C1.implCeil_out _ _ _ (by have := HD.out; omega)).mono ?_); rintro e w' ⟨rfl, rfl⟩
          go_wp2_with fail
          (with_reducible refine (C1.implMod_out _ _ _ HD.out).mono ?_); rintro e w' ⟨rfl, rfl⟩
          by_cases hy2 : y < 1
          · clear hyb
            go_wp2
            all_goals go_ret
            all_goals exact ⟨rfl, hB6⟩
          · have hy3 : 1000000000000 < y := by have := HD.out; omega
            clear hyb
            go_wp2
            all_goals go_ret
            all_goals exact ⟨rfl, hB6⟩
        · have hya : 1 ≤ y := by omega
          have hyb : y ≤ 1000000000000 := by omega
          clear hy
          have hmod := M1.emod_lt x y hya
          obtain ⟨hmod0, hmod1⟩ := hmod
          have hdm := diff_mod x y hya hyb
          by_cases hx : x < 0 ∨ 1000000000000 < x
          · have HD := Lib.hid hx
            clear hx
            go_wp2_with fail
            (with_reducible refine (C1.implCeil_out _ _ _ (by have := HD.out; omega)).mono ?_); rintro e w' ⟨rfl, rfl⟩
            go_wp2_with fail
            (with_reducible refine (C1.implMod_in _ _ _ hx0 hx1 hya hyb).mono ?_); rintro e w' ⟨rfl, rfl⟩
            by_cases hx2 : x < 0
            · go_wp2
              all_goals go_ret
              all_goals exact ⟨rfl, hB6⟩
            · have hx3 : 1000000000000 < x := by have := HD.out; omega
              go_wp2
              all_goals go_ret
              all_goals exact ⟨rfl, hB6⟩
          · have hxa : 0 ≤ x := by omega
            have hxb : x ≤ 1000000000000 := by omega
            clear hx
            have hc1' := ceil_le x y hya
            have hc2' := ceil_lt x y hya
            have hc3' := ceil_bd x y hxa hxb hya hyb
            obtain ⟨hq0, hq1, hq2⟩ := hc3'
            go_wp2_with fail
            (with_reducible refine (C1.implCeil_in _ _ _ hxa hxb hya hyb).mono ?_); rintro e w' ⟨rfl, rfl⟩
            go_wp2_with fail
            (with_reducible refine (C1.implMod_in _ _ _ hx0 hx1 hya hyb).mono ?_); rintro e w' ⟨rfl, rfl⟩
            generalize (x + y - 1) / y = q at *
            go_wp2
            all_goals go_ret
            all_goals exact ⟨rfl, hB6⟩
      · have hmb : 1000000000000 < m := by omega
        clear hm
        go_wp2_with fail
        (with_reducible refine (D1.ceilDiv _ _ _ (hc.below hB5) hB5.size).mono ?_); rintro e w6 ⟨x, y, rfl, ⟨hx0, hx1⟩, ⟨hy0, hy1⟩, hb6⟩
        have hB6 := hB5.trans (hb6.mono hB5.size)
        by_cases hy : y < 1 ∨ 1000000000000 < y
        · have HD := Lib.hid hy
          have hyb : (decide (y < 1) || decide (1000000000000 < y)) = true := by simpa using hy
          clear hy
          go_wp2_with fail
          (with_reducible refine (C1.implCeil_out _ _ _ (by have := HD.out; omega)).mono ?_); rintro e w' ⟨rfl, rfl⟩
          go_wp2_with fail
          (with_reducible refine (C1.implMod_out _ _ _ HD.out).mono ?_); rintro e w' ⟨rfl, rfl⟩
          by_cases hy2 : y < 1
          · clear hyb
            go_wp2
            all_goals go_ret
            all_goals exact ⟨rfl, hB6⟩
          · have hy3 : 1000000000000 < y := by have := HD.out; omega
            clear hyb
            go_wp2
            all_goals go_ret
            all_goals exact ⟨rfl, hB6⟩
        · have hya : 1 ≤ y := by omega
          have hyb : y ≤ 1000000000000 := by omega
          clear hy
          have hmod := M1.emod_lt x y hya
          obtain ⟨hmod0, hmod1⟩ := hmod
          have hdm := diff_mod x y hya hyb
          by_cases hx : x < 0 ∨ 1000000000000 < x
          · have HD := Lib.hid hx
            clear hx
            go_wp2_with fail
            (with_reducible refine (C1.implCeil_out _ _ _ (by have := HD.out; omega)).mono ?_); rintro e w' ⟨rfl, rfl⟩
            go_wp2_with fail
            (with_reducible refine (C1.implMod_in _ _ _ hx0 hx1 hya hyb).mono ?_); rintro e w' ⟨rfl, rfl⟩
            by_cases hx2 : x < 0
            · go_wp2
              all_goals go_ret
              all_goals exact ⟨rfl, hB6⟩
            · have hx3 : 1000000000000 < x := by have := HD.out; omega
              go_wp2
              all_goals go_ret
              all_goals exact ⟨rfl, hB6⟩
          · have hxa : 0 ≤ x := by omega
            have hxb : x ≤ 1000000000000 := by omega
            clear hx
            have hc1' := ceil_le x y hya
            have hc2' := ceil_lt x y hya
            have hc3' := ceil_bd x y hxa hxb hya hyb
            obtain ⟨hq0, hq1, hq2⟩ := hc3'
            go_wp2_with fail
            (with_reducible refine (C1.implCeil_in _ _ _ hxa hxb hya hyb).mono ?_); rintro e w' ⟨rfl, rfl⟩
            go_wp2_with fail
            (with_reducible refine (C1.implMod_in _ _ _ hx0 hx1 hya hyb).mono ?_); rintro e w' ⟨rfl, rfl⟩
            generalize (x + y - 1) / y = q at *
            go_wp2
            all_goals go_ret
            all_goals exact ⟨rfl, hB6⟩
    · obtain ⟨k, rfl⟩ : ∃ k : Nat, m = k := ⟨m.toNat, by omega⟩
      have hk : k ≤ 1000000000000 := by omega
      clear hm
      rw [C1P.itoa_nat k]
      go_wp2_with fail
      (with_reducible refine (C1P.implYes k hk _ (ht.stays hB4)).mono ?_); rintro e w5 ⟨rfl, hb5⟩
      have hB5 := hB4.trans (hb5.mono hB4.size)
      go_wp2_with fail
      (with_reducible refine (D1.ceilDiv _ _ _ (hc.below hB5) hB5.size).mono ?_); rintro e w6 ⟨x, y, rfl, ⟨hx0, hx1⟩, ⟨hy0, hy1⟩, hb6⟩
      have hB6 := hB5.trans (hb6.mono hB5.size)
      by_cases hy : y < 1 ∨ 1000000000000 < y
      · have HD := Lib.hid hy
        have hyb : (decide (y < 1) || decide (1000000000000 < y)) = true := by simpa using hy
        clear hy
        go_wp2_with fail
        (with_reducible refine (C1.implCeil_out _ _ _ (by have := HD.out; omega)).mono ?_); rintro e w' ⟨rfl, rfl⟩
        go_wp2_with fail
        (with_reducible refine (C1.implMod_out _ _ _ HD.out).mono ?_); rintro e w' ⟨rfl, rfl⟩
        by_cases hy2 : y < 1
        · clear hyb
          go_wp2
          all_goals go_ret
          all_goals exact ⟨rfl, hB6⟩
        · have hy3 : 1000000000000 < y := by have := HD.out; omega
          clear hyb
          go_wp2
          all_goals go_ret
          all_goals exact ⟨rfl, hB6⟩
      · have hya : 1 ≤ y := by omega
        have hyb : y ≤ 1000000000000 := by omega
        clear hy
        have hmod := M1.emod_lt x y hya
        obtain ⟨hmod0, hmod1⟩ := hmod
        have hdm := diff_mod x y hya hyb
        by_cases hx : x < 0 ∨ 1000000000000 < x
        · have HD := Lib.hid hx
          clear hx
          go_wp2_with fail
          (with_reducible refine (C1.implCeil_out _ _ _ (by have := HD.out; omega)).mono ?_); rintro e w' ⟨rfl, rfl⟩
          go_wp2_with fail
          (with_reducible refine (C1.implMod_in _ _ _ hx0 hx1 hya hyb).mono ?_); rintro e w' ⟨rfl, rfl⟩
          by_cases hx2 : x < 0
          · go_wp2
            all_goals go_ret
            all_goals exact ⟨rfl, hB6⟩
          · have hx3 : 1000000000000 < x := by have := HD.out; omega
            go_wp2
            all_goals go_ret
            all_goals exact ⟨rfl, hB6⟩
        · have hxa : 0 ≤ x := by omega
          have hxb : x ≤ 1000000000000 := by omega
          clear hx
          have hc1' := ceil_le x y hya
          have hc2' := ceil_lt x y hya
          have hc3' := ceil_bd x y hxa hxb hya hyb
          obtain ⟨hq0, hq1, hq2⟩ := hc3'
          go_wp2_with fail
          (with_reducible refine (C1.implCeil_in _ _ _ hxa hxb hya hyb).mono ?_); rintro e w' ⟨rfl, rfl⟩
          go_wp2_with fail
          (with_reducible refine (C1.implMod_in _ _ _ hx0 hx1 hya hyb).mono ?_); rintro e w' ⟨rfl, rfl⟩
          generalize (x + y - 1) / y = q at *
          go_wp2
          all_goals go_ret
          all_goals exact ⟨rfl, hB6⟩
theorem walkBig (a : Option Addr) (len cap : Nat) (hz : len ≤ 9223372036854775807) (hl : 1048576 < len) (w : World) :
    Calls Tryd.prog 3 #[.slice a len cap] w fun e w' => e = .returned (.bool true) ∧ Below w.heap.size w w' := by
  go_enter Tryd.func3, Tryd.ntmps3
  go_wp2_with fail
  (with_reducible refine (Cd.big_yes a len cap _ hz hl).mono ?_); rintro e w0 ⟨rfl, rfl⟩
  go_wp2
  go_ret
  exact ⟨rfl, Below.refl _ _⟩
theorem walk {H : Type} {enc : TypeId × Value → H} {b0 : Nat} {d : DataW H} {ps : List MemPlace} (v : Value) (w : World) (hval : Value.okWide Tryd.prog w .any b0 22 v) (h : DataW.Trod enc Tryd.prog w 0 (fun _ => true) true 22 v d ps)
    (hL : laidMetH Tryd.prog Rows.fnIntegersRow.laid w) :
    Calls Tryd.prog 3 #[v] w fun e w' => e = .returned (.bool true) ∧ Below w.heap.size w w' := by
  obtain ⟨a, len, cap, rfl, hz, hr⟩ := Cd.bytes_of hval h
  by_cases hl : 1048576 < len
  · exact walkBig a len cap hz hl w
  · exact walkSmall a len cap hl w ⟨a, len, cap, rfl, by omega, hr⟩ (La.pow_of rfl hL) (La.errs_of rfl rfl hL)

theorem contract (H : Type) (enc : TypeId × Value → H) (W : World) (base : Nat) (args : Array Value) (ds gs : List (DataW H)) (before : List MemPlace)
    (hval : ∀ (j : Nat) t v, Tryd.f3.params[j]? = some t → args[j]? = some v → Value.okWide Tryd.prog W .any base t v)
    (hW : DataW.Whole enc Tryd.prog Tryd.f3.params.toList Rows.fnIntegersSpec.vars false W args.toList ds gs before) (hL : laidMetH Tryd.prog Rows.fnIntegersRow.laid W) :
    Calls Tryd.prog 3 args W fun e W' => ∃ v, e = .returned v ∧ Rows.fnIntegersSpec.post enc Tryd.prog Tryd.f3 false true false false W args v W' := by
  have hW' := hW
  obtain ⟨p, q, hA0, hV, rfl, hfz, hnd⟩ := hW
  have hA : DataW.TrodAll enc Tryd.prog W 0 (fun _ => true) true Tryd.f3.params.toList args.toList ds p := hA0
  rw [Tryd.params3] at hA hval
  obtain ⟨v0, vs0, d0, ds0, p0, q0, hargs, rfl, rfl, h0, r0⟩ := trodAll_cons hA
  obtain ⟨rfl, rfl, rfl⟩ := trodAll_nil r0
  obtain rfl : args = #[v0] := by cases args; simp_all
  obtain ⟨rfl, rfl⟩ := trodVars_none hV
  clear hA0
  refine Fr.closeLaw rfl (by kernel_rfl) (by rw [Tryd.params3]; decide) hW' rfl ?_
  exact walk v0 W (hval 0 22 v0 rfl rfl) h0 hL

theorem laid_met (os : Os) : laidMetH Tryd.prog Rows.fnIntegersRow.laid ((World.laidAll Tryd.prog os Rows.fnIntegersRow.laid).forCall (fun _ _ => 0) ⟨#[], #[.slice none 0 0], []⟩).memory := by
  rw [MakeChecks.laidMetH_plain _ _ _ (by kernel_rfl)]; exact laidMet_laidAll _ (by kernel_rfl) (by kernel_rfl)
theorem reads (os : Os) {H : Type} (enc : TypeId × Value → H) : ∃ places, DataW.whole enc Tryd.prog ((World.laidAll Tryd.prog os Rows.fnIntegersRow.laid).forCall (fun _ _ => 0) ⟨#[], #[.slice none 0 0], []⟩).memory Tryd.f3.params.toList Rows.fnIntegersSpec.vars false (#[.slice none 0 0] : Array Value).toList 8 = some ([.nil], [], places) :=
  ⟨[], by kernel_rfl⟩
set_option maxRecDepth 100000 in
theorem lifted (os : Os) (started : os.Started) (H : Type) (enc : TypeId × Value → H) (F : Stop.Interp) :
    ReturnsInHanded {} Tryd.checked os 3 .any ((OpenSpec.ofChange Rows.fnIntegersSpec).preRow enc Tryd.prog Tryd.f3 Rows.fnIntegersRow.domain false Rows.fnIntegersRow.laid) (((OpenSpec.ofChange Rows.fnIntegersSpec).at F).post enc Tryd.prog Tryd.f3 false true false false) := by
  obtain ⟨places, hx⟩ := reads os enc
  refine returnsInHanded_of_row (C := Tryd.checked) (s := OpenSpec.ofChange Rows.fnIntegersSpec) Fr.own started (by kernel_rfl) Tryd.func3
    (witness_row_atRef (enc := enc) (C := Tryd.checked) false (World.laidAll Tryd.prog os Rows.fnIntegersRow.laid) #[.slice none 0 0] (World.laidAll_os _ _ _) (by kernel_rfl) (by kernel_rfl) (by kernel_rfl)
      (OpenSpec.preRow_of_cond 8 hx (by kernel_rfl) (fun k hk => by cases hk) (by kernel_rfl) (laid_met os))) ?_
  intro W base args ds gs before hval hW _ hcond _ hL _ _
  exact contract H enc W base args ds gs before hval hW hL
theorem said : Rows.FnIntegersSaid :=
  OpenClaim.holds_of_cond 3 Tryd.f3 rfl rfl rfl rfl rfl rfl rfl ⟨rfl, rfl, rfl, rfl, rfl⟩ rfl rfl rfl rfl rfl (by kernel_rfl) Tryd.func3 (by kernel_rfl)
    (of_decide_eq_true (by kernel_rfl)) (by unfold Func.isWrapper; first | (rw [if_pos (by decide +kernel)]; kernel_rfl) | (rw [if_neg (by decide +kernel)]; exact ⟨rfl, rfl⟩))
    (fun os started H enc _ F => by rw [OpenClaim.pre_eq_preRow]; exact lifted os started H enc F)
theorem plain (f : FuncId) (fn : Func) (hf : Tryd.pinned.checked.prog.funcNamed "loop.example/g00581/laws.FnIntegers" = some f) (hfn : Tryd.pinned.checked.prog.funcs[f]? = some fn) :
    true = Tryd.pinned.checked.prog.looks [] ∧ ∀ (j : Nat) t, fn.params[j]? = some t → Tryd.pinned.checked.prog.wantsStandIn t = false := by
  obtain rfl : f = 3 := Option.some.inj ((show Tryd.prog.funcNamed "loop.example/g00581/laws.FnIntegers" = some 3 by kernel_rfl).symm.trans hf) |>.symm
  obtain rfl : fn = Tryd.f3 := (Option.some.inj (Tryd.func3.symm.trans hfn)).symm
  refine ⟨by kernel_rfl, fun j t ht => ?_⟩
  rw [Tryd.params3] at ht
  have hall : ([22] : List TypeId).all (fun t => !Tryd.prog.wantsStandIn t) = true := by kernel_rfl
  have hm : t ∈ ([22] : List TypeId) := by have := Array.mem_of_getElem? ht; simpa using this
  have := List.all_eq_true.1 hall t hm
  exact (by simpa using this : Tryd.prog.wantsStandIn t = false)
theorem proved : Rows.FnIntegersCardSaid :=
  Claim7.holds_tied_plain_at .later [] _ _ _ _ said (fun _ h => by cases h) (by kernel_rfl) (fun _ h => by cases h) fnIntegers_row_tie rfl ⟨rfl, rfl⟩ (by kernel_rfl) rfl plain (by kernel_rfl)
#print axioms proved
end Go.Proofs.YtakfcjemlplljaaDoor.fnIntegers
