/-
  Contracts of chapter 5's polynomials and weights, of the model: l5Mod, l5Poly, LagrangeWeight.
-/
import Derived.Test.YtlndcfpcgcdmgaaS3
import Derived.Test.YtlndcfpcgcdmgaaC1
import Derived.Test.YtlndcfpcgcdmgaaC3
import Derived.Test.YtlndcfpcgcdmgaaC4c
import Derived.Test.YtlndcfpcgcdmgaaM5
namespace Go.Proofs.Ytlndcfpcgcdmgaa.C5
open Go.ChangeShapes Go.WideShapes Go.ChangeAt Go.RowKit
open S0 S1 S3 C3 M4 M5
set_option linter.unusedVariables false
theorem l5Mod (n : Int) (w : World) (h0 : -9223372036854775808 ≤ n) (h1 : n ≤ 9223372036854775807) : Calls Try.prog 61 #[.int .i64 n] w fun e w' => e = .returned (.int .i64 (n % 1019)) ∧ w = w' := by
  go_enter Try.func61, Try.ntmps61
  go_wp2_with fail
  (with_reducible refine (C1.specMod_in n 1019 _ h0 h1 (by omega) (by omega)).mono ?_); rintro e w2 ⟨rfl, rfl⟩
  go_wp2
  go_ret
  exact ⟨rfl, rfl⟩
theorem l5Mod_wr (a b : Int) (w : World) (a0 : 0 ≤ a) (a1 : a ≤ 1018) (b0 : 0 ≤ b) (b1 : b ≤ 1018) : Calls Try.prog 61 #[.int .i64 (IntKind.i64.wrap (a - b))] w fun e w' => e = .returned (.int .i64 ((a - b) % 1019)) ∧ w = w' := by
  have e : IntKind.i64.wrap (a - b) = a - b := by rw [IntKind.wrap_i64]; omega
  rw [e]
  exact l5Mod (a - b) w (by omega) (by omega)
set_option maxHeartbeats 800000 in
set_option maxRecDepth 100000 in
theorem l5Poly (w : World) (s x : Int) (A : Option Addr) (n c : Nat) (cs : List Int) (hs0 : -9223372036854775808 ≤ s) (hs1 : s ≤ 9223372036854775807) (hx0 : 0 ≤ x) (hx1 : x ≤ 1018) (hr : Rd w w.heap.size 1 A n (ints .i64 cs)) (hok : okInts cs) (hn : n ≤ 4294967296) :
    Calls Try.prog 54 #[.int .i64 s, .slice A n c, .int .i64 x] w fun e w' => e = .returned (.int .i64 (poly s cs x)) ∧ w = w' := by
  have hl : cs.length = n := by have := hr.len1; rw [ints_len] at this; exact this
  have HR := Lib.hid hr
  have HL := Lib.hid hl
  have HX := Lib.hid hok
  have HP := Lib.hid (show poly s cs x = (hor cs x + s % 1019) % 1019 from rfl)
  clear hr hl hok
  go_enter Try.func54, Try.ntmps54
  go_wp2
  go_loop [7, 8] (fun v k => ∃ j : Nat, j ≤ n ∧ k = .int .i64 ((j : Int) - 1) ∧ v = .int .i64 (hor (cs.drop j) x)) (fun _ k => ((intOf k) + 1).toNat)
  case atStart => exact ⟨n, by omega, by go_num, by rw [← HL.out, List.drop_length]; rfl⟩
  case round =>
    obtain ⟨j, hj, rfl, rfl⟩ := hrel
    obtain ⟨q0, q1⟩ := hor_in (cs.drop j) x
    obtain ⟨q, hq⟩ : ∃ q, q = hor (cs.drop j) x := ⟨_, rfl⟩
    rw [← hq] at q0 q1 ⊢
    by_cases hlt : 0 < j
    · obtain ⟨i, rfl⟩ : ∃ i, j = i + 1 := ⟨j - 1, by omega⟩
      obtain ⟨b, off, rfl, hbl, hcell⟩ := HR.out.at_ (j := i) (by omega)
      obtain ⟨y0, y1⟩ := HX.out.get i
      have HD := Lib.hid (hor_drop cs x i (by have := HL.out; omega))
      obtain ⟨y, hy⟩ : ∃ y, y = cs.getD i 0 := ⟨_, rfl⟩
      rw [← hq, ← hy] at HD
      rw [← hy] at hcell y0 y1
      clear hq hy
      have e1 : (((i + 1 : Nat) : Int) - 1) = i := by omega
      have z0 : 0 ≤ y % 1019 := by omega
      have z1 : y % 1019 ≤ 1018 := by omega
      have m0 : 0 ≤ (q + y % 1019) * x := Int.mul_nonneg (by omega) hx0
      have m1 : (q + y % 1019) * x ≤ 2036 * 1018 := Int.mul_le_mul (by omega) hx1 hx0 (by omega)
      rw [e1]
      go_wp2_with fail
      (with_reducible refine (l5Mod y _ y0 y1).mono ?_); rintro e w2 ⟨rfl, rfl⟩
      go_wp2
      go_round
      case rel => exact ⟨i, by omega, by go_num, by rw [HD.out]⟩
      case measure => simp [intOf]
    · obtain rfl : j = 0 := by omega
      have HQ := Lib.hid (show q = hor cs x by rw [hq]; rfl)
      clear hq
      go_wp2_with fail
      (with_reducible refine (l5Mod s _ hs0 hs1).mono ?_); rintro e w2 ⟨rfl, rfl⟩
      go_wp2
      go_ret
      exact ⟨by rw [HP.out, ← HQ.out]; rfl, rfl⟩
/-- No two of the first j are equal modulo 1019; index j is none of the first i. -/
def fresh (is : List Int) (j : Nat) : Prop := ¬ dup is j
def apart (is : List Int) (j i : Nat) : Prop := ∀ p, p < i → is.getD p 0 % 1019 ≠ is.getD j 0 % 1019
theorem fresh.next {is : List Int} {j : Nat} (h : fresh is j) (h2 : apart is j j) : fresh is (j + 1) := by
  rintro ⟨p, q, hpq, hq, e⟩
  by_cases hqj : q < j
  · exact h ⟨p, q, hpq, hqj, e⟩
  · obtain rfl : q = j := by omega
    exact h2 p hpq e
theorem apart.next {is : List Int} {j i : Nat} (h : apart is j i) (h2 : is.getD i 0 % 1019 ≠ is.getD j 0 % 1019) : apart is j (i + 1) := by
  intro p hp
  by_cases hpi : p < i
  · exact h p hpi
  · obtain rfl : p = i := by omega
    exact h2
theorem dup_hit {is : List Int} {i j n : Nat} (h : i < j) (hj : j < n) (e : is.getD i 0 % 1019 = is.getD j 0 % 1019) : dup is n := ⟨i, j, h, hj, e⟩
set_option maxHeartbeats 1600000 in
set_option maxRecDepth 100000 in
theorem specWeight_out (w : World) (k t : Int) (A : Option Addr) (n c : Nat) (is : List Int) (hl : is.length = n) (hn : n ≤ 4294967296) (hk : ¬ (0 ≤ k ∧ k < n)) :
    Calls Try.prog 43 #[.slice A n c, .int .i64 k, .int .i64 t] w fun e w' => e = .returned (.int .i64 (lw is k t)) ∧ w = w' := by
  have HW := Lib.hid (lw_out (is := is) (k := k) t (by rw [hl]; exact hk))
  have h2 : k < 0 ∨ (n : Int) - 1 < k := by omega
  clear hk hl
  go_enter Try.func43, Try.ntmps43
  go_wp2_with fail
  (with_reducible refine (C1.specIn_f k 0 ((n : Int) - 1) _ h2).mono ?_); rintro e w1 ⟨rfl, rfl⟩
  go_wp2
  go_ret
  exact ⟨by rw [HW.out]; rfl, rfl⟩
set_option maxHeartbeats 1600000 in
set_option maxRecDepth 100000 in
theorem specWeight_in (w : World) (k : Nat) (t : Int) (ht0 : -9223372036854775808 ≤ t) (ht1 : t ≤ 9223372036854775807) (A : Option Addr) (n c : Nat) (is : List Int) (hr : Rd w w.heap.size 1 A n (ints .i64 is)) (hok : okInts is) (hn : n ≤ 4294967296) (hk : k < n) :
    Calls Try.prog 43 #[.slice A n c, .int .i64 (k : Int), .int .i64 t] w (Gives (.int .i64 (lw is k t)) w) := by
  have hl : is.length = n := by have := hr.len1; rw [ints_len] at this; exact this
  have HR := Lib.hid hr
  have HL := Lib.hid hl
  have HX := Lib.hid hok
  clear hr hl hok
  go_enter Try.func43, Try.ntmps43
  go_wp2_with fail
  (with_reducible refine (C1.specIn_t k 0 ((n : Int) - 1) _ (by omega) (by omega)).mono ?_); rintro e w1 ⟨rfl, rfl⟩
  go_wp2
  go_loopw [7, 8] (fun v i wr => ∃ j : Nat, j ≤ n ∧ i = .int .i64 j ∧ v = .int .i64 (wt is k t j) ∧ fresh is j ∧ Below w.heap.size w wr) (fun _ i _ => n - (intOf i).toNat)
  case atStart => exact ⟨0, by omega, rfl, by rw [wt_zero], fun ⟨_, _, h1, h2, _⟩ => by omega, Below.refl _ _⟩
  case round =>
    obtain ⟨j, hj, rfl, rfl, hF, hb⟩ := hrel
    have HF := Lib.hid hF
    clear hF
    by_cases hlt : j < n
    · obtain ⟨b, off, rfl, hbl, hcell⟩ := (HR.out.below hb).at_ hlt
      obtain ⟨y0, y1⟩ := HX.out.get j
      obtain ⟨y, hy⟩ : ∃ y, y = is.getD j 0 := ⟨_, rfl⟩
      rw [← hy] at hcell y0 y1
      have HY := Lib.hid hy
      clear hy
      go_wp2
      go_loopw [9] (fun i wx => ∃ p : Nat, p ≤ j ∧ i = .int .i64 p ∧ apart is j p ∧ Below wr.heap.size wr wx) (fun i _ => j - (intOf i).toNat)
      case atStart => exact ⟨0, by omega, rfl, fun _ h => by omega, Below.refl _ _⟩
      case round =>
        obtain ⟨p, hp, rfl, hA, hb2⟩ := hrel
        have HA := Lib.hid hA
        clear hA
        have hbw := hb.size
        have hb3 := hb2
        replace hb2 := hb.trans (hb2.mono hbw)
        have hcj : wr.cell? ⟨b, off + j, none⟩ = some (.int .i64 y) := by
          obtain ⟨b', off', e, _, h⟩ := (HR.out.below hb2).at_ hlt
          cases e
          rw [HY.out]; exact h
        by_cases hpj : p < j
        · obtain ⟨b', off', e, _, hcp⟩ := (HR.out.below hb2).at_ (j := p) (by omega)
          cases e
          obtain ⟨x0, x1⟩ := HX.out.get p
          obtain ⟨x, hx⟩ : ∃ x, x = is.getD p 0 := ⟨_, rfl⟩
          rw [← hx] at hcp x0 x1
          have HXP := Lib.hid hx
          clear hx hcell
          by_cases he : x % 1019 = y % 1019
          · have HD := Lib.hid (lw_dup (is := is) (k := k) t (dup_hit hpj (by rw [HL.out]; exact hlt) (by rw [← HXP.out, ← HY.out]; exact he)))
            have heb : (x % 1019 == y % 1019) = true := by simpa using he
            clear he
            have hpn : p < n := by omega
            have hpi : (p : Int) < n := by omega
            have hji : (j : Int) < n := by omega
            go_wp2_with fail
            go_region_held3 (fun wx => wx.cell? ⟨b, off + p, none⟩ = some (.int .i64 x) ∧ wx.cell? ⟨b, off + j, none⟩ = some (.int .i64 y)) (first | exact ⟨hcp, hcj⟩) (first | (go_at_call 61; refine (l5Mod x _ x0 x1).mono ?_; rintro e w2 ⟨rfl, rfl⟩) | (go_at_call 61; refine (l5Mod y _ y0 y1).mono ?_; rintro e w2 ⟨rfl, rfl⟩))
            go_wp2
            go_ret
            exact ⟨by rw [HD.out]; rfl, hb2.trans (drewN_below _ 1 _)⟩
          · have heb : (x % 1019 == y % 1019) = false := by simpa using he
            have HA2 := Lib.hid (HA.out.next (by rw [← HXP.out, ← HY.out]; exact he))
            clear he
            have hpn : p < n := by omega
            have hpi : (p : Int) < n := by omega
            have hji : (j : Int) < n := by omega
            go_wp2_with fail
            go_region_held3 (fun wx => wx.cell? ⟨b, off + p, none⟩ = some (.int .i64 x) ∧ wx.cell? ⟨b, off + j, none⟩ = some (.int .i64 y)) (first | exact ⟨hcp, hcj⟩) (first | (go_at_call 61; refine (l5Mod x _ x0 x1).mono ?_; rintro e w2 ⟨rfl, rfl⟩) | (go_at_call 61; refine (l5Mod y _ y0 y1).mono ?_; rintro e w2 ⟨rfl, rfl⟩))
            go_wp2
            go_roundw
            case rel => exact ⟨p + 1, by omega, by go_num, HA2.out, hb3.trans (drewN_below _ 1 _)⟩
            case measure => simp [intOf]; omega
        · obtain rfl : p = j := by omega
          have HFN := Lib.hid (HF.out.next HA.out)
          have hd : decide (p < p) = false := by simp
          obtain ⟨q0, q1⟩ := wt_in is k t p
          by_cases hpk : p = k
          · subst hpk
            have HS := Lib.hid (wt_same is p t)
            go_wp2
            go_roundw
            case rel => exact ⟨p + 1, by omega, by go_num, by rw [HS.out], HFN.out, hb2⟩
            case measure => simp [intOf]; omega
          · have hkb : ((p : Int) == (k : Int)) = false := by simp; omega
            have HW := Lib.hid (wt_next is k t p hpk)
            obtain ⟨b', off', e, _, hck⟩ := (HR.out.below hb2).at_ (j := k) hk
            cases e
            obtain ⟨x0, x1⟩ := HX.out.get k
            obtain ⟨x, hx⟩ : ∃ x, x = is.getD k 0 := ⟨_, rfl⟩
            rw [← hx] at hck x0 x1 HW
            rw [← HY.out] at HW
            clear hx hcell
            obtain ⟨q, hq⟩ : ∃ q, q = wt is k t p := ⟨_, rfl⟩
            rw [← hq] at q0 q1 HW ⊢
            clear hq
            have hpi : (p : Int) < n := by omega
            have hki : (k : Int) < n := by omega
            have hw0 := HW.out
            rw [← Int.sub_emod, ← Int.sub_emod] at hw0
            have HAB := Lib.hid hw0
            clear HW hw0
            have a0 : 0 ≤ t % 1019 := by omega
            have a1 : t % 1019 ≤ 1018 := by omega
            have c0 : 0 ≤ y % 1019 := by omega
            have c1 : y % 1019 ≤ 1018 := by omega
            have d0 : 0 ≤ x % 1019 := by omega
            have d1 : x % 1019 ≤ 1018 := by omega
            go_wp2_with fail
            go_region_held3 (fun wx => wx.cell? ⟨b, off + p, none⟩ = some (.int .i64 y)) (first | exact hcj) (first | (go_at_call 61; refine (l5Mod t _ ht0 ht1).mono ?_; rintro e w2 ⟨rfl, rfl⟩) | (go_at_call 61; refine (l5Mod y _ y0 y1).mono ?_; rintro e w2 ⟨rfl, rfl⟩) | (go_at_call 61; refine (l5Mod_wr (t % 1019) (y % 1019) _ a0 a1 c0 c1).mono ?_; rintro e w2 ⟨rfl, rfl⟩))
            obtain ⟨m, hm⟩ : ∃ m, m = (t - y) % 1019 := ⟨_, rfl⟩
            have m0 : 0 ≤ m := by omega
            have m1 : m ≤ 1018 := by omega
            rw [← hm] at HAB ⊢
            clear hm
            have hcj2 : wr.drew.cell? ⟨b, off + p, none⟩ = some (.int .i64 y) := hcj
            have hck2 : wr.drew.cell? ⟨b, off + k, none⟩ = some (.int .i64 x) := hck
            have hb4 : Below w.heap.size w wr.drew := hb2.trans (drewN_below _ 1 _)
            obtain ⟨wd, hwd⟩ : ∃ wd, wd = wr.drew := ⟨_, rfl⟩
            rw [← hwd] at hcj2 hck2 hb4 ⊢
            clear hcj hck hb2 hb3 hwd
            go_wp2_with fail
            go_region_held3 (fun wx => wx.cell? ⟨b, off + k, none⟩ = some (.int .i64 x) ∧ wx.cell? ⟨b, off + p, none⟩ = some (.int .i64 y)) (first | exact ⟨hck2, hcj2⟩) (first | (go_at_call 61; refine (l5Mod x _ x0 x1).mono ?_; rintro e w2 ⟨rfl, rfl⟩) | (go_at_call 61; refine (l5Mod y _ y0 y1).mono ?_; rintro e w2 ⟨rfl, rfl⟩) | (go_at_call 61; refine (l5Mod_wr (x % 1019) (y % 1019) _ d0 d1 c0 c1).mono ?_; rintro e w2 ⟨rfl, rfl⟩))
            obtain ⟨z, hz⟩ : ∃ z, z = (x - y) % 1019 := ⟨_, rfl⟩
            have z0 : 0 ≤ z := by omega
            have z1 : z ≤ 1018 := by omega
            rw [← hz] at HAB ⊢
            clear hz
            have hb5 : Below w.heap.size w wd.drew := hb4.trans (drewN_below _ 1 _)
            obtain ⟨i0, i1⟩ := inv_in z
            have HZ := Lib.hid (show z % 1019 = z by omega)
            have n0 : 0 ≤ q * m := Int.mul_nonneg q0 m0
            have n1 : q * m ≤ 1018 * 1018 := Int.mul_le_mul q1 m1 m0 (by omega)
            go_wp2_with fail
            (with_reducible refine (C4c.specInv z _ (by omega) (by omega)).mono ?_); rintro e w2 ⟨rfl, b6⟩
            rw [HZ.out]
            obtain ⟨v, hv⟩ : ∃ v, v = inv z := ⟨_, rfl⟩
            rw [← hv] at i0 i1 HAB ⊢
            clear hv
            have o0 : 0 ≤ q * m % 1019 := Int.emod_nonneg _ (by omega)
            have o1 : q * m % 1019 < 1019 := Int.emod_lt_of_pos _ (by omega)
            have r0 : 0 ≤ q * m % 1019 * v := Int.mul_nonneg o0 i0
            have r1 : q * m % 1019 * v ≤ 1018 * 1018 := Int.mul_le_mul (by omega) (by omega) i0 (by omega)
            go_wp2
            go_roundw
            case rel => exact ⟨p + 1, by omega, by go_num, by rw [← HAB.out], HFN.out, hb5.trans (b6.mono hb5.size)⟩
            case measure => simp [intOf]; omega
    · have hd : decide (j < n) = false := by simp; omega
      obtain rfl : j = n := by omega
      have HWT := Lib.hid (lw_t (is := is) (k := k) t (by rw [HL.out]; exact hk) (by rw [HL.out]; exact HF.out))
      go_wp2
      go_ret
      exact ⟨by rw [HWT.out, HL.out]; rfl, hb⟩
theorem specWeight (w : World) (k t : Int) (ht0 : -9223372036854775808 ≤ t) (ht1 : t ≤ 9223372036854775807) (A : Option Addr) (n c : Nat) (is : List Int) (hr : Rd w w.heap.size 1 A n (ints .i64 is)) (hok : okInts is) (hn : n ≤ 4294967296) :
    Calls Try.prog 43 #[.slice A n c, .int .i64 k, .int .i64 t] w (Gives (.int .i64 (lw is k t)) w) := by
  have hl : is.length = n := by have := hr.len1; rw [ints_len] at this; exact this
  by_cases hk : 0 ≤ k ∧ k < n
  · obtain ⟨j, rfl⟩ : ∃ j : Nat, k = j := ⟨k.toNat, by omega⟩
    exact specWeight_in w j t ht0 ht1 A n c is hr hok hn (by omega)
  · exact (specWeight_out w k t A n c is hl hn hk).mono fun _ _ ⟨he, hw⟩ => ⟨he, hw ▸ Below.refl _ _⟩
end Go.Proofs.Ytlndcfpcgcdmgaa.C5
