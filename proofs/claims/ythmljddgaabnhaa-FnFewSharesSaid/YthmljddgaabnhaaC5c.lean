/-
  Contracts of chapter 5's polynomials, of the program: powersModulo, weightedSum, polynomialAt.
-/
import Derived.Test.YthmljddgaabnhaaC5b
namespace Go.Proofs.Ythmljddgaabnhaa.C5c
open Go.ChangeShapes Go.WideShapes Go.ChangeAt Go.RowKit
open S0 S1 S3 C3 M4 M5 C5 C5b
set_option linter.unusedVariables false
/-- The powers x, x * x, .. modulo 1019. -/
def pws (x : Int) (n : Nat) : List Int := (List.range n).map fun k => pm 1019 x (k + 1)
theorem pws_len (x : Int) (n : Nat) : (pws x n).length = n := by simp [pws]
theorem pws_get (x : Int) (n k : Nat) (hk : k < n) : (pws x n).getD k 0 = pm 1019 x (k + 1) := by
  simp [pws, List.getD_eq_getElem?_getD, List.getElem?_range hk]
set_option maxHeartbeats 1600000 in
set_option maxRecDepth 100000 in
theorem powers (w : World) (x : Int) (n : Nat) (hx0 : 0 ≤ x) (hx1 : x < 1019) (hn : n ≤ 4294967296) :
    Calls Try.prog 50 #[.int .i64 x, .int .i64 n] w (MadeS 3 1 n (ints .i64 (pws x n)) w) := by
  obtain ⟨i0, hi, hz0, hz1, hz2⟩ := info_parts int_info
  go_enter Try.func50, Try.ntmps50
  go_wp2_with (at_make; refine wpList_make_full _ rfl _ _ 25 rfl w.heap.size 3 i0 (.int .i64 0) 1 Try.underlying25 hi hz0 hz1 _ _ _ _ n rfl rfl rfl rfl (by rw [hz2]; omega) (by unfold maxLen; omega) (Nat.le_refl _) ?_; intro w1 hown hgrow)
  have HF : Filled 3 .i64 w n (pws x n) 0 w1 := ⟨by rw [half_zero, ← made_ints]; exact hown, below_grown hgrow (Nat.le_refl _) (fun _ h => by cases h)⟩
  clear hown hgrow
  go_loopw [6, 12] (fun p i wr => ∃ k : Nat, k ≤ n ∧ i = .int .i64 k ∧ p = .int .i64 (pm 1019 x k) ∧ Filled 3 .i64 w n (pws x n) k wr) (fun _ i _ => n - (intOf i).toNat)
  case atStart => exact ⟨0, by omega, rfl, by rw [pm_zero 1019 x (by omega)], HF⟩
  case round =>
    obtain ⟨k, hk, rfl, rfl, HF⟩ := hrel
    by_cases hlt : k < n
    · obtain ⟨hg, hbase, hold, hfr⟩ := stored_at HF.1 k hlt
      have HX := Lib.hid (pws_get x n k hlt)
      have HP := Lib.hid (pm_succ 1019 x k hx0 hx1)
      obtain ⟨p0, p1⟩ := pm_in 1019 x k (by omega)
      obtain ⟨p, hp⟩ : ∃ p, p = pm 1019 x k := ⟨_, rfl⟩
      rw [← hp] at p0 p1 HP ⊢
      have n0 : 0 ≤ p * x := Int.mul_nonneg p0 hx0
      have n1 : p * x ≤ 1018 * 1018 := Int.mul_le_mul (by omega) (by omega) hx0 (by omega)
      have H := Lib.hid HF
      clear hp hbase HF
      go_wp2
      go_roundw
      case rel => exact ⟨k + 1, by omega, by go_num, by rw [HP.out], filled_next H.out (Below.refl _ _) (pws_len _ _) hlt (by rw [HX.out, HP.out])⟩
      case measure => simp [intOf]; omega
    · have hkn : k = n := by omega
      have H2 : Filled 3 .i64 w n (pws x n) n wr := by have := HF; rw [hkn] at this; exact this
      have hd : decide (k < n) = false := by simp; omega
      clear HF hkn
      go_wp2
      go_ret
      exact ⟨_, _, rfl, by have := H2.1; rw [half_all _ n (pws_len _ _)] at this; exact this, H2.2⟩
theorem same (x : Int) (w : World) : Calls Try.prog 51 #[.int .i64 x] w fun e w' => e = .returned (.int .i64 x) ∧ w = w' := by
  go_enter Try.func51, Try.ntmps51
  go_wp2
  go_ret
  exact ⟨rfl, rfl⟩
theorem valueOf (x y : Int) (w : World) : Calls Try.prog 54 #[.agg #[.int .i64 x, .int .i64 y]] w (Gives (.int .i64 y) w) := by
  go_enter Try.func54, Try.ntmps54
  go_wp2
  go_ret
  exact ⟨rfl, (Below.refl _ _).alloc (Nat.le_refl _) _⟩
/-- The first k products, reduced at each step. -/
def fsum (vs ws : List Int) : Nat → Int
  | 0 => 0
  | k + 1 => (fsum vs ws k + ws.getD k 0 * (vs.getD k 0 % 1019)) % 1019
theorem fsum_in (vs ws : List Int) (k : Nat) : 0 ≤ fsum vs ws k ∧ fsum vs ws k ≤ 1018 := by
  cases k with
  | zero => simp [fsum]
  | succ k => unfold fsum; omega
theorem new_cell (w : World) (cs : Array Value) (t : TypeId) (j : Nat) : (w.alloc (.cells cs t)).cell? ⟨w.heap.size, j, none⟩ = cs[j]? := cell_of_row _ _ j cs t (0, 0) (heap_alloc_last w _)
theorem red (s q : Int) (s0 : 0 ≤ s) (s1 : s ≤ 1018) (q0 : 0 ≤ q) (q1 : q ≤ 1018 * 1018) : (IntKind.i64.wrap (s + IntKind.i64.wrap q)).tmod 1019 = (s + q) % 1019 := by
  have e : IntKind.i64.wrap q = q := by rw [IntKind.wrap_i64]; omega
  have e2 : IntKind.i64.wrap (s + q) = s + q := by rw [IntKind.wrap_i64]; omega
  rw [e, e2, Int.tmod_eq_emod_of_nonneg (by omega)]
def small (ws : List Int) : Prop := ∀ k, 0 ≤ ws.getD k 0 ∧ ws.getD k 0 ≤ 1018
set_option maxHeartbeats 1600000 in
set_option maxRecDepth 100000 in
theorem sumInts (w : World) (A B : Option Addr) (n c d : Nat) (vs ws : List Int) (hr : Rd w w.heap.size 1 A n (ints .i64 vs)) (hw : Rd w w.heap.size 1 B n (ints .i64 ws)) (hok : okInts vs) (hs : small ws) (hn : n ≤ 4294967296) :
    Calls Try.prog 49 #[.slice A n c, .slice B n d, .func (.func 51) #[] #[]] w (Gives (.int .i64 (fsum vs ws n)) w) := by
  have HR := Lib.hid hr
  have HW := Lib.hid hw
  have HX := Lib.hid hok
  have HS := Lib.hid hs
  clear hr hw hok hs
  go_enter Try.func49, Try.ntmps49
  go_wp2
  go_loopw [7, 12] (fun s i wr => ∃ k : Nat, k ≤ n ∧ i = .int .i64 k ∧ s = .int .i64 (fsum vs ws k) ∧ Below w.heap.size w wr) (fun _ i _ => n - (intOf i).toNat)
  case atStart => exact ⟨0, by omega, rfl, rfl, Below.refl _ _⟩
  case round =>
    obtain ⟨k, hk, rfl, rfl, hb⟩ := hrel
    by_cases hlt : k < n
    · obtain ⟨b, off, rfl, hbl, hcell⟩ := (HR.out.below hb).at_ hlt
      obtain ⟨b2, off2, rfl, hbl2, hcell2⟩ := (HW.out.below hb).at_ hlt
      obtain ⟨y0, y1⟩ := HX.out.get k
      obtain ⟨z0, z1⟩ := HS.out k
      obtain ⟨s0, s1⟩ := fsum_in vs ws k
      have HE := Lib.hid (show fsum vs ws (k + 1) = (fsum vs ws k + ws.getD k 0 * (vs.getD k 0 % 1019)) % 1019 from rfl)
      obtain ⟨y, hy⟩ : ∃ y, y = vs.getD k 0 := ⟨_, rfl⟩
      obtain ⟨z, hz⟩ : ∃ z, z = ws.getD k 0 := ⟨_, rfl⟩
      obtain ⟨s, hss⟩ : ∃ s, s = fsum vs ws k := ⟨_, rfl⟩
      rw [← hy, ← hz, ← hss] at HE
      rw [← hy] at hcell y0 y1
      rw [← hz] at hcell2 z0 z1
      rw [← hss] at s0 s1 ⊢
      clear hy hz hss
      obtain ⟨m, hm⟩ : ∃ m, m = y % 1019 := ⟨_, rfl⟩
      have m0 : 0 ≤ m := by omega
      have m1 : m ≤ 1018 := by omega
      rw [← hm] at HE
      have HM := Lib.hid hm
      clear hm
      have n0 : 0 ≤ z * m := Int.mul_nonneg z0 m0
      have n1 : z * m ≤ 1018 * 1018 := Int.mul_le_mul z1 m1 m0 (by omega)
      have hki : (k : Int) < n := by omega
      go_wp2_with fail
      go_region_held3 (fun wx => wx.cell? ⟨b2, off2 + k, none⟩ = some (.int .i64 z)) (first | exact hcell2) (first | (go_at_call 51; refine (same y _).mono ?_; rintro e w2 ⟨rfl, rfl⟩) | (go_at_call 52; refine (C1.implMod_in y 1019 _ y0 y1 (by omega) (by omega)).mono ?_; rintro e w2 ⟨rfl, rfl⟩; rw [← HM.out]))
      go_wp2
      go_roundw
      case rel => exact ⟨k + 1, by omega, by go_num, by rw [HE.out, red s (z * m) s0 s1 n0 n1], hb.trans (drewN_below _ 1 _)⟩
      case measure => simp [intOf]; omega
    · obtain rfl : k = n := by omega
      have hd : decide (k < k) = false := by simp
      go_wp2
      go_ret
      exact ⟨rfl, hb⟩
set_option maxHeartbeats 1600000 in
set_option maxRecDepth 100000 in
theorem sumShares (w : World) (A B : Option Addr) (n c d : Nat) (xs ws : List Int) (hr : Rd w w.heap.size 2 A n (ints .i64 xs)) (hw : Rd w w.heap.size 1 B n (ints .i64 ws)) (hok : okInts xs) (hs : small ws) (hn : n ≤ 4294967296) :
    Calls Try.prog 53 #[.slice A n c, .slice B n d, .func (.func 54) #[] #[]] w (Gives (.int .i64 (fsum (vls xs n) ws n)) w) := by
  have HR := Lib.hid hr
  have HW := Lib.hid hw
  have HX := Lib.hid hok
  have HS := Lib.hid hs
  clear hr hw hok hs
  go_enter Try.func53, Try.ntmps53
  go_wp2
  go_loopw [7, 12] (fun s i wr => ∃ k : Nat, k ≤ n ∧ i = .int .i64 k ∧ s = .int .i64 (fsum (vls xs n) ws k) ∧ Below w.heap.size w wr) (fun _ i _ => n - (intOf i).toNat)
  case atStart => exact ⟨0, by omega, rfl, rfl, Below.refl _ _⟩
  case round =>
    obtain ⟨k, hk, rfl, rfl, hb⟩ := hrel
    by_cases hlt : k < n
    · obtain ⟨b, off, rfl, hbl, hcell, hcellv⟩ := Rd2.at_ (HR.out.below hb) hlt
      obtain ⟨b2, off2, rfl, hbl2, hcell2⟩ := (HW.out.below hb).at_ hlt
      obtain ⟨y0, y1⟩ := HX.out.get (k * 2 + 1)
      obtain ⟨z0, z1⟩ := HS.out k
      obtain ⟨s0, s1⟩ := fsum_in (vls xs n) ws k
      have HE := Lib.hid (show fsum (vls xs n) ws (k + 1) = (fsum (vls xs n) ws k + ws.getD k 0 * ((vls xs n).getD k 0 % 1019)) % 1019 from rfl)
      rw [vls_get xs n k hlt] at HE
      obtain ⟨x, hx⟩ : ∃ x, x = xs.getD (k * 2) 0 := ⟨_, rfl⟩
      obtain ⟨y, hy⟩ : ∃ y, y = xs.getD (k * 2 + 1) 0 := ⟨_, rfl⟩
      obtain ⟨z, hz⟩ : ∃ z, z = ws.getD k 0 := ⟨_, rfl⟩
      obtain ⟨s, hss⟩ : ∃ s, s = fsum (vls xs n) ws k := ⟨_, rfl⟩
      rw [← hy, ← hz, ← hss] at HE
      rw [← hx] at hcell
      rw [← hy] at hcellv y0 y1
      rw [← hz] at hcell2 z0 z1
      rw [← hss] at s0 s1 ⊢
      clear hx hy hz hss
      obtain ⟨m, hm⟩ : ∃ m, m = y % 1019 := ⟨_, rfl⟩
      have m0 : 0 ≤ m := by omega
      have m1 : m ≤ 1018 := by omega
      rw [← hm] at HE
      have HM := Lib.hid hm
      clear hm
      have n0 : 0 ≤ z * m := Int.mul_nonneg z0 m0
      have n1 : z * m ≤ 1018 * 1018 := Int.mul_le_mul z1 m1 m0 (by omega)
      have hki : (k : Int) < n := by omega
      have hsz := hb.size
      have hbr : b < wr.heap.size := by omega
      have hbr2 : b2 < wr.heap.size := by omega
      go_wp2_with fail
      obtain ⟨w3, hw3⟩ : ∃ w3, w3 = wr.alloc (.cells #[.int .i64 x, .int .i64 y] 34) := ⟨_, rfl⟩
      have b3 : Below wr.heap.size wr w3 := hw3 ▸ (Below.refl _ _).alloc (Nat.le_refl _) _
      have c0 : w3.cell? ⟨wr.heap.size, 0, none⟩ = some (.int .i64 x) := by rw [hw3]; exact new_cell wr _ _ _
      have c1 : w3.cell? ⟨wr.heap.size, 1, none⟩ = some (.int .i64 y) := by rw [hw3]; exact new_cell wr _ _ _
      have c2 : w3.cell? ⟨b2, off2 + k, none⟩ = some (.int .i64 z) := (b3.cell (p := ⟨b2, off2 + k, none⟩) hbr2).trans hcell2
      have h3s : w3.heap.size = wr.heap.size + 1 := by rw [hw3]; simp
      have hB := Lib.hid (hb.trans (b3.mono hsz))
      rw [← hw3]
      clear hw3 hb hcell hcellv hcell2 b3
      have hg3 : wr.heap.size < w3.heap.size := by omega
      have hb23 : b2 < w3.heap.size := by omega
      obtain ⟨g, hg⟩ : ∃ g, g = wr.heap.size := ⟨_, rfl⟩
      rw [← hg] at c0 c1 hg3 ⊢
      clear hg
      go_region_held3 (fun wx => wx.cell? ⟨g, 0, none⟩ = some (.int .i64 x) ∧ wx.cell? ⟨g, 1, none⟩ = some (.int .i64 y) ∧ wx.cell? ⟨b2, off2 + k, none⟩ = some (.int .i64 z)) (first | exact ⟨c0, c1, c2⟩ | exact ⟨d0, d1, d2⟩) (first | (go_at_call 54; refine (valueOf x y _).mono ?_; rintro e w4 ⟨rfl, b4⟩; have d0 : w4.cell? ⟨g, 0, none⟩ = some (.int .i64 x) := (b4.cell (p := ⟨g, 0, none⟩) hg3).trans c0; have d1 : w4.cell? ⟨g, 1, none⟩ = some (.int .i64 y) := (b4.cell (p := ⟨g, 1, none⟩) hg3).trans c1; have d2 : w4.cell? ⟨b2, off2 + k, none⟩ = some (.int .i64 z) := (b4.cell (p := ⟨b2, off2 + k, none⟩) hb23).trans c2) | (go_at_call 52; refine (C1.implMod_in y 1019 _ y0 y1 (by omega) (by omega)).mono ?_; rintro e w2 ⟨rfl, rfl⟩; rw [← HM.out]))
      go_wp2
      have hz4 : w.heap.size ≤ w3.drew.heap.size := hB.out.size
      go_roundw
      case rel => exact ⟨k + 1, by omega, by go_num, by rw [HE.out, red s (z * m) s0 s1 n0 n1], hB.out.trans ((drewN_below w3 1 _).trans (b4.mono hz4))⟩
      case measure => simp [intOf]; omega
    · obtain rfl : k = n := by omega
      have hd : decide (k < k) = false := by simp
      go_wp2
      go_ret
      exact ⟨rfl, hb⟩
theorem ev_snoc (cs : List Int) (c x : Int) : ev (cs ++ [c]) x = ev cs x + c * x ^ (cs.length + 1) := by
  induction cs with
  | nil => simp only [List.nil_append, ev, List.length_nil, Int.zero_add, Int.pow_succ, Int.pow_zero, Int.one_mul]
  | cons d cs ih =>
    simp only [List.cons_append, ev, ih, List.length_cons]
    rw [Int.pow_succ x (cs.length + 1), Int.add_mul, Int.add_mul, Int.add_mul, Int.mul_assoc]
    omega
theorem fsum_ev (cs : List Int) (x : Int) (n : Nat) (hn : cs.length = n) : ∀ k, k ≤ n → fsum cs (pws x n) k = ev (cs.take k) x % 1019 := by
  intro k
  induction k with
  | zero => intro _; simp [fsum, ev]
  | succ k ih =>
    intro hk
    have hk2 : k < cs.length := by omega
    have e : cs.getD k 0 = cs[k] := by rw [List.getD_eq_getElem?_getD, List.getElem?_eq_getElem hk2]; rfl
    rw [List.take_succ_eq_append_getElem hk2, ev_snoc, List.length_take, Nat.min_eq_left (by omega)]
    unfold fsum
    rw [ih (by omega), pws_get x n k (by omega), e]
    unfold pm
    rw [Int.mul_comm (x ^ (k + 1) % 1019), Int.add_emod, Int.emod_emod, ← Int.mul_emod, ← Int.add_emod]
theorem fsum_hor (cs : List Int) (x : Int) (n : Nat) (hn : cs.length = n) : fsum cs (pws x n) n = hor cs x := by
  rw [fsum_ev cs x n hn n (Nat.le_refl _), hor_ev, ← hn, List.take_length]
theorem pws_small (x : Int) (n : Nat) : small (pws x n) := by
  intro k
  by_cases hk : k < n
  · rw [pws_get x n k hk]
    have := pm_in 1019 x (k + 1) (by omega)
    omega
  · rw [List.getD_eq_getElem?_getD, List.getElem?_eq_none (by rw [pws_len]; omega)]
    simp
set_option maxHeartbeats 1600000 in
set_option maxRecDepth 100000 in
theorem polynomial (w : World) (s x : Int) (A : Option Addr) (n c : Nat) (cs : List Int) (hs0 : -9223372036854775808 ≤ s) (hs1 : s ≤ 9223372036854775807) (hx0 : 0 ≤ x) (hx1 : x < 1019) (hr : Rd w w.heap.size 1 A n (ints .i64 cs)) (hok : okInts cs) (hn : n ≤ 4294967296) :
    Calls Try.prog 36 #[.int .i64 s, .slice A n c, .int .i64 x] w (Gives (.int .i64 (poly s cs x)) w) := by
  have hl : cs.length = n := by have := hr.len1; rw [ints_len] at this; exact this
  have HR := Lib.hid hr
  have HX := Lib.hid hok
  have HP := Lib.hid (show poly s cs x = (hor cs x + s % 1019) % 1019 from rfl)
  have HF := Lib.hid (fsum_hor cs x n hl)
  clear hr hok hl
  go_enter Try.func36, Try.ntmps36
  go_wp2_with fail
  (with_reducible refine (powers _ x n hx0 hx1 hn).mono ?_); rintro e w1 ⟨A1, c1, rfl, o1, b1⟩
  have HO := Lib.hid o1
  clear o1
  go_wp2_with fail
  (with_reducible refine (sumInts _ A A1 n c c1 cs (pws x n) (HR.out.on b1) (Rd.own HO.out) HX.out (pws_small x n) hn).mono ?_); rintro e w2 ⟨rfl, b2⟩
  rw [HF.out]
  obtain ⟨q0, q1⟩ := hor_in cs x
  obtain ⟨q, hq⟩ : ∃ q, q = hor cs x := ⟨_, rfl⟩
  rw [← hq] at q0 q1 HP ⊢
  clear hq
  obtain ⟨m, hm⟩ : ∃ m, m = s % 1019 := ⟨_, rfl⟩
  have m0 : 0 ≤ m := by omega
  have m1 : m ≤ 1018 := by omega
  rw [← hm] at HP
  have HM := Lib.hid hm
  clear hm
  go_wp2_with fail
  (with_reducible refine (C1.implMod_in s 1019 _ hs0 hs1 (by omega) (by omega)).mono ?_); rintro e w3 ⟨rfl, rfl⟩
  rw [← HM.out]
  go_wp2
  go_ret
  exact ⟨by rw [HP.out, Int.add_comm]; rfl, b1.trans (b2.mono b1.size)⟩
end Go.Proofs.Ythmljddgaabnhaa.C5c
