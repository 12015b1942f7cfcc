/-
  Contracts of chapter 4's hash to the group and of its proofs of equal exponents, of the program and of the model: HashToGroup, ProveEqual, VerifyEqual.
-/
import Derived.Test.YteobifdbalgoaaaC4b
namespace Go.Proofs.Yteobifdbalgoaaa.C4d
open Go.ChangeShapes Go.WideShapes Go.ChangeAt Go.RowKit
open S0 S1 M3 M4 C3 C4 C4b
set_option linter.unusedVariables false
theorem okInts.cons {x : Int} {xs : List Int} (h0 : -9223372036854775808 ≤ x) (h1 : x ≤ 9223372036854775807) (h : okInts xs) : okInts (x :: xs) := by
  intro z hz
  rcases List.mem_cons.1 hz with hz | hz
  · subst hz; exact ⟨h0, h1⟩
  · exact h z hz
/-- What HashToGroup gives. -/
def hx (l v : Int) : Int := 1 + khash l [89, v] * khash l [89, v] % 2147483647 % 1018
def hg (l v : Int) : Int := pw 4 (hx l v)
theorem hx_in (l v : Int) : 1 ≤ hx l v ∧ hx l v ≤ 1018 := by
  unfold hx
  have a := Int.emod_nonneg (khash l [89, v] * khash l [89, v] % 2147483647) (show (1018 : Int) ≠ 0 by omega)
  have b := Int.emod_lt_of_pos (khash l [89, v] * khash l [89, v] % 2147483647) (show (0 : Int) < 1018 by omega)
  omega
theorem hg_el (l v : Int) : isEl (hg l v) := pw_el _ el_four
theorem hg_ne (l v : Int) : hg l v ≠ 1 := pw_ne el_four (by omega) _ (by have := hx_in l v; omega)
set_option maxHeartbeats 800000 in
set_option maxRecDepth 100000 in
theorem implHash (l v : Int) (w : World) (hl0 : -9223372036854775808 ≤ l) (hl1 : l ≤ 9223372036854775807) (hv0 : -9223372036854775808 ≤ v) (hv1 : v ≤ 9223372036854775807) :
    Calls Try.prog 23 #[.int .i64 l, .int .i64 v] w (Gives (.int .i64 (hg l v)) w) := by
  have hok : okInts [89, v] := okInts.cons (by omega) (by omega) (okInts.one hv0 hv1)
  have hin := khash_in l [89, v]
  have HH := Lib.hid (hx_in l v)
  unfold hx at HH
  have HG := Lib.hid (show hg l v = pw 4 (1 + khash l [89, v] * khash l [89, v] % 2147483647 % 1018) from rfl)
  have HK := Lib.hid (implKeyed (w.alloc (.cells #[.int .i64 89, .int .i64 v] 3)) _ 2 2 [89, v] l hl0 hl1 (rd_two w 89 v) hok (by omega))
  obtain ⟨z, hz⟩ : ∃ z, z = khash l [89, v] := ⟨_, rfl⟩
  rw [← hz] at hin HH HG HK
  clear hz hok
  unfold inP at hin
  obtain ⟨z0, z1⟩ := hin
  have m0 : 0 ≤ z * z := Int.mul_nonneg z0 z0
  have m1 : z * z ≤ 2147483646 * 2147483646 := Int.mul_le_mul (by omega) (by omega) z0 (by omega)
  go_enter Try.func23, Try.ntmps23
  go_wp2_with fail
  (refine HK.out.mono ?_); rintro e w1 ⟨rfl, b1⟩
  replace b1 := below_al b1
  have y0 : 0 ≤ z * z % 2147483647 := Int.emod_nonneg _ (by omega)
  have y1 : z * z % 2147483647 < 2147483647 := Int.emod_lt_of_pos _ (by omega)
  go_wp2_with fail
  (with_reducible refine (implPow 4 (1 + z * z % 2147483647 % 1018) _ (by omega) (by omega)).mono ?_); rintro e w2 ⟨rfl, b2⟩
  go_wp2
  go_ret
  exact ⟨by rw [HG.out]; rfl, b1.trans (b2.mono b1.size)⟩
set_option maxHeartbeats 800000 in
set_option maxRecDepth 100000 in
theorem specHash (l v : Int) (w : World) (hl0 : -9223372036854775808 ≤ l) (hl1 : l ≤ 9223372036854775807) (hv0 : -9223372036854775808 ≤ v) (hv1 : v ≤ 9223372036854775807) :
    Calls Try.prog 31 #[.int .i64 l, .int .i64 v] w (Gives (.int .i64 (hg l v)) w) := by
  have hok : okInts [89, v] := okInts.cons (by omega) (by omega) (okInts.one hv0 hv1)
  have hin := khash_in l [89, v]
  have HH := Lib.hid (hx_in l v)
  unfold hx at HH
  have HG := Lib.hid (show hg l v = pw 4 (1 + khash l [89, v] * khash l [89, v] % 2147483647 % 1018) from rfl)
  have HK := Lib.hid (specKeyed (w.alloc (.cells #[.int .i64 89, .int .i64 v] 3)) _ 2 2 [89, v] l hl0 hl1 (rd_two w 89 v) hok (by omega))
  obtain ⟨z, hz⟩ : ∃ z, z = khash l [89, v] := ⟨_, rfl⟩
  rw [← hz] at hin HH HG HK
  clear hz hok
  unfold inP at hin
  obtain ⟨z0, z1⟩ := hin
  have m0 : 0 ≤ z * z := Int.mul_nonneg z0 z0
  have m1 : z * z ≤ 2147483646 * 2147483646 := Int.mul_le_mul (by omega) (by omega) z0 (by omega)
  go_enter Try.func31, Try.ntmps31
  go_wp2_with fail
  (refine HK.out.mono ?_); rintro e w1 ⟨rfl, b1⟩
  replace b1 := below_al b1
  have y0 : 0 ≤ z * z % 2147483647 := Int.emod_nonneg _ (by omega)
  have y1 : z * z % 2147483647 < 2147483647 := Int.emod_lt_of_pos _ (by omega)
  go_wp2_with fail
  (with_reducible refine (specPowB 4 (1 + z * z % 2147483647 % 1018) _ (by omega) (by omega)).mono ?_); rintro e w2 ⟨rfl, b2⟩
  go_wp2
  go_ret
  exact ⟨by rw [HG.out]; rfl, b1.trans (b2.mono b1.size)⟩
/-- The challenge of a proof. -/
def chal (xs : List Int) : Int := khash 97 xs % 1019
theorem chal_in (xs : List Int) : 0 ≤ chal xs ∧ chal xs ≤ 1018 := by unfold chal; omega
theorem implChal (w : World) (A : Option Addr) (n c : Nat) (xs : List Int) (hr : Rd w w.heap.size 1 A n (ints .i64 xs)) (hx : okInts xs) (hn : n ≤ 1000) :
    Calls Try.prog 44 #[.slice A n c] w (Gives (.int .i64 (chal xs)) w) := by
  have hin := khash_in 97 xs
  have HK := Lib.hid (implKeyed w A n c xs 97 (by omega) (by omega) hr hx (by omega))
  have HC := Lib.hid (show chal xs = khash 97 xs % 1019 from rfl)
  obtain ⟨z, hz⟩ : ∃ z, z = khash 97 xs := ⟨_, rfl⟩
  rw [← hz] at hin HK HC
  clear hz hr hx
  unfold inP at hin
  obtain ⟨z0, z1⟩ := hin
  go_enter Try.func44, Try.ntmps44
  go_wp2_with fail
  (refine HK.out.mono ?_); rintro e w1 ⟨rfl, b1⟩
  go_wp2
  go_ret
  exact ⟨by rw [HC.out]; rfl, b1⟩
theorem implChal6 (w : World) (a b c d e f z : Int) (hz : z = chal [a, b, c, d, e, f]) (hx : okInts [a, b, c, d, e, f]) :
    Calls Try.prog 44 #[.slice (some ⟨w.heap.size, 0, none⟩) 6 6] (w.alloc (.cells #[.int .i64 a, .int .i64 b, .int .i64 c, .int .i64 d, .int .i64 e, .int .i64 f] 3)) (Gives (.int .i64 z) w) := by
  subst hz
  have hr : Rd (w.alloc (.cells #[.int .i64 a, .int .i64 b, .int .i64 c, .int .i64 d, .int .i64 e, .int .i64 f] 3)) (w.alloc (.cells #[.int .i64 a, .int .i64 b, .int .i64 c, .int .i64 d, .int .i64 e, .int .i64 f] 3)).heap.size 1 (some ⟨w.heap.size, 0, none⟩) 6 (ints .i64 [a, b, c, d, e, f]) :=
    Rd.own (own_lit w #[.int .i64 a, .int .i64 b, .int .i64 c, .int .i64 d, .int .i64 e, .int .i64 f] 6 w.heap.size 3 (Nat.le_refl _) rfl (by unfold maxLen; omega))
  exact (implChal _ _ 6 6 _ hr hx (by omega)).mono fun _ _ h => ⟨h.1, below_al h.2⟩
theorem specChal (w : World) (A : Option Addr) (n c : Nat) (xs : List Int) (hr : Rd w w.heap.size 1 A n (ints .i64 xs)) (hx : okInts xs) (hn : n ≤ 1000) :
    Calls Try.prog 48 #[.slice A n c] w (Gives (.int .i64 (chal xs)) w) := by
  have hin := khash_in 97 xs
  have HK := Lib.hid (specKeyed w A n c xs 97 (by omega) (by omega) hr hx (by omega))
  have HC := Lib.hid (show chal xs = khash 97 xs % 1019 from rfl)
  obtain ⟨z, hz⟩ : ∃ z, z = khash 97 xs := ⟨_, rfl⟩
  rw [← hz] at hin HK HC
  clear hz hr hx
  unfold inP at hin
  obtain ⟨z0, z1⟩ := hin
  go_enter Try.func48, Try.ntmps48
  go_wp2_with fail
  (refine HK.out.mono ?_); rintro e w1 ⟨rfl, b1⟩
  go_wp2
  go_ret
  exact ⟨by rw [HC.out]; rfl, b1⟩
theorem specChal6 (w : World) (a b c d e f z : Int) (hz : z = chal [a, b, c, d, e, f]) (hx : okInts [a, b, c, d, e, f]) :
    Calls Try.prog 48 #[.slice (some ⟨w.heap.size, 0, none⟩) 6 6] (w.alloc (.cells #[.int .i64 a, .int .i64 b, .int .i64 c, .int .i64 d, .int .i64 e, .int .i64 f] 3)) (Gives (.int .i64 z) w) := by
  subst hz
  have hr : Rd (w.alloc (.cells #[.int .i64 a, .int .i64 b, .int .i64 c, .int .i64 d, .int .i64 e, .int .i64 f] 3)) (w.alloc (.cells #[.int .i64 a, .int .i64 b, .int .i64 c, .int .i64 d, .int .i64 e, .int .i64 f] 3)).heap.size 1 (some ⟨w.heap.size, 0, none⟩) 6 (ints .i64 [a, b, c, d, e, f]) :=
    Rd.own (own_lit w #[.int .i64 a, .int .i64 b, .int .i64 c, .int .i64 d, .int .i64 e, .int .i64 f] 6 w.heap.size 3 (Nat.le_refl _) rfl (by unfold maxLen; omega))
  exact (specChal _ _ 6 6 _ hr hx (by omega)).mono fun _ _ h => ⟨h.1, below_al h.2⟩
theorem ok6 {a b c d e f : Int} (ha : 0 ≤ a ∧ a ≤ 2038) (hb : 0 ≤ b ∧ b ≤ 2038) (hc : 0 ≤ c ∧ c ≤ 2038) (hd : 0 ≤ d ∧ d ≤ 2038) (he : 0 ≤ e ∧ e ≤ 2038) (hf : 0 ≤ f ∧ f ≤ 2038) : okInts [a, b, c, d, e, f] :=
  okInts.cons (by omega) (by omega) (okInts.cons (by omega) (by omega) (okInts.cons (by omega) (by omega) (okInts.cons (by omega) (by omega) (okInts.cons (by omega) (by omega) (okInts.one (by omega) (by omega))))))
/-- What ProveEqual gives of two elements. -/
def pc (g h s k : Int) : Int := chal [g, h, pw g s, pw h s, pw g k, pw h k]
def pr (g h s k : Int) : Int := (k % 1019 - pc g h s k * (s % 1019)) % 1019
/-- .. and at every argument. -/
def prC (g h s k : Int) : Int := if isEl g ∧ isEl h then pc g h s k else 0
def prR (g h s k : Int) : Int := if isEl g ∧ isEl h then pr g h s k else 0
theorem els_false {a b : Int} (h : ¬ (isEl a ∧ isEl b)) : (el a && el b) = false := by
  rw [Bool.eq_false_iff]; intro e; rw [Bool.and_eq_true] at e; exact h ⟨of_decide_eq_true e.1, of_decide_eq_true e.2⟩
set_option maxHeartbeats 1600000 in
set_option maxRecDepth 100000 in
theorem implProve (g h s k : Int) (w : World) (hs0 : -9223372036854775808 ≤ s) (hs1 : s ≤ 9223372036854775807) (hk0 : -9223372036854775808 ≤ k) (hk1 : k ≤ 9223372036854775807) :
    Calls Try.prog 25 #[.int .i64 g, .int .i64 h, .int .i64 s, .int .i64 k] w (Gives (.tuple #[.int .i64 (prC g h s k), .int .i64 (prR g h s k)]) w) := by
  by_cases hh : isEl g ∧ isEl h
  · have HZ := Lib.hid (show (el g && el h) = true by rw [el_t hh.1, el_t hh.2]; rfl)
    have HC := Lib.hid (show prC g h s k = pc g h s k by unfold prC; rw [if_pos hh])
    have HR := Lib.hid (show prR g h s k = pr g h s k by unfold prR; rw [if_pos hh])
    have HOK := Lib.hid (ok6 ⟨by have := hh.1.lo; omega, hh.1.hi⟩ ⟨by have := hh.2.lo; omega, hh.2.hi⟩ (pw_in g (s % 1019)) (pw_in h (s % 1019)) (pw_in g (k % 1019)) (pw_in h (k % 1019)))
    have HPC := Lib.hid (show pc g h s k = chal [g, h, pw g (s % 1019), pw h (s % 1019), pw g (k % 1019), pw h (k % 1019)] by unfold pc; rw [pw_mod, pw_mod, pw_mod, pw_mod])
    have hin : 0 ≤ pc g h s k ∧ pc g h s k ≤ 1018 := chal_in _
    have HPR := Lib.hid (show pr g h s k = (k % 1019 - pc g h s k * (s % 1019)) % 1019 from rfl)
    obtain ⟨c, hc⟩ : ∃ c, c = pc g h s k := ⟨_, rfl⟩
    rw [← hc] at hin HPC HC HPR
    obtain ⟨c0, c1⟩ := hin
    have s0 : 0 ≤ s % 1019 := by omega
    have s1 : s % 1019 < 1019 := by omega
    have k0 : 0 ≤ k % 1019 := by omega
    have k1 : k % 1019 < 1019 := by omega
    obtain ⟨s', hs'⟩ : ∃ s', s % 1019 = s' := ⟨_, rfl⟩
    obtain ⟨k', hk'⟩ : ∃ k', k % 1019 = k' := ⟨_, rfl⟩
    rw [hs'] at s0 s1 HPC HOK HPR
    rw [hk'] at k0 k1 HPC HOK HPR
    have HS := Lib.hid hs'
    have HKK := Lib.hid hk'
    have m0 : 0 ≤ c * s' := Int.mul_nonneg c0 s0
    have m1 : c * s' ≤ 1018 * 1018 := Int.mul_le_mul (by omega) (by omega) s0 (by omega)
    clear hs' hk' hc hh
    go_enter Try.func25, Try.ntmps25
    go_wp2_with fail
    (refine (els_two g h w true HZ.out).mono ?_); rintro e w1 ⟨rfl, HB⟩
    go_wp2_with fail
    (with_reducible refine (C1.implMod_in s 1019 _ hs0 hs1 (by omega) (by omega)).mono ?_); rintro e w2 ⟨rfl, rfl⟩
    rw [HS.out]
    go_wp2_with fail
    (with_reducible refine (C1.implMod_in k 1019 _ hk0 hk1 (by omega) (by omega)).mono ?_); rintro e w2 ⟨rfl, rfl⟩
    rw [HKK.out]
    go_wp2_with fail
    (with_reducible refine (implPow g s' _ (by omega) (by omega)).mono ?_); rintro e w2 ⟨rfl, b2⟩
    replace HB := HB.trans (b2.mono HB.size)
    go_wp2_with fail
    (with_reducible refine (implPow h s' _ (by omega) (by omega)).mono ?_); rintro e w3 ⟨rfl, b3⟩
    replace HB := HB.trans (b3.mono HB.size)
    go_wp2_with fail
    (with_reducible refine (implPow g k' _ (by omega) (by omega)).mono ?_); rintro e w4 ⟨rfl, b4⟩
    replace HB := HB.trans (b4.mono HB.size)
    go_wp2_with fail
    (with_reducible refine (implPow h k' _ (by omega) (by omega)).mono ?_); rintro e w5 ⟨rfl, b5⟩
    replace HB := HB.trans (b5.mono HB.size)
    go_wp2_with fail
    (refine (implChal6 w5 g h _ _ _ _ c HPC.out HOK.out).mono ?_); rintro e w6 ⟨rfl, b6⟩
    replace HB := HB.trans (b6.mono HB.size)
    go_wp2_with fail
    (with_reducible refine (C1.implMod_in (k' - c * s') 1019 _ (by omega) (by omega) (by omega) (by omega)).mono ?_); rintro e w2 ⟨rfl, rfl⟩
    go_wp2
    go_ret2
    exact ⟨by rw [HC.out, HR.out, HPR.out]; rfl, HB⟩
  · have HZ := Lib.hid (els_false hh)
    have HC := Lib.hid (show prC g h s k = 0 by unfold prC; rw [if_neg hh])
    have HR := Lib.hid (show prR g h s k = 0 by unfold prR; rw [if_neg hh])
    clear hh
    go_enter Try.func25, Try.ntmps25
    go_wp2_with fail
    (refine (els_two g h w false HZ.out).mono ?_); rintro e w1 ⟨rfl, HB⟩
    go_wp2
    go_ret2
    exact ⟨by rw [HC.out, HR.out]; rfl, HB⟩
set_option maxHeartbeats 1600000 in
set_option maxRecDepth 100000 in
theorem specProve (g h s k : Int) (w : World) (hs0 : -9223372036854775808 ≤ s) (hs1 : s ≤ 9223372036854775807) (hk0 : -9223372036854775808 ≤ k) (hk1 : k ≤ 9223372036854775807) :
    Calls Try.prog 32 #[.int .i64 g, .int .i64 h, .int .i64 s, .int .i64 k] w (Gives (.tuple #[.int .i64 (prC g h s k), .int .i64 (prR g h s k)]) w) := by
  by_cases hh : isEl g ∧ isEl h
  · have eg := el_t hh.1
    have eh := el_t hh.2
    have HC := Lib.hid (show prC g h s k = pc g h s k by unfold prC; rw [if_pos hh])
    have HR := Lib.hid (show prR g h s k = pr g h s k by unfold prR; rw [if_pos hh])
    have HOK := Lib.hid (ok6 ⟨by have := hh.1.lo; omega, hh.1.hi⟩ ⟨by have := hh.2.lo; omega, hh.2.hi⟩ (pw_in g s) (pw_in h s) (pw_in g k) (pw_in h k))
    have HPC := Lib.hid (show pc g h s k = chal [g, h, pw g s, pw h s, pw g k, pw h k] from rfl)
    have hin : 0 ≤ pc g h s k ∧ pc g h s k ≤ 1018 := chal_in _
    have HPR := Lib.hid (show pr g h s k = (k % 1019 - pc g h s k * (s % 1019)) % 1019 from rfl)
    obtain ⟨c, hc⟩ : ∃ c, c = pc g h s k := ⟨_, rfl⟩
    rw [← hc] at hin HPC HC HPR
    obtain ⟨c0, c1⟩ := hin
    have s0 : 0 ≤ s % 1019 := by omega
    have s1 : s % 1019 < 1019 := by omega
    have k0 : 0 ≤ k % 1019 := by omega
    have k1 : k % 1019 < 1019 := by omega
    obtain ⟨s', hs'⟩ : ∃ s', s % 1019 = s' := ⟨_, rfl⟩
    obtain ⟨k', hk'⟩ : ∃ k', k % 1019 = k' := ⟨_, rfl⟩
    rw [hs'] at s0 s1 HPR
    rw [hk'] at k0 k1 HPR
    have HS := Lib.hid hs'
    have HKK := Lib.hid hk'
    have m0 : 0 ≤ c * s' := Int.mul_nonneg c0 s0
    have m1 : c * s' ≤ 1018 * 1018 := Int.mul_le_mul (by omega) (by omega) s0 (by omega)
    clear hs' hk' hc hh
    go_enter Try.func32, Try.ntmps32
    go_wp2_with fail
    (with_reducible refine (specEl g _).mono ?_); rintro e w1 ⟨rfl, rfl⟩
    go_wp2_with fail
    (with_reducible refine (specEl h _).mono ?_); rintro e w1 ⟨rfl, rfl⟩
    go_wp2_with fail
    (with_reducible refine (specPow g s _ hs0 hs1).mono ?_); rintro e w2 ⟨rfl, rfl⟩
    go_wp2_with fail
    (with_reducible refine (specPow h s _ hs0 hs1).mono ?_); rintro e w2 ⟨rfl, rfl⟩
    go_wp2_with fail
    (with_reducible refine (specPow g k _ hk0 hk1).mono ?_); rintro e w2 ⟨rfl, rfl⟩
    go_wp2_with fail
    (with_reducible refine (specPow h k _ hk0 hk1).mono ?_); rintro e w2 ⟨rfl, rfl⟩
    go_wp2_with fail
    (refine (specChal6 w g h _ _ _ _ c HPC.out HOK.out).mono ?_); rintro e w6 ⟨rfl, b6⟩
    go_wp2_with fail
    (with_reducible refine (C1.specMod_in k 1019 _ hk0 hk1 (by omega) (by omega)).mono ?_); rintro e w2 ⟨rfl, rfl⟩
    rw [HKK.out]
    go_wp2_with fail
    (with_reducible refine (C1.specMod_in s 1019 _ hs0 hs1 (by omega) (by omega)).mono ?_); rintro e w2 ⟨rfl, rfl⟩
    rw [HS.out]
    go_wp2_with fail
    (with_reducible refine (C1.specMod_in (k' - c * s') 1019 _ (by omega) (by omega) (by omega) (by omega)).mono ?_); rintro e w2 ⟨rfl, rfl⟩
    go_wp2
    go_ret2
    exact ⟨by rw [HC.out, HR.out, HPR.out]; rfl, b6⟩
  · have HC := Lib.hid (show prC g h s k = 0 by unfold prC; rw [if_neg hh])
    have HR := Lib.hid (show prR g h s k = 0 by unfold prR; rw [if_neg hh])
    by_cases hg : isEl g
    · have eg := el_t hg
      have eh := el_f (x := h) (fun e => hh ⟨hg, e⟩)
      clear hh hg
      go_enter Try.func32, Try.ntmps32
      go_wp2_with fail
      (with_reducible refine (specEl g _).mono ?_); rintro e w1 ⟨rfl, rfl⟩
      go_wp2_with fail
      (with_reducible refine (specEl h _).mono ?_); rintro e w1 ⟨rfl, rfl⟩
      go_wp2
      go_ret2
      exact ⟨by rw [HC.out, HR.out]; rfl, Below.refl _ _⟩
    · have eg := el_f hg
      clear hh hg
      go_enter Try.func32, Try.ntmps32
      go_wp2_with fail
      (with_reducible refine (specEl g _).mono ?_); rintro e w1 ⟨rfl, rfl⟩
      go_wp2
      go_ret2
      exact ⟨by rw [HC.out, HR.out]; rfl, Below.refl _ _⟩
/-- A reduced exponent. -/
def inR (n : Int) : Bool := decide (0 ≤ n ∧ n ≤ 1018)
theorem inR_t {n : Int} (h0 : 0 ≤ n) (h1 : n ≤ 1018) : inR n = true := decide_eq_true ⟨h0, h1⟩
theorem specInR (n : Int) (w : World) : Calls Try.prog 37 #[.int .i64 n, .int .i64 0, .int .i64 1018] w fun e w' => e = .returned (.bool (inR n)) ∧ w = w' := by
  by_cases h : 0 ≤ n ∧ n ≤ 1018
  · rw [show inR n = true from decide_eq_true h]; exact C1.specIn_t n 0 1018 w h.1 h.2
  · rw [show inR n = false from decide_eq_false h]; exact C1.specIn_f n 0 1018 w (by omega)
theorem implInR (n : Int) (w : World) : Calls Try.prog 47 #[.int .i64 n] w fun e w' => e = .returned (.bool (inR n)) ∧ w = w' := by
  have HI : Calls Try.prog 42 #[.int .i64 n, .int .i64 0, .int .i64 1018] w fun e w' => e = .returned (.bool (inR n)) ∧ w = w' := by
    by_cases h : 0 ≤ n ∧ n ≤ 1018
    · rw [show inR n = true from decide_eq_true h]; exact C1.implIn_t n 0 1018 w h.1 h.2
    · rw [show inR n = false from decide_eq_false h]; exact C1.implIn_f n 0 1018 w (by omega)
  have H := Lib.hid HI
  clear HI
  go_enter Try.func47, Try.ntmps47
  go_wp2_with fail
  (refine H.out.mono ?_); rintro e w1 ⟨rfl, rfl⟩
  go_wp2
  go_ret
  exact ⟨rfl, rfl⟩
/-- What VerifyEqual gives. -/
def vch (g h u v c r : Int) : Int := chal [g, h, u, v, ml (pw g r) (pw u c), ml (pw h r) (pw v c)]
def vok (g h u v c r : Int) : Bool := (((((el g && el h) && el u) && el v) && inR c) && inR r)
def ver (g h u v c r : Int) : Bool := vok g h u v c r && (c == vch g h u v c r)
theorem vok_parts {g h u v c r : Int} (h0 : vok g h u v c r = true) : isEl g ∧ isEl h ∧ isEl u ∧ isEl v ∧ (0 ≤ c ∧ c ≤ 1018) ∧ (0 ≤ r ∧ r ≤ 1018) := by
  unfold vok at h0
  simp only [Bool.and_eq_true] at h0
  obtain ⟨⟨⟨⟨⟨h1, h2⟩, h3⟩, h4⟩, h5⟩, h6⟩ := h0
  exact ⟨of_decide_eq_true h1, of_decide_eq_true h2, of_decide_eq_true h3, of_decide_eq_true h4, of_decide_eq_true h5, of_decide_eq_true h6⟩
theorem ok_ver {g h u v c r : Int} (h0 : vok g h u v c r = true) : okInts [g, h, u, v, ml (pw g r) (pw u c), ml (pw h r) (pw v c)] := by
  obtain ⟨a, b, c, d, _⟩ := vok_parts h0
  exact ok6 ⟨by have := a.lo; omega, a.hi⟩ ⟨by have := b.lo; omega, b.hi⟩ ⟨by have := c.lo; omega, c.hi⟩ ⟨by have := d.lo; omega, d.hi⟩ (ml_in _ _) (ml_in _ _)
theorem els_four (a b c d : Int) (w : World) (z : Bool) (hz : (((el a && el b) && el c) && el d) = z) : Calls Try.prog 41 #[.slice (some ⟨w.heap.size, 0, none⟩) 4 4] (w.alloc (.cells #[.int .i64 a, .int .i64 b, .int .i64 c, .int .i64 d] 3)) (Gives (.bool z) w) := by
  have hr : Rd (w.alloc (.cells #[.int .i64 a, .int .i64 b, .int .i64 c, .int .i64 d] 3)) (w.alloc (.cells #[.int .i64 a, .int .i64 b, .int .i64 c, .int .i64 d] 3)).heap.size 1 (some ⟨w.heap.size, 0, none⟩) 4 (ints .i64 [a, b, c, d]) :=
    Rd.own (own_lit w #[.int .i64 a, .int .i64 b, .int .i64 c, .int .i64 d] 4 w.heap.size 3 (Nat.le_refl _) rfl (by unfold maxLen; omega))
  refine (implEls _ _ 4 4 [a, b, c, d] hr (by omega)).mono fun e w' h => ⟨?_, C3.below_al h.2⟩
  rw [h.1, ← hz]; simp [Bool.and_assoc]
set_option maxHeartbeats 1600000 in
set_option maxRecDepth 100000 in
theorem implVerify (g h u v c r : Int) (w : World) : Calls Try.prog 27 #[.int .i64 g, .int .i64 h, .int .i64 u, .int .i64 v, .int .i64 c, .int .i64 r] w (Gives (.bool (ver g h u v c r)) w) := by
  cases hk : vok g h u v c r
  · have HV := Lib.hid (show ver g h u v c r = false by unfold ver; rw [hk]; rfl)
    unfold vok at hk
    have HZ := Lib.hid (els_four g h u v w _ rfl)
    obtain ⟨z, hz⟩ : ∃ z, z = (((el g && el h) && el u) && el v) := ⟨_, rfl⟩
    rw [← hz] at hk HZ
    clear hz
    cases z
    · go_enter Try.func27, Try.ntmps27
      go_wp2_with fail
      (refine HZ.out.mono ?_); rintro e w1 ⟨rfl, HB⟩
      go_wp2
      go_ret
      exact ⟨by rw [HV.out]; rfl, HB⟩
    · rw [Bool.true_and] at hk
      cases hc : inR c
      · clear hk
        go_enter Try.func27, Try.ntmps27
        go_wp2_with fail
        (refine HZ.out.mono ?_); rintro e w1 ⟨rfl, HB⟩
        go_wp2_with fail
        (with_reducible refine (implInR c _).mono ?_); rintro e w2 ⟨rfl, rfl⟩
        go_wp2
        go_ret
        exact ⟨by rw [HV.out]; rfl, HB⟩
      · rw [hc, Bool.true_and] at hk
        go_enter Try.func27, Try.ntmps27
        go_wp2_with fail
        (refine HZ.out.mono ?_); rintro e w1 ⟨rfl, HB⟩
        go_wp2_with fail
        (with_reducible refine (implInR c _).mono ?_); rintro e w2 ⟨rfl, rfl⟩
        go_wp2_with fail
        (with_reducible refine (implInR r _).mono ?_); rintro e w2 ⟨rfl, rfl⟩
        go_wp2
        go_ret
        exact ⟨by rw [HV.out]; rfl, HB⟩
  · have HV := Lib.hid (show ver g h u v c r = (c == vch g h u v c r) by unfold ver; rw [hk]; rfl)
    have HOK := Lib.hid (ok_ver hk)
    obtain ⟨p1, p2, p3, p4, ⟨c0, c1⟩, ⟨r0, r1⟩⟩ := vok_parts hk
    have HZ := Lib.hid (els_four g h u v w true (by rw [el_t p1, el_t p2, el_t p3, el_t p4]; rfl))
    have hc := inR_t c0 c1
    have hr := inR_t r0 r1
    clear hk p1 p2 p3 p4
    obtain ⟨z, hz⟩ : ∃ z, z = vch g h u v c r := ⟨_, rfl⟩
    rw [← hz] at HV
    have HCH := Lib.hid (show z = chal [g, h, u, v, ml (pw g r) (pw u c), ml (pw h r) (pw v c)] from hz)
    clear hz
    go_enter Try.func27, Try.ntmps27
    go_wp2_with fail
    (refine HZ.out.mono ?_); rintro e w1 ⟨rfl, HB⟩
    go_wp2_with fail
    (with_reducible refine (implInR c _).mono ?_); rintro e w2 ⟨rfl, rfl⟩
    go_wp2_with fail
    (with_reducible refine (implInR r _).mono ?_); rintro e w2 ⟨rfl, rfl⟩
    go_wp2_with fail
    (with_reducible refine (implPow g r _ (by omega) (by omega)).mono ?_); rintro e w2 ⟨rfl, b2⟩
    replace HB := HB.trans (b2.mono HB.size)
    go_wp2_with fail
    (with_reducible refine (implPow u c _ (by omega) (by omega)).mono ?_); rintro e w3 ⟨rfl, b3⟩
    replace HB := HB.trans (b3.mono HB.size)
    go_wp2_with fail
    (with_reducible refine (implMul _ _ _).mono ?_); rintro e w4 ⟨rfl, b4⟩
    replace HB := HB.trans (b4.mono HB.size)
    go_wp2_with fail
    (with_reducible refine (implPow h r _ (by omega) (by omega)).mono ?_); rintro e w5 ⟨rfl, b5⟩
    replace HB := HB.trans (b5.mono HB.size)
    go_wp2_with fail
    (with_reducible refine (implPow v c _ (by omega) (by omega)).mono ?_); rintro e w6 ⟨rfl, b6⟩
    replace HB := HB.trans (b6.mono HB.size)
    go_wp2_with fail
    (with_reducible refine (implMul _ _ _).mono ?_); rintro e w7 ⟨rfl, b7⟩
    replace HB := HB.trans (b7.mono HB.size)
    go_wp2_with fail
    (refine (implChal6 w7 g h u v _ _ z HCH.out HOK.out).mono ?_); rintro e w8 ⟨rfl, b8⟩
    replace HB := HB.trans (b8.mono HB.size)
    go_wp2
    go_ret
    exact ⟨by rw [HV.out]; rfl, HB⟩
set_option maxHeartbeats 1600000 in
set_option maxRecDepth 100000 in
theorem specVerify_f (g h u v c r : Int) (w : World) (hk : vok g h u v c r = false) : Calls Try.prog 28 #[.int .i64 g, .int .i64 h, .int .i64 u, .int .i64 v, .int .i64 c, .int .i64 r] w fun e w' => e = .returned (.bool false) ∧ w = w' := by
  unfold vok at hk
  have hcases : el g = false ∨ (el g = true ∧ el h = false) ∨ (el g = true ∧ el h = true ∧ el u = false) ∨ (el g = true ∧ el h = true ∧ el u = true ∧ el v = false) ∨ (el g = true ∧ el h = true ∧ el u = true ∧ el v = true ∧ inR c = false) ∨ (el g = true ∧ el h = true ∧ el u = true ∧ el v = true ∧ inR c = true ∧ inR r = false) := by
    revert hk
    cases el g <;> cases el h <;> cases el u <;> cases el v <;> cases inR c <;> cases inR r <;> simp
  clear hk
  rcases hcases with h1 | ⟨h1, h2⟩ | ⟨h1, h2, h3⟩ | ⟨h1, h2, h3, h4⟩ | ⟨h1, h2, h3, h4, h5⟩ | ⟨h1, h2, h3, h4, h5, h6⟩
  all_goals
    go_enter Try.func28, Try.ntmps28
    go_wp2_with (first | (go_at_call 15; (with_reducible refine (specEl _ _).mono ?_); rintro e w' ⟨rfl, rfl⟩) | (go_at_call 37; (with_reducible refine (specInR _ _).mono ?_); rintro e w' ⟨rfl, rfl⟩))
    go_ret
    exact ⟨rfl, rfl⟩
set_option maxHeartbeats 1600000 in
set_option maxRecDepth 100000 in
theorem specVerify (g h u v c r : Int) (w : World) : Calls Try.prog 28 #[.int .i64 g, .int .i64 h, .int .i64 u, .int .i64 v, .int .i64 c, .int .i64 r] w (Gives (.bool (ver g h u v c r)) w) := by
  cases hk : vok g h u v c r
  · have HV := Lib.hid (show ver g h u v c r = false by unfold ver; rw [hk]; rfl)
    exact (specVerify_f g h u v c r w hk).mono fun _ _ ⟨he, hw⟩ => ⟨by rw [HV.out]; exact he, hw ▸ Below.refl _ _⟩
  · have HV := Lib.hid (show ver g h u v c r = (c == vch g h u v c r) by unfold ver; rw [hk]; rfl)
    have HOK := Lib.hid (ok_ver hk)
    obtain ⟨p1, p2, p3, p4, ⟨c0, c1⟩, ⟨r0, r1⟩⟩ := vok_parts hk
    have e1 := el_t p1
    have e2 := el_t p2
    have e3 := el_t p3
    have e4 := el_t p4
    have hc := inR_t c0 c1
    have hr := inR_t r0 r1
    clear hk p1 p2 p3 p4
    obtain ⟨z, hz⟩ : ∃ z, z = vch g h u v c r := ⟨_, rfl⟩
    rw [← hz] at HV
    have HCH := Lib.hid (show z = chal [g, h, u, v, ml (pw g r) (pw u c), ml (pw h r) (pw v c)] from hz)
    clear hz
    go_enter Try.func28, Try.ntmps28
    go_wp2_with fail
    (with_reducible refine (specEl g _).mono ?_); rintro e w1 ⟨rfl, rfl⟩
    go_wp2_with fail
    (with_reducible refine (specEl h _).mono ?_); rintro e w1 ⟨rfl, rfl⟩
    go_wp2_with fail
    (with_reducible refine (specEl u _).mono ?_); rintro e w1 ⟨rfl, rfl⟩
    go_wp2_with fail
    (with_reducible refine (specEl v _).mono ?_); rintro e w1 ⟨rfl, rfl⟩
    go_wp2_with fail
    (with_reducible refine (specInR c _).mono ?_); rintro e w2 ⟨rfl, rfl⟩
    go_wp2_with fail
    (with_reducible refine (specInR r _).mono ?_); rintro e w2 ⟨rfl, rfl⟩
    go_wp2_with fail
    (with_reducible refine (specPow g r _ (by omega) (by omega)).mono ?_); rintro e w2 ⟨rfl, rfl⟩
    go_wp2_with fail
    (with_reducible refine (specPow u c _ (by omega) (by omega)).mono ?_); rintro e w3 ⟨rfl, rfl⟩
    go_wp2_with fail
    (with_reducible refine (specMul _ _ _).mono ?_); rintro e w4 ⟨rfl, rfl⟩
    go_wp2_with fail
    (with_reducible refine (specPow h r _ (by omega) (by omega)).mono ?_); rintro e w5 ⟨rfl, rfl⟩
    go_wp2_with fail
    (with_reducible refine (specPow v c _ (by omega) (by omega)).mono ?_); rintro e w6 ⟨rfl, rfl⟩
    go_wp2_with fail
    (with_reducible refine (specMul _ _ _).mono ?_); rintro e w7 ⟨rfl, rfl⟩
    go_wp2_with fail
    (refine (specChal6 w g h u v _ _ z HCH.out HOK.out).mono ?_); rintro e w8 ⟨rfl, b8⟩
    go_wp2
    go_ret
    exact ⟨by rw [HV.out]; rfl, b8⟩
end Go.Proofs.Yteobifdbalgoaaa.C4d
