/-
  Contracts of chapter 4's hash to the group and of its proofs of equal exponents, of the program and of the model: HashToGroup, ProveEqual, VerifyEqual.
-/
import Derived.Test.YtlndcfpcgcdmgaaC4b
namespace Go.Proofs.Ytlndcfpcgcdmgaa.C4d
open Go.ChangeShapes Go.WideShapes Go.ChangeAt Go.RowKit
open S0 S1 M3 M4 C3 C4 C4b
set_option linter.unusedVariables false
theorem okInts.cons {x : Int} {xs : List Int} (h0 : -9223372036854775808 ≤ x) (h1 : x ≤ 9223372036854775807) (h : okInts xs) : okInts (x :: xs) := by
  intro z hz
  rcases List.mem_cons.1 hz with hz | hz
  · subst hz; exact ⟨h0, h1⟩
  · exact h z hz
/-- What HashToGroup gives. -/
def hx (l v : Int) : Int := 1 + khash l [89, v] * khash l [89, v] % 2147483647 % 1018
def hg (l v : Int) : Int := pw 4 (hx l v)
theorem hx_in (l v : Int) : 1 ≤ hx l v ∧ hx l v ≤ 1018 := by
  unfold hx
  have a := Int.emod_nonneg (khash l [89, v] * khash l [89, v] % 2147483647) (show (1018 : Int) ≠ 0 by omega)
  have b := Int.emod_lt_of_pos (khash l [89, v] * khash l [89, v] % 2147483647) (show (0 : Int) < 1018 by omega)
  omega
theorem hg_el (l v : Int) : isEl (hg l v) := pw_el _ el_four
theorem hg_ne (l v : Int) : hg l v ≠ 1 := pw_ne el_four (by omega) _ (by have := hx_in l v; omega)
set_option maxHeartbeats 800000 in
set_option maxRecDepth 100000 in
theorem implHash (l v : Int) (w : World) (hl0 : -9223372036854775808 ≤ l) (hl1 : l ≤ 9223372036854775807) (hv0 : -9223372036854775808 ≤ v) (hv1 : v ≤ 9223372036854775807) :
    Calls Try.prog 35 #[.int .i64 l, .int .i64 v] w (Gives (.int .i64 (hg l v)) w) := by
  have hok : okInts [89, v] := okInts.cons (by omega) (by omega) (okInts.one hv0 hv1)
  have hin := khash_in l [89, v]
  have HH := Lib.hid (hx_in l v)
  unfold hx at HH
  have HG := Lib.hid (show hg l v = pw 4 (1 + khash l [89, v] * khash l [89, v] % 2147483647 % 1018) from rfl)
  have HK := Lib.hid (implKeyed (w.alloc (.cells #[.int .i64 89, .int .i64 v] 3)) _ 2 2 [89, v] l hl0 hl1 (rd_two w 89 v) hok (by omega))
  obtain ⟨z, hz⟩ : ∃ z, z = khash l [89, v] := ⟨_, rfl⟩
  rw [← hz] at hin HH HG HK
  clear hz hok
  unfold inP at hin
  obtain ⟨z0, z1⟩ := hin
  have m0 : 0 ≤ z * z := Int.mul_nonneg z0 z0
  have m1 : z * z ≤ 2147483646 * 2147483646 := Int.mul_le_mul (by omega) (by omega) z0 (by omega)
  go_enter Try.func35, Try.ntmps35
  go_wp2_with fail
  (refine HK.out.mono ?_); rintro e w1 ⟨rfl, b1⟩
  replace b1 := below_al b1
  have y0 : 0 ≤ z * z % 2147483647 := Int.emod_nonneg _ (by omega)
  have y1 : z * z % 2147483647 < 2147483647 := Int.emod_lt_of_pos _ (by omega)
  go_wp2_with fail
  (with_reducible refine (implPow 4 (1 + z * z % 2147483647 % 1018) _ (by omega) (by omega)).mono ?_); rintro e w2 ⟨rfl, b2⟩
  go_wp2
  go_ret
  exact ⟨by rw [HG.out]; rfl, b1.trans (b2.mono b1.size)⟩
set_option maxHeartbeats 800000 in
set_option maxRecDepth 100000 in
theorem specHash (l v : Int) (w : World) (hl0 : -9223372036854775808 ≤ l) (hl1 : l ≤ 9223372036854775807) (hv0 : -9223372036854775808 ≤ v) (hv1 : v ≤ 9223372036854775807) :
    Calls Try.prog 40 #[.int .i64 l, .int .i64 v] w (Gives (.int .i64 (hg l v)) w) := by
  have hok : okInts [89, v] := okInts.cons (by omega) (by omega) (okInts.one hv0 hv1)
  have hin := khash_in l [89, v]
  have HH := Lib.hid (hx_in l v)
  unfold hx at HH
  have HG := Lib.hid (show hg l v = pw 4 (1 + khash l [89, v] * khash l [89, v] % 2147483647 % 1018) from rfl)
  have HK := Lib.hid (specKeyed (w.alloc (.cells #[.int .i64 89, .int .i64 v] 3)) _ 2 2 [89, v] l hl0 hl1 (rd_two w 89 v) hok (by omega))
  obtain ⟨z, hz⟩ : ∃ z, z = khash l [89, v] := ⟨_, rfl⟩
  rw [← hz] at hin HH HG HK
  clear hz hok
  unfold inP at hin
  obtain ⟨z0, z1⟩ := hin
  have m0 : 0 ≤ z * z := Int.mul_nonneg z0 z0
  have m1 : z * z ≤ 2147483646 * 2147483646 := Int.mul_le_mul (by omega) (by omega) z0 (by omega)
  go_enter Try.func40, Try.ntmps40
  go_wp2_with fail
  (refine HK.out.mono ?_); rintro e w1 ⟨rfl, b1⟩
  replace b1 := below_al b1
  have y0 : 0 ≤ z * z % 2147483647 := Int.emod_nonneg _ (by omega)
  have y1 : z * z % 2147483647 < 2147483647 := Int.emod_lt_of_pos _ (by omega)
  go_wp2_with fail
  (with_reducible refine (specPowB 4 (1 + z * z % 2147483647 % 1018) _ (by omega) (by omega)).mono ?_); rintro e w2 ⟨rfl, b2⟩
  go_wp2
  go_ret
  exact ⟨by rw [HG.out]; rfl, b1.trans (b2.mono b1.size)⟩
/-- The challenge of a proof. -/
def chal (xs : List Int) : Int := khash 97 xs % 1019
theorem chal_in (xs : List Int) : 0 ≤ chal xs ∧ chal xs ≤ 1018 := by unfold chal; omega
theorem ok6 {a b c d e f : Int} (ha : 0 ≤ a ∧ a ≤ 2038) (hb : 0 ≤ b ∧ b ≤ 2038) (hc : 0 ≤ c ∧ c ≤ 2038) (hd : 0 ≤ d ∧ d ≤ 2038) (he : 0 ≤ e ∧ e ≤ 2038) (hf : 0 ≤ f ∧ f ≤ 2038) : okInts [a, b, c, d, e, f] :=
  okInts.cons (by omega) (by omega) (okInts.cons (by omega) (by omega) (okInts.cons (by omega) (by omega) (okInts.cons (by omega) (by omega) (okInts.cons (by omega) (by omega) (okInts.one (by omega) (by omega))))))
/-- What ProveEqual gives of two elements. -/
def pc (g h s k : Int) : Int := chal [g, h, pw g s, pw h s, pw g k, pw h k]
def pr (g h s k : Int) : Int := (k % 1019 - pc g h s k * (s % 1019)) % 1019
/-- .. and at every argument. -/
def prC (g h s k : Int) : Int := if isEl g ∧ isEl h then pc g h s k else 0
def prR (g h s k : Int) : Int := if isEl g ∧ isEl h then pr g h s k else 0
theorem els_false {a b : Int} (h : ¬ (isEl a ∧ isEl b)) : (el a && el b) = false := by
  rw [Bool.eq_false_iff]; intro e; rw [Bool.and_eq_true] at e; exact h ⟨of_decide_eq_true e.1, of_decide_eq_true e.2⟩
/-- A reduced exponent. -/
def inR (n : Int) : Bool := decide (0 ≤ n ∧ n ≤ 1018)
theorem inR_t {n : Int} (h0 : 0 ≤ n) (h1 : n ≤ 1018) : inR n = true := decide_eq_true ⟨h0, h1⟩
theorem specInR (n : Int) (w : World) : Calls Try.prog 41 #[.int .i64 n, .int .i64 0, .int .i64 1018] w fun e w' => e = .returned (.bool (inR n)) ∧ w = w' := by
  by_cases h : 0 ≤ n ∧ n ≤ 1018
  · rw [show inR n = true from decide_eq_true h]; exact C1.specIn_t n 0 1018 w h.1 h.2
  · rw [show inR n = false from decide_eq_false h]; exact C1.specIn_f n 0 1018 w (by omega)
theorem implInR (n : Int) (w : World) : Calls Try.prog 37 #[.int .i64 n] w fun e w' => e = .returned (.bool (inR n)) ∧ w = w' := by
  have HI : Calls Try.prog 60 #[.int .i64 n, .int .i64 0, .int .i64 1018] w fun e w' => e = .returned (.bool (inR n)) ∧ w = w' := by
    by_cases h : 0 ≤ n ∧ n ≤ 1018
    · rw [show inR n = true from decide_eq_true h]; exact C1.implIn_t n 0 1018 w h.1 h.2
    · rw [show inR n = false from decide_eq_false h]; exact C1.implIn_f n 0 1018 w (by omega)
  have H := Lib.hid HI
  clear HI
  go_enter Try.func37, Try.ntmps37
  go_wp2_with fail
  (refine H.out.mono ?_); rintro e w1 ⟨rfl, rfl⟩
  go_wp2
  go_ret
  exact ⟨rfl, rfl⟩
/-- What VerifyEqual gives. -/
def vch (g h u v c r : Int) : Int := chal [g, h, u, v, ml (pw g r) (pw u c), ml (pw h r) (pw v c)]
def vok (g h u v c r : Int) : Bool := (((((el g && el h) && el u) && el v) && inR c) && inR r)
def ver (g h u v c r : Int) : Bool := vok g h u v c r && (c == vch g h u v c r)
theorem vok_parts {g h u v c r : Int} (h0 : vok g h u v c r = true) : isEl g ∧ isEl h ∧ isEl u ∧ isEl v ∧ (0 ≤ c ∧ c ≤ 1018) ∧ (0 ≤ r ∧ r ≤ 1018) := by
  unfold vok at h0
  simp only [Bool.and_eq_true] at h0
  obtain ⟨⟨⟨⟨⟨h1, h2⟩, h3⟩, h4⟩, h5⟩, h6⟩ := h0
  exact ⟨of_decide_eq_true h1, of_decide_eq_true h2, of_decide_eq_true h3, of_decide_eq_true h4, of_decide_eq_true h5, of_decide_eq_true h6⟩
theorem ok_ver {g h u v c r : Int} (h0 : vok g h u v c r = true) : okInts [g, h, u, v, ml (pw g r) (pw u c), ml (pw h r) (pw v c)] := by
  obtain ⟨a, b, c, d, _⟩ := vok_parts h0
  exact ok6 ⟨by have := a.lo; omega, a.hi⟩ ⟨by have := b.lo; omega, b.hi⟩ ⟨by have := c.lo; omega, c.hi⟩ ⟨by have := d.lo; omega, d.hi⟩ (ml_in _ _) (ml_in _ _)
theorem els_four (a b c d : Int) (w : World) (z : Bool) (hz : (((el a && el b) && el c) && el d) = z) : Calls Try.prog 59 #[.slice (some ⟨w.heap.size, 0, none⟩) 4 4] (w.alloc (.cells #[.int .i64 a, .int .i64 b, .int .i64 c, .int .i64 d] 3)) (Gives (.bool z) w) := by
  have hr : Rd (w.alloc (.cells #[.int .i64 a, .int .i64 b, .int .i64 c, .int .i64 d] 3)) (w.alloc (.cells #[.int .i64 a, .int .i64 b, .int .i64 c, .int .i64 d] 3)).heap.size 1 (some ⟨w.heap.size, 0, none⟩) 4 (ints .i64 [a, b, c, d]) :=
    Rd.own (own_lit w #[.int .i64 a, .int .i64 b, .int .i64 c, .int .i64 d] 4 w.heap.size 3 (Nat.le_refl _) rfl (by unfold maxLen; omega))
  refine (implEls _ _ 4 4 [a, b, c, d] hr (by omega)).mono fun e w' h => ⟨?_, C3.below_al h.2⟩
  rw [h.1, ← hz]; simp [Bool.and_assoc]
end Go.Proofs.Ytlndcfpcgcdmgaa.C4d
