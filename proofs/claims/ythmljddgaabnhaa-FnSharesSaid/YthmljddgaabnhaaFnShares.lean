/-
  laws.FnShares returns true at every code, and leaves it as it was: the shares of the secret and coefficients that it draws are shares; any quorum of neighbours yields the secret, before and after a refresh, and the last share. Conditions: none.
-/
import Derived.Test.YthmljddgaabnhaaFr
import Derived.Stop.Joined
import Derived.Test.YthmljddgaabnhaaC0
import Derived.Test.YthmljddgaabnhaaCd
import Derived.Test.YthmljddgaabnhaaSo
import Derived.Test.YthmljddgaabnhaaL0
import Derived.Test.YthmljddgaabnhaaM7
namespace Go.Proofs.Ythmljddgaabnhaa.fnShares
open Go.ChangeShapes Go.WideShapes Go.ChangeAt Go.RowKit
set_option linter.unusedVariables false

open S0 S1 S3 C3 M4 M5 C5 C5b C5c C5d C5e M6 M7
theorem min_is (a b m : Int) (w : World) (hm : m ≤ a ∧ m ≤ b ∧ (m = a ∨ m = b)) : Calls Try.prog 16 #[.int .i64 a, .int .i64 b] w fun e w' => e = .returned (.int .i64 m) ∧ w = w' := by
  have e : (if b < a then b else a) = m := by
    by_cases h : b < a
    · rw [if_pos h]; omega
    · rw [if_neg h]; omega
  rw [← e]
  exact C1.specMin a b w
theorem sec_is (w : World) (s : Int) (A : Option Addr) (m c n : Nat) (cs : List Int) (hs0 : -9223372036854775808 ≤ s) (hs1 : s ≤ 9223372036854775807) (hr : Rd w w.heap.size 1 A m (ints .i64 cs)) (hok : okInts cs) (hn : n ≤ 7) (hmn : m < n) :
    Calls Try.prog 13 #[.int .i64 s, .slice A m c, .int .i64 n] w (MadeS 34 2 n (ints .i64 (shl 0 n (poly s cs))) w) := by
  rw [← sec_shl]
  exact shareSecret w s A m c n cs hs0 hs1 hr hok hn hmn
theorem ref_is (w : World) (A B : Option Addr) (n c m d : Nat) (g : Int → Int) (cs : List Int) (hn1 : 1 ≤ n) (hn7 : n ≤ 7) (hg : ∀ x, 0 ≤ g x ∧ g x ≤ 1018) (hr : Rd w w.heap.size 2 A n (ints .i64 (shl 0 n g))) (hrc : Rd w w.heap.size 1 B m (ints .i64 cs)) (hokc : okInts cs) (hm : m ≤ 4294967296) :
    Calls Try.prog 15 #[.slice A n c, .slice B m d] w (MadeS 34 2 n (ints .i64 (shl 0 n (fun x => poly (g x) cs x))) w) := by
  rw [← ref_shl]
  exact refresh w A B n c m d _ cs hr (shl_ok g (by omega) hg) hrc hokc hm (are_shl g hn1 (by omega) hg)
theorem are_is (w : World) (A : Option Addr) (n c a : Nat) (g : Int → Int) (hn1 : 1 ≤ n) (hn7 : a + n ≤ 7) (hg : ∀ x, 0 ≤ g x ∧ g x ≤ 1018) (hr : Rd w w.heap.size 2 A n (ints .i64 (shl a n g))) :
    Calls Try.prog 14 #[.slice A n c] w (Gives (.bool true) w) :=
  areShares w A n c _ true ⟨fun _ => are_shl g hn1 hn7 hg, fun _ => rfl⟩ hr (shl_ok g hn7 hg) (by omega)
theorem int_is (w : World) (t v : Int) (A : Option Addr) (n c a : Nat) (g : Int → Int) (ht0 : -9223372036854775808 ≤ t) (ht1 : t ≤ 9223372036854775807) (hn1 : 1 ≤ n) (hn7 : a + n ≤ 7) (hg : ∀ x, 0 ≤ g x ∧ g x ≤ 1018) (hr : Rd w w.heap.size 2 A n (ints .i64 (shl a n g))) (hv : thr (shl a n g) n t = v) :
    Calls Try.prog 17 #[.slice A n c, .int .i64 t] w (Gives (.tuple #[.int .i64 v, .bool true]) w) := by
  subst hv
  exact interpolate w t A n c _ ht0 ht1 hr (shl_ok g hn7 hg) (by omega) (are_shl g hn1 hn7 hg)
/-- The coefficients in the making. -/
def Cf (w : World) (xs : List Int) (k : Nat) (v : Value) (wr : World) : Prop := wr.ownsRow w.heap.size 3 1 v k (ints .i64 (cfs xs k)) ∧ Below w.heap.size w wr
theorem cf_next {w wr w2 : World} {xs : List Int} {k : Nat} {v v2 : Value} {x : Int} {o : Obj} (h : Cf w xs k v wr) (hx : x = L0.atv xs (k + 2) * 4)
    (ho : w2.ownsRow w.heap.size 3 1 v2 (k + 1) (ints .i64 (cfs xs k) ++ [.int .i64 x])) (hg : (wr.alloc o).grownBy w2 v.ownBlock) : Cf w xs (k + 1) v2 w2 := by
  refine ⟨?_, (h.2.alloc h.2.size o).grown hg (by have := h.2.size; simp; omega) (fun j hj => (h.1.lt j hj).1)⟩
  rw [cfs_next, ← hx, ← ints_app]
  exact ho
theorem rd_take (w : World) (x y : Int) (m : Nat) (hm : m ≤ 2) : Rd (w.alloc (.cells #[.int .i64 x, .int .i64 y] 3)) (w.alloc (.cells #[.int .i64 x, .int .i64 y] 3)).heap.size 1 (some ⟨w.heap.size, 0, none⟩) m (ints .i64 ([x, y].take m)) := by
  refine ⟨by rw [ints_len, List.length_take]; simp; omega, fun _ => ⟨_, _, rfl, by simp, fun j hj => ?_⟩⟩
  rw [Nat.zero_add, new_cell]
  have hj2 : j = 0 ∨ j = 1 := by omega
  rcases hj2 with rfl | rfl
  · have : m = 1 ∨ m = 2 := by omega
    rcases this with rfl | rfl <;> rfl
  · obtain rfl : m = 2 := by omega
    rfl
set_option maxHeartbeats 4000000 in
set_option maxRecDepth 100000 in
theorem walkSmall (A0 : Option Addr) (n0 c0 : Nat) (xs0 : List Int) (hl : ¬ 1048576 < n0) (W : World) (hr : Rd W W.heap.size 1 A0 n0 (ints .u8 xs0)) (hx : ∀ x ∈ xs0, 0 ≤ x ∧ x ≤ 255) :
    Calls Try.prog 3 #[.slice A0 n0 c0] W fun e w' => e = .returned (.bool true) ∧ Below W.heap.size W w' := by
  have HR := Lib.hid hr
  have HX := Lib.hid hx
  have hn0 : n0 ≤ 1048576 := by omega
  have HA := Lib.hid (fun i => L0.atv_bd xs0 i hx)
  have HCF : Cf W xs0 0 (.slice (some ⟨W.heap.size, 0, none⟩) 0 0) (W.alloc (.cells #[] 3)) := ⟨own_lit W #[] 0 _ 3 (Nat.le_refl _) rfl (Nat.zero_le _), (Below.refl _ _).alloc (Nat.le_refl _) _⟩
  have HC := Lib.hid HCF
  clear hr hx HCF
  go_enter Try.func3, Try.ntmps3
  go_wp2_with fail
  (with_reducible refine (Cd.big_no A0 n0 c0 _ hl).mono ?_); rintro e w0 ⟨rfl, rfl⟩
  go_wp2_with fail
  (with_reducible refine (L0.at_is _ A0 n0 c0 xs0 0 0 rfl HR.out HX.out hn0 (by omega)).mono ?_); rintro e w0 ⟨rfl, rfl⟩
  obtain ⟨x0a, x0b⟩ := HA.out 0
  obtain ⟨x0, hx0⟩ : ∃ x, x = L0.atv xs0 0 := ⟨_, rfl⟩
  rw [← hx0] at x0a x0b ⊢
  clear hx0
  obtain ⟨t, ht⟩ : ∃ t : Nat, x0 % 4 = t := ⟨(x0 % 4).toNat, by omega⟩
  have ht3 : t ≤ 3 := by omega
  go_wp2_with fail
  (with_reducible refine (L0.at_is _ A0 n0 c0 xs0 1 1 rfl HR.out HX.out hn0 (by omega)).mono ?_); rintro e w0 ⟨rfl, rfl⟩
  obtain ⟨x1a, x1b⟩ := HA.out 1
  obtain ⟨x1, hx1⟩ : ∃ x, x = L0.atv xs0 1 := ⟨_, rfl⟩
  rw [← hx1] at x1a x1b ⊢
  clear hx1
  have hpos : (0 : Int) < 7 - (t : Int) := by omega
  have hd0 := Int.emod_nonneg x1 (show (7 - (t : Int)) ≠ 0 by omega)
  have hd1 := Int.emod_lt_of_pos x1 hpos
  obtain ⟨d, hd⟩ : ∃ d : Nat, x1 % (7 - (t : Int)) = d := ⟨(x1 % (7 - (t : Int))).toNat, by omega⟩
  obtain ⟨n, hn⟩ : ∃ n : Nat, (t : Int) + 1 + (d : Int) = n := ⟨t + 1 + d, by omega⟩
  have hn7 : n ≤ 7 := by omega
  have htn : t < n := by omega
  rw [hd] at hd0 hd1
  have hsev : IntKind.i64.wrap (7 - (t : Int)) = 7 - t := by rw [IntKind.wrap_i64]; omega
  go_wp2_with fail
  rw [hd]
  go_loopw [5, 6] (fun v i wr => ∃ k : Nat, k ≤ t ∧ i = .int .i64 k ∧ Cf W xs0 k v wr) (fun _ i _ => t - (intOf i).toNat)
  case atStart => exact ⟨0, by omega, rfl, HC.out⟩
  case round =>
  obtain ⟨k, hk, rfl, hE⟩ := hrel
  obtain ⟨A1, c1, rfl⟩ := own_nil_form hE.1
  have H := Lib.hid hE
  have HB := hE.2
  have ho := hE.1
  have hz := HB.size
  clear hE HC
  by_cases hlt : k < t
  · have hki : (k : Int) < t := by omega
    go_wp2_with fail
    (with_reducible refine (L0.at_is _ A0 n0 c0 xs0 (k + 2) ((k : Int) + 2) (by omega) (HR.out.on HB) HX.out hn0 (by omega)).mono ?_); rintro e w0 ⟨rfl, rfl⟩
    obtain ⟨y0, y1⟩ := HA.out (k + 2)
    obtain ⟨y, hy⟩ : ∃ y, y = L0.atv xs0 (k + 2) := ⟨_, rfl⟩
    rw [← hy] at y0 y1 ⊢
    have HY := Lib.hid hy
    clear hy
    go_wp2_with (at_builtin; refine appI _ rfl _ _ rfl W.heap.size _ _ _ rfl (ho.alloc _) _ _ 1 1 [.int .i64 (y * 4)] rfl (rd_one _ _ _) (one_int .i64 _) (by omega) (by simp; omega) ?_; intro v2 w2 ho2 hg2)
    go_roundw
    case rel => exact ⟨k + 1, by omega, by go_num, cf_next H.out (by rw [HY.out]) ho2 hg2⟩
    case measure => simp [intOf]; omega
  have hkt : k = t := by omega
  have HO := Lib.hid (show wr.ownsRow W.heap.size 3 1 (.slice A1 t c1) t (ints .i64 (cfs xs0 t)) from hkt ▸ ho)
  have hdt : decide (k < t) = false := by simp; omega
  have HKT := Lib.hid hkt
  clear ho H hlt
  go_wp2_with fail
  (with_reducible refine (L0.at_is _ A0 n0 c0 xs0 7 7 rfl (HR.out.on HB) HX.out hn0 (by omega)).mono ?_); rintro e w0 ⟨rfl, rfl⟩
  obtain ⟨x7a, x7b⟩ := HA.out 7
  obtain ⟨x7, hx7⟩ : ∃ x, x = L0.atv xs0 7 := ⟨_, rfl⟩
  rw [← hx7] at x7a x7b ⊢
  clear hx7
  have HCL := Lib.hid (cfs_len xs0 t)
  have HCO := Lib.hid (cfs_ok HX.out t)
  obtain ⟨cs, hcs⟩ : ∃ cs, cs = cfs xs0 t := ⟨_, rfl⟩
  rw [← hcs] at HO HCL HCO
  clear hcs
  have hs0 : 0 ≤ x7 * 3 := by omega
  have hs1 : x7 * 3 ≤ 765 := by omega
  have HKE := Lib.hid (show (Value.slice A1 k c1) = .slice A1 t c1 by rw [hkt])
  rw [HKE.out]
  clear hkt
  go_wp2_with fail
  (with_reducible refine (sec_is _ (x7 * 3) A1 t c1 n cs (by omega) (by omega) (Rd.own HO.out) HCO.out hn7 htn).mono ?_); rintro e w2 ⟨Al, cl, rfl, ol, b2⟩
  replace HB := HB.trans (b2.mono HB.size)
  have HPI := Lib.hid (fun x => poly_in (x7 * 3) cs x)
  have hn1 : 1 ≤ n := by omega
  go_wp2_with fail
  (with_reducible refine (are_is _ Al n cl 0 (poly (x7 * 3) cs) hn1 (by omega) HPI.out (Rd.own ol)).mono ?_); rintro e w3 ⟨rfl, b3⟩
  replace HB := HB.trans (b3.mono HB.size)
  replace ol := own_below ol b3
  go_wp2_with fail
  (with_reducible refine (L0.at_is _ A0 n0 c0 xs0 8 8 rfl (HR.out.on HB) HX.out hn0 (by omega)).mono ?_); rintro e w0 ⟨rfl, rfl⟩
  obtain ⟨x8a, x8b⟩ := HA.out 8
  obtain ⟨x8, hx8⟩ : ∃ x, x = L0.atv xs0 8 := ⟨_, rfl⟩
  rw [← hx8] at x8a x8b ⊢
  clear hx8
  go_wp2_with fail
  (with_reducible refine (L0.at_is _ A0 n0 c0 xs0 9 9 rfl (HR.out.on HB) HX.out hn0 (by omega)).mono ?_); rintro e w0 ⟨rfl, rfl⟩
  obtain ⟨x9a, x9b⟩ := HA.out 9
  obtain ⟨x9, hx9⟩ : ∃ x, x = L0.atv xs0 9 := ⟨_, rfl⟩
  rw [← hx9] at x9a x9b ⊢
  clear hx9
  obtain ⟨m, hm⟩ : ∃ m : Nat, m ≤ 2 ∧ m ≤ t ∧ (m = t ∨ m = 2) := by
    by_cases h : t ≤ 2
    · exact ⟨t, h, Nat.le_refl _, .inl rfl⟩
    · exact ⟨2, Nat.le_refl _, by omega, .inr rfl⟩
  go_wp2_with fail
  (with_reducible refine (min_is (t : Int) 2 (m : Int) _ (by omega)).mono ?_); rintro e w5 ⟨rfl, rfl⟩
  have b4 : Below w3.heap.size w3 (w3.alloc (.cells #[.int .i64 x8, .int .i64 x9] 3)) := (Below.refl _ _).alloc (Nat.le_refl _) _
  replace HB := HB.trans (b4.mono HB.size)
  replace ol := own_below ol b4
  have HRT := Lib.hid (rd_take w3 x8 x9 m hm.1)
  have HRO := Lib.hid (show okInts ([x8, x9].take m) from fun x hx => (okInts.app (okInts.one (by omega) (by omega)) (okInts.one (x := x9) (by omega) (by omega)) : okInts ([x8] ++ [x9])) x (List.mem_of_mem_take hx))
  have HRL := Lib.hid (show ([x8, x9].take m).length = m by rw [List.length_take]; simp; omega)
  have hm2 := hm.1
  obtain ⟨rs, hrs⟩ : ∃ rs, rs = [x8, x9].take m := ⟨_, rfl⟩
  rw [← hrs] at HRT HRO HRL
  clear hrs
  go_wp2_with fail
  (with_reducible refine (ref_is _ Al _ n cl m _ (poly (x7 * 3) cs) rs hn1 hn7 HPI.out (Rd.own ol) HRT.out HRO.out (by omega)).mono ?_); rintro e w6 ⟨Ar, cr, rfl, or, b6⟩
  replace HB := HB.trans (b6.mono HB.size)
  replace ol := own_below ol b6
  clear b2 b3 b4 b6
  go_wp2_with fail
  (with_reducible refine (L0.at_is _ A0 n0 c0 xs0 10 10 rfl (HR.out.on HB) HX.out hn0 (by omega)).mono ?_); rintro e w0 ⟨rfl, rfl⟩
  obtain ⟨xaa, xab⟩ := HA.out 10
  obtain ⟨xa, hxa⟩ : ∃ x, x = L0.atv xs0 10 := ⟨_, rfl⟩
  rw [← hxa] at xaa xab ⊢
  clear hxa
  have hpo2 : (0 : Int) < (n : Int) - t := by omega
  have hk0 := Int.emod_nonneg xa (show ((n : Int) - t) ≠ 0 by omega)
  have hk1 := Int.emod_lt_of_pos xa hpo2
  obtain ⟨q, hq⟩ : ∃ q : Nat, xa % ((n : Int) - t) = q := ⟨(xa % ((n : Int) - t)).toNat, by omega⟩
  rw [hq] at hk0 hk1
  have hnt : IntKind.i64.wrap ((n : Int) - t) = n - t := by rw [IntKind.wrap_i64]; omega
  have hql : q + t + 1 ≤ n := by omega
  have hcl := (own_sh ol).cap
  obtain ⟨gl, hAl⟩ : ∃ g, Al = some ⟨g, 0, none⟩ := by
    obtain ⟨g, cap, hv, _⟩ := ol.form (by omega)
    injection hv with h1
    exact ⟨g, h1⟩
  obtain ⟨gr, hAr⟩ : ∃ g, Ar = some ⟨g, 0, none⟩ := by
    obtain ⟨g, cap, hv, _⟩ := or.form (by omega)
    injection hv with h1
    exact ⟨g, h1⟩
  subst hAl hAr
  have hcr := (own_sh or).cap
  have OL := Lib.hid ol
  have OR := Lib.hid or
  clear ol or
  have hcs3 : cs.length ≤ 3 := by rw [HCL.out]; exact ht3
  have hrs3 : rs.length ≤ 3 := by rw [HRL.out]; omega
  have hv0 : poly (x7 * 3) cs 0 = x7 * 3 := by rw [poly_zero]; omega
  have hz0 : poly 0 rs 0 = 0 := by rw [poly_zero]; rfl
  have V1 := Lib.hid (show thr (shl q (t + 1) (poly (x7 * 3) cs)) (t + 1) 0 = x7 * 3 from (thr_poly (a := q) (m := t + 1) (t := 0) (by omega) (by omega) (by omega) cs (by rw [HCL.out]; omega) hcs3 (x7 * 3)).trans hv0)
  have V2 := Lib.hid (show thr (shl 0 n (poly (x7 * 3) cs)) n 0 = x7 * 3 from (thr_poly (a := 0) (m := n) (t := 0) (by omega) (by omega) (by omega) cs (by rw [HCL.out]; omega) hcs3 (x7 * 3)).trans hv0)
  have V3 := Lib.hid (show thr (shl q (t + 1) (fun x => poly (poly (x7 * 3) cs x) rs x)) (t + 1) 0 = x7 * 3 from (thr_ref (a := q) (m := t + 1) (t := 0) (by omega) (by omega) (by omega) cs rs (by rw [HCL.out]; omega) hcs3 (by rw [HRL.out]; omega) hrs3 (x7 * 3)).trans (by
    show (poly (x7 * 3) cs 0 + poly 0 rs 0) % 1019 = _
    rw [hv0, hz0]; omega))
  have V4 := Lib.hid (thr_poly (a := 0) (m := t + 1) (t := n) (by omega) (by omega) (by omega) cs (by rw [HCL.out]; omega) hcs3 (x7 * 3))
  have HPR := Lib.hid (fun x => poly_in (poly (x7 * 3) cs x) rs x)
  obtain ⟨p, hp⟩ : ∃ p : Nat, (n : Int) - 1 = p := ⟨n - 1, by omega⟩
  have hpn : p < n := by omega
  have hpi : (p : Int) < n := by omega
  have CI : ∀ w', Below w6.heap.size w6 w' → w'.cell? ⟨gl, p * 2, none⟩ = some (.int .i64 n) ∧ w'.cell? ⟨gl, p * 2 + 1, none⟩ = some (.int .i64 (poly (x7 * 3) cs n)) := fun w' hb => by
    have h := own_below OL.out hb
    have h0 := (stored_at2 h (p * 2) (by omega)).2.2.1
    have h1 := (stored_at2 h (p * 2 + 1) (by omega)).2.2.1
    rw [shl_ix 0 n _ p hpn] at h0
    rw [shl_vl 0 n _ p hpn] at h1
    have e : ((0 + 1 + p : Nat) : Int) = n := by omega
    rw [e] at h0 h1
    exact ⟨h0, h1⟩
  have HCI := Lib.hid CI
  have hglt := (OL.out.lt gl rfl).2
  clear hcs3 hrs3 hv0 hz0 CI
  obtain ⟨P, hP⟩ : ∃ P, P = poly (x7 * 3) cs n := ⟨_, rfl⟩
  rw [← hP] at V4 HCI
  clear hP
  have RL := Lib.hid (fun w' (hb : Below w6.heap.size w6 w') => (Rd.own (own_below OL.out hb) : Rd w' w'.heap.size 2 (some ⟨gl, 0, none⟩) n (ints .i64 (shl 0 n (poly (x7 * 3) cs)))))
  have RR := Lib.hid (fun w' (hb : Below w6.heap.size w6 w') => (Rd.own (own_below OR.out hb) : Rd w' w'.heap.size 2 (some ⟨gr, 0, none⟩) n (ints .i64 (shl 0 n (fun x => poly (poly (x7 * 3) cs x) rs x)))))
  have RQ := Lib.hid (fun w' (hb : Below w6.heap.size w6 w') => show Rd w' w'.heap.size 2 (some ⟨gl, q * 2, none⟩) (t + 1) (ints .i64 (shl q (t + 1) (poly (x7 * 3) cs))) by
    have h := rd_sub (k := q) (m := t + 1) (RL.out w' hb) (by omega) (by omega)
    rw [Nat.zero_add, Nat.zero_add] at h
    exact h)
  have RS := Lib.hid (fun w' (hb : Below w6.heap.size w6 w') => show Rd w' w'.heap.size 2 (some ⟨gr, q * 2, none⟩) (t + 1) (ints .i64 (shl q (t + 1) (fun x => poly (poly (x7 * 3) cs x) rs x))) by
    have h := rd_sub (k := q) (m := t + 1) (RR.out w' hb) (by omega) (by omega)
    rw [Nat.zero_add, Nat.zero_add] at h
    exact h)
  have RT := Lib.hid (fun w' (hb : Below w6.heap.size w6 w') => show Rd w' w'.heap.size 2 (some ⟨gl, 0, none⟩) (t + 1) (ints .i64 (shl 0 (t + 1) (poly (x7 * 3) cs))) by
    have h := rd_sub (k := 0) (m := t + 1) (RL.out w' hb) (by omega) (by omega)
    exact h)
  have EQ := Lib.hid (show q + t + 1 - q = t + 1 by omega)
  clear OL OR
  go_wp2_with fail
  rw [EQ.out]
  (with_reducible refine (int_is _ 0 (x7 * 3) _ (t + 1) _ q (poly (x7 * 3) cs) (by omega) (by omega) (by omega) (by omega) HPI.out (RQ.out _ (Below.refl _ _)) V1.out).mono ?_); rintro e w7 ⟨rfl, b7⟩
  go_wp2_with fail
  (with_reducible refine (int_is _ 0 (x7 * 3) _ n _ 0 (poly (x7 * 3) cs) (by omega) (by omega) (by omega) (by omega) HPI.out (RL.out _ b7) V2.out).mono ?_); rintro e w8 ⟨rfl, b8⟩
  replace b8 := b7.trans (b8.mono b7.size)
  clear b7
  go_wp2_with fail
  rw [EQ.out]
  (with_reducible refine (int_is _ 0 (x7 * 3) _ (t + 1) _ q (fun x => poly (poly (x7 * 3) cs x) rs x) (by omega) (by omega) (by omega) (by omega) HPR.out (RS.out _ b8) V3.out).mono ?_); rintro e w9 ⟨rfl, b9⟩
  replace b9 := b8.trans (b9.mono b8.size)
  clear b8
  obtain ⟨hci, hcv⟩ := HCI.out w9 b9
  have w1 : IntKind.i64.wrap ((t : Int) + 1) = t + 1 := by rw [IntKind.wrap_i64]; omega
  have a1 : (0 : Int) ≤ (t : Int) + 1 := by omega
  have a2 : (t : Int) + 1 ≤ (cl : Int) := by omega
  have a3 : ¬ ((t : Int) + 1 < 0) := by omega
  have a4 : ((t : Int) + 1).toNat = t + 1 := by omega
  have w2 : IntKind.i64.wrap (p : Int) = p := by rw [IntKind.wrap_i64]; omega
  have w3' : IntKind.i64.wrap ((n : Int) - 1) = p := by rw [IntKind.wrap_i64]; omega
  have a5 : (0 : Int) ≤ (p : Int) := by omega
  go_wp2_with fail
  go_region_held3 (fun wx => wx.cell? ⟨gl, p * 2, none⟩ = some (.int .i64 n)) (first | exact hci | exact hci2) (first | (go_at_call 17; refine (int_is _ (n : Int) P _ (t + 1) _ 0 (poly (x7 * 3) cs) (by omega) (by omega) (by omega) (by omega) HPI.out (RT.out _ b9.drew) V4.out).mono ?_; rintro e wa ⟨rfl, ba⟩; have hci2 := (HCI.out wa ((b9.drew).trans (ba.mono b9.drew.size))).1))
  have hba := (b9.drew).trans (ba.mono b9.drew.size)
  obtain ⟨hcj, hcw⟩ := HCI.out wa hba
  clear b9 ba hci hcv hci2
  go_wp2_with fail
  (with_reducible refine (are_is _ _ n _ 0 (fun x => poly (poly (x7 * 3) cs x) rs x) hn1 (by omega) HPR.out (RR.out _ hba)).mono ?_); rintro e wb ⟨rfl, bb⟩
  have hbz := hba.trans (bb.mono hba.size)
  go_wp2
  go_ret
  exact ⟨rfl, HB.trans (hbz.mono HB.size)⟩
theorem walk (v0 : Value) (W : World) {H : Type} {enc : TypeId × Value → H} {b0 : Nat} {d0 : DataW H} {p0 : List MemPlace} (hv0 : Value.okWide Try.prog W .any b0 22 v0) (ht0 : DataW.Trod enc Try.prog W 0 (fun _ => true) true 22 v0 d0 p0) :
    Calls Try.prog 3 #[v0] W fun e w' => e = .returned (.bool true) ∧ Below W.heap.size W w' := by
  obtain ⟨A0, n0, c0, xs0, rfl, hr0, hm0, hx0⟩ := So.bytes hv0 ht0
  unfold maxLen at hm0
  by_cases hl : 1048576 < n0
  · clear hv0 ht0 hr0
    go_enter Try.func3, Try.ntmps3
    go_wp2_with fail
    (with_reducible refine (Cd.big_yes A0 n0 c0 _ (by omega) hl).mono ?_); rintro e w0 ⟨rfl, rfl⟩
    go_wp2
    go_ret
    exact ⟨rfl, Below.refl _ _⟩
  · exact walkSmall A0 n0 c0 xs0 hl W hr0 (fun x h => So.okI_u8 (hx0 x h))

theorem contract (H : Type) (enc : TypeId × Value → H) (W : World) (base : Nat) (args : Array Value) (ds gs : List (DataW H)) (before : List MemPlace)
    (hval : ∀ (j : Nat) t v, Try.f3.params[j]? = some t → args[j]? = some v → Value.okWide Try.prog W .any base t v)
    (hW : DataW.Whole enc Try.prog Try.f3.params.toList Rows.fnSharesSpec.vars false W args.toList ds gs before) :
    Calls Try.prog 3 args W fun e W' => ∃ v, e = .returned v ∧ Rows.fnSharesSpec.post enc Try.prog Try.f3 false true false false W args v W' := by
  have hW' := hW
  obtain ⟨p, q, hA0, hV, rfl, hfz, hnd⟩ := hW
  have hA : DataW.TrodAll enc Try.prog W 0 (fun _ => true) true Try.f3.params.toList args.toList ds p := hA0
  rw [Try.params3] at hA hval
  obtain ⟨v0, vs0, d0, ds0, p0, q0, hargs, rfl, rfl, h0, r0⟩ := trodAll_cons hA
  obtain ⟨rfl, rfl, rfl⟩ := trodAll_nil r0
  obtain rfl : args = #[v0] := by cases args; simp_all
  obtain ⟨rfl, rfl⟩ := trodVars_none hV
  clear hA0
  refine Fr.closeLaw rfl (by kernel_rfl) (by rw [Try.params3]; decide) hW' rfl ?_
  exact walk v0 W (hval 0 22 v0 rfl rfl) h0

theorem reads (os : Os) {H : Type} (enc : TypeId × Value → H) : ∃ places, DataW.whole enc Try.prog ((World.holding Try.prog os ⟨#[], #[], []⟩).forCall (fun _ _ => 0) ⟨#[], #[.slice none 0 0], []⟩).memory Try.f3.params.toList Rows.fnSharesSpec.vars false (#[.slice none 0 0] : Array Value).toList 8 = some ([.nil], [], places) :=
  ⟨[], by kernel_rfl⟩
set_option maxRecDepth 100000 in
theorem lifted (os : Os) (started : os.Started) (H : Type) (enc : TypeId × Value → H) (F : Stop.Interp) :
    ReturnsInHanded {} Try.checked os 3 .any ((OpenSpec.ofChange Rows.fnSharesSpec).preRow enc Try.prog Try.f3 Rows.fnSharesRow.domain false Rows.fnSharesRow.laid) (((OpenSpec.ofChange Rows.fnSharesSpec).at F).post enc Try.prog Try.f3 false true false false) := by
  obtain ⟨places, hx⟩ := reads os enc
  refine returnsInHanded_of_row (C := Try.checked) (s := OpenSpec.ofChange Rows.fnSharesSpec) Fr.own started (by kernel_rfl) Try.func3
    (witness_row_atRef (enc := enc) (C := Try.checked) false (World.holding Try.prog os ⟨#[], #[], []⟩) #[.slice none 0 0] rfl (by kernel_rfl) (by kernel_rfl) (by kernel_rfl)
      (OpenSpec.preRow_of_cond 8 hx (by kernel_rfl) (fun k hk => by cases hk) (by kernel_rfl) (laidMetH_nil _ _))) ?_
  intro W base args ds gs before hval hW _ hcond _ hL _ _
  exact contract H enc W base args ds gs before hval hW
theorem said : Rows.FnSharesSaid :=
  OpenClaim.holds_of_cond 3 Try.f3 rfl rfl rfl rfl rfl rfl rfl ⟨rfl, rfl, rfl, rfl, rfl⟩ rfl rfl rfl rfl rfl (by kernel_rfl) Try.func3 (by kernel_rfl)
    (of_decide_eq_true (by kernel_rfl)) (by unfold Func.isWrapper; first | (rw [if_pos (by decide +kernel)]; kernel_rfl) | (rw [if_neg (by decide +kernel)]; exact ⟨rfl, rfl⟩))
    (fun os started H enc _ F => by rw [OpenClaim.pre_eq_preRow]; exact lifted os started H enc F)
theorem proved : Rows.FnSharesSaid := said
#print axioms proved
end Go.Proofs.Ythmljddgaabnhaa.fnShares
