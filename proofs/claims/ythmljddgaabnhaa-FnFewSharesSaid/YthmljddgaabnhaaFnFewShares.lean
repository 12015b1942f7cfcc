/-
  laws.FnFewShares returns true at every code, and leaves it as it was: of three shares out of a polynomial of degree three, with whatever secret, there is a fourth at 5, and the four yield that secret; the weights of four indices add up to 1. Conditions: none.
-/
import Derived.Test.YthmljddgaabnhaaFr
import Derived.Stop.Joined
import Derived.Test.YthmljddgaabnhaaC0
import Derived.Test.YthmljddgaabnhaaCd
import Derived.Test.YthmljddgaabnhaaSo
import Derived.Test.YthmljddgaabnhaaL0
import Derived.Test.YthmljddgaabnhaaM7
import Derived.Deep.AppendLies
import Derived.Deep.RegionLaw
namespace Go.Proofs.Ythmljddgaabnhaa.fnFewShares
open Go.ChangeShapes Go.WideShapes Go.ChangeAt Go.RowKit
set_option linter.unusedVariables false

open S0 S1 S3 C3 M4 M5 C5 C5b C5c C5d C5e C5g M6 M7
theorem apart1230 : ¬ dup [1, 2, 3, 0] 4 := by
  rintro ⟨i, j, hij, hj, e⟩
  have h1 : j = 1 ∨ j = 2 ∨ j = 3 := by omega
  have h2 : i = 0 ∨ i = 1 ∨ i = 2 := by omega
  rcases h1 with rfl | rfl | rfl <;> rcases h2 with rfl | rfl | rfl <;> first | omega | exact absurd e (by decide)
theorem apart1235 : ¬ dup [1, 2, 3, 5] 4 := by
  rintro ⟨i, j, hij, hj, e⟩
  have h1 : j = 1 ∨ j = 2 ∨ j = 3 := by omega
  have h2 : i = 0 ∨ i = 1 ∨ i = 2 := by omega
  rcases h1 with rfl | rfl | rfl <;> rcases h2 with rfl | rfl | rfl <;> first | omega | exact absurd e (by decide)
theorem apart1346 : ¬ dup [1, 3, 4, 6] 4 := by
  rintro ⟨i, j, hij, hj, e⟩
  have h1 : j = 1 ∨ j = 2 ∨ j = 3 := by omega
  have h2 : i = 0 ∨ i = 1 ∨ i = 2 := by omega
  rcases h1 with rfl | rfl | rfl <;> rcases h2 with rfl | rfl | rfl <;> first | omega | exact absurd e (by decide)
theorem lw_wc {is : List Int} {n k : Nat} (t : Int) (hl : is.length = n) (hk : k < n) (hd : ¬ dup is n) : lw is (k : Int) t = wc is k t n := by
  subst hl
  rw [lw_t t hk hd, wt_wc]
/-- The value at 5 through three shares and the secret, and back. -/
def fifth (a b c s : Int) : Int := (a * 15 + b * 999 + c * 10 + s * 1015) % 1019
theorem fifth_in (a b c s : Int) : 0 ≤ fifth a b c s ∧ fifth a b c s ≤ 1018 := by unfold fifth; omega
theorem three (P : Int → Int) : shl 0 3 P = [1, P 1, 2, P 2, 3, P 3] := rfl
theorem mis3 (P : Int → Int) (hP : ∀ x, 0 ≤ P x ∧ P x ≤ 1018) : mis (shl 0 3 P) 3 5 := by
  refine ⟨.inr (are_shl P (by omega) (by omega) hP), by omega, by omega, ?_⟩
  rintro ⟨k, hk, e⟩
  rw [shl_ix 0 3 P k hk] at e
  omega
theorem few_fifth (P : Int → Int) (s : Int) (hP : ∀ x, 0 ≤ P x ∧ P x ≤ 1018) (h0 : 0 ≤ s) (h1 : s ≤ 1018) : thr ([0, s] ++ shl 0 3 P) (1 + 3) 5 = fifth (P 1) (P 2) (P 3) s := by
  rw [← missing_sum s (mis3 P hP), fsum_dot (vls_len _ _) (lws_len _ _ _), shl_ixs]
  obtain ⟨e0, e1, e2, e3⟩ := few5
  have a0 : lw (rng 0 3 ++ [0]) ((0 : Nat) : Int) 5 = 15 := (lw_wc (is := [1, 2, 3, 0]) (n := 4) 5 rfl (by omega) apart1230).trans e0
  have a1 : lw (rng 0 3 ++ [0]) ((1 : Nat) : Int) 5 = 999 := (lw_wc (is := [1, 2, 3, 0]) (n := 4) 5 rfl (by omega) apart1230).trans e1
  have a2 : lw (rng 0 3 ++ [0]) ((2 : Nat) : Int) 5 = 10 := (lw_wc (is := [1, 2, 3, 0]) (n := 4) 5 rfl (by omega) apart1230).trans e2
  have a3 : lw (rng 0 3 ++ [0]) ((3 : Nat) : Int) 5 = 1015 := (lw_wc (is := [1, 2, 3, 0]) (n := 4) 5 rfl (by omega) apart1230).trans e3
  have el : lws (rng 0 3 ++ [0]) 5 3 = [15, 999, 10] := by
    show [lw (rng 0 3 ++ [0]) ((0 : Nat) : Int) 5, lw (rng 0 3 ++ [0]) ((1 : Nat) : Int) 5, lw (rng 0 3 ++ [0]) ((2 : Nat) : Int) 5] = _
    rw [a0, a1, a2]
  have ev : vls (shl 0 3 P) 3 = [P 1, P 2, P 3] := rfl
  rw [el, ev, a3]
  unfold fifth
  simp only [dot]
  omega
theorem ix4 (P : Int → Int) (v : Int) : ixs (shl 0 3 P ++ [5, v]) 4 = [1, 2, 3, 5] := rfl
theorem few_back (P : Int → Int) (v : Int) : thr (shl 0 3 P ++ [5, v]) 4 0 = (P 1 * 768 + P 2 * 1014 + P 3 * 512 + v * 764) % 1019 := by
  rw [thr_dot, ix4]
  obtain ⟨e0, e1, e2, e3⟩ := few0
  have a0 : lw [1, 2, 3, 5] ((0 : Nat) : Int) 0 = 768 := (lw_wc (is := [1, 2, 3, 5]) (n := 4) 0 rfl (by omega) apart1235).trans e0
  have a1 : lw [1, 2, 3, 5] ((1 : Nat) : Int) 0 = 1014 := (lw_wc (is := [1, 2, 3, 5]) (n := 4) 0 rfl (by omega) apart1235).trans e1
  have a2 : lw [1, 2, 3, 5] ((2 : Nat) : Int) 0 = 512 := (lw_wc (is := [1, 2, 3, 5]) (n := 4) 0 rfl (by omega) apart1235).trans e2
  have a3 : lw [1, 2, 3, 5] ((3 : Nat) : Int) 0 = 764 := (lw_wc (is := [1, 2, 3, 5]) (n := 4) 0 rfl (by omega) apart1235).trans e3
  have el : lws [1, 2, 3, 5] 0 4 = [768, 1014, 512, 764] := by
    show [lw [1, 2, 3, 5] ((0 : Nat) : Int) 0, lw [1, 2, 3, 5] ((1 : Nat) : Int) 0, lw [1, 2, 3, 5] ((2 : Nat) : Int) 0, lw [1, 2, 3, 5] ((3 : Nat) : Int) 0] = _
    rw [a0, a1, a2, a3]
  have ev : vls (shl 0 3 P ++ [5, v]) 4 = [P 1, P 2, P 3, v] := rfl
  rw [el, ev]
  simp only [dot]
  omega
theorem few_all (P : Int → Int) (s : Int) (h0 : 0 ≤ s) (h1 : s ≤ 1018) : thr (shl 0 3 P ++ [5, fifth (P 1) (P 2) (P 3) s]) 4 0 = s := by
  rw [few_back]
  unfold fifth
  rw [few]
  omega
theorem are4 (P : Int → Int) (v : Int) (hP : ∀ x, 0 ≤ P x ∧ P x ≤ 1018) (v0 : 0 ≤ v) (v1 : v ≤ 1018) : are (shl 0 3 P ++ [5, v]) 4 := by
  refine ⟨by omega, by omega, fun k hk => ?_, by rw [ix4]; exact apart1235⟩
  have h : k = 0 ∨ k = 1 ∨ k = 2 ∨ k = 3 := by omega
  rcases h with rfl | rfl | rfl | rfl
  · exact ⟨show (1 : Int) ≤ 1 by omega, show (1 : Int) ≤ 7 by omega, (hP 1).1, (hP 1).2⟩
  · exact ⟨show (1 : Int) ≤ 2 by omega, show (2 : Int) ≤ 7 by omega, (hP 2).1, (hP 2).2⟩
  · exact ⟨show (1 : Int) ≤ 3 by omega, show (3 : Int) ≤ 7 by omega, (hP 3).1, (hP 3).2⟩
  · exact ⟨show (1 : Int) ≤ 5 by omega, show (5 : Int) ≤ 7 by omega, v0, v1⟩
theorem ok4 (P : Int → Int) (v : Int) (hP : ∀ x, 0 ≤ P x ∧ P x ≤ 1018) (v0 : 0 ≤ v) (v1 : v ≤ 1018) : okInts (shl 0 3 P ++ [5, v]) :=
  (shl_ok P (by omega) hP).app ((okInts.app (okInts.one (by omega) (by omega)) (okInts.one (x := v) (by omega) (by omega)) : okInts ([5] ++ [v])))
theorem mis_is (w : World) (s V : Int) (A : Option Addr) (c : Nat) (P : Int → Int) (hP : ∀ x, 0 ≤ P x ∧ P x ≤ 1018) (h0 : 0 ≤ s) (h1 : s ≤ 1018) (hr : Rd w w.heap.size 2 A 3 (ints .i64 (shl 0 3 P))) (hV : fifth (P 1) (P 2) (P 3) s = V) :
    Calls Try.prog 18 #[.slice A 3 c, .int .i64 s, .int .i64 5] w (Gives (.tuple #[.agg #[.int .i64 5, .int .i64 V], .bool true]) w) := by
  have h := missing w s 5 A 3 c _ (by omega) (by omega) hr (shl_ok P (by omega) hP) (mis3 P hP)
  rw [few_fifth P s hP h0 h1, hV] at h
  exact h
theorem back_is (w : World) (s V : Int) (A : Option Addr) (c : Nat) (P : Int → Int) (hP : ∀ x, 0 ≤ P x ∧ P x ≤ 1018) (h0 : 0 ≤ s) (h1 : s ≤ 1018) (hV : fifth (P 1) (P 2) (P 3) s = V) (hr : Rd w w.heap.size 2 A 4 (ints .i64 (shl 0 3 P ++ [5, V]))) :
    Calls Try.prog 17 #[.slice A 4 c, .int .i64 0] w (Gives (.tuple #[.int .i64 s, .bool true]) w) := by
  obtain ⟨v0, v1⟩ := fifth_in (P 1) (P 2) (P 3) s
  rw [hV] at v0 v1
  have h := interpolate w 0 A 4 c _ (by omega) (by omega) hr (ok4 P V hP v0 v1) (by omega) (are4 P V hP v0 v1)
  have e := few_all P s h0 h1
  rw [hV] at e
  rw [e] at h
  exact h
/-- The weights of 1, 3, 4, 6 added up. -/
def acc (t : Int) : Nat → Int
  | 0 => 0
  | k + 1 => acc t k + wc [1, 3, 4, 6] k t 4
theorem wc_in (is : List Int) (k : Nat) (t : Int) (n : Nat) : 0 ≤ wc is k t n ∧ wc is k t n ≤ 1018 := by rw [← wt_wc]; exact wt_in _ _ _ _
theorem acc_in (t : Int) (k : Nat) : 0 ≤ acc t k ∧ acc t k ≤ 1018 * k := by
  induction k with
  | zero => simp [acc]
  | succ k ih =>
    have h := wc_in [1, 3, 4, 6] k t 4
    unfold acc
    omega
theorem acc_one (t : Nat) (ht : t < 256) : acc (t : Int) 4 % 1019 = 1 := by
  have h := ones t ht
  have e : acc (t : Int) 4 = wc [1, 3, 4, 6] 0 (t : Int) 4 + wc [1, 3, 4, 6] 1 (t : Int) 4 + wc [1, 3, 4, 6] 2 (t : Int) 4 + wc [1, 3, 4, 6] 3 (t : Int) 4 := by
    show 0 + wc [1, 3, 4, 6] 0 (t : Int) 4 + wc [1, 3, 4, 6] 1 (t : Int) 4 + wc [1, 3, 4, 6] 2 (t : Int) 4 + wc [1, 3, 4, 6] 3 (t : Int) 4 = _
    omega
  rw [e]; exact h
theorem weight_is (w : World) (k : Nat) (t z : Int) (ht0 : 0 ≤ t) (ht1 : t ≤ 255) (A : Option Addr) (c : Nat) (hk : k < 4) (hr : Rd w w.heap.size 1 A 4 (ints .i64 [1, 3, 4, 6])) (hz : wc [1, 3, 4, 6] k t 4 = z) :
    Calls Try.prog 19 #[.slice A 4 c, .int .i64 (k : Int), .int .i64 t] w (Gives (.int .i64 z) w) := by
  have hok : okInts [1, 3, 4, 6] := by
    intro x hx
    simp only [List.mem_cons, List.not_mem_nil, or_false] at hx
    rcases hx with rfl | rfl | rfl | rfl <;> omega
  have h := weight w (k : Int) t (by omega) (by omega) A 4 c [1, 3, 4, 6] hr hok (by omega)
  rw [lw_wc (is := [1, 3, 4, 6]) (n := 4) t rfl hk apart1346, hz] at h
  exact h
theorem sec_is (w : World) (s : Int) (A : Option Addr) (m c n : Nat) (cs : List Int) (hs0 : -9223372036854775808 ≤ s) (hs1 : s ≤ 9223372036854775807) (hr : Rd w w.heap.size 1 A m (ints .i64 cs)) (hok : okInts cs) (hn : n ≤ 7) (hmn : m < n) :
    Calls Try.prog 13 #[.int .i64 s, .slice A m c, .int .i64 n] w (MadeS 34 2 n (ints .i64 (shl 0 n (poly s cs))) w) := by
  rw [← sec_shl]
  exact shareSecret w s A m c n cs hs0 hs1 hr hok hn hmn
/-- append of shares that lie somewhere, as a step of a region that draws its order. -/
theorem stepApp (w : World) {ops : Array Oper} {o : Oper} {a : Act} {K : Act → World → Prop} {Q : Exit → Act → World → Prop} {E : Prop} (hgd : o.guard = none) (s x : Operand)
    (ho : o.op = .call { callee := .builtin .append, args := #[s, x], argTypes := #[26, 26] }) (base : Nat) (v : Value) (n : Nat) (xs : List Value) (hs : a.eval s = v) (hown : w.ownsRow base 34 2 v n xs)
    (hi b m c : Nat) (ys : List Int) (hx : a.eval x = .slice (some ⟨b, 0, none⟩) m c) (hr : Rd w hi 2 (some ⟨b, 0, none⟩) m (ints .i64 ys)) (hm : 0 < m) (h63 : n + m ≤ 4398046511104) (hbase : base ≤ w.heap.size)
    (h : ∀ v' w', w'.ownsRow base 34 2 v' (n + m) (xs ++ ints .i64 ys) → w.grownBy w' v.ownBlock → K (a.put o.dst v') w') :
    if Region.wanted o (yielded ops a.tmps) = true then Oper.wp Try.prog o a w K Q else E := by
  obtain ⟨i0, hi0, hz0, hz1, hz2⟩ := info_parts share_info
  refine step_append_lies w hgd s x 26 ho base 34 i0 (.agg #[.int .i64 0, .int .i64 0]) 2 16 Try.underlying26 hi0 hz0 hz1 hz2 rfl (by decide) v n xs hs hown ⟨b, 0, none⟩ m c (ints .i64 ys) hx hr.1 (fun j u hu => ?_) (ints_one _ _) hm (by unfold maxLen; omega) (by omega) hbase _ rfl (fun g cap w' h1 h2 _ _ => h _ _ h1 h2)
  obtain ⟨b', off', e, _, hc⟩ := hr.2 hm
  cases e
  have hj : j < m * 2 := by
    rcases Nat.lt_or_ge j (m * 2) with h2 | h2
    · exact h2
    · rw [List.getElem?_eq_none (by rw [hr.1]; exact h2)] at hu; cases hu
  have e1 : (⟨b, 0, none⟩ : Addr).add j = ⟨b, 0 + j, none⟩ := by
    unfold Addr.add
    split
    · next h0 => subst h0; rfl
    · simp
  rw [e1, hc j hj]
  exact hu
theorem cell_row {wE w6 : World} {base n b j : Nat} {v u : Value} {xs : List Value} (hg : wE.grownBy w6 v.ownBlock) (hb : b < wE.heap.size) (hne : v.ownBlock ≠ some b) (hc : wE.cell? ⟨b, j, none⟩ = some u) : w6.cell? ⟨b, j, none⟩ = some u := by
  have e : w6.heap[b]? = wE.heap[b]? := hg.block b hb (fun e => hne e.symm)
  rw [World.cell?_of_block (a := ⟨b, j, none⟩) e]
  exact hc
theorem below_row {w4 wE w6 : World} {E n : Nat} {v : Value} {xs : List Value} (hb : Below w4.heap.size w4 wE) (ho : wE.ownsRow w4.heap.size E 2 v n xs) (hg : wE.grownBy w6 v.ownBlock) : Below w4.heap.size w4 w6 :=
  hb.grown hg hb.size (fun k hk => (ho.lt k hk).1)
theorem rd_cells {w : World} {b : Nat} {x y : Int} (hb : b < w.heap.size) (h0 : w.cell? ⟨b, 0, none⟩ = some (.int .i64 x)) (h1 : w.cell? ⟨b, 1, none⟩ = some (.int .i64 y)) : Rd w w.heap.size 2 (some ⟨b, 0, none⟩) 1 (ints .i64 [x, y]) := by
  refine ⟨rfl, fun _ => ⟨b, 0, rfl, hb, fun j hj => ?_⟩⟩
  have h : j = 0 ∨ j = 1 := by omega
  rcases h with rfl | rfl
  · exact h0
  · exact h1
theorem rdBox (w : World) (x y : Int) : Rd (w.alloc (.cells #[.int .i64 x, .int .i64 y] 34)) (w.alloc (.cells #[.int .i64 x, .int .i64 y] 34)).heap.size 2 (some ⟨w.heap.size, 0, none⟩) 1 (ints .i64 [x, y]) := rd_two w _ _ _
theorem sec6 (w : World) (s : Int) (A : Option Addr) (c : Nat) (cs : List Int) (hs0 : 0 ≤ s) (hs1 : s ≤ 255) (hr : Rd w w.heap.size 1 A 3 (ints .i64 cs)) (hok : okInts cs) :
    Calls Try.prog 13 #[.int .i64 s, .slice A 3 c, .int .i64 6] w (MadeS 34 2 6 (ints .i64 (shl 0 6 (poly s cs))) w) := sec_is w s A 3 c 6 cs (by omega) (by omega) hr hok (by omega) (by omega)
theorem rd_lit (w : World) (xs : List Int) (n : Nat) (hn : xs.length = n) (hm : n ≤ 16) : Rd (w.alloc (.cells (ints .i64 xs).toArray 3)) (w.alloc (.cells (ints .i64 xs).toArray 3)).heap.size 1 (some ⟨w.heap.size, 0, none⟩) n (ints .i64 xs) := by
  have h := own_lit w (ints .i64 xs).toArray n w.heap.size 3 (Nat.le_refl _) (by rw [List.size_toArray, ints_len, hn]) (by unfold maxLen; omega)
  have h2 := Rd.own h
  rw [List.toList_toArray] at h2
  exact h2
set_option maxHeartbeats 4000000 in
set_option maxRecDepth 100000 in
theorem walkSmall (A0 : Option Addr) (n0 c0 : Nat) (xs0 : List Int) (hl : ¬ 1048576 < n0) (W : World) (hr : Rd W W.heap.size 1 A0 n0 (ints .u8 xs0)) (hx : ∀ x ∈ xs0, 0 ≤ x ∧ x ≤ 255) :
    Calls Try.prog 4 #[.slice A0 n0 c0] W fun e w' => e = .returned (.bool true) ∧ Below W.heap.size W w' := by
  have HR := Lib.hid hr
  have HX := Lib.hid hx
  have hn0 : n0 ≤ 1048576 := by omega
  have HA := Lib.hid (fun i => L0.atv_bd xs0 i hx)
  have HB : Below W.heap.size W W := Below.refl _ _
  clear hr hx
  go_enter Try.func4, Try.ntmps4
  go_wp2_with fail
  (with_reducible refine (Cd.big_no A0 n0 c0 _ hl).mono ?_); rintro e w0 ⟨rfl, rfl⟩
  go_wp2_with fail
  (with_reducible refine (L0.at_is _ A0 n0 c0 xs0 0 0 rfl (HR.out.on HB) HX.out hn0 (by omega)).mono ?_); rintro e w0 ⟨rfl, rfl⟩
  obtain ⟨x0a, x0b⟩ := HA.out 0
  obtain ⟨x0, hx0⟩ : ∃ x, x = L0.atv xs0 0 := ⟨_, rfl⟩
  rw [← hx0] at x0a x0b ⊢
  clear hx0
  go_wp2_with fail
  (with_reducible refine (L0.at_is _ A0 n0 c0 xs0 1 1 rfl (HR.out.on HB) HX.out hn0 (by omega)).mono ?_); rintro e w0 ⟨rfl, rfl⟩
  obtain ⟨x1a, x1b⟩ := HA.out 1
  obtain ⟨x1, hx1⟩ : ∃ x, x = L0.atv xs0 1 := ⟨_, rfl⟩
  rw [← hx1] at x1a x1b ⊢
  clear hx1
  go_wp2_with fail
  (with_reducible refine (L0.at_is _ A0 n0 c0 xs0 2 2 rfl (HR.out.on HB) HX.out hn0 (by omega)).mono ?_); rintro e w0 ⟨rfl, rfl⟩
  obtain ⟨x2a, x2b⟩ := HA.out 2
  obtain ⟨x2, hx2⟩ : ∃ x, x = L0.atv xs0 2 := ⟨_, rfl⟩
  rw [← hx2] at x2a x2b ⊢
  clear hx2
  go_wp2_with fail
  (with_reducible refine (L0.at_is _ A0 n0 c0 xs0 3 3 rfl (HR.out.on HB) HX.out hn0 (by omega)).mono ?_); rintro e w0 ⟨rfl, rfl⟩
  obtain ⟨x3a, x3b⟩ := HA.out 3
  obtain ⟨x3, hx3⟩ : ∃ x, x = L0.atv xs0 3 := ⟨_, rfl⟩
  rw [← hx3] at x3a x3b ⊢
  clear hx3
  have hok : okInts [x1 * 3, x2 * 2, x3] := by
    intro x hx
    simp only [List.mem_cons, List.not_mem_nil, or_false] at hx
    rcases hx with rfl | rfl | rfl <;> omega
  have HOK := Lib.hid hok
  clear hok
  have b1 : Below W.heap.size W (W.alloc (.cells #[.int .i64 (x1 * 3), .int .i64 (x2 * 2), .int .i64 x3] 3)) := (Below.refl _ _).alloc (Nat.le_refl _) _
  have r1 : Rd (W.alloc (.cells #[.int .i64 (x1 * 3), .int .i64 (x2 * 2), .int .i64 x3] 3)) (W.alloc (.cells #[.int .i64 (x1 * 3), .int .i64 (x2 * 2), .int .i64 x3] 3)).heap.size 1 (some ⟨W.heap.size, 0, none⟩) 3 (ints .i64 [x1 * 3, x2 * 2, x3]) := rd_lit W [x1 * 3, x2 * 2, x3] 3 rfl (by omega)
  have R1 := Lib.hid r1
  clear r1
  go_wp2_with fail
  (with_reducible refine (sec6 _ x0 _ _ [x1 * 3, x2 * 2, x3] x0a x0b R1.out HOK.out).mono ?_); rintro e w2 ⟨Al, cl, rfl, ol, b2⟩
  replace HB := HB.trans (b1.trans (b2.mono b1.size))
  have HP := Lib.hid (fun x => poly_in x0 [x1 * 3, x2 * 2, x3] x)
  obtain ⟨P, hP⟩ : ∃ P, P = poly x0 [x1 * 3, x2 * 2, x3] := ⟨_, rfl⟩
  rw [← hP] at ol HP
  obtain ⟨gl, hAl⟩ : ∃ g, Al = some ⟨g, 0, none⟩ := by
    obtain ⟨g, cap, hv, _⟩ := ol.form (by omega)
    injection hv with h1
    exact ⟨g, h1⟩
  subst hAl
  have hcl := (own_sh ol).cap
  have hcl2 : ((3 : Int)) ≤ (cl : Int) := by omega
  have RT := Lib.hid (fun w' (hb : Below w2.heap.size w2 w') => show Rd w' w'.heap.size 2 (some ⟨gl, 0, none⟩) 3 (ints .i64 (shl 0 3 P)) from rd_sub (k := 0) (m := 3) (Rd.own (own_below ol hb)) (by omega) (by omega))
  clear ol hP b1 b2
  go_wp2_with fail
  go_loopw [5] (fun i wr => ∃ k : Nat, k ≤ 5 ∧ i = .int .i64 k ∧ Below w2.heap.size w2 wr) (fun i _ => 5 - (intOf i).toNat)
  case atStart => exact ⟨0, by omega, rfl, Below.refl _ _⟩
  case round =>
  obtain ⟨k, hk, rfl, hb⟩ := hrel
  have hbw : Below W.heap.size W wr := HB.trans (hb.mono HB.size)
  by_cases hlt : k < 5
  · have hki : (k : Int) < 5 := by omega
    go_wp2_with fail
    (with_reducible refine (L0.at_is _ A0 n0 c0 xs0 (4 + k) (4 + (k : Int)) (by omega) (HR.out.on hbw) HX.out hn0 (by omega)).mono ?_); rintro e w0 ⟨rfl, rfl⟩
    obtain ⟨y0, y1⟩ := HA.out (4 + k)
    obtain ⟨y, hy⟩ : ∃ y, y = L0.atv xs0 (4 + k) := ⟨_, rfl⟩
    rw [← hy] at y0 y1 ⊢
    clear hy
    obtain ⟨s, hs⟩ : ∃ s, y * 4 % 1019 = s := ⟨_, rfl⟩
    have s0 : 0 ≤ s := by omega
    have s1 : s ≤ 1018 := by omega
    obtain ⟨V, hV⟩ : ∃ V, fifth (P 1) (P 2) (P 3) s = V := ⟨_, rfl⟩
    have HV := Lib.hid hV
    clear hV
    go_wp2_with fail
    (with_reducible refine (mis_is _ s V _ _ P HP.out s0 s1 (RT.out _ hb) HV.out).mono ?_); rintro e w3 ⟨rfl, b3⟩
    replace b3 := hb.trans (b3.mono hb.size)
    go_wp2_with fail
    obtain ⟨w4, hw4⟩ : ∃ w4, w4 = w3.alloc (.cells #[.int .i64 5, .int .i64 V] 34) := ⟨_, rfl⟩
    have b4 : Below w3.heap.size w3 w4 := hw4 ▸ (Below.refl _ _).alloc (Nat.le_refl _) _
    have c0 : w4.cell? ⟨w3.heap.size, 0, none⟩ = some (.int .i64 5) := by rw [hw4]; exact new_cell w3 _ _ _
    have c1 : w4.cell? ⟨w3.heap.size, 1, none⟩ = some (.int .i64 V) := by rw [hw4]; exact new_cell w3 _ _ _
    have h4s : w4.heap.size = w3.heap.size + 1 := by rw [hw4]; simp
    replace b4 := b3.trans (b4.mono b3.size)
    have hg4 : w3.heap.size < w4.heap.size := by omega
    rw [← hw4]
    clear hw4 b3 h4s
    obtain ⟨g, hg⟩ : ∃ g, g = w3.heap.size := ⟨_, rfl⟩
    rw [← hg] at c0 c1 hg4 ⊢
    clear hg
    have B1 := Lib.hid (((Below.refl w4.heap.size w4).alloc (Nat.le_refl _) (.cells #[] 34)).drew)
    have E1 := Lib.hid (show (w4.alloc (.cells #[] 34)).drew.ownsRow w4.heap.size 34 2 (.slice (some ⟨w4.heap.size, 0, none⟩) 0 0) 0 (ints .i64 []) from own_lit2 w4 #[] 0 w4.heap.size 34 (Nat.le_refl _) rfl (Nat.zero_le _))
    have R1 := Lib.hid (RT.out _ (b4.trans (B1.out.mono b4.size)))
    have B2 := Lib.hid ((((Below.refl w4.heap.size w4).alloc (Nat.le_refl _) (.cells #[] 34)).alloc (by simp) (.cells #[.int .i64 5, .int .i64 V] 34)).drew)
    have E2 := Lib.hid (show ((w4.alloc (.cells #[] 34)).alloc (.cells #[.int .i64 5, .int .i64 V] 34)).drew.ownsRow w4.heap.size 34 2 (.slice (some ⟨w4.heap.size, 0, none⟩) 0 0) 0 (ints .i64 []) from (own_lit2 w4 #[] 0 w4.heap.size 34 (Nat.le_refl _) rfl (Nat.zero_le _)).alloc _)
    have R2 := Lib.hid (RT.out _ (b4.trans (B2.out.mono b4.size)))
    have B3 := Lib.hid ((((Below.refl w4.heap.size w4).alloc (Nat.le_refl _) (.cells #[.int .i64 5, .int .i64 V] 34)).alloc (by simp) (.cells #[] 34)).drew)
    have hs1 : (w4.alloc (.cells #[.int .i64 5, .int .i64 V] 34)).heap.size = w4.heap.size + 1 := by simp
    have hs0 : (w4.alloc (.cells #[] 34)).heap.size = w4.heap.size + 1 := by simp
    have E3 := Lib.hid (show ((w4.alloc (.cells #[.int .i64 5, .int .i64 V] 34)).alloc (.cells #[] 34)).drew.ownsRow w4.heap.size 34 2 (.slice (some ⟨w4.heap.size + 1, 0, none⟩) 0 0) 0 (ints .i64 []) from hs1 ▸ own_lit2 (w4.alloc (.cells #[.int .i64 5, .int .i64 V] 34)) #[] 0 w4.heap.size 34 (by simp) rfl (Nat.zero_le _))
    have R3 := Lib.hid (RT.out _ (b4.trans (B3.out.mono b4.size)))
    have X2 := Lib.hid (show ∀ j, ((w4.alloc (.cells #[] 34)).alloc (.cells #[.int .i64 5, .int .i64 V] 34)).drew.cell? ⟨w4.heap.size + 1, j, none⟩ = #[Value.int .i64 5, .int .i64 V][j]? from fun j => hs0 ▸ new_cell (w4.alloc (.cells #[] 34)) #[.int .i64 5, .int .i64 V] 34 j)
    have X3 := Lib.hid (show ∀ j v, #[Value.int .i64 5, .int .i64 V][j]? = some v → ((w4.alloc (.cells #[.int .i64 5, .int .i64 V] 34)).alloc (.cells #[] 34)).drew.cell? ⟨w4.heap.size, j, none⟩ = some v from fun j v hv => cell_al (by simp) ((new_cell w4 #[.int .i64 5, .int .i64 V] 34 j).trans hv))
    have Z2 := Lib.hid (show ((w4.alloc (.cells #[] 34)).alloc (.cells #[.int .i64 5, .int .i64 V] 34)).drew.heap.size = w4.heap.size + 2 by simp)
    have Z3 := Lib.hid (show ((w4.alloc (.cells #[.int .i64 5, .int .i64 V] 34)).alloc (.cells #[] 34)).drew.heap.size = w4.heap.size + 2 by simp)
    clear hs0 hs1
    go_region_law (first
      | (refine stepApp _ rfl (.tmp 51) (.tmp 53) rfl w4.heap.size (.slice A6 3 c6) 3 _ (by simp [Act.eval]) O6.out _ (w4.heap.size + 1) 1 1 [5, V] (by simp [Act.eval]) RX2.out (by decide) (by decide) B6.out.size ?_
         intro v7 w7 ho7 hg7
         obtain ⟨A7, c7, rfl⟩ := own_nil_form ho7
         have B7 := Lib.hid (below_row B6.out O6.out hg7)
         have R7 := Lib.hid (show Rd w7 w7.heap.size 2 A7 4 (ints .i64 (shl 0 3 P ++ [5, V])) by have h := Rd.own ho7; rw [ints_app, ints_app, List.nil_append] at h; exact h)
         clear ho7 hg7)
      | (refine stepApp _ rfl (.tmp 51) (.tmp 53) rfl w4.heap.size (.slice A6 3 c6) 3 _ (by simp [Act.eval]) O6.out _ w4.heap.size 1 1 [5, V] (by simp [Act.eval]) RX3.out (by decide) (by decide) B6.out.size ?_
         intro v7 w7 ho7 hg7
         obtain ⟨A7, c7, rfl⟩ := own_nil_form ho7
         have B7 := Lib.hid (below_row B6.out O6.out hg7)
         have R7 := Lib.hid (show Rd w7 w7.heap.size 2 A7 4 (ints .i64 (shl 0 3 P ++ [5, V])) by have h := Rd.own ho7; rw [ints_app, ints_app, List.nil_append] at h; exact h)
         clear ho7 hg7)
      | (refine stepApp _ rfl (.tmp 49) (.tmp 50) rfl w4.heap.size (.slice (some ⟨w4.heap.size, 0, none⟩) 0 0) 0 _ (by simp [Act.eval]) E1.out _ gl 3 cl (shl 0 3 P) (by simp [Act.eval]) R1.out (by omega) (by omega) B1.out.size ?_
         intro v6 w6 ho6 hg6
         obtain ⟨A6, c6, rfl⟩ := own_nil_form ho6
         have B6 := Lib.hid (below_row B1.out E1.out hg6)
         have O6 := Lib.hid ho6
         have d0 := B6.out.cell (p := ⟨g, 0, none⟩) hg4
         rw [c0] at d0
         have d1 := B6.out.cell (p := ⟨g, 1, none⟩) hg4
         rw [c1] at d1
         have hg6' : g < w6.heap.size := Nat.lt_of_lt_of_le hg4 B6.out.size
         have M1 := True.intro
         clear ho6 hg6)
      | (refine stepApp _ rfl (.tmp 49) (.tmp 50) rfl w4.heap.size (.slice (some ⟨w4.heap.size, 0, none⟩) 0 0) 0 _ (by simp [Act.eval]) E2.out _ gl 3 cl (shl 0 3 P) (by simp [Act.eval]) R2.out (by omega) (by omega) B2.out.size ?_
         intro v6 w6 ho6 hg6
         obtain ⟨A6, c6, rfl⟩ := own_nil_form ho6
         have B6 := Lib.hid (below_row B2.out E2.out hg6)
         have O6 := Lib.hid ho6
         have RX2 := Lib.hid (rd_cells (w := w6) (b := w4.heap.size + 1) (Nat.lt_of_lt_of_le (by rw [Z2.out]; omega) hg6.size) (cell_row (base := 0) (n := 0) (xs := []) hg6 (by rw [Z2.out]; omega) (by simp [Value.ownBlock]) (X2.out 0)) (cell_row (base := 0) (n := 0) (xs := []) hg6 (by rw [Z2.out]; omega) (by simp [Value.ownBlock]) (X2.out 1)))
         clear ho6 hg6)
      | (refine stepApp _ rfl (.tmp 49) (.tmp 50) rfl w4.heap.size (.slice (some ⟨w4.heap.size + 1, 0, none⟩) 0 0) 0 _ (by simp [Act.eval]) E3.out _ gl 3 cl (shl 0 3 P) (by simp [Act.eval]) R3.out (by omega) (by omega) B3.out.size ?_
         intro v6 w6 ho6 hg6
         obtain ⟨A6, c6, rfl⟩ := own_nil_form ho6
         have B6 := Lib.hid (below_row B3.out E3.out hg6)
         have O6 := Lib.hid ho6
         have RX3 := Lib.hid (rd_cells (w := w6) (b := w4.heap.size) (Nat.lt_of_lt_of_le (by rw [Z3.out]; omega) hg6.size) (cell_row (base := 0) (n := 0) (xs := []) hg6 (by rw [Z3.out]; omega) (by simp [Value.ownBlock]) (X3.out 0 _ rfl)) (cell_row (base := 0) (n := 0) (xs := []) hg6 (by rw [Z3.out]; omega) (by simp [Value.ownBlock]) (X3.out 1 _ rfl)))
         clear ho6 hg6)
      | (refine stepApp _ rfl (.tmp 51) (.tmp 53) rfl w4.heap.size (.slice A6 3 c6) 3 _ (by simp [Act.eval]) (O6.out.alloc _) _ w6.heap.size 1 1 [5, V] (by simp [Act.eval]) (rdBox w6 5 V) (by decide) (by decide) (B6.out.alloc B6.out.size _).size ?_
         intro v7 w7 ho7 hg7
         obtain ⟨A7, c7, rfl⟩ := own_nil_form ho7
         have B7 := Lib.hid (below_row (B6.out.alloc B6.out.size _) (O6.out.alloc _) hg7)
         have R7 := Lib.hid (show Rd w7 w7.heap.size 2 A7 4 (ints .i64 (shl 0 3 P ++ [5, V])) by have h := Rd.own ho7; rw [ints_app, ints_app, List.nil_append] at h; exact h)
         clear ho7 hg7)
      | (go_simp; go_at_call 17; refine (back_is w7 s V A7 c7 P HP.out s0 s1 HV.out R7.out).mono ?_; rintro e w8 ⟨rfl, b8⟩; have HB8 := Lib.hid (B7.out.trans (b8.mono B7.out.size))))
    all_goals
      have b9 : Below w2.heap.size w2 w8 := b4.trans (HB8.out.mono b4.size)
      clear HB8 E1 E2 E3 R1 R2 R3 B1 B2 B3 X2 X3 Z2 Z3
      go_wp2
      go_roundw
      case rel => exact ⟨k + 1, by omega, by go_num, b9⟩
      case measure => simp [intOf]; omega
  have hk5 : ¬ ((k : Int) < 5) := by omega
  obtain ⟨x9a, x9b⟩ := HA.out 9
  obtain ⟨x9, hx9⟩ : ∃ x, x = L0.atv xs0 9 := ⟨_, rfl⟩
  rw [← hx9] at x9a x9b
  have HX9 := Lib.hid hx9
  have HAO := Lib.hid (show acc x9 4 % 1019 = 1 by
    have h := acc_one x9.toNat (by omega)
    rw [show ((x9.toNat : Nat) : Int) = x9 by omega] at h
    exact h)
  clear hx9
  go_wp2
  go_loopw [11, 12] (fun v i wx => ∃ j : Nat, j ≤ 4 ∧ i = .int .i64 j ∧ v = .int .i64 (acc x9 j) ∧ Below W.heap.size W wx) (fun _ i _ => 4 - (intOf i).toNat)
  case atStart => exact ⟨0, by omega, rfl, rfl, hbw⟩
  case round =>
  obtain ⟨j, hj, rfl, rfl, hbx⟩ := hrel
  obtain ⟨q0, q1⟩ := acc_in x9 j
  have hj4 : (1018 : Int) * j ≤ 4072 := by omega
  by_cases hlj : j < 4
  · have hji : (j : Int) < 4 := by omega
    obtain ⟨z0, z1⟩ := wc_in [1, 3, 4, 6] j x9 4
    have HE := Lib.hid (show acc x9 (j + 1) = acc x9 j + wc [1, 3, 4, 6] j x9 4 from rfl)
    obtain ⟨q, hq⟩ : ∃ q, q = acc x9 j := ⟨_, rfl⟩
    rw [← hq] at q0 q1 HE ⊢
    clear hq
    obtain ⟨z, hz⟩ : ∃ z, wc [1, 3, 4, 6] j x9 4 = z := ⟨_, rfl⟩
    rw [hz] at z0 z1 HE
    have HZ := Lib.hid hz
    clear hz
    have ba : Below W.heap.size W (wr.alloc (.cells #[.int .i64 1, .int .i64 3, .int .i64 4, .int .i64 6] 3)) := hbx.alloc hbx.size _
    have R4 := Lib.hid (show Rd (wr.alloc (.cells #[.int .i64 1, .int .i64 3, .int .i64 4, .int .i64 6] 3)) (wr.alloc (.cells #[.int .i64 1, .int .i64 3, .int .i64 4, .int .i64 6] 3)).heap.size 1 (some ⟨wr.heap.size, 0, none⟩) 4 (ints .i64 [1, 3, 4, 6]) from rd_lit wr [1, 3, 4, 6] 4 rfl (by omega))
    go_wp2_with fail
    (with_reducible refine (L0.at_is _ A0 n0 c0 xs0 9 9 rfl (HR.out.on ba) HX.out hn0 (by omega)).mono ?_); rintro e w0 ⟨rfl, rfl⟩
    rw [← HX9.out]
    go_wp2_with fail
    (with_reducible refine (weight_is _ j x9 z x9a x9b _ _ hlj R4.out HZ.out).mono ?_); rintro e wy ⟨rfl, by_⟩
    have bb := ba.trans (by_.mono ba.size)
    clear by_ ba
    go_wp2
    go_roundw
    case rel => exact ⟨j + 1, by omega, by go_num, by rw [HE.out], bb⟩
    case measure => simp [intOf]; omega
  obtain rfl : j = 4 := by omega
  have hq1 := HAO.out
  obtain ⟨q, hq⟩ : ∃ q, q = acc x9 4 := ⟨_, rfl⟩
  rw [← hq] at q0 q1 hq1 ⊢
  clear hq
  go_wp2
  go_ret
  exact ⟨rfl, hbx⟩
theorem walk (v0 : Value) (W : World) {H : Type} {enc : TypeId × Value → H} {b0 : Nat} {d0 : DataW H} {p0 : List MemPlace} (hv0 : Value.okWide Try.prog W .any b0 22 v0) (ht0 : DataW.Trod enc Try.prog W 0 (fun _ => true) true 22 v0 d0 p0) :
    Calls Try.prog 4 #[v0] W fun e w' => e = .returned (.bool true) ∧ Below W.heap.size W w' := by
  obtain ⟨A0, n0, c0, xs0, rfl, hr0, hm0, hx0⟩ := So.bytes hv0 ht0
  unfold maxLen at hm0
  by_cases hl : 1048576 < n0
  · clear hv0 ht0 hr0
    go_enter Try.func4, Try.ntmps4
    go_wp2_with fail
    (with_reducible refine (Cd.big_yes A0 n0 c0 _ (by omega) hl).mono ?_); rintro e w0 ⟨rfl, rfl⟩
    go_wp2
    go_ret
    exact ⟨rfl, Below.refl _ _⟩
  · exact walkSmall A0 n0 c0 xs0 hl W hr0 (fun x h => So.okI_u8 (hx0 x h))

theorem contract (H : Type) (enc : TypeId × Value → H) (W : World) (base : Nat) (args : Array Value) (ds gs : List (DataW H)) (before : List MemPlace)
    (hval : ∀ (j : Nat) t v, Try.f4.params[j]? = some t → args[j]? = some v → Value.okWide Try.prog W .any base t v)
    (hW : DataW.Whole enc Try.prog Try.f4.params.toList Rows.fnFewSharesSpec.vars false W args.toList ds gs before) :
    Calls Try.prog 4 args W fun e W' => ∃ v, e = .returned v ∧ Rows.fnFewSharesSpec.post enc Try.prog Try.f4 false true false false W args v W' := by
  have hW' := hW
  obtain ⟨p, q, hA0, hV, rfl, hfz, hnd⟩ := hW
  have hA : DataW.TrodAll enc Try.prog W 0 (fun _ => true) true Try.f4.params.toList args.toList ds p := hA0
  rw [Try.params4] at hA hval
  obtain ⟨v0, vs0, d0, ds0, p0, q0, hargs, rfl, rfl, h0, r0⟩ := trodAll_cons hA
  obtain ⟨rfl, rfl, rfl⟩ := trodAll_nil r0
  obtain rfl : args = #[v0] := by cases args; simp_all
  obtain ⟨rfl, rfl⟩ := trodVars_none hV
  clear hA0
  refine Fr.closeLaw rfl (by kernel_rfl) (by rw [Try.params4]; decide) hW' rfl ?_
  exact walk v0 W (hval 0 22 v0 rfl rfl) h0

theorem reads (os : Os) {H : Type} (enc : TypeId × Value → H) : ∃ places, DataW.whole enc Try.prog ((World.holding Try.prog os ⟨#[], #[], []⟩).forCall (fun _ _ => 0) ⟨#[], #[.slice none 0 0], []⟩).memory Try.f4.params.toList Rows.fnFewSharesSpec.vars false (#[.slice none 0 0] : Array Value).toList 8 = some ([.nil], [], places) :=
  ⟨[], by kernel_rfl⟩
set_option maxRecDepth 100000 in
theorem lifted (os : Os) (started : os.Started) (H : Type) (enc : TypeId × Value → H) (F : Stop.Interp) :
    ReturnsInHanded {} Try.checked os 4 .any ((OpenSpec.ofChange Rows.fnFewSharesSpec).preRow enc Try.prog Try.f4 Rows.fnFewSharesRow.domain false Rows.fnFewSharesRow.laid) (((OpenSpec.ofChange Rows.fnFewSharesSpec).at F).post enc Try.prog Try.f4 false true false false) := by
  obtain ⟨places, hx⟩ := reads os enc
  refine returnsInHanded_of_row (C := Try.checked) (s := OpenSpec.ofChange Rows.fnFewSharesSpec) Fr.own started (by kernel_rfl) Try.func4
    (witness_row_atRef (enc := enc) (C := Try.checked) false (World.holding Try.prog os ⟨#[], #[], []⟩) #[.slice none 0 0] rfl (by kernel_rfl) (by kernel_rfl) (by kernel_rfl)
      (OpenSpec.preRow_of_cond 8 hx (by kernel_rfl) (fun k hk => by cases hk) (by kernel_rfl) (laidMetH_nil _ _))) ?_
  intro W base args ds gs before hval hW _ hcond _ hL _ _
  exact contract H enc W base args ds gs before hval hW
theorem said : Rows.FnFewSharesSaid :=
  OpenClaim.holds_of_cond 4 Try.f4 rfl rfl rfl rfl rfl rfl rfl ⟨rfl, rfl, rfl, rfl, rfl⟩ rfl rfl rfl rfl rfl (by kernel_rfl) Try.func4 (by kernel_rfl)
    (of_decide_eq_true (by kernel_rfl)) (by unfold Func.isWrapper; first | (rw [if_pos (by decide +kernel)]; kernel_rfl) | (rw [if_neg (by decide +kernel)]; exact ⟨rfl, rfl⟩))
    (fun os started H enc _ F => by rw [OpenClaim.pre_eq_preRow]; exact lifted os started H enc F)
theorem proved : Rows.FnFewSharesSaid := said
#print axioms proved
end Go.Proofs.Ythmljddgaabnhaa.fnFewShares
