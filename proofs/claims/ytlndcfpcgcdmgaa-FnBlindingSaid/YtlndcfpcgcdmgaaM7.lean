/-
  Runs of neighbouring shares: what they are, what lies through them, and how a part of a list of them is read.
-/
import Derived.Test.YtlndcfpcgcdmgaaC5i
import Derived.Test.YtlndcfpcgcdmgaaL0
namespace Go.Proofs.Ytlndcfpcgcdmgaa.M7
open S0 S1 S3 C3 M4 M5 C5 C5b C5c C5d C5e C5f C5g M6
set_option linter.unusedVariables false
/-- The shares a + 1 .. a + m of a function. -/
def shl (a m : Nat) (g : Int → Int) : List Int := prs (fun j => ((a + 1 + j : Nat) : Int)) (fun j => g ((a + 1 + j : Nat) : Int)) m
theorem prs_congr {f g f' g' : Nat → Int} : ∀ n, (∀ j, j < n → f j = f' j ∧ g j = g' j) → prs f g n = prs f' g' n := by
  intro n
  induction n with
  | zero => intro _; rfl
  | succ n ih =>
    intro h
    unfold prs
    rw [ih (fun j hj => h j (by omega)), (h n (by omega)).1, (h n (by omega)).2]
theorem shl_ix (a m : Nat) (g : Int → Int) (j : Nat) (hj : j < m) : (shl a m g).getD (j * 2) 0 = ((a + 1 + j : Nat) : Int) := prs_ix _ _ m j hj
theorem shl_vl (a m : Nat) (g : Int → Int) (j : Nat) (hj : j < m) : (shl a m g).getD (j * 2 + 1) 0 = g ((a + 1 + j : Nat) : Int) := prs_vl _ _ m j hj
theorem shl_len (a m : Nat) (g : Int → Int) : (shl a m g).length = m * 2 := prs_len _ _ m
theorem sec_shl (s : Int) (cs : List Int) (n : Nat) : prs shf (shg s cs) n = shl 0 n (poly s cs) :=
  prs_congr n fun j _ => by
    have e : ((0 + 1 + j : Nat) : Int) = (j : Int) + 1 := by omega
    refine ⟨e.symm, ?_⟩
    show poly s cs ((j : Int) + 1) = poly s cs ((0 + 1 + j : Nat) : Int)
    rw [e]
theorem ref_shl (a n : Nat) (g : Int → Int) (rs : List Int) : prs (rff (shl a n g)) (rfg (shl a n g) rs) n = shl a n (fun x => poly (g x) rs x) :=
  prs_congr n fun j hj => by
    unfold rff rfg
    rw [shl_ix a n g j hj, shl_vl a n g j hj]
    exact ⟨rfl, rfl⟩
theorem shl_ixs (a m : Nat) (g : Int → Int) : ixs (shl a m g) m = rng a m := prs_ixs _ _ m
theorem shl_vls (a m : Nat) (g : Int → Int) : vls (shl a m g) m = (rng a m).map g := by
  unfold shl rng
  rw [prs_vls, List.map_map]
  rfl
theorem rng_len (a m : Nat) : (rng a m).length = m := by unfold rng; rw [List.length_map, List.length_range]
theorem rng_get (a m j : Nat) (hj : j < m) : (rng a m).getD j 0 = ((a + 1 + j : Nat) : Int) := by
  unfold rng
  rw [List.getD_eq_getElem?_getD, List.getElem?_map, List.getElem?_range hj]; rfl
theorem rng_apart {a m : Nat} (h : a + m ≤ 7) : ¬ dup (rng a m) m := by
  have := not_dup (is := rng a m) (fun j hj => by rw [rng_len] at hj; rw [rng_get a m j hj]; omega) (fun i j hij hj => by rw [rng_len] at hj; rw [rng_get a m i (by omega), rng_get a m j hj]; omega)
  rw [rng_len] at this
  exact this
theorem are_shl {a m : Nat} (g : Int → Int) (hm : 1 ≤ m) (h : a + m ≤ 7) (hg : ∀ x, 0 ≤ g x ∧ g x ≤ 1018) : are (shl a m g) m := by
  refine ⟨hm, by omega, fun k hk => ?_, by rw [shl_ixs]; exact rng_apart h⟩
  unfold good
  rw [shl_ix a m g k hk, shl_vl a m g k hk]
  have := hg ((a + 1 + k : Nat) : Int)
  omega
theorem shl_ok {a m : Nat} (g : Int → Int) (h : a + m ≤ 7) (hg : ∀ x, 0 ≤ g x ∧ g x ≤ 1018) : okInts (shl a m g) := by
  intro x hx
  obtain ⟨i, hi, rfl⟩ := List.getElem_of_mem hx
  rw [shl_len] at hi
  have e : (shl a m g)[i]'(by rw [shl_len]; exact hi) = (shl a m g).getD i 0 := by rw [List.getD_eq_getElem?_getD, List.getElem?_eq_getElem (by rw [shl_len]; exact hi)]; rfl
  rw [e]
  have hp : i = i / 2 * 2 ∨ i = i / 2 * 2 + 1 := by omega
  rcases hp with hp | hp
  · rw [hp, shl_ix a m g (i / 2) (by omega)]; omega
  · rw [hp, shl_vl a m g (i / 2) (by omega)]; have := hg ((a + 1 + i / 2 : Nat) : Int); omega
theorem lws_rng {a m : Nat} (h : a + m ≤ 7) (t : Int) : lws (rng a m) t m = ws a m t := by
  unfold lws ws
  refine List.map_congr_left fun k hk => ?_
  have hk2 : k < m := by simpa using hk
  have e := lw_t (is := rng a m) (k := k) t (by rw [rng_len]; exact hk2) (by rw [rng_len]; exact rng_apart h)
  rw [e, rng_len, wt_wc]
theorem thr_shl {a m : Nat} (g : Int → Int) (h : a + m ≤ 7) (t : Int) : thr (shl a m g) m t = dot ((rng a m).map g) (ws a m t) % 1019 := by
  rw [thr_dot, shl_ixs, shl_vls, lws_rng h]
theorem thr_poly {a m t : Nat} (hm : 1 ≤ m) (h : a + m ≤ 7) (ht : t < 8) (cs : List Int) (hc : cs.length < m) (hc3 : cs.length ≤ 3) (s : Int) : thr (shl a m (poly s cs)) m t = poly s cs t := by
  rw [thr_shl _ h, quorum a m t hm h ht cs hc hc3 s]
theorem poly_twice (s : Int) (cs rs : List Int) (x : Int) : poly (poly s cs x) rs x = (poly s cs x + poly 0 rs x) % 1019 := by
  obtain ⟨a, b⟩ := poly_in s cs x
  obtain ⟨c, d⟩ := hor_in rs x
  generalize poly s cs x = p at a b ⊢
  unfold poly
  omega
theorem thr_ref {a m t : Nat} (hm : 1 ≤ m) (h : a + m ≤ 7) (ht : t < 8) (cs rs : List Int) (hc : cs.length < m) (hc3 : cs.length ≤ 3) (hr : rs.length < m) (hr3 : rs.length ≤ 3) (s : Int) :
    thr (shl a m (fun x => poly (poly s cs x) rs x)) m t = (poly s cs t + poly 0 rs t) % 1019 := by
  rw [thr_shl _ h]
  have e : ((rng a m).map fun x => poly (poly s cs x) rs x) = (rng a m).map fun x => (poly s cs x + poly 0 rs x) % 1019 := List.map_congr_left fun x _ => poly_twice s cs rs x
  rw [e, quorum2 a m t hm h ht cs rs hc hc3 hr hr3 s 0]
/-- A part of a run. -/
theorem shl_sub {a n k m : Nat} (g : Int → Int) (h : k + m ≤ n) (i : Nat) (hi : i < m * 2) : (ints .i64 (shl a n g))[k * 2 + i]? = (ints .i64 (shl (a + k) m g))[i]? := by
  rw [ints_get _ _ _ (by rw [shl_len]; omega), ints_get _ _ _ (by rw [shl_len]; omega)]
  have hp : i = i / 2 * 2 ∨ i = i / 2 * 2 + 1 := by omega
  have e : a + 1 + (k + i / 2) = a + k + 1 + i / 2 := by omega
  rcases hp with hp | hp
  · rw [hp, show k * 2 + i / 2 * 2 = (k + i / 2) * 2 by omega, shl_ix a n g (k + i / 2) (by omega), shl_ix (a + k) m g (i / 2) (by omega), e]
  · rw [hp, show k * 2 + (i / 2 * 2 + 1) = (k + i / 2) * 2 + 1 by omega, shl_vl a n g (k + i / 2) (by omega), shl_vl (a + k) m g (i / 2) (by omega), e]
theorem rd_sub {w : World} {hi b off n a k m : Nat} {g : Int → Int} (hr : Rd w hi 2 (some ⟨b, off, none⟩) n (ints .i64 (shl a n g))) (h : k + m ≤ n) (hm : 0 < m) : Rd w hi 2 (some ⟨b, off + k * 2, none⟩) m (ints .i64 (shl (a + k) m g)) := by
  refine ⟨by rw [ints_len, shl_len], fun _ => ?_⟩
  obtain ⟨b', off', e, hb, hc⟩ := hr.2 (by omega)
  cases e
  refine ⟨b, off + k * 2, rfl, hb, fun i hi2 => ?_⟩
  rw [Nat.add_assoc, hc (k * 2 + i) (by omega)]
  exact shl_sub g h i hi2
/-- The coefficients that the law draws. -/
def cfs (xs : List Int) (k : Nat) : List Int := (List.range k).map fun i => L0.atv xs (i + 2) * 4
theorem cfs_len (xs : List Int) (k : Nat) : (cfs xs k).length = k := by unfold cfs; rw [List.length_map, List.length_range]
theorem cfs_next (xs : List Int) (k : Nat) : cfs xs (k + 1) = cfs xs k ++ [L0.atv xs (k + 2) * 4] := by unfold cfs; rw [List.range_succ, List.map_append]; rfl
theorem cfs_ok {xs : List Int} (hx : ∀ x ∈ xs, 0 ≤ x ∧ x ≤ 255) (k : Nat) : okInts (cfs xs k) := by
  intro x h
  unfold cfs at h
  rw [List.mem_map] at h
  obtain ⟨i, _, rfl⟩ := h
  have := L0.atv_bd xs (i + 2) hx
  omega
end Go.Proofs.Ytlndcfpcgcdmgaa.M7
