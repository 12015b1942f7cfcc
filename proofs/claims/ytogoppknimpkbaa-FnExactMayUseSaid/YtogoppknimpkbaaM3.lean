/-
  Plain mathematics behind chapter 3: the fold of a hash, and that it depends on each value; the cipher as a list of bytes.
-/
import Derived.WalkKit
import Derived.IntWalk
namespace Go.Proofs.Ytogoppknimpkbaa.M3
open Go.RowKit
/-- One value more. -/
def hstep (d v : Int) : Int := (d * 1000003 + v % 2147483647 + 13) % 2147483647
def hfrom (d : Int) (xs : List Int) : Int := xs.foldl hstep d
def hash (xs : List Int) : Int := hfrom 11 xs
def khash (k : Int) (xs : List Int) : Int := hash ([k] ++ xs ++ [k])
def inP (d : Int) : Prop := 0 ≤ d ∧ d ≤ 2147483646
theorem hstep_in (d v : Int) : inP (hstep d v) := by unfold hstep inP; omega
theorem hfrom_in (d : Int) (xs : List Int) (h : inP d) : inP (hfrom d xs) := by
  induction xs generalizing d with
  | nil => exact h
  | cons x xs ih => exact ih _ (hstep_in d x)
theorem hash_in (xs : List Int) : inP (hash xs) := hfrom_in 11 xs (by unfold inP; omega)
theorem khash_in (k : Int) (xs : List Int) : inP (khash k xs) := hash_in _
theorem hfrom_app (d : Int) (xs ys : List Int) : hfrom d (xs ++ ys) = hfrom (hfrom d xs) ys := by simp [hfrom, List.foldl_append]
theorem hfrom_one (d v : Int) : hfrom d [v] = hstep d v := rfl
theorem hfrom_nil (d : Int) : hfrom d [] = d := rfl
theorem hfrom_take (d : Int) (xs : List Int) (k : Nat) (h : k < xs.length) : hfrom d (xs.take (k + 1)) = hstep (hfrom d (xs.take k)) (xs.getD k 0) := by
  rw [List.take_succ_eq_append_getElem h, hfrom_app, hfrom_one]
  simp [List.getElem?_eq_getElem h]
theorem khash_eq (k : Int) (xs : List Int) : khash k xs = hfrom (hfrom (hfrom 11 [k]) xs) [k] := by
  unfold khash hash; rw [hfrom_app, hfrom_app]
/-- What Go reckons is the step. -/
theorem go_step (d r : Int) (hd : inP d) (h0 : 0 ≤ r) (h1 : r ≤ 2147483646) : (d * 1000003 + r + 13).tmod 2147483647 = (d * 1000003 + r + 13) % 2147483647 :=
  Int.tmod_eq_emod_of_nonneg (by unfold inP at hd; omega)
/-- The step depends on what was folded so far, and on the value. -/
theorem hstep_inj_l {d d' v : Int} (h : inP d) (h' : inP d') (e : hstep d v = hstep d' v) : d = d' := by
  unfold hstep at e; unfold inP at h h'
  obtain ⟨c, hc⟩ := Int.dvd_of_emod_eq_zero (Int.emod_eq_emod_iff_emod_sub_eq_zero.1 e)
  generalize v % 2147483647 = r at hc
  have hc2 : (d - d') * 1000003 = 2147483647 * c := by rw [← hc, Int.sub_mul]; omega
  clear hc e
  have hd : d - d' = 2147483647 * (c * 1523789695 - (d - d') * 709572) := by omega
  omega
theorem hstep_inj_r {d v v' : Int} (e : hstep d v = hstep d v') : v % 2147483647 = v' % 2147483647 := by
  unfold hstep at e; omega
theorem hfrom_inj {d d' : Int} (xs : List Int) (h : inP d) (h' : inP d') (e : hfrom d xs = hfrom d' xs) : d = d' := by
  induction xs generalizing d d' with
  | nil => exact e
  | cons x xs ih => exact hstep_inj_l h h' (ih (hstep_in d x) (hstep_in d' x) e)
/-- A keyed hash depends on each of its values. -/
theorem khash_set (k : Int) (xs : List Int) (i : Nat) (y : Int) (hi : i < xs.length) (hy : y % 2147483647 ≠ xs.getD i 0 % 2147483647) : khash k (xs.set i y) ≠ khash k xs := by
  intro e
  rw [khash_eq, khash_eq] at e
  have h0 : inP (hfrom 11 [k]) := hfrom_in _ _ (by unfold inP; omega)
  have e1 := hfrom_inj [k] (hfrom_in _ _ h0) (hfrom_in _ _ h0) e
  have hx : xs = xs.take i ++ [xs.getD i 0] ++ xs.drop (i + 1) := by
    have h1 : xs.take i ++ [xs.getD i 0] = xs.take (i + 1) := by rw [List.take_succ_eq_append_getElem hi]; simp [List.getElem?_eq_getElem hi]
    rw [h1, List.take_append_drop]
  have hs : xs.set i y = xs.take i ++ [y] ++ xs.drop (i + 1) := by
    rw [List.set_eq_take_append_cons_drop, if_pos hi]; simp
  rw [hs] at e1
  conv at e1 => rhs; rw [hx]
  rw [hfrom_app, hfrom_app, hfrom_app, hfrom_app] at e1
  have h2 := hfrom_in _ (xs.take i) h0
  have e2 := hfrom_inj _ (hfrom_in _ [y] h2) (hfrom_in _ [xs.getD i 0] h2) e1
  exact hy (hstep_inj_r e2)
/-- The key stream, the cipher. -/
def ks (k : Int) (i : Nat) : Int := khash k [(i : Int)] % 256
theorem ks_in (k : Int) (i : Nat) : 0 ≤ ks k i ∧ ks k i ≤ 255 := by unfold ks; omega
def ciph (f : Nat → Int) (xs : List Int) : List Int := (List.range xs.length).map fun i => (xs.getD i 0 + f i) % 256
theorem ciph_len (f : Nat → Int) (xs : List Int) : (ciph f xs).length = xs.length := by simp [ciph]
theorem ciph_get (f : Nat → Int) (xs : List Int) (i : Nat) (h : i < xs.length) : (ciph f xs).getD i 0 = (xs.getD i 0 + f i) % 256 := by
  unfold ciph
  rw [List.getD_eq_getElem?_getD, List.getElem?_map, List.getElem?_range h]
  rfl
theorem ciph_take (f : Nat → Int) (xs : List Int) (i : Nat) (h : i < xs.length) : (ciph f xs).take (i + 1) = (ciph f xs).take i ++ [(xs.getD i 0 + f i) % 256] := by
  rw [← ciph_get f xs i h, List.take_succ_eq_append_getElem (by rw [ciph_len]; exact h)]
  simp [List.getElem?_eq_getElem (show i < (ciph f xs).length by rw [ciph_len]; exact h)]
theorem ciph_ok (f : Nat → Int) (xs : List Int) : ∀ x ∈ ciph f xs, 0 ≤ x ∧ x ≤ 255 := by
  intro x hx
  simp only [ciph, List.mem_map] at hx
  obtain ⟨i, _, rfl⟩ := hx
  omega
theorem ciph_ciph (f g : Nat → Int) (xs : List Int) (hx : ∀ x ∈ xs, 0 ≤ x ∧ x ≤ 255) (hfg : ∀ i, f i + g i = 0) : ciph g (ciph f xs) = xs := by
  refine List.ext_getElem (by rw [ciph_len, ciph_len]) fun i h1 h2 => ?_
  have e1 := ciph_get g (ciph f xs) i (by rw [ciph_len]; exact h2)
  rw [ciph_get f xs i h2, List.getD_eq_getElem?_getD, List.getElem?_eq_getElem h1, List.getD_eq_getElem?_getD, List.getElem?_eq_getElem h2] at e1
  simp only [Option.getD_some] at e1
  have h3 := hx _ (List.getElem_mem h2)
  have h4 := hfg i
  rw [e1]
  omega
def encL (k : Int) (xs : List Int) : List Int := ciph (ks k) xs
def decL (k : Int) (xs : List Int) : List Int := ciph (fun i => - ks k i) xs
theorem dec_enc (k : Int) (xs : List Int) (hx : ∀ x ∈ xs, 0 ≤ x ∧ x ≤ 255) : decL k (encL k xs) = xs := ciph_ciph _ _ xs hx (fun i => by omega)
theorem enc_dec (k : Int) (xs : List Int) (hx : ∀ x ∈ xs, 0 ≤ x ∧ x ≤ 255) : encL k (decL k xs) = xs := ciph_ciph _ _ xs hx (fun i => by omega)
/-- What BytesToInts gives. -/
def b2i (xs : List Int) : List Int := [(xs.length : Int)] ++ xs
theorem b2i_len (xs : List Int) : (b2i xs).length = 1 + xs.length := by simp [b2i]; omega
def derive (k : Int) (xs : List Int) : Int := if khash k (b2i xs) < 1 then 1 else khash k (b2i xs)
theorem derive_valid (k : Int) (xs : List Int) : 1 ≤ derive k xs ∧ derive k xs ≤ 2147483646 := by
  have h := khash_in k (b2i xs)
  unfold inP at h; unfold derive; split <;> omega
theorem derive_eq (k : Int) (xs : List Int) : derive k xs = if 1 > khash k (b2i xs) then 1 else khash k (b2i xs) := rfl
theorem derive_eq' (k : Int) (xs : List Int) : derive k xs = if khash k (b2i xs) > 1 then khash k (b2i xs) else 1 := by
  unfold derive
  generalize khash k (b2i xs) = z
  by_cases h : z < 1
  · rw [if_pos h, if_neg (by omega)]
  · rw [if_neg h]
    by_cases h2 : z > 1
    · rw [if_pos h2]
    · rw [if_neg h2]; omega
end Go.Proofs.Ytogoppknimpkbaa.M3
