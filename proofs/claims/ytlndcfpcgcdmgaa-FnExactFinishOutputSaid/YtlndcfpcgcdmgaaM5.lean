/-
  The shares of chapter 5 in plain numbers: values of polynomials modulo 1019, Lagrange's weights, sums of weights.
-/
import Derived.Test.YtlndcfpcgcdmgaaM4
namespace Go.Proofs.Ytlndcfpcgcdmgaa.M5
open M4
set_option linter.unusedVariables false

/-- c0 * x + c1 * x * x + .., and the same reduced at each step, from the last coefficient on. -/
def ev : List Int → Int → Int
  | [], _ => 0
  | c :: cs, x => (ev cs x + c) * x
def hor : List Int → Int → Int
  | [], _ => 0
  | c :: cs, x => (hor cs x + c % 1019) * x % 1019
theorem hor_in (cs : List Int) (x : Int) : 0 ≤ hor cs x ∧ hor cs x ≤ 1018 := by
  cases cs with
  | nil => simp [hor]
  | cons c cs =>
    have a := Int.emod_nonneg ((hor cs x + c % 1019) * x) (show (1019 : Int) ≠ 0 by omega)
    have b := Int.emod_lt_of_pos ((hor cs x + c % 1019) * x) (show (0 : Int) < 1019 by omega)
    simp only [hor]
    omega
theorem hor_ev (cs : List Int) (x : Int) : hor cs x = ev cs x % 1019 := by
  induction cs with
  | nil => rfl
  | cons c cs ih =>
    simp only [hor, ev]
    rw [ih, Int.mul_emod, ← Int.add_emod, ← Int.mul_emod]
/-- The polynomial with the constant s. -/
def poly (s : Int) (cs : List Int) (x : Int) : Int := (hor cs x + s % 1019) % 1019
theorem poly_in (s : Int) (cs : List Int) (x : Int) : 0 ≤ poly s cs x ∧ poly s cs x ≤ 1018 := by unfold poly; omega
theorem poly_ev (s : Int) (cs : List Int) (x : Int) : poly s cs x = (ev cs x + s) % 1019 := by
  unfold poly; rw [hor_ev, ← Int.add_emod]
theorem hor_drop (cs : List Int) (x : Int) (k : Nat) (hk : k < cs.length) : hor (cs.drop k) x = (hor (cs.drop (k + 1)) x + cs.getD k 0 % 1019) * x % 1019 := by
  have e : cs.drop k = cs.getD k 0 :: cs.drop (k + 1) := by
    rw [List.drop_eq_getElem_cons hk, List.getD_eq_getElem?_getD, List.getElem?_eq_getElem hk]; rfl
  rw [e]; rfl

/-- The products of at - indices[j], and of indices[k] - indices[j], over the j below n other than k. -/
def num (is : List Int) (k : Nat) (t : Int) : Nat → Int
  | 0 => 1
  | j + 1 => if j = k then num is k t j else num is k t j * (t - is.getD j 0)
def den (is : List Int) (k : Nat) (j : Nat) : Int := num is k (is.getD k 0) j
/-- Lagrange's weight behind n indices. -/
def wt (is : List Int) (k : Nat) (t : Int) (n : Nat) : Int := num is k t n * den is k n ^ 1017 % 1019
theorem wt_in (is : List Int) (k : Nat) (t : Int) (n : Nat) : 0 ≤ wt is k t n ∧ wt is k t n ≤ 1018 := by
  have a := Int.emod_nonneg (num is k t n * den is k n ^ 1017) (show (1019 : Int) ≠ 0 by omega)
  have b := Int.emod_lt_of_pos (num is k t n * den is k n ^ 1017) (show (0 : Int) < 1019 by omega)
  unfold wt; omega
theorem wt_zero (is : List Int) (k : Nat) (t : Int) : wt is k t 0 = 1 := by
  unfold wt den
  simp only [num]
  rw [Int.one_pow]; rfl
theorem wt_same (is : List Int) (k : Nat) (t : Int) : wt is k t (k + 1) = wt is k t k := by
  unfold wt den
  simp only [num, if_true]
theorem inv_mod (x : Int) : inv (x % 1019) = x ^ 1017 % 1019 := by unfold inv pm; rw [pow_mod]
theorem mul3 (A C F m : Int) : A % m * (C % m) % m * (F % m) % m = A * C * F % m := by
  rw [← Int.mul_emod A C m, ← Int.mul_emod (A * C) F m]
/-- One step, every factor reduced. -/
theorem wt_next (is : List Int) (k : Nat) (t : Int) (j : Nat) (hj : j ≠ k) :
    wt is k t j * ((t % 1019 - is.getD j 0 % 1019) % 1019) % 1019 * inv ((is.getD k 0 % 1019 - is.getD j 0 % 1019) % 1019) % 1019 = wt is k t (j + 1) := by
  rw [← Int.sub_emod, ← Int.sub_emod, inv_mod]
  unfold wt den
  simp only [num, if_neg hj]
  generalize num is k t j = a
  generalize num is k (is.getD k 0) j = b
  generalize t - is.getD j 0 = c
  generalize is.getD k 0 - is.getD j 0 = d
  rw [Int.mul_pow, mul3]
  congr 1
  generalize b ^ 1017 = e
  generalize d ^ 1017 = f
  simp only [Int.mul_comm, Int.mul_left_comm]
/-- Two of the first n indices are equal modulo 1019. -/
def dup (is : List Int) (n : Nat) : Prop := ∃ i j, i < j ∧ j < n ∧ is.getD i 0 % 1019 = is.getD j 0 % 1019
open Classical in
/-- What LagrangeWeight gives. -/
noncomputable def lw (is : List Int) (k t : Int) : Int := if 0 ≤ k ∧ k < is.length ∧ ¬ dup is is.length then wt is k.toNat t is.length else 0
theorem lw_t {is : List Int} {k : Nat} (t : Int) (hk : k < is.length) (hd : ¬ dup is is.length) : lw is k t = wt is k t is.length := by
  unfold lw; rw [if_pos ⟨by omega, by omega, hd⟩]; rfl
theorem lw_out {is : List Int} {k : Int} (t : Int) (hk : ¬ (0 ≤ k ∧ k < is.length)) : lw is k t = 0 := by
  unfold lw; rw [if_neg (fun h => hk ⟨h.1, h.2.1⟩)]
theorem lw_dup {is : List Int} {k : Int} (t : Int) (hd : dup is is.length) : lw is k t = 0 := by
  unfold lw; rw [if_neg (fun h => h.2.2 hd)]
theorem lw_in (is : List Int) (k t : Int) : 0 ≤ lw is k t ∧ lw is k t ≤ 1018 := by
  unfold lw; split
  · exact wt_in _ _ _ _
  · omega

/-- Sums of values and weights. -/
def dot : List Int → List Int → Int
  | v :: vs, w :: ws => v * w + dot vs ws
  | _, _ => 0
/-- If the sums of powers times weights are the powers of t, so is the sum of a polynomial's values. -/
theorem dot_pow (xs ws : List Int) (t : Int) (D : Nat) (h : ∀ d, d < D → dot (xs.map (· ^ d)) ws % 1019 = t ^ d % 1019) :
    ∀ (cs : List Int) (e : Nat), e + cs.length < D → dot (xs.map fun x => x ^ e * ev cs x) ws % 1019 = t ^ e * ev cs t % 1019 := by
  have hz : ∀ (ys ws : List Int), dot (ys.map fun _ => 0) ws = 0 := by
    intro ys
    induction ys with
    | nil => intro ws; rfl
    | cons y ys ih =>
      intro ws
      cases ws with
      | nil => rfl
      | cons w ws => simp only [List.map_cons, dot]; rw [ih ws]; omega
  have hadd : ∀ (f g : Int → Int) (c : Int) (ys ws : List Int), dot (ys.map fun x => f x + c * g x) ws = dot (ys.map f) ws + c * dot (ys.map g) ws := by
    intro f g c ys
    induction ys with
    | nil => intro ws; simp [dot]
    | cons y ys ih =>
      intro ws
      cases ws with
      | nil => simp [dot]
      | cons w ws =>
        simp only [List.map_cons, dot]
        rw [ih ws, Int.add_mul, Int.mul_add, Int.mul_assoc]
        omega
  intro cs
  induction cs with
  | nil =>
    intro e he
    have : (xs.map fun x => x ^ e * ev [] x) = xs.map fun _ => 0 := by simp [ev]
    rw [this, hz]
    simp [ev]
  | cons c cs ih =>
    intro e he
    simp only [List.length_cons] at he
    have e1 : (xs.map fun x => x ^ e * ev (c :: cs) x) = xs.map fun x => x ^ (e + 1) * ev cs x + c * x ^ (e + 1) := by
      congr 1; funext x
      simp only [ev]
      rw [Int.pow_succ, Int.add_mul, Int.mul_add]
      simp only [Int.mul_assoc, Int.mul_comm, Int.mul_left_comm]
    have e2 : t ^ e * ev (c :: cs) t = t ^ (e + 1) * ev cs t + c * t ^ (e + 1) := by
      simp only [ev]
      rw [Int.pow_succ, Int.add_mul, Int.mul_add]
      simp only [Int.mul_assoc, Int.mul_comm, Int.mul_left_comm]
    rw [e1, e2, hadd (fun x => x ^ (e + 1) * ev cs x) (fun x => x ^ (e + 1)) c]
    rw [Int.add_emod, ih (e + 1) (by omega), Int.mul_emod c, h (e + 1) (by omega), ← Int.mul_emod c, ← Int.add_emod]
theorem dot_snoc : ∀ (vs ws : List Int) (v w : Int), vs.length = ws.length → dot (vs ++ [v]) (ws ++ [w]) = dot vs ws + v * w
  | [], [], v, w, _ => by simp [dot]
  | x :: vs, y :: ws, v, w, h => by
    simp only [List.cons_append, dot]
    rw [dot_snoc vs ws v w (by simpa using h)]
    omega
theorem dot_mod (f : Int → Int) : ∀ (ys ws : List Int), dot (ys.map fun x => f x % 1019) ws % 1019 = dot (ys.map f) ws % 1019
  | [], _ => rfl
  | y :: ys, [] => rfl
  | y :: ys, w :: ws => by
    simp only [List.map_cons, dot]
    rw [Int.add_emod, dot_mod f ys ws, Int.mul_emod, Int.emod_emod, ← Int.mul_emod, ← Int.add_emod]
theorem dot_add (f g : Int → Int) : ∀ (ys ws : List Int), dot (ys.map fun x => f x + g x) ws = dot (ys.map f) ws + dot (ys.map g) ws
  | [], _ => by simp [dot]
  | y :: ys, [] => by simp [dot]
  | y :: ys, w :: ws => by
    simp only [List.map_cons, dot]
    rw [dot_add f g ys ws, Int.add_mul]
    omega
theorem dot_const (c : Int) : ∀ (ys ws : List Int), dot (ys.map fun _ => c) ws = c * dot (ys.map fun x => x ^ 0) ws
  | [], _ => by simp [dot]
  | y :: ys, [] => by simp [dot]
  | y :: ys, w :: ws => by
    simp only [List.map_cons, dot]
    rw [dot_const c ys ws, Int.pow_zero, Int.one_mul, Int.mul_add]
/-- The weight as the kernel reckons it. -/
def wc (is : List Int) (k : Nat) (t : Int) (n : Nat) : Int := (num is k t n % 1019) * ((np (den is k n % 1019).toNat 1017 1019 : Nat) : Int) % 1019
theorem wt_wc (is : List Int) (k : Nat) (t : Int) (n : Nat) : wt is k t n = wc is k t n := by
  unfold wt wc
  have h0 : 0 ≤ den is k n % 1019 := by omega
  generalize den is k n = b at h0 ⊢
  have e := pm_np 1019 (b % 1019).toNat 1017
  rw [← e]
  have e2 : (((b % 1019).toNat : Nat) : Int) = b % 1019 := by omega
  rw [e2]
  unfold pm
  show _ = num is k t n % 1019 * ((b % 1019) ^ 1017 % 1019) % 1019
  rw [pow_mod, ← Int.mul_emod]
/-- The indices a + 1 .. a + m, and their weights at t. -/
def rng (a m : Nat) : List Int := (List.range m).map fun i => ((a + 1 + i : Nat) : Int)
def ws (a m : Nat) (t : Int) : List Int := (List.range m).map fun k => wc (rng a m) k t m
def sumsB : Bool := (List.range 7).all fun a => (List.range 8).all fun m => decide (7 < a + m) || (List.range 8).all fun t => (List.range 4).all fun d => decide (m ≤ d) || dot ((rng a m).map (· ^ d)) (ws a m (t : Int)) % 1019 == (t : Int) ^ d % 1019
theorem sums_yes : sumsB = true := by decide +kernel
theorem sums (a m t d : Nat) (hm : 1 ≤ m) (ham : a + m ≤ 7) (ht : t < 8) (hd : d < 4) (hdm : d < m) : dot ((rng a m).map (· ^ d)) (ws a m (t : Int)) % 1019 = (t : Int) ^ d % 1019 := by
  have h := sums_yes
  unfold sumsB at h
  rw [List.all_eq_true] at h
  have h1 := h a (by simp; omega)
  rw [List.all_eq_true] at h1
  have h2 := h1 m (by simp; omega)
  rw [Bool.or_eq_true, decide_eq_true_eq] at h2
  rcases h2 with h2 | h2
  · omega
  · rw [List.all_eq_true] at h2
    have h3 := h2 t (by simp; omega)
    rw [List.all_eq_true] at h3
    have h4 := h3 d (by simp; omega)
    rw [Bool.or_eq_true, decide_eq_true_eq] at h4
    rcases h4 with h4 | h4
    · omega
    · exact eq_of_beq h4
theorem dot_ev (a m t : Nat) (hm : 1 ≤ m) (ham : a + m ≤ 7) (ht : t < 8) (cs : List Int) (hc : cs.length < m) (hc3 : cs.length ≤ 3) (s : Int) :
    dot ((rng a m).map fun x => ev cs x + s) (ws a m (t : Int)) % 1019 = (ev cs t + s) % 1019 := by
  have h1 := dot_pow (rng a m) (ws a m (t : Int)) t (min 4 m) (fun d hd => sums a m t d hm ham ht (by omega) (by omega)) cs 0 (by omega)
  have h2 := sums a m t 0 hm ham ht (by omega) (by omega)
  have e : ((rng a m).map fun x => x ^ 0 * ev cs x) = (rng a m).map (ev cs) := by
    congr 1; funext x; rw [Int.pow_zero, Int.one_mul]
  rw [e, Int.pow_zero, Int.one_mul] at h1
  rw [Int.pow_zero] at h2
  rw [dot_add (ev cs) (fun _ => s), dot_const s, Int.add_emod, h1, Int.mul_emod, h2, ← Int.mul_emod, Int.mul_one, ← Int.add_emod]
/-- Any quorum of neighbouring shares, at any point. -/
theorem quorum (a m t : Nat) (hm : 1 ≤ m) (ham : a + m ≤ 7) (ht : t < 8) (cs : List Int) (hc : cs.length < m) (hc3 : cs.length ≤ 3) (s : Int) :
    dot ((rng a m).map (poly s cs)) (ws a m (t : Int)) % 1019 = poly s cs t := by
  have e : (rng a m).map (poly s cs) = (rng a m).map fun x => (ev cs x + s) % 1019 := by
    congr 1; funext x; exact poly_ev s cs x
  rw [e, dot_mod (fun x => ev cs x + s), dot_ev a m t hm ham ht cs hc hc3 s, poly_ev]
/-- .. and of refreshed ones. -/
theorem quorum2 (a m t : Nat) (hm : 1 ≤ m) (ham : a + m ≤ 7) (ht : t < 8) (cs rs : List Int) (hc : cs.length < m) (hc3 : cs.length ≤ 3) (hr : rs.length < m) (hr3 : rs.length ≤ 3) (s r : Int) :
    dot ((rng a m).map fun x => (poly s cs x + poly r rs x) % 1019) (ws a m (t : Int)) % 1019 = (poly s cs t + poly r rs t) % 1019 := by
  rw [dot_mod (fun x => poly s cs x + poly r rs x), dot_add (poly s cs) (poly r rs), Int.add_emod, quorum a m t hm ham ht cs hc hc3 s, quorum a m t hm ham ht rs hr hr3 r]
theorem ev_zero (cs : List Int) : ev cs 0 = 0 := by
  cases cs with
  | nil => rfl
  | cons c cs => simp only [ev, Int.mul_zero]
theorem poly_zero (s : Int) (cs : List Int) : poly s cs 0 = s % 1019 := by rw [poly_ev, ev_zero, Int.zero_add]
/-- The four weights that a missing share at 5 is made of, and those of the four shares with it. -/
theorem few5 : wc [1, 2, 3, 0] 0 5 4 = 15 ∧ wc [1, 2, 3, 0] 1 5 4 = 999 ∧ wc [1, 2, 3, 0] 2 5 4 = 10 ∧ wc [1, 2, 3, 0] 3 5 4 = 1015 := by decide +kernel
theorem few0 : wc [1, 2, 3, 5] 0 0 4 = 768 ∧ wc [1, 2, 3, 5] 1 0 4 = 1014 ∧ wc [1, 2, 3, 5] 2 0 4 = 512 ∧ wc [1, 2, 3, 5] 3 0 4 = 764 := by decide +kernel
theorem few (a b c s : Int) : (a * 768 + b * 1014 + c * 512 + (a * 15 + b * 999 + c * 10 + s * 1015) % 1019 * 764) % 1019 = s % 1019 := by omega
def onesB : Bool := (List.range 256).all fun t => (wc [1, 3, 4, 6] 0 (t : Int) 4 + wc [1, 3, 4, 6] 1 (t : Int) 4 + wc [1, 3, 4, 6] 2 (t : Int) 4 + wc [1, 3, 4, 6] 3 (t : Int) 4) % 1019 == 1
theorem ones_yes : onesB = true := by decide +kernel
/-- Weights add up to 1. -/
theorem ones (t : Nat) (ht : t < 256) : (wc [1, 3, 4, 6] 0 (t : Int) 4 + wc [1, 3, 4, 6] 1 (t : Int) 4 + wc [1, 3, 4, 6] 2 (t : Int) 4 + wc [1, 3, 4, 6] 3 (t : Int) 4) % 1019 = 1 := by
  have h := ones_yes
  unfold onesB at h
  rw [List.all_eq_true] at h
  exact eq_of_beq (h t (by simp; omega))
/-- Different small indices stay different. -/
theorem not_dup {is : List Int} (h0 : ∀ j, j < is.length → 0 ≤ is.getD j 0 ∧ is.getD j 0 ≤ 1018) (h : ∀ i j, i < j → j < is.length → is.getD i 0 ≠ is.getD j 0) : ¬ dup is is.length := by
  rintro ⟨i, j, hij, hj, e⟩
  have a := h0 i (by omega)
  have b := h0 j hj
  exact h i j hij hj (by omega)
end Go.Proofs.Ytlndcfpcgcdmgaa.M5
