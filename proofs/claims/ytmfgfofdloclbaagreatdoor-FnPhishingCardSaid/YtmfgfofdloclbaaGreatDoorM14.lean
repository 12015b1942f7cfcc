/-
  Key stores, in plain numbers: keys of different sites and handles are different for every seed that is drawn.
-/
import Derived.Test.YtmfgfofdloclbaaGreatDoorBa
import Derived.Test.YtmfgfofdloclbaaGreatDoorC10
import Derived.Test.YtmfgfofdloclbaaGreatDoorD10
namespace Go.Proofs.YtmfgfofdloclbaaGreatDoor.M14
open M3 M8 C10 D10
set_option linter.unusedVariables false
set_option maxRecDepth 100000
/-- A keyed hash, linear in its key. -/
def lstep (p : Int × Int) (v : Int) : Int × Int := (p.1 * 1000003, p.2 * 1000003 + v % 2147483647 + 13)
def klin (xs : List Int) : Int × Int := ((xs.foldl lstep (1, 11 * 1000003 + 13)).1 * 1000003 + 1, (xs.foldl lstep (1, 11 * 1000003 + 13)).2 * 1000003 + 13)
theorem lin_step {d a b k v : Int} (h : d % 2147483647 = (a * k + b) % 2147483647) : hstep d v % 2147483647 = (a * 1000003 * k + (b * 1000003 + v % 2147483647 + 13)) % 2147483647 := by
  have e : a * 1000003 * k = a * k * 1000003 := by rw [Int.mul_assoc, Int.mul_comm 1000003 k, ← Int.mul_assoc]
  rw [e]
  generalize a * k = X at *
  unfold hstep
  omega
theorem lin_all (k : Int) : ∀ (xs : List Int) (d : Int) (p : Int × Int), d % 2147483647 = (p.1 * k + p.2) % 2147483647 → hfrom d xs % 2147483647 = ((xs.foldl lstep p).1 * k + (xs.foldl lstep p).2) % 2147483647
  | [], d, p, h => h
  | x :: xs, d, p, h => lin_all k xs (hstep d x) (lstep p x) (lin_step h)
theorem khash_lin (k : Int) (xs : List Int) : khash k xs = ((klin xs).1 * k + (klin xs).2) % 2147483647 := by
  have h0 : hfrom 11 [k] % 2147483647 = ((1 : Int) * k + (11 * 1000003 + 13)) % 2147483647 := by
    show hstep 11 k % 2147483647 = _
    unfold hstep
    omega
  have h1 := lin_all k xs _ (1, 11 * 1000003 + 13) h0
  have hin := khash_in k xs
  have e : khash k xs = hstep (hfrom (hfrom 11 [k]) xs) k := khash_eq k xs
  unfold klin
  generalize (xs.foldl lstep (1, 11 * 1000003 + 13)) = p at *
  have e2 : khash k xs = (hfrom (hfrom 11 [k]) xs * 1000003 + k % 2147483647 + 13) % 2147483647 := e
  rw [e2]
  show _ = ((p.1 * 1000003 + 1) * k + (p.2 * 1000003 + 13)) % 2147483647
  have e3 : (p.1 * 1000003 + 1) * k = p.1 * k * 1000003 + k := by rw [Int.add_mul, Int.one_mul, Int.mul_assoc, Int.mul_comm 1000003 k, ← Int.mul_assoc]
  rw [e3]
  generalize p.1 * k = X at *
  generalize hfrom (hfrom 11 [k]) xs = Y at *
  omega
/-- Two derived keys are different where their hashes are further apart than 1. -/
theorem der_ne {k : Int} {l1 l2 : List Int} {D E : Int} (hD : (klin ([151] ++ l1)).1 - (klin ([151] ++ l2)).1 = D) (hE : (klin ([151] ++ l1)).2 - (klin ([151] ++ l2)).2 = E)
    (h : (D * k + E) % 2147483647 ≠ 0 ∧ (D * k + E) % 2147483647 ≠ 1 ∧ (D * k + E) % 2147483647 ≠ 2147483646) : der k l1 ≠ der k l2 := by
  intro e
  have i1 := khash_in k ([151] ++ l1)
  have i2 := khash_in k ([151] ++ l2)
  have e1 := khash_lin k ([151] ++ l1)
  have e2 := khash_lin k ([151] ++ l2)
  unfold inP at i1 i2
  unfold der at e
  generalize khash k ([151] ++ l1) = h1 at *
  generalize khash k ([151] ++ l2) = h2 at *
  generalize klin ([151] ++ l1) = p at *
  generalize klin ([151] ++ l2) = r at *
  subst hD
  subst hE
  have e3 : (p.1 - r.1) * k = p.1 * k - r.1 * k := Int.sub_mul ..
  rw [e3] at h
  generalize p.1 * k = X at *
  generalize r.1 * k = Y at *
  split at e <;> split at e <;> omega
/-- The one key at which a linear form takes a value. -/
theorem one_key {D Di E k t : Int} (hi : D * Di % 2147483647 = 1) (k0 : 0 ≤ k) (k1 : k ≤ 2147483646) (t0 : 0 ≤ t) (t1 : t ≤ 2147483646) (h : (D * k + E) % 2147483647 = t) : k = (t - E) * Di % 2147483647 := by
  obtain ⟨u, hu⟩ : ∃ u, D * Di = 1 + 2147483647 * u := ⟨D * Di / 2147483647, by omega⟩
  obtain ⟨v, hv⟩ : ∃ v, t - E = D * k - 2147483647 * v := ⟨(D * k + E) / 2147483647, by omega⟩
  have e4 : (t - E) * Di = k + 2147483647 * (u * k - v * Di) := by
    rw [hv, Int.sub_mul, Int.mul_right_comm, hu, Int.add_mul, Int.one_mul, Int.mul_sub, Int.mul_assoc, Int.mul_assoc]
    omega
  rw [e4]
  omega
def dotx (s : ByteArray) : ByteArray := s ++ ⟨#[46, 120]⟩
theorem dotx_size (s : ByteArray) : (dotx s).size = s.size + 2 := by unfold dotx; rw [ByteArray.size_append]; rfl
/-- What is asked of a site and a handle, for every seed at once. -/
def apart0 (E : Int) : Bool := E % 2147483647 != 0 && E % 2147483647 != 1 && E % 2147483647 != 2147483646
def seedless (D E Di : Int) : Bool := D * Di % 2147483647 == 1 && [(0 : Int), 1, 2147483646].all fun t => ((t - E) * Di % 2147483647 == 0 || decide (99999 < (t - E) * Di % 2147483647)) && (t - E) * Di % 2147483647 != 2147483646
def good (s : ByteArray) (q : Int) : Bool :=
  (klin ([151] ++ [179, siteH s, q])).1 - (klin ([151] ++ [179, siteH (dotx s), q])).1 == 0 && apart0 ((klin ([151] ++ [179, siteH s, q])).2 - (klin ([151] ++ [179, siteH (dotx s), q])).2) &&
  ((klin ([151] ++ [179, siteH s, q])).1 - (klin ([151] ++ [179, siteH s, q + 1])).1 == 0 && apart0 ((klin ([151] ++ [179, siteH s, q])).2 - (klin ([151] ++ [179, siteH s, q + 1])).2)) &&
  seedless ((klin ([151] ++ [179, siteH s, q])).1 - (klin ([151] ++ [181])).1) ((klin ([151] ++ [179, siteH s, q])).2 - (klin ([151] ++ [181])).2) 1280618798
theorem all_good : (hosts.all fun s => [(0 : Int), 1, 2, 3, 4].all fun q => good s q) = true := by decide +kernel
theorem apart0_ne {k D E : Int} (hD : D = 0) (h : apart0 E = true) : (D * k + E) % 2147483647 ≠ 0 ∧ (D * k + E) % 2147483647 ≠ 1 ∧ (D * k + E) % 2147483647 ≠ 2147483646 := by
  subst hD
  unfold apart0 at h
  simp only [Bool.and_eq_true, bne_iff_ne] at h
  rw [Int.zero_mul, Int.zero_add]
  exact ⟨h.1.1, h.1.2, h.2⟩
theorem seedless_ne {k D E Di : Int} (hs : isSeed k) (hk : key k) (h : seedless D E Di = true) : (D * k + E) % 2147483647 ≠ 0 ∧ (D * k + E) % 2147483647 ≠ 1 ∧ (D * k + E) % 2147483647 ≠ 2147483646 := by
  unfold seedless at h
  simp only [Bool.and_eq_true, beq_iff_eq, List.all_cons, List.all_nil, Bool.or_eq_true, decide_eq_true_eq, bne_iff_ne, Bool.and_true] at h
  obtain ⟨hi, h0, h1, h2⟩ := h
  have hk1 := hk.1
  have hk2 := hk.2
  unfold isSeed at hs
  simp only [List.mem_cons, List.not_mem_nil, or_false] at hs
  refine ⟨fun e => ?_, fun e => ?_, fun e => ?_⟩
  · have := one_key hi (by omega) hk2 (by omega) (by omega) e
    omega
  · have := one_key hi (by omega) hk2 (by omega) (by omega) e
    omega
  · have := one_key hi (by omega) hk2 (by omega) (by omega) e
    omega
theorem keys_apart {x : Fx.KeyStore} {s : ByteArray} {q : Int} (hx : isSeed x.Seed) (hk : key x.Seed) (hs : s ∈ hosts) (q0 : 0 ≤ q) (q1 : q ≤ 4) :
    prvS x s q ≠ prvS x (dotx s) q ∧ prvS x s q ≠ prvS x s (q + 1) ∧ prvS x s q ≠ devP x := by
  have hg : good s q = true := by
    have h := List.all_eq_true.1 all_good s hs
    have hq : q ∈ [(0 : Int), 1, 2, 3, 4] := by
      simp only [List.mem_cons, List.not_mem_nil, or_false]
      omega
    exact List.all_eq_true.1 h q hq
  unfold good at hg
  simp only [Bool.and_eq_true, beq_iff_eq] at hg
  obtain ⟨⟨⟨h1, h2⟩, h3, h4⟩, h5⟩ := hg
  exact ⟨der_ne rfl rfl (apart0_ne h1 h2), der_ne rfl rfl (apart0_ne h3 h4), der_ne rfl rfl (seedless_ne hx hk h5)⟩
theorem pub_inj {a b : Int} (ha : key a) (hb : key b) (h : pub a = pub b) : a = b := by
  have := congrArg prv h
  rwa [prv_pub ha, prv_pub hb] at this
end Go.Proofs.YtmfgfofdloclbaaGreatDoor.M14
