import Derived.Test.YtialhhdhpjjkaaaGreatDoorBa
import Derived.Test.YtialhhdhpjjkaaaGreatDoorC10
import Derived.Test.YtialhhdhpjjkaaaGreatDoorD10
/-
  Key stores, in plain numbers: keys of different sites and handles are different for every seed that is drawn.
-/
namespace Go.Proofs.YtialhhdhpjjkaaaGreatDoor.M14
open M3 M8 C10 D10
set_option linter.unusedVariables false
set_option maxRecDepth 100000
/-- A keyed hash, linear in its key. -/
def lstep (p : Int × Int) (v : Int) : Int × Int := (p.1 * 1000003, p.2 * 1000003 + v % 2147483647 + 13)
def klin (xs : List Int) : Int × Int := ((xs.foldl lstep (1, 11 * 1000003 + 13)).1 * 1000003 + 1, (xs.foldl lstep (1, 11 * 1000003 + 13)).2 * 1000003 + 13)
theorem lin_step {d a b k v : Int} (h : d % 2147483647 = (a * k + b) % 2147483647) : hstep d v % 2147483647 = (a * 1000003 * k + (b * 1000003 + v % 2147483647 + 13)) % 2147483647 := by
  have e : a * 1000003 * k = a * k * 1000003 := by rw [Int.mul_assoc, Int.mul_comm 1000003 k, ← Int.mul_assoc]
  rw [e]
  generalize a * k = X at *
  unfold hstep
  omega
theorem lin_all (k : Int) : ∀ (xs : List Int) (d : Int) (p : Int × Int), d % 2147483647 = (p.1 * k + p.2) % 2147483647 → hfrom d xs % 2147483647 = ((xs.foldl lstep p).1 * k + (xs.foldl lstep p).2) % 2147483647
  | [], d, p, h => h
  | x :: xs, d, p, h => lin_all k xs (hstep d x) (lstep p x) (lin_step h)
theorem khash_lin (k : Int) (xs : List Int) : khash k xs = ((klin xs).1 * k + (klin xs).2) % 2147483647 := by
  have h0 : hfrom 11 [k] % 2147483647 = ((1 : Int) * k + (11 * 1000003 + 13)) % 2147483647 := by
    show hstep 11 k % 2147483647 = _
    unfold hstep
    omega
  have h1 := lin_all k xs _ (1, 11 * 1000003 + 13) h0
  have hin := khash_in k xs
  have e : khash k xs = hstep (hfrom (hfrom 11 [k]) xs) k := khash_eq k xs
  unfold klin
  generalize (xs.foldl lstep (1, 11 * 1000003 + 13)) = p at *
  have e2 : khash k xs = (hfrom (hfrom 11 [k]) xs * 1000003 + k % 2147483647 + 13) % 2147483647 := e
  rw [e2]
  show _ = ((p.1 * 1000003 + 1) * k + (p.2 * 1000003 + 13)) % 2147483647
  have e3 : (p.1 * 1000003 + 1) * k = p.1 * k * 1000003 + k := by rw [Int.add_mul, Int.one_mul, Int.mul_assoc, Int.mul_comm 1000003 k, ← Int.mul_assoc]
  rw [e3]
  generalize p.1 * k = X at *
  generalize hfrom (hfrom 11 [k]) xs = Y at *
  omega
/-- The one key at which a linear form takes a value. -/
theorem one_key {D Di E k t : Int} (hi : D * Di % 2147483647 = 1) (k0 : 0 ≤ k) (k1 : k ≤ 2147483646) (t0 : 0 ≤ t) (t1 : t ≤ 2147483646) (h : (D * k + E) % 2147483647 = t) : k = (t - E) * Di % 2147483647 := by
  obtain ⟨u, hu⟩ : ∃ u, D * Di = 1 + 2147483647 * u := ⟨D * Di / 2147483647, by omega⟩
  obtain ⟨v, hv⟩ : ∃ v, t - E = D * k - 2147483647 * v := ⟨(D * k + E) / 2147483647, by omega⟩
  have e4 : (t - E) * Di = k + 2147483647 * (u * k - v * Di) := by
    rw [hv, Int.sub_mul, Int.mul_right_comm, hu, Int.add_mul, Int.one_mul, Int.mul_sub, Int.mul_assoc, Int.mul_assoc]
    omega
  rw [e4]
  omega
def dotx (s : ByteArray) : ByteArray := s ++ ⟨#[46, 120]⟩
/-- What is asked of a site and a handle, for every seed at once. -/
def apart0 (E : Int) : Bool := E % 2147483647 != 0 && E % 2147483647 != 1 && E % 2147483647 != 2147483646
def seedless (D E Di : Int) : Bool := D * Di % 2147483647 == 1 && [(0 : Int), 1, 2147483646].all fun t => ((t - E) * Di % 2147483647 == 0 || decide (99999 < (t - E) * Di % 2147483647)) && (t - E) * Di % 2147483647 != 2147483646
def good (s : ByteArray) (q : Int) : Bool :=
  (klin ([151] ++ [179, siteH s, q])).1 - (klin ([151] ++ [179, siteH (dotx s), q])).1 == 0 && apart0 ((klin ([151] ++ [179, siteH s, q])).2 - (klin ([151] ++ [179, siteH (dotx s), q])).2) &&
  ((klin ([151] ++ [179, siteH s, q])).1 - (klin ([151] ++ [179, siteH s, q + 1])).1 == 0 && apart0 ((klin ([151] ++ [179, siteH s, q])).2 - (klin ([151] ++ [179, siteH s, q + 1])).2)) &&
  seedless ((klin ([151] ++ [179, siteH s, q])).1 - (klin ([151] ++ [181])).1) ((klin ([151] ++ [179, siteH s, q])).2 - (klin ([151] ++ [181])).2) 1280618798
end Go.Proofs.YtialhhdhpjjkaaaGreatDoor.M14
