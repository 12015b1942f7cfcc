import Derived.WalkKit
import Derived.IntWalk
import Derived.Laws.BitsLemmas
import Derived.Test.YtllaacdikjffmaaGreatChecked
import Derived.ProofKit
import Derived.OpenShut
import Derived.Below
import Derived.OwnWalk
import Derived.RegionTactic
import Derived.ChangeAlike
import Derived.Deep.QuietTactic
import Derived.BigQuiet
import Derived.Lib.Hide
import Derived.Laws.AppendOwnNone
import Derived.Deep.AppendLies
import Derived.Laws.BytesArg
import Derived.Test.YtllaacdikjffmaaGreatRows
import Derived.ReadAgain
import Derived.ChangeSame
import Derived.Deep.DeepHandedRow
import Derived.Deep.DeepWitnessRowRef
import Derived.Lib.LaidTab
import Derived.Lib.ConvBytes
import Derived.Deep.WholeRow
import Derived.Maps.Own
import Derived.DeepKeys4
-- part M1
/-
  Plain arithmetic behind chapter 1: Go's remainder and the remainder that is never negative.
-/
namespace Go.Proofs.YtllaacdikjffmaaGreat.M1
open Go.RowKit

theorem tmod_lt (p q : Int) (hq : 1 ≤ q) : p.tmod q < q := Int.tmod_lt_of_pos p (by omega)
theorem lt_tmod (p q : Int) (hq : 1 ≤ q) : -q < p.tmod q := Int.lt_tmod_of_pos p (by omega)
theorem i64_wf {n : Int} (h : (Lit.int .i64 n).wf = true) : -9223372036854775808 ≤ n ∧ n ≤ 9223372036854775807 := by
  simp only [Lit.wf, Bool.and_eq_true, decide_eq_true_eq, IntKind.min, IntKind.max, IntKind.signed, IntKind.bits] at h
  exact ⟨by simpa using h.1, by simpa using h.2⟩
end Go.Proofs.YtllaacdikjffmaaGreat.M1

-- part M2
/-
  Plain arithmetic behind chapter 2: varints.
-/
namespace Go.Proofs.YtllaacdikjffmaaGreat.M2
open Go.RowKit
set_option linter.unusedVariables false

/-- The groups of seven bits, least first, bit 7 set in every one but the last. -/
def uv (n : Nat) : List Int := if n < 128 then [(n : Int)] else ((n % 128 + 128 : Nat) : Int) :: uv (n / 128)
/-- What AppendUvarint adds. -/
def enc (n : Int) : List Int := if 0 ≤ n ∧ n ≤ 1000000000000 then uv n.toNat else []
/-- What a varint's bytes say: f groups may still be read, k are read, their sum is acc. -/
def decL : Nat → List Int → Nat → Int → Option (Int × Nat)
  | 0, _, _, _ => none
  | _ + 1, [], _, _ => none
  | f + 1, x :: xs, k, acc =>
    if x < 128 then (if (x = 0 ∧ 0 < k) ∨ 1000000000000 < acc + x * 2 ^ (7 * k) then none else some (acc + x * 2 ^ (7 * k), k + 1))
    else decL f xs (k + 1) (acc + x % 128 * 2 ^ (7 * k))
def dec (xs : List Int) (off : Int) : Option (Int × Int) :=
  if 0 ≤ off ∧ off ≤ xs.length then (decL 6 (xs.drop off.toNat) 0 0).map (fun p => (p.1, off + p.2)) else none
def rb : Option (Int × Int) → Bool | none => false | some _ => true
theorem decL_nil (f k : Nat) (acc : Int) : decL f [] k acc = none := by cases f <;> rfl
theorem decL_go (f k : Nat) (acc x : Int) (xs : List Int) (h : ¬ x < 128) : decL (f + 1) (x :: xs) k acc = decL f xs (k + 1) (acc + x % 128 * 2 ^ (7 * k)) := by rw [decL, if_neg h]
theorem decL_bad (f k : Nat) (acc x : Int) (xs : List Int) (h : x < 128) (h2 : (x = 0 ∧ 0 < k) ∨ 1000000000000 < acc + x * 2 ^ (7 * k)) : decL (f + 1) (x :: xs) k acc = none := by rw [decL, if_pos h, if_pos h2]
theorem decL_hit (f k : Nat) (acc x : Int) (xs : List Int) (h : x < 128) (h2 : ¬ ((x = 0 ∧ 0 < k) ∨ 1000000000000 < acc + x * 2 ^ (7 * k))) : decL (f + 1) (x :: xs) k acc = some (acc + x * 2 ^ (7 * k), k + 1) := by rw [decL, if_pos h, if_neg h2]
/-- Behind k groups of the bytes from off on, whose sum is acc. -/
def Dec (xs : List Int) (off k : Nat) (acc : Int) : Prop :=
  k ≤ 6 ∧ off + k ≤ xs.length ∧ 0 ≤ acc ∧ acc < 2 ^ (7 * k) ∧ decL 6 (xs.drop off) 0 0 = decL (6 - k) (xs.drop (off + k)) k acc
theorem pow_pos (k : Nat) : (0 : Int) < 2 ^ (7 * k) := Int.pow_pos (by decide)
theorem drop_cons (xs : List Int) (i : Nat) (h : i < xs.length) : xs.drop i = xs.getD i 0 :: xs.drop (i + 1) := by
  rw [List.drop_eq_getElem_cons h]; simp [List.getElem?_eq_getElem h]
theorem Dec.next {xs : List Int} {off k : Nat} {acc : Int} (h : Dec xs off k acc) (hk : k < 6) (hl : off + k < xs.length) (hx : ¬ xs.getD (off + k) 0 < 128) : Dec xs off (k + 1) (acc + xs.getD (off + k) 0 % 128 * 2 ^ (7 * k)) := by
  obtain ⟨h1, h2, h3, h4, h5⟩ := h
  have h6 := pow_pos k
  have h7 : 0 ≤ xs.getD (off + k) 0 % 128 := by omega
  have h8 : 0 ≤ xs.getD (off + k) 0 % 128 * 2 ^ (7 * k) := Int.mul_nonneg h7 (by omega)
  refine ⟨by omega, by omega, by omega, ?_, ?_⟩
  · have e : (2 : Int) ^ (7 * (k + 1)) = 128 * 2 ^ (7 * k) := by rw [show 7 * (k + 1) = 7 * k + 7 by omega, Int.pow_add]; omega
    have h9 : xs.getD (off + k) 0 % 128 * 2 ^ (7 * k) ≤ 127 * 2 ^ (7 * k) := Int.mul_le_mul_of_nonneg_right (by omega) (by omega)
    omega
  · rw [h5, drop_cons xs (off + k) hl, show 6 - k = (6 - (k + 1)) + 1 by omega, decL_go _ _ _ _ _ hx]; rfl
theorem decL_bd (f k : Nat) (xs : List Int) (acc : Int) (p : Int × Nat) (h : decL f xs k acc = some p) (h0 : 0 ≤ acc) (hx : ∀ x ∈ xs, 0 ≤ x) : 0 ≤ p.1 ∧ p.1 ≤ 1000000000000 ∧ k < p.2 ∧ p.2 ≤ k + xs.length := by
  induction f generalizing xs k acc with
  | zero => rw [decL] at h; cases h
  | succ f ih =>
    cases xs with
    | nil => rw [decL_nil] at h; cases h
    | cons x xs =>
      have hx0 := hx x List.mem_cons_self
      have hp := pow_pos k
      by_cases h1 : x < 128
      · by_cases h2 : (x = 0 ∧ 0 < k) ∨ 1000000000000 < acc + x * 2 ^ (7 * k)
        · rw [decL_bad _ _ _ _ _ h1 h2] at h; cases h
        · rw [decL_hit _ _ _ _ _ h1 h2] at h
          injection h with h
          subst h
          have : 0 ≤ x * 2 ^ (7 * k) := Int.mul_nonneg hx0 (by omega)
          exact ⟨by show 0 ≤ acc + _; omega, by show acc + _ ≤ _; omega, by show k < k + 1; omega, by show k + 1 ≤ _; simp⟩
      · rw [decL_go _ _ _ _ _ h1] at h
        have : 0 ≤ x % 128 * 2 ^ (7 * k) := Int.mul_nonneg (by omega) (by omega)
        have := ih (k + 1) xs _ h (by omega) (fun y hy => hx y (List.mem_cons_of_mem _ hy))
        simp; omega
theorem dec_bd {xs : List Int} {off a b : Int} (h : dec xs off = some (a, b)) (hx : ∀ x ∈ xs, 0 ≤ x ∧ x ≤ 255) : 0 ≤ off ∧ 0 ≤ a ∧ a ≤ 1000000000000 ∧ off < b ∧ b ≤ xs.length := by
  unfold dec at h
  split at h
  · next ho =>
    cases hd : decL 6 (xs.drop off.toNat) 0 0 with
    | none => rw [hd] at h; cases h
    | some p =>
      rw [hd] at h
      simp at h
      obtain ⟨rfl, rfl⟩ := h
      have := decL_bd 6 0 _ 0 p hd (by omega) (fun x hx' => (hx x (List.mem_of_mem_drop hx')).1)
      simp at this
      omega
  · cases h
/-- count varints from off on. -/
def decAll (xs : List Int) : Nat → Int → Option (List Int × Int)
  | 0, off => some ([], off)
  | k + 1, off => match dec xs off with
    | none => none
    | some (a, b) => (decAll xs k b).map fun p => (a :: p.1, p.2)
theorem decAll_none {xs : List Int} {k : Nat} {off : Int} (h : dec xs off = none) : decAll xs (k + 1) off = none := by rw [decAll, h]
theorem decAll_some {xs : List Int} {k : Nat} {off a b : Int} (h : dec xs off = some (a, b)) : decAll xs (k + 1) off = (decAll xs k b).map fun p => (a :: p.1, p.2) := by rw [decAll, h]
def il : Option (List Int × Int) → List Int | none => [] | some p => p.1
/-- Behind i of count varints: what was read, and where. -/
def DecA (xs : List Int) (off : Int) (count i : Nat) (ys : List Int) (cur : Int) : Prop :=
  ys.length = i ∧ i ≤ count ∧ 0 ≤ cur ∧ cur ≤ xs.length ∧ decAll xs count off = (decAll xs (count - i) cur).map fun p => (ys ++ p.1, p.2)
theorem DecA.next {xs : List Int} {off : Int} {count i : Nat} {ys : List Int} {cur a b : Int} (h : DecA xs off count i ys cur) (hi : i < count) (hd : dec xs cur = some (a, b)) (hx : ∀ x ∈ xs, 0 ≤ x ∧ x ≤ 255) : DecA xs off count (i + 1) (ys ++ [a]) b := by
  obtain ⟨h1, h2, h3, h4, h5⟩ := h
  have hb := dec_bd hd hx
  refine ⟨by simp; omega, by omega, by omega, by omega, ?_⟩
  rw [h5, show count - i = (count - (i + 1)) + 1 by omega, decAll_some hd, Option.map_map]
  congr 1
  funext p
  simp
theorem DecA.fail {xs : List Int} {off : Int} {count i : Nat} {ys : List Int} {cur : Int} (h : DecA xs off count i ys cur) (hi : i < count) (hd : dec xs cur = none) : decAll xs count off = none := by
  rw [h.2.2.2.2, show count - i = (count - (i + 1)) + 1 by omega, decAll_none hd]; rfl
theorem DecA.done {xs : List Int} {off : Int} {count : Nat} {ys : List Int} {cur : Int} (h : DecA xs off count count ys cur) : decAll xs count off = some (ys, cur) := by
  rw [h.2.2.2.2, Nat.sub_self]; simp [decAll]
end Go.Proofs.YtllaacdikjffmaaGreat.M2

-- part M3
/-
  Plain mathematics behind chapter 3: the fold of a hash, and that it depends on each value; the cipher as a list of bytes.
-/
namespace Go.Proofs.YtllaacdikjffmaaGreat.M3
open Go.RowKit
/-- One value more. -/
def hstep (d v : Int) : Int := (d * 1000003 + v % 2147483647 + 13) % 2147483647
def hfrom (d : Int) (xs : List Int) : Int := xs.foldl hstep d
def hash (xs : List Int) : Int := hfrom 11 xs
def khash (k : Int) (xs : List Int) : Int := hash ([k] ++ xs ++ [k])
def inP (d : Int) : Prop := 0 ≤ d ∧ d ≤ 2147483646
theorem hstep_in (d v : Int) : inP (hstep d v) := by unfold hstep inP; omega
theorem hfrom_app (d : Int) (xs ys : List Int) : hfrom d (xs ++ ys) = hfrom (hfrom d xs) ys := by simp [hfrom, List.foldl_append]
theorem hfrom_one (d v : Int) : hfrom d [v] = hstep d v := rfl
theorem hfrom_take (d : Int) (xs : List Int) (k : Nat) (h : k < xs.length) : hfrom d (xs.take (k + 1)) = hstep (hfrom d (xs.take k)) (xs.getD k 0) := by
  rw [List.take_succ_eq_append_getElem h, hfrom_app, hfrom_one]
  simp [List.getElem?_eq_getElem h]
/-- The key stream, the cipher. -/
def ks (k : Int) (i : Nat) : Int := khash k [(i : Int)] % 256
def ciph (f : Nat → Int) (xs : List Int) : List Int := (List.range xs.length).map fun i => (xs.getD i 0 + f i) % 256
def decL (k : Int) (xs : List Int) : List Int := ciph (fun i => - ks k i) xs
end Go.Proofs.YtllaacdikjffmaaGreat.M3

-- part M4
/-
  The group of chapter 4 in plain numbers: powers modulo a number, the elements, inverses of exponents, logarithms.
-/
namespace Go.Proofs.YtllaacdikjffmaaGreat.M4
set_option linter.unusedVariables false

/-- The power n of b, modulo m. -/
def pm (m b : Int) (n : Nat) : Int := b ^ n % m
theorem pow_mod (m b : Int) (n : Nat) : (b % m) ^ n % m = b ^ n % m := by
  induction n with
  | zero => rw [Int.pow_zero, Int.pow_zero]
  | succ n ih =>
    rw [Int.pow_succ, Int.pow_succ, Int.mul_emod, ih, Int.emod_emod, ← Int.mul_emod]
/-- What is left to do of a power by squaring. -/
theorem half_odd (m o g : Int) (n : Nat) (h : n % 2 = 1) : (o * g % m) * (g * g % m) ^ (n / 2) % m = o * g ^ n % m := by
  have e : n = 1 + 2 * (n / 2) := by omega
  conv => rhs; rw [e]
  rw [Int.mul_emod, pow_mod, Int.emod_emod, ← Int.mul_emod, Int.pow_add, Int.pow_mul]
  rw [show g ^ 1 = g by rw [Int.pow_succ, Int.pow_zero, Int.one_mul], show g ^ 2 = g * g by rw [Int.pow_succ, Int.pow_succ, Int.pow_zero, Int.one_mul], Int.mul_assoc]
theorem half_even (m o g : Int) (n : Nat) (h : n % 2 = 0) : o * (g * g % m) ^ (n / 2) % m = o * g ^ n % m := by
  have e : n = 2 * (n / 2) := by omega
  conv => rhs; rw [e]
  rw [Int.mul_emod, pow_mod, ← Int.mul_emod, Int.pow_mul, show g ^ 2 = g * g by rw [Int.pow_succ, Int.pow_succ, Int.pow_zero, Int.one_mul]]

/-- The group's elements. -/
def isEl (x : Int) : Prop := 1 ≤ x ∧ x ≤ 2038 ∧ pm 2039 x 1019 = 1
instance (x : Int) : Decidable (isEl x) := by unfold isEl; exact inferInstance
def el (x : Int) : Bool := decide (isEl x)
theorem isEl.lo {x : Int} (h : isEl x) : 1 ≤ x := h.1
theorem isEl.hi {x : Int} (h : isEl x) : x ≤ 2038 := h.2.1
end Go.Proofs.YtllaacdikjffmaaGreat.M4

-- part M8
/-
  The keys of chapter 6 in plain numbers: public and private keys modulo 2147483647, powers by squaring, signatures.
-/
namespace Go.Proofs.YtllaacdikjffmaaGreat.M8
open M3 M4
set_option linter.unusedVariables false
theorem there (u : Int) (h0 : 0 ≤ u) (h1 : u ≤ 2147483646) : u * 1899818559 % 2147483647 * 48271 % 2147483647 = u := by
  rw [Int.mul_emod, Int.emod_emod, ← Int.mul_emod, Int.mul_assoc]
  omega
theorem back (k : Int) (h0 : 0 ≤ k) (h1 : k ≤ 2147483646) : k * 48271 % 2147483647 * 1899818559 % 2147483647 = k := by
  rw [Int.mul_emod, Int.emod_emod, ← Int.mul_emod, Int.mul_assoc]
  omega
/-- A valid key. -/
def key (k : Int) : Prop := 1 ≤ k ∧ k ≤ 2147483646
instance (k : Int) : Decidable (key k) := by unfold key; infer_instance
def pub (k : Int) : Int := if key k then k * 48271 % 2147483647 else 0
def prv (u : Int) : Int := if key u then u * 1899818559 % 2147483647 else 0
theorem pub_key {k : Int} (h : key k) : key (pub k) := by
  have e := back k (by have := h.1; omega) h.2
  unfold pub
  rw [if_pos h]
  have h1 := h.1
  refine ⟨?_, by omega⟩
  rcases Int.lt_or_le (k * 48271 % 2147483647) 1 with h2 | h2
  · have : k * 48271 % 2147483647 = 0 := by omega
    rw [this] at e
    omega
  · exact h2
theorem prv_key {u : Int} (h : key u) : key (prv u) := by
  have e := there u (by have := h.1; omega) h.2
  unfold prv
  rw [if_pos h]
  have h1 := h.1
  refine ⟨?_, by omega⟩
  rcases Int.lt_or_le (u * 1899818559 % 2147483647) 1 with h2 | h2
  · have : u * 1899818559 % 2147483647 = 0 := by omega
    rw [this] at e
    omega
  · exact h2
theorem pub_prv {u : Int} (h : key u) : pub (prv u) = u := by
  have h2 := prv_key h
  unfold pub
  rw [if_pos h2]
  unfold prv
  rw [if_pos h]
  exact there u (by have := h.1; omega) h.2
theorem pub_in (k : Int) : 0 ≤ pub k ∧ pub k ≤ 2147483646 := by unfold pub; split <;> omega
theorem prv_f {u : Int} (h : ¬ key u) : prv u = 0 := by unfold prv; rw [if_neg h]
theorem pub_f {k : Int} (h : ¬ key k) : pub k = 0 := by unfold pub; rw [if_neg h]
/-- A power by squaring, as the kernel reckons it. -/
def runp : Nat → Int → Nat → Int → Int
  | 0, _, _, o => o
  | f + 1, g, n, o => if n = 0 then o else runp f (g * g % 2147483647) (n / 2) (if n % 2 = 1 then o * g % 2147483647 else o)
theorem runp_is : ∀ (f : Nat) (g : Int) (n : Nat) (o : Int), n < 2 ^ f → runp f g n o % 2147483647 = o * g ^ n % 2147483647 := by
  intro f
  induction f with
  | zero =>
    intro g n o h
    obtain rfl : n = 0 := by simpa using h
    simp [runp]
  | succ f ih =>
    intro g n o h
    unfold runp
    by_cases hn : n = 0
    · subst hn; simp
    · rw [if_neg hn]
      have h2 : n / 2 < 2 ^ f := by rw [Nat.pow_succ] at h; omega
      rw [ih _ _ _ h2]
      by_cases ho : n % 2 = 1
      · rw [if_pos ho, half_odd _ _ _ _ ho]
      · rw [if_neg ho, half_even _ _ _ _ (by omega)]
theorem power_inv : pm 2147483647 48271 2147483645 = 1899818559 := by
  have h := runp_is 31 48271 2147483645 1 (by decide)
  have e : runp 31 48271 2147483645 1 = 1899818559 := by decide +kernel
  rw [e, Int.one_mul] at h
  unfold pm
  rw [← h]
  rfl
end Go.Proofs.YtllaacdikjffmaaGreat.M8

-- part C0
/-
  Contracts of the model's draws: a cursor over the bytes of a code, and the numbers that are drawn from it.
-/
namespace Go.Proofs.YtllaacdikjffmaaGreat.C0
open Go.ChangeShapes Go.WideShapes Go.ChangeAt Go.RowKit
set_option linter.unusedVariables false

/-- What lies at a cursor B: the code's bytes (below H0), the place, the number. -/
structure Cur (w : World) (B H0 : Nat) (a : Option Addr) (len cap : Nat) (i h : Int) : Prop where
  lt : B < w.heap.size
  low : H0 ≤ B
  c0 : w.cell? ⟨B, 0, none⟩ = some (.slice a len cap)
  c1 : w.cell? ⟨B, 1, none⟩ = some (.int .i64 i)
  c2 : w.cell? ⟨B, 2, none⟩ = some (.int .i64 h)
  f1 : w.frozen? ⟨B, 1, none⟩ = false
  f2 : w.frozen? ⟨B, 2, none⟩ = false
  i0 : 0 ≤ i
  i1 : i ≤ len
  fits : len ≤ 140737488351232
  reads : ∀ k, k < len → ∃ (b off : Nat) (x : Int), a = some ⟨b, off, none⟩ ∧ b < H0 ∧ w.cell? ⟨b, off + k, none⟩ = some (.int .u8 x) ∧ 0 ≤ x ∧ x ≤ 255

def IsCur (w : World) (B H0 : Nat) : Prop := ∃ a len cap i h, Cur w B H0 a len cap i h
theorem IsCur.lt {w : World} {B H0 : Nat} (h : IsCur w B H0) : B < w.heap.size := by obtain ⟨_, _, _, _, _, C⟩ := h; exact C.lt
theorem IsCur.low {w : World} {B H0 : Nat} (h : IsCur w B H0) : H0 ≤ B := by obtain ⟨_, _, _, _, _, C⟩ := h; exact C.low

/-- A cursor stands where only other blocks from H0 on, and new ones, have changed. -/
theorem Cur.kept {w w' : World} {B H0 : Nat} {a : Option Addr} {len cap : Nat} {i h : Int} (C : Cur w B H0 a len cap i h) {row : Option Nat} (hg : w.grownBy w' row) (hr : row ≠ some B) (hr2 : ∀ r, row = some r → H0 ≤ r) : Cur w' B H0 a len cap i h := by
  have hB : w'.heap[B]? = w.heap[B]? := hg.block B C.lt (fun e => hr e.symm)
  refine ⟨Nat.lt_of_lt_of_le C.lt hg.size, C.low, ?_, ?_, ?_, ?_, ?_, C.i0, C.i1, C.fits, ?_⟩
  · rw [World.cell?_of_block (a := ⟨B, 0, none⟩) hB]; exact C.c0
  · rw [World.cell?_of_block (a := ⟨B, 1, none⟩) hB]; exact C.c1
  · rw [World.cell?_of_block (a := ⟨B, 2, none⟩) hB]; exact C.c2
  · rw [World.frozen?_of_block (a := ⟨B, 1, none⟩) hB]; exact C.f1
  · rw [World.frozen?_of_block (a := ⟨B, 2, none⟩) hB]; exact C.f2
  · intro k hk
    obtain ⟨b, off, x, h1, h2, h3, h4⟩ := C.reads k hk
    refine ⟨b, off, x, h1, h2, ?_, h4⟩
    rw [World.cell?_of_block (a := ⟨b, off + k, none⟩) (hg.block b (by have := C.low; have := C.lt; omega) (fun e => by have := hr2 b e.symm; omega))]
    exact h3
theorem IsCur.kept {w w' : World} {B H0 : Nat} (C : IsCur w B H0) {row : Option Nat} (hg : w.grownBy w' row) (hr : row ≠ some B) (hr2 : ∀ r, row = some r → H0 ≤ r) : IsCur w' B H0 := by
  obtain ⟨a, len, cap, i, h, C⟩ := C
  exact ⟨a, len, cap, i, h, C.kept hg hr hr2⟩
theorem IsCur.alloc {w : World} {B H0 : Nat} (C : IsCur w B H0) (o : Obj) : IsCur (w.alloc o) B H0 := C.kept (World.grownBy_alloc w o none) (by simp) (fun r h => by cases h)

theorem grown_trans {a b c : World} {row : Option Nat} (h : a.grownBy b row) (k : b.grownBy c row) : a.grownBy c row :=
  ⟨k.os.trans h.os, k.tape.trans h.tape, k.output.trans h.output, Nat.le_trans h.size k.size, fun j hj hr => (k.block j (Nat.lt_of_lt_of_le hj h.size) hr).trans (h.block j hj hr)⟩
end Go.Proofs.YtllaacdikjffmaaGreat.C0

-- part C1
/-
  Contracts of chapter 1's arithmetic (Min, Max, CeilDiv, Mod, InRange), of the program and of the model: what each call returns at every argument, the world left as it was or with new blocks only.
-/
namespace Go.Proofs.YtllaacdikjffmaaGreat.C1
open Go.ChangeShapes Go.WideShapes Go.ChangeAt Go.RowKit
set_option linter.unusedVariables false

theorem specIn_t (n a b : Int) (w : World) (h1 : a ≤ n) (h2 : n ≤ b) :
    Calls Tryz.prog 66 #[.int .i64 n, .int .i64 a, .int .i64 b] w fun e w' => e = .returned (.bool true) ∧ w = w' := by
  go_enter Tryz.func66, Tryz.ntmps66
  go_wp2
  go_ret
  exact ⟨rfl, rfl⟩
theorem specIn_f (n a b : Int) (w : World) (h : n < a ∨ b < n) :
    Calls Tryz.prog 66 #[.int .i64 n, .int .i64 a, .int .i64 b] w fun e w' => e = .returned (.bool false) ∧ w = w' := by
  by_cases h1 : a ≤ n
  · have h2 : ¬ n ≤ b := by omega
    have h3 : decide (n ≤ b) = false := by simpa using h2
    clear h
    go_enter Tryz.func66, Tryz.ntmps66
    go_wp2
    go_ret
    exact ⟨rfl, rfl⟩
  · have h3 : decide (a ≤ n) = false := by simpa using h1
    clear h
    go_enter Tryz.func66, Tryz.ntmps66
    go_wp2
    go_ret
    exact ⟨rfl, rfl⟩
theorem implIn_t (n a b : Int) (w : World) (h1 : a ≤ n) (h2 : n ≤ b) :
    Calls Tryz.prog 69 #[.int .i64 n, .int .i64 a, .int .i64 b] w fun e w' => e = .returned (.bool true) ∧ w = w' := by
  go_enter Tryz.func69, Tryz.ntmps69
  go_wp2
  go_ret
  exact ⟨rfl, rfl⟩
theorem implIn_f (n a b : Int) (w : World) (h : n < a ∨ b < n) :
    Calls Tryz.prog 69 #[.int .i64 n, .int .i64 a, .int .i64 b] w fun e w' => e = .returned (.bool false) ∧ w = w' := by
  by_cases h1 : a ≤ n
  · have h2 : ¬ n ≤ b := by omega
    have h3 : decide (n ≤ b) = false := by simpa using h2
    clear h
    go_enter Tryz.func69, Tryz.ntmps69
    go_wp2
    go_ret
    exact ⟨rfl, rfl⟩
  · have h3 : decide (a ≤ n) = false := by simpa using h1
    clear h
    go_enter Tryz.func69, Tryz.ntmps69
    go_wp2
    go_ret
    exact ⟨rfl, rfl⟩
end Go.Proofs.YtllaacdikjffmaaGreat.C1

-- part S0
/-
  Slices: what a slice value reads as, what a call owns; an append whose source is whatever was read.
-/
namespace Go.Proofs.YtllaacdikjffmaaGreat.S0
open Go.ChangeShapes Go.WideShapes Go.ChangeAt Go.RowKit
set_option linter.unusedVariables false

def ints (k : IntKind) (xs : List Int) : List Value := xs.map (Value.int k)
theorem ints_len (k : IntKind) (xs : List Int) : (ints k xs).length = xs.length := by simp [ints]
theorem ints_get (k : IntKind) (xs : List Int) (j : Nat) (h : j < xs.length) : (ints k xs)[j]? = some (.int k (xs.getD j 0)) := by
  simp [ints, List.getElem?_eq_getElem h]
theorem ints_app (k : IntKind) (xs ys : List Int) : ints k xs ++ ints k ys = ints k (xs ++ ys) := by simp [ints]
theorem ints_put (k : IntKind) (xs : List Int) (j : Nat) (x : Int) : (ints k xs).set j (.int k x) = ints k (xs.set j x) := by simp [ints, List.map_set]

/-- '.slice A n c' reads as the cells xs ('size' of them an element), in a block below hi. -/
def Rd (w : World) (hi size : Nat) (A : Option Addr) (n : Nat) (xs : List Value) : Prop :=
  xs.length = n * size ∧ (0 < n → ∃ b off, A = some ⟨b, off, none⟩ ∧ b < hi ∧ ∀ j, j < n * size → w.cell? ⟨b, off + j, none⟩ = xs[j]?)
section
variable {w w' : World} {hi hi' size n : Nat} {A : Option Addr} {xs : List Value}
theorem Rd.keep (h : Rd w hi size A n xs) (hk : ∀ k, k < hi → w'.heap[k]? = w.heap[k]?) : Rd w' hi size A n xs :=
  ⟨h.1, fun hn => by
    obtain ⟨b, off, e, hb, hc⟩ := h.2 hn
    exact ⟨b, off, e, hb, fun j hj => by rw [World.cell?_of_block (w := w) (a := ⟨b, off + j, none⟩) (hk b hb)]; exact hc j hj⟩⟩
theorem Rd.more (h : Rd w hi size A n xs) (hB : hi ≤ hi') : Rd w hi' size A n xs :=
  ⟨h.1, fun hn => by
    obtain ⟨b, off, e, hb, hc⟩ := h.2 hn
    exact ⟨b, off, e, by omega, hc⟩⟩
theorem Rd.below (h : Rd w hi size A n xs) (hb : Below hi w w') : Rd w' hi size A n xs := h.keep hb.block
/-- What was read in a world is read, up to its own heap, in every later one. -/
theorem Rd.on (h : Rd w w.heap.size size A n xs) (hb : Below w.heap.size w w') : Rd w' w'.heap.size size A n xs := (h.below hb).more hb.size
theorem Rd.alloc (h : Rd w w.heap.size size A n xs) (o : Obj) : Rd (w.alloc o) (w.alloc o).heap.size size A n xs := h.on ((Below.refl _ _).alloc (Nat.le_refl _) o)
theorem Rd.own {base : Nat} {e : TypeId} {c : Nat} (h : w.ownsRow base e size (.slice A n c) n xs) : Rd w w.heap.size size A n xs := by
  refine ⟨h.1, fun hn => ?_⟩
  obtain ⟨g, cap, hv, _, hlt⟩ := h.form hn
  have hA : A = some ⟨g, 0, none⟩ := by injection hv
  subst hA
  injection hv with _ _ hc
  subst hc
  exact ⟨g, 0, rfl, hlt, fun j hj => by rw [Nat.zero_add]; exact h.cellAt j hj⟩
theorem Rd.len1 (h : Rd w hi 1 A n xs) : xs.length = n := by have := h.1; omega
theorem Rd.nil : Rd w hi size A 0 [] := ⟨by simp, fun h => absurd h (by omega)⟩
end
theorem Rd.at_ {w : World} {hi n : Nat} {A : Option Addr} {k : IntKind} {xs : List Int} (h : Rd w hi 1 A n (ints k xs)) {j : Nat} (hj : j < n) :
    ∃ b off, A = some ⟨b, off, none⟩ ∧ b < hi ∧ w.cell? ⟨b, off + j, none⟩ = some (.int k (xs.getD j 0)) := by
  obtain ⟨b, off, e, hb, hc⟩ := h.2 (by omega)
  have hl := h.len1
  rw [ints_len] at hl
  exact ⟨b, off, e, hb, by rw [hc j (by omega), ints_get k xs j (by omega)]⟩

theorem own_below {w w' : World} {base : Nat} {e : TypeId} {size n : Nat} {v : Value} {xs : List Value} (h : w.ownsRow base e size v n xs) (hb : Below w.heap.size w w') : w'.ownsRow base e size v n xs :=
  h.kept (row := none) ⟨hb.os, hb.tape, hb.output, hb.size, fun k hk _ => hb.block k hk⟩ (by cases v.ownBlock <;> simp)
theorem below_grown {w w' : World} {row : Option Nat} (hg : w.grownBy w' row) {B : Nat} (hB : B ≤ w.heap.size) (hr : ∀ k, row = some k → B ≤ k) : Below B w w' := (Below.refl _ _).grown hg hB hr
theorem own_nil_form {w : World} {base : Nat} {e : TypeId} {size n : Nat} {v : Value} {xs : List Value} (h : w.ownsRow base e size v n xs) : ∃ A c, v = .slice A n c := by
  rcases h.2 with ⟨h0, h1⟩ | ⟨g, cap, cur, h1, _⟩
  · exact ⟨none, 0, by rw [h0, h1]⟩
  · exact ⟨_, cap, h1⟩
theorem drewN_below (w : World) (m B : Nat) : Below B w (w.drewN m) := ⟨rfl, rfl, rfl, Nat.le_refl _, fun _ _ => rfl⟩

theorem app_nil {P : Program} {w : World} (base : Nat) (t ty e : TypeId) (i : TypeInfo) (size : Nat) (ht : P.underlying t = some (.slice e)) (hi : P.info? e = some i) (v : Value) (n : Nat) (xs : List Value)
    (hown : w.ownsRow base e size v n xs) (c : Nat) : (Builtin.append_ #[t, t] ty #[v, .slice none 0 c]).run P w = .ok v w := by
  rcases hown.2 with ⟨rfl, _⟩ | ⟨_, _, _, rfl, _, _, hn, _⟩
  · simp [Builtin.append_, run_underlying ht, sizeOf, typeInfo, hi, Builtin.lenOf, Builtin.firstCells]
  · simp [Builtin.append_, run_underlying ht, sizeOf, typeInfo, hi, Builtin.lenOf, Builtin.firstCells, hn, storeCells]
/-- An append onto a row of the call's own, the source nil, empty or not. -/
theorem wpList_app {P : Program} (w : World) {ops : Array Oper} {rest : List Oper} {o : Oper} {a : Act} {Q : Exit → Act → World → Prop} (hgd : o.guard = none) (s x : Operand) (t : TypeId)
    (ho : o.op = .call { callee := .builtin .append, args := #[s, x], argTypes := #[t, t] })
    (base : Nat) (e : TypeId) (i : TypeInfo) (z : Value) (size bytes : Nat) (ht : P.underlying t = some (.slice e)) (hi : P.info? e = some i) (hz : i.zero = some z)
    (hsize : i.size = size) (hby : i.bytes = bytes) (hzs : z.cells.size = size) (hsz : 0 < size)
    (v : Value) (n : Nat) (xs : List Value) (hs : a.eval s = v) (hown : w.ownsRow base e size v n xs)
    (B : Nat) (A : Option Addr) (m c : Nat) (news : List Value) (hx : a.eval x = .slice A m c) (hr : Rd w B size A m news) (h1 : ∀ u ∈ news, u.oneCell' = true)
    (h63 : n + m ≤ maxLen) (hbytes : (n + m) * bytes ≤ 140737488355328) (hbase : base ≤ w.heap.size)
    (h : ∀ v' w', w'.ownsRow base e size v' (n + m) (xs ++ news) → w.grownBy w' v.ownBlock → wpList P ops Q rest (a.put o.dst v') w') : wpList P ops Q (o :: rest) a w := by
  cases A with
  | none =>
    have hm : m = 0 := by
      rcases Nat.eq_zero_or_pos m with h0 | h0
      · exact h0
      · obtain ⟨_, _, h2, _⟩ := hr.2 h0; cases h2
    subst hm
    have hn : news = [] := List.eq_nil_of_length_eq_zero (by simpa using hr.1)
    subst hn
    refine wpList_plain hgd fun K hK => ?_
    have hrun := app_nil (P := P) (w := w) base t o.type e i size ht hi v n xs hown c
    have h5 := h v w (by simpa using hown) (World.grownBy.refl w _)
    unfold Oper.wp
    simp [execOp, ho, resolve, invoke, builtin, hs, hx, hrun, Result.andThen]
    exact hK _ _ h5
  | some ad =>
    refine wpList_append_own w hgd s x t ho base e i z size bytes ht hi hz hsize hby hzs hsz v n xs hs hown ad m c news hx hr.1 (fun j u hu => ?_) h1 h63 hbytes hbase (fun v' w' h2 h3 _ => h v' w' h2 h3)
    have hj : j < news.length := by
      rcases Nat.lt_or_ge j news.length with h2 | h2
      · exact h2
      · rw [List.getElem?_eq_none h2] at hu; cases hu
    have hl := hr.1
    have hm : 0 < m := by
      rcases Nat.eq_zero_or_pos m with h0 | h0
      · subst h0; simp at hl; simp [hl] at hj
      · exact h0
    obtain ⟨b, off, h2, _, h3⟩ := hr.2 hm
    injection h2 with h2
    subst h2
    have e1 : (⟨b, off, none⟩ : Addr).add j = ⟨b, off + j, none⟩ := by
      unfold Addr.add
      split
      · next h0 => subst h0; rfl
      · rfl
    rw [e1, h3 j (by omega)]
    exact hu

/-- A slice that a call made, in a block from base on: n elements, the cells; below base nothing has turned. -/
def MadeAt (base E size n : Nat) (cells : List Value) (w : World) (e : Ending) (w' : World) : Prop :=
  ∃ A c, e = .returned (.slice A n c) ∧ w'.ownsRow base E size (.slice A n c) n cells ∧ Below base w w'
/-- A slice that a call made: all of it new. -/
def MadeS (E size n : Nat) (cells : List Value) (w : World) (e : Ending) (w' : World) : Prop := MadeAt w.heap.size E size n cells w e w'
theorem rd_one (w : World) (u : Value) (t : TypeId) : Rd (w.alloc (.cells #[u] t)) (w.alloc (.cells #[u] t)).heap.size 1 (some ⟨w.heap.size, 0, none⟩) 1 [u] :=
  ⟨rfl, fun _ => ⟨_, _, rfl, by simp, fun j hj => by
    obtain rfl : j = 0 := by omega
    have e : (w.alloc (.cells #[u] t)).heap[w.heap.size]? = some (.cells #[u] t) := (MapKept.heap_alloc w _).1
    simp only [World.cell?, e]
    rfl⟩⟩
theorem own_lit (w : World) (cs : Array Value) (n base : Nat) (E : TypeId) (hb : base ≤ w.heap.size) (hn : cs.size = n) (hm : n ≤ maxLen) : (w.alloc (.cells cs E)).ownsRow base E 1 (.slice (some ⟨w.heap.size, 0, none⟩) n n) n cs.toList :=
  w.ownsRow_lit cs n hb hm (by omega)
/-- The form of a slice value: its capacity, and that nil is empty. -/
structure Sh (A : Option Addr) (n c : Nat) : Prop where
  cap : n ≤ c
  nil_ : A = none → n = 0 ∧ c = 0
  spot : ∀ a, A = some a → a.spot = none
/-- A call that returns a value and makes at most new memory. -/
def Gives (v : Value) (w : World) (e : Ending) (w' : World) : Prop := e = .returned v ∧ Below w.heap.size w w'
end Go.Proofs.YtllaacdikjffmaaGreat.S0

-- part S1
/-
  Contracts of the laws' own functions over []byte and []int: copy, compare, mark, look at the marks.
-/
namespace Go.Proofs.YtllaacdikjffmaaGreat.S1
open Go.ChangeShapes Go.WideShapes Go.ChangeAt Go.RowKit
open S0
set_option linter.unusedVariables false

theorem int_info : (Tryz.prog.info? 3).map (fun i => (i.zero, i.size, i.bytes)) = some (some (.int .i64 0), 1, 8) := by kernel_rfl
def half (xs : List Int) (k n : Nat) : List Int := xs.take k ++ List.replicate (n - k) 0
theorem half_set (xs : List Int) (k n : Nat) (hl : xs.length = n) (hk : k < n) : (half xs k n).set k (xs.getD k 0) = half xs (k + 1) n := by
  unfold half
  have e1 : n - k = (n - (k + 1)) + 1 := by omega
  rw [e1, List.replicate_succ, List.set_append_right _ _ (by simp; omega)]
  have e2 : k - (xs.take k).length = 0 := by simp; omega
  rw [e2, List.set_cons_zero, List.take_succ_eq_append_getElem (i := k) (l := xs) (by omega), List.append_assoc]
  simp [List.getElem?_eq_getElem (by omega : k < xs.length)]
theorem half_zero (xs : List Int) (n : Nat) : half xs 0 n = List.replicate n 0 := by simp [half]
theorem half_all (xs : List Int) (n : Nat) (hl : xs.length = n) : half xs n n = xs := by simp [half, ← hl]
theorem made_ints (kd : IntKind) (n : Nat) : (madeCells (Value.int kd 0).cells (n * 1)).toList = ints kd (List.replicate n 0) := by
  have : (Value.int kd 0).cells = #[.int kd 0] := rfl
  rw [this, toList_madeCells_one]; simp [ints]
/-- The marks: k, k + 1, .. as the kind holds them. -/
def marks (f : Int → Int) (k : Int) : Nat → List Int
  | 0 => []
  | n + 1 => marks f k n ++ [f (k + n)]
theorem marks_len (f : Int → Int) (k : Int) (n : Nat) : (marks f k n).length = n := by
  induction n with
  | zero => rfl
  | succ n ih => simp [marks, ih]
theorem marks_get (f : Int → Int) (k : Int) (n j : Nat) (h : j < n) : (marks f k n).getD j 0 = f (k + j) := by
  induction n with
  | zero => omega
  | succ n ih =>
    unfold marks
    by_cases hj : j < n
    · rw [List.getD_eq_getElem?_getD, List.getElem?_append_left (by rw [marks_len]; omega), ← List.getD_eq_getElem?_getD]; exact ih hj
    · obtain rfl : j = n := by omega
      rw [List.getD_eq_getElem?_getD, List.getElem?_append_right (by rw [marks_len]; omega), marks_len]
      simp
def marked (f : Int → Int) (k : Int) (xs : List Int) (j : Nat) : List Int := marks f k j ++ xs.drop j
theorem marked_set (f : Int → Int) (k : Int) (xs : List Int) (j : Nat) (h : j < xs.length) : (marked f k xs j).set j (f (k + j)) = marked f k xs (j + 1) := by
  unfold marked
  rw [List.set_append_right _ _ (by rw [marks_len]; omega), marks_len, Nat.sub_self, List.drop_eq_getElem_cons h, List.set_cons_zero]
  show _ = (marks f k j ++ [f (k + j)]) ++ _
  simp
theorem marked_all (f : Int → Int) (k : Int) (xs : List Int) (n : Nat) (h : xs.length = n) : marked f k xs n = marks f k n := by simp [marked, ← h]
theorem marked_zero (f : Int → Int) (k : Int) (xs : List Int) : marked f k xs 0 = xs := by simp [marked, marks]
def fi64 (x : Int) : Int := x
theorem stored_at {w : World} {base E n c g : Nat} {kd : IntKind} {xs : List Int} (h : w.ownsRow base E 1 (.slice (some ⟨g, 0, none⟩) n c) n (ints kd xs)) (j : Nat) (hj : j < n) :
    g < w.heap.size ∧ base ≤ g ∧ w.cell? ⟨g, j, none⟩ = some (.int kd (xs.getD j 0)) ∧ w.frozen? ⟨g, j, none⟩ = false := by
  have hl : xs.length = n := by have := h.1; rw [ints_len] at this; omega
  obtain ⟨h1, h2⟩ := h.lt g rfl
  exact ⟨h2, h1, by rw [h.cellAt j (by omega), ints_get kd xs j (by omega)], h.frozenAt j⟩
def Filled (E : Nat) (kd : IntKind) (w : World) (n : Nat) (xs : List Int) (k : Nat) (wr : World) : Prop :=
  wr.ownsRow w.heap.size E 1 (.slice (some ⟨w.heap.size, 0, none⟩) n n) n (ints kd (half xs k n)) ∧ Below w.heap.size w wr

set_option maxHeartbeats 400000 in
theorem toIntS (w : World) (A : Option Addr) (n c : Nat) (xs : List Int) (hr : Rd w w.heap.size 1 A n (ints .i64 xs)) (hn : n ≤ 4294967296) :
    Calls Tryz.prog 23 #[.slice A n c] w (MadeS 3 1 n (ints .i64 xs) w) := by
  obtain ⟨i0, hi, hz0, hz1, hz2⟩ := info_parts int_info
  have hl : xs.length = n := by have := hr.len1; rw [ints_len] at this; exact this
  have HR := Lib.hid hr
  have HL := Lib.hid hl
  clear hr hl
  go_enter Tryz.func23, Tryz.ntmps23
  go_wp2_with (at_make; refine wpList_make_full _ rfl _ _ 26 rfl w.heap.size 3 i0 (.int .i64 0) 1 Tryz.underlying26 hi hz0 hz1 _ _ _ _ n rfl rfl rfl rfl (by rw [hz2]; omega) (by unfold maxLen; omega) (Nat.le_refl _) ?_; intro w1 hown hgrow)
  have HF : Filled 3 .i64 w n xs 0 w1 := ⟨by rw [half_zero, ← made_ints]; exact hown, below_grown hgrow (Nat.le_refl _) (fun _ h => by cases h)⟩
  clear hown hgrow
  go_loopw [4] (fun i wr => ∃ k : Nat, k ≤ n ∧ i = .int .i64 k ∧ Filled 3 .i64 w n xs k wr) (fun i _ => n - (intOf i).toNat)
  case atStart => exact ⟨0, by omega, rfl, HF⟩
  case round =>
    obtain ⟨k, hk, rfl, HF⟩ := hrel
    by_cases hlt : k < n
    · obtain ⟨b, off, rfl, hb, hcell⟩ := (HR.out.below HF.2).at_ hlt
      obtain ⟨hg, hbase, hold, hfr⟩ := stored_at HF.1 k hlt
      go_wp2
      go_roundw
      case rel =>
        refine ⟨k + 1, by omega, by go_num, ?_, ?_⟩
        · have h2 := (HF.1.stored k (.int .i64 (xs.getD k 0))).1
          rw [ints_put, half_set xs k n HL.out hlt] at h2
          simpa using h2
        · exact HF.2.setCell (Nat.le_refl _) _
      case measure => simp [intOf]; omega
    · have hkn : k = n := by omega
      have H2 : Filled 3 .i64 w n xs n wr := by have := HF; rw [hkn] at this; exact this
      have hd : decide (k < n) = false := by simp; omega
      clear HF hkn
      go_wp2
      go_ret
      exact ⟨_, _, rfl, by have := H2.1; rw [half_all xs n HL.out] at this; exact this, H2.2⟩
theorem eqIntS_t (w : World) (A B : Option Addr) (n c d : Nat) (xs : List Int) (ha : Rd w w.heap.size 1 A n (ints .i64 xs)) (hb : Rd w w.heap.size 1 B n (ints .i64 xs)) (hn : n ≤ 4294967296) :
    Calls Tryz.prog 29 #[.slice A n c, .slice B n d] w (Gives (.bool true) w) := by
  have HA := Lib.hid ha
  have HB := Lib.hid hb
  clear ha hb
  go_enter Tryz.func29, Tryz.ntmps29
  go_wp2
  go_loopw [5] (fun i wr => ∃ k : Nat, k ≤ n ∧ i = .int .i64 k ∧ Below w.heap.size w wr) (fun i _ => n - (intOf i).toNat)
  case atStart => exact ⟨0, by omega, rfl, Below.refl _ _⟩
  case round =>
    obtain ⟨k, hk, rfl, HW⟩ := hrel
    by_cases hlt : k < n
    · obtain ⟨b, off, rfl, hb, hcell⟩ := (HA.out.below HW).at_ hlt
      obtain ⟨b2, off2, rfl, hb2, hcell2⟩ := (HB.out.below HW).at_ hlt
      go_wp2
      go_quiet (fail)
      go_wp2
      go_roundw
      case rel => exact ⟨k + 1, by omega, by go_num, HW.trans (drewN_below _ _ _)⟩
      case measure => simp [intOf]; omega
    · have hd : decide (k < n) = false := by simp; omega
      go_wp2
      go_ret
      exact ⟨rfl, HW⟩
def MarkedTo (E : Nat) (f : Int → Int) (kd : IntKind) (base : Nat) (A : Option Addr) (n c : Nat) (k : Int) (w : World) (e : Ending) (w' : World) : Prop :=
  e = .returned (.int .i64 (k + n)) ∧ w'.ownsRow base E 1 (.slice A n c) n (ints kd (marks f k n)) ∧ w.grownBy w' (Value.slice A n c).ownBlock
def Marking (E : Nat) (f : Int → Int) (kd : IntKind) (base : Nat) (A : Option Addr) (n c : Nat) (xs : List Int) (k : Int) (j : Nat) (w wr : World) : Prop :=
  wr.ownsRow base E 1 (.slice A n c) n (ints kd (marked f k xs j)) ∧ w.grownBy wr (Value.slice A n c).ownBlock
theorem Marking.addr {E : Nat} {f : Int → Int} {kd : IntKind} {base : Nat} {A : Option Addr} {n c : Nat} {xs : List Int} {k : Int} {j : Nat} {w wr : World} (h : Marking E f kd base A n c xs k j w wr) (hn : 0 < n) : ∃ g, A = some ⟨g, 0, none⟩ := by
  obtain ⟨g, cap, hv, _⟩ := h.1.form hn
  injection hv with h1
  exact ⟨g, h1⟩
theorem Marking.step {E : Nat} {f : Int → Int} {kd : IntKind} {base : Nat} {g n c : Nat} {xs : List Int} {k : Int} {j : Nat} {w wr : World} (h : Marking E f kd base (some ⟨g, 0, none⟩) n c xs k j w wr) (hl : xs.length = n) (hj : j < n) :
    Marking E f kd base (some ⟨g, 0, none⟩) n c xs k (j + 1) w (wr.setCell ⟨g, j, none⟩ (.int kd (f (k + j)))) := by
  obtain ⟨h1, h2⟩ := h.1.stored j (.int kd (f (k + j)))
  rw [ints_put, marked_set f k xs j (by omega)] at h1
  exact ⟨h1, h.2.trans h2⟩
set_option maxHeartbeats 400000 in
theorem markIntS (w : World) (base : Nat) (A : Option Addr) (n c : Nat) (xs : List Int) (k : Int) (ho : w.ownsRow base 3 1 (.slice A n c) n (ints .i64 xs)) (hn : n ≤ 4294967296) (hk0 : 0 ≤ k) (hk1 : k ≤ 1099511627776) :
    Calls Tryz.prog 32 #[.slice A n c, .int .i64 k] w (MarkedTo 3 fi64 .i64 base A n c k w) := by
  have hl : xs.length = n := by have := ho.1; rw [ints_len] at this; omega
  have HF : Marking 3 fi64 .i64 base A n c xs k 0 w w := ⟨by rw [marked_zero]; exact ho, World.grownBy.refl _ _⟩
  have HL := Lib.hid hl
  clear ho hl
  go_enter Tryz.func32, Tryz.ntmps32
  go_wp2
  go_loopw [1, 5] (fun q i wr => ∃ j : Nat, j ≤ n ∧ i = .int .i64 j ∧ q = .int .i64 (k + j) ∧ Marking 3 fi64 .i64 base A n c xs k j w wr) (fun _ i _ => n - (intOf i).toNat)
  case atStart => exact ⟨0, by omega, rfl, by simp, HF⟩
  case round =>
    obtain ⟨j, hj, rfl, rfl, HM⟩ := hrel
    by_cases hlt : j < n
    · obtain ⟨g, rfl⟩ := HM.addr (by omega)
      obtain ⟨hg, hbase, hold, hfr⟩ := stored_at HM.1 j hlt
      go_wp2
      go_roundw
      case rel => exact ⟨j + 1, by omega, by go_num, by go_num, HM.step HL.out hlt⟩
      case measure => simp [intOf]; omega
    · have hd : decide (j < n) = false := by simp; omega
      have hjn : n = j := by omega
      subst hjn
      go_wp2
      go_ret
      exact ⟨rfl, by have := HM.1; rw [marked_all _ _ _ _ HL.out] at this; exact this, HM.2⟩
set_option maxHeartbeats 400000 in
theorem heldIntS (w : World) (A : Option Addr) (n c : Nat) (k : Int) (ho : Rd w w.heap.size 1 A n (ints .i64 (marks fi64 k n))) (hn : n ≤ 4294967296) (hk0 : 0 ≤ k) (hk1 : k ≤ 1099511627776) :
    Calls Tryz.prog 35 #[.slice A n c, .int .i64 k] w (Gives (.int .i64 (k + n)) w) := by
  have HR := Lib.hid ho
  clear ho
  go_enter Tryz.func35, Tryz.ntmps35
  go_wp2
  go_loopw [1, 5] (fun q i wr => ∃ j : Nat, j ≤ n ∧ i = .int .i64 j ∧ q = .int .i64 (k + j) ∧ Below w.heap.size w wr) (fun _ i _ => n - (intOf i).toNat)
  case atStart => exact ⟨0, by omega, rfl, by simp, Below.refl _ _⟩
  case round =>
    obtain ⟨j, hj, rfl, rfl, HW⟩ := hrel
    by_cases hlt : j < n
    · obtain ⟨b, off, rfl, hb, hcell⟩ := (HR.out.below HW).at_ hlt
      rw [marks_get _ _ _ _ hlt] at hcell
      unfold fi64 at hcell
      go_wp2
      go_roundw
      case rel => exact ⟨j + 1, by omega, by go_num, by go_num, HW⟩
      case measure => simp [intOf]; omega
    · have hd : decide (j < n) = false := by simp; omega
      have hjn : n = j := by omega
      subst hjn
      go_wp2
      go_ret
      exact ⟨rfl, HW⟩
end Go.Proofs.YtllaacdikjffmaaGreat.S1

-- part Ow
/-
  Rows of a call's own that may lie behind the beginning of their block: what is left of an owned row whose first elements were cut off. Elements of one cell lie at the beginning.
-/
namespace Go.Proofs.YtllaacdikjffmaaGreat.Ow
open Go.ChangeShapes Go.WideShapes Go.ChangeAt Go.RowKit
open S0 S1
set_option linter.unusedVariables false
def At (w : World) (base : Nat) (e : TypeId) (size : Nat) (v : Value) (n : Nat) (xs : List Value) : Prop :=
  xs.length = n * size ∧ ((v = .slice none 0 0 ∧ n = 0) ∨
    ∃ g off cap cur, v = .slice (some ⟨g, off, none⟩) n cap ∧ base ≤ g ∧ w.heap[g]? = some (.cells cur e (0, 0)) ∧ n ≤ cap ∧ cap ≤ maxLen ∧ cur.size = off + cap * size ∧ (cur.toList.drop off).take (n * size) = xs ∧ (size = 1 → off = 0))
section
variable {w w' : World} {base base' : Nat} {e : TypeId} {size n : Nat} {v : Value} {xs : List Value}
theorem At.of (h : w.ownsRow base e size v n xs) : At w base e size v n xs := by
  refine ⟨h.1, ?_⟩
  rcases h.2 with h0 | ⟨g, cap, cur, h1, h2, h3, h4, h5, h6, h7⟩
  · exact .inl h0
  · exact .inr ⟨g, 0, cap, cur, h1, h2, h3, h4, h5, by omega, by rw [List.drop_zero]; exact h7, fun _ => rfl⟩
theorem At.one (h : At w base e 1 v n xs) : w.ownsRow base e 1 v n xs := by
  refine ⟨h.1, ?_⟩
  rcases h.2 with h0 | ⟨g, off, cap, cur, h1, h2, h3, h4, h5, h6, h7, h8⟩
  · exact .inl h0
  · obtain rfl := h8 rfl
    exact .inr ⟨g, cap, cur, h1, h2, h3, h4, h5, by omega, by rw [List.drop_zero] at h7; exact h7⟩
theorem At.lt (h : At w base e size v n xs) : ∀ k, v.ownBlock = some k → base ≤ k ∧ k < w.heap.size := by
  intro k hk
  rcases h.2 with ⟨rfl, _⟩ | ⟨g, off, cap, cur, rfl, hb, hg, _⟩
  · simp [Value.ownBlock] at hk
  · obtain rfl : g = k := by simpa [Value.ownBlock] using hk
    exact ⟨hb, (Array.getElem?_eq_some_iff.1 hg).1⟩
theorem At.keep (h : At w base e size v n xs) (hk : ∀ k, v.ownBlock = some k → w'.heap[k]? = w.heap[k]?) : At w' base e size v n xs := by
  refine ⟨h.1, ?_⟩
  rcases h.2 with h0 | ⟨g, off, cap, cur, rfl, hb, hg, hr⟩
  · exact .inl h0
  · exact .inr ⟨g, off, cap, cur, rfl, hb, (hk g rfl).trans hg, hr⟩
theorem At.kept {row : Option Nat} (h : At w base e size v n xs) (hg : w.grownBy w' row) (hne : v.ownBlock = none ∨ v.ownBlock ≠ row) : At w' base e size v n xs :=
  h.keep fun k hk => hg.block k (h.lt k hk).2 (by rw [← hk]; rcases hne with h0 | h0; rw [h0] at hk; cases hk; exact h0)
theorem At.below (h : At w base e size v n xs) (hb : Below w.heap.size w w') : At w' base e size v n xs := h.keep fun k hk => hb.block k (h.lt k hk).2
theorem At.down (h : At w base e size v n xs) (hb : base' ≤ base) : At w base' e size v n xs := by
  refine ⟨h.1, ?_⟩
  rcases h.2 with h0 | ⟨g, off, cap, cur, h1, h2, h3⟩
  · exact .inl h0
  · exact .inr ⟨g, off, cap, cur, h1, by omega, h3⟩
theorem At.nil_form (h : At w base e size v n xs) : ∃ A c, v = .slice A n c := by
  rcases h.2 with ⟨h0, h1⟩ | ⟨g, off, cap, cur, h1, _⟩
  · exact ⟨none, 0, by rw [h0, h1]⟩
  · exact ⟨_, cap, h1⟩
theorem At.form (h : At w base e size v n xs) (hn : 0 < n) : ∃ g off cap, v = .slice (some ⟨g, off, none⟩) n cap ∧ base ≤ g ∧ g < w.heap.size := by
  rcases h.2 with ⟨_, h0⟩ | ⟨g, off, cap, cur, hv, hb, hg, _⟩
  · omega
  · exact ⟨g, off, cap, hv, hb, (Array.getElem?_eq_some_iff.1 hg).1⟩
theorem At.sh {A : Option Addr} {c : Nat} (h : At w base e size (.slice A n c) n xs) : Sh A n c := by
  rcases h.2 with ⟨h0, h1⟩ | ⟨g, off, cap, cur, h1, _, _, h2, _⟩
  · injection h0 with ha hb hc
    subst ha hb hc
    exact ⟨Nat.le_refl _, fun _ => ⟨rfl, rfl⟩, fun _ h => by cases h⟩
  · injection h1 with ha hb hc
    subst ha hc
    exact ⟨h2, (fun h => by cases h), (fun a h => by cases h; rfl)⟩
variable {g off cap : Nat}
theorem At.cellAt (h : At w base e size (.slice (some ⟨g, off, none⟩) n cap) n xs) (j : Nat) (hj : j < n * size) : w.cell? ⟨g, off + j, none⟩ = xs[j]? := by
  rcases h.2 with ⟨h', _⟩ | ⟨g', off', cap', cur, h', _, hg, _, _, _, htake, _⟩
  · simp at h'
  · simp only [Value.slice.injEq, Option.some.injEq, Addr.mk.injEq, and_true, true_and] at h'
    obtain ⟨⟨rfl, rfl⟩, rfl⟩ := h'
    rw [cell_of_row w g (off + j) cur e (0, 0) hg, ← htake, List.getElem?_take, if_pos hj, List.getElem?_drop]
    simp
theorem At.frozenAt (h : At w base e size (.slice (some ⟨g, off, none⟩) n cap) n xs) (j : Nat) : w.frozen? ⟨g, j, none⟩ = false := by
  rcases h.2 with ⟨h', _⟩ | ⟨g', off', cap', cur, h', _, hg, _⟩
  · simp at h'
  · simp only [Value.slice.injEq, Option.some.injEq, Addr.mk.injEq, and_true, true_and] at h'
    obtain ⟨⟨rfl, rfl⟩, rfl⟩ := h'
    exact frozen_of_row w g j cur e hg
theorem At.stored (h : At w base e size (.slice (some ⟨g, off, none⟩) n cap) n xs) (j : Nat) (u : Value) :
    At (w.setCell ⟨g, off + j, none⟩ u) base e size (.slice (some ⟨g, off, none⟩) n cap) n (xs.set j u) ∧ w.grownBy (w.setCell ⟨g, off + j, none⟩ u) (some g) := by
  rcases h.2 with ⟨h', _⟩ | ⟨g', off', cap', cur, h', hb, hg, hnc, hcm, hcs, htake, h1⟩
  · simp at h'
  · simp only [Value.slice.injEq, Option.some.injEq, Addr.mk.injEq, and_true, true_and] at h'
    obtain ⟨⟨rfl, rfl⟩, rfl⟩ := h'
    refine ⟨⟨by simpa using h.1, .inr ⟨g, off, cap, cur.setIfInBounds (off + j) u, rfl, hb, heap_setCell_same w g (off + j) cur e u hg, hnc, hcm, by simpa using hcs, ?_, h1⟩⟩,
      ⟨rfl, rfl, rfl, by simp, fun k _ hk => heap_setCell_other w ⟨g, off + j, none⟩ k u (fun e => hk (by simp [e]))⟩⟩
    rw [Array.toList_setIfInBounds, ← htake, List.drop_set, if_neg (by omega), List.take_set, Nat.add_sub_cancel_left]
theorem At.rd {A : Option Addr} {c : Nat} (h : At w base e size (.slice A n c) n xs) : Rd w w.heap.size size A n xs := by
  refine ⟨h.1, fun hn => ?_⟩
  obtain ⟨g, off, cap, hv, _, hlt⟩ := h.form hn
  injection hv with hA _ hc
  subst hA hc
  exact ⟨g, off, rfl, hlt, fun j hj => h.cellAt j hj⟩
/-- The first elements cut off, some of the room left. -/
theorem At.cut (h : At w base e size (.slice (some ⟨g, off, none⟩) n cap) n xs) (k : Nat) (hk : k ≤ n) (h1 : size ≠ 1) : At w base e size (.slice (some ⟨g, off + k * size, none⟩) (n - k) (cap - k)) (n - k) (xs.drop (k * size)) := by
  rcases h.2 with ⟨h', _⟩ | ⟨g', off', cap', cur, h', hb, hg, hnc, hcm, hcs, htake, _⟩
  · simp at h'
  · simp only [Value.slice.injEq, Option.some.injEq, Addr.mk.injEq, and_true, true_and] at h'
    obtain ⟨⟨rfl, rfl⟩, rfl⟩ := h'
    have e1 : (n - k) * size = n * size - k * size := Nat.sub_mul ..
    have e2 : (cap - k) * size = cap * size - k * size := Nat.sub_mul ..
    have e3 : k * size ≤ n * size := Nat.mul_le_mul_right _ hk
    have e4 : n * size ≤ cap * size := Nat.mul_le_mul_right _ hnc
    refine ⟨by rw [List.length_drop, h.1, e1], .inr ⟨g, off + k * size, cap - k, cur, rfl, hb, hg, by omega, by omega, by omega, ?_, fun e => absurd e h1⟩⟩
    rw [← htake, List.drop_take, List.drop_drop, e1]
end
section
variable {P : Program} (w : World)
/-- An append of something onto such a row. -/
theorem run_app (base : Nat) (t ty e : TypeId) (i : TypeInfo) (z : Value) (size bytes : Nat) (ht : P.underlying t = some (.slice e)) (hi : P.info? e = some i) (hz : i.zero = some z)
    (hsize : i.size = size) (hby : i.bytes = bytes) (hzs : z.cells.size = size) (hsz : 0 < size)
    (v : Value) (n : Nat) (xs : List Value) (hown : At w base e size v n xs)
    (ad : Addr) (m c : Nat) (news : List Value) (hl : news.length = m * size) (hnews : ∀ j u, news[j]? = some u → w.cell? (ad.add j) = some u) (h1 : ∀ u ∈ news, u.oneCell' = true)
    (hm : 0 < m) (h63 : n + m ≤ maxLen) (hbytes : (n + m) * bytes ≤ 140737488355328) (hbase : base ≤ w.heap.size) (H : Nat) (hH : w.heap.size = H) :
    ∃ g off cap w', (Builtin.append_ #[t, t] ty #[v, .slice (some ad) m c]).run P w = .ok (.slice (some ⟨g, off, none⟩) (n + m) cap) w' ∧
      At w' base e size (.slice (some ⟨g, off, none⟩) (n + m) cap) (n + m) (xs ++ news) ∧ w.grownBy w' v.ownBlock ∧ (v.ownBlock = some g ∨ g = H) ∧ g < w'.heap.size := by
  subst hH
  rcases hown.2 with ⟨rfl, rfl⟩ | ⟨g, off, cap, cur, rfl, hbg, hg, hnc, hcm, hcs, htake, hone⟩
  · have hx : xs = [] := List.eq_nil_of_length_eq_zero (by simpa using hown.1)
    subst hx
    obtain ⟨g, cap, w', hr, h2, h3, h4, h5⟩ := run_append_lies (P := P) w t ty base e i z size bytes ht hi hz hsize hby hzs hsz _ 0 [] (World.ownsRow_nil w base e size) ad m c news hl hnews h1 hm h63 hbytes hbase _ rfl
    exact ⟨g, 0, cap, w', hr, At.of h2, h3, h4, h5⟩
  · subst hsize
    subst hby
    have hlen : (xs ++ news).length = (n + m) * i.size := by rw [List.length_append, hown.1, hl, Nat.add_mul]
    have hgl : g < w.heap.size := (Array.getElem?_eq_some_iff.1 hg).1
    by_cases hroom : n + m ≤ cap
    · have hcap : (n + m) * i.size ≤ cap * i.size := Nat.mul_le_mul_right _ hroom
      have hfit : off + n * i.size + 0 + news.length ≤ cur.size := by rw [hl, hcs]; rw [Nat.add_mul] at hcap; omega
      have hf := run_firstCells_some (P := P) w i.size m ad m c news hl hnews
      have hst := run_storeCells_at P g (off + n * i.size) e news 0 cur w hg hfit h1
      simp only [Nat.add_zero] at hst hfit
      have hr : (Builtin.append_ #[t, t] ty #[.slice (some ⟨g, off, none⟩) n cap, .slice (some ad) m c]).run P w = .ok (.slice (some ⟨g, off, none⟩) (n + m) cap) (w.setRow g (cur.toList.take (off + n * i.size) ++ news ++ cur.toList.drop (off + n * i.size + news.length)).toArray) := by
        simp [Builtin.append_, run_underlying ht, sizeOf, typeInfo, hi, Builtin.lenOf, hroom, hf, Addr.add_lit, hst]
      refine ⟨g, off, cap, _, hr, ⟨hlen, .inr ⟨g, off, cap, _, rfl, hbg, setRow_heap w g cur _ e _ hg, hroom, hcm, ?_, ?_, hone⟩⟩, ⟨rfl, rfl, rfl, by simp, fun k _ hk => setRow_other w g k _ (fun e => hk (by simp [Value.ownBlock, e]))⟩, .inl rfl, by simpa using hgl⟩
      · simp only [List.size_toArray, List.length_append, List.length_take, List.length_drop, Array.length_toList]
        omega
      · have e1 : cur.toList.take (off + n * i.size) = cur.toList.take off ++ xs := by rw [List.take_add, htake]
        have e2 : (cur.toList.take off).length = off := by rw [List.length_take, Array.length_toList]; omega
        show List.take _ (List.drop off (cur.toList.take (off + n * i.size) ++ news ++ cur.toList.drop (off + n * i.size + news.length))) = _
        rw [e1, List.append_assoc, List.append_assoc, List.drop_append_of_le_length (by omega), List.drop_of_length_le (by omega), List.nil_append, ← List.append_assoc, ← hlen]
        exact List.take_left
    · have holds : ∀ j u, xs[j]? = some u → w.cell? ((⟨g, off, none⟩ : Addr).add j) = some u := fun j u hu => by
        have hj : j < n * i.size := by rw [← hown.1]; exact (List.getElem?_eq_some_iff.1 hu).1
        rw [Addr.add_lit, hown.cellAt j hj]; exact hu
      have hsmall : n + m ≤ 9223372036854775807 := by simp only [maxLen] at h63; omega
      have hr := run_append_grow (P := P) w t ty e i z ht hi hz ⟨g, off, none⟩ n cap xs hown.1 holds ad m c news hl hnews (by omega) (by omega) (growslice_fits (by omega) hbytes)
      have hge := grownCap_ge w (n + m) cap e
      refine ⟨_, 0, _, _, hr, At.of ⟨hlen, .inr ⟨w.heap.size, _, _, rfl, hbase, heap_alloc_new w.drew _, hge, grownCap_le_maxLen w (n + m) cap e h63, ?_, ?_⟩⟩, ⟨rfl, rfl, rfl, by simp, fun k hk _ => Go.heap_alloc_old w.drew _ hk⟩, .inr rfl, by simp⟩
      · simp only [Array.size_append, List.size_toArray, size_zeroCells, hzs, hown.1, hl, ← Nat.add_mul]
        congr 1
        omega
      · simp only [Array.toList_append, List.append_assoc]
        rw [← List.append_assoc, ← hlen]
        exact List.take_left
theorem wp_app {o : Oper} {a : Act} {K : Act → World → Prop} {Q : Exit → Act → World → Prop} (s x : Operand) (t : TypeId)
    (ho : o.op = .call { callee := .builtin .append, args := #[s, x], argTypes := #[t, t] })
    (base : Nat) (e : TypeId) (i : TypeInfo) (z : Value) (size bytes : Nat) (ht : P.underlying t = some (.slice e)) (hi : P.info? e = some i) (hz : i.zero = some z)
    (hsize : i.size = size) (hby : i.bytes = bytes) (hzs : z.cells.size = size) (hsz : 0 < size)
    (v : Value) (n : Nat) (xs : List Value) (hs : a.eval s = v) (hown : At w base e size v n xs)
    (ad : Addr) (m c : Nat) (news : List Value) (hx : a.eval x = .slice (some ad) m c) (hl : news.length = m * size) (hnews : ∀ j u, news[j]? = some u → w.cell? (ad.add j) = some u) (h1 : ∀ u ∈ news, u.oneCell' = true)
    (hm : 0 < m) (h63 : n + m ≤ maxLen) (hbytes : (n + m) * bytes ≤ 140737488355328) (hbase : base ≤ w.heap.size) (H : Nat) (hH : w.heap.size = H)
    (h : ∀ g off cap w', At w' base e size (.slice (some ⟨g, off, none⟩) (n + m) cap) (n + m) (xs ++ news) → w.grownBy w' v.ownBlock → (v.ownBlock = some g ∨ g = H) → g < w'.heap.size → K (a.put o.dst (.slice (some ⟨g, off, none⟩) (n + m) cap)) w') : o.wp P a w K Q := by
  obtain ⟨g, off, cap, w', hr, h2, h3, h4, h5⟩ := run_app (P := P) w base t o.type e i z size bytes ht hi hz hsize hby hzs hsz v n xs hown ad m c news hl hnews h1 hm h63 hbytes hbase H hH
  unfold Oper.wp execOp
  simp only [ho, resolve, invoke, builtin, Sem.run_bind, Sem.run_pure, Result.andThen_ok, List.map_toArray, List.map_cons, List.map_nil, hs, hx, hr]
  exact h g off cap w' h2 h3 h4 h5
theorem wpList_appAt {ops : Array Oper} {rest : List Oper} {o : Oper} {a : Act} {Q : Exit → Act → World → Prop} (hgd : o.guard = none) (s x : Operand) (t : TypeId)
    (ho : o.op = .call { callee := .builtin .append, args := #[s, x], argTypes := #[t, t] })
    (base : Nat) (e : TypeId) (i : TypeInfo) (z : Value) (size bytes : Nat) (ht : P.underlying t = some (.slice e)) (hi : P.info? e = some i) (hz : i.zero = some z)
    (hsize : i.size = size) (hby : i.bytes = bytes) (hzs : z.cells.size = size) (hsz : 0 < size)
    (v : Value) (n : Nat) (xs : List Value) (hs : a.eval s = v) (hown : At w base e size v n xs)
    (ad : Addr) (m c : Nat) (news : List Value) (hx : a.eval x = .slice (some ad) m c) (hl : news.length = m * size) (hnews : ∀ j u, news[j]? = some u → w.cell? (ad.add j) = some u) (h1 : ∀ u ∈ news, u.oneCell' = true)
    (hm : 0 < m) (h63 : n + m ≤ maxLen) (hbytes : (n + m) * bytes ≤ 140737488355328) (hbase : base ≤ w.heap.size) (H : Nat) (hH : w.heap.size = H)
    (h : ∀ g off cap w', At w' base e size (.slice (some ⟨g, off, none⟩) (n + m) cap) (n + m) (xs ++ news) → w.grownBy w' v.ownBlock → (v.ownBlock = some g ∨ g = H) → g < w'.heap.size → wpList P ops Q rest (a.put o.dst (.slice (some ⟨g, off, none⟩) (n + m) cap)) w') : wpList P ops Q (o :: rest) a w :=
  wpList_plain hgd fun _ hK => wp_app w s x t ho base e i z size bytes ht hi hz hsize hby hzs hsz v n xs hs hown ad m c news hx hl hnews h1 hm h63 hbytes hbase H hH fun g off cap w' h2 h3 h4 h5 => hK _ _ (h g off cap w' h2 h3 h4 h5)
end
end Go.Proofs.YtllaacdikjffmaaGreat.Ow

-- part S2
/-
  Contracts of functions that compare two slices of numbers, whatever their lengths; a slice of bytes as a string.
-/
namespace Go.Proofs.YtllaacdikjffmaaGreat.S2
open Go.ChangeShapes Go.WideShapes Go.ChangeAt Go.RowKit
open S0
set_option linter.unusedVariables false
theorem ne_len {xs ys : List Int} (h : xs.length ≠ ys.length) : decide (xs = ys) = false := by
  simp only [decide_eq_false_iff_not]
  intro e
  exact h (by rw [e])
theorem ne_at {xs ys : List Int} (k : Nat) (h : ¬ xs.getD k 0 = ys.getD k 0) : decide (xs = ys) = false := by
  simp only [decide_eq_false_iff_not]
  intro e
  exact h (by rw [e])
theorem eq_all {xs ys : List Int} (h : xs.length = ys.length) (hk : ∀ k, k < xs.length → xs.getD k 0 = ys.getD k 0) : decide (xs = ys) = true := by
  simp only [decide_eq_true_eq]
  refine List.ext_getElem h fun i h1 h2 => ?_
  have := hk i h1
  rw [List.getD_eq_getElem?_getD, List.getD_eq_getElem?_getD, List.getElem?_eq_getElem h1, List.getElem?_eq_getElem h2] at this
  simpa using this
theorem ret_bool {a b : Bool} (h : a = b) : Ending.returned (.bool a) = .returned (.bool b) := by rw [h]
set_option maxHeartbeats 400000 in
theorem eqIntS (w : World) (A B : Option Addr) (n m c d : Nat) (xs ys : List Int) (ha : Rd w w.heap.size 1 A n (ints .i64 xs)) (hb : Rd w w.heap.size 1 B m (ints .i64 ys)) (hn : n ≤ 4294967296) (hm : m ≤ 4294967296) :
    Calls Tryz.prog 29 #[.slice A n c, .slice B m d] w (Gives (.bool (decide (xs = ys))) w) := by
  have hla : xs.length = n := by have := ha.len1; rw [ints_len] at this; exact this
  have hlb : ys.length = m := by have := hb.len1; rw [ints_len] at this; exact this
  have HA := Lib.hid ha
  have HB := Lib.hid hb
  by_cases hnm : n = m
  · subst hnm
    have HLA := Lib.hid hla
    have HLB := Lib.hid hlb
    clear ha hb hla hlb
    go_enter Tryz.func29, Tryz.ntmps29
    go_wp2
    go_loopw [5] (fun i wr => ∃ k : Nat, k ≤ n ∧ i = .int .i64 k ∧ (∀ j, j < k → xs.getD j 0 = ys.getD j 0) ∧ Below w.heap.size w wr) (fun i _ => n - (intOf i).toNat)
    case atStart => exact ⟨0, by omega, rfl, fun j hj => by omega, Below.refl _ _⟩
    case round =>
      obtain ⟨k, hk, rfl, hall, HW⟩ := hrel
      have HALL := Lib.hid hall
      clear hall
      by_cases hlt : k < n
      · obtain ⟨b, off, rfl, hb, hcell⟩ := (HA.out.below HW).at_ hlt
        obtain ⟨b2, off2, rfl, hb2, hcell2⟩ := (HB.out.below HW).at_ hlt
        obtain ⟨x, hx⟩ : ∃ x, x = xs.getD k 0 := ⟨_, rfl⟩
        obtain ⟨y, hy⟩ : ∃ y, y = ys.getD k 0 := ⟨_, rfl⟩
        rw [← hx] at hcell
        rw [← hy] at hcell2
        by_cases he : x = y
        · have HE := Lib.hid (hx.symm.trans (he.trans hy))
          subst he
          clear hx hy
          go_wp2
          go_quiet (fail)
          go_wp2
          go_roundw
          case rel =>
            refine ⟨k + 1, by omega, by go_num, fun j hj => ?_, HW.trans (drewN_below _ _ _)⟩
            by_cases hjk : j < k
            · exact HALL.out j hjk
            · obtain rfl : j = k := by omega
              exact HE.out
          case measure => simp [intOf]; omega
        · have hne : (x != y) = true := by simpa using he
          have HE := Lib.hid (ne_at (xs := xs) (ys := ys) k (by rw [← hx, ← hy]; exact he))
          clear hx hy he
          go_wp2
          go_quiet (fail)
          go_wp2
          go_ret
          exact ⟨ret_bool HE.out.symm, HW.trans (drewN_below _ _ _)⟩
      · have hd : decide (k < n) = false := by simp; omega
        have HE := Lib.hid (eq_all (xs := xs) (ys := ys) (by rw [HLA.out, HLB.out]) (fun j hj => HALL.out j (by have := HLA.out; omega)))
        go_wp2
        go_ret
        exact ⟨ret_bool HE.out.symm, HW⟩
  · have hne : ((n : Int) != (m : Int)) = true := by simp; omega
    have HE := Lib.hid (ne_len (xs := xs) (ys := ys) (by omega))
    clear ha hb hla hlb
    go_enter Tryz.func29, Tryz.ntmps29
    go_wp2
    go_ret
    exact ⟨ret_bool HE.out.symm, Below.refl _ _⟩
theorem eqIntS_t (w : World) (A B : Option Addr) (n c d : Nat) (xs : List Int) (ha : Rd w w.heap.size 1 A n (ints .i64 xs)) (hb : Rd w w.heap.size 1 B n (ints .i64 xs)) (hn : n ≤ 4294967296) :
    Calls Tryz.prog 29 #[.slice A n c, .slice B n d] w (Gives (.bool true) w) := by
  have h := eqIntS w A B n n c d xs xs ha hb hn hn
  rw [decide_eq_true rfl] at h
  exact h
end Go.Proofs.YtllaacdikjffmaaGreat.S2

-- part Fr
/-
  The frame of every law's proof: a law that returns true and writes into nothing that was there meets its row, whatever its parameters' types.
-/
namespace Go.Proofs.YtllaacdikjffmaaGreat.Fr
open Go.ChangeShapes Go.WideShapes Go.ChangeAt Go.RowKit

theorem own : ownKnob Tryz.prog.godebug = none := by kernel_rfl
theorem kids : Kids Tryz.prog (· < Tryz.prog.types.size) := kids_rows (by kernel_rfl) (by kernel_rfl)
theorem full : ∀ t e, t < Tryz.prog.types.size → Tryz.prog.underlying t = some (.slice e) → 0 < Tryz.prog.cellsOf e := slices_full_of Tryz.prog (by kernel_rfl)

theorem carryAll {H : Type} {enc : TypeId × Value → H} {w w' : World} {sp : Nat → Bool} : ∀ {ts : List TypeId} {vs : List Value} {ds : List (DataW H)} {ps : List MemPlace},
    DataW.TrodAll enc Tryz.prog w 0 sp true ts vs ds ps → (∀ p ∈ ps, w.sameAt w' p) → DataW.TrodAll enc Tryz.prog w' 0 sp true ts vs ds ps
  | [], [], [], _, h, _ => h
  | _ :: _, _ :: _, _ :: _, _, ⟨p, q, ⟨n, h1⟩, h2, e⟩, hs => ⟨p, q, ⟨n, DataW.trod_carry n _ _ _ h1 (fun x hx => hs x (by rw [e]; exact List.mem_append_left _ hx))⟩, carryAll h2 (fun x hx => hs x (by rw [e]; exact List.mem_append_right _ hx)), e⟩

theorem post_true {H : Type} {enc : TypeId × Value → H} {f : Func} {s : ChangeSpec} {W W' : World} {args : Array Value} {ds gs : List (DataW H)} {before : List MemPlace}
    (hv : s.vars = []) (hr : f.resultTypes = #[4]) (hp : ∀ t ∈ f.params.toList, t < Tryz.prog.types.size)
    (hW : DataW.Whole enc Tryz.prog f.params.toList s.vars false W args.toList ds gs before)
    (hf : s.fn H (ds ++ gs) = { results := [.lit (.bool true)], args := ds }) (hb : Below W.heap.size W W') :
    s.post enc Tryz.prog f false true false false W args (.bool true) W' := by
  have hlt : ∀ p ∈ before, p.block < W.heap.size := fun p hp => hW.lt p hp
  have hW' := hW
  obtain ⟨p, q, hA, hV, e, _, _⟩ := hW
  rw [hv] at hV
  have hgs : gs = [] ∧ q = [] := by
    cases gs with
    | nil => exact ⟨rfl, hV⟩
    | cons _ _ => exact hV.elim
  obtain ⟨rfl, rfl⟩ := hgs
  rw [List.append_nil] at e
  subst e
  refine ⟨ds, [], before, [], before, [], hW', ?_, ?_, ?_, ?_, fun h => by cases h⟩
  · rw [hf, hr]
    exact trodAll_cons_mk (shut_bool Tryz.underlying4 _) trodAll_mk0
  · rw [hf]
    exact DataW.TrodAll.respare kids full hp (carryAll hA (fun x hx => hb.same (hlt x hx))) (fun x hx => by simpa using hlt x hx)
  · rw [hf, hv]
    rfl
  · exact hb.frame _

theorem closeLaw {H : Type} {enc : TypeId × Value → H} {K : FuncId} {f : Func} {s : ChangeSpec} {W : World} {args : Array Value} {ds gs : List (DataW H)} {before : List MemPlace}
    (hv : s.vars = []) (hr : f.resultTypes = #[4]) (hp : ∀ t ∈ f.params.toList, t < Tryz.prog.types.size)
    (hW : DataW.Whole enc Tryz.prog f.params.toList s.vars false W args.toList ds gs before)
    (hf : s.fn H (ds ++ gs) = { results := [.lit (.bool true)], args := ds })
    (walk : Calls Tryz.prog K args W fun e w' => e = .returned (.bool true) ∧ Below W.heap.size W w') :
    Calls Tryz.prog K args W fun e W' => ∃ v, e = .returned v ∧ s.post enc Tryz.prog f false true false false W args v W' :=
  walk.mono fun _ _ ⟨he, hb⟩ => ⟨_, he, post_true hv hr hp hW hf hb⟩
end Go.Proofs.YtllaacdikjffmaaGreat.Fr

-- part So
/-
  How a slice that came in is opened; what a row that a call owns keeps while another is written.
-/
namespace Go.Proofs.YtllaacdikjffmaaGreat.So
open Go.ChangeShapes Go.WideShapes Go.ChangeAt Go.RowKit
open S0
theorem spot_none {w : World} {a : Addr} {v : Value} (h : w.cell? (a.add 0) = some v) : a.spot = none := by
  cases a with
  | mk b o s =>
    cases s with
    | none => rfl
    | some s =>
      exfalso
      unfold Addr.add at h
      rw [if_pos rfl] at h
      simp only [World.cell?] at h
      split at h
      · simp at h
      · simp at h
theorem add_eq {a : Addr} (h : a.spot = none) (k : Nat) : a.add k = ⟨a.block, a.off + k, none⟩ := by
  cases a with
  | mk b o s =>
    obtain rfl : s = none := h
    unfold Addr.add
    split
    · next h0 => subst h0; rfl
    · rfl
theorem block_lt {w : World} {a : Addr} {v : Value} (h : w.cell? a = some v) : a.block < w.heap.size := by
  by_cases hb : a.block < w.heap.size
  · exact hb
  · have e : w.heap[a.block]? = none := by rw [Array.getElem?_eq_none (by omega)]
    simp [World.cell?, e] at h
def okI (k : IntKind) (x : Int) : Prop := (Lit.int k x).wf = true
theorem okI_i64 {x : Int} (h : okI .i64 x) : -9223372036854775808 ≤ x ∧ x ≤ 9223372036854775807 := M1.i64_wf h
/-- The block of what a call owns lies below B. -/
def Lt (v : Value) (B : Nat) : Prop := ∀ k, v.ownBlock = some k → k < B
theorem Lt.mono {v : Value} {B B' : Nat} (h : Lt v B) (hb : B ≤ B') : Lt v B' := fun k hk => Nat.lt_of_lt_of_le (h k hk) hb
end Go.Proofs.YtllaacdikjffmaaGreat.So

-- part C2
/-
  Contracts of chapter 2's functions, of the program and of the model.
-/
namespace Go.Proofs.YtllaacdikjffmaaGreat.C2
open Go.ChangeShapes Go.WideShapes Go.ChangeAt Go.RowKit
open S0 S1 M2
set_option linter.unusedVariables false

end Go.Proofs.YtllaacdikjffmaaGreat.C2

-- part L0
/-
  Contracts of the laws' own small functions: a byte of the code, whether it is too great.
-/
namespace Go.Proofs.YtllaacdikjffmaaGreat.L0
open Go.ChangeShapes Go.WideShapes Go.ChangeAt Go.RowKit
open S0
set_option linter.unusedVariables false
end Go.Proofs.YtllaacdikjffmaaGreat.L0

-- part Cd
/-
  How the code of a draw, a slice of bytes that came in, is opened.
-/
namespace Go.Proofs.YtllaacdikjffmaaGreat.Cd
open Go.ChangeShapes Go.WideShapes Go.ChangeAt Go.RowKit
set_option maxRecDepth 100000
theorem spot_none {w : World} {a : Addr} {v : Value} (h : w.cell? (a.add 0) = some v) : a.spot = none := by
  cases a with
  | mk b o s =>
    cases s with
    | none => rfl
    | some s =>
      exfalso
      unfold Addr.add at h
      rw [if_pos rfl] at h
      simp only [World.cell?] at h
      split at h
      · simp at h
      · simp at h
theorem add_eq {a : Addr} (h : a.spot = none) (k : Nat) : a.add k = ⟨a.block, a.off + k, none⟩ := by
  cases a with
  | mk b o s =>
    obtain rfl : s = none := h
    unfold Addr.add
    split
    · next h0 => subst h0; rfl
    · rfl
theorem block_lt {w : World} {a : Addr} {v : Value} (h : w.cell? a = some v) : a.block < w.heap.size := by
  by_cases hb : a.block < w.heap.size
  · exact hb
  · have e : w.heap[a.block]? = none := by rw [Array.getElem?_eq_none (by omega)]
    simp [World.cell?, e] at h
end Go.Proofs.YtllaacdikjffmaaGreat.Cd

-- part C3
/-
  Contracts of chapter 3's hash, of the program and of the model: Hash, KeyedHash, IsValidKey, BytesToInts, DeriveFromString.
-/
namespace Go.Proofs.YtllaacdikjffmaaGreat.C3
open Go.ChangeShapes Go.WideShapes Go.ChangeAt Go.RowKit
open S0 S1 M3
set_option linter.unusedVariables false
def okInts (xs : List Int) : Prop := ∀ x ∈ xs, -9223372036854775808 ≤ x ∧ x ≤ 9223372036854775807
theorem okInts.app {xs ys : List Int} (h : okInts xs) (h2 : okInts ys) : okInts (xs ++ ys) := by
  intro z hz
  rcases List.mem_append.1 hz with hz | hz
  · exact h z hz
  · exact h2 z hz
theorem okInts.one {x : Int} (h0 : -9223372036854775808 ≤ x) (h1 : x ≤ 9223372036854775807) : okInts [x] := by
  intro z hz
  obtain rfl : z = x := by simpa using hz
  exact ⟨h0, h1⟩
theorem okInts.nil : okInts [] := fun _ h => by cases h
theorem okInts.bytes {xs : List Int} (h : ∀ x ∈ xs, 0 ≤ x ∧ x ≤ 255) : okInts xs := fun x hx => by have := h x hx; omega
/-- Behind k values. -/
def Fold (d0 : Int) (xs : List Int) (k : Nat) (v : Value) (w wr : World) : Prop := ∃ d : Int, v = .int .i64 d ∧ inP d ∧ d = hfrom d0 (xs.take k) ∧ Below w.heap.size w wr
theorem Fold.next {d0 d : Int} {xs : List Int} {k : Nat} {w wr : World} {x d' : Int} (e : d = hfrom d0 (xs.take k)) (hk : k < xs.length) (hx : x = xs.getD k 0) (hd : inP d) (h' : d' = (d * 1000003 + x % 2147483647 + 13) % 2147483647) (hb : Below w.heap.size w wr) : Fold d0 xs (k + 1) (.int .i64 d') w wr := by
  have h2 : d' = hstep d x := h'
  exact ⟨d', rfl, by rw [h2]; exact hstep_in d x, by rw [hfrom_take d0 xs k hk, ← e, ← hx, h2], hb⟩
def isKey (k : Int) : Bool := decide (1 ≤ k ∧ k ≤ 2147483646)
theorem implValid (w : World) (k : Int) : Calls Tryz.prog 99 #[.int .i64 k] w fun e w' => e = .returned (.bool (isKey k)) ∧ w = w' := by
  by_cases h : 1 ≤ k ∧ k ≤ 2147483646
  · have e : isKey k = true := by unfold isKey; exact decide_eq_true h
    rw [e]
    obtain ⟨h1, h2⟩ := h
    go_enter Tryz.func99, Tryz.ntmps99
    go_wp2_with (go_at_call 69; (with_reducible refine (C1.implIn_t _ _ _ _ (by omega) (by omega)).mono ?_); rintro e w' ⟨rfl, rfl⟩)
    go_ret
    exact ⟨rfl, rfl⟩
  · have e : isKey k = false := by unfold isKey; exact decide_eq_false h
    rw [e]
    have h2 : k < 1 ∨ 2147483646 < k := by omega
    clear h
    go_enter Tryz.func99, Tryz.ntmps99
    go_wp2_with (go_at_call 69; (with_reducible refine (C1.implIn_f _ _ _ _ h2).mono ?_); rintro e w' ⟨rfl, rfl⟩)
    go_ret
    exact ⟨rfl, rfl⟩
theorem implValidB (w : World) (k : Int) : Calls Tryz.prog 99 #[.int .i64 k] w (Gives (.bool (isKey k)) w) :=
  (implValid w k).mono fun _ _ ⟨he, hw⟩ => ⟨he, hw ▸ Below.refl _ _⟩
theorem specValid (w : World) (k : Int) : Calls Tryz.prog 76 #[.int .i64 k] w fun e w' => e = .returned (.bool (isKey k)) ∧ w = w' := by
  by_cases h : 1 ≤ k ∧ k ≤ 2147483646
  · have e : isKey k = true := by unfold isKey; exact decide_eq_true h
    rw [e]
    obtain ⟨h1, h2⟩ := h
    go_enter Tryz.func76, Tryz.ntmps76
    go_wp2_with (go_at_call 66; (with_reducible refine (C1.specIn_t _ _ _ _ (by omega) (by omega)).mono ?_); rintro e w' ⟨rfl, rfl⟩)
    go_ret
    exact ⟨rfl, rfl⟩
  · have e : isKey k = false := by unfold isKey; exact decide_eq_false h
    rw [e]
    have h2 : k < 1 ∨ 2147483646 < k := by omega
    clear h
    go_enter Tryz.func76, Tryz.ntmps76
    go_wp2_with (go_at_call 66; (with_reducible refine (C1.specIn_f _ _ _ _ h2).mono ?_); rintro e w' ⟨rfl, rfl⟩)
    go_ret
    exact ⟨rfl, rfl⟩
theorem specValidB (w : World) (k : Int) : Calls Tryz.prog 76 #[.int .i64 k] w (Gives (.bool (isKey k)) w) :=
  (specValid w k).mono fun _ _ ⟨he, hw⟩ => ⟨he, hw ▸ Below.refl _ _⟩
end Go.Proofs.YtllaacdikjffmaaGreat.C3

-- part C3b
/-
  Contracts of chapter 3's BytesToInts and DeriveFromString, of the program and of the model.
-/
namespace Go.Proofs.YtllaacdikjffmaaGreat.C3b
open Go.ChangeShapes Go.WideShapes Go.ChangeAt Go.RowKit
open S0 S1 M3 C3
set_option linter.unusedVariables false
/-- Behind k bytes. -/
def Ints (w : World) (xs : List Int) (k : Nat) (v : Value) (wr : World) : Prop :=
  wr.ownsRow w.heap.size 3 1 v (1 + k) (ints .i64 ([(xs.length : Int)] ++ xs.take k)) ∧ Below w.heap.size w wr
theorem Ints.next {w wr w2 : World} {xs : List Int} {k : Nat} {v v2 : Value} {x : Int} {o : Obj} (h : Ints w xs k v wr) (hk : k < xs.length) (hx : x = xs.getD k 0)
    (ho : w2.ownsRow w.heap.size 3 1 v2 (1 + k + 1) (ints .i64 ([(xs.length : Int)] ++ xs.take k) ++ [.int .i64 x])) (hg : (wr.alloc o).grownBy w2 v.ownBlock) : Ints w xs (k + 1) v2 w2 := by
  refine ⟨?_, (h.2.alloc h.2.size o).grown hg (by have := h.2.size; simp; omega) (fun j hj => (h.1.lt j hj).1)⟩
  have e : ints .i64 ([(xs.length : Int)] ++ xs.take (k + 1)) = ints .i64 ([(xs.length : Int)] ++ xs.take k) ++ [.int .i64 x] := by
    have e1 : xs.take (k + 1) = xs.take k ++ [x] := by rw [List.take_succ_eq_append_getElem hk, hx]; simp [List.getElem?_eq_getElem hk]
    rw [e1, ← List.append_assoc, ← ints_app]
    rfl
  rw [e]
  exact ho
end Go.Proofs.YtllaacdikjffmaaGreat.C3b

-- part C4
/-
  Contracts of chapter 4's powers, of the program and of the model.
-/
namespace Go.Proofs.YtllaacdikjffmaaGreat.C4
open Go.ChangeShapes Go.WideShapes Go.ChangeAt Go.RowKit
open S0 S1 M4
set_option linter.unusedVariables false
theorem and1 (n : Int) : bits .and .i64 n 1 = n % 2 := by
  have h1 : (BitVec.ofInt 64 1).toNat = 2 ^ 1 - 1 := by decide
  have key : (BitVec.ofInt 64 n &&& BitVec.ofInt 64 1).toNat = (n % ((2 ^ 64 : Nat) : Int)).toNat % 2 ^ 1 := by
    rw [BitVec.toNat_and, BitVec.toNat_ofInt, h1, Nat.and_two_pow_sub_one_eq_mod]
  show IntKind.i64.wrap ((BitVec.ofInt 64 n &&& BitVec.ofInt 64 1).toNat : Nat) = n % 2
  rw [key, IntKind.wrap_i64]
  omega
end Go.Proofs.YtllaacdikjffmaaGreat.C4

-- part C6
/-
  Contracts of chapter 6's keys and signatures, of the model.
-/
namespace Go.Proofs.YtllaacdikjffmaaGreat.C6
open Go.ChangeShapes Go.WideShapes Go.ChangeAt Go.RowKit
open S0 S1 C3 M3 M4 M8
set_option linter.unusedVariables false
theorem isKey_t {k : Int} (h : key k) : isKey k = true := by unfold isKey; exact decide_eq_true h
theorem isKey_f {k : Int} (h : ¬ key k) : isKey k = false := by unfold isKey; exact decide_eq_false h
set_option maxRecDepth 100000 in
theorem specPub (k : Int) (w : World) : Calls Tryz.prog 95 #[.int .i64 k] w fun e w' => e = .returned (.int .i64 (pub k)) ∧ w = w' := by
  by_cases h : key k
  · have HP := Lib.hid (show pub k = k * 48271 % 2147483647 by unfold pub; rw [if_pos h])
    have HK := Lib.hid (isKey_t h)
    have h0 := h.1
    have h1 := h.2
    clear h
    go_enter Tryz.func95, Tryz.ntmps95
    go_wp2_with fail
    (with_reducible refine (specValid _ k).mono ?_); rintro e w2 ⟨rfl, rfl⟩
    rw [HK.out]
    go_wp2
    go_ret
    exact ⟨by rw [HP.out]; rfl, rfl⟩
  · have HP := Lib.hid (pub_f h)
    have HK := Lib.hid (isKey_f h)
    clear h
    go_enter Tryz.func95, Tryz.ntmps95
    go_wp2_with fail
    (with_reducible refine (specValid _ k).mono ?_); rintro e w2 ⟨rfl, rfl⟩
    rw [HK.out]
    go_wp2
    go_ret
    exact ⟨by rw [HP.out]; rfl, rfl⟩
/-- In the midst of a power by squaring. -/
def Half6 (g0 : Int) (n0 : Nat) (g : Int) (n : Nat) (o : Int) : Prop := 0 ≤ g ∧ g ≤ 2147483646 ∧ 0 ≤ o ∧ o ≤ 2147483646 ∧ n ≤ n0 ∧ o * g ^ n % 2147483647 = pm 2147483647 g0 n0
theorem half6_odd {g0 g o : Int} {n0 n : Nat} (h : Half6 g0 n0 g n o) (hn : n % 2 = 1) : Half6 g0 n0 (g * g % 2147483647) (n / 2) (o * g % 2147483647) := by
  obtain ⟨_, _, _, _, h5, h6⟩ := h
  have a := Int.emod_nonneg (g * g) (show (2147483647 : Int) ≠ 0 by omega)
  have b := Int.emod_lt_of_pos (g * g) (show (0 : Int) < 2147483647 by omega)
  have c := Int.emod_nonneg (o * g) (show (2147483647 : Int) ≠ 0 by omega)
  have d := Int.emod_lt_of_pos (o * g) (show (0 : Int) < 2147483647 by omega)
  exact ⟨a, by omega, c, by omega, by omega, by rw [half_odd _ _ _ _ hn, h6]⟩
theorem half6_even {g0 g o : Int} {n0 n : Nat} (h : Half6 g0 n0 g n o) (hn : n % 2 = 0) : Half6 g0 n0 (g * g % 2147483647) (n / 2) o := by
  obtain ⟨_, _, h3, h4, h5, h6⟩ := h
  have a := Int.emod_nonneg (g * g) (show (2147483647 : Int) ≠ 0 by omega)
  have b := Int.emod_lt_of_pos (g * g) (show (0 : Int) < 2147483647 by omega)
  exact ⟨a, by omega, h3, h4, by omega, by rw [half_even _ _ _ _ hn, h6]⟩
theorem half6_done {g0 g o : Int} {n0 : Nat} (h : Half6 g0 n0 g 0 o) : o = pm 2147483647 g0 n0 := by
  obtain ⟨_, _, h3, h4, _, h6⟩ := h
  rw [Int.pow_zero, Int.mul_one, Int.emod_eq_of_lt h3 (by omega)] at h6
  exact h6
set_option maxHeartbeats 800000 in
set_option maxRecDepth 100000 in
theorem l6Power (g0 : Int) (n0 : Nat) (w : World) (h0 : 0 ≤ g0) (h1 : g0 ≤ 2147483646) (hn : n0 ≤ 2147483647) :
    Calls Tryz.prog 94 #[.int .i64 g0, .int .i64 n0] w fun e w' => e = .returned (.int .i64 (pm 2147483647 g0 n0)) ∧ w = w' := by
  have HH : Half6 g0 n0 g0 n0 1 := ⟨h0, h1, by omega, by omega, Nat.le_refl _, by rw [Int.one_mul]; rfl⟩
  go_enter Tryz.func94, Tryz.ntmps94
  go_wp2
  go_loop [0, 1, 5] (fun gv nv ov => ∃ (g : Int) (n : Nat) (o : Int), gv = .int .i64 g ∧ nv = .int .i64 n ∧ ov = .int .i64 o ∧ Half6 g0 n0 g n o) (fun _ nv _ => (intOf nv).toNat)
  case atStart => exact ⟨g0, n0, 1, rfl, rfl, rfl, HH⟩
  case round =>
    obtain ⟨g, n, o, rfl, rfl, rfl, hH⟩ := hrel
    have H := Lib.hid hH
    obtain ⟨g1, g2, o1, o2, n1, _⟩ := hH
    have m0 : 0 ≤ g * g := Int.mul_nonneg g1 g1
    have m1 : g * g ≤ 2147483646 * 2147483646 := Int.mul_le_mul (by omega) (by omega) g1 (by omega)
    have m2 : 0 ≤ o * g := Int.mul_nonneg o1 g1
    have m3 : o * g ≤ 2147483646 * 2147483646 := Int.mul_le_mul (by omega) (by omega) g1 (by omega)
    have ha := C4.and1 (n : Int)
    by_cases hlt : 0 < n
    · by_cases ho : n % 2 = 1
      · have ho' : (n : Int) % 2 = 1 := by omega
        rw [ho'] at ha
        go_wp2
        go_round
        case rel => exact ⟨_, n / 2, _, rfl, by simp, rfl, half6_odd H.out ho⟩
        case measure => simp [intOf]; omega
      · have ho' : (n : Int) % 2 = 0 := by omega
        have hn2 : n % 2 = 0 := by omega
        rw [ho'] at ha
        go_wp2
        go_round
        case rel => exact ⟨_, n / 2, _, rfl, by simp, rfl, half6_even H.out hn2⟩
        case measure => simp [intOf]; omega
    · obtain rfl : n = 0 := by omega
      go_wp2
      go_ret
      exact ⟨by rw [half6_done H.out]; rfl, rfl⟩
theorem powInv (w : World) : Calls Tryz.prog 94 #[.int .i64 48271, .int .i64 2147483645] w fun e w' => e = .returned (.int .i64 1899818559) ∧ w = w' := by
  have h := l6Power 48271 2147483645 w (by omega) (by omega) (by omega)
  rw [power_inv] at h
  exact h
set_option maxHeartbeats 800000 in
set_option maxRecDepth 100000 in
theorem specPrv (u : Int) (w : World) : Calls Tryz.prog 73 #[.int .i64 u] w fun e w' => e = .returned (.int .i64 (prv u)) ∧ w = w' := by
  by_cases h : key u
  · have HP := Lib.hid (show prv u = u * 1899818559 % 2147483647 by unfold prv; rw [if_pos h])
    have HB := Lib.hid (pub_prv h)
    have h0 := h.1
    have h1 := h.2
    clear h
    go_enter Tryz.func73, Tryz.ntmps73
    go_wp2_with fail
    (with_reducible refine (C1.specIn_t u 1 2147483646 _ h0 h1).mono ?_); rintro e w2 ⟨rfl, rfl⟩
    go_wp2_with fail
    (with_reducible refine (powInv _).mono ?_); rintro e w2 ⟨rfl, rfl⟩
    have n0 : 0 ≤ u * 1899818559 := by omega
    have n1 : u * 1899818559 ≤ 9223372036854775807 := by omega
    go_wp2_with fail
    rw [← HP.out]
    (with_reducible refine (specPub (prv u) _).mono ?_); rintro e w2 ⟨rfl, rfl⟩
    rw [HB.out]
    go_wp2
    go_ret
    exact ⟨rfl, rfl⟩
  · have HP := Lib.hid (prv_f h)
    have h2 : u < 1 ∨ 2147483646 < u := by unfold key at h; omega
    clear h
    go_enter Tryz.func73, Tryz.ntmps73
    go_wp2_with fail
    (with_reducible refine (C1.specIn_f u 1 2147483646 _ h2).mono ?_); rintro e w2 ⟨rfl, rfl⟩
    go_wp2
    go_ret
    exact ⟨by rw [HP.out]; rfl, rfl⟩
end Go.Proofs.YtllaacdikjffmaaGreat.C6

-- part C6i
/-
  Contracts of chapter 6's keys and signatures, of the program: PublicKey, PrivateKey (a map of one entry keyed by a struct), VerifySignature, DeriveKey.
-/
namespace Go.Proofs.YtllaacdikjffmaaGreat.C6i
open Go.ChangeShapes Go.WideShapes Go.ChangeAt Go.RowKit
open Go.Maps (Keyed)
open S0 S1 C3 M3 M4 M8 C6
set_option linter.unusedVariables false
set_option maxRecDepth 100000
set_option maxRecDepth 100000 in
theorem implPub0 (k : Int) (w : World) : Calls Tryz.prog 108 #[.int .i64 k] w fun e w' => e = .returned (.int .i64 (pub k)) ∧ w = w' := by
  by_cases h : key k
  · have HP := Lib.hid (show pub k = k * 48271 % 2147483647 by unfold pub; rw [if_pos h])
    have HK := Lib.hid (isKey_t h)
    have h0 := h.1
    have h1 := h.2
    clear h
    go_enter Tryz.func108, Tryz.ntmps108
    go_wp2_with fail
    (with_reducible refine (implValid _ k).mono ?_); rintro e w2 ⟨rfl, rfl⟩
    rw [HK.out]
    go_wp2
    go_ret
    exact ⟨by rw [HP.out]; rfl, rfl⟩
  · have HP := Lib.hid (pub_f h)
    have HK := Lib.hid (isKey_f h)
    clear h
    go_enter Tryz.func108, Tryz.ntmps108
    go_wp2_with fail
    (with_reducible refine (implValid _ k).mono ?_); rintro e w2 ⟨rfl, rfl⟩
    rw [HK.out]
    go_wp2
    go_ret
    exact ⟨by rw [HP.out]; rfl, rfl⟩
theorem wide : (match Tryz.prog.underlying 129 with | some (.array _ _) | some (.struct _) => true | _ => false) = true := by rw [Tryz.underlying129]
theorem laidOut : laidOutB Tryz.prog = true := by kernel_rfl
theorem rowK : (129 : TypeId) < Tryz.prog.types.size := of_decide_eq_true (by kernel_rfl)
theorem law : Keyed Tryz.prog 129 := Keyed.of_law (deep_law_laid laidOut (m := 2) (by omega) rowK (by kernel_rfl) wide)
theorem keyType : Tryz.prog.keyType 129 = true := by kernel_rfl
theorem cellsK : Tryz.prog.cellsOf 129 = 1 := by kernel_rfl
theorem cellsI : Tryz.prog.cellsOf 3 = 1 := by kernel_rfl
/-- What a key reads as. -/
def keyLit (q : Int) : Lit := .string (keyBytes [.int .i64 q])
theorem sizeS : ∃ n, Tryz.prog.types.size + 1 = n + 1 + 1 := by
  have h : (0 : Nat) < Tryz.prog.types.size := Nat.lt_of_le_of_lt (Nat.zero_le _) rowK
  generalize Tryz.prog.types.size = s at h
  exact ⟨s - 1, by omega⟩
set_option maxRecDepth 100000 in
theorem key_is (q : Int) (h0 : -9223372036854775808 ≤ q) (h1 : q ≤ 9223372036854775807) : keyOf Tryz.prog 129 (.agg #[.int .i64 q]) = some (keyLit q) := by
  have hw := WalkArith.wf_i64 ⟨h0, h1⟩
  have hf : (Value.agg #[.int .i64 q]).formed Tryz.prog 129 = true := by simp [Value.formed, Tryz.underlying129, cellsK]
  obtain ⟨n, hn⟩ := sizeS
  have h1 : Tryz.prog.keyLits (n + 1) 3 [.int .i64 q] = some [.int .i64 q] := by
    unfold Program.keyLits
    rw [Tryz.underlying3]
    exact if_pos ⟨rfl, hw⟩
  have h2 : Tryz.prog.keyLits (n + 1 + 1) 129 [.int .i64 q] = some [.int .i64 q] := by
    rw [Program.keyLits.eq_def]
    simp only [Tryz.underlying129]
    rw [if_pos ⟨by rw [cellsK]; rfl, by simp⟩]
    simp only [List.mapM_cons, List.mapM_nil, cellsI, List.drop_zero, List.take_succ_cons, List.take_nil, h1]
    rfl
  unfold keyOf keyLit
  rw [Tryz.underlying129]
  have h3 : (Tryz.prog.keyType 129 && (Value.agg #[.int .i64 q]).formed Tryz.prog 129) = true := by rw [keyType, hf]; rfl
  show (if (Tryz.prog.keyType 129 && (Value.agg #[.int .i64 q]).formed Tryz.prog 129) = true then (Tryz.prog.keyLits (Tryz.prog.types.size + 1) 129 [.int .i64 q]).map fun ls => Lit.string (keyBytes ls) else none) = _
  rw [if_pos h3, hn, h2]
  rfl
/-- A store into a new map. -/
theorem ins (w : World) (b : Nat) (q c : Int) (h0 : -9223372036854775808 ≤ q) (h1 : q ≤ 9223372036854775807) (hb : w.heap[b]? = some (.map #[] 0)) :
    (Instr.mapUpdate 130 (.map (some b)) (.agg #[.int .i64 q]) (.int .i64 c)).run Tryz.prog w = .ok () (ChangeMaps.setBlock w b (.map #[⟨.agg #[.int .i64 q], .int .i64 c, 0⟩] 1)) := by
  have hk := key_is q h0 h1
  have hn : (Instr.findKey 129 (.agg #[.int .i64 q]) []).run Tryz.prog w = .ok none w := by
    rcases law.find w hk [] (by simp) with ⟨h, _⟩ | ⟨j, e, _, h, _⟩
    · exact h
    · simp at h
  simp [Instr.mapUpdate, run_underlying Tryz.underlying130, MapKept.run_getObj_map hb, law.check w false hk, hn, MapKept.run_setObj_map _ hb, Result.andThen, ChangeMaps.setBlock]
/-- A look-up in a map of one entry. -/
theorem look (w : World) (b : Nat) (q c u : Int) (h0 : -9223372036854775808 ≤ q) (h1 : q ≤ 9223372036854775807) (u0 : -9223372036854775808 ≤ u) (u1 : u ≤ 9223372036854775807) (hb : w.heap[b]? = some (.map #[⟨.agg #[.int .i64 q], .int .i64 c, 0⟩] 1)) :
    (Instr.lookup 130 (.map (some b)) (.agg #[.int .i64 u]) false).run Tryz.prog w = .ok (.int .i64 (if q = u then c else 0)) w := by
  have hk := key_is q h0 h1
  have hu := key_is u u0 u1
  have hf := law.find w hu [⟨.agg #[.int .i64 q], .int .i64 c, 0⟩] (fun e he => by obtain rfl : e = ⟨.agg #[.int .i64 q], .int .i64 c, 0⟩ := List.mem_singleton.1 he; exact ⟨_, hk⟩)
  rcases hf with ⟨h, hne⟩ | ⟨j, e, h, hj, he⟩
  · have : q ≠ u := by
      intro e
      subst e
      exact hne ⟨.agg #[.int .i64 q], .int .i64 c, 0⟩ (List.mem_singleton.2 rfl) rfl
    rw [if_neg this]
    simp [Instr.lookup, run_underlying Tryz.underlying130, MapKept.run_getObj_map hb, law.check w _ hu, h, Result.andThen]
  · have hj0 : e = ⟨.agg #[.int .i64 q], .int .i64 c, 0⟩ := by
      cases j with
      | zero => simpa using hj.symm
      | succ j => simp at hj
    subst hj0
    have : q = u := by simpa using he
    rw [if_pos this]
    simp [Instr.lookup, run_underlying Tryz.underlying130, MapKept.run_getObj_map hb, law.check w _ hu, h, Result.andThen]
theorem set_there {w : World} {b : Nat} {o o' : Obj} (h : w.heap[b]? = some o) : (ChangeMaps.setBlock w b o').heap[b]? = some o' := by
  obtain ⟨hl, _⟩ := Array.getElem?_eq_some_iff.1 h
  simp [ChangeMaps.setBlock, hl]
theorem set_below (w : World) (o o' : Obj) : Below w.heap.size w (ChangeMaps.setBlock (w.alloc o) w.heap.size o') := by
  have h := (Below.refl w.heap.size w).alloc (Nat.le_refl _) o
  refine ⟨h.os, h.tape, h.output, by simp [ChangeMaps.setBlock], fun k hk => ?_⟩
  rw [← h.block k hk]
  simp [ChangeMaps.setBlock, show ¬ w.heap.size = k by omega]
/-- The private key that is kept under a public one. -/
theorem kept_is (u c : Int) (u0 : -9223372036854775808 ≤ u) (u1 : u ≤ 9223372036854775807) (h : c = (wrap64 (u * 1899818559)).tmod 2147483647) : (if pub c = u then c else 0) = prv u := by
  by_cases hu : key u
  · have hp : prv u = u * 1899818559 % 2147483647 := by unfold prv; rw [if_pos hu]
    have a0 := hu.1
    have a1 := hu.2
    have hw : wrap64 (u * 1899818559) = u * 1899818559 := (show wrap64 (u * 1899818559) = u * 1899818559 by unfold wrap64; omega)
    rw [hw, Int.tmod_eq_emod_of_nonneg (by omega), ← hp] at h
    rw [h, pub_prv hu, if_pos rfl]
  · rw [prv_f hu]
    by_cases hc : key c
    · rw [if_neg (fun e => hu (by rw [← e]; exact pub_key hc))]
    · rw [pub_f hc]
      by_cases h0 : (0 : Int) = u
      · rw [if_pos h0, h, ← h0]
        have e : wrap64 (0 * 1899818559) = 0 := by unfold wrap64; omega
        rw [e]
        rfl
      · rw [if_neg h0]
theorem cand_in (x : Int) : -2147483646 ≤ x.tmod 2147483647 ∧ x.tmod 2147483647 ≤ 2147483646 := by
  have h1 := M1.tmod_lt x 2147483647 (by omega)
  have h2 := M1.lt_tmod x 2147483647 (by omega)
  omega
set_option maxHeartbeats 1000000 in
set_option maxRecDepth 100000 in
theorem implPrv (u : Int) (w : World) (u0 : -9223372036854775808 ≤ u) (u1 : u ≤ 9223372036854775807) : Calls Tryz.prog 101 #[.int .i64 u] w (Gives (.int .i64 (prv u)) w) := by
  obtain ⟨c, hc⟩ : ∃ c, c = (wrap64 (u * 1899818559)).tmod 2147483647 := ⟨_, rfl⟩
  have hk := kept_is u c u0 u1 hc
  have hci := cand_in (wrap64 (u * 1899818559))
  rw [← hc] at hci
  obtain ⟨c0, c1⟩ := hci
  have HK := Lib.hid hk
  obtain ⟨q, hq⟩ : ∃ q, q = pub c := ⟨_, rfl⟩
  have hqi := pub_in c
  rw [← hq] at hk hqi
  have hb : (w.alloc (.map #[] 0)).heap[w.heap.size]? = some (.map #[] 0) := (MapKept.heap_alloc w (.map #[] 0)).1
  have hins := ins (w.alloc (.map #[] 0)) w.heap.size q c (by omega) (by omega) hb
  have hlook := look _ _ q c u (by omega) (by omega) u0 u1 (set_there (o' := .map #[⟨.agg #[.int .i64 q], .int .i64 c, 0⟩] 1) hb)
  rw [hk] at hlook
  have HB := set_below w (.map #[] 0) (.map #[⟨.agg #[.int .i64 q], .int .i64 c, 0⟩] 1)
  have hmm := run_makeMap (P := Tryz.prog)
  have HC := Lib.hid hc
  have HQ := Lib.hid hq
  clear hc hk hq hqi hb
  go_enter Tryz.func101, Tryz.ntmps101
  go_wp2_with fail
  rw [← HC.out]
  (with_reducible refine (implPub0 c _).mono ?_); rintro e w2 ⟨rfl, rfl⟩
  rw [← HQ.out]
  go_wp2
  go_ret
  exact ⟨rfl, HB⟩
end Go.Proofs.YtllaacdikjffmaaGreat.C6i
