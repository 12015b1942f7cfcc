/-
  Plain arithmetic behind chapter 2: varints.
-/
import Derived.WalkKit
import Derived.IntWalk
import Derived.Laws.BitsLemmas
namespace Go.Proofs.Ytogoppknimpkbaa.M2
open Go.RowKit
set_option linter.unusedVariables false

/-- The groups of seven bits, least first, bit 7 set in every one but the last. -/
def uv (n : Nat) : List Int := if n < 128 then [(n : Int)] else ((n % 128 + 128 : Nat) : Int) :: uv (n / 128)
theorem uv_small (n : Nat) (h : n < 128) : uv n = [(n : Int)] := by rw [uv, if_pos h]
theorem uv_big (n : Nat) (h : ¬ n < 128) : uv n = ((n % 128 + 128 : Nat) : Int) :: uv (n / 128) := by rw [uv, if_neg h]
theorem uv_len (k n : Nat) (h : n < 128 ^ (k + 1)) : (uv n).length ≤ k + 1 := by
  induction k generalizing n with
  | zero => rw [uv_small n (by simpa using h)]; simp
  | succ k ih =>
    by_cases h1 : n < 128
    · rw [uv_small n h1]; simp
    · rw [uv_big n h1]
      have := ih (n / 128) (by rw [Nat.pow_succ] at h; omega)
      simp; omega
theorem uv_pos (n : Nat) : 0 < (uv n).length := by rw [uv]; split <;> simp
theorem uv_len6 (n : Nat) (h : n ≤ 1000000000000) : (uv n).length ≤ 6 := uv_len 5 n (by omega)
/-- What AppendUvarint adds. -/
def enc (n : Int) : List Int := if 0 ≤ n ∧ n ≤ 1000000000000 then uv n.toNat else []
theorem enc_in (n : Nat) (h : n ≤ 1000000000000) : enc n = uv n := by unfold enc; rw [if_pos (by omega)]; rfl
theorem enc_out (n : Int) (h : n < 0 ∨ 1000000000000 < n) : enc n = [] := by unfold enc; rw [if_neg (by omega)]
theorem enc_len (n : Int) : (enc n).length ≤ 6 := by
  unfold enc; split
  · exact uv_len6 _ (by omega)
  · simp
theorem i64_wraps (n : Int) (h₀ : 0 ≤ n) (h₁ : n < 2 ^ 62) : IntKind.i64.wrap n = n := by rw [IntKind.wrap_i64]; omega
theorem and127 (n : Int) (h₀ : 0 ≤ n) (h₁ : n < 4611686018427387904) : bits .and .i64 n 127 = n % 128 := bits_mask .i64 62 (by decide) i64_wraps 7 (by decide) n h₀ h₁
theorem or128 (n : Int) (h₀ : 0 ≤ n) (h₁ : n < 128) : bits .or .i64 n 128 = n + 128 := by
  have h := bits_join .i64 62 (by decide) i64_wraps 7 128 n (by decide) (by decide) (by decide) h₀ h₁ (by omega)
  have hc : bits .or .i64 n 128 = bits .or .i64 128 n := by simp only [bits, BitVec.or_comm]
  rw [hc, h]; omega
/-- What a varint's bytes say: f groups may still be read, k are read, their sum is acc. -/
def decL : Nat → List Int → Nat → Int → Option (Int × Nat)
  | 0, _, _, _ => none
  | _ + 1, [], _, _ => none
  | f + 1, x :: xs, k, acc =>
    if x < 128 then (if (x = 0 ∧ 0 < k) ∨ 1000000000000 < acc + x * 2 ^ (7 * k) then none else some (acc + x * 2 ^ (7 * k), k + 1))
    else decL f xs (k + 1) (acc + x % 128 * 2 ^ (7 * k))
def dec (xs : List Int) (off : Int) : Option (Int × Int) :=
  if 0 ≤ off ∧ off ≤ xs.length then (decL 6 (xs.drop off.toNat) 0 0).map (fun p => (p.1, off + p.2)) else none
def rn : Option (Int × Int) → Int | none => 0 | some p => p.1
def rx : Option (Int × Int) → Int | none => 0 | some p => p.2
def rb : Option (Int × Int) → Bool | none => false | some _ => true
theorem decL_nil (f k : Nat) (acc : Int) : decL f [] k acc = none := by cases f <;> rfl
theorem decL_go (f k : Nat) (acc x : Int) (xs : List Int) (h : ¬ x < 128) : decL (f + 1) (x :: xs) k acc = decL f xs (k + 1) (acc + x % 128 * 2 ^ (7 * k)) := by rw [decL, if_neg h]
theorem decL_bad (f k : Nat) (acc x : Int) (xs : List Int) (h : x < 128) (h2 : (x = 0 ∧ 0 < k) ∨ 1000000000000 < acc + x * 2 ^ (7 * k)) : decL (f + 1) (x :: xs) k acc = none := by rw [decL, if_pos h, if_pos h2]
theorem decL_hit (f k : Nat) (acc x : Int) (xs : List Int) (h : x < 128) (h2 : ¬ ((x = 0 ∧ 0 < k) ∨ 1000000000000 < acc + x * 2 ^ (7 * k))) : decL (f + 1) (x :: xs) k acc = some (acc + x * 2 ^ (7 * k), k + 1) := by rw [decL, if_pos h, if_neg h2]
/-- Behind k groups of the bytes from off on, whose sum is acc. -/
def Dec (xs : List Int) (off k : Nat) (acc : Int) : Prop :=
  k ≤ 6 ∧ off + k ≤ xs.length ∧ 0 ≤ acc ∧ acc < 2 ^ (7 * k) ∧ decL 6 (xs.drop off) 0 0 = decL (6 - k) (xs.drop (off + k)) k acc
theorem Dec.start (xs : List Int) (off : Nat) (h : off ≤ xs.length) : Dec xs off 0 0 := ⟨by omega, by omega, by omega, by decide, rfl⟩
theorem pow_le6 (k : Nat) (h : k ≤ 6) : (2 : Int) ^ (7 * k) ≤ 4398046511104 := by
  have : k = 0 ∨ k = 1 ∨ k = 2 ∨ k = 3 ∨ k = 4 ∨ k = 5 ∨ k = 6 := by omega
  rcases this with rfl | rfl | rfl | rfl | rfl | rfl | rfl <;> decide
theorem pow_pos (k : Nat) : (0 : Int) < 2 ^ (7 * k) := Int.pow_pos (by decide)
theorem Dec.bd {xs : List Int} {off k : Nat} {acc : Int} (h : Dec xs off k acc) : 0 ≤ acc ∧ acc < 4398046511104 := ⟨h.2.2.1, by have := h.2.2.2.1; have := pow_le6 k h.1; omega⟩
/-- A group's part of the sum. -/
theorem part_bd (k : Nat) (x : Int) (hk : k < 6) (h0 : 0 ≤ x) (h1 : x ≤ 255) : 0 ≤ x % 128 * 2 ^ (7 * k) ∧ x % 128 * 2 ^ (7 * k) ≤ 4398046511104 := by
  have h2 := pow_pos k
  have h3 := pow_le6 (k + 1) (by omega)
  have e : (2 : Int) ^ (7 * (k + 1)) = 128 * 2 ^ (7 * k) := by rw [show 7 * (k + 1) = 7 * k + 7 by omega, Int.pow_add]; omega
  have h4 : 0 ≤ x % 128 := by omega
  refine ⟨Int.mul_nonneg h4 (by omega), ?_⟩
  have h5 : x % 128 * 2 ^ (7 * k) ≤ 128 * 2 ^ (7 * k) := Int.mul_le_mul_of_nonneg_right (by omega) (by omega)
  omega
theorem drop_cons (xs : List Int) (i : Nat) (h : i < xs.length) : xs.drop i = xs.getD i 0 :: xs.drop (i + 1) := by
  rw [List.drop_eq_getElem_cons h]; simp [List.getElem?_eq_getElem h]
theorem Dec.next {xs : List Int} {off k : Nat} {acc : Int} (h : Dec xs off k acc) (hk : k < 6) (hl : off + k < xs.length) (hx : ¬ xs.getD (off + k) 0 < 128) : Dec xs off (k + 1) (acc + xs.getD (off + k) 0 % 128 * 2 ^ (7 * k)) := by
  obtain ⟨h1, h2, h3, h4, h5⟩ := h
  have h6 := pow_pos k
  have h7 : 0 ≤ xs.getD (off + k) 0 % 128 := by omega
  have h8 : 0 ≤ xs.getD (off + k) 0 % 128 * 2 ^ (7 * k) := Int.mul_nonneg h7 (by omega)
  refine ⟨by omega, by omega, by omega, ?_, ?_⟩
  · have e : (2 : Int) ^ (7 * (k + 1)) = 128 * 2 ^ (7 * k) := by rw [show 7 * (k + 1) = 7 * k + 7 by omega, Int.pow_add]; omega
    have h9 : xs.getD (off + k) 0 % 128 * 2 ^ (7 * k) ≤ 127 * 2 ^ (7 * k) := Int.mul_le_mul_of_nonneg_right (by omega) (by omega)
    omega
  · rw [h5, drop_cons xs (off + k) hl, show 6 - k = (6 - (k + 1)) + 1 by omega, decL_go _ _ _ _ _ hx]; rfl
theorem Dec.bad {xs : List Int} {off k : Nat} {acc : Int} (h : Dec xs off k acc) (hk : k < 6) (hl : off + k < xs.length) (hx : xs.getD (off + k) 0 < 128) (h2 : (xs.getD (off + k) 0 = 0 ∧ 0 < k) ∨ 1000000000000 < acc + xs.getD (off + k) 0 * 2 ^ (7 * k)) : dec xs off = none := by
  unfold dec
  rw [if_pos (by omega), show (off : Int).toNat = off from rfl, h.2.2.2.2, drop_cons xs (off + k) hl, show 6 - k = (6 - (k + 1)) + 1 by omega, decL_bad _ _ _ _ _ hx h2]; rfl
theorem Dec.hit {xs : List Int} {off k : Nat} {acc : Int} (h : Dec xs off k acc) (hk : k < 6) (hl : off + k < xs.length) (hx : xs.getD (off + k) 0 < 128) (h2 : ¬ ((xs.getD (off + k) 0 = 0 ∧ 0 < k) ∨ 1000000000000 < acc + xs.getD (off + k) 0 * 2 ^ (7 * k))) :
    dec xs off = some (acc + xs.getD (off + k) 0 * 2 ^ (7 * k), (off : Int) + k + 1) := by
  unfold dec
  rw [if_pos (by omega), show (off : Int).toNat = off from rfl, h.2.2.2.2, drop_cons xs (off + k) hl, show 6 - k = (6 - (k + 1)) + 1 by omega, decL_hit _ _ _ _ _ hx h2]
  simp; omega
theorem Dec.none_ {xs : List Int} {off k : Nat} {acc : Int} (h : Dec xs off k acc) (hk : k = 6 ∨ off + k = xs.length) : dec xs off = none := by
  unfold dec
  rw [if_pos (by have := h.2.1; omega), show (off : Int).toNat = off from rfl, h.2.2.2.2]
  rcases hk with rfl | hk
  · rfl
  · rw [hk, List.drop_length, decL_nil]; rfl
theorem dec_out (xs : List Int) (off : Int) (h : off < 0 ∨ (xs.length : Int) < off) : dec xs off = none := by unfold dec; rw [if_neg (by omega)]
theorem decL_bd (f k : Nat) (xs : List Int) (acc : Int) (p : Int × Nat) (h : decL f xs k acc = some p) (h0 : 0 ≤ acc) (hx : ∀ x ∈ xs, 0 ≤ x) : 0 ≤ p.1 ∧ p.1 ≤ 1000000000000 ∧ k < p.2 ∧ p.2 ≤ k + xs.length := by
  induction f generalizing xs k acc with
  | zero => rw [decL] at h; cases h
  | succ f ih =>
    cases xs with
    | nil => rw [decL_nil] at h; cases h
    | cons x xs =>
      have hx0 := hx x List.mem_cons_self
      have hp := pow_pos k
      by_cases h1 : x < 128
      · by_cases h2 : (x = 0 ∧ 0 < k) ∨ 1000000000000 < acc + x * 2 ^ (7 * k)
        · rw [decL_bad _ _ _ _ _ h1 h2] at h; cases h
        · rw [decL_hit _ _ _ _ _ h1 h2] at h
          injection h with h
          subst h
          have : 0 ≤ x * 2 ^ (7 * k) := Int.mul_nonneg hx0 (by omega)
          exact ⟨by show 0 ≤ acc + _; omega, by show acc + _ ≤ _; omega, by show k < k + 1; omega, by show k + 1 ≤ _; simp⟩
      · rw [decL_go _ _ _ _ _ h1] at h
        have : 0 ≤ x % 128 * 2 ^ (7 * k) := Int.mul_nonneg (by omega) (by omega)
        have := ih (k + 1) xs _ h (by omega) (fun y hy => hx y (List.mem_cons_of_mem _ hy))
        simp; omega
theorem dec_bd {xs : List Int} {off a b : Int} (h : dec xs off = some (a, b)) (hx : ∀ x ∈ xs, 0 ≤ x ∧ x ≤ 255) : 0 ≤ off ∧ 0 ≤ a ∧ a ≤ 1000000000000 ∧ off < b ∧ b ≤ xs.length := by
  unfold dec at h
  split at h
  · next ho =>
    cases hd : decL 6 (xs.drop off.toNat) 0 0 with
    | none => rw [hd] at h; cases h
    | some p =>
      rw [hd] at h
      simp at h
      obtain ⟨rfl, rfl⟩ := h
      have := decL_bd 6 0 _ 0 p hd (by omega) (fun x hx' => (hx x (List.mem_of_mem_drop hx')).1)
      simp at this
      omega
  · cases h
/-- count varints from off on. -/
def decAll (xs : List Int) : Nat → Int → Option (List Int × Int)
  | 0, off => some ([], off)
  | k + 1, off => match dec xs off with
    | none => none
    | some (a, b) => (decAll xs k b).map fun p => (a :: p.1, p.2)
theorem decAll_none {xs : List Int} {k : Nat} {off : Int} (h : dec xs off = none) : decAll xs (k + 1) off = none := by rw [decAll, h]
theorem decAll_some {xs : List Int} {k : Nat} {off a b : Int} (h : dec xs off = some (a, b)) : decAll xs (k + 1) off = (decAll xs k b).map fun p => (a :: p.1, p.2) := by rw [decAll, h]
def decInts (xs : List Int) (off count : Int) : Option (List Int × Int) := if 0 ≤ count ∧ count ≤ 100 ∧ 0 ≤ off ∧ off ≤ xs.length then decAll xs count.toNat off else none
def il : Option (List Int × Int) → List Int | none => [] | some p => p.1
def ix : Option (List Int × Int) → Int | none => 0 | some p => p.2
def ib : Option (List Int × Int) → Bool | none => false | some _ => true
/-- Behind i of count varints: what was read, and where. -/
def DecA (xs : List Int) (off : Int) (count i : Nat) (ys : List Int) (cur : Int) : Prop :=
  ys.length = i ∧ i ≤ count ∧ 0 ≤ cur ∧ cur ≤ xs.length ∧ decAll xs count off = (decAll xs (count - i) cur).map fun p => (ys ++ p.1, p.2)
theorem DecA.start (xs : List Int) (off : Int) (count : Nat) (h0 : 0 ≤ off) (h1 : off ≤ xs.length) : DecA xs off count 0 [] off := ⟨rfl, by omega, h0, h1, by simp⟩
theorem DecA.next {xs : List Int} {off : Int} {count i : Nat} {ys : List Int} {cur a b : Int} (h : DecA xs off count i ys cur) (hi : i < count) (hd : dec xs cur = some (a, b)) (hx : ∀ x ∈ xs, 0 ≤ x ∧ x ≤ 255) : DecA xs off count (i + 1) (ys ++ [a]) b := by
  obtain ⟨h1, h2, h3, h4, h5⟩ := h
  have hb := dec_bd hd hx
  refine ⟨by simp; omega, by omega, by omega, by omega, ?_⟩
  rw [h5, show count - i = (count - (i + 1)) + 1 by omega, decAll_some hd, Option.map_map]
  congr 1
  funext p
  simp
theorem DecA.fail {xs : List Int} {off : Int} {count i : Nat} {ys : List Int} {cur : Int} (h : DecA xs off count i ys cur) (hi : i < count) (hd : dec xs cur = none) : decAll xs count off = none := by
  rw [h.2.2.2.2, show count - i = (count - (i + 1)) + 1 by omega, decAll_none hd]; rfl
theorem DecA.done {xs : List Int} {off : Int} {count : Nat} {ys : List Int} {cur : Int} (h : DecA xs off count count ys cur) : decAll xs count off = some (ys, cur) := by
  rw [h.2.2.2.2, Nat.sub_self]; simp [decAll]
theorem decInts_in {xs : List Int} {off : Int} {count : Nat} (h : count ≤ 100) (h0 : 0 ≤ off) (h1 : off ≤ xs.length) : decInts xs off count = decAll xs count off := by unfold decInts; rw [if_pos (by omega)]; rfl
theorem decInts_out {xs : List Int} {off count : Int} (h : count < 0 ∨ 100 < count ∨ off < 0 ∨ (xs.length : Int) < off) : decInts xs off count = none := by unfold decInts; rw [if_neg (by omega)]
/-- A byte string behind its length. -/
def decBytes (xs : List Int) (off most : Int) : Option (List Int × Int) := match dec xs off with
  | none => none
  | some (a, b) => if most < a ∨ (xs.length : Int) - b < a then none else some ((xs.drop b.toNat).take a.toNat, b + a)
theorem decBytes_none {xs : List Int} {off most : Int} (h : dec xs off = none) : decBytes xs off most = none := by unfold decBytes; rw [h]
theorem decBytes_bad {xs : List Int} {off most a b : Int} (h : dec xs off = some (a, b)) (h2 : most < a ∨ (xs.length : Int) - b < a) : decBytes xs off most = none := by unfold decBytes; rw [h]; exact if_pos h2
theorem decBytes_some {xs : List Int} {off most a b : Int} (h : dec xs off = some (a, b)) (h2 : ¬ (most < a ∨ (xs.length : Int) - b < a)) : decBytes xs off most = some ((xs.drop b.toNat).take a.toNat, b + a) := by unfold decBytes; rw [h]; exact if_neg h2
theorem decBytes_len (xs : List Int) (off most : Int) : (il (decBytes xs off most)).length ≤ xs.length := by
  cases hd : dec xs off with
  | none => rw [decBytes_none hd]; simp [il]
  | some p =>
    obtain ⟨a, b⟩ := p
    by_cases h2 : most < a ∨ (xs.length : Int) - b < a
    · rw [decBytes_bad hd h2]; simp [il]
    · rw [decBytes_some hd h2]; simp [il]; omega
theorem decAll_len (xs : List Int) (k : Nat) (off : Int) : (il (decAll xs k off)).length ≤ k := by
  induction k generalizing off with
  | zero => simp [decAll, il]
  | succ k ih =>
    cases hd : dec xs off with
    | none => rw [decAll_none hd]; simp [il]
    | some p =>
      obtain ⟨a, b⟩ := p
      rw [decAll_some hd]
      have := ih b
      cases h : decAll xs k b with
      | none => simp [il]
      | some q => rw [h] at this; simp [il] at this ⊢; omega
theorem decInts_len (xs : List Int) (off count : Int) : (il (decInts xs off count)).length ≤ 100 := by
  unfold decInts
  split
  · have := decAll_len xs count.toNat off; omega
  · simp [il]
theorem uv_ok (n : Nat) : ∀ y ∈ uv n, 0 ≤ y ∧ y ≤ 255 := by
  induction n using Nat.strongRecOn with
  | ind n ih =>
    by_cases h : n < 128
    · rw [uv_small n h]; intro y hy; simp at hy; omega
    · rw [uv_big n h]
      intro y hy
      rcases List.mem_cons.1 hy with rfl | hy
      · omega
      · exact ih (n / 128) (by omega) y hy
theorem enc_ok (n : Int) : ∀ y ∈ enc n, 0 ≤ y ∧ y ≤ 255 := by
  unfold enc; split
  · exact uv_ok _
  · intro y hy; cases hy
theorem pow_succ7 (k : Nat) : (2 : Int) ^ (7 * (k + 1)) = 128 * 2 ^ (7 * k) := by rw [show 7 * (k + 1) = 7 * k + 7 by omega, Int.pow_add]; omega
/-- What is written is read. -/
theorem decL_uv (f k m : Nat) (acc : Int) (rest : List Int) (hf : (uv m).length ≤ f) (hm : 0 < m ∨ k = 0) (hs : acc + m * 2 ^ (7 * k) ≤ 1000000000000) (ha : 0 ≤ acc) : decL f (uv m ++ rest) k acc = some (acc + m * 2 ^ (7 * k), k + (uv m).length) := by
  induction f generalizing k m acc with
  | zero => have := uv_pos m; omega
  | succ f ih =>
    by_cases h : m < 128
    · rw [uv_small m h]
      rw [List.cons_append, decL_hit _ _ _ _ _ (by omega) (by omega)]
      rfl
    · rw [uv_big m h] at hf ⊢
      rw [List.cons_append, decL_go _ _ _ _ _ (by omega)]
      have e1 : (((m % 128 + 128 : Nat) : Int)) % 128 = ((m % 128 : Nat) : Int) := by omega
      have e2 : acc + ((m % 128 : Nat) : Int) * 2 ^ (7 * k) + ((m / 128 : Nat) : Int) * 2 ^ (7 * (k + 1)) = acc + (m : Int) * 2 ^ (7 * k) := by
        rw [pow_succ7, ← Int.mul_assoc, Int.add_assoc, ← Int.add_mul]
        congr 2
        omega
      have h0 : 0 ≤ ((m % 128 : Nat) : Int) * 2 ^ (7 * k) := Int.mul_nonneg (by omega) (by have := pow_pos k; omega)
      rw [e1, ih (k + 1) (m / 128) _ (by simp at hf; omega) (by omega) (by rw [e2]; exact hs) (by omega), e2]
      simp; omega
theorem dec_enc (ys : List Int) (n : Nat) (rest : List Int) (h : n ≤ 1000000000000) : dec (ys ++ (uv n ++ rest)) ys.length = some ((n : Int), (ys.length : Int) + (uv n).length) := by
  unfold dec
  rw [if_pos (by simp; omega), show ((ys.length : Nat) : Int).toNat = ys.length from rfl, List.drop_left, decL_uv 6 0 n 0 rest (uv_len6 n h) (by omega) (by simp; omega) (by omega)]
  simp
/-- What is read was written. -/
theorem decL_sound (f k : Nat) (xs : List Int) (acc s : Int) (j : Nat) (h : decL f xs k acc = some (s, j)) (hx : ∀ x ∈ xs, 0 ≤ x ∧ x ≤ 255) : ∃ m : Nat, s = acc + m * 2 ^ (7 * k) ∧ j = k + (uv m).length ∧ xs.take (uv m).length = uv m ∧ (0 < k → 0 < m) := by
  induction f generalizing k xs acc with
  | zero => rw [decL] at h; cases h
  | succ f ih =>
    cases xs with
    | nil => rw [decL_nil] at h; cases h
    | cons x xs =>
      have hxb := hx x List.mem_cons_self
      by_cases h1 : x < 128
      · by_cases h2 : (x = 0 ∧ 0 < k) ∨ 1000000000000 < acc + x * 2 ^ (7 * k)
        · rw [decL_bad _ _ _ _ _ h1 h2] at h; cases h
        · rw [decL_hit _ _ _ _ _ h1 h2] at h
          simp only [Option.some.injEq, Prod.mk.injEq] at h
          obtain ⟨rfl, rfl⟩ := h
          have e : ((x.toNat : Nat) : Int) = x := by omega
          have hu : uv x.toNat = [x] := by rw [uv_small _ (by omega), e]
          refine ⟨x.toNat, by rw [e], by rw [hu]; rfl, by rw [hu]; rfl, fun hk => by omega⟩
      · rw [decL_go _ _ _ _ _ h1] at h
        obtain ⟨m', h3, h4, h5, h6⟩ := ih (k + 1) xs _ h (fun y hy => hx y (List.mem_cons_of_mem _ hy))
        have hm' := h6 (by omega)
        have hb : ¬ (x % 128).toNat + 128 * m' < 128 := by omega
        have hu : uv ((x % 128).toNat + 128 * m') = x :: uv m' := by
          rw [uv_big _ hb]
          congr 1
          · omega
          · congr 1; omega
        refine ⟨(x % 128).toNat + 128 * m', ?_, ?_, ?_, fun _ => by omega⟩
        · rw [h3, pow_succ7]
          have e : (((x % 128).toNat + 128 * m' : Nat) : Int) = x % 128 + m' * 128 := by omega
          rw [e, Int.add_mul, ← Int.add_assoc, Int.mul_assoc]
        · rw [hu, h4]; simp; omega
        · rw [hu]; simp [h5]
theorem dec_sound {xs : List Int} {off m a : Int} (h : dec xs off = some (m, a)) (hx : ∀ x ∈ xs, 0 ≤ x ∧ x ≤ 255) : enc m = (xs.drop off.toNat).take (a - off).toNat := by
  have hb := dec_bd h hx
  unfold dec at h
  rw [if_pos (by omega)] at h
  cases hd : decL 6 (xs.drop off.toNat) 0 0 with
  | none => rw [hd] at h; cases h
  | some p =>
    obtain ⟨s, j⟩ := p
    rw [hd] at h
    simp at h
    obtain ⟨rfl, rfl⟩ := h
    obtain ⟨n, h1, h2, h3, _⟩ := decL_sound 6 0 _ 0 s j hd (fun x hx' => hx x (List.mem_of_mem_drop hx'))
    have e : s = (n : Int) := by rw [h1]; simp
    rw [e, enc_in n (by omega)]
    have e2 : (off + (j : Int) - off).toNat = (uv n).length := by omega
    rw [e2, h3]
theorem decBytes_enc (ys zs : List Int) (n m : Nat) (most : Int) (hy : ys.length = n) (hz : zs.length = m) (hm : m ≤ 1000000000000) (h : (m : Int) ≤ most) : decBytes (ys ++ enc m ++ zs) n most = some (zs, ((n + (enc m).length + m : Nat) : Int)) := by
  have hd := dec_enc ys m zs hm
  rw [← List.append_assoc, ← enc_in m hm, hy] at hd
  rw [decBytes_some hd (by simp; omega)]
  have e1 : ((n : Int) + ((enc m).length : Int)).toNat = (ys ++ enc m).length := by simp; omega
  rw [e1, List.drop_left, show ((m : Nat) : Int).toNat = zs.length by omega, List.take_length]
  simp
theorem decBytes_short (ys zs : List Int) (n m : Nat) (most : Int) (hy : ys.length = n) (hm : m ≤ 1000000000000) (h : most < (m : Int)) : decBytes (ys ++ enc m ++ zs) n most = none := by
  have hd := dec_enc ys m zs hm
  rw [← List.append_assoc, ← enc_in m hm, hy] at hd
  exact decBytes_bad hd (.inl h)
def inNum (x : Int) : Prop := 0 ≤ x ∧ x ≤ 1000000000000
def encs (l : List Int) : List Int := l.flatMap enc
theorem decAll_encs (pre l : List Int) (h : ∀ x ∈ l, inNum x) : decAll (pre ++ encs l) l.length pre.length = some (l, ((pre.length + (encs l).length : Nat) : Int)) := by
  induction l generalizing pre with
  | nil => simp [decAll, encs]
  | cons x l ih =>
    obtain ⟨h0, h1⟩ := h x List.mem_cons_self
    obtain ⟨k, rfl⟩ : ∃ k : Nat, x = k := ⟨x.toNat, by omega⟩
    have e : encs ((k : Int) :: l) = uv k ++ encs l := by rw [← enc_in k (by omega)]; rfl
    have hd := dec_enc pre k (encs l) (by omega)
    rw [List.length_cons, e, decAll_some hd]
    have h2 := ih (pre ++ uv k) (fun y hy => h y (List.mem_cons_of_mem _ hy))
    rw [List.append_assoc, List.length_append, show ((pre.length + (uv k).length : Nat) : Int) = (pre.length : Int) + ((uv k).length : Int) by omega] at h2
    rw [h2]
    simp; omega
theorem decAll_more (pre l : List Int) (h : ∀ x ∈ l, inNum x) : decAll (pre ++ encs l) (l.length + 1) pre.length = none := by
  induction l generalizing pre with
  | nil => simp only [encs, List.flatMap_nil, List.append_nil]; exact decAll_none ((Dec.start pre pre.length (Nat.le_refl _)).none_ (by omega))
  | cons x l ih =>
    obtain ⟨h0, h1⟩ := h x List.mem_cons_self
    obtain ⟨k, rfl⟩ : ∃ k : Nat, x = k := ⟨x.toNat, by omega⟩
    have e : encs ((k : Int) :: l) = uv k ++ encs l := by rw [← enc_in k (by omega)]; rfl
    have hd := dec_enc pre k (encs l) (by omega)
    rw [List.length_cons, e, decAll_some hd]
    have h2 := ih (pre ++ uv k) (fun y hy => h y (List.mem_cons_of_mem _ hy))
    rw [List.append_assoc, List.length_append, show ((pre.length + (uv k).length : Nat) : Int) = (pre.length : Int) + ((uv k).length : Int) by omega] at h2
    rw [h2]; rfl
theorem decInts_encs (l : List Int) (k n : Nat) (h : ∀ x ∈ l, inNum x) (hl : l.length = k) (hk : k ≤ 100) (hn : (encs l).length = n) : decInts (encs l) 0 k = some (l, (n : Int)) := by
  rw [decInts_in hk (by omega) (by omega)]
  have := decAll_encs [] l h
  rw [hl, List.nil_append] at this
  rw [show (0 : Int) = (([] : List Int).length : Int) from rfl, this, hn]
  simp
theorem decInts_more (l : List Int) (k : Nat) (x : Int) (h : ∀ x ∈ l, inNum x) (hl : l.length = k) (hk : k ≤ 99) (hx : x = (k : Int) + 1) : decInts (encs l) 0 x = none := by
  rw [hx, show ((k : Int) + 1) = ((k + 1 : Nat) : Int) by omega, decInts_in (by omega) (by omega) (by omega)]
  have := decAll_more [] l h
  rw [hl, List.nil_append] at this
  exact this
theorem encs_ok (l : List Int) : ∀ y ∈ encs l, 0 ≤ y ∧ y ≤ 255 := by
  intro y hy
  obtain ⟨x, _, hx⟩ := List.mem_flatMap.1 hy
  exact enc_ok x y hx
end Go.Proofs.Ytogoppknimpkbaa.M2
