import Derived.Test.YtialhhdhpjjkaaaGreatDoorBa
/-
  Hosts, in plain lists of bytes: labels, what is split at dots.
-/
namespace Go.Proofs.YtialhhdhpjjkaaaGreatDoor.M12
set_option linter.unusedVariables false
/-- A character of a label. -/
def okc (c : UInt8) : Bool := (decide (97 ≤ c.toNat) && decide (c.toNat ≤ 122)) || (decide (48 ≤ c.toNat) && decide (c.toNat ≤ 57)) || c.toNat == 45
def lab (s : List UInt8) : Bool := s.all okc && (decide (1 ≤ s.length) && decide (s.length ≤ 20)) && s.head? != some 45 && s.getLast? != some 45
/-- What stands between the dots. -/
def split : List UInt8 → List (List UInt8)
  | [] => [[]]
  | c :: cs => if c = 46 then [] :: split cs else match split cs with
    | [] => [[c]]
    | x :: xs => (c :: x) :: xs
theorem split_at (cs : List UInt8) : split (46 :: cs) = [] :: split cs := by simp [split]
theorem split_off {c : UInt8} {cs x : List UInt8} {xs : List (List UInt8)} (hc : c ≠ 46) (h : split cs = x :: xs) : split (c :: cs) = (c :: x) :: xs := by simp [split, hc, h]
theorem split_ne (s : List UInt8) : split s ≠ [] := by
  cases s with
  | nil => simp [split]
  | cons c cs =>
    unfold split
    split
    · simp
    · split <;> simp
/-- Characters ahead of what is split. -/
def glue (p : List UInt8) : List (List UInt8) → List (List UInt8)
  | [] => [p]
  | x :: xs => (p ++ x) :: xs
theorem split_glue (p s : List UInt8) (h : ∀ c ∈ p, c ≠ 46) : split (p ++ s) = glue p (split s) := by
  induction p with
  | nil => cases hs : split s with
    | nil => exact absurd hs (split_ne s)
    | cons x xs => simp [glue, hs]
  | cons c p ih =>
    have ih := ih (fun c hc => h c (List.mem_cons_of_mem _ hc))
    have hc := h c (List.mem_cons_self ..)
    cases hs : split s with
    | nil => exact absurd hs (split_ne s)
    | cons x xs =>
      rw [hs] at ih
      exact split_off hc ih
theorem split_dot (p s : List UInt8) (h : ∀ c ∈ p, c ≠ 46) : split (p ++ 46 :: s) = p :: split s := by
  rw [split_glue p _ h, split_at]
  simp [glue]
theorem split_last (p : List UInt8) (h : ∀ c ∈ p, c ≠ 46) : split p = [p] := by
  have := split_glue p [] h
  simpa [split, glue] using this
def host (s : List UInt8) : Bool := (split s).all lab && decide (s.length ≤ 60)
/-- The labels that stand whole in front of position i, and where the current one begins. -/
structure Cut (s : List UInt8) (i f : Nat) (outs : List (List UInt8)) : Prop where
  le : f ≤ i
  il : i ≤ s.length
  eq : split s = outs ++ split (s.drop f)
  no : ∀ c ∈ (s.drop f).take (i - f), c ≠ 46
theorem Cut.start (s : List UInt8) : Cut s 0 0 [] := ⟨Nat.le_refl _, Nat.zero_le _, by simp, by simp⟩
theorem Cut.char {s : List UInt8} {i f : Nat} {outs : List (List UInt8)} (h : Cut s i f outs) (hi : i < s.length) (hc : s[i] ≠ 46) : Cut s (i + 1) f outs := by
  refine ⟨by have := h.le; omega, hi, h.eq, fun c hm => ?_⟩
  have hl := h.le
  have e : (s.drop f).take (i + 1 - f) = (s.drop f).take (i - f) ++ [s[i]] := by
    rw [show i + 1 - f = (i - f) + 1 by omega, List.take_succ_eq_append_getElem (by rw [List.length_drop]; omega)]
    congr 2
    rw [List.getElem_drop]
    congr 1
    omega
  rw [e] at hm
  rcases List.mem_append.1 hm with hm | hm
  · exact h.no c hm
  · obtain rfl : c = s[i] := by simpa using hm
    exact hc
theorem Cut.dot {s : List UInt8} {i f : Nat} {outs : List (List UInt8)} (h : Cut s i f outs) (hi : i < s.length) (hc : s[i] = 46) : Cut s (i + 1) (i + 1) (outs ++ [(s.drop f).take (i - f)]) := by
  refine ⟨Nat.le_refl _, hi, ?_, by simp⟩
  have hl := h.le
  have e : s.drop f = (s.drop f).take (i - f) ++ 46 :: s.drop (i + 1) := by
    have h1 : (s.drop f).drop (i - f) = s[i] :: s.drop (i + 1) := by
      rw [List.drop_drop, show f + (i - f) = i by omega, List.drop_eq_getElem_cons hi]
    rw [hc] at h1
    rw [← h1, List.take_append_drop]
  rw [h.eq, e, split_dot _ _ h.no, List.append_assoc, ← e]
  rfl
theorem Cut.done {s : List UInt8} {f : Nat} {outs : List (List UInt8)} (h : Cut s s.length f outs) : split s = outs ++ [s.drop f] := by
  have hn := h.no
  have e : (s.drop f).take (s.length - f) = s.drop f := by rw [List.take_of_length_le]; simp
  rw [e] at hn
  rw [h.eq, split_last _ hn]
end Go.Proofs.YtialhhdhpjjkaaaGreatDoor.M12
