import Derived.Test.YtialhhdhpjjkaaaGreatDoorM13
import Derived.Test.YtialhhdhpjjkaaaGreatDoorM12i
/-
  The last two labels of a host, found by one walk over its characters, in plain lists of bytes.
-/
namespace Go.Proofs.YtialhhdhpjjkaaaGreatDoor.M13i
open M12 M13
set_option linter.unusedVariables false
/-- Where the last two labels begin, of what stands in front of position k. -/
structure RegAt (s : List UInt8) (k b f : Nat) (outs : List (List UInt8)) : Prop where
  cut : Cut s k f outs
  at_ : (outs = [] ∧ b = 0 ∧ f = 0) ∨ ∃ os p, outs = os ++ [p] ∧ b + p.length + 1 = f ∧ s.drop b = p ++ 46 :: s.drop f
theorem RegAt.start (s : List UInt8) : RegAt s 0 0 0 [] := ⟨Cut.start s, Or.inl ⟨rfl, rfl, rfl⟩⟩
theorem RegAt.char {s : List UInt8} {k b f : Nat} {outs : List (List UInt8)} (h : RegAt s k b f outs) (hk : k < s.length) (hc : s[k] ≠ 46) : RegAt s (k + 1) b f outs := ⟨h.cut.char hk hc, h.at_⟩
theorem RegAt.dot {s : List UInt8} {k b f : Nat} {outs : List (List UInt8)} (h : RegAt s k b f outs) (hk : k < s.length) (hc : s[k] = 46) : RegAt s (k + 1) f (k + 1) (outs ++ [(s.drop f).take (k - f)]) := by
  have hl := h.cut.le
  refine ⟨h.cut.dot hk hc, Or.inr ⟨_, _, rfl, ?_, ?_⟩⟩
  · rw [List.length_take, List.length_drop]; omega
  · have h1 : (s.drop f).drop (k - f) = s[k] :: s.drop (k + 1) := by
      rw [List.drop_drop, show f + (k - f) = k by omega, List.drop_eq_getElem_cons hk]
    rw [hc] at h1
    rw [← h1, List.take_append_drop]
theorem RegAt.le {s : List UInt8} {k b f : Nat} {outs : List (List UInt8)} (h : RegAt s k b f outs) : b ≤ k ∧ f ≤ k := by
  have hl := h.cut.le
  rcases h.at_ with ⟨_, h1, _⟩ | ⟨os, p, _, h1, _⟩ <;> omega
theorem RegAt.done {s : List UInt8} {b f : Nat} {outs : List (List UInt8)} (h : RegAt s s.length b f outs) (hh : host s = true) : reg s = s.drop b := by
  have e := h.cut.done
  unfold reg
  rw [if_pos hh, e]
  rcases h.at_ with ⟨rfl, rfl, rfl⟩ | ⟨os, p, rfl, h1, h2⟩
  · simp
  · rw [if_neg (by simp), h2]
    have e1 : (os ++ [p] ++ [s.drop f]).length = os.length + 2 := by simp
    rw [e1, show os.length + 2 - 2 = os.length by omega, show os.length + 2 - 1 = os.length + 1 by omega]
    congr 1
    · rw [List.getD_eq_getElem?_getD, List.append_assoc, List.getElem?_append_right (Nat.le_refl _)]; simp
    · congr 1
      rw [List.getD_eq_getElem?_getD, List.getElem?_append_right (by simp)]; simp
end Go.Proofs.YtialhhdhpjjkaaaGreatDoor.M13i
