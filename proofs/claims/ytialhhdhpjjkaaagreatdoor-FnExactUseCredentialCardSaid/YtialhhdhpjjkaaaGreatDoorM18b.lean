import Derived.Test.YtialhhdhpjjkaaaGreatDoorM18
/-
  Accounts in plain words, further: what adding a credential and cutting it mean.
-/
namespace Go.Proofs.YtialhhdhpjjkaaaGreatDoor.M18
open S0 S1 S9 Dm Fx M8 Das
set_option linter.unusedVariables false
set_option linter.unusedSimpArgs false
theorem setN_len (l : List Cr) (k : Nat) (n : Int) : (setN l k n).length = l.length := by unfold setN; rw [List.length_set]
theorem Seen.inj {l : List Cr} (hs : Seen l l.length) {i j : Nat} (hi : i < l.length) (hj : j < l.length) (hne : i ≠ j) : (l.getD i zCredential).Handle ≠ (l.getD j zCredential).Handle ∧ (l.getD i zCredential).Public ≠ (l.getD j zCredential).Public := by
  rcases Nat.lt_or_ge i j with h | h
  · have h1 := hs.lt h hj
    exact ⟨by omega, (hs j hj).once i h⟩
  · have h2 : j < i := by omega
    have h1 := hs.lt h2 hi
    exact ⟨by omega, fun e => (hs i hi).once j h2 e.symm⟩
end Go.Proofs.YtialhhdhpjjkaaaGreatDoor.M18
