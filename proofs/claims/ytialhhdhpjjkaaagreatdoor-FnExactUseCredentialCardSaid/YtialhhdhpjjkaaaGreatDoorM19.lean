import Derived.Test.YtialhhdhpjjkaaaGreatDoorM18b
import Derived.Test.YtialhhdhpjjkaaaGreatDoorC13
/-
  Using a credential, in plain words.
-/
namespace Go.Proofs.YtialhhdhpjjkaaaGreatDoor.M19
open S0 S1 S9 Dm Fx M8 M18 C13 Das
set_option linter.unusedVariables false
def useC (a : Fx.Account) (x : Fx.Assertion) : Cr := a.Credentials.getD (findC a.Credentials x.Handle).toNat zCredential
noncomputable def useK (a : Fx.Account) (x : Fx.Assertion) (z : ByteArray) (n : Int) : Int := chkA (useC a x).Public x z n (useC a x).Counter
noncomputable def useR (a : Fx.Account) (x : Fx.Assertion) (z : ByteArray) (n : Int) : Int := match cutB a x.Handle with | true => useK a x z n | false => 5
noncomputable def useX (a : Fx.Account) (x : Fx.Assertion) (z : ByteArray) (n : Int) : Fx.Account := match cutB a x.Handle with
  | true => (match useK a x z n == 0 with
    | true => ⟨a.Id, a.Minimum, setN a.Credentials (findC a.Credentials x.Handle).toNat x.Counter⟩
    | false => (match useK a x z n == 4 with
      | true => ⟨a.Id, a.Minimum, setC a.Credentials (findC a.Credentials x.Handle).toNat⟩
      | false => a))
  | false => a
theorem use_f {a : Fx.Account} {x : Fx.Assertion} {z : ByteArray} {n : Int} (e : cutB a x.Handle = false) : useX a x z n = a ∧ useR a x z n = 5 := by unfold useX useR; rw [e]; exact ⟨rfl, rfl⟩
theorem use_r {a : Fx.Account} {x : Fx.Assertion} {z : ByteArray} {n : Int} (e : cutB a x.Handle = true) : useR a x z n = useK a x z n := by unfold useR; rw [e]
theorem use_0 {a : Fx.Account} {x : Fx.Assertion} {z : ByteArray} {n : Int} (e : cutB a x.Handle = true) (e0 : (useK a x z n == 0) = true) : useX a x z n = ⟨a.Id, a.Minimum, setN a.Credentials (findC a.Credentials x.Handle).toNat x.Counter⟩ := by unfold useX; rw [e, e0]
theorem use_4 {a : Fx.Account} {x : Fx.Assertion} {z : ByteArray} {n : Int} (e : cutB a x.Handle = true) (e0 : (useK a x z n == 0) = false) (e4 : (useK a x z n == 4) = true) : useX a x z n = ⟨a.Id, a.Minimum, setC a.Credentials (findC a.Credentials x.Handle).toNat⟩ := by unfold useX; rw [e, e0, e4]
theorem use_9 {a : Fx.Account} {x : Fx.Assertion} {z : ByteArray} {n : Int} (e : cutB a x.Handle = true) (e0 : (useK a x z n == 0) = false) (e4 : (useK a x z n == 4) = false) : useX a x z n = a := by unfold useX; rw [e, e0, e4]
theorem use_len (a : Fx.Account) (x : Fx.Assertion) (z : ByteArray) (n : Int) : (useX a x z n).Credentials.length ≤ a.Credentials.length := by
  unfold useX
  split
  · split
    · exact Nat.le_of_eq (setN_len _ _ _)
    · split
      · show (setC _ _).length ≤ _; unfold setC; rw [List.length_set]; omega
      · omega
  · omega
end Go.Proofs.YtialhhdhpjjkaaaGreatDoor.M19
