/-
  Contracts of FormatInt: the model's loop over digits writes the decimal numeral.
-/
import Derived.Test.YtogoppknimpkbaaChecked
import Derived.Test.YtogoppknimpkbaaBa
import Derived.WalkKit
import Derived.ProofKit
import Derived.OpenShut
import Derived.Below
import Derived.Lib.Hide
import Derived.Lib.ItoaNum
import Derived.Lib.ItoaLen
import Derived.Laws.IdiomStrings
import Derived.Lib.Strings
import Derived.Lib.AtoiTie
namespace Go.Proofs.Ytogoppknimpkbaa.C1F
open Go.ChangeShapes Go.WideShapes Go.ChangeAt Go.RowKit
set_option linter.unusedVariables false
set_option maxRecDepth 100000

def dig (m : Nat) : UInt8 := UInt8.ofNat (48 + m % 10)
theorem dig_toNat (m : Nat) : 48 + (m : Int) % 10 = (dig m).toNat := by
  unfold dig; simp; omega
def high (m : Nat) : List UInt8 := if m = 0 then [] else Lib.decDigits m
theorem high_step (m : Nat) (h : m ≠ 0) : high m = high (m / 10) ++ [dig m] := by
  unfold high dig
  rw [if_neg h, Lib.decDigits]
  by_cases h10 : m < 10
  · rw [dif_pos h10, if_pos (by omega), Nat.mod_eq_of_lt h10]; rfl
  · rw [dif_neg h10, if_neg (by omega)]
theorem high_pos (m : Nat) (h : 0 < m) : high m = Lib.decDigits m := by unfold high; rw [if_neg (by omega)]
theorem append_mk (d : UInt8) (l : List UInt8) : (ByteArray.mk #[d]) ++ (ByteArray.mk l.toArray) = ByteArray.mk (d :: l).toArray := by
  ext1; simp
theorem ret_str {a b : List UInt8} (h : a = b) : Ending.returned (.string ⟨a.toArray⟩) = .returned (.string ⟨b.toArray⟩) := by rw [h]
theorem ret_bytes {a b : ByteArray} (h : a = b) : Ending.returned (.string a) = .returned (.string b) := by rw [h]
theorem dec_len (n : Nat) (h : (n : Int) ≤ 9223372036854775808) : (Lib.decDigits n).length ≤ 20 := by
  rw [Lib.decDigits_length]; exact Lib.nDigits_le20 n (by omega)

end Go.Proofs.Ytogoppknimpkbaa.C1F
