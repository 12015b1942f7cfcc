/-
  Contracts of chapter 4's powers, of the program and of the model.
-/
import Derived.Test.YtpfjfnlefeocnaaS2
import Derived.Test.YtpfjfnlefeocnaaC0
import Derived.Test.YtpfjfnlefeocnaaC1
import Derived.Test.YtpfjfnlefeocnaaC3
import Derived.Test.YtpfjfnlefeocnaaM4
import Derived.Deep.WholeRow
namespace Go.Proofs.Ytpfjfnlefeocnaa.C4
open Go.ChangeShapes Go.WideShapes Go.ChangeAt Go.RowKit
open S0 S1 M4
set_option linter.unusedVariables false
theorem and1 (n : Int) : bits .and .i64 n 1 = n % 2 := by
  have h1 : (BitVec.ofInt 64 1).toNat = 2 ^ 1 - 1 := by decide
  have key : (BitVec.ofInt 64 n &&& BitVec.ofInt 64 1).toNat = (n % ((2 ^ 64 : Nat) : Int)).toNat % 2 ^ 1 := by
    rw [BitVec.toNat_and, BitVec.toNat_ofInt, h1, Nat.and_two_pow_sub_one_eq_mod]
  show IntKind.i64.wrap ((BitVec.ofInt 64 n &&& BitVec.ofInt 64 1).toNat : Nat) = n % 2
  rw [key, IntKind.wrap_i64]
  omega
end Go.Proofs.Ytpfjfnlefeocnaa.C4
