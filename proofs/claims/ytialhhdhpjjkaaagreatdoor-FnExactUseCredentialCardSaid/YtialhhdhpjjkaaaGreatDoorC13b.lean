import Derived.Test.YtialhhdhpjjkaaaGreatDoorC13m
import Derived.Test.YtialhhdhpjjkaaaGreatDoorC10
import Derived.Test.YtialhhdhpjjkaaaGreatDoorDa14
import Derived.Test.YtialhhdhpjjkaaaGreatDoorC9b
import Derived.Test.YtialhhdhpjjkaaaGreatDoorBb
/-
  Contracts of chapter 13's made assertions, of the model.
-/
namespace Go.Proofs.YtialhhdhpjjkaaaGreatDoor.C13b
open Go.ChangeShapes Go.WideShapes Go.ChangeAt Go.RowKit
open S0 S1 S9 Dm Fx M3 M8 M12 M13 C3 C6 C9 C10 C13m E0 E1 E2 E3 E4 E7 E10 E15 E16 E17 E18 E19 E20 Das
set_option linter.unusedVariables false
set_option linter.unusedSimpArgs false
set_option maxRecDepth 100000
set_option maxHeartbeats 4000000
noncomputable def a0 (o : Fx.Origin) (z : ByteArray) (k ch : Int) (p : Bool) : Fx.Assertion := ⟨z, str (fmtO o), ch, k, p, 0, 0⟩
noncomputable def mkB (x : Fx.KeyStore) (o : Fx.Origin) (z : ByteArray) : Bool := mayO o (bts z) && signB x
noncomputable def mkS (x : Fx.KeyStore) (o : Fx.Origin) (z : ByteArray) : Fx.KeyStore := if mkB x o z then signX x else x
noncomputable def mkA (x : Fx.KeyStore) (o : Fx.Origin) (z : ByteArray) (k ch : Int) (p : Bool) : Fx.Assertion :=
  if mkB x o z then ⟨z, str (fmtO o), ch, k, p, (signX x).Counter, signV x z k (msg (a0 o z k ch p))⟩ else ⟨⟨#[]⟩, ⟨#[]⟩, 0, 0, false, 0, 0⟩
/-- What making an assertion gives: a store, an assertion, whether. -/
def mkV (y : Fx.KeyStore) (a : Fx.Assertion) (b : Bool) : Value := .tuple #[.agg #[.int .i64 y.Vendor, .int .i64 y.Serial, .int .i64 y.Seed, .int .i64 y.Counter], .agg #[.string a.Site, .string a.Origin, .int .i64 a.Challenge, .int .i64 a.Handle, .bool a.Present, .int .i64 a.Counter, .int .i64 a.Signature], .bool b]
theorem fmt_size (o : Fx.Origin) : (str (fmtO o)).size ≤ 100 := by
  have h := fmtO_size o
  have e : (str (fmtO o)).size = (fmtO o).length := by rw [← bts_len, bts_str]
  omega
end Go.Proofs.YtialhhdhpjjkaaaGreatDoor.C13b
