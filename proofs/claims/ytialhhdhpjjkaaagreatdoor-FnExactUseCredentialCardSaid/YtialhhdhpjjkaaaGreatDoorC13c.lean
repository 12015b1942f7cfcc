import Derived.Test.YtialhhdhpjjkaaaGreatDoorC13m
/-
  Contracts of chapter 13's small functions, of the model: IsClone, AssertionName.
-/
namespace Go.Proofs.YtialhhdhpjjkaaaGreatDoor.C13c
open Go.ChangeShapes Go.WideShapes Go.ChangeAt Go.RowKit
open S0 S1 S9 Dm Fx C13m
set_option linter.unusedVariables false
set_option linter.unusedSimpArgs false
set_option maxRecDepth 100000
def nameA (c : Int) : ByteArray :=
  if c = 0 then ⟨#[111, 107]⟩ else if c = 1 then ⟨#[111, 114, 105, 103, 105, 110]⟩ else if c = 2 then ⟨#[112, 114, 101, 115, 101, 110, 99, 101]⟩ else if c = 3 then ⟨#[99, 104, 97, 108, 108, 101, 110, 103, 101]⟩ else if c = 4 then ⟨#[99, 111, 117, 110, 116, 101, 114]⟩ else if c = 5 then ⟨#[115, 105, 103, 110, 97, 116, 117, 114, 101]⟩ else ⟨#[]⟩
end Go.Proofs.YtialhhdhpjjkaaaGreatDoor.C13c
