import Derived.Test.YtogoppknimpkbaaGreatDoorBa
import Derived.Test.YtogoppknimpkbaaGreatDoorBb
import Derived.Test.YtogoppknimpkbaaGreatDoorD10
import Derived.Test.YtogoppknimpkbaaGreatDoorYOrigin
import Derived.Deep.RegionHeld3
/-
  Contracts of chapter 13's draws: a store, an origin out of few hosts and ports, a site of two.
-/
namespace Go.Proofs.YtogoppknimpkbaaGreatDoor.D13
open Go.ChangeShapes Go.WideShapes Go.ChangeAt Go.RowKit
open C0 S0 S9 Dm Fx D10 Dv
set_option linter.unusedVariables false
set_option linter.unusedSimpArgs false
set_option maxRecDepth 100000
def odd : List ByteArray := [⟨#[]⟩, ⟨#[46]⟩, ⟨#[97, 46, 46, 98]⟩, ⟨#[45, 97, 46, 99, 111, 109]⟩, ⟨#[97, 45, 46, 99, 111, 109]⟩, ⟨#[65, 46, 99, 111, 109]⟩, ⟨#[97, 95, 98, 46, 99, 111, 109]⟩, ⟨#[97, 98, 99, 100, 101, 102, 103, 104, 105, 106, 107, 108, 109, 110, 111, 112, 113, 114, 115, 116, 117, 46, 99, 111, 109]⟩, ⟨#[97, 98, 99, 100, 101, 102, 103, 104, 105, 106, 107, 108, 109, 110, 111, 112, 113, 114, 115, 116, 46, 97, 98, 99, 100, 101, 102, 103, 104, 105, 106, 107, 108, 109, 110, 111, 112, 113, 114, 115, 116, 46, 97, 98, 99, 100, 101, 102, 103, 104, 105, 106, 107, 108, 109, 110, 111, 112, 113, 114]⟩, ⟨#[97, 98, 99, 100, 101, 102, 103, 104, 105, 106, 107, 108, 109, 110, 111, 112, 113, 114, 115, 116, 46, 97, 98, 99, 100, 101, 102, 103, 104, 105, 106, 107, 108, 109, 110, 111, 112, 113, 114, 115, 116, 46, 97, 98, 99, 100, 101, 102, 103, 104, 105, 106, 107, 108, 109, 110, 111, 112, 113, 114, 115]⟩]
def ports : List Int := [-1, 0, 1, 80, 443, 8080, 65535, 65536, 8443]
/-- An origin as it is drawn: out of few hosts, few ports. -/
def okP (x : Fx.Origin) : Prop := (x.Host ∈ hosts ∨ x.Host ∈ odd) ∧ x.Port ∈ ports
def sites : List ByteArray := [⟨#[98, 97, 110, 107, 46, 99, 111, 109]⟩, ⟨#[115, 104, 111, 112, 46, 111, 114, 103]⟩]
end Go.Proofs.YtogoppknimpkbaaGreatDoor.D13
