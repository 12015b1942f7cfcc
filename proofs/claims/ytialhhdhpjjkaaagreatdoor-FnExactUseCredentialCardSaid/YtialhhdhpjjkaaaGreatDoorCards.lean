/-
  DERIVED. GIVEN WITH THE SEED: THE CARDS: each row of YtialhhdhpjjkaaaGreatDoorRows.lean that lists a variable, with what it lists TIED to the program's text (the seventh form; the later family's looks); each row that meets fmt, with fmt's text TOLD by the authors' own Lean function (tested against real Go, not proved from fmt's source: count such statements apart). THE CARD IS WHAT COUNTS. Prove the row's statement (the work); the ties are given (YtialhhdhpjjkaaaGreatDoorTie.lean); close each card by the builder's one call (the guide's Derived/Test/ToyasCard.lean, 'card_holds'). Laid BY PROGRAM, IN A SANDBOX (cutbox-door.mjs). By AI agents, Wed Nov 11 2026. No macro, syntax, notation, axiom, sorry.
-/
import Derived.Test.YtialhhdhpjjkaaaGreatDoorRows
import GoSem.ClaimSeven
namespace Go.Proofs.YtialhhdhpjjkaaaGreatDoor
namespace Rows

/-- THE TIED CARD OF 'laws.FnExactCheckAssertion'. -/
def fnExactCheckAssertionCard : Claim7 := { stood := { row := fnExactCheckAssertionRow, standIns := [], harness := (true, "1fe73b5b4ebddb40b4ecf799167d392dabe9c749b22ef0517f7b9db9fd934005"), looks := true }, kinds := [], alts := [], laidByText := true, laidKinds := [.data, .data, .data, .handle, .sentinel, .sentinel], laidTests := true, laidLooks := .later }
def FnExactCheckAssertionCardSaid : Prop := Claim7.holds Tryz.pinned (.plain (OpenSpec.ofChange fnExactCheckAssertionSpec)) fnExactCheckAssertionCard

/-- THE TIED CARD OF 'laws.FnExactUseCredential'. -/
def fnExactUseCredentialCard : Claim7 := { stood := { row := fnExactUseCredentialRow, standIns := [], harness := (true, "1fe73b5b4ebddb40b4ecf799167d392dabe9c749b22ef0517f7b9db9fd934005"), looks := true }, kinds := [], alts := [], laidByText := true, laidKinds := [.data, .data, .data, .handle, .sentinel, .sentinel], laidTests := true, laidLooks := .later }
def FnExactUseCredentialCardSaid : Prop := Claim7.holds Tryz.pinned (.plain (OpenSpec.ofChange fnExactUseCredentialSpec)) fnExactUseCredentialCard

/-- THE TIED CARD OF 'laws.FnOrigins'. -/
def fnOriginsCard : Claim7 := { stood := { row := fnOriginsRow, standIns := [], harness := (true, "1fe73b5b4ebddb40b4ecf799167d392dabe9c749b22ef0517f7b9db9fd934005"), looks := true }, kinds := [], alts := [], laidByText := true, laidKinds := [.data, .data, .data, .sentinel, .sentinel], laidTests := true, laidLooks := .later }
def FnOriginsCardSaid : Prop := Claim7.holds Tryz.pinned (.plain (OpenSpec.ofChange fnOriginsSpec)) fnOriginsCard

/-- THE TIED CARD OF 'laws.FnAssertions'. -/
def fnAssertionsCard : Claim7 := { stood := { row := fnAssertionsRow, standIns := [], harness := (true, "1fe73b5b4ebddb40b4ecf799167d392dabe9c749b22ef0517f7b9db9fd934005"), looks := true }, kinds := [], alts := [], laidByText := true, laidKinds := [.data, .data, .data, .handle, .sentinel, .sentinel], laidTests := true, laidLooks := .later }
def FnAssertionsCardSaid : Prop := Claim7.holds Tryz.pinned (.plain (OpenSpec.ofChange fnAssertionsSpec)) fnAssertionsCard

/-- THE TIED CARD OF 'laws.FnPhishing'. -/
def fnPhishingCard : Claim7 := { stood := { row := fnPhishingRow, standIns := [], harness := (true, "1fe73b5b4ebddb40b4ecf799167d392dabe9c749b22ef0517f7b9db9fd934005"), looks := true }, kinds := [], alts := [], laidByText := true, laidKinds := [.data, .data, .data, .handle, .sentinel, .sentinel], laidTests := true, laidLooks := .later }
def FnPhishingCardSaid : Prop := Claim7.holds Tryz.pinned (.plain (OpenSpec.ofChange fnPhishingSpec)) fnPhishingCard

/-- THE SECOND FORM's CARD OF 'laws.FnExactCheckAssertion'. -/
def fnExactCheckAssertionUptoCard : Claim7 := { stood := { row := fnExactCheckAssertionUptoRow, standIns := [], harness := (true, "1fe73b5b4ebddb40b4ecf799167d392dabe9c749b22ef0517f7b9db9fd934005"), looks := true }, kinds := [], alts := [], laidByText := true, laidKinds := [.data, .data, .data, .handle, .sentinel, .sentinel], laidTests := true, laidLooks := .later }
def FnExactCheckAssertionUptoCardSaid : Prop := Claim7.holds Tryz.pinned (.plain (OpenSpec.upto fnExactCheckAssertionSpec)) fnExactCheckAssertionUptoCard

/-- THE SECOND FORM's CARD OF 'laws.FnExactUseCredential'. -/
def fnExactUseCredentialUptoCard : Claim7 := { stood := { row := fnExactUseCredentialUptoRow, standIns := [], harness := (true, "1fe73b5b4ebddb40b4ecf799167d392dabe9c749b22ef0517f7b9db9fd934005"), looks := true }, kinds := [], alts := [], laidByText := true, laidKinds := [.data, .data, .data, .handle, .sentinel, .sentinel], laidTests := true, laidLooks := .later }
def FnExactUseCredentialUptoCardSaid : Prop := Claim7.holds Tryz.pinned (.plain (OpenSpec.upto fnExactUseCredentialSpec)) fnExactUseCredentialUptoCard

/-- THE SECOND FORM's CARD OF 'laws.FnOrigins'. -/
def fnOriginsUptoCard : Claim7 := { stood := { row := fnOriginsUptoRow, standIns := [], harness := (true, "1fe73b5b4ebddb40b4ecf799167d392dabe9c749b22ef0517f7b9db9fd934005"), looks := true }, kinds := [], alts := [], laidByText := true, laidKinds := [.data, .data, .data, .sentinel, .sentinel], laidTests := true, laidLooks := .later }
def FnOriginsUptoCardSaid : Prop := Claim7.holds Tryz.pinned (.plain (OpenSpec.upto fnOriginsSpec)) fnOriginsUptoCard

/-- THE SECOND FORM's CARD OF 'laws.FnAssertions'. -/
def fnAssertionsUptoCard : Claim7 := { stood := { row := fnAssertionsUptoRow, standIns := [], harness := (true, "1fe73b5b4ebddb40b4ecf799167d392dabe9c749b22ef0517f7b9db9fd934005"), looks := true }, kinds := [], alts := [], laidByText := true, laidKinds := [.data, .data, .data, .handle, .sentinel, .sentinel], laidTests := true, laidLooks := .later }
def FnAssertionsUptoCardSaid : Prop := Claim7.holds Tryz.pinned (.plain (OpenSpec.upto fnAssertionsSpec)) fnAssertionsUptoCard

/-- THE SECOND FORM's CARD OF 'laws.FnPhishing'. -/
def fnPhishingUptoCard : Claim7 := { stood := { row := fnPhishingUptoRow, standIns := [], harness := (true, "1fe73b5b4ebddb40b4ecf799167d392dabe9c749b22ef0517f7b9db9fd934005"), looks := true }, kinds := [], alts := [], laidByText := true, laidKinds := [.data, .data, .data, .handle, .sentinel, .sentinel], laidTests := true, laidLooks := .later }
def FnPhishingUptoCardSaid : Prop := Claim7.holds Tryz.pinned (.plain (OpenSpec.upto fnPhishingSpec)) fnPhishingUptoCard
end Rows
end Go.Proofs.YtialhhdhpjjkaaaGreatDoor
