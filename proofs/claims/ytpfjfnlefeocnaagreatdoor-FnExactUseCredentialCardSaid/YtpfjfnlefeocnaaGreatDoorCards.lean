/-
  DERIVED. GIVEN WITH THE SEED: THE CARDS: each row of YtpfjfnlefeocnaaGreatDoorRows.lean that lists a variable, with what it lists TIED to the program's text (the seventh form; the later family's looks); each row that meets fmt, with fmt's text TOLD by the authors' own Lean function (tested against real Go, not proved from fmt's source: count such statements apart). THE CARD IS WHAT COUNTS. Prove the row's statement (the work); the ties are given (YtpfjfnlefeocnaaGreatDoorTie.lean); close each card by the builder's one call (the guide's Derived/Test/ToyasCard.lean, 'card_holds'). Laid BY PROGRAM, IN A SANDBOX (cutbox-door.mjs). By AI agents, Wed Nov 11 2026. No macro, syntax, notation, axiom, sorry.
-/
import Derived.Test.YtpfjfnlefeocnaaGreatDoorRows
import GoSem.ClaimSeven
namespace Go.Proofs.YtpfjfnlefeocnaaGreatDoor
namespace Rows

/-- THE TIED CARD OF 'laws.FnAccounts'. -/
def fnAccountsCard : Claim7 := { stood := { row := fnAccountsRow, standIns := [], harness := (true, "4a601e75b8f8b6637e471efedede645a5f431beeb8ac5b09e06b3848fdeb6ba0"), looks := true }, kinds := [], alts := [], laidByText := true, laidKinds := [.data, .data, .data, .handle, .sentinel, .sentinel], laidTests := true, laidLooks := .later }
def FnAccountsCardSaid : Prop := Claim7.holds Tryz.pinned (.plain (OpenSpec.ofChange fnAccountsSpec)) fnAccountsCard

/-- THE TIED CARD OF 'laws.FnExactUseCredential'. -/
def fnExactUseCredentialCard : Claim7 := { stood := { row := fnExactUseCredentialRow, standIns := [], harness := (true, "4a601e75b8f8b6637e471efedede645a5f431beeb8ac5b09e06b3848fdeb6ba0"), looks := true }, kinds := [], alts := [], laidByText := true, laidKinds := [.data, .data, .data, .handle, .sentinel, .sentinel], laidTests := true, laidLooks := .later }
def FnExactUseCredentialCardSaid : Prop := Claim7.holds Tryz.pinned (.plain (OpenSpec.ofChange fnExactUseCredentialSpec)) fnExactUseCredentialCard

/-- THE SECOND FORM's CARD OF 'laws.FnAccounts'. -/
def fnAccountsUptoCard : Claim7 := { stood := { row := fnAccountsUptoRow, standIns := [], harness := (true, "4a601e75b8f8b6637e471efedede645a5f431beeb8ac5b09e06b3848fdeb6ba0"), looks := true }, kinds := [], alts := [], laidByText := true, laidKinds := [.data, .data, .data, .handle, .sentinel, .sentinel], laidTests := true, laidLooks := .later }
def FnAccountsUptoCardSaid : Prop := Claim7.holds Tryz.pinned (.plain (OpenSpec.upto fnAccountsSpec)) fnAccountsUptoCard

/-- THE SECOND FORM's CARD OF 'laws.FnExactUseCredential'. -/
def fnExactUseCredentialUptoCard : Claim7 := { stood := { row := fnExactUseCredentialUptoRow, standIns := [], harness := (true, "4a601e75b8f8b6637e471efedede645a5f431beeb8ac5b09e06b3848fdeb6ba0"), looks := true }, kinds := [], alts := [], laidByText := true, laidKinds := [.data, .data, .data, .handle, .sentinel, .sentinel], laidTests := true, laidLooks := .later }
def FnExactUseCredentialUptoCardSaid : Prop := Claim7.holds Tryz.pinned (.plain (OpenSpec.upto fnExactUseCredentialSpec)) fnExactUseCredentialUptoCard
end Rows
end Go.Proofs.YtpfjfnlefeocnaaGreatDoor
