/-
  DERIVED. GIVEN WITH THE SEED: THE CARDS: each row of YtmhjjocmnmeapaaGreatDoorRows.lean that lists a variable, with what it lists TIED to the program's text (the seventh form; the later family's looks); each row that meets fmt, with fmt's text TOLD by the authors' own Lean function (tested against real Go, not proved from fmt's source: count such statements apart). THE CARD IS WHAT COUNTS. Prove the row's statement (the work); the ties are given (YtmhjjocmnmeapaaGreatDoorTie.lean); close each card by the builder's one call (the guide's Derived/Test/ToyasCard.lean, 'card_holds'). Laid BY PROGRAM, IN A SANDBOX (cutbox-door.mjs). By AI agents, Wed Nov 11 2026. No macro, syntax, notation, axiom, sorry.
-/
import Derived.Test.YtmhjjocmnmeapaaGreatDoorRows
import GoSem.ClaimSeven
namespace Go.Proofs.YtmhjjocmnmeapaaGreatDoor
namespace Rows

/-- THE TIED CARD OF 'laws.FnAccounts'. -/
def fnAccountsCard : Claim7 := { stood := { row := fnAccountsRow, standIns := [], harness := (true, "915a004efa5d980b1547d70d7d06027d3612d09f6c4af9b4611dfdbc40dda1a4"), looks := true }, kinds := [], alts := [], laidByText := true, laidKinds := [.data, .data, .data, .handle, .sentinel, .sentinel], laidTests := true, laidLooks := .later }
def FnAccountsCardSaid : Prop := Claim7.holds Tryz.pinned (.plain (OpenSpec.ofChange fnAccountsSpec)) fnAccountsCard

/-- THE SECOND FORM's CARD OF 'laws.FnAccounts'. -/
def fnAccountsUptoCard : Claim7 := { stood := { row := fnAccountsUptoRow, standIns := [], harness := (true, "915a004efa5d980b1547d70d7d06027d3612d09f6c4af9b4611dfdbc40dda1a4"), looks := true }, kinds := [], alts := [], laidByText := true, laidKinds := [.data, .data, .data, .handle, .sentinel, .sentinel], laidTests := true, laidLooks := .later }
def FnAccountsUptoCardSaid : Prop := Claim7.holds Tryz.pinned (.plain (OpenSpec.upto fnAccountsSpec)) fnAccountsUptoCard
end Rows
end Go.Proofs.YtmhjjocmnmeapaaGreatDoor
