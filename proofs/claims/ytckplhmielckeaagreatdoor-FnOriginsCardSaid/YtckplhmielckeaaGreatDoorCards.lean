/-
  DERIVED. GIVEN WITH THE SEED: THE CARDS: each row of YtckplhmielckeaaGreatDoorRows.lean that lists a variable, with what it lists TIED to the program's text (the seventh form; the later family's looks); each row that meets fmt, with fmt's text TOLD by the authors' own Lean function (tested against real Go, not proved from fmt's source: count such statements apart). THE CARD IS WHAT COUNTS. Prove the row's statement (the work); the ties are given (YtckplhmielckeaaGreatDoorTie.lean); close each card by the builder's one call (the guide's Derived/Test/ToyasCard.lean, 'card_holds'). Laid BY PROGRAM, IN A SANDBOX (cutbox-door.mjs). By AI agents, Wed Nov 11 2026. No macro, syntax, notation, axiom, sorry.
-/
import Derived.Test.YtckplhmielckeaaGreatDoorRows
import GoSem.ClaimSeven
namespace Go.Proofs.YtckplhmielckeaaGreatDoor
namespace Rows

/-- THE TIED CARD OF 'laws.FnAccounts'. -/
def fnAccountsCard : Claim7 := { stood := { row := fnAccountsRow, standIns := [], harness := (true, "f6b229b5e117d131d3abd9ced7da8c4f7ac73ce38af810105ef1c61cead6676a"), looks := true }, kinds := [], alts := [], laidByText := true, laidKinds := [.data, .data, .data, .handle, .sentinel, .sentinel], laidTests := true, laidLooks := .later }
def FnAccountsCardSaid : Prop := Claim7.holds Tryz.pinned (.plain (OpenSpec.ofChange fnAccountsSpec)) fnAccountsCard

/-- THE TIED CARD OF 'laws.FnSites'. -/
def fnSitesCard : Claim7 := { stood := { row := fnSitesRow, standIns := [], harness := (true, "f6b229b5e117d131d3abd9ced7da8c4f7ac73ce38af810105ef1c61cead6676a"), looks := true }, kinds := [], alts := [], laidByText := true, laidKinds := [.data, .data, .data, .handle, .sentinel, .sentinel], laidTests := true, laidLooks := .later }
def FnSitesCardSaid : Prop := Claim7.holds Tryz.pinned (.plain (OpenSpec.ofChange fnSitesSpec)) fnSitesCard

/-- THE TIED CARD OF 'laws.FnRegistration'. -/
def fnRegistrationCard : Claim7 := { stood := { row := fnRegistrationRow, standIns := [], harness := (true, "f6b229b5e117d131d3abd9ced7da8c4f7ac73ce38af810105ef1c61cead6676a"), looks := true }, kinds := [], alts := [], laidByText := true, laidKinds := [.data, .data, .data, .handle, .sentinel, .sentinel], laidTests := true, laidLooks := .later }
def FnRegistrationCardSaid : Prop := Claim7.holds Tryz.pinned (.plain (OpenSpec.ofChange fnRegistrationSpec)) fnRegistrationCard

/-- THE TIED CARD OF 'laws.FnExactFinishLogin'. -/
def fnExactFinishLoginCard : Claim7 := { stood := { row := fnExactFinishLoginRow, standIns := [], harness := (true, "f6b229b5e117d131d3abd9ced7da8c4f7ac73ce38af810105ef1c61cead6676a"), looks := true }, kinds := [], alts := [], laidByText := true, laidKinds := [.data, .data, .data, .handle, .sentinel, .sentinel], laidTests := true, laidLooks := .later }
def FnExactFinishLoginCardSaid : Prop := Claim7.holds Tryz.pinned (.plain (OpenSpec.ofChange fnExactFinishLoginSpec)) fnExactFinishLoginCard

/-- THE TIED CARD OF 'laws.FnOrigins'. -/
def fnOriginsCard : Claim7 := { stood := { row := fnOriginsRow, standIns := [], harness := (true, "f6b229b5e117d131d3abd9ced7da8c4f7ac73ce38af810105ef1c61cead6676a"), looks := true }, kinds := [], alts := [], laidByText := true, laidKinds := [.data, .data, .data, .sentinel, .sentinel], laidTests := true, laidLooks := .later }
def FnOriginsCardSaid : Prop := Claim7.holds Tryz.pinned (.plain (OpenSpec.ofChange fnOriginsSpec)) fnOriginsCard

/-- THE SECOND FORM's CARD OF 'laws.FnAccounts'. -/
def fnAccountsUptoCard : Claim7 := { stood := { row := fnAccountsUptoRow, standIns := [], harness := (true, "f6b229b5e117d131d3abd9ced7da8c4f7ac73ce38af810105ef1c61cead6676a"), looks := true }, kinds := [], alts := [], laidByText := true, laidKinds := [.data, .data, .data, .handle, .sentinel, .sentinel], laidTests := true, laidLooks := .later }
def FnAccountsUptoCardSaid : Prop := Claim7.holds Tryz.pinned (.plain (OpenSpec.upto fnAccountsSpec)) fnAccountsUptoCard

/-- THE SECOND FORM's CARD OF 'laws.FnSites'. -/
def fnSitesUptoCard : Claim7 := { stood := { row := fnSitesUptoRow, standIns := [], harness := (true, "f6b229b5e117d131d3abd9ced7da8c4f7ac73ce38af810105ef1c61cead6676a"), looks := true }, kinds := [], alts := [], laidByText := true, laidKinds := [.data, .data, .data, .handle, .sentinel, .sentinel], laidTests := true, laidLooks := .later }
def FnSitesUptoCardSaid : Prop := Claim7.holds Tryz.pinned (.plain (OpenSpec.upto fnSitesSpec)) fnSitesUptoCard

/-- THE SECOND FORM's CARD OF 'laws.FnRegistration'. -/
def fnRegistrationUptoCard : Claim7 := { stood := { row := fnRegistrationUptoRow, standIns := [], harness := (true, "f6b229b5e117d131d3abd9ced7da8c4f7ac73ce38af810105ef1c61cead6676a"), looks := true }, kinds := [], alts := [], laidByText := true, laidKinds := [.data, .data, .data, .handle, .sentinel, .sentinel], laidTests := true, laidLooks := .later }
def FnRegistrationUptoCardSaid : Prop := Claim7.holds Tryz.pinned (.plain (OpenSpec.upto fnRegistrationSpec)) fnRegistrationUptoCard

/-- THE SECOND FORM's CARD OF 'laws.FnExactFinishLogin'. -/
def fnExactFinishLoginUptoCard : Claim7 := { stood := { row := fnExactFinishLoginUptoRow, standIns := [], harness := (true, "f6b229b5e117d131d3abd9ced7da8c4f7ac73ce38af810105ef1c61cead6676a"), looks := true }, kinds := [], alts := [], laidByText := true, laidKinds := [.data, .data, .data, .handle, .sentinel, .sentinel], laidTests := true, laidLooks := .later }
def FnExactFinishLoginUptoCardSaid : Prop := Claim7.holds Tryz.pinned (.plain (OpenSpec.upto fnExactFinishLoginSpec)) fnExactFinishLoginUptoCard

/-- THE SECOND FORM's CARD OF 'laws.FnOrigins'. -/
def fnOriginsUptoCard : Claim7 := { stood := { row := fnOriginsUptoRow, standIns := [], harness := (true, "f6b229b5e117d131d3abd9ced7da8c4f7ac73ce38af810105ef1c61cead6676a"), looks := true }, kinds := [], alts := [], laidByText := true, laidKinds := [.data, .data, .data, .sentinel, .sentinel], laidTests := true, laidLooks := .later }
def FnOriginsUptoCardSaid : Prop := Claim7.holds Tryz.pinned (.plain (OpenSpec.upto fnOriginsSpec)) fnOriginsUptoCard
end Rows
end Go.Proofs.YtckplhmielckeaaGreatDoor
