/-
  DERIVED. GIVEN WITH THE SEED: THE CARDS: each row of YtagpoaajhmblkaaDoorRows.lean that lists a variable, with what it lists TIED to the program's text (the seventh form; the later family's looks); each row that meets fmt, with fmt's text TOLD by the authors' own Lean function (tested against real Go, not proved from fmt's source: count such statements apart). THE CARD IS WHAT COUNTS. Prove the row's statement (the work); the ties are given (YtagpoaajhmblkaaDoorTie.lean); close each card by the builder's one call (the guide's Derived/Test/ToyasCard.lean, 'card_holds'). Laid BY PROGRAM, IN A SANDBOX (cutbox-door.mjs). By AI agents, Wed Nov 11 2026. No macro, syntax, notation, axiom, sorry.
-/
import Derived.Test.YtagpoaajhmblkaaDoorRows
import GoSem.ClaimSeven
namespace Go.Proofs.YtagpoaajhmblkaaDoor
namespace Rows

/-- THE TIED CARD OF 'laws.FnExactFormatOrigin'. -/
def fnExactFormatOriginCard : Claim7 := { stood := { row := fnExactFormatOriginRow, standIns := [], harness := (true, "a797b5b87d21d65689fd5efbbe90d3b7aafc13ec4470a96fc1474d4d807017f2"), looks := true }, kinds := [], alts := [], laidByText := true, laidKinds := [.data, .data, .data], laidTests := true, laidLooks := .later }
def FnExactFormatOriginCardSaid : Prop := Claim7.holds Tryd.pinned (.plain (OpenSpec.ofChange fnExactFormatOriginSpec)) fnExactFormatOriginCard

/-- THE TIED CARD OF 'laws.FnExactParseOrigin'. -/
def fnExactParseOriginCard : Claim7 := { stood := { row := fnExactParseOriginRow, standIns := [], harness := (true, "a797b5b87d21d65689fd5efbbe90d3b7aafc13ec4470a96fc1474d4d807017f2"), looks := true }, kinds := [], alts := [], laidByText := true, laidKinds := [.data, .data, .data, .sentinel, .sentinel], laidTests := true, laidLooks := .later }
def FnExactParseOriginCardSaid : Prop := Claim7.holds Tryd.pinned (.plain (OpenSpec.ofChange fnExactParseOriginSpec)) fnExactParseOriginCard

/-- THE SECOND FORM's CARD OF 'laws.FnExactFormatOrigin'. -/
def fnExactFormatOriginUptoCard : Claim7 := { stood := { row := fnExactFormatOriginUptoRow, standIns := [], harness := (true, "a797b5b87d21d65689fd5efbbe90d3b7aafc13ec4470a96fc1474d4d807017f2"), looks := true }, kinds := [], alts := [], laidByText := true, laidKinds := [.data, .data, .data], laidTests := true, laidLooks := .later }
def FnExactFormatOriginUptoCardSaid : Prop := Claim7.holds Tryd.pinned (.plain (OpenSpec.upto fnExactFormatOriginSpec)) fnExactFormatOriginUptoCard

/-- THE SECOND FORM's CARD OF 'laws.FnExactParseOrigin'. -/
def fnExactParseOriginUptoCard : Claim7 := { stood := { row := fnExactParseOriginUptoRow, standIns := [], harness := (true, "a797b5b87d21d65689fd5efbbe90d3b7aafc13ec4470a96fc1474d4d807017f2"), looks := true }, kinds := [], alts := [], laidByText := true, laidKinds := [.data, .data, .data, .sentinel, .sentinel], laidTests := true, laidLooks := .later }
def FnExactParseOriginUptoCardSaid : Prop := Claim7.holds Tryd.pinned (.plain (OpenSpec.upto fnExactParseOriginSpec)) fnExactParseOriginUptoCard
end Rows
end Go.Proofs.YtagpoaajhmblkaaDoor
