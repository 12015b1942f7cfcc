/-
  DERIVED. GIVEN WITH THE SEED: THE CARDS: each row of YtialhhdhpjjkaaaDoorRows.lean that lists a variable, with what it lists TIED to the program's text (the seventh form; the later family's looks); each row that meets fmt, with fmt's text TOLD by the authors' own Lean function (tested against real Go, not proved from fmt's source: count such statements apart). THE CARD IS WHAT COUNTS. Prove the row's statement (the work); the ties are given (YtialhhdhpjjkaaaDoorTie.lean); close each card by the builder's one call (the guide's Derived/Test/ToyasCard.lean, 'card_holds'). Laid BY PROGRAM, IN A SANDBOX (cutbox-door.mjs). By AI agents, Wed Nov 11 2026. No macro, syntax, notation, axiom, sorry.
-/
import Derived.Test.YtialhhdhpjjkaaaDoorRows
import GoSem.ClaimSeven
namespace Go.Proofs.YtialhhdhpjjkaaaDoor
namespace Rows

/-- THE TIED CARD OF 'laws.FnExactMakeAssertion'. -/
def fnExactMakeAssertionCard : Claim7 := { stood := { row := fnExactMakeAssertionRow, standIns := [], harness := (true, "cecd931b8e2de34bfb89fef040d6dc66bdda3c9ff6c045f09a382a3324fd6d37"), looks := false }, kinds := [], alts := [], laidByText := true, laidKinds := [.data, .data, .data], laidTests := true, laidLooks := .later }
def FnExactMakeAssertionCardSaid : Prop := Claim7.holds Tryd.pinned (.plain (OpenSpec.ofChange fnExactMakeAssertionSpec)) fnExactMakeAssertionCard

/-- THE TIED CARD OF 'laws.FnExactRelayAssertion'. -/
def fnExactRelayAssertionCard : Claim7 := { stood := { row := fnExactRelayAssertionRow, standIns := [], harness := (true, "cecd931b8e2de34bfb89fef040d6dc66bdda3c9ff6c045f09a382a3324fd6d37"), looks := false }, kinds := [], alts := [], laidByText := true, laidKinds := [.data, .data, .data], laidTests := true, laidLooks := .later }
def FnExactRelayAssertionCardSaid : Prop := Claim7.holds Tryd.pinned (.plain (OpenSpec.ofChange fnExactRelayAssertionSpec)) fnExactRelayAssertionCard

/-- THE SECOND FORM's CARD OF 'laws.FnExactMakeAssertion'. -/
def fnExactMakeAssertionUptoCard : Claim7 := { stood := { row := fnExactMakeAssertionUptoRow, standIns := [], harness := (true, "cecd931b8e2de34bfb89fef040d6dc66bdda3c9ff6c045f09a382a3324fd6d37"), looks := false }, kinds := [], alts := [], laidByText := true, laidKinds := [.data, .data, .data], laidTests := true, laidLooks := .later }
def FnExactMakeAssertionUptoCardSaid : Prop := Claim7.holds Tryd.pinned (.plain (OpenSpec.upto fnExactMakeAssertionSpec)) fnExactMakeAssertionUptoCard

/-- THE SECOND FORM's CARD OF 'laws.FnExactRelayAssertion'. -/
def fnExactRelayAssertionUptoCard : Claim7 := { stood := { row := fnExactRelayAssertionUptoRow, standIns := [], harness := (true, "cecd931b8e2de34bfb89fef040d6dc66bdda3c9ff6c045f09a382a3324fd6d37"), looks := false }, kinds := [], alts := [], laidByText := true, laidKinds := [.data, .data, .data], laidTests := true, laidLooks := .later }
def FnExactRelayAssertionUptoCardSaid : Prop := Claim7.holds Tryd.pinned (.plain (OpenSpec.upto fnExactRelayAssertionSpec)) fnExactRelayAssertionUptoCard
end Rows
end Go.Proofs.YtialhhdhpjjkaaaDoor
