/-
  DERIVED. GIVEN WITH THE SEED: THE CARDS: each row of YtogoppknimpkbaaGreatDoorRows.lean that lists a variable, with what it lists TIED to the program's text (the seventh form; the later family's looks); each row that meets fmt, with fmt's text TOLD by the authors' own Lean function (tested against real Go, not proved from fmt's source: count such statements apart). THE CARD IS WHAT COUNTS. Prove the row's statement (the work); the ties are given (YtogoppknimpkbaaGreatDoorTie.lean); close each card by the builder's one call (the guide's Derived/Test/ToyasCard.lean, 'card_holds'). Laid BY PROGRAM, IN A SANDBOX (cutbox-door.mjs). By AI agents, Wed Nov 11 2026. No macro, syntax, notation, axiom, sorry.
-/
import Derived.Test.YtogoppknimpkbaaGreatDoorRows
import GoSem.ClaimSeven
namespace Go.Proofs.YtogoppknimpkbaaGreatDoor
namespace Rows

/-- THE TIED CARD OF 'laws.FnBrowsers'. -/
def fnBrowsersCard : Claim7 := { stood := { row := fnBrowsersRow, standIns := [], harness := (true, "86ea469e5f2632c0c2ab3cd4950a669b64a5b3cc4995c6a654db94ec0f901bc7"), looks := false }, kinds := [], alts := [], laidByText := true, laidKinds := [.data, .data, .data], laidTests := true, laidLooks := .later }
def FnBrowsersCardSaid : Prop := Claim7.holds Tryz.pinned (.plain (OpenSpec.ofChange fnBrowsersSpec)) fnBrowsersCard

/-- THE TIED CARD OF 'laws.FnExactAskAssertion'. -/
def fnExactAskAssertionCard : Claim7 := { stood := { row := fnExactAskAssertionRow, standIns := [], harness := (true, "86ea469e5f2632c0c2ab3cd4950a669b64a5b3cc4995c6a654db94ec0f901bc7"), looks := false }, kinds := [], alts := [], laidByText := true, laidKinds := [.data, .data, .data], laidTests := true, laidLooks := .later }
def FnExactAskAssertionCardSaid : Prop := Claim7.holds Tryz.pinned (.plain (OpenSpec.ofChange fnExactAskAssertionSpec)) fnExactAskAssertionCard

/-- THE SECOND FORM's CARD OF 'laws.FnBrowsers'. -/
def fnBrowsersUptoCard : Claim7 := { stood := { row := fnBrowsersUptoRow, standIns := [], harness := (true, "86ea469e5f2632c0c2ab3cd4950a669b64a5b3cc4995c6a654db94ec0f901bc7"), looks := false }, kinds := [], alts := [], laidByText := true, laidKinds := [.data, .data, .data], laidTests := true, laidLooks := .later }
def FnBrowsersUptoCardSaid : Prop := Claim7.holds Tryz.pinned (.plain (OpenSpec.upto fnBrowsersSpec)) fnBrowsersUptoCard

/-- THE SECOND FORM's CARD OF 'laws.FnExactAskAssertion'. -/
def fnExactAskAssertionUptoCard : Claim7 := { stood := { row := fnExactAskAssertionUptoRow, standIns := [], harness := (true, "86ea469e5f2632c0c2ab3cd4950a669b64a5b3cc4995c6a654db94ec0f901bc7"), looks := false }, kinds := [], alts := [], laidByText := true, laidKinds := [.data, .data, .data], laidTests := true, laidLooks := .later }
def FnExactAskAssertionUptoCardSaid : Prop := Claim7.holds Tryz.pinned (.plain (OpenSpec.upto fnExactAskAssertionSpec)) fnExactAskAssertionUptoCard
end Rows
end Go.Proofs.YtogoppknimpkbaaGreatDoor
