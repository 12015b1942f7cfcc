import Derived.Test.YtogoppknimpkbaaGreatDoorBa
import Derived.Test.YtogoppknimpkbaaGreatDoorC10
import Derived.Test.YtogoppknimpkbaaGreatDoorD10
/-
  Key stores, in plain numbers: keys of different sites and handles are different for every seed that is drawn.
-/
namespace Go.Proofs.YtogoppknimpkbaaGreatDoor.M14
open M3 M8 C10 D10
set_option linter.unusedVariables false
set_option maxRecDepth 100000
/-- A keyed hash, linear in its key. -/
def lstep (p : Int × Int) (v : Int) : Int × Int := (p.1 * 1000003, p.2 * 1000003 + v % 2147483647 + 13)
def klin (xs : List Int) : Int × Int := ((xs.foldl lstep (1, 11 * 1000003 + 13)).1 * 1000003 + 1, (xs.foldl lstep (1, 11 * 1000003 + 13)).2 * 1000003 + 13)
def dotx (s : ByteArray) : ByteArray := s ++ ⟨#[46, 120]⟩
/-- What is asked of a site and a handle, for every seed at once. -/
def apart0 (E : Int) : Bool := E % 2147483647 != 0 && E % 2147483647 != 1 && E % 2147483647 != 2147483646
def seedless (D E Di : Int) : Bool := D * Di % 2147483647 == 1 && [(0 : Int), 1, 2147483646].all fun t => ((t - E) * Di % 2147483647 == 0 || decide (99999 < (t - E) * Di % 2147483647)) && (t - E) * Di % 2147483647 != 2147483646
def good (s : ByteArray) (q : Int) : Bool :=
  (klin ([151] ++ [179, siteH s, q])).1 - (klin ([151] ++ [179, siteH (dotx s), q])).1 == 0 && apart0 ((klin ([151] ++ [179, siteH s, q])).2 - (klin ([151] ++ [179, siteH (dotx s), q])).2) &&
  ((klin ([151] ++ [179, siteH s, q])).1 - (klin ([151] ++ [179, siteH s, q + 1])).1 == 0 && apart0 ((klin ([151] ++ [179, siteH s, q])).2 - (klin ([151] ++ [179, siteH s, q + 1])).2)) &&
  seedless ((klin ([151] ++ [179, siteH s, q])).1 - (klin ([151] ++ [181])).1) ((klin ([151] ++ [179, siteH s, q])).2 - (klin ([151] ++ [181])).2) 1280618798
end Go.Proofs.YtogoppknimpkbaaGreatDoor.M14
