import Derived.Test.YtpfjfnlefeocnaaGreatDoorBa
import Derived.Test.YtpfjfnlefeocnaaGreatDoorYKeyStore
/-
  Contracts of chapter 10's key stores, of the model.
-/
namespace Go.Proofs.YtpfjfnlefeocnaaGreatDoor.C10
open Go.ChangeShapes Go.WideShapes Go.ChangeAt Go.RowKit
open S0 S1 S9 Dm Fx M3 M8 C3 C6
set_option linter.unusedVariables false
def siteH (s : ByteArray) : Int := derive 173 (C3b.sbytes s)
set_option maxHeartbeats 1600000 in
set_option maxRecDepth 100000 in
theorem specSiteH (w : World) (s : ByteArray) (hs : s.size ≤ 16000000) : Calls Tryz.prog 72 #[.string s] w (Gives (.int .i64 (siteH s)) w) := by
  go_enter Tryz.func72, Tryz.ntmps72
  go_wp2_with fail
  (with_reducible refine (C3b.specDerive _ 173 s (by omega) (by omega) hs).mono ?_); rintro e w2 ⟨rfl, b2⟩
  go_wp2
  go_ret
  exact ⟨rfl, b2⟩
end Go.Proofs.YtpfjfnlefeocnaaGreatDoor.C10
