import Derived.Test.YtialhhdhpjjkaaaGreatDoorBa
/-
  The hash of a site, by itself (for seats without key stores).
-/
namespace Go.Proofs.YtialhhdhpjjkaaaGreatDoor.H1
open Go.ChangeShapes Go.WideShapes Go.ChangeAt Go.RowKit
open S0 M3 C3
set_option linter.unusedVariables false
set_option maxRecDepth 100000
def siteH (s : ByteArray) : Int := derive 173 (C3b.sbytes s)
theorem siteH_in (s : ByteArray) : -9223372036854775808 ≤ siteH s ∧ siteH s ≤ 9223372036854775807 := by
  have := derive_valid 173 (C3b.sbytes s)
  unfold siteH
  omega
set_option maxHeartbeats 1600000 in
theorem specSiteH (w : World) (s : ByteArray) (hs : s.size ≤ 16000000) : Calls Tryz.prog 34 #[.string s] w (Gives (.int .i64 (siteH s)) w) := by
  go_enter Tryz.func34, Tryz.ntmps34
  go_wp2_with fail
  (with_reducible refine (C3b.specDerive _ 173 s (by omega) (by omega) (by omega)).mono ?_); rintro e w2 ⟨rfl, b2⟩
  go_wp2
  go_ret
  exact ⟨rfl, b2⟩
set_option maxHeartbeats 1600000 in
theorem implSiteH (w : World) (s : ByteArray) (hs : s.size ≤ 16000000) : Calls Tryz.prog 33 #[.string s] w (Gives (.int .i64 (siteH s)) w) := by
  go_enter Tryz.func33, Tryz.ntmps33
  go_wp2_with fail
  (with_reducible refine (C3b.implDerive _ 173 s (by omega) (by omega) (by omega)).mono ?_); rintro e w2 ⟨rfl, b2⟩
  go_wp2
  go_ret
  exact ⟨rfl, b2⟩
end Go.Proofs.YtialhhdhpjjkaaaGreatDoor.H1
