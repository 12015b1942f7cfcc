import Derived.Test.YtoedfeacpllkeaaYEntry
import Derived.Test.YtoedfeacpllkeaaYBundle
import Derived.Test.YtoedfeacpllkeaaEb
namespace Go.Proofs.Ytoedfeacpllkeaa.Das
open Go.ChangeShapes Go.WideShapes Go.ChangeAt Go.RowKit
open S0 S1 S9 Dm Fx E1 E18
set_option linter.unusedVariables false
set_option maxRecDepth 100000
def dasEntry (x : Fx.Entry) : List Da := [dI x.Site, dI x.Handle, dI x.Version, dB x.Deleted]
def zEntry : Fx.Entry := ⟨0, 0, 0, false⟩
theorem dasEntry_len (x : Fx.Entry) : (dasEntry x).length = 4 := rfl
theorem dasEntry_dc (x : Fx.Entry) : (dasEntry x).map Da.dc = x.dcs := rfl
def dasBundle (x : Fx.Bundle) : List Da := [rowR 38 4 dasEntry zEntry x.Entries]
def zBundle : Fx.Bundle := ⟨[]⟩
theorem dasBundle_len (x : Fx.Bundle) : (dasBundle x).length = 1 := rfl
theorem dasBundle_dc (x : Fx.Bundle) : (dasBundle x).map Da.dc = x.dcs := by
  show [(rowR 38 4 dasEntry zEntry x.Entries).dc] = x.dcs
  rw [rowR_dc 38 zEntry Fx.Entry.len dasEntry_dc]
  rfl
end Go.Proofs.Ytoedfeacpllkeaa.Das
