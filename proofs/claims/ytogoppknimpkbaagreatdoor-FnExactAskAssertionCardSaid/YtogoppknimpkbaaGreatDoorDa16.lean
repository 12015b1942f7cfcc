import Derived.Test.YtogoppknimpkbaaGreatDoorYTab
import Derived.Test.YtogoppknimpkbaaGreatDoorYBrowser
import Derived.Test.YtogoppknimpkbaaGreatDoorDa14
namespace Go.Proofs.YtogoppknimpkbaaGreatDoor.Das
open Go.ChangeShapes Go.WideShapes Go.ChangeAt Go.RowKit
open S0 S1 S9 Dm Fx E1 E18
set_option linter.unusedVariables false
set_option maxRecDepth 100000
def dasTab (x : Fx.Tab) : List Da := [dB x.Origin.Secure, dS x.Origin.Host, dI x.Origin.Port, dB x.Top.Secure, dS x.Top.Host, dI x.Top.Port]
def zTab : Fx.Tab := ⟨zOrigin, zOrigin⟩
theorem dasTab_dc (x : Fx.Tab) : (dasTab x).map Da.dc = x.dcs := rfl
def dasBrowser (x : Fx.Browser) : List Da := [dI x.Store.Vendor, dI x.Store.Serial, dI x.Store.Seed, dI x.Store.Counter, rowR 62 6 dasTab zTab x.Tabs, dI x.Asked]
theorem dasBrowser_dc (x : Fx.Browser) : (dasBrowser x).map Da.dc = x.dcs := by
  show [Dc.val (.int .i64 x.Store.Vendor), Dc.val (.int .i64 x.Store.Serial), Dc.val (.int .i64 x.Store.Seed), Dc.val (.int .i64 x.Store.Counter), (rowR 62 6 dasTab zTab x.Tabs).dc, Dc.val (.int .i64 x.Asked)] = x.dcs
  rw [rowR_dc 62 zTab Fx.Tab.len dasTab_dc]
  rfl
end Go.Proofs.YtogoppknimpkbaaGreatDoor.Das
