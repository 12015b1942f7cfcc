import Derived.Test.YtllaacdikjffmaaGreatYCredential
import Derived.Test.YtllaacdikjffmaaGreatYAccount
import Derived.Test.YtllaacdikjffmaaGreatEb
namespace Go.Proofs.YtllaacdikjffmaaGreat.Das
open Go.ChangeShapes Go.WideShapes Go.ChangeAt Go.RowKit
open S0 S1 S9 Dm Fx E1 E18
set_option linter.unusedVariables false
set_option maxRecDepth 100000
def dasCredential (x : Fx.Credential) : List Da := [dI x.Handle, dI x.Public, dI x.Counter, dB x.Cut]
def zCredential : Fx.Credential := ⟨0, 0, 0, false⟩
theorem dasCredential_dc (x : Fx.Credential) : (dasCredential x).map Da.dc = x.dcs := rfl
def dasAccount (x : Fx.Account) : List Da := [dI x.Id, dI x.Minimum, rowR 81 4 dasCredential zCredential x.Credentials]
def zAccount : Fx.Account := ⟨0, 0, []⟩
theorem dasAccount_dc (x : Fx.Account) : (dasAccount x).map Da.dc = x.dcs := by
  show [Dc.val (.int .i64 x.Id), Dc.val (.int .i64 x.Minimum), (rowR 81 4 dasCredential zCredential x.Credentials).dc] = x.dcs
  rw [rowR_dc 81 zCredential Fx.Credential.len dasCredential_dc]
  rfl
end Go.Proofs.YtllaacdikjffmaaGreat.Das
