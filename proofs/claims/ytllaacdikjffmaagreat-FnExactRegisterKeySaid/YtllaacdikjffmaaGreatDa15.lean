import Derived.Test.YtllaacdikjffmaaGreatYSite
import Derived.Test.YtllaacdikjffmaaGreatDa14
import Derived.Test.YtllaacdikjffmaaGreatDas
namespace Go.Proofs.YtllaacdikjffmaaGreat.Das
open Go.ChangeShapes Go.WideShapes Go.ChangeAt Go.RowKit
open S0 S1 S9 Dm Fx E1 E18
set_option linter.unusedVariables false
set_option maxRecDepth 100000
def dasSite (x : Fx.Site) : List Da := [dS x.Name, rowR 52 3 dasAccount zAccount x.Accounts, dI x.Book.Seed, dI x.Book.Next, rowR 67 3 dasChallenge zChallenge x.Book.Open, numR 3 .i64 x.Logins]
theorem dasSite_dc (x : Fx.Site) : (dasSite x).map Da.dc = x.dcs := by
  show [Dc.val (.string x.Name), (rowR 52 3 dasAccount zAccount x.Accounts).dc, Dc.val (.int .i64 x.Book.Seed), Dc.val (.int .i64 x.Book.Next), (rowR 67 3 dasChallenge zChallenge x.Book.Open).dc, (numR 3 .i64 x.Logins).dc] = x.dcs
  rw [rowR_dc 52 zAccount Fx.Account.len dasAccount_dc, rowR_dc 67 zChallenge Fx.Challenge.len dasChallenge_dc, numR_dc]
  rfl
end Go.Proofs.YtllaacdikjffmaaGreat.Das
