import Derived.Test.YtllaacdikjffmaaGreatYChallenge
import Derived.Test.YtllaacdikjffmaaGreatYChallengeBook
import Derived.Test.YtllaacdikjffmaaGreatEb
namespace Go.Proofs.YtllaacdikjffmaaGreat.Das
open Go.ChangeShapes Go.WideShapes Go.ChangeAt Go.RowKit
open S0 S1 S9 Dm Fx E1 E18
set_option linter.unusedVariables false
set_option maxRecDepth 100000
def dasChallenge (x : Fx.Challenge) : List Da := [dI x.Id, dI x.Account, dI x.Until]
def zChallenge : Fx.Challenge := ⟨0, 0, 0⟩
theorem dasChallenge_dc (x : Fx.Challenge) : (dasChallenge x).map Da.dc = x.dcs := rfl
def dasChallengeBook (x : Fx.ChallengeBook) : List Da := [dI x.Seed, dI x.Next, rowR 67 3 dasChallenge zChallenge x.Open]
end Go.Proofs.YtllaacdikjffmaaGreat.Das
