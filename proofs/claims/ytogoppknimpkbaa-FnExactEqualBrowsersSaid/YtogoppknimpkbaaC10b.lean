/-
  Contract of chapter 10's SignWithStore, of the model.
-/
import Derived.Test.YtogoppknimpkbaaC10
import Derived.Test.YtogoppknimpkbaaDa14
namespace Go.Proofs.Ytogoppknimpkbaa.C10b
open Go.ChangeShapes Go.WideShapes Go.ChangeAt Go.RowKit
open S0 S1 S9 Dm Fx M3 M8 C3 C6 C10 E0 E1 E2 E3 E4 E7 E10 E15 E16 E17 E18 E19 E20 Das
set_option linter.unusedVariables false
set_option linter.unusedSimpArgs false
set_option maxRecDepth 100000
set_option maxHeartbeats 4000000
theorem ks_shs (w : World) (hi : Nat) (x : Fx.KeyStore) {us : List Value} (h : RdsL w hi x.dcs us) : E0.ShsL w hi x.dcs us :=
  E0.shsL_vals (fun d hd => by
    simp only [KeyStore.dcs, List.mem_cons, List.not_mem_nil, or_false] at hd
    rcases hd with rfl | rfl | rfl | rfl <;> exact ⟨_, rfl⟩) h
end Go.Proofs.Ytogoppknimpkbaa.C10b
