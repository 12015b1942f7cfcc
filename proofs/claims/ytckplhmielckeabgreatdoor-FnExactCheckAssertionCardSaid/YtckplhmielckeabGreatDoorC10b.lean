/-
  Contract of chapter 10's SignWithStore, of the model.
-/
import Derived.Test.YtckplhmielckeabGreatDoorC10
import Derived.Test.YtckplhmielckeabGreatDoorBb
namespace Go.Proofs.YtckplhmielckeabGreatDoor.C10b
open Go.ChangeShapes Go.WideShapes Go.ChangeAt Go.RowKit
open S0 S1 S9 Dm Fx M3 M8 C3 C6 C10
set_option linter.unusedVariables false
set_option linter.unusedSimpArgs false
set_option maxRecDepth 100000
theorem made_sg {w wf : World} (x : Fx.KeyStore) (n : Int) (b : Bool) (HB : Below w.heap.size w wf) : MadeLx x.dcs (fun vs => .tuple #[.agg vs.toArray, .int .i64 n, .bool b]) w (.returned (.tuple #[.agg #[.int .i64 x.Vendor, .int .i64 x.Serial, .int .i64 x.Seed, .int .i64 x.Counter], .int .i64 n, .bool b])) wf :=
  ⟨_, [], rfl, KeyStore.mkO, by simp, HB⟩
/-- What a row that a call made reads as, in a later world. -/
theorem rd_row {w : World} {base g n c : Nat} {xs : List Value} {E : Nat} (h : w.ownsRow base E 1 (.slice (some ⟨g, 0, none⟩) n c) n xs) : Rd w w.heap.size 1 (some ⟨g, 0, none⟩) n xs := Rd.own h
end Go.Proofs.YtckplhmielckeabGreatDoor.C10b
