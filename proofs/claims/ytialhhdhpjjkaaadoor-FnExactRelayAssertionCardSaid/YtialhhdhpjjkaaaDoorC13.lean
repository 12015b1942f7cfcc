/-
  Contracts of chapter 13's checked assertions, of the model.
-/
import Derived.Test.YtialhhdhpjjkaaaDoorC13m
import Derived.Test.YtialhhdhpjjkaaaDoorC9b
import Derived.Test.YtialhhdhpjjkaaaDoorC10b
namespace Go.Proofs.YtialhhdhpjjkaaaDoor.C13
open Go.ChangeShapes Go.WideShapes Go.ChangeAt Go.RowKit
open S0 S1 S9 Dm Fx M3 M8 M12 M13 C3 C6 C9 C13m
set_option linter.unusedVariables false
set_option linter.unusedSimpArgs false
set_option maxRecDepth 100000
theorem str_ext {a b : ByteArray} (h : a.toList = b.toList) : a = b := by
  rw [Lib.toList_data, Lib.toList_data] at h
  cases a; cases b
  simp at h
  rw [h]
noncomputable def chkA (p : Int) (a : Fx.Assertion) (s : ByteArray) (ch ctr : Int) : Int :=
  if a.Site = s then (if poB (bts a.Origin) = true then (if mayO (poO (bts a.Origin)) (bts s) = true then (if a.Present = true then (if a.Challenge = ch then (if vsg p (msg a ++ [a.Counter]) a.Signature = true then (if ctr < a.Counter then 0 else 4) else 5) else 3) else 2) else 1) else 1) else 1
theorem po_gives {o : Fx.Origin} {b : Bool} {w : World} {e : Ending} {w' : World} (h : MadeLx o.dcs (fun vs => .tuple #[.agg vs.toArray, .bool b]) w e w') : Gives (.tuple #[.agg #[.bool o.Secure, .string o.Host, .int .i64 o.Port], .bool b]) w e w' := by
  obtain ⟨vs, bs, rfl, ho, _, hb⟩ := h
  obtain ⟨rfl, _⟩ := Origin.owns ho
  exact ⟨rfl, hb⟩
theorem org_rds (w : World) (hi : Nat) (o : Fx.Origin) : RdsL w hi o.dcs [.bool o.Secure, .string o.Host, .int .i64 o.Port] := Origin.mkR
end Go.Proofs.YtialhhdhpjjkaaaDoor.C13
