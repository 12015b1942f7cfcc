/-
  The laws' own functions over key stores, origins, assertions: structs without memory.
-/
import Derived.Test.YtialhhdhpjjkaaaDoorYOrigin
import Derived.Test.YtialhhdhpjjkaaaDoorYKeyStore
import Derived.Test.YtialhhdhpjjkaaaDoorYAssertion
namespace Go.Proofs.YtialhhdhpjjkaaaDoor.C13z
open Go.ChangeShapes Go.WideShapes Go.ChangeAt Go.RowKit
open S0 S9 Dm Fx
set_option linter.unusedVariables false
set_option maxRecDepth 100000
theorem toKeyStore (w : World) (x : Fx.KeyStore) (h : wtL x.dcs ≤ 4294967296) : Calls Tryd.prog 7 #[.agg #[.int .i64 x.Vendor, .int .i64 x.Serial, .int .i64 x.Seed, .int .i64 x.Counter]] w (Gives (.agg #[.int .i64 x.Vendor, .int .i64 x.Serial, .int .i64 x.Seed, .int .i64 x.Counter]) w) :=
  (Fx.toKeyStore w x _ (KeyStore.mkR (w := w) (hi := w.heap.size)) h).mono (fun e w' h => by obtain ⟨vs, bs, rfl, ho, _, hb⟩ := h; obtain ⟨rfl, _⟩ := KeyStore.owns ho; exact ⟨rfl, hb⟩)
theorem eqKeyStore (w : World) (x : Fx.KeyStore) (h : wtL x.dcs ≤ 4294967296) : Calls Tryd.prog 10 #[.agg #[.int .i64 x.Vendor, .int .i64 x.Serial, .int .i64 x.Seed, .int .i64 x.Counter], .agg #[.int .i64 x.Vendor, .int .i64 x.Serial, .int .i64 x.Seed, .int .i64 x.Counter]] w (Gives (.bool true) w) :=
  Fx.eqKeyStore w x _ _ (KeyStore.mkR (w := w) (hi := w.heap.size)) (KeyStore.mkR (w := w) (hi := w.heap.size)) h
theorem toOrigin (w : World) (x : Fx.Origin) (h : wtL x.dcs ≤ 4294967296) : Calls Tryd.prog 8 #[.agg #[.bool x.Secure, .string x.Host, .int .i64 x.Port]] w (Gives (.agg #[.bool x.Secure, .string x.Host, .int .i64 x.Port]) w) :=
  (Fx.toOrigin w x _ (Origin.mkR (w := w) (hi := w.heap.size)) h).mono (fun e w' h => by obtain ⟨vs, bs, rfl, ho, _, hb⟩ := h; obtain ⟨rfl, _⟩ := Origin.owns ho; exact ⟨rfl, hb⟩)
theorem eqAssertion (w : World) (x : Fx.Assertion) (h : wtL x.dcs ≤ 4294967296) : Calls Tryd.prog 11 #[.agg #[.string x.Site, .string x.Origin, .int .i64 x.Challenge, .int .i64 x.Handle, .bool x.Present, .int .i64 x.Counter, .int .i64 x.Signature], .agg #[.string x.Site, .string x.Origin, .int .i64 x.Challenge, .int .i64 x.Handle, .bool x.Present, .int .i64 x.Counter, .int .i64 x.Signature]] w (Gives (.bool true) w) :=
  Fx.eqAssertion w x _ _ (Assertion.mkR (w := w) (hi := w.heap.size)) (Assertion.mkR (w := w) (hi := w.heap.size)) h
end Go.Proofs.YtialhhdhpjjkaaaDoor.C13z
