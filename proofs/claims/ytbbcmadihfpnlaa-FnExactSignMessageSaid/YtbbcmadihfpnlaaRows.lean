/-
  No cell of these rows narrows 'for every input' (looked for: loops, veiled, ifaces, maps, wideKeys, modest, calm, conditions, laid).
  DERIVED. THE GIVEN ROWS OF THIS SEAT. 9 by the template 'for every input the law returns true; each argument reads behind the call as it read before'; 0 by the template 'total and deterministic' (their statements: YtbbcmadihfpnlaaTotals.lean).
  GIVEN WITH THE SEED: the statements are not yours to turn. If you find one false, say at which input.
  Laid BY PROGRAM, IN A SANDBOX (cutbox-rows.mjs): the forced cells as the released guide's own fill.sh prints them over the translation 624a16c2f44d7683… (all of the seat's roots in one cut). By AI agents, Wed Nov 11 2026. No macro, syntax, notation, axiom, sorry.
-/
import Derived.Test.YtbbcmadihfpnlaaChecked
import GoSem.Claim
import GoSem.ClaimJoined
import GoSem.ClaimMapViews
import Derived.JoinedTies
import Derived.KernelRfl
namespace Go.Proofs.Ytbbcmadihfpnlaa
/- THE CELL 'sum', in the pinned program and in every row, IS THE sha256 OF THE DUMP (.gsa) THAT YtbbcmadihfpnlaaProg.lean LOADS. Nothing in Lean hashes anything: it is a label: what it is worth is what the hold of that sum in a sandbox is worth. -/
noncomputable def Try.pinned : Pinned := { name := "ytbbcmadihfpnlaa", sum := "624a16c2f44d76834efc15d1ac6ff8a062a9c6ec9600a1321bc58970b7d457a3", checked := Try.checked }
namespace Rows
def none {H : Type} : Left H := { results := [], args := [] }

/-- 'laws.FnSignatures': WHATEVER THE INPUT: true; the input reads as it did. -/
def fnSignaturesSpec : ChangeSpec := { name := "fnSignatures", fn := fun _ => fun
  | [d] => { results := [.lit (.bool true)], args := [d] }
  | _ => none }
def fnSignaturesRow : OpenClaim := { program := "ytbbcmadihfpnlaa", sum := "624a16c2f44d76834efc15d1ac6ff8a062a9c6ec9600a1321bc58970b7d457a3", func := "loop.example/g00581/laws.FnSignatures", spec := "fnSignatures", plainKeys := false, apart := false }
def FnSignaturesSaid : Prop := fnSignaturesRow.holds Try.pinned (OpenSpec.ofChange fnSignaturesSpec)

/-- ITS FALSE NEIGHBOUR: 'it returns false'. Refute it at one input. -/
def fnSignaturesWrong : ChangeSpec := { name := "fnSignatures", fn := fun _ => fun
  | [d] => { results := [.lit (.bool false)], args := [d] }
  | _ => none }
def FnSignaturesWrongFalsely : Prop := fnSignaturesRow.holds Try.pinned (OpenSpec.ofChange fnSignaturesWrong)

/-- 'laws.FnExactPublicKey': WHATEVER THE INPUT: true; the input reads as it did. -/
def fnExactPublicKeySpec : ChangeSpec := { name := "fnExactPublicKey", fn := fun _ => fun
  | [d] => { results := [.lit (.bool true)], args := [d] }
  | _ => none }
def fnExactPublicKeyRow : OpenClaim := { program := "ytbbcmadihfpnlaa", sum := "624a16c2f44d76834efc15d1ac6ff8a062a9c6ec9600a1321bc58970b7d457a3", func := "loop.example/g00581/laws.FnExactPublicKey", spec := "fnExactPublicKey", plainKeys := false, apart := false }
def FnExactPublicKeySaid : Prop := fnExactPublicKeyRow.holds Try.pinned (OpenSpec.ofChange fnExactPublicKeySpec)

/-- ITS FALSE NEIGHBOUR: 'it returns false'. Refute it at one input. -/
def fnExactPublicKeyWrong : ChangeSpec := { name := "fnExactPublicKey", fn := fun _ => fun
  | [d] => { results := [.lit (.bool false)], args := [d] }
  | _ => none }
def FnExactPublicKeyWrongFalsely : Prop := fnExactPublicKeyRow.holds Try.pinned (OpenSpec.ofChange fnExactPublicKeyWrong)

/-- 'laws.FnExactPrivateKey': WHATEVER THE INPUT: true; the input reads as it did. -/
def fnExactPrivateKeySpec : ChangeSpec := { name := "fnExactPrivateKey", fn := fun _ => fun
  | [d] => { results := [.lit (.bool true)], args := [d] }
  | _ => none }
def fnExactPrivateKeyRow : OpenClaim := { program := "ytbbcmadihfpnlaa", sum := "624a16c2f44d76834efc15d1ac6ff8a062a9c6ec9600a1321bc58970b7d457a3", func := "loop.example/g00581/laws.FnExactPrivateKey", spec := "fnExactPrivateKey", plainKeys := false, apart := false }
def FnExactPrivateKeySaid : Prop := fnExactPrivateKeyRow.holds Try.pinned (OpenSpec.ofChange fnExactPrivateKeySpec)

/-- ITS FALSE NEIGHBOUR: 'it returns false'. Refute it at one input. -/
def fnExactPrivateKeyWrong : ChangeSpec := { name := "fnExactPrivateKey", fn := fun _ => fun
  | [d] => { results := [.lit (.bool false)], args := [d] }
  | _ => none }
def FnExactPrivateKeyWrongFalsely : Prop := fnExactPrivateKeyRow.holds Try.pinned (OpenSpec.ofChange fnExactPrivateKeyWrong)

/-- 'laws.FnExactSignMessage': WHATEVER THE INPUT: true; the input reads as it did. -/
def fnExactSignMessageSpec : ChangeSpec := { name := "fnExactSignMessage", fn := fun _ => fun
  | [d1, d2] => { results := [.lit (.bool true)], args := [d1, d2] }
  | _ => none }
def fnExactSignMessageRow : OpenClaim := { program := "ytbbcmadihfpnlaa", sum := "624a16c2f44d76834efc15d1ac6ff8a062a9c6ec9600a1321bc58970b7d457a3", func := "loop.example/g00581/laws.FnExactSignMessage", spec := "fnExactSignMessage", plainKeys := false, apart := false }
def FnExactSignMessageSaid : Prop := fnExactSignMessageRow.holds Try.pinned (OpenSpec.ofChange fnExactSignMessageSpec)

/-- ITS FALSE NEIGHBOUR: 'it returns false'. Refute it at one input. -/
def fnExactSignMessageWrong : ChangeSpec := { name := "fnExactSignMessage", fn := fun _ => fun
  | [d1, d2] => { results := [.lit (.bool false)], args := [d1, d2] }
  | _ => none }
def FnExactSignMessageWrongFalsely : Prop := fnExactSignMessageRow.holds Try.pinned (OpenSpec.ofChange fnExactSignMessageWrong)

/-- 'laws.FnExactVerifySignature': WHATEVER THE INPUT: true; the input reads as it did. -/
def fnExactVerifySignatureSpec : ChangeSpec := { name := "fnExactVerifySignature", fn := fun _ => fun
  | [d1, d2, d3] => { results := [.lit (.bool true)], args := [d1, d2, d3] }
  | _ => none }
def fnExactVerifySignatureRow : OpenClaim := { program := "ytbbcmadihfpnlaa", sum := "624a16c2f44d76834efc15d1ac6ff8a062a9c6ec9600a1321bc58970b7d457a3", func := "loop.example/g00581/laws.FnExactVerifySignature", spec := "fnExactVerifySignature", plainKeys := false, apart := false }
def FnExactVerifySignatureSaid : Prop := fnExactVerifySignatureRow.holds Try.pinned (OpenSpec.ofChange fnExactVerifySignatureSpec)

/-- ITS FALSE NEIGHBOUR: 'it returns false'. Refute it at one input. -/
def fnExactVerifySignatureWrong : ChangeSpec := { name := "fnExactVerifySignature", fn := fun _ => fun
  | [d1, d2, d3] => { results := [.lit (.bool false)], args := [d1, d2, d3] }
  | _ => none }
def FnExactVerifySignatureWrongFalsely : Prop := fnExactVerifySignatureRow.holds Try.pinned (OpenSpec.ofChange fnExactVerifySignatureWrong)

/-- 'laws.FnExactKeyFingerprint': WHATEVER THE INPUT: true; the input reads as it did. -/
def fnExactKeyFingerprintSpec : ChangeSpec := { name := "fnExactKeyFingerprint", fn := fun _ => fun
  | [d] => { results := [.lit (.bool true)], args := [d] }
  | _ => none }
def fnExactKeyFingerprintRow : OpenClaim := { program := "ytbbcmadihfpnlaa", sum := "624a16c2f44d76834efc15d1ac6ff8a062a9c6ec9600a1321bc58970b7d457a3", func := "loop.example/g00581/laws.FnExactKeyFingerprint", spec := "fnExactKeyFingerprint", plainKeys := false, apart := false }
def FnExactKeyFingerprintSaid : Prop := fnExactKeyFingerprintRow.holds Try.pinned (OpenSpec.ofChange fnExactKeyFingerprintSpec)

/-- ITS FALSE NEIGHBOUR: 'it returns false'. Refute it at one input. -/
def fnExactKeyFingerprintWrong : ChangeSpec := { name := "fnExactKeyFingerprint", fn := fun _ => fun
  | [d] => { results := [.lit (.bool false)], args := [d] }
  | _ => none }
def FnExactKeyFingerprintWrongFalsely : Prop := fnExactKeyFingerprintRow.holds Try.pinned (OpenSpec.ofChange fnExactKeyFingerprintWrong)

/-- 'laws.FnExactDeriveKey': WHATEVER THE INPUT: true; the input reads as it did. -/
def fnExactDeriveKeySpec : ChangeSpec := { name := "fnExactDeriveKey", fn := fun _ => fun
  | [d1, d2] => { results := [.lit (.bool true)], args := [d1, d2] }
  | _ => none }
def fnExactDeriveKeyRow : OpenClaim := { program := "ytbbcmadihfpnlaa", sum := "624a16c2f44d76834efc15d1ac6ff8a062a9c6ec9600a1321bc58970b7d457a3", func := "loop.example/g00581/laws.FnExactDeriveKey", spec := "fnExactDeriveKey", plainKeys := false, apart := false }
def FnExactDeriveKeySaid : Prop := fnExactDeriveKeyRow.holds Try.pinned (OpenSpec.ofChange fnExactDeriveKeySpec)

/-- ITS FALSE NEIGHBOUR: 'it returns false'. Refute it at one input. -/
def fnExactDeriveKeyWrong : ChangeSpec := { name := "fnExactDeriveKey", fn := fun _ => fun
  | [d1, d2] => { results := [.lit (.bool false)], args := [d1, d2] }
  | _ => none }
def FnExactDeriveKeyWrongFalsely : Prop := fnExactDeriveKeyRow.holds Try.pinned (OpenSpec.ofChange fnExactDeriveKeyWrong)

/-- 'laws.FnExactDeriveFromString': WHATEVER THE INPUT: true; the input reads as it did. -/
def fnExactDeriveFromStringSpec : ChangeSpec := { name := "fnExactDeriveFromString", fn := fun _ => fun
  | [d1, d2] => { results := [.lit (.bool true)], args := [d1, d2] }
  | _ => none }
def fnExactDeriveFromStringRow : OpenClaim := { program := "ytbbcmadihfpnlaa", sum := "624a16c2f44d76834efc15d1ac6ff8a062a9c6ec9600a1321bc58970b7d457a3", func := "loop.example/g00581/laws.FnExactDeriveFromString", spec := "fnExactDeriveFromString", plainKeys := false, apart := false }
def FnExactDeriveFromStringSaid : Prop := fnExactDeriveFromStringRow.holds Try.pinned (OpenSpec.ofChange fnExactDeriveFromStringSpec)

/-- ITS FALSE NEIGHBOUR: 'it returns false'. Refute it at one input. -/
def fnExactDeriveFromStringWrong : ChangeSpec := { name := "fnExactDeriveFromString", fn := fun _ => fun
  | [d1, d2] => { results := [.lit (.bool false)], args := [d1, d2] }
  | _ => none }
def FnExactDeriveFromStringWrongFalsely : Prop := fnExactDeriveFromStringRow.holds Try.pinned (OpenSpec.ofChange fnExactDeriveFromStringWrong)

/-- 'laws.FnKeyedHash': WHATEVER THE INPUT: true; the input reads as it did. -/
def fnKeyedHashSpec : ChangeSpec := { name := "fnKeyedHash", fn := fun _ => fun
  | [d] => { results := [.lit (.bool true)], args := [d] }
  | _ => none }
def fnKeyedHashRow : OpenClaim := { program := "ytbbcmadihfpnlaa", sum := "624a16c2f44d76834efc15d1ac6ff8a062a9c6ec9600a1321bc58970b7d457a3", func := "loop.example/g00581/laws.FnKeyedHash", spec := "fnKeyedHash", plainKeys := false, apart := false }
def FnKeyedHashSaid : Prop := fnKeyedHashRow.holds Try.pinned (OpenSpec.ofChange fnKeyedHashSpec)

/-- ITS FALSE NEIGHBOUR: 'it returns false'. Refute it at one input. -/
def fnKeyedHashWrong : ChangeSpec := { name := "fnKeyedHash", fn := fun _ => fun
  | [d] => { results := [.lit (.bool false)], args := [d] }
  | _ => none }
def FnKeyedHashWrongFalsely : Prop := fnKeyedHashRow.holds Try.pinned (OpenSpec.ofChange fnKeyedHashWrong)

/- THE SECOND FORM. 'bulk': how many values and letters a reading holds, each counted each time it is reached (what is shared counts as often as it is met; a slice's spare places count too). A statement '..UptoSaid' is the law's where the arguments, and the package variables that the reading takes, are together of bulk at most 1048576: NARROWER than '..Said'. Prove '..Said' where nothing that the law and all that it calls make is longer than what came in: it says more and counts as full. Else prove '..UptoSaid'. A law counts once. -/
mutual
def uptoBulk {H : Type} : DataW H → Nat
  | .lit (.string bytes) => bytes.length + 1
  | .lit _ => 1
  | .nil => 1
  | .ptr d => uptoBulk d + 1
  | .slice elems spare => uptoBulkAll elems + uptoBulkAll spare + 1
  | .agg parts => uptoBulkAll parts + 1
  | .iface _ d => uptoBulk d + 1
  | .map entries => uptoBulkEntries entries + 1
  | .held _ => 1
def uptoBulkAll {H : Type} : List (DataW H) → Nat
  | [] => 0
  | d :: r => uptoBulk d + uptoBulkAll r
def uptoBulkEntries {H : Type} : List (Lit × DataW H) → Nat
  | [] => 0
  | x :: r => uptoBulkEntry x + uptoBulkEntries r
def uptoBulkEntry {H : Type} : Lit × DataW H → Nat
  | (.string bytes, d) => bytes.length + uptoBulk d + 1
  | (_, d) => uptoBulk d + 1
 end
def uptoSmall : (H : Type) → List (DataW H) → Bool := fun _ ds => decide (uptoBulkAll ds ≤ 1048576)
def OpenSpec.upto (s : _root_.Go.ChangeSpec) : _root_.Go.OpenSpec := { _root_.Go.OpenSpec.ofChange s with cond := some uptoSmall }

/-- 'laws.FnSignatures', WHERE WHAT IT READS IS OF BULK AT MOST 1048576: true; the input reads as it did. -/
def fnSignaturesUptoRow : OpenClaim := { program := "ytbbcmadihfpnlaa", sum := "624a16c2f44d76834efc15d1ac6ff8a062a9c6ec9600a1321bc58970b7d457a3", func := "loop.example/g00581/laws.FnSignatures", spec := "fnSignatures", plainKeys := false, apart := false, narrowed := true }
def FnSignaturesUptoSaid : Prop := fnSignaturesUptoRow.holds Try.pinned (OpenSpec.upto fnSignaturesSpec)

/-- 'laws.FnExactPublicKey', WHERE WHAT IT READS IS OF BULK AT MOST 1048576: true; the input reads as it did. -/
def fnExactPublicKeyUptoRow : OpenClaim := { program := "ytbbcmadihfpnlaa", sum := "624a16c2f44d76834efc15d1ac6ff8a062a9c6ec9600a1321bc58970b7d457a3", func := "loop.example/g00581/laws.FnExactPublicKey", spec := "fnExactPublicKey", plainKeys := false, apart := false, narrowed := true }
def FnExactPublicKeyUptoSaid : Prop := fnExactPublicKeyUptoRow.holds Try.pinned (OpenSpec.upto fnExactPublicKeySpec)

/-- 'laws.FnExactPrivateKey', WHERE WHAT IT READS IS OF BULK AT MOST 1048576: true; the input reads as it did. -/
def fnExactPrivateKeyUptoRow : OpenClaim := { program := "ytbbcmadihfpnlaa", sum := "624a16c2f44d76834efc15d1ac6ff8a062a9c6ec9600a1321bc58970b7d457a3", func := "loop.example/g00581/laws.FnExactPrivateKey", spec := "fnExactPrivateKey", plainKeys := false, apart := false, narrowed := true }
def FnExactPrivateKeyUptoSaid : Prop := fnExactPrivateKeyUptoRow.holds Try.pinned (OpenSpec.upto fnExactPrivateKeySpec)

/-- 'laws.FnExactSignMessage', WHERE WHAT IT READS IS OF BULK AT MOST 1048576: true; the input reads as it did. -/
def fnExactSignMessageUptoRow : OpenClaim := { program := "ytbbcmadihfpnlaa", sum := "624a16c2f44d76834efc15d1ac6ff8a062a9c6ec9600a1321bc58970b7d457a3", func := "loop.example/g00581/laws.FnExactSignMessage", spec := "fnExactSignMessage", plainKeys := false, apart := false, narrowed := true }
def FnExactSignMessageUptoSaid : Prop := fnExactSignMessageUptoRow.holds Try.pinned (OpenSpec.upto fnExactSignMessageSpec)

/-- 'laws.FnExactVerifySignature', WHERE WHAT IT READS IS OF BULK AT MOST 1048576: true; the input reads as it did. -/
def fnExactVerifySignatureUptoRow : OpenClaim := { program := "ytbbcmadihfpnlaa", sum := "624a16c2f44d76834efc15d1ac6ff8a062a9c6ec9600a1321bc58970b7d457a3", func := "loop.example/g00581/laws.FnExactVerifySignature", spec := "fnExactVerifySignature", plainKeys := false, apart := false, narrowed := true }
def FnExactVerifySignatureUptoSaid : Prop := fnExactVerifySignatureUptoRow.holds Try.pinned (OpenSpec.upto fnExactVerifySignatureSpec)

/-- 'laws.FnExactKeyFingerprint', WHERE WHAT IT READS IS OF BULK AT MOST 1048576: true; the input reads as it did. -/
def fnExactKeyFingerprintUptoRow : OpenClaim := { program := "ytbbcmadihfpnlaa", sum := "624a16c2f44d76834efc15d1ac6ff8a062a9c6ec9600a1321bc58970b7d457a3", func := "loop.example/g00581/laws.FnExactKeyFingerprint", spec := "fnExactKeyFingerprint", plainKeys := false, apart := false, narrowed := true }
def FnExactKeyFingerprintUptoSaid : Prop := fnExactKeyFingerprintUptoRow.holds Try.pinned (OpenSpec.upto fnExactKeyFingerprintSpec)

/-- 'laws.FnExactDeriveKey', WHERE WHAT IT READS IS OF BULK AT MOST 1048576: true; the input reads as it did. -/
def fnExactDeriveKeyUptoRow : OpenClaim := { program := "ytbbcmadihfpnlaa", sum := "624a16c2f44d76834efc15d1ac6ff8a062a9c6ec9600a1321bc58970b7d457a3", func := "loop.example/g00581/laws.FnExactDeriveKey", spec := "fnExactDeriveKey", plainKeys := false, apart := false, narrowed := true }
def FnExactDeriveKeyUptoSaid : Prop := fnExactDeriveKeyUptoRow.holds Try.pinned (OpenSpec.upto fnExactDeriveKeySpec)

/-- 'laws.FnExactDeriveFromString', WHERE WHAT IT READS IS OF BULK AT MOST 1048576: true; the input reads as it did. -/
def fnExactDeriveFromStringUptoRow : OpenClaim := { program := "ytbbcmadihfpnlaa", sum := "624a16c2f44d76834efc15d1ac6ff8a062a9c6ec9600a1321bc58970b7d457a3", func := "loop.example/g00581/laws.FnExactDeriveFromString", spec := "fnExactDeriveFromString", plainKeys := false, apart := false, narrowed := true }
def FnExactDeriveFromStringUptoSaid : Prop := fnExactDeriveFromStringUptoRow.holds Try.pinned (OpenSpec.upto fnExactDeriveFromStringSpec)

/-- 'laws.FnKeyedHash', WHERE WHAT IT READS IS OF BULK AT MOST 1048576: true; the input reads as it did. -/
def fnKeyedHashUptoRow : OpenClaim := { program := "ytbbcmadihfpnlaa", sum := "624a16c2f44d76834efc15d1ac6ff8a062a9c6ec9600a1321bc58970b7d457a3", func := "loop.example/g00581/laws.FnKeyedHash", spec := "fnKeyedHash", plainKeys := false, apart := false, narrowed := true }
def FnKeyedHashUptoSaid : Prop := fnKeyedHashUptoRow.holds Try.pinned (OpenSpec.upto fnKeyedHashSpec)

end Rows
end Go.Proofs.Ytbbcmadihfpnlaa
