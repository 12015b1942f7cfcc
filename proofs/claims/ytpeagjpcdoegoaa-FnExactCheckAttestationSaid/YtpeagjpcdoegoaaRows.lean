/-
  No cell of these rows narrows 'for every input' (looked for: loops, veiled, ifaces, maps, wideKeys, modest, calm, conditions, laid).
  DERIVED. THE GIVEN ROWS OF THIS SEAT. 10 by the template 'for every input the law returns true; each argument reads behind the call as it read before'; 0 by the template 'total and deterministic' (their statements: YtpeagjpcdoegoaaTotals.lean).
  GIVEN WITH THE SEED: the statements are not yours to turn. If you find one false, say at which input.
  Laid BY PROGRAM, IN A SANDBOX (cutbox-rows.mjs): the forced cells as the released guide's own fill.sh prints them over the translation a05c135332c2dcc1… (all of the seat's roots in one cut). By AI agents, Wed Nov 11 2026. No macro, syntax, notation, axiom, sorry.
-/
import Derived.Test.YtpeagjpcdoegoaaChecked
import GoSem.Claim
import GoSem.ClaimJoined
import GoSem.ClaimMapViews
import Derived.JoinedTies
import Derived.KernelRfl
namespace Go.Proofs.Ytpeagjpcdoegoaa
/- THE CELL 'sum', in the pinned program and in every row, IS THE sha256 OF THE DUMP (.gsa) THAT YtpeagjpcdoegoaaProg.lean LOADS. Nothing in Lean hashes anything: it is a label: what it is worth is what the hold of that sum in a sandbox is worth. -/
noncomputable def Try.pinned : Pinned := { name := "ytpeagjpcdoegoaa", sum := "a05c135332c2dcc1bd67a9dd6773705ecf39597e258da7ed77c1b7ea0e67c828", checked := Try.checked }
namespace Rows
def none {H : Type} : Left H := { results := [], args := [] }

/-- 'laws.FnAttestations': WHATEVER THE INPUT: true; the input reads as it did. -/
def fnAttestationsSpec : ChangeSpec := { name := "fnAttestations", fn := fun _ => fun
  | [d] => { results := [.lit (.bool true)], args := [d] }
  | _ => none }
def fnAttestationsRow : OpenClaim := { program := "ytpeagjpcdoegoaa", sum := "a05c135332c2dcc1bd67a9dd6773705ecf39597e258da7ed77c1b7ea0e67c828", func := "loop.example/g00581/laws.FnAttestations", spec := "fnAttestations", inPlace := ["slices.overlaps[int]"], apart := false }
def FnAttestationsSaid : Prop := fnAttestationsRow.holds Try.pinned (OpenSpec.ofChange fnAttestationsSpec)

/-- ITS FALSE NEIGHBOUR: 'it returns false'. Refute it at one input. -/
def fnAttestationsWrong : ChangeSpec := { name := "fnAttestations", fn := fun _ => fun
  | [d] => { results := [.lit (.bool false)], args := [d] }
  | _ => none }
def FnAttestationsWrongFalsely : Prop := fnAttestationsRow.holds Try.pinned (OpenSpec.ofChange fnAttestationsWrong)

/-- 'laws.FnExactVendorPrivate': WHATEVER THE INPUT: true; the input reads as it did. -/
def fnExactVendorPrivateSpec : ChangeSpec := { name := "fnExactVendorPrivate", fn := fun _ => fun
  | [d1, d2] => { results := [.lit (.bool true)], args := [d1, d2] }
  | _ => none }
def fnExactVendorPrivateRow : OpenClaim := { program := "ytpeagjpcdoegoaa", sum := "a05c135332c2dcc1bd67a9dd6773705ecf39597e258da7ed77c1b7ea0e67c828", func := "loop.example/g00581/laws.FnExactVendorPrivate", spec := "fnExactVendorPrivate", apart := false }
def FnExactVendorPrivateSaid : Prop := fnExactVendorPrivateRow.holds Try.pinned (OpenSpec.ofChange fnExactVendorPrivateSpec)

/-- ITS FALSE NEIGHBOUR: 'it returns false'. Refute it at one input. -/
def fnExactVendorPrivateWrong : ChangeSpec := { name := "fnExactVendorPrivate", fn := fun _ => fun
  | [d1, d2] => { results := [.lit (.bool false)], args := [d1, d2] }
  | _ => none }
def FnExactVendorPrivateWrongFalsely : Prop := fnExactVendorPrivateRow.holds Try.pinned (OpenSpec.ofChange fnExactVendorPrivateWrong)

/-- 'laws.FnExactAttest': WHATEVER THE INPUT: true; the input reads as it did. -/
def fnExactAttestSpec : ChangeSpec := { name := "fnExactAttest", fn := fun _ => fun
  | [d1, d2] => { results := [.lit (.bool true)], args := [d1, d2] }
  | _ => none }
def fnExactAttestRow : OpenClaim := { program := "ytpeagjpcdoegoaa", sum := "a05c135332c2dcc1bd67a9dd6773705ecf39597e258da7ed77c1b7ea0e67c828", func := "loop.example/g00581/laws.FnExactAttest", spec := "fnExactAttest", apart := false }
def FnExactAttestSaid : Prop := fnExactAttestRow.holds Try.pinned (OpenSpec.ofChange fnExactAttestSpec)

/-- ITS FALSE NEIGHBOUR: 'it returns false'. Refute it at one input. -/
def fnExactAttestWrong : ChangeSpec := { name := "fnExactAttest", fn := fun _ => fun
  | [d1, d2] => { results := [.lit (.bool false)], args := [d1, d2] }
  | _ => none }
def FnExactAttestWrongFalsely : Prop := fnExactAttestRow.holds Try.pinned (OpenSpec.ofChange fnExactAttestWrong)

/-- 'laws.FnExactIsValidList': WHATEVER THE INPUT: true; the input reads as it did. -/
def fnExactIsValidListSpec : ChangeSpec := { name := "fnExactIsValidList", fn := fun _ => fun
  | [d] => { results := [.lit (.bool true)], args := [d] }
  | _ => none }
def fnExactIsValidListRow : OpenClaim := { program := "ytpeagjpcdoegoaa", sum := "a05c135332c2dcc1bd67a9dd6773705ecf39597e258da7ed77c1b7ea0e67c828", func := "loop.example/g00581/laws.FnExactIsValidList", spec := "fnExactIsValidList", apart := false }
def FnExactIsValidListSaid : Prop := fnExactIsValidListRow.holds Try.pinned (OpenSpec.ofChange fnExactIsValidListSpec)

/-- ITS FALSE NEIGHBOUR: 'it returns false'. Refute it at one input. -/
def fnExactIsValidListWrong : ChangeSpec := { name := "fnExactIsValidList", fn := fun _ => fun
  | [d] => { results := [.lit (.bool false)], args := [d] }
  | _ => none }
def FnExactIsValidListWrongFalsely : Prop := fnExactIsValidListRow.holds Try.pinned (OpenSpec.ofChange fnExactIsValidListWrong)

/-- 'laws.FnExactCheckAttestation': WHATEVER THE INPUT: true; the input reads as it did. -/
def fnExactCheckAttestationSpec : ChangeSpec := { name := "fnExactCheckAttestation", fn := fun _ => fun
  | [d1, d2] => { results := [.lit (.bool true)], args := [d1, d2] }
  | _ => none }
def fnExactCheckAttestationRow : OpenClaim := { program := "ytpeagjpcdoegoaa", sum := "a05c135332c2dcc1bd67a9dd6773705ecf39597e258da7ed77c1b7ea0e67c828", func := "loop.example/g00581/laws.FnExactCheckAttestation", spec := "fnExactCheckAttestation", apart := false }
def FnExactCheckAttestationSaid : Prop := fnExactCheckAttestationRow.holds Try.pinned (OpenSpec.ofChange fnExactCheckAttestationSpec)

/-- ITS FALSE NEIGHBOUR: 'it returns false'. Refute it at one input. -/
def fnExactCheckAttestationWrong : ChangeSpec := { name := "fnExactCheckAttestation", fn := fun _ => fun
  | [d1, d2] => { results := [.lit (.bool false)], args := [d1, d2] }
  | _ => none }
def FnExactCheckAttestationWrongFalsely : Prop := fnExactCheckAttestationRow.holds Try.pinned (OpenSpec.ofChange fnExactCheckAttestationWrong)

/-- 'laws.FnExactRevokeDevice': WHATEVER THE INPUT: true; the input reads as it did. -/
def fnExactRevokeDeviceSpec : ChangeSpec := { name := "fnExactRevokeDevice", fn := fun _ => fun
  | [d1, d2, d3] => { results := [.lit (.bool true)], args := [d1, d2, d3] }
  | _ => none }
def fnExactRevokeDeviceRow : OpenClaim := { program := "ytpeagjpcdoegoaa", sum := "a05c135332c2dcc1bd67a9dd6773705ecf39597e258da7ed77c1b7ea0e67c828", func := "loop.example/g00581/laws.FnExactRevokeDevice", spec := "fnExactRevokeDevice", inPlace := ["slices.overlaps[int]"], apart := false }
def FnExactRevokeDeviceSaid : Prop := fnExactRevokeDeviceRow.holds Try.pinned (OpenSpec.ofChange fnExactRevokeDeviceSpec)

/-- ITS FALSE NEIGHBOUR: 'it returns false'. Refute it at one input. -/
def fnExactRevokeDeviceWrong : ChangeSpec := { name := "fnExactRevokeDevice", fn := fun _ => fun
  | [d1, d2, d3] => { results := [.lit (.bool false)], args := [d1, d2, d3] }
  | _ => none }
def FnExactRevokeDeviceWrongFalsely : Prop := fnExactRevokeDeviceRow.holds Try.pinned (OpenSpec.ofChange fnExactRevokeDeviceWrong)

/-- 'laws.FnExactIsRevoked': WHATEVER THE INPUT: true; the input reads as it did. -/
def fnExactIsRevokedSpec : ChangeSpec := { name := "fnExactIsRevoked", fn := fun _ => fun
  | [d1, d2, d3] => { results := [.lit (.bool true)], args := [d1, d2, d3] }
  | _ => none }
def fnExactIsRevokedRow : OpenClaim := { program := "ytpeagjpcdoegoaa", sum := "a05c135332c2dcc1bd67a9dd6773705ecf39597e258da7ed77c1b7ea0e67c828", func := "loop.example/g00581/laws.FnExactIsRevoked", spec := "fnExactIsRevoked", apart := false }
def FnExactIsRevokedSaid : Prop := fnExactIsRevokedRow.holds Try.pinned (OpenSpec.ofChange fnExactIsRevokedSpec)

/-- ITS FALSE NEIGHBOUR: 'it returns false'. Refute it at one input. -/
def fnExactIsRevokedWrong : ChangeSpec := { name := "fnExactIsRevoked", fn := fun _ => fun
  | [d1, d2, d3] => { results := [.lit (.bool false)], args := [d1, d2, d3] }
  | _ => none }
def FnExactIsRevokedWrongFalsely : Prop := fnExactIsRevokedRow.holds Try.pinned (OpenSpec.ofChange fnExactIsRevokedWrong)

/-- 'laws.FnKeyStores': WHATEVER THE INPUT: true; the input reads as it did. -/
def fnKeyStoresSpec : ChangeSpec := { name := "fnKeyStores", fn := fun _ => fun
  | [d] => { results := [.lit (.bool true)], args := [d] }
  | _ => none }
def fnKeyStoresRow : OpenClaim := { program := "ytpeagjpcdoegoaa", sum := "a05c135332c2dcc1bd67a9dd6773705ecf39597e258da7ed77c1b7ea0e67c828", func := "loop.example/g00581/laws.FnKeyStores", spec := "fnKeyStores", apart := false }
def FnKeyStoresSaid : Prop := fnKeyStoresRow.holds Try.pinned (OpenSpec.ofChange fnKeyStoresSpec)

/-- ITS FALSE NEIGHBOUR: 'it returns false'. Refute it at one input. -/
def fnKeyStoresWrong : ChangeSpec := { name := "fnKeyStores", fn := fun _ => fun
  | [d] => { results := [.lit (.bool false)], args := [d] }
  | _ => none }
def FnKeyStoresWrongFalsely : Prop := fnKeyStoresRow.holds Try.pinned (OpenSpec.ofChange fnKeyStoresWrong)

/-- 'laws.FnExactIsValidStore': WHATEVER THE INPUT: true; the input reads as it did. -/
def fnExactIsValidStoreSpec : ChangeSpec := { name := "fnExactIsValidStore", fn := fun _ => fun
  | [d] => { results := [.lit (.bool true)], args := [d] }
  | _ => none }
def fnExactIsValidStoreRow : OpenClaim := { program := "ytpeagjpcdoegoaa", sum := "a05c135332c2dcc1bd67a9dd6773705ecf39597e258da7ed77c1b7ea0e67c828", func := "loop.example/g00581/laws.FnExactIsValidStore", spec := "fnExactIsValidStore", apart := false }
def FnExactIsValidStoreSaid : Prop := fnExactIsValidStoreRow.holds Try.pinned (OpenSpec.ofChange fnExactIsValidStoreSpec)

/-- ITS FALSE NEIGHBOUR: 'it returns false'. Refute it at one input. -/
def fnExactIsValidStoreWrong : ChangeSpec := { name := "fnExactIsValidStore", fn := fun _ => fun
  | [d] => { results := [.lit (.bool false)], args := [d] }
  | _ => none }
def FnExactIsValidStoreWrongFalsely : Prop := fnExactIsValidStoreRow.holds Try.pinned (OpenSpec.ofChange fnExactIsValidStoreWrong)

/-- 'laws.FnExactSignWithStore': WHATEVER THE INPUT: true; the input reads as it did. -/
def fnExactSignWithStoreSpec : ChangeSpec := { name := "fnExactSignWithStore", fn := fun _ => fun
  | [d1, d2, d3, d4] => { results := [.lit (.bool true)], args := [d1, d2, d3, d4] }
  | _ => none }
def fnExactSignWithStoreRow : OpenClaim := { program := "ytpeagjpcdoegoaa", sum := "a05c135332c2dcc1bd67a9dd6773705ecf39597e258da7ed77c1b7ea0e67c828", func := "loop.example/g00581/laws.FnExactSignWithStore", spec := "fnExactSignWithStore", apart := false }
def FnExactSignWithStoreSaid : Prop := fnExactSignWithStoreRow.holds Try.pinned (OpenSpec.ofChange fnExactSignWithStoreSpec)

/-- ITS FALSE NEIGHBOUR: 'it returns false'. Refute it at one input. -/
def fnExactSignWithStoreWrong : ChangeSpec := { name := "fnExactSignWithStore", fn := fun _ => fun
  | [d1, d2, d3, d4] => { results := [.lit (.bool false)], args := [d1, d2, d3, d4] }
  | _ => none }
def FnExactSignWithStoreWrongFalsely : Prop := fnExactSignWithStoreRow.holds Try.pinned (OpenSpec.ofChange fnExactSignWithStoreWrong)

/- THE SECOND FORM. 'bulk': how many values and letters a reading holds, each counted each time it is reached (what is shared counts as often as it is met; a slice's spare places count too). A statement '..UptoSaid' is the law's where the arguments, and the package variables that the reading takes, are together of bulk at most 1048576: NARROWER than '..Said'. Prove '..Said' where nothing that the law and all that it calls make is longer than what came in: it says more and counts as full. Else prove '..UptoSaid'. A law counts once. -/
mutual
def uptoBulk {H : Type} : DataW H → Nat
  | .lit (.string bytes) => bytes.length + 1
  | .lit _ => 1
  | .nil => 1
  | .ptr d => uptoBulk d + 1
  | .slice elems spare => uptoBulkAll elems + uptoBulkAll spare + 1
  | .agg parts => uptoBulkAll parts + 1
  | .iface _ d => uptoBulk d + 1
  | .map entries => uptoBulkEntries entries + 1
  | .held _ => 1
def uptoBulkAll {H : Type} : List (DataW H) → Nat
  | [] => 0
  | d :: r => uptoBulk d + uptoBulkAll r
def uptoBulkEntries {H : Type} : List (Lit × DataW H) → Nat
  | [] => 0
  | x :: r => uptoBulkEntry x + uptoBulkEntries r
def uptoBulkEntry {H : Type} : Lit × DataW H → Nat
  | (.string bytes, d) => bytes.length + uptoBulk d + 1
  | (_, d) => uptoBulk d + 1
 end
def uptoSmall : (H : Type) → List (DataW H) → Bool := fun _ ds => decide (uptoBulkAll ds ≤ 1048576)
def OpenSpec.upto (s : _root_.Go.ChangeSpec) : _root_.Go.OpenSpec := { _root_.Go.OpenSpec.ofChange s with cond := some uptoSmall }

/-- 'laws.FnAttestations', WHERE WHAT IT READS IS OF BULK AT MOST 1048576: true; the input reads as it did. -/
def fnAttestationsUptoRow : OpenClaim := { program := "ytpeagjpcdoegoaa", sum := "a05c135332c2dcc1bd67a9dd6773705ecf39597e258da7ed77c1b7ea0e67c828", func := "loop.example/g00581/laws.FnAttestations", spec := "fnAttestations", inPlace := ["slices.overlaps[int]"], apart := false, narrowed := true }
def FnAttestationsUptoSaid : Prop := fnAttestationsUptoRow.holds Try.pinned (OpenSpec.upto fnAttestationsSpec)

/-- 'laws.FnExactVendorPrivate', WHERE WHAT IT READS IS OF BULK AT MOST 1048576: true; the input reads as it did. -/
def fnExactVendorPrivateUptoRow : OpenClaim := { program := "ytpeagjpcdoegoaa", sum := "a05c135332c2dcc1bd67a9dd6773705ecf39597e258da7ed77c1b7ea0e67c828", func := "loop.example/g00581/laws.FnExactVendorPrivate", spec := "fnExactVendorPrivate", apart := false, narrowed := true }
def FnExactVendorPrivateUptoSaid : Prop := fnExactVendorPrivateUptoRow.holds Try.pinned (OpenSpec.upto fnExactVendorPrivateSpec)

/-- 'laws.FnExactAttest', WHERE WHAT IT READS IS OF BULK AT MOST 1048576: true; the input reads as it did. -/
def fnExactAttestUptoRow : OpenClaim := { program := "ytpeagjpcdoegoaa", sum := "a05c135332c2dcc1bd67a9dd6773705ecf39597e258da7ed77c1b7ea0e67c828", func := "loop.example/g00581/laws.FnExactAttest", spec := "fnExactAttest", apart := false, narrowed := true }
def FnExactAttestUptoSaid : Prop := fnExactAttestUptoRow.holds Try.pinned (OpenSpec.upto fnExactAttestSpec)

/-- 'laws.FnExactIsValidList', WHERE WHAT IT READS IS OF BULK AT MOST 1048576: true; the input reads as it did. -/
def fnExactIsValidListUptoRow : OpenClaim := { program := "ytpeagjpcdoegoaa", sum := "a05c135332c2dcc1bd67a9dd6773705ecf39597e258da7ed77c1b7ea0e67c828", func := "loop.example/g00581/laws.FnExactIsValidList", spec := "fnExactIsValidList", apart := false, narrowed := true }
def FnExactIsValidListUptoSaid : Prop := fnExactIsValidListUptoRow.holds Try.pinned (OpenSpec.upto fnExactIsValidListSpec)

/-- 'laws.FnExactCheckAttestation', WHERE WHAT IT READS IS OF BULK AT MOST 1048576: true; the input reads as it did. -/
def fnExactCheckAttestationUptoRow : OpenClaim := { program := "ytpeagjpcdoegoaa", sum := "a05c135332c2dcc1bd67a9dd6773705ecf39597e258da7ed77c1b7ea0e67c828", func := "loop.example/g00581/laws.FnExactCheckAttestation", spec := "fnExactCheckAttestation", apart := false, narrowed := true }
def FnExactCheckAttestationUptoSaid : Prop := fnExactCheckAttestationUptoRow.holds Try.pinned (OpenSpec.upto fnExactCheckAttestationSpec)

/-- 'laws.FnExactRevokeDevice', WHERE WHAT IT READS IS OF BULK AT MOST 1048576: true; the input reads as it did. -/
def fnExactRevokeDeviceUptoRow : OpenClaim := { program := "ytpeagjpcdoegoaa", sum := "a05c135332c2dcc1bd67a9dd6773705ecf39597e258da7ed77c1b7ea0e67c828", func := "loop.example/g00581/laws.FnExactRevokeDevice", spec := "fnExactRevokeDevice", inPlace := ["slices.overlaps[int]"], apart := false, narrowed := true }
def FnExactRevokeDeviceUptoSaid : Prop := fnExactRevokeDeviceUptoRow.holds Try.pinned (OpenSpec.upto fnExactRevokeDeviceSpec)

/-- 'laws.FnExactIsRevoked', WHERE WHAT IT READS IS OF BULK AT MOST 1048576: true; the input reads as it did. -/
def fnExactIsRevokedUptoRow : OpenClaim := { program := "ytpeagjpcdoegoaa", sum := "a05c135332c2dcc1bd67a9dd6773705ecf39597e258da7ed77c1b7ea0e67c828", func := "loop.example/g00581/laws.FnExactIsRevoked", spec := "fnExactIsRevoked", apart := false, narrowed := true }
def FnExactIsRevokedUptoSaid : Prop := fnExactIsRevokedUptoRow.holds Try.pinned (OpenSpec.upto fnExactIsRevokedSpec)

/-- 'laws.FnKeyStores', WHERE WHAT IT READS IS OF BULK AT MOST 1048576: true; the input reads as it did. -/
def fnKeyStoresUptoRow : OpenClaim := { program := "ytpeagjpcdoegoaa", sum := "a05c135332c2dcc1bd67a9dd6773705ecf39597e258da7ed77c1b7ea0e67c828", func := "loop.example/g00581/laws.FnKeyStores", spec := "fnKeyStores", apart := false, narrowed := true }
def FnKeyStoresUptoSaid : Prop := fnKeyStoresUptoRow.holds Try.pinned (OpenSpec.upto fnKeyStoresSpec)

/-- 'laws.FnExactIsValidStore', WHERE WHAT IT READS IS OF BULK AT MOST 1048576: true; the input reads as it did. -/
def fnExactIsValidStoreUptoRow : OpenClaim := { program := "ytpeagjpcdoegoaa", sum := "a05c135332c2dcc1bd67a9dd6773705ecf39597e258da7ed77c1b7ea0e67c828", func := "loop.example/g00581/laws.FnExactIsValidStore", spec := "fnExactIsValidStore", apart := false, narrowed := true }
def FnExactIsValidStoreUptoSaid : Prop := fnExactIsValidStoreUptoRow.holds Try.pinned (OpenSpec.upto fnExactIsValidStoreSpec)

/-- 'laws.FnExactSignWithStore', WHERE WHAT IT READS IS OF BULK AT MOST 1048576: true; the input reads as it did. -/
def fnExactSignWithStoreUptoRow : OpenClaim := { program := "ytpeagjpcdoegoaa", sum := "a05c135332c2dcc1bd67a9dd6773705ecf39597e258da7ed77c1b7ea0e67c828", func := "loop.example/g00581/laws.FnExactSignWithStore", spec := "fnExactSignWithStore", apart := false, narrowed := true }
def FnExactSignWithStoreUptoSaid : Prop := fnExactSignWithStoreUptoRow.holds Try.pinned (OpenSpec.upto fnExactSignWithStoreSpec)

end Rows
end Go.Proofs.Ytpeagjpcdoegoaa
