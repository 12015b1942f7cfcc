/-
  No cell of these rows narrows 'for every input' (looked for: loops, veiled, ifaces, maps, wideKeys, modest, calm, conditions, laid).
  DERIVED. THE GIVEN ROWS OF THIS SEAT. 8 by the template 'for every input the law returns true; each argument reads behind the call as it read before'; 0 by the template 'total and deterministic' (their statements: YtjphadcamhjgeaaTotals.lean).
  GIVEN WITH THE SEED: the statements are not yours to turn. If you find one false, say at which input.
  Laid BY PROGRAM, IN A SANDBOX (cutbox-rows.mjs): the forced cells as the released guide's own fill.sh prints them over the translation 7ea2024aeff4f071… (all of the seat's roots in one cut). By AI agents, Wed Nov 11 2026. No macro, syntax, notation, axiom, sorry.
-/
import Derived.Test.YtjphadcamhjgeaaChecked
import GoSem.Claim
import GoSem.ClaimJoined
import GoSem.ClaimMapViews
import Derived.JoinedTies
import Derived.KernelRfl
namespace Go.Proofs.Ytjphadcamhjgeaa
/- THE CELL 'sum', in the pinned program and in every row, IS THE sha256 OF THE DUMP (.gsa) THAT YtjphadcamhjgeaaProg.lean LOADS. Nothing in Lean hashes anything: it is a label: what it is worth is what the hold of that sum in a sandbox is worth. -/
noncomputable def Try.pinned : Pinned := { name := "ytjphadcamhjgeaa", sum := "7ea2024aeff4f07192f210604cd53eef0c3a0e8eb787e36daac381dc383549cb", checked := Try.checked }
namespace Rows
def none {H : Type} : Left H := { results := [], args := [] }

/-- 'laws.FnKeyStores': WHATEVER THE INPUT: true; the input reads as it did. -/
def fnKeyStoresSpec : ChangeSpec := { name := "fnKeyStores", fn := fun _ => fun
  | [d] => { results := [.lit (.bool true)], args := [d] }
  | _ => none }
def fnKeyStoresRow : OpenClaim := { program := "ytjphadcamhjgeaa", sum := "7ea2024aeff4f07192f210604cd53eef0c3a0e8eb787e36daac381dc383549cb", func := "loop.example/g00581/laws.FnKeyStores", spec := "fnKeyStores", apart := false }
def FnKeyStoresSaid : Prop := fnKeyStoresRow.holds Try.pinned (OpenSpec.ofChange fnKeyStoresSpec)

/-- ITS FALSE NEIGHBOUR: 'it returns false'. Refute it at one input. -/
def fnKeyStoresWrong : ChangeSpec := { name := "fnKeyStores", fn := fun _ => fun
  | [d] => { results := [.lit (.bool false)], args := [d] }
  | _ => none }
def FnKeyStoresWrongFalsely : Prop := fnKeyStoresRow.holds Try.pinned (OpenSpec.ofChange fnKeyStoresWrong)

/-- 'laws.FnExactIsValidStore': WHATEVER THE INPUT: true; the input reads as it did. -/
def fnExactIsValidStoreSpec : ChangeSpec := { name := "fnExactIsValidStore", fn := fun _ => fun
  | [d] => { results := [.lit (.bool true)], args := [d] }
  | _ => none }
def fnExactIsValidStoreRow : OpenClaim := { program := "ytjphadcamhjgeaa", sum := "7ea2024aeff4f07192f210604cd53eef0c3a0e8eb787e36daac381dc383549cb", func := "loop.example/g00581/laws.FnExactIsValidStore", spec := "fnExactIsValidStore", apart := false }
def FnExactIsValidStoreSaid : Prop := fnExactIsValidStoreRow.holds Try.pinned (OpenSpec.ofChange fnExactIsValidStoreSpec)

/-- ITS FALSE NEIGHBOUR: 'it returns false'. Refute it at one input. -/
def fnExactIsValidStoreWrong : ChangeSpec := { name := "fnExactIsValidStore", fn := fun _ => fun
  | [d] => { results := [.lit (.bool false)], args := [d] }
  | _ => none }
def FnExactIsValidStoreWrongFalsely : Prop := fnExactIsValidStoreRow.holds Try.pinned (OpenSpec.ofChange fnExactIsValidStoreWrong)

/-- 'laws.FnExactSitePrivate': WHATEVER THE INPUT: true; the input reads as it did. -/
def fnExactSitePrivateSpec : ChangeSpec := { name := "fnExactSitePrivate", fn := fun _ => fun
  | [d1, d2, d3] => { results := [.lit (.bool true)], args := [d1, d2, d3] }
  | _ => none }
def fnExactSitePrivateRow : OpenClaim := { program := "ytjphadcamhjgeaa", sum := "7ea2024aeff4f07192f210604cd53eef0c3a0e8eb787e36daac381dc383549cb", func := "loop.example/g00581/laws.FnExactSitePrivate", spec := "fnExactSitePrivate", apart := false }
def FnExactSitePrivateSaid : Prop := fnExactSitePrivateRow.holds Try.pinned (OpenSpec.ofChange fnExactSitePrivateSpec)

/-- ITS FALSE NEIGHBOUR: 'it returns false'. Refute it at one input. -/
def fnExactSitePrivateWrong : ChangeSpec := { name := "fnExactSitePrivate", fn := fun _ => fun
  | [d1, d2, d3] => { results := [.lit (.bool false)], args := [d1, d2, d3] }
  | _ => none }
def FnExactSitePrivateWrongFalsely : Prop := fnExactSitePrivateRow.holds Try.pinned (OpenSpec.ofChange fnExactSitePrivateWrong)

/-- 'laws.FnExactSitePublic': WHATEVER THE INPUT: true; the input reads as it did. -/
def fnExactSitePublicSpec : ChangeSpec := { name := "fnExactSitePublic", fn := fun _ => fun
  | [d1, d2, d3] => { results := [.lit (.bool true)], args := [d1, d2, d3] }
  | _ => none }
def fnExactSitePublicRow : OpenClaim := { program := "ytjphadcamhjgeaa", sum := "7ea2024aeff4f07192f210604cd53eef0c3a0e8eb787e36daac381dc383549cb", func := "loop.example/g00581/laws.FnExactSitePublic", spec := "fnExactSitePublic", apart := false }
def FnExactSitePublicSaid : Prop := fnExactSitePublicRow.holds Try.pinned (OpenSpec.ofChange fnExactSitePublicSpec)

/-- ITS FALSE NEIGHBOUR: 'it returns false'. Refute it at one input. -/
def fnExactSitePublicWrong : ChangeSpec := { name := "fnExactSitePublic", fn := fun _ => fun
  | [d1, d2, d3] => { results := [.lit (.bool false)], args := [d1, d2, d3] }
  | _ => none }
def FnExactSitePublicWrongFalsely : Prop := fnExactSitePublicRow.holds Try.pinned (OpenSpec.ofChange fnExactSitePublicWrong)

/-- 'laws.FnExactSignWithStore': WHATEVER THE INPUT: true; the input reads as it did. -/
def fnExactSignWithStoreSpec : ChangeSpec := { name := "fnExactSignWithStore", fn := fun _ => fun
  | [d1, d2, d3, d4] => { results := [.lit (.bool true)], args := [d1, d2, d3, d4] }
  | _ => none }
def fnExactSignWithStoreRow : OpenClaim := { program := "ytjphadcamhjgeaa", sum := "7ea2024aeff4f07192f210604cd53eef0c3a0e8eb787e36daac381dc383549cb", func := "loop.example/g00581/laws.FnExactSignWithStore", spec := "fnExactSignWithStore", apart := false }
def FnExactSignWithStoreSaid : Prop := fnExactSignWithStoreRow.holds Try.pinned (OpenSpec.ofChange fnExactSignWithStoreSpec)

/-- ITS FALSE NEIGHBOUR: 'it returns false'. Refute it at one input. -/
def fnExactSignWithStoreWrong : ChangeSpec := { name := "fnExactSignWithStore", fn := fun _ => fun
  | [d1, d2, d3, d4] => { results := [.lit (.bool false)], args := [d1, d2, d3, d4] }
  | _ => none }
def FnExactSignWithStoreWrongFalsely : Prop := fnExactSignWithStoreRow.holds Try.pinned (OpenSpec.ofChange fnExactSignWithStoreWrong)

/-- 'laws.FnExactDevicePublic': WHATEVER THE INPUT: true; the input reads as it did. -/
def fnExactDevicePublicSpec : ChangeSpec := { name := "fnExactDevicePublic", fn := fun _ => fun
  | [d] => { results := [.lit (.bool true)], args := [d] }
  | _ => none }
def fnExactDevicePublicRow : OpenClaim := { program := "ytjphadcamhjgeaa", sum := "7ea2024aeff4f07192f210604cd53eef0c3a0e8eb787e36daac381dc383549cb", func := "loop.example/g00581/laws.FnExactDevicePublic", spec := "fnExactDevicePublic", apart := false }
def FnExactDevicePublicSaid : Prop := fnExactDevicePublicRow.holds Try.pinned (OpenSpec.ofChange fnExactDevicePublicSpec)

/-- ITS FALSE NEIGHBOUR: 'it returns false'. Refute it at one input. -/
def fnExactDevicePublicWrong : ChangeSpec := { name := "fnExactDevicePublic", fn := fun _ => fun
  | [d] => { results := [.lit (.bool false)], args := [d] }
  | _ => none }
def FnExactDevicePublicWrongFalsely : Prop := fnExactDevicePublicRow.holds Try.pinned (OpenSpec.ofChange fnExactDevicePublicWrong)

/-- 'laws.FnExactSignAsDevice': WHATEVER THE INPUT: true; the input reads as it did. -/
def fnExactSignAsDeviceSpec : ChangeSpec := { name := "fnExactSignAsDevice", fn := fun _ => fun
  | [d1, d2] => { results := [.lit (.bool true)], args := [d1, d2] }
  | _ => none }
def fnExactSignAsDeviceRow : OpenClaim := { program := "ytjphadcamhjgeaa", sum := "7ea2024aeff4f07192f210604cd53eef0c3a0e8eb787e36daac381dc383549cb", func := "loop.example/g00581/laws.FnExactSignAsDevice", spec := "fnExactSignAsDevice", apart := false }
def FnExactSignAsDeviceSaid : Prop := fnExactSignAsDeviceRow.holds Try.pinned (OpenSpec.ofChange fnExactSignAsDeviceSpec)

/-- ITS FALSE NEIGHBOUR: 'it returns false'. Refute it at one input. -/
def fnExactSignAsDeviceWrong : ChangeSpec := { name := "fnExactSignAsDevice", fn := fun _ => fun
  | [d1, d2] => { results := [.lit (.bool false)], args := [d1, d2] }
  | _ => none }
def FnExactSignAsDeviceWrongFalsely : Prop := fnExactSignAsDeviceRow.holds Try.pinned (OpenSpec.ofChange fnExactSignAsDeviceWrong)

/-- 'laws.FnExactCloneStore': WHATEVER THE INPUT: true; the input reads as it did. -/
def fnExactCloneStoreSpec : ChangeSpec := { name := "fnExactCloneStore", fn := fun _ => fun
  | [d] => { results := [.lit (.bool true)], args := [d] }
  | _ => none }
def fnExactCloneStoreRow : OpenClaim := { program := "ytjphadcamhjgeaa", sum := "7ea2024aeff4f07192f210604cd53eef0c3a0e8eb787e36daac381dc383549cb", func := "loop.example/g00581/laws.FnExactCloneStore", spec := "fnExactCloneStore", apart := false }
def FnExactCloneStoreSaid : Prop := fnExactCloneStoreRow.holds Try.pinned (OpenSpec.ofChange fnExactCloneStoreSpec)

/-- ITS FALSE NEIGHBOUR: 'it returns false'. Refute it at one input. -/
def fnExactCloneStoreWrong : ChangeSpec := { name := "fnExactCloneStore", fn := fun _ => fun
  | [d] => { results := [.lit (.bool false)], args := [d] }
  | _ => none }
def FnExactCloneStoreWrongFalsely : Prop := fnExactCloneStoreRow.holds Try.pinned (OpenSpec.ofChange fnExactCloneStoreWrong)

/- THE SECOND FORM. 'bulk': how many values and letters a reading holds, each counted each time it is reached (what is shared counts as often as it is met; a slice's spare places count too). A statement '..UptoSaid' is the law's where the arguments, and the package variables that the reading takes, are together of bulk at most 1048576: NARROWER than '..Said'. Prove '..Said' where nothing that the law and all that it calls make is longer than what came in: it says more and counts as full. Else prove '..UptoSaid'. A law counts once. -/
mutual
def uptoBulk {H : Type} : DataW H → Nat
  | .lit (.string bytes) => bytes.length + 1
  | .lit _ => 1
  | .nil => 1
  | .ptr d => uptoBulk d + 1
  | .slice elems spare => uptoBulkAll elems + uptoBulkAll spare + 1
  | .agg parts => uptoBulkAll parts + 1
  | .iface _ d => uptoBulk d + 1
  | .map entries => uptoBulkEntries entries + 1
  | .held _ => 1
def uptoBulkAll {H : Type} : List (DataW H) → Nat
  | [] => 0
  | d :: r => uptoBulk d + uptoBulkAll r
def uptoBulkEntries {H : Type} : List (Lit × DataW H) → Nat
  | [] => 0
  | x :: r => uptoBulkEntry x + uptoBulkEntries r
def uptoBulkEntry {H : Type} : Lit × DataW H → Nat
  | (.string bytes, d) => bytes.length + uptoBulk d + 1
  | (_, d) => uptoBulk d + 1
 end
def uptoSmall : (H : Type) → List (DataW H) → Bool := fun _ ds => decide (uptoBulkAll ds ≤ 1048576)
def OpenSpec.upto (s : _root_.Go.ChangeSpec) : _root_.Go.OpenSpec := { _root_.Go.OpenSpec.ofChange s with cond := some uptoSmall }

/-- 'laws.FnKeyStores', WHERE WHAT IT READS IS OF BULK AT MOST 1048576: true; the input reads as it did. -/
def fnKeyStoresUptoRow : OpenClaim := { program := "ytjphadcamhjgeaa", sum := "7ea2024aeff4f07192f210604cd53eef0c3a0e8eb787e36daac381dc383549cb", func := "loop.example/g00581/laws.FnKeyStores", spec := "fnKeyStores", apart := false, narrowed := true }
def FnKeyStoresUptoSaid : Prop := fnKeyStoresUptoRow.holds Try.pinned (OpenSpec.upto fnKeyStoresSpec)

/-- 'laws.FnExactIsValidStore', WHERE WHAT IT READS IS OF BULK AT MOST 1048576: true; the input reads as it did. -/
def fnExactIsValidStoreUptoRow : OpenClaim := { program := "ytjphadcamhjgeaa", sum := "7ea2024aeff4f07192f210604cd53eef0c3a0e8eb787e36daac381dc383549cb", func := "loop.example/g00581/laws.FnExactIsValidStore", spec := "fnExactIsValidStore", apart := false, narrowed := true }
def FnExactIsValidStoreUptoSaid : Prop := fnExactIsValidStoreUptoRow.holds Try.pinned (OpenSpec.upto fnExactIsValidStoreSpec)

/-- 'laws.FnExactSitePrivate', WHERE WHAT IT READS IS OF BULK AT MOST 1048576: true; the input reads as it did. -/
def fnExactSitePrivateUptoRow : OpenClaim := { program := "ytjphadcamhjgeaa", sum := "7ea2024aeff4f07192f210604cd53eef0c3a0e8eb787e36daac381dc383549cb", func := "loop.example/g00581/laws.FnExactSitePrivate", spec := "fnExactSitePrivate", apart := false, narrowed := true }
def FnExactSitePrivateUptoSaid : Prop := fnExactSitePrivateUptoRow.holds Try.pinned (OpenSpec.upto fnExactSitePrivateSpec)

/-- 'laws.FnExactSitePublic', WHERE WHAT IT READS IS OF BULK AT MOST 1048576: true; the input reads as it did. -/
def fnExactSitePublicUptoRow : OpenClaim := { program := "ytjphadcamhjgeaa", sum := "7ea2024aeff4f07192f210604cd53eef0c3a0e8eb787e36daac381dc383549cb", func := "loop.example/g00581/laws.FnExactSitePublic", spec := "fnExactSitePublic", apart := false, narrowed := true }
def FnExactSitePublicUptoSaid : Prop := fnExactSitePublicUptoRow.holds Try.pinned (OpenSpec.upto fnExactSitePublicSpec)

/-- 'laws.FnExactSignWithStore', WHERE WHAT IT READS IS OF BULK AT MOST 1048576: true; the input reads as it did. -/
def fnExactSignWithStoreUptoRow : OpenClaim := { program := "ytjphadcamhjgeaa", sum := "7ea2024aeff4f07192f210604cd53eef0c3a0e8eb787e36daac381dc383549cb", func := "loop.example/g00581/laws.FnExactSignWithStore", spec := "fnExactSignWithStore", apart := false, narrowed := true }
def FnExactSignWithStoreUptoSaid : Prop := fnExactSignWithStoreUptoRow.holds Try.pinned (OpenSpec.upto fnExactSignWithStoreSpec)

/-- 'laws.FnExactDevicePublic', WHERE WHAT IT READS IS OF BULK AT MOST 1048576: true; the input reads as it did. -/
def fnExactDevicePublicUptoRow : OpenClaim := { program := "ytjphadcamhjgeaa", sum := "7ea2024aeff4f07192f210604cd53eef0c3a0e8eb787e36daac381dc383549cb", func := "loop.example/g00581/laws.FnExactDevicePublic", spec := "fnExactDevicePublic", apart := false, narrowed := true }
def FnExactDevicePublicUptoSaid : Prop := fnExactDevicePublicUptoRow.holds Try.pinned (OpenSpec.upto fnExactDevicePublicSpec)

/-- 'laws.FnExactSignAsDevice', WHERE WHAT IT READS IS OF BULK AT MOST 1048576: true; the input reads as it did. -/
def fnExactSignAsDeviceUptoRow : OpenClaim := { program := "ytjphadcamhjgeaa", sum := "7ea2024aeff4f07192f210604cd53eef0c3a0e8eb787e36daac381dc383549cb", func := "loop.example/g00581/laws.FnExactSignAsDevice", spec := "fnExactSignAsDevice", apart := false, narrowed := true }
def FnExactSignAsDeviceUptoSaid : Prop := fnExactSignAsDeviceUptoRow.holds Try.pinned (OpenSpec.upto fnExactSignAsDeviceSpec)

/-- 'laws.FnExactCloneStore', WHERE WHAT IT READS IS OF BULK AT MOST 1048576: true; the input reads as it did. -/
def fnExactCloneStoreUptoRow : OpenClaim := { program := "ytjphadcamhjgeaa", sum := "7ea2024aeff4f07192f210604cd53eef0c3a0e8eb787e36daac381dc383549cb", func := "loop.example/g00581/laws.FnExactCloneStore", spec := "fnExactCloneStore", apart := false, narrowed := true }
def FnExactCloneStoreUptoSaid : Prop := fnExactCloneStoreUptoRow.holds Try.pinned (OpenSpec.upto fnExactCloneStoreSpec)

end Rows
end Go.Proofs.Ytjphadcamhjgeaa
