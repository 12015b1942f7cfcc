/-
  No cell of these rows narrows 'for every input' (looked for: loops, veiled, ifaces, maps, wideKeys, modest, calm, conditions, laid).
  DERIVED. THE GIVEN ROWS OF THIS SEAT. 10 by the template 'for every input the law returns true; each argument reads behind the call as it read before'; 0 by the template 'total and deterministic' (their statements: YtoedfeacpllkeaaTotals.lean).
  GIVEN WITH THE SEED: the statements are not yours to turn. If you find one false, say at which input.
  Laid BY PROGRAM, IN A SANDBOX (cutbox-rows.mjs): the forced cells as the released guide's own fill.sh prints them over the translation 882abe1f46591f42… (all of the seat's roots in one cut). By AI agents, Wed Nov 11 2026. No macro, syntax, notation, axiom, sorry.
-/
import Derived.Test.YtoedfeacpllkeaaChecked
import GoSem.Claim
import GoSem.ClaimJoined
import GoSem.ClaimMapViews
import Derived.JoinedTies
import Derived.KernelRfl
namespace Go.Proofs.Ytoedfeacpllkeaa
/- THE CELL 'sum', in the pinned program and in every row, IS THE sha256 OF THE DUMP (.gsa) THAT YtoedfeacpllkeaaProg.lean LOADS. Nothing in Lean hashes anything: it is a label: what it is worth is what the hold of that sum in a sandbox is worth. -/
noncomputable def Try.pinned : Pinned := { name := "ytoedfeacpllkeaa", sum := "882abe1f46591f426be1f6f4d2bca4444a1a8ed611933a409024a20aa35b1fcc", checked := Try.checked }
namespace Rows
def none {H : Type} : Left H := { results := [], args := [] }

/-- 'laws.FnBundles': WHATEVER THE INPUT: true; the input reads as it did. -/
def fnBundlesSpec : ChangeSpec := { name := "fnBundles", fn := fun _ => fun
  | [d] => { results := [.lit (.bool true)], args := [d] }
  | _ => none }
def fnBundlesRow : OpenClaim := { program := "ytoedfeacpllkeaa", sum := "882abe1f46591f426be1f6f4d2bca4444a1a8ed611933a409024a20aa35b1fcc", func := "loop.example/g00581/laws.FnBundles", spec := "fnBundles", inPlace := ["slices.overlaps[loop.example/g00581/impl.Entry]"], unfollowed := true, recurses := true, apart := false }
def FnBundlesSaid : Prop := fnBundlesRow.holds Try.pinned (OpenSpec.ofChange fnBundlesSpec)

/-- ITS FALSE NEIGHBOUR: 'it returns false'. Refute it at one input. -/
def fnBundlesWrong : ChangeSpec := { name := "fnBundles", fn := fun _ => fun
  | [d] => { results := [.lit (.bool false)], args := [d] }
  | _ => none }
def FnBundlesWrongFalsely : Prop := fnBundlesRow.holds Try.pinned (OpenSpec.ofChange fnBundlesWrong)

/-- 'laws.FnDeletion': WHATEVER THE INPUT: true; the input reads as it did. -/
def fnDeletionSpec : ChangeSpec := { name := "fnDeletion", fn := fun _ => fun
  | [d] => { results := [.lit (.bool true)], args := [d] }
  | _ => none }
def fnDeletionRow : OpenClaim := { program := "ytoedfeacpllkeaa", sum := "882abe1f46591f426be1f6f4d2bca4444a1a8ed611933a409024a20aa35b1fcc", func := "loop.example/g00581/laws.FnDeletion", spec := "fnDeletion", inPlace := ["slices.overlaps[loop.example/g00581/impl.Entry]"], unfollowed := true, recurses := true, apart := false }
def FnDeletionSaid : Prop := fnDeletionRow.holds Try.pinned (OpenSpec.ofChange fnDeletionSpec)

/-- ITS FALSE NEIGHBOUR: 'it returns false'. Refute it at one input. -/
def fnDeletionWrong : ChangeSpec := { name := "fnDeletion", fn := fun _ => fun
  | [d] => { results := [.lit (.bool false)], args := [d] }
  | _ => none }
def FnDeletionWrongFalsely : Prop := fnDeletionRow.holds Try.pinned (OpenSpec.ofChange fnDeletionWrong)

/-- 'laws.FnExactIsBundle': WHATEVER THE INPUT: true; the input reads as it did. -/
def fnExactIsBundleSpec : ChangeSpec := { name := "fnExactIsBundle", fn := fun _ => fun
  | [d] => { results := [.lit (.bool true)], args := [d] }
  | _ => none }
def fnExactIsBundleRow : OpenClaim := { program := "ytoedfeacpllkeaa", sum := "882abe1f46591f426be1f6f4d2bca4444a1a8ed611933a409024a20aa35b1fcc", func := "loop.example/g00581/laws.FnExactIsBundle", spec := "fnExactIsBundle", unfollowed := true, recurses := true, apart := false }
def FnExactIsBundleSaid : Prop := fnExactIsBundleRow.holds Try.pinned (OpenSpec.ofChange fnExactIsBundleSpec)

/-- ITS FALSE NEIGHBOUR: 'it returns false'. Refute it at one input. -/
def fnExactIsBundleWrong : ChangeSpec := { name := "fnExactIsBundle", fn := fun _ => fun
  | [d] => { results := [.lit (.bool false)], args := [d] }
  | _ => none }
def FnExactIsBundleWrongFalsely : Prop := fnExactIsBundleRow.holds Try.pinned (OpenSpec.ofChange fnExactIsBundleWrong)

/-- 'laws.FnExactFindEntry': WHATEVER THE INPUT: true; the input reads as it did. -/
def fnExactFindEntrySpec : ChangeSpec := { name := "fnExactFindEntry", fn := fun _ => fun
  | [d1, d2, d3] => { results := [.lit (.bool true)], args := [d1, d2, d3] }
  | _ => none }
def fnExactFindEntryRow : OpenClaim := { program := "ytoedfeacpllkeaa", sum := "882abe1f46591f426be1f6f4d2bca4444a1a8ed611933a409024a20aa35b1fcc", func := "loop.example/g00581/laws.FnExactFindEntry", spec := "fnExactFindEntry", unfollowed := true, recurses := true, apart := false }
def FnExactFindEntrySaid : Prop := fnExactFindEntryRow.holds Try.pinned (OpenSpec.ofChange fnExactFindEntrySpec)

/-- ITS FALSE NEIGHBOUR: 'it returns false'. Refute it at one input. -/
def fnExactFindEntryWrong : ChangeSpec := { name := "fnExactFindEntry", fn := fun _ => fun
  | [d1, d2, d3] => { results := [.lit (.bool false)], args := [d1, d2, d3] }
  | _ => none }
def FnExactFindEntryWrongFalsely : Prop := fnExactFindEntryRow.holds Try.pinned (OpenSpec.ofChange fnExactFindEntryWrong)

/-- 'laws.FnExactPutEntry': WHATEVER THE INPUT: true; the input reads as it did. -/
def fnExactPutEntrySpec : ChangeSpec := { name := "fnExactPutEntry", fn := fun _ => fun
  | [d1, d2, d3] => { results := [.lit (.bool true)], args := [d1, d2, d3] }
  | _ => none }
def fnExactPutEntryRow : OpenClaim := { program := "ytoedfeacpllkeaa", sum := "882abe1f46591f426be1f6f4d2bca4444a1a8ed611933a409024a20aa35b1fcc", func := "loop.example/g00581/laws.FnExactPutEntry", spec := "fnExactPutEntry", inPlace := ["slices.overlaps[loop.example/g00581/impl.Entry]"], unfollowed := true, recurses := true, apart := false }
def FnExactPutEntrySaid : Prop := fnExactPutEntryRow.holds Try.pinned (OpenSpec.ofChange fnExactPutEntrySpec)

/-- ITS FALSE NEIGHBOUR: 'it returns false'. Refute it at one input. -/
def fnExactPutEntryWrong : ChangeSpec := { name := "fnExactPutEntry", fn := fun _ => fun
  | [d1, d2, d3] => { results := [.lit (.bool false)], args := [d1, d2, d3] }
  | _ => none }
def FnExactPutEntryWrongFalsely : Prop := fnExactPutEntryRow.holds Try.pinned (OpenSpec.ofChange fnExactPutEntryWrong)

/-- 'laws.FnExactDeleteEntry': WHATEVER THE INPUT: true; the input reads as it did. -/
def fnExactDeleteEntrySpec : ChangeSpec := { name := "fnExactDeleteEntry", fn := fun _ => fun
  | [d1, d2, d3] => { results := [.lit (.bool true)], args := [d1, d2, d3] }
  | _ => none }
def fnExactDeleteEntryRow : OpenClaim := { program := "ytoedfeacpllkeaa", sum := "882abe1f46591f426be1f6f4d2bca4444a1a8ed611933a409024a20aa35b1fcc", func := "loop.example/g00581/laws.FnExactDeleteEntry", spec := "fnExactDeleteEntry", inPlace := ["slices.overlaps[loop.example/g00581/impl.Entry]"], unfollowed := true, recurses := true, apart := false }
def FnExactDeleteEntrySaid : Prop := fnExactDeleteEntryRow.holds Try.pinned (OpenSpec.ofChange fnExactDeleteEntrySpec)

/-- ITS FALSE NEIGHBOUR: 'it returns false'. Refute it at one input. -/
def fnExactDeleteEntryWrong : ChangeSpec := { name := "fnExactDeleteEntry", fn := fun _ => fun
  | [d1, d2, d3] => { results := [.lit (.bool false)], args := [d1, d2, d3] }
  | _ => none }
def FnExactDeleteEntryWrongFalsely : Prop := fnExactDeleteEntryRow.holds Try.pinned (OpenSpec.ofChange fnExactDeleteEntryWrong)

/-- 'laws.FnExactMergeBundles': WHATEVER THE INPUT: true; the input reads as it did. -/
def fnExactMergeBundlesSpec : ChangeSpec := { name := "fnExactMergeBundles", fn := fun _ => fun
  | [d1, d2] => { results := [.lit (.bool true)], args := [d1, d2] }
  | _ => none }
def fnExactMergeBundlesRow : OpenClaim := { program := "ytoedfeacpllkeaa", sum := "882abe1f46591f426be1f6f4d2bca4444a1a8ed611933a409024a20aa35b1fcc", func := "loop.example/g00581/laws.FnExactMergeBundles", spec := "fnExactMergeBundles", inPlace := ["slices.overlaps[loop.example/g00581/impl.Entry]"], unfollowed := true, recurses := true, apart := false }
def FnExactMergeBundlesSaid : Prop := fnExactMergeBundlesRow.holds Try.pinned (OpenSpec.ofChange fnExactMergeBundlesSpec)

/-- ITS FALSE NEIGHBOUR: 'it returns false'. Refute it at one input. -/
def fnExactMergeBundlesWrong : ChangeSpec := { name := "fnExactMergeBundles", fn := fun _ => fun
  | [d1, d2] => { results := [.lit (.bool false)], args := [d1, d2] }
  | _ => none }
def FnExactMergeBundlesWrongFalsely : Prop := fnExactMergeBundlesRow.holds Try.pinned (OpenSpec.ofChange fnExactMergeBundlesWrong)

/-- 'laws.FnExactIncludesBundle': WHATEVER THE INPUT: true; the input reads as it did. -/
def fnExactIncludesBundleSpec : ChangeSpec := { name := "fnExactIncludesBundle", fn := fun _ => fun
  | [d1, d2] => { results := [.lit (.bool true)], args := [d1, d2] }
  | _ => none }
def fnExactIncludesBundleRow : OpenClaim := { program := "ytoedfeacpllkeaa", sum := "882abe1f46591f426be1f6f4d2bca4444a1a8ed611933a409024a20aa35b1fcc", func := "loop.example/g00581/laws.FnExactIncludesBundle", spec := "fnExactIncludesBundle", inPlace := ["slices.overlaps[loop.example/g00581/impl.Entry]"], unfollowed := true, recurses := true, apart := false }
def FnExactIncludesBundleSaid : Prop := fnExactIncludesBundleRow.holds Try.pinned (OpenSpec.ofChange fnExactIncludesBundleSpec)

/-- ITS FALSE NEIGHBOUR: 'it returns false'. Refute it at one input. -/
def fnExactIncludesBundleWrong : ChangeSpec := { name := "fnExactIncludesBundle", fn := fun _ => fun
  | [d1, d2] => { results := [.lit (.bool false)], args := [d1, d2] }
  | _ => none }
def FnExactIncludesBundleWrongFalsely : Prop := fnExactIncludesBundleRow.holds Try.pinned (OpenSpec.ofChange fnExactIncludesBundleWrong)

/-- 'laws.FnExactActiveEntries': WHATEVER THE INPUT: true; the input reads as it did. -/
def fnExactActiveEntriesSpec : ChangeSpec := { name := "fnExactActiveEntries", fn := fun _ => fun
  | [d] => { results := [.lit (.bool true)], args := [d] }
  | _ => none }
def fnExactActiveEntriesRow : OpenClaim := { program := "ytoedfeacpllkeaa", sum := "882abe1f46591f426be1f6f4d2bca4444a1a8ed611933a409024a20aa35b1fcc", func := "loop.example/g00581/laws.FnExactActiveEntries", spec := "fnExactActiveEntries", unfollowed := true, recurses := true, apart := false }
def FnExactActiveEntriesSaid : Prop := fnExactActiveEntriesRow.holds Try.pinned (OpenSpec.ofChange fnExactActiveEntriesSpec)

/-- ITS FALSE NEIGHBOUR: 'it returns false'. Refute it at one input. -/
def fnExactActiveEntriesWrong : ChangeSpec := { name := "fnExactActiveEntries", fn := fun _ => fun
  | [d] => { results := [.lit (.bool false)], args := [d] }
  | _ => none }
def FnExactActiveEntriesWrongFalsely : Prop := fnExactActiveEntriesRow.holds Try.pinned (OpenSpec.ofChange fnExactActiveEntriesWrong)

/-- 'laws.FnExactEqualBundles': WHATEVER THE INPUT: true; the input reads as it did. -/
def fnExactEqualBundlesSpec : ChangeSpec := { name := "fnExactEqualBundles", fn := fun _ => fun
  | [d1, d2] => { results := [.lit (.bool true)], args := [d1, d2] }
  | _ => none }
def fnExactEqualBundlesRow : OpenClaim := { program := "ytoedfeacpllkeaa", sum := "882abe1f46591f426be1f6f4d2bca4444a1a8ed611933a409024a20aa35b1fcc", func := "loop.example/g00581/laws.FnExactEqualBundles", spec := "fnExactEqualBundles", apart := false }
def FnExactEqualBundlesSaid : Prop := fnExactEqualBundlesRow.holds Try.pinned (OpenSpec.ofChange fnExactEqualBundlesSpec)

/-- ITS FALSE NEIGHBOUR: 'it returns false'. Refute it at one input. -/
def fnExactEqualBundlesWrong : ChangeSpec := { name := "fnExactEqualBundles", fn := fun _ => fun
  | [d1, d2] => { results := [.lit (.bool false)], args := [d1, d2] }
  | _ => none }
def FnExactEqualBundlesWrongFalsely : Prop := fnExactEqualBundlesRow.holds Try.pinned (OpenSpec.ofChange fnExactEqualBundlesWrong)

/- THE SECOND FORM. 'bulk': how many values and letters a reading holds, each counted each time it is reached (what is shared counts as often as it is met; a slice's spare places count too). A statement '..UptoSaid' is the law's where the arguments, and the package variables that the reading takes, are together of bulk at most 1048576: NARROWER than '..Said'. Prove '..Said' where nothing that the law and all that it calls make is longer than what came in: it says more and counts as full. Else prove '..UptoSaid'. A law counts once. -/
mutual
def uptoBulk {H : Type} : DataW H → Nat
  | .lit (.string bytes) => bytes.length + 1
  | .lit _ => 1
  | .nil => 1
  | .ptr d => uptoBulk d + 1
  | .slice elems spare => uptoBulkAll elems + uptoBulkAll spare + 1
  | .agg parts => uptoBulkAll parts + 1
  | .iface _ d => uptoBulk d + 1
  | .map entries => uptoBulkEntries entries + 1
  | .held _ => 1
def uptoBulkAll {H : Type} : List (DataW H) → Nat
  | [] => 0
  | d :: r => uptoBulk d + uptoBulkAll r
def uptoBulkEntries {H : Type} : List (Lit × DataW H) → Nat
  | [] => 0
  | x :: r => uptoBulkEntry x + uptoBulkEntries r
def uptoBulkEntry {H : Type} : Lit × DataW H → Nat
  | (.string bytes, d) => bytes.length + uptoBulk d + 1
  | (_, d) => uptoBulk d + 1
 end
def uptoSmall : (H : Type) → List (DataW H) → Bool := fun _ ds => decide (uptoBulkAll ds ≤ 1048576)
def OpenSpec.upto (s : _root_.Go.ChangeSpec) : _root_.Go.OpenSpec := { _root_.Go.OpenSpec.ofChange s with cond := some uptoSmall }

/-- 'laws.FnBundles', WHERE WHAT IT READS IS OF BULK AT MOST 1048576: true; the input reads as it did. -/
def fnBundlesUptoRow : OpenClaim := { program := "ytoedfeacpllkeaa", sum := "882abe1f46591f426be1f6f4d2bca4444a1a8ed611933a409024a20aa35b1fcc", func := "loop.example/g00581/laws.FnBundles", spec := "fnBundles", inPlace := ["slices.overlaps[loop.example/g00581/impl.Entry]"], unfollowed := true, recurses := true, apart := false, narrowed := true }
def FnBundlesUptoSaid : Prop := fnBundlesUptoRow.holds Try.pinned (OpenSpec.upto fnBundlesSpec)

/-- 'laws.FnDeletion', WHERE WHAT IT READS IS OF BULK AT MOST 1048576: true; the input reads as it did. -/
def fnDeletionUptoRow : OpenClaim := { program := "ytoedfeacpllkeaa", sum := "882abe1f46591f426be1f6f4d2bca4444a1a8ed611933a409024a20aa35b1fcc", func := "loop.example/g00581/laws.FnDeletion", spec := "fnDeletion", inPlace := ["slices.overlaps[loop.example/g00581/impl.Entry]"], unfollowed := true, recurses := true, apart := false, narrowed := true }
def FnDeletionUptoSaid : Prop := fnDeletionUptoRow.holds Try.pinned (OpenSpec.upto fnDeletionSpec)

/-- 'laws.FnExactIsBundle', WHERE WHAT IT READS IS OF BULK AT MOST 1048576: true; the input reads as it did. -/
def fnExactIsBundleUptoRow : OpenClaim := { program := "ytoedfeacpllkeaa", sum := "882abe1f46591f426be1f6f4d2bca4444a1a8ed611933a409024a20aa35b1fcc", func := "loop.example/g00581/laws.FnExactIsBundle", spec := "fnExactIsBundle", unfollowed := true, recurses := true, apart := false, narrowed := true }
def FnExactIsBundleUptoSaid : Prop := fnExactIsBundleUptoRow.holds Try.pinned (OpenSpec.upto fnExactIsBundleSpec)

/-- 'laws.FnExactFindEntry', WHERE WHAT IT READS IS OF BULK AT MOST 1048576: true; the input reads as it did. -/
def fnExactFindEntryUptoRow : OpenClaim := { program := "ytoedfeacpllkeaa", sum := "882abe1f46591f426be1f6f4d2bca4444a1a8ed611933a409024a20aa35b1fcc", func := "loop.example/g00581/laws.FnExactFindEntry", spec := "fnExactFindEntry", unfollowed := true, recurses := true, apart := false, narrowed := true }
def FnExactFindEntryUptoSaid : Prop := fnExactFindEntryUptoRow.holds Try.pinned (OpenSpec.upto fnExactFindEntrySpec)

/-- 'laws.FnExactPutEntry', WHERE WHAT IT READS IS OF BULK AT MOST 1048576: true; the input reads as it did. -/
def fnExactPutEntryUptoRow : OpenClaim := { program := "ytoedfeacpllkeaa", sum := "882abe1f46591f426be1f6f4d2bca4444a1a8ed611933a409024a20aa35b1fcc", func := "loop.example/g00581/laws.FnExactPutEntry", spec := "fnExactPutEntry", inPlace := ["slices.overlaps[loop.example/g00581/impl.Entry]"], unfollowed := true, recurses := true, apart := false, narrowed := true }
def FnExactPutEntryUptoSaid : Prop := fnExactPutEntryUptoRow.holds Try.pinned (OpenSpec.upto fnExactPutEntrySpec)

/-- 'laws.FnExactDeleteEntry', WHERE WHAT IT READS IS OF BULK AT MOST 1048576: true; the input reads as it did. -/
def fnExactDeleteEntryUptoRow : OpenClaim := { program := "ytoedfeacpllkeaa", sum := "882abe1f46591f426be1f6f4d2bca4444a1a8ed611933a409024a20aa35b1fcc", func := "loop.example/g00581/laws.FnExactDeleteEntry", spec := "fnExactDeleteEntry", inPlace := ["slices.overlaps[loop.example/g00581/impl.Entry]"], unfollowed := true, recurses := true, apart := false, narrowed := true }
def FnExactDeleteEntryUptoSaid : Prop := fnExactDeleteEntryUptoRow.holds Try.pinned (OpenSpec.upto fnExactDeleteEntrySpec)

/-- 'laws.FnExactMergeBundles', WHERE WHAT IT READS IS OF BULK AT MOST 1048576: true; the input reads as it did. -/
def fnExactMergeBundlesUptoRow : OpenClaim := { program := "ytoedfeacpllkeaa", sum := "882abe1f46591f426be1f6f4d2bca4444a1a8ed611933a409024a20aa35b1fcc", func := "loop.example/g00581/laws.FnExactMergeBundles", spec := "fnExactMergeBundles", inPlace := ["slices.overlaps[loop.example/g00581/impl.Entry]"], unfollowed := true, recurses := true, apart := false, narrowed := true }
def FnExactMergeBundlesUptoSaid : Prop := fnExactMergeBundlesUptoRow.holds Try.pinned (OpenSpec.upto fnExactMergeBundlesSpec)

/-- 'laws.FnExactIncludesBundle', WHERE WHAT IT READS IS OF BULK AT MOST 1048576: true; the input reads as it did. -/
def fnExactIncludesBundleUptoRow : OpenClaim := { program := "ytoedfeacpllkeaa", sum := "882abe1f46591f426be1f6f4d2bca4444a1a8ed611933a409024a20aa35b1fcc", func := "loop.example/g00581/laws.FnExactIncludesBundle", spec := "fnExactIncludesBundle", inPlace := ["slices.overlaps[loop.example/g00581/impl.Entry]"], unfollowed := true, recurses := true, apart := false, narrowed := true }
def FnExactIncludesBundleUptoSaid : Prop := fnExactIncludesBundleUptoRow.holds Try.pinned (OpenSpec.upto fnExactIncludesBundleSpec)

/-- 'laws.FnExactActiveEntries', WHERE WHAT IT READS IS OF BULK AT MOST 1048576: true; the input reads as it did. -/
def fnExactActiveEntriesUptoRow : OpenClaim := { program := "ytoedfeacpllkeaa", sum := "882abe1f46591f426be1f6f4d2bca4444a1a8ed611933a409024a20aa35b1fcc", func := "loop.example/g00581/laws.FnExactActiveEntries", spec := "fnExactActiveEntries", unfollowed := true, recurses := true, apart := false, narrowed := true }
def FnExactActiveEntriesUptoSaid : Prop := fnExactActiveEntriesUptoRow.holds Try.pinned (OpenSpec.upto fnExactActiveEntriesSpec)

/-- 'laws.FnExactEqualBundles', WHERE WHAT IT READS IS OF BULK AT MOST 1048576: true; the input reads as it did. -/
def fnExactEqualBundlesUptoRow : OpenClaim := { program := "ytoedfeacpllkeaa", sum := "882abe1f46591f426be1f6f4d2bca4444a1a8ed611933a409024a20aa35b1fcc", func := "loop.example/g00581/laws.FnExactEqualBundles", spec := "fnExactEqualBundles", apart := false, narrowed := true }
def FnExactEqualBundlesUptoSaid : Prop := fnExactEqualBundlesUptoRow.holds Try.pinned (OpenSpec.upto fnExactEqualBundlesSpec)

end Rows
end Go.Proofs.Ytoedfeacpllkeaa
