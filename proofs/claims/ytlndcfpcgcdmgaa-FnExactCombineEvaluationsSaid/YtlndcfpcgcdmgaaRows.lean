/-
  No cell of these rows narrows 'for every input' (looked for: loops, veiled, ifaces, maps, wideKeys, modest, calm, conditions, laid).
  DERIVED. THE GIVEN ROWS OF THIS SEAT. 9 by the template 'for every input the law returns true; each argument reads behind the call as it read before'; 0 by the template 'total and deterministic' (their statements: YtlndcfpcgcdmgaaTotals.lean).
  GIVEN WITH THE SEED: the statements are not yours to turn. If you find one false, say at which input.
  Laid BY PROGRAM, IN A SANDBOX (cutbox-rows.mjs): the forced cells as the released guide's own fill.sh prints them over the translation 7cada9102b380f8c… (all of the seat's roots in one cut). By AI agents, Wed Nov 11 2026. No macro, syntax, notation, axiom, sorry.
-/
import Derived.Test.YtlndcfpcgcdmgaaChecked
import GoSem.Claim
import GoSem.ClaimJoined
import GoSem.ClaimMapViews
import Derived.JoinedTies
import Derived.KernelRfl
namespace Go.Proofs.Ytlndcfpcgcdmgaa
/- THE CELL 'sum', in the pinned program and in every row, IS THE sha256 OF THE DUMP (.gsa) THAT YtlndcfpcgcdmgaaProg.lean LOADS. Nothing in Lean hashes anything: it is a label: what it is worth is what the hold of that sum in a sandbox is worth. -/
noncomputable def Try.pinned : Pinned := { name := "ytlndcfpcgcdmgaa", sum := "7cada9102b380f8cd724fb3f54a71bdaec5fbd513fa4faee742a40462e7176a4", checked := Try.checked }
namespace Rows
def none {H : Type} : Left H := { results := [], args := [] }

/-- 'laws.FnBlinding': WHATEVER THE INPUT: true; the input reads as it did. -/
def fnBlindingSpec : ChangeSpec := { name := "fnBlinding", fn := fun _ => fun
  | [d] => { results := [.lit (.bool true)], args := [d] }
  | _ => none }
def fnBlindingRow : OpenClaim := { program := "ytlndcfpcgcdmgaa", sum := "7cada9102b380f8cd724fb3f54a71bdaec5fbd513fa4faee742a40462e7176a4", func := "loop.example/g00581/laws.FnBlinding", spec := "fnBlinding", apart := false }
def FnBlindingSaid : Prop := fnBlindingRow.holds Try.pinned (OpenSpec.ofChange fnBlindingSpec)

/-- ITS FALSE NEIGHBOUR: 'it returns false'. Refute it at one input. -/
def fnBlindingWrong : ChangeSpec := { name := "fnBlinding", fn := fun _ => fun
  | [d] => { results := [.lit (.bool false)], args := [d] }
  | _ => none }
def FnBlindingWrongFalsely : Prop := fnBlindingRow.holds Try.pinned (OpenSpec.ofChange fnBlindingWrong)

/-- 'laws.FnExactBlindInput': WHATEVER THE INPUT: true; the input reads as it did. -/
def fnExactBlindInputSpec : ChangeSpec := { name := "fnExactBlindInput", fn := fun _ => fun
  | [d1, d2, d3] => { results := [.lit (.bool true)], args := [d1, d2, d3] }
  | _ => none }
def fnExactBlindInputRow : OpenClaim := { program := "ytlndcfpcgcdmgaa", sum := "7cada9102b380f8cd724fb3f54a71bdaec5fbd513fa4faee742a40462e7176a4", func := "loop.example/g00581/laws.FnExactBlindInput", spec := "fnExactBlindInput", apart := false }
def FnExactBlindInputSaid : Prop := fnExactBlindInputRow.holds Try.pinned (OpenSpec.ofChange fnExactBlindInputSpec)

/-- ITS FALSE NEIGHBOUR: 'it returns false'. Refute it at one input. -/
def fnExactBlindInputWrong : ChangeSpec := { name := "fnExactBlindInput", fn := fun _ => fun
  | [d1, d2, d3] => { results := [.lit (.bool false)], args := [d1, d2, d3] }
  | _ => none }
def FnExactBlindInputWrongFalsely : Prop := fnExactBlindInputRow.holds Try.pinned (OpenSpec.ofChange fnExactBlindInputWrong)

/-- 'laws.FnExactCombineEvaluations': WHATEVER THE INPUT: true; the input reads as it did. -/
def fnExactCombineEvaluationsSpec : ChangeSpec := { name := "fnExactCombineEvaluations", fn := fun _ => fun
  | [d1, d2] => { results := [.lit (.bool true)], args := [d1, d2] }
  | _ => none }
def fnExactCombineEvaluationsRow : OpenClaim := { program := "ytlndcfpcgcdmgaa", sum := "7cada9102b380f8cd724fb3f54a71bdaec5fbd513fa4faee742a40462e7176a4", func := "loop.example/g00581/laws.FnExactCombineEvaluations", spec := "fnExactCombineEvaluations", unfollowed := true, recurses := true, apart := false }
def FnExactCombineEvaluationsSaid : Prop := fnExactCombineEvaluationsRow.holds Try.pinned (OpenSpec.ofChange fnExactCombineEvaluationsSpec)

/-- ITS FALSE NEIGHBOUR: 'it returns false'. Refute it at one input. -/
def fnExactCombineEvaluationsWrong : ChangeSpec := { name := "fnExactCombineEvaluations", fn := fun _ => fun
  | [d1, d2] => { results := [.lit (.bool false)], args := [d1, d2] }
  | _ => none }
def FnExactCombineEvaluationsWrongFalsely : Prop := fnExactCombineEvaluationsRow.holds Try.pinned (OpenSpec.ofChange fnExactCombineEvaluationsWrong)

/-- 'laws.FnExactDirectOutput': WHATEVER THE INPUT: true; the input reads as it did. -/
def fnExactDirectOutputSpec : ChangeSpec := { name := "fnExactDirectOutput", fn := fun _ => fun
  | [d1, d2, d3] => { results := [.lit (.bool true)], args := [d1, d2, d3] }
  | _ => none }
def fnExactDirectOutputRow : OpenClaim := { program := "ytlndcfpcgcdmgaa", sum := "7cada9102b380f8cd724fb3f54a71bdaec5fbd513fa4faee742a40462e7176a4", func := "loop.example/g00581/laws.FnExactDirectOutput", spec := "fnExactDirectOutput", apart := false }
def FnExactDirectOutputSaid : Prop := fnExactDirectOutputRow.holds Try.pinned (OpenSpec.ofChange fnExactDirectOutputSpec)

/-- ITS FALSE NEIGHBOUR: 'it returns false'. Refute it at one input. -/
def fnExactDirectOutputWrong : ChangeSpec := { name := "fnExactDirectOutput", fn := fun _ => fun
  | [d1, d2, d3] => { results := [.lit (.bool false)], args := [d1, d2, d3] }
  | _ => none }
def FnExactDirectOutputWrongFalsely : Prop := fnExactDirectOutputRow.holds Try.pinned (OpenSpec.ofChange fnExactDirectOutputWrong)

/-- 'laws.FnExactEvaluateShare': WHATEVER THE INPUT: true; the input reads as it did. -/
def fnExactEvaluateShareSpec : ChangeSpec := { name := "fnExactEvaluateShare", fn := fun _ => fun
  | [d1, d2] => { results := [.lit (.bool true)], args := [d1, d2] }
  | _ => none }
def fnExactEvaluateShareRow : OpenClaim := { program := "ytlndcfpcgcdmgaa", sum := "7cada9102b380f8cd724fb3f54a71bdaec5fbd513fa4faee742a40462e7176a4", func := "loop.example/g00581/laws.FnExactEvaluateShare", spec := "fnExactEvaluateShare", apart := false }
def FnExactEvaluateShareSaid : Prop := fnExactEvaluateShareRow.holds Try.pinned (OpenSpec.ofChange fnExactEvaluateShareSpec)

/-- ITS FALSE NEIGHBOUR: 'it returns false'. Refute it at one input. -/
def fnExactEvaluateShareWrong : ChangeSpec := { name := "fnExactEvaluateShare", fn := fun _ => fun
  | [d1, d2] => { results := [.lit (.bool false)], args := [d1, d2] }
  | _ => none }
def FnExactEvaluateShareWrongFalsely : Prop := fnExactEvaluateShareRow.holds Try.pinned (OpenSpec.ofChange fnExactEvaluateShareWrong)

/-- 'laws.FnExactExplainBlinded': WHATEVER THE INPUT: true; the input reads as it did. -/
def fnExactExplainBlindedSpec : ChangeSpec := { name := "fnExactExplainBlinded", fn := fun _ => fun
  | [d1, d2, d3] => { results := [.lit (.bool true)], args := [d1, d2, d3] }
  | _ => none }
def fnExactExplainBlindedRow : OpenClaim := { program := "ytlndcfpcgcdmgaa", sum := "7cada9102b380f8cd724fb3f54a71bdaec5fbd513fa4faee742a40462e7176a4", func := "loop.example/g00581/laws.FnExactExplainBlinded", spec := "fnExactExplainBlinded", apart := false }
def FnExactExplainBlindedSaid : Prop := fnExactExplainBlindedRow.holds Try.pinned (OpenSpec.ofChange fnExactExplainBlindedSpec)

/-- ITS FALSE NEIGHBOUR: 'it returns false'. Refute it at one input. -/
def fnExactExplainBlindedWrong : ChangeSpec := { name := "fnExactExplainBlinded", fn := fun _ => fun
  | [d1, d2, d3] => { results := [.lit (.bool false)], args := [d1, d2, d3] }
  | _ => none }
def FnExactExplainBlindedWrongFalsely : Prop := fnExactExplainBlindedRow.holds Try.pinned (OpenSpec.ofChange fnExactExplainBlindedWrong)

/-- 'laws.FnExactFinishOutput': WHATEVER THE INPUT: true; the input reads as it did. -/
def fnExactFinishOutputSpec : ChangeSpec := { name := "fnExactFinishOutput", fn := fun _ => fun
  | [d1, d2] => { results := [.lit (.bool true)], args := [d1, d2] }
  | _ => none }
def fnExactFinishOutputRow : OpenClaim := { program := "ytlndcfpcgcdmgaa", sum := "7cada9102b380f8cd724fb3f54a71bdaec5fbd513fa4faee742a40462e7176a4", func := "loop.example/g00581/laws.FnExactFinishOutput", spec := "fnExactFinishOutput", apart := false }
def FnExactFinishOutputSaid : Prop := fnExactFinishOutputRow.holds Try.pinned (OpenSpec.ofChange fnExactFinishOutputSpec)

/-- ITS FALSE NEIGHBOUR: 'it returns false'. Refute it at one input. -/
def fnExactFinishOutputWrong : ChangeSpec := { name := "fnExactFinishOutput", fn := fun _ => fun
  | [d1, d2] => { results := [.lit (.bool false)], args := [d1, d2] }
  | _ => none }
def FnExactFinishOutputWrongFalsely : Prop := fnExactFinishOutputRow.holds Try.pinned (OpenSpec.ofChange fnExactFinishOutputWrong)

/-- 'laws.FnExactOutputKey': WHATEVER THE INPUT: true; the input reads as it did. -/
def fnExactOutputKeySpec : ChangeSpec := { name := "fnExactOutputKey", fn := fun _ => fun
  | [d1, d2] => { results := [.lit (.bool true)], args := [d1, d2] }
  | _ => none }
def fnExactOutputKeyRow : OpenClaim := { program := "ytlndcfpcgcdmgaa", sum := "7cada9102b380f8cd724fb3f54a71bdaec5fbd513fa4faee742a40462e7176a4", func := "loop.example/g00581/laws.FnExactOutputKey", spec := "fnExactOutputKey", apart := false }
def FnExactOutputKeySaid : Prop := fnExactOutputKeyRow.holds Try.pinned (OpenSpec.ofChange fnExactOutputKeySpec)

/-- ITS FALSE NEIGHBOUR: 'it returns false'. Refute it at one input. -/
def fnExactOutputKeyWrong : ChangeSpec := { name := "fnExactOutputKey", fn := fun _ => fun
  | [d1, d2] => { results := [.lit (.bool false)], args := [d1, d2] }
  | _ => none }
def FnExactOutputKeyWrongFalsely : Prop := fnExactOutputKeyRow.holds Try.pinned (OpenSpec.ofChange fnExactOutputKeyWrong)

/-- 'laws.FnOblivious': WHATEVER THE INPUT: true; the input reads as it did. -/
def fnObliviousSpec : ChangeSpec := { name := "fnOblivious", fn := fun _ => fun
  | [d] => { results := [.lit (.bool true)], args := [d] }
  | _ => none }
def fnObliviousRow : OpenClaim := { program := "ytlndcfpcgcdmgaa", sum := "7cada9102b380f8cd724fb3f54a71bdaec5fbd513fa4faee742a40462e7176a4", func := "loop.example/g00581/laws.FnOblivious", spec := "fnOblivious", unfollowed := true, recurses := true, apart := false }
def FnObliviousSaid : Prop := fnObliviousRow.holds Try.pinned (OpenSpec.ofChange fnObliviousSpec)

/-- ITS FALSE NEIGHBOUR: 'it returns false'. Refute it at one input. -/
def fnObliviousWrong : ChangeSpec := { name := "fnOblivious", fn := fun _ => fun
  | [d] => { results := [.lit (.bool false)], args := [d] }
  | _ => none }
def FnObliviousWrongFalsely : Prop := fnObliviousRow.holds Try.pinned (OpenSpec.ofChange fnObliviousWrong)

/- THE SECOND FORM. 'bulk': how many values and letters a reading holds, each counted each time it is reached (what is shared counts as often as it is met; a slice's spare places count too). A statement '..UptoSaid' is the law's where the arguments, and the package variables that the reading takes, are together of bulk at most 1048576: NARROWER than '..Said'. Prove '..Said' where nothing that the law and all that it calls make is longer than what came in: it says more and counts as full. Else prove '..UptoSaid'. A law counts once. -/
mutual
def uptoBulk {H : Type} : DataW H → Nat
  | .lit (.string bytes) => bytes.length + 1
  | .lit _ => 1
  | .nil => 1
  | .ptr d => uptoBulk d + 1
  | .slice elems spare => uptoBulkAll elems + uptoBulkAll spare + 1
  | .agg parts => uptoBulkAll parts + 1
  | .iface _ d => uptoBulk d + 1
  | .map entries => uptoBulkEntries entries + 1
  | .held _ => 1
def uptoBulkAll {H : Type} : List (DataW H) → Nat
  | [] => 0
  | d :: r => uptoBulk d + uptoBulkAll r
def uptoBulkEntries {H : Type} : List (Lit × DataW H) → Nat
  | [] => 0
  | x :: r => uptoBulkEntry x + uptoBulkEntries r
def uptoBulkEntry {H : Type} : Lit × DataW H → Nat
  | (.string bytes, d) => bytes.length + uptoBulk d + 1
  | (_, d) => uptoBulk d + 1
 end
def uptoSmall : (H : Type) → List (DataW H) → Bool := fun _ ds => decide (uptoBulkAll ds ≤ 1048576)
def OpenSpec.upto (s : _root_.Go.ChangeSpec) : _root_.Go.OpenSpec := { _root_.Go.OpenSpec.ofChange s with cond := some uptoSmall }

/-- 'laws.FnBlinding', WHERE WHAT IT READS IS OF BULK AT MOST 1048576: true; the input reads as it did. -/
def fnBlindingUptoRow : OpenClaim := { program := "ytlndcfpcgcdmgaa", sum := "7cada9102b380f8cd724fb3f54a71bdaec5fbd513fa4faee742a40462e7176a4", func := "loop.example/g00581/laws.FnBlinding", spec := "fnBlinding", apart := false, narrowed := true }
def FnBlindingUptoSaid : Prop := fnBlindingUptoRow.holds Try.pinned (OpenSpec.upto fnBlindingSpec)

/-- 'laws.FnExactBlindInput', WHERE WHAT IT READS IS OF BULK AT MOST 1048576: true; the input reads as it did. -/
def fnExactBlindInputUptoRow : OpenClaim := { program := "ytlndcfpcgcdmgaa", sum := "7cada9102b380f8cd724fb3f54a71bdaec5fbd513fa4faee742a40462e7176a4", func := "loop.example/g00581/laws.FnExactBlindInput", spec := "fnExactBlindInput", apart := false, narrowed := true }
def FnExactBlindInputUptoSaid : Prop := fnExactBlindInputUptoRow.holds Try.pinned (OpenSpec.upto fnExactBlindInputSpec)

/-- 'laws.FnExactCombineEvaluations', WHERE WHAT IT READS IS OF BULK AT MOST 1048576: true; the input reads as it did. -/
def fnExactCombineEvaluationsUptoRow : OpenClaim := { program := "ytlndcfpcgcdmgaa", sum := "7cada9102b380f8cd724fb3f54a71bdaec5fbd513fa4faee742a40462e7176a4", func := "loop.example/g00581/laws.FnExactCombineEvaluations", spec := "fnExactCombineEvaluations", unfollowed := true, recurses := true, apart := false, narrowed := true }
def FnExactCombineEvaluationsUptoSaid : Prop := fnExactCombineEvaluationsUptoRow.holds Try.pinned (OpenSpec.upto fnExactCombineEvaluationsSpec)

/-- 'laws.FnExactDirectOutput', WHERE WHAT IT READS IS OF BULK AT MOST 1048576: true; the input reads as it did. -/
def fnExactDirectOutputUptoRow : OpenClaim := { program := "ytlndcfpcgcdmgaa", sum := "7cada9102b380f8cd724fb3f54a71bdaec5fbd513fa4faee742a40462e7176a4", func := "loop.example/g00581/laws.FnExactDirectOutput", spec := "fnExactDirectOutput", apart := false, narrowed := true }
def FnExactDirectOutputUptoSaid : Prop := fnExactDirectOutputUptoRow.holds Try.pinned (OpenSpec.upto fnExactDirectOutputSpec)

/-- 'laws.FnExactEvaluateShare', WHERE WHAT IT READS IS OF BULK AT MOST 1048576: true; the input reads as it did. -/
def fnExactEvaluateShareUptoRow : OpenClaim := { program := "ytlndcfpcgcdmgaa", sum := "7cada9102b380f8cd724fb3f54a71bdaec5fbd513fa4faee742a40462e7176a4", func := "loop.example/g00581/laws.FnExactEvaluateShare", spec := "fnExactEvaluateShare", apart := false, narrowed := true }
def FnExactEvaluateShareUptoSaid : Prop := fnExactEvaluateShareUptoRow.holds Try.pinned (OpenSpec.upto fnExactEvaluateShareSpec)

/-- 'laws.FnExactExplainBlinded', WHERE WHAT IT READS IS OF BULK AT MOST 1048576: true; the input reads as it did. -/
def fnExactExplainBlindedUptoRow : OpenClaim := { program := "ytlndcfpcgcdmgaa", sum := "7cada9102b380f8cd724fb3f54a71bdaec5fbd513fa4faee742a40462e7176a4", func := "loop.example/g00581/laws.FnExactExplainBlinded", spec := "fnExactExplainBlinded", apart := false, narrowed := true }
def FnExactExplainBlindedUptoSaid : Prop := fnExactExplainBlindedUptoRow.holds Try.pinned (OpenSpec.upto fnExactExplainBlindedSpec)

/-- 'laws.FnExactFinishOutput', WHERE WHAT IT READS IS OF BULK AT MOST 1048576: true; the input reads as it did. -/
def fnExactFinishOutputUptoRow : OpenClaim := { program := "ytlndcfpcgcdmgaa", sum := "7cada9102b380f8cd724fb3f54a71bdaec5fbd513fa4faee742a40462e7176a4", func := "loop.example/g00581/laws.FnExactFinishOutput", spec := "fnExactFinishOutput", apart := false, narrowed := true }
def FnExactFinishOutputUptoSaid : Prop := fnExactFinishOutputUptoRow.holds Try.pinned (OpenSpec.upto fnExactFinishOutputSpec)

/-- 'laws.FnExactOutputKey', WHERE WHAT IT READS IS OF BULK AT MOST 1048576: true; the input reads as it did. -/
def fnExactOutputKeyUptoRow : OpenClaim := { program := "ytlndcfpcgcdmgaa", sum := "7cada9102b380f8cd724fb3f54a71bdaec5fbd513fa4faee742a40462e7176a4", func := "loop.example/g00581/laws.FnExactOutputKey", spec := "fnExactOutputKey", apart := false, narrowed := true }
def FnExactOutputKeyUptoSaid : Prop := fnExactOutputKeyUptoRow.holds Try.pinned (OpenSpec.upto fnExactOutputKeySpec)

/-- 'laws.FnOblivious', WHERE WHAT IT READS IS OF BULK AT MOST 1048576: true; the input reads as it did. -/
def fnObliviousUptoRow : OpenClaim := { program := "ytlndcfpcgcdmgaa", sum := "7cada9102b380f8cd724fb3f54a71bdaec5fbd513fa4faee742a40462e7176a4", func := "loop.example/g00581/laws.FnOblivious", spec := "fnOblivious", unfollowed := true, recurses := true, apart := false, narrowed := true }
def FnObliviousUptoSaid : Prop := fnObliviousUptoRow.holds Try.pinned (OpenSpec.upto fnObliviousSpec)

end Rows
end Go.Proofs.Ytlndcfpcgcdmgaa
