/-
  No cell of these rows narrows 'for every input' (looked for: loops, veiled, ifaces, maps, wideKeys, modest, calm, conditions, laid).
  DERIVED. THE GIVEN ROWS OF THIS SEAT. 8 by the template 'for every input the law returns true; each argument reads behind the call as it read before'; 0 by the template 'total and deterministic' (their statements: YtaodpiikpojikaaTotals.lean).
  GIVEN WITH THE SEED: the statements are not yours to turn. If you find one false, say at which input.
  Laid BY PROGRAM, IN A SANDBOX (cutbox-rows.mjs): the forced cells as the released guide's own fill.sh prints them over the translation 1d1a08b51ceb6ec2… (all of the seat's roots in one cut). By AI agents, Wed Nov 11 2026. No macro, syntax, notation, axiom, sorry.
-/
import Derived.Test.YtaodpiikpojikaaChecked
import GoSem.Claim
import GoSem.ClaimJoined
import GoSem.ClaimMapViews
import Derived.JoinedTies
import Derived.KernelRfl
namespace Go.Proofs.Ytaodpiikpojikaa
/- THE CELL 'sum', in the pinned program and in every row, IS THE sha256 OF THE DUMP (.gsa) THAT YtaodpiikpojikaaProg.lean LOADS. Nothing in Lean hashes anything: it is a label: what it is worth is what the hold of that sum in a sandbox is worth. -/
noncomputable def Try.pinned : Pinned := { name := "ytaodpiikpojikaa", sum := "1d1a08b51ceb6ec23c849549ff83ed6e54e0e2864e72b24487934e2a0b714844", checked := Try.checked }
namespace Rows
def none {H : Type} : Left H := { results := [], args := [] }

/-- 'laws.FnBoxes': WHATEVER THE INPUT: true; the input reads as it did. -/
def fnBoxesSpec : ChangeSpec := { name := "fnBoxes", fn := fun _ => fun
  | [d] => { results := [.lit (.bool true)], args := [d] }
  | _ => none }
def fnBoxesRow : OpenClaim := { program := "ytaodpiikpojikaa", sum := "1d1a08b51ceb6ec23c849549ff83ed6e54e0e2864e72b24487934e2a0b714844", func := "loop.example/g00581/laws.FnBoxes", spec := "fnBoxes", unfollowed := true, recurses := true, plainKeys := false, apart := false }
def FnBoxesSaid : Prop := fnBoxesRow.holds Try.pinned (OpenSpec.ofChange fnBoxesSpec)

/-- ITS FALSE NEIGHBOUR: 'it returns false'. Refute it at one input. -/
def fnBoxesWrong : ChangeSpec := { name := "fnBoxes", fn := fun _ => fun
  | [d] => { results := [.lit (.bool false)], args := [d] }
  | _ => none }
def FnBoxesWrongFalsely : Prop := fnBoxesRow.holds Try.pinned (OpenSpec.ofChange fnBoxesWrong)

/-- 'laws.FnExactSealBox': WHATEVER THE INPUT: true; the input reads as it did. -/
def fnExactSealBoxSpec : ChangeSpec := { name := "fnExactSealBox", fn := fun _ => fun
  | [d1, d2, d3] => { results := [.lit (.bool true)], args := [d1, d2, d3] }
  | _ => none }
def fnExactSealBoxRow : OpenClaim := { program := "ytaodpiikpojikaa", sum := "1d1a08b51ceb6ec23c849549ff83ed6e54e0e2864e72b24487934e2a0b714844", func := "loop.example/g00581/laws.FnExactSealBox", spec := "fnExactSealBox", unfollowed := true, recurses := true, plainKeys := false, apart := false }
def FnExactSealBoxSaid : Prop := fnExactSealBoxRow.holds Try.pinned (OpenSpec.ofChange fnExactSealBoxSpec)

/-- ITS FALSE NEIGHBOUR: 'it returns false'. Refute it at one input. -/
def fnExactSealBoxWrong : ChangeSpec := { name := "fnExactSealBox", fn := fun _ => fun
  | [d1, d2, d3] => { results := [.lit (.bool false)], args := [d1, d2, d3] }
  | _ => none }
def FnExactSealBoxWrongFalsely : Prop := fnExactSealBoxRow.holds Try.pinned (OpenSpec.ofChange fnExactSealBoxWrong)

/-- 'laws.FnExactBoxKey': WHATEVER THE INPUT: true; the input reads as it did. -/
def fnExactBoxKeySpec : ChangeSpec := { name := "fnExactBoxKey", fn := fun _ => fun
  | [d1, d2] => { results := [.lit (.bool true)], args := [d1, d2] }
  | _ => none }
def fnExactBoxKeyRow : OpenClaim := { program := "ytaodpiikpojikaa", sum := "1d1a08b51ceb6ec23c849549ff83ed6e54e0e2864e72b24487934e2a0b714844", func := "loop.example/g00581/laws.FnExactBoxKey", spec := "fnExactBoxKey", plainKeys := false, apart := false }
def FnExactBoxKeySaid : Prop := fnExactBoxKeyRow.holds Try.pinned (OpenSpec.ofChange fnExactBoxKeySpec)

/-- ITS FALSE NEIGHBOUR: 'it returns false'. Refute it at one input. -/
def fnExactBoxKeyWrong : ChangeSpec := { name := "fnExactBoxKey", fn := fun _ => fun
  | [d1, d2] => { results := [.lit (.bool false)], args := [d1, d2] }
  | _ => none }
def FnExactBoxKeyWrongFalsely : Prop := fnExactBoxKeyRow.holds Try.pinned (OpenSpec.ofChange fnExactBoxKeyWrong)

/-- 'laws.FnExactBoxMAC': WHATEVER THE INPUT: true; the input reads as it did. -/
def fnExactBoxMACSpec : ChangeSpec := { name := "fnExactBoxMAC", fn := fun _ => fun
  | [d1, d2] => { results := [.lit (.bool true)], args := [d1, d2] }
  | _ => none }
def fnExactBoxMACRow : OpenClaim := { program := "ytaodpiikpojikaa", sum := "1d1a08b51ceb6ec23c849549ff83ed6e54e0e2864e72b24487934e2a0b714844", func := "loop.example/g00581/laws.FnExactBoxMAC", spec := "fnExactBoxMAC", plainKeys := false, apart := false }
def FnExactBoxMACSaid : Prop := fnExactBoxMACRow.holds Try.pinned (OpenSpec.ofChange fnExactBoxMACSpec)

/-- ITS FALSE NEIGHBOUR: 'it returns false'. Refute it at one input. -/
def fnExactBoxMACWrong : ChangeSpec := { name := "fnExactBoxMAC", fn := fun _ => fun
  | [d1, d2] => { results := [.lit (.bool false)], args := [d1, d2] }
  | _ => none }
def FnExactBoxMACWrongFalsely : Prop := fnExactBoxMACRow.holds Try.pinned (OpenSpec.ofChange fnExactBoxMACWrong)

/-- 'laws.FnExactOpenBox': WHATEVER THE INPUT: true; the input reads as it did. -/
def fnExactOpenBoxSpec : ChangeSpec := { name := "fnExactOpenBox", fn := fun _ => fun
  | [d1, d2] => { results := [.lit (.bool true)], args := [d1, d2] }
  | _ => none }
def fnExactOpenBoxRow : OpenClaim := { program := "ytaodpiikpojikaa", sum := "1d1a08b51ceb6ec23c849549ff83ed6e54e0e2864e72b24487934e2a0b714844", func := "loop.example/g00581/laws.FnExactOpenBox", spec := "fnExactOpenBox", unfollowed := true, recurses := true, plainKeys := false, apart := false }
def FnExactOpenBoxSaid : Prop := fnExactOpenBoxRow.holds Try.pinned (OpenSpec.ofChange fnExactOpenBoxSpec)

/-- ITS FALSE NEIGHBOUR: 'it returns false'. Refute it at one input. -/
def fnExactOpenBoxWrong : ChangeSpec := { name := "fnExactOpenBox", fn := fun _ => fun
  | [d1, d2] => { results := [.lit (.bool false)], args := [d1, d2] }
  | _ => none }
def FnExactOpenBoxWrongFalsely : Prop := fnExactOpenBoxRow.holds Try.pinned (OpenSpec.ofChange fnExactOpenBoxWrong)

/-- 'laws.FnExactSealBoxes': WHATEVER THE INPUT: true; the input reads as it did. -/
def fnExactSealBoxesSpec : ChangeSpec := { name := "fnExactSealBoxes", fn := fun _ => fun
  | [d1, d2, d3] => { results := [.lit (.bool true)], args := [d1, d2, d3] }
  | _ => none }
def fnExactSealBoxesRow : OpenClaim := { program := "ytaodpiikpojikaa", sum := "1d1a08b51ceb6ec23c849549ff83ed6e54e0e2864e72b24487934e2a0b714844", func := "loop.example/g00581/laws.FnExactSealBoxes", spec := "fnExactSealBoxes", unfollowed := true, recurses := true, plainKeys := false, apart := false }
def FnExactSealBoxesSaid : Prop := fnExactSealBoxesRow.holds Try.pinned (OpenSpec.ofChange fnExactSealBoxesSpec)

/-- ITS FALSE NEIGHBOUR: 'it returns false'. Refute it at one input. -/
def fnExactSealBoxesWrong : ChangeSpec := { name := "fnExactSealBoxes", fn := fun _ => fun
  | [d1, d2, d3] => { results := [.lit (.bool false)], args := [d1, d2, d3] }
  | _ => none }
def FnExactSealBoxesWrongFalsely : Prop := fnExactSealBoxesRow.holds Try.pinned (OpenSpec.ofChange fnExactSealBoxesWrong)

/-- 'laws.FnExactFindBox': WHATEVER THE INPUT: true; the input reads as it did. -/
def fnExactFindBoxSpec : ChangeSpec := { name := "fnExactFindBox", fn := fun _ => fun
  | [d1, d2] => { results := [.lit (.bool true)], args := [d1, d2] }
  | _ => none }
def fnExactFindBoxRow : OpenClaim := { program := "ytaodpiikpojikaa", sum := "1d1a08b51ceb6ec23c849549ff83ed6e54e0e2864e72b24487934e2a0b714844", func := "loop.example/g00581/laws.FnExactFindBox", spec := "fnExactFindBox", unfollowed := true, recurses := true, plainKeys := false, apart := false }
def FnExactFindBoxSaid : Prop := fnExactFindBoxRow.holds Try.pinned (OpenSpec.ofChange fnExactFindBoxSpec)

/-- ITS FALSE NEIGHBOUR: 'it returns false'. Refute it at one input. -/
def fnExactFindBoxWrong : ChangeSpec := { name := "fnExactFindBox", fn := fun _ => fun
  | [d1, d2] => { results := [.lit (.bool false)], args := [d1, d2] }
  | _ => none }
def FnExactFindBoxWrongFalsely : Prop := fnExactFindBoxRow.holds Try.pinned (OpenSpec.ofChange fnExactFindBoxWrong)

/-- 'laws.FnExactEqualBoxes': WHATEVER THE INPUT: true; the input reads as it did. -/
def fnExactEqualBoxesSpec : ChangeSpec := { name := "fnExactEqualBoxes", fn := fun _ => fun
  | [d1, d2] => { results := [.lit (.bool true)], args := [d1, d2] }
  | _ => none }
def fnExactEqualBoxesRow : OpenClaim := { program := "ytaodpiikpojikaa", sum := "1d1a08b51ceb6ec23c849549ff83ed6e54e0e2864e72b24487934e2a0b714844", func := "loop.example/g00581/laws.FnExactEqualBoxes", spec := "fnExactEqualBoxes", plainKeys := false, apart := false }
def FnExactEqualBoxesSaid : Prop := fnExactEqualBoxesRow.holds Try.pinned (OpenSpec.ofChange fnExactEqualBoxesSpec)

/-- ITS FALSE NEIGHBOUR: 'it returns false'. Refute it at one input. -/
def fnExactEqualBoxesWrong : ChangeSpec := { name := "fnExactEqualBoxes", fn := fun _ => fun
  | [d1, d2] => { results := [.lit (.bool false)], args := [d1, d2] }
  | _ => none }
def FnExactEqualBoxesWrongFalsely : Prop := fnExactEqualBoxesRow.holds Try.pinned (OpenSpec.ofChange fnExactEqualBoxesWrong)

/- THE SECOND FORM. 'bulk': how many values and letters a reading holds, each counted each time it is reached (what is shared counts as often as it is met; a slice's spare places count too). A statement '..UptoSaid' is the law's where the arguments, and the package variables that the reading takes, are together of bulk at most 1048576: NARROWER than '..Said'. Prove '..Said' where nothing that the law and all that it calls make is longer than what came in: it says more and counts as full. Else prove '..UptoSaid'. A law counts once. -/
mutual
def uptoBulk {H : Type} : DataW H → Nat
  | .lit (.string bytes) => bytes.length + 1
  | .lit _ => 1
  | .nil => 1
  | .ptr d => uptoBulk d + 1
  | .slice elems spare => uptoBulkAll elems + uptoBulkAll spare + 1
  | .agg parts => uptoBulkAll parts + 1
  | .iface _ d => uptoBulk d + 1
  | .map entries => uptoBulkEntries entries + 1
  | .held _ => 1
def uptoBulkAll {H : Type} : List (DataW H) → Nat
  | [] => 0
  | d :: r => uptoBulk d + uptoBulkAll r
def uptoBulkEntries {H : Type} : List (Lit × DataW H) → Nat
  | [] => 0
  | x :: r => uptoBulkEntry x + uptoBulkEntries r
def uptoBulkEntry {H : Type} : Lit × DataW H → Nat
  | (.string bytes, d) => bytes.length + uptoBulk d + 1
  | (_, d) => uptoBulk d + 1
 end
def uptoSmall : (H : Type) → List (DataW H) → Bool := fun _ ds => decide (uptoBulkAll ds ≤ 1048576)
def OpenSpec.upto (s : _root_.Go.ChangeSpec) : _root_.Go.OpenSpec := { _root_.Go.OpenSpec.ofChange s with cond := some uptoSmall }

/-- 'laws.FnBoxes', WHERE WHAT IT READS IS OF BULK AT MOST 1048576: true; the input reads as it did. -/
def fnBoxesUptoRow : OpenClaim := { program := "ytaodpiikpojikaa", sum := "1d1a08b51ceb6ec23c849549ff83ed6e54e0e2864e72b24487934e2a0b714844", func := "loop.example/g00581/laws.FnBoxes", spec := "fnBoxes", unfollowed := true, recurses := true, plainKeys := false, apart := false, narrowed := true }
def FnBoxesUptoSaid : Prop := fnBoxesUptoRow.holds Try.pinned (OpenSpec.upto fnBoxesSpec)

/-- 'laws.FnExactSealBox', WHERE WHAT IT READS IS OF BULK AT MOST 1048576: true; the input reads as it did. -/
def fnExactSealBoxUptoRow : OpenClaim := { program := "ytaodpiikpojikaa", sum := "1d1a08b51ceb6ec23c849549ff83ed6e54e0e2864e72b24487934e2a0b714844", func := "loop.example/g00581/laws.FnExactSealBox", spec := "fnExactSealBox", unfollowed := true, recurses := true, plainKeys := false, apart := false, narrowed := true }
def FnExactSealBoxUptoSaid : Prop := fnExactSealBoxUptoRow.holds Try.pinned (OpenSpec.upto fnExactSealBoxSpec)

/-- 'laws.FnExactBoxKey', WHERE WHAT IT READS IS OF BULK AT MOST 1048576: true; the input reads as it did. -/
def fnExactBoxKeyUptoRow : OpenClaim := { program := "ytaodpiikpojikaa", sum := "1d1a08b51ceb6ec23c849549ff83ed6e54e0e2864e72b24487934e2a0b714844", func := "loop.example/g00581/laws.FnExactBoxKey", spec := "fnExactBoxKey", plainKeys := false, apart := false, narrowed := true }
def FnExactBoxKeyUptoSaid : Prop := fnExactBoxKeyUptoRow.holds Try.pinned (OpenSpec.upto fnExactBoxKeySpec)

/-- 'laws.FnExactBoxMAC', WHERE WHAT IT READS IS OF BULK AT MOST 1048576: true; the input reads as it did. -/
def fnExactBoxMACUptoRow : OpenClaim := { program := "ytaodpiikpojikaa", sum := "1d1a08b51ceb6ec23c849549ff83ed6e54e0e2864e72b24487934e2a0b714844", func := "loop.example/g00581/laws.FnExactBoxMAC", spec := "fnExactBoxMAC", plainKeys := false, apart := false, narrowed := true }
def FnExactBoxMACUptoSaid : Prop := fnExactBoxMACUptoRow.holds Try.pinned (OpenSpec.upto fnExactBoxMACSpec)

/-- 'laws.FnExactOpenBox', WHERE WHAT IT READS IS OF BULK AT MOST 1048576: true; the input reads as it did. -/
def fnExactOpenBoxUptoRow : OpenClaim := { program := "ytaodpiikpojikaa", sum := "1d1a08b51ceb6ec23c849549ff83ed6e54e0e2864e72b24487934e2a0b714844", func := "loop.example/g00581/laws.FnExactOpenBox", spec := "fnExactOpenBox", unfollowed := true, recurses := true, plainKeys := false, apart := false, narrowed := true }
def FnExactOpenBoxUptoSaid : Prop := fnExactOpenBoxUptoRow.holds Try.pinned (OpenSpec.upto fnExactOpenBoxSpec)

/-- 'laws.FnExactSealBoxes', WHERE WHAT IT READS IS OF BULK AT MOST 1048576: true; the input reads as it did. -/
def fnExactSealBoxesUptoRow : OpenClaim := { program := "ytaodpiikpojikaa", sum := "1d1a08b51ceb6ec23c849549ff83ed6e54e0e2864e72b24487934e2a0b714844", func := "loop.example/g00581/laws.FnExactSealBoxes", spec := "fnExactSealBoxes", unfollowed := true, recurses := true, plainKeys := false, apart := false, narrowed := true }
def FnExactSealBoxesUptoSaid : Prop := fnExactSealBoxesUptoRow.holds Try.pinned (OpenSpec.upto fnExactSealBoxesSpec)

/-- 'laws.FnExactFindBox', WHERE WHAT IT READS IS OF BULK AT MOST 1048576: true; the input reads as it did. -/
def fnExactFindBoxUptoRow : OpenClaim := { program := "ytaodpiikpojikaa", sum := "1d1a08b51ceb6ec23c849549ff83ed6e54e0e2864e72b24487934e2a0b714844", func := "loop.example/g00581/laws.FnExactFindBox", spec := "fnExactFindBox", unfollowed := true, recurses := true, plainKeys := false, apart := false, narrowed := true }
def FnExactFindBoxUptoSaid : Prop := fnExactFindBoxUptoRow.holds Try.pinned (OpenSpec.upto fnExactFindBoxSpec)

/-- 'laws.FnExactEqualBoxes', WHERE WHAT IT READS IS OF BULK AT MOST 1048576: true; the input reads as it did. -/
def fnExactEqualBoxesUptoRow : OpenClaim := { program := "ytaodpiikpojikaa", sum := "1d1a08b51ceb6ec23c849549ff83ed6e54e0e2864e72b24487934e2a0b714844", func := "loop.example/g00581/laws.FnExactEqualBoxes", spec := "fnExactEqualBoxes", plainKeys := false, apart := false, narrowed := true }
def FnExactEqualBoxesUptoSaid : Prop := fnExactEqualBoxesUptoRow.holds Try.pinned (OpenSpec.upto fnExactEqualBoxesSpec)

end Rows
end Go.Proofs.Ytaodpiikpojikaa
