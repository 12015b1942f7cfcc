/-
  No cell of these rows narrows 'for every input' (looked for: loops, veiled, ifaces, maps, wideKeys, modest, calm, conditions, laid).
  DERIVED. THE GIVEN ROWS OF THIS SEAT. 8 by the template 'for every input the law returns true; each argument reads behind the call as it read before'; 0 by the template 'total and deterministic' (their statements: YtjkmcnnkifachaaTotals.lean).
  GIVEN WITH THE SEED: the statements are not yours to turn. If you find one false, say at which input.
  Laid BY PROGRAM, IN A SANDBOX (cutbox-rows.mjs): the forced cells as the released guide's own fill.sh prints them over the translation d2f0466ad4b99847… (all of the seat's roots in one cut). By AI agents, Wed Nov 11 2026. No macro, syntax, notation, axiom, sorry.
-/
import Derived.Test.YtjkmcnnkifachaaChecked
import GoSem.Claim
import GoSem.ClaimJoined
import GoSem.ClaimMapViews
import Derived.JoinedTies
import Derived.KernelRfl
namespace Go.Proofs.Ytjkmcnnkifachaa
/- THE CELL 'sum', in the pinned program and in every row, IS THE sha256 OF THE DUMP (.gsa) THAT YtjkmcnnkifachaaProg.lean LOADS. Nothing in Lean hashes anything: it is a label: what it is worth is what the hold of that sum in a sandbox is worth. -/
noncomputable def Try.pinned : Pinned := { name := "ytjkmcnnkifachaa", sum := "d2f0466ad4b99847f3e2c7b6cb46caf864278de836656e1b6ec74aeffd24b454", checked := Try.checked }
namespace Rows
def none {H : Type} : Left H := { results := [], args := [] }

/-- 'laws.FnChallenges': WHATEVER THE INPUT: true; the input reads as it did. -/
def fnChallengesSpec : ChangeSpec := { name := "fnChallenges", fn := fun _ => fun
  | [d] => { results := [.lit (.bool true)], args := [d] }
  | _ => none }
def fnChallengesRow : OpenClaim := { program := "ytjkmcnnkifachaa", sum := "d2f0466ad4b99847f3e2c7b6cb46caf864278de836656e1b6ec74aeffd24b454", func := "loop.example/g00581/laws.FnChallenges", spec := "fnChallenges", unfollowed := true, recurses := true, apart := false }
def FnChallengesSaid : Prop := fnChallengesRow.holds Try.pinned (OpenSpec.ofChange fnChallengesSpec)

/-- ITS FALSE NEIGHBOUR: 'it returns false'. Refute it at one input. -/
def fnChallengesWrong : ChangeSpec := { name := "fnChallenges", fn := fun _ => fun
  | [d] => { results := [.lit (.bool false)], args := [d] }
  | _ => none }
def FnChallengesWrongFalsely : Prop := fnChallengesRow.holds Try.pinned (OpenSpec.ofChange fnChallengesWrong)

/-- 'laws.FnExactIsValidBook': WHATEVER THE INPUT: true; the input reads as it did. -/
def fnExactIsValidBookSpec : ChangeSpec := { name := "fnExactIsValidBook", fn := fun _ => fun
  | [d] => { results := [.lit (.bool true)], args := [d] }
  | _ => none }
def fnExactIsValidBookRow : OpenClaim := { program := "ytjkmcnnkifachaa", sum := "d2f0466ad4b99847f3e2c7b6cb46caf864278de836656e1b6ec74aeffd24b454", func := "loop.example/g00581/laws.FnExactIsValidBook", spec := "fnExactIsValidBook", apart := false }
def FnExactIsValidBookSaid : Prop := fnExactIsValidBookRow.holds Try.pinned (OpenSpec.ofChange fnExactIsValidBookSpec)

/-- ITS FALSE NEIGHBOUR: 'it returns false'. Refute it at one input. -/
def fnExactIsValidBookWrong : ChangeSpec := { name := "fnExactIsValidBook", fn := fun _ => fun
  | [d] => { results := [.lit (.bool false)], args := [d] }
  | _ => none }
def FnExactIsValidBookWrongFalsely : Prop := fnExactIsValidBookRow.holds Try.pinned (OpenSpec.ofChange fnExactIsValidBookWrong)

/-- 'laws.FnExactIssueChallenge': WHATEVER THE INPUT: true; the input reads as it did. -/
def fnExactIssueChallengeSpec : ChangeSpec := { name := "fnExactIssueChallenge", fn := fun _ => fun
  | [d1, d2, d3] => { results := [.lit (.bool true)], args := [d1, d2, d3] }
  | _ => none }
def fnExactIssueChallengeRow : OpenClaim := { program := "ytjkmcnnkifachaa", sum := "d2f0466ad4b99847f3e2c7b6cb46caf864278de836656e1b6ec74aeffd24b454", func := "loop.example/g00581/laws.FnExactIssueChallenge", spec := "fnExactIssueChallenge", apart := false }
def FnExactIssueChallengeSaid : Prop := fnExactIssueChallengeRow.holds Try.pinned (OpenSpec.ofChange fnExactIssueChallengeSpec)

/-- ITS FALSE NEIGHBOUR: 'it returns false'. Refute it at one input. -/
def fnExactIssueChallengeWrong : ChangeSpec := { name := "fnExactIssueChallenge", fn := fun _ => fun
  | [d1, d2, d3] => { results := [.lit (.bool false)], args := [d1, d2, d3] }
  | _ => none }
def FnExactIssueChallengeWrongFalsely : Prop := fnExactIssueChallengeRow.holds Try.pinned (OpenSpec.ofChange fnExactIssueChallengeWrong)

/-- 'laws.FnExactChallengeValue': WHATEVER THE INPUT: true; the input reads as it did. -/
def fnExactChallengeValueSpec : ChangeSpec := { name := "fnExactChallengeValue", fn := fun _ => fun
  | [d1, d2] => { results := [.lit (.bool true)], args := [d1, d2] }
  | _ => none }
def fnExactChallengeValueRow : OpenClaim := { program := "ytjkmcnnkifachaa", sum := "d2f0466ad4b99847f3e2c7b6cb46caf864278de836656e1b6ec74aeffd24b454", func := "loop.example/g00581/laws.FnExactChallengeValue", spec := "fnExactChallengeValue", apart := false }
def FnExactChallengeValueSaid : Prop := fnExactChallengeValueRow.holds Try.pinned (OpenSpec.ofChange fnExactChallengeValueSpec)

/-- ITS FALSE NEIGHBOUR: 'it returns false'. Refute it at one input. -/
def fnExactChallengeValueWrong : ChangeSpec := { name := "fnExactChallengeValue", fn := fun _ => fun
  | [d1, d2] => { results := [.lit (.bool false)], args := [d1, d2] }
  | _ => none }
def FnExactChallengeValueWrongFalsely : Prop := fnExactChallengeValueRow.holds Try.pinned (OpenSpec.ofChange fnExactChallengeValueWrong)

/-- 'laws.FnExactTakeChallenge': WHATEVER THE INPUT: true; the input reads as it did. -/
def fnExactTakeChallengeSpec : ChangeSpec := { name := "fnExactTakeChallenge", fn := fun _ => fun
  | [d1, d2, d3, d4] => { results := [.lit (.bool true)], args := [d1, d2, d3, d4] }
  | _ => none }
def fnExactTakeChallengeRow : OpenClaim := { program := "ytjkmcnnkifachaa", sum := "d2f0466ad4b99847f3e2c7b6cb46caf864278de836656e1b6ec74aeffd24b454", func := "loop.example/g00581/laws.FnExactTakeChallenge", spec := "fnExactTakeChallenge", unfollowed := true, recurses := true, apart := false }
def FnExactTakeChallengeSaid : Prop := fnExactTakeChallengeRow.holds Try.pinned (OpenSpec.ofChange fnExactTakeChallengeSpec)

/-- ITS FALSE NEIGHBOUR: 'it returns false'. Refute it at one input. -/
def fnExactTakeChallengeWrong : ChangeSpec := { name := "fnExactTakeChallenge", fn := fun _ => fun
  | [d1, d2, d3, d4] => { results := [.lit (.bool false)], args := [d1, d2, d3, d4] }
  | _ => none }
def FnExactTakeChallengeWrongFalsely : Prop := fnExactTakeChallengeRow.holds Try.pinned (OpenSpec.ofChange fnExactTakeChallengeWrong)

/-- 'laws.FnExactExpireChallenges': WHATEVER THE INPUT: true; the input reads as it did. -/
def fnExactExpireChallengesSpec : ChangeSpec := { name := "fnExactExpireChallenges", fn := fun _ => fun
  | [d1, d2] => { results := [.lit (.bool true)], args := [d1, d2] }
  | _ => none }
def fnExactExpireChallengesRow : OpenClaim := { program := "ytjkmcnnkifachaa", sum := "d2f0466ad4b99847f3e2c7b6cb46caf864278de836656e1b6ec74aeffd24b454", func := "loop.example/g00581/laws.FnExactExpireChallenges", spec := "fnExactExpireChallenges", unfollowed := true, recurses := true, apart := false }
def FnExactExpireChallengesSaid : Prop := fnExactExpireChallengesRow.holds Try.pinned (OpenSpec.ofChange fnExactExpireChallengesSpec)

/-- ITS FALSE NEIGHBOUR: 'it returns false'. Refute it at one input. -/
def fnExactExpireChallengesWrong : ChangeSpec := { name := "fnExactExpireChallenges", fn := fun _ => fun
  | [d1, d2] => { results := [.lit (.bool false)], args := [d1, d2] }
  | _ => none }
def FnExactExpireChallengesWrongFalsely : Prop := fnExactExpireChallengesRow.holds Try.pinned (OpenSpec.ofChange fnExactExpireChallengesWrong)

/-- 'laws.FnExactFindChallenge': WHATEVER THE INPUT: true; the input reads as it did. -/
def fnExactFindChallengeSpec : ChangeSpec := { name := "fnExactFindChallenge", fn := fun _ => fun
  | [d1, d2] => { results := [.lit (.bool true)], args := [d1, d2] }
  | _ => none }
def fnExactFindChallengeRow : OpenClaim := { program := "ytjkmcnnkifachaa", sum := "d2f0466ad4b99847f3e2c7b6cb46caf864278de836656e1b6ec74aeffd24b454", func := "loop.example/g00581/laws.FnExactFindChallenge", spec := "fnExactFindChallenge", unfollowed := true, recurses := true, apart := false }
def FnExactFindChallengeSaid : Prop := fnExactFindChallengeRow.holds Try.pinned (OpenSpec.ofChange fnExactFindChallengeSpec)

/-- ITS FALSE NEIGHBOUR: 'it returns false'. Refute it at one input. -/
def fnExactFindChallengeWrong : ChangeSpec := { name := "fnExactFindChallenge", fn := fun _ => fun
  | [d1, d2] => { results := [.lit (.bool false)], args := [d1, d2] }
  | _ => none }
def FnExactFindChallengeWrongFalsely : Prop := fnExactFindChallengeRow.holds Try.pinned (OpenSpec.ofChange fnExactFindChallengeWrong)

/-- 'laws.FnExactEqualBooks': WHATEVER THE INPUT: true; the input reads as it did. -/
def fnExactEqualBooksSpec : ChangeSpec := { name := "fnExactEqualBooks", fn := fun _ => fun
  | [d1, d2] => { results := [.lit (.bool true)], args := [d1, d2] }
  | _ => none }
def fnExactEqualBooksRow : OpenClaim := { program := "ytjkmcnnkifachaa", sum := "d2f0466ad4b99847f3e2c7b6cb46caf864278de836656e1b6ec74aeffd24b454", func := "loop.example/g00581/laws.FnExactEqualBooks", spec := "fnExactEqualBooks", apart := false }
def FnExactEqualBooksSaid : Prop := fnExactEqualBooksRow.holds Try.pinned (OpenSpec.ofChange fnExactEqualBooksSpec)

/-- ITS FALSE NEIGHBOUR: 'it returns false'. Refute it at one input. -/
def fnExactEqualBooksWrong : ChangeSpec := { name := "fnExactEqualBooks", fn := fun _ => fun
  | [d1, d2] => { results := [.lit (.bool false)], args := [d1, d2] }
  | _ => none }
def FnExactEqualBooksWrongFalsely : Prop := fnExactEqualBooksRow.holds Try.pinned (OpenSpec.ofChange fnExactEqualBooksWrong)

/- THE SECOND FORM. 'bulk': how many values and letters a reading holds, each counted each time it is reached (what is shared counts as often as it is met; a slice's spare places count too). A statement '..UptoSaid' is the law's where the arguments, and the package variables that the reading takes, are together of bulk at most 1048576: NARROWER than '..Said'. Prove '..Said' where nothing that the law and all that it calls make is longer than what came in: it says more and counts as full. Else prove '..UptoSaid'. A law counts once. -/
mutual
def uptoBulk {H : Type} : DataW H → Nat
  | .lit (.string bytes) => bytes.length + 1
  | .lit _ => 1
  | .nil => 1
  | .ptr d => uptoBulk d + 1
  | .slice elems spare => uptoBulkAll elems + uptoBulkAll spare + 1
  | .agg parts => uptoBulkAll parts + 1
  | .iface _ d => uptoBulk d + 1
  | .map entries => uptoBulkEntries entries + 1
  | .held _ => 1
def uptoBulkAll {H : Type} : List (DataW H) → Nat
  | [] => 0
  | d :: r => uptoBulk d + uptoBulkAll r
def uptoBulkEntries {H : Type} : List (Lit × DataW H) → Nat
  | [] => 0
  | x :: r => uptoBulkEntry x + uptoBulkEntries r
def uptoBulkEntry {H : Type} : Lit × DataW H → Nat
  | (.string bytes, d) => bytes.length + uptoBulk d + 1
  | (_, d) => uptoBulk d + 1
 end
def uptoSmall : (H : Type) → List (DataW H) → Bool := fun _ ds => decide (uptoBulkAll ds ≤ 1048576)
def OpenSpec.upto (s : _root_.Go.ChangeSpec) : _root_.Go.OpenSpec := { _root_.Go.OpenSpec.ofChange s with cond := some uptoSmall }

/-- 'laws.FnChallenges', WHERE WHAT IT READS IS OF BULK AT MOST 1048576: true; the input reads as it did. -/
def fnChallengesUptoRow : OpenClaim := { program := "ytjkmcnnkifachaa", sum := "d2f0466ad4b99847f3e2c7b6cb46caf864278de836656e1b6ec74aeffd24b454", func := "loop.example/g00581/laws.FnChallenges", spec := "fnChallenges", unfollowed := true, recurses := true, apart := false, narrowed := true }
def FnChallengesUptoSaid : Prop := fnChallengesUptoRow.holds Try.pinned (OpenSpec.upto fnChallengesSpec)

/-- 'laws.FnExactIsValidBook', WHERE WHAT IT READS IS OF BULK AT MOST 1048576: true; the input reads as it did. -/
def fnExactIsValidBookUptoRow : OpenClaim := { program := "ytjkmcnnkifachaa", sum := "d2f0466ad4b99847f3e2c7b6cb46caf864278de836656e1b6ec74aeffd24b454", func := "loop.example/g00581/laws.FnExactIsValidBook", spec := "fnExactIsValidBook", apart := false, narrowed := true }
def FnExactIsValidBookUptoSaid : Prop := fnExactIsValidBookUptoRow.holds Try.pinned (OpenSpec.upto fnExactIsValidBookSpec)

/-- 'laws.FnExactIssueChallenge', WHERE WHAT IT READS IS OF BULK AT MOST 1048576: true; the input reads as it did. -/
def fnExactIssueChallengeUptoRow : OpenClaim := { program := "ytjkmcnnkifachaa", sum := "d2f0466ad4b99847f3e2c7b6cb46caf864278de836656e1b6ec74aeffd24b454", func := "loop.example/g00581/laws.FnExactIssueChallenge", spec := "fnExactIssueChallenge", apart := false, narrowed := true }
def FnExactIssueChallengeUptoSaid : Prop := fnExactIssueChallengeUptoRow.holds Try.pinned (OpenSpec.upto fnExactIssueChallengeSpec)

/-- 'laws.FnExactChallengeValue', WHERE WHAT IT READS IS OF BULK AT MOST 1048576: true; the input reads as it did. -/
def fnExactChallengeValueUptoRow : OpenClaim := { program := "ytjkmcnnkifachaa", sum := "d2f0466ad4b99847f3e2c7b6cb46caf864278de836656e1b6ec74aeffd24b454", func := "loop.example/g00581/laws.FnExactChallengeValue", spec := "fnExactChallengeValue", apart := false, narrowed := true }
def FnExactChallengeValueUptoSaid : Prop := fnExactChallengeValueUptoRow.holds Try.pinned (OpenSpec.upto fnExactChallengeValueSpec)

/-- 'laws.FnExactTakeChallenge', WHERE WHAT IT READS IS OF BULK AT MOST 1048576: true; the input reads as it did. -/
def fnExactTakeChallengeUptoRow : OpenClaim := { program := "ytjkmcnnkifachaa", sum := "d2f0466ad4b99847f3e2c7b6cb46caf864278de836656e1b6ec74aeffd24b454", func := "loop.example/g00581/laws.FnExactTakeChallenge", spec := "fnExactTakeChallenge", unfollowed := true, recurses := true, apart := false, narrowed := true }
def FnExactTakeChallengeUptoSaid : Prop := fnExactTakeChallengeUptoRow.holds Try.pinned (OpenSpec.upto fnExactTakeChallengeSpec)

/-- 'laws.FnExactExpireChallenges', WHERE WHAT IT READS IS OF BULK AT MOST 1048576: true; the input reads as it did. -/
def fnExactExpireChallengesUptoRow : OpenClaim := { program := "ytjkmcnnkifachaa", sum := "d2f0466ad4b99847f3e2c7b6cb46caf864278de836656e1b6ec74aeffd24b454", func := "loop.example/g00581/laws.FnExactExpireChallenges", spec := "fnExactExpireChallenges", unfollowed := true, recurses := true, apart := false, narrowed := true }
def FnExactExpireChallengesUptoSaid : Prop := fnExactExpireChallengesUptoRow.holds Try.pinned (OpenSpec.upto fnExactExpireChallengesSpec)

/-- 'laws.FnExactFindChallenge', WHERE WHAT IT READS IS OF BULK AT MOST 1048576: true; the input reads as it did. -/
def fnExactFindChallengeUptoRow : OpenClaim := { program := "ytjkmcnnkifachaa", sum := "d2f0466ad4b99847f3e2c7b6cb46caf864278de836656e1b6ec74aeffd24b454", func := "loop.example/g00581/laws.FnExactFindChallenge", spec := "fnExactFindChallenge", unfollowed := true, recurses := true, apart := false, narrowed := true }
def FnExactFindChallengeUptoSaid : Prop := fnExactFindChallengeUptoRow.holds Try.pinned (OpenSpec.upto fnExactFindChallengeSpec)

/-- 'laws.FnExactEqualBooks', WHERE WHAT IT READS IS OF BULK AT MOST 1048576: true; the input reads as it did. -/
def fnExactEqualBooksUptoRow : OpenClaim := { program := "ytjkmcnnkifachaa", sum := "d2f0466ad4b99847f3e2c7b6cb46caf864278de836656e1b6ec74aeffd24b454", func := "loop.example/g00581/laws.FnExactEqualBooks", spec := "fnExactEqualBooks", apart := false, narrowed := true }
def FnExactEqualBooksUptoSaid : Prop := fnExactEqualBooksUptoRow.holds Try.pinned (OpenSpec.upto fnExactEqualBooksSpec)

end Rows
end Go.Proofs.Ytjkmcnnkifachaa
