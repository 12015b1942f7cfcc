/-
  No cell of these rows narrows 'for every input' (looked for: loops, veiled, ifaces, maps, wideKeys, modest, calm, conditions, laid).
  DERIVED. THE GIVEN ROWS OF THIS SEAT. 8 by the template 'for every input the law returns true; each argument reads behind the call as it read before'; 0 by the template 'total and deterministic' (their statements: YtpfjfnlefeocnaaTotals.lean).
  GIVEN WITH THE SEED: the statements are not yours to turn. If you find one false, say at which input.
  Laid BY PROGRAM, IN A SANDBOX (cutbox-rows.mjs): the forced cells as the released guide's own fill.sh prints them over the translation c4d18b63f858e68c… (all of the seat's roots in one cut). By AI agents, Wed Nov 11 2026. No macro, syntax, notation, axiom, sorry.
-/
import Derived.Test.YtpfjfnlefeocnaaChecked
import GoSem.Claim
import GoSem.ClaimJoined
import GoSem.ClaimMapViews
import Derived.JoinedTies
import Derived.KernelRfl
namespace Go.Proofs.Ytpfjfnlefeocnaa
/- THE CELL 'sum', in the pinned program and in every row, IS THE sha256 OF THE DUMP (.gsa) THAT YtpfjfnlefeocnaaProg.lean LOADS. Nothing in Lean hashes anything: it is a label: what it is worth is what the hold of that sum in a sandbox is worth. -/
noncomputable def Try.pinned : Pinned := { name := "ytpfjfnlefeocnaa", sum := "c4d18b63f858e68cae75f3c545d46e01e306d0ac75909120c35dc11d4c6a435a", checked := Try.checked }
namespace Rows
def none {H : Type} : Left H := { results := [], args := [] }

/-- 'laws.FnCredentials': WHATEVER THE INPUT: true; the input reads as it did. -/
def fnCredentialsSpec : ChangeSpec := { name := "fnCredentials", fn := fun _ => fun
  | [d] => { results := [.lit (.bool true)], args := [d] }
  | _ => none }
def fnCredentialsRow : OpenClaim := { program := "ytpfjfnlefeocnaa", sum := "c4d18b63f858e68cae75f3c545d46e01e306d0ac75909120c35dc11d4c6a435a", func := "loop.example/g00581/laws.FnCredentials", spec := "fnCredentials", inPlace := ["slices.overlaps[loop.example/g00581/impl.Credential]"], unfollowed := true, recurses := true, plainKeys := false, apart := false }
def FnCredentialsSaid : Prop := fnCredentialsRow.holds Try.pinned (OpenSpec.ofChange fnCredentialsSpec)

/-- ITS FALSE NEIGHBOUR: 'it returns false'. Refute it at one input. -/
def fnCredentialsWrong : ChangeSpec := { name := "fnCredentials", fn := fun _ => fun
  | [d] => { results := [.lit (.bool false)], args := [d] }
  | _ => none }
def FnCredentialsWrongFalsely : Prop := fnCredentialsRow.holds Try.pinned (OpenSpec.ofChange fnCredentialsWrong)

/-- 'laws.FnExactIsValidAccount': WHATEVER THE INPUT: true; the input reads as it did. -/
def fnExactIsValidAccountSpec : ChangeSpec := { name := "fnExactIsValidAccount", fn := fun _ => fun
  | [d] => { results := [.lit (.bool true)], args := [d] }
  | _ => none }
def fnExactIsValidAccountRow : OpenClaim := { program := "ytpfjfnlefeocnaa", sum := "c4d18b63f858e68cae75f3c545d46e01e306d0ac75909120c35dc11d4c6a435a", func := "loop.example/g00581/laws.FnExactIsValidAccount", spec := "fnExactIsValidAccount", unfollowed := true, recurses := true, plainKeys := false, apart := false }
def FnExactIsValidAccountSaid : Prop := fnExactIsValidAccountRow.holds Try.pinned (OpenSpec.ofChange fnExactIsValidAccountSpec)

/-- ITS FALSE NEIGHBOUR: 'it returns false'. Refute it at one input. -/
def fnExactIsValidAccountWrong : ChangeSpec := { name := "fnExactIsValidAccount", fn := fun _ => fun
  | [d] => { results := [.lit (.bool false)], args := [d] }
  | _ => none }
def FnExactIsValidAccountWrongFalsely : Prop := fnExactIsValidAccountRow.holds Try.pinned (OpenSpec.ofChange fnExactIsValidAccountWrong)

/-- 'laws.FnExactAddCredential': WHATEVER THE INPUT: true; the input reads as it did. -/
def fnExactAddCredentialSpec : ChangeSpec := { name := "fnExactAddCredential", fn := fun _ => fun
  | [d1, d2, d3] => { results := [.lit (.bool true)], args := [d1, d2, d3] }
  | _ => none }
def fnExactAddCredentialRow : OpenClaim := { program := "ytpfjfnlefeocnaa", sum := "c4d18b63f858e68cae75f3c545d46e01e306d0ac75909120c35dc11d4c6a435a", func := "loop.example/g00581/laws.FnExactAddCredential", spec := "fnExactAddCredential", inPlace := ["slices.overlaps[loop.example/g00581/impl.Credential]"], unfollowed := true, recurses := true, plainKeys := false, apart := false }
def FnExactAddCredentialSaid : Prop := fnExactAddCredentialRow.holds Try.pinned (OpenSpec.ofChange fnExactAddCredentialSpec)

/-- ITS FALSE NEIGHBOUR: 'it returns false'. Refute it at one input. -/
def fnExactAddCredentialWrong : ChangeSpec := { name := "fnExactAddCredential", fn := fun _ => fun
  | [d1, d2, d3] => { results := [.lit (.bool false)], args := [d1, d2, d3] }
  | _ => none }
def FnExactAddCredentialWrongFalsely : Prop := fnExactAddCredentialRow.holds Try.pinned (OpenSpec.ofChange fnExactAddCredentialWrong)

/-- 'laws.FnExactCutCredential': WHATEVER THE INPUT: true; the input reads as it did. -/
def fnExactCutCredentialSpec : ChangeSpec := { name := "fnExactCutCredential", fn := fun _ => fun
  | [d1, d2] => { results := [.lit (.bool true)], args := [d1, d2] }
  | _ => none }
def fnExactCutCredentialRow : OpenClaim := { program := "ytpfjfnlefeocnaa", sum := "c4d18b63f858e68cae75f3c545d46e01e306d0ac75909120c35dc11d4c6a435a", func := "loop.example/g00581/laws.FnExactCutCredential", spec := "fnExactCutCredential", unfollowed := true, recurses := true, plainKeys := false, apart := false }
def FnExactCutCredentialSaid : Prop := fnExactCutCredentialRow.holds Try.pinned (OpenSpec.ofChange fnExactCutCredentialSpec)

/-- ITS FALSE NEIGHBOUR: 'it returns false'. Refute it at one input. -/
def fnExactCutCredentialWrong : ChangeSpec := { name := "fnExactCutCredential", fn := fun _ => fun
  | [d1, d2] => { results := [.lit (.bool false)], args := [d1, d2] }
  | _ => none }
def FnExactCutCredentialWrongFalsely : Prop := fnExactCutCredentialRow.holds Try.pinned (OpenSpec.ofChange fnExactCutCredentialWrong)

/-- 'laws.FnExactFindCredential': WHATEVER THE INPUT: true; the input reads as it did. -/
def fnExactFindCredentialSpec : ChangeSpec := { name := "fnExactFindCredential", fn := fun _ => fun
  | [d1, d2] => { results := [.lit (.bool true)], args := [d1, d2] }
  | _ => none }
def fnExactFindCredentialRow : OpenClaim := { program := "ytpfjfnlefeocnaa", sum := "c4d18b63f858e68cae75f3c545d46e01e306d0ac75909120c35dc11d4c6a435a", func := "loop.example/g00581/laws.FnExactFindCredential", spec := "fnExactFindCredential", unfollowed := true, recurses := true, plainKeys := false, apart := false }
def FnExactFindCredentialSaid : Prop := fnExactFindCredentialRow.holds Try.pinned (OpenSpec.ofChange fnExactFindCredentialSpec)

/-- ITS FALSE NEIGHBOUR: 'it returns false'. Refute it at one input. -/
def fnExactFindCredentialWrong : ChangeSpec := { name := "fnExactFindCredential", fn := fun _ => fun
  | [d1, d2] => { results := [.lit (.bool false)], args := [d1, d2] }
  | _ => none }
def FnExactFindCredentialWrongFalsely : Prop := fnExactFindCredentialRow.holds Try.pinned (OpenSpec.ofChange fnExactFindCredentialWrong)

/-- 'laws.FnExactRaiseMinimum': WHATEVER THE INPUT: true; the input reads as it did. -/
def fnExactRaiseMinimumSpec : ChangeSpec := { name := "fnExactRaiseMinimum", fn := fun _ => fun
  | [d1, d2] => { results := [.lit (.bool true)], args := [d1, d2] }
  | _ => none }
def fnExactRaiseMinimumRow : OpenClaim := { program := "ytpfjfnlefeocnaa", sum := "c4d18b63f858e68cae75f3c545d46e01e306d0ac75909120c35dc11d4c6a435a", func := "loop.example/g00581/laws.FnExactRaiseMinimum", spec := "fnExactRaiseMinimum", unfollowed := true, recurses := true, plainKeys := false, apart := false }
def FnExactRaiseMinimumSaid : Prop := fnExactRaiseMinimumRow.holds Try.pinned (OpenSpec.ofChange fnExactRaiseMinimumSpec)

/-- ITS FALSE NEIGHBOUR: 'it returns false'. Refute it at one input. -/
def fnExactRaiseMinimumWrong : ChangeSpec := { name := "fnExactRaiseMinimum", fn := fun _ => fun
  | [d1, d2] => { results := [.lit (.bool false)], args := [d1, d2] }
  | _ => none }
def FnExactRaiseMinimumWrongFalsely : Prop := fnExactRaiseMinimumRow.holds Try.pinned (OpenSpec.ofChange fnExactRaiseMinimumWrong)

/-- 'laws.FnExactAllowsMethod': WHATEVER THE INPUT: true; the input reads as it did. -/
def fnExactAllowsMethodSpec : ChangeSpec := { name := "fnExactAllowsMethod", fn := fun _ => fun
  | [d1, d2] => { results := [.lit (.bool true)], args := [d1, d2] }
  | _ => none }
def fnExactAllowsMethodRow : OpenClaim := { program := "ytpfjfnlefeocnaa", sum := "c4d18b63f858e68cae75f3c545d46e01e306d0ac75909120c35dc11d4c6a435a", func := "loop.example/g00581/laws.FnExactAllowsMethod", spec := "fnExactAllowsMethod", unfollowed := true, recurses := true, plainKeys := false, apart := false }
def FnExactAllowsMethodSaid : Prop := fnExactAllowsMethodRow.holds Try.pinned (OpenSpec.ofChange fnExactAllowsMethodSpec)

/-- ITS FALSE NEIGHBOUR: 'it returns false'. Refute it at one input. -/
def fnExactAllowsMethodWrong : ChangeSpec := { name := "fnExactAllowsMethod", fn := fun _ => fun
  | [d1, d2] => { results := [.lit (.bool false)], args := [d1, d2] }
  | _ => none }
def FnExactAllowsMethodWrongFalsely : Prop := fnExactAllowsMethodRow.holds Try.pinned (OpenSpec.ofChange fnExactAllowsMethodWrong)

/-- 'laws.FnExactEqualAccounts': WHATEVER THE INPUT: true; the input reads as it did. -/
def fnExactEqualAccountsSpec : ChangeSpec := { name := "fnExactEqualAccounts", fn := fun _ => fun
  | [d1, d2] => { results := [.lit (.bool true)], args := [d1, d2] }
  | _ => none }
def fnExactEqualAccountsRow : OpenClaim := { program := "ytpfjfnlefeocnaa", sum := "c4d18b63f858e68cae75f3c545d46e01e306d0ac75909120c35dc11d4c6a435a", func := "loop.example/g00581/laws.FnExactEqualAccounts", spec := "fnExactEqualAccounts", plainKeys := false, apart := false }
def FnExactEqualAccountsSaid : Prop := fnExactEqualAccountsRow.holds Try.pinned (OpenSpec.ofChange fnExactEqualAccountsSpec)

/-- ITS FALSE NEIGHBOUR: 'it returns false'. Refute it at one input. -/
def fnExactEqualAccountsWrong : ChangeSpec := { name := "fnExactEqualAccounts", fn := fun _ => fun
  | [d1, d2] => { results := [.lit (.bool false)], args := [d1, d2] }
  | _ => none }
def FnExactEqualAccountsWrongFalsely : Prop := fnExactEqualAccountsRow.holds Try.pinned (OpenSpec.ofChange fnExactEqualAccountsWrong)

/- THE SECOND FORM. 'bulk': how many values and letters a reading holds, each counted each time it is reached (what is shared counts as often as it is met; a slice's spare places count too). A statement '..UptoSaid' is the law's where the arguments, and the package variables that the reading takes, are together of bulk at most 1048576: NARROWER than '..Said'. Prove '..Said' where nothing that the law and all that it calls make is longer than what came in: it says more and counts as full. Else prove '..UptoSaid'. A law counts once. -/
mutual
def uptoBulk {H : Type} : DataW H → Nat
  | .lit (.string bytes) => bytes.length + 1
  | .lit _ => 1
  | .nil => 1
  | .ptr d => uptoBulk d + 1
  | .slice elems spare => uptoBulkAll elems + uptoBulkAll spare + 1
  | .agg parts => uptoBulkAll parts + 1
  | .iface _ d => uptoBulk d + 1
  | .map entries => uptoBulkEntries entries + 1
  | .held _ => 1
def uptoBulkAll {H : Type} : List (DataW H) → Nat
  | [] => 0
  | d :: r => uptoBulk d + uptoBulkAll r
def uptoBulkEntries {H : Type} : List (Lit × DataW H) → Nat
  | [] => 0
  | x :: r => uptoBulkEntry x + uptoBulkEntries r
def uptoBulkEntry {H : Type} : Lit × DataW H → Nat
  | (.string bytes, d) => bytes.length + uptoBulk d + 1
  | (_, d) => uptoBulk d + 1
 end
def uptoSmall : (H : Type) → List (DataW H) → Bool := fun _ ds => decide (uptoBulkAll ds ≤ 1048576)
def OpenSpec.upto (s : _root_.Go.ChangeSpec) : _root_.Go.OpenSpec := { _root_.Go.OpenSpec.ofChange s with cond := some uptoSmall }

/-- 'laws.FnCredentials', WHERE WHAT IT READS IS OF BULK AT MOST 1048576: true; the input reads as it did. -/
def fnCredentialsUptoRow : OpenClaim := { program := "ytpfjfnlefeocnaa", sum := "c4d18b63f858e68cae75f3c545d46e01e306d0ac75909120c35dc11d4c6a435a", func := "loop.example/g00581/laws.FnCredentials", spec := "fnCredentials", inPlace := ["slices.overlaps[loop.example/g00581/impl.Credential]"], unfollowed := true, recurses := true, plainKeys := false, apart := false, narrowed := true }
def FnCredentialsUptoSaid : Prop := fnCredentialsUptoRow.holds Try.pinned (OpenSpec.upto fnCredentialsSpec)

/-- 'laws.FnExactIsValidAccount', WHERE WHAT IT READS IS OF BULK AT MOST 1048576: true; the input reads as it did. -/
def fnExactIsValidAccountUptoRow : OpenClaim := { program := "ytpfjfnlefeocnaa", sum := "c4d18b63f858e68cae75f3c545d46e01e306d0ac75909120c35dc11d4c6a435a", func := "loop.example/g00581/laws.FnExactIsValidAccount", spec := "fnExactIsValidAccount", unfollowed := true, recurses := true, plainKeys := false, apart := false, narrowed := true }
def FnExactIsValidAccountUptoSaid : Prop := fnExactIsValidAccountUptoRow.holds Try.pinned (OpenSpec.upto fnExactIsValidAccountSpec)

/-- 'laws.FnExactAddCredential', WHERE WHAT IT READS IS OF BULK AT MOST 1048576: true; the input reads as it did. -/
def fnExactAddCredentialUptoRow : OpenClaim := { program := "ytpfjfnlefeocnaa", sum := "c4d18b63f858e68cae75f3c545d46e01e306d0ac75909120c35dc11d4c6a435a", func := "loop.example/g00581/laws.FnExactAddCredential", spec := "fnExactAddCredential", inPlace := ["slices.overlaps[loop.example/g00581/impl.Credential]"], unfollowed := true, recurses := true, plainKeys := false, apart := false, narrowed := true }
def FnExactAddCredentialUptoSaid : Prop := fnExactAddCredentialUptoRow.holds Try.pinned (OpenSpec.upto fnExactAddCredentialSpec)

/-- 'laws.FnExactCutCredential', WHERE WHAT IT READS IS OF BULK AT MOST 1048576: true; the input reads as it did. -/
def fnExactCutCredentialUptoRow : OpenClaim := { program := "ytpfjfnlefeocnaa", sum := "c4d18b63f858e68cae75f3c545d46e01e306d0ac75909120c35dc11d4c6a435a", func := "loop.example/g00581/laws.FnExactCutCredential", spec := "fnExactCutCredential", unfollowed := true, recurses := true, plainKeys := false, apart := false, narrowed := true }
def FnExactCutCredentialUptoSaid : Prop := fnExactCutCredentialUptoRow.holds Try.pinned (OpenSpec.upto fnExactCutCredentialSpec)

/-- 'laws.FnExactFindCredential', WHERE WHAT IT READS IS OF BULK AT MOST 1048576: true; the input reads as it did. -/
def fnExactFindCredentialUptoRow : OpenClaim := { program := "ytpfjfnlefeocnaa", sum := "c4d18b63f858e68cae75f3c545d46e01e306d0ac75909120c35dc11d4c6a435a", func := "loop.example/g00581/laws.FnExactFindCredential", spec := "fnExactFindCredential", unfollowed := true, recurses := true, plainKeys := false, apart := false, narrowed := true }
def FnExactFindCredentialUptoSaid : Prop := fnExactFindCredentialUptoRow.holds Try.pinned (OpenSpec.upto fnExactFindCredentialSpec)

/-- 'laws.FnExactRaiseMinimum', WHERE WHAT IT READS IS OF BULK AT MOST 1048576: true; the input reads as it did. -/
def fnExactRaiseMinimumUptoRow : OpenClaim := { program := "ytpfjfnlefeocnaa", sum := "c4d18b63f858e68cae75f3c545d46e01e306d0ac75909120c35dc11d4c6a435a", func := "loop.example/g00581/laws.FnExactRaiseMinimum", spec := "fnExactRaiseMinimum", unfollowed := true, recurses := true, plainKeys := false, apart := false, narrowed := true }
def FnExactRaiseMinimumUptoSaid : Prop := fnExactRaiseMinimumUptoRow.holds Try.pinned (OpenSpec.upto fnExactRaiseMinimumSpec)

/-- 'laws.FnExactAllowsMethod', WHERE WHAT IT READS IS OF BULK AT MOST 1048576: true; the input reads as it did. -/
def fnExactAllowsMethodUptoRow : OpenClaim := { program := "ytpfjfnlefeocnaa", sum := "c4d18b63f858e68cae75f3c545d46e01e306d0ac75909120c35dc11d4c6a435a", func := "loop.example/g00581/laws.FnExactAllowsMethod", spec := "fnExactAllowsMethod", unfollowed := true, recurses := true, plainKeys := false, apart := false, narrowed := true }
def FnExactAllowsMethodUptoSaid : Prop := fnExactAllowsMethodUptoRow.holds Try.pinned (OpenSpec.upto fnExactAllowsMethodSpec)

/-- 'laws.FnExactEqualAccounts', WHERE WHAT IT READS IS OF BULK AT MOST 1048576: true; the input reads as it did. -/
def fnExactEqualAccountsUptoRow : OpenClaim := { program := "ytpfjfnlefeocnaa", sum := "c4d18b63f858e68cae75f3c545d46e01e306d0ac75909120c35dc11d4c6a435a", func := "loop.example/g00581/laws.FnExactEqualAccounts", spec := "fnExactEqualAccounts", plainKeys := false, apart := false, narrowed := true }
def FnExactEqualAccountsUptoSaid : Prop := fnExactEqualAccountsUptoRow.holds Try.pinned (OpenSpec.upto fnExactEqualAccountsSpec)

end Rows
end Go.Proofs.Ytpfjfnlefeocnaa
