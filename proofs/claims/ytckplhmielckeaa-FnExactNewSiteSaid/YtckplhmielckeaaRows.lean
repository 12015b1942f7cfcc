/-
  No cell of these rows narrows 'for every input' (looked for: loops, veiled, ifaces, maps, wideKeys, modest, calm, conditions, laid).
  DERIVED. THE GIVEN ROWS OF THIS SEAT. 5 by the template 'for every input the law returns true; each argument reads behind the call as it read before'; 0 by the template 'total and deterministic' (their statements: YtckplhmielckeaaTotals.lean).
  GIVEN WITH THE SEED: the statements are not yours to turn. If you find one false, say at which input.
  Laid BY PROGRAM, IN A SANDBOX (cutbox-rows.mjs): the forced cells as the released guide's own fill.sh prints them over the translation 248c5ce284521165… (all of the seat's roots in one cut). By AI agents, Wed Nov 11 2026. No macro, syntax, notation, axiom, sorry.
-/
import Derived.Test.YtckplhmielckeaaChecked
import GoSem.Claim
import GoSem.ClaimJoined
import GoSem.ClaimMapViews
import Derived.JoinedTies
import Derived.KernelRfl
namespace Go.Proofs.Ytckplhmielckeaa
/- THE CELL 'sum', in the pinned program and in every row, IS THE sha256 OF THE DUMP (.gsa) THAT YtckplhmielckeaaProg.lean LOADS. Nothing in Lean hashes anything: it is a label: what it is worth is what the hold of that sum in a sandbox is worth. -/
noncomputable def Try.pinned : Pinned := { name := "ytckplhmielckeaa", sum := "248c5ce2845211658c226969cf21419e3f0d0eda69a893b3e19f53d6d1998a1e", checked := Try.checked }
namespace Rows
def none {H : Type} : Left H := { results := [], args := [] }

/-- 'laws.FnExactNewSite': WHATEVER THE INPUT: true; the input reads as it did. -/
def fnExactNewSiteSpec : ChangeSpec := { name := "fnExactNewSite", fn := fun _ => fun
  | [d1, d2] => { results := [.lit (.bool true)], args := [d1, d2] }
  | _ => none }
def fnExactNewSiteRow : OpenClaim := { program := "ytckplhmielckeaa", sum := "248c5ce2845211658c226969cf21419e3f0d0eda69a893b3e19f53d6d1998a1e", func := "loop.example/g00581/laws.FnExactNewSite", spec := "fnExactNewSite", inPlace := ["internal/bytealg.IndexByteString", "internal/bytealg.IndexString"], named := ["internal/bytealg.MaxLen"], plainKeys := false, apart := false }
def FnExactNewSiteSaid : Prop := fnExactNewSiteRow.holds Try.pinned (OpenSpec.ofChange fnExactNewSiteSpec)

/-- ITS FALSE NEIGHBOUR: 'it returns false'. Refute it at one input. -/
def fnExactNewSiteWrong : ChangeSpec := { name := "fnExactNewSite", fn := fun _ => fun
  | [d1, d2] => { results := [.lit (.bool false)], args := [d1, d2] }
  | _ => none }
def FnExactNewSiteWrongFalsely : Prop := fnExactNewSiteRow.holds Try.pinned (OpenSpec.ofChange fnExactNewSiteWrong)

/-- 'laws.FnExactIsValidSite': WHATEVER THE INPUT: true; the input reads as it did. -/
def fnExactIsValidSiteSpec : ChangeSpec := { name := "fnExactIsValidSite", fn := fun _ => fun
  | [d] => { results := [.lit (.bool true)], args := [d] }
  | _ => none }
def fnExactIsValidSiteRow : OpenClaim := { program := "ytckplhmielckeaa", sum := "248c5ce2845211658c226969cf21419e3f0d0eda69a893b3e19f53d6d1998a1e", func := "loop.example/g00581/laws.FnExactIsValidSite", spec := "fnExactIsValidSite", inPlace := ["internal/bytealg.IndexByteString", "internal/bytealg.IndexString"], unfollowed := true, recurses := true, named := ["internal/bytealg.MaxLen"], plainKeys := false, apart := false }
def FnExactIsValidSiteSaid : Prop := fnExactIsValidSiteRow.holds Try.pinned (OpenSpec.ofChange fnExactIsValidSiteSpec)

/-- ITS FALSE NEIGHBOUR: 'it returns false'. Refute it at one input. -/
def fnExactIsValidSiteWrong : ChangeSpec := { name := "fnExactIsValidSite", fn := fun _ => fun
  | [d] => { results := [.lit (.bool false)], args := [d] }
  | _ => none }
def FnExactIsValidSiteWrongFalsely : Prop := fnExactIsValidSiteRow.holds Try.pinned (OpenSpec.ofChange fnExactIsValidSiteWrong)

/-- 'laws.FnExactOpenAccount': WHATEVER THE INPUT: true; the input reads as it did. -/
def fnExactOpenAccountSpec : ChangeSpec := { name := "fnExactOpenAccount", fn := fun _ => fun
  | [d1, d2, d3] => { results := [.lit (.bool true)], args := [d1, d2, d3] }
  | _ => none }
def fnExactOpenAccountRow : OpenClaim := { program := "ytckplhmielckeaa", sum := "248c5ce2845211658c226969cf21419e3f0d0eda69a893b3e19f53d6d1998a1e", func := "loop.example/g00581/laws.FnExactOpenAccount", spec := "fnExactOpenAccount", inPlace := ["slices.overlaps[loop.example/g00581/impl.Account]", "internal/bytealg.IndexByteString", "internal/bytealg.IndexString"], unfollowed := true, recurses := true, named := ["internal/bytealg.MaxLen"], plainKeys := false, apart := false }
def FnExactOpenAccountSaid : Prop := fnExactOpenAccountRow.holds Try.pinned (OpenSpec.ofChange fnExactOpenAccountSpec)

/-- ITS FALSE NEIGHBOUR: 'it returns false'. Refute it at one input. -/
def fnExactOpenAccountWrong : ChangeSpec := { name := "fnExactOpenAccount", fn := fun _ => fun
  | [d1, d2, d3] => { results := [.lit (.bool false)], args := [d1, d2, d3] }
  | _ => none }
def FnExactOpenAccountWrongFalsely : Prop := fnExactOpenAccountRow.holds Try.pinned (OpenSpec.ofChange fnExactOpenAccountWrong)

/-- 'laws.FnExactFindAccount': WHATEVER THE INPUT: true; the input reads as it did. -/
def fnExactFindAccountSpec : ChangeSpec := { name := "fnExactFindAccount", fn := fun _ => fun
  | [d1, d2] => { results := [.lit (.bool true)], args := [d1, d2] }
  | _ => none }
def fnExactFindAccountRow : OpenClaim := { program := "ytckplhmielckeaa", sum := "248c5ce2845211658c226969cf21419e3f0d0eda69a893b3e19f53d6d1998a1e", func := "loop.example/g00581/laws.FnExactFindAccount", spec := "fnExactFindAccount", unfollowed := true, recurses := true, plainKeys := false, apart := false }
def FnExactFindAccountSaid : Prop := fnExactFindAccountRow.holds Try.pinned (OpenSpec.ofChange fnExactFindAccountSpec)

/-- ITS FALSE NEIGHBOUR: 'it returns false'. Refute it at one input. -/
def fnExactFindAccountWrong : ChangeSpec := { name := "fnExactFindAccount", fn := fun _ => fun
  | [d1, d2] => { results := [.lit (.bool false)], args := [d1, d2] }
  | _ => none }
def FnExactFindAccountWrongFalsely : Prop := fnExactFindAccountRow.holds Try.pinned (OpenSpec.ofChange fnExactFindAccountWrong)

/-- 'laws.FnExactEqualSites': WHATEVER THE INPUT: true; the input reads as it did. -/
def fnExactEqualSitesSpec : ChangeSpec := { name := "fnExactEqualSites", fn := fun _ => fun
  | [d1, d2] => { results := [.lit (.bool true)], args := [d1, d2] }
  | _ => none }
def fnExactEqualSitesRow : OpenClaim := { program := "ytckplhmielckeaa", sum := "248c5ce2845211658c226969cf21419e3f0d0eda69a893b3e19f53d6d1998a1e", func := "loop.example/g00581/laws.FnExactEqualSites", spec := "fnExactEqualSites", unfollowed := true, recurses := true, plainKeys := false, apart := false }
def FnExactEqualSitesSaid : Prop := fnExactEqualSitesRow.holds Try.pinned (OpenSpec.ofChange fnExactEqualSitesSpec)

/-- ITS FALSE NEIGHBOUR: 'it returns false'. Refute it at one input. -/
def fnExactEqualSitesWrong : ChangeSpec := { name := "fnExactEqualSites", fn := fun _ => fun
  | [d1, d2] => { results := [.lit (.bool false)], args := [d1, d2] }
  | _ => none }
def FnExactEqualSitesWrongFalsely : Prop := fnExactEqualSitesRow.holds Try.pinned (OpenSpec.ofChange fnExactEqualSitesWrong)

/- THE SECOND FORM. 'bulk': how many values and letters a reading holds, each counted each time it is reached (what is shared counts as often as it is met; a slice's spare places count too). A statement '..UptoSaid' is the law's where the arguments, and the package variables that the reading takes, are together of bulk at most 1048576: NARROWER than '..Said'. Prove '..Said' where nothing that the law and all that it calls make is longer than what came in: it says more and counts as full. Else prove '..UptoSaid'. A law counts once. -/
mutual
def uptoBulk {H : Type} : DataW H → Nat
  | .lit (.string bytes) => bytes.length + 1
  | .lit _ => 1
  | .nil => 1
  | .ptr d => uptoBulk d + 1
  | .slice elems spare => uptoBulkAll elems + uptoBulkAll spare + 1
  | .agg parts => uptoBulkAll parts + 1
  | .iface _ d => uptoBulk d + 1
  | .map entries => uptoBulkEntries entries + 1
  | .held _ => 1
def uptoBulkAll {H : Type} : List (DataW H) → Nat
  | [] => 0
  | d :: r => uptoBulk d + uptoBulkAll r
def uptoBulkEntries {H : Type} : List (Lit × DataW H) → Nat
  | [] => 0
  | x :: r => uptoBulkEntry x + uptoBulkEntries r
def uptoBulkEntry {H : Type} : Lit × DataW H → Nat
  | (.string bytes, d) => bytes.length + uptoBulk d + 1
  | (_, d) => uptoBulk d + 1
 end
def uptoSmall : (H : Type) → List (DataW H) → Bool := fun _ ds => decide (uptoBulkAll ds ≤ 1048576)
def OpenSpec.upto (s : _root_.Go.ChangeSpec) : _root_.Go.OpenSpec := { _root_.Go.OpenSpec.ofChange s with cond := some uptoSmall }

/-- 'laws.FnExactNewSite', WHERE WHAT IT READS IS OF BULK AT MOST 1048576: true; the input reads as it did. -/
def fnExactNewSiteUptoRow : OpenClaim := { program := "ytckplhmielckeaa", sum := "248c5ce2845211658c226969cf21419e3f0d0eda69a893b3e19f53d6d1998a1e", func := "loop.example/g00581/laws.FnExactNewSite", spec := "fnExactNewSite", inPlace := ["internal/bytealg.IndexByteString", "internal/bytealg.IndexString"], named := ["internal/bytealg.MaxLen"], plainKeys := false, apart := false, narrowed := true }
def FnExactNewSiteUptoSaid : Prop := fnExactNewSiteUptoRow.holds Try.pinned (OpenSpec.upto fnExactNewSiteSpec)

/-- 'laws.FnExactIsValidSite', WHERE WHAT IT READS IS OF BULK AT MOST 1048576: true; the input reads as it did. -/
def fnExactIsValidSiteUptoRow : OpenClaim := { program := "ytckplhmielckeaa", sum := "248c5ce2845211658c226969cf21419e3f0d0eda69a893b3e19f53d6d1998a1e", func := "loop.example/g00581/laws.FnExactIsValidSite", spec := "fnExactIsValidSite", inPlace := ["internal/bytealg.IndexByteString", "internal/bytealg.IndexString"], unfollowed := true, recurses := true, named := ["internal/bytealg.MaxLen"], plainKeys := false, apart := false, narrowed := true }
def FnExactIsValidSiteUptoSaid : Prop := fnExactIsValidSiteUptoRow.holds Try.pinned (OpenSpec.upto fnExactIsValidSiteSpec)

/-- 'laws.FnExactOpenAccount', WHERE WHAT IT READS IS OF BULK AT MOST 1048576: true; the input reads as it did. -/
def fnExactOpenAccountUptoRow : OpenClaim := { program := "ytckplhmielckeaa", sum := "248c5ce2845211658c226969cf21419e3f0d0eda69a893b3e19f53d6d1998a1e", func := "loop.example/g00581/laws.FnExactOpenAccount", spec := "fnExactOpenAccount", inPlace := ["slices.overlaps[loop.example/g00581/impl.Account]", "internal/bytealg.IndexByteString", "internal/bytealg.IndexString"], unfollowed := true, recurses := true, named := ["internal/bytealg.MaxLen"], plainKeys := false, apart := false, narrowed := true }
def FnExactOpenAccountUptoSaid : Prop := fnExactOpenAccountUptoRow.holds Try.pinned (OpenSpec.upto fnExactOpenAccountSpec)

/-- 'laws.FnExactFindAccount', WHERE WHAT IT READS IS OF BULK AT MOST 1048576: true; the input reads as it did. -/
def fnExactFindAccountUptoRow : OpenClaim := { program := "ytckplhmielckeaa", sum := "248c5ce2845211658c226969cf21419e3f0d0eda69a893b3e19f53d6d1998a1e", func := "loop.example/g00581/laws.FnExactFindAccount", spec := "fnExactFindAccount", unfollowed := true, recurses := true, plainKeys := false, apart := false, narrowed := true }
def FnExactFindAccountUptoSaid : Prop := fnExactFindAccountUptoRow.holds Try.pinned (OpenSpec.upto fnExactFindAccountSpec)

/-- 'laws.FnExactEqualSites', WHERE WHAT IT READS IS OF BULK AT MOST 1048576: true; the input reads as it did. -/
def fnExactEqualSitesUptoRow : OpenClaim := { program := "ytckplhmielckeaa", sum := "248c5ce2845211658c226969cf21419e3f0d0eda69a893b3e19f53d6d1998a1e", func := "loop.example/g00581/laws.FnExactEqualSites", spec := "fnExactEqualSites", unfollowed := true, recurses := true, plainKeys := false, apart := false, narrowed := true }
def FnExactEqualSitesUptoSaid : Prop := fnExactEqualSitesUptoRow.holds Try.pinned (OpenSpec.upto fnExactEqualSitesSpec)

end Rows
end Go.Proofs.Ytckplhmielckeaa
