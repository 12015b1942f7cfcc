/-
  No cell of these rows narrows 'for every input' (looked for: loops, veiled, ifaces, maps, wideKeys, modest, calm, conditions, laid).
  DERIVED. THE GIVEN ROWS OF THIS SEAT. 7 by the template 'for every input the law returns true; each argument reads behind the call as it read before'; 0 by the template 'total and deterministic' (their statements: YtogoppknimpkbaaTotals.lean).
  GIVEN WITH THE SEED: the statements are not yours to turn. If you find one false, say at which input.
  Laid BY PROGRAM, IN A SANDBOX (cutbox-rows.mjs): the forced cells as the released guide's own fill.sh prints them over the translation 11f7d42b013ce485… (all of the seat's roots in one cut). By AI agents, Wed Nov 11 2026. No macro, syntax, notation, axiom, sorry.
-/
import Derived.Test.YtogoppknimpkbaaChecked
import GoSem.Claim
import GoSem.ClaimJoined
import GoSem.ClaimMapViews
import Derived.JoinedTies
import Derived.KernelRfl
namespace Go.Proofs.Ytogoppknimpkbaa
/- THE CELL 'sum', in the pinned program and in every row, IS THE sha256 OF THE DUMP (.gsa) THAT YtogoppknimpkbaaProg.lean LOADS. Nothing in Lean hashes anything: it is a label: what it is worth is what the hold of that sum in a sandbox is worth. -/
noncomputable def Try.pinned : Pinned := { name := "ytogoppknimpkbaa", sum := "11f7d42b013ce485a9f1e5221c080b696c50c6e37b0c17617a48a9b8336ccc0e", checked := Try.checked }
namespace Rows
def none {H : Type} : Left H := { results := [], args := [] }

/-- 'laws.FnExactOpenTab': WHATEVER THE INPUT: true; the input reads as it did. -/
def fnExactOpenTabSpec : ChangeSpec := { name := "fnExactOpenTab", fn := fun _ => fun
  | [d1, d2, d3] => { results := [.lit (.bool true)], args := [d1, d2, d3] }
  | _ => none }
def fnExactOpenTabRow : OpenClaim := { program := "ytogoppknimpkbaa", sum := "11f7d42b013ce485a9f1e5221c080b696c50c6e37b0c17617a48a9b8336ccc0e", func := "loop.example/g00581/laws.FnExactOpenTab", spec := "fnExactOpenTab", apart := false }
def FnExactOpenTabSaid : Prop := fnExactOpenTabRow.holds Try.pinned (OpenSpec.ofChange fnExactOpenTabSpec)

/-- ITS FALSE NEIGHBOUR: 'it returns false'. Refute it at one input. -/
def fnExactOpenTabWrong : ChangeSpec := { name := "fnExactOpenTab", fn := fun _ => fun
  | [d1, d2, d3] => { results := [.lit (.bool false)], args := [d1, d2, d3] }
  | _ => none }
def FnExactOpenTabWrongFalsely : Prop := fnExactOpenTabRow.holds Try.pinned (OpenSpec.ofChange fnExactOpenTabWrong)

/-- 'laws.FnExactCanAsk': WHATEVER THE INPUT: true; the input reads as it did. -/
def fnExactCanAskSpec : ChangeSpec := { name := "fnExactCanAsk", fn := fun _ => fun
  | [d1, d2, d3] => { results := [.lit (.bool true)], args := [d1, d2, d3] }
  | _ => none }
def fnExactCanAskRow : OpenClaim := { program := "ytogoppknimpkbaa", sum := "11f7d42b013ce485a9f1e5221c080b696c50c6e37b0c17617a48a9b8336ccc0e", func := "loop.example/g00581/laws.FnExactCanAsk", spec := "fnExactCanAsk", inPlace := ["internal/bytealg.IndexByteString", "internal/bytealg.IndexString"], named := ["internal/bytealg.MaxLen"], apart := false }
def FnExactCanAskSaid : Prop := fnExactCanAskRow.holds Try.pinned (OpenSpec.ofChange fnExactCanAskSpec)

/-- ITS FALSE NEIGHBOUR: 'it returns false'. Refute it at one input. -/
def fnExactCanAskWrong : ChangeSpec := { name := "fnExactCanAsk", fn := fun _ => fun
  | [d1, d2, d3] => { results := [.lit (.bool false)], args := [d1, d2, d3] }
  | _ => none }
def FnExactCanAskWrongFalsely : Prop := fnExactCanAskRow.holds Try.pinned (OpenSpec.ofChange fnExactCanAskWrong)

/-- 'laws.FnExactAskRegistration': WHATEVER THE INPUT: true; the input reads as it did. -/
def fnExactAskRegistrationSpec : ChangeSpec := { name := "fnExactAskRegistration", fn := fun _ => fun
  | [d1, d2, d3, d4, d5] => { results := [.lit (.bool true)], args := [d1, d2, d3, d4, d5] }
  | _ => none }
def fnExactAskRegistrationRow : OpenClaim := { program := "ytogoppknimpkbaa", sum := "11f7d42b013ce485a9f1e5221c080b696c50c6e37b0c17617a48a9b8336ccc0e", func := "loop.example/g00581/laws.FnExactAskRegistration", spec := "fnExactAskRegistration", inPlace := ["internal/bytealg.IndexByteString", "internal/bytealg.IndexString"], named := ["internal/bytealg.MaxLen"], apart := false }
def FnExactAskRegistrationSaid : Prop := fnExactAskRegistrationRow.holds Try.pinned (OpenSpec.ofChange fnExactAskRegistrationSpec)

/-- ITS FALSE NEIGHBOUR: 'it returns false'. Refute it at one input. -/
def fnExactAskRegistrationWrong : ChangeSpec := { name := "fnExactAskRegistration", fn := fun _ => fun
  | [d1, d2, d3, d4, d5] => { results := [.lit (.bool false)], args := [d1, d2, d3, d4, d5] }
  | _ => none }
def FnExactAskRegistrationWrongFalsely : Prop := fnExactAskRegistrationRow.holds Try.pinned (OpenSpec.ofChange fnExactAskRegistrationWrong)

/-- 'laws.FnExactNavigateTab': WHATEVER THE INPUT: true; the input reads as it did. -/
def fnExactNavigateTabSpec : ChangeSpec := { name := "fnExactNavigateTab", fn := fun _ => fun
  | [d1, d2, d3] => { results := [.lit (.bool true)], args := [d1, d2, d3] }
  | _ => none }
def fnExactNavigateTabRow : OpenClaim := { program := "ytogoppknimpkbaa", sum := "11f7d42b013ce485a9f1e5221c080b696c50c6e37b0c17617a48a9b8336ccc0e", func := "loop.example/g00581/laws.FnExactNavigateTab", spec := "fnExactNavigateTab", apart := false }
def FnExactNavigateTabSaid : Prop := fnExactNavigateTabRow.holds Try.pinned (OpenSpec.ofChange fnExactNavigateTabSpec)

/-- ITS FALSE NEIGHBOUR: 'it returns false'. Refute it at one input. -/
def fnExactNavigateTabWrong : ChangeSpec := { name := "fnExactNavigateTab", fn := fun _ => fun
  | [d1, d2, d3] => { results := [.lit (.bool false)], args := [d1, d2, d3] }
  | _ => none }
def FnExactNavigateTabWrongFalsely : Prop := fnExactNavigateTabRow.holds Try.pinned (OpenSpec.ofChange fnExactNavigateTabWrong)

/-- 'laws.FnExactEqualBrowsers': WHATEVER THE INPUT: true; the input reads as it did. -/
def fnExactEqualBrowsersSpec : ChangeSpec := { name := "fnExactEqualBrowsers", fn := fun _ => fun
  | [d1, d2] => { results := [.lit (.bool true)], args := [d1, d2] }
  | _ => none }
def fnExactEqualBrowsersRow : OpenClaim := { program := "ytogoppknimpkbaa", sum := "11f7d42b013ce485a9f1e5221c080b696c50c6e37b0c17617a48a9b8336ccc0e", func := "loop.example/g00581/laws.FnExactEqualBrowsers", spec := "fnExactEqualBrowsers", apart := false }
def FnExactEqualBrowsersSaid : Prop := fnExactEqualBrowsersRow.holds Try.pinned (OpenSpec.ofChange fnExactEqualBrowsersSpec)

/-- ITS FALSE NEIGHBOUR: 'it returns false'. Refute it at one input. -/
def fnExactEqualBrowsersWrong : ChangeSpec := { name := "fnExactEqualBrowsers", fn := fun _ => fun
  | [d1, d2] => { results := [.lit (.bool false)], args := [d1, d2] }
  | _ => none }
def FnExactEqualBrowsersWrongFalsely : Prop := fnExactEqualBrowsersRow.holds Try.pinned (OpenSpec.ofChange fnExactEqualBrowsersWrong)

/-- 'laws.FnExactIsSameSite': WHATEVER THE INPUT: true; the input reads as it did. -/
def fnExactIsSameSiteSpec : ChangeSpec := { name := "fnExactIsSameSite", fn := fun _ => fun
  | [d1, d2] => { results := [.lit (.bool true)], args := [d1, d2] }
  | _ => none }
def fnExactIsSameSiteRow : OpenClaim := { program := "ytogoppknimpkbaa", sum := "11f7d42b013ce485a9f1e5221c080b696c50c6e37b0c17617a48a9b8336ccc0e", func := "loop.example/g00581/laws.FnExactIsSameSite", spec := "fnExactIsSameSite", apart := false }
def FnExactIsSameSiteSaid : Prop := fnExactIsSameSiteRow.holds Try.pinned (OpenSpec.ofChange fnExactIsSameSiteSpec)

/-- ITS FALSE NEIGHBOUR: 'it returns false'. Refute it at one input. -/
def fnExactIsSameSiteWrong : ChangeSpec := { name := "fnExactIsSameSite", fn := fun _ => fun
  | [d1, d2] => { results := [.lit (.bool false)], args := [d1, d2] }
  | _ => none }
def FnExactIsSameSiteWrongFalsely : Prop := fnExactIsSameSiteRow.holds Try.pinned (OpenSpec.ofChange fnExactIsSameSiteWrong)

/-- 'laws.FnExactMayUse': WHATEVER THE INPUT: true; the input reads as it did. -/
def fnExactMayUseSpec : ChangeSpec := { name := "fnExactMayUse", fn := fun _ => fun
  | [d1, d2] => { results := [.lit (.bool true)], args := [d1, d2] }
  | _ => none }
def fnExactMayUseRow : OpenClaim := { program := "ytogoppknimpkbaa", sum := "11f7d42b013ce485a9f1e5221c080b696c50c6e37b0c17617a48a9b8336ccc0e", func := "loop.example/g00581/laws.FnExactMayUse", spec := "fnExactMayUse", inPlace := ["internal/bytealg.IndexByteString", "internal/bytealg.IndexString"], named := ["internal/bytealg.MaxLen"], apart := false }
def FnExactMayUseSaid : Prop := fnExactMayUseRow.holds Try.pinned (OpenSpec.ofChange fnExactMayUseSpec)

/-- ITS FALSE NEIGHBOUR: 'it returns false'. Refute it at one input. -/
def fnExactMayUseWrong : ChangeSpec := { name := "fnExactMayUse", fn := fun _ => fun
  | [d1, d2] => { results := [.lit (.bool false)], args := [d1, d2] }
  | _ => none }
def FnExactMayUseWrongFalsely : Prop := fnExactMayUseRow.holds Try.pinned (OpenSpec.ofChange fnExactMayUseWrong)

/- THE SECOND FORM. 'bulk': how many values and letters a reading holds, each counted each time it is reached (what is shared counts as often as it is met; a slice's spare places count too). A statement '..UptoSaid' is the law's where the arguments, and the package variables that the reading takes, are together of bulk at most 1048576: NARROWER than '..Said'. Prove '..Said' where nothing that the law and all that it calls make is longer than what came in: it says more and counts as full. Else prove '..UptoSaid'. A law counts once. -/
mutual
def uptoBulk {H : Type} : DataW H → Nat
  | .lit (.string bytes) => bytes.length + 1
  | .lit _ => 1
  | .nil => 1
  | .ptr d => uptoBulk d + 1
  | .slice elems spare => uptoBulkAll elems + uptoBulkAll spare + 1
  | .agg parts => uptoBulkAll parts + 1
  | .iface _ d => uptoBulk d + 1
  | .map entries => uptoBulkEntries entries + 1
  | .held _ => 1
def uptoBulkAll {H : Type} : List (DataW H) → Nat
  | [] => 0
  | d :: r => uptoBulk d + uptoBulkAll r
def uptoBulkEntries {H : Type} : List (Lit × DataW H) → Nat
  | [] => 0
  | x :: r => uptoBulkEntry x + uptoBulkEntries r
def uptoBulkEntry {H : Type} : Lit × DataW H → Nat
  | (.string bytes, d) => bytes.length + uptoBulk d + 1
  | (_, d) => uptoBulk d + 1
 end
def uptoSmall : (H : Type) → List (DataW H) → Bool := fun _ ds => decide (uptoBulkAll ds ≤ 1048576)
def OpenSpec.upto (s : _root_.Go.ChangeSpec) : _root_.Go.OpenSpec := { _root_.Go.OpenSpec.ofChange s with cond := some uptoSmall }

/-- 'laws.FnExactOpenTab', WHERE WHAT IT READS IS OF BULK AT MOST 1048576: true; the input reads as it did. -/
def fnExactOpenTabUptoRow : OpenClaim := { program := "ytogoppknimpkbaa", sum := "11f7d42b013ce485a9f1e5221c080b696c50c6e37b0c17617a48a9b8336ccc0e", func := "loop.example/g00581/laws.FnExactOpenTab", spec := "fnExactOpenTab", apart := false, narrowed := true }
def FnExactOpenTabUptoSaid : Prop := fnExactOpenTabUptoRow.holds Try.pinned (OpenSpec.upto fnExactOpenTabSpec)

/-- 'laws.FnExactCanAsk', WHERE WHAT IT READS IS OF BULK AT MOST 1048576: true; the input reads as it did. -/
def fnExactCanAskUptoRow : OpenClaim := { program := "ytogoppknimpkbaa", sum := "11f7d42b013ce485a9f1e5221c080b696c50c6e37b0c17617a48a9b8336ccc0e", func := "loop.example/g00581/laws.FnExactCanAsk", spec := "fnExactCanAsk", inPlace := ["internal/bytealg.IndexByteString", "internal/bytealg.IndexString"], named := ["internal/bytealg.MaxLen"], apart := false, narrowed := true }
def FnExactCanAskUptoSaid : Prop := fnExactCanAskUptoRow.holds Try.pinned (OpenSpec.upto fnExactCanAskSpec)

/-- 'laws.FnExactAskRegistration', WHERE WHAT IT READS IS OF BULK AT MOST 1048576: true; the input reads as it did. -/
def fnExactAskRegistrationUptoRow : OpenClaim := { program := "ytogoppknimpkbaa", sum := "11f7d42b013ce485a9f1e5221c080b696c50c6e37b0c17617a48a9b8336ccc0e", func := "loop.example/g00581/laws.FnExactAskRegistration", spec := "fnExactAskRegistration", inPlace := ["internal/bytealg.IndexByteString", "internal/bytealg.IndexString"], named := ["internal/bytealg.MaxLen"], apart := false, narrowed := true }
def FnExactAskRegistrationUptoSaid : Prop := fnExactAskRegistrationUptoRow.holds Try.pinned (OpenSpec.upto fnExactAskRegistrationSpec)

/-- 'laws.FnExactNavigateTab', WHERE WHAT IT READS IS OF BULK AT MOST 1048576: true; the input reads as it did. -/
def fnExactNavigateTabUptoRow : OpenClaim := { program := "ytogoppknimpkbaa", sum := "11f7d42b013ce485a9f1e5221c080b696c50c6e37b0c17617a48a9b8336ccc0e", func := "loop.example/g00581/laws.FnExactNavigateTab", spec := "fnExactNavigateTab", apart := false, narrowed := true }
def FnExactNavigateTabUptoSaid : Prop := fnExactNavigateTabUptoRow.holds Try.pinned (OpenSpec.upto fnExactNavigateTabSpec)

/-- 'laws.FnExactEqualBrowsers', WHERE WHAT IT READS IS OF BULK AT MOST 1048576: true; the input reads as it did. -/
def fnExactEqualBrowsersUptoRow : OpenClaim := { program := "ytogoppknimpkbaa", sum := "11f7d42b013ce485a9f1e5221c080b696c50c6e37b0c17617a48a9b8336ccc0e", func := "loop.example/g00581/laws.FnExactEqualBrowsers", spec := "fnExactEqualBrowsers", apart := false, narrowed := true }
def FnExactEqualBrowsersUptoSaid : Prop := fnExactEqualBrowsersUptoRow.holds Try.pinned (OpenSpec.upto fnExactEqualBrowsersSpec)

/-- 'laws.FnExactIsSameSite', WHERE WHAT IT READS IS OF BULK AT MOST 1048576: true; the input reads as it did. -/
def fnExactIsSameSiteUptoRow : OpenClaim := { program := "ytogoppknimpkbaa", sum := "11f7d42b013ce485a9f1e5221c080b696c50c6e37b0c17617a48a9b8336ccc0e", func := "loop.example/g00581/laws.FnExactIsSameSite", spec := "fnExactIsSameSite", apart := false, narrowed := true }
def FnExactIsSameSiteUptoSaid : Prop := fnExactIsSameSiteUptoRow.holds Try.pinned (OpenSpec.upto fnExactIsSameSiteSpec)

/-- 'laws.FnExactMayUse', WHERE WHAT IT READS IS OF BULK AT MOST 1048576: true; the input reads as it did. -/
def fnExactMayUseUptoRow : OpenClaim := { program := "ytogoppknimpkbaa", sum := "11f7d42b013ce485a9f1e5221c080b696c50c6e37b0c17617a48a9b8336ccc0e", func := "loop.example/g00581/laws.FnExactMayUse", spec := "fnExactMayUse", inPlace := ["internal/bytealg.IndexByteString", "internal/bytealg.IndexString"], named := ["internal/bytealg.MaxLen"], apart := false, narrowed := true }
def FnExactMayUseUptoSaid : Prop := fnExactMayUseUptoRow.holds Try.pinned (OpenSpec.upto fnExactMayUseSpec)

end Rows
end Go.Proofs.Ytogoppknimpkbaa
