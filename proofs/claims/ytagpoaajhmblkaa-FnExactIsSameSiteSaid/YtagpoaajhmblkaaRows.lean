/-
  No cell of these rows narrows 'for every input' (looked for: loops, veiled, ifaces, maps, wideKeys, modest, calm, conditions, laid).
  DERIVED. THE GIVEN ROWS OF THIS SEAT. 6 by the template 'for every input the law returns true; each argument reads behind the call as it read before'; 0 by the template 'total and deterministic' (their statements: YtagpoaajhmblkaaTotals.lean).
  GIVEN WITH THE SEED: the statements are not yours to turn. If you find one false, say at which input.
  Laid BY PROGRAM, IN A SANDBOX (cutbox-rows.mjs): the forced cells as the released guide's own fill.sh prints them over the translation f6e5268bcf043915… (all of the seat's roots in one cut). By AI agents, Wed Nov 11 2026. No macro, syntax, notation, axiom, sorry.
-/
import Derived.Test.YtagpoaajhmblkaaChecked
import GoSem.Claim
import GoSem.ClaimJoined
import GoSem.ClaimMapViews
import Derived.JoinedTies
import Derived.KernelRfl
namespace Go.Proofs.Ytagpoaajhmblkaa
/- THE CELL 'sum', in the pinned program and in every row, IS THE sha256 OF THE DUMP (.gsa) THAT YtagpoaajhmblkaaProg.lean LOADS. Nothing in Lean hashes anything: it is a label: what it is worth is what the hold of that sum in a sandbox is worth. -/
noncomputable def Try.pinned : Pinned := { name := "ytagpoaajhmblkaa", sum := "f6e5268bcf0439155122953af7598e1a828c3a133f9a8e73e268cf31e3acabca", checked := Try.checked }
namespace Rows
def none {H : Type} : Left H := { results := [], args := [] }

/-- 'laws.FnExactIsHost': WHATEVER THE INPUT: true; the input reads as it did. -/
def fnExactIsHostSpec : ChangeSpec := { name := "fnExactIsHost", fn := fun _ => fun
  | [d] => { results := [.lit (.bool true)], args := [d] }
  | _ => none }
def fnExactIsHostRow : OpenClaim := { program := "ytagpoaajhmblkaa", sum := "f6e5268bcf0439155122953af7598e1a828c3a133f9a8e73e268cf31e3acabca", func := "loop.example/g00581/laws.FnExactIsHost", spec := "fnExactIsHost", apart := false }
def FnExactIsHostSaid : Prop := fnExactIsHostRow.holds Try.pinned (OpenSpec.ofChange fnExactIsHostSpec)

/-- ITS FALSE NEIGHBOUR: 'it returns false'. Refute it at one input. -/
def fnExactIsHostWrong : ChangeSpec := { name := "fnExactIsHost", fn := fun _ => fun
  | [d] => { results := [.lit (.bool false)], args := [d] }
  | _ => none }
def FnExactIsHostWrongFalsely : Prop := fnExactIsHostRow.holds Try.pinned (OpenSpec.ofChange fnExactIsHostWrong)

/-- 'laws.FnExactIsOrigin': WHATEVER THE INPUT: true; the input reads as it did. -/
def fnExactIsOriginSpec : ChangeSpec := { name := "fnExactIsOrigin", fn := fun _ => fun
  | [d] => { results := [.lit (.bool true)], args := [d] }
  | _ => none }
def fnExactIsOriginRow : OpenClaim := { program := "ytagpoaajhmblkaa", sum := "f6e5268bcf0439155122953af7598e1a828c3a133f9a8e73e268cf31e3acabca", func := "loop.example/g00581/laws.FnExactIsOrigin", spec := "fnExactIsOrigin", apart := false }
def FnExactIsOriginSaid : Prop := fnExactIsOriginRow.holds Try.pinned (OpenSpec.ofChange fnExactIsOriginSpec)

/-- ITS FALSE NEIGHBOUR: 'it returns false'. Refute it at one input. -/
def fnExactIsOriginWrong : ChangeSpec := { name := "fnExactIsOrigin", fn := fun _ => fun
  | [d] => { results := [.lit (.bool false)], args := [d] }
  | _ => none }
def FnExactIsOriginWrongFalsely : Prop := fnExactIsOriginRow.holds Try.pinned (OpenSpec.ofChange fnExactIsOriginWrong)

/-- 'laws.FnExactRegistrable': WHATEVER THE INPUT: true; the input reads as it did. -/
def fnExactRegistrableSpec : ChangeSpec := { name := "fnExactRegistrable", fn := fun _ => fun
  | [d] => { results := [.lit (.bool true)], args := [d] }
  | _ => none }
def fnExactRegistrableRow : OpenClaim := { program := "ytagpoaajhmblkaa", sum := "f6e5268bcf0439155122953af7598e1a828c3a133f9a8e73e268cf31e3acabca", func := "loop.example/g00581/laws.FnExactRegistrable", spec := "fnExactRegistrable", apart := false }
def FnExactRegistrableSaid : Prop := fnExactRegistrableRow.holds Try.pinned (OpenSpec.ofChange fnExactRegistrableSpec)

/-- ITS FALSE NEIGHBOUR: 'it returns false'. Refute it at one input. -/
def fnExactRegistrableWrong : ChangeSpec := { name := "fnExactRegistrable", fn := fun _ => fun
  | [d] => { results := [.lit (.bool false)], args := [d] }
  | _ => none }
def FnExactRegistrableWrongFalsely : Prop := fnExactRegistrableRow.holds Try.pinned (OpenSpec.ofChange fnExactRegistrableWrong)

/-- 'laws.FnExactIsSameSite': WHATEVER THE INPUT: true; the input reads as it did. -/
def fnExactIsSameSiteSpec : ChangeSpec := { name := "fnExactIsSameSite", fn := fun _ => fun
  | [d1, d2] => { results := [.lit (.bool true)], args := [d1, d2] }
  | _ => none }
def fnExactIsSameSiteRow : OpenClaim := { program := "ytagpoaajhmblkaa", sum := "f6e5268bcf0439155122953af7598e1a828c3a133f9a8e73e268cf31e3acabca", func := "loop.example/g00581/laws.FnExactIsSameSite", spec := "fnExactIsSameSite", apart := false }
def FnExactIsSameSiteSaid : Prop := fnExactIsSameSiteRow.holds Try.pinned (OpenSpec.ofChange fnExactIsSameSiteSpec)

/-- ITS FALSE NEIGHBOUR: 'it returns false'. Refute it at one input. -/
def fnExactIsSameSiteWrong : ChangeSpec := { name := "fnExactIsSameSite", fn := fun _ => fun
  | [d1, d2] => { results := [.lit (.bool false)], args := [d1, d2] }
  | _ => none }
def FnExactIsSameSiteWrongFalsely : Prop := fnExactIsSameSiteRow.holds Try.pinned (OpenSpec.ofChange fnExactIsSameSiteWrong)

/-- 'laws.FnExactMayUse': WHATEVER THE INPUT: true; the input reads as it did. -/
def fnExactMayUseSpec : ChangeSpec := { name := "fnExactMayUse", fn := fun _ => fun
  | [d1, d2] => { results := [.lit (.bool true)], args := [d1, d2] }
  | _ => none }
def fnExactMayUseRow : OpenClaim := { program := "ytagpoaajhmblkaa", sum := "f6e5268bcf0439155122953af7598e1a828c3a133f9a8e73e268cf31e3acabca", func := "loop.example/g00581/laws.FnExactMayUse", spec := "fnExactMayUse", inPlace := ["internal/bytealg.IndexByteString", "internal/bytealg.IndexString"], named := ["internal/bytealg.MaxLen"], apart := false }
def FnExactMayUseSaid : Prop := fnExactMayUseRow.holds Try.pinned (OpenSpec.ofChange fnExactMayUseSpec)

/-- ITS FALSE NEIGHBOUR: 'it returns false'. Refute it at one input. -/
def fnExactMayUseWrong : ChangeSpec := { name := "fnExactMayUse", fn := fun _ => fun
  | [d1, d2] => { results := [.lit (.bool false)], args := [d1, d2] }
  | _ => none }
def FnExactMayUseWrongFalsely : Prop := fnExactMayUseRow.holds Try.pinned (OpenSpec.ofChange fnExactMayUseWrong)

/-- 'laws.FnExactSiteHash': WHATEVER THE INPUT: true; the input reads as it did. -/
def fnExactSiteHashSpec : ChangeSpec := { name := "fnExactSiteHash", fn := fun _ => fun
  | [d] => { results := [.lit (.bool true)], args := [d] }
  | _ => none }
def fnExactSiteHashRow : OpenClaim := { program := "ytagpoaajhmblkaa", sum := "f6e5268bcf0439155122953af7598e1a828c3a133f9a8e73e268cf31e3acabca", func := "loop.example/g00581/laws.FnExactSiteHash", spec := "fnExactSiteHash", apart := false }
def FnExactSiteHashSaid : Prop := fnExactSiteHashRow.holds Try.pinned (OpenSpec.ofChange fnExactSiteHashSpec)

/-- ITS FALSE NEIGHBOUR: 'it returns false'. Refute it at one input. -/
def fnExactSiteHashWrong : ChangeSpec := { name := "fnExactSiteHash", fn := fun _ => fun
  | [d] => { results := [.lit (.bool false)], args := [d] }
  | _ => none }
def FnExactSiteHashWrongFalsely : Prop := fnExactSiteHashRow.holds Try.pinned (OpenSpec.ofChange fnExactSiteHashWrong)

/- THE SECOND FORM. 'bulk': how many values and letters a reading holds, each counted each time it is reached (what is shared counts as often as it is met; a slice's spare places count too). A statement '..UptoSaid' is the law's where the arguments, and the package variables that the reading takes, are together of bulk at most 1048576: NARROWER than '..Said'. Prove '..Said' where nothing that the law and all that it calls make is longer than what came in: it says more and counts as full. Else prove '..UptoSaid'. A law counts once. -/
mutual
def uptoBulk {H : Type} : DataW H → Nat
  | .lit (.string bytes) => bytes.length + 1
  | .lit _ => 1
  | .nil => 1
  | .ptr d => uptoBulk d + 1
  | .slice elems spare => uptoBulkAll elems + uptoBulkAll spare + 1
  | .agg parts => uptoBulkAll parts + 1
  | .iface _ d => uptoBulk d + 1
  | .map entries => uptoBulkEntries entries + 1
  | .held _ => 1
def uptoBulkAll {H : Type} : List (DataW H) → Nat
  | [] => 0
  | d :: r => uptoBulk d + uptoBulkAll r
def uptoBulkEntries {H : Type} : List (Lit × DataW H) → Nat
  | [] => 0
  | x :: r => uptoBulkEntry x + uptoBulkEntries r
def uptoBulkEntry {H : Type} : Lit × DataW H → Nat
  | (.string bytes, d) => bytes.length + uptoBulk d + 1
  | (_, d) => uptoBulk d + 1
 end
def uptoSmall : (H : Type) → List (DataW H) → Bool := fun _ ds => decide (uptoBulkAll ds ≤ 1048576)
def OpenSpec.upto (s : _root_.Go.ChangeSpec) : _root_.Go.OpenSpec := { _root_.Go.OpenSpec.ofChange s with cond := some uptoSmall }

/-- 'laws.FnExactIsHost', WHERE WHAT IT READS IS OF BULK AT MOST 1048576: true; the input reads as it did. -/
def fnExactIsHostUptoRow : OpenClaim := { program := "ytagpoaajhmblkaa", sum := "f6e5268bcf0439155122953af7598e1a828c3a133f9a8e73e268cf31e3acabca", func := "loop.example/g00581/laws.FnExactIsHost", spec := "fnExactIsHost", apart := false, narrowed := true }
def FnExactIsHostUptoSaid : Prop := fnExactIsHostUptoRow.holds Try.pinned (OpenSpec.upto fnExactIsHostSpec)

/-- 'laws.FnExactIsOrigin', WHERE WHAT IT READS IS OF BULK AT MOST 1048576: true; the input reads as it did. -/
def fnExactIsOriginUptoRow : OpenClaim := { program := "ytagpoaajhmblkaa", sum := "f6e5268bcf0439155122953af7598e1a828c3a133f9a8e73e268cf31e3acabca", func := "loop.example/g00581/laws.FnExactIsOrigin", spec := "fnExactIsOrigin", apart := false, narrowed := true }
def FnExactIsOriginUptoSaid : Prop := fnExactIsOriginUptoRow.holds Try.pinned (OpenSpec.upto fnExactIsOriginSpec)

/-- 'laws.FnExactRegistrable', WHERE WHAT IT READS IS OF BULK AT MOST 1048576: true; the input reads as it did. -/
def fnExactRegistrableUptoRow : OpenClaim := { program := "ytagpoaajhmblkaa", sum := "f6e5268bcf0439155122953af7598e1a828c3a133f9a8e73e268cf31e3acabca", func := "loop.example/g00581/laws.FnExactRegistrable", spec := "fnExactRegistrable", apart := false, narrowed := true }
def FnExactRegistrableUptoSaid : Prop := fnExactRegistrableUptoRow.holds Try.pinned (OpenSpec.upto fnExactRegistrableSpec)

/-- 'laws.FnExactIsSameSite', WHERE WHAT IT READS IS OF BULK AT MOST 1048576: true; the input reads as it did. -/
def fnExactIsSameSiteUptoRow : OpenClaim := { program := "ytagpoaajhmblkaa", sum := "f6e5268bcf0439155122953af7598e1a828c3a133f9a8e73e268cf31e3acabca", func := "loop.example/g00581/laws.FnExactIsSameSite", spec := "fnExactIsSameSite", apart := false, narrowed := true }
def FnExactIsSameSiteUptoSaid : Prop := fnExactIsSameSiteUptoRow.holds Try.pinned (OpenSpec.upto fnExactIsSameSiteSpec)

/-- 'laws.FnExactMayUse', WHERE WHAT IT READS IS OF BULK AT MOST 1048576: true; the input reads as it did. -/
def fnExactMayUseUptoRow : OpenClaim := { program := "ytagpoaajhmblkaa", sum := "f6e5268bcf0439155122953af7598e1a828c3a133f9a8e73e268cf31e3acabca", func := "loop.example/g00581/laws.FnExactMayUse", spec := "fnExactMayUse", inPlace := ["internal/bytealg.IndexByteString", "internal/bytealg.IndexString"], named := ["internal/bytealg.MaxLen"], apart := false, narrowed := true }
def FnExactMayUseUptoSaid : Prop := fnExactMayUseUptoRow.holds Try.pinned (OpenSpec.upto fnExactMayUseSpec)

/-- 'laws.FnExactSiteHash', WHERE WHAT IT READS IS OF BULK AT MOST 1048576: true; the input reads as it did. -/
def fnExactSiteHashUptoRow : OpenClaim := { program := "ytagpoaajhmblkaa", sum := "f6e5268bcf0439155122953af7598e1a828c3a133f9a8e73e268cf31e3acabca", func := "loop.example/g00581/laws.FnExactSiteHash", spec := "fnExactSiteHash", apart := false, narrowed := true }
def FnExactSiteHashUptoSaid : Prop := fnExactSiteHashUptoRow.holds Try.pinned (OpenSpec.upto fnExactSiteHashSpec)

end Rows
end Go.Proofs.Ytagpoaajhmblkaa
