import Derived.Test.YtogoppknimpkbaaGreatDoorBa
import Derived.Test.YtogoppknimpkbaaGreatDoorBb
import Derived.Test.YtogoppknimpkbaaGreatDoorC10
import Derived.Deep.RegionHeld3
/-
  Contracts of chapter 10's draws: a key store with a seed of few values, a site of nine, a handle, a message.
-/
namespace Go.Proofs.YtogoppknimpkbaaGreatDoor.D10
open Go.ChangeShapes Go.WideShapes Go.ChangeAt Go.RowKit
open C0 S0 S1 S9 Dm Fx C3 D2 D3 Dv
set_option linter.unusedVariables false
set_option linter.unusedSimpArgs false
set_option maxRecDepth 100000
def hosts : List ByteArray := [⟨#[98, 97, 110, 107, 46, 99, 111, 109]⟩, ⟨#[119, 119, 119, 46, 98, 97, 110, 107, 46, 99, 111, 109]⟩, ⟨#[98, 97, 110, 107, 46, 99, 111, 109, 46, 101, 118, 105, 108, 46, 110, 101, 116]⟩, ⟨#[101, 118, 105, 108, 98, 97, 110, 107, 46, 99, 111, 109]⟩, ⟨#[115, 104, 111, 112, 46, 111, 114, 103]⟩, ⟨#[97, 46, 98, 46, 115, 104, 111, 112, 46, 111, 114, 103]⟩, ⟨#[99, 111, 109]⟩, ⟨#[108, 111, 99, 97, 108, 104, 111, 115, 116]⟩, ⟨#[120, 45, 121, 46, 105, 111]⟩]
def isSeed (x : Int) : Prop := x ∈ [(0 : Int), -1, 1, 2147483646, 2147483647] ∨ (1 ≤ x ∧ x ≤ 99999)
theorem isSeed.i64 {x : Int} (h : isSeed x) : isI64 x := by
  unfold isSeed at h
  unfold isI64
  simp only [List.mem_cons, List.not_mem_nil, or_false] at h
  omega
def okK (x : Fx.KeyStore) : Prop := isI64 x.Vendor ∧ isI64 x.Serial ∧ isSeed x.Seed ∧ isI64 x.Counter
theorem okK.ok {x : Fx.KeyStore} (h : okK x) : x.ok := ⟨h.1, h.2.1, h.2.2.1.i64, h.2.2.2⟩
end Go.Proofs.YtogoppknimpkbaaGreatDoor.D10
