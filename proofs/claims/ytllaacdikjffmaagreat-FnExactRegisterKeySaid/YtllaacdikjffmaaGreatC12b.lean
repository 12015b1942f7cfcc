import Derived.Test.YtllaacdikjffmaaGreatBa
import Derived.Test.YtllaacdikjffmaaGreatYChallengeBook
import Derived.Test.YtllaacdikjffmaaGreatBb
import Derived.Deep.QuietTactic
import Derived.BigQuiet
import Derived.IntWalk
/-
  Contract of chapter 12's IsValidBook, of the model.
-/
namespace Go.Proofs.YtllaacdikjffmaaGreat.C12b
open Go.ChangeShapes Go.WideShapes Go.ChangeAt Go.RowKit
open S0 S1 S9 Dm Fx M3 M8 C3 C6
set_option linter.unusedVariables false
set_option linter.unusedSimpArgs false
set_option maxRecDepth 100000
def okCh (nx : Int) (x : Fx.Challenge) : Prop := (0 ≤ x.Id ∧ x.Id ≤ IntKind.i64.wrap (nx - 1)) ∧ (0 ≤ x.Account ∧ x.Account ≤ 1000005) ∧ (0 ≤ x.Until ∧ x.Until ≤ 1000005)
def okBook (nx : Int) (l : List Fx.Challenge) : Prop := (∀ x ∈ l, okCh nx x) ∧ ∀ j x y, l[j]? = some x → l[j + 1]? = some y → x.Id < y.Id
open Classical in
noncomputable def okB (nx : Int) (l : List Fx.Challenge) : Bool := decide (okBook nx l)
open Classical in
theorem okB_t {nx : Int} {l : List Fx.Challenge} (h : okBook nx l) : okB nx l = true := decide_eq_true h
open Classical in
theorem okB_f {nx : Int} {l : List Fx.Challenge} (h : ¬ okBook nx l) : okB nx l = false := decide_eq_false h
noncomputable def vbk (b : Fx.ChallengeBook) : Bool := okB b.Next b.Open && decide (0 ≤ b.Next ∧ b.Next ≤ 1000000) && decide (b.Open.length ≤ 16)
/-- What the rounds so far have seen. -/
def Seen (nx : Int) (l : List Fx.Challenge) (k : Nat) : Prop := (∀ j x, j < k → l[j]? = some x → okCh nx x) ∧ ∀ j x y, j + 1 < k → l[j]? = some x → l[j + 1]? = some y → x.Id < y.Id
theorem Seen.next {nx : Int} {l : List Fx.Challenge} {k : Nat} {x : Fx.Challenge} (h : Seen nx l k) (hx : l[k]? = some x) (ho : okCh nx x) (hp : ∀ j y, k = j + 1 → l[j]? = some y → y.Id < x.Id) : Seen nx l (k + 1) := by
  refine ⟨fun j z hj hz => ?_, fun j y z hj hy hz => ?_⟩
  · by_cases h1 : j < k
    · exact h.1 j z h1 hz
    · obtain rfl : j = k := by omega
      rw [hx] at hz
      injection hz with hz
      rw [← hz]; exact ho
  · by_cases h1 : j + 1 < k
    · exact h.2 j y z h1 hy hz
    · obtain rfl : k = j + 1 := by omega
      rw [hx] at hz
      injection hz with hz
      rw [← hz]; exact hp j y rfl hy
theorem Seen.all {nx : Int} {l : List Fx.Challenge} {k : Nat} (h : Seen nx l k) (hk : l.length ≤ k) : okBook nx l := by
  refine ⟨fun x hx => ?_, fun j x y hx hy => ?_⟩
  · obtain ⟨j, hj, rfl⟩ := List.getElem_of_mem hx
    exact h.1 j _ (by omega) (List.getElem?_eq_getElem hj)
  · have := (List.getElem?_eq_some_iff.1 hy).1
    exact h.2 j x y (by omega) hx hy
end Go.Proofs.YtllaacdikjffmaaGreat.C12b
