/-
  Contracts of ParseInt, of the program and of the model: a number and true at the numeral of a number up to MaxValue, 0 and false at every other string.
-/
import Derived.Test.YtialhhdhpjjkaaaDoorBa
import Derived.Test.YtialhhdhpjjkaaaDoorC1F
import Derived.Test.YtialhhdhpjjkaaaDoorM1P
namespace Go.Proofs.YtialhhdhpjjkaaaDoor.C1P
open Go.ChangeShapes Go.WideShapes Go.ChangeAt Go.RowKit
set_option linter.unusedVariables false
set_option maxRecDepth 100000
def Yes (s : ByteArray) (n : Nat) : Prop := n ≤ 1000000000000 ∧ s = ⟨(Lib.decDigits n).toArray⟩
def No (s : ByteArray) : Prop := ∀ n : Nat, n ≤ 1000000000000 → s ≠ ⟨(Lib.decDigits n).toArray⟩
theorem yes_or_no (s : ByteArray) : (∃ n, Yes s n) ∨ No s := by
  by_cases h : ∃ n, Yes s n
  · exact Or.inl h
  · exact Or.inr fun n hn e => h ⟨n, hn, e⟩
theorem toList_mk (l : List UInt8) : (ByteArray.mk l.toArray).data.toList = l := by simp
theorem mk_toList (s : ByteArray) : s = ⟨s.data.toList.toArray⟩ := by cases s; simp
theorem No.beq {s : ByteArray} (h : No s) {n : Nat} (hn : n ≤ 1000000000000) : (Lib.decDigits n == s.toList) = false := by
  rw [Lib.toList_data, beq_eq_false_iff_ne]
  intro k
  exact h n hn (by rw [k])
theorem itoa_nat (n : Nat) : Lib.itoa (n : Int) = Lib.decDigits n := by unfold Lib.itoa; rw [if_neg (by omega)]; rfl

theorem digits_inj {m n : Nat} (h : Lib.decDigits m = Lib.decDigits n) : m = n := by
  have h1 := M1P.decFrom_digits m
  rw [h, M1P.decFrom_digits n] at h1
  exact (Option.some.inj h1).symm
theorem no_big (m : Int) (h : m < 0 ∨ 1000000000000 < m) : No ⟨(Lib.itoa m).toArray⟩ := by
  intro n hn e
  have e2 : Lib.itoa m = Lib.decDigits n := by
    have := congrArg (fun b : ByteArray => b.data.toList) e
    simpa using this
  unfold Lib.itoa at e2
  by_cases hm : m < 0
  · rw [if_pos hm] at e2
    obtain ⟨c, r, e3, h1, h2⟩ := M1P.digits_head n
    rw [e3] at e2
    have := (List.cons.inj e2).1
    rw [← this] at h1
    exact absurd h1 (by decide)
  · rw [if_neg hm] at e2
    have := digits_inj e2
    omega
end Go.Proofs.YtialhhdhpjjkaaaDoor.C1P
