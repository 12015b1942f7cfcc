/-
  Contracts of chapter 2's functions, of the program and of the model.
-/
import Derived.Test.YtogoppknimpkbaaS1
import Derived.Test.YtogoppknimpkbaaM2
import Derived.Test.YtogoppknimpkbaaC1
namespace Go.Proofs.Ytogoppknimpkbaa.C2
open Go.ChangeShapes Go.WideShapes Go.ChangeAt Go.RowKit
open S0 S1 M2
set_option linter.unusedVariables false

/-- So far: ys is written, m is left. -/
def Ext (base : Nat) (w : World) (xs : List Int) (n m : Nat) (v : Value) (wr : World) : Prop :=
  ∃ ys : List Int, wr.ownsRow base 5 1 v (xs.length + ys.length) (ints .u8 (xs ++ ys)) ∧ ys ++ uv m = uv n ∧ m ≤ n ∧ Below base w wr ∧ base ≤ wr.heap.size
theorem own_lt {w : World} {base : Nat} {e : TypeId} {size n : Nat} {v : Value} {xs : List Value} (h : w.ownsRow base e size v n xs) : ∀ k, v.ownBlock = some k → base ≤ k := fun k hk => (h.lt k hk).1
theorem u8_get {xs : List Int} (hx : ∀ x ∈ xs, 0 ≤ x ∧ x ≤ 255) (j : Nat) : 0 ≤ xs.getD j 0 ∧ xs.getD j 0 ≤ 255 := by
  rw [List.getD_eq_getElem?_getD]
  cases h : xs[j]? with
  | none => simp
  | some v => exact hx v (List.mem_of_getElem? h)
/-- The three results of ReadUvarint. -/
def rd3 (d : Option (Int × Int)) : Value := .tuple #[.int .i64 (rn d), .int .i64 (rx d), .bool (rb d)]
theorem rd3_none {d : Option (Int × Int)} (h : d = none) : Ending.returned (.tuple #[.int .i64 0, .int .i64 0, .bool false]) = .returned (rd3 d) := by rw [h]; rfl
theorem rd3_some {d : Option (Int × Int)} {a b a' b' : Int} (h : d = some (a, b)) (ha : a' = a) (hb : b' = b) : Ending.returned (.tuple #[.int .i64 a', .int .i64 b', .bool true]) = .returned (rd3 d) := by rw [h, ha, hb]; rfl
end Go.Proofs.Ytogoppknimpkbaa.C2
