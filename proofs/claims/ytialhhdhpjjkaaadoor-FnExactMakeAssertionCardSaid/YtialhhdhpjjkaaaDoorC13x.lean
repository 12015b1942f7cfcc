/-
  Chapter 13 for its exact laws: a store and an assertion as two things made; how long the strings are that come back.
-/
import Derived.Test.YtialhhdhpjjkaaaDoorC13i
import Derived.Test.YtialhhdhpjjkaaaDoorC13v
namespace Go.Proofs.YtialhhdhpjjkaaaDoor.C13x
open Go.ChangeShapes Go.WideShapes Go.ChangeAt Go.RowKit
open S0 S1 S9 Dm Fx M13 C13m C13b
set_option linter.unusedVariables false
theorem two {y : Fx.KeyStore} {a : Fx.Assertion} {b : Bool} {w : World} {e : Ending} {w' : World} (h : Gives (mkV y a b) w e w') : MadeLLx y.dcs a.dcs (fun us vs => .tuple #[.agg us.toArray, .agg vs.toArray, .bool b]) w e w' := by
  obtain ⟨rfl, hb⟩ := h
  exact ⟨_, [], _, [], rfl, KeyStore.mkO, Assertion.mkO, by simp, by simp, by simp, hb⟩
theorem mk_size (x : Fx.KeyStore) (o : Fx.Origin) (z : ByteArray) (k ch : Int) (p : Bool) : (mkA x o z k ch p).Site.size ≤ z.size ∧ (mkA x o z k ch p).Origin.size ≤ 100 := by
  have h := fmt_size o
  unfold mkA
  split
  · exact ⟨Nat.le_refl _, h⟩
  · exact ⟨Nat.zero_le _, Nat.zero_le _⟩
theorem specMake2 (w : World) (x : Fx.KeyStore) (o : Fx.Origin) (z : ByteArray) (k ch : Int) (p : Bool) (us vs : List Value) (h : RdsL w w.heap.size x.dcs us) (h2 : RdsL w w.heap.size o.dcs vs) (hx : x.ok) (hz : z.size ≤ 15000000) (ho : o.Host.size ≤ 15000000) (k0 : -9223372036854775808 ≤ k) (k1 : k ≤ 9223372036854775807) (c0 : -9223372036854775808 ≤ ch) (c1 : ch ≤ 9223372036854775807) :
    Calls Tryd.prog 6 #[.agg us.toArray, .agg vs.toArray, .string z, .int .i64 k, .int .i64 ch, .bool p] w (MadeLLx (mkS x o z).dcs (mkA x o z k ch p).dcs (fun us vs => .tuple #[.agg us.toArray, .agg vs.toArray, .bool (mkB x o z)]) w) :=
  (C13b.specMake w x o z k ch p us vs h h2 hx hz ho k0 k1 c0 c1).mono fun _ _ h => two h
theorem implMake2 (w : World) (x : Fx.KeyStore) (o : Fx.Origin) (z : ByteArray) (k ch : Int) (p : Bool) (us vs : List Value) (h : RdsL w w.heap.size x.dcs us) (h2 : RdsL w w.heap.size o.dcs vs) (hx : x.ok) (hz : z.size ≤ 15000000) (ho : o.Host.size ≤ 15000000) (k0 : -9223372036854775808 ≤ k) (k1 : k ≤ 9223372036854775807) (c0 : -9223372036854775808 ≤ ch) (c1 : ch ≤ 9223372036854775807) (ht : La.Pow w) :
    Calls Tryd.prog 9 #[.agg us.toArray, .agg vs.toArray, .string z, .int .i64 k, .int .i64 ch, .bool p] w (MadeLLx (mkS x o z).dcs (mkA x o z k ch p).dcs (fun us vs => .tuple #[.agg us.toArray, .agg vs.toArray, .bool (mkB x o z)]) w) :=
  (C13i.implMake w x o z k ch p us vs h h2 hx hz ho k0 k1 c0 c1 ht).mono fun _ _ h => two h
theorem specRelay2 (w : World) (x : Fx.KeyStore) (o : Fx.Origin) (z : ByteArray) (k ch : Int) (us vs : List Value) (h : RdsL w w.heap.size x.dcs us) (h2 : RdsL w w.heap.size o.dcs vs) (hx : x.ok) (hz : z.size ≤ 15000000) (ho : o.Host.size ≤ 15000000) (k0 : -9223372036854775808 ≤ k) (k1 : k ≤ 9223372036854775807) (c0 : -9223372036854775808 ≤ ch) (c1 : ch ≤ 9223372036854775807) :
    Calls Tryd.prog 12 #[.agg us.toArray, .agg vs.toArray, .string z, .int .i64 k, .int .i64 ch] w (MadeLLx (mkS x o z).dcs (mkA x o z k ch true).dcs (fun us vs => .tuple #[.agg us.toArray, .agg vs.toArray, .bool (mkB x o z)]) w) :=
  (C13v.specRelay w x o z k ch us vs h h2 hx hz ho k0 k1 c0 c1).mono fun _ _ h => two h
theorem implRelay2 (w : World) (x : Fx.KeyStore) (o : Fx.Origin) (z : ByteArray) (k ch : Int) (us vs : List Value) (h : RdsL w w.heap.size x.dcs us) (h2 : RdsL w w.heap.size o.dcs vs) (hx : x.ok) (hz : z.size ≤ 15000000) (ho : o.Host.size ≤ 15000000) (k0 : -9223372036854775808 ≤ k) (k1 : k ≤ 9223372036854775807) (c0 : -9223372036854775808 ≤ ch) (c1 : ch ≤ 9223372036854775807) (ht : La.Pow w) :
    Calls Tryd.prog 13 #[.agg us.toArray, .agg vs.toArray, .string z, .int .i64 k, .int .i64 ch] w (MadeLLx (mkS x o z).dcs (mkA x o z k ch true).dcs (fun us vs => .tuple #[.agg us.toArray, .agg vs.toArray, .bool (mkB x o z)]) w) :=
  (C13i.implRelay w x o z k ch us vs h h2 hx hz ho k0 k1 c0 c1 ht).mono fun _ _ h => two h
end Go.Proofs.YtialhhdhpjjkaaaDoor.C13x
