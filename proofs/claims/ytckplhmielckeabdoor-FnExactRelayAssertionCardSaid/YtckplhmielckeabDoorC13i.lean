import Derived.Test.YtckplhmielckeabDoorC13r
import Derived.Test.YtckplhmielckeabDoorC13s
/-
  Chapter 13's contracts of the program, in the forms of C13i.form.
-/
namespace Go.Proofs.YtckplhmielckeabDoor.C13i
open Go.ChangeShapes Go.WideShapes Go.ChangeAt Go.RowKit
open S0 S1 S9 Dm Fx C13m
set_option linter.unusedVariables false
set_option linter.unusedSimpArgs false
set_option maxRecDepth 100000
theorem implMake (w : World) (x : Fx.KeyStore) (o : Fx.Origin) (z : ByteArray) (k ch : Int) (p : Bool) (us vs : List Value) (h : RdsL w w.heap.size x.dcs us) (h2 : RdsL w w.heap.size o.dcs vs) (hx : x.ok) (hz : z.size ≤ 15000000) (ho : o.Host.size ≤ 15000000) (k0 : -9223372036854775808 ≤ k) (k1 : k ≤ 9223372036854775807) (c0 : -9223372036854775808 ≤ ch) (c1 : ch ≤ 9223372036854775807) (ht : La.Pow w) :
    Calls Tryd.prog 9 #[.agg us.toArray, .agg vs.toArray, .string z, .int .i64 k, .int .i64 ch, .bool p] w (Gives (C13b.mkV (C13b.mkS x o z) (C13b.mkA x o z k ch p) (C13b.mkB x o z)) w) :=
  C13s.implMake w x o z k ch p us vs h h2 hx hz ho k0 k1 c0 c1 ht
theorem implRelay (w : World) (x : Fx.KeyStore) (o : Fx.Origin) (z : ByteArray) (k ch : Int) (us vs : List Value) (h : RdsL w w.heap.size x.dcs us) (h2 : RdsL w w.heap.size o.dcs vs) (hx : x.ok) (hz : z.size ≤ 15000000) (ho : o.Host.size ≤ 15000000) (k0 : -9223372036854775808 ≤ k) (k1 : k ≤ 9223372036854775807) (c0 : -9223372036854775808 ≤ ch) (c1 : ch ≤ 9223372036854775807) (ht : La.Pow w) :
    Calls Tryd.prog 13 #[.agg us.toArray, .agg vs.toArray, .string z, .int .i64 k, .int .i64 ch] w (Gives (C13b.mkV (C13b.mkS x o z) (C13b.mkA x o z k ch true) (C13b.mkB x o z)) w) :=
  C13s.implRelay w x o z k ch us vs h h2 hx hz ho k0 k1 c0 c1 ht
end Go.Proofs.YtckplhmielckeabDoor.C13i
