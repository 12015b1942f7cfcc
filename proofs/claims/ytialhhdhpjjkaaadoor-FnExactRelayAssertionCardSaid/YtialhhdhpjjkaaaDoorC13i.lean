/-
  Chapter 13's contracts of the program, in the forms of C13i.form.
-/
import Derived.Test.YtialhhdhpjjkaaaDoorC13r
import Derived.Test.YtialhhdhpjjkaaaDoorC13s
namespace Go.Proofs.YtialhhdhpjjkaaaDoor.C13i
open Go.ChangeShapes Go.WideShapes Go.ChangeAt Go.RowKit
open S0 S1 S9 Dm Fx C13m C13c
set_option linter.unusedVariables false
set_option linter.unusedSimpArgs false
set_option maxRecDepth 100000
theorem as_shs (w : World) (hi : Nat) (a : Fx.Assertion) {us : List Value} (h : RdsL w hi a.dcs us) : E0.ShsL w hi a.dcs us :=
  E0.shsL_vals (fun d hd => by
    simp only [Assertion.dcs, List.mem_cons, List.not_mem_nil, or_false] at hd
    rcases hd with rfl | rfl | rfl | rfl | rfl | rfl | rfl <;> exact ⟨_, rfl⟩) h
theorem implMsg (w : World) (a : Fx.Assertion) (us : List Value) (h : RdsL w w.heap.size a.dcs us) (hs : a.Site.size ≤ 16000000) (hs2 : a.Origin.size ≤ 16000000) : Calls Tryd.prog 21 #[.agg us.toArray] w (MadeS 3 1 6 (ints .i64 (msg a)) w) :=
  (E18.con_madeD (C13r.conMsg a hs hs2) (us := []) rfl (E18.numR_dc _ _ _) (E18.arg_agg (Das.dasAssertion_dc a) (as_shs w _ a h) E18.arg_nil)).mono fun e w' hq => by
    obtain ⟨v, bs, rfl, ho, hn, hb⟩ := hq
    have h1 := (flat_owns ho).1
    obtain ⟨A, c, rfl⟩ := own_nil_form h1
    exact ⟨A, c, rfl, h1, hb⟩
theorem implMake (w : World) (x : Fx.KeyStore) (o : Fx.Origin) (z : ByteArray) (k ch : Int) (p : Bool) (us vs : List Value) (h : RdsL w w.heap.size x.dcs us) (h2 : RdsL w w.heap.size o.dcs vs) (hx : x.ok) (hz : z.size ≤ 15000000) (ho : o.Host.size ≤ 15000000) (k0 : -9223372036854775808 ≤ k) (k1 : k ≤ 9223372036854775807) (c0 : -9223372036854775808 ≤ ch) (c1 : ch ≤ 9223372036854775807) (ht : La.Pow w) :
    Calls Tryd.prog 9 #[.agg us.toArray, .agg vs.toArray, .string z, .int .i64 k, .int .i64 ch, .bool p] w (Gives (C13b.mkV (C13b.mkS x o z) (C13b.mkA x o z k ch p) (C13b.mkB x o z)) w) :=
  C13s.implMake w x o z k ch p us vs h h2 hx hz ho k0 k1 c0 c1 ht
theorem implRelay (w : World) (x : Fx.KeyStore) (o : Fx.Origin) (z : ByteArray) (k ch : Int) (us vs : List Value) (h : RdsL w w.heap.size x.dcs us) (h2 : RdsL w w.heap.size o.dcs vs) (hx : x.ok) (hz : z.size ≤ 15000000) (ho : o.Host.size ≤ 15000000) (k0 : -9223372036854775808 ≤ k) (k1 : k ≤ 9223372036854775807) (c0 : -9223372036854775808 ≤ ch) (c1 : ch ≤ 9223372036854775807) (ht : La.Pow w) :
    Calls Tryd.prog 13 #[.agg us.toArray, .agg vs.toArray, .string z, .int .i64 k, .int .i64 ch] w (Gives (C13b.mkV (C13b.mkS x o z) (C13b.mkA x o z k ch true) (C13b.mkB x o z)) w) :=
  C13s.implRelay w x o z k ch us vs h h2 hx hz ho k0 k1 c0 c1 ht
end Go.Proofs.YtialhhdhpjjkaaaDoor.C13i
