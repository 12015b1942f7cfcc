import Derived.Test.YtialhhdhpjjkaaaGreatDoorC13r
import Derived.Test.YtialhhdhpjjkaaaGreatDoorC13s
import Derived.Test.YtialhhdhpjjkaaaGreatDoorAs
/-
  Chapter 13's contracts of the program, in the forms of C13i.form.
-/
namespace Go.Proofs.YtialhhdhpjjkaaaGreatDoor.C13i
open Go.ChangeShapes Go.WideShapes Go.ChangeAt Go.RowKit
open S0 S1 S9 Dm Fx C13m C13c
set_option linter.unusedVariables false
set_option linter.unusedSimpArgs false
set_option maxRecDepth 100000
theorem as_shs (w : World) (hi : Nat) (a : Fx.Assertion) {us : List Value} (h : RdsL w hi a.dcs us) : E0.ShsL w hi a.dcs us :=
  E0.shsL_vals (fun d hd => by
    simp only [Assertion.dcs, List.mem_cons, List.not_mem_nil, or_false] at hd
    rcases hd with rfl | rfl | rfl | rfl | rfl | rfl | rfl <;> exact ⟨_, rfl⟩) h
theorem implMsg (w : World) (a : Fx.Assertion) (us : List Value) (h : RdsL w w.heap.size a.dcs us) (hs : a.Site.size ≤ 16000000) (hs2 : a.Origin.size ≤ 16000000) : Calls Tryz.prog 44 #[.agg us.toArray] w (MadeS 3 1 6 (ints .i64 (msg a)) w) :=
  (E18.con_madeD (C13r.conMsg a hs hs2) (us := []) rfl (E18.numR_dc _ _ _) (E18.arg_agg (Das.dasAssertion_dc a) (as_shs w _ a h) E18.arg_nil)).mono fun e w' hq => by
    obtain ⟨v, bs, rfl, ho, hn, hb⟩ := hq
    have h1 := (flat_owns ho).1
    obtain ⟨A, c, rfl⟩ := own_nil_form h1
    exact ⟨A, c, rfl, h1, hb⟩
theorem implClone (w : World) (a : Fx.Assertion) (n : Int) (us : List Value) (h : RdsL w w.heap.size a.dcs us) : Calls Tryz.prog 38 #[.agg us.toArray, .int .i64 n] w (Gives (.bool (decide (a.Counter ≤ n))) w) :=
  E18.con_plain (C13r.conClone a n) (us := [.bool (decide (a.Counter ≤ n))]) rfl (E18.arg_agg (Das.dasAssertion_dc a) (as_shs w _ a h) (E18.arg_val E18.arg_nil))
theorem implName (w : World) (c : Int) : Calls Tryz.prog 39 #[.int .i64 c] w (Gives (.string (nameA c)) w) :=
  E18.con_plain (C13r.conName c) (us := [.string (nameA c)]) rfl (E18.arg_val E18.arg_nil)
theorem implMake (w : World) (x : Fx.KeyStore) (o : Fx.Origin) (z : ByteArray) (k ch : Int) (p : Bool) (us vs : List Value) (h : RdsL w w.heap.size x.dcs us) (h2 : RdsL w w.heap.size o.dcs vs) (hx : x.ok) (hz : z.size ≤ 15000000) (ho : o.Host.size ≤ 15000000) (k0 : -9223372036854775808 ≤ k) (k1 : k ≤ 9223372036854775807) (c0 : -9223372036854775808 ≤ ch) (c1 : ch ≤ 9223372036854775807) (ht : La.Pow w) :
    Calls Tryz.prog 36 #[.agg us.toArray, .agg vs.toArray, .string z, .int .i64 k, .int .i64 ch, .bool p] w (Gives (C13b.mkV (C13b.mkS x o z) (C13b.mkA x o z k ch p) (C13b.mkB x o z)) w) :=
  C13s.implMake w x o z k ch p us vs h h2 hx hz ho k0 k1 c0 c1 ht
theorem implRelay (w : World) (x : Fx.KeyStore) (o : Fx.Origin) (z : ByteArray) (k ch : Int) (us vs : List Value) (h : RdsL w w.heap.size x.dcs us) (h2 : RdsL w w.heap.size o.dcs vs) (hx : x.ok) (hz : z.size ≤ 15000000) (ho : o.Host.size ≤ 15000000) (k0 : -9223372036854775808 ≤ k) (k1 : k ≤ 9223372036854775807) (c0 : -9223372036854775808 ≤ ch) (c1 : ch ≤ 9223372036854775807) (ht : La.Pow w) :
    Calls Tryz.prog 41 #[.agg us.toArray, .agg vs.toArray, .string z, .int .i64 k, .int .i64 ch] w (Gives (C13b.mkV (C13b.mkS x o z) (C13b.mkA x o z k ch true) (C13b.mkB x o z)) w) :=
  C13s.implRelay w x o z k ch us vs h h2 hx hz ho k0 k1 c0 c1 ht
open M13 C13
theorem implAcc (w : World) (p : Int) (a : Fx.Assertion) (z : ByteArray) (ch ctr : Int) (ha : a.ok) (hs : a.Site.size ≤ 16000000) (hs2 : a.Origin.size ≤ 16000000) (hz : z.size ≤ 16000000) (p0 : -9223372036854775808 ≤ p) (p1 : p ≤ 9223372036854775807) (ht : La.Pow w) (he : La.Errs w) :
    Calls Tryz.prog 48 #[.agg #[.string a.Site, .string a.Origin, .int .i64 a.Challenge, .int .i64 a.Handle, .bool a.Present, .int .i64 a.Counter, .int .i64 a.Signature], .int .i64 p, .string z, .int .i64 ch, .int .i64 ctr] w (Gives (C13s.errV (chkA p a z ch ctr)) w) :=
  E20.law_go (C13s.orcAcc (fun W => W = w) p a ch ctr _) E18.noLoops Tryz.func48 (by kernel_rfl) (by kernel_rfl) (C13s.wpAcc (fun W => W = w) (fun W h => by subst h; exact ⟨ht, he⟩) p a z ch ctr _ rfl ha hs hs2 hz p0 p1) rfl rfl
    (E20.args_of (us := [.agg #[.string a.Site, .string a.Origin, .int .i64 a.Challenge, .int .i64 a.Handle, .bool a.Present, .int .i64 a.Counter, .int .i64 a.Signature], .int .i64 p, .string z, .int .i64 ch, .int .i64 ctr]))
set_option maxHeartbeats 4000000 in
theorem implChk (w : World) (p : Int) (a : Fx.Assertion) (z : ByteArray) (ch ctr : Int) (us : List Value) (h : RdsL w w.heap.size a.dcs us) (ha : a.ok) (hs : a.Site.size ≤ 16000000) (hs2 : a.Origin.size ≤ 16000000) (hz : z.size ≤ 16000000) (p0 : -9223372036854775808 ≤ p) (p1 : p ≤ 9223372036854775807) (ht : La.Pow w) (he0 : As.Er w) :
    Calls Tryz.prog 11 #[.int .i64 p, .agg us.toArray, .string z, .int .i64 ch, .int .i64 ctr] w (Gives (.int .i64 (chkA p a z ch ctr)) w) := by
  obtain ⟨he, hT⟩ := he0
  obtain rfl := Assertion.rds h
  clear h
  obtain ⟨r, hr⟩ : ∃ r, r = chkA p a z ch ctr := ⟨_, rfl⟩
  have KE : ∀ w1, Below w.heap.size w w1 → Calls Tryz.prog 48 #[.agg #[.string a.Site, .string a.Origin, .int .i64 a.Challenge, .int .i64 a.Handle, .bool a.Present, .int .i64 a.Counter, .int .i64 a.Signature], .int .i64 p, .string z, .int .i64 ch, .int .i64 ctr] w1 (Gives (C13s.errV r) w1) :=
    fun w1 hb => hr ▸ implAcc w1 p a z ch ctr ha hs hs2 hz p0 p1 (ht.stays hb) (he.stays hb)
  rw [← hr]
  clear hr ha
  obtain ⟨w2, hw2⟩ : ∃ w2, w2 = (w.alloc (.cells #[.string a.Site, .string a.Origin, .int .i64 a.Challenge, .int .i64 a.Handle, .bool a.Present, .int .i64 a.Counter, .int .i64 a.Signature] 26)).alloc (.cells #[.int .i64 0] 76) := ⟨_, rfl⟩
  have b2 : Below w.heap.size w w2 := hw2 ▸ ((Below.refl _ _).alloc (Nat.le_refl _) _).alloc (by simp) _
  have s2 : w2.heap.size = w.heap.size + 1 + 1 := by rw [hw2]; simp
  have c2 : w2.heap[w.heap.size + 1]? = some (.cells #[.int .i64 0] 76) := by
    rw [hw2]
    have := (MapKept.heap_alloc (w.alloc (.cells #[.string a.Site, .string a.Origin, .int .i64 a.Challenge, .int .i64 a.Handle, .bool a.Present, .int .i64 a.Counter, .int .i64 a.Signature] 26)) (.cells #[.int .i64 0] 76)).1
    simpa using this
  go_enter Tryz.func11, Tryz.ntmps11
  go_wp2_with fail
  rw [← hw2]
  go_at_call 48
  refine (KE w2 b2).mono ?_
  rintro e w3 ⟨rfl, b3⟩
  have b23 : Below w.heap.size w w3 := b2.trans (b3.mono (by omega))
  have s3 := b3.size
  have c3 : w3.heap[w.heap.size + 1]? = some (.cells #[.int .i64 0] 76) := (b3.block _ (by omega)).trans c2
  go_wp2_with fail
  by_cases h0 : r = 0
  · have e0 : C13s.errV r = .nilIface := by unfold C13s.errV; rw [if_pos h0]
    rw [e0]
    refine (As.as_nil _ _).mono ?_
    rintro e w4 ⟨rfl, rfl⟩
    go_wp2
    go_ret
    exact ⟨by rw [h0]; rfl, b23⟩
  · have e0 : C13s.errV r = .iface 76 (.agg #[.int .i64 r]) := by unfold C13s.errV; rw [if_neg h0]
    rw [e0]
    have ct : w3.cell? ⟨w.heap.size + 1, 0, none⟩ = some (.int .i64 0) := by simp [World.cell?, c3]
    have ft : w3.frozen? ⟨w.heap.size + 1, 0, none⟩ = false := by simp [World.frozen?, c3]
    have hlt : w.heap.size + 1 < w3.heap.size := by omega
    refine (As.as_hit r ⟨w.heap.size + 1, 0, none⟩ (.int .i64 0) w3 (hT.stays b23) ct ft).mono ?_
    rintro e w4 ⟨rfl, hw4⟩
    have cw : w4.cell? ⟨w.heap.size + 1, 0, none⟩ = some (.int .i64 r) := by
      rw [hw4]
      refine World.cell?_setCell_same _ _ _ (u := .int .i64 0) (by
        rw [World.cell?_alloc_lt _ _ _ (by simp <;> omega), World.cell?_alloc_lt _ _ _ (by simp <;> omega), World.cell?_alloc_lt _ _ _ (by simp <;> omega), World.cell?_alloc_lt _ _ _ hlt]
        exact ct)
    have bw : Below w.heap.size w w4 := by
      rw [hw4]
      exact ((((b23.alloc (by omega) _).alloc (by simp <;> omega) _).alloc (by simp <;> omega) _).alloc (by simp <;> omega) _).setCell (by simp <;> omega) _
    clear hw4 ct ft c3 b3 s3 c2 KE hT ht he
    go_wp2
    go_ret
    exact ⟨rfl, bw⟩
end Go.Proofs.YtialhhdhpjjkaaaGreatDoor.C13i
