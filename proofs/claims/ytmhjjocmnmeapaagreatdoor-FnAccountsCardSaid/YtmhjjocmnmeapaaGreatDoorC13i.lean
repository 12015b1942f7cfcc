import Derived.Test.YtmhjjocmnmeapaaGreatDoorC13r
import Derived.Test.YtmhjjocmnmeapaaGreatDoorC13s
import Derived.Test.YtmhjjocmnmeapaaGreatDoorAs
/-
  Chapter 13's contracts of the program, in the forms of C13i.form.
-/
namespace Go.Proofs.YtmhjjocmnmeapaaGreatDoor.C13i
open Go.ChangeShapes Go.WideShapes Go.ChangeAt Go.RowKit
open S0 S1 S9 Dm Fx C13m
set_option linter.unusedVariables false
set_option linter.unusedSimpArgs false
set_option maxRecDepth 100000
open M13 C13
theorem implAcc (w : World) (p : Int) (a : Fx.Assertion) (z : ByteArray) (ch ctr : Int) (ha : a.ok) (hs : a.Site.size ≤ 16000000) (hs2 : a.Origin.size ≤ 16000000) (hz : z.size ≤ 16000000) (p0 : -9223372036854775808 ≤ p) (p1 : p ≤ 9223372036854775807) (ht : La.Pow w) (he : La.Errs w) :
    Calls Tryz.prog 50 #[.agg #[.string a.Site, .string a.Origin, .int .i64 a.Challenge, .int .i64 a.Handle, .bool a.Present, .int .i64 a.Counter, .int .i64 a.Signature], .int .i64 p, .string z, .int .i64 ch, .int .i64 ctr] w (Gives (C13s.errV (chkA p a z ch ctr)) w) :=
  E20.law_go (C13s.orcAcc (fun W => W = w) p a ch ctr _) E18.noLoops Tryz.func50 (by kernel_rfl) (by kernel_rfl) (C13s.wpAcc (fun W => W = w) (fun W h => by subst h; exact ⟨ht, he⟩) p a z ch ctr _ rfl ha hs hs2 hz p0 p1) rfl rfl
    (E20.args_of (us := [.agg #[.string a.Site, .string a.Origin, .int .i64 a.Challenge, .int .i64 a.Handle, .bool a.Present, .int .i64 a.Counter, .int .i64 a.Signature], .int .i64 p, .string z, .int .i64 ch, .int .i64 ctr]))
set_option maxHeartbeats 4000000 in
theorem implChk (w : World) (p : Int) (a : Fx.Assertion) (z : ByteArray) (ch ctr : Int) (us : List Value) (h : RdsL w w.heap.size a.dcs us) (ha : a.ok) (hs : a.Site.size ≤ 16000000) (hs2 : a.Origin.size ≤ 16000000) (hz : z.size ≤ 16000000) (p0 : -9223372036854775808 ≤ p) (p1 : p ≤ 9223372036854775807) (ht : La.Pow w) (he0 : As.Er w) :
    Calls Tryz.prog 24 #[.int .i64 p, .agg us.toArray, .string z, .int .i64 ch, .int .i64 ctr] w (Gives (.int .i64 (chkA p a z ch ctr)) w) := by
  obtain ⟨he, hT⟩ := he0
  obtain rfl := Assertion.rds h
  clear h
  obtain ⟨r, hr⟩ : ∃ r, r = chkA p a z ch ctr := ⟨_, rfl⟩
  have KE : ∀ w1, Below w.heap.size w w1 → Calls Tryz.prog 50 #[.agg #[.string a.Site, .string a.Origin, .int .i64 a.Challenge, .int .i64 a.Handle, .bool a.Present, .int .i64 a.Counter, .int .i64 a.Signature], .int .i64 p, .string z, .int .i64 ch, .int .i64 ctr] w1 (Gives (C13s.errV r) w1) :=
    fun w1 hb => hr ▸ implAcc w1 p a z ch ctr ha hs hs2 hz p0 p1 (ht.stays hb) (he.stays hb)
  rw [← hr]
  clear hr ha
  obtain ⟨w2, hw2⟩ : ∃ w2, w2 = (w.alloc (.cells #[.string a.Site, .string a.Origin, .int .i64 a.Challenge, .int .i64 a.Handle, .bool a.Present, .int .i64 a.Counter, .int .i64 a.Signature] 28)).alloc (.cells #[.int .i64 0] 88) := ⟨_, rfl⟩
  have b2 : Below w.heap.size w w2 := hw2 ▸ ((Below.refl _ _).alloc (Nat.le_refl _) _).alloc (by simp) _
  have s2 : w2.heap.size = w.heap.size + 1 + 1 := by rw [hw2]; simp
  have c2 : w2.heap[w.heap.size + 1]? = some (.cells #[.int .i64 0] 88) := by
    rw [hw2]
    have := (MapKept.heap_alloc (w.alloc (.cells #[.string a.Site, .string a.Origin, .int .i64 a.Challenge, .int .i64 a.Handle, .bool a.Present, .int .i64 a.Counter, .int .i64 a.Signature] 28)) (.cells #[.int .i64 0] 88)).1
    simpa using this
  go_enter Tryz.func24, Tryz.ntmps24
  go_wp2_with fail
  rw [← hw2]
  go_at_call 50
  refine (KE w2 b2).mono ?_
  rintro e w3 ⟨rfl, b3⟩
  have b23 : Below w.heap.size w w3 := b2.trans (b3.mono (by omega))
  have s3 := b3.size
  have c3 : w3.heap[w.heap.size + 1]? = some (.cells #[.int .i64 0] 88) := (b3.block _ (by omega)).trans c2
  go_wp2_with fail
  by_cases h0 : r = 0
  · have e0 : C13s.errV r = .nilIface := by unfold C13s.errV; rw [if_pos h0]
    rw [e0]
    refine (As.as_nil _ _).mono ?_
    rintro e w4 ⟨rfl, rfl⟩
    go_wp2
    go_ret
    exact ⟨by rw [h0]; rfl, b23⟩
  · have e0 : C13s.errV r = .iface 88 (.agg #[.int .i64 r]) := by unfold C13s.errV; rw [if_neg h0]
    rw [e0]
    have ct : w3.cell? ⟨w.heap.size + 1, 0, none⟩ = some (.int .i64 0) := by simp [World.cell?, c3]
    have ft : w3.frozen? ⟨w.heap.size + 1, 0, none⟩ = false := by simp [World.frozen?, c3]
    have hlt : w.heap.size + 1 < w3.heap.size := by omega
    refine (As.as_hit r ⟨w.heap.size + 1, 0, none⟩ (.int .i64 0) w3 (hT.stays b23) ct ft).mono ?_
    rintro e w4 ⟨rfl, hw4⟩
    have cw : w4.cell? ⟨w.heap.size + 1, 0, none⟩ = some (.int .i64 r) := by
      rw [hw4]
      refine World.cell?_setCell_same _ _ _ (u := .int .i64 0) (by
        rw [World.cell?_alloc_lt _ _ _ (by simp <;> omega), World.cell?_alloc_lt _ _ _ (by simp <;> omega), World.cell?_alloc_lt _ _ _ (by simp <;> omega), World.cell?_alloc_lt _ _ _ hlt]
        exact ct)
    have bw : Below w.heap.size w w4 := by
      rw [hw4]
      exact ((((b23.alloc (by omega) _).alloc (by simp <;> omega) _).alloc (by simp <;> omega) _).alloc (by simp <;> omega) _).setCell (by simp <;> omega) _
    clear hw4 ct ft c3 b3 s3 c2 KE hT ht he
    go_wp2
    go_ret
    exact ⟨rfl, bw⟩
end Go.Proofs.YtmhjjocmnmeapaaGreatDoor.C13i
