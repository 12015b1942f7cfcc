/-
  Contracts of chapter 8's functions, of the model.
-/
import Derived.Test.YtaodpiikpojikaaFx
import Derived.Test.YtaodpiikpojikaaM10
import Derived.Test.YtaodpiikpojikaaC3b
import Derived.Test.YtaodpiikpojikaaC3d
import Derived.Test.YtaodpiikpojikaaC6
import Derived.Deep.RegionLaw
import Derived.Deep.AppendLies
namespace Go.Proofs.Ytaodpiikpojikaa.C8
open Go.ChangeShapes Go.WideShapes Go.ChangeAt Go.RowKit Go.Deep
open S0 S1 S9 S10 Ty Dm Bx Fx C3 M3 M8 M10
set_option linter.unusedVariables false
set_option maxRecDepth 100000 in
theorem specKey (w : World) (k e : Int) (k0 : -9223372036854775808 ≤ k) (k1 : k ≤ 9223372036854775807) (e0 : -9223372036854775808 ≤ e) (e1 : e ≤ 9223372036854775807) : Calls Try.prog 27 #[.int .i64 k, .int .i64 e] w (Gives (.int .i64 (bkey k e)) w) := by
  have ho0 : (w.alloc (.cells #[.int .i64 163, .int .i64 e] 3)).ownsRow w.heap.size 3 1 (.slice (some ⟨w.heap.size, 0, none⟩) 2 2) 2 (ints .i64 [163, e]) := C6.own_ints w [163, e] 2 rfl (by omega)
  have b0 : Below w.heap.size w (w.alloc (.cells #[.int .i64 163, .int .i64 e] 3)) := (Below.refl _ _).alloc (Nat.le_refl _) _
  have HO := Lib.hid (show okInts [163, e] from (okInts.one (x := 163) (by omega) (by omega)).app (okInts.one e0 e1))
  go_enter Try.func27, Try.ntmps27
  go_wp2_with fail
  (with_reducible refine (C6.specDer _ _ 2 2 [163, e] k k0 k1 (Rd.own ho0) HO.out (by omega)).mono ?_); rintro ed w2 ⟨rfl, b2⟩
  go_wp2
  go_ret
  exact ⟨rfl, b0.trans (b2.mono b0.size)⟩
/-- An append of numbers inside a region that draws. -/
theorem stepI (w : World) {ops : Array Oper} {o : Oper} {a : Act} {K : Act → World → Prop} {Q : Exit → Act → World → Prop} {E : Prop} (hgd : o.guard = none) (s x : Operand)
    (ho : o.op = .call { callee := .builtin .append, args := #[s, x], argTypes := #[35, 35] }) (base : Nat) (v : Value) (n : Nat) (xs : List Value) (hs : a.eval s = v) (hown : w.ownsRow base 3 1 v n xs)
    (hi m c : Nat) (A : Option Addr) (ys : List Int) (hx : a.eval x = .slice A m c) (hr : Rd w hi 1 A m (ints .i64 ys)) (hm : 0 < m) (h63 : n + m ≤ 4398046511104) (hbase : base ≤ w.heap.size)
    (h : ∀ v' w', w'.ownsRow base 3 1 v' (n + m) (xs ++ ints .i64 ys) → w.grownBy w' v.ownBlock → K (a.put o.dst v') w') :
    if Region.wanted o (yielded ops a.tmps) = true then Oper.wp Try.prog o a w K Q else E := by
  obtain ⟨i0, hi0, hz0, hz1, hz2⟩ := info_parts int_info
  obtain ⟨b', off', rfl, _, hc⟩ := hr.2 hm
  refine step_append_lies w hgd s x 35 ho base 3 i0 (.int .i64 0) 1 8 Try.underlying35 hi0 hz0 hz1 hz2 rfl (by decide) v n xs hs hown ⟨b', off', none⟩ m c (ints .i64 ys) hx hr.1 (fun j u hu => ?_) (ints_one _ _) hm (by unfold maxLen; omega) (by omega) hbase _ rfl (fun g cap w' h1 h2 _ _ => h _ _ h1 h2)
  have hj : j < m * 1 := by
    rcases Nat.lt_or_ge j (m * 1) with h2 | h2
    · exact h2
    · rw [List.getElem?_eq_none (by rw [hr.1]; exact h2)] at hu; cases hu
  have e1 : (⟨b', off', none⟩ : Addr).add j = ⟨b', off' + j, none⟩ := by
    unfold Addr.add
    split
    · next h0 => subst h0; rfl
    · rfl
  rw [e1, hc j hj, hu]
theorem ok_mac {b : Box} (ho : b.ok) (hl : b.data.length ≤ 1048576) : okInts ([167, b.to, b.eph] ++ b2i b.data) :=
  (((okInts.one (x := 167) (by omega) (by omega)).app ((okInts.one ho.to.1 ho.to.2).app (okInts.one ho.eph.1 ho.eph.2)) : okInts ([167] ++ ([b.to] ++ [b.eph])))).app ((okInts.one (by omega) (by omega)).app (okInts.bytes ho.data))
set_option maxHeartbeats 4000000 in
set_option maxRecDepth 100000 in
theorem specMac (w : World) (k : Int) (b : Box) (vs : List Value) (k0 : -9223372036854775808 ≤ k) (k1 : k ≤ 9223372036854775807) (h : RdsL w w.heap.size b.dcs vs) (ho : b.ok) (hw : wtL b.dcs ≤ 1048576) :
    Calls Try.prog 30 #[.int .i64 k, .agg vs.toArray] w (Gives (.int .i64 (bmac k b)) w) := by
  obtain ⟨A, c, rfl, hr⟩ := Box.rds h
  rw [Bs.wt_box] at hw
  have HX := Lib.hid ho.data
  have HO := Lib.hid (ok_mac ho hw)
  have HP := Lib.hid (show bmac k b = khash k ([167, b.to, b.eph] ++ b2i b.data) from rfl)
  obtain ⟨n, hn⟩ : ∃ n, n = b.data.length := ⟨_, rfl⟩
  rw [← hn] at hr hw ⊢
  have hbl : (b2i b.data).length = 1 + n := by rw [b2i_len, hn]
  clear h ho hn
  obtain ⟨w1, hw1⟩ : ∃ x, x = w.alloc (.cells #[.int .i64 b.to, .int .i64 b.eph, .slice A n c, .int .i64 b.mac] 26) := ⟨_, rfl⟩
  have s1 : w1.heap.size = w.heap.size + 1 := by rw [hw1]; simp
  have bw : Below w.heap.size w w1 := by rw [hw1]; exact (Below.refl _ _).alloc (Nat.le_refl _) _
  have ov := Fx.var_owns w 26 4 [.int .i64 b.to, .int .i64 b.eph, .slice A n c, .int .i64 b.mac] rfl
  rw [← hw1] at ov
  have nv : [w.heap.size].Nodup := by simp
  have hr1 := hr.on bw
  have d0 : w1.cell? ⟨w.heap.size, 0, none⟩ = some (.int .i64 b.to) := var_load ov nv 0 _ rfl
  have d1 : w1.cell? ⟨w.heap.size, 1, none⟩ = some (.int .i64 b.eph) := var_load ov nv 1 _ rfl
  have d2 : w1.cell? ⟨w.heap.size, 2, none⟩ = some (.slice A n c) := var_load ov nv 2 _ rfl
  have hgl : w.heap.size < w1.heap.size := by omega
  go_enter Try.func30, Try.ntmps30
  go_wp2_with fail
  rw [← hw1]
  -- the list first: its world, and what it owns there
  have R0 := Lib.hid (show Rd w1.drew w1.drew.heap.size 1 A n (ints .u8 b.data) from hr1.on (drewN_below w1 1 _))
  have B1 := Lib.hid (show Below w1.heap.size w1 ((w1.alloc (.cells #[.int .i64 167, .int .i64 b.to, .int .i64 b.eph] 3)).drew) from ((Below.refl _ _).alloc (Nat.le_refl _) _).drew)
  have R1 := Lib.hid (hr1.on B1.out)
  have E1 := Lib.hid (show ((w1.alloc (.cells #[.int .i64 167, .int .i64 b.to, .int .i64 b.eph] 3)).drew).ownsRow w1.heap.size 3 1 (.slice (some ⟨w.heap.size + 1, 0, none⟩) 3 3) 3 (ints .i64 [167, b.to, b.eph]) from s1 ▸ own_below (C6.own_ints w1 [167, b.to, b.eph] 3 rfl (by omega)) (Below.refl _ _).drew)
  have S1 := Lib.hid s1
  clear hr hr1 hw1 s1
  go_region_law (first
    | (go_simp
       go_at_call 59
       refine (specKeyed w4 A4 (3 + (1 + n)) c4 ([167, b.to, b.eph] ++ b2i b.data) k k0 k1 (by have h := Rd.own o4; rw [ints_app] at h; exact h) HO.out (by omega)).mono ?_
       rintro ed w5 ⟨rfl, b5⟩
       have BZ := bw.trans ((B4.out.trans (b5.mono B4.out.size)).mono bw.size))
    | (refine stepI w2 rfl (.tmp 10) (.tmp 13) rfl w1.heap.size (.slice (some ⟨w.heap.size + 1, 0, none⟩) 3 3) 3 _ (by simp [Act.eval, S1.out]) (own_below E1.out b2) w2.heap.size (1 + n) c2 A2 (b2i b.data) (by simp [Act.eval]) (Rd.own o2) (by omega) (by omega) B2.out.size ?_
       intro v4 w4 o4 g4
       obtain ⟨A4, c4, rfl⟩ := own_nil_form o4
       have B4 := Lib.hid (B2.out.grown g4 B2.out.size (fun j hj => ((own_below E1.out b2).lt j hj).1)))
    | (refine stepI _ rfl (.tmp 10) (.tmp 13) rfl w1.heap.size (.slice (some ⟨w3.heap.size, 0, none⟩) 3 3) 3 _ (by simp [Act.eval]) E3.out _ (1 + n) c3 A3 (b2i b.data) (by simp [Act.eval]) R3.out (by omega) (by omega) (Nat.le_trans B3.out.size (by simp)) ?_
       intro v4 w4 o4 g4
       obtain ⟨A4, c4, rfl⟩ := own_nil_form o4
       have B4 := Lib.hid ((B3.out.alloc B3.out.size _).grown g4 (Nat.le_trans B3.out.size (by simp)) (fun j hj => (E3.out.lt j hj).1)))
    | (go_simp
       go_at_call 60
       refine (C3b.specInts _ A n c b.data R1.out HX.out (by omega)).mono ?_
       rintro ed w2 ⟨A2, c2, rfl, o2, b2⟩
       have B2 := Lib.hid (B1.out.trans (b2.mono B1.out.size)))
    | (go_simp
       go_at_call 60
       refine (C3b.specInts _ A n c b.data R0.out HX.out (by omega)).mono ?_
       rintro ed w3 ⟨A3, c3, rfl, o3, b3⟩
       have B3 := Lib.hid (show Below w1.heap.size w1 w3 from (drewN_below w1 1 _).trans b3)
       have f0 := (B3.out.cell (p := ⟨w.heap.size, 0, none⟩) hgl).trans d0
       have f1 := (B3.out.cell (p := ⟨w.heap.size, 1, none⟩) hgl).trans d1
       have f2 := (B3.out.cell (p := ⟨w.heap.size, 2, none⟩) hgl).trans d2
       have hg3 := Nat.lt_of_lt_of_le hgl B3.out.size
       have E3 := Lib.hid (own_base (C6.own_ints w3 [167, b.to, b.eph] 3 rfl (by omega)) B3.out.size)
       have R3 := Lib.hid ((Rd.own o3).on ((Below.refl w3.heap.size w3).alloc (Nat.le_refl _) (.cells #[.int .i64 167, .int .i64 b.to, .int .i64 b.eph] 3)))))
  all_goals
    go_wp2
    go_ret
    exact ⟨by rw [HP.out]; rfl, BZ⟩
end Go.Proofs.Ytaodpiikpojikaa.C8
