/-
  Contracts of chapter 8's functions, of the program.
-/
import Derived.Test.YtaodpiikpojikaaC8f
import Derived.Test.YtaodpiikpojikaaC8d
import Derived.Test.YtaodpiikpojikaaC8e
import Derived.Test.YtaodpiikpojikaaC6i
import Derived.Test.YtaodpiikpojikaaC3c
import Derived.Laws.CopyOwn
import Derived.Laws.MakeOwn
namespace Go.Proofs.Ytaodpiikpojikaa.C8h
open Go.ChangeShapes Go.WideShapes Go.ChangeAt Go.RowKit Go.Deep
open S0 S1 S9 S10 Ty Dm Bx Fx C3 M3 M8 M10
set_option linter.unusedVariables false
theorem splice_front {α : Type} (Z X : List α) : (splice Z 0 X).length = X.length + (Z.length - X.length) ∧ ∀ j, j < X.length → (splice Z 0 X)[j]? = X[j]? := by
  unfold splice
  refine ⟨by simp, fun j hj => ?_⟩
  simp only [List.take_zero, List.nil_append]
  rw [List.getElem?_append_left hj]
theorem take_rd {w : World} {g : Nat} {Z : List Value} {t : TypeId} {xs : List Int} {n m : Nat} (h : w.heap[g]? = some (.cells (splice Z 0 (ints .u8 (xs.take m))).toArray t (0, 0))) (hl : xs.length = n) (hm : m ≤ n) : Rd w w.heap.size 1 (some ⟨g, 0, none⟩) m (ints .u8 (xs.take m)) := by
  have hlt : g < w.heap.size := (Array.getElem?_eq_some_iff.1 h).1
  have hlen : (ints .u8 (xs.take m)).length = m := by rw [ints_len, List.length_take]; omega
  refine ⟨by rw [hlen]; omega, fun _ => ⟨g, 0, rfl, hlt, fun j hj => ?_⟩⟩
  rw [Nat.zero_add]
  simp only [World.cell?, h]
  have := (splice_front Z (ints .u8 (xs.take m))).2 j (by omega)
  simpa using this
/-- The data of a box, taken as far as it fits. -/
def Taken (xs : List Int) (n : Nat) (z : Bool) (w : World) (e : Ending) (w' : World) : Prop :=
  ∃ (B : Option Addr) (m d : Nat), e = .returned (.tuple #[.slice B m d, .bool z]) ∧ m = min n 200 ∧ Rd w' w'.heap.size 1 B m (ints .u8 (xs.take m)) ∧ Below w.heap.size w w'
set_option maxHeartbeats 1000000 in
set_option maxRecDepth 100000 in
theorem take (w : World) (A : Option Addr) (n c : Nat) (xs : List Int) (z : Bool) (hz : z = decide (n ≤ 200)) (hr : Rd w w.heap.size 1 A n (ints .u8 xs)) (hn : n ≤ 1048576) :
    Calls Try.prog 47 #[.slice A n c] w (Taken xs n z w) := by
  have hl : xs.length = n := by have := hr.len1; rw [ints_len] at this; exact this
  obtain ⟨i0, hi, hz0, hz1, hz2⟩ := info_parts u8_info
  have hsz : (Try.prog.info? 5).map (·.size) = some 1 := by rw [hi, Option.map_some, hz1]
  obtain ⟨Z, hZ⟩ : ∃ Z : List Value, Z.toArray = madeCells (Value.int IntKind.u8 0).cells 200 := ⟨(madeCells (Value.int IntKind.u8 0).cells 200).toList, by simp⟩
  have hZl : Z.length = 200 := by have := congrArg Array.size hZ; rw [size_madeCells] at this; simpa using this
  have hmk : (Instr.makeSlice 22 (.int .i64 200) (.int .i64 200)).run Try.prog w = .ok (.slice (some ⟨w.heap.size, 0, none⟩) 200 200) (w.alloc (.cells Z.toArray 5)) := by
    have h := run_makeSlice (P := Try.prog) w 22 5 i0 (.int .u8 0) Try.underlying22 hi hz0 .i64 .i64 200 200 (by omega) (by omega) (by rw [hz1]; decide) (by rw [hz2]; decide) (by omega)
    rw [hz1] at h
    rw [hZ]
    exact h
  clear hZ
  have HR := Lib.hid hr
  have HL := Lib.hid hl
  have HZ := Lib.hid hz
  have b0 : Below w.heap.size w (w.alloc (.cells Z.toArray 5)) := (Below.refl _ _).alloc (Nat.le_refl _) _
  have hg : (w.alloc (.cells Z.toArray 5)).heap[w.heap.size]? = some (.cells Z.toArray 5 (0, 0)) := (MapKept.heap_alloc w (.cells Z.toArray 5)).1
  obtain ⟨m, hm⟩ : ∃ m, m = min n 200 := ⟨_, rfl⟩
  have HM := Lib.hid hm
  obtain ⟨X, hX⟩ : ∃ X, X = ints .u8 (xs.take m) := ⟨_, rfl⟩
  have hXl : X.length = m := by rw [hX, ints_len, List.length_take]; omega
  have HX := Lib.hid hX
  have HS := Lib.hid (show 0 < X.length → ∃ ad, A = some ad ∧ ∀ j v, X[j]? = some v → (w.alloc (.cells Z.toArray 5)).cell? (ad.add j) = some v from fun h0 => by
    obtain ⟨b, off, rfl, hb, hc⟩ := (hr.on b0).2 (by omega)
    refine ⟨_, rfl, fun j v hj => ?_⟩
    have hjm : j < m := by rw [← hXl]; exact (List.getElem?_eq_some_iff.1 hj).1
    have e : (⟨b, off, none⟩ : Addr).add j = ⟨b, off + j, none⟩ := by
      unfold Addr.add
      split
      · next h0 => subst h0; rfl
      · rfl
    rw [e, hc j (by omega), ← hj, hX, ints, ints, List.map_take, List.getElem?_take_of_lt hjm])
  have hcp : ∃ w2, (Builtin.copy_ #[22, 22] 3 #[.slice (some ⟨w.heap.size, 0, none⟩) 200 200, .slice A n c]).run Try.prog (w.alloc (.cells Z.toArray 5)) = .ok (.int .i64 m) w2 ∧
      w2.heap[w.heap.size]? = some (.cells (splice Z 0 X).toArray 5 (0, 0)) ∧ Below w.heap.size w w2 := by
    by_cases h0 : m = 0
    · subst h0
      obtain rfl : X = [] := List.eq_nil_of_length_eq_zero hXl
      exact ⟨_, run_copy_none (P := Try.prog) _ 22 22 3 5 _ A 200 200 n c Try.underlying22 hsz (by rw [hm]), by simpa [splice] using hg, b0⟩
    · obtain ⟨ad, rfl, hsrc⟩ := HS.out (by omega)
      have h := run_copy_row (P := Try.prog) (w.alloc (.cells Z.toArray 5)) 22 22 3 5 w.heap.size 0 200 200 ad n c Z.toArray 5 X Try.underlying22 hsz hg (by rw [hXl, hm]) hsrc (by simp; omega) (by rw [HX.out]; exact ints_one _ _)
      rw [hXl] at h
      exact ⟨_, h, by simpa [splice, hXl] using setRow_heap _ w.heap.size _ _ 5 _ hg, below_setRow b0 (Nat.le_refl _) _⟩
  obtain ⟨w2, hrun, hg2, hb2⟩ := hcp
  have HG2 := Lib.hid hg2
  have B2 := Lib.hid hb2
  have hm200 : m ≤ 200 := by omega
  have he : ((m : Int) == (n : Int)) = z := by
    rw [hz]
    by_cases h : n ≤ 200
    · rw [decide_eq_true h]; simp; omega
    · rw [decide_eq_false h]; simp; omega
  clear hr hl hz hX hm hg hg2 hb2 b0 hsz
  go_enter Try.func47, Try.ntmps47
  go_wp2_with fail
  refine bodyPost_ret (v := .tuple #[.slice (some ⟨w.heap.size, 0, none⟩) m 200, .bool z]) (by simp [results, Try.results47, go_sem]) rfl ⟨_, m, _, rfl, HM.out, take_rd (Z := Z) (HX.out ▸ HG2.out) HL.out (by have := HM.out; omega), B2.out⟩
set_option maxRecDepth 100000 in
theorem implKey (w : World) (k e : Int) (k0 : -9223372036854775808 ≤ k) (k1 : k ≤ 9223372036854775807) (e0 : -9223372036854775808 ≤ e) (e1 : e ≤ 9223372036854775807) : Calls Try.prog 28 #[.int .i64 k, .int .i64 e] w (Gives (.int .i64 (bkey k e)) w) := by
  have ho0 : (w.alloc (.cells #[.int .i64 163, .int .i64 e] 3)).ownsRow w.heap.size 3 1 (.slice (some ⟨w.heap.size, 0, none⟩) 2 2) 2 (ints .i64 [163, e]) := C6.own_ints w [163, e] 2 rfl (by omega)
  have b0 : Below w.heap.size w (w.alloc (.cells #[.int .i64 163, .int .i64 e] 3)) := (Below.refl _ _).alloc (Nat.le_refl _) _
  have HO := Lib.hid (show okInts [163, e] from (okInts.one (x := 163) (by omega) (by omega)).app (okInts.one e0 e1))
  go_enter Try.func28, Try.ntmps28
  go_wp2_with fail
  (with_reducible refine (C6i.implDer _ _ 2 2 [163, e] k k0 k1 (Rd.own ho0) HO.out (by omega)).mono ?_); rintro ed w2 ⟨rfl, b2⟩
  go_wp2
  go_ret
  exact ⟨rfl, b0.trans (b2.mono b0.size)⟩
set_option maxHeartbeats 4000000 in
set_option maxRecDepth 100000 in
theorem implMac (w : World) (k : Int) (b : Box) (vs : List Value) (k0 : -9223372036854775808 ≤ k) (k1 : k ≤ 9223372036854775807) (h : RdsL w w.heap.size b.dcs vs) (ho : b.ok) (hw : wtL b.dcs ≤ 1048576) :
    Calls Try.prog 32 #[.int .i64 k, .agg vs.toArray] w (Gives (.int .i64 (bmac k b)) w) := by
  obtain ⟨A, c, rfl, hr⟩ := Box.rds h
  rw [Bs.wt_box] at hw
  have HX := Lib.hid ho.data
  have HO := Lib.hid (C8.ok_mac ho hw)
  have HP := Lib.hid (show bmac k b = khash k ([167, b.to, b.eph] ++ b2i b.data) from rfl)
  obtain ⟨n, hn⟩ : ∃ n, n = b.data.length := ⟨_, rfl⟩
  rw [← hn] at hr hw ⊢
  have hbl : (b2i b.data).length = 1 + n := by rw [b2i_len, hn]
  clear h ho hn
  obtain ⟨w1, hw1⟩ : ∃ x, x = w.alloc (.cells #[.int .i64 b.to, .int .i64 b.eph, .slice A n c, .int .i64 b.mac] 26) := ⟨_, rfl⟩
  have s1 : w1.heap.size = w.heap.size + 1 := by rw [hw1]; simp
  have bw : Below w.heap.size w w1 := by rw [hw1]; exact (Below.refl _ _).alloc (Nat.le_refl _) _
  have ov := Fx.var_owns w 26 4 [.int .i64 b.to, .int .i64 b.eph, .slice A n c, .int .i64 b.mac] rfl
  rw [← hw1] at ov
  have nv : [w.heap.size].Nodup := by simp
  have hr1 := hr.on bw
  have d0 : w1.cell? ⟨w.heap.size, 0, none⟩ = some (.int .i64 b.to) := var_load ov nv 0 _ rfl
  have d1 : w1.cell? ⟨w.heap.size, 1, none⟩ = some (.int .i64 b.eph) := var_load ov nv 1 _ rfl
  have d2 : w1.cell? ⟨w.heap.size, 2, none⟩ = some (.slice A n c) := var_load ov nv 2 _ rfl
  have hgl : w.heap.size < w1.heap.size := by omega
  go_enter Try.func32, Try.ntmps32
  go_wp2_with fail
  rw [← hw1]
  -- the list first: its world, and what it owns there
  have R0 := Lib.hid (show Rd w1.drew w1.drew.heap.size 1 A n (ints .u8 b.data) from hr1.on (drewN_below w1 1 _))
  have B1 := Lib.hid (show Below w1.heap.size w1 ((w1.alloc (.cells #[.int .i64 167, .int .i64 b.to, .int .i64 b.eph] 3)).drew) from ((Below.refl _ _).alloc (Nat.le_refl _) _).drew)
  have R1 := Lib.hid (hr1.on B1.out)
  have E1 := Lib.hid (show ((w1.alloc (.cells #[.int .i64 167, .int .i64 b.to, .int .i64 b.eph] 3)).drew).ownsRow w1.heap.size 3 1 (.slice (some ⟨w.heap.size + 1, 0, none⟩) 3 3) 3 (ints .i64 [167, b.to, b.eph]) from s1 ▸ own_below (C6.own_ints w1 [167, b.to, b.eph] 3 rfl (by omega)) (Below.refl _ _).drew)
  have S1 := Lib.hid s1
  clear hr hr1 hw1 s1
  go_region_law (first
    | (go_simp
       go_at_call 61
       refine (implKeyed w4 A4 (3 + (1 + n)) c4 ([167, b.to, b.eph] ++ b2i b.data) k k0 k1 (by have h := Rd.own o4; rw [ints_app] at h; exact h) HO.out (by omega)).mono ?_
       rintro ed w5 ⟨rfl, b5⟩
       have BZ := bw.trans ((B4.out.trans (b5.mono B4.out.size)).mono bw.size))
    | (refine C8.stepI w2 rfl (.tmp 10) (.tmp 13) rfl w1.heap.size (.slice (some ⟨w.heap.size + 1, 0, none⟩) 3 3) 3 _ (by simp [Act.eval, S1.out]) (own_below E1.out b2) w2.heap.size (1 + n) c2 A2 (b2i b.data) (by simp [Act.eval]) (Rd.own o2) (by omega) (by omega) B2.out.size ?_
       intro v4 w4 o4 g4
       obtain ⟨A4, c4, rfl⟩ := own_nil_form o4
       have B4 := Lib.hid (B2.out.grown g4 B2.out.size (fun j hj => ((own_below E1.out b2).lt j hj).1)))
    | (refine C8.stepI _ rfl (.tmp 10) (.tmp 13) rfl w1.heap.size (.slice (some ⟨w3.heap.size, 0, none⟩) 3 3) 3 _ (by simp [Act.eval]) E3.out _ (1 + n) c3 A3 (b2i b.data) (by simp [Act.eval]) R3.out (by omega) (by omega) (Nat.le_trans B3.out.size (by simp)) ?_
       intro v4 w4 o4 g4
       obtain ⟨A4, c4, rfl⟩ := own_nil_form o4
       have B4 := Lib.hid ((B3.out.alloc B3.out.size _).grown g4 (Nat.le_trans B3.out.size (by simp)) (fun j hj => (E3.out.lt j hj).1)))
    | (go_simp
       go_at_call 62
       refine (C3b.implInts _ A n c b.data R1.out HX.out (by omega)).mono ?_
       rintro ed w2 ⟨A2, c2, rfl, o2, b2⟩
       have B2 := Lib.hid (B1.out.trans (b2.mono B1.out.size)))
    | (go_simp
       go_at_call 62
       refine (C3b.implInts _ A n c b.data R0.out HX.out (by omega)).mono ?_
       rintro ed w3 ⟨A3, c3, rfl, o3, b3⟩
       have B3 := Lib.hid (show Below w1.heap.size w1 w3 from (drewN_below w1 1 _).trans b3)
       have f0 := (B3.out.cell (p := ⟨w.heap.size, 0, none⟩) hgl).trans d0
       have f1 := (B3.out.cell (p := ⟨w.heap.size, 1, none⟩) hgl).trans d1
       have f2 := (B3.out.cell (p := ⟨w.heap.size, 2, none⟩) hgl).trans d2
       have hg3 := Nat.lt_of_lt_of_le hgl B3.out.size
       have E3 := Lib.hid (own_base (C6.own_ints w3 [167, b.to, b.eph] 3 rfl (by omega)) B3.out.size)
       have R3 := Lib.hid ((Rd.own o3).on ((Below.refl w3.heap.size w3).alloc (Nat.le_refl _) (.cells #[.int .i64 167, .int .i64 b.to, .int .i64 b.eph] 3)))))
  all_goals
    go_wp2
    go_ret
    exact ⟨by rw [HP.out]; rfl, BZ⟩
end Go.Proofs.Ytaodpiikpojikaa.C8h
