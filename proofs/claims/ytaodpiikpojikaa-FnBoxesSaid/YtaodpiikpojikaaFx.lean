/-
  The laws' own functions, each in one and the same form over data: slices of numbers, boxes, slices of boxes.
-/
import Derived.Test.YtaodpiikpojikaaBs
namespace Go.Proofs.Ytaodpiikpojikaa.Fx
open Go.ChangeShapes Go.WideShapes Go.ChangeAt Go.RowKit Go.Deep
open S0 S1 S9 S10 Ty Dm Bx
set_option linter.unusedVariables false
theorem wt_data {b : Box} (h : wtL b.dcs ≤ 4294967296) : b.data.length ≤ 4294967296 := by rw [Bs.wt_box] at h; exact h
theorem wt_each {l : List Box} : ∀ b ∈ l, b.data.length ≤ wtL (l.flatMap Box.dcs) := by
  induction l with
  | nil => intro b hb; cases hb
  | cons x l ih =>
    intro b hb
    rw [List.flatMap_cons, wtL_app, Bs.wt_box]
    rcases List.mem_cons.1 hb with rfl | hb
    · omega
    · have := ih b hb
      omega
theorem cnt_boxes (l : List Box) : cnt (boxesD l) ≤ 64 * wt (boxesD l) := by
  rw [Bs.wt_boxes]
  unfold boxesD
  simp only [cnt]
  induction l with
  | nil => simp [cntL]
  | cons x l ih => rw [List.flatMap_cons, cntL_app, wtL_app, Bs.cnt_box, Bs.wt_box, List.length_cons]; omega
theorem boxes_small {l : List Box} (h : wt (boxesD l) ≤ 4294967296) : l.length ≤ 4294967296 ∧ ∀ b ∈ l, b.data.length ≤ 4294967296 := by
  rw [Bs.wt_boxes] at h
  exact ⟨by omega, fun b hb => by have := wt_each b hb; omega⟩
theorem toBox (w : World) (b : Box) (vs : List Value) (h : RdsL w w.heap.size b.dcs vs) (hw : wtL b.dcs ≤ 4294967296) : Calls Try.prog 31 #[.agg vs.toArray] w (MadeL b.dcs w) := Bx.toBox w vs b h (wt_data hw)
theorem eqBox (w : World) (b : Box) (us vs : List Value) (h : RdsL w w.heap.size b.dcs us) (h2 : RdsL w w.heap.size b.dcs vs) (hw : wtL b.dcs ≤ 4294967296) : Calls Try.prog 22 #[.agg us.toArray, .agg vs.toArray] w (Gives (.bool true) w) := Bx.eqBox w us vs b h h2 (wt_data hw)
theorem cntT_box (b : Box) : cntT b.dcs = b.data.length := by
  have h := cnt_flat 5 .u8 1 b.data.length b.data
  unfold Box.dcs flatD at *
  simp only [cnt] at h
  simp only [cntT, h]
  omega
theorem mkT_box (b : Box) (k : Int) : mkT b.dcs k = (Box.mk b.to b.eph (marks fu8 k b.data.length) b.mac).dcs := by
  have h := mk_bytes 5 1 b.data.length b.data k
  unfold Box.dcs
  unfold flatD at *
  simp only [mkT, h, marks_len]
theorem markBox (w : World) (base : Nat) (b : Box) (vs : List Value) (bs : List Nat) (k : Int) (ho : OwnsL w base b.dcs vs bs) (hnd : bs.Nodup) (hw : wtL b.dcs ≤ 4294967296) (hk0 : 0 ≤ k) (hk1 : k + cntT b.dcs ≤ 1099511627776) :
    Calls Try.prog 25 #[.agg vs.toArray, .int .i64 k] w (MarkL b.dcs k base vs bs w) := by
  obtain ⟨A, c, rfl, h, rfl⟩ := Box.owns ho
  rw [cntT_box] at hk1
  refine (S10.markBox w base b.to b.eph b.mac A b.data.length c b.data k h (wt_data hw) hk0 (by omega)).mono ?_
  rintro ed w' ⟨rfl, h2, hg⟩
  refine ⟨by rw [cntT_box], ?_, turned_grown hg⟩
  rw [mkT_box]
  have hm : (marks fu8 k b.data.length).length = b.data.length := marks_len _ _ _
  have h3 := Box.made (b := Box.mk b.to b.eph (marks fu8 k b.data.length) b.mac) (w := w') (lo := base) (A := A) (c := c) (by show w'.ownsRow base 5 1 (.slice A (marks fu8 k b.data.length).length c) (marks fu8 k b.data.length).length (ints .u8 (marks fu8 k b.data.length)); rw [hm]; exact h2)
  rw [show (Box.mk b.to b.eph (marks fu8 k b.data.length) b.mac).data.length = b.data.length from hm] at h3
  exact h3
theorem heldBox (w : World) (b : Box) (vs : List Value) (k : Int) (h : RdsL w w.heap.size (mkT b.dcs k) vs) (hw : wtL b.dcs ≤ 4294967296) (hk0 : 0 ≤ k) (hk1 : k + cntT b.dcs ≤ 1099511627776) :
    Calls Try.prog 26 #[.agg vs.toArray, .int .i64 k] w (Gives (.int .i64 (k + cntT b.dcs)) w) := by
  rw [mkT_box] at h
  obtain ⟨A, c, rfl, hr⟩ := Box.rds h
  have hm : (Box.mk b.to b.eph (marks fu8 k b.data.length) b.mac).data.length = b.data.length := marks_len _ _ _
  rw [hm] at hr ⊢
  rw [cntT_box] at hk1 ⊢
  exact S10.heldBox w b.to b.eph b.mac A b.data.length c k hr (wt_data hw) hk0 (by omega)
theorem szBox (w : World) (b : Box) (vs : List Value) (z : Int) (h : RdsL w w.heap.size b.dcs vs) (ho : b.ok) (hz0 : 0 ≤ z) (hz1 : z ≤ 1048576) :
    Calls Try.prog 29 #[.agg vs.toArray, .int .i64 z] w (Gives (.int .i64 (if wtL b.dcs ≤ z then z - wtL b.dcs else -1)) w) := by
  obtain ⟨A, c, rfl, hr⟩ := Box.rds h
  have hd := ho.dlen
  unfold maxLen at hd
  rw [Bs.wt_box]
  by_cases hle : (b.data.length : Int) ≤ z
  · rw [if_pos hle]
    exact S10.szBox_y w b.to b.eph b.mac A b.data.length c z hz0 hz1 hle
  · rw [if_neg hle]
    exact S10.szBox_n w b.to b.eph b.mac A b.data.length c z hd hz0 hz1 (by omega)
theorem toBoxS (w : World) (l : List Box) (v : Value) (h : Rds w w.heap.size (boxesD l) v) (hw : wt (boxesD l) ≤ 4294967296) : Calls Try.prog 44 #[v] w (MadeD (boxesD l) w) := Bs.toBoxS w l v h (boxes_small hw).1 (boxes_small hw).2
theorem eqBoxS (w : World) (l : List Box) (u v : Value) (h : Rds w w.heap.size (boxesD l) u) (h2 : Rds w w.heap.size (boxesD l) v) (hw : wt (boxesD l) ≤ 4294967296) : Calls Try.prog 37 #[u, v] w (Gives (.bool true) w) := Bs.eqBoxS w l u v h h2 (boxes_small hw).1 (boxes_small hw).2
theorem markBoxS (w : World) (base : Nat) (l : List Box) (v : Value) (bs : List Nat) (k : Int) (ho : Owns w base (boxesD l) v bs) (hnd : bs.Nodup) (hw : wt (boxesD l) ≤ 4294967296) (hk0 : 0 ≤ k) (hk1 : k + cnt (boxesD l) ≤ 1099511627776) :
    Calls Try.prog 40 #[v, .int .i64 k] w (MarkD (boxesD l) k base v bs w) := Bs.markBoxS w base l v bs k ho hnd (boxes_small hw).1 (boxes_small hw).2 hk0 hk1
theorem heldBoxS (w : World) (l : List Box) (v : Value) (k : Int) (h : Rds w w.heap.size (mk (boxesD l) k) v) (hw : wt (boxesD l) ≤ 4294967296) (hk0 : 0 ≤ k) (hk1 : k + cnt (boxesD l) ≤ 1099511627776) :
    Calls Try.prog 41 #[v, .int .i64 k] w (Gives (.int .i64 (k + cnt (boxesD l))) w) := Bs.heldBoxS w l v k h (boxes_small hw).1 (boxes_small hw).2 hk0 hk1
theorem szBoxS (w : World) (l : List Box) (v : Value) (z : Int) (h : Rds w w.heap.size (boxesD l) v) (hn : l.length ≤ maxLen) (ho : ∀ b ∈ l, b.ok) (hz0 : 0 ≤ z) (hz1 : z ≤ 1048576) :
    Calls Try.prog 42 #[v, .int .i64 z] w (Gives (.int .i64 (if wt (boxesD l) ≤ z then z - wt (boxesD l) else -1)) w) := Bs.szBoxS_any w l v z h hn (fun b hb => (ho b hb).dlen) hz0 hz1
end Go.Proofs.Ytaodpiikpojikaa.Fx
