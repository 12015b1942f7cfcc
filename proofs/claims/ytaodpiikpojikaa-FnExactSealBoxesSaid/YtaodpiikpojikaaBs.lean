/-
  Contracts of the laws' own functions over slices of boxes: copy, compare, mark, look at the marks, count.
-/
import Derived.Test.YtaodpiikpojikaaBx
import Derived.Deep.RegionWith
import Derived.Deep.RegionHeld3
namespace Go.Proofs.Ytaodpiikpojikaa.Bs
open Go.ChangeShapes Go.WideShapes Go.ChangeAt Go.RowKit Go.Deep
open S0 S1 S9 S10 Ty Dm Bx
set_option linter.unusedVariables false
theorem box_info : (Try.prog.info? 26).map (fun i => (i.zero, i.size, i.bytes)) = some (some (.agg #[.int .i64 0, .int .i64 0, .slice none 0 0, .int .i64 0]), 4, 48) := by kernel_rfl
/-- The cells of the k-th box. -/
theorem box_at {l : List Box} {k : Nat} {b : Box} (h : l[k]? = some b) : (l.flatMap Box.dcs)[k * 4]? = some (.val (.int .i64 b.to)) ∧ (l.flatMap Box.dcs)[k * 4 + 1]? = some (.val (.int .i64 b.eph)) ∧
    (l.flatMap Box.dcs)[k * 4 + 2]? = some (flatD 5 .u8 1 b.data.length b.data) ∧ (l.flatMap Box.dcs)[k * 4 + 3]? = some (.val (.int .i64 b.mac)) :=
  ⟨flat_at Box.len l k b 0 h (by omega), flat_at Box.len l k b 1 h (by omega), flat_at Box.len l k b 2 h (by omega), flat_at Box.len l k b 3 h (by omega)⟩
/-- The k-th box, read where the slice lies. -/
theorem boxes_at {w : World} {hi m c k : Nat} {A : Option Addr} {l : List Box} {b : Box} (h : Rds w hi (boxesD l) (.slice A m c)) (e : l[k]? = some b) :
    ∃ g off B d, A = some ⟨g, off, none⟩ ∧ g < hi ∧ w.cell? ⟨g, off + k * 4, none⟩ = some (.int .i64 b.to) ∧ w.cell? ⟨g, off + k * 4 + 1, none⟩ = some (.int .i64 b.eph) ∧ w.cell? ⟨g, off + k * 4 + 2, none⟩ = some (.slice B b.data.length d) ∧
      w.cell? ⟨g, off + k * 4 + 3, none⟩ = some (.int .i64 b.mac) ∧ Rd w hi 1 B b.data.length (ints .u8 b.data) := by
  obtain ⟨e0, e1, e2, e3⟩ := box_at e
  obtain ⟨g, off, u0, rfl, hg, c0, r0⟩ := rds_at h e0
  obtain ⟨_, _, u1, ea, _, c1, r1⟩ := rds_at h e1
  injection ea with ea; injection ea with ea eb; subst ea eb
  obtain ⟨_, _, u2, ea, _, c2, r2⟩ := rds_at h e2
  injection ea with ea; injection ea with ea eb; subst ea eb
  obtain ⟨_, _, u3, ea, _, c3, r3⟩ := rds_at h e3
  injection ea with ea; injection ea with ea eb; subst ea eb
  obtain ⟨B, d, rfl, hr⟩ := rds_flat r2
  rw [← Nat.add_assoc] at c1 c2 c3
  rw [rds_val r0] at c0
  rw [rds_val r1] at c1
  rw [rds_val r3] at c3
  exact ⟨g, off, B, d, rfl, hg, c0, c1, c2, c3, hr⟩
theorem boxes_slice {w : World} {hi : Nat} {l : List Box} {v : Value} (h : Rds w hi (boxesD l) v) : ∃ A c, v = .slice A l.length c := by
  obtain ⟨A, c, vs, rfl, _⟩ := rds_row h
  exact ⟨A, c, rfl⟩
set_option maxHeartbeats 1600000 in
set_option maxRecDepth 100000 in
theorem toBoxS (w : World) (l : List Box) (v : Value) (hr : Rds w w.heap.size (boxesD l) v) (hn : l.length ≤ 4294967296) (hd : ∀ b ∈ l, b.data.length ≤ 4294967296) : Calls Try.prog 44 #[v] w (MadeD (boxesD l) w) := by
  obtain ⟨i0, hi, hz0, hz1, hz2⟩ := info_parts box_info
  obtain ⟨A, c, rfl⟩ := boxes_slice hr
  obtain ⟨n, hln⟩ : ∃ n, n = l.length := ⟨_, rfl⟩
  have HR := Lib.hid hr
  have HD := Lib.hid hd
  rw [← hln] at hn ⊢
  clear hr hd
  have HL := Lib.hid hln
  clear hln
  go_enter Try.func44, Try.ntmps44
  go_wp2_with (at_make; refine wpList_make_full _ rfl _ _ 32 rfl w.heap.size 26 i0 (.agg #[.int .i64 0, .int .i64 0, .slice none 0 0, .int .i64 0]) 4 Try.underlying32 hi hz0 hz1 _ _ _ _ n rfl rfl rfl rfl (by rw [hz2]; omega) (by unfold maxLen; omega) (Nat.le_refl _) ?_; intro w1 hown hgrow)
  have HF : Fill 26 4 n w ((l.take 0).flatMap Box.dcs) ((n - 0) * 4) w1 := ⟨[], _, [], by rw [List.nil_append]; exact hown, by have := hown.1; omega, by simp [OwnsL], by simp, below_grown hgrow (Nat.le_refl _) (fun _ h => by cases h)⟩
  clear hown hgrow
  go_loopw [4] (fun i wr => ∃ k : Nat, k ≤ n ∧ i = .int .i64 k ∧ Fill 26 4 n w ((l.take k).flatMap Box.dcs) ((n - k) * 4) wr) (fun i _ => n - (intOf i).toNat)
  case atStart => exact ⟨0, by omega, rfl, HF⟩
  case round =>
    obtain ⟨k, hk, rfl, HF⟩ := hrel
    by_cases hlt : k < n
    · obtain ⟨b, hb⟩ := get_some l (i := k) (by rw [← HL.out]; exact hlt)
      have hbw : Below w.heap.size w wr := by obtain ⟨_, _, _, _, _, _, _, h⟩ := HF; exact h
      have hws := hbw.size
      have HG := HF
      obtain ⟨vp, tail, bs, ho, ht, _, _, _⟩ := HG
      have hfl : vp.length + tail.length = n * 4 := by have := ho.1; rw [List.length_append] at this; exact this
      obtain ⟨g, off, B, d, rfl, hg, c0, c1, c2, c3, rB⟩ := boxes_at (rds_keep hbw.block _ _ HR.out) hb
      have HB := Lib.hid hb
      have HW := Lib.hid hbw
      have hdl := HD.out b (List.mem_of_getElem? hb)
      clear hb
      have HF1 := Lib.hid HF
      have HO := Lib.hid ho
      clear HF ho hbw ht hfl
      go_wp2_with fail
      (with_reducible refine (S10.toBox _ b.to b.eph b.mac B b.data.length d b.data (rB.more hws) hdl).mono ?_); rintro e w2 ⟨A2, d2, rfl, o2, b2⟩
      have ho2 := own_below HO.out b2
      obtain ⟨z0, q0, f0⟩ := stored_any ho2 (k * 4) (by omega)
      obtain ⟨z1, q1, f1⟩ := stored_any ho2 (k * 4 + 1) (by omega)
      obtain ⟨z2, q2, f2⟩ := stored_any ho2 (k * 4 + 2) (by omega)
      obtain ⟨z3, q3, f3⟩ := stored_any ho2 (k * 4 + 3) (by omega)
      have hgg := (ho2.lt _ rfl).2
      have hnk : (n - k) * 4 = (n - (k + 1)) * 4 + 4 := by omega
      rw [hnk] at HF1
      have HN := Lib.hid (fill_four (p := k * 4) HF1.out (by rw [flat_len Box.len, List.length_take, ← HL.out, Nat.min_eq_left (by omega)]) b2 (Box.made o2) (nodup_own _))
      have ht : (l.take (k + 1)).flatMap Box.dcs = (l.take k).flatMap Box.dcs ++ b.dcs := by
        obtain ⟨hl2, e2⟩ := List.getElem?_eq_some_iff.1 HB.out
        rw [List.take_succ_eq_append_getElem hl2, e2]; simp
      rw [← ht] at HN
      clear o2 ho2 hnk ht HF1
      go_wp2
      go_roundw
      case rel => exact ⟨k + 1, by omega, by go_num, HN.out⟩
      case measure => simp [intOf]; omega
    · have hkn : k = n := by omega
      have hd : decide (k < n) = false := by simp; omega
      rw [hkn, Nat.sub_self, Nat.zero_mul, show l.take n = l by rw [HL.out, List.take_length]] at HF
      clear hkn
      obtain ⟨bs, h1, h2, h3⟩ := fill_end HF
      go_wp2
      go_ret
      refine ⟨_, bs, rfl, ?_, h2, h3⟩
      unfold boxesD
      rw [← HL.out]
      exact h1
set_option maxHeartbeats 1600000 in
set_option maxRecDepth 100000 in
theorem eqBoxS (w : World) (l : List Box) (u v : Value) (hu : Rds w w.heap.size (boxesD l) u) (hv : Rds w w.heap.size (boxesD l) v) (hn : l.length ≤ 4294967296) (hd : ∀ b ∈ l, b.data.length ≤ 4294967296) : Calls Try.prog 37 #[u, v] w (Gives (.bool true) w) := by
  obtain ⟨A, c, rfl⟩ := boxes_slice hu
  obtain ⟨A', c', rfl⟩ := boxes_slice hv
  obtain ⟨n, hln⟩ : ∃ n, n = l.length := ⟨_, rfl⟩
  have HR := Lib.hid hu
  have HS := Lib.hid hv
  have HD := Lib.hid hd
  rw [← hln] at hn ⊢
  clear hu hv hd
  have HL := Lib.hid hln
  clear hln
  go_enter Try.func37, Try.ntmps37
  go_wp2
  go_loopw [5] (fun i wr => ∃ k : Nat, k ≤ n ∧ i = .int .i64 k ∧ Below w.heap.size w wr) (fun i _ => n - (intOf i).toNat)
  case atStart => exact ⟨0, by omega, rfl, Below.refl _ _⟩
  case round =>
    obtain ⟨k, hk, rfl, HW⟩ := hrel
    by_cases hlt : k < n
    · obtain ⟨b, hb⟩ := get_some l (i := k) (by rw [← HL.out]; exact hlt)
      have hws := HW.size
      obtain ⟨g, off, B, d, rfl, hg, c0, c1, c2, c3, rB⟩ := boxes_at (rds_keep HW.block _ _ HR.out) hb
      obtain ⟨g2, off2, B2, d2, rfl, hg2, p0, p1, p2, p3, rB2⟩ := boxes_at (rds_keep HW.block _ _ HS.out) hb
      have hdl := HD.out b (List.mem_of_getElem? hb)
      obtain ⟨m, hm⟩ : ∃ m, m = b.data.length := ⟨_, rfl⟩
      rw [← hm] at c2 p2 rB rB2 hdl
      have HM := Lib.hid hm
      have RB := Lib.hid (show Rd (wr.drewN 1) (wr.drewN 1).heap.size 1 B m (ints .u8 b.data) from (rB.more hws).on (drewN_below wr 1 _))
      have RB2 := Lib.hid (show Rd (wr.drewN 1) (wr.drewN 1).heap.size 1 B2 m (ints .u8 b.data) from (rB2.more hws).on (drewN_below wr 1 _))
      clear hb hm rB rB2
      go_wp2_with fail
      go_region_with (go_at_call 22; refine (S10.eqBox _ b.to b.eph b.mac B B2 m d d2 b.data RB.out RB2.out hdl).mono ?_; rintro e w2 ⟨rfl, b2⟩)
      all_goals
        have HW2 : Below w.heap.size w w2 := HW.trans ((drewN_below wr 1 _).trans (b2.mono hws))
        go_wp2
        go_roundw
        case rel => exact ⟨k + 1, by omega, by go_num, HW2⟩
        case measure => simp [intOf]; omega
    · have hd : decide (k < n) = false := by simp; omega
      go_wp2
      go_ret
      exact ⟨rfl, HW⟩
theorem cnt_box (b : Box) : cntL b.dcs = 3 + b.data.length := by
  unfold Box.dcs
  simp only [cntL, cnt, cnt_flat]
  omega
/-- The counter ahead of the cells of the j-th box. -/
theorem kP_box {l : List Box} {k : Int} {j : Nat} {b : Box} (h : l[j]? = some b) : kP (l.flatMap Box.dcs) k (j * 4 + 1) = kP (l.flatMap Box.dcs) k (j * 4) + 1 ∧ kP (l.flatMap Box.dcs) k (j * 4 + 2) = kP (l.flatMap Box.dcs) k (j * 4) + 1 + 1 ∧
    kP (l.flatMap Box.dcs) k (j * 4 + 3) = kP (l.flatMap Box.dcs) k (j * 4) + 1 + 1 + b.data.length ∧ kP (l.flatMap Box.dcs) k ((j + 1) * 4) = kP (l.flatMap Box.dcs) k (j * 4) + 1 + 1 + b.data.length + 1 := by
  obtain ⟨e0, e1, e2, e3⟩ := box_at h
  have h0 := kP_step (k := k) e0
  have h1 := kP_step (k := k) e1
  have h2 := kP_step (k := k) e2
  have h3 := kP_step (k := k) e3
  rw [cnt_flat] at h2
  simp only [cnt] at h0 h1 h3
  rw [show (j + 1) * 4 = j * 4 + 3 + 1 by omega]
  refine ⟨by rw [h0]; rfl, ?_, ?_, ?_⟩
  · rw [h1, h0]; rfl
  · rw [h2, h1, h0]; rfl
  · rw [h3, h2, h1, h0]; rfl
set_option maxHeartbeats 1600000 in
set_option maxRecDepth 100000 in
theorem markBoxS (w : World) (base : Nat) (l : List Box) (v : Value) (bs : List Nat) (k : Int) (ho : Owns w base (boxesD l) v bs) (hnd : bs.Nodup) (hn : l.length ≤ 4294967296) (hd : ∀ b ∈ l, b.data.length ≤ 4294967296) (hk0 : 0 ≤ k) (hk1 : k + cnt (boxesD l) ≤ 1099511627776) :
    Calls Try.prog 40 #[v, .int .i64 k] w (MarkD (boxesD l) k base v bs w) := by
  obtain ⟨A, c, rfl⟩ := boxes_slice (owns_rds _ _ _ ho)
  obtain ⟨n, hln⟩ : ∃ n, n = l.length := ⟨_, rfl⟩
  have HF : Mkg 26 4 l.length base (l.flatMap Box.dcs) k A l.length c bs w 0 w := mkg_start ho hnd
  have hcl := flat_len Box.len l
  have hkc := fun p => kP_le (cs := l.flatMap Box.dcs) (k := k) (p := p)
  have hcc : cnt (boxesD l) = cntL (l.flatMap Box.dcs) := by unfold boxesD; simp only [cnt]
  rw [hcc] at hk1
  have HC := Lib.hid hcc
  have HD := Lib.hid hd
  rw [← hln] at hn hcl HF ⊢
  have HK := Lib.hid hkc
  have HCL := Lib.hid hcl
  have HL := Lib.hid hln
  clear ho hnd hd hcc hln hkc hcl
  have hz : kP (l.flatMap Box.dcs) k 0 = k := kP_zero _ _
  go_enter Try.func40, Try.ntmps40
  go_wp2
  go_loopw [1, 5] (fun q i wr => ∃ j : Nat, j ≤ n ∧ i = .int .i64 j ∧ q = .int .i64 (kP (l.flatMap Box.dcs) k (j * 4)) ∧ Mkg 26 4 n base (l.flatMap Box.dcs) k A n c bs w (j * 4) wr) (fun _ i _ => n - (intOf i).toNat)
  case atStart => exact ⟨0, by omega, rfl, by rw [Nat.zero_mul, hz], by rw [Nat.zero_mul]; exact HF⟩
  case round =>
    obtain ⟨j, hj, rfl, rfl, HM⟩ := hrel
    clear HF hz
    by_cases hlt : j < n
    · obtain ⟨b, hb⟩ := get_some l (i := j) (by rw [← HL.out]; exact hlt)
      have hdl := HD.out b (List.mem_of_getElem? hb)
      obtain ⟨e0, e1, e2, e3⟩ := box_at hb
      obtain ⟨k1, k2, k3, k4⟩ := kP_box (k := k) hb
      have q0 := (HK.out (j * 4)).1
      have q4 := (HK.out ((j + 1) * 4)).2
      rw [k4] at q4
      have E4 := Lib.hid k4
      obtain ⟨g, rfl, hbg, hgs⟩ := mkg_addr HM e0
      obtain ⟨c0, f0, M1⟩ := mkg_val HM e0
      obtain ⟨c1, f1, M2⟩ := mkg_val M1 e1
      obtain ⟨u, b1, c2, o2, n2, M3⟩ := mkg_row M2 e2
      rw [k2] at M3
      have HE3 := Lib.hid e3
      have HK3 := Lib.hid k3
      simp only [mkV, k1] at c1 f1 c2 M1 M2 M3 o2
      obtain ⟨q, hq⟩ : ∃ q, q = kP (l.flatMap Box.dcs) k (j * 4) := ⟨_, rfl⟩
      rw [← hq] at q0 q4 c1 f1 c2 M3 o2 E4 HK3 ⊢
      have HQ := Lib.hid hq
      obtain ⟨o2, eb⟩ := flat_owns o2
      obtain ⟨A2, d2, rfl⟩ := own_nil_form o2
      have H3 := Lib.hid M3
      have HO2 := Lib.hid o2
      clear HM M1 M2 M3 e0 e1 e2 e3 k1 k2 k3 k4 hq hb o2
      obtain ⟨m, hm⟩ : ∃ m, m = b.data.length := ⟨_, rfl⟩
      rw [← hm] at c2 hdl q4
      have HMM := Lib.hid hm
      clear hm
      go_wp2_with fail
      (with_reducible refine (S1.markByteS _ base A2 m d2 b.data (q + 1 + 1) (by rw [HMM.out]; exact HO2.out) hdl (by omega) (by omega)).mono ?_); rintro e w3 ⟨rfl, o3, g3⟩
      have M3 := H3.out w3 (by rw [mk_bytes, eb, ← HMM.out]; exact owns_flat o3) (by rw [eb, ← HMM.out]; exact turned_grown g3)
      obtain ⟨c3, f3, M4⟩ := mkg_val (p := j * 4 + 3) M3 HE3.out
      rw [HK3.out, ← HMM.out] at M4
      have e4 : (j + 1) * 4 = j * 4 + 3 + 1 := by omega
      have hk4 := E4.out
      rw [← HMM.out] at hk4
      have hgs3 : g < w3.heap.size := by have := (mkg_addr (p := j * 4 + 3) M3 HE3.out); obtain ⟨g', e, _, h⟩ := this; injection e with e; injection e with e _ _; subst e; exact h
      have H4 := Lib.hid (show Mkg 26 4 n base (l.flatMap Box.dcs) k (some ⟨g, 0, none⟩) n c bs w ((j + 1) * 4) (w3.setCell ⟨g, j * 4 + 3, none⟩ (.int .i64 (q + 1 + 1 + m))) by rw [e4]; exact M4)
      have HK4 := Lib.hid hk4
      clear M3 M4 o3 g3 hk4 H3 e4
      go_wp2
      go_roundw
      case rel => exact ⟨j + 1, by omega, by go_num, by rw [HK4.out], H4.out⟩
      case measure => simp [intOf]; omega
    · have hd : decide (j < n) = false := by simp; omega
      have hjn : n = j := by omega
      subst hjn
      obtain ⟨h1, h2⟩ := mkg_end HM HCL.out
      have hk2 : kP (l.flatMap Box.dcs) k (n * 4) = k + cntL (l.flatMap Box.dcs) := kP_all _ _ _ HCL.out
      rw [hk2]
      have H1 := Lib.hid h1
      have H2 := Lib.hid h2
      clear HM h1 h2 hk2
      go_wp2
      go_ret
      refine ⟨by rw [HC.out]; rfl, ?_, H2.out⟩
      have := H1.out
      unfold boxesD
      rw [← HL.out]
      exact this
set_option maxHeartbeats 1600000 in
set_option maxRecDepth 100000 in
theorem heldBoxS (w : World) (l : List Box) (v : Value) (k : Int) (hr : Rds w w.heap.size (mk (boxesD l) k) v) (hn : l.length ≤ 4294967296) (hd : ∀ b ∈ l, b.data.length ≤ 4294967296) (hk0 : 0 ≤ k) (hk1 : k + cnt (boxesD l) ≤ 1099511627776) :
    Calls Try.prog 41 #[v, .int .i64 k] w (Gives (.int .i64 (k + cnt (boxesD l))) w) := by
  obtain ⟨A, c, rfl⟩ : ∃ A c, v = .slice A l.length c := by
    unfold boxesD at hr
    simp only [mk] at hr
    obtain ⟨A, c, vs, rfl, _⟩ := rds_row hr
    exact ⟨A, c, rfl⟩
  obtain ⟨n, hln⟩ : ∃ n, n = l.length := ⟨_, rfl⟩
  have hcl := flat_len Box.len l
  have hkc := fun p => kP_le (cs := l.flatMap Box.dcs) (k := k) (p := p)
  have hcc : cnt (boxesD l) = cntL (l.flatMap Box.dcs) := by unfold boxesD; simp only [cnt]
  unfold boxesD at hr
  rw [hcc] at hk1 ⊢
  have HD := Lib.hid hd
  have HR := Lib.hid hr
  rw [← hln] at hn hcl HR ⊢
  have HK := Lib.hid hkc
  have HCL := Lib.hid hcl
  have HL := Lib.hid hln
  clear hr hd hcc hln hkc hcl
  have hz : kP (l.flatMap Box.dcs) k 0 = k := kP_zero _ _
  go_enter Try.func41, Try.ntmps41
  go_wp2
  go_loopw [1, 5] (fun q i wr => ∃ j : Nat, j ≤ n ∧ i = .int .i64 j ∧ q = .int .i64 (kP (l.flatMap Box.dcs) k (j * 4)) ∧ Below w.heap.size w wr) (fun _ i _ => n - (intOf i).toNat)
  case atStart => exact ⟨0, by omega, rfl, by rw [Nat.zero_mul, hz], Below.refl _ _⟩
  case round =>
    obtain ⟨j, hj, rfl, rfl, HW⟩ := hrel
    clear hz
    by_cases hlt : j < n
    · obtain ⟨b, hb⟩ := get_some l (i := j) (by rw [← HL.out]; exact hlt)
      have hdl := HD.out b (List.mem_of_getElem? hb)
      obtain ⟨e0, e1, e2, e3⟩ := box_at hb
      obtain ⟨k1, k2, k3, k4⟩ := kP_box (k := k) hb
      have q0 := (HK.out (j * 4)).1
      have q4 := (HK.out ((j + 1) * 4)).2
      rw [k4] at q4
      have hr := rds_keep HW.block _ _ HR.out
      have hws := HW.size
      obtain ⟨g, off, u0, rfl, hg, c0, r0⟩ := marked_at hr e0
      obtain ⟨_, _, u1, ea, _, c1, r1⟩ := marked_at hr e1
      injection ea with ea; injection ea with ea eb; subst ea eb
      obtain ⟨_, _, u2, ea, _, c2, r2⟩ := marked_at hr e2
      injection ea with ea; injection ea with ea eb; subst ea eb
      obtain ⟨_, _, u3, ea, _, c3, r3⟩ := marked_at hr e3
      injection ea with ea; injection ea with ea eb; subst ea eb
      rw [mk_bytes] at r2
      obtain ⟨B, d, rfl, rB⟩ := rds_flat r2
      simp only [mk] at r0 r1 r3
      rw [rds_val r0] at c0
      rw [rds_val r1] at c1
      rw [rds_val r3] at c3
      rw [k2] at rB
      rw [← Nat.add_assoc] at c1 c2 c3
      simp only [mkV, k1, k3] at c0 c1 c3
      have E4 := Lib.hid k4
      clear e0 e1 e2 e3 r0 r1 r2 r3 hr k1 k2 k3 k4 hb
      obtain ⟨q, hq⟩ : ∃ q, q = kP (l.flatMap Box.dcs) k (j * 4) := ⟨_, rfl⟩
      rw [← hq] at q0 q4 c0 c1 c3 rB E4 ⊢
      obtain ⟨m, hm⟩ : ∃ m, m = b.data.length := ⟨_, rfl⟩
      rw [← hm] at c2 hdl q4 c3 rB E4
      have RB := Lib.hid rB
      clear hm hq rB
      go_wp2_with fail
      (with_reducible refine (S1.heldByteS _ B m d (q + 1 + 1) (RB.out.more hws) hdl (by omega) (by omega)).mono ?_); rintro e w3 ⟨rfl, b3⟩
      have p3 := (b3.cell (p := ⟨g, off + j * 4 + 3, none⟩) (by show g < _; omega)).trans c3
      have HW2 := HW.trans (b3.mono hws)
      clear b3
      go_wp2
      go_roundw
      case rel => exact ⟨j + 1, by omega, by go_num, by rw [E4.out], HW2⟩
      case measure => simp [intOf]; omega
    · have hd : decide (j < n) = false := by simp; omega
      have hjn : n = j := by omega
      subst hjn
      have hk2 : kP (l.flatMap Box.dcs) k (n * 4) = k + cntL (l.flatMap Box.dcs) := kP_all _ _ _ HCL.out
      rw [hk2]
      clear hk2
      go_wp2
      go_ret
      exact ⟨rfl, HW⟩
theorem wt_box (b : Box) : wtL b.dcs = b.data.length := by
  unfold Box.dcs
  simp only [wtL, wt, wt_flat]
  omega
theorem wt_take {l : List Box} {k : Nat} {b : Box} (h : l[k]? = some b) : wtL ((l.take (k + 1)).flatMap Box.dcs) = wtL ((l.take k).flatMap Box.dcs) + b.data.length := by
  obtain ⟨hl, e⟩ := List.getElem?_eq_some_iff.1 h
  rw [List.take_succ_eq_append_getElem hl, e, List.flatMap_append, wtL_app]
  simp [wt_box]
theorem wt_boxes (l : List Box) : wt (boxesD l) = l.length + wtL (l.flatMap Box.dcs) := by unfold boxesD; simp only [wt]
set_option maxHeartbeats 800000 in
set_option maxRecDepth 100000 in
theorem szBoxS_any (w : World) (l : List Box) (v : Value) (z : Int) (hr : Rds w w.heap.size (boxesD l) v) (hn : l.length ≤ maxLen) (hd : ∀ b ∈ l, b.data.length ≤ maxLen) (hz0 : 0 ≤ z) (hz1 : z ≤ 1048576) :
    Calls Try.prog 42 #[v, .int .i64 z] w (Gives (.int .i64 (if wt (boxesD l) ≤ z then z - wt (boxesD l) else -1)) w) := by
  obtain ⟨A, c, rfl⟩ := boxes_slice hr
  obtain ⟨n, hln⟩ : ∃ n, n = l.length := ⟨_, rfl⟩
  obtain ⟨r, hrr⟩ : ∃ r, r = (if wt (boxesD l) ≤ z then z - wt (boxesD l) else -1 : Int) := ⟨_, rfl⟩
  rw [← hrr]
  rw [wt_boxes, ← hln] at hrr
  unfold maxLen at hn hd
  have HD := Lib.hid hd
  have HR := Lib.hid hr
  have HX := Lib.hid hrr
  rw [← hln] at hn ⊢
  have HL := Lib.hid hln
  clear hr hd hln hrr
  by_cases hbig : z < (n : Int)
  · have e : r = -1 := by rw [HX.out, if_neg (by omega)]
    subst e
    clear HX
    go_enter Try.func42, Try.ntmps42
    go_wp2
    go_ret
    exact ⟨rfl, Below.refl _ _⟩
  go_enter Try.func42, Try.ntmps42
  go_wp2
  go_loopw [1, 5] (fun q i wr => ∃ k s : Nat, k ≤ n ∧ i = .int .i64 k ∧ q = .int .i64 (z - n - s) ∧ s = wtL ((l.take k).flatMap Box.dcs) ∧ (n : Int) + s ≤ z ∧ Below w.heap.size w wr) (fun _ i _ => n - (intOf i).toNat)
  case atStart => exact ⟨0, 0, by omega, rfl, by simp, by simp [wtL], by omega, Below.refl _ _⟩
  case round =>
    obtain ⟨k, s, hk, rfl, rfl, hs, hsz, HW⟩ := hrel
    have HS := Lib.hid hs
    clear hs
    by_cases hlt : k < n
    · obtain ⟨b, hb⟩ := get_some l (i := k) (by rw [← HL.out]; exact hlt)
      have hdl := HD.out b (List.mem_of_getElem? hb)
      have hws := HW.size
      obtain ⟨g, off, B, d, rfl, hg, c0, c1, c2, c3, rB⟩ := boxes_at (rds_keep HW.block _ _ HR.out) hb
      have HT := Lib.hid (wt_take hb)
      have HT2 := Lib.hid (show wtL (l.flatMap Box.dcs) = wtL ((l.take (k + 1)).flatMap Box.dcs) + wtL ((l.drop (k + 1)).flatMap Box.dcs) by rw [← wtL_app, ← List.flatMap_append, List.take_append_drop])
      obtain ⟨m, hm⟩ : ∃ m, m = b.data.length := ⟨_, rfl⟩
      rw [← hm] at c2 hdl HT
      clear hb hm rB
      by_cases hle : (m : Int) ≤ z - n - s
      · go_wp2_with fail
        (with_reducible refine (S10.szBox_y _ b.to b.eph b.mac B m d (z - n - s) (by omega) (by omega) hle).mono ?_); rintro e w3 ⟨rfl, b3⟩
        have HW2 := HW.trans (b3.mono hws)
        clear b3
        go_wp2
        go_roundw
        case rel => exact ⟨k + 1, s + m, by omega, by go_num, by simp; omega, by rw [HT.out, ← HS.out], by omega, HW2⟩
        case measure => simp [intOf]; omega
      · have e : r = -1 := by
          have h1 := HX.out
          have h2 := HT.out
          have h3 := HT2.out
          have h4 := HS.out
          rw [if_neg (by omega)] at h1
          exact h1
        subst e
        clear HX
        go_wp2_with fail
        (with_reducible refine (S10.szBox_n _ b.to b.eph b.mac B m d (z - n - s) (by omega) (by omega) (by omega) (by omega)).mono ?_); rintro e w3 ⟨rfl, b3⟩
        have HW2 := HW.trans (b3.mono hws)
        clear b3
        go_wp2
        go_ret
        exact ⟨rfl, HW2⟩
    · have hd : decide (k < n) = false := by simp; omega
      have e : r = z - n - s := by
        have h1 := HX.out
        have h4 := HS.out
        have hkn : k = n := by omega
        rw [hkn, show l.take n = l by rw [HL.out, List.take_length]] at h4
        rw [← h4, if_pos (by omega)] at h1
        omega
      subst e
      clear HX
      go_wp2
      go_ret
      exact ⟨rfl, HW⟩
end Go.Proofs.Ytaodpiikpojikaa.Bs
