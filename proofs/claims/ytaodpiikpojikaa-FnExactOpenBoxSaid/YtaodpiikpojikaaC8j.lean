/-
  Contracts of chapter 8's functions over boxes, of the program: OpenBox.
-/
import Derived.Test.YtaodpiikpojikaaC8i
import Derived.Test.YtaodpiikpojikaaC8c
import Derived.Deep.QuietTactic
import Derived.BigQuiet
import Derived.Deep.RegionHeld3
namespace Go.Proofs.Ytaodpiikpojikaa.C8j
open Go.ChangeShapes Go.WideShapes Go.ChangeAt Go.RowKit Go.Deep
open S0 S1 S9 S10 Ty Dm Bx Fx C3 M3 M8 M10
set_option linter.unusedVariables false
theorem validT (w : World) {k : Int} (h : key k) : Calls Try.prog 48 #[.int .i64 k] w fun e w' => e = .returned (.bool true) ∧ w' = w := (implValid w k).mono (by rintro e w2 ⟨rfl, rfl⟩; rw [C6.isKey_t h]; exact ⟨rfl, rfl⟩)
theorem validF (w : World) {k : Int} (h : ¬ key k) : Calls Try.prog 48 #[.int .i64 k] w fun e w' => e = .returned (.bool false) ∧ w' = w := (implValid w k).mono (by rintro e w2 ⟨rfl, rfl⟩; rw [C6.isKey_f h]; exact ⟨rfl, rfl⟩)
theorem pubQ (w : World) {k t : Int} (h : t = pub k) : Calls Try.prog 51 #[.int .i64 k] w fun e w' => e = .returned (.int .i64 t) ∧ w' = w := (C6i.implPub0 k w).mono (by rintro e w2 ⟨rfl, rfl⟩; rw [h]; exact ⟨rfl, rfl⟩)
set_option maxHeartbeats 4000000 in
set_option maxRecDepth 100000 in
theorem implOpen (w : World) (k : Int) (b : Box) (vs : List Value) (h : RdsL w w.heap.size b.dcs vs) (ho : b.ok) (hw : wtL b.dcs ≤ 1048576) :
    Calls Try.prog 15 #[.int .i64 k, .agg vs.toArray] w (MadeD1 (bytesD (openB k b)) (.bool (openOk k b)) w) := by
  obtain ⟨A, c, rfl, hr⟩ := Box.rds h
  have HH := Lib.hid h
  have HOK := Lib.hid ho
  have HW := Lib.hid hw
  rw [Bs.wt_box] at hw
  obtain ⟨n, hn⟩ : ∃ n, n = b.data.length := ⟨_, rfl⟩
  rw [← hn] at hr hw HH ⊢
  have HN := Lib.hid hn
  clear h ho hn
  obtain ⟨w1, hw1⟩ : ∃ x, x = w.alloc (.cells #[.int .i64 b.to, .int .i64 b.eph, .slice A n c, .int .i64 b.mac] 26) := ⟨_, rfl⟩
  have s1 : w1.heap.size = w.heap.size + 1 := by rw [hw1]; simp
  have bw : Below w.heap.size w w1 := by rw [hw1]; exact (Below.refl _ _).alloc (Nat.le_refl _) _
  have ov := Fx.var_owns w 26 4 [.int .i64 b.to, .int .i64 b.eph, .slice A n c, .int .i64 b.mac] rfl
  rw [← hw1] at ov
  have nv : [w.heap.size].Nodup := by simp
  have d0 : w1.cell? ⟨w.heap.size, 0, none⟩ = some (.int .i64 b.to) := var_load ov nv 0 _ rfl
  have d1 : w1.cell? ⟨w.heap.size, 1, none⟩ = some (.int .i64 b.eph) := var_load ov nv 1 _ rfl
  have d2 : w1.cell? ⟨w.heap.size, 2, none⟩ = some (.slice A n c) := var_load ov nv 2 _ rfl
  have d3 : w1.cell? ⟨w.heap.size, 3, none⟩ = some (.int .i64 b.mac) := var_load ov nv 3 _ rfl
  have hgl : w.heap.size < w1.heap.size := by omega
  clear s1
  obtain ⟨t, ht⟩ : ∃ t, t = pub k := ⟨_, rfl⟩
  have HR := Lib.hid hr
  have OV := Lib.hid ov
  clear hr ov
  by_cases hk : key k
  · by_cases hto : b.to = t
    · by_cases he : key b.eph
      · by_cases hl : n ≤ 200
        · have c2 : (b.to != t) = false := by simp [hto]
          have c4 : decide ((200 : Int) < (n : Int)) = false := by simp; omega
          have hok : openOk k b = decide (b.mac = bmac (bkey k b.eph) b) := by
            unfold openOk
            by_cases hm : b.mac = bmac (bkey k b.eph) b
            · rw [decide_eq_true hm]; exact decide_eq_true ⟨hk, by rw [hto, ht], he, by rw [← HN.out]; exact hl, hm⟩
            · rw [decide_eq_false hm]; exact decide_eq_false (fun h => hm h.2.2.2.2)
          have hkk := hk
          have k0 := hk.1
          have k1 := hk.2
          have e0 := he.1
          have e1 := he.2
          have hbk := bkey_key k b.eph
          obtain ⟨m, hm⟩ : ∃ m, m = bkey k b.eph := ⟨_, rfl⟩
          rw [← hm] at hbk hok
          have m0 := hbk.1
          have m1 := hbk.2
          obtain ⟨z, hz⟩ : ∃ z, z = bmac m b := ⟨_, rfl⟩
          rw [← hz] at hok
          have HZ := Lib.hid hz
          have HO := Lib.hid hok
          have HM := Lib.hid hm
          have HK := Lib.hid hk
          have HE := Lib.hid he
          have HT := Lib.hid ht
          clear hk he ht hto hkk hm hbk hok hz
          obtain ⟨zz, hzz⟩ : ∃ z, z = decide (n ≤ 200) := ⟨_, rfl⟩
          have hzt : zz = true := by rw [hzz]; exact decide_eq_true hl
          subst hzt
          have HZZ := Lib.hid hzz
          clear hzz
          go_enter Try.func15, Try.ntmps15
          go_wp2_with fail
          rw [← hw1]
          clear hw1
          go_quiet (first | (go_at_call 48; exact Calls.quiet_of_same (validT _ HK.out)) | (go_at_call 48; exact Calls.quiet_of_same (validT _ HE.out)) | (go_at_call 48; exact Calls.quiet_of_same (validF _ HK.out)) | (go_at_call 48; exact Calls.quiet_of_same (validF _ HE.out)) | (go_at_call 51; exact Calls.quiet_of_same (pubQ _ HT.out)))
          go_wp2_with fail
          (with_reducible refine (C8h.take _ A n c b.data true HZZ.out (HR.out.on (bw.trans (drewN_below w1 nq _))) (by omega)).mono ?_); rintro ed wt ⟨A2, l2, c2, rfl, hl2, hr2, bt⟩
          have Bt : Below w1.heap.size w1 wt := (drewN_below w1 nq _).trans bt
          have ovt := owns_below OV.out Bt
          have t0 := var_load ovt nv 0 _ rfl
          have t1 := var_load ovt nv 1 _ rfl
          have t2 := var_load ovt nv 2 _ rfl
          have t3 := var_load ovt nv 3 _ rfl
          have HR2 := Lib.hid hr2
          have HL2 := Lib.hid hl2
          clear hr2 hl2 bt d0 d1 d2 d3 hgl
          go_wp2_with fail
          (with_reducible refine (C8h.implKey _ k b.eph (by omega) (by omega) (by omega) (by omega)).mono ?_); rintro ed w2 ⟨rfl, b2⟩
          rw [← HM.out]
          have B2 : Below w1.heap.size w1 w2 := Bt.trans (b2.mono Bt.size)
          have ov2 := owns_below OV.out B2
          have BW2 := bw.trans (B2.mono bw.size)
          have hh2 := rdsL_on HH.out BW2
          have HRT := Lib.hid (HR2.out.on b2)
          have p0 := var_load ov2 nv 0 _ rfl
          have p1 := var_load ov2 nv 1 _ rfl
          have p2 := var_load ov2 nv 2 _ rfl
          have p3 := var_load ov2 nv 3 _ rfl
          have hg2 : w.heap.size < w2.heap.size := var_lt ov2
          clear b2 t0 t1 t2 t3
          by_cases hmz : b.mac = z
          · have c9 : (b.mac != z) = false := by simp [hmz]
            have hok : openOk k b = true := by rw [HO.out]; exact decide_eq_true hmz
            have HT2 := Lib.hid (show openB k b = decL m b.data by unfold openB; rw [if_pos hok, HM.out])
            have HY := Lib.hid hok
            clear hok hmz
            go_wp2_with fail
            go_region_held3 (fun wx => wx.cell? ⟨w.heap.size, 0, none⟩ = some (.int .i64 b.to) ∧ wx.cell? ⟨w.heap.size, 1, none⟩ = some (.int .i64 b.eph) ∧ wx.cell? ⟨w.heap.size, 2, none⟩ = some (.slice A n c) ∧ wx.cell? ⟨w.heap.size, 3, none⟩ = some (.int .i64 b.mac)) (first | exact ⟨p0, p1, p2, p3⟩ | exact ⟨q0, q1, q2, q3⟩) (first | (go_at_call 32; refine (C8h.implMac _ m b _ (by omega) (by omega) (rdsL_on hh2 (drewN_below w2 1 _)) HOK.out HW.out).mono ?_; rintro e w3 ⟨rfl, b3⟩; rw [← HZ.out]; have B3 : Below w2.heap.size w2 w3 := (drewN_below w2 1 _).trans b3; have q0 := (B3.cell (p := ⟨w.heap.size, 0, none⟩) hg2).trans p0; have q1 := (B3.cell (p := ⟨w.heap.size, 1, none⟩) hg2).trans p1; have q2 := (B3.cell (p := ⟨w.heap.size, 2, none⟩) hg2).trans p2; have q3 := (B3.cell (p := ⟨w.heap.size, 3, none⟩) hg2).trans p3))
            have BW3 := BW2.trans (B3.mono BW2.size)
            have hln : l2 = n := by have := HL2.out; omega
            have hr3 := HRT.out.on B3
            rw [hln, show b.data.take n = b.data by rw [HN.out, List.take_length]] at hr3
            go_wp2_with fail
            rw [hln]
            (with_reducible refine (C3c.implDecrypt _ m A2 n c2 b.data (by omega) (by omega) hr3 HOK.out.data (by omega)).mono ?_); rintro ed w4 ⟨A4, c4, rfl, o4, b4⟩
            have BW4 := BW3.trans (b4.mono BW3.size)
            have hlen : (decL m b.data).length = n := by rw [dec_len, ← HN.out]
            go_wp2
            rw [HT2.out, HY.out]
            refine bodyPost_ret (v := .tuple #[.slice A4 n c4, .bool true]) (by simp [results, Try.results15, go_sem]) rfl ⟨_, _, rfl, ?_, nodup_own (.slice A4 n c4), BW4⟩
            unfold bytesD
            rw [hlen]
            exact owns_flat (own_base o4 BW3.size)
          · have c9 : (b.mac != z) = true := by simp [hmz]
            have hok : openOk k b = false := by rw [HO.out]; exact decide_eq_false hmz
            have HF := Lib.hid hok
            clear hok hmz
            go_wp2_with fail
            go_region_held3 (fun wx => wx.cell? ⟨w.heap.size, 0, none⟩ = some (.int .i64 b.to) ∧ wx.cell? ⟨w.heap.size, 1, none⟩ = some (.int .i64 b.eph) ∧ wx.cell? ⟨w.heap.size, 2, none⟩ = some (.slice A n c) ∧ wx.cell? ⟨w.heap.size, 3, none⟩ = some (.int .i64 b.mac)) (first | exact ⟨p0, p1, p2, p3⟩ | exact ⟨q0, q1, q2, q3⟩) (first | (go_at_call 32; refine (C8h.implMac _ m b _ (by omega) (by omega) (rdsL_on hh2 (drewN_below w2 1 _)) HOK.out HW.out).mono ?_; rintro e w3 ⟨rfl, b3⟩; rw [← HZ.out]; have B3 : Below w2.heap.size w2 w3 := (drewN_below w2 1 _).trans b3; have q0 := (B3.cell (p := ⟨w.heap.size, 0, none⟩) hg2).trans p0; have q1 := (B3.cell (p := ⟨w.heap.size, 1, none⟩) hg2).trans p1; have q2 := (B3.cell (p := ⟨w.heap.size, 2, none⟩) hg2).trans p2; have q3 := (B3.cell (p := ⟨w.heap.size, 3, none⟩) hg2).trans p3))
            have BW3 := BW2.trans (B3.mono BW2.size)
            go_wp2
            refine bodyPost_ret (v := .tuple #[.slice (some ⟨w3.heap.size, 0, none⟩) 0 0, .bool false]) (by simp [results, Try.results15, go_sem]) rfl (C8c.none_made (wr := w3) HF.out BW3)
        · have hf : openOk k b = false := by unfold openOk; exact decide_eq_false (fun h => hl (by rw [HN.out]; exact h.2.2.2.1))
          have c2 : (b.to != t) = false := by simp [hto]
          have k0 := hk.1
          have k1 := hk.2
          have e0 := he.1
          have e1 := he.2
          obtain ⟨m, hm⟩ : ∃ m, m = bkey k b.eph := ⟨_, rfl⟩
          have HM := Lib.hid hm
          have HK := Lib.hid hk
          have HE := Lib.hid he
          have HT := Lib.hid ht
          clear hk he ht hto hm
          have HF := Lib.hid hf
          obtain ⟨zz, hzz⟩ : ∃ z, z = decide (n ≤ 200) := ⟨_, rfl⟩
          have hzt : zz = false := by rw [hzz]; exact decide_eq_false hl
          subst hzt
          have HZZ := Lib.hid hzz
          clear hzz
          go_enter Try.func15, Try.ntmps15
          go_wp2_with fail
          rw [← hw1]
          clear hw1
          go_quiet (first | (go_at_call 48; exact Calls.quiet_of_same (validT _ HK.out)) | (go_at_call 48; exact Calls.quiet_of_same (validT _ HE.out)) | (go_at_call 48; exact Calls.quiet_of_same (validF _ HK.out)) | (go_at_call 48; exact Calls.quiet_of_same (validF _ HE.out)) | (go_at_call 51; exact Calls.quiet_of_same (pubQ _ HT.out)))
          go_wp2_with fail
          (with_reducible refine (C8h.take _ A n c b.data false HZZ.out (HR.out.on (bw.trans (drewN_below w1 nq _))) (by omega)).mono ?_); rintro ed wt ⟨A2, l2, c2, rfl, hl2, hr2, bt⟩
          have Bt : Below w1.heap.size w1 wt := (drewN_below w1 nq _).trans bt
          have ovt := owns_below OV.out Bt
          have t0 := var_load ovt nv 0 _ rfl
          have t1 := var_load ovt nv 1 _ rfl
          have t2 := var_load ovt nv 2 _ rfl
          have t3 := var_load ovt nv 3 _ rfl
          have HR2 := Lib.hid hr2
          have HL2 := Lib.hid hl2
          clear hr2 hl2 bt d0 d1 d2 d3 hgl
          go_wp2_with fail
          (with_reducible refine (C8h.implKey _ k b.eph (by omega) (by omega) (by omega) (by omega)).mono ?_); rintro ed w2 ⟨rfl, b2⟩
          rw [← HM.out]
          have B2 : Below w1.heap.size w1 w2 := Bt.trans (b2.mono Bt.size)
          have ov2 := owns_below OV.out B2
          have BW2 := bw.trans (B2.mono bw.size)
          have hh2 := rdsL_on HH.out BW2
          have HRT := Lib.hid (HR2.out.on b2)
          have p0 := var_load ov2 nv 0 _ rfl
          have p1 := var_load ov2 nv 1 _ rfl
          have p2 := var_load ov2 nv 2 _ rfl
          have p3 := var_load ov2 nv 3 _ rfl
          have hg2 : w.heap.size < w2.heap.size := var_lt ov2
          clear b2 t0 t1 t2 t3
          go_wp2_with fail
          go_quiet (fail)
          go_wp2
          refine bodyPost_ret (v := .tuple #[.slice (some ⟨(w2.drewN nq).heap.size, 0, none⟩) 0 0, .bool false]) (by simp [results, Try.results15, go_sem]) rfl (C8c.none_made (wr := w2.drewN nq) HF.out (BW2.trans (drewN_below _ _ _)))
      · have hf : openOk k b = false := by unfold openOk; exact decide_eq_false (fun h => he h.2.2.1)
        have c2 : (b.to != t) = false := by simp [hto]
        have HK := Lib.hid hk
        have HE := Lib.hid he
        have HT := Lib.hid ht
        clear hk he ht hto
        have HF := Lib.hid hf
        go_enter Try.func15, Try.ntmps15
        go_wp2_with fail
        rw [← hw1]
        clear hw1
        go_quiet (first | (go_at_call 48; exact Calls.quiet_of_same (validT _ HK.out)) | (go_at_call 48; exact Calls.quiet_of_same (validT _ HE.out)) | (go_at_call 48; exact Calls.quiet_of_same (validF _ HK.out)) | (go_at_call 48; exact Calls.quiet_of_same (validF _ HE.out)) | (go_at_call 51; exact Calls.quiet_of_same (pubQ _ HT.out)))
        go_wp2
        refine bodyPost_ret (v := .tuple #[.slice (some ⟨(w1.drewN nq).heap.size, 0, none⟩) 0 0, .bool false]) (by simp [results, Try.results15, go_sem]) rfl (C8c.none_made (wr := w1.drewN nq) HF.out (bw.trans (drewN_below _ _ _)))
    · have hf : openOk k b = false := by unfold openOk; exact decide_eq_false (fun h => hto (by rw [ht]; exact h.2.1))
      have c2 : (b.to != t) = true := by simp [hto]
      have HK := Lib.hid hk
      have HT := Lib.hid ht
      clear hk ht hto
      have HF := Lib.hid hf
      go_enter Try.func15, Try.ntmps15
      go_wp2_with fail
      rw [← hw1]
      clear hw1
      go_quiet (first | (go_at_call 48; exact Calls.quiet_of_same (validT _ HK.out)) | (go_at_call 48; exact Calls.quiet_of_same (validT _ HE.out)) | (go_at_call 48; exact Calls.quiet_of_same (validF _ HK.out)) | (go_at_call 48; exact Calls.quiet_of_same (validF _ HE.out)) | (go_at_call 51; exact Calls.quiet_of_same (pubQ _ HT.out)))
      go_wp2
      refine bodyPost_ret (v := .tuple #[.slice (some ⟨(w1.drewN nq).heap.size, 0, none⟩) 0 0, .bool false]) (by simp [results, Try.results15, go_sem]) rfl (C8c.none_made (wr := w1.drewN nq) HF.out (bw.trans (drewN_below _ _ _)))
  · have hf : openOk k b = false := by unfold openOk; exact decide_eq_false (fun h => hk h.1)
    have HK := Lib.hid hk
    clear hk ht
    have HF := Lib.hid hf
    go_enter Try.func15, Try.ntmps15
    go_wp2_with fail
    rw [← hw1]
    clear hw1
    go_quiet (first | (go_at_call 48; exact Calls.quiet_of_same (validT _ HK.out)) | (go_at_call 48; exact Calls.quiet_of_same (validT _ HE.out)) | (go_at_call 48; exact Calls.quiet_of_same (validF _ HK.out)) | (go_at_call 48; exact Calls.quiet_of_same (validF _ HE.out)) | (go_at_call 51; exact Calls.quiet_of_same (pubQ _ HT.out)))
    go_wp2
    refine bodyPost_ret (v := .tuple #[.slice (some ⟨(w1.drewN nq).heap.size, 0, none⟩) 0 0, .bool false]) (by simp [results, Try.results15, go_sem]) rfl (C8c.none_made (wr := w1.drewN nq) HF.out (bw.trans (drewN_below _ _ _)))
end Go.Proofs.Ytaodpiikpojikaa.C8j
