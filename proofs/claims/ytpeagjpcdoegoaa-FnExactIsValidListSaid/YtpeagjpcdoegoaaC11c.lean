/-
  Contracts of chapter 11's attestations, of the model: made and checked.
-/
import Derived.Test.YtpeagjpcdoegoaaC11
namespace Go.Proofs.Ytpeagjpcdoegoaa.C11c
open Go.ChangeShapes Go.WideShapes Go.ChangeAt Go.RowKit
open S0 S1 S9 Dm Fx M3 M8 C3 C6 C10 C11
set_option linter.unusedVariables false
set_option linter.unusedSimpArgs false
set_option maxRecDepth 100000
theorem amsg_ok {v s k : Int} (hv : -9223372036854775808 ≤ v ∧ v ≤ 9223372036854775807) (hs : -9223372036854775808 ≤ s ∧ s ≤ 9223372036854775807) (hk : -9223372036854775808 ≤ k ∧ k ≤ 9223372036854775807) : okInts (amsg v s k) :=
  (okInts.one (x := 193) (by omega) (by omega)).app ((okInts.one hv.1 hv.2).app ((okInts.one hs.1 hs.2).app (okInts.one hk.1 hk.2)))
theorem specPubG (k : Int) (w : World) : Calls Try.prog 42 #[.int .i64 k] w (Gives (.int .i64 (pub k)) w) :=
  (specPub k w).mono (fun e w1 h => ⟨h.1, h.2 ▸ Below.refl _ _⟩)
set_option maxHeartbeats 8000000 in
theorem specChk (w : World) (l : Fx.VendorList) (a : Fx.Attestation) (us vs : List Value) (h : RdsL w w.heap.size l.dcs us) (h2 : RdsL w w.heap.size a.dcs vs) (hl : l.ok) (ha : a.ok) (hn : l.Revoked.length ≤ 16000000) :
    Calls Try.prog 30 #[.agg us.toArray, .agg vs.toArray] w (Gives (.bool (chkB l a)) w) := by
  obtain ⟨A, c, rfl, g⟩ := VendorList.rds h
  obtain rfl := Attestation.rds h2
  have HRD := Lib.hid (fun (wx : World) (hb : Below w.heap.size w wx) => show RdsL wx wx.heap.size l.dcs [.int .i64 l.Master, .slice A l.Revoked.length c] from rdsL_on h hb)
  clear h g h2
  have HNN := Lib.hid hn
  have KV := Lib.hid (fun (wx : World) (hb : Below w.heap.size w wx) => specVl wx l _ (HRD.out wx hb) HNN.out)
  have KR := Lib.hid (fun (wx : World) (hb : Below w.heap.size w wx) => specRev wx l a.Vendor a.Serial _ (HRD.out wx hb) HNN.out)
  obtain ⟨n, hnn⟩ : ∃ n, n = l.Revoked.length := ⟨_, rfl⟩
  rw [← hnn] at KV KR ⊢
  have HA := Lib.hid ha
  have HM := Lib.hid hl.Master
  clear hnn HRD HNN ha hl
  obtain ⟨r, hr⟩ : ∃ r, r = chkB l a := ⟨_, rfl⟩
  rw [← hr]
  have HRR := Lib.hid hr
  clear hr
  have KP := Lib.hid (fun wx : World => specVpr wx l.Master a.Vendor HM.out.1 HM.out.2 HA.out.Vendor.1 HA.out.Vendor.2)
  have KA := Lib.hid (fun wx : World => specAmsg wx a.Vendor a.Serial a.Key)
  cases h1 : vlB l with
  | false =>
    obtain rfl : r = false := by rw [HRR.out]; unfold chkB; rw [h1]; rfl
    rw [h1] at KV
    clear h1 HRR KR KP KA
    go_enter Try.func30, Try.ntmps30
    obtain ⟨w1, hw1⟩ : ∃ y, y = w.alloc (.cells #[.int .i64 l.Master, .slice A n c] 27) := ⟨_, rfl⟩
    have o_l := var_owns w 27 2 [.int .i64 l.Master, .slice A n c] rfl
    have bw1 : Below w.heap.size w w1 := hw1 ▸ (Below.refl _ _).alloc (Nat.le_refl _) _
    rw [← hw1] at o_l
    have sw1 : w1.heap.size = w.heap.size + 1 := by rw [hw1]; simp
    have zw1 : w.heap.size < w1.heap.size := by rw [hw1]; simp
    have HB := bw1
    obtain ⟨w2, hw2⟩ : ∃ y, y = w1.alloc (.cells #[.int .i64 a.Vendor, .int .i64 a.Serial, .int .i64 a.Key, .int .i64 a.Signature] 31) := ⟨_, rfl⟩
    have o_a := var_owns w1 31 4 [.int .i64 a.Vendor, .int .i64 a.Serial, .int .i64 a.Key, .int .i64 a.Signature] rfl
    have bw2 : Below w1.heap.size w1 w2 := hw2 ▸ (Below.refl _ _).alloc (Nat.le_refl _) _
    rw [← hw2] at o_a
    rw [sw1] at o_a
    have sw2 : w2.heap.size = w.heap.size + 1 + 1 := by rw [hw2]; simp [sw1]
    have zw2 : w1.heap.size < w2.heap.size := by rw [hw2]; simp
    replace o_l := owns_below o_l bw2
    replace HB := HB.trans (bw2.mono HB.size)
    go_wp2_with fail
    rw [← hw1, ← hw2]
    clear hw1 hw2 sw1 sw2
    have HF := Lib.hid (show ∀ wx, Below w2.heap.size w2 wx → wx.cell? ⟨w.heap.size, 0, none⟩ = some (.int .i64 l.Master) ∧ wx.cell? ⟨w.heap.size, 1, none⟩ = some (.slice A n c) ∧ wx.cell? ⟨(w.heap.size + 1), 0, none⟩ = some (.int .i64 a.Vendor) ∧ wx.cell? ⟨(w.heap.size + 1), 1, none⟩ = some (.int .i64 a.Serial) ∧ wx.cell? ⟨(w.heap.size + 1), 2, none⟩ = some (.int .i64 a.Key) ∧ wx.cell? ⟨(w.heap.size + 1), 3, none⟩ = some (.int .i64 a.Signature) from fun wx hb =>
      ⟨var_load (owns_below o_l hb) (by simp) 0 _ rfl, var_load (owns_below o_l hb) (by simp) 1 _ rfl, var_load (owns_below o_a hb) (by simp) 0 _ rfl, var_load (owns_below o_a hb) (by simp) 1 _ rfl, var_load (owns_below o_a hb) (by simp) 2 _ rfl, var_load (owns_below o_a hb) (by simp) 3 _ rfl⟩)
    have L1 : w.heap.size < w2.drew.heap.size := (show w.heap.size < w2.heap.size from var_lt o_l)
    have L2 : (w.heap.size + 1) < w2.drew.heap.size := (show (w.heap.size + 1) < w2.heap.size from var_lt o_a)
    have BB : Below w2.heap.size w2 w2.drew := drewN_below w2 1 _
    clear o_l o_a
    refine wp_region_held_drew (S := (fun wx => wx.cell? ⟨w.heap.size, 0, none⟩ = some (.int .i64 l.Master) ∧ wx.cell? ⟨w.heap.size, 1, none⟩ = some (.slice A n c) ∧ wx.cell? ⟨(w.heap.size + 1), 0, none⟩ = some (.int .i64 a.Vendor) ∧ wx.cell? ⟨(w.heap.size + 1), 1, none⟩ = some (.int .i64 a.Serial) ∧ wx.cell? ⟨(w.heap.size + 1), 2, none⟩ = some (.int .i64 a.Key) ∧ wx.cell? ⟨(w.heap.size + 1), 3, none⟩ = some (.int .i64 a.Signature))) (by kernel_rfl) ?_ (fun hHeld => ?_)
    · exact HF.out _ BB
    refine wpAnyH_take (i := 0) (oi := ?oip_0) (v := ?vp_0) ?hip_0 (by kernel_rfl) (by kernel_rfl) (by kernel_rfl) ?hQp_0 (Or.inl ⟨?hwp_0, ?hyp_0⟩) (by assumption) ?_
    case hip_0 => simp only [List.getElem?_toArray, List.getElem?_cons_zero]; rfl
    case hQp_0 => exact fun _ _ _ h => h
    case hwp_0 => rfl
    case hyp_0 => intro w hSw; (try dsimp only at hSw); (first | (go_simp; done) | (go_simp; with_reducible rfl))
    try simp only [Act.put, List.setIfInBounds_toArray, List.set_cons_zero, List.set_cons_succ]
    refine wpAnyH_ready (rs := [1]) (by kernel_rfl) (by simp) ?_
    refine AllReadyH.cons (o := ?oip_1) ?hip_1 (fun K hK => ?_) AllReadyH.nil
    case hip_1 => simp only [List.getElem?_toArray, List.getElem?_cons_succ, List.getElem?_cons_zero]; rfl
    go_simp
    go_at_call 27
    (with_reducible refine (KV.out _ (HB.trans (BB.mono HB.size))).mono ?_)
    rintro e y0 ⟨rfl, bq⟩
    replace BB : Below w2.heap.size w2 y0 := BB.trans (bq.mono BB.size)
    replace L1 := Nat.lt_of_lt_of_le L1 bq.size
    replace L2 := Nat.lt_of_lt_of_le L2 bq.size
    clear bq
    refine hK.out _ _ ?_ (fun hHeld => ?_)
    · exact HF.out _ BB
    clear hK K
    try simp only [Act.put, List.setIfInBounds_toArray, List.set_cons_zero, List.set_cons_succ]
    refine wpAnyH_take (i := 2) (oi := ?oip_2) (v := ?vp_2) ?hip_2 (by kernel_rfl) (by kernel_rfl) (by kernel_rfl) ?hQp_2 (Or.inl ⟨?hwp_2, ?hyp_2⟩) (by assumption) ?_
    case hip_2 => simp only [List.getElem?_toArray, List.getElem?_cons_succ, List.getElem?_cons_zero]; rfl
    case hQp_2 => exact fun _ _ _ h => h
    case hwp_2 => rfl
    case hyp_2 => intro w hSw; (try dsimp only at hSw); (first | (go_simp; done) | (go_simp; with_reducible rfl))
    try simp only [Act.put, List.setIfInBounds_toArray, List.set_cons_zero, List.set_cons_succ]
    refine wpAnyH_take (i := 3) (oi := ?oip_3) (v := undef) ?hip_3 (by kernel_rfl) (by kernel_rfl) (by kernel_rfl) ?hQp_3 (Or.inr ⟨?hwp_3, rfl⟩) (by assumption) ?_
    case hip_3 => simp only [List.getElem?_toArray, List.getElem?_cons_succ, List.getElem?_cons_zero]; rfl
    case hQp_3 => exact fun _ _ _ h => h
    case hwp_3 => rfl
    try simp only [Act.put, List.setIfInBounds_toArray, List.set_cons_zero, List.set_cons_succ]
    refine wpAnyH_take (i := 4) (oi := ?oip_4) (v := undef) ?hip_4 (by kernel_rfl) (by kernel_rfl) (by kernel_rfl) ?hQp_4 (Or.inr ⟨?hwp_4, rfl⟩) (by assumption) ?_
    case hip_4 => simp only [List.getElem?_toArray, List.getElem?_cons_succ, List.getElem?_cons_zero]; rfl
    case hQp_4 => exact fun _ _ _ h => h
    case hwp_4 => rfl
    try simp only [Act.put, List.setIfInBounds_toArray, List.set_cons_zero, List.set_cons_succ]
    refine wpAnyH_take (i := 5) (oi := ?oip_5) (v := undef) ?hip_5 (by kernel_rfl) (by kernel_rfl) (by kernel_rfl) ?hQp_5 (Or.inr ⟨?hwp_5, rfl⟩) (by assumption) ?_
    case hip_5 => simp only [List.getElem?_toArray, List.getElem?_cons_succ, List.getElem?_cons_zero]; rfl
    case hQp_5 => exact fun _ _ _ h => h
    case hwp_5 => rfl
    try simp only [Act.put, List.setIfInBounds_toArray, List.set_cons_zero, List.set_cons_succ]
    refine wpAnyH_take (i := 6) (oi := ?oip_6) (v := undef) ?hip_6 (by kernel_rfl) (by kernel_rfl) (by kernel_rfl) ?hQp_6 (Or.inr ⟨?hwp_6, rfl⟩) (by assumption) ?_
    case hip_6 => simp only [List.getElem?_toArray, List.getElem?_cons_succ, List.getElem?_cons_zero]; rfl
    case hQp_6 => exact fun _ _ _ h => h
    case hwp_6 => rfl
    try simp only [Act.put, List.setIfInBounds_toArray, List.set_cons_zero, List.set_cons_succ]
    refine wpAnyH_take (i := 7) (oi := ?oip_7) (v := undef) ?hip_7 (by kernel_rfl) (by kernel_rfl) (by kernel_rfl) ?hQp_7 (Or.inr ⟨?hwp_7, rfl⟩) (by assumption) ?_
    case hip_7 => simp only [List.getElem?_toArray, List.getElem?_cons_succ, List.getElem?_cons_zero]; rfl
    case hQp_7 => exact fun _ _ _ h => h
    case hwp_7 => rfl
    try simp only [Act.put, List.setIfInBounds_toArray, List.set_cons_zero, List.set_cons_succ]
    refine wpAnyH_take (i := 8) (oi := ?oip_8) (v := ?vp_8) ?hip_8 (by kernel_rfl) (by kernel_rfl) (by kernel_rfl) ?hQp_8 (Or.inl ⟨?hwp_8, ?hyp_8⟩) (by assumption) ?_
    case hip_8 => simp only [List.getElem?_toArray, List.getElem?_cons_succ, List.getElem?_cons_zero]; rfl
    case hQp_8 => exact fun _ _ _ h => h
    case hwp_8 => rfl
    case hyp_8 => intro w hSw; (try dsimp only at hSw); (first | (go_simp; done) | (go_simp; with_reducible rfl))
    try simp only [Act.put, List.setIfInBounds_toArray, List.set_cons_zero, List.set_cons_succ]
    refine wpAnyH_take (i := 9) (oi := ?oip_9) (v := ?vp_9) ?hip_9 (by kernel_rfl) (by kernel_rfl) (by kernel_rfl) ?hQp_9 (Or.inl ⟨?hwp_9, ?hyp_9⟩) (by assumption) ?_
    case hip_9 => simp only [List.getElem?_toArray, List.getElem?_cons_succ, List.getElem?_cons_zero]; rfl
    case hQp_9 => exact fun _ _ _ h => h
    case hwp_9 => rfl
    case hyp_9 => intro w hSw; (try dsimp only at hSw); (first | (go_simp; done) | (go_simp; with_reducible rfl))
    try simp only [Act.put, List.setIfInBounds_toArray, List.set_cons_zero, List.set_cons_succ]
    refine wpAnyH_take (i := 10) (oi := ?oip_10) (v := undef) ?hip_10 (by kernel_rfl) (by kernel_rfl) (by kernel_rfl) ?hQp_10 (Or.inr ⟨?hwp_10, rfl⟩) (by assumption) ?_
    case hip_10 => simp only [List.getElem?_toArray, List.getElem?_cons_succ, List.getElem?_cons_zero]; rfl
    case hQp_10 => exact fun _ _ _ h => h
    case hwp_10 => rfl
    try simp only [Act.put, List.setIfInBounds_toArray, List.set_cons_zero, List.set_cons_succ]
    refine wpAnyH_take (i := 11) (oi := ?oip_11) (v := undef) ?hip_11 (by kernel_rfl) (by kernel_rfl) (by kernel_rfl) ?hQp_11 (Or.inr ⟨?hwp_11, rfl⟩) (by assumption) ?_
    case hip_11 => simp only [List.getElem?_toArray, List.getElem?_cons_succ, List.getElem?_cons_zero]; rfl
    case hQp_11 => exact fun _ _ _ h => h
    case hwp_11 => rfl
    try simp only [Act.put, List.setIfInBounds_toArray, List.set_cons_zero, List.set_cons_succ]
    refine wpAnyH_take (i := 12) (oi := ?oip_12) (v := undef) ?hip_12 (by kernel_rfl) (by kernel_rfl) (by kernel_rfl) ?hQp_12 (Or.inr ⟨?hwp_12, rfl⟩) (by assumption) ?_
    case hip_12 => simp only [List.getElem?_toArray, List.getElem?_cons_succ, List.getElem?_cons_zero]; rfl
    case hQp_12 => exact fun _ _ _ h => h
    case hwp_12 => rfl
    try simp only [Act.put, List.setIfInBounds_toArray, List.set_cons_zero, List.set_cons_succ]
    refine wpAnyH_take (i := 13) (oi := ?oip_13) (v := undef) ?hip_13 (by kernel_rfl) (by kernel_rfl) (by kernel_rfl) ?hQp_13 (Or.inr ⟨?hwp_13, rfl⟩) (by assumption) ?_
    case hip_13 => simp only [List.getElem?_toArray, List.getElem?_cons_succ, List.getElem?_cons_zero]; rfl
    case hQp_13 => exact fun _ _ _ h => h
    case hwp_13 => rfl
    try simp only [Act.put, List.setIfInBounds_toArray, List.set_cons_zero, List.set_cons_succ]
    refine wpAnyH_take (i := 14) (oi := ?oip_14) (v := undef) ?hip_14 (by kernel_rfl) (by kernel_rfl) (by kernel_rfl) ?hQp_14 (Or.inr ⟨?hwp_14, rfl⟩) (by assumption) ?_
    case hip_14 => simp only [List.getElem?_toArray, List.getElem?_cons_succ, List.getElem?_cons_zero]; rfl
    case hQp_14 => exact fun _ _ _ h => h
    case hwp_14 => rfl
    try simp only [Act.put, List.setIfInBounds_toArray, List.set_cons_zero, List.set_cons_succ]
    refine wpAnyH_take (i := 15) (oi := ?oip_15) (v := undef) ?hip_15 (by kernel_rfl) (by kernel_rfl) (by kernel_rfl) ?hQp_15 (Or.inr ⟨?hwp_15, rfl⟩) (by assumption) ?_
    case hip_15 => simp only [List.getElem?_toArray, List.getElem?_cons_succ, List.getElem?_cons_zero]; rfl
    case hQp_15 => exact fun _ _ _ h => h
    case hwp_15 => rfl
    try simp only [Act.put, List.setIfInBounds_toArray, List.set_cons_zero, List.set_cons_succ]
    refine wpAnyH_take (i := 16) (oi := ?oip_16) (v := undef) ?hip_16 (by kernel_rfl) (by kernel_rfl) (by kernel_rfl) ?hQp_16 (Or.inr ⟨?hwp_16, rfl⟩) (by assumption) ?_
    case hip_16 => simp only [List.getElem?_toArray, List.getElem?_cons_succ, List.getElem?_cons_zero]; rfl
    case hQp_16 => exact fun _ _ _ h => h
    case hwp_16 => rfl
    try simp only [Act.put, List.setIfInBounds_toArray, List.set_cons_zero, List.set_cons_succ]
    refine wpAnyH_take (i := 17) (oi := ?oip_17) (v := ?vp_17) ?hip_17 (by kernel_rfl) (by kernel_rfl) (by kernel_rfl) ?hQp_17 (Or.inl ⟨?hwp_17, ?hyp_17⟩) (by assumption) ?_
    case hip_17 => simp only [List.getElem?_toArray, List.getElem?_cons_succ, List.getElem?_cons_zero]; rfl
    case hQp_17 => exact fun _ _ _ h => h
    case hwp_17 => rfl
    case hyp_17 => intro w hSw; (try dsimp only at hSw); (first | (go_simp; done) | (go_simp; with_reducible rfl))
    try simp only [Act.put, List.setIfInBounds_toArray, List.set_cons_zero, List.set_cons_succ]
    refine wpAnyH_take (i := 18) (oi := ?oip_18) (v := ?vp_18) ?hip_18 (by kernel_rfl) (by kernel_rfl) (by kernel_rfl) ?hQp_18 (Or.inl ⟨?hwp_18, ?hyp_18⟩) (by assumption) ?_
    case hip_18 => simp only [List.getElem?_toArray, List.getElem?_cons_succ, List.getElem?_cons_zero]; rfl
    case hQp_18 => exact fun _ _ _ h => h
    case hwp_18 => rfl
    case hyp_18 => intro w hSw; (try dsimp only at hSw); (first | (go_simp; done) | (go_simp; with_reducible rfl))
    try simp only [Act.put, List.setIfInBounds_toArray, List.set_cons_zero, List.set_cons_succ]
    refine wpAnyH_take (i := 19) (oi := ?oip_19) (v := undef) ?hip_19 (by kernel_rfl) (by kernel_rfl) (by kernel_rfl) ?hQp_19 (Or.inr ⟨?hwp_19, rfl⟩) (by assumption) ?_
    case hip_19 => simp only [List.getElem?_toArray, List.getElem?_cons_succ, List.getElem?_cons_zero]; rfl
    case hQp_19 => exact fun _ _ _ h => h
    case hwp_19 => rfl
    try simp only [Act.put, List.setIfInBounds_toArray, List.set_cons_zero, List.set_cons_succ]
    refine wpAnyH_take (i := 20) (oi := ?oip_20) (v := undef) ?hip_20 (by kernel_rfl) (by kernel_rfl) (by kernel_rfl) ?hQp_20 (Or.inr ⟨?hwp_20, rfl⟩) (by assumption) ?_
    case hip_20 => simp only [List.getElem?_toArray, List.getElem?_cons_succ, List.getElem?_cons_zero]; rfl
    case hQp_20 => exact fun _ _ _ h => h
    case hwp_20 => rfl
    try simp only [Act.put, List.setIfInBounds_toArray, List.set_cons_zero, List.set_cons_succ]
    refine wpAnyH_take (i := 21) (oi := ?oip_21) (v := undef) ?hip_21 (by kernel_rfl) (by kernel_rfl) (by kernel_rfl) ?hQp_21 (Or.inr ⟨?hwp_21, rfl⟩) (by assumption) ?_
    case hip_21 => simp only [List.getElem?_toArray, List.getElem?_cons_succ, List.getElem?_cons_zero]; rfl
    case hQp_21 => exact fun _ _ _ h => h
    case hwp_21 => rfl
    try simp only [Act.put, List.setIfInBounds_toArray, List.set_cons_zero, List.set_cons_succ]
    refine wpAnyH_take (i := 22) (oi := ?oip_22) (v := undef) ?hip_22 (by kernel_rfl) (by kernel_rfl) (by kernel_rfl) ?hQp_22 (Or.inr ⟨?hwp_22, rfl⟩) (by assumption) ?_
    case hip_22 => simp only [List.getElem?_toArray, List.getElem?_cons_succ, List.getElem?_cons_zero]; rfl
    case hQp_22 => exact fun _ _ _ h => h
    case hwp_22 => rfl
    try simp only [Act.put, List.setIfInBounds_toArray, List.set_cons_zero, List.set_cons_succ]
    refine wpAnyH_take (i := 23) (oi := ?oip_23) (v := undef) ?hip_23 (by kernel_rfl) (by kernel_rfl) (by kernel_rfl) ?hQp_23 (Or.inr ⟨?hwp_23, rfl⟩) (by assumption) ?_
    case hip_23 => simp only [List.getElem?_toArray, List.getElem?_cons_succ, List.getElem?_cons_zero]; rfl
    case hQp_23 => exact fun _ _ _ h => h
    case hwp_23 => rfl
    try simp only [Act.put, List.setIfInBounds_toArray, List.set_cons_zero, List.set_cons_succ]
    refine wpAnyH_take (i := 24) (oi := ?oip_24) (v := undef) ?hip_24 (by kernel_rfl) (by kernel_rfl) (by kernel_rfl) ?hQp_24 (Or.inr ⟨?hwp_24, rfl⟩) (by assumption) ?_
    case hip_24 => simp only [List.getElem?_toArray, List.getElem?_cons_succ, List.getElem?_cons_zero]; rfl
    case hQp_24 => exact fun _ _ _ h => h
    case hwp_24 => rfl
    try simp only [Act.put, List.setIfInBounds_toArray, List.set_cons_zero, List.set_cons_succ]
    refine wpAnyH_take (i := 25) (oi := ?oip_25) (v := undef) ?hip_25 (by kernel_rfl) (by kernel_rfl) (by kernel_rfl) ?hQp_25 (Or.inr ⟨?hwp_25, rfl⟩) (by assumption) ?_
    case hip_25 => simp only [List.getElem?_toArray, List.getElem?_cons_succ, List.getElem?_cons_zero]; rfl
    case hQp_25 => exact fun _ _ _ h => h
    case hwp_25 => rfl
    try simp only [Act.put, List.setIfInBounds_toArray, List.set_cons_zero, List.set_cons_succ]
    refine wpAnyH_take (i := 26) (oi := ?oip_26) (v := undef) ?hip_26 (by kernel_rfl) (by kernel_rfl) (by kernel_rfl) ?hQp_26 (Or.inr ⟨?hwp_26, rfl⟩) (by assumption) ?_
    case hip_26 => simp only [List.getElem?_toArray, List.getElem?_cons_succ, List.getElem?_cons_zero]; rfl
    case hQp_26 => exact fun _ _ _ h => h
    case hwp_26 => rfl
    try simp only [Act.put, List.setIfInBounds_toArray, List.set_cons_zero, List.set_cons_succ]
    refine wpAnyH_take (i := 27) (oi := ?oip_27) (v := undef) ?hip_27 (by kernel_rfl) (by kernel_rfl) (by kernel_rfl) ?hQp_27 (Or.inr ⟨?hwp_27, rfl⟩) (by assumption) ?_
    case hip_27 => simp only [List.getElem?_toArray, List.getElem?_cons_succ, List.getElem?_cons_zero]; rfl
    case hQp_27 => exact fun _ _ _ h => h
    case hwp_27 => rfl
    try simp only [Act.put, List.setIfInBounds_toArray, List.set_cons_zero, List.set_cons_succ]
    refine wpAnyH_take (i := 28) (oi := ?oip_28) (v := undef) ?hip_28 (by kernel_rfl) (by kernel_rfl) (by kernel_rfl) ?hQp_28 (Or.inr ⟨?hwp_28, rfl⟩) (by assumption) ?_
    case hip_28 => simp only [List.getElem?_toArray, List.getElem?_cons_succ, List.getElem?_cons_zero]; rfl
    case hQp_28 => exact fun _ _ _ h => h
    case hwp_28 => rfl
    try simp only [Act.put, List.setIfInBounds_toArray, List.set_cons_zero, List.set_cons_succ]
    refine wpAnyH_take (i := 29) (oi := ?oip_29) (v := undef) ?hip_29 (by kernel_rfl) (by kernel_rfl) (by kernel_rfl) ?hQp_29 (Or.inr ⟨?hwp_29, rfl⟩) (by assumption) ?_
    case hip_29 => simp only [List.getElem?_toArray, List.getElem?_cons_succ, List.getElem?_cons_zero]; rfl
    case hQp_29 => exact fun _ _ _ h => h
    case hwp_29 => rfl
    try simp only [Act.put, List.setIfInBounds_toArray, List.set_cons_zero, List.set_cons_succ]
    refine wpAnyH_take (i := 30) (oi := ?oip_30) (v := undef) ?hip_30 (by kernel_rfl) (by kernel_rfl) (by kernel_rfl) ?hQp_30 (Or.inr ⟨?hwp_30, rfl⟩) (by assumption) ?_
    case hip_30 => simp only [List.getElem?_toArray, List.getElem?_cons_succ, List.getElem?_cons_zero]; rfl
    case hQp_30 => exact fun _ _ _ h => h
    case hwp_30 => rfl
    try simp only [Act.put, List.setIfInBounds_toArray, List.set_cons_zero, List.set_cons_succ]
    refine wpAnyH_take (i := 31) (oi := ?oip_31) (v := undef) ?hip_31 (by kernel_rfl) (by kernel_rfl) (by kernel_rfl) ?hQp_31 (Or.inr ⟨?hwp_31, rfl⟩) (by assumption) ?_
    case hip_31 => simp only [List.getElem?_toArray, List.getElem?_cons_succ, List.getElem?_cons_zero]; rfl
    case hQp_31 => exact fun _ _ _ h => h
    case hwp_31 => rfl
    try simp only [Act.put, List.setIfInBounds_toArray, List.set_cons_zero, List.set_cons_succ]
    refine wpAnyH_take (i := 32) (oi := ?oip_32) (v := undef) ?hip_32 (by kernel_rfl) (by kernel_rfl) (by kernel_rfl) ?hQp_32 (Or.inr ⟨?hwp_32, rfl⟩) (by assumption) ?_
    case hip_32 => simp only [List.getElem?_toArray, List.getElem?_cons_succ, List.getElem?_cons_zero]; rfl
    case hQp_32 => exact fun _ _ _ h => h
    case hwp_32 => rfl
    try simp only [Act.put, List.setIfInBounds_toArray, List.set_cons_zero, List.set_cons_succ]
    refine wpAnyH_take (i := 33) (oi := ?oip_33) (v := undef) ?hip_33 (by kernel_rfl) (by kernel_rfl) (by kernel_rfl) ?hQp_33 (Or.inr ⟨?hwp_33, rfl⟩) (by assumption) ?_
    case hip_33 => simp only [List.getElem?_toArray, List.getElem?_cons_succ, List.getElem?_cons_zero]; rfl
    case hQp_33 => exact fun _ _ _ h => h
    case hwp_33 => rfl
    try simp only [Act.put, List.setIfInBounds_toArray, List.set_cons_zero, List.set_cons_succ]
    refine wpAnyH_take (i := 34) (oi := ?oip_34) (v := undef) ?hip_34 (by kernel_rfl) (by kernel_rfl) (by kernel_rfl) ?hQp_34 (Or.inr ⟨?hwp_34, rfl⟩) (by assumption) ?_
    case hip_34 => simp only [List.getElem?_toArray, List.getElem?_cons_succ, List.getElem?_cons_zero]; rfl
    case hQp_34 => exact fun _ _ _ h => h
    case hwp_34 => rfl
    try simp only [Act.put, List.setIfInBounds_toArray, List.set_cons_zero, List.set_cons_succ]
    refine wpAnyH_take (i := 35) (oi := ?oip_35) (v := ?vp_35) ?hip_35 (by kernel_rfl) (by kernel_rfl) (by kernel_rfl) ?hQp_35 (Or.inl ⟨?hwp_35, ?hyp_35⟩) (by assumption) ?_
    case hip_35 => simp only [List.getElem?_toArray, List.getElem?_cons_succ, List.getElem?_cons_zero]; rfl
    case hQp_35 => exact fun _ _ _ h => h
    case hwp_35 => rfl
    case hyp_35 => intro w hSw; (try dsimp only at hSw); (first | (go_simp; done) | (go_simp; with_reducible rfl))
    try simp only [Act.put, List.setIfInBounds_toArray, List.set_cons_zero, List.set_cons_succ]
    refine wpAnyH_take (i := 36) (oi := ?oip_36) (v := ?vp_36) ?hip_36 (by kernel_rfl) (by kernel_rfl) (by kernel_rfl) ?hQp_36 (Or.inl ⟨?hwp_36, ?hyp_36⟩) (by assumption) ?_
    case hip_36 => simp only [List.getElem?_toArray, List.getElem?_cons_succ, List.getElem?_cons_zero]; rfl
    case hQp_36 => exact fun _ _ _ h => h
    case hwp_36 => rfl
    case hyp_36 => intro w hSw; (try dsimp only at hSw); (first | (go_simp; done) | (go_simp; with_reducible rfl))
    try simp only [Act.put, List.setIfInBounds_toArray, List.set_cons_zero, List.set_cons_succ]
    refine wpAnyH_done (by kernel_rfl) ?_ _
    go_wp2
    go_ret
    exact ⟨rfl, HB.trans (BB.mono HB.size)⟩
  | true =>
    rw [h1] at KV
    cases h2 : rngB a.Vendor a.Serial with
    | false =>
      obtain rfl : r = false := by rw [HRR.out]; unfold chkB; rw [h1, h2]; rfl
      have KG := Lib.hid (fun wx : World => show Calls Try.prog 67 #[.int .i64 a.Vendor, .int .i64 a.Serial] wx (fun e w' => e = .returned (.bool false) ∧ wx = w') from by have h9 := specRng wx a.Vendor a.Serial; rw [h2] at h9; exact h9)
      clear h1 h2 HRR KR KP KA
      go_enter Try.func30, Try.ntmps30
      obtain ⟨w1, hw1⟩ : ∃ y, y = w.alloc (.cells #[.int .i64 l.Master, .slice A n c] 27) := ⟨_, rfl⟩
      have o_l := var_owns w 27 2 [.int .i64 l.Master, .slice A n c] rfl
      have bw1 : Below w.heap.size w w1 := hw1 ▸ (Below.refl _ _).alloc (Nat.le_refl _) _
      rw [← hw1] at o_l
      have sw1 : w1.heap.size = w.heap.size + 1 := by rw [hw1]; simp
      have zw1 : w.heap.size < w1.heap.size := by rw [hw1]; simp
      have HB := bw1
      obtain ⟨w2, hw2⟩ : ∃ y, y = w1.alloc (.cells #[.int .i64 a.Vendor, .int .i64 a.Serial, .int .i64 a.Key, .int .i64 a.Signature] 31) := ⟨_, rfl⟩
      have o_a := var_owns w1 31 4 [.int .i64 a.Vendor, .int .i64 a.Serial, .int .i64 a.Key, .int .i64 a.Signature] rfl
      have bw2 : Below w1.heap.size w1 w2 := hw2 ▸ (Below.refl _ _).alloc (Nat.le_refl _) _
      rw [← hw2] at o_a
      rw [sw1] at o_a
      have sw2 : w2.heap.size = w.heap.size + 1 + 1 := by rw [hw2]; simp [sw1]
      have zw2 : w1.heap.size < w2.heap.size := by rw [hw2]; simp
      replace o_l := owns_below o_l bw2
      replace HB := HB.trans (bw2.mono HB.size)
      go_wp2_with fail
      rw [← hw1, ← hw2]
      clear hw1 hw2 sw1 sw2
      have HF := Lib.hid (show ∀ wx, Below w2.heap.size w2 wx → wx.cell? ⟨w.heap.size, 0, none⟩ = some (.int .i64 l.Master) ∧ wx.cell? ⟨w.heap.size, 1, none⟩ = some (.slice A n c) ∧ wx.cell? ⟨(w.heap.size + 1), 0, none⟩ = some (.int .i64 a.Vendor) ∧ wx.cell? ⟨(w.heap.size + 1), 1, none⟩ = some (.int .i64 a.Serial) ∧ wx.cell? ⟨(w.heap.size + 1), 2, none⟩ = some (.int .i64 a.Key) ∧ wx.cell? ⟨(w.heap.size + 1), 3, none⟩ = some (.int .i64 a.Signature) from fun wx hb =>
        ⟨var_load (owns_below o_l hb) (by simp) 0 _ rfl, var_load (owns_below o_l hb) (by simp) 1 _ rfl, var_load (owns_below o_a hb) (by simp) 0 _ rfl, var_load (owns_below o_a hb) (by simp) 1 _ rfl, var_load (owns_below o_a hb) (by simp) 2 _ rfl, var_load (owns_below o_a hb) (by simp) 3 _ rfl⟩)
      have L1 : w.heap.size < w2.drew.heap.size := (show w.heap.size < w2.heap.size from var_lt o_l)
      have L2 : (w.heap.size + 1) < w2.drew.heap.size := (show (w.heap.size + 1) < w2.heap.size from var_lt o_a)
      have BB : Below w2.heap.size w2 w2.drew := drewN_below w2 1 _
      clear o_l o_a
      refine wp_region_held_drew (S := (fun wx => wx.cell? ⟨w.heap.size, 0, none⟩ = some (.int .i64 l.Master) ∧ wx.cell? ⟨w.heap.size, 1, none⟩ = some (.slice A n c) ∧ wx.cell? ⟨(w.heap.size + 1), 0, none⟩ = some (.int .i64 a.Vendor) ∧ wx.cell? ⟨(w.heap.size + 1), 1, none⟩ = some (.int .i64 a.Serial) ∧ wx.cell? ⟨(w.heap.size + 1), 2, none⟩ = some (.int .i64 a.Key) ∧ wx.cell? ⟨(w.heap.size + 1), 3, none⟩ = some (.int .i64 a.Signature))) (by kernel_rfl) ?_ (fun hHeld => ?_)
      · exact HF.out _ BB
      refine wpAnyH_take (i := 0) (oi := ?oiq_0) (v := ?vq_0) ?hiq_0 (by kernel_rfl) (by kernel_rfl) (by kernel_rfl) ?hQq_0 (Or.inl ⟨?hwq_0, ?hyq_0⟩) (by assumption) ?_
      case hiq_0 => simp only [List.getElem?_toArray, List.getElem?_cons_zero]; rfl
      case hQq_0 => exact fun _ _ _ h => h
      case hwq_0 => rfl
      case hyq_0 => intro w hSw; (try dsimp only at hSw); (first | (go_simp; done) | (go_simp; with_reducible rfl))
      try simp only [Act.put, List.setIfInBounds_toArray, List.set_cons_zero, List.set_cons_succ]
      refine wpAnyH_ready (rs := [1]) (by kernel_rfl) (by simp) ?_
      refine AllReadyH.cons (o := ?oiq_1) ?hiq_1 (fun K hK => ?_) AllReadyH.nil
      case hiq_1 => simp only [List.getElem?_toArray, List.getElem?_cons_succ, List.getElem?_cons_zero]; rfl
      go_simp
      go_at_call 27
      (with_reducible refine (KV.out _ (HB.trans (BB.mono HB.size))).mono ?_)
      rintro e y0 ⟨rfl, bq⟩
      replace BB : Below w2.heap.size w2 y0 := BB.trans (bq.mono BB.size)
      replace L1 := Nat.lt_of_lt_of_le L1 bq.size
      replace L2 := Nat.lt_of_lt_of_le L2 bq.size
      clear bq
      refine hK.out _ _ ?_ (fun hHeld => ?_)
      · exact HF.out _ BB
      clear hK K
      try simp only [Act.put, List.setIfInBounds_toArray, List.set_cons_zero, List.set_cons_succ]
      refine wpAnyH_take (i := 2) (oi := ?oiq_2) (v := ?vq_2) ?hiq_2 (by kernel_rfl) (by kernel_rfl) (by kernel_rfl) ?hQq_2 (Or.inl ⟨?hwq_2, ?hyq_2⟩) (by assumption) ?_
      case hiq_2 => simp only [List.getElem?_toArray, List.getElem?_cons_succ, List.getElem?_cons_zero]; rfl
      case hQq_2 => exact fun _ _ _ h => h
      case hwq_2 => rfl
      case hyq_2 => intro w hSw; (try dsimp only at hSw); (first | (go_simp; done) | (go_simp; with_reducible rfl))
      try simp only [Act.put, List.setIfInBounds_toArray, List.set_cons_zero, List.set_cons_succ]
      refine wpAnyH_take (i := 3) (oi := ?oiq_3) (v := ?vq_3) ?hiq_3 (by kernel_rfl) (by kernel_rfl) (by kernel_rfl) ?hQq_3 (Or.inl ⟨?hwq_3, ?hyq_3⟩) (by assumption) ?_
      case hiq_3 => simp only [List.getElem?_toArray, List.getElem?_cons_succ, List.getElem?_cons_zero]; rfl
      case hQq_3 => exact fun _ _ _ h => h
      case hwq_3 => rfl
      case hyq_3 => intro w hSw; (try dsimp only at hSw); (first | (go_simp; done) | (go_simp; with_reducible rfl))
      try simp only [Act.put, List.setIfInBounds_toArray, List.set_cons_zero, List.set_cons_succ]
      refine wpAnyH_take (i := 4) (oi := ?oiq_4) (v := ?vq_4) ?hiq_4 (by kernel_rfl) (by kernel_rfl) (by kernel_rfl) ?hQq_4 (Or.inl ⟨?hwq_4, ?hyq_4⟩) (by assumption) ?_
      case hiq_4 => simp only [List.getElem?_toArray, List.getElem?_cons_succ, List.getElem?_cons_zero]; rfl
      case hQq_4 => exact fun _ _ _ h => h
      case hwq_4 => rfl
      case hyq_4 => intro w hSw; (try dsimp only at hSw); (first | (go_simp; done) | (go_simp; with_reducible rfl))
      try simp only [Act.put, List.setIfInBounds_toArray, List.set_cons_zero, List.set_cons_succ]
      refine wpAnyH_take (i := 5) (oi := ?oiq_5) (v := ?vq_5) ?hiq_5 (by kernel_rfl) (by kernel_rfl) (by kernel_rfl) ?hQq_5 (Or.inl ⟨?hwq_5, ?hyq_5⟩) (by assumption) ?_
      case hiq_5 => simp only [List.getElem?_toArray, List.getElem?_cons_succ, List.getElem?_cons_zero]; rfl
      case hQq_5 => exact fun _ _ _ h => h
      case hwq_5 => rfl
      case hyq_5 => intro w hSw; (try dsimp only at hSw); (first | (go_simp; done) | (go_simp; with_reducible rfl))
      try simp only [Act.put, List.setIfInBounds_toArray, List.set_cons_zero, List.set_cons_succ]
      refine wpAnyH_take (i := 6) (oi := ?oiq_6) (v := ?vq_6) ?hiq_6 (by kernel_rfl) (by kernel_rfl) (by kernel_rfl) ?hQq_6 (Or.inl ⟨?hwq_6, ?hyq_6⟩) (by assumption) ?_
      case hiq_6 => simp only [List.getElem?_toArray, List.getElem?_cons_succ, List.getElem?_cons_zero]; rfl
      case hQq_6 => exact fun _ _ _ h => h
      case hwq_6 => rfl
      case hyq_6 => intro w hSw; (try dsimp only at hSw); (first | (go_simp; done) | (go_simp; with_reducible rfl))
      try simp only [Act.put, List.setIfInBounds_toArray, List.set_cons_zero, List.set_cons_succ]
      refine wpAnyH_ready (rs := [7]) (by kernel_rfl) (by simp) ?_
      refine AllReadyH.cons (o := ?oiq_7) ?hiq_7 (fun K hK => ?_) AllReadyH.nil
      case hiq_7 => simp only [List.getElem?_toArray, List.getElem?_cons_succ, List.getElem?_cons_zero]; rfl
      go_simp
      go_at_call 67
      (with_reducible refine (KG.out _).mono ?_)
      rintro e y1 ⟨rfl, rfl⟩
      refine hK.out _ _ ?_ (fun hHeld => ?_)
      · exact HF.out _ BB
      clear hK K
      try simp only [Act.put, List.setIfInBounds_toArray, List.set_cons_zero, List.set_cons_succ]
      refine wpAnyH_take (i := 8) (oi := ?oiq_8) (v := ?vq_8) ?hiq_8 (by kernel_rfl) (by kernel_rfl) (by kernel_rfl) ?hQq_8 (Or.inl ⟨?hwq_8, ?hyq_8⟩) (by assumption) ?_
      case hiq_8 => simp only [List.getElem?_toArray, List.getElem?_cons_succ, List.getElem?_cons_zero]; rfl
      case hQq_8 => exact fun _ _ _ h => h
      case hwq_8 => rfl
      case hyq_8 => intro w hSw; (try dsimp only at hSw); (first | (go_simp; done) | (go_simp; with_reducible rfl))
      try simp only [Act.put, List.setIfInBounds_toArray, List.set_cons_zero, List.set_cons_succ]
      refine wpAnyH_take (i := 9) (oi := ?oiq_9) (v := ?vq_9) ?hiq_9 (by kernel_rfl) (by kernel_rfl) (by kernel_rfl) ?hQq_9 (Or.inl ⟨?hwq_9, ?hyq_9⟩) (by assumption) ?_
      case hiq_9 => simp only [List.getElem?_toArray, List.getElem?_cons_succ, List.getElem?_cons_zero]; rfl
      case hQq_9 => exact fun _ _ _ h => h
      case hwq_9 => rfl
      case hyq_9 => intro w hSw; (try dsimp only at hSw); (first | (go_simp; done) | (go_simp; with_reducible rfl))
      try simp only [Act.put, List.setIfInBounds_toArray, List.set_cons_zero, List.set_cons_succ]
      refine wpAnyH_take (i := 10) (oi := ?oiq_10) (v := undef) ?hiq_10 (by kernel_rfl) (by kernel_rfl) (by kernel_rfl) ?hQq_10 (Or.inr ⟨?hwq_10, rfl⟩) (by assumption) ?_
      case hiq_10 => simp only [List.getElem?_toArray, List.getElem?_cons_succ, List.getElem?_cons_zero]; rfl
      case hQq_10 => exact fun _ _ _ h => h
      case hwq_10 => rfl
      try simp only [Act.put, List.setIfInBounds_toArray, List.set_cons_zero, List.set_cons_succ]
      refine wpAnyH_take (i := 11) (oi := ?oiq_11) (v := undef) ?hiq_11 (by kernel_rfl) (by kernel_rfl) (by kernel_rfl) ?hQq_11 (Or.inr ⟨?hwq_11, rfl⟩) (by assumption) ?_
      case hiq_11 => simp only [List.getElem?_toArray, List.getElem?_cons_succ, List.getElem?_cons_zero]; rfl
      case hQq_11 => exact fun _ _ _ h => h
      case hwq_11 => rfl
      try simp only [Act.put, List.setIfInBounds_toArray, List.set_cons_zero, List.set_cons_succ]
      refine wpAnyH_take (i := 12) (oi := ?oiq_12) (v := undef) ?hiq_12 (by kernel_rfl) (by kernel_rfl) (by kernel_rfl) ?hQq_12 (Or.inr ⟨?hwq_12, rfl⟩) (by assumption) ?_
      case hiq_12 => simp only [List.getElem?_toArray, List.getElem?_cons_succ, List.getElem?_cons_zero]; rfl
      case hQq_12 => exact fun _ _ _ h => h
      case hwq_12 => rfl
      try simp only [Act.put, List.setIfInBounds_toArray, List.set_cons_zero, List.set_cons_succ]
      refine wpAnyH_take (i := 13) (oi := ?oiq_13) (v := undef) ?hiq_13 (by kernel_rfl) (by kernel_rfl) (by kernel_rfl) ?hQq_13 (Or.inr ⟨?hwq_13, rfl⟩) (by assumption) ?_
      case hiq_13 => simp only [List.getElem?_toArray, List.getElem?_cons_succ, List.getElem?_cons_zero]; rfl
      case hQq_13 => exact fun _ _ _ h => h
      case hwq_13 => rfl
      try simp only [Act.put, List.setIfInBounds_toArray, List.set_cons_zero, List.set_cons_succ]
      refine wpAnyH_take (i := 14) (oi := ?oiq_14) (v := undef) ?hiq_14 (by kernel_rfl) (by kernel_rfl) (by kernel_rfl) ?hQq_14 (Or.inr ⟨?hwq_14, rfl⟩) (by assumption) ?_
      case hiq_14 => simp only [List.getElem?_toArray, List.getElem?_cons_succ, List.getElem?_cons_zero]; rfl
      case hQq_14 => exact fun _ _ _ h => h
      case hwq_14 => rfl
      try simp only [Act.put, List.setIfInBounds_toArray, List.set_cons_zero, List.set_cons_succ]
      refine wpAnyH_take (i := 15) (oi := ?oiq_15) (v := undef) ?hiq_15 (by kernel_rfl) (by kernel_rfl) (by kernel_rfl) ?hQq_15 (Or.inr ⟨?hwq_15, rfl⟩) (by assumption) ?_
      case hiq_15 => simp only [List.getElem?_toArray, List.getElem?_cons_succ, List.getElem?_cons_zero]; rfl
      case hQq_15 => exact fun _ _ _ h => h
      case hwq_15 => rfl
      try simp only [Act.put, List.setIfInBounds_toArray, List.set_cons_zero, List.set_cons_succ]
      refine wpAnyH_take (i := 16) (oi := ?oiq_16) (v := undef) ?hiq_16 (by kernel_rfl) (by kernel_rfl) (by kernel_rfl) ?hQq_16 (Or.inr ⟨?hwq_16, rfl⟩) (by assumption) ?_
      case hiq_16 => simp only [List.getElem?_toArray, List.getElem?_cons_succ, List.getElem?_cons_zero]; rfl
      case hQq_16 => exact fun _ _ _ h => h
      case hwq_16 => rfl
      try simp only [Act.put, List.setIfInBounds_toArray, List.set_cons_zero, List.set_cons_succ]
      refine wpAnyH_take (i := 17) (oi := ?oiq_17) (v := ?vq_17) ?hiq_17 (by kernel_rfl) (by kernel_rfl) (by kernel_rfl) ?hQq_17 (Or.inl ⟨?hwq_17, ?hyq_17⟩) (by assumption) ?_
      case hiq_17 => simp only [List.getElem?_toArray, List.getElem?_cons_succ, List.getElem?_cons_zero]; rfl
      case hQq_17 => exact fun _ _ _ h => h
      case hwq_17 => rfl
      case hyq_17 => intro w hSw; (try dsimp only at hSw); (first | (go_simp; done) | (go_simp; with_reducible rfl))
      try simp only [Act.put, List.setIfInBounds_toArray, List.set_cons_zero, List.set_cons_succ]
      refine wpAnyH_take (i := 18) (oi := ?oiq_18) (v := ?vq_18) ?hiq_18 (by kernel_rfl) (by kernel_rfl) (by kernel_rfl) ?hQq_18 (Or.inl ⟨?hwq_18, ?hyq_18⟩) (by assumption) ?_
      case hiq_18 => simp only [List.getElem?_toArray, List.getElem?_cons_succ, List.getElem?_cons_zero]; rfl
      case hQq_18 => exact fun _ _ _ h => h
      case hwq_18 => rfl
      case hyq_18 => intro w hSw; (try dsimp only at hSw); (first | (go_simp; done) | (go_simp; with_reducible rfl))
      try simp only [Act.put, List.setIfInBounds_toArray, List.set_cons_zero, List.set_cons_succ]
      refine wpAnyH_take (i := 19) (oi := ?oiq_19) (v := undef) ?hiq_19 (by kernel_rfl) (by kernel_rfl) (by kernel_rfl) ?hQq_19 (Or.inr ⟨?hwq_19, rfl⟩) (by assumption) ?_
      case hiq_19 => simp only [List.getElem?_toArray, List.getElem?_cons_succ, List.getElem?_cons_zero]; rfl
      case hQq_19 => exact fun _ _ _ h => h
      case hwq_19 => rfl
      try simp only [Act.put, List.setIfInBounds_toArray, List.set_cons_zero, List.set_cons_succ]
      refine wpAnyH_take (i := 20) (oi := ?oiq_20) (v := undef) ?hiq_20 (by kernel_rfl) (by kernel_rfl) (by kernel_rfl) ?hQq_20 (Or.inr ⟨?hwq_20, rfl⟩) (by assumption) ?_
      case hiq_20 => simp only [List.getElem?_toArray, List.getElem?_cons_succ, List.getElem?_cons_zero]; rfl
      case hQq_20 => exact fun _ _ _ h => h
      case hwq_20 => rfl
      try simp only [Act.put, List.setIfInBounds_toArray, List.set_cons_zero, List.set_cons_succ]
      refine wpAnyH_take (i := 21) (oi := ?oiq_21) (v := undef) ?hiq_21 (by kernel_rfl) (by kernel_rfl) (by kernel_rfl) ?hQq_21 (Or.inr ⟨?hwq_21, rfl⟩) (by assumption) ?_
      case hiq_21 => simp only [List.getElem?_toArray, List.getElem?_cons_succ, List.getElem?_cons_zero]; rfl
      case hQq_21 => exact fun _ _ _ h => h
      case hwq_21 => rfl
      try simp only [Act.put, List.setIfInBounds_toArray, List.set_cons_zero, List.set_cons_succ]
      refine wpAnyH_take (i := 22) (oi := ?oiq_22) (v := undef) ?hiq_22 (by kernel_rfl) (by kernel_rfl) (by kernel_rfl) ?hQq_22 (Or.inr ⟨?hwq_22, rfl⟩) (by assumption) ?_
      case hiq_22 => simp only [List.getElem?_toArray, List.getElem?_cons_succ, List.getElem?_cons_zero]; rfl
      case hQq_22 => exact fun _ _ _ h => h
      case hwq_22 => rfl
      try simp only [Act.put, List.setIfInBounds_toArray, List.set_cons_zero, List.set_cons_succ]
      refine wpAnyH_take (i := 23) (oi := ?oiq_23) (v := undef) ?hiq_23 (by kernel_rfl) (by kernel_rfl) (by kernel_rfl) ?hQq_23 (Or.inr ⟨?hwq_23, rfl⟩) (by assumption) ?_
      case hiq_23 => simp only [List.getElem?_toArray, List.getElem?_cons_succ, List.getElem?_cons_zero]; rfl
      case hQq_23 => exact fun _ _ _ h => h
      case hwq_23 => rfl
      try simp only [Act.put, List.setIfInBounds_toArray, List.set_cons_zero, List.set_cons_succ]
      refine wpAnyH_take (i := 24) (oi := ?oiq_24) (v := undef) ?hiq_24 (by kernel_rfl) (by kernel_rfl) (by kernel_rfl) ?hQq_24 (Or.inr ⟨?hwq_24, rfl⟩) (by assumption) ?_
      case hiq_24 => simp only [List.getElem?_toArray, List.getElem?_cons_succ, List.getElem?_cons_zero]; rfl
      case hQq_24 => exact fun _ _ _ h => h
      case hwq_24 => rfl
      try simp only [Act.put, List.setIfInBounds_toArray, List.set_cons_zero, List.set_cons_succ]
      refine wpAnyH_take (i := 25) (oi := ?oiq_25) (v := undef) ?hiq_25 (by kernel_rfl) (by kernel_rfl) (by kernel_rfl) ?hQq_25 (Or.inr ⟨?hwq_25, rfl⟩) (by assumption) ?_
      case hiq_25 => simp only [List.getElem?_toArray, List.getElem?_cons_succ, List.getElem?_cons_zero]; rfl
      case hQq_25 => exact fun _ _ _ h => h
      case hwq_25 => rfl
      try simp only [Act.put, List.setIfInBounds_toArray, List.set_cons_zero, List.set_cons_succ]
      refine wpAnyH_take (i := 26) (oi := ?oiq_26) (v := undef) ?hiq_26 (by kernel_rfl) (by kernel_rfl) (by kernel_rfl) ?hQq_26 (Or.inr ⟨?hwq_26, rfl⟩) (by assumption) ?_
      case hiq_26 => simp only [List.getElem?_toArray, List.getElem?_cons_succ, List.getElem?_cons_zero]; rfl
      case hQq_26 => exact fun _ _ _ h => h
      case hwq_26 => rfl
      try simp only [Act.put, List.setIfInBounds_toArray, List.set_cons_zero, List.set_cons_succ]
      refine wpAnyH_take (i := 27) (oi := ?oiq_27) (v := undef) ?hiq_27 (by kernel_rfl) (by kernel_rfl) (by kernel_rfl) ?hQq_27 (Or.inr ⟨?hwq_27, rfl⟩) (by assumption) ?_
      case hiq_27 => simp only [List.getElem?_toArray, List.getElem?_cons_succ, List.getElem?_cons_zero]; rfl
      case hQq_27 => exact fun _ _ _ h => h
      case hwq_27 => rfl
      try simp only [Act.put, List.setIfInBounds_toArray, List.set_cons_zero, List.set_cons_succ]
      refine wpAnyH_take (i := 28) (oi := ?oiq_28) (v := undef) ?hiq_28 (by kernel_rfl) (by kernel_rfl) (by kernel_rfl) ?hQq_28 (Or.inr ⟨?hwq_28, rfl⟩) (by assumption) ?_
      case hiq_28 => simp only [List.getElem?_toArray, List.getElem?_cons_succ, List.getElem?_cons_zero]; rfl
      case hQq_28 => exact fun _ _ _ h => h
      case hwq_28 => rfl
      try simp only [Act.put, List.setIfInBounds_toArray, List.set_cons_zero, List.set_cons_succ]
      refine wpAnyH_take (i := 29) (oi := ?oiq_29) (v := undef) ?hiq_29 (by kernel_rfl) (by kernel_rfl) (by kernel_rfl) ?hQq_29 (Or.inr ⟨?hwq_29, rfl⟩) (by assumption) ?_
      case hiq_29 => simp only [List.getElem?_toArray, List.getElem?_cons_succ, List.getElem?_cons_zero]; rfl
      case hQq_29 => exact fun _ _ _ h => h
      case hwq_29 => rfl
      try simp only [Act.put, List.setIfInBounds_toArray, List.set_cons_zero, List.set_cons_succ]
      refine wpAnyH_take (i := 30) (oi := ?oiq_30) (v := undef) ?hiq_30 (by kernel_rfl) (by kernel_rfl) (by kernel_rfl) ?hQq_30 (Or.inr ⟨?hwq_30, rfl⟩) (by assumption) ?_
      case hiq_30 => simp only [List.getElem?_toArray, List.getElem?_cons_succ, List.getElem?_cons_zero]; rfl
      case hQq_30 => exact fun _ _ _ h => h
      case hwq_30 => rfl
      try simp only [Act.put, List.setIfInBounds_toArray, List.set_cons_zero, List.set_cons_succ]
      refine wpAnyH_take (i := 31) (oi := ?oiq_31) (v := undef) ?hiq_31 (by kernel_rfl) (by kernel_rfl) (by kernel_rfl) ?hQq_31 (Or.inr ⟨?hwq_31, rfl⟩) (by assumption) ?_
      case hiq_31 => simp only [List.getElem?_toArray, List.getElem?_cons_succ, List.getElem?_cons_zero]; rfl
      case hQq_31 => exact fun _ _ _ h => h
      case hwq_31 => rfl
      try simp only [Act.put, List.setIfInBounds_toArray, List.set_cons_zero, List.set_cons_succ]
      refine wpAnyH_take (i := 32) (oi := ?oiq_32) (v := undef) ?hiq_32 (by kernel_rfl) (by kernel_rfl) (by kernel_rfl) ?hQq_32 (Or.inr ⟨?hwq_32, rfl⟩) (by assumption) ?_
      case hiq_32 => simp only [List.getElem?_toArray, List.getElem?_cons_succ, List.getElem?_cons_zero]; rfl
      case hQq_32 => exact fun _ _ _ h => h
      case hwq_32 => rfl
      try simp only [Act.put, List.setIfInBounds_toArray, List.set_cons_zero, List.set_cons_succ]
      refine wpAnyH_take (i := 33) (oi := ?oiq_33) (v := undef) ?hiq_33 (by kernel_rfl) (by kernel_rfl) (by kernel_rfl) ?hQq_33 (Or.inr ⟨?hwq_33, rfl⟩) (by assumption) ?_
      case hiq_33 => simp only [List.getElem?_toArray, List.getElem?_cons_succ, List.getElem?_cons_zero]; rfl
      case hQq_33 => exact fun _ _ _ h => h
      case hwq_33 => rfl
      try simp only [Act.put, List.setIfInBounds_toArray, List.set_cons_zero, List.set_cons_succ]
      refine wpAnyH_take (i := 34) (oi := ?oiq_34) (v := undef) ?hiq_34 (by kernel_rfl) (by kernel_rfl) (by kernel_rfl) ?hQq_34 (Or.inr ⟨?hwq_34, rfl⟩) (by assumption) ?_
      case hiq_34 => simp only [List.getElem?_toArray, List.getElem?_cons_succ, List.getElem?_cons_zero]; rfl
      case hQq_34 => exact fun _ _ _ h => h
      case hwq_34 => rfl
      try simp only [Act.put, List.setIfInBounds_toArray, List.set_cons_zero, List.set_cons_succ]
      refine wpAnyH_take (i := 35) (oi := ?oiq_35) (v := ?vq_35) ?hiq_35 (by kernel_rfl) (by kernel_rfl) (by kernel_rfl) ?hQq_35 (Or.inl ⟨?hwq_35, ?hyq_35⟩) (by assumption) ?_
      case hiq_35 => simp only [List.getElem?_toArray, List.getElem?_cons_succ, List.getElem?_cons_zero]; rfl
      case hQq_35 => exact fun _ _ _ h => h
      case hwq_35 => rfl
      case hyq_35 => intro w hSw; (try dsimp only at hSw); (first | (go_simp; done) | (go_simp; with_reducible rfl))
      try simp only [Act.put, List.setIfInBounds_toArray, List.set_cons_zero, List.set_cons_succ]
      refine wpAnyH_take (i := 36) (oi := ?oiq_36) (v := ?vq_36) ?hiq_36 (by kernel_rfl) (by kernel_rfl) (by kernel_rfl) ?hQq_36 (Or.inl ⟨?hwq_36, ?hyq_36⟩) (by assumption) ?_
      case hiq_36 => simp only [List.getElem?_toArray, List.getElem?_cons_succ, List.getElem?_cons_zero]; rfl
      case hQq_36 => exact fun _ _ _ h => h
      case hwq_36 => rfl
      case hyq_36 => intro w hSw; (try dsimp only at hSw); (first | (go_simp; done) | (go_simp; with_reducible rfl))
      try simp only [Act.put, List.setIfInBounds_toArray, List.set_cons_zero, List.set_cons_succ]
      refine wpAnyH_done (by kernel_rfl) ?_ _
      go_wp2
      go_ret
      exact ⟨rfl, HB.trans (BB.mono HB.size)⟩
    | true =>
      have KG := Lib.hid (fun wx : World => show Calls Try.prog 67 #[.int .i64 a.Vendor, .int .i64 a.Serial] wx (fun e w' => e = .returned (.bool true) ∧ wx = w') from by have h9 := specRng wx a.Vendor a.Serial; rw [h2] at h9; exact h9)
      cases h3 : revB l a.Vendor a.Serial with
      | true =>
        obtain rfl : r = false := by rw [HRR.out]; unfold chkB; rw [h1, h2, h3]; rfl
        rw [h3] at KR
        clear h1 h2 h3 HRR KP KA
        go_enter Try.func30, Try.ntmps30
        obtain ⟨w1, hw1⟩ : ∃ y, y = w.alloc (.cells #[.int .i64 l.Master, .slice A n c] 27) := ⟨_, rfl⟩
        have o_l := var_owns w 27 2 [.int .i64 l.Master, .slice A n c] rfl
        have bw1 : Below w.heap.size w w1 := hw1 ▸ (Below.refl _ _).alloc (Nat.le_refl _) _
        rw [← hw1] at o_l
        have sw1 : w1.heap.size = w.heap.size + 1 := by rw [hw1]; simp
        have zw1 : w.heap.size < w1.heap.size := by rw [hw1]; simp
        have HB := bw1
        obtain ⟨w2, hw2⟩ : ∃ y, y = w1.alloc (.cells #[.int .i64 a.Vendor, .int .i64 a.Serial, .int .i64 a.Key, .int .i64 a.Signature] 31) := ⟨_, rfl⟩
        have o_a := var_owns w1 31 4 [.int .i64 a.Vendor, .int .i64 a.Serial, .int .i64 a.Key, .int .i64 a.Signature] rfl
        have bw2 : Below w1.heap.size w1 w2 := hw2 ▸ (Below.refl _ _).alloc (Nat.le_refl _) _
        rw [← hw2] at o_a
        rw [sw1] at o_a
        have sw2 : w2.heap.size = w.heap.size + 1 + 1 := by rw [hw2]; simp [sw1]
        have zw2 : w1.heap.size < w2.heap.size := by rw [hw2]; simp
        replace o_l := owns_below o_l bw2
        replace HB := HB.trans (bw2.mono HB.size)
        go_wp2_with fail
        rw [← hw1, ← hw2]
        clear hw1 hw2 sw1 sw2
        have HF := Lib.hid (show ∀ wx, Below w2.heap.size w2 wx → wx.cell? ⟨w.heap.size, 0, none⟩ = some (.int .i64 l.Master) ∧ wx.cell? ⟨w.heap.size, 1, none⟩ = some (.slice A n c) ∧ wx.cell? ⟨(w.heap.size + 1), 0, none⟩ = some (.int .i64 a.Vendor) ∧ wx.cell? ⟨(w.heap.size + 1), 1, none⟩ = some (.int .i64 a.Serial) ∧ wx.cell? ⟨(w.heap.size + 1), 2, none⟩ = some (.int .i64 a.Key) ∧ wx.cell? ⟨(w.heap.size + 1), 3, none⟩ = some (.int .i64 a.Signature) from fun wx hb =>
          ⟨var_load (owns_below o_l hb) (by simp) 0 _ rfl, var_load (owns_below o_l hb) (by simp) 1 _ rfl, var_load (owns_below o_a hb) (by simp) 0 _ rfl, var_load (owns_below o_a hb) (by simp) 1 _ rfl, var_load (owns_below o_a hb) (by simp) 2 _ rfl, var_load (owns_below o_a hb) (by simp) 3 _ rfl⟩)
        have L1 : w.heap.size < w2.drew.heap.size := (show w.heap.size < w2.heap.size from var_lt o_l)
        have L2 : (w.heap.size + 1) < w2.drew.heap.size := (show (w.heap.size + 1) < w2.heap.size from var_lt o_a)
        have BB : Below w2.heap.size w2 w2.drew := drewN_below w2 1 _
        clear o_l o_a
        refine wp_region_held_drew (S := (fun wx => wx.cell? ⟨w.heap.size, 0, none⟩ = some (.int .i64 l.Master) ∧ wx.cell? ⟨w.heap.size, 1, none⟩ = some (.slice A n c) ∧ wx.cell? ⟨(w.heap.size + 1), 0, none⟩ = some (.int .i64 a.Vendor) ∧ wx.cell? ⟨(w.heap.size + 1), 1, none⟩ = some (.int .i64 a.Serial) ∧ wx.cell? ⟨(w.heap.size + 1), 2, none⟩ = some (.int .i64 a.Key) ∧ wx.cell? ⟨(w.heap.size + 1), 3, none⟩ = some (.int .i64 a.Signature))) (by kernel_rfl) ?_ (fun hHeld => ?_)
        · exact HF.out _ BB
        refine wpAnyH_take (i := 0) (oi := ?ois_0) (v := ?vs_0) ?his_0 (by kernel_rfl) (by kernel_rfl) (by kernel_rfl) ?hQs_0 (Or.inl ⟨?hws_0, ?hys_0⟩) (by assumption) ?_
        case his_0 => simp only [List.getElem?_toArray, List.getElem?_cons_zero]; rfl
        case hQs_0 => exact fun _ _ _ h => h
        case hws_0 => rfl
        case hys_0 => intro w hSw; (try dsimp only at hSw); (first | (go_simp; done) | (go_simp; with_reducible rfl))
        try simp only [Act.put, List.setIfInBounds_toArray, List.set_cons_zero, List.set_cons_succ]
        refine wpAnyH_ready (rs := [1]) (by kernel_rfl) (by simp) ?_
        refine AllReadyH.cons (o := ?ois_1) ?his_1 (fun K hK => ?_) AllReadyH.nil
        case his_1 => simp only [List.getElem?_toArray, List.getElem?_cons_succ, List.getElem?_cons_zero]; rfl
        go_simp
        go_at_call 27
        (with_reducible refine (KV.out _ (HB.trans (BB.mono HB.size))).mono ?_)
        rintro e y0 ⟨rfl, bq⟩
        replace BB : Below w2.heap.size w2 y0 := BB.trans (bq.mono BB.size)
        replace L1 := Nat.lt_of_lt_of_le L1 bq.size
        replace L2 := Nat.lt_of_lt_of_le L2 bq.size
        clear bq
        refine hK.out _ _ ?_ (fun hHeld => ?_)
        · exact HF.out _ BB
        clear hK K
        try simp only [Act.put, List.setIfInBounds_toArray, List.set_cons_zero, List.set_cons_succ]
        refine wpAnyH_take (i := 2) (oi := ?ois_2) (v := ?vs_2) ?his_2 (by kernel_rfl) (by kernel_rfl) (by kernel_rfl) ?hQs_2 (Or.inl ⟨?hws_2, ?hys_2⟩) (by assumption) ?_
        case his_2 => simp only [List.getElem?_toArray, List.getElem?_cons_succ, List.getElem?_cons_zero]; rfl
        case hQs_2 => exact fun _ _ _ h => h
        case hws_2 => rfl
        case hys_2 => intro w hSw; (try dsimp only at hSw); (first | (go_simp; done) | (go_simp; with_reducible rfl))
        try simp only [Act.put, List.setIfInBounds_toArray, List.set_cons_zero, List.set_cons_succ]
        refine wpAnyH_take (i := 3) (oi := ?ois_3) (v := ?vs_3) ?his_3 (by kernel_rfl) (by kernel_rfl) (by kernel_rfl) ?hQs_3 (Or.inl ⟨?hws_3, ?hys_3⟩) (by assumption) ?_
        case his_3 => simp only [List.getElem?_toArray, List.getElem?_cons_succ, List.getElem?_cons_zero]; rfl
        case hQs_3 => exact fun _ _ _ h => h
        case hws_3 => rfl
        case hys_3 => intro w hSw; (try dsimp only at hSw); (first | (go_simp; done) | (go_simp; with_reducible rfl))
        try simp only [Act.put, List.setIfInBounds_toArray, List.set_cons_zero, List.set_cons_succ]
        refine wpAnyH_take (i := 4) (oi := ?ois_4) (v := ?vs_4) ?his_4 (by kernel_rfl) (by kernel_rfl) (by kernel_rfl) ?hQs_4 (Or.inl ⟨?hws_4, ?hys_4⟩) (by assumption) ?_
        case his_4 => simp only [List.getElem?_toArray, List.getElem?_cons_succ, List.getElem?_cons_zero]; rfl
        case hQs_4 => exact fun _ _ _ h => h
        case hws_4 => rfl
        case hys_4 => intro w hSw; (try dsimp only at hSw); (first | (go_simp; done) | (go_simp; with_reducible rfl))
        try simp only [Act.put, List.setIfInBounds_toArray, List.set_cons_zero, List.set_cons_succ]
        refine wpAnyH_take (i := 5) (oi := ?ois_5) (v := ?vs_5) ?his_5 (by kernel_rfl) (by kernel_rfl) (by kernel_rfl) ?hQs_5 (Or.inl ⟨?hws_5, ?hys_5⟩) (by assumption) ?_
        case his_5 => simp only [List.getElem?_toArray, List.getElem?_cons_succ, List.getElem?_cons_zero]; rfl
        case hQs_5 => exact fun _ _ _ h => h
        case hws_5 => rfl
        case hys_5 => intro w hSw; (try dsimp only at hSw); (first | (go_simp; done) | (go_simp; with_reducible rfl))
        try simp only [Act.put, List.setIfInBounds_toArray, List.set_cons_zero, List.set_cons_succ]
        refine wpAnyH_take (i := 6) (oi := ?ois_6) (v := ?vs_6) ?his_6 (by kernel_rfl) (by kernel_rfl) (by kernel_rfl) ?hQs_6 (Or.inl ⟨?hws_6, ?hys_6⟩) (by assumption) ?_
        case his_6 => simp only [List.getElem?_toArray, List.getElem?_cons_succ, List.getElem?_cons_zero]; rfl
        case hQs_6 => exact fun _ _ _ h => h
        case hws_6 => rfl
        case hys_6 => intro w hSw; (try dsimp only at hSw); (first | (go_simp; done) | (go_simp; with_reducible rfl))
        try simp only [Act.put, List.setIfInBounds_toArray, List.set_cons_zero, List.set_cons_succ]
        refine wpAnyH_ready (rs := [7]) (by kernel_rfl) (by simp) ?_
        refine AllReadyH.cons (o := ?ois_7) ?his_7 (fun K hK => ?_) AllReadyH.nil
        case his_7 => simp only [List.getElem?_toArray, List.getElem?_cons_succ, List.getElem?_cons_zero]; rfl
        go_simp
        go_at_call 67
        (with_reducible refine (KG.out _).mono ?_)
        rintro e y1 ⟨rfl, rfl⟩
        refine hK.out _ _ ?_ (fun hHeld => ?_)
        · exact HF.out _ BB
        clear hK K
        try simp only [Act.put, List.setIfInBounds_toArray, List.set_cons_zero, List.set_cons_succ]
        refine wpAnyH_take (i := 8) (oi := ?ois_8) (v := ?vs_8) ?his_8 (by kernel_rfl) (by kernel_rfl) (by kernel_rfl) ?hQs_8 (Or.inl ⟨?hws_8, ?hys_8⟩) (by assumption) ?_
        case his_8 => simp only [List.getElem?_toArray, List.getElem?_cons_succ, List.getElem?_cons_zero]; rfl
        case hQs_8 => exact fun _ _ _ h => h
        case hws_8 => rfl
        case hys_8 => intro w hSw; (try dsimp only at hSw); (first | (go_simp; done) | (go_simp; with_reducible rfl))
        try simp only [Act.put, List.setIfInBounds_toArray, List.set_cons_zero, List.set_cons_succ]
        refine wpAnyH_take (i := 9) (oi := ?ois_9) (v := ?vs_9) ?his_9 (by kernel_rfl) (by kernel_rfl) (by kernel_rfl) ?hQs_9 (Or.inl ⟨?hws_9, ?hys_9⟩) (by assumption) ?_
        case his_9 => simp only [List.getElem?_toArray, List.getElem?_cons_succ, List.getElem?_cons_zero]; rfl
        case hQs_9 => exact fun _ _ _ h => h
        case hws_9 => rfl
        case hys_9 => intro w hSw; (try dsimp only at hSw); (first | (go_simp; done) | (go_simp; with_reducible rfl))
        try simp only [Act.put, List.setIfInBounds_toArray, List.set_cons_zero, List.set_cons_succ]
        refine wpAnyH_take (i := 10) (oi := ?ois_10) (v := ?vs_10) ?his_10 (by kernel_rfl) (by kernel_rfl) (by kernel_rfl) ?hQs_10 (Or.inl ⟨?hws_10, ?hys_10⟩) (by assumption) ?_
        case his_10 => simp only [List.getElem?_toArray, List.getElem?_cons_succ, List.getElem?_cons_zero]; rfl
        case hQs_10 => exact fun _ _ _ h => h
        case hws_10 => rfl
        case hys_10 => intro w hSw; (try dsimp only at hSw); (first | (go_simp; done) | (go_simp; with_reducible rfl))
        try simp only [Act.put, List.setIfInBounds_toArray, List.set_cons_zero, List.set_cons_succ]
        refine wpAnyH_take (i := 11) (oi := ?ois_11) (v := ?vs_11) ?his_11 (by kernel_rfl) (by kernel_rfl) (by kernel_rfl) ?hQs_11 (Or.inl ⟨?hws_11, ?hys_11⟩) (by assumption) ?_
        case his_11 => simp only [List.getElem?_toArray, List.getElem?_cons_succ, List.getElem?_cons_zero]; rfl
        case hQs_11 => exact fun _ _ _ h => h
        case hws_11 => rfl
        case hys_11 => intro w hSw; (try dsimp only at hSw); (first | (go_simp; done) | (go_simp; with_reducible rfl))
        try simp only [Act.put, List.setIfInBounds_toArray, List.set_cons_zero, List.set_cons_succ]
        refine wpAnyH_take (i := 12) (oi := ?ois_12) (v := ?vs_12) ?his_12 (by kernel_rfl) (by kernel_rfl) (by kernel_rfl) ?hQs_12 (Or.inl ⟨?hws_12, ?hys_12⟩) (by assumption) ?_
        case his_12 => simp only [List.getElem?_toArray, List.getElem?_cons_succ, List.getElem?_cons_zero]; rfl
        case hQs_12 => exact fun _ _ _ h => h
        case hws_12 => rfl
        case hys_12 => intro w hSw; (try dsimp only at hSw); (first | (go_simp; done) | (go_simp; with_reducible rfl))
        try simp only [Act.put, List.setIfInBounds_toArray, List.set_cons_zero, List.set_cons_succ]
        refine wpAnyH_take (i := 13) (oi := ?ois_13) (v := ?vs_13) ?his_13 (by kernel_rfl) (by kernel_rfl) (by kernel_rfl) ?hQs_13 (Or.inl ⟨?hws_13, ?hys_13⟩) (by assumption) ?_
        case his_13 => simp only [List.getElem?_toArray, List.getElem?_cons_succ, List.getElem?_cons_zero]; rfl
        case hQs_13 => exact fun _ _ _ h => h
        case hws_13 => rfl
        case hys_13 => intro w hSw; (try dsimp only at hSw); (first | (go_simp; done) | (go_simp; with_reducible rfl))
        try simp only [Act.put, List.setIfInBounds_toArray, List.set_cons_zero, List.set_cons_succ]
        refine wpAnyH_take (i := 14) (oi := ?ois_14) (v := ?vs_14) ?his_14 (by kernel_rfl) (by kernel_rfl) (by kernel_rfl) ?hQs_14 (Or.inl ⟨?hws_14, ?hys_14⟩) (by assumption) ?_
        case his_14 => simp only [List.getElem?_toArray, List.getElem?_cons_succ, List.getElem?_cons_zero]; rfl
        case hQs_14 => exact fun _ _ _ h => h
        case hws_14 => rfl
        case hys_14 => intro w hSw; (try dsimp only at hSw); (first | (go_simp; done) | (go_simp; with_reducible rfl))
        try simp only [Act.put, List.setIfInBounds_toArray, List.set_cons_zero, List.set_cons_succ]
        refine wpAnyH_ready (rs := [15]) (by kernel_rfl) (by simp) ?_
        refine AllReadyH.cons (o := ?ois_15) ?his_15 (fun K hK => ?_) AllReadyH.nil
        case his_15 => simp only [List.getElem?_toArray, List.getElem?_cons_succ, List.getElem?_cons_zero]; rfl
        go_simp
        go_at_call 35
        (with_reducible refine (KR.out _ (HB.trans (BB.mono HB.size))).mono ?_)
        rintro e y2 ⟨rfl, bq⟩
        replace BB : Below w2.heap.size w2 y2 := BB.trans (bq.mono BB.size)
        replace L1 := Nat.lt_of_lt_of_le L1 bq.size
        replace L2 := Nat.lt_of_lt_of_le L2 bq.size
        clear bq
        refine hK.out _ _ ?_ (fun hHeld => ?_)
        · exact HF.out _ BB
        clear hK K
        try simp only [Act.put, List.setIfInBounds_toArray, List.set_cons_zero, List.set_cons_succ]
        refine wpAnyH_take (i := 16) (oi := ?ois_16) (v := ?vs_16) ?his_16 (by kernel_rfl) (by kernel_rfl) (by kernel_rfl) ?hQs_16 (Or.inl ⟨?hws_16, ?hys_16⟩) (by assumption) ?_
        case his_16 => simp only [List.getElem?_toArray, List.getElem?_cons_succ, List.getElem?_cons_zero]; rfl
        case hQs_16 => exact fun _ _ _ h => h
        case hws_16 => rfl
        case hys_16 => intro w hSw; (try dsimp only at hSw); (first | (go_simp; done) | (go_simp; with_reducible rfl))
        try simp only [Act.put, List.setIfInBounds_toArray, List.set_cons_zero, List.set_cons_succ]
        refine wpAnyH_take (i := 17) (oi := ?ois_17) (v := ?vs_17) ?his_17 (by kernel_rfl) (by kernel_rfl) (by kernel_rfl) ?hQs_17 (Or.inl ⟨?hws_17, ?hys_17⟩) (by assumption) ?_
        case his_17 => simp only [List.getElem?_toArray, List.getElem?_cons_succ, List.getElem?_cons_zero]; rfl
        case hQs_17 => exact fun _ _ _ h => h
        case hws_17 => rfl
        case hys_17 => intro w hSw; (try dsimp only at hSw); (first | (go_simp; done) | (go_simp; with_reducible rfl))
        try simp only [Act.put, List.setIfInBounds_toArray, List.set_cons_zero, List.set_cons_succ]
        refine wpAnyH_take (i := 18) (oi := ?ois_18) (v := ?vs_18) ?his_18 (by kernel_rfl) (by kernel_rfl) (by kernel_rfl) ?hQs_18 (Or.inl ⟨?hws_18, ?hys_18⟩) (by assumption) ?_
        case his_18 => simp only [List.getElem?_toArray, List.getElem?_cons_succ, List.getElem?_cons_zero]; rfl
        case hQs_18 => exact fun _ _ _ h => h
        case hws_18 => rfl
        case hys_18 => intro w hSw; (try dsimp only at hSw); (first | (go_simp; done) | (go_simp; with_reducible rfl))
        try simp only [Act.put, List.setIfInBounds_toArray, List.set_cons_zero, List.set_cons_succ]
        refine wpAnyH_take (i := 19) (oi := ?ois_19) (v := undef) ?his_19 (by kernel_rfl) (by kernel_rfl) (by kernel_rfl) ?hQs_19 (Or.inr ⟨?hws_19, rfl⟩) (by assumption) ?_
        case his_19 => simp only [List.getElem?_toArray, List.getElem?_cons_succ, List.getElem?_cons_zero]; rfl
        case hQs_19 => exact fun _ _ _ h => h
        case hws_19 => rfl
        try simp only [Act.put, List.setIfInBounds_toArray, List.set_cons_zero, List.set_cons_succ]
        refine wpAnyH_take (i := 20) (oi := ?ois_20) (v := undef) ?his_20 (by kernel_rfl) (by kernel_rfl) (by kernel_rfl) ?hQs_20 (Or.inr ⟨?hws_20, rfl⟩) (by assumption) ?_
        case his_20 => simp only [List.getElem?_toArray, List.getElem?_cons_succ, List.getElem?_cons_zero]; rfl
        case hQs_20 => exact fun _ _ _ h => h
        case hws_20 => rfl
        try simp only [Act.put, List.setIfInBounds_toArray, List.set_cons_zero, List.set_cons_succ]
        refine wpAnyH_take (i := 21) (oi := ?ois_21) (v := undef) ?his_21 (by kernel_rfl) (by kernel_rfl) (by kernel_rfl) ?hQs_21 (Or.inr ⟨?hws_21, rfl⟩) (by assumption) ?_
        case his_21 => simp only [List.getElem?_toArray, List.getElem?_cons_succ, List.getElem?_cons_zero]; rfl
        case hQs_21 => exact fun _ _ _ h => h
        case hws_21 => rfl
        try simp only [Act.put, List.setIfInBounds_toArray, List.set_cons_zero, List.set_cons_succ]
        refine wpAnyH_take (i := 22) (oi := ?ois_22) (v := undef) ?his_22 (by kernel_rfl) (by kernel_rfl) (by kernel_rfl) ?hQs_22 (Or.inr ⟨?hws_22, rfl⟩) (by assumption) ?_
        case his_22 => simp only [List.getElem?_toArray, List.getElem?_cons_succ, List.getElem?_cons_zero]; rfl
        case hQs_22 => exact fun _ _ _ h => h
        case hws_22 => rfl
        try simp only [Act.put, List.setIfInBounds_toArray, List.set_cons_zero, List.set_cons_succ]
        refine wpAnyH_take (i := 23) (oi := ?ois_23) (v := undef) ?his_23 (by kernel_rfl) (by kernel_rfl) (by kernel_rfl) ?hQs_23 (Or.inr ⟨?hws_23, rfl⟩) (by assumption) ?_
        case his_23 => simp only [List.getElem?_toArray, List.getElem?_cons_succ, List.getElem?_cons_zero]; rfl
        case hQs_23 => exact fun _ _ _ h => h
        case hws_23 => rfl
        try simp only [Act.put, List.setIfInBounds_toArray, List.set_cons_zero, List.set_cons_succ]
        refine wpAnyH_take (i := 24) (oi := ?ois_24) (v := undef) ?his_24 (by kernel_rfl) (by kernel_rfl) (by kernel_rfl) ?hQs_24 (Or.inr ⟨?hws_24, rfl⟩) (by assumption) ?_
        case his_24 => simp only [List.getElem?_toArray, List.getElem?_cons_succ, List.getElem?_cons_zero]; rfl
        case hQs_24 => exact fun _ _ _ h => h
        case hws_24 => rfl
        try simp only [Act.put, List.setIfInBounds_toArray, List.set_cons_zero, List.set_cons_succ]
        refine wpAnyH_take (i := 25) (oi := ?ois_25) (v := undef) ?his_25 (by kernel_rfl) (by kernel_rfl) (by kernel_rfl) ?hQs_25 (Or.inr ⟨?hws_25, rfl⟩) (by assumption) ?_
        case his_25 => simp only [List.getElem?_toArray, List.getElem?_cons_succ, List.getElem?_cons_zero]; rfl
        case hQs_25 => exact fun _ _ _ h => h
        case hws_25 => rfl
        try simp only [Act.put, List.setIfInBounds_toArray, List.set_cons_zero, List.set_cons_succ]
        refine wpAnyH_take (i := 26) (oi := ?ois_26) (v := undef) ?his_26 (by kernel_rfl) (by kernel_rfl) (by kernel_rfl) ?hQs_26 (Or.inr ⟨?hws_26, rfl⟩) (by assumption) ?_
        case his_26 => simp only [List.getElem?_toArray, List.getElem?_cons_succ, List.getElem?_cons_zero]; rfl
        case hQs_26 => exact fun _ _ _ h => h
        case hws_26 => rfl
        try simp only [Act.put, List.setIfInBounds_toArray, List.set_cons_zero, List.set_cons_succ]
        refine wpAnyH_take (i := 27) (oi := ?ois_27) (v := undef) ?his_27 (by kernel_rfl) (by kernel_rfl) (by kernel_rfl) ?hQs_27 (Or.inr ⟨?hws_27, rfl⟩) (by assumption) ?_
        case his_27 => simp only [List.getElem?_toArray, List.getElem?_cons_succ, List.getElem?_cons_zero]; rfl
        case hQs_27 => exact fun _ _ _ h => h
        case hws_27 => rfl
        try simp only [Act.put, List.setIfInBounds_toArray, List.set_cons_zero, List.set_cons_succ]
        refine wpAnyH_take (i := 28) (oi := ?ois_28) (v := undef) ?his_28 (by kernel_rfl) (by kernel_rfl) (by kernel_rfl) ?hQs_28 (Or.inr ⟨?hws_28, rfl⟩) (by assumption) ?_
        case his_28 => simp only [List.getElem?_toArray, List.getElem?_cons_succ, List.getElem?_cons_zero]; rfl
        case hQs_28 => exact fun _ _ _ h => h
        case hws_28 => rfl
        try simp only [Act.put, List.setIfInBounds_toArray, List.set_cons_zero, List.set_cons_succ]
        refine wpAnyH_take (i := 29) (oi := ?ois_29) (v := undef) ?his_29 (by kernel_rfl) (by kernel_rfl) (by kernel_rfl) ?hQs_29 (Or.inr ⟨?hws_29, rfl⟩) (by assumption) ?_
        case his_29 => simp only [List.getElem?_toArray, List.getElem?_cons_succ, List.getElem?_cons_zero]; rfl
        case hQs_29 => exact fun _ _ _ h => h
        case hws_29 => rfl
        try simp only [Act.put, List.setIfInBounds_toArray, List.set_cons_zero, List.set_cons_succ]
        refine wpAnyH_take (i := 30) (oi := ?ois_30) (v := undef) ?his_30 (by kernel_rfl) (by kernel_rfl) (by kernel_rfl) ?hQs_30 (Or.inr ⟨?hws_30, rfl⟩) (by assumption) ?_
        case his_30 => simp only [List.getElem?_toArray, List.getElem?_cons_succ, List.getElem?_cons_zero]; rfl
        case hQs_30 => exact fun _ _ _ h => h
        case hws_30 => rfl
        try simp only [Act.put, List.setIfInBounds_toArray, List.set_cons_zero, List.set_cons_succ]
        refine wpAnyH_take (i := 31) (oi := ?ois_31) (v := undef) ?his_31 (by kernel_rfl) (by kernel_rfl) (by kernel_rfl) ?hQs_31 (Or.inr ⟨?hws_31, rfl⟩) (by assumption) ?_
        case his_31 => simp only [List.getElem?_toArray, List.getElem?_cons_succ, List.getElem?_cons_zero]; rfl
        case hQs_31 => exact fun _ _ _ h => h
        case hws_31 => rfl
        try simp only [Act.put, List.setIfInBounds_toArray, List.set_cons_zero, List.set_cons_succ]
        refine wpAnyH_take (i := 32) (oi := ?ois_32) (v := undef) ?his_32 (by kernel_rfl) (by kernel_rfl) (by kernel_rfl) ?hQs_32 (Or.inr ⟨?hws_32, rfl⟩) (by assumption) ?_
        case his_32 => simp only [List.getElem?_toArray, List.getElem?_cons_succ, List.getElem?_cons_zero]; rfl
        case hQs_32 => exact fun _ _ _ h => h
        case hws_32 => rfl
        try simp only [Act.put, List.setIfInBounds_toArray, List.set_cons_zero, List.set_cons_succ]
        refine wpAnyH_take (i := 33) (oi := ?ois_33) (v := undef) ?his_33 (by kernel_rfl) (by kernel_rfl) (by kernel_rfl) ?hQs_33 (Or.inr ⟨?hws_33, rfl⟩) (by assumption) ?_
        case his_33 => simp only [List.getElem?_toArray, List.getElem?_cons_succ, List.getElem?_cons_zero]; rfl
        case hQs_33 => exact fun _ _ _ h => h
        case hws_33 => rfl
        try simp only [Act.put, List.setIfInBounds_toArray, List.set_cons_zero, List.set_cons_succ]
        refine wpAnyH_take (i := 34) (oi := ?ois_34) (v := undef) ?his_34 (by kernel_rfl) (by kernel_rfl) (by kernel_rfl) ?hQs_34 (Or.inr ⟨?hws_34, rfl⟩) (by assumption) ?_
        case his_34 => simp only [List.getElem?_toArray, List.getElem?_cons_succ, List.getElem?_cons_zero]; rfl
        case hQs_34 => exact fun _ _ _ h => h
        case hws_34 => rfl
        try simp only [Act.put, List.setIfInBounds_toArray, List.set_cons_zero, List.set_cons_succ]
        refine wpAnyH_take (i := 35) (oi := ?ois_35) (v := ?vs_35) ?his_35 (by kernel_rfl) (by kernel_rfl) (by kernel_rfl) ?hQs_35 (Or.inl ⟨?hws_35, ?hys_35⟩) (by assumption) ?_
        case his_35 => simp only [List.getElem?_toArray, List.getElem?_cons_succ, List.getElem?_cons_zero]; rfl
        case hQs_35 => exact fun _ _ _ h => h
        case hws_35 => rfl
        case hys_35 => intro w hSw; (try dsimp only at hSw); (first | (go_simp; done) | (go_simp; with_reducible rfl))
        try simp only [Act.put, List.setIfInBounds_toArray, List.set_cons_zero, List.set_cons_succ]
        refine wpAnyH_take (i := 36) (oi := ?ois_36) (v := ?vs_36) ?his_36 (by kernel_rfl) (by kernel_rfl) (by kernel_rfl) ?hQs_36 (Or.inl ⟨?hws_36, ?hys_36⟩) (by assumption) ?_
        case his_36 => simp only [List.getElem?_toArray, List.getElem?_cons_succ, List.getElem?_cons_zero]; rfl
        case hQs_36 => exact fun _ _ _ h => h
        case hws_36 => rfl
        case hys_36 => intro w hSw; (try dsimp only at hSw); (first | (go_simp; done) | (go_simp; with_reducible rfl))
        try simp only [Act.put, List.setIfInBounds_toArray, List.set_cons_zero, List.set_cons_succ]
        refine wpAnyH_done (by kernel_rfl) ?_ _
        go_wp2
        go_ret
        exact ⟨rfl, HB.trans (BB.mono HB.size)⟩
      | false =>
        have HV := Lib.hid (show r = vsg (pub (vpr l.Master a.Vendor)) (amsg a.Vendor a.Serial a.Key) a.Signature by rw [HRR.out]; unfold chkB; rw [h1, h2, h3]; rfl)
        rw [h3] at KR
        clear h1 h2 h3 HRR
        go_enter Try.func30, Try.ntmps30
        obtain ⟨w1, hw1⟩ : ∃ y, y = w.alloc (.cells #[.int .i64 l.Master, .slice A n c] 27) := ⟨_, rfl⟩
        have o_l := var_owns w 27 2 [.int .i64 l.Master, .slice A n c] rfl
        have bw1 : Below w.heap.size w w1 := hw1 ▸ (Below.refl _ _).alloc (Nat.le_refl _) _
        rw [← hw1] at o_l
        have sw1 : w1.heap.size = w.heap.size + 1 := by rw [hw1]; simp
        have zw1 : w.heap.size < w1.heap.size := by rw [hw1]; simp
        have HB := bw1
        obtain ⟨w2, hw2⟩ : ∃ y, y = w1.alloc (.cells #[.int .i64 a.Vendor, .int .i64 a.Serial, .int .i64 a.Key, .int .i64 a.Signature] 31) := ⟨_, rfl⟩
        have o_a := var_owns w1 31 4 [.int .i64 a.Vendor, .int .i64 a.Serial, .int .i64 a.Key, .int .i64 a.Signature] rfl
        have bw2 : Below w1.heap.size w1 w2 := hw2 ▸ (Below.refl _ _).alloc (Nat.le_refl _) _
        rw [← hw2] at o_a
        rw [sw1] at o_a
        have sw2 : w2.heap.size = w.heap.size + 1 + 1 := by rw [hw2]; simp [sw1]
        have zw2 : w1.heap.size < w2.heap.size := by rw [hw2]; simp
        replace o_l := owns_below o_l bw2
        replace HB := HB.trans (bw2.mono HB.size)
        go_wp2_with fail
        rw [← hw1, ← hw2]
        clear hw1 hw2 sw1 sw2
        have HF := Lib.hid (show ∀ wx, Below w2.heap.size w2 wx → wx.cell? ⟨w.heap.size, 0, none⟩ = some (.int .i64 l.Master) ∧ wx.cell? ⟨w.heap.size, 1, none⟩ = some (.slice A n c) ∧ wx.cell? ⟨(w.heap.size + 1), 0, none⟩ = some (.int .i64 a.Vendor) ∧ wx.cell? ⟨(w.heap.size + 1), 1, none⟩ = some (.int .i64 a.Serial) ∧ wx.cell? ⟨(w.heap.size + 1), 2, none⟩ = some (.int .i64 a.Key) ∧ wx.cell? ⟨(w.heap.size + 1), 3, none⟩ = some (.int .i64 a.Signature) from fun wx hb =>
          ⟨var_load (owns_below o_l hb) (by simp) 0 _ rfl, var_load (owns_below o_l hb) (by simp) 1 _ rfl, var_load (owns_below o_a hb) (by simp) 0 _ rfl, var_load (owns_below o_a hb) (by simp) 1 _ rfl, var_load (owns_below o_a hb) (by simp) 2 _ rfl, var_load (owns_below o_a hb) (by simp) 3 _ rfl⟩)
        have L1 : w.heap.size < w2.drew.heap.size := (show w.heap.size < w2.heap.size from var_lt o_l)
        have L2 : (w.heap.size + 1) < w2.drew.heap.size := (show (w.heap.size + 1) < w2.heap.size from var_lt o_a)
        have BB : Below w2.heap.size w2 w2.drew := drewN_below w2 1 _
        clear o_l o_a
        refine wp_region_held_drew (S := (fun wx => wx.cell? ⟨w.heap.size, 0, none⟩ = some (.int .i64 l.Master) ∧ wx.cell? ⟨w.heap.size, 1, none⟩ = some (.slice A n c) ∧ wx.cell? ⟨(w.heap.size + 1), 0, none⟩ = some (.int .i64 a.Vendor) ∧ wx.cell? ⟨(w.heap.size + 1), 1, none⟩ = some (.int .i64 a.Serial) ∧ wx.cell? ⟨(w.heap.size + 1), 2, none⟩ = some (.int .i64 a.Key) ∧ wx.cell? ⟨(w.heap.size + 1), 3, none⟩ = some (.int .i64 a.Signature))) (by kernel_rfl) ?_ (fun hHeld => ?_)
        · exact HF.out _ BB
        refine wpAnyH_take (i := 0) (oi := ?oit_0) (v := ?vt_0) ?hit_0 (by kernel_rfl) (by kernel_rfl) (by kernel_rfl) ?hQt_0 (Or.inl ⟨?hwt_0, ?hyt_0⟩) (by assumption) ?_
        case hit_0 => simp only [List.getElem?_toArray, List.getElem?_cons_zero]; rfl
        case hQt_0 => exact fun _ _ _ h => h
        case hwt_0 => rfl
        case hyt_0 => intro w hSw; (try dsimp only at hSw); (first | (go_simp; done) | (go_simp; with_reducible rfl))
        try simp only [Act.put, List.setIfInBounds_toArray, List.set_cons_zero, List.set_cons_succ]
        refine wpAnyH_ready (rs := [1]) (by kernel_rfl) (by simp) ?_
        refine AllReadyH.cons (o := ?oit_1) ?hit_1 (fun K hK => ?_) AllReadyH.nil
        case hit_1 => simp only [List.getElem?_toArray, List.getElem?_cons_succ, List.getElem?_cons_zero]; rfl
        go_simp
        go_at_call 27
        (with_reducible refine (KV.out _ (HB.trans (BB.mono HB.size))).mono ?_)
        rintro e y0 ⟨rfl, bq⟩
        replace BB : Below w2.heap.size w2 y0 := BB.trans (bq.mono BB.size)
        replace L1 := Nat.lt_of_lt_of_le L1 bq.size
        replace L2 := Nat.lt_of_lt_of_le L2 bq.size
        clear bq
        refine hK.out _ _ ?_ (fun hHeld => ?_)
        · exact HF.out _ BB
        clear hK K
        try simp only [Act.put, List.setIfInBounds_toArray, List.set_cons_zero, List.set_cons_succ]
        refine wpAnyH_take (i := 2) (oi := ?oit_2) (v := ?vt_2) ?hit_2 (by kernel_rfl) (by kernel_rfl) (by kernel_rfl) ?hQt_2 (Or.inl ⟨?hwt_2, ?hyt_2⟩) (by assumption) ?_
        case hit_2 => simp only [List.getElem?_toArray, List.getElem?_cons_succ, List.getElem?_cons_zero]; rfl
        case hQt_2 => exact fun _ _ _ h => h
        case hwt_2 => rfl
        case hyt_2 => intro w hSw; (try dsimp only at hSw); (first | (go_simp; done) | (go_simp; with_reducible rfl))
        try simp only [Act.put, List.setIfInBounds_toArray, List.set_cons_zero, List.set_cons_succ]
        refine wpAnyH_take (i := 3) (oi := ?oit_3) (v := ?vt_3) ?hit_3 (by kernel_rfl) (by kernel_rfl) (by kernel_rfl) ?hQt_3 (Or.inl ⟨?hwt_3, ?hyt_3⟩) (by assumption) ?_
        case hit_3 => simp only [List.getElem?_toArray, List.getElem?_cons_succ, List.getElem?_cons_zero]; rfl
        case hQt_3 => exact fun _ _ _ h => h
        case hwt_3 => rfl
        case hyt_3 => intro w hSw; (try dsimp only at hSw); (first | (go_simp; done) | (go_simp; with_reducible rfl))
        try simp only [Act.put, List.setIfInBounds_toArray, List.set_cons_zero, List.set_cons_succ]
        refine wpAnyH_take (i := 4) (oi := ?oit_4) (v := ?vt_4) ?hit_4 (by kernel_rfl) (by kernel_rfl) (by kernel_rfl) ?hQt_4 (Or.inl ⟨?hwt_4, ?hyt_4⟩) (by assumption) ?_
        case hit_4 => simp only [List.getElem?_toArray, List.getElem?_cons_succ, List.getElem?_cons_zero]; rfl
        case hQt_4 => exact fun _ _ _ h => h
        case hwt_4 => rfl
        case hyt_4 => intro w hSw; (try dsimp only at hSw); (first | (go_simp; done) | (go_simp; with_reducible rfl))
        try simp only [Act.put, List.setIfInBounds_toArray, List.set_cons_zero, List.set_cons_succ]
        refine wpAnyH_take (i := 5) (oi := ?oit_5) (v := ?vt_5) ?hit_5 (by kernel_rfl) (by kernel_rfl) (by kernel_rfl) ?hQt_5 (Or.inl ⟨?hwt_5, ?hyt_5⟩) (by assumption) ?_
        case hit_5 => simp only [List.getElem?_toArray, List.getElem?_cons_succ, List.getElem?_cons_zero]; rfl
        case hQt_5 => exact fun _ _ _ h => h
        case hwt_5 => rfl
        case hyt_5 => intro w hSw; (try dsimp only at hSw); (first | (go_simp; done) | (go_simp; with_reducible rfl))
        try simp only [Act.put, List.setIfInBounds_toArray, List.set_cons_zero, List.set_cons_succ]
        refine wpAnyH_take (i := 6) (oi := ?oit_6) (v := ?vt_6) ?hit_6 (by kernel_rfl) (by kernel_rfl) (by kernel_rfl) ?hQt_6 (Or.inl ⟨?hwt_6, ?hyt_6⟩) (by assumption) ?_
        case hit_6 => simp only [List.getElem?_toArray, List.getElem?_cons_succ, List.getElem?_cons_zero]; rfl
        case hQt_6 => exact fun _ _ _ h => h
        case hwt_6 => rfl
        case hyt_6 => intro w hSw; (try dsimp only at hSw); (first | (go_simp; done) | (go_simp; with_reducible rfl))
        try simp only [Act.put, List.setIfInBounds_toArray, List.set_cons_zero, List.set_cons_succ]
        refine wpAnyH_ready (rs := [7]) (by kernel_rfl) (by simp) ?_
        refine AllReadyH.cons (o := ?oit_7) ?hit_7 (fun K hK => ?_) AllReadyH.nil
        case hit_7 => simp only [List.getElem?_toArray, List.getElem?_cons_succ, List.getElem?_cons_zero]; rfl
        go_simp
        go_at_call 67
        (with_reducible refine (KG.out _).mono ?_)
        rintro e y1 ⟨rfl, rfl⟩
        refine hK.out _ _ ?_ (fun hHeld => ?_)
        · exact HF.out _ BB
        clear hK K
        try simp only [Act.put, List.setIfInBounds_toArray, List.set_cons_zero, List.set_cons_succ]
        refine wpAnyH_take (i := 8) (oi := ?oit_8) (v := ?vt_8) ?hit_8 (by kernel_rfl) (by kernel_rfl) (by kernel_rfl) ?hQt_8 (Or.inl ⟨?hwt_8, ?hyt_8⟩) (by assumption) ?_
        case hit_8 => simp only [List.getElem?_toArray, List.getElem?_cons_succ, List.getElem?_cons_zero]; rfl
        case hQt_8 => exact fun _ _ _ h => h
        case hwt_8 => rfl
        case hyt_8 => intro w hSw; (try dsimp only at hSw); (first | (go_simp; done) | (go_simp; with_reducible rfl))
        try simp only [Act.put, List.setIfInBounds_toArray, List.set_cons_zero, List.set_cons_succ]
        refine wpAnyH_take (i := 9) (oi := ?oit_9) (v := ?vt_9) ?hit_9 (by kernel_rfl) (by kernel_rfl) (by kernel_rfl) ?hQt_9 (Or.inl ⟨?hwt_9, ?hyt_9⟩) (by assumption) ?_
        case hit_9 => simp only [List.getElem?_toArray, List.getElem?_cons_succ, List.getElem?_cons_zero]; rfl
        case hQt_9 => exact fun _ _ _ h => h
        case hwt_9 => rfl
        case hyt_9 => intro w hSw; (try dsimp only at hSw); (first | (go_simp; done) | (go_simp; with_reducible rfl))
        try simp only [Act.put, List.setIfInBounds_toArray, List.set_cons_zero, List.set_cons_succ]
        refine wpAnyH_take (i := 10) (oi := ?oit_10) (v := ?vt_10) ?hit_10 (by kernel_rfl) (by kernel_rfl) (by kernel_rfl) ?hQt_10 (Or.inl ⟨?hwt_10, ?hyt_10⟩) (by assumption) ?_
        case hit_10 => simp only [List.getElem?_toArray, List.getElem?_cons_succ, List.getElem?_cons_zero]; rfl
        case hQt_10 => exact fun _ _ _ h => h
        case hwt_10 => rfl
        case hyt_10 => intro w hSw; (try dsimp only at hSw); (first | (go_simp; done) | (go_simp; with_reducible rfl))
        try simp only [Act.put, List.setIfInBounds_toArray, List.set_cons_zero, List.set_cons_succ]
        refine wpAnyH_take (i := 11) (oi := ?oit_11) (v := ?vt_11) ?hit_11 (by kernel_rfl) (by kernel_rfl) (by kernel_rfl) ?hQt_11 (Or.inl ⟨?hwt_11, ?hyt_11⟩) (by assumption) ?_
        case hit_11 => simp only [List.getElem?_toArray, List.getElem?_cons_succ, List.getElem?_cons_zero]; rfl
        case hQt_11 => exact fun _ _ _ h => h
        case hwt_11 => rfl
        case hyt_11 => intro w hSw; (try dsimp only at hSw); (first | (go_simp; done) | (go_simp; with_reducible rfl))
        try simp only [Act.put, List.setIfInBounds_toArray, List.set_cons_zero, List.set_cons_succ]
        refine wpAnyH_take (i := 12) (oi := ?oit_12) (v := ?vt_12) ?hit_12 (by kernel_rfl) (by kernel_rfl) (by kernel_rfl) ?hQt_12 (Or.inl ⟨?hwt_12, ?hyt_12⟩) (by assumption) ?_
        case hit_12 => simp only [List.getElem?_toArray, List.getElem?_cons_succ, List.getElem?_cons_zero]; rfl
        case hQt_12 => exact fun _ _ _ h => h
        case hwt_12 => rfl
        case hyt_12 => intro w hSw; (try dsimp only at hSw); (first | (go_simp; done) | (go_simp; with_reducible rfl))
        try simp only [Act.put, List.setIfInBounds_toArray, List.set_cons_zero, List.set_cons_succ]
        refine wpAnyH_take (i := 13) (oi := ?oit_13) (v := ?vt_13) ?hit_13 (by kernel_rfl) (by kernel_rfl) (by kernel_rfl) ?hQt_13 (Or.inl ⟨?hwt_13, ?hyt_13⟩) (by assumption) ?_
        case hit_13 => simp only [List.getElem?_toArray, List.getElem?_cons_succ, List.getElem?_cons_zero]; rfl
        case hQt_13 => exact fun _ _ _ h => h
        case hwt_13 => rfl
        case hyt_13 => intro w hSw; (try dsimp only at hSw); (first | (go_simp; done) | (go_simp; with_reducible rfl))
        try simp only [Act.put, List.setIfInBounds_toArray, List.set_cons_zero, List.set_cons_succ]
        refine wpAnyH_take (i := 14) (oi := ?oit_14) (v := ?vt_14) ?hit_14 (by kernel_rfl) (by kernel_rfl) (by kernel_rfl) ?hQt_14 (Or.inl ⟨?hwt_14, ?hyt_14⟩) (by assumption) ?_
        case hit_14 => simp only [List.getElem?_toArray, List.getElem?_cons_succ, List.getElem?_cons_zero]; rfl
        case hQt_14 => exact fun _ _ _ h => h
        case hwt_14 => rfl
        case hyt_14 => intro w hSw; (try dsimp only at hSw); (first | (go_simp; done) | (go_simp; with_reducible rfl))
        try simp only [Act.put, List.setIfInBounds_toArray, List.set_cons_zero, List.set_cons_succ]
        refine wpAnyH_ready (rs := [15]) (by kernel_rfl) (by simp) ?_
        refine AllReadyH.cons (o := ?oit_15) ?hit_15 (fun K hK => ?_) AllReadyH.nil
        case hit_15 => simp only [List.getElem?_toArray, List.getElem?_cons_succ, List.getElem?_cons_zero]; rfl
        go_simp
        go_at_call 35
        (with_reducible refine (KR.out _ (HB.trans (BB.mono HB.size))).mono ?_)
        rintro e y2 ⟨rfl, bq⟩
        replace BB : Below w2.heap.size w2 y2 := BB.trans (bq.mono BB.size)
        replace L1 := Nat.lt_of_lt_of_le L1 bq.size
        replace L2 := Nat.lt_of_lt_of_le L2 bq.size
        clear bq
        refine hK.out _ _ ?_ (fun hHeld => ?_)
        · exact HF.out _ BB
        clear hK K
        try simp only [Act.put, List.setIfInBounds_toArray, List.set_cons_zero, List.set_cons_succ]
        refine wpAnyH_take (i := 16) (oi := ?oit_16) (v := ?vt_16) ?hit_16 (by kernel_rfl) (by kernel_rfl) (by kernel_rfl) ?hQt_16 (Or.inl ⟨?hwt_16, ?hyt_16⟩) (by assumption) ?_
        case hit_16 => simp only [List.getElem?_toArray, List.getElem?_cons_succ, List.getElem?_cons_zero]; rfl
        case hQt_16 => exact fun _ _ _ h => h
        case hwt_16 => rfl
        case hyt_16 => intro w hSw; (try dsimp only at hSw); (first | (go_simp; done) | (go_simp; with_reducible rfl))
        try simp only [Act.put, List.setIfInBounds_toArray, List.set_cons_zero, List.set_cons_succ]
        refine wpAnyH_take (i := 17) (oi := ?oit_17) (v := ?vt_17) ?hit_17 (by kernel_rfl) (by kernel_rfl) (by kernel_rfl) ?hQt_17 (Or.inl ⟨?hwt_17, ?hyt_17⟩) (by assumption) ?_
        case hit_17 => simp only [List.getElem?_toArray, List.getElem?_cons_succ, List.getElem?_cons_zero]; rfl
        case hQt_17 => exact fun _ _ _ h => h
        case hwt_17 => rfl
        case hyt_17 => intro w hSw; (try dsimp only at hSw); (first | (go_simp; done) | (go_simp; with_reducible rfl))
        try simp only [Act.put, List.setIfInBounds_toArray, List.set_cons_zero, List.set_cons_succ]
        refine wpAnyH_take (i := 18) (oi := ?oit_18) (v := ?vt_18) ?hit_18 (by kernel_rfl) (by kernel_rfl) (by kernel_rfl) ?hQt_18 (Or.inl ⟨?hwt_18, ?hyt_18⟩) (by assumption) ?_
        case hit_18 => simp only [List.getElem?_toArray, List.getElem?_cons_succ, List.getElem?_cons_zero]; rfl
        case hQt_18 => exact fun _ _ _ h => h
        case hwt_18 => rfl
        case hyt_18 => intro w hSw; (try dsimp only at hSw); (first | (go_simp; done) | (go_simp; with_reducible rfl))
        try simp only [Act.put, List.setIfInBounds_toArray, List.set_cons_zero, List.set_cons_succ]
        refine wpAnyH_take (i := 19) (oi := ?oit_19) (v := ?vt_19) ?hit_19 (by kernel_rfl) (by kernel_rfl) (by kernel_rfl) ?hQt_19 (Or.inl ⟨?hwt_19, ?hyt_19⟩) (by assumption) ?_
        case hit_19 => simp only [List.getElem?_toArray, List.getElem?_cons_succ, List.getElem?_cons_zero]; rfl
        case hQt_19 => exact fun _ _ _ h => h
        case hwt_19 => rfl
        case hyt_19 => intro w hSw; (try dsimp only at hSw); (first | (go_simp; done) | (go_simp; with_reducible rfl))
        try simp only [Act.put, List.setIfInBounds_toArray, List.set_cons_zero, List.set_cons_succ]
        refine wpAnyH_take (i := 20) (oi := ?oit_20) (v := ?vt_20) ?hit_20 (by kernel_rfl) (by kernel_rfl) (by kernel_rfl) ?hQt_20 (Or.inl ⟨?hwt_20, ?hyt_20⟩) (by assumption) ?_
        case hit_20 => simp only [List.getElem?_toArray, List.getElem?_cons_succ, List.getElem?_cons_zero]; rfl
        case hQt_20 => exact fun _ _ _ h => h
        case hwt_20 => rfl
        case hyt_20 => intro w hSw; (try dsimp only at hSw); (first | (go_simp; done) | (go_simp; with_reducible rfl))
        try simp only [Act.put, List.setIfInBounds_toArray, List.set_cons_zero, List.set_cons_succ]
        refine wpAnyH_take (i := 21) (oi := ?oit_21) (v := ?vt_21) ?hit_21 (by kernel_rfl) (by kernel_rfl) (by kernel_rfl) ?hQt_21 (Or.inl ⟨?hwt_21, ?hyt_21⟩) (by assumption) ?_
        case hit_21 => simp only [List.getElem?_toArray, List.getElem?_cons_succ, List.getElem?_cons_zero]; rfl
        case hQt_21 => exact fun _ _ _ h => h
        case hwt_21 => rfl
        case hyt_21 => intro w hSw; (try dsimp only at hSw); (first | (go_simp; done) | (go_simp; with_reducible rfl))
        try simp only [Act.put, List.setIfInBounds_toArray, List.set_cons_zero, List.set_cons_succ]
        refine wpAnyH_take (i := 22) (oi := ?oit_22) (v := ?vt_22) ?hit_22 (by kernel_rfl) (by kernel_rfl) (by kernel_rfl) ?hQt_22 (Or.inl ⟨?hwt_22, ?hyt_22⟩) (by assumption) ?_
        case hit_22 => simp only [List.getElem?_toArray, List.getElem?_cons_succ, List.getElem?_cons_zero]; rfl
        case hQt_22 => exact fun _ _ _ h => h
        case hwt_22 => rfl
        case hyt_22 => intro w hSw; (try dsimp only at hSw); (first | (go_simp; done) | (go_simp; with_reducible rfl))
        try simp only [Act.put, List.setIfInBounds_toArray, List.set_cons_zero, List.set_cons_succ]
        refine wpAnyH_take (i := 25) (oi := ?oit_25) (v := ?vt_25) ?hit_25 (by kernel_rfl) (by kernel_rfl) (by kernel_rfl) ?hQt_25 (Or.inl ⟨?hwt_25, ?hyt_25⟩) (by assumption) ?_
        case hit_25 => simp only [List.getElem?_toArray, List.getElem?_cons_succ, List.getElem?_cons_zero]; rfl
        case hQt_25 => exact fun _ _ _ h => h
        case hwt_25 => rfl
        case hyt_25 => intro w hSw; (try dsimp only at hSw); (first | (go_simp; done) | (go_simp; with_reducible rfl))
        try simp only [Act.put, List.setIfInBounds_toArray, List.set_cons_zero, List.set_cons_succ]
        refine wpAnyH_take (i := 26) (oi := ?oit_26) (v := ?vt_26) ?hit_26 (by kernel_rfl) (by kernel_rfl) (by kernel_rfl) ?hQt_26 (Or.inl ⟨?hwt_26, ?hyt_26⟩) (by assumption) ?_
        case hit_26 => simp only [List.getElem?_toArray, List.getElem?_cons_succ, List.getElem?_cons_zero]; rfl
        case hQt_26 => exact fun _ _ _ h => h
        case hwt_26 => rfl
        case hyt_26 => intro w hSw; (try dsimp only at hSw); (first | (go_simp; done) | (go_simp; with_reducible rfl))
        try simp only [Act.put, List.setIfInBounds_toArray, List.set_cons_zero, List.set_cons_succ]
        refine wpAnyH_take (i := 27) (oi := ?oit_27) (v := ?vt_27) ?hit_27 (by kernel_rfl) (by kernel_rfl) (by kernel_rfl) ?hQt_27 (Or.inl ⟨?hwt_27, ?hyt_27⟩) (by assumption) ?_
        case hit_27 => simp only [List.getElem?_toArray, List.getElem?_cons_succ, List.getElem?_cons_zero]; rfl
        case hQt_27 => exact fun _ _ _ h => h
        case hwt_27 => rfl
        case hyt_27 => intro w hSw; (try dsimp only at hSw); (first | (go_simp; done) | (go_simp; with_reducible rfl))
        try simp only [Act.put, List.setIfInBounds_toArray, List.set_cons_zero, List.set_cons_succ]
        refine wpAnyH_take (i := 28) (oi := ?oit_28) (v := ?vt_28) ?hit_28 (by kernel_rfl) (by kernel_rfl) (by kernel_rfl) ?hQt_28 (Or.inl ⟨?hwt_28, ?hyt_28⟩) (by assumption) ?_
        case hit_28 => simp only [List.getElem?_toArray, List.getElem?_cons_succ, List.getElem?_cons_zero]; rfl
        case hQt_28 => exact fun _ _ _ h => h
        case hwt_28 => rfl
        case hyt_28 => intro w hSw; (try dsimp only at hSw); (first | (go_simp; done) | (go_simp; with_reducible rfl))
        try simp only [Act.put, List.setIfInBounds_toArray, List.set_cons_zero, List.set_cons_succ]
        refine wpAnyH_take (i := 29) (oi := ?oit_29) (v := ?vt_29) ?hit_29 (by kernel_rfl) (by kernel_rfl) (by kernel_rfl) ?hQt_29 (Or.inl ⟨?hwt_29, ?hyt_29⟩) (by assumption) ?_
        case hit_29 => simp only [List.getElem?_toArray, List.getElem?_cons_succ, List.getElem?_cons_zero]; rfl
        case hQt_29 => exact fun _ _ _ h => h
        case hwt_29 => rfl
        case hyt_29 => intro w hSw; (try dsimp only at hSw); (first | (go_simp; done) | (go_simp; with_reducible rfl))
        try simp only [Act.put, List.setIfInBounds_toArray, List.set_cons_zero, List.set_cons_succ]
        refine wpAnyH_take (i := 30) (oi := ?oit_30) (v := ?vt_30) ?hit_30 (by kernel_rfl) (by kernel_rfl) (by kernel_rfl) ?hQt_30 (Or.inl ⟨?hwt_30, ?hyt_30⟩) (by assumption) ?_
        case hit_30 => simp only [List.getElem?_toArray, List.getElem?_cons_succ, List.getElem?_cons_zero]; rfl
        case hQt_30 => exact fun _ _ _ h => h
        case hwt_30 => rfl
        case hyt_30 => intro w hSw; (try dsimp only at hSw); (first | (go_simp; done) | (go_simp; with_reducible rfl))
        try simp only [Act.put, List.setIfInBounds_toArray, List.set_cons_zero, List.set_cons_succ]
        refine wpAnyH_take (i := 32) (oi := ?oit_32) (v := ?vt_32) ?hit_32 (by kernel_rfl) (by kernel_rfl) (by kernel_rfl) ?hQt_32 (Or.inl ⟨?hwt_32, ?hyt_32⟩) (by assumption) ?_
        case hit_32 => simp only [List.getElem?_toArray, List.getElem?_cons_succ, List.getElem?_cons_zero]; rfl
        case hQt_32 => exact fun _ _ _ h => h
        case hwt_32 => rfl
        case hyt_32 => intro w hSw; (try dsimp only at hSw); (first | (go_simp; done) | (go_simp; with_reducible rfl))
        try simp only [Act.put, List.setIfInBounds_toArray, List.set_cons_zero, List.set_cons_succ]
        refine wpAnyH_take (i := 33) (oi := ?oit_33) (v := ?vt_33) ?hit_33 (by kernel_rfl) (by kernel_rfl) (by kernel_rfl) ?hQt_33 (Or.inl ⟨?hwt_33, ?hyt_33⟩) (by assumption) ?_
        case hit_33 => simp only [List.getElem?_toArray, List.getElem?_cons_succ, List.getElem?_cons_zero]; rfl
        case hQt_33 => exact fun _ _ _ h => h
        case hwt_33 => rfl
        case hyt_33 => intro w hSw; (try dsimp only at hSw); (first | (go_simp; done) | (go_simp; with_reducible rfl))
        try simp only [Act.put, List.setIfInBounds_toArray, List.set_cons_zero, List.set_cons_succ]
        refine wpAnyH_ready (rs := [23]) (by kernel_rfl) (by simp) ?_
        refine AllReadyH.cons (o := ?oit_23) ?hit_23 (fun K hK => ?_) AllReadyH.nil
        case hit_23 => simp only [List.getElem?_toArray, List.getElem?_cons_succ, List.getElem?_cons_zero]; rfl
        go_simp
        go_at_call 21
        (with_reducible refine (KP.out _).mono ?_)
        rintro e y3 ⟨rfl, bq⟩
        replace BB : Below w2.heap.size w2 y3 := BB.trans (bq.mono BB.size)
        replace L1 := Nat.lt_of_lt_of_le L1 bq.size
        replace L2 := Nat.lt_of_lt_of_le L2 bq.size
        clear bq
        refine hK.out _ _ ?_ (fun hHeld => ?_)
        · exact HF.out _ BB
        clear hK K
        try simp only [Act.put, List.setIfInBounds_toArray, List.set_cons_zero, List.set_cons_succ]
        refine wpAnyH_ready (rs := [24]) (by kernel_rfl) (by simp) ?_
        refine AllReadyH.cons (o := ?oit_24) ?hit_24 (fun K hK => ?_) AllReadyH.nil
        case hit_24 => simp only [List.getElem?_toArray, List.getElem?_cons_succ, List.getElem?_cons_zero]; rfl
        go_simp
        go_at_call 42
        (with_reducible refine (specPubG _ _).mono ?_)
        rintro e y4 ⟨rfl, bq⟩
        replace BB : Below w2.heap.size w2 y4 := BB.trans (bq.mono BB.size)
        replace L1 := Nat.lt_of_lt_of_le L1 bq.size
        replace L2 := Nat.lt_of_lt_of_le L2 bq.size
        clear bq
        refine hK.out _ _ ?_ (fun hHeld => ?_)
        · exact HF.out _ BB
        clear hK K
        try simp only [Act.put, List.setIfInBounds_toArray, List.set_cons_zero, List.set_cons_succ]
        refine wpAnyH_ready (rs := [31]) (by kernel_rfl) (by simp) ?_
        refine AllReadyH.cons (o := ?oit_31) ?hit_31 (fun K hK => ?_) AllReadyH.nil
        case hit_31 => simp only [List.getElem?_toArray, List.getElem?_cons_succ, List.getElem?_cons_zero]; rfl
        go_simp
        go_at_call 64
        (with_reducible refine (KA.out _).mono ?_)
        rintro e y5 ⟨A9, c9, rfl, o9, bq⟩
        replace BB : Below w2.heap.size w2 y5 := BB.trans (bq.mono BB.size)
        replace L1 := Nat.lt_of_lt_of_le L1 bq.size
        replace L2 := Nat.lt_of_lt_of_le L2 bq.size
        clear bq
        refine hK.out _ _ ?_ (fun hHeld => ?_)
        · exact HF.out _ BB
        clear hK K
        try simp only [Act.put, List.setIfInBounds_toArray, List.set_cons_zero, List.set_cons_succ]
        refine wpAnyH_ready (rs := [34]) (by kernel_rfl) (by simp) ?_
        refine AllReadyH.cons (o := ?oit_34) ?hit_34 (fun K hK => ?_) AllReadyH.nil
        case hit_34 => simp only [List.getElem?_toArray, List.getElem?_cons_succ, List.getElem?_cons_zero]; rfl
        go_simp
        go_at_call 40
        (with_reducible refine (specVsg _ A9 4 c9 (amsg a.Vendor a.Serial a.Key) _ _ (Rd.own o9) (amsg_ok HA.out.Vendor HA.out.Serial HA.out.Key) (by omega)).mono ?_)
        rintro e y6 ⟨rfl, bq⟩
        rw [← HV.out]
        replace BB : Below w2.heap.size w2 y6 := BB.trans (bq.mono BB.size)
        replace L1 := Nat.lt_of_lt_of_le L1 bq.size
        replace L2 := Nat.lt_of_lt_of_le L2 bq.size
        clear bq
        refine hK.out _ _ ?_ (fun hHeld => ?_)
        · exact HF.out _ BB
        clear hK K
        try simp only [Act.put, List.setIfInBounds_toArray, List.set_cons_zero, List.set_cons_succ]
        refine wpAnyH_take (i := 35) (oi := ?oit_35) (v := ?vt_35) ?hit_35 (by kernel_rfl) (by kernel_rfl) (by kernel_rfl) ?hQt_35 (Or.inl ⟨?hwt_35, ?hyt_35⟩) (by assumption) ?_
        case hit_35 => simp only [List.getElem?_toArray, List.getElem?_cons_succ, List.getElem?_cons_zero]; rfl
        case hQt_35 => exact fun _ _ _ h => h
        case hwt_35 => rfl
        case hyt_35 => intro w hSw; (try dsimp only at hSw); (first | (go_simp; done) | (go_simp; with_reducible rfl))
        try simp only [Act.put, List.setIfInBounds_toArray, List.set_cons_zero, List.set_cons_succ]
        refine wpAnyH_take (i := 36) (oi := ?oit_36) (v := ?vt_36) ?hit_36 (by kernel_rfl) (by kernel_rfl) (by kernel_rfl) ?hQt_36 (Or.inl ⟨?hwt_36, ?hyt_36⟩) (by assumption) ?_
        case hit_36 => simp only [List.getElem?_toArray, List.getElem?_cons_succ, List.getElem?_cons_zero]; rfl
        case hQt_36 => exact fun _ _ _ h => h
        case hwt_36 => rfl
        case hyt_36 => intro w hSw; (try dsimp only at hSw); (first | (go_simp; done) | (go_simp; with_reducible rfl))
        try simp only [Act.put, List.setIfInBounds_toArray, List.set_cons_zero, List.set_cons_succ]
        refine wpAnyH_done (by kernel_rfl) ?_ _
        go_wp2
        go_ret
        exact ⟨rfl, HB.trans (BB.mono HB.size)⟩
theorem made_at {w wf : World} (y : Fx.Attestation) (b : Bool) (HB : Below w.heap.size w wf) : MadeLx y.dcs (fun vs => .tuple #[.agg vs.toArray, .bool b]) w (.returned (.tuple #[.agg #[.int .i64 y.Vendor, .int .i64 y.Serial, .int .i64 y.Key, .int .i64 y.Signature], .bool b])) wf :=
  ⟨_, [], rfl, Attestation.mkO, by simp, HB⟩
set_option maxHeartbeats 8000000 in
theorem specAtt (w : World) (m : Int) (x : Fx.KeyStore) (us : List Value) (h : RdsL w w.heap.size x.dcs us) (hx : x.ok) (m0 : -9223372036854775808 ≤ m) (m1 : m ≤ 9223372036854775807) :
    Calls Try.prog 23 #[.int .i64 m, .agg us.toArray] w (MadeLx (attX m x).dcs (fun vs => .tuple #[.agg vs.toArray, .bool (vst x)]) w) := by
  obtain rfl := KeyStore.rds h
  clear h
  have HX := Lib.hid hx
  clear hx
  cases hv : vst x with
  | false =>
    have HV := Lib.hid (fun wx : World => show Calls Try.prog 38 #[.agg #[.int .i64 x.Vendor, .int .i64 x.Serial, .int .i64 x.Seed, .int .i64 x.Counter]] wx (Gives (.bool false) wx) from by have h := specVst wx x _ (st_rds wx _ x); rw [hv] at h; exact h)
    have e1 : attX m x = ⟨0, 0, 0, 0⟩ := by unfold attX; rw [hv]; rfl
    rw [e1]
    clear e1 hv
    go_enter Try.func23, Try.ntmps23
    obtain ⟨w1, hw1⟩ : ∃ y, y = w.alloc (.cells #[.int .i64 x.Vendor, .int .i64 x.Serial, .int .i64 x.Seed, .int .i64 x.Counter] 29) := ⟨_, rfl⟩
    have o_s := var_owns w 29 4 [.int .i64 x.Vendor, .int .i64 x.Serial, .int .i64 x.Seed, .int .i64 x.Counter] rfl
    have bw1 : Below w.heap.size w w1 := hw1 ▸ (Below.refl _ _).alloc (Nat.le_refl _) _
    rw [← hw1] at o_s
    have sw1 : w1.heap.size = w.heap.size + 1 := by rw [hw1]; simp
    have zw1 : w.heap.size < w1.heap.size := by rw [hw1]; simp
    have HB := bw1
    obtain ⟨w2, hw2⟩ : ∃ y, y = w1.alloc (.cells #[.int .i64 0, .int .i64 0, .int .i64 0, .int .i64 0] 31) := ⟨_, rfl⟩
    have o_r := var_owns w1 31 4 [.int .i64 0, .int .i64 0, .int .i64 0, .int .i64 0] rfl
    have bw2 : Below w1.heap.size w1 w2 := hw2 ▸ (Below.refl _ _).alloc (Nat.le_refl _) _
    rw [← hw2] at o_r
    rw [sw1] at o_r
    have sw2 : w2.heap.size = w.heap.size + 1 + 1 := by rw [hw2]; simp [sw1]
    have zw2 : w1.heap.size < w2.heap.size := by rw [hw2]; simp
    replace o_s := owns_below o_s bw2
    replace HB := HB.trans (bw2.mono HB.size)
    go_wp2_with fail
    rw [← hw1, ← hw2]
    clear hw1 hw2 sw1 sw2
    (refine (HV.out _).mono ?_); rintro e w3 ⟨rfl, bw3⟩
    replace o_s := owns_below o_s bw3
    replace o_r := owns_below o_r bw3
    replace HB := HB.trans (bw3.mono HB.size)
    have zw3 := bw3.size
    have c_s0 : w3.cell? ⟨w.heap.size, 0, none⟩ = some (.int .i64 x.Vendor) := var_load o_s (by simp) 0 _ rfl
    have f_s0 : w3.frozen? ⟨w.heap.size, 0, none⟩ = false := var_frozen o_s (by simp) 0 _ rfl
    have c_s1 : w3.cell? ⟨w.heap.size, 1, none⟩ = some (.int .i64 x.Serial) := var_load o_s (by simp) 1 _ rfl
    have f_s1 : w3.frozen? ⟨w.heap.size, 1, none⟩ = false := var_frozen o_s (by simp) 1 _ rfl
    have c_s2 : w3.cell? ⟨w.heap.size, 2, none⟩ = some (.int .i64 x.Seed) := var_load o_s (by simp) 2 _ rfl
    have f_s2 : w3.frozen? ⟨w.heap.size, 2, none⟩ = false := var_frozen o_s (by simp) 2 _ rfl
    have c_s3 : w3.cell? ⟨w.heap.size, 3, none⟩ = some (.int .i64 x.Counter) := var_load o_s (by simp) 3 _ rfl
    have f_s3 : w3.frozen? ⟨w.heap.size, 3, none⟩ = false := var_frozen o_s (by simp) 3 _ rfl
    have l_s := var_lt o_s
    have c_r0 : w3.cell? ⟨(w.heap.size + 1), 0, none⟩ = some (.int .i64 0) := var_load o_r (by simp) 0 _ rfl
    have f_r0 : w3.frozen? ⟨(w.heap.size + 1), 0, none⟩ = false := var_frozen o_r (by simp) 0 _ rfl
    have c_r1 : w3.cell? ⟨(w.heap.size + 1), 1, none⟩ = some (.int .i64 0) := var_load o_r (by simp) 1 _ rfl
    have f_r1 : w3.frozen? ⟨(w.heap.size + 1), 1, none⟩ = false := var_frozen o_r (by simp) 1 _ rfl
    have c_r2 : w3.cell? ⟨(w.heap.size + 1), 2, none⟩ = some (.int .i64 0) := var_load o_r (by simp) 2 _ rfl
    have f_r2 : w3.frozen? ⟨(w.heap.size + 1), 2, none⟩ = false := var_frozen o_r (by simp) 2 _ rfl
    have c_r3 : w3.cell? ⟨(w.heap.size + 1), 3, none⟩ = some (.int .i64 0) := var_load o_r (by simp) 3 _ rfl
    have f_r3 : w3.frozen? ⟨(w.heap.size + 1), 3, none⟩ = false := var_frozen o_r (by simp) 3 _ rfl
    have l_r := var_lt o_r
    go_wp2
    clear c_s0 f_s0 c_s1 f_s1 c_s2 f_s2 c_s3 f_s3 l_s c_r0 f_r0 c_r1 f_r1 c_r2 f_r2 c_r3 f_r3 l_r
    obtain ⟨w4, hw4⟩ : ∃ y, y = ((((w3.setCell ⟨(w.heap.size + 1), 0, none⟩ (.int .i64 0)).setCell ⟨(w.heap.size + 1), 1, none⟩ (.int .i64 0)).setCell ⟨(w.heap.size + 1), 2, none⟩ (.int .i64 0)).setCell ⟨(w.heap.size + 1), 3, none⟩ (.int .i64 0)) := ⟨_, rfl⟩
    obtain ⟨o_new, tw4⟩ := var_some [.int .i64 0, .int .i64 0, .int .i64 0, .int .i64 0] 0 _ _ o_r (by simp)
    rw [show setAll w3 ((w.heap.size + 1)) 0 [.int .i64 0, .int .i64 0, .int .i64 0, .int .i64 0] = w4 from hw4.symm] at o_new tw4
    replace o_r : Owns w4 _ (varD 31 4 [.int .i64 0, .int .i64 0, .int .i64 0, .int .i64 0]) _ _ := o_new
    clear o_new
    replace o_s := owns_turned o_s tw4 (fun b hb hb2 => by simp at hb hb2; omega)
    replace HB := below_turned HB tw4 (fun b hb => by simp at hb; omega)
    have zw4 := tw4.2.2.2.1
    rw [← hw4]
    clear hw4
    have y0 : w4.cell? ⟨(w.heap.size + 1), 0, none⟩ = some (.int .i64 0) := var_load o_r (by simp) 0 _ rfl
    have y1 : w4.cell? ⟨(w.heap.size + 1), 1, none⟩ = some (.int .i64 0) := var_load o_r (by simp) 1 _ rfl
    have y2 : w4.cell? ⟨(w.heap.size + 1), 2, none⟩ = some (.int .i64 0) := var_load o_r (by simp) 2 _ rfl
    have y3 : w4.cell? ⟨(w.heap.size + 1), 3, none⟩ = some (.int .i64 0) := var_load o_r (by simp) 3 _ rfl
    refine bodyPost_ret (v := .tuple #[.agg #[.int .i64 0, .int .i64 0, .int .i64 0, .int .i64 0], .bool false]) (by simp [results, Try.results23, go_sem, y0, y1, y2, y3]) rfl ?_
    exact made_at ⟨0, 0, 0, 0⟩ false HB
  | true =>
    have HV := Lib.hid (fun wx : World => show Calls Try.prog 38 #[.agg #[.int .i64 x.Vendor, .int .i64 x.Serial, .int .i64 x.Seed, .int .i64 x.Counter]] wx (Gives (.bool true) wx) from by have h := specVst wx x _ (st_rds wx _ x); rw [hv] at h; exact h)
    obtain ⟨D, hD⟩ : ∃ D, D = pub (devP x) := ⟨_, rfl⟩
    obtain ⟨sg, hsg⟩ : ∃ sg, sg = sgn (vpr m x.Vendor) (amsg x.Vendor x.Serial D) := ⟨_, rfl⟩
    have e1 : attX m x = ⟨x.Vendor, x.Serial, D, sg⟩ := by unfold attX; rw [hv, hsg, hD]; rfl
    rw [e1]
    clear e1 hv
    have hDr : -9223372036854775808 ≤ D ∧ D ≤ 9223372036854775807 := by have := pub_in (devP x); omega
    have KD := Lib.hid (fun wx : World => show Calls Try.prog 16 #[.agg #[.int .i64 x.Vendor, .int .i64 x.Serial, .int .i64 x.Seed, .int .i64 x.Counter]] wx (Gives (.int .i64 D) wx) from by rw [hD]; exact specDevPub wx x _ (st_rds wx _ x) HX.out)
    have KP := Lib.hid (fun wx : World => specVpr wx m x.Vendor m0 m1 HX.out.Vendor.1 HX.out.Vendor.2)
    have KA := Lib.hid (fun wx : World => specAmsg wx x.Vendor x.Serial D)
    have HO := Lib.hid (show okInts (amsg x.Vendor x.Serial D) from amsg_ok HX.out.Vendor HX.out.Serial hDr)
    have HS := Lib.hid hsg
    clear hD hsg
    go_enter Try.func23, Try.ntmps23
    obtain ⟨w1, hw1⟩ : ∃ y, y = w.alloc (.cells #[.int .i64 x.Vendor, .int .i64 x.Serial, .int .i64 x.Seed, .int .i64 x.Counter] 29) := ⟨_, rfl⟩
    have o_s := var_owns w 29 4 [.int .i64 x.Vendor, .int .i64 x.Serial, .int .i64 x.Seed, .int .i64 x.Counter] rfl
    have bw1 : Below w.heap.size w w1 := hw1 ▸ (Below.refl _ _).alloc (Nat.le_refl _) _
    rw [← hw1] at o_s
    have sw1 : w1.heap.size = w.heap.size + 1 := by rw [hw1]; simp
    have zw1 : w.heap.size < w1.heap.size := by rw [hw1]; simp
    have HB := bw1
    obtain ⟨w2, hw2⟩ : ∃ y, y = w1.alloc (.cells #[.int .i64 0, .int .i64 0, .int .i64 0, .int .i64 0] 31) := ⟨_, rfl⟩
    have o_r := var_owns w1 31 4 [.int .i64 0, .int .i64 0, .int .i64 0, .int .i64 0] rfl
    have bw2 : Below w1.heap.size w1 w2 := hw2 ▸ (Below.refl _ _).alloc (Nat.le_refl _) _
    rw [← hw2] at o_r
    rw [sw1] at o_r
    have sw2 : w2.heap.size = w.heap.size + 1 + 1 := by rw [hw2]; simp [sw1]
    have zw2 : w1.heap.size < w2.heap.size := by rw [hw2]; simp
    replace o_s := owns_below o_s bw2
    replace HB := HB.trans (bw2.mono HB.size)
    go_wp2_with fail
    rw [← hw1, ← hw2]
    clear hw1 hw2 sw1 sw2
    (refine (HV.out _).mono ?_); rintro e w3 ⟨rfl, bw3⟩
    replace o_s := owns_below o_s bw3
    replace o_r := owns_below o_r bw3
    replace HB := HB.trans (bw3.mono HB.size)
    have zw3 := bw3.size
    have c_s0 : w3.cell? ⟨w.heap.size, 0, none⟩ = some (.int .i64 x.Vendor) := var_load o_s (by simp) 0 _ rfl
    have f_s0 : w3.frozen? ⟨w.heap.size, 0, none⟩ = false := var_frozen o_s (by simp) 0 _ rfl
    have c_s1 : w3.cell? ⟨w.heap.size, 1, none⟩ = some (.int .i64 x.Serial) := var_load o_s (by simp) 1 _ rfl
    have f_s1 : w3.frozen? ⟨w.heap.size, 1, none⟩ = false := var_frozen o_s (by simp) 1 _ rfl
    have c_s2 : w3.cell? ⟨w.heap.size, 2, none⟩ = some (.int .i64 x.Seed) := var_load o_s (by simp) 2 _ rfl
    have f_s2 : w3.frozen? ⟨w.heap.size, 2, none⟩ = false := var_frozen o_s (by simp) 2 _ rfl
    have c_s3 : w3.cell? ⟨w.heap.size, 3, none⟩ = some (.int .i64 x.Counter) := var_load o_s (by simp) 3 _ rfl
    have f_s3 : w3.frozen? ⟨w.heap.size, 3, none⟩ = false := var_frozen o_s (by simp) 3 _ rfl
    have l_s := var_lt o_s
    have c_r0 : w3.cell? ⟨(w.heap.size + 1), 0, none⟩ = some (.int .i64 0) := var_load o_r (by simp) 0 _ rfl
    have f_r0 : w3.frozen? ⟨(w.heap.size + 1), 0, none⟩ = false := var_frozen o_r (by simp) 0 _ rfl
    have c_r1 : w3.cell? ⟨(w.heap.size + 1), 1, none⟩ = some (.int .i64 0) := var_load o_r (by simp) 1 _ rfl
    have f_r1 : w3.frozen? ⟨(w.heap.size + 1), 1, none⟩ = false := var_frozen o_r (by simp) 1 _ rfl
    have c_r2 : w3.cell? ⟨(w.heap.size + 1), 2, none⟩ = some (.int .i64 0) := var_load o_r (by simp) 2 _ rfl
    have f_r2 : w3.frozen? ⟨(w.heap.size + 1), 2, none⟩ = false := var_frozen o_r (by simp) 2 _ rfl
    have c_r3 : w3.cell? ⟨(w.heap.size + 1), 3, none⟩ = some (.int .i64 0) := var_load o_r (by simp) 3 _ rfl
    have f_r3 : w3.frozen? ⟨(w.heap.size + 1), 3, none⟩ = false := var_frozen o_r (by simp) 3 _ rfl
    have l_r := var_lt o_r
    go_wp2_with fail
    clear c_s0 f_s0 c_s1 f_s1 c_s2 f_s2 c_s3 f_s3 l_s c_r0 f_r0 c_r1 f_r1 c_r2 f_r2 c_r3 f_r3 l_r
    obtain ⟨w4, hw4⟩ : ∃ y, y = w3.drew := ⟨_, rfl⟩
    have bw4 : Below w3.heap.size w3 w4 := hw4 ▸ drewN_below w3 1 _
    replace o_s := owns_below o_s bw4
    replace o_r := owns_below o_r bw4
    replace HB := HB.trans (bw4.mono HB.size)
    have zw4 := bw4.size
    refine wp_region_held_drew (S := (fun wx => wx.cell? ⟨w.heap.size, 0, none⟩ = some (.int .i64 x.Vendor) ∧ wx.cell? ⟨w.heap.size, 1, none⟩ = some (.int .i64 x.Serial) ∧ wx.cell? ⟨w.heap.size, 2, none⟩ = some (.int .i64 x.Seed) ∧ wx.cell? ⟨w.heap.size, 3, none⟩ = some (.int .i64 x.Counter))) (by kernel_rfl) ?_ (fun hHeld => ?_)
    · rw [← hw4]; exact ⟨var_load o_s (by simp) 0 _ rfl, var_load o_s (by simp) 1 _ rfl, var_load o_s (by simp) 2 _ rfl, var_load o_s (by simp) 3 _ rfl⟩
    rw [← hw4] at hHeld ⊢
    clear hw4
    refine wpAnyH_take (i := 0) (oi := ?oiu_0_1) (v := ?vu_0_1) ?hiu_0_1 (by kernel_rfl) (by kernel_rfl) (by kernel_rfl) ?hQu_0_1 (Or.inl ⟨?hwu_0_1, ?hyu_0_1⟩) (by assumption) ?_
    case hiu_0_1 => simp only [List.getElem?_toArray, List.getElem?_cons_zero]; rfl
    case hQu_0_1 => exact fun _ _ _ h => h
    case hwu_0_1 => rfl
    case hyu_0_1 => intro w hSw; (try dsimp only at hSw); (first | (go_simp; done) | (go_simp; with_reducible rfl))
    try simp only [Act.put, List.setIfInBounds_toArray, List.set_cons_zero, List.set_cons_succ]
    refine wpAnyH_take (i := 1) (oi := ?oiu_1_2) (v := ?vu_1_2) ?hiu_1_2 (by kernel_rfl) (by kernel_rfl) (by kernel_rfl) ?hQu_1_2 (Or.inl ⟨?hwu_1_2, ?hyu_1_2⟩) (by assumption) ?_
    case hiu_1_2 => simp only [List.getElem?_toArray, List.getElem?_cons_succ, List.getElem?_cons_zero]; rfl
    case hQu_1_2 => exact fun _ _ _ h => h
    case hwu_1_2 => rfl
    case hyu_1_2 => intro w hSw; (try dsimp only at hSw); (first | (go_simp; done) | (go_simp; with_reducible rfl))
    try simp only [Act.put, List.setIfInBounds_toArray, List.set_cons_zero, List.set_cons_succ]
    refine wpAnyH_take (i := 2) (oi := ?oiu_2_3) (v := ?vu_2_3) ?hiu_2_3 (by kernel_rfl) (by kernel_rfl) (by kernel_rfl) ?hQu_2_3 (Or.inl ⟨?hwu_2_3, ?hyu_2_3⟩) (by assumption) ?_
    case hiu_2_3 => simp only [List.getElem?_toArray, List.getElem?_cons_succ, List.getElem?_cons_zero]; rfl
    case hQu_2_3 => exact fun _ _ _ h => h
    case hwu_2_3 => rfl
    case hyu_2_3 => intro w hSw; (try dsimp only at hSw); (first | (go_simp; done) | (go_simp; with_reducible rfl))
    try simp only [Act.put, List.setIfInBounds_toArray, List.set_cons_zero, List.set_cons_succ]
    refine wpAnyH_take (i := 3) (oi := ?oiu_3_4) (v := ?vu_3_4) ?hiu_3_4 (by kernel_rfl) (by kernel_rfl) (by kernel_rfl) ?hQu_3_4 (Or.inl ⟨?hwu_3_4, ?hyu_3_4⟩) (by assumption) ?_
    case hiu_3_4 => simp only [List.getElem?_toArray, List.getElem?_cons_succ, List.getElem?_cons_zero]; rfl
    case hQu_3_4 => exact fun _ _ _ h => h
    case hwu_3_4 => rfl
    case hyu_3_4 => intro w hSw; (try dsimp only at hSw); (first | (go_simp; done) | (go_simp; with_reducible rfl))
    try simp only [Act.put, List.setIfInBounds_toArray, List.set_cons_zero, List.set_cons_succ]
    refine wpAnyH_take (i := 4) (oi := ?oiu_4_5) (v := ?vu_4_5) ?hiu_4_5 (by kernel_rfl) (by kernel_rfl) (by kernel_rfl) ?hQu_4_5 (Or.inl ⟨?hwu_4_5, ?hyu_4_5⟩) (by assumption) ?_
    case hiu_4_5 => simp only [List.getElem?_toArray, List.getElem?_cons_succ, List.getElem?_cons_zero]; rfl
    case hQu_4_5 => exact fun _ _ _ h => h
    case hwu_4_5 => rfl
    case hyu_4_5 => intro w hSw; (try dsimp only at hSw); (first | (go_simp; done) | (go_simp; with_reducible rfl))
    try simp only [Act.put, List.setIfInBounds_toArray, List.set_cons_zero, List.set_cons_succ]
    refine wpAnyH_ready (rs := [5, 7]) (by kernel_rfl) (by simp) ?_
    refine AllReadyH.cons (o := ?ou_5_6) ?hiu_5_6 (fun K hK => ?gu_5_6) (AllReadyH.cons (o := ?ou_7_6) ?hiu_7_6 (fun K hK => ?gu_7_6) AllReadyH.nil)
    case hiu_5_6 => simp only [List.getElem?_toArray, List.getElem?_cons_succ, List.getElem?_cons_zero]; rfl
    case hiu_7_6 => simp only [List.getElem?_toArray, List.getElem?_cons_succ, List.getElem?_cons_zero]; rfl
    case gu_5_6 =>
      go_simp
      go_at_call 16
      (with_reducible refine (KD.out _).mono ?_); rintro e w5 ⟨rfl, bw5⟩
      replace o_s := owns_below o_s bw5
      replace o_r := owns_below o_r bw5
      replace HB := HB.trans (bw5.mono HB.size)
      have zw5 := bw5.size
      refine hK.out _ _ ?_ (fun hHeld => ?_)
      · exact ⟨var_load o_s (by simp) 0 _ rfl, var_load o_s (by simp) 1 _ rfl, var_load o_s (by simp) 2 _ rfl, var_load o_s (by simp) 3 _ rfl⟩
      clear hK K
      try simp only [Act.put, List.setIfInBounds_toArray, List.set_cons_zero, List.set_cons_succ]
      refine wpAnyH_take (i := 6) (oi := ?oiu_6_7) (v := ?vu_6_7) ?hiu_6_7 (by kernel_rfl) (by kernel_rfl) (by kernel_rfl) ?hQu_6_7 (Or.inl ⟨?hwu_6_7, ?hyu_6_7⟩) (by assumption) ?_
      case hiu_6_7 => simp only [List.getElem?_toArray, List.getElem?_cons_succ, List.getElem?_cons_zero]; rfl
      case hQu_6_7 => exact fun _ _ _ h => h
      case hwu_6_7 => rfl
      case hyu_6_7 => intro w hSw; (try dsimp only at hSw); (first | (go_simp; done) | (go_simp; with_reducible rfl))
      try simp only [Act.put, List.setIfInBounds_toArray, List.set_cons_zero, List.set_cons_succ]
      refine wpAnyH_ready (rs := [7]) (by kernel_rfl) (by simp) ?_
      refine AllReadyH.cons (o := ?ou_7_8) ?hiu_7_8 (fun K hK => ?gu_7_8) AllReadyH.nil
      case hiu_7_8 => simp only [List.getElem?_toArray, List.getElem?_cons_succ, List.getElem?_cons_zero]; rfl
      case gu_7_8 =>
        have c_s0 : w5.cell? ⟨w.heap.size, 0, none⟩ = some (.int .i64 x.Vendor) := var_load o_s (by simp) 0 _ rfl
        have f_s0 : w5.frozen? ⟨w.heap.size, 0, none⟩ = false := var_frozen o_s (by simp) 0 _ rfl
        have c_s1 : w5.cell? ⟨w.heap.size, 1, none⟩ = some (.int .i64 x.Serial) := var_load o_s (by simp) 1 _ rfl
        have f_s1 : w5.frozen? ⟨w.heap.size, 1, none⟩ = false := var_frozen o_s (by simp) 1 _ rfl
        have c_s2 : w5.cell? ⟨w.heap.size, 2, none⟩ = some (.int .i64 x.Seed) := var_load o_s (by simp) 2 _ rfl
        have f_s2 : w5.frozen? ⟨w.heap.size, 2, none⟩ = false := var_frozen o_s (by simp) 2 _ rfl
        have c_s3 : w5.cell? ⟨w.heap.size, 3, none⟩ = some (.int .i64 x.Counter) := var_load o_s (by simp) 3 _ rfl
        have f_s3 : w5.frozen? ⟨w.heap.size, 3, none⟩ = false := var_frozen o_s (by simp) 3 _ rfl
        have l_s := var_lt o_s
        have c_r0 : w5.cell? ⟨(w.heap.size + 1), 0, none⟩ = some (.int .i64 0) := var_load o_r (by simp) 0 _ rfl
        have f_r0 : w5.frozen? ⟨(w.heap.size + 1), 0, none⟩ = false := var_frozen o_r (by simp) 0 _ rfl
        have c_r1 : w5.cell? ⟨(w.heap.size + 1), 1, none⟩ = some (.int .i64 0) := var_load o_r (by simp) 1 _ rfl
        have f_r1 : w5.frozen? ⟨(w.heap.size + 1), 1, none⟩ = false := var_frozen o_r (by simp) 1 _ rfl
        have c_r2 : w5.cell? ⟨(w.heap.size + 1), 2, none⟩ = some (.int .i64 0) := var_load o_r (by simp) 2 _ rfl
        have f_r2 : w5.frozen? ⟨(w.heap.size + 1), 2, none⟩ = false := var_frozen o_r (by simp) 2 _ rfl
        have c_r3 : w5.cell? ⟨(w.heap.size + 1), 3, none⟩ = some (.int .i64 0) := var_load o_r (by simp) 3 _ rfl
        have f_r3 : w5.frozen? ⟨(w.heap.size + 1), 3, none⟩ = false := var_frozen o_r (by simp) 3 _ rfl
        have l_r := var_lt o_r
        go_simp
        clear c_s0 f_s0 c_s1 f_s1 c_s2 f_s2 c_s3 f_s3 l_s c_r0 f_r0 c_r1 f_r1 c_r2 f_r2 c_r3 f_r3 l_r
        obtain ⟨w6, hw6⟩ : ∃ y, y = w5.alloc (.cells #[.int .i64 0, .int .i64 0, .int .i64 0, .int .i64 0] 31) := ⟨_, rfl⟩
        have o_a := var_owns w5 31 4 [.int .i64 0, .int .i64 0, .int .i64 0, .int .i64 0] rfl
        have bw6 : Below w5.heap.size w5 w6 := hw6 ▸ (Below.refl _ _).alloc (Nat.le_refl _) _
        rw [← hw6] at o_a ⊢
        have zw6 : w5.heap.size < w6.heap.size := by rw [hw6]; simp
        clear hw6
        replace o_s := owns_below o_s bw6
        replace o_r := owns_below o_r bw6
        replace HB := HB.trans (bw6.mono HB.size)
        refine hK.out _ _ ?_ (fun hHeld => ?_)
        · exact ⟨var_load o_s (by simp) 0 _ rfl, var_load o_s (by simp) 1 _ rfl, var_load o_s (by simp) 2 _ rfl, var_load o_s (by simp) 3 _ rfl⟩
        clear hK K
        try simp only [Act.put, List.setIfInBounds_toArray, List.set_cons_zero, List.set_cons_succ]
        refine wpAnyH_ready (rs := [8]) (by kernel_rfl) (by simp) ?_
        refine AllReadyH.cons (o := ?ou_8_9) ?hiu_8_9 (fun K hK => ?gu_8_9) AllReadyH.nil
        case hiu_8_9 => simp only [List.getElem?_toArray, List.getElem?_cons_succ, List.getElem?_cons_zero]; rfl
        case gu_8_9 =>
          have c_s0 : w6.cell? ⟨w.heap.size, 0, none⟩ = some (.int .i64 x.Vendor) := var_load o_s (by simp) 0 _ rfl
          have f_s0 : w6.frozen? ⟨w.heap.size, 0, none⟩ = false := var_frozen o_s (by simp) 0 _ rfl
          have c_s1 : w6.cell? ⟨w.heap.size, 1, none⟩ = some (.int .i64 x.Serial) := var_load o_s (by simp) 1 _ rfl
          have f_s1 : w6.frozen? ⟨w.heap.size, 1, none⟩ = false := var_frozen o_s (by simp) 1 _ rfl
          have c_s2 : w6.cell? ⟨w.heap.size, 2, none⟩ = some (.int .i64 x.Seed) := var_load o_s (by simp) 2 _ rfl
          have f_s2 : w6.frozen? ⟨w.heap.size, 2, none⟩ = false := var_frozen o_s (by simp) 2 _ rfl
          have c_s3 : w6.cell? ⟨w.heap.size, 3, none⟩ = some (.int .i64 x.Counter) := var_load o_s (by simp) 3 _ rfl
          have f_s3 : w6.frozen? ⟨w.heap.size, 3, none⟩ = false := var_frozen o_s (by simp) 3 _ rfl
          have l_s := var_lt o_s
          have c_r0 : w6.cell? ⟨(w.heap.size + 1), 0, none⟩ = some (.int .i64 0) := var_load o_r (by simp) 0 _ rfl
          have f_r0 : w6.frozen? ⟨(w.heap.size + 1), 0, none⟩ = false := var_frozen o_r (by simp) 0 _ rfl
          have c_r1 : w6.cell? ⟨(w.heap.size + 1), 1, none⟩ = some (.int .i64 0) := var_load o_r (by simp) 1 _ rfl
          have f_r1 : w6.frozen? ⟨(w.heap.size + 1), 1, none⟩ = false := var_frozen o_r (by simp) 1 _ rfl
          have c_r2 : w6.cell? ⟨(w.heap.size + 1), 2, none⟩ = some (.int .i64 0) := var_load o_r (by simp) 2 _ rfl
          have f_r2 : w6.frozen? ⟨(w.heap.size + 1), 2, none⟩ = false := var_frozen o_r (by simp) 2 _ rfl
          have c_r3 : w6.cell? ⟨(w.heap.size + 1), 3, none⟩ = some (.int .i64 0) := var_load o_r (by simp) 3 _ rfl
          have f_r3 : w6.frozen? ⟨(w.heap.size + 1), 3, none⟩ = false := var_frozen o_r (by simp) 3 _ rfl
          have l_r := var_lt o_r
          have c_a0 : w6.cell? ⟨w5.heap.size, 0, none⟩ = some (.int .i64 0) := var_load o_a (by simp) 0 _ rfl
          have f_a0 : w6.frozen? ⟨w5.heap.size, 0, none⟩ = false := var_frozen o_a (by simp) 0 _ rfl
          have c_a1 : w6.cell? ⟨w5.heap.size, 1, none⟩ = some (.int .i64 0) := var_load o_a (by simp) 1 _ rfl
          have f_a1 : w6.frozen? ⟨w5.heap.size, 1, none⟩ = false := var_frozen o_a (by simp) 1 _ rfl
          have c_a2 : w6.cell? ⟨w5.heap.size, 2, none⟩ = some (.int .i64 0) := var_load o_a (by simp) 2 _ rfl
          have f_a2 : w6.frozen? ⟨w5.heap.size, 2, none⟩ = false := var_frozen o_a (by simp) 2 _ rfl
          have c_a3 : w6.cell? ⟨w5.heap.size, 3, none⟩ = some (.int .i64 0) := var_load o_a (by simp) 3 _ rfl
          have f_a3 : w6.frozen? ⟨w5.heap.size, 3, none⟩ = false := var_frozen o_a (by simp) 3 _ rfl
          have l_a := var_lt o_a
          go_simp
          clear c_s0 f_s0 c_s1 f_s1 c_s2 f_s2 c_s3 f_s3 l_s c_r0 f_r0 c_r1 f_r1 c_r2 f_r2 c_r3 f_r3 l_r c_a0 f_a0 c_a1 f_a1 c_a2 f_a2 c_a3 f_a3 l_a
          obtain ⟨w7, hw7⟩ : ∃ y, y = ((((w6.setCell ⟨w5.heap.size, 0, none⟩ (.int .i64 x.Vendor)).setCell ⟨w5.heap.size, 1, none⟩ (.int .i64 x.Serial)).setCell ⟨w5.heap.size, 2, none⟩ (.int .i64 D)).setCell ⟨w5.heap.size, 3, none⟩ (.int .i64 0)) := ⟨_, rfl⟩
          obtain ⟨o_new, tw7⟩ := var_some [.int .i64 x.Vendor, .int .i64 x.Serial, .int .i64 D, .int .i64 0] 0 _ _ o_a (by simp)
          rw [show setAll w6 (w5.heap.size) 0 [.int .i64 x.Vendor, .int .i64 x.Serial, .int .i64 D, .int .i64 0] = w7 from hw7.symm] at o_new tw7
          replace o_a : Owns w7 _ (varD 31 4 [.int .i64 x.Vendor, .int .i64 x.Serial, .int .i64 D, .int .i64 0]) _ _ := o_new
          clear o_new
          replace o_s := owns_turned o_s tw7 (fun b hb hb2 => by simp at hb hb2; omega)
          replace o_r := owns_turned o_r tw7 (fun b hb hb2 => by simp at hb hb2; omega)
          replace HB := below_turned HB tw7 (fun b hb => by simp at hb; omega)
          have zw7 := tw7.2.2.2.1
          rw [← hw7]
          clear hw7
          refine hK.out _ _ ?_ (fun hHeld => ?_)
          · exact ⟨var_load o_s (by simp) 0 _ rfl, var_load o_s (by simp) 1 _ rfl, var_load o_s (by simp) 2 _ rfl, var_load o_s (by simp) 3 _ rfl⟩
          clear hK K
          try simp only [Act.put, List.setIfInBounds_toArray, List.set_cons_zero, List.set_cons_succ]
          refine wpAnyH_done (by kernel_rfl) ?_ _
          have c_s0 : w7.cell? ⟨w.heap.size, 0, none⟩ = some (.int .i64 x.Vendor) := var_load o_s (by simp) 0 _ rfl
          have f_s0 : w7.frozen? ⟨w.heap.size, 0, none⟩ = false := var_frozen o_s (by simp) 0 _ rfl
          have c_s1 : w7.cell? ⟨w.heap.size, 1, none⟩ = some (.int .i64 x.Serial) := var_load o_s (by simp) 1 _ rfl
          have f_s1 : w7.frozen? ⟨w.heap.size, 1, none⟩ = false := var_frozen o_s (by simp) 1 _ rfl
          have c_s2 : w7.cell? ⟨w.heap.size, 2, none⟩ = some (.int .i64 x.Seed) := var_load o_s (by simp) 2 _ rfl
          have f_s2 : w7.frozen? ⟨w.heap.size, 2, none⟩ = false := var_frozen o_s (by simp) 2 _ rfl
          have c_s3 : w7.cell? ⟨w.heap.size, 3, none⟩ = some (.int .i64 x.Counter) := var_load o_s (by simp) 3 _ rfl
          have f_s3 : w7.frozen? ⟨w.heap.size, 3, none⟩ = false := var_frozen o_s (by simp) 3 _ rfl
          have l_s := var_lt o_s
          have c_r0 : w7.cell? ⟨(w.heap.size + 1), 0, none⟩ = some (.int .i64 0) := var_load o_r (by simp) 0 _ rfl
          have f_r0 : w7.frozen? ⟨(w.heap.size + 1), 0, none⟩ = false := var_frozen o_r (by simp) 0 _ rfl
          have c_r1 : w7.cell? ⟨(w.heap.size + 1), 1, none⟩ = some (.int .i64 0) := var_load o_r (by simp) 1 _ rfl
          have f_r1 : w7.frozen? ⟨(w.heap.size + 1), 1, none⟩ = false := var_frozen o_r (by simp) 1 _ rfl
          have c_r2 : w7.cell? ⟨(w.heap.size + 1), 2, none⟩ = some (.int .i64 0) := var_load o_r (by simp) 2 _ rfl
          have f_r2 : w7.frozen? ⟨(w.heap.size + 1), 2, none⟩ = false := var_frozen o_r (by simp) 2 _ rfl
          have c_r3 : w7.cell? ⟨(w.heap.size + 1), 3, none⟩ = some (.int .i64 0) := var_load o_r (by simp) 3 _ rfl
          have f_r3 : w7.frozen? ⟨(w.heap.size + 1), 3, none⟩ = false := var_frozen o_r (by simp) 3 _ rfl
          have l_r := var_lt o_r
          have c_a0 : w7.cell? ⟨w5.heap.size, 0, none⟩ = some (.int .i64 x.Vendor) := var_load o_a (by simp) 0 _ rfl
          have f_a0 : w7.frozen? ⟨w5.heap.size, 0, none⟩ = false := var_frozen o_a (by simp) 0 _ rfl
          have c_a1 : w7.cell? ⟨w5.heap.size, 1, none⟩ = some (.int .i64 x.Serial) := var_load o_a (by simp) 1 _ rfl
          have f_a1 : w7.frozen? ⟨w5.heap.size, 1, none⟩ = false := var_frozen o_a (by simp) 1 _ rfl
          have c_a2 : w7.cell? ⟨w5.heap.size, 2, none⟩ = some (.int .i64 D) := var_load o_a (by simp) 2 _ rfl
          have f_a2 : w7.frozen? ⟨w5.heap.size, 2, none⟩ = false := var_frozen o_a (by simp) 2 _ rfl
          have c_a3 : w7.cell? ⟨w5.heap.size, 3, none⟩ = some (.int .i64 0) := var_load o_a (by simp) 3 _ rfl
          have f_a3 : w7.frozen? ⟨w5.heap.size, 3, none⟩ = false := var_frozen o_a (by simp) 3 _ rfl
          have l_a := var_lt o_a
          go_wp2_with fail
          clear c_s0 f_s0 c_s1 f_s1 c_s2 f_s2 c_s3 f_s3 l_s c_r0 f_r0 c_r1 f_r1 c_r2 f_r2 c_r3 f_r3 l_r c_a0 f_a0 c_a1 f_a1 c_a2 f_a2 c_a3 f_a3 l_a
          obtain ⟨w8, hw8⟩ : ∃ y, y = w7.drew := ⟨_, rfl⟩
          have bw8 : Below w7.heap.size w7 w8 := hw8 ▸ drewN_below w7 1 _
          replace o_s := owns_below o_s bw8
          replace o_r := owns_below o_r bw8
          replace o_a := owns_below o_a bw8
          replace HB := HB.trans (bw8.mono HB.size)
          have zw8 := bw8.size
          refine wp_region_held_drew (S := (fun wx => wx.cell? ⟨w.heap.size, 0, none⟩ = some (.int .i64 x.Vendor) ∧ wx.cell? ⟨w.heap.size, 1, none⟩ = some (.int .i64 x.Serial) ∧ wx.cell? ⟨w.heap.size, 2, none⟩ = some (.int .i64 x.Seed) ∧ wx.cell? ⟨w.heap.size, 3, none⟩ = some (.int .i64 x.Counter) ∧ wx.cell? ⟨w5.heap.size, 0, none⟩ = some (.int .i64 x.Vendor) ∧ wx.cell? ⟨w5.heap.size, 1, none⟩ = some (.int .i64 x.Serial) ∧ wx.cell? ⟨w5.heap.size, 2, none⟩ = some (.int .i64 D))) (by kernel_rfl) ?_ (fun hHeld => ?_)
          · rw [← hw8]; exact ⟨var_load o_s (by simp) 0 _ rfl, var_load o_s (by simp) 1 _ rfl, var_load o_s (by simp) 2 _ rfl, var_load o_s (by simp) 3 _ rfl, var_load o_a (by simp) 0 _ rfl, var_load o_a (by simp) 1 _ rfl, var_load o_a (by simp) 2 _ rfl⟩
          rw [← hw8] at hHeld ⊢
          clear hw8
          refine wpAnyH_take (i := 0) (oi := ?oiv1_0_1) (v := ?vv1_0_1) ?hiv1_0_1 (by kernel_rfl) (by kernel_rfl) (by kernel_rfl) ?hQv1_0_1 (Or.inl ⟨?hwv1_0_1, ?hyv1_0_1⟩) (by assumption) ?_
          case hiv1_0_1 => simp only [List.getElem?_toArray, List.getElem?_cons_zero]; rfl
          case hQv1_0_1 => exact fun _ _ _ h => h
          case hwv1_0_1 => rfl
          case hyv1_0_1 => intro w hSw; (try dsimp only at hSw); (first | (go_simp; done) | (go_simp; with_reducible rfl))
          try simp only [Act.put, List.setIfInBounds_toArray, List.set_cons_zero, List.set_cons_succ]
          refine wpAnyH_take (i := 1) (oi := ?oiv1_1_2) (v := ?vv1_1_2) ?hiv1_1_2 (by kernel_rfl) (by kernel_rfl) (by kernel_rfl) ?hQv1_1_2 (Or.inl ⟨?hwv1_1_2, ?hyv1_1_2⟩) (by assumption) ?_
          case hiv1_1_2 => simp only [List.getElem?_toArray, List.getElem?_cons_succ, List.getElem?_cons_zero]; rfl
          case hQv1_1_2 => exact fun _ _ _ h => h
          case hwv1_1_2 => rfl
          case hyv1_1_2 => intro w hSw; (try dsimp only at hSw); (first | (go_simp; done) | (go_simp; with_reducible rfl))
          try simp only [Act.put, List.setIfInBounds_toArray, List.set_cons_zero, List.set_cons_succ]
          refine wpAnyH_take (i := 2) (oi := ?oiv1_2_3) (v := ?vv1_2_3) ?hiv1_2_3 (by kernel_rfl) (by kernel_rfl) (by kernel_rfl) ?hQv1_2_3 (Or.inl ⟨?hwv1_2_3, ?hyv1_2_3⟩) (by assumption) ?_
          case hiv1_2_3 => simp only [List.getElem?_toArray, List.getElem?_cons_succ, List.getElem?_cons_zero]; rfl
          case hQv1_2_3 => exact fun _ _ _ h => h
          case hwv1_2_3 => rfl
          case hyv1_2_3 => intro w hSw; (try dsimp only at hSw); (first | (go_simp; done) | (go_simp; with_reducible rfl))
          try simp only [Act.put, List.setIfInBounds_toArray, List.set_cons_zero, List.set_cons_succ]
          refine wpAnyH_take (i := 4) (oi := ?oiv1_4_4) (v := ?vv1_4_4) ?hiv1_4_4 (by kernel_rfl) (by kernel_rfl) (by kernel_rfl) ?hQv1_4_4 (Or.inl ⟨?hwv1_4_4, ?hyv1_4_4⟩) (by assumption) ?_
          case hiv1_4_4 => simp only [List.getElem?_toArray, List.getElem?_cons_succ, List.getElem?_cons_zero]; rfl
          case hQv1_4_4 => exact fun _ _ _ h => h
          case hwv1_4_4 => rfl
          case hyv1_4_4 => intro w hSw; (try dsimp only at hSw); (first | (go_simp; done) | (go_simp; with_reducible rfl))
          try simp only [Act.put, List.setIfInBounds_toArray, List.set_cons_zero, List.set_cons_succ]
          refine wpAnyH_take (i := 5) (oi := ?oiv1_5_5) (v := ?vv1_5_5) ?hiv1_5_5 (by kernel_rfl) (by kernel_rfl) (by kernel_rfl) ?hQv1_5_5 (Or.inl ⟨?hwv1_5_5, ?hyv1_5_5⟩) (by assumption) ?_
          case hiv1_5_5 => simp only [List.getElem?_toArray, List.getElem?_cons_succ, List.getElem?_cons_zero]; rfl
          case hQv1_5_5 => exact fun _ _ _ h => h
          case hwv1_5_5 => rfl
          case hyv1_5_5 => intro w hSw; (try dsimp only at hSw); (first | (go_simp; done) | (go_simp; with_reducible rfl))
          try simp only [Act.put, List.setIfInBounds_toArray, List.set_cons_zero, List.set_cons_succ]
          refine wpAnyH_take (i := 6) (oi := ?oiv1_6_6) (v := ?vv1_6_6) ?hiv1_6_6 (by kernel_rfl) (by kernel_rfl) (by kernel_rfl) ?hQv1_6_6 (Or.inl ⟨?hwv1_6_6, ?hyv1_6_6⟩) (by assumption) ?_
          case hiv1_6_6 => simp only [List.getElem?_toArray, List.getElem?_cons_succ, List.getElem?_cons_zero]; rfl
          case hQv1_6_6 => exact fun _ _ _ h => h
          case hwv1_6_6 => rfl
          case hyv1_6_6 => intro w hSw; (try dsimp only at hSw); (first | (go_simp; done) | (go_simp; with_reducible rfl))
          try simp only [Act.put, List.setIfInBounds_toArray, List.set_cons_zero, List.set_cons_succ]
          refine wpAnyH_take (i := 7) (oi := ?oiv1_7_7) (v := ?vv1_7_7) ?hiv1_7_7 (by kernel_rfl) (by kernel_rfl) (by kernel_rfl) ?hQv1_7_7 (Or.inl ⟨?hwv1_7_7, ?hyv1_7_7⟩) (by assumption) ?_
          case hiv1_7_7 => simp only [List.getElem?_toArray, List.getElem?_cons_succ, List.getElem?_cons_zero]; rfl
          case hQv1_7_7 => exact fun _ _ _ h => h
          case hwv1_7_7 => rfl
          case hyv1_7_7 => intro w hSw; (try dsimp only at hSw); (first | (go_simp; done) | (go_simp; with_reducible rfl))
          try simp only [Act.put, List.setIfInBounds_toArray, List.set_cons_zero, List.set_cons_succ]
          refine wpAnyH_take (i := 8) (oi := ?oiv1_8_8) (v := ?vv1_8_8) ?hiv1_8_8 (by kernel_rfl) (by kernel_rfl) (by kernel_rfl) ?hQv1_8_8 (Or.inl ⟨?hwv1_8_8, ?hyv1_8_8⟩) (by assumption) ?_
          case hiv1_8_8 => simp only [List.getElem?_toArray, List.getElem?_cons_succ, List.getElem?_cons_zero]; rfl
          case hQv1_8_8 => exact fun _ _ _ h => h
          case hwv1_8_8 => rfl
          case hyv1_8_8 => intro w hSw; (try dsimp only at hSw); (first | (go_simp; done) | (go_simp; with_reducible rfl))
          try simp only [Act.put, List.setIfInBounds_toArray, List.set_cons_zero, List.set_cons_succ]
          refine wpAnyH_take (i := 9) (oi := ?oiv1_9_9) (v := ?vv1_9_9) ?hiv1_9_9 (by kernel_rfl) (by kernel_rfl) (by kernel_rfl) ?hQv1_9_9 (Or.inl ⟨?hwv1_9_9, ?hyv1_9_9⟩) (by assumption) ?_
          case hiv1_9_9 => simp only [List.getElem?_toArray, List.getElem?_cons_succ, List.getElem?_cons_zero]; rfl
          case hQv1_9_9 => exact fun _ _ _ h => h
          case hwv1_9_9 => rfl
          case hyv1_9_9 => intro w hSw; (try dsimp only at hSw); (first | (go_simp; done) | (go_simp; with_reducible rfl))
          try simp only [Act.put, List.setIfInBounds_toArray, List.set_cons_zero, List.set_cons_succ]
          refine wpAnyH_ready (rs := [3]) (by kernel_rfl) (by simp) ?_
          refine AllReadyH.cons (o := ?ov1_3_10) ?hiv1_3_10 (fun K hK => ?gv1_3_10) AllReadyH.nil
          case hiv1_3_10 => simp only [List.getElem?_toArray, List.getElem?_cons_succ, List.getElem?_cons_zero]; rfl
          case gv1_3_10 =>
            go_simp
            go_at_call 21
            (with_reducible refine (KP.out _).mono ?_); rintro e w9 ⟨rfl, bw9⟩
            replace o_s := owns_below o_s bw9
            replace o_r := owns_below o_r bw9
            replace o_a := owns_below o_a bw9
            replace HB := HB.trans (bw9.mono HB.size)
            have zw9 := bw9.size
            refine hK.out _ _ ?_ (fun hHeld => ?_)
            · exact ⟨var_load o_s (by simp) 0 _ rfl, var_load o_s (by simp) 1 _ rfl, var_load o_s (by simp) 2 _ rfl, var_load o_s (by simp) 3 _ rfl, var_load o_a (by simp) 0 _ rfl, var_load o_a (by simp) 1 _ rfl, var_load o_a (by simp) 2 _ rfl⟩
            clear hK K
            try simp only [Act.put, List.setIfInBounds_toArray, List.set_cons_zero, List.set_cons_succ]
            refine wpAnyH_ready (rs := [10]) (by kernel_rfl) (by simp) ?_
            refine AllReadyH.cons (o := ?ov1_10_11) ?hiv1_10_11 (fun K hK => ?gv1_10_11) AllReadyH.nil
            case hiv1_10_11 => simp only [List.getElem?_toArray, List.getElem?_cons_succ, List.getElem?_cons_zero]; rfl
            case gv1_10_11 =>
              go_simp
              go_at_call 64
              (with_reducible refine (KA.out _).mono ?_); rintro e w10 ⟨A9, c9, rfl, o9, bw10⟩
              replace o_s := owns_below o_s bw10
              replace o_r := owns_below o_r bw10
              replace o_a := owns_below o_a bw10
              replace HB := HB.trans (bw10.mono HB.size)
              have zw10 := bw10.size
              refine hK.out _ _ ?_ (fun hHeld => ?_)
              · exact ⟨var_load o_s (by simp) 0 _ rfl, var_load o_s (by simp) 1 _ rfl, var_load o_s (by simp) 2 _ rfl, var_load o_s (by simp) 3 _ rfl, var_load o_a (by simp) 0 _ rfl, var_load o_a (by simp) 1 _ rfl, var_load o_a (by simp) 2 _ rfl⟩
              clear hK K
              try simp only [Act.put, List.setIfInBounds_toArray, List.set_cons_zero, List.set_cons_succ]
              refine wpAnyH_ready (rs := [11]) (by kernel_rfl) (by simp) ?_
              refine AllReadyH.cons (o := ?ov1_11_12) ?hiv1_11_12 (fun K hK => ?gv1_11_12) AllReadyH.nil
              case hiv1_11_12 => simp only [List.getElem?_toArray, List.getElem?_cons_succ, List.getElem?_cons_zero]; rfl
              case gv1_11_12 =>
                go_simp
                go_at_call 63
                (with_reducible refine (specSgn _ A9 4 c9 (amsg x.Vendor x.Serial D) (vpr m x.Vendor) (Rd.own o9) HO.out (by omega)).mono ?_); rintro e w11 ⟨rfl, bw11⟩
                replace o_s := owns_below o_s bw11
                replace o_r := owns_below o_r bw11
                replace o_a := owns_below o_a bw11
                replace HB := HB.trans (bw11.mono HB.size)
                have zw11 := bw11.size
                rw [← HS.out]
                refine hK.out _ _ ?_ (fun hHeld => ?_)
                · exact ⟨var_load o_s (by simp) 0 _ rfl, var_load o_s (by simp) 1 _ rfl, var_load o_s (by simp) 2 _ rfl, var_load o_s (by simp) 3 _ rfl, var_load o_a (by simp) 0 _ rfl, var_load o_a (by simp) 1 _ rfl, var_load o_a (by simp) 2 _ rfl⟩
                clear hK K
                try simp only [Act.put, List.setIfInBounds_toArray, List.set_cons_zero, List.set_cons_succ]
                refine wpAnyH_take (i := 12) (oi := ?oiv1_12_13) (v := ?vv1_12_13) ?hiv1_12_13 (by kernel_rfl) (by kernel_rfl) (by kernel_rfl) ?hQv1_12_13 (Or.inl ⟨?hwv1_12_13, ?hyv1_12_13⟩) (by assumption) ?_
                case hiv1_12_13 => simp only [List.getElem?_toArray, List.getElem?_cons_succ, List.getElem?_cons_zero]; rfl
                case hQv1_12_13 => exact fun _ _ _ h => h
                case hwv1_12_13 => rfl
                case hyv1_12_13 => intro w hSw; (try dsimp only at hSw); (first | (go_simp; done) | (go_simp; with_reducible rfl))
                try simp only [Act.put, List.setIfInBounds_toArray, List.set_cons_zero, List.set_cons_succ]
                refine wpAnyH_ready (rs := [13]) (by kernel_rfl) (by simp) ?_
                refine AllReadyH.cons (o := ?ov1_13_14) ?hiv1_13_14 (fun K hK => ?gv1_13_14) AllReadyH.nil
                case hiv1_13_14 => simp only [List.getElem?_toArray, List.getElem?_cons_succ, List.getElem?_cons_zero]; rfl
                case gv1_13_14 =>
                  have c_s0 : w11.cell? ⟨w.heap.size, 0, none⟩ = some (.int .i64 x.Vendor) := var_load o_s (by simp) 0 _ rfl
                  have f_s0 : w11.frozen? ⟨w.heap.size, 0, none⟩ = false := var_frozen o_s (by simp) 0 _ rfl
                  have c_s1 : w11.cell? ⟨w.heap.size, 1, none⟩ = some (.int .i64 x.Serial) := var_load o_s (by simp) 1 _ rfl
                  have f_s1 : w11.frozen? ⟨w.heap.size, 1, none⟩ = false := var_frozen o_s (by simp) 1 _ rfl
                  have c_s2 : w11.cell? ⟨w.heap.size, 2, none⟩ = some (.int .i64 x.Seed) := var_load o_s (by simp) 2 _ rfl
                  have f_s2 : w11.frozen? ⟨w.heap.size, 2, none⟩ = false := var_frozen o_s (by simp) 2 _ rfl
                  have c_s3 : w11.cell? ⟨w.heap.size, 3, none⟩ = some (.int .i64 x.Counter) := var_load o_s (by simp) 3 _ rfl
                  have f_s3 : w11.frozen? ⟨w.heap.size, 3, none⟩ = false := var_frozen o_s (by simp) 3 _ rfl
                  have l_s := var_lt o_s
                  have c_r0 : w11.cell? ⟨(w.heap.size + 1), 0, none⟩ = some (.int .i64 0) := var_load o_r (by simp) 0 _ rfl
                  have f_r0 : w11.frozen? ⟨(w.heap.size + 1), 0, none⟩ = false := var_frozen o_r (by simp) 0 _ rfl
                  have c_r1 : w11.cell? ⟨(w.heap.size + 1), 1, none⟩ = some (.int .i64 0) := var_load o_r (by simp) 1 _ rfl
                  have f_r1 : w11.frozen? ⟨(w.heap.size + 1), 1, none⟩ = false := var_frozen o_r (by simp) 1 _ rfl
                  have c_r2 : w11.cell? ⟨(w.heap.size + 1), 2, none⟩ = some (.int .i64 0) := var_load o_r (by simp) 2 _ rfl
                  have f_r2 : w11.frozen? ⟨(w.heap.size + 1), 2, none⟩ = false := var_frozen o_r (by simp) 2 _ rfl
                  have c_r3 : w11.cell? ⟨(w.heap.size + 1), 3, none⟩ = some (.int .i64 0) := var_load o_r (by simp) 3 _ rfl
                  have f_r3 : w11.frozen? ⟨(w.heap.size + 1), 3, none⟩ = false := var_frozen o_r (by simp) 3 _ rfl
                  have l_r := var_lt o_r
                  have c_a0 : w11.cell? ⟨w5.heap.size, 0, none⟩ = some (.int .i64 x.Vendor) := var_load o_a (by simp) 0 _ rfl
                  have f_a0 : w11.frozen? ⟨w5.heap.size, 0, none⟩ = false := var_frozen o_a (by simp) 0 _ rfl
                  have c_a1 : w11.cell? ⟨w5.heap.size, 1, none⟩ = some (.int .i64 x.Serial) := var_load o_a (by simp) 1 _ rfl
                  have f_a1 : w11.frozen? ⟨w5.heap.size, 1, none⟩ = false := var_frozen o_a (by simp) 1 _ rfl
                  have c_a2 : w11.cell? ⟨w5.heap.size, 2, none⟩ = some (.int .i64 D) := var_load o_a (by simp) 2 _ rfl
                  have f_a2 : w11.frozen? ⟨w5.heap.size, 2, none⟩ = false := var_frozen o_a (by simp) 2 _ rfl
                  have c_a3 : w11.cell? ⟨w5.heap.size, 3, none⟩ = some (.int .i64 0) := var_load o_a (by simp) 3 _ rfl
                  have f_a3 : w11.frozen? ⟨w5.heap.size, 3, none⟩ = false := var_frozen o_a (by simp) 3 _ rfl
                  have l_a := var_lt o_a
                  go_simp
                  clear c_s0 f_s0 c_s1 f_s1 c_s2 f_s2 c_s3 f_s3 l_s c_r0 f_r0 c_r1 f_r1 c_r2 f_r2 c_r3 f_r3 l_r c_a0 f_a0 c_a1 f_a1 c_a2 f_a2 c_a3 f_a3 l_a
                  obtain ⟨w12, hw12⟩ : ∃ y, y = (w11.setCell ⟨w5.heap.size, 3, none⟩ (.int .i64 sg)) := ⟨_, rfl⟩
                  obtain ⟨o_new, tw12⟩ := var_some [.int .i64 sg] 3 _ _ o_a (by simp)
                  rw [show setAll w11 (w5.heap.size) 3 [.int .i64 sg] = w12 from hw12.symm] at o_new tw12
                  replace o_a : Owns w12 _ (varD 31 4 [.int .i64 x.Vendor, .int .i64 x.Serial, .int .i64 D, .int .i64 sg]) _ _ := o_new
                  clear o_new
                  replace o_s := owns_turned o_s tw12 (fun b hb hb2 => by simp at hb hb2; omega)
                  replace o_r := owns_turned o_r tw12 (fun b hb hb2 => by simp at hb hb2; omega)
                  replace HB := below_turned HB tw12 (fun b hb => by simp at hb; omega)
                  have zw12 := tw12.2.2.2.1
                  rw [← hw12]
                  clear hw12
                  refine hK.out _ _ ?_ (fun hHeld => ?_)
                  · exact ⟨var_load o_s (by simp) 0 _ rfl, var_load o_s (by simp) 1 _ rfl, var_load o_s (by simp) 2 _ rfl, var_load o_s (by simp) 3 _ rfl, var_load o_a (by simp) 0 _ rfl, var_load o_a (by simp) 1 _ rfl, var_load o_a (by simp) 2 _ rfl⟩
                  clear hK K
                  try simp only [Act.put, List.setIfInBounds_toArray, List.set_cons_zero, List.set_cons_succ]
                  refine wpAnyH_done (by kernel_rfl) ?_ _
                  have c_s0 : w12.cell? ⟨w.heap.size, 0, none⟩ = some (.int .i64 x.Vendor) := var_load o_s (by simp) 0 _ rfl
                  have f_s0 : w12.frozen? ⟨w.heap.size, 0, none⟩ = false := var_frozen o_s (by simp) 0 _ rfl
                  have c_s1 : w12.cell? ⟨w.heap.size, 1, none⟩ = some (.int .i64 x.Serial) := var_load o_s (by simp) 1 _ rfl
                  have f_s1 : w12.frozen? ⟨w.heap.size, 1, none⟩ = false := var_frozen o_s (by simp) 1 _ rfl
                  have c_s2 : w12.cell? ⟨w.heap.size, 2, none⟩ = some (.int .i64 x.Seed) := var_load o_s (by simp) 2 _ rfl
                  have f_s2 : w12.frozen? ⟨w.heap.size, 2, none⟩ = false := var_frozen o_s (by simp) 2 _ rfl
                  have c_s3 : w12.cell? ⟨w.heap.size, 3, none⟩ = some (.int .i64 x.Counter) := var_load o_s (by simp) 3 _ rfl
                  have f_s3 : w12.frozen? ⟨w.heap.size, 3, none⟩ = false := var_frozen o_s (by simp) 3 _ rfl
                  have l_s := var_lt o_s
                  have c_r0 : w12.cell? ⟨(w.heap.size + 1), 0, none⟩ = some (.int .i64 0) := var_load o_r (by simp) 0 _ rfl
                  have f_r0 : w12.frozen? ⟨(w.heap.size + 1), 0, none⟩ = false := var_frozen o_r (by simp) 0 _ rfl
                  have c_r1 : w12.cell? ⟨(w.heap.size + 1), 1, none⟩ = some (.int .i64 0) := var_load o_r (by simp) 1 _ rfl
                  have f_r1 : w12.frozen? ⟨(w.heap.size + 1), 1, none⟩ = false := var_frozen o_r (by simp) 1 _ rfl
                  have c_r2 : w12.cell? ⟨(w.heap.size + 1), 2, none⟩ = some (.int .i64 0) := var_load o_r (by simp) 2 _ rfl
                  have f_r2 : w12.frozen? ⟨(w.heap.size + 1), 2, none⟩ = false := var_frozen o_r (by simp) 2 _ rfl
                  have c_r3 : w12.cell? ⟨(w.heap.size + 1), 3, none⟩ = some (.int .i64 0) := var_load o_r (by simp) 3 _ rfl
                  have f_r3 : w12.frozen? ⟨(w.heap.size + 1), 3, none⟩ = false := var_frozen o_r (by simp) 3 _ rfl
                  have l_r := var_lt o_r
                  have c_a0 : w12.cell? ⟨w5.heap.size, 0, none⟩ = some (.int .i64 x.Vendor) := var_load o_a (by simp) 0 _ rfl
                  have f_a0 : w12.frozen? ⟨w5.heap.size, 0, none⟩ = false := var_frozen o_a (by simp) 0 _ rfl
                  have c_a1 : w12.cell? ⟨w5.heap.size, 1, none⟩ = some (.int .i64 x.Serial) := var_load o_a (by simp) 1 _ rfl
                  have f_a1 : w12.frozen? ⟨w5.heap.size, 1, none⟩ = false := var_frozen o_a (by simp) 1 _ rfl
                  have c_a2 : w12.cell? ⟨w5.heap.size, 2, none⟩ = some (.int .i64 D) := var_load o_a (by simp) 2 _ rfl
                  have f_a2 : w12.frozen? ⟨w5.heap.size, 2, none⟩ = false := var_frozen o_a (by simp) 2 _ rfl
                  have c_a3 : w12.cell? ⟨w5.heap.size, 3, none⟩ = some (.int .i64 sg) := var_load o_a (by simp) 3 _ rfl
                  have f_a3 : w12.frozen? ⟨w5.heap.size, 3, none⟩ = false := var_frozen o_a (by simp) 3 _ rfl
                  have l_a := var_lt o_a
                  go_wp2
                  clear c_s0 f_s0 c_s1 f_s1 c_s2 f_s2 c_s3 f_s3 l_s c_r0 f_r0 c_r1 f_r1 c_r2 f_r2 c_r3 f_r3 l_r c_a0 f_a0 c_a1 f_a1 c_a2 f_a2 c_a3 f_a3 l_a
                  obtain ⟨w13, hw13⟩ : ∃ y, y = ((((w12.setCell ⟨(w.heap.size + 1), 0, none⟩ (.int .i64 x.Vendor)).setCell ⟨(w.heap.size + 1), 1, none⟩ (.int .i64 x.Serial)).setCell ⟨(w.heap.size + 1), 2, none⟩ (.int .i64 D)).setCell ⟨(w.heap.size + 1), 3, none⟩ (.int .i64 sg)) := ⟨_, rfl⟩
                  obtain ⟨o_new, tw13⟩ := var_some [.int .i64 x.Vendor, .int .i64 x.Serial, .int .i64 D, .int .i64 sg] 0 _ _ o_r (by simp)
                  rw [show setAll w12 ((w.heap.size + 1)) 0 [.int .i64 x.Vendor, .int .i64 x.Serial, .int .i64 D, .int .i64 sg] = w13 from hw13.symm] at o_new tw13
                  replace o_r : Owns w13 _ (varD 31 4 [.int .i64 x.Vendor, .int .i64 x.Serial, .int .i64 D, .int .i64 sg]) _ _ := o_new
                  clear o_new
                  replace o_s := owns_turned o_s tw13 (fun b hb hb2 => by simp at hb hb2; omega)
                  replace o_a := owns_turned o_a tw13 (fun b hb hb2 => by simp at hb hb2; omega)
                  replace HB := below_turned HB tw13 (fun b hb => by simp at hb; omega)
                  have zw13 := tw13.2.2.2.1
                  rw [← hw13]
                  clear hw13
                  have y0 : w13.cell? ⟨(w.heap.size + 1), 0, none⟩ = some (.int .i64 x.Vendor) := var_load o_r (by simp) 0 _ rfl
                  have y1 : w13.cell? ⟨(w.heap.size + 1), 1, none⟩ = some (.int .i64 x.Serial) := var_load o_r (by simp) 1 _ rfl
                  have y2 : w13.cell? ⟨(w.heap.size + 1), 2, none⟩ = some (.int .i64 D) := var_load o_r (by simp) 2 _ rfl
                  have y3 : w13.cell? ⟨(w.heap.size + 1), 3, none⟩ = some (.int .i64 sg) := var_load o_r (by simp) 3 _ rfl
                  refine bodyPost_ret (v := .tuple #[.agg #[.int .i64 x.Vendor, .int .i64 x.Serial, .int .i64 D, .int .i64 sg], .bool true]) (by simp [results, Try.results23, go_sem, y0, y1, y2, y3]) rfl ?_
                  exact made_at ⟨x.Vendor, x.Serial, D, sg⟩ true HB
    case gu_7_6 =>
      have c_s0 : w4.cell? ⟨w.heap.size, 0, none⟩ = some (.int .i64 x.Vendor) := var_load o_s (by simp) 0 _ rfl
      have f_s0 : w4.frozen? ⟨w.heap.size, 0, none⟩ = false := var_frozen o_s (by simp) 0 _ rfl
      have c_s1 : w4.cell? ⟨w.heap.size, 1, none⟩ = some (.int .i64 x.Serial) := var_load o_s (by simp) 1 _ rfl
      have f_s1 : w4.frozen? ⟨w.heap.size, 1, none⟩ = false := var_frozen o_s (by simp) 1 _ rfl
      have c_s2 : w4.cell? ⟨w.heap.size, 2, none⟩ = some (.int .i64 x.Seed) := var_load o_s (by simp) 2 _ rfl
      have f_s2 : w4.frozen? ⟨w.heap.size, 2, none⟩ = false := var_frozen o_s (by simp) 2 _ rfl
      have c_s3 : w4.cell? ⟨w.heap.size, 3, none⟩ = some (.int .i64 x.Counter) := var_load o_s (by simp) 3 _ rfl
      have f_s3 : w4.frozen? ⟨w.heap.size, 3, none⟩ = false := var_frozen o_s (by simp) 3 _ rfl
      have l_s := var_lt o_s
      have c_r0 : w4.cell? ⟨(w.heap.size + 1), 0, none⟩ = some (.int .i64 0) := var_load o_r (by simp) 0 _ rfl
      have f_r0 : w4.frozen? ⟨(w.heap.size + 1), 0, none⟩ = false := var_frozen o_r (by simp) 0 _ rfl
      have c_r1 : w4.cell? ⟨(w.heap.size + 1), 1, none⟩ = some (.int .i64 0) := var_load o_r (by simp) 1 _ rfl
      have f_r1 : w4.frozen? ⟨(w.heap.size + 1), 1, none⟩ = false := var_frozen o_r (by simp) 1 _ rfl
      have c_r2 : w4.cell? ⟨(w.heap.size + 1), 2, none⟩ = some (.int .i64 0) := var_load o_r (by simp) 2 _ rfl
      have f_r2 : w4.frozen? ⟨(w.heap.size + 1), 2, none⟩ = false := var_frozen o_r (by simp) 2 _ rfl
      have c_r3 : w4.cell? ⟨(w.heap.size + 1), 3, none⟩ = some (.int .i64 0) := var_load o_r (by simp) 3 _ rfl
      have f_r3 : w4.frozen? ⟨(w.heap.size + 1), 3, none⟩ = false := var_frozen o_r (by simp) 3 _ rfl
      have l_r := var_lt o_r
      go_simp
      clear c_s0 f_s0 c_s1 f_s1 c_s2 f_s2 c_s3 f_s3 l_s c_r0 f_r0 c_r1 f_r1 c_r2 f_r2 c_r3 f_r3 l_r
      obtain ⟨w5, hw5⟩ : ∃ y, y = w4.alloc (.cells #[.int .i64 0, .int .i64 0, .int .i64 0, .int .i64 0] 31) := ⟨_, rfl⟩
      have o_a := var_owns w4 31 4 [.int .i64 0, .int .i64 0, .int .i64 0, .int .i64 0] rfl
      have bw5 : Below w4.heap.size w4 w5 := hw5 ▸ (Below.refl _ _).alloc (Nat.le_refl _) _
      rw [← hw5] at o_a ⊢
      have zw5 : w4.heap.size < w5.heap.size := by rw [hw5]; simp
      clear hw5
      replace o_s := owns_below o_s bw5
      replace o_r := owns_below o_r bw5
      replace HB := HB.trans (bw5.mono HB.size)
      refine hK.out _ _ ?_ (fun hHeld => ?_)
      · exact ⟨var_load o_s (by simp) 0 _ rfl, var_load o_s (by simp) 1 _ rfl, var_load o_s (by simp) 2 _ rfl, var_load o_s (by simp) 3 _ rfl⟩
      clear hK K
      try simp only [Act.put, List.setIfInBounds_toArray, List.set_cons_zero, List.set_cons_succ]
      refine wpAnyH_ready (rs := [5]) (by kernel_rfl) (by simp) ?_
      refine AllReadyH.cons (o := ?ou_5_10) ?hiu_5_10 (fun K hK => ?gu_5_10) AllReadyH.nil
      case hiu_5_10 => simp only [List.getElem?_toArray, List.getElem?_cons_succ, List.getElem?_cons_zero]; rfl
      case gu_5_10 =>
        go_simp
        go_at_call 16
        (with_reducible refine (KD.out _).mono ?_); rintro e w6 ⟨rfl, bw6⟩
        replace o_s := owns_below o_s bw6
        replace o_r := owns_below o_r bw6
        replace o_a := owns_below o_a bw6
        replace HB := HB.trans (bw6.mono HB.size)
        have zw6 := bw6.size
        refine hK.out _ _ ?_ (fun hHeld => ?_)
        · exact ⟨var_load o_s (by simp) 0 _ rfl, var_load o_s (by simp) 1 _ rfl, var_load o_s (by simp) 2 _ rfl, var_load o_s (by simp) 3 _ rfl⟩
        clear hK K
        try simp only [Act.put, List.setIfInBounds_toArray, List.set_cons_zero, List.set_cons_succ]
        refine wpAnyH_take (i := 6) (oi := ?oiu_6_11) (v := ?vu_6_11) ?hiu_6_11 (by kernel_rfl) (by kernel_rfl) (by kernel_rfl) ?hQu_6_11 (Or.inl ⟨?hwu_6_11, ?hyu_6_11⟩) (by assumption) ?_
        case hiu_6_11 => simp only [List.getElem?_toArray, List.getElem?_cons_succ, List.getElem?_cons_zero]; rfl
        case hQu_6_11 => exact fun _ _ _ h => h
        case hwu_6_11 => rfl
        case hyu_6_11 => intro w hSw; (try dsimp only at hSw); (first | (go_simp; done) | (go_simp; with_reducible rfl))
        try simp only [Act.put, List.setIfInBounds_toArray, List.set_cons_zero, List.set_cons_succ]
        refine wpAnyH_ready (rs := [8]) (by kernel_rfl) (by simp) ?_
        refine AllReadyH.cons (o := ?ou_8_12) ?hiu_8_12 (fun K hK => ?gu_8_12) AllReadyH.nil
        case hiu_8_12 => simp only [List.getElem?_toArray, List.getElem?_cons_succ, List.getElem?_cons_zero]; rfl
        case gu_8_12 =>
          have c_s0 : w6.cell? ⟨w.heap.size, 0, none⟩ = some (.int .i64 x.Vendor) := var_load o_s (by simp) 0 _ rfl
          have f_s0 : w6.frozen? ⟨w.heap.size, 0, none⟩ = false := var_frozen o_s (by simp) 0 _ rfl
          have c_s1 : w6.cell? ⟨w.heap.size, 1, none⟩ = some (.int .i64 x.Serial) := var_load o_s (by simp) 1 _ rfl
          have f_s1 : w6.frozen? ⟨w.heap.size, 1, none⟩ = false := var_frozen o_s (by simp) 1 _ rfl
          have c_s2 : w6.cell? ⟨w.heap.size, 2, none⟩ = some (.int .i64 x.Seed) := var_load o_s (by simp) 2 _ rfl
          have f_s2 : w6.frozen? ⟨w.heap.size, 2, none⟩ = false := var_frozen o_s (by simp) 2 _ rfl
          have c_s3 : w6.cell? ⟨w.heap.size, 3, none⟩ = some (.int .i64 x.Counter) := var_load o_s (by simp) 3 _ rfl
          have f_s3 : w6.frozen? ⟨w.heap.size, 3, none⟩ = false := var_frozen o_s (by simp) 3 _ rfl
          have l_s := var_lt o_s
          have c_r0 : w6.cell? ⟨(w.heap.size + 1), 0, none⟩ = some (.int .i64 0) := var_load o_r (by simp) 0 _ rfl
          have f_r0 : w6.frozen? ⟨(w.heap.size + 1), 0, none⟩ = false := var_frozen o_r (by simp) 0 _ rfl
          have c_r1 : w6.cell? ⟨(w.heap.size + 1), 1, none⟩ = some (.int .i64 0) := var_load o_r (by simp) 1 _ rfl
          have f_r1 : w6.frozen? ⟨(w.heap.size + 1), 1, none⟩ = false := var_frozen o_r (by simp) 1 _ rfl
          have c_r2 : w6.cell? ⟨(w.heap.size + 1), 2, none⟩ = some (.int .i64 0) := var_load o_r (by simp) 2 _ rfl
          have f_r2 : w6.frozen? ⟨(w.heap.size + 1), 2, none⟩ = false := var_frozen o_r (by simp) 2 _ rfl
          have c_r3 : w6.cell? ⟨(w.heap.size + 1), 3, none⟩ = some (.int .i64 0) := var_load o_r (by simp) 3 _ rfl
          have f_r3 : w6.frozen? ⟨(w.heap.size + 1), 3, none⟩ = false := var_frozen o_r (by simp) 3 _ rfl
          have l_r := var_lt o_r
          have c_a0 : w6.cell? ⟨w4.heap.size, 0, none⟩ = some (.int .i64 0) := var_load o_a (by simp) 0 _ rfl
          have f_a0 : w6.frozen? ⟨w4.heap.size, 0, none⟩ = false := var_frozen o_a (by simp) 0 _ rfl
          have c_a1 : w6.cell? ⟨w4.heap.size, 1, none⟩ = some (.int .i64 0) := var_load o_a (by simp) 1 _ rfl
          have f_a1 : w6.frozen? ⟨w4.heap.size, 1, none⟩ = false := var_frozen o_a (by simp) 1 _ rfl
          have c_a2 : w6.cell? ⟨w4.heap.size, 2, none⟩ = some (.int .i64 0) := var_load o_a (by simp) 2 _ rfl
          have f_a2 : w6.frozen? ⟨w4.heap.size, 2, none⟩ = false := var_frozen o_a (by simp) 2 _ rfl
          have c_a3 : w6.cell? ⟨w4.heap.size, 3, none⟩ = some (.int .i64 0) := var_load o_a (by simp) 3 _ rfl
          have f_a3 : w6.frozen? ⟨w4.heap.size, 3, none⟩ = false := var_frozen o_a (by simp) 3 _ rfl
          have l_a := var_lt o_a
          go_simp
          clear c_s0 f_s0 c_s1 f_s1 c_s2 f_s2 c_s3 f_s3 l_s c_r0 f_r0 c_r1 f_r1 c_r2 f_r2 c_r3 f_r3 l_r c_a0 f_a0 c_a1 f_a1 c_a2 f_a2 c_a3 f_a3 l_a
          obtain ⟨w7, hw7⟩ : ∃ y, y = ((((w6.setCell ⟨w4.heap.size, 0, none⟩ (.int .i64 x.Vendor)).setCell ⟨w4.heap.size, 1, none⟩ (.int .i64 x.Serial)).setCell ⟨w4.heap.size, 2, none⟩ (.int .i64 D)).setCell ⟨w4.heap.size, 3, none⟩ (.int .i64 0)) := ⟨_, rfl⟩
          obtain ⟨o_new, tw7⟩ := var_some [.int .i64 x.Vendor, .int .i64 x.Serial, .int .i64 D, .int .i64 0] 0 _ _ o_a (by simp)
          rw [show setAll w6 (w4.heap.size) 0 [.int .i64 x.Vendor, .int .i64 x.Serial, .int .i64 D, .int .i64 0] = w7 from hw7.symm] at o_new tw7
          replace o_a : Owns w7 _ (varD 31 4 [.int .i64 x.Vendor, .int .i64 x.Serial, .int .i64 D, .int .i64 0]) _ _ := o_new
          clear o_new
          replace o_s := owns_turned o_s tw7 (fun b hb hb2 => by simp at hb hb2; omega)
          replace o_r := owns_turned o_r tw7 (fun b hb hb2 => by simp at hb hb2; omega)
          replace HB := below_turned HB tw7 (fun b hb => by simp at hb; omega)
          have zw7 := tw7.2.2.2.1
          rw [← hw7]
          clear hw7
          refine hK.out _ _ ?_ (fun hHeld => ?_)
          · exact ⟨var_load o_s (by simp) 0 _ rfl, var_load o_s (by simp) 1 _ rfl, var_load o_s (by simp) 2 _ rfl, var_load o_s (by simp) 3 _ rfl⟩
          clear hK K
          try simp only [Act.put, List.setIfInBounds_toArray, List.set_cons_zero, List.set_cons_succ]
          refine wpAnyH_done (by kernel_rfl) ?_ _
          have c_s0 : w7.cell? ⟨w.heap.size, 0, none⟩ = some (.int .i64 x.Vendor) := var_load o_s (by simp) 0 _ rfl
          have f_s0 : w7.frozen? ⟨w.heap.size, 0, none⟩ = false := var_frozen o_s (by simp) 0 _ rfl
          have c_s1 : w7.cell? ⟨w.heap.size, 1, none⟩ = some (.int .i64 x.Serial) := var_load o_s (by simp) 1 _ rfl
          have f_s1 : w7.frozen? ⟨w.heap.size, 1, none⟩ = false := var_frozen o_s (by simp) 1 _ rfl
          have c_s2 : w7.cell? ⟨w.heap.size, 2, none⟩ = some (.int .i64 x.Seed) := var_load o_s (by simp) 2 _ rfl
          have f_s2 : w7.frozen? ⟨w.heap.size, 2, none⟩ = false := var_frozen o_s (by simp) 2 _ rfl
          have c_s3 : w7.cell? ⟨w.heap.size, 3, none⟩ = some (.int .i64 x.Counter) := var_load o_s (by simp) 3 _ rfl
          have f_s3 : w7.frozen? ⟨w.heap.size, 3, none⟩ = false := var_frozen o_s (by simp) 3 _ rfl
          have l_s := var_lt o_s
          have c_r0 : w7.cell? ⟨(w.heap.size + 1), 0, none⟩ = some (.int .i64 0) := var_load o_r (by simp) 0 _ rfl
          have f_r0 : w7.frozen? ⟨(w.heap.size + 1), 0, none⟩ = false := var_frozen o_r (by simp) 0 _ rfl
          have c_r1 : w7.cell? ⟨(w.heap.size + 1), 1, none⟩ = some (.int .i64 0) := var_load o_r (by simp) 1 _ rfl
          have f_r1 : w7.frozen? ⟨(w.heap.size + 1), 1, none⟩ = false := var_frozen o_r (by simp) 1 _ rfl
          have c_r2 : w7.cell? ⟨(w.heap.size + 1), 2, none⟩ = some (.int .i64 0) := var_load o_r (by simp) 2 _ rfl
          have f_r2 : w7.frozen? ⟨(w.heap.size + 1), 2, none⟩ = false := var_frozen o_r (by simp) 2 _ rfl
          have c_r3 : w7.cell? ⟨(w.heap.size + 1), 3, none⟩ = some (.int .i64 0) := var_load o_r (by simp) 3 _ rfl
          have f_r3 : w7.frozen? ⟨(w.heap.size + 1), 3, none⟩ = false := var_frozen o_r (by simp) 3 _ rfl
          have l_r := var_lt o_r
          have c_a0 : w7.cell? ⟨w4.heap.size, 0, none⟩ = some (.int .i64 x.Vendor) := var_load o_a (by simp) 0 _ rfl
          have f_a0 : w7.frozen? ⟨w4.heap.size, 0, none⟩ = false := var_frozen o_a (by simp) 0 _ rfl
          have c_a1 : w7.cell? ⟨w4.heap.size, 1, none⟩ = some (.int .i64 x.Serial) := var_load o_a (by simp) 1 _ rfl
          have f_a1 : w7.frozen? ⟨w4.heap.size, 1, none⟩ = false := var_frozen o_a (by simp) 1 _ rfl
          have c_a2 : w7.cell? ⟨w4.heap.size, 2, none⟩ = some (.int .i64 D) := var_load o_a (by simp) 2 _ rfl
          have f_a2 : w7.frozen? ⟨w4.heap.size, 2, none⟩ = false := var_frozen o_a (by simp) 2 _ rfl
          have c_a3 : w7.cell? ⟨w4.heap.size, 3, none⟩ = some (.int .i64 0) := var_load o_a (by simp) 3 _ rfl
          have f_a3 : w7.frozen? ⟨w4.heap.size, 3, none⟩ = false := var_frozen o_a (by simp) 3 _ rfl
          have l_a := var_lt o_a
          go_wp2_with fail
          clear c_s0 f_s0 c_s1 f_s1 c_s2 f_s2 c_s3 f_s3 l_s c_r0 f_r0 c_r1 f_r1 c_r2 f_r2 c_r3 f_r3 l_r c_a0 f_a0 c_a1 f_a1 c_a2 f_a2 c_a3 f_a3 l_a
          obtain ⟨w8, hw8⟩ : ∃ y, y = w7.drew := ⟨_, rfl⟩
          have bw8 : Below w7.heap.size w7 w8 := hw8 ▸ drewN_below w7 1 _
          replace o_s := owns_below o_s bw8
          replace o_r := owns_below o_r bw8
          replace o_a := owns_below o_a bw8
          replace HB := HB.trans (bw8.mono HB.size)
          have zw8 := bw8.size
          refine wp_region_held_drew (S := (fun wx => wx.cell? ⟨w.heap.size, 0, none⟩ = some (.int .i64 x.Vendor) ∧ wx.cell? ⟨w.heap.size, 1, none⟩ = some (.int .i64 x.Serial) ∧ wx.cell? ⟨w.heap.size, 2, none⟩ = some (.int .i64 x.Seed) ∧ wx.cell? ⟨w.heap.size, 3, none⟩ = some (.int .i64 x.Counter) ∧ wx.cell? ⟨w4.heap.size, 0, none⟩ = some (.int .i64 x.Vendor) ∧ wx.cell? ⟨w4.heap.size, 1, none⟩ = some (.int .i64 x.Serial) ∧ wx.cell? ⟨w4.heap.size, 2, none⟩ = some (.int .i64 D))) (by kernel_rfl) ?_ (fun hHeld => ?_)
          · rw [← hw8]; exact ⟨var_load o_s (by simp) 0 _ rfl, var_load o_s (by simp) 1 _ rfl, var_load o_s (by simp) 2 _ rfl, var_load o_s (by simp) 3 _ rfl, var_load o_a (by simp) 0 _ rfl, var_load o_a (by simp) 1 _ rfl, var_load o_a (by simp) 2 _ rfl⟩
          rw [← hw8] at hHeld ⊢
          clear hw8
          refine wpAnyH_take (i := 0) (oi := ?oiv2_0_1) (v := ?vv2_0_1) ?hiv2_0_1 (by kernel_rfl) (by kernel_rfl) (by kernel_rfl) ?hQv2_0_1 (Or.inl ⟨?hwv2_0_1, ?hyv2_0_1⟩) (by assumption) ?_
          case hiv2_0_1 => simp only [List.getElem?_toArray, List.getElem?_cons_zero]; rfl
          case hQv2_0_1 => exact fun _ _ _ h => h
          case hwv2_0_1 => rfl
          case hyv2_0_1 => intro w hSw; (try dsimp only at hSw); (first | (go_simp; done) | (go_simp; with_reducible rfl))
          try simp only [Act.put, List.setIfInBounds_toArray, List.set_cons_zero, List.set_cons_succ]
          refine wpAnyH_take (i := 1) (oi := ?oiv2_1_2) (v := ?vv2_1_2) ?hiv2_1_2 (by kernel_rfl) (by kernel_rfl) (by kernel_rfl) ?hQv2_1_2 (Or.inl ⟨?hwv2_1_2, ?hyv2_1_2⟩) (by assumption) ?_
          case hiv2_1_2 => simp only [List.getElem?_toArray, List.getElem?_cons_succ, List.getElem?_cons_zero]; rfl
          case hQv2_1_2 => exact fun _ _ _ h => h
          case hwv2_1_2 => rfl
          case hyv2_1_2 => intro w hSw; (try dsimp only at hSw); (first | (go_simp; done) | (go_simp; with_reducible rfl))
          try simp only [Act.put, List.setIfInBounds_toArray, List.set_cons_zero, List.set_cons_succ]
          refine wpAnyH_take (i := 2) (oi := ?oiv2_2_3) (v := ?vv2_2_3) ?hiv2_2_3 (by kernel_rfl) (by kernel_rfl) (by kernel_rfl) ?hQv2_2_3 (Or.inl ⟨?hwv2_2_3, ?hyv2_2_3⟩) (by assumption) ?_
          case hiv2_2_3 => simp only [List.getElem?_toArray, List.getElem?_cons_succ, List.getElem?_cons_zero]; rfl
          case hQv2_2_3 => exact fun _ _ _ h => h
          case hwv2_2_3 => rfl
          case hyv2_2_3 => intro w hSw; (try dsimp only at hSw); (first | (go_simp; done) | (go_simp; with_reducible rfl))
          try simp only [Act.put, List.setIfInBounds_toArray, List.set_cons_zero, List.set_cons_succ]
          refine wpAnyH_take (i := 4) (oi := ?oiv2_4_4) (v := ?vv2_4_4) ?hiv2_4_4 (by kernel_rfl) (by kernel_rfl) (by kernel_rfl) ?hQv2_4_4 (Or.inl ⟨?hwv2_4_4, ?hyv2_4_4⟩) (by assumption) ?_
          case hiv2_4_4 => simp only [List.getElem?_toArray, List.getElem?_cons_succ, List.getElem?_cons_zero]; rfl
          case hQv2_4_4 => exact fun _ _ _ h => h
          case hwv2_4_4 => rfl
          case hyv2_4_4 => intro w hSw; (try dsimp only at hSw); (first | (go_simp; done) | (go_simp; with_reducible rfl))
          try simp only [Act.put, List.setIfInBounds_toArray, List.set_cons_zero, List.set_cons_succ]
          refine wpAnyH_take (i := 5) (oi := ?oiv2_5_5) (v := ?vv2_5_5) ?hiv2_5_5 (by kernel_rfl) (by kernel_rfl) (by kernel_rfl) ?hQv2_5_5 (Or.inl ⟨?hwv2_5_5, ?hyv2_5_5⟩) (by assumption) ?_
          case hiv2_5_5 => simp only [List.getElem?_toArray, List.getElem?_cons_succ, List.getElem?_cons_zero]; rfl
          case hQv2_5_5 => exact fun _ _ _ h => h
          case hwv2_5_5 => rfl
          case hyv2_5_5 => intro w hSw; (try dsimp only at hSw); (first | (go_simp; done) | (go_simp; with_reducible rfl))
          try simp only [Act.put, List.setIfInBounds_toArray, List.set_cons_zero, List.set_cons_succ]
          refine wpAnyH_take (i := 6) (oi := ?oiv2_6_6) (v := ?vv2_6_6) ?hiv2_6_6 (by kernel_rfl) (by kernel_rfl) (by kernel_rfl) ?hQv2_6_6 (Or.inl ⟨?hwv2_6_6, ?hyv2_6_6⟩) (by assumption) ?_
          case hiv2_6_6 => simp only [List.getElem?_toArray, List.getElem?_cons_succ, List.getElem?_cons_zero]; rfl
          case hQv2_6_6 => exact fun _ _ _ h => h
          case hwv2_6_6 => rfl
          case hyv2_6_6 => intro w hSw; (try dsimp only at hSw); (first | (go_simp; done) | (go_simp; with_reducible rfl))
          try simp only [Act.put, List.setIfInBounds_toArray, List.set_cons_zero, List.set_cons_succ]
          refine wpAnyH_take (i := 7) (oi := ?oiv2_7_7) (v := ?vv2_7_7) ?hiv2_7_7 (by kernel_rfl) (by kernel_rfl) (by kernel_rfl) ?hQv2_7_7 (Or.inl ⟨?hwv2_7_7, ?hyv2_7_7⟩) (by assumption) ?_
          case hiv2_7_7 => simp only [List.getElem?_toArray, List.getElem?_cons_succ, List.getElem?_cons_zero]; rfl
          case hQv2_7_7 => exact fun _ _ _ h => h
          case hwv2_7_7 => rfl
          case hyv2_7_7 => intro w hSw; (try dsimp only at hSw); (first | (go_simp; done) | (go_simp; with_reducible rfl))
          try simp only [Act.put, List.setIfInBounds_toArray, List.set_cons_zero, List.set_cons_succ]
          refine wpAnyH_take (i := 8) (oi := ?oiv2_8_8) (v := ?vv2_8_8) ?hiv2_8_8 (by kernel_rfl) (by kernel_rfl) (by kernel_rfl) ?hQv2_8_8 (Or.inl ⟨?hwv2_8_8, ?hyv2_8_8⟩) (by assumption) ?_
          case hiv2_8_8 => simp only [List.getElem?_toArray, List.getElem?_cons_succ, List.getElem?_cons_zero]; rfl
          case hQv2_8_8 => exact fun _ _ _ h => h
          case hwv2_8_8 => rfl
          case hyv2_8_8 => intro w hSw; (try dsimp only at hSw); (first | (go_simp; done) | (go_simp; with_reducible rfl))
          try simp only [Act.put, List.setIfInBounds_toArray, List.set_cons_zero, List.set_cons_succ]
          refine wpAnyH_take (i := 9) (oi := ?oiv2_9_9) (v := ?vv2_9_9) ?hiv2_9_9 (by kernel_rfl) (by kernel_rfl) (by kernel_rfl) ?hQv2_9_9 (Or.inl ⟨?hwv2_9_9, ?hyv2_9_9⟩) (by assumption) ?_
          case hiv2_9_9 => simp only [List.getElem?_toArray, List.getElem?_cons_succ, List.getElem?_cons_zero]; rfl
          case hQv2_9_9 => exact fun _ _ _ h => h
          case hwv2_9_9 => rfl
          case hyv2_9_9 => intro w hSw; (try dsimp only at hSw); (first | (go_simp; done) | (go_simp; with_reducible rfl))
          try simp only [Act.put, List.setIfInBounds_toArray, List.set_cons_zero, List.set_cons_succ]
          refine wpAnyH_ready (rs := [3]) (by kernel_rfl) (by simp) ?_
          refine AllReadyH.cons (o := ?ov2_3_10) ?hiv2_3_10 (fun K hK => ?gv2_3_10) AllReadyH.nil
          case hiv2_3_10 => simp only [List.getElem?_toArray, List.getElem?_cons_succ, List.getElem?_cons_zero]; rfl
          case gv2_3_10 =>
            go_simp
            go_at_call 21
            (with_reducible refine (KP.out _).mono ?_); rintro e w9 ⟨rfl, bw9⟩
            replace o_s := owns_below o_s bw9
            replace o_r := owns_below o_r bw9
            replace o_a := owns_below o_a bw9
            replace HB := HB.trans (bw9.mono HB.size)
            have zw9 := bw9.size
            refine hK.out _ _ ?_ (fun hHeld => ?_)
            · exact ⟨var_load o_s (by simp) 0 _ rfl, var_load o_s (by simp) 1 _ rfl, var_load o_s (by simp) 2 _ rfl, var_load o_s (by simp) 3 _ rfl, var_load o_a (by simp) 0 _ rfl, var_load o_a (by simp) 1 _ rfl, var_load o_a (by simp) 2 _ rfl⟩
            clear hK K
            try simp only [Act.put, List.setIfInBounds_toArray, List.set_cons_zero, List.set_cons_succ]
            refine wpAnyH_ready (rs := [10]) (by kernel_rfl) (by simp) ?_
            refine AllReadyH.cons (o := ?ov2_10_11) ?hiv2_10_11 (fun K hK => ?gv2_10_11) AllReadyH.nil
            case hiv2_10_11 => simp only [List.getElem?_toArray, List.getElem?_cons_succ, List.getElem?_cons_zero]; rfl
            case gv2_10_11 =>
              go_simp
              go_at_call 64
              (with_reducible refine (KA.out _).mono ?_); rintro e w10 ⟨A9, c9, rfl, o9, bw10⟩
              replace o_s := owns_below o_s bw10
              replace o_r := owns_below o_r bw10
              replace o_a := owns_below o_a bw10
              replace HB := HB.trans (bw10.mono HB.size)
              have zw10 := bw10.size
              refine hK.out _ _ ?_ (fun hHeld => ?_)
              · exact ⟨var_load o_s (by simp) 0 _ rfl, var_load o_s (by simp) 1 _ rfl, var_load o_s (by simp) 2 _ rfl, var_load o_s (by simp) 3 _ rfl, var_load o_a (by simp) 0 _ rfl, var_load o_a (by simp) 1 _ rfl, var_load o_a (by simp) 2 _ rfl⟩
              clear hK K
              try simp only [Act.put, List.setIfInBounds_toArray, List.set_cons_zero, List.set_cons_succ]
              refine wpAnyH_ready (rs := [11]) (by kernel_rfl) (by simp) ?_
              refine AllReadyH.cons (o := ?ov2_11_12) ?hiv2_11_12 (fun K hK => ?gv2_11_12) AllReadyH.nil
              case hiv2_11_12 => simp only [List.getElem?_toArray, List.getElem?_cons_succ, List.getElem?_cons_zero]; rfl
              case gv2_11_12 =>
                go_simp
                go_at_call 63
                (with_reducible refine (specSgn _ A9 4 c9 (amsg x.Vendor x.Serial D) (vpr m x.Vendor) (Rd.own o9) HO.out (by omega)).mono ?_); rintro e w11 ⟨rfl, bw11⟩
                replace o_s := owns_below o_s bw11
                replace o_r := owns_below o_r bw11
                replace o_a := owns_below o_a bw11
                replace HB := HB.trans (bw11.mono HB.size)
                have zw11 := bw11.size
                rw [← HS.out]
                refine hK.out _ _ ?_ (fun hHeld => ?_)
                · exact ⟨var_load o_s (by simp) 0 _ rfl, var_load o_s (by simp) 1 _ rfl, var_load o_s (by simp) 2 _ rfl, var_load o_s (by simp) 3 _ rfl, var_load o_a (by simp) 0 _ rfl, var_load o_a (by simp) 1 _ rfl, var_load o_a (by simp) 2 _ rfl⟩
                clear hK K
                try simp only [Act.put, List.setIfInBounds_toArray, List.set_cons_zero, List.set_cons_succ]
                refine wpAnyH_take (i := 12) (oi := ?oiv2_12_13) (v := ?vv2_12_13) ?hiv2_12_13 (by kernel_rfl) (by kernel_rfl) (by kernel_rfl) ?hQv2_12_13 (Or.inl ⟨?hwv2_12_13, ?hyv2_12_13⟩) (by assumption) ?_
                case hiv2_12_13 => simp only [List.getElem?_toArray, List.getElem?_cons_succ, List.getElem?_cons_zero]; rfl
                case hQv2_12_13 => exact fun _ _ _ h => h
                case hwv2_12_13 => rfl
                case hyv2_12_13 => intro w hSw; (try dsimp only at hSw); (first | (go_simp; done) | (go_simp; with_reducible rfl))
                try simp only [Act.put, List.setIfInBounds_toArray, List.set_cons_zero, List.set_cons_succ]
                refine wpAnyH_ready (rs := [13]) (by kernel_rfl) (by simp) ?_
                refine AllReadyH.cons (o := ?ov2_13_14) ?hiv2_13_14 (fun K hK => ?gv2_13_14) AllReadyH.nil
                case hiv2_13_14 => simp only [List.getElem?_toArray, List.getElem?_cons_succ, List.getElem?_cons_zero]; rfl
                case gv2_13_14 =>
                  have c_s0 : w11.cell? ⟨w.heap.size, 0, none⟩ = some (.int .i64 x.Vendor) := var_load o_s (by simp) 0 _ rfl
                  have f_s0 : w11.frozen? ⟨w.heap.size, 0, none⟩ = false := var_frozen o_s (by simp) 0 _ rfl
                  have c_s1 : w11.cell? ⟨w.heap.size, 1, none⟩ = some (.int .i64 x.Serial) := var_load o_s (by simp) 1 _ rfl
                  have f_s1 : w11.frozen? ⟨w.heap.size, 1, none⟩ = false := var_frozen o_s (by simp) 1 _ rfl
                  have c_s2 : w11.cell? ⟨w.heap.size, 2, none⟩ = some (.int .i64 x.Seed) := var_load o_s (by simp) 2 _ rfl
                  have f_s2 : w11.frozen? ⟨w.heap.size, 2, none⟩ = false := var_frozen o_s (by simp) 2 _ rfl
                  have c_s3 : w11.cell? ⟨w.heap.size, 3, none⟩ = some (.int .i64 x.Counter) := var_load o_s (by simp) 3 _ rfl
                  have f_s3 : w11.frozen? ⟨w.heap.size, 3, none⟩ = false := var_frozen o_s (by simp) 3 _ rfl
                  have l_s := var_lt o_s
                  have c_r0 : w11.cell? ⟨(w.heap.size + 1), 0, none⟩ = some (.int .i64 0) := var_load o_r (by simp) 0 _ rfl
                  have f_r0 : w11.frozen? ⟨(w.heap.size + 1), 0, none⟩ = false := var_frozen o_r (by simp) 0 _ rfl
                  have c_r1 : w11.cell? ⟨(w.heap.size + 1), 1, none⟩ = some (.int .i64 0) := var_load o_r (by simp) 1 _ rfl
                  have f_r1 : w11.frozen? ⟨(w.heap.size + 1), 1, none⟩ = false := var_frozen o_r (by simp) 1 _ rfl
                  have c_r2 : w11.cell? ⟨(w.heap.size + 1), 2, none⟩ = some (.int .i64 0) := var_load o_r (by simp) 2 _ rfl
                  have f_r2 : w11.frozen? ⟨(w.heap.size + 1), 2, none⟩ = false := var_frozen o_r (by simp) 2 _ rfl
                  have c_r3 : w11.cell? ⟨(w.heap.size + 1), 3, none⟩ = some (.int .i64 0) := var_load o_r (by simp) 3 _ rfl
                  have f_r3 : w11.frozen? ⟨(w.heap.size + 1), 3, none⟩ = false := var_frozen o_r (by simp) 3 _ rfl
                  have l_r := var_lt o_r
                  have c_a0 : w11.cell? ⟨w4.heap.size, 0, none⟩ = some (.int .i64 x.Vendor) := var_load o_a (by simp) 0 _ rfl
                  have f_a0 : w11.frozen? ⟨w4.heap.size, 0, none⟩ = false := var_frozen o_a (by simp) 0 _ rfl
                  have c_a1 : w11.cell? ⟨w4.heap.size, 1, none⟩ = some (.int .i64 x.Serial) := var_load o_a (by simp) 1 _ rfl
                  have f_a1 : w11.frozen? ⟨w4.heap.size, 1, none⟩ = false := var_frozen o_a (by simp) 1 _ rfl
                  have c_a2 : w11.cell? ⟨w4.heap.size, 2, none⟩ = some (.int .i64 D) := var_load o_a (by simp) 2 _ rfl
                  have f_a2 : w11.frozen? ⟨w4.heap.size, 2, none⟩ = false := var_frozen o_a (by simp) 2 _ rfl
                  have c_a3 : w11.cell? ⟨w4.heap.size, 3, none⟩ = some (.int .i64 0) := var_load o_a (by simp) 3 _ rfl
                  have f_a3 : w11.frozen? ⟨w4.heap.size, 3, none⟩ = false := var_frozen o_a (by simp) 3 _ rfl
                  have l_a := var_lt o_a
                  go_simp
                  clear c_s0 f_s0 c_s1 f_s1 c_s2 f_s2 c_s3 f_s3 l_s c_r0 f_r0 c_r1 f_r1 c_r2 f_r2 c_r3 f_r3 l_r c_a0 f_a0 c_a1 f_a1 c_a2 f_a2 c_a3 f_a3 l_a
                  obtain ⟨w12, hw12⟩ : ∃ y, y = (w11.setCell ⟨w4.heap.size, 3, none⟩ (.int .i64 sg)) := ⟨_, rfl⟩
                  obtain ⟨o_new, tw12⟩ := var_some [.int .i64 sg] 3 _ _ o_a (by simp)
                  rw [show setAll w11 (w4.heap.size) 3 [.int .i64 sg] = w12 from hw12.symm] at o_new tw12
                  replace o_a : Owns w12 _ (varD 31 4 [.int .i64 x.Vendor, .int .i64 x.Serial, .int .i64 D, .int .i64 sg]) _ _ := o_new
                  clear o_new
                  replace o_s := owns_turned o_s tw12 (fun b hb hb2 => by simp at hb hb2; omega)
                  replace o_r := owns_turned o_r tw12 (fun b hb hb2 => by simp at hb hb2; omega)
                  replace HB := below_turned HB tw12 (fun b hb => by simp at hb; omega)
                  have zw12 := tw12.2.2.2.1
                  rw [← hw12]
                  clear hw12
                  refine hK.out _ _ ?_ (fun hHeld => ?_)
                  · exact ⟨var_load o_s (by simp) 0 _ rfl, var_load o_s (by simp) 1 _ rfl, var_load o_s (by simp) 2 _ rfl, var_load o_s (by simp) 3 _ rfl, var_load o_a (by simp) 0 _ rfl, var_load o_a (by simp) 1 _ rfl, var_load o_a (by simp) 2 _ rfl⟩
                  clear hK K
                  try simp only [Act.put, List.setIfInBounds_toArray, List.set_cons_zero, List.set_cons_succ]
                  refine wpAnyH_done (by kernel_rfl) ?_ _
                  have c_s0 : w12.cell? ⟨w.heap.size, 0, none⟩ = some (.int .i64 x.Vendor) := var_load o_s (by simp) 0 _ rfl
                  have f_s0 : w12.frozen? ⟨w.heap.size, 0, none⟩ = false := var_frozen o_s (by simp) 0 _ rfl
                  have c_s1 : w12.cell? ⟨w.heap.size, 1, none⟩ = some (.int .i64 x.Serial) := var_load o_s (by simp) 1 _ rfl
                  have f_s1 : w12.frozen? ⟨w.heap.size, 1, none⟩ = false := var_frozen o_s (by simp) 1 _ rfl
                  have c_s2 : w12.cell? ⟨w.heap.size, 2, none⟩ = some (.int .i64 x.Seed) := var_load o_s (by simp) 2 _ rfl
                  have f_s2 : w12.frozen? ⟨w.heap.size, 2, none⟩ = false := var_frozen o_s (by simp) 2 _ rfl
                  have c_s3 : w12.cell? ⟨w.heap.size, 3, none⟩ = some (.int .i64 x.Counter) := var_load o_s (by simp) 3 _ rfl
                  have f_s3 : w12.frozen? ⟨w.heap.size, 3, none⟩ = false := var_frozen o_s (by simp) 3 _ rfl
                  have l_s := var_lt o_s
                  have c_r0 : w12.cell? ⟨(w.heap.size + 1), 0, none⟩ = some (.int .i64 0) := var_load o_r (by simp) 0 _ rfl
                  have f_r0 : w12.frozen? ⟨(w.heap.size + 1), 0, none⟩ = false := var_frozen o_r (by simp) 0 _ rfl
                  have c_r1 : w12.cell? ⟨(w.heap.size + 1), 1, none⟩ = some (.int .i64 0) := var_load o_r (by simp) 1 _ rfl
                  have f_r1 : w12.frozen? ⟨(w.heap.size + 1), 1, none⟩ = false := var_frozen o_r (by simp) 1 _ rfl
                  have c_r2 : w12.cell? ⟨(w.heap.size + 1), 2, none⟩ = some (.int .i64 0) := var_load o_r (by simp) 2 _ rfl
                  have f_r2 : w12.frozen? ⟨(w.heap.size + 1), 2, none⟩ = false := var_frozen o_r (by simp) 2 _ rfl
                  have c_r3 : w12.cell? ⟨(w.heap.size + 1), 3, none⟩ = some (.int .i64 0) := var_load o_r (by simp) 3 _ rfl
                  have f_r3 : w12.frozen? ⟨(w.heap.size + 1), 3, none⟩ = false := var_frozen o_r (by simp) 3 _ rfl
                  have l_r := var_lt o_r
                  have c_a0 : w12.cell? ⟨w4.heap.size, 0, none⟩ = some (.int .i64 x.Vendor) := var_load o_a (by simp) 0 _ rfl
                  have f_a0 : w12.frozen? ⟨w4.heap.size, 0, none⟩ = false := var_frozen o_a (by simp) 0 _ rfl
                  have c_a1 : w12.cell? ⟨w4.heap.size, 1, none⟩ = some (.int .i64 x.Serial) := var_load o_a (by simp) 1 _ rfl
                  have f_a1 : w12.frozen? ⟨w4.heap.size, 1, none⟩ = false := var_frozen o_a (by simp) 1 _ rfl
                  have c_a2 : w12.cell? ⟨w4.heap.size, 2, none⟩ = some (.int .i64 D) := var_load o_a (by simp) 2 _ rfl
                  have f_a2 : w12.frozen? ⟨w4.heap.size, 2, none⟩ = false := var_frozen o_a (by simp) 2 _ rfl
                  have c_a3 : w12.cell? ⟨w4.heap.size, 3, none⟩ = some (.int .i64 sg) := var_load o_a (by simp) 3 _ rfl
                  have f_a3 : w12.frozen? ⟨w4.heap.size, 3, none⟩ = false := var_frozen o_a (by simp) 3 _ rfl
                  have l_a := var_lt o_a
                  go_wp2
                  clear c_s0 f_s0 c_s1 f_s1 c_s2 f_s2 c_s3 f_s3 l_s c_r0 f_r0 c_r1 f_r1 c_r2 f_r2 c_r3 f_r3 l_r c_a0 f_a0 c_a1 f_a1 c_a2 f_a2 c_a3 f_a3 l_a
                  obtain ⟨w13, hw13⟩ : ∃ y, y = ((((w12.setCell ⟨(w.heap.size + 1), 0, none⟩ (.int .i64 x.Vendor)).setCell ⟨(w.heap.size + 1), 1, none⟩ (.int .i64 x.Serial)).setCell ⟨(w.heap.size + 1), 2, none⟩ (.int .i64 D)).setCell ⟨(w.heap.size + 1), 3, none⟩ (.int .i64 sg)) := ⟨_, rfl⟩
                  obtain ⟨o_new, tw13⟩ := var_some [.int .i64 x.Vendor, .int .i64 x.Serial, .int .i64 D, .int .i64 sg] 0 _ _ o_r (by simp)
                  rw [show setAll w12 ((w.heap.size + 1)) 0 [.int .i64 x.Vendor, .int .i64 x.Serial, .int .i64 D, .int .i64 sg] = w13 from hw13.symm] at o_new tw13
                  replace o_r : Owns w13 _ (varD 31 4 [.int .i64 x.Vendor, .int .i64 x.Serial, .int .i64 D, .int .i64 sg]) _ _ := o_new
                  clear o_new
                  replace o_s := owns_turned o_s tw13 (fun b hb hb2 => by simp at hb hb2; omega)
                  replace o_a := owns_turned o_a tw13 (fun b hb hb2 => by simp at hb hb2; omega)
                  replace HB := below_turned HB tw13 (fun b hb => by simp at hb; omega)
                  have zw13 := tw13.2.2.2.1
                  rw [← hw13]
                  clear hw13
                  have y0 : w13.cell? ⟨(w.heap.size + 1), 0, none⟩ = some (.int .i64 x.Vendor) := var_load o_r (by simp) 0 _ rfl
                  have y1 : w13.cell? ⟨(w.heap.size + 1), 1, none⟩ = some (.int .i64 x.Serial) := var_load o_r (by simp) 1 _ rfl
                  have y2 : w13.cell? ⟨(w.heap.size + 1), 2, none⟩ = some (.int .i64 D) := var_load o_r (by simp) 2 _ rfl
                  have y3 : w13.cell? ⟨(w.heap.size + 1), 3, none⟩ = some (.int .i64 sg) := var_load o_r (by simp) 3 _ rfl
                  refine bodyPost_ret (v := .tuple #[.agg #[.int .i64 x.Vendor, .int .i64 x.Serial, .int .i64 D, .int .i64 sg], .bool true]) (by simp [results, Try.results23, go_sem, y0, y1, y2, y3]) rfl ?_
                  exact made_at ⟨x.Vendor, x.Serial, D, sg⟩ true HB
end Go.Proofs.Ytpeagjpcdoegoaa.C11c
