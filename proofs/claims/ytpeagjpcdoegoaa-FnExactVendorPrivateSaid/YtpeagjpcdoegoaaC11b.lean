/-
  Contracts of chapter 11's attestations, of the model: copies, revocations, attestations.
-/
import Derived.Test.YtpeagjpcdoegoaaC11
namespace Go.Proofs.Ytpeagjpcdoegoaa.C11b
open Go.ChangeShapes Go.WideShapes Go.ChangeAt Go.RowKit
open S0 S1 S9 Dm Fx M3 M8 C3 C6 C10 C11
set_option linter.unusedVariables false
set_option linter.unusedSimpArgs false
set_option maxRecDepth 100000
/-- A list of revoked devices that a call made. -/
theorem made_vl {w wf : World} {x : Fx.VendorList} {xs : List Int} {n c : Nat} {A : Option Addr} {bs : List Nat} (hx : xs = x.Revoked) (hn : n = xs.length) (o : Owns wf w.heap.size (flatD 3 .i64 1 n xs) (.slice A n c) bs) (hd : bs.Nodup) (HB : Below w.heap.size w wf) :
    Bx.MadeL x.dcs w (.returned (.agg #[.int .i64 x.Master, .slice A n c])) wf := by
  subst hx
  subst hn
  exact ⟨_, _, rfl, VendorList.mkO o, hd, HB⟩
set_option maxHeartbeats 1600000 in
theorem specCopy (w : World) (x : Fx.VendorList) (us : List Value) (h : RdsL w w.heap.size x.dcs us) (hn : x.Revoked.length ≤ 16000000) : Calls Try.prog 68 #[.agg us.toArray] w (Bx.MadeL x.dcs w) := by
  obtain ⟨A, c, rfl, g⟩ := VendorList.rds h
  have hr := rd_of g
  clear h g
  obtain ⟨xs, hxs⟩ : ∃ xs, xs = x.Revoked := ⟨_, rfl⟩
  rw [← hxs] at hr hn ⊢
  obtain ⟨n, hnn⟩ : ∃ n, n = xs.length := ⟨_, rfl⟩
  rw [← hnn] at hr hn ⊢
  have HXS := Lib.hid hxs
  have HL := Lib.hid hnn
  clear hnn hxs
  go_enter Try.func68, Try.ntmps68
  obtain ⟨w1, hw1⟩ : ∃ y, y = w.alloc (.cells #[.int .i64 x.Master, .slice A n c] 27) := ⟨_, rfl⟩
  have o_p := var_owns w 27 2 [.int .i64 x.Master, .slice A n c] rfl
  have bw1 : Below w.heap.size w w1 := hw1 ▸ (Below.refl _ _).alloc (Nat.le_refl _) _
  rw [← hw1] at o_p
  have sw1 : w1.heap.size = w.heap.size + 1 := by rw [hw1]; simp
  have zw1 : w.heap.size < w1.heap.size := by rw [hw1]; simp
  have HB := bw1
  obtain ⟨w2, hw2⟩ : ∃ y, y = w1.alloc (.cells #[.int .i64 0, .slice none 0 0] 27) := ⟨_, rfl⟩
  have o_r := var_owns w1 27 2 [.int .i64 0, .slice none 0 0] rfl
  have bw2 : Below w1.heap.size w1 w2 := hw2 ▸ (Below.refl _ _).alloc (Nat.le_refl _) _
  rw [← hw2] at o_r
  rw [sw1] at o_r
  have sw2 : w2.heap.size = w.heap.size + 1 + 1 := by rw [hw2]; simp [sw1]
  have zw2 : w1.heap.size < w2.heap.size := by rw [hw2]; simp
  replace o_p := owns_below o_p bw2
  replace HB := HB.trans (bw2.mono HB.size)
  have HR := Lib.hid (show ∀ wx, Below w.heap.size w wx → Rd wx wx.heap.size 1 A n (ints .i64 xs) from fun wx hb => hr.on hb)
  clear hr
  go_wp2_with fail
  rw [← hw1, ← hw2]
  clear hw1 hw2 sw1 sw2
  have HN := Below.refl w2.heap.size w2
  obtain ⟨w3, hw3⟩ : ∃ y, y = w2.drew := ⟨_, rfl⟩
  have bw3 : Below w2.heap.size w2 w3 := hw3 ▸ drewN_below w2 1 _
  replace o_p := owns_below o_p bw3
  replace o_r := owns_below o_r bw3
  replace HB := HB.trans (bw3.mono HB.size)
  have zw3 := bw3.size
  replace HN := HN.trans (bw3.mono HN.size)
  refine wp_region_held_drew (S := (fun wx => wx.cell? ⟨w.heap.size, 0, none⟩ = some (.int .i64 x.Master) ∧ wx.cell? ⟨w.heap.size, 1, none⟩ = some (.slice A n c))) (by kernel_rfl) ?_ (fun hHeld => ?_)
  · rw [← hw3]; exact ⟨var_load o_p (by simp) 0 _ rfl, var_load o_p (by simp) 1 _ rfl⟩
  rw [← hw3] at hHeld ⊢
  clear hw3
  refine wpAnyH_take (i := 0) (oi := ?oir_0_1) (v := ?vr_0_1) ?hir_0_1 (by kernel_rfl) (by kernel_rfl) (by kernel_rfl) ?hQr_0_1 (Or.inl ⟨?hwr_0_1, ?hyr_0_1⟩) (by assumption) ?_
  case hir_0_1 => simp only [List.getElem?_toArray, List.getElem?_cons_zero]; rfl
  case hQr_0_1 => exact fun _ _ _ h => h
  case hwr_0_1 => rfl
  case hyr_0_1 => intro w hSw; (try dsimp only at hSw); (first | (go_simp; done) | (go_simp; with_reducible rfl))
  try simp only [Act.put, List.setIfInBounds_toArray, List.set_cons_zero, List.set_cons_succ]
  refine wpAnyH_take (i := 1) (oi := ?oir_1_2) (v := ?vr_1_2) ?hir_1_2 (by kernel_rfl) (by kernel_rfl) (by kernel_rfl) ?hQr_1_2 (Or.inl ⟨?hwr_1_2, ?hyr_1_2⟩) (by assumption) ?_
  case hir_1_2 => simp only [List.getElem?_toArray, List.getElem?_cons_succ, List.getElem?_cons_zero]; rfl
  case hQr_1_2 => exact fun _ _ _ h => h
  case hwr_1_2 => rfl
  case hyr_1_2 => intro w hSw; (try dsimp only at hSw); (first | (go_simp; done) | (go_simp; with_reducible rfl))
  try simp only [Act.put, List.setIfInBounds_toArray, List.set_cons_zero, List.set_cons_succ]
  refine wpAnyH_take (i := 3) (oi := ?oir_3_3) (v := ?vr_3_3) ?hir_3_3 (by kernel_rfl) (by kernel_rfl) (by kernel_rfl) ?hQr_3_3 (Or.inl ⟨?hwr_3_3, ?hyr_3_3⟩) (by assumption) ?_
  case hir_3_3 => simp only [List.getElem?_toArray, List.getElem?_cons_succ, List.getElem?_cons_zero]; rfl
  case hQr_3_3 => exact fun _ _ _ h => h
  case hwr_3_3 => rfl
  case hyr_3_3 => intro w hSw; (try dsimp only at hSw); (first | (go_simp; done) | (go_simp; with_reducible rfl))
  try simp only [Act.put, List.setIfInBounds_toArray, List.set_cons_zero, List.set_cons_succ]
  refine wpAnyH_take (i := 4) (oi := ?oir_4_4) (v := ?vr_4_4) ?hir_4_4 (by kernel_rfl) (by kernel_rfl) (by kernel_rfl) ?hQr_4_4 (Or.inl ⟨?hwr_4_4, ?hyr_4_4⟩) (by assumption) ?_
  case hir_4_4 => simp only [List.getElem?_toArray, List.getElem?_cons_succ, List.getElem?_cons_zero]; rfl
  case hQr_4_4 => exact fun _ _ _ h => h
  case hwr_4_4 => rfl
  case hyr_4_4 => intro w hSw; (try dsimp only at hSw); (first | (go_simp; done) | (go_simp; with_reducible rfl))
  try simp only [Act.put, List.setIfInBounds_toArray, List.set_cons_zero, List.set_cons_succ]
  refine wpAnyH_ready (rs := [2]) (by kernel_rfl) (by simp) ?_
  refine AllReadyH.cons (o := ?or_2_5) ?hir_2_5 (fun K hK => ?gr_2_5) AllReadyH.nil
  case hir_2_5 => simp only [List.getElem?_toArray, List.getElem?_cons_succ, List.getElem?_cons_zero]; rfl
  case gr_2_5 =>
    go_simp
    obtain ⟨w4, hw4⟩ : ∃ y, y = w3.alloc (.cells #[] 3) := ⟨_, rfl⟩
    have o_R2 : (w3.alloc (.cells #[] 3)).ownsRow w2.heap.size 3 1 (.slice (some ⟨w3.heap.size, 0, none⟩) 0 0) 0 (ints .i64 []) := own_base (C6.own_ints w3 [] 0 rfl (by omega)) HN.size
    rw [← hw4] at o_R2 ⊢
    have bw4 : Below w3.heap.size w3 w4 := hw4 ▸ (Below.refl _ _).alloc (Nat.le_refl _) _
    clear hw4
    replace HN := HN.trans (bw4.mono HN.size)
    replace o_p := owns_below o_p bw4
    replace o_r := owns_below o_r bw4
    replace HB := HB.trans (bw4.mono HB.size)
    have zw4 := bw4.size
    refine hK.out _ _ ?_ (fun hHeld => ?_)
    · exact ⟨var_load o_p (by simp) 0 _ rfl, var_load o_p (by simp) 1 _ rfl⟩
    clear hK K
    try simp only [Act.put, List.setIfInBounds_toArray, List.set_cons_zero, List.set_cons_succ]
    refine wpAnyH_ready (rs := [5]) (by kernel_rfl) (by simp) ?_
    refine AllReadyH.cons (o := ?or_5_6) ?hir_5_6 (fun K hK => ?gr_5_6) AllReadyH.nil
    case hir_5_6 => simp only [List.getElem?_toArray, List.getElem?_cons_succ, List.getElem?_cons_zero]; rfl
    case gr_5_6 =>
      refine Ra.stepI w4 rfl (.tmp 5) (.tmp 7) rfl (w2.heap.size) (.slice (some ⟨w3.heap.size, 0, none⟩) 0 0) (0) _ (by simp [Act.eval]) o_R2 _ (A) (n) (c) (xs) (by simp [Act.eval]) (HR.out _ HB) (by omega) HN.size ?_
      intro vw5 w5 o_R5 gw5 kw5
      have Tw5 := turned_grown gw5
      have Qw5 : ∀ b, b ∈ Option.toList (Value.ownBlock (.slice (some ⟨w3.heap.size, 0, none⟩) 0 0)) → w2.heap.size ≤ b := fun b hb => (o_R2.lt b (by simpa using hb)).1
      replace o_p := owns_turned o_p Tw5 (fun b hb hb2 => by have h1 := Qw5 b hb2; simp at hb; omega)
      replace o_r := owns_turned o_r Tw5 (fun b hb hb2 => by have h1 := Qw5 b hb2; simp at hb; omega)
      replace HN := HN.grown gw5 HN.size (fun j hj => (o_R2.lt j hj).1)
      replace HB := below_turned HB Tw5 (fun b hb => by have h1 := Qw5 b hb; omega)
      have zw5 := gw5.size
      rw [ints_app] at o_R5
      rw [Nat.zero_add, List.nil_append] at o_R5
      obtain ⟨A5, c5, rfl⟩ := own_nil_form o_R5
      clear o_R2 kw5 gw5
      refine hK.out _ _ ?_ (fun hHeld => ?_)
      · exact ⟨var_load o_p (by simp) 0 _ rfl, var_load o_p (by simp) 1 _ rfl⟩
      clear hK K
      try simp only [Act.put, List.setIfInBounds_toArray, List.set_cons_zero, List.set_cons_succ]
      refine wpAnyH_take (i := 6) (oi := ?oir_6_7) (v := ?vr_6_7) ?hir_6_7 (by kernel_rfl) (by kernel_rfl) (by kernel_rfl) ?hQr_6_7 (Or.inl ⟨?hwr_6_7, ?hyr_6_7⟩) (by assumption) ?_
      case hir_6_7 => simp only [List.getElem?_toArray, List.getElem?_cons_succ, List.getElem?_cons_zero]; rfl
      case hQr_6_7 => exact fun _ _ _ h => h
      case hwr_6_7 => rfl
      case hyr_6_7 => intro w hSw; (try dsimp only at hSw); (first | (go_simp; done) | (go_simp; with_reducible rfl))
      try simp only [Act.put, List.setIfInBounds_toArray, List.set_cons_zero, List.set_cons_succ]
      refine wpAnyH_ready (rs := [7]) (by kernel_rfl) (by simp) ?_
      refine AllReadyH.cons (o := ?or_7_8) ?hir_7_8 (fun K hK => ?gr_7_8) AllReadyH.nil
      case hir_7_8 => simp only [List.getElem?_toArray, List.getElem?_cons_succ, List.getElem?_cons_zero]; rfl
      case gr_7_8 =>
        have c_p0 : w5.cell? ⟨w.heap.size, 0, none⟩ = some (.int .i64 x.Master) := var_load o_p (by simp) 0 _ rfl
        have f_p0 : w5.frozen? ⟨w.heap.size, 0, none⟩ = false := var_frozen o_p (by simp) 0 _ rfl
        have c_p1 : w5.cell? ⟨w.heap.size, 1, none⟩ = some (.slice A n c) := var_load o_p (by simp) 1 _ rfl
        have f_p1 : w5.frozen? ⟨w.heap.size, 1, none⟩ = false := var_frozen o_p (by simp) 1 _ rfl
        have l_p := var_lt o_p
        have c_r0 : w5.cell? ⟨(w.heap.size + 1), 0, none⟩ = some (.int .i64 0) := var_load o_r (by simp) 0 _ rfl
        have f_r0 : w5.frozen? ⟨(w.heap.size + 1), 0, none⟩ = false := var_frozen o_r (by simp) 0 _ rfl
        have c_r1 : w5.cell? ⟨(w.heap.size + 1), 1, none⟩ = some (.slice none 0 0) := var_load o_r (by simp) 1 _ rfl
        have f_r1 : w5.frozen? ⟨(w.heap.size + 1), 1, none⟩ = false := var_frozen o_r (by simp) 1 _ rfl
        have l_r := var_lt o_r
        go_simp
        clear c_p0 f_p0 c_p1 f_p1 l_p c_r0 f_r0 c_r1 f_r1 l_r
        obtain ⟨w6, hw6⟩ : ∃ y, y = ((w5.setCell ⟨(w.heap.size + 1), 0, none⟩ (.int .i64 x.Master)).setCell ⟨(w.heap.size + 1), 1, none⟩ (.slice A5 (n) c5)) := ⟨_, rfl⟩
        obtain ⟨o_new, tw6⟩ := var_some [.int .i64 x.Master, .slice A5 (n) c5] 0 _ _ o_r (by simp)
        rw [show setAll w5 ((w.heap.size + 1)) 0 [.int .i64 x.Master, .slice A5 (n) c5] = w6 from hw6.symm] at o_new tw6
        replace o_r : Owns w6 _ (varD 27 2 [.int .i64 x.Master, .slice A5 (n) c5]) _ _ := o_new
        clear o_new
        replace o_p := owns_turned o_p tw6 (fun b hb hb2 => by simp at hb hb2; omega)
        replace HB := below_turned HB tw6 (fun b hb => by simp at hb; omega)
        have zw6 := tw6.2.2.2.1
        rw [← hw6]
        clear hw6
        replace o_R5 := (flat_owns (owns_turned (owns_flat o_R5) tw6 (fun b hb hb2 => by have h1 := (o_R5.lt b (by simpa using hb)).1; simp at hb2; omega))).1
        refine hK.out _ _ ?_ (fun hHeld => ?_)
        · exact ⟨var_load o_p (by simp) 0 _ rfl, var_load o_p (by simp) 1 _ rfl⟩
        clear hK K
        try simp only [Act.put, List.setIfInBounds_toArray, List.set_cons_zero, List.set_cons_succ]
        refine wpAnyH_done (by kernel_rfl) ?_ _
        go_wp2
        have o_z := owns_flat (own_base o_R5 (show w.heap.size ≤ w2.heap.size by omega))
        have y0 : w6.cell? ⟨(w.heap.size + 1), 0, none⟩ = some (.int .i64 x.Master) := var_load o_r (by simp) 0 _ rfl
        have y1 : w6.cell? ⟨(w.heap.size + 1), 1, none⟩ = some (.slice A5 (n) c5) := var_load o_r (by simp) 1 _ rfl
        refine bodyPost_ret (v := .agg #[.int .i64 x.Master, .slice A5 (n) c5]) (by simp [results, Try.results68, go_sem, y0, y1]) rfl ?_
        exact made_vl HXS.out HL.out o_z (Ra.block_nodup _) HB
def ins (xs : List Int) (c : Int) : List Int := xs.takeWhile (fun y => decide (y < c)) ++ c :: xs.dropWhile (fun y => decide (y < c))
noncomputable def rvkB (x : Fx.VendorList) (v s : Int) : Bool := vlB x && rngB v s && !revB x v s
noncomputable def rvkX (x : Fx.VendorList) (v s : Int) : Fx.VendorList := if rvkB x v s then ⟨x.Master, ins x.Revoked (v * 10000000 + s)⟩ else x
theorem ins_at {xs : List Int} {c : Int} {k : Nat} (h1 : ∀ j, j < k → xs.getD j 0 < c) (hk : k ≤ xs.length) (h2 : k = xs.length ∨ c ≤ xs.getD k 0) : ins xs c = xs.take k ++ c :: xs.drop k := by
  have key : xs.takeWhile (fun y => decide (y < c)) = xs.take k ∧ xs.dropWhile (fun y => decide (y < c)) = xs.drop k := by
    induction xs generalizing k with
    | nil => obtain rfl : k = 0 := by simpa using hk
             exact ⟨rfl, rfl⟩
    | cons y ys ih =>
      cases k with
      | zero =>
        have h3 : ¬ y < c := by
          rcases h2 with h2 | h2
          · simp at h2
          · simp at h2; omega
        simp [List.takeWhile, List.dropWhile, h3]
      | succ k =>
        have h3 : y < c := by have := h1 0 (by omega); simpa using this
        have h4 := ih (k := k) (fun j hj => by have := h1 (j + 1) (by omega); simpa using this) (by simp at hk; omega) (by
          rcases h2 with h2 | h2
          · left; simp at h2; omega
          · right; simpa using h2)
        simp [List.takeWhile, List.dropWhile, h3, h4.1, h4.2]
  unfold ins
  rw [key.1, key.2]
theorem rvk_len (x : Fx.VendorList) (v s : Int) : (rvkX x v s).Revoked.length ≤ x.Revoked.length + 1 := by
  unfold rvkX
  split
  · show (ins x.Revoked _).length ≤ _
    unfold ins
    have h := congrArg List.length (List.takeWhile_append_dropWhile (p := fun y => decide (y < v * 10000000 + s)) (l := x.Revoked))
    rw [List.length_append] at h
    rw [List.length_append, List.length_cons]
    omega
  · omega
theorem made_rv {w wf : World} {x : Fx.VendorList} {xs : List Int} {n c : Nat} {A : Option Addr} {bs : List Nat} {m : Int} {b : Bool} (hx : xs = x.Revoked) (hm : m = x.Master) (hn : n = xs.length) (o : Owns wf w.heap.size (flatD 3 .i64 1 n xs) (.slice A n c) bs) (hd : bs.Nodup) (HB : Below w.heap.size w wf) :
    MadeLx x.dcs (fun vs => .tuple #[.agg vs.toArray, .bool b]) w (.returned (.tuple #[.agg #[.int .i64 m, .slice A n c], .bool b])) wf := by
  subst hx
  subst hm
  subst hn
  exact ⟨_, _, rfl, VendorList.mkO o, hd, HB⟩
set_option maxHeartbeats 16000000 in
theorem specRvk (w : World) (x : Fx.VendorList) (v s : Int) (us : List Value) (h : RdsL w w.heap.size x.dcs us) (hsh : ∀ A c, us = [.int .i64 x.Master, .slice A x.Revoked.length c] → Sh A x.Revoked.length c) (hn : x.Revoked.length ≤ 16000000) :
    Calls Try.prog 32 #[.agg us.toArray, .int .i64 v, .int .i64 s] w (MadeLx (rvkX x v s).dcs (fun vs => .tuple #[.agg vs.toArray, .bool (rvkB x v s)]) w) := by
  obtain ⟨A, c, rfl, g⟩ := VendorList.rds h
  have hsh2 := hsh A c rfl
  have HRD := Lib.hid (fun (wx : World) (hb : Below w.heap.size w wx) => show RdsL wx wx.heap.size x.dcs [.int .i64 x.Master, .slice A x.Revoked.length c] from rdsL_on h hb)
  have hr := rd_of g
  clear h g hsh
  have HNN := Lib.hid hn
  have KV := Lib.hid (fun (wx : World) (hb : Below w.heap.size w wx) => specVl wx x _ (HRD.out wx hb) HNN.out)
  have KR := Lib.hid (fun (wx : World) (hb : Below w.heap.size w wx) => specRev wx x v s _ (HRD.out wx hb) HNN.out)
  have KC := Lib.hid (fun (wx : World) (hb : Below w.heap.size w wx) => specCopy wx x _ (HRD.out wx hb) HNN.out)
  obtain ⟨xs, hxs⟩ : ∃ xs, xs = x.Revoked := ⟨_, rfl⟩
  rw [← hxs] at hr hn hsh2 KV KR KC
  obtain ⟨n, hnn⟩ : ∃ n, n = xs.length := ⟨_, rfl⟩
  rw [← hnn] at hr hn hsh2 KV KR KC
  rw [← hxs, ← hnn]
  have HXS := Lib.hid hxs
  have HL := Lib.hid hnn
  clear hnn hxs HNN HRD
  have hsc := hsh2.cap
  have HSH := Lib.hid hsh2
  clear hsh2
  have HR := Lib.hid (show ∀ wx, Below w.heap.size w wx → Rd wx wx.heap.size 1 A n (ints .i64 xs) from fun wx hb => hr.on hb)
  clear hr
  cases h1 : vlB x with
  | false =>
    have hok : rvkB x v s = false := by unfold rvkB; rw [h1]; rfl
    have e1 : rvkX x v s = x := by unfold rvkX; rw [hok]; rfl
    rw [e1, hok]
    clear e1 hok
    rw [h1] at KV
    clear h1
    go_enter Try.func32, Try.ntmps32
    obtain ⟨w1, hw1⟩ : ∃ y, y = w.alloc (.cells #[.int .i64 x.Master, .slice A n c] 27) := ⟨_, rfl⟩
    have o_p := var_owns w 27 2 [.int .i64 x.Master, .slice A n c] rfl
    have bw1 : Below w.heap.size w w1 := hw1 ▸ (Below.refl _ _).alloc (Nat.le_refl _) _
    rw [← hw1] at o_p
    have sw1 : w1.heap.size = w.heap.size + 1 := by rw [hw1]; simp
    have zw1 : w.heap.size < w1.heap.size := by rw [hw1]; simp
    have HB := bw1
    obtain ⟨w2, hw2⟩ : ∃ y, y = w1.alloc (.cells #[.int .i64 0, .slice none 0 0] 27) := ⟨_, rfl⟩
    have o_r := var_owns w1 27 2 [.int .i64 0, .slice none 0 0] rfl
    have bw2 : Below w1.heap.size w1 w2 := hw2 ▸ (Below.refl _ _).alloc (Nat.le_refl _) _
    rw [← hw2] at o_r
    rw [sw1] at o_r
    have sw2 : w2.heap.size = w.heap.size + 1 + 1 := by rw [hw2]; simp [sw1]
    have zw2 : w1.heap.size < w2.heap.size := by rw [hw2]; simp
    replace o_p := owns_below o_p bw2
    replace HB := HB.trans (bw2.mono HB.size)
    go_wp2_with fail
    rw [← hw1, ← hw2]
    clear hw1 hw2 sw1 sw2
    (refine (KV.out _ HB).mono ?_); rintro e w3 ⟨rfl, bw3⟩
    replace o_p := owns_below o_p bw3
    replace o_r := owns_below o_r bw3
    replace HB := HB.trans (bw3.mono HB.size)
    have zw3 := bw3.size
    have c_p0 : w3.cell? ⟨w.heap.size, 0, none⟩ = some (.int .i64 x.Master) := var_load o_p (by simp) 0 _ rfl
    have f_p0 : w3.frozen? ⟨w.heap.size, 0, none⟩ = false := var_frozen o_p (by simp) 0 _ rfl
    have c_p1 : w3.cell? ⟨w.heap.size, 1, none⟩ = some (.slice A n c) := var_load o_p (by simp) 1 _ rfl
    have f_p1 : w3.frozen? ⟨w.heap.size, 1, none⟩ = false := var_frozen o_p (by simp) 1 _ rfl
    have l_p := var_lt o_p
    have c_r0 : w3.cell? ⟨(w.heap.size + 1), 0, none⟩ = some (.int .i64 0) := var_load o_r (by simp) 0 _ rfl
    have f_r0 : w3.frozen? ⟨(w.heap.size + 1), 0, none⟩ = false := var_frozen o_r (by simp) 0 _ rfl
    have c_r1 : w3.cell? ⟨(w.heap.size + 1), 1, none⟩ = some (.slice none 0 0) := var_load o_r (by simp) 1 _ rfl
    have f_r1 : w3.frozen? ⟨(w.heap.size + 1), 1, none⟩ = false := var_frozen o_r (by simp) 1 _ rfl
    have l_r := var_lt o_r
    go_wp2_with fail
    (refine (KC.out _ HB).mono ?_); rintro e w4 ⟨v_z, s_z, rfl, o_z, n_z, bw4⟩
    clear c_p0 f_p0 c_p1 f_p1 l_p c_r0 f_r0 c_r1 f_r1 l_r
    replace o_p := owns_below o_p bw4
    replace o_r := owns_below o_r bw4
    replace HB := HB.trans (bw4.mono HB.size)
    have zw4 := bw4.size
    obtain ⟨A_z, c_z, b_z, rfl, o_y, hby⟩ := VendorList.owns o_z
    unfold numsD at o_y
    rw [← HXS.out, ← HL.out] at o_y
    rw [show x.Revoked.length = n by rw [← HXS.out, ← HL.out]]
    have i_y := Fx.made_in o_y
    replace o_y := owns_base (show w.heap.size ≤ w3.heap.size by omega) _ _ _ o_y
    clear o_z hby
    have c_p0 : w4.cell? ⟨w.heap.size, 0, none⟩ = some (.int .i64 x.Master) := var_load o_p (by simp) 0 _ rfl
    have f_p0 : w4.frozen? ⟨w.heap.size, 0, none⟩ = false := var_frozen o_p (by simp) 0 _ rfl
    have c_p1 : w4.cell? ⟨w.heap.size, 1, none⟩ = some (.slice A n c) := var_load o_p (by simp) 1 _ rfl
    have f_p1 : w4.frozen? ⟨w.heap.size, 1, none⟩ = false := var_frozen o_p (by simp) 1 _ rfl
    have l_p := var_lt o_p
    have c_r0 : w4.cell? ⟨(w.heap.size + 1), 0, none⟩ = some (.int .i64 0) := var_load o_r (by simp) 0 _ rfl
    have f_r0 : w4.frozen? ⟨(w.heap.size + 1), 0, none⟩ = false := var_frozen o_r (by simp) 0 _ rfl
    have c_r1 : w4.cell? ⟨(w.heap.size + 1), 1, none⟩ = some (.slice none 0 0) := var_load o_r (by simp) 1 _ rfl
    have f_r1 : w4.frozen? ⟨(w.heap.size + 1), 1, none⟩ = false := var_frozen o_r (by simp) 1 _ rfl
    have l_r := var_lt o_r
    go_wp2
    clear c_p0 f_p0 c_p1 f_p1 l_p c_r0 f_r0 c_r1 f_r1 l_r
    obtain ⟨w5, hw5⟩ : ∃ y, y = ((w4.setCell ⟨(w.heap.size + 1), 0, none⟩ (.int .i64 x.Master)).setCell ⟨(w.heap.size + 1), 1, none⟩ (.slice A_z n c_z)) := ⟨_, rfl⟩
    obtain ⟨o_new, tw5⟩ := var_some [.int .i64 x.Master, .slice A_z n c_z] 0 _ _ o_r (by simp)
    rw [show setAll w4 ((w.heap.size + 1)) 0 [.int .i64 x.Master, .slice A_z n c_z] = w5 from hw5.symm] at o_new tw5
    replace o_r : Owns w5 _ (varD 27 2 [.int .i64 x.Master, .slice A_z n c_z]) _ _ := o_new
    clear o_new
    replace o_p := owns_turned o_p tw5 (fun b hb hb2 => by simp at hb hb2; omega)
    replace o_y := owns_turned o_y tw5 (fun b hb hb2 => by have h1 := i_y b hb; simp at hb2; omega)
    replace HB := below_turned HB tw5 (fun b hb => by simp at hb; omega)
    have zw5 := tw5.2.2.2.1
    rw [← hw5]
    clear hw5
    have y0 : w5.cell? ⟨(w.heap.size + 1), 0, none⟩ = some (.int .i64 x.Master) := var_load o_r (by simp) 0 _ rfl
    have y1 : w5.cell? ⟨(w.heap.size + 1), 1, none⟩ = some (.slice A_z n c_z) := var_load o_r (by simp) 1 _ rfl
    refine bodyPost_ret (v := .tuple #[.agg #[.int .i64 x.Master, .slice A_z n c_z], .bool false]) (by simp [results, Try.results32, go_sem, y0, y1]) rfl ?_
    exact made_rv HXS.out rfl HL.out o_y (by rw [(flat_owns o_y).2]; exact Ra.block_nodup _) HB
  | true =>
    rw [h1] at KV
    cases h2 : rngB v s with
    | false =>
      have hok : rvkB x v s = false := by unfold rvkB; rw [h1, h2]; rfl
      have e1 : rvkX x v s = x := by unfold rvkX; rw [hok]; rfl
      rw [e1, hok]
      clear e1 hok
      have KG := Lib.hid (fun wx : World => show Calls Try.prog 67 #[.int .i64 v, .int .i64 s] wx (fun e w' => e = .returned (.bool false) ∧ wx = w') from by have h9 := specRng wx v s; rw [h2] at h9; exact h9)
      clear h1 h2
      go_enter Try.func32, Try.ntmps32
      obtain ⟨w1, hw1⟩ : ∃ y, y = w.alloc (.cells #[.int .i64 x.Master, .slice A n c] 27) := ⟨_, rfl⟩
      have o_p := var_owns w 27 2 [.int .i64 x.Master, .slice A n c] rfl
      have bw1 : Below w.heap.size w w1 := hw1 ▸ (Below.refl _ _).alloc (Nat.le_refl _) _
      rw [← hw1] at o_p
      have sw1 : w1.heap.size = w.heap.size + 1 := by rw [hw1]; simp
      have zw1 : w.heap.size < w1.heap.size := by rw [hw1]; simp
      have HB := bw1
      obtain ⟨w2, hw2⟩ : ∃ y, y = w1.alloc (.cells #[.int .i64 0, .slice none 0 0] 27) := ⟨_, rfl⟩
      have o_r := var_owns w1 27 2 [.int .i64 0, .slice none 0 0] rfl
      have bw2 : Below w1.heap.size w1 w2 := hw2 ▸ (Below.refl _ _).alloc (Nat.le_refl _) _
      rw [← hw2] at o_r
      rw [sw1] at o_r
      have sw2 : w2.heap.size = w.heap.size + 1 + 1 := by rw [hw2]; simp [sw1]
      have zw2 : w1.heap.size < w2.heap.size := by rw [hw2]; simp
      replace o_p := owns_below o_p bw2
      replace HB := HB.trans (bw2.mono HB.size)
      go_wp2_with fail
      rw [← hw1, ← hw2]
      clear hw1 hw2 sw1 sw2
      (refine (KV.out _ HB).mono ?_); rintro e w3 ⟨rfl, bw3⟩
      replace o_p := owns_below o_p bw3
      replace o_r := owns_below o_r bw3
      replace HB := HB.trans (bw3.mono HB.size)
      have zw3 := bw3.size
      have c_p0 : w3.cell? ⟨w.heap.size, 0, none⟩ = some (.int .i64 x.Master) := var_load o_p (by simp) 0 _ rfl
      have f_p0 : w3.frozen? ⟨w.heap.size, 0, none⟩ = false := var_frozen o_p (by simp) 0 _ rfl
      have c_p1 : w3.cell? ⟨w.heap.size, 1, none⟩ = some (.slice A n c) := var_load o_p (by simp) 1 _ rfl
      have f_p1 : w3.frozen? ⟨w.heap.size, 1, none⟩ = false := var_frozen o_p (by simp) 1 _ rfl
      have l_p := var_lt o_p
      have c_r0 : w3.cell? ⟨(w.heap.size + 1), 0, none⟩ = some (.int .i64 0) := var_load o_r (by simp) 0 _ rfl
      have f_r0 : w3.frozen? ⟨(w.heap.size + 1), 0, none⟩ = false := var_frozen o_r (by simp) 0 _ rfl
      have c_r1 : w3.cell? ⟨(w.heap.size + 1), 1, none⟩ = some (.slice none 0 0) := var_load o_r (by simp) 1 _ rfl
      have f_r1 : w3.frozen? ⟨(w.heap.size + 1), 1, none⟩ = false := var_frozen o_r (by simp) 1 _ rfl
      have l_r := var_lt o_r
      go_wp2_with fail
      (refine (KG.out _).mono ?_); rintro e wq ⟨rfl, rfl⟩
      go_wp2_with fail
      (refine (KC.out _ HB).mono ?_); rintro e w4 ⟨v_z, s_z, rfl, o_z, n_z, bw4⟩
      clear c_p0 f_p0 c_p1 f_p1 l_p c_r0 f_r0 c_r1 f_r1 l_r
      replace o_p := owns_below o_p bw4
      replace o_r := owns_below o_r bw4
      replace HB := HB.trans (bw4.mono HB.size)
      have zw4 := bw4.size
      obtain ⟨A_z, c_z, b_z, rfl, o_y, hby⟩ := VendorList.owns o_z
      unfold numsD at o_y
      rw [← HXS.out, ← HL.out] at o_y
      rw [show x.Revoked.length = n by rw [← HXS.out, ← HL.out]]
      have i_y := Fx.made_in o_y
      replace o_y := owns_base (show w.heap.size ≤ w3.heap.size by omega) _ _ _ o_y
      clear o_z hby
      have c_p0 : w4.cell? ⟨w.heap.size, 0, none⟩ = some (.int .i64 x.Master) := var_load o_p (by simp) 0 _ rfl
      have f_p0 : w4.frozen? ⟨w.heap.size, 0, none⟩ = false := var_frozen o_p (by simp) 0 _ rfl
      have c_p1 : w4.cell? ⟨w.heap.size, 1, none⟩ = some (.slice A n c) := var_load o_p (by simp) 1 _ rfl
      have f_p1 : w4.frozen? ⟨w.heap.size, 1, none⟩ = false := var_frozen o_p (by simp) 1 _ rfl
      have l_p := var_lt o_p
      have c_r0 : w4.cell? ⟨(w.heap.size + 1), 0, none⟩ = some (.int .i64 0) := var_load o_r (by simp) 0 _ rfl
      have f_r0 : w4.frozen? ⟨(w.heap.size + 1), 0, none⟩ = false := var_frozen o_r (by simp) 0 _ rfl
      have c_r1 : w4.cell? ⟨(w.heap.size + 1), 1, none⟩ = some (.slice none 0 0) := var_load o_r (by simp) 1 _ rfl
      have f_r1 : w4.frozen? ⟨(w.heap.size + 1), 1, none⟩ = false := var_frozen o_r (by simp) 1 _ rfl
      have l_r := var_lt o_r
      go_wp2
      clear c_p0 f_p0 c_p1 f_p1 l_p c_r0 f_r0 c_r1 f_r1 l_r
      obtain ⟨w5, hw5⟩ : ∃ y, y = ((w4.setCell ⟨(w.heap.size + 1), 0, none⟩ (.int .i64 x.Master)).setCell ⟨(w.heap.size + 1), 1, none⟩ (.slice A_z n c_z)) := ⟨_, rfl⟩
      obtain ⟨o_new, tw5⟩ := var_some [.int .i64 x.Master, .slice A_z n c_z] 0 _ _ o_r (by simp)
      rw [show setAll w4 ((w.heap.size + 1)) 0 [.int .i64 x.Master, .slice A_z n c_z] = w5 from hw5.symm] at o_new tw5
      replace o_r : Owns w5 _ (varD 27 2 [.int .i64 x.Master, .slice A_z n c_z]) _ _ := o_new
      clear o_new
      replace o_p := owns_turned o_p tw5 (fun b hb hb2 => by simp at hb hb2; omega)
      replace o_y := owns_turned o_y tw5 (fun b hb hb2 => by have h1 := i_y b hb; simp at hb2; omega)
      replace HB := below_turned HB tw5 (fun b hb => by simp at hb; omega)
      have zw5 := tw5.2.2.2.1
      rw [← hw5]
      clear hw5
      have y0 : w5.cell? ⟨(w.heap.size + 1), 0, none⟩ = some (.int .i64 x.Master) := var_load o_r (by simp) 0 _ rfl
      have y1 : w5.cell? ⟨(w.heap.size + 1), 1, none⟩ = some (.slice A_z n c_z) := var_load o_r (by simp) 1 _ rfl
      refine bodyPost_ret (v := .tuple #[.agg #[.int .i64 x.Master, .slice A_z n c_z], .bool false]) (by simp [results, Try.results32, go_sem, y0, y1]) rfl ?_
      exact made_rv HXS.out rfl HL.out o_y (by rw [(flat_owns o_y).2]; exact Ra.block_nodup _) HB
    | true =>
      have KG := Lib.hid (fun wx : World => show Calls Try.prog 67 #[.int .i64 v, .int .i64 s] wx (fun e w' => e = .returned (.bool true) ∧ wx = w') from by have h9 := specRng wx v s; rw [h2] at h9; exact h9)
      cases h3 : revB x v s with
      | true =>
        have hok : rvkB x v s = false := by unfold rvkB; rw [h1, h2, h3]; rfl
        have e1 : rvkX x v s = x := by unfold rvkX; rw [hok]; rfl
        rw [e1, hok]
        clear e1 hok
        rw [h3] at KR
        clear h1 h2 h3
        go_enter Try.func32, Try.ntmps32
        obtain ⟨w1, hw1⟩ : ∃ y, y = w.alloc (.cells #[.int .i64 x.Master, .slice A n c] 27) := ⟨_, rfl⟩
        have o_p := var_owns w 27 2 [.int .i64 x.Master, .slice A n c] rfl
        have bw1 : Below w.heap.size w w1 := hw1 ▸ (Below.refl _ _).alloc (Nat.le_refl _) _
        rw [← hw1] at o_p
        have sw1 : w1.heap.size = w.heap.size + 1 := by rw [hw1]; simp
        have zw1 : w.heap.size < w1.heap.size := by rw [hw1]; simp
        have HB := bw1
        obtain ⟨w2, hw2⟩ : ∃ y, y = w1.alloc (.cells #[.int .i64 0, .slice none 0 0] 27) := ⟨_, rfl⟩
        have o_r := var_owns w1 27 2 [.int .i64 0, .slice none 0 0] rfl
        have bw2 : Below w1.heap.size w1 w2 := hw2 ▸ (Below.refl _ _).alloc (Nat.le_refl _) _
        rw [← hw2] at o_r
        rw [sw1] at o_r
        have sw2 : w2.heap.size = w.heap.size + 1 + 1 := by rw [hw2]; simp [sw1]
        have zw2 : w1.heap.size < w2.heap.size := by rw [hw2]; simp
        replace o_p := owns_below o_p bw2
        replace HB := HB.trans (bw2.mono HB.size)
        go_wp2_with fail
        rw [← hw1, ← hw2]
        clear hw1 hw2 sw1 sw2
        (refine (KV.out _ HB).mono ?_); rintro e w3 ⟨rfl, bw3⟩
        replace o_p := owns_below o_p bw3
        replace o_r := owns_below o_r bw3
        replace HB := HB.trans (bw3.mono HB.size)
        have zw3 := bw3.size
        have c_p0 : w3.cell? ⟨w.heap.size, 0, none⟩ = some (.int .i64 x.Master) := var_load o_p (by simp) 0 _ rfl
        have f_p0 : w3.frozen? ⟨w.heap.size, 0, none⟩ = false := var_frozen o_p (by simp) 0 _ rfl
        have c_p1 : w3.cell? ⟨w.heap.size, 1, none⟩ = some (.slice A n c) := var_load o_p (by simp) 1 _ rfl
        have f_p1 : w3.frozen? ⟨w.heap.size, 1, none⟩ = false := var_frozen o_p (by simp) 1 _ rfl
        have l_p := var_lt o_p
        have c_r0 : w3.cell? ⟨(w.heap.size + 1), 0, none⟩ = some (.int .i64 0) := var_load o_r (by simp) 0 _ rfl
        have f_r0 : w3.frozen? ⟨(w.heap.size + 1), 0, none⟩ = false := var_frozen o_r (by simp) 0 _ rfl
        have c_r1 : w3.cell? ⟨(w.heap.size + 1), 1, none⟩ = some (.slice none 0 0) := var_load o_r (by simp) 1 _ rfl
        have f_r1 : w3.frozen? ⟨(w.heap.size + 1), 1, none⟩ = false := var_frozen o_r (by simp) 1 _ rfl
        have l_r := var_lt o_r
        go_wp2_with fail
        (refine (KG.out _).mono ?_); rintro e wq ⟨rfl, rfl⟩
        go_wp2_with fail
        (refine (KR.out _ HB).mono ?_); rintro e w4 ⟨rfl, bw4⟩
        clear c_p0 f_p0 c_p1 f_p1 l_p c_r0 f_r0 c_r1 f_r1 l_r
        replace o_p := owns_below o_p bw4
        replace o_r := owns_below o_r bw4
        replace HB := HB.trans (bw4.mono HB.size)
        have zw4 := bw4.size
        have c_p0 : w4.cell? ⟨w.heap.size, 0, none⟩ = some (.int .i64 x.Master) := var_load o_p (by simp) 0 _ rfl
        have f_p0 : w4.frozen? ⟨w.heap.size, 0, none⟩ = false := var_frozen o_p (by simp) 0 _ rfl
        have c_p1 : w4.cell? ⟨w.heap.size, 1, none⟩ = some (.slice A n c) := var_load o_p (by simp) 1 _ rfl
        have f_p1 : w4.frozen? ⟨w.heap.size, 1, none⟩ = false := var_frozen o_p (by simp) 1 _ rfl
        have l_p := var_lt o_p
        have c_r0 : w4.cell? ⟨(w.heap.size + 1), 0, none⟩ = some (.int .i64 0) := var_load o_r (by simp) 0 _ rfl
        have f_r0 : w4.frozen? ⟨(w.heap.size + 1), 0, none⟩ = false := var_frozen o_r (by simp) 0 _ rfl
        have c_r1 : w4.cell? ⟨(w.heap.size + 1), 1, none⟩ = some (.slice none 0 0) := var_load o_r (by simp) 1 _ rfl
        have f_r1 : w4.frozen? ⟨(w.heap.size + 1), 1, none⟩ = false := var_frozen o_r (by simp) 1 _ rfl
        have l_r := var_lt o_r
        go_wp2_with fail
        (refine (KC.out _ HB).mono ?_); rintro e w5 ⟨v_z, s_z, rfl, o_z, n_z, bw5⟩
        clear c_p0 f_p0 c_p1 f_p1 l_p c_r0 f_r0 c_r1 f_r1 l_r
        replace o_p := owns_below o_p bw5
        replace o_r := owns_below o_r bw5
        replace HB := HB.trans (bw5.mono HB.size)
        have zw5 := bw5.size
        obtain ⟨A_z, c_z, b_z, rfl, o_y, hby⟩ := VendorList.owns o_z
        unfold numsD at o_y
        rw [← HXS.out, ← HL.out] at o_y
        rw [show x.Revoked.length = n by rw [← HXS.out, ← HL.out]]
        have i_y := Fx.made_in o_y
        replace o_y := owns_base (show w.heap.size ≤ w4.heap.size by omega) _ _ _ o_y
        clear o_z hby
        have c_p0 : w5.cell? ⟨w.heap.size, 0, none⟩ = some (.int .i64 x.Master) := var_load o_p (by simp) 0 _ rfl
        have f_p0 : w5.frozen? ⟨w.heap.size, 0, none⟩ = false := var_frozen o_p (by simp) 0 _ rfl
        have c_p1 : w5.cell? ⟨w.heap.size, 1, none⟩ = some (.slice A n c) := var_load o_p (by simp) 1 _ rfl
        have f_p1 : w5.frozen? ⟨w.heap.size, 1, none⟩ = false := var_frozen o_p (by simp) 1 _ rfl
        have l_p := var_lt o_p
        have c_r0 : w5.cell? ⟨(w.heap.size + 1), 0, none⟩ = some (.int .i64 0) := var_load o_r (by simp) 0 _ rfl
        have f_r0 : w5.frozen? ⟨(w.heap.size + 1), 0, none⟩ = false := var_frozen o_r (by simp) 0 _ rfl
        have c_r1 : w5.cell? ⟨(w.heap.size + 1), 1, none⟩ = some (.slice none 0 0) := var_load o_r (by simp) 1 _ rfl
        have f_r1 : w5.frozen? ⟨(w.heap.size + 1), 1, none⟩ = false := var_frozen o_r (by simp) 1 _ rfl
        have l_r := var_lt o_r
        go_wp2
        clear c_p0 f_p0 c_p1 f_p1 l_p c_r0 f_r0 c_r1 f_r1 l_r
        obtain ⟨w6, hw6⟩ : ∃ y, y = ((w5.setCell ⟨(w.heap.size + 1), 0, none⟩ (.int .i64 x.Master)).setCell ⟨(w.heap.size + 1), 1, none⟩ (.slice A_z n c_z)) := ⟨_, rfl⟩
        obtain ⟨o_new, tw6⟩ := var_some [.int .i64 x.Master, .slice A_z n c_z] 0 _ _ o_r (by simp)
        rw [show setAll w5 ((w.heap.size + 1)) 0 [.int .i64 x.Master, .slice A_z n c_z] = w6 from hw6.symm] at o_new tw6
        replace o_r : Owns w6 _ (varD 27 2 [.int .i64 x.Master, .slice A_z n c_z]) _ _ := o_new
        clear o_new
        replace o_p := owns_turned o_p tw6 (fun b hb hb2 => by simp at hb hb2; omega)
        replace o_y := owns_turned o_y tw6 (fun b hb hb2 => by have h1 := i_y b hb; simp at hb2; omega)
        replace HB := below_turned HB tw6 (fun b hb => by simp at hb; omega)
        have zw6 := tw6.2.2.2.1
        rw [← hw6]
        clear hw6
        have y0 : w6.cell? ⟨(w.heap.size + 1), 0, none⟩ = some (.int .i64 x.Master) := var_load o_r (by simp) 0 _ rfl
        have y1 : w6.cell? ⟨(w.heap.size + 1), 1, none⟩ = some (.slice A_z n c_z) := var_load o_r (by simp) 1 _ rfl
        refine bodyPost_ret (v := .tuple #[.agg #[.int .i64 x.Master, .slice A_z n c_z], .bool false]) (by simp [results, Try.results32, go_sem, y0, y1]) rfl ?_
        exact made_rv HXS.out rfl HL.out o_y (by rw [(flat_owns o_y).2]; exact Ra.block_nodup _) HB
      | false =>
        have hok : rvkB x v s = true := by unfold rvkB; rw [h1, h2, h3]; rfl
        have e1 : rvkX x v s = ⟨x.Master, ins x.Revoked (v * 10000000 + s)⟩ := by unfold rvkX; rw [hok]; rfl
        rw [e1, hok]
        clear e1 hok
        rw [h3] at KR
        have hv : (1 ≤ v ∧ v ≤ 9) ∧ (0 ≤ s ∧ s ≤ 1000000) := by unfold rngB at h2; simpa using h2
        clear h1 h2 h3
        obtain ⟨⟨v0, v1⟩, s0, s1⟩ := hv
        go_enter Try.func32, Try.ntmps32
        obtain ⟨w1, hw1⟩ : ∃ y, y = w.alloc (.cells #[.int .i64 x.Master, .slice A n c] 27) := ⟨_, rfl⟩
        have o_p := var_owns w 27 2 [.int .i64 x.Master, .slice A n c] rfl
        have bw1 : Below w.heap.size w w1 := hw1 ▸ (Below.refl _ _).alloc (Nat.le_refl _) _
        rw [← hw1] at o_p
        have sw1 : w1.heap.size = w.heap.size + 1 := by rw [hw1]; simp
        have zw1 : w.heap.size < w1.heap.size := by rw [hw1]; simp
        have HB := bw1
        obtain ⟨w2, hw2⟩ : ∃ y, y = w1.alloc (.cells #[.int .i64 0, .slice none 0 0] 27) := ⟨_, rfl⟩
        have o_r := var_owns w1 27 2 [.int .i64 0, .slice none 0 0] rfl
        have bw2 : Below w1.heap.size w1 w2 := hw2 ▸ (Below.refl _ _).alloc (Nat.le_refl _) _
        rw [← hw2] at o_r
        rw [sw1] at o_r
        have sw2 : w2.heap.size = w.heap.size + 1 + 1 := by rw [hw2]; simp [sw1]
        have zw2 : w1.heap.size < w2.heap.size := by rw [hw2]; simp
        replace o_p := owns_below o_p bw2
        replace HB := HB.trans (bw2.mono HB.size)
        go_wp2_with fail
        rw [← hw1, ← hw2]
        clear hw1 hw2 sw1 sw2
        (refine (KV.out _ HB).mono ?_); rintro e w3 ⟨rfl, bw3⟩
        replace o_p := owns_below o_p bw3
        replace o_r := owns_below o_r bw3
        replace HB := HB.trans (bw3.mono HB.size)
        have zw3 := bw3.size
        have c_p0 : w3.cell? ⟨w.heap.size, 0, none⟩ = some (.int .i64 x.Master) := var_load o_p (by simp) 0 _ rfl
        have f_p0 : w3.frozen? ⟨w.heap.size, 0, none⟩ = false := var_frozen o_p (by simp) 0 _ rfl
        have c_p1 : w3.cell? ⟨w.heap.size, 1, none⟩ = some (.slice A n c) := var_load o_p (by simp) 1 _ rfl
        have f_p1 : w3.frozen? ⟨w.heap.size, 1, none⟩ = false := var_frozen o_p (by simp) 1 _ rfl
        have l_p := var_lt o_p
        have c_r0 : w3.cell? ⟨(w.heap.size + 1), 0, none⟩ = some (.int .i64 0) := var_load o_r (by simp) 0 _ rfl
        have f_r0 : w3.frozen? ⟨(w.heap.size + 1), 0, none⟩ = false := var_frozen o_r (by simp) 0 _ rfl
        have c_r1 : w3.cell? ⟨(w.heap.size + 1), 1, none⟩ = some (.slice none 0 0) := var_load o_r (by simp) 1 _ rfl
        have f_r1 : w3.frozen? ⟨(w.heap.size + 1), 1, none⟩ = false := var_frozen o_r (by simp) 1 _ rfl
        have l_r := var_lt o_r
        go_wp2_with fail
        (refine (KG.out _).mono ?_); rintro e wq ⟨rfl, rfl⟩
        go_wp2_with fail
        (refine (KR.out _ HB).mono ?_); rintro e w4 ⟨rfl, bw4⟩
        clear c_p0 f_p0 c_p1 f_p1 l_p c_r0 f_r0 c_r1 f_r1 l_r
        replace o_p := owns_below o_p bw4
        replace o_r := owns_below o_r bw4
        replace HB := HB.trans (bw4.mono HB.size)
        have zw4 := bw4.size
        clear KV KR KC KG
        have hcd0 : -9223372036854775808 ≤ v * 10000000 := by omega
        have hcd1 : v * 10000000 ≤ 9223372036854775807 := by omega
        have hcd2 : -9223372036854775808 ≤ v * 10000000 + s := by omega
        have hcd3 : v * 10000000 + s ≤ 9223372036854775807 := by omega
        have c_p0 : w4.cell? ⟨w.heap.size, 0, none⟩ = some (.int .i64 x.Master) := var_load o_p (by simp) 0 _ rfl
        have f_p0 : w4.frozen? ⟨w.heap.size, 0, none⟩ = false := var_frozen o_p (by simp) 0 _ rfl
        have c_p1 : w4.cell? ⟨w.heap.size, 1, none⟩ = some (.slice A n c) := var_load o_p (by simp) 1 _ rfl
        have f_p1 : w4.frozen? ⟨w.heap.size, 1, none⟩ = false := var_frozen o_p (by simp) 1 _ rfl
        have l_p := var_lt o_p
        have c_r0 : w4.cell? ⟨(w.heap.size + 1), 0, none⟩ = some (.int .i64 0) := var_load o_r (by simp) 0 _ rfl
        have f_r0 : w4.frozen? ⟨(w.heap.size + 1), 0, none⟩ = false := var_frozen o_r (by simp) 0 _ rfl
        have c_r1 : w4.cell? ⟨(w.heap.size + 1), 1, none⟩ = some (.slice none 0 0) := var_load o_r (by simp) 1 _ rfl
        have f_r1 : w4.frozen? ⟨(w.heap.size + 1), 1, none⟩ = false := var_frozen o_r (by simp) 1 _ rfl
        have l_r := var_lt o_r
        go_wp2_with fail
        clear c_p0 f_p0 c_p1 f_p1 l_p c_r0 f_r0 c_r1 f_r1 l_r
        obtain ⟨cd, hcd⟩ : ∃ cd, cd = v * 10000000 + s := ⟨_, rfl⟩
        rw [← hcd]
        have HCD := Lib.hid hcd
        clear hcd hcd0 hcd1 hcd2 hcd3 v0 v1 s0 s1
        have c_p0 : w4.cell? ⟨w.heap.size, 0, none⟩ = some (.int .i64 x.Master) := var_load o_p (by simp) 0 _ rfl
        have f_p0 : w4.frozen? ⟨w.heap.size, 0, none⟩ = false := var_frozen o_p (by simp) 0 _ rfl
        have c_p1 : w4.cell? ⟨w.heap.size, 1, none⟩ = some (.slice A n c) := var_load o_p (by simp) 1 _ rfl
        have f_p1 : w4.frozen? ⟨w.heap.size, 1, none⟩ = false := var_frozen o_p (by simp) 1 _ rfl
        have l_p := var_lt o_p
        have c_r0 : w4.cell? ⟨(w.heap.size + 1), 0, none⟩ = some (.int .i64 0) := var_load o_r (by simp) 0 _ rfl
        have f_r0 : w4.frozen? ⟨(w.heap.size + 1), 0, none⟩ = false := var_frozen o_r (by simp) 0 _ rfl
        have c_r1 : w4.cell? ⟨(w.heap.size + 1), 1, none⟩ = some (.slice none 0 0) := var_load o_r (by simp) 1 _ rfl
        have f_r1 : w4.frozen? ⟨(w.heap.size + 1), 1, none⟩ = false := var_frozen o_r (by simp) 1 _ rfl
        have l_r := var_lt o_r
        go_loop [9] (fun i => ∃ k : Nat, k ≤ n ∧ i = .int .i64 k ∧ ∀ j, j < k → xs.getD j 0 < cd) (fun i => n - (intOf i).toNat)
        case atStart => exact ⟨0, by omega, rfl, fun _ h => by omega⟩
        case round =>
          obtain ⟨k, hk, rfl, hG⟩ := hrel
          have HG := Lib.hid hG
          clear hG
          by_cases hlt : k < n
          · obtain ⟨b, off, rfl, hbl, hcell⟩ := (HR.out _ HB).at_ hlt
            obtain ⟨y, hy⟩ : ∃ y, y = xs.getD k 0 := ⟨_, rfl⟩
            rw [← hy] at hcell
            have HY := Lib.hid hy
            clear hy
            have p1 : (k : Int) < (n : Int) := by omega
            by_cases hc : y < cd
            · have hd : decide (y < cd) = true := by simpa using hc
              have HC := Lib.hid hc
              go_wp2
              go_round
              case rel =>
                refine ⟨k + 1, by omega, by go_num, fun j hj => ?_⟩
                by_cases h : j < k
                · exact HG.out j h
                · obtain rfl : j = k := by omega
                  rw [← HY.out]; exact HC.out
              case measure => simp [intOf]; omega
            · have hd : decide (y < cd) = false := by simpa using hc
              have HC := Lib.hid (show cd ≤ xs.getD k 0 by rw [← HY.out]; omega)
              clear hc
              have HI := Lib.hid (show ins xs cd = xs.take k ++ cd :: xs.drop k from ins_at HG.out (by have := HL.out; omega) (Or.inr HC.out))
              clear HG
              have q1 : (0 : Int) ≤ (k : Int) := by omega
              have q2 : (k : Int) ≤ (c : Int) := by omega
              have q3 : (k : Int) ≤ (n : Int) := by omega
              have q4 : (n : Int) ≤ (c : Int) := by omega
              have q5 : ¬ c = k := by omega
              go_wp2_with fail
              clear c_p0 f_p0 c_p1 f_p1 l_p c_r0 f_r0 c_r1 f_r1 l_r
              have HN := Below.refl w4.heap.size w4
              obtain ⟨w5, hw5⟩ : ∃ y, y = w4.drew := ⟨_, rfl⟩
              have bw5 : Below w4.heap.size w4 w5 := hw5 ▸ drewN_below w4 1 _
              replace o_p := owns_below o_p bw5
              replace o_r := owns_below o_r bw5
              replace HB := HB.trans (bw5.mono HB.size)
              have zw5 := bw5.size
              replace HN := HN.trans (bw5.mono HN.size)
              refine wp_region_held_drew (S := (fun wx => wx.cell? ⟨w.heap.size, 0, none⟩ = some (.int .i64 x.Master) ∧ wx.cell? ⟨w.heap.size, 1, none⟩ = some (.slice (some ⟨b, off, none⟩) n c))) (by kernel_rfl) ?_ (fun hHeld => ?_)
              · rw [← hw5]; exact ⟨var_load o_p (by simp) 0 _ rfl, var_load o_p (by simp) 1 _ rfl⟩
              rw [← hw5] at hHeld ⊢
              clear hw5
              refine wpAnyH_take (i := 0) (oi := ?oit1_0_1) (v := ?vt1_0_1) ?hit1_0_1 (by kernel_rfl) (by kernel_rfl) (by kernel_rfl) ?hQt1_0_1 (Or.inl ⟨?hwt1_0_1, ?hyt1_0_1⟩) (by assumption) ?_
              case hit1_0_1 => simp only [List.getElem?_toArray, List.getElem?_cons_zero]; rfl
              case hQt1_0_1 => exact fun _ _ _ h => h
              case hwt1_0_1 => rfl
              case hyt1_0_1 => intro w hSw; (try dsimp only at hSw); (first | (go_simp; done) | (go_simp; with_reducible rfl))
              try simp only [Act.put, List.setIfInBounds_toArray, List.set_cons_zero, List.set_cons_succ]
              refine wpAnyH_take (i := 1) (oi := ?oit1_1_2) (v := ?vt1_1_2) ?hit1_1_2 (by kernel_rfl) (by kernel_rfl) (by kernel_rfl) ?hQt1_1_2 (Or.inl ⟨?hwt1_1_2, ?hyt1_1_2⟩) (by assumption) ?_
              case hit1_1_2 => simp only [List.getElem?_toArray, List.getElem?_cons_succ, List.getElem?_cons_zero]; rfl
              case hQt1_1_2 => exact fun _ _ _ h => h
              case hwt1_1_2 => rfl
              case hyt1_1_2 => intro w hSw; (try dsimp only at hSw); (first | (go_simp; done) | (go_simp; with_reducible rfl))
              try simp only [Act.put, List.setIfInBounds_toArray, List.set_cons_zero, List.set_cons_succ]
              refine wpAnyH_take (i := 3) (oi := ?oit1_3_3) (v := ?vt1_3_3) ?hit1_3_3 (by kernel_rfl) (by kernel_rfl) (by kernel_rfl) ?hQt1_3_3 (Or.inl ⟨?hwt1_3_3, ?hyt1_3_3⟩) (by assumption) ?_
              case hit1_3_3 => simp only [List.getElem?_toArray, List.getElem?_cons_succ, List.getElem?_cons_zero]; rfl
              case hQt1_3_3 => exact fun _ _ _ h => h
              case hwt1_3_3 => rfl
              case hyt1_3_3 => intro w hSw; (try dsimp only at hSw); (first | (go_simp; done) | (go_simp; with_reducible rfl))
              try simp only [Act.put, List.setIfInBounds_toArray, List.set_cons_zero, List.set_cons_succ]
              refine wpAnyH_take (i := 4) (oi := ?oit1_4_4) (v := ?vt1_4_4) ?hit1_4_4 (by kernel_rfl) (by kernel_rfl) (by kernel_rfl) ?hQt1_4_4 (Or.inl ⟨?hwt1_4_4, ?hyt1_4_4⟩) (by assumption) ?_
              case hit1_4_4 => simp only [List.getElem?_toArray, List.getElem?_cons_succ, List.getElem?_cons_zero]; rfl
              case hQt1_4_4 => exact fun _ _ _ h => h
              case hwt1_4_4 => rfl
              case hyt1_4_4 => intro w hSw; (try dsimp only at hSw); (first | (go_simp; done) | (go_simp; with_reducible rfl))
              try simp only [Act.put, List.setIfInBounds_toArray, List.set_cons_zero, List.set_cons_succ]
              refine wpAnyH_take (i := 5) (oi := ?oit1_5_5) (v := ?vt1_5_5) ?hit1_5_5 (by kernel_rfl) (by kernel_rfl) (by kernel_rfl) ?hQt1_5_5 (Or.inl ⟨?hwt1_5_5, ?hyt1_5_5⟩) (by assumption) ?_
              case hit1_5_5 => simp only [List.getElem?_toArray, List.getElem?_cons_succ, List.getElem?_cons_zero]; rfl
              case hQt1_5_5 => exact fun _ _ _ h => h
              case hwt1_5_5 => rfl
              case hyt1_5_5 => intro w hSw; (try dsimp only at hSw); (first | (go_simp; done) | (go_simp; with_reducible rfl))
              try simp only [Act.put, List.setIfInBounds_toArray, List.set_cons_zero, List.set_cons_succ]
              refine wpAnyH_take (i := 6) (oi := ?oit1_6_6) (v := ?vt1_6_6) ?hit1_6_6 (by kernel_rfl) (by kernel_rfl) (by kernel_rfl) ?hQt1_6_6 (Or.inl ⟨?hwt1_6_6, ?hyt1_6_6⟩) (by assumption) ?_
              case hit1_6_6 => simp only [List.getElem?_toArray, List.getElem?_cons_succ, List.getElem?_cons_zero]; rfl
              case hQt1_6_6 => exact fun _ _ _ h => h
              case hwt1_6_6 => rfl
              case hyt1_6_6 => intro w hSw; (try dsimp only at hSw); (first | (go_simp; done) | (go_simp; with_reducible rfl))
              try simp only [Act.put, List.setIfInBounds_toArray, List.set_cons_zero, List.set_cons_succ]
              refine wpAnyH_take (i := 8) (oi := ?oit1_8_7) (v := ?vt1_8_7) ?hit1_8_7 (by kernel_rfl) (by kernel_rfl) (by kernel_rfl) ?hQt1_8_7 (Or.inl ⟨?hwt1_8_7, ?hyt1_8_7⟩) (by assumption) ?_
              case hit1_8_7 => simp only [List.getElem?_toArray, List.getElem?_cons_succ, List.getElem?_cons_zero]; rfl
              case hQt1_8_7 => exact fun _ _ _ h => h
              case hwt1_8_7 => rfl
              case hyt1_8_7 => intro w hSw; (try dsimp only at hSw); (first | (go_simp; done) | (go_simp; with_reducible rfl))
              try simp only [Act.put, List.setIfInBounds_toArray, List.set_cons_zero, List.set_cons_succ]
              refine wpAnyH_take (i := 11) (oi := ?oit1_11_8) (v := ?vt1_11_8) ?hit1_11_8 (by kernel_rfl) (by kernel_rfl) (by kernel_rfl) ?hQt1_11_8 (Or.inl ⟨?hwt1_11_8, ?hyt1_11_8⟩) (by assumption) ?_
              case hit1_11_8 => simp only [List.getElem?_toArray, List.getElem?_cons_succ, List.getElem?_cons_zero]; rfl
              case hQt1_11_8 => exact fun _ _ _ h => h
              case hwt1_11_8 => rfl
              case hyt1_11_8 => intro w hSw; (try dsimp only at hSw); (first | (go_simp; done) | (go_simp; with_reducible rfl))
              try simp only [Act.put, List.setIfInBounds_toArray, List.set_cons_zero, List.set_cons_succ]
              refine wpAnyH_take (i := 12) (oi := ?oit1_12_9) (v := ?vt1_12_9) ?hit1_12_9 (by kernel_rfl) (by kernel_rfl) (by kernel_rfl) ?hQt1_12_9 (Or.inl ⟨?hwt1_12_9, ?hyt1_12_9⟩) (by assumption) ?_
              case hit1_12_9 => simp only [List.getElem?_toArray, List.getElem?_cons_succ, List.getElem?_cons_zero]; rfl
              case hQt1_12_9 => exact fun _ _ _ h => h
              case hwt1_12_9 => rfl
              case hyt1_12_9 => intro w hSw; (try dsimp only at hSw); (first | (go_simp; done) | (go_simp; with_reducible rfl))
              try simp only [Act.put, List.setIfInBounds_toArray, List.set_cons_zero, List.set_cons_succ]
              refine wpAnyH_take (i := 13) (oi := ?oit1_13_10) (v := ?vt1_13_10) ?hit1_13_10 (by kernel_rfl) (by kernel_rfl) (by kernel_rfl) ?hQt1_13_10 (Or.inl ⟨?hwt1_13_10, ?hyt1_13_10⟩) (by assumption) ?_
              case hit1_13_10 => simp only [List.getElem?_toArray, List.getElem?_cons_succ, List.getElem?_cons_zero]; rfl
              case hQt1_13_10 => exact fun _ _ _ h => h
              case hwt1_13_10 => rfl
              case hyt1_13_10 => intro w hSw; (try dsimp only at hSw); (first | (go_simp; done) | (go_simp; with_reducible rfl))
              try simp only [Act.put, List.setIfInBounds_toArray, List.set_cons_zero, List.set_cons_succ]
              refine wpAnyH_take (i := 14) (oi := ?oit1_14_11) (v := ?vt1_14_11) ?hit1_14_11 (by kernel_rfl) (by kernel_rfl) (by kernel_rfl) ?hQt1_14_11 (Or.inl ⟨?hwt1_14_11, ?hyt1_14_11⟩) (by assumption) ?_
              case hit1_14_11 => simp only [List.getElem?_toArray, List.getElem?_cons_succ, List.getElem?_cons_zero]; rfl
              case hQt1_14_11 => exact fun _ _ _ h => h
              case hwt1_14_11 => rfl
              case hyt1_14_11 => intro w hSw; (try dsimp only at hSw); (first | (go_simp; done) | (go_simp; with_reducible rfl))
              try simp only [Act.put, List.setIfInBounds_toArray, List.set_cons_zero, List.set_cons_succ]
              refine wpAnyH_ready (rs := [2, 9]) (by kernel_rfl) (by simp) ?_
              refine AllReadyH.cons (o := ?ot1_2_12) ?hit1_2_12 (fun K hK => ?gt1_2_12) (AllReadyH.cons (o := ?ot1_9_12) ?hit1_9_12 (fun K hK => ?gt1_9_12) AllReadyH.nil)
              case hit1_2_12 => simp only [List.getElem?_toArray, List.getElem?_cons_succ, List.getElem?_cons_zero]; rfl
              case hit1_9_12 => simp only [List.getElem?_toArray, List.getElem?_cons_succ, List.getElem?_cons_zero]; rfl
              case gt1_2_12 =>
                go_simp
                obtain ⟨w6, hw6⟩ : ∃ y, y = w5.alloc (.cells #[] 3) := ⟨_, rfl⟩
                have o_R2 : (w5.alloc (.cells #[] 3)).ownsRow w4.heap.size 3 1 (.slice (some ⟨w5.heap.size, 0, none⟩) 0 0) 0 (ints .i64 []) := own_base (C6.own_ints w5 [] 0 rfl (by omega)) HN.size
                rw [← hw6] at o_R2 ⊢
                have bw6 : Below w5.heap.size w5 w6 := hw6 ▸ (Below.refl _ _).alloc (Nat.le_refl _) _
                clear hw6
                replace HN := HN.trans (bw6.mono HN.size)
                replace o_p := owns_below o_p bw6
                replace o_r := owns_below o_r bw6
                replace HB := HB.trans (bw6.mono HB.size)
                have zw6 := bw6.size
                refine hK.out _ _ ?_ (fun hHeld => ?_)
                · exact ⟨var_load o_p (by simp) 0 _ rfl, var_load o_p (by simp) 1 _ rfl⟩
                clear hK K
                try simp only [Act.put, List.setIfInBounds_toArray, List.set_cons_zero, List.set_cons_succ]
                refine wpAnyH_ready (rs := [7, 9]) (by kernel_rfl) (by simp) ?_
                refine AllReadyH.cons (o := ?ot1_7_13) ?hit1_7_13 (fun K hK => ?gt1_7_13) (AllReadyH.cons (o := ?ot1_9_13) ?hit1_9_13 (fun K hK => ?gt1_9_13) AllReadyH.nil)
                case hit1_7_13 => simp only [List.getElem?_toArray, List.getElem?_cons_succ, List.getElem?_cons_zero]; rfl
                case hit1_9_13 => simp only [List.getElem?_toArray, List.getElem?_cons_succ, List.getElem?_cons_zero]; rfl
                case gt1_7_13 =>
                  refine Ra.stepI w6 rfl (.tmp 49) (.tmp 53) rfl (w4.heap.size) (.slice (some ⟨w5.heap.size, 0, none⟩) 0 0) (0) _ (by simp [Act.eval]) o_R2 _ (some ⟨b, off, none⟩) (k) (c) (xs.take k) (by simp [Act.eval]) (Ra.rd_take (HR.out _ HB) (by omega)) (by omega) HN.size ?_
                  intro vw7 w7 o_R7 gw7 kw7
                  have Tw7 := turned_grown gw7
                  have Qw7 : ∀ b, b ∈ Option.toList (Value.ownBlock (.slice (some ⟨w5.heap.size, 0, none⟩) 0 0)) → w4.heap.size ≤ b := fun b hb => (o_R2.lt b (by simpa using hb)).1
                  replace o_p := owns_turned o_p Tw7 (fun b hb hb2 => by have h1 := Qw7 b hb2; simp at hb; omega)
                  replace o_r := owns_turned o_r Tw7 (fun b hb hb2 => by have h1 := Qw7 b hb2; simp at hb; omega)
                  replace HN := HN.grown gw7 HN.size (fun j hj => (o_R2.lt j hj).1)
                  replace HB := below_turned HB Tw7 (fun b hb => by have h1 := Qw7 b hb; omega)
                  have zw7 := gw7.size
                  rw [ints_app] at o_R7
                  rw [Nat.zero_add, List.nil_append] at o_R7
                  obtain ⟨A7, c7, rfl⟩ := own_nil_form o_R7
                  clear o_R2 kw7 gw7
                  refine hK.out _ _ ?_ (fun hHeld => ?_)
                  · exact ⟨var_load o_p (by simp) 0 _ rfl, var_load o_p (by simp) 1 _ rfl⟩
                  clear hK K
                  try simp only [Act.put, List.setIfInBounds_toArray, List.set_cons_zero, List.set_cons_succ]
                  refine wpAnyH_ready (rs := [9]) (by kernel_rfl) (by simp) ?_
                  refine AllReadyH.cons (o := ?ot1_9_14) ?hit1_9_14 (fun K hK => ?gt1_9_14) AllReadyH.nil
                  case hit1_9_14 => simp only [List.getElem?_toArray, List.getElem?_cons_succ, List.getElem?_cons_zero]; rfl
                  case gt1_9_14 =>
                    go_simp
                    obtain ⟨w8, hw8⟩ : ∃ y, y = w7.alloc (.cells #[.int .i64 (cd)] 3) := ⟨_, rfl⟩
                    have D_R7_R9 := Ra.far_new (m := 1) (c := 1) o_R7
                    have o_R9 : (w7.alloc (.cells #[.int .i64 (cd)] 3)).ownsRow w4.heap.size 3 1 (.slice (some ⟨w7.heap.size, 0, none⟩) 1 1) 1 (ints .i64 [cd]) := own_base (C6.own_ints w7 [cd] 1 rfl (by omega)) HN.size
                    rw [← hw8] at o_R9 ⊢
                    have bw8 : Below w7.heap.size w7 w8 := hw8 ▸ (Below.refl _ _).alloc (Nat.le_refl _) _
                    clear hw8
                    replace o_R7 := own_below o_R7 bw8
                    replace HN := HN.trans (bw8.mono HN.size)
                    replace o_p := owns_below o_p bw8
                    replace o_r := owns_below o_r bw8
                    replace HB := HB.trans (bw8.mono HB.size)
                    have zw8 := bw8.size
                    refine hK.out _ _ ?_ (fun hHeld => ?_)
                    · exact ⟨var_load o_p (by simp) 0 _ rfl, var_load o_p (by simp) 1 _ rfl⟩
                    clear hK K
                    try simp only [Act.put, List.setIfInBounds_toArray, List.set_cons_zero, List.set_cons_succ]
                    refine wpAnyH_ready (rs := [10]) (by kernel_rfl) (by simp) ?_
                    refine AllReadyH.cons (o := ?ot1_10_15) ?hit1_10_15 (fun K hK => ?gt1_10_15) AllReadyH.nil
                    case hit1_10_15 => simp only [List.getElem?_toArray, List.getElem?_cons_succ, List.getElem?_cons_zero]; rfl
                    case gt1_10_15 =>
                      refine Ra.stepI w8 rfl (.tmp 54) (.tmp 56) rfl (w4.heap.size) (.slice A7 (k) c7) (k) _ (by simp [Act.eval]) o_R7 _ ((some ⟨w7.heap.size, 0, none⟩)) (1) (1) ([cd]) (by simp [Act.eval]) (Rd.own o_R9) (by omega) HN.size ?_
                      intro vw9 w9 o_R10 gw9 kw9
                      have E_R9 : Ra.Far (.slice A7 (k) c7) (.slice (some ⟨w7.heap.size, 0, none⟩) 1 1) := by first | exact D_R7_R9 | exact Ra.Far.symm D_R9_R7
                      have D_R10_R9 := Ra.far_grown o_R9 E_R9 kw9
                      replace o_R9 := Ra.far_kept o_R9 gw9 E_R9
                      clear E_R9
                      have Tw9 := turned_grown gw9
                      have Qw9 : ∀ b, b ∈ Option.toList (Value.ownBlock (.slice A7 (k) c7)) → w4.heap.size ≤ b := fun b hb => (o_R7.lt b (by simpa using hb)).1
                      replace o_p := owns_turned o_p Tw9 (fun b hb hb2 => by have h1 := Qw9 b hb2; simp at hb; omega)
                      replace o_r := owns_turned o_r Tw9 (fun b hb hb2 => by have h1 := Qw9 b hb2; simp at hb; omega)
                      replace HN := HN.grown gw9 HN.size (fun j hj => (o_R7.lt j hj).1)
                      replace HB := below_turned HB Tw9 (fun b hb => by have h1 := Qw9 b hb; omega)
                      have zw9 := gw9.size
                      rw [ints_app] at o_R10
                      obtain ⟨A10, c10, rfl⟩ := own_nil_form o_R10
                      clear o_R7 kw9 gw9
                      refine hK.out _ _ ?_ (fun hHeld => ?_)
                      · exact ⟨var_load o_p (by simp) 0 _ rfl, var_load o_p (by simp) 1 _ rfl⟩
                      clear hK K
                      try simp only [Act.put, List.setIfInBounds_toArray, List.set_cons_zero, List.set_cons_succ]
                      refine wpAnyH_ready (rs := [15]) (by kernel_rfl) (by simp) ?_
                      refine AllReadyH.cons (o := ?ot1_15_16) ?hit1_15_16 (fun K hK => ?gt1_15_16) AllReadyH.nil
                      case hit1_15_16 => simp only [List.getElem?_toArray, List.getElem?_cons_succ, List.getElem?_cons_zero]; rfl
                      case gt1_15_16 =>
                        refine Ra.stepI w9 rfl (.tmp 57) (.tmp 61) rfl (w4.heap.size) (.slice A10 (k + 1) c10) ((k + 1)) _ (by simp [Act.eval]) o_R10 _ (some ⟨b, off + k, none⟩) (n - k) (c - k) (xs.drop k) (by simp [Act.eval]) (Ra.rd_drop (HR.out _ HB) (by omega)) (by omega) HN.size ?_
                        intro vw10 w10 o_R15 gw10 kw10
                        have E_R9 : Ra.Far (.slice A10 (k + 1) c10) (.slice (some ⟨w7.heap.size, 0, none⟩) 1 1) := by first | exact D_R10_R9 | exact Ra.Far.symm D_R9_R10
                        have D_R15_R9 := Ra.far_grown o_R9 E_R9 kw10
                        replace o_R9 := Ra.far_kept o_R9 gw10 E_R9
                        clear E_R9
                        have Tw10 := turned_grown gw10
                        have Qw10 : ∀ b, b ∈ Option.toList (Value.ownBlock (.slice A10 (k + 1) c10)) → w4.heap.size ≤ b := fun b hb => (o_R10.lt b (by simpa using hb)).1
                        replace o_p := owns_turned o_p Tw10 (fun b hb hb2 => by have h1 := Qw10 b hb2; simp at hb; omega)
                        replace o_r := owns_turned o_r Tw10 (fun b hb hb2 => by have h1 := Qw10 b hb2; simp at hb; omega)
                        replace HN := HN.grown gw10 HN.size (fun j hj => (o_R10.lt j hj).1)
                        replace HB := below_turned HB Tw10 (fun b hb => by have h1 := Qw10 b hb; omega)
                        have zw10 := gw10.size
                        rw [ints_app] at o_R15
                        obtain ⟨A15, c15, rfl⟩ := own_nil_form o_R15
                        clear o_R10 kw10 gw10
                        refine hK.out _ _ ?_ (fun hHeld => ?_)
                        · exact ⟨var_load o_p (by simp) 0 _ rfl, var_load o_p (by simp) 1 _ rfl⟩
                        clear hK K
                        try simp only [Act.put, List.setIfInBounds_toArray, List.set_cons_zero, List.set_cons_succ]
                        refine wpAnyH_take (i := 16) (oi := ?oit1_16_17) (v := ?vt1_16_17) ?hit1_16_17 (by kernel_rfl) (by kernel_rfl) (by kernel_rfl) ?hQt1_16_17 (Or.inl ⟨?hwt1_16_17, ?hyt1_16_17⟩) (by assumption) ?_
                        case hit1_16_17 => simp only [List.getElem?_toArray, List.getElem?_cons_succ, List.getElem?_cons_zero]; rfl
                        case hQt1_16_17 => exact fun _ _ _ h => h
                        case hwt1_16_17 => rfl
                        case hyt1_16_17 => intro w hSw; (try dsimp only at hSw); (first | (go_simp; done) | (go_simp; with_reducible rfl))
                        try simp only [Act.put, List.setIfInBounds_toArray, List.set_cons_zero, List.set_cons_succ]
                        refine wpAnyH_ready (rs := [17]) (by kernel_rfl) (by simp) ?_
                        refine AllReadyH.cons (o := ?ot1_17_18) ?hit1_17_18 (fun K hK => ?gt1_17_18) AllReadyH.nil
                        case hit1_17_18 => simp only [List.getElem?_toArray, List.getElem?_cons_succ, List.getElem?_cons_zero]; rfl
                        case gt1_17_18 =>
                          have c_p0 : w10.cell? ⟨w.heap.size, 0, none⟩ = some (.int .i64 x.Master) := var_load o_p (by simp) 0 _ rfl
                          have f_p0 : w10.frozen? ⟨w.heap.size, 0, none⟩ = false := var_frozen o_p (by simp) 0 _ rfl
                          have c_p1 : w10.cell? ⟨w.heap.size, 1, none⟩ = some (.slice (some ⟨b, off, none⟩) n c) := var_load o_p (by simp) 1 _ rfl
                          have f_p1 : w10.frozen? ⟨w.heap.size, 1, none⟩ = false := var_frozen o_p (by simp) 1 _ rfl
                          have l_p := var_lt o_p
                          have c_r0 : w10.cell? ⟨(w.heap.size + 1), 0, none⟩ = some (.int .i64 0) := var_load o_r (by simp) 0 _ rfl
                          have f_r0 : w10.frozen? ⟨(w.heap.size + 1), 0, none⟩ = false := var_frozen o_r (by simp) 0 _ rfl
                          have c_r1 : w10.cell? ⟨(w.heap.size + 1), 1, none⟩ = some (.slice none 0 0) := var_load o_r (by simp) 1 _ rfl
                          have f_r1 : w10.frozen? ⟨(w.heap.size + 1), 1, none⟩ = false := var_frozen o_r (by simp) 1 _ rfl
                          have l_r := var_lt o_r
                          go_simp
                          clear c_p0 f_p0 c_p1 f_p1 l_p c_r0 f_r0 c_r1 f_r1 l_r
                          obtain ⟨w11, hw11⟩ : ∃ y, y = ((w10.setCell ⟨(w.heap.size + 1), 0, none⟩ (.int .i64 x.Master)).setCell ⟨(w.heap.size + 1), 1, none⟩ (.slice A15 ((k + 1) + (n - k)) c15)) := ⟨_, rfl⟩
                          obtain ⟨o_new, tw11⟩ := var_some [.int .i64 x.Master, .slice A15 ((k + 1) + (n - k)) c15] 0 _ _ o_r (by simp)
                          rw [show setAll w10 ((w.heap.size + 1)) 0 [.int .i64 x.Master, .slice A15 ((k + 1) + (n - k)) c15] = w11 from hw11.symm] at o_new tw11
                          replace o_r : Owns w11 _ (varD 27 2 [.int .i64 x.Master, .slice A15 ((k + 1) + (n - k)) c15]) _ _ := o_new
                          clear o_new
                          replace o_p := owns_turned o_p tw11 (fun b hb hb2 => by simp at hb hb2; omega)
                          replace HB := below_turned HB tw11 (fun b hb => by simp at hb; omega)
                          have zw11 := tw11.2.2.2.1
                          rw [← hw11]
                          clear hw11
                          replace o_R9 := (flat_owns (owns_turned (owns_flat o_R9) tw11 (fun b hb hb2 => by have h1 := (o_R9.lt b (by simpa using hb)).1; simp at hb2; omega))).1
                          replace o_R15 := (flat_owns (owns_turned (owns_flat o_R15) tw11 (fun b hb hb2 => by have h1 := (o_R15.lt b (by simpa using hb)).1; simp at hb2; omega))).1
                          refine hK.out _ _ ?_ (fun hHeld => ?_)
                          · exact ⟨var_load o_p (by simp) 0 _ rfl, var_load o_p (by simp) 1 _ rfl⟩
                          clear hK K
                          try simp only [Act.put, List.setIfInBounds_toArray, List.set_cons_zero, List.set_cons_succ]
                          refine wpAnyH_take (i := 18) (oi := ?oit1_18_19) (v := ?vt1_18_19) ?hit1_18_19 (by kernel_rfl) (by kernel_rfl) (by kernel_rfl) ?hQt1_18_19 (Or.inl ⟨?hwt1_18_19, ?hyt1_18_19⟩) (by assumption) ?_
                          case hit1_18_19 => simp only [List.getElem?_toArray, List.getElem?_cons_succ, List.getElem?_cons_zero]; rfl
                          case hQt1_18_19 => exact fun _ _ _ h => h
                          case hwt1_18_19 => rfl
                          case hyt1_18_19 => intro w hSw; (try dsimp only at hSw); (first | (go_simp; done) | (go_simp; with_reducible rfl))
                          try simp only [Act.put, List.setIfInBounds_toArray, List.set_cons_zero, List.set_cons_succ]
                          refine wpAnyH_done (by kernel_rfl) ?_ _
                          go_wp2
                          have o_z := owns_flat (own_base o_R15 (show w.heap.size ≤ w4.heap.size by omega))
                          have y0 : w11.cell? ⟨(w.heap.size + 1), 0, none⟩ = some (.int .i64 x.Master) := var_load o_r (by simp) 0 _ rfl
                          have y1 : w11.cell? ⟨(w.heap.size + 1), 1, none⟩ = some (.slice A15 ((k + 1) + (n - k)) c15) := var_load o_r (by simp) 1 _ rfl
                          refine bodyPost_ret (v := .tuple #[.agg #[.int .i64 x.Master, .slice A15 ((k + 1) + (n - k)) c15], .bool true]) (by simp [results, Try.results32, go_sem, y0, y1]) rfl ?_
                          exact made_rv (x := ⟨x.Master, ins x.Revoked (v * 10000000 + s)⟩) (by show _ = ins x.Revoked _; rw [← HXS.out, ← HCD.out, HI.out]; simp) rfl (by have := HL.out; simp; try omega) o_z (Ra.block_nodup _) HB
                case gt1_9_13 =>
                  go_simp
                  obtain ⟨w7, hw7⟩ : ∃ y, y = w6.alloc (.cells #[.int .i64 (cd)] 3) := ⟨_, rfl⟩
                  have D_R2_R9 := Ra.far_new (m := 1) (c := 1) o_R2
                  have o_R9 : (w6.alloc (.cells #[.int .i64 (cd)] 3)).ownsRow w4.heap.size 3 1 (.slice (some ⟨w6.heap.size, 0, none⟩) 1 1) 1 (ints .i64 [cd]) := own_base (C6.own_ints w6 [cd] 1 rfl (by omega)) HN.size
                  rw [← hw7] at o_R9 ⊢
                  have bw7 : Below w6.heap.size w6 w7 := hw7 ▸ (Below.refl _ _).alloc (Nat.le_refl _) _
                  clear hw7
                  replace o_R2 := own_below o_R2 bw7
                  replace HN := HN.trans (bw7.mono HN.size)
                  replace o_p := owns_below o_p bw7
                  replace o_r := owns_below o_r bw7
                  replace HB := HB.trans (bw7.mono HB.size)
                  have zw7 := bw7.size
                  refine hK.out _ _ ?_ (fun hHeld => ?_)
                  · exact ⟨var_load o_p (by simp) 0 _ rfl, var_load o_p (by simp) 1 _ rfl⟩
                  clear hK K
                  try simp only [Act.put, List.setIfInBounds_toArray, List.set_cons_zero, List.set_cons_succ]
                  refine wpAnyH_ready (rs := [7]) (by kernel_rfl) (by simp) ?_
                  refine AllReadyH.cons (o := ?ot1_7_20) ?hit1_7_20 (fun K hK => ?gt1_7_20) AllReadyH.nil
                  case hit1_7_20 => simp only [List.getElem?_toArray, List.getElem?_cons_succ, List.getElem?_cons_zero]; rfl
                  case gt1_7_20 =>
                    refine Ra.stepI w7 rfl (.tmp 49) (.tmp 53) rfl (w4.heap.size) (.slice (some ⟨w5.heap.size, 0, none⟩) 0 0) (0) _ (by simp [Act.eval]) o_R2 _ (some ⟨b, off, none⟩) (k) (c) (xs.take k) (by simp [Act.eval]) (Ra.rd_take (HR.out _ HB) (by omega)) (by omega) HN.size ?_
                    intro vw8 w8 o_R7 gw8 kw8
                    have E_R9 : Ra.Far (.slice (some ⟨w5.heap.size, 0, none⟩) 0 0) (.slice (some ⟨w6.heap.size, 0, none⟩) 1 1) := by first | exact D_R2_R9 | exact Ra.Far.symm D_R9_R2
                    have D_R7_R9 := Ra.far_grown o_R9 E_R9 kw8
                    replace o_R9 := Ra.far_kept o_R9 gw8 E_R9
                    clear E_R9
                    have Tw8 := turned_grown gw8
                    have Qw8 : ∀ b, b ∈ Option.toList (Value.ownBlock (.slice (some ⟨w5.heap.size, 0, none⟩) 0 0)) → w4.heap.size ≤ b := fun b hb => (o_R2.lt b (by simpa using hb)).1
                    replace o_p := owns_turned o_p Tw8 (fun b hb hb2 => by have h1 := Qw8 b hb2; simp at hb; omega)
                    replace o_r := owns_turned o_r Tw8 (fun b hb hb2 => by have h1 := Qw8 b hb2; simp at hb; omega)
                    replace HN := HN.grown gw8 HN.size (fun j hj => (o_R2.lt j hj).1)
                    replace HB := below_turned HB Tw8 (fun b hb => by have h1 := Qw8 b hb; omega)
                    have zw8 := gw8.size
                    rw [ints_app] at o_R7
                    rw [Nat.zero_add, List.nil_append] at o_R7
                    obtain ⟨A7, c7, rfl⟩ := own_nil_form o_R7
                    clear o_R2 kw8 gw8
                    refine hK.out _ _ ?_ (fun hHeld => ?_)
                    · exact ⟨var_load o_p (by simp) 0 _ rfl, var_load o_p (by simp) 1 _ rfl⟩
                    clear hK K
                    try simp only [Act.put, List.setIfInBounds_toArray, List.set_cons_zero, List.set_cons_succ]
                    refine wpAnyH_ready (rs := [10]) (by kernel_rfl) (by simp) ?_
                    refine AllReadyH.cons (o := ?ot1_10_21) ?hit1_10_21 (fun K hK => ?gt1_10_21) AllReadyH.nil
                    case hit1_10_21 => simp only [List.getElem?_toArray, List.getElem?_cons_succ, List.getElem?_cons_zero]; rfl
                    case gt1_10_21 =>
                      refine Ra.stepI w8 rfl (.tmp 54) (.tmp 56) rfl (w4.heap.size) (.slice A7 (k) c7) (k) _ (by simp [Act.eval]) o_R7 _ ((some ⟨w6.heap.size, 0, none⟩)) (1) (1) ([cd]) (by simp [Act.eval]) (Rd.own o_R9) (by omega) HN.size ?_
                      intro vw9 w9 o_R10 gw9 kw9
                      have E_R9 : Ra.Far (.slice A7 (k) c7) (.slice (some ⟨w6.heap.size, 0, none⟩) 1 1) := by first | exact D_R7_R9 | exact Ra.Far.symm D_R9_R7
                      have D_R10_R9 := Ra.far_grown o_R9 E_R9 kw9
                      replace o_R9 := Ra.far_kept o_R9 gw9 E_R9
                      clear E_R9
                      have Tw9 := turned_grown gw9
                      have Qw9 : ∀ b, b ∈ Option.toList (Value.ownBlock (.slice A7 (k) c7)) → w4.heap.size ≤ b := fun b hb => (o_R7.lt b (by simpa using hb)).1
                      replace o_p := owns_turned o_p Tw9 (fun b hb hb2 => by have h1 := Qw9 b hb2; simp at hb; omega)
                      replace o_r := owns_turned o_r Tw9 (fun b hb hb2 => by have h1 := Qw9 b hb2; simp at hb; omega)
                      replace HN := HN.grown gw9 HN.size (fun j hj => (o_R7.lt j hj).1)
                      replace HB := below_turned HB Tw9 (fun b hb => by have h1 := Qw9 b hb; omega)
                      have zw9 := gw9.size
                      rw [ints_app] at o_R10
                      obtain ⟨A10, c10, rfl⟩ := own_nil_form o_R10
                      clear o_R7 kw9 gw9
                      refine hK.out _ _ ?_ (fun hHeld => ?_)
                      · exact ⟨var_load o_p (by simp) 0 _ rfl, var_load o_p (by simp) 1 _ rfl⟩
                      clear hK K
                      try simp only [Act.put, List.setIfInBounds_toArray, List.set_cons_zero, List.set_cons_succ]
                      refine wpAnyH_ready (rs := [15]) (by kernel_rfl) (by simp) ?_
                      refine AllReadyH.cons (o := ?ot1_15_22) ?hit1_15_22 (fun K hK => ?gt1_15_22) AllReadyH.nil
                      case hit1_15_22 => simp only [List.getElem?_toArray, List.getElem?_cons_succ, List.getElem?_cons_zero]; rfl
                      case gt1_15_22 =>
                        refine Ra.stepI w9 rfl (.tmp 57) (.tmp 61) rfl (w4.heap.size) (.slice A10 (k + 1) c10) ((k + 1)) _ (by simp [Act.eval]) o_R10 _ (some ⟨b, off + k, none⟩) (n - k) (c - k) (xs.drop k) (by simp [Act.eval]) (Ra.rd_drop (HR.out _ HB) (by omega)) (by omega) HN.size ?_
                        intro vw10 w10 o_R15 gw10 kw10
                        have E_R9 : Ra.Far (.slice A10 (k + 1) c10) (.slice (some ⟨w6.heap.size, 0, none⟩) 1 1) := by first | exact D_R10_R9 | exact Ra.Far.symm D_R9_R10
                        have D_R15_R9 := Ra.far_grown o_R9 E_R9 kw10
                        replace o_R9 := Ra.far_kept o_R9 gw10 E_R9
                        clear E_R9
                        have Tw10 := turned_grown gw10
                        have Qw10 : ∀ b, b ∈ Option.toList (Value.ownBlock (.slice A10 (k + 1) c10)) → w4.heap.size ≤ b := fun b hb => (o_R10.lt b (by simpa using hb)).1
                        replace o_p := owns_turned o_p Tw10 (fun b hb hb2 => by have h1 := Qw10 b hb2; simp at hb; omega)
                        replace o_r := owns_turned o_r Tw10 (fun b hb hb2 => by have h1 := Qw10 b hb2; simp at hb; omega)
                        replace HN := HN.grown gw10 HN.size (fun j hj => (o_R10.lt j hj).1)
                        replace HB := below_turned HB Tw10 (fun b hb => by have h1 := Qw10 b hb; omega)
                        have zw10 := gw10.size
                        rw [ints_app] at o_R15
                        obtain ⟨A15, c15, rfl⟩ := own_nil_form o_R15
                        clear o_R10 kw10 gw10
                        refine hK.out _ _ ?_ (fun hHeld => ?_)
                        · exact ⟨var_load o_p (by simp) 0 _ rfl, var_load o_p (by simp) 1 _ rfl⟩
                        clear hK K
                        try simp only [Act.put, List.setIfInBounds_toArray, List.set_cons_zero, List.set_cons_succ]
                        refine wpAnyH_take (i := 16) (oi := ?oit1_16_23) (v := ?vt1_16_23) ?hit1_16_23 (by kernel_rfl) (by kernel_rfl) (by kernel_rfl) ?hQt1_16_23 (Or.inl ⟨?hwt1_16_23, ?hyt1_16_23⟩) (by assumption) ?_
                        case hit1_16_23 => simp only [List.getElem?_toArray, List.getElem?_cons_succ, List.getElem?_cons_zero]; rfl
                        case hQt1_16_23 => exact fun _ _ _ h => h
                        case hwt1_16_23 => rfl
                        case hyt1_16_23 => intro w hSw; (try dsimp only at hSw); (first | (go_simp; done) | (go_simp; with_reducible rfl))
                        try simp only [Act.put, List.setIfInBounds_toArray, List.set_cons_zero, List.set_cons_succ]
                        refine wpAnyH_ready (rs := [17]) (by kernel_rfl) (by simp) ?_
                        refine AllReadyH.cons (o := ?ot1_17_24) ?hit1_17_24 (fun K hK => ?gt1_17_24) AllReadyH.nil
                        case hit1_17_24 => simp only [List.getElem?_toArray, List.getElem?_cons_succ, List.getElem?_cons_zero]; rfl
                        case gt1_17_24 =>
                          have c_p0 : w10.cell? ⟨w.heap.size, 0, none⟩ = some (.int .i64 x.Master) := var_load o_p (by simp) 0 _ rfl
                          have f_p0 : w10.frozen? ⟨w.heap.size, 0, none⟩ = false := var_frozen o_p (by simp) 0 _ rfl
                          have c_p1 : w10.cell? ⟨w.heap.size, 1, none⟩ = some (.slice (some ⟨b, off, none⟩) n c) := var_load o_p (by simp) 1 _ rfl
                          have f_p1 : w10.frozen? ⟨w.heap.size, 1, none⟩ = false := var_frozen o_p (by simp) 1 _ rfl
                          have l_p := var_lt o_p
                          have c_r0 : w10.cell? ⟨(w.heap.size + 1), 0, none⟩ = some (.int .i64 0) := var_load o_r (by simp) 0 _ rfl
                          have f_r0 : w10.frozen? ⟨(w.heap.size + 1), 0, none⟩ = false := var_frozen o_r (by simp) 0 _ rfl
                          have c_r1 : w10.cell? ⟨(w.heap.size + 1), 1, none⟩ = some (.slice none 0 0) := var_load o_r (by simp) 1 _ rfl
                          have f_r1 : w10.frozen? ⟨(w.heap.size + 1), 1, none⟩ = false := var_frozen o_r (by simp) 1 _ rfl
                          have l_r := var_lt o_r
                          go_simp
                          clear c_p0 f_p0 c_p1 f_p1 l_p c_r0 f_r0 c_r1 f_r1 l_r
                          obtain ⟨w11, hw11⟩ : ∃ y, y = ((w10.setCell ⟨(w.heap.size + 1), 0, none⟩ (.int .i64 x.Master)).setCell ⟨(w.heap.size + 1), 1, none⟩ (.slice A15 ((k + 1) + (n - k)) c15)) := ⟨_, rfl⟩
                          obtain ⟨o_new, tw11⟩ := var_some [.int .i64 x.Master, .slice A15 ((k + 1) + (n - k)) c15] 0 _ _ o_r (by simp)
                          rw [show setAll w10 ((w.heap.size + 1)) 0 [.int .i64 x.Master, .slice A15 ((k + 1) + (n - k)) c15] = w11 from hw11.symm] at o_new tw11
                          replace o_r : Owns w11 _ (varD 27 2 [.int .i64 x.Master, .slice A15 ((k + 1) + (n - k)) c15]) _ _ := o_new
                          clear o_new
                          replace o_p := owns_turned o_p tw11 (fun b hb hb2 => by simp at hb hb2; omega)
                          replace HB := below_turned HB tw11 (fun b hb => by simp at hb; omega)
                          have zw11 := tw11.2.2.2.1
                          rw [← hw11]
                          clear hw11
                          replace o_R9 := (flat_owns (owns_turned (owns_flat o_R9) tw11 (fun b hb hb2 => by have h1 := (o_R9.lt b (by simpa using hb)).1; simp at hb2; omega))).1
                          replace o_R15 := (flat_owns (owns_turned (owns_flat o_R15) tw11 (fun b hb hb2 => by have h1 := (o_R15.lt b (by simpa using hb)).1; simp at hb2; omega))).1
                          refine hK.out _ _ ?_ (fun hHeld => ?_)
                          · exact ⟨var_load o_p (by simp) 0 _ rfl, var_load o_p (by simp) 1 _ rfl⟩
                          clear hK K
                          try simp only [Act.put, List.setIfInBounds_toArray, List.set_cons_zero, List.set_cons_succ]
                          refine wpAnyH_take (i := 18) (oi := ?oit1_18_25) (v := ?vt1_18_25) ?hit1_18_25 (by kernel_rfl) (by kernel_rfl) (by kernel_rfl) ?hQt1_18_25 (Or.inl ⟨?hwt1_18_25, ?hyt1_18_25⟩) (by assumption) ?_
                          case hit1_18_25 => simp only [List.getElem?_toArray, List.getElem?_cons_succ, List.getElem?_cons_zero]; rfl
                          case hQt1_18_25 => exact fun _ _ _ h => h
                          case hwt1_18_25 => rfl
                          case hyt1_18_25 => intro w hSw; (try dsimp only at hSw); (first | (go_simp; done) | (go_simp; with_reducible rfl))
                          try simp only [Act.put, List.setIfInBounds_toArray, List.set_cons_zero, List.set_cons_succ]
                          refine wpAnyH_done (by kernel_rfl) ?_ _
                          go_wp2
                          have o_z := owns_flat (own_base o_R15 (show w.heap.size ≤ w4.heap.size by omega))
                          have y0 : w11.cell? ⟨(w.heap.size + 1), 0, none⟩ = some (.int .i64 x.Master) := var_load o_r (by simp) 0 _ rfl
                          have y1 : w11.cell? ⟨(w.heap.size + 1), 1, none⟩ = some (.slice A15 ((k + 1) + (n - k)) c15) := var_load o_r (by simp) 1 _ rfl
                          refine bodyPost_ret (v := .tuple #[.agg #[.int .i64 x.Master, .slice A15 ((k + 1) + (n - k)) c15], .bool true]) (by simp [results, Try.results32, go_sem, y0, y1]) rfl ?_
                          exact made_rv (x := ⟨x.Master, ins x.Revoked (v * 10000000 + s)⟩) (by show _ = ins x.Revoked _; rw [← HXS.out, ← HCD.out, HI.out]; simp) rfl (by have := HL.out; simp; try omega) o_z (Ra.block_nodup _) HB
              case gt1_9_12 =>
                go_simp
                obtain ⟨w6, hw6⟩ : ∃ y, y = w5.alloc (.cells #[.int .i64 (cd)] 3) := ⟨_, rfl⟩
                have o_R9 : (w5.alloc (.cells #[.int .i64 (cd)] 3)).ownsRow w4.heap.size 3 1 (.slice (some ⟨w5.heap.size, 0, none⟩) 1 1) 1 (ints .i64 [cd]) := own_base (C6.own_ints w5 [cd] 1 rfl (by omega)) HN.size
                rw [← hw6] at o_R9 ⊢
                have bw6 : Below w5.heap.size w5 w6 := hw6 ▸ (Below.refl _ _).alloc (Nat.le_refl _) _
                clear hw6
                replace HN := HN.trans (bw6.mono HN.size)
                replace o_p := owns_below o_p bw6
                replace o_r := owns_below o_r bw6
                replace HB := HB.trans (bw6.mono HB.size)
                have zw6 := bw6.size
                refine hK.out _ _ ?_ (fun hHeld => ?_)
                · exact ⟨var_load o_p (by simp) 0 _ rfl, var_load o_p (by simp) 1 _ rfl⟩
                clear hK K
                try simp only [Act.put, List.setIfInBounds_toArray, List.set_cons_zero, List.set_cons_succ]
                refine wpAnyH_ready (rs := [2]) (by kernel_rfl) (by simp) ?_
                refine AllReadyH.cons (o := ?ot1_2_26) ?hit1_2_26 (fun K hK => ?gt1_2_26) AllReadyH.nil
                case hit1_2_26 => simp only [List.getElem?_toArray, List.getElem?_cons_succ, List.getElem?_cons_zero]; rfl
                case gt1_2_26 =>
                  go_simp
                  obtain ⟨w7, hw7⟩ : ∃ y, y = w6.alloc (.cells #[] 3) := ⟨_, rfl⟩
                  have D_R9_R2 := Ra.far_new (m := 0) (c := 0) o_R9
                  have o_R2 : (w6.alloc (.cells #[] 3)).ownsRow w4.heap.size 3 1 (.slice (some ⟨w6.heap.size, 0, none⟩) 0 0) 0 (ints .i64 []) := own_base (C6.own_ints w6 [] 0 rfl (by omega)) HN.size
                  rw [← hw7] at o_R2 ⊢
                  have bw7 : Below w6.heap.size w6 w7 := hw7 ▸ (Below.refl _ _).alloc (Nat.le_refl _) _
                  clear hw7
                  replace o_R9 := own_below o_R9 bw7
                  replace HN := HN.trans (bw7.mono HN.size)
                  replace o_p := owns_below o_p bw7
                  replace o_r := owns_below o_r bw7
                  replace HB := HB.trans (bw7.mono HB.size)
                  have zw7 := bw7.size
                  refine hK.out _ _ ?_ (fun hHeld => ?_)
                  · exact ⟨var_load o_p (by simp) 0 _ rfl, var_load o_p (by simp) 1 _ rfl⟩
                  clear hK K
                  try simp only [Act.put, List.setIfInBounds_toArray, List.set_cons_zero, List.set_cons_succ]
                  refine wpAnyH_ready (rs := [7]) (by kernel_rfl) (by simp) ?_
                  refine AllReadyH.cons (o := ?ot1_7_27) ?hit1_7_27 (fun K hK => ?gt1_7_27) AllReadyH.nil
                  case hit1_7_27 => simp only [List.getElem?_toArray, List.getElem?_cons_succ, List.getElem?_cons_zero]; rfl
                  case gt1_7_27 =>
                    refine Ra.stepI w7 rfl (.tmp 49) (.tmp 53) rfl (w4.heap.size) (.slice (some ⟨w6.heap.size, 0, none⟩) 0 0) (0) _ (by simp [Act.eval]) o_R2 _ (some ⟨b, off, none⟩) (k) (c) (xs.take k) (by simp [Act.eval]) (Ra.rd_take (HR.out _ HB) (by omega)) (by omega) HN.size ?_
                    intro vw8 w8 o_R7 gw8 kw8
                    have E_R9 : Ra.Far (.slice (some ⟨w6.heap.size, 0, none⟩) 0 0) (.slice (some ⟨w5.heap.size, 0, none⟩) 1 1) := by first | exact D_R2_R9 | exact Ra.Far.symm D_R9_R2
                    have D_R7_R9 := Ra.far_grown o_R9 E_R9 kw8
                    replace o_R9 := Ra.far_kept o_R9 gw8 E_R9
                    clear E_R9
                    have Tw8 := turned_grown gw8
                    have Qw8 : ∀ b, b ∈ Option.toList (Value.ownBlock (.slice (some ⟨w6.heap.size, 0, none⟩) 0 0)) → w4.heap.size ≤ b := fun b hb => (o_R2.lt b (by simpa using hb)).1
                    replace o_p := owns_turned o_p Tw8 (fun b hb hb2 => by have h1 := Qw8 b hb2; simp at hb; omega)
                    replace o_r := owns_turned o_r Tw8 (fun b hb hb2 => by have h1 := Qw8 b hb2; simp at hb; omega)
                    replace HN := HN.grown gw8 HN.size (fun j hj => (o_R2.lt j hj).1)
                    replace HB := below_turned HB Tw8 (fun b hb => by have h1 := Qw8 b hb; omega)
                    have zw8 := gw8.size
                    rw [ints_app] at o_R7
                    rw [Nat.zero_add, List.nil_append] at o_R7
                    obtain ⟨A7, c7, rfl⟩ := own_nil_form o_R7
                    clear o_R2 kw8 gw8
                    refine hK.out _ _ ?_ (fun hHeld => ?_)
                    · exact ⟨var_load o_p (by simp) 0 _ rfl, var_load o_p (by simp) 1 _ rfl⟩
                    clear hK K
                    try simp only [Act.put, List.setIfInBounds_toArray, List.set_cons_zero, List.set_cons_succ]
                    refine wpAnyH_ready (rs := [10]) (by kernel_rfl) (by simp) ?_
                    refine AllReadyH.cons (o := ?ot1_10_28) ?hit1_10_28 (fun K hK => ?gt1_10_28) AllReadyH.nil
                    case hit1_10_28 => simp only [List.getElem?_toArray, List.getElem?_cons_succ, List.getElem?_cons_zero]; rfl
                    case gt1_10_28 =>
                      refine Ra.stepI w8 rfl (.tmp 54) (.tmp 56) rfl (w4.heap.size) (.slice A7 (k) c7) (k) _ (by simp [Act.eval]) o_R7 _ ((some ⟨w5.heap.size, 0, none⟩)) (1) (1) ([cd]) (by simp [Act.eval]) (Rd.own o_R9) (by omega) HN.size ?_
                      intro vw9 w9 o_R10 gw9 kw9
                      have E_R9 : Ra.Far (.slice A7 (k) c7) (.slice (some ⟨w5.heap.size, 0, none⟩) 1 1) := by first | exact D_R7_R9 | exact Ra.Far.symm D_R9_R7
                      have D_R10_R9 := Ra.far_grown o_R9 E_R9 kw9
                      replace o_R9 := Ra.far_kept o_R9 gw9 E_R9
                      clear E_R9
                      have Tw9 := turned_grown gw9
                      have Qw9 : ∀ b, b ∈ Option.toList (Value.ownBlock (.slice A7 (k) c7)) → w4.heap.size ≤ b := fun b hb => (o_R7.lt b (by simpa using hb)).1
                      replace o_p := owns_turned o_p Tw9 (fun b hb hb2 => by have h1 := Qw9 b hb2; simp at hb; omega)
                      replace o_r := owns_turned o_r Tw9 (fun b hb hb2 => by have h1 := Qw9 b hb2; simp at hb; omega)
                      replace HN := HN.grown gw9 HN.size (fun j hj => (o_R7.lt j hj).1)
                      replace HB := below_turned HB Tw9 (fun b hb => by have h1 := Qw9 b hb; omega)
                      have zw9 := gw9.size
                      rw [ints_app] at o_R10
                      obtain ⟨A10, c10, rfl⟩ := own_nil_form o_R10
                      clear o_R7 kw9 gw9
                      refine hK.out _ _ ?_ (fun hHeld => ?_)
                      · exact ⟨var_load o_p (by simp) 0 _ rfl, var_load o_p (by simp) 1 _ rfl⟩
                      clear hK K
                      try simp only [Act.put, List.setIfInBounds_toArray, List.set_cons_zero, List.set_cons_succ]
                      refine wpAnyH_ready (rs := [15]) (by kernel_rfl) (by simp) ?_
                      refine AllReadyH.cons (o := ?ot1_15_29) ?hit1_15_29 (fun K hK => ?gt1_15_29) AllReadyH.nil
                      case hit1_15_29 => simp only [List.getElem?_toArray, List.getElem?_cons_succ, List.getElem?_cons_zero]; rfl
                      case gt1_15_29 =>
                        refine Ra.stepI w9 rfl (.tmp 57) (.tmp 61) rfl (w4.heap.size) (.slice A10 (k + 1) c10) ((k + 1)) _ (by simp [Act.eval]) o_R10 _ (some ⟨b, off + k, none⟩) (n - k) (c - k) (xs.drop k) (by simp [Act.eval]) (Ra.rd_drop (HR.out _ HB) (by omega)) (by omega) HN.size ?_
                        intro vw10 w10 o_R15 gw10 kw10
                        have E_R9 : Ra.Far (.slice A10 (k + 1) c10) (.slice (some ⟨w5.heap.size, 0, none⟩) 1 1) := by first | exact D_R10_R9 | exact Ra.Far.symm D_R9_R10
                        have D_R15_R9 := Ra.far_grown o_R9 E_R9 kw10
                        replace o_R9 := Ra.far_kept o_R9 gw10 E_R9
                        clear E_R9
                        have Tw10 := turned_grown gw10
                        have Qw10 : ∀ b, b ∈ Option.toList (Value.ownBlock (.slice A10 (k + 1) c10)) → w4.heap.size ≤ b := fun b hb => (o_R10.lt b (by simpa using hb)).1
                        replace o_p := owns_turned o_p Tw10 (fun b hb hb2 => by have h1 := Qw10 b hb2; simp at hb; omega)
                        replace o_r := owns_turned o_r Tw10 (fun b hb hb2 => by have h1 := Qw10 b hb2; simp at hb; omega)
                        replace HN := HN.grown gw10 HN.size (fun j hj => (o_R10.lt j hj).1)
                        replace HB := below_turned HB Tw10 (fun b hb => by have h1 := Qw10 b hb; omega)
                        have zw10 := gw10.size
                        rw [ints_app] at o_R15
                        obtain ⟨A15, c15, rfl⟩ := own_nil_form o_R15
                        clear o_R10 kw10 gw10
                        refine hK.out _ _ ?_ (fun hHeld => ?_)
                        · exact ⟨var_load o_p (by simp) 0 _ rfl, var_load o_p (by simp) 1 _ rfl⟩
                        clear hK K
                        try simp only [Act.put, List.setIfInBounds_toArray, List.set_cons_zero, List.set_cons_succ]
                        refine wpAnyH_take (i := 16) (oi := ?oit1_16_30) (v := ?vt1_16_30) ?hit1_16_30 (by kernel_rfl) (by kernel_rfl) (by kernel_rfl) ?hQt1_16_30 (Or.inl ⟨?hwt1_16_30, ?hyt1_16_30⟩) (by assumption) ?_
                        case hit1_16_30 => simp only [List.getElem?_toArray, List.getElem?_cons_succ, List.getElem?_cons_zero]; rfl
                        case hQt1_16_30 => exact fun _ _ _ h => h
                        case hwt1_16_30 => rfl
                        case hyt1_16_30 => intro w hSw; (try dsimp only at hSw); (first | (go_simp; done) | (go_simp; with_reducible rfl))
                        try simp only [Act.put, List.setIfInBounds_toArray, List.set_cons_zero, List.set_cons_succ]
                        refine wpAnyH_ready (rs := [17]) (by kernel_rfl) (by simp) ?_
                        refine AllReadyH.cons (o := ?ot1_17_31) ?hit1_17_31 (fun K hK => ?gt1_17_31) AllReadyH.nil
                        case hit1_17_31 => simp only [List.getElem?_toArray, List.getElem?_cons_succ, List.getElem?_cons_zero]; rfl
                        case gt1_17_31 =>
                          have c_p0 : w10.cell? ⟨w.heap.size, 0, none⟩ = some (.int .i64 x.Master) := var_load o_p (by simp) 0 _ rfl
                          have f_p0 : w10.frozen? ⟨w.heap.size, 0, none⟩ = false := var_frozen o_p (by simp) 0 _ rfl
                          have c_p1 : w10.cell? ⟨w.heap.size, 1, none⟩ = some (.slice (some ⟨b, off, none⟩) n c) := var_load o_p (by simp) 1 _ rfl
                          have f_p1 : w10.frozen? ⟨w.heap.size, 1, none⟩ = false := var_frozen o_p (by simp) 1 _ rfl
                          have l_p := var_lt o_p
                          have c_r0 : w10.cell? ⟨(w.heap.size + 1), 0, none⟩ = some (.int .i64 0) := var_load o_r (by simp) 0 _ rfl
                          have f_r0 : w10.frozen? ⟨(w.heap.size + 1), 0, none⟩ = false := var_frozen o_r (by simp) 0 _ rfl
                          have c_r1 : w10.cell? ⟨(w.heap.size + 1), 1, none⟩ = some (.slice none 0 0) := var_load o_r (by simp) 1 _ rfl
                          have f_r1 : w10.frozen? ⟨(w.heap.size + 1), 1, none⟩ = false := var_frozen o_r (by simp) 1 _ rfl
                          have l_r := var_lt o_r
                          go_simp
                          clear c_p0 f_p0 c_p1 f_p1 l_p c_r0 f_r0 c_r1 f_r1 l_r
                          obtain ⟨w11, hw11⟩ : ∃ y, y = ((w10.setCell ⟨(w.heap.size + 1), 0, none⟩ (.int .i64 x.Master)).setCell ⟨(w.heap.size + 1), 1, none⟩ (.slice A15 ((k + 1) + (n - k)) c15)) := ⟨_, rfl⟩
                          obtain ⟨o_new, tw11⟩ := var_some [.int .i64 x.Master, .slice A15 ((k + 1) + (n - k)) c15] 0 _ _ o_r (by simp)
                          rw [show setAll w10 ((w.heap.size + 1)) 0 [.int .i64 x.Master, .slice A15 ((k + 1) + (n - k)) c15] = w11 from hw11.symm] at o_new tw11
                          replace o_r : Owns w11 _ (varD 27 2 [.int .i64 x.Master, .slice A15 ((k + 1) + (n - k)) c15]) _ _ := o_new
                          clear o_new
                          replace o_p := owns_turned o_p tw11 (fun b hb hb2 => by simp at hb hb2; omega)
                          replace HB := below_turned HB tw11 (fun b hb => by simp at hb; omega)
                          have zw11 := tw11.2.2.2.1
                          rw [← hw11]
                          clear hw11
                          replace o_R9 := (flat_owns (owns_turned (owns_flat o_R9) tw11 (fun b hb hb2 => by have h1 := (o_R9.lt b (by simpa using hb)).1; simp at hb2; omega))).1
                          replace o_R15 := (flat_owns (owns_turned (owns_flat o_R15) tw11 (fun b hb hb2 => by have h1 := (o_R15.lt b (by simpa using hb)).1; simp at hb2; omega))).1
                          refine hK.out _ _ ?_ (fun hHeld => ?_)
                          · exact ⟨var_load o_p (by simp) 0 _ rfl, var_load o_p (by simp) 1 _ rfl⟩
                          clear hK K
                          try simp only [Act.put, List.setIfInBounds_toArray, List.set_cons_zero, List.set_cons_succ]
                          refine wpAnyH_take (i := 18) (oi := ?oit1_18_32) (v := ?vt1_18_32) ?hit1_18_32 (by kernel_rfl) (by kernel_rfl) (by kernel_rfl) ?hQt1_18_32 (Or.inl ⟨?hwt1_18_32, ?hyt1_18_32⟩) (by assumption) ?_
                          case hit1_18_32 => simp only [List.getElem?_toArray, List.getElem?_cons_succ, List.getElem?_cons_zero]; rfl
                          case hQt1_18_32 => exact fun _ _ _ h => h
                          case hwt1_18_32 => rfl
                          case hyt1_18_32 => intro w hSw; (try dsimp only at hSw); (first | (go_simp; done) | (go_simp; with_reducible rfl))
                          try simp only [Act.put, List.setIfInBounds_toArray, List.set_cons_zero, List.set_cons_succ]
                          refine wpAnyH_done (by kernel_rfl) ?_ _
                          go_wp2
                          have o_z := owns_flat (own_base o_R15 (show w.heap.size ≤ w4.heap.size by omega))
                          have y0 : w11.cell? ⟨(w.heap.size + 1), 0, none⟩ = some (.int .i64 x.Master) := var_load o_r (by simp) 0 _ rfl
                          have y1 : w11.cell? ⟨(w.heap.size + 1), 1, none⟩ = some (.slice A15 ((k + 1) + (n - k)) c15) := var_load o_r (by simp) 1 _ rfl
                          refine bodyPost_ret (v := .tuple #[.agg #[.int .i64 x.Master, .slice A15 ((k + 1) + (n - k)) c15], .bool true]) (by simp [results, Try.results32, go_sem, y0, y1]) rfl ?_
                          exact made_rv (x := ⟨x.Master, ins x.Revoked (v * 10000000 + s)⟩) (by show _ = ins x.Revoked _; rw [← HXS.out, ← HCD.out, HI.out]; simp) rfl (by have := HL.out; simp; try omega) o_z (Ra.block_nodup _) HB
          · have HKN := Lib.hid (show k = n by omega)
            have p1 : ¬ (k : Int) < (n : Int) := by omega
            have HI := Lib.hid (show ins xs cd = xs.take k ++ cd :: xs.drop k from ins_at HG.out (by have := HL.out; omega) (Or.inl (HKN.out.trans HL.out)))
            clear HG
            cases A with
            | none =>
              obtain ⟨rfl, rfl⟩ := HSH.out.nil_ rfl
              obtain rfl : k = 0 := by omega
              go_wp2_with fail
              clear c_p0 f_p0 c_p1 f_p1 l_p c_r0 f_r0 c_r1 f_r1 l_r
              have HN := Below.refl w4.heap.size w4
              obtain ⟨w5, hw5⟩ : ∃ y, y = w4.drew := ⟨_, rfl⟩
              have bw5 : Below w4.heap.size w4 w5 := hw5 ▸ drewN_below w4 1 _
              replace o_p := owns_below o_p bw5
              replace o_r := owns_below o_r bw5
              replace HB := HB.trans (bw5.mono HB.size)
              have zw5 := bw5.size
              replace HN := HN.trans (bw5.mono HN.size)
              refine wp_region_held_drew (S := (fun wx => wx.cell? ⟨w.heap.size, 0, none⟩ = some (.int .i64 x.Master) ∧ wx.cell? ⟨w.heap.size, 1, none⟩ = some (.slice none 0 0))) (by kernel_rfl) ?_ (fun hHeld => ?_)
              · rw [← hw5]; exact ⟨var_load o_p (by simp) 0 _ rfl, var_load o_p (by simp) 1 _ rfl⟩
              rw [← hw5] at hHeld ⊢
              clear hw5
              refine wpAnyH_take (i := 0) (oi := ?oit2_0_1) (v := ?vt2_0_1) ?hit2_0_1 (by kernel_rfl) (by kernel_rfl) (by kernel_rfl) ?hQt2_0_1 (Or.inl ⟨?hwt2_0_1, ?hyt2_0_1⟩) (by assumption) ?_
              case hit2_0_1 => simp only [List.getElem?_toArray, List.getElem?_cons_zero]; rfl
              case hQt2_0_1 => exact fun _ _ _ h => h
              case hwt2_0_1 => rfl
              case hyt2_0_1 => intro w hSw; (try dsimp only at hSw); (first | (go_simp; done) | (go_simp; with_reducible rfl))
              try simp only [Act.put, List.setIfInBounds_toArray, List.set_cons_zero, List.set_cons_succ]
              refine wpAnyH_take (i := 1) (oi := ?oit2_1_2) (v := ?vt2_1_2) ?hit2_1_2 (by kernel_rfl) (by kernel_rfl) (by kernel_rfl) ?hQt2_1_2 (Or.inl ⟨?hwt2_1_2, ?hyt2_1_2⟩) (by assumption) ?_
              case hit2_1_2 => simp only [List.getElem?_toArray, List.getElem?_cons_succ, List.getElem?_cons_zero]; rfl
              case hQt2_1_2 => exact fun _ _ _ h => h
              case hwt2_1_2 => rfl
              case hyt2_1_2 => intro w hSw; (try dsimp only at hSw); (first | (go_simp; done) | (go_simp; with_reducible rfl))
              try simp only [Act.put, List.setIfInBounds_toArray, List.set_cons_zero, List.set_cons_succ]
              refine wpAnyH_take (i := 3) (oi := ?oit2_3_3) (v := ?vt2_3_3) ?hit2_3_3 (by kernel_rfl) (by kernel_rfl) (by kernel_rfl) ?hQt2_3_3 (Or.inl ⟨?hwt2_3_3, ?hyt2_3_3⟩) (by assumption) ?_
              case hit2_3_3 => simp only [List.getElem?_toArray, List.getElem?_cons_succ, List.getElem?_cons_zero]; rfl
              case hQt2_3_3 => exact fun _ _ _ h => h
              case hwt2_3_3 => rfl
              case hyt2_3_3 => intro w hSw; (try dsimp only at hSw); (first | (go_simp; done) | (go_simp; with_reducible rfl))
              try simp only [Act.put, List.setIfInBounds_toArray, List.set_cons_zero, List.set_cons_succ]
              refine wpAnyH_take (i := 4) (oi := ?oit2_4_4) (v := ?vt2_4_4) ?hit2_4_4 (by kernel_rfl) (by kernel_rfl) (by kernel_rfl) ?hQt2_4_4 (Or.inl ⟨?hwt2_4_4, ?hyt2_4_4⟩) (by assumption) ?_
              case hit2_4_4 => simp only [List.getElem?_toArray, List.getElem?_cons_succ, List.getElem?_cons_zero]; rfl
              case hQt2_4_4 => exact fun _ _ _ h => h
              case hwt2_4_4 => rfl
              case hyt2_4_4 => intro w hSw; (try dsimp only at hSw); (first | (go_simp; done) | (go_simp; with_reducible rfl))
              try simp only [Act.put, List.setIfInBounds_toArray, List.set_cons_zero, List.set_cons_succ]
              refine wpAnyH_take (i := 5) (oi := ?oit2_5_5) (v := ?vt2_5_5) ?hit2_5_5 (by kernel_rfl) (by kernel_rfl) (by kernel_rfl) ?hQt2_5_5 (Or.inl ⟨?hwt2_5_5, ?hyt2_5_5⟩) (by assumption) ?_
              case hit2_5_5 => simp only [List.getElem?_toArray, List.getElem?_cons_succ, List.getElem?_cons_zero]; rfl
              case hQt2_5_5 => exact fun _ _ _ h => h
              case hwt2_5_5 => rfl
              case hyt2_5_5 => intro w hSw; (try dsimp only at hSw); (first | (go_simp; done) | (go_simp; with_reducible rfl))
              try simp only [Act.put, List.setIfInBounds_toArray, List.set_cons_zero, List.set_cons_succ]
              refine wpAnyH_take (i := 6) (oi := ?oit2_6_6) (v := ?vt2_6_6) ?hit2_6_6 (by kernel_rfl) (by kernel_rfl) (by kernel_rfl) ?hQt2_6_6 (Or.inl ⟨?hwt2_6_6, ?hyt2_6_6⟩) (by assumption) ?_
              case hit2_6_6 => simp only [List.getElem?_toArray, List.getElem?_cons_succ, List.getElem?_cons_zero]; rfl
              case hQt2_6_6 => exact fun _ _ _ h => h
              case hwt2_6_6 => rfl
              case hyt2_6_6 => intro w hSw; (try dsimp only at hSw); (first | (go_simp; done) | (go_simp; with_reducible rfl))
              try simp only [Act.put, List.setIfInBounds_toArray, List.set_cons_zero, List.set_cons_succ]
              refine wpAnyH_take (i := 8) (oi := ?oit2_8_7) (v := ?vt2_8_7) ?hit2_8_7 (by kernel_rfl) (by kernel_rfl) (by kernel_rfl) ?hQt2_8_7 (Or.inl ⟨?hwt2_8_7, ?hyt2_8_7⟩) (by assumption) ?_
              case hit2_8_7 => simp only [List.getElem?_toArray, List.getElem?_cons_succ, List.getElem?_cons_zero]; rfl
              case hQt2_8_7 => exact fun _ _ _ h => h
              case hwt2_8_7 => rfl
              case hyt2_8_7 => intro w hSw; (try dsimp only at hSw); (first | (go_simp; done) | (go_simp; with_reducible rfl))
              try simp only [Act.put, List.setIfInBounds_toArray, List.set_cons_zero, List.set_cons_succ]
              refine wpAnyH_take (i := 11) (oi := ?oit2_11_8) (v := ?vt2_11_8) ?hit2_11_8 (by kernel_rfl) (by kernel_rfl) (by kernel_rfl) ?hQt2_11_8 (Or.inl ⟨?hwt2_11_8, ?hyt2_11_8⟩) (by assumption) ?_
              case hit2_11_8 => simp only [List.getElem?_toArray, List.getElem?_cons_succ, List.getElem?_cons_zero]; rfl
              case hQt2_11_8 => exact fun _ _ _ h => h
              case hwt2_11_8 => rfl
              case hyt2_11_8 => intro w hSw; (try dsimp only at hSw); (first | (go_simp; done) | (go_simp; with_reducible rfl))
              try simp only [Act.put, List.setIfInBounds_toArray, List.set_cons_zero, List.set_cons_succ]
              refine wpAnyH_take (i := 12) (oi := ?oit2_12_9) (v := ?vt2_12_9) ?hit2_12_9 (by kernel_rfl) (by kernel_rfl) (by kernel_rfl) ?hQt2_12_9 (Or.inl ⟨?hwt2_12_9, ?hyt2_12_9⟩) (by assumption) ?_
              case hit2_12_9 => simp only [List.getElem?_toArray, List.getElem?_cons_succ, List.getElem?_cons_zero]; rfl
              case hQt2_12_9 => exact fun _ _ _ h => h
              case hwt2_12_9 => rfl
              case hyt2_12_9 => intro w hSw; (try dsimp only at hSw); (first | (go_simp; done) | (go_simp; with_reducible rfl))
              try simp only [Act.put, List.setIfInBounds_toArray, List.set_cons_zero, List.set_cons_succ]
              refine wpAnyH_take (i := 13) (oi := ?oit2_13_10) (v := ?vt2_13_10) ?hit2_13_10 (by kernel_rfl) (by kernel_rfl) (by kernel_rfl) ?hQt2_13_10 (Or.inl ⟨?hwt2_13_10, ?hyt2_13_10⟩) (by assumption) ?_
              case hit2_13_10 => simp only [List.getElem?_toArray, List.getElem?_cons_succ, List.getElem?_cons_zero]; rfl
              case hQt2_13_10 => exact fun _ _ _ h => h
              case hwt2_13_10 => rfl
              case hyt2_13_10 => intro w hSw; (try dsimp only at hSw); (first | (go_simp; done) | (go_simp; with_reducible rfl))
              try simp only [Act.put, List.setIfInBounds_toArray, List.set_cons_zero, List.set_cons_succ]
              refine wpAnyH_take (i := 14) (oi := ?oit2_14_11) (v := ?vt2_14_11) ?hit2_14_11 (by kernel_rfl) (by kernel_rfl) (by kernel_rfl) ?hQt2_14_11 (Or.inl ⟨?hwt2_14_11, ?hyt2_14_11⟩) (by assumption) ?_
              case hit2_14_11 => simp only [List.getElem?_toArray, List.getElem?_cons_succ, List.getElem?_cons_zero]; rfl
              case hQt2_14_11 => exact fun _ _ _ h => h
              case hwt2_14_11 => rfl
              case hyt2_14_11 => intro w hSw; (try dsimp only at hSw); (first | (go_simp; done) | (go_simp; with_reducible rfl))
              try simp only [Act.put, List.setIfInBounds_toArray, List.set_cons_zero, List.set_cons_succ]
              refine wpAnyH_ready (rs := [2, 9]) (by kernel_rfl) (by simp) ?_
              refine AllReadyH.cons (o := ?ot2_2_12) ?hit2_2_12 (fun K hK => ?gt2_2_12) (AllReadyH.cons (o := ?ot2_9_12) ?hit2_9_12 (fun K hK => ?gt2_9_12) AllReadyH.nil)
              case hit2_2_12 => simp only [List.getElem?_toArray, List.getElem?_cons_succ, List.getElem?_cons_zero]; rfl
              case hit2_9_12 => simp only [List.getElem?_toArray, List.getElem?_cons_succ, List.getElem?_cons_zero]; rfl
              case gt2_2_12 =>
                go_simp
                obtain ⟨w6, hw6⟩ : ∃ y, y = w5.alloc (.cells #[] 3) := ⟨_, rfl⟩
                have o_R2 : (w5.alloc (.cells #[] 3)).ownsRow w4.heap.size 3 1 (.slice (some ⟨w5.heap.size, 0, none⟩) 0 0) 0 (ints .i64 []) := own_base (C6.own_ints w5 [] 0 rfl (by omega)) HN.size
                rw [← hw6] at o_R2 ⊢
                have bw6 : Below w5.heap.size w5 w6 := hw6 ▸ (Below.refl _ _).alloc (Nat.le_refl _) _
                clear hw6
                replace HN := HN.trans (bw6.mono HN.size)
                replace o_p := owns_below o_p bw6
                replace o_r := owns_below o_r bw6
                replace HB := HB.trans (bw6.mono HB.size)
                have zw6 := bw6.size
                refine hK.out _ _ ?_ (fun hHeld => ?_)
                · exact ⟨var_load o_p (by simp) 0 _ rfl, var_load o_p (by simp) 1 _ rfl⟩
                clear hK K
                try simp only [Act.put, List.setIfInBounds_toArray, List.set_cons_zero, List.set_cons_succ]
                refine wpAnyH_ready (rs := [7, 9]) (by kernel_rfl) (by simp) ?_
                refine AllReadyH.cons (o := ?ot2_7_13) ?hit2_7_13 (fun K hK => ?gt2_7_13) (AllReadyH.cons (o := ?ot2_9_13) ?hit2_9_13 (fun K hK => ?gt2_9_13) AllReadyH.nil)
                case hit2_7_13 => simp only [List.getElem?_toArray, List.getElem?_cons_succ, List.getElem?_cons_zero]; rfl
                case hit2_9_13 => simp only [List.getElem?_toArray, List.getElem?_cons_succ, List.getElem?_cons_zero]; rfl
                case gt2_7_13 =>
                  refine Ra.stepI w6 rfl (.tmp 49) (.tmp 53) rfl (w4.heap.size) (.slice (some ⟨w5.heap.size, 0, none⟩) 0 0) (0) _ (by simp [Act.eval]) o_R2 _ (none) (0) (0) ([]) (by simp [Act.eval]) (Ra.rd_none (hi := 0)) (by omega) HN.size ?_
                  intro vw7 w7 o_R7 gw7 kw7
                  have Tw7 := turned_grown gw7
                  have Qw7 : ∀ b, b ∈ Option.toList (Value.ownBlock (.slice (some ⟨w5.heap.size, 0, none⟩) 0 0)) → w4.heap.size ≤ b := fun b hb => (o_R2.lt b (by simpa using hb)).1
                  replace o_p := owns_turned o_p Tw7 (fun b hb hb2 => by have h1 := Qw7 b hb2; simp at hb; omega)
                  replace o_r := owns_turned o_r Tw7 (fun b hb hb2 => by have h1 := Qw7 b hb2; simp at hb; omega)
                  replace HN := HN.grown gw7 HN.size (fun j hj => (o_R2.lt j hj).1)
                  replace HB := below_turned HB Tw7 (fun b hb => by have h1 := Qw7 b hb; omega)
                  have zw7 := gw7.size
                  rw [ints_app] at o_R7
                  rw [Nat.zero_add, List.nil_append] at o_R7
                  obtain ⟨A7, c7, rfl⟩ := own_nil_form o_R7
                  clear o_R2 kw7 gw7
                  refine hK.out _ _ ?_ (fun hHeld => ?_)
                  · exact ⟨var_load o_p (by simp) 0 _ rfl, var_load o_p (by simp) 1 _ rfl⟩
                  clear hK K
                  try simp only [Act.put, List.setIfInBounds_toArray, List.set_cons_zero, List.set_cons_succ]
                  refine wpAnyH_ready (rs := [9]) (by kernel_rfl) (by simp) ?_
                  refine AllReadyH.cons (o := ?ot2_9_14) ?hit2_9_14 (fun K hK => ?gt2_9_14) AllReadyH.nil
                  case hit2_9_14 => simp only [List.getElem?_toArray, List.getElem?_cons_succ, List.getElem?_cons_zero]; rfl
                  case gt2_9_14 =>
                    go_simp
                    obtain ⟨w8, hw8⟩ : ∃ y, y = w7.alloc (.cells #[.int .i64 (cd)] 3) := ⟨_, rfl⟩
                    have D_R7_R9 := Ra.far_new (m := 1) (c := 1) o_R7
                    have o_R9 : (w7.alloc (.cells #[.int .i64 (cd)] 3)).ownsRow w4.heap.size 3 1 (.slice (some ⟨w7.heap.size, 0, none⟩) 1 1) 1 (ints .i64 [cd]) := own_base (C6.own_ints w7 [cd] 1 rfl (by omega)) HN.size
                    rw [← hw8] at o_R9 ⊢
                    have bw8 : Below w7.heap.size w7 w8 := hw8 ▸ (Below.refl _ _).alloc (Nat.le_refl _) _
                    clear hw8
                    replace o_R7 := own_below o_R7 bw8
                    replace HN := HN.trans (bw8.mono HN.size)
                    replace o_p := owns_below o_p bw8
                    replace o_r := owns_below o_r bw8
                    replace HB := HB.trans (bw8.mono HB.size)
                    have zw8 := bw8.size
                    refine hK.out _ _ ?_ (fun hHeld => ?_)
                    · exact ⟨var_load o_p (by simp) 0 _ rfl, var_load o_p (by simp) 1 _ rfl⟩
                    clear hK K
                    try simp only [Act.put, List.setIfInBounds_toArray, List.set_cons_zero, List.set_cons_succ]
                    refine wpAnyH_ready (rs := [10]) (by kernel_rfl) (by simp) ?_
                    refine AllReadyH.cons (o := ?ot2_10_15) ?hit2_10_15 (fun K hK => ?gt2_10_15) AllReadyH.nil
                    case hit2_10_15 => simp only [List.getElem?_toArray, List.getElem?_cons_succ, List.getElem?_cons_zero]; rfl
                    case gt2_10_15 =>
                      refine Ra.stepI w8 rfl (.tmp 54) (.tmp 56) rfl (w4.heap.size) (.slice A7 (0) c7) (0) _ (by simp [Act.eval]) o_R7 _ ((some ⟨w7.heap.size, 0, none⟩)) (1) (1) ([cd]) (by simp [Act.eval]) (Rd.own o_R9) (by omega) HN.size ?_
                      intro vw9 w9 o_R10 gw9 kw9
                      have E_R9 : Ra.Far (.slice A7 (0) c7) (.slice (some ⟨w7.heap.size, 0, none⟩) 1 1) := by first | exact D_R7_R9 | exact Ra.Far.symm D_R9_R7
                      have D_R10_R9 := Ra.far_grown o_R9 E_R9 kw9
                      replace o_R9 := Ra.far_kept o_R9 gw9 E_R9
                      clear E_R9
                      have Tw9 := turned_grown gw9
                      have Qw9 : ∀ b, b ∈ Option.toList (Value.ownBlock (.slice A7 (0) c7)) → w4.heap.size ≤ b := fun b hb => (o_R7.lt b (by simpa using hb)).1
                      replace o_p := owns_turned o_p Tw9 (fun b hb hb2 => by have h1 := Qw9 b hb2; simp at hb; omega)
                      replace o_r := owns_turned o_r Tw9 (fun b hb hb2 => by have h1 := Qw9 b hb2; simp at hb; omega)
                      replace HN := HN.grown gw9 HN.size (fun j hj => (o_R7.lt j hj).1)
                      replace HB := below_turned HB Tw9 (fun b hb => by have h1 := Qw9 b hb; omega)
                      have zw9 := gw9.size
                      rw [ints_app] at o_R10
                      rw [Nat.zero_add, List.nil_append] at o_R10
                      obtain ⟨A10, c10, rfl⟩ := own_nil_form o_R10
                      clear o_R7 kw9 gw9
                      refine hK.out _ _ ?_ (fun hHeld => ?_)
                      · exact ⟨var_load o_p (by simp) 0 _ rfl, var_load o_p (by simp) 1 _ rfl⟩
                      clear hK K
                      try simp only [Act.put, List.setIfInBounds_toArray, List.set_cons_zero, List.set_cons_succ]
                      refine wpAnyH_ready (rs := [15]) (by kernel_rfl) (by simp) ?_
                      refine AllReadyH.cons (o := ?ot2_15_16) ?hit2_15_16 (fun K hK => ?gt2_15_16) AllReadyH.nil
                      case hit2_15_16 => simp only [List.getElem?_toArray, List.getElem?_cons_succ, List.getElem?_cons_zero]; rfl
                      case gt2_15_16 =>
                        refine Ra.stepI w9 rfl (.tmp 57) (.tmp 61) rfl (w4.heap.size) (.slice A10 (1) c10) (1) _ (by simp [Act.eval]) o_R10 _ (none) (0) (0) ([]) (by simp [Act.eval]) (Ra.rd_none (hi := 0)) (by omega) HN.size ?_
                        intro vw10 w10 o_R15 gw10 kw10
                        have E_R9 : Ra.Far (.slice A10 (1) c10) (.slice (some ⟨w7.heap.size, 0, none⟩) 1 1) := by first | exact D_R10_R9 | exact Ra.Far.symm D_R9_R10
                        have D_R15_R9 := Ra.far_grown o_R9 E_R9 kw10
                        replace o_R9 := Ra.far_kept o_R9 gw10 E_R9
                        clear E_R9
                        have Tw10 := turned_grown gw10
                        have Qw10 : ∀ b, b ∈ Option.toList (Value.ownBlock (.slice A10 (1) c10)) → w4.heap.size ≤ b := fun b hb => (o_R10.lt b (by simpa using hb)).1
                        replace o_p := owns_turned o_p Tw10 (fun b hb hb2 => by have h1 := Qw10 b hb2; simp at hb; omega)
                        replace o_r := owns_turned o_r Tw10 (fun b hb hb2 => by have h1 := Qw10 b hb2; simp at hb; omega)
                        replace HN := HN.grown gw10 HN.size (fun j hj => (o_R10.lt j hj).1)
                        replace HB := below_turned HB Tw10 (fun b hb => by have h1 := Qw10 b hb; omega)
                        have zw10 := gw10.size
                        rw [ints_app] at o_R15
                        obtain ⟨A15, c15, rfl⟩ := own_nil_form o_R15
                        clear o_R10 kw10 gw10
                        refine hK.out _ _ ?_ (fun hHeld => ?_)
                        · exact ⟨var_load o_p (by simp) 0 _ rfl, var_load o_p (by simp) 1 _ rfl⟩
                        clear hK K
                        try simp only [Act.put, List.setIfInBounds_toArray, List.set_cons_zero, List.set_cons_succ]
                        refine wpAnyH_take (i := 16) (oi := ?oit2_16_17) (v := ?vt2_16_17) ?hit2_16_17 (by kernel_rfl) (by kernel_rfl) (by kernel_rfl) ?hQt2_16_17 (Or.inl ⟨?hwt2_16_17, ?hyt2_16_17⟩) (by assumption) ?_
                        case hit2_16_17 => simp only [List.getElem?_toArray, List.getElem?_cons_succ, List.getElem?_cons_zero]; rfl
                        case hQt2_16_17 => exact fun _ _ _ h => h
                        case hwt2_16_17 => rfl
                        case hyt2_16_17 => intro w hSw; (try dsimp only at hSw); (first | (go_simp; done) | (go_simp; with_reducible rfl))
                        try simp only [Act.put, List.setIfInBounds_toArray, List.set_cons_zero, List.set_cons_succ]
                        refine wpAnyH_ready (rs := [17]) (by kernel_rfl) (by simp) ?_
                        refine AllReadyH.cons (o := ?ot2_17_18) ?hit2_17_18 (fun K hK => ?gt2_17_18) AllReadyH.nil
                        case hit2_17_18 => simp only [List.getElem?_toArray, List.getElem?_cons_succ, List.getElem?_cons_zero]; rfl
                        case gt2_17_18 =>
                          have c_p0 : w10.cell? ⟨w.heap.size, 0, none⟩ = some (.int .i64 x.Master) := var_load o_p (by simp) 0 _ rfl
                          have f_p0 : w10.frozen? ⟨w.heap.size, 0, none⟩ = false := var_frozen o_p (by simp) 0 _ rfl
                          have c_p1 : w10.cell? ⟨w.heap.size, 1, none⟩ = some (.slice none 0 0) := var_load o_p (by simp) 1 _ rfl
                          have f_p1 : w10.frozen? ⟨w.heap.size, 1, none⟩ = false := var_frozen o_p (by simp) 1 _ rfl
                          have l_p := var_lt o_p
                          have c_r0 : w10.cell? ⟨(w.heap.size + 1), 0, none⟩ = some (.int .i64 0) := var_load o_r (by simp) 0 _ rfl
                          have f_r0 : w10.frozen? ⟨(w.heap.size + 1), 0, none⟩ = false := var_frozen o_r (by simp) 0 _ rfl
                          have c_r1 : w10.cell? ⟨(w.heap.size + 1), 1, none⟩ = some (.slice none 0 0) := var_load o_r (by simp) 1 _ rfl
                          have f_r1 : w10.frozen? ⟨(w.heap.size + 1), 1, none⟩ = false := var_frozen o_r (by simp) 1 _ rfl
                          have l_r := var_lt o_r
                          go_simp
                          clear c_p0 f_p0 c_p1 f_p1 l_p c_r0 f_r0 c_r1 f_r1 l_r
                          obtain ⟨w11, hw11⟩ : ∃ y, y = ((w10.setCell ⟨(w.heap.size + 1), 0, none⟩ (.int .i64 x.Master)).setCell ⟨(w.heap.size + 1), 1, none⟩ (.slice A15 (1 + 0) c15)) := ⟨_, rfl⟩
                          obtain ⟨o_new, tw11⟩ := var_some [.int .i64 x.Master, .slice A15 (1 + 0) c15] 0 _ _ o_r (by simp)
                          rw [show setAll w10 ((w.heap.size + 1)) 0 [.int .i64 x.Master, .slice A15 (1 + 0) c15] = w11 from hw11.symm] at o_new tw11
                          replace o_r : Owns w11 _ (varD 27 2 [.int .i64 x.Master, .slice A15 (1 + 0) c15]) _ _ := o_new
                          clear o_new
                          replace o_p := owns_turned o_p tw11 (fun b hb hb2 => by simp at hb hb2; omega)
                          replace HB := below_turned HB tw11 (fun b hb => by simp at hb; omega)
                          have zw11 := tw11.2.2.2.1
                          rw [← hw11]
                          clear hw11
                          replace o_R9 := (flat_owns (owns_turned (owns_flat o_R9) tw11 (fun b hb hb2 => by have h1 := (o_R9.lt b (by simpa using hb)).1; simp at hb2; omega))).1
                          replace o_R15 := (flat_owns (owns_turned (owns_flat o_R15) tw11 (fun b hb hb2 => by have h1 := (o_R15.lt b (by simpa using hb)).1; simp at hb2; omega))).1
                          refine hK.out _ _ ?_ (fun hHeld => ?_)
                          · exact ⟨var_load o_p (by simp) 0 _ rfl, var_load o_p (by simp) 1 _ rfl⟩
                          clear hK K
                          try simp only [Act.put, List.setIfInBounds_toArray, List.set_cons_zero, List.set_cons_succ]
                          refine wpAnyH_take (i := 18) (oi := ?oit2_18_19) (v := ?vt2_18_19) ?hit2_18_19 (by kernel_rfl) (by kernel_rfl) (by kernel_rfl) ?hQt2_18_19 (Or.inl ⟨?hwt2_18_19, ?hyt2_18_19⟩) (by assumption) ?_
                          case hit2_18_19 => simp only [List.getElem?_toArray, List.getElem?_cons_succ, List.getElem?_cons_zero]; rfl
                          case hQt2_18_19 => exact fun _ _ _ h => h
                          case hwt2_18_19 => rfl
                          case hyt2_18_19 => intro w hSw; (try dsimp only at hSw); (first | (go_simp; done) | (go_simp; with_reducible rfl))
                          try simp only [Act.put, List.setIfInBounds_toArray, List.set_cons_zero, List.set_cons_succ]
                          refine wpAnyH_done (by kernel_rfl) ?_ _
                          go_wp2
                          have o_z := owns_flat (own_base o_R15 (show w.heap.size ≤ w4.heap.size by omega))
                          have y0 : w11.cell? ⟨(w.heap.size + 1), 0, none⟩ = some (.int .i64 x.Master) := var_load o_r (by simp) 0 _ rfl
                          have y1 : w11.cell? ⟨(w.heap.size + 1), 1, none⟩ = some (.slice A15 (1 + 0) c15) := var_load o_r (by simp) 1 _ rfl
                          refine bodyPost_ret (v := .tuple #[.agg #[.int .i64 x.Master, .slice A15 (1 + 0) c15], .bool true]) (by simp [results, Try.results32, go_sem, y0, y1]) rfl ?_
                          exact made_rv (x := ⟨x.Master, ins x.Revoked (v * 10000000 + s)⟩) (by show _ = ins x.Revoked _; rw [← HXS.out, ← HCD.out, HI.out]; have h0 := HL.out; simp [List.take_of_length_le, List.drop_of_length_le, ← h0]; exact (List.length_eq_zero_iff.1 h0.symm)) rfl (by have := HL.out; simp; try omega) o_z (Ra.block_nodup _) HB
                case gt2_9_13 =>
                  go_simp
                  obtain ⟨w7, hw7⟩ : ∃ y, y = w6.alloc (.cells #[.int .i64 (cd)] 3) := ⟨_, rfl⟩
                  have D_R2_R9 := Ra.far_new (m := 1) (c := 1) o_R2
                  have o_R9 : (w6.alloc (.cells #[.int .i64 (cd)] 3)).ownsRow w4.heap.size 3 1 (.slice (some ⟨w6.heap.size, 0, none⟩) 1 1) 1 (ints .i64 [cd]) := own_base (C6.own_ints w6 [cd] 1 rfl (by omega)) HN.size
                  rw [← hw7] at o_R9 ⊢
                  have bw7 : Below w6.heap.size w6 w7 := hw7 ▸ (Below.refl _ _).alloc (Nat.le_refl _) _
                  clear hw7
                  replace o_R2 := own_below o_R2 bw7
                  replace HN := HN.trans (bw7.mono HN.size)
                  replace o_p := owns_below o_p bw7
                  replace o_r := owns_below o_r bw7
                  replace HB := HB.trans (bw7.mono HB.size)
                  have zw7 := bw7.size
                  refine hK.out _ _ ?_ (fun hHeld => ?_)
                  · exact ⟨var_load o_p (by simp) 0 _ rfl, var_load o_p (by simp) 1 _ rfl⟩
                  clear hK K
                  try simp only [Act.put, List.setIfInBounds_toArray, List.set_cons_zero, List.set_cons_succ]
                  refine wpAnyH_ready (rs := [7]) (by kernel_rfl) (by simp) ?_
                  refine AllReadyH.cons (o := ?ot2_7_20) ?hit2_7_20 (fun K hK => ?gt2_7_20) AllReadyH.nil
                  case hit2_7_20 => simp only [List.getElem?_toArray, List.getElem?_cons_succ, List.getElem?_cons_zero]; rfl
                  case gt2_7_20 =>
                    refine Ra.stepI w7 rfl (.tmp 49) (.tmp 53) rfl (w4.heap.size) (.slice (some ⟨w5.heap.size, 0, none⟩) 0 0) (0) _ (by simp [Act.eval]) o_R2 _ (none) (0) (0) ([]) (by simp [Act.eval]) (Ra.rd_none (hi := 0)) (by omega) HN.size ?_
                    intro vw8 w8 o_R7 gw8 kw8
                    have E_R9 : Ra.Far (.slice (some ⟨w5.heap.size, 0, none⟩) 0 0) (.slice (some ⟨w6.heap.size, 0, none⟩) 1 1) := by first | exact D_R2_R9 | exact Ra.Far.symm D_R9_R2
                    have D_R7_R9 := Ra.far_grown o_R9 E_R9 kw8
                    replace o_R9 := Ra.far_kept o_R9 gw8 E_R9
                    clear E_R9
                    have Tw8 := turned_grown gw8
                    have Qw8 : ∀ b, b ∈ Option.toList (Value.ownBlock (.slice (some ⟨w5.heap.size, 0, none⟩) 0 0)) → w4.heap.size ≤ b := fun b hb => (o_R2.lt b (by simpa using hb)).1
                    replace o_p := owns_turned o_p Tw8 (fun b hb hb2 => by have h1 := Qw8 b hb2; simp at hb; omega)
                    replace o_r := owns_turned o_r Tw8 (fun b hb hb2 => by have h1 := Qw8 b hb2; simp at hb; omega)
                    replace HN := HN.grown gw8 HN.size (fun j hj => (o_R2.lt j hj).1)
                    replace HB := below_turned HB Tw8 (fun b hb => by have h1 := Qw8 b hb; omega)
                    have zw8 := gw8.size
                    rw [ints_app] at o_R7
                    rw [Nat.zero_add, List.nil_append] at o_R7
                    obtain ⟨A7, c7, rfl⟩ := own_nil_form o_R7
                    clear o_R2 kw8 gw8
                    refine hK.out _ _ ?_ (fun hHeld => ?_)
                    · exact ⟨var_load o_p (by simp) 0 _ rfl, var_load o_p (by simp) 1 _ rfl⟩
                    clear hK K
                    try simp only [Act.put, List.setIfInBounds_toArray, List.set_cons_zero, List.set_cons_succ]
                    refine wpAnyH_ready (rs := [10]) (by kernel_rfl) (by simp) ?_
                    refine AllReadyH.cons (o := ?ot2_10_21) ?hit2_10_21 (fun K hK => ?gt2_10_21) AllReadyH.nil
                    case hit2_10_21 => simp only [List.getElem?_toArray, List.getElem?_cons_succ, List.getElem?_cons_zero]; rfl
                    case gt2_10_21 =>
                      refine Ra.stepI w8 rfl (.tmp 54) (.tmp 56) rfl (w4.heap.size) (.slice A7 (0) c7) (0) _ (by simp [Act.eval]) o_R7 _ ((some ⟨w6.heap.size, 0, none⟩)) (1) (1) ([cd]) (by simp [Act.eval]) (Rd.own o_R9) (by omega) HN.size ?_
                      intro vw9 w9 o_R10 gw9 kw9
                      have E_R9 : Ra.Far (.slice A7 (0) c7) (.slice (some ⟨w6.heap.size, 0, none⟩) 1 1) := by first | exact D_R7_R9 | exact Ra.Far.symm D_R9_R7
                      have D_R10_R9 := Ra.far_grown o_R9 E_R9 kw9
                      replace o_R9 := Ra.far_kept o_R9 gw9 E_R9
                      clear E_R9
                      have Tw9 := turned_grown gw9
                      have Qw9 : ∀ b, b ∈ Option.toList (Value.ownBlock (.slice A7 (0) c7)) → w4.heap.size ≤ b := fun b hb => (o_R7.lt b (by simpa using hb)).1
                      replace o_p := owns_turned o_p Tw9 (fun b hb hb2 => by have h1 := Qw9 b hb2; simp at hb; omega)
                      replace o_r := owns_turned o_r Tw9 (fun b hb hb2 => by have h1 := Qw9 b hb2; simp at hb; omega)
                      replace HN := HN.grown gw9 HN.size (fun j hj => (o_R7.lt j hj).1)
                      replace HB := below_turned HB Tw9 (fun b hb => by have h1 := Qw9 b hb; omega)
                      have zw9 := gw9.size
                      rw [ints_app] at o_R10
                      rw [Nat.zero_add, List.nil_append] at o_R10
                      obtain ⟨A10, c10, rfl⟩ := own_nil_form o_R10
                      clear o_R7 kw9 gw9
                      refine hK.out _ _ ?_ (fun hHeld => ?_)
                      · exact ⟨var_load o_p (by simp) 0 _ rfl, var_load o_p (by simp) 1 _ rfl⟩
                      clear hK K
                      try simp only [Act.put, List.setIfInBounds_toArray, List.set_cons_zero, List.set_cons_succ]
                      refine wpAnyH_ready (rs := [15]) (by kernel_rfl) (by simp) ?_
                      refine AllReadyH.cons (o := ?ot2_15_22) ?hit2_15_22 (fun K hK => ?gt2_15_22) AllReadyH.nil
                      case hit2_15_22 => simp only [List.getElem?_toArray, List.getElem?_cons_succ, List.getElem?_cons_zero]; rfl
                      case gt2_15_22 =>
                        refine Ra.stepI w9 rfl (.tmp 57) (.tmp 61) rfl (w4.heap.size) (.slice A10 (1) c10) (1) _ (by simp [Act.eval]) o_R10 _ (none) (0) (0) ([]) (by simp [Act.eval]) (Ra.rd_none (hi := 0)) (by omega) HN.size ?_
                        intro vw10 w10 o_R15 gw10 kw10
                        have E_R9 : Ra.Far (.slice A10 (1) c10) (.slice (some ⟨w6.heap.size, 0, none⟩) 1 1) := by first | exact D_R10_R9 | exact Ra.Far.symm D_R9_R10
                        have D_R15_R9 := Ra.far_grown o_R9 E_R9 kw10
                        replace o_R9 := Ra.far_kept o_R9 gw10 E_R9
                        clear E_R9
                        have Tw10 := turned_grown gw10
                        have Qw10 : ∀ b, b ∈ Option.toList (Value.ownBlock (.slice A10 (1) c10)) → w4.heap.size ≤ b := fun b hb => (o_R10.lt b (by simpa using hb)).1
                        replace o_p := owns_turned o_p Tw10 (fun b hb hb2 => by have h1 := Qw10 b hb2; simp at hb; omega)
                        replace o_r := owns_turned o_r Tw10 (fun b hb hb2 => by have h1 := Qw10 b hb2; simp at hb; omega)
                        replace HN := HN.grown gw10 HN.size (fun j hj => (o_R10.lt j hj).1)
                        replace HB := below_turned HB Tw10 (fun b hb => by have h1 := Qw10 b hb; omega)
                        have zw10 := gw10.size
                        rw [ints_app] at o_R15
                        obtain ⟨A15, c15, rfl⟩ := own_nil_form o_R15
                        clear o_R10 kw10 gw10
                        refine hK.out _ _ ?_ (fun hHeld => ?_)
                        · exact ⟨var_load o_p (by simp) 0 _ rfl, var_load o_p (by simp) 1 _ rfl⟩
                        clear hK K
                        try simp only [Act.put, List.setIfInBounds_toArray, List.set_cons_zero, List.set_cons_succ]
                        refine wpAnyH_take (i := 16) (oi := ?oit2_16_23) (v := ?vt2_16_23) ?hit2_16_23 (by kernel_rfl) (by kernel_rfl) (by kernel_rfl) ?hQt2_16_23 (Or.inl ⟨?hwt2_16_23, ?hyt2_16_23⟩) (by assumption) ?_
                        case hit2_16_23 => simp only [List.getElem?_toArray, List.getElem?_cons_succ, List.getElem?_cons_zero]; rfl
                        case hQt2_16_23 => exact fun _ _ _ h => h
                        case hwt2_16_23 => rfl
                        case hyt2_16_23 => intro w hSw; (try dsimp only at hSw); (first | (go_simp; done) | (go_simp; with_reducible rfl))
                        try simp only [Act.put, List.setIfInBounds_toArray, List.set_cons_zero, List.set_cons_succ]
                        refine wpAnyH_ready (rs := [17]) (by kernel_rfl) (by simp) ?_
                        refine AllReadyH.cons (o := ?ot2_17_24) ?hit2_17_24 (fun K hK => ?gt2_17_24) AllReadyH.nil
                        case hit2_17_24 => simp only [List.getElem?_toArray, List.getElem?_cons_succ, List.getElem?_cons_zero]; rfl
                        case gt2_17_24 =>
                          have c_p0 : w10.cell? ⟨w.heap.size, 0, none⟩ = some (.int .i64 x.Master) := var_load o_p (by simp) 0 _ rfl
                          have f_p0 : w10.frozen? ⟨w.heap.size, 0, none⟩ = false := var_frozen o_p (by simp) 0 _ rfl
                          have c_p1 : w10.cell? ⟨w.heap.size, 1, none⟩ = some (.slice none 0 0) := var_load o_p (by simp) 1 _ rfl
                          have f_p1 : w10.frozen? ⟨w.heap.size, 1, none⟩ = false := var_frozen o_p (by simp) 1 _ rfl
                          have l_p := var_lt o_p
                          have c_r0 : w10.cell? ⟨(w.heap.size + 1), 0, none⟩ = some (.int .i64 0) := var_load o_r (by simp) 0 _ rfl
                          have f_r0 : w10.frozen? ⟨(w.heap.size + 1), 0, none⟩ = false := var_frozen o_r (by simp) 0 _ rfl
                          have c_r1 : w10.cell? ⟨(w.heap.size + 1), 1, none⟩ = some (.slice none 0 0) := var_load o_r (by simp) 1 _ rfl
                          have f_r1 : w10.frozen? ⟨(w.heap.size + 1), 1, none⟩ = false := var_frozen o_r (by simp) 1 _ rfl
                          have l_r := var_lt o_r
                          go_simp
                          clear c_p0 f_p0 c_p1 f_p1 l_p c_r0 f_r0 c_r1 f_r1 l_r
                          obtain ⟨w11, hw11⟩ : ∃ y, y = ((w10.setCell ⟨(w.heap.size + 1), 0, none⟩ (.int .i64 x.Master)).setCell ⟨(w.heap.size + 1), 1, none⟩ (.slice A15 (1 + 0) c15)) := ⟨_, rfl⟩
                          obtain ⟨o_new, tw11⟩ := var_some [.int .i64 x.Master, .slice A15 (1 + 0) c15] 0 _ _ o_r (by simp)
                          rw [show setAll w10 ((w.heap.size + 1)) 0 [.int .i64 x.Master, .slice A15 (1 + 0) c15] = w11 from hw11.symm] at o_new tw11
                          replace o_r : Owns w11 _ (varD 27 2 [.int .i64 x.Master, .slice A15 (1 + 0) c15]) _ _ := o_new
                          clear o_new
                          replace o_p := owns_turned o_p tw11 (fun b hb hb2 => by simp at hb hb2; omega)
                          replace HB := below_turned HB tw11 (fun b hb => by simp at hb; omega)
                          have zw11 := tw11.2.2.2.1
                          rw [← hw11]
                          clear hw11
                          replace o_R9 := (flat_owns (owns_turned (owns_flat o_R9) tw11 (fun b hb hb2 => by have h1 := (o_R9.lt b (by simpa using hb)).1; simp at hb2; omega))).1
                          replace o_R15 := (flat_owns (owns_turned (owns_flat o_R15) tw11 (fun b hb hb2 => by have h1 := (o_R15.lt b (by simpa using hb)).1; simp at hb2; omega))).1
                          refine hK.out _ _ ?_ (fun hHeld => ?_)
                          · exact ⟨var_load o_p (by simp) 0 _ rfl, var_load o_p (by simp) 1 _ rfl⟩
                          clear hK K
                          try simp only [Act.put, List.setIfInBounds_toArray, List.set_cons_zero, List.set_cons_succ]
                          refine wpAnyH_take (i := 18) (oi := ?oit2_18_25) (v := ?vt2_18_25) ?hit2_18_25 (by kernel_rfl) (by kernel_rfl) (by kernel_rfl) ?hQt2_18_25 (Or.inl ⟨?hwt2_18_25, ?hyt2_18_25⟩) (by assumption) ?_
                          case hit2_18_25 => simp only [List.getElem?_toArray, List.getElem?_cons_succ, List.getElem?_cons_zero]; rfl
                          case hQt2_18_25 => exact fun _ _ _ h => h
                          case hwt2_18_25 => rfl
                          case hyt2_18_25 => intro w hSw; (try dsimp only at hSw); (first | (go_simp; done) | (go_simp; with_reducible rfl))
                          try simp only [Act.put, List.setIfInBounds_toArray, List.set_cons_zero, List.set_cons_succ]
                          refine wpAnyH_done (by kernel_rfl) ?_ _
                          go_wp2
                          have o_z := owns_flat (own_base o_R15 (show w.heap.size ≤ w4.heap.size by omega))
                          have y0 : w11.cell? ⟨(w.heap.size + 1), 0, none⟩ = some (.int .i64 x.Master) := var_load o_r (by simp) 0 _ rfl
                          have y1 : w11.cell? ⟨(w.heap.size + 1), 1, none⟩ = some (.slice A15 (1 + 0) c15) := var_load o_r (by simp) 1 _ rfl
                          refine bodyPost_ret (v := .tuple #[.agg #[.int .i64 x.Master, .slice A15 (1 + 0) c15], .bool true]) (by simp [results, Try.results32, go_sem, y0, y1]) rfl ?_
                          exact made_rv (x := ⟨x.Master, ins x.Revoked (v * 10000000 + s)⟩) (by show _ = ins x.Revoked _; rw [← HXS.out, ← HCD.out, HI.out]; have h0 := HL.out; simp [List.take_of_length_le, List.drop_of_length_le, ← h0]; exact (List.length_eq_zero_iff.1 h0.symm)) rfl (by have := HL.out; simp; try omega) o_z (Ra.block_nodup _) HB
              case gt2_9_12 =>
                go_simp
                obtain ⟨w6, hw6⟩ : ∃ y, y = w5.alloc (.cells #[.int .i64 (cd)] 3) := ⟨_, rfl⟩
                have o_R9 : (w5.alloc (.cells #[.int .i64 (cd)] 3)).ownsRow w4.heap.size 3 1 (.slice (some ⟨w5.heap.size, 0, none⟩) 1 1) 1 (ints .i64 [cd]) := own_base (C6.own_ints w5 [cd] 1 rfl (by omega)) HN.size
                rw [← hw6] at o_R9 ⊢
                have bw6 : Below w5.heap.size w5 w6 := hw6 ▸ (Below.refl _ _).alloc (Nat.le_refl _) _
                clear hw6
                replace HN := HN.trans (bw6.mono HN.size)
                replace o_p := owns_below o_p bw6
                replace o_r := owns_below o_r bw6
                replace HB := HB.trans (bw6.mono HB.size)
                have zw6 := bw6.size
                refine hK.out _ _ ?_ (fun hHeld => ?_)
                · exact ⟨var_load o_p (by simp) 0 _ rfl, var_load o_p (by simp) 1 _ rfl⟩
                clear hK K
                try simp only [Act.put, List.setIfInBounds_toArray, List.set_cons_zero, List.set_cons_succ]
                refine wpAnyH_ready (rs := [2]) (by kernel_rfl) (by simp) ?_
                refine AllReadyH.cons (o := ?ot2_2_26) ?hit2_2_26 (fun K hK => ?gt2_2_26) AllReadyH.nil
                case hit2_2_26 => simp only [List.getElem?_toArray, List.getElem?_cons_succ, List.getElem?_cons_zero]; rfl
                case gt2_2_26 =>
                  go_simp
                  obtain ⟨w7, hw7⟩ : ∃ y, y = w6.alloc (.cells #[] 3) := ⟨_, rfl⟩
                  have D_R9_R2 := Ra.far_new (m := 0) (c := 0) o_R9
                  have o_R2 : (w6.alloc (.cells #[] 3)).ownsRow w4.heap.size 3 1 (.slice (some ⟨w6.heap.size, 0, none⟩) 0 0) 0 (ints .i64 []) := own_base (C6.own_ints w6 [] 0 rfl (by omega)) HN.size
                  rw [← hw7] at o_R2 ⊢
                  have bw7 : Below w6.heap.size w6 w7 := hw7 ▸ (Below.refl _ _).alloc (Nat.le_refl _) _
                  clear hw7
                  replace o_R9 := own_below o_R9 bw7
                  replace HN := HN.trans (bw7.mono HN.size)
                  replace o_p := owns_below o_p bw7
                  replace o_r := owns_below o_r bw7
                  replace HB := HB.trans (bw7.mono HB.size)
                  have zw7 := bw7.size
                  refine hK.out _ _ ?_ (fun hHeld => ?_)
                  · exact ⟨var_load o_p (by simp) 0 _ rfl, var_load o_p (by simp) 1 _ rfl⟩
                  clear hK K
                  try simp only [Act.put, List.setIfInBounds_toArray, List.set_cons_zero, List.set_cons_succ]
                  refine wpAnyH_ready (rs := [7]) (by kernel_rfl) (by simp) ?_
                  refine AllReadyH.cons (o := ?ot2_7_27) ?hit2_7_27 (fun K hK => ?gt2_7_27) AllReadyH.nil
                  case hit2_7_27 => simp only [List.getElem?_toArray, List.getElem?_cons_succ, List.getElem?_cons_zero]; rfl
                  case gt2_7_27 =>
                    refine Ra.stepI w7 rfl (.tmp 49) (.tmp 53) rfl (w4.heap.size) (.slice (some ⟨w6.heap.size, 0, none⟩) 0 0) (0) _ (by simp [Act.eval]) o_R2 _ (none) (0) (0) ([]) (by simp [Act.eval]) (Ra.rd_none (hi := 0)) (by omega) HN.size ?_
                    intro vw8 w8 o_R7 gw8 kw8
                    have E_R9 : Ra.Far (.slice (some ⟨w6.heap.size, 0, none⟩) 0 0) (.slice (some ⟨w5.heap.size, 0, none⟩) 1 1) := by first | exact D_R2_R9 | exact Ra.Far.symm D_R9_R2
                    have D_R7_R9 := Ra.far_grown o_R9 E_R9 kw8
                    replace o_R9 := Ra.far_kept o_R9 gw8 E_R9
                    clear E_R9
                    have Tw8 := turned_grown gw8
                    have Qw8 : ∀ b, b ∈ Option.toList (Value.ownBlock (.slice (some ⟨w6.heap.size, 0, none⟩) 0 0)) → w4.heap.size ≤ b := fun b hb => (o_R2.lt b (by simpa using hb)).1
                    replace o_p := owns_turned o_p Tw8 (fun b hb hb2 => by have h1 := Qw8 b hb2; simp at hb; omega)
                    replace o_r := owns_turned o_r Tw8 (fun b hb hb2 => by have h1 := Qw8 b hb2; simp at hb; omega)
                    replace HN := HN.grown gw8 HN.size (fun j hj => (o_R2.lt j hj).1)
                    replace HB := below_turned HB Tw8 (fun b hb => by have h1 := Qw8 b hb; omega)
                    have zw8 := gw8.size
                    rw [ints_app] at o_R7
                    rw [Nat.zero_add, List.nil_append] at o_R7
                    obtain ⟨A7, c7, rfl⟩ := own_nil_form o_R7
                    clear o_R2 kw8 gw8
                    refine hK.out _ _ ?_ (fun hHeld => ?_)
                    · exact ⟨var_load o_p (by simp) 0 _ rfl, var_load o_p (by simp) 1 _ rfl⟩
                    clear hK K
                    try simp only [Act.put, List.setIfInBounds_toArray, List.set_cons_zero, List.set_cons_succ]
                    refine wpAnyH_ready (rs := [10]) (by kernel_rfl) (by simp) ?_
                    refine AllReadyH.cons (o := ?ot2_10_28) ?hit2_10_28 (fun K hK => ?gt2_10_28) AllReadyH.nil
                    case hit2_10_28 => simp only [List.getElem?_toArray, List.getElem?_cons_succ, List.getElem?_cons_zero]; rfl
                    case gt2_10_28 =>
                      refine Ra.stepI w8 rfl (.tmp 54) (.tmp 56) rfl (w4.heap.size) (.slice A7 (0) c7) (0) _ (by simp [Act.eval]) o_R7 _ ((some ⟨w5.heap.size, 0, none⟩)) (1) (1) ([cd]) (by simp [Act.eval]) (Rd.own o_R9) (by omega) HN.size ?_
                      intro vw9 w9 o_R10 gw9 kw9
                      have E_R9 : Ra.Far (.slice A7 (0) c7) (.slice (some ⟨w5.heap.size, 0, none⟩) 1 1) := by first | exact D_R7_R9 | exact Ra.Far.symm D_R9_R7
                      have D_R10_R9 := Ra.far_grown o_R9 E_R9 kw9
                      replace o_R9 := Ra.far_kept o_R9 gw9 E_R9
                      clear E_R9
                      have Tw9 := turned_grown gw9
                      have Qw9 : ∀ b, b ∈ Option.toList (Value.ownBlock (.slice A7 (0) c7)) → w4.heap.size ≤ b := fun b hb => (o_R7.lt b (by simpa using hb)).1
                      replace o_p := owns_turned o_p Tw9 (fun b hb hb2 => by have h1 := Qw9 b hb2; simp at hb; omega)
                      replace o_r := owns_turned o_r Tw9 (fun b hb hb2 => by have h1 := Qw9 b hb2; simp at hb; omega)
                      replace HN := HN.grown gw9 HN.size (fun j hj => (o_R7.lt j hj).1)
                      replace HB := below_turned HB Tw9 (fun b hb => by have h1 := Qw9 b hb; omega)
                      have zw9 := gw9.size
                      rw [ints_app] at o_R10
                      rw [Nat.zero_add, List.nil_append] at o_R10
                      obtain ⟨A10, c10, rfl⟩ := own_nil_form o_R10
                      clear o_R7 kw9 gw9
                      refine hK.out _ _ ?_ (fun hHeld => ?_)
                      · exact ⟨var_load o_p (by simp) 0 _ rfl, var_load o_p (by simp) 1 _ rfl⟩
                      clear hK K
                      try simp only [Act.put, List.setIfInBounds_toArray, List.set_cons_zero, List.set_cons_succ]
                      refine wpAnyH_ready (rs := [15]) (by kernel_rfl) (by simp) ?_
                      refine AllReadyH.cons (o := ?ot2_15_29) ?hit2_15_29 (fun K hK => ?gt2_15_29) AllReadyH.nil
                      case hit2_15_29 => simp only [List.getElem?_toArray, List.getElem?_cons_succ, List.getElem?_cons_zero]; rfl
                      case gt2_15_29 =>
                        refine Ra.stepI w9 rfl (.tmp 57) (.tmp 61) rfl (w4.heap.size) (.slice A10 (1) c10) (1) _ (by simp [Act.eval]) o_R10 _ (none) (0) (0) ([]) (by simp [Act.eval]) (Ra.rd_none (hi := 0)) (by omega) HN.size ?_
                        intro vw10 w10 o_R15 gw10 kw10
                        have E_R9 : Ra.Far (.slice A10 (1) c10) (.slice (some ⟨w5.heap.size, 0, none⟩) 1 1) := by first | exact D_R10_R9 | exact Ra.Far.symm D_R9_R10
                        have D_R15_R9 := Ra.far_grown o_R9 E_R9 kw10
                        replace o_R9 := Ra.far_kept o_R9 gw10 E_R9
                        clear E_R9
                        have Tw10 := turned_grown gw10
                        have Qw10 : ∀ b, b ∈ Option.toList (Value.ownBlock (.slice A10 (1) c10)) → w4.heap.size ≤ b := fun b hb => (o_R10.lt b (by simpa using hb)).1
                        replace o_p := owns_turned o_p Tw10 (fun b hb hb2 => by have h1 := Qw10 b hb2; simp at hb; omega)
                        replace o_r := owns_turned o_r Tw10 (fun b hb hb2 => by have h1 := Qw10 b hb2; simp at hb; omega)
                        replace HN := HN.grown gw10 HN.size (fun j hj => (o_R10.lt j hj).1)
                        replace HB := below_turned HB Tw10 (fun b hb => by have h1 := Qw10 b hb; omega)
                        have zw10 := gw10.size
                        rw [ints_app] at o_R15
                        obtain ⟨A15, c15, rfl⟩ := own_nil_form o_R15
                        clear o_R10 kw10 gw10
                        refine hK.out _ _ ?_ (fun hHeld => ?_)
                        · exact ⟨var_load o_p (by simp) 0 _ rfl, var_load o_p (by simp) 1 _ rfl⟩
                        clear hK K
                        try simp only [Act.put, List.setIfInBounds_toArray, List.set_cons_zero, List.set_cons_succ]
                        refine wpAnyH_take (i := 16) (oi := ?oit2_16_30) (v := ?vt2_16_30) ?hit2_16_30 (by kernel_rfl) (by kernel_rfl) (by kernel_rfl) ?hQt2_16_30 (Or.inl ⟨?hwt2_16_30, ?hyt2_16_30⟩) (by assumption) ?_
                        case hit2_16_30 => simp only [List.getElem?_toArray, List.getElem?_cons_succ, List.getElem?_cons_zero]; rfl
                        case hQt2_16_30 => exact fun _ _ _ h => h
                        case hwt2_16_30 => rfl
                        case hyt2_16_30 => intro w hSw; (try dsimp only at hSw); (first | (go_simp; done) | (go_simp; with_reducible rfl))
                        try simp only [Act.put, List.setIfInBounds_toArray, List.set_cons_zero, List.set_cons_succ]
                        refine wpAnyH_ready (rs := [17]) (by kernel_rfl) (by simp) ?_
                        refine AllReadyH.cons (o := ?ot2_17_31) ?hit2_17_31 (fun K hK => ?gt2_17_31) AllReadyH.nil
                        case hit2_17_31 => simp only [List.getElem?_toArray, List.getElem?_cons_succ, List.getElem?_cons_zero]; rfl
                        case gt2_17_31 =>
                          have c_p0 : w10.cell? ⟨w.heap.size, 0, none⟩ = some (.int .i64 x.Master) := var_load o_p (by simp) 0 _ rfl
                          have f_p0 : w10.frozen? ⟨w.heap.size, 0, none⟩ = false := var_frozen o_p (by simp) 0 _ rfl
                          have c_p1 : w10.cell? ⟨w.heap.size, 1, none⟩ = some (.slice none 0 0) := var_load o_p (by simp) 1 _ rfl
                          have f_p1 : w10.frozen? ⟨w.heap.size, 1, none⟩ = false := var_frozen o_p (by simp) 1 _ rfl
                          have l_p := var_lt o_p
                          have c_r0 : w10.cell? ⟨(w.heap.size + 1), 0, none⟩ = some (.int .i64 0) := var_load o_r (by simp) 0 _ rfl
                          have f_r0 : w10.frozen? ⟨(w.heap.size + 1), 0, none⟩ = false := var_frozen o_r (by simp) 0 _ rfl
                          have c_r1 : w10.cell? ⟨(w.heap.size + 1), 1, none⟩ = some (.slice none 0 0) := var_load o_r (by simp) 1 _ rfl
                          have f_r1 : w10.frozen? ⟨(w.heap.size + 1), 1, none⟩ = false := var_frozen o_r (by simp) 1 _ rfl
                          have l_r := var_lt o_r
                          go_simp
                          clear c_p0 f_p0 c_p1 f_p1 l_p c_r0 f_r0 c_r1 f_r1 l_r
                          obtain ⟨w11, hw11⟩ : ∃ y, y = ((w10.setCell ⟨(w.heap.size + 1), 0, none⟩ (.int .i64 x.Master)).setCell ⟨(w.heap.size + 1), 1, none⟩ (.slice A15 (1 + 0) c15)) := ⟨_, rfl⟩
                          obtain ⟨o_new, tw11⟩ := var_some [.int .i64 x.Master, .slice A15 (1 + 0) c15] 0 _ _ o_r (by simp)
                          rw [show setAll w10 ((w.heap.size + 1)) 0 [.int .i64 x.Master, .slice A15 (1 + 0) c15] = w11 from hw11.symm] at o_new tw11
                          replace o_r : Owns w11 _ (varD 27 2 [.int .i64 x.Master, .slice A15 (1 + 0) c15]) _ _ := o_new
                          clear o_new
                          replace o_p := owns_turned o_p tw11 (fun b hb hb2 => by simp at hb hb2; omega)
                          replace HB := below_turned HB tw11 (fun b hb => by simp at hb; omega)
                          have zw11 := tw11.2.2.2.1
                          rw [← hw11]
                          clear hw11
                          replace o_R9 := (flat_owns (owns_turned (owns_flat o_R9) tw11 (fun b hb hb2 => by have h1 := (o_R9.lt b (by simpa using hb)).1; simp at hb2; omega))).1
                          replace o_R15 := (flat_owns (owns_turned (owns_flat o_R15) tw11 (fun b hb hb2 => by have h1 := (o_R15.lt b (by simpa using hb)).1; simp at hb2; omega))).1
                          refine hK.out _ _ ?_ (fun hHeld => ?_)
                          · exact ⟨var_load o_p (by simp) 0 _ rfl, var_load o_p (by simp) 1 _ rfl⟩
                          clear hK K
                          try simp only [Act.put, List.setIfInBounds_toArray, List.set_cons_zero, List.set_cons_succ]
                          refine wpAnyH_take (i := 18) (oi := ?oit2_18_32) (v := ?vt2_18_32) ?hit2_18_32 (by kernel_rfl) (by kernel_rfl) (by kernel_rfl) ?hQt2_18_32 (Or.inl ⟨?hwt2_18_32, ?hyt2_18_32⟩) (by assumption) ?_
                          case hit2_18_32 => simp only [List.getElem?_toArray, List.getElem?_cons_succ, List.getElem?_cons_zero]; rfl
                          case hQt2_18_32 => exact fun _ _ _ h => h
                          case hwt2_18_32 => rfl
                          case hyt2_18_32 => intro w hSw; (try dsimp only at hSw); (first | (go_simp; done) | (go_simp; with_reducible rfl))
                          try simp only [Act.put, List.setIfInBounds_toArray, List.set_cons_zero, List.set_cons_succ]
                          refine wpAnyH_done (by kernel_rfl) ?_ _
                          go_wp2
                          have o_z := owns_flat (own_base o_R15 (show w.heap.size ≤ w4.heap.size by omega))
                          have y0 : w11.cell? ⟨(w.heap.size + 1), 0, none⟩ = some (.int .i64 x.Master) := var_load o_r (by simp) 0 _ rfl
                          have y1 : w11.cell? ⟨(w.heap.size + 1), 1, none⟩ = some (.slice A15 (1 + 0) c15) := var_load o_r (by simp) 1 _ rfl
                          refine bodyPost_ret (v := .tuple #[.agg #[.int .i64 x.Master, .slice A15 (1 + 0) c15], .bool true]) (by simp [results, Try.results32, go_sem, y0, y1]) rfl ?_
                          exact made_rv (x := ⟨x.Master, ins x.Revoked (v * 10000000 + s)⟩) (by show _ = ins x.Revoked _; rw [← HXS.out, ← HCD.out, HI.out]; have h0 := HL.out; simp [List.take_of_length_le, List.drop_of_length_le, ← h0]; exact (List.length_eq_zero_iff.1 h0.symm)) rfl (by have := HL.out; simp; try omega) o_z (Ra.block_nodup _) HB
            | some a =>
              obtain ⟨b, off, sp⟩ := a
              obtain rfl : sp = none := HSH.out.spot _ rfl
              by_cases hkc : k = c
              · obtain rfl : k = n := by omega
                obtain rfl : k = c := hkc
                have q1 : (0 : Int) ≤ (k : Int) := by omega
                have q2 : (k : Int) ≤ (k : Int) := by omega
                go_wp2_with fail
                clear c_p0 f_p0 c_p1 f_p1 l_p c_r0 f_r0 c_r1 f_r1 l_r
                have HN := Below.refl w4.heap.size w4
                obtain ⟨w5, hw5⟩ : ∃ y, y = w4.drew := ⟨_, rfl⟩
                have bw5 : Below w4.heap.size w4 w5 := hw5 ▸ drewN_below w4 1 _
                replace o_p := owns_below o_p bw5
                replace o_r := owns_below o_r bw5
                replace HB := HB.trans (bw5.mono HB.size)
                have zw5 := bw5.size
                replace HN := HN.trans (bw5.mono HN.size)
                refine wp_region_held_drew (S := (fun wx => wx.cell? ⟨w.heap.size, 0, none⟩ = some (.int .i64 x.Master) ∧ wx.cell? ⟨w.heap.size, 1, none⟩ = some (.slice (some ⟨b, off, none⟩) k k))) (by kernel_rfl) ?_ (fun hHeld => ?_)
                · rw [← hw5]; exact ⟨var_load o_p (by simp) 0 _ rfl, var_load o_p (by simp) 1 _ rfl⟩
                rw [← hw5] at hHeld ⊢
                clear hw5
                refine wpAnyH_take (i := 0) (oi := ?oit3_0_1) (v := ?vt3_0_1) ?hit3_0_1 (by kernel_rfl) (by kernel_rfl) (by kernel_rfl) ?hQt3_0_1 (Or.inl ⟨?hwt3_0_1, ?hyt3_0_1⟩) (by assumption) ?_
                case hit3_0_1 => simp only [List.getElem?_toArray, List.getElem?_cons_zero]; rfl
                case hQt3_0_1 => exact fun _ _ _ h => h
                case hwt3_0_1 => rfl
                case hyt3_0_1 => intro w hSw; (try dsimp only at hSw); (first | (go_simp; done) | (go_simp; with_reducible rfl))
                try simp only [Act.put, List.setIfInBounds_toArray, List.set_cons_zero, List.set_cons_succ]
                refine wpAnyH_take (i := 1) (oi := ?oit3_1_2) (v := ?vt3_1_2) ?hit3_1_2 (by kernel_rfl) (by kernel_rfl) (by kernel_rfl) ?hQt3_1_2 (Or.inl ⟨?hwt3_1_2, ?hyt3_1_2⟩) (by assumption) ?_
                case hit3_1_2 => simp only [List.getElem?_toArray, List.getElem?_cons_succ, List.getElem?_cons_zero]; rfl
                case hQt3_1_2 => exact fun _ _ _ h => h
                case hwt3_1_2 => rfl
                case hyt3_1_2 => intro w hSw; (try dsimp only at hSw); (first | (go_simp; done) | (go_simp; with_reducible rfl))
                try simp only [Act.put, List.setIfInBounds_toArray, List.set_cons_zero, List.set_cons_succ]
                refine wpAnyH_take (i := 3) (oi := ?oit3_3_3) (v := ?vt3_3_3) ?hit3_3_3 (by kernel_rfl) (by kernel_rfl) (by kernel_rfl) ?hQt3_3_3 (Or.inl ⟨?hwt3_3_3, ?hyt3_3_3⟩) (by assumption) ?_
                case hit3_3_3 => simp only [List.getElem?_toArray, List.getElem?_cons_succ, List.getElem?_cons_zero]; rfl
                case hQt3_3_3 => exact fun _ _ _ h => h
                case hwt3_3_3 => rfl
                case hyt3_3_3 => intro w hSw; (try dsimp only at hSw); (first | (go_simp; done) | (go_simp; with_reducible rfl))
                try simp only [Act.put, List.setIfInBounds_toArray, List.set_cons_zero, List.set_cons_succ]
                refine wpAnyH_take (i := 4) (oi := ?oit3_4_4) (v := ?vt3_4_4) ?hit3_4_4 (by kernel_rfl) (by kernel_rfl) (by kernel_rfl) ?hQt3_4_4 (Or.inl ⟨?hwt3_4_4, ?hyt3_4_4⟩) (by assumption) ?_
                case hit3_4_4 => simp only [List.getElem?_toArray, List.getElem?_cons_succ, List.getElem?_cons_zero]; rfl
                case hQt3_4_4 => exact fun _ _ _ h => h
                case hwt3_4_4 => rfl
                case hyt3_4_4 => intro w hSw; (try dsimp only at hSw); (first | (go_simp; done) | (go_simp; with_reducible rfl))
                try simp only [Act.put, List.setIfInBounds_toArray, List.set_cons_zero, List.set_cons_succ]
                refine wpAnyH_take (i := 5) (oi := ?oit3_5_5) (v := ?vt3_5_5) ?hit3_5_5 (by kernel_rfl) (by kernel_rfl) (by kernel_rfl) ?hQt3_5_5 (Or.inl ⟨?hwt3_5_5, ?hyt3_5_5⟩) (by assumption) ?_
                case hit3_5_5 => simp only [List.getElem?_toArray, List.getElem?_cons_succ, List.getElem?_cons_zero]; rfl
                case hQt3_5_5 => exact fun _ _ _ h => h
                case hwt3_5_5 => rfl
                case hyt3_5_5 => intro w hSw; (try dsimp only at hSw); (first | (go_simp; done) | (go_simp; with_reducible rfl))
                try simp only [Act.put, List.setIfInBounds_toArray, List.set_cons_zero, List.set_cons_succ]
                refine wpAnyH_take (i := 6) (oi := ?oit3_6_6) (v := ?vt3_6_6) ?hit3_6_6 (by kernel_rfl) (by kernel_rfl) (by kernel_rfl) ?hQt3_6_6 (Or.inl ⟨?hwt3_6_6, ?hyt3_6_6⟩) (by assumption) ?_
                case hit3_6_6 => simp only [List.getElem?_toArray, List.getElem?_cons_succ, List.getElem?_cons_zero]; rfl
                case hQt3_6_6 => exact fun _ _ _ h => h
                case hwt3_6_6 => rfl
                case hyt3_6_6 => intro w hSw; (try dsimp only at hSw); (first | (go_simp; done) | (go_simp; with_reducible rfl))
                try simp only [Act.put, List.setIfInBounds_toArray, List.set_cons_zero, List.set_cons_succ]
                refine wpAnyH_take (i := 8) (oi := ?oit3_8_7) (v := ?vt3_8_7) ?hit3_8_7 (by kernel_rfl) (by kernel_rfl) (by kernel_rfl) ?hQt3_8_7 (Or.inl ⟨?hwt3_8_7, ?hyt3_8_7⟩) (by assumption) ?_
                case hit3_8_7 => simp only [List.getElem?_toArray, List.getElem?_cons_succ, List.getElem?_cons_zero]; rfl
                case hQt3_8_7 => exact fun _ _ _ h => h
                case hwt3_8_7 => rfl
                case hyt3_8_7 => intro w hSw; (try dsimp only at hSw); (first | (go_simp; done) | (go_simp; with_reducible rfl))
                try simp only [Act.put, List.setIfInBounds_toArray, List.set_cons_zero, List.set_cons_succ]
                refine wpAnyH_take (i := 11) (oi := ?oit3_11_8) (v := ?vt3_11_8) ?hit3_11_8 (by kernel_rfl) (by kernel_rfl) (by kernel_rfl) ?hQt3_11_8 (Or.inl ⟨?hwt3_11_8, ?hyt3_11_8⟩) (by assumption) ?_
                case hit3_11_8 => simp only [List.getElem?_toArray, List.getElem?_cons_succ, List.getElem?_cons_zero]; rfl
                case hQt3_11_8 => exact fun _ _ _ h => h
                case hwt3_11_8 => rfl
                case hyt3_11_8 => intro w hSw; (try dsimp only at hSw); (first | (go_simp; done) | (go_simp; with_reducible rfl))
                try simp only [Act.put, List.setIfInBounds_toArray, List.set_cons_zero, List.set_cons_succ]
                refine wpAnyH_take (i := 12) (oi := ?oit3_12_9) (v := ?vt3_12_9) ?hit3_12_9 (by kernel_rfl) (by kernel_rfl) (by kernel_rfl) ?hQt3_12_9 (Or.inl ⟨?hwt3_12_9, ?hyt3_12_9⟩) (by assumption) ?_
                case hit3_12_9 => simp only [List.getElem?_toArray, List.getElem?_cons_succ, List.getElem?_cons_zero]; rfl
                case hQt3_12_9 => exact fun _ _ _ h => h
                case hwt3_12_9 => rfl
                case hyt3_12_9 => intro w hSw; (try dsimp only at hSw); (first | (go_simp; done) | (go_simp; with_reducible rfl))
                try simp only [Act.put, List.setIfInBounds_toArray, List.set_cons_zero, List.set_cons_succ]
                refine wpAnyH_take (i := 13) (oi := ?oit3_13_10) (v := ?vt3_13_10) ?hit3_13_10 (by kernel_rfl) (by kernel_rfl) (by kernel_rfl) ?hQt3_13_10 (Or.inl ⟨?hwt3_13_10, ?hyt3_13_10⟩) (by assumption) ?_
                case hit3_13_10 => simp only [List.getElem?_toArray, List.getElem?_cons_succ, List.getElem?_cons_zero]; rfl
                case hQt3_13_10 => exact fun _ _ _ h => h
                case hwt3_13_10 => rfl
                case hyt3_13_10 => intro w hSw; (try dsimp only at hSw); (first | (go_simp; done) | (go_simp; with_reducible rfl))
                try simp only [Act.put, List.setIfInBounds_toArray, List.set_cons_zero, List.set_cons_succ]
                refine wpAnyH_take (i := 14) (oi := ?oit3_14_11) (v := ?vt3_14_11) ?hit3_14_11 (by kernel_rfl) (by kernel_rfl) (by kernel_rfl) ?hQt3_14_11 (Or.inl ⟨?hwt3_14_11, ?hyt3_14_11⟩) (by assumption) ?_
                case hit3_14_11 => simp only [List.getElem?_toArray, List.getElem?_cons_succ, List.getElem?_cons_zero]; rfl
                case hQt3_14_11 => exact fun _ _ _ h => h
                case hwt3_14_11 => rfl
                case hyt3_14_11 => intro w hSw; (try dsimp only at hSw); (first | (go_simp; done) | (go_simp; with_reducible rfl))
                try simp only [Act.put, List.setIfInBounds_toArray, List.set_cons_zero, List.set_cons_succ]
                refine wpAnyH_ready (rs := [2, 9]) (by kernel_rfl) (by simp) ?_
                refine AllReadyH.cons (o := ?ot3_2_12) ?hit3_2_12 (fun K hK => ?gt3_2_12) (AllReadyH.cons (o := ?ot3_9_12) ?hit3_9_12 (fun K hK => ?gt3_9_12) AllReadyH.nil)
                case hit3_2_12 => simp only [List.getElem?_toArray, List.getElem?_cons_succ, List.getElem?_cons_zero]; rfl
                case hit3_9_12 => simp only [List.getElem?_toArray, List.getElem?_cons_succ, List.getElem?_cons_zero]; rfl
                case gt3_2_12 =>
                  go_simp
                  obtain ⟨w6, hw6⟩ : ∃ y, y = w5.alloc (.cells #[] 3) := ⟨_, rfl⟩
                  have o_R2 : (w5.alloc (.cells #[] 3)).ownsRow w4.heap.size 3 1 (.slice (some ⟨w5.heap.size, 0, none⟩) 0 0) 0 (ints .i64 []) := own_base (C6.own_ints w5 [] 0 rfl (by omega)) HN.size
                  rw [← hw6] at o_R2 ⊢
                  have bw6 : Below w5.heap.size w5 w6 := hw6 ▸ (Below.refl _ _).alloc (Nat.le_refl _) _
                  clear hw6
                  replace HN := HN.trans (bw6.mono HN.size)
                  replace o_p := owns_below o_p bw6
                  replace o_r := owns_below o_r bw6
                  replace HB := HB.trans (bw6.mono HB.size)
                  have zw6 := bw6.size
                  refine hK.out _ _ ?_ (fun hHeld => ?_)
                  · exact ⟨var_load o_p (by simp) 0 _ rfl, var_load o_p (by simp) 1 _ rfl⟩
                  clear hK K
                  try simp only [Act.put, List.setIfInBounds_toArray, List.set_cons_zero, List.set_cons_succ]
                  refine wpAnyH_ready (rs := [7, 9]) (by kernel_rfl) (by simp) ?_
                  refine AllReadyH.cons (o := ?ot3_7_13) ?hit3_7_13 (fun K hK => ?gt3_7_13) (AllReadyH.cons (o := ?ot3_9_13) ?hit3_9_13 (fun K hK => ?gt3_9_13) AllReadyH.nil)
                  case hit3_7_13 => simp only [List.getElem?_toArray, List.getElem?_cons_succ, List.getElem?_cons_zero]; rfl
                  case hit3_9_13 => simp only [List.getElem?_toArray, List.getElem?_cons_succ, List.getElem?_cons_zero]; rfl
                  case gt3_7_13 =>
                    refine Ra.stepI w6 rfl (.tmp 49) (.tmp 53) rfl (w4.heap.size) (.slice (some ⟨w5.heap.size, 0, none⟩) 0 0) (0) _ (by simp [Act.eval]) o_R2 _ (some ⟨b, off, none⟩) (k) (k) (xs.take k) (by simp [Act.eval]) (Ra.rd_take (HR.out _ HB) (by omega)) (by omega) HN.size ?_
                    intro vw7 w7 o_R7 gw7 kw7
                    have Tw7 := turned_grown gw7
                    have Qw7 : ∀ b, b ∈ Option.toList (Value.ownBlock (.slice (some ⟨w5.heap.size, 0, none⟩) 0 0)) → w4.heap.size ≤ b := fun b hb => (o_R2.lt b (by simpa using hb)).1
                    replace o_p := owns_turned o_p Tw7 (fun b hb hb2 => by have h1 := Qw7 b hb2; simp at hb; omega)
                    replace o_r := owns_turned o_r Tw7 (fun b hb hb2 => by have h1 := Qw7 b hb2; simp at hb; omega)
                    replace HN := HN.grown gw7 HN.size (fun j hj => (o_R2.lt j hj).1)
                    replace HB := below_turned HB Tw7 (fun b hb => by have h1 := Qw7 b hb; omega)
                    have zw7 := gw7.size
                    rw [ints_app] at o_R7
                    rw [Nat.zero_add, List.nil_append] at o_R7
                    obtain ⟨A7, c7, rfl⟩ := own_nil_form o_R7
                    clear o_R2 kw7 gw7
                    refine hK.out _ _ ?_ (fun hHeld => ?_)
                    · exact ⟨var_load o_p (by simp) 0 _ rfl, var_load o_p (by simp) 1 _ rfl⟩
                    clear hK K
                    try simp only [Act.put, List.setIfInBounds_toArray, List.set_cons_zero, List.set_cons_succ]
                    refine wpAnyH_ready (rs := [9]) (by kernel_rfl) (by simp) ?_
                    refine AllReadyH.cons (o := ?ot3_9_14) ?hit3_9_14 (fun K hK => ?gt3_9_14) AllReadyH.nil
                    case hit3_9_14 => simp only [List.getElem?_toArray, List.getElem?_cons_succ, List.getElem?_cons_zero]; rfl
                    case gt3_9_14 =>
                      go_simp
                      obtain ⟨w8, hw8⟩ : ∃ y, y = w7.alloc (.cells #[.int .i64 (cd)] 3) := ⟨_, rfl⟩
                      have D_R7_R9 := Ra.far_new (m := 1) (c := 1) o_R7
                      have o_R9 : (w7.alloc (.cells #[.int .i64 (cd)] 3)).ownsRow w4.heap.size 3 1 (.slice (some ⟨w7.heap.size, 0, none⟩) 1 1) 1 (ints .i64 [cd]) := own_base (C6.own_ints w7 [cd] 1 rfl (by omega)) HN.size
                      rw [← hw8] at o_R9 ⊢
                      have bw8 : Below w7.heap.size w7 w8 := hw8 ▸ (Below.refl _ _).alloc (Nat.le_refl _) _
                      clear hw8
                      replace o_R7 := own_below o_R7 bw8
                      replace HN := HN.trans (bw8.mono HN.size)
                      replace o_p := owns_below o_p bw8
                      replace o_r := owns_below o_r bw8
                      replace HB := HB.trans (bw8.mono HB.size)
                      have zw8 := bw8.size
                      refine hK.out _ _ ?_ (fun hHeld => ?_)
                      · exact ⟨var_load o_p (by simp) 0 _ rfl, var_load o_p (by simp) 1 _ rfl⟩
                      clear hK K
                      try simp only [Act.put, List.setIfInBounds_toArray, List.set_cons_zero, List.set_cons_succ]
                      refine wpAnyH_ready (rs := [10]) (by kernel_rfl) (by simp) ?_
                      refine AllReadyH.cons (o := ?ot3_10_15) ?hit3_10_15 (fun K hK => ?gt3_10_15) AllReadyH.nil
                      case hit3_10_15 => simp only [List.getElem?_toArray, List.getElem?_cons_succ, List.getElem?_cons_zero]; rfl
                      case gt3_10_15 =>
                        refine Ra.stepI w8 rfl (.tmp 54) (.tmp 56) rfl (w4.heap.size) (.slice A7 (k) c7) (k) _ (by simp [Act.eval]) o_R7 _ ((some ⟨w7.heap.size, 0, none⟩)) (1) (1) ([cd]) (by simp [Act.eval]) (Rd.own o_R9) (by omega) HN.size ?_
                        intro vw9 w9 o_R10 gw9 kw9
                        have E_R9 : Ra.Far (.slice A7 (k) c7) (.slice (some ⟨w7.heap.size, 0, none⟩) 1 1) := by first | exact D_R7_R9 | exact Ra.Far.symm D_R9_R7
                        have D_R10_R9 := Ra.far_grown o_R9 E_R9 kw9
                        replace o_R9 := Ra.far_kept o_R9 gw9 E_R9
                        clear E_R9
                        have Tw9 := turned_grown gw9
                        have Qw9 : ∀ b, b ∈ Option.toList (Value.ownBlock (.slice A7 (k) c7)) → w4.heap.size ≤ b := fun b hb => (o_R7.lt b (by simpa using hb)).1
                        replace o_p := owns_turned o_p Tw9 (fun b hb hb2 => by have h1 := Qw9 b hb2; simp at hb; omega)
                        replace o_r := owns_turned o_r Tw9 (fun b hb hb2 => by have h1 := Qw9 b hb2; simp at hb; omega)
                        replace HN := HN.grown gw9 HN.size (fun j hj => (o_R7.lt j hj).1)
                        replace HB := below_turned HB Tw9 (fun b hb => by have h1 := Qw9 b hb; omega)
                        have zw9 := gw9.size
                        rw [ints_app] at o_R10
                        obtain ⟨A10, c10, rfl⟩ := own_nil_form o_R10
                        clear o_R7 kw9 gw9
                        refine hK.out _ _ ?_ (fun hHeld => ?_)
                        · exact ⟨var_load o_p (by simp) 0 _ rfl, var_load o_p (by simp) 1 _ rfl⟩
                        clear hK K
                        try simp only [Act.put, List.setIfInBounds_toArray, List.set_cons_zero, List.set_cons_succ]
                        refine wpAnyH_ready (rs := [15]) (by kernel_rfl) (by simp) ?_
                        refine AllReadyH.cons (o := ?ot3_15_16) ?hit3_15_16 (fun K hK => ?gt3_15_16) AllReadyH.nil
                        case hit3_15_16 => simp only [List.getElem?_toArray, List.getElem?_cons_succ, List.getElem?_cons_zero]; rfl
                        case gt3_15_16 =>
                          refine Ra.stepI w9 rfl (.tmp 57) (.tmp 61) rfl (w4.heap.size) (.slice A10 (k + 1) c10) ((k + 1)) _ (by simp [Act.eval]) o_R10 _ (some ⟨b, off, none⟩) (0) (0) ([]) (by simp [Act.eval]) (Ra.rd_none (hi := 0)) (by omega) HN.size ?_
                          intro vw10 w10 o_R15 gw10 kw10
                          have E_R9 : Ra.Far (.slice A10 (k + 1) c10) (.slice (some ⟨w7.heap.size, 0, none⟩) 1 1) := by first | exact D_R10_R9 | exact Ra.Far.symm D_R9_R10
                          have D_R15_R9 := Ra.far_grown o_R9 E_R9 kw10
                          replace o_R9 := Ra.far_kept o_R9 gw10 E_R9
                          clear E_R9
                          have Tw10 := turned_grown gw10
                          have Qw10 : ∀ b, b ∈ Option.toList (Value.ownBlock (.slice A10 (k + 1) c10)) → w4.heap.size ≤ b := fun b hb => (o_R10.lt b (by simpa using hb)).1
                          replace o_p := owns_turned o_p Tw10 (fun b hb hb2 => by have h1 := Qw10 b hb2; simp at hb; omega)
                          replace o_r := owns_turned o_r Tw10 (fun b hb hb2 => by have h1 := Qw10 b hb2; simp at hb; omega)
                          replace HN := HN.grown gw10 HN.size (fun j hj => (o_R10.lt j hj).1)
                          replace HB := below_turned HB Tw10 (fun b hb => by have h1 := Qw10 b hb; omega)
                          have zw10 := gw10.size
                          rw [ints_app] at o_R15
                          obtain ⟨A15, c15, rfl⟩ := own_nil_form o_R15
                          clear o_R10 kw10 gw10
                          refine hK.out _ _ ?_ (fun hHeld => ?_)
                          · exact ⟨var_load o_p (by simp) 0 _ rfl, var_load o_p (by simp) 1 _ rfl⟩
                          clear hK K
                          try simp only [Act.put, List.setIfInBounds_toArray, List.set_cons_zero, List.set_cons_succ]
                          refine wpAnyH_take (i := 16) (oi := ?oit3_16_17) (v := ?vt3_16_17) ?hit3_16_17 (by kernel_rfl) (by kernel_rfl) (by kernel_rfl) ?hQt3_16_17 (Or.inl ⟨?hwt3_16_17, ?hyt3_16_17⟩) (by assumption) ?_
                          case hit3_16_17 => simp only [List.getElem?_toArray, List.getElem?_cons_succ, List.getElem?_cons_zero]; rfl
                          case hQt3_16_17 => exact fun _ _ _ h => h
                          case hwt3_16_17 => rfl
                          case hyt3_16_17 => intro w hSw; (try dsimp only at hSw); (first | (go_simp; done) | (go_simp; with_reducible rfl))
                          try simp only [Act.put, List.setIfInBounds_toArray, List.set_cons_zero, List.set_cons_succ]
                          refine wpAnyH_ready (rs := [17]) (by kernel_rfl) (by simp) ?_
                          refine AllReadyH.cons (o := ?ot3_17_18) ?hit3_17_18 (fun K hK => ?gt3_17_18) AllReadyH.nil
                          case hit3_17_18 => simp only [List.getElem?_toArray, List.getElem?_cons_succ, List.getElem?_cons_zero]; rfl
                          case gt3_17_18 =>
                            have c_p0 : w10.cell? ⟨w.heap.size, 0, none⟩ = some (.int .i64 x.Master) := var_load o_p (by simp) 0 _ rfl
                            have f_p0 : w10.frozen? ⟨w.heap.size, 0, none⟩ = false := var_frozen o_p (by simp) 0 _ rfl
                            have c_p1 : w10.cell? ⟨w.heap.size, 1, none⟩ = some (.slice (some ⟨b, off, none⟩) k k) := var_load o_p (by simp) 1 _ rfl
                            have f_p1 : w10.frozen? ⟨w.heap.size, 1, none⟩ = false := var_frozen o_p (by simp) 1 _ rfl
                            have l_p := var_lt o_p
                            have c_r0 : w10.cell? ⟨(w.heap.size + 1), 0, none⟩ = some (.int .i64 0) := var_load o_r (by simp) 0 _ rfl
                            have f_r0 : w10.frozen? ⟨(w.heap.size + 1), 0, none⟩ = false := var_frozen o_r (by simp) 0 _ rfl
                            have c_r1 : w10.cell? ⟨(w.heap.size + 1), 1, none⟩ = some (.slice none 0 0) := var_load o_r (by simp) 1 _ rfl
                            have f_r1 : w10.frozen? ⟨(w.heap.size + 1), 1, none⟩ = false := var_frozen o_r (by simp) 1 _ rfl
                            have l_r := var_lt o_r
                            go_simp
                            clear c_p0 f_p0 c_p1 f_p1 l_p c_r0 f_r0 c_r1 f_r1 l_r
                            obtain ⟨w11, hw11⟩ : ∃ y, y = ((w10.setCell ⟨(w.heap.size + 1), 0, none⟩ (.int .i64 x.Master)).setCell ⟨(w.heap.size + 1), 1, none⟩ (.slice A15 ((k + 1) + 0) c15)) := ⟨_, rfl⟩
                            obtain ⟨o_new, tw11⟩ := var_some [.int .i64 x.Master, .slice A15 ((k + 1) + 0) c15] 0 _ _ o_r (by simp)
                            rw [show setAll w10 ((w.heap.size + 1)) 0 [.int .i64 x.Master, .slice A15 ((k + 1) + 0) c15] = w11 from hw11.symm] at o_new tw11
                            replace o_r : Owns w11 _ (varD 27 2 [.int .i64 x.Master, .slice A15 ((k + 1) + 0) c15]) _ _ := o_new
                            clear o_new
                            replace o_p := owns_turned o_p tw11 (fun b hb hb2 => by simp at hb hb2; omega)
                            replace HB := below_turned HB tw11 (fun b hb => by simp at hb; omega)
                            have zw11 := tw11.2.2.2.1
                            rw [← hw11]
                            clear hw11
                            replace o_R9 := (flat_owns (owns_turned (owns_flat o_R9) tw11 (fun b hb hb2 => by have h1 := (o_R9.lt b (by simpa using hb)).1; simp at hb2; omega))).1
                            replace o_R15 := (flat_owns (owns_turned (owns_flat o_R15) tw11 (fun b hb hb2 => by have h1 := (o_R15.lt b (by simpa using hb)).1; simp at hb2; omega))).1
                            refine hK.out _ _ ?_ (fun hHeld => ?_)
                            · exact ⟨var_load o_p (by simp) 0 _ rfl, var_load o_p (by simp) 1 _ rfl⟩
                            clear hK K
                            try simp only [Act.put, List.setIfInBounds_toArray, List.set_cons_zero, List.set_cons_succ]
                            refine wpAnyH_take (i := 18) (oi := ?oit3_18_19) (v := ?vt3_18_19) ?hit3_18_19 (by kernel_rfl) (by kernel_rfl) (by kernel_rfl) ?hQt3_18_19 (Or.inl ⟨?hwt3_18_19, ?hyt3_18_19⟩) (by assumption) ?_
                            case hit3_18_19 => simp only [List.getElem?_toArray, List.getElem?_cons_succ, List.getElem?_cons_zero]; rfl
                            case hQt3_18_19 => exact fun _ _ _ h => h
                            case hwt3_18_19 => rfl
                            case hyt3_18_19 => intro w hSw; (try dsimp only at hSw); (first | (go_simp; done) | (go_simp; with_reducible rfl))
                            try simp only [Act.put, List.setIfInBounds_toArray, List.set_cons_zero, List.set_cons_succ]
                            refine wpAnyH_done (by kernel_rfl) ?_ _
                            go_wp2
                            have o_z := owns_flat (own_base o_R15 (show w.heap.size ≤ w4.heap.size by omega))
                            have y0 : w11.cell? ⟨(w.heap.size + 1), 0, none⟩ = some (.int .i64 x.Master) := var_load o_r (by simp) 0 _ rfl
                            have y1 : w11.cell? ⟨(w.heap.size + 1), 1, none⟩ = some (.slice A15 ((k + 1) + 0) c15) := var_load o_r (by simp) 1 _ rfl
                            refine bodyPost_ret (v := .tuple #[.agg #[.int .i64 x.Master, .slice A15 ((k + 1) + 0) c15], .bool true]) (by simp [results, Try.results32, go_sem, y0, y1]) rfl ?_
                            exact made_rv (x := ⟨x.Master, ins x.Revoked (v * 10000000 + s)⟩) (by show _ = ins x.Revoked _; rw [← HXS.out, ← HCD.out, HI.out]; have h0 := HL.out; simp [List.take_of_length_le, List.drop_of_length_le, ← h0]; try omega) rfl (by have := HL.out; simp; try omega) o_z (Ra.block_nodup _) HB
                  case gt3_9_13 =>
                    go_simp
                    obtain ⟨w7, hw7⟩ : ∃ y, y = w6.alloc (.cells #[.int .i64 (cd)] 3) := ⟨_, rfl⟩
                    have D_R2_R9 := Ra.far_new (m := 1) (c := 1) o_R2
                    have o_R9 : (w6.alloc (.cells #[.int .i64 (cd)] 3)).ownsRow w4.heap.size 3 1 (.slice (some ⟨w6.heap.size, 0, none⟩) 1 1) 1 (ints .i64 [cd]) := own_base (C6.own_ints w6 [cd] 1 rfl (by omega)) HN.size
                    rw [← hw7] at o_R9 ⊢
                    have bw7 : Below w6.heap.size w6 w7 := hw7 ▸ (Below.refl _ _).alloc (Nat.le_refl _) _
                    clear hw7
                    replace o_R2 := own_below o_R2 bw7
                    replace HN := HN.trans (bw7.mono HN.size)
                    replace o_p := owns_below o_p bw7
                    replace o_r := owns_below o_r bw7
                    replace HB := HB.trans (bw7.mono HB.size)
                    have zw7 := bw7.size
                    refine hK.out _ _ ?_ (fun hHeld => ?_)
                    · exact ⟨var_load o_p (by simp) 0 _ rfl, var_load o_p (by simp) 1 _ rfl⟩
                    clear hK K
                    try simp only [Act.put, List.setIfInBounds_toArray, List.set_cons_zero, List.set_cons_succ]
                    refine wpAnyH_ready (rs := [7]) (by kernel_rfl) (by simp) ?_
                    refine AllReadyH.cons (o := ?ot3_7_20) ?hit3_7_20 (fun K hK => ?gt3_7_20) AllReadyH.nil
                    case hit3_7_20 => simp only [List.getElem?_toArray, List.getElem?_cons_succ, List.getElem?_cons_zero]; rfl
                    case gt3_7_20 =>
                      refine Ra.stepI w7 rfl (.tmp 49) (.tmp 53) rfl (w4.heap.size) (.slice (some ⟨w5.heap.size, 0, none⟩) 0 0) (0) _ (by simp [Act.eval]) o_R2 _ (some ⟨b, off, none⟩) (k) (k) (xs.take k) (by simp [Act.eval]) (Ra.rd_take (HR.out _ HB) (by omega)) (by omega) HN.size ?_
                      intro vw8 w8 o_R7 gw8 kw8
                      have E_R9 : Ra.Far (.slice (some ⟨w5.heap.size, 0, none⟩) 0 0) (.slice (some ⟨w6.heap.size, 0, none⟩) 1 1) := by first | exact D_R2_R9 | exact Ra.Far.symm D_R9_R2
                      have D_R7_R9 := Ra.far_grown o_R9 E_R9 kw8
                      replace o_R9 := Ra.far_kept o_R9 gw8 E_R9
                      clear E_R9
                      have Tw8 := turned_grown gw8
                      have Qw8 : ∀ b, b ∈ Option.toList (Value.ownBlock (.slice (some ⟨w5.heap.size, 0, none⟩) 0 0)) → w4.heap.size ≤ b := fun b hb => (o_R2.lt b (by simpa using hb)).1
                      replace o_p := owns_turned o_p Tw8 (fun b hb hb2 => by have h1 := Qw8 b hb2; simp at hb; omega)
                      replace o_r := owns_turned o_r Tw8 (fun b hb hb2 => by have h1 := Qw8 b hb2; simp at hb; omega)
                      replace HN := HN.grown gw8 HN.size (fun j hj => (o_R2.lt j hj).1)
                      replace HB := below_turned HB Tw8 (fun b hb => by have h1 := Qw8 b hb; omega)
                      have zw8 := gw8.size
                      rw [ints_app] at o_R7
                      rw [Nat.zero_add, List.nil_append] at o_R7
                      obtain ⟨A7, c7, rfl⟩ := own_nil_form o_R7
                      clear o_R2 kw8 gw8
                      refine hK.out _ _ ?_ (fun hHeld => ?_)
                      · exact ⟨var_load o_p (by simp) 0 _ rfl, var_load o_p (by simp) 1 _ rfl⟩
                      clear hK K
                      try simp only [Act.put, List.setIfInBounds_toArray, List.set_cons_zero, List.set_cons_succ]
                      refine wpAnyH_ready (rs := [10]) (by kernel_rfl) (by simp) ?_
                      refine AllReadyH.cons (o := ?ot3_10_21) ?hit3_10_21 (fun K hK => ?gt3_10_21) AllReadyH.nil
                      case hit3_10_21 => simp only [List.getElem?_toArray, List.getElem?_cons_succ, List.getElem?_cons_zero]; rfl
                      case gt3_10_21 =>
                        refine Ra.stepI w8 rfl (.tmp 54) (.tmp 56) rfl (w4.heap.size) (.slice A7 (k) c7) (k) _ (by simp [Act.eval]) o_R7 _ ((some ⟨w6.heap.size, 0, none⟩)) (1) (1) ([cd]) (by simp [Act.eval]) (Rd.own o_R9) (by omega) HN.size ?_
                        intro vw9 w9 o_R10 gw9 kw9
                        have E_R9 : Ra.Far (.slice A7 (k) c7) (.slice (some ⟨w6.heap.size, 0, none⟩) 1 1) := by first | exact D_R7_R9 | exact Ra.Far.symm D_R9_R7
                        have D_R10_R9 := Ra.far_grown o_R9 E_R9 kw9
                        replace o_R9 := Ra.far_kept o_R9 gw9 E_R9
                        clear E_R9
                        have Tw9 := turned_grown gw9
                        have Qw9 : ∀ b, b ∈ Option.toList (Value.ownBlock (.slice A7 (k) c7)) → w4.heap.size ≤ b := fun b hb => (o_R7.lt b (by simpa using hb)).1
                        replace o_p := owns_turned o_p Tw9 (fun b hb hb2 => by have h1 := Qw9 b hb2; simp at hb; omega)
                        replace o_r := owns_turned o_r Tw9 (fun b hb hb2 => by have h1 := Qw9 b hb2; simp at hb; omega)
                        replace HN := HN.grown gw9 HN.size (fun j hj => (o_R7.lt j hj).1)
                        replace HB := below_turned HB Tw9 (fun b hb => by have h1 := Qw9 b hb; omega)
                        have zw9 := gw9.size
                        rw [ints_app] at o_R10
                        obtain ⟨A10, c10, rfl⟩ := own_nil_form o_R10
                        clear o_R7 kw9 gw9
                        refine hK.out _ _ ?_ (fun hHeld => ?_)
                        · exact ⟨var_load o_p (by simp) 0 _ rfl, var_load o_p (by simp) 1 _ rfl⟩
                        clear hK K
                        try simp only [Act.put, List.setIfInBounds_toArray, List.set_cons_zero, List.set_cons_succ]
                        refine wpAnyH_ready (rs := [15]) (by kernel_rfl) (by simp) ?_
                        refine AllReadyH.cons (o := ?ot3_15_22) ?hit3_15_22 (fun K hK => ?gt3_15_22) AllReadyH.nil
                        case hit3_15_22 => simp only [List.getElem?_toArray, List.getElem?_cons_succ, List.getElem?_cons_zero]; rfl
                        case gt3_15_22 =>
                          refine Ra.stepI w9 rfl (.tmp 57) (.tmp 61) rfl (w4.heap.size) (.slice A10 (k + 1) c10) ((k + 1)) _ (by simp [Act.eval]) o_R10 _ (some ⟨b, off, none⟩) (0) (0) ([]) (by simp [Act.eval]) (Ra.rd_none (hi := 0)) (by omega) HN.size ?_
                          intro vw10 w10 o_R15 gw10 kw10
                          have E_R9 : Ra.Far (.slice A10 (k + 1) c10) (.slice (some ⟨w6.heap.size, 0, none⟩) 1 1) := by first | exact D_R10_R9 | exact Ra.Far.symm D_R9_R10
                          have D_R15_R9 := Ra.far_grown o_R9 E_R9 kw10
                          replace o_R9 := Ra.far_kept o_R9 gw10 E_R9
                          clear E_R9
                          have Tw10 := turned_grown gw10
                          have Qw10 : ∀ b, b ∈ Option.toList (Value.ownBlock (.slice A10 (k + 1) c10)) → w4.heap.size ≤ b := fun b hb => (o_R10.lt b (by simpa using hb)).1
                          replace o_p := owns_turned o_p Tw10 (fun b hb hb2 => by have h1 := Qw10 b hb2; simp at hb; omega)
                          replace o_r := owns_turned o_r Tw10 (fun b hb hb2 => by have h1 := Qw10 b hb2; simp at hb; omega)
                          replace HN := HN.grown gw10 HN.size (fun j hj => (o_R10.lt j hj).1)
                          replace HB := below_turned HB Tw10 (fun b hb => by have h1 := Qw10 b hb; omega)
                          have zw10 := gw10.size
                          rw [ints_app] at o_R15
                          obtain ⟨A15, c15, rfl⟩ := own_nil_form o_R15
                          clear o_R10 kw10 gw10
                          refine hK.out _ _ ?_ (fun hHeld => ?_)
                          · exact ⟨var_load o_p (by simp) 0 _ rfl, var_load o_p (by simp) 1 _ rfl⟩
                          clear hK K
                          try simp only [Act.put, List.setIfInBounds_toArray, List.set_cons_zero, List.set_cons_succ]
                          refine wpAnyH_take (i := 16) (oi := ?oit3_16_23) (v := ?vt3_16_23) ?hit3_16_23 (by kernel_rfl) (by kernel_rfl) (by kernel_rfl) ?hQt3_16_23 (Or.inl ⟨?hwt3_16_23, ?hyt3_16_23⟩) (by assumption) ?_
                          case hit3_16_23 => simp only [List.getElem?_toArray, List.getElem?_cons_succ, List.getElem?_cons_zero]; rfl
                          case hQt3_16_23 => exact fun _ _ _ h => h
                          case hwt3_16_23 => rfl
                          case hyt3_16_23 => intro w hSw; (try dsimp only at hSw); (first | (go_simp; done) | (go_simp; with_reducible rfl))
                          try simp only [Act.put, List.setIfInBounds_toArray, List.set_cons_zero, List.set_cons_succ]
                          refine wpAnyH_ready (rs := [17]) (by kernel_rfl) (by simp) ?_
                          refine AllReadyH.cons (o := ?ot3_17_24) ?hit3_17_24 (fun K hK => ?gt3_17_24) AllReadyH.nil
                          case hit3_17_24 => simp only [List.getElem?_toArray, List.getElem?_cons_succ, List.getElem?_cons_zero]; rfl
                          case gt3_17_24 =>
                            have c_p0 : w10.cell? ⟨w.heap.size, 0, none⟩ = some (.int .i64 x.Master) := var_load o_p (by simp) 0 _ rfl
                            have f_p0 : w10.frozen? ⟨w.heap.size, 0, none⟩ = false := var_frozen o_p (by simp) 0 _ rfl
                            have c_p1 : w10.cell? ⟨w.heap.size, 1, none⟩ = some (.slice (some ⟨b, off, none⟩) k k) := var_load o_p (by simp) 1 _ rfl
                            have f_p1 : w10.frozen? ⟨w.heap.size, 1, none⟩ = false := var_frozen o_p (by simp) 1 _ rfl
                            have l_p := var_lt o_p
                            have c_r0 : w10.cell? ⟨(w.heap.size + 1), 0, none⟩ = some (.int .i64 0) := var_load o_r (by simp) 0 _ rfl
                            have f_r0 : w10.frozen? ⟨(w.heap.size + 1), 0, none⟩ = false := var_frozen o_r (by simp) 0 _ rfl
                            have c_r1 : w10.cell? ⟨(w.heap.size + 1), 1, none⟩ = some (.slice none 0 0) := var_load o_r (by simp) 1 _ rfl
                            have f_r1 : w10.frozen? ⟨(w.heap.size + 1), 1, none⟩ = false := var_frozen o_r (by simp) 1 _ rfl
                            have l_r := var_lt o_r
                            go_simp
                            clear c_p0 f_p0 c_p1 f_p1 l_p c_r0 f_r0 c_r1 f_r1 l_r
                            obtain ⟨w11, hw11⟩ : ∃ y, y = ((w10.setCell ⟨(w.heap.size + 1), 0, none⟩ (.int .i64 x.Master)).setCell ⟨(w.heap.size + 1), 1, none⟩ (.slice A15 ((k + 1) + 0) c15)) := ⟨_, rfl⟩
                            obtain ⟨o_new, tw11⟩ := var_some [.int .i64 x.Master, .slice A15 ((k + 1) + 0) c15] 0 _ _ o_r (by simp)
                            rw [show setAll w10 ((w.heap.size + 1)) 0 [.int .i64 x.Master, .slice A15 ((k + 1) + 0) c15] = w11 from hw11.symm] at o_new tw11
                            replace o_r : Owns w11 _ (varD 27 2 [.int .i64 x.Master, .slice A15 ((k + 1) + 0) c15]) _ _ := o_new
                            clear o_new
                            replace o_p := owns_turned o_p tw11 (fun b hb hb2 => by simp at hb hb2; omega)
                            replace HB := below_turned HB tw11 (fun b hb => by simp at hb; omega)
                            have zw11 := tw11.2.2.2.1
                            rw [← hw11]
                            clear hw11
                            replace o_R9 := (flat_owns (owns_turned (owns_flat o_R9) tw11 (fun b hb hb2 => by have h1 := (o_R9.lt b (by simpa using hb)).1; simp at hb2; omega))).1
                            replace o_R15 := (flat_owns (owns_turned (owns_flat o_R15) tw11 (fun b hb hb2 => by have h1 := (o_R15.lt b (by simpa using hb)).1; simp at hb2; omega))).1
                            refine hK.out _ _ ?_ (fun hHeld => ?_)
                            · exact ⟨var_load o_p (by simp) 0 _ rfl, var_load o_p (by simp) 1 _ rfl⟩
                            clear hK K
                            try simp only [Act.put, List.setIfInBounds_toArray, List.set_cons_zero, List.set_cons_succ]
                            refine wpAnyH_take (i := 18) (oi := ?oit3_18_25) (v := ?vt3_18_25) ?hit3_18_25 (by kernel_rfl) (by kernel_rfl) (by kernel_rfl) ?hQt3_18_25 (Or.inl ⟨?hwt3_18_25, ?hyt3_18_25⟩) (by assumption) ?_
                            case hit3_18_25 => simp only [List.getElem?_toArray, List.getElem?_cons_succ, List.getElem?_cons_zero]; rfl
                            case hQt3_18_25 => exact fun _ _ _ h => h
                            case hwt3_18_25 => rfl
                            case hyt3_18_25 => intro w hSw; (try dsimp only at hSw); (first | (go_simp; done) | (go_simp; with_reducible rfl))
                            try simp only [Act.put, List.setIfInBounds_toArray, List.set_cons_zero, List.set_cons_succ]
                            refine wpAnyH_done (by kernel_rfl) ?_ _
                            go_wp2
                            have o_z := owns_flat (own_base o_R15 (show w.heap.size ≤ w4.heap.size by omega))
                            have y0 : w11.cell? ⟨(w.heap.size + 1), 0, none⟩ = some (.int .i64 x.Master) := var_load o_r (by simp) 0 _ rfl
                            have y1 : w11.cell? ⟨(w.heap.size + 1), 1, none⟩ = some (.slice A15 ((k + 1) + 0) c15) := var_load o_r (by simp) 1 _ rfl
                            refine bodyPost_ret (v := .tuple #[.agg #[.int .i64 x.Master, .slice A15 ((k + 1) + 0) c15], .bool true]) (by simp [results, Try.results32, go_sem, y0, y1]) rfl ?_
                            exact made_rv (x := ⟨x.Master, ins x.Revoked (v * 10000000 + s)⟩) (by show _ = ins x.Revoked _; rw [← HXS.out, ← HCD.out, HI.out]; have h0 := HL.out; simp [List.take_of_length_le, List.drop_of_length_le, ← h0]; try omega) rfl (by have := HL.out; simp; try omega) o_z (Ra.block_nodup _) HB
                case gt3_9_12 =>
                  go_simp
                  obtain ⟨w6, hw6⟩ : ∃ y, y = w5.alloc (.cells #[.int .i64 (cd)] 3) := ⟨_, rfl⟩
                  have o_R9 : (w5.alloc (.cells #[.int .i64 (cd)] 3)).ownsRow w4.heap.size 3 1 (.slice (some ⟨w5.heap.size, 0, none⟩) 1 1) 1 (ints .i64 [cd]) := own_base (C6.own_ints w5 [cd] 1 rfl (by omega)) HN.size
                  rw [← hw6] at o_R9 ⊢
                  have bw6 : Below w5.heap.size w5 w6 := hw6 ▸ (Below.refl _ _).alloc (Nat.le_refl _) _
                  clear hw6
                  replace HN := HN.trans (bw6.mono HN.size)
                  replace o_p := owns_below o_p bw6
                  replace o_r := owns_below o_r bw6
                  replace HB := HB.trans (bw6.mono HB.size)
                  have zw6 := bw6.size
                  refine hK.out _ _ ?_ (fun hHeld => ?_)
                  · exact ⟨var_load o_p (by simp) 0 _ rfl, var_load o_p (by simp) 1 _ rfl⟩
                  clear hK K
                  try simp only [Act.put, List.setIfInBounds_toArray, List.set_cons_zero, List.set_cons_succ]
                  refine wpAnyH_ready (rs := [2]) (by kernel_rfl) (by simp) ?_
                  refine AllReadyH.cons (o := ?ot3_2_26) ?hit3_2_26 (fun K hK => ?gt3_2_26) AllReadyH.nil
                  case hit3_2_26 => simp only [List.getElem?_toArray, List.getElem?_cons_succ, List.getElem?_cons_zero]; rfl
                  case gt3_2_26 =>
                    go_simp
                    obtain ⟨w7, hw7⟩ : ∃ y, y = w6.alloc (.cells #[] 3) := ⟨_, rfl⟩
                    have D_R9_R2 := Ra.far_new (m := 0) (c := 0) o_R9
                    have o_R2 : (w6.alloc (.cells #[] 3)).ownsRow w4.heap.size 3 1 (.slice (some ⟨w6.heap.size, 0, none⟩) 0 0) 0 (ints .i64 []) := own_base (C6.own_ints w6 [] 0 rfl (by omega)) HN.size
                    rw [← hw7] at o_R2 ⊢
                    have bw7 : Below w6.heap.size w6 w7 := hw7 ▸ (Below.refl _ _).alloc (Nat.le_refl _) _
                    clear hw7
                    replace o_R9 := own_below o_R9 bw7
                    replace HN := HN.trans (bw7.mono HN.size)
                    replace o_p := owns_below o_p bw7
                    replace o_r := owns_below o_r bw7
                    replace HB := HB.trans (bw7.mono HB.size)
                    have zw7 := bw7.size
                    refine hK.out _ _ ?_ (fun hHeld => ?_)
                    · exact ⟨var_load o_p (by simp) 0 _ rfl, var_load o_p (by simp) 1 _ rfl⟩
                    clear hK K
                    try simp only [Act.put, List.setIfInBounds_toArray, List.set_cons_zero, List.set_cons_succ]
                    refine wpAnyH_ready (rs := [7]) (by kernel_rfl) (by simp) ?_
                    refine AllReadyH.cons (o := ?ot3_7_27) ?hit3_7_27 (fun K hK => ?gt3_7_27) AllReadyH.nil
                    case hit3_7_27 => simp only [List.getElem?_toArray, List.getElem?_cons_succ, List.getElem?_cons_zero]; rfl
                    case gt3_7_27 =>
                      refine Ra.stepI w7 rfl (.tmp 49) (.tmp 53) rfl (w4.heap.size) (.slice (some ⟨w6.heap.size, 0, none⟩) 0 0) (0) _ (by simp [Act.eval]) o_R2 _ (some ⟨b, off, none⟩) (k) (k) (xs.take k) (by simp [Act.eval]) (Ra.rd_take (HR.out _ HB) (by omega)) (by omega) HN.size ?_
                      intro vw8 w8 o_R7 gw8 kw8
                      have E_R9 : Ra.Far (.slice (some ⟨w6.heap.size, 0, none⟩) 0 0) (.slice (some ⟨w5.heap.size, 0, none⟩) 1 1) := by first | exact D_R2_R9 | exact Ra.Far.symm D_R9_R2
                      have D_R7_R9 := Ra.far_grown o_R9 E_R9 kw8
                      replace o_R9 := Ra.far_kept o_R9 gw8 E_R9
                      clear E_R9
                      have Tw8 := turned_grown gw8
                      have Qw8 : ∀ b, b ∈ Option.toList (Value.ownBlock (.slice (some ⟨w6.heap.size, 0, none⟩) 0 0)) → w4.heap.size ≤ b := fun b hb => (o_R2.lt b (by simpa using hb)).1
                      replace o_p := owns_turned o_p Tw8 (fun b hb hb2 => by have h1 := Qw8 b hb2; simp at hb; omega)
                      replace o_r := owns_turned o_r Tw8 (fun b hb hb2 => by have h1 := Qw8 b hb2; simp at hb; omega)
                      replace HN := HN.grown gw8 HN.size (fun j hj => (o_R2.lt j hj).1)
                      replace HB := below_turned HB Tw8 (fun b hb => by have h1 := Qw8 b hb; omega)
                      have zw8 := gw8.size
                      rw [ints_app] at o_R7
                      rw [Nat.zero_add, List.nil_append] at o_R7
                      obtain ⟨A7, c7, rfl⟩ := own_nil_form o_R7
                      clear o_R2 kw8 gw8
                      refine hK.out _ _ ?_ (fun hHeld => ?_)
                      · exact ⟨var_load o_p (by simp) 0 _ rfl, var_load o_p (by simp) 1 _ rfl⟩
                      clear hK K
                      try simp only [Act.put, List.setIfInBounds_toArray, List.set_cons_zero, List.set_cons_succ]
                      refine wpAnyH_ready (rs := [10]) (by kernel_rfl) (by simp) ?_
                      refine AllReadyH.cons (o := ?ot3_10_28) ?hit3_10_28 (fun K hK => ?gt3_10_28) AllReadyH.nil
                      case hit3_10_28 => simp only [List.getElem?_toArray, List.getElem?_cons_succ, List.getElem?_cons_zero]; rfl
                      case gt3_10_28 =>
                        refine Ra.stepI w8 rfl (.tmp 54) (.tmp 56) rfl (w4.heap.size) (.slice A7 (k) c7) (k) _ (by simp [Act.eval]) o_R7 _ ((some ⟨w5.heap.size, 0, none⟩)) (1) (1) ([cd]) (by simp [Act.eval]) (Rd.own o_R9) (by omega) HN.size ?_
                        intro vw9 w9 o_R10 gw9 kw9
                        have E_R9 : Ra.Far (.slice A7 (k) c7) (.slice (some ⟨w5.heap.size, 0, none⟩) 1 1) := by first | exact D_R7_R9 | exact Ra.Far.symm D_R9_R7
                        have D_R10_R9 := Ra.far_grown o_R9 E_R9 kw9
                        replace o_R9 := Ra.far_kept o_R9 gw9 E_R9
                        clear E_R9
                        have Tw9 := turned_grown gw9
                        have Qw9 : ∀ b, b ∈ Option.toList (Value.ownBlock (.slice A7 (k) c7)) → w4.heap.size ≤ b := fun b hb => (o_R7.lt b (by simpa using hb)).1
                        replace o_p := owns_turned o_p Tw9 (fun b hb hb2 => by have h1 := Qw9 b hb2; simp at hb; omega)
                        replace o_r := owns_turned o_r Tw9 (fun b hb hb2 => by have h1 := Qw9 b hb2; simp at hb; omega)
                        replace HN := HN.grown gw9 HN.size (fun j hj => (o_R7.lt j hj).1)
                        replace HB := below_turned HB Tw9 (fun b hb => by have h1 := Qw9 b hb; omega)
                        have zw9 := gw9.size
                        rw [ints_app] at o_R10
                        obtain ⟨A10, c10, rfl⟩ := own_nil_form o_R10
                        clear o_R7 kw9 gw9
                        refine hK.out _ _ ?_ (fun hHeld => ?_)
                        · exact ⟨var_load o_p (by simp) 0 _ rfl, var_load o_p (by simp) 1 _ rfl⟩
                        clear hK K
                        try simp only [Act.put, List.setIfInBounds_toArray, List.set_cons_zero, List.set_cons_succ]
                        refine wpAnyH_ready (rs := [15]) (by kernel_rfl) (by simp) ?_
                        refine AllReadyH.cons (o := ?ot3_15_29) ?hit3_15_29 (fun K hK => ?gt3_15_29) AllReadyH.nil
                        case hit3_15_29 => simp only [List.getElem?_toArray, List.getElem?_cons_succ, List.getElem?_cons_zero]; rfl
                        case gt3_15_29 =>
                          refine Ra.stepI w9 rfl (.tmp 57) (.tmp 61) rfl (w4.heap.size) (.slice A10 (k + 1) c10) ((k + 1)) _ (by simp [Act.eval]) o_R10 _ (some ⟨b, off, none⟩) (0) (0) ([]) (by simp [Act.eval]) (Ra.rd_none (hi := 0)) (by omega) HN.size ?_
                          intro vw10 w10 o_R15 gw10 kw10
                          have E_R9 : Ra.Far (.slice A10 (k + 1) c10) (.slice (some ⟨w5.heap.size, 0, none⟩) 1 1) := by first | exact D_R10_R9 | exact Ra.Far.symm D_R9_R10
                          have D_R15_R9 := Ra.far_grown o_R9 E_R9 kw10
                          replace o_R9 := Ra.far_kept o_R9 gw10 E_R9
                          clear E_R9
                          have Tw10 := turned_grown gw10
                          have Qw10 : ∀ b, b ∈ Option.toList (Value.ownBlock (.slice A10 (k + 1) c10)) → w4.heap.size ≤ b := fun b hb => (o_R10.lt b (by simpa using hb)).1
                          replace o_p := owns_turned o_p Tw10 (fun b hb hb2 => by have h1 := Qw10 b hb2; simp at hb; omega)
                          replace o_r := owns_turned o_r Tw10 (fun b hb hb2 => by have h1 := Qw10 b hb2; simp at hb; omega)
                          replace HN := HN.grown gw10 HN.size (fun j hj => (o_R10.lt j hj).1)
                          replace HB := below_turned HB Tw10 (fun b hb => by have h1 := Qw10 b hb; omega)
                          have zw10 := gw10.size
                          rw [ints_app] at o_R15
                          obtain ⟨A15, c15, rfl⟩ := own_nil_form o_R15
                          clear o_R10 kw10 gw10
                          refine hK.out _ _ ?_ (fun hHeld => ?_)
                          · exact ⟨var_load o_p (by simp) 0 _ rfl, var_load o_p (by simp) 1 _ rfl⟩
                          clear hK K
                          try simp only [Act.put, List.setIfInBounds_toArray, List.set_cons_zero, List.set_cons_succ]
                          refine wpAnyH_take (i := 16) (oi := ?oit3_16_30) (v := ?vt3_16_30) ?hit3_16_30 (by kernel_rfl) (by kernel_rfl) (by kernel_rfl) ?hQt3_16_30 (Or.inl ⟨?hwt3_16_30, ?hyt3_16_30⟩) (by assumption) ?_
                          case hit3_16_30 => simp only [List.getElem?_toArray, List.getElem?_cons_succ, List.getElem?_cons_zero]; rfl
                          case hQt3_16_30 => exact fun _ _ _ h => h
                          case hwt3_16_30 => rfl
                          case hyt3_16_30 => intro w hSw; (try dsimp only at hSw); (first | (go_simp; done) | (go_simp; with_reducible rfl))
                          try simp only [Act.put, List.setIfInBounds_toArray, List.set_cons_zero, List.set_cons_succ]
                          refine wpAnyH_ready (rs := [17]) (by kernel_rfl) (by simp) ?_
                          refine AllReadyH.cons (o := ?ot3_17_31) ?hit3_17_31 (fun K hK => ?gt3_17_31) AllReadyH.nil
                          case hit3_17_31 => simp only [List.getElem?_toArray, List.getElem?_cons_succ, List.getElem?_cons_zero]; rfl
                          case gt3_17_31 =>
                            have c_p0 : w10.cell? ⟨w.heap.size, 0, none⟩ = some (.int .i64 x.Master) := var_load o_p (by simp) 0 _ rfl
                            have f_p0 : w10.frozen? ⟨w.heap.size, 0, none⟩ = false := var_frozen o_p (by simp) 0 _ rfl
                            have c_p1 : w10.cell? ⟨w.heap.size, 1, none⟩ = some (.slice (some ⟨b, off, none⟩) k k) := var_load o_p (by simp) 1 _ rfl
                            have f_p1 : w10.frozen? ⟨w.heap.size, 1, none⟩ = false := var_frozen o_p (by simp) 1 _ rfl
                            have l_p := var_lt o_p
                            have c_r0 : w10.cell? ⟨(w.heap.size + 1), 0, none⟩ = some (.int .i64 0) := var_load o_r (by simp) 0 _ rfl
                            have f_r0 : w10.frozen? ⟨(w.heap.size + 1), 0, none⟩ = false := var_frozen o_r (by simp) 0 _ rfl
                            have c_r1 : w10.cell? ⟨(w.heap.size + 1), 1, none⟩ = some (.slice none 0 0) := var_load o_r (by simp) 1 _ rfl
                            have f_r1 : w10.frozen? ⟨(w.heap.size + 1), 1, none⟩ = false := var_frozen o_r (by simp) 1 _ rfl
                            have l_r := var_lt o_r
                            go_simp
                            clear c_p0 f_p0 c_p1 f_p1 l_p c_r0 f_r0 c_r1 f_r1 l_r
                            obtain ⟨w11, hw11⟩ : ∃ y, y = ((w10.setCell ⟨(w.heap.size + 1), 0, none⟩ (.int .i64 x.Master)).setCell ⟨(w.heap.size + 1), 1, none⟩ (.slice A15 ((k + 1) + 0) c15)) := ⟨_, rfl⟩
                            obtain ⟨o_new, tw11⟩ := var_some [.int .i64 x.Master, .slice A15 ((k + 1) + 0) c15] 0 _ _ o_r (by simp)
                            rw [show setAll w10 ((w.heap.size + 1)) 0 [.int .i64 x.Master, .slice A15 ((k + 1) + 0) c15] = w11 from hw11.symm] at o_new tw11
                            replace o_r : Owns w11 _ (varD 27 2 [.int .i64 x.Master, .slice A15 ((k + 1) + 0) c15]) _ _ := o_new
                            clear o_new
                            replace o_p := owns_turned o_p tw11 (fun b hb hb2 => by simp at hb hb2; omega)
                            replace HB := below_turned HB tw11 (fun b hb => by simp at hb; omega)
                            have zw11 := tw11.2.2.2.1
                            rw [← hw11]
                            clear hw11
                            replace o_R9 := (flat_owns (owns_turned (owns_flat o_R9) tw11 (fun b hb hb2 => by have h1 := (o_R9.lt b (by simpa using hb)).1; simp at hb2; omega))).1
                            replace o_R15 := (flat_owns (owns_turned (owns_flat o_R15) tw11 (fun b hb hb2 => by have h1 := (o_R15.lt b (by simpa using hb)).1; simp at hb2; omega))).1
                            refine hK.out _ _ ?_ (fun hHeld => ?_)
                            · exact ⟨var_load o_p (by simp) 0 _ rfl, var_load o_p (by simp) 1 _ rfl⟩
                            clear hK K
                            try simp only [Act.put, List.setIfInBounds_toArray, List.set_cons_zero, List.set_cons_succ]
                            refine wpAnyH_take (i := 18) (oi := ?oit3_18_32) (v := ?vt3_18_32) ?hit3_18_32 (by kernel_rfl) (by kernel_rfl) (by kernel_rfl) ?hQt3_18_32 (Or.inl ⟨?hwt3_18_32, ?hyt3_18_32⟩) (by assumption) ?_
                            case hit3_18_32 => simp only [List.getElem?_toArray, List.getElem?_cons_succ, List.getElem?_cons_zero]; rfl
                            case hQt3_18_32 => exact fun _ _ _ h => h
                            case hwt3_18_32 => rfl
                            case hyt3_18_32 => intro w hSw; (try dsimp only at hSw); (first | (go_simp; done) | (go_simp; with_reducible rfl))
                            try simp only [Act.put, List.setIfInBounds_toArray, List.set_cons_zero, List.set_cons_succ]
                            refine wpAnyH_done (by kernel_rfl) ?_ _
                            go_wp2
                            have o_z := owns_flat (own_base o_R15 (show w.heap.size ≤ w4.heap.size by omega))
                            have y0 : w11.cell? ⟨(w.heap.size + 1), 0, none⟩ = some (.int .i64 x.Master) := var_load o_r (by simp) 0 _ rfl
                            have y1 : w11.cell? ⟨(w.heap.size + 1), 1, none⟩ = some (.slice A15 ((k + 1) + 0) c15) := var_load o_r (by simp) 1 _ rfl
                            refine bodyPost_ret (v := .tuple #[.agg #[.int .i64 x.Master, .slice A15 ((k + 1) + 0) c15], .bool true]) (by simp [results, Try.results32, go_sem, y0, y1]) rfl ?_
                            exact made_rv (x := ⟨x.Master, ins x.Revoked (v * 10000000 + s)⟩) (by show _ = ins x.Revoked _; rw [← HXS.out, ← HCD.out, HI.out]; have h0 := HL.out; simp [List.take_of_length_le, List.drop_of_length_le, ← h0]; try omega) rfl (by have := HL.out; simp; try omega) o_z (Ra.block_nodup _) HB
              · have q5 : ¬ c = k := by omega
                have q1 : (0 : Int) ≤ (k : Int) := by omega
                have q2 : (k : Int) ≤ (c : Int) := by omega
                have q3 : (k : Int) ≤ (n : Int) := by omega
                have q4 : (n : Int) ≤ (c : Int) := by omega
                go_wp2_with fail
                clear c_p0 f_p0 c_p1 f_p1 l_p c_r0 f_r0 c_r1 f_r1 l_r
                have HN := Below.refl w4.heap.size w4
                obtain ⟨w5, hw5⟩ : ∃ y, y = w4.drew := ⟨_, rfl⟩
                have bw5 : Below w4.heap.size w4 w5 := hw5 ▸ drewN_below w4 1 _
                replace o_p := owns_below o_p bw5
                replace o_r := owns_below o_r bw5
                replace HB := HB.trans (bw5.mono HB.size)
                have zw5 := bw5.size
                replace HN := HN.trans (bw5.mono HN.size)
                refine wp_region_held_drew (S := (fun wx => wx.cell? ⟨w.heap.size, 0, none⟩ = some (.int .i64 x.Master) ∧ wx.cell? ⟨w.heap.size, 1, none⟩ = some (.slice (some ⟨b, off, none⟩) n c))) (by kernel_rfl) ?_ (fun hHeld => ?_)
                · rw [← hw5]; exact ⟨var_load o_p (by simp) 0 _ rfl, var_load o_p (by simp) 1 _ rfl⟩
                rw [← hw5] at hHeld ⊢
                clear hw5
                refine wpAnyH_take (i := 0) (oi := ?oit4_0_1) (v := ?vt4_0_1) ?hit4_0_1 (by kernel_rfl) (by kernel_rfl) (by kernel_rfl) ?hQt4_0_1 (Or.inl ⟨?hwt4_0_1, ?hyt4_0_1⟩) (by assumption) ?_
                case hit4_0_1 => simp only [List.getElem?_toArray, List.getElem?_cons_zero]; rfl
                case hQt4_0_1 => exact fun _ _ _ h => h
                case hwt4_0_1 => rfl
                case hyt4_0_1 => intro w hSw; (try dsimp only at hSw); (first | (go_simp; done) | (go_simp; with_reducible rfl))
                try simp only [Act.put, List.setIfInBounds_toArray, List.set_cons_zero, List.set_cons_succ]
                refine wpAnyH_take (i := 1) (oi := ?oit4_1_2) (v := ?vt4_1_2) ?hit4_1_2 (by kernel_rfl) (by kernel_rfl) (by kernel_rfl) ?hQt4_1_2 (Or.inl ⟨?hwt4_1_2, ?hyt4_1_2⟩) (by assumption) ?_
                case hit4_1_2 => simp only [List.getElem?_toArray, List.getElem?_cons_succ, List.getElem?_cons_zero]; rfl
                case hQt4_1_2 => exact fun _ _ _ h => h
                case hwt4_1_2 => rfl
                case hyt4_1_2 => intro w hSw; (try dsimp only at hSw); (first | (go_simp; done) | (go_simp; with_reducible rfl))
                try simp only [Act.put, List.setIfInBounds_toArray, List.set_cons_zero, List.set_cons_succ]
                refine wpAnyH_take (i := 3) (oi := ?oit4_3_3) (v := ?vt4_3_3) ?hit4_3_3 (by kernel_rfl) (by kernel_rfl) (by kernel_rfl) ?hQt4_3_3 (Or.inl ⟨?hwt4_3_3, ?hyt4_3_3⟩) (by assumption) ?_
                case hit4_3_3 => simp only [List.getElem?_toArray, List.getElem?_cons_succ, List.getElem?_cons_zero]; rfl
                case hQt4_3_3 => exact fun _ _ _ h => h
                case hwt4_3_3 => rfl
                case hyt4_3_3 => intro w hSw; (try dsimp only at hSw); (first | (go_simp; done) | (go_simp; with_reducible rfl))
                try simp only [Act.put, List.setIfInBounds_toArray, List.set_cons_zero, List.set_cons_succ]
                refine wpAnyH_take (i := 4) (oi := ?oit4_4_4) (v := ?vt4_4_4) ?hit4_4_4 (by kernel_rfl) (by kernel_rfl) (by kernel_rfl) ?hQt4_4_4 (Or.inl ⟨?hwt4_4_4, ?hyt4_4_4⟩) (by assumption) ?_
                case hit4_4_4 => simp only [List.getElem?_toArray, List.getElem?_cons_succ, List.getElem?_cons_zero]; rfl
                case hQt4_4_4 => exact fun _ _ _ h => h
                case hwt4_4_4 => rfl
                case hyt4_4_4 => intro w hSw; (try dsimp only at hSw); (first | (go_simp; done) | (go_simp; with_reducible rfl))
                try simp only [Act.put, List.setIfInBounds_toArray, List.set_cons_zero, List.set_cons_succ]
                refine wpAnyH_take (i := 5) (oi := ?oit4_5_5) (v := ?vt4_5_5) ?hit4_5_5 (by kernel_rfl) (by kernel_rfl) (by kernel_rfl) ?hQt4_5_5 (Or.inl ⟨?hwt4_5_5, ?hyt4_5_5⟩) (by assumption) ?_
                case hit4_5_5 => simp only [List.getElem?_toArray, List.getElem?_cons_succ, List.getElem?_cons_zero]; rfl
                case hQt4_5_5 => exact fun _ _ _ h => h
                case hwt4_5_5 => rfl
                case hyt4_5_5 => intro w hSw; (try dsimp only at hSw); (first | (go_simp; done) | (go_simp; with_reducible rfl))
                try simp only [Act.put, List.setIfInBounds_toArray, List.set_cons_zero, List.set_cons_succ]
                refine wpAnyH_take (i := 6) (oi := ?oit4_6_6) (v := ?vt4_6_6) ?hit4_6_6 (by kernel_rfl) (by kernel_rfl) (by kernel_rfl) ?hQt4_6_6 (Or.inl ⟨?hwt4_6_6, ?hyt4_6_6⟩) (by assumption) ?_
                case hit4_6_6 => simp only [List.getElem?_toArray, List.getElem?_cons_succ, List.getElem?_cons_zero]; rfl
                case hQt4_6_6 => exact fun _ _ _ h => h
                case hwt4_6_6 => rfl
                case hyt4_6_6 => intro w hSw; (try dsimp only at hSw); (first | (go_simp; done) | (go_simp; with_reducible rfl))
                try simp only [Act.put, List.setIfInBounds_toArray, List.set_cons_zero, List.set_cons_succ]
                refine wpAnyH_take (i := 8) (oi := ?oit4_8_7) (v := ?vt4_8_7) ?hit4_8_7 (by kernel_rfl) (by kernel_rfl) (by kernel_rfl) ?hQt4_8_7 (Or.inl ⟨?hwt4_8_7, ?hyt4_8_7⟩) (by assumption) ?_
                case hit4_8_7 => simp only [List.getElem?_toArray, List.getElem?_cons_succ, List.getElem?_cons_zero]; rfl
                case hQt4_8_7 => exact fun _ _ _ h => h
                case hwt4_8_7 => rfl
                case hyt4_8_7 => intro w hSw; (try dsimp only at hSw); (first | (go_simp; done) | (go_simp; with_reducible rfl))
                try simp only [Act.put, List.setIfInBounds_toArray, List.set_cons_zero, List.set_cons_succ]
                refine wpAnyH_take (i := 11) (oi := ?oit4_11_8) (v := ?vt4_11_8) ?hit4_11_8 (by kernel_rfl) (by kernel_rfl) (by kernel_rfl) ?hQt4_11_8 (Or.inl ⟨?hwt4_11_8, ?hyt4_11_8⟩) (by assumption) ?_
                case hit4_11_8 => simp only [List.getElem?_toArray, List.getElem?_cons_succ, List.getElem?_cons_zero]; rfl
                case hQt4_11_8 => exact fun _ _ _ h => h
                case hwt4_11_8 => rfl
                case hyt4_11_8 => intro w hSw; (try dsimp only at hSw); (first | (go_simp; done) | (go_simp; with_reducible rfl))
                try simp only [Act.put, List.setIfInBounds_toArray, List.set_cons_zero, List.set_cons_succ]
                refine wpAnyH_take (i := 12) (oi := ?oit4_12_9) (v := ?vt4_12_9) ?hit4_12_9 (by kernel_rfl) (by kernel_rfl) (by kernel_rfl) ?hQt4_12_9 (Or.inl ⟨?hwt4_12_9, ?hyt4_12_9⟩) (by assumption) ?_
                case hit4_12_9 => simp only [List.getElem?_toArray, List.getElem?_cons_succ, List.getElem?_cons_zero]; rfl
                case hQt4_12_9 => exact fun _ _ _ h => h
                case hwt4_12_9 => rfl
                case hyt4_12_9 => intro w hSw; (try dsimp only at hSw); (first | (go_simp; done) | (go_simp; with_reducible rfl))
                try simp only [Act.put, List.setIfInBounds_toArray, List.set_cons_zero, List.set_cons_succ]
                refine wpAnyH_take (i := 13) (oi := ?oit4_13_10) (v := ?vt4_13_10) ?hit4_13_10 (by kernel_rfl) (by kernel_rfl) (by kernel_rfl) ?hQt4_13_10 (Or.inl ⟨?hwt4_13_10, ?hyt4_13_10⟩) (by assumption) ?_
                case hit4_13_10 => simp only [List.getElem?_toArray, List.getElem?_cons_succ, List.getElem?_cons_zero]; rfl
                case hQt4_13_10 => exact fun _ _ _ h => h
                case hwt4_13_10 => rfl
                case hyt4_13_10 => intro w hSw; (try dsimp only at hSw); (first | (go_simp; done) | (go_simp; with_reducible rfl))
                try simp only [Act.put, List.setIfInBounds_toArray, List.set_cons_zero, List.set_cons_succ]
                refine wpAnyH_take (i := 14) (oi := ?oit4_14_11) (v := ?vt4_14_11) ?hit4_14_11 (by kernel_rfl) (by kernel_rfl) (by kernel_rfl) ?hQt4_14_11 (Or.inl ⟨?hwt4_14_11, ?hyt4_14_11⟩) (by assumption) ?_
                case hit4_14_11 => simp only [List.getElem?_toArray, List.getElem?_cons_succ, List.getElem?_cons_zero]; rfl
                case hQt4_14_11 => exact fun _ _ _ h => h
                case hwt4_14_11 => rfl
                case hyt4_14_11 => intro w hSw; (try dsimp only at hSw); (first | (go_simp; done) | (go_simp; with_reducible rfl))
                try simp only [Act.put, List.setIfInBounds_toArray, List.set_cons_zero, List.set_cons_succ]
                refine wpAnyH_ready (rs := [2, 9]) (by kernel_rfl) (by simp) ?_
                refine AllReadyH.cons (o := ?ot4_2_12) ?hit4_2_12 (fun K hK => ?gt4_2_12) (AllReadyH.cons (o := ?ot4_9_12) ?hit4_9_12 (fun K hK => ?gt4_9_12) AllReadyH.nil)
                case hit4_2_12 => simp only [List.getElem?_toArray, List.getElem?_cons_succ, List.getElem?_cons_zero]; rfl
                case hit4_9_12 => simp only [List.getElem?_toArray, List.getElem?_cons_succ, List.getElem?_cons_zero]; rfl
                case gt4_2_12 =>
                  go_simp
                  obtain ⟨w6, hw6⟩ : ∃ y, y = w5.alloc (.cells #[] 3) := ⟨_, rfl⟩
                  have o_R2 : (w5.alloc (.cells #[] 3)).ownsRow w4.heap.size 3 1 (.slice (some ⟨w5.heap.size, 0, none⟩) 0 0) 0 (ints .i64 []) := own_base (C6.own_ints w5 [] 0 rfl (by omega)) HN.size
                  rw [← hw6] at o_R2 ⊢
                  have bw6 : Below w5.heap.size w5 w6 := hw6 ▸ (Below.refl _ _).alloc (Nat.le_refl _) _
                  clear hw6
                  replace HN := HN.trans (bw6.mono HN.size)
                  replace o_p := owns_below o_p bw6
                  replace o_r := owns_below o_r bw6
                  replace HB := HB.trans (bw6.mono HB.size)
                  have zw6 := bw6.size
                  refine hK.out _ _ ?_ (fun hHeld => ?_)
                  · exact ⟨var_load o_p (by simp) 0 _ rfl, var_load o_p (by simp) 1 _ rfl⟩
                  clear hK K
                  try simp only [Act.put, List.setIfInBounds_toArray, List.set_cons_zero, List.set_cons_succ]
                  refine wpAnyH_ready (rs := [7, 9]) (by kernel_rfl) (by simp) ?_
                  refine AllReadyH.cons (o := ?ot4_7_13) ?hit4_7_13 (fun K hK => ?gt4_7_13) (AllReadyH.cons (o := ?ot4_9_13) ?hit4_9_13 (fun K hK => ?gt4_9_13) AllReadyH.nil)
                  case hit4_7_13 => simp only [List.getElem?_toArray, List.getElem?_cons_succ, List.getElem?_cons_zero]; rfl
                  case hit4_9_13 => simp only [List.getElem?_toArray, List.getElem?_cons_succ, List.getElem?_cons_zero]; rfl
                  case gt4_7_13 =>
                    refine Ra.stepI w6 rfl (.tmp 49) (.tmp 53) rfl (w4.heap.size) (.slice (some ⟨w5.heap.size, 0, none⟩) 0 0) (0) _ (by simp [Act.eval]) o_R2 _ (some ⟨b, off, none⟩) (k) (c) (xs.take k) (by simp [Act.eval]) (Ra.rd_take (HR.out _ HB) (by omega)) (by omega) HN.size ?_
                    intro vw7 w7 o_R7 gw7 kw7
                    have Tw7 := turned_grown gw7
                    have Qw7 : ∀ b, b ∈ Option.toList (Value.ownBlock (.slice (some ⟨w5.heap.size, 0, none⟩) 0 0)) → w4.heap.size ≤ b := fun b hb => (o_R2.lt b (by simpa using hb)).1
                    replace o_p := owns_turned o_p Tw7 (fun b hb hb2 => by have h1 := Qw7 b hb2; simp at hb; omega)
                    replace o_r := owns_turned o_r Tw7 (fun b hb hb2 => by have h1 := Qw7 b hb2; simp at hb; omega)
                    replace HN := HN.grown gw7 HN.size (fun j hj => (o_R2.lt j hj).1)
                    replace HB := below_turned HB Tw7 (fun b hb => by have h1 := Qw7 b hb; omega)
                    have zw7 := gw7.size
                    rw [ints_app] at o_R7
                    rw [Nat.zero_add, List.nil_append] at o_R7
                    obtain ⟨A7, c7, rfl⟩ := own_nil_form o_R7
                    clear o_R2 kw7 gw7
                    refine hK.out _ _ ?_ (fun hHeld => ?_)
                    · exact ⟨var_load o_p (by simp) 0 _ rfl, var_load o_p (by simp) 1 _ rfl⟩
                    clear hK K
                    try simp only [Act.put, List.setIfInBounds_toArray, List.set_cons_zero, List.set_cons_succ]
                    refine wpAnyH_ready (rs := [9]) (by kernel_rfl) (by simp) ?_
                    refine AllReadyH.cons (o := ?ot4_9_14) ?hit4_9_14 (fun K hK => ?gt4_9_14) AllReadyH.nil
                    case hit4_9_14 => simp only [List.getElem?_toArray, List.getElem?_cons_succ, List.getElem?_cons_zero]; rfl
                    case gt4_9_14 =>
                      go_simp
                      obtain ⟨w8, hw8⟩ : ∃ y, y = w7.alloc (.cells #[.int .i64 (cd)] 3) := ⟨_, rfl⟩
                      have D_R7_R9 := Ra.far_new (m := 1) (c := 1) o_R7
                      have o_R9 : (w7.alloc (.cells #[.int .i64 (cd)] 3)).ownsRow w4.heap.size 3 1 (.slice (some ⟨w7.heap.size, 0, none⟩) 1 1) 1 (ints .i64 [cd]) := own_base (C6.own_ints w7 [cd] 1 rfl (by omega)) HN.size
                      rw [← hw8] at o_R9 ⊢
                      have bw8 : Below w7.heap.size w7 w8 := hw8 ▸ (Below.refl _ _).alloc (Nat.le_refl _) _
                      clear hw8
                      replace o_R7 := own_below o_R7 bw8
                      replace HN := HN.trans (bw8.mono HN.size)
                      replace o_p := owns_below o_p bw8
                      replace o_r := owns_below o_r bw8
                      replace HB := HB.trans (bw8.mono HB.size)
                      have zw8 := bw8.size
                      refine hK.out _ _ ?_ (fun hHeld => ?_)
                      · exact ⟨var_load o_p (by simp) 0 _ rfl, var_load o_p (by simp) 1 _ rfl⟩
                      clear hK K
                      try simp only [Act.put, List.setIfInBounds_toArray, List.set_cons_zero, List.set_cons_succ]
                      refine wpAnyH_ready (rs := [10]) (by kernel_rfl) (by simp) ?_
                      refine AllReadyH.cons (o := ?ot4_10_15) ?hit4_10_15 (fun K hK => ?gt4_10_15) AllReadyH.nil
                      case hit4_10_15 => simp only [List.getElem?_toArray, List.getElem?_cons_succ, List.getElem?_cons_zero]; rfl
                      case gt4_10_15 =>
                        refine Ra.stepI w8 rfl (.tmp 54) (.tmp 56) rfl (w4.heap.size) (.slice A7 (k) c7) (k) _ (by simp [Act.eval]) o_R7 _ ((some ⟨w7.heap.size, 0, none⟩)) (1) (1) ([cd]) (by simp [Act.eval]) (Rd.own o_R9) (by omega) HN.size ?_
                        intro vw9 w9 o_R10 gw9 kw9
                        have E_R9 : Ra.Far (.slice A7 (k) c7) (.slice (some ⟨w7.heap.size, 0, none⟩) 1 1) := by first | exact D_R7_R9 | exact Ra.Far.symm D_R9_R7
                        have D_R10_R9 := Ra.far_grown o_R9 E_R9 kw9
                        replace o_R9 := Ra.far_kept o_R9 gw9 E_R9
                        clear E_R9
                        have Tw9 := turned_grown gw9
                        have Qw9 : ∀ b, b ∈ Option.toList (Value.ownBlock (.slice A7 (k) c7)) → w4.heap.size ≤ b := fun b hb => (o_R7.lt b (by simpa using hb)).1
                        replace o_p := owns_turned o_p Tw9 (fun b hb hb2 => by have h1 := Qw9 b hb2; simp at hb; omega)
                        replace o_r := owns_turned o_r Tw9 (fun b hb hb2 => by have h1 := Qw9 b hb2; simp at hb; omega)
                        replace HN := HN.grown gw9 HN.size (fun j hj => (o_R7.lt j hj).1)
                        replace HB := below_turned HB Tw9 (fun b hb => by have h1 := Qw9 b hb; omega)
                        have zw9 := gw9.size
                        rw [ints_app] at o_R10
                        obtain ⟨A10, c10, rfl⟩ := own_nil_form o_R10
                        clear o_R7 kw9 gw9
                        refine hK.out _ _ ?_ (fun hHeld => ?_)
                        · exact ⟨var_load o_p (by simp) 0 _ rfl, var_load o_p (by simp) 1 _ rfl⟩
                        clear hK K
                        try simp only [Act.put, List.setIfInBounds_toArray, List.set_cons_zero, List.set_cons_succ]
                        refine wpAnyH_ready (rs := [15]) (by kernel_rfl) (by simp) ?_
                        refine AllReadyH.cons (o := ?ot4_15_16) ?hit4_15_16 (fun K hK => ?gt4_15_16) AllReadyH.nil
                        case hit4_15_16 => simp only [List.getElem?_toArray, List.getElem?_cons_succ, List.getElem?_cons_zero]; rfl
                        case gt4_15_16 =>
                          refine Ra.stepI w9 rfl (.tmp 57) (.tmp 61) rfl (w4.heap.size) (.slice A10 (k + 1) c10) ((k + 1)) _ (by simp [Act.eval]) o_R10 _ (some ⟨b, off + k, none⟩) (n - k) (c - k) (xs.drop k) (by simp [Act.eval]) (Ra.rd_drop (HR.out _ HB) (by omega)) (by omega) HN.size ?_
                          intro vw10 w10 o_R15 gw10 kw10
                          have E_R9 : Ra.Far (.slice A10 (k + 1) c10) (.slice (some ⟨w7.heap.size, 0, none⟩) 1 1) := by first | exact D_R10_R9 | exact Ra.Far.symm D_R9_R10
                          have D_R15_R9 := Ra.far_grown o_R9 E_R9 kw10
                          replace o_R9 := Ra.far_kept o_R9 gw10 E_R9
                          clear E_R9
                          have Tw10 := turned_grown gw10
                          have Qw10 : ∀ b, b ∈ Option.toList (Value.ownBlock (.slice A10 (k + 1) c10)) → w4.heap.size ≤ b := fun b hb => (o_R10.lt b (by simpa using hb)).1
                          replace o_p := owns_turned o_p Tw10 (fun b hb hb2 => by have h1 := Qw10 b hb2; simp at hb; omega)
                          replace o_r := owns_turned o_r Tw10 (fun b hb hb2 => by have h1 := Qw10 b hb2; simp at hb; omega)
                          replace HN := HN.grown gw10 HN.size (fun j hj => (o_R10.lt j hj).1)
                          replace HB := below_turned HB Tw10 (fun b hb => by have h1 := Qw10 b hb; omega)
                          have zw10 := gw10.size
                          rw [ints_app] at o_R15
                          obtain ⟨A15, c15, rfl⟩ := own_nil_form o_R15
                          clear o_R10 kw10 gw10
                          refine hK.out _ _ ?_ (fun hHeld => ?_)
                          · exact ⟨var_load o_p (by simp) 0 _ rfl, var_load o_p (by simp) 1 _ rfl⟩
                          clear hK K
                          try simp only [Act.put, List.setIfInBounds_toArray, List.set_cons_zero, List.set_cons_succ]
                          refine wpAnyH_take (i := 16) (oi := ?oit4_16_17) (v := ?vt4_16_17) ?hit4_16_17 (by kernel_rfl) (by kernel_rfl) (by kernel_rfl) ?hQt4_16_17 (Or.inl ⟨?hwt4_16_17, ?hyt4_16_17⟩) (by assumption) ?_
                          case hit4_16_17 => simp only [List.getElem?_toArray, List.getElem?_cons_succ, List.getElem?_cons_zero]; rfl
                          case hQt4_16_17 => exact fun _ _ _ h => h
                          case hwt4_16_17 => rfl
                          case hyt4_16_17 => intro w hSw; (try dsimp only at hSw); (first | (go_simp; done) | (go_simp; with_reducible rfl))
                          try simp only [Act.put, List.setIfInBounds_toArray, List.set_cons_zero, List.set_cons_succ]
                          refine wpAnyH_ready (rs := [17]) (by kernel_rfl) (by simp) ?_
                          refine AllReadyH.cons (o := ?ot4_17_18) ?hit4_17_18 (fun K hK => ?gt4_17_18) AllReadyH.nil
                          case hit4_17_18 => simp only [List.getElem?_toArray, List.getElem?_cons_succ, List.getElem?_cons_zero]; rfl
                          case gt4_17_18 =>
                            have c_p0 : w10.cell? ⟨w.heap.size, 0, none⟩ = some (.int .i64 x.Master) := var_load o_p (by simp) 0 _ rfl
                            have f_p0 : w10.frozen? ⟨w.heap.size, 0, none⟩ = false := var_frozen o_p (by simp) 0 _ rfl
                            have c_p1 : w10.cell? ⟨w.heap.size, 1, none⟩ = some (.slice (some ⟨b, off, none⟩) n c) := var_load o_p (by simp) 1 _ rfl
                            have f_p1 : w10.frozen? ⟨w.heap.size, 1, none⟩ = false := var_frozen o_p (by simp) 1 _ rfl
                            have l_p := var_lt o_p
                            have c_r0 : w10.cell? ⟨(w.heap.size + 1), 0, none⟩ = some (.int .i64 0) := var_load o_r (by simp) 0 _ rfl
                            have f_r0 : w10.frozen? ⟨(w.heap.size + 1), 0, none⟩ = false := var_frozen o_r (by simp) 0 _ rfl
                            have c_r1 : w10.cell? ⟨(w.heap.size + 1), 1, none⟩ = some (.slice none 0 0) := var_load o_r (by simp) 1 _ rfl
                            have f_r1 : w10.frozen? ⟨(w.heap.size + 1), 1, none⟩ = false := var_frozen o_r (by simp) 1 _ rfl
                            have l_r := var_lt o_r
                            go_simp
                            clear c_p0 f_p0 c_p1 f_p1 l_p c_r0 f_r0 c_r1 f_r1 l_r
                            obtain ⟨w11, hw11⟩ : ∃ y, y = ((w10.setCell ⟨(w.heap.size + 1), 0, none⟩ (.int .i64 x.Master)).setCell ⟨(w.heap.size + 1), 1, none⟩ (.slice A15 ((k + 1) + (n - k)) c15)) := ⟨_, rfl⟩
                            obtain ⟨o_new, tw11⟩ := var_some [.int .i64 x.Master, .slice A15 ((k + 1) + (n - k)) c15] 0 _ _ o_r (by simp)
                            rw [show setAll w10 ((w.heap.size + 1)) 0 [.int .i64 x.Master, .slice A15 ((k + 1) + (n - k)) c15] = w11 from hw11.symm] at o_new tw11
                            replace o_r : Owns w11 _ (varD 27 2 [.int .i64 x.Master, .slice A15 ((k + 1) + (n - k)) c15]) _ _ := o_new
                            clear o_new
                            replace o_p := owns_turned o_p tw11 (fun b hb hb2 => by simp at hb hb2; omega)
                            replace HB := below_turned HB tw11 (fun b hb => by simp at hb; omega)
                            have zw11 := tw11.2.2.2.1
                            rw [← hw11]
                            clear hw11
                            replace o_R9 := (flat_owns (owns_turned (owns_flat o_R9) tw11 (fun b hb hb2 => by have h1 := (o_R9.lt b (by simpa using hb)).1; simp at hb2; omega))).1
                            replace o_R15 := (flat_owns (owns_turned (owns_flat o_R15) tw11 (fun b hb hb2 => by have h1 := (o_R15.lt b (by simpa using hb)).1; simp at hb2; omega))).1
                            refine hK.out _ _ ?_ (fun hHeld => ?_)
                            · exact ⟨var_load o_p (by simp) 0 _ rfl, var_load o_p (by simp) 1 _ rfl⟩
                            clear hK K
                            try simp only [Act.put, List.setIfInBounds_toArray, List.set_cons_zero, List.set_cons_succ]
                            refine wpAnyH_take (i := 18) (oi := ?oit4_18_19) (v := ?vt4_18_19) ?hit4_18_19 (by kernel_rfl) (by kernel_rfl) (by kernel_rfl) ?hQt4_18_19 (Or.inl ⟨?hwt4_18_19, ?hyt4_18_19⟩) (by assumption) ?_
                            case hit4_18_19 => simp only [List.getElem?_toArray, List.getElem?_cons_succ, List.getElem?_cons_zero]; rfl
                            case hQt4_18_19 => exact fun _ _ _ h => h
                            case hwt4_18_19 => rfl
                            case hyt4_18_19 => intro w hSw; (try dsimp only at hSw); (first | (go_simp; done) | (go_simp; with_reducible rfl))
                            try simp only [Act.put, List.setIfInBounds_toArray, List.set_cons_zero, List.set_cons_succ]
                            refine wpAnyH_done (by kernel_rfl) ?_ _
                            go_wp2
                            have o_z := owns_flat (own_base o_R15 (show w.heap.size ≤ w4.heap.size by omega))
                            have y0 : w11.cell? ⟨(w.heap.size + 1), 0, none⟩ = some (.int .i64 x.Master) := var_load o_r (by simp) 0 _ rfl
                            have y1 : w11.cell? ⟨(w.heap.size + 1), 1, none⟩ = some (.slice A15 ((k + 1) + (n - k)) c15) := var_load o_r (by simp) 1 _ rfl
                            refine bodyPost_ret (v := .tuple #[.agg #[.int .i64 x.Master, .slice A15 ((k + 1) + (n - k)) c15], .bool true]) (by simp [results, Try.results32, go_sem, y0, y1]) rfl ?_
                            exact made_rv (x := ⟨x.Master, ins x.Revoked (v * 10000000 + s)⟩) (by show _ = ins x.Revoked _; rw [← HXS.out, ← HCD.out, HI.out]; simp) rfl (by have := HL.out; simp; try omega) o_z (Ra.block_nodup _) HB
                  case gt4_9_13 =>
                    go_simp
                    obtain ⟨w7, hw7⟩ : ∃ y, y = w6.alloc (.cells #[.int .i64 (cd)] 3) := ⟨_, rfl⟩
                    have D_R2_R9 := Ra.far_new (m := 1) (c := 1) o_R2
                    have o_R9 : (w6.alloc (.cells #[.int .i64 (cd)] 3)).ownsRow w4.heap.size 3 1 (.slice (some ⟨w6.heap.size, 0, none⟩) 1 1) 1 (ints .i64 [cd]) := own_base (C6.own_ints w6 [cd] 1 rfl (by omega)) HN.size
                    rw [← hw7] at o_R9 ⊢
                    have bw7 : Below w6.heap.size w6 w7 := hw7 ▸ (Below.refl _ _).alloc (Nat.le_refl _) _
                    clear hw7
                    replace o_R2 := own_below o_R2 bw7
                    replace HN := HN.trans (bw7.mono HN.size)
                    replace o_p := owns_below o_p bw7
                    replace o_r := owns_below o_r bw7
                    replace HB := HB.trans (bw7.mono HB.size)
                    have zw7 := bw7.size
                    refine hK.out _ _ ?_ (fun hHeld => ?_)
                    · exact ⟨var_load o_p (by simp) 0 _ rfl, var_load o_p (by simp) 1 _ rfl⟩
                    clear hK K
                    try simp only [Act.put, List.setIfInBounds_toArray, List.set_cons_zero, List.set_cons_succ]
                    refine wpAnyH_ready (rs := [7]) (by kernel_rfl) (by simp) ?_
                    refine AllReadyH.cons (o := ?ot4_7_20) ?hit4_7_20 (fun K hK => ?gt4_7_20) AllReadyH.nil
                    case hit4_7_20 => simp only [List.getElem?_toArray, List.getElem?_cons_succ, List.getElem?_cons_zero]; rfl
                    case gt4_7_20 =>
                      refine Ra.stepI w7 rfl (.tmp 49) (.tmp 53) rfl (w4.heap.size) (.slice (some ⟨w5.heap.size, 0, none⟩) 0 0) (0) _ (by simp [Act.eval]) o_R2 _ (some ⟨b, off, none⟩) (k) (c) (xs.take k) (by simp [Act.eval]) (Ra.rd_take (HR.out _ HB) (by omega)) (by omega) HN.size ?_
                      intro vw8 w8 o_R7 gw8 kw8
                      have E_R9 : Ra.Far (.slice (some ⟨w5.heap.size, 0, none⟩) 0 0) (.slice (some ⟨w6.heap.size, 0, none⟩) 1 1) := by first | exact D_R2_R9 | exact Ra.Far.symm D_R9_R2
                      have D_R7_R9 := Ra.far_grown o_R9 E_R9 kw8
                      replace o_R9 := Ra.far_kept o_R9 gw8 E_R9
                      clear E_R9
                      have Tw8 := turned_grown gw8
                      have Qw8 : ∀ b, b ∈ Option.toList (Value.ownBlock (.slice (some ⟨w5.heap.size, 0, none⟩) 0 0)) → w4.heap.size ≤ b := fun b hb => (o_R2.lt b (by simpa using hb)).1
                      replace o_p := owns_turned o_p Tw8 (fun b hb hb2 => by have h1 := Qw8 b hb2; simp at hb; omega)
                      replace o_r := owns_turned o_r Tw8 (fun b hb hb2 => by have h1 := Qw8 b hb2; simp at hb; omega)
                      replace HN := HN.grown gw8 HN.size (fun j hj => (o_R2.lt j hj).1)
                      replace HB := below_turned HB Tw8 (fun b hb => by have h1 := Qw8 b hb; omega)
                      have zw8 := gw8.size
                      rw [ints_app] at o_R7
                      rw [Nat.zero_add, List.nil_append] at o_R7
                      obtain ⟨A7, c7, rfl⟩ := own_nil_form o_R7
                      clear o_R2 kw8 gw8
                      refine hK.out _ _ ?_ (fun hHeld => ?_)
                      · exact ⟨var_load o_p (by simp) 0 _ rfl, var_load o_p (by simp) 1 _ rfl⟩
                      clear hK K
                      try simp only [Act.put, List.setIfInBounds_toArray, List.set_cons_zero, List.set_cons_succ]
                      refine wpAnyH_ready (rs := [10]) (by kernel_rfl) (by simp) ?_
                      refine AllReadyH.cons (o := ?ot4_10_21) ?hit4_10_21 (fun K hK => ?gt4_10_21) AllReadyH.nil
                      case hit4_10_21 => simp only [List.getElem?_toArray, List.getElem?_cons_succ, List.getElem?_cons_zero]; rfl
                      case gt4_10_21 =>
                        refine Ra.stepI w8 rfl (.tmp 54) (.tmp 56) rfl (w4.heap.size) (.slice A7 (k) c7) (k) _ (by simp [Act.eval]) o_R7 _ ((some ⟨w6.heap.size, 0, none⟩)) (1) (1) ([cd]) (by simp [Act.eval]) (Rd.own o_R9) (by omega) HN.size ?_
                        intro vw9 w9 o_R10 gw9 kw9
                        have E_R9 : Ra.Far (.slice A7 (k) c7) (.slice (some ⟨w6.heap.size, 0, none⟩) 1 1) := by first | exact D_R7_R9 | exact Ra.Far.symm D_R9_R7
                        have D_R10_R9 := Ra.far_grown o_R9 E_R9 kw9
                        replace o_R9 := Ra.far_kept o_R9 gw9 E_R9
                        clear E_R9
                        have Tw9 := turned_grown gw9
                        have Qw9 : ∀ b, b ∈ Option.toList (Value.ownBlock (.slice A7 (k) c7)) → w4.heap.size ≤ b := fun b hb => (o_R7.lt b (by simpa using hb)).1
                        replace o_p := owns_turned o_p Tw9 (fun b hb hb2 => by have h1 := Qw9 b hb2; simp at hb; omega)
                        replace o_r := owns_turned o_r Tw9 (fun b hb hb2 => by have h1 := Qw9 b hb2; simp at hb; omega)
                        replace HN := HN.grown gw9 HN.size (fun j hj => (o_R7.lt j hj).1)
                        replace HB := below_turned HB Tw9 (fun b hb => by have h1 := Qw9 b hb; omega)
                        have zw9 := gw9.size
                        rw [ints_app] at o_R10
                        obtain ⟨A10, c10, rfl⟩ := own_nil_form o_R10
                        clear o_R7 kw9 gw9
                        refine hK.out _ _ ?_ (fun hHeld => ?_)
                        · exact ⟨var_load o_p (by simp) 0 _ rfl, var_load o_p (by simp) 1 _ rfl⟩
                        clear hK K
                        try simp only [Act.put, List.setIfInBounds_toArray, List.set_cons_zero, List.set_cons_succ]
                        refine wpAnyH_ready (rs := [15]) (by kernel_rfl) (by simp) ?_
                        refine AllReadyH.cons (o := ?ot4_15_22) ?hit4_15_22 (fun K hK => ?gt4_15_22) AllReadyH.nil
                        case hit4_15_22 => simp only [List.getElem?_toArray, List.getElem?_cons_succ, List.getElem?_cons_zero]; rfl
                        case gt4_15_22 =>
                          refine Ra.stepI w9 rfl (.tmp 57) (.tmp 61) rfl (w4.heap.size) (.slice A10 (k + 1) c10) ((k + 1)) _ (by simp [Act.eval]) o_R10 _ (some ⟨b, off + k, none⟩) (n - k) (c - k) (xs.drop k) (by simp [Act.eval]) (Ra.rd_drop (HR.out _ HB) (by omega)) (by omega) HN.size ?_
                          intro vw10 w10 o_R15 gw10 kw10
                          have E_R9 : Ra.Far (.slice A10 (k + 1) c10) (.slice (some ⟨w6.heap.size, 0, none⟩) 1 1) := by first | exact D_R10_R9 | exact Ra.Far.symm D_R9_R10
                          have D_R15_R9 := Ra.far_grown o_R9 E_R9 kw10
                          replace o_R9 := Ra.far_kept o_R9 gw10 E_R9
                          clear E_R9
                          have Tw10 := turned_grown gw10
                          have Qw10 : ∀ b, b ∈ Option.toList (Value.ownBlock (.slice A10 (k + 1) c10)) → w4.heap.size ≤ b := fun b hb => (o_R10.lt b (by simpa using hb)).1
                          replace o_p := owns_turned o_p Tw10 (fun b hb hb2 => by have h1 := Qw10 b hb2; simp at hb; omega)
                          replace o_r := owns_turned o_r Tw10 (fun b hb hb2 => by have h1 := Qw10 b hb2; simp at hb; omega)
                          replace HN := HN.grown gw10 HN.size (fun j hj => (o_R10.lt j hj).1)
                          replace HB := below_turned HB Tw10 (fun b hb => by have h1 := Qw10 b hb; omega)
                          have zw10 := gw10.size
                          rw [ints_app] at o_R15
                          obtain ⟨A15, c15, rfl⟩ := own_nil_form o_R15
                          clear o_R10 kw10 gw10
                          refine hK.out _ _ ?_ (fun hHeld => ?_)
                          · exact ⟨var_load o_p (by simp) 0 _ rfl, var_load o_p (by simp) 1 _ rfl⟩
                          clear hK K
                          try simp only [Act.put, List.setIfInBounds_toArray, List.set_cons_zero, List.set_cons_succ]
                          refine wpAnyH_take (i := 16) (oi := ?oit4_16_23) (v := ?vt4_16_23) ?hit4_16_23 (by kernel_rfl) (by kernel_rfl) (by kernel_rfl) ?hQt4_16_23 (Or.inl ⟨?hwt4_16_23, ?hyt4_16_23⟩) (by assumption) ?_
                          case hit4_16_23 => simp only [List.getElem?_toArray, List.getElem?_cons_succ, List.getElem?_cons_zero]; rfl
                          case hQt4_16_23 => exact fun _ _ _ h => h
                          case hwt4_16_23 => rfl
                          case hyt4_16_23 => intro w hSw; (try dsimp only at hSw); (first | (go_simp; done) | (go_simp; with_reducible rfl))
                          try simp only [Act.put, List.setIfInBounds_toArray, List.set_cons_zero, List.set_cons_succ]
                          refine wpAnyH_ready (rs := [17]) (by kernel_rfl) (by simp) ?_
                          refine AllReadyH.cons (o := ?ot4_17_24) ?hit4_17_24 (fun K hK => ?gt4_17_24) AllReadyH.nil
                          case hit4_17_24 => simp only [List.getElem?_toArray, List.getElem?_cons_succ, List.getElem?_cons_zero]; rfl
                          case gt4_17_24 =>
                            have c_p0 : w10.cell? ⟨w.heap.size, 0, none⟩ = some (.int .i64 x.Master) := var_load o_p (by simp) 0 _ rfl
                            have f_p0 : w10.frozen? ⟨w.heap.size, 0, none⟩ = false := var_frozen o_p (by simp) 0 _ rfl
                            have c_p1 : w10.cell? ⟨w.heap.size, 1, none⟩ = some (.slice (some ⟨b, off, none⟩) n c) := var_load o_p (by simp) 1 _ rfl
                            have f_p1 : w10.frozen? ⟨w.heap.size, 1, none⟩ = false := var_frozen o_p (by simp) 1 _ rfl
                            have l_p := var_lt o_p
                            have c_r0 : w10.cell? ⟨(w.heap.size + 1), 0, none⟩ = some (.int .i64 0) := var_load o_r (by simp) 0 _ rfl
                            have f_r0 : w10.frozen? ⟨(w.heap.size + 1), 0, none⟩ = false := var_frozen o_r (by simp) 0 _ rfl
                            have c_r1 : w10.cell? ⟨(w.heap.size + 1), 1, none⟩ = some (.slice none 0 0) := var_load o_r (by simp) 1 _ rfl
                            have f_r1 : w10.frozen? ⟨(w.heap.size + 1), 1, none⟩ = false := var_frozen o_r (by simp) 1 _ rfl
                            have l_r := var_lt o_r
                            go_simp
                            clear c_p0 f_p0 c_p1 f_p1 l_p c_r0 f_r0 c_r1 f_r1 l_r
                            obtain ⟨w11, hw11⟩ : ∃ y, y = ((w10.setCell ⟨(w.heap.size + 1), 0, none⟩ (.int .i64 x.Master)).setCell ⟨(w.heap.size + 1), 1, none⟩ (.slice A15 ((k + 1) + (n - k)) c15)) := ⟨_, rfl⟩
                            obtain ⟨o_new, tw11⟩ := var_some [.int .i64 x.Master, .slice A15 ((k + 1) + (n - k)) c15] 0 _ _ o_r (by simp)
                            rw [show setAll w10 ((w.heap.size + 1)) 0 [.int .i64 x.Master, .slice A15 ((k + 1) + (n - k)) c15] = w11 from hw11.symm] at o_new tw11
                            replace o_r : Owns w11 _ (varD 27 2 [.int .i64 x.Master, .slice A15 ((k + 1) + (n - k)) c15]) _ _ := o_new
                            clear o_new
                            replace o_p := owns_turned o_p tw11 (fun b hb hb2 => by simp at hb hb2; omega)
                            replace HB := below_turned HB tw11 (fun b hb => by simp at hb; omega)
                            have zw11 := tw11.2.2.2.1
                            rw [← hw11]
                            clear hw11
                            replace o_R9 := (flat_owns (owns_turned (owns_flat o_R9) tw11 (fun b hb hb2 => by have h1 := (o_R9.lt b (by simpa using hb)).1; simp at hb2; omega))).1
                            replace o_R15 := (flat_owns (owns_turned (owns_flat o_R15) tw11 (fun b hb hb2 => by have h1 := (o_R15.lt b (by simpa using hb)).1; simp at hb2; omega))).1
                            refine hK.out _ _ ?_ (fun hHeld => ?_)
                            · exact ⟨var_load o_p (by simp) 0 _ rfl, var_load o_p (by simp) 1 _ rfl⟩
                            clear hK K
                            try simp only [Act.put, List.setIfInBounds_toArray, List.set_cons_zero, List.set_cons_succ]
                            refine wpAnyH_take (i := 18) (oi := ?oit4_18_25) (v := ?vt4_18_25) ?hit4_18_25 (by kernel_rfl) (by kernel_rfl) (by kernel_rfl) ?hQt4_18_25 (Or.inl ⟨?hwt4_18_25, ?hyt4_18_25⟩) (by assumption) ?_
                            case hit4_18_25 => simp only [List.getElem?_toArray, List.getElem?_cons_succ, List.getElem?_cons_zero]; rfl
                            case hQt4_18_25 => exact fun _ _ _ h => h
                            case hwt4_18_25 => rfl
                            case hyt4_18_25 => intro w hSw; (try dsimp only at hSw); (first | (go_simp; done) | (go_simp; with_reducible rfl))
                            try simp only [Act.put, List.setIfInBounds_toArray, List.set_cons_zero, List.set_cons_succ]
                            refine wpAnyH_done (by kernel_rfl) ?_ _
                            go_wp2
                            have o_z := owns_flat (own_base o_R15 (show w.heap.size ≤ w4.heap.size by omega))
                            have y0 : w11.cell? ⟨(w.heap.size + 1), 0, none⟩ = some (.int .i64 x.Master) := var_load o_r (by simp) 0 _ rfl
                            have y1 : w11.cell? ⟨(w.heap.size + 1), 1, none⟩ = some (.slice A15 ((k + 1) + (n - k)) c15) := var_load o_r (by simp) 1 _ rfl
                            refine bodyPost_ret (v := .tuple #[.agg #[.int .i64 x.Master, .slice A15 ((k + 1) + (n - k)) c15], .bool true]) (by simp [results, Try.results32, go_sem, y0, y1]) rfl ?_
                            exact made_rv (x := ⟨x.Master, ins x.Revoked (v * 10000000 + s)⟩) (by show _ = ins x.Revoked _; rw [← HXS.out, ← HCD.out, HI.out]; simp) rfl (by have := HL.out; simp; try omega) o_z (Ra.block_nodup _) HB
                case gt4_9_12 =>
                  go_simp
                  obtain ⟨w6, hw6⟩ : ∃ y, y = w5.alloc (.cells #[.int .i64 (cd)] 3) := ⟨_, rfl⟩
                  have o_R9 : (w5.alloc (.cells #[.int .i64 (cd)] 3)).ownsRow w4.heap.size 3 1 (.slice (some ⟨w5.heap.size, 0, none⟩) 1 1) 1 (ints .i64 [cd]) := own_base (C6.own_ints w5 [cd] 1 rfl (by omega)) HN.size
                  rw [← hw6] at o_R9 ⊢
                  have bw6 : Below w5.heap.size w5 w6 := hw6 ▸ (Below.refl _ _).alloc (Nat.le_refl _) _
                  clear hw6
                  replace HN := HN.trans (bw6.mono HN.size)
                  replace o_p := owns_below o_p bw6
                  replace o_r := owns_below o_r bw6
                  replace HB := HB.trans (bw6.mono HB.size)
                  have zw6 := bw6.size
                  refine hK.out _ _ ?_ (fun hHeld => ?_)
                  · exact ⟨var_load o_p (by simp) 0 _ rfl, var_load o_p (by simp) 1 _ rfl⟩
                  clear hK K
                  try simp only [Act.put, List.setIfInBounds_toArray, List.set_cons_zero, List.set_cons_succ]
                  refine wpAnyH_ready (rs := [2]) (by kernel_rfl) (by simp) ?_
                  refine AllReadyH.cons (o := ?ot4_2_26) ?hit4_2_26 (fun K hK => ?gt4_2_26) AllReadyH.nil
                  case hit4_2_26 => simp only [List.getElem?_toArray, List.getElem?_cons_succ, List.getElem?_cons_zero]; rfl
                  case gt4_2_26 =>
                    go_simp
                    obtain ⟨w7, hw7⟩ : ∃ y, y = w6.alloc (.cells #[] 3) := ⟨_, rfl⟩
                    have D_R9_R2 := Ra.far_new (m := 0) (c := 0) o_R9
                    have o_R2 : (w6.alloc (.cells #[] 3)).ownsRow w4.heap.size 3 1 (.slice (some ⟨w6.heap.size, 0, none⟩) 0 0) 0 (ints .i64 []) := own_base (C6.own_ints w6 [] 0 rfl (by omega)) HN.size
                    rw [← hw7] at o_R2 ⊢
                    have bw7 : Below w6.heap.size w6 w7 := hw7 ▸ (Below.refl _ _).alloc (Nat.le_refl _) _
                    clear hw7
                    replace o_R9 := own_below o_R9 bw7
                    replace HN := HN.trans (bw7.mono HN.size)
                    replace o_p := owns_below o_p bw7
                    replace o_r := owns_below o_r bw7
                    replace HB := HB.trans (bw7.mono HB.size)
                    have zw7 := bw7.size
                    refine hK.out _ _ ?_ (fun hHeld => ?_)
                    · exact ⟨var_load o_p (by simp) 0 _ rfl, var_load o_p (by simp) 1 _ rfl⟩
                    clear hK K
                    try simp only [Act.put, List.setIfInBounds_toArray, List.set_cons_zero, List.set_cons_succ]
                    refine wpAnyH_ready (rs := [7]) (by kernel_rfl) (by simp) ?_
                    refine AllReadyH.cons (o := ?ot4_7_27) ?hit4_7_27 (fun K hK => ?gt4_7_27) AllReadyH.nil
                    case hit4_7_27 => simp only [List.getElem?_toArray, List.getElem?_cons_succ, List.getElem?_cons_zero]; rfl
                    case gt4_7_27 =>
                      refine Ra.stepI w7 rfl (.tmp 49) (.tmp 53) rfl (w4.heap.size) (.slice (some ⟨w6.heap.size, 0, none⟩) 0 0) (0) _ (by simp [Act.eval]) o_R2 _ (some ⟨b, off, none⟩) (k) (c) (xs.take k) (by simp [Act.eval]) (Ra.rd_take (HR.out _ HB) (by omega)) (by omega) HN.size ?_
                      intro vw8 w8 o_R7 gw8 kw8
                      have E_R9 : Ra.Far (.slice (some ⟨w6.heap.size, 0, none⟩) 0 0) (.slice (some ⟨w5.heap.size, 0, none⟩) 1 1) := by first | exact D_R2_R9 | exact Ra.Far.symm D_R9_R2
                      have D_R7_R9 := Ra.far_grown o_R9 E_R9 kw8
                      replace o_R9 := Ra.far_kept o_R9 gw8 E_R9
                      clear E_R9
                      have Tw8 := turned_grown gw8
                      have Qw8 : ∀ b, b ∈ Option.toList (Value.ownBlock (.slice (some ⟨w6.heap.size, 0, none⟩) 0 0)) → w4.heap.size ≤ b := fun b hb => (o_R2.lt b (by simpa using hb)).1
                      replace o_p := owns_turned o_p Tw8 (fun b hb hb2 => by have h1 := Qw8 b hb2; simp at hb; omega)
                      replace o_r := owns_turned o_r Tw8 (fun b hb hb2 => by have h1 := Qw8 b hb2; simp at hb; omega)
                      replace HN := HN.grown gw8 HN.size (fun j hj => (o_R2.lt j hj).1)
                      replace HB := below_turned HB Tw8 (fun b hb => by have h1 := Qw8 b hb; omega)
                      have zw8 := gw8.size
                      rw [ints_app] at o_R7
                      rw [Nat.zero_add, List.nil_append] at o_R7
                      obtain ⟨A7, c7, rfl⟩ := own_nil_form o_R7
                      clear o_R2 kw8 gw8
                      refine hK.out _ _ ?_ (fun hHeld => ?_)
                      · exact ⟨var_load o_p (by simp) 0 _ rfl, var_load o_p (by simp) 1 _ rfl⟩
                      clear hK K
                      try simp only [Act.put, List.setIfInBounds_toArray, List.set_cons_zero, List.set_cons_succ]
                      refine wpAnyH_ready (rs := [10]) (by kernel_rfl) (by simp) ?_
                      refine AllReadyH.cons (o := ?ot4_10_28) ?hit4_10_28 (fun K hK => ?gt4_10_28) AllReadyH.nil
                      case hit4_10_28 => simp only [List.getElem?_toArray, List.getElem?_cons_succ, List.getElem?_cons_zero]; rfl
                      case gt4_10_28 =>
                        refine Ra.stepI w8 rfl (.tmp 54) (.tmp 56) rfl (w4.heap.size) (.slice A7 (k) c7) (k) _ (by simp [Act.eval]) o_R7 _ ((some ⟨w5.heap.size, 0, none⟩)) (1) (1) ([cd]) (by simp [Act.eval]) (Rd.own o_R9) (by omega) HN.size ?_
                        intro vw9 w9 o_R10 gw9 kw9
                        have E_R9 : Ra.Far (.slice A7 (k) c7) (.slice (some ⟨w5.heap.size, 0, none⟩) 1 1) := by first | exact D_R7_R9 | exact Ra.Far.symm D_R9_R7
                        have D_R10_R9 := Ra.far_grown o_R9 E_R9 kw9
                        replace o_R9 := Ra.far_kept o_R9 gw9 E_R9
                        clear E_R9
                        have Tw9 := turned_grown gw9
                        have Qw9 : ∀ b, b ∈ Option.toList (Value.ownBlock (.slice A7 (k) c7)) → w4.heap.size ≤ b := fun b hb => (o_R7.lt b (by simpa using hb)).1
                        replace o_p := owns_turned o_p Tw9 (fun b hb hb2 => by have h1 := Qw9 b hb2; simp at hb; omega)
                        replace o_r := owns_turned o_r Tw9 (fun b hb hb2 => by have h1 := Qw9 b hb2; simp at hb; omega)
                        replace HN := HN.grown gw9 HN.size (fun j hj => (o_R7.lt j hj).1)
                        replace HB := below_turned HB Tw9 (fun b hb => by have h1 := Qw9 b hb; omega)
                        have zw9 := gw9.size
                        rw [ints_app] at o_R10
                        obtain ⟨A10, c10, rfl⟩ := own_nil_form o_R10
                        clear o_R7 kw9 gw9
                        refine hK.out _ _ ?_ (fun hHeld => ?_)
                        · exact ⟨var_load o_p (by simp) 0 _ rfl, var_load o_p (by simp) 1 _ rfl⟩
                        clear hK K
                        try simp only [Act.put, List.setIfInBounds_toArray, List.set_cons_zero, List.set_cons_succ]
                        refine wpAnyH_ready (rs := [15]) (by kernel_rfl) (by simp) ?_
                        refine AllReadyH.cons (o := ?ot4_15_29) ?hit4_15_29 (fun K hK => ?gt4_15_29) AllReadyH.nil
                        case hit4_15_29 => simp only [List.getElem?_toArray, List.getElem?_cons_succ, List.getElem?_cons_zero]; rfl
                        case gt4_15_29 =>
                          refine Ra.stepI w9 rfl (.tmp 57) (.tmp 61) rfl (w4.heap.size) (.slice A10 (k + 1) c10) ((k + 1)) _ (by simp [Act.eval]) o_R10 _ (some ⟨b, off + k, none⟩) (n - k) (c - k) (xs.drop k) (by simp [Act.eval]) (Ra.rd_drop (HR.out _ HB) (by omega)) (by omega) HN.size ?_
                          intro vw10 w10 o_R15 gw10 kw10
                          have E_R9 : Ra.Far (.slice A10 (k + 1) c10) (.slice (some ⟨w5.heap.size, 0, none⟩) 1 1) := by first | exact D_R10_R9 | exact Ra.Far.symm D_R9_R10
                          have D_R15_R9 := Ra.far_grown o_R9 E_R9 kw10
                          replace o_R9 := Ra.far_kept o_R9 gw10 E_R9
                          clear E_R9
                          have Tw10 := turned_grown gw10
                          have Qw10 : ∀ b, b ∈ Option.toList (Value.ownBlock (.slice A10 (k + 1) c10)) → w4.heap.size ≤ b := fun b hb => (o_R10.lt b (by simpa using hb)).1
                          replace o_p := owns_turned o_p Tw10 (fun b hb hb2 => by have h1 := Qw10 b hb2; simp at hb; omega)
                          replace o_r := owns_turned o_r Tw10 (fun b hb hb2 => by have h1 := Qw10 b hb2; simp at hb; omega)
                          replace HN := HN.grown gw10 HN.size (fun j hj => (o_R10.lt j hj).1)
                          replace HB := below_turned HB Tw10 (fun b hb => by have h1 := Qw10 b hb; omega)
                          have zw10 := gw10.size
                          rw [ints_app] at o_R15
                          obtain ⟨A15, c15, rfl⟩ := own_nil_form o_R15
                          clear o_R10 kw10 gw10
                          refine hK.out _ _ ?_ (fun hHeld => ?_)
                          · exact ⟨var_load o_p (by simp) 0 _ rfl, var_load o_p (by simp) 1 _ rfl⟩
                          clear hK K
                          try simp only [Act.put, List.setIfInBounds_toArray, List.set_cons_zero, List.set_cons_succ]
                          refine wpAnyH_take (i := 16) (oi := ?oit4_16_30) (v := ?vt4_16_30) ?hit4_16_30 (by kernel_rfl) (by kernel_rfl) (by kernel_rfl) ?hQt4_16_30 (Or.inl ⟨?hwt4_16_30, ?hyt4_16_30⟩) (by assumption) ?_
                          case hit4_16_30 => simp only [List.getElem?_toArray, List.getElem?_cons_succ, List.getElem?_cons_zero]; rfl
                          case hQt4_16_30 => exact fun _ _ _ h => h
                          case hwt4_16_30 => rfl
                          case hyt4_16_30 => intro w hSw; (try dsimp only at hSw); (first | (go_simp; done) | (go_simp; with_reducible rfl))
                          try simp only [Act.put, List.setIfInBounds_toArray, List.set_cons_zero, List.set_cons_succ]
                          refine wpAnyH_ready (rs := [17]) (by kernel_rfl) (by simp) ?_
                          refine AllReadyH.cons (o := ?ot4_17_31) ?hit4_17_31 (fun K hK => ?gt4_17_31) AllReadyH.nil
                          case hit4_17_31 => simp only [List.getElem?_toArray, List.getElem?_cons_succ, List.getElem?_cons_zero]; rfl
                          case gt4_17_31 =>
                            have c_p0 : w10.cell? ⟨w.heap.size, 0, none⟩ = some (.int .i64 x.Master) := var_load o_p (by simp) 0 _ rfl
                            have f_p0 : w10.frozen? ⟨w.heap.size, 0, none⟩ = false := var_frozen o_p (by simp) 0 _ rfl
                            have c_p1 : w10.cell? ⟨w.heap.size, 1, none⟩ = some (.slice (some ⟨b, off, none⟩) n c) := var_load o_p (by simp) 1 _ rfl
                            have f_p1 : w10.frozen? ⟨w.heap.size, 1, none⟩ = false := var_frozen o_p (by simp) 1 _ rfl
                            have l_p := var_lt o_p
                            have c_r0 : w10.cell? ⟨(w.heap.size + 1), 0, none⟩ = some (.int .i64 0) := var_load o_r (by simp) 0 _ rfl
                            have f_r0 : w10.frozen? ⟨(w.heap.size + 1), 0, none⟩ = false := var_frozen o_r (by simp) 0 _ rfl
                            have c_r1 : w10.cell? ⟨(w.heap.size + 1), 1, none⟩ = some (.slice none 0 0) := var_load o_r (by simp) 1 _ rfl
                            have f_r1 : w10.frozen? ⟨(w.heap.size + 1), 1, none⟩ = false := var_frozen o_r (by simp) 1 _ rfl
                            have l_r := var_lt o_r
                            go_simp
                            clear c_p0 f_p0 c_p1 f_p1 l_p c_r0 f_r0 c_r1 f_r1 l_r
                            obtain ⟨w11, hw11⟩ : ∃ y, y = ((w10.setCell ⟨(w.heap.size + 1), 0, none⟩ (.int .i64 x.Master)).setCell ⟨(w.heap.size + 1), 1, none⟩ (.slice A15 ((k + 1) + (n - k)) c15)) := ⟨_, rfl⟩
                            obtain ⟨o_new, tw11⟩ := var_some [.int .i64 x.Master, .slice A15 ((k + 1) + (n - k)) c15] 0 _ _ o_r (by simp)
                            rw [show setAll w10 ((w.heap.size + 1)) 0 [.int .i64 x.Master, .slice A15 ((k + 1) + (n - k)) c15] = w11 from hw11.symm] at o_new tw11
                            replace o_r : Owns w11 _ (varD 27 2 [.int .i64 x.Master, .slice A15 ((k + 1) + (n - k)) c15]) _ _ := o_new
                            clear o_new
                            replace o_p := owns_turned o_p tw11 (fun b hb hb2 => by simp at hb hb2; omega)
                            replace HB := below_turned HB tw11 (fun b hb => by simp at hb; omega)
                            have zw11 := tw11.2.2.2.1
                            rw [← hw11]
                            clear hw11
                            replace o_R9 := (flat_owns (owns_turned (owns_flat o_R9) tw11 (fun b hb hb2 => by have h1 := (o_R9.lt b (by simpa using hb)).1; simp at hb2; omega))).1
                            replace o_R15 := (flat_owns (owns_turned (owns_flat o_R15) tw11 (fun b hb hb2 => by have h1 := (o_R15.lt b (by simpa using hb)).1; simp at hb2; omega))).1
                            refine hK.out _ _ ?_ (fun hHeld => ?_)
                            · exact ⟨var_load o_p (by simp) 0 _ rfl, var_load o_p (by simp) 1 _ rfl⟩
                            clear hK K
                            try simp only [Act.put, List.setIfInBounds_toArray, List.set_cons_zero, List.set_cons_succ]
                            refine wpAnyH_take (i := 18) (oi := ?oit4_18_32) (v := ?vt4_18_32) ?hit4_18_32 (by kernel_rfl) (by kernel_rfl) (by kernel_rfl) ?hQt4_18_32 (Or.inl ⟨?hwt4_18_32, ?hyt4_18_32⟩) (by assumption) ?_
                            case hit4_18_32 => simp only [List.getElem?_toArray, List.getElem?_cons_succ, List.getElem?_cons_zero]; rfl
                            case hQt4_18_32 => exact fun _ _ _ h => h
                            case hwt4_18_32 => rfl
                            case hyt4_18_32 => intro w hSw; (try dsimp only at hSw); (first | (go_simp; done) | (go_simp; with_reducible rfl))
                            try simp only [Act.put, List.setIfInBounds_toArray, List.set_cons_zero, List.set_cons_succ]
                            refine wpAnyH_done (by kernel_rfl) ?_ _
                            go_wp2
                            have o_z := owns_flat (own_base o_R15 (show w.heap.size ≤ w4.heap.size by omega))
                            have y0 : w11.cell? ⟨(w.heap.size + 1), 0, none⟩ = some (.int .i64 x.Master) := var_load o_r (by simp) 0 _ rfl
                            have y1 : w11.cell? ⟨(w.heap.size + 1), 1, none⟩ = some (.slice A15 ((k + 1) + (n - k)) c15) := var_load o_r (by simp) 1 _ rfl
                            refine bodyPost_ret (v := .tuple #[.agg #[.int .i64 x.Master, .slice A15 ((k + 1) + (n - k)) c15], .bool true]) (by simp [results, Try.results32, go_sem, y0, y1]) rfl ?_
                            exact made_rv (x := ⟨x.Master, ins x.Revoked (v * 10000000 + s)⟩) (by show _ = ins x.Revoked _; rw [← HXS.out, ← HCD.out, HI.out]; simp) rfl (by have := HL.out; simp; try omega) o_z (Ra.block_nodup _) HB
end Go.Proofs.Ytpeagjpcdoegoaa.C11b
