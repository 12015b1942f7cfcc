import Derived.Test.YtialhhdhpjjkaaaGreatDoorC9b
import Derived.Test.YtialhhdhpjjkaaaGreatDoorC9h
import Derived.Test.YtialhhdhpjjkaaaGreatDoorM13i
import Derived.Deep.RegionHeld3
import Derived.Deep.RegionLaw
/-
  Contracts of chapter 9's hosts and origins, of the program.
-/
namespace Go.Proofs.YtialhhdhpjjkaaaGreatDoor.C9j
open Go.ChangeShapes Go.WideShapes Go.ChangeAt Go.RowKit
open S0 S9 Dm Fx M12 M13 C9
set_option linter.unusedVariables false
set_option linter.unusedSimpArgs false
theorem implHost (s : ByteArray) (w : World) (hs : s.size ≤ 4294967296) : Calls Tryz.prog 32 #[.string s] w (Gives (.bool (host (bts s))) w) := C9h.implHost s w hs
set_option maxHeartbeats 1600000 in
set_option maxRecDepth 100000 in
theorem implOrg (w : World) (x : Fx.Origin) (vs : List Value) (h : RdsL w w.heap.size x.dcs vs) (hs : x.Host.size ≤ 4294967296) : Calls Tryz.prog 66 #[.agg vs.toArray] w (Gives (.bool (orgB x)) w) := by
  obtain rfl := Origin.rds h
  obtain ⟨r, hr⟩ : ∃ r, r = orgB x := ⟨_, rfl⟩
  rw [← hr]
  have HR := Lib.hid hr
  clear hr h
  have b0 : Below w.heap.size w (w.alloc (.cells #[.bool x.Secure, .string x.Host, .int .i64 x.Port] 45)) := (Below.refl _ _).alloc (Nat.le_refl _) _
  have HH := Lib.hid (show Calls Tryz.prog 32 #[.string x.Host] (w.alloc (.cells #[.bool x.Secure, .string x.Host, .int .i64 x.Port] 45)) (Gives (.bool (host (bts x.Host))) (w.alloc (.cells #[.bool x.Secure, .string x.Host, .int .i64 x.Port] 45))) from implHost x.Host _ hs)
  cases hh : host (bts x.Host) with
  | false =>
    obtain rfl : r = false := by rw [HR.out]; unfold orgB; rw [hh]; rfl
    rw [hh] at HH
    go_enter Tryz.func66, Tryz.ntmps66
    go_wp2_with fail
    (refine HH.out.mono ?_); rintro e w2 ⟨rfl, b2⟩
    go_wp2
    go_ret
    exact ⟨rfl, b0.trans (b2.mono b0.size)⟩
  | true =>
    rw [hh] at HH
    have hp2 : r = (decide (1 ≤ x.Port) && decide (x.Port ≤ 65535)) := by rw [HR.out]; unfold orgB; rw [hh]; rfl
    clear HR hh
    go_enter Tryz.func66, Tryz.ntmps66
    go_wp2_with fail
    (refine HH.out.mono ?_); rintro e w2 ⟨rfl, b2⟩
    have c2 : w2.cell? ⟨w.heap.size, 2, none⟩ = some (.int .i64 x.Port) := (b2.cell (p := ⟨w.heap.size, 2, none⟩) (by simp)).trans (by exact cell_of_row _ _ 2 _ 45 (0, 0) (heap_alloc_last w _))
    by_cases hp : 1 ≤ x.Port ∧ x.Port ≤ 65535
    · obtain rfl : r = true := by rw [hp2, decide_eq_true hp.1, decide_eq_true hp.2]; rfl
      clear hp2
      go_wp2_with fail
      (with_reducible refine (C1.implIn_t _ 1 65535 _ hp.1 hp.2).mono ?_); rintro e w3 ⟨rfl, rfl⟩
      go_wp2
      go_ret
      exact ⟨rfl, b0.trans (b2.mono b0.size)⟩
    · obtain rfl : r = false := by
        rw [hp2]
        by_cases h1 : 1 ≤ x.Port
        · rw [decide_eq_true h1, decide_eq_false (by omega)]; rfl
        · rw [decide_eq_false h1]; rfl
      clear hp2
      go_wp2_with fail
      (with_reducible refine (C1.implIn_f _ 1 65535 _ (by omega)).mono ?_); rintro e w3 ⟨rfl, rfl⟩
      go_wp2
      go_ret
      exact ⟨rfl, b0.trans (b2.mono b0.size)⟩
theorem below_it {w wr : World} {s : ByteArray} {k : Nat} (h : Below w.heap.size w wr) : Below w.heap.size w (wr.iter s k) := h.alloc h.size _
theorem cut_from (s : ByteArray) (b : Nat) (h : b ≤ s.size) : str ((bts s).drop b) = s.extract b s.size := by
  rw [extract_is s b s.size h (Nat.le_refl _)]
  show str _ = str _
  congr 1
  rw [List.take_of_length_le]
  · rfl
  · rw [List.length_drop]; have := bts_len s; show (bts s).length - b ≤ _; omega
theorem host_ascii {s : ByteArray} (h : host (bts s) = true) : ∀ k (hk : k < s.size), s[k].toNat < 128 := by
  intro k hk
  have hc := split_chars (bts s) (fun x hx d hd => by
    unfold host at h
    simp only [Bool.and_eq_true, List.all_eq_true] at h
    exact List.all_eq_true.1 (lab_all (h.1 x hx)).1 d hd) s[k] (by
      show s[k] ∈ s.data.toList
      rw [← data_get s k hk]; exact List.getElem_mem _)
  rcases hc with h1 | h1
  · have := (okc_lt h1).1; omega
  · rw [h1]; decide
set_option maxHeartbeats 1600000 in
set_option maxRecDepth 100000 in
theorem implReg (w : World) (s : ByteArray) (hs : s.size ≤ 4294967296) : Calls Tryz.prog 31 #[.string s] w (Gives (.string (str (reg (bts s)))) w) := by
  have HH := Lib.hid (show Calls Tryz.prog 32 #[.string s] w (Gives (.bool (host (bts s))) w) from implHost s w hs)
  cases hh : host (bts s) with
  | false =>
    have HF := Lib.hid (show str (reg (bts s)) = ⟨#[]⟩ by rw [C9b.reg_f hh]; rfl)
    rw [hh] at HH
    go_enter Tryz.func31, Tryz.ntmps31
    go_wp2_with fail
    (refine HH.out.mono ?_); rintro e w2 ⟨rfl, b2⟩
    go_wp2
    go_ret
    exact ⟨by rw [HF.out]; rfl, b2⟩
  | true =>
    rw [hh] at HH
    have HA := Lib.hid (host_ascii hh)
    have HL := Lib.hid (bts_len s)
    have HI := Lib.hid hh
    clear hh
    obtain ⟨R, hR⟩ : ∃ R, R = str (reg (bts s)) := ⟨_, rfl⟩
    rw [← hR]
    have HR := Lib.hid hR
    clear hR
    go_enter Tryz.func31, Tryz.ntmps31
    go_wp2_with fail
    (refine HH.out.mono ?_); rintro e w2 ⟨rfl, b2⟩
    go_wp2
    go_loopw [3, 4] (fun p q wr => ∃ (k b f : Nat) (outs : List (List UInt8)), k ≤ s.size ∧ p = .int .i64 b ∧ q = .int .i64 f ∧ wr = w2.iter s k ∧ M13i.RegAt (bts s) k b f outs) (fun _ _ wr => s.size - wr.iterPos w2.heap.size)
    case atStart => exact ⟨0, 0, 0, [], by omega, rfl, rfl, rfl, M13i.RegAt.start _⟩
    case round =>
      obtain ⟨k, b, f, outs, hk, rfl, rfl, rfl, hG⟩ := hrel
      have hle := hG.le
      have HG := Lib.hid hG
      clear hG
      by_cases hlt : k < s.size
      · have ha := HA.out k hlt
        have hnx := fun ty => run_next_ascii (P := Tryz.prog) w2 s k ty hlt ha
        have hkl : k < (bts s).length := by rw [HL.out]; exact hlt
        by_cases h6 : s[k] = 46
        · have HN := Lib.hid (HG.out.dot hkl (show (bts s)[k]'hkl = 46 from (data_get s k hlt).trans h6))
          have hb6 : ((s[k].toNat : Int) == 46) = true := by rw [h6]; rfl
          clear h6 HG
          go_wp2
          go_roundw
          case rel => exact ⟨k + 1, f, k + 1, _, by omega, rfl, by go_num, rfl, HN.out⟩
          case measure => simp; omega
        · have HN := Lib.hid (HG.out.char hkl (show (bts s)[k]'hkl ≠ 46 from fun e => h6 ((data_get s k hlt).symm.trans e)))
          have hb6 : ((s[k].toNat : Int) == 46) = false := by
            rw [beq_eq_false_iff_ne]
            intro e
            apply h6
            rw [← UInt8.toNat_inj]
            show s[k].toNat = 46
            omega
          clear h6 HG
          go_wp2
          go_roundw
          case rel => exact ⟨k + 1, b, f, _, by omega, rfl, rfl, rfl, HN.out⟩
          case measure => simp; omega
      · obtain rfl : k = s.size := by omega
        have hnx := fun ty => run_next_end (P := Tryz.prog) w2 s s.size ty hlt
        have HV := Lib.hid (show R = s.extract b s.size by
          have h := HG.out
          rw [← HL.out] at h
          rw [HR.out, h.done HI.out, cut_from s b hle.1])
        clear HR
        go_wp2
        go_ret
        exact ⟨by rw [HV.out]; rfl, below_it b2⟩
set_option maxHeartbeats 6400000 in
set_option maxRecDepth 100000 in
theorem implSameM (w : World) (x y : Fx.Origin) (us vs : List Value) (h : RdsL w w.heap.size x.dcs us) (h2 : RdsL w w.heap.size y.dcs vs) (hx : x.Host.size ≤ 4294967296) (hy : y.Host.size ≤ 4294967296) :
    Calls Tryz.prog 77 #[.agg us.toArray, .agg vs.toArray] w (Gives (.bool (sameO x y)) w) := by
  obtain rfl := Origin.rds h
  obtain rfl := Origin.rds h2
  clear h h2
  obtain ⟨w1, hw1⟩ : ∃ z, z = w.alloc (.cells #[.bool x.Secure, .string x.Host, .int .i64 x.Port] 45) := ⟨_, rfl⟩
  obtain ⟨w2, hw2⟩ : ∃ z, z = w1.alloc (.cells #[.bool y.Secure, .string y.Host, .int .i64 y.Port] 45) := ⟨_, rfl⟩
  have s1 : w1.heap.size = w.heap.size + 1 := by rw [hw1]; simp
  have op := Fx.var_owns w 45 3 [.bool x.Secure, .string x.Host, .int .i64 x.Port] rfl
  have oz := Fx.var_owns w1 45 3 [.bool y.Secure, .string y.Host, .int .i64 y.Port] rfl
  have b01 : Below w.heap.size w w1 := hw1 ▸ (Below.refl _ _).alloc (Nat.le_refl _) _
  have b12 : Below w1.heap.size w1 w2 := hw2 ▸ (Below.refl _ _).alloc (Nat.le_refl _) _
  rw [← hw1] at op
  rw [← hw2, s1] at oz
  replace op := owns_below op b12
  have HB : Below w.heap.size w w2 := b01.trans (b12.mono b01.size)
  have l2 : w.heap.size + 1 < w2.heap.size := Fx.var_lt oz
  have HF := Lib.hid (show ∀ wx, Below w2.heap.size w2 wx → wx.cell? ⟨w.heap.size, 0, none⟩ = some (.bool x.Secure) ∧ wx.cell? ⟨w.heap.size, 1, none⟩ = some (.string x.Host) ∧ wx.cell? ⟨w.heap.size, 2, none⟩ = some (.int .i64 x.Port) ∧ wx.cell? ⟨w.heap.size + 1, 0, none⟩ = some (.bool y.Secure) ∧ wx.cell? ⟨w.heap.size + 1, 1, none⟩ = some (.string y.Host) ∧ wx.cell? ⟨w.heap.size + 1, 2, none⟩ = some (.int .i64 y.Port) from fun wx hb =>
    ⟨Fx.var_load (owns_below op hb) (by simp) 0 _ rfl, Fx.var_load (owns_below op hb) (by simp) 1 _ rfl, Fx.var_load (owns_below op hb) (by simp) 2 _ rfl, Fx.var_load (owns_below oz hb) (by simp) 0 _ rfl, Fx.var_load (owns_below oz hb) (by simp) 1 _ rfl, Fx.var_load (owns_below oz hb) (by simp) 2 _ rfl⟩)
  clear op oz b01 b12
  obtain ⟨r, hr⟩ : ∃ r, r = sameO x y := ⟨_, rfl⟩
  rw [← hr]
  have HR := Lib.hid hr
  clear hr
  have L1 : w.heap.size + 1 < w2.drew.heap.size := l2
  have BB : Below w2.heap.size w2 w2.drew := drewN_below w2 1 _
  cases ha : orgB x with
  | false =>
    have HA := Lib.hid (fun wx : World => show Calls Tryz.prog 66 #[.agg ([.bool x.Secure, .string x.Host, .int .i64 x.Port] : List Value).toArray] wx (Gives (.bool false) wx) from ha ▸ implOrg wx x _ Origin.mkR hx)
    obtain rfl : r = false := by rw [HR.out]; unfold sameO; rw [ha]; rfl
    clear ha HR
    go_enter Tryz.func77, Tryz.ntmps77
    go_wp2_with fail
    rw [← hw1, ← hw2]
    clear hw1 hw2 s1
    refine wp_region_held_drew (S := (fun wx => wx.cell? ⟨w.heap.size, 0, none⟩ = some (.bool x.Secure) ∧ wx.cell? ⟨w.heap.size, 1, none⟩ = some (.string x.Host) ∧ wx.cell? ⟨w.heap.size, 2, none⟩ = some (.int .i64 x.Port) ∧ wx.cell? ⟨w.heap.size + 1, 0, none⟩ = some (.bool y.Secure) ∧ wx.cell? ⟨w.heap.size + 1, 1, none⟩ = some (.string y.Host) ∧ wx.cell? ⟨w.heap.size + 1, 2, none⟩ = some (.int .i64 y.Port))) (by kernel_rfl) ?_ (fun hHeld => ?_)
    · exact HF.out _ BB
    refine wpAnyH_take (i := 0) (oi := ?oia_0) (v := ?va_0) ?hia_0 (by kernel_rfl) (by kernel_rfl) (by kernel_rfl) ?hQa_0 (Or.inl ⟨?hwa_0, ?hya_0⟩) (by assumption) ?_
    case hia_0 => simp only [List.getElem?_toArray, List.getElem?_cons_zero]; rfl
    case hQa_0 => exact fun _ _ _ h => h
    case hwa_0 => rfl
    case hya_0 => intro w hSw; (try dsimp only at hSw); (first | (go_simp; done) | (go_simp; with_reducible rfl))
    try simp only [Act.put, List.setIfInBounds_toArray, List.set_cons_zero, List.set_cons_succ]
    refine wpAnyH_ready (rs := [1]) (by kernel_rfl) (by simp) ?_
    refine AllReadyH.cons (o := ?oia_1) ?hia_1 (fun K hK => ?_) AllReadyH.nil
    case hia_1 => simp only [List.getElem?_toArray, List.getElem?_cons_succ, List.getElem?_cons_zero]; rfl
    go_simp
    go_at_call 66
    (with_reducible refine (HA.out _).mono ?_)
    rintro e w3 ⟨rfl, bq⟩
    replace BB : Below w2.heap.size w2 w3 := BB.trans (bq.mono BB.size)
    clear bq
    refine hK.out _ _ ?_ (fun hHeld => ?_)
    · exact HF.out _ BB
    clear hK K
    try simp only [Act.put, List.setIfInBounds_toArray, List.set_cons_zero, List.set_cons_succ]
    refine wpAnyH_take (i := 2) (oi := ?oia_2) (v := ?va_2) ?hia_2 (by kernel_rfl) (by kernel_rfl) (by kernel_rfl) ?hQa_2 (Or.inl ⟨?hwa_2, ?hya_2⟩) (by assumption) ?_
    case hia_2 => simp only [List.getElem?_toArray, List.getElem?_cons_succ, List.getElem?_cons_zero]; rfl
    case hQa_2 => exact fun _ _ _ h => h
    case hwa_2 => rfl
    case hya_2 => intro w hSw; (try dsimp only at hSw); (first | (go_simp; done) | (go_simp; with_reducible rfl))
    try simp only [Act.put, List.setIfInBounds_toArray, List.set_cons_zero, List.set_cons_succ]
    refine wpAnyH_take (i := 3) (oi := ?oia_3) (v := undef) ?hia_3 (by kernel_rfl) (by kernel_rfl) (by kernel_rfl) ?hQa_3 (Or.inr ⟨?hwa_3, rfl⟩) (by assumption) ?_
    case hia_3 => simp only [List.getElem?_toArray, List.getElem?_cons_succ, List.getElem?_cons_zero]; rfl
    case hQa_3 => exact fun _ _ _ h => h
    case hwa_3 => rfl
    try simp only [Act.put, List.setIfInBounds_toArray, List.set_cons_zero, List.set_cons_succ]
    refine wpAnyH_take (i := 4) (oi := ?oia_4) (v := undef) ?hia_4 (by kernel_rfl) (by kernel_rfl) (by kernel_rfl) ?hQa_4 (Or.inr ⟨?hwa_4, rfl⟩) (by assumption) ?_
    case hia_4 => simp only [List.getElem?_toArray, List.getElem?_cons_succ, List.getElem?_cons_zero]; rfl
    case hQa_4 => exact fun _ _ _ h => h
    case hwa_4 => rfl
    try simp only [Act.put, List.setIfInBounds_toArray, List.set_cons_zero, List.set_cons_succ]
    refine wpAnyH_take (i := 5) (oi := ?oia_5) (v := ?va_5) ?hia_5 (by kernel_rfl) (by kernel_rfl) (by kernel_rfl) ?hQa_5 (Or.inl ⟨?hwa_5, ?hya_5⟩) (by assumption) ?_
    case hia_5 => simp only [List.getElem?_toArray, List.getElem?_cons_succ, List.getElem?_cons_zero]; rfl
    case hQa_5 => exact fun _ _ _ h => h
    case hwa_5 => rfl
    case hya_5 => intro w hSw; (try dsimp only at hSw); (first | (go_simp; done) | (go_simp; with_reducible rfl))
    try simp only [Act.put, List.setIfInBounds_toArray, List.set_cons_zero, List.set_cons_succ]
    refine wpAnyH_take (i := 6) (oi := ?oia_6) (v := ?va_6) ?hia_6 (by kernel_rfl) (by kernel_rfl) (by kernel_rfl) ?hQa_6 (Or.inl ⟨?hwa_6, ?hya_6⟩) (by assumption) ?_
    case hia_6 => simp only [List.getElem?_toArray, List.getElem?_cons_succ, List.getElem?_cons_zero]; rfl
    case hQa_6 => exact fun _ _ _ h => h
    case hwa_6 => rfl
    case hya_6 => intro w hSw; (try dsimp only at hSw); (first | (go_simp; done) | (go_simp; with_reducible rfl))
    try simp only [Act.put, List.setIfInBounds_toArray, List.set_cons_zero, List.set_cons_succ]
    refine wpAnyH_take (i := 7) (oi := ?oia_7) (v := undef) ?hia_7 (by kernel_rfl) (by kernel_rfl) (by kernel_rfl) ?hQa_7 (Or.inr ⟨?hwa_7, rfl⟩) (by assumption) ?_
    case hia_7 => simp only [List.getElem?_toArray, List.getElem?_cons_succ, List.getElem?_cons_zero]; rfl
    case hQa_7 => exact fun _ _ _ h => h
    case hwa_7 => rfl
    try simp only [Act.put, List.setIfInBounds_toArray, List.set_cons_zero, List.set_cons_succ]
    refine wpAnyH_take (i := 8) (oi := ?oia_8) (v := undef) ?hia_8 (by kernel_rfl) (by kernel_rfl) (by kernel_rfl) ?hQa_8 (Or.inr ⟨?hwa_8, rfl⟩) (by assumption) ?_
    case hia_8 => simp only [List.getElem?_toArray, List.getElem?_cons_succ, List.getElem?_cons_zero]; rfl
    case hQa_8 => exact fun _ _ _ h => h
    case hwa_8 => rfl
    try simp only [Act.put, List.setIfInBounds_toArray, List.set_cons_zero, List.set_cons_succ]
    refine wpAnyH_take (i := 9) (oi := ?oia_9) (v := undef) ?hia_9 (by kernel_rfl) (by kernel_rfl) (by kernel_rfl) ?hQa_9 (Or.inr ⟨?hwa_9, rfl⟩) (by assumption) ?_
    case hia_9 => simp only [List.getElem?_toArray, List.getElem?_cons_succ, List.getElem?_cons_zero]; rfl
    case hQa_9 => exact fun _ _ _ h => h
    case hwa_9 => rfl
    try simp only [Act.put, List.setIfInBounds_toArray, List.set_cons_zero, List.set_cons_succ]
    refine wpAnyH_take (i := 10) (oi := ?oia_10) (v := undef) ?hia_10 (by kernel_rfl) (by kernel_rfl) (by kernel_rfl) ?hQa_10 (Or.inr ⟨?hwa_10, rfl⟩) (by assumption) ?_
    case hia_10 => simp only [List.getElem?_toArray, List.getElem?_cons_succ, List.getElem?_cons_zero]; rfl
    case hQa_10 => exact fun _ _ _ h => h
    case hwa_10 => rfl
    try simp only [Act.put, List.setIfInBounds_toArray, List.set_cons_zero, List.set_cons_succ]
    refine wpAnyH_take (i := 11) (oi := ?oia_11) (v := undef) ?hia_11 (by kernel_rfl) (by kernel_rfl) (by kernel_rfl) ?hQa_11 (Or.inr ⟨?hwa_11, rfl⟩) (by assumption) ?_
    case hia_11 => simp only [List.getElem?_toArray, List.getElem?_cons_succ, List.getElem?_cons_zero]; rfl
    case hQa_11 => exact fun _ _ _ h => h
    case hwa_11 => rfl
    try simp only [Act.put, List.setIfInBounds_toArray, List.set_cons_zero, List.set_cons_succ]
    refine wpAnyH_take (i := 12) (oi := ?oia_12) (v := ?va_12) ?hia_12 (by kernel_rfl) (by kernel_rfl) (by kernel_rfl) ?hQa_12 (Or.inl ⟨?hwa_12, ?hya_12⟩) (by assumption) ?_
    case hia_12 => simp only [List.getElem?_toArray, List.getElem?_cons_succ, List.getElem?_cons_zero]; rfl
    case hQa_12 => exact fun _ _ _ h => h
    case hwa_12 => rfl
    case hya_12 => intro w hSw; (try dsimp only at hSw); (first | (go_simp; done) | (go_simp; with_reducible rfl))
    try simp only [Act.put, List.setIfInBounds_toArray, List.set_cons_zero, List.set_cons_succ]
    refine wpAnyH_take (i := 13) (oi := ?oia_13) (v := ?va_13) ?hia_13 (by kernel_rfl) (by kernel_rfl) (by kernel_rfl) ?hQa_13 (Or.inl ⟨?hwa_13, ?hya_13⟩) (by assumption) ?_
    case hia_13 => simp only [List.getElem?_toArray, List.getElem?_cons_succ, List.getElem?_cons_zero]; rfl
    case hQa_13 => exact fun _ _ _ h => h
    case hwa_13 => rfl
    case hya_13 => intro w hSw; (try dsimp only at hSw); (first | (go_simp; done) | (go_simp; with_reducible rfl))
    try simp only [Act.put, List.setIfInBounds_toArray, List.set_cons_zero, List.set_cons_succ]
    refine wpAnyH_take (i := 14) (oi := ?oia_14) (v := undef) ?hia_14 (by kernel_rfl) (by kernel_rfl) (by kernel_rfl) ?hQa_14 (Or.inr ⟨?hwa_14, rfl⟩) (by assumption) ?_
    case hia_14 => simp only [List.getElem?_toArray, List.getElem?_cons_succ, List.getElem?_cons_zero]; rfl
    case hQa_14 => exact fun _ _ _ h => h
    case hwa_14 => rfl
    try simp only [Act.put, List.setIfInBounds_toArray, List.set_cons_zero, List.set_cons_succ]
    refine wpAnyH_take (i := 15) (oi := ?oia_15) (v := undef) ?hia_15 (by kernel_rfl) (by kernel_rfl) (by kernel_rfl) ?hQa_15 (Or.inr ⟨?hwa_15, rfl⟩) (by assumption) ?_
    case hia_15 => simp only [List.getElem?_toArray, List.getElem?_cons_succ, List.getElem?_cons_zero]; rfl
    case hQa_15 => exact fun _ _ _ h => h
    case hwa_15 => rfl
    try simp only [Act.put, List.setIfInBounds_toArray, List.set_cons_zero, List.set_cons_succ]
    refine wpAnyH_take (i := 16) (oi := ?oia_16) (v := undef) ?hia_16 (by kernel_rfl) (by kernel_rfl) (by kernel_rfl) ?hQa_16 (Or.inr ⟨?hwa_16, rfl⟩) (by assumption) ?_
    case hia_16 => simp only [List.getElem?_toArray, List.getElem?_cons_succ, List.getElem?_cons_zero]; rfl
    case hQa_16 => exact fun _ _ _ h => h
    case hwa_16 => rfl
    try simp only [Act.put, List.setIfInBounds_toArray, List.set_cons_zero, List.set_cons_succ]
    refine wpAnyH_take (i := 17) (oi := ?oia_17) (v := undef) ?hia_17 (by kernel_rfl) (by kernel_rfl) (by kernel_rfl) ?hQa_17 (Or.inr ⟨?hwa_17, rfl⟩) (by assumption) ?_
    case hia_17 => simp only [List.getElem?_toArray, List.getElem?_cons_succ, List.getElem?_cons_zero]; rfl
    case hQa_17 => exact fun _ _ _ h => h
    case hwa_17 => rfl
    try simp only [Act.put, List.setIfInBounds_toArray, List.set_cons_zero, List.set_cons_succ]
    refine wpAnyH_take (i := 18) (oi := ?oia_18) (v := undef) ?hia_18 (by kernel_rfl) (by kernel_rfl) (by kernel_rfl) ?hQa_18 (Or.inr ⟨?hwa_18, rfl⟩) (by assumption) ?_
    case hia_18 => simp only [List.getElem?_toArray, List.getElem?_cons_succ, List.getElem?_cons_zero]; rfl
    case hQa_18 => exact fun _ _ _ h => h
    case hwa_18 => rfl
    try simp only [Act.put, List.setIfInBounds_toArray, List.set_cons_zero, List.set_cons_succ]
    refine wpAnyH_take (i := 19) (oi := ?oia_19) (v := undef) ?hia_19 (by kernel_rfl) (by kernel_rfl) (by kernel_rfl) ?hQa_19 (Or.inr ⟨?hwa_19, rfl⟩) (by assumption) ?_
    case hia_19 => simp only [List.getElem?_toArray, List.getElem?_cons_succ, List.getElem?_cons_zero]; rfl
    case hQa_19 => exact fun _ _ _ h => h
    case hwa_19 => rfl
    try simp only [Act.put, List.setIfInBounds_toArray, List.set_cons_zero, List.set_cons_succ]
    refine wpAnyH_take (i := 20) (oi := ?oia_20) (v := undef) ?hia_20 (by kernel_rfl) (by kernel_rfl) (by kernel_rfl) ?hQa_20 (Or.inr ⟨?hwa_20, rfl⟩) (by assumption) ?_
    case hia_20 => simp only [List.getElem?_toArray, List.getElem?_cons_succ, List.getElem?_cons_zero]; rfl
    case hQa_20 => exact fun _ _ _ h => h
    case hwa_20 => rfl
    try simp only [Act.put, List.setIfInBounds_toArray, List.set_cons_zero, List.set_cons_succ]
    refine wpAnyH_take (i := 21) (oi := ?oia_21) (v := ?va_21) ?hia_21 (by kernel_rfl) (by kernel_rfl) (by kernel_rfl) ?hQa_21 (Or.inl ⟨?hwa_21, ?hya_21⟩) (by assumption) ?_
    case hia_21 => simp only [List.getElem?_toArray, List.getElem?_cons_succ, List.getElem?_cons_zero]; rfl
    case hQa_21 => exact fun _ _ _ h => h
    case hwa_21 => rfl
    case hya_21 => intro w hSw; (try dsimp only at hSw); (first | (go_simp; done) | (go_simp; with_reducible rfl))
    try simp only [Act.put, List.setIfInBounds_toArray, List.set_cons_zero, List.set_cons_succ]
    refine wpAnyH_take (i := 22) (oi := ?oia_22) (v := ?va_22) ?hia_22 (by kernel_rfl) (by kernel_rfl) (by kernel_rfl) ?hQa_22 (Or.inl ⟨?hwa_22, ?hya_22⟩) (by assumption) ?_
    case hia_22 => simp only [List.getElem?_toArray, List.getElem?_cons_succ, List.getElem?_cons_zero]; rfl
    case hQa_22 => exact fun _ _ _ h => h
    case hwa_22 => rfl
    case hya_22 => intro w hSw; (try dsimp only at hSw); (first | (go_simp; done) | (go_simp; with_reducible rfl))
    try simp only [Act.put, List.setIfInBounds_toArray, List.set_cons_zero, List.set_cons_succ]
    refine wpAnyH_done (by kernel_rfl) ?_ _
    go_wp2
    go_ret
    exact ⟨rfl, HB.trans (BB.mono HB.size)⟩
  | true =>
    have HA := Lib.hid (fun wx : World => show Calls Tryz.prog 66 #[.agg ([.bool x.Secure, .string x.Host, .int .i64 x.Port] : List Value).toArray] wx (Gives (.bool true) wx) from ha ▸ implOrg wx x _ Origin.mkR hx)
    cases hb : orgB y with
    | false =>
      have HC := Lib.hid (fun wx : World => show Calls Tryz.prog 66 #[.agg ([.bool y.Secure, .string y.Host, .int .i64 y.Port] : List Value).toArray] wx (Gives (.bool false) wx) from hb ▸ implOrg wx y _ Origin.mkR hy)
      obtain rfl : r = false := by rw [HR.out]; unfold sameO; rw [ha, hb]; rfl
      clear ha hb HR
      go_enter Tryz.func77, Tryz.ntmps77
      go_wp2_with fail
      rw [← hw1, ← hw2]
      clear hw1 hw2 s1
      refine wp_region_held_drew (S := (fun wx => wx.cell? ⟨w.heap.size, 0, none⟩ = some (.bool x.Secure) ∧ wx.cell? ⟨w.heap.size, 1, none⟩ = some (.string x.Host) ∧ wx.cell? ⟨w.heap.size, 2, none⟩ = some (.int .i64 x.Port) ∧ wx.cell? ⟨w.heap.size + 1, 0, none⟩ = some (.bool y.Secure) ∧ wx.cell? ⟨w.heap.size + 1, 1, none⟩ = some (.string y.Host) ∧ wx.cell? ⟨w.heap.size + 1, 2, none⟩ = some (.int .i64 y.Port))) (by kernel_rfl) ?_ (fun hHeld => ?_)
      · exact HF.out _ BB
      refine wpAnyH_take (i := 0) (oi := ?oib_0) (v := ?vb_0) ?hib_0 (by kernel_rfl) (by kernel_rfl) (by kernel_rfl) ?hQb_0 (Or.inl ⟨?hwb_0, ?hyb_0⟩) (by assumption) ?_
      case hib_0 => simp only [List.getElem?_toArray, List.getElem?_cons_zero]; rfl
      case hQb_0 => exact fun _ _ _ h => h
      case hwb_0 => rfl
      case hyb_0 => intro w hSw; (try dsimp only at hSw); (first | (go_simp; done) | (go_simp; with_reducible rfl))
      try simp only [Act.put, List.setIfInBounds_toArray, List.set_cons_zero, List.set_cons_succ]
      refine wpAnyH_ready (rs := [1]) (by kernel_rfl) (by simp) ?_
      refine AllReadyH.cons (o := ?oib_1) ?hib_1 (fun K hK => ?_) AllReadyH.nil
      case hib_1 => simp only [List.getElem?_toArray, List.getElem?_cons_succ, List.getElem?_cons_zero]; rfl
      go_simp
      go_at_call 66
      (with_reducible refine (HA.out _).mono ?_)
      rintro e w3 ⟨rfl, bq⟩
      replace BB : Below w2.heap.size w2 w3 := BB.trans (bq.mono BB.size)
      clear bq
      refine hK.out _ _ ?_ (fun hHeld => ?_)
      · exact HF.out _ BB
      clear hK K
      try simp only [Act.put, List.setIfInBounds_toArray, List.set_cons_zero, List.set_cons_succ]
      refine wpAnyH_take (i := 2) (oi := ?oib_2) (v := ?vb_2) ?hib_2 (by kernel_rfl) (by kernel_rfl) (by kernel_rfl) ?hQb_2 (Or.inl ⟨?hwb_2, ?hyb_2⟩) (by assumption) ?_
      case hib_2 => simp only [List.getElem?_toArray, List.getElem?_cons_succ, List.getElem?_cons_zero]; rfl
      case hQb_2 => exact fun _ _ _ h => h
      case hwb_2 => rfl
      case hyb_2 => intro w hSw; (try dsimp only at hSw); (first | (go_simp; done) | (go_simp; with_reducible rfl))
      try simp only [Act.put, List.setIfInBounds_toArray, List.set_cons_zero, List.set_cons_succ]
      refine wpAnyH_take (i := 3) (oi := ?oib_3) (v := ?vb_3) ?hib_3 (by kernel_rfl) (by kernel_rfl) (by kernel_rfl) ?hQb_3 (Or.inl ⟨?hwb_3, ?hyb_3⟩) (by assumption) ?_
      case hib_3 => simp only [List.getElem?_toArray, List.getElem?_cons_succ, List.getElem?_cons_zero]; rfl
      case hQb_3 => exact fun _ _ _ h => h
      case hwb_3 => rfl
      case hyb_3 => intro w hSw; (try dsimp only at hSw); (first | (go_simp; done) | (go_simp; with_reducible rfl))
      try simp only [Act.put, List.setIfInBounds_toArray, List.set_cons_zero, List.set_cons_succ]
      refine wpAnyH_ready (rs := [4]) (by kernel_rfl) (by simp) ?_
      refine AllReadyH.cons (o := ?oib_4) ?hib_4 (fun K hK => ?_) AllReadyH.nil
      case hib_4 => simp only [List.getElem?_toArray, List.getElem?_cons_succ, List.getElem?_cons_zero]; rfl
      go_simp
      go_at_call 66
      (with_reducible refine (HC.out _).mono ?_)
      rintro e w4 ⟨rfl, bq⟩
      replace BB : Below w2.heap.size w2 w4 := BB.trans (bq.mono BB.size)
      clear bq
      refine hK.out _ _ ?_ (fun hHeld => ?_)
      · exact HF.out _ BB
      clear hK K
      try simp only [Act.put, List.setIfInBounds_toArray, List.set_cons_zero, List.set_cons_succ]
      refine wpAnyH_take (i := 5) (oi := ?oib_5) (v := ?vb_5) ?hib_5 (by kernel_rfl) (by kernel_rfl) (by kernel_rfl) ?hQb_5 (Or.inl ⟨?hwb_5, ?hyb_5⟩) (by assumption) ?_
      case hib_5 => simp only [List.getElem?_toArray, List.getElem?_cons_succ, List.getElem?_cons_zero]; rfl
      case hQb_5 => exact fun _ _ _ h => h
      case hwb_5 => rfl
      case hyb_5 => intro w hSw; (try dsimp only at hSw); (first | (go_simp; done) | (go_simp; with_reducible rfl))
      try simp only [Act.put, List.setIfInBounds_toArray, List.set_cons_zero, List.set_cons_succ]
      refine wpAnyH_take (i := 6) (oi := ?oib_6) (v := ?vb_6) ?hib_6 (by kernel_rfl) (by kernel_rfl) (by kernel_rfl) ?hQb_6 (Or.inl ⟨?hwb_6, ?hyb_6⟩) (by assumption) ?_
      case hib_6 => simp only [List.getElem?_toArray, List.getElem?_cons_succ, List.getElem?_cons_zero]; rfl
      case hQb_6 => exact fun _ _ _ h => h
      case hwb_6 => rfl
      case hyb_6 => intro w hSw; (try dsimp only at hSw); (first | (go_simp; done) | (go_simp; with_reducible rfl))
      try simp only [Act.put, List.setIfInBounds_toArray, List.set_cons_zero, List.set_cons_succ]
      refine wpAnyH_take (i := 7) (oi := ?oib_7) (v := undef) ?hib_7 (by kernel_rfl) (by kernel_rfl) (by kernel_rfl) ?hQb_7 (Or.inr ⟨?hwb_7, rfl⟩) (by assumption) ?_
      case hib_7 => simp only [List.getElem?_toArray, List.getElem?_cons_succ, List.getElem?_cons_zero]; rfl
      case hQb_7 => exact fun _ _ _ h => h
      case hwb_7 => rfl
      try simp only [Act.put, List.setIfInBounds_toArray, List.set_cons_zero, List.set_cons_succ]
      refine wpAnyH_take (i := 8) (oi := ?oib_8) (v := undef) ?hib_8 (by kernel_rfl) (by kernel_rfl) (by kernel_rfl) ?hQb_8 (Or.inr ⟨?hwb_8, rfl⟩) (by assumption) ?_
      case hib_8 => simp only [List.getElem?_toArray, List.getElem?_cons_succ, List.getElem?_cons_zero]; rfl
      case hQb_8 => exact fun _ _ _ h => h
      case hwb_8 => rfl
      try simp only [Act.put, List.setIfInBounds_toArray, List.set_cons_zero, List.set_cons_succ]
      refine wpAnyH_take (i := 9) (oi := ?oib_9) (v := undef) ?hib_9 (by kernel_rfl) (by kernel_rfl) (by kernel_rfl) ?hQb_9 (Or.inr ⟨?hwb_9, rfl⟩) (by assumption) ?_
      case hib_9 => simp only [List.getElem?_toArray, List.getElem?_cons_succ, List.getElem?_cons_zero]; rfl
      case hQb_9 => exact fun _ _ _ h => h
      case hwb_9 => rfl
      try simp only [Act.put, List.setIfInBounds_toArray, List.set_cons_zero, List.set_cons_succ]
      refine wpAnyH_take (i := 10) (oi := ?oib_10) (v := undef) ?hib_10 (by kernel_rfl) (by kernel_rfl) (by kernel_rfl) ?hQb_10 (Or.inr ⟨?hwb_10, rfl⟩) (by assumption) ?_
      case hib_10 => simp only [List.getElem?_toArray, List.getElem?_cons_succ, List.getElem?_cons_zero]; rfl
      case hQb_10 => exact fun _ _ _ h => h
      case hwb_10 => rfl
      try simp only [Act.put, List.setIfInBounds_toArray, List.set_cons_zero, List.set_cons_succ]
      refine wpAnyH_take (i := 11) (oi := ?oib_11) (v := undef) ?hib_11 (by kernel_rfl) (by kernel_rfl) (by kernel_rfl) ?hQb_11 (Or.inr ⟨?hwb_11, rfl⟩) (by assumption) ?_
      case hib_11 => simp only [List.getElem?_toArray, List.getElem?_cons_succ, List.getElem?_cons_zero]; rfl
      case hQb_11 => exact fun _ _ _ h => h
      case hwb_11 => rfl
      try simp only [Act.put, List.setIfInBounds_toArray, List.set_cons_zero, List.set_cons_succ]
      refine wpAnyH_take (i := 12) (oi := ?oib_12) (v := ?vb_12) ?hib_12 (by kernel_rfl) (by kernel_rfl) (by kernel_rfl) ?hQb_12 (Or.inl ⟨?hwb_12, ?hyb_12⟩) (by assumption) ?_
      case hib_12 => simp only [List.getElem?_toArray, List.getElem?_cons_succ, List.getElem?_cons_zero]; rfl
      case hQb_12 => exact fun _ _ _ h => h
      case hwb_12 => rfl
      case hyb_12 => intro w hSw; (try dsimp only at hSw); (first | (go_simp; done) | (go_simp; with_reducible rfl))
      try simp only [Act.put, List.setIfInBounds_toArray, List.set_cons_zero, List.set_cons_succ]
      refine wpAnyH_take (i := 13) (oi := ?oib_13) (v := ?vb_13) ?hib_13 (by kernel_rfl) (by kernel_rfl) (by kernel_rfl) ?hQb_13 (Or.inl ⟨?hwb_13, ?hyb_13⟩) (by assumption) ?_
      case hib_13 => simp only [List.getElem?_toArray, List.getElem?_cons_succ, List.getElem?_cons_zero]; rfl
      case hQb_13 => exact fun _ _ _ h => h
      case hwb_13 => rfl
      case hyb_13 => intro w hSw; (try dsimp only at hSw); (first | (go_simp; done) | (go_simp; with_reducible rfl))
      try simp only [Act.put, List.setIfInBounds_toArray, List.set_cons_zero, List.set_cons_succ]
      refine wpAnyH_take (i := 14) (oi := ?oib_14) (v := undef) ?hib_14 (by kernel_rfl) (by kernel_rfl) (by kernel_rfl) ?hQb_14 (Or.inr ⟨?hwb_14, rfl⟩) (by assumption) ?_
      case hib_14 => simp only [List.getElem?_toArray, List.getElem?_cons_succ, List.getElem?_cons_zero]; rfl
      case hQb_14 => exact fun _ _ _ h => h
      case hwb_14 => rfl
      try simp only [Act.put, List.setIfInBounds_toArray, List.set_cons_zero, List.set_cons_succ]
      refine wpAnyH_take (i := 15) (oi := ?oib_15) (v := undef) ?hib_15 (by kernel_rfl) (by kernel_rfl) (by kernel_rfl) ?hQb_15 (Or.inr ⟨?hwb_15, rfl⟩) (by assumption) ?_
      case hib_15 => simp only [List.getElem?_toArray, List.getElem?_cons_succ, List.getElem?_cons_zero]; rfl
      case hQb_15 => exact fun _ _ _ h => h
      case hwb_15 => rfl
      try simp only [Act.put, List.setIfInBounds_toArray, List.set_cons_zero, List.set_cons_succ]
      refine wpAnyH_take (i := 16) (oi := ?oib_16) (v := undef) ?hib_16 (by kernel_rfl) (by kernel_rfl) (by kernel_rfl) ?hQb_16 (Or.inr ⟨?hwb_16, rfl⟩) (by assumption) ?_
      case hib_16 => simp only [List.getElem?_toArray, List.getElem?_cons_succ, List.getElem?_cons_zero]; rfl
      case hQb_16 => exact fun _ _ _ h => h
      case hwb_16 => rfl
      try simp only [Act.put, List.setIfInBounds_toArray, List.set_cons_zero, List.set_cons_succ]
      refine wpAnyH_take (i := 17) (oi := ?oib_17) (v := undef) ?hib_17 (by kernel_rfl) (by kernel_rfl) (by kernel_rfl) ?hQb_17 (Or.inr ⟨?hwb_17, rfl⟩) (by assumption) ?_
      case hib_17 => simp only [List.getElem?_toArray, List.getElem?_cons_succ, List.getElem?_cons_zero]; rfl
      case hQb_17 => exact fun _ _ _ h => h
      case hwb_17 => rfl
      try simp only [Act.put, List.setIfInBounds_toArray, List.set_cons_zero, List.set_cons_succ]
      refine wpAnyH_take (i := 18) (oi := ?oib_18) (v := undef) ?hib_18 (by kernel_rfl) (by kernel_rfl) (by kernel_rfl) ?hQb_18 (Or.inr ⟨?hwb_18, rfl⟩) (by assumption) ?_
      case hib_18 => simp only [List.getElem?_toArray, List.getElem?_cons_succ, List.getElem?_cons_zero]; rfl
      case hQb_18 => exact fun _ _ _ h => h
      case hwb_18 => rfl
      try simp only [Act.put, List.setIfInBounds_toArray, List.set_cons_zero, List.set_cons_succ]
      refine wpAnyH_take (i := 19) (oi := ?oib_19) (v := undef) ?hib_19 (by kernel_rfl) (by kernel_rfl) (by kernel_rfl) ?hQb_19 (Or.inr ⟨?hwb_19, rfl⟩) (by assumption) ?_
      case hib_19 => simp only [List.getElem?_toArray, List.getElem?_cons_succ, List.getElem?_cons_zero]; rfl
      case hQb_19 => exact fun _ _ _ h => h
      case hwb_19 => rfl
      try simp only [Act.put, List.setIfInBounds_toArray, List.set_cons_zero, List.set_cons_succ]
      refine wpAnyH_take (i := 20) (oi := ?oib_20) (v := undef) ?hib_20 (by kernel_rfl) (by kernel_rfl) (by kernel_rfl) ?hQb_20 (Or.inr ⟨?hwb_20, rfl⟩) (by assumption) ?_
      case hib_20 => simp only [List.getElem?_toArray, List.getElem?_cons_succ, List.getElem?_cons_zero]; rfl
      case hQb_20 => exact fun _ _ _ h => h
      case hwb_20 => rfl
      try simp only [Act.put, List.setIfInBounds_toArray, List.set_cons_zero, List.set_cons_succ]
      refine wpAnyH_take (i := 21) (oi := ?oib_21) (v := ?vb_21) ?hib_21 (by kernel_rfl) (by kernel_rfl) (by kernel_rfl) ?hQb_21 (Or.inl ⟨?hwb_21, ?hyb_21⟩) (by assumption) ?_
      case hib_21 => simp only [List.getElem?_toArray, List.getElem?_cons_succ, List.getElem?_cons_zero]; rfl
      case hQb_21 => exact fun _ _ _ h => h
      case hwb_21 => rfl
      case hyb_21 => intro w hSw; (try dsimp only at hSw); (first | (go_simp; done) | (go_simp; with_reducible rfl))
      try simp only [Act.put, List.setIfInBounds_toArray, List.set_cons_zero, List.set_cons_succ]
      refine wpAnyH_take (i := 22) (oi := ?oib_22) (v := ?vb_22) ?hib_22 (by kernel_rfl) (by kernel_rfl) (by kernel_rfl) ?hQb_22 (Or.inl ⟨?hwb_22, ?hyb_22⟩) (by assumption) ?_
      case hib_22 => simp only [List.getElem?_toArray, List.getElem?_cons_succ, List.getElem?_cons_zero]; rfl
      case hQb_22 => exact fun _ _ _ h => h
      case hwb_22 => rfl
      case hyb_22 => intro w hSw; (try dsimp only at hSw); (first | (go_simp; done) | (go_simp; with_reducible rfl))
      try simp only [Act.put, List.setIfInBounds_toArray, List.set_cons_zero, List.set_cons_succ]
      refine wpAnyH_done (by kernel_rfl) ?_ _
      go_wp2
      go_ret
      exact ⟨rfl, HB.trans (BB.mono HB.size)⟩
    | true =>
      have HC := Lib.hid (fun wx : World => show Calls Tryz.prog 66 #[.agg ([.bool y.Secure, .string y.Host, .int .i64 y.Port] : List Value).toArray] wx (Gives (.bool true) wx) from hb ▸ implOrg wx y _ Origin.mkR hy)
      by_cases hs : x.Secure = y.Secure
      · have hse : (x.Secure == y.Secure) = true := by simpa using hs
        have HV := Lib.hid (show r = ((str (reg (bts x.Host))).toList == (str (reg (bts y.Host))).toList) by rw [str_toList, str_toList, HR.out]; unfold sameO; rw [ha, hb]; simp [hs])
        clear ha hb HR hs
        go_enter Tryz.func77, Tryz.ntmps77
        go_wp2_with fail
        rw [← hw1, ← hw2]
        clear hw1 hw2 s1
        refine wp_region_held_drew (S := (fun wx => wx.cell? ⟨w.heap.size, 0, none⟩ = some (.bool x.Secure) ∧ wx.cell? ⟨w.heap.size, 1, none⟩ = some (.string x.Host) ∧ wx.cell? ⟨w.heap.size, 2, none⟩ = some (.int .i64 x.Port) ∧ wx.cell? ⟨w.heap.size + 1, 0, none⟩ = some (.bool y.Secure) ∧ wx.cell? ⟨w.heap.size + 1, 1, none⟩ = some (.string y.Host) ∧ wx.cell? ⟨w.heap.size + 1, 2, none⟩ = some (.int .i64 y.Port))) (by kernel_rfl) ?_ (fun hHeld => ?_)
        · exact HF.out _ BB
        refine wpAnyH_take (i := 0) (oi := ?oic_0) (v := ?vc_0) ?hic_0 (by kernel_rfl) (by kernel_rfl) (by kernel_rfl) ?hQc_0 (Or.inl ⟨?hwc_0, ?hyc_0⟩) (by assumption) ?_
        case hic_0 => simp only [List.getElem?_toArray, List.getElem?_cons_zero]; rfl
        case hQc_0 => exact fun _ _ _ h => h
        case hwc_0 => rfl
        case hyc_0 => intro w hSw; (try dsimp only at hSw); (first | (go_simp; done) | (go_simp; with_reducible rfl))
        try simp only [Act.put, List.setIfInBounds_toArray, List.set_cons_zero, List.set_cons_succ]
        refine wpAnyH_ready (rs := [1]) (by kernel_rfl) (by simp) ?_
        refine AllReadyH.cons (o := ?oic_1) ?hic_1 (fun K hK => ?_) AllReadyH.nil
        case hic_1 => simp only [List.getElem?_toArray, List.getElem?_cons_succ, List.getElem?_cons_zero]; rfl
        go_simp
        go_at_call 66
        (with_reducible refine (HA.out _).mono ?_)
        rintro e w3 ⟨rfl, bq⟩
        replace BB : Below w2.heap.size w2 w3 := BB.trans (bq.mono BB.size)
        clear bq
        refine hK.out _ _ ?_ (fun hHeld => ?_)
        · exact HF.out _ BB
        clear hK K
        try simp only [Act.put, List.setIfInBounds_toArray, List.set_cons_zero, List.set_cons_succ]
        refine wpAnyH_take (i := 2) (oi := ?oic_2) (v := ?vc_2) ?hic_2 (by kernel_rfl) (by kernel_rfl) (by kernel_rfl) ?hQc_2 (Or.inl ⟨?hwc_2, ?hyc_2⟩) (by assumption) ?_
        case hic_2 => simp only [List.getElem?_toArray, List.getElem?_cons_succ, List.getElem?_cons_zero]; rfl
        case hQc_2 => exact fun _ _ _ h => h
        case hwc_2 => rfl
        case hyc_2 => intro w hSw; (try dsimp only at hSw); (first | (go_simp; done) | (go_simp; with_reducible rfl))
        try simp only [Act.put, List.setIfInBounds_toArray, List.set_cons_zero, List.set_cons_succ]
        refine wpAnyH_take (i := 3) (oi := ?oic_3) (v := ?vc_3) ?hic_3 (by kernel_rfl) (by kernel_rfl) (by kernel_rfl) ?hQc_3 (Or.inl ⟨?hwc_3, ?hyc_3⟩) (by assumption) ?_
        case hic_3 => simp only [List.getElem?_toArray, List.getElem?_cons_succ, List.getElem?_cons_zero]; rfl
        case hQc_3 => exact fun _ _ _ h => h
        case hwc_3 => rfl
        case hyc_3 => intro w hSw; (try dsimp only at hSw); (first | (go_simp; done) | (go_simp; with_reducible rfl))
        try simp only [Act.put, List.setIfInBounds_toArray, List.set_cons_zero, List.set_cons_succ]
        refine wpAnyH_ready (rs := [4]) (by kernel_rfl) (by simp) ?_
        refine AllReadyH.cons (o := ?oic_4) ?hic_4 (fun K hK => ?_) AllReadyH.nil
        case hic_4 => simp only [List.getElem?_toArray, List.getElem?_cons_succ, List.getElem?_cons_zero]; rfl
        go_simp
        go_at_call 66
        (with_reducible refine (HC.out _).mono ?_)
        rintro e w4 ⟨rfl, bq⟩
        replace BB : Below w2.heap.size w2 w4 := BB.trans (bq.mono BB.size)
        clear bq
        refine hK.out _ _ ?_ (fun hHeld => ?_)
        · exact HF.out _ BB
        clear hK K
        try simp only [Act.put, List.setIfInBounds_toArray, List.set_cons_zero, List.set_cons_succ]
        refine wpAnyH_take (i := 5) (oi := ?oic_5) (v := ?vc_5) ?hic_5 (by kernel_rfl) (by kernel_rfl) (by kernel_rfl) ?hQc_5 (Or.inl ⟨?hwc_5, ?hyc_5⟩) (by assumption) ?_
        case hic_5 => simp only [List.getElem?_toArray, List.getElem?_cons_succ, List.getElem?_cons_zero]; rfl
        case hQc_5 => exact fun _ _ _ h => h
        case hwc_5 => rfl
        case hyc_5 => intro w hSw; (try dsimp only at hSw); (first | (go_simp; done) | (go_simp; with_reducible rfl))
        try simp only [Act.put, List.setIfInBounds_toArray, List.set_cons_zero, List.set_cons_succ]
        refine wpAnyH_take (i := 6) (oi := ?oic_6) (v := ?vc_6) ?hic_6 (by kernel_rfl) (by kernel_rfl) (by kernel_rfl) ?hQc_6 (Or.inl ⟨?hwc_6, ?hyc_6⟩) (by assumption) ?_
        case hic_6 => simp only [List.getElem?_toArray, List.getElem?_cons_succ, List.getElem?_cons_zero]; rfl
        case hQc_6 => exact fun _ _ _ h => h
        case hwc_6 => rfl
        case hyc_6 => intro w hSw; (try dsimp only at hSw); (first | (go_simp; done) | (go_simp; with_reducible rfl))
        try simp only [Act.put, List.setIfInBounds_toArray, List.set_cons_zero, List.set_cons_succ]
        refine wpAnyH_take (i := 7) (oi := ?oic_7) (v := ?vc_7) ?hic_7 (by kernel_rfl) (by kernel_rfl) (by kernel_rfl) ?hQc_7 (Or.inl ⟨?hwc_7, ?hyc_7⟩) (by assumption) ?_
        case hic_7 => simp only [List.getElem?_toArray, List.getElem?_cons_succ, List.getElem?_cons_zero]; rfl
        case hQc_7 => exact fun _ _ _ h => h
        case hwc_7 => rfl
        case hyc_7 => intro w hSw; (try dsimp only at hSw); (first | (go_simp; done) | (go_simp; with_reducible rfl))
        try simp only [Act.put, List.setIfInBounds_toArray, List.set_cons_zero, List.set_cons_succ]
        refine wpAnyH_take (i := 8) (oi := ?oic_8) (v := ?vc_8) ?hic_8 (by kernel_rfl) (by kernel_rfl) (by kernel_rfl) ?hQc_8 (Or.inl ⟨?hwc_8, ?hyc_8⟩) (by assumption) ?_
        case hic_8 => simp only [List.getElem?_toArray, List.getElem?_cons_succ, List.getElem?_cons_zero]; rfl
        case hQc_8 => exact fun _ _ _ h => h
        case hwc_8 => rfl
        case hyc_8 => intro w hSw; (try dsimp only at hSw); (first | (go_simp; done) | (go_simp; with_reducible rfl))
        try simp only [Act.put, List.setIfInBounds_toArray, List.set_cons_zero, List.set_cons_succ]
        refine wpAnyH_take (i := 9) (oi := ?oic_9) (v := ?vc_9) ?hic_9 (by kernel_rfl) (by kernel_rfl) (by kernel_rfl) ?hQc_9 (Or.inl ⟨?hwc_9, ?hyc_9⟩) (by assumption) ?_
        case hic_9 => simp only [List.getElem?_toArray, List.getElem?_cons_succ, List.getElem?_cons_zero]; rfl
        case hQc_9 => exact fun _ _ _ h => h
        case hwc_9 => rfl
        case hyc_9 => intro w hSw; (try dsimp only at hSw); (first | (go_simp; done) | (go_simp; with_reducible rfl))
        try simp only [Act.put, List.setIfInBounds_toArray, List.set_cons_zero, List.set_cons_succ]
        refine wpAnyH_take (i := 10) (oi := ?oic_10) (v := ?vc_10) ?hic_10 (by kernel_rfl) (by kernel_rfl) (by kernel_rfl) ?hQc_10 (Or.inl ⟨?hwc_10, ?hyc_10⟩) (by assumption) ?_
        case hic_10 => simp only [List.getElem?_toArray, List.getElem?_cons_succ, List.getElem?_cons_zero]; rfl
        case hQc_10 => exact fun _ _ _ h => h
        case hwc_10 => rfl
        case hyc_10 => intro w hSw; (try dsimp only at hSw); (first | (go_simp; done) | (go_simp; with_reducible rfl))
        try simp only [Act.put, List.setIfInBounds_toArray, List.set_cons_zero, List.set_cons_succ]
        refine wpAnyH_take (i := 11) (oi := ?oic_11) (v := ?vc_11) ?hic_11 (by kernel_rfl) (by kernel_rfl) (by kernel_rfl) ?hQc_11 (Or.inl ⟨?hwc_11, ?hyc_11⟩) (by assumption) ?_
        case hic_11 => simp only [List.getElem?_toArray, List.getElem?_cons_succ, List.getElem?_cons_zero]; rfl
        case hQc_11 => exact fun _ _ _ h => h
        case hwc_11 => rfl
        case hyc_11 => intro w hSw; (try dsimp only at hSw); (first | (go_simp; done) | (go_simp; with_reducible rfl))
        try simp only [Act.put, List.setIfInBounds_toArray, List.set_cons_zero, List.set_cons_succ]
        refine wpAnyH_take (i := 12) (oi := ?oic_12) (v := ?vc_12) ?hic_12 (by kernel_rfl) (by kernel_rfl) (by kernel_rfl) ?hQc_12 (Or.inl ⟨?hwc_12, ?hyc_12⟩) (by assumption) ?_
        case hic_12 => simp only [List.getElem?_toArray, List.getElem?_cons_succ, List.getElem?_cons_zero]; rfl
        case hQc_12 => exact fun _ _ _ h => h
        case hwc_12 => rfl
        case hyc_12 => intro w hSw; (try dsimp only at hSw); (first | (go_simp; done) | (go_simp; with_reducible rfl))
        try simp only [Act.put, List.setIfInBounds_toArray, List.set_cons_zero, List.set_cons_succ]
        refine wpAnyH_take (i := 13) (oi := ?oic_13) (v := ?vc_13) ?hic_13 (by kernel_rfl) (by kernel_rfl) (by kernel_rfl) ?hQc_13 (Or.inl ⟨?hwc_13, ?hyc_13⟩) (by assumption) ?_
        case hic_13 => simp only [List.getElem?_toArray, List.getElem?_cons_succ, List.getElem?_cons_zero]; rfl
        case hQc_13 => exact fun _ _ _ h => h
        case hwc_13 => rfl
        case hyc_13 => intro w hSw; (try dsimp only at hSw); (first | (go_simp; done) | (go_simp; with_reducible rfl))
        try simp only [Act.put, List.setIfInBounds_toArray, List.set_cons_zero, List.set_cons_succ]
        refine wpAnyH_take (i := 14) (oi := ?oic_14) (v := ?vc_14) ?hic_14 (by kernel_rfl) (by kernel_rfl) (by kernel_rfl) ?hQc_14 (Or.inl ⟨?hwc_14, ?hyc_14⟩) (by assumption) ?_
        case hic_14 => simp only [List.getElem?_toArray, List.getElem?_cons_succ, List.getElem?_cons_zero]; rfl
        case hQc_14 => exact fun _ _ _ h => h
        case hwc_14 => rfl
        case hyc_14 => intro w hSw; (try dsimp only at hSw); (first | (go_simp; done) | (go_simp; with_reducible rfl))
        try simp only [Act.put, List.setIfInBounds_toArray, List.set_cons_zero, List.set_cons_succ]
        refine wpAnyH_take (i := 15) (oi := ?oic_15) (v := ?vc_15) ?hic_15 (by kernel_rfl) (by kernel_rfl) (by kernel_rfl) ?hQc_15 (Or.inl ⟨?hwc_15, ?hyc_15⟩) (by assumption) ?_
        case hic_15 => simp only [List.getElem?_toArray, List.getElem?_cons_succ, List.getElem?_cons_zero]; rfl
        case hQc_15 => exact fun _ _ _ h => h
        case hwc_15 => rfl
        case hyc_15 => intro w hSw; (try dsimp only at hSw); (first | (go_simp; done) | (go_simp; with_reducible rfl))
        try simp only [Act.put, List.setIfInBounds_toArray, List.set_cons_zero, List.set_cons_succ]
        refine wpAnyH_take (i := 17) (oi := ?oic_17) (v := ?vc_17) ?hic_17 (by kernel_rfl) (by kernel_rfl) (by kernel_rfl) ?hQc_17 (Or.inl ⟨?hwc_17, ?hyc_17⟩) (by assumption) ?_
        case hic_17 => simp only [List.getElem?_toArray, List.getElem?_cons_succ, List.getElem?_cons_zero]; rfl
        case hQc_17 => exact fun _ _ _ h => h
        case hwc_17 => rfl
        case hyc_17 => intro w hSw; (try dsimp only at hSw); (first | (go_simp; done) | (go_simp; with_reducible rfl))
        try simp only [Act.put, List.setIfInBounds_toArray, List.set_cons_zero, List.set_cons_succ]
        refine wpAnyH_take (i := 18) (oi := ?oic_18) (v := ?vc_18) ?hic_18 (by kernel_rfl) (by kernel_rfl) (by kernel_rfl) ?hQc_18 (Or.inl ⟨?hwc_18, ?hyc_18⟩) (by assumption) ?_
        case hic_18 => simp only [List.getElem?_toArray, List.getElem?_cons_succ, List.getElem?_cons_zero]; rfl
        case hQc_18 => exact fun _ _ _ h => h
        case hwc_18 => rfl
        case hyc_18 => intro w hSw; (try dsimp only at hSw); (first | (go_simp; done) | (go_simp; with_reducible rfl))
        try simp only [Act.put, List.setIfInBounds_toArray, List.set_cons_zero, List.set_cons_succ]
        refine wpAnyH_ready (rs := [16]) (by kernel_rfl) (by simp) ?_
        refine AllReadyH.cons (o := ?oic_16) ?hic_16 (fun K hK => ?_) AllReadyH.nil
        case hic_16 => simp only [List.getElem?_toArray, List.getElem?_cons_succ, List.getElem?_cons_zero]; rfl
        go_simp
        go_at_call 31
        (with_reducible refine (implReg _ x.Host hx).mono ?_)
        rintro e w5 ⟨rfl, bq⟩
        replace BB : Below w2.heap.size w2 w5 := BB.trans (bq.mono BB.size)
        clear bq
        refine hK.out _ _ ?_ (fun hHeld => ?_)
        · exact HF.out _ BB
        clear hK K
        try simp only [Act.put, List.setIfInBounds_toArray, List.set_cons_zero, List.set_cons_succ]
        refine wpAnyH_ready (rs := [19]) (by kernel_rfl) (by simp) ?_
        refine AllReadyH.cons (o := ?oic_19) ?hic_19 (fun K hK => ?_) AllReadyH.nil
        case hic_19 => simp only [List.getElem?_toArray, List.getElem?_cons_succ, List.getElem?_cons_zero]; rfl
        go_simp
        go_at_call 31
        (with_reducible refine (implReg _ y.Host hy).mono ?_)
        rintro e w6 ⟨rfl, bq⟩
        replace BB : Below w2.heap.size w2 w6 := BB.trans (bq.mono BB.size)
        clear bq
        refine hK.out _ _ ?_ (fun hHeld => ?_)
        · exact HF.out _ BB
        clear hK K
        try simp only [Act.put, List.setIfInBounds_toArray, List.set_cons_zero, List.set_cons_succ]
        refine wpAnyH_take (i := 20) (oi := ?oic_20) (v := ?vc_20) ?hic_20 (by kernel_rfl) (by kernel_rfl) (by kernel_rfl) ?hQc_20 (Or.inl ⟨?hwc_20, ?hyc_20⟩) (by assumption) ?_
        case hic_20 => simp only [List.getElem?_toArray, List.getElem?_cons_succ, List.getElem?_cons_zero]; rfl
        case hQc_20 => exact fun _ _ _ h => h
        case hwc_20 => rfl
        case hyc_20 => intro w hSw; (try dsimp only at hSw); (first | (go_simp; done) | (go_simp; with_reducible rfl))
        try simp only [Act.put, List.setIfInBounds_toArray, List.set_cons_zero, List.set_cons_succ]
        refine wpAnyH_take (i := 21) (oi := ?oic_21) (v := ?vc_21) ?hic_21 (by kernel_rfl) (by kernel_rfl) (by kernel_rfl) ?hQc_21 (Or.inl ⟨?hwc_21, ?hyc_21⟩) (by assumption) ?_
        case hic_21 => simp only [List.getElem?_toArray, List.getElem?_cons_succ, List.getElem?_cons_zero]; rfl
        case hQc_21 => exact fun _ _ _ h => h
        case hwc_21 => rfl
        case hyc_21 => intro w hSw; (try dsimp only at hSw); (first | (go_simp; done) | (go_simp; with_reducible rfl))
        try simp only [Act.put, List.setIfInBounds_toArray, List.set_cons_zero, List.set_cons_succ]
        refine wpAnyH_take (i := 22) (oi := ?oic_22) (v := ?vc_22) ?hic_22 (by kernel_rfl) (by kernel_rfl) (by kernel_rfl) ?hQc_22 (Or.inl ⟨?hwc_22, ?hyc_22⟩) (by assumption) ?_
        case hic_22 => simp only [List.getElem?_toArray, List.getElem?_cons_succ, List.getElem?_cons_zero]; rfl
        case hQc_22 => exact fun _ _ _ h => h
        case hwc_22 => rfl
        case hyc_22 => intro w hSw; (try dsimp only at hSw); (first | (go_simp; done) | (go_simp; with_reducible rfl))
        try simp only [Act.put, List.setIfInBounds_toArray, List.set_cons_zero, List.set_cons_succ]
        refine wpAnyH_done (by kernel_rfl) ?_ _
        go_wp2
        go_ret
        exact ⟨by rw [HV.out]; rfl, HB.trans (BB.mono HB.size)⟩
      · obtain rfl : r = false := by rw [HR.out]; unfold sameO; rw [ha, hb]; simp [hs]
        have hse : (x.Secure == y.Secure) = false := by simpa using hs
        clear ha hb HR hs
        go_enter Tryz.func77, Tryz.ntmps77
        go_wp2_with fail
        rw [← hw1, ← hw2]
        clear hw1 hw2 s1
        refine wp_region_held_drew (S := (fun wx => wx.cell? ⟨w.heap.size, 0, none⟩ = some (.bool x.Secure) ∧ wx.cell? ⟨w.heap.size, 1, none⟩ = some (.string x.Host) ∧ wx.cell? ⟨w.heap.size, 2, none⟩ = some (.int .i64 x.Port) ∧ wx.cell? ⟨w.heap.size + 1, 0, none⟩ = some (.bool y.Secure) ∧ wx.cell? ⟨w.heap.size + 1, 1, none⟩ = some (.string y.Host) ∧ wx.cell? ⟨w.heap.size + 1, 2, none⟩ = some (.int .i64 y.Port))) (by kernel_rfl) ?_ (fun hHeld => ?_)
        · exact HF.out _ BB
        refine wpAnyH_take (i := 0) (oi := ?oid_0) (v := ?vd_0) ?hid_0 (by kernel_rfl) (by kernel_rfl) (by kernel_rfl) ?hQd_0 (Or.inl ⟨?hwd_0, ?hyd_0⟩) (by assumption) ?_
        case hid_0 => simp only [List.getElem?_toArray, List.getElem?_cons_zero]; rfl
        case hQd_0 => exact fun _ _ _ h => h
        case hwd_0 => rfl
        case hyd_0 => intro w hSw; (try dsimp only at hSw); (first | (go_simp; done) | (go_simp; with_reducible rfl))
        try simp only [Act.put, List.setIfInBounds_toArray, List.set_cons_zero, List.set_cons_succ]
        refine wpAnyH_ready (rs := [1]) (by kernel_rfl) (by simp) ?_
        refine AllReadyH.cons (o := ?oid_1) ?hid_1 (fun K hK => ?_) AllReadyH.nil
        case hid_1 => simp only [List.getElem?_toArray, List.getElem?_cons_succ, List.getElem?_cons_zero]; rfl
        go_simp
        go_at_call 66
        (with_reducible refine (HA.out _).mono ?_)
        rintro e w3 ⟨rfl, bq⟩
        replace BB : Below w2.heap.size w2 w3 := BB.trans (bq.mono BB.size)
        clear bq
        refine hK.out _ _ ?_ (fun hHeld => ?_)
        · exact HF.out _ BB
        clear hK K
        try simp only [Act.put, List.setIfInBounds_toArray, List.set_cons_zero, List.set_cons_succ]
        refine wpAnyH_take (i := 2) (oi := ?oid_2) (v := ?vd_2) ?hid_2 (by kernel_rfl) (by kernel_rfl) (by kernel_rfl) ?hQd_2 (Or.inl ⟨?hwd_2, ?hyd_2⟩) (by assumption) ?_
        case hid_2 => simp only [List.getElem?_toArray, List.getElem?_cons_succ, List.getElem?_cons_zero]; rfl
        case hQd_2 => exact fun _ _ _ h => h
        case hwd_2 => rfl
        case hyd_2 => intro w hSw; (try dsimp only at hSw); (first | (go_simp; done) | (go_simp; with_reducible rfl))
        try simp only [Act.put, List.setIfInBounds_toArray, List.set_cons_zero, List.set_cons_succ]
        refine wpAnyH_take (i := 3) (oi := ?oid_3) (v := ?vd_3) ?hid_3 (by kernel_rfl) (by kernel_rfl) (by kernel_rfl) ?hQd_3 (Or.inl ⟨?hwd_3, ?hyd_3⟩) (by assumption) ?_
        case hid_3 => simp only [List.getElem?_toArray, List.getElem?_cons_succ, List.getElem?_cons_zero]; rfl
        case hQd_3 => exact fun _ _ _ h => h
        case hwd_3 => rfl
        case hyd_3 => intro w hSw; (try dsimp only at hSw); (first | (go_simp; done) | (go_simp; with_reducible rfl))
        try simp only [Act.put, List.setIfInBounds_toArray, List.set_cons_zero, List.set_cons_succ]
        refine wpAnyH_ready (rs := [4]) (by kernel_rfl) (by simp) ?_
        refine AllReadyH.cons (o := ?oid_4) ?hid_4 (fun K hK => ?_) AllReadyH.nil
        case hid_4 => simp only [List.getElem?_toArray, List.getElem?_cons_succ, List.getElem?_cons_zero]; rfl
        go_simp
        go_at_call 66
        (with_reducible refine (HC.out _).mono ?_)
        rintro e w4 ⟨rfl, bq⟩
        replace BB : Below w2.heap.size w2 w4 := BB.trans (bq.mono BB.size)
        clear bq
        refine hK.out _ _ ?_ (fun hHeld => ?_)
        · exact HF.out _ BB
        clear hK K
        try simp only [Act.put, List.setIfInBounds_toArray, List.set_cons_zero, List.set_cons_succ]
        refine wpAnyH_take (i := 5) (oi := ?oid_5) (v := ?vd_5) ?hid_5 (by kernel_rfl) (by kernel_rfl) (by kernel_rfl) ?hQd_5 (Or.inl ⟨?hwd_5, ?hyd_5⟩) (by assumption) ?_
        case hid_5 => simp only [List.getElem?_toArray, List.getElem?_cons_succ, List.getElem?_cons_zero]; rfl
        case hQd_5 => exact fun _ _ _ h => h
        case hwd_5 => rfl
        case hyd_5 => intro w hSw; (try dsimp only at hSw); (first | (go_simp; done) | (go_simp; with_reducible rfl))
        try simp only [Act.put, List.setIfInBounds_toArray, List.set_cons_zero, List.set_cons_succ]
        refine wpAnyH_take (i := 6) (oi := ?oid_6) (v := ?vd_6) ?hid_6 (by kernel_rfl) (by kernel_rfl) (by kernel_rfl) ?hQd_6 (Or.inl ⟨?hwd_6, ?hyd_6⟩) (by assumption) ?_
        case hid_6 => simp only [List.getElem?_toArray, List.getElem?_cons_succ, List.getElem?_cons_zero]; rfl
        case hQd_6 => exact fun _ _ _ h => h
        case hwd_6 => rfl
        case hyd_6 => intro w hSw; (try dsimp only at hSw); (first | (go_simp; done) | (go_simp; with_reducible rfl))
        try simp only [Act.put, List.setIfInBounds_toArray, List.set_cons_zero, List.set_cons_succ]
        refine wpAnyH_take (i := 7) (oi := ?oid_7) (v := ?vd_7) ?hid_7 (by kernel_rfl) (by kernel_rfl) (by kernel_rfl) ?hQd_7 (Or.inl ⟨?hwd_7, ?hyd_7⟩) (by assumption) ?_
        case hid_7 => simp only [List.getElem?_toArray, List.getElem?_cons_succ, List.getElem?_cons_zero]; rfl
        case hQd_7 => exact fun _ _ _ h => h
        case hwd_7 => rfl
        case hyd_7 => intro w hSw; (try dsimp only at hSw); (first | (go_simp; done) | (go_simp; with_reducible rfl))
        try simp only [Act.put, List.setIfInBounds_toArray, List.set_cons_zero, List.set_cons_succ]
        refine wpAnyH_take (i := 8) (oi := ?oid_8) (v := ?vd_8) ?hid_8 (by kernel_rfl) (by kernel_rfl) (by kernel_rfl) ?hQd_8 (Or.inl ⟨?hwd_8, ?hyd_8⟩) (by assumption) ?_
        case hid_8 => simp only [List.getElem?_toArray, List.getElem?_cons_succ, List.getElem?_cons_zero]; rfl
        case hQd_8 => exact fun _ _ _ h => h
        case hwd_8 => rfl
        case hyd_8 => intro w hSw; (try dsimp only at hSw); (first | (go_simp; done) | (go_simp; with_reducible rfl))
        try simp only [Act.put, List.setIfInBounds_toArray, List.set_cons_zero, List.set_cons_succ]
        refine wpAnyH_take (i := 9) (oi := ?oid_9) (v := ?vd_9) ?hid_9 (by kernel_rfl) (by kernel_rfl) (by kernel_rfl) ?hQd_9 (Or.inl ⟨?hwd_9, ?hyd_9⟩) (by assumption) ?_
        case hid_9 => simp only [List.getElem?_toArray, List.getElem?_cons_succ, List.getElem?_cons_zero]; rfl
        case hQd_9 => exact fun _ _ _ h => h
        case hwd_9 => rfl
        case hyd_9 => intro w hSw; (try dsimp only at hSw); (first | (go_simp; done) | (go_simp; with_reducible rfl))
        try simp only [Act.put, List.setIfInBounds_toArray, List.set_cons_zero, List.set_cons_succ]
        refine wpAnyH_take (i := 10) (oi := ?oid_10) (v := ?vd_10) ?hid_10 (by kernel_rfl) (by kernel_rfl) (by kernel_rfl) ?hQd_10 (Or.inl ⟨?hwd_10, ?hyd_10⟩) (by assumption) ?_
        case hid_10 => simp only [List.getElem?_toArray, List.getElem?_cons_succ, List.getElem?_cons_zero]; rfl
        case hQd_10 => exact fun _ _ _ h => h
        case hwd_10 => rfl
        case hyd_10 => intro w hSw; (try dsimp only at hSw); (first | (go_simp; done) | (go_simp; with_reducible rfl))
        try simp only [Act.put, List.setIfInBounds_toArray, List.set_cons_zero, List.set_cons_succ]
        refine wpAnyH_take (i := 11) (oi := ?oid_11) (v := ?vd_11) ?hid_11 (by kernel_rfl) (by kernel_rfl) (by kernel_rfl) ?hQd_11 (Or.inl ⟨?hwd_11, ?hyd_11⟩) (by assumption) ?_
        case hid_11 => simp only [List.getElem?_toArray, List.getElem?_cons_succ, List.getElem?_cons_zero]; rfl
        case hQd_11 => exact fun _ _ _ h => h
        case hwd_11 => rfl
        case hyd_11 => intro w hSw; (try dsimp only at hSw); (first | (go_simp; done) | (go_simp; with_reducible rfl))
        try simp only [Act.put, List.setIfInBounds_toArray, List.set_cons_zero, List.set_cons_succ]
        refine wpAnyH_take (i := 12) (oi := ?oid_12) (v := ?vd_12) ?hid_12 (by kernel_rfl) (by kernel_rfl) (by kernel_rfl) ?hQd_12 (Or.inl ⟨?hwd_12, ?hyd_12⟩) (by assumption) ?_
        case hid_12 => simp only [List.getElem?_toArray, List.getElem?_cons_succ, List.getElem?_cons_zero]; rfl
        case hQd_12 => exact fun _ _ _ h => h
        case hwd_12 => rfl
        case hyd_12 => intro w hSw; (try dsimp only at hSw); (first | (go_simp; done) | (go_simp; with_reducible rfl))
        try simp only [Act.put, List.setIfInBounds_toArray, List.set_cons_zero, List.set_cons_succ]
        refine wpAnyH_take (i := 13) (oi := ?oid_13) (v := ?vd_13) ?hid_13 (by kernel_rfl) (by kernel_rfl) (by kernel_rfl) ?hQd_13 (Or.inl ⟨?hwd_13, ?hyd_13⟩) (by assumption) ?_
        case hid_13 => simp only [List.getElem?_toArray, List.getElem?_cons_succ, List.getElem?_cons_zero]; rfl
        case hQd_13 => exact fun _ _ _ h => h
        case hwd_13 => rfl
        case hyd_13 => intro w hSw; (try dsimp only at hSw); (first | (go_simp; done) | (go_simp; with_reducible rfl))
        try simp only [Act.put, List.setIfInBounds_toArray, List.set_cons_zero, List.set_cons_succ]
        refine wpAnyH_take (i := 14) (oi := ?oid_14) (v := undef) ?hid_14 (by kernel_rfl) (by kernel_rfl) (by kernel_rfl) ?hQd_14 (Or.inr ⟨?hwd_14, rfl⟩) (by assumption) ?_
        case hid_14 => simp only [List.getElem?_toArray, List.getElem?_cons_succ, List.getElem?_cons_zero]; rfl
        case hQd_14 => exact fun _ _ _ h => h
        case hwd_14 => rfl
        try simp only [Act.put, List.setIfInBounds_toArray, List.set_cons_zero, List.set_cons_succ]
        refine wpAnyH_take (i := 15) (oi := ?oid_15) (v := undef) ?hid_15 (by kernel_rfl) (by kernel_rfl) (by kernel_rfl) ?hQd_15 (Or.inr ⟨?hwd_15, rfl⟩) (by assumption) ?_
        case hid_15 => simp only [List.getElem?_toArray, List.getElem?_cons_succ, List.getElem?_cons_zero]; rfl
        case hQd_15 => exact fun _ _ _ h => h
        case hwd_15 => rfl
        try simp only [Act.put, List.setIfInBounds_toArray, List.set_cons_zero, List.set_cons_succ]
        refine wpAnyH_take (i := 16) (oi := ?oid_16) (v := undef) ?hid_16 (by kernel_rfl) (by kernel_rfl) (by kernel_rfl) ?hQd_16 (Or.inr ⟨?hwd_16, rfl⟩) (by assumption) ?_
        case hid_16 => simp only [List.getElem?_toArray, List.getElem?_cons_succ, List.getElem?_cons_zero]; rfl
        case hQd_16 => exact fun _ _ _ h => h
        case hwd_16 => rfl
        try simp only [Act.put, List.setIfInBounds_toArray, List.set_cons_zero, List.set_cons_succ]
        refine wpAnyH_take (i := 17) (oi := ?oid_17) (v := undef) ?hid_17 (by kernel_rfl) (by kernel_rfl) (by kernel_rfl) ?hQd_17 (Or.inr ⟨?hwd_17, rfl⟩) (by assumption) ?_
        case hid_17 => simp only [List.getElem?_toArray, List.getElem?_cons_succ, List.getElem?_cons_zero]; rfl
        case hQd_17 => exact fun _ _ _ h => h
        case hwd_17 => rfl
        try simp only [Act.put, List.setIfInBounds_toArray, List.set_cons_zero, List.set_cons_succ]
        refine wpAnyH_take (i := 18) (oi := ?oid_18) (v := undef) ?hid_18 (by kernel_rfl) (by kernel_rfl) (by kernel_rfl) ?hQd_18 (Or.inr ⟨?hwd_18, rfl⟩) (by assumption) ?_
        case hid_18 => simp only [List.getElem?_toArray, List.getElem?_cons_succ, List.getElem?_cons_zero]; rfl
        case hQd_18 => exact fun _ _ _ h => h
        case hwd_18 => rfl
        try simp only [Act.put, List.setIfInBounds_toArray, List.set_cons_zero, List.set_cons_succ]
        refine wpAnyH_take (i := 19) (oi := ?oid_19) (v := undef) ?hid_19 (by kernel_rfl) (by kernel_rfl) (by kernel_rfl) ?hQd_19 (Or.inr ⟨?hwd_19, rfl⟩) (by assumption) ?_
        case hid_19 => simp only [List.getElem?_toArray, List.getElem?_cons_succ, List.getElem?_cons_zero]; rfl
        case hQd_19 => exact fun _ _ _ h => h
        case hwd_19 => rfl
        try simp only [Act.put, List.setIfInBounds_toArray, List.set_cons_zero, List.set_cons_succ]
        refine wpAnyH_take (i := 20) (oi := ?oid_20) (v := undef) ?hid_20 (by kernel_rfl) (by kernel_rfl) (by kernel_rfl) ?hQd_20 (Or.inr ⟨?hwd_20, rfl⟩) (by assumption) ?_
        case hid_20 => simp only [List.getElem?_toArray, List.getElem?_cons_succ, List.getElem?_cons_zero]; rfl
        case hQd_20 => exact fun _ _ _ h => h
        case hwd_20 => rfl
        try simp only [Act.put, List.setIfInBounds_toArray, List.set_cons_zero, List.set_cons_succ]
        refine wpAnyH_take (i := 21) (oi := ?oid_21) (v := ?vd_21) ?hid_21 (by kernel_rfl) (by kernel_rfl) (by kernel_rfl) ?hQd_21 (Or.inl ⟨?hwd_21, ?hyd_21⟩) (by assumption) ?_
        case hid_21 => simp only [List.getElem?_toArray, List.getElem?_cons_succ, List.getElem?_cons_zero]; rfl
        case hQd_21 => exact fun _ _ _ h => h
        case hwd_21 => rfl
        case hyd_21 => intro w hSw; (try dsimp only at hSw); (first | (go_simp; done) | (go_simp; with_reducible rfl))
        try simp only [Act.put, List.setIfInBounds_toArray, List.set_cons_zero, List.set_cons_succ]
        refine wpAnyH_take (i := 22) (oi := ?oid_22) (v := ?vd_22) ?hid_22 (by kernel_rfl) (by kernel_rfl) (by kernel_rfl) ?hQd_22 (Or.inl ⟨?hwd_22, ?hyd_22⟩) (by assumption) ?_
        case hid_22 => simp only [List.getElem?_toArray, List.getElem?_cons_succ, List.getElem?_cons_zero]; rfl
        case hQd_22 => exact fun _ _ _ h => h
        case hwd_22 => rfl
        case hyd_22 => intro w hSw; (try dsimp only at hSw); (first | (go_simp; done) | (go_simp; with_reducible rfl))
        try simp only [Act.put, List.setIfInBounds_toArray, List.set_cons_zero, List.set_cons_succ]
        refine wpAnyH_done (by kernel_rfl) ?_ _
        go_wp2
        go_ret
        exact ⟨rfl, HB.trans (BB.mono HB.size)⟩
theorem implSame (w : World) (x y : Fx.Origin) (us vs : List Value) (h : RdsL w w.heap.size x.dcs us) (h2 : RdsL w w.heap.size y.dcs vs) (hx : x.Host.size ≤ 4294967296) (hy : y.Host.size ≤ 4294967296) :
    Calls Tryz.prog 30 #[.agg us.toArray, .agg vs.toArray] w (Gives (.bool (sameO x y)) w) := by
  obtain rfl := Origin.rds h
  obtain rfl := Origin.rds h2
  clear h h2
  have HS := Lib.hid (fun wx : World => show Calls Tryz.prog 77 #[.agg #[.bool x.Secure, .string x.Host, .int .i64 x.Port], .agg #[.bool y.Secure, .string y.Host, .int .i64 y.Port]] wx (Gives (.bool (sameO x y)) wx) from implSameM wx x y [.bool x.Secure, .string x.Host, .int .i64 x.Port] [.bool y.Secure, .string y.Host, .int .i64 y.Port] Origin.mkR Origin.mkR hx hy)
  obtain ⟨w1, hw1⟩ : ∃ z, z = w.alloc (.cells #[.bool x.Secure, .string x.Host, .int .i64 x.Port] 45) := ⟨_, rfl⟩
  obtain ⟨w2, hw2⟩ : ∃ z, z = w1.alloc (.cells #[.bool y.Secure, .string y.Host, .int .i64 y.Port] 45) := ⟨_, rfl⟩
  have s1 : w1.heap.size = w.heap.size + 1 := by rw [hw1]; simp
  have op := Fx.var_owns w 45 3 [.bool x.Secure, .string x.Host, .int .i64 x.Port] rfl
  have oz := Fx.var_owns w1 45 3 [.bool y.Secure, .string y.Host, .int .i64 y.Port] rfl
  have b01 : Below w.heap.size w w1 := hw1 ▸ (Below.refl _ _).alloc (Nat.le_refl _) _
  have b12 : Below w1.heap.size w1 w2 := hw2 ▸ (Below.refl _ _).alloc (Nat.le_refl _) _
  rw [← hw1] at op
  rw [← hw2, s1] at oz
  replace op := owns_below op b12
  have HB : Below w.heap.size w w2 := b01.trans (b12.mono b01.size)
  have l2 : w.heap.size + 1 < w2.heap.size := Fx.var_lt oz
  have a0 := Fx.var_load op (by simp) 0 _ rfl
  have a1 := Fx.var_load op (by simp) 1 _ rfl
  have a2 := Fx.var_load op (by simp) 2 _ rfl
  have e0 := Fx.var_load oz (by simp) 0 _ rfl
  have e1 := Fx.var_load oz (by simp) 1 _ rfl
  have e2 := Fx.var_load oz (by simp) 2 _ rfl
  clear op oz b01 b12
  go_enter Tryz.func30, Tryz.ntmps30
  go_wp2_with fail
  rw [← hw1, ← hw2]
  clear hw1 hw2 s1
  go_wp2_with fail
  (refine (HS.out _).mono ?_); rintro e w3 ⟨rfl, b3⟩
  go_wp2
  go_ret
  exact ⟨rfl, HB.trans (b3.mono HB.size)⟩
set_option maxRecDepth 100000 in
theorem implSiteH (w : World) (s : ByteArray) (hs : s.size ≤ 16000000) : Calls Tryz.prog 33 #[.string s] w (Gives (.int .i64 (M3.derive 173 (C3b.sbytes s))) w) := by
  go_enter Tryz.func33, Tryz.ntmps33
  go_wp2_with fail
  (with_reducible refine (C3b.implDerive _ 173 s (by omega) (by omega) (by omega)).mono ?_); rintro e w2 ⟨rfl, b2⟩
  go_wp2
  go_ret
  exact ⟨rfl, b2⟩
end Go.Proofs.YtialhhdhpjjkaaaGreatDoor.C9j
