import Derived.Test.YtialhhdhpjjkaaaGreatDoorC9
import Derived.Test.YtialhhdhpjjkaaaGreatDoorM13
import Derived.Test.YtialhhdhpjjkaaaGreatDoorC1F
import Derived.Test.YtialhhdhpjjkaaaGreatDoorC1P
import Derived.Test.YtialhhdhpjjkaaaGreatDoorBa
import Derived.Deep.RegionHeld3
import Derived.Deep.RegionLaw
/-
  Contracts of chapter 9's origins, of the model.
-/
namespace Go.Proofs.YtialhhdhpjjkaaaGreatDoor.C9b
open Go.ChangeShapes Go.WideShapes Go.ChangeAt Go.RowKit
open S0 S9 Dm Fx M12 M13 C9
set_option linter.unusedVariables false
set_option maxHeartbeats 1600000 in
set_option maxRecDepth 100000 in
theorem specOrg (w : World) (x : Fx.Origin) (vs : List Value) (h : RdsL w w.heap.size x.dcs vs) (hs : x.Host.size ≤ 4294967296) : Calls Tryz.prog 24 #[.agg vs.toArray] w (Gives (.bool (orgB x)) w) := by
  obtain rfl := Origin.rds h
  obtain ⟨r, hr⟩ : ∃ r, r = orgB x := ⟨_, rfl⟩
  rw [← hr]
  have HR := Lib.hid hr
  clear hr h
  have b0 : Below w.heap.size w (w.alloc (.cells #[.bool x.Secure, .string x.Host, .int .i64 x.Port] 45)) := (Below.refl _ _).alloc (Nat.le_refl _) _
  have HH := Lib.hid (show Calls Tryz.prog 71 #[.string x.Host] (w.alloc (.cells #[.bool x.Secure, .string x.Host, .int .i64 x.Port] 45)) (Gives (.bool (host (bts x.Host))) (w.alloc (.cells #[.bool x.Secure, .string x.Host, .int .i64 x.Port] 45))) from specHost x.Host _ hs)
  cases hh : host (bts x.Host) with
  | false =>
    obtain rfl : r = false := by rw [HR.out]; unfold orgB; rw [hh]; rfl
    rw [hh] at HH
    go_enter Tryz.func24, Tryz.ntmps24
    go_wp2_with fail
    (refine HH.out.mono ?_); rintro e w2 ⟨rfl, b2⟩
    go_wp2
    go_ret
    exact ⟨rfl, b0.trans (b2.mono b0.size)⟩
  | true =>
    rw [hh] at HH
    have hp2 : r = (decide (1 ≤ x.Port) && decide (x.Port ≤ 65535)) := by rw [HR.out]; unfold orgB; rw [hh]; rfl
    clear HR hh
    go_enter Tryz.func24, Tryz.ntmps24
    go_wp2_with fail
    (refine HH.out.mono ?_); rintro e w2 ⟨rfl, b2⟩
    have c2 : w2.cell? ⟨w.heap.size, 2, none⟩ = some (.int .i64 x.Port) := (b2.cell (p := ⟨w.heap.size, 2, none⟩) (by simp)).trans (by exact cell_of_row _ _ 2 _ 45 (0, 0) (heap_alloc_last w _))
    by_cases hp : 1 ≤ x.Port ∧ x.Port ≤ 65535
    · obtain rfl : r = true := by rw [hp2, decide_eq_true hp.1, decide_eq_true hp.2]; rfl
      clear hp2
      go_wp2_with fail
      (with_reducible refine (C1.specIn_t _ 1 65535 _ hp.1 hp.2).mono ?_); rintro e w3 ⟨rfl, rfl⟩
      go_wp2
      go_ret
      exact ⟨rfl, b0.trans (b2.mono b0.size)⟩
    · obtain rfl : r = false := by
        rw [hp2]
        by_cases h1 : 1 ≤ x.Port
        · rw [decide_eq_true h1, decide_eq_false (by omega)]; rfl
        · rw [decide_eq_false h1]; rfl
      clear hp2
      go_wp2_with fail
      (with_reducible refine (C1.specIn_f _ 1 65535 _ (by omega)).mono ?_); rintro e w3 ⟨rfl, rfl⟩
      go_wp2
      go_ret
      exact ⟨rfl, b0.trans (b2.mono b0.size)⟩
theorem itoa_size (n : Int) (h0 : 1 ≤ n) (h1 : n ≤ 65535) : (Lib.itoa n).length ≤ 20 := by
  have h := C1P.itoa_nat n.toNat
  rw [show ((n.toNat : Nat) : Int) = n by omega] at h
  rw [h]
  have := M1P.digits_len13 n.toNat (by omega)
  omega
set_option maxHeartbeats 3200000 in
set_option maxRecDepth 100000 in
theorem specFmtO (w : World) (x : Fx.Origin) (vs : List Value) (h : RdsL w w.heap.size x.dcs vs) (hs : x.Host.size ≤ 4294967296) : Calls Tryz.prog 70 #[.agg vs.toArray] w (Gives (.string (str (fmtO x))) w) := by
  obtain rfl := Origin.rds h
  obtain ⟨w1, hw1⟩ : ∃ y, y = w.alloc (.cells #[.bool x.Secure, .string x.Host, .int .i64 x.Port] 45) := ⟨_, rfl⟩
  have b0 : Below w.heap.size w w1 := hw1 ▸ (Below.refl _ _).alloc (Nat.le_refl _) _
  have op := Fx.var_owns w 45 3 [.bool x.Secure, .string x.Host, .int .i64 x.Port] rfl
  rw [← hw1] at op
  have HR1 := Lib.hid (rdsL_on h b0)
  clear h
  cases ho : orgB x with
  | false =>
    have HF := Lib.hid (show str (fmtO x) = ⟨#[]⟩ by rw [fmtO_f ho]; rfl)
    have HO := Lib.hid (show Calls Tryz.prog 24 #[.agg [.bool x.Secure, .string x.Host, .int .i64 x.Port].toArray] w1 (Gives (.bool false) w1) from ho ▸ specOrg w1 x _ HR1.out hs)
    clear ho
    go_enter Tryz.func70, Tryz.ntmps70
    go_wp2_with fail
    rw [← hw1]
    (refine HO.out.mono ?_); rintro e w2 ⟨rfl, b2⟩
    go_wp2
    go_ret
    exact ⟨by rw [HF.out]; rfl, b0.trans (b2.mono b0.size)⟩
  | true =>
    obtain ⟨hh, hp0, hp1⟩ := orgB_parts ho
    have hh60 := host_len hh
    rw [bts_len] at hh60
    have HO := Lib.hid (show Calls Tryz.prog 24 #[.agg [.bool x.Secure, .string x.Host, .int .i64 x.Port].toArray] w1 (Gives (.bool true) w1) from ho ▸ specOrg w1 x _ HR1.out hs)
    have HT := Lib.hid (fmtO_t ho)
    have his := itoa_size x.Port hp0 hp1
    clear ho hh
    go_enter Tryz.func70, Tryz.ntmps70
    go_wp2_with fail
    rw [← hw1]
    (refine HO.out.mono ?_); rintro e w2 ⟨rfl, b2⟩
    have op2 := owns_below op b2
    have c0 : w2.cell? ⟨w.heap.size, 0, none⟩ = some (.bool x.Secure) := Fx.var_load op2 (by simp) 0 _ rfl
    have c1 : w2.cell? ⟨w.heap.size, 1, none⟩ = some (.string x.Host) := Fx.var_load op2 (by simp) 1 _ rfl
    have c2 : w2.cell? ⟨w.heap.size, 2, none⟩ = some (.int .i64 x.Port) := Fx.var_load op2 (by simp) 2 _ rfl
    have HB := Lib.hid (b0.trans (b2.mono b0.size))
    have lp := Fx.var_lt op2
    clear op op2 b2 HO HR1 hw1 b0
    cases hsec : x.Secure with
    | true =>
      rw [hsec] at c0
      by_cases hu : x.Port = 443
      · have hub : (x.Port == 443) = true := by simpa using hu
        have HV := Lib.hid (show str (fmtO x) = ⟨#[104, 116, 116, 112, 115, 58, 47, 47]⟩ ++ x.Host by
          apply bts_inj
          rw [bts_str, HT.out, hsec, hu, bts_app]
          simp [usual, pre]
          rfl)
        go_wp2
        go_ret
        exact ⟨by rw [HV.out]; rfl, HB.out⟩
      · have hub : (x.Port == 443) = false := by simpa using hu
        have HV := Lib.hid (show str (fmtO x) = ⟨#[104, 116, 116, 112, 115, 58, 47, 47]⟩ ++ x.Host ++ ⟨#[58]⟩ ++ ⟨(Lib.itoa x.Port).toArray⟩ by
          apply bts_inj
          rw [bts_str, HT.out, hsec, bts_app, bts_app, bts_app, if_neg (by simpa [usual] using hu)]
          simp [pre, bts])
        have n1 : ¬ 9223372036854775807 < 8 + x.Host.size := by omega
        have n2 : ¬ 9223372036854775807 < 8 + x.Host.size + 1 := by omega
        have n3 : ¬ 9223372036854775807 < 8 + x.Host.size + 1 + (Lib.itoa x.Port).length := by omega
        go_wp2_with fail
        go_region_held3 (fun wx => wx.cell? ⟨w.heap.size, 1, none⟩ = some (.string x.Host) ∧ wx.cell? ⟨w.heap.size, 2, none⟩ = some (.int .i64 x.Port)) (first | exact ⟨c1, c2⟩ | exact ⟨k1, k2⟩) (first | (go_at_call 107; (with_reducible refine (C1F.specFmt x.Port _ (by omega) (by omega)).mono ?_); rintro e w3 ⟨rfl, b3⟩; replace b3 : Below w2.heap.size w2 w3 := (drewN_below w2 1 _).trans b3; have k1 := (b3.cell (p := ⟨w.heap.size, 1, none⟩) lp).trans c1; have k2 := (b3.cell (p := ⟨w.heap.size, 2, none⟩) lp).trans c2))
        have HB3 := HB.out.trans (b3.mono HB.out.size)
        go_wp2
        go_ret
        exact ⟨by rw [HV.out]; rfl, HB3⟩
    | false =>
      rw [hsec] at c0
      by_cases hu : x.Port = 80
      · have hub : (x.Port == 80) = true := by simpa using hu
        have HV := Lib.hid (show str (fmtO x) = ⟨#[104, 116, 116, 112, 58, 47, 47]⟩ ++ x.Host by
          apply bts_inj
          rw [bts_str, HT.out, hsec, hu, bts_app]
          simp [usual, pre]
          rfl)
        go_wp2
        go_ret
        exact ⟨by rw [HV.out]; rfl, HB.out⟩
      · have hub : (x.Port == 80) = false := by simpa using hu
        have HV := Lib.hid (show str (fmtO x) = ⟨#[104, 116, 116, 112, 58, 47, 47]⟩ ++ x.Host ++ ⟨#[58]⟩ ++ ⟨(Lib.itoa x.Port).toArray⟩ by
          apply bts_inj
          rw [bts_str, HT.out, hsec, bts_app, bts_app, bts_app, if_neg (by simpa [usual] using hu)]
          simp [pre, bts])
        have n1 : ¬ 9223372036854775807 < 7 + x.Host.size := by omega
        have n2 : ¬ 9223372036854775807 < 7 + x.Host.size + 1 := by omega
        have n3 : ¬ 9223372036854775807 < 7 + x.Host.size + 1 + (Lib.itoa x.Port).length := by omega
        go_wp2_with fail
        go_region_held3 (fun wx => wx.cell? ⟨w.heap.size, 1, none⟩ = some (.string x.Host) ∧ wx.cell? ⟨w.heap.size, 2, none⟩ = some (.int .i64 x.Port)) (first | exact ⟨c1, c2⟩ | exact ⟨k1, k2⟩) (first | (go_at_call 107; (with_reducible refine (C1F.specFmt x.Port _ (by omega) (by omega)).mono ?_); rintro e w3 ⟨rfl, b3⟩; replace b3 : Below w2.heap.size w2 w3 := (drewN_below w2 1 _).trans b3; have k1 := (b3.cell (p := ⟨w.heap.size, 1, none⟩) lp).trans c1; have k2 := (b3.cell (p := ⟨w.heap.size, 2, none⟩) lp).trans c2))
        have HB3 := HB.out.trans (b3.mono HB.out.size)
        go_wp2
        go_ret
        exact ⟨by rw [HV.out]; rfl, HB3⟩
theorem reg_f {s : List UInt8} (h : host s = false) : reg s = [] := by unfold reg; rw [if_neg (by rw [h]; simp)]
theorem reg_t {s : List UInt8} (h : host s = true) : reg s = if (split s).length < 2 then s else (split s).getD ((split s).length - 2) [] ++ 46 :: (split s).getD ((split s).length - 1) [] := by unfold reg; rw [if_pos h]
set_option maxHeartbeats 1600000 in
set_option maxRecDepth 100000 in
theorem specReg (w : World) (s : ByteArray) (hs : s.size ≤ 4294967296) : Calls Tryz.prog 29 #[.string s] w (Gives (.string (str (reg (bts s)))) w) := by
  have HH := Lib.hid (show Calls Tryz.prog 71 #[.string s] w (Gives (.bool (host (bts s))) w) from specHost s w hs)
  cases hh : host (bts s) with
  | false =>
    have HF := Lib.hid (show str (reg (bts s)) = ⟨#[]⟩ by rw [reg_f hh]; rfl)
    rw [hh] at HH
    go_enter Tryz.func29, Tryz.ntmps29
    go_wp2_with fail
    (refine HH.out.mono ?_); rintro e w2 ⟨rfl, b2⟩
    go_wp2
    go_ret
    exact ⟨by rw [HF.out]; rfl, b2⟩
  | true =>
    rw [hh] at HH
    have HT := Lib.hid (reg_t hh)
    have hlen := host_len hh
    have hsl := split_len (bts s)
    have HSS := Lib.hid (split_sum (bts s))
    obtain ⟨ls, hls⟩ : ∃ ls, ls = split (bts s) := ⟨_, rfl⟩
    rw [← hls] at HT hsl HSS
    have HLS := Lib.hid (fun (w2 : World) => show Calls Tryz.prog 76 #[.string s] w2 (MadeS 9 1 ls.length (strs ls) w2) from hls ▸ specLabs s w2 hs)
    clear hls hh
    go_enter Tryz.func29, Tryz.ntmps29
    go_wp2_with fail
    (refine HH.out.mono ?_); rintro e w2 ⟨rfl, b2⟩
    go_wp2_with fail
    (refine (HLS.out _).mono ?_); rintro e w3 ⟨A, c, rfl, ho, b3⟩
    have RR := Lib.hid (Rd.own ho)
    have HB := Lib.hid (b2.trans (b3.mono b2.size))
    clear ho b2 b3
    by_cases h2 : ls.length < 2
    · have HV := Lib.hid (show str (reg (bts s)) = s by rw [HT.out, if_pos h2, str_bts])
      have h2i : ((ls.length : Nat) : Int) < 2 := by omega
      go_wp2
      go_ret
      exact ⟨by rw [HV.out]; rfl, HB.out⟩
    · obtain ⟨m, hm⟩ : ∃ m, ls.length = m + 2 := ⟨ls.length - 2, by omega⟩
      have HM := Lib.hid hm
      have ha : ls[m]? = some ls[m] := List.getElem?_eq_getElem (by omega)
      have hb : ls[m + 1]? = some ls[m + 1] := List.getElem?_eq_getElem (by omega)
      have sa := HSS.out ls[m] (List.getElem_mem _)
      have sb := HSS.out ls[m + 1] (List.getElem_mem _)
      obtain ⟨x, hx⟩ : ∃ x, x = ls[m] := ⟨_, rfl⟩
      obtain ⟨y, hy⟩ : ∃ y, y = ls[m + 1] := ⟨_, rfl⟩
      rw [← hx] at ha sa
      rw [← hy] at hb sb
      have HV := Lib.hid (show str (reg (bts s)) = str x ++ ⟨#[46]⟩ ++ str y by
        apply bts_inj
        rw [bts_str, HT.out, if_neg h2, hm, show m + 2 - 2 = m by omega, show m + 2 - 1 = m + 1 by omega, List.getD_eq_getElem?_getD, List.getD_eq_getElem?_getD, ha, hb, bts_app, bts_app, bts_str, bts_str]
        simp [bts])
      obtain ⟨g, off, rfl, hg, c0⟩ := strs_at RR.out ha
      obtain ⟨g2, off2, e2, _, c1⟩ := strs_at RR.out hb
      injection e2 with e2; injection e2 with e2 e3; subst e2 e3
      change w3.cell? ⟨g, off + m, none⟩ = some (.string (str x)) at c0
      change w3.cell? ⟨g, off + (m + 1), none⟩ = some (.string (str y)) at c1
      have sx : (str x).size ≤ 60 := by rw [str_size]; omega
      have sy : (str y).size ≤ 60 := by rw [str_size]; omega
      obtain ⟨X, hX⟩ : ∃ X, X = str x := ⟨_, rfl⟩
      obtain ⟨Y, hY⟩ : ∃ Y, Y = str y := ⟨_, rfl⟩
      rw [← hX] at c0 sx HV
      rw [← hY] at c1 sy HV
      have n1 : ¬ 9223372036854775807 < X.size + 1 := by omega
      have n2 : ¬ 9223372036854775807 < X.size + 1 + Y.size := by omega
      rw [hm]
      have hml : m ≤ 61 := by omega
      clear hx hy ha hb sa sb hX hY HSS hsl h2 RR hm
      have i0 : ((m + 2 : Nat) : Int) = (m : Int) + 2 := by omega
      have i1 : IntKind.i64.wrap ((m : Int) + 2 - 2) = m := by rw [IntKind.wrap_i64]; omega
      have i2 : IntKind.i64.wrap ((m : Int) + 2 - 1) = (m : Int) + 1 := by rw [IntKind.wrap_i64]; omega
      have i3 : ((m : Int) + 1).toNat = m + 1 := by omega
      have i4 : (0 : Int) ≤ (m : Int) + 1 := by omega
      have i5 : (m : Int) + 1 < (m : Int) + 2 := by omega
      have i6 : (m : Int) < (m : Int) + 2 := by omega
      go_wp2_with fail
      go_quiet (fail)
      go_wp2
      go_ret
      exact ⟨by rw [HV.out]; rfl, HB.out.trans (drewN_below _ _ _)⟩
set_option maxRecDepth 100000 in
theorem specSiteH (w : World) (s : ByteArray) (hs : s.size ≤ 16000000) : Calls Tryz.prog 34 #[.string s] w (Gives (.int .i64 (M3.derive 173 (C3b.sbytes s))) w) := by
  go_enter Tryz.func34, Tryz.ntmps34
  go_wp2_with fail
  (with_reducible refine (C3b.specDerive _ 173 s (by omega) (by omega) hs).mono ?_); rintro e w2 ⟨rfl, b2⟩
  go_wp2
  go_ret
  exact ⟨rfl, b2⟩
set_option maxHeartbeats 3200000 in
set_option maxRecDepth 100000 in
theorem specMay (w : World) (x : Fx.Origin) (s : ByteArray) (us : List Value) (h : RdsL w w.heap.size x.dcs us) (hx : x.Host.size ≤ 4294967296) (hs : s.size ≤ 4294967296) :
    Calls Tryz.prog 28 #[.agg us.toArray, .string s] w (Gives (.bool (mayO x (bts s))) w) := by
  obtain rfl := Origin.rds h
  clear h
  obtain ⟨w1, hw1⟩ : ∃ z, z = w.alloc (.cells #[.bool x.Secure, .string x.Host, .int .i64 x.Port] 45) := ⟨_, rfl⟩
  have op := Fx.var_owns w 45 3 [.bool x.Secure, .string x.Host, .int .i64 x.Port] rfl
  have HB : Below w.heap.size w w1 := hw1 ▸ (Below.refl _ _).alloc (Nat.le_refl _) _
  rw [← hw1] at op
  have l1 : w.heap.size < w1.heap.size := Fx.var_lt op
  have HF := Lib.hid (show ∀ wx, Below w1.heap.size w1 wx → wx.cell? ⟨w.heap.size, 0, none⟩ = some (.bool x.Secure) ∧ wx.cell? ⟨w.heap.size, 1, none⟩ = some (.string x.Host) from fun wx hb =>
    ⟨Fx.var_load (owns_below op hb) (by simp) 0 _ rfl, Fx.var_load (owns_below op hb) (by simp) 1 _ rfl⟩)
  clear op
  obtain ⟨r, hr⟩ : ∃ r, r = mayO x (bts s) := ⟨_, rfl⟩
  rw [← hr]
  have HR := Lib.hid hr
  clear hr
  cases ha : orgB x with
  | false =>
    have HA := Lib.hid (fun wx : World => show Calls Tryz.prog 24 #[.agg ([.bool x.Secure, .string x.Host, .int .i64 x.Port] : List Value).toArray] wx (Gives (.bool false) wx) from ha ▸ specOrg wx x _ Origin.mkR hx)
    obtain rfl : r = false := by rw [HR.out]; unfold mayO; rw [ha]; rfl
    clear ha HR
    go_enter Tryz.func28, Tryz.ntmps28
    go_wp2_with fail
    rw [← hw1]
    (refine (HA.out _).mono ?_); rintro e w2 ⟨rfl, b2⟩
    go_wp2
    go_ret
    exact ⟨rfl, HB.trans (b2.mono HB.size)⟩
  | true =>
    have HA := Lib.hid (fun wx : World => show Calls Tryz.prog 24 #[.agg ([.bool x.Secure, .string x.Host, .int .i64 x.Port] : List Value).toArray] wx (Gives (.bool true) wx) from ha ▸ specOrg wx x _ Origin.mkR hx)
    have hh60 := host_len (orgB_parts ha).1
    rw [bts_len] at hh60
    go_enter Tryz.func28, Tryz.ntmps28
    go_wp2_with fail
    rw [← hw1]
    (refine (HA.out _).mono ?_); rintro e w2 ⟨rfl, b2⟩
    obtain ⟨c0, c1⟩ := HF.out w2 b2
    have lp2 : w.heap.size < w2.heap.size := Nat.lt_of_lt_of_le l1 b2.size
    cases hsec : x.Secure with
    | false =>
      rw [hsec] at c0
      obtain rfl : r = false := by rw [HR.out]; unfold mayO; rw [ha, hsec]; rfl
      clear ha HR HA hw1
      go_wp2
      go_ret
      exact ⟨rfl, HB.trans (b2.mono HB.size)⟩
    | true =>
      rw [hsec] at c0
      cases hh : host (bts s) with
      | false =>
        obtain rfl : r = false := by rw [HR.out]; unfold mayO; rw [ha, hsec, hh]; rfl
        have HH := Lib.hid (fun wx : World => show Calls Tryz.prog 71 #[.string s] wx (Gives (.bool false) wx) from hh ▸ specHost s wx hs)
        clear ha HR HA hw1 hh
        go_wp2_with fail
        (refine (HH.out _).mono ?_); rintro e w3 ⟨rfl, b3⟩
        go_wp2
        go_ret
        have b4 := b2.trans (b3.mono b2.size)
        exact ⟨rfl, HB.trans (b4.mono HB.size)⟩
      | true =>
        have HH := Lib.hid (fun wx : World => show Calls Tryz.prog 71 #[.string s] wx (Gives (.bool true) wx) from hh ▸ specHost s wx hs)
        have hs60 := host_len hh
        rw [bts_len] at hs60
        have HLS := Lib.hid (fun wx : World => show Calls Tryz.prog 76 #[.string s] wx (MadeS 9 1 (split (bts s)).length (strs (split (bts s))) wx) from specLabs s wx hs)
        obtain ⟨m, hm⟩ : ∃ m, m = (split (bts s)).length := ⟨_, rfl⟩
        rw [← hm] at HLS
        have hml := split_len (bts s)
        rw [← hm, bts_len] at hml
        have HR2 := Lib.hid (show r = (decide (2 ≤ m) && (bts x.Host == bts s || (46 :: bts s).isSuffixOf (bts x.Host))) by rw [HR.out]; unfold mayO; rw [ha, hsec, hh, hm]; simp)
        clear ha HR HA hw1 hh hm
        go_wp2_with fail
        (refine (HH.out _).mono ?_); rintro e w3 ⟨rfl, b3⟩
        go_wp2_with fail
        (refine (HLS.out _).mono ?_); rintro e w4 ⟨A, c, rfl, ho, b4⟩
        have b34 := b2.trans ((b3.trans (b4.mono b3.size)).mono b2.size)
        have HB4 := HB.trans (b34.mono HB.size)
        obtain ⟨k0, k1⟩ := HF.out w4 b34
        have lp4 : w.heap.size < w4.heap.size := Nat.lt_of_lt_of_le l1 b34.size
        clear ho b2 b3 b4 c0 c1 HF HH HLS
        by_cases h2 : m < 2
        · obtain rfl : r = false := by rw [HR2.out, decide_eq_false (by omega)]; rfl
          have h2i : ((m : Nat) : Int) < 2 := by omega
          clear HR2
          go_wp2
          go_ret
          exact ⟨rfl, HB4⟩
        · have h2i : ¬ ((m : Nat) : Int) < 2 := by omega
          have HV := Lib.hid (show r = (bts x.Host == bts s || (46 :: bts s).isSuffixOf (bts x.Host)) by rw [HR2.out, decide_eq_true (by omega)]; rfl)
          clear HR2
          by_cases he : bts x.Host = bts s
          · obtain rfl : r = true := by rw [HV.out, he]; simp
            have heb : (x.Host.toList == s.toList) = true := by rw [toList_bts, toList_bts, he]; simp
            clear HV he
            go_wp2
            go_ret
            exact ⟨rfl, HB4⟩
          · have heb : (x.Host.toList == s.toList) = false := by rw [toList_bts, toList_bts]; simpa using he
            have heb2 : (bts x.Host == bts s) = false := by simpa using he
            by_cases hn : s.size < x.Host.size
            · have hidx : x.Host.size - s.size - 1 < x.Host.size := by omega
              have hsum : x.Host.size - s.size + (bts s).length = (bts x.Host).length := by rw [bts_len, bts_len]; omega
              have hcut : bts (x.Host.extract (x.Host.size - s.size) x.Host.size) = (bts x.Host).drop (x.Host.size - s.size) := by
                rw [extract_is x.Host _ _ (by omega) (Nat.le_refl _)]
                show bts (str _) = _
                rw [bts_str, List.take_of_length_le]
                · rfl
                · rw [List.length_drop]; have := bts_len x.Host; show (bts x.Host).length - _ ≤ _; omega
              have hch : (bts x.Host).getD (x.Host.size - s.size - 1) 0 = x.Host[x.Host.size - s.size - 1] := by
                rw [List.getD_eq_getElem?_getD, List.getElem?_eq_getElem (by rw [bts_len]; exact hidx)]
                exact data_get x.Host _ hidx
              have hfin : r = ((x.Host.extract (x.Host.size - s.size) x.Host.size).toList == s.toList && (x.Host[x.Host.size - s.size - 1].toNat : Int) == 46) := by
                rw [HV.out, heb2, suffix_at hsum (by omega), ← hcut, hch, toList_bts, toList_bts, Bool.false_or]
                congr 1
                rw [Bool.eq_iff_iff]
                simp only [beq_iff_eq]
                obtain ⟨u, hu⟩ : ∃ u : UInt8, u = x.Host[x.Host.size - s.size - 1] := ⟨_, rfl⟩
                rw [← hu]
                refine ⟨fun e => by rw [e]; rfl, fun e => ?_⟩
                rw [← UInt8.toNat_inj]
                show u.toNat = 46
                omega
              have HX := Lib.hid hfin
              clear HV he hsum hcut hch hfin
              cases h3 : (x.Host.extract (x.Host.size - s.size) x.Host.size).toList == s.toList with
              | false =>
                obtain rfl : r = false := by rw [HX.out, h3]; rfl
                clear HX
                go_wp2
                go_ret
                exact ⟨rfl, HB4⟩
              | true =>
                cases h4 : (x.Host[x.Host.size - s.size - 1].toNat : Int) == 46 with
                | false =>
                  obtain rfl : r = false := by rw [HX.out, h3, h4]; rfl
                  clear HX
                  go_wp2
                  go_ret
                  exact ⟨rfl, HB4⟩
                | true =>
                  obtain rfl : r = true := by rw [HX.out, h3, h4]; rfl
                  clear HX
                  go_wp2
                  go_ret
                  exact ⟨rfl, HB4⟩
            · obtain rfl : r = false := by rw [HV.out, heb2, suffix_short (by rw [bts_len, bts_len]; omega)]; rfl
              clear HV he
              go_wp2
              go_ret
              exact ⟨rfl, HB4⟩
end Go.Proofs.YtialhhdhpjjkaaaGreatDoor.C9b
