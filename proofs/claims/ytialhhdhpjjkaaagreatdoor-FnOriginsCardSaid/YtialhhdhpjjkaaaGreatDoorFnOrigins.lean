import Derived.Test.YtialhhdhpjjkaaaGreatDoorBa
import Derived.Test.YtialhhdhpjjkaaaGreatDoorCards
import Derived.Test.YtialhhdhpjjkaaaGreatDoorTie
import Derived.Lay
import Derived.LaidHandle
import Derived.MakeChecks
import Derived.Test.YtialhhdhpjjkaaaGreatDoorLa
import Derived.Test.YtialhhdhpjjkaaaGreatDoorBb
import Derived.Test.YtialhhdhpjjkaaaGreatDoorD9
import Derived.Test.YtialhhdhpjjkaaaGreatDoorC9c
import Derived.Test.YtialhhdhpjjkaaaGreatDoorC9i
import Derived.Test.YtialhhdhpjjkaaaGreatDoorM13b
import Derived.Deep.DeepCutAuto
import Derived.Deep.RegionWith
import Derived.Deep.RegionHeld3
/-
  laws.FnOrigins returns true at every code, and leaves it as it was: origins are parsed from their text, and only pages of a site use its keys. Conditions: the library's package-level variables math/bits.deBruijn32tab, math/bits.deBruijn64tab, internal/strconv.uint64pow10, strconv.ErrRange, strconv.ErrSyntax hold when the call begins what the program's text lays there (the card ties them to that text).
-/
namespace Go.Proofs.YtialhhdhpjjkaaaGreatDoor.fnOrigins
open Go.ChangeShapes Go.WideShapes Go.ChangeAt Go.RowKit
set_option linter.unusedVariables false

open S0 S9 Dm Fx M12 M13 M13b C9 D9
set_option linter.unusedSimpArgs false
theorem ends_ok (R : ByteArray) : (bts R != []) = !(R.toList == []) := by rw [toList_bts]; rfl
set_option maxHeartbeats 16000000 in
set_option maxRecDepth 100000 in
theorem walkSmall (A0 : Option Addr) (n0 c0 : Nat) (hl : ¬ 1048576 < n0) (W : World) (hc : C0.Code W W.heap.size (.slice A0 n0 c0)) (ht : La.Pow W) (he : La.Errs W) :
    Calls Tryz.prog 5 #[.slice A0 n0 c0] W fun e w' => e = .returned (.bool true) ∧ Below W.heap.size W w' := by
  go_enter Tryz.func5, Tryz.ntmps5
  go_wp2_with fail
  (with_reducible refine (Cd.big_no A0 n0 c0 _ hl).mono ?_); rintro e w0 ⟨rfl, rfl⟩
  go_wp2_with fail
  (with_reducible refine (D9.isOrigin _ _ _ hc (Nat.le_refl _)).mono ?_); rintro e w1 ⟨x, rfl, ⟨hx1, hx2⟩, HB⟩
  obtain ⟨w2, hw2⟩ : ∃ y, y = w1.alloc (.cells #[.bool x.Secure, .string x.Host, .int .i64 x.Port] 45) := ⟨_, rfl⟩
  have o_o := var_owns w1 45 3 [.bool x.Secure, .string x.Host, .int .i64 x.Port] rfl
  have bw2 : Below w1.heap.size w1 w2 := hw2 ▸ (Below.refl _ _).alloc (Nat.le_refl _) _
  rw [← hw2] at o_o
  replace HB := HB.trans (bw2.mono HB.size)
  have p0 : w2.cell? ⟨w1.heap.size, 0, none⟩ = some (.bool x.Secure) := var_load o_o (by simp) 0 _ rfl
  have p1 : w2.cell? ⟨w1.heap.size, 1, none⟩ = some (.string x.Host) := var_load o_o (by simp) 1 _ rfl
  have p2 : w2.cell? ⟨w1.heap.size, 2, none⟩ = some (.int .i64 x.Port) := var_load o_o (by simp) 2 _ rfl
  have pl := var_lt o_o
  have hfs : (str (fmtO x)).size ≤ 100 := by rw [str_size]; exact fmtO_size x
  go_wp2_with fail
  rw [← hw2]
  clear hw2 bw2
  (with_reducible refine (C9i.implFmtO _ x _ Origin.mkR (by omega) (ht.stays HB)).mono ?_); rintro e w3 ⟨rfl, b3⟩
  clear p0 p1 p2 pl
  replace o_o := owns_below o_o b3
  replace HB := HB.trans (b3.mono HB.size)
  go_wp2_with fail
  (with_reducible refine (C9i.implPo _ (str (fmtO x)) (by omega) (ht.stays HB) (he.stays HB)).mono ?_); rintro e w4 ⟨v_g, s_g, rfl, o_g, n_g, b4⟩
  obtain ⟨rfl, -⟩ := Origin.owns o_g
  clear o_g n_g
  rw [bts_str]
  obtain ⟨hb0, hX⟩ := po_fmt x
  obtain ⟨X, hXX⟩ : ∃ X, X = poO (fmtO x) := ⟨_, rfl⟩
  obtain ⟨b0, hbb⟩ : ∃ b0, b0 = poB (fmtO x) := ⟨_, rfl⟩
  rw [← hXX, ← hbb]
  have HX := Lib.hid (show b0 = orgB x ∧ (b0 = true → X = x) from ⟨hbb.trans hb0, fun h => hXX.trans (hX (hb0.symm.trans (hbb.symm.trans h)))⟩)
  clear hb0 hX hXX hbb
  replace o_o := owns_below o_o b4
  replace HB := HB.trans (b4.mono HB.size)
  obtain ⟨w5, hw5⟩ : ∃ y, y = w4.alloc (.cells #[.bool X.Secure, .string X.Host, .int .i64 X.Port] 45) := ⟨_, rfl⟩
  have o_x := var_owns w4 45 3 [.bool X.Secure, .string X.Host, .int .i64 X.Port] rfl
  have bw5 : Below w4.heap.size w4 w5 := hw5 ▸ (Below.refl _ _).alloc (Nat.le_refl _) _
  rw [← hw5] at o_x
  replace o_o := owns_below o_o bw5
  replace HB := HB.trans (bw5.mono HB.size)
  go_wp2_with fail
  rw [← hw5]
  clear hw5 bw5
  (with_reducible refine (D9.parseOrigin _ _ _ (hc.below HB) HB.size).mono ?_); rintro e w6 ⟨s, rfl, hs, b6⟩
  replace o_o := owns_below o_o b6
  replace o_x := owns_below o_x b6
  replace HB := HB.trans (b6.mono HB.size)
  go_wp2_with fail
  (with_reducible refine (C9i.implPo _ s (by omega) (ht.stays HB) (he.stays HB)).mono ?_); rintro e w7 ⟨v_y, s_y, rfl, o_g, n_g, b7⟩
  obtain ⟨rfl, -⟩ := Origin.owns o_g
  clear o_g n_g
  obtain ⟨hY1, hY2⟩ := po_org (bts s)
  have hYs := po_size (bts s)
  obtain ⟨Y, hYY⟩ : ∃ Y, Y = poO (bts s) := ⟨_, rfl⟩
  obtain ⟨b1, hbb⟩ : ∃ b1, b1 = poB (bts s) := ⟨_, rfl⟩
  rw [← hYY] at hY1 hY2 hYs
  rw [← hbb] at hY1 hY2
  rw [← hYY, ← hbb]
  have HP := Lib.hid (fun wx : World => show Calls Tryz.prog 25 #[.string s] wx (MadeLx Y.dcs (fun vs => .tuple #[.agg vs.toArray, .bool b1]) wx) from by rw [hYY, hbb]; exact C9c.specPo wx s (by omega))
  have HY := Lib.hid (show b1 = true → str (fmtO Y) = s from fun h => by rw [hY2 h, str_bts])
  clear hY1 hY2 hYY hbb
  replace o_o := owns_below o_o b7
  replace o_x := owns_below o_x b7
  replace HB := HB.trans (b7.mono HB.size)
  obtain ⟨w8, hw8⟩ : ∃ y, y = w7.alloc (.cells #[.bool Y.Secure, .string Y.Host, .int .i64 Y.Port] 45) := ⟨_, rfl⟩
  have o_y := var_owns w7 45 3 [.bool Y.Secure, .string Y.Host, .int .i64 Y.Port] rfl
  have bw8 : Below w7.heap.size w7 w8 := hw8 ▸ (Below.refl _ _).alloc (Nat.le_refl _) _
  rw [← hw8] at o_y
  replace o_o := owns_below o_o bw8
  replace o_x := owns_below o_x bw8
  replace HB := HB.trans (bw8.mono HB.size)
  go_upto_region 7 with fail
  rw [← hw8]
  clear hw8 bw8
  have p0 : w8.cell? ⟨w1.heap.size, 0, none⟩ = some (.bool x.Secure) := var_load o_o (by simp) 0 _ rfl
  have p1 : w8.cell? ⟨w1.heap.size, 1, none⟩ = some (.string x.Host) := var_load o_o (by simp) 1 _ rfl
  have p2 : w8.cell? ⟨w1.heap.size, 2, none⟩ = some (.int .i64 x.Port) := var_load o_o (by simp) 2 _ rfl
  have pl := var_lt o_o
  have q0 : w8.cell? ⟨w4.heap.size, 0, none⟩ = some (.bool X.Secure) := var_load o_x (by simp) 0 _ rfl
  have q1 : w8.cell? ⟨w4.heap.size, 1, none⟩ = some (.string X.Host) := var_load o_x (by simp) 1 _ rfl
  have q2 : w8.cell? ⟨w4.heap.size, 2, none⟩ = some (.int .i64 X.Port) := var_load o_x (by simp) 2 _ rfl
  have ql := var_lt o_x
  have r0 : w8.cell? ⟨w7.heap.size, 0, none⟩ = some (.bool Y.Secure) := var_load o_y (by simp) 0 _ rfl
  have r1 : w8.cell? ⟨w7.heap.size, 1, none⟩ = some (.string Y.Host) := var_load o_y (by simp) 1 _ rfl
  have r2 : w8.cell? ⟨w7.heap.size, 2, none⟩ = some (.int .i64 Y.Port) := var_load o_y (by simp) 2 _ rfl
  have rl := var_lt o_y
  have HF := Lib.hid (show ∀ wx, Below w8.heap.size w8 wx → wx.cell? ⟨w4.heap.size, 0, none⟩ = some (.bool X.Secure) ∧ wx.cell? ⟨w4.heap.size, 1, none⟩ = some (.string X.Host) ∧ wx.cell? ⟨w4.heap.size, 2, none⟩ = some (.int .i64 X.Port) ∧ wx.cell? ⟨w1.heap.size, 0, none⟩ = some (.bool x.Secure) ∧ wx.cell? ⟨w1.heap.size, 1, none⟩ = some (.string x.Host) ∧ wx.cell? ⟨w1.heap.size, 2, none⟩ = some (.int .i64 x.Port) ∧ wx.cell? ⟨w7.heap.size, 0, none⟩ = some (.bool Y.Secure) ∧ wx.cell? ⟨w7.heap.size, 1, none⟩ = some (.string Y.Host) ∧ wx.cell? ⟨w7.heap.size, 2, none⟩ = some (.int .i64 Y.Port) from fun wx hb =>
    ⟨var_load (owns_below o_x hb) (by simp) 0 _ rfl, var_load (owns_below o_x hb) (by simp) 1 _ rfl, var_load (owns_below o_x hb) (by simp) 2 _ rfl, var_load (owns_below o_o hb) (by simp) 0 _ rfl, var_load (owns_below o_o hb) (by simp) 1 _ rfl, var_load (owns_below o_o hb) (by simp) 2 _ rfl, var_load (owns_below o_y hb) (by simp) 0 _ rfl, var_load (owns_below o_y hb) (by simp) 1 _ rfl, var_load (owns_below o_y hb) (by simp) 2 _ rfl⟩)
  clear o_o o_x o_y
  go_cut [51] (fun v wx => v = .bool false ∧ Below w8.heap.size w8 wx)
  case first =>
    have HO := Lib.hid (fun wx : World => show Calls Tryz.prog 24 #[.agg #[.bool x.Secure, .string x.Host, .int .i64 x.Port]] wx (Gives (.bool b0) wx) from HX.out.1 ▸ C9b.specOrg wx x _ Origin.mkR (by omega))
    have HT := Lib.hid (fun (wx : World) (hb : Below w8.heap.size w8 wx) (h : b1 = true) => show Calls Tryz.prog 22 #[.agg #[.bool Y.Secure, .string Y.Host, .int .i64 Y.Port]] wx (Gives (.string s) wx) from by have h9 := C9i.implFmtO wx Y _ Origin.mkR (by omega) (ht.stays (HB.trans (hb.mono HB.size))); rw [HY.out h] at h9; exact h9)
    cases b0 with
    | false =>
      clear HX
      cases b1 with
      | false =>
        clear HY HP
        go_wp2_with fail
        (refine (HO.out _).mono ?_); rintro e w9 ⟨rfl, b9⟩
        go_wp2
        go_meet
        exact ⟨rfl, b9⟩
      | true =>
        clear HY HP
        go_wp2_with fail
        (refine (HO.out _).mono ?_); rintro e w9 ⟨rfl, b9⟩
        obtain ⟨s0, s1, s2, t0, t1, t2, u0, u1, u2⟩ := HF.out w9 b9
        go_wp2_with fail
        (refine (HT.out _ b9 (by first | rfl | trivial)).mono ?_); rintro e w10 ⟨rfl, b10⟩
        replace b9 := b9.trans (b10.mono b9.size)
        go_wp2
        go_meet
        exact ⟨rfl, b9⟩
    | true =>
      obtain rfl : X = x := HX.out.2 rfl
      clear HX
      cases b1 with
      | false =>
        clear HY HP
        go_wp2_with fail
        (refine (HO.out _).mono ?_); rintro e w9 ⟨rfl, b9⟩
        obtain ⟨s0, s1, s2, t0, t1, t2, u0, u1, u2⟩ := HF.out w9 b9
        go_wp2
        go_meet
        exact ⟨rfl, b9⟩
      | true =>
        clear HY HP
        go_wp2_with fail
        (refine (HO.out _).mono ?_); rintro e w9 ⟨rfl, b9⟩
        obtain ⟨s0, s1, s2, t0, t1, t2, u0, u1, u2⟩ := HF.out w9 b9
        go_wp2_with fail
        (refine (HT.out _ b9 (by first | rfl | trivial)).mono ?_); rintro e w10 ⟨rfl, b10⟩
        replace b9 := b9.trans (b10.mono b9.size)
        go_wp2
        go_meet
        exact ⟨rfl, b9⟩
  case rest =>
    obtain ⟨rfl, bc⟩ := hcut
    replace HB := HB.trans (bc.mono HB.size)
    clear HF p0 p1 p2 pl q0 q1 q2 ql r0 r1 r2 rl HX HY bc
    go_wp2_with fail
    (refine (HP.out _).mono ?_); rintro e w9 ⟨v_z, s_z, rfl, o_g, n_g, b9⟩
    obtain ⟨rfl, -⟩ := Origin.owns o_g
    clear o_g n_g HP
    replace HB := HB.trans (b9.mono HB.size)
    replace HB := HB.alloc HB.size (.cells #[.bool Y.Secure, .string Y.Host, .int .i64 Y.Port] 45)
    have hne : (b1 != b1) = false := by simp
    go_wp2_with fail
    (with_reducible refine (D9.mayUse _ _ _ (hc.below HB) HB.size).mono ?_); rintro e w10 ⟨p, u, rfl, ⟨hp1, hp2⟩, hu, b10⟩
    replace HB := HB.trans (b10.mono HB.size)
    obtain ⟨w11, hw11⟩ : ∃ y, y = w10.alloc (.cells #[.bool p.Secure, .string p.Host, .int .i64 p.Port] 45) := ⟨_, rfl⟩
    have o_p := var_owns w10 45 3 [.bool p.Secure, .string p.Host, .int .i64 p.Port] rfl
    have bw11 : Below w10.heap.size w10 w11 := hw11 ▸ (Below.refl _ _).alloc (Nat.le_refl _) _
    rw [← hw11] at o_p
    replace HB := HB.trans (bw11.mono HB.size)
    have p0 : w11.cell? ⟨w10.heap.size, 0, none⟩ = some (.bool p.Secure) := var_load o_p (by simp) 0 _ rfl
    have p1 : w11.cell? ⟨w10.heap.size, 1, none⟩ = some (.string p.Host) := var_load o_p (by simp) 1 _ rfl
    have p2 : w11.cell? ⟨w10.heap.size, 2, none⟩ = some (.int .i64 p.Port) := var_load o_p (by simp) 2 _ rfl
    have pl := var_lt o_p
    go_wp2_with fail
    rw [← hw11]
    clear hw11 bw11 p0 p1 p2 pl
    (with_reducible refine (C9i.implMay _ p u _ Origin.mkR (by omega) (by omega)).mono ?_); rintro e w12 ⟨rfl, b12⟩
    replace o_p := owns_below o_p b12
    replace HB := HB.trans (b12.mono HB.size)
    obtain ⟨m, hm⟩ : ∃ m, m = mayO p (bts u) := ⟨_, rfl⟩
    rw [← hm]
    obtain ⟨R, hR⟩ : ∃ R, R = str (reg (bts u)) := ⟨_, rfl⟩
    have hRb : bts R = reg (bts u) := by rw [hR, bts_str]
    have hRs : R.size ≤ 200 := by rw [hR, str_size]; exact Nat.le_trans (reg_size (bts u)) (by rw [bts_len]; omega)
    obtain ⟨z, hz⟩ : ∃ z, z = M3.derive 173 (C3b.sbytes u) := ⟨_, rfl⟩
    obtain ⟨b, hb⟩ : ∃ b, b = orgB p := ⟨_, rfl⟩
    have KM := Lib.hid (fun wx : World => show Calls Tryz.prog 28 #[.agg #[.bool p.Secure, .string p.Host, .int .i64 p.Port], .string u] wx (Gives (.bool m) wx) from by rw [hm]; exact C9b.specMay wx p u _ Origin.mkR (by omega) (by omega))
    have KR := Lib.hid (fun wx : World => show Calls Tryz.prog 29 #[.string u] wx (Gives (.string R) wx) from by rw [hR]; exact C9b.specReg wx u (by omega))
    have KS := Lib.hid (fun wx : World => show Calls Tryz.prog 30 #[.agg #[.bool p.Secure, .string p.Host, .int .i64 p.Port], .agg #[.bool p.Secure, .string p.Host, .int .i64 p.Port]] wx (Gives (.bool b) wx) from by rw [hb, ← same_self p]; exact C9i.implSame wx p p _ _ Origin.mkR Origin.mkR (by omega) (by omega))
    have KO := Lib.hid (fun wx : World => show Calls Tryz.prog 24 #[.agg #[.bool p.Secure, .string p.Host, .int .i64 p.Port]] wx (Gives (.bool b) wx) from by rw [hb]; exact C9b.specOrg wx p _ Origin.mkR (by omega))
    have KI := Lib.hid (fun wx : World => show Calls Tryz.prog 31 #[.string u] wx (Gives (.string R) wx) from by rw [hR]; exact C9i.implReg wx u (by omega))
    have KJ := Lib.hid (fun wx : World => show Calls Tryz.prog 31 #[.string R] wx (Gives (.string R) wx) from by have h9 := C9i.implReg wx R (by omega); rw [hRb, reg_idem, ← hR] at h9; exact h9)
    have KH := Lib.hid (fun wx : World => show Calls Tryz.prog 32 #[.string u] wx (Gives (.bool (!(R.toList == []))) wx) from by rw [← ends_ok, hRb, ← reg_ne]; exact C9i.implHost u wx (by omega))
    have KZ := Lib.hid (fun wx : World => show Calls Tryz.prog 33 #[.string u] wx (Gives (.int .i64 z) wx) from by rw [hz]; exact C9i.implSiteH wx u (by omega))
    have KY := Lib.hid (fun wx : World => show Calls Tryz.prog 34 #[.string u] wx (Gives (.int .i64 z) wx) from by rw [hz]; exact C9b.specSiteH wx u (by omega))
    have KG := Lib.hid (show m = true → p.Secure = true ∧ ∀ wx : World, Calls Tryz.prog 29 #[.string p.Host] wx (Gives (.string R) wx) from fun h => by
      obtain ⟨h1, h2⟩ := may_reg (hm.symm.trans h)
      refine ⟨h1, fun wx => ?_⟩
      rw [hR, h2]
      exact C9b.specReg wx p.Host (by omega))
    have HF := Lib.hid (show ∀ wx, Below w12.heap.size w12 wx → wx.cell? ⟨w10.heap.size, 0, none⟩ = some (.bool p.Secure) ∧ wx.cell? ⟨w10.heap.size, 1, none⟩ = some (.string p.Host) ∧ wx.cell? ⟨w10.heap.size, 2, none⟩ = some (.int .i64 p.Port) from fun wx hb =>
      ⟨var_load (owns_below o_p hb) (by simp) 0 _ rfl, var_load (owns_below o_p hb) (by simp) 1 _ rfl, var_load (owns_below o_p hb) (by simp) 2 _ rfl⟩)
    have pl := var_lt o_p
    have L1 : w10.heap.size < w12.drew.heap.size := pl
    have BB : Below w12.heap.size w12 w12.drew := drewN_below w12 1 _
    clear o_p hR hRb hz hb hm
    go_wp2_with fail
    cases m with
    | true =>
      obtain ⟨hS, hG⟩ := KG.out rfl
      have KG2 := Lib.hid hG
      clear hG
      rw [hS] at KM KS KO HF
      clear hS
      clear KG
      refine wp_region_held_drew (S := (fun wx => wx.cell? ⟨w10.heap.size, 0, none⟩ = some (.bool true) ∧ wx.cell? ⟨w10.heap.size, 1, none⟩ = some (.string p.Host) ∧ wx.cell? ⟨w10.heap.size, 2, none⟩ = some (.int .i64 p.Port))) (by kernel_rfl) ?_ (fun hHeld => ?_)
      · exact HF.out _ BB
      refine wpAnyH_take (i := 0) (oi := ?oit_0) (v := ?vt_0) ?hit_0 (by kernel_rfl) (by kernel_rfl) (by kernel_rfl) ?hQt_0 (Or.inl ⟨?hwt_0, ?hyt_0⟩) (by assumption) ?_
      case hit_0 => simp only [List.getElem?_toArray, List.getElem?_cons_zero]; rfl
      case hQt_0 => exact fun _ _ _ h => h
      case hwt_0 => rfl
      case hyt_0 => intro w hSw; (try dsimp only at hSw); (first | (go_simp; done) | (go_simp; with_reducible rfl))
      try simp only [Act.put, List.setIfInBounds_toArray, List.set_cons_zero, List.set_cons_succ]
      refine wpAnyH_take (i := 1) (oi := ?oit_1) (v := ?vt_1) ?hit_1 (by kernel_rfl) (by kernel_rfl) (by kernel_rfl) ?hQt_1 (Or.inl ⟨?hwt_1, ?hyt_1⟩) (by assumption) ?_
      case hit_1 => simp only [List.getElem?_toArray, List.getElem?_cons_succ, List.getElem?_cons_zero]; rfl
      case hQt_1 => exact fun _ _ _ h => h
      case hwt_1 => rfl
      case hyt_1 => intro w hSw; (try dsimp only at hSw); (first | (go_simp; done) | (go_simp; with_reducible rfl))
      try simp only [Act.put, List.setIfInBounds_toArray, List.set_cons_zero, List.set_cons_succ]
      refine wpAnyH_take (i := 2) (oi := ?oit_2) (v := ?vt_2) ?hit_2 (by kernel_rfl) (by kernel_rfl) (by kernel_rfl) ?hQt_2 (Or.inl ⟨?hwt_2, ?hyt_2⟩) (by assumption) ?_
      case hit_2 => simp only [List.getElem?_toArray, List.getElem?_cons_succ, List.getElem?_cons_zero]; rfl
      case hQt_2 => exact fun _ _ _ h => h
      case hwt_2 => rfl
      case hyt_2 => intro w hSw; (try dsimp only at hSw); (first | (go_simp; done) | (go_simp; with_reducible rfl))
      try simp only [Act.put, List.setIfInBounds_toArray, List.set_cons_zero, List.set_cons_succ]
      refine wpAnyH_ready (rs := [3]) (by kernel_rfl) (by simp) ?_
      refine AllReadyH.cons (o := ?oit_3) ?hit_3 (fun K hK => ?_) AllReadyH.nil
      case hit_3 => simp only [List.getElem?_toArray, List.getElem?_cons_succ, List.getElem?_cons_zero]; rfl
      go_simp
      go_at_call 28
      (with_reducible refine (KM.out _).mono ?_)
      rintro e w13 ⟨rfl, bq⟩
      replace BB : Below w12.heap.size w12 w13 := BB.trans (bq.mono BB.size)
      replace L1 : w10.heap.size < w13.heap.size := Nat.lt_of_lt_of_le L1 bq.size
      clear bq
      refine hK.out _ _ ?_ (fun hHeld => ?_)
      · exact HF.out _ BB
      clear hK K
      try simp only [Act.put, List.setIfInBounds_toArray, List.set_cons_zero, List.set_cons_succ]
      refine wpAnyH_take (i := 4) (oi := ?oit_4) (v := ?vt_4) ?hit_4 (by kernel_rfl) (by kernel_rfl) (by kernel_rfl) ?hQt_4 (Or.inl ⟨?hwt_4, ?hyt_4⟩) (by assumption) ?_
      case hit_4 => simp only [List.getElem?_toArray, List.getElem?_cons_succ, List.getElem?_cons_zero]; rfl
      case hQt_4 => exact fun _ _ _ h => h
      case hwt_4 => rfl
      case hyt_4 => intro w hSw; (try dsimp only at hSw); (first | (go_simp; done) | (go_simp; with_reducible rfl))
      try simp only [Act.put, List.setIfInBounds_toArray, List.set_cons_zero, List.set_cons_succ]
      refine wpAnyH_take (i := 5) (oi := ?oit_5) (v := ?vt_5) ?hit_5 (by kernel_rfl) (by kernel_rfl) (by kernel_rfl) ?hQt_5 (Or.inl ⟨?hwt_5, ?hyt_5⟩) (by assumption) ?_
      case hit_5 => simp only [List.getElem?_toArray, List.getElem?_cons_succ, List.getElem?_cons_zero]; rfl
      case hQt_5 => exact fun _ _ _ h => h
      case hwt_5 => rfl
      case hyt_5 => intro w hSw; (try dsimp only at hSw); (first | (go_simp; done) | (go_simp; with_reducible rfl))
      try simp only [Act.put, List.setIfInBounds_toArray, List.set_cons_zero, List.set_cons_succ]
      refine wpAnyH_take (i := 6) (oi := ?oit_6) (v := ?vt_6) ?hit_6 (by kernel_rfl) (by kernel_rfl) (by kernel_rfl) ?hQt_6 (Or.inl ⟨?hwt_6, ?hyt_6⟩) (by assumption) ?_
      case hit_6 => simp only [List.getElem?_toArray, List.getElem?_cons_succ, List.getElem?_cons_zero]; rfl
      case hQt_6 => exact fun _ _ _ h => h
      case hwt_6 => rfl
      case hyt_6 => intro w hSw; (try dsimp only at hSw); (first | (go_simp; done) | (go_simp; with_reducible rfl))
      try simp only [Act.put, List.setIfInBounds_toArray, List.set_cons_zero, List.set_cons_succ]
      refine wpAnyH_take (i := 7) (oi := ?oit_7) (v := ?vt_7) ?hit_7 (by kernel_rfl) (by kernel_rfl) (by kernel_rfl) ?hQt_7 (Or.inl ⟨?hwt_7, ?hyt_7⟩) (by assumption) ?_
      case hit_7 => simp only [List.getElem?_toArray, List.getElem?_cons_succ, List.getElem?_cons_zero]; rfl
      case hQt_7 => exact fun _ _ _ h => h
      case hwt_7 => rfl
      case hyt_7 => intro w hSw; (try dsimp only at hSw); (first | (go_simp; done) | (go_simp; with_reducible rfl))
      try simp only [Act.put, List.setIfInBounds_toArray, List.set_cons_zero, List.set_cons_succ]
      refine wpAnyH_take (i := 8) (oi := ?oit_8) (v := ?vt_8) ?hit_8 (by kernel_rfl) (by kernel_rfl) (by kernel_rfl) ?hQt_8 (Or.inl ⟨?hwt_8, ?hyt_8⟩) (by assumption) ?_
      case hit_8 => simp only [List.getElem?_toArray, List.getElem?_cons_succ, List.getElem?_cons_zero]; rfl
      case hQt_8 => exact fun _ _ _ h => h
      case hwt_8 => rfl
      case hyt_8 => intro w hSw; (try dsimp only at hSw); (first | (go_simp; done) | (go_simp; with_reducible rfl))
      try simp only [Act.put, List.setIfInBounds_toArray, List.set_cons_zero, List.set_cons_succ]
      refine wpAnyH_take (i := 9) (oi := ?oit_9) (v := ?vt_9) ?hit_9 (by kernel_rfl) (by kernel_rfl) (by kernel_rfl) ?hQt_9 (Or.inl ⟨?hwt_9, ?hyt_9⟩) (by assumption) ?_
      case hit_9 => simp only [List.getElem?_toArray, List.getElem?_cons_succ, List.getElem?_cons_zero]; rfl
      case hQt_9 => exact fun _ _ _ h => h
      case hwt_9 => rfl
      case hyt_9 => intro w hSw; (try dsimp only at hSw); (first | (go_simp; done) | (go_simp; with_reducible rfl))
      try simp only [Act.put, List.setIfInBounds_toArray, List.set_cons_zero, List.set_cons_succ]
      refine wpAnyH_take (i := 10) (oi := ?oit_10) (v := ?vt_10) ?hit_10 (by kernel_rfl) (by kernel_rfl) (by kernel_rfl) ?hQt_10 (Or.inl ⟨?hwt_10, ?hyt_10⟩) (by assumption) ?_
      case hit_10 => simp only [List.getElem?_toArray, List.getElem?_cons_succ, List.getElem?_cons_zero]; rfl
      case hQt_10 => exact fun _ _ _ h => h
      case hwt_10 => rfl
      case hyt_10 => intro w hSw; (try dsimp only at hSw); (first | (go_simp; done) | (go_simp; with_reducible rfl))
      try simp only [Act.put, List.setIfInBounds_toArray, List.set_cons_zero, List.set_cons_succ]
      refine wpAnyH_take (i := 11) (oi := ?oit_11) (v := ?vt_11) ?hit_11 (by kernel_rfl) (by kernel_rfl) (by kernel_rfl) ?hQt_11 (Or.inl ⟨?hwt_11, ?hyt_11⟩) (by assumption) ?_
      case hit_11 => simp only [List.getElem?_toArray, List.getElem?_cons_succ, List.getElem?_cons_zero]; rfl
      case hQt_11 => exact fun _ _ _ h => h
      case hwt_11 => rfl
      case hyt_11 => intro w hSw; (try dsimp only at hSw); (first | (go_simp; done) | (go_simp; with_reducible rfl))
      try simp only [Act.put, List.setIfInBounds_toArray, List.set_cons_zero, List.set_cons_succ]
      refine wpAnyH_take (i := 12) (oi := ?oit_12) (v := ?vt_12) ?hit_12 (by kernel_rfl) (by kernel_rfl) (by kernel_rfl) ?hQt_12 (Or.inl ⟨?hwt_12, ?hyt_12⟩) (by assumption) ?_
      case hit_12 => simp only [List.getElem?_toArray, List.getElem?_cons_succ, List.getElem?_cons_zero]; rfl
      case hQt_12 => exact fun _ _ _ h => h
      case hwt_12 => rfl
      case hyt_12 => intro w hSw; (try dsimp only at hSw); (first | (go_simp; done) | (go_simp; with_reducible rfl))
      try simp only [Act.put, List.setIfInBounds_toArray, List.set_cons_zero, List.set_cons_succ]
      refine wpAnyH_take (i := 14) (oi := ?oit_14) (v := ?vt_14) ?hit_14 (by kernel_rfl) (by kernel_rfl) (by kernel_rfl) ?hQt_14 (Or.inl ⟨?hwt_14, ?hyt_14⟩) (by assumption) ?_
      case hit_14 => simp only [List.getElem?_toArray, List.getElem?_cons_succ, List.getElem?_cons_zero]; rfl
      case hQt_14 => exact fun _ _ _ h => h
      case hwt_14 => rfl
      case hyt_14 => intro w hSw; (try dsimp only at hSw); (first | (go_simp; done) | (go_simp; with_reducible rfl))
      try simp only [Act.put, List.setIfInBounds_toArray, List.set_cons_zero, List.set_cons_succ]
      refine wpAnyH_take (i := 15) (oi := ?oit_15) (v := ?vt_15) ?hit_15 (by kernel_rfl) (by kernel_rfl) (by kernel_rfl) ?hQt_15 (Or.inl ⟨?hwt_15, ?hyt_15⟩) (by assumption) ?_
      case hit_15 => simp only [List.getElem?_toArray, List.getElem?_cons_succ, List.getElem?_cons_zero]; rfl
      case hQt_15 => exact fun _ _ _ h => h
      case hwt_15 => rfl
      case hyt_15 => intro w hSw; (try dsimp only at hSw); (first | (go_simp; done) | (go_simp; with_reducible rfl))
      try simp only [Act.put, List.setIfInBounds_toArray, List.set_cons_zero, List.set_cons_succ]
      refine wpAnyH_ready (rs := [13]) (by kernel_rfl) (by simp) ?_
      refine AllReadyH.cons (o := ?oit_13) ?hit_13 (fun K hK => ?_) AllReadyH.nil
      case hit_13 => simp only [List.getElem?_toArray, List.getElem?_cons_succ, List.getElem?_cons_zero]; rfl
      go_simp
      go_at_call 29
      (with_reducible refine (KR.out _).mono ?_)
      rintro e w13 ⟨rfl, bq⟩
      replace BB : Below w12.heap.size w12 w13 := BB.trans (bq.mono BB.size)
      replace L1 : w10.heap.size < w13.heap.size := Nat.lt_of_lt_of_le L1 bq.size
      clear bq
      refine hK.out _ _ ?_ (fun hHeld => ?_)
      · exact HF.out _ BB
      clear hK K
      try simp only [Act.put, List.setIfInBounds_toArray, List.set_cons_zero, List.set_cons_succ]
      refine wpAnyH_ready (rs := [16]) (by kernel_rfl) (by simp) ?_
      refine AllReadyH.cons (o := ?oit_16) ?hit_16 (fun K hK => ?_) AllReadyH.nil
      case hit_16 => simp only [List.getElem?_toArray, List.getElem?_cons_succ, List.getElem?_cons_zero]; rfl
      go_simp
      go_at_call 29
      (with_reducible refine (KG2.out _).mono ?_)
      rintro e w13 ⟨rfl, bq⟩
      replace BB : Below w12.heap.size w12 w13 := BB.trans (bq.mono BB.size)
      replace L1 : w10.heap.size < w13.heap.size := Nat.lt_of_lt_of_le L1 bq.size
      clear bq
      refine hK.out _ _ ?_ (fun hHeld => ?_)
      · exact HF.out _ BB
      clear hK K
      try simp only [Act.put, List.setIfInBounds_toArray, List.set_cons_zero, List.set_cons_succ]
      refine wpAnyH_take (i := 17) (oi := ?oit_17) (v := ?vt_17) ?hit_17 (by kernel_rfl) (by kernel_rfl) (by kernel_rfl) ?hQt_17 (Or.inl ⟨?hwt_17, ?hyt_17⟩) (by assumption) ?_
      case hit_17 => simp only [List.getElem?_toArray, List.getElem?_cons_succ, List.getElem?_cons_zero]; rfl
      case hQt_17 => exact fun _ _ _ h => h
      case hwt_17 => rfl
      case hyt_17 => intro w hSw; (try dsimp only at hSw); (first | (go_simp; done) | (go_simp; with_reducible rfl))
      try simp only [Act.put, List.setIfInBounds_toArray, List.set_cons_zero, List.set_cons_succ]
      refine wpAnyH_take (i := 18) (oi := ?oit_18) (v := ?vt_18) ?hit_18 (by kernel_rfl) (by kernel_rfl) (by kernel_rfl) ?hQt_18 (Or.inl ⟨?hwt_18, ?hyt_18⟩) (by assumption) ?_
      case hit_18 => simp only [List.getElem?_toArray, List.getElem?_cons_succ, List.getElem?_cons_zero]; rfl
      case hQt_18 => exact fun _ _ _ h => h
      case hwt_18 => rfl
      case hyt_18 => intro w hSw; (try dsimp only at hSw); (first | (go_simp; done) | (go_simp; with_reducible rfl))
      try simp only [Act.put, List.setIfInBounds_toArray, List.set_cons_zero, List.set_cons_succ]
      refine wpAnyH_take (i := 19) (oi := ?oit_19) (v := ?vt_19) ?hit_19 (by kernel_rfl) (by kernel_rfl) (by kernel_rfl) ?hQt_19 (Or.inl ⟨?hwt_19, ?hyt_19⟩) (by assumption) ?_
      case hit_19 => simp only [List.getElem?_toArray, List.getElem?_cons_succ, List.getElem?_cons_zero]; rfl
      case hQt_19 => exact fun _ _ _ h => h
      case hwt_19 => rfl
      case hyt_19 => intro w hSw; (try dsimp only at hSw); (first | (go_simp; done) | (go_simp; with_reducible rfl))
      try simp only [Act.put, List.setIfInBounds_toArray, List.set_cons_zero, List.set_cons_succ]
      refine wpAnyH_take (i := 20) (oi := ?oit_20) (v := ?vt_20) ?hit_20 (by kernel_rfl) (by kernel_rfl) (by kernel_rfl) ?hQt_20 (Or.inl ⟨?hwt_20, ?hyt_20⟩) (by assumption) ?_
      case hit_20 => simp only [List.getElem?_toArray, List.getElem?_cons_succ, List.getElem?_cons_zero]; rfl
      case hQt_20 => exact fun _ _ _ h => h
      case hwt_20 => rfl
      case hyt_20 => intro w hSw; (try dsimp only at hSw); (first | (go_simp; done) | (go_simp; with_reducible rfl))
      try simp only [Act.put, List.setIfInBounds_toArray, List.set_cons_zero, List.set_cons_succ]
      refine wpAnyH_take (i := 21) (oi := ?oit_21) (v := ?vt_21) ?hit_21 (by kernel_rfl) (by kernel_rfl) (by kernel_rfl) ?hQt_21 (Or.inl ⟨?hwt_21, ?hyt_21⟩) (by assumption) ?_
      case hit_21 => simp only [List.getElem?_toArray, List.getElem?_cons_succ, List.getElem?_cons_zero]; rfl
      case hQt_21 => exact fun _ _ _ h => h
      case hwt_21 => rfl
      case hyt_21 => intro w hSw; (try dsimp only at hSw); (first | (go_simp; done) | (go_simp; with_reducible rfl))
      try simp only [Act.put, List.setIfInBounds_toArray, List.set_cons_zero, List.set_cons_succ]
      refine wpAnyH_take (i := 22) (oi := ?oit_22) (v := ?vt_22) ?hit_22 (by kernel_rfl) (by kernel_rfl) (by kernel_rfl) ?hQt_22 (Or.inl ⟨?hwt_22, ?hyt_22⟩) (by assumption) ?_
      case hit_22 => simp only [List.getElem?_toArray, List.getElem?_cons_succ, List.getElem?_cons_zero]; rfl
      case hQt_22 => exact fun _ _ _ h => h
      case hwt_22 => rfl
      case hyt_22 => intro w hSw; (try dsimp only at hSw); (first | (go_simp; done) | (go_simp; with_reducible rfl))
      try simp only [Act.put, List.setIfInBounds_toArray, List.set_cons_zero, List.set_cons_succ]
      refine wpAnyH_take (i := 23) (oi := ?oit_23) (v := ?vt_23) ?hit_23 (by kernel_rfl) (by kernel_rfl) (by kernel_rfl) ?hQt_23 (Or.inl ⟨?hwt_23, ?hyt_23⟩) (by assumption) ?_
      case hit_23 => simp only [List.getElem?_toArray, List.getElem?_cons_succ, List.getElem?_cons_zero]; rfl
      case hQt_23 => exact fun _ _ _ h => h
      case hwt_23 => rfl
      case hyt_23 => intro w hSw; (try dsimp only at hSw); (first | (go_simp; done) | (go_simp; with_reducible rfl))
      try simp only [Act.put, List.setIfInBounds_toArray, List.set_cons_zero, List.set_cons_succ]
      refine wpAnyH_take (i := 25) (oi := ?oit_25) (v := ?vt_25) ?hit_25 (by kernel_rfl) (by kernel_rfl) (by kernel_rfl) ?hQt_25 (Or.inl ⟨?hwt_25, ?hyt_25⟩) (by assumption) ?_
      case hit_25 => simp only [List.getElem?_toArray, List.getElem?_cons_succ, List.getElem?_cons_zero]; rfl
      case hQt_25 => exact fun _ _ _ h => h
      case hwt_25 => rfl
      case hyt_25 => intro w hSw; (try dsimp only at hSw); (first | (go_simp; done) | (go_simp; with_reducible rfl))
      try simp only [Act.put, List.setIfInBounds_toArray, List.set_cons_zero, List.set_cons_succ]
      refine wpAnyH_ready (rs := [24]) (by kernel_rfl) (by simp) ?_
      refine AllReadyH.cons (o := ?oit_24) ?hit_24 (fun K hK => ?_) AllReadyH.nil
      case hit_24 => simp only [List.getElem?_toArray, List.getElem?_cons_succ, List.getElem?_cons_zero]; rfl
      go_simp
      go_at_call 30
      (with_reducible refine (KS.out _).mono ?_)
      rintro e w13 ⟨rfl, bq⟩
      replace BB : Below w12.heap.size w12 w13 := BB.trans (bq.mono BB.size)
      replace L1 : w10.heap.size < w13.heap.size := Nat.lt_of_lt_of_le L1 bq.size
      clear bq
      refine hK.out _ _ ?_ (fun hHeld => ?_)
      · exact HF.out _ BB
      clear hK K
      try simp only [Act.put, List.setIfInBounds_toArray, List.set_cons_zero, List.set_cons_succ]
      refine wpAnyH_ready (rs := [26]) (by kernel_rfl) (by simp) ?_
      refine AllReadyH.cons (o := ?oit_26) ?hit_26 (fun K hK => ?_) AllReadyH.nil
      case hit_26 => simp only [List.getElem?_toArray, List.getElem?_cons_succ, List.getElem?_cons_zero]; rfl
      go_simp
      go_at_call 24
      (with_reducible refine (KO.out _).mono ?_)
      rintro e w13 ⟨rfl, bq⟩
      replace BB : Below w12.heap.size w12 w13 := BB.trans (bq.mono BB.size)
      replace L1 : w10.heap.size < w13.heap.size := Nat.lt_of_lt_of_le L1 bq.size
      clear bq
      refine hK.out _ _ ?_ (fun hHeld => ?_)
      · exact HF.out _ BB
      clear hK K
      try simp only [Act.put, List.setIfInBounds_toArray, List.set_cons_zero, List.set_cons_succ]
      refine wpAnyH_take (i := 27) (oi := ?oit_27) (v := ?vt_27) ?hit_27 (by kernel_rfl) (by kernel_rfl) (by kernel_rfl) ?hQt_27 (Or.inl ⟨?hwt_27, ?hyt_27⟩) (by assumption) ?_
      case hit_27 => simp only [List.getElem?_toArray, List.getElem?_cons_succ, List.getElem?_cons_zero]; rfl
      case hQt_27 => exact fun _ _ _ h => h
      case hwt_27 => rfl
      case hyt_27 => intro w hSw; (try dsimp only at hSw); (first | (go_simp; done) | (go_simp; with_reducible rfl))
      try simp only [Act.put, List.setIfInBounds_toArray, List.set_cons_zero, List.set_cons_succ]
      refine wpAnyH_take (i := 28) (oi := ?oit_28) (v := ?vt_28) ?hit_28 (by kernel_rfl) (by kernel_rfl) (by kernel_rfl) ?hQt_28 (Or.inl ⟨?hwt_28, ?hyt_28⟩) (by assumption) ?_
      case hit_28 => simp only [List.getElem?_toArray, List.getElem?_cons_succ, List.getElem?_cons_zero]; rfl
      case hQt_28 => exact fun _ _ _ h => h
      case hwt_28 => rfl
      case hyt_28 => intro w hSw; (try dsimp only at hSw); (first | (go_simp; done) | (go_simp; with_reducible rfl))
      try simp only [Act.put, List.setIfInBounds_toArray, List.set_cons_zero, List.set_cons_succ]
      refine wpAnyH_take (i := 29) (oi := ?oit_29) (v := ?vt_29) ?hit_29 (by kernel_rfl) (by kernel_rfl) (by kernel_rfl) ?hQt_29 (Or.inl ⟨?hwt_29, ?hyt_29⟩) (by assumption) ?_
      case hit_29 => simp only [List.getElem?_toArray, List.getElem?_cons_succ, List.getElem?_cons_zero]; rfl
      case hQt_29 => exact fun _ _ _ h => h
      case hwt_29 => rfl
      case hyt_29 => intro w hSw; (try dsimp only at hSw); (first | (go_simp; done) | (go_simp; with_reducible rfl))
      try simp only [Act.put, List.setIfInBounds_toArray, List.set_cons_zero, List.set_cons_succ]
      refine wpAnyH_take (i := 30) (oi := ?oit_30) (v := ?vt_30) ?hit_30 (by kernel_rfl) (by kernel_rfl) (by kernel_rfl) ?hQt_30 (Or.inl ⟨?hwt_30, ?hyt_30⟩) (by assumption) ?_
      case hit_30 => simp only [List.getElem?_toArray, List.getElem?_cons_succ, List.getElem?_cons_zero]; rfl
      case hQt_30 => exact fun _ _ _ h => h
      case hwt_30 => rfl
      case hyt_30 => intro w hSw; (try dsimp only at hSw); (first | (go_simp; done) | (go_simp; with_reducible rfl))
      try simp only [Act.put, List.setIfInBounds_toArray, List.set_cons_zero, List.set_cons_succ]
      refine wpAnyH_take (i := 33) (oi := ?oit_33) (v := ?vt_33) ?hit_33 (by kernel_rfl) (by kernel_rfl) (by kernel_rfl) ?hQt_33 (Or.inl ⟨?hwt_33, ?hyt_33⟩) (by assumption) ?_
      case hit_33 => simp only [List.getElem?_toArray, List.getElem?_cons_succ, List.getElem?_cons_zero]; rfl
      case hQt_33 => exact fun _ _ _ h => h
      case hwt_33 => rfl
      case hyt_33 => intro w hSw; (try dsimp only at hSw); (first | (go_simp; done) | (go_simp; with_reducible rfl))
      try simp only [Act.put, List.setIfInBounds_toArray, List.set_cons_zero, List.set_cons_succ]
      refine wpAnyH_ready (rs := [31]) (by kernel_rfl) (by simp) ?_
      refine AllReadyH.cons (o := ?oit_31) ?hit_31 (fun K hK => ?_) AllReadyH.nil
      case hit_31 => simp only [List.getElem?_toArray, List.getElem?_cons_succ, List.getElem?_cons_zero]; rfl
      go_simp
      go_at_call 31
      (with_reducible refine (KI.out _).mono ?_)
      rintro e w13 ⟨rfl, bq⟩
      replace BB : Below w12.heap.size w12 w13 := BB.trans (bq.mono BB.size)
      replace L1 : w10.heap.size < w13.heap.size := Nat.lt_of_lt_of_le L1 bq.size
      clear bq
      refine hK.out _ _ ?_ (fun hHeld => ?_)
      · exact HF.out _ BB
      clear hK K
      try simp only [Act.put, List.setIfInBounds_toArray, List.set_cons_zero, List.set_cons_succ]
      refine wpAnyH_ready (rs := [32]) (by kernel_rfl) (by simp) ?_
      refine AllReadyH.cons (o := ?oit_32) ?hit_32 (fun K hK => ?_) AllReadyH.nil
      case hit_32 => simp only [List.getElem?_toArray, List.getElem?_cons_succ, List.getElem?_cons_zero]; rfl
      go_simp
      go_at_call 31
      (with_reducible refine (KJ.out _).mono ?_)
      rintro e w13 ⟨rfl, bq⟩
      replace BB : Below w12.heap.size w12 w13 := BB.trans (bq.mono BB.size)
      replace L1 : w10.heap.size < w13.heap.size := Nat.lt_of_lt_of_le L1 bq.size
      clear bq
      refine hK.out _ _ ?_ (fun hHeld => ?_)
      · exact HF.out _ BB
      clear hK K
      try simp only [Act.put, List.setIfInBounds_toArray, List.set_cons_zero, List.set_cons_succ]
      refine wpAnyH_ready (rs := [34]) (by kernel_rfl) (by simp) ?_
      refine AllReadyH.cons (o := ?oit_34) ?hit_34 (fun K hK => ?_) AllReadyH.nil
      case hit_34 => simp only [List.getElem?_toArray, List.getElem?_cons_succ, List.getElem?_cons_zero]; rfl
      go_simp
      go_at_call 31
      (with_reducible refine (KI.out _).mono ?_)
      rintro e w13 ⟨rfl, bq⟩
      replace BB : Below w12.heap.size w12 w13 := BB.trans (bq.mono BB.size)
      replace L1 : w10.heap.size < w13.heap.size := Nat.lt_of_lt_of_le L1 bq.size
      clear bq
      refine hK.out _ _ ?_ (fun hHeld => ?_)
      · exact HF.out _ BB
      clear hK K
      try simp only [Act.put, List.setIfInBounds_toArray, List.set_cons_zero, List.set_cons_succ]
      refine wpAnyH_take (i := 35) (oi := ?oit_35) (v := ?vt_35) ?hit_35 (by kernel_rfl) (by kernel_rfl) (by kernel_rfl) ?hQt_35 (Or.inl ⟨?hwt_35, ?hyt_35⟩) (by assumption) ?_
      case hit_35 => simp only [List.getElem?_toArray, List.getElem?_cons_succ, List.getElem?_cons_zero]; rfl
      case hQt_35 => exact fun _ _ _ h => h
      case hwt_35 => rfl
      case hyt_35 => intro w hSw; (try dsimp only at hSw); (first | (go_simp; done) | (go_simp; with_reducible rfl))
      try simp only [Act.put, List.setIfInBounds_toArray, List.set_cons_zero, List.set_cons_succ]
      refine wpAnyH_take (i := 36) (oi := ?oit_36) (v := ?vt_36) ?hit_36 (by kernel_rfl) (by kernel_rfl) (by kernel_rfl) ?hQt_36 (Or.inl ⟨?hwt_36, ?hyt_36⟩) (by assumption) ?_
      case hit_36 => simp only [List.getElem?_toArray, List.getElem?_cons_succ, List.getElem?_cons_zero]; rfl
      case hQt_36 => exact fun _ _ _ h => h
      case hwt_36 => rfl
      case hyt_36 => intro w hSw; (try dsimp only at hSw); (first | (go_simp; done) | (go_simp; with_reducible rfl))
      try simp only [Act.put, List.setIfInBounds_toArray, List.set_cons_zero, List.set_cons_succ]
      refine wpAnyH_take (i := 37) (oi := ?oit_37) (v := ?vt_37) ?hit_37 (by kernel_rfl) (by kernel_rfl) (by kernel_rfl) ?hQt_37 (Or.inl ⟨?hwt_37, ?hyt_37⟩) (by assumption) ?_
      case hit_37 => simp only [List.getElem?_toArray, List.getElem?_cons_succ, List.getElem?_cons_zero]; rfl
      case hQt_37 => exact fun _ _ _ h => h
      case hwt_37 => rfl
      case hyt_37 => intro w hSw; (try dsimp only at hSw); (first | (go_simp; done) | (go_simp; with_reducible rfl))
      try simp only [Act.put, List.setIfInBounds_toArray, List.set_cons_zero, List.set_cons_succ]
      refine wpAnyH_take (i := 38) (oi := ?oit_38) (v := ?vt_38) ?hit_38 (by kernel_rfl) (by kernel_rfl) (by kernel_rfl) ?hQt_38 (Or.inl ⟨?hwt_38, ?hyt_38⟩) (by assumption) ?_
      case hit_38 => simp only [List.getElem?_toArray, List.getElem?_cons_succ, List.getElem?_cons_zero]; rfl
      case hQt_38 => exact fun _ _ _ h => h
      case hwt_38 => rfl
      case hyt_38 => intro w hSw; (try dsimp only at hSw); (first | (go_simp; done) | (go_simp; with_reducible rfl))
      try simp only [Act.put, List.setIfInBounds_toArray, List.set_cons_zero, List.set_cons_succ]
      refine wpAnyH_take (i := 40) (oi := ?oit_40) (v := ?vt_40) ?hit_40 (by kernel_rfl) (by kernel_rfl) (by kernel_rfl) ?hQt_40 (Or.inl ⟨?hwt_40, ?hyt_40⟩) (by assumption) ?_
      case hit_40 => simp only [List.getElem?_toArray, List.getElem?_cons_succ, List.getElem?_cons_zero]; rfl
      case hQt_40 => exact fun _ _ _ h => h
      case hwt_40 => rfl
      case hyt_40 => intro w hSw; (try dsimp only at hSw); (first | (go_simp; done) | (go_simp; with_reducible rfl))
      try simp only [Act.put, List.setIfInBounds_toArray, List.set_cons_zero, List.set_cons_succ]
      refine wpAnyH_ready (rs := [39]) (by kernel_rfl) (by simp) ?_
      refine AllReadyH.cons (o := ?oit_39) ?hit_39 (fun K hK => ?_) AllReadyH.nil
      case hit_39 => simp only [List.getElem?_toArray, List.getElem?_cons_succ, List.getElem?_cons_zero]; rfl
      go_simp
      go_at_call 32
      (with_reducible refine (KH.out _).mono ?_)
      rintro e w13 ⟨rfl, bq⟩
      replace BB : Below w12.heap.size w12 w13 := BB.trans (bq.mono BB.size)
      replace L1 : w10.heap.size < w13.heap.size := Nat.lt_of_lt_of_le L1 bq.size
      clear bq
      refine hK.out _ _ ?_ (fun hHeld => ?_)
      · exact HF.out _ BB
      clear hK K
      try simp only [Act.put, List.setIfInBounds_toArray, List.set_cons_zero, List.set_cons_succ]
      refine wpAnyH_ready (rs := [41]) (by kernel_rfl) (by simp) ?_
      refine AllReadyH.cons (o := ?oit_41) ?hit_41 (fun K hK => ?_) AllReadyH.nil
      case hit_41 => simp only [List.getElem?_toArray, List.getElem?_cons_succ, List.getElem?_cons_zero]; rfl
      go_simp
      go_at_call 31
      (with_reducible refine (KI.out _).mono ?_)
      rintro e w13 ⟨rfl, bq⟩
      replace BB : Below w12.heap.size w12 w13 := BB.trans (bq.mono BB.size)
      replace L1 : w10.heap.size < w13.heap.size := Nat.lt_of_lt_of_le L1 bq.size
      clear bq
      refine hK.out _ _ ?_ (fun hHeld => ?_)
      · exact HF.out _ BB
      clear hK K
      try simp only [Act.put, List.setIfInBounds_toArray, List.set_cons_zero, List.set_cons_succ]
      refine wpAnyH_take (i := 42) (oi := ?oit_42) (v := ?vt_42) ?hit_42 (by kernel_rfl) (by kernel_rfl) (by kernel_rfl) ?hQt_42 (Or.inl ⟨?hwt_42, ?hyt_42⟩) (by assumption) ?_
      case hit_42 => simp only [List.getElem?_toArray, List.getElem?_cons_succ, List.getElem?_cons_zero]; rfl
      case hQt_42 => exact fun _ _ _ h => h
      case hwt_42 => rfl
      case hyt_42 => intro w hSw; (try dsimp only at hSw); (first | (go_simp; done) | (go_simp; with_reducible rfl))
      try simp only [Act.put, List.setIfInBounds_toArray, List.set_cons_zero, List.set_cons_succ]
      refine wpAnyH_take (i := 43) (oi := ?oit_43) (v := ?vt_43) ?hit_43 (by kernel_rfl) (by kernel_rfl) (by kernel_rfl) ?hQt_43 (Or.inl ⟨?hwt_43, ?hyt_43⟩) (by assumption) ?_
      case hit_43 => simp only [List.getElem?_toArray, List.getElem?_cons_succ, List.getElem?_cons_zero]; rfl
      case hQt_43 => exact fun _ _ _ h => h
      case hwt_43 => rfl
      case hyt_43 => intro w hSw; (try dsimp only at hSw); (first | (go_simp; done) | (go_simp; with_reducible rfl))
      try simp only [Act.put, List.setIfInBounds_toArray, List.set_cons_zero, List.set_cons_succ]
      refine wpAnyH_take (i := 44) (oi := ?oit_44) (v := ?vt_44) ?hit_44 (by kernel_rfl) (by kernel_rfl) (by kernel_rfl) ?hQt_44 (Or.inl ⟨?hwt_44, ?hyt_44⟩) (by assumption) ?_
      case hit_44 => simp only [List.getElem?_toArray, List.getElem?_cons_succ, List.getElem?_cons_zero]; rfl
      case hQt_44 => exact fun _ _ _ h => h
      case hwt_44 => rfl
      case hyt_44 => intro w hSw; (try dsimp only at hSw); (first | (go_simp; done) | (go_simp; with_reducible rfl))
      try simp only [Act.put, List.setIfInBounds_toArray, List.set_cons_zero, List.set_cons_succ]
      refine wpAnyH_take (i := 45) (oi := ?oit_45) (v := ?vt_45) ?hit_45 (by kernel_rfl) (by kernel_rfl) (by kernel_rfl) ?hQt_45 (Or.inl ⟨?hwt_45, ?hyt_45⟩) (by assumption) ?_
      case hit_45 => simp only [List.getElem?_toArray, List.getElem?_cons_succ, List.getElem?_cons_zero]; rfl
      case hQt_45 => exact fun _ _ _ h => h
      case hwt_45 => rfl
      case hyt_45 => intro w hSw; (try dsimp only at hSw); (first | (go_simp; done) | (go_simp; with_reducible rfl))
      try simp only [Act.put, List.setIfInBounds_toArray, List.set_cons_zero, List.set_cons_succ]
      refine wpAnyH_take (i := 46) (oi := ?oit_46) (v := ?vt_46) ?hit_46 (by kernel_rfl) (by kernel_rfl) (by kernel_rfl) ?hQt_46 (Or.inl ⟨?hwt_46, ?hyt_46⟩) (by assumption) ?_
      case hit_46 => simp only [List.getElem?_toArray, List.getElem?_cons_succ, List.getElem?_cons_zero]; rfl
      case hQt_46 => exact fun _ _ _ h => h
      case hwt_46 => rfl
      case hyt_46 => intro w hSw; (try dsimp only at hSw); (first | (go_simp; done) | (go_simp; with_reducible rfl))
      try simp only [Act.put, List.setIfInBounds_toArray, List.set_cons_zero, List.set_cons_succ]
      refine wpAnyH_take (i := 48) (oi := ?oit_48) (v := ?vt_48) ?hit_48 (by kernel_rfl) (by kernel_rfl) (by kernel_rfl) ?hQt_48 (Or.inl ⟨?hwt_48, ?hyt_48⟩) (by assumption) ?_
      case hit_48 => simp only [List.getElem?_toArray, List.getElem?_cons_succ, List.getElem?_cons_zero]; rfl
      case hQt_48 => exact fun _ _ _ h => h
      case hwt_48 => rfl
      case hyt_48 => intro w hSw; (try dsimp only at hSw); (first | (go_simp; done) | (go_simp; with_reducible rfl))
      try simp only [Act.put, List.setIfInBounds_toArray, List.set_cons_zero, List.set_cons_succ]
      refine wpAnyH_ready (rs := [47]) (by kernel_rfl) (by simp) ?_
      refine AllReadyH.cons (o := ?oit_47) ?hit_47 (fun K hK => ?_) AllReadyH.nil
      case hit_47 => simp only [List.getElem?_toArray, List.getElem?_cons_succ, List.getElem?_cons_zero]; rfl
      go_simp
      go_at_call 33
      (with_reducible refine (KZ.out _).mono ?_)
      rintro e w13 ⟨rfl, bq⟩
      replace BB : Below w12.heap.size w12 w13 := BB.trans (bq.mono BB.size)
      replace L1 : w10.heap.size < w13.heap.size := Nat.lt_of_lt_of_le L1 bq.size
      clear bq
      refine hK.out _ _ ?_ (fun hHeld => ?_)
      · exact HF.out _ BB
      clear hK K
      try simp only [Act.put, List.setIfInBounds_toArray, List.set_cons_zero, List.set_cons_succ]
      refine wpAnyH_ready (rs := [49]) (by kernel_rfl) (by simp) ?_
      refine AllReadyH.cons (o := ?oit_49) ?hit_49 (fun K hK => ?_) AllReadyH.nil
      case hit_49 => simp only [List.getElem?_toArray, List.getElem?_cons_succ, List.getElem?_cons_zero]; rfl
      go_simp
      go_at_call 34
      (with_reducible refine (KY.out _).mono ?_)
      rintro e w13 ⟨rfl, bq⟩
      replace BB : Below w12.heap.size w12 w13 := BB.trans (bq.mono BB.size)
      replace L1 : w10.heap.size < w13.heap.size := Nat.lt_of_lt_of_le L1 bq.size
      clear bq
      refine hK.out _ _ ?_ (fun hHeld => ?_)
      · exact HF.out _ BB
      clear hK K
      try simp only [Act.put, List.setIfInBounds_toArray, List.set_cons_zero, List.set_cons_succ]
      refine wpAnyH_take (i := 50) (oi := ?oit_50) (v := ?vt_50) ?hit_50 (by kernel_rfl) (by kernel_rfl) (by kernel_rfl) ?hQt_50 (Or.inl ⟨?hwt_50, ?hyt_50⟩) (by assumption) ?_
      case hit_50 => simp only [List.getElem?_toArray, List.getElem?_cons_succ, List.getElem?_cons_zero]; rfl
      case hQt_50 => exact fun _ _ _ h => h
      case hwt_50 => rfl
      case hyt_50 => intro w hSw; (try dsimp only at hSw); (first | (go_simp; done) | (go_simp; with_reducible rfl))
      try simp only [Act.put, List.setIfInBounds_toArray, List.set_cons_zero, List.set_cons_succ]
      refine wpAnyH_take (i := 51) (oi := ?oit_51) (v := ?vt_51) ?hit_51 (by kernel_rfl) (by kernel_rfl) (by kernel_rfl) ?hQt_51 (Or.inl ⟨?hwt_51, ?hyt_51⟩) (by assumption) ?_
      case hit_51 => simp only [List.getElem?_toArray, List.getElem?_cons_succ, List.getElem?_cons_zero]; rfl
      case hQt_51 => exact fun _ _ _ h => h
      case hwt_51 => rfl
      case hyt_51 => intro w hSw; (try dsimp only at hSw); (first | (go_simp; done) | (go_simp; with_reducible rfl))
      try simp only [Act.put, List.setIfInBounds_toArray, List.set_cons_zero, List.set_cons_succ]
      refine wpAnyH_take (i := 52) (oi := ?oit_52) (v := ?vt_52) ?hit_52 (by kernel_rfl) (by kernel_rfl) (by kernel_rfl) ?hQt_52 (Or.inl ⟨?hwt_52, ?hyt_52⟩) (by assumption) ?_
      case hit_52 => simp only [List.getElem?_toArray, List.getElem?_cons_succ, List.getElem?_cons_zero]; rfl
      case hQt_52 => exact fun _ _ _ h => h
      case hwt_52 => rfl
      case hyt_52 => intro w hSw; (try dsimp only at hSw); (first | (go_simp; done) | (go_simp; with_reducible rfl))
      try simp only [Act.put, List.setIfInBounds_toArray, List.set_cons_zero, List.set_cons_succ]
      refine wpAnyH_done (by kernel_rfl) ?_ _
      go_wp2
      go_ret
      exact ⟨rfl, HB.trans (BB.mono HB.size)⟩
    | false =>
      clear KG
      refine wp_region_held_drew (S := (fun wx => wx.cell? ⟨w10.heap.size, 0, none⟩ = some (.bool p.Secure) ∧ wx.cell? ⟨w10.heap.size, 1, none⟩ = some (.string p.Host) ∧ wx.cell? ⟨w10.heap.size, 2, none⟩ = some (.int .i64 p.Port))) (by kernel_rfl) ?_ (fun hHeld => ?_)
      · exact HF.out _ BB
      refine wpAnyH_take (i := 0) (oi := ?oif_0) (v := ?vf_0) ?hif_0 (by kernel_rfl) (by kernel_rfl) (by kernel_rfl) ?hQf_0 (Or.inl ⟨?hwf_0, ?hyf_0⟩) (by assumption) ?_
      case hif_0 => simp only [List.getElem?_toArray, List.getElem?_cons_zero]; rfl
      case hQf_0 => exact fun _ _ _ h => h
      case hwf_0 => rfl
      case hyf_0 => intro w hSw; (try dsimp only at hSw); (first | (go_simp; done) | (go_simp; with_reducible rfl))
      try simp only [Act.put, List.setIfInBounds_toArray, List.set_cons_zero, List.set_cons_succ]
      refine wpAnyH_take (i := 1) (oi := ?oif_1) (v := ?vf_1) ?hif_1 (by kernel_rfl) (by kernel_rfl) (by kernel_rfl) ?hQf_1 (Or.inl ⟨?hwf_1, ?hyf_1⟩) (by assumption) ?_
      case hif_1 => simp only [List.getElem?_toArray, List.getElem?_cons_succ, List.getElem?_cons_zero]; rfl
      case hQf_1 => exact fun _ _ _ h => h
      case hwf_1 => rfl
      case hyf_1 => intro w hSw; (try dsimp only at hSw); (first | (go_simp; done) | (go_simp; with_reducible rfl))
      try simp only [Act.put, List.setIfInBounds_toArray, List.set_cons_zero, List.set_cons_succ]
      refine wpAnyH_take (i := 2) (oi := ?oif_2) (v := ?vf_2) ?hif_2 (by kernel_rfl) (by kernel_rfl) (by kernel_rfl) ?hQf_2 (Or.inl ⟨?hwf_2, ?hyf_2⟩) (by assumption) ?_
      case hif_2 => simp only [List.getElem?_toArray, List.getElem?_cons_succ, List.getElem?_cons_zero]; rfl
      case hQf_2 => exact fun _ _ _ h => h
      case hwf_2 => rfl
      case hyf_2 => intro w hSw; (try dsimp only at hSw); (first | (go_simp; done) | (go_simp; with_reducible rfl))
      try simp only [Act.put, List.setIfInBounds_toArray, List.set_cons_zero, List.set_cons_succ]
      refine wpAnyH_ready (rs := [3]) (by kernel_rfl) (by simp) ?_
      refine AllReadyH.cons (o := ?oif_3) ?hif_3 (fun K hK => ?_) AllReadyH.nil
      case hif_3 => simp only [List.getElem?_toArray, List.getElem?_cons_succ, List.getElem?_cons_zero]; rfl
      go_simp
      go_at_call 28
      (with_reducible refine (KM.out _).mono ?_)
      rintro e w13 ⟨rfl, bq⟩
      replace BB : Below w12.heap.size w12 w13 := BB.trans (bq.mono BB.size)
      replace L1 : w10.heap.size < w13.heap.size := Nat.lt_of_lt_of_le L1 bq.size
      clear bq
      refine hK.out _ _ ?_ (fun hHeld => ?_)
      · exact HF.out _ BB
      clear hK K
      try simp only [Act.put, List.setIfInBounds_toArray, List.set_cons_zero, List.set_cons_succ]
      refine wpAnyH_take (i := 4) (oi := ?oif_4) (v := ?vf_4) ?hif_4 (by kernel_rfl) (by kernel_rfl) (by kernel_rfl) ?hQf_4 (Or.inl ⟨?hwf_4, ?hyf_4⟩) (by assumption) ?_
      case hif_4 => simp only [List.getElem?_toArray, List.getElem?_cons_succ, List.getElem?_cons_zero]; rfl
      case hQf_4 => exact fun _ _ _ h => h
      case hwf_4 => rfl
      case hyf_4 => intro w hSw; (try dsimp only at hSw); (first | (go_simp; done) | (go_simp; with_reducible rfl))
      try simp only [Act.put, List.setIfInBounds_toArray, List.set_cons_zero, List.set_cons_succ]
      refine wpAnyH_take (i := 5) (oi := ?oif_5) (v := ?vf_5) ?hif_5 (by kernel_rfl) (by kernel_rfl) (by kernel_rfl) ?hQf_5 (Or.inl ⟨?hwf_5, ?hyf_5⟩) (by assumption) ?_
      case hif_5 => simp only [List.getElem?_toArray, List.getElem?_cons_succ, List.getElem?_cons_zero]; rfl
      case hQf_5 => exact fun _ _ _ h => h
      case hwf_5 => rfl
      case hyf_5 => intro w hSw; (try dsimp only at hSw); (first | (go_simp; done) | (go_simp; with_reducible rfl))
      try simp only [Act.put, List.setIfInBounds_toArray, List.set_cons_zero, List.set_cons_succ]
      refine wpAnyH_take (i := 6) (oi := ?oif_6) (v := ?vf_6) ?hif_6 (by kernel_rfl) (by kernel_rfl) (by kernel_rfl) ?hQf_6 (Or.inl ⟨?hwf_6, ?hyf_6⟩) (by assumption) ?_
      case hif_6 => simp only [List.getElem?_toArray, List.getElem?_cons_succ, List.getElem?_cons_zero]; rfl
      case hQf_6 => exact fun _ _ _ h => h
      case hwf_6 => rfl
      case hyf_6 => intro w hSw; (try dsimp only at hSw); (first | (go_simp; done) | (go_simp; with_reducible rfl))
      try simp only [Act.put, List.setIfInBounds_toArray, List.set_cons_zero, List.set_cons_succ]
      refine wpAnyH_take (i := 7) (oi := ?oif_7) (v := ?vf_7) ?hif_7 (by kernel_rfl) (by kernel_rfl) (by kernel_rfl) ?hQf_7 (Or.inl ⟨?hwf_7, ?hyf_7⟩) (by assumption) ?_
      case hif_7 => simp only [List.getElem?_toArray, List.getElem?_cons_succ, List.getElem?_cons_zero]; rfl
      case hQf_7 => exact fun _ _ _ h => h
      case hwf_7 => rfl
      case hyf_7 => intro w hSw; (try dsimp only at hSw); (first | (go_simp; done) | (go_simp; with_reducible rfl))
      try simp only [Act.put, List.setIfInBounds_toArray, List.set_cons_zero, List.set_cons_succ]
      refine wpAnyH_take (i := 8) (oi := ?oif_8) (v := ?vf_8) ?hif_8 (by kernel_rfl) (by kernel_rfl) (by kernel_rfl) ?hQf_8 (Or.inl ⟨?hwf_8, ?hyf_8⟩) (by assumption) ?_
      case hif_8 => simp only [List.getElem?_toArray, List.getElem?_cons_succ, List.getElem?_cons_zero]; rfl
      case hQf_8 => exact fun _ _ _ h => h
      case hwf_8 => rfl
      case hyf_8 => intro w hSw; (try dsimp only at hSw); (first | (go_simp; done) | (go_simp; with_reducible rfl))
      try simp only [Act.put, List.setIfInBounds_toArray, List.set_cons_zero, List.set_cons_succ]
      refine wpAnyH_take (i := 9) (oi := ?oif_9) (v := undef) ?hif_9 (by kernel_rfl) (by kernel_rfl) (by kernel_rfl) ?hQf_9 (Or.inr ⟨?hwf_9, rfl⟩) (by assumption) ?_
      case hif_9 => simp only [List.getElem?_toArray, List.getElem?_cons_succ, List.getElem?_cons_zero]; rfl
      case hQf_9 => exact fun _ _ _ h => h
      case hwf_9 => rfl
      try simp only [Act.put, List.setIfInBounds_toArray, List.set_cons_zero, List.set_cons_succ]
      refine wpAnyH_take (i := 10) (oi := ?oif_10) (v := undef) ?hif_10 (by kernel_rfl) (by kernel_rfl) (by kernel_rfl) ?hQf_10 (Or.inr ⟨?hwf_10, rfl⟩) (by assumption) ?_
      case hif_10 => simp only [List.getElem?_toArray, List.getElem?_cons_succ, List.getElem?_cons_zero]; rfl
      case hQf_10 => exact fun _ _ _ h => h
      case hwf_10 => rfl
      try simp only [Act.put, List.setIfInBounds_toArray, List.set_cons_zero, List.set_cons_succ]
      refine wpAnyH_take (i := 11) (oi := ?oif_11) (v := undef) ?hif_11 (by kernel_rfl) (by kernel_rfl) (by kernel_rfl) ?hQf_11 (Or.inr ⟨?hwf_11, rfl⟩) (by assumption) ?_
      case hif_11 => simp only [List.getElem?_toArray, List.getElem?_cons_succ, List.getElem?_cons_zero]; rfl
      case hQf_11 => exact fun _ _ _ h => h
      case hwf_11 => rfl
      try simp only [Act.put, List.setIfInBounds_toArray, List.set_cons_zero, List.set_cons_succ]
      refine wpAnyH_take (i := 12) (oi := ?oif_12) (v := undef) ?hif_12 (by kernel_rfl) (by kernel_rfl) (by kernel_rfl) ?hQf_12 (Or.inr ⟨?hwf_12, rfl⟩) (by assumption) ?_
      case hif_12 => simp only [List.getElem?_toArray, List.getElem?_cons_succ, List.getElem?_cons_zero]; rfl
      case hQf_12 => exact fun _ _ _ h => h
      case hwf_12 => rfl
      try simp only [Act.put, List.setIfInBounds_toArray, List.set_cons_zero, List.set_cons_succ]
      refine wpAnyH_take (i := 13) (oi := ?oif_13) (v := undef) ?hif_13 (by kernel_rfl) (by kernel_rfl) (by kernel_rfl) ?hQf_13 (Or.inr ⟨?hwf_13, rfl⟩) (by assumption) ?_
      case hif_13 => simp only [List.getElem?_toArray, List.getElem?_cons_succ, List.getElem?_cons_zero]; rfl
      case hQf_13 => exact fun _ _ _ h => h
      case hwf_13 => rfl
      try simp only [Act.put, List.setIfInBounds_toArray, List.set_cons_zero, List.set_cons_succ]
      refine wpAnyH_take (i := 14) (oi := ?oif_14) (v := undef) ?hif_14 (by kernel_rfl) (by kernel_rfl) (by kernel_rfl) ?hQf_14 (Or.inr ⟨?hwf_14, rfl⟩) (by assumption) ?_
      case hif_14 => simp only [List.getElem?_toArray, List.getElem?_cons_succ, List.getElem?_cons_zero]; rfl
      case hQf_14 => exact fun _ _ _ h => h
      case hwf_14 => rfl
      try simp only [Act.put, List.setIfInBounds_toArray, List.set_cons_zero, List.set_cons_succ]
      refine wpAnyH_take (i := 15) (oi := ?oif_15) (v := undef) ?hif_15 (by kernel_rfl) (by kernel_rfl) (by kernel_rfl) ?hQf_15 (Or.inr ⟨?hwf_15, rfl⟩) (by assumption) ?_
      case hif_15 => simp only [List.getElem?_toArray, List.getElem?_cons_succ, List.getElem?_cons_zero]; rfl
      case hQf_15 => exact fun _ _ _ h => h
      case hwf_15 => rfl
      try simp only [Act.put, List.setIfInBounds_toArray, List.set_cons_zero, List.set_cons_succ]
      refine wpAnyH_take (i := 16) (oi := ?oif_16) (v := undef) ?hif_16 (by kernel_rfl) (by kernel_rfl) (by kernel_rfl) ?hQf_16 (Or.inr ⟨?hwf_16, rfl⟩) (by assumption) ?_
      case hif_16 => simp only [List.getElem?_toArray, List.getElem?_cons_succ, List.getElem?_cons_zero]; rfl
      case hQf_16 => exact fun _ _ _ h => h
      case hwf_16 => rfl
      try simp only [Act.put, List.setIfInBounds_toArray, List.set_cons_zero, List.set_cons_succ]
      refine wpAnyH_take (i := 17) (oi := ?oif_17) (v := undef) ?hif_17 (by kernel_rfl) (by kernel_rfl) (by kernel_rfl) ?hQf_17 (Or.inr ⟨?hwf_17, rfl⟩) (by assumption) ?_
      case hif_17 => simp only [List.getElem?_toArray, List.getElem?_cons_succ, List.getElem?_cons_zero]; rfl
      case hQf_17 => exact fun _ _ _ h => h
      case hwf_17 => rfl
      try simp only [Act.put, List.setIfInBounds_toArray, List.set_cons_zero, List.set_cons_succ]
      refine wpAnyH_take (i := 18) (oi := ?oif_18) (v := undef) ?hif_18 (by kernel_rfl) (by kernel_rfl) (by kernel_rfl) ?hQf_18 (Or.inr ⟨?hwf_18, rfl⟩) (by assumption) ?_
      case hif_18 => simp only [List.getElem?_toArray, List.getElem?_cons_succ, List.getElem?_cons_zero]; rfl
      case hQf_18 => exact fun _ _ _ h => h
      case hwf_18 => rfl
      try simp only [Act.put, List.setIfInBounds_toArray, List.set_cons_zero, List.set_cons_succ]
      refine wpAnyH_take (i := 19) (oi := ?oif_19) (v := ?vf_19) ?hif_19 (by kernel_rfl) (by kernel_rfl) (by kernel_rfl) ?hQf_19 (Or.inl ⟨?hwf_19, ?hyf_19⟩) (by assumption) ?_
      case hif_19 => simp only [List.getElem?_toArray, List.getElem?_cons_succ, List.getElem?_cons_zero]; rfl
      case hQf_19 => exact fun _ _ _ h => h
      case hwf_19 => rfl
      case hyf_19 => intro w hSw; (try dsimp only at hSw); (first | (go_simp; done) | (go_simp; with_reducible rfl))
      try simp only [Act.put, List.setIfInBounds_toArray, List.set_cons_zero, List.set_cons_succ]
      refine wpAnyH_take (i := 20) (oi := ?oif_20) (v := ?vf_20) ?hif_20 (by kernel_rfl) (by kernel_rfl) (by kernel_rfl) ?hQf_20 (Or.inl ⟨?hwf_20, ?hyf_20⟩) (by assumption) ?_
      case hif_20 => simp only [List.getElem?_toArray, List.getElem?_cons_succ, List.getElem?_cons_zero]; rfl
      case hQf_20 => exact fun _ _ _ h => h
      case hwf_20 => rfl
      case hyf_20 => intro w hSw; (try dsimp only at hSw); (first | (go_simp; done) | (go_simp; with_reducible rfl))
      try simp only [Act.put, List.setIfInBounds_toArray, List.set_cons_zero, List.set_cons_succ]
      refine wpAnyH_take (i := 21) (oi := ?oif_21) (v := ?vf_21) ?hif_21 (by kernel_rfl) (by kernel_rfl) (by kernel_rfl) ?hQf_21 (Or.inl ⟨?hwf_21, ?hyf_21⟩) (by assumption) ?_
      case hif_21 => simp only [List.getElem?_toArray, List.getElem?_cons_succ, List.getElem?_cons_zero]; rfl
      case hQf_21 => exact fun _ _ _ h => h
      case hwf_21 => rfl
      case hyf_21 => intro w hSw; (try dsimp only at hSw); (first | (go_simp; done) | (go_simp; with_reducible rfl))
      try simp only [Act.put, List.setIfInBounds_toArray, List.set_cons_zero, List.set_cons_succ]
      refine wpAnyH_take (i := 22) (oi := ?oif_22) (v := ?vf_22) ?hif_22 (by kernel_rfl) (by kernel_rfl) (by kernel_rfl) ?hQf_22 (Or.inl ⟨?hwf_22, ?hyf_22⟩) (by assumption) ?_
      case hif_22 => simp only [List.getElem?_toArray, List.getElem?_cons_succ, List.getElem?_cons_zero]; rfl
      case hQf_22 => exact fun _ _ _ h => h
      case hwf_22 => rfl
      case hyf_22 => intro w hSw; (try dsimp only at hSw); (first | (go_simp; done) | (go_simp; with_reducible rfl))
      try simp only [Act.put, List.setIfInBounds_toArray, List.set_cons_zero, List.set_cons_succ]
      refine wpAnyH_take (i := 23) (oi := ?oif_23) (v := ?vf_23) ?hif_23 (by kernel_rfl) (by kernel_rfl) (by kernel_rfl) ?hQf_23 (Or.inl ⟨?hwf_23, ?hyf_23⟩) (by assumption) ?_
      case hif_23 => simp only [List.getElem?_toArray, List.getElem?_cons_succ, List.getElem?_cons_zero]; rfl
      case hQf_23 => exact fun _ _ _ h => h
      case hwf_23 => rfl
      case hyf_23 => intro w hSw; (try dsimp only at hSw); (first | (go_simp; done) | (go_simp; with_reducible rfl))
      try simp only [Act.put, List.setIfInBounds_toArray, List.set_cons_zero, List.set_cons_succ]
      refine wpAnyH_take (i := 25) (oi := ?oif_25) (v := ?vf_25) ?hif_25 (by kernel_rfl) (by kernel_rfl) (by kernel_rfl) ?hQf_25 (Or.inl ⟨?hwf_25, ?hyf_25⟩) (by assumption) ?_
      case hif_25 => simp only [List.getElem?_toArray, List.getElem?_cons_succ, List.getElem?_cons_zero]; rfl
      case hQf_25 => exact fun _ _ _ h => h
      case hwf_25 => rfl
      case hyf_25 => intro w hSw; (try dsimp only at hSw); (first | (go_simp; done) | (go_simp; with_reducible rfl))
      try simp only [Act.put, List.setIfInBounds_toArray, List.set_cons_zero, List.set_cons_succ]
      refine wpAnyH_ready (rs := [24]) (by kernel_rfl) (by simp) ?_
      refine AllReadyH.cons (o := ?oif_24) ?hif_24 (fun K hK => ?_) AllReadyH.nil
      case hif_24 => simp only [List.getElem?_toArray, List.getElem?_cons_succ, List.getElem?_cons_zero]; rfl
      go_simp
      go_at_call 30
      (with_reducible refine (KS.out _).mono ?_)
      rintro e w13 ⟨rfl, bq⟩
      replace BB : Below w12.heap.size w12 w13 := BB.trans (bq.mono BB.size)
      replace L1 : w10.heap.size < w13.heap.size := Nat.lt_of_lt_of_le L1 bq.size
      clear bq
      refine hK.out _ _ ?_ (fun hHeld => ?_)
      · exact HF.out _ BB
      clear hK K
      try simp only [Act.put, List.setIfInBounds_toArray, List.set_cons_zero, List.set_cons_succ]
      refine wpAnyH_ready (rs := [26]) (by kernel_rfl) (by simp) ?_
      refine AllReadyH.cons (o := ?oif_26) ?hif_26 (fun K hK => ?_) AllReadyH.nil
      case hif_26 => simp only [List.getElem?_toArray, List.getElem?_cons_succ, List.getElem?_cons_zero]; rfl
      go_simp
      go_at_call 24
      (with_reducible refine (KO.out _).mono ?_)
      rintro e w13 ⟨rfl, bq⟩
      replace BB : Below w12.heap.size w12 w13 := BB.trans (bq.mono BB.size)
      replace L1 : w10.heap.size < w13.heap.size := Nat.lt_of_lt_of_le L1 bq.size
      clear bq
      refine hK.out _ _ ?_ (fun hHeld => ?_)
      · exact HF.out _ BB
      clear hK K
      try simp only [Act.put, List.setIfInBounds_toArray, List.set_cons_zero, List.set_cons_succ]
      refine wpAnyH_take (i := 27) (oi := ?oif_27) (v := ?vf_27) ?hif_27 (by kernel_rfl) (by kernel_rfl) (by kernel_rfl) ?hQf_27 (Or.inl ⟨?hwf_27, ?hyf_27⟩) (by assumption) ?_
      case hif_27 => simp only [List.getElem?_toArray, List.getElem?_cons_succ, List.getElem?_cons_zero]; rfl
      case hQf_27 => exact fun _ _ _ h => h
      case hwf_27 => rfl
      case hyf_27 => intro w hSw; (try dsimp only at hSw); (first | (go_simp; done) | (go_simp; with_reducible rfl))
      try simp only [Act.put, List.setIfInBounds_toArray, List.set_cons_zero, List.set_cons_succ]
      refine wpAnyH_take (i := 28) (oi := ?oif_28) (v := ?vf_28) ?hif_28 (by kernel_rfl) (by kernel_rfl) (by kernel_rfl) ?hQf_28 (Or.inl ⟨?hwf_28, ?hyf_28⟩) (by assumption) ?_
      case hif_28 => simp only [List.getElem?_toArray, List.getElem?_cons_succ, List.getElem?_cons_zero]; rfl
      case hQf_28 => exact fun _ _ _ h => h
      case hwf_28 => rfl
      case hyf_28 => intro w hSw; (try dsimp only at hSw); (first | (go_simp; done) | (go_simp; with_reducible rfl))
      try simp only [Act.put, List.setIfInBounds_toArray, List.set_cons_zero, List.set_cons_succ]
      refine wpAnyH_take (i := 29) (oi := ?oif_29) (v := ?vf_29) ?hif_29 (by kernel_rfl) (by kernel_rfl) (by kernel_rfl) ?hQf_29 (Or.inl ⟨?hwf_29, ?hyf_29⟩) (by assumption) ?_
      case hif_29 => simp only [List.getElem?_toArray, List.getElem?_cons_succ, List.getElem?_cons_zero]; rfl
      case hQf_29 => exact fun _ _ _ h => h
      case hwf_29 => rfl
      case hyf_29 => intro w hSw; (try dsimp only at hSw); (first | (go_simp; done) | (go_simp; with_reducible rfl))
      try simp only [Act.put, List.setIfInBounds_toArray, List.set_cons_zero, List.set_cons_succ]
      refine wpAnyH_take (i := 30) (oi := ?oif_30) (v := ?vf_30) ?hif_30 (by kernel_rfl) (by kernel_rfl) (by kernel_rfl) ?hQf_30 (Or.inl ⟨?hwf_30, ?hyf_30⟩) (by assumption) ?_
      case hif_30 => simp only [List.getElem?_toArray, List.getElem?_cons_succ, List.getElem?_cons_zero]; rfl
      case hQf_30 => exact fun _ _ _ h => h
      case hwf_30 => rfl
      case hyf_30 => intro w hSw; (try dsimp only at hSw); (first | (go_simp; done) | (go_simp; with_reducible rfl))
      try simp only [Act.put, List.setIfInBounds_toArray, List.set_cons_zero, List.set_cons_succ]
      refine wpAnyH_take (i := 33) (oi := ?oif_33) (v := ?vf_33) ?hif_33 (by kernel_rfl) (by kernel_rfl) (by kernel_rfl) ?hQf_33 (Or.inl ⟨?hwf_33, ?hyf_33⟩) (by assumption) ?_
      case hif_33 => simp only [List.getElem?_toArray, List.getElem?_cons_succ, List.getElem?_cons_zero]; rfl
      case hQf_33 => exact fun _ _ _ h => h
      case hwf_33 => rfl
      case hyf_33 => intro w hSw; (try dsimp only at hSw); (first | (go_simp; done) | (go_simp; with_reducible rfl))
      try simp only [Act.put, List.setIfInBounds_toArray, List.set_cons_zero, List.set_cons_succ]
      refine wpAnyH_ready (rs := [31]) (by kernel_rfl) (by simp) ?_
      refine AllReadyH.cons (o := ?oif_31) ?hif_31 (fun K hK => ?_) AllReadyH.nil
      case hif_31 => simp only [List.getElem?_toArray, List.getElem?_cons_succ, List.getElem?_cons_zero]; rfl
      go_simp
      go_at_call 31
      (with_reducible refine (KI.out _).mono ?_)
      rintro e w13 ⟨rfl, bq⟩
      replace BB : Below w12.heap.size w12 w13 := BB.trans (bq.mono BB.size)
      replace L1 : w10.heap.size < w13.heap.size := Nat.lt_of_lt_of_le L1 bq.size
      clear bq
      refine hK.out _ _ ?_ (fun hHeld => ?_)
      · exact HF.out _ BB
      clear hK K
      try simp only [Act.put, List.setIfInBounds_toArray, List.set_cons_zero, List.set_cons_succ]
      refine wpAnyH_ready (rs := [32]) (by kernel_rfl) (by simp) ?_
      refine AllReadyH.cons (o := ?oif_32) ?hif_32 (fun K hK => ?_) AllReadyH.nil
      case hif_32 => simp only [List.getElem?_toArray, List.getElem?_cons_succ, List.getElem?_cons_zero]; rfl
      go_simp
      go_at_call 31
      (with_reducible refine (KJ.out _).mono ?_)
      rintro e w13 ⟨rfl, bq⟩
      replace BB : Below w12.heap.size w12 w13 := BB.trans (bq.mono BB.size)
      replace L1 : w10.heap.size < w13.heap.size := Nat.lt_of_lt_of_le L1 bq.size
      clear bq
      refine hK.out _ _ ?_ (fun hHeld => ?_)
      · exact HF.out _ BB
      clear hK K
      try simp only [Act.put, List.setIfInBounds_toArray, List.set_cons_zero, List.set_cons_succ]
      refine wpAnyH_ready (rs := [34]) (by kernel_rfl) (by simp) ?_
      refine AllReadyH.cons (o := ?oif_34) ?hif_34 (fun K hK => ?_) AllReadyH.nil
      case hif_34 => simp only [List.getElem?_toArray, List.getElem?_cons_succ, List.getElem?_cons_zero]; rfl
      go_simp
      go_at_call 31
      (with_reducible refine (KI.out _).mono ?_)
      rintro e w13 ⟨rfl, bq⟩
      replace BB : Below w12.heap.size w12 w13 := BB.trans (bq.mono BB.size)
      replace L1 : w10.heap.size < w13.heap.size := Nat.lt_of_lt_of_le L1 bq.size
      clear bq
      refine hK.out _ _ ?_ (fun hHeld => ?_)
      · exact HF.out _ BB
      clear hK K
      try simp only [Act.put, List.setIfInBounds_toArray, List.set_cons_zero, List.set_cons_succ]
      refine wpAnyH_take (i := 35) (oi := ?oif_35) (v := ?vf_35) ?hif_35 (by kernel_rfl) (by kernel_rfl) (by kernel_rfl) ?hQf_35 (Or.inl ⟨?hwf_35, ?hyf_35⟩) (by assumption) ?_
      case hif_35 => simp only [List.getElem?_toArray, List.getElem?_cons_succ, List.getElem?_cons_zero]; rfl
      case hQf_35 => exact fun _ _ _ h => h
      case hwf_35 => rfl
      case hyf_35 => intro w hSw; (try dsimp only at hSw); (first | (go_simp; done) | (go_simp; with_reducible rfl))
      try simp only [Act.put, List.setIfInBounds_toArray, List.set_cons_zero, List.set_cons_succ]
      refine wpAnyH_take (i := 36) (oi := ?oif_36) (v := ?vf_36) ?hif_36 (by kernel_rfl) (by kernel_rfl) (by kernel_rfl) ?hQf_36 (Or.inl ⟨?hwf_36, ?hyf_36⟩) (by assumption) ?_
      case hif_36 => simp only [List.getElem?_toArray, List.getElem?_cons_succ, List.getElem?_cons_zero]; rfl
      case hQf_36 => exact fun _ _ _ h => h
      case hwf_36 => rfl
      case hyf_36 => intro w hSw; (try dsimp only at hSw); (first | (go_simp; done) | (go_simp; with_reducible rfl))
      try simp only [Act.put, List.setIfInBounds_toArray, List.set_cons_zero, List.set_cons_succ]
      refine wpAnyH_take (i := 37) (oi := ?oif_37) (v := ?vf_37) ?hif_37 (by kernel_rfl) (by kernel_rfl) (by kernel_rfl) ?hQf_37 (Or.inl ⟨?hwf_37, ?hyf_37⟩) (by assumption) ?_
      case hif_37 => simp only [List.getElem?_toArray, List.getElem?_cons_succ, List.getElem?_cons_zero]; rfl
      case hQf_37 => exact fun _ _ _ h => h
      case hwf_37 => rfl
      case hyf_37 => intro w hSw; (try dsimp only at hSw); (first | (go_simp; done) | (go_simp; with_reducible rfl))
      try simp only [Act.put, List.setIfInBounds_toArray, List.set_cons_zero, List.set_cons_succ]
      refine wpAnyH_take (i := 38) (oi := ?oif_38) (v := ?vf_38) ?hif_38 (by kernel_rfl) (by kernel_rfl) (by kernel_rfl) ?hQf_38 (Or.inl ⟨?hwf_38, ?hyf_38⟩) (by assumption) ?_
      case hif_38 => simp only [List.getElem?_toArray, List.getElem?_cons_succ, List.getElem?_cons_zero]; rfl
      case hQf_38 => exact fun _ _ _ h => h
      case hwf_38 => rfl
      case hyf_38 => intro w hSw; (try dsimp only at hSw); (first | (go_simp; done) | (go_simp; with_reducible rfl))
      try simp only [Act.put, List.setIfInBounds_toArray, List.set_cons_zero, List.set_cons_succ]
      refine wpAnyH_take (i := 40) (oi := ?oif_40) (v := ?vf_40) ?hif_40 (by kernel_rfl) (by kernel_rfl) (by kernel_rfl) ?hQf_40 (Or.inl ⟨?hwf_40, ?hyf_40⟩) (by assumption) ?_
      case hif_40 => simp only [List.getElem?_toArray, List.getElem?_cons_succ, List.getElem?_cons_zero]; rfl
      case hQf_40 => exact fun _ _ _ h => h
      case hwf_40 => rfl
      case hyf_40 => intro w hSw; (try dsimp only at hSw); (first | (go_simp; done) | (go_simp; with_reducible rfl))
      try simp only [Act.put, List.setIfInBounds_toArray, List.set_cons_zero, List.set_cons_succ]
      refine wpAnyH_ready (rs := [39]) (by kernel_rfl) (by simp) ?_
      refine AllReadyH.cons (o := ?oif_39) ?hif_39 (fun K hK => ?_) AllReadyH.nil
      case hif_39 => simp only [List.getElem?_toArray, List.getElem?_cons_succ, List.getElem?_cons_zero]; rfl
      go_simp
      go_at_call 32
      (with_reducible refine (KH.out _).mono ?_)
      rintro e w13 ⟨rfl, bq⟩
      replace BB : Below w12.heap.size w12 w13 := BB.trans (bq.mono BB.size)
      replace L1 : w10.heap.size < w13.heap.size := Nat.lt_of_lt_of_le L1 bq.size
      clear bq
      refine hK.out _ _ ?_ (fun hHeld => ?_)
      · exact HF.out _ BB
      clear hK K
      try simp only [Act.put, List.setIfInBounds_toArray, List.set_cons_zero, List.set_cons_succ]
      refine wpAnyH_ready (rs := [41]) (by kernel_rfl) (by simp) ?_
      refine AllReadyH.cons (o := ?oif_41) ?hif_41 (fun K hK => ?_) AllReadyH.nil
      case hif_41 => simp only [List.getElem?_toArray, List.getElem?_cons_succ, List.getElem?_cons_zero]; rfl
      go_simp
      go_at_call 31
      (with_reducible refine (KI.out _).mono ?_)
      rintro e w13 ⟨rfl, bq⟩
      replace BB : Below w12.heap.size w12 w13 := BB.trans (bq.mono BB.size)
      replace L1 : w10.heap.size < w13.heap.size := Nat.lt_of_lt_of_le L1 bq.size
      clear bq
      refine hK.out _ _ ?_ (fun hHeld => ?_)
      · exact HF.out _ BB
      clear hK K
      try simp only [Act.put, List.setIfInBounds_toArray, List.set_cons_zero, List.set_cons_succ]
      refine wpAnyH_take (i := 42) (oi := ?oif_42) (v := ?vf_42) ?hif_42 (by kernel_rfl) (by kernel_rfl) (by kernel_rfl) ?hQf_42 (Or.inl ⟨?hwf_42, ?hyf_42⟩) (by assumption) ?_
      case hif_42 => simp only [List.getElem?_toArray, List.getElem?_cons_succ, List.getElem?_cons_zero]; rfl
      case hQf_42 => exact fun _ _ _ h => h
      case hwf_42 => rfl
      case hyf_42 => intro w hSw; (try dsimp only at hSw); (first | (go_simp; done) | (go_simp; with_reducible rfl))
      try simp only [Act.put, List.setIfInBounds_toArray, List.set_cons_zero, List.set_cons_succ]
      refine wpAnyH_take (i := 43) (oi := ?oif_43) (v := ?vf_43) ?hif_43 (by kernel_rfl) (by kernel_rfl) (by kernel_rfl) ?hQf_43 (Or.inl ⟨?hwf_43, ?hyf_43⟩) (by assumption) ?_
      case hif_43 => simp only [List.getElem?_toArray, List.getElem?_cons_succ, List.getElem?_cons_zero]; rfl
      case hQf_43 => exact fun _ _ _ h => h
      case hwf_43 => rfl
      case hyf_43 => intro w hSw; (try dsimp only at hSw); (first | (go_simp; done) | (go_simp; with_reducible rfl))
      try simp only [Act.put, List.setIfInBounds_toArray, List.set_cons_zero, List.set_cons_succ]
      refine wpAnyH_take (i := 44) (oi := ?oif_44) (v := ?vf_44) ?hif_44 (by kernel_rfl) (by kernel_rfl) (by kernel_rfl) ?hQf_44 (Or.inl ⟨?hwf_44, ?hyf_44⟩) (by assumption) ?_
      case hif_44 => simp only [List.getElem?_toArray, List.getElem?_cons_succ, List.getElem?_cons_zero]; rfl
      case hQf_44 => exact fun _ _ _ h => h
      case hwf_44 => rfl
      case hyf_44 => intro w hSw; (try dsimp only at hSw); (first | (go_simp; done) | (go_simp; with_reducible rfl))
      try simp only [Act.put, List.setIfInBounds_toArray, List.set_cons_zero, List.set_cons_succ]
      refine wpAnyH_take (i := 45) (oi := ?oif_45) (v := ?vf_45) ?hif_45 (by kernel_rfl) (by kernel_rfl) (by kernel_rfl) ?hQf_45 (Or.inl ⟨?hwf_45, ?hyf_45⟩) (by assumption) ?_
      case hif_45 => simp only [List.getElem?_toArray, List.getElem?_cons_succ, List.getElem?_cons_zero]; rfl
      case hQf_45 => exact fun _ _ _ h => h
      case hwf_45 => rfl
      case hyf_45 => intro w hSw; (try dsimp only at hSw); (first | (go_simp; done) | (go_simp; with_reducible rfl))
      try simp only [Act.put, List.setIfInBounds_toArray, List.set_cons_zero, List.set_cons_succ]
      refine wpAnyH_take (i := 46) (oi := ?oif_46) (v := ?vf_46) ?hif_46 (by kernel_rfl) (by kernel_rfl) (by kernel_rfl) ?hQf_46 (Or.inl ⟨?hwf_46, ?hyf_46⟩) (by assumption) ?_
      case hif_46 => simp only [List.getElem?_toArray, List.getElem?_cons_succ, List.getElem?_cons_zero]; rfl
      case hQf_46 => exact fun _ _ _ h => h
      case hwf_46 => rfl
      case hyf_46 => intro w hSw; (try dsimp only at hSw); (first | (go_simp; done) | (go_simp; with_reducible rfl))
      try simp only [Act.put, List.setIfInBounds_toArray, List.set_cons_zero, List.set_cons_succ]
      refine wpAnyH_take (i := 48) (oi := ?oif_48) (v := ?vf_48) ?hif_48 (by kernel_rfl) (by kernel_rfl) (by kernel_rfl) ?hQf_48 (Or.inl ⟨?hwf_48, ?hyf_48⟩) (by assumption) ?_
      case hif_48 => simp only [List.getElem?_toArray, List.getElem?_cons_succ, List.getElem?_cons_zero]; rfl
      case hQf_48 => exact fun _ _ _ h => h
      case hwf_48 => rfl
      case hyf_48 => intro w hSw; (try dsimp only at hSw); (first | (go_simp; done) | (go_simp; with_reducible rfl))
      try simp only [Act.put, List.setIfInBounds_toArray, List.set_cons_zero, List.set_cons_succ]
      refine wpAnyH_ready (rs := [47]) (by kernel_rfl) (by simp) ?_
      refine AllReadyH.cons (o := ?oif_47) ?hif_47 (fun K hK => ?_) AllReadyH.nil
      case hif_47 => simp only [List.getElem?_toArray, List.getElem?_cons_succ, List.getElem?_cons_zero]; rfl
      go_simp
      go_at_call 33
      (with_reducible refine (KZ.out _).mono ?_)
      rintro e w13 ⟨rfl, bq⟩
      replace BB : Below w12.heap.size w12 w13 := BB.trans (bq.mono BB.size)
      replace L1 : w10.heap.size < w13.heap.size := Nat.lt_of_lt_of_le L1 bq.size
      clear bq
      refine hK.out _ _ ?_ (fun hHeld => ?_)
      · exact HF.out _ BB
      clear hK K
      try simp only [Act.put, List.setIfInBounds_toArray, List.set_cons_zero, List.set_cons_succ]
      refine wpAnyH_ready (rs := [49]) (by kernel_rfl) (by simp) ?_
      refine AllReadyH.cons (o := ?oif_49) ?hif_49 (fun K hK => ?_) AllReadyH.nil
      case hif_49 => simp only [List.getElem?_toArray, List.getElem?_cons_succ, List.getElem?_cons_zero]; rfl
      go_simp
      go_at_call 34
      (with_reducible refine (KY.out _).mono ?_)
      rintro e w13 ⟨rfl, bq⟩
      replace BB : Below w12.heap.size w12 w13 := BB.trans (bq.mono BB.size)
      replace L1 : w10.heap.size < w13.heap.size := Nat.lt_of_lt_of_le L1 bq.size
      clear bq
      refine hK.out _ _ ?_ (fun hHeld => ?_)
      · exact HF.out _ BB
      clear hK K
      try simp only [Act.put, List.setIfInBounds_toArray, List.set_cons_zero, List.set_cons_succ]
      refine wpAnyH_take (i := 50) (oi := ?oif_50) (v := ?vf_50) ?hif_50 (by kernel_rfl) (by kernel_rfl) (by kernel_rfl) ?hQf_50 (Or.inl ⟨?hwf_50, ?hyf_50⟩) (by assumption) ?_
      case hif_50 => simp only [List.getElem?_toArray, List.getElem?_cons_succ, List.getElem?_cons_zero]; rfl
      case hQf_50 => exact fun _ _ _ h => h
      case hwf_50 => rfl
      case hyf_50 => intro w hSw; (try dsimp only at hSw); (first | (go_simp; done) | (go_simp; with_reducible rfl))
      try simp only [Act.put, List.setIfInBounds_toArray, List.set_cons_zero, List.set_cons_succ]
      refine wpAnyH_take (i := 51) (oi := ?oif_51) (v := ?vf_51) ?hif_51 (by kernel_rfl) (by kernel_rfl) (by kernel_rfl) ?hQf_51 (Or.inl ⟨?hwf_51, ?hyf_51⟩) (by assumption) ?_
      case hif_51 => simp only [List.getElem?_toArray, List.getElem?_cons_succ, List.getElem?_cons_zero]; rfl
      case hQf_51 => exact fun _ _ _ h => h
      case hwf_51 => rfl
      case hyf_51 => intro w hSw; (try dsimp only at hSw); (first | (go_simp; done) | (go_simp; with_reducible rfl))
      try simp only [Act.put, List.setIfInBounds_toArray, List.set_cons_zero, List.set_cons_succ]
      refine wpAnyH_take (i := 52) (oi := ?oif_52) (v := ?vf_52) ?hif_52 (by kernel_rfl) (by kernel_rfl) (by kernel_rfl) ?hQf_52 (Or.inl ⟨?hwf_52, ?hyf_52⟩) (by assumption) ?_
      case hif_52 => simp only [List.getElem?_toArray, List.getElem?_cons_succ, List.getElem?_cons_zero]; rfl
      case hQf_52 => exact fun _ _ _ h => h
      case hwf_52 => rfl
      case hyf_52 => intro w hSw; (try dsimp only at hSw); (first | (go_simp; done) | (go_simp; with_reducible rfl))
      try simp only [Act.put, List.setIfInBounds_toArray, List.set_cons_zero, List.set_cons_succ]
      refine wpAnyH_done (by kernel_rfl) ?_ _
      go_wp2
      go_ret
      exact ⟨rfl, HB.trans (BB.mono HB.size)⟩
set_option maxRecDepth 100000 in
theorem walk (v0 : Value) (W : World) {H : Type} {enc : TypeId × Value → H} {b0 : Nat} {d0 : DataW H} {p0 : List MemPlace} (hv0 : Value.okWide Tryz.prog W .any b0 42 v0) (ht0 : DataW.Trod enc Tryz.prog W 0 (fun _ => true) true 42 v0 d0 p0) (hL : laidMetH Tryz.prog Rows.fnOriginsRow.laid W) :
    Calls Tryz.prog 5 #[v0] W fun e w' => e = .returned (.bool true) ∧ Below W.heap.size W w' := by
  have ht : La.Pow W := La.pow_of rfl hL
  have he : La.Errs W := La.errs_of rfl rfl hL
  clear hL
  obtain ⟨A0, n0, c0, xs0, rfl, hr0, hm0, hx0⟩ := So.bytes hv0 ht0
  unfold maxLen at hm0
  by_cases hl : 1048576 < n0
  · clear hv0 ht0 hr0
    go_enter Tryz.func5, Tryz.ntmps5
    go_wp2_with fail
    (with_reducible refine (Cd.big_yes A0 n0 c0 _ (by omega) hl).mono ?_); rintro e w0 ⟨rfl, rfl⟩
    go_wp2
    go_ret
    exact ⟨rfl, Below.refl _ _⟩
  · exact walkSmall A0 n0 c0 hl W (D2.code_of hr0 hx0 (by omega)) ht he

set_option maxRecDepth 100000 in
theorem contract (H : Type) (enc : TypeId × Value → H) (W : World) (base : Nat) (args : Array Value) (ds gs : List (DataW H)) (before : List MemPlace)
    (hval : ∀ (j : Nat) t v, Tryz.f5.params[j]? = some t → args[j]? = some v → Value.okWide Tryz.prog W .any base t v)
    (hW : DataW.Whole enc Tryz.prog Tryz.f5.params.toList Rows.fnOriginsSpec.vars false W args.toList ds gs before) (hL : laidMetH Tryz.prog Rows.fnOriginsRow.laid W) :
    Calls Tryz.prog 5 args W fun e W' => ∃ v, e = .returned v ∧ Rows.fnOriginsSpec.post enc Tryz.prog Tryz.f5 false true false false W args v W' := by
  have hW' := hW
  obtain ⟨p, q, hA0, hV, rfl, hfz, hnd⟩ := hW
  have hA : DataW.TrodAll enc Tryz.prog W 0 (fun _ => true) true Tryz.f5.params.toList args.toList ds p := hA0
  rw [Tryz.params5] at hA hval
  obtain ⟨v0, vs0, d0, ds0, p0, q0, hargs, rfl, rfl, h0, r0⟩ := trodAll_cons hA
  obtain ⟨rfl, rfl, rfl⟩ := trodAll_nil r0
  obtain rfl : args = #[v0] := by cases args; simp_all
  obtain ⟨rfl, rfl⟩ := trodVars_none hV
  clear hA0
  refine Fr.closeLaw rfl (by kernel_rfl) (by rw [Tryz.params5]; decide) hW' rfl ?_
  exact walk v0 W (hval 0 42 v0 rfl rfl) h0 hL

theorem laid_met (os : Os) : laidMetH Tryz.prog Rows.fnOriginsRow.laid ((World.laidAll Tryz.prog os Rows.fnOriginsRow.laid).forCall (fun _ _ => 0) ⟨#[], #[.slice none 0 0], []⟩).memory := by
  rw [MakeChecks.laidMetH_plain _ _ _ (by kernel_rfl)]; exact laidMet_laidAll _ (by kernel_rfl) (by kernel_rfl)
set_option maxRecDepth 100000 in
theorem reads (os : Os) {H : Type} (enc : TypeId × Value → H) : ∃ places, DataW.whole enc Tryz.prog ((World.laidAll Tryz.prog os Rows.fnOriginsRow.laid).forCall (fun _ _ => 0) ⟨#[], #[.slice none 0 0], []⟩).memory Tryz.f5.params.toList Rows.fnOriginsSpec.vars false (#[.slice none 0 0] : Array Value).toList 8 = some ([.nil], [], places) :=
  ⟨[], by kernel_rfl⟩
set_option maxRecDepth 100000 in
theorem lifted (os : Os) (started : os.Started) (H : Type) (enc : TypeId × Value → H) (F : Stop.Interp) :
    ReturnsInHanded {} Tryz.checked os 5 .any ((OpenSpec.ofChange Rows.fnOriginsSpec).preRow enc Tryz.prog Tryz.f5 Rows.fnOriginsRow.domain false Rows.fnOriginsRow.laid) (((OpenSpec.ofChange Rows.fnOriginsSpec).at F).post enc Tryz.prog Tryz.f5 false true false false) := by
  obtain ⟨places, hx⟩ := reads os enc
  refine returnsInHanded_of_row (C := Tryz.checked) (s := OpenSpec.ofChange Rows.fnOriginsSpec) Fr.own started (by kernel_rfl) Tryz.func5
    (witness_row_atRef (enc := enc) (C := Tryz.checked) false (World.laidAll Tryz.prog os Rows.fnOriginsRow.laid) #[.slice none 0 0] (World.laidAll_os _ _ _) (by kernel_rfl) (by kernel_rfl) (by kernel_rfl)
      (OpenSpec.preRow_of_cond 8 hx (by kernel_rfl) (fun k hk => by cases hk) (by kernel_rfl) (laid_met os))) ?_
  intro W base args ds gs before hval hW _ hcond _ hL _ _
  exact contract H enc W base args ds gs before hval hW hL
set_option maxRecDepth 100000 in
theorem said : Rows.FnOriginsSaid :=
  OpenClaim.holds_of_cond 5 Tryz.f5 rfl rfl rfl rfl rfl rfl rfl ⟨rfl, rfl, rfl, rfl, rfl⟩ rfl rfl rfl rfl rfl (by kernel_rfl) Tryz.func5 (by kernel_rfl)
    (of_decide_eq_true (by kernel_rfl)) (by unfold Func.isWrapper; first | (rw [if_pos (by decide +kernel)]; kernel_rfl) | (rw [if_neg (by decide +kernel)]; exact ⟨rfl, rfl⟩))
    (fun os started H enc _ F => by rw [OpenClaim.pre_eq_preRow]; exact lifted os started H enc F)
theorem plain (f : FuncId) (fn : Func) (hf : Tryz.pinned.checked.prog.funcNamed "loop.example/g00581/laws.FnOrigins" = some f) (hfn : Tryz.pinned.checked.prog.funcs[f]? = some fn) :
    true = Tryz.pinned.checked.prog.looks [] ∧ ∀ (j : Nat) t, fn.params[j]? = some t → Tryz.pinned.checked.prog.wantsStandIn t = false := by
  obtain rfl : f = 5 := Option.some.inj ((show Tryz.prog.funcNamed "loop.example/g00581/laws.FnOrigins" = some 5 by kernel_rfl).symm.trans hf) |>.symm
  obtain rfl : fn = Tryz.f5 := (Option.some.inj (Tryz.func5.symm.trans hfn)).symm
  refine ⟨by kernel_rfl, fun j t ht => ?_⟩
  rw [Tryz.params5] at ht
  have hall : ([42] : List TypeId).all (fun t => !Tryz.prog.wantsStandIn t) = true := by kernel_rfl
  have hm : t ∈ ([42] : List TypeId) := by have := Array.mem_of_getElem? ht; simpa using this
  have := List.all_eq_true.1 hall t hm
  exact (by simpa using this : Tryz.prog.wantsStandIn t = false)
theorem proved : Rows.FnOriginsCardSaid :=
  Claim7.holds_tied_plain_at .later [] _ _ _ _ said (fun _ h => by cases h) (by kernel_rfl) (fun _ h => by cases h) fnOrigins_row_tie rfl ⟨rfl, rfl⟩ (by kernel_rfl) rfl plain (by kernel_rfl)
#print axioms proved
end Go.Proofs.YtialhhdhpjjkaaaGreatDoor.fnOrigins
