import Derived.Test.YtialhhdhpjjkaaaGreatDoorC9j
import Derived.Test.YtialhhdhpjjkaaaGreatDoorSx
import Derived.Test.YtialhhdhpjjkaaaGreatDoorC9c
import Derived.Deep.RegionHeld3
import Derived.Deep.RegionLaw
/-
  Contracts of chapter 9's texts of origins, of the program.
-/
namespace Go.Proofs.YtialhhdhpjjkaaaGreatDoor.C9k
open Go.ChangeShapes Go.WideShapes Go.ChangeAt Go.RowKit
open S0 S9 Dm Fx M12 M13 C9
open C9c
set_option linter.unusedVariables false
set_option linter.unusedSimpArgs false
set_option maxRecDepth 100000 in
theorem implSch (b : Bool) (w : World) : Calls Tryz.prog 62 #[.bool b] w fun e w' => e = .returned (.tuple #[.string (str (pre b)), .int .i64 (usual b)]) ∧ w' = w := by
  cases b with
  | true =>
    go_enter Tryz.func62, Tryz.ntmps62
    go_wp2
    go_ret2
    exact ⟨rfl, rfl⟩
  | false =>
    go_enter Tryz.func62, Tryz.ntmps62
    go_wp2
    go_ret2
    exact ⟨rfl, rfl⟩
theorem implSchT (w : World) : Calls Tryz.prog 62 #[.bool true] w fun e w' => e = .returned (.tuple #[.string ⟨#[104, 116, 116, 112, 115, 58, 47, 47]⟩, .int .i64 443]) ∧ w' = w := implSch true w
theorem implSchF (w : World) : Calls Tryz.prog 62 #[.bool false] w fun e w' => e = .returned (.tuple #[.string ⟨#[104, 116, 116, 112, 58, 47, 47]⟩, .int .i64 80]) ∧ w' = w := implSch false w
set_option maxHeartbeats 3200000 in
set_option maxRecDepth 100000 in
theorem implFmtO (w : World) (x : Fx.Origin) (vs : List Value) (h : RdsL w w.heap.size x.dcs vs) (hs : x.Host.size ≤ 4294967296) (ht : La.Pow w) : Calls Tryz.prog 22 #[.agg vs.toArray] w (Gives (.string (str (fmtO x))) w) := by
  obtain rfl := Origin.rds h
  obtain ⟨w1, hw1⟩ : ∃ y, y = w.alloc (.cells #[.bool x.Secure, .string x.Host, .int .i64 x.Port] 45) := ⟨_, rfl⟩
  have b0 : Below w.heap.size w w1 := hw1 ▸ (Below.refl _ _).alloc (Nat.le_refl _) _
  have op := Fx.var_owns w 45 3 [.bool x.Secure, .string x.Host, .int .i64 x.Port] rfl
  rw [← hw1] at op
  have HR1 := Lib.hid (rdsL_on h b0)
  clear h
  cases ho : orgB x with
  | false =>
    have HF := Lib.hid (show str (fmtO x) = ⟨#[]⟩ by rw [fmtO_f ho]; rfl)
    have HO := Lib.hid (show Calls Tryz.prog 66 #[.agg [.bool x.Secure, .string x.Host, .int .i64 x.Port].toArray] w1 (Gives (.bool false) w1) from ho ▸ C9j.implOrg w1 x _ HR1.out hs)
    clear ho
    go_enter Tryz.func22, Tryz.ntmps22
    go_wp2_with fail
    rw [← hw1]
    (refine HO.out.mono ?_); rintro e w2 ⟨rfl, b2⟩
    go_wp2
    go_ret
    exact ⟨by rw [HF.out]; rfl, b0.trans (b2.mono b0.size)⟩
  | true =>
    obtain ⟨hh, hp0, hp1⟩ := orgB_parts ho
    have hh60 := host_len hh
    rw [bts_len] at hh60
    have HO := Lib.hid (show Calls Tryz.prog 66 #[.agg [.bool x.Secure, .string x.Host, .int .i64 x.Port].toArray] w1 (Gives (.bool true) w1) from ho ▸ C9j.implOrg w1 x _ HR1.out hs)
    have HT := Lib.hid (fmtO_t ho)
    have his := C9b.itoa_size x.Port hp0 hp1
    clear ho hh
    go_enter Tryz.func22, Tryz.ntmps22
    go_wp2_with fail
    rw [← hw1]
    (refine HO.out.mono ?_); rintro e w2 ⟨rfl, b2⟩
    have op2 := owns_below op b2
    have c0 : w2.cell? ⟨w.heap.size, 0, none⟩ = some (.bool x.Secure) := Fx.var_load op2 (by simp) 0 _ rfl
    have c1 : w2.cell? ⟨w.heap.size, 1, none⟩ = some (.string x.Host) := Fx.var_load op2 (by simp) 1 _ rfl
    have c2 : w2.cell? ⟨w.heap.size, 2, none⟩ = some (.int .i64 x.Port) := Fx.var_load op2 (by simp) 2 _ rfl
    have HB := Lib.hid (b0.trans (b2.mono b0.size))
    have HT2 := Lib.hid (show La.Pow w2.drew from (ht.stays HB.out).stays (drewN_below w2 1 _))
    have lp := Fx.var_lt op2
    clear op op2 b2 HO HR1 hw1 b0
    cases hsec : x.Secure with
    | true =>
      rw [hsec] at c0
      have HS := Lib.hid (implSchT w2)
      by_cases hu : x.Port = 443
      · have hub : (x.Port == 443) = true := by simpa using hu
        have HV := Lib.hid (show str (fmtO x) = ⟨#[104, 116, 116, 112, 115, 58, 47, 47]⟩ ++ x.Host by
          apply bts_inj
          rw [bts_str, HT.out, hsec, hu, bts_app]
          simp [usual, pre]
          rfl)
        go_wp2_with fail
        (refine HS.out.mono ?_); rintro e w9 ⟨rfl, rfl⟩
        go_wp2
        go_ret
        exact ⟨by rw [HV.out]; rfl, HB.out⟩
      · have hub : (x.Port == 443) = false := by simpa using hu
        have HV := Lib.hid (show str (fmtO x) = ⟨#[104, 116, 116, 112, 115, 58, 47, 47]⟩ ++ x.Host ++ ⟨#[58]⟩ ++ ⟨(Lib.itoa x.Port).toArray⟩ by
          apply bts_inj
          rw [bts_str, HT.out, hsec, bts_app, bts_app, bts_app, if_neg (by simpa [usual] using hu)]
          simp [pre, bts])
        have n1 : ¬ 9223372036854775807 < 8 + x.Host.size := by omega
        have n2 : ¬ 9223372036854775807 < 8 + x.Host.size + 1 := by omega
        have n3 : ¬ 9223372036854775807 < 8 + x.Host.size + 1 + (Lib.itoa x.Port).length := by omega
        go_wp2_with fail
        (refine HS.out.mono ?_); rintro e w9 ⟨rfl, rfl⟩
        go_wp2_with fail
        go_region_held3 (fun wx => wx.cell? ⟨w.heap.size, 1, none⟩ = some (.string x.Host) ∧ wx.cell? ⟨w.heap.size, 2, none⟩ = some (.int .i64 x.Port)) (first | exact ⟨c1, c2⟩ | exact ⟨k1, k2⟩) (first | (go_at_call 67; (with_reducible refine (C1F.implFmt x.Port _ (by omega) (by omega) HT2.out).mono ?_); rintro e w3 ⟨rfl, b3⟩; replace b3 : Below w9.heap.size w9 w3 := (drewN_below w9 1 _).trans b3; have k1 := (b3.cell (p := ⟨w.heap.size, 1, none⟩) lp).trans c1; have k2 := (b3.cell (p := ⟨w.heap.size, 2, none⟩) lp).trans c2))
        have HB3 := HB.out.trans (b3.mono HB.out.size)
        go_wp2
        go_ret
        exact ⟨by rw [HV.out]; rfl, HB3⟩
    | false =>
      rw [hsec] at c0
      have HS := Lib.hid (implSchF w2)
      by_cases hu : x.Port = 80
      · have hub : (x.Port == 80) = true := by simpa using hu
        have HV := Lib.hid (show str (fmtO x) = ⟨#[104, 116, 116, 112, 58, 47, 47]⟩ ++ x.Host by
          apply bts_inj
          rw [bts_str, HT.out, hsec, hu, bts_app]
          simp [usual, pre]
          rfl)
        go_wp2_with fail
        (refine HS.out.mono ?_); rintro e w9 ⟨rfl, rfl⟩
        go_wp2
        go_ret
        exact ⟨by rw [HV.out]; rfl, HB.out⟩
      · have hub : (x.Port == 80) = false := by simpa using hu
        have HV := Lib.hid (show str (fmtO x) = ⟨#[104, 116, 116, 112, 58, 47, 47]⟩ ++ x.Host ++ ⟨#[58]⟩ ++ ⟨(Lib.itoa x.Port).toArray⟩ by
          apply bts_inj
          rw [bts_str, HT.out, hsec, bts_app, bts_app, bts_app, if_neg (by simpa [usual] using hu)]
          simp [pre, bts])
        have n1 : ¬ 9223372036854775807 < 7 + x.Host.size := by omega
        have n2 : ¬ 9223372036854775807 < 7 + x.Host.size + 1 := by omega
        have n3 : ¬ 9223372036854775807 < 7 + x.Host.size + 1 + (Lib.itoa x.Port).length := by omega
        go_wp2_with fail
        (refine HS.out.mono ?_); rintro e w9 ⟨rfl, rfl⟩
        go_wp2_with fail
        go_region_held3 (fun wx => wx.cell? ⟨w.heap.size, 1, none⟩ = some (.string x.Host) ∧ wx.cell? ⟨w.heap.size, 2, none⟩ = some (.int .i64 x.Port)) (first | exact ⟨c1, c2⟩ | exact ⟨k1, k2⟩) (first | (go_at_call 67; (with_reducible refine (C1F.implFmt x.Port _ (by omega) (by omega) HT2.out).mono ?_); rintro e w3 ⟨rfl, b3⟩; replace b3 : Below w9.heap.size w9 w3 := (drewN_below w9 1 _).trans b3; have k1 := (b3.cell (p := ⟨w.heap.size, 1, none⟩) lp).trans c1; have k2 := (b3.cell (p := ⟨w.heap.size, 2, none⟩) lp).trans c2))
        have HB3 := HB.out.trans (b3.mono HB.out.size)
        go_wp2
        go_ret
        exact ⟨by rw [HV.out]; rfl, HB3⟩
/-- What a text can be of, told by its parts as the program takes them. -/
theorem take_pre {s p : List UInt8} (h : Lib.hasPrefix s p = true) : s = p ++ Lib.trimPrefix s p := by
  unfold Lib.trimPrefix
  rw [if_pos h]
  obtain ⟨t, ht⟩ := List.isPrefixOf_iff_prefix.1 h
  rw [← ht]; simp
theorem no_pre {s p : List UInt8} (h : Lib.hasPrefix s p = false) (x : List UInt8) : s ≠ p ++ x := by
  intro e
  have : Lib.hasPrefix s p = true := by rw [e]; exact List.isPrefixOf_iff_prefix.2 (List.prefix_append _ _)
  rw [this] at h; cases h
theorem po_or {s : List UInt8} {b : Bool} (hb : b = Lib.hasPrefix s (pre true)) : s = pre b ++ Lib.trimPrefix s (pre b) ∨ ∀ o : Fx.Origin, orgB o = true → fmtO o ≠ s := by
  cases hp : Lib.hasPrefix s (pre b) with
  | true => exact Or.inl (take_pre hp)
  | false =>
    refine Or.inr (po_none (fun c x hx => ?_))
    cases b with
    | true => rw [hp] at hb; cases hb
    | false =>
      cases c with
      | true => exact no_pre hb.symm x
      | false => exact no_pre hp x
theorem po1 {s R : List UInt8} {b : Bool} (hb : b = Lib.hasPrefix s (pre true)) (hR : R = Lib.trimPrefix s (pre b)) (hn : ∀ c ∈ R, c ≠ 58) : ∀ o : Fx.Origin, orgB o = true → fmtO o = s → o = ⟨b, str R, usual b⟩ := by
  rcases po_or hb with h | h
  · exact po_plain (by rw [hR]; exact h) hn
  · exact fun o ho e => absurd e (h o ho)
theorem po2 {s R a d : List UInt8} {b : Bool} {n : Nat} (hb : b = Lib.hasPrefix s (pre true)) (hR : R = Lib.trimPrefix s (pre b)) (hc : R = a ++ 58 :: d) (ha : ∀ c ∈ a, c ≠ 58) (hd : d = Lib.decDigits n) : ∀ o : Fx.Origin, orgB o = true → fmtO o = s → o = ⟨b, str a, n⟩ := by
  rcases po_or hb with h | h
  · exact po_port (by rw [← hd, ← hc, hR]; exact h) ha
  · exact fun o ho e => absurd e (h o ho)
theorem po3 {s R a d : List UInt8} {b : Bool} (hb : b = Lib.hasPrefix s (pre true)) (hR : R = Lib.trimPrefix s (pre b)) (hc : R = a ++ 58 :: d) (ha : ∀ c ∈ a, c ≠ 58) (hd : C1P.No (str d)) (x : Fx.Origin) : ∀ o : Fx.Origin, orgB o = true → fmtO o = s → o = x := by
  rcases po_or hb with h | h
  · exact fun o ho e => absurd e (po_noport (by rw [← hc, hR]; exact h) ha hd o ho)
  · exact fun o ho e => absurd e (h o ho)
theorem colon_or (l : List UInt8) : (∀ c ∈ l, c ≠ 58) ∨ ∃ a d, l = a ++ 58 :: d ∧ ∀ c ∈ a, c ≠ 58 := by
  rcases Sx.idx_at l 58 with ⟨_, h⟩ | ⟨a, d, h1, h2, _⟩
  · exact Or.inl h
  · exact Or.inr ⟨a, d, h1, h2⟩
/-- The parts of a text: how they are found, and that they are the only ones. -/
theorem parts (s R : List UInt8) (b : Bool) (hb : b = Lib.hasPrefix s (pre true)) (hR : R = Lib.trimPrefix s (pre b)) :
    (∃ p : Int, p = usual b ∧ (∀ c ∈ R, c ≠ 58) ∧ ∀ o : Fx.Origin, orgB o = true → fmtO o = s → o = ⟨b, str R, p⟩)
    ∨ ∃ (a d : List UInt8) (p : Int) (q : Bool), R = a ++ 58 :: d ∧ (∀ c ∈ a, c ≠ 58) ∧ 0 ≤ p ∧ p ≤ 1000000000000 ∧ ((∃ n : Nat, p = n ∧ q = true ∧ C1P.Yes (str d) n) ∨ (p = 0 ∧ q = false ∧ C1P.No (str d))) ∧ ∀ o : Fx.Origin, orgB o = true → fmtO o = s → o = ⟨b, str a, p⟩ := by
  rcases colon_or R with h | ⟨a, d, hc, ha⟩
  · exact Or.inl ⟨_, rfl, h, po1 hb hR h⟩
  · refine Or.inr ⟨a, d, ?_⟩
    rcases C1P.yes_or_no (str d) with ⟨n, hn⟩ | hn
    · exact ⟨n, true, hc, ha, by omega, by have := hn.1; omega, Or.inl ⟨n, rfl, rfl, hn⟩, po2 hb hR hc ha (by have := congrArg bts hn.2; rw [bts_str] at this; exact this)⟩
    · exact ⟨0, false, hc, ha, by omega, by omega, Or.inr ⟨rfl, rfl, hn⟩, po3 hb hR hc ha hn _⟩
theorem trim_le (s p : ByteArray) : (⟨(Lib.trimPrefix s.data.toList p.data.toList).toArray⟩ : ByteArray).size ≤ s.size := by
  have h := Lib.trimPrefix_le s.data.toList p.data.toList
  rw [Lib.size_eq, Lib.size_eq s]
  simpa using h

set_option maxHeartbeats 16000000 in
set_option maxRecDepth 100000 in
theorem implPo (w : World) (s : ByteArray) (hs : s.size ≤ 4294967296) (ht : La.Pow w) (he : La.Errs w) : Calls Tryz.prog 21 #[.string s] w (MadeLx (poO (bts s)).dcs (fun vs => .tuple #[.agg vs.toArray, .bool (poB (bts s))]) w) := by
  obtain ⟨B, hB⟩ : ∃ B, B = poB (bts s) := ⟨_, rfl⟩
  obtain ⟨X, hX⟩ : ∃ X, X = poO (bts s) := ⟨_, rfl⟩
  rw [← hB, ← hX]
  have HQ := Lib.hid (And.intro hB hX)
  clear hB hX
  obtain ⟨w0, hw0⟩ : ∃ y, y = w.alloc (.cells #[.bool false, .string ⟨#[]⟩, .int .i64 0] 45) := ⟨_, rfl⟩
  have o_r := var_owns w 45 3 [.bool false, .string ⟨#[]⟩, .int .i64 0] rfl
  have HB0 : Below w.heap.size w w0 := hw0 ▸ (Below.refl _ _).alloc (Nat.le_refl _) _
  rw [← hw0] at o_r
  obtain ⟨b, hb⟩ : ∃ b, b = Lib.hasPrefix (bts s) (pre true) := ⟨_, rfl⟩
  obtain ⟨Z, hZ⟩ : ∃ Z, Z = str (pre b) := ⟨_, rfl⟩
  obtain ⟨U, hU⟩ : ∃ U, U = usual b := ⟨_, rfl⟩
  obtain ⟨R, hR⟩ : ∃ R : ByteArray, R = ⟨(Lib.trimPrefix s.data.toList Z.data.toList).toArray⟩ := ⟨_, rfl⟩
  have hRs : R.size ≤ 4294967296 := by have := trim_le s Z; rw [← hR] at this; omega
  have hRb : bts R = Lib.trimPrefix (bts s) (pre b) := by rw [hR, hZ]; show bts (str _) = _; rw [bts_str]; show Lib.trimPrefix (bts s) (bts (str (pre b))) = _; rw [bts_str]
  have HP := Lib.hid (fun wx : World => show Calls Tryz.prog 61 #[.string s, .string ⟨#[104, 116, 116, 112, 115, 58, 47, 47]⟩] wx fun e w' => e = .returned (.bool b) ∧ w' = wx from by have h := Sx.preOf s ⟨#[104, 116, 116, 112, 115, 58, 47, 47]⟩ wx; rw [show Lib.hasPrefix s.data.toList (ByteArray.mk #[104, 116, 116, 112, 115, 58, 47, 47]).data.toList = b from hb.symm] at h; exact h)
  have HS := Lib.hid (fun wx : World => show Calls Tryz.prog 62 #[.bool b] wx fun e w' => e = .returned (.tuple #[.string Z, .int .i64 U]) ∧ w' = wx from by rw [hZ, hU]; exact implSch b wx)
  have HT := Lib.hid (fun wx : World => show Calls Tryz.prog 64 #[.string s, .string Z] wx fun e w' => e = .returned (.string R) ∧ w' = wx from by rw [hR]; exact Sx.trimOf s Z wx)
  have hU0 : 0 ≤ U ∧ U ≤ 1000 := by rw [hU]; cases b <;> simp [usual]
  have HPARTS := parts (bts s) (bts R) b hb hRb
  rw [← hU] at HPARTS
  obtain ⟨hU1, hU2⟩ := hU0
  clear hb hZ hU hR hRb
  rcases HPARTS with ⟨p, rfl, hn, hu⟩ | ⟨a, d, p, q, hc, ha, p0, p1, hpq, hu⟩

  · have HC := Lib.hid (fun wx : World => Sx.cutNo R 58 wx hn)
    rw [str_bts] at hu
    have HU := Lib.hid hu
    have hH : (Fx.Origin.mk b R p).Host.size ≤ 4294967296 := hRs
    clear hn hu
    go_enter Tryz.func21, Tryz.ntmps21
    go_wp2_with fail
    rw [← hw0]
    clear hw0
    (refine (HP.out _).mono ?_); rintro e wx ⟨rfl, rfl⟩
    go_wp2_with fail
    (refine (HS.out _).mono ?_); rintro e wx ⟨rfl, rfl⟩
    go_wp2_with fail
    (refine (HT.out _).mono ?_); rintro e wx ⟨rfl, rfl⟩
    go_wp2_with fail
    (refine (HC.out _).mono ?_); rintro e w1 ⟨rfl, nd, ex⟩
    have b1 : Below wx.heap.size wx w1 := ex ▸ drewN_below _ _ _
    clear ex nd
    replace o_r := owns_below o_r b1
    have HB := HB0.trans (b1.mono HB0.size)
    clear b1 HB0 HP HS HT HC
    have HG := var_lt o_r
    go_wp2_with fail
    obtain ⟨w2, hw2⟩ : ∃ y, y = w1.alloc (.cells #[.bool b, .string R, .int .i64 p] 45) := ⟨_, rfl⟩
    obtain ⟨g, hg⟩ : ∃ g, g = w1.heap.size := ⟨_, rfl⟩
    rw [← hw2, ← hg]
    have o_o := var_owns w1 45 3 [.bool b, .string R, .int .i64 p] rfl
    have b2 : Below w1.heap.size w1 w2 := hw2 ▸ (Below.refl _ _).alloc (Nat.le_refl _) _
    rw [← hw2, ← hg] at o_o
    replace o_r := owns_below o_r b2
    replace HB := HB.trans (b2.mono HB.size)
    have hgw : w.heap.size < g := by rw [hg]; exact HG
    clear b2 hw2 hg HG
    rcases po_c HU.out with ⟨k1, k2, k3, k4⟩ | ⟨k1, k3, k4⟩
    · obtain ⟨rfl, rfl⟩ : B = true ∧ X = ⟨b, R, p⟩ := ⟨HQ.out.1.trans k3, HQ.out.2.trans k4⟩
      have HO := Lib.hid (fun wx : World => show Calls Tryz.prog 66 #[.agg #[.bool b, .string R, .int .i64 p]] wx (Gives (.bool true) wx) from k1 ▸ C9j.implOrg wx ⟨b, R, p⟩ _ Origin.mkR hH)
      have HF := Lib.hid (fun (wx : World) (hp : La.Pow wx) => show Calls Tryz.prog 22 #[.agg #[.bool b, .string R, .int .i64 p]] wx (Gives (.string s) wx) from by have h := implFmtO wx ⟨b, R, p⟩ _ Origin.mkR hH hp; rw [k2, str_bts] at h; exact h)
      have hne : (s.toList == s.toList) = true := by simp
      clear k1 k2 k3 k4 HQ HU
      (refine (HO.out _).mono ?_); rintro e w3 ⟨rfl, b3⟩
      replace o_o := owns_below o_o b3
      replace o_r := owns_below o_r b3
      replace HB := HB.trans (b3.mono HB.size)
      clear b3 HO
      have o_oc0 : w3.cell? ⟨g, 0, none⟩ = some (.bool b) := var_load o_o (by simp) 0 _ rfl
      have o_oc1 : w3.cell? ⟨g, 1, none⟩ = some (.string R) := var_load o_o (by simp) 1 _ rfl
      have o_oc2 : w3.cell? ⟨g, 2, none⟩ = some (.int .i64 p) := var_load o_o (by simp) 2 _ rfl
      have o_ol := var_lt o_o
      go_wp2_with fail
      (refine (HF.out _ (ht.stays HB)).mono ?_); rintro e w4 ⟨rfl, b4⟩
      clear o_oc0 o_oc1 o_oc2 o_ol
      replace o_o := owns_below o_o b4
      replace o_r := owns_below o_r b4
      replace HB := HB.trans (b4.mono HB.size)
      clear b4 HF
      have o_oc0 : w4.cell? ⟨g, 0, none⟩ = some (.bool b) := var_load o_o (by simp) 0 _ rfl
      have o_oc1 : w4.cell? ⟨g, 1, none⟩ = some (.string R) := var_load o_o (by simp) 1 _ rfl
      have o_oc2 : w4.cell? ⟨g, 2, none⟩ = some (.int .i64 p) := var_load o_o (by simp) 2 _ rfl
      have o_ol := var_lt o_o
      have o_rc0 : w4.cell? ⟨w.heap.size, 0, none⟩ = some (.bool false) := var_load o_r (by simp) 0 _ rfl
      have o_rf0 : w4.frozen? ⟨w.heap.size, 0, none⟩ = false := var_frozen o_r (by simp) 0 _ rfl
      have o_rc1 : w4.cell? ⟨w.heap.size, 1, none⟩ = some (.string ⟨#[]⟩) := var_load o_r (by simp) 1 _ rfl
      have o_rf1 : w4.frozen? ⟨w.heap.size, 1, none⟩ = false := var_frozen o_r (by simp) 1 _ rfl
      have o_rc2 : w4.cell? ⟨w.heap.size, 2, none⟩ = some (.int .i64 0) := var_load o_r (by simp) 2 _ rfl
      have o_rf2 : w4.frozen? ⟨w.heap.size, 2, none⟩ = false := var_frozen o_r (by simp) 2 _ rfl
      have o_rl := var_lt o_r
      go_wp2
      obtain ⟨wf, hf⟩ : ∃ y, y = (((w4.setCell ⟨w.heap.size, 0, none⟩ (.bool b)).setCell ⟨w.heap.size, 1, none⟩ (.string R)).setCell ⟨w.heap.size, 2, none⟩ (.int .i64 p)) := ⟨_, rfl⟩
      obtain ⟨o_r2, t2⟩ := var_some [.bool b, .string R, .int .i64 p] 0 _ _ o_r (by simp)
      rw [show setAll w4 w.heap.size 0 [.bool b, .string R, .int .i64 p] = wf from hf.symm] at o_r2 t2
      have HE := below_turned HB t2 (fun b hb => by simp at hb; omega)
      clear o_rc0 o_rf0 o_rc1 o_rf1 o_rc2 o_rf2 o_rl
      have o_r2c0 : wf.cell? ⟨w.heap.size, 0, none⟩ = some (.bool b) := var_load o_r2 (by simp) 0 _ rfl
      have o_r2c1 : wf.cell? ⟨w.heap.size, 1, none⟩ = some (.string R) := var_load o_r2 (by simp) 1 _ rfl
      have o_r2c2 : wf.cell? ⟨w.heap.size, 2, none⟩ = some (.int .i64 p) := var_load o_r2 (by simp) 2 _ rfl
      have o_r2l := var_lt o_r2
      rw [← hf]
      exact bodyPost_ret (v := .tuple #[.agg #[.bool b, .string R, .int .i64 p], .bool true]) (by simp [results, Tryz.results21, go_sem, o_r2c0, o_r2c1, o_r2c2]) rfl (made_po ⟨b, R, p⟩ true HE)
    · obtain ⟨rfl, rfl⟩ : B = false ∧ X = ⟨false, ⟨#[]⟩, 0⟩ := ⟨HQ.out.1.trans k3, HQ.out.2.trans k4⟩
      cases ho : orgB ⟨b, R, p⟩ with
      | false =>
        have HO := Lib.hid (fun wx : World => show Calls Tryz.prog 66 #[.agg #[.bool b, .string R, .int .i64 p]] wx (Gives (.bool false) wx) from ho ▸ C9j.implOrg wx ⟨b, R, p⟩ _ Origin.mkR hH)
        clear k1 k3 k4 HQ HU ho
        (refine (HO.out _).mono ?_); rintro e w3 ⟨rfl, b3⟩
        replace o_o := owns_below o_o b3
        replace o_r := owns_below o_r b3
        replace HB := HB.trans (b3.mono HB.size)
        clear b3 HO
        have o_rc0 : w3.cell? ⟨w.heap.size, 0, none⟩ = some (.bool false) := var_load o_r (by simp) 0 _ rfl
        have o_rf0 : w3.frozen? ⟨w.heap.size, 0, none⟩ = false := var_frozen o_r (by simp) 0 _ rfl
        have o_rc1 : w3.cell? ⟨w.heap.size, 1, none⟩ = some (.string ⟨#[]⟩) := var_load o_r (by simp) 1 _ rfl
        have o_rf1 : w3.frozen? ⟨w.heap.size, 1, none⟩ = false := var_frozen o_r (by simp) 1 _ rfl
        have o_rc2 : w3.cell? ⟨w.heap.size, 2, none⟩ = some (.int .i64 0) := var_load o_r (by simp) 2 _ rfl
        have o_rf2 : w3.frozen? ⟨w.heap.size, 2, none⟩ = false := var_frozen o_r (by simp) 2 _ rfl
        have o_rl := var_lt o_r
        go_wp2
        obtain ⟨wf, hf⟩ : ∃ y, y = (((w3.setCell ⟨w.heap.size, 0, none⟩ (.bool false)).setCell ⟨w.heap.size, 1, none⟩ (.string ⟨#[]⟩)).setCell ⟨w.heap.size, 2, none⟩ (.int .i64 0)) := ⟨_, rfl⟩
        obtain ⟨o_r2, t2⟩ := var_some [.bool false, .string ⟨#[]⟩, .int .i64 0] 0 _ _ o_r (by simp)
        rw [show setAll w3 w.heap.size 0 [.bool false, .string ⟨#[]⟩, .int .i64 0] = wf from hf.symm] at o_r2 t2
        have HE := below_turned HB t2 (fun b hb => by simp at hb; omega)
        clear o_rc0 o_rf0 o_rc1 o_rf1 o_rc2 o_rf2 o_rl
        have o_r2c0 : wf.cell? ⟨w.heap.size, 0, none⟩ = some (.bool false) := var_load o_r2 (by simp) 0 _ rfl
        have o_r2c1 : wf.cell? ⟨w.heap.size, 1, none⟩ = some (.string ⟨#[]⟩) := var_load o_r2 (by simp) 1 _ rfl
        have o_r2c2 : wf.cell? ⟨w.heap.size, 2, none⟩ = some (.int .i64 0) := var_load o_r2 (by simp) 2 _ rfl
        have o_r2l := var_lt o_r2
        rw [← hf]
        exact bodyPost_ret (v := .tuple #[.agg #[.bool false, .string ⟨#[]⟩, .int .i64 0], .bool false]) (by simp [results, Tryz.results21, go_sem, o_r2c0, o_r2c1, o_r2c2]) rfl (made_po ⟨false, ⟨#[]⟩, 0⟩ false HE)
      | true =>
        obtain ⟨F, hF⟩ : ∃ F, F = str (fmtO ⟨b, R, p⟩) := ⟨_, rfl⟩
        have HO := Lib.hid (fun wx : World => show Calls Tryz.prog 66 #[.agg #[.bool b, .string R, .int .i64 p]] wx (Gives (.bool true) wx) from ho ▸ C9j.implOrg wx ⟨b, R, p⟩ _ Origin.mkR hH)
        have HF := Lib.hid (fun (wx : World) (hp : La.Pow wx) => show Calls Tryz.prog 22 #[.agg #[.bool b, .string R, .int .i64 p]] wx (Gives (.string F) wx) from by rw [hF]; exact implFmtO wx ⟨b, R, p⟩ _ Origin.mkR hH hp)
        have hne : (F.toList == s.toList) = false := by
          have hk : fmtO ⟨b, R, p⟩ ≠ bts s := by
            rcases k1 with k1 | k1
            · rw [ho] at k1; cases k1
            · exact k1
          rw [hF, str_toList, toList_bts, beq_eq_false_iff_ne]
          exact hk
        clear hF k1
        clear k3 k4 HQ HU ho
        (refine (HO.out _).mono ?_); rintro e w3 ⟨rfl, b3⟩
        replace o_o := owns_below o_o b3
        replace o_r := owns_below o_r b3
        replace HB := HB.trans (b3.mono HB.size)
        clear b3 HO
        have o_oc0 : w3.cell? ⟨g, 0, none⟩ = some (.bool b) := var_load o_o (by simp) 0 _ rfl
        have o_oc1 : w3.cell? ⟨g, 1, none⟩ = some (.string R) := var_load o_o (by simp) 1 _ rfl
        have o_oc2 : w3.cell? ⟨g, 2, none⟩ = some (.int .i64 p) := var_load o_o (by simp) 2 _ rfl
        have o_ol := var_lt o_o
        go_wp2_with fail
        (refine (HF.out _ (ht.stays HB)).mono ?_); rintro e w4 ⟨rfl, b4⟩
        clear o_oc0 o_oc1 o_oc2 o_ol
        replace o_o := owns_below o_o b4
        replace o_r := owns_below o_r b4
        replace HB := HB.trans (b4.mono HB.size)
        clear b4 HF
        have o_rc0 : w4.cell? ⟨w.heap.size, 0, none⟩ = some (.bool false) := var_load o_r (by simp) 0 _ rfl
        have o_rf0 : w4.frozen? ⟨w.heap.size, 0, none⟩ = false := var_frozen o_r (by simp) 0 _ rfl
        have o_rc1 : w4.cell? ⟨w.heap.size, 1, none⟩ = some (.string ⟨#[]⟩) := var_load o_r (by simp) 1 _ rfl
        have o_rf1 : w4.frozen? ⟨w.heap.size, 1, none⟩ = false := var_frozen o_r (by simp) 1 _ rfl
        have o_rc2 : w4.cell? ⟨w.heap.size, 2, none⟩ = some (.int .i64 0) := var_load o_r (by simp) 2 _ rfl
        have o_rf2 : w4.frozen? ⟨w.heap.size, 2, none⟩ = false := var_frozen o_r (by simp) 2 _ rfl
        have o_rl := var_lt o_r
        go_wp2
        obtain ⟨wf, hf⟩ : ∃ y, y = (((w4.setCell ⟨w.heap.size, 0, none⟩ (.bool false)).setCell ⟨w.heap.size, 1, none⟩ (.string ⟨#[]⟩)).setCell ⟨w.heap.size, 2, none⟩ (.int .i64 0)) := ⟨_, rfl⟩
        obtain ⟨o_r2, t2⟩ := var_some [.bool false, .string ⟨#[]⟩, .int .i64 0] 0 _ _ o_r (by simp)
        rw [show setAll w4 w.heap.size 0 [.bool false, .string ⟨#[]⟩, .int .i64 0] = wf from hf.symm] at o_r2 t2
        have HE := below_turned HB t2 (fun b hb => by simp at hb; omega)
        clear o_rc0 o_rf0 o_rc1 o_rf1 o_rc2 o_rf2 o_rl
        have o_r2c0 : wf.cell? ⟨w.heap.size, 0, none⟩ = some (.bool false) := var_load o_r2 (by simp) 0 _ rfl
        have o_r2c1 : wf.cell? ⟨w.heap.size, 1, none⟩ = some (.string ⟨#[]⟩) := var_load o_r2 (by simp) 1 _ rfl
        have o_r2c2 : wf.cell? ⟨w.heap.size, 2, none⟩ = some (.int .i64 0) := var_load o_r2 (by simp) 2 _ rfl
        have o_r2l := var_lt o_r2
        rw [← hf]
        exact bodyPost_ret (v := .tuple #[.agg #[.bool false, .string ⟨#[]⟩, .int .i64 0], .bool false]) (by simp [results, Tryz.results21, go_sem, o_r2c0, o_r2c1, o_r2c2]) rfl (made_po ⟨false, ⟨#[]⟩, 0⟩ false HE)
  · have hla : R.size = a.length + 1 + d.length := by rw [← bts_len, hc]; simp; omega
    have HC := Lib.hid (show ∀ wx : World, Calls Tryz.prog 63 #[.string R, .string ⟨#[58]⟩] wx fun e w' => e = .returned (.tuple #[.string (str a), .string (str d), .bool true]) ∧ ∃ n, w' = wx.drewN n from fun wx => Sx.cutAt R 58 wx a d hc ha hRs)
    obtain ⟨h, hh⟩ : ∃ h, h = str a := ⟨_, rfl⟩
    obtain ⟨D, hD⟩ : ∃ D, D = str d := ⟨_, rfl⟩
    have hH : (Fx.Origin.mk b h p).Host.size ≤ 4294967296 := by show h.size ≤ _; rw [hh, str_size]; omega
    have hDs : D.size ≤ 281474976710656 := by rw [hD, str_size]; omega
    rw [← hh, ← hD] at HC
    rw [← hh] at hu
    have HI := Lib.hid (fun (wx : World) (hp : La.Pow wx) (hq : La.Errs wx) => show Calls Tryz.prog 65 #[.string D] wx fun e w' => e = .returned (.tuple #[.int .i64 p, .bool q]) ∧ Below wx.heap.size wx w' from by
      rw [← hD] at hpq
      rcases hpq with ⟨n, rfl, rfl, hn⟩ | ⟨rfl, rfl, hn⟩
      · rw [hn.2]; exact C1P.implYes n hn.1 wx hp
      · exact C1P.implNo D hDs hn wx hp hq)
    have HU := Lib.hid hu
    clear hc ha hu hh hD hpq hla hDs
    go_enter Tryz.func21, Tryz.ntmps21
    go_wp2_with fail
    rw [← hw0]
    clear hw0
    (refine (HP.out _).mono ?_); rintro e wx ⟨rfl, rfl⟩
    go_wp2_with fail
    (refine (HS.out _).mono ?_); rintro e wx ⟨rfl, rfl⟩
    go_wp2_with fail
    (refine (HT.out _).mono ?_); rintro e wx ⟨rfl, rfl⟩
    go_wp2_with fail
    (refine (HC.out _).mono ?_); rintro e wc ⟨rfl, nd, ex⟩
    have b1 : Below wx.heap.size wx wc := ex ▸ drewN_below _ _ _
    clear ex nd
    replace o_r := owns_below o_r b1
    have HB := HB0.trans (b1.mono HB0.size)
    clear b1 HB0 HP HS HT HC
    go_wp2_with fail
    (refine (HI.out _ (ht.stays HB) (he.stays HB)).mono ?_); rintro e w1 ⟨rfl, b5⟩
    replace o_r := owns_below o_r b5
    replace HB := HB.trans (b5.mono HB.size)
    clear b5 HI
    have HG := var_lt o_r
    go_wp2_with fail
    obtain ⟨w2, hw2⟩ : ∃ y, y = w1.alloc (.cells #[.bool b, .string h, .int .i64 p] 45) := ⟨_, rfl⟩
    obtain ⟨g, hg⟩ : ∃ g, g = w1.heap.size := ⟨_, rfl⟩
    rw [← hw2, ← hg]
    have o_o := var_owns w1 45 3 [.bool b, .string h, .int .i64 p] rfl
    have b2 : Below w1.heap.size w1 w2 := hw2 ▸ (Below.refl _ _).alloc (Nat.le_refl _) _
    rw [← hw2, ← hg] at o_o
    replace o_r := owns_below o_r b2
    replace HB := HB.trans (b2.mono HB.size)
    have hgw : w.heap.size < g := by rw [hg]; exact HG
    clear b2 hw2 hg HG
    rcases po_c HU.out with ⟨k1, k2, k3, k4⟩ | ⟨k1, k3, k4⟩
    · obtain ⟨rfl, rfl⟩ : B = true ∧ X = ⟨b, h, p⟩ := ⟨HQ.out.1.trans k3, HQ.out.2.trans k4⟩
      have HO := Lib.hid (fun wx : World => show Calls Tryz.prog 66 #[.agg #[.bool b, .string h, .int .i64 p]] wx (Gives (.bool true) wx) from k1 ▸ C9j.implOrg wx ⟨b, h, p⟩ _ Origin.mkR hH)
      have HF := Lib.hid (fun (wx : World) (hp : La.Pow wx) => show Calls Tryz.prog 22 #[.agg #[.bool b, .string h, .int .i64 p]] wx (Gives (.string s) wx) from by have h := implFmtO wx ⟨b, h, p⟩ _ Origin.mkR hH hp; rw [k2, str_bts] at h; exact h)
      have hne : (s.toList == s.toList) = true := by simp
      clear k1 k2 k3 k4 HQ HU
      (refine (HO.out _).mono ?_); rintro e w3 ⟨rfl, b3⟩
      replace o_o := owns_below o_o b3
      replace o_r := owns_below o_r b3
      replace HB := HB.trans (b3.mono HB.size)
      clear b3 HO
      have o_oc0 : w3.cell? ⟨g, 0, none⟩ = some (.bool b) := var_load o_o (by simp) 0 _ rfl
      have o_oc1 : w3.cell? ⟨g, 1, none⟩ = some (.string h) := var_load o_o (by simp) 1 _ rfl
      have o_oc2 : w3.cell? ⟨g, 2, none⟩ = some (.int .i64 p) := var_load o_o (by simp) 2 _ rfl
      have o_ol := var_lt o_o
      go_wp2_with fail
      (refine (HF.out _ (ht.stays HB)).mono ?_); rintro e w4 ⟨rfl, b4⟩
      clear o_oc0 o_oc1 o_oc2 o_ol
      replace o_o := owns_below o_o b4
      replace o_r := owns_below o_r b4
      replace HB := HB.trans (b4.mono HB.size)
      clear b4 HF
      have o_oc0 : w4.cell? ⟨g, 0, none⟩ = some (.bool b) := var_load o_o (by simp) 0 _ rfl
      have o_oc1 : w4.cell? ⟨g, 1, none⟩ = some (.string h) := var_load o_o (by simp) 1 _ rfl
      have o_oc2 : w4.cell? ⟨g, 2, none⟩ = some (.int .i64 p) := var_load o_o (by simp) 2 _ rfl
      have o_ol := var_lt o_o
      have o_rc0 : w4.cell? ⟨w.heap.size, 0, none⟩ = some (.bool false) := var_load o_r (by simp) 0 _ rfl
      have o_rf0 : w4.frozen? ⟨w.heap.size, 0, none⟩ = false := var_frozen o_r (by simp) 0 _ rfl
      have o_rc1 : w4.cell? ⟨w.heap.size, 1, none⟩ = some (.string ⟨#[]⟩) := var_load o_r (by simp) 1 _ rfl
      have o_rf1 : w4.frozen? ⟨w.heap.size, 1, none⟩ = false := var_frozen o_r (by simp) 1 _ rfl
      have o_rc2 : w4.cell? ⟨w.heap.size, 2, none⟩ = some (.int .i64 0) := var_load o_r (by simp) 2 _ rfl
      have o_rf2 : w4.frozen? ⟨w.heap.size, 2, none⟩ = false := var_frozen o_r (by simp) 2 _ rfl
      have o_rl := var_lt o_r
      go_wp2
      obtain ⟨wf, hf⟩ : ∃ y, y = (((w4.setCell ⟨w.heap.size, 0, none⟩ (.bool b)).setCell ⟨w.heap.size, 1, none⟩ (.string h)).setCell ⟨w.heap.size, 2, none⟩ (.int .i64 p)) := ⟨_, rfl⟩
      obtain ⟨o_r2, t2⟩ := var_some [.bool b, .string h, .int .i64 p] 0 _ _ o_r (by simp)
      rw [show setAll w4 w.heap.size 0 [.bool b, .string h, .int .i64 p] = wf from hf.symm] at o_r2 t2
      have HE := below_turned HB t2 (fun b hb => by simp at hb; omega)
      clear o_rc0 o_rf0 o_rc1 o_rf1 o_rc2 o_rf2 o_rl
      have o_r2c0 : wf.cell? ⟨w.heap.size, 0, none⟩ = some (.bool b) := var_load o_r2 (by simp) 0 _ rfl
      have o_r2c1 : wf.cell? ⟨w.heap.size, 1, none⟩ = some (.string h) := var_load o_r2 (by simp) 1 _ rfl
      have o_r2c2 : wf.cell? ⟨w.heap.size, 2, none⟩ = some (.int .i64 p) := var_load o_r2 (by simp) 2 _ rfl
      have o_r2l := var_lt o_r2
      rw [← hf]
      exact bodyPost_ret (v := .tuple #[.agg #[.bool b, .string h, .int .i64 p], .bool true]) (by simp [results, Tryz.results21, go_sem, o_r2c0, o_r2c1, o_r2c2]) rfl (made_po ⟨b, h, p⟩ true HE)
    · obtain ⟨rfl, rfl⟩ : B = false ∧ X = ⟨false, ⟨#[]⟩, 0⟩ := ⟨HQ.out.1.trans k3, HQ.out.2.trans k4⟩
      cases ho : orgB ⟨b, h, p⟩ with
      | false =>
        have HO := Lib.hid (fun wx : World => show Calls Tryz.prog 66 #[.agg #[.bool b, .string h, .int .i64 p]] wx (Gives (.bool false) wx) from ho ▸ C9j.implOrg wx ⟨b, h, p⟩ _ Origin.mkR hH)
        clear k1 k3 k4 HQ HU ho
        (refine (HO.out _).mono ?_); rintro e w3 ⟨rfl, b3⟩
        replace o_o := owns_below o_o b3
        replace o_r := owns_below o_r b3
        replace HB := HB.trans (b3.mono HB.size)
        clear b3 HO
        have o_rc0 : w3.cell? ⟨w.heap.size, 0, none⟩ = some (.bool false) := var_load o_r (by simp) 0 _ rfl
        have o_rf0 : w3.frozen? ⟨w.heap.size, 0, none⟩ = false := var_frozen o_r (by simp) 0 _ rfl
        have o_rc1 : w3.cell? ⟨w.heap.size, 1, none⟩ = some (.string ⟨#[]⟩) := var_load o_r (by simp) 1 _ rfl
        have o_rf1 : w3.frozen? ⟨w.heap.size, 1, none⟩ = false := var_frozen o_r (by simp) 1 _ rfl
        have o_rc2 : w3.cell? ⟨w.heap.size, 2, none⟩ = some (.int .i64 0) := var_load o_r (by simp) 2 _ rfl
        have o_rf2 : w3.frozen? ⟨w.heap.size, 2, none⟩ = false := var_frozen o_r (by simp) 2 _ rfl
        have o_rl := var_lt o_r
        go_wp2
        obtain ⟨wf, hf⟩ : ∃ y, y = (((w3.setCell ⟨w.heap.size, 0, none⟩ (.bool false)).setCell ⟨w.heap.size, 1, none⟩ (.string ⟨#[]⟩)).setCell ⟨w.heap.size, 2, none⟩ (.int .i64 0)) := ⟨_, rfl⟩
        obtain ⟨o_r2, t2⟩ := var_some [.bool false, .string ⟨#[]⟩, .int .i64 0] 0 _ _ o_r (by simp)
        rw [show setAll w3 w.heap.size 0 [.bool false, .string ⟨#[]⟩, .int .i64 0] = wf from hf.symm] at o_r2 t2
        have HE := below_turned HB t2 (fun b hb => by simp at hb; omega)
        clear o_rc0 o_rf0 o_rc1 o_rf1 o_rc2 o_rf2 o_rl
        have o_r2c0 : wf.cell? ⟨w.heap.size, 0, none⟩ = some (.bool false) := var_load o_r2 (by simp) 0 _ rfl
        have o_r2c1 : wf.cell? ⟨w.heap.size, 1, none⟩ = some (.string ⟨#[]⟩) := var_load o_r2 (by simp) 1 _ rfl
        have o_r2c2 : wf.cell? ⟨w.heap.size, 2, none⟩ = some (.int .i64 0) := var_load o_r2 (by simp) 2 _ rfl
        have o_r2l := var_lt o_r2
        rw [← hf]
        exact bodyPost_ret (v := .tuple #[.agg #[.bool false, .string ⟨#[]⟩, .int .i64 0], .bool false]) (by simp [results, Tryz.results21, go_sem, o_r2c0, o_r2c1, o_r2c2]) rfl (made_po ⟨false, ⟨#[]⟩, 0⟩ false HE)
      | true =>
        obtain ⟨F, hF⟩ : ∃ F, F = str (fmtO ⟨b, h, p⟩) := ⟨_, rfl⟩
        have HO := Lib.hid (fun wx : World => show Calls Tryz.prog 66 #[.agg #[.bool b, .string h, .int .i64 p]] wx (Gives (.bool true) wx) from ho ▸ C9j.implOrg wx ⟨b, h, p⟩ _ Origin.mkR hH)
        have HF := Lib.hid (fun (wx : World) (hp : La.Pow wx) => show Calls Tryz.prog 22 #[.agg #[.bool b, .string h, .int .i64 p]] wx (Gives (.string F) wx) from by rw [hF]; exact implFmtO wx ⟨b, h, p⟩ _ Origin.mkR hH hp)
        have hne : (F.toList == s.toList) = false := by
          have hk : fmtO ⟨b, h, p⟩ ≠ bts s := by
            rcases k1 with k1 | k1
            · rw [ho] at k1; cases k1
            · exact k1
          rw [hF, str_toList, toList_bts, beq_eq_false_iff_ne]
          exact hk
        clear hF k1
        clear k3 k4 HQ HU ho
        (refine (HO.out _).mono ?_); rintro e w3 ⟨rfl, b3⟩
        replace o_o := owns_below o_o b3
        replace o_r := owns_below o_r b3
        replace HB := HB.trans (b3.mono HB.size)
        clear b3 HO
        have o_oc0 : w3.cell? ⟨g, 0, none⟩ = some (.bool b) := var_load o_o (by simp) 0 _ rfl
        have o_oc1 : w3.cell? ⟨g, 1, none⟩ = some (.string h) := var_load o_o (by simp) 1 _ rfl
        have o_oc2 : w3.cell? ⟨g, 2, none⟩ = some (.int .i64 p) := var_load o_o (by simp) 2 _ rfl
        have o_ol := var_lt o_o
        go_wp2_with fail
        (refine (HF.out _ (ht.stays HB)).mono ?_); rintro e w4 ⟨rfl, b4⟩
        clear o_oc0 o_oc1 o_oc2 o_ol
        replace o_o := owns_below o_o b4
        replace o_r := owns_below o_r b4
        replace HB := HB.trans (b4.mono HB.size)
        clear b4 HF
        have o_rc0 : w4.cell? ⟨w.heap.size, 0, none⟩ = some (.bool false) := var_load o_r (by simp) 0 _ rfl
        have o_rf0 : w4.frozen? ⟨w.heap.size, 0, none⟩ = false := var_frozen o_r (by simp) 0 _ rfl
        have o_rc1 : w4.cell? ⟨w.heap.size, 1, none⟩ = some (.string ⟨#[]⟩) := var_load o_r (by simp) 1 _ rfl
        have o_rf1 : w4.frozen? ⟨w.heap.size, 1, none⟩ = false := var_frozen o_r (by simp) 1 _ rfl
        have o_rc2 : w4.cell? ⟨w.heap.size, 2, none⟩ = some (.int .i64 0) := var_load o_r (by simp) 2 _ rfl
        have o_rf2 : w4.frozen? ⟨w.heap.size, 2, none⟩ = false := var_frozen o_r (by simp) 2 _ rfl
        have o_rl := var_lt o_r
        go_wp2
        obtain ⟨wf, hf⟩ : ∃ y, y = (((w4.setCell ⟨w.heap.size, 0, none⟩ (.bool false)).setCell ⟨w.heap.size, 1, none⟩ (.string ⟨#[]⟩)).setCell ⟨w.heap.size, 2, none⟩ (.int .i64 0)) := ⟨_, rfl⟩
        obtain ⟨o_r2, t2⟩ := var_some [.bool false, .string ⟨#[]⟩, .int .i64 0] 0 _ _ o_r (by simp)
        rw [show setAll w4 w.heap.size 0 [.bool false, .string ⟨#[]⟩, .int .i64 0] = wf from hf.symm] at o_r2 t2
        have HE := below_turned HB t2 (fun b hb => by simp at hb; omega)
        clear o_rc0 o_rf0 o_rc1 o_rf1 o_rc2 o_rf2 o_rl
        have o_r2c0 : wf.cell? ⟨w.heap.size, 0, none⟩ = some (.bool false) := var_load o_r2 (by simp) 0 _ rfl
        have o_r2c1 : wf.cell? ⟨w.heap.size, 1, none⟩ = some (.string ⟨#[]⟩) := var_load o_r2 (by simp) 1 _ rfl
        have o_r2c2 : wf.cell? ⟨w.heap.size, 2, none⟩ = some (.int .i64 0) := var_load o_r2 (by simp) 2 _ rfl
        have o_r2l := var_lt o_r2
        rw [← hf]
        exact bodyPost_ret (v := .tuple #[.agg #[.bool false, .string ⟨#[]⟩, .int .i64 0], .bool false]) (by simp [results, Tryz.results21, go_sem, o_r2c0, o_r2c1, o_r2c2]) rfl (made_po ⟨false, ⟨#[]⟩, 0⟩ false HE)
end Go.Proofs.YtialhhdhpjjkaaaGreatDoor.C9k
