/-
  Contracts of chapter 9's texts of origins, of the program.
-/
import Derived.Test.YtialhhdhpjjkaaaDoorC9j
import Derived.Test.YtialhhdhpjjkaaaDoorSx
import Derived.Deep.RegionHeld3
import Derived.Deep.RegionLaw
namespace Go.Proofs.YtialhhdhpjjkaaaDoor.C9k
open Go.ChangeShapes Go.WideShapes Go.ChangeAt Go.RowKit
open S0 S9 Dm Fx M12 M13 C9
set_option linter.unusedVariables false
set_option linter.unusedSimpArgs false
set_option maxRecDepth 100000 in
theorem implSch (b : Bool) (w : World) : Calls Tryd.prog 33 #[.bool b] w fun e w' => e = .returned (.tuple #[.string (str (pre b)), .int .i64 (usual b)]) ∧ w' = w := by
  cases b with
  | true =>
    go_enter Tryd.func33, Tryd.ntmps33
    go_wp2
    go_ret2
    exact ⟨rfl, rfl⟩
  | false =>
    go_enter Tryd.func33, Tryd.ntmps33
    go_wp2
    go_ret2
    exact ⟨rfl, rfl⟩
theorem implSchT (w : World) : Calls Tryd.prog 33 #[.bool true] w fun e w' => e = .returned (.tuple #[.string ⟨#[104, 116, 116, 112, 115, 58, 47, 47]⟩, .int .i64 443]) ∧ w' = w := implSch true w
theorem implSchF (w : World) : Calls Tryd.prog 33 #[.bool false] w fun e w' => e = .returned (.tuple #[.string ⟨#[104, 116, 116, 112, 58, 47, 47]⟩, .int .i64 80]) ∧ w' = w := implSch false w
set_option maxHeartbeats 3200000 in
set_option maxRecDepth 100000 in
theorem implFmtO (w : World) (x : Fx.Origin) (vs : List Value) (h : RdsL w w.heap.size x.dcs vs) (hs : x.Host.size ≤ 4294967296) (ht : La.Pow w) : Calls Tryd.prog 19 #[.agg vs.toArray] w (Gives (.string (str (fmtO x))) w) := by
  obtain rfl := Origin.rds h
  obtain ⟨w1, hw1⟩ : ∃ y, y = w.alloc (.cells #[.bool x.Secure, .string x.Host, .int .i64 x.Port] 33) := ⟨_, rfl⟩
  have b0 : Below w.heap.size w w1 := hw1 ▸ (Below.refl _ _).alloc (Nat.le_refl _) _
  have op := Fx.var_owns w 33 3 [.bool x.Secure, .string x.Host, .int .i64 x.Port] rfl
  rw [← hw1] at op
  have HR1 := Lib.hid (rdsL_on h b0)
  clear h
  cases ho : orgB x with
  | false =>
    have HF := Lib.hid (show str (fmtO x) = ⟨#[]⟩ by rw [fmtO_f ho]; rfl)
    have HO := Lib.hid (show Calls Tryd.prog 32 #[.agg [.bool x.Secure, .string x.Host, .int .i64 x.Port].toArray] w1 (Gives (.bool false) w1) from ho ▸ C9j.implOrg w1 x _ HR1.out hs)
    clear ho
    go_enter Tryd.func19, Tryd.ntmps19
    go_wp2_with fail
    rw [← hw1]
    (refine HO.out.mono ?_); rintro e w2 ⟨rfl, b2⟩
    go_wp2
    go_ret
    exact ⟨by rw [HF.out]; rfl, b0.trans (b2.mono b0.size)⟩
  | true =>
    obtain ⟨hh, hp0, hp1⟩ := orgB_parts ho
    have hh60 := host_len hh
    rw [bts_len] at hh60
    have HO := Lib.hid (show Calls Tryd.prog 32 #[.agg [.bool x.Secure, .string x.Host, .int .i64 x.Port].toArray] w1 (Gives (.bool true) w1) from ho ▸ C9j.implOrg w1 x _ HR1.out hs)
    have HT := Lib.hid (fmtO_t ho)
    have his := C9b.itoa_size x.Port hp0 hp1
    clear ho hh
    go_enter Tryd.func19, Tryd.ntmps19
    go_wp2_with fail
    rw [← hw1]
    (refine HO.out.mono ?_); rintro e w2 ⟨rfl, b2⟩
    have op2 := owns_below op b2
    have c0 : w2.cell? ⟨w.heap.size, 0, none⟩ = some (.bool x.Secure) := Fx.var_load op2 (by simp) 0 _ rfl
    have c1 : w2.cell? ⟨w.heap.size, 1, none⟩ = some (.string x.Host) := Fx.var_load op2 (by simp) 1 _ rfl
    have c2 : w2.cell? ⟨w.heap.size, 2, none⟩ = some (.int .i64 x.Port) := Fx.var_load op2 (by simp) 2 _ rfl
    have HB := Lib.hid (b0.trans (b2.mono b0.size))
    have HT2 := Lib.hid (show La.Pow w2.drew from (ht.stays HB.out).stays (drewN_below w2 1 _))
    have lp := Fx.var_lt op2
    clear op op2 b2 HO HR1 hw1 b0
    cases hsec : x.Secure with
    | true =>
      rw [hsec] at c0
      have HS := Lib.hid (implSchT w2)
      by_cases hu : x.Port = 443
      · have hub : (x.Port == 443) = true := by simpa using hu
        have HV := Lib.hid (show str (fmtO x) = ⟨#[104, 116, 116, 112, 115, 58, 47, 47]⟩ ++ x.Host by
          apply bts_inj
          rw [bts_str, HT.out, hsec, hu, bts_app]
          simp [usual, pre]
          rfl)
        go_wp2_with fail
        (refine HS.out.mono ?_); rintro e w9 ⟨rfl, rfl⟩
        go_wp2
        go_ret
        exact ⟨by rw [HV.out]; rfl, HB.out⟩
      · have hub : (x.Port == 443) = false := by simpa using hu
        have HV := Lib.hid (show str (fmtO x) = ⟨#[104, 116, 116, 112, 115, 58, 47, 47]⟩ ++ x.Host ++ ⟨#[58]⟩ ++ ⟨(Lib.itoa x.Port).toArray⟩ by
          apply bts_inj
          rw [bts_str, HT.out, hsec, bts_app, bts_app, bts_app, if_neg (by simpa [usual] using hu)]
          simp [pre, bts])
        have n1 : ¬ 9223372036854775807 < 8 + x.Host.size := by omega
        have n2 : ¬ 9223372036854775807 < 8 + x.Host.size + 1 := by omega
        have n3 : ¬ 9223372036854775807 < 8 + x.Host.size + 1 + (Lib.itoa x.Port).length := by omega
        go_wp2_with fail
        (refine HS.out.mono ?_); rintro e w9 ⟨rfl, rfl⟩
        go_wp2_with fail
        go_region_held3 (fun wx => wx.cell? ⟨w.heap.size, 1, none⟩ = some (.string x.Host) ∧ wx.cell? ⟨w.heap.size, 2, none⟩ = some (.int .i64 x.Port)) (first | exact ⟨c1, c2⟩ | exact ⟨k1, k2⟩) (first | (go_at_call 34; (with_reducible refine (C1F.implFmt x.Port _ (by omega) (by omega) HT2.out).mono ?_); rintro e w3 ⟨rfl, b3⟩; replace b3 : Below w9.heap.size w9 w3 := (drewN_below w9 1 _).trans b3; have k1 := (b3.cell (p := ⟨w.heap.size, 1, none⟩) lp).trans c1; have k2 := (b3.cell (p := ⟨w.heap.size, 2, none⟩) lp).trans c2))
        have HB3 := HB.out.trans (b3.mono HB.out.size)
        go_wp2
        go_ret
        exact ⟨by rw [HV.out]; rfl, HB3⟩
    | false =>
      rw [hsec] at c0
      have HS := Lib.hid (implSchF w2)
      by_cases hu : x.Port = 80
      · have hub : (x.Port == 80) = true := by simpa using hu
        have HV := Lib.hid (show str (fmtO x) = ⟨#[104, 116, 116, 112, 58, 47, 47]⟩ ++ x.Host by
          apply bts_inj
          rw [bts_str, HT.out, hsec, hu, bts_app]
          simp [usual, pre]
          rfl)
        go_wp2_with fail
        (refine HS.out.mono ?_); rintro e w9 ⟨rfl, rfl⟩
        go_wp2
        go_ret
        exact ⟨by rw [HV.out]; rfl, HB.out⟩
      · have hub : (x.Port == 80) = false := by simpa using hu
        have HV := Lib.hid (show str (fmtO x) = ⟨#[104, 116, 116, 112, 58, 47, 47]⟩ ++ x.Host ++ ⟨#[58]⟩ ++ ⟨(Lib.itoa x.Port).toArray⟩ by
          apply bts_inj
          rw [bts_str, HT.out, hsec, bts_app, bts_app, bts_app, if_neg (by simpa [usual] using hu)]
          simp [pre, bts])
        have n1 : ¬ 9223372036854775807 < 7 + x.Host.size := by omega
        have n2 : ¬ 9223372036854775807 < 7 + x.Host.size + 1 := by omega
        have n3 : ¬ 9223372036854775807 < 7 + x.Host.size + 1 + (Lib.itoa x.Port).length := by omega
        go_wp2_with fail
        (refine HS.out.mono ?_); rintro e w9 ⟨rfl, rfl⟩
        go_wp2_with fail
        go_region_held3 (fun wx => wx.cell? ⟨w.heap.size, 1, none⟩ = some (.string x.Host) ∧ wx.cell? ⟨w.heap.size, 2, none⟩ = some (.int .i64 x.Port)) (first | exact ⟨c1, c2⟩ | exact ⟨k1, k2⟩) (first | (go_at_call 34; (with_reducible refine (C1F.implFmt x.Port _ (by omega) (by omega) HT2.out).mono ?_); rintro e w3 ⟨rfl, b3⟩; replace b3 : Below w9.heap.size w9 w3 := (drewN_below w9 1 _).trans b3; have k1 := (b3.cell (p := ⟨w.heap.size, 1, none⟩) lp).trans c1; have k2 := (b3.cell (p := ⟨w.heap.size, 2, none⟩) lp).trans c2))
        have HB3 := HB.out.trans (b3.mono HB.out.size)
        go_wp2
        go_ret
        exact ⟨by rw [HV.out]; rfl, HB3⟩
end Go.Proofs.YtialhhdhpjjkaaaDoor.C9k
