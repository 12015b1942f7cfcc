import Derived.Test.YtialhhdhpjjkaaaGreatDoorC9b
import Derived.Test.YtialhhdhpjjkaaaGreatDoorC9h
import Derived.Test.YtialhhdhpjjkaaaGreatDoorC9j
import Derived.Test.YtialhhdhpjjkaaaGreatDoorC9k
import Derived.Test.YtialhhdhpjjkaaaGreatDoorSx
import Derived.Test.YtialhhdhpjjkaaaGreatDoorC9c
import Derived.Deep.RegionHeld3
import Derived.Deep.RegionLaw
/-
  Contracts of chapter 9's origins, of the program.
-/
namespace Go.Proofs.YtialhhdhpjjkaaaGreatDoor.C9i
open Go.ChangeShapes Go.WideShapes Go.ChangeAt Go.RowKit
open S0 S9 Dm Fx M12 M13 C9
set_option linter.unusedVariables false
set_option linter.unusedSimpArgs false
theorem implHost (s : ByteArray) (w : World) (hs : s.size ≤ 4294967296) : Calls Tryz.prog 32 #[.string s] w (Gives (.bool (host (bts s))) w) := C9j.implHost s w hs
theorem implOrg (w : World) (x : Fx.Origin) (vs : List Value) (h : RdsL w w.heap.size x.dcs vs) (hs : x.Host.size ≤ 4294967296) : Calls Tryz.prog 66 #[.agg vs.toArray] w (Gives (.bool (orgB x)) w) := C9j.implOrg w x vs h hs
theorem implReg (w : World) (s : ByteArray) (hs : s.size ≤ 4294967296) : Calls Tryz.prog 31 #[.string s] w (Gives (.string (str (reg (bts s)))) w) := C9j.implReg w s hs
theorem implSameM (w : World) (x y : Fx.Origin) (us vs : List Value) (h : RdsL w w.heap.size x.dcs us) (h2 : RdsL w w.heap.size y.dcs vs) (hx : x.Host.size ≤ 4294967296) (hy : y.Host.size ≤ 4294967296) :
    Calls Tryz.prog 77 #[.agg us.toArray, .agg vs.toArray] w (Gives (.bool (sameO x y)) w) := C9j.implSameM w x y us vs h h2 hx hy
theorem implSame (w : World) (x y : Fx.Origin) (us vs : List Value) (h : RdsL w w.heap.size x.dcs us) (h2 : RdsL w w.heap.size y.dcs vs) (hx : x.Host.size ≤ 4294967296) (hy : y.Host.size ≤ 4294967296) :
    Calls Tryz.prog 30 #[.agg us.toArray, .agg vs.toArray] w (Gives (.bool (sameO x y)) w) := C9j.implSame w x y us vs h h2 hx hy
theorem implSiteH (w : World) (s : ByteArray) (hs : s.size ≤ 16000000) : Calls Tryz.prog 33 #[.string s] w (Gives (.int .i64 (M3.derive 173 (C3b.sbytes s))) w) := C9j.implSiteH w s hs
theorem two_labels {s : List UInt8} : decide (2 ≤ (split s).length) = decide ((46 : UInt8) ∈ s) := by
  rw [decide_eq_decide]
  induction s with
  | nil => simp [split]
  | cons c cs ih =>
    by_cases hc : c = 46
    · subst hc
      rw [split_at]
      have := List.length_pos_iff.2 (split_ne cs)
      simp
      omega
    · cases hs : split cs with
      | nil => exact absurd hs (split_ne cs)
      | cons x xs =>
        rw [hs] at ih
        rw [split_off hc hs]
        simp only [List.length_cons] at ih ⊢
        rw [ih]
        simp only [List.mem_cons]
        exact ⟨fun h => Or.inr h, fun h => by rcases h with h | h; exact absurd h.symm hc; exact h⟩
set_option maxHeartbeats 3200000 in
set_option maxRecDepth 100000 in
theorem implSiteN (s : ByteArray) (w : World) (hs : s.size ≤ 4294967296) : Calls Tryz.prog 110 #[.string s] w (Gives (.bool (host (bts s) && decide (2 ≤ (split (bts s)).length))) w) := by
  rw [two_labels]
  cases hh : host (bts s) with
  | false =>
    have HH := Lib.hid (fun wx : World => show Calls Tryz.prog 32 #[.string s] wx (Gives (.bool false) wx) from hh ▸ implHost s wx hs)
    rw [Bool.false_and]
    clear hh
    go_enter Tryz.func110, Tryz.ntmps110
    go_wp2_with fail
    (refine (HH.out _).mono ?_); rintro e w3 ⟨rfl, b3⟩
    go_wp2
    go_ret
    exact ⟨rfl, b3⟩
  | true =>
    have HH := Lib.hid (fun wx : World => show Calls Tryz.prog 32 #[.string s] wx (Gives (.bool true) wx) from hh ▸ implHost s wx hs)
    obtain ⟨m, hm⟩ : ∃ m, m = decide ((46 : UInt8) ∈ s.data.toList) := ⟨_, rfl⟩
    have HLS := Lib.hid (fun wx : World => show Calls Tryz.prog 138 #[.string s, .string ⟨#[46]⟩] wx fun e w' => e = .returned (.bool m) ∧ w' = wx from hm ▸ Sx.hasByte s 46 wx)
    rw [Bool.true_and, show decide ((46 : UInt8) ∈ bts s) = m from hm.symm]
    clear hh hm
    go_enter Tryz.func110, Tryz.ntmps110
    go_wp2_with fail
    (refine (HH.out _).mono ?_); rintro e w3 ⟨rfl, b3⟩
    go_wp2_with fail
    (refine (HLS.out _).mono ?_); rintro e w4 ⟨rfl, rfl⟩
    go_wp2
    go_ret
    exact ⟨rfl, b3⟩
set_option maxHeartbeats 3200000 in
set_option maxRecDepth 100000 in
theorem implMayM (w : World) (x : Fx.Origin) (s : ByteArray) (us : List Value) (h : RdsL w w.heap.size x.dcs us) (hx : x.Host.size ≤ 4294967296) (hs : s.size ≤ 4294967296) :
    Calls Tryz.prog 75 #[.agg us.toArray, .string s] w (Gives (.bool (mayO x (bts s))) w) := by
  obtain rfl := Origin.rds h
  clear h
  obtain ⟨w1, hw1⟩ : ∃ z, z = w.alloc (.cells #[.bool x.Secure, .string x.Host, .int .i64 x.Port] 45) := ⟨_, rfl⟩
  have op := Fx.var_owns w 45 3 [.bool x.Secure, .string x.Host, .int .i64 x.Port] rfl
  have HB : Below w.heap.size w w1 := hw1 ▸ (Below.refl _ _).alloc (Nat.le_refl _) _
  rw [← hw1] at op
  have l1 : w.heap.size < w1.heap.size := Fx.var_lt op
  have HF := Lib.hid (show ∀ wx, Below w1.heap.size w1 wx → wx.cell? ⟨w.heap.size, 0, none⟩ = some (.bool x.Secure) ∧ wx.cell? ⟨w.heap.size, 1, none⟩ = some (.string x.Host) from fun wx hb =>
    ⟨Fx.var_load (owns_below op hb) (by simp) 0 _ rfl, Fx.var_load (owns_below op hb) (by simp) 1 _ rfl⟩)
  clear op
  obtain ⟨r, hr⟩ : ∃ r, r = mayO x (bts s) := ⟨_, rfl⟩
  rw [← hr]
  have HR := Lib.hid hr
  clear hr
  cases ha : orgB x with
  | false =>
    have HA := Lib.hid (fun wx : World => show Calls Tryz.prog 66 #[.agg ([.bool x.Secure, .string x.Host, .int .i64 x.Port] : List Value).toArray] wx (Gives (.bool false) wx) from ha ▸ implOrg wx x _ Origin.mkR hx)
    obtain rfl : r = false := by rw [HR.out]; unfold mayO; rw [ha]; rfl
    clear ha HR
    go_enter Tryz.func75, Tryz.ntmps75
    go_wp2_with fail
    rw [← hw1]
    (refine (HA.out _).mono ?_); rintro e w2 ⟨rfl, b2⟩
    go_wp2
    go_ret
    exact ⟨rfl, HB.trans (b2.mono HB.size)⟩
  | true =>
    have HA := Lib.hid (fun wx : World => show Calls Tryz.prog 66 #[.agg ([.bool x.Secure, .string x.Host, .int .i64 x.Port] : List Value).toArray] wx (Gives (.bool true) wx) from ha ▸ implOrg wx x _ Origin.mkR hx)
    have hh60 := host_len (orgB_parts ha).1
    rw [bts_len] at hh60
    go_enter Tryz.func75, Tryz.ntmps75
    go_wp2_with fail
    rw [← hw1]
    (refine (HA.out _).mono ?_); rintro e w2 ⟨rfl, b2⟩
    obtain ⟨c0, c1⟩ := HF.out w2 b2
    have lp2 : w.heap.size < w2.heap.size := Nat.lt_of_lt_of_le l1 b2.size
    cases hsec : x.Secure with
    | false =>
      rw [hsec] at c0
      obtain rfl : r = false := by rw [HR.out]; unfold mayO; rw [ha, hsec]; rfl
      clear ha HR HA hw1
      go_wp2
      go_ret
      exact ⟨rfl, HB.trans (b2.mono HB.size)⟩
    | true =>
      rw [hsec] at c0
      obtain ⟨m, hm⟩ : ∃ m, m = (host (bts s) && decide (2 ≤ (split (bts s)).length)) := ⟨_, rfl⟩
      have HH := Lib.hid (fun wx : World => show Calls Tryz.prog 110 #[.string s] wx (Gives (.bool m) wx) from hm ▸ implSiteN s wx hs)
      have HR2 := Lib.hid (show r = (m && (bts x.Host == bts s || (46 :: bts s).isSuffixOf (bts x.Host))) by rw [HR.out]; unfold mayO; rw [ha, hsec, hm]; simp [bts, Bool.and_assoc])
      have HZ := Lib.hid (show m = true → s.size ≤ 4294967295 from fun hmt => by
        rw [hmt] at hm
        have h1 := host_len (Bool.and_eq_true_iff.1 hm.symm).1
        rw [bts_len] at h1
        omega)
      clear ha HR HA hw1 hm
      go_wp2_with fail
      (refine (HH.out _).mono ?_); rintro e w3 ⟨rfl, b3⟩
      have b34 := b2.trans (b3.mono b2.size)
      have HB4 := HB.trans (b34.mono HB.size)
      obtain ⟨k0, k1⟩ := HF.out w3 b34
      have lp4 : w.heap.size < w3.heap.size := Nat.lt_of_lt_of_le l1 b34.size
      clear b2 b3 c0 c1 HF HH
      cases m with
      | false =>
        obtain rfl : r = false := by rw [HR2.out]; rfl
        clear HR2 HZ
        go_wp2
        go_ret
        exact ⟨rfl, HB4⟩
      | true =>
        have hs60 := HZ.out rfl
        have HV := Lib.hid (show r = (bts x.Host == bts s || (46 :: bts s).isSuffixOf (bts x.Host)) by rw [HR2.out]; rfl)
        clear HR2 HZ
        by_cases he : bts x.Host = bts s
        · obtain rfl : r = true := by rw [HV.out, he]; simp
          have heb : (x.Host.toList == s.toList) = true := by rw [toList_bts, toList_bts, he]; simp
          clear HV he
          go_wp2
          go_ret
          exact ⟨rfl, HB4⟩
        · have heb : (x.Host.toList == s.toList) = false := by rw [toList_bts, toList_bts]; simpa using he
          have heb2 : (bts x.Host == bts s) = false := by simpa using he
          have hfin : r = (bts (⟨#[46]⟩ ++ s)).isSuffixOf (bts x.Host) := by
            rw [HV.out, heb2, Bool.false_or, bts_app]; rfl
          have HS := Lib.hid (fun wx : World => show Calls Tryz.prog 111 #[.string x.Host, .string (⟨#[46]⟩ ++ s)] wx fun e w' => e = .returned (.bool r) ∧ w' = wx from by
            have h := Sx.sufOf x.Host (⟨#[46]⟩ ++ s) wx (by omega)
            rw [show (⟨#[46]⟩ ++ s : ByteArray).data.toList.isSuffixOf x.Host.data.toList = r from hfin.symm] at h
            exact h)
          have n1 : ¬ 9223372036854775807 < 1 + s.size := by omega
          clear HV he hfin heb2
          go_wp2_with fail
          (refine (HS.out _).mono ?_); rintro e w5 ⟨rfl, rfl⟩
          go_wp2
          go_ret
          exact ⟨rfl, HB4⟩
theorem implMay (w : World) (x : Fx.Origin) (s : ByteArray) (us : List Value) (h : RdsL w w.heap.size x.dcs us) (hx : x.Host.size ≤ 4294967296) (hs : s.size ≤ 4294967296) :
    Calls Tryz.prog 27 #[.agg us.toArray, .string s] w (Gives (.bool (mayO x (bts s))) w) := by
  obtain rfl := Origin.rds h
  clear h
  have HS := Lib.hid (fun wx : World => show Calls Tryz.prog 75 #[.agg #[.bool x.Secure, .string x.Host, .int .i64 x.Port], .string s] wx (Gives (.bool (mayO x (bts s))) wx) from implMayM wx x s [.bool x.Secure, .string x.Host, .int .i64 x.Port] Origin.mkR hx hs)
  obtain ⟨w1, hw1⟩ : ∃ z, z = w.alloc (.cells #[.bool x.Secure, .string x.Host, .int .i64 x.Port] 45) := ⟨_, rfl⟩
  have op := Fx.var_owns w 45 3 [.bool x.Secure, .string x.Host, .int .i64 x.Port] rfl
  have HB : Below w.heap.size w w1 := hw1 ▸ (Below.refl _ _).alloc (Nat.le_refl _) _
  rw [← hw1] at op
  have l1 : w.heap.size < w1.heap.size := Fx.var_lt op
  have a0 := Fx.var_load op (by simp) 0 _ rfl
  have a1 := Fx.var_load op (by simp) 1 _ rfl
  have a2 := Fx.var_load op (by simp) 2 _ rfl
  clear op
  go_enter Tryz.func27, Tryz.ntmps27
  go_wp2_with fail
  rw [← hw1]
  clear hw1
  go_wp2_with fail
  (refine (HS.out _).mono ?_); rintro e w3 ⟨rfl, b3⟩
  go_wp2
  go_ret
  exact ⟨rfl, HB.trans (b3.mono HB.size)⟩
theorem implFmtO (w : World) (x : Fx.Origin) (vs : List Value) (h : RdsL w w.heap.size x.dcs vs) (hs : x.Host.size ≤ 4294967296) (ht : La.Pow w) : Calls Tryz.prog 22 #[.agg vs.toArray] w (Gives (.string (str (fmtO x))) w) := C9k.implFmtO w x vs h hs ht
theorem implPo (w : World) (s : ByteArray) (hs : s.size ≤ 4294967296) (ht : La.Pow w) (he : La.Errs w) : Calls Tryz.prog 21 #[.string s] w (MadeLx (poO (bts s)).dcs (fun vs => .tuple #[.agg vs.toArray, .bool (poB (bts s))]) w) := C9k.implPo w s hs ht he
end Go.Proofs.YtialhhdhpjjkaaaGreatDoor.C9i
