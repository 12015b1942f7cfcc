import Derived.Test.YtialhhdhpjjkaaaGreatDoorC9b
import Derived.Test.YtialhhdhpjjkaaaGreatDoorBb
/-
  Contract of chapter 9's ParseOrigin, of the model.
-/
namespace Go.Proofs.YtialhhdhpjjkaaaGreatDoor.C9c
open Go.ChangeShapes Go.WideShapes Go.ChangeAt Go.RowKit
open S0 S9 Dm Fx M12 M13 C9
set_option linter.unusedVariables false
set_option linter.unusedSimpArgs false
set_option maxRecDepth 100000
/-- A text cut at a place. -/
theorem cut_pre {s : ByteArray} {k : Nat} (h : k ≤ s.size) {p : ByteArray} (hp : s.extract 0 k = p) : bts s = bts p ++ bts (s.extract k s.size) := by
  rw [← hp, extract_is s 0 k (Nat.zero_le _) h, extract_is s k s.size h (Nat.le_refl _)]
  show bts s = bts (str _) ++ bts (str _)
  rw [bts_str, bts_str, List.drop_zero, Nat.sub_zero, List.take_of_length_le (l := List.drop k s.data.toList) (by rw [List.length_drop, data_len]; exact Nat.le_refl _)]
  exact (List.take_append_drop k _).symm
theorem cut_one {s : ByteArray} {k : Nat} (h : k < s.size) : bts (s.extract k s.size) = s[k] :: bts (s.extract (k + 1) s.size) := by
  rw [extract_is s k s.size (by omega) (Nat.le_refl _), extract_is s (k + 1) s.size h (Nat.le_refl _)]
  show bts (str _) = _ :: bts (str _)
  rw [bts_str, bts_str, List.take_of_length_le (by rw [List.length_drop, data_len]; exact Nat.le_refl _), List.take_of_length_le (by rw [List.length_drop, data_len]; exact Nat.le_refl _), List.drop_eq_getElem_cons (by rw [data_len]; exact h)]
  rfl
theorem byte58 (c : UInt8) : ((c.toNat : Int) == 58) = decide (c = 58) := by
  rw [Bool.eq_iff_iff]
  simp only [beq_iff_eq, decide_eq_true_eq]
  refine ⟨fun e => ?_, fun e => by rw [e]; rfl⟩
  rw [← UInt8.toNat_inj]
  show c.toNat = 58
  omega
/-- A text with its first colon. -/
theorem colon_cut {s : ByteArray} {k : Nat} (h : k < s.size) (e : s[k] = 58) : bts s = bts (s.extract 0 k) ++ 58 :: bts (s.extract (k + 1) s.size) := by
  rw [cut_pre (Nat.le_of_lt h) rfl, cut_one h, e]
theorem before {s : ByteArray} {k : Nat} (hk : k ≤ s.size) (h : ∀ j (hj : j < s.size), j < k → s[j] ≠ 58) : ∀ c ∈ bts (s.extract 0 k), c ≠ 58 := by
  intro c hc
  rw [extract_is s 0 k (Nat.zero_le _) hk] at hc
  have hc2 : c ∈ (s.data.toList).take k := by
    have : bts ⟨((s.data.toList.drop 0).take (k - 0)).toArray⟩ = (s.data.toList).take k := by
      show bts (str _) = _
      rw [bts_str, List.drop_zero, Nat.sub_zero]
    rw [this] at hc
    exact hc
  obtain ⟨j, hj, rfl⟩ := List.getElem_of_mem hc2
  rw [List.length_take, data_len] at hj
  rw [List.getElem_take]
  exact h j (by omega) (by omega)
theorem made_po {w wf : World} (x : Fx.Origin) (b : Bool) (HB : Below w.heap.size w wf) : MadeLx x.dcs (fun vs => .tuple #[.agg vs.toArray, .bool b]) w (.returned (.tuple #[.agg #[.bool x.Secure, .string x.Host, .int .i64 x.Port], .bool b])) wf :=
  ⟨_, [], rfl, Origin.mkO, by simp, HB⟩
set_option maxHeartbeats 16000000 in
theorem specPo (w : World) (s : ByteArray) (hs : s.size ≤ 4294967296) : Calls Tryz.prog 25 #[.string s] w (MadeLx (poO (bts s)).dcs (fun vs => .tuple #[.agg vs.toArray, .bool (poB (bts s))]) w) := by
  obtain ⟨B, hB⟩ : ∃ B, B = poB (bts s) := ⟨_, rfl⟩
  obtain ⟨X, hX⟩ : ∃ X, X = poO (bts s) := ⟨_, rfl⟩
  rw [← hB, ← hX]
  have HQ := Lib.hid (And.intro hB hX)
  clear hB hX
  obtain ⟨w0, hw0⟩ : ∃ y, y = w.alloc (.cells #[.bool false, .string ⟨#[]⟩, .int .i64 0] 45) := ⟨_, rfl⟩
  have o_r := var_owns w 45 3 [.bool false, .string ⟨#[]⟩, .int .i64 0] rfl
  have s0 : w0.heap.size = w.heap.size + 1 := by rw [hw0]; simp
  have HB0 : Below w.heap.size w w0 := hw0 ▸ (Below.refl _ _).alloc (Nat.le_refl _) _
  rw [← hw0] at o_r
  by_cases hA : 8 < s.size ∧ s.extract 0 8 = ⟨#[104, 116, 116, 112, 115, 58, 47, 47]⟩
  · have hA1 : ((s.extract 0 8).toList == [104, 116, 116, 112, 115, 58, 47, 47]) = true := by rw [hA.2, toList_bts]; rfl
    have hA2 := hA.1
    obtain ⟨r, hr⟩ : ∃ r, r = s.extract 8 s.size := ⟨_, rfl⟩
    have hp : bts s = pre true ++ bts r := by rw [hr]; exact cut_pre (by omega) hA.2
    have HP := Lib.hid hp
    have hrs : r.size ≤ s.size := by rw [hr, ByteArray.size_extract]; omega
    clear hp
    obtain ⟨w1, hw1⟩ : ∃ y, y = w0.alloc (.cells #[.bool true, .string r, .int .i64 443] 45) := ⟨_, rfl⟩
    have o_o := var_owns w0 45 3 [.bool true, .string r, .int .i64 443] rfl
    rw [← hw1, s0] at o_o
    have b1 : Below w0.heap.size w0 w1 := hw1 ▸ (Below.refl _ _).alloc (Nat.le_refl _) _
    replace o_r := owns_below o_r b1
    have HB := HB0.trans (b1.mono HB0.size)
    clear b1 HB0
    clear hA
    go_enter Tryz.func25, Tryz.ntmps25
    go_wp2_with fail
    rw [← hr, ← hw0, ← hw1]
    clear hr hw0 hw1
    go_loop [6] (fun i => ∃ k : Nat, k ≤ r.size ∧ i = .int .i64 k ∧ ∀ j (hj : j < r.size), j < k → r[j] ≠ 58) (fun i => r.size - (intOf i).toNat)
    case atStart => exact ⟨0, by omega, rfl, fun _ _ h => by omega⟩
    case round =>
      obtain ⟨k, hk, rfl, hG⟩ := hrel
      have HG := Lib.hid hG
      clear hG
      by_cases hlt : k < r.size
      · by_cases hc : r[k] = 58
        · have hcb : ((r[k].toNat : Int) == 58) = true := by rw [byte58, hc]; rfl
          have hk1 : (r.extract (k + 1) r.size).size ≤ r.size := by rw [ByteArray.size_extract]; omega
          have hk0 : (r.extract 0 k).size ≤ r.size := by rw [ByteArray.size_extract]; omega
          have HC := Lib.hid (show bts s = pre true ++ (bts (r.extract 0 k) ++ 58 :: bts (r.extract (k + 1) r.size)) by rw [← colon_cut hlt hc]; exact HP.out)
          have HD := Lib.hid (before hk HG.out)
          clear hc HP HG
          rcases C1P.yes_or_no (r.extract (k + 1) r.size) with ⟨n, hY⟩ | hN
          · have HU := Lib.hid (show ∀ o : Fx.Origin, orgB o = true → fmtO o = bts s → o = ⟨true, r.extract 0 k, (n : Int)⟩ from fun o h1 h2 => by
              have h3 : bts s = pre true ++ (bts (r.extract 0 k) ++ 58 :: Lib.decDigits n) := by rw [HC.out, hY.2]; show pre true ++ (bts (r.extract 0 k) ++ 58 :: bts (str (Lib.decDigits n))) = _; rw [bts_str]
              rw [po_port h3 HD.out o h1 h2, str_bts])
            have HY := Lib.hid (fun wx : World => C1P.specYes (r.extract (k + 1) r.size) n hY wx)
            have hn : (n : Int) ≤ 1000000000000 := by have := hY.1; omega
            clear hY HC HD
            go_wp2_with fail
            (refine (HY.out _).mono ?_); rintro e w2 ⟨rfl, b2⟩
            replace o_o := owns_below o_o b2
            replace o_r := owns_below o_r b2
            replace HB := HB.trans (b2.mono HB.size)
            have o_oc0 : w2.cell? ⟨(w.heap.size + 1), 0, none⟩ = some (.bool true) := var_load o_o (by simp) 0 _ rfl
            have o_of0 : w2.frozen? ⟨(w.heap.size + 1), 0, none⟩ = false := var_frozen o_o (by simp) 0 _ rfl
            have o_oc1 : w2.cell? ⟨(w.heap.size + 1), 1, none⟩ = some (.string r) := var_load o_o (by simp) 1 _ rfl
            have o_of1 : w2.frozen? ⟨(w.heap.size + 1), 1, none⟩ = false := var_frozen o_o (by simp) 1 _ rfl
            have o_oc2 : w2.cell? ⟨(w.heap.size + 1), 2, none⟩ = some (.int .i64 443) := var_load o_o (by simp) 2 _ rfl
            have o_of2 : w2.frozen? ⟨(w.heap.size + 1), 2, none⟩ = false := var_frozen o_o (by simp) 2 _ rfl
            have o_ol := var_lt o_o
            go_wp2_with fail
            clear o_oc0 o_of0 o_oc1 o_of1 o_oc2 o_of2 o_ol
            obtain ⟨w3, hnew⟩ : ∃ y, y = w2.setCell ⟨(w.heap.size + 1), 1, none⟩ (.string (r.extract 0 k)) := ⟨_, rfl⟩
            obtain ⟨o_o2, t2⟩ := var_some [.string (r.extract 0 k)] 1 _ _ o_o (by simp)
            rw [show setAll w2 (w.heap.size + 1) 1 [.string (r.extract 0 k)] = w3 from hnew.symm] at o_o2 t2
            replace o_o : Owns w3 _ (varD 45 3 [.bool true, .string (r.extract 0 k), .int .i64 443]) _ _ := o_o2
            clear o_o2
            replace o_r := owns_turned o_r t2 (fun b hb hb2 => by simp at hb hb2; omega)
            replace HB := below_turned HB t2 (fun b hb => by simp at hb; omega)
            rw [← hnew]
            clear hnew t2
            obtain ⟨w4, hnew⟩ : ∃ y, y = w3.setCell ⟨(w.heap.size + 1), 2, none⟩ (.int .i64 (n : Int)) := ⟨_, rfl⟩
            obtain ⟨o_o2, t2⟩ := var_some [.int .i64 (n : Int)] 2 _ _ o_o (by simp)
            rw [show setAll w3 (w.heap.size + 1) 2 [.int .i64 (n : Int)] = w4 from hnew.symm] at o_o2 t2
            replace o_o : Owns w4 _ (varD 45 3 [.bool true, .string (r.extract 0 k), .int .i64 (n : Int)]) _ _ := o_o2
            clear o_o2
            replace o_r := owns_turned o_r t2 (fun b hb hb2 => by simp at hb hb2; omega)
            replace HB := below_turned HB t2 (fun b hb => by simp at hb; omega)
            rw [← hnew]
            clear hnew t2
            rcases po_c HU.out with ⟨k1, k2, k3, k4⟩ | ⟨k1, k3, k4⟩
            · obtain ⟨rfl, rfl⟩ : B = true ∧ X = (⟨true, (r.extract 0 k), (n : Int)⟩ : Fx.Origin) := ⟨HQ.out.1.trans k3, HQ.out.2.trans k4⟩
              clear k3 k4 HQ
              have HO := Lib.hid (fun wx : World => show Calls Tryz.prog 24 #[.agg #[.bool true, .string (r.extract 0 k), .int .i64 (n : Int)]] wx (Gives (.bool true) wx) from by have h9 := C9b.specOrg wx (⟨true, (r.extract 0 k), (n : Int)⟩ : Fx.Origin) _ Origin.mkR (show (r.extract 0 k).size ≤ 4294967296 by omega); rw [k1] at h9; exact h9)
              have HT := Lib.hid (fun wx : World => show Calls Tryz.prog 70 #[.agg #[.bool true, .string (r.extract 0 k), .int .i64 (n : Int)]] wx (Gives (.string s) wx) from by have h9 := C9b.specFmtO wx (⟨true, (r.extract 0 k), (n : Int)⟩ : Fx.Origin) _ Origin.mkR (show (r.extract 0 k).size ≤ 4294967296 by omega); rw [show str (fmtO (⟨true, (r.extract 0 k), (n : Int)⟩ : Fx.Origin)) = s by rw [k2, str_bts]] at h9; exact h9)
              clear k1 k2
              (refine (HO.out _).mono ?_); rintro e w7 ⟨rfl, b7⟩
              replace o_o := owns_below o_o b7
              replace o_r := owns_below o_r b7
              replace HB := HB.trans (b7.mono HB.size)
              have o_oc0 : w7.cell? ⟨(w.heap.size + 1), 0, none⟩ = some (.bool true) := var_load o_o (by simp) 0 _ rfl
              have o_of0 : w7.frozen? ⟨(w.heap.size + 1), 0, none⟩ = false := var_frozen o_o (by simp) 0 _ rfl
              have o_oc1 : w7.cell? ⟨(w.heap.size + 1), 1, none⟩ = some (.string (r.extract 0 k)) := var_load o_o (by simp) 1 _ rfl
              have o_of1 : w7.frozen? ⟨(w.heap.size + 1), 1, none⟩ = false := var_frozen o_o (by simp) 1 _ rfl
              have o_oc2 : w7.cell? ⟨(w.heap.size + 1), 2, none⟩ = some (.int .i64 (n : Int)) := var_load o_o (by simp) 2 _ rfl
              have o_of2 : w7.frozen? ⟨(w.heap.size + 1), 2, none⟩ = false := var_frozen o_o (by simp) 2 _ rfl
              have o_ol := var_lt o_o
              go_wp2_with fail
              (refine (HT.out _).mono ?_); rintro e w8 ⟨rfl, b8⟩
              clear o_oc0 o_of0 o_oc1 o_of1 o_oc2 o_of2 o_ol
              replace o_o := owns_below o_o b8
              replace o_r := owns_below o_r b8
              replace HB := HB.trans (b8.mono HB.size)
              have o_rc0 : w8.cell? ⟨w.heap.size, 0, none⟩ = some (.bool false) := var_load o_r (by simp) 0 _ rfl
              have o_rf0 : w8.frozen? ⟨w.heap.size, 0, none⟩ = false := var_frozen o_r (by simp) 0 _ rfl
              have o_rc1 : w8.cell? ⟨w.heap.size, 1, none⟩ = some (.string ⟨#[]⟩) := var_load o_r (by simp) 1 _ rfl
              have o_rf1 : w8.frozen? ⟨w.heap.size, 1, none⟩ = false := var_frozen o_r (by simp) 1 _ rfl
              have o_rc2 : w8.cell? ⟨w.heap.size, 2, none⟩ = some (.int .i64 0) := var_load o_r (by simp) 2 _ rfl
              have o_rf2 : w8.frozen? ⟨w.heap.size, 2, none⟩ = false := var_frozen o_r (by simp) 2 _ rfl
              have o_rl := var_lt o_r
              have o_oc0 : w8.cell? ⟨(w.heap.size + 1), 0, none⟩ = some (.bool true) := var_load o_o (by simp) 0 _ rfl
              have o_of0 : w8.frozen? ⟨(w.heap.size + 1), 0, none⟩ = false := var_frozen o_o (by simp) 0 _ rfl
              have o_oc1 : w8.cell? ⟨(w.heap.size + 1), 1, none⟩ = some (.string (r.extract 0 k)) := var_load o_o (by simp) 1 _ rfl
              have o_of1 : w8.frozen? ⟨(w.heap.size + 1), 1, none⟩ = false := var_frozen o_o (by simp) 1 _ rfl
              have o_oc2 : w8.cell? ⟨(w.heap.size + 1), 2, none⟩ = some (.int .i64 (n : Int)) := var_load o_o (by simp) 2 _ rfl
              have o_of2 : w8.frozen? ⟨(w.heap.size + 1), 2, none⟩ = false := var_frozen o_o (by simp) 2 _ rfl
              have o_ol := var_lt o_o
              go_wp2
              obtain ⟨wf, hf⟩ : ∃ y, y = (((w8.setCell ⟨w.heap.size, 0, none⟩ (.bool true)).setCell ⟨w.heap.size, 1, none⟩ (.string (r.extract 0 k))).setCell ⟨w.heap.size, 2, none⟩ (.int .i64 (n : Int))) := ⟨_, rfl⟩
              obtain ⟨o_r2, t2⟩ := var_some [.bool true, .string (r.extract 0 k), .int .i64 (n : Int)] 0 _ _ o_r (by simp)
              rw [show setAll w8 w.heap.size 0 [.bool true, .string (r.extract 0 k), .int .i64 (n : Int)] = wf from hf.symm] at o_r2 t2
              have HF := below_turned HB t2 (fun b hb => by simp at hb; omega)
              clear o_rc0 o_rf0 o_rc1 o_rf1 o_rc2 o_rf2 o_rl
              have o_r2c0 : wf.cell? ⟨w.heap.size, 0, none⟩ = some (.bool true) := var_load o_r2 (by simp) 0 _ rfl
              have o_r2c1 : wf.cell? ⟨w.heap.size, 1, none⟩ = some (.string (r.extract 0 k)) := var_load o_r2 (by simp) 1 _ rfl
              have o_r2c2 : wf.cell? ⟨w.heap.size, 2, none⟩ = some (.int .i64 (n : Int)) := var_load o_r2 (by simp) 2 _ rfl
              have o_r2l := var_lt o_r2
              rw [← hf]
              exact bodyPost_ret (v := .tuple #[.agg #[.bool true, .string (r.extract 0 k), .int .i64 (n : Int)], .bool true]) (by simp [results, Tryz.results25, go_sem, o_r2c0, o_r2c1, o_r2c2]) rfl (made_po ⟨true, (r.extract 0 k), (n : Int)⟩ true HF)
            · obtain ⟨rfl, rfl⟩ : B = false ∧ X = ⟨false, ⟨#[]⟩, 0⟩ := ⟨HQ.out.1.trans k3, HQ.out.2.trans k4⟩
              clear k3 k4 HQ
              cases k5 : orgB (⟨true, (r.extract 0 k), (n : Int)⟩ : Fx.Origin) with
              | false =>
                have HO := Lib.hid (fun wx : World => show Calls Tryz.prog 24 #[.agg #[.bool true, .string (r.extract 0 k), .int .i64 (n : Int)]] wx (Gives (.bool false) wx) from by have h9 := C9b.specOrg wx (⟨true, (r.extract 0 k), (n : Int)⟩ : Fx.Origin) _ Origin.mkR (show (r.extract 0 k).size ≤ 4294967296 by omega); rw [k5] at h9; exact h9)
                clear k1 k5
                (refine (HO.out _).mono ?_); rintro e w7 ⟨rfl, b7⟩
                replace o_o := owns_below o_o b7
                replace o_r := owns_below o_r b7
                replace HB := HB.trans (b7.mono HB.size)
                have o_rc0 : w7.cell? ⟨w.heap.size, 0, none⟩ = some (.bool false) := var_load o_r (by simp) 0 _ rfl
                have o_rf0 : w7.frozen? ⟨w.heap.size, 0, none⟩ = false := var_frozen o_r (by simp) 0 _ rfl
                have o_rc1 : w7.cell? ⟨w.heap.size, 1, none⟩ = some (.string ⟨#[]⟩) := var_load o_r (by simp) 1 _ rfl
                have o_rf1 : w7.frozen? ⟨w.heap.size, 1, none⟩ = false := var_frozen o_r (by simp) 1 _ rfl
                have o_rc2 : w7.cell? ⟨w.heap.size, 2, none⟩ = some (.int .i64 0) := var_load o_r (by simp) 2 _ rfl
                have o_rf2 : w7.frozen? ⟨w.heap.size, 2, none⟩ = false := var_frozen o_r (by simp) 2 _ rfl
                have o_rl := var_lt o_r
                go_wp2
                obtain ⟨wf, hf⟩ : ∃ y, y = (((w7.setCell ⟨w.heap.size, 0, none⟩ (.bool false)).setCell ⟨w.heap.size, 1, none⟩ (.string ⟨#[]⟩)).setCell ⟨w.heap.size, 2, none⟩ (.int .i64 0)) := ⟨_, rfl⟩
                obtain ⟨o_r2, t2⟩ := var_some [.bool false, .string ⟨#[]⟩, .int .i64 0] 0 _ _ o_r (by simp)
                rw [show setAll w7 w.heap.size 0 [.bool false, .string ⟨#[]⟩, .int .i64 0] = wf from hf.symm] at o_r2 t2
                have HF := below_turned HB t2 (fun b hb => by simp at hb; omega)
                clear o_rc0 o_rf0 o_rc1 o_rf1 o_rc2 o_rf2 o_rl
                have o_r2c0 : wf.cell? ⟨w.heap.size, 0, none⟩ = some (.bool false) := var_load o_r2 (by simp) 0 _ rfl
                have o_r2c1 : wf.cell? ⟨w.heap.size, 1, none⟩ = some (.string ⟨#[]⟩) := var_load o_r2 (by simp) 1 _ rfl
                have o_r2c2 : wf.cell? ⟨w.heap.size, 2, none⟩ = some (.int .i64 0) := var_load o_r2 (by simp) 2 _ rfl
                have o_r2l := var_lt o_r2
                rw [← hf]
                exact bodyPost_ret (v := .tuple #[.agg #[.bool false, .string ⟨#[]⟩, .int .i64 0], .bool false]) (by simp [results, Tryz.results25, go_sem, o_r2c0, o_r2c1, o_r2c2]) rfl (made_po ⟨false, ⟨#[]⟩, 0⟩ false HF)
              | true =>
                have HO := Lib.hid (fun wx : World => show Calls Tryz.prog 24 #[.agg #[.bool true, .string (r.extract 0 k), .int .i64 (n : Int)]] wx (Gives (.bool true) wx) from by have h9 := C9b.specOrg wx (⟨true, (r.extract 0 k), (n : Int)⟩ : Fx.Origin) _ Origin.mkR (show (r.extract 0 k).size ≤ 4294967296 by omega); rw [k5] at h9; exact h9)
                obtain ⟨t, ht⟩ : ∃ t, t = str (fmtO (⟨true, (r.extract 0 k), (n : Int)⟩ : Fx.Origin)) := ⟨_, rfl⟩
                have HT := Lib.hid (fun wx : World => show Calls Tryz.prog 70 #[.agg #[.bool true, .string (r.extract 0 k), .int .i64 (n : Int)]] wx (Gives (.string t) wx) from by have h9 := C9b.specFmtO wx (⟨true, (r.extract 0 k), (n : Int)⟩ : Fx.Origin) _ Origin.mkR (show (r.extract 0 k).size ≤ 4294967296 by omega); rw [← ht] at h9; exact h9)
                have hne : (t.toList == s.toList) = false := by
                  rcases k1 with k1 | k1
                  · rw [k5] at k1; cases k1
                  · rw [toList_bts, toList_bts, ht, bts_str]; simpa using k1
                clear k1 k5 ht
                (refine (HO.out _).mono ?_); rintro e w7 ⟨rfl, b7⟩
                replace o_o := owns_below o_o b7
                replace o_r := owns_below o_r b7
                replace HB := HB.trans (b7.mono HB.size)
                have o_oc0 : w7.cell? ⟨(w.heap.size + 1), 0, none⟩ = some (.bool true) := var_load o_o (by simp) 0 _ rfl
                have o_of0 : w7.frozen? ⟨(w.heap.size + 1), 0, none⟩ = false := var_frozen o_o (by simp) 0 _ rfl
                have o_oc1 : w7.cell? ⟨(w.heap.size + 1), 1, none⟩ = some (.string (r.extract 0 k)) := var_load o_o (by simp) 1 _ rfl
                have o_of1 : w7.frozen? ⟨(w.heap.size + 1), 1, none⟩ = false := var_frozen o_o (by simp) 1 _ rfl
                have o_oc2 : w7.cell? ⟨(w.heap.size + 1), 2, none⟩ = some (.int .i64 (n : Int)) := var_load o_o (by simp) 2 _ rfl
                have o_of2 : w7.frozen? ⟨(w.heap.size + 1), 2, none⟩ = false := var_frozen o_o (by simp) 2 _ rfl
                have o_ol := var_lt o_o
                go_wp2_with fail
                (refine (HT.out _).mono ?_); rintro e w8 ⟨rfl, b8⟩
                clear o_oc0 o_of0 o_oc1 o_of1 o_oc2 o_of2 o_ol
                replace o_o := owns_below o_o b8
                replace o_r := owns_below o_r b8
                replace HB := HB.trans (b8.mono HB.size)
                have o_rc0 : w8.cell? ⟨w.heap.size, 0, none⟩ = some (.bool false) := var_load o_r (by simp) 0 _ rfl
                have o_rf0 : w8.frozen? ⟨w.heap.size, 0, none⟩ = false := var_frozen o_r (by simp) 0 _ rfl
                have o_rc1 : w8.cell? ⟨w.heap.size, 1, none⟩ = some (.string ⟨#[]⟩) := var_load o_r (by simp) 1 _ rfl
                have o_rf1 : w8.frozen? ⟨w.heap.size, 1, none⟩ = false := var_frozen o_r (by simp) 1 _ rfl
                have o_rc2 : w8.cell? ⟨w.heap.size, 2, none⟩ = some (.int .i64 0) := var_load o_r (by simp) 2 _ rfl
                have o_rf2 : w8.frozen? ⟨w.heap.size, 2, none⟩ = false := var_frozen o_r (by simp) 2 _ rfl
                have o_rl := var_lt o_r
                go_wp2
                obtain ⟨wf, hf⟩ : ∃ y, y = (((w8.setCell ⟨w.heap.size, 0, none⟩ (.bool false)).setCell ⟨w.heap.size, 1, none⟩ (.string ⟨#[]⟩)).setCell ⟨w.heap.size, 2, none⟩ (.int .i64 0)) := ⟨_, rfl⟩
                obtain ⟨o_r2, t2⟩ := var_some [.bool false, .string ⟨#[]⟩, .int .i64 0] 0 _ _ o_r (by simp)
                rw [show setAll w8 w.heap.size 0 [.bool false, .string ⟨#[]⟩, .int .i64 0] = wf from hf.symm] at o_r2 t2
                have HF := below_turned HB t2 (fun b hb => by simp at hb; omega)
                clear o_rc0 o_rf0 o_rc1 o_rf1 o_rc2 o_rf2 o_rl
                have o_r2c0 : wf.cell? ⟨w.heap.size, 0, none⟩ = some (.bool false) := var_load o_r2 (by simp) 0 _ rfl
                have o_r2c1 : wf.cell? ⟨w.heap.size, 1, none⟩ = some (.string ⟨#[]⟩) := var_load o_r2 (by simp) 1 _ rfl
                have o_r2c2 : wf.cell? ⟨w.heap.size, 2, none⟩ = some (.int .i64 0) := var_load o_r2 (by simp) 2 _ rfl
                have o_r2l := var_lt o_r2
                rw [← hf]
                exact bodyPost_ret (v := .tuple #[.agg #[.bool false, .string ⟨#[]⟩, .int .i64 0], .bool false]) (by simp [results, Tryz.results25, go_sem, o_r2c0, o_r2c1, o_r2c2]) rfl (made_po ⟨false, ⟨#[]⟩, 0⟩ false HF)
          · obtain ⟨rfl, rfl⟩ : B = false ∧ X = ⟨false, ⟨#[]⟩, 0⟩ := by
              have h4 := po_f (po_noport HC.out HD.out (by rw [str_bts]; exact hN))
              exact ⟨HQ.out.1.trans h4.1, HQ.out.2.trans h4.2⟩
            have HY := Lib.hid (fun wx : World => C1P.specNo (r.extract (k + 1) r.size) hN wx (by omega))
            clear hN HC HD HQ
            go_wp2_with fail
            (refine (HY.out _).mono ?_); rintro e w2 ⟨rfl, b2⟩
            replace o_r := owns_below o_r b2
            replace HB := HB.trans (b2.mono HB.size)
            have o_rc0 : w2.cell? ⟨w.heap.size, 0, none⟩ = some (.bool false) := var_load o_r (by simp) 0 _ rfl
            have o_rf0 : w2.frozen? ⟨w.heap.size, 0, none⟩ = false := var_frozen o_r (by simp) 0 _ rfl
            have o_rc1 : w2.cell? ⟨w.heap.size, 1, none⟩ = some (.string ⟨#[]⟩) := var_load o_r (by simp) 1 _ rfl
            have o_rf1 : w2.frozen? ⟨w.heap.size, 1, none⟩ = false := var_frozen o_r (by simp) 1 _ rfl
            have o_rc2 : w2.cell? ⟨w.heap.size, 2, none⟩ = some (.int .i64 0) := var_load o_r (by simp) 2 _ rfl
            have o_rf2 : w2.frozen? ⟨w.heap.size, 2, none⟩ = false := var_frozen o_r (by simp) 2 _ rfl
            have o_rl := var_lt o_r
            go_wp2
            obtain ⟨wf, hf⟩ : ∃ y, y = (((w2.setCell ⟨w.heap.size, 0, none⟩ (.bool false)).setCell ⟨w.heap.size, 1, none⟩ (.string ⟨#[]⟩)).setCell ⟨w.heap.size, 2, none⟩ (.int .i64 0)) := ⟨_, rfl⟩
            obtain ⟨o_r2, t2⟩ := var_some [.bool false, .string ⟨#[]⟩, .int .i64 0] 0 _ _ o_r (by simp)
            rw [show setAll w2 w.heap.size 0 [.bool false, .string ⟨#[]⟩, .int .i64 0] = wf from hf.symm] at o_r2 t2
            have HF := below_turned HB t2 (fun b hb => by simp at hb; omega)
            clear o_rc0 o_rf0 o_rc1 o_rf1 o_rc2 o_rf2 o_rl
            have o_r2c0 : wf.cell? ⟨w.heap.size, 0, none⟩ = some (.bool false) := var_load o_r2 (by simp) 0 _ rfl
            have o_r2c1 : wf.cell? ⟨w.heap.size, 1, none⟩ = some (.string ⟨#[]⟩) := var_load o_r2 (by simp) 1 _ rfl
            have o_r2c2 : wf.cell? ⟨w.heap.size, 2, none⟩ = some (.int .i64 0) := var_load o_r2 (by simp) 2 _ rfl
            have o_r2l := var_lt o_r2
            rw [← hf]
            exact bodyPost_ret (v := .tuple #[.agg #[.bool false, .string ⟨#[]⟩, .int .i64 0], .bool false]) (by simp [results, Tryz.results25, go_sem, o_r2c0, o_r2c1, o_r2c2]) rfl (made_po ⟨false, ⟨#[]⟩, 0⟩ false HF)
        · have hcb : ((r[k].toNat : Int) == 58) = false := by rw [byte58]; simpa using hc
          go_wp2
          go_round
          case rel =>
            refine ⟨k + 1, by omega, by go_num, fun j hj hjk => ?_⟩
            by_cases h : j < k
            · exact HG.out j hj h
            · obtain rfl : j = k := by omega
              exact hc
          case measure => simp [intOf]; omega
      · obtain rfl : k = r.size := by omega
        have HU := Lib.hid (show ∀ o : Fx.Origin, orgB o = true → fmtO o = bts s → o = ⟨true, r, (443 : Int)⟩ from fun o h1 h2 => by
          have h3 := before (Nat.le_refl r.size) HG.out
          rw [show r.extract 0 r.size = r from ByteArray.extract_zero_size] at h3
          rw [po_plain HP.out h3 o h1 h2, str_bts]; rfl)
        clear HG HP
        have o_oc0 : w1.cell? ⟨(w.heap.size + 1), 0, none⟩ = some (.bool true) := var_load o_o (by simp) 0 _ rfl
        have o_of0 : w1.frozen? ⟨(w.heap.size + 1), 0, none⟩ = false := var_frozen o_o (by simp) 0 _ rfl
        have o_oc1 : w1.cell? ⟨(w.heap.size + 1), 1, none⟩ = some (.string r) := var_load o_o (by simp) 1 _ rfl
        have o_of1 : w1.frozen? ⟨(w.heap.size + 1), 1, none⟩ = false := var_frozen o_o (by simp) 1 _ rfl
        have o_oc2 : w1.cell? ⟨(w.heap.size + 1), 2, none⟩ = some (.int .i64 443) := var_load o_o (by simp) 2 _ rfl
        have o_of2 : w1.frozen? ⟨(w.heap.size + 1), 2, none⟩ = false := var_frozen o_o (by simp) 2 _ rfl
        have o_ol := var_lt o_o
        go_wp2_with fail
        clear o_oc0 o_of0 o_oc1 o_of1 o_oc2 o_of2 o_ol
        rcases po_c HU.out with ⟨k1, k2, k3, k4⟩ | ⟨k1, k3, k4⟩
        · obtain ⟨rfl, rfl⟩ : B = true ∧ X = (⟨true, r, 443⟩ : Fx.Origin) := ⟨HQ.out.1.trans k3, HQ.out.2.trans k4⟩
          clear k3 k4 HQ
          have HO := Lib.hid (fun wx : World => show Calls Tryz.prog 24 #[.agg #[.bool true, .string r, .int .i64 443]] wx (Gives (.bool true) wx) from by have h9 := C9b.specOrg wx (⟨true, r, 443⟩ : Fx.Origin) _ Origin.mkR (show r.size ≤ 4294967296 by omega); rw [k1] at h9; exact h9)
          have HT := Lib.hid (fun wx : World => show Calls Tryz.prog 70 #[.agg #[.bool true, .string r, .int .i64 443]] wx (Gives (.string s) wx) from by have h9 := C9b.specFmtO wx (⟨true, r, 443⟩ : Fx.Origin) _ Origin.mkR (show r.size ≤ 4294967296 by omega); rw [show str (fmtO (⟨true, r, 443⟩ : Fx.Origin)) = s by rw [k2, str_bts]] at h9; exact h9)
          clear k1 k2
          (refine (HO.out _).mono ?_); rintro e w7 ⟨rfl, b7⟩
          replace o_o := owns_below o_o b7
          replace o_r := owns_below o_r b7
          replace HB := HB.trans (b7.mono HB.size)
          have o_oc0 : w7.cell? ⟨(w.heap.size + 1), 0, none⟩ = some (.bool true) := var_load o_o (by simp) 0 _ rfl
          have o_of0 : w7.frozen? ⟨(w.heap.size + 1), 0, none⟩ = false := var_frozen o_o (by simp) 0 _ rfl
          have o_oc1 : w7.cell? ⟨(w.heap.size + 1), 1, none⟩ = some (.string r) := var_load o_o (by simp) 1 _ rfl
          have o_of1 : w7.frozen? ⟨(w.heap.size + 1), 1, none⟩ = false := var_frozen o_o (by simp) 1 _ rfl
          have o_oc2 : w7.cell? ⟨(w.heap.size + 1), 2, none⟩ = some (.int .i64 443) := var_load o_o (by simp) 2 _ rfl
          have o_of2 : w7.frozen? ⟨(w.heap.size + 1), 2, none⟩ = false := var_frozen o_o (by simp) 2 _ rfl
          have o_ol := var_lt o_o
          go_wp2_with fail
          (refine (HT.out _).mono ?_); rintro e w8 ⟨rfl, b8⟩
          clear o_oc0 o_of0 o_oc1 o_of1 o_oc2 o_of2 o_ol
          replace o_o := owns_below o_o b8
          replace o_r := owns_below o_r b8
          replace HB := HB.trans (b8.mono HB.size)
          have o_rc0 : w8.cell? ⟨w.heap.size, 0, none⟩ = some (.bool false) := var_load o_r (by simp) 0 _ rfl
          have o_rf0 : w8.frozen? ⟨w.heap.size, 0, none⟩ = false := var_frozen o_r (by simp) 0 _ rfl
          have o_rc1 : w8.cell? ⟨w.heap.size, 1, none⟩ = some (.string ⟨#[]⟩) := var_load o_r (by simp) 1 _ rfl
          have o_rf1 : w8.frozen? ⟨w.heap.size, 1, none⟩ = false := var_frozen o_r (by simp) 1 _ rfl
          have o_rc2 : w8.cell? ⟨w.heap.size, 2, none⟩ = some (.int .i64 0) := var_load o_r (by simp) 2 _ rfl
          have o_rf2 : w8.frozen? ⟨w.heap.size, 2, none⟩ = false := var_frozen o_r (by simp) 2 _ rfl
          have o_rl := var_lt o_r
          have o_oc0 : w8.cell? ⟨(w.heap.size + 1), 0, none⟩ = some (.bool true) := var_load o_o (by simp) 0 _ rfl
          have o_of0 : w8.frozen? ⟨(w.heap.size + 1), 0, none⟩ = false := var_frozen o_o (by simp) 0 _ rfl
          have o_oc1 : w8.cell? ⟨(w.heap.size + 1), 1, none⟩ = some (.string r) := var_load o_o (by simp) 1 _ rfl
          have o_of1 : w8.frozen? ⟨(w.heap.size + 1), 1, none⟩ = false := var_frozen o_o (by simp) 1 _ rfl
          have o_oc2 : w8.cell? ⟨(w.heap.size + 1), 2, none⟩ = some (.int .i64 443) := var_load o_o (by simp) 2 _ rfl
          have o_of2 : w8.frozen? ⟨(w.heap.size + 1), 2, none⟩ = false := var_frozen o_o (by simp) 2 _ rfl
          have o_ol := var_lt o_o
          go_wp2
          obtain ⟨wf, hf⟩ : ∃ y, y = (((w8.setCell ⟨w.heap.size, 0, none⟩ (.bool true)).setCell ⟨w.heap.size, 1, none⟩ (.string r)).setCell ⟨w.heap.size, 2, none⟩ (.int .i64 443)) := ⟨_, rfl⟩
          obtain ⟨o_r2, t2⟩ := var_some [.bool true, .string r, .int .i64 443] 0 _ _ o_r (by simp)
          rw [show setAll w8 w.heap.size 0 [.bool true, .string r, .int .i64 443] = wf from hf.symm] at o_r2 t2
          have HF := below_turned HB t2 (fun b hb => by simp at hb; omega)
          clear o_rc0 o_rf0 o_rc1 o_rf1 o_rc2 o_rf2 o_rl
          have o_r2c0 : wf.cell? ⟨w.heap.size, 0, none⟩ = some (.bool true) := var_load o_r2 (by simp) 0 _ rfl
          have o_r2c1 : wf.cell? ⟨w.heap.size, 1, none⟩ = some (.string r) := var_load o_r2 (by simp) 1 _ rfl
          have o_r2c2 : wf.cell? ⟨w.heap.size, 2, none⟩ = some (.int .i64 443) := var_load o_r2 (by simp) 2 _ rfl
          have o_r2l := var_lt o_r2
          rw [← hf]
          exact bodyPost_ret (v := .tuple #[.agg #[.bool true, .string r, .int .i64 443], .bool true]) (by simp [results, Tryz.results25, go_sem, o_r2c0, o_r2c1, o_r2c2]) rfl (made_po ⟨true, r, 443⟩ true HF)
        · obtain ⟨rfl, rfl⟩ : B = false ∧ X = ⟨false, ⟨#[]⟩, 0⟩ := ⟨HQ.out.1.trans k3, HQ.out.2.trans k4⟩
          clear k3 k4 HQ
          cases k5 : orgB (⟨true, r, 443⟩ : Fx.Origin) with
          | false =>
            have HO := Lib.hid (fun wx : World => show Calls Tryz.prog 24 #[.agg #[.bool true, .string r, .int .i64 443]] wx (Gives (.bool false) wx) from by have h9 := C9b.specOrg wx (⟨true, r, 443⟩ : Fx.Origin) _ Origin.mkR (show r.size ≤ 4294967296 by omega); rw [k5] at h9; exact h9)
            clear k1 k5
            (refine (HO.out _).mono ?_); rintro e w7 ⟨rfl, b7⟩
            replace o_o := owns_below o_o b7
            replace o_r := owns_below o_r b7
            replace HB := HB.trans (b7.mono HB.size)
            have o_rc0 : w7.cell? ⟨w.heap.size, 0, none⟩ = some (.bool false) := var_load o_r (by simp) 0 _ rfl
            have o_rf0 : w7.frozen? ⟨w.heap.size, 0, none⟩ = false := var_frozen o_r (by simp) 0 _ rfl
            have o_rc1 : w7.cell? ⟨w.heap.size, 1, none⟩ = some (.string ⟨#[]⟩) := var_load o_r (by simp) 1 _ rfl
            have o_rf1 : w7.frozen? ⟨w.heap.size, 1, none⟩ = false := var_frozen o_r (by simp) 1 _ rfl
            have o_rc2 : w7.cell? ⟨w.heap.size, 2, none⟩ = some (.int .i64 0) := var_load o_r (by simp) 2 _ rfl
            have o_rf2 : w7.frozen? ⟨w.heap.size, 2, none⟩ = false := var_frozen o_r (by simp) 2 _ rfl
            have o_rl := var_lt o_r
            go_wp2
            obtain ⟨wf, hf⟩ : ∃ y, y = (((w7.setCell ⟨w.heap.size, 0, none⟩ (.bool false)).setCell ⟨w.heap.size, 1, none⟩ (.string ⟨#[]⟩)).setCell ⟨w.heap.size, 2, none⟩ (.int .i64 0)) := ⟨_, rfl⟩
            obtain ⟨o_r2, t2⟩ := var_some [.bool false, .string ⟨#[]⟩, .int .i64 0] 0 _ _ o_r (by simp)
            rw [show setAll w7 w.heap.size 0 [.bool false, .string ⟨#[]⟩, .int .i64 0] = wf from hf.symm] at o_r2 t2
            have HF := below_turned HB t2 (fun b hb => by simp at hb; omega)
            clear o_rc0 o_rf0 o_rc1 o_rf1 o_rc2 o_rf2 o_rl
            have o_r2c0 : wf.cell? ⟨w.heap.size, 0, none⟩ = some (.bool false) := var_load o_r2 (by simp) 0 _ rfl
            have o_r2c1 : wf.cell? ⟨w.heap.size, 1, none⟩ = some (.string ⟨#[]⟩) := var_load o_r2 (by simp) 1 _ rfl
            have o_r2c2 : wf.cell? ⟨w.heap.size, 2, none⟩ = some (.int .i64 0) := var_load o_r2 (by simp) 2 _ rfl
            have o_r2l := var_lt o_r2
            rw [← hf]
            exact bodyPost_ret (v := .tuple #[.agg #[.bool false, .string ⟨#[]⟩, .int .i64 0], .bool false]) (by simp [results, Tryz.results25, go_sem, o_r2c0, o_r2c1, o_r2c2]) rfl (made_po ⟨false, ⟨#[]⟩, 0⟩ false HF)
          | true =>
            have HO := Lib.hid (fun wx : World => show Calls Tryz.prog 24 #[.agg #[.bool true, .string r, .int .i64 443]] wx (Gives (.bool true) wx) from by have h9 := C9b.specOrg wx (⟨true, r, 443⟩ : Fx.Origin) _ Origin.mkR (show r.size ≤ 4294967296 by omega); rw [k5] at h9; exact h9)
            obtain ⟨t, ht⟩ : ∃ t, t = str (fmtO (⟨true, r, 443⟩ : Fx.Origin)) := ⟨_, rfl⟩
            have HT := Lib.hid (fun wx : World => show Calls Tryz.prog 70 #[.agg #[.bool true, .string r, .int .i64 443]] wx (Gives (.string t) wx) from by have h9 := C9b.specFmtO wx (⟨true, r, 443⟩ : Fx.Origin) _ Origin.mkR (show r.size ≤ 4294967296 by omega); rw [← ht] at h9; exact h9)
            have hne : (t.toList == s.toList) = false := by
              rcases k1 with k1 | k1
              · rw [k5] at k1; cases k1
              · rw [toList_bts, toList_bts, ht, bts_str]; simpa using k1
            clear k1 k5 ht
            (refine (HO.out _).mono ?_); rintro e w7 ⟨rfl, b7⟩
            replace o_o := owns_below o_o b7
            replace o_r := owns_below o_r b7
            replace HB := HB.trans (b7.mono HB.size)
            have o_oc0 : w7.cell? ⟨(w.heap.size + 1), 0, none⟩ = some (.bool true) := var_load o_o (by simp) 0 _ rfl
            have o_of0 : w7.frozen? ⟨(w.heap.size + 1), 0, none⟩ = false := var_frozen o_o (by simp) 0 _ rfl
            have o_oc1 : w7.cell? ⟨(w.heap.size + 1), 1, none⟩ = some (.string r) := var_load o_o (by simp) 1 _ rfl
            have o_of1 : w7.frozen? ⟨(w.heap.size + 1), 1, none⟩ = false := var_frozen o_o (by simp) 1 _ rfl
            have o_oc2 : w7.cell? ⟨(w.heap.size + 1), 2, none⟩ = some (.int .i64 443) := var_load o_o (by simp) 2 _ rfl
            have o_of2 : w7.frozen? ⟨(w.heap.size + 1), 2, none⟩ = false := var_frozen o_o (by simp) 2 _ rfl
            have o_ol := var_lt o_o
            go_wp2_with fail
            (refine (HT.out _).mono ?_); rintro e w8 ⟨rfl, b8⟩
            clear o_oc0 o_of0 o_oc1 o_of1 o_oc2 o_of2 o_ol
            replace o_o := owns_below o_o b8
            replace o_r := owns_below o_r b8
            replace HB := HB.trans (b8.mono HB.size)
            have o_rc0 : w8.cell? ⟨w.heap.size, 0, none⟩ = some (.bool false) := var_load o_r (by simp) 0 _ rfl
            have o_rf0 : w8.frozen? ⟨w.heap.size, 0, none⟩ = false := var_frozen o_r (by simp) 0 _ rfl
            have o_rc1 : w8.cell? ⟨w.heap.size, 1, none⟩ = some (.string ⟨#[]⟩) := var_load o_r (by simp) 1 _ rfl
            have o_rf1 : w8.frozen? ⟨w.heap.size, 1, none⟩ = false := var_frozen o_r (by simp) 1 _ rfl
            have o_rc2 : w8.cell? ⟨w.heap.size, 2, none⟩ = some (.int .i64 0) := var_load o_r (by simp) 2 _ rfl
            have o_rf2 : w8.frozen? ⟨w.heap.size, 2, none⟩ = false := var_frozen o_r (by simp) 2 _ rfl
            have o_rl := var_lt o_r
            go_wp2
            obtain ⟨wf, hf⟩ : ∃ y, y = (((w8.setCell ⟨w.heap.size, 0, none⟩ (.bool false)).setCell ⟨w.heap.size, 1, none⟩ (.string ⟨#[]⟩)).setCell ⟨w.heap.size, 2, none⟩ (.int .i64 0)) := ⟨_, rfl⟩
            obtain ⟨o_r2, t2⟩ := var_some [.bool false, .string ⟨#[]⟩, .int .i64 0] 0 _ _ o_r (by simp)
            rw [show setAll w8 w.heap.size 0 [.bool false, .string ⟨#[]⟩, .int .i64 0] = wf from hf.symm] at o_r2 t2
            have HF := below_turned HB t2 (fun b hb => by simp at hb; omega)
            clear o_rc0 o_rf0 o_rc1 o_rf1 o_rc2 o_rf2 o_rl
            have o_r2c0 : wf.cell? ⟨w.heap.size, 0, none⟩ = some (.bool false) := var_load o_r2 (by simp) 0 _ rfl
            have o_r2c1 : wf.cell? ⟨w.heap.size, 1, none⟩ = some (.string ⟨#[]⟩) := var_load o_r2 (by simp) 1 _ rfl
            have o_r2c2 : wf.cell? ⟨w.heap.size, 2, none⟩ = some (.int .i64 0) := var_load o_r2 (by simp) 2 _ rfl
            have o_r2l := var_lt o_r2
            rw [← hf]
            exact bodyPost_ret (v := .tuple #[.agg #[.bool false, .string ⟨#[]⟩, .int .i64 0], .bool false]) (by simp [results, Tryz.results25, go_sem, o_r2c0, o_r2c1, o_r2c2]) rfl (made_po ⟨false, ⟨#[]⟩, 0⟩ false HF)
  · by_cases hZ : 7 < s.size ∧ s.extract 0 7 = ⟨#[104, 116, 116, 112, 58, 47, 47]⟩
    · have hB1 : ((s.extract 0 7).toList == [104, 116, 116, 112, 58, 47, 47]) = true := by rw [hZ.2, toList_bts]; rfl
      have hA2 := hZ.1
      obtain ⟨r, hr⟩ : ∃ r, r = s.extract 7 s.size := ⟨_, rfl⟩
      have hp : bts s = pre false ++ bts r := by rw [hr]; exact cut_pre (by omega) hZ.2
      have HP := Lib.hid hp
      have hrs : r.size ≤ s.size := by rw [hr, ByteArray.size_extract]; omega
      clear hp
      obtain ⟨w1, hw1⟩ : ∃ y, y = w0.alloc (.cells #[.bool false, .string r, .int .i64 80] 45) := ⟨_, rfl⟩
      have o_o := var_owns w0 45 3 [.bool false, .string r, .int .i64 80] rfl
      rw [← hw1, s0] at o_o
      have b1 : Below w0.heap.size w0 w1 := hw1 ▸ (Below.refl _ _).alloc (Nat.le_refl _) _
      replace o_r := owns_below o_r b1
      have HB := HB0.trans (b1.mono HB0.size)
      clear b1 HB0
      clear hZ
      by_cases h8 : 8 < s.size
      · have hA1 : ((s.extract 0 8).toList == [104, 116, 116, 112, 115, 58, 47, 47]) = false := by rw [beq_eq_false_iff_ne]; intro e; exact hA ⟨h8, bts_inj (by rw [← toList_bts, e]; rfl)⟩
        clear hA
        go_enter Tryz.func25, Tryz.ntmps25
        go_wp2_with fail
        rw [← hr, ← hw0, ← hw1]
        clear hr hw0 hw1
        go_loop [6] (fun i => ∃ k : Nat, k ≤ r.size ∧ i = .int .i64 k ∧ ∀ j (hj : j < r.size), j < k → r[j] ≠ 58) (fun i => r.size - (intOf i).toNat)
        case atStart => exact ⟨0, by omega, rfl, fun _ _ h => by omega⟩
        case round =>
          obtain ⟨k, hk, rfl, hG⟩ := hrel
          have HG := Lib.hid hG
          clear hG
          by_cases hlt : k < r.size
          · by_cases hc : r[k] = 58
            · have hcb : ((r[k].toNat : Int) == 58) = true := by rw [byte58, hc]; rfl
              have hk1 : (r.extract (k + 1) r.size).size ≤ r.size := by rw [ByteArray.size_extract]; omega
              have hk0 : (r.extract 0 k).size ≤ r.size := by rw [ByteArray.size_extract]; omega
              have HC := Lib.hid (show bts s = pre false ++ (bts (r.extract 0 k) ++ 58 :: bts (r.extract (k + 1) r.size)) by rw [← colon_cut hlt hc]; exact HP.out)
              have HD := Lib.hid (before hk HG.out)
              clear hc HP HG
              rcases C1P.yes_or_no (r.extract (k + 1) r.size) with ⟨n, hY⟩ | hN
              · have HU := Lib.hid (show ∀ o : Fx.Origin, orgB o = true → fmtO o = bts s → o = ⟨false, r.extract 0 k, (n : Int)⟩ from fun o h1 h2 => by
                  have h3 : bts s = pre false ++ (bts (r.extract 0 k) ++ 58 :: Lib.decDigits n) := by rw [HC.out, hY.2]; show pre false ++ (bts (r.extract 0 k) ++ 58 :: bts (str (Lib.decDigits n))) = _; rw [bts_str]
                  rw [po_port h3 HD.out o h1 h2, str_bts])
                have HY := Lib.hid (fun wx : World => C1P.specYes (r.extract (k + 1) r.size) n hY wx)
                have hn : (n : Int) ≤ 1000000000000 := by have := hY.1; omega
                clear hY HC HD
                go_wp2_with fail
                (refine (HY.out _).mono ?_); rintro e w2 ⟨rfl, b2⟩
                replace o_o := owns_below o_o b2
                replace o_r := owns_below o_r b2
                replace HB := HB.trans (b2.mono HB.size)
                have o_oc0 : w2.cell? ⟨(w.heap.size + 1), 0, none⟩ = some (.bool false) := var_load o_o (by simp) 0 _ rfl
                have o_of0 : w2.frozen? ⟨(w.heap.size + 1), 0, none⟩ = false := var_frozen o_o (by simp) 0 _ rfl
                have o_oc1 : w2.cell? ⟨(w.heap.size + 1), 1, none⟩ = some (.string r) := var_load o_o (by simp) 1 _ rfl
                have o_of1 : w2.frozen? ⟨(w.heap.size + 1), 1, none⟩ = false := var_frozen o_o (by simp) 1 _ rfl
                have o_oc2 : w2.cell? ⟨(w.heap.size + 1), 2, none⟩ = some (.int .i64 80) := var_load o_o (by simp) 2 _ rfl
                have o_of2 : w2.frozen? ⟨(w.heap.size + 1), 2, none⟩ = false := var_frozen o_o (by simp) 2 _ rfl
                have o_ol := var_lt o_o
                go_wp2_with fail
                clear o_oc0 o_of0 o_oc1 o_of1 o_oc2 o_of2 o_ol
                obtain ⟨w3, hnew⟩ : ∃ y, y = w2.setCell ⟨(w.heap.size + 1), 1, none⟩ (.string (r.extract 0 k)) := ⟨_, rfl⟩
                obtain ⟨o_o2, t2⟩ := var_some [.string (r.extract 0 k)] 1 _ _ o_o (by simp)
                rw [show setAll w2 (w.heap.size + 1) 1 [.string (r.extract 0 k)] = w3 from hnew.symm] at o_o2 t2
                replace o_o : Owns w3 _ (varD 45 3 [.bool false, .string (r.extract 0 k), .int .i64 80]) _ _ := o_o2
                clear o_o2
                replace o_r := owns_turned o_r t2 (fun b hb hb2 => by simp at hb hb2; omega)
                replace HB := below_turned HB t2 (fun b hb => by simp at hb; omega)
                rw [← hnew]
                clear hnew t2
                obtain ⟨w4, hnew⟩ : ∃ y, y = w3.setCell ⟨(w.heap.size + 1), 2, none⟩ (.int .i64 (n : Int)) := ⟨_, rfl⟩
                obtain ⟨o_o2, t2⟩ := var_some [.int .i64 (n : Int)] 2 _ _ o_o (by simp)
                rw [show setAll w3 (w.heap.size + 1) 2 [.int .i64 (n : Int)] = w4 from hnew.symm] at o_o2 t2
                replace o_o : Owns w4 _ (varD 45 3 [.bool false, .string (r.extract 0 k), .int .i64 (n : Int)]) _ _ := o_o2
                clear o_o2
                replace o_r := owns_turned o_r t2 (fun b hb hb2 => by simp at hb hb2; omega)
                replace HB := below_turned HB t2 (fun b hb => by simp at hb; omega)
                rw [← hnew]
                clear hnew t2
                rcases po_c HU.out with ⟨k1, k2, k3, k4⟩ | ⟨k1, k3, k4⟩
                · obtain ⟨rfl, rfl⟩ : B = true ∧ X = (⟨false, (r.extract 0 k), (n : Int)⟩ : Fx.Origin) := ⟨HQ.out.1.trans k3, HQ.out.2.trans k4⟩
                  clear k3 k4 HQ
                  have HO := Lib.hid (fun wx : World => show Calls Tryz.prog 24 #[.agg #[.bool false, .string (r.extract 0 k), .int .i64 (n : Int)]] wx (Gives (.bool true) wx) from by have h9 := C9b.specOrg wx (⟨false, (r.extract 0 k), (n : Int)⟩ : Fx.Origin) _ Origin.mkR (show (r.extract 0 k).size ≤ 4294967296 by omega); rw [k1] at h9; exact h9)
                  have HT := Lib.hid (fun wx : World => show Calls Tryz.prog 70 #[.agg #[.bool false, .string (r.extract 0 k), .int .i64 (n : Int)]] wx (Gives (.string s) wx) from by have h9 := C9b.specFmtO wx (⟨false, (r.extract 0 k), (n : Int)⟩ : Fx.Origin) _ Origin.mkR (show (r.extract 0 k).size ≤ 4294967296 by omega); rw [show str (fmtO (⟨false, (r.extract 0 k), (n : Int)⟩ : Fx.Origin)) = s by rw [k2, str_bts]] at h9; exact h9)
                  clear k1 k2
                  (refine (HO.out _).mono ?_); rintro e w7 ⟨rfl, b7⟩
                  replace o_o := owns_below o_o b7
                  replace o_r := owns_below o_r b7
                  replace HB := HB.trans (b7.mono HB.size)
                  have o_oc0 : w7.cell? ⟨(w.heap.size + 1), 0, none⟩ = some (.bool false) := var_load o_o (by simp) 0 _ rfl
                  have o_of0 : w7.frozen? ⟨(w.heap.size + 1), 0, none⟩ = false := var_frozen o_o (by simp) 0 _ rfl
                  have o_oc1 : w7.cell? ⟨(w.heap.size + 1), 1, none⟩ = some (.string (r.extract 0 k)) := var_load o_o (by simp) 1 _ rfl
                  have o_of1 : w7.frozen? ⟨(w.heap.size + 1), 1, none⟩ = false := var_frozen o_o (by simp) 1 _ rfl
                  have o_oc2 : w7.cell? ⟨(w.heap.size + 1), 2, none⟩ = some (.int .i64 (n : Int)) := var_load o_o (by simp) 2 _ rfl
                  have o_of2 : w7.frozen? ⟨(w.heap.size + 1), 2, none⟩ = false := var_frozen o_o (by simp) 2 _ rfl
                  have o_ol := var_lt o_o
                  go_wp2_with fail
                  (refine (HT.out _).mono ?_); rintro e w8 ⟨rfl, b8⟩
                  clear o_oc0 o_of0 o_oc1 o_of1 o_oc2 o_of2 o_ol
                  replace o_o := owns_below o_o b8
                  replace o_r := owns_below o_r b8
                  replace HB := HB.trans (b8.mono HB.size)
                  have o_rc0 : w8.cell? ⟨w.heap.size, 0, none⟩ = some (.bool false) := var_load o_r (by simp) 0 _ rfl
                  have o_rf0 : w8.frozen? ⟨w.heap.size, 0, none⟩ = false := var_frozen o_r (by simp) 0 _ rfl
                  have o_rc1 : w8.cell? ⟨w.heap.size, 1, none⟩ = some (.string ⟨#[]⟩) := var_load o_r (by simp) 1 _ rfl
                  have o_rf1 : w8.frozen? ⟨w.heap.size, 1, none⟩ = false := var_frozen o_r (by simp) 1 _ rfl
                  have o_rc2 : w8.cell? ⟨w.heap.size, 2, none⟩ = some (.int .i64 0) := var_load o_r (by simp) 2 _ rfl
                  have o_rf2 : w8.frozen? ⟨w.heap.size, 2, none⟩ = false := var_frozen o_r (by simp) 2 _ rfl
                  have o_rl := var_lt o_r
                  have o_oc0 : w8.cell? ⟨(w.heap.size + 1), 0, none⟩ = some (.bool false) := var_load o_o (by simp) 0 _ rfl
                  have o_of0 : w8.frozen? ⟨(w.heap.size + 1), 0, none⟩ = false := var_frozen o_o (by simp) 0 _ rfl
                  have o_oc1 : w8.cell? ⟨(w.heap.size + 1), 1, none⟩ = some (.string (r.extract 0 k)) := var_load o_o (by simp) 1 _ rfl
                  have o_of1 : w8.frozen? ⟨(w.heap.size + 1), 1, none⟩ = false := var_frozen o_o (by simp) 1 _ rfl
                  have o_oc2 : w8.cell? ⟨(w.heap.size + 1), 2, none⟩ = some (.int .i64 (n : Int)) := var_load o_o (by simp) 2 _ rfl
                  have o_of2 : w8.frozen? ⟨(w.heap.size + 1), 2, none⟩ = false := var_frozen o_o (by simp) 2 _ rfl
                  have o_ol := var_lt o_o
                  go_wp2
                  obtain ⟨wf, hf⟩ : ∃ y, y = (((w8.setCell ⟨w.heap.size, 0, none⟩ (.bool false)).setCell ⟨w.heap.size, 1, none⟩ (.string (r.extract 0 k))).setCell ⟨w.heap.size, 2, none⟩ (.int .i64 (n : Int))) := ⟨_, rfl⟩
                  obtain ⟨o_r2, t2⟩ := var_some [.bool false, .string (r.extract 0 k), .int .i64 (n : Int)] 0 _ _ o_r (by simp)
                  rw [show setAll w8 w.heap.size 0 [.bool false, .string (r.extract 0 k), .int .i64 (n : Int)] = wf from hf.symm] at o_r2 t2
                  have HF := below_turned HB t2 (fun b hb => by simp at hb; omega)
                  clear o_rc0 o_rf0 o_rc1 o_rf1 o_rc2 o_rf2 o_rl
                  have o_r2c0 : wf.cell? ⟨w.heap.size, 0, none⟩ = some (.bool false) := var_load o_r2 (by simp) 0 _ rfl
                  have o_r2c1 : wf.cell? ⟨w.heap.size, 1, none⟩ = some (.string (r.extract 0 k)) := var_load o_r2 (by simp) 1 _ rfl
                  have o_r2c2 : wf.cell? ⟨w.heap.size, 2, none⟩ = some (.int .i64 (n : Int)) := var_load o_r2 (by simp) 2 _ rfl
                  have o_r2l := var_lt o_r2
                  rw [← hf]
                  exact bodyPost_ret (v := .tuple #[.agg #[.bool false, .string (r.extract 0 k), .int .i64 (n : Int)], .bool true]) (by simp [results, Tryz.results25, go_sem, o_r2c0, o_r2c1, o_r2c2]) rfl (made_po ⟨false, (r.extract 0 k), (n : Int)⟩ true HF)
                · obtain ⟨rfl, rfl⟩ : B = false ∧ X = ⟨false, ⟨#[]⟩, 0⟩ := ⟨HQ.out.1.trans k3, HQ.out.2.trans k4⟩
                  clear k3 k4 HQ
                  cases k5 : orgB (⟨false, (r.extract 0 k), (n : Int)⟩ : Fx.Origin) with
                  | false =>
                    have HO := Lib.hid (fun wx : World => show Calls Tryz.prog 24 #[.agg #[.bool false, .string (r.extract 0 k), .int .i64 (n : Int)]] wx (Gives (.bool false) wx) from by have h9 := C9b.specOrg wx (⟨false, (r.extract 0 k), (n : Int)⟩ : Fx.Origin) _ Origin.mkR (show (r.extract 0 k).size ≤ 4294967296 by omega); rw [k5] at h9; exact h9)
                    clear k1 k5
                    (refine (HO.out _).mono ?_); rintro e w7 ⟨rfl, b7⟩
                    replace o_o := owns_below o_o b7
                    replace o_r := owns_below o_r b7
                    replace HB := HB.trans (b7.mono HB.size)
                    have o_rc0 : w7.cell? ⟨w.heap.size, 0, none⟩ = some (.bool false) := var_load o_r (by simp) 0 _ rfl
                    have o_rf0 : w7.frozen? ⟨w.heap.size, 0, none⟩ = false := var_frozen o_r (by simp) 0 _ rfl
                    have o_rc1 : w7.cell? ⟨w.heap.size, 1, none⟩ = some (.string ⟨#[]⟩) := var_load o_r (by simp) 1 _ rfl
                    have o_rf1 : w7.frozen? ⟨w.heap.size, 1, none⟩ = false := var_frozen o_r (by simp) 1 _ rfl
                    have o_rc2 : w7.cell? ⟨w.heap.size, 2, none⟩ = some (.int .i64 0) := var_load o_r (by simp) 2 _ rfl
                    have o_rf2 : w7.frozen? ⟨w.heap.size, 2, none⟩ = false := var_frozen o_r (by simp) 2 _ rfl
                    have o_rl := var_lt o_r
                    go_wp2
                    obtain ⟨wf, hf⟩ : ∃ y, y = (((w7.setCell ⟨w.heap.size, 0, none⟩ (.bool false)).setCell ⟨w.heap.size, 1, none⟩ (.string ⟨#[]⟩)).setCell ⟨w.heap.size, 2, none⟩ (.int .i64 0)) := ⟨_, rfl⟩
                    obtain ⟨o_r2, t2⟩ := var_some [.bool false, .string ⟨#[]⟩, .int .i64 0] 0 _ _ o_r (by simp)
                    rw [show setAll w7 w.heap.size 0 [.bool false, .string ⟨#[]⟩, .int .i64 0] = wf from hf.symm] at o_r2 t2
                    have HF := below_turned HB t2 (fun b hb => by simp at hb; omega)
                    clear o_rc0 o_rf0 o_rc1 o_rf1 o_rc2 o_rf2 o_rl
                    have o_r2c0 : wf.cell? ⟨w.heap.size, 0, none⟩ = some (.bool false) := var_load o_r2 (by simp) 0 _ rfl
                    have o_r2c1 : wf.cell? ⟨w.heap.size, 1, none⟩ = some (.string ⟨#[]⟩) := var_load o_r2 (by simp) 1 _ rfl
                    have o_r2c2 : wf.cell? ⟨w.heap.size, 2, none⟩ = some (.int .i64 0) := var_load o_r2 (by simp) 2 _ rfl
                    have o_r2l := var_lt o_r2
                    rw [← hf]
                    exact bodyPost_ret (v := .tuple #[.agg #[.bool false, .string ⟨#[]⟩, .int .i64 0], .bool false]) (by simp [results, Tryz.results25, go_sem, o_r2c0, o_r2c1, o_r2c2]) rfl (made_po ⟨false, ⟨#[]⟩, 0⟩ false HF)
                  | true =>
                    have HO := Lib.hid (fun wx : World => show Calls Tryz.prog 24 #[.agg #[.bool false, .string (r.extract 0 k), .int .i64 (n : Int)]] wx (Gives (.bool true) wx) from by have h9 := C9b.specOrg wx (⟨false, (r.extract 0 k), (n : Int)⟩ : Fx.Origin) _ Origin.mkR (show (r.extract 0 k).size ≤ 4294967296 by omega); rw [k5] at h9; exact h9)
                    obtain ⟨t, ht⟩ : ∃ t, t = str (fmtO (⟨false, (r.extract 0 k), (n : Int)⟩ : Fx.Origin)) := ⟨_, rfl⟩
                    have HT := Lib.hid (fun wx : World => show Calls Tryz.prog 70 #[.agg #[.bool false, .string (r.extract 0 k), .int .i64 (n : Int)]] wx (Gives (.string t) wx) from by have h9 := C9b.specFmtO wx (⟨false, (r.extract 0 k), (n : Int)⟩ : Fx.Origin) _ Origin.mkR (show (r.extract 0 k).size ≤ 4294967296 by omega); rw [← ht] at h9; exact h9)
                    have hne : (t.toList == s.toList) = false := by
                      rcases k1 with k1 | k1
                      · rw [k5] at k1; cases k1
                      · rw [toList_bts, toList_bts, ht, bts_str]; simpa using k1
                    clear k1 k5 ht
                    (refine (HO.out _).mono ?_); rintro e w7 ⟨rfl, b7⟩
                    replace o_o := owns_below o_o b7
                    replace o_r := owns_below o_r b7
                    replace HB := HB.trans (b7.mono HB.size)
                    have o_oc0 : w7.cell? ⟨(w.heap.size + 1), 0, none⟩ = some (.bool false) := var_load o_o (by simp) 0 _ rfl
                    have o_of0 : w7.frozen? ⟨(w.heap.size + 1), 0, none⟩ = false := var_frozen o_o (by simp) 0 _ rfl
                    have o_oc1 : w7.cell? ⟨(w.heap.size + 1), 1, none⟩ = some (.string (r.extract 0 k)) := var_load o_o (by simp) 1 _ rfl
                    have o_of1 : w7.frozen? ⟨(w.heap.size + 1), 1, none⟩ = false := var_frozen o_o (by simp) 1 _ rfl
                    have o_oc2 : w7.cell? ⟨(w.heap.size + 1), 2, none⟩ = some (.int .i64 (n : Int)) := var_load o_o (by simp) 2 _ rfl
                    have o_of2 : w7.frozen? ⟨(w.heap.size + 1), 2, none⟩ = false := var_frozen o_o (by simp) 2 _ rfl
                    have o_ol := var_lt o_o
                    go_wp2_with fail
                    (refine (HT.out _).mono ?_); rintro e w8 ⟨rfl, b8⟩
                    clear o_oc0 o_of0 o_oc1 o_of1 o_oc2 o_of2 o_ol
                    replace o_o := owns_below o_o b8
                    replace o_r := owns_below o_r b8
                    replace HB := HB.trans (b8.mono HB.size)
                    have o_rc0 : w8.cell? ⟨w.heap.size, 0, none⟩ = some (.bool false) := var_load o_r (by simp) 0 _ rfl
                    have o_rf0 : w8.frozen? ⟨w.heap.size, 0, none⟩ = false := var_frozen o_r (by simp) 0 _ rfl
                    have o_rc1 : w8.cell? ⟨w.heap.size, 1, none⟩ = some (.string ⟨#[]⟩) := var_load o_r (by simp) 1 _ rfl
                    have o_rf1 : w8.frozen? ⟨w.heap.size, 1, none⟩ = false := var_frozen o_r (by simp) 1 _ rfl
                    have o_rc2 : w8.cell? ⟨w.heap.size, 2, none⟩ = some (.int .i64 0) := var_load o_r (by simp) 2 _ rfl
                    have o_rf2 : w8.frozen? ⟨w.heap.size, 2, none⟩ = false := var_frozen o_r (by simp) 2 _ rfl
                    have o_rl := var_lt o_r
                    go_wp2
                    obtain ⟨wf, hf⟩ : ∃ y, y = (((w8.setCell ⟨w.heap.size, 0, none⟩ (.bool false)).setCell ⟨w.heap.size, 1, none⟩ (.string ⟨#[]⟩)).setCell ⟨w.heap.size, 2, none⟩ (.int .i64 0)) := ⟨_, rfl⟩
                    obtain ⟨o_r2, t2⟩ := var_some [.bool false, .string ⟨#[]⟩, .int .i64 0] 0 _ _ o_r (by simp)
                    rw [show setAll w8 w.heap.size 0 [.bool false, .string ⟨#[]⟩, .int .i64 0] = wf from hf.symm] at o_r2 t2
                    have HF := below_turned HB t2 (fun b hb => by simp at hb; omega)
                    clear o_rc0 o_rf0 o_rc1 o_rf1 o_rc2 o_rf2 o_rl
                    have o_r2c0 : wf.cell? ⟨w.heap.size, 0, none⟩ = some (.bool false) := var_load o_r2 (by simp) 0 _ rfl
                    have o_r2c1 : wf.cell? ⟨w.heap.size, 1, none⟩ = some (.string ⟨#[]⟩) := var_load o_r2 (by simp) 1 _ rfl
                    have o_r2c2 : wf.cell? ⟨w.heap.size, 2, none⟩ = some (.int .i64 0) := var_load o_r2 (by simp) 2 _ rfl
                    have o_r2l := var_lt o_r2
                    rw [← hf]
                    exact bodyPost_ret (v := .tuple #[.agg #[.bool false, .string ⟨#[]⟩, .int .i64 0], .bool false]) (by simp [results, Tryz.results25, go_sem, o_r2c0, o_r2c1, o_r2c2]) rfl (made_po ⟨false, ⟨#[]⟩, 0⟩ false HF)
              · obtain ⟨rfl, rfl⟩ : B = false ∧ X = ⟨false, ⟨#[]⟩, 0⟩ := by
                  have h4 := po_f (po_noport HC.out HD.out (by rw [str_bts]; exact hN))
                  exact ⟨HQ.out.1.trans h4.1, HQ.out.2.trans h4.2⟩
                have HY := Lib.hid (fun wx : World => C1P.specNo (r.extract (k + 1) r.size) hN wx (by omega))
                clear hN HC HD HQ
                go_wp2_with fail
                (refine (HY.out _).mono ?_); rintro e w2 ⟨rfl, b2⟩
                replace o_r := owns_below o_r b2
                replace HB := HB.trans (b2.mono HB.size)
                have o_rc0 : w2.cell? ⟨w.heap.size, 0, none⟩ = some (.bool false) := var_load o_r (by simp) 0 _ rfl
                have o_rf0 : w2.frozen? ⟨w.heap.size, 0, none⟩ = false := var_frozen o_r (by simp) 0 _ rfl
                have o_rc1 : w2.cell? ⟨w.heap.size, 1, none⟩ = some (.string ⟨#[]⟩) := var_load o_r (by simp) 1 _ rfl
                have o_rf1 : w2.frozen? ⟨w.heap.size, 1, none⟩ = false := var_frozen o_r (by simp) 1 _ rfl
                have o_rc2 : w2.cell? ⟨w.heap.size, 2, none⟩ = some (.int .i64 0) := var_load o_r (by simp) 2 _ rfl
                have o_rf2 : w2.frozen? ⟨w.heap.size, 2, none⟩ = false := var_frozen o_r (by simp) 2 _ rfl
                have o_rl := var_lt o_r
                go_wp2
                obtain ⟨wf, hf⟩ : ∃ y, y = (((w2.setCell ⟨w.heap.size, 0, none⟩ (.bool false)).setCell ⟨w.heap.size, 1, none⟩ (.string ⟨#[]⟩)).setCell ⟨w.heap.size, 2, none⟩ (.int .i64 0)) := ⟨_, rfl⟩
                obtain ⟨o_r2, t2⟩ := var_some [.bool false, .string ⟨#[]⟩, .int .i64 0] 0 _ _ o_r (by simp)
                rw [show setAll w2 w.heap.size 0 [.bool false, .string ⟨#[]⟩, .int .i64 0] = wf from hf.symm] at o_r2 t2
                have HF := below_turned HB t2 (fun b hb => by simp at hb; omega)
                clear o_rc0 o_rf0 o_rc1 o_rf1 o_rc2 o_rf2 o_rl
                have o_r2c0 : wf.cell? ⟨w.heap.size, 0, none⟩ = some (.bool false) := var_load o_r2 (by simp) 0 _ rfl
                have o_r2c1 : wf.cell? ⟨w.heap.size, 1, none⟩ = some (.string ⟨#[]⟩) := var_load o_r2 (by simp) 1 _ rfl
                have o_r2c2 : wf.cell? ⟨w.heap.size, 2, none⟩ = some (.int .i64 0) := var_load o_r2 (by simp) 2 _ rfl
                have o_r2l := var_lt o_r2
                rw [← hf]
                exact bodyPost_ret (v := .tuple #[.agg #[.bool false, .string ⟨#[]⟩, .int .i64 0], .bool false]) (by simp [results, Tryz.results25, go_sem, o_r2c0, o_r2c1, o_r2c2]) rfl (made_po ⟨false, ⟨#[]⟩, 0⟩ false HF)
            · have hcb : ((r[k].toNat : Int) == 58) = false := by rw [byte58]; simpa using hc
              go_wp2
              go_round
              case rel =>
                refine ⟨k + 1, by omega, by go_num, fun j hj hjk => ?_⟩
                by_cases h : j < k
                · exact HG.out j hj h
                · obtain rfl : j = k := by omega
                  exact hc
              case measure => simp [intOf]; omega
          · obtain rfl : k = r.size := by omega
            have HU := Lib.hid (show ∀ o : Fx.Origin, orgB o = true → fmtO o = bts s → o = ⟨false, r, (80 : Int)⟩ from fun o h1 h2 => by
              have h3 := before (Nat.le_refl r.size) HG.out
              rw [show r.extract 0 r.size = r from ByteArray.extract_zero_size] at h3
              rw [po_plain HP.out h3 o h1 h2, str_bts]; rfl)
            clear HG HP
            have o_oc0 : w1.cell? ⟨(w.heap.size + 1), 0, none⟩ = some (.bool false) := var_load o_o (by simp) 0 _ rfl
            have o_of0 : w1.frozen? ⟨(w.heap.size + 1), 0, none⟩ = false := var_frozen o_o (by simp) 0 _ rfl
            have o_oc1 : w1.cell? ⟨(w.heap.size + 1), 1, none⟩ = some (.string r) := var_load o_o (by simp) 1 _ rfl
            have o_of1 : w1.frozen? ⟨(w.heap.size + 1), 1, none⟩ = false := var_frozen o_o (by simp) 1 _ rfl
            have o_oc2 : w1.cell? ⟨(w.heap.size + 1), 2, none⟩ = some (.int .i64 80) := var_load o_o (by simp) 2 _ rfl
            have o_of2 : w1.frozen? ⟨(w.heap.size + 1), 2, none⟩ = false := var_frozen o_o (by simp) 2 _ rfl
            have o_ol := var_lt o_o
            go_wp2_with fail
            clear o_oc0 o_of0 o_oc1 o_of1 o_oc2 o_of2 o_ol
            rcases po_c HU.out with ⟨k1, k2, k3, k4⟩ | ⟨k1, k3, k4⟩
            · obtain ⟨rfl, rfl⟩ : B = true ∧ X = (⟨false, r, 80⟩ : Fx.Origin) := ⟨HQ.out.1.trans k3, HQ.out.2.trans k4⟩
              clear k3 k4 HQ
              have HO := Lib.hid (fun wx : World => show Calls Tryz.prog 24 #[.agg #[.bool false, .string r, .int .i64 80]] wx (Gives (.bool true) wx) from by have h9 := C9b.specOrg wx (⟨false, r, 80⟩ : Fx.Origin) _ Origin.mkR (show r.size ≤ 4294967296 by omega); rw [k1] at h9; exact h9)
              have HT := Lib.hid (fun wx : World => show Calls Tryz.prog 70 #[.agg #[.bool false, .string r, .int .i64 80]] wx (Gives (.string s) wx) from by have h9 := C9b.specFmtO wx (⟨false, r, 80⟩ : Fx.Origin) _ Origin.mkR (show r.size ≤ 4294967296 by omega); rw [show str (fmtO (⟨false, r, 80⟩ : Fx.Origin)) = s by rw [k2, str_bts]] at h9; exact h9)
              clear k1 k2
              (refine (HO.out _).mono ?_); rintro e w7 ⟨rfl, b7⟩
              replace o_o := owns_below o_o b7
              replace o_r := owns_below o_r b7
              replace HB := HB.trans (b7.mono HB.size)
              have o_oc0 : w7.cell? ⟨(w.heap.size + 1), 0, none⟩ = some (.bool false) := var_load o_o (by simp) 0 _ rfl
              have o_of0 : w7.frozen? ⟨(w.heap.size + 1), 0, none⟩ = false := var_frozen o_o (by simp) 0 _ rfl
              have o_oc1 : w7.cell? ⟨(w.heap.size + 1), 1, none⟩ = some (.string r) := var_load o_o (by simp) 1 _ rfl
              have o_of1 : w7.frozen? ⟨(w.heap.size + 1), 1, none⟩ = false := var_frozen o_o (by simp) 1 _ rfl
              have o_oc2 : w7.cell? ⟨(w.heap.size + 1), 2, none⟩ = some (.int .i64 80) := var_load o_o (by simp) 2 _ rfl
              have o_of2 : w7.frozen? ⟨(w.heap.size + 1), 2, none⟩ = false := var_frozen o_o (by simp) 2 _ rfl
              have o_ol := var_lt o_o
              go_wp2_with fail
              (refine (HT.out _).mono ?_); rintro e w8 ⟨rfl, b8⟩
              clear o_oc0 o_of0 o_oc1 o_of1 o_oc2 o_of2 o_ol
              replace o_o := owns_below o_o b8
              replace o_r := owns_below o_r b8
              replace HB := HB.trans (b8.mono HB.size)
              have o_rc0 : w8.cell? ⟨w.heap.size, 0, none⟩ = some (.bool false) := var_load o_r (by simp) 0 _ rfl
              have o_rf0 : w8.frozen? ⟨w.heap.size, 0, none⟩ = false := var_frozen o_r (by simp) 0 _ rfl
              have o_rc1 : w8.cell? ⟨w.heap.size, 1, none⟩ = some (.string ⟨#[]⟩) := var_load o_r (by simp) 1 _ rfl
              have o_rf1 : w8.frozen? ⟨w.heap.size, 1, none⟩ = false := var_frozen o_r (by simp) 1 _ rfl
              have o_rc2 : w8.cell? ⟨w.heap.size, 2, none⟩ = some (.int .i64 0) := var_load o_r (by simp) 2 _ rfl
              have o_rf2 : w8.frozen? ⟨w.heap.size, 2, none⟩ = false := var_frozen o_r (by simp) 2 _ rfl
              have o_rl := var_lt o_r
              have o_oc0 : w8.cell? ⟨(w.heap.size + 1), 0, none⟩ = some (.bool false) := var_load o_o (by simp) 0 _ rfl
              have o_of0 : w8.frozen? ⟨(w.heap.size + 1), 0, none⟩ = false := var_frozen o_o (by simp) 0 _ rfl
              have o_oc1 : w8.cell? ⟨(w.heap.size + 1), 1, none⟩ = some (.string r) := var_load o_o (by simp) 1 _ rfl
              have o_of1 : w8.frozen? ⟨(w.heap.size + 1), 1, none⟩ = false := var_frozen o_o (by simp) 1 _ rfl
              have o_oc2 : w8.cell? ⟨(w.heap.size + 1), 2, none⟩ = some (.int .i64 80) := var_load o_o (by simp) 2 _ rfl
              have o_of2 : w8.frozen? ⟨(w.heap.size + 1), 2, none⟩ = false := var_frozen o_o (by simp) 2 _ rfl
              have o_ol := var_lt o_o
              go_wp2
              obtain ⟨wf, hf⟩ : ∃ y, y = (((w8.setCell ⟨w.heap.size, 0, none⟩ (.bool false)).setCell ⟨w.heap.size, 1, none⟩ (.string r)).setCell ⟨w.heap.size, 2, none⟩ (.int .i64 80)) := ⟨_, rfl⟩
              obtain ⟨o_r2, t2⟩ := var_some [.bool false, .string r, .int .i64 80] 0 _ _ o_r (by simp)
              rw [show setAll w8 w.heap.size 0 [.bool false, .string r, .int .i64 80] = wf from hf.symm] at o_r2 t2
              have HF := below_turned HB t2 (fun b hb => by simp at hb; omega)
              clear o_rc0 o_rf0 o_rc1 o_rf1 o_rc2 o_rf2 o_rl
              have o_r2c0 : wf.cell? ⟨w.heap.size, 0, none⟩ = some (.bool false) := var_load o_r2 (by simp) 0 _ rfl
              have o_r2c1 : wf.cell? ⟨w.heap.size, 1, none⟩ = some (.string r) := var_load o_r2 (by simp) 1 _ rfl
              have o_r2c2 : wf.cell? ⟨w.heap.size, 2, none⟩ = some (.int .i64 80) := var_load o_r2 (by simp) 2 _ rfl
              have o_r2l := var_lt o_r2
              rw [← hf]
              exact bodyPost_ret (v := .tuple #[.agg #[.bool false, .string r, .int .i64 80], .bool true]) (by simp [results, Tryz.results25, go_sem, o_r2c0, o_r2c1, o_r2c2]) rfl (made_po ⟨false, r, 80⟩ true HF)
            · obtain ⟨rfl, rfl⟩ : B = false ∧ X = ⟨false, ⟨#[]⟩, 0⟩ := ⟨HQ.out.1.trans k3, HQ.out.2.trans k4⟩
              clear k3 k4 HQ
              cases k5 : orgB (⟨false, r, 80⟩ : Fx.Origin) with
              | false =>
                have HO := Lib.hid (fun wx : World => show Calls Tryz.prog 24 #[.agg #[.bool false, .string r, .int .i64 80]] wx (Gives (.bool false) wx) from by have h9 := C9b.specOrg wx (⟨false, r, 80⟩ : Fx.Origin) _ Origin.mkR (show r.size ≤ 4294967296 by omega); rw [k5] at h9; exact h9)
                clear k1 k5
                (refine (HO.out _).mono ?_); rintro e w7 ⟨rfl, b7⟩
                replace o_o := owns_below o_o b7
                replace o_r := owns_below o_r b7
                replace HB := HB.trans (b7.mono HB.size)
                have o_rc0 : w7.cell? ⟨w.heap.size, 0, none⟩ = some (.bool false) := var_load o_r (by simp) 0 _ rfl
                have o_rf0 : w7.frozen? ⟨w.heap.size, 0, none⟩ = false := var_frozen o_r (by simp) 0 _ rfl
                have o_rc1 : w7.cell? ⟨w.heap.size, 1, none⟩ = some (.string ⟨#[]⟩) := var_load o_r (by simp) 1 _ rfl
                have o_rf1 : w7.frozen? ⟨w.heap.size, 1, none⟩ = false := var_frozen o_r (by simp) 1 _ rfl
                have o_rc2 : w7.cell? ⟨w.heap.size, 2, none⟩ = some (.int .i64 0) := var_load o_r (by simp) 2 _ rfl
                have o_rf2 : w7.frozen? ⟨w.heap.size, 2, none⟩ = false := var_frozen o_r (by simp) 2 _ rfl
                have o_rl := var_lt o_r
                go_wp2
                obtain ⟨wf, hf⟩ : ∃ y, y = (((w7.setCell ⟨w.heap.size, 0, none⟩ (.bool false)).setCell ⟨w.heap.size, 1, none⟩ (.string ⟨#[]⟩)).setCell ⟨w.heap.size, 2, none⟩ (.int .i64 0)) := ⟨_, rfl⟩
                obtain ⟨o_r2, t2⟩ := var_some [.bool false, .string ⟨#[]⟩, .int .i64 0] 0 _ _ o_r (by simp)
                rw [show setAll w7 w.heap.size 0 [.bool false, .string ⟨#[]⟩, .int .i64 0] = wf from hf.symm] at o_r2 t2
                have HF := below_turned HB t2 (fun b hb => by simp at hb; omega)
                clear o_rc0 o_rf0 o_rc1 o_rf1 o_rc2 o_rf2 o_rl
                have o_r2c0 : wf.cell? ⟨w.heap.size, 0, none⟩ = some (.bool false) := var_load o_r2 (by simp) 0 _ rfl
                have o_r2c1 : wf.cell? ⟨w.heap.size, 1, none⟩ = some (.string ⟨#[]⟩) := var_load o_r2 (by simp) 1 _ rfl
                have o_r2c2 : wf.cell? ⟨w.heap.size, 2, none⟩ = some (.int .i64 0) := var_load o_r2 (by simp) 2 _ rfl
                have o_r2l := var_lt o_r2
                rw [← hf]
                exact bodyPost_ret (v := .tuple #[.agg #[.bool false, .string ⟨#[]⟩, .int .i64 0], .bool false]) (by simp [results, Tryz.results25, go_sem, o_r2c0, o_r2c1, o_r2c2]) rfl (made_po ⟨false, ⟨#[]⟩, 0⟩ false HF)
              | true =>
                have HO := Lib.hid (fun wx : World => show Calls Tryz.prog 24 #[.agg #[.bool false, .string r, .int .i64 80]] wx (Gives (.bool true) wx) from by have h9 := C9b.specOrg wx (⟨false, r, 80⟩ : Fx.Origin) _ Origin.mkR (show r.size ≤ 4294967296 by omega); rw [k5] at h9; exact h9)
                obtain ⟨t, ht⟩ : ∃ t, t = str (fmtO (⟨false, r, 80⟩ : Fx.Origin)) := ⟨_, rfl⟩
                have HT := Lib.hid (fun wx : World => show Calls Tryz.prog 70 #[.agg #[.bool false, .string r, .int .i64 80]] wx (Gives (.string t) wx) from by have h9 := C9b.specFmtO wx (⟨false, r, 80⟩ : Fx.Origin) _ Origin.mkR (show r.size ≤ 4294967296 by omega); rw [← ht] at h9; exact h9)
                have hne : (t.toList == s.toList) = false := by
                  rcases k1 with k1 | k1
                  · rw [k5] at k1; cases k1
                  · rw [toList_bts, toList_bts, ht, bts_str]; simpa using k1
                clear k1 k5 ht
                (refine (HO.out _).mono ?_); rintro e w7 ⟨rfl, b7⟩
                replace o_o := owns_below o_o b7
                replace o_r := owns_below o_r b7
                replace HB := HB.trans (b7.mono HB.size)
                have o_oc0 : w7.cell? ⟨(w.heap.size + 1), 0, none⟩ = some (.bool false) := var_load o_o (by simp) 0 _ rfl
                have o_of0 : w7.frozen? ⟨(w.heap.size + 1), 0, none⟩ = false := var_frozen o_o (by simp) 0 _ rfl
                have o_oc1 : w7.cell? ⟨(w.heap.size + 1), 1, none⟩ = some (.string r) := var_load o_o (by simp) 1 _ rfl
                have o_of1 : w7.frozen? ⟨(w.heap.size + 1), 1, none⟩ = false := var_frozen o_o (by simp) 1 _ rfl
                have o_oc2 : w7.cell? ⟨(w.heap.size + 1), 2, none⟩ = some (.int .i64 80) := var_load o_o (by simp) 2 _ rfl
                have o_of2 : w7.frozen? ⟨(w.heap.size + 1), 2, none⟩ = false := var_frozen o_o (by simp) 2 _ rfl
                have o_ol := var_lt o_o
                go_wp2_with fail
                (refine (HT.out _).mono ?_); rintro e w8 ⟨rfl, b8⟩
                clear o_oc0 o_of0 o_oc1 o_of1 o_oc2 o_of2 o_ol
                replace o_o := owns_below o_o b8
                replace o_r := owns_below o_r b8
                replace HB := HB.trans (b8.mono HB.size)
                have o_rc0 : w8.cell? ⟨w.heap.size, 0, none⟩ = some (.bool false) := var_load o_r (by simp) 0 _ rfl
                have o_rf0 : w8.frozen? ⟨w.heap.size, 0, none⟩ = false := var_frozen o_r (by simp) 0 _ rfl
                have o_rc1 : w8.cell? ⟨w.heap.size, 1, none⟩ = some (.string ⟨#[]⟩) := var_load o_r (by simp) 1 _ rfl
                have o_rf1 : w8.frozen? ⟨w.heap.size, 1, none⟩ = false := var_frozen o_r (by simp) 1 _ rfl
                have o_rc2 : w8.cell? ⟨w.heap.size, 2, none⟩ = some (.int .i64 0) := var_load o_r (by simp) 2 _ rfl
                have o_rf2 : w8.frozen? ⟨w.heap.size, 2, none⟩ = false := var_frozen o_r (by simp) 2 _ rfl
                have o_rl := var_lt o_r
                go_wp2
                obtain ⟨wf, hf⟩ : ∃ y, y = (((w8.setCell ⟨w.heap.size, 0, none⟩ (.bool false)).setCell ⟨w.heap.size, 1, none⟩ (.string ⟨#[]⟩)).setCell ⟨w.heap.size, 2, none⟩ (.int .i64 0)) := ⟨_, rfl⟩
                obtain ⟨o_r2, t2⟩ := var_some [.bool false, .string ⟨#[]⟩, .int .i64 0] 0 _ _ o_r (by simp)
                rw [show setAll w8 w.heap.size 0 [.bool false, .string ⟨#[]⟩, .int .i64 0] = wf from hf.symm] at o_r2 t2
                have HF := below_turned HB t2 (fun b hb => by simp at hb; omega)
                clear o_rc0 o_rf0 o_rc1 o_rf1 o_rc2 o_rf2 o_rl
                have o_r2c0 : wf.cell? ⟨w.heap.size, 0, none⟩ = some (.bool false) := var_load o_r2 (by simp) 0 _ rfl
                have o_r2c1 : wf.cell? ⟨w.heap.size, 1, none⟩ = some (.string ⟨#[]⟩) := var_load o_r2 (by simp) 1 _ rfl
                have o_r2c2 : wf.cell? ⟨w.heap.size, 2, none⟩ = some (.int .i64 0) := var_load o_r2 (by simp) 2 _ rfl
                have o_r2l := var_lt o_r2
                rw [← hf]
                exact bodyPost_ret (v := .tuple #[.agg #[.bool false, .string ⟨#[]⟩, .int .i64 0], .bool false]) (by simp [results, Tryz.results25, go_sem, o_r2c0, o_r2c1, o_r2c2]) rfl (made_po ⟨false, ⟨#[]⟩, 0⟩ false HF)
      · clear hA
        go_enter Tryz.func25, Tryz.ntmps25
        go_wp2_with fail
        rw [← hr, ← hw0, ← hw1]
        clear hr hw0 hw1
        go_loop [6] (fun i => ∃ k : Nat, k ≤ r.size ∧ i = .int .i64 k ∧ ∀ j (hj : j < r.size), j < k → r[j] ≠ 58) (fun i => r.size - (intOf i).toNat)
        case atStart => exact ⟨0, by omega, rfl, fun _ _ h => by omega⟩
        case round =>
          obtain ⟨k, hk, rfl, hG⟩ := hrel
          have HG := Lib.hid hG
          clear hG
          by_cases hlt : k < r.size
          · by_cases hc : r[k] = 58
            · have hcb : ((r[k].toNat : Int) == 58) = true := by rw [byte58, hc]; rfl
              have hk1 : (r.extract (k + 1) r.size).size ≤ r.size := by rw [ByteArray.size_extract]; omega
              have hk0 : (r.extract 0 k).size ≤ r.size := by rw [ByteArray.size_extract]; omega
              have HC := Lib.hid (show bts s = pre false ++ (bts (r.extract 0 k) ++ 58 :: bts (r.extract (k + 1) r.size)) by rw [← colon_cut hlt hc]; exact HP.out)
              have HD := Lib.hid (before hk HG.out)
              clear hc HP HG
              rcases C1P.yes_or_no (r.extract (k + 1) r.size) with ⟨n, hY⟩ | hN
              · have HU := Lib.hid (show ∀ o : Fx.Origin, orgB o = true → fmtO o = bts s → o = ⟨false, r.extract 0 k, (n : Int)⟩ from fun o h1 h2 => by
                  have h3 : bts s = pre false ++ (bts (r.extract 0 k) ++ 58 :: Lib.decDigits n) := by rw [HC.out, hY.2]; show pre false ++ (bts (r.extract 0 k) ++ 58 :: bts (str (Lib.decDigits n))) = _; rw [bts_str]
                  rw [po_port h3 HD.out o h1 h2, str_bts])
                have HY := Lib.hid (fun wx : World => C1P.specYes (r.extract (k + 1) r.size) n hY wx)
                have hn : (n : Int) ≤ 1000000000000 := by have := hY.1; omega
                clear hY HC HD
                go_wp2_with fail
                (refine (HY.out _).mono ?_); rintro e w2 ⟨rfl, b2⟩
                replace o_o := owns_below o_o b2
                replace o_r := owns_below o_r b2
                replace HB := HB.trans (b2.mono HB.size)
                have o_oc0 : w2.cell? ⟨(w.heap.size + 1), 0, none⟩ = some (.bool false) := var_load o_o (by simp) 0 _ rfl
                have o_of0 : w2.frozen? ⟨(w.heap.size + 1), 0, none⟩ = false := var_frozen o_o (by simp) 0 _ rfl
                have o_oc1 : w2.cell? ⟨(w.heap.size + 1), 1, none⟩ = some (.string r) := var_load o_o (by simp) 1 _ rfl
                have o_of1 : w2.frozen? ⟨(w.heap.size + 1), 1, none⟩ = false := var_frozen o_o (by simp) 1 _ rfl
                have o_oc2 : w2.cell? ⟨(w.heap.size + 1), 2, none⟩ = some (.int .i64 80) := var_load o_o (by simp) 2 _ rfl
                have o_of2 : w2.frozen? ⟨(w.heap.size + 1), 2, none⟩ = false := var_frozen o_o (by simp) 2 _ rfl
                have o_ol := var_lt o_o
                go_wp2_with fail
                clear o_oc0 o_of0 o_oc1 o_of1 o_oc2 o_of2 o_ol
                obtain ⟨w3, hnew⟩ : ∃ y, y = w2.setCell ⟨(w.heap.size + 1), 1, none⟩ (.string (r.extract 0 k)) := ⟨_, rfl⟩
                obtain ⟨o_o2, t2⟩ := var_some [.string (r.extract 0 k)] 1 _ _ o_o (by simp)
                rw [show setAll w2 (w.heap.size + 1) 1 [.string (r.extract 0 k)] = w3 from hnew.symm] at o_o2 t2
                replace o_o : Owns w3 _ (varD 45 3 [.bool false, .string (r.extract 0 k), .int .i64 80]) _ _ := o_o2
                clear o_o2
                replace o_r := owns_turned o_r t2 (fun b hb hb2 => by simp at hb hb2; omega)
                replace HB := below_turned HB t2 (fun b hb => by simp at hb; omega)
                rw [← hnew]
                clear hnew t2
                obtain ⟨w4, hnew⟩ : ∃ y, y = w3.setCell ⟨(w.heap.size + 1), 2, none⟩ (.int .i64 (n : Int)) := ⟨_, rfl⟩
                obtain ⟨o_o2, t2⟩ := var_some [.int .i64 (n : Int)] 2 _ _ o_o (by simp)
                rw [show setAll w3 (w.heap.size + 1) 2 [.int .i64 (n : Int)] = w4 from hnew.symm] at o_o2 t2
                replace o_o : Owns w4 _ (varD 45 3 [.bool false, .string (r.extract 0 k), .int .i64 (n : Int)]) _ _ := o_o2
                clear o_o2
                replace o_r := owns_turned o_r t2 (fun b hb hb2 => by simp at hb hb2; omega)
                replace HB := below_turned HB t2 (fun b hb => by simp at hb; omega)
                rw [← hnew]
                clear hnew t2
                rcases po_c HU.out with ⟨k1, k2, k3, k4⟩ | ⟨k1, k3, k4⟩
                · obtain ⟨rfl, rfl⟩ : B = true ∧ X = (⟨false, (r.extract 0 k), (n : Int)⟩ : Fx.Origin) := ⟨HQ.out.1.trans k3, HQ.out.2.trans k4⟩
                  clear k3 k4 HQ
                  have HO := Lib.hid (fun wx : World => show Calls Tryz.prog 24 #[.agg #[.bool false, .string (r.extract 0 k), .int .i64 (n : Int)]] wx (Gives (.bool true) wx) from by have h9 := C9b.specOrg wx (⟨false, (r.extract 0 k), (n : Int)⟩ : Fx.Origin) _ Origin.mkR (show (r.extract 0 k).size ≤ 4294967296 by omega); rw [k1] at h9; exact h9)
                  have HT := Lib.hid (fun wx : World => show Calls Tryz.prog 70 #[.agg #[.bool false, .string (r.extract 0 k), .int .i64 (n : Int)]] wx (Gives (.string s) wx) from by have h9 := C9b.specFmtO wx (⟨false, (r.extract 0 k), (n : Int)⟩ : Fx.Origin) _ Origin.mkR (show (r.extract 0 k).size ≤ 4294967296 by omega); rw [show str (fmtO (⟨false, (r.extract 0 k), (n : Int)⟩ : Fx.Origin)) = s by rw [k2, str_bts]] at h9; exact h9)
                  clear k1 k2
                  (refine (HO.out _).mono ?_); rintro e w7 ⟨rfl, b7⟩
                  replace o_o := owns_below o_o b7
                  replace o_r := owns_below o_r b7
                  replace HB := HB.trans (b7.mono HB.size)
                  have o_oc0 : w7.cell? ⟨(w.heap.size + 1), 0, none⟩ = some (.bool false) := var_load o_o (by simp) 0 _ rfl
                  have o_of0 : w7.frozen? ⟨(w.heap.size + 1), 0, none⟩ = false := var_frozen o_o (by simp) 0 _ rfl
                  have o_oc1 : w7.cell? ⟨(w.heap.size + 1), 1, none⟩ = some (.string (r.extract 0 k)) := var_load o_o (by simp) 1 _ rfl
                  have o_of1 : w7.frozen? ⟨(w.heap.size + 1), 1, none⟩ = false := var_frozen o_o (by simp) 1 _ rfl
                  have o_oc2 : w7.cell? ⟨(w.heap.size + 1), 2, none⟩ = some (.int .i64 (n : Int)) := var_load o_o (by simp) 2 _ rfl
                  have o_of2 : w7.frozen? ⟨(w.heap.size + 1), 2, none⟩ = false := var_frozen o_o (by simp) 2 _ rfl
                  have o_ol := var_lt o_o
                  go_wp2_with fail
                  (refine (HT.out _).mono ?_); rintro e w8 ⟨rfl, b8⟩
                  clear o_oc0 o_of0 o_oc1 o_of1 o_oc2 o_of2 o_ol
                  replace o_o := owns_below o_o b8
                  replace o_r := owns_below o_r b8
                  replace HB := HB.trans (b8.mono HB.size)
                  have o_rc0 : w8.cell? ⟨w.heap.size, 0, none⟩ = some (.bool false) := var_load o_r (by simp) 0 _ rfl
                  have o_rf0 : w8.frozen? ⟨w.heap.size, 0, none⟩ = false := var_frozen o_r (by simp) 0 _ rfl
                  have o_rc1 : w8.cell? ⟨w.heap.size, 1, none⟩ = some (.string ⟨#[]⟩) := var_load o_r (by simp) 1 _ rfl
                  have o_rf1 : w8.frozen? ⟨w.heap.size, 1, none⟩ = false := var_frozen o_r (by simp) 1 _ rfl
                  have o_rc2 : w8.cell? ⟨w.heap.size, 2, none⟩ = some (.int .i64 0) := var_load o_r (by simp) 2 _ rfl
                  have o_rf2 : w8.frozen? ⟨w.heap.size, 2, none⟩ = false := var_frozen o_r (by simp) 2 _ rfl
                  have o_rl := var_lt o_r
                  have o_oc0 : w8.cell? ⟨(w.heap.size + 1), 0, none⟩ = some (.bool false) := var_load o_o (by simp) 0 _ rfl
                  have o_of0 : w8.frozen? ⟨(w.heap.size + 1), 0, none⟩ = false := var_frozen o_o (by simp) 0 _ rfl
                  have o_oc1 : w8.cell? ⟨(w.heap.size + 1), 1, none⟩ = some (.string (r.extract 0 k)) := var_load o_o (by simp) 1 _ rfl
                  have o_of1 : w8.frozen? ⟨(w.heap.size + 1), 1, none⟩ = false := var_frozen o_o (by simp) 1 _ rfl
                  have o_oc2 : w8.cell? ⟨(w.heap.size + 1), 2, none⟩ = some (.int .i64 (n : Int)) := var_load o_o (by simp) 2 _ rfl
                  have o_of2 : w8.frozen? ⟨(w.heap.size + 1), 2, none⟩ = false := var_frozen o_o (by simp) 2 _ rfl
                  have o_ol := var_lt o_o
                  go_wp2
                  obtain ⟨wf, hf⟩ : ∃ y, y = (((w8.setCell ⟨w.heap.size, 0, none⟩ (.bool false)).setCell ⟨w.heap.size, 1, none⟩ (.string (r.extract 0 k))).setCell ⟨w.heap.size, 2, none⟩ (.int .i64 (n : Int))) := ⟨_, rfl⟩
                  obtain ⟨o_r2, t2⟩ := var_some [.bool false, .string (r.extract 0 k), .int .i64 (n : Int)] 0 _ _ o_r (by simp)
                  rw [show setAll w8 w.heap.size 0 [.bool false, .string (r.extract 0 k), .int .i64 (n : Int)] = wf from hf.symm] at o_r2 t2
                  have HF := below_turned HB t2 (fun b hb => by simp at hb; omega)
                  clear o_rc0 o_rf0 o_rc1 o_rf1 o_rc2 o_rf2 o_rl
                  have o_r2c0 : wf.cell? ⟨w.heap.size, 0, none⟩ = some (.bool false) := var_load o_r2 (by simp) 0 _ rfl
                  have o_r2c1 : wf.cell? ⟨w.heap.size, 1, none⟩ = some (.string (r.extract 0 k)) := var_load o_r2 (by simp) 1 _ rfl
                  have o_r2c2 : wf.cell? ⟨w.heap.size, 2, none⟩ = some (.int .i64 (n : Int)) := var_load o_r2 (by simp) 2 _ rfl
                  have o_r2l := var_lt o_r2
                  rw [← hf]
                  exact bodyPost_ret (v := .tuple #[.agg #[.bool false, .string (r.extract 0 k), .int .i64 (n : Int)], .bool true]) (by simp [results, Tryz.results25, go_sem, o_r2c0, o_r2c1, o_r2c2]) rfl (made_po ⟨false, (r.extract 0 k), (n : Int)⟩ true HF)
                · obtain ⟨rfl, rfl⟩ : B = false ∧ X = ⟨false, ⟨#[]⟩, 0⟩ := ⟨HQ.out.1.trans k3, HQ.out.2.trans k4⟩
                  clear k3 k4 HQ
                  cases k5 : orgB (⟨false, (r.extract 0 k), (n : Int)⟩ : Fx.Origin) with
                  | false =>
                    have HO := Lib.hid (fun wx : World => show Calls Tryz.prog 24 #[.agg #[.bool false, .string (r.extract 0 k), .int .i64 (n : Int)]] wx (Gives (.bool false) wx) from by have h9 := C9b.specOrg wx (⟨false, (r.extract 0 k), (n : Int)⟩ : Fx.Origin) _ Origin.mkR (show (r.extract 0 k).size ≤ 4294967296 by omega); rw [k5] at h9; exact h9)
                    clear k1 k5
                    (refine (HO.out _).mono ?_); rintro e w7 ⟨rfl, b7⟩
                    replace o_o := owns_below o_o b7
                    replace o_r := owns_below o_r b7
                    replace HB := HB.trans (b7.mono HB.size)
                    have o_rc0 : w7.cell? ⟨w.heap.size, 0, none⟩ = some (.bool false) := var_load o_r (by simp) 0 _ rfl
                    have o_rf0 : w7.frozen? ⟨w.heap.size, 0, none⟩ = false := var_frozen o_r (by simp) 0 _ rfl
                    have o_rc1 : w7.cell? ⟨w.heap.size, 1, none⟩ = some (.string ⟨#[]⟩) := var_load o_r (by simp) 1 _ rfl
                    have o_rf1 : w7.frozen? ⟨w.heap.size, 1, none⟩ = false := var_frozen o_r (by simp) 1 _ rfl
                    have o_rc2 : w7.cell? ⟨w.heap.size, 2, none⟩ = some (.int .i64 0) := var_load o_r (by simp) 2 _ rfl
                    have o_rf2 : w7.frozen? ⟨w.heap.size, 2, none⟩ = false := var_frozen o_r (by simp) 2 _ rfl
                    have o_rl := var_lt o_r
                    go_wp2
                    obtain ⟨wf, hf⟩ : ∃ y, y = (((w7.setCell ⟨w.heap.size, 0, none⟩ (.bool false)).setCell ⟨w.heap.size, 1, none⟩ (.string ⟨#[]⟩)).setCell ⟨w.heap.size, 2, none⟩ (.int .i64 0)) := ⟨_, rfl⟩
                    obtain ⟨o_r2, t2⟩ := var_some [.bool false, .string ⟨#[]⟩, .int .i64 0] 0 _ _ o_r (by simp)
                    rw [show setAll w7 w.heap.size 0 [.bool false, .string ⟨#[]⟩, .int .i64 0] = wf from hf.symm] at o_r2 t2
                    have HF := below_turned HB t2 (fun b hb => by simp at hb; omega)
                    clear o_rc0 o_rf0 o_rc1 o_rf1 o_rc2 o_rf2 o_rl
                    have o_r2c0 : wf.cell? ⟨w.heap.size, 0, none⟩ = some (.bool false) := var_load o_r2 (by simp) 0 _ rfl
                    have o_r2c1 : wf.cell? ⟨w.heap.size, 1, none⟩ = some (.string ⟨#[]⟩) := var_load o_r2 (by simp) 1 _ rfl
                    have o_r2c2 : wf.cell? ⟨w.heap.size, 2, none⟩ = some (.int .i64 0) := var_load o_r2 (by simp) 2 _ rfl
                    have o_r2l := var_lt o_r2
                    rw [← hf]
                    exact bodyPost_ret (v := .tuple #[.agg #[.bool false, .string ⟨#[]⟩, .int .i64 0], .bool false]) (by simp [results, Tryz.results25, go_sem, o_r2c0, o_r2c1, o_r2c2]) rfl (made_po ⟨false, ⟨#[]⟩, 0⟩ false HF)
                  | true =>
                    have HO := Lib.hid (fun wx : World => show Calls Tryz.prog 24 #[.agg #[.bool false, .string (r.extract 0 k), .int .i64 (n : Int)]] wx (Gives (.bool true) wx) from by have h9 := C9b.specOrg wx (⟨false, (r.extract 0 k), (n : Int)⟩ : Fx.Origin) _ Origin.mkR (show (r.extract 0 k).size ≤ 4294967296 by omega); rw [k5] at h9; exact h9)
                    obtain ⟨t, ht⟩ : ∃ t, t = str (fmtO (⟨false, (r.extract 0 k), (n : Int)⟩ : Fx.Origin)) := ⟨_, rfl⟩
                    have HT := Lib.hid (fun wx : World => show Calls Tryz.prog 70 #[.agg #[.bool false, .string (r.extract 0 k), .int .i64 (n : Int)]] wx (Gives (.string t) wx) from by have h9 := C9b.specFmtO wx (⟨false, (r.extract 0 k), (n : Int)⟩ : Fx.Origin) _ Origin.mkR (show (r.extract 0 k).size ≤ 4294967296 by omega); rw [← ht] at h9; exact h9)
                    have hne : (t.toList == s.toList) = false := by
                      rcases k1 with k1 | k1
                      · rw [k5] at k1; cases k1
                      · rw [toList_bts, toList_bts, ht, bts_str]; simpa using k1
                    clear k1 k5 ht
                    (refine (HO.out _).mono ?_); rintro e w7 ⟨rfl, b7⟩
                    replace o_o := owns_below o_o b7
                    replace o_r := owns_below o_r b7
                    replace HB := HB.trans (b7.mono HB.size)
                    have o_oc0 : w7.cell? ⟨(w.heap.size + 1), 0, none⟩ = some (.bool false) := var_load o_o (by simp) 0 _ rfl
                    have o_of0 : w7.frozen? ⟨(w.heap.size + 1), 0, none⟩ = false := var_frozen o_o (by simp) 0 _ rfl
                    have o_oc1 : w7.cell? ⟨(w.heap.size + 1), 1, none⟩ = some (.string (r.extract 0 k)) := var_load o_o (by simp) 1 _ rfl
                    have o_of1 : w7.frozen? ⟨(w.heap.size + 1), 1, none⟩ = false := var_frozen o_o (by simp) 1 _ rfl
                    have o_oc2 : w7.cell? ⟨(w.heap.size + 1), 2, none⟩ = some (.int .i64 (n : Int)) := var_load o_o (by simp) 2 _ rfl
                    have o_of2 : w7.frozen? ⟨(w.heap.size + 1), 2, none⟩ = false := var_frozen o_o (by simp) 2 _ rfl
                    have o_ol := var_lt o_o
                    go_wp2_with fail
                    (refine (HT.out _).mono ?_); rintro e w8 ⟨rfl, b8⟩
                    clear o_oc0 o_of0 o_oc1 o_of1 o_oc2 o_of2 o_ol
                    replace o_o := owns_below o_o b8
                    replace o_r := owns_below o_r b8
                    replace HB := HB.trans (b8.mono HB.size)
                    have o_rc0 : w8.cell? ⟨w.heap.size, 0, none⟩ = some (.bool false) := var_load o_r (by simp) 0 _ rfl
                    have o_rf0 : w8.frozen? ⟨w.heap.size, 0, none⟩ = false := var_frozen o_r (by simp) 0 _ rfl
                    have o_rc1 : w8.cell? ⟨w.heap.size, 1, none⟩ = some (.string ⟨#[]⟩) := var_load o_r (by simp) 1 _ rfl
                    have o_rf1 : w8.frozen? ⟨w.heap.size, 1, none⟩ = false := var_frozen o_r (by simp) 1 _ rfl
                    have o_rc2 : w8.cell? ⟨w.heap.size, 2, none⟩ = some (.int .i64 0) := var_load o_r (by simp) 2 _ rfl
                    have o_rf2 : w8.frozen? ⟨w.heap.size, 2, none⟩ = false := var_frozen o_r (by simp) 2 _ rfl
                    have o_rl := var_lt o_r
                    go_wp2
                    obtain ⟨wf, hf⟩ : ∃ y, y = (((w8.setCell ⟨w.heap.size, 0, none⟩ (.bool false)).setCell ⟨w.heap.size, 1, none⟩ (.string ⟨#[]⟩)).setCell ⟨w.heap.size, 2, none⟩ (.int .i64 0)) := ⟨_, rfl⟩
                    obtain ⟨o_r2, t2⟩ := var_some [.bool false, .string ⟨#[]⟩, .int .i64 0] 0 _ _ o_r (by simp)
                    rw [show setAll w8 w.heap.size 0 [.bool false, .string ⟨#[]⟩, .int .i64 0] = wf from hf.symm] at o_r2 t2
                    have HF := below_turned HB t2 (fun b hb => by simp at hb; omega)
                    clear o_rc0 o_rf0 o_rc1 o_rf1 o_rc2 o_rf2 o_rl
                    have o_r2c0 : wf.cell? ⟨w.heap.size, 0, none⟩ = some (.bool false) := var_load o_r2 (by simp) 0 _ rfl
                    have o_r2c1 : wf.cell? ⟨w.heap.size, 1, none⟩ = some (.string ⟨#[]⟩) := var_load o_r2 (by simp) 1 _ rfl
                    have o_r2c2 : wf.cell? ⟨w.heap.size, 2, none⟩ = some (.int .i64 0) := var_load o_r2 (by simp) 2 _ rfl
                    have o_r2l := var_lt o_r2
                    rw [← hf]
                    exact bodyPost_ret (v := .tuple #[.agg #[.bool false, .string ⟨#[]⟩, .int .i64 0], .bool false]) (by simp [results, Tryz.results25, go_sem, o_r2c0, o_r2c1, o_r2c2]) rfl (made_po ⟨false, ⟨#[]⟩, 0⟩ false HF)
              · obtain ⟨rfl, rfl⟩ : B = false ∧ X = ⟨false, ⟨#[]⟩, 0⟩ := by
                  have h4 := po_f (po_noport HC.out HD.out (by rw [str_bts]; exact hN))
                  exact ⟨HQ.out.1.trans h4.1, HQ.out.2.trans h4.2⟩
                have HY := Lib.hid (fun wx : World => C1P.specNo (r.extract (k + 1) r.size) hN wx (by omega))
                clear hN HC HD HQ
                go_wp2_with fail
                (refine (HY.out _).mono ?_); rintro e w2 ⟨rfl, b2⟩
                replace o_r := owns_below o_r b2
                replace HB := HB.trans (b2.mono HB.size)
                have o_rc0 : w2.cell? ⟨w.heap.size, 0, none⟩ = some (.bool false) := var_load o_r (by simp) 0 _ rfl
                have o_rf0 : w2.frozen? ⟨w.heap.size, 0, none⟩ = false := var_frozen o_r (by simp) 0 _ rfl
                have o_rc1 : w2.cell? ⟨w.heap.size, 1, none⟩ = some (.string ⟨#[]⟩) := var_load o_r (by simp) 1 _ rfl
                have o_rf1 : w2.frozen? ⟨w.heap.size, 1, none⟩ = false := var_frozen o_r (by simp) 1 _ rfl
                have o_rc2 : w2.cell? ⟨w.heap.size, 2, none⟩ = some (.int .i64 0) := var_load o_r (by simp) 2 _ rfl
                have o_rf2 : w2.frozen? ⟨w.heap.size, 2, none⟩ = false := var_frozen o_r (by simp) 2 _ rfl
                have o_rl := var_lt o_r
                go_wp2
                obtain ⟨wf, hf⟩ : ∃ y, y = (((w2.setCell ⟨w.heap.size, 0, none⟩ (.bool false)).setCell ⟨w.heap.size, 1, none⟩ (.string ⟨#[]⟩)).setCell ⟨w.heap.size, 2, none⟩ (.int .i64 0)) := ⟨_, rfl⟩
                obtain ⟨o_r2, t2⟩ := var_some [.bool false, .string ⟨#[]⟩, .int .i64 0] 0 _ _ o_r (by simp)
                rw [show setAll w2 w.heap.size 0 [.bool false, .string ⟨#[]⟩, .int .i64 0] = wf from hf.symm] at o_r2 t2
                have HF := below_turned HB t2 (fun b hb => by simp at hb; omega)
                clear o_rc0 o_rf0 o_rc1 o_rf1 o_rc2 o_rf2 o_rl
                have o_r2c0 : wf.cell? ⟨w.heap.size, 0, none⟩ = some (.bool false) := var_load o_r2 (by simp) 0 _ rfl
                have o_r2c1 : wf.cell? ⟨w.heap.size, 1, none⟩ = some (.string ⟨#[]⟩) := var_load o_r2 (by simp) 1 _ rfl
                have o_r2c2 : wf.cell? ⟨w.heap.size, 2, none⟩ = some (.int .i64 0) := var_load o_r2 (by simp) 2 _ rfl
                have o_r2l := var_lt o_r2
                rw [← hf]
                exact bodyPost_ret (v := .tuple #[.agg #[.bool false, .string ⟨#[]⟩, .int .i64 0], .bool false]) (by simp [results, Tryz.results25, go_sem, o_r2c0, o_r2c1, o_r2c2]) rfl (made_po ⟨false, ⟨#[]⟩, 0⟩ false HF)
            · have hcb : ((r[k].toNat : Int) == 58) = false := by rw [byte58]; simpa using hc
              go_wp2
              go_round
              case rel =>
                refine ⟨k + 1, by omega, by go_num, fun j hj hjk => ?_⟩
                by_cases h : j < k
                · exact HG.out j hj h
                · obtain rfl : j = k := by omega
                  exact hc
              case measure => simp [intOf]; omega
          · obtain rfl : k = r.size := by omega
            have HU := Lib.hid (show ∀ o : Fx.Origin, orgB o = true → fmtO o = bts s → o = ⟨false, r, (80 : Int)⟩ from fun o h1 h2 => by
              have h3 := before (Nat.le_refl r.size) HG.out
              rw [show r.extract 0 r.size = r from ByteArray.extract_zero_size] at h3
              rw [po_plain HP.out h3 o h1 h2, str_bts]; rfl)
            clear HG HP
            have o_oc0 : w1.cell? ⟨(w.heap.size + 1), 0, none⟩ = some (.bool false) := var_load o_o (by simp) 0 _ rfl
            have o_of0 : w1.frozen? ⟨(w.heap.size + 1), 0, none⟩ = false := var_frozen o_o (by simp) 0 _ rfl
            have o_oc1 : w1.cell? ⟨(w.heap.size + 1), 1, none⟩ = some (.string r) := var_load o_o (by simp) 1 _ rfl
            have o_of1 : w1.frozen? ⟨(w.heap.size + 1), 1, none⟩ = false := var_frozen o_o (by simp) 1 _ rfl
            have o_oc2 : w1.cell? ⟨(w.heap.size + 1), 2, none⟩ = some (.int .i64 80) := var_load o_o (by simp) 2 _ rfl
            have o_of2 : w1.frozen? ⟨(w.heap.size + 1), 2, none⟩ = false := var_frozen o_o (by simp) 2 _ rfl
            have o_ol := var_lt o_o
            go_wp2_with fail
            clear o_oc0 o_of0 o_oc1 o_of1 o_oc2 o_of2 o_ol
            rcases po_c HU.out with ⟨k1, k2, k3, k4⟩ | ⟨k1, k3, k4⟩
            · obtain ⟨rfl, rfl⟩ : B = true ∧ X = (⟨false, r, 80⟩ : Fx.Origin) := ⟨HQ.out.1.trans k3, HQ.out.2.trans k4⟩
              clear k3 k4 HQ
              have HO := Lib.hid (fun wx : World => show Calls Tryz.prog 24 #[.agg #[.bool false, .string r, .int .i64 80]] wx (Gives (.bool true) wx) from by have h9 := C9b.specOrg wx (⟨false, r, 80⟩ : Fx.Origin) _ Origin.mkR (show r.size ≤ 4294967296 by omega); rw [k1] at h9; exact h9)
              have HT := Lib.hid (fun wx : World => show Calls Tryz.prog 70 #[.agg #[.bool false, .string r, .int .i64 80]] wx (Gives (.string s) wx) from by have h9 := C9b.specFmtO wx (⟨false, r, 80⟩ : Fx.Origin) _ Origin.mkR (show r.size ≤ 4294967296 by omega); rw [show str (fmtO (⟨false, r, 80⟩ : Fx.Origin)) = s by rw [k2, str_bts]] at h9; exact h9)
              clear k1 k2
              (refine (HO.out _).mono ?_); rintro e w7 ⟨rfl, b7⟩
              replace o_o := owns_below o_o b7
              replace o_r := owns_below o_r b7
              replace HB := HB.trans (b7.mono HB.size)
              have o_oc0 : w7.cell? ⟨(w.heap.size + 1), 0, none⟩ = some (.bool false) := var_load o_o (by simp) 0 _ rfl
              have o_of0 : w7.frozen? ⟨(w.heap.size + 1), 0, none⟩ = false := var_frozen o_o (by simp) 0 _ rfl
              have o_oc1 : w7.cell? ⟨(w.heap.size + 1), 1, none⟩ = some (.string r) := var_load o_o (by simp) 1 _ rfl
              have o_of1 : w7.frozen? ⟨(w.heap.size + 1), 1, none⟩ = false := var_frozen o_o (by simp) 1 _ rfl
              have o_oc2 : w7.cell? ⟨(w.heap.size + 1), 2, none⟩ = some (.int .i64 80) := var_load o_o (by simp) 2 _ rfl
              have o_of2 : w7.frozen? ⟨(w.heap.size + 1), 2, none⟩ = false := var_frozen o_o (by simp) 2 _ rfl
              have o_ol := var_lt o_o
              go_wp2_with fail
              (refine (HT.out _).mono ?_); rintro e w8 ⟨rfl, b8⟩
              clear o_oc0 o_of0 o_oc1 o_of1 o_oc2 o_of2 o_ol
              replace o_o := owns_below o_o b8
              replace o_r := owns_below o_r b8
              replace HB := HB.trans (b8.mono HB.size)
              have o_rc0 : w8.cell? ⟨w.heap.size, 0, none⟩ = some (.bool false) := var_load o_r (by simp) 0 _ rfl
              have o_rf0 : w8.frozen? ⟨w.heap.size, 0, none⟩ = false := var_frozen o_r (by simp) 0 _ rfl
              have o_rc1 : w8.cell? ⟨w.heap.size, 1, none⟩ = some (.string ⟨#[]⟩) := var_load o_r (by simp) 1 _ rfl
              have o_rf1 : w8.frozen? ⟨w.heap.size, 1, none⟩ = false := var_frozen o_r (by simp) 1 _ rfl
              have o_rc2 : w8.cell? ⟨w.heap.size, 2, none⟩ = some (.int .i64 0) := var_load o_r (by simp) 2 _ rfl
              have o_rf2 : w8.frozen? ⟨w.heap.size, 2, none⟩ = false := var_frozen o_r (by simp) 2 _ rfl
              have o_rl := var_lt o_r
              have o_oc0 : w8.cell? ⟨(w.heap.size + 1), 0, none⟩ = some (.bool false) := var_load o_o (by simp) 0 _ rfl
              have o_of0 : w8.frozen? ⟨(w.heap.size + 1), 0, none⟩ = false := var_frozen o_o (by simp) 0 _ rfl
              have o_oc1 : w8.cell? ⟨(w.heap.size + 1), 1, none⟩ = some (.string r) := var_load o_o (by simp) 1 _ rfl
              have o_of1 : w8.frozen? ⟨(w.heap.size + 1), 1, none⟩ = false := var_frozen o_o (by simp) 1 _ rfl
              have o_oc2 : w8.cell? ⟨(w.heap.size + 1), 2, none⟩ = some (.int .i64 80) := var_load o_o (by simp) 2 _ rfl
              have o_of2 : w8.frozen? ⟨(w.heap.size + 1), 2, none⟩ = false := var_frozen o_o (by simp) 2 _ rfl
              have o_ol := var_lt o_o
              go_wp2
              obtain ⟨wf, hf⟩ : ∃ y, y = (((w8.setCell ⟨w.heap.size, 0, none⟩ (.bool false)).setCell ⟨w.heap.size, 1, none⟩ (.string r)).setCell ⟨w.heap.size, 2, none⟩ (.int .i64 80)) := ⟨_, rfl⟩
              obtain ⟨o_r2, t2⟩ := var_some [.bool false, .string r, .int .i64 80] 0 _ _ o_r (by simp)
              rw [show setAll w8 w.heap.size 0 [.bool false, .string r, .int .i64 80] = wf from hf.symm] at o_r2 t2
              have HF := below_turned HB t2 (fun b hb => by simp at hb; omega)
              clear o_rc0 o_rf0 o_rc1 o_rf1 o_rc2 o_rf2 o_rl
              have o_r2c0 : wf.cell? ⟨w.heap.size, 0, none⟩ = some (.bool false) := var_load o_r2 (by simp) 0 _ rfl
              have o_r2c1 : wf.cell? ⟨w.heap.size, 1, none⟩ = some (.string r) := var_load o_r2 (by simp) 1 _ rfl
              have o_r2c2 : wf.cell? ⟨w.heap.size, 2, none⟩ = some (.int .i64 80) := var_load o_r2 (by simp) 2 _ rfl
              have o_r2l := var_lt o_r2
              rw [← hf]
              exact bodyPost_ret (v := .tuple #[.agg #[.bool false, .string r, .int .i64 80], .bool true]) (by simp [results, Tryz.results25, go_sem, o_r2c0, o_r2c1, o_r2c2]) rfl (made_po ⟨false, r, 80⟩ true HF)
            · obtain ⟨rfl, rfl⟩ : B = false ∧ X = ⟨false, ⟨#[]⟩, 0⟩ := ⟨HQ.out.1.trans k3, HQ.out.2.trans k4⟩
              clear k3 k4 HQ
              cases k5 : orgB (⟨false, r, 80⟩ : Fx.Origin) with
              | false =>
                have HO := Lib.hid (fun wx : World => show Calls Tryz.prog 24 #[.agg #[.bool false, .string r, .int .i64 80]] wx (Gives (.bool false) wx) from by have h9 := C9b.specOrg wx (⟨false, r, 80⟩ : Fx.Origin) _ Origin.mkR (show r.size ≤ 4294967296 by omega); rw [k5] at h9; exact h9)
                clear k1 k5
                (refine (HO.out _).mono ?_); rintro e w7 ⟨rfl, b7⟩
                replace o_o := owns_below o_o b7
                replace o_r := owns_below o_r b7
                replace HB := HB.trans (b7.mono HB.size)
                have o_rc0 : w7.cell? ⟨w.heap.size, 0, none⟩ = some (.bool false) := var_load o_r (by simp) 0 _ rfl
                have o_rf0 : w7.frozen? ⟨w.heap.size, 0, none⟩ = false := var_frozen o_r (by simp) 0 _ rfl
                have o_rc1 : w7.cell? ⟨w.heap.size, 1, none⟩ = some (.string ⟨#[]⟩) := var_load o_r (by simp) 1 _ rfl
                have o_rf1 : w7.frozen? ⟨w.heap.size, 1, none⟩ = false := var_frozen o_r (by simp) 1 _ rfl
                have o_rc2 : w7.cell? ⟨w.heap.size, 2, none⟩ = some (.int .i64 0) := var_load o_r (by simp) 2 _ rfl
                have o_rf2 : w7.frozen? ⟨w.heap.size, 2, none⟩ = false := var_frozen o_r (by simp) 2 _ rfl
                have o_rl := var_lt o_r
                go_wp2
                obtain ⟨wf, hf⟩ : ∃ y, y = (((w7.setCell ⟨w.heap.size, 0, none⟩ (.bool false)).setCell ⟨w.heap.size, 1, none⟩ (.string ⟨#[]⟩)).setCell ⟨w.heap.size, 2, none⟩ (.int .i64 0)) := ⟨_, rfl⟩
                obtain ⟨o_r2, t2⟩ := var_some [.bool false, .string ⟨#[]⟩, .int .i64 0] 0 _ _ o_r (by simp)
                rw [show setAll w7 w.heap.size 0 [.bool false, .string ⟨#[]⟩, .int .i64 0] = wf from hf.symm] at o_r2 t2
                have HF := below_turned HB t2 (fun b hb => by simp at hb; omega)
                clear o_rc0 o_rf0 o_rc1 o_rf1 o_rc2 o_rf2 o_rl
                have o_r2c0 : wf.cell? ⟨w.heap.size, 0, none⟩ = some (.bool false) := var_load o_r2 (by simp) 0 _ rfl
                have o_r2c1 : wf.cell? ⟨w.heap.size, 1, none⟩ = some (.string ⟨#[]⟩) := var_load o_r2 (by simp) 1 _ rfl
                have o_r2c2 : wf.cell? ⟨w.heap.size, 2, none⟩ = some (.int .i64 0) := var_load o_r2 (by simp) 2 _ rfl
                have o_r2l := var_lt o_r2
                rw [← hf]
                exact bodyPost_ret (v := .tuple #[.agg #[.bool false, .string ⟨#[]⟩, .int .i64 0], .bool false]) (by simp [results, Tryz.results25, go_sem, o_r2c0, o_r2c1, o_r2c2]) rfl (made_po ⟨false, ⟨#[]⟩, 0⟩ false HF)
              | true =>
                have HO := Lib.hid (fun wx : World => show Calls Tryz.prog 24 #[.agg #[.bool false, .string r, .int .i64 80]] wx (Gives (.bool true) wx) from by have h9 := C9b.specOrg wx (⟨false, r, 80⟩ : Fx.Origin) _ Origin.mkR (show r.size ≤ 4294967296 by omega); rw [k5] at h9; exact h9)
                obtain ⟨t, ht⟩ : ∃ t, t = str (fmtO (⟨false, r, 80⟩ : Fx.Origin)) := ⟨_, rfl⟩
                have HT := Lib.hid (fun wx : World => show Calls Tryz.prog 70 #[.agg #[.bool false, .string r, .int .i64 80]] wx (Gives (.string t) wx) from by have h9 := C9b.specFmtO wx (⟨false, r, 80⟩ : Fx.Origin) _ Origin.mkR (show r.size ≤ 4294967296 by omega); rw [← ht] at h9; exact h9)
                have hne : (t.toList == s.toList) = false := by
                  rcases k1 with k1 | k1
                  · rw [k5] at k1; cases k1
                  · rw [toList_bts, toList_bts, ht, bts_str]; simpa using k1
                clear k1 k5 ht
                (refine (HO.out _).mono ?_); rintro e w7 ⟨rfl, b7⟩
                replace o_o := owns_below o_o b7
                replace o_r := owns_below o_r b7
                replace HB := HB.trans (b7.mono HB.size)
                have o_oc0 : w7.cell? ⟨(w.heap.size + 1), 0, none⟩ = some (.bool false) := var_load o_o (by simp) 0 _ rfl
                have o_of0 : w7.frozen? ⟨(w.heap.size + 1), 0, none⟩ = false := var_frozen o_o (by simp) 0 _ rfl
                have o_oc1 : w7.cell? ⟨(w.heap.size + 1), 1, none⟩ = some (.string r) := var_load o_o (by simp) 1 _ rfl
                have o_of1 : w7.frozen? ⟨(w.heap.size + 1), 1, none⟩ = false := var_frozen o_o (by simp) 1 _ rfl
                have o_oc2 : w7.cell? ⟨(w.heap.size + 1), 2, none⟩ = some (.int .i64 80) := var_load o_o (by simp) 2 _ rfl
                have o_of2 : w7.frozen? ⟨(w.heap.size + 1), 2, none⟩ = false := var_frozen o_o (by simp) 2 _ rfl
                have o_ol := var_lt o_o
                go_wp2_with fail
                (refine (HT.out _).mono ?_); rintro e w8 ⟨rfl, b8⟩
                clear o_oc0 o_of0 o_oc1 o_of1 o_oc2 o_of2 o_ol
                replace o_o := owns_below o_o b8
                replace o_r := owns_below o_r b8
                replace HB := HB.trans (b8.mono HB.size)
                have o_rc0 : w8.cell? ⟨w.heap.size, 0, none⟩ = some (.bool false) := var_load o_r (by simp) 0 _ rfl
                have o_rf0 : w8.frozen? ⟨w.heap.size, 0, none⟩ = false := var_frozen o_r (by simp) 0 _ rfl
                have o_rc1 : w8.cell? ⟨w.heap.size, 1, none⟩ = some (.string ⟨#[]⟩) := var_load o_r (by simp) 1 _ rfl
                have o_rf1 : w8.frozen? ⟨w.heap.size, 1, none⟩ = false := var_frozen o_r (by simp) 1 _ rfl
                have o_rc2 : w8.cell? ⟨w.heap.size, 2, none⟩ = some (.int .i64 0) := var_load o_r (by simp) 2 _ rfl
                have o_rf2 : w8.frozen? ⟨w.heap.size, 2, none⟩ = false := var_frozen o_r (by simp) 2 _ rfl
                have o_rl := var_lt o_r
                go_wp2
                obtain ⟨wf, hf⟩ : ∃ y, y = (((w8.setCell ⟨w.heap.size, 0, none⟩ (.bool false)).setCell ⟨w.heap.size, 1, none⟩ (.string ⟨#[]⟩)).setCell ⟨w.heap.size, 2, none⟩ (.int .i64 0)) := ⟨_, rfl⟩
                obtain ⟨o_r2, t2⟩ := var_some [.bool false, .string ⟨#[]⟩, .int .i64 0] 0 _ _ o_r (by simp)
                rw [show setAll w8 w.heap.size 0 [.bool false, .string ⟨#[]⟩, .int .i64 0] = wf from hf.symm] at o_r2 t2
                have HF := below_turned HB t2 (fun b hb => by simp at hb; omega)
                clear o_rc0 o_rf0 o_rc1 o_rf1 o_rc2 o_rf2 o_rl
                have o_r2c0 : wf.cell? ⟨w.heap.size, 0, none⟩ = some (.bool false) := var_load o_r2 (by simp) 0 _ rfl
                have o_r2c1 : wf.cell? ⟨w.heap.size, 1, none⟩ = some (.string ⟨#[]⟩) := var_load o_r2 (by simp) 1 _ rfl
                have o_r2c2 : wf.cell? ⟨w.heap.size, 2, none⟩ = some (.int .i64 0) := var_load o_r2 (by simp) 2 _ rfl
                have o_r2l := var_lt o_r2
                rw [← hf]
                exact bodyPost_ret (v := .tuple #[.agg #[.bool false, .string ⟨#[]⟩, .int .i64 0], .bool false]) (by simp [results, Tryz.results25, go_sem, o_r2c0, o_r2c1, o_r2c2]) rfl (made_po ⟨false, ⟨#[]⟩, 0⟩ false HF)
    · have HN := Lib.hid (po_f (po_none (s := bts s) (fun b x hx e => by
        have hl : s.size = (bts s).length := (bts_len s).symm
        have hx1 : 1 ≤ x.length := List.length_pos_iff.2 hx
        cases b with
        | true =>
          rw [e, List.length_append] at hl
          simp only [pre, if_true, List.length_cons, List.length_nil] at hl
          refine hA ⟨by omega, ?_⟩
          rw [extract_is s 0 8 (Nat.zero_le _) (by omega)]
          show str (List.take 8 (bts s)) = _
          rw [e]; rfl
        | false =>
          rw [e, List.length_append] at hl
          simp only [pre, Bool.false_eq_true, if_false, List.length_cons, List.length_nil] at hl
          refine hZ ⟨by omega, ?_⟩
          rw [extract_is s 0 7 (Nat.zero_le _) (by omega)]
          show str (List.take 7 (bts s)) = _
          rw [e]; rfl)))
      obtain ⟨rfl, rfl⟩ : B = false ∧ X = ⟨false, ⟨#[]⟩, 0⟩ := ⟨HQ.out.1.trans HN.out.1, HQ.out.2.trans HN.out.2⟩
      clear HQ HN
      obtain ⟨w1, hw1⟩ : ∃ y, y = w0.alloc (.cells #[.bool false, .string ⟨#[]⟩, .int .i64 0] 45) := ⟨_, rfl⟩
      have o_o := var_owns w0 45 3 [.bool false, .string ⟨#[]⟩, .int .i64 0] rfl
      rw [← hw1, s0] at o_o
      have b1 : Below w0.heap.size w0 w1 := hw1 ▸ (Below.refl _ _).alloc (Nat.le_refl _) _
      replace o_r := owns_below o_r b1
      have HB := HB0.trans (b1.mono HB0.size)
      clear b1 HB0
      have HO := Lib.hid (fun wx : World => show Calls Tryz.prog 24 #[.agg #[.bool false, .string ⟨#[]⟩, .int .i64 0]] wx (Gives (.bool false) wx) from C9b.specOrg wx ⟨false, ⟨#[]⟩, 0⟩ _ Origin.mkR (Nat.zero_le _))
      by_cases h8 : 8 < s.size
      · have hA1 : ((s.extract 0 8).toList == [104, 116, 116, 112, 115, 58, 47, 47]) = false := by rw [beq_eq_false_iff_ne]; intro e; exact hA ⟨h8, bts_inj (by rw [← toList_bts, e]; rfl)⟩
        have hB1 : ((s.extract 0 7).toList == [104, 116, 116, 112, 58, 47, 47]) = false := by rw [beq_eq_false_iff_ne]; intro e; exact hZ ⟨by omega, bts_inj (by rw [← toList_bts, e]; rfl)⟩
        clear hA hZ
        go_enter Tryz.func25, Tryz.ntmps25
        go_wp2_with fail
        rw [← hw0, ← hw1]
        clear hw0 hw1
        go_loop [6] (fun i => i = .int .i64 0) (fun _ => 0)
        case atStart => rfl
        case round =>
          obtain rfl := hrel
          have o_oc0 : w1.cell? ⟨(w.heap.size + 1), 0, none⟩ = some (.bool false) := var_load o_o (by simp) 0 _ rfl
          have o_of0 : w1.frozen? ⟨(w.heap.size + 1), 0, none⟩ = false := var_frozen o_o (by simp) 0 _ rfl
          have o_oc1 : w1.cell? ⟨(w.heap.size + 1), 1, none⟩ = some (.string ⟨#[]⟩) := var_load o_o (by simp) 1 _ rfl
          have o_of1 : w1.frozen? ⟨(w.heap.size + 1), 1, none⟩ = false := var_frozen o_o (by simp) 1 _ rfl
          have o_oc2 : w1.cell? ⟨(w.heap.size + 1), 2, none⟩ = some (.int .i64 0) := var_load o_o (by simp) 2 _ rfl
          have o_of2 : w1.frozen? ⟨(w.heap.size + 1), 2, none⟩ = false := var_frozen o_o (by simp) 2 _ rfl
          have o_ol := var_lt o_o
          go_wp2_with fail
          (refine (HO.out _).mono ?_); rintro e w7 ⟨rfl, b7⟩
          clear o_oc0 o_of0 o_oc1 o_of1 o_oc2 o_of2 o_ol
          replace o_r := owns_below o_r b7
          replace HB := HB.trans (b7.mono HB.size)
          have o_rc0 : w7.cell? ⟨w.heap.size, 0, none⟩ = some (.bool false) := var_load o_r (by simp) 0 _ rfl
          have o_rf0 : w7.frozen? ⟨w.heap.size, 0, none⟩ = false := var_frozen o_r (by simp) 0 _ rfl
          have o_rc1 : w7.cell? ⟨w.heap.size, 1, none⟩ = some (.string ⟨#[]⟩) := var_load o_r (by simp) 1 _ rfl
          have o_rf1 : w7.frozen? ⟨w.heap.size, 1, none⟩ = false := var_frozen o_r (by simp) 1 _ rfl
          have o_rc2 : w7.cell? ⟨w.heap.size, 2, none⟩ = some (.int .i64 0) := var_load o_r (by simp) 2 _ rfl
          have o_rf2 : w7.frozen? ⟨w.heap.size, 2, none⟩ = false := var_frozen o_r (by simp) 2 _ rfl
          have o_rl := var_lt o_r
          go_wp2
          obtain ⟨wf, hf⟩ : ∃ y, y = (((w7.setCell ⟨w.heap.size, 0, none⟩ (.bool false)).setCell ⟨w.heap.size, 1, none⟩ (.string ⟨#[]⟩)).setCell ⟨w.heap.size, 2, none⟩ (.int .i64 0)) := ⟨_, rfl⟩
          obtain ⟨o_r2, t2⟩ := var_some [.bool false, .string ⟨#[]⟩, .int .i64 0] 0 _ _ o_r (by simp)
          rw [show setAll w7 w.heap.size 0 [.bool false, .string ⟨#[]⟩, .int .i64 0] = wf from hf.symm] at o_r2 t2
          have HF := below_turned HB t2 (fun b hb => by simp at hb; omega)
          clear o_rc0 o_rf0 o_rc1 o_rf1 o_rc2 o_rf2 o_rl
          have o_r2c0 : wf.cell? ⟨w.heap.size, 0, none⟩ = some (.bool false) := var_load o_r2 (by simp) 0 _ rfl
          have o_r2c1 : wf.cell? ⟨w.heap.size, 1, none⟩ = some (.string ⟨#[]⟩) := var_load o_r2 (by simp) 1 _ rfl
          have o_r2c2 : wf.cell? ⟨w.heap.size, 2, none⟩ = some (.int .i64 0) := var_load o_r2 (by simp) 2 _ rfl
          have o_r2l := var_lt o_r2
          rw [← hf]
          exact bodyPost_ret (v := .tuple #[.agg #[.bool false, .string ⟨#[]⟩, .int .i64 0], .bool false]) (by simp [results, Tryz.results25, go_sem, o_r2c0, o_r2c1, o_r2c2]) rfl (made_po ⟨false, ⟨#[]⟩, 0⟩ false HF)
      · by_cases h7 : 7 < s.size
        · have hB1 : ((s.extract 0 7).toList == [104, 116, 116, 112, 58, 47, 47]) = false := by rw [beq_eq_false_iff_ne]; intro e; exact hZ ⟨h7, bts_inj (by rw [← toList_bts, e]; rfl)⟩
          clear hA hZ
          go_enter Tryz.func25, Tryz.ntmps25
          go_wp2_with fail
          rw [← hw0, ← hw1]
          clear hw0 hw1
          go_loop [6] (fun i => i = .int .i64 0) (fun _ => 0)
          case atStart => rfl
          case round =>
            obtain rfl := hrel
            have o_oc0 : w1.cell? ⟨(w.heap.size + 1), 0, none⟩ = some (.bool false) := var_load o_o (by simp) 0 _ rfl
            have o_of0 : w1.frozen? ⟨(w.heap.size + 1), 0, none⟩ = false := var_frozen o_o (by simp) 0 _ rfl
            have o_oc1 : w1.cell? ⟨(w.heap.size + 1), 1, none⟩ = some (.string ⟨#[]⟩) := var_load o_o (by simp) 1 _ rfl
            have o_of1 : w1.frozen? ⟨(w.heap.size + 1), 1, none⟩ = false := var_frozen o_o (by simp) 1 _ rfl
            have o_oc2 : w1.cell? ⟨(w.heap.size + 1), 2, none⟩ = some (.int .i64 0) := var_load o_o (by simp) 2 _ rfl
            have o_of2 : w1.frozen? ⟨(w.heap.size + 1), 2, none⟩ = false := var_frozen o_o (by simp) 2 _ rfl
            have o_ol := var_lt o_o
            go_wp2_with fail
            (refine (HO.out _).mono ?_); rintro e w7 ⟨rfl, b7⟩
            clear o_oc0 o_of0 o_oc1 o_of1 o_oc2 o_of2 o_ol
            replace o_r := owns_below o_r b7
            replace HB := HB.trans (b7.mono HB.size)
            have o_rc0 : w7.cell? ⟨w.heap.size, 0, none⟩ = some (.bool false) := var_load o_r (by simp) 0 _ rfl
            have o_rf0 : w7.frozen? ⟨w.heap.size, 0, none⟩ = false := var_frozen o_r (by simp) 0 _ rfl
            have o_rc1 : w7.cell? ⟨w.heap.size, 1, none⟩ = some (.string ⟨#[]⟩) := var_load o_r (by simp) 1 _ rfl
            have o_rf1 : w7.frozen? ⟨w.heap.size, 1, none⟩ = false := var_frozen o_r (by simp) 1 _ rfl
            have o_rc2 : w7.cell? ⟨w.heap.size, 2, none⟩ = some (.int .i64 0) := var_load o_r (by simp) 2 _ rfl
            have o_rf2 : w7.frozen? ⟨w.heap.size, 2, none⟩ = false := var_frozen o_r (by simp) 2 _ rfl
            have o_rl := var_lt o_r
            go_wp2
            obtain ⟨wf, hf⟩ : ∃ y, y = (((w7.setCell ⟨w.heap.size, 0, none⟩ (.bool false)).setCell ⟨w.heap.size, 1, none⟩ (.string ⟨#[]⟩)).setCell ⟨w.heap.size, 2, none⟩ (.int .i64 0)) := ⟨_, rfl⟩
            obtain ⟨o_r2, t2⟩ := var_some [.bool false, .string ⟨#[]⟩, .int .i64 0] 0 _ _ o_r (by simp)
            rw [show setAll w7 w.heap.size 0 [.bool false, .string ⟨#[]⟩, .int .i64 0] = wf from hf.symm] at o_r2 t2
            have HF := below_turned HB t2 (fun b hb => by simp at hb; omega)
            clear o_rc0 o_rf0 o_rc1 o_rf1 o_rc2 o_rf2 o_rl
            have o_r2c0 : wf.cell? ⟨w.heap.size, 0, none⟩ = some (.bool false) := var_load o_r2 (by simp) 0 _ rfl
            have o_r2c1 : wf.cell? ⟨w.heap.size, 1, none⟩ = some (.string ⟨#[]⟩) := var_load o_r2 (by simp) 1 _ rfl
            have o_r2c2 : wf.cell? ⟨w.heap.size, 2, none⟩ = some (.int .i64 0) := var_load o_r2 (by simp) 2 _ rfl
            have o_r2l := var_lt o_r2
            rw [← hf]
            exact bodyPost_ret (v := .tuple #[.agg #[.bool false, .string ⟨#[]⟩, .int .i64 0], .bool false]) (by simp [results, Tryz.results25, go_sem, o_r2c0, o_r2c1, o_r2c2]) rfl (made_po ⟨false, ⟨#[]⟩, 0⟩ false HF)
        · have h70 : True := trivial
          clear hA hZ
          go_enter Tryz.func25, Tryz.ntmps25
          go_wp2_with fail
          rw [← hw0, ← hw1]
          clear hw0 hw1
          go_loop [6] (fun i => i = .int .i64 0) (fun _ => 0)
          case atStart => rfl
          case round =>
            obtain rfl := hrel
            have o_oc0 : w1.cell? ⟨(w.heap.size + 1), 0, none⟩ = some (.bool false) := var_load o_o (by simp) 0 _ rfl
            have o_of0 : w1.frozen? ⟨(w.heap.size + 1), 0, none⟩ = false := var_frozen o_o (by simp) 0 _ rfl
            have o_oc1 : w1.cell? ⟨(w.heap.size + 1), 1, none⟩ = some (.string ⟨#[]⟩) := var_load o_o (by simp) 1 _ rfl
            have o_of1 : w1.frozen? ⟨(w.heap.size + 1), 1, none⟩ = false := var_frozen o_o (by simp) 1 _ rfl
            have o_oc2 : w1.cell? ⟨(w.heap.size + 1), 2, none⟩ = some (.int .i64 0) := var_load o_o (by simp) 2 _ rfl
            have o_of2 : w1.frozen? ⟨(w.heap.size + 1), 2, none⟩ = false := var_frozen o_o (by simp) 2 _ rfl
            have o_ol := var_lt o_o
            go_wp2_with fail
            (refine (HO.out _).mono ?_); rintro e w7 ⟨rfl, b7⟩
            clear o_oc0 o_of0 o_oc1 o_of1 o_oc2 o_of2 o_ol
            replace o_r := owns_below o_r b7
            replace HB := HB.trans (b7.mono HB.size)
            have o_rc0 : w7.cell? ⟨w.heap.size, 0, none⟩ = some (.bool false) := var_load o_r (by simp) 0 _ rfl
            have o_rf0 : w7.frozen? ⟨w.heap.size, 0, none⟩ = false := var_frozen o_r (by simp) 0 _ rfl
            have o_rc1 : w7.cell? ⟨w.heap.size, 1, none⟩ = some (.string ⟨#[]⟩) := var_load o_r (by simp) 1 _ rfl
            have o_rf1 : w7.frozen? ⟨w.heap.size, 1, none⟩ = false := var_frozen o_r (by simp) 1 _ rfl
            have o_rc2 : w7.cell? ⟨w.heap.size, 2, none⟩ = some (.int .i64 0) := var_load o_r (by simp) 2 _ rfl
            have o_rf2 : w7.frozen? ⟨w.heap.size, 2, none⟩ = false := var_frozen o_r (by simp) 2 _ rfl
            have o_rl := var_lt o_r
            go_wp2
            obtain ⟨wf, hf⟩ : ∃ y, y = (((w7.setCell ⟨w.heap.size, 0, none⟩ (.bool false)).setCell ⟨w.heap.size, 1, none⟩ (.string ⟨#[]⟩)).setCell ⟨w.heap.size, 2, none⟩ (.int .i64 0)) := ⟨_, rfl⟩
            obtain ⟨o_r2, t2⟩ := var_some [.bool false, .string ⟨#[]⟩, .int .i64 0] 0 _ _ o_r (by simp)
            rw [show setAll w7 w.heap.size 0 [.bool false, .string ⟨#[]⟩, .int .i64 0] = wf from hf.symm] at o_r2 t2
            have HF := below_turned HB t2 (fun b hb => by simp at hb; omega)
            clear o_rc0 o_rf0 o_rc1 o_rf1 o_rc2 o_rf2 o_rl
            have o_r2c0 : wf.cell? ⟨w.heap.size, 0, none⟩ = some (.bool false) := var_load o_r2 (by simp) 0 _ rfl
            have o_r2c1 : wf.cell? ⟨w.heap.size, 1, none⟩ = some (.string ⟨#[]⟩) := var_load o_r2 (by simp) 1 _ rfl
            have o_r2c2 : wf.cell? ⟨w.heap.size, 2, none⟩ = some (.int .i64 0) := var_load o_r2 (by simp) 2 _ rfl
            have o_r2l := var_lt o_r2
            rw [← hf]
            exact bodyPost_ret (v := .tuple #[.agg #[.bool false, .string ⟨#[]⟩, .int .i64 0], .bool false]) (by simp [results, Tryz.results25, go_sem, o_r2c0, o_r2c1, o_r2c2]) rfl (made_po ⟨false, ⟨#[]⟩, 0⟩ false HF)
end Go.Proofs.YtialhhdhpjjkaaaGreatDoor.C9c
