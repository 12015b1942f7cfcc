import Derived.Test.YtckplhmielckeabDoorC10
import Derived.Test.YtckplhmielckeabDoorBb
/-
  Contract of chapter 10's SignWithStore, of the model.
-/
namespace Go.Proofs.YtckplhmielckeabDoor.C10b
open Go.ChangeShapes Go.WideShapes Go.ChangeAt Go.RowKit
open S0 S1 S9 Dm Fx M3 M8 C3 C6 C10
set_option linter.unusedVariables false
set_option linter.unusedSimpArgs false
set_option maxRecDepth 100000
theorem made_sg {w wf : World} (x : Fx.KeyStore) (n : Int) (b : Bool) (HB : Below w.heap.size w wf) : MadeLx x.dcs (fun vs => .tuple #[.agg vs.toArray, .int .i64 n, .bool b]) w (.returned (.tuple #[.agg #[.int .i64 x.Vendor, .int .i64 x.Serial, .int .i64 x.Seed, .int .i64 x.Counter], .int .i64 n, .bool b])) wf :=
  ⟨_, [], rfl, KeyStore.mkO, by simp, HB⟩
set_option maxHeartbeats 1600000 in
theorem specSign (w : World) (x : Fx.KeyStore) (s : ByteArray) (k : Int) (m : List Int) (us : List Value) (v : Value) (h : RdsL w w.heap.size x.dcs us) (ho : x.ok) (hs : s.size ≤ 16000000) (k0 : -9223372036854775808 ≤ k) (k1 : k ≤ 9223372036854775807) (g : Rds w w.heap.size (numsD m) v) (hm : okInts m) (hn : m.length ≤ 1048576) :
    Calls Tryd.prog 15 #[.agg us.toArray, .string s, .int .i64 k, v] w (MadeLx (signX x).dcs (fun vs => .tuple #[.agg vs.toArray, .int .i64 (signV x s k m), .bool (signB x)]) w) := by
  obtain rfl := KeyStore.rds h
  obtain ⟨A, c, rfl, hr⟩ := rds_flat g
  clear h g
  obtain ⟨n, hnn⟩ : ∃ n, n = m.length := ⟨_, rfl⟩
  rw [← hnn] at hr hn ⊢
  have HM := Lib.hid (show okInts m from hm)
  have HO := Lib.hid ho
  clear hm ho hnn
  obtain ⟨w0, hw0⟩ : ∃ y, y = w.alloc (.cells #[.int .i64 x.Vendor, .int .i64 x.Serial, .int .i64 x.Seed, .int .i64 x.Counter] 27) := ⟨_, rfl⟩
  obtain ⟨w1, hw1⟩ : ∃ y, y = w0.alloc (.cells #[.int .i64 0, .int .i64 0, .int .i64 0, .int .i64 0] 27) := ⟨_, rfl⟩
  have s0 : w0.heap.size = w.heap.size + 1 := by rw [hw0]; simp
  have o_p := var_owns w 27 4 [.int .i64 x.Vendor, .int .i64 x.Serial, .int .i64 x.Seed, .int .i64 x.Counter] rfl
  have o_r := var_owns w0 27 4 [.int .i64 0, .int .i64 0, .int .i64 0, .int .i64 0] rfl
  have b0 : Below w.heap.size w w0 := hw0 ▸ (Below.refl _ _).alloc (Nat.le_refl _) _
  have b1 : Below w0.heap.size w0 w1 := hw1 ▸ (Below.refl _ _).alloc (Nat.le_refl _) _
  rw [← hw0] at o_p
  rw [← hw1, s0] at o_r
  replace o_p := owns_below o_p b1
  have HB : Below w.heap.size w w1 := b0.trans (b1.mono b0.size)
  clear b0 b1
  have HV := Lib.hid (fun wx : World => show Calls Tryd.prog 24 #[.agg #[.int .i64 x.Vendor, .int .i64 x.Serial, .int .i64 x.Seed, .int .i64 x.Counter]] wx (Gives (.bool (vst x)) wx) from specVst wx x _ (st_rds wx _ x))
  cases hv : vst x with
  | false =>
    have hsb : signB x = false := by unfold signB; rw [hv]; rfl
    have e1 : signX x = x := by unfold signX; rw [hsb]; rfl
    have e2 : signV x s k m = 0 := by unfold signV; rw [hsb]; rfl
    rw [e1, e2, hsb]
    have HE : True := trivial
    clear e1 e2 HE
    rw [hv] at HV
    clear hv hsb
    go_enter Tryd.func15, Tryd.ntmps15
    have o_pc0 : w1.cell? ⟨w.heap.size, 0, none⟩ = some (.int .i64 x.Vendor) := var_load o_p (by simp) 0 _ rfl
    have o_pf0 : w1.frozen? ⟨w.heap.size, 0, none⟩ = false := var_frozen o_p (by simp) 0 _ rfl
    have o_pc1 : w1.cell? ⟨w.heap.size, 1, none⟩ = some (.int .i64 x.Serial) := var_load o_p (by simp) 1 _ rfl
    have o_pf1 : w1.frozen? ⟨w.heap.size, 1, none⟩ = false := var_frozen o_p (by simp) 1 _ rfl
    have o_pc2 : w1.cell? ⟨w.heap.size, 2, none⟩ = some (.int .i64 x.Seed) := var_load o_p (by simp) 2 _ rfl
    have o_pf2 : w1.frozen? ⟨w.heap.size, 2, none⟩ = false := var_frozen o_p (by simp) 2 _ rfl
    have o_pc3 : w1.cell? ⟨w.heap.size, 3, none⟩ = some (.int .i64 x.Counter) := var_load o_p (by simp) 3 _ rfl
    have o_pf3 : w1.frozen? ⟨w.heap.size, 3, none⟩ = false := var_frozen o_p (by simp) 3 _ rfl
    have o_pl := var_lt o_p
    go_wp2_with fail
    rw [← hw0, ← hw1]
    clear hw0 hw1
    (refine (HV.out _).mono ?_); rintro e w2 ⟨rfl, b2⟩
    clear o_pc0 o_pf0 o_pc1 o_pf1 o_pc2 o_pf2 o_pc3 o_pf3 o_pl
    replace o_p := owns_below o_p b2
    replace o_r := owns_below o_r b2
    replace HB := HB.trans (b2.mono HB.size)
    have o_pc0 : w2.cell? ⟨w.heap.size, 0, none⟩ = some (.int .i64 x.Vendor) := var_load o_p (by simp) 0 _ rfl
    have o_pf0 : w2.frozen? ⟨w.heap.size, 0, none⟩ = false := var_frozen o_p (by simp) 0 _ rfl
    have o_pc1 : w2.cell? ⟨w.heap.size, 1, none⟩ = some (.int .i64 x.Serial) := var_load o_p (by simp) 1 _ rfl
    have o_pf1 : w2.frozen? ⟨w.heap.size, 1, none⟩ = false := var_frozen o_p (by simp) 1 _ rfl
    have o_pc2 : w2.cell? ⟨w.heap.size, 2, none⟩ = some (.int .i64 x.Seed) := var_load o_p (by simp) 2 _ rfl
    have o_pf2 : w2.frozen? ⟨w.heap.size, 2, none⟩ = false := var_frozen o_p (by simp) 2 _ rfl
    have o_pc3 : w2.cell? ⟨w.heap.size, 3, none⟩ = some (.int .i64 x.Counter) := var_load o_p (by simp) 3 _ rfl
    have o_pf3 : w2.frozen? ⟨w.heap.size, 3, none⟩ = false := var_frozen o_p (by simp) 3 _ rfl
    have o_pl := var_lt o_p
    have o_rc0 : w2.cell? ⟨(w.heap.size + 1), 0, none⟩ = some (.int .i64 0) := var_load o_r (by simp) 0 _ rfl
    have o_rf0 : w2.frozen? ⟨(w.heap.size + 1), 0, none⟩ = false := var_frozen o_r (by simp) 0 _ rfl
    have o_rc1 : w2.cell? ⟨(w.heap.size + 1), 1, none⟩ = some (.int .i64 0) := var_load o_r (by simp) 1 _ rfl
    have o_rf1 : w2.frozen? ⟨(w.heap.size + 1), 1, none⟩ = false := var_frozen o_r (by simp) 1 _ rfl
    have o_rc2 : w2.cell? ⟨(w.heap.size + 1), 2, none⟩ = some (.int .i64 0) := var_load o_r (by simp) 2 _ rfl
    have o_rf2 : w2.frozen? ⟨(w.heap.size + 1), 2, none⟩ = false := var_frozen o_r (by simp) 2 _ rfl
    have o_rc3 : w2.cell? ⟨(w.heap.size + 1), 3, none⟩ = some (.int .i64 0) := var_load o_r (by simp) 3 _ rfl
    have o_rf3 : w2.frozen? ⟨(w.heap.size + 1), 3, none⟩ = false := var_frozen o_r (by simp) 3 _ rfl
    have o_rl := var_lt o_r
    go_wp2
    obtain ⟨wf, hf⟩ : ∃ y, y = ((((w2.setCell ⟨w.heap.size + 1, 0, none⟩ (.int .i64 x.Vendor)).setCell ⟨w.heap.size + 1, 1, none⟩ (.int .i64 x.Serial)).setCell ⟨w.heap.size + 1, 2, none⟩ (.int .i64 x.Seed)).setCell ⟨w.heap.size + 1, 3, none⟩ (.int .i64 x.Counter)) := ⟨_, rfl⟩
    obtain ⟨o_r2, t2⟩ := var_some [.int .i64 x.Vendor, .int .i64 x.Serial, .int .i64 x.Seed, .int .i64 x.Counter] 0 _ _ o_r (by simp)
    rw [show setAll w2 (w.heap.size + 1) 0 [.int .i64 x.Vendor, .int .i64 x.Serial, .int .i64 x.Seed, .int .i64 x.Counter] = wf from hf.symm] at o_r2 t2
    have HF := below_turned HB t2 (fun b hb => by simp at hb; omega)
    clear o_rc0 o_rf0 o_rc1 o_rf1 o_rc2 o_rf2 o_rc3 o_rf3 o_rl
    have o_r2c0 : wf.cell? ⟨(w.heap.size + 1), 0, none⟩ = some (.int .i64 x.Vendor) := var_load o_r2 (by simp) 0 _ rfl
    have o_r2c1 : wf.cell? ⟨(w.heap.size + 1), 1, none⟩ = some (.int .i64 x.Serial) := var_load o_r2 (by simp) 1 _ rfl
    have o_r2c2 : wf.cell? ⟨(w.heap.size + 1), 2, none⟩ = some (.int .i64 x.Seed) := var_load o_r2 (by simp) 2 _ rfl
    have o_r2c3 : wf.cell? ⟨(w.heap.size + 1), 3, none⟩ = some (.int .i64 x.Counter) := var_load o_r2 (by simp) 3 _ rfl
    have o_r2l := var_lt o_r2
    rw [← hf]
    refine bodyPost_ret (v := .tuple #[.agg #[.int .i64 x.Vendor, .int .i64 x.Serial, .int .i64 x.Seed, .int .i64 x.Counter], .int .i64 0, .bool false]) (by simp [results, Tryd.results15, go_sem, o_r2c0, o_r2c1, o_r2c2, o_r2c3]) rfl ?_
    exact made_sg x 0 false HF
  | true =>
    rw [hv] at HV
    by_cases hc : x.Counter = 1000000
    · have hsb : signB x = false := by unfold signB; rw [hv, decide_eq_true hc]; rfl
      have e1 : signX x = x := by unfold signX; rw [hsb]; rfl
      have e2 : signV x s k m = 0 := by unfold signV; rw [hsb]; rfl
      rw [e1, e2, hsb]
      have HE : True := trivial
      clear e1 e2 HE hsb hv
      have hcb : (x.Counter == 1000000) = true := by simpa using hc
      clear hc
      go_enter Tryd.func15, Tryd.ntmps15
      have o_pc0 : w1.cell? ⟨w.heap.size, 0, none⟩ = some (.int .i64 x.Vendor) := var_load o_p (by simp) 0 _ rfl
      have o_pf0 : w1.frozen? ⟨w.heap.size, 0, none⟩ = false := var_frozen o_p (by simp) 0 _ rfl
      have o_pc1 : w1.cell? ⟨w.heap.size, 1, none⟩ = some (.int .i64 x.Serial) := var_load o_p (by simp) 1 _ rfl
      have o_pf1 : w1.frozen? ⟨w.heap.size, 1, none⟩ = false := var_frozen o_p (by simp) 1 _ rfl
      have o_pc2 : w1.cell? ⟨w.heap.size, 2, none⟩ = some (.int .i64 x.Seed) := var_load o_p (by simp) 2 _ rfl
      have o_pf2 : w1.frozen? ⟨w.heap.size, 2, none⟩ = false := var_frozen o_p (by simp) 2 _ rfl
      have o_pc3 : w1.cell? ⟨w.heap.size, 3, none⟩ = some (.int .i64 x.Counter) := var_load o_p (by simp) 3 _ rfl
      have o_pf3 : w1.frozen? ⟨w.heap.size, 3, none⟩ = false := var_frozen o_p (by simp) 3 _ rfl
      have o_pl := var_lt o_p
      go_wp2_with fail
      rw [← hw0, ← hw1]
      clear hw0 hw1
      (refine (HV.out _).mono ?_); rintro e w2 ⟨rfl, b2⟩
      clear o_pc0 o_pf0 o_pc1 o_pf1 o_pc2 o_pf2 o_pc3 o_pf3 o_pl
      replace o_p := owns_below o_p b2
      replace o_r := owns_below o_r b2
      replace HB := HB.trans (b2.mono HB.size)
      have o_pc0 : w2.cell? ⟨w.heap.size, 0, none⟩ = some (.int .i64 x.Vendor) := var_load o_p (by simp) 0 _ rfl
      have o_pf0 : w2.frozen? ⟨w.heap.size, 0, none⟩ = false := var_frozen o_p (by simp) 0 _ rfl
      have o_pc1 : w2.cell? ⟨w.heap.size, 1, none⟩ = some (.int .i64 x.Serial) := var_load o_p (by simp) 1 _ rfl
      have o_pf1 : w2.frozen? ⟨w.heap.size, 1, none⟩ = false := var_frozen o_p (by simp) 1 _ rfl
      have o_pc2 : w2.cell? ⟨w.heap.size, 2, none⟩ = some (.int .i64 x.Seed) := var_load o_p (by simp) 2 _ rfl
      have o_pf2 : w2.frozen? ⟨w.heap.size, 2, none⟩ = false := var_frozen o_p (by simp) 2 _ rfl
      have o_pc3 : w2.cell? ⟨w.heap.size, 3, none⟩ = some (.int .i64 x.Counter) := var_load o_p (by simp) 3 _ rfl
      have o_pf3 : w2.frozen? ⟨w.heap.size, 3, none⟩ = false := var_frozen o_p (by simp) 3 _ rfl
      have o_pl := var_lt o_p
      have o_rc0 : w2.cell? ⟨(w.heap.size + 1), 0, none⟩ = some (.int .i64 0) := var_load o_r (by simp) 0 _ rfl
      have o_rf0 : w2.frozen? ⟨(w.heap.size + 1), 0, none⟩ = false := var_frozen o_r (by simp) 0 _ rfl
      have o_rc1 : w2.cell? ⟨(w.heap.size + 1), 1, none⟩ = some (.int .i64 0) := var_load o_r (by simp) 1 _ rfl
      have o_rf1 : w2.frozen? ⟨(w.heap.size + 1), 1, none⟩ = false := var_frozen o_r (by simp) 1 _ rfl
      have o_rc2 : w2.cell? ⟨(w.heap.size + 1), 2, none⟩ = some (.int .i64 0) := var_load o_r (by simp) 2 _ rfl
      have o_rf2 : w2.frozen? ⟨(w.heap.size + 1), 2, none⟩ = false := var_frozen o_r (by simp) 2 _ rfl
      have o_rc3 : w2.cell? ⟨(w.heap.size + 1), 3, none⟩ = some (.int .i64 0) := var_load o_r (by simp) 3 _ rfl
      have o_rf3 : w2.frozen? ⟨(w.heap.size + 1), 3, none⟩ = false := var_frozen o_r (by simp) 3 _ rfl
      have o_rl := var_lt o_r
      go_wp2
      obtain ⟨wf, hf⟩ : ∃ y, y = ((((w2.setCell ⟨w.heap.size + 1, 0, none⟩ (.int .i64 x.Vendor)).setCell ⟨w.heap.size + 1, 1, none⟩ (.int .i64 x.Serial)).setCell ⟨w.heap.size + 1, 2, none⟩ (.int .i64 x.Seed)).setCell ⟨w.heap.size + 1, 3, none⟩ (.int .i64 x.Counter)) := ⟨_, rfl⟩
      obtain ⟨o_r2, t2⟩ := var_some [.int .i64 x.Vendor, .int .i64 x.Serial, .int .i64 x.Seed, .int .i64 x.Counter] 0 _ _ o_r (by simp)
      rw [show setAll w2 (w.heap.size + 1) 0 [.int .i64 x.Vendor, .int .i64 x.Serial, .int .i64 x.Seed, .int .i64 x.Counter] = wf from hf.symm] at o_r2 t2
      have HF := below_turned HB t2 (fun b hb => by simp at hb; omega)
      clear o_rc0 o_rf0 o_rc1 o_rf1 o_rc2 o_rf2 o_rc3 o_rf3 o_rl
      have o_r2c0 : wf.cell? ⟨(w.heap.size + 1), 0, none⟩ = some (.int .i64 x.Vendor) := var_load o_r2 (by simp) 0 _ rfl
      have o_r2c1 : wf.cell? ⟨(w.heap.size + 1), 1, none⟩ = some (.int .i64 x.Serial) := var_load o_r2 (by simp) 1 _ rfl
      have o_r2c2 : wf.cell? ⟨(w.heap.size + 1), 2, none⟩ = some (.int .i64 x.Seed) := var_load o_r2 (by simp) 2 _ rfl
      have o_r2c3 : wf.cell? ⟨(w.heap.size + 1), 3, none⟩ = some (.int .i64 x.Counter) := var_load o_r2 (by simp) 3 _ rfl
      have o_r2l := var_lt o_r2
      rw [← hf]
      refine bodyPost_ret (v := .tuple #[.agg #[.int .i64 x.Vendor, .int .i64 x.Serial, .int .i64 x.Seed, .int .i64 x.Counter], .int .i64 0, .bool false]) (by simp [results, Tryd.results15, go_sem, o_r2c0, o_r2c1, o_r2c2, o_r2c3]) rfl ?_
      exact made_sg x 0 false HF
    · have hsb : signB x = true := by unfold signB; rw [hv, decide_eq_false hc]; rfl
      have e1 : signX x = ⟨x.Vendor, x.Serial, x.Seed, x.Counter + 1⟩ := by unfold signX; rw [hsb]; rfl
      have e2 : signV x s k m = sgn (prvS x s k) (m ++ [x.Counter + 1]) := by unfold signV; rw [hsb]; rfl
      rw [e1, e2, hsb]
      have hcr : 0 ≤ x.Counter ∧ x.Counter ≤ 999999 := by
        unfold vst at hv
        simp only [Bool.and_eq_true, decide_eq_true_eq] at hv
        have := hv.2
        omega
      clear e1 e2 hsb hv
      have hcb : (x.Counter == 1000000) = false := by simpa using hc
      clear hc
      go_enter Tryd.func15, Tryd.ntmps15
      have o_pc0 : w1.cell? ⟨w.heap.size, 0, none⟩ = some (.int .i64 x.Vendor) := var_load o_p (by simp) 0 _ rfl
      have o_pf0 : w1.frozen? ⟨w.heap.size, 0, none⟩ = false := var_frozen o_p (by simp) 0 _ rfl
      have o_pc1 : w1.cell? ⟨w.heap.size, 1, none⟩ = some (.int .i64 x.Serial) := var_load o_p (by simp) 1 _ rfl
      have o_pf1 : w1.frozen? ⟨w.heap.size, 1, none⟩ = false := var_frozen o_p (by simp) 1 _ rfl
      have o_pc2 : w1.cell? ⟨w.heap.size, 2, none⟩ = some (.int .i64 x.Seed) := var_load o_p (by simp) 2 _ rfl
      have o_pf2 : w1.frozen? ⟨w.heap.size, 2, none⟩ = false := var_frozen o_p (by simp) 2 _ rfl
      have o_pc3 : w1.cell? ⟨w.heap.size, 3, none⟩ = some (.int .i64 x.Counter) := var_load o_p (by simp) 3 _ rfl
      have o_pf3 : w1.frozen? ⟨w.heap.size, 3, none⟩ = false := var_frozen o_p (by simp) 3 _ rfl
      have o_pl := var_lt o_p
      go_wp2_with fail
      rw [← hw0, ← hw1]
      clear hw0 hw1
      (refine (HV.out _).mono ?_); rintro e w2 ⟨rfl, b2⟩
      clear o_pc0 o_pf0 o_pc1 o_pf1 o_pc2 o_pf2 o_pc3 o_pf3 o_pl
      replace o_p := owns_below o_p b2
      replace o_r := owns_below o_r b2
      replace HB := HB.trans (b2.mono HB.size)
      have o_pc0 : w2.cell? ⟨w.heap.size, 0, none⟩ = some (.int .i64 x.Vendor) := var_load o_p (by simp) 0 _ rfl
      have o_pf0 : w2.frozen? ⟨w.heap.size, 0, none⟩ = false := var_frozen o_p (by simp) 0 _ rfl
      have o_pc1 : w2.cell? ⟨w.heap.size, 1, none⟩ = some (.int .i64 x.Serial) := var_load o_p (by simp) 1 _ rfl
      have o_pf1 : w2.frozen? ⟨w.heap.size, 1, none⟩ = false := var_frozen o_p (by simp) 1 _ rfl
      have o_pc2 : w2.cell? ⟨w.heap.size, 2, none⟩ = some (.int .i64 x.Seed) := var_load o_p (by simp) 2 _ rfl
      have o_pf2 : w2.frozen? ⟨w.heap.size, 2, none⟩ = false := var_frozen o_p (by simp) 2 _ rfl
      have o_pc3 : w2.cell? ⟨w.heap.size, 3, none⟩ = some (.int .i64 x.Counter) := var_load o_p (by simp) 3 _ rfl
      have o_pf3 : w2.frozen? ⟨w.heap.size, 3, none⟩ = false := var_frozen o_p (by simp) 3 _ rfl
      have o_pl := var_lt o_p
      have o_rc0 : w2.cell? ⟨(w.heap.size + 1), 0, none⟩ = some (.int .i64 0) := var_load o_r (by simp) 0 _ rfl
      have o_rf0 : w2.frozen? ⟨(w.heap.size + 1), 0, none⟩ = false := var_frozen o_r (by simp) 0 _ rfl
      have o_rc1 : w2.cell? ⟨(w.heap.size + 1), 1, none⟩ = some (.int .i64 0) := var_load o_r (by simp) 1 _ rfl
      have o_rf1 : w2.frozen? ⟨(w.heap.size + 1), 1, none⟩ = false := var_frozen o_r (by simp) 1 _ rfl
      have o_rc2 : w2.cell? ⟨(w.heap.size + 1), 2, none⟩ = some (.int .i64 0) := var_load o_r (by simp) 2 _ rfl
      have o_rf2 : w2.frozen? ⟨(w.heap.size + 1), 2, none⟩ = false := var_frozen o_r (by simp) 2 _ rfl
      have o_rc3 : w2.cell? ⟨(w.heap.size + 1), 3, none⟩ = some (.int .i64 0) := var_load o_r (by simp) 3 _ rfl
      have o_rf3 : w2.frozen? ⟨(w.heap.size + 1), 3, none⟩ = false := var_frozen o_r (by simp) 3 _ rfl
      have o_rl := var_lt o_r
      have lr2 : w.heap.size + 1 < w2.heap.size := var_lt o_r
      have hc0 : -9223372036854775808 ≤ x.Counter + 1 := by omega
      have hc1 : x.Counter + 1 ≤ 9223372036854775807 := by omega
      obtain ⟨w3, hw3⟩ : ∃ y, y = w2.alloc (.cells #[.int .i64 x.Vendor, .int .i64 x.Serial, .int .i64 x.Seed, .int .i64 (x.Counter + 1)] 27) := ⟨_, rfl⟩
      have o_o := var_owns w2 27 4 [.int .i64 x.Vendor, .int .i64 x.Serial, .int .i64 x.Seed, .int .i64 (x.Counter + 1)] rfl
      have b3 : Below w2.heap.size w2 w3 := hw3 ▸ (Below.refl _ _).alloc (Nat.le_refl _) _
      rw [← hw3] at o_o
      go_wp2_with fail
      rw [← hw3]
      clear o_pc0 o_pf0 o_pc1 o_pf1 o_pc2 o_pf2 o_pc3 o_pf3 o_pl
      clear o_rc0 o_rf0 o_rc1 o_rf1 o_rc2 o_rf2 o_rc3 o_rf3 o_rl
      clear hw3
      replace o_p := owns_below o_p b3
      replace o_r := owns_below o_r b3
      replace HB := HB.trans (b3.mono HB.size)
      clear b3 hcb HV
      have HF := Lib.hid (show ∀ wx, Below w3.heap.size w3 wx → wx.cell? ⟨w.heap.size, 0, none⟩ = some (.int .i64 x.Vendor) ∧ wx.cell? ⟨w.heap.size, 1, none⟩ = some (.int .i64 x.Serial) ∧ wx.cell? ⟨w.heap.size, 2, none⟩ = some (.int .i64 x.Seed) ∧ wx.cell? ⟨w.heap.size, 3, none⟩ = some (.int .i64 x.Counter) ∧ wx.cell? ⟨w2.heap.size, 0, none⟩ = some (.int .i64 x.Vendor) ∧ wx.cell? ⟨w2.heap.size, 1, none⟩ = some (.int .i64 x.Serial) ∧ wx.cell? ⟨w2.heap.size, 2, none⟩ = some (.int .i64 x.Seed) ∧ wx.cell? ⟨w2.heap.size, 3, none⟩ = some (.int .i64 (x.Counter + 1)) from fun wx hb =>
        ⟨var_load (owns_below o_p hb) (by simp) 0 _ rfl, var_load (owns_below o_p hb) (by simp) 1 _ rfl, var_load (owns_below o_p hb) (by simp) 2 _ rfl, var_load (owns_below o_p hb) (by simp) 3 _ rfl, var_load (owns_below o_o hb) (by simp) 0 _ rfl, var_load (owns_below o_o hb) (by simp) 1 _ rfl, var_load (owns_below o_o hb) (by simp) 2 _ rfl, var_load (owns_below o_o hb) (by simp) 3 _ rfl⟩)
      have HR := Lib.hid (show ∀ wx, Below w3.heap.size w3 wx → Rd wx wx.heap.size 1 A n (ints .i64 m) from fun wx hb => (hr.on HB).on hb)
      have Hr := Lib.hid (show ∀ wx, Below w3.heap.size w3 wx → Owns wx (w.heap.size + 1) (varD 27 4 [.int .i64 0, .int .i64 0, .int .i64 0, .int .i64 0]) (.slice (some ⟨w.heap.size + 1, 0, none⟩) 1 1) [w.heap.size + 1] from fun wx hb => owns_below o_r hb)
      have Hp := Lib.hid (show ∀ wx, Below w3.heap.size w3 wx → Owns wx w.heap.size (varD 27 4 [.int .i64 x.Vendor, .int .i64 x.Serial, .int .i64 x.Seed, .int .i64 x.Counter]) (.slice (some ⟨w.heap.size, 0, none⟩) 1 1) [w.heap.size] from fun wx hb => owns_below o_p hb)
      have Ho := Lib.hid (show ∀ wx, Below w3.heap.size w3 wx → Owns wx w2.heap.size (varD 27 4 [.int .i64 x.Vendor, .int .i64 x.Serial, .int .i64 x.Seed, .int .i64 (x.Counter + 1)]) (.slice (some ⟨w2.heap.size, 0, none⟩) 1 1) [w2.heap.size] from fun wx hb => owns_below o_o hb)
      have lp := var_lt o_p
      have lo := var_lt o_o
      have lr := var_lt o_r
      clear hr o_p o_o o_r
      obtain ⟨wd, hd⟩ : ∃ y, y = w3.drew := ⟨_, rfl⟩
      have BB : Below w3.heap.size w3 wd := hd ▸ drewN_below w3 1 _
      have zd := BB.size
      have HM2 := Lib.hid (show okInts (m ++ [x.Counter + 1]) from HM.out.app (okInts.one hc0 hc1))
      refine wp_region_held_drew (S := (fun wx => wx.cell? ⟨w.heap.size, 0, none⟩ = some (.int .i64 x.Vendor) ∧ wx.cell? ⟨w.heap.size, 1, none⟩ = some (.int .i64 x.Serial) ∧ wx.cell? ⟨w.heap.size, 2, none⟩ = some (.int .i64 x.Seed) ∧ wx.cell? ⟨w.heap.size, 3, none⟩ = some (.int .i64 x.Counter) ∧ wx.cell? ⟨w2.heap.size, 0, none⟩ = some (.int .i64 x.Vendor) ∧ wx.cell? ⟨w2.heap.size, 1, none⟩ = some (.int .i64 x.Serial) ∧ wx.cell? ⟨w2.heap.size, 2, none⟩ = some (.int .i64 x.Seed) ∧ wx.cell? ⟨w2.heap.size, 3, none⟩ = some (.int .i64 (x.Counter + 1)))) (by kernel_rfl) ?_ (fun hHeld => ?_)
      · exact HF.out _ (hd ▸ BB)
      rw [← hd] at hHeld ⊢
      clear hd
      refine wpAnyH_take (i := 0) (oi := ?oir_0_1) (v := ?vr_0_1) ?hir_0_1 (by kernel_rfl) (by kernel_rfl) (by kernel_rfl) ?hQr_0_1 (Or.inl ⟨?hwr_0_1, ?hyr_0_1⟩) (by assumption) ?_
      case hir_0_1 => simp only [List.getElem?_toArray, List.getElem?_cons_zero]; rfl
      case hQr_0_1 => exact fun _ _ _ h => h
      case hwr_0_1 => rfl
      case hyr_0_1 => intro w hSw; (try dsimp only at hSw); (first | (go_simp; done) | (go_simp; with_reducible rfl))
      try simp only [Act.put, List.setIfInBounds_toArray, List.set_cons_zero, List.set_cons_succ]
      refine wpAnyH_take (i := 1) (oi := ?oir_1_2) (v := ?vr_1_2) ?hir_1_2 (by kernel_rfl) (by kernel_rfl) (by kernel_rfl) ?hQr_1_2 (Or.inl ⟨?hwr_1_2, ?hyr_1_2⟩) (by assumption) ?_
      case hir_1_2 => simp only [List.getElem?_toArray, List.getElem?_cons_succ, List.getElem?_cons_zero]; rfl
      case hQr_1_2 => exact fun _ _ _ h => h
      case hwr_1_2 => rfl
      case hyr_1_2 => intro w hSw; (try dsimp only at hSw); (first | (go_simp; done) | (go_simp; with_reducible rfl))
      try simp only [Act.put, List.setIfInBounds_toArray, List.set_cons_zero, List.set_cons_succ]
      refine wpAnyH_take (i := 2) (oi := ?oir_2_3) (v := ?vr_2_3) ?hir_2_3 (by kernel_rfl) (by kernel_rfl) (by kernel_rfl) ?hQr_2_3 (Or.inl ⟨?hwr_2_3, ?hyr_2_3⟩) (by assumption) ?_
      case hir_2_3 => simp only [List.getElem?_toArray, List.getElem?_cons_succ, List.getElem?_cons_zero]; rfl
      case hQr_2_3 => exact fun _ _ _ h => h
      case hwr_2_3 => rfl
      case hyr_2_3 => intro w hSw; (try dsimp only at hSw); (first | (go_simp; done) | (go_simp; with_reducible rfl))
      try simp only [Act.put, List.setIfInBounds_toArray, List.set_cons_zero, List.set_cons_succ]
      refine wpAnyH_take (i := 3) (oi := ?oir_3_4) (v := ?vr_3_4) ?hir_3_4 (by kernel_rfl) (by kernel_rfl) (by kernel_rfl) ?hQr_3_4 (Or.inl ⟨?hwr_3_4, ?hyr_3_4⟩) (by assumption) ?_
      case hir_3_4 => simp only [List.getElem?_toArray, List.getElem?_cons_succ, List.getElem?_cons_zero]; rfl
      case hQr_3_4 => exact fun _ _ _ h => h
      case hwr_3_4 => rfl
      case hyr_3_4 => intro w hSw; (try dsimp only at hSw); (first | (go_simp; done) | (go_simp; with_reducible rfl))
      try simp only [Act.put, List.setIfInBounds_toArray, List.set_cons_zero, List.set_cons_succ]
      refine wpAnyH_take (i := 6) (oi := ?oir_6_5) (v := ?vr_6_5) ?hir_6_5 (by kernel_rfl) (by kernel_rfl) (by kernel_rfl) ?hQr_6_5 (Or.inl ⟨?hwr_6_5, ?hyr_6_5⟩) (by assumption) ?_
      case hir_6_5 => simp only [List.getElem?_toArray, List.getElem?_cons_succ, List.getElem?_cons_zero]; rfl
      case hQr_6_5 => exact fun _ _ _ h => h
      case hwr_6_5 => rfl
      case hyr_6_5 => intro w hSw; (try dsimp only at hSw); (first | (go_simp; done) | (go_simp; with_reducible rfl))
      try simp only [Act.put, List.setIfInBounds_toArray, List.set_cons_zero, List.set_cons_succ]
      refine wpAnyH_take (i := 8) (oi := ?oir_8_6) (v := ?vr_8_6) ?hir_8_6 (by kernel_rfl) (by kernel_rfl) (by kernel_rfl) ?hQr_8_6 (Or.inl ⟨?hwr_8_6, ?hyr_8_6⟩) (by assumption) ?_
      case hir_8_6 => simp only [List.getElem?_toArray, List.getElem?_cons_succ, List.getElem?_cons_zero]; rfl
      case hQr_8_6 => exact fun _ _ _ h => h
      case hwr_8_6 => rfl
      case hyr_8_6 => intro w hSw; (try dsimp only at hSw); (first | (go_simp; done) | (go_simp; with_reducible rfl))
      try simp only [Act.put, List.setIfInBounds_toArray, List.set_cons_zero, List.set_cons_succ]
      refine wpAnyH_take (i := 9) (oi := ?oir_9_7) (v := ?vr_9_7) ?hir_9_7 (by kernel_rfl) (by kernel_rfl) (by kernel_rfl) ?hQr_9_7 (Or.inl ⟨?hwr_9_7, ?hyr_9_7⟩) (by assumption) ?_
      case hir_9_7 => simp only [List.getElem?_toArray, List.getElem?_cons_succ, List.getElem?_cons_zero]; rfl
      case hQr_9_7 => exact fun _ _ _ h => h
      case hwr_9_7 => rfl
      case hyr_9_7 => intro w hSw; (try dsimp only at hSw); (first | (go_simp; done) | (go_simp; with_reducible rfl))
      try simp only [Act.put, List.setIfInBounds_toArray, List.set_cons_zero, List.set_cons_succ]
      refine wpAnyH_ready (rs := [4, 5, 10]) (by kernel_rfl) (by simp) ?_
      refine AllReadyH.cons (o := ?or_4_8) ?hir_4_8 (fun K hK => ?gr_4_8) (AllReadyH.cons (o := ?or_5_8) ?hir_5_8 (fun K hK => ?gr_5_8) (AllReadyH.cons (o := ?or_10_8) ?hir_10_8 (fun K hK => ?gr_10_8) AllReadyH.nil))
      case hir_4_8 => simp only [List.getElem?_toArray, List.getElem?_cons_succ, List.getElem?_cons_zero]; rfl
      case hir_5_8 => simp only [List.getElem?_toArray, List.getElem?_cons_succ, List.getElem?_cons_zero]; rfl
      case hir_10_8 => simp only [List.getElem?_toArray, List.getElem?_cons_succ, List.getElem?_cons_zero]; rfl
      case gr_4_8 =>
        go_simp
        go_at_call 26
        (with_reducible refine (specPrvS _ x s k _ (st_rds _ _ x) HO.out hs k0 k1).mono ?_)
        rintro e x1 ⟨rfl, bx1⟩
        have BB : Below w3.heap.size w3 x1 := BB.trans (bx1.mono BB.size)
        have zx1 := bx1.size
        refine hK.out _ _ ?_ (fun hHeld => ?_)
        · exact HF.out _ BB
        clear hK K
        try simp only [Act.put, List.setIfInBounds_toArray, List.set_cons_zero, List.set_cons_succ]
        refine wpAnyH_ready (rs := [5, 10]) (by kernel_rfl) (by simp) ?_
        refine AllReadyH.cons (o := ?or_5_9) ?hir_5_9 (fun K hK => ?gr_5_9) (AllReadyH.cons (o := ?or_10_9) ?hir_10_9 (fun K hK => ?gr_10_9) AllReadyH.nil)
        case hir_5_9 => simp only [List.getElem?_toArray, List.getElem?_cons_succ, List.getElem?_cons_zero]; rfl
        case hir_10_9 => simp only [List.getElem?_toArray, List.getElem?_cons_succ, List.getElem?_cons_zero]; rfl
        case gr_5_9 =>
          go_simp
          obtain ⟨x2, hx2⟩ : ∃ y, y = x1.alloc (.cells #[] 3) := ⟨_, rfl⟩
          have oA := own_base (own_ints x1 [] 0 rfl (by omega)) BB.size
          rw [show x1.alloc (.cells (ints .i64 []).toArray 3) = x2 from hx2.symm] at oA
          rw [← hx2]
          have bx2 : Below x1.heap.size x1 x2 := hx2 ▸ (Below.refl _ _).alloc (Nat.le_refl _) _
          have lA : x1.heap.size < x2.heap.size := by rw [hx2]; simp
          clear hx2
          have BB : Below w3.heap.size w3 x2 := BB.trans (bx2.mono BB.size)
          have zx2 := bx2.size
          refine hK.out _ _ ?_ (fun hHeld => ?_)
          · exact HF.out _ BB
          clear hK K
          try simp only [Act.put, List.setIfInBounds_toArray, List.set_cons_zero, List.set_cons_succ]
          refine wpAnyH_ready (rs := [7, 10]) (by kernel_rfl) (by simp) ?_
          refine AllReadyH.cons (o := ?or_7_10) ?hir_7_10 (fun K hK => ?gr_7_10) (AllReadyH.cons (o := ?or_10_10) ?hir_10_10 (fun K hK => ?gr_10_10) AllReadyH.nil)
          case hir_7_10 => simp only [List.getElem?_toArray, List.getElem?_cons_succ, List.getElem?_cons_zero]; rfl
          case hir_10_10 => simp only [List.getElem?_toArray, List.getElem?_cons_succ, List.getElem?_cons_zero]; rfl
          case gr_7_10 =>
            refine Ra.stepI x2 rfl (.tmp 31) (.tmp 32) rfl w3.heap.size (.slice (some ⟨x1.heap.size, 0, none⟩) 0 0) 0 _ (by simp [Act.eval]) oA _ (A) n c m (by simp [Act.eval]) (HR.out _ BB) (by omega) BB.size ?_
            intro v4 x3 o4 g4 h4
            have BB : Below w3.heap.size w3 x3 := BB.grown g4 BB.size (fun j hj => (oA.lt j hj).1)
            have zx3 := g4.size
            rw [ints_app, Nat.zero_add, List.nil_append] at o4
            obtain ⟨A4, c4, rfl⟩ := own_nil_form o4
            clear oA
            have oA := o4
            clear o4
            refine hK.out _ _ ?_ (fun hHeld => ?_)
            · exact HF.out _ BB
            clear hK K
            try simp only [Act.put, List.setIfInBounds_toArray, List.set_cons_zero, List.set_cons_succ]
            refine wpAnyH_ready (rs := [10]) (by kernel_rfl) (by simp) ?_
            refine AllReadyH.cons (o := ?or_10_11) ?hir_10_11 (fun K hK => ?gr_10_11) AllReadyH.nil
            case hir_10_11 => simp only [List.getElem?_toArray, List.getElem?_cons_succ, List.getElem?_cons_zero]; rfl
            case gr_10_11 =>
              go_simp
              obtain ⟨x4, hx4⟩ : ∃ y, y = x3.alloc (.cells #[.int .i64 (x.Counter + 1)] 3) := ⟨_, rfl⟩
              have oD := own_base (own_ints x3 [x.Counter + 1] 1 rfl (by omega)) BB.size
              rw [show x3.alloc (.cells (ints .i64 [x.Counter + 1]).toArray 3) = x4 from hx4.symm] at oD
              rw [← hx4]
              have bx4 : Below x3.heap.size x3 x4 := hx4 ▸ (Below.refl _ _).alloc (Nat.le_refl _) _
              have lD : x3.heap.size < x4.heap.size := by rw [hx4]; simp
              clear hx4
              have BB : Below w3.heap.size w3 x4 := BB.trans (bx4.mono BB.size)
              replace oA := own_below oA bx4
              have zx4 := bx4.size
              refine hK.out _ _ ?_ (fun hHeld => ?_)
              · exact HF.out _ BB
              clear hK K
              try simp only [Act.put, List.setIfInBounds_toArray, List.set_cons_zero, List.set_cons_succ]
              refine wpAnyH_ready (rs := [11]) (by kernel_rfl) (by simp) ?_
              refine AllReadyH.cons (o := ?or_11_12) ?hir_11_12 (fun K hK => ?gr_11_12) AllReadyH.nil
              case hir_11_12 => simp only [List.getElem?_toArray, List.getElem?_cons_succ, List.getElem?_cons_zero]; rfl
              case gr_11_12 =>
                refine Ra.stepI x4 rfl (.tmp 33) (.tmp 36) rfl w3.heap.size (.slice A4 n c4) n _ (by simp [Act.eval]) oA _ (some ⟨x3.heap.size, 0, none⟩) 1 1 [x.Counter + 1] (by simp [Act.eval]) (Rd.own oD) (by omega) BB.size ?_
                intro v5 x5 o5 g5 h5
                have BB : Below w3.heap.size w3 x5 := BB.grown g5 BB.size (fun j hj => (oA.lt j hj).1)
                have zx5 := g5.size
                rw [ints_app] at o5
                obtain ⟨A5, c5, rfl⟩ := own_nil_form o5
                clear oA
                have oA := o5
                clear o5
                try clear oD
                refine hK.out _ _ ?_ (fun hHeld => ?_)
                · exact HF.out _ BB
                clear hK K
                try simp only [Act.put, List.setIfInBounds_toArray, List.set_cons_zero, List.set_cons_succ]
                refine wpAnyH_ready (rs := [12]) (by kernel_rfl) (by simp) ?_
                refine AllReadyH.cons (o := ?or_12_13) ?hir_12_13 (fun K hK => ?gr_12_13) AllReadyH.nil
                case hir_12_13 => simp only [List.getElem?_toArray, List.getElem?_cons_succ, List.getElem?_cons_zero]; rfl
                case gr_12_13 =>
                  go_simp
                  go_at_call 25
                  (with_reducible refine (specSgn _ A5 (n + 1) c5 (m ++ [x.Counter + 1]) (prvS x s k) (Rd.own oA) HM2.out (by omega)).mono ?_)
                  rintro e x6 ⟨rfl, bx6⟩
                  have BB : Below w3.heap.size w3 x6 := BB.trans (bx6.mono BB.size)
                  replace oA := own_below oA bx6
                  have zx6 := bx6.size
                  have o_rc0 : x6.cell? ⟨(w.heap.size + 1), 0, none⟩ = some (.int .i64 0) := var_load (Hr.out _ BB) (by simp) 0 _ rfl
                  have o_rf0 : x6.frozen? ⟨(w.heap.size + 1), 0, none⟩ = false := var_frozen (Hr.out _ BB) (by simp) 0 _ rfl
                  have o_rc1 : x6.cell? ⟨(w.heap.size + 1), 1, none⟩ = some (.int .i64 0) := var_load (Hr.out _ BB) (by simp) 1 _ rfl
                  have o_rf1 : x6.frozen? ⟨(w.heap.size + 1), 1, none⟩ = false := var_frozen (Hr.out _ BB) (by simp) 1 _ rfl
                  have o_rc2 : x6.cell? ⟨(w.heap.size + 1), 2, none⟩ = some (.int .i64 0) := var_load (Hr.out _ BB) (by simp) 2 _ rfl
                  have o_rf2 : x6.frozen? ⟨(w.heap.size + 1), 2, none⟩ = false := var_frozen (Hr.out _ BB) (by simp) 2 _ rfl
                  have o_rc3 : x6.cell? ⟨(w.heap.size + 1), 3, none⟩ = some (.int .i64 0) := var_load (Hr.out _ BB) (by simp) 3 _ rfl
                  have o_rf3 : x6.frozen? ⟨(w.heap.size + 1), 3, none⟩ = false := var_frozen (Hr.out _ BB) (by simp) 3 _ rfl
                  have o_rl := var_lt (Hr.out _ BB)
                  refine hK.out _ _ ?_ (fun hHeld => ?_)
                  · exact HF.out _ BB
                  clear hK K
                  try simp only [Act.put, List.setIfInBounds_toArray, List.set_cons_zero, List.set_cons_succ]
                  refine wpAnyH_ready (rs := [13]) (by kernel_rfl) (by simp) ?_
                  refine AllReadyH.cons (o := ?or_13_14) ?hir_13_14 (fun K hK => ?gr_13_14) AllReadyH.nil
                  case hir_13_14 => simp only [List.getElem?_toArray, List.getElem?_cons_succ, List.getElem?_cons_zero]; rfl
                  case gr_13_14 =>
                    go_simp
                    obtain ⟨wf, hf⟩ : ∃ y, y = ((((x6.setCell ⟨w.heap.size + 1, 0, none⟩ (.int .i64 x.Vendor)).setCell ⟨w.heap.size + 1, 1, none⟩ (.int .i64 x.Serial)).setCell ⟨w.heap.size + 1, 2, none⟩ (.int .i64 x.Seed)).setCell ⟨w.heap.size + 1, 3, none⟩ (.int .i64 (x.Counter + 1))) := ⟨_, rfl⟩
                    obtain ⟨o_r2, t2⟩ := var_some [.int .i64 x.Vendor, .int .i64 x.Serial, .int .i64 x.Seed, .int .i64 (x.Counter + 1)] 0 _ _ (Hr.out _ BB) (by simp)
                    rw [show setAll x6 (w.heap.size + 1) 0 [.int .i64 x.Vendor, .int .i64 x.Serial, .int .i64 x.Seed, .int .i64 (x.Counter + 1)] = wf from hf.symm] at o_r2 t2
                    rw [← hf]
                    clear hf
                    have HZ := below_turned (HB.trans (BB.mono HB.size)) t2 (fun b hb => by simp at hb; omega)
                    have o_p2 := owns_turned (Hp.out _ BB) t2 (fun b hb hb2 => by simp at hb hb2; omega)
                    have o_o2 := owns_turned (Ho.out _ BB) t2 (fun b hb hb2 => by simp at hb hb2; omega)
                    clear o_rc0 o_rf0 o_rc1 o_rf1 o_rc2 o_rf2 o_rc3 o_rf3 o_rl
                    have o_r2c0 : wf.cell? ⟨w.heap.size + 1, 0, none⟩ = some (.int .i64 x.Vendor) := var_load o_r2 (by simp) 0 _ rfl
                    have o_r2c1 : wf.cell? ⟨w.heap.size + 1, 1, none⟩ = some (.int .i64 x.Serial) := var_load o_r2 (by simp) 1 _ rfl
                    have o_r2c2 : wf.cell? ⟨w.heap.size + 1, 2, none⟩ = some (.int .i64 x.Seed) := var_load o_r2 (by simp) 2 _ rfl
                    have o_r2c3 : wf.cell? ⟨w.heap.size + 1, 3, none⟩ = some (.int .i64 (x.Counter + 1)) := var_load o_r2 (by simp) 3 _ rfl
                    refine hK.out _ _ ?_ (fun hHeld => ?_)
                    · exact ⟨var_load o_p2 (by simp) 0 _ rfl, var_load o_p2 (by simp) 1 _ rfl, var_load o_p2 (by simp) 2 _ rfl, var_load o_p2 (by simp) 3 _ rfl, var_load o_o2 (by simp) 0 _ rfl, var_load o_o2 (by simp) 1 _ rfl, var_load o_o2 (by simp) 2 _ rfl, var_load o_o2 (by simp) 3 _ rfl⟩
                    clear hK K
                    try simp only [Act.put, List.setIfInBounds_toArray, List.set_cons_zero, List.set_cons_succ]
                    refine wpAnyH_take (i := 14) (oi := ?oir_14_15) (v := ?vr_14_15) ?hir_14_15 (by kernel_rfl) (by kernel_rfl) (by kernel_rfl) ?hQr_14_15 (Or.inl ⟨?hwr_14_15, ?hyr_14_15⟩) (by assumption) ?_
                    case hir_14_15 => simp only [List.getElem?_toArray, List.getElem?_cons_succ, List.getElem?_cons_zero]; rfl
                    case hQr_14_15 => exact fun _ _ _ h => h
                    case hwr_14_15 => rfl
                    case hyr_14_15 => intro w hSw; (try dsimp only at hSw); (first | (go_simp; done) | (go_simp; with_reducible rfl))
                    try simp only [Act.put, List.setIfInBounds_toArray, List.set_cons_zero, List.set_cons_succ]
                    refine wpAnyH_take (i := 15) (oi := ?oir_15_16) (v := ?vr_15_16) ?hir_15_16 (by kernel_rfl) (by kernel_rfl) (by kernel_rfl) ?hQr_15_16 (Or.inl ⟨?hwr_15_16, ?hyr_15_16⟩) (by assumption) ?_
                    case hir_15_16 => simp only [List.getElem?_toArray, List.getElem?_cons_succ, List.getElem?_cons_zero]; rfl
                    case hQr_15_16 => exact fun _ _ _ h => h
                    case hwr_15_16 => rfl
                    case hyr_15_16 => intro w hSw; (try dsimp only at hSw); (first | (go_simp; done) | (go_simp; with_reducible rfl))
                    try simp only [Act.put, List.setIfInBounds_toArray, List.set_cons_zero, List.set_cons_succ]
                    refine wpAnyH_done (by kernel_rfl) ?_ _
                    go_wp2
                    refine bodyPost_ret (v := .tuple #[.agg #[.int .i64 x.Vendor, .int .i64 x.Serial, .int .i64 x.Seed, .int .i64 (x.Counter + 1)], .int .i64 (sgn (prvS x s k) (m ++ [x.Counter + 1])), .bool true]) (by simp [results, Tryd.results15, go_sem, o_r2c0, o_r2c1, o_r2c2, o_r2c3]) rfl ?_
                    exact made_sg ⟨x.Vendor, x.Serial, x.Seed, x.Counter + 1⟩ _ true HZ
          case gr_10_10 =>
            go_simp
            obtain ⟨x3, hx3⟩ : ∃ y, y = x2.alloc (.cells #[.int .i64 (x.Counter + 1)] 3) := ⟨_, rfl⟩
            have oD := own_base (own_ints x2 [x.Counter + 1] 1 rfl (by omega)) BB.size
            rw [show x2.alloc (.cells (ints .i64 [x.Counter + 1]).toArray 3) = x3 from hx3.symm] at oD
            rw [← hx3]
            have bx3 : Below x2.heap.size x2 x3 := hx3 ▸ (Below.refl _ _).alloc (Nat.le_refl _) _
            have lD : x2.heap.size < x3.heap.size := by rw [hx3]; simp
            clear hx3
            have BB : Below w3.heap.size w3 x3 := BB.trans (bx3.mono BB.size)
            replace oA := own_below oA bx3
            have zx3 := bx3.size
            refine hK.out _ _ ?_ (fun hHeld => ?_)
            · exact HF.out _ BB
            clear hK K
            try simp only [Act.put, List.setIfInBounds_toArray, List.set_cons_zero, List.set_cons_succ]
            refine wpAnyH_ready (rs := [7]) (by kernel_rfl) (by simp) ?_
            refine AllReadyH.cons (o := ?or_7_17) ?hir_7_17 (fun K hK => ?gr_7_17) AllReadyH.nil
            case hir_7_17 => simp only [List.getElem?_toArray, List.getElem?_cons_succ, List.getElem?_cons_zero]; rfl
            case gr_7_17 =>
              refine Ra.stepI x3 rfl (.tmp 31) (.tmp 32) rfl w3.heap.size (.slice (some ⟨x1.heap.size, 0, none⟩) 0 0) 0 _ (by simp [Act.eval]) oA _ (A) n c m (by simp [Act.eval]) (HR.out _ BB) (by omega) BB.size ?_
              intro v4 x4 o4 g4 h4
              have BB : Below w3.heap.size w3 x4 := BB.grown g4 BB.size (fun j hj => (oA.lt j hj).1)
              have zx4 := g4.size
              replace oD := Ra.kept_row oD g4 (by intro e; have e : x1.heap.size = x2.heap.size := Option.some.inj e; omega)
              rw [ints_app, Nat.zero_add, List.nil_append] at o4
              obtain ⟨A4, c4, rfl⟩ := own_nil_form o4
              clear oA
              have oA := o4
              clear o4
              refine hK.out _ _ ?_ (fun hHeld => ?_)
              · exact HF.out _ BB
              clear hK K
              try simp only [Act.put, List.setIfInBounds_toArray, List.set_cons_zero, List.set_cons_succ]
              refine wpAnyH_ready (rs := [11]) (by kernel_rfl) (by simp) ?_
              refine AllReadyH.cons (o := ?or_11_18) ?hir_11_18 (fun K hK => ?gr_11_18) AllReadyH.nil
              case hir_11_18 => simp only [List.getElem?_toArray, List.getElem?_cons_succ, List.getElem?_cons_zero]; rfl
              case gr_11_18 =>
                refine Ra.stepI x4 rfl (.tmp 33) (.tmp 36) rfl w3.heap.size (.slice A4 n c4) n _ (by simp [Act.eval]) oA _ (some ⟨x2.heap.size, 0, none⟩) 1 1 [x.Counter + 1] (by simp [Act.eval]) (Rd.own oD) (by omega) BB.size ?_
                intro v5 x5 o5 g5 h5
                have BB : Below w3.heap.size w3 x5 := BB.grown g5 BB.size (fun j hj => (oA.lt j hj).1)
                have zx5 := g5.size
                rw [ints_app] at o5
                obtain ⟨A5, c5, rfl⟩ := own_nil_form o5
                clear oA
                have oA := o5
                clear o5
                try clear oD
                refine hK.out _ _ ?_ (fun hHeld => ?_)
                · exact HF.out _ BB
                clear hK K
                try simp only [Act.put, List.setIfInBounds_toArray, List.set_cons_zero, List.set_cons_succ]
                refine wpAnyH_ready (rs := [12]) (by kernel_rfl) (by simp) ?_
                refine AllReadyH.cons (o := ?or_12_19) ?hir_12_19 (fun K hK => ?gr_12_19) AllReadyH.nil
                case hir_12_19 => simp only [List.getElem?_toArray, List.getElem?_cons_succ, List.getElem?_cons_zero]; rfl
                case gr_12_19 =>
                  go_simp
                  go_at_call 25
                  (with_reducible refine (specSgn _ A5 (n + 1) c5 (m ++ [x.Counter + 1]) (prvS x s k) (Rd.own oA) HM2.out (by omega)).mono ?_)
                  rintro e x6 ⟨rfl, bx6⟩
                  have BB : Below w3.heap.size w3 x6 := BB.trans (bx6.mono BB.size)
                  replace oA := own_below oA bx6
                  have zx6 := bx6.size
                  have o_rc0 : x6.cell? ⟨(w.heap.size + 1), 0, none⟩ = some (.int .i64 0) := var_load (Hr.out _ BB) (by simp) 0 _ rfl
                  have o_rf0 : x6.frozen? ⟨(w.heap.size + 1), 0, none⟩ = false := var_frozen (Hr.out _ BB) (by simp) 0 _ rfl
                  have o_rc1 : x6.cell? ⟨(w.heap.size + 1), 1, none⟩ = some (.int .i64 0) := var_load (Hr.out _ BB) (by simp) 1 _ rfl
                  have o_rf1 : x6.frozen? ⟨(w.heap.size + 1), 1, none⟩ = false := var_frozen (Hr.out _ BB) (by simp) 1 _ rfl
                  have o_rc2 : x6.cell? ⟨(w.heap.size + 1), 2, none⟩ = some (.int .i64 0) := var_load (Hr.out _ BB) (by simp) 2 _ rfl
                  have o_rf2 : x6.frozen? ⟨(w.heap.size + 1), 2, none⟩ = false := var_frozen (Hr.out _ BB) (by simp) 2 _ rfl
                  have o_rc3 : x6.cell? ⟨(w.heap.size + 1), 3, none⟩ = some (.int .i64 0) := var_load (Hr.out _ BB) (by simp) 3 _ rfl
                  have o_rf3 : x6.frozen? ⟨(w.heap.size + 1), 3, none⟩ = false := var_frozen (Hr.out _ BB) (by simp) 3 _ rfl
                  have o_rl := var_lt (Hr.out _ BB)
                  refine hK.out _ _ ?_ (fun hHeld => ?_)
                  · exact HF.out _ BB
                  clear hK K
                  try simp only [Act.put, List.setIfInBounds_toArray, List.set_cons_zero, List.set_cons_succ]
                  refine wpAnyH_ready (rs := [13]) (by kernel_rfl) (by simp) ?_
                  refine AllReadyH.cons (o := ?or_13_20) ?hir_13_20 (fun K hK => ?gr_13_20) AllReadyH.nil
                  case hir_13_20 => simp only [List.getElem?_toArray, List.getElem?_cons_succ, List.getElem?_cons_zero]; rfl
                  case gr_13_20 =>
                    go_simp
                    obtain ⟨wf, hf⟩ : ∃ y, y = ((((x6.setCell ⟨w.heap.size + 1, 0, none⟩ (.int .i64 x.Vendor)).setCell ⟨w.heap.size + 1, 1, none⟩ (.int .i64 x.Serial)).setCell ⟨w.heap.size + 1, 2, none⟩ (.int .i64 x.Seed)).setCell ⟨w.heap.size + 1, 3, none⟩ (.int .i64 (x.Counter + 1))) := ⟨_, rfl⟩
                    obtain ⟨o_r2, t2⟩ := var_some [.int .i64 x.Vendor, .int .i64 x.Serial, .int .i64 x.Seed, .int .i64 (x.Counter + 1)] 0 _ _ (Hr.out _ BB) (by simp)
                    rw [show setAll x6 (w.heap.size + 1) 0 [.int .i64 x.Vendor, .int .i64 x.Serial, .int .i64 x.Seed, .int .i64 (x.Counter + 1)] = wf from hf.symm] at o_r2 t2
                    rw [← hf]
                    clear hf
                    have HZ := below_turned (HB.trans (BB.mono HB.size)) t2 (fun b hb => by simp at hb; omega)
                    have o_p2 := owns_turned (Hp.out _ BB) t2 (fun b hb hb2 => by simp at hb hb2; omega)
                    have o_o2 := owns_turned (Ho.out _ BB) t2 (fun b hb hb2 => by simp at hb hb2; omega)
                    clear o_rc0 o_rf0 o_rc1 o_rf1 o_rc2 o_rf2 o_rc3 o_rf3 o_rl
                    have o_r2c0 : wf.cell? ⟨w.heap.size + 1, 0, none⟩ = some (.int .i64 x.Vendor) := var_load o_r2 (by simp) 0 _ rfl
                    have o_r2c1 : wf.cell? ⟨w.heap.size + 1, 1, none⟩ = some (.int .i64 x.Serial) := var_load o_r2 (by simp) 1 _ rfl
                    have o_r2c2 : wf.cell? ⟨w.heap.size + 1, 2, none⟩ = some (.int .i64 x.Seed) := var_load o_r2 (by simp) 2 _ rfl
                    have o_r2c3 : wf.cell? ⟨w.heap.size + 1, 3, none⟩ = some (.int .i64 (x.Counter + 1)) := var_load o_r2 (by simp) 3 _ rfl
                    refine hK.out _ _ ?_ (fun hHeld => ?_)
                    · exact ⟨var_load o_p2 (by simp) 0 _ rfl, var_load o_p2 (by simp) 1 _ rfl, var_load o_p2 (by simp) 2 _ rfl, var_load o_p2 (by simp) 3 _ rfl, var_load o_o2 (by simp) 0 _ rfl, var_load o_o2 (by simp) 1 _ rfl, var_load o_o2 (by simp) 2 _ rfl, var_load o_o2 (by simp) 3 _ rfl⟩
                    clear hK K
                    try simp only [Act.put, List.setIfInBounds_toArray, List.set_cons_zero, List.set_cons_succ]
                    refine wpAnyH_take (i := 14) (oi := ?oir_14_21) (v := ?vr_14_21) ?hir_14_21 (by kernel_rfl) (by kernel_rfl) (by kernel_rfl) ?hQr_14_21 (Or.inl ⟨?hwr_14_21, ?hyr_14_21⟩) (by assumption) ?_
                    case hir_14_21 => simp only [List.getElem?_toArray, List.getElem?_cons_succ, List.getElem?_cons_zero]; rfl
                    case hQr_14_21 => exact fun _ _ _ h => h
                    case hwr_14_21 => rfl
                    case hyr_14_21 => intro w hSw; (try dsimp only at hSw); (first | (go_simp; done) | (go_simp; with_reducible rfl))
                    try simp only [Act.put, List.setIfInBounds_toArray, List.set_cons_zero, List.set_cons_succ]
                    refine wpAnyH_take (i := 15) (oi := ?oir_15_22) (v := ?vr_15_22) ?hir_15_22 (by kernel_rfl) (by kernel_rfl) (by kernel_rfl) ?hQr_15_22 (Or.inl ⟨?hwr_15_22, ?hyr_15_22⟩) (by assumption) ?_
                    case hir_15_22 => simp only [List.getElem?_toArray, List.getElem?_cons_succ, List.getElem?_cons_zero]; rfl
                    case hQr_15_22 => exact fun _ _ _ h => h
                    case hwr_15_22 => rfl
                    case hyr_15_22 => intro w hSw; (try dsimp only at hSw); (first | (go_simp; done) | (go_simp; with_reducible rfl))
                    try simp only [Act.put, List.setIfInBounds_toArray, List.set_cons_zero, List.set_cons_succ]
                    refine wpAnyH_done (by kernel_rfl) ?_ _
                    go_wp2
                    refine bodyPost_ret (v := .tuple #[.agg #[.int .i64 x.Vendor, .int .i64 x.Serial, .int .i64 x.Seed, .int .i64 (x.Counter + 1)], .int .i64 (sgn (prvS x s k) (m ++ [x.Counter + 1])), .bool true]) (by simp [results, Tryd.results15, go_sem, o_r2c0, o_r2c1, o_r2c2, o_r2c3]) rfl ?_
                    exact made_sg ⟨x.Vendor, x.Serial, x.Seed, x.Counter + 1⟩ _ true HZ
        case gr_10_9 =>
          go_simp
          obtain ⟨x2, hx2⟩ : ∃ y, y = x1.alloc (.cells #[.int .i64 (x.Counter + 1)] 3) := ⟨_, rfl⟩
          have oD := own_base (own_ints x1 [x.Counter + 1] 1 rfl (by omega)) BB.size
          rw [show x1.alloc (.cells (ints .i64 [x.Counter + 1]).toArray 3) = x2 from hx2.symm] at oD
          rw [← hx2]
          have bx2 : Below x1.heap.size x1 x2 := hx2 ▸ (Below.refl _ _).alloc (Nat.le_refl _) _
          have lD : x1.heap.size < x2.heap.size := by rw [hx2]; simp
          clear hx2
          have BB : Below w3.heap.size w3 x2 := BB.trans (bx2.mono BB.size)
          have zx2 := bx2.size
          refine hK.out _ _ ?_ (fun hHeld => ?_)
          · exact HF.out _ BB
          clear hK K
          try simp only [Act.put, List.setIfInBounds_toArray, List.set_cons_zero, List.set_cons_succ]
          refine wpAnyH_ready (rs := [5]) (by kernel_rfl) (by simp) ?_
          refine AllReadyH.cons (o := ?or_5_23) ?hir_5_23 (fun K hK => ?gr_5_23) AllReadyH.nil
          case hir_5_23 => simp only [List.getElem?_toArray, List.getElem?_cons_succ, List.getElem?_cons_zero]; rfl
          case gr_5_23 =>
            go_simp
            obtain ⟨x3, hx3⟩ : ∃ y, y = x2.alloc (.cells #[] 3) := ⟨_, rfl⟩
            have oA := own_base (own_ints x2 [] 0 rfl (by omega)) BB.size
            rw [show x2.alloc (.cells (ints .i64 []).toArray 3) = x3 from hx3.symm] at oA
            rw [← hx3]
            have bx3 : Below x2.heap.size x2 x3 := hx3 ▸ (Below.refl _ _).alloc (Nat.le_refl _) _
            have lA : x2.heap.size < x3.heap.size := by rw [hx3]; simp
            clear hx3
            have BB : Below w3.heap.size w3 x3 := BB.trans (bx3.mono BB.size)
            replace oD := own_below oD bx3
            have zx3 := bx3.size
            refine hK.out _ _ ?_ (fun hHeld => ?_)
            · exact HF.out _ BB
            clear hK K
            try simp only [Act.put, List.setIfInBounds_toArray, List.set_cons_zero, List.set_cons_succ]
            refine wpAnyH_ready (rs := [7]) (by kernel_rfl) (by simp) ?_
            refine AllReadyH.cons (o := ?or_7_24) ?hir_7_24 (fun K hK => ?gr_7_24) AllReadyH.nil
            case hir_7_24 => simp only [List.getElem?_toArray, List.getElem?_cons_succ, List.getElem?_cons_zero]; rfl
            case gr_7_24 =>
              refine Ra.stepI x3 rfl (.tmp 31) (.tmp 32) rfl w3.heap.size (.slice (some ⟨x2.heap.size, 0, none⟩) 0 0) 0 _ (by simp [Act.eval]) oA _ (A) n c m (by simp [Act.eval]) (HR.out _ BB) (by omega) BB.size ?_
              intro v4 x4 o4 g4 h4
              have BB : Below w3.heap.size w3 x4 := BB.grown g4 BB.size (fun j hj => (oA.lt j hj).1)
              have zx4 := g4.size
              replace oD := Ra.kept_row oD g4 (by intro e; have e : x2.heap.size = x1.heap.size := Option.some.inj e; omega)
              rw [ints_app, Nat.zero_add, List.nil_append] at o4
              obtain ⟨A4, c4, rfl⟩ := own_nil_form o4
              clear oA
              have oA := o4
              clear o4
              refine hK.out _ _ ?_ (fun hHeld => ?_)
              · exact HF.out _ BB
              clear hK K
              try simp only [Act.put, List.setIfInBounds_toArray, List.set_cons_zero, List.set_cons_succ]
              refine wpAnyH_ready (rs := [11]) (by kernel_rfl) (by simp) ?_
              refine AllReadyH.cons (o := ?or_11_25) ?hir_11_25 (fun K hK => ?gr_11_25) AllReadyH.nil
              case hir_11_25 => simp only [List.getElem?_toArray, List.getElem?_cons_succ, List.getElem?_cons_zero]; rfl
              case gr_11_25 =>
                refine Ra.stepI x4 rfl (.tmp 33) (.tmp 36) rfl w3.heap.size (.slice A4 n c4) n _ (by simp [Act.eval]) oA _ (some ⟨x1.heap.size, 0, none⟩) 1 1 [x.Counter + 1] (by simp [Act.eval]) (Rd.own oD) (by omega) BB.size ?_
                intro v5 x5 o5 g5 h5
                have BB : Below w3.heap.size w3 x5 := BB.grown g5 BB.size (fun j hj => (oA.lt j hj).1)
                have zx5 := g5.size
                rw [ints_app] at o5
                obtain ⟨A5, c5, rfl⟩ := own_nil_form o5
                clear oA
                have oA := o5
                clear o5
                try clear oD
                refine hK.out _ _ ?_ (fun hHeld => ?_)
                · exact HF.out _ BB
                clear hK K
                try simp only [Act.put, List.setIfInBounds_toArray, List.set_cons_zero, List.set_cons_succ]
                refine wpAnyH_ready (rs := [12]) (by kernel_rfl) (by simp) ?_
                refine AllReadyH.cons (o := ?or_12_26) ?hir_12_26 (fun K hK => ?gr_12_26) AllReadyH.nil
                case hir_12_26 => simp only [List.getElem?_toArray, List.getElem?_cons_succ, List.getElem?_cons_zero]; rfl
                case gr_12_26 =>
                  go_simp
                  go_at_call 25
                  (with_reducible refine (specSgn _ A5 (n + 1) c5 (m ++ [x.Counter + 1]) (prvS x s k) (Rd.own oA) HM2.out (by omega)).mono ?_)
                  rintro e x6 ⟨rfl, bx6⟩
                  have BB : Below w3.heap.size w3 x6 := BB.trans (bx6.mono BB.size)
                  replace oA := own_below oA bx6
                  have zx6 := bx6.size
                  have o_rc0 : x6.cell? ⟨(w.heap.size + 1), 0, none⟩ = some (.int .i64 0) := var_load (Hr.out _ BB) (by simp) 0 _ rfl
                  have o_rf0 : x6.frozen? ⟨(w.heap.size + 1), 0, none⟩ = false := var_frozen (Hr.out _ BB) (by simp) 0 _ rfl
                  have o_rc1 : x6.cell? ⟨(w.heap.size + 1), 1, none⟩ = some (.int .i64 0) := var_load (Hr.out _ BB) (by simp) 1 _ rfl
                  have o_rf1 : x6.frozen? ⟨(w.heap.size + 1), 1, none⟩ = false := var_frozen (Hr.out _ BB) (by simp) 1 _ rfl
                  have o_rc2 : x6.cell? ⟨(w.heap.size + 1), 2, none⟩ = some (.int .i64 0) := var_load (Hr.out _ BB) (by simp) 2 _ rfl
                  have o_rf2 : x6.frozen? ⟨(w.heap.size + 1), 2, none⟩ = false := var_frozen (Hr.out _ BB) (by simp) 2 _ rfl
                  have o_rc3 : x6.cell? ⟨(w.heap.size + 1), 3, none⟩ = some (.int .i64 0) := var_load (Hr.out _ BB) (by simp) 3 _ rfl
                  have o_rf3 : x6.frozen? ⟨(w.heap.size + 1), 3, none⟩ = false := var_frozen (Hr.out _ BB) (by simp) 3 _ rfl
                  have o_rl := var_lt (Hr.out _ BB)
                  refine hK.out _ _ ?_ (fun hHeld => ?_)
                  · exact HF.out _ BB
                  clear hK K
                  try simp only [Act.put, List.setIfInBounds_toArray, List.set_cons_zero, List.set_cons_succ]
                  refine wpAnyH_ready (rs := [13]) (by kernel_rfl) (by simp) ?_
                  refine AllReadyH.cons (o := ?or_13_27) ?hir_13_27 (fun K hK => ?gr_13_27) AllReadyH.nil
                  case hir_13_27 => simp only [List.getElem?_toArray, List.getElem?_cons_succ, List.getElem?_cons_zero]; rfl
                  case gr_13_27 =>
                    go_simp
                    obtain ⟨wf, hf⟩ : ∃ y, y = ((((x6.setCell ⟨w.heap.size + 1, 0, none⟩ (.int .i64 x.Vendor)).setCell ⟨w.heap.size + 1, 1, none⟩ (.int .i64 x.Serial)).setCell ⟨w.heap.size + 1, 2, none⟩ (.int .i64 x.Seed)).setCell ⟨w.heap.size + 1, 3, none⟩ (.int .i64 (x.Counter + 1))) := ⟨_, rfl⟩
                    obtain ⟨o_r2, t2⟩ := var_some [.int .i64 x.Vendor, .int .i64 x.Serial, .int .i64 x.Seed, .int .i64 (x.Counter + 1)] 0 _ _ (Hr.out _ BB) (by simp)
                    rw [show setAll x6 (w.heap.size + 1) 0 [.int .i64 x.Vendor, .int .i64 x.Serial, .int .i64 x.Seed, .int .i64 (x.Counter + 1)] = wf from hf.symm] at o_r2 t2
                    rw [← hf]
                    clear hf
                    have HZ := below_turned (HB.trans (BB.mono HB.size)) t2 (fun b hb => by simp at hb; omega)
                    have o_p2 := owns_turned (Hp.out _ BB) t2 (fun b hb hb2 => by simp at hb hb2; omega)
                    have o_o2 := owns_turned (Ho.out _ BB) t2 (fun b hb hb2 => by simp at hb hb2; omega)
                    clear o_rc0 o_rf0 o_rc1 o_rf1 o_rc2 o_rf2 o_rc3 o_rf3 o_rl
                    have o_r2c0 : wf.cell? ⟨w.heap.size + 1, 0, none⟩ = some (.int .i64 x.Vendor) := var_load o_r2 (by simp) 0 _ rfl
                    have o_r2c1 : wf.cell? ⟨w.heap.size + 1, 1, none⟩ = some (.int .i64 x.Serial) := var_load o_r2 (by simp) 1 _ rfl
                    have o_r2c2 : wf.cell? ⟨w.heap.size + 1, 2, none⟩ = some (.int .i64 x.Seed) := var_load o_r2 (by simp) 2 _ rfl
                    have o_r2c3 : wf.cell? ⟨w.heap.size + 1, 3, none⟩ = some (.int .i64 (x.Counter + 1)) := var_load o_r2 (by simp) 3 _ rfl
                    refine hK.out _ _ ?_ (fun hHeld => ?_)
                    · exact ⟨var_load o_p2 (by simp) 0 _ rfl, var_load o_p2 (by simp) 1 _ rfl, var_load o_p2 (by simp) 2 _ rfl, var_load o_p2 (by simp) 3 _ rfl, var_load o_o2 (by simp) 0 _ rfl, var_load o_o2 (by simp) 1 _ rfl, var_load o_o2 (by simp) 2 _ rfl, var_load o_o2 (by simp) 3 _ rfl⟩
                    clear hK K
                    try simp only [Act.put, List.setIfInBounds_toArray, List.set_cons_zero, List.set_cons_succ]
                    refine wpAnyH_take (i := 14) (oi := ?oir_14_28) (v := ?vr_14_28) ?hir_14_28 (by kernel_rfl) (by kernel_rfl) (by kernel_rfl) ?hQr_14_28 (Or.inl ⟨?hwr_14_28, ?hyr_14_28⟩) (by assumption) ?_
                    case hir_14_28 => simp only [List.getElem?_toArray, List.getElem?_cons_succ, List.getElem?_cons_zero]; rfl
                    case hQr_14_28 => exact fun _ _ _ h => h
                    case hwr_14_28 => rfl
                    case hyr_14_28 => intro w hSw; (try dsimp only at hSw); (first | (go_simp; done) | (go_simp; with_reducible rfl))
                    try simp only [Act.put, List.setIfInBounds_toArray, List.set_cons_zero, List.set_cons_succ]
                    refine wpAnyH_take (i := 15) (oi := ?oir_15_29) (v := ?vr_15_29) ?hir_15_29 (by kernel_rfl) (by kernel_rfl) (by kernel_rfl) ?hQr_15_29 (Or.inl ⟨?hwr_15_29, ?hyr_15_29⟩) (by assumption) ?_
                    case hir_15_29 => simp only [List.getElem?_toArray, List.getElem?_cons_succ, List.getElem?_cons_zero]; rfl
                    case hQr_15_29 => exact fun _ _ _ h => h
                    case hwr_15_29 => rfl
                    case hyr_15_29 => intro w hSw; (try dsimp only at hSw); (first | (go_simp; done) | (go_simp; with_reducible rfl))
                    try simp only [Act.put, List.setIfInBounds_toArray, List.set_cons_zero, List.set_cons_succ]
                    refine wpAnyH_done (by kernel_rfl) ?_ _
                    go_wp2
                    refine bodyPost_ret (v := .tuple #[.agg #[.int .i64 x.Vendor, .int .i64 x.Serial, .int .i64 x.Seed, .int .i64 (x.Counter + 1)], .int .i64 (sgn (prvS x s k) (m ++ [x.Counter + 1])), .bool true]) (by simp [results, Tryd.results15, go_sem, o_r2c0, o_r2c1, o_r2c2, o_r2c3]) rfl ?_
                    exact made_sg ⟨x.Vendor, x.Serial, x.Seed, x.Counter + 1⟩ _ true HZ
      case gr_5_8 =>
        go_simp
        obtain ⟨x1, hx1⟩ : ∃ y, y = wd.alloc (.cells #[] 3) := ⟨_, rfl⟩
        have oA := own_base (own_ints wd [] 0 rfl (by omega)) BB.size
        rw [show wd.alloc (.cells (ints .i64 []).toArray 3) = x1 from hx1.symm] at oA
        rw [← hx1]
        have bx1 : Below wd.heap.size wd x1 := hx1 ▸ (Below.refl _ _).alloc (Nat.le_refl _) _
        have lA : wd.heap.size < x1.heap.size := by rw [hx1]; simp
        clear hx1
        have BB : Below w3.heap.size w3 x1 := BB.trans (bx1.mono BB.size)
        have zx1 := bx1.size
        refine hK.out _ _ ?_ (fun hHeld => ?_)
        · exact HF.out _ BB
        clear hK K
        try simp only [Act.put, List.setIfInBounds_toArray, List.set_cons_zero, List.set_cons_succ]
        refine wpAnyH_ready (rs := [4, 10]) (by kernel_rfl) (by simp) ?_
        refine AllReadyH.cons (o := ?or_4_30) ?hir_4_30 (fun K hK => ?gr_4_30) (AllReadyH.cons (o := ?or_10_30) ?hir_10_30 (fun K hK => ?gr_10_30) AllReadyH.nil)
        case hir_4_30 => simp only [List.getElem?_toArray, List.getElem?_cons_succ, List.getElem?_cons_zero]; rfl
        case hir_10_30 => simp only [List.getElem?_toArray, List.getElem?_cons_succ, List.getElem?_cons_zero]; rfl
        case gr_4_30 =>
          go_simp
          go_at_call 26
          (with_reducible refine (specPrvS _ x s k _ (st_rds _ _ x) HO.out hs k0 k1).mono ?_)
          rintro e x2 ⟨rfl, bx2⟩
          have BB : Below w3.heap.size w3 x2 := BB.trans (bx2.mono BB.size)
          replace oA := own_below oA bx2
          have zx2 := bx2.size
          refine hK.out _ _ ?_ (fun hHeld => ?_)
          · exact HF.out _ BB
          clear hK K
          try simp only [Act.put, List.setIfInBounds_toArray, List.set_cons_zero, List.set_cons_succ]
          refine wpAnyH_ready (rs := [7, 10]) (by kernel_rfl) (by simp) ?_
          refine AllReadyH.cons (o := ?or_7_31) ?hir_7_31 (fun K hK => ?gr_7_31) (AllReadyH.cons (o := ?or_10_31) ?hir_10_31 (fun K hK => ?gr_10_31) AllReadyH.nil)
          case hir_7_31 => simp only [List.getElem?_toArray, List.getElem?_cons_succ, List.getElem?_cons_zero]; rfl
          case hir_10_31 => simp only [List.getElem?_toArray, List.getElem?_cons_succ, List.getElem?_cons_zero]; rfl
          case gr_7_31 =>
            refine Ra.stepI x2 rfl (.tmp 31) (.tmp 32) rfl w3.heap.size (.slice (some ⟨wd.heap.size, 0, none⟩) 0 0) 0 _ (by simp [Act.eval]) oA _ (A) n c m (by simp [Act.eval]) (HR.out _ BB) (by omega) BB.size ?_
            intro v4 x3 o4 g4 h4
            have BB : Below w3.heap.size w3 x3 := BB.grown g4 BB.size (fun j hj => (oA.lt j hj).1)
            have zx3 := g4.size
            rw [ints_app, Nat.zero_add, List.nil_append] at o4
            obtain ⟨A4, c4, rfl⟩ := own_nil_form o4
            clear oA
            have oA := o4
            clear o4
            refine hK.out _ _ ?_ (fun hHeld => ?_)
            · exact HF.out _ BB
            clear hK K
            try simp only [Act.put, List.setIfInBounds_toArray, List.set_cons_zero, List.set_cons_succ]
            refine wpAnyH_ready (rs := [10]) (by kernel_rfl) (by simp) ?_
            refine AllReadyH.cons (o := ?or_10_32) ?hir_10_32 (fun K hK => ?gr_10_32) AllReadyH.nil
            case hir_10_32 => simp only [List.getElem?_toArray, List.getElem?_cons_succ, List.getElem?_cons_zero]; rfl
            case gr_10_32 =>
              go_simp
              obtain ⟨x4, hx4⟩ : ∃ y, y = x3.alloc (.cells #[.int .i64 (x.Counter + 1)] 3) := ⟨_, rfl⟩
              have oD := own_base (own_ints x3 [x.Counter + 1] 1 rfl (by omega)) BB.size
              rw [show x3.alloc (.cells (ints .i64 [x.Counter + 1]).toArray 3) = x4 from hx4.symm] at oD
              rw [← hx4]
              have bx4 : Below x3.heap.size x3 x4 := hx4 ▸ (Below.refl _ _).alloc (Nat.le_refl _) _
              have lD : x3.heap.size < x4.heap.size := by rw [hx4]; simp
              clear hx4
              have BB : Below w3.heap.size w3 x4 := BB.trans (bx4.mono BB.size)
              replace oA := own_below oA bx4
              have zx4 := bx4.size
              refine hK.out _ _ ?_ (fun hHeld => ?_)
              · exact HF.out _ BB
              clear hK K
              try simp only [Act.put, List.setIfInBounds_toArray, List.set_cons_zero, List.set_cons_succ]
              refine wpAnyH_ready (rs := [11]) (by kernel_rfl) (by simp) ?_
              refine AllReadyH.cons (o := ?or_11_33) ?hir_11_33 (fun K hK => ?gr_11_33) AllReadyH.nil
              case hir_11_33 => simp only [List.getElem?_toArray, List.getElem?_cons_succ, List.getElem?_cons_zero]; rfl
              case gr_11_33 =>
                refine Ra.stepI x4 rfl (.tmp 33) (.tmp 36) rfl w3.heap.size (.slice A4 n c4) n _ (by simp [Act.eval]) oA _ (some ⟨x3.heap.size, 0, none⟩) 1 1 [x.Counter + 1] (by simp [Act.eval]) (Rd.own oD) (by omega) BB.size ?_
                intro v5 x5 o5 g5 h5
                have BB : Below w3.heap.size w3 x5 := BB.grown g5 BB.size (fun j hj => (oA.lt j hj).1)
                have zx5 := g5.size
                rw [ints_app] at o5
                obtain ⟨A5, c5, rfl⟩ := own_nil_form o5
                clear oA
                have oA := o5
                clear o5
                try clear oD
                refine hK.out _ _ ?_ (fun hHeld => ?_)
                · exact HF.out _ BB
                clear hK K
                try simp only [Act.put, List.setIfInBounds_toArray, List.set_cons_zero, List.set_cons_succ]
                refine wpAnyH_ready (rs := [12]) (by kernel_rfl) (by simp) ?_
                refine AllReadyH.cons (o := ?or_12_34) ?hir_12_34 (fun K hK => ?gr_12_34) AllReadyH.nil
                case hir_12_34 => simp only [List.getElem?_toArray, List.getElem?_cons_succ, List.getElem?_cons_zero]; rfl
                case gr_12_34 =>
                  go_simp
                  go_at_call 25
                  (with_reducible refine (specSgn _ A5 (n + 1) c5 (m ++ [x.Counter + 1]) (prvS x s k) (Rd.own oA) HM2.out (by omega)).mono ?_)
                  rintro e x6 ⟨rfl, bx6⟩
                  have BB : Below w3.heap.size w3 x6 := BB.trans (bx6.mono BB.size)
                  replace oA := own_below oA bx6
                  have zx6 := bx6.size
                  have o_rc0 : x6.cell? ⟨(w.heap.size + 1), 0, none⟩ = some (.int .i64 0) := var_load (Hr.out _ BB) (by simp) 0 _ rfl
                  have o_rf0 : x6.frozen? ⟨(w.heap.size + 1), 0, none⟩ = false := var_frozen (Hr.out _ BB) (by simp) 0 _ rfl
                  have o_rc1 : x6.cell? ⟨(w.heap.size + 1), 1, none⟩ = some (.int .i64 0) := var_load (Hr.out _ BB) (by simp) 1 _ rfl
                  have o_rf1 : x6.frozen? ⟨(w.heap.size + 1), 1, none⟩ = false := var_frozen (Hr.out _ BB) (by simp) 1 _ rfl
                  have o_rc2 : x6.cell? ⟨(w.heap.size + 1), 2, none⟩ = some (.int .i64 0) := var_load (Hr.out _ BB) (by simp) 2 _ rfl
                  have o_rf2 : x6.frozen? ⟨(w.heap.size + 1), 2, none⟩ = false := var_frozen (Hr.out _ BB) (by simp) 2 _ rfl
                  have o_rc3 : x6.cell? ⟨(w.heap.size + 1), 3, none⟩ = some (.int .i64 0) := var_load (Hr.out _ BB) (by simp) 3 _ rfl
                  have o_rf3 : x6.frozen? ⟨(w.heap.size + 1), 3, none⟩ = false := var_frozen (Hr.out _ BB) (by simp) 3 _ rfl
                  have o_rl := var_lt (Hr.out _ BB)
                  refine hK.out _ _ ?_ (fun hHeld => ?_)
                  · exact HF.out _ BB
                  clear hK K
                  try simp only [Act.put, List.setIfInBounds_toArray, List.set_cons_zero, List.set_cons_succ]
                  refine wpAnyH_ready (rs := [13]) (by kernel_rfl) (by simp) ?_
                  refine AllReadyH.cons (o := ?or_13_35) ?hir_13_35 (fun K hK => ?gr_13_35) AllReadyH.nil
                  case hir_13_35 => simp only [List.getElem?_toArray, List.getElem?_cons_succ, List.getElem?_cons_zero]; rfl
                  case gr_13_35 =>
                    go_simp
                    obtain ⟨wf, hf⟩ : ∃ y, y = ((((x6.setCell ⟨w.heap.size + 1, 0, none⟩ (.int .i64 x.Vendor)).setCell ⟨w.heap.size + 1, 1, none⟩ (.int .i64 x.Serial)).setCell ⟨w.heap.size + 1, 2, none⟩ (.int .i64 x.Seed)).setCell ⟨w.heap.size + 1, 3, none⟩ (.int .i64 (x.Counter + 1))) := ⟨_, rfl⟩
                    obtain ⟨o_r2, t2⟩ := var_some [.int .i64 x.Vendor, .int .i64 x.Serial, .int .i64 x.Seed, .int .i64 (x.Counter + 1)] 0 _ _ (Hr.out _ BB) (by simp)
                    rw [show setAll x6 (w.heap.size + 1) 0 [.int .i64 x.Vendor, .int .i64 x.Serial, .int .i64 x.Seed, .int .i64 (x.Counter + 1)] = wf from hf.symm] at o_r2 t2
                    rw [← hf]
                    clear hf
                    have HZ := below_turned (HB.trans (BB.mono HB.size)) t2 (fun b hb => by simp at hb; omega)
                    have o_p2 := owns_turned (Hp.out _ BB) t2 (fun b hb hb2 => by simp at hb hb2; omega)
                    have o_o2 := owns_turned (Ho.out _ BB) t2 (fun b hb hb2 => by simp at hb hb2; omega)
                    clear o_rc0 o_rf0 o_rc1 o_rf1 o_rc2 o_rf2 o_rc3 o_rf3 o_rl
                    have o_r2c0 : wf.cell? ⟨w.heap.size + 1, 0, none⟩ = some (.int .i64 x.Vendor) := var_load o_r2 (by simp) 0 _ rfl
                    have o_r2c1 : wf.cell? ⟨w.heap.size + 1, 1, none⟩ = some (.int .i64 x.Serial) := var_load o_r2 (by simp) 1 _ rfl
                    have o_r2c2 : wf.cell? ⟨w.heap.size + 1, 2, none⟩ = some (.int .i64 x.Seed) := var_load o_r2 (by simp) 2 _ rfl
                    have o_r2c3 : wf.cell? ⟨w.heap.size + 1, 3, none⟩ = some (.int .i64 (x.Counter + 1)) := var_load o_r2 (by simp) 3 _ rfl
                    refine hK.out _ _ ?_ (fun hHeld => ?_)
                    · exact ⟨var_load o_p2 (by simp) 0 _ rfl, var_load o_p2 (by simp) 1 _ rfl, var_load o_p2 (by simp) 2 _ rfl, var_load o_p2 (by simp) 3 _ rfl, var_load o_o2 (by simp) 0 _ rfl, var_load o_o2 (by simp) 1 _ rfl, var_load o_o2 (by simp) 2 _ rfl, var_load o_o2 (by simp) 3 _ rfl⟩
                    clear hK K
                    try simp only [Act.put, List.setIfInBounds_toArray, List.set_cons_zero, List.set_cons_succ]
                    refine wpAnyH_take (i := 14) (oi := ?oir_14_36) (v := ?vr_14_36) ?hir_14_36 (by kernel_rfl) (by kernel_rfl) (by kernel_rfl) ?hQr_14_36 (Or.inl ⟨?hwr_14_36, ?hyr_14_36⟩) (by assumption) ?_
                    case hir_14_36 => simp only [List.getElem?_toArray, List.getElem?_cons_succ, List.getElem?_cons_zero]; rfl
                    case hQr_14_36 => exact fun _ _ _ h => h
                    case hwr_14_36 => rfl
                    case hyr_14_36 => intro w hSw; (try dsimp only at hSw); (first | (go_simp; done) | (go_simp; with_reducible rfl))
                    try simp only [Act.put, List.setIfInBounds_toArray, List.set_cons_zero, List.set_cons_succ]
                    refine wpAnyH_take (i := 15) (oi := ?oir_15_37) (v := ?vr_15_37) ?hir_15_37 (by kernel_rfl) (by kernel_rfl) (by kernel_rfl) ?hQr_15_37 (Or.inl ⟨?hwr_15_37, ?hyr_15_37⟩) (by assumption) ?_
                    case hir_15_37 => simp only [List.getElem?_toArray, List.getElem?_cons_succ, List.getElem?_cons_zero]; rfl
                    case hQr_15_37 => exact fun _ _ _ h => h
                    case hwr_15_37 => rfl
                    case hyr_15_37 => intro w hSw; (try dsimp only at hSw); (first | (go_simp; done) | (go_simp; with_reducible rfl))
                    try simp only [Act.put, List.setIfInBounds_toArray, List.set_cons_zero, List.set_cons_succ]
                    refine wpAnyH_done (by kernel_rfl) ?_ _
                    go_wp2
                    refine bodyPost_ret (v := .tuple #[.agg #[.int .i64 x.Vendor, .int .i64 x.Serial, .int .i64 x.Seed, .int .i64 (x.Counter + 1)], .int .i64 (sgn (prvS x s k) (m ++ [x.Counter + 1])), .bool true]) (by simp [results, Tryd.results15, go_sem, o_r2c0, o_r2c1, o_r2c2, o_r2c3]) rfl ?_
                    exact made_sg ⟨x.Vendor, x.Serial, x.Seed, x.Counter + 1⟩ _ true HZ
          case gr_10_31 =>
            go_simp
            obtain ⟨x3, hx3⟩ : ∃ y, y = x2.alloc (.cells #[.int .i64 (x.Counter + 1)] 3) := ⟨_, rfl⟩
            have oD := own_base (own_ints x2 [x.Counter + 1] 1 rfl (by omega)) BB.size
            rw [show x2.alloc (.cells (ints .i64 [x.Counter + 1]).toArray 3) = x3 from hx3.symm] at oD
            rw [← hx3]
            have bx3 : Below x2.heap.size x2 x3 := hx3 ▸ (Below.refl _ _).alloc (Nat.le_refl _) _
            have lD : x2.heap.size < x3.heap.size := by rw [hx3]; simp
            clear hx3
            have BB : Below w3.heap.size w3 x3 := BB.trans (bx3.mono BB.size)
            replace oA := own_below oA bx3
            have zx3 := bx3.size
            refine hK.out _ _ ?_ (fun hHeld => ?_)
            · exact HF.out _ BB
            clear hK K
            try simp only [Act.put, List.setIfInBounds_toArray, List.set_cons_zero, List.set_cons_succ]
            refine wpAnyH_ready (rs := [7]) (by kernel_rfl) (by simp) ?_
            refine AllReadyH.cons (o := ?or_7_38) ?hir_7_38 (fun K hK => ?gr_7_38) AllReadyH.nil
            case hir_7_38 => simp only [List.getElem?_toArray, List.getElem?_cons_succ, List.getElem?_cons_zero]; rfl
            case gr_7_38 =>
              refine Ra.stepI x3 rfl (.tmp 31) (.tmp 32) rfl w3.heap.size (.slice (some ⟨wd.heap.size, 0, none⟩) 0 0) 0 _ (by simp [Act.eval]) oA _ (A) n c m (by simp [Act.eval]) (HR.out _ BB) (by omega) BB.size ?_
              intro v4 x4 o4 g4 h4
              have BB : Below w3.heap.size w3 x4 := BB.grown g4 BB.size (fun j hj => (oA.lt j hj).1)
              have zx4 := g4.size
              replace oD := Ra.kept_row oD g4 (by intro e; have e : wd.heap.size = x2.heap.size := Option.some.inj e; omega)
              rw [ints_app, Nat.zero_add, List.nil_append] at o4
              obtain ⟨A4, c4, rfl⟩ := own_nil_form o4
              clear oA
              have oA := o4
              clear o4
              refine hK.out _ _ ?_ (fun hHeld => ?_)
              · exact HF.out _ BB
              clear hK K
              try simp only [Act.put, List.setIfInBounds_toArray, List.set_cons_zero, List.set_cons_succ]
              refine wpAnyH_ready (rs := [11]) (by kernel_rfl) (by simp) ?_
              refine AllReadyH.cons (o := ?or_11_39) ?hir_11_39 (fun K hK => ?gr_11_39) AllReadyH.nil
              case hir_11_39 => simp only [List.getElem?_toArray, List.getElem?_cons_succ, List.getElem?_cons_zero]; rfl
              case gr_11_39 =>
                refine Ra.stepI x4 rfl (.tmp 33) (.tmp 36) rfl w3.heap.size (.slice A4 n c4) n _ (by simp [Act.eval]) oA _ (some ⟨x2.heap.size, 0, none⟩) 1 1 [x.Counter + 1] (by simp [Act.eval]) (Rd.own oD) (by omega) BB.size ?_
                intro v5 x5 o5 g5 h5
                have BB : Below w3.heap.size w3 x5 := BB.grown g5 BB.size (fun j hj => (oA.lt j hj).1)
                have zx5 := g5.size
                rw [ints_app] at o5
                obtain ⟨A5, c5, rfl⟩ := own_nil_form o5
                clear oA
                have oA := o5
                clear o5
                try clear oD
                refine hK.out _ _ ?_ (fun hHeld => ?_)
                · exact HF.out _ BB
                clear hK K
                try simp only [Act.put, List.setIfInBounds_toArray, List.set_cons_zero, List.set_cons_succ]
                refine wpAnyH_ready (rs := [12]) (by kernel_rfl) (by simp) ?_
                refine AllReadyH.cons (o := ?or_12_40) ?hir_12_40 (fun K hK => ?gr_12_40) AllReadyH.nil
                case hir_12_40 => simp only [List.getElem?_toArray, List.getElem?_cons_succ, List.getElem?_cons_zero]; rfl
                case gr_12_40 =>
                  go_simp
                  go_at_call 25
                  (with_reducible refine (specSgn _ A5 (n + 1) c5 (m ++ [x.Counter + 1]) (prvS x s k) (Rd.own oA) HM2.out (by omega)).mono ?_)
                  rintro e x6 ⟨rfl, bx6⟩
                  have BB : Below w3.heap.size w3 x6 := BB.trans (bx6.mono BB.size)
                  replace oA := own_below oA bx6
                  have zx6 := bx6.size
                  have o_rc0 : x6.cell? ⟨(w.heap.size + 1), 0, none⟩ = some (.int .i64 0) := var_load (Hr.out _ BB) (by simp) 0 _ rfl
                  have o_rf0 : x6.frozen? ⟨(w.heap.size + 1), 0, none⟩ = false := var_frozen (Hr.out _ BB) (by simp) 0 _ rfl
                  have o_rc1 : x6.cell? ⟨(w.heap.size + 1), 1, none⟩ = some (.int .i64 0) := var_load (Hr.out _ BB) (by simp) 1 _ rfl
                  have o_rf1 : x6.frozen? ⟨(w.heap.size + 1), 1, none⟩ = false := var_frozen (Hr.out _ BB) (by simp) 1 _ rfl
                  have o_rc2 : x6.cell? ⟨(w.heap.size + 1), 2, none⟩ = some (.int .i64 0) := var_load (Hr.out _ BB) (by simp) 2 _ rfl
                  have o_rf2 : x6.frozen? ⟨(w.heap.size + 1), 2, none⟩ = false := var_frozen (Hr.out _ BB) (by simp) 2 _ rfl
                  have o_rc3 : x6.cell? ⟨(w.heap.size + 1), 3, none⟩ = some (.int .i64 0) := var_load (Hr.out _ BB) (by simp) 3 _ rfl
                  have o_rf3 : x6.frozen? ⟨(w.heap.size + 1), 3, none⟩ = false := var_frozen (Hr.out _ BB) (by simp) 3 _ rfl
                  have o_rl := var_lt (Hr.out _ BB)
                  refine hK.out _ _ ?_ (fun hHeld => ?_)
                  · exact HF.out _ BB
                  clear hK K
                  try simp only [Act.put, List.setIfInBounds_toArray, List.set_cons_zero, List.set_cons_succ]
                  refine wpAnyH_ready (rs := [13]) (by kernel_rfl) (by simp) ?_
                  refine AllReadyH.cons (o := ?or_13_41) ?hir_13_41 (fun K hK => ?gr_13_41) AllReadyH.nil
                  case hir_13_41 => simp only [List.getElem?_toArray, List.getElem?_cons_succ, List.getElem?_cons_zero]; rfl
                  case gr_13_41 =>
                    go_simp
                    obtain ⟨wf, hf⟩ : ∃ y, y = ((((x6.setCell ⟨w.heap.size + 1, 0, none⟩ (.int .i64 x.Vendor)).setCell ⟨w.heap.size + 1, 1, none⟩ (.int .i64 x.Serial)).setCell ⟨w.heap.size + 1, 2, none⟩ (.int .i64 x.Seed)).setCell ⟨w.heap.size + 1, 3, none⟩ (.int .i64 (x.Counter + 1))) := ⟨_, rfl⟩
                    obtain ⟨o_r2, t2⟩ := var_some [.int .i64 x.Vendor, .int .i64 x.Serial, .int .i64 x.Seed, .int .i64 (x.Counter + 1)] 0 _ _ (Hr.out _ BB) (by simp)
                    rw [show setAll x6 (w.heap.size + 1) 0 [.int .i64 x.Vendor, .int .i64 x.Serial, .int .i64 x.Seed, .int .i64 (x.Counter + 1)] = wf from hf.symm] at o_r2 t2
                    rw [← hf]
                    clear hf
                    have HZ := below_turned (HB.trans (BB.mono HB.size)) t2 (fun b hb => by simp at hb; omega)
                    have o_p2 := owns_turned (Hp.out _ BB) t2 (fun b hb hb2 => by simp at hb hb2; omega)
                    have o_o2 := owns_turned (Ho.out _ BB) t2 (fun b hb hb2 => by simp at hb hb2; omega)
                    clear o_rc0 o_rf0 o_rc1 o_rf1 o_rc2 o_rf2 o_rc3 o_rf3 o_rl
                    have o_r2c0 : wf.cell? ⟨w.heap.size + 1, 0, none⟩ = some (.int .i64 x.Vendor) := var_load o_r2 (by simp) 0 _ rfl
                    have o_r2c1 : wf.cell? ⟨w.heap.size + 1, 1, none⟩ = some (.int .i64 x.Serial) := var_load o_r2 (by simp) 1 _ rfl
                    have o_r2c2 : wf.cell? ⟨w.heap.size + 1, 2, none⟩ = some (.int .i64 x.Seed) := var_load o_r2 (by simp) 2 _ rfl
                    have o_r2c3 : wf.cell? ⟨w.heap.size + 1, 3, none⟩ = some (.int .i64 (x.Counter + 1)) := var_load o_r2 (by simp) 3 _ rfl
                    refine hK.out _ _ ?_ (fun hHeld => ?_)
                    · exact ⟨var_load o_p2 (by simp) 0 _ rfl, var_load o_p2 (by simp) 1 _ rfl, var_load o_p2 (by simp) 2 _ rfl, var_load o_p2 (by simp) 3 _ rfl, var_load o_o2 (by simp) 0 _ rfl, var_load o_o2 (by simp) 1 _ rfl, var_load o_o2 (by simp) 2 _ rfl, var_load o_o2 (by simp) 3 _ rfl⟩
                    clear hK K
                    try simp only [Act.put, List.setIfInBounds_toArray, List.set_cons_zero, List.set_cons_succ]
                    refine wpAnyH_take (i := 14) (oi := ?oir_14_42) (v := ?vr_14_42) ?hir_14_42 (by kernel_rfl) (by kernel_rfl) (by kernel_rfl) ?hQr_14_42 (Or.inl ⟨?hwr_14_42, ?hyr_14_42⟩) (by assumption) ?_
                    case hir_14_42 => simp only [List.getElem?_toArray, List.getElem?_cons_succ, List.getElem?_cons_zero]; rfl
                    case hQr_14_42 => exact fun _ _ _ h => h
                    case hwr_14_42 => rfl
                    case hyr_14_42 => intro w hSw; (try dsimp only at hSw); (first | (go_simp; done) | (go_simp; with_reducible rfl))
                    try simp only [Act.put, List.setIfInBounds_toArray, List.set_cons_zero, List.set_cons_succ]
                    refine wpAnyH_take (i := 15) (oi := ?oir_15_43) (v := ?vr_15_43) ?hir_15_43 (by kernel_rfl) (by kernel_rfl) (by kernel_rfl) ?hQr_15_43 (Or.inl ⟨?hwr_15_43, ?hyr_15_43⟩) (by assumption) ?_
                    case hir_15_43 => simp only [List.getElem?_toArray, List.getElem?_cons_succ, List.getElem?_cons_zero]; rfl
                    case hQr_15_43 => exact fun _ _ _ h => h
                    case hwr_15_43 => rfl
                    case hyr_15_43 => intro w hSw; (try dsimp only at hSw); (first | (go_simp; done) | (go_simp; with_reducible rfl))
                    try simp only [Act.put, List.setIfInBounds_toArray, List.set_cons_zero, List.set_cons_succ]
                    refine wpAnyH_done (by kernel_rfl) ?_ _
                    go_wp2
                    refine bodyPost_ret (v := .tuple #[.agg #[.int .i64 x.Vendor, .int .i64 x.Serial, .int .i64 x.Seed, .int .i64 (x.Counter + 1)], .int .i64 (sgn (prvS x s k) (m ++ [x.Counter + 1])), .bool true]) (by simp [results, Tryd.results15, go_sem, o_r2c0, o_r2c1, o_r2c2, o_r2c3]) rfl ?_
                    exact made_sg ⟨x.Vendor, x.Serial, x.Seed, x.Counter + 1⟩ _ true HZ
        case gr_10_30 =>
          go_simp
          obtain ⟨x2, hx2⟩ : ∃ y, y = x1.alloc (.cells #[.int .i64 (x.Counter + 1)] 3) := ⟨_, rfl⟩
          have oD := own_base (own_ints x1 [x.Counter + 1] 1 rfl (by omega)) BB.size
          rw [show x1.alloc (.cells (ints .i64 [x.Counter + 1]).toArray 3) = x2 from hx2.symm] at oD
          rw [← hx2]
          have bx2 : Below x1.heap.size x1 x2 := hx2 ▸ (Below.refl _ _).alloc (Nat.le_refl _) _
          have lD : x1.heap.size < x2.heap.size := by rw [hx2]; simp
          clear hx2
          have BB : Below w3.heap.size w3 x2 := BB.trans (bx2.mono BB.size)
          replace oA := own_below oA bx2
          have zx2 := bx2.size
          refine hK.out _ _ ?_ (fun hHeld => ?_)
          · exact HF.out _ BB
          clear hK K
          try simp only [Act.put, List.setIfInBounds_toArray, List.set_cons_zero, List.set_cons_succ]
          refine wpAnyH_ready (rs := [4]) (by kernel_rfl) (by simp) ?_
          refine AllReadyH.cons (o := ?or_4_44) ?hir_4_44 (fun K hK => ?gr_4_44) AllReadyH.nil
          case hir_4_44 => simp only [List.getElem?_toArray, List.getElem?_cons_succ, List.getElem?_cons_zero]; rfl
          case gr_4_44 =>
            go_simp
            go_at_call 26
            (with_reducible refine (specPrvS _ x s k _ (st_rds _ _ x) HO.out hs k0 k1).mono ?_)
            rintro e x3 ⟨rfl, bx3⟩
            have BB : Below w3.heap.size w3 x3 := BB.trans (bx3.mono BB.size)
            replace oA := own_below oA bx3
            replace oD := own_below oD bx3
            have zx3 := bx3.size
            refine hK.out _ _ ?_ (fun hHeld => ?_)
            · exact HF.out _ BB
            clear hK K
            try simp only [Act.put, List.setIfInBounds_toArray, List.set_cons_zero, List.set_cons_succ]
            refine wpAnyH_ready (rs := [7]) (by kernel_rfl) (by simp) ?_
            refine AllReadyH.cons (o := ?or_7_45) ?hir_7_45 (fun K hK => ?gr_7_45) AllReadyH.nil
            case hir_7_45 => simp only [List.getElem?_toArray, List.getElem?_cons_succ, List.getElem?_cons_zero]; rfl
            case gr_7_45 =>
              refine Ra.stepI x3 rfl (.tmp 31) (.tmp 32) rfl w3.heap.size (.slice (some ⟨wd.heap.size, 0, none⟩) 0 0) 0 _ (by simp [Act.eval]) oA _ (A) n c m (by simp [Act.eval]) (HR.out _ BB) (by omega) BB.size ?_
              intro v4 x4 o4 g4 h4
              have BB : Below w3.heap.size w3 x4 := BB.grown g4 BB.size (fun j hj => (oA.lt j hj).1)
              have zx4 := g4.size
              replace oD := Ra.kept_row oD g4 (by intro e; have e : wd.heap.size = x1.heap.size := Option.some.inj e; omega)
              rw [ints_app, Nat.zero_add, List.nil_append] at o4
              obtain ⟨A4, c4, rfl⟩ := own_nil_form o4
              clear oA
              have oA := o4
              clear o4
              refine hK.out _ _ ?_ (fun hHeld => ?_)
              · exact HF.out _ BB
              clear hK K
              try simp only [Act.put, List.setIfInBounds_toArray, List.set_cons_zero, List.set_cons_succ]
              refine wpAnyH_ready (rs := [11]) (by kernel_rfl) (by simp) ?_
              refine AllReadyH.cons (o := ?or_11_46) ?hir_11_46 (fun K hK => ?gr_11_46) AllReadyH.nil
              case hir_11_46 => simp only [List.getElem?_toArray, List.getElem?_cons_succ, List.getElem?_cons_zero]; rfl
              case gr_11_46 =>
                refine Ra.stepI x4 rfl (.tmp 33) (.tmp 36) rfl w3.heap.size (.slice A4 n c4) n _ (by simp [Act.eval]) oA _ (some ⟨x1.heap.size, 0, none⟩) 1 1 [x.Counter + 1] (by simp [Act.eval]) (Rd.own oD) (by omega) BB.size ?_
                intro v5 x5 o5 g5 h5
                have BB : Below w3.heap.size w3 x5 := BB.grown g5 BB.size (fun j hj => (oA.lt j hj).1)
                have zx5 := g5.size
                rw [ints_app] at o5
                obtain ⟨A5, c5, rfl⟩ := own_nil_form o5
                clear oA
                have oA := o5
                clear o5
                try clear oD
                refine hK.out _ _ ?_ (fun hHeld => ?_)
                · exact HF.out _ BB
                clear hK K
                try simp only [Act.put, List.setIfInBounds_toArray, List.set_cons_zero, List.set_cons_succ]
                refine wpAnyH_ready (rs := [12]) (by kernel_rfl) (by simp) ?_
                refine AllReadyH.cons (o := ?or_12_47) ?hir_12_47 (fun K hK => ?gr_12_47) AllReadyH.nil
                case hir_12_47 => simp only [List.getElem?_toArray, List.getElem?_cons_succ, List.getElem?_cons_zero]; rfl
                case gr_12_47 =>
                  go_simp
                  go_at_call 25
                  (with_reducible refine (specSgn _ A5 (n + 1) c5 (m ++ [x.Counter + 1]) (prvS x s k) (Rd.own oA) HM2.out (by omega)).mono ?_)
                  rintro e x6 ⟨rfl, bx6⟩
                  have BB : Below w3.heap.size w3 x6 := BB.trans (bx6.mono BB.size)
                  replace oA := own_below oA bx6
                  have zx6 := bx6.size
                  have o_rc0 : x6.cell? ⟨(w.heap.size + 1), 0, none⟩ = some (.int .i64 0) := var_load (Hr.out _ BB) (by simp) 0 _ rfl
                  have o_rf0 : x6.frozen? ⟨(w.heap.size + 1), 0, none⟩ = false := var_frozen (Hr.out _ BB) (by simp) 0 _ rfl
                  have o_rc1 : x6.cell? ⟨(w.heap.size + 1), 1, none⟩ = some (.int .i64 0) := var_load (Hr.out _ BB) (by simp) 1 _ rfl
                  have o_rf1 : x6.frozen? ⟨(w.heap.size + 1), 1, none⟩ = false := var_frozen (Hr.out _ BB) (by simp) 1 _ rfl
                  have o_rc2 : x6.cell? ⟨(w.heap.size + 1), 2, none⟩ = some (.int .i64 0) := var_load (Hr.out _ BB) (by simp) 2 _ rfl
                  have o_rf2 : x6.frozen? ⟨(w.heap.size + 1), 2, none⟩ = false := var_frozen (Hr.out _ BB) (by simp) 2 _ rfl
                  have o_rc3 : x6.cell? ⟨(w.heap.size + 1), 3, none⟩ = some (.int .i64 0) := var_load (Hr.out _ BB) (by simp) 3 _ rfl
                  have o_rf3 : x6.frozen? ⟨(w.heap.size + 1), 3, none⟩ = false := var_frozen (Hr.out _ BB) (by simp) 3 _ rfl
                  have o_rl := var_lt (Hr.out _ BB)
                  refine hK.out _ _ ?_ (fun hHeld => ?_)
                  · exact HF.out _ BB
                  clear hK K
                  try simp only [Act.put, List.setIfInBounds_toArray, List.set_cons_zero, List.set_cons_succ]
                  refine wpAnyH_ready (rs := [13]) (by kernel_rfl) (by simp) ?_
                  refine AllReadyH.cons (o := ?or_13_48) ?hir_13_48 (fun K hK => ?gr_13_48) AllReadyH.nil
                  case hir_13_48 => simp only [List.getElem?_toArray, List.getElem?_cons_succ, List.getElem?_cons_zero]; rfl
                  case gr_13_48 =>
                    go_simp
                    obtain ⟨wf, hf⟩ : ∃ y, y = ((((x6.setCell ⟨w.heap.size + 1, 0, none⟩ (.int .i64 x.Vendor)).setCell ⟨w.heap.size + 1, 1, none⟩ (.int .i64 x.Serial)).setCell ⟨w.heap.size + 1, 2, none⟩ (.int .i64 x.Seed)).setCell ⟨w.heap.size + 1, 3, none⟩ (.int .i64 (x.Counter + 1))) := ⟨_, rfl⟩
                    obtain ⟨o_r2, t2⟩ := var_some [.int .i64 x.Vendor, .int .i64 x.Serial, .int .i64 x.Seed, .int .i64 (x.Counter + 1)] 0 _ _ (Hr.out _ BB) (by simp)
                    rw [show setAll x6 (w.heap.size + 1) 0 [.int .i64 x.Vendor, .int .i64 x.Serial, .int .i64 x.Seed, .int .i64 (x.Counter + 1)] = wf from hf.symm] at o_r2 t2
                    rw [← hf]
                    clear hf
                    have HZ := below_turned (HB.trans (BB.mono HB.size)) t2 (fun b hb => by simp at hb; omega)
                    have o_p2 := owns_turned (Hp.out _ BB) t2 (fun b hb hb2 => by simp at hb hb2; omega)
                    have o_o2 := owns_turned (Ho.out _ BB) t2 (fun b hb hb2 => by simp at hb hb2; omega)
                    clear o_rc0 o_rf0 o_rc1 o_rf1 o_rc2 o_rf2 o_rc3 o_rf3 o_rl
                    have o_r2c0 : wf.cell? ⟨w.heap.size + 1, 0, none⟩ = some (.int .i64 x.Vendor) := var_load o_r2 (by simp) 0 _ rfl
                    have o_r2c1 : wf.cell? ⟨w.heap.size + 1, 1, none⟩ = some (.int .i64 x.Serial) := var_load o_r2 (by simp) 1 _ rfl
                    have o_r2c2 : wf.cell? ⟨w.heap.size + 1, 2, none⟩ = some (.int .i64 x.Seed) := var_load o_r2 (by simp) 2 _ rfl
                    have o_r2c3 : wf.cell? ⟨w.heap.size + 1, 3, none⟩ = some (.int .i64 (x.Counter + 1)) := var_load o_r2 (by simp) 3 _ rfl
                    refine hK.out _ _ ?_ (fun hHeld => ?_)
                    · exact ⟨var_load o_p2 (by simp) 0 _ rfl, var_load o_p2 (by simp) 1 _ rfl, var_load o_p2 (by simp) 2 _ rfl, var_load o_p2 (by simp) 3 _ rfl, var_load o_o2 (by simp) 0 _ rfl, var_load o_o2 (by simp) 1 _ rfl, var_load o_o2 (by simp) 2 _ rfl, var_load o_o2 (by simp) 3 _ rfl⟩
                    clear hK K
                    try simp only [Act.put, List.setIfInBounds_toArray, List.set_cons_zero, List.set_cons_succ]
                    refine wpAnyH_take (i := 14) (oi := ?oir_14_49) (v := ?vr_14_49) ?hir_14_49 (by kernel_rfl) (by kernel_rfl) (by kernel_rfl) ?hQr_14_49 (Or.inl ⟨?hwr_14_49, ?hyr_14_49⟩) (by assumption) ?_
                    case hir_14_49 => simp only [List.getElem?_toArray, List.getElem?_cons_succ, List.getElem?_cons_zero]; rfl
                    case hQr_14_49 => exact fun _ _ _ h => h
                    case hwr_14_49 => rfl
                    case hyr_14_49 => intro w hSw; (try dsimp only at hSw); (first | (go_simp; done) | (go_simp; with_reducible rfl))
                    try simp only [Act.put, List.setIfInBounds_toArray, List.set_cons_zero, List.set_cons_succ]
                    refine wpAnyH_take (i := 15) (oi := ?oir_15_50) (v := ?vr_15_50) ?hir_15_50 (by kernel_rfl) (by kernel_rfl) (by kernel_rfl) ?hQr_15_50 (Or.inl ⟨?hwr_15_50, ?hyr_15_50⟩) (by assumption) ?_
                    case hir_15_50 => simp only [List.getElem?_toArray, List.getElem?_cons_succ, List.getElem?_cons_zero]; rfl
                    case hQr_15_50 => exact fun _ _ _ h => h
                    case hwr_15_50 => rfl
                    case hyr_15_50 => intro w hSw; (try dsimp only at hSw); (first | (go_simp; done) | (go_simp; with_reducible rfl))
                    try simp only [Act.put, List.setIfInBounds_toArray, List.set_cons_zero, List.set_cons_succ]
                    refine wpAnyH_done (by kernel_rfl) ?_ _
                    go_wp2
                    refine bodyPost_ret (v := .tuple #[.agg #[.int .i64 x.Vendor, .int .i64 x.Serial, .int .i64 x.Seed, .int .i64 (x.Counter + 1)], .int .i64 (sgn (prvS x s k) (m ++ [x.Counter + 1])), .bool true]) (by simp [results, Tryd.results15, go_sem, o_r2c0, o_r2c1, o_r2c2, o_r2c3]) rfl ?_
                    exact made_sg ⟨x.Vendor, x.Serial, x.Seed, x.Counter + 1⟩ _ true HZ
      case gr_10_8 =>
        go_simp
        obtain ⟨x1, hx1⟩ : ∃ y, y = wd.alloc (.cells #[.int .i64 (x.Counter + 1)] 3) := ⟨_, rfl⟩
        have oD := own_base (own_ints wd [x.Counter + 1] 1 rfl (by omega)) BB.size
        rw [show wd.alloc (.cells (ints .i64 [x.Counter + 1]).toArray 3) = x1 from hx1.symm] at oD
        rw [← hx1]
        have bx1 : Below wd.heap.size wd x1 := hx1 ▸ (Below.refl _ _).alloc (Nat.le_refl _) _
        have lD : wd.heap.size < x1.heap.size := by rw [hx1]; simp
        clear hx1
        have BB : Below w3.heap.size w3 x1 := BB.trans (bx1.mono BB.size)
        have zx1 := bx1.size
        refine hK.out _ _ ?_ (fun hHeld => ?_)
        · exact HF.out _ BB
        clear hK K
        try simp only [Act.put, List.setIfInBounds_toArray, List.set_cons_zero, List.set_cons_succ]
        refine wpAnyH_ready (rs := [4, 5]) (by kernel_rfl) (by simp) ?_
        refine AllReadyH.cons (o := ?or_4_51) ?hir_4_51 (fun K hK => ?gr_4_51) (AllReadyH.cons (o := ?or_5_51) ?hir_5_51 (fun K hK => ?gr_5_51) AllReadyH.nil)
        case hir_4_51 => simp only [List.getElem?_toArray, List.getElem?_cons_succ, List.getElem?_cons_zero]; rfl
        case hir_5_51 => simp only [List.getElem?_toArray, List.getElem?_cons_succ, List.getElem?_cons_zero]; rfl
        case gr_4_51 =>
          go_simp
          go_at_call 26
          (with_reducible refine (specPrvS _ x s k _ (st_rds _ _ x) HO.out hs k0 k1).mono ?_)
          rintro e x2 ⟨rfl, bx2⟩
          have BB : Below w3.heap.size w3 x2 := BB.trans (bx2.mono BB.size)
          replace oD := own_below oD bx2
          have zx2 := bx2.size
          refine hK.out _ _ ?_ (fun hHeld => ?_)
          · exact HF.out _ BB
          clear hK K
          try simp only [Act.put, List.setIfInBounds_toArray, List.set_cons_zero, List.set_cons_succ]
          refine wpAnyH_ready (rs := [5]) (by kernel_rfl) (by simp) ?_
          refine AllReadyH.cons (o := ?or_5_52) ?hir_5_52 (fun K hK => ?gr_5_52) AllReadyH.nil
          case hir_5_52 => simp only [List.getElem?_toArray, List.getElem?_cons_succ, List.getElem?_cons_zero]; rfl
          case gr_5_52 =>
            go_simp
            obtain ⟨x3, hx3⟩ : ∃ y, y = x2.alloc (.cells #[] 3) := ⟨_, rfl⟩
            have oA := own_base (own_ints x2 [] 0 rfl (by omega)) BB.size
            rw [show x2.alloc (.cells (ints .i64 []).toArray 3) = x3 from hx3.symm] at oA
            rw [← hx3]
            have bx3 : Below x2.heap.size x2 x3 := hx3 ▸ (Below.refl _ _).alloc (Nat.le_refl _) _
            have lA : x2.heap.size < x3.heap.size := by rw [hx3]; simp
            clear hx3
            have BB : Below w3.heap.size w3 x3 := BB.trans (bx3.mono BB.size)
            replace oD := own_below oD bx3
            have zx3 := bx3.size
            refine hK.out _ _ ?_ (fun hHeld => ?_)
            · exact HF.out _ BB
            clear hK K
            try simp only [Act.put, List.setIfInBounds_toArray, List.set_cons_zero, List.set_cons_succ]
            refine wpAnyH_ready (rs := [7]) (by kernel_rfl) (by simp) ?_
            refine AllReadyH.cons (o := ?or_7_53) ?hir_7_53 (fun K hK => ?gr_7_53) AllReadyH.nil
            case hir_7_53 => simp only [List.getElem?_toArray, List.getElem?_cons_succ, List.getElem?_cons_zero]; rfl
            case gr_7_53 =>
              refine Ra.stepI x3 rfl (.tmp 31) (.tmp 32) rfl w3.heap.size (.slice (some ⟨x2.heap.size, 0, none⟩) 0 0) 0 _ (by simp [Act.eval]) oA _ (A) n c m (by simp [Act.eval]) (HR.out _ BB) (by omega) BB.size ?_
              intro v4 x4 o4 g4 h4
              have BB : Below w3.heap.size w3 x4 := BB.grown g4 BB.size (fun j hj => (oA.lt j hj).1)
              have zx4 := g4.size
              replace oD := Ra.kept_row oD g4 (by intro e; have e : x2.heap.size = wd.heap.size := Option.some.inj e; omega)
              rw [ints_app, Nat.zero_add, List.nil_append] at o4
              obtain ⟨A4, c4, rfl⟩ := own_nil_form o4
              clear oA
              have oA := o4
              clear o4
              refine hK.out _ _ ?_ (fun hHeld => ?_)
              · exact HF.out _ BB
              clear hK K
              try simp only [Act.put, List.setIfInBounds_toArray, List.set_cons_zero, List.set_cons_succ]
              refine wpAnyH_ready (rs := [11]) (by kernel_rfl) (by simp) ?_
              refine AllReadyH.cons (o := ?or_11_54) ?hir_11_54 (fun K hK => ?gr_11_54) AllReadyH.nil
              case hir_11_54 => simp only [List.getElem?_toArray, List.getElem?_cons_succ, List.getElem?_cons_zero]; rfl
              case gr_11_54 =>
                refine Ra.stepI x4 rfl (.tmp 33) (.tmp 36) rfl w3.heap.size (.slice A4 n c4) n _ (by simp [Act.eval]) oA _ (some ⟨wd.heap.size, 0, none⟩) 1 1 [x.Counter + 1] (by simp [Act.eval]) (Rd.own oD) (by omega) BB.size ?_
                intro v5 x5 o5 g5 h5
                have BB : Below w3.heap.size w3 x5 := BB.grown g5 BB.size (fun j hj => (oA.lt j hj).1)
                have zx5 := g5.size
                rw [ints_app] at o5
                obtain ⟨A5, c5, rfl⟩ := own_nil_form o5
                clear oA
                have oA := o5
                clear o5
                try clear oD
                refine hK.out _ _ ?_ (fun hHeld => ?_)
                · exact HF.out _ BB
                clear hK K
                try simp only [Act.put, List.setIfInBounds_toArray, List.set_cons_zero, List.set_cons_succ]
                refine wpAnyH_ready (rs := [12]) (by kernel_rfl) (by simp) ?_
                refine AllReadyH.cons (o := ?or_12_55) ?hir_12_55 (fun K hK => ?gr_12_55) AllReadyH.nil
                case hir_12_55 => simp only [List.getElem?_toArray, List.getElem?_cons_succ, List.getElem?_cons_zero]; rfl
                case gr_12_55 =>
                  go_simp
                  go_at_call 25
                  (with_reducible refine (specSgn _ A5 (n + 1) c5 (m ++ [x.Counter + 1]) (prvS x s k) (Rd.own oA) HM2.out (by omega)).mono ?_)
                  rintro e x6 ⟨rfl, bx6⟩
                  have BB : Below w3.heap.size w3 x6 := BB.trans (bx6.mono BB.size)
                  replace oA := own_below oA bx6
                  have zx6 := bx6.size
                  have o_rc0 : x6.cell? ⟨(w.heap.size + 1), 0, none⟩ = some (.int .i64 0) := var_load (Hr.out _ BB) (by simp) 0 _ rfl
                  have o_rf0 : x6.frozen? ⟨(w.heap.size + 1), 0, none⟩ = false := var_frozen (Hr.out _ BB) (by simp) 0 _ rfl
                  have o_rc1 : x6.cell? ⟨(w.heap.size + 1), 1, none⟩ = some (.int .i64 0) := var_load (Hr.out _ BB) (by simp) 1 _ rfl
                  have o_rf1 : x6.frozen? ⟨(w.heap.size + 1), 1, none⟩ = false := var_frozen (Hr.out _ BB) (by simp) 1 _ rfl
                  have o_rc2 : x6.cell? ⟨(w.heap.size + 1), 2, none⟩ = some (.int .i64 0) := var_load (Hr.out _ BB) (by simp) 2 _ rfl
                  have o_rf2 : x6.frozen? ⟨(w.heap.size + 1), 2, none⟩ = false := var_frozen (Hr.out _ BB) (by simp) 2 _ rfl
                  have o_rc3 : x6.cell? ⟨(w.heap.size + 1), 3, none⟩ = some (.int .i64 0) := var_load (Hr.out _ BB) (by simp) 3 _ rfl
                  have o_rf3 : x6.frozen? ⟨(w.heap.size + 1), 3, none⟩ = false := var_frozen (Hr.out _ BB) (by simp) 3 _ rfl
                  have o_rl := var_lt (Hr.out _ BB)
                  refine hK.out _ _ ?_ (fun hHeld => ?_)
                  · exact HF.out _ BB
                  clear hK K
                  try simp only [Act.put, List.setIfInBounds_toArray, List.set_cons_zero, List.set_cons_succ]
                  refine wpAnyH_ready (rs := [13]) (by kernel_rfl) (by simp) ?_
                  refine AllReadyH.cons (o := ?or_13_56) ?hir_13_56 (fun K hK => ?gr_13_56) AllReadyH.nil
                  case hir_13_56 => simp only [List.getElem?_toArray, List.getElem?_cons_succ, List.getElem?_cons_zero]; rfl
                  case gr_13_56 =>
                    go_simp
                    obtain ⟨wf, hf⟩ : ∃ y, y = ((((x6.setCell ⟨w.heap.size + 1, 0, none⟩ (.int .i64 x.Vendor)).setCell ⟨w.heap.size + 1, 1, none⟩ (.int .i64 x.Serial)).setCell ⟨w.heap.size + 1, 2, none⟩ (.int .i64 x.Seed)).setCell ⟨w.heap.size + 1, 3, none⟩ (.int .i64 (x.Counter + 1))) := ⟨_, rfl⟩
                    obtain ⟨o_r2, t2⟩ := var_some [.int .i64 x.Vendor, .int .i64 x.Serial, .int .i64 x.Seed, .int .i64 (x.Counter + 1)] 0 _ _ (Hr.out _ BB) (by simp)
                    rw [show setAll x6 (w.heap.size + 1) 0 [.int .i64 x.Vendor, .int .i64 x.Serial, .int .i64 x.Seed, .int .i64 (x.Counter + 1)] = wf from hf.symm] at o_r2 t2
                    rw [← hf]
                    clear hf
                    have HZ := below_turned (HB.trans (BB.mono HB.size)) t2 (fun b hb => by simp at hb; omega)
                    have o_p2 := owns_turned (Hp.out _ BB) t2 (fun b hb hb2 => by simp at hb hb2; omega)
                    have o_o2 := owns_turned (Ho.out _ BB) t2 (fun b hb hb2 => by simp at hb hb2; omega)
                    clear o_rc0 o_rf0 o_rc1 o_rf1 o_rc2 o_rf2 o_rc3 o_rf3 o_rl
                    have o_r2c0 : wf.cell? ⟨w.heap.size + 1, 0, none⟩ = some (.int .i64 x.Vendor) := var_load o_r2 (by simp) 0 _ rfl
                    have o_r2c1 : wf.cell? ⟨w.heap.size + 1, 1, none⟩ = some (.int .i64 x.Serial) := var_load o_r2 (by simp) 1 _ rfl
                    have o_r2c2 : wf.cell? ⟨w.heap.size + 1, 2, none⟩ = some (.int .i64 x.Seed) := var_load o_r2 (by simp) 2 _ rfl
                    have o_r2c3 : wf.cell? ⟨w.heap.size + 1, 3, none⟩ = some (.int .i64 (x.Counter + 1)) := var_load o_r2 (by simp) 3 _ rfl
                    refine hK.out _ _ ?_ (fun hHeld => ?_)
                    · exact ⟨var_load o_p2 (by simp) 0 _ rfl, var_load o_p2 (by simp) 1 _ rfl, var_load o_p2 (by simp) 2 _ rfl, var_load o_p2 (by simp) 3 _ rfl, var_load o_o2 (by simp) 0 _ rfl, var_load o_o2 (by simp) 1 _ rfl, var_load o_o2 (by simp) 2 _ rfl, var_load o_o2 (by simp) 3 _ rfl⟩
                    clear hK K
                    try simp only [Act.put, List.setIfInBounds_toArray, List.set_cons_zero, List.set_cons_succ]
                    refine wpAnyH_take (i := 14) (oi := ?oir_14_57) (v := ?vr_14_57) ?hir_14_57 (by kernel_rfl) (by kernel_rfl) (by kernel_rfl) ?hQr_14_57 (Or.inl ⟨?hwr_14_57, ?hyr_14_57⟩) (by assumption) ?_
                    case hir_14_57 => simp only [List.getElem?_toArray, List.getElem?_cons_succ, List.getElem?_cons_zero]; rfl
                    case hQr_14_57 => exact fun _ _ _ h => h
                    case hwr_14_57 => rfl
                    case hyr_14_57 => intro w hSw; (try dsimp only at hSw); (first | (go_simp; done) | (go_simp; with_reducible rfl))
                    try simp only [Act.put, List.setIfInBounds_toArray, List.set_cons_zero, List.set_cons_succ]
                    refine wpAnyH_take (i := 15) (oi := ?oir_15_58) (v := ?vr_15_58) ?hir_15_58 (by kernel_rfl) (by kernel_rfl) (by kernel_rfl) ?hQr_15_58 (Or.inl ⟨?hwr_15_58, ?hyr_15_58⟩) (by assumption) ?_
                    case hir_15_58 => simp only [List.getElem?_toArray, List.getElem?_cons_succ, List.getElem?_cons_zero]; rfl
                    case hQr_15_58 => exact fun _ _ _ h => h
                    case hwr_15_58 => rfl
                    case hyr_15_58 => intro w hSw; (try dsimp only at hSw); (first | (go_simp; done) | (go_simp; with_reducible rfl))
                    try simp only [Act.put, List.setIfInBounds_toArray, List.set_cons_zero, List.set_cons_succ]
                    refine wpAnyH_done (by kernel_rfl) ?_ _
                    go_wp2
                    refine bodyPost_ret (v := .tuple #[.agg #[.int .i64 x.Vendor, .int .i64 x.Serial, .int .i64 x.Seed, .int .i64 (x.Counter + 1)], .int .i64 (sgn (prvS x s k) (m ++ [x.Counter + 1])), .bool true]) (by simp [results, Tryd.results15, go_sem, o_r2c0, o_r2c1, o_r2c2, o_r2c3]) rfl ?_
                    exact made_sg ⟨x.Vendor, x.Serial, x.Seed, x.Counter + 1⟩ _ true HZ
        case gr_5_51 =>
          go_simp
          obtain ⟨x2, hx2⟩ : ∃ y, y = x1.alloc (.cells #[] 3) := ⟨_, rfl⟩
          have oA := own_base (own_ints x1 [] 0 rfl (by omega)) BB.size
          rw [show x1.alloc (.cells (ints .i64 []).toArray 3) = x2 from hx2.symm] at oA
          rw [← hx2]
          have bx2 : Below x1.heap.size x1 x2 := hx2 ▸ (Below.refl _ _).alloc (Nat.le_refl _) _
          have lA : x1.heap.size < x2.heap.size := by rw [hx2]; simp
          clear hx2
          have BB : Below w3.heap.size w3 x2 := BB.trans (bx2.mono BB.size)
          replace oD := own_below oD bx2
          have zx2 := bx2.size
          refine hK.out _ _ ?_ (fun hHeld => ?_)
          · exact HF.out _ BB
          clear hK K
          try simp only [Act.put, List.setIfInBounds_toArray, List.set_cons_zero, List.set_cons_succ]
          refine wpAnyH_ready (rs := [4]) (by kernel_rfl) (by simp) ?_
          refine AllReadyH.cons (o := ?or_4_59) ?hir_4_59 (fun K hK => ?gr_4_59) AllReadyH.nil
          case hir_4_59 => simp only [List.getElem?_toArray, List.getElem?_cons_succ, List.getElem?_cons_zero]; rfl
          case gr_4_59 =>
            go_simp
            go_at_call 26
            (with_reducible refine (specPrvS _ x s k _ (st_rds _ _ x) HO.out hs k0 k1).mono ?_)
            rintro e x3 ⟨rfl, bx3⟩
            have BB : Below w3.heap.size w3 x3 := BB.trans (bx3.mono BB.size)
            replace oD := own_below oD bx3
            replace oA := own_below oA bx3
            have zx3 := bx3.size
            refine hK.out _ _ ?_ (fun hHeld => ?_)
            · exact HF.out _ BB
            clear hK K
            try simp only [Act.put, List.setIfInBounds_toArray, List.set_cons_zero, List.set_cons_succ]
            refine wpAnyH_ready (rs := [7]) (by kernel_rfl) (by simp) ?_
            refine AllReadyH.cons (o := ?or_7_60) ?hir_7_60 (fun K hK => ?gr_7_60) AllReadyH.nil
            case hir_7_60 => simp only [List.getElem?_toArray, List.getElem?_cons_succ, List.getElem?_cons_zero]; rfl
            case gr_7_60 =>
              refine Ra.stepI x3 rfl (.tmp 31) (.tmp 32) rfl w3.heap.size (.slice (some ⟨x1.heap.size, 0, none⟩) 0 0) 0 _ (by simp [Act.eval]) oA _ (A) n c m (by simp [Act.eval]) (HR.out _ BB) (by omega) BB.size ?_
              intro v4 x4 o4 g4 h4
              have BB : Below w3.heap.size w3 x4 := BB.grown g4 BB.size (fun j hj => (oA.lt j hj).1)
              have zx4 := g4.size
              replace oD := Ra.kept_row oD g4 (by intro e; have e : x1.heap.size = wd.heap.size := Option.some.inj e; omega)
              rw [ints_app, Nat.zero_add, List.nil_append] at o4
              obtain ⟨A4, c4, rfl⟩ := own_nil_form o4
              clear oA
              have oA := o4
              clear o4
              refine hK.out _ _ ?_ (fun hHeld => ?_)
              · exact HF.out _ BB
              clear hK K
              try simp only [Act.put, List.setIfInBounds_toArray, List.set_cons_zero, List.set_cons_succ]
              refine wpAnyH_ready (rs := [11]) (by kernel_rfl) (by simp) ?_
              refine AllReadyH.cons (o := ?or_11_61) ?hir_11_61 (fun K hK => ?gr_11_61) AllReadyH.nil
              case hir_11_61 => simp only [List.getElem?_toArray, List.getElem?_cons_succ, List.getElem?_cons_zero]; rfl
              case gr_11_61 =>
                refine Ra.stepI x4 rfl (.tmp 33) (.tmp 36) rfl w3.heap.size (.slice A4 n c4) n _ (by simp [Act.eval]) oA _ (some ⟨wd.heap.size, 0, none⟩) 1 1 [x.Counter + 1] (by simp [Act.eval]) (Rd.own oD) (by omega) BB.size ?_
                intro v5 x5 o5 g5 h5
                have BB : Below w3.heap.size w3 x5 := BB.grown g5 BB.size (fun j hj => (oA.lt j hj).1)
                have zx5 := g5.size
                rw [ints_app] at o5
                obtain ⟨A5, c5, rfl⟩ := own_nil_form o5
                clear oA
                have oA := o5
                clear o5
                try clear oD
                refine hK.out _ _ ?_ (fun hHeld => ?_)
                · exact HF.out _ BB
                clear hK K
                try simp only [Act.put, List.setIfInBounds_toArray, List.set_cons_zero, List.set_cons_succ]
                refine wpAnyH_ready (rs := [12]) (by kernel_rfl) (by simp) ?_
                refine AllReadyH.cons (o := ?or_12_62) ?hir_12_62 (fun K hK => ?gr_12_62) AllReadyH.nil
                case hir_12_62 => simp only [List.getElem?_toArray, List.getElem?_cons_succ, List.getElem?_cons_zero]; rfl
                case gr_12_62 =>
                  go_simp
                  go_at_call 25
                  (with_reducible refine (specSgn _ A5 (n + 1) c5 (m ++ [x.Counter + 1]) (prvS x s k) (Rd.own oA) HM2.out (by omega)).mono ?_)
                  rintro e x6 ⟨rfl, bx6⟩
                  have BB : Below w3.heap.size w3 x6 := BB.trans (bx6.mono BB.size)
                  replace oA := own_below oA bx6
                  have zx6 := bx6.size
                  have o_rc0 : x6.cell? ⟨(w.heap.size + 1), 0, none⟩ = some (.int .i64 0) := var_load (Hr.out _ BB) (by simp) 0 _ rfl
                  have o_rf0 : x6.frozen? ⟨(w.heap.size + 1), 0, none⟩ = false := var_frozen (Hr.out _ BB) (by simp) 0 _ rfl
                  have o_rc1 : x6.cell? ⟨(w.heap.size + 1), 1, none⟩ = some (.int .i64 0) := var_load (Hr.out _ BB) (by simp) 1 _ rfl
                  have o_rf1 : x6.frozen? ⟨(w.heap.size + 1), 1, none⟩ = false := var_frozen (Hr.out _ BB) (by simp) 1 _ rfl
                  have o_rc2 : x6.cell? ⟨(w.heap.size + 1), 2, none⟩ = some (.int .i64 0) := var_load (Hr.out _ BB) (by simp) 2 _ rfl
                  have o_rf2 : x6.frozen? ⟨(w.heap.size + 1), 2, none⟩ = false := var_frozen (Hr.out _ BB) (by simp) 2 _ rfl
                  have o_rc3 : x6.cell? ⟨(w.heap.size + 1), 3, none⟩ = some (.int .i64 0) := var_load (Hr.out _ BB) (by simp) 3 _ rfl
                  have o_rf3 : x6.frozen? ⟨(w.heap.size + 1), 3, none⟩ = false := var_frozen (Hr.out _ BB) (by simp) 3 _ rfl
                  have o_rl := var_lt (Hr.out _ BB)
                  refine hK.out _ _ ?_ (fun hHeld => ?_)
                  · exact HF.out _ BB
                  clear hK K
                  try simp only [Act.put, List.setIfInBounds_toArray, List.set_cons_zero, List.set_cons_succ]
                  refine wpAnyH_ready (rs := [13]) (by kernel_rfl) (by simp) ?_
                  refine AllReadyH.cons (o := ?or_13_63) ?hir_13_63 (fun K hK => ?gr_13_63) AllReadyH.nil
                  case hir_13_63 => simp only [List.getElem?_toArray, List.getElem?_cons_succ, List.getElem?_cons_zero]; rfl
                  case gr_13_63 =>
                    go_simp
                    obtain ⟨wf, hf⟩ : ∃ y, y = ((((x6.setCell ⟨w.heap.size + 1, 0, none⟩ (.int .i64 x.Vendor)).setCell ⟨w.heap.size + 1, 1, none⟩ (.int .i64 x.Serial)).setCell ⟨w.heap.size + 1, 2, none⟩ (.int .i64 x.Seed)).setCell ⟨w.heap.size + 1, 3, none⟩ (.int .i64 (x.Counter + 1))) := ⟨_, rfl⟩
                    obtain ⟨o_r2, t2⟩ := var_some [.int .i64 x.Vendor, .int .i64 x.Serial, .int .i64 x.Seed, .int .i64 (x.Counter + 1)] 0 _ _ (Hr.out _ BB) (by simp)
                    rw [show setAll x6 (w.heap.size + 1) 0 [.int .i64 x.Vendor, .int .i64 x.Serial, .int .i64 x.Seed, .int .i64 (x.Counter + 1)] = wf from hf.symm] at o_r2 t2
                    rw [← hf]
                    clear hf
                    have HZ := below_turned (HB.trans (BB.mono HB.size)) t2 (fun b hb => by simp at hb; omega)
                    have o_p2 := owns_turned (Hp.out _ BB) t2 (fun b hb hb2 => by simp at hb hb2; omega)
                    have o_o2 := owns_turned (Ho.out _ BB) t2 (fun b hb hb2 => by simp at hb hb2; omega)
                    clear o_rc0 o_rf0 o_rc1 o_rf1 o_rc2 o_rf2 o_rc3 o_rf3 o_rl
                    have o_r2c0 : wf.cell? ⟨w.heap.size + 1, 0, none⟩ = some (.int .i64 x.Vendor) := var_load o_r2 (by simp) 0 _ rfl
                    have o_r2c1 : wf.cell? ⟨w.heap.size + 1, 1, none⟩ = some (.int .i64 x.Serial) := var_load o_r2 (by simp) 1 _ rfl
                    have o_r2c2 : wf.cell? ⟨w.heap.size + 1, 2, none⟩ = some (.int .i64 x.Seed) := var_load o_r2 (by simp) 2 _ rfl
                    have o_r2c3 : wf.cell? ⟨w.heap.size + 1, 3, none⟩ = some (.int .i64 (x.Counter + 1)) := var_load o_r2 (by simp) 3 _ rfl
                    refine hK.out _ _ ?_ (fun hHeld => ?_)
                    · exact ⟨var_load o_p2 (by simp) 0 _ rfl, var_load o_p2 (by simp) 1 _ rfl, var_load o_p2 (by simp) 2 _ rfl, var_load o_p2 (by simp) 3 _ rfl, var_load o_o2 (by simp) 0 _ rfl, var_load o_o2 (by simp) 1 _ rfl, var_load o_o2 (by simp) 2 _ rfl, var_load o_o2 (by simp) 3 _ rfl⟩
                    clear hK K
                    try simp only [Act.put, List.setIfInBounds_toArray, List.set_cons_zero, List.set_cons_succ]
                    refine wpAnyH_take (i := 14) (oi := ?oir_14_64) (v := ?vr_14_64) ?hir_14_64 (by kernel_rfl) (by kernel_rfl) (by kernel_rfl) ?hQr_14_64 (Or.inl ⟨?hwr_14_64, ?hyr_14_64⟩) (by assumption) ?_
                    case hir_14_64 => simp only [List.getElem?_toArray, List.getElem?_cons_succ, List.getElem?_cons_zero]; rfl
                    case hQr_14_64 => exact fun _ _ _ h => h
                    case hwr_14_64 => rfl
                    case hyr_14_64 => intro w hSw; (try dsimp only at hSw); (first | (go_simp; done) | (go_simp; with_reducible rfl))
                    try simp only [Act.put, List.setIfInBounds_toArray, List.set_cons_zero, List.set_cons_succ]
                    refine wpAnyH_take (i := 15) (oi := ?oir_15_65) (v := ?vr_15_65) ?hir_15_65 (by kernel_rfl) (by kernel_rfl) (by kernel_rfl) ?hQr_15_65 (Or.inl ⟨?hwr_15_65, ?hyr_15_65⟩) (by assumption) ?_
                    case hir_15_65 => simp only [List.getElem?_toArray, List.getElem?_cons_succ, List.getElem?_cons_zero]; rfl
                    case hQr_15_65 => exact fun _ _ _ h => h
                    case hwr_15_65 => rfl
                    case hyr_15_65 => intro w hSw; (try dsimp only at hSw); (first | (go_simp; done) | (go_simp; with_reducible rfl))
                    try simp only [Act.put, List.setIfInBounds_toArray, List.set_cons_zero, List.set_cons_succ]
                    refine wpAnyH_done (by kernel_rfl) ?_ _
                    go_wp2
                    refine bodyPost_ret (v := .tuple #[.agg #[.int .i64 x.Vendor, .int .i64 x.Serial, .int .i64 x.Seed, .int .i64 (x.Counter + 1)], .int .i64 (sgn (prvS x s k) (m ++ [x.Counter + 1])), .bool true]) (by simp [results, Tryd.results15, go_sem, o_r2c0, o_r2c1, o_r2c2, o_r2c3]) rfl ?_
                    exact made_sg ⟨x.Vendor, x.Serial, x.Seed, x.Counter + 1⟩ _ true HZ
end Go.Proofs.YtckplhmielckeabDoor.C10b
