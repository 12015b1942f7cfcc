import Derived.Test.YtialhhdhpjjkaaaGreatDoorC10
import Derived.Test.YtialhhdhpjjkaaaGreatDoorDa14
import Derived.Test.YtialhhdhpjjkaaaGreatDoorBa
import Derived.Test.YtialhhdhpjjkaaaGreatDoorCc
/-
  Contracts of chapter 10's key stores, of the program: methods that are reached by a pointer.
-/
namespace Go.Proofs.YtialhhdhpjjkaaaGreatDoor.C10i
open Go.ChangeShapes Go.WideShapes Go.ChangeAt Go.RowKit
open S0 S1 S9 Dm Fx M3 M8 C3 C6 C10
set_option linter.unusedVariables false
set_option linter.unusedSimpArgs false
set_option maxRecDepth 100000
def rngB (v s : Int) : Bool := decide (1 ≤ v ∧ v ≤ 9) && decide (0 ≤ s ∧ s ≤ 1000000)
theorem implRng (w : World) (v s : Int) : Calls Tryz.prog 164 #[.int .i64 v, .int .i64 s] w fun e w' => e = .returned (.bool (rngB v s)) ∧ w = w' := by
  obtain ⟨r, hr⟩ : ∃ r, r = rngB v s := ⟨_, rfl⟩
  rw [← hr]
  unfold rngB at hr
  by_cases h1 : 1 ≤ v ∧ v ≤ 9
  · rw [decide_eq_true h1, Bool.true_and] at hr
    by_cases h2 : 0 ≤ s ∧ s ≤ 1000000
    · obtain rfl : r = true := by rw [hr, decide_eq_true h2]
      clear hr
      go_enter Tryz.func164, Tryz.ntmps164
      go_wp2_with fail
      (with_reducible refine (C1.implIn_t _ _ _ _ (by omega) (by omega)).mono ?_); rintro e w' ⟨rfl, rfl⟩
      go_wp2_with fail
      (with_reducible refine (C1.implIn_t _ _ _ _ (by omega) (by omega)).mono ?_); rintro e w' ⟨rfl, rfl⟩
      go_wp2
      go_ret
      exact ⟨rfl, rfl⟩
    · obtain rfl : r = false := by rw [hr, decide_eq_false h2]
      clear hr
      go_enter Tryz.func164, Tryz.ntmps164
      go_wp2_with fail
      (with_reducible refine (C1.implIn_t _ _ _ _ (by omega) (by omega)).mono ?_); rintro e w' ⟨rfl, rfl⟩
      go_wp2_with fail
      (with_reducible refine (C1.implIn_f _ _ _ _ (by omega)).mono ?_); rintro e w' ⟨rfl, rfl⟩
      go_wp2
      go_ret
      exact ⟨rfl, rfl⟩
  · obtain rfl : r = false := by rw [hr, decide_eq_false h1]; rfl
    clear hr
    go_enter Tryz.func164, Tryz.ntmps164
    go_wp2_with fail
    (with_reducible refine (C1.implIn_f _ _ _ _ (by omega)).mono ?_); rintro e w' ⟨rfl, rfl⟩
    go_wp2
    go_ret
    exact ⟨rfl, rfl⟩
set_option maxHeartbeats 1600000 in
theorem implVst (w : World) (x : Fx.KeyStore) (us : List Value) (h : RdsL w w.heap.size x.dcs us) : Calls Tryz.prog 143 #[.agg us.toArray] w (Gives (.bool (vst x)) w) := by
  obtain rfl := KeyStore.rds h
  clear h
  obtain ⟨r, hr⟩ : ∃ r, r = vst x := ⟨_, rfl⟩
  rw [← hr]
  have b0 : Below w.heap.size w (w.alloc (.cells #[.int .i64 x.Vendor, .int .i64 x.Serial, .int .i64 x.Seed, .int .i64 x.Counter] 61)) := (Below.refl _ _).alloc (Nat.le_refl _) _
  have hr2 : r = (rngB x.Vendor x.Serial && isKey x.Seed && decide (0 ≤ x.Counter ∧ x.Counter ≤ 1000000)) := by rw [hr]; unfold vst rngB; rfl
  clear hr
  have HI0 := Lib.hid (fun wx : World => show Calls Tryz.prog 105 #[.int .i64 x.Counter, .int .i64 0, .int .i64 1000000] wx (fun e w' => e = .returned (.bool (decide (0 ≤ x.Counter ∧ x.Counter ≤ 1000000))) ∧ wx = w') from by
    by_cases h : 0 ≤ x.Counter ∧ x.Counter ≤ 1000000
    · rw [decide_eq_true h]; exact C1.implIn_t _ _ _ _ (by omega) (by omega)
    · rw [decide_eq_false h]; exact C1.implIn_f _ _ _ _ (by omega))
  have HK0 := Lib.hid (fun wx : World => implValid wx x.Seed)
  have HD0 := Lib.hid (fun wx : World => implRng wx x.Vendor x.Serial)
  obtain ⟨d, hd⟩ : ∃ d, d = rngB x.Vendor x.Serial := ⟨_, rfl⟩
  obtain ⟨k, hk⟩ : ∃ k, k = isKey x.Seed := ⟨_, rfl⟩
  obtain ⟨c, hc⟩ : ∃ c, c = decide (0 ≤ x.Counter ∧ x.Counter ≤ 1000000) := ⟨_, rfl⟩
  rw [← hd] at HD0 hr2
  rw [← hk] at HK0 hr2
  rw [← hc] at HI0 hr2
  clear hd hk hc
  cases d with
  | false =>
    have HD := HD0
    clear HD0
    obtain rfl : r = false := by rw [hr2]; simp
    clear hr2
    have HK := HK0
    have HI := HI0
    go_enter Tryz.func143, Tryz.ntmps143
    go_wp2_with (first | (go_at_call 164; (with_reducible refine (HD.out _).mono ?_); rintro e w' ⟨rfl, rfl⟩) | (go_at_call 165; (with_reducible refine (HK.out _).mono ?_); rintro e w' ⟨rfl, rfl⟩) | (go_at_call 105; (with_reducible refine (HI.out _).mono ?_); rintro e w' ⟨rfl, rfl⟩))
    go_ret
    exact ⟨rfl, b0⟩
  | true =>
    have HD := HD0
    clear HD0
    cases k with
    | false =>
      have HK := HK0
      clear HK0
      obtain rfl : r = false := by rw [hr2]; simp
      clear hr2
      have HI := HI0
      go_enter Tryz.func143, Tryz.ntmps143
      go_wp2_with (first | (go_at_call 164; (with_reducible refine (HD.out _).mono ?_); rintro e w' ⟨rfl, rfl⟩) | (go_at_call 165; (with_reducible refine (HK.out _).mono ?_); rintro e w' ⟨rfl, rfl⟩) | (go_at_call 105; (with_reducible refine (HI.out _).mono ?_); rintro e w' ⟨rfl, rfl⟩))
      go_ret
      exact ⟨rfl, b0⟩
    | true =>
      have HK := HK0
      clear HK0
      cases c with
      | false =>
        have HI := HI0
        clear HI0
        obtain rfl : r = false := by rw [hr2]; simp
        clear hr2
        go_enter Tryz.func143, Tryz.ntmps143
        go_wp2_with (first | (go_at_call 164; (with_reducible refine (HD.out _).mono ?_); rintro e w' ⟨rfl, rfl⟩) | (go_at_call 165; (with_reducible refine (HK.out _).mono ?_); rintro e w' ⟨rfl, rfl⟩) | (go_at_call 105; (with_reducible refine (HI.out _).mono ?_); rintro e w' ⟨rfl, rfl⟩))
        go_ret
        exact ⟨rfl, b0⟩
      | true =>
        have HI := HI0
        clear HI0
        obtain rfl : r = true := by rw [hr2]; simp
        clear hr2
        go_enter Tryz.func143, Tryz.ntmps143
        go_wp2_with (first | (go_at_call 164; (with_reducible refine (HD.out _).mono ?_); rintro e w' ⟨rfl, rfl⟩) | (go_at_call 165; (with_reducible refine (HK.out _).mono ?_); rintro e w' ⟨rfl, rfl⟩) | (go_at_call 105; (with_reducible refine (HI.out _).mono ?_); rintro e w' ⟨rfl, rfl⟩))
        go_ret
        exact ⟨rfl, b0⟩
set_option maxHeartbeats 1600000 in
theorem implSiteH (w : World) (s : ByteArray) (hs : s.size ≤ 16000000) : Calls Tryz.prog 33 #[.string s] w (Gives (.int .i64 (siteH s)) w) := by
  go_enter Tryz.func33, Tryz.ntmps33
  go_wp2_with fail
  (with_reducible refine (C3b.implDerive _ 173 s (by omega) (by omega) (by omega)).mono ?_); rintro e w2 ⟨rfl, b2⟩
  go_wp2
  go_ret
  exact ⟨rfl, b2⟩
set_option maxHeartbeats 1600000 in
theorem siteKey (w1 : World) (b : Nat) (x : Fx.KeyStore) (s : ByteArray) (k : Int) (hc : w1.cell? ⟨b, 2, none⟩ = some (.int .i64 x.Seed)) (hb : b < w1.heap.size) (ho : x.ok) (hs : s.size ≤ 16000000) (k0 : -9223372036854775808 ≤ k) (k1 : k ≤ 9223372036854775807) :
    Calls Tryz.prog 146 #[.pointer (some ⟨b, 0, none⟩), .string s, .int .i64 k] w1 (Gives (.int .i64 (prvS x s k)) w1) := by
  obtain ⟨s0, s1⟩ := ho.Seed
  have HF := Lib.hid (show ∀ wx, Below w1.heap.size w1 wx → wx.cell? ⟨b, 2, none⟩ = some (.int .i64 x.Seed) from fun wx hbx => by rw [World.cell?_of_block (hbx.block b hb)]; exact hc)
  clear hc
  have hsi : -9223372036854775808 ≤ siteH s ∧ siteH s ≤ 9223372036854775807 := by
    have := derive_valid 173 (C3b.sbytes s)
    unfold siteH
    omega
  have HO := Lib.hid (show okInts [179, siteH s, k] from ((okInts.one (x := 179) (by omega) (by omega)).app ((okInts.one hsi.1 hsi.2).app (okInts.one k0 k1)) : okInts ([179] ++ ([siteH s] ++ [k]))))
  have c2 := HF.out w1.drew (drewN_below w1 1 _)
  go_enter Tryz.func146, Tryz.ntmps146
  go_wp2_with fail
  go_region_held3 (fun wx => wx.cell? ⟨b, 2, none⟩ = some (.int .i64 x.Seed)) (first | exact c2 | exact c3 | exact HF.out _ ((b2.alloc b2.size _)) | exact HF.out _ b5) (first | (go_at_call 33; (with_reducible refine (implSiteH _ s hs).mono ?_); rintro e w2 ⟨rfl, b2⟩; replace b2 : Below w1.heap.size w1 w2 := (drewN_below w1 1 _).trans b2; have c3 := HF.out w2 b2) | (go_at_call 167; have ho3 : (w2.alloc (.cells #[.int .i64 179, .int .i64 (siteH s), .int .i64 k] 3)).ownsRow w2.heap.size 3 1 (.slice (some ⟨w2.heap.size, 0, none⟩) 3 3) 3 (ints .i64 [179, siteH s, k]) := own_ints w2 [179, siteH s, k] 3 rfl (by omega); (with_reducible refine (C6i.implDer _ _ 3 3 [179, siteH s, k] x.Seed s0 s1 (Rd.own ho3) HO.out (by omega)).mono ?_); rintro e w5 ⟨rfl, bq⟩; have b5 : Below w1.heap.size w1 w5 := (b2.alloc b2.size _).trans (bq.mono (b2.alloc b2.size _).size)))
  go_wp2
  go_ret
  exact ⟨rfl, b5⟩
theorem turned_b {w w' : World} (bs : List Nat) (h : Below w.heap.size w w') : Turned w w' bs := ⟨h.os, h.tape, h.output, h.size, fun k hk _ => h.block k hk⟩
/-- What the method leaves: its answer, the counted store where its pointer reaches, and nothing else below B. -/
def Signed (B b : Nat) (x : Fx.KeyStore) (s : ByteArray) (k : Int) (m : List Int) (w : World) (e : Ending) (w' : World) : Prop :=
  e = .returned (.tuple #[.int .i64 (signV x s k m), .bool (signB x)]) ∧ Turned w w' [b] ∧ Owns w' B (varD 61 4 [.int .i64 (signX x).Vendor, .int .i64 (signX x).Serial, .int .i64 (signX x).Seed, .int .i64 (signX x).Counter]) (.slice (some ⟨b, 0, none⟩) 1 1) [b]
set_option maxHeartbeats 3200000 in
theorem signP (w : World) (B b : Nat) (x : Fx.KeyStore) (s : ByteArray) (k : Int) (m : List Int) (A : Option Addr) (c : Nat) (o_s : Owns w B (varD 61 4 [.int .i64 x.Vendor, .int .i64 x.Serial, .int .i64 x.Seed, .int .i64 x.Counter]) (.slice (some ⟨b, 0, none⟩) 1 1) [b]) (hB : B ≤ b) (ho : x.ok) (hs : s.size ≤ 16000000) (k0 : -9223372036854775808 ≤ k) (k1 : k ≤ 9223372036854775807) (hr : Rd w B 1 A m.length (ints .i64 m)) (hm : okInts m) (hn : m.length ≤ 1048576) :
    Calls Tryz.prog 119 #[.pointer (some ⟨b, 0, none⟩), .string s, .int .i64 k, .slice A m.length c] w (Signed B b x s k m w) := by
  obtain ⟨n, hnn⟩ : ∃ n, n = m.length := ⟨_, rfl⟩
  rw [← hnn] at hr hn ⊢
  have HR := Lib.hid hr
  have HM := Lib.hid (show okInts m from hm)
  have HO := Lib.hid ho
  clear hr hm ho hnn
  have HV := Lib.hid (fun wx : World => show Calls Tryz.prog 143 #[.agg #[.int .i64 x.Vendor, .int .i64 x.Serial, .int .i64 x.Seed, .int .i64 x.Counter]] wx (Gives (.bool (vst x)) wx) from implVst wx x _ (st_rds wx _ x))
  have lb := var_lt o_s
  cases hv : vst x with
  | false =>
    have hsb : signB x = false := by unfold signB; rw [hv]; rfl
    have e1 : signX x = x := by unfold signX; rw [hsb]; rfl
    have e2 : signV x s k m = 0 := by unfold signV; rw [hsb]; rfl
    have HP := Lib.hid (show Signed B b x s k m w = fun e w' => e = .returned (.tuple #[.int .i64 0, .bool false]) ∧ Turned w w' [b] ∧ Owns w' B (varD 61 4 [.int .i64 x.Vendor, .int .i64 x.Serial, .int .i64 x.Seed, .int .i64 x.Counter]) (.slice (some ⟨b, 0, none⟩) 1 1) [b] by unfold Signed; rw [e1, e2, hsb])
    rw [HP.out]
    rw [hv] at HV
    clear e1 e2 hsb hv
    go_enter Tryz.func119, Tryz.ntmps119
    have o_sc0 : w.cell? ⟨b, 0, none⟩ = some (.int .i64 x.Vendor) := var_load o_s (by simp) 0 _ rfl
    have o_sf0 : w.frozen? ⟨b, 0, none⟩ = false := var_frozen o_s (by simp) 0 _ rfl
    have o_sc1 : w.cell? ⟨b, 1, none⟩ = some (.int .i64 x.Serial) := var_load o_s (by simp) 1 _ rfl
    have o_sf1 : w.frozen? ⟨b, 1, none⟩ = false := var_frozen o_s (by simp) 1 _ rfl
    have o_sc2 : w.cell? ⟨b, 2, none⟩ = some (.int .i64 x.Seed) := var_load o_s (by simp) 2 _ rfl
    have o_sf2 : w.frozen? ⟨b, 2, none⟩ = false := var_frozen o_s (by simp) 2 _ rfl
    have o_sc3 : w.cell? ⟨b, 3, none⟩ = some (.int .i64 x.Counter) := var_load o_s (by simp) 3 _ rfl
    have o_sf3 : w.frozen? ⟨b, 3, none⟩ = false := var_frozen o_s (by simp) 3 _ rfl
    have o_sl := var_lt o_s
    go_wp2_with fail
    (refine (HV.out _).mono ?_); rintro e w2 ⟨rfl, b2⟩
    clear o_sc0 o_sf0 o_sc1 o_sf1 o_sc2 o_sf2 o_sc3 o_sf3 o_sl
    replace o_s := owns_below o_s b2
    have o_sc0 : w2.cell? ⟨b, 0, none⟩ = some (.int .i64 x.Vendor) := var_load o_s (by simp) 0 _ rfl
    have o_sf0 : w2.frozen? ⟨b, 0, none⟩ = false := var_frozen o_s (by simp) 0 _ rfl
    have o_sc1 : w2.cell? ⟨b, 1, none⟩ = some (.int .i64 x.Serial) := var_load o_s (by simp) 1 _ rfl
    have o_sf1 : w2.frozen? ⟨b, 1, none⟩ = false := var_frozen o_s (by simp) 1 _ rfl
    have o_sc2 : w2.cell? ⟨b, 2, none⟩ = some (.int .i64 x.Seed) := var_load o_s (by simp) 2 _ rfl
    have o_sf2 : w2.frozen? ⟨b, 2, none⟩ = false := var_frozen o_s (by simp) 2 _ rfl
    have o_sc3 : w2.cell? ⟨b, 3, none⟩ = some (.int .i64 x.Counter) := var_load o_s (by simp) 3 _ rfl
    have o_sf3 : w2.frozen? ⟨b, 3, none⟩ = false := var_frozen o_s (by simp) 3 _ rfl
    have o_sl := var_lt o_s
    go_wp2
    go_ret2
    exact ⟨rfl, turned_b _ b2, o_s⟩
  | true =>
    rw [hv] at HV
    by_cases hc : x.Counter = 1000000
    · have hsb : signB x = false := by unfold signB; rw [hv, decide_eq_true hc]; rfl
      have e1 : signX x = x := by unfold signX; rw [hsb]; rfl
      have e2 : signV x s k m = 0 := by unfold signV; rw [hsb]; rfl
      have HP := Lib.hid (show Signed B b x s k m w = fun e w' => e = .returned (.tuple #[.int .i64 0, .bool false]) ∧ Turned w w' [b] ∧ Owns w' B (varD 61 4 [.int .i64 x.Vendor, .int .i64 x.Serial, .int .i64 x.Seed, .int .i64 x.Counter]) (.slice (some ⟨b, 0, none⟩) 1 1) [b] by unfold Signed; rw [e1, e2, hsb])
      rw [HP.out]
      clear e1 e2 hsb hv
      have hcb : (x.Counter == 1000000) = true := by simpa using hc
      clear hc
      go_enter Tryz.func119, Tryz.ntmps119
      have o_sc0 : w.cell? ⟨b, 0, none⟩ = some (.int .i64 x.Vendor) := var_load o_s (by simp) 0 _ rfl
      have o_sf0 : w.frozen? ⟨b, 0, none⟩ = false := var_frozen o_s (by simp) 0 _ rfl
      have o_sc1 : w.cell? ⟨b, 1, none⟩ = some (.int .i64 x.Serial) := var_load o_s (by simp) 1 _ rfl
      have o_sf1 : w.frozen? ⟨b, 1, none⟩ = false := var_frozen o_s (by simp) 1 _ rfl
      have o_sc2 : w.cell? ⟨b, 2, none⟩ = some (.int .i64 x.Seed) := var_load o_s (by simp) 2 _ rfl
      have o_sf2 : w.frozen? ⟨b, 2, none⟩ = false := var_frozen o_s (by simp) 2 _ rfl
      have o_sc3 : w.cell? ⟨b, 3, none⟩ = some (.int .i64 x.Counter) := var_load o_s (by simp) 3 _ rfl
      have o_sf3 : w.frozen? ⟨b, 3, none⟩ = false := var_frozen o_s (by simp) 3 _ rfl
      have o_sl := var_lt o_s
      go_wp2_with fail
      (refine (HV.out _).mono ?_); rintro e w2 ⟨rfl, b2⟩
      clear o_sc0 o_sf0 o_sc1 o_sf1 o_sc2 o_sf2 o_sc3 o_sf3 o_sl
      replace o_s := owns_below o_s b2
      have o_sc0 : w2.cell? ⟨b, 0, none⟩ = some (.int .i64 x.Vendor) := var_load o_s (by simp) 0 _ rfl
      have o_sf0 : w2.frozen? ⟨b, 0, none⟩ = false := var_frozen o_s (by simp) 0 _ rfl
      have o_sc1 : w2.cell? ⟨b, 1, none⟩ = some (.int .i64 x.Serial) := var_load o_s (by simp) 1 _ rfl
      have o_sf1 : w2.frozen? ⟨b, 1, none⟩ = false := var_frozen o_s (by simp) 1 _ rfl
      have o_sc2 : w2.cell? ⟨b, 2, none⟩ = some (.int .i64 x.Seed) := var_load o_s (by simp) 2 _ rfl
      have o_sf2 : w2.frozen? ⟨b, 2, none⟩ = false := var_frozen o_s (by simp) 2 _ rfl
      have o_sc3 : w2.cell? ⟨b, 3, none⟩ = some (.int .i64 x.Counter) := var_load o_s (by simp) 3 _ rfl
      have o_sf3 : w2.frozen? ⟨b, 3, none⟩ = false := var_frozen o_s (by simp) 3 _ rfl
      have o_sl := var_lt o_s
      go_wp2
      go_ret2
      exact ⟨rfl, turned_b _ b2, o_s⟩
    · have hsb : signB x = true := by unfold signB; rw [hv, decide_eq_false hc]; rfl
      have e1 : signX x = ⟨x.Vendor, x.Serial, x.Seed, x.Counter + 1⟩ := by unfold signX; rw [hsb]; rfl
      have e2 : signV x s k m = sgn (prvS x s k) (m ++ [x.Counter + 1]) := by unfold signV; rw [hsb]; rfl
      have HP := Lib.hid (show Signed B b x s k m w = fun e w' => e = .returned (.tuple #[.int .i64 (sgn (prvS x s k) (m ++ [x.Counter + 1])), .bool true]) ∧ Turned w w' [b] ∧ Owns w' B (varD 61 4 [.int .i64 x.Vendor, .int .i64 x.Serial, .int .i64 x.Seed, .int .i64 (x.Counter + 1)]) (.slice (some ⟨b, 0, none⟩) 1 1) [b] by unfold Signed; rw [e1, e2, hsb])
      rw [HP.out]
      have hcr : 0 ≤ x.Counter ∧ x.Counter ≤ 999999 := by
        unfold vst at hv
        simp only [Bool.and_eq_true, decide_eq_true_eq] at hv
        have := hv.2
        omega
      clear e1 e2 hsb hv
      have hcb : (x.Counter == 1000000) = false := by simpa using hc
      clear hc
      obtain ⟨r0, r1⟩ := hcr
      go_enter Tryz.func119, Tryz.ntmps119
      have o_sc0 : w.cell? ⟨b, 0, none⟩ = some (.int .i64 x.Vendor) := var_load o_s (by simp) 0 _ rfl
      have o_sf0 : w.frozen? ⟨b, 0, none⟩ = false := var_frozen o_s (by simp) 0 _ rfl
      have o_sc1 : w.cell? ⟨b, 1, none⟩ = some (.int .i64 x.Serial) := var_load o_s (by simp) 1 _ rfl
      have o_sf1 : w.frozen? ⟨b, 1, none⟩ = false := var_frozen o_s (by simp) 1 _ rfl
      have o_sc2 : w.cell? ⟨b, 2, none⟩ = some (.int .i64 x.Seed) := var_load o_s (by simp) 2 _ rfl
      have o_sf2 : w.frozen? ⟨b, 2, none⟩ = false := var_frozen o_s (by simp) 2 _ rfl
      have o_sc3 : w.cell? ⟨b, 3, none⟩ = some (.int .i64 x.Counter) := var_load o_s (by simp) 3 _ rfl
      have o_sf3 : w.frozen? ⟨b, 3, none⟩ = false := var_frozen o_s (by simp) 3 _ rfl
      have o_sl := var_lt o_s
      go_wp2_with fail
      (refine (HV.out _).mono ?_); rintro e w2 ⟨rfl, b2⟩
      clear o_sc0 o_sf0 o_sc1 o_sf1 o_sc2 o_sf2 o_sc3 o_sf3 o_sl
      replace o_s := owns_below o_s b2
      have o_sc0 : w2.cell? ⟨b, 0, none⟩ = some (.int .i64 x.Vendor) := var_load o_s (by simp) 0 _ rfl
      have o_sf0 : w2.frozen? ⟨b, 0, none⟩ = false := var_frozen o_s (by simp) 0 _ rfl
      have o_sc1 : w2.cell? ⟨b, 1, none⟩ = some (.int .i64 x.Serial) := var_load o_s (by simp) 1 _ rfl
      have o_sf1 : w2.frozen? ⟨b, 1, none⟩ = false := var_frozen o_s (by simp) 1 _ rfl
      have o_sc2 : w2.cell? ⟨b, 2, none⟩ = some (.int .i64 x.Seed) := var_load o_s (by simp) 2 _ rfl
      have o_sf2 : w2.frozen? ⟨b, 2, none⟩ = false := var_frozen o_s (by simp) 2 _ rfl
      have o_sc3 : w2.cell? ⟨b, 3, none⟩ = some (.int .i64 x.Counter) := var_load o_s (by simp) 3 _ rfl
      have o_sf3 : w2.frozen? ⟨b, 3, none⟩ = false := var_frozen o_s (by simp) 3 _ rfl
      have o_sl := var_lt o_s
      go_wp2_with fail
      obtain ⟨w3, hw3⟩ : ∃ y, y = w2.setCell ⟨b, 3, none⟩ (.int .i64 (x.Counter + 1)) := ⟨_, rfl⟩
      obtain ⟨o_n, t3⟩ := var_some [.int .i64 (x.Counter + 1)] 3 _ _ o_s (by simp)
      rw [show setAll w2 b 3 [.int .i64 (x.Counter + 1)] = w3 from hw3.symm] at o_n t3
      have HT : Turned w w3 [b] := turned_trans (turned_b _ b2) t3
      have z3 : w3.heap.size = w2.heap.size := by rw [hw3]; simp
      clear o_sc0 o_sf0 o_sc1 o_sf1 o_sc2 o_sf2 o_sc3 o_sf3 o_sl
      rw [← hw3]
      clear hw3 t3
      replace o_s : Owns w3 B (varD 61 4 [.int .i64 x.Vendor, .int .i64 x.Serial, .int .i64 x.Seed, .int .i64 (x.Counter + 1)]) (.slice (some ⟨b, 0, none⟩) 1 1) [b] := o_n
      clear o_n
      have l3 := var_lt o_s
      obtain ⟨w4, hw4⟩ : ∃ y, y = w3.alloc (.cells #[.int .i64 (x.Counter + 1)] 3) := ⟨_, rfl⟩
      have ho4 : (w3.alloc (.cells #[.int .i64 (x.Counter + 1)] 3)).ownsRow w3.heap.size 3 1 (.slice (some ⟨w3.heap.size, 0, none⟩) 1 1) 1 (ints .i64 [x.Counter + 1]) := own_ints w3 [x.Counter + 1] 1 rfl (by omega)
      have b4 : Below w3.heap.size w3 w4 := hw4 ▸ (Below.refl _ _).alloc (Nat.le_refl _) _
      have z4 : w4.heap.size = w2.heap.size + 1 := by rw [hw4]; simp [z3]
      rw [← hw4, z3] at ho4
      rw [← hw4]
      clear hw4
      obtain ⟨w5, hw5⟩ : ∃ y, y = w4.alloc (.cells #[.slice A n c, .slice (some ⟨w2.heap.size, 0, none⟩) 1 1] 72) := ⟨_, rfl⟩
      have o_v := var_owns w4 72 2 [.slice A n c, .slice (some ⟨w2.heap.size, 0, none⟩) 1 1] rfl
      have b5 : Below w4.heap.size w4 w5 := hw5 ▸ (Below.refl _ _).alloc (Nat.le_refl _) _
      rw [← hw5, z4] at o_v
      rw [← hw5]
      clear hw5
      have c50 := var_load o_v (by simp) 0 _ rfl
      have c51 := var_load o_v (by simp) 1 _ rfl
      have l5 := var_lt o_v
      clear o_v
      replace o_s := owns_below (owns_below o_s b4) b5
      replace ho4 := own_below ho4 b5
      have b35 : Below w3.heap.size w3 w5 := b4.trans (b5.mono b4.size)
      replace HT : Turned w w5 [b] := turned_trans HT (turned_b _ b35)
      have R4 := Rd.own ho4
      have RM : Rd w5 w5.heap.size 1 A n (ints .i64 m) := (HR.out.keep (fun j hj => HT.2.2.2.2 j (by omega) (by simp; omega))).more (by have := HT.2.2.2.1; omega)
      clear ho4 b4 b5 b35 z4 z3
      (with_reducible refine (Cc.concat2 w5 _ A _ n c 1 1 m [x.Counter + 1] c50 c51 l5 RM R4 (by omega) (by omega)).mono ?_); rintro e w6 ⟨A6, c6, rfl, ho6, b6⟩
      clear c50 c51 RM R4 l5
      replace o_s := owns_below o_s b6
      have l6 := var_lt o_s
      have c62 := var_load o_s (by simp) 2 _ rfl
      have hm6 : okInts (m ++ [x.Counter + 1]) := HM.out.app (okInts.one (by omega) (by omega))
      have HM6 := Lib.hid hm6
      have HO6 := Lib.hid ho6
      clear hm6 ho6
      go_wp2_with fail
      (with_reducible refine (siteKey w6 b x s k c62 l6 HO.out hs k0 k1).mono ?_); rintro e w7 ⟨rfl, b7⟩
      clear c62
      go_wp2_with fail
      (with_reducible refine (C6.implSgn _ A6 (n + 1) c6 (m ++ [x.Counter + 1]) (prvS x s k) (Rd.own (own_below HO6.out b7)) HM6.out (by omega)).mono ?_); rintro e w8 ⟨rfl, b8⟩
      go_wp2
      go_ret2
      have b68 : Below w6.heap.size w6 w8 := b7.trans (b8.mono b7.size)
      have b58 : Below w5.heap.size w5 w8 := b6.trans (b68.mono b6.size)
      exact ⟨rfl, turned_trans HT (turned_b _ b58), owns_below o_s b68⟩
set_option maxHeartbeats 1600000 in
theorem implSign (w : World) (x : Fx.KeyStore) (s : ByteArray) (k : Int) (m : List Int) (us : List Value) (v : Value) (h : RdsL w w.heap.size x.dcs us) (ho : x.ok) (hs : s.size ≤ 16000000) (k0 : -9223372036854775808 ≤ k) (k1 : k ≤ 9223372036854775807) (g : Rds w w.heap.size (numsD m) v) (hm : okInts m) (hn : m.length ≤ 1048576) :
    Calls Tryz.prog 81 #[.agg us.toArray, .string s, .int .i64 k, v] w (MadeLx (signX x).dcs (fun vs => .tuple #[.agg vs.toArray, .int .i64 (signV x s k m), .bool (signB x)]) w) := by
  obtain rfl := KeyStore.rds h
  obtain ⟨A, c, rfl, hr⟩ := rds_flat g
  clear h g
  have HR := Lib.hid hr
  have HM := Lib.hid (show okInts m from hm)
  have HO := Lib.hid ho
  clear hr hm ho
  obtain ⟨y, hy⟩ : ∃ y, y = signX x := ⟨_, rfl⟩
  obtain ⟨q, hq⟩ : ∃ q, q = signV x s k m := ⟨_, rfl⟩
  obtain ⟨z, hz⟩ : ∃ z, z = signB x := ⟨_, rfl⟩
  rw [← hy, ← hq, ← hz]
  have HY := Lib.hid hy
  have HQ := Lib.hid hq
  have HZ := Lib.hid hz
  clear hy hq hz
  obtain ⟨w0, hw0⟩ : ∃ y, y = w.alloc (.cells #[.int .i64 x.Vendor, .int .i64 x.Serial, .int .i64 x.Seed, .int .i64 x.Counter] 61) := ⟨_, rfl⟩
  obtain ⟨w1, hw1⟩ : ∃ y, y = w0.alloc (.cells #[.int .i64 0, .int .i64 0, .int .i64 0, .int .i64 0] 61) := ⟨_, rfl⟩
  have s0 : w0.heap.size = w.heap.size + 1 := by rw [hw0]; simp
  have o_p := var_owns w 61 4 [.int .i64 x.Vendor, .int .i64 x.Serial, .int .i64 x.Seed, .int .i64 x.Counter] rfl
  have o_r := var_owns w0 61 4 [.int .i64 0, .int .i64 0, .int .i64 0, .int .i64 0] rfl
  have b0 : Below w.heap.size w w0 := hw0 ▸ (Below.refl _ _).alloc (Nat.le_refl _) _
  have b1 : Below w0.heap.size w0 w1 := hw1 ▸ (Below.refl _ _).alloc (Nat.le_refl _) _
  rw [← hw0] at o_p
  rw [← hw1, s0] at o_r
  replace o_p := owns_below o_p b1
  have HB : Below w.heap.size w w1 := b0.trans (b1.mono b0.size)
  have l1 := var_lt o_p
  clear b0 b1
  have RM : Rd w1 w.heap.size 1 A m.length (ints .i64 m) := HR.out.below HB
  go_enter Tryz.func81, Tryz.ntmps81
  go_wp2_with fail
  rw [← hw0, ← hw1]
  clear hw0 hw1
  (with_reducible refine (signP w1 w.heap.size w.heap.size x s k m A c o_p (Nat.le_refl _) HO.out hs k0 k1 RM HM.out hn).mono ?_); rintro e w2 ⟨rfl, t2, o_q⟩
  clear o_p RM l1
  replace HB := below_turned HB t2 (fun b hb => by simp at hb; omega)
  replace o_r := owns_turned o_r t2 (fun b hb hb2 => by simp at hb hb2; omega)
  clear t2
  rw [← HY.out] at o_q
  rw [← HQ.out, ← HZ.out]
  have o_qc0 : w2.cell? ⟨w.heap.size, 0, none⟩ = some (.int .i64 y.Vendor) := var_load o_q (by simp) 0 _ rfl
  have o_qf0 : w2.frozen? ⟨w.heap.size, 0, none⟩ = false := var_frozen o_q (by simp) 0 _ rfl
  have o_qc1 : w2.cell? ⟨w.heap.size, 1, none⟩ = some (.int .i64 y.Serial) := var_load o_q (by simp) 1 _ rfl
  have o_qf1 : w2.frozen? ⟨w.heap.size, 1, none⟩ = false := var_frozen o_q (by simp) 1 _ rfl
  have o_qc2 : w2.cell? ⟨w.heap.size, 2, none⟩ = some (.int .i64 y.Seed) := var_load o_q (by simp) 2 _ rfl
  have o_qf2 : w2.frozen? ⟨w.heap.size, 2, none⟩ = false := var_frozen o_q (by simp) 2 _ rfl
  have o_qc3 : w2.cell? ⟨w.heap.size, 3, none⟩ = some (.int .i64 y.Counter) := var_load o_q (by simp) 3 _ rfl
  have o_qf3 : w2.frozen? ⟨w.heap.size, 3, none⟩ = false := var_frozen o_q (by simp) 3 _ rfl
  have o_ql := var_lt o_q
  have o_rc0 : w2.cell? ⟨(w.heap.size + 1), 0, none⟩ = some (.int .i64 0) := var_load o_r (by simp) 0 _ rfl
  have o_rf0 : w2.frozen? ⟨(w.heap.size + 1), 0, none⟩ = false := var_frozen o_r (by simp) 0 _ rfl
  have o_rc1 : w2.cell? ⟨(w.heap.size + 1), 1, none⟩ = some (.int .i64 0) := var_load o_r (by simp) 1 _ rfl
  have o_rf1 : w2.frozen? ⟨(w.heap.size + 1), 1, none⟩ = false := var_frozen o_r (by simp) 1 _ rfl
  have o_rc2 : w2.cell? ⟨(w.heap.size + 1), 2, none⟩ = some (.int .i64 0) := var_load o_r (by simp) 2 _ rfl
  have o_rf2 : w2.frozen? ⟨(w.heap.size + 1), 2, none⟩ = false := var_frozen o_r (by simp) 2 _ rfl
  have o_rc3 : w2.cell? ⟨(w.heap.size + 1), 3, none⟩ = some (.int .i64 0) := var_load o_r (by simp) 3 _ rfl
  have o_rf3 : w2.frozen? ⟨(w.heap.size + 1), 3, none⟩ = false := var_frozen o_r (by simp) 3 _ rfl
  have o_rl := var_lt o_r
  go_wp2
  obtain ⟨wf, hf⟩ : ∃ u, u = ((((w2.setCell ⟨w.heap.size + 1, 0, none⟩ (.int .i64 y.Vendor)).setCell ⟨w.heap.size + 1, 1, none⟩ (.int .i64 y.Serial)).setCell ⟨w.heap.size + 1, 2, none⟩ (.int .i64 y.Seed)).setCell ⟨w.heap.size + 1, 3, none⟩ (.int .i64 y.Counter)) := ⟨_, rfl⟩
  obtain ⟨o_r2, t2⟩ := var_some [.int .i64 y.Vendor, .int .i64 y.Serial, .int .i64 y.Seed, .int .i64 y.Counter] 0 _ _ o_r (by simp)
  rw [show setAll w2 (w.heap.size + 1) 0 [.int .i64 y.Vendor, .int .i64 y.Serial, .int .i64 y.Seed, .int .i64 y.Counter] = wf from hf.symm] at o_r2 t2
  have HF := below_turned HB t2 (fun b hb => by simp at hb; omega)
  clear o_rc0 o_rf0 o_rc1 o_rf1 o_rc2 o_rf2 o_rc3 o_rf3 o_rl
  clear o_qc0 o_qf0 o_qc1 o_qf1 o_qc2 o_qf2 o_qc3 o_qf3 o_ql
  have o_r2c0 : wf.cell? ⟨(w.heap.size + 1), 0, none⟩ = some (.int .i64 y.Vendor) := var_load o_r2 (by simp) 0 _ rfl
  have o_r2c1 : wf.cell? ⟨(w.heap.size + 1), 1, none⟩ = some (.int .i64 y.Serial) := var_load o_r2 (by simp) 1 _ rfl
  have o_r2c2 : wf.cell? ⟨(w.heap.size + 1), 2, none⟩ = some (.int .i64 y.Seed) := var_load o_r2 (by simp) 2 _ rfl
  have o_r2c3 : wf.cell? ⟨(w.heap.size + 1), 3, none⟩ = some (.int .i64 y.Counter) := var_load o_r2 (by simp) 3 _ rfl
  have o_r2l := var_lt o_r2
  rw [← hf]
  refine bodyPost_ret (v := .tuple #[.agg #[.int .i64 y.Vendor, .int .i64 y.Serial, .int .i64 y.Seed, .int .i64 y.Counter], .int .i64 q, .bool z]) (by simp [results, Tryz.results81, go_sem, o_r2c0, o_r2c1, o_r2c2, o_r2c3]) rfl ?_
  exact ⟨_, [], rfl, KeyStore.mkO, by simp, HF⟩
end Go.Proofs.YtialhhdhpjjkaaaGreatDoor.C10i
