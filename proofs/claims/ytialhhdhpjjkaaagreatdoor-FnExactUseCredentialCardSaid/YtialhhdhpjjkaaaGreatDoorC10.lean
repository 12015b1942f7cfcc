import Derived.Test.YtialhhdhpjjkaaaGreatDoorBa
import Derived.Test.YtialhhdhpjjkaaaGreatDoorYKeyStore
/-
  Contracts of chapter 10's key stores, of the model.
-/
namespace Go.Proofs.YtialhhdhpjjkaaaGreatDoor.C10
open Go.ChangeShapes Go.WideShapes Go.ChangeAt Go.RowKit
open S0 S1 S9 Dm Fx M3 M8 C3 C6
set_option linter.unusedVariables false
def vst (x : Fx.KeyStore) : Bool := decide (1 ≤ x.Vendor ∧ x.Vendor ≤ 9) && decide (0 ≤ x.Serial ∧ x.Serial ≤ 1000000) && isKey x.Seed && decide (0 ≤ x.Counter ∧ x.Counter ≤ 1000000)
def siteH (s : ByteArray) : Int := derive 173 (C3b.sbytes s)
def prvS (x : Fx.KeyStore) (s : ByteArray) (h : Int) : Int := der x.Seed [179, siteH s, h]
def pubS (x : Fx.KeyStore) (s : ByteArray) (h : Int) : Int := pub (prvS x s h)
def signB (x : Fx.KeyStore) : Bool := vst x && !decide (x.Counter = 1000000)
def signX (x : Fx.KeyStore) : Fx.KeyStore := if signB x then ⟨x.Vendor, x.Serial, x.Seed, x.Counter + 1⟩ else x
def signV (x : Fx.KeyStore) (s : ByteArray) (h : Int) (m : List Int) : Int := if signB x then sgn (prvS x s h) (m ++ [x.Counter + 1]) else 0
set_option maxHeartbeats 1600000 in
set_option maxRecDepth 100000 in
theorem specVst (w : World) (x : Fx.KeyStore) (us : List Value) (h : RdsL w w.heap.size x.dcs us) : Calls Tryz.prog 42 #[.agg us.toArray] w (Gives (.bool (vst x)) w) := by
  obtain rfl := KeyStore.rds h
  clear h
  obtain ⟨r, hr⟩ : ∃ r, r = vst x := ⟨_, rfl⟩
  rw [← hr]
  have HR := Lib.hid hr
  clear hr
  have b0 : Below w.heap.size w (w.alloc (.cells #[.int .i64 x.Vendor, .int .i64 x.Serial, .int .i64 x.Seed, .int .i64 x.Counter] 61)) := (Below.refl _ _).alloc (Nat.le_refl _) _
  by_cases h1 : 1 ≤ x.Vendor ∧ x.Vendor ≤ 9
  · by_cases h2 : 0 ≤ x.Serial ∧ x.Serial ≤ 1000000
    · by_cases h3 : key x.Seed
      · have HK := Lib.hid (isKey_t h3)
        by_cases h4 : 0 ≤ x.Counter ∧ x.Counter ≤ 1000000
        · obtain rfl : r = true := by rw [HR.out]; unfold vst; rw [decide_eq_true h1, decide_eq_true h2, HK.out, decide_eq_true h4]; rfl
          clear h3
          clear HR
          go_enter Tryz.func42, Tryz.ntmps42
          go_wp2_with (first | (go_at_call 72; (with_reducible refine (C1.specIn_t _ _ _ _ (by omega) (by omega)).mono ?_); rintro e w' ⟨rfl, rfl⟩) | (go_at_call 72; (with_reducible refine (C1.specIn_f _ _ _ _ (by omega)).mono ?_); rintro e w' ⟨rfl, rfl⟩) | (go_at_call 85; (with_reducible refine (specValid _ x.Seed).mono ?_); rintro e w' ⟨rfl, rfl⟩; rw [HK.out]))
          go_ret
          exact ⟨rfl, b0⟩
        · obtain rfl : r = false := by rw [HR.out]; unfold vst; rw [decide_eq_false h4, Bool.and_false]
          clear h3
          clear HR
          go_enter Tryz.func42, Tryz.ntmps42
          go_wp2_with (first | (go_at_call 72; (with_reducible refine (C1.specIn_t _ _ _ _ (by omega) (by omega)).mono ?_); rintro e w' ⟨rfl, rfl⟩) | (go_at_call 72; (with_reducible refine (C1.specIn_f _ _ _ _ (by omega)).mono ?_); rintro e w' ⟨rfl, rfl⟩) | (go_at_call 85; (with_reducible refine (specValid _ x.Seed).mono ?_); rintro e w' ⟨rfl, rfl⟩; rw [HK.out]))
          go_ret
          exact ⟨rfl, b0⟩
      · have HK := Lib.hid (isKey_f h3)
        obtain rfl : r = false := by rw [HR.out]; unfold vst; rw [HK.out, Bool.and_false, Bool.false_and]
        clear h3
        clear HR
        go_enter Tryz.func42, Tryz.ntmps42
        go_wp2_with (first | (go_at_call 72; (with_reducible refine (C1.specIn_t _ _ _ _ (by omega) (by omega)).mono ?_); rintro e w' ⟨rfl, rfl⟩) | (go_at_call 72; (with_reducible refine (C1.specIn_f _ _ _ _ (by omega)).mono ?_); rintro e w' ⟨rfl, rfl⟩) | (go_at_call 85; (with_reducible refine (specValid _ x.Seed).mono ?_); rintro e w' ⟨rfl, rfl⟩; rw [HK.out]))
        go_ret
        exact ⟨rfl, b0⟩
    · obtain rfl : r = false := by rw [HR.out]; unfold vst; rw [decide_eq_false h2, Bool.and_false, Bool.false_and, Bool.false_and]
      have HK := Lib.hid (show isKey x.Seed = isKey x.Seed from rfl)
      clear HR
      go_enter Tryz.func42, Tryz.ntmps42
      go_wp2_with (first | (go_at_call 72; (with_reducible refine (C1.specIn_t _ _ _ _ (by omega) (by omega)).mono ?_); rintro e w' ⟨rfl, rfl⟩) | (go_at_call 72; (with_reducible refine (C1.specIn_f _ _ _ _ (by omega)).mono ?_); rintro e w' ⟨rfl, rfl⟩) | (go_at_call 85; (with_reducible refine (specValid _ x.Seed).mono ?_); rintro e w' ⟨rfl, rfl⟩; rw [HK.out]))
      go_ret
      exact ⟨rfl, b0⟩
  · obtain rfl : r = false := by rw [HR.out]; unfold vst; rw [decide_eq_false h1, Bool.false_and, Bool.false_and, Bool.false_and]
    have HK := Lib.hid (show isKey x.Seed = isKey x.Seed from rfl)
    clear HR
    go_enter Tryz.func42, Tryz.ntmps42
    go_wp2_with (first | (go_at_call 72; (with_reducible refine (C1.specIn_t _ _ _ _ (by omega) (by omega)).mono ?_); rintro e w' ⟨rfl, rfl⟩) | (go_at_call 72; (with_reducible refine (C1.specIn_f _ _ _ _ (by omega)).mono ?_); rintro e w' ⟨rfl, rfl⟩) | (go_at_call 85; (with_reducible refine (specValid _ x.Seed).mono ?_); rintro e w' ⟨rfl, rfl⟩; rw [HK.out]))
    go_ret
    exact ⟨rfl, b0⟩
set_option maxHeartbeats 1600000 in
set_option maxRecDepth 100000 in
theorem specSiteH (w : World) (s : ByteArray) (hs : s.size ≤ 16000000) : Calls Tryz.prog 34 #[.string s] w (Gives (.int .i64 (siteH s)) w) := by
  go_enter Tryz.func34, Tryz.ntmps34
  go_wp2_with fail
  (with_reducible refine (C3b.specDerive _ 173 s (by omega) (by omega) hs).mono ?_); rintro e w2 ⟨rfl, b2⟩
  go_wp2
  go_ret
  exact ⟨rfl, b2⟩
set_option maxHeartbeats 1600000 in
set_option maxRecDepth 100000 in
theorem specPrvS (w : World) (x : Fx.KeyStore) (s : ByteArray) (k : Int) (us : List Value) (h : RdsL w w.heap.size x.dcs us) (ho : x.ok) (hs : s.size ≤ 16000000) (k0 : -9223372036854775808 ≤ k) (k1 : k ≤ 9223372036854775807) :
    Calls Tryz.prog 83 #[.agg us.toArray, .string s, .int .i64 k] w (Gives (.int .i64 (prvS x s k)) w) := by
  obtain rfl := KeyStore.rds h
  clear h
  obtain ⟨s0, s1⟩ := ho.Seed
  obtain ⟨w1, hw1⟩ : ∃ z, z = w.alloc (.cells #[.int .i64 x.Vendor, .int .i64 x.Serial, .int .i64 x.Seed, .int .i64 x.Counter] 61) := ⟨_, rfl⟩
  have op := Fx.var_owns w 61 4 [.int .i64 x.Vendor, .int .i64 x.Serial, .int .i64 x.Seed, .int .i64 x.Counter] rfl
  have HB : Below w.heap.size w w1 := hw1 ▸ (Below.refl _ _).alloc (Nat.le_refl _) _
  rw [← hw1] at op
  have l1 : w.heap.size < w1.heap.size := Fx.var_lt op
  have HF := Lib.hid (show ∀ wx, Below w1.heap.size w1 wx → wx.cell? ⟨w.heap.size, 2, none⟩ = some (.int .i64 x.Seed) from fun wx hb => Fx.var_load (owns_below op hb) (by simp) 2 _ rfl)
  clear op
  have hsi : -9223372036854775808 ≤ siteH s ∧ siteH s ≤ 9223372036854775807 := by
    have := derive_valid 173 (C3b.sbytes s)
    unfold siteH
    omega
  have HO := Lib.hid (show okInts [179, siteH s, k] from ((okInts.one (x := 179) (by omega) (by omega)).app ((okInts.one hsi.1 hsi.2).app (okInts.one k0 k1)) : okInts ([179] ++ ([siteH s] ++ [k]))))
  have c2 := HF.out w1.drew (drewN_below w1 1 _)
  go_enter Tryz.func83, Tryz.ntmps83
  go_wp2_with fail
  rw [← hw1]
  clear hw1
  go_region_held3 (fun wx => wx.cell? ⟨w.heap.size, 2, none⟩ = some (.int .i64 x.Seed)) (first | exact c2 | exact c3 | exact HF.out _ ((b2.alloc b2.size _)) | exact HF.out _ b5) (first | (go_at_call 34; (with_reducible refine (specSiteH _ s hs).mono ?_); rintro e w2 ⟨rfl, b2⟩; replace b2 : Below w1.heap.size w1 w2 := (drewN_below w1 1 _).trans b2; have c3 := HF.out w2 b2) | (go_at_call 120; have ho3 : (w2.alloc (.cells #[.int .i64 179, .int .i64 (siteH s), .int .i64 k] 3)).ownsRow w2.heap.size 3 1 (.slice (some ⟨w2.heap.size, 0, none⟩) 3 3) 3 (ints .i64 [179, siteH s, k]) := own_ints w2 [179, siteH s, k] 3 rfl (by omega); (with_reducible refine (specDer _ _ 3 3 [179, siteH s, k] x.Seed s0 s1 (Rd.own ho3) HO.out (by omega)).mono ?_); rintro e w5 ⟨rfl, bq⟩; have b5 : Below w1.heap.size w1 w5 := (b2.alloc b2.size _).trans (bq.mono (b2.alloc b2.size _).size)))
  go_wp2
  go_ret
  exact ⟨rfl, HB.trans (b5.mono HB.size)⟩
/-- A key store's cells, whatever the world (it has no memory in it). -/
theorem st_rds (w : World) (hi : Nat) (x : Fx.KeyStore) : RdsL w hi x.dcs [.int .i64 x.Vendor, .int .i64 x.Serial, .int .i64 x.Seed, .int .i64 x.Counter] := KeyStore.mkR
set_option maxHeartbeats 1600000 in
set_option maxRecDepth 100000 in
theorem specPubS (w : World) (x : Fx.KeyStore) (s : ByteArray) (k : Int) (us : List Value) (h : RdsL w w.heap.size x.dcs us) (ho : x.ok) (hs : s.size ≤ 16000000) (k0 : -9223372036854775808 ≤ k) (k1 : k ≤ 9223372036854775807) :
    Calls Tryz.prog 37 #[.agg us.toArray, .string s, .int .i64 k] w (Gives (.int .i64 (pubS x s k)) w) := by
  obtain rfl := KeyStore.rds h
  clear h
  have b0 : Below w.heap.size w (w.alloc (.cells #[.int .i64 x.Vendor, .int .i64 x.Serial, .int .i64 x.Seed, .int .i64 x.Counter] 61)) := (Below.refl _ _).alloc (Nat.le_refl _) _
  have HP := Lib.hid (show pubS x s k = pub (prvS x s k) from rfl)
  have HO := Lib.hid ho
  clear ho
  go_enter Tryz.func37, Tryz.ntmps37
  go_wp2_with fail
  (with_reducible refine (specPrvS _ x s k _ (st_rds _ _ x) HO.out hs k0 k1).mono ?_); rintro e w2 ⟨rfl, b2⟩
  go_wp2_with fail
  (with_reducible refine (specPub (prvS x s k) _).mono ?_); rintro e w3 ⟨rfl, rfl⟩
  rw [← HP.out]
  go_wp2
  go_ret
  exact ⟨rfl, b0.trans (b2.mono b0.size)⟩
end Go.Proofs.YtialhhdhpjjkaaaGreatDoor.C10
