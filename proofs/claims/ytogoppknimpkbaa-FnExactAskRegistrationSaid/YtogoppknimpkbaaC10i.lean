/-
  Contracts of chapter 10's key stores, of the program: methods that are reached by a pointer.
-/
import Derived.Test.YtogoppknimpkbaaC10b
import Derived.Test.YtogoppknimpkbaaBa
import Derived.Test.YtogoppknimpkbaaCc
namespace Go.Proofs.Ytogoppknimpkbaa.C10i
open Go.ChangeShapes Go.WideShapes Go.ChangeAt Go.RowKit
open S0 S1 S9 Dm Fx M3 M8 C3 C6 C10
set_option linter.unusedVariables false
set_option linter.unusedSimpArgs false
set_option maxRecDepth 100000
def rngB (v s : Int) : Bool := decide (1 ≤ v ∧ v ≤ 9) && decide (0 ≤ s ∧ s ≤ 1000000)
theorem implRng (w : World) (v s : Int) : Calls Try.prog 65 #[.int .i64 v, .int .i64 s] w fun e w' => e = .returned (.bool (rngB v s)) ∧ w = w' := by
  obtain ⟨r, hr⟩ : ∃ r, r = rngB v s := ⟨_, rfl⟩
  rw [← hr]
  unfold rngB at hr
  by_cases h1 : 1 ≤ v ∧ v ≤ 9
  · rw [decide_eq_true h1, Bool.true_and] at hr
    by_cases h2 : 0 ≤ s ∧ s ≤ 1000000
    · obtain rfl : r = true := by rw [hr, decide_eq_true h2]
      clear hr
      go_enter Try.func65, Try.ntmps65
      go_wp2_with fail
      (with_reducible refine (C1.implIn_t _ _ _ _ (by omega) (by omega)).mono ?_); rintro e w' ⟨rfl, rfl⟩
      go_wp2_with fail
      (with_reducible refine (C1.implIn_t _ _ _ _ (by omega) (by omega)).mono ?_); rintro e w' ⟨rfl, rfl⟩
      go_wp2
      go_ret
      exact ⟨rfl, rfl⟩
    · obtain rfl : r = false := by rw [hr, decide_eq_false h2]
      clear hr
      go_enter Try.func65, Try.ntmps65
      go_wp2_with fail
      (with_reducible refine (C1.implIn_t _ _ _ _ (by omega) (by omega)).mono ?_); rintro e w' ⟨rfl, rfl⟩
      go_wp2_with fail
      (with_reducible refine (C1.implIn_f _ _ _ _ (by omega)).mono ?_); rintro e w' ⟨rfl, rfl⟩
      go_wp2
      go_ret
      exact ⟨rfl, rfl⟩
  · obtain rfl : r = false := by rw [hr, decide_eq_false h1]; rfl
    clear hr
    go_enter Try.func65, Try.ntmps65
    go_wp2_with fail
    (with_reducible refine (C1.implIn_f _ _ _ _ (by omega)).mono ?_); rintro e w' ⟨rfl, rfl⟩
    go_wp2
    go_ret
    exact ⟨rfl, rfl⟩
set_option maxHeartbeats 1600000 in
theorem implVst (w : World) (x : Fx.KeyStore) (us : List Value) (h : RdsL w w.heap.size x.dcs us) : Calls Try.prog 48 #[.agg us.toArray] w (Gives (.bool (vst x)) w) := by
  obtain rfl := KeyStore.rds h
  clear h
  obtain ⟨r, hr⟩ : ∃ r, r = vst x := ⟨_, rfl⟩
  rw [← hr]
  have b0 : Below w.heap.size w (w.alloc (.cells #[.int .i64 x.Vendor, .int .i64 x.Serial, .int .i64 x.Seed, .int .i64 x.Counter] 31)) := (Below.refl _ _).alloc (Nat.le_refl _) _
  have hr2 : r = (rngB x.Vendor x.Serial && isKey x.Seed && decide (0 ≤ x.Counter ∧ x.Counter ≤ 1000000)) := by rw [hr]; unfold vst rngB; rfl
  clear hr
  have HI0 := Lib.hid (fun wx : World => show Calls Try.prog 59 #[.int .i64 x.Counter, .int .i64 0, .int .i64 1000000] wx (fun e w' => e = .returned (.bool (decide (0 ≤ x.Counter ∧ x.Counter ≤ 1000000))) ∧ wx = w') from by
    by_cases h : 0 ≤ x.Counter ∧ x.Counter ≤ 1000000
    · rw [decide_eq_true h]; exact C1.implIn_t _ _ _ _ (by omega) (by omega)
    · rw [decide_eq_false h]; exact C1.implIn_f _ _ _ _ (by omega))
  have HK0 := Lib.hid (fun wx : World => implValid wx x.Seed)
  have HD0 := Lib.hid (fun wx : World => implRng wx x.Vendor x.Serial)
  obtain ⟨d, hd⟩ : ∃ d, d = rngB x.Vendor x.Serial := ⟨_, rfl⟩
  obtain ⟨k, hk⟩ : ∃ k, k = isKey x.Seed := ⟨_, rfl⟩
  obtain ⟨c, hc⟩ : ∃ c, c = decide (0 ≤ x.Counter ∧ x.Counter ≤ 1000000) := ⟨_, rfl⟩
  rw [← hd] at HD0 hr2
  rw [← hk] at HK0 hr2
  rw [← hc] at HI0 hr2
  clear hd hk hc
  cases d with
  | false =>
    have HD := HD0
    clear HD0
    obtain rfl : r = false := by rw [hr2]; simp
    clear hr2
    have HK := HK0
    have HI := HI0
    go_enter Try.func48, Try.ntmps48
    go_wp2_with (first | (go_at_call 65; (with_reducible refine (HD.out _).mono ?_); rintro e w' ⟨rfl, rfl⟩) | (go_at_call 66; (with_reducible refine (HK.out _).mono ?_); rintro e w' ⟨rfl, rfl⟩) | (go_at_call 59; (with_reducible refine (HI.out _).mono ?_); rintro e w' ⟨rfl, rfl⟩))
    go_ret
    exact ⟨rfl, b0⟩
  | true =>
    have HD := HD0
    clear HD0
    cases k with
    | false =>
      have HK := HK0
      clear HK0
      obtain rfl : r = false := by rw [hr2]; simp
      clear hr2
      have HI := HI0
      go_enter Try.func48, Try.ntmps48
      go_wp2_with (first | (go_at_call 65; (with_reducible refine (HD.out _).mono ?_); rintro e w' ⟨rfl, rfl⟩) | (go_at_call 66; (with_reducible refine (HK.out _).mono ?_); rintro e w' ⟨rfl, rfl⟩) | (go_at_call 59; (with_reducible refine (HI.out _).mono ?_); rintro e w' ⟨rfl, rfl⟩))
      go_ret
      exact ⟨rfl, b0⟩
    | true =>
      have HK := HK0
      clear HK0
      cases c with
      | false =>
        have HI := HI0
        clear HI0
        obtain rfl : r = false := by rw [hr2]; simp
        clear hr2
        go_enter Try.func48, Try.ntmps48
        go_wp2_with (first | (go_at_call 65; (with_reducible refine (HD.out _).mono ?_); rintro e w' ⟨rfl, rfl⟩) | (go_at_call 66; (with_reducible refine (HK.out _).mono ?_); rintro e w' ⟨rfl, rfl⟩) | (go_at_call 59; (with_reducible refine (HI.out _).mono ?_); rintro e w' ⟨rfl, rfl⟩))
        go_ret
        exact ⟨rfl, b0⟩
      | true =>
        have HI := HI0
        clear HI0
        obtain rfl : r = true := by rw [hr2]; simp
        clear hr2
        go_enter Try.func48, Try.ntmps48
        go_wp2_with (first | (go_at_call 65; (with_reducible refine (HD.out _).mono ?_); rintro e w' ⟨rfl, rfl⟩) | (go_at_call 66; (with_reducible refine (HK.out _).mono ?_); rintro e w' ⟨rfl, rfl⟩) | (go_at_call 59; (with_reducible refine (HI.out _).mono ?_); rintro e w' ⟨rfl, rfl⟩))
        go_ret
        exact ⟨rfl, b0⟩
set_option maxHeartbeats 1600000 in
theorem implSiteH (w : World) (s : ByteArray) (hs : s.size ≤ 16000000) : Calls Try.prog 78 #[.string s] w (Gives (.int .i64 (siteH s)) w) := by
  go_enter Try.func78, Try.ntmps78
  go_wp2_with fail
  (with_reducible refine (C3b.implDerive _ 173 s (by omega) (by omega) (by omega)).mono ?_); rintro e w2 ⟨rfl, b2⟩
  go_wp2
  go_ret
  exact ⟨rfl, b2⟩
set_option maxHeartbeats 1600000 in
theorem siteKey (w1 : World) (b : Nat) (x : Fx.KeyStore) (s : ByteArray) (k : Int) (hc : w1.cell? ⟨b, 2, none⟩ = some (.int .i64 x.Seed)) (hb : b < w1.heap.size) (ho : x.ok) (hs : s.size ≤ 16000000) (k0 : -9223372036854775808 ≤ k) (k1 : k ≤ 9223372036854775807) :
    Calls Try.prog 68 #[.pointer (some ⟨b, 0, none⟩), .string s, .int .i64 k] w1 (Gives (.int .i64 (prvS x s k)) w1) := by
  obtain ⟨s0, s1⟩ := ho.Seed
  have HF := Lib.hid (show ∀ wx, Below w1.heap.size w1 wx → wx.cell? ⟨b, 2, none⟩ = some (.int .i64 x.Seed) from fun wx hbx => by rw [World.cell?_of_block (hbx.block b hb)]; exact hc)
  clear hc
  have hsi : -9223372036854775808 ≤ siteH s ∧ siteH s ≤ 9223372036854775807 := by
    have := derive_valid 173 (C3b.sbytes s)
    unfold siteH
    omega
  have HO := Lib.hid (show okInts [179, siteH s, k] from ((okInts.one (x := 179) (by omega) (by omega)).app ((okInts.one hsi.1 hsi.2).app (okInts.one k0 k1)) : okInts ([179] ++ ([siteH s] ++ [k]))))
  have c2 := HF.out w1.drew (drewN_below w1 1 _)
  go_enter Try.func68, Try.ntmps68
  go_wp2_with fail
  go_region_held3 (fun wx => wx.cell? ⟨b, 2, none⟩ = some (.int .i64 x.Seed)) (first | exact c2 | exact c3 | exact HF.out _ ((b2.alloc b2.size _)) | exact HF.out _ b5) (first | (go_at_call 78; (with_reducible refine (implSiteH _ s hs).mono ?_); rintro e w2 ⟨rfl, b2⟩; replace b2 : Below w1.heap.size w1 w2 := (drewN_below w1 1 _).trans b2; have c3 := HF.out w2 b2) | (go_at_call 77; have ho3 : (w2.alloc (.cells #[.int .i64 179, .int .i64 (siteH s), .int .i64 k] 3)).ownsRow w2.heap.size 3 1 (.slice (some ⟨w2.heap.size, 0, none⟩) 3 3) 3 (ints .i64 [179, siteH s, k]) := own_ints w2 [179, siteH s, k] 3 rfl (by omega); (with_reducible refine (C6i.implDer _ _ 3 3 [179, siteH s, k] x.Seed s0 s1 (Rd.own ho3) HO.out (by omega)).mono ?_); rintro e w5 ⟨rfl, bq⟩; have b5 : Below w1.heap.size w1 w5 := (b2.alloc b2.size _).trans (bq.mono (b2.alloc b2.size _).size)))
  go_wp2
  go_ret
  exact ⟨rfl, b5⟩
set_option maxHeartbeats 1600000 in
theorem implPubS (w : World) (x : Fx.KeyStore) (s : ByteArray) (k : Int) (us : List Value) (h : RdsL w w.heap.size x.dcs us) (ho : x.ok) (hs : s.size ≤ 16000000) (k0 : -9223372036854775808 ≤ k) (k1 : k ≤ 9223372036854775807) :
    Calls Try.prog 49 #[.agg us.toArray, .string s, .int .i64 k] w (Gives (.int .i64 (pubS x s k)) w) := by
  obtain rfl := KeyStore.rds h
  clear h
  have b0 : Below w.heap.size w (w.alloc (.cells #[.int .i64 x.Vendor, .int .i64 x.Serial, .int .i64 x.Seed, .int .i64 x.Counter] 31)) := (Below.refl _ _).alloc (Nat.le_refl _) _
  have o_p := var_owns w 31 4 [.int .i64 x.Vendor, .int .i64 x.Serial, .int .i64 x.Seed, .int .i64 x.Counter] rfl
  have HC := Lib.hid (show (w.alloc (.cells #[.int .i64 x.Vendor, .int .i64 x.Serial, .int .i64 x.Seed, .int .i64 x.Counter] 31)).cell? ⟨w.heap.size, 2, none⟩ = some (.int .i64 x.Seed) from var_load o_p (by simp) 2 _ rfl)
  have hl := var_lt o_p
  have HO := Lib.hid ho
  clear o_p ho
  have HP := Lib.hid (show pubS x s k = pub (prvS x s k) from rfl)
  go_enter Try.func49, Try.ntmps49
  go_wp2_with fail
  (with_reducible refine (siteKey _ _ x s k HC.out hl HO.out hs k0 k1).mono ?_); rintro e w2 ⟨rfl, b2⟩
  go_wp2_with fail
  (with_reducible refine (C6i.implPub (prvS x s k) _).mono ?_); rintro e w3 ⟨rfl, b3⟩
  rw [← HP.out]
  go_wp2
  go_ret
  have b4 := b0.trans (b2.mono b0.size)
  exact ⟨rfl, b4.trans (b3.mono b4.size)⟩
end Go.Proofs.Ytogoppknimpkbaa.C10i
