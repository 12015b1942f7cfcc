import Derived.Test.YtialhhdhpjjkaaaGreatDoorBa
import Derived.Test.YtialhhdhpjjkaaaGreatDoorCards
import Derived.Test.YtialhhdhpjjkaaaGreatDoorTie
import Derived.Lay
import Derived.LaidHandle
import Derived.MakeChecks
import Derived.Test.YtialhhdhpjjkaaaGreatDoorLa
import Derived.Test.YtialhhdhpjjkaaaGreatDoorBb
import Derived.Test.YtialhhdhpjjkaaaGreatDoorD13
import Derived.Test.YtialhhdhpjjkaaaGreatDoorM17
import Derived.Test.YtialhhdhpjjkaaaGreatDoorC13i
import Derived.Deep.RegionHeld3
import Derived.IntWalk
import Derived.Deep.DeepCutAuto
/-
  laws.FnPhishing returns true at every code, and leaves it as it was: an assertion that a phisher relays is never accepted by the site. Conditions: the library's package-level variables math/bits.deBruijn32tab, math/bits.deBruijn64tab, internal/strconv.uint64pow10, errors.errorType, strconv.ErrRange, strconv.ErrSyntax hold when the call begins what the program's text lays there (the card ties them to that text).
-/
namespace Go.Proofs.YtialhhdhpjjkaaaGreatDoor.fnPhishing
open Go.ChangeShapes Go.WideShapes Go.ChangeAt Go.RowKit
set_option linter.unusedVariables false

open S0 S1 S9 Dm Fx M3 M8 M12 M13 C3 C6 C9 C10 C13m C13 C13b D10 D13 M17
set_option linter.unusedSimpArgs false
theorem sg_in (x : Fx.KeyStore) (z : ByteArray) (h : Int) (m : List Int) : 0 ≤ signV x z h m ∧ signV x z h m ≤ 2147483646 := by
  unfold signV
  split
  · exact sgn_in _ _
  · omega
set_option maxHeartbeats 16000000 in
set_option maxRecDepth 100000 in
theorem walkSmall (A0 : Option Addr) (n0 c0 : Nat) (hl : ¬ 1048576 < n0) (W : World) (hc : C0.Code W W.heap.size (.slice A0 n0 c0)) (ht : La.Pow W) (he : As.Er W) :
    Calls Tryz.prog 7 #[.slice A0 n0 c0] W fun e w' => e = .returned (.bool true) ∧ Below W.heap.size W w' := by
  go_enter Tryz.func7, Tryz.ntmps7
  go_wp2_with fail
  (with_reducible refine (Cd.big_no A0 n0 c0 _ hl).mono ?_); rintro e wz ⟨rfl, rfl⟩
  go_wp2_with fail
  (with_reducible refine (relayD _ _ _ hc (Nat.le_refl _)).mono ?_); rintro e w1 ⟨x, o, z, h, n, rfl, hk, ho, hz, ⟨hh0, hh1⟩, ⟨hn0, hn1⟩, bw1⟩
  have HB := bw1
  have zw1 := bw1.size
  have HK := Lib.hid hk
  have HO := Lib.hid ho
  have hzs : z.size ≤ 100 := (show ∀ s ∈ sites, s.size ≤ 100 by decide) z hz
  have hos : o.Host.size ≤ 100 := ho.1.elim hosts_short odd_short
  clear hk ho hc
  cases hm : mayO o (bts z) with
  | false =>
    have hb : mkB x o z = false := by unfold mkB signB; rw [hm]; rfl
    have KR := Lib.hid (fun (wx : World) (hp : La.Pow wx) => show Calls Tryz.prog 41 #[.agg #[.int .i64 x.Vendor, .int .i64 x.Serial, .int .i64 x.Seed, .int .i64 x.Counter], .agg #[.bool o.Secure, .string o.Host, .int .i64 o.Port], .string z, .int .i64 h, .int .i64 n] wx (Gives (.tuple #[.agg #[.int .i64 x.Vendor, .int .i64 x.Serial, .int .i64 x.Seed, .int .i64 x.Counter], .agg #[.string ⟨#[]⟩, .string ⟨#[]⟩, .int .i64 0, .int .i64 0, .bool false, .int .i64 0, .int .i64 0], .bool false]) wx) from by have h9 := C13i.implRelay wx x o z h n _ _ (KeyStore.mkR (w := wx) (hi := wx.heap.size)) (Origin.mkR (w := wx) (hi := wx.heap.size)) HK.out.ok (by omega) (by omega) (by omega) (by omega) (by omega) (by omega) hp; unfold C13b.mkV mkS mkA at h9; rw [hb] at h9; exact h9)
    clear hb
    go_upto_region 4 with fail
    obtain ⟨w2, hw2⟩ : ∃ ww, ww = w1.alloc (.cells #[.int .i64 x.Vendor, .int .i64 x.Serial, .int .i64 x.Seed, .int .i64 x.Counter] 61) := ⟨_, rfl⟩
    have o_v3 := var_owns w1 61 4 [.int .i64 x.Vendor, .int .i64 x.Serial, .int .i64 x.Seed, .int .i64 x.Counter] rfl
    have bw2 : Below w1.heap.size w1 w2 := hw2 ▸ (Below.refl _ _).alloc (Nat.le_refl _) _
    have sw2 : w2.heap.size = w1.heap.size + 1 := by rw [hw2]; simp
    rw [← hw2] at o_v3 ⊢
    have zw2 : w1.heap.size < w2.heap.size := by omega
    replace HB := HB.trans (bw2.mono HB.size)
    clear hw2
    obtain ⟨w3, hw3⟩ : ∃ ww, ww = w2.alloc (.cells #[.bool o.Secure, .string o.Host, .int .i64 o.Port] 45) := ⟨_, rfl⟩
    have o_v4 := var_owns w2 45 3 [.bool o.Secure, .string o.Host, .int .i64 o.Port] rfl
    have bw3 : Below w2.heap.size w2 w3 := hw3 ▸ (Below.refl _ _).alloc (Nat.le_refl _) _
    have sw3 : w3.heap.size = w2.heap.size + 1 := by rw [hw3]; simp
    rw [← hw3] at o_v4 ⊢
    have qw3 : w2.heap.size = w1.heap.size + 1 := by omega
    rw [qw3] at o_v4
    clear qw3
    have zw3 : w2.heap.size < w3.heap.size := by omega
    replace o_v3 := owns_below o_v3 bw3
    replace HB := HB.trans (bw3.mono HB.size)
    clear hw3
    clear sw2 sw3
    obtain ⟨c_v30, f_v30, c_v31, f_v31, c_v32, f_v32, c_v33, f_v33, l_v3⟩ := Vn.v4 o_v3
    obtain ⟨c_v40, f_v40, c_v41, f_v41, c_v42, f_v42, l_v4⟩ := Vn.v3 o_v4
    go_wp2_with fail
    clear c_v30 f_v30 c_v31 f_v31 c_v32 f_v32 c_v33 f_v33 l_v3 c_v40 f_v40 c_v41 f_v41 c_v42 f_v42 l_v4
    (with_reducible refine (KR.out _ (ht.stays HB)).mono ?_); rintro e w4 ⟨rfl, bw4⟩
    replace o_v3 := owns_below o_v3 bw4
    replace o_v4 := owns_below o_v4 bw4
    replace HB := HB.trans (bw4.mono HB.size)
    have zw4 := bw4.size
    go_upto_region 5 with fail
    obtain ⟨w5, hw5⟩ : ∃ ww, ww = w4.alloc (.cells #[.int .i64 x.Vendor, .int .i64 x.Serial, .int .i64 x.Seed, .int .i64 x.Counter] 61) := ⟨_, rfl⟩
    have o_v8 := var_owns w4 61 4 [.int .i64 x.Vendor, .int .i64 x.Serial, .int .i64 x.Seed, .int .i64 x.Counter] rfl
    have bw5 : Below w4.heap.size w4 w5 := hw5 ▸ (Below.refl _ _).alloc (Nat.le_refl _) _
    have sw5 : w5.heap.size = w4.heap.size + 1 := by rw [hw5]; simp
    rw [← hw5] at o_v8 ⊢
    have zw5 : w4.heap.size < w5.heap.size := by omega
    replace o_v3 := owns_below o_v3 bw5
    replace o_v4 := owns_below o_v4 bw5
    replace HB := HB.trans (bw5.mono HB.size)
    clear hw5
    obtain ⟨w6, hw6⟩ : ∃ ww, ww = w5.alloc (.cells #[.string ⟨#[]⟩, .string ⟨#[]⟩, .int .i64 0, .int .i64 0, .bool false, .int .i64 0, .int .i64 0] 26) := ⟨_, rfl⟩
    have o_v9 := var_owns w5 26 7 [.string ⟨#[]⟩, .string ⟨#[]⟩, .int .i64 0, .int .i64 0, .bool false, .int .i64 0, .int .i64 0] rfl
    have bw6 : Below w5.heap.size w5 w6 := hw6 ▸ (Below.refl _ _).alloc (Nat.le_refl _) _
    have sw6 : w6.heap.size = w5.heap.size + 1 := by rw [hw6]; simp
    rw [← hw6] at o_v9 ⊢
    have qw6 : w5.heap.size = w4.heap.size + 1 := by omega
    rw [qw6] at o_v9
    clear qw6
    have zw6 : w5.heap.size < w6.heap.size := by omega
    replace o_v3 := owns_below o_v3 bw6
    replace o_v4 := owns_below o_v4 bw6
    replace o_v8 := owns_below o_v8 bw6
    replace HB := HB.trans (bw6.mono HB.size)
    clear hw6
    clear sw5 sw6
    obtain ⟨c_v40, f_v40, c_v41, f_v41, c_v42, f_v42, l_v4⟩ := Vn.v3 o_v4
    go_wp2_with fail
    clear c_v40 f_v40 c_v41 f_v41 c_v42 f_v42 l_v4
    (with_reducible refine (C9b.specMay w6 o z _ (org_rds _ _ o) (by omega) (by omega)).mono ?_); rintro e w7 ⟨rfl, bw7⟩
    replace o_v3 := owns_below o_v3 bw7
    replace o_v4 := owns_below o_v4 bw7
    replace o_v8 := owns_below o_v8 bw7
    replace o_v9 := owns_below o_v9 bw7
    replace HB := HB.trans (bw7.mono HB.size)
    have zw7 := bw7.size
    rw [hm]
    obtain ⟨c_v30, f_v30, c_v31, f_v31, c_v32, f_v32, c_v33, f_v33, l_v3⟩ := Vn.v4 o_v3
    obtain ⟨c_v80, f_v80, c_v81, f_v81, c_v82, f_v82, c_v83, f_v83, l_v8⟩ := Vn.v4 o_v8
    obtain ⟨c_v90, f_v90, c_v91, f_v91, c_v92, f_v92, c_v93, f_v93, c_v94, f_v94, c_v95, f_v95, c_v96, f_v96, l_v9⟩ := Vn.v7 o_v9
    go_wp2
    clear c_v30 f_v30 c_v31 f_v31 c_v32 f_v32 c_v33 f_v33 l_v3 c_v80 f_v80 c_v81 f_v81 c_v82 f_v82 c_v83 f_v83 l_v8 c_v90 f_v90 c_v91 f_v91 c_v92 f_v92 c_v93 f_v93 c_v94 f_v94 c_v95 f_v95 c_v96 f_v96 l_v9
    refine bodyPost_ret (v := .bool true) (by simp [results, Tryz.results7, go_sem]) rfl ?_
    exact ⟨rfl, HB⟩
  | true =>
    cases hv : vst x with
    | false =>
      have hb : mkB x o z = false := by unfold mkB signB; rw [hm, hv]; rfl
      have KR := Lib.hid (fun (wx : World) (hp : La.Pow wx) => show Calls Tryz.prog 41 #[.agg #[.int .i64 x.Vendor, .int .i64 x.Serial, .int .i64 x.Seed, .int .i64 x.Counter], .agg #[.bool o.Secure, .string o.Host, .int .i64 o.Port], .string z, .int .i64 h, .int .i64 n] wx (Gives (.tuple #[.agg #[.int .i64 x.Vendor, .int .i64 x.Serial, .int .i64 x.Seed, .int .i64 x.Counter], .agg #[.string ⟨#[]⟩, .string ⟨#[]⟩, .int .i64 0, .int .i64 0, .bool false, .int .i64 0, .int .i64 0], .bool false]) wx) from by have h9 := C13i.implRelay wx x o z h n _ _ (KeyStore.mkR (w := wx) (hi := wx.heap.size)) (Origin.mkR (w := wx) (hi := wx.heap.size)) HK.out.ok (by omega) (by omega) (by omega) (by omega) (by omega) (by omega) hp; unfold C13b.mkV mkS mkA at h9; rw [hb] at h9; exact h9)
      clear hb
      go_upto_region 4 with fail
      obtain ⟨w2, hw2⟩ : ∃ ww, ww = w1.alloc (.cells #[.int .i64 x.Vendor, .int .i64 x.Serial, .int .i64 x.Seed, .int .i64 x.Counter] 61) := ⟨_, rfl⟩
      have o_v3 := var_owns w1 61 4 [.int .i64 x.Vendor, .int .i64 x.Serial, .int .i64 x.Seed, .int .i64 x.Counter] rfl
      have bw2 : Below w1.heap.size w1 w2 := hw2 ▸ (Below.refl _ _).alloc (Nat.le_refl _) _
      have sw2 : w2.heap.size = w1.heap.size + 1 := by rw [hw2]; simp
      rw [← hw2] at o_v3 ⊢
      have zw2 : w1.heap.size < w2.heap.size := by omega
      replace HB := HB.trans (bw2.mono HB.size)
      clear hw2
      obtain ⟨w3, hw3⟩ : ∃ ww, ww = w2.alloc (.cells #[.bool o.Secure, .string o.Host, .int .i64 o.Port] 45) := ⟨_, rfl⟩
      have o_v4 := var_owns w2 45 3 [.bool o.Secure, .string o.Host, .int .i64 o.Port] rfl
      have bw3 : Below w2.heap.size w2 w3 := hw3 ▸ (Below.refl _ _).alloc (Nat.le_refl _) _
      have sw3 : w3.heap.size = w2.heap.size + 1 := by rw [hw3]; simp
      rw [← hw3] at o_v4 ⊢
      have qw3 : w2.heap.size = w1.heap.size + 1 := by omega
      rw [qw3] at o_v4
      clear qw3
      have zw3 : w2.heap.size < w3.heap.size := by omega
      replace o_v3 := owns_below o_v3 bw3
      replace HB := HB.trans (bw3.mono HB.size)
      clear hw3
      clear sw2 sw3
      obtain ⟨c_v30, f_v30, c_v31, f_v31, c_v32, f_v32, c_v33, f_v33, l_v3⟩ := Vn.v4 o_v3
      obtain ⟨c_v40, f_v40, c_v41, f_v41, c_v42, f_v42, l_v4⟩ := Vn.v3 o_v4
      go_wp2_with fail
      clear c_v30 f_v30 c_v31 f_v31 c_v32 f_v32 c_v33 f_v33 l_v3 c_v40 f_v40 c_v41 f_v41 c_v42 f_v42 l_v4
      (with_reducible refine (KR.out _ (ht.stays HB)).mono ?_); rintro e w4 ⟨rfl, bw4⟩
      replace o_v3 := owns_below o_v3 bw4
      replace o_v4 := owns_below o_v4 bw4
      replace HB := HB.trans (bw4.mono HB.size)
      have zw4 := bw4.size
      go_upto_region 5 with fail
      obtain ⟨w5, hw5⟩ : ∃ ww, ww = w4.alloc (.cells #[.int .i64 x.Vendor, .int .i64 x.Serial, .int .i64 x.Seed, .int .i64 x.Counter] 61) := ⟨_, rfl⟩
      have o_v8 := var_owns w4 61 4 [.int .i64 x.Vendor, .int .i64 x.Serial, .int .i64 x.Seed, .int .i64 x.Counter] rfl
      have bw5 : Below w4.heap.size w4 w5 := hw5 ▸ (Below.refl _ _).alloc (Nat.le_refl _) _
      have sw5 : w5.heap.size = w4.heap.size + 1 := by rw [hw5]; simp
      rw [← hw5] at o_v8 ⊢
      have zw5 : w4.heap.size < w5.heap.size := by omega
      replace o_v3 := owns_below o_v3 bw5
      replace o_v4 := owns_below o_v4 bw5
      replace HB := HB.trans (bw5.mono HB.size)
      clear hw5
      obtain ⟨w6, hw6⟩ : ∃ ww, ww = w5.alloc (.cells #[.string ⟨#[]⟩, .string ⟨#[]⟩, .int .i64 0, .int .i64 0, .bool false, .int .i64 0, .int .i64 0] 26) := ⟨_, rfl⟩
      have o_v9 := var_owns w5 26 7 [.string ⟨#[]⟩, .string ⟨#[]⟩, .int .i64 0, .int .i64 0, .bool false, .int .i64 0, .int .i64 0] rfl
      have bw6 : Below w5.heap.size w5 w6 := hw6 ▸ (Below.refl _ _).alloc (Nat.le_refl _) _
      have sw6 : w6.heap.size = w5.heap.size + 1 := by rw [hw6]; simp
      rw [← hw6] at o_v9 ⊢
      have qw6 : w5.heap.size = w4.heap.size + 1 := by omega
      rw [qw6] at o_v9
      clear qw6
      have zw6 : w5.heap.size < w6.heap.size := by omega
      replace o_v3 := owns_below o_v3 bw6
      replace o_v4 := owns_below o_v4 bw6
      replace o_v8 := owns_below o_v8 bw6
      replace HB := HB.trans (bw6.mono HB.size)
      clear hw6
      clear sw5 sw6
      obtain ⟨c_v40, f_v40, c_v41, f_v41, c_v42, f_v42, l_v4⟩ := Vn.v3 o_v4
      go_wp2_with fail
      clear c_v40 f_v40 c_v41 f_v41 c_v42 f_v42 l_v4
      (with_reducible refine (C9b.specMay w6 o z _ (org_rds _ _ o) (by omega) (by omega)).mono ?_); rintro e w7 ⟨rfl, bw7⟩
      replace o_v3 := owns_below o_v3 bw7
      replace o_v4 := owns_below o_v4 bw7
      replace o_v8 := owns_below o_v8 bw7
      replace o_v9 := owns_below o_v9 bw7
      replace HB := HB.trans (bw7.mono HB.size)
      have zw7 := bw7.size
      rw [hm]
      obtain ⟨c_v30, f_v30, c_v31, f_v31, c_v32, f_v32, c_v33, f_v33, l_v3⟩ := Vn.v4 o_v3
      go_wp2_with fail
      clear c_v30 f_v30 c_v31 f_v31 c_v32 f_v32 c_v33 f_v33 l_v3
      (with_reducible refine (specVst w7 x _ (st_rds _ _ x)).mono ?_); rintro e w8 ⟨rfl, bw8⟩
      replace o_v3 := owns_below o_v3 bw8
      replace o_v4 := owns_below o_v4 bw8
      replace o_v8 := owns_below o_v8 bw8
      replace o_v9 := owns_below o_v9 bw8
      replace HB := HB.trans (bw8.mono HB.size)
      have zw8 := bw8.size
      rw [hv]
      obtain ⟨c_v30, f_v30, c_v31, f_v31, c_v32, f_v32, c_v33, f_v33, l_v3⟩ := Vn.v4 o_v3
      obtain ⟨c_v80, f_v80, c_v81, f_v81, c_v82, f_v82, c_v83, f_v83, l_v8⟩ := Vn.v4 o_v8
      obtain ⟨c_v90, f_v90, c_v91, f_v91, c_v92, f_v92, c_v93, f_v93, c_v94, f_v94, c_v95, f_v95, c_v96, f_v96, l_v9⟩ := Vn.v7 o_v9
      go_wp2
      clear c_v30 f_v30 c_v31 f_v31 c_v32 f_v32 c_v33 f_v33 l_v3 c_v80 f_v80 c_v81 f_v81 c_v82 f_v82 c_v83 f_v83 l_v8 c_v90 f_v90 c_v91 f_v91 c_v92 f_v92 c_v93 f_v93 c_v94 f_v94 c_v95 f_v95 c_v96 f_v96 l_v9
      refine bodyPost_ret (v := .bool true) (by simp [results, Tryz.results7, go_sem]) rfl ?_
      exact ⟨rfl, HB⟩
    | true =>
      have hcr : 0 ≤ x.Counter ∧ x.Counter ≤ 1000000 := by have h9 := hv; unfold vst at h9; simp only [Bool.and_eq_true, decide_eq_true_eq] at h9; exact h9.2
      by_cases h3 : x.Counter < 1000000
      ·
        have hb : mkB x o z = true := by unfold mkB signB; rw [hm, hv]; simp; omega
        obtain ⟨r, hr⟩ : ∃ r, r = (⟨z, str (fmtO o), n, h, true, x.Counter + 1, signV x z h (msg (a0 o z h n true))⟩ : Fx.Assertion) := ⟨_, rfl⟩
        have M := made h n hb
        rw [← hr] at M
        have hro : r.ok := by rw [hr]; have := fmt_size o; have := sgn_in (prvS x z h) (msg (a0 o z h n true) ++ [x.Counter + 1]); exact ⟨by dsimp only; unfold maxLen; omega, by dsimp only; unfold maxLen; omega, by dsimp only; omega, by dsimp only; omega, trivial, by dsimp only; omega, by have h9 := sg_in x z h (msg (a0 o z h n true)); dsimp only; omega⟩
        clear hr
        obtain ⟨y, hy⟩ : ∃ y, y = (⟨x.Vendor, x.Serial, x.Seed, x.Counter + 1⟩ : Fx.KeyStore) := ⟨_, rfl⟩
        have KR := Lib.hid (fun (wx : World) (hp : La.Pow wx) => show Calls Tryz.prog 41 #[.agg #[.int .i64 x.Vendor, .int .i64 x.Serial, .int .i64 x.Seed, .int .i64 x.Counter], .agg #[.bool o.Secure, .string o.Host, .int .i64 o.Port], .string z, .int .i64 h, .int .i64 n] wx (Gives (.tuple #[.agg #[.int .i64 y.Vendor, .int .i64 y.Serial, .int .i64 y.Seed, .int .i64 y.Counter], .agg #[.string r.Site, .string r.Origin, .int .i64 r.Challenge, .int .i64 r.Handle, .bool r.Present, .int .i64 r.Counter, .int .i64 r.Signature], .bool true]) wx) from by have h9 := C13i.implRelay wx x o z h n _ _ (KeyStore.mkR (w := wx) (hi := wx.heap.size)) (Origin.mkR (w := wx) (hi := wx.heap.size)) HK.out.ok (by omega) (by omega) (by omega) (by omega) (by omega) (by omega) hp; unfold C13b.mkV at h9; rw [M.s, M.a, hb, ← hy] at h9; exact h9)
        obtain ⟨p, hp⟩ : ∃ p, p = pubS x z h := ⟨_, rfl⟩
        have hpi : -9223372036854775808 ≤ p ∧ p ≤ 9223372036854775807 := by rw [hp]; have := pub_in (prvS x z h); unfold pubS; omega
        have hsr : r.Site = z := M.good.site
        have hso : r.Origin.size ≤ 100 := by rw [M.org]; exact fmt_size o
        have hct : r.Counter = x.Counter + 1 := M.ctr
        have K1 := Lib.hid (fun (wx : World) (hw : La.Pow wx) (hq : As.Er wx) => show Calls Tryz.prog 11 #[.int .i64 p, .agg #[.string r.Site, .string r.Origin, .int .i64 r.Challenge, .int .i64 r.Handle, .bool r.Present, .int .i64 r.Counter, .int .i64 r.Signature], .string z, .int .i64 n, .int .i64 x.Counter] wx (Gives (.int .i64 0) wx) from by have h9 := C13i.implChk wx p r z n x.Counter _ (as_rds wx _ r) hro (by rw [hsr]; omega) (by omega) (by omega) (by omega) (by omega) hw hq; rw [hp, M.yes, if_pos (by omega)] at h9; rw [hp]; exact h9)
        have hd := apart HO.out hz hm
        rw [← M.org] at hd
        have hno : vsg p (msg (⟨r.Site, ⟨#[104, 116, 116, 112, 115, 58, 47, 47, 97, 46]⟩ ++ z, r.Challenge, r.Handle, r.Present, r.Counter, r.Signature⟩ : Fx.Assertion) ++ [r.Counter]) r.Signature = false := by rw [hp]; have h9 := M.org_no (f := (⟨r.Site, ⟨#[104, 116, 116, 112, 115, 58, 47, 47, 97, 46]⟩ ++ z, r.Challenge, r.Handle, r.Present, r.Counter, r.Signature⟩ : Fx.Assertion)) rfl rfl rfl rfl rfl rfl (by dsimp only; exact hd); dsimp only at h9; exact h9
        obtain ⟨q, hq⟩ : ∃ q, q = chkA p (⟨r.Site, ⟨#[104, 116, 116, 112, 115, 58, 47, 47, 97, 46]⟩ ++ z, r.Challenge, r.Handle, r.Present, r.Counter, r.Signature⟩ : Fx.Assertion) z n x.Counter := ⟨_, rfl⟩
        have hq0 : q ≠ 0 := by rw [hq]; exact chk_ne hno
        have hfo : ((⟨r.Site, ⟨#[104, 116, 116, 112, 115, 58, 47, 47, 97, 46]⟩ ++ z, r.Challenge, r.Handle, r.Present, r.Counter, r.Signature⟩ : Fx.Assertion) : Fx.Assertion).ok := ⟨hro.Site, by dsimp only; rw [ByteArray.size_append]; unfold maxLen; have : (⟨#[104, 116, 116, 112, 115, 58, 47, 47, 97, 46]⟩ : ByteArray).size = 10 := rfl; omega, hro.Challenge, hro.Handle, trivial, hro.Counter, hro.Signature⟩
        have hls : (⟨#[104, 116, 116, 112, 115, 58, 47, 47, 97, 46]⟩ ++ z).size = 10 + z.size := by rw [ByteArray.size_append]; rfl
        have K2 := Lib.hid (fun (wx : World) (hw : La.Pow wx) (he2 : As.Er wx) => show Calls Tryz.prog 11 #[.int .i64 p, .agg #[.string r.Site, .string (⟨#[104, 116, 116, 112, 115, 58, 47, 47, 97, 46]⟩ ++ z), .int .i64 r.Challenge, .int .i64 r.Handle, .bool r.Present, .int .i64 r.Counter, .int .i64 r.Signature], .string z, .int .i64 n, .int .i64 x.Counter] wx (Gives (.int .i64 q) wx) from by rw [hq]; exact C13i.implChk wx p (⟨r.Site, ⟨#[104, 116, 116, 112, 115, 58, 47, 47, 97, 46]⟩ ++ z, r.Challenge, r.Handle, r.Present, r.Counter, r.Signature⟩ : Fx.Assertion) z n x.Counter _ (as_rds wx _ (⟨r.Site, ⟨#[104, 116, 116, 112, 115, 58, 47, 47, 97, 46]⟩ ++ z, r.Challenge, r.Handle, r.Present, r.Counter, r.Signature⟩ : Fx.Assertion)) hfo (by dsimp only; rw [hsr]; omega) (by dsimp only; omega) (by omega) (by omega) (by omega) hw he2)
        have hqa : (q == 0) = false := by simpa using hq0
        have hqb : (q != 0) = true := by simpa using hq0
        have hoa : ((⟨#[104, 116, 116, 112, 115, 58, 47, 47, 97, 46]⟩ ++ z).toList == r.Origin.toList) = false := by simp only [beq_eq_false_iff_ne, ne_eq]; intro e; exact hd (by rw [str_ext e])
        have KP := Lib.hid (fun wx : World => show Calls Tryz.prog 37 #[.agg #[.int .i64 x.Vendor, .int .i64 x.Serial, .int .i64 x.Seed, .int .i64 x.Counter], .string z, .int .i64 h] wx (Gives (.int .i64 p) wx) from by rw [hp]; exact specPubS wx x z h _ (st_rds wx _ x) HK.out.ok (by omega) (by omega) (by omega))
        have KM := Lib.hid (fun wx : World => show Calls Tryz.prog 44 #[.agg #[.string r.Site, .string r.Origin, .int .i64 r.Challenge, .int .i64 r.Handle, .bool r.Present, .int .i64 r.Counter, .int .i64 r.Signature]] wx (MadeS 3 1 6 (ints .i64 (msg r)) wx) from C13i.implMsg wx r _ (as_rds wx _ r) (by rw [hsr]; omega) (by omega))
        have KN := Lib.hid (fun wx : World => show Calls Tryz.prog 45 #[.agg #[.string r.Site, .string r.Origin, .int .i64 r.Challenge, .int .i64 r.Handle, .bool r.Present, .int .i64 r.Counter, .int .i64 r.Signature]] wx (MadeS 3 1 6 (ints .i64 (msg r)) wx) from specMsg wx r _ (as_rds wx _ r) (by rw [hsr]; omega) (by omega))
        have hls1 : ¬ 9223372036854775807 < z.size + 10 := by omega
        have hls2 : ¬ 9223372036854775807 < 10 + z.size := by omega
        clear M hb hd hno hq hq0 hp hro hfo hy hsr hls hct
        go_upto_region 4 with fail
        obtain ⟨w2, hw2⟩ : ∃ ww, ww = w1.alloc (.cells #[.int .i64 x.Vendor, .int .i64 x.Serial, .int .i64 x.Seed, .int .i64 x.Counter] 61) := ⟨_, rfl⟩
        have o_v3 := var_owns w1 61 4 [.int .i64 x.Vendor, .int .i64 x.Serial, .int .i64 x.Seed, .int .i64 x.Counter] rfl
        have bw2 : Below w1.heap.size w1 w2 := hw2 ▸ (Below.refl _ _).alloc (Nat.le_refl _) _
        have sw2 : w2.heap.size = w1.heap.size + 1 := by rw [hw2]; simp
        rw [← hw2] at o_v3 ⊢
        have zw2 : w1.heap.size < w2.heap.size := by omega
        replace HB := HB.trans (bw2.mono HB.size)
        clear hw2
        obtain ⟨w3, hw3⟩ : ∃ ww, ww = w2.alloc (.cells #[.bool o.Secure, .string o.Host, .int .i64 o.Port] 45) := ⟨_, rfl⟩
        have o_v4 := var_owns w2 45 3 [.bool o.Secure, .string o.Host, .int .i64 o.Port] rfl
        have bw3 : Below w2.heap.size w2 w3 := hw3 ▸ (Below.refl _ _).alloc (Nat.le_refl _) _
        have sw3 : w3.heap.size = w2.heap.size + 1 := by rw [hw3]; simp
        rw [← hw3] at o_v4 ⊢
        have qw3 : w2.heap.size = w1.heap.size + 1 := by omega
        rw [qw3] at o_v4
        clear qw3
        have zw3 : w2.heap.size < w3.heap.size := by omega
        replace o_v3 := owns_below o_v3 bw3
        replace HB := HB.trans (bw3.mono HB.size)
        clear hw3
        clear sw2 sw3
        obtain ⟨c_v30, f_v30, c_v31, f_v31, c_v32, f_v32, c_v33, f_v33, l_v3⟩ := Vn.v4 o_v3
        obtain ⟨c_v40, f_v40, c_v41, f_v41, c_v42, f_v42, l_v4⟩ := Vn.v3 o_v4
        go_wp2_with fail
        clear c_v30 f_v30 c_v31 f_v31 c_v32 f_v32 c_v33 f_v33 l_v3 c_v40 f_v40 c_v41 f_v41 c_v42 f_v42 l_v4
        (with_reducible refine (KR.out _ (ht.stays HB)).mono ?_); rintro e w4 ⟨rfl, bw4⟩
        replace o_v3 := owns_below o_v3 bw4
        replace o_v4 := owns_below o_v4 bw4
        replace HB := HB.trans (bw4.mono HB.size)
        have zw4 := bw4.size
        go_upto_region 5 with fail
        obtain ⟨w5, hw5⟩ : ∃ ww, ww = w4.alloc (.cells #[.int .i64 y.Vendor, .int .i64 y.Serial, .int .i64 y.Seed, .int .i64 y.Counter] 61) := ⟨_, rfl⟩
        have o_v8 := var_owns w4 61 4 [.int .i64 y.Vendor, .int .i64 y.Serial, .int .i64 y.Seed, .int .i64 y.Counter] rfl
        have bw5 : Below w4.heap.size w4 w5 := hw5 ▸ (Below.refl _ _).alloc (Nat.le_refl _) _
        have sw5 : w5.heap.size = w4.heap.size + 1 := by rw [hw5]; simp
        rw [← hw5] at o_v8 ⊢
        have zw5 : w4.heap.size < w5.heap.size := by omega
        replace o_v3 := owns_below o_v3 bw5
        replace o_v4 := owns_below o_v4 bw5
        replace HB := HB.trans (bw5.mono HB.size)
        clear hw5
        obtain ⟨w6, hw6⟩ : ∃ ww, ww = w5.alloc (.cells #[.string r.Site, .string r.Origin, .int .i64 r.Challenge, .int .i64 r.Handle, .bool r.Present, .int .i64 r.Counter, .int .i64 r.Signature] 26) := ⟨_, rfl⟩
        have o_v9 := var_owns w5 26 7 [.string r.Site, .string r.Origin, .int .i64 r.Challenge, .int .i64 r.Handle, .bool r.Present, .int .i64 r.Counter, .int .i64 r.Signature] rfl
        have bw6 : Below w5.heap.size w5 w6 := hw6 ▸ (Below.refl _ _).alloc (Nat.le_refl _) _
        have sw6 : w6.heap.size = w5.heap.size + 1 := by rw [hw6]; simp
        rw [← hw6] at o_v9 ⊢
        have qw6 : w5.heap.size = w4.heap.size + 1 := by omega
        rw [qw6] at o_v9
        clear qw6
        have zw6 : w5.heap.size < w6.heap.size := by omega
        replace o_v3 := owns_below o_v3 bw6
        replace o_v4 := owns_below o_v4 bw6
        replace o_v8 := owns_below o_v8 bw6
        replace HB := HB.trans (bw6.mono HB.size)
        clear hw6
        clear sw5 sw6
        obtain ⟨c_v40, f_v40, c_v41, f_v41, c_v42, f_v42, l_v4⟩ := Vn.v3 o_v4
        go_wp2_with fail
        clear c_v40 f_v40 c_v41 f_v41 c_v42 f_v42 l_v4
        (with_reducible refine (C9b.specMay w6 o z _ (org_rds _ _ o) (by omega) (by omega)).mono ?_); rintro e w7 ⟨rfl, bw7⟩
        replace o_v3 := owns_below o_v3 bw7
        replace o_v4 := owns_below o_v4 bw7
        replace o_v8 := owns_below o_v8 bw7
        replace o_v9 := owns_below o_v9 bw7
        replace HB := HB.trans (bw7.mono HB.size)
        have zw7 := bw7.size
        rw [hm]
        obtain ⟨c_v30, f_v30, c_v31, f_v31, c_v32, f_v32, c_v33, f_v33, l_v3⟩ := Vn.v4 o_v3
        go_wp2_with fail
        clear c_v30 f_v30 c_v31 f_v31 c_v32 f_v32 c_v33 f_v33 l_v3
        (with_reducible refine (specVst w7 x _ (st_rds _ _ x)).mono ?_); rintro e w8 ⟨rfl, bw8⟩
        replace o_v3 := owns_below o_v3 bw8
        replace o_v4 := owns_below o_v4 bw8
        replace o_v8 := owns_below o_v8 bw8
        replace o_v9 := owns_below o_v9 bw8
        replace HB := HB.trans (bw8.mono HB.size)
        have zw8 := bw8.size
        rw [hv]
        obtain ⟨c_v30, f_v30, c_v31, f_v31, c_v32, f_v32, c_v33, f_v33, l_v3⟩ := Vn.v4 o_v3
        obtain ⟨c_v90, f_v90, c_v91, f_v91, c_v92, f_v92, c_v93, f_v93, c_v94, f_v94, c_v95, f_v95, c_v96, f_v96, l_v9⟩ := Vn.v7 o_v9
        go_wp2_with fail
        clear c_v30 f_v30 c_v31 f_v31 c_v32 f_v32 c_v33 f_v33 l_v3 c_v90 f_v90 c_v91 f_v91 c_v92 f_v92 c_v93 f_v93 c_v94 f_v94 c_v95 f_v95 c_v96 f_v96 l_v9
        obtain ⟨w9, hw9⟩ : ∃ ww, ww = w8.alloc (.cells #[.string r.Site, .string (⟨#[104, 116, 116, 112, 115, 58, 47, 47, 97, 46]⟩ ++ z), .int .i64 r.Challenge, .int .i64 r.Handle, .bool r.Present, .int .i64 r.Counter, .int .i64 r.Signature] 26) := ⟨_, rfl⟩
        have o_v11 := var_owns w8 26 7 [.string r.Site, .string (⟨#[104, 116, 116, 112, 115, 58, 47, 47, 97, 46]⟩ ++ z), .int .i64 r.Challenge, .int .i64 r.Handle, .bool r.Present, .int .i64 r.Counter, .int .i64 r.Signature] rfl
        have bw9 : Below w8.heap.size w8 w9 := hw9 ▸ (Below.refl _ _).alloc (Nat.le_refl _) _
        have sw9 : w9.heap.size = w8.heap.size + 1 := by rw [hw9]; simp
        rw [← hw9] at o_v11 ⊢
        have zw9 : w8.heap.size < w9.heap.size := by omega
        replace o_v3 := owns_below o_v3 bw9
        replace o_v4 := owns_below o_v4 bw9
        replace o_v8 := owns_below o_v8 bw9
        replace o_v9 := owns_below o_v9 bw9
        replace HB := HB.trans (bw9.mono HB.size)
        clear hw9
        clear sw9
        (with_reducible refine (KP.out _).mono ?_); rintro e w10 ⟨rfl, bw10⟩
        replace o_v3 := owns_below o_v3 bw10
        replace o_v4 := owns_below o_v4 bw10
        replace o_v8 := owns_below o_v8 bw10
        replace o_v9 := owns_below o_v9 bw10
        replace o_v11 := owns_below o_v11 bw10
        replace HB := HB.trans (bw10.mono HB.size)
        have zw10 := bw10.size
        go_wp2_with fail
        have HF1 := Lib.hid (show ∀ wx, Below w10.heap.size w10 wx → wx.cell? ⟨w8.heap.size, 0, none⟩ = some (.string r.Site) ∧ wx.cell? ⟨w8.heap.size, 1, none⟩ = some (.string (⟨#[104, 116, 116, 112, 115, 58, 47, 47, 97, 46]⟩ ++ z)) ∧ wx.cell? ⟨w8.heap.size, 2, none⟩ = some (.int .i64 r.Challenge) ∧ wx.cell? ⟨w8.heap.size, 3, none⟩ = some (.int .i64 r.Handle) ∧ wx.cell? ⟨w8.heap.size, 4, none⟩ = some (.bool r.Present) ∧ wx.cell? ⟨w8.heap.size, 5, none⟩ = some (.int .i64 r.Counter) ∧ wx.cell? ⟨w8.heap.size, 6, none⟩ = some (.int .i64 r.Signature) ∧ wx.cell? ⟨w1.heap.size, 3, none⟩ = some (.int .i64 x.Counter) ∧ wx.cell? ⟨(w4.heap.size + 1), 0, none⟩ = some (.string r.Site) ∧ wx.cell? ⟨(w4.heap.size + 1), 1, none⟩ = some (.string r.Origin) ∧ wx.cell? ⟨(w4.heap.size + 1), 2, none⟩ = some (.int .i64 r.Challenge) ∧ wx.cell? ⟨(w4.heap.size + 1), 3, none⟩ = some (.int .i64 r.Handle) ∧ wx.cell? ⟨(w4.heap.size + 1), 4, none⟩ = some (.bool r.Present) ∧ wx.cell? ⟨(w4.heap.size + 1), 5, none⟩ = some (.int .i64 r.Counter) ∧ wx.cell? ⟨(w4.heap.size + 1), 6, none⟩ = some (.int .i64 r.Signature) from fun wx hb => ⟨var_load (owns_below o_v11 hb) (by simp) 0 _ rfl, var_load (owns_below o_v11 hb) (by simp) 1 _ rfl, var_load (owns_below o_v11 hb) (by simp) 2 _ rfl, var_load (owns_below o_v11 hb) (by simp) 3 _ rfl, var_load (owns_below o_v11 hb) (by simp) 4 _ rfl, var_load (owns_below o_v11 hb) (by simp) 5 _ rfl, var_load (owns_below o_v11 hb) (by simp) 6 _ rfl, var_load (owns_below o_v3 hb) (by simp) 3 _ rfl, var_load (owns_below o_v9 hb) (by simp) 0 _ rfl, var_load (owns_below o_v9 hb) (by simp) 1 _ rfl, var_load (owns_below o_v9 hb) (by simp) 2 _ rfl, var_load (owns_below o_v9 hb) (by simp) 3 _ rfl, var_load (owns_below o_v9 hb) (by simp) 4 _ rfl, var_load (owns_below o_v9 hb) (by simp) 5 _ rfl, var_load (owns_below o_v9 hb) (by simp) 6 _ rfl⟩)
        have BB1 := Below.refl w10.heap.size w10
        obtain ⟨w11, hw11⟩ : ∃ ww, ww = w10.drew := ⟨_, rfl⟩
        have bw11 : Below w10.heap.size w10 w11 := hw11 ▸ drewN_below w10 1 _
        replace BB1 := BB1.trans (bw11.mono BB1.size)
        replace HB := HB.trans (bw11.mono HB.size)
        have zw11 := bw11.size
        refine wp_region_held_drew (S := (fun (wx : World) => wx.cell? ⟨w8.heap.size, 0, none⟩ = some (.string r.Site) ∧ wx.cell? ⟨w8.heap.size, 1, none⟩ = some (.string (⟨#[104, 116, 116, 112, 115, 58, 47, 47, 97, 46]⟩ ++ z)) ∧ wx.cell? ⟨w8.heap.size, 2, none⟩ = some (.int .i64 r.Challenge) ∧ wx.cell? ⟨w8.heap.size, 3, none⟩ = some (.int .i64 r.Handle) ∧ wx.cell? ⟨w8.heap.size, 4, none⟩ = some (.bool r.Present) ∧ wx.cell? ⟨w8.heap.size, 5, none⟩ = some (.int .i64 r.Counter) ∧ wx.cell? ⟨w8.heap.size, 6, none⟩ = some (.int .i64 r.Signature) ∧ wx.cell? ⟨w1.heap.size, 3, none⟩ = some (.int .i64 x.Counter) ∧ wx.cell? ⟨(w4.heap.size + 1), 0, none⟩ = some (.string r.Site) ∧ wx.cell? ⟨(w4.heap.size + 1), 1, none⟩ = some (.string r.Origin) ∧ wx.cell? ⟨(w4.heap.size + 1), 2, none⟩ = some (.int .i64 r.Challenge) ∧ wx.cell? ⟨(w4.heap.size + 1), 3, none⟩ = some (.int .i64 r.Handle) ∧ wx.cell? ⟨(w4.heap.size + 1), 4, none⟩ = some (.bool r.Present) ∧ wx.cell? ⟨(w4.heap.size + 1), 5, none⟩ = some (.int .i64 r.Counter) ∧ wx.cell? ⟨(w4.heap.size + 1), 6, none⟩ = some (.int .i64 r.Signature))) (by kernel_rfl) ?_ (fun hHeld => ?_)
        · rw [← hw11]; exact HF1.out _ BB1
        rw [← hw11] at hHeld ⊢
        clear hw11
        refine wpAnyH_take (i := 0) (oi := ?oix1__0_1) (v := ?vx1__0_1) ?hix1__0_1 (by kernel_rfl) (by kernel_rfl) (by kernel_rfl) ?hQx1__0_1 (Or.inl ⟨?hwx1__0_1, ?hyx1__0_1⟩) (by assumption) ?_
        case hix1__0_1 => simp only [List.getElem?_toArray, List.getElem?_cons_zero]; rfl
        case hQx1__0_1 => exact fun _ _ _ h => h
        case hwx1__0_1 => rfl
        case hyx1__0_1 => intro w hSw; (try dsimp only at hSw); (first | (go_simp; done) | (go_simp; with_reducible rfl))
        try simp only [Act.put, List.setIfInBounds_toArray, List.set_cons_zero, List.set_cons_succ]
        refine wpAnyH_take (i := 1) (oi := ?oix1__1_2) (v := ?vx1__1_2) ?hix1__1_2 (by kernel_rfl) (by kernel_rfl) (by kernel_rfl) ?hQx1__1_2 (Or.inl ⟨?hwx1__1_2, ?hyx1__1_2⟩) (by assumption) ?_
        case hix1__1_2 => simp only [List.getElem?_toArray, List.getElem?_cons_succ, List.getElem?_cons_zero]; rfl
        case hQx1__1_2 => exact fun _ _ _ h => h
        case hwx1__1_2 => rfl
        case hyx1__1_2 => intro w hSw; (try dsimp only at hSw); (first | (go_simp; done) | (go_simp; with_reducible rfl))
        try simp only [Act.put, List.setIfInBounds_toArray, List.set_cons_zero, List.set_cons_succ]
        refine wpAnyH_take (i := 2) (oi := ?oix1__2_3) (v := ?vx1__2_3) ?hix1__2_3 (by kernel_rfl) (by kernel_rfl) (by kernel_rfl) ?hQx1__2_3 (Or.inl ⟨?hwx1__2_3, ?hyx1__2_3⟩) (by assumption) ?_
        case hix1__2_3 => simp only [List.getElem?_toArray, List.getElem?_cons_succ, List.getElem?_cons_zero]; rfl
        case hQx1__2_3 => exact fun _ _ _ h => h
        case hwx1__2_3 => rfl
        case hyx1__2_3 => intro w hSw; (try dsimp only at hSw); (first | (go_simp; done) | (go_simp; with_reducible rfl))
        try simp only [Act.put, List.setIfInBounds_toArray, List.set_cons_zero, List.set_cons_succ]
        refine wpAnyH_take (i := 3) (oi := ?oix1__3_4) (v := ?vx1__3_4) ?hix1__3_4 (by kernel_rfl) (by kernel_rfl) (by kernel_rfl) ?hQx1__3_4 (Or.inl ⟨?hwx1__3_4, ?hyx1__3_4⟩) (by assumption) ?_
        case hix1__3_4 => simp only [List.getElem?_toArray, List.getElem?_cons_succ, List.getElem?_cons_zero]; rfl
        case hQx1__3_4 => exact fun _ _ _ h => h
        case hwx1__3_4 => rfl
        case hyx1__3_4 => intro w hSw; (try dsimp only at hSw); (first | (go_simp; done) | (go_simp; with_reducible rfl))
        try simp only [Act.put, List.setIfInBounds_toArray, List.set_cons_zero, List.set_cons_succ]
        refine wpAnyH_take (i := 4) (oi := ?oix1__4_5) (v := ?vx1__4_5) ?hix1__4_5 (by kernel_rfl) (by kernel_rfl) (by kernel_rfl) ?hQx1__4_5 (Or.inl ⟨?hwx1__4_5, ?hyx1__4_5⟩) (by assumption) ?_
        case hix1__4_5 => simp only [List.getElem?_toArray, List.getElem?_cons_succ, List.getElem?_cons_zero]; rfl
        case hQx1__4_5 => exact fun _ _ _ h => h
        case hwx1__4_5 => rfl
        case hyx1__4_5 => intro w hSw; (try dsimp only at hSw); (first | (go_simp; done) | (go_simp; with_reducible rfl))
        try simp only [Act.put, List.setIfInBounds_toArray, List.set_cons_zero, List.set_cons_succ]
        refine wpAnyH_take (i := 5) (oi := ?oix1__5_6) (v := ?vx1__5_6) ?hix1__5_6 (by kernel_rfl) (by kernel_rfl) (by kernel_rfl) ?hQx1__5_6 (Or.inl ⟨?hwx1__5_6, ?hyx1__5_6⟩) (by assumption) ?_
        case hix1__5_6 => simp only [List.getElem?_toArray, List.getElem?_cons_succ, List.getElem?_cons_zero]; rfl
        case hQx1__5_6 => exact fun _ _ _ h => h
        case hwx1__5_6 => rfl
        case hyx1__5_6 => intro w hSw; (try dsimp only at hSw); (first | (go_simp; done) | (go_simp; with_reducible rfl))
        try simp only [Act.put, List.setIfInBounds_toArray, List.set_cons_zero, List.set_cons_succ]
        refine wpAnyH_ready (rs := [6]) (by kernel_rfl) (by simp) ?_
        refine AllReadyH.cons (o := ?ox1__6_7) ?hix1__6_7 (fun K hK => ?gx1__6_7) AllReadyH.nil
        case hix1__6_7 => simp only [List.getElem?_toArray, List.getElem?_cons_succ, List.getElem?_cons_zero]; rfl
        case gx1__6_7 =>
          go_simp
          go_at_call 11
          (with_reducible refine (K1.out _ (ht.stays HB) (he.stays HB)).mono ?_); rintro e w12 ⟨rfl, bw12⟩
          replace BB1 := BB1.trans (bw12.mono BB1.size)
          replace HB := HB.trans (bw12.mono HB.size)
          have zw12 := bw12.size
          refine hK.out _ _ ?_ (fun hHeld => ?_)
          · exact HF1.out _ BB1
          clear hK K
          try simp only [Act.put, List.setIfInBounds_toArray, List.set_cons_zero, List.set_cons_succ]
          refine wpAnyH_take (i := 7) (oi := ?oix1__7_8) (v := ?vx1__7_8) ?hix1__7_8 (by kernel_rfl) (by kernel_rfl) (by kernel_rfl) ?hQx1__7_8 (Or.inl ⟨?hwx1__7_8, ?hyx1__7_8⟩) (by assumption) ?_
          case hix1__7_8 => simp only [List.getElem?_toArray, List.getElem?_cons_succ, List.getElem?_cons_zero]; rfl
          case hQx1__7_8 => exact fun _ _ _ h => h
          case hwx1__7_8 => rfl
          case hyx1__7_8 => intro w hSw; (try dsimp only at hSw); (first | (go_simp; done) | (go_simp; with_reducible rfl))
          try simp only [Act.put, List.setIfInBounds_toArray, List.set_cons_zero, List.set_cons_succ]
          refine wpAnyH_take (i := 8) (oi := ?oix1__8_9) (v := ?vx1__8_9) ?hix1__8_9 (by kernel_rfl) (by kernel_rfl) (by kernel_rfl) ?hQx1__8_9 (Or.inl ⟨?hwx1__8_9, ?hyx1__8_9⟩) (by assumption) ?_
          case hix1__8_9 => simp only [List.getElem?_toArray, List.getElem?_cons_succ, List.getElem?_cons_zero]; rfl
          case hQx1__8_9 => exact fun _ _ _ h => h
          case hwx1__8_9 => rfl
          case hyx1__8_9 => intro w hSw; (try dsimp only at hSw); (first | (go_simp; done) | (go_simp; with_reducible rfl))
          try simp only [Act.put, List.setIfInBounds_toArray, List.set_cons_zero, List.set_cons_succ]
          refine wpAnyH_take (i := 9) (oi := ?oix1__9_10) (v := ?vx1__9_10) ?hix1__9_10 (by kernel_rfl) (by kernel_rfl) (by kernel_rfl) ?hQx1__9_10 (Or.inl ⟨?hwx1__9_10, ?hyx1__9_10⟩) (by assumption) ?_
          case hix1__9_10 => simp only [List.getElem?_toArray, List.getElem?_cons_succ, List.getElem?_cons_zero]; rfl
          case hQx1__9_10 => exact fun _ _ _ h => h
          case hwx1__9_10 => rfl
          case hyx1__9_10 => intro w hSw; (try dsimp only at hSw); (first | (go_simp; done) | (go_simp; with_reducible rfl))
          try simp only [Act.put, List.setIfInBounds_toArray, List.set_cons_zero, List.set_cons_succ]
          refine wpAnyH_take (i := 10) (oi := ?oix1__10_11) (v := ?vx1__10_11) ?hix1__10_11 (by kernel_rfl) (by kernel_rfl) (by kernel_rfl) ?hQx1__10_11 (Or.inl ⟨?hwx1__10_11, ?hyx1__10_11⟩) (by assumption) ?_
          case hix1__10_11 => simp only [List.getElem?_toArray, List.getElem?_cons_succ, List.getElem?_cons_zero]; rfl
          case hQx1__10_11 => exact fun _ _ _ h => h
          case hwx1__10_11 => rfl
          case hyx1__10_11 => intro w hSw; (try dsimp only at hSw); (first | (go_simp; done) | (go_simp; with_reducible rfl))
          try simp only [Act.put, List.setIfInBounds_toArray, List.set_cons_zero, List.set_cons_succ]
          refine wpAnyH_take (i := 11) (oi := ?oix1__11_12) (v := ?vx1__11_12) ?hix1__11_12 (by kernel_rfl) (by kernel_rfl) (by kernel_rfl) ?hQx1__11_12 (Or.inl ⟨?hwx1__11_12, ?hyx1__11_12⟩) (by assumption) ?_
          case hix1__11_12 => simp only [List.getElem?_toArray, List.getElem?_cons_succ, List.getElem?_cons_zero]; rfl
          case hQx1__11_12 => exact fun _ _ _ h => h
          case hwx1__11_12 => rfl
          case hyx1__11_12 => intro w hSw; (try dsimp only at hSw); (first | (go_simp; done) | (go_simp; with_reducible rfl))
          try simp only [Act.put, List.setIfInBounds_toArray, List.set_cons_zero, List.set_cons_succ]
          refine wpAnyH_take (i := 12) (oi := ?oix1__12_13) (v := ?vx1__12_13) ?hix1__12_13 (by kernel_rfl) (by kernel_rfl) (by kernel_rfl) ?hQx1__12_13 (Or.inl ⟨?hwx1__12_13, ?hyx1__12_13⟩) (by assumption) ?_
          case hix1__12_13 => simp only [List.getElem?_toArray, List.getElem?_cons_succ, List.getElem?_cons_zero]; rfl
          case hQx1__12_13 => exact fun _ _ _ h => h
          case hwx1__12_13 => rfl
          case hyx1__12_13 => intro w hSw; (try dsimp only at hSw); (first | (go_simp; done) | (go_simp; with_reducible rfl))
          try simp only [Act.put, List.setIfInBounds_toArray, List.set_cons_zero, List.set_cons_succ]
          refine wpAnyH_take (i := 13) (oi := ?oix1__13_14) (v := ?vx1__13_14) ?hix1__13_14 (by kernel_rfl) (by kernel_rfl) (by kernel_rfl) ?hQx1__13_14 (Or.inl ⟨?hwx1__13_14, ?hyx1__13_14⟩) (by assumption) ?_
          case hix1__13_14 => simp only [List.getElem?_toArray, List.getElem?_cons_succ, List.getElem?_cons_zero]; rfl
          case hQx1__13_14 => exact fun _ _ _ h => h
          case hwx1__13_14 => rfl
          case hyx1__13_14 => intro w hSw; (try dsimp only at hSw); (first | (go_simp; done) | (go_simp; with_reducible rfl))
          try simp only [Act.put, List.setIfInBounds_toArray, List.set_cons_zero, List.set_cons_succ]
          refine wpAnyH_take (i := 14) (oi := ?oix1__14_15) (v := ?vx1__14_15) ?hix1__14_15 (by kernel_rfl) (by kernel_rfl) (by kernel_rfl) ?hQx1__14_15 (Or.inl ⟨?hwx1__14_15, ?hyx1__14_15⟩) (by assumption) ?_
          case hix1__14_15 => simp only [List.getElem?_toArray, List.getElem?_cons_succ, List.getElem?_cons_zero]; rfl
          case hQx1__14_15 => exact fun _ _ _ h => h
          case hwx1__14_15 => rfl
          case hyx1__14_15 => intro w hSw; (try dsimp only at hSw); (first | (go_simp; done) | (go_simp; with_reducible rfl))
          try simp only [Act.put, List.setIfInBounds_toArray, List.set_cons_zero, List.set_cons_succ]
          refine wpAnyH_take (i := 17) (oi := ?oix1__17_16) (v := ?vx1__17_16) ?hix1__17_16 (by kernel_rfl) (by kernel_rfl) (by kernel_rfl) ?hQx1__17_16 (Or.inl ⟨?hwx1__17_16, ?hyx1__17_16⟩) (by assumption) ?_
          case hix1__17_16 => simp only [List.getElem?_toArray, List.getElem?_cons_succ, List.getElem?_cons_zero]; rfl
          case hQx1__17_16 => exact fun _ _ _ h => h
          case hwx1__17_16 => rfl
          case hyx1__17_16 => intro w hSw; (try dsimp only at hSw); (first | (go_simp; done) | (go_simp; with_reducible rfl))
          try simp only [Act.put, List.setIfInBounds_toArray, List.set_cons_zero, List.set_cons_succ]
          refine wpAnyH_take (i := 18) (oi := ?oix1__18_17) (v := ?vx1__18_17) ?hix1__18_17 (by kernel_rfl) (by kernel_rfl) (by kernel_rfl) ?hQx1__18_17 (Or.inl ⟨?hwx1__18_17, ?hyx1__18_17⟩) (by assumption) ?_
          case hix1__18_17 => simp only [List.getElem?_toArray, List.getElem?_cons_succ, List.getElem?_cons_zero]; rfl
          case hQx1__18_17 => exact fun _ _ _ h => h
          case hwx1__18_17 => rfl
          case hyx1__18_17 => intro w hSw; (try dsimp only at hSw); (first | (go_simp; done) | (go_simp; with_reducible rfl))
          try simp only [Act.put, List.setIfInBounds_toArray, List.set_cons_zero, List.set_cons_succ]
          refine wpAnyH_take (i := 19) (oi := ?oix1__19_18) (v := ?vx1__19_18) ?hix1__19_18 (by kernel_rfl) (by kernel_rfl) (by kernel_rfl) ?hQx1__19_18 (Or.inl ⟨?hwx1__19_18, ?hyx1__19_18⟩) (by assumption) ?_
          case hix1__19_18 => simp only [List.getElem?_toArray, List.getElem?_cons_succ, List.getElem?_cons_zero]; rfl
          case hQx1__19_18 => exact fun _ _ _ h => h
          case hwx1__19_18 => rfl
          case hyx1__19_18 => intro w hSw; (try dsimp only at hSw); (first | (go_simp; done) | (go_simp; with_reducible rfl))
          try simp only [Act.put, List.setIfInBounds_toArray, List.set_cons_zero, List.set_cons_succ]
          refine wpAnyH_take (i := 20) (oi := ?oix1__20_19) (v := ?vx1__20_19) ?hix1__20_19 (by kernel_rfl) (by kernel_rfl) (by kernel_rfl) ?hQx1__20_19 (Or.inl ⟨?hwx1__20_19, ?hyx1__20_19⟩) (by assumption) ?_
          case hix1__20_19 => simp only [List.getElem?_toArray, List.getElem?_cons_succ, List.getElem?_cons_zero]; rfl
          case hQx1__20_19 => exact fun _ _ _ h => h
          case hwx1__20_19 => rfl
          case hyx1__20_19 => intro w hSw; (try dsimp only at hSw); (first | (go_simp; done) | (go_simp; with_reducible rfl))
          try simp only [Act.put, List.setIfInBounds_toArray, List.set_cons_zero, List.set_cons_succ]
          refine wpAnyH_take (i := 21) (oi := ?oix1__21_20) (v := ?vx1__21_20) ?hix1__21_20 (by kernel_rfl) (by kernel_rfl) (by kernel_rfl) ?hQx1__21_20 (Or.inl ⟨?hwx1__21_20, ?hyx1__21_20⟩) (by assumption) ?_
          case hix1__21_20 => simp only [List.getElem?_toArray, List.getElem?_cons_succ, List.getElem?_cons_zero]; rfl
          case hQx1__21_20 => exact fun _ _ _ h => h
          case hwx1__21_20 => rfl
          case hyx1__21_20 => intro w hSw; (try dsimp only at hSw); (first | (go_simp; done) | (go_simp; with_reducible rfl))
          try simp only [Act.put, List.setIfInBounds_toArray, List.set_cons_zero, List.set_cons_succ]
          refine wpAnyH_ready (rs := [15]) (by kernel_rfl) (by simp) ?_
          refine AllReadyH.cons (o := ?ox1__15_21) ?hix1__15_21 (fun K hK => ?gx1__15_21) AllReadyH.nil
          case hix1__15_21 => simp only [List.getElem?_toArray, List.getElem?_cons_succ, List.getElem?_cons_zero]; rfl
          case gx1__15_21 =>
            go_simp
            go_at_call 11
            (with_reducible refine (K2.out _ (ht.stays HB) (he.stays HB)).mono ?_); rintro e w13 ⟨rfl, bw13⟩
            replace BB1 := BB1.trans (bw13.mono BB1.size)
            replace HB := HB.trans (bw13.mono HB.size)
            have zw13 := bw13.size
            refine hK.out _ _ ?_ (fun hHeld => ?_)
            · exact HF1.out _ BB1
            clear hK K
            try simp only [Act.put, List.setIfInBounds_toArray, List.set_cons_zero, List.set_cons_succ]
            refine wpAnyH_take (i := 16) (oi := ?oix1__16_22) (v := ?vx1__16_22) ?hix1__16_22 (by kernel_rfl) (by kernel_rfl) (by kernel_rfl) ?hQx1__16_22 (Or.inl ⟨?hwx1__16_22, ?hyx1__16_22⟩) (by assumption) ?_
            case hix1__16_22 => simp only [List.getElem?_toArray, List.getElem?_cons_succ, List.getElem?_cons_zero]; rfl
            case hQx1__16_22 => exact fun _ _ _ h => h
            case hwx1__16_22 => rfl
            case hyx1__16_22 => intro w hSw; (try dsimp only at hSw); (first | (go_simp; done) | (go_simp; with_reducible rfl))
            try simp only [Act.put, List.setIfInBounds_toArray, List.set_cons_zero, List.set_cons_succ]
            refine wpAnyH_take (i := 22) (oi := ?oix1__22_23) (v := ?vx1__22_23) ?hix1__22_23 (by kernel_rfl) (by kernel_rfl) (by kernel_rfl) ?hQx1__22_23 (Or.inl ⟨?hwx1__22_23, ?hyx1__22_23⟩) (by assumption) ?_
            case hix1__22_23 => simp only [List.getElem?_toArray, List.getElem?_cons_succ, List.getElem?_cons_zero]; rfl
            case hQx1__22_23 => exact fun _ _ _ h => h
            case hwx1__22_23 => rfl
            case hyx1__22_23 => intro w hSw; (try dsimp only at hSw); (first | (go_simp; done) | (go_simp; with_reducible rfl))
            try simp only [Act.put, List.setIfInBounds_toArray, List.set_cons_zero, List.set_cons_succ]
            refine wpAnyH_take (i := 23) (oi := ?oix1__23_24) (v := ?vx1__23_24) ?hix1__23_24 (by kernel_rfl) (by kernel_rfl) (by kernel_rfl) ?hQx1__23_24 (Or.inl ⟨?hwx1__23_24, ?hyx1__23_24⟩) (by assumption) ?_
            case hix1__23_24 => simp only [List.getElem?_toArray, List.getElem?_cons_succ, List.getElem?_cons_zero]; rfl
            case hQx1__23_24 => exact fun _ _ _ h => h
            case hwx1__23_24 => rfl
            case hyx1__23_24 => intro w hSw; (try dsimp only at hSw); (first | (go_simp; done) | (go_simp; with_reducible rfl))
            try simp only [Act.put, List.setIfInBounds_toArray, List.set_cons_zero, List.set_cons_succ]
            refine wpAnyH_take (i := 24) (oi := ?oix1__24_25) (v := ?vx1__24_25) ?hix1__24_25 (by kernel_rfl) (by kernel_rfl) (by kernel_rfl) ?hQx1__24_25 (Or.inl ⟨?hwx1__24_25, ?hyx1__24_25⟩) (by assumption) ?_
            case hix1__24_25 => simp only [List.getElem?_toArray, List.getElem?_cons_succ, List.getElem?_cons_zero]; rfl
            case hQx1__24_25 => exact fun _ _ _ h => h
            case hwx1__24_25 => rfl
            case hyx1__24_25 => intro w hSw; (try dsimp only at hSw); (first | (go_simp; done) | (go_simp; with_reducible rfl))
            try simp only [Act.put, List.setIfInBounds_toArray, List.set_cons_zero, List.set_cons_succ]
            refine wpAnyH_take (i := 25) (oi := ?oix1__25_26) (v := ?vx1__25_26) ?hix1__25_26 (by kernel_rfl) (by kernel_rfl) (by kernel_rfl) ?hQx1__25_26 (Or.inl ⟨?hwx1__25_26, ?hyx1__25_26⟩) (by assumption) ?_
            case hix1__25_26 => simp only [List.getElem?_toArray, List.getElem?_cons_succ, List.getElem?_cons_zero]; rfl
            case hQx1__25_26 => exact fun _ _ _ h => h
            case hwx1__25_26 => rfl
            case hyx1__25_26 => intro w hSw; (try dsimp only at hSw); (first | (go_simp; done) | (go_simp; with_reducible rfl))
            try simp only [Act.put, List.setIfInBounds_toArray, List.set_cons_zero, List.set_cons_succ]
            refine wpAnyH_take (i := 27) (oi := ?oix1__27_27) (v := ?vx1__27_27) ?hix1__27_27 (by kernel_rfl) (by kernel_rfl) (by kernel_rfl) ?hQx1__27_27 (Or.inl ⟨?hwx1__27_27, ?hyx1__27_27⟩) (by assumption) ?_
            case hix1__27_27 => simp only [List.getElem?_toArray, List.getElem?_cons_succ, List.getElem?_cons_zero]; rfl
            case hQx1__27_27 => exact fun _ _ _ h => h
            case hwx1__27_27 => rfl
            case hyx1__27_27 => intro w hSw; (try dsimp only at hSw); (first | (go_simp; done) | (go_simp; with_reducible rfl))
            try simp only [Act.put, List.setIfInBounds_toArray, List.set_cons_zero, List.set_cons_succ]
            refine wpAnyH_ready (rs := [26]) (by kernel_rfl) (by simp) ?_
            refine AllReadyH.cons (o := ?ox1__26_28) ?hix1__26_28 (fun K hK => ?gx1__26_28) AllReadyH.nil
            case hix1__26_28 => simp only [List.getElem?_toArray, List.getElem?_cons_succ, List.getElem?_cons_zero]; rfl
            case gx1__26_28 =>
              go_simp
              go_at_call 44
              (with_reducible refine (KM.out _).mono ?_); rintro e w14 ⟨A_m_3, c_m_3, rfl, o_m_3, bw14⟩
              replace BB1 := BB1.trans (bw14.mono BB1.size)
              replace HB := HB.trans (bw14.mono HB.size)
              have zw14 := bw14.size
              have i_m_3 := o_m_3.lt
              refine hK.out _ _ ?_ (fun hHeld => ?_)
              · exact HF1.out _ BB1
              clear hK K
              try simp only [Act.put, List.setIfInBounds_toArray, List.set_cons_zero, List.set_cons_succ]
              refine wpAnyH_ready (rs := [28]) (by kernel_rfl) (by simp) ?_
              refine AllReadyH.cons (o := ?ox1__28_29) ?hix1__28_29 (fun K hK => ?gx1__28_29) AllReadyH.nil
              case hix1__28_29 => simp only [List.getElem?_toArray, List.getElem?_cons_succ, List.getElem?_cons_zero]; rfl
              case gx1__28_29 =>
                go_simp
                go_at_call 45
                (with_reducible refine (KN.out _).mono ?_); rintro e w15 ⟨A_m_4, c_m_4, rfl, o_m_4, bw15⟩
                replace BB1 := BB1.trans (bw15.mono BB1.size)
                replace o_m_3 := own_below o_m_3 bw15
                replace HB := HB.trans (bw15.mono HB.size)
                have zw15 := bw15.size
                have i_m_4 := o_m_4.lt
                refine hK.out _ _ ?_ (fun hHeld => ?_)
                · exact HF1.out _ BB1
                clear hK K
                try simp only [Act.put, List.setIfInBounds_toArray, List.set_cons_zero, List.set_cons_succ]
                refine wpAnyH_ready (rs := [29]) (by kernel_rfl) (by simp) ?_
                refine AllReadyH.cons (o := ?ox1__29_30) ?hix1__29_30 (fun K hK => ?gx1__29_30) AllReadyH.nil
                case hix1__29_30 => simp only [List.getElem?_toArray, List.getElem?_cons_succ, List.getElem?_cons_zero]; rfl
                case gx1__29_30 =>
                  go_simp
                  go_at_call 43
                  (with_reducible refine (S2.specEqual w15 A_m_3 A_m_4 6 6 c_m_3 c_m_4 (msg r) (msg r) (Rd.own o_m_3) (Rd.own o_m_4) (by omega) (by omega)).mono ?_); rintro e w16 ⟨rfl, bw16⟩
                  replace BB1 := BB1.trans (bw16.mono BB1.size)
                  replace o_m_3 := own_below o_m_3 bw16
                  replace o_m_4 := own_below o_m_4 bw16
                  replace HB := HB.trans (bw16.mono HB.size)
                  have zw16 := bw16.size
                  rw [decide_eq_true (rfl : msg r = msg r)]
                  refine hK.out _ _ ?_ (fun hHeld => ?_)
                  · exact HF1.out _ BB1
                  clear hK K
                  try simp only [Act.put, List.setIfInBounds_toArray, List.set_cons_zero, List.set_cons_succ]
                  refine wpAnyH_take (i := 30) (oi := ?oix1__30_31) (v := ?vx1__30_31) ?hix1__30_31 (by kernel_rfl) (by kernel_rfl) (by kernel_rfl) ?hQx1__30_31 (Or.inl ⟨?hwx1__30_31, ?hyx1__30_31⟩) (by assumption) ?_
                  case hix1__30_31 => simp only [List.getElem?_toArray, List.getElem?_cons_succ, List.getElem?_cons_zero]; rfl
                  case hQx1__30_31 => exact fun _ _ _ h => h
                  case hwx1__30_31 => rfl
                  case hyx1__30_31 => intro w hSw; (try dsimp only at hSw); (first | (go_simp; done) | (go_simp; with_reducible rfl))
                  try simp only [Act.put, List.setIfInBounds_toArray, List.set_cons_zero, List.set_cons_succ]
                  refine wpAnyH_take (i := 31) (oi := ?oix1__31_32) (v := ?vx1__31_32) ?hix1__31_32 (by kernel_rfl) (by kernel_rfl) (by kernel_rfl) ?hQx1__31_32 (Or.inl ⟨?hwx1__31_32, ?hyx1__31_32⟩) (by assumption) ?_
                  case hix1__31_32 => simp only [List.getElem?_toArray, List.getElem?_cons_succ, List.getElem?_cons_zero]; rfl
                  case hQx1__31_32 => exact fun _ _ _ h => h
                  case hwx1__31_32 => rfl
                  case hyx1__31_32 => intro w hSw; (try dsimp only at hSw); (first | (go_simp; done) | (go_simp; with_reducible rfl))
                  try simp only [Act.put, List.setIfInBounds_toArray, List.set_cons_zero, List.set_cons_succ]
                  refine wpAnyH_done (by kernel_rfl) ?_ _
                  replace o_v3 := owns_below o_v3 BB1
                  replace o_v4 := owns_below o_v4 BB1
                  replace o_v8 := owns_below o_v8 BB1
                  replace o_v9 := owns_below o_v9 BB1
                  replace o_v11 := owns_below o_v11 BB1
                  clear BB1
                  go_wp2
                  refine bodyPost_ret (v := .bool true) (by simp [results, Tryz.results7, go_sem]) rfl ?_
                  exact ⟨rfl, HB⟩
      ·
        have hb : mkB x o z = false := by unfold mkB signB; rw [hm, hv]; simp; omega
        have KR := Lib.hid (fun (wx : World) (hp : La.Pow wx) => show Calls Tryz.prog 41 #[.agg #[.int .i64 x.Vendor, .int .i64 x.Serial, .int .i64 x.Seed, .int .i64 x.Counter], .agg #[.bool o.Secure, .string o.Host, .int .i64 o.Port], .string z, .int .i64 h, .int .i64 n] wx (Gives (.tuple #[.agg #[.int .i64 x.Vendor, .int .i64 x.Serial, .int .i64 x.Seed, .int .i64 x.Counter], .agg #[.string ⟨#[]⟩, .string ⟨#[]⟩, .int .i64 0, .int .i64 0, .bool false, .int .i64 0, .int .i64 0], .bool false]) wx) from by have h9 := C13i.implRelay wx x o z h n _ _ (KeyStore.mkR (w := wx) (hi := wx.heap.size)) (Origin.mkR (w := wx) (hi := wx.heap.size)) HK.out.ok (by omega) (by omega) (by omega) (by omega) (by omega) (by omega) hp; unfold C13b.mkV mkS mkA at h9; rw [hb] at h9; exact h9)
        clear hb
        go_upto_region 4 with fail
        obtain ⟨w2, hw2⟩ : ∃ ww, ww = w1.alloc (.cells #[.int .i64 x.Vendor, .int .i64 x.Serial, .int .i64 x.Seed, .int .i64 x.Counter] 61) := ⟨_, rfl⟩
        have o_v3 := var_owns w1 61 4 [.int .i64 x.Vendor, .int .i64 x.Serial, .int .i64 x.Seed, .int .i64 x.Counter] rfl
        have bw2 : Below w1.heap.size w1 w2 := hw2 ▸ (Below.refl _ _).alloc (Nat.le_refl _) _
        have sw2 : w2.heap.size = w1.heap.size + 1 := by rw [hw2]; simp
        rw [← hw2] at o_v3 ⊢
        have zw2 : w1.heap.size < w2.heap.size := by omega
        replace HB := HB.trans (bw2.mono HB.size)
        clear hw2
        obtain ⟨w3, hw3⟩ : ∃ ww, ww = w2.alloc (.cells #[.bool o.Secure, .string o.Host, .int .i64 o.Port] 45) := ⟨_, rfl⟩
        have o_v4 := var_owns w2 45 3 [.bool o.Secure, .string o.Host, .int .i64 o.Port] rfl
        have bw3 : Below w2.heap.size w2 w3 := hw3 ▸ (Below.refl _ _).alloc (Nat.le_refl _) _
        have sw3 : w3.heap.size = w2.heap.size + 1 := by rw [hw3]; simp
        rw [← hw3] at o_v4 ⊢
        have qw3 : w2.heap.size = w1.heap.size + 1 := by omega
        rw [qw3] at o_v4
        clear qw3
        have zw3 : w2.heap.size < w3.heap.size := by omega
        replace o_v3 := owns_below o_v3 bw3
        replace HB := HB.trans (bw3.mono HB.size)
        clear hw3
        clear sw2 sw3
        obtain ⟨c_v30, f_v30, c_v31, f_v31, c_v32, f_v32, c_v33, f_v33, l_v3⟩ := Vn.v4 o_v3
        obtain ⟨c_v40, f_v40, c_v41, f_v41, c_v42, f_v42, l_v4⟩ := Vn.v3 o_v4
        go_wp2_with fail
        clear c_v30 f_v30 c_v31 f_v31 c_v32 f_v32 c_v33 f_v33 l_v3 c_v40 f_v40 c_v41 f_v41 c_v42 f_v42 l_v4
        (with_reducible refine (KR.out _ (ht.stays HB)).mono ?_); rintro e w4 ⟨rfl, bw4⟩
        replace o_v3 := owns_below o_v3 bw4
        replace o_v4 := owns_below o_v4 bw4
        replace HB := HB.trans (bw4.mono HB.size)
        have zw4 := bw4.size
        go_upto_region 5 with fail
        obtain ⟨w5, hw5⟩ : ∃ ww, ww = w4.alloc (.cells #[.int .i64 x.Vendor, .int .i64 x.Serial, .int .i64 x.Seed, .int .i64 x.Counter] 61) := ⟨_, rfl⟩
        have o_v8 := var_owns w4 61 4 [.int .i64 x.Vendor, .int .i64 x.Serial, .int .i64 x.Seed, .int .i64 x.Counter] rfl
        have bw5 : Below w4.heap.size w4 w5 := hw5 ▸ (Below.refl _ _).alloc (Nat.le_refl _) _
        have sw5 : w5.heap.size = w4.heap.size + 1 := by rw [hw5]; simp
        rw [← hw5] at o_v8 ⊢
        have zw5 : w4.heap.size < w5.heap.size := by omega
        replace o_v3 := owns_below o_v3 bw5
        replace o_v4 := owns_below o_v4 bw5
        replace HB := HB.trans (bw5.mono HB.size)
        clear hw5
        obtain ⟨w6, hw6⟩ : ∃ ww, ww = w5.alloc (.cells #[.string ⟨#[]⟩, .string ⟨#[]⟩, .int .i64 0, .int .i64 0, .bool false, .int .i64 0, .int .i64 0] 26) := ⟨_, rfl⟩
        have o_v9 := var_owns w5 26 7 [.string ⟨#[]⟩, .string ⟨#[]⟩, .int .i64 0, .int .i64 0, .bool false, .int .i64 0, .int .i64 0] rfl
        have bw6 : Below w5.heap.size w5 w6 := hw6 ▸ (Below.refl _ _).alloc (Nat.le_refl _) _
        have sw6 : w6.heap.size = w5.heap.size + 1 := by rw [hw6]; simp
        rw [← hw6] at o_v9 ⊢
        have qw6 : w5.heap.size = w4.heap.size + 1 := by omega
        rw [qw6] at o_v9
        clear qw6
        have zw6 : w5.heap.size < w6.heap.size := by omega
        replace o_v3 := owns_below o_v3 bw6
        replace o_v4 := owns_below o_v4 bw6
        replace o_v8 := owns_below o_v8 bw6
        replace HB := HB.trans (bw6.mono HB.size)
        clear hw6
        clear sw5 sw6
        obtain ⟨c_v40, f_v40, c_v41, f_v41, c_v42, f_v42, l_v4⟩ := Vn.v3 o_v4
        go_wp2_with fail
        clear c_v40 f_v40 c_v41 f_v41 c_v42 f_v42 l_v4
        (with_reducible refine (C9b.specMay w6 o z _ (org_rds _ _ o) (by omega) (by omega)).mono ?_); rintro e w7 ⟨rfl, bw7⟩
        replace o_v3 := owns_below o_v3 bw7
        replace o_v4 := owns_below o_v4 bw7
        replace o_v8 := owns_below o_v8 bw7
        replace o_v9 := owns_below o_v9 bw7
        replace HB := HB.trans (bw7.mono HB.size)
        have zw7 := bw7.size
        rw [hm]
        obtain ⟨c_v30, f_v30, c_v31, f_v31, c_v32, f_v32, c_v33, f_v33, l_v3⟩ := Vn.v4 o_v3
        go_wp2_with fail
        clear c_v30 f_v30 c_v31 f_v31 c_v32 f_v32 c_v33 f_v33 l_v3
        (with_reducible refine (specVst w7 x _ (st_rds _ _ x)).mono ?_); rintro e w8 ⟨rfl, bw8⟩
        replace o_v3 := owns_below o_v3 bw8
        replace o_v4 := owns_below o_v4 bw8
        replace o_v8 := owns_below o_v8 bw8
        replace o_v9 := owns_below o_v9 bw8
        replace HB := HB.trans (bw8.mono HB.size)
        have zw8 := bw8.size
        rw [hv]
        obtain ⟨c_v30, f_v30, c_v31, f_v31, c_v32, f_v32, c_v33, f_v33, l_v3⟩ := Vn.v4 o_v3
        obtain ⟨c_v80, f_v80, c_v81, f_v81, c_v82, f_v82, c_v83, f_v83, l_v8⟩ := Vn.v4 o_v8
        obtain ⟨c_v90, f_v90, c_v91, f_v91, c_v92, f_v92, c_v93, f_v93, c_v94, f_v94, c_v95, f_v95, c_v96, f_v96, l_v9⟩ := Vn.v7 o_v9
        go_wp2
        clear c_v30 f_v30 c_v31 f_v31 c_v32 f_v32 c_v33 f_v33 l_v3 c_v80 f_v80 c_v81 f_v81 c_v82 f_v82 c_v83 f_v83 l_v8 c_v90 f_v90 c_v91 f_v91 c_v92 f_v92 c_v93 f_v93 c_v94 f_v94 c_v95 f_v95 c_v96 f_v96 l_v9
        refine bodyPost_ret (v := .bool true) (by simp [results, Tryz.results7, go_sem]) rfl ?_
        exact ⟨rfl, HB⟩
set_option maxRecDepth 100000 in
theorem walk (v0 : Value) (W : World) {H : Type} {enc : TypeId × Value → H} {b0 : Nat} {d0 : DataW H} {p0 : List MemPlace} (hv0 : Value.okWide Tryz.prog W .any b0 42 v0) (ht0 : DataW.Trod enc Tryz.prog W 0 (fun _ => true) true 42 v0 d0 p0) (hL : laidMetH Tryz.prog Rows.fnPhishingRow.laid W) :
    Calls Tryz.prog 7 #[v0] W fun e w' => e = .returned (.bool true) ∧ Below W.heap.size W w' := by
  have ht : La.Pow W := La.pow_of rfl hL
  have he : As.Er W := As.er_of rfl rfl rfl hL
  clear hL
  obtain ⟨A0, n0, c0, xs0, rfl, hr0, hm0, hx0⟩ := So.bytes hv0 ht0
  unfold maxLen at hm0
  by_cases hl : 1048576 < n0
  · clear hv0 ht0 hr0
    go_enter Tryz.func7, Tryz.ntmps7
    go_wp2_with fail
    (with_reducible refine (Cd.big_yes A0 n0 c0 _ (by omega) hl).mono ?_); rintro e w0 ⟨rfl, rfl⟩
    go_wp2
    go_ret
    exact ⟨rfl, Below.refl _ _⟩
  · exact walkSmall A0 n0 c0 hl W (D2.code_of hr0 hx0 (by omega)) ht he

set_option maxRecDepth 100000 in
theorem contract (H : Type) (enc : TypeId × Value → H) (W : World) (base : Nat) (args : Array Value) (ds gs : List (DataW H)) (before : List MemPlace)
    (hval : ∀ (j : Nat) t v, Tryz.f7.params[j]? = some t → args[j]? = some v → Value.okWide Tryz.prog W .any base t v)
    (hW : DataW.Whole enc Tryz.prog Tryz.f7.params.toList Rows.fnPhishingSpec.vars false W args.toList ds gs before) (hL : laidMetH Tryz.prog Rows.fnPhishingRow.laid W) :
    Calls Tryz.prog 7 args W fun e W' => ∃ v, e = .returned v ∧ Rows.fnPhishingSpec.post enc Tryz.prog Tryz.f7 false true false false W args v W' := by
  have hW' := hW
  obtain ⟨p, q, hA0, hV, rfl, hfz, hnd⟩ := hW
  have hA : DataW.TrodAll enc Tryz.prog W 0 (fun _ => true) true Tryz.f7.params.toList args.toList ds p := hA0
  rw [Tryz.params7] at hA hval
  obtain ⟨v0, vs0, d0, ds0, p0, q0, hargs, rfl, rfl, h0, r0⟩ := trodAll_cons hA
  obtain ⟨rfl, rfl, rfl⟩ := trodAll_nil r0
  obtain rfl : args = #[v0] := by cases args; simp_all
  obtain ⟨rfl, rfl⟩ := trodVars_none hV
  clear hA0
  refine Fr.closeLaw rfl (by kernel_rfl) (by rw [Tryz.params7]; decide) hW' rfl ?_
  exact walk v0 W (hval 0 42 v0 rfl rfl) h0 hL

noncomputable def handW (os : Os) : World := { World.holding Tryz.prog os ⟨#[], #[], []⟩ with heap := (World.holding Tryz.prog os ⟨#[], #[], []⟩).heap.modify 0 fun | .cells _ t fr => .cells #[.iface 151 (.agg #[typeHandle Tryz.prog 79])] t fr | x => x }
noncomputable def laidW (os : Os) : World := (handW os).layVars Tryz.prog (Rows.fnPhishingRow.laid.filter fun x => x.2.handleName?.isNone)
theorem laidW_os (os : Os) : (laidW os).os = os := (World.layVars_os _ _ _).trans rfl
theorem met_on {P : Program} {w0 : World} {l : List (String × DataW Unit)} (args : Array Value) (hf : w0.layFits P l [] = true) (hi : w0.layIfaces P l (w0.layVars P l) = true) : laidMet P l ((w0.layVars P l).forCall (fun _ _ => 0) ⟨#[], args, []⟩).memory := by
  have all : (l.filter fun x => (l.map (·.1)).contains x.1) = l := List.filter_eq_self.2 fun x hx => by simp only [List.contains_iff_mem]; exact List.mem_map_of_mem hx
  have none : (l.filter fun x => !(l.map (·.1)).contains x.1) = [] := List.filter_eq_nil_iff.2 fun x hx => by simp only [Bool.not_eq_true, Bool.not_eq_false', List.contains_iff_mem]; exact List.mem_map_of_mem hx
  have k : laidMet P l (w0.layVars P l) := laidMet_layVars (l.map (·.1)) [] (by rw [all]) (by rw [all]; exact hf) (by rw [all]; exact hi) (by rw [none]; exact LaidIn.none)
  exact k.of_heap (by simp [World.memory, World.forCall, Input.heap])
theorem laid_met (os : Os) : laidMetH Tryz.prog Rows.fnPhishingRow.laid ((laidW os).forCall (fun _ _ => 0) ⟨#[], #[.slice none 0 0], []⟩).memory := by
  exact laidMetH_of_parts (met_on _ (by kernel_rfl) (by kernel_rfl)) (by kernel_rfl)
set_option maxRecDepth 100000 in
theorem reads (os : Os) {H : Type} (enc : TypeId × Value → H) : ∃ places, DataW.whole enc Tryz.prog ((laidW os).forCall (fun _ _ => 0) ⟨#[], #[.slice none 0 0], []⟩).memory Tryz.f7.params.toList Rows.fnPhishingSpec.vars false (#[.slice none 0 0] : Array Value).toList 8 = some ([.nil], [], places) :=
  ⟨[], by kernel_rfl⟩
set_option maxRecDepth 100000 in
theorem lifted (os : Os) (started : os.Started) (H : Type) (enc : TypeId × Value → H) (F : Stop.Interp) :
    ReturnsInHanded {} Tryz.checked os 7 .any ((OpenSpec.ofChange Rows.fnPhishingSpec).preRow enc Tryz.prog Tryz.f7 Rows.fnPhishingRow.domain false Rows.fnPhishingRow.laid) (((OpenSpec.ofChange Rows.fnPhishingSpec).at F).post enc Tryz.prog Tryz.f7 false true false false) := by
  obtain ⟨places, hx⟩ := reads os enc
  refine returnsInHanded_of_row (C := Tryz.checked) (s := OpenSpec.ofChange Rows.fnPhishingSpec) Fr.own started (by kernel_rfl) Tryz.func7
    (witness_row_atRef (enc := enc) (C := Tryz.checked) false (laidW os) #[.slice none 0 0] (laidW_os os) (by kernel_rfl) (by kernel_rfl) (by kernel_rfl)
      (OpenSpec.preRow_of_cond 8 hx (by kernel_rfl) (fun k hk => by cases hk) (by kernel_rfl) (laid_met os))) ?_
  intro W base args ds gs before hval hW _ hcond _ hL _ _
  exact contract H enc W base args ds gs before hval hW hL
set_option maxRecDepth 100000 in
theorem said : Rows.FnPhishingSaid :=
  OpenClaim.holds_of_cond 7 Tryz.f7 rfl rfl rfl rfl rfl rfl rfl ⟨rfl, rfl, rfl, rfl, rfl⟩ rfl rfl rfl rfl rfl (by kernel_rfl) Tryz.func7 (by kernel_rfl)
    (of_decide_eq_true (by kernel_rfl)) (by unfold Func.isWrapper; first | (rw [if_pos (by decide +kernel)]; kernel_rfl) | (rw [if_neg (by decide +kernel)]; exact ⟨rfl, rfl⟩))
    (fun os started H enc _ F => by rw [OpenClaim.pre_eq_preRow]; exact lifted os started H enc F)
theorem plain (f : FuncId) (fn : Func) (hf : Tryz.pinned.checked.prog.funcNamed "loop.example/g00581/laws.FnPhishing" = some f) (hfn : Tryz.pinned.checked.prog.funcs[f]? = some fn) :
    true = Tryz.pinned.checked.prog.looks [] ∧ ∀ (j : Nat) t, fn.params[j]? = some t → Tryz.pinned.checked.prog.wantsStandIn t = false := by
  obtain rfl : f = 7 := Option.some.inj ((show Tryz.prog.funcNamed "loop.example/g00581/laws.FnPhishing" = some 7 by kernel_rfl).symm.trans hf) |>.symm
  obtain rfl : fn = Tryz.f7 := (Option.some.inj (Tryz.func7.symm.trans hfn)).symm
  refine ⟨by kernel_rfl, fun j t ht => ?_⟩
  rw [Tryz.params7] at ht
  have hall : ([42] : List TypeId).all (fun t => !Tryz.prog.wantsStandIn t) = true := by kernel_rfl
  have hm : t ∈ ([42] : List TypeId) := by have := Array.mem_of_getElem? ht; simpa using this
  have := List.all_eq_true.1 hall t hm
  exact (by simpa using this : Tryz.prog.wantsStandIn t = false)
theorem proved : Rows.FnPhishingCardSaid :=
  Claim7.holds_tied_plain_at .later [] _ _ _ _ said (fun _ h => by cases h) (by kernel_rfl) (fun _ h => by cases h) fnPhishing_row_tie rfl ⟨rfl, rfl⟩ (by kernel_rfl) rfl plain (by kernel_rfl)
#print axioms proved
end Go.Proofs.YtialhhdhpjjkaaaGreatDoor.fnPhishing
