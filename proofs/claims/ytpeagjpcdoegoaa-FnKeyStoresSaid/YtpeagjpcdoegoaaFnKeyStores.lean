/-
  laws.FnKeyStores returns true at every code, and leaves it as it was: keys of different sites and handles are different, and every signature has a greater counter. Conditions: none.
-/
import Derived.Test.YtpeagjpcdoegoaaFr
import Derived.Stop.Joined
import Derived.Test.YtpeagjpcdoegoaaC0
import Derived.Test.YtpeagjpcdoegoaaCd
import Derived.Test.YtpeagjpcdoegoaaSo
import Derived.Test.YtpeagjpcdoegoaaD2
import Derived.Test.YtpeagjpcdoegoaaD10
import Derived.Test.YtpeagjpcdoegoaaC10b
import Derived.Test.YtpeagjpcdoegoaaC10i
import Derived.Test.YtpeagjpcdoegoaaM14
import Derived.Test.YtpeagjpcdoegoaaRa
import Derived.Deep.DeepCutAuto
import Derived.IntWalk
import Derived.Deep.RegionWith
import Derived.Deep.RegionHeld3
namespace Go.Proofs.Ytpeagjpcdoegoaa.fnKeyStores
open Go.ChangeShapes Go.WideShapes Go.ChangeAt Go.RowKit
set_option linter.unusedVariables false

open S0 S1 S9 Dm Fx M3 M8 C3 C6 C10 D3 D10 M14
set_option linter.unusedSimpArgs false
theorem words_ok {ys : List Int} (h : words ys) : okInts ys := fun y hy => by
  have := h y hy
  unfold isWord at this
  omega
theorem vsg_sgn {k : Int} (hk : key k) (m : List Int) : vsg (pub k) m (sgn k m) = true := by
  unfold vsg
  rw [if_pos (pub_key hk), prv_pub hk]
  simp
/-- What the cut hands on: the message with the counter behind it. -/
def Signed (w : World) (xs : List Int) (n : Nat) (v : Value) (wx : World) : Prop := ∃ A c, v = .slice A n c ∧ Rd wx wx.heap.size 1 A n (ints .i64 xs) ∧ Below w.heap.size w wx
set_option maxHeartbeats 16000000 in
set_option maxRecDepth 100000 in
theorem walkSmall (A0 : Option Addr) (n0 c0 : Nat) (hl : ¬ 1048576 < n0) (W : World) (hc : C0.Code W W.heap.size (.slice A0 n0 c0)) :
    Calls Try.prog 10 #[.slice A0 n0 c0] W fun e w' => e = .returned (.bool true) ∧ Below W.heap.size W w' := by
  go_enter Try.func10, Try.ntmps10
  go_wp2_with fail
  (with_reducible refine (Cd.big_no A0 n0 c0 _ hl).mono ?_); rintro e w0 ⟨rfl, rfl⟩
  go_wp2_with fail
  (with_reducible refine (D10.signWithStore _ _ _ hc (Nat.le_refl _)).mono ?_); rintro e w1 ⟨x, u, q, A, n, c, ys, rfl, hx, hu, ⟨q0, q1⟩, hy1, hy2, o_m0, bw1⟩
  have HB := bw1
  have zw1 := bw1.size
  have hnl : ys.length = n := by have := o_m0.1; rw [ints_len] at this; omega
  have hn4 : n ≤ 4 := by omega
  have HNL := Lib.hid hnl
  clear hnl hy2
  have o_m := owns_flat o_m0
  have i_m := Fx.made_in o_m
  clear o_m0
  have HX := Lib.hid hx.ok
  have HS := Lib.hid hx.2.2.1
  have HU := Lib.hid hu
  have hu1 := hosts_short hu
  have HY := Lib.hid (words_ok hy1)
  clear hx hu hy1
  obtain ⟨w2, hw2⟩ : ∃ y, y = w1.alloc (.cells #[.int .i64 x.Vendor, .int .i64 x.Serial, .int .i64 x.Seed, .int .i64 x.Counter] 29) := ⟨_, rfl⟩
  have o_s := var_owns w1 29 4 [.int .i64 x.Vendor, .int .i64 x.Serial, .int .i64 x.Seed, .int .i64 x.Counter] rfl
  have bw2 : Below w1.heap.size w1 w2 := hw2 ▸ (Below.refl _ _).alloc (Nat.le_refl _) _
  rw [← hw2] at o_s
  have sw2 : w2.heap.size = w1.heap.size + 1 := by rw [hw2]; simp
  have zw2 : w1.heap.size < w2.heap.size := by rw [hw2]; simp
  replace o_m := owns_below o_m bw2
  replace HB := HB.trans (bw2.mono HB.size)
  go_wp2_with fail
  rw [← hw2]
  clear hw2 sw2
  have HRM := Lib.hid (show ∀ wx : World, True from fun _ => trivial)
  clear HRM
  (refine (C10i.implSign _ x u q ys _ _ (st_rds _ _ x) HX.out (by omega) (by omega) (by omega) (by have h := owns_rds _ _ _ o_m; unfold numsD; rw [HNL.out]; exact h) HY.out (by rw [HNL.out]; omega)).mono ?_); rintro e w3 ⟨v_g, s_g, rfl, o_g, n_g, bw3⟩
  replace o_s := owns_below o_s bw3
  replace o_m := owns_below o_m bw3
  replace HB := HB.trans (bw3.mono HB.size)
  have zw3 := bw3.size
  obtain ⟨rfl, -⟩ := KeyStore.owns o_g
  clear o_g n_g
  cases hv : vst x with
  | false =>
    have hsb : signB x = false := by unfold signB; rw [hv]; rfl
    have HV := Lib.hid (fun wx : World => show Calls Try.prog 38 #[.agg #[.int .i64 x.Vendor, .int .i64 x.Serial, .int .i64 x.Seed, .int .i64 x.Counter]] wx (Gives (.bool false) wx) from by have h := specVst wx x _ (st_rds wx _ x); rw [hv] at h; exact h)
    clear hv
    have e1 : signX x = x := by unfold signX; rw [hsb]; rfl
    have e2 : signV x u q ys = 0 := by unfold signV; rw [hsb]; rfl
    rw [e1, e2, hsb]
    clear e1 e2 hsb
    have c_s0 : w3.cell? ⟨w1.heap.size, 0, none⟩ = some (.int .i64 x.Vendor) := var_load o_s (by simp) 0 _ rfl
    have f_s0 : w3.frozen? ⟨w1.heap.size, 0, none⟩ = false := var_frozen o_s (by simp) 0 _ rfl
    have c_s1 : w3.cell? ⟨w1.heap.size, 1, none⟩ = some (.int .i64 x.Serial) := var_load o_s (by simp) 1 _ rfl
    have f_s1 : w3.frozen? ⟨w1.heap.size, 1, none⟩ = false := var_frozen o_s (by simp) 1 _ rfl
    have c_s2 : w3.cell? ⟨w1.heap.size, 2, none⟩ = some (.int .i64 x.Seed) := var_load o_s (by simp) 2 _ rfl
    have f_s2 : w3.frozen? ⟨w1.heap.size, 2, none⟩ = false := var_frozen o_s (by simp) 2 _ rfl
    have c_s3 : w3.cell? ⟨w1.heap.size, 3, none⟩ = some (.int .i64 x.Counter) := var_load o_s (by simp) 3 _ rfl
    have f_s3 : w3.frozen? ⟨w1.heap.size, 3, none⟩ = false := var_frozen o_s (by simp) 3 _ rfl
    have l_s := var_lt o_s
    obtain ⟨w4, hw4⟩ : ∃ y, y = w3.alloc (.cells #[.int .i64 x.Vendor, .int .i64 x.Serial, .int .i64 x.Seed, .int .i64 x.Counter] 29) := ⟨_, rfl⟩
    have o_y := var_owns w3 29 4 [.int .i64 x.Vendor, .int .i64 x.Serial, .int .i64 x.Seed, .int .i64 x.Counter] rfl
    have bw4 : Below w3.heap.size w3 w4 := hw4 ▸ (Below.refl _ _).alloc (Nat.le_refl _) _
    rw [← hw4] at o_y
    have sw4 : w4.heap.size = w3.heap.size + 1 := by rw [hw4]; simp
    have zw4 : w3.heap.size < w4.heap.size := by rw [hw4]; simp
    replace o_s := owns_below o_s bw4
    replace o_m := owns_below o_m bw4
    replace HB := HB.trans (bw4.mono HB.size)
    go_wp2_with fail
    rw [← hw4]
    clear hw4 sw4
    (refine (HV.out _).mono ?_); rintro e wv ⟨rfl, bv⟩
    clear c_s0 f_s0 c_s1 f_s1 c_s2 f_s2 c_s3 f_s3 l_s
    replace o_s := owns_below o_s bv
    replace o_y := owns_below o_y bv
    replace o_m := owns_below o_m bv
    replace HB := HB.trans (bv.mono HB.size)
    have c_s0 : wv.cell? ⟨w1.heap.size, 0, none⟩ = some (.int .i64 x.Vendor) := var_load o_s (by simp) 0 _ rfl
    have f_s0 : wv.frozen? ⟨w1.heap.size, 0, none⟩ = false := var_frozen o_s (by simp) 0 _ rfl
    have c_s1 : wv.cell? ⟨w1.heap.size, 1, none⟩ = some (.int .i64 x.Serial) := var_load o_s (by simp) 1 _ rfl
    have f_s1 : wv.frozen? ⟨w1.heap.size, 1, none⟩ = false := var_frozen o_s (by simp) 1 _ rfl
    have c_s2 : wv.cell? ⟨w1.heap.size, 2, none⟩ = some (.int .i64 x.Seed) := var_load o_s (by simp) 2 _ rfl
    have f_s2 : wv.frozen? ⟨w1.heap.size, 2, none⟩ = false := var_frozen o_s (by simp) 2 _ rfl
    have c_s3 : wv.cell? ⟨w1.heap.size, 3, none⟩ = some (.int .i64 x.Counter) := var_load o_s (by simp) 3 _ rfl
    have f_s3 : wv.frozen? ⟨w1.heap.size, 3, none⟩ = false := var_frozen o_s (by simp) 3 _ rfl
    have l_s := var_lt o_s
    have c_y0 : wv.cell? ⟨w3.heap.size, 0, none⟩ = some (.int .i64 x.Vendor) := var_load o_y (by simp) 0 _ rfl
    have f_y0 : wv.frozen? ⟨w3.heap.size, 0, none⟩ = false := var_frozen o_y (by simp) 0 _ rfl
    have c_y1 : wv.cell? ⟨w3.heap.size, 1, none⟩ = some (.int .i64 x.Serial) := var_load o_y (by simp) 1 _ rfl
    have f_y1 : wv.frozen? ⟨w3.heap.size, 1, none⟩ = false := var_frozen o_y (by simp) 1 _ rfl
    have c_y2 : wv.cell? ⟨w3.heap.size, 2, none⟩ = some (.int .i64 x.Seed) := var_load o_y (by simp) 2 _ rfl
    have f_y2 : wv.frozen? ⟨w3.heap.size, 2, none⟩ = false := var_frozen o_y (by simp) 2 _ rfl
    have c_y3 : wv.cell? ⟨w3.heap.size, 3, none⟩ = some (.int .i64 x.Counter) := var_load o_y (by simp) 3 _ rfl
    have f_y3 : wv.frozen? ⟨w3.heap.size, 3, none⟩ = false := var_frozen o_y (by simp) 3 _ rfl
    have l_y := var_lt o_y
    go_wp2
    go_ret
    exact ⟨rfl, HB⟩
  | true =>
    have HV := Lib.hid (fun wx : World => show Calls Try.prog 38 #[.agg #[.int .i64 x.Vendor, .int .i64 x.Serial, .int .i64 x.Seed, .int .i64 x.Counter]] wx (Gives (.bool true) wx) from by have h := specVst wx x _ (st_rds wx _ x); rw [hv] at h; exact h)
    have hvv := hv
    unfold vst at hvv
    simp only [Bool.and_eq_true, decide_eq_true_eq] at hvv
    have hcr := hvv.2
    have HK := Lib.hid (show key x.Seed from by have h := hvv.1.2; unfold isKey at h; unfold key; simpa using h)
    clear hvv
    by_cases hc0 : x.Counter = 1000000
    · have hsb : signB x = false := by unfold signB; rw [hv, decide_eq_true hc0]; rfl
      have hlt : decide (x.Counter < 1000000) = false := by simp; omega
      have hltp : ¬ x.Counter < 1000000 := by omega
      clear hv hc0
      have e1 : signX x = x := by unfold signX; rw [hsb]; rfl
      have e2 : signV x u q ys = 0 := by unfold signV; rw [hsb]; rfl
      rw [e1, e2, hsb]
      clear e1 e2 hsb
      have c_s0 : w3.cell? ⟨w1.heap.size, 0, none⟩ = some (.int .i64 x.Vendor) := var_load o_s (by simp) 0 _ rfl
      have f_s0 : w3.frozen? ⟨w1.heap.size, 0, none⟩ = false := var_frozen o_s (by simp) 0 _ rfl
      have c_s1 : w3.cell? ⟨w1.heap.size, 1, none⟩ = some (.int .i64 x.Serial) := var_load o_s (by simp) 1 _ rfl
      have f_s1 : w3.frozen? ⟨w1.heap.size, 1, none⟩ = false := var_frozen o_s (by simp) 1 _ rfl
      have c_s2 : w3.cell? ⟨w1.heap.size, 2, none⟩ = some (.int .i64 x.Seed) := var_load o_s (by simp) 2 _ rfl
      have f_s2 : w3.frozen? ⟨w1.heap.size, 2, none⟩ = false := var_frozen o_s (by simp) 2 _ rfl
      have c_s3 : w3.cell? ⟨w1.heap.size, 3, none⟩ = some (.int .i64 x.Counter) := var_load o_s (by simp) 3 _ rfl
      have f_s3 : w3.frozen? ⟨w1.heap.size, 3, none⟩ = false := var_frozen o_s (by simp) 3 _ rfl
      have l_s := var_lt o_s
      obtain ⟨w4, hw4⟩ : ∃ y, y = w3.alloc (.cells #[.int .i64 x.Vendor, .int .i64 x.Serial, .int .i64 x.Seed, .int .i64 x.Counter] 29) := ⟨_, rfl⟩
      have o_y := var_owns w3 29 4 [.int .i64 x.Vendor, .int .i64 x.Serial, .int .i64 x.Seed, .int .i64 x.Counter] rfl
      have bw4 : Below w3.heap.size w3 w4 := hw4 ▸ (Below.refl _ _).alloc (Nat.le_refl _) _
      rw [← hw4] at o_y
      have sw4 : w4.heap.size = w3.heap.size + 1 := by rw [hw4]; simp
      have zw4 : w3.heap.size < w4.heap.size := by rw [hw4]; simp
      replace o_s := owns_below o_s bw4
      replace o_m := owns_below o_m bw4
      replace HB := HB.trans (bw4.mono HB.size)
      go_wp2_with fail
      rw [← hw4]
      clear hw4 sw4
      (refine (HV.out _).mono ?_); rintro e wv ⟨rfl, bv⟩
      clear c_s0 f_s0 c_s1 f_s1 c_s2 f_s2 c_s3 f_s3 l_s
      replace o_s := owns_below o_s bv
      replace o_y := owns_below o_y bv
      replace o_m := owns_below o_m bv
      replace HB := HB.trans (bv.mono HB.size)
      have c_s0 : wv.cell? ⟨w1.heap.size, 0, none⟩ = some (.int .i64 x.Vendor) := var_load o_s (by simp) 0 _ rfl
      have f_s0 : wv.frozen? ⟨w1.heap.size, 0, none⟩ = false := var_frozen o_s (by simp) 0 _ rfl
      have c_s1 : wv.cell? ⟨w1.heap.size, 1, none⟩ = some (.int .i64 x.Serial) := var_load o_s (by simp) 1 _ rfl
      have f_s1 : wv.frozen? ⟨w1.heap.size, 1, none⟩ = false := var_frozen o_s (by simp) 1 _ rfl
      have c_s2 : wv.cell? ⟨w1.heap.size, 2, none⟩ = some (.int .i64 x.Seed) := var_load o_s (by simp) 2 _ rfl
      have f_s2 : wv.frozen? ⟨w1.heap.size, 2, none⟩ = false := var_frozen o_s (by simp) 2 _ rfl
      have c_s3 : wv.cell? ⟨w1.heap.size, 3, none⟩ = some (.int .i64 x.Counter) := var_load o_s (by simp) 3 _ rfl
      have f_s3 : wv.frozen? ⟨w1.heap.size, 3, none⟩ = false := var_frozen o_s (by simp) 3 _ rfl
      have l_s := var_lt o_s
      have c_y0 : wv.cell? ⟨w3.heap.size, 0, none⟩ = some (.int .i64 x.Vendor) := var_load o_y (by simp) 0 _ rfl
      have f_y0 : wv.frozen? ⟨w3.heap.size, 0, none⟩ = false := var_frozen o_y (by simp) 0 _ rfl
      have c_y1 : wv.cell? ⟨w3.heap.size, 1, none⟩ = some (.int .i64 x.Serial) := var_load o_y (by simp) 1 _ rfl
      have f_y1 : wv.frozen? ⟨w3.heap.size, 1, none⟩ = false := var_frozen o_y (by simp) 1 _ rfl
      have c_y2 : wv.cell? ⟨w3.heap.size, 2, none⟩ = some (.int .i64 x.Seed) := var_load o_y (by simp) 2 _ rfl
      have f_y2 : wv.frozen? ⟨w3.heap.size, 2, none⟩ = false := var_frozen o_y (by simp) 2 _ rfl
      have c_y3 : wv.cell? ⟨w3.heap.size, 3, none⟩ = some (.int .i64 x.Counter) := var_load o_y (by simp) 3 _ rfl
      have f_y3 : wv.frozen? ⟨w3.heap.size, 3, none⟩ = false := var_frozen o_y (by simp) 3 _ rfl
      have l_y := var_lt o_y
      go_wp2
      go_ret
      exact ⟨rfl, HB⟩
    · have hsb : signB x = true := by unfold signB; rw [hv, decide_eq_false hc0]; rfl
      have hltp : x.Counter < 1000000 := by omega
      have hlt : decide (x.Counter < 1000000) = true := by simpa using hltp
      have e1 : signX x = ⟨x.Vendor, x.Serial, x.Seed, x.Counter + 1⟩ := by unfold signX; rw [hsb]; rfl
      have e2 : signV x u q ys = sgn (prvS x u q) (ys ++ [x.Counter + 1]) := by unfold signV; rw [hsb]; rfl
      rw [e1, e2, hsb]
      clear e1 e2 hsb hv hc0
      obtain ⟨k1, k2, k3⟩ := keys_apart HS.out HK.out HU.out q0 q1
      have j0 : key (prvS x u q) := der_key _ _
      have j1 : key (prvS x (dotx u) q) := der_key _ _
      have j2 : key (prvS x u (q + 1)) := der_key _ _
      have j3 : key (devP x) := der_key _ _
      obtain ⟨P, hP⟩ : ∃ P, P = pubS x u q := ⟨_, rfl⟩
      obtain ⟨P2, hP2⟩ : ∃ P, P = pubS x (dotx u) q := ⟨_, rfl⟩
      obtain ⟨P3, hP3⟩ : ∃ P, P = pubS x u (q + 1) := ⟨_, rfl⟩
      obtain ⟨D, hD⟩ : ∃ P, P = pub (devP x) := ⟨_, rfl⟩
      have n2 : (P == P2) = false := by rw [beq_eq_false_iff_ne, hP, hP2]; exact fun e => k1 (pub_inj j0 j1 e)
      have n3 : (P == P3) = false := by rw [beq_eq_false_iff_ne, hP, hP3]; exact fun e => k2 (pub_inj j0 j2 e)
      have nd : (P == D) = false := by rw [beq_eq_false_iff_ne, hP, hD]; exact fun e => k3 (pub_inj j0 j3 e)
      have m2 : (P != P2) = true := by unfold bne; rw [n2]; rfl
      have m3 : (P != P3) = true := by unfold bne; rw [n3]; rfl
      have md : (P != D) = true := by unfold bne; rw [nd]; rfl
      have V1 := vsg_sgn j0 (ys ++ [x.Counter + 1])
      have V2 := vsg_sgn j3 ys
      obtain ⟨K0, hK0⟩ : ∃ P, P = prvS x u q := ⟨_, rfl⟩
      obtain ⟨sg, hsg⟩ : ∃ P, P = sgn K0 (ys ++ [x.Counter + 1]) := ⟨_, rfl⟩
      obtain ⟨sd, hsd⟩ : ∃ P, P = sgn (devP x) ys := ⟨_, rfl⟩
      rw [← hK0, ← hsg]
      have KP1 := Lib.hid (fun (wx : World) => show Calls Try.prog 39 #[.agg #[.int .i64 x.Vendor, .int .i64 x.Serial, .int .i64 x.Seed, .int .i64 x.Counter], .string u, .int .i64 q] wx (Gives (.int .i64 P) wx) from by rw [hP]; exact C10i.implPubS wx x u q _ (st_rds _ _ x) HX.out (by omega) (by omega) (by omega))
      have KP2 := Lib.hid (fun (wx : World) => show Calls Try.prog 39 #[.agg #[.int .i64 x.Vendor, .int .i64 x.Serial, .int .i64 x.Seed, .int .i64 x.Counter], .string (u ++ ⟨#[46, 120]⟩), .int .i64 q] wx (Gives (.int .i64 P2) wx) from by rw [hP2]; exact C10i.implPubS wx x (dotx u) q _ (st_rds _ _ x) HX.out (by rw [dotx_size]; omega) (by omega) (by omega))
      have KP3 := Lib.hid (fun (wx : World) => show Calls Try.prog 39 #[.agg #[.int .i64 x.Vendor, .int .i64 x.Serial, .int .i64 x.Seed, .int .i64 x.Counter], .string u, .int .i64 (q + 1)] wx (Gives (.int .i64 P3) wx) from by rw [hP3]; exact C10i.implPubS wx x u (q + 1) _ (st_rds _ _ x) HX.out (by omega) (by omega) (by omega))
      have KD := Lib.hid (fun (wx : World) => show Calls Try.prog 41 #[.agg #[.int .i64 x.Vendor, .int .i64 x.Serial, .int .i64 x.Seed, .int .i64 x.Counter]] wx (Gives (.int .i64 D) wx) from by rw [hD]; exact C10i.implDevPub wx x _ (st_rds _ _ x) HX.out)
      have KK := Lib.hid (fun (wx : World) => show Calls Try.prog 43 #[.agg #[.int .i64 x.Vendor, .int .i64 x.Serial, .int .i64 x.Seed, .int .i64 x.Counter], .string u, .int .i64 q] wx (Gives (.int .i64 K0) wx) from by rw [hK0]; exact C10i.implPrvS wx x u q _ (st_rds _ _ x) HX.out (by omega) (by omega) (by omega))
      have KQ := Lib.hid (fun (wx : World) => show Calls Try.prog 42 #[.int .i64 K0] wx (Gives (.int .i64 P) wx) from by rw [hP, hK0]; exact (specPub _ wx).mono (fun e w1 h => ⟨h.1, h.2 ▸ Below.refl _ _⟩))
      have HM := Lib.hid (show okInts (ys ++ [x.Counter + 1]) from HY.out.app (okInts.one (by omega) (by omega)))
      have KV1 := Lib.hid (fun (wx : World) (A5 : Option Addr) (c5 : Nat) (h : Rd wx wx.heap.size 1 A5 (n + 1) (ints .i64 (ys ++ [x.Counter + 1]))) => show Calls Try.prog 40 #[.int .i64 P, .slice A5 (n + 1) c5, .int .i64 sg] wx (Gives (.bool true) wx) from by rw [← V1, hP]; unfold pubS; rw [hsg, ← hK0]; exact specVsg wx A5 (n + 1) c5 (ys ++ [x.Counter + 1]) _ _ h HM.out (by omega))
      have KV2 := Lib.hid (fun (wx : World) (h : Rd wx wx.heap.size 1 A n (ints .i64 ys)) => show Calls Try.prog 40 #[.int .i64 D, .slice A n c, .int .i64 sd] wx (Gives (.bool true) wx) from by rw [← V2, hD, hsd]; exact specVsg wx A n c ys _ _ h HY.out (by omega))
      have KS := Lib.hid (fun (wx : World) (h : Rd wx wx.heap.size 1 A n (ints .i64 ys)) => show Calls Try.prog 44 #[.agg #[.int .i64 x.Vendor, .int .i64 x.Serial, .int .i64 x.Seed, .int .i64 x.Counter], .slice A n c] wx (Gives (.int .i64 sd) wx) from by rw [hsd]; exact C10i.implSignDev wx x ys _ _ (st_rds _ _ x) (by have h2 : Rds wx wx.heap.size (flatD 3 .i64 1 n ys) (.slice A n c) := flat_rds h; unfold numsD; rw [HNL.out]; exact h2) HX.out HY.out (by rw [HNL.out]; omega))
      clear k1 k2 k3 j0 j1 j2 j3 hP hP2 hP3 hD V1 V2 hK0 hsg hsd
      have c_s0 : w3.cell? ⟨w1.heap.size, 0, none⟩ = some (.int .i64 x.Vendor) := var_load o_s (by simp) 0 _ rfl
      have f_s0 : w3.frozen? ⟨w1.heap.size, 0, none⟩ = false := var_frozen o_s (by simp) 0 _ rfl
      have c_s1 : w3.cell? ⟨w1.heap.size, 1, none⟩ = some (.int .i64 x.Serial) := var_load o_s (by simp) 1 _ rfl
      have f_s1 : w3.frozen? ⟨w1.heap.size, 1, none⟩ = false := var_frozen o_s (by simp) 1 _ rfl
      have c_s2 : w3.cell? ⟨w1.heap.size, 2, none⟩ = some (.int .i64 x.Seed) := var_load o_s (by simp) 2 _ rfl
      have f_s2 : w3.frozen? ⟨w1.heap.size, 2, none⟩ = false := var_frozen o_s (by simp) 2 _ rfl
      have c_s3 : w3.cell? ⟨w1.heap.size, 3, none⟩ = some (.int .i64 x.Counter) := var_load o_s (by simp) 3 _ rfl
      have f_s3 : w3.frozen? ⟨w1.heap.size, 3, none⟩ = false := var_frozen o_s (by simp) 3 _ rfl
      have l_s := var_lt o_s
      obtain ⟨w4, hw4⟩ : ∃ y, y = w3.alloc (.cells #[.int .i64 x.Vendor, .int .i64 x.Serial, .int .i64 x.Seed, .int .i64 (x.Counter + 1)] 29) := ⟨_, rfl⟩
      have o_y := var_owns w3 29 4 [.int .i64 x.Vendor, .int .i64 x.Serial, .int .i64 x.Seed, .int .i64 (x.Counter + 1)] rfl
      have bw4 : Below w3.heap.size w3 w4 := hw4 ▸ (Below.refl _ _).alloc (Nat.le_refl _) _
      rw [← hw4] at o_y
      have sw4 : w4.heap.size = w3.heap.size + 1 := by rw [hw4]; simp
      have zw4 : w3.heap.size < w4.heap.size := by rw [hw4]; simp
      replace o_s := owns_below o_s bw4
      replace o_m := owns_below o_m bw4
      replace HB := HB.trans (bw4.mono HB.size)
      go_wp2_with fail
      rw [← hw4]
      clear hw4 sw4
      (refine (HV.out _).mono ?_); rintro e wv ⟨rfl, bv⟩
      clear c_s0 f_s0 c_s1 f_s1 c_s2 f_s2 c_s3 f_s3 l_s
      replace o_s := owns_below o_s bv
      replace o_y := owns_below o_y bv
      replace o_m := owns_below o_m bv
      replace HB := HB.trans (bv.mono HB.size)
      clear HV
      have c_s0 : wv.cell? ⟨w1.heap.size, 0, none⟩ = some (.int .i64 x.Vendor) := var_load o_s (by simp) 0 _ rfl
      have f_s0 : wv.frozen? ⟨w1.heap.size, 0, none⟩ = false := var_frozen o_s (by simp) 0 _ rfl
      have c_s1 : wv.cell? ⟨w1.heap.size, 1, none⟩ = some (.int .i64 x.Serial) := var_load o_s (by simp) 1 _ rfl
      have f_s1 : wv.frozen? ⟨w1.heap.size, 1, none⟩ = false := var_frozen o_s (by simp) 1 _ rfl
      have c_s2 : wv.cell? ⟨w1.heap.size, 2, none⟩ = some (.int .i64 x.Seed) := var_load o_s (by simp) 2 _ rfl
      have f_s2 : wv.frozen? ⟨w1.heap.size, 2, none⟩ = false := var_frozen o_s (by simp) 2 _ rfl
      have c_s3 : wv.cell? ⟨w1.heap.size, 3, none⟩ = some (.int .i64 x.Counter) := var_load o_s (by simp) 3 _ rfl
      have f_s3 : wv.frozen? ⟨w1.heap.size, 3, none⟩ = false := var_frozen o_s (by simp) 3 _ rfl
      have l_s := var_lt o_s
      have c_y0 : wv.cell? ⟨w3.heap.size, 0, none⟩ = some (.int .i64 x.Vendor) := var_load o_y (by simp) 0 _ rfl
      have f_y0 : wv.frozen? ⟨w3.heap.size, 0, none⟩ = false := var_frozen o_y (by simp) 0 _ rfl
      have c_y1 : wv.cell? ⟨w3.heap.size, 1, none⟩ = some (.int .i64 x.Serial) := var_load o_y (by simp) 1 _ rfl
      have f_y1 : wv.frozen? ⟨w3.heap.size, 1, none⟩ = false := var_frozen o_y (by simp) 1 _ rfl
      have c_y2 : wv.cell? ⟨w3.heap.size, 2, none⟩ = some (.int .i64 x.Seed) := var_load o_y (by simp) 2 _ rfl
      have f_y2 : wv.frozen? ⟨w3.heap.size, 2, none⟩ = false := var_frozen o_y (by simp) 2 _ rfl
      have c_y3 : wv.cell? ⟨w3.heap.size, 3, none⟩ = some (.int .i64 (x.Counter + 1)) := var_load o_y (by simp) 3 _ rfl
      have f_y3 : wv.frozen? ⟨w3.heap.size, 3, none⟩ = false := var_frozen o_y (by simp) 3 _ rfl
      have l_y := var_lt o_y
      go_wp2_with fail
      (refine (KP1.out _).mono ?_); rintro e w5 ⟨rfl, bw5⟩
      clear c_s0 f_s0 c_s1 f_s1 c_s2 f_s2 c_s3 f_s3 l_s c_y0 f_y0 c_y1 f_y1 c_y2 f_y2 c_y3 f_y3 l_y
      replace o_s := owns_below o_s bw5
      replace o_y := owns_below o_y bw5
      replace o_m := owns_below o_m bw5
      replace HB := HB.trans (bw5.mono HB.size)
      have zw5 := bw5.size
      have us : ¬ 9223372036854775807 < u.size + 2 := by omega
      have c_s0 : w5.cell? ⟨w1.heap.size, 0, none⟩ = some (.int .i64 x.Vendor) := var_load o_s (by simp) 0 _ rfl
      have f_s0 : w5.frozen? ⟨w1.heap.size, 0, none⟩ = false := var_frozen o_s (by simp) 0 _ rfl
      have c_s1 : w5.cell? ⟨w1.heap.size, 1, none⟩ = some (.int .i64 x.Serial) := var_load o_s (by simp) 1 _ rfl
      have f_s1 : w5.frozen? ⟨w1.heap.size, 1, none⟩ = false := var_frozen o_s (by simp) 1 _ rfl
      have c_s2 : w5.cell? ⟨w1.heap.size, 2, none⟩ = some (.int .i64 x.Seed) := var_load o_s (by simp) 2 _ rfl
      have f_s2 : w5.frozen? ⟨w1.heap.size, 2, none⟩ = false := var_frozen o_s (by simp) 2 _ rfl
      have c_s3 : w5.cell? ⟨w1.heap.size, 3, none⟩ = some (.int .i64 x.Counter) := var_load o_s (by simp) 3 _ rfl
      have f_s3 : w5.frozen? ⟨w1.heap.size, 3, none⟩ = false := var_frozen o_s (by simp) 3 _ rfl
      have l_s := var_lt o_s
      have c_y0 : w5.cell? ⟨w3.heap.size, 0, none⟩ = some (.int .i64 x.Vendor) := var_load o_y (by simp) 0 _ rfl
      have f_y0 : w5.frozen? ⟨w3.heap.size, 0, none⟩ = false := var_frozen o_y (by simp) 0 _ rfl
      have c_y1 : w5.cell? ⟨w3.heap.size, 1, none⟩ = some (.int .i64 x.Serial) := var_load o_y (by simp) 1 _ rfl
      have f_y1 : w5.frozen? ⟨w3.heap.size, 1, none⟩ = false := var_frozen o_y (by simp) 1 _ rfl
      have c_y2 : w5.cell? ⟨w3.heap.size, 2, none⟩ = some (.int .i64 x.Seed) := var_load o_y (by simp) 2 _ rfl
      have f_y2 : w5.frozen? ⟨w3.heap.size, 2, none⟩ = false := var_frozen o_y (by simp) 2 _ rfl
      have c_y3 : w5.cell? ⟨w3.heap.size, 3, none⟩ = some (.int .i64 (x.Counter + 1)) := var_load o_y (by simp) 3 _ rfl
      have f_y3 : w5.frozen? ⟨w3.heap.size, 3, none⟩ = false := var_frozen o_y (by simp) 3 _ rfl
      have l_y := var_lt o_y
      go_wp2_with fail
      (refine (KP2.out _).mono ?_); rintro e w6 ⟨rfl, bw6⟩
      clear c_s0 f_s0 c_s1 f_s1 c_s2 f_s2 c_s3 f_s3 l_s c_y0 f_y0 c_y1 f_y1 c_y2 f_y2 c_y3 f_y3 l_y
      replace o_s := owns_below o_s bw6
      replace o_y := owns_below o_y bw6
      replace o_m := owns_below o_m bw6
      replace HB := HB.trans (bw6.mono HB.size)
      have zw6 := bw6.size
      have c_s0 : w6.cell? ⟨w1.heap.size, 0, none⟩ = some (.int .i64 x.Vendor) := var_load o_s (by simp) 0 _ rfl
      have f_s0 : w6.frozen? ⟨w1.heap.size, 0, none⟩ = false := var_frozen o_s (by simp) 0 _ rfl
      have c_s1 : w6.cell? ⟨w1.heap.size, 1, none⟩ = some (.int .i64 x.Serial) := var_load o_s (by simp) 1 _ rfl
      have f_s1 : w6.frozen? ⟨w1.heap.size, 1, none⟩ = false := var_frozen o_s (by simp) 1 _ rfl
      have c_s2 : w6.cell? ⟨w1.heap.size, 2, none⟩ = some (.int .i64 x.Seed) := var_load o_s (by simp) 2 _ rfl
      have f_s2 : w6.frozen? ⟨w1.heap.size, 2, none⟩ = false := var_frozen o_s (by simp) 2 _ rfl
      have c_s3 : w6.cell? ⟨w1.heap.size, 3, none⟩ = some (.int .i64 x.Counter) := var_load o_s (by simp) 3 _ rfl
      have f_s3 : w6.frozen? ⟨w1.heap.size, 3, none⟩ = false := var_frozen o_s (by simp) 3 _ rfl
      have l_s := var_lt o_s
      have c_y0 : w6.cell? ⟨w3.heap.size, 0, none⟩ = some (.int .i64 x.Vendor) := var_load o_y (by simp) 0 _ rfl
      have f_y0 : w6.frozen? ⟨w3.heap.size, 0, none⟩ = false := var_frozen o_y (by simp) 0 _ rfl
      have c_y1 : w6.cell? ⟨w3.heap.size, 1, none⟩ = some (.int .i64 x.Serial) := var_load o_y (by simp) 1 _ rfl
      have f_y1 : w6.frozen? ⟨w3.heap.size, 1, none⟩ = false := var_frozen o_y (by simp) 1 _ rfl
      have c_y2 : w6.cell? ⟨w3.heap.size, 2, none⟩ = some (.int .i64 x.Seed) := var_load o_y (by simp) 2 _ rfl
      have f_y2 : w6.frozen? ⟨w3.heap.size, 2, none⟩ = false := var_frozen o_y (by simp) 2 _ rfl
      have c_y3 : w6.cell? ⟨w3.heap.size, 3, none⟩ = some (.int .i64 (x.Counter + 1)) := var_load o_y (by simp) 3 _ rfl
      have f_y3 : w6.frozen? ⟨w3.heap.size, 3, none⟩ = false := var_frozen o_y (by simp) 3 _ rfl
      have l_y := var_lt o_y
      go_wp2_with fail
      (refine (KP3.out _).mono ?_); rintro e w7 ⟨rfl, bw7⟩
      clear c_s0 f_s0 c_s1 f_s1 c_s2 f_s2 c_s3 f_s3 l_s c_y0 f_y0 c_y1 f_y1 c_y2 f_y2 c_y3 f_y3 l_y
      replace o_s := owns_below o_s bw7
      replace o_y := owns_below o_y bw7
      replace o_m := owns_below o_m bw7
      replace HB := HB.trans (bw7.mono HB.size)
      have zw7 := bw7.size
      have HRM := Lib.hid (flat_owns o_m).1
      go_wp2_with fail
      have hm0 := (flat_owns o_m).1
      have RM := Lib.hid (show ∀ wx, Below w7.heap.size w7 wx → Rd wx wx.heap.size 1 A n (ints .i64 ys) from fun wx hb => Rd.own (own_below hm0 hb))
      clear HRM hm0
      have c_s0 : w7.cell? ⟨w1.heap.size, 0, none⟩ = some (.int .i64 x.Vendor) := var_load o_s (by simp) 0 _ rfl
      have f_s0 : w7.frozen? ⟨w1.heap.size, 0, none⟩ = false := var_frozen o_s (by simp) 0 _ rfl
      have c_s1 : w7.cell? ⟨w1.heap.size, 1, none⟩ = some (.int .i64 x.Serial) := var_load o_s (by simp) 1 _ rfl
      have f_s1 : w7.frozen? ⟨w1.heap.size, 1, none⟩ = false := var_frozen o_s (by simp) 1 _ rfl
      have c_s2 : w7.cell? ⟨w1.heap.size, 2, none⟩ = some (.int .i64 x.Seed) := var_load o_s (by simp) 2 _ rfl
      have f_s2 : w7.frozen? ⟨w1.heap.size, 2, none⟩ = false := var_frozen o_s (by simp) 2 _ rfl
      have c_s3 : w7.cell? ⟨w1.heap.size, 3, none⟩ = some (.int .i64 x.Counter) := var_load o_s (by simp) 3 _ rfl
      have f_s3 : w7.frozen? ⟨w1.heap.size, 3, none⟩ = false := var_frozen o_s (by simp) 3 _ rfl
      have l_s := var_lt o_s
      have c_y0 : w7.cell? ⟨w3.heap.size, 0, none⟩ = some (.int .i64 x.Vendor) := var_load o_y (by simp) 0 _ rfl
      have f_y0 : w7.frozen? ⟨w3.heap.size, 0, none⟩ = false := var_frozen o_y (by simp) 0 _ rfl
      have c_y1 : w7.cell? ⟨w3.heap.size, 1, none⟩ = some (.int .i64 x.Serial) := var_load o_y (by simp) 1 _ rfl
      have f_y1 : w7.frozen? ⟨w3.heap.size, 1, none⟩ = false := var_frozen o_y (by simp) 1 _ rfl
      have c_y2 : w7.cell? ⟨w3.heap.size, 2, none⟩ = some (.int .i64 x.Seed) := var_load o_y (by simp) 2 _ rfl
      have f_y2 : w7.frozen? ⟨w3.heap.size, 2, none⟩ = false := var_frozen o_y (by simp) 2 _ rfl
      have c_y3 : w7.cell? ⟨w3.heap.size, 3, none⟩ = some (.int .i64 (x.Counter + 1)) := var_load o_y (by simp) 3 _ rfl
      have f_y3 : w7.frozen? ⟨w3.heap.size, 3, none⟩ = false := var_frozen o_y (by simp) 3 _ rfl
      have l_y := var_lt o_y
      have HF := Lib.hid (show ∀ wx, Below w7.heap.size w7 wx → wx.cell? ⟨w3.heap.size, 0, none⟩ = some (.int .i64 x.Vendor) ∧ wx.cell? ⟨w3.heap.size, 1, none⟩ = some (.int .i64 x.Serial) ∧ wx.cell? ⟨w3.heap.size, 2, none⟩ = some (.int .i64 x.Seed) ∧ wx.cell? ⟨w3.heap.size, 3, none⟩ = some (.int .i64 (x.Counter + 1)) ∧ wx.cell? ⟨w1.heap.size, 0, none⟩ = some (.int .i64 x.Vendor) ∧ wx.cell? ⟨w1.heap.size, 1, none⟩ = some (.int .i64 x.Serial) ∧ wx.cell? ⟨w1.heap.size, 2, none⟩ = some (.int .i64 x.Seed) ∧ wx.cell? ⟨w1.heap.size, 3, none⟩ = some (.int .i64 x.Counter) from fun wx hb =>
        ⟨var_load (owns_below o_y hb) (by simp) 0 _ rfl, var_load (owns_below o_y hb) (by simp) 1 _ rfl, var_load (owns_below o_y hb) (by simp) 2 _ rfl, var_load (owns_below o_y hb) (by simp) 3 _ rfl, var_load (owns_below o_s hb) (by simp) 0 _ rfl, var_load (owns_below o_s hb) (by simp) 1 _ rfl, var_load (owns_below o_s hb) (by simp) 2 _ rfl, var_load (owns_below o_s hb) (by simp) 3 _ rfl⟩)
      clear c_s0 f_s0 c_s1 f_s1 c_s2 f_s2 c_s3 f_s3 l_s c_y0 f_y0 c_y1 f_y1 c_y2 f_y2 c_y3 f_y3 l_y
      have ly := var_lt o_y
      have ls := var_lt o_s
      go_cut [13] (fun v wx => Signed w7 (ys ++ [x.Counter + 1]) (n + 1) v wx)
      case first =>
        obtain ⟨wd, hd⟩ : ∃ y, y = w7.drew := ⟨_, rfl⟩
        have BB : Below w7.heap.size w7 wd := hd ▸ drewN_below w7 1 _
        refine wp_region_held_drew (S := (fun wx => wx.cell? ⟨w3.heap.size, 0, none⟩ = some (.int .i64 x.Vendor) ∧ wx.cell? ⟨w3.heap.size, 1, none⟩ = some (.int .i64 x.Serial) ∧ wx.cell? ⟨w3.heap.size, 2, none⟩ = some (.int .i64 x.Seed) ∧ wx.cell? ⟨w3.heap.size, 3, none⟩ = some (.int .i64 (x.Counter + 1)))) (by kernel_rfl) ?_ (fun hHeld => ?_)
        · exact (fun h => ⟨h.1, h.2.1, h.2.2.1, h.2.2.2.1⟩) (HF.out _ (hd ▸ BB))
        rw [← hd] at hHeld ⊢
        clear hd
        refine wpAnyH_take (i := 1) (oi := ?oia_1_1) (v := ?va_1_1) ?hia_1_1 (by kernel_rfl) (by kernel_rfl) (by kernel_rfl) ?hQa_1_1 (Or.inl ⟨?hwa_1_1, ?hya_1_1⟩) (by assumption) ?_
        case hia_1_1 => simp only [List.getElem?_toArray, List.getElem?_cons_succ, List.getElem?_cons_zero]; rfl
        case hQa_1_1 => exact fun _ _ _ h => h
        case hwa_1_1 => rfl
        case hya_1_1 => intro w hSw; (try dsimp only at hSw); (first | (go_simp; done) | (go_simp; with_reducible rfl))
        try simp only [Act.put, List.setIfInBounds_toArray, List.set_cons_zero, List.set_cons_succ]
        refine wpAnyH_take (i := 3) (oi := ?oia_3_2) (v := ?va_3_2) ?hia_3_2 (by kernel_rfl) (by kernel_rfl) (by kernel_rfl) ?hQa_3_2 (Or.inl ⟨?hwa_3_2, ?hya_3_2⟩) (by assumption) ?_
        case hia_3_2 => simp only [List.getElem?_toArray, List.getElem?_cons_succ, List.getElem?_cons_zero]; rfl
        case hQa_3_2 => exact fun _ _ _ h => h
        case hwa_3_2 => rfl
        case hya_3_2 => intro w hSw; (try dsimp only at hSw); (first | (go_simp; done) | (go_simp; with_reducible rfl))
        try simp only [Act.put, List.setIfInBounds_toArray, List.set_cons_zero, List.set_cons_succ]
        refine wpAnyH_take (i := 4) (oi := ?oia_4_3) (v := ?va_4_3) ?hia_4_3 (by kernel_rfl) (by kernel_rfl) (by kernel_rfl) ?hQa_4_3 (Or.inl ⟨?hwa_4_3, ?hya_4_3⟩) (by assumption) ?_
        case hia_4_3 => simp only [List.getElem?_toArray, List.getElem?_cons_succ, List.getElem?_cons_zero]; rfl
        case hQa_4_3 => exact fun _ _ _ h => h
        case hwa_4_3 => rfl
        case hya_4_3 => intro w hSw; (try dsimp only at hSw); (first | (go_simp; done) | (go_simp; with_reducible rfl))
        try simp only [Act.put, List.setIfInBounds_toArray, List.set_cons_zero, List.set_cons_succ]
        refine wpAnyH_ready (rs := [0, 5]) (by kernel_rfl) (by simp) ?_
        refine AllReadyH.cons (o := ?oa_0_4) ?hia_0_4 (fun K hK => ?ga_0_4) (AllReadyH.cons (o := ?oa_5_4) ?hia_5_4 (fun K hK => ?ga_5_4) AllReadyH.nil)
        case hia_0_4 => simp only [List.getElem?_toArray, List.getElem?_cons_zero]; rfl
        case hia_5_4 => simp only [List.getElem?_toArray, List.getElem?_cons_succ, List.getElem?_cons_zero]; rfl
        case ga_0_4 =>
          go_simp
          obtain ⟨x1, hx1⟩ : ∃ y, y = wd.alloc (.cells #[] 3) := ⟨_, rfl⟩
          have oA := own_base (own_ints wd [] 0 rfl (by omega)) BB.size
          rw [show wd.alloc (.cells (ints .i64 []).toArray 3) = x1 from hx1.symm] at oA
          rw [← hx1]
          have bx1 : Below wd.heap.size wd x1 := hx1 ▸ (Below.refl _ _).alloc (Nat.le_refl _) _
          have lA : wd.heap.size < x1.heap.size := by rw [hx1]; simp
          clear hx1
          have BB : Below w7.heap.size w7 x1 := BB.trans (bx1.mono BB.size)
          have zx1 := bx1.size
          refine hK.out _ _ ?_ (fun hHeld => ?_)
          · exact (fun h => ⟨h.1, h.2.1, h.2.2.1, h.2.2.2.1⟩) (HF.out _ BB)
          clear hK K
          try simp only [Act.put, List.setIfInBounds_toArray, List.set_cons_zero, List.set_cons_succ]
          refine wpAnyH_ready (rs := [2, 5]) (by kernel_rfl) (by simp) ?_
          refine AllReadyH.cons (o := ?oa_2_5) ?hia_2_5 (fun K hK => ?ga_2_5) (AllReadyH.cons (o := ?oa_5_5) ?hia_5_5 (fun K hK => ?ga_5_5) AllReadyH.nil)
          case hia_2_5 => simp only [List.getElem?_toArray, List.getElem?_cons_succ, List.getElem?_cons_zero]; rfl
          case hia_5_5 => simp only [List.getElem?_toArray, List.getElem?_cons_succ, List.getElem?_cons_zero]; rfl
          case ga_2_5 =>
            refine Ra.stepI x1 rfl (.tmp 64) (.tmp 65) rfl w7.heap.size (.slice (some ⟨wd.heap.size, 0, none⟩) 0 0) 0 _ (by simp [Act.eval]) oA _ (A) n c ys (by simp [Act.eval]) (RM.out _ BB) (by omega) BB.size ?_
            intro v4 x2 o4 g4 h4
            have BB : Below w7.heap.size w7 x2 := BB.grown g4 BB.size (fun j hj => (oA.lt j hj).1)
            have zx2 := g4.size
            rw [ints_app, Nat.zero_add, List.nil_append] at o4
            obtain ⟨A4, c4, rfl⟩ := own_nil_form o4
            clear oA
            have oA := o4
            clear o4
            refine hK.out _ _ ?_ (fun hHeld => ?_)
            · exact (fun h => ⟨h.1, h.2.1, h.2.2.1, h.2.2.2.1⟩) (HF.out _ BB)
            clear hK K
            try simp only [Act.put, List.setIfInBounds_toArray, List.set_cons_zero, List.set_cons_succ]
            refine wpAnyH_ready (rs := [5]) (by kernel_rfl) (by simp) ?_
            refine AllReadyH.cons (o := ?oa_5_6) ?hia_5_6 (fun K hK => ?ga_5_6) AllReadyH.nil
            case hia_5_6 => simp only [List.getElem?_toArray, List.getElem?_cons_succ, List.getElem?_cons_zero]; rfl
            case ga_5_6 =>
              go_simp
              obtain ⟨x3, hx3⟩ : ∃ y, y = x2.alloc (.cells #[.int .i64 (x.Counter + 1)] 3) := ⟨_, rfl⟩
              have oD := own_base (own_ints x2 [x.Counter + 1] 1 rfl (by omega)) BB.size
              rw [show x2.alloc (.cells (ints .i64 [x.Counter + 1]).toArray 3) = x3 from hx3.symm] at oD
              rw [← hx3]
              have bx3 : Below x2.heap.size x2 x3 := hx3 ▸ (Below.refl _ _).alloc (Nat.le_refl _) _
              have lD : x2.heap.size < x3.heap.size := by rw [hx3]; simp
              clear hx3
              have BB : Below w7.heap.size w7 x3 := BB.trans (bx3.mono BB.size)
              replace oA := own_below oA bx3
              have zx3 := bx3.size
              refine hK.out _ _ ?_ (fun hHeld => ?_)
              · exact (fun h => ⟨h.1, h.2.1, h.2.2.1, h.2.2.2.1⟩) (HF.out _ BB)
              clear hK K
              try simp only [Act.put, List.setIfInBounds_toArray, List.set_cons_zero, List.set_cons_succ]
              refine wpAnyH_ready (rs := [6]) (by kernel_rfl) (by simp) ?_
              refine AllReadyH.cons (o := ?oa_6_7) ?hia_6_7 (fun K hK => ?ga_6_7) AllReadyH.nil
              case hia_6_7 => simp only [List.getElem?_toArray, List.getElem?_cons_succ, List.getElem?_cons_zero]; rfl
              case ga_6_7 =>
                refine Ra.stepI x3 rfl (.tmp 66) (.tmp 69) rfl w7.heap.size (.slice A4 n c4) n _ (by simp [Act.eval]) oA _ (some ⟨x2.heap.size, 0, none⟩) 1 1 [x.Counter + 1] (by simp [Act.eval]) (Rd.own oD) (by omega) BB.size ?_
                intro v5 x4 o5 g5 h5
                have BB : Below w7.heap.size w7 x4 := BB.grown g5 BB.size (fun j hj => (oA.lt j hj).1)
                have zx4 := g5.size
                rw [ints_app] at o5
                obtain ⟨A5, c5, rfl⟩ := own_nil_form o5
                clear oA
                have oA := o5
                clear o5
                refine hK.out _ _ ?_ (fun hHeld => ?_)
                · exact (fun h => ⟨h.1, h.2.1, h.2.2.1, h.2.2.2.1⟩) (HF.out _ BB)
                clear hK K
                try simp only [Act.put, List.setIfInBounds_toArray, List.set_cons_zero, List.set_cons_succ]
                refine wpAnyH_take (i := 7) (oi := ?oia_7_8) (v := ?va_7_8) ?hia_7_8 (by kernel_rfl) (by kernel_rfl) (by kernel_rfl) ?hQa_7_8 (Or.inl ⟨?hwa_7_8, ?hya_7_8⟩) (by assumption) ?_
                case hia_7_8 => simp only [List.getElem?_toArray, List.getElem?_cons_succ, List.getElem?_cons_zero]; rfl
                case hQa_7_8 => exact fun _ _ _ h => h
                case hwa_7_8 => rfl
                case hya_7_8 => intro w hSw; (try dsimp only at hSw); (first | (go_simp; done) | (go_simp; with_reducible rfl))
                try simp only [Act.put, List.setIfInBounds_toArray, List.set_cons_zero, List.set_cons_succ]
                refine wpAnyH_done (by kernel_rfl) ?_ _
                go_wp2_with fail
                go_meet
                exact ⟨A5, c5, rfl, Rd.own oA, BB⟩
          case ga_5_5 =>
            go_simp
            obtain ⟨x2, hx2⟩ : ∃ y, y = x1.alloc (.cells #[.int .i64 (x.Counter + 1)] 3) := ⟨_, rfl⟩
            have oD := own_base (own_ints x1 [x.Counter + 1] 1 rfl (by omega)) BB.size
            rw [show x1.alloc (.cells (ints .i64 [x.Counter + 1]).toArray 3) = x2 from hx2.symm] at oD
            rw [← hx2]
            have bx2 : Below x1.heap.size x1 x2 := hx2 ▸ (Below.refl _ _).alloc (Nat.le_refl _) _
            have lD : x1.heap.size < x2.heap.size := by rw [hx2]; simp
            clear hx2
            have BB : Below w7.heap.size w7 x2 := BB.trans (bx2.mono BB.size)
            replace oA := own_below oA bx2
            have zx2 := bx2.size
            refine hK.out _ _ ?_ (fun hHeld => ?_)
            · exact (fun h => ⟨h.1, h.2.1, h.2.2.1, h.2.2.2.1⟩) (HF.out _ BB)
            clear hK K
            try simp only [Act.put, List.setIfInBounds_toArray, List.set_cons_zero, List.set_cons_succ]
            refine wpAnyH_ready (rs := [2]) (by kernel_rfl) (by simp) ?_
            refine AllReadyH.cons (o := ?oa_2_9) ?hia_2_9 (fun K hK => ?ga_2_9) AllReadyH.nil
            case hia_2_9 => simp only [List.getElem?_toArray, List.getElem?_cons_succ, List.getElem?_cons_zero]; rfl
            case ga_2_9 =>
              refine Ra.stepI x2 rfl (.tmp 64) (.tmp 65) rfl w7.heap.size (.slice (some ⟨wd.heap.size, 0, none⟩) 0 0) 0 _ (by simp [Act.eval]) oA _ (A) n c ys (by simp [Act.eval]) (RM.out _ BB) (by omega) BB.size ?_
              intro v4 x3 o4 g4 h4
              have BB : Below w7.heap.size w7 x3 := BB.grown g4 BB.size (fun j hj => (oA.lt j hj).1)
              have zx3 := g4.size
              replace oD := Ra.kept_row oD g4 (by intro e; have e : wd.heap.size = x1.heap.size := Option.some.inj e; omega)
              rw [ints_app, Nat.zero_add, List.nil_append] at o4
              obtain ⟨A4, c4, rfl⟩ := own_nil_form o4
              clear oA
              have oA := o4
              clear o4
              refine hK.out _ _ ?_ (fun hHeld => ?_)
              · exact (fun h => ⟨h.1, h.2.1, h.2.2.1, h.2.2.2.1⟩) (HF.out _ BB)
              clear hK K
              try simp only [Act.put, List.setIfInBounds_toArray, List.set_cons_zero, List.set_cons_succ]
              refine wpAnyH_ready (rs := [6]) (by kernel_rfl) (by simp) ?_
              refine AllReadyH.cons (o := ?oa_6_10) ?hia_6_10 (fun K hK => ?ga_6_10) AllReadyH.nil
              case hia_6_10 => simp only [List.getElem?_toArray, List.getElem?_cons_succ, List.getElem?_cons_zero]; rfl
              case ga_6_10 =>
                refine Ra.stepI x3 rfl (.tmp 66) (.tmp 69) rfl w7.heap.size (.slice A4 n c4) n _ (by simp [Act.eval]) oA _ (some ⟨x1.heap.size, 0, none⟩) 1 1 [x.Counter + 1] (by simp [Act.eval]) (Rd.own oD) (by omega) BB.size ?_
                intro v5 x4 o5 g5 h5
                have BB : Below w7.heap.size w7 x4 := BB.grown g5 BB.size (fun j hj => (oA.lt j hj).1)
                have zx4 := g5.size
                rw [ints_app] at o5
                obtain ⟨A5, c5, rfl⟩ := own_nil_form o5
                clear oA
                have oA := o5
                clear o5
                refine hK.out _ _ ?_ (fun hHeld => ?_)
                · exact (fun h => ⟨h.1, h.2.1, h.2.2.1, h.2.2.2.1⟩) (HF.out _ BB)
                clear hK K
                try simp only [Act.put, List.setIfInBounds_toArray, List.set_cons_zero, List.set_cons_succ]
                refine wpAnyH_take (i := 7) (oi := ?oia_7_11) (v := ?va_7_11) ?hia_7_11 (by kernel_rfl) (by kernel_rfl) (by kernel_rfl) ?hQa_7_11 (Or.inl ⟨?hwa_7_11, ?hya_7_11⟩) (by assumption) ?_
                case hia_7_11 => simp only [List.getElem?_toArray, List.getElem?_cons_succ, List.getElem?_cons_zero]; rfl
                case hQa_7_11 => exact fun _ _ _ h => h
                case hwa_7_11 => rfl
                case hya_7_11 => intro w hSw; (try dsimp only at hSw); (first | (go_simp; done) | (go_simp; with_reducible rfl))
                try simp only [Act.put, List.setIfInBounds_toArray, List.set_cons_zero, List.set_cons_succ]
                refine wpAnyH_done (by kernel_rfl) ?_ _
                go_wp2_with fail
                go_meet
                exact ⟨A5, c5, rfl, Rd.own oA, BB⟩
        case ga_5_4 =>
          go_simp
          obtain ⟨x1, hx1⟩ : ∃ y, y = wd.alloc (.cells #[.int .i64 (x.Counter + 1)] 3) := ⟨_, rfl⟩
          have oD := own_base (own_ints wd [x.Counter + 1] 1 rfl (by omega)) BB.size
          rw [show wd.alloc (.cells (ints .i64 [x.Counter + 1]).toArray 3) = x1 from hx1.symm] at oD
          rw [← hx1]
          have bx1 : Below wd.heap.size wd x1 := hx1 ▸ (Below.refl _ _).alloc (Nat.le_refl _) _
          have lD : wd.heap.size < x1.heap.size := by rw [hx1]; simp
          clear hx1
          have BB : Below w7.heap.size w7 x1 := BB.trans (bx1.mono BB.size)
          have zx1 := bx1.size
          refine hK.out _ _ ?_ (fun hHeld => ?_)
          · exact (fun h => ⟨h.1, h.2.1, h.2.2.1, h.2.2.2.1⟩) (HF.out _ BB)
          clear hK K
          try simp only [Act.put, List.setIfInBounds_toArray, List.set_cons_zero, List.set_cons_succ]
          refine wpAnyH_ready (rs := [0]) (by kernel_rfl) (by simp) ?_
          refine AllReadyH.cons (o := ?oa_0_12) ?hia_0_12 (fun K hK => ?ga_0_12) AllReadyH.nil
          case hia_0_12 => simp only [List.getElem?_toArray, List.getElem?_cons_zero]; rfl
          case ga_0_12 =>
            go_simp
            obtain ⟨x2, hx2⟩ : ∃ y, y = x1.alloc (.cells #[] 3) := ⟨_, rfl⟩
            have oA := own_base (own_ints x1 [] 0 rfl (by omega)) BB.size
            rw [show x1.alloc (.cells (ints .i64 []).toArray 3) = x2 from hx2.symm] at oA
            rw [← hx2]
            have bx2 : Below x1.heap.size x1 x2 := hx2 ▸ (Below.refl _ _).alloc (Nat.le_refl _) _
            have lA : x1.heap.size < x2.heap.size := by rw [hx2]; simp
            clear hx2
            have BB : Below w7.heap.size w7 x2 := BB.trans (bx2.mono BB.size)
            replace oD := own_below oD bx2
            have zx2 := bx2.size
            refine hK.out _ _ ?_ (fun hHeld => ?_)
            · exact (fun h => ⟨h.1, h.2.1, h.2.2.1, h.2.2.2.1⟩) (HF.out _ BB)
            clear hK K
            try simp only [Act.put, List.setIfInBounds_toArray, List.set_cons_zero, List.set_cons_succ]
            refine wpAnyH_ready (rs := [2]) (by kernel_rfl) (by simp) ?_
            refine AllReadyH.cons (o := ?oa_2_13) ?hia_2_13 (fun K hK => ?ga_2_13) AllReadyH.nil
            case hia_2_13 => simp only [List.getElem?_toArray, List.getElem?_cons_succ, List.getElem?_cons_zero]; rfl
            case ga_2_13 =>
              refine Ra.stepI x2 rfl (.tmp 64) (.tmp 65) rfl w7.heap.size (.slice (some ⟨x1.heap.size, 0, none⟩) 0 0) 0 _ (by simp [Act.eval]) oA _ (A) n c ys (by simp [Act.eval]) (RM.out _ BB) (by omega) BB.size ?_
              intro v4 x3 o4 g4 h4
              have BB : Below w7.heap.size w7 x3 := BB.grown g4 BB.size (fun j hj => (oA.lt j hj).1)
              have zx3 := g4.size
              replace oD := Ra.kept_row oD g4 (by intro e; have e : x1.heap.size = wd.heap.size := Option.some.inj e; omega)
              rw [ints_app, Nat.zero_add, List.nil_append] at o4
              obtain ⟨A4, c4, rfl⟩ := own_nil_form o4
              clear oA
              have oA := o4
              clear o4
              refine hK.out _ _ ?_ (fun hHeld => ?_)
              · exact (fun h => ⟨h.1, h.2.1, h.2.2.1, h.2.2.2.1⟩) (HF.out _ BB)
              clear hK K
              try simp only [Act.put, List.setIfInBounds_toArray, List.set_cons_zero, List.set_cons_succ]
              refine wpAnyH_ready (rs := [6]) (by kernel_rfl) (by simp) ?_
              refine AllReadyH.cons (o := ?oa_6_14) ?hia_6_14 (fun K hK => ?ga_6_14) AllReadyH.nil
              case hia_6_14 => simp only [List.getElem?_toArray, List.getElem?_cons_succ, List.getElem?_cons_zero]; rfl
              case ga_6_14 =>
                refine Ra.stepI x3 rfl (.tmp 66) (.tmp 69) rfl w7.heap.size (.slice A4 n c4) n _ (by simp [Act.eval]) oA _ (some ⟨wd.heap.size, 0, none⟩) 1 1 [x.Counter + 1] (by simp [Act.eval]) (Rd.own oD) (by omega) BB.size ?_
                intro v5 x4 o5 g5 h5
                have BB : Below w7.heap.size w7 x4 := BB.grown g5 BB.size (fun j hj => (oA.lt j hj).1)
                have zx4 := g5.size
                rw [ints_app] at o5
                obtain ⟨A5, c5, rfl⟩ := own_nil_form o5
                clear oA
                have oA := o5
                clear o5
                refine hK.out _ _ ?_ (fun hHeld => ?_)
                · exact (fun h => ⟨h.1, h.2.1, h.2.2.1, h.2.2.2.1⟩) (HF.out _ BB)
                clear hK K
                try simp only [Act.put, List.setIfInBounds_toArray, List.set_cons_zero, List.set_cons_succ]
                refine wpAnyH_take (i := 7) (oi := ?oia_7_15) (v := ?va_7_15) ?hia_7_15 (by kernel_rfl) (by kernel_rfl) (by kernel_rfl) ?hQa_7_15 (Or.inl ⟨?hwa_7_15, ?hya_7_15⟩) (by assumption) ?_
                case hia_7_15 => simp only [List.getElem?_toArray, List.getElem?_cons_succ, List.getElem?_cons_zero]; rfl
                case hQa_7_15 => exact fun _ _ _ h => h
                case hwa_7_15 => rfl
                case hya_7_15 => intro w hSw; (try dsimp only at hSw); (first | (go_simp; done) | (go_simp; with_reducible rfl))
                try simp only [Act.put, List.setIfInBounds_toArray, List.set_cons_zero, List.set_cons_succ]
                refine wpAnyH_done (by kernel_rfl) ?_ _
                go_wp2_with fail
                go_meet
                exact ⟨A5, c5, rfl, Rd.own oA, BB⟩
      case rest =>
        obtain ⟨A5, c5, rfl, R5, BB⟩ := hcut
        have B0 : Below w7.heap.size w7 wc := BB
        clear BB
        have R6 := Lib.hid (show ∀ wx, Below wc.heap.size wc wx → Rd wx wx.heap.size 1 A5 (n + 1) (ints .i64 (ys ++ [x.Counter + 1])) from fun wx hb => R5.on hb)
        have R7 := Lib.hid (show ∀ wx, Below wc.heap.size wc wx → Rd wx wx.heap.size 1 A n (ints .i64 ys) from fun wx hb => RM.out wx (B0.trans (hb.mono B0.size)))
        have HG := Lib.hid (fun (wx : World) (hb : Below wc.heap.size wc wx) => HF.out wx (B0.trans (hb.mono B0.size)))
        have BB : Below wc.heap.size wc wc.drew := drewN_below wc 1 _
        have LY : w3.heap.size < wc.drew.heap.size := Nat.lt_of_lt_of_le ly B0.size
        have LS : w1.heap.size < wc.drew.heap.size := Nat.lt_of_lt_of_le ls B0.size
        clear R5
        go_wp2_with fail
        have hwr : IntKind.i64.wrap (x.Counter + 1) = x.Counter + 1 := IntWalk.i64_in _ (by omega)
        refine wp_region_held_drew (S := (fun wx => wx.cell? ⟨w3.heap.size, 0, none⟩ = some (.int .i64 x.Vendor) ∧ wx.cell? ⟨w3.heap.size, 1, none⟩ = some (.int .i64 x.Serial) ∧ wx.cell? ⟨w3.heap.size, 2, none⟩ = some (.int .i64 x.Seed) ∧ wx.cell? ⟨w3.heap.size, 3, none⟩ = some (.int .i64 (x.Counter + 1)) ∧ wx.cell? ⟨w1.heap.size, 0, none⟩ = some (.int .i64 x.Vendor) ∧ wx.cell? ⟨w1.heap.size, 1, none⟩ = some (.int .i64 x.Serial) ∧ wx.cell? ⟨w1.heap.size, 2, none⟩ = some (.int .i64 x.Seed) ∧ wx.cell? ⟨w1.heap.size, 3, none⟩ = some (.int .i64 x.Counter))) (by kernel_rfl) ?_ (fun hHeld => ?_)
        · exact HG.out _ BB
        refine wpAnyH_take (i := 0) (oi := ?oiz_0) (v := ?vz_0) ?hiz_0 (by kernel_rfl) (by kernel_rfl) (by kernel_rfl) ?hQz_0 (Or.inl ⟨?hwz_0, ?hyz_0⟩) (by assumption) ?_
        case hiz_0 => simp only [List.getElem?_toArray, List.getElem?_cons_zero]; rfl
        case hQz_0 => exact fun _ _ _ h => h
        case hwz_0 => rfl
        case hyz_0 => intro w hSw; (try dsimp only at hSw); (first | (go_simp; done) | (go_simp; with_reducible rfl))
        try simp only [Act.put, List.setIfInBounds_toArray, List.set_cons_zero, List.set_cons_succ]
        refine wpAnyH_take (i := 1) (oi := ?oiz_1) (v := ?vz_1) ?hiz_1 (by kernel_rfl) (by kernel_rfl) (by kernel_rfl) ?hQz_1 (Or.inl ⟨?hwz_1, ?hyz_1⟩) (by assumption) ?_
        case hiz_1 => simp only [List.getElem?_toArray, List.getElem?_cons_succ, List.getElem?_cons_zero]; rfl
        case hQz_1 => exact fun _ _ _ h => h
        case hwz_1 => rfl
        case hyz_1 => intro w hSw; (try dsimp only at hSw); (first | (go_simp; done) | (go_simp; with_reducible rfl))
        try simp only [Act.put, List.setIfInBounds_toArray, List.set_cons_zero, List.set_cons_succ]
        refine wpAnyH_take (i := 2) (oi := ?oiz_2) (v := ?vz_2) ?hiz_2 (by kernel_rfl) (by kernel_rfl) (by kernel_rfl) ?hQz_2 (Or.inl ⟨?hwz_2, ?hyz_2⟩) (by assumption) ?_
        case hiz_2 => simp only [List.getElem?_toArray, List.getElem?_cons_succ, List.getElem?_cons_zero]; rfl
        case hQz_2 => exact fun _ _ _ h => h
        case hwz_2 => rfl
        case hyz_2 => intro w hSw; (try dsimp only at hSw); (first | (go_simp; done) | (go_simp; with_reducible rfl))
        try simp only [Act.put, List.setIfInBounds_toArray, List.set_cons_zero, List.set_cons_succ]
        refine wpAnyH_take (i := 3) (oi := ?oiz_3) (v := ?vz_3) ?hiz_3 (by kernel_rfl) (by kernel_rfl) (by kernel_rfl) ?hQz_3 (Or.inl ⟨?hwz_3, ?hyz_3⟩) (by assumption) ?_
        case hiz_3 => simp only [List.getElem?_toArray, List.getElem?_cons_succ, List.getElem?_cons_zero]; rfl
        case hQz_3 => exact fun _ _ _ h => h
        case hwz_3 => rfl
        case hyz_3 => intro w hSw; (try dsimp only at hSw); (first | (go_simp; done) | (go_simp; with_reducible rfl))
        try simp only [Act.put, List.setIfInBounds_toArray, List.set_cons_zero, List.set_cons_succ]
        refine wpAnyH_take (i := 4) (oi := ?oiz_4) (v := ?vz_4) ?hiz_4 (by kernel_rfl) (by kernel_rfl) (by kernel_rfl) ?hQz_4 (Or.inl ⟨?hwz_4, ?hyz_4⟩) (by assumption) ?_
        case hiz_4 => simp only [List.getElem?_toArray, List.getElem?_cons_succ, List.getElem?_cons_zero]; rfl
        case hQz_4 => exact fun _ _ _ h => h
        case hwz_4 => rfl
        case hyz_4 => intro w hSw; (try dsimp only at hSw); (first | (go_simp; done) | (go_simp; with_reducible rfl))
        try simp only [Act.put, List.setIfInBounds_toArray, List.set_cons_zero, List.set_cons_succ]
        refine wpAnyH_take (i := 5) (oi := ?oiz_5) (v := ?vz_5) ?hiz_5 (by kernel_rfl) (by kernel_rfl) (by kernel_rfl) ?hQz_5 (Or.inl ⟨?hwz_5, ?hyz_5⟩) (by assumption) ?_
        case hiz_5 => simp only [List.getElem?_toArray, List.getElem?_cons_succ, List.getElem?_cons_zero]; rfl
        case hQz_5 => exact fun _ _ _ h => h
        case hwz_5 => rfl
        case hyz_5 => intro w hSw; (try dsimp only at hSw); (first | (go_simp; done) | (go_simp; with_reducible rfl))
        try simp only [Act.put, List.setIfInBounds_toArray, List.set_cons_zero, List.set_cons_succ]
        refine wpAnyH_take (i := 6) (oi := ?oiz_6) (v := ?vz_6) ?hiz_6 (by kernel_rfl) (by kernel_rfl) (by kernel_rfl) ?hQz_6 (Or.inl ⟨?hwz_6, ?hyz_6⟩) (by assumption) ?_
        case hiz_6 => simp only [List.getElem?_toArray, List.getElem?_cons_succ, List.getElem?_cons_zero]; rfl
        case hQz_6 => exact fun _ _ _ h => h
        case hwz_6 => rfl
        case hyz_6 => intro w hSw; (try dsimp only at hSw); (first | (go_simp; done) | (go_simp; with_reducible rfl))
        try simp only [Act.put, List.setIfInBounds_toArray, List.set_cons_zero, List.set_cons_succ]
        refine wpAnyH_take (i := 7) (oi := ?oiz_7) (v := ?vz_7) ?hiz_7 (by kernel_rfl) (by kernel_rfl) (by kernel_rfl) ?hQz_7 (Or.inl ⟨?hwz_7, ?hyz_7⟩) (by assumption) ?_
        case hiz_7 => simp only [List.getElem?_toArray, List.getElem?_cons_succ, List.getElem?_cons_zero]; rfl
        case hQz_7 => exact fun _ _ _ h => h
        case hwz_7 => rfl
        case hyz_7 => intro w hSw; (try dsimp only at hSw); (first | (go_simp; done) | (go_simp; with_reducible rfl))
        try simp only [Act.put, List.setIfInBounds_toArray, List.set_cons_zero, List.set_cons_succ]
        refine wpAnyH_take (i := 8) (oi := ?oiz_8) (v := ?vz_8) ?hiz_8 (by kernel_rfl) (by kernel_rfl) (by kernel_rfl) ?hQz_8 (Or.inl ⟨?hwz_8, ?hyz_8⟩) (by assumption) ?_
        case hiz_8 => simp only [List.getElem?_toArray, List.getElem?_cons_succ, List.getElem?_cons_zero]; rfl
        case hQz_8 => exact fun _ _ _ h => h
        case hwz_8 => rfl
        case hyz_8 => intro w hSw; (try dsimp only at hSw); (first | (go_simp; done) | (go_simp; with_reducible rfl))
        try simp only [Act.put, List.setIfInBounds_toArray, List.set_cons_zero, List.set_cons_succ]
        refine wpAnyH_take (i := 9) (oi := ?oiz_9) (v := ?vz_9) ?hiz_9 (by kernel_rfl) (by kernel_rfl) (by kernel_rfl) ?hQz_9 (Or.inl ⟨?hwz_9, ?hyz_9⟩) (by assumption) ?_
        case hiz_9 => simp only [List.getElem?_toArray, List.getElem?_cons_succ, List.getElem?_cons_zero]; rfl
        case hQz_9 => exact fun _ _ _ h => h
        case hwz_9 => rfl
        case hyz_9 => intro w hSw; (try dsimp only at hSw); (first | (go_simp; done) | (go_simp; with_reducible rfl))
        try simp only [Act.put, List.setIfInBounds_toArray, List.set_cons_zero, List.set_cons_succ]
        refine wpAnyH_ready (rs := [10]) (by kernel_rfl) (by simp) ?_
        refine AllReadyH.cons (o := ?oiz_10) ?hiz_10 (fun K hK => ?_) AllReadyH.nil
        case hiz_10 => simp only [List.getElem?_toArray, List.getElem?_cons_succ, List.getElem?_cons_zero]; rfl
        go_simp
        go_at_call 40
        (with_reducible refine (KV1.out _ A5 c5 (R6.out _ BB)).mono ?_)
        rintro e wz ⟨rfl, bq⟩
        replace BB : Below wc.heap.size wc wz := BB.trans (bq.mono BB.size)
        replace LY := Nat.lt_of_lt_of_le LY bq.size
        replace LS := Nat.lt_of_lt_of_le LS bq.size
        clear bq
        refine hK.out _ _ ?_ (fun hHeld => ?_)
        · exact HG.out _ BB
        clear hK K
        try simp only [Act.put, List.setIfInBounds_toArray, List.set_cons_zero, List.set_cons_succ]
        refine wpAnyH_take (i := 11) (oi := ?oiz_11) (v := ?vz_11) ?hiz_11 (by kernel_rfl) (by kernel_rfl) (by kernel_rfl) ?hQz_11 (Or.inl ⟨?hwz_11, ?hyz_11⟩) (by assumption) ?_
        case hiz_11 => simp only [List.getElem?_toArray, List.getElem?_cons_succ, List.getElem?_cons_zero]; rfl
        case hQz_11 => exact fun _ _ _ h => h
        case hwz_11 => rfl
        case hyz_11 => intro w hSw; (try dsimp only at hSw); (first | (go_simp; done) | (go_simp; with_reducible rfl))
        try simp only [Act.put, List.setIfInBounds_toArray, List.set_cons_zero, List.set_cons_succ]
        refine wpAnyH_take (i := 12) (oi := ?oiz_12) (v := ?vz_12) ?hiz_12 (by kernel_rfl) (by kernel_rfl) (by kernel_rfl) ?hQz_12 (Or.inl ⟨?hwz_12, ?hyz_12⟩) (by assumption) ?_
        case hiz_12 => simp only [List.getElem?_toArray, List.getElem?_cons_succ, List.getElem?_cons_zero]; rfl
        case hQz_12 => exact fun _ _ _ h => h
        case hwz_12 => rfl
        case hyz_12 => intro w hSw; (try dsimp only at hSw); (first | (go_simp; done) | (go_simp; with_reducible rfl))
        try simp only [Act.put, List.setIfInBounds_toArray, List.set_cons_zero, List.set_cons_succ]
        refine wpAnyH_take (i := 13) (oi := ?oiz_13) (v := ?vz_13) ?hiz_13 (by kernel_rfl) (by kernel_rfl) (by kernel_rfl) ?hQz_13 (Or.inl ⟨?hwz_13, ?hyz_13⟩) (by assumption) ?_
        case hiz_13 => simp only [List.getElem?_toArray, List.getElem?_cons_succ, List.getElem?_cons_zero]; rfl
        case hQz_13 => exact fun _ _ _ h => h
        case hwz_13 => rfl
        case hyz_13 => intro w hSw; (try dsimp only at hSw); (first | (go_simp; done) | (go_simp; with_reducible rfl))
        try simp only [Act.put, List.setIfInBounds_toArray, List.set_cons_zero, List.set_cons_succ]
        refine wpAnyH_take (i := 14) (oi := ?oiz_14) (v := ?vz_14) ?hiz_14 (by kernel_rfl) (by kernel_rfl) (by kernel_rfl) ?hQz_14 (Or.inl ⟨?hwz_14, ?hyz_14⟩) (by assumption) ?_
        case hiz_14 => simp only [List.getElem?_toArray, List.getElem?_cons_succ, List.getElem?_cons_zero]; rfl
        case hQz_14 => exact fun _ _ _ h => h
        case hwz_14 => rfl
        case hyz_14 => intro w hSw; (try dsimp only at hSw); (first | (go_simp; done) | (go_simp; with_reducible rfl))
        try simp only [Act.put, List.setIfInBounds_toArray, List.set_cons_zero, List.set_cons_succ]
        refine wpAnyH_take (i := 15) (oi := ?oiz_15) (v := ?vz_15) ?hiz_15 (by kernel_rfl) (by kernel_rfl) (by kernel_rfl) ?hQz_15 (Or.inl ⟨?hwz_15, ?hyz_15⟩) (by assumption) ?_
        case hiz_15 => simp only [List.getElem?_toArray, List.getElem?_cons_succ, List.getElem?_cons_zero]; rfl
        case hQz_15 => exact fun _ _ _ h => h
        case hwz_15 => rfl
        case hyz_15 => intro w hSw; (try dsimp only at hSw); (first | (go_simp; done) | (go_simp; with_reducible rfl))
        try simp only [Act.put, List.setIfInBounds_toArray, List.set_cons_zero, List.set_cons_succ]
        refine wpAnyH_take (i := 16) (oi := ?oiz_16) (v := ?vz_16) ?hiz_16 (by kernel_rfl) (by kernel_rfl) (by kernel_rfl) ?hQz_16 (Or.inl ⟨?hwz_16, ?hyz_16⟩) (by assumption) ?_
        case hiz_16 => simp only [List.getElem?_toArray, List.getElem?_cons_succ, List.getElem?_cons_zero]; rfl
        case hQz_16 => exact fun _ _ _ h => h
        case hwz_16 => rfl
        case hyz_16 => intro w hSw; (try dsimp only at hSw); (first | (go_simp; done) | (go_simp; with_reducible rfl))
        try simp only [Act.put, List.setIfInBounds_toArray, List.set_cons_zero, List.set_cons_succ]
        refine wpAnyH_take (i := 17) (oi := ?oiz_17) (v := ?vz_17) ?hiz_17 (by kernel_rfl) (by kernel_rfl) (by kernel_rfl) ?hQz_17 (Or.inl ⟨?hwz_17, ?hyz_17⟩) (by assumption) ?_
        case hiz_17 => simp only [List.getElem?_toArray, List.getElem?_cons_succ, List.getElem?_cons_zero]; rfl
        case hQz_17 => exact fun _ _ _ h => h
        case hwz_17 => rfl
        case hyz_17 => intro w hSw; (try dsimp only at hSw); (first | (go_simp; done) | (go_simp; with_reducible rfl))
        try simp only [Act.put, List.setIfInBounds_toArray, List.set_cons_zero, List.set_cons_succ]
        refine wpAnyH_take (i := 18) (oi := ?oiz_18) (v := ?vz_18) ?hiz_18 (by kernel_rfl) (by kernel_rfl) (by kernel_rfl) ?hQz_18 (Or.inl ⟨?hwz_18, ?hyz_18⟩) (by assumption) ?_
        case hiz_18 => simp only [List.getElem?_toArray, List.getElem?_cons_succ, List.getElem?_cons_zero]; rfl
        case hQz_18 => exact fun _ _ _ h => h
        case hwz_18 => rfl
        case hyz_18 => intro w hSw; (try dsimp only at hSw); (first | (go_simp; done) | (go_simp; with_reducible rfl))
        try simp only [Act.put, List.setIfInBounds_toArray, List.set_cons_zero, List.set_cons_succ]
        refine wpAnyH_take (i := 19) (oi := ?oiz_19) (v := ?vz_19) ?hiz_19 (by kernel_rfl) (by kernel_rfl) (by kernel_rfl) ?hQz_19 (Or.inl ⟨?hwz_19, ?hyz_19⟩) (by assumption) ?_
        case hiz_19 => simp only [List.getElem?_toArray, List.getElem?_cons_succ, List.getElem?_cons_zero]; rfl
        case hQz_19 => exact fun _ _ _ h => h
        case hwz_19 => rfl
        case hyz_19 => intro w hSw; (try dsimp only at hSw); (first | (go_simp; done) | (go_simp; with_reducible rfl))
        try simp only [Act.put, List.setIfInBounds_toArray, List.set_cons_zero, List.set_cons_succ]
        refine wpAnyH_take (i := 20) (oi := ?oiz_20) (v := ?vz_20) ?hiz_20 (by kernel_rfl) (by kernel_rfl) (by kernel_rfl) ?hQz_20 (Or.inl ⟨?hwz_20, ?hyz_20⟩) (by assumption) ?_
        case hiz_20 => simp only [List.getElem?_toArray, List.getElem?_cons_succ, List.getElem?_cons_zero]; rfl
        case hQz_20 => exact fun _ _ _ h => h
        case hwz_20 => rfl
        case hyz_20 => intro w hSw; (try dsimp only at hSw); (first | (go_simp; done) | (go_simp; with_reducible rfl))
        try simp only [Act.put, List.setIfInBounds_toArray, List.set_cons_zero, List.set_cons_succ]
        refine wpAnyH_take (i := 21) (oi := ?oiz_21) (v := ?vz_21) ?hiz_21 (by kernel_rfl) (by kernel_rfl) (by kernel_rfl) ?hQz_21 (Or.inl ⟨?hwz_21, ?hyz_21⟩) (by assumption) ?_
        case hiz_21 => simp only [List.getElem?_toArray, List.getElem?_cons_succ, List.getElem?_cons_zero]; rfl
        case hQz_21 => exact fun _ _ _ h => h
        case hwz_21 => rfl
        case hyz_21 => intro w hSw; (try dsimp only at hSw); (first | (go_simp; done) | (go_simp; with_reducible rfl))
        try simp only [Act.put, List.setIfInBounds_toArray, List.set_cons_zero, List.set_cons_succ]
        refine wpAnyH_take (i := 22) (oi := ?oiz_22) (v := ?vz_22) ?hiz_22 (by kernel_rfl) (by kernel_rfl) (by kernel_rfl) ?hQz_22 (Or.inl ⟨?hwz_22, ?hyz_22⟩) (by assumption) ?_
        case hiz_22 => simp only [List.getElem?_toArray, List.getElem?_cons_succ, List.getElem?_cons_zero]; rfl
        case hQz_22 => exact fun _ _ _ h => h
        case hwz_22 => rfl
        case hyz_22 => intro w hSw; (try dsimp only at hSw); (first | (go_simp; done) | (go_simp; with_reducible rfl))
        try simp only [Act.put, List.setIfInBounds_toArray, List.set_cons_zero, List.set_cons_succ]
        refine wpAnyH_take (i := 23) (oi := ?oiz_23) (v := ?vz_23) ?hiz_23 (by kernel_rfl) (by kernel_rfl) (by kernel_rfl) ?hQz_23 (Or.inl ⟨?hwz_23, ?hyz_23⟩) (by assumption) ?_
        case hiz_23 => simp only [List.getElem?_toArray, List.getElem?_cons_succ, List.getElem?_cons_zero]; rfl
        case hQz_23 => exact fun _ _ _ h => h
        case hwz_23 => rfl
        case hyz_23 => intro w hSw; (try dsimp only at hSw); (first | (go_simp; done) | (go_simp; with_reducible rfl))
        try simp only [Act.put, List.setIfInBounds_toArray, List.set_cons_zero, List.set_cons_succ]
        refine wpAnyH_take (i := 24) (oi := ?oiz_24) (v := ?vz_24) ?hiz_24 (by kernel_rfl) (by kernel_rfl) (by kernel_rfl) ?hQz_24 (Or.inl ⟨?hwz_24, ?hyz_24⟩) (by assumption) ?_
        case hiz_24 => simp only [List.getElem?_toArray, List.getElem?_cons_succ, List.getElem?_cons_zero]; rfl
        case hQz_24 => exact fun _ _ _ h => h
        case hwz_24 => rfl
        case hyz_24 => intro w hSw; (try dsimp only at hSw); (first | (go_simp; done) | (go_simp; with_reducible rfl))
        try simp only [Act.put, List.setIfInBounds_toArray, List.set_cons_zero, List.set_cons_succ]
        refine wpAnyH_ready (rs := [25]) (by kernel_rfl) (by simp) ?_
        refine AllReadyH.cons (o := ?oiz_25) ?hiz_25 (fun K hK => ?_) AllReadyH.nil
        case hiz_25 => simp only [List.getElem?_toArray, List.getElem?_cons_succ, List.getElem?_cons_zero]; rfl
        go_simp
        go_at_call 41
        (with_reducible refine (KD.out _).mono ?_)
        rintro e wz ⟨rfl, bq⟩
        replace BB : Below wc.heap.size wc wz := BB.trans (bq.mono BB.size)
        replace LY := Nat.lt_of_lt_of_le LY bq.size
        replace LS := Nat.lt_of_lt_of_le LS bq.size
        clear bq
        refine hK.out _ _ ?_ (fun hHeld => ?_)
        · exact HG.out _ BB
        clear hK K
        try simp only [Act.put, List.setIfInBounds_toArray, List.set_cons_zero, List.set_cons_succ]
        refine wpAnyH_take (i := 26) (oi := ?oiz_26) (v := ?vz_26) ?hiz_26 (by kernel_rfl) (by kernel_rfl) (by kernel_rfl) ?hQz_26 (Or.inl ⟨?hwz_26, ?hyz_26⟩) (by assumption) ?_
        case hiz_26 => simp only [List.getElem?_toArray, List.getElem?_cons_succ, List.getElem?_cons_zero]; rfl
        case hQz_26 => exact fun _ _ _ h => h
        case hwz_26 => rfl
        case hyz_26 => intro w hSw; (try dsimp only at hSw); (first | (go_simp; done) | (go_simp; with_reducible rfl))
        try simp only [Act.put, List.setIfInBounds_toArray, List.set_cons_zero, List.set_cons_succ]
        refine wpAnyH_take (i := 27) (oi := ?oiz_27) (v := ?vz_27) ?hiz_27 (by kernel_rfl) (by kernel_rfl) (by kernel_rfl) ?hQz_27 (Or.inl ⟨?hwz_27, ?hyz_27⟩) (by assumption) ?_
        case hiz_27 => simp only [List.getElem?_toArray, List.getElem?_cons_succ, List.getElem?_cons_zero]; rfl
        case hQz_27 => exact fun _ _ _ h => h
        case hwz_27 => rfl
        case hyz_27 => intro w hSw; (try dsimp only at hSw); (first | (go_simp; done) | (go_simp; with_reducible rfl))
        try simp only [Act.put, List.setIfInBounds_toArray, List.set_cons_zero, List.set_cons_succ]
        refine wpAnyH_take (i := 28) (oi := ?oiz_28) (v := ?vz_28) ?hiz_28 (by kernel_rfl) (by kernel_rfl) (by kernel_rfl) ?hQz_28 (Or.inl ⟨?hwz_28, ?hyz_28⟩) (by assumption) ?_
        case hiz_28 => simp only [List.getElem?_toArray, List.getElem?_cons_succ, List.getElem?_cons_zero]; rfl
        case hQz_28 => exact fun _ _ _ h => h
        case hwz_28 => rfl
        case hyz_28 => intro w hSw; (try dsimp only at hSw); (first | (go_simp; done) | (go_simp; with_reducible rfl))
        try simp only [Act.put, List.setIfInBounds_toArray, List.set_cons_zero, List.set_cons_succ]
        refine wpAnyH_take (i := 29) (oi := ?oiz_29) (v := ?vz_29) ?hiz_29 (by kernel_rfl) (by kernel_rfl) (by kernel_rfl) ?hQz_29 (Or.inl ⟨?hwz_29, ?hyz_29⟩) (by assumption) ?_
        case hiz_29 => simp only [List.getElem?_toArray, List.getElem?_cons_succ, List.getElem?_cons_zero]; rfl
        case hQz_29 => exact fun _ _ _ h => h
        case hwz_29 => rfl
        case hyz_29 => intro w hSw; (try dsimp only at hSw); (first | (go_simp; done) | (go_simp; with_reducible rfl))
        try simp only [Act.put, List.setIfInBounds_toArray, List.set_cons_zero, List.set_cons_succ]
        refine wpAnyH_take (i := 30) (oi := ?oiz_30) (v := ?vz_30) ?hiz_30 (by kernel_rfl) (by kernel_rfl) (by kernel_rfl) ?hQz_30 (Or.inl ⟨?hwz_30, ?hyz_30⟩) (by assumption) ?_
        case hiz_30 => simp only [List.getElem?_toArray, List.getElem?_cons_succ, List.getElem?_cons_zero]; rfl
        case hQz_30 => exact fun _ _ _ h => h
        case hwz_30 => rfl
        case hyz_30 => intro w hSw; (try dsimp only at hSw); (first | (go_simp; done) | (go_simp; with_reducible rfl))
        try simp only [Act.put, List.setIfInBounds_toArray, List.set_cons_zero, List.set_cons_succ]
        refine wpAnyH_take (i := 31) (oi := ?oiz_31) (v := ?vz_31) ?hiz_31 (by kernel_rfl) (by kernel_rfl) (by kernel_rfl) ?hQz_31 (Or.inl ⟨?hwz_31, ?hyz_31⟩) (by assumption) ?_
        case hiz_31 => simp only [List.getElem?_toArray, List.getElem?_cons_succ, List.getElem?_cons_zero]; rfl
        case hQz_31 => exact fun _ _ _ h => h
        case hwz_31 => rfl
        case hyz_31 => intro w hSw; (try dsimp only at hSw); (first | (go_simp; done) | (go_simp; with_reducible rfl))
        try simp only [Act.put, List.setIfInBounds_toArray, List.set_cons_zero, List.set_cons_succ]
        refine wpAnyH_take (i := 34) (oi := ?oiz_34) (v := ?vz_34) ?hiz_34 (by kernel_rfl) (by kernel_rfl) (by kernel_rfl) ?hQz_34 (Or.inl ⟨?hwz_34, ?hyz_34⟩) (by assumption) ?_
        case hiz_34 => simp only [List.getElem?_toArray, List.getElem?_cons_succ, List.getElem?_cons_zero]; rfl
        case hQz_34 => exact fun _ _ _ h => h
        case hwz_34 => rfl
        case hyz_34 => intro w hSw; (try dsimp only at hSw); (first | (go_simp; done) | (go_simp; with_reducible rfl))
        try simp only [Act.put, List.setIfInBounds_toArray, List.set_cons_zero, List.set_cons_succ]
        refine wpAnyH_ready (rs := [32]) (by kernel_rfl) (by simp) ?_
        refine AllReadyH.cons (o := ?oiz_32) ?hiz_32 (fun K hK => ?_) AllReadyH.nil
        case hiz_32 => simp only [List.getElem?_toArray, List.getElem?_cons_succ, List.getElem?_cons_zero]; rfl
        go_simp
        go_at_call 43
        (with_reducible refine (KK.out _).mono ?_)
        rintro e wz ⟨rfl, bq⟩
        replace BB : Below wc.heap.size wc wz := BB.trans (bq.mono BB.size)
        replace LY := Nat.lt_of_lt_of_le LY bq.size
        replace LS := Nat.lt_of_lt_of_le LS bq.size
        clear bq
        refine hK.out _ _ ?_ (fun hHeld => ?_)
        · exact HG.out _ BB
        clear hK K
        try simp only [Act.put, List.setIfInBounds_toArray, List.set_cons_zero, List.set_cons_succ]
        refine wpAnyH_ready (rs := [33]) (by kernel_rfl) (by simp) ?_
        refine AllReadyH.cons (o := ?oiz_33) ?hiz_33 (fun K hK => ?_) AllReadyH.nil
        case hiz_33 => simp only [List.getElem?_toArray, List.getElem?_cons_succ, List.getElem?_cons_zero]; rfl
        go_simp
        go_at_call 42
        (with_reducible refine (KQ.out _).mono ?_)
        rintro e wz ⟨rfl, bq⟩
        replace BB : Below wc.heap.size wc wz := BB.trans (bq.mono BB.size)
        replace LY := Nat.lt_of_lt_of_le LY bq.size
        replace LS := Nat.lt_of_lt_of_le LS bq.size
        clear bq
        refine hK.out _ _ ?_ (fun hHeld => ?_)
        · exact HG.out _ BB
        clear hK K
        try simp only [Act.put, List.setIfInBounds_toArray, List.set_cons_zero, List.set_cons_succ]
        refine wpAnyH_take (i := 35) (oi := ?oiz_35) (v := ?vz_35) ?hiz_35 (by kernel_rfl) (by kernel_rfl) (by kernel_rfl) ?hQz_35 (Or.inl ⟨?hwz_35, ?hyz_35⟩) (by assumption) ?_
        case hiz_35 => simp only [List.getElem?_toArray, List.getElem?_cons_succ, List.getElem?_cons_zero]; rfl
        case hQz_35 => exact fun _ _ _ h => h
        case hwz_35 => rfl
        case hyz_35 => intro w hSw; (try dsimp only at hSw); (first | (go_simp; done) | (go_simp; with_reducible rfl))
        try simp only [Act.put, List.setIfInBounds_toArray, List.set_cons_zero, List.set_cons_succ]
        refine wpAnyH_take (i := 36) (oi := ?oiz_36) (v := ?vz_36) ?hiz_36 (by kernel_rfl) (by kernel_rfl) (by kernel_rfl) ?hQz_36 (Or.inl ⟨?hwz_36, ?hyz_36⟩) (by assumption) ?_
        case hiz_36 => simp only [List.getElem?_toArray, List.getElem?_cons_succ, List.getElem?_cons_zero]; rfl
        case hQz_36 => exact fun _ _ _ h => h
        case hwz_36 => rfl
        case hyz_36 => intro w hSw; (try dsimp only at hSw); (first | (go_simp; done) | (go_simp; with_reducible rfl))
        try simp only [Act.put, List.setIfInBounds_toArray, List.set_cons_zero, List.set_cons_succ]
        refine wpAnyH_take (i := 37) (oi := ?oiz_37) (v := ?vz_37) ?hiz_37 (by kernel_rfl) (by kernel_rfl) (by kernel_rfl) ?hQz_37 (Or.inl ⟨?hwz_37, ?hyz_37⟩) (by assumption) ?_
        case hiz_37 => simp only [List.getElem?_toArray, List.getElem?_cons_succ, List.getElem?_cons_zero]; rfl
        case hQz_37 => exact fun _ _ _ h => h
        case hwz_37 => rfl
        case hyz_37 => intro w hSw; (try dsimp only at hSw); (first | (go_simp; done) | (go_simp; with_reducible rfl))
        try simp only [Act.put, List.setIfInBounds_toArray, List.set_cons_zero, List.set_cons_succ]
        refine wpAnyH_take (i := 38) (oi := ?oiz_38) (v := ?vz_38) ?hiz_38 (by kernel_rfl) (by kernel_rfl) (by kernel_rfl) ?hQz_38 (Or.inl ⟨?hwz_38, ?hyz_38⟩) (by assumption) ?_
        case hiz_38 => simp only [List.getElem?_toArray, List.getElem?_cons_succ, List.getElem?_cons_zero]; rfl
        case hQz_38 => exact fun _ _ _ h => h
        case hwz_38 => rfl
        case hyz_38 => intro w hSw; (try dsimp only at hSw); (first | (go_simp; done) | (go_simp; with_reducible rfl))
        try simp only [Act.put, List.setIfInBounds_toArray, List.set_cons_zero, List.set_cons_succ]
        refine wpAnyH_take (i := 40) (oi := ?oiz_40) (v := ?vz_40) ?hiz_40 (by kernel_rfl) (by kernel_rfl) (by kernel_rfl) ?hQz_40 (Or.inl ⟨?hwz_40, ?hyz_40⟩) (by assumption) ?_
        case hiz_40 => simp only [List.getElem?_toArray, List.getElem?_cons_succ, List.getElem?_cons_zero]; rfl
        case hQz_40 => exact fun _ _ _ h => h
        case hwz_40 => rfl
        case hyz_40 => intro w hSw; (try dsimp only at hSw); (first | (go_simp; done) | (go_simp; with_reducible rfl))
        try simp only [Act.put, List.setIfInBounds_toArray, List.set_cons_zero, List.set_cons_succ]
        refine wpAnyH_take (i := 41) (oi := ?oiz_41) (v := ?vz_41) ?hiz_41 (by kernel_rfl) (by kernel_rfl) (by kernel_rfl) ?hQz_41 (Or.inl ⟨?hwz_41, ?hyz_41⟩) (by assumption) ?_
        case hiz_41 => simp only [List.getElem?_toArray, List.getElem?_cons_succ, List.getElem?_cons_zero]; rfl
        case hQz_41 => exact fun _ _ _ h => h
        case hwz_41 => rfl
        case hyz_41 => intro w hSw; (try dsimp only at hSw); (first | (go_simp; done) | (go_simp; with_reducible rfl))
        try simp only [Act.put, List.setIfInBounds_toArray, List.set_cons_zero, List.set_cons_succ]
        refine wpAnyH_take (i := 42) (oi := ?oiz_42) (v := ?vz_42) ?hiz_42 (by kernel_rfl) (by kernel_rfl) (by kernel_rfl) ?hQz_42 (Or.inl ⟨?hwz_42, ?hyz_42⟩) (by assumption) ?_
        case hiz_42 => simp only [List.getElem?_toArray, List.getElem?_cons_succ, List.getElem?_cons_zero]; rfl
        case hQz_42 => exact fun _ _ _ h => h
        case hwz_42 => rfl
        case hyz_42 => intro w hSw; (try dsimp only at hSw); (first | (go_simp; done) | (go_simp; with_reducible rfl))
        try simp only [Act.put, List.setIfInBounds_toArray, List.set_cons_zero, List.set_cons_succ]
        refine wpAnyH_ready (rs := [39]) (by kernel_rfl) (by simp) ?_
        refine AllReadyH.cons (o := ?oiz_39) ?hiz_39 (fun K hK => ?_) AllReadyH.nil
        case hiz_39 => simp only [List.getElem?_toArray, List.getElem?_cons_succ, List.getElem?_cons_zero]; rfl
        go_simp
        go_at_call 41
        (with_reducible refine (KD.out _).mono ?_)
        rintro e wz ⟨rfl, bq⟩
        replace BB : Below wc.heap.size wc wz := BB.trans (bq.mono BB.size)
        replace LY := Nat.lt_of_lt_of_le LY bq.size
        replace LS := Nat.lt_of_lt_of_le LS bq.size
        clear bq
        refine hK.out _ _ ?_ (fun hHeld => ?_)
        · exact HG.out _ BB
        clear hK K
        try simp only [Act.put, List.setIfInBounds_toArray, List.set_cons_zero, List.set_cons_succ]
        refine wpAnyH_ready (rs := [43]) (by kernel_rfl) (by simp) ?_
        refine AllReadyH.cons (o := ?oiz_43) ?hiz_43 (fun K hK => ?_) AllReadyH.nil
        case hiz_43 => simp only [List.getElem?_toArray, List.getElem?_cons_succ, List.getElem?_cons_zero]; rfl
        go_simp
        go_at_call 44
        (with_reducible refine (KS.out _ (R7.out _ BB)).mono ?_)
        rintro e wz ⟨rfl, bq⟩
        replace BB : Below wc.heap.size wc wz := BB.trans (bq.mono BB.size)
        replace LY := Nat.lt_of_lt_of_le LY bq.size
        replace LS := Nat.lt_of_lt_of_le LS bq.size
        clear bq
        refine hK.out _ _ ?_ (fun hHeld => ?_)
        · exact HG.out _ BB
        clear hK K
        try simp only [Act.put, List.setIfInBounds_toArray, List.set_cons_zero, List.set_cons_succ]
        refine wpAnyH_ready (rs := [44]) (by kernel_rfl) (by simp) ?_
        refine AllReadyH.cons (o := ?oiz_44) ?hiz_44 (fun K hK => ?_) AllReadyH.nil
        case hiz_44 => simp only [List.getElem?_toArray, List.getElem?_cons_succ, List.getElem?_cons_zero]; rfl
        go_simp
        go_at_call 40
        (with_reducible refine (KV2.out _ (R7.out _ BB)).mono ?_)
        rintro e wz ⟨rfl, bq⟩
        replace BB : Below wc.heap.size wc wz := BB.trans (bq.mono BB.size)
        replace LY := Nat.lt_of_lt_of_le LY bq.size
        replace LS := Nat.lt_of_lt_of_le LS bq.size
        clear bq
        refine hK.out _ _ ?_ (fun hHeld => ?_)
        · exact HG.out _ BB
        clear hK K
        try simp only [Act.put, List.setIfInBounds_toArray, List.set_cons_zero, List.set_cons_succ]
        refine wpAnyH_take (i := 45) (oi := ?oiz_45) (v := ?vz_45) ?hiz_45 (by kernel_rfl) (by kernel_rfl) (by kernel_rfl) ?hQz_45 (Or.inl ⟨?hwz_45, ?hyz_45⟩) (by assumption) ?_
        case hiz_45 => simp only [List.getElem?_toArray, List.getElem?_cons_succ, List.getElem?_cons_zero]; rfl
        case hQz_45 => exact fun _ _ _ h => h
        case hwz_45 => rfl
        case hyz_45 => intro w hSw; (try dsimp only at hSw); (first | (go_simp; done) | (go_simp; with_reducible rfl))
        try simp only [Act.put, List.setIfInBounds_toArray, List.set_cons_zero, List.set_cons_succ]
        refine wpAnyH_take (i := 46) (oi := ?oiz_46) (v := ?vz_46) ?hiz_46 (by kernel_rfl) (by kernel_rfl) (by kernel_rfl) ?hQz_46 (Or.inl ⟨?hwz_46, ?hyz_46⟩) (by assumption) ?_
        case hiz_46 => simp only [List.getElem?_toArray, List.getElem?_cons_succ, List.getElem?_cons_zero]; rfl
        case hQz_46 => exact fun _ _ _ h => h
        case hwz_46 => rfl
        case hyz_46 => intro w hSw; (try dsimp only at hSw); (first | (go_simp; done) | (go_simp; with_reducible rfl))
        try simp only [Act.put, List.setIfInBounds_toArray, List.set_cons_zero, List.set_cons_succ]
        refine wpAnyH_take (i := 47) (oi := ?oiz_47) (v := ?vz_47) ?hiz_47 (by kernel_rfl) (by kernel_rfl) (by kernel_rfl) ?hQz_47 (Or.inl ⟨?hwz_47, ?hyz_47⟩) (by assumption) ?_
        case hiz_47 => simp only [List.getElem?_toArray, List.getElem?_cons_succ, List.getElem?_cons_zero]; rfl
        case hQz_47 => exact fun _ _ _ h => h
        case hwz_47 => rfl
        case hyz_47 => intro w hSw; (try dsimp only at hSw); (first | (go_simp; done) | (go_simp; with_reducible rfl))
        try simp only [Act.put, List.setIfInBounds_toArray, List.set_cons_zero, List.set_cons_succ]
        refine wpAnyH_take (i := 49) (oi := ?oiz_49) (v := ?vz_49) ?hiz_49 (by kernel_rfl) (by kernel_rfl) (by kernel_rfl) ?hQz_49 (Or.inl ⟨?hwz_49, ?hyz_49⟩) (by assumption) ?_
        case hiz_49 => simp only [List.getElem?_toArray, List.getElem?_cons_succ, List.getElem?_cons_zero]; rfl
        case hQz_49 => exact fun _ _ _ h => h
        case hwz_49 => rfl
        case hyz_49 => intro w hSw; (try dsimp only at hSw); (first | (go_simp; done) | (go_simp; with_reducible rfl))
        try simp only [Act.put, List.setIfInBounds_toArray, List.set_cons_zero, List.set_cons_succ]
        refine wpAnyH_ready (rs := [48]) (by kernel_rfl) (by simp) ?_
        refine AllReadyH.cons (o := ?oiz_48) ?hiz_48 (fun K hK => ?_) AllReadyH.nil
        case hiz_48 => simp only [List.getElem?_toArray, List.getElem?_cons_succ, List.getElem?_cons_zero]; rfl
        go_simp
        go_at_call 45
        (with_reducible refine (C10i.implClone _ x _ (st_rds _ _ x)).mono ?_)
        rintro e wz ⟨v_z, s_z, rfl, o_z, n_z, bq⟩
        obtain ⟨rfl, -⟩ := KeyStore.owns o_z
        clear o_z n_z
        replace BB : Below wc.heap.size wc wz := BB.trans (bq.mono BB.size)
        replace LY := Nat.lt_of_lt_of_le LY bq.size
        replace LS := Nat.lt_of_lt_of_le LS bq.size
        clear bq
        refine hK.out _ _ ?_ (fun hHeld => ?_)
        · exact HG.out _ BB
        clear hK K
        try simp only [Act.put, List.setIfInBounds_toArray, List.set_cons_zero, List.set_cons_succ]
        refine wpAnyH_take (i := 50) (oi := ?oiz_50) (v := ?vz_50) ?hiz_50 (by kernel_rfl) (by kernel_rfl) (by kernel_rfl) ?hQz_50 (Or.inl ⟨?hwz_50, ?hyz_50⟩) (by assumption) ?_
        case hiz_50 => simp only [List.getElem?_toArray, List.getElem?_cons_succ, List.getElem?_cons_zero]; rfl
        case hQz_50 => exact fun _ _ _ h => h
        case hwz_50 => rfl
        case hyz_50 => intro w hSw; (try dsimp only at hSw); (first | (go_simp; done) | (go_simp; with_reducible rfl))
        try simp only [Act.put, List.setIfInBounds_toArray, List.set_cons_zero, List.set_cons_succ]
        refine wpAnyH_take (i := 51) (oi := ?oiz_51) (v := ?vz_51) ?hiz_51 (by kernel_rfl) (by kernel_rfl) (by kernel_rfl) ?hQz_51 (Or.inl ⟨?hwz_51, ?hyz_51⟩) (by assumption) ?_
        case hiz_51 => simp only [List.getElem?_toArray, List.getElem?_cons_succ, List.getElem?_cons_zero]; rfl
        case hQz_51 => exact fun _ _ _ h => h
        case hwz_51 => rfl
        case hyz_51 => intro w hSw; (try dsimp only at hSw); (first | (go_simp; done) | (go_simp; with_reducible rfl))
        try simp only [Act.put, List.setIfInBounds_toArray, List.set_cons_zero, List.set_cons_succ]
        refine wpAnyH_take (i := 52) (oi := ?oiz_52) (v := ?vz_52) ?hiz_52 (by kernel_rfl) (by kernel_rfl) (by kernel_rfl) ?hQz_52 (Or.inl ⟨?hwz_52, ?hyz_52⟩) (by assumption) ?_
        case hiz_52 => simp only [List.getElem?_toArray, List.getElem?_cons_succ, List.getElem?_cons_zero]; rfl
        case hQz_52 => exact fun _ _ _ h => h
        case hwz_52 => rfl
        case hyz_52 => intro w hSw; (try dsimp only at hSw); (first | (go_simp; done) | (go_simp; with_reducible rfl))
        try simp only [Act.put, List.setIfInBounds_toArray, List.set_cons_zero, List.set_cons_succ]
        refine wpAnyH_done (by kernel_rfl) ?_ _
        clear hwr
        go_wp2
        go_ret
        have h1 := HB.trans (B0.mono HB.size)
        exact ⟨rfl, h1.trans (BB.mono h1.size)⟩
set_option maxRecDepth 100000 in
theorem walk (v0 : Value) (W : World) {H : Type} {enc : TypeId × Value → H} {b0 : Nat} {d0 : DataW H} {p0 : List MemPlace} (hv0 : Value.okWide Try.prog W .any b0 22 v0) (ht0 : DataW.Trod enc Try.prog W 0 (fun _ => true) true 22 v0 d0 p0) :
    Calls Try.prog 10 #[v0] W fun e w' => e = .returned (.bool true) ∧ Below W.heap.size W w' := by
  obtain ⟨A0, n0, c0, xs0, rfl, hr0, hm0, hx0⟩ := So.bytes hv0 ht0
  unfold maxLen at hm0
  by_cases hl : 1048576 < n0
  · clear hv0 ht0 hr0
    go_enter Try.func10, Try.ntmps10
    go_wp2_with fail
    (with_reducible refine (Cd.big_yes A0 n0 c0 _ (by omega) hl).mono ?_); rintro e w0 ⟨rfl, rfl⟩
    go_wp2
    go_ret
    exact ⟨rfl, Below.refl _ _⟩
  · exact walkSmall A0 n0 c0 hl W (D2.code_of hr0 hx0 (by omega))

set_option maxRecDepth 100000 in
theorem contract (H : Type) (enc : TypeId × Value → H) (W : World) (base : Nat) (args : Array Value) (ds gs : List (DataW H)) (before : List MemPlace)
    (hval : ∀ (j : Nat) t v, Try.f10.params[j]? = some t → args[j]? = some v → Value.okWide Try.prog W .any base t v)
    (hW : DataW.Whole enc Try.prog Try.f10.params.toList Rows.fnKeyStoresSpec.vars false W args.toList ds gs before) :
    Calls Try.prog 10 args W fun e W' => ∃ v, e = .returned v ∧ Rows.fnKeyStoresSpec.post enc Try.prog Try.f10 false true false false W args v W' := by
  have hW' := hW
  obtain ⟨p, q, hA0, hV, rfl, hfz, hnd⟩ := hW
  have hA : DataW.TrodAll enc Try.prog W 0 (fun _ => true) true Try.f10.params.toList args.toList ds p := hA0
  rw [Try.params10] at hA hval
  obtain ⟨v0, vs0, d0, ds0, p0, q0, hargs, rfl, rfl, h0, r0⟩ := trodAll_cons hA
  obtain ⟨rfl, rfl, rfl⟩ := trodAll_nil r0
  obtain rfl : args = #[v0] := by cases args; simp_all
  obtain ⟨rfl, rfl⟩ := trodVars_none hV
  clear hA0
  refine Fr.closeLaw rfl (by kernel_rfl) (by rw [Try.params10]; decide) hW' rfl ?_
  exact walk v0 W (hval 0 22 v0 rfl rfl) h0

set_option maxRecDepth 100000 in
theorem reads (os : Os) {H : Type} (enc : TypeId × Value → H) : ∃ places, DataW.whole enc Try.prog ((World.holding Try.prog os ⟨#[], #[], []⟩).forCall (fun _ _ => 0) ⟨#[], #[.slice none 0 0], []⟩).memory Try.f10.params.toList Rows.fnKeyStoresSpec.vars false (#[.slice none 0 0] : Array Value).toList 8 = some ([.nil], [], places) :=
  ⟨[], by kernel_rfl⟩
set_option maxRecDepth 100000 in
theorem lifted (os : Os) (started : os.Started) (H : Type) (enc : TypeId × Value → H) (F : Stop.Interp) :
    ReturnsInHanded {} Try.checked os 10 .any ((OpenSpec.ofChange Rows.fnKeyStoresSpec).preRow enc Try.prog Try.f10 Rows.fnKeyStoresRow.domain false Rows.fnKeyStoresRow.laid) (((OpenSpec.ofChange Rows.fnKeyStoresSpec).at F).post enc Try.prog Try.f10 false true false false) := by
  obtain ⟨places, hx⟩ := reads os enc
  refine returnsInHanded_of_row (C := Try.checked) (s := OpenSpec.ofChange Rows.fnKeyStoresSpec) Fr.own started (by kernel_rfl) Try.func10
    (witness_row_atRef (enc := enc) (C := Try.checked) false (World.holding Try.prog os ⟨#[], #[], []⟩) #[.slice none 0 0] rfl (by kernel_rfl) (by kernel_rfl) (by kernel_rfl)
      (OpenSpec.preRow_of_cond 8 hx (by kernel_rfl) (fun k hk => by cases hk) (by kernel_rfl) (laidMetH_nil _ _))) ?_
  intro W base args ds gs before hval hW _ hcond _ hL _ _
  exact contract H enc W base args ds gs before hval hW
set_option maxRecDepth 100000 in
theorem said : Rows.FnKeyStoresSaid :=
  OpenClaim.holds_of_cond 10 Try.f10 rfl rfl rfl rfl rfl rfl rfl ⟨rfl, rfl, rfl, rfl, rfl⟩ rfl rfl rfl rfl rfl (by kernel_rfl) Try.func10 (by kernel_rfl)
    (of_decide_eq_true (by kernel_rfl)) (by unfold Func.isWrapper; first | (rw [if_pos (by decide +kernel)]; kernel_rfl) | (rw [if_neg (by decide +kernel)]; exact ⟨rfl, rfl⟩))
    (fun os started H enc _ F => by rw [OpenClaim.pre_eq_preRow]; exact lifted os started H enc F)
theorem proved : Rows.FnKeyStoresSaid := said
#print axioms proved
end Go.Proofs.Ytpeagjpcdoegoaa.fnKeyStores
