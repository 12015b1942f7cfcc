/-
  Contracts of chapter 11's attestations, of the program.
-/
import Derived.Test.YtpeagjpcdoegoaaC11b
import Derived.Test.YtpeagjpcdoegoaaC11c
import Derived.Test.YtpeagjpcdoegoaaC10i
import Derived.Test.YtpeagjpcdoegoaaC6i
import Derived.Test.YtpeagjpcdoegoaaSi
import Derived.Test.YtpeagjpcdoegoaaVn
import Derived.Deep.RegionHeld3
import Derived.Deep.DeepCutAuto
namespace Go.Proofs.Ytpeagjpcdoegoaa.C11i
open Go.ChangeShapes Go.WideShapes Go.ChangeAt Go.RowKit
open S0 S1 S9 Dm Fx M3 M8 C3 C6 C10 C11 C11b C11c
set_option linter.unusedVariables false
set_option linter.unusedSimpArgs false
set_option maxRecDepth 100000
theorem vsg_own {k : Int} (h : key k) (m : List Int) (s : Int) : vsg (pub k) m s = (sgn k m == s) := by
  unfold vsg
  rw [if_pos (pub_key h), prv_pub h]
set_option maxHeartbeats 1600000 in
theorem implVpr (w : World) (m v : Int) (m0 : -9223372036854775808 ≤ m) (m1 : m ≤ 9223372036854775807) (v0 : -9223372036854775808 ≤ v) (v1 : v ≤ 9223372036854775807) : Calls Try.prog 22 #[.int .i64 m, .int .i64 v] w (Gives (.int .i64 (vpr m v)) w) := by
  have HO := Lib.hid (show okInts [191, v] from (okInts.one (x := 191) (by omega) (by omega)).app (okInts.one v0 v1))
  go_enter Try.func22, Try.ntmps22
  go_wp2_with fail
  obtain ⟨w1, hw1⟩ : ∃ ww, ww = w.alloc (.cells #[.int .i64 191, .int .i64 v] 3) := ⟨_, rfl⟩
  have o_R7 : (w.alloc (.cells #[.int .i64 191, .int .i64 v] 3)).ownsRow w.heap.size 3 1 (.slice (some ⟨w.heap.size, 0, none⟩) 2 2) 2 (ints .i64 [191, v]) := C6.own_ints w [191, v] 2 rfl (by omega)
  have bw1 : Below w.heap.size w w1 := hw1 ▸ (Below.refl _ _).alloc (Nat.le_refl _) _
  have sw1 : w1.heap.size = w.heap.size + 1 := by rw [hw1]; simp
  rw [← hw1] at o_R7 ⊢
  have zw1 : w.heap.size < w1.heap.size := by omega
  have HB := bw1
  have i_R7 := o_R7.lt
  clear hw1
  clear sw1
  (with_reducible refine (C6i.implDer w1 _ 2 2 [191, v] m m0 m1 (Rd.own o_R7) HO.out (by omega)).mono ?_); rintro e w2 ⟨rfl, bw2⟩
  replace o_R7 := own_below o_R7 bw2
  replace HB := HB.trans (bw2.mono HB.size)
  have zw2 := bw2.size
  go_wp2
  refine bodyPost_ret (v := .int .i64 (der m [191, v])) (by simp [results, Try.results22, go_sem]) rfl ?_
  exact ⟨rfl, HB⟩
set_option maxHeartbeats 1600000 in
theorem implSA (w : World) (m v s k : Int) (m0 : -9223372036854775808 ≤ m) (m1 : m ≤ 9223372036854775807) (v0 : -9223372036854775808 ≤ v) (v1 : v ≤ 9223372036854775807) (s0 : -9223372036854775808 ≤ s) (s1 : s ≤ 9223372036854775807) (k0 : -9223372036854775808 ≤ k) (k1 : k ≤ 9223372036854775807) :
    Calls Try.prog 51 #[.int .i64 m, .int .i64 v, .int .i64 s, .int .i64 k] w (Gives (.agg #[.int .i64 v, .int .i64 s, .int .i64 k, .int .i64 (sgn (vpr m v) (amsg v s k))]) w) := by
  have HO := Lib.hid (amsg_ok ⟨v0, v1⟩ ⟨s0, s1⟩ ⟨k0, k1⟩)
  obtain ⟨p, hp⟩ : ∃ p, p = vpr m v := ⟨_, rfl⟩
  have HP := Lib.hid hp
  clear hp
  go_enter Try.func51, Try.ntmps51
  go_wp2_with fail
  obtain ⟨w1, hw1⟩ : ∃ ww, ww = w.alloc (.cells #[.int .i64 0, .int .i64 0, .int .i64 0, .int .i64 0] 31) := ⟨_, rfl⟩
  have o_v8 := var_owns w 31 4 [.int .i64 0, .int .i64 0, .int .i64 0, .int .i64 0] rfl
  have bw1 : Below w.heap.size w w1 := hw1 ▸ (Below.refl _ _).alloc (Nat.le_refl _) _
  have sw1 : w1.heap.size = w.heap.size + 1 := by rw [hw1]; simp
  rw [← hw1] at o_v8 ⊢
  have zw1 : w.heap.size < w1.heap.size := by omega
  have HB := bw1
  clear hw1
  clear sw1
  (with_reducible refine (implVpr w1 m v m0 m1 v0 v1).mono ?_); rintro e w2 ⟨rfl, bw2⟩
  replace o_v8 := owns_below o_v8 bw2
  replace HB := HB.trans (bw2.mono HB.size)
  have zw2 := bw2.size
  rw [← HP.out]
  go_wp2_with fail
  obtain ⟨w3, hw3⟩ : ∃ ww, ww = w2.alloc (.cells #[.int .i64 193, .int .i64 v, .int .i64 s, .int .i64 k] 3) := ⟨_, rfl⟩
  have o_R16 : (w2.alloc (.cells #[.int .i64 193, .int .i64 v, .int .i64 s, .int .i64 k] 3)).ownsRow w2.heap.size 3 1 (.slice (some ⟨w2.heap.size, 0, none⟩) 4 4) 4 (ints .i64 [193, v, s, k]) := C6.own_ints w2 [193, v, s, k] 4 rfl (by omega)
  have bw3 : Below w2.heap.size w2 w3 := hw3 ▸ (Below.refl _ _).alloc (Nat.le_refl _) _
  have sw3 : w3.heap.size = w2.heap.size + 1 := by rw [hw3]; simp
  rw [← hw3] at o_R16 ⊢
  have zw3 : w2.heap.size < w3.heap.size := by omega
  replace o_v8 := owns_below o_v8 bw3
  replace HB := HB.trans (bw3.mono HB.size)
  have i_R16 := o_R16.lt
  clear hw3
  clear sw3
  (with_reducible refine (implSgn w3 _ 4 4 (amsg v s k) p (Rd.own o_R16) HO.out (by omega)).mono ?_); rintro e w4 ⟨rfl, bw4⟩
  replace o_v8 := owns_below o_v8 bw4
  replace o_R16 := own_below o_R16 bw4
  replace HB := HB.trans (bw4.mono HB.size)
  have zw4 := bw4.size
  obtain ⟨c_v80, f_v80, c_v81, f_v81, c_v82, f_v82, c_v83, f_v83, l_v8⟩ := Vn.v4 o_v8
  go_wp2
  clear c_v80 f_v80 c_v81 f_v81 c_v82 f_v82 c_v83 f_v83 l_v8
  obtain ⟨w5, hw5⟩ : ∃ ww, ww = ((((w4.setCell ⟨w.heap.size, 0, none⟩ (.int .i64 v)).setCell ⟨w.heap.size, 1, none⟩ (.int .i64 s)).setCell ⟨w.heap.size, 2, none⟩ (.int .i64 k)).setCell ⟨w.heap.size, 3, none⟩ (.int .i64 (sgn p (amsg v s k)))) := ⟨_, rfl⟩
  obtain ⟨o_new, tw5⟩ := var_some [.int .i64 v, .int .i64 s, .int .i64 k, .int .i64 (sgn p (amsg v s k))] 0 _ _ o_v8 (by simp)
  rw [show setAll w4 (w.heap.size) 0 [.int .i64 v, .int .i64 s, .int .i64 k, .int .i64 (sgn p (amsg v s k))] = w5 from hw5.symm] at o_new tw5
  replace o_v8 : Owns w5 _ (varD 31 4 [.int .i64 v, .int .i64 s, .int .i64 k, .int .i64 (sgn p (amsg v s k))]) _ _ := o_new
  clear o_new
  replace o_R16 := Vn.row_turned o_R16 tw5 (fun b hb hb2 => by have h1 := i_R16 b hb; simp at hb2; omega)
  replace HB := below_turned HB tw5 (fun b hb => by simp at hb; omega)
  have zw5 := tw5.2.2.2.1
  rw [← hw5]
  clear hw5
  have y_v8_0 : w5.cell? ⟨w.heap.size, 0, none⟩ = some (.int .i64 v) := var_load o_v8 (by simp) 0 _ rfl
  have y_v8_1 : w5.cell? ⟨w.heap.size, 1, none⟩ = some (.int .i64 s) := var_load o_v8 (by simp) 1 _ rfl
  have y_v8_2 : w5.cell? ⟨w.heap.size, 2, none⟩ = some (.int .i64 k) := var_load o_v8 (by simp) 2 _ rfl
  have y_v8_3 : w5.cell? ⟨w.heap.size, 3, none⟩ = some (.int .i64 (sgn p (amsg v s k))) := var_load o_v8 (by simp) 3 _ rfl
  refine bodyPost_ret (v := .agg #[.int .i64 v, .int .i64 s, .int .i64 k, .int .i64 (sgn p (amsg v s k))]) (by simp [results, Try.results51, go_sem, y_v8_0, y_v8_1, y_v8_2, y_v8_3]) rfl ?_
  exact ⟨by rw [HP.out], HB⟩
set_option maxHeartbeats 8000000 in
theorem implAtt (w : World) (m : Int) (x : Fx.KeyStore) (us : List Value) (h : RdsL w w.heap.size x.dcs us) (hx : x.ok) (m0 : -9223372036854775808 ≤ m) (m1 : m ≤ 9223372036854775807) :
    Calls Try.prog 15 #[.int .i64 m, .agg us.toArray] w (MadeLx (attX m x).dcs (fun vs => .tuple #[.agg vs.toArray, .bool (vst x)]) w) := by
  obtain rfl := KeyStore.rds h
  clear h
  have HX := Lib.hid hx
  clear hx
  cases hv : vst x with
  | false =>
    have HV := Lib.hid (fun wx : World => show Calls Try.prog 46 #[.agg #[.int .i64 x.Vendor, .int .i64 x.Serial, .int .i64 x.Seed, .int .i64 x.Counter]] wx (Gives (.bool false) wx) from by have h := C10i.implVst wx x _ (st_rds wx _ x); rw [hv] at h; exact h)
    have e1 : attX m x = ⟨0, 0, 0, 0⟩ := by unfold attX; rw [hv]; rfl
    rw [e1]
    clear e1 hv
    go_enter Try.func15, Try.ntmps15
    go_upto_region 1 with fail
    obtain ⟨w1, hw1⟩ : ∃ ww, ww = w.alloc (.cells #[.int .i64 x.Vendor, .int .i64 x.Serial, .int .i64 x.Seed, .int .i64 x.Counter] 29) := ⟨_, rfl⟩
    have o_v3 := var_owns w 29 4 [.int .i64 x.Vendor, .int .i64 x.Serial, .int .i64 x.Seed, .int .i64 x.Counter] rfl
    have bw1 : Below w.heap.size w w1 := hw1 ▸ (Below.refl _ _).alloc (Nat.le_refl _) _
    have sw1 : w1.heap.size = w.heap.size + 1 := by rw [hw1]; simp
    rw [← hw1] at o_v3 ⊢
    have zw1 : w.heap.size < w1.heap.size := by omega
    have HB := bw1
    clear hw1
    obtain ⟨w2, hw2⟩ : ∃ ww, ww = w1.alloc (.cells #[.int .i64 0, .int .i64 0, .int .i64 0, .int .i64 0] 31) := ⟨_, rfl⟩
    have o_v4 := var_owns w1 31 4 [.int .i64 0, .int .i64 0, .int .i64 0, .int .i64 0] rfl
    have bw2 : Below w1.heap.size w1 w2 := hw2 ▸ (Below.refl _ _).alloc (Nat.le_refl _) _
    have sw2 : w2.heap.size = w1.heap.size + 1 := by rw [hw2]; simp
    rw [← hw2] at o_v4 ⊢
    have qw2 : w1.heap.size = w.heap.size + 1 := by omega
    rw [qw2] at o_v4
    clear qw2
    have zw2 : w1.heap.size < w2.heap.size := by omega
    replace o_v3 := owns_below o_v3 bw2
    replace HB := HB.trans (bw2.mono HB.size)
    clear hw2
    clear sw1 sw2
    obtain ⟨c_v30, f_v30, c_v31, f_v31, c_v32, f_v32, c_v33, f_v33, l_v3⟩ := Vn.v4 o_v3
    go_wp2_with fail
    clear c_v30 f_v30 c_v31 f_v31 c_v32 f_v32 c_v33 f_v33 l_v3
    (refine (HV.out w2).mono ?_); rintro e w3 ⟨rfl, bw3⟩
    replace o_v3 := owns_below o_v3 bw3
    replace o_v4 := owns_below o_v4 bw3
    replace HB := HB.trans (bw3.mono HB.size)
    have zw3 := bw3.size
    obtain ⟨c_v40, f_v40, c_v41, f_v41, c_v42, f_v42, c_v43, f_v43, l_v4⟩ := Vn.v4 o_v4
    go_wp2
    clear c_v40 f_v40 c_v41 f_v41 c_v42 f_v42 c_v43 f_v43 l_v4
    obtain ⟨w4, hw4⟩ : ∃ ww, ww = ((((w3.setCell ⟨(w.heap.size + 1), 0, none⟩ (.int .i64 0)).setCell ⟨(w.heap.size + 1), 1, none⟩ (.int .i64 0)).setCell ⟨(w.heap.size + 1), 2, none⟩ (.int .i64 0)).setCell ⟨(w.heap.size + 1), 3, none⟩ (.int .i64 0)) := ⟨_, rfl⟩
    obtain ⟨o_new, tw4⟩ := var_some [.int .i64 0, .int .i64 0, .int .i64 0, .int .i64 0] 0 _ _ o_v4 (by simp)
    rw [show setAll w3 ((w.heap.size + 1)) 0 [.int .i64 0, .int .i64 0, .int .i64 0, .int .i64 0] = w4 from hw4.symm] at o_new tw4
    replace o_v4 : Owns w4 _ (varD 31 4 [.int .i64 0, .int .i64 0, .int .i64 0, .int .i64 0]) _ _ := o_new
    clear o_new
    replace o_v3 := owns_turned o_v3 tw4 (fun b hb hb2 => by simp at hb hb2; omega)
    replace HB := below_turned HB tw4 (fun b hb => by simp at hb; omega)
    have zw4 := tw4.2.2.2.1
    rw [← hw4]
    clear hw4
    have y_v4_0 : w4.cell? ⟨(w.heap.size + 1), 0, none⟩ = some (.int .i64 0) := var_load o_v4 (by simp) 0 _ rfl
    have y_v4_1 : w4.cell? ⟨(w.heap.size + 1), 1, none⟩ = some (.int .i64 0) := var_load o_v4 (by simp) 1 _ rfl
    have y_v4_2 : w4.cell? ⟨(w.heap.size + 1), 2, none⟩ = some (.int .i64 0) := var_load o_v4 (by simp) 2 _ rfl
    have y_v4_3 : w4.cell? ⟨(w.heap.size + 1), 3, none⟩ = some (.int .i64 0) := var_load o_v4 (by simp) 3 _ rfl
    refine bodyPost_ret (v := .tuple #[.agg #[.int .i64 0, .int .i64 0, .int .i64 0, .int .i64 0], .bool false]) (by simp [results, Try.results15, go_sem, y_v4_0, y_v4_1, y_v4_2, y_v4_3]) rfl ?_
    exact made_at ⟨0, 0, 0, 0⟩ false HB
  | true =>
    have HV := Lib.hid (fun wx : World => show Calls Try.prog 46 #[.agg #[.int .i64 x.Vendor, .int .i64 x.Serial, .int .i64 x.Seed, .int .i64 x.Counter]] wx (Gives (.bool true) wx) from by have h := C10i.implVst wx x _ (st_rds wx _ x); rw [hv] at h; exact h)
    obtain ⟨D, hD⟩ : ∃ D, D = pub (devP x) := ⟨_, rfl⟩
    obtain ⟨sg, hsg⟩ : ∃ sg, sg = sgn (vpr m x.Vendor) (amsg x.Vendor x.Serial D) := ⟨_, rfl⟩
    have e1 : attX m x = ⟨x.Vendor, x.Serial, D, sg⟩ := by unfold attX; rw [hv, hsg, hD]; rfl
    rw [e1]
    clear e1 hv
    have hDr : -9223372036854775808 ≤ D ∧ D ≤ 9223372036854775807 := by have := pub_in (devP x); omega
    have HD := Lib.hid (fun wx : World => show Calls Try.prog 41 #[.agg #[.int .i64 x.Vendor, .int .i64 x.Serial, .int .i64 x.Seed, .int .i64 x.Counter]] wx (Gives (.int .i64 D) wx) from by rw [hD]; exact C10i.implDevPub wx x _ (st_rds wx _ x) HX.out)
    have HS := Lib.hid (fun wx : World => show Calls Try.prog 51 #[.int .i64 m, .int .i64 x.Vendor, .int .i64 x.Serial, .int .i64 D] wx (Gives (.agg #[.int .i64 x.Vendor, .int .i64 x.Serial, .int .i64 D, .int .i64 sg]) wx) from by
      rw [hsg]; exact implSA wx m x.Vendor x.Serial D m0 m1 HX.out.Vendor.1 HX.out.Vendor.2 HX.out.Serial.1 HX.out.Serial.2 hDr.1 hDr.2)
    clear hD hsg hDr
    go_enter Try.func15, Try.ntmps15
    go_upto_region 1 with fail
    obtain ⟨w1, hw1⟩ : ∃ ww, ww = w.alloc (.cells #[.int .i64 x.Vendor, .int .i64 x.Serial, .int .i64 x.Seed, .int .i64 x.Counter] 29) := ⟨_, rfl⟩
    have o_v3 := var_owns w 29 4 [.int .i64 x.Vendor, .int .i64 x.Serial, .int .i64 x.Seed, .int .i64 x.Counter] rfl
    have bw1 : Below w.heap.size w w1 := hw1 ▸ (Below.refl _ _).alloc (Nat.le_refl _) _
    have sw1 : w1.heap.size = w.heap.size + 1 := by rw [hw1]; simp
    rw [← hw1] at o_v3 ⊢
    have zw1 : w.heap.size < w1.heap.size := by omega
    have HB := bw1
    clear hw1
    obtain ⟨w2, hw2⟩ : ∃ ww, ww = w1.alloc (.cells #[.int .i64 0, .int .i64 0, .int .i64 0, .int .i64 0] 31) := ⟨_, rfl⟩
    have o_v4 := var_owns w1 31 4 [.int .i64 0, .int .i64 0, .int .i64 0, .int .i64 0] rfl
    have bw2 : Below w1.heap.size w1 w2 := hw2 ▸ (Below.refl _ _).alloc (Nat.le_refl _) _
    have sw2 : w2.heap.size = w1.heap.size + 1 := by rw [hw2]; simp
    rw [← hw2] at o_v4 ⊢
    have qw2 : w1.heap.size = w.heap.size + 1 := by omega
    rw [qw2] at o_v4
    clear qw2
    have zw2 : w1.heap.size < w2.heap.size := by omega
    replace o_v3 := owns_below o_v3 bw2
    replace HB := HB.trans (bw2.mono HB.size)
    clear hw2
    clear sw1 sw2
    obtain ⟨c_v30, f_v30, c_v31, f_v31, c_v32, f_v32, c_v33, f_v33, l_v3⟩ := Vn.v4 o_v3
    go_wp2_with fail
    clear c_v30 f_v30 c_v31 f_v31 c_v32 f_v32 c_v33 f_v33 l_v3
    (refine (HV.out w2).mono ?_); rintro e w3 ⟨rfl, bw3⟩
    replace o_v3 := owns_below o_v3 bw3
    replace o_v4 := owns_below o_v4 bw3
    replace HB := HB.trans (bw3.mono HB.size)
    have zw3 := bw3.size
    go_wp2_with fail
    obtain ⟨w4, hw4⟩ : ∃ ww, ww = w3.drew := ⟨_, rfl⟩
    have bw4 : Below w3.heap.size w3 w4 := hw4 ▸ drewN_below w3 1 _
    replace o_v3 := owns_below o_v3 bw4
    replace o_v4 := owns_below o_v4 bw4
    replace HB := HB.trans (bw4.mono HB.size)
    have zw4 := bw4.size
    refine wp_region_held_drew (S := (fun (wx : World) => wx.cell? ⟨w.heap.size, 0, none⟩ = some (.int .i64 x.Vendor) ∧ wx.cell? ⟨w.heap.size, 1, none⟩ = some (.int .i64 x.Serial) ∧ wx.cell? ⟨w.heap.size, 2, none⟩ = some (.int .i64 x.Seed) ∧ wx.cell? ⟨w.heap.size, 3, none⟩ = some (.int .i64 x.Counter))) (by kernel_rfl) ?_ (fun hHeld => ?_)
    · rw [← hw4]; exact ⟨var_load o_v3 (by simp) 0 _ rfl, var_load o_v3 (by simp) 1 _ rfl, var_load o_v3 (by simp) 2 _ rfl, var_load o_v3 (by simp) 3 _ rfl⟩
    rw [← hw4] at hHeld ⊢
    clear hw4
    refine wpAnyH_take (i := 0) (oi := ?oix1__0_1) (v := ?vx1__0_1) ?hix1__0_1 (by kernel_rfl) (by kernel_rfl) (by kernel_rfl) ?hQx1__0_1 (Or.inl ⟨?hwx1__0_1, ?hyx1__0_1⟩) (by assumption) ?_
    case hix1__0_1 => simp only [List.getElem?_toArray, List.getElem?_cons_zero]; rfl
    case hQx1__0_1 => exact fun _ _ _ h => h
    case hwx1__0_1 => rfl
    case hyx1__0_1 => intro w hSw; (try dsimp only at hSw); (first | (go_simp; done) | (go_simp; with_reducible rfl))
    try simp only [Act.put, List.setIfInBounds_toArray, List.set_cons_zero, List.set_cons_succ]
    refine wpAnyH_take (i := 1) (oi := ?oix1__1_2) (v := ?vx1__1_2) ?hix1__1_2 (by kernel_rfl) (by kernel_rfl) (by kernel_rfl) ?hQx1__1_2 (Or.inl ⟨?hwx1__1_2, ?hyx1__1_2⟩) (by assumption) ?_
    case hix1__1_2 => simp only [List.getElem?_toArray, List.getElem?_cons_succ, List.getElem?_cons_zero]; rfl
    case hQx1__1_2 => exact fun _ _ _ h => h
    case hwx1__1_2 => rfl
    case hyx1__1_2 => intro w hSw; (try dsimp only at hSw); (first | (go_simp; done) | (go_simp; with_reducible rfl))
    try simp only [Act.put, List.setIfInBounds_toArray, List.set_cons_zero, List.set_cons_succ]
    refine wpAnyH_take (i := 2) (oi := ?oix1__2_3) (v := ?vx1__2_3) ?hix1__2_3 (by kernel_rfl) (by kernel_rfl) (by kernel_rfl) ?hQx1__2_3 (Or.inl ⟨?hwx1__2_3, ?hyx1__2_3⟩) (by assumption) ?_
    case hix1__2_3 => simp only [List.getElem?_toArray, List.getElem?_cons_succ, List.getElem?_cons_zero]; rfl
    case hQx1__2_3 => exact fun _ _ _ h => h
    case hwx1__2_3 => rfl
    case hyx1__2_3 => intro w hSw; (try dsimp only at hSw); (first | (go_simp; done) | (go_simp; with_reducible rfl))
    try simp only [Act.put, List.setIfInBounds_toArray, List.set_cons_zero, List.set_cons_succ]
    refine wpAnyH_take (i := 3) (oi := ?oix1__3_4) (v := ?vx1__3_4) ?hix1__3_4 (by kernel_rfl) (by kernel_rfl) (by kernel_rfl) ?hQx1__3_4 (Or.inl ⟨?hwx1__3_4, ?hyx1__3_4⟩) (by assumption) ?_
    case hix1__3_4 => simp only [List.getElem?_toArray, List.getElem?_cons_succ, List.getElem?_cons_zero]; rfl
    case hQx1__3_4 => exact fun _ _ _ h => h
    case hwx1__3_4 => rfl
    case hyx1__3_4 => intro w hSw; (try dsimp only at hSw); (first | (go_simp; done) | (go_simp; with_reducible rfl))
    try simp only [Act.put, List.setIfInBounds_toArray, List.set_cons_zero, List.set_cons_succ]
    refine wpAnyH_take (i := 4) (oi := ?oix1__4_5) (v := ?vx1__4_5) ?hix1__4_5 (by kernel_rfl) (by kernel_rfl) (by kernel_rfl) ?hQx1__4_5 (Or.inl ⟨?hwx1__4_5, ?hyx1__4_5⟩) (by assumption) ?_
    case hix1__4_5 => simp only [List.getElem?_toArray, List.getElem?_cons_succ, List.getElem?_cons_zero]; rfl
    case hQx1__4_5 => exact fun _ _ _ h => h
    case hwx1__4_5 => rfl
    case hyx1__4_5 => intro w hSw; (try dsimp only at hSw); (first | (go_simp; done) | (go_simp; with_reducible rfl))
    try simp only [Act.put, List.setIfInBounds_toArray, List.set_cons_zero, List.set_cons_succ]
    refine wpAnyH_take (i := 5) (oi := ?oix1__5_6) (v := ?vx1__5_6) ?hix1__5_6 (by kernel_rfl) (by kernel_rfl) (by kernel_rfl) ?hQx1__5_6 (Or.inl ⟨?hwx1__5_6, ?hyx1__5_6⟩) (by assumption) ?_
    case hix1__5_6 => simp only [List.getElem?_toArray, List.getElem?_cons_succ, List.getElem?_cons_zero]; rfl
    case hQx1__5_6 => exact fun _ _ _ h => h
    case hwx1__5_6 => rfl
    case hyx1__5_6 => intro w hSw; (try dsimp only at hSw); (first | (go_simp; done) | (go_simp; with_reducible rfl))
    try simp only [Act.put, List.setIfInBounds_toArray, List.set_cons_zero, List.set_cons_succ]
    refine wpAnyH_ready (rs := [6]) (by kernel_rfl) (by simp) ?_
    refine AllReadyH.cons (o := ?ox1__6_7) ?hix1__6_7 (fun K hK => ?gx1__6_7) AllReadyH.nil
    case hix1__6_7 => simp only [List.getElem?_toArray, List.getElem?_cons_succ, List.getElem?_cons_zero]; rfl
    case gx1__6_7 =>
      go_simp
      go_at_call 41
      (with_reducible refine (HD.out w4).mono ?_); rintro e w5 ⟨rfl, bw5⟩
      replace o_v3 := owns_below o_v3 bw5
      replace o_v4 := owns_below o_v4 bw5
      replace HB := HB.trans (bw5.mono HB.size)
      have zw5 := bw5.size
      refine hK.out _ _ ?_ (fun hHeld => ?_)
      · exact ⟨var_load o_v3 (by simp) 0 _ rfl, var_load o_v3 (by simp) 1 _ rfl, var_load o_v3 (by simp) 2 _ rfl, var_load o_v3 (by simp) 3 _ rfl⟩
      clear hK K
      try simp only [Act.put, List.setIfInBounds_toArray, List.set_cons_zero, List.set_cons_succ]
      refine wpAnyH_ready (rs := [7]) (by kernel_rfl) (by simp) ?_
      refine AllReadyH.cons (o := ?ox1__7_8) ?hix1__7_8 (fun K hK => ?gx1__7_8) AllReadyH.nil
      case hix1__7_8 => simp only [List.getElem?_toArray, List.getElem?_cons_succ, List.getElem?_cons_zero]; rfl
      case gx1__7_8 =>
        go_simp
        go_at_call 51
        (with_reducible refine (HS.out w5).mono ?_); rintro e w6 ⟨rfl, bw6⟩
        replace o_v3 := owns_below o_v3 bw6
        replace o_v4 := owns_below o_v4 bw6
        replace HB := HB.trans (bw6.mono HB.size)
        have zw6 := bw6.size
        refine hK.out _ _ ?_ (fun hHeld => ?_)
        · exact ⟨var_load o_v3 (by simp) 0 _ rfl, var_load o_v3 (by simp) 1 _ rfl, var_load o_v3 (by simp) 2 _ rfl, var_load o_v3 (by simp) 3 _ rfl⟩
        clear hK K
        try simp only [Act.put, List.setIfInBounds_toArray, List.set_cons_zero, List.set_cons_succ]
        refine wpAnyH_ready (rs := [8]) (by kernel_rfl) (by simp) ?_
        refine AllReadyH.cons (o := ?ox1__8_9) ?hix1__8_9 (fun K hK => ?gx1__8_9) AllReadyH.nil
        case hix1__8_9 => simp only [List.getElem?_toArray, List.getElem?_cons_succ, List.getElem?_cons_zero]; rfl
        case gx1__8_9 =>
          obtain ⟨c_v40, f_v40, c_v41, f_v41, c_v42, f_v42, c_v43, f_v43, l_v4⟩ := Vn.v4 o_v4
          go_simp
          clear c_v40 f_v40 c_v41 f_v41 c_v42 f_v42 c_v43 f_v43 l_v4
          obtain ⟨w7, hw7⟩ : ∃ ww, ww = ((((w6.setCell ⟨(w.heap.size + 1), 0, none⟩ (.int .i64 x.Vendor)).setCell ⟨(w.heap.size + 1), 1, none⟩ (.int .i64 x.Serial)).setCell ⟨(w.heap.size + 1), 2, none⟩ (.int .i64 D)).setCell ⟨(w.heap.size + 1), 3, none⟩ (.int .i64 sg)) := ⟨_, rfl⟩
          obtain ⟨o_new, tw7⟩ := var_some [.int .i64 x.Vendor, .int .i64 x.Serial, .int .i64 D, .int .i64 sg] 0 _ _ o_v4 (by simp)
          rw [show setAll w6 ((w.heap.size + 1)) 0 [.int .i64 x.Vendor, .int .i64 x.Serial, .int .i64 D, .int .i64 sg] = w7 from hw7.symm] at o_new tw7
          replace o_v4 : Owns w7 _ (varD 31 4 [.int .i64 x.Vendor, .int .i64 x.Serial, .int .i64 D, .int .i64 sg]) _ _ := o_new
          clear o_new
          replace o_v3 := owns_turned o_v3 tw7 (fun b hb hb2 => by simp at hb hb2; omega)
          replace HB := below_turned HB tw7 (fun b hb => by simp at hb; omega)
          have zw7 := tw7.2.2.2.1
          rw [← hw7]
          clear hw7
          refine hK.out _ _ ?_ (fun hHeld => ?_)
          · exact ⟨var_load o_v3 (by simp) 0 _ rfl, var_load o_v3 (by simp) 1 _ rfl, var_load o_v3 (by simp) 2 _ rfl, var_load o_v3 (by simp) 3 _ rfl⟩
          clear hK K
          try simp only [Act.put, List.setIfInBounds_toArray, List.set_cons_zero, List.set_cons_succ]
          refine wpAnyH_take (i := 9) (oi := ?oix1__9_10) (v := ?vx1__9_10) ?hix1__9_10 (by kernel_rfl) (by kernel_rfl) (by kernel_rfl) ?hQx1__9_10 (Or.inl ⟨?hwx1__9_10, ?hyx1__9_10⟩) (by assumption) ?_
          case hix1__9_10 => simp only [List.getElem?_toArray, List.getElem?_cons_succ, List.getElem?_cons_zero]; rfl
          case hQx1__9_10 => exact fun _ _ _ h => h
          case hwx1__9_10 => rfl
          case hyx1__9_10 => intro w hSw; (try dsimp only at hSw); (first | (go_simp; done) | (go_simp; with_reducible rfl))
          try simp only [Act.put, List.setIfInBounds_toArray, List.set_cons_zero, List.set_cons_succ]
          refine wpAnyH_done (by kernel_rfl) ?_ _
          obtain ⟨c_v40, f_v40, c_v41, f_v41, c_v42, f_v42, c_v43, f_v43, l_v4⟩ := Vn.v4 o_v4
          go_wp2
          clear c_v40 f_v40 c_v41 f_v41 c_v42 f_v42 c_v43 f_v43 l_v4
          have y_v4_0 : w7.cell? ⟨(w.heap.size + 1), 0, none⟩ = some (.int .i64 x.Vendor) := var_load o_v4 (by simp) 0 _ rfl
          have y_v4_1 : w7.cell? ⟨(w.heap.size + 1), 1, none⟩ = some (.int .i64 x.Serial) := var_load o_v4 (by simp) 1 _ rfl
          have y_v4_2 : w7.cell? ⟨(w.heap.size + 1), 2, none⟩ = some (.int .i64 D) := var_load o_v4 (by simp) 2 _ rfl
          have y_v4_3 : w7.cell? ⟨(w.heap.size + 1), 3, none⟩ = some (.int .i64 sg) := var_load o_v4 (by simp) 3 _ rfl
          refine bodyPost_ret (v := .tuple #[.agg #[.int .i64 x.Vendor, .int .i64 x.Serial, .int .i64 D, .int .i64 sg], .bool true]) (by simp [results, Try.results15, go_sem, y_v4_0, y_v4_1, y_v4_2, y_v4_3]) rfl ?_
          exact made_at ⟨x.Vendor, x.Serial, D, sg⟩ true HB
set_option maxHeartbeats 1600000 in
theorem implAsc (w : World) (A : Option Addr) (n c : Nat) (xs : List Int) (hr : Rd w w.heap.size 1 A n (ints .i64 xs)) (hn : n ≤ 16000001) : Calls Try.prog 60 #[.slice A n c] w (Gives (.bool (ascB xs)) w) := by
  obtain ⟨r, hrr⟩ : ∃ r, r = ascB xs := ⟨_, rfl⟩
  rw [← hrr]
  have hl := hr.len1
  rw [ints_len] at hl
  have HL := Lib.hid hl
  have HRR := Lib.hid hrr
  clear hl hrr
  have HR := Lib.hid hr
  clear hr
  go_enter Try.func60, Try.ntmps60
  go_wp2_with fail
  go_loopw [3] (fun i wr => ∃ k : Nat, (k = 0 ∨ k < n) ∧ i = .int .i64 ((k : Int) + 1) ∧ (∀ j, j < k → xs.getD j 0 < xs.getD (j + 1) 0) ∧ Below w.heap.size w wr) (fun i _ => n + 1 - (intOf i).toNat)
  case atStart => exact ⟨0, Or.inl rfl, rfl, fun _ h => by omega, Below.refl _ _⟩
  case round =>
    obtain ⟨k, hk, rfl, hG, hb⟩ := hrel
    have HG := Lib.hid hG
    have HK := Lib.hid hk
    clear hG hk
    by_cases hlt : k + 1 < n
    · have hI : ((k : Int) + 1) < (n : Int) := by omega
      obtain ⟨b, off, rfl, hbl, hcell⟩ := (HR.out.below hb).at_ hlt
      obtain ⟨b', off', e', -, hcell0⟩ := (HR.out.below hb).at_ (show k < n by omega)
      injection e' with e'
      injection e' with e1 e2 _
      subst e1
      subst e2
      obtain ⟨y, hy⟩ : ∃ y, y = xs.getD k 0 := ⟨_, rfl⟩
      obtain ⟨z, hz⟩ : ∃ z, z = xs.getD (k + 1) 0 := ⟨_, rfl⟩
      rw [← hy] at hcell0
      rw [← hz] at hcell
      have HY := Lib.hid (And.intro hy hz)
      clear hy hz
      have i1 : (0 : Int) ≤ (k : Int) := by omega
      have i2 : (k : Int) < (n : Int) := by omega
      have i3 : (0 : Int) ≤ (k : Int) + 1 := by omega
      by_cases hc : z ≤ y
      · obtain rfl : r = false := by
          rw [HRR.out, ascB_f]
          intro ha
          have h1 := ha k (by have := HL.out; omega)
          rw [← HY.out.1, ← HY.out.2] at h1
          omega
        have hd : decide (z ≤ y) = true := by simpa using hc
        have hd2 : decide (y ≥ z) = true := by simpa using hc
        have hw : IntKind.i64.wrap ((k : Int) + 1 - 1) = (k : Int) := by rw [IntWalk.i64_in _ (by omega)]; omega
        go_wp2_with fail
        go_quiet (fail)
        clear hw
        go_wp2
        go_ret
        exact ⟨rfl, hb.trans (drewN_below _ _ _)⟩
      · have hd : decide (z ≤ y) = false := by simpa using hc
        have hd2 : decide (y ≥ z) = false := by simpa using hc
        have HC := Lib.hid hc
        clear hc
        have hw : IntKind.i64.wrap ((k : Int) + 1 - 1) = (k : Int) := by rw [IntWalk.i64_in _ (by omega)]; omega
        go_wp2_with fail
        go_quiet (fail)
        clear hw
        go_wp2
        go_roundw
        case rel =>
          refine ⟨k + 1, Or.inr hlt, by go_num, fun j hj => ?_, hb.trans (drewN_below _ _ _)⟩
          by_cases h : j < k
          · exact HG.out j h
          · obtain rfl : j = k := by omega
            rw [← HY.out.1, ← HY.out.2]
            have := HC.out
            omega
        case measure => simp [intOf]; omega
    · have hI : ¬ ((k : Int) + 1) < (n : Int) := by omega
      obtain rfl : r = true := by rw [HRR.out]; exact ascB_t (fun j hj => HG.out j (by have := HL.out; have := HK.out; omega))
      go_wp2
      go_ret
      exact ⟨rfl, hb⟩
set_option maxHeartbeats 1600000 in
theorem implVl (w : World) (x : Fx.VendorList) (us : List Value) (h : RdsL w w.heap.size x.dcs us) (hn : x.Revoked.length ≤ 16000001) : Calls Try.prog 20 #[.agg us.toArray] w (Gives (.bool (vlB x)) w) := by
  obtain ⟨A, c, rfl, g⟩ := VendorList.rds h
  have hr := rd_of g
  clear h g
  have KA := Lib.hid (fun (wx : World) (hb : Below w.heap.size w wx) => implAsc wx A x.Revoked.length c x.Revoked (hr.on hb) hn)
  clear hr
  cases hk : isKey x.Master with
  | true =>
    have HK := Lib.hid (fun wx : World => show Calls Try.prog 59 #[.int .i64 x.Master] wx (fun e w' => e = .returned (.bool true) ∧ wx = w') from by have h := implValid wx x.Master; rw [hk] at h; exact h)
    have HKK := Lib.hid hk
    clear hk
    go_enter Try.func20, Try.ntmps20
    go_wp2_with fail
    obtain ⟨w1, hw1⟩ : ∃ ww, ww = w.alloc (.cells #[.int .i64 x.Master, .slice A x.Revoked.length c] 27) := ⟨_, rfl⟩
    have o_v1 := var_owns w 27 2 [.int .i64 x.Master, .slice A x.Revoked.length c] rfl
    have bw1 : Below w.heap.size w w1 := hw1 ▸ (Below.refl _ _).alloc (Nat.le_refl _) _
    have sw1 : w1.heap.size = w.heap.size + 1 := by rw [hw1]; simp
    rw [← hw1] at o_v1 ⊢
    have zw1 : w.heap.size < w1.heap.size := by omega
    have HB := bw1
    clear hw1
    clear sw1
    (refine (HK.out w1).mono ?_); rintro e wz ⟨rfl, rfl⟩
    obtain ⟨c_v10, f_v10, c_v11, f_v11, l_v1⟩ := Vn.v2 o_v1
    go_wp2_with fail
    clear c_v10 f_v10 c_v11 f_v11 l_v1
    (refine (KA.out w1 HB).mono ?_); rintro e w2 ⟨rfl, bw2⟩
    replace o_v1 := owns_below o_v1 bw2
    replace HB := HB.trans (bw2.mono HB.size)
    have zw2 := bw2.size
    go_wp2
    refine bodyPost_ret (v := .bool (ascB x.Revoked)) (by simp [results, Try.results20, go_sem]) rfl ?_
    exact ⟨by unfold vlB; rw [HKK.out]; simp, HB⟩
  | false =>
    have HK := Lib.hid (fun wx : World => show Calls Try.prog 59 #[.int .i64 x.Master] wx (fun e w' => e = .returned (.bool false) ∧ wx = w') from by have h := implValid wx x.Master; rw [hk] at h; exact h)
    have HKK := Lib.hid hk
    clear hk
    go_enter Try.func20, Try.ntmps20
    go_wp2_with fail
    obtain ⟨w1, hw1⟩ : ∃ ww, ww = w.alloc (.cells #[.int .i64 x.Master, .slice A x.Revoked.length c] 27) := ⟨_, rfl⟩
    have o_v1 := var_owns w 27 2 [.int .i64 x.Master, .slice A x.Revoked.length c] rfl
    have bw1 : Below w.heap.size w w1 := hw1 ▸ (Below.refl _ _).alloc (Nat.le_refl _) _
    have sw1 : w1.heap.size = w.heap.size + 1 := by rw [hw1]; simp
    rw [← hw1] at o_v1 ⊢
    have zw1 : w.heap.size < w1.heap.size := by omega
    have HB := bw1
    clear hw1
    clear sw1
    (refine (HK.out w1).mono ?_); rintro e wz ⟨rfl, rfl⟩
    go_wp2
    refine bodyPost_ret (v := .bool false) (by simp [results, Try.results20, go_sem]) rfl ?_
    exact ⟨by unfold vlB; rw [HKK.out]; simp, HB⟩
theorem implRng (w : World) (v s : Int) : Calls Try.prog 54 #[.int .i64 v, .int .i64 s] w fun e w' => e = .returned (.bool (rngB v s)) ∧ w = w' := by
  obtain ⟨r, hr⟩ : ∃ r, r = rngB v s := ⟨_, rfl⟩
  rw [← hr]
  unfold rngB at hr
  by_cases h1 : 1 ≤ v ∧ v ≤ 9
  · rw [decide_eq_true h1, Bool.true_and] at hr
    by_cases h2 : 0 ≤ s ∧ s ≤ 1000000
    · obtain rfl : r = true := by rw [hr, decide_eq_true h2]
      clear hr
      go_enter Try.func54, Try.ntmps54
      go_wp2_with fail
      (with_reducible refine (C1.implIn_t _ _ _ _ (by omega) (by omega)).mono ?_); rintro e w' ⟨rfl, rfl⟩
      go_wp2_with fail
      (with_reducible refine (C1.implIn_t _ _ _ _ (by omega) (by omega)).mono ?_); rintro e w' ⟨rfl, rfl⟩
      go_wp2
      go_ret
      exact ⟨rfl, rfl⟩
    · obtain rfl : r = false := by rw [hr, decide_eq_false h2]
      clear hr
      go_enter Try.func54, Try.ntmps54
      go_wp2_with fail
      (with_reducible refine (C1.implIn_t _ _ _ _ (by omega) (by omega)).mono ?_); rintro e w' ⟨rfl, rfl⟩
      go_wp2_with fail
      (with_reducible refine (C1.implIn_f _ _ _ _ (by omega)).mono ?_); rintro e w' ⟨rfl, rfl⟩
      go_wp2
      go_ret
      exact ⟨rfl, rfl⟩
  · obtain rfl : r = false := by rw [hr, decide_eq_false h1]; rfl
    clear hr
    go_enter Try.func54, Try.ntmps54
    go_wp2_with fail
    (with_reducible refine (C1.implIn_f _ _ _ _ (by omega)).mono ?_); rintro e w' ⟨rfl, rfl⟩
    go_wp2
    go_ret
    exact ⟨rfl, rfl⟩
theorem implNum (w : World) (v s : Int) : Calls Try.prog 55 #[.int .i64 v, .int .i64 s] w fun e w' => e = .returned (.int .i64 (rcode v s)) ∧ w = w' := by
  go_enter Try.func55, Try.ntmps55
  go_wp2
  go_ret
  exact ⟨rfl, rfl⟩
set_option maxHeartbeats 3200000 in
theorem implRev (w : World) (x : Fx.VendorList) (v s : Int) (us : List Value) (h : RdsL w w.heap.size x.dcs us) (hn : x.Revoked.length ≤ 16000000) : Calls Try.prog 19 #[.agg us.toArray, .int .i64 v, .int .i64 s] w (Gives (.bool (revB x v s)) w) := by
  obtain ⟨A, c, rfl, g⟩ := VendorList.rds h
  have hr := rd_of g
  clear h g
  obtain ⟨r, hrr⟩ : ∃ r, r = revB x v s := ⟨_, rfl⟩
  rw [← hrr]
  have KC := Lib.hid (fun (wx : World) (hb : Below w.heap.size w wx) => show Calls Try.prog 58 #[.slice A x.Revoked.length c, .int .i64 (rcode v s)] wx (fun e w' => e = .returned (.bool r) ∧ wx = w') from by rw [hrr]; exact Si.contains wx A x.Revoked.length c x.Revoked (rcode v s) (hr.on hb) (by omega))
  clear hr hrr
  have hb1 : Below w.heap.size w (w.alloc (.cells #[.int .i64 x.Master, .slice A x.Revoked.length c] 27)) := (Below.refl _ _).alloc (Nat.le_refl _) _
  obtain ⟨w1, hw1⟩ : ∃ y, y = w.alloc (.cells #[.int .i64 x.Master, .slice A x.Revoked.length c] 27) := ⟨_, rfl⟩
  have op := var_owns w 27 2 [.int .i64 x.Master, .slice A x.Revoked.length c] rfl
  rw [← hw1] at op hb1
  have c1 : w1.drew.cell? ⟨w.heap.size, 1, none⟩ = some (.slice A x.Revoked.length c) := var_load (owns_below op (drewN_below w1 1 _)) (by simp) 1 _ rfl
  have HB : Below w.heap.size w w1.drew := hb1.trans ((drewN_below w1 1 w1.heap.size).mono hb1.size)
  clear op hb1
  go_enter Try.func19, Try.ntmps19
  go_wp2_with fail
  rw [← hw1]
  clear hw1
  go_region_held3 (fun wx => wx.cell? ⟨w.heap.size, 1, none⟩ = some (.slice A x.Revoked.length c)) (exact c1) (first | (go_at_call 55; (with_reducible refine (implNum _ v s).mono ?_); rintro e wz ⟨rfl, rfl⟩) | (go_at_call 58; (with_reducible refine (KC.out _ HB).mono ?_); rintro e wz ⟨rfl, rfl⟩))
  go_wp2
  go_ret
  exact ⟨rfl, HB⟩
set_option maxHeartbeats 8000000 in
theorem implChk (w : World) (l : Fx.VendorList) (a : Fx.Attestation) (us vs : List Value) (h : RdsL w w.heap.size l.dcs us) (h2 : RdsL w w.heap.size a.dcs vs) (hl : l.ok) (ha : a.ok) (hn : l.Revoked.length ≤ 16000000) :
    Calls Try.prog 18 #[.agg us.toArray, .agg vs.toArray] w (Gives (.bool (chkB l a)) w) := by
  obtain rfl := Attestation.rds h2
  clear h2
  obtain ⟨A, c, rfl, g⟩ := VendorList.rds h
  clear g
  have HRD := Lib.hid (fun (wx : World) (hb : Below w.heap.size w wx) => show RdsL wx wx.heap.size l.dcs [.int .i64 l.Master, .slice A l.Revoked.length c] from rdsL_on h hb)
  clear h
  have HNN := Lib.hid hn
  have KV0 := Lib.hid (fun (wx : World) (hb : Below w.heap.size w wx) => implVl wx l _ (HRD.out wx hb) (by have := HNN.out; omega))
  have KK0 := Lib.hid (fun (wx : World) (hb : Below w.heap.size w wx) => implRev wx l a.Vendor a.Serial _ (HRD.out wx hb) HNN.out)
  obtain ⟨sg, hsg⟩ : ∃ sg, sg = sgn (vpr l.Master a.Vendor) (amsg a.Vendor a.Serial a.Key) := ⟨_, rfl⟩
  have KS := Lib.hid (fun wx : World => show Calls Try.prog 51 #[.int .i64 l.Master, .int .i64 a.Vendor, .int .i64 a.Serial, .int .i64 a.Key] wx (Gives (.agg #[.int .i64 a.Vendor, .int .i64 a.Serial, .int .i64 a.Key, .int .i64 sg]) wx) from by
    rw [hsg]; exact implSA wx l.Master a.Vendor a.Serial a.Key hl.Master.1 hl.Master.2 ha.Vendor.1 ha.Vendor.2 ha.Serial.1 ha.Serial.2 ha.Key.1 ha.Key.2)
  have HSG := Lib.hid hsg
  obtain ⟨r, hrr⟩ : ∃ r, r = chkB l a := ⟨_, rfl⟩
  rw [← hrr]
  have HRR := Lib.hid hrr
  clear hrr hsg hl ha hn HNN HRD
  cases h1 : vlB l with
  | false =>
    have KV := Lib.hid (fun (wx : World) (hb : Below w.heap.size w wx) => show Calls Try.prog 20 #[.agg #[.int .i64 l.Master, .slice A l.Revoked.length c]] wx (Gives (.bool false) wx) from by have h := KV0.out wx hb; rw [h1] at h; exact h)
    obtain rfl : r = false := by rw [HRR.out]; unfold chkB; rw [h1]; rfl
    clear h1 HRR
    go_enter Try.func18, Try.ntmps18
    go_upto_region 1 with fail
    obtain ⟨w1, hw1⟩ : ∃ ww, ww = w.alloc (.cells #[.int .i64 l.Master, .slice A l.Revoked.length c] 27) := ⟨_, rfl⟩
    have o_v2 := var_owns w 27 2 [.int .i64 l.Master, .slice A l.Revoked.length c] rfl
    have bw1 : Below w.heap.size w w1 := hw1 ▸ (Below.refl _ _).alloc (Nat.le_refl _) _
    have sw1 : w1.heap.size = w.heap.size + 1 := by rw [hw1]; simp
    rw [← hw1] at o_v2 ⊢
    have zw1 : w.heap.size < w1.heap.size := by omega
    have HB := bw1
    clear hw1
    obtain ⟨w2, hw2⟩ : ∃ ww, ww = w1.alloc (.cells #[.int .i64 a.Vendor, .int .i64 a.Serial, .int .i64 a.Key, .int .i64 a.Signature] 31) := ⟨_, rfl⟩
    have o_v3 := var_owns w1 31 4 [.int .i64 a.Vendor, .int .i64 a.Serial, .int .i64 a.Key, .int .i64 a.Signature] rfl
    have bw2 : Below w1.heap.size w1 w2 := hw2 ▸ (Below.refl _ _).alloc (Nat.le_refl _) _
    have sw2 : w2.heap.size = w1.heap.size + 1 := by rw [hw2]; simp
    rw [← hw2] at o_v3 ⊢
    have qw2 : w1.heap.size = w.heap.size + 1 := by omega
    rw [qw2] at o_v3
    clear qw2
    have zw2 : w1.heap.size < w2.heap.size := by omega
    replace o_v2 := owns_below o_v2 bw2
    replace HB := HB.trans (bw2.mono HB.size)
    clear hw2
    clear sw1 sw2
    obtain ⟨c_v20, f_v20, c_v21, f_v21, l_v2⟩ := Vn.v2 o_v2
    go_wp2_with fail
    clear c_v20 f_v20 c_v21 f_v21 l_v2
    (refine (KV.out w2 HB).mono ?_); rintro e w3 ⟨rfl, bw3⟩
    replace o_v2 := owns_below o_v2 bw3
    replace o_v3 := owns_below o_v3 bw3
    replace HB := HB.trans (bw3.mono HB.size)
    have zw3 := bw3.size
    go_wp2
    refine bodyPost_ret (v := .bool false) (by simp [results, Try.results18, go_sem]) rfl ?_
    exact ⟨rfl, HB⟩
  | true =>
    have KV := Lib.hid (fun (wx : World) (hb : Below w.heap.size w wx) => show Calls Try.prog 20 #[.agg #[.int .i64 l.Master, .slice A l.Revoked.length c]] wx (Gives (.bool true) wx) from by have h := KV0.out wx hb; rw [h1] at h; exact h)
    cases h2 : rngB a.Vendor a.Serial with
    | false =>
      have KR := Lib.hid (fun wx : World => show Calls Try.prog 54 #[.int .i64 a.Vendor, .int .i64 a.Serial] wx (fun e w' => e = .returned (.bool false) ∧ wx = w') from by have h := implRng wx a.Vendor a.Serial; rw [h2] at h; exact h)
      obtain rfl : r = false := by rw [HRR.out]; unfold chkB; rw [h1, h2]; rfl
      clear h1 h2 HRR
      go_enter Try.func18, Try.ntmps18
      go_upto_region 1 with fail
      obtain ⟨w1, hw1⟩ : ∃ ww, ww = w.alloc (.cells #[.int .i64 l.Master, .slice A l.Revoked.length c] 27) := ⟨_, rfl⟩
      have o_v2 := var_owns w 27 2 [.int .i64 l.Master, .slice A l.Revoked.length c] rfl
      have bw1 : Below w.heap.size w w1 := hw1 ▸ (Below.refl _ _).alloc (Nat.le_refl _) _
      have sw1 : w1.heap.size = w.heap.size + 1 := by rw [hw1]; simp
      rw [← hw1] at o_v2 ⊢
      have zw1 : w.heap.size < w1.heap.size := by omega
      have HB := bw1
      clear hw1
      obtain ⟨w2, hw2⟩ : ∃ ww, ww = w1.alloc (.cells #[.int .i64 a.Vendor, .int .i64 a.Serial, .int .i64 a.Key, .int .i64 a.Signature] 31) := ⟨_, rfl⟩
      have o_v3 := var_owns w1 31 4 [.int .i64 a.Vendor, .int .i64 a.Serial, .int .i64 a.Key, .int .i64 a.Signature] rfl
      have bw2 : Below w1.heap.size w1 w2 := hw2 ▸ (Below.refl _ _).alloc (Nat.le_refl _) _
      have sw2 : w2.heap.size = w1.heap.size + 1 := by rw [hw2]; simp
      rw [← hw2] at o_v3 ⊢
      have qw2 : w1.heap.size = w.heap.size + 1 := by omega
      rw [qw2] at o_v3
      clear qw2
      have zw2 : w1.heap.size < w2.heap.size := by omega
      replace o_v2 := owns_below o_v2 bw2
      replace HB := HB.trans (bw2.mono HB.size)
      clear hw2
      clear sw1 sw2
      obtain ⟨c_v20, f_v20, c_v21, f_v21, l_v2⟩ := Vn.v2 o_v2
      go_wp2_with fail
      clear c_v20 f_v20 c_v21 f_v21 l_v2
      (refine (KV.out w2 HB).mono ?_); rintro e w3 ⟨rfl, bw3⟩
      replace o_v2 := owns_below o_v2 bw3
      replace o_v3 := owns_below o_v3 bw3
      replace HB := HB.trans (bw3.mono HB.size)
      have zw3 := bw3.size
      obtain ⟨c_v30, f_v30, c_v31, f_v31, c_v32, f_v32, c_v33, f_v33, l_v3⟩ := Vn.v4 o_v3
      go_wp2_with fail
      clear c_v30 f_v30 c_v31 f_v31 c_v32 f_v32 c_v33 f_v33 l_v3
      (refine (KR.out w3).mono ?_); rintro e wz ⟨rfl, rfl⟩
      go_wp2
      refine bodyPost_ret (v := .bool false) (by simp [results, Try.results18, go_sem]) rfl ?_
      exact ⟨rfl, HB⟩
    | true =>
      have KR := Lib.hid (fun wx : World => show Calls Try.prog 54 #[.int .i64 a.Vendor, .int .i64 a.Serial] wx (fun e w' => e = .returned (.bool true) ∧ wx = w') from by have h := implRng wx a.Vendor a.Serial; rw [h2] at h; exact h)
      cases h3 : revB l a.Vendor a.Serial with
      | true =>
        have KK := Lib.hid (fun (wx : World) (hb : Below w.heap.size w wx) => show Calls Try.prog 19 #[.agg #[.int .i64 l.Master, .slice A l.Revoked.length c], .int .i64 a.Vendor, .int .i64 a.Serial] wx (Gives (.bool true) wx) from by have h := KK0.out wx hb; rw [h3] at h; exact h)
        obtain rfl : r = false := by rw [HRR.out]; unfold chkB; rw [h1, h2, h3]; rfl
        clear h1 h2 h3 HRR
        go_enter Try.func18, Try.ntmps18
        go_upto_region 1 with fail
        obtain ⟨w1, hw1⟩ : ∃ ww, ww = w.alloc (.cells #[.int .i64 l.Master, .slice A l.Revoked.length c] 27) := ⟨_, rfl⟩
        have o_v2 := var_owns w 27 2 [.int .i64 l.Master, .slice A l.Revoked.length c] rfl
        have bw1 : Below w.heap.size w w1 := hw1 ▸ (Below.refl _ _).alloc (Nat.le_refl _) _
        have sw1 : w1.heap.size = w.heap.size + 1 := by rw [hw1]; simp
        rw [← hw1] at o_v2 ⊢
        have zw1 : w.heap.size < w1.heap.size := by omega
        have HB := bw1
        clear hw1
        obtain ⟨w2, hw2⟩ : ∃ ww, ww = w1.alloc (.cells #[.int .i64 a.Vendor, .int .i64 a.Serial, .int .i64 a.Key, .int .i64 a.Signature] 31) := ⟨_, rfl⟩
        have o_v3 := var_owns w1 31 4 [.int .i64 a.Vendor, .int .i64 a.Serial, .int .i64 a.Key, .int .i64 a.Signature] rfl
        have bw2 : Below w1.heap.size w1 w2 := hw2 ▸ (Below.refl _ _).alloc (Nat.le_refl _) _
        have sw2 : w2.heap.size = w1.heap.size + 1 := by rw [hw2]; simp
        rw [← hw2] at o_v3 ⊢
        have qw2 : w1.heap.size = w.heap.size + 1 := by omega
        rw [qw2] at o_v3
        clear qw2
        have zw2 : w1.heap.size < w2.heap.size := by omega
        replace o_v2 := owns_below o_v2 bw2
        replace HB := HB.trans (bw2.mono HB.size)
        clear hw2
        clear sw1 sw2
        obtain ⟨c_v20, f_v20, c_v21, f_v21, l_v2⟩ := Vn.v2 o_v2
        go_wp2_with fail
        clear c_v20 f_v20 c_v21 f_v21 l_v2
        (refine (KV.out w2 HB).mono ?_); rintro e w3 ⟨rfl, bw3⟩
        replace o_v2 := owns_below o_v2 bw3
        replace o_v3 := owns_below o_v3 bw3
        replace HB := HB.trans (bw3.mono HB.size)
        have zw3 := bw3.size
        obtain ⟨c_v30, f_v30, c_v31, f_v31, c_v32, f_v32, c_v33, f_v33, l_v3⟩ := Vn.v4 o_v3
        go_wp2_with fail
        clear c_v30 f_v30 c_v31 f_v31 c_v32 f_v32 c_v33 f_v33 l_v3
        (refine (KR.out w3).mono ?_); rintro e wz ⟨rfl, rfl⟩
        obtain ⟨c_v20, f_v20, c_v21, f_v21, l_v2⟩ := Vn.v2 o_v2
        obtain ⟨c_v30, f_v30, c_v31, f_v31, c_v32, f_v32, c_v33, f_v33, l_v3⟩ := Vn.v4 o_v3
        go_wp2_with fail
        clear c_v20 f_v20 c_v21 f_v21 l_v2 c_v30 f_v30 c_v31 f_v31 c_v32 f_v32 c_v33 f_v33 l_v3
        (refine (KK.out w3 HB).mono ?_); rintro e w4 ⟨rfl, bw4⟩
        replace o_v2 := owns_below o_v2 bw4
        replace o_v3 := owns_below o_v3 bw4
        replace HB := HB.trans (bw4.mono HB.size)
        have zw4 := bw4.size
        go_wp2
        refine bodyPost_ret (v := .bool false) (by simp [results, Try.results18, go_sem]) rfl ?_
        exact ⟨rfl, HB⟩
      | false =>
        have KK := Lib.hid (fun (wx : World) (hb : Below w.heap.size w wx) => show Calls Try.prog 19 #[.agg #[.int .i64 l.Master, .slice A l.Revoked.length c], .int .i64 a.Vendor, .int .i64 a.Serial] wx (Gives (.bool false) wx) from by have h := KK0.out wx hb; rw [h3] at h; exact h)
        by_cases h4 : a.Signature = sg
        · obtain rfl : r = true := by rw [HRR.out]; unfold chkB; rw [h1, h2, h3, vsg_own (k := vpr l.Master a.Vendor) (der_key _ _), ← HSG.out]; simp [h4]
          have HQ := Lib.hid h4
          clear h1 h2 h3 h4 HRR
          go_enter Try.func18, Try.ntmps18
          go_upto_region 1 with fail
          obtain ⟨w1, hw1⟩ : ∃ ww, ww = w.alloc (.cells #[.int .i64 l.Master, .slice A l.Revoked.length c] 27) := ⟨_, rfl⟩
          have o_v2 := var_owns w 27 2 [.int .i64 l.Master, .slice A l.Revoked.length c] rfl
          have bw1 : Below w.heap.size w w1 := hw1 ▸ (Below.refl _ _).alloc (Nat.le_refl _) _
          have sw1 : w1.heap.size = w.heap.size + 1 := by rw [hw1]; simp
          rw [← hw1] at o_v2 ⊢
          have zw1 : w.heap.size < w1.heap.size := by omega
          have HB := bw1
          clear hw1
          obtain ⟨w2, hw2⟩ : ∃ ww, ww = w1.alloc (.cells #[.int .i64 a.Vendor, .int .i64 a.Serial, .int .i64 a.Key, .int .i64 a.Signature] 31) := ⟨_, rfl⟩
          have o_v3 := var_owns w1 31 4 [.int .i64 a.Vendor, .int .i64 a.Serial, .int .i64 a.Key, .int .i64 a.Signature] rfl
          have bw2 : Below w1.heap.size w1 w2 := hw2 ▸ (Below.refl _ _).alloc (Nat.le_refl _) _
          have sw2 : w2.heap.size = w1.heap.size + 1 := by rw [hw2]; simp
          rw [← hw2] at o_v3 ⊢
          have qw2 : w1.heap.size = w.heap.size + 1 := by omega
          rw [qw2] at o_v3
          clear qw2
          have zw2 : w1.heap.size < w2.heap.size := by omega
          replace o_v2 := owns_below o_v2 bw2
          replace HB := HB.trans (bw2.mono HB.size)
          clear hw2
          clear sw1 sw2
          obtain ⟨c_v20, f_v20, c_v21, f_v21, l_v2⟩ := Vn.v2 o_v2
          go_wp2_with fail
          clear c_v20 f_v20 c_v21 f_v21 l_v2
          (refine (KV.out w2 HB).mono ?_); rintro e w3 ⟨rfl, bw3⟩
          replace o_v2 := owns_below o_v2 bw3
          replace o_v3 := owns_below o_v3 bw3
          replace HB := HB.trans (bw3.mono HB.size)
          have zw3 := bw3.size
          obtain ⟨c_v30, f_v30, c_v31, f_v31, c_v32, f_v32, c_v33, f_v33, l_v3⟩ := Vn.v4 o_v3
          go_wp2_with fail
          clear c_v30 f_v30 c_v31 f_v31 c_v32 f_v32 c_v33 f_v33 l_v3
          (refine (KR.out w3).mono ?_); rintro e wz ⟨rfl, rfl⟩
          obtain ⟨c_v20, f_v20, c_v21, f_v21, l_v2⟩ := Vn.v2 o_v2
          obtain ⟨c_v30, f_v30, c_v31, f_v31, c_v32, f_v32, c_v33, f_v33, l_v3⟩ := Vn.v4 o_v3
          go_wp2_with fail
          clear c_v20 f_v20 c_v21 f_v21 l_v2 c_v30 f_v30 c_v31 f_v31 c_v32 f_v32 c_v33 f_v33 l_v3
          (refine (KK.out w3 HB).mono ?_); rintro e w4 ⟨rfl, bw4⟩
          replace o_v2 := owns_below o_v2 bw4
          replace o_v3 := owns_below o_v3 bw4
          replace HB := HB.trans (bw4.mono HB.size)
          have zw4 := bw4.size
          go_wp2_with fail
          have HF2 := Lib.hid (show ∀ wx, Below w4.heap.size w4 wx → wx.cell? ⟨w.heap.size, 0, none⟩ = some (.int .i64 l.Master) ∧ wx.cell? ⟨(w.heap.size + 1), 0, none⟩ = some (.int .i64 a.Vendor) ∧ wx.cell? ⟨(w.heap.size + 1), 1, none⟩ = some (.int .i64 a.Serial) ∧ wx.cell? ⟨(w.heap.size + 1), 2, none⟩ = some (.int .i64 a.Key) ∧ wx.cell? ⟨(w.heap.size + 1), 3, none⟩ = some (.int .i64 a.Signature) from fun wx hb => ⟨var_load (owns_below o_v2 hb) (by simp) 0 _ rfl, var_load (owns_below o_v3 hb) (by simp) 0 _ rfl, var_load (owns_below o_v3 hb) (by simp) 1 _ rfl, var_load (owns_below o_v3 hb) (by simp) 2 _ rfl, var_load (owns_below o_v3 hb) (by simp) 3 _ rfl⟩)
          have BB2 := Below.refl w4.heap.size w4
          obtain ⟨w5, hw5⟩ : ∃ ww, ww = w4.drew := ⟨_, rfl⟩
          have bw5 : Below w4.heap.size w4 w5 := hw5 ▸ drewN_below w4 1 _
          replace BB2 := BB2.trans (bw5.mono BB2.size)
          replace HB := HB.trans (bw5.mono HB.size)
          have zw5 := bw5.size
          refine wp_region_held_drew (S := (fun (wx : World) => wx.cell? ⟨w.heap.size, 0, none⟩ = some (.int .i64 l.Master) ∧ wx.cell? ⟨(w.heap.size + 1), 0, none⟩ = some (.int .i64 a.Vendor) ∧ wx.cell? ⟨(w.heap.size + 1), 1, none⟩ = some (.int .i64 a.Serial) ∧ wx.cell? ⟨(w.heap.size + 1), 2, none⟩ = some (.int .i64 a.Key) ∧ wx.cell? ⟨(w.heap.size + 1), 3, none⟩ = some (.int .i64 a.Signature))) (by kernel_rfl) ?_ (fun hHeld => ?_)
          · rw [← hw5]; exact HF2.out _ BB2
          rw [← hw5] at hHeld ⊢
          clear hw5
          refine wpAnyH_take (i := 0) (oi := ?oix2__0_1) (v := ?vx2__0_1) ?hix2__0_1 (by kernel_rfl) (by kernel_rfl) (by kernel_rfl) ?hQx2__0_1 (Or.inl ⟨?hwx2__0_1, ?hyx2__0_1⟩) (by assumption) ?_
          case hix2__0_1 => simp only [List.getElem?_toArray, List.getElem?_cons_zero]; rfl
          case hQx2__0_1 => exact fun _ _ _ h => h
          case hwx2__0_1 => rfl
          case hyx2__0_1 => intro w hSw; (try dsimp only at hSw); (first | (go_simp; done) | (go_simp; with_reducible rfl))
          try simp only [Act.put, List.setIfInBounds_toArray, List.set_cons_zero, List.set_cons_succ]
          refine wpAnyH_take (i := 1) (oi := ?oix2__1_2) (v := ?vx2__1_2) ?hix2__1_2 (by kernel_rfl) (by kernel_rfl) (by kernel_rfl) ?hQx2__1_2 (Or.inl ⟨?hwx2__1_2, ?hyx2__1_2⟩) (by assumption) ?_
          case hix2__1_2 => simp only [List.getElem?_toArray, List.getElem?_cons_succ, List.getElem?_cons_zero]; rfl
          case hQx2__1_2 => exact fun _ _ _ h => h
          case hwx2__1_2 => rfl
          case hyx2__1_2 => intro w hSw; (try dsimp only at hSw); (first | (go_simp; done) | (go_simp; with_reducible rfl))
          try simp only [Act.put, List.setIfInBounds_toArray, List.set_cons_zero, List.set_cons_succ]
          refine wpAnyH_take (i := 2) (oi := ?oix2__2_3) (v := ?vx2__2_3) ?hix2__2_3 (by kernel_rfl) (by kernel_rfl) (by kernel_rfl) ?hQx2__2_3 (Or.inl ⟨?hwx2__2_3, ?hyx2__2_3⟩) (by assumption) ?_
          case hix2__2_3 => simp only [List.getElem?_toArray, List.getElem?_cons_succ, List.getElem?_cons_zero]; rfl
          case hQx2__2_3 => exact fun _ _ _ h => h
          case hwx2__2_3 => rfl
          case hyx2__2_3 => intro w hSw; (try dsimp only at hSw); (first | (go_simp; done) | (go_simp; with_reducible rfl))
          try simp only [Act.put, List.setIfInBounds_toArray, List.set_cons_zero, List.set_cons_succ]
          refine wpAnyH_take (i := 3) (oi := ?oix2__3_4) (v := ?vx2__3_4) ?hix2__3_4 (by kernel_rfl) (by kernel_rfl) (by kernel_rfl) ?hQx2__3_4 (Or.inl ⟨?hwx2__3_4, ?hyx2__3_4⟩) (by assumption) ?_
          case hix2__3_4 => simp only [List.getElem?_toArray, List.getElem?_cons_succ, List.getElem?_cons_zero]; rfl
          case hQx2__3_4 => exact fun _ _ _ h => h
          case hwx2__3_4 => rfl
          case hyx2__3_4 => intro w hSw; (try dsimp only at hSw); (first | (go_simp; done) | (go_simp; with_reducible rfl))
          try simp only [Act.put, List.setIfInBounds_toArray, List.set_cons_zero, List.set_cons_succ]
          refine wpAnyH_take (i := 4) (oi := ?oix2__4_5) (v := ?vx2__4_5) ?hix2__4_5 (by kernel_rfl) (by kernel_rfl) (by kernel_rfl) ?hQx2__4_5 (Or.inl ⟨?hwx2__4_5, ?hyx2__4_5⟩) (by assumption) ?_
          case hix2__4_5 => simp only [List.getElem?_toArray, List.getElem?_cons_succ, List.getElem?_cons_zero]; rfl
          case hQx2__4_5 => exact fun _ _ _ h => h
          case hwx2__4_5 => rfl
          case hyx2__4_5 => intro w hSw; (try dsimp only at hSw); (first | (go_simp; done) | (go_simp; with_reducible rfl))
          try simp only [Act.put, List.setIfInBounds_toArray, List.set_cons_zero, List.set_cons_succ]
          refine wpAnyH_take (i := 5) (oi := ?oix2__5_6) (v := ?vx2__5_6) ?hix2__5_6 (by kernel_rfl) (by kernel_rfl) (by kernel_rfl) ?hQx2__5_6 (Or.inl ⟨?hwx2__5_6, ?hyx2__5_6⟩) (by assumption) ?_
          case hix2__5_6 => simp only [List.getElem?_toArray, List.getElem?_cons_succ, List.getElem?_cons_zero]; rfl
          case hQx2__5_6 => exact fun _ _ _ h => h
          case hwx2__5_6 => rfl
          case hyx2__5_6 => intro w hSw; (try dsimp only at hSw); (first | (go_simp; done) | (go_simp; with_reducible rfl))
          try simp only [Act.put, List.setIfInBounds_toArray, List.set_cons_zero, List.set_cons_succ]
          refine wpAnyH_take (i := 6) (oi := ?oix2__6_7) (v := ?vx2__6_7) ?hix2__6_7 (by kernel_rfl) (by kernel_rfl) (by kernel_rfl) ?hQx2__6_7 (Or.inl ⟨?hwx2__6_7, ?hyx2__6_7⟩) (by assumption) ?_
          case hix2__6_7 => simp only [List.getElem?_toArray, List.getElem?_cons_succ, List.getElem?_cons_zero]; rfl
          case hQx2__6_7 => exact fun _ _ _ h => h
          case hwx2__6_7 => rfl
          case hyx2__6_7 => intro w hSw; (try dsimp only at hSw); (first | (go_simp; done) | (go_simp; with_reducible rfl))
          try simp only [Act.put, List.setIfInBounds_toArray, List.set_cons_zero, List.set_cons_succ]
          refine wpAnyH_take (i := 7) (oi := ?oix2__7_8) (v := ?vx2__7_8) ?hix2__7_8 (by kernel_rfl) (by kernel_rfl) (by kernel_rfl) ?hQx2__7_8 (Or.inl ⟨?hwx2__7_8, ?hyx2__7_8⟩) (by assumption) ?_
          case hix2__7_8 => simp only [List.getElem?_toArray, List.getElem?_cons_succ, List.getElem?_cons_zero]; rfl
          case hQx2__7_8 => exact fun _ _ _ h => h
          case hwx2__7_8 => rfl
          case hyx2__7_8 => intro w hSw; (try dsimp only at hSw); (first | (go_simp; done) | (go_simp; with_reducible rfl))
          try simp only [Act.put, List.setIfInBounds_toArray, List.set_cons_zero, List.set_cons_succ]
          refine wpAnyH_take (i := 8) (oi := ?oix2__8_9) (v := ?vx2__8_9) ?hix2__8_9 (by kernel_rfl) (by kernel_rfl) (by kernel_rfl) ?hQx2__8_9 (Or.inl ⟨?hwx2__8_9, ?hyx2__8_9⟩) (by assumption) ?_
          case hix2__8_9 => simp only [List.getElem?_toArray, List.getElem?_cons_succ, List.getElem?_cons_zero]; rfl
          case hQx2__8_9 => exact fun _ _ _ h => h
          case hwx2__8_9 => rfl
          case hyx2__8_9 => intro w hSw; (try dsimp only at hSw); (first | (go_simp; done) | (go_simp; with_reducible rfl))
          try simp only [Act.put, List.setIfInBounds_toArray, List.set_cons_zero, List.set_cons_succ]
          refine wpAnyH_ready (rs := [9]) (by kernel_rfl) (by simp) ?_
          refine AllReadyH.cons (o := ?ox2__9_10) ?hix2__9_10 (fun K hK => ?gx2__9_10) AllReadyH.nil
          case hix2__9_10 => simp only [List.getElem?_toArray, List.getElem?_cons_succ, List.getElem?_cons_zero]; rfl
          case gx2__9_10 =>
            go_simp
            go_at_call 51
            (with_reducible refine (KS.out w5).mono ?_); rintro e w6 ⟨rfl, bw6⟩
            replace BB2 := BB2.trans (bw6.mono BB2.size)
            replace HB := HB.trans (bw6.mono HB.size)
            have zw6 := bw6.size
            refine hK.out _ _ ?_ (fun hHeld => ?_)
            · exact HF2.out _ BB2
            clear hK K
            try simp only [Act.put, List.setIfInBounds_toArray, List.set_cons_zero, List.set_cons_succ]
            refine wpAnyH_take (i := 10) (oi := ?oix2__10_11) (v := ?vx2__10_11) ?hix2__10_11 (by kernel_rfl) (by kernel_rfl) (by kernel_rfl) ?hQx2__10_11 (Or.inl ⟨?hwx2__10_11, ?hyx2__10_11⟩) (by assumption) ?_
            case hix2__10_11 => simp only [List.getElem?_toArray, List.getElem?_cons_succ, List.getElem?_cons_zero]; rfl
            case hQx2__10_11 => exact fun _ _ _ h => h
            case hwx2__10_11 => rfl
            case hyx2__10_11 => intro w hSw; have h4 := HQ.out; (try dsimp only at hSw); (first | (go_simp; done) | (go_simp; with_reducible rfl))
            try simp only [Act.put, List.setIfInBounds_toArray, List.set_cons_zero, List.set_cons_succ]
            refine wpAnyH_take (i := 11) (oi := ?oix2__11_12) (v := ?vx2__11_12) ?hix2__11_12 (by kernel_rfl) (by kernel_rfl) (by kernel_rfl) ?hQx2__11_12 (Or.inl ⟨?hwx2__11_12, ?hyx2__11_12⟩) (by assumption) ?_
            case hix2__11_12 => simp only [List.getElem?_toArray, List.getElem?_cons_succ, List.getElem?_cons_zero]; rfl
            case hQx2__11_12 => exact fun _ _ _ h => h
            case hwx2__11_12 => rfl
            case hyx2__11_12 => intro w hSw; (try dsimp only at hSw); (first | (go_simp; done) | (go_simp; with_reducible rfl))
            try simp only [Act.put, List.setIfInBounds_toArray, List.set_cons_zero, List.set_cons_succ]
            refine wpAnyH_done (by kernel_rfl) ?_ _
            replace o_v2 := owns_below o_v2 BB2
            replace o_v3 := owns_below o_v3 BB2
            clear BB2
            go_wp2
            refine bodyPost_ret (v := .bool true) (by simp [results, Try.results18, go_sem]) rfl ?_
            exact ⟨rfl, HB⟩
        · obtain rfl : r = false := by rw [HRR.out]; unfold chkB; rw [h1, h2, h3, vsg_own (k := vpr l.Master a.Vendor) (der_key _ _), ← HSG.out]; simpa using fun h => h4 (Eq.symm h)
          have HQ := Lib.hid h4
          clear h1 h2 h3 h4 HRR
          go_enter Try.func18, Try.ntmps18
          go_upto_region 1 with fail
          obtain ⟨w1, hw1⟩ : ∃ ww, ww = w.alloc (.cells #[.int .i64 l.Master, .slice A l.Revoked.length c] 27) := ⟨_, rfl⟩
          have o_v2 := var_owns w 27 2 [.int .i64 l.Master, .slice A l.Revoked.length c] rfl
          have bw1 : Below w.heap.size w w1 := hw1 ▸ (Below.refl _ _).alloc (Nat.le_refl _) _
          have sw1 : w1.heap.size = w.heap.size + 1 := by rw [hw1]; simp
          rw [← hw1] at o_v2 ⊢
          have zw1 : w.heap.size < w1.heap.size := by omega
          have HB := bw1
          clear hw1
          obtain ⟨w2, hw2⟩ : ∃ ww, ww = w1.alloc (.cells #[.int .i64 a.Vendor, .int .i64 a.Serial, .int .i64 a.Key, .int .i64 a.Signature] 31) := ⟨_, rfl⟩
          have o_v3 := var_owns w1 31 4 [.int .i64 a.Vendor, .int .i64 a.Serial, .int .i64 a.Key, .int .i64 a.Signature] rfl
          have bw2 : Below w1.heap.size w1 w2 := hw2 ▸ (Below.refl _ _).alloc (Nat.le_refl _) _
          have sw2 : w2.heap.size = w1.heap.size + 1 := by rw [hw2]; simp
          rw [← hw2] at o_v3 ⊢
          have qw2 : w1.heap.size = w.heap.size + 1 := by omega
          rw [qw2] at o_v3
          clear qw2
          have zw2 : w1.heap.size < w2.heap.size := by omega
          replace o_v2 := owns_below o_v2 bw2
          replace HB := HB.trans (bw2.mono HB.size)
          clear hw2
          clear sw1 sw2
          obtain ⟨c_v20, f_v20, c_v21, f_v21, l_v2⟩ := Vn.v2 o_v2
          go_wp2_with fail
          clear c_v20 f_v20 c_v21 f_v21 l_v2
          (refine (KV.out w2 HB).mono ?_); rintro e w3 ⟨rfl, bw3⟩
          replace o_v2 := owns_below o_v2 bw3
          replace o_v3 := owns_below o_v3 bw3
          replace HB := HB.trans (bw3.mono HB.size)
          have zw3 := bw3.size
          obtain ⟨c_v30, f_v30, c_v31, f_v31, c_v32, f_v32, c_v33, f_v33, l_v3⟩ := Vn.v4 o_v3
          go_wp2_with fail
          clear c_v30 f_v30 c_v31 f_v31 c_v32 f_v32 c_v33 f_v33 l_v3
          (refine (KR.out w3).mono ?_); rintro e wz ⟨rfl, rfl⟩
          obtain ⟨c_v20, f_v20, c_v21, f_v21, l_v2⟩ := Vn.v2 o_v2
          obtain ⟨c_v30, f_v30, c_v31, f_v31, c_v32, f_v32, c_v33, f_v33, l_v3⟩ := Vn.v4 o_v3
          go_wp2_with fail
          clear c_v20 f_v20 c_v21 f_v21 l_v2 c_v30 f_v30 c_v31 f_v31 c_v32 f_v32 c_v33 f_v33 l_v3
          (refine (KK.out w3 HB).mono ?_); rintro e w4 ⟨rfl, bw4⟩
          replace o_v2 := owns_below o_v2 bw4
          replace o_v3 := owns_below o_v3 bw4
          replace HB := HB.trans (bw4.mono HB.size)
          have zw4 := bw4.size
          go_wp2_with fail
          have HF1 := Lib.hid (show ∀ wx, Below w4.heap.size w4 wx → wx.cell? ⟨w.heap.size, 0, none⟩ = some (.int .i64 l.Master) ∧ wx.cell? ⟨(w.heap.size + 1), 0, none⟩ = some (.int .i64 a.Vendor) ∧ wx.cell? ⟨(w.heap.size + 1), 1, none⟩ = some (.int .i64 a.Serial) ∧ wx.cell? ⟨(w.heap.size + 1), 2, none⟩ = some (.int .i64 a.Key) ∧ wx.cell? ⟨(w.heap.size + 1), 3, none⟩ = some (.int .i64 a.Signature) from fun wx hb => ⟨var_load (owns_below o_v2 hb) (by simp) 0 _ rfl, var_load (owns_below o_v3 hb) (by simp) 0 _ rfl, var_load (owns_below o_v3 hb) (by simp) 1 _ rfl, var_load (owns_below o_v3 hb) (by simp) 2 _ rfl, var_load (owns_below o_v3 hb) (by simp) 3 _ rfl⟩)
          have BB1 := Below.refl w4.heap.size w4
          obtain ⟨w5, hw5⟩ : ∃ ww, ww = w4.drew := ⟨_, rfl⟩
          have bw5 : Below w4.heap.size w4 w5 := hw5 ▸ drewN_below w4 1 _
          replace BB1 := BB1.trans (bw5.mono BB1.size)
          replace HB := HB.trans (bw5.mono HB.size)
          have zw5 := bw5.size
          refine wp_region_held_drew (S := (fun (wx : World) => wx.cell? ⟨w.heap.size, 0, none⟩ = some (.int .i64 l.Master) ∧ wx.cell? ⟨(w.heap.size + 1), 0, none⟩ = some (.int .i64 a.Vendor) ∧ wx.cell? ⟨(w.heap.size + 1), 1, none⟩ = some (.int .i64 a.Serial) ∧ wx.cell? ⟨(w.heap.size + 1), 2, none⟩ = some (.int .i64 a.Key) ∧ wx.cell? ⟨(w.heap.size + 1), 3, none⟩ = some (.int .i64 a.Signature))) (by kernel_rfl) ?_ (fun hHeld => ?_)
          · rw [← hw5]; exact HF1.out _ BB1
          rw [← hw5] at hHeld ⊢
          clear hw5
          refine wpAnyH_take (i := 0) (oi := ?oix1__0_1) (v := ?vx1__0_1) ?hix1__0_1 (by kernel_rfl) (by kernel_rfl) (by kernel_rfl) ?hQx1__0_1 (Or.inl ⟨?hwx1__0_1, ?hyx1__0_1⟩) (by assumption) ?_
          case hix1__0_1 => simp only [List.getElem?_toArray, List.getElem?_cons_zero]; rfl
          case hQx1__0_1 => exact fun _ _ _ h => h
          case hwx1__0_1 => rfl
          case hyx1__0_1 => intro w hSw; (try dsimp only at hSw); (first | (go_simp; done) | (go_simp; with_reducible rfl))
          try simp only [Act.put, List.setIfInBounds_toArray, List.set_cons_zero, List.set_cons_succ]
          refine wpAnyH_take (i := 1) (oi := ?oix1__1_2) (v := ?vx1__1_2) ?hix1__1_2 (by kernel_rfl) (by kernel_rfl) (by kernel_rfl) ?hQx1__1_2 (Or.inl ⟨?hwx1__1_2, ?hyx1__1_2⟩) (by assumption) ?_
          case hix1__1_2 => simp only [List.getElem?_toArray, List.getElem?_cons_succ, List.getElem?_cons_zero]; rfl
          case hQx1__1_2 => exact fun _ _ _ h => h
          case hwx1__1_2 => rfl
          case hyx1__1_2 => intro w hSw; (try dsimp only at hSw); (first | (go_simp; done) | (go_simp; with_reducible rfl))
          try simp only [Act.put, List.setIfInBounds_toArray, List.set_cons_zero, List.set_cons_succ]
          refine wpAnyH_take (i := 2) (oi := ?oix1__2_3) (v := ?vx1__2_3) ?hix1__2_3 (by kernel_rfl) (by kernel_rfl) (by kernel_rfl) ?hQx1__2_3 (Or.inl ⟨?hwx1__2_3, ?hyx1__2_3⟩) (by assumption) ?_
          case hix1__2_3 => simp only [List.getElem?_toArray, List.getElem?_cons_succ, List.getElem?_cons_zero]; rfl
          case hQx1__2_3 => exact fun _ _ _ h => h
          case hwx1__2_3 => rfl
          case hyx1__2_3 => intro w hSw; (try dsimp only at hSw); (first | (go_simp; done) | (go_simp; with_reducible rfl))
          try simp only [Act.put, List.setIfInBounds_toArray, List.set_cons_zero, List.set_cons_succ]
          refine wpAnyH_take (i := 3) (oi := ?oix1__3_4) (v := ?vx1__3_4) ?hix1__3_4 (by kernel_rfl) (by kernel_rfl) (by kernel_rfl) ?hQx1__3_4 (Or.inl ⟨?hwx1__3_4, ?hyx1__3_4⟩) (by assumption) ?_
          case hix1__3_4 => simp only [List.getElem?_toArray, List.getElem?_cons_succ, List.getElem?_cons_zero]; rfl
          case hQx1__3_4 => exact fun _ _ _ h => h
          case hwx1__3_4 => rfl
          case hyx1__3_4 => intro w hSw; (try dsimp only at hSw); (first | (go_simp; done) | (go_simp; with_reducible rfl))
          try simp only [Act.put, List.setIfInBounds_toArray, List.set_cons_zero, List.set_cons_succ]
          refine wpAnyH_take (i := 4) (oi := ?oix1__4_5) (v := ?vx1__4_5) ?hix1__4_5 (by kernel_rfl) (by kernel_rfl) (by kernel_rfl) ?hQx1__4_5 (Or.inl ⟨?hwx1__4_5, ?hyx1__4_5⟩) (by assumption) ?_
          case hix1__4_5 => simp only [List.getElem?_toArray, List.getElem?_cons_succ, List.getElem?_cons_zero]; rfl
          case hQx1__4_5 => exact fun _ _ _ h => h
          case hwx1__4_5 => rfl
          case hyx1__4_5 => intro w hSw; (try dsimp only at hSw); (first | (go_simp; done) | (go_simp; with_reducible rfl))
          try simp only [Act.put, List.setIfInBounds_toArray, List.set_cons_zero, List.set_cons_succ]
          refine wpAnyH_take (i := 5) (oi := ?oix1__5_6) (v := ?vx1__5_6) ?hix1__5_6 (by kernel_rfl) (by kernel_rfl) (by kernel_rfl) ?hQx1__5_6 (Or.inl ⟨?hwx1__5_6, ?hyx1__5_6⟩) (by assumption) ?_
          case hix1__5_6 => simp only [List.getElem?_toArray, List.getElem?_cons_succ, List.getElem?_cons_zero]; rfl
          case hQx1__5_6 => exact fun _ _ _ h => h
          case hwx1__5_6 => rfl
          case hyx1__5_6 => intro w hSw; (try dsimp only at hSw); (first | (go_simp; done) | (go_simp; with_reducible rfl))
          try simp only [Act.put, List.setIfInBounds_toArray, List.set_cons_zero, List.set_cons_succ]
          refine wpAnyH_take (i := 6) (oi := ?oix1__6_7) (v := ?vx1__6_7) ?hix1__6_7 (by kernel_rfl) (by kernel_rfl) (by kernel_rfl) ?hQx1__6_7 (Or.inl ⟨?hwx1__6_7, ?hyx1__6_7⟩) (by assumption) ?_
          case hix1__6_7 => simp only [List.getElem?_toArray, List.getElem?_cons_succ, List.getElem?_cons_zero]; rfl
          case hQx1__6_7 => exact fun _ _ _ h => h
          case hwx1__6_7 => rfl
          case hyx1__6_7 => intro w hSw; (try dsimp only at hSw); (first | (go_simp; done) | (go_simp; with_reducible rfl))
          try simp only [Act.put, List.setIfInBounds_toArray, List.set_cons_zero, List.set_cons_succ]
          refine wpAnyH_take (i := 7) (oi := ?oix1__7_8) (v := ?vx1__7_8) ?hix1__7_8 (by kernel_rfl) (by kernel_rfl) (by kernel_rfl) ?hQx1__7_8 (Or.inl ⟨?hwx1__7_8, ?hyx1__7_8⟩) (by assumption) ?_
          case hix1__7_8 => simp only [List.getElem?_toArray, List.getElem?_cons_succ, List.getElem?_cons_zero]; rfl
          case hQx1__7_8 => exact fun _ _ _ h => h
          case hwx1__7_8 => rfl
          case hyx1__7_8 => intro w hSw; (try dsimp only at hSw); (first | (go_simp; done) | (go_simp; with_reducible rfl))
          try simp only [Act.put, List.setIfInBounds_toArray, List.set_cons_zero, List.set_cons_succ]
          refine wpAnyH_take (i := 8) (oi := ?oix1__8_9) (v := ?vx1__8_9) ?hix1__8_9 (by kernel_rfl) (by kernel_rfl) (by kernel_rfl) ?hQx1__8_9 (Or.inl ⟨?hwx1__8_9, ?hyx1__8_9⟩) (by assumption) ?_
          case hix1__8_9 => simp only [List.getElem?_toArray, List.getElem?_cons_succ, List.getElem?_cons_zero]; rfl
          case hQx1__8_9 => exact fun _ _ _ h => h
          case hwx1__8_9 => rfl
          case hyx1__8_9 => intro w hSw; (try dsimp only at hSw); (first | (go_simp; done) | (go_simp; with_reducible rfl))
          try simp only [Act.put, List.setIfInBounds_toArray, List.set_cons_zero, List.set_cons_succ]
          refine wpAnyH_ready (rs := [9]) (by kernel_rfl) (by simp) ?_
          refine AllReadyH.cons (o := ?ox1__9_10) ?hix1__9_10 (fun K hK => ?gx1__9_10) AllReadyH.nil
          case hix1__9_10 => simp only [List.getElem?_toArray, List.getElem?_cons_succ, List.getElem?_cons_zero]; rfl
          case gx1__9_10 =>
            go_simp
            go_at_call 51
            (with_reducible refine (KS.out w5).mono ?_); rintro e w6 ⟨rfl, bw6⟩
            replace BB1 := BB1.trans (bw6.mono BB1.size)
            replace HB := HB.trans (bw6.mono HB.size)
            have zw6 := bw6.size
            refine hK.out _ _ ?_ (fun hHeld => ?_)
            · exact HF1.out _ BB1
            clear hK K
            try simp only [Act.put, List.setIfInBounds_toArray, List.set_cons_zero, List.set_cons_succ]
            refine wpAnyH_take (i := 10) (oi := ?oix1__10_11) (v := ?vx1__10_11) ?hix1__10_11 (by kernel_rfl) (by kernel_rfl) (by kernel_rfl) ?hQx1__10_11 (Or.inl ⟨?hwx1__10_11, ?hyx1__10_11⟩) (by assumption) ?_
            case hix1__10_11 => simp only [List.getElem?_toArray, List.getElem?_cons_succ, List.getElem?_cons_zero]; rfl
            case hQx1__10_11 => exact fun _ _ _ h => h
            case hwx1__10_11 => rfl
            case hyx1__10_11 => intro w hSw; have h4 := HQ.out; (try dsimp only at hSw); (first | (go_simp; done) | (go_simp; with_reducible rfl))
            try simp only [Act.put, List.setIfInBounds_toArray, List.set_cons_zero, List.set_cons_succ]
            refine wpAnyH_take (i := 11) (oi := ?oix1__11_12) (v := ?vx1__11_12) ?hix1__11_12 (by kernel_rfl) (by kernel_rfl) (by kernel_rfl) ?hQx1__11_12 (Or.inl ⟨?hwx1__11_12, ?hyx1__11_12⟩) (by assumption) ?_
            case hix1__11_12 => simp only [List.getElem?_toArray, List.getElem?_cons_succ, List.getElem?_cons_zero]; rfl
            case hQx1__11_12 => exact fun _ _ _ h => h
            case hwx1__11_12 => rfl
            case hyx1__11_12 => intro w hSw; (try dsimp only at hSw); (first | (go_simp; done) | (go_simp; with_reducible rfl))
            try simp only [Act.put, List.setIfInBounds_toArray, List.set_cons_zero, List.set_cons_succ]
            refine wpAnyH_done (by kernel_rfl) ?_ _
            replace o_v2 := owns_below o_v2 BB1
            replace o_v3 := owns_below o_v3 BB1
            clear BB1
            go_wp2
            refine bodyPost_ret (v := .bool false) (by simp [results, Try.results18, go_sem]) rfl ?_
            exact ⟨rfl, HB⟩
theorem asc_pw : ∀ {xs : List Int}, asc xs → xs.Pairwise (· < ·)
  | [], _ => .nil
  | [y], _ => by simp
  | y :: z :: zs, h => by
    have h2 := asc_pw (xs := z :: zs) (fun j hj => by have := h (j + 1) (by simp at hj ⊢; omega); simpa using this)
    have h3 : y < z := by simpa using h 0 (by simp)
    refine List.pairwise_cons.2 ⟨fun u hu => ?_, h2⟩
    rcases List.mem_cons.1 hu with rfl | hu
    · exact h3
    · exact Int.lt_trans h3 ((List.pairwise_cons.1 h2).1 u hu)
theorem ins_count {c : Int} : ∀ {xs : List Int}, xs.Pairwise (· < ·) → ins xs c = xs.take (xs.countP (fun y => decide (y < c))) ++ c :: xs.drop (xs.countP (fun y => decide (y < c)))
  | [], _ => rfl
  | y :: ys, h => by
    obtain ⟨h1, h2⟩ := List.pairwise_cons.1 h
    by_cases hy : y < c
    · have ih := ins_count (c := c) h2
      unfold ins at ih ⊢
      rw [List.takeWhile_cons_of_pos (by simpa using hy), List.dropWhile_cons_of_pos (by simpa using hy), List.countP_cons_of_pos (by simpa using hy), List.take_succ_cons, List.drop_succ_cons, List.cons_append, ih, List.cons_append]
    · have h0 : (y :: ys).countP (fun y => decide (y < c)) = 0 := by
        rw [List.countP_eq_zero]
        intro z hz
        rcases List.mem_cons.1 hz with rfl | hz
        · simpa using hy
        · have := h1 z hz; simp; omega
      rw [h0]
      unfold ins
      rw [List.takeWhile_cons_of_neg (by simpa using hy), List.dropWhile_cons_of_neg (by simpa using hy)]
      rfl
theorem copyInts (w : World) (A : Option Addr) (n c : Nat) (xs : List Int) (hr : Rd w w.heap.size 1 A n (ints .i64 xs)) (hn : n ≤ 16000000) :
    Calls Try.prog 53 #[.slice A n c] w (MadeS 3 1 n (ints .i64 xs) w) := by
  have hr1 := hr.alloc (.cells #[] 3)
  have ho := C6.own_ints w [] 0 rfl (by omega)
  have hs : (w.alloc (.cells #[] 3)).heap.size = w.heap.size + 1 := by simp
  clear hr
  go_enter Try.func53, Try.ntmps53
  go_wp2_with (at_builtin; refine appI _ rfl _ _ rfl w.heap.size (.slice (some ⟨w.heap.size, 0, none⟩) 0 0) 0 _ rfl ho _ A n c _ rfl hr1 (ints_one _ _) (by omega) (by omega) ?_; intro v1 w1 ho1 hg1)
  go_ret
  obtain ⟨A', c', rfl⟩ := own_nil_form ho1
  refine ⟨A', c', by simp, by rw [ints_app, Nat.zero_add] at ho1; exact ho1, ?_⟩
  exact ((Below.refl _ _).alloc (Nat.le_refl _) _).grown hg1 (by omega) (fun k hk => by cases hk; exact Nat.le_refl _)
set_option maxHeartbeats 8000000 in
theorem implRvk (w : World) (x : Fx.VendorList) (v s : Int) (us : List Value) (h : RdsL w w.heap.size x.dcs us) (hsh : ∀ A c, us = [.int .i64 x.Master, .slice A x.Revoked.length c] → Sh A x.Revoked.length c) (hn : x.Revoked.length ≤ 16000000) :
    Calls Try.prog 17 #[.agg us.toArray, .int .i64 v, .int .i64 s] w (MadeLx (rvkX x v s).dcs (fun vs => .tuple #[.agg vs.toArray, .bool (rvkB x v s)]) w) := by
  obtain ⟨A, c, rfl, g⟩ := VendorList.rds h
  have hr := rd_of g
  clear h g hsh
  have KC := Lib.hid (fun (wx : World) (hb : Below w.heap.size w wx) => copyInts wx A x.Revoked.length c x.Revoked (hr.on hb) hn)
  clear hr
  have KV0 := Lib.hid (fun (wx : World) (A : Option Addr) (c : Nat) (hr : Rd wx wx.heap.size 1 A x.Revoked.length (ints .i64 x.Revoked)) => implVl wx x [.int .i64 x.Master, .slice A x.Revoked.length c] (VendorList.mkR (flat_rds hr)) (by omega))
  cases h1 : vlB x with
  | false =>
    have KV := Lib.hid (fun (wx : World) (A : Option Addr) (c : Nat) (hr : Rd wx wx.heap.size 1 A x.Revoked.length (ints .i64 x.Revoked)) => show Calls Try.prog 20 #[.agg #[.int .i64 x.Master, .slice A x.Revoked.length c]] wx (Gives (.bool false) wx) from by have h := KV0.out wx A c hr; rw [h1] at h; exact h)
    have hok : rvkB x v s = false := by unfold rvkB; rw [h1]; simp
    have e1 : rvkX x v s = x := by unfold rvkX; rw [hok]; rfl
    rw [e1, hok]
    clear e1 hok
    clear h1
    go_enter Try.func17, Try.ntmps17
    go_upto_region 1 with fail
    obtain ⟨w1, hw1⟩ : ∃ ww, ww = w.alloc (.cells #[.int .i64 x.Master, .slice A x.Revoked.length c] 27) := ⟨_, rfl⟩
    have o_v3 := var_owns w 27 2 [.int .i64 x.Master, .slice A x.Revoked.length c] rfl
    have bw1 : Below w.heap.size w w1 := hw1 ▸ (Below.refl _ _).alloc (Nat.le_refl _) _
    have sw1 : w1.heap.size = w.heap.size + 1 := by rw [hw1]; simp
    rw [← hw1] at o_v3 ⊢
    have zw1 : w.heap.size < w1.heap.size := by omega
    have HB := bw1
    clear hw1
    obtain ⟨w2, hw2⟩ : ∃ ww, ww = w1.alloc (.cells #[.int .i64 0, .slice none 0 0] 27) := ⟨_, rfl⟩
    have o_v6 := var_owns w1 27 2 [.int .i64 0, .slice none 0 0] rfl
    have bw2 : Below w1.heap.size w1 w2 := hw2 ▸ (Below.refl _ _).alloc (Nat.le_refl _) _
    have sw2 : w2.heap.size = w1.heap.size + 1 := by rw [hw2]; simp
    rw [← hw2] at o_v6 ⊢
    have qw2 : w1.heap.size = w.heap.size + 1 := by omega
    rw [qw2] at o_v6
    clear qw2
    have zw2 : w1.heap.size < w2.heap.size := by omega
    replace o_v3 := owns_below o_v3 bw2
    replace HB := HB.trans (bw2.mono HB.size)
    clear hw2
    clear sw1 sw2
    obtain ⟨c_v30, f_v30, c_v31, f_v31, l_v3⟩ := Vn.v2 o_v3
    go_wp2_with fail
    clear c_v30 f_v30 c_v31 f_v31 l_v3
    (refine (KC.out w2 HB).mono ?_); rintro e w3 ⟨A9, c9, rfl, o_R9, bw3⟩
    replace o_v3 := owns_below o_v3 bw3
    replace o_v6 := owns_below o_v6 bw3
    replace HB := HB.trans (bw3.mono HB.size)
    have zw3 := bw3.size
    have i_R9 := o_R9.lt
    obtain ⟨c_v30, f_v30, c_v31, f_v31, l_v3⟩ := Vn.v2 o_v3
    go_wp2_with fail
    clear c_v30 f_v30 c_v31 f_v31 l_v3
    obtain ⟨w4, hw4⟩ : ∃ ww, ww = (w3.setCell ⟨w.heap.size, 1, none⟩ (.slice A9 x.Revoked.length c9)) := ⟨_, rfl⟩
    obtain ⟨o_new, tw4⟩ := var_some [.slice A9 x.Revoked.length c9] 1 _ _ o_v3 (by simp)
    rw [show setAll w3 (w.heap.size) 1 [.slice A9 x.Revoked.length c9] = w4 from hw4.symm] at o_new tw4
    replace o_v3 : Owns w4 _ (varD 27 2 [.int .i64 x.Master, .slice A9 x.Revoked.length c9]) _ _ := o_new
    clear o_new
    replace o_v6 := owns_turned o_v6 tw4 (fun b hb hb2 => by simp at hb hb2; omega)
    replace o_R9 := Vn.row_turned o_R9 tw4 (fun b hb hb2 => by have h1 := i_R9 b hb; simp at hb2; omega)
    replace HB := below_turned HB tw4 (fun b hb => by simp at hb; omega)
    have zw4 := tw4.2.2.2.1
    rw [← hw4]
    clear hw4
    (refine (KV.out w4 A9 c9 (Rd.own o_R9)).mono ?_); rintro e w5 ⟨rfl, bw5⟩
    replace o_v3 := owns_below o_v3 bw5
    replace o_v6 := owns_below o_v6 bw5
    replace o_R9 := own_below o_R9 bw5
    replace HB := HB.trans (bw5.mono HB.size)
    have zw5 := bw5.size
    obtain ⟨c_v30, f_v30, c_v31, f_v31, l_v3⟩ := Vn.v2 o_v3
    obtain ⟨c_v60, f_v60, c_v61, f_v61, l_v6⟩ := Vn.v2 o_v6
    go_wp2
    clear c_v30 f_v30 c_v31 f_v31 l_v3 c_v60 f_v60 c_v61 f_v61 l_v6
    obtain ⟨w6, hw6⟩ : ∃ ww, ww = ((w5.setCell ⟨(w.heap.size + 1), 0, none⟩ (.int .i64 x.Master)).setCell ⟨(w.heap.size + 1), 1, none⟩ (.slice A9 x.Revoked.length c9)) := ⟨_, rfl⟩
    obtain ⟨o_new, tw6⟩ := var_some [.int .i64 x.Master, .slice A9 x.Revoked.length c9] 0 _ _ o_v6 (by simp)
    rw [show setAll w5 ((w.heap.size + 1)) 0 [.int .i64 x.Master, .slice A9 x.Revoked.length c9] = w6 from hw6.symm] at o_new tw6
    replace o_v6 : Owns w6 _ (varD 27 2 [.int .i64 x.Master, .slice A9 x.Revoked.length c9]) _ _ := o_new
    clear o_new
    replace o_v3 := owns_turned o_v3 tw6 (fun b hb hb2 => by simp at hb hb2; omega)
    replace o_R9 := Vn.row_turned o_R9 tw6 (fun b hb hb2 => by have h1 := i_R9 b hb; simp at hb2; omega)
    replace HB := below_turned HB tw6 (fun b hb => by simp at hb; omega)
    have zw6 := tw6.2.2.2.1
    rw [← hw6]
    clear hw6
    have y_v6_0 : w6.cell? ⟨(w.heap.size + 1), 0, none⟩ = some (.int .i64 x.Master) := var_load o_v6 (by simp) 0 _ rfl
    have y_v6_1 : w6.cell? ⟨(w.heap.size + 1), 1, none⟩ = some (.slice A9 x.Revoked.length c9) := var_load o_v6 (by simp) 1 _ rfl
    refine bodyPost_ret (v := .tuple #[.agg #[.int .i64 x.Master, .slice A9 x.Revoked.length c9], .bool false]) (by simp [results, Try.results17, go_sem, y_v6_0, y_v6_1]) rfl ?_
    exact made_rv rfl rfl rfl (owns_flat (own_base o_R9 (by omega))) (Ra.block_nodup _) HB
  | true =>
    have KV := Lib.hid (fun (wx : World) (A : Option Addr) (c : Nat) (hr : Rd wx wx.heap.size 1 A x.Revoked.length (ints .i64 x.Revoked)) => show Calls Try.prog 20 #[.agg #[.int .i64 x.Master, .slice A x.Revoked.length c]] wx (Gives (.bool true) wx) from by have h := KV0.out wx A c hr; rw [h1] at h; exact h)
    cases h2 : rngB v s with
    | false =>
      have KR := Lib.hid (fun wx : World => show Calls Try.prog 54 #[.int .i64 v, .int .i64 s] wx (fun e w' => e = .returned (.bool false) ∧ wx = w') from by have h := implRng wx v s; rw [h2] at h; exact h)
      have hok : rvkB x v s = false := by unfold rvkB; rw [h1, h2]; simp
      have e1 : rvkX x v s = x := by unfold rvkX; rw [hok]; rfl
      rw [e1, hok]
      clear e1 hok
      clear h1 h2
      go_enter Try.func17, Try.ntmps17
      go_upto_region 1 with fail
      obtain ⟨w1, hw1⟩ : ∃ ww, ww = w.alloc (.cells #[.int .i64 x.Master, .slice A x.Revoked.length c] 27) := ⟨_, rfl⟩
      have o_v3 := var_owns w 27 2 [.int .i64 x.Master, .slice A x.Revoked.length c] rfl
      have bw1 : Below w.heap.size w w1 := hw1 ▸ (Below.refl _ _).alloc (Nat.le_refl _) _
      have sw1 : w1.heap.size = w.heap.size + 1 := by rw [hw1]; simp
      rw [← hw1] at o_v3 ⊢
      have zw1 : w.heap.size < w1.heap.size := by omega
      have HB := bw1
      clear hw1
      obtain ⟨w2, hw2⟩ : ∃ ww, ww = w1.alloc (.cells #[.int .i64 0, .slice none 0 0] 27) := ⟨_, rfl⟩
      have o_v6 := var_owns w1 27 2 [.int .i64 0, .slice none 0 0] rfl
      have bw2 : Below w1.heap.size w1 w2 := hw2 ▸ (Below.refl _ _).alloc (Nat.le_refl _) _
      have sw2 : w2.heap.size = w1.heap.size + 1 := by rw [hw2]; simp
      rw [← hw2] at o_v6 ⊢
      have qw2 : w1.heap.size = w.heap.size + 1 := by omega
      rw [qw2] at o_v6
      clear qw2
      have zw2 : w1.heap.size < w2.heap.size := by omega
      replace o_v3 := owns_below o_v3 bw2
      replace HB := HB.trans (bw2.mono HB.size)
      clear hw2
      clear sw1 sw2
      obtain ⟨c_v30, f_v30, c_v31, f_v31, l_v3⟩ := Vn.v2 o_v3
      go_wp2_with fail
      clear c_v30 f_v30 c_v31 f_v31 l_v3
      (refine (KC.out w2 HB).mono ?_); rintro e w3 ⟨A9, c9, rfl, o_R9, bw3⟩
      replace o_v3 := owns_below o_v3 bw3
      replace o_v6 := owns_below o_v6 bw3
      replace HB := HB.trans (bw3.mono HB.size)
      have zw3 := bw3.size
      have i_R9 := o_R9.lt
      obtain ⟨c_v30, f_v30, c_v31, f_v31, l_v3⟩ := Vn.v2 o_v3
      go_wp2_with fail
      clear c_v30 f_v30 c_v31 f_v31 l_v3
      obtain ⟨w4, hw4⟩ : ∃ ww, ww = (w3.setCell ⟨w.heap.size, 1, none⟩ (.slice A9 x.Revoked.length c9)) := ⟨_, rfl⟩
      obtain ⟨o_new, tw4⟩ := var_some [.slice A9 x.Revoked.length c9] 1 _ _ o_v3 (by simp)
      rw [show setAll w3 (w.heap.size) 1 [.slice A9 x.Revoked.length c9] = w4 from hw4.symm] at o_new tw4
      replace o_v3 : Owns w4 _ (varD 27 2 [.int .i64 x.Master, .slice A9 x.Revoked.length c9]) _ _ := o_new
      clear o_new
      replace o_v6 := owns_turned o_v6 tw4 (fun b hb hb2 => by simp at hb hb2; omega)
      replace o_R9 := Vn.row_turned o_R9 tw4 (fun b hb hb2 => by have h1 := i_R9 b hb; simp at hb2; omega)
      replace HB := below_turned HB tw4 (fun b hb => by simp at hb; omega)
      have zw4 := tw4.2.2.2.1
      rw [← hw4]
      clear hw4
      (refine (KV.out w4 A9 c9 (Rd.own o_R9)).mono ?_); rintro e w5 ⟨rfl, bw5⟩
      replace o_v3 := owns_below o_v3 bw5
      replace o_v6 := owns_below o_v6 bw5
      replace o_R9 := own_below o_R9 bw5
      replace HB := HB.trans (bw5.mono HB.size)
      have zw5 := bw5.size
      go_wp2_with fail
      (refine (KR.out w5).mono ?_); rintro e wz ⟨rfl, rfl⟩
      obtain ⟨c_v30, f_v30, c_v31, f_v31, l_v3⟩ := Vn.v2 o_v3
      obtain ⟨c_v60, f_v60, c_v61, f_v61, l_v6⟩ := Vn.v2 o_v6
      go_wp2
      clear c_v30 f_v30 c_v31 f_v31 l_v3 c_v60 f_v60 c_v61 f_v61 l_v6
      obtain ⟨w6, hw6⟩ : ∃ ww, ww = ((w5.setCell ⟨(w.heap.size + 1), 0, none⟩ (.int .i64 x.Master)).setCell ⟨(w.heap.size + 1), 1, none⟩ (.slice A9 x.Revoked.length c9)) := ⟨_, rfl⟩
      obtain ⟨o_new, tw6⟩ := var_some [.int .i64 x.Master, .slice A9 x.Revoked.length c9] 0 _ _ o_v6 (by simp)
      rw [show setAll w5 ((w.heap.size + 1)) 0 [.int .i64 x.Master, .slice A9 x.Revoked.length c9] = w6 from hw6.symm] at o_new tw6
      replace o_v6 : Owns w6 _ (varD 27 2 [.int .i64 x.Master, .slice A9 x.Revoked.length c9]) _ _ := o_new
      clear o_new
      replace o_v3 := owns_turned o_v3 tw6 (fun b hb hb2 => by simp at hb hb2; omega)
      replace o_R9 := Vn.row_turned o_R9 tw6 (fun b hb hb2 => by have h1 := i_R9 b hb; simp at hb2; omega)
      replace HB := below_turned HB tw6 (fun b hb => by simp at hb; omega)
      have zw6 := tw6.2.2.2.1
      rw [← hw6]
      clear hw6
      have y_v6_0 : w6.cell? ⟨(w.heap.size + 1), 0, none⟩ = some (.int .i64 x.Master) := var_load o_v6 (by simp) 0 _ rfl
      have y_v6_1 : w6.cell? ⟨(w.heap.size + 1), 1, none⟩ = some (.slice A9 x.Revoked.length c9) := var_load o_v6 (by simp) 1 _ rfl
      refine bodyPost_ret (v := .tuple #[.agg #[.int .i64 x.Master, .slice A9 x.Revoked.length c9], .bool false]) (by simp [results, Try.results17, go_sem, y_v6_0, y_v6_1]) rfl ?_
      exact made_rv rfl rfl rfl (owns_flat (own_base o_R9 (by omega))) (Ra.block_nodup _) HB
    | true =>
      have KR := Lib.hid (fun wx : World => show Calls Try.prog 54 #[.int .i64 v, .int .i64 s] wx (fun e w' => e = .returned (.bool true) ∧ wx = w') from by have h := implRng wx v s; rw [h2] at h; exact h)
      have hrc : rcode v s = v * 10000000 + s := by
        unfold rngB at h2
        simp at h2
        unfold rcode
        rw [IntWalk.wrap64_in (v * 10000000) ⟨by omega, by omega⟩, IntWalk.wrap64_in _ ⟨by omega, by omega⟩]
      obtain ⟨cd, hcd⟩ : ∃ cd, cd = rcode v s := ⟨_, rfl⟩
      have KN := Lib.hid (fun wx : World => show Calls Try.prog 55 #[.int .i64 v, .int .i64 s] wx (fun e w' => e = .returned (.int .i64 cd) ∧ wx = w') from by rw [hcd]; exact implNum wx v s)
      have hpw : x.Revoked.Pairwise (· < ·) := by unfold vlB at h1; rw [Bool.and_eq_true] at h1; exact asc_pw (ascB_asc h1.1)
      obtain ⟨k0, hk0⟩ : ∃ k0, k0 = x.Revoked.countP (fun y => decide (y < cd)) := ⟨_, rfl⟩
      have KB0 := Lib.hid (fun (wx : World) (A : Option Addr) (c : Nat) (hr : Rd wx wx.heap.size 1 A x.Revoked.length (ints .i64 x.Revoked)) => show Calls Try.prog 56 #[.slice A x.Revoked.length c, .int .i64 cd] wx (Gives (.tuple #[.int .i64 (k0 : Int), .bool (revB x v s)]) wx) from by
        unfold revB; rw [hk0, ← hcd]; exact Si.search wx A _ c x.Revoked cd hr (by omega) (hpw.imp (fun h => Int.le_of_lt h)))
      have HK0 := Lib.hid (show k0 ≤ x.Revoked.length by rw [hk0]; exact List.countP_le_length)
      cases h3 : revB x v s with
      | true =>
        have KB := Lib.hid (fun (wx : World) (A : Option Addr) (c : Nat) (hr : Rd wx wx.heap.size 1 A x.Revoked.length (ints .i64 x.Revoked)) => show Calls Try.prog 56 #[.slice A x.Revoked.length c, .int .i64 cd] wx (Gives (.tuple #[.int .i64 (k0 : Int), .bool true]) wx) from by have h := KB0.out wx A c hr; rw [h3] at h; exact h)
        have hok : rvkB x v s = false := by unfold rvkB; rw [h1, h2, h3]; simp
        have e1 : rvkX x v s = x := by unfold rvkX; rw [hok]; rfl
        rw [e1, hok]
        clear e1 hok
        clear h1 h2 h3 hrc hcd hpw hk0
        go_enter Try.func17, Try.ntmps17
        go_upto_region 1 with fail
        obtain ⟨w1, hw1⟩ : ∃ ww, ww = w.alloc (.cells #[.int .i64 x.Master, .slice A x.Revoked.length c] 27) := ⟨_, rfl⟩
        have o_v3 := var_owns w 27 2 [.int .i64 x.Master, .slice A x.Revoked.length c] rfl
        have bw1 : Below w.heap.size w w1 := hw1 ▸ (Below.refl _ _).alloc (Nat.le_refl _) _
        have sw1 : w1.heap.size = w.heap.size + 1 := by rw [hw1]; simp
        rw [← hw1] at o_v3 ⊢
        have zw1 : w.heap.size < w1.heap.size := by omega
        have HB := bw1
        clear hw1
        obtain ⟨w2, hw2⟩ : ∃ ww, ww = w1.alloc (.cells #[.int .i64 0, .slice none 0 0] 27) := ⟨_, rfl⟩
        have o_v6 := var_owns w1 27 2 [.int .i64 0, .slice none 0 0] rfl
        have bw2 : Below w1.heap.size w1 w2 := hw2 ▸ (Below.refl _ _).alloc (Nat.le_refl _) _
        have sw2 : w2.heap.size = w1.heap.size + 1 := by rw [hw2]; simp
        rw [← hw2] at o_v6 ⊢
        have qw2 : w1.heap.size = w.heap.size + 1 := by omega
        rw [qw2] at o_v6
        clear qw2
        have zw2 : w1.heap.size < w2.heap.size := by omega
        replace o_v3 := owns_below o_v3 bw2
        replace HB := HB.trans (bw2.mono HB.size)
        clear hw2
        clear sw1 sw2
        obtain ⟨c_v30, f_v30, c_v31, f_v31, l_v3⟩ := Vn.v2 o_v3
        go_wp2_with fail
        clear c_v30 f_v30 c_v31 f_v31 l_v3
        (refine (KC.out w2 HB).mono ?_); rintro e w3 ⟨A9, c9, rfl, o_R9, bw3⟩
        replace o_v3 := owns_below o_v3 bw3
        replace o_v6 := owns_below o_v6 bw3
        replace HB := HB.trans (bw3.mono HB.size)
        have zw3 := bw3.size
        have i_R9 := o_R9.lt
        obtain ⟨c_v30, f_v30, c_v31, f_v31, l_v3⟩ := Vn.v2 o_v3
        go_wp2_with fail
        clear c_v30 f_v30 c_v31 f_v31 l_v3
        obtain ⟨w4, hw4⟩ : ∃ ww, ww = (w3.setCell ⟨w.heap.size, 1, none⟩ (.slice A9 x.Revoked.length c9)) := ⟨_, rfl⟩
        obtain ⟨o_new, tw4⟩ := var_some [.slice A9 x.Revoked.length c9] 1 _ _ o_v3 (by simp)
        rw [show setAll w3 (w.heap.size) 1 [.slice A9 x.Revoked.length c9] = w4 from hw4.symm] at o_new tw4
        replace o_v3 : Owns w4 _ (varD 27 2 [.int .i64 x.Master, .slice A9 x.Revoked.length c9]) _ _ := o_new
        clear o_new
        replace o_v6 := owns_turned o_v6 tw4 (fun b hb hb2 => by simp at hb hb2; omega)
        replace o_R9 := Vn.row_turned o_R9 tw4 (fun b hb hb2 => by have h1 := i_R9 b hb; simp at hb2; omega)
        replace HB := below_turned HB tw4 (fun b hb => by simp at hb; omega)
        have zw4 := tw4.2.2.2.1
        rw [← hw4]
        clear hw4
        (refine (KV.out w4 A9 c9 (Rd.own o_R9)).mono ?_); rintro e w5 ⟨rfl, bw5⟩
        replace o_v3 := owns_below o_v3 bw5
        replace o_v6 := owns_below o_v6 bw5
        replace o_R9 := own_below o_R9 bw5
        replace HB := HB.trans (bw5.mono HB.size)
        have zw5 := bw5.size
        go_wp2_with fail
        (refine (KR.out w5).mono ?_); rintro e wz ⟨rfl, rfl⟩
        go_wp2_with fail
        (refine (KN.out w5).mono ?_); rintro e wz ⟨rfl, rfl⟩
        obtain ⟨c_v30, f_v30, c_v31, f_v31, l_v3⟩ := Vn.v2 o_v3
        go_wp2_with fail
        clear c_v30 f_v30 c_v31 f_v31 l_v3
        (refine (KB.out w5 A9 c9 (Rd.own o_R9)).mono ?_); rintro e w6 ⟨rfl, bw6⟩
        replace o_v3 := owns_below o_v3 bw6
        replace o_v6 := owns_below o_v6 bw6
        replace o_R9 := own_below o_R9 bw6
        replace HB := HB.trans (bw6.mono HB.size)
        have zw6 := bw6.size
        obtain ⟨c_v30, f_v30, c_v31, f_v31, l_v3⟩ := Vn.v2 o_v3
        obtain ⟨c_v60, f_v60, c_v61, f_v61, l_v6⟩ := Vn.v2 o_v6
        go_wp2
        clear c_v30 f_v30 c_v31 f_v31 l_v3 c_v60 f_v60 c_v61 f_v61 l_v6
        obtain ⟨w7, hw7⟩ : ∃ ww, ww = ((w6.setCell ⟨(w.heap.size + 1), 0, none⟩ (.int .i64 x.Master)).setCell ⟨(w.heap.size + 1), 1, none⟩ (.slice A9 x.Revoked.length c9)) := ⟨_, rfl⟩
        obtain ⟨o_new, tw7⟩ := var_some [.int .i64 x.Master, .slice A9 x.Revoked.length c9] 0 _ _ o_v6 (by simp)
        rw [show setAll w6 ((w.heap.size + 1)) 0 [.int .i64 x.Master, .slice A9 x.Revoked.length c9] = w7 from hw7.symm] at o_new tw7
        replace o_v6 : Owns w7 _ (varD 27 2 [.int .i64 x.Master, .slice A9 x.Revoked.length c9]) _ _ := o_new
        clear o_new
        replace o_v3 := owns_turned o_v3 tw7 (fun b hb hb2 => by simp at hb hb2; omega)
        replace o_R9 := Vn.row_turned o_R9 tw7 (fun b hb hb2 => by have h1 := i_R9 b hb; simp at hb2; omega)
        replace HB := below_turned HB tw7 (fun b hb => by simp at hb; omega)
        have zw7 := tw7.2.2.2.1
        rw [← hw7]
        clear hw7
        have y_v6_0 : w7.cell? ⟨(w.heap.size + 1), 0, none⟩ = some (.int .i64 x.Master) := var_load o_v6 (by simp) 0 _ rfl
        have y_v6_1 : w7.cell? ⟨(w.heap.size + 1), 1, none⟩ = some (.slice A9 x.Revoked.length c9) := var_load o_v6 (by simp) 1 _ rfl
        refine bodyPost_ret (v := .tuple #[.agg #[.int .i64 x.Master, .slice A9 x.Revoked.length c9], .bool false]) (by simp [results, Try.results17, go_sem, y_v6_0, y_v6_1]) rfl ?_
        exact made_rv rfl rfl rfl (owns_flat (own_base o_R9 (by omega))) (Ra.block_nodup _) HB
      | false =>
        have KB := Lib.hid (fun (wx : World) (A : Option Addr) (c : Nat) (hr : Rd wx wx.heap.size 1 A x.Revoked.length (ints .i64 x.Revoked)) => show Calls Try.prog 56 #[.slice A x.Revoked.length c, .int .i64 cd] wx (Gives (.tuple #[.int .i64 (k0 : Int), .bool false]) wx) from by have h := KB0.out wx A c hr; rw [h3] at h; exact h)
        have hok : rvkB x v s = true := by unfold rvkB; rw [h1, h2, h3]; rfl
        have e1 : rvkX x v s = ⟨x.Master, ins x.Revoked cd⟩ := by unfold rvkX; rw [hok, hcd, hrc]; rfl
        have hin : x.Revoked.take k0 ++ cd :: x.Revoked.drop k0 = ins x.Revoked cd := by rw [hk0]; exact (ins_count hpw).symm
        have HIN := Lib.hid hin
        have HLN := Lib.hid (show x.Revoked.length + 1 = (x.Revoked.take k0 ++ cd :: x.Revoked.drop k0).length by rw [List.length_append, List.length_cons, List.length_take, List.length_drop]; have := HK0.out; omega)
        rw [e1, hok]
        clear e1 hok hin h1 h2 h3 hrc hcd hpw hk0
        go_enter Try.func17, Try.ntmps17
        go_upto_region 1 with fail
        obtain ⟨w1, hw1⟩ : ∃ ww, ww = w.alloc (.cells #[.int .i64 x.Master, .slice A x.Revoked.length c] 27) := ⟨_, rfl⟩
        have o_v3 := var_owns w 27 2 [.int .i64 x.Master, .slice A x.Revoked.length c] rfl
        have bw1 : Below w.heap.size w w1 := hw1 ▸ (Below.refl _ _).alloc (Nat.le_refl _) _
        have sw1 : w1.heap.size = w.heap.size + 1 := by rw [hw1]; simp
        rw [← hw1] at o_v3 ⊢
        have zw1 : w.heap.size < w1.heap.size := by omega
        have HB := bw1
        clear hw1
        obtain ⟨w2, hw2⟩ : ∃ ww, ww = w1.alloc (.cells #[.int .i64 0, .slice none 0 0] 27) := ⟨_, rfl⟩
        have o_v6 := var_owns w1 27 2 [.int .i64 0, .slice none 0 0] rfl
        have bw2 : Below w1.heap.size w1 w2 := hw2 ▸ (Below.refl _ _).alloc (Nat.le_refl _) _
        have sw2 : w2.heap.size = w1.heap.size + 1 := by rw [hw2]; simp
        rw [← hw2] at o_v6 ⊢
        have qw2 : w1.heap.size = w.heap.size + 1 := by omega
        rw [qw2] at o_v6
        clear qw2
        have zw2 : w1.heap.size < w2.heap.size := by omega
        replace o_v3 := owns_below o_v3 bw2
        replace HB := HB.trans (bw2.mono HB.size)
        clear hw2
        clear sw1 sw2
        obtain ⟨c_v30, f_v30, c_v31, f_v31, l_v3⟩ := Vn.v2 o_v3
        go_wp2_with fail
        clear c_v30 f_v30 c_v31 f_v31 l_v3
        (refine (KC.out w2 HB).mono ?_); rintro e w3 ⟨A9, c9, rfl, o_R9, bw3⟩
        replace o_v3 := owns_below o_v3 bw3
        replace o_v6 := owns_below o_v6 bw3
        replace HB := HB.trans (bw3.mono HB.size)
        have zw3 := bw3.size
        have i_R9 := o_R9.lt
        obtain ⟨c_v30, f_v30, c_v31, f_v31, l_v3⟩ := Vn.v2 o_v3
        go_wp2_with fail
        clear c_v30 f_v30 c_v31 f_v31 l_v3
        obtain ⟨w4, hw4⟩ : ∃ ww, ww = (w3.setCell ⟨w.heap.size, 1, none⟩ (.slice A9 x.Revoked.length c9)) := ⟨_, rfl⟩
        obtain ⟨o_new, tw4⟩ := var_some [.slice A9 x.Revoked.length c9] 1 _ _ o_v3 (by simp)
        rw [show setAll w3 (w.heap.size) 1 [.slice A9 x.Revoked.length c9] = w4 from hw4.symm] at o_new tw4
        replace o_v3 : Owns w4 _ (varD 27 2 [.int .i64 x.Master, .slice A9 x.Revoked.length c9]) _ _ := o_new
        clear o_new
        replace o_v6 := owns_turned o_v6 tw4 (fun b hb hb2 => by simp at hb hb2; omega)
        replace o_R9 := Vn.row_turned o_R9 tw4 (fun b hb hb2 => by have h1 := i_R9 b hb; simp at hb2; omega)
        replace HB := below_turned HB tw4 (fun b hb => by simp at hb; omega)
        have zw4 := tw4.2.2.2.1
        rw [← hw4]
        clear hw4
        (refine (KV.out w4 A9 c9 (Rd.own o_R9)).mono ?_); rintro e w5 ⟨rfl, bw5⟩
        replace o_v3 := owns_below o_v3 bw5
        replace o_v6 := owns_below o_v6 bw5
        replace o_R9 := own_below o_R9 bw5
        replace HB := HB.trans (bw5.mono HB.size)
        have zw5 := bw5.size
        go_wp2_with fail
        (refine (KR.out w5).mono ?_); rintro e wz ⟨rfl, rfl⟩
        go_wp2_with fail
        (refine (KN.out w5).mono ?_); rintro e wz ⟨rfl, rfl⟩
        obtain ⟨c_v30, f_v30, c_v31, f_v31, l_v3⟩ := Vn.v2 o_v3
        go_wp2_with fail
        clear c_v30 f_v30 c_v31 f_v31 l_v3
        (refine (KB.out w5 A9 c9 (Rd.own o_R9)).mono ?_); rintro e w6 ⟨rfl, bw6⟩
        replace o_v3 := owns_below o_v3 bw6
        replace o_v6 := owns_below o_v6 bw6
        replace o_R9 := own_below o_R9 bw6
        replace HB := HB.trans (bw6.mono HB.size)
        have zw6 := bw6.size
        obtain ⟨c_v30, f_v30, c_v31, f_v31, l_v3⟩ := Vn.v2 o_v3
        go_wp2_with fail
        clear c_v30 f_v30 c_v31 f_v31 l_v3
        obtain ⟨w7, hw7⟩ : ∃ ww, ww = w6.alloc (.cells #[.int .i64 cd] 3) := ⟨_, rfl⟩
        have o_R41 : (w6.alloc (.cells #[.int .i64 cd] 3)).ownsRow w6.heap.size 3 1 (.slice (some ⟨w6.heap.size, 0, none⟩) 1 1) 1 (ints .i64 [cd]) := C6.own_ints w6 [cd] 1 rfl (by omega)
        have bw7 : Below w6.heap.size w6 w7 := hw7 ▸ (Below.refl _ _).alloc (Nat.le_refl _) _
        have sw7 : w7.heap.size = w6.heap.size + 1 := by rw [hw7]; simp
        rw [← hw7] at o_R41 ⊢
        have zw7 : w6.heap.size < w7.heap.size := by omega
        replace o_v3 := owns_below o_v3 bw7
        replace o_v6 := owns_below o_v6 bw7
        replace o_R9 := own_below o_R9 bw7
        replace HB := HB.trans (bw7.mono HB.size)
        have i_R41 := o_R41.lt
        clear hw7
        clear sw7
        have hne : Value.ownBlock (.slice A9 x.Revoked.length c9) ≠ some (w6.heap.size) := fun he => by have h1 := i_R9 _ he; have h2 := i_R41 _ rfl; omega
        (refine (Si.insert w7 (w2.heap.size) A9 x.Revoked.length c9 k0 _ x.Revoked cd _ o_R9 o_R41 hne HK0.out (by omega) (by omega)).mono ?_); rintro e w8 ⟨A8, c8, rfl, o_R8, gw8⟩
        have Tw8 := turned_grown gw8
        have Qw8 : ∀ b, b ∈ Option.toList (Value.ownBlock (.slice A9 x.Revoked.length c9)) → w2.heap.size ≤ b := fun b hb => (o_R9.lt b (by simpa using hb)).1
        replace o_v3 := owns_turned o_v3 Tw8 (fun b hb hb2 => by have h1 := Qw8 b hb2; simp at hb; omega)
        replace o_v6 := owns_turned o_v6 Tw8 (fun b hb hb2 => by have h1 := Qw8 b hb2; simp at hb; omega)
        clear o_R9 i_R9
        clear o_R41 i_R41
        replace HB := below_turned HB Tw8 (fun b hb => by have h1 := Qw8 b hb; omega)
        have zw8 := gw8.size
        have i_R8 := o_R8.lt
        clear hne
        obtain ⟨c_v30, f_v30, c_v31, f_v31, l_v3⟩ := Vn.v2 o_v3
        obtain ⟨c_v60, f_v60, c_v61, f_v61, l_v6⟩ := Vn.v2 o_v6
        go_wp2
        clear c_v30 f_v30 c_v31 f_v31 l_v3 c_v60 f_v60 c_v61 f_v61 l_v6
        obtain ⟨w9, hw9⟩ : ∃ ww, ww = (w8.setCell ⟨w.heap.size, 1, none⟩ (.slice A8 ((x.Revoked.length + 1)) c8)) := ⟨_, rfl⟩
        obtain ⟨o_new, tw9⟩ := var_some [.slice A8 ((x.Revoked.length + 1)) c8] 1 _ _ o_v3 (by simp)
        rw [show setAll w8 (w.heap.size) 1 [.slice A8 ((x.Revoked.length + 1)) c8] = w9 from hw9.symm] at o_new tw9
        replace o_v3 : Owns w9 _ (varD 27 2 [.int .i64 x.Master, .slice A8 ((x.Revoked.length + 1)) c8]) _ _ := o_new
        clear o_new
        replace o_v6 := owns_turned o_v6 tw9 (fun b hb hb2 => by simp at hb hb2; omega)
        replace o_R8 := Vn.row_turned o_R8 tw9 (fun b hb hb2 => by have h1 := i_R8 b hb; simp at hb2; omega)
        replace HB := below_turned HB tw9 (fun b hb => by simp at hb; omega)
        have zw9 := tw9.2.2.2.1
        rw [← hw9]
        clear hw9
        obtain ⟨w10, hw10⟩ : ∃ ww, ww = ((w9.setCell ⟨(w.heap.size + 1), 0, none⟩ (.int .i64 x.Master)).setCell ⟨(w.heap.size + 1), 1, none⟩ (.slice A8 ((x.Revoked.length + 1)) c8)) := ⟨_, rfl⟩
        obtain ⟨o_new, tw10⟩ := var_some [.int .i64 x.Master, .slice A8 ((x.Revoked.length + 1)) c8] 0 _ _ o_v6 (by simp)
        rw [show setAll w9 ((w.heap.size + 1)) 0 [.int .i64 x.Master, .slice A8 ((x.Revoked.length + 1)) c8] = w10 from hw10.symm] at o_new tw10
        replace o_v6 : Owns w10 _ (varD 27 2 [.int .i64 x.Master, .slice A8 ((x.Revoked.length + 1)) c8]) _ _ := o_new
        clear o_new
        replace o_v3 := owns_turned o_v3 tw10 (fun b hb hb2 => by simp at hb hb2; omega)
        replace o_R8 := Vn.row_turned o_R8 tw10 (fun b hb hb2 => by have h1 := i_R8 b hb; simp at hb2; omega)
        replace HB := below_turned HB tw10 (fun b hb => by simp at hb; omega)
        have zw10 := tw10.2.2.2.1
        rw [← hw10]
        clear hw10
        have y_v6_0 : w10.cell? ⟨(w.heap.size + 1), 0, none⟩ = some (.int .i64 x.Master) := var_load o_v6 (by simp) 0 _ rfl
        have y_v6_1 : w10.cell? ⟨(w.heap.size + 1), 1, none⟩ = some (.slice A8 ((x.Revoked.length + 1)) c8) := var_load o_v6 (by simp) 1 _ rfl
        refine bodyPost_ret (v := .tuple #[.agg #[.int .i64 x.Master, .slice A8 ((x.Revoked.length + 1)) c8], .bool true]) (by simp [results, Try.results17, go_sem, y_v6_0, y_v6_1]) rfl ?_
        exact made_rv (x := ⟨x.Master, ins x.Revoked cd⟩) HIN.out rfl HLN.out (owns_flat (own_base o_R8 (by omega))) (Ra.block_nodup _) HB
end Go.Proofs.Ytpeagjpcdoegoaa.C11i
