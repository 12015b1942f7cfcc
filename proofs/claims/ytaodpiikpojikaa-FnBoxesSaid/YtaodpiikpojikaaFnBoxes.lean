/-
  laws.FnBoxes returns true at every code, and leaves it as it was: a box is opened by its addressee only, a changed one by nobody, also among several. Conditions: none.
-/
import Derived.Test.YtaodpiikpojikaaFr
import Derived.Stop.Joined
import Derived.Test.YtaodpiikpojikaaC0
import Derived.Test.YtaodpiikpojikaaCd
import Derived.Test.YtaodpiikpojikaaSo
import Derived.Test.YtaodpiikpojikaaS2
import Derived.Test.YtaodpiikpojikaaL0
import Derived.Test.YtaodpiikpojikaaC6
import Derived.Test.YtaodpiikpojikaaFx
import Derived.Test.YtaodpiikpojikaaM11
import Derived.Test.YtaodpiikpojikaaC8k
import Derived.Deep.DeepCutAuto
import Derived.Deep.RegionWith
import Derived.Deep.RegionLaw
import Derived.Deep.RegionHeld3
namespace Go.Proofs.Ytaodpiikpojikaa.fnBoxes
open Go.ChangeShapes Go.WideShapes Go.ChangeAt Go.RowKit
set_option linter.unusedVariables false

open S0 S1 C3 M3 M8 S9 S10 Ty Dm Bx Fx M10 M11
theorem byte_row (w : World) (x y z : Int) : (w.alloc (.cells #[.int .u8 x, .int .u8 y, .int .u8 z] 5)).ownsRow w.heap.size 5 1 (.slice (some ⟨w.heap.size, 0, none⟩) 3 3) 3 (ints .u8 [x, y, z]) := by
  have h := own_lit w #[.int .u8 x, .int .u8 y, .int .u8 z] 3 w.heap.size 5 (Nat.le_refl _) rfl (by unfold maxLen; omega)
  exact h
theorem sealed_ok {p e : Int} {xs : List Int} (hp : key p) (he : key e) (hl : xs.length ≤ 200) : (sealed p e xs).ok := by
  refine ⟨?_, ?_, ?_, ?_, ?_⟩
  · rw [sealed_to]; exact ⟨by have := hp.1; omega, by have := hp.2; omega⟩
  · rw [sealed_eph]; exact ⟨by have := he.1; omega, by have := he.2; omega⟩
  · rw [sealed_data, enc_len]; unfold maxLen; omega
  · rw [sealed_data]; exact enc_ok _ _
  · rw [sealed_mac]; have := khash_in (bkey (prv p) e) ([167, p, e] ++ b2i (encL (bkey (prv p) e) xs)); unfold inP at this; omega
theorem two_wt (p e p2 e2 : Int) (xs : List Int) (hl : xs.length = 3) : wt (boxesD [sealed p e xs, sealed p2 e2 xs]) = 8 := by
  rw [Bs.wt_boxes]
  simp only [List.flatMap_cons, List.flatMap_nil, wtL_app, Bs.wt_box, sealed_data, enc_len, hl, wtL, List.length_cons, List.length_nil]
theorem xor_all : (List.range 256).all (fun n => decide (bits BinOp.xor IntKind.u8 (n : Int) 16 ≠ (n : Int) ∧ 0 ≤ bits BinOp.xor IntKind.u8 (n : Int) 16 ∧ bits BinOp.xor IntKind.u8 (n : Int) 16 ≤ 255)) = true := by decide +kernel
theorem xor_ne (z : Int) (h0 : 0 ≤ z) (h1 : z ≤ 255) : bits BinOp.xor IntKind.u8 z 16 ≠ z ∧ 0 ≤ bits BinOp.xor IntKind.u8 z 16 ∧ bits BinOp.xor IntKind.u8 z 16 ≤ 255 := by
  obtain ⟨n, rfl⟩ : ∃ n : Nat, z = (n : Int) := ⟨z.toNat, by omega⟩
  exact of_decide_eq_true (List.all_eq_true.1 xor_all n (List.mem_range.2 (by omega)))
set_option maxHeartbeats 8000000 in
set_option maxRecDepth 100000 in
theorem walkSmall (A0 : Option Addr) (n0 c0 : Nat) (xs0 : List Int) (hl : ¬ 1048576 < n0) (W : World) (hr : Rd W W.heap.size 1 A0 n0 (ints .u8 xs0)) (hx : ∀ x ∈ xs0, 0 ≤ x ∧ x ≤ 255) :
    Calls Try.prog 3 #[.slice A0 n0 c0] W fun e w' => e = .returned (.bool true) ∧ Below W.heap.size W w' := by
  have HR := Lib.hid hr
  have HX := Lib.hid hx
  have hn0 : n0 ≤ 1048576 := by omega
  have HA := Lib.hid (fun i => L0.atv_bd xs0 i hx)
  have HB : Below W.heap.size W W := Below.refl _ _
  clear hr hx
  go_enter Try.func3, Try.ntmps3
  go_wp2_with fail
  (with_reducible refine (Cd.big_no A0 n0 c0 _ hl).mono ?_); rintro e w0 ⟨rfl, rfl⟩
  obtain ⟨ka, kb⟩ := HA.out 0
  go_wp2_with fail
  (with_reducible refine (L0.at_is _ A0 n0 c0 xs0 0 0 rfl (HR.out.on HB) HX.out hn0 (by omega)).mono ?_); rintro e w0 ⟨rfl, rfl⟩
  obtain ⟨k, hk0⟩ : ∃ x, x = L0.atv xs0 0 := ⟨_, rfl⟩
  rw [← hk0] at ka kb ⊢
  clear hk0
  obtain ⟨xa, xb⟩ := HA.out 1
  go_wp2_with fail
  (with_reducible refine (L0.at_is _ A0 n0 c0 xs0 1 1 rfl (HR.out.on HB) HX.out hn0 (by omega)).mono ?_); rintro e w0 ⟨rfl, rfl⟩
  obtain ⟨x, hx0⟩ : ∃ x, x = L0.atv xs0 1 := ⟨_, rfl⟩
  rw [← hx0] at xa xb ⊢
  clear hx0
  obtain ⟨ya, yb⟩ := HA.out 2
  go_wp2_with fail
  (with_reducible refine (L0.at_is _ A0 n0 c0 xs0 2 2 rfl (HR.out.on HB) HX.out hn0 (by omega)).mono ?_); rintro e w0 ⟨rfl, rfl⟩
  obtain ⟨y, hy0⟩ : ∃ x, x = L0.atv xs0 2 := ⟨_, rfl⟩
  rw [← hy0] at ya yb ⊢
  clear hy0
  have hk : key (1 + k) := ⟨by omega, by omega⟩
  have hk2 : key (1 + k + 1) := ⟨by omega, by omega⟩
  have hpk := pub_key hk
  have HK := Lib.hid hk
  have HK2 := Lib.hid hk2
  have HPK := Lib.hid hpk
  clear hk hk2 hpk
  have HXS := Lib.hid (show ∀ z ∈ [x, y, 3], 0 ≤ z ∧ z ≤ 255 from fun z hz => by simp at hz; omega)
  obtain ⟨xs, hxs⟩ : ∃ l, l = [x, y, 3] := ⟨_, rfl⟩
  rw [← hxs] at HXS
  have hxl : xs.length = 3 := by rw [hxs]; rfl
  have hwx : wt (bytesD xs) ≤ 1048576 := by rw [wt_bytesD, hxl]; omega
  have o_d : Owns (W.alloc (.cells #[.int .u8 x, .int .u8 y, .int .u8 3] 5)) W.heap.size (bytesD xs) (.slice (some ⟨W.heap.size, 0, none⟩) 3 3) [W.heap.size] := by
    have h := byte_row W x y 3
    rw [← hxs] at h
    unfold bytesD
    rw [hxl]
    exact owns_flat h
  replace HB : Below W.heap.size W (W.alloc (.cells #[.int .u8 x, .int .u8 y, .int .u8 3] 5)) := (Below.refl _ _).alloc (Nat.le_refl _) _
  have HXL := Lib.hid hxl
  have HWX := Lib.hid hwx
  clear hxs hxl hwx
  go_wp2_with fail
  obtain ⟨w1, hw1⟩ : ∃ z, z = W.alloc (.cells #[.int .u8 x, .int .u8 y, .int .u8 3] 5) := ⟨_, rfl⟩
  rw [← hw1] at o_d HB ⊢
  clear hw1
  (with_reducible refine (C6.specPub (1 + k) _).mono ?_); rintro e w0 ⟨rfl, rfl⟩
  obtain ⟨p, hp0⟩ : ∃ z, z = pub (1 + k) := ⟨_, rfl⟩
  rw [← hp0] at HPK ⊢
  have HP := Lib.hid hp0
  clear hp0
  obtain ⟨ea, eb⟩ := HA.out 3
  go_wp2_with fail
  (with_reducible refine (L0.at_is _ A0 n0 c0 xs0 3 3 rfl (HR.out.on HB) HX.out hn0 (by omega)).mono ?_); rintro e w0 ⟨rfl, rfl⟩
  obtain ⟨q, hq0⟩ : ∃ z, z = L0.atv xs0 3 := ⟨_, rfl⟩
  rw [← hq0] at ea eb ⊢
  clear hq0
  have HQ := Lib.hid (show key (1 + q) from ⟨by omega, by omega⟩)
  go_wp2_with fail
  have hpa : -9223372036854775808 ≤ p := by have h := HPK.out.1; omega
  have hpb : p ≤ 9223372036854775807 := by have h := HPK.out.2; omega
  (with_reducible refine (C8i.implSeal _ p (1 + q) xs _ (owns_rds _ _ _ o_d) HXS.out HWX.out hpa hpb).mono ?_); rintro e w2 ⟨v_b, s_b, rfl, o_b, n_b, b2⟩
  clear hpa hpb
  obtain ⟨hs1, hs2⟩ := seal_ok (xs := xs) HPK.out HQ.out (by rw [HXL.out]; omega)
  rw [hs1]
  rw [hs2] at o_b
  obtain ⟨X, hX⟩ : ∃ z, z = sealed p (1 + q) xs := ⟨_, rfl⟩
  rw [← hX] at o_b
  have hX3 : X.data.length = 3 := by rw [hX, sealed_data, enc_len, HXL.out]
  have HXX := Lib.hid hX
  have HXok := Lib.hid (show X.ok from by
    have h1 := HPK.out
    have h2 := HQ.out
    refine ⟨?_, ?_, ?_, ?_, ?_⟩
    · rw [hX, sealed_to]; exact ⟨by have := h1.1; omega, by have := h1.2; omega⟩
    · rw [hX, sealed_eph]; exact ⟨by have := h2.1; omega, by have := h2.2; omega⟩
    · rw [hX3]; unfold maxLen; omega
    · rw [hX, sealed_data]; exact enc_ok _ _
    · rw [hX, sealed_mac]; have := khash_in (bkey (prv p) (1 + q)) ([167, p, 1 + q] ++ b2i (encL (bkey (prv p) (1 + q)) xs)); unfold inP at this; omega)
  have HXw := Lib.hid (show wtL X.dcs ≤ 1048576 from by rw [Bs.wt_box, hX3]; omega)
  obtain ⟨A_b, c_b, rfl, r_b, rfl⟩ := Box.owns o_b
  rw [hX3] at o_b r_b ⊢
  rw [hX3] at n_b
  clear hs1 hs2 hX
  replace o_d := owns_below o_d b2
  replace HB := HB.trans (b2.mono HB.size)
  clear b2
  go_wp2_with fail
  obtain ⟨w3, hw3⟩ : ∃ z, z = w2.alloc (.cells #[.int .i64 X.to, .int .i64 X.eph, .slice A_b 3 c_b, .int .i64 X.mac] 26) := ⟨_, rfl⟩
  have o_v := Fx.var_owns w2 26 4 [.int .i64 X.to, .int .i64 X.eph, .slice A_b 3 c_b, .int .i64 X.mac] rfl
  have b3 : Below w2.heap.size w2 w3 := hw3 ▸ (Below.refl _ _).alloc (Nat.le_refl _) _
  rw [← hw3] at o_v ⊢
  clear hw3
  have n_v : [w2.heap.size].Nodup := by simp
  replace o_d := owns_below o_d b3
  replace o_b := ownsL_below o_b b3
  replace HB := HB.trans (b3.mono HB.size)
  clear b3
  have hO1 : openOk (1 + k) X = true ∧ openB (1 + k) X = xs := by rw [HXX.out, HP.out]; exact open_own HK.out HQ.out (by rw [HXL.out]; omega) HXS.out
  have HO2 := Lib.hid (show openOk (1 + k + 1) X = false from open_other (k := 1 + k) HK.out (fun _ h => by omega) (by rw [HXX.out, sealed_to, HP.out]))
  have HO1 := Lib.hid hO1
  clear hO1
  (with_reducible refine (C8j.implOpen _ (1 + k) X _ (ownsL_rds _ _ _ o_b) HXok.out HXw.out).mono ?_); rintro e w4 ⟨v_o, s_o, rfl, o_o, n_o, b4⟩
  rw [HO1.out.1]
  rw [HO1.out.2] at o_o
  replace o_d := owns_below o_d b4
  replace o_b := ownsL_below o_b b4
  replace o_v := owns_below o_v b4
  replace HB := HB.trans (b4.mono HB.size)
  have z4 := b4.size
  clear b4
  have d0 : w4.cell? ⟨w2.heap.size, 0, none⟩ = some (.int .i64 X.to) := var_load o_v n_v 0 _ rfl
  have d1 : w4.cell? ⟨w2.heap.size, 1, none⟩ = some (.int .i64 X.eph) := var_load o_v n_v 1 _ rfl
  have d2 : w4.cell? ⟨w2.heap.size, 2, none⟩ = some (.slice A_b 3 c_b) := var_load o_v n_v 2 _ rfl
  have d3 : w4.cell? ⟨w2.heap.size, 3, none⟩ = some (.int .i64 X.mac) := var_load o_v n_v 3 _ rfl
  have d4 : w2.heap.size < w4.heap.size := var_lt o_v
  go_wp2_with fail
  clear d0 d1 d2 d3 d4
  (with_reducible refine (C8j.implOpen _ (1 + k + 1) X _ (ownsL_rds _ _ _ o_b) HXok.out HXw.out).mono ?_); rintro e w5 ⟨v_n, s_n, rfl, -, -, b5⟩
  rw [HO2.out]
  replace o_d := owns_below o_d b5
  replace o_b := ownsL_below o_b b5
  replace o_v := owns_below o_v b5
  replace o_o := owns_below o_o b5
  replace HB := HB.trans (b5.mono HB.size)
  have z5 := b5.size
  clear b5
  have d0 : w5.cell? ⟨w2.heap.size, 0, none⟩ = some (.int .i64 X.to) := var_load o_v n_v 0 _ rfl
  have d1 : w5.cell? ⟨w2.heap.size, 1, none⟩ = some (.int .i64 X.eph) := var_load o_v n_v 1 _ rfl
  have d2 : w5.cell? ⟨w2.heap.size, 2, none⟩ = some (.slice A_b 3 c_b) := var_load o_v n_v 2 _ rfl
  have d3 : w5.cell? ⟨w2.heap.size, 3, none⟩ = some (.int .i64 X.mac) := var_load o_v n_v 3 _ rfl
  have d4 : w2.heap.size < w5.heap.size := var_lt o_v
  have hbw5 := HB.size
  have i_d := owns_in _ _ _ o_d
  have i_b := ownsL_in _ _ _ o_b
  have i_v := owns_in _ _ _ o_v
  have i_o := owns_in _ _ _ o_o
  go_upto_region 9 with fail
  clear d0 d1 d2 d3 d4
  obtain ⟨w6, hw6⟩ : ∃ z, z = w5.alloc (.cells #[.int .i64 X.to, .int .i64 X.eph, .slice A_b 3 c_b, .int .i64 X.mac] 26) := ⟨_, rfl⟩
  have o_u := Fx.var_owns w5 26 4 [.int .i64 X.to, .int .i64 X.eph, .slice A_b 3 c_b, .int .i64 X.mac] rfl
  have b6 : Below w5.heap.size w5 w6 := hw6 ▸ (Below.refl _ _).alloc (Nat.le_refl _) _
  rw [← hw6] at o_u ⊢
  clear hw6
  have n_u : [w5.heap.size].Nodup := by simp
  replace o_d := owns_below o_d b6
  replace o_b := ownsL_below o_b b6
  replace o_v := owns_below o_v b6
  replace o_o := owns_below o_o b6
  replace HB := HB.trans (b6.mono HB.size)
  have z6 := b6.size
  have hB56 := b6
  have HB5 : W.heap.size ≤ w5.heap.size := hbw5
  clear b6
  have OE := Lib.hid (own_lit w6 #[] 0 w6.heap.size 5 (Nat.le_refl _) rfl (by unfold maxLen; omega))
  have RB := Lib.hid (show Rd (w6.alloc (.cells #[] 5)) (w6.alloc (.cells #[] 5)).heap.size 1 A_b 3 (ints .u8 X.data) from by
    obtain ⟨A', c', hv, ho, _⟩ := Box.owns o_b
    injection hv with _ hv; injection hv with _ hv; injection hv with hv _
    rw [hX3] at hv ho
    rw [← hv] at ho
    exact (Rd.own ho).alloc _)
  have d2 : w6.cell? ⟨w2.heap.size, 2, none⟩ = some (.slice A_b 3 c_b) := var_load o_v n_v 2 _ rfl
  have d4 : w2.heap.size < w6.heap.size := var_lt o_v
  have hlt5 : w5.heap.size < w6.heap.size := var_lt o_u
  have OU := Lib.hid o_u
  go_upto_region 12 with (at_builtin; refine S1.appB _ rfl _ _ rfl w6.heap.size (.slice (some ⟨w6.heap.size, 0, none⟩) 0 0) 0 _ rfl OE.out _ A_b 3 c_b _ rfl RB.out (ints_one _ _) (by omega) (by simp) ?_; intro v7 w7 o7 g7; have b7 := Lib.hid (show Below w6.heap.size w6 w7 from ((Below.refl _ _).alloc (Nat.le_refl _) _).grown g7 (by simp) (fun j hj => (OE.out.lt j hj).1)); have c7 : w7.cell? ⟨w5.heap.size, 2, none⟩ = some (.slice A_b 3 c_b) := var_load (owns_below OU.out b7.out) n_u 2 _ rfl; have f7 : w7.frozen? ⟨w5.heap.size, 2, none⟩ = false := var_frozen (owns_below OU.out b7.out) n_u 2 _ rfl; obtain ⟨A7, k7, rfl⟩ := own_nil_form o7)
  rw [Nat.zero_add] at o7
  have o7 : w7.ownsRow w6.heap.size 5 1 (.slice A7 3 k7) 3 (ints .u8 X.data) := by simpa using o7
  obtain ⟨gb, cap7, hv7, hg7, hg7l⟩ := o7.form (by omega)
  injection hv7 with hv7 _ hk7
  subst hv7 hk7
  obtain ⟨w8, hw8⟩ : ∃ z, z = w7.setCell ⟨w5.heap.size, 2, none⟩ (.slice (some ⟨gb, 0, none⟩) 3 k7) := ⟨_, rfl⟩
  rw [← hw8]
  have o8 : w8.ownsRow w6.heap.size 5 1 (.slice (some ⟨gb, 0, none⟩) 3 k7) 3 (ints .u8 X.data) := hw8 ▸ ownsRow_setCell_below o7 (a := ⟨w5.heap.size, 2, none⟩) (by show w5.heap.size < _; exact hlt5) _
  have u8 : w8.cell? ⟨w5.heap.size, 2, none⟩ = some (.slice (some ⟨gb, 0, none⟩) 3 k7) := hw8 ▸ set_same c7
  have hB8 : Below w5.heap.size w5 w8 := hw8 ▸ ((show Below w5.heap.size w5 w7 from (show Below w5.heap.size w5 w6 from hB56).trans (b7.out.mono z6)).setCell (Nat.le_refl _) _)
  have HB8 : Below W.heap.size W w8 := hw8 ▸ (HB.trans (b7.out.mono HB.size)).setCell (by show W.heap.size ≤ w5.heap.size; have := HB5; omega) _
  obtain ⟨a0, a1⟩ := HA.out 4
  obtain ⟨a, ha⟩ : ∃ a : Nat, L0.atv xs0 4 = (a : Int) := ⟨(L0.atv xs0 4).toNat, by omega⟩
  have HAA := Lib.hid ha
  rw [ha] at a0 a1
  have hi3 : a % 3 < 3 := Nat.mod_lt _ (by omega)
  obtain ⟨hg8, _, e8, f8⟩ := stored_at o8 (a % 3) hi3
  obtain ⟨z, hz⟩ : ∃ z, z = X.data.getD (a % 3) 0 := ⟨_, rfl⟩
  have hzr : 0 ≤ z ∧ z ≤ 255 := by
    rw [hz, List.getD_eq_getElem?_getD, List.getElem?_eq_getElem (by omega)]
    exact HXok.out.data _ (List.getElem_mem _)
  rw [← hz] at e8
  obtain ⟨zr0, zr1⟩ := hzr
  have R8 := Lib.hid (fun (wx : World) (hb : Below w8.heap.size w8 wx) => (HR.out.on HB8).on hb)
  have hk8 := Lib.hid (show ∀ b, b < w5.heap.size → w8.heap[b]? = w6.heap[b]? from fun b hb => by
    rw [hw8, heap_setCell_other w7 ⟨w5.heap.size, 2, none⟩ b _ (by show b ≠ w5.heap.size; omega)]
    exact b7.out.block b (by omega))
  have ou7 := owns_below OU.out b7.out
  have v0 : w8.cell? ⟨w5.heap.size, 0, none⟩ = some (.int .i64 X.to) := hw8 ▸ (set_off (by omega)).trans (var_load ou7 n_u 0 _ rfl)
  have v1 : w8.cell? ⟨w5.heap.size, 1, none⟩ = some (.int .i64 X.eph) := hw8 ▸ (set_off (by omega)).trans (var_load ou7 n_u 1 _ rfl)
  have v3 : w8.cell? ⟨w5.heap.size, 3, none⟩ = some (.int .i64 X.mac) := hw8 ▸ (set_off (by omega)).trans (var_load ou7 n_u 3 _ rfl)
  have V8 := Lib.hid (And.intro v0 (And.intro v1 v3))
  have hlt8 : w5.heap.size < w8.heap.size := by have := b7.out.size; rw [hw8]; simp; omega
  clear v0 v1 v3 ou7
  have HZ := Lib.hid hz
  obtain ⟨i, hi⟩ : ∃ i, i = a % 3 := ⟨_, rfl⟩
  rw [← hi] at hi3 e8 f8 HZ
  have ht : (a : Int).tmod 3 = (i : Int) := by rw [hi, Int.tmod_eq_emod_of_nonneg (by omega)]; omega
  have i1 : (i : Int) < 3 := by omega
  have i2 : (0 : Int) ≤ (i : Int) := by omega
  clear hi
  have hbb5 := hB56.size
  clear c7 f7 hw8 hz ha d2 d4 o7 g7
  obtain ⟨yv, hyv⟩ : ∃ yv, yv = bits BinOp.xor IntKind.u8 z 16 := ⟨_, rfl⟩
  have hyx := xor_ne z zr0 zr1
  rw [← hyv] at hyx
  go_cut [1] (fun v wx => v = undef ∧ wx = (w8.drewN 1).setCell ⟨gb, i, none⟩ (.int .u8 (bits BinOp.xor IntKind.u8 z 16)))
  case first =>
    go_region_law (first | (go_simp; go_at_call 12; refine (L0.at_is _ A0 n0 c0 xs0 4 4 rfl (R8.out _ (drewN_below w8 1 _)) HX.out hn0 (by omega)).mono ?_; rintro e w0 ⟨rfl, rfl⟩; rw [HAA.out]))
    all_goals
      go_wp2_with fail
      go_meet
      exact ⟨rfl, rfl⟩
  case rest =>
    obtain ⟨-, hwc⟩ := hcut
    rw [← hyv] at hwc
    have b8d : Below w8.heap.size w8 (w8.drewN 1) := drewN_below w8 1 _
    have o8d := own_below o8 b8d
    obtain ⟨o9, g9⟩ := o8d.stored i (.int .u8 yv)
    rw [← hwc] at o9 g9
    rw [ints_put] at o9
    have t9 : Turned w8 wc [gb] := turned_trans (turned_more (bs := []) (turned_below b8d) (fun x h => by cases h)) (turned_grown g9)
    have hne5 : w5.heap.size ≠ gb := by omega
    have hkc : ∀ b, b < w5.heap.size → wc.heap[b]? = w6.heap[b]? := fun b hb => by
      rw [← hk8.out b hb]
      exact t9.2.2.2.2 b (by omega) (by simp; omega)
    replace o_d := owns_keep _ _ _ o_d (fun b hb => hkc b (i_d b hb).2)
    replace o_b := ownsL_keep _ _ _ o_b (fun b hb => hkc b (i_b b hb).2)
    replace o_v := owns_keep _ _ _ o_v (fun b hb => hkc b (i_v b hb).2)
    replace o_o := owns_keep _ _ _ o_o (fun b hb => hkc b (i_o b hb).2)
    have hk5 : wc.heap[w5.heap.size]? = w8.heap[w5.heap.size]? := t9.2.2.2.2 w5.heap.size hlt8 (by simp; omega)
    have v0 : wc.cell? ⟨w5.heap.size, 0, none⟩ = some (.int .i64 X.to) := by rw [World.cell?_of_block (w := w8) (a := ⟨w5.heap.size, 0, none⟩) hk5]; exact V8.out.1
    have v1 : wc.cell? ⟨w5.heap.size, 1, none⟩ = some (.int .i64 X.eph) := by rw [World.cell?_of_block (w := w8) (a := ⟨w5.heap.size, 1, none⟩) hk5]; exact V8.out.2.1
    have v2 : wc.cell? ⟨w5.heap.size, 2, none⟩ = some (.slice (some ⟨gb, 0, none⟩) 3 k7) := by rw [World.cell?_of_block (w := w8) (a := ⟨w5.heap.size, 2, none⟩) hk5]; exact u8
    have v3 : wc.cell? ⟨w5.heap.size, 3, none⟩ = some (.int .i64 X.mac) := by rw [World.cell?_of_block (w := w8) (a := ⟨w5.heap.size, 3, none⟩) hk5]; exact V8.out.2.2
    have hltc : w5.heap.size < wc.heap.size := Nat.lt_of_lt_of_le hlt8 t9.2.2.2.1
    have HBc : Below W.heap.size W wc := below_turned HB8 t9 (fun b hb => by
      obtain rfl : b = gb := by simpa using hb
      omega)
    obtain ⟨Y, hY⟩ : ∃ Y, Y = Box.mk X.to X.eph (X.data.set i yv) X.mac := ⟨_, rfl⟩
    have hY3 : Y.data.length = 3 := by rw [hY]; simp [hX3]
    have o_y : OwnsL wc w6.heap.size Y.dcs [.int .i64 X.to, .int .i64 X.eph, .slice (some ⟨gb, 0, none⟩) 3 k7, .int .i64 X.mac] [gb] := by
      have h := Box.made (b := Y) (w := wc) (lo := w6.heap.size) (A := some ⟨gb, 0, none⟩) (c := k7) (by rw [hY3, hY]; exact o9)
      rw [hY3, hY] at h
      rw [hY]
      exact h
    have HYok := Lib.hid (show Y.ok from by
      have h := HXok.out
      rw [hY]
      refine ⟨h.to, h.eph, by simp [hX3]; unfold maxLen; omega, fun v hv => ?_, h.mac⟩
      rcases List.mem_or_eq_of_mem_set hv with hv | rfl
      · exact h.data v hv
      · exact hyx.2)
    have HYw := Lib.hid (show wtL Y.dcs ≤ 1048576 from by rw [Bs.wt_box, hY3]; omega)
    have HYo := Lib.hid (show openOk (1 + k) Y = false from by
      have h := open_changed (k := 1 + k) (e := 1 + q) (xs := xs) (i := i) (y := yv) HK.out (by rw [HXL.out]; exact hi3) (by
        have hz := HZ.out
        rw [HXX.out, sealed_data, HP.out] at hz
        rw [← hz]; exact hyx.1) hyx.2.1 hyx.2.2
      rw [hY, HXX.out, sealed_to, sealed_eph, sealed_data, HP.out]
      exact h)
    have HYd := Lib.hid (show X.data ≠ Y.data from by
      rw [hY]
      intro h
      have h2 : (X.data.set i yv).getD i 0 = yv := by rw [List.getD_eq_getElem?_getD, List.getElem?_set_self (by omega)]; rfl
      rw [show X.data.set i yv = X.data from h.symm, ← HZ.out] at h2
      exact hyx.1 h2.symm)
    clear hY hwc b8d o8d o9 g9 t9 hkc hk5 o8 u8 hlt8 e8 f8 hyv
    go_wp2_with fail
    (with_reducible refine (C8j.implOpen _ (1 + k) Y _ (ownsL_rds _ _ _ o_y) HYok.out HYw.out).mono ?_); rintro e wd ⟨v_c, s_c, rfl, -, -, bwd⟩
    replace o_d := owns_below o_d bwd
    replace o_b := ownsL_below o_b bwd
    replace o_v := owns_below o_v bwd
    replace o_o := owns_below o_o bwd
    replace o_y := ownsL_below o_y bwd
    replace HBc := HBc.trans (bwd.mono HBc.size)
    rw [HYo.out]
    replace v0 := (bwd.cell (p := ⟨w5.heap.size, 0, none⟩) hltc).trans v0
    replace v1 := (bwd.cell (p := ⟨w5.heap.size, 1, none⟩) hltc).trans v1
    replace v2 := (bwd.cell (p := ⟨w5.heap.size, 2, none⟩) hltc).trans v2
    replace v3 := (bwd.cell (p := ⟨w5.heap.size, 3, none⟩) hltc).trans v3
    replace hltc := Nat.lt_of_lt_of_le hltc bwd.size
    clear bwd
    go_wp2_with fail
    (with_reducible refine (C6.specPub (1 + k + 1) _).mono ?_); rintro e w0 ⟨rfl, rfl⟩
    obtain ⟨p2, hp2⟩ : ∃ z, z = pub (1 + k + 1) := ⟨_, rfl⟩
    rw [← hp2]
    have HP2 := Lib.hid hp2
    have HPK2 := Lib.hid (show key p2 from by rw [hp2]; exact pub_key HK2.out)
    clear hp2
    go_wp2_with fail
    (with_reducible refine (C6.specPub (1 + k) _).mono ?_); rintro e w0 ⟨rfl, rfl⟩
    rw [← HP.out]
    have ol := C6.own_ints wd [p2, p] 2 rfl (by omega)
    have bl : Below wd.heap.size wd (wd.alloc (.cells #[.int .i64 p2, .int .i64 p] 3)) := (Below.refl _ _).alloc (Nat.le_refl _) _
    have OL := Lib.hid (show Rds (wd.alloc (.cells #[.int .i64 p2, .int .i64 p] 3)) (wd.alloc (.cells #[.int .i64 p2, .int .i64 p] 3)).heap.size (numsD [p2, p]) (.slice (some ⟨wd.heap.size, 0, none⟩) 2 2) from owns_rds _ _ _ (owns_flat ol))
    have OD := Lib.hid (rds_on (owns_rds _ _ _ o_d) bl)
    have h9 : key 9 := ⟨by omega, by omega⟩
    have h10 : key (9 + 1) := ⟨by omega, by omega⟩
    obtain ⟨hs1, hs2⟩ := seals_two (xs := xs) HPK2.out HPK.out h9 h10 (by rw [HXL.out]; omega)
    have H9 := Lib.hid h9
    have H10 := Lib.hid h10
    have HS1 := Lib.hid hs1
    have HS2 := Lib.hid hs2
    have BL := Lib.hid bl
    have HPS := Lib.hid (show ∀ x ∈ [p2, p], -9223372036854775808 ≤ x ∧ x ≤ 9223372036854775807 from fun x hx => by
      have h1 := HPK.out.1; have h2 := HPK.out.2; have h3 := HPK2.out.1; have h4 := HPK2.out.2
      simp at hx; rcases hx with rfl | rfl <;> omega)
    clear hs1 hs2 ol h9 h10 bl
    go_wp2_with fail
    (with_reducible refine (C8k.implSeals _ [p2, p] 9 xs _ _ OL.out OD.out HXS.out (by rw [wt_numsD]; simp) HWX.out HPS.out (by omega) (by omega)).mono ?_); rintro e we ⟨v_l, s_l, rfl, o_l, n_l, bwe⟩
    rw [HS1.out]
    rw [HS2.out] at o_l
    have bwe2 : Below wd.heap.size wd we := BL.out.trans (bwe.mono BL.out.size)
    clear bwe
    replace o_d := owns_below o_d bwe2
    replace o_b := ownsL_below o_b bwe2
    replace o_v := owns_below o_v bwe2
    replace o_o := owns_below o_o bwe2
    replace o_y := ownsL_below o_y bwe2
    replace HBc := HBc.trans (bwe2.mono HBc.size)
    replace v0 := (bwe2.cell (p := ⟨w5.heap.size, 0, none⟩) hltc).trans v0
    replace v1 := (bwe2.cell (p := ⟨w5.heap.size, 1, none⟩) hltc).trans v1
    replace v2 := (bwe2.cell (p := ⟨w5.heap.size, 2, none⟩) hltc).trans v2
    replace v3 := (bwe2.cell (p := ⟨w5.heap.size, 3, none⟩) hltc).trans v3
    replace hltc := Nat.lt_of_lt_of_le hltc bwe2.size
    clear bwe2
    go_wp2_with fail
    have h200 : xs.length ≤ 200 := by rw [HXL.out]; omega
    have HLok := Lib.hid (show ∀ b ∈ [sealed p2 9 xs, sealed p (9 + 1) xs], b.ok from fun b hb => by
      rcases List.mem_cons.1 hb with rfl | hb
      · exact sealed_ok HPK2.out H9.out h200
      · obtain rfl : b = sealed p (9 + 1) xs := by simpa using hb
        exact sealed_ok HPK.out H10.out h200)
    have HLw := Lib.hid (show wt (boxesD [sealed p2 9 xs, sealed p (9 + 1) xs]) ≤ 1048576 from by rw [two_wt _ _ _ _ _ HXL.out]; omega)
    have hn1 : openOk (1 + k) (sealed p2 9 xs) = false := open_other (k := 1 + k + 1) HK2.out (fun _ h => by omega) (by rw [sealed_to, HP2.out])
    have hy1 : openOk (1 + k) (sealed p (9 + 1) xs) = true ∧ openB (1 + k) (sealed p (9 + 1) xs) = xs := by rw [HP.out]; exact open_own HK.out H10.out h200 HXS.out
    have F1 := Lib.hid (find_second hn1 hy1.1)
    have F1b := Lib.hid hy1.2
    have hn2 : openOk (1 + k + 2) (sealed p2 9 xs) = false := open_other (k := 1 + k + 1) HK2.out (fun _ h => by omega) (by rw [sealed_to, HP2.out])
    have hn3 : openOk (1 + k + 2) (sealed p (9 + 1) xs) = false := open_other (k := 1 + k) HK.out (fun _ h => by omega) (by rw [sealed_to, HP.out])
    have F2 := Lib.hid (find_none hn2 hn3)
    clear hn1 hy1 hn2 hn3 h200
    (with_reducible refine (C8k.implFind _ [sealed p2 9 xs, sealed p (9 + 1) xs] (1 + k) _ (owns_rds _ _ _ o_l) HLok.out HLw.out).mono ?_); rintro e wf ⟨v_f, s_f, rfl, o_f, -, bwf⟩
    rw [F1.out.1]
    rw [F1.out.2, F1b.out] at o_f
    replace o_d := owns_below o_d bwf
    replace o_b := ownsL_below o_b bwf
    replace o_v := owns_below o_v bwf
    replace o_o := owns_below o_o bwf
    replace o_y := ownsL_below o_y bwf
    replace o_l := owns_below o_l bwf
    replace HBc := HBc.trans (bwf.mono HBc.size)
    replace v0 := (bwf.cell (p := ⟨w5.heap.size, 0, none⟩) hltc).trans v0
    replace v1 := (bwf.cell (p := ⟨w5.heap.size, 1, none⟩) hltc).trans v1
    replace v2 := (bwf.cell (p := ⟨w5.heap.size, 2, none⟩) hltc).trans v2
    replace v3 := (bwf.cell (p := ⟨w5.heap.size, 3, none⟩) hltc).trans v3
    replace hltc := Nat.lt_of_lt_of_le hltc bwf.size
    clear bwf
    go_wp2_with fail
    (with_reducible refine (C8k.implFind _ [sealed p2 9 xs, sealed p (9 + 1) xs] (1 + k + 2) _ (owns_rds _ _ _ o_l) HLok.out HLw.out).mono ?_); rintro e wg ⟨v_g, s_g, rfl, -, -, bwg⟩
    rw [F2.out.1]
    replace o_f := owns_below o_f bwg
    replace o_d := owns_below o_d bwg
    replace o_b := ownsL_below o_b bwg
    replace o_v := owns_below o_v bwg
    replace o_o := owns_below o_o bwg
    replace o_y := ownsL_below o_y bwg
    replace o_l := owns_below o_l bwg
    replace HBc := HBc.trans (bwg.mono HBc.size)
    replace v0 := (bwg.cell (p := ⟨w5.heap.size, 0, none⟩) hltc).trans v0
    replace v1 := (bwg.cell (p := ⟨w5.heap.size, 1, none⟩) hltc).trans v1
    replace v2 := (bwg.cell (p := ⟨w5.heap.size, 2, none⟩) hltc).trans v2
    replace v3 := (bwg.cell (p := ⟨w5.heap.size, 3, none⟩) hltc).trans v3
    replace hltc := Nat.lt_of_lt_of_le hltc bwg.size
    clear bwg
    obtain ⟨A_l, c_l, rfl⟩ : ∃ A c, v_l = .slice A 2 c := Bs.boxes_slice (owns_rds _ _ _ o_l)
    obtain ⟨A_o, c_o, rfl, r_o⟩ := rds_flat (owns_rds _ _ _ o_o)
    obtain ⟨A_f, c_f, rfl, r_f⟩ := rds_flat (owns_rds _ _ _ o_f)
    obtain ⟨A_d, c_d, hvd, r_d⟩ := rds_flat (owns_rds _ _ _ o_d)
    injection hvd with hv1 hv2 hv3
    subst hv1 hv3
    have HS := Lib.hid (show (3 : Nat) ≤ 4294967296 by omega)
    clear hv2
    rw [HXL.out] at r_o r_f r_d ⊢
    go_wp2_with fail
    (with_reducible refine (S2.sameBytes_t _ _ _ 3 _ _ xs r_o r_d HS.out).mono ?_); rintro e wh ⟨rfl, bwh⟩
    replace r_d := r_d.on bwh
    replace r_f := r_f.on bwh
    replace o_b := ownsL_below o_b bwh
    replace o_v := owns_below o_v bwh
    replace o_y := ownsL_below o_y bwh
    replace HBc := HBc.trans (bwh.mono HBc.size)
    replace v0 := (bwh.cell (p := ⟨w5.heap.size, 0, none⟩) hltc).trans v0
    replace v1 := (bwh.cell (p := ⟨w5.heap.size, 1, none⟩) hltc).trans v1
    replace v2 := (bwh.cell (p := ⟨w5.heap.size, 2, none⟩) hltc).trans v2
    replace v3 := (bwh.cell (p := ⟨w5.heap.size, 3, none⟩) hltc).trans v3
    replace hltc := Nat.lt_of_lt_of_le hltc bwh.size
    clear bwh
    go_wp2_with fail
    (with_reducible refine (S2.sameBytes_t _ _ _ 3 _ _ xs r_f r_d HS.out).mono ?_); rintro e wi ⟨rfl, bwi⟩
    replace o_b := ownsL_below o_b bwi
    replace o_v := owns_below o_v bwi
    replace o_y := ownsL_below o_y bwi
    replace HBc := HBc.trans (bwi.mono HBc.size)
    replace v0 := (bwi.cell (p := ⟨w5.heap.size, 0, none⟩) hltc).trans v0
    replace v1 := (bwi.cell (p := ⟨w5.heap.size, 1, none⟩) hltc).trans v1
    replace v2 := (bwi.cell (p := ⟨w5.heap.size, 2, none⟩) hltc).trans v2
    replace v3 := (bwi.cell (p := ⟨w5.heap.size, 3, none⟩) hltc).trans v3
    replace hltc := Nat.lt_of_lt_of_le hltc bwi.size
    clear bwi r_d r_f r_o
    have d0 : wi.cell? ⟨w2.heap.size, 0, none⟩ = some (.int .i64 X.to) := var_load o_v n_v 0 _ rfl
    have d1 : wi.cell? ⟨w2.heap.size, 1, none⟩ = some (.int .i64 X.eph) := var_load o_v n_v 1 _ rfl
    have d2 : wi.cell? ⟨w2.heap.size, 2, none⟩ = some (.slice A_b 3 c_b) := var_load o_v n_v 2 _ rfl
    have d3 : wi.cell? ⟨w2.heap.size, 3, none⟩ = some (.int .i64 X.mac) := var_load o_v n_v 3 _ rfl
    have d4 : w2.heap.size < wi.heap.size := var_lt o_v
    go_wp2_with fail
    clear d0 d1 d2 d3 d4
    (with_reducible refine (C8i.implEql _ X X _ _ (ownsL_rds _ _ _ o_b) (ownsL_rds _ _ _ o_b) HXok.out HXok.out).mono ?_); rintro e wk ⟨rfl, bwk⟩
    rw [eql_self]
    replace o_b := ownsL_below o_b bwk
    replace o_v := owns_below o_v bwk
    replace o_y := ownsL_below o_y bwk
    replace HBc := HBc.trans (bwk.mono HBc.size)
    replace v0 := (bwk.cell (p := ⟨w5.heap.size, 0, none⟩) hltc).trans v0
    replace v1 := (bwk.cell (p := ⟨w5.heap.size, 1, none⟩) hltc).trans v1
    replace v2 := (bwk.cell (p := ⟨w5.heap.size, 2, none⟩) hltc).trans v2
    replace v3 := (bwk.cell (p := ⟨w5.heap.size, 3, none⟩) hltc).trans v3
    replace hltc := Nat.lt_of_lt_of_le hltc bwk.size
    clear bwk
    have d0 : wk.cell? ⟨w2.heap.size, 0, none⟩ = some (.int .i64 X.to) := var_load o_v n_v 0 _ rfl
    have d1 : wk.cell? ⟨w2.heap.size, 1, none⟩ = some (.int .i64 X.eph) := var_load o_v n_v 1 _ rfl
    have d2 : wk.cell? ⟨w2.heap.size, 2, none⟩ = some (.slice A_b 3 c_b) := var_load o_v n_v 2 _ rfl
    have d3 : wk.cell? ⟨w2.heap.size, 3, none⟩ = some (.int .i64 X.mac) := var_load o_v n_v 3 _ rfl
    have d4 : w2.heap.size < wk.heap.size := var_lt o_v
    go_wp2_with fail
    clear d0 d1 d2 d3 d4
    (with_reducible refine (C8i.implEql _ X Y _ _ (ownsL_rds _ _ _ o_b) (ownsL_rds _ _ _ o_y) HXok.out HYok.out).mono ?_); rintro e wm ⟨rfl, bwm⟩
    rw [eql_data HYd.out]
    replace HBc := HBc.trans (bwm.mono HBc.size)
    go_wp2
    go_ret
    exact ⟨rfl, HBc⟩
theorem walk (v0 : Value) (W : World) {H : Type} {enc : TypeId × Value → H} {b0 : Nat} {d0 : DataW H} {p0 : List MemPlace} (hv0 : Value.okWide Try.prog W .any b0 22 v0) (ht0 : DataW.Trod enc Try.prog W 0 (fun _ => true) true 22 v0 d0 p0) :
    Calls Try.prog 3 #[v0] W fun e w' => e = .returned (.bool true) ∧ Below W.heap.size W w' := by
  obtain ⟨A0, n0, c0, xs0, rfl, hr0, hm0, hx0⟩ := So.bytes hv0 ht0
  unfold maxLen at hm0
  by_cases hl : 1048576 < n0
  · clear hv0 ht0 hr0
    go_enter Try.func3, Try.ntmps3
    go_wp2_with fail
    (with_reducible refine (Cd.big_yes A0 n0 c0 _ (by omega) hl).mono ?_); rintro e w0 ⟨rfl, rfl⟩
    go_wp2
    go_ret
    exact ⟨rfl, Below.refl _ _⟩
  · exact walkSmall A0 n0 c0 xs0 hl W hr0 (fun x h => So.okI_u8 (hx0 x h))

set_option maxRecDepth 100000 in
theorem contract (H : Type) (enc : TypeId × Value → H) (W : World) (base : Nat) (args : Array Value) (ds gs : List (DataW H)) (before : List MemPlace)
    (hval : ∀ (j : Nat) t v, Try.f3.params[j]? = some t → args[j]? = some v → Value.okWide Try.prog W .any base t v)
    (hW : DataW.Whole enc Try.prog Try.f3.params.toList Rows.fnBoxesSpec.vars false W args.toList ds gs before) :
    Calls Try.prog 3 args W fun e W' => ∃ v, e = .returned v ∧ Rows.fnBoxesSpec.post enc Try.prog Try.f3 false true false false W args v W' := by
  have hW' := hW
  obtain ⟨p, q, hA0, hV, rfl, hfz, hnd⟩ := hW
  have hA : DataW.TrodAll enc Try.prog W 0 (fun _ => true) true Try.f3.params.toList args.toList ds p := hA0
  rw [Try.params3] at hA hval
  obtain ⟨v0, vs0, d0, ds0, p0, q0, hargs, rfl, rfl, h0, r0⟩ := trodAll_cons hA
  obtain ⟨rfl, rfl, rfl⟩ := trodAll_nil r0
  obtain rfl : args = #[v0] := by cases args; simp_all
  obtain ⟨rfl, rfl⟩ := trodVars_none hV
  clear hA0
  refine Fr.closeLaw rfl (by kernel_rfl) (by rw [Try.params3]; decide) hW' rfl ?_
  exact walk v0 W (hval 0 22 v0 rfl rfl) h0

set_option maxRecDepth 100000 in
theorem reads (os : Os) {H : Type} (enc : TypeId × Value → H) : ∃ places, DataW.whole enc Try.prog ((World.holding Try.prog os ⟨#[], #[], []⟩).forCall (fun _ _ => 0) ⟨#[], #[.slice none 0 0], []⟩).memory Try.f3.params.toList Rows.fnBoxesSpec.vars false (#[.slice none 0 0] : Array Value).toList 8 = some ([.nil], [], places) :=
  ⟨[], by kernel_rfl⟩
set_option maxRecDepth 100000 in
theorem lifted (os : Os) (started : os.Started) (H : Type) (enc : TypeId × Value → H) (F : Stop.Interp) :
    ReturnsInHanded {} Try.checked os 3 .any ((OpenSpec.ofChange Rows.fnBoxesSpec).preRow enc Try.prog Try.f3 Rows.fnBoxesRow.domain false Rows.fnBoxesRow.laid) (((OpenSpec.ofChange Rows.fnBoxesSpec).at F).post enc Try.prog Try.f3 false true false false) := by
  obtain ⟨places, hx⟩ := reads os enc
  refine returnsInHanded_of_row (C := Try.checked) (s := OpenSpec.ofChange Rows.fnBoxesSpec) Fr.own started (by kernel_rfl) Try.func3
    (witness_row_atRef (enc := enc) (C := Try.checked) false (World.holding Try.prog os ⟨#[], #[], []⟩) #[.slice none 0 0] rfl (by kernel_rfl) (by kernel_rfl) (by kernel_rfl)
      (OpenSpec.preRow_of_cond 8 hx (by kernel_rfl) (fun k hk => by cases hk) (by kernel_rfl) (laidMetH_nil _ _))) ?_
  intro W base args ds gs before hval hW _ hcond _ hL _ _
  exact contract H enc W base args ds gs before hval hW
set_option maxRecDepth 100000 in
theorem said : Rows.FnBoxesSaid :=
  OpenClaim.holds_of_cond 3 Try.f3 rfl rfl rfl rfl rfl rfl rfl ⟨rfl, rfl, rfl, rfl, rfl⟩ rfl rfl rfl rfl rfl (by kernel_rfl) Try.func3 (by kernel_rfl)
    (of_decide_eq_true (by kernel_rfl)) (by unfold Func.isWrapper; first | (rw [if_pos (by decide +kernel)]; kernel_rfl) | (rw [if_neg (by decide +kernel)]; exact ⟨rfl, rfl⟩))
    (fun os started H enc _ F => by rw [OpenClaim.pre_eq_preRow]; exact lifted os started H enc F)
theorem proved : Rows.FnBoxesSaid := said
#print axioms proved
end Go.Proofs.Ytaodpiikpojikaa.fnBoxes
