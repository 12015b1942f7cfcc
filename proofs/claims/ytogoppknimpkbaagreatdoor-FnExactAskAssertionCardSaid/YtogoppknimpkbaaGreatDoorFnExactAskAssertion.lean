import Derived.Test.YtogoppknimpkbaaGreatDoorBa
import Derived.Test.YtogoppknimpkbaaGreatDoorCards
import Derived.Test.YtogoppknimpkbaaGreatDoorTie
import Derived.Lay
import Derived.LaidHandle
import Derived.MakeChecks
import Derived.Test.YtogoppknimpkbaaGreatDoorLa
import Derived.Test.YtogoppknimpkbaaGreatDoorBb
import Derived.Test.YtogoppknimpkbaaGreatDoorYBrowser
import Derived.Test.YtogoppknimpkbaaGreatDoorYAssertion
import Derived.Test.YtogoppknimpkbaaGreatDoorC16a
import Derived.Test.YtogoppknimpkbaaGreatDoorC16y
/-
  laws.FnExactAskAssertion returns true at every argument, and leaves what came in as it was: the program's AskAssertion answers as the model's (slices and strings of more than 1048576 elements are passed over by the law itself). Conditions: the library's package-level variables math/bits.deBruijn32tab, math/bits.deBruijn64tab, internal/strconv.uint64pow10 hold when the call begins what the program's text lays there (the card ties them to that text).
-/
namespace Go.Proofs.YtogoppknimpkbaaGreatDoor.fnExactAskAssertion
open Go.ChangeShapes Go.WideShapes Go.ChangeAt Go.RowKit
set_option linter.unusedVariables false

open S0 S9 Dm in
set_option maxHeartbeats 8000000 in
set_option maxRecDepth 100000 in
theorem walk (v0 : Value) (a1 : Int) (u1 : (Lit.int .i64 a1).wf = true) (s2 : ByteArray) (hs2 : s2.size ≤ maxLen) (a3 : Int) (u3 : (Lit.int .i64 a3).wf = true) (a4 : Int) (u4 : (Lit.int .i64 a4).wf = true) (bb5 : Bool) (W : World) {H : Type} {enc : TypeId × Value → H} {b0 : Nat} {d0 : DataW H} {p0 : List MemPlace} (hv0 : Value.okWide Tryz.prog W .any b0 48 v0) (ht0 : DataW.Trod enc Tryz.prog W 0 (fun _ => true) true 48 v0 d0 p0) (hL : laidMetH Tryz.prog Rows.fnExactAskAssertionRow.laid W) :
    Calls Tryz.prog 4 #[v0, .int .i64 a1, .string s2, .int .i64 a3, .int .i64 a4, .bool bb5] W fun e w' => e = .returned (.bool true) ∧ Below W.heap.size W w' := by
  have ht : La.Pow W := La.pow_of rfl hL
  clear hL
  obtain ⟨vs0, x0, rfl, hr0, ho0⟩ := Fx.argBrowser hv0 ht0
  clear ht0 hv0
  obtain ⟨A_p0_Tabs, c_p0_Tabs, rfl, -⟩ := Fx.Browser.rds hr0
  have H0 := Lib.hid hr0
  clear hr0
  have hwx0 := Nat.le_of_eq (Fx.Browser.wt x0)
  have hwy0 := Nat.le_of_eq (Fx.Browser.wt x0).symm
  have hcx0 := Fx.cntTb_Browser x0
  have hu1 := M1.i64_wf u1
  clear u1
  have hu3 := M1.i64_wf u3
  clear u3
  have hu4 := M1.i64_wf u4
  clear u4
  have hwr0 := Nat.le_of_eq (Fx.Browser.wt (C16a.askX x0 a1 s2 bb5))
  have hws0 := Nat.le_of_eq (Fx.Browser.wt (C16a.askX x0 a1 s2 bb5)).symm
  have hcr0 := Fx.cntTb_Browser (C16a.askX x0 a1 s2 bb5)
  have hwr1 := Nat.le_of_eq (Fx.Assertion.wt (C16a.askO x0 a1 s2 a3 a4 bb5))
  have hws1 := Nat.le_of_eq (Fx.Assertion.wt (C16a.askO x0 a1 s2 a3 a4 bb5)).symm
  have hlr0 := C16y.ask_wt x0 a1 s2 bb5
  have hs0 := C16y.ask_size x0 a1 s2 a3 a4 bb5
  have HB : Below W.heap.size W W := Below.refl _ _
  by_cases big2 : 1048576 < s2.size
  · go_enter Tryz.func4, Tryz.ntmps4
    go_wp2
    go_ret
    exact ⟨rfl, (Below.refl _ _).alloc (Nat.le_refl _) _⟩
  obtain ⟨q0, hq0⟩ : ∃ x, x = W.alloc (.cells #[.int .i64 (x0).Store.Vendor, .int .i64 (x0).Store.Serial, .int .i64 (x0).Store.Seed, .int .i64 (x0).Store.Counter, .slice A_p0_Tabs (x0).Tabs.length c_p0_Tabs, .int .i64 (x0).Asked] 48) := ⟨_, rfl⟩
  have o_p0 := Fx.var_owns W 48 6 [.int .i64 (x0).Store.Vendor, .int .i64 (x0).Store.Serial, .int .i64 (x0).Store.Seed, .int .i64 (x0).Store.Counter, .slice A_p0_Tabs (x0).Tabs.length c_p0_Tabs, .int .i64 (x0).Asked] rfl
  have n_p0 : [W.heap.size].Nodup := by simp
  have bq0 : Below W.heap.size W q0 := hq0 ▸ (Below.refl _ _).alloc (Nat.le_refl _) _
  rw [← hq0] at o_p0
  have sq0 : q0.heap.size = W.heap.size + 1 := by rw [hq0]; simp
  replace HB := HB.trans (bq0.mono HB.size)
  have i_p0 := Fx.made_in o_p0
  go_enter Tryz.func4, Tryz.ntmps4
  go_wp2_with fail
  rw [← hq0]
  (with_reducible refine (Fx.szBrowser _ x0 _ (1048576) (rdsL_on H0.out HB) ho0 (by omega) (by omega)).mono ?_); rintro e w1 ⟨rfl, b1⟩
  replace o_p0 := owns_below o_p0 b1
  replace HB := HB.trans (b1.mono HB.size)
  by_cases big0 : (wtL (Fx.Browser.dcs x0) : Int) ≤ 1048576
  rotate_left
  · rw [if_neg big0]
    go_wp2
    go_ret
    exact ⟨rfl, HB⟩
  rw [if_pos big0]
  have d_p0_0 : w1.cell? ⟨W.heap.size, 0, none⟩ = some (.int .i64 (x0).Store.Vendor) := Fx.var_load o_p0 n_p0 0 _ rfl
  have d_p0_1 : w1.cell? ⟨W.heap.size, 1, none⟩ = some (.int .i64 (x0).Store.Serial) := Fx.var_load o_p0 n_p0 1 _ rfl
  have d_p0_2 : w1.cell? ⟨W.heap.size, 2, none⟩ = some (.int .i64 (x0).Store.Seed) := Fx.var_load o_p0 n_p0 2 _ rfl
  have d_p0_3 : w1.cell? ⟨W.heap.size, 3, none⟩ = some (.int .i64 (x0).Store.Counter) := Fx.var_load o_p0 n_p0 3 _ rfl
  have d_p0_4 : w1.cell? ⟨W.heap.size, 4, none⟩ = some (.slice A_p0_Tabs (x0).Tabs.length c_p0_Tabs) := Fx.var_load o_p0 n_p0 4 _ rfl
  have d_p0_5 : w1.cell? ⟨W.heap.size, 5, none⟩ = some (.int .i64 (x0).Asked) := Fx.var_load o_p0 n_p0 5 _ rfl
  have e_p0 : W.heap.size < w1.heap.size := Fx.var_lt o_p0
  go_wp2_with fail
  (with_reducible refine (Fx.toBrowser _ x0 _ (rdsL_on H0.out HB) (by omega)).mono ?_); rintro e w2 ⟨v_cw0, s_cw0, rfl, o_cw0, n_cw0, b2⟩
  clear d_p0_0 d_p0_1 d_p0_2 d_p0_3 d_p0_4 d_p0_5 e_p0
  replace o_p0 := owns_below o_p0 b2
  replace HB := HB.trans (b2.mono HB.size)
  have i_cw0 := Fx.madeL_in o_cw0
  obtain ⟨A_cw0_Tabs, c_cw0_Tabs, _, rfl, -, -⟩ := Fx.Browser.owns o_cw0
  go_wp2_with fail
  (with_reducible refine (C16y.specAsk _ x0 _ (E0.ownsL_shsL _ _ _ o_cw0) (by omega) a1 s2 a3 a4 bb5 (by omega) ho0.Store (by omega) (by omega) (by omega) (by omega)).mono ?_); rintro e w3 ⟨v_w0, s_w0, v_w1, s_w1, rfl, o_w0, o_w1, n_w0, n_w1, x_w, b3⟩
  replace o_p0 := owns_below o_p0 b3
  replace o_cw0 := ownsL_below o_cw0 b3
  replace HB := HB.trans (b3.mono HB.size)
  have i_w0 := Fx.madeL_in o_w0
  obtain ⟨A_w0_Tabs, c_w0_Tabs, _, rfl, -, -⟩ := Fx.Browser.owns o_w0
  have i_w1 := Fx.madeL_in o_w1
  obtain ⟨rfl, -⟩ := Fx.Assertion.owns o_w1
  clear o_cw0 i_cw0 n_cw0
  have d_p0_0 : w3.cell? ⟨W.heap.size, 0, none⟩ = some (.int .i64 (x0).Store.Vendor) := Fx.var_load o_p0 n_p0 0 _ rfl
  have d_p0_1 : w3.cell? ⟨W.heap.size, 1, none⟩ = some (.int .i64 (x0).Store.Serial) := Fx.var_load o_p0 n_p0 1 _ rfl
  have d_p0_2 : w3.cell? ⟨W.heap.size, 2, none⟩ = some (.int .i64 (x0).Store.Seed) := Fx.var_load o_p0 n_p0 2 _ rfl
  have d_p0_3 : w3.cell? ⟨W.heap.size, 3, none⟩ = some (.int .i64 (x0).Store.Counter) := Fx.var_load o_p0 n_p0 3 _ rfl
  have d_p0_4 : w3.cell? ⟨W.heap.size, 4, none⟩ = some (.slice A_p0_Tabs (x0).Tabs.length c_p0_Tabs) := Fx.var_load o_p0 n_p0 4 _ rfl
  have d_p0_5 : w3.cell? ⟨W.heap.size, 5, none⟩ = some (.int .i64 (x0).Asked) := Fx.var_load o_p0 n_p0 5 _ rfl
  have e_p0 : W.heap.size < w3.heap.size := Fx.var_lt o_p0
  go_wp2_with fail
  clear d_p0_0 d_p0_1 d_p0_2 d_p0_3 d_p0_4 d_p0_5 e_p0
  obtain ⟨w4, hw4⟩ : ∃ y, y = w3.alloc (.cells #[.int .i64 ((C16a.askX x0 a1 s2 bb5)).Store.Vendor, .int .i64 ((C16a.askX x0 a1 s2 bb5)).Store.Serial, .int .i64 ((C16a.askX x0 a1 s2 bb5)).Store.Seed, .int .i64 ((C16a.askX x0 a1 s2 bb5)).Store.Counter, .slice A_w0_Tabs ((C16a.askX x0 a1 s2 bb5)).Tabs.length c_w0_Tabs, .int .i64 ((C16a.askX x0 a1 s2 bb5)).Asked] 28) := ⟨_, rfl⟩
  have o_w0v := Fx.var_owns w3 28 6 [.int .i64 ((C16a.askX x0 a1 s2 bb5)).Store.Vendor, .int .i64 ((C16a.askX x0 a1 s2 bb5)).Store.Serial, .int .i64 ((C16a.askX x0 a1 s2 bb5)).Store.Seed, .int .i64 ((C16a.askX x0 a1 s2 bb5)).Store.Counter, .slice A_w0_Tabs ((C16a.askX x0 a1 s2 bb5)).Tabs.length c_w0_Tabs, .int .i64 ((C16a.askX x0 a1 s2 bb5)).Asked] rfl
  have b4 : Below w3.heap.size w3 w4 := hw4 ▸ (Below.refl _ _).alloc (Nat.le_refl _) _
  rw [← hw4] at o_w0v ⊢
  have sl4 : w4.heap.size = w3.heap.size + 1 := by rw [hw4]; simp
  clear hw4
  replace o_p0 := owns_below o_p0 b4
  replace o_w0 := ownsL_below o_w0 b4
  replace o_w1 := ownsL_below o_w1 b4
  replace HB := HB.trans (b4.mono HB.size)
  have n_w0v : [w3.heap.size].Nodup := by simp
  have i_w0v := Fx.made_in o_w0v
  obtain ⟨w5, hw5⟩ : ∃ y, y = w4.alloc (.cells #[.string ((C16a.askO x0 a1 s2 a3 a4 bb5)).Site, .string ((C16a.askO x0 a1 s2 a3 a4 bb5)).Origin, .int .i64 ((C16a.askO x0 a1 s2 a3 a4 bb5)).Challenge, .int .i64 ((C16a.askO x0 a1 s2 a3 a4 bb5)).Handle, .bool ((C16a.askO x0 a1 s2 a3 a4 bb5)).Present, .int .i64 ((C16a.askO x0 a1 s2 a3 a4 bb5)).Counter, .int .i64 ((C16a.askO x0 a1 s2 a3 a4 bb5)).Signature] 32) := ⟨_, rfl⟩
  have o_w1v := Fx.var_owns w4 32 7 [.string ((C16a.askO x0 a1 s2 a3 a4 bb5)).Site, .string ((C16a.askO x0 a1 s2 a3 a4 bb5)).Origin, .int .i64 ((C16a.askO x0 a1 s2 a3 a4 bb5)).Challenge, .int .i64 ((C16a.askO x0 a1 s2 a3 a4 bb5)).Handle, .bool ((C16a.askO x0 a1 s2 a3 a4 bb5)).Present, .int .i64 ((C16a.askO x0 a1 s2 a3 a4 bb5)).Counter, .int .i64 ((C16a.askO x0 a1 s2 a3 a4 bb5)).Signature] rfl
  have b5 : Below w4.heap.size w4 w5 := hw5 ▸ (Below.refl _ _).alloc (Nat.le_refl _) _
  rw [← hw5] at o_w1v ⊢
  rw [sl4] at o_w1v
  clear hw5
  replace o_p0 := owns_below o_p0 b5
  replace o_w0 := ownsL_below o_w0 b5
  replace o_w1 := ownsL_below o_w1 b5
  replace o_w0v := owns_below o_w0v b5
  replace HB := HB.trans (b5.mono HB.size)
  have n_w1v : [w3.heap.size + 1].Nodup := by simp
  have i_w1v := Fx.made_in o_w1v
  (with_reducible refine (Fx.toBrowser _ x0 _ (rdsL_on H0.out HB) (by omega)).mono ?_); rintro e w6 ⟨v_y0, s_y0, rfl, o_y0, n_y0, b6⟩
  replace o_p0 := owns_below o_p0 b6
  replace o_w0 := ownsL_below o_w0 b6
  replace o_w1 := ownsL_below o_w1 b6
  replace o_w0v := owns_below o_w0v b6
  replace o_w1v := owns_below o_w1v b6
  replace HB := HB.trans (b6.mono HB.size)
  have i_y0 := Fx.madeL_in o_y0
  obtain ⟨A_y0_Tabs, c_y0_Tabs, _, rfl, -, -⟩ := Fx.Browser.owns o_y0
  have d_p0_0 : w6.cell? ⟨W.heap.size, 0, none⟩ = some (.int .i64 (x0).Store.Vendor) := Fx.var_load o_p0 n_p0 0 _ rfl
  have d_p0_1 : w6.cell? ⟨W.heap.size, 1, none⟩ = some (.int .i64 (x0).Store.Serial) := Fx.var_load o_p0 n_p0 1 _ rfl
  have d_p0_2 : w6.cell? ⟨W.heap.size, 2, none⟩ = some (.int .i64 (x0).Store.Seed) := Fx.var_load o_p0 n_p0 2 _ rfl
  have d_p0_3 : w6.cell? ⟨W.heap.size, 3, none⟩ = some (.int .i64 (x0).Store.Counter) := Fx.var_load o_p0 n_p0 3 _ rfl
  have d_p0_4 : w6.cell? ⟨W.heap.size, 4, none⟩ = some (.slice A_p0_Tabs (x0).Tabs.length c_p0_Tabs) := Fx.var_load o_p0 n_p0 4 _ rfl
  have d_p0_5 : w6.cell? ⟨W.heap.size, 5, none⟩ = some (.int .i64 (x0).Asked) := Fx.var_load o_p0 n_p0 5 _ rfl
  have e_p0 : W.heap.size < w6.heap.size := Fx.var_lt o_p0
  have d_w0v_0 : w6.cell? ⟨w3.heap.size, 0, none⟩ = some (.int .i64 ((C16a.askX x0 a1 s2 bb5)).Store.Vendor) := Fx.var_load o_w0v n_w0v 0 _ rfl
  have d_w0v_1 : w6.cell? ⟨w3.heap.size, 1, none⟩ = some (.int .i64 ((C16a.askX x0 a1 s2 bb5)).Store.Serial) := Fx.var_load o_w0v n_w0v 1 _ rfl
  have d_w0v_2 : w6.cell? ⟨w3.heap.size, 2, none⟩ = some (.int .i64 ((C16a.askX x0 a1 s2 bb5)).Store.Seed) := Fx.var_load o_w0v n_w0v 2 _ rfl
  have d_w0v_3 : w6.cell? ⟨w3.heap.size, 3, none⟩ = some (.int .i64 ((C16a.askX x0 a1 s2 bb5)).Store.Counter) := Fx.var_load o_w0v n_w0v 3 _ rfl
  have d_w0v_4 : w6.cell? ⟨w3.heap.size, 4, none⟩ = some (.slice A_w0_Tabs ((C16a.askX x0 a1 s2 bb5)).Tabs.length c_w0_Tabs) := Fx.var_load o_w0v n_w0v 4 _ rfl
  have d_w0v_5 : w6.cell? ⟨w3.heap.size, 5, none⟩ = some (.int .i64 ((C16a.askX x0 a1 s2 bb5)).Asked) := Fx.var_load o_w0v n_w0v 5 _ rfl
  have e_w0v : w3.heap.size < w6.heap.size := Fx.var_lt o_w0v
  have d_w1v_0 : w6.cell? ⟨w3.heap.size + 1, 0, none⟩ = some (.string ((C16a.askO x0 a1 s2 a3 a4 bb5)).Site) := Fx.var_load o_w1v n_w1v 0 _ rfl
  have d_w1v_1 : w6.cell? ⟨w3.heap.size + 1, 1, none⟩ = some (.string ((C16a.askO x0 a1 s2 a3 a4 bb5)).Origin) := Fx.var_load o_w1v n_w1v 1 _ rfl
  have d_w1v_2 : w6.cell? ⟨w3.heap.size + 1, 2, none⟩ = some (.int .i64 ((C16a.askO x0 a1 s2 a3 a4 bb5)).Challenge) := Fx.var_load o_w1v n_w1v 2 _ rfl
  have d_w1v_3 : w6.cell? ⟨w3.heap.size + 1, 3, none⟩ = some (.int .i64 ((C16a.askO x0 a1 s2 a3 a4 bb5)).Handle) := Fx.var_load o_w1v n_w1v 3 _ rfl
  have d_w1v_4 : w6.cell? ⟨w3.heap.size + 1, 4, none⟩ = some (.bool ((C16a.askO x0 a1 s2 a3 a4 bb5)).Present) := Fx.var_load o_w1v n_w1v 4 _ rfl
  have d_w1v_5 : w6.cell? ⟨w3.heap.size + 1, 5, none⟩ = some (.int .i64 ((C16a.askO x0 a1 s2 a3 a4 bb5)).Counter) := Fx.var_load o_w1v n_w1v 5 _ rfl
  have d_w1v_6 : w6.cell? ⟨w3.heap.size + 1, 6, none⟩ = some (.int .i64 ((C16a.askO x0 a1 s2 a3 a4 bb5)).Signature) := Fx.var_load o_w1v n_w1v 6 _ rfl
  have e_w1v : w3.heap.size + 1 < w6.heap.size := Fx.var_lt o_w1v
  go_wp2_with fail
  clear d_p0_0 d_p0_1 d_p0_2 d_p0_3 d_p0_4 d_p0_5 e_p0 d_w0v_0 d_w0v_1 d_w0v_2 d_w0v_3 d_w0v_4 d_w0v_5 e_w0v d_w1v_0 d_w1v_1 d_w1v_2 d_w1v_3 d_w1v_4 d_w1v_5 d_w1v_6 e_w1v
  obtain ⟨w7, hw7⟩ : ∃ y, y = w6.alloc (.cells #[.int .i64 (x0).Store.Vendor, .int .i64 (x0).Store.Serial, .int .i64 (x0).Store.Seed, .int .i64 (x0).Store.Counter, .slice A_y0_Tabs (x0).Tabs.length c_y0_Tabs, .int .i64 (x0).Asked] 28) := ⟨_, rfl⟩
  have o_y0v := Fx.var_owns w6 28 6 [.int .i64 (x0).Store.Vendor, .int .i64 (x0).Store.Serial, .int .i64 (x0).Store.Seed, .int .i64 (x0).Store.Counter, .slice A_y0_Tabs (x0).Tabs.length c_y0_Tabs, .int .i64 (x0).Asked] rfl
  have b7 : Below w6.heap.size w6 w7 := hw7 ▸ (Below.refl _ _).alloc (Nat.le_refl _) _
  rw [← hw7] at o_y0v ⊢
  clear hw7
  replace o_p0 := owns_below o_p0 b7
  replace o_w0 := ownsL_below o_w0 b7
  replace o_w1 := ownsL_below o_w1 b7
  replace o_w0v := owns_below o_w0v b7
  replace o_w1v := owns_below o_w1v b7
  replace o_y0 := ownsL_below o_y0 b7
  replace HB := HB.trans (b7.mono HB.size)
  have n_y0v : [w6.heap.size].Nodup := by simp
  have i_y0v := Fx.made_in o_y0v
  (with_reducible refine (C16y.implAsk _ x0 _ (E0.ownsL_shsL _ _ _ o_y0) (by omega) a1 s2 a3 a4 bb5 (by omega) ho0.Store (by omega) (by omega) (by omega) (by omega) (ht.stays HB)).mono ?_); rintro e w8 ⟨v_g0, s_g0, v_g1, s_g1, rfl, o_g0, o_g1, n_g0, n_g1, x_g, b8⟩
  replace o_p0 := owns_below o_p0 b8
  replace o_w0 := ownsL_below o_w0 b8
  replace o_w1 := ownsL_below o_w1 b8
  replace o_w0v := owns_below o_w0v b8
  replace o_w1v := owns_below o_w1v b8
  replace o_y0 := ownsL_below o_y0 b8
  replace o_y0v := owns_below o_y0v b8
  replace HB := HB.trans (b8.mono HB.size)
  have i_g0 := Fx.madeL_in o_g0
  obtain ⟨A_g0_Tabs, c_g0_Tabs, _, rfl, -, -⟩ := Fx.Browser.owns o_g0
  have i_g1 := Fx.madeL_in o_g1
  obtain ⟨rfl, -⟩ := Fx.Assertion.owns o_g1
  have d_p0_0 : w8.cell? ⟨W.heap.size, 0, none⟩ = some (.int .i64 (x0).Store.Vendor) := Fx.var_load o_p0 n_p0 0 _ rfl
  have d_p0_1 : w8.cell? ⟨W.heap.size, 1, none⟩ = some (.int .i64 (x0).Store.Serial) := Fx.var_load o_p0 n_p0 1 _ rfl
  have d_p0_2 : w8.cell? ⟨W.heap.size, 2, none⟩ = some (.int .i64 (x0).Store.Seed) := Fx.var_load o_p0 n_p0 2 _ rfl
  have d_p0_3 : w8.cell? ⟨W.heap.size, 3, none⟩ = some (.int .i64 (x0).Store.Counter) := Fx.var_load o_p0 n_p0 3 _ rfl
  have d_p0_4 : w8.cell? ⟨W.heap.size, 4, none⟩ = some (.slice A_p0_Tabs (x0).Tabs.length c_p0_Tabs) := Fx.var_load o_p0 n_p0 4 _ rfl
  have d_p0_5 : w8.cell? ⟨W.heap.size, 5, none⟩ = some (.int .i64 (x0).Asked) := Fx.var_load o_p0 n_p0 5 _ rfl
  have e_p0 : W.heap.size < w8.heap.size := Fx.var_lt o_p0
  have d_w0v_0 : w8.cell? ⟨w3.heap.size, 0, none⟩ = some (.int .i64 ((C16a.askX x0 a1 s2 bb5)).Store.Vendor) := Fx.var_load o_w0v n_w0v 0 _ rfl
  have d_w0v_1 : w8.cell? ⟨w3.heap.size, 1, none⟩ = some (.int .i64 ((C16a.askX x0 a1 s2 bb5)).Store.Serial) := Fx.var_load o_w0v n_w0v 1 _ rfl
  have d_w0v_2 : w8.cell? ⟨w3.heap.size, 2, none⟩ = some (.int .i64 ((C16a.askX x0 a1 s2 bb5)).Store.Seed) := Fx.var_load o_w0v n_w0v 2 _ rfl
  have d_w0v_3 : w8.cell? ⟨w3.heap.size, 3, none⟩ = some (.int .i64 ((C16a.askX x0 a1 s2 bb5)).Store.Counter) := Fx.var_load o_w0v n_w0v 3 _ rfl
  have d_w0v_4 : w8.cell? ⟨w3.heap.size, 4, none⟩ = some (.slice A_w0_Tabs ((C16a.askX x0 a1 s2 bb5)).Tabs.length c_w0_Tabs) := Fx.var_load o_w0v n_w0v 4 _ rfl
  have d_w0v_5 : w8.cell? ⟨w3.heap.size, 5, none⟩ = some (.int .i64 ((C16a.askX x0 a1 s2 bb5)).Asked) := Fx.var_load o_w0v n_w0v 5 _ rfl
  have e_w0v : w3.heap.size < w8.heap.size := Fx.var_lt o_w0v
  have d_w1v_0 : w8.cell? ⟨w3.heap.size + 1, 0, none⟩ = some (.string ((C16a.askO x0 a1 s2 a3 a4 bb5)).Site) := Fx.var_load o_w1v n_w1v 0 _ rfl
  have d_w1v_1 : w8.cell? ⟨w3.heap.size + 1, 1, none⟩ = some (.string ((C16a.askO x0 a1 s2 a3 a4 bb5)).Origin) := Fx.var_load o_w1v n_w1v 1 _ rfl
  have d_w1v_2 : w8.cell? ⟨w3.heap.size + 1, 2, none⟩ = some (.int .i64 ((C16a.askO x0 a1 s2 a3 a4 bb5)).Challenge) := Fx.var_load o_w1v n_w1v 2 _ rfl
  have d_w1v_3 : w8.cell? ⟨w3.heap.size + 1, 3, none⟩ = some (.int .i64 ((C16a.askO x0 a1 s2 a3 a4 bb5)).Handle) := Fx.var_load o_w1v n_w1v 3 _ rfl
  have d_w1v_4 : w8.cell? ⟨w3.heap.size + 1, 4, none⟩ = some (.bool ((C16a.askO x0 a1 s2 a3 a4 bb5)).Present) := Fx.var_load o_w1v n_w1v 4 _ rfl
  have d_w1v_5 : w8.cell? ⟨w3.heap.size + 1, 5, none⟩ = some (.int .i64 ((C16a.askO x0 a1 s2 a3 a4 bb5)).Counter) := Fx.var_load o_w1v n_w1v 5 _ rfl
  have d_w1v_6 : w8.cell? ⟨w3.heap.size + 1, 6, none⟩ = some (.int .i64 ((C16a.askO x0 a1 s2 a3 a4 bb5)).Signature) := Fx.var_load o_w1v n_w1v 6 _ rfl
  have e_w1v : w3.heap.size + 1 < w8.heap.size := Fx.var_lt o_w1v
  have d_y0v_0 : w8.cell? ⟨w6.heap.size, 0, none⟩ = some (.int .i64 (x0).Store.Vendor) := Fx.var_load o_y0v n_y0v 0 _ rfl
  have d_y0v_1 : w8.cell? ⟨w6.heap.size, 1, none⟩ = some (.int .i64 (x0).Store.Serial) := Fx.var_load o_y0v n_y0v 1 _ rfl
  have d_y0v_2 : w8.cell? ⟨w6.heap.size, 2, none⟩ = some (.int .i64 (x0).Store.Seed) := Fx.var_load o_y0v n_y0v 2 _ rfl
  have d_y0v_3 : w8.cell? ⟨w6.heap.size, 3, none⟩ = some (.int .i64 (x0).Store.Counter) := Fx.var_load o_y0v n_y0v 3 _ rfl
  have d_y0v_4 : w8.cell? ⟨w6.heap.size, 4, none⟩ = some (.slice A_y0_Tabs (x0).Tabs.length c_y0_Tabs) := Fx.var_load o_y0v n_y0v 4 _ rfl
  have d_y0v_5 : w8.cell? ⟨w6.heap.size, 5, none⟩ = some (.int .i64 (x0).Asked) := Fx.var_load o_y0v n_y0v 5 _ rfl
  have e_y0v : w6.heap.size < w8.heap.size := Fx.var_lt o_y0v
  go_wp2_with fail
  clear d_p0_0 d_p0_1 d_p0_2 d_p0_3 d_p0_4 d_p0_5 e_p0 d_w0v_0 d_w0v_1 d_w0v_2 d_w0v_3 d_w0v_4 d_w0v_5 e_w0v d_w1v_0 d_w1v_1 d_w1v_2 d_w1v_3 d_w1v_4 d_w1v_5 d_w1v_6 e_w1v d_y0v_0 d_y0v_1 d_y0v_2 d_y0v_3 d_y0v_4 d_y0v_5 e_y0v
  obtain ⟨w9, hw9⟩ : ∃ y, y = w8.alloc (.cells #[.int .i64 ((C16a.askX x0 a1 s2 bb5)).Store.Vendor, .int .i64 ((C16a.askX x0 a1 s2 bb5)).Store.Serial, .int .i64 ((C16a.askX x0 a1 s2 bb5)).Store.Seed, .int .i64 ((C16a.askX x0 a1 s2 bb5)).Store.Counter, .slice A_g0_Tabs ((C16a.askX x0 a1 s2 bb5)).Tabs.length c_g0_Tabs, .int .i64 ((C16a.askX x0 a1 s2 bb5)).Asked] 28) := ⟨_, rfl⟩
  have o_g0v := Fx.var_owns w8 28 6 [.int .i64 ((C16a.askX x0 a1 s2 bb5)).Store.Vendor, .int .i64 ((C16a.askX x0 a1 s2 bb5)).Store.Serial, .int .i64 ((C16a.askX x0 a1 s2 bb5)).Store.Seed, .int .i64 ((C16a.askX x0 a1 s2 bb5)).Store.Counter, .slice A_g0_Tabs ((C16a.askX x0 a1 s2 bb5)).Tabs.length c_g0_Tabs, .int .i64 ((C16a.askX x0 a1 s2 bb5)).Asked] rfl
  have b9 : Below w8.heap.size w8 w9 := hw9 ▸ (Below.refl _ _).alloc (Nat.le_refl _) _
  rw [← hw9] at o_g0v ⊢
  have sl9 : w9.heap.size = w8.heap.size + 1 := by rw [hw9]; simp
  clear hw9
  replace o_p0 := owns_below o_p0 b9
  replace o_w0 := ownsL_below o_w0 b9
  replace o_w1 := ownsL_below o_w1 b9
  replace o_w0v := owns_below o_w0v b9
  replace o_w1v := owns_below o_w1v b9
  replace o_y0 := ownsL_below o_y0 b9
  replace o_y0v := owns_below o_y0v b9
  replace o_g0 := ownsL_below o_g0 b9
  replace o_g1 := ownsL_below o_g1 b9
  replace HB := HB.trans (b9.mono HB.size)
  have n_g0v : [w8.heap.size].Nodup := by simp
  have i_g0v := Fx.made_in o_g0v
  obtain ⟨w10, hw10⟩ : ∃ y, y = w9.alloc (.cells #[.string ((C16a.askO x0 a1 s2 a3 a4 bb5)).Site, .string ((C16a.askO x0 a1 s2 a3 a4 bb5)).Origin, .int .i64 ((C16a.askO x0 a1 s2 a3 a4 bb5)).Challenge, .int .i64 ((C16a.askO x0 a1 s2 a3 a4 bb5)).Handle, .bool ((C16a.askO x0 a1 s2 a3 a4 bb5)).Present, .int .i64 ((C16a.askO x0 a1 s2 a3 a4 bb5)).Counter, .int .i64 ((C16a.askO x0 a1 s2 a3 a4 bb5)).Signature] 32) := ⟨_, rfl⟩
  have o_g1v := Fx.var_owns w9 32 7 [.string ((C16a.askO x0 a1 s2 a3 a4 bb5)).Site, .string ((C16a.askO x0 a1 s2 a3 a4 bb5)).Origin, .int .i64 ((C16a.askO x0 a1 s2 a3 a4 bb5)).Challenge, .int .i64 ((C16a.askO x0 a1 s2 a3 a4 bb5)).Handle, .bool ((C16a.askO x0 a1 s2 a3 a4 bb5)).Present, .int .i64 ((C16a.askO x0 a1 s2 a3 a4 bb5)).Counter, .int .i64 ((C16a.askO x0 a1 s2 a3 a4 bb5)).Signature] rfl
  have b10 : Below w9.heap.size w9 w10 := hw10 ▸ (Below.refl _ _).alloc (Nat.le_refl _) _
  rw [← hw10] at o_g1v ⊢
  rw [sl9] at o_g1v
  clear hw10
  replace o_p0 := owns_below o_p0 b10
  replace o_w0 := ownsL_below o_w0 b10
  replace o_w1 := ownsL_below o_w1 b10
  replace o_w0v := owns_below o_w0v b10
  replace o_w1v := owns_below o_w1v b10
  replace o_y0 := ownsL_below o_y0 b10
  replace o_y0v := owns_below o_y0v b10
  replace o_g0 := ownsL_below o_g0 b10
  replace o_g1 := ownsL_below o_g1 b10
  replace o_g0v := owns_below o_g0v b10
  replace HB := HB.trans (b10.mono HB.size)
  have n_g1v : [w8.heap.size + 1].Nodup := by simp
  have i_g1v := Fx.made_in o_g1v
  (with_reducible refine (Fx.eqBrowser _ (C16a.askX x0 a1 s2 bb5) _ _ (ownsL_rds _ _ _ o_g0) (ownsL_rds _ _ _ o_w0) (by omega)).mono ?_); rintro e w11 ⟨rfl, b11⟩
  replace o_p0 := owns_below o_p0 b11
  replace o_w0 := ownsL_below o_w0 b11
  replace o_w1 := ownsL_below o_w1 b11
  replace o_w0v := owns_below o_w0v b11
  replace o_w1v := owns_below o_w1v b11
  replace o_y0 := ownsL_below o_y0 b11
  replace o_y0v := owns_below o_y0v b11
  replace o_g0 := ownsL_below o_g0 b11
  replace o_g1 := ownsL_below o_g1 b11
  replace o_g0v := owns_below o_g0v b11
  replace o_g1v := owns_below o_g1v b11
  replace HB := HB.trans (b11.mono HB.size)
  have d_g1v_0 : w11.cell? ⟨w8.heap.size + 1, 0, none⟩ = some (.string ((C16a.askO x0 a1 s2 a3 a4 bb5)).Site) := Fx.var_load o_g1v n_g1v 0 _ rfl
  have d_g1v_1 : w11.cell? ⟨w8.heap.size + 1, 1, none⟩ = some (.string ((C16a.askO x0 a1 s2 a3 a4 bb5)).Origin) := Fx.var_load o_g1v n_g1v 1 _ rfl
  have d_g1v_2 : w11.cell? ⟨w8.heap.size + 1, 2, none⟩ = some (.int .i64 ((C16a.askO x0 a1 s2 a3 a4 bb5)).Challenge) := Fx.var_load o_g1v n_g1v 2 _ rfl
  have d_g1v_3 : w11.cell? ⟨w8.heap.size + 1, 3, none⟩ = some (.int .i64 ((C16a.askO x0 a1 s2 a3 a4 bb5)).Handle) := Fx.var_load o_g1v n_g1v 3 _ rfl
  have d_g1v_4 : w11.cell? ⟨w8.heap.size + 1, 4, none⟩ = some (.bool ((C16a.askO x0 a1 s2 a3 a4 bb5)).Present) := Fx.var_load o_g1v n_g1v 4 _ rfl
  have d_g1v_5 : w11.cell? ⟨w8.heap.size + 1, 5, none⟩ = some (.int .i64 ((C16a.askO x0 a1 s2 a3 a4 bb5)).Counter) := Fx.var_load o_g1v n_g1v 5 _ rfl
  have d_g1v_6 : w11.cell? ⟨w8.heap.size + 1, 6, none⟩ = some (.int .i64 ((C16a.askO x0 a1 s2 a3 a4 bb5)).Signature) := Fx.var_load o_g1v n_g1v 6 _ rfl
  have e_g1v : w8.heap.size + 1 < w11.heap.size := Fx.var_lt o_g1v
  have d_w1v_0 : w11.cell? ⟨w3.heap.size + 1, 0, none⟩ = some (.string ((C16a.askO x0 a1 s2 a3 a4 bb5)).Site) := Fx.var_load o_w1v n_w1v 0 _ rfl
  have d_w1v_1 : w11.cell? ⟨w3.heap.size + 1, 1, none⟩ = some (.string ((C16a.askO x0 a1 s2 a3 a4 bb5)).Origin) := Fx.var_load o_w1v n_w1v 1 _ rfl
  have d_w1v_2 : w11.cell? ⟨w3.heap.size + 1, 2, none⟩ = some (.int .i64 ((C16a.askO x0 a1 s2 a3 a4 bb5)).Challenge) := Fx.var_load o_w1v n_w1v 2 _ rfl
  have d_w1v_3 : w11.cell? ⟨w3.heap.size + 1, 3, none⟩ = some (.int .i64 ((C16a.askO x0 a1 s2 a3 a4 bb5)).Handle) := Fx.var_load o_w1v n_w1v 3 _ rfl
  have d_w1v_4 : w11.cell? ⟨w3.heap.size + 1, 4, none⟩ = some (.bool ((C16a.askO x0 a1 s2 a3 a4 bb5)).Present) := Fx.var_load o_w1v n_w1v 4 _ rfl
  have d_w1v_5 : w11.cell? ⟨w3.heap.size + 1, 5, none⟩ = some (.int .i64 ((C16a.askO x0 a1 s2 a3 a4 bb5)).Counter) := Fx.var_load o_w1v n_w1v 5 _ rfl
  have d_w1v_6 : w11.cell? ⟨w3.heap.size + 1, 6, none⟩ = some (.int .i64 ((C16a.askO x0 a1 s2 a3 a4 bb5)).Signature) := Fx.var_load o_w1v n_w1v 6 _ rfl
  have e_w1v : w3.heap.size + 1 < w11.heap.size := Fx.var_lt o_w1v
  go_wp2_with fail
  (with_reducible refine (Fx.eqAssertion _ (C16a.askO x0 a1 s2 a3 a4 bb5) _ _ (ownsL_rds _ _ _ o_g1) (ownsL_rds _ _ _ o_w1) (by omega)).mono ?_); rintro e w12 ⟨rfl, b12⟩
  clear d_g1v_0 d_g1v_1 d_g1v_2 d_g1v_3 d_g1v_4 d_g1v_5 d_g1v_6 e_g1v d_w1v_0 d_w1v_1 d_w1v_2 d_w1v_3 d_w1v_4 d_w1v_5 d_w1v_6 e_w1v
  replace o_p0 := owns_below o_p0 b12
  replace o_w0 := ownsL_below o_w0 b12
  replace o_w1 := ownsL_below o_w1 b12
  replace o_w0v := owns_below o_w0v b12
  replace o_w1v := owns_below o_w1v b12
  replace o_y0 := ownsL_below o_y0 b12
  replace o_y0v := owns_below o_y0v b12
  replace o_g0 := ownsL_below o_g0 b12
  replace o_g1 := ownsL_below o_g1 b12
  replace o_g0v := owns_below o_g0v b12
  replace o_g1v := owns_below o_g1v b12
  replace HB := HB.trans (b12.mono HB.size)
  have d12_y0v_0 : w12.cell? ⟨w6.heap.size, 0, none⟩ = some (.int .i64 (x0).Store.Vendor) := Fx.var_load o_y0v n_y0v 0 _ rfl
  have d12_y0v_1 : w12.cell? ⟨w6.heap.size, 1, none⟩ = some (.int .i64 (x0).Store.Serial) := Fx.var_load o_y0v n_y0v 1 _ rfl
  have d12_y0v_2 : w12.cell? ⟨w6.heap.size, 2, none⟩ = some (.int .i64 (x0).Store.Seed) := Fx.var_load o_y0v n_y0v 2 _ rfl
  have d12_y0v_3 : w12.cell? ⟨w6.heap.size, 3, none⟩ = some (.int .i64 (x0).Store.Counter) := Fx.var_load o_y0v n_y0v 3 _ rfl
  have d12_y0v_4 : w12.cell? ⟨w6.heap.size, 4, none⟩ = some (.slice A_y0_Tabs (x0).Tabs.length c_y0_Tabs) := Fx.var_load o_y0v n_y0v 4 _ rfl
  have d12_y0v_5 : w12.cell? ⟨w6.heap.size, 5, none⟩ = some (.int .i64 (x0).Asked) := Fx.var_load o_y0v n_y0v 5 _ rfl
  have d12_p0_0 : w12.cell? ⟨W.heap.size, 0, none⟩ = some (.int .i64 (x0).Store.Vendor) := Fx.var_load o_p0 n_p0 0 _ rfl
  have d12_p0_1 : w12.cell? ⟨W.heap.size, 1, none⟩ = some (.int .i64 (x0).Store.Serial) := Fx.var_load o_p0 n_p0 1 _ rfl
  have d12_p0_2 : w12.cell? ⟨W.heap.size, 2, none⟩ = some (.int .i64 (x0).Store.Seed) := Fx.var_load o_p0 n_p0 2 _ rfl
  have d12_p0_3 : w12.cell? ⟨W.heap.size, 3, none⟩ = some (.int .i64 (x0).Store.Counter) := Fx.var_load o_p0 n_p0 3 _ rfl
  have d12_p0_4 : w12.cell? ⟨W.heap.size, 4, none⟩ = some (.slice A_p0_Tabs (x0).Tabs.length c_p0_Tabs) := Fx.var_load o_p0 n_p0 4 _ rfl
  have d12_p0_5 : w12.cell? ⟨W.heap.size, 5, none⟩ = some (.int .i64 (x0).Asked) := Fx.var_load o_p0 n_p0 5 _ rfl
  have e12_y0v : w6.heap.size < w12.heap.size := Fx.var_lt o_y0v
  have e12_p0 : W.heap.size < w12.heap.size := Fx.var_lt o_p0
  go_wp2_with fail
  go_region_held3 (fun wx => wx.cell? ⟨w6.heap.size, 0, none⟩ = some (.int .i64 (x0).Store.Vendor) ∧ wx.cell? ⟨w6.heap.size, 1, none⟩ = some (.int .i64 (x0).Store.Serial) ∧ wx.cell? ⟨w6.heap.size, 2, none⟩ = some (.int .i64 (x0).Store.Seed) ∧ wx.cell? ⟨w6.heap.size, 3, none⟩ = some (.int .i64 (x0).Store.Counter) ∧ wx.cell? ⟨w6.heap.size, 4, none⟩ = some (.slice A_y0_Tabs (x0).Tabs.length c_y0_Tabs) ∧ wx.cell? ⟨w6.heap.size, 5, none⟩ = some (.int .i64 (x0).Asked) ∧ wx.cell? ⟨W.heap.size, 0, none⟩ = some (.int .i64 (x0).Store.Vendor) ∧ wx.cell? ⟨W.heap.size, 1, none⟩ = some (.int .i64 (x0).Store.Serial) ∧ wx.cell? ⟨W.heap.size, 2, none⟩ = some (.int .i64 (x0).Store.Seed) ∧ wx.cell? ⟨W.heap.size, 3, none⟩ = some (.int .i64 (x0).Store.Counter) ∧ wx.cell? ⟨W.heap.size, 4, none⟩ = some (.slice A_p0_Tabs (x0).Tabs.length c_p0_Tabs) ∧ wx.cell? ⟨W.heap.size, 5, none⟩ = some (.int .i64 (x0).Asked)) (first | exact ⟨d12_y0v_0, d12_y0v_1, d12_y0v_2, d12_y0v_3, d12_y0v_4, d12_y0v_5, d12_p0_0, d12_p0_1, d12_p0_2, d12_p0_3, d12_p0_4, d12_p0_5⟩ | exact ⟨d13_y0v_0, d13_y0v_1, d13_y0v_2, d13_y0v_3, d13_y0v_4, d13_y0v_5, d13_p0_0, d13_p0_1, d13_p0_2, d13_p0_3, d13_p0_4, d13_p0_5⟩ | exact ⟨d14_y0v_0, d14_y0v_1, d14_y0v_2, d14_y0v_3, d14_y0v_4, d14_y0v_5, d14_p0_0, d14_p0_1, d14_p0_2, d14_p0_3, d14_p0_4, d14_p0_5⟩) (first | (go_at_call 17; (with_reducible refine (Fx.toBrowser _ x0 _ (rdsL_on H0.out HB.drew) (by omega)).mono ?_); rintro e w13 ⟨v_t0, s_t0, rfl, o_t0, n_t0, b13⟩; replace b13 := (drewN_below w12 1 _).trans b13; replace o_p0 := owns_below o_p0 b13; replace o_w0 := ownsL_below o_w0 b13; replace o_w1 := ownsL_below o_w1 b13; replace o_w0v := owns_below o_w0v b13; replace o_w1v := owns_below o_w1v b13; replace o_y0 := ownsL_below o_y0 b13; replace o_y0v := owns_below o_y0v b13; replace o_g0 := ownsL_below o_g0 b13; replace o_g1 := ownsL_below o_g1 b13; replace o_g0v := owns_below o_g0v b13; replace o_g1v := owns_below o_g1v b13; replace HB := HB.trans (b13.mono HB.size); have i_t0 := Fx.madeL_in o_t0; obtain ⟨A_t0_Tabs, c_t0_Tabs, _, rfl, -, -⟩ := Fx.Browser.owns o_t0; have d13_y0v_0 : w13.cell? ⟨w6.heap.size, 0, none⟩ = some (.int .i64 (x0).Store.Vendor) := Fx.var_load o_y0v n_y0v 0 _ rfl; have d13_y0v_1 : w13.cell? ⟨w6.heap.size, 1, none⟩ = some (.int .i64 (x0).Store.Serial) := Fx.var_load o_y0v n_y0v 1 _ rfl; have d13_y0v_2 : w13.cell? ⟨w6.heap.size, 2, none⟩ = some (.int .i64 (x0).Store.Seed) := Fx.var_load o_y0v n_y0v 2 _ rfl; have d13_y0v_3 : w13.cell? ⟨w6.heap.size, 3, none⟩ = some (.int .i64 (x0).Store.Counter) := Fx.var_load o_y0v n_y0v 3 _ rfl; have d13_y0v_4 : w13.cell? ⟨w6.heap.size, 4, none⟩ = some (.slice A_y0_Tabs (x0).Tabs.length c_y0_Tabs) := Fx.var_load o_y0v n_y0v 4 _ rfl; have d13_y0v_5 : w13.cell? ⟨w6.heap.size, 5, none⟩ = some (.int .i64 (x0).Asked) := Fx.var_load o_y0v n_y0v 5 _ rfl; have d13_p0_0 : w13.cell? ⟨W.heap.size, 0, none⟩ = some (.int .i64 (x0).Store.Vendor) := Fx.var_load o_p0 n_p0 0 _ rfl; have d13_p0_1 : w13.cell? ⟨W.heap.size, 1, none⟩ = some (.int .i64 (x0).Store.Serial) := Fx.var_load o_p0 n_p0 1 _ rfl; have d13_p0_2 : w13.cell? ⟨W.heap.size, 2, none⟩ = some (.int .i64 (x0).Store.Seed) := Fx.var_load o_p0 n_p0 2 _ rfl; have d13_p0_3 : w13.cell? ⟨W.heap.size, 3, none⟩ = some (.int .i64 (x0).Store.Counter) := Fx.var_load o_p0 n_p0 3 _ rfl; have d13_p0_4 : w13.cell? ⟨W.heap.size, 4, none⟩ = some (.slice A_p0_Tabs (x0).Tabs.length c_p0_Tabs) := Fx.var_load o_p0 n_p0 4 _ rfl; have d13_p0_5 : w13.cell? ⟨W.heap.size, 5, none⟩ = some (.int .i64 (x0).Asked) := Fx.var_load o_p0 n_p0 5 _ rfl; have e13_y0v : w6.heap.size < w13.heap.size := Fx.var_lt o_y0v; have e13_p0 : W.heap.size < w13.heap.size := Fx.var_lt o_p0) | (go_at_call 18; (with_reducible refine (Fx.eqBrowser _ x0 _ _ (ownsL_rds _ _ _ o_y0) (ownsL_rds _ _ _ o_t0) (by omega)).mono ?_); rintro e w14 ⟨rfl, b14⟩; replace o_p0 := owns_below o_p0 b14; replace o_w0 := ownsL_below o_w0 b14; replace o_w1 := ownsL_below o_w1 b14; replace o_w0v := owns_below o_w0v b14; replace o_w1v := owns_below o_w1v b14; replace o_y0 := ownsL_below o_y0 b14; replace o_y0v := owns_below o_y0v b14; replace o_g0 := ownsL_below o_g0 b14; replace o_g1 := ownsL_below o_g1 b14; replace o_g0v := owns_below o_g0v b14; replace o_g1v := owns_below o_g1v b14; replace o_t0 := ownsL_below o_t0 b14; replace HB := HB.trans (b14.mono HB.size); have d14_y0v_0 : w14.cell? ⟨w6.heap.size, 0, none⟩ = some (.int .i64 (x0).Store.Vendor) := Fx.var_load o_y0v n_y0v 0 _ rfl; have d14_y0v_1 : w14.cell? ⟨w6.heap.size, 1, none⟩ = some (.int .i64 (x0).Store.Serial) := Fx.var_load o_y0v n_y0v 1 _ rfl; have d14_y0v_2 : w14.cell? ⟨w6.heap.size, 2, none⟩ = some (.int .i64 (x0).Store.Seed) := Fx.var_load o_y0v n_y0v 2 _ rfl; have d14_y0v_3 : w14.cell? ⟨w6.heap.size, 3, none⟩ = some (.int .i64 (x0).Store.Counter) := Fx.var_load o_y0v n_y0v 3 _ rfl; have d14_y0v_4 : w14.cell? ⟨w6.heap.size, 4, none⟩ = some (.slice A_y0_Tabs (x0).Tabs.length c_y0_Tabs) := Fx.var_load o_y0v n_y0v 4 _ rfl; have d14_y0v_5 : w14.cell? ⟨w6.heap.size, 5, none⟩ = some (.int .i64 (x0).Asked) := Fx.var_load o_y0v n_y0v 5 _ rfl; have d14_p0_0 : w14.cell? ⟨W.heap.size, 0, none⟩ = some (.int .i64 (x0).Store.Vendor) := Fx.var_load o_p0 n_p0 0 _ rfl; have d14_p0_1 : w14.cell? ⟨W.heap.size, 1, none⟩ = some (.int .i64 (x0).Store.Serial) := Fx.var_load o_p0 n_p0 1 _ rfl; have d14_p0_2 : w14.cell? ⟨W.heap.size, 2, none⟩ = some (.int .i64 (x0).Store.Seed) := Fx.var_load o_p0 n_p0 2 _ rfl; have d14_p0_3 : w14.cell? ⟨W.heap.size, 3, none⟩ = some (.int .i64 (x0).Store.Counter) := Fx.var_load o_p0 n_p0 3 _ rfl; have d14_p0_4 : w14.cell? ⟨W.heap.size, 4, none⟩ = some (.slice A_p0_Tabs (x0).Tabs.length c_p0_Tabs) := Fx.var_load o_p0 n_p0 4 _ rfl; have d14_p0_5 : w14.cell? ⟨W.heap.size, 5, none⟩ = some (.int .i64 (x0).Asked) := Fx.var_load o_p0 n_p0 5 _ rfl; have e14_y0v : w6.heap.size < w14.heap.size := Fx.var_lt o_y0v; have e14_p0 : W.heap.size < w14.heap.size := Fx.var_lt o_p0))
  try clear d12_y0v_0 d12_y0v_1 d12_y0v_2 d12_y0v_3 d12_y0v_4 d12_y0v_5 d12_p0_0 d12_p0_1 d12_p0_2 d12_p0_3 d12_p0_4 d12_p0_5 e12_y0v e12_p0
  try clear d13_y0v_0 d13_y0v_1 d13_y0v_2 d13_y0v_3 d13_y0v_4 d13_y0v_5 d13_p0_0 d13_p0_1 d13_p0_2 d13_p0_3 d13_p0_4 d13_p0_5 e13_y0v e13_p0
  try clear d14_y0v_0 d14_y0v_1 d14_y0v_2 d14_y0v_3 d14_y0v_4 d14_y0v_5 d14_p0_0 d14_p0_1 d14_p0_2 d14_p0_3 d14_p0_4 d14_p0_5 e14_y0v e14_p0
  try clear o_t0 i_t0 n_t0
  have zq0 := bq0.size
  have z1 := b1.size
  have z2 := b2.size
  have z3 := b3.size
  have z4 := b4.size
  have z5 := b5.size
  have z6 := b6.size
  have z7 := b7.size
  have z8 := b8.size
  have z9 := b9.size
  have z10 := b10.size
  have z11 := b11.size
  have z12 := b12.size
  have d_y0v_0 : w14.cell? ⟨w6.heap.size, 0, none⟩ = some (.int .i64 (x0).Store.Vendor) := Fx.var_load o_y0v n_y0v 0 _ rfl
  have d_y0v_1 : w14.cell? ⟨w6.heap.size, 1, none⟩ = some (.int .i64 (x0).Store.Serial) := Fx.var_load o_y0v n_y0v 1 _ rfl
  have d_y0v_2 : w14.cell? ⟨w6.heap.size, 2, none⟩ = some (.int .i64 (x0).Store.Seed) := Fx.var_load o_y0v n_y0v 2 _ rfl
  have d_y0v_3 : w14.cell? ⟨w6.heap.size, 3, none⟩ = some (.int .i64 (x0).Store.Counter) := Fx.var_load o_y0v n_y0v 3 _ rfl
  have d_y0v_4 : w14.cell? ⟨w6.heap.size, 4, none⟩ = some (.slice A_y0_Tabs (x0).Tabs.length c_y0_Tabs) := Fx.var_load o_y0v n_y0v 4 _ rfl
  have d_y0v_5 : w14.cell? ⟨w6.heap.size, 5, none⟩ = some (.int .i64 (x0).Asked) := Fx.var_load o_y0v n_y0v 5 _ rfl
  have e_y0v : w6.heap.size < w14.heap.size := Fx.var_lt o_y0v
  go_wp2_with fail
  (with_reducible refine (Fx.markBrowser _ _ x0 _ _ _ o_y0 n_y0 (by omega) (by omega) (by omega)).mono ?_); rintro e w15 ⟨rfl, oz, t15⟩
  clear d_y0v_0 d_y0v_1 d_y0v_2 d_y0v_3 d_y0v_4 d_y0v_5 e_y0v
  have z15 := t15.2.2.2.1
  replace o_p0 := owns_turned o_p0 t15 (fun b hb hb2 => by have h1 := i_p0 b hb; have h2 := i_y0 b hb2; omega)
  replace o_w0 := ownsL_turned o_w0 t15 (fun b hb hb2 => by have h1 := i_w0 b hb; have h2 := i_y0 b hb2; omega)
  replace o_w1 := ownsL_turned o_w1 t15 (fun b hb hb2 => by have h1 := i_w1 b hb; have h2 := i_y0 b hb2; omega)
  replace o_w0v := owns_turned o_w0v t15 (fun b hb hb2 => by have h1 := i_w0v b hb; have h2 := i_y0 b hb2; omega)
  replace o_w1v := owns_turned o_w1v t15 (fun b hb hb2 => by have h1 := i_w1v b hb; have h2 := i_y0 b hb2; omega)
  replace o_y0v := owns_turned o_y0v t15 (fun b hb hb2 => by have h1 := i_y0v b hb; have h2 := i_y0 b hb2; omega)
  replace o_g0 := ownsL_turned o_g0 t15 (fun b hb hb2 => by have h1 := i_g0 b hb; have h2 := i_y0 b hb2; omega)
  replace o_g1 := ownsL_turned o_g1 t15 (fun b hb hb2 => by have h1 := i_g1 b hb; have h2 := i_y0 b hb2; omega)
  replace o_g0v := owns_turned o_g0v t15 (fun b hb hb2 => by have h1 := i_g0v b hb; have h2 := i_y0 b hb2; omega)
  replace o_g1v := owns_turned o_g1v t15 (fun b hb hb2 => by have h1 := i_g1v b hb; have h2 := i_y0 b hb2; omega)
  replace HB := below_turned HB t15 (fun b hb => by have h1 := i_y0 b hb; omega)
  replace o_y0 := oz
  clear oz
  have d_g0v_0 : w15.cell? ⟨w8.heap.size, 0, none⟩ = some (.int .i64 ((C16a.askX x0 a1 s2 bb5)).Store.Vendor) := Fx.var_load o_g0v n_g0v 0 _ rfl
  have d_g0v_1 : w15.cell? ⟨w8.heap.size, 1, none⟩ = some (.int .i64 ((C16a.askX x0 a1 s2 bb5)).Store.Serial) := Fx.var_load o_g0v n_g0v 1 _ rfl
  have d_g0v_2 : w15.cell? ⟨w8.heap.size, 2, none⟩ = some (.int .i64 ((C16a.askX x0 a1 s2 bb5)).Store.Seed) := Fx.var_load o_g0v n_g0v 2 _ rfl
  have d_g0v_3 : w15.cell? ⟨w8.heap.size, 3, none⟩ = some (.int .i64 ((C16a.askX x0 a1 s2 bb5)).Store.Counter) := Fx.var_load o_g0v n_g0v 3 _ rfl
  have d_g0v_4 : w15.cell? ⟨w8.heap.size, 4, none⟩ = some (.slice A_g0_Tabs ((C16a.askX x0 a1 s2 bb5)).Tabs.length c_g0_Tabs) := Fx.var_load o_g0v n_g0v 4 _ rfl
  have d_g0v_5 : w15.cell? ⟨w8.heap.size, 5, none⟩ = some (.int .i64 ((C16a.askX x0 a1 s2 bb5)).Asked) := Fx.var_load o_g0v n_g0v 5 _ rfl
  have e_g0v : w8.heap.size < w15.heap.size := Fx.var_lt o_g0v
  have d_w0v_0 : w15.cell? ⟨w3.heap.size, 0, none⟩ = some (.int .i64 ((C16a.askX x0 a1 s2 bb5)).Store.Vendor) := Fx.var_load o_w0v n_w0v 0 _ rfl
  have d_w0v_1 : w15.cell? ⟨w3.heap.size, 1, none⟩ = some (.int .i64 ((C16a.askX x0 a1 s2 bb5)).Store.Serial) := Fx.var_load o_w0v n_w0v 1 _ rfl
  have d_w0v_2 : w15.cell? ⟨w3.heap.size, 2, none⟩ = some (.int .i64 ((C16a.askX x0 a1 s2 bb5)).Store.Seed) := Fx.var_load o_w0v n_w0v 2 _ rfl
  have d_w0v_3 : w15.cell? ⟨w3.heap.size, 3, none⟩ = some (.int .i64 ((C16a.askX x0 a1 s2 bb5)).Store.Counter) := Fx.var_load o_w0v n_w0v 3 _ rfl
  have d_w0v_4 : w15.cell? ⟨w3.heap.size, 4, none⟩ = some (.slice A_w0_Tabs ((C16a.askX x0 a1 s2 bb5)).Tabs.length c_w0_Tabs) := Fx.var_load o_w0v n_w0v 4 _ rfl
  have d_w0v_5 : w15.cell? ⟨w3.heap.size, 5, none⟩ = some (.int .i64 ((C16a.askX x0 a1 s2 bb5)).Asked) := Fx.var_load o_w0v n_w0v 5 _ rfl
  have e_w0v : w3.heap.size < w15.heap.size := Fx.var_lt o_w0v
  go_wp2_with fail
  (with_reducible refine (Fx.eqBrowser _ (C16a.askX x0 a1 s2 bb5) _ _ (ownsL_rds _ _ _ o_g0) (ownsL_rds _ _ _ o_w0) (by omega)).mono ?_); rintro e w16 ⟨rfl, b16⟩
  clear d_g0v_0 d_g0v_1 d_g0v_2 d_g0v_3 d_g0v_4 d_g0v_5 e_g0v d_w0v_0 d_w0v_1 d_w0v_2 d_w0v_3 d_w0v_4 d_w0v_5 e_w0v
  replace o_p0 := owns_below o_p0 b16
  replace o_w0 := ownsL_below o_w0 b16
  replace o_w1 := ownsL_below o_w1 b16
  replace o_w0v := owns_below o_w0v b16
  replace o_w1v := owns_below o_w1v b16
  replace o_y0 := ownsL_below o_y0 b16
  replace o_y0v := owns_below o_y0v b16
  replace o_g0 := ownsL_below o_g0 b16
  replace o_g1 := ownsL_below o_g1 b16
  replace o_g0v := owns_below o_g0v b16
  replace o_g1v := owns_below o_g1v b16
  replace HB := HB.trans (b16.mono HB.size)
  have d_g1v_0 : w16.cell? ⟨w8.heap.size + 1, 0, none⟩ = some (.string ((C16a.askO x0 a1 s2 a3 a4 bb5)).Site) := Fx.var_load o_g1v n_g1v 0 _ rfl
  have d_g1v_1 : w16.cell? ⟨w8.heap.size + 1, 1, none⟩ = some (.string ((C16a.askO x0 a1 s2 a3 a4 bb5)).Origin) := Fx.var_load o_g1v n_g1v 1 _ rfl
  have d_g1v_2 : w16.cell? ⟨w8.heap.size + 1, 2, none⟩ = some (.int .i64 ((C16a.askO x0 a1 s2 a3 a4 bb5)).Challenge) := Fx.var_load o_g1v n_g1v 2 _ rfl
  have d_g1v_3 : w16.cell? ⟨w8.heap.size + 1, 3, none⟩ = some (.int .i64 ((C16a.askO x0 a1 s2 a3 a4 bb5)).Handle) := Fx.var_load o_g1v n_g1v 3 _ rfl
  have d_g1v_4 : w16.cell? ⟨w8.heap.size + 1, 4, none⟩ = some (.bool ((C16a.askO x0 a1 s2 a3 a4 bb5)).Present) := Fx.var_load o_g1v n_g1v 4 _ rfl
  have d_g1v_5 : w16.cell? ⟨w8.heap.size + 1, 5, none⟩ = some (.int .i64 ((C16a.askO x0 a1 s2 a3 a4 bb5)).Counter) := Fx.var_load o_g1v n_g1v 5 _ rfl
  have d_g1v_6 : w16.cell? ⟨w8.heap.size + 1, 6, none⟩ = some (.int .i64 ((C16a.askO x0 a1 s2 a3 a4 bb5)).Signature) := Fx.var_load o_g1v n_g1v 6 _ rfl
  have e_g1v : w8.heap.size + 1 < w16.heap.size := Fx.var_lt o_g1v
  have d_w1v_0 : w16.cell? ⟨w3.heap.size + 1, 0, none⟩ = some (.string ((C16a.askO x0 a1 s2 a3 a4 bb5)).Site) := Fx.var_load o_w1v n_w1v 0 _ rfl
  have d_w1v_1 : w16.cell? ⟨w3.heap.size + 1, 1, none⟩ = some (.string ((C16a.askO x0 a1 s2 a3 a4 bb5)).Origin) := Fx.var_load o_w1v n_w1v 1 _ rfl
  have d_w1v_2 : w16.cell? ⟨w3.heap.size + 1, 2, none⟩ = some (.int .i64 ((C16a.askO x0 a1 s2 a3 a4 bb5)).Challenge) := Fx.var_load o_w1v n_w1v 2 _ rfl
  have d_w1v_3 : w16.cell? ⟨w3.heap.size + 1, 3, none⟩ = some (.int .i64 ((C16a.askO x0 a1 s2 a3 a4 bb5)).Handle) := Fx.var_load o_w1v n_w1v 3 _ rfl
  have d_w1v_4 : w16.cell? ⟨w3.heap.size + 1, 4, none⟩ = some (.bool ((C16a.askO x0 a1 s2 a3 a4 bb5)).Present) := Fx.var_load o_w1v n_w1v 4 _ rfl
  have d_w1v_5 : w16.cell? ⟨w3.heap.size + 1, 5, none⟩ = some (.int .i64 ((C16a.askO x0 a1 s2 a3 a4 bb5)).Counter) := Fx.var_load o_w1v n_w1v 5 _ rfl
  have d_w1v_6 : w16.cell? ⟨w3.heap.size + 1, 6, none⟩ = some (.int .i64 ((C16a.askO x0 a1 s2 a3 a4 bb5)).Signature) := Fx.var_load o_w1v n_w1v 6 _ rfl
  have e_w1v : w3.heap.size + 1 < w16.heap.size := Fx.var_lt o_w1v
  go_wp2_with fail
  (with_reducible refine (Fx.eqAssertion _ (C16a.askO x0 a1 s2 a3 a4 bb5) _ _ (ownsL_rds _ _ _ o_g1) (ownsL_rds _ _ _ o_w1) (by omega)).mono ?_); rintro e w17 ⟨rfl, b17⟩
  clear d_g1v_0 d_g1v_1 d_g1v_2 d_g1v_3 d_g1v_4 d_g1v_5 d_g1v_6 e_g1v d_w1v_0 d_w1v_1 d_w1v_2 d_w1v_3 d_w1v_4 d_w1v_5 d_w1v_6 e_w1v
  replace o_p0 := owns_below o_p0 b17
  replace o_w0 := ownsL_below o_w0 b17
  replace o_w1 := ownsL_below o_w1 b17
  replace o_w0v := owns_below o_w0v b17
  replace o_w1v := owns_below o_w1v b17
  replace o_y0 := ownsL_below o_y0 b17
  replace o_y0v := owns_below o_y0v b17
  replace o_g0 := ownsL_below o_g0 b17
  replace o_g1 := ownsL_below o_g1 b17
  replace o_g0v := owns_below o_g0v b17
  replace o_g1v := owns_below o_g1v b17
  replace HB := HB.trans (b17.mono HB.size)
  clear o_y0 i_y0 n_y0
  clear o_y0v i_y0v n_y0v
  have d_g0v_0 : w17.cell? ⟨w8.heap.size, 0, none⟩ = some (.int .i64 ((C16a.askX x0 a1 s2 bb5)).Store.Vendor) := Fx.var_load o_g0v n_g0v 0 _ rfl
  have d_g0v_1 : w17.cell? ⟨w8.heap.size, 1, none⟩ = some (.int .i64 ((C16a.askX x0 a1 s2 bb5)).Store.Serial) := Fx.var_load o_g0v n_g0v 1 _ rfl
  have d_g0v_2 : w17.cell? ⟨w8.heap.size, 2, none⟩ = some (.int .i64 ((C16a.askX x0 a1 s2 bb5)).Store.Seed) := Fx.var_load o_g0v n_g0v 2 _ rfl
  have d_g0v_3 : w17.cell? ⟨w8.heap.size, 3, none⟩ = some (.int .i64 ((C16a.askX x0 a1 s2 bb5)).Store.Counter) := Fx.var_load o_g0v n_g0v 3 _ rfl
  have d_g0v_4 : w17.cell? ⟨w8.heap.size, 4, none⟩ = some (.slice A_g0_Tabs ((C16a.askX x0 a1 s2 bb5)).Tabs.length c_g0_Tabs) := Fx.var_load o_g0v n_g0v 4 _ rfl
  have d_g0v_5 : w17.cell? ⟨w8.heap.size, 5, none⟩ = some (.int .i64 ((C16a.askX x0 a1 s2 bb5)).Asked) := Fx.var_load o_g0v n_g0v 5 _ rfl
  have e_g0v : w8.heap.size < w17.heap.size := Fx.var_lt o_g0v
  go_wp2_with fail
  (with_reducible refine (Fx.markBrowser _ _ (C16a.askX x0 a1 s2 bb5) _ _ _ o_g0 n_g0 (by omega) (by omega) (by omega)).mono ?_); rintro e w18 ⟨rfl, oz, t18⟩
  clear d_g0v_0 d_g0v_1 d_g0v_2 d_g0v_3 d_g0v_4 d_g0v_5 e_g0v
  have z18 := t18.2.2.2.1
  replace o_p0 := owns_turned o_p0 t18 (fun b hb hb2 => by have h1 := i_p0 b hb; have h2 := i_g0 b hb2; omega)
  replace o_w0 := ownsL_turned o_w0 t18 (fun b hb hb2 => by have h1 := i_w0 b hb; have h2 := i_g0 b hb2; omega)
  replace o_w1 := ownsL_turned o_w1 t18 (fun b hb hb2 => by have h1 := i_w1 b hb; have h2 := i_g0 b hb2; omega)
  replace o_w0v := owns_turned o_w0v t18 (fun b hb hb2 => by have h1 := i_w0v b hb; have h2 := i_g0 b hb2; omega)
  replace o_w1v := owns_turned o_w1v t18 (fun b hb hb2 => by have h1 := i_w1v b hb; have h2 := i_g0 b hb2; omega)
  replace o_g1 := ownsL_turned o_g1 t18 (fun b hb hb2 => x_g b hb2 hb)
  replace o_g0v := owns_turned o_g0v t18 (fun b hb hb2 => by have h1 := i_g0v b hb; have h2 := i_g0 b hb2; omega)
  replace o_g1v := owns_turned o_g1v t18 (fun b hb hb2 => by have h1 := i_g1v b hb; have h2 := i_g0 b hb2; omega)
  replace HB := below_turned HB t18 (fun b hb => by have h1 := i_g0 b hb; omega)
  replace o_g0 := oz
  clear oz
  have d_g0v_0 : w18.cell? ⟨w8.heap.size, 0, none⟩ = some (.int .i64 ((C16a.askX x0 a1 s2 bb5)).Store.Vendor) := Fx.var_load o_g0v n_g0v 0 _ rfl
  have d_g0v_1 : w18.cell? ⟨w8.heap.size, 1, none⟩ = some (.int .i64 ((C16a.askX x0 a1 s2 bb5)).Store.Serial) := Fx.var_load o_g0v n_g0v 1 _ rfl
  have d_g0v_2 : w18.cell? ⟨w8.heap.size, 2, none⟩ = some (.int .i64 ((C16a.askX x0 a1 s2 bb5)).Store.Seed) := Fx.var_load o_g0v n_g0v 2 _ rfl
  have d_g0v_3 : w18.cell? ⟨w8.heap.size, 3, none⟩ = some (.int .i64 ((C16a.askX x0 a1 s2 bb5)).Store.Counter) := Fx.var_load o_g0v n_g0v 3 _ rfl
  have d_g0v_4 : w18.cell? ⟨w8.heap.size, 4, none⟩ = some (.slice A_g0_Tabs ((C16a.askX x0 a1 s2 bb5)).Tabs.length c_g0_Tabs) := Fx.var_load o_g0v n_g0v 4 _ rfl
  have d_g0v_5 : w18.cell? ⟨w8.heap.size, 5, none⟩ = some (.int .i64 ((C16a.askX x0 a1 s2 bb5)).Asked) := Fx.var_load o_g0v n_g0v 5 _ rfl
  have e_g0v : w8.heap.size < w18.heap.size := Fx.var_lt o_g0v
  go_wp2_with fail
  (with_reducible refine (Fx.heldBrowser _ (C16a.askX x0 a1 s2 bb5) _ _ (ownsL_rds _ _ _ o_g0) (by omega) (by omega) (by omega)).mono ?_); rintro e w19 ⟨rfl, b19⟩
  clear d_g0v_0 d_g0v_1 d_g0v_2 d_g0v_3 d_g0v_4 d_g0v_5 e_g0v
  replace o_p0 := owns_below o_p0 b19
  replace o_w0 := ownsL_below o_w0 b19
  replace o_w1 := ownsL_below o_w1 b19
  replace o_w0v := owns_below o_w0v b19
  replace o_w1v := owns_below o_w1v b19
  replace o_g0 := ownsL_below o_g0 b19
  replace o_g1 := ownsL_below o_g1 b19
  replace o_g0v := owns_below o_g0v b19
  replace o_g1v := owns_below o_g1v b19
  replace HB := HB.trans (b19.mono HB.size)
  have d_p0_0 : w19.cell? ⟨W.heap.size, 0, none⟩ = some (.int .i64 (x0).Store.Vendor) := Fx.var_load o_p0 n_p0 0 _ rfl
  have d_p0_1 : w19.cell? ⟨W.heap.size, 1, none⟩ = some (.int .i64 (x0).Store.Serial) := Fx.var_load o_p0 n_p0 1 _ rfl
  have d_p0_2 : w19.cell? ⟨W.heap.size, 2, none⟩ = some (.int .i64 (x0).Store.Seed) := Fx.var_load o_p0 n_p0 2 _ rfl
  have d_p0_3 : w19.cell? ⟨W.heap.size, 3, none⟩ = some (.int .i64 (x0).Store.Counter) := Fx.var_load o_p0 n_p0 3 _ rfl
  have d_p0_4 : w19.cell? ⟨W.heap.size, 4, none⟩ = some (.slice A_p0_Tabs (x0).Tabs.length c_p0_Tabs) := Fx.var_load o_p0 n_p0 4 _ rfl
  have d_p0_5 : w19.cell? ⟨W.heap.size, 5, none⟩ = some (.int .i64 (x0).Asked) := Fx.var_load o_p0 n_p0 5 _ rfl
  have e_p0 : W.heap.size < w19.heap.size := Fx.var_lt o_p0
  go_wp2_with fail
  (with_reducible refine (Fx.toBrowser _ x0 _ (rdsL_on H0.out HB) (by omega)).mono ?_); rintro e w20 ⟨v_ch0, s_ch0, rfl, o_ch0, n_ch0, b20⟩
  clear d_p0_0 d_p0_1 d_p0_2 d_p0_3 d_p0_4 d_p0_5 e_p0
  replace o_p0 := owns_below o_p0 b20
  replace o_w0 := ownsL_below o_w0 b20
  replace o_w1 := ownsL_below o_w1 b20
  replace o_w0v := owns_below o_w0v b20
  replace o_w1v := owns_below o_w1v b20
  replace o_g0 := ownsL_below o_g0 b20
  replace o_g1 := ownsL_below o_g1 b20
  replace o_g0v := owns_below o_g0v b20
  replace o_g1v := owns_below o_g1v b20
  replace HB := HB.trans (b20.mono HB.size)
  have i_ch0 := Fx.madeL_in o_ch0
  obtain ⟨A_ch0_Tabs, c_ch0_Tabs, _, rfl, -, -⟩ := Fx.Browser.owns o_ch0
  go_wp2_with fail
  (with_reducible refine (C16y.implAsk _ x0 _ (E0.ownsL_shsL _ _ _ o_ch0) (by omega) a1 s2 a3 a4 bb5 (by omega) ho0.Store (by omega) (by omega) (by omega) (by omega) (ht.stays HB)).mono ?_); rintro e w21 ⟨v_h0, s_h0, v_h1, s_h1, rfl, o_h0, o_h1, n_h0, n_h1, x_h, b21⟩
  replace o_p0 := owns_below o_p0 b21
  replace o_w0 := ownsL_below o_w0 b21
  replace o_w1 := ownsL_below o_w1 b21
  replace o_w0v := owns_below o_w0v b21
  replace o_w1v := owns_below o_w1v b21
  replace o_g0 := ownsL_below o_g0 b21
  replace o_g1 := ownsL_below o_g1 b21
  replace o_g0v := owns_below o_g0v b21
  replace o_g1v := owns_below o_g1v b21
  replace o_ch0 := ownsL_below o_ch0 b21
  replace HB := HB.trans (b21.mono HB.size)
  have i_h0 := Fx.madeL_in o_h0
  obtain ⟨A_h0_Tabs, c_h0_Tabs, _, rfl, -, -⟩ := Fx.Browser.owns o_h0
  have i_h1 := Fx.madeL_in o_h1
  obtain ⟨rfl, -⟩ := Fx.Assertion.owns o_h1
  clear o_ch0 i_ch0 n_ch0
  have d_p0_0 : w21.cell? ⟨W.heap.size, 0, none⟩ = some (.int .i64 (x0).Store.Vendor) := Fx.var_load o_p0 n_p0 0 _ rfl
  have d_p0_1 : w21.cell? ⟨W.heap.size, 1, none⟩ = some (.int .i64 (x0).Store.Serial) := Fx.var_load o_p0 n_p0 1 _ rfl
  have d_p0_2 : w21.cell? ⟨W.heap.size, 2, none⟩ = some (.int .i64 (x0).Store.Seed) := Fx.var_load o_p0 n_p0 2 _ rfl
  have d_p0_3 : w21.cell? ⟨W.heap.size, 3, none⟩ = some (.int .i64 (x0).Store.Counter) := Fx.var_load o_p0 n_p0 3 _ rfl
  have d_p0_4 : w21.cell? ⟨W.heap.size, 4, none⟩ = some (.slice A_p0_Tabs (x0).Tabs.length c_p0_Tabs) := Fx.var_load o_p0 n_p0 4 _ rfl
  have d_p0_5 : w21.cell? ⟨W.heap.size, 5, none⟩ = some (.int .i64 (x0).Asked) := Fx.var_load o_p0 n_p0 5 _ rfl
  have e_p0 : W.heap.size < w21.heap.size := Fx.var_lt o_p0
  have d_w0v_0 : w21.cell? ⟨w3.heap.size, 0, none⟩ = some (.int .i64 ((C16a.askX x0 a1 s2 bb5)).Store.Vendor) := Fx.var_load o_w0v n_w0v 0 _ rfl
  have d_w0v_1 : w21.cell? ⟨w3.heap.size, 1, none⟩ = some (.int .i64 ((C16a.askX x0 a1 s2 bb5)).Store.Serial) := Fx.var_load o_w0v n_w0v 1 _ rfl
  have d_w0v_2 : w21.cell? ⟨w3.heap.size, 2, none⟩ = some (.int .i64 ((C16a.askX x0 a1 s2 bb5)).Store.Seed) := Fx.var_load o_w0v n_w0v 2 _ rfl
  have d_w0v_3 : w21.cell? ⟨w3.heap.size, 3, none⟩ = some (.int .i64 ((C16a.askX x0 a1 s2 bb5)).Store.Counter) := Fx.var_load o_w0v n_w0v 3 _ rfl
  have d_w0v_4 : w21.cell? ⟨w3.heap.size, 4, none⟩ = some (.slice A_w0_Tabs ((C16a.askX x0 a1 s2 bb5)).Tabs.length c_w0_Tabs) := Fx.var_load o_w0v n_w0v 4 _ rfl
  have d_w0v_5 : w21.cell? ⟨w3.heap.size, 5, none⟩ = some (.int .i64 ((C16a.askX x0 a1 s2 bb5)).Asked) := Fx.var_load o_w0v n_w0v 5 _ rfl
  have e_w0v : w3.heap.size < w21.heap.size := Fx.var_lt o_w0v
  have d_w1v_0 : w21.cell? ⟨w3.heap.size + 1, 0, none⟩ = some (.string ((C16a.askO x0 a1 s2 a3 a4 bb5)).Site) := Fx.var_load o_w1v n_w1v 0 _ rfl
  have d_w1v_1 : w21.cell? ⟨w3.heap.size + 1, 1, none⟩ = some (.string ((C16a.askO x0 a1 s2 a3 a4 bb5)).Origin) := Fx.var_load o_w1v n_w1v 1 _ rfl
  have d_w1v_2 : w21.cell? ⟨w3.heap.size + 1, 2, none⟩ = some (.int .i64 ((C16a.askO x0 a1 s2 a3 a4 bb5)).Challenge) := Fx.var_load o_w1v n_w1v 2 _ rfl
  have d_w1v_3 : w21.cell? ⟨w3.heap.size + 1, 3, none⟩ = some (.int .i64 ((C16a.askO x0 a1 s2 a3 a4 bb5)).Handle) := Fx.var_load o_w1v n_w1v 3 _ rfl
  have d_w1v_4 : w21.cell? ⟨w3.heap.size + 1, 4, none⟩ = some (.bool ((C16a.askO x0 a1 s2 a3 a4 bb5)).Present) := Fx.var_load o_w1v n_w1v 4 _ rfl
  have d_w1v_5 : w21.cell? ⟨w3.heap.size + 1, 5, none⟩ = some (.int .i64 ((C16a.askO x0 a1 s2 a3 a4 bb5)).Counter) := Fx.var_load o_w1v n_w1v 5 _ rfl
  have d_w1v_6 : w21.cell? ⟨w3.heap.size + 1, 6, none⟩ = some (.int .i64 ((C16a.askO x0 a1 s2 a3 a4 bb5)).Signature) := Fx.var_load o_w1v n_w1v 6 _ rfl
  have e_w1v : w3.heap.size + 1 < w21.heap.size := Fx.var_lt o_w1v
  have d_g0v_0 : w21.cell? ⟨w8.heap.size, 0, none⟩ = some (.int .i64 ((C16a.askX x0 a1 s2 bb5)).Store.Vendor) := Fx.var_load o_g0v n_g0v 0 _ rfl
  have d_g0v_1 : w21.cell? ⟨w8.heap.size, 1, none⟩ = some (.int .i64 ((C16a.askX x0 a1 s2 bb5)).Store.Serial) := Fx.var_load o_g0v n_g0v 1 _ rfl
  have d_g0v_2 : w21.cell? ⟨w8.heap.size, 2, none⟩ = some (.int .i64 ((C16a.askX x0 a1 s2 bb5)).Store.Seed) := Fx.var_load o_g0v n_g0v 2 _ rfl
  have d_g0v_3 : w21.cell? ⟨w8.heap.size, 3, none⟩ = some (.int .i64 ((C16a.askX x0 a1 s2 bb5)).Store.Counter) := Fx.var_load o_g0v n_g0v 3 _ rfl
  have d_g0v_4 : w21.cell? ⟨w8.heap.size, 4, none⟩ = some (.slice A_g0_Tabs ((C16a.askX x0 a1 s2 bb5)).Tabs.length c_g0_Tabs) := Fx.var_load o_g0v n_g0v 4 _ rfl
  have d_g0v_5 : w21.cell? ⟨w8.heap.size, 5, none⟩ = some (.int .i64 ((C16a.askX x0 a1 s2 bb5)).Asked) := Fx.var_load o_g0v n_g0v 5 _ rfl
  have e_g0v : w8.heap.size < w21.heap.size := Fx.var_lt o_g0v
  have d_g1v_0 : w21.cell? ⟨w8.heap.size + 1, 0, none⟩ = some (.string ((C16a.askO x0 a1 s2 a3 a4 bb5)).Site) := Fx.var_load o_g1v n_g1v 0 _ rfl
  have d_g1v_1 : w21.cell? ⟨w8.heap.size + 1, 1, none⟩ = some (.string ((C16a.askO x0 a1 s2 a3 a4 bb5)).Origin) := Fx.var_load o_g1v n_g1v 1 _ rfl
  have d_g1v_2 : w21.cell? ⟨w8.heap.size + 1, 2, none⟩ = some (.int .i64 ((C16a.askO x0 a1 s2 a3 a4 bb5)).Challenge) := Fx.var_load o_g1v n_g1v 2 _ rfl
  have d_g1v_3 : w21.cell? ⟨w8.heap.size + 1, 3, none⟩ = some (.int .i64 ((C16a.askO x0 a1 s2 a3 a4 bb5)).Handle) := Fx.var_load o_g1v n_g1v 3 _ rfl
  have d_g1v_4 : w21.cell? ⟨w8.heap.size + 1, 4, none⟩ = some (.bool ((C16a.askO x0 a1 s2 a3 a4 bb5)).Present) := Fx.var_load o_g1v n_g1v 4 _ rfl
  have d_g1v_5 : w21.cell? ⟨w8.heap.size + 1, 5, none⟩ = some (.int .i64 ((C16a.askO x0 a1 s2 a3 a4 bb5)).Counter) := Fx.var_load o_g1v n_g1v 5 _ rfl
  have d_g1v_6 : w21.cell? ⟨w8.heap.size + 1, 6, none⟩ = some (.int .i64 ((C16a.askO x0 a1 s2 a3 a4 bb5)).Signature) := Fx.var_load o_g1v n_g1v 6 _ rfl
  have e_g1v : w8.heap.size + 1 < w21.heap.size := Fx.var_lt o_g1v
  go_wp2_with fail
  clear d_p0_0 d_p0_1 d_p0_2 d_p0_3 d_p0_4 d_p0_5 e_p0 d_w0v_0 d_w0v_1 d_w0v_2 d_w0v_3 d_w0v_4 d_w0v_5 e_w0v d_w1v_0 d_w1v_1 d_w1v_2 d_w1v_3 d_w1v_4 d_w1v_5 d_w1v_6 e_w1v d_g0v_0 d_g0v_1 d_g0v_2 d_g0v_3 d_g0v_4 d_g0v_5 e_g0v d_g1v_0 d_g1v_1 d_g1v_2 d_g1v_3 d_g1v_4 d_g1v_5 d_g1v_6 e_g1v
  obtain ⟨w22, hw22⟩ : ∃ y, y = w21.alloc (.cells #[.int .i64 ((C16a.askX x0 a1 s2 bb5)).Store.Vendor, .int .i64 ((C16a.askX x0 a1 s2 bb5)).Store.Serial, .int .i64 ((C16a.askX x0 a1 s2 bb5)).Store.Seed, .int .i64 ((C16a.askX x0 a1 s2 bb5)).Store.Counter, .slice A_h0_Tabs ((C16a.askX x0 a1 s2 bb5)).Tabs.length c_h0_Tabs, .int .i64 ((C16a.askX x0 a1 s2 bb5)).Asked] 28) := ⟨_, rfl⟩
  have o_h0v := Fx.var_owns w21 28 6 [.int .i64 ((C16a.askX x0 a1 s2 bb5)).Store.Vendor, .int .i64 ((C16a.askX x0 a1 s2 bb5)).Store.Serial, .int .i64 ((C16a.askX x0 a1 s2 bb5)).Store.Seed, .int .i64 ((C16a.askX x0 a1 s2 bb5)).Store.Counter, .slice A_h0_Tabs ((C16a.askX x0 a1 s2 bb5)).Tabs.length c_h0_Tabs, .int .i64 ((C16a.askX x0 a1 s2 bb5)).Asked] rfl
  have b22 : Below w21.heap.size w21 w22 := hw22 ▸ (Below.refl _ _).alloc (Nat.le_refl _) _
  rw [← hw22] at o_h0v ⊢
  have sl22 : w22.heap.size = w21.heap.size + 1 := by rw [hw22]; simp
  clear hw22
  replace o_p0 := owns_below o_p0 b22
  replace o_w0 := ownsL_below o_w0 b22
  replace o_w1 := ownsL_below o_w1 b22
  replace o_w0v := owns_below o_w0v b22
  replace o_w1v := owns_below o_w1v b22
  replace o_g0 := ownsL_below o_g0 b22
  replace o_g1 := ownsL_below o_g1 b22
  replace o_g0v := owns_below o_g0v b22
  replace o_g1v := owns_below o_g1v b22
  replace o_h0 := ownsL_below o_h0 b22
  replace o_h1 := ownsL_below o_h1 b22
  replace HB := HB.trans (b22.mono HB.size)
  have n_h0v : [w21.heap.size].Nodup := by simp
  have i_h0v := Fx.made_in o_h0v
  obtain ⟨w23, hw23⟩ : ∃ y, y = w22.alloc (.cells #[.string ((C16a.askO x0 a1 s2 a3 a4 bb5)).Site, .string ((C16a.askO x0 a1 s2 a3 a4 bb5)).Origin, .int .i64 ((C16a.askO x0 a1 s2 a3 a4 bb5)).Challenge, .int .i64 ((C16a.askO x0 a1 s2 a3 a4 bb5)).Handle, .bool ((C16a.askO x0 a1 s2 a3 a4 bb5)).Present, .int .i64 ((C16a.askO x0 a1 s2 a3 a4 bb5)).Counter, .int .i64 ((C16a.askO x0 a1 s2 a3 a4 bb5)).Signature] 32) := ⟨_, rfl⟩
  have o_h1v := Fx.var_owns w22 32 7 [.string ((C16a.askO x0 a1 s2 a3 a4 bb5)).Site, .string ((C16a.askO x0 a1 s2 a3 a4 bb5)).Origin, .int .i64 ((C16a.askO x0 a1 s2 a3 a4 bb5)).Challenge, .int .i64 ((C16a.askO x0 a1 s2 a3 a4 bb5)).Handle, .bool ((C16a.askO x0 a1 s2 a3 a4 bb5)).Present, .int .i64 ((C16a.askO x0 a1 s2 a3 a4 bb5)).Counter, .int .i64 ((C16a.askO x0 a1 s2 a3 a4 bb5)).Signature] rfl
  have b23 : Below w22.heap.size w22 w23 := hw23 ▸ (Below.refl _ _).alloc (Nat.le_refl _) _
  rw [← hw23] at o_h1v ⊢
  rw [sl22] at o_h1v
  clear hw23
  replace o_p0 := owns_below o_p0 b23
  replace o_w0 := ownsL_below o_w0 b23
  replace o_w1 := ownsL_below o_w1 b23
  replace o_w0v := owns_below o_w0v b23
  replace o_w1v := owns_below o_w1v b23
  replace o_g0 := ownsL_below o_g0 b23
  replace o_g1 := ownsL_below o_g1 b23
  replace o_g0v := owns_below o_g0v b23
  replace o_g1v := owns_below o_g1v b23
  replace o_h0 := ownsL_below o_h0 b23
  replace o_h1 := ownsL_below o_h1 b23
  replace o_h0v := owns_below o_h0v b23
  replace HB := HB.trans (b23.mono HB.size)
  have n_h1v : [w21.heap.size + 1].Nodup := by simp
  have i_h1v := Fx.made_in o_h1v
  (with_reducible refine (Fx.eqBrowser _ (C16a.askX x0 a1 s2 bb5) _ _ (ownsL_rds _ _ _ o_h0) (ownsL_rds _ _ _ o_w0) (by omega)).mono ?_); rintro e w24 ⟨rfl, b24⟩
  replace o_p0 := owns_below o_p0 b24
  replace o_w0 := ownsL_below o_w0 b24
  replace o_w1 := ownsL_below o_w1 b24
  replace o_w0v := owns_below o_w0v b24
  replace o_w1v := owns_below o_w1v b24
  replace o_g0 := ownsL_below o_g0 b24
  replace o_g1 := ownsL_below o_g1 b24
  replace o_g0v := owns_below o_g0v b24
  replace o_g1v := owns_below o_g1v b24
  replace o_h0 := ownsL_below o_h0 b24
  replace o_h1 := ownsL_below o_h1 b24
  replace o_h0v := owns_below o_h0v b24
  replace o_h1v := owns_below o_h1v b24
  replace HB := HB.trans (b24.mono HB.size)
  have d_h1v_0 : w24.cell? ⟨w21.heap.size + 1, 0, none⟩ = some (.string ((C16a.askO x0 a1 s2 a3 a4 bb5)).Site) := Fx.var_load o_h1v n_h1v 0 _ rfl
  have d_h1v_1 : w24.cell? ⟨w21.heap.size + 1, 1, none⟩ = some (.string ((C16a.askO x0 a1 s2 a3 a4 bb5)).Origin) := Fx.var_load o_h1v n_h1v 1 _ rfl
  have d_h1v_2 : w24.cell? ⟨w21.heap.size + 1, 2, none⟩ = some (.int .i64 ((C16a.askO x0 a1 s2 a3 a4 bb5)).Challenge) := Fx.var_load o_h1v n_h1v 2 _ rfl
  have d_h1v_3 : w24.cell? ⟨w21.heap.size + 1, 3, none⟩ = some (.int .i64 ((C16a.askO x0 a1 s2 a3 a4 bb5)).Handle) := Fx.var_load o_h1v n_h1v 3 _ rfl
  have d_h1v_4 : w24.cell? ⟨w21.heap.size + 1, 4, none⟩ = some (.bool ((C16a.askO x0 a1 s2 a3 a4 bb5)).Present) := Fx.var_load o_h1v n_h1v 4 _ rfl
  have d_h1v_5 : w24.cell? ⟨w21.heap.size + 1, 5, none⟩ = some (.int .i64 ((C16a.askO x0 a1 s2 a3 a4 bb5)).Counter) := Fx.var_load o_h1v n_h1v 5 _ rfl
  have d_h1v_6 : w24.cell? ⟨w21.heap.size + 1, 6, none⟩ = some (.int .i64 ((C16a.askO x0 a1 s2 a3 a4 bb5)).Signature) := Fx.var_load o_h1v n_h1v 6 _ rfl
  have e_h1v : w21.heap.size + 1 < w24.heap.size := Fx.var_lt o_h1v
  have d_w1v_0 : w24.cell? ⟨w3.heap.size + 1, 0, none⟩ = some (.string ((C16a.askO x0 a1 s2 a3 a4 bb5)).Site) := Fx.var_load o_w1v n_w1v 0 _ rfl
  have d_w1v_1 : w24.cell? ⟨w3.heap.size + 1, 1, none⟩ = some (.string ((C16a.askO x0 a1 s2 a3 a4 bb5)).Origin) := Fx.var_load o_w1v n_w1v 1 _ rfl
  have d_w1v_2 : w24.cell? ⟨w3.heap.size + 1, 2, none⟩ = some (.int .i64 ((C16a.askO x0 a1 s2 a3 a4 bb5)).Challenge) := Fx.var_load o_w1v n_w1v 2 _ rfl
  have d_w1v_3 : w24.cell? ⟨w3.heap.size + 1, 3, none⟩ = some (.int .i64 ((C16a.askO x0 a1 s2 a3 a4 bb5)).Handle) := Fx.var_load o_w1v n_w1v 3 _ rfl
  have d_w1v_4 : w24.cell? ⟨w3.heap.size + 1, 4, none⟩ = some (.bool ((C16a.askO x0 a1 s2 a3 a4 bb5)).Present) := Fx.var_load o_w1v n_w1v 4 _ rfl
  have d_w1v_5 : w24.cell? ⟨w3.heap.size + 1, 5, none⟩ = some (.int .i64 ((C16a.askO x0 a1 s2 a3 a4 bb5)).Counter) := Fx.var_load o_w1v n_w1v 5 _ rfl
  have d_w1v_6 : w24.cell? ⟨w3.heap.size + 1, 6, none⟩ = some (.int .i64 ((C16a.askO x0 a1 s2 a3 a4 bb5)).Signature) := Fx.var_load o_w1v n_w1v 6 _ rfl
  have e_w1v : w3.heap.size + 1 < w24.heap.size := Fx.var_lt o_w1v
  go_wp2_with fail
  (with_reducible refine (Fx.eqAssertion _ (C16a.askO x0 a1 s2 a3 a4 bb5) _ _ (ownsL_rds _ _ _ o_h1) (ownsL_rds _ _ _ o_w1) (by omega)).mono ?_); rintro e w25 ⟨rfl, b25⟩
  clear d_h1v_0 d_h1v_1 d_h1v_2 d_h1v_3 d_h1v_4 d_h1v_5 d_h1v_6 e_h1v d_w1v_0 d_w1v_1 d_w1v_2 d_w1v_3 d_w1v_4 d_w1v_5 d_w1v_6 e_w1v
  replace o_p0 := owns_below o_p0 b25
  replace o_w0 := ownsL_below o_w0 b25
  replace o_w1 := ownsL_below o_w1 b25
  replace o_w0v := owns_below o_w0v b25
  replace o_w1v := owns_below o_w1v b25
  replace o_g0 := ownsL_below o_g0 b25
  replace o_g1 := ownsL_below o_g1 b25
  replace o_g0v := owns_below o_g0v b25
  replace o_g1v := owns_below o_g1v b25
  replace o_h0 := ownsL_below o_h0 b25
  replace o_h1 := ownsL_below o_h1 b25
  replace o_h0v := owns_below o_h0v b25
  replace o_h1v := owns_below o_h1v b25
  replace HB := HB.trans (b25.mono HB.size)
  have d_g0v_0 : w25.cell? ⟨w8.heap.size, 0, none⟩ = some (.int .i64 ((C16a.askX x0 a1 s2 bb5)).Store.Vendor) := Fx.var_load o_g0v n_g0v 0 _ rfl
  have d_g0v_1 : w25.cell? ⟨w8.heap.size, 1, none⟩ = some (.int .i64 ((C16a.askX x0 a1 s2 bb5)).Store.Serial) := Fx.var_load o_g0v n_g0v 1 _ rfl
  have d_g0v_2 : w25.cell? ⟨w8.heap.size, 2, none⟩ = some (.int .i64 ((C16a.askX x0 a1 s2 bb5)).Store.Seed) := Fx.var_load o_g0v n_g0v 2 _ rfl
  have d_g0v_3 : w25.cell? ⟨w8.heap.size, 3, none⟩ = some (.int .i64 ((C16a.askX x0 a1 s2 bb5)).Store.Counter) := Fx.var_load o_g0v n_g0v 3 _ rfl
  have d_g0v_4 : w25.cell? ⟨w8.heap.size, 4, none⟩ = some (.slice A_g0_Tabs ((C16a.askX x0 a1 s2 bb5)).Tabs.length c_g0_Tabs) := Fx.var_load o_g0v n_g0v 4 _ rfl
  have d_g0v_5 : w25.cell? ⟨w8.heap.size, 5, none⟩ = some (.int .i64 ((C16a.askX x0 a1 s2 bb5)).Asked) := Fx.var_load o_g0v n_g0v 5 _ rfl
  have e_g0v : w8.heap.size < w25.heap.size := Fx.var_lt o_g0v
  go_wp2_with fail
  (with_reducible refine (Fx.heldBrowser _ (C16a.askX x0 a1 s2 bb5) _ _ (ownsL_rds _ _ _ o_g0) (by omega) (by omega) (by omega)).mono ?_); rintro e w26 ⟨rfl, b26⟩
  clear d_g0v_0 d_g0v_1 d_g0v_2 d_g0v_3 d_g0v_4 d_g0v_5 e_g0v
  replace o_p0 := owns_below o_p0 b26
  replace o_w0 := ownsL_below o_w0 b26
  replace o_w1 := ownsL_below o_w1 b26
  replace o_w0v := owns_below o_w0v b26
  replace o_w1v := owns_below o_w1v b26
  replace o_g0 := ownsL_below o_g0 b26
  replace o_g1 := ownsL_below o_g1 b26
  replace o_g0v := owns_below o_g0v b26
  replace o_g1v := owns_below o_g1v b26
  replace o_h0 := ownsL_below o_h0 b26
  replace o_h1 := ownsL_below o_h1 b26
  replace o_h0v := owns_below o_h0v b26
  replace o_h1v := owns_below o_h1v b26
  replace HB := HB.trans (b26.mono HB.size)
  go_wp2
  go_ret
  exact ⟨rfl, HB⟩

set_option maxRecDepth 100000 in
theorem contract (H : Type) (enc : TypeId × Value → H) (W : World) (base : Nat) (args : Array Value) (ds gs : List (DataW H)) (before : List MemPlace)
    (hval : ∀ (j : Nat) t v, Tryz.f4.params[j]? = some t → args[j]? = some v → Value.okWide Tryz.prog W .any base t v)
    (hW : DataW.Whole enc Tryz.prog Tryz.f4.params.toList Rows.fnExactAskAssertionSpec.vars false W args.toList ds gs before) (hL : laidMetH Tryz.prog Rows.fnExactAskAssertionRow.laid W) :
    Calls Tryz.prog 4 args W fun e W' => ∃ v, e = .returned v ∧ Rows.fnExactAskAssertionSpec.post enc Tryz.prog Tryz.f4 false true false false W args v W' := by
  have hW' := hW
  obtain ⟨p, q, hA0, hV, rfl, hfz, hnd⟩ := hW
  have hA : DataW.TrodAll enc Tryz.prog W 0 (fun _ => true) true Tryz.f4.params.toList args.toList ds p := hA0
  rw [Tryz.params4] at hA hval
  obtain ⟨v0, vs0, d0, ds0, p0, q0, hargs, rfl, rfl, h0, r0⟩ := trodAll_cons hA
  obtain ⟨v1, vs1, d1, ds1, p1, q1, rfl, rfl, rfl, h1, r1⟩ := trodAll_cons r0
  obtain ⟨v2, vs2, d2, ds2, p2, q2, rfl, rfl, rfl, h2, r2⟩ := trodAll_cons r1
  obtain ⟨v3, vs3, d3, ds3, p3, q3, rfl, rfl, rfl, h3, r3⟩ := trodAll_cons r2
  obtain ⟨v4, vs4, d4, ds4, p4, q4, rfl, rfl, rfl, h4, r4⟩ := trodAll_cons r3
  obtain ⟨v5, vs5, d5, ds5, p5, q5, rfl, rfl, rfl, h5, r5⟩ := trodAll_cons r4
  obtain ⟨rfl, rfl, rfl⟩ := trodAll_nil r5
  obtain rfl : args = #[v0, v1, v2, v3, v4, v5] := by cases args; simp_all
  obtain ⟨rfl, rfl⟩ := trodVars_none hV
  obtain ⟨a1, rfl, rfl, rfl, w1⟩ := open_int Tryz.underlying3 (hval 1 3 v1 rfl rfl) h1
  obtain ⟨s2, rfl, rfl, rfl, hs2⟩ := ChangeMaps.open_string Tryz.underlying9 (hval 2 9 v2 rfl rfl) h2
  obtain ⟨a3, rfl, rfl, rfl, w3⟩ := open_int Tryz.underlying3 (hval 3 3 v3 rfl rfl) h3
  obtain ⟨a4, rfl, rfl, rfl, w4⟩ := open_int Tryz.underlying3 (hval 4 3 v4 rfl rfl) h4
  obtain ⟨b5, rfl, rfl, rfl⟩ := open_bool Tryz.underlying4 (hval 5 4 v5 rfl rfl) h5
  clear hA0
  refine Fr.closeLaw rfl (by kernel_rfl) (by rw [Tryz.params4]; decide) hW' rfl ?_
  exact walk v0 a1 w1 s2 hs2 a3 w3 a4 w4 b5 W (hval 0 48 v0 rfl rfl) h0 hL

theorem laid_met (os : Os) : laidMetH Tryz.prog Rows.fnExactAskAssertionRow.laid ((World.laidAll Tryz.prog os Rows.fnExactAskAssertionRow.laid).forCall (fun _ _ => 0) ⟨#[], #[.agg #[.int .i64 0, .int .i64 0, .int .i64 0, .int .i64 0, .slice none 0 0, .int .i64 0], .int .i64 0, .string ⟨#[]⟩, .int .i64 0, .int .i64 0, .bool false], []⟩).memory := by
  rw [MakeChecks.laidMetH_plain _ _ _ (by kernel_rfl)]; exact laidMet_laidAll _ (by kernel_rfl) (by kernel_rfl)
set_option maxRecDepth 100000 in
theorem reads (os : Os) {H : Type} (enc : TypeId × Value → H) : ∃ places, DataW.whole enc Tryz.prog ((World.laidAll Tryz.prog os Rows.fnExactAskAssertionRow.laid).forCall (fun _ _ => 0) ⟨#[], #[.agg #[.int .i64 0, .int .i64 0, .int .i64 0, .int .i64 0, .slice none 0 0, .int .i64 0], .int .i64 0, .string ⟨#[]⟩, .int .i64 0, .int .i64 0, .bool false], []⟩).memory Tryz.f4.params.toList Rows.fnExactAskAssertionSpec.vars false (#[.agg #[.int .i64 0, .int .i64 0, .int .i64 0, .int .i64 0, .slice none 0 0, .int .i64 0], .int .i64 0, .string ⟨#[]⟩, .int .i64 0, .int .i64 0, .bool false] : Array Value).toList 8 = some ([.agg [.agg [.lit (.int .i64 0), .lit (.int .i64 0), .lit (.int .i64 0), .lit (.int .i64 0)], .nil, .lit (.int .i64 0)], .lit (.int .i64 0), .lit (.string []), .lit (.int .i64 0), .lit (.int .i64 0), .lit (.bool false)], [], places) :=
  ⟨[], by kernel_rfl⟩
set_option maxRecDepth 100000 in
theorem lifted (os : Os) (started : os.Started) (H : Type) (enc : TypeId × Value → H) (F : Stop.Interp) :
    ReturnsInHanded {} Tryz.checked os 4 .any ((OpenSpec.ofChange Rows.fnExactAskAssertionSpec).preRow enc Tryz.prog Tryz.f4 Rows.fnExactAskAssertionRow.domain false Rows.fnExactAskAssertionRow.laid) (((OpenSpec.ofChange Rows.fnExactAskAssertionSpec).at F).post enc Tryz.prog Tryz.f4 false true false false) := by
  obtain ⟨places, hx⟩ := reads os enc
  refine returnsInHanded_of_row (C := Tryz.checked) (s := OpenSpec.ofChange Rows.fnExactAskAssertionSpec) Fr.own started (by kernel_rfl) Tryz.func4
    (witness_row_atRef (enc := enc) (C := Tryz.checked) false (World.laidAll Tryz.prog os Rows.fnExactAskAssertionRow.laid) #[.agg #[.int .i64 0, .int .i64 0, .int .i64 0, .int .i64 0, .slice none 0 0, .int .i64 0], .int .i64 0, .string ⟨#[]⟩, .int .i64 0, .int .i64 0, .bool false] (World.laidAll_os _ _ _) (by kernel_rfl) (by kernel_rfl) (by kernel_rfl)
      (OpenSpec.preRow_of_cond 8 hx (by kernel_rfl) (fun k hk => by cases hk) (by kernel_rfl) (laid_met os))) ?_
  intro W base args ds gs before hval hW _ hcond _ hL _ _
  exact contract H enc W base args ds gs before hval hW hL
set_option maxRecDepth 100000 in
theorem said : Rows.FnExactAskAssertionSaid :=
  OpenClaim.holds_of_cond 4 Tryz.f4 rfl rfl rfl rfl rfl rfl rfl ⟨rfl, rfl, rfl, rfl, rfl⟩ rfl rfl rfl rfl rfl (by kernel_rfl) Tryz.func4 (by kernel_rfl)
    (of_decide_eq_true (by kernel_rfl)) (by unfold Func.isWrapper; first | (rw [if_pos (by decide +kernel)]; kernel_rfl) | (rw [if_neg (by decide +kernel)]; exact ⟨rfl, rfl⟩))
    (fun os started H enc _ F => by rw [OpenClaim.pre_eq_preRow]; exact lifted os started H enc F)
theorem plain (f : FuncId) (fn : Func) (hf : Tryz.pinned.checked.prog.funcNamed "loop.example/g00581/laws.FnExactAskAssertion" = some f) (hfn : Tryz.pinned.checked.prog.funcs[f]? = some fn) :
    false = Tryz.pinned.checked.prog.looks [] ∧ ∀ (j : Nat) t, fn.params[j]? = some t → Tryz.pinned.checked.prog.wantsStandIn t = false := by
  obtain rfl : f = 4 := Option.some.inj ((show Tryz.prog.funcNamed "loop.example/g00581/laws.FnExactAskAssertion" = some 4 by kernel_rfl).symm.trans hf) |>.symm
  obtain rfl : fn = Tryz.f4 := (Option.some.inj (Tryz.func4.symm.trans hfn)).symm
  refine ⟨by kernel_rfl, fun j t ht => ?_⟩
  rw [Tryz.params4] at ht
  have hall : ([48, 3, 9, 3, 3, 4] : List TypeId).all (fun t => !Tryz.prog.wantsStandIn t) = true := by kernel_rfl
  have hm : t ∈ ([48, 3, 9, 3, 3, 4] : List TypeId) := List.mem_of_getElem? (i := j) (by rw [← List.getElem?_toArray]; exact ht)
  have := List.all_eq_true.1 hall t hm
  exact (by simpa using this : Tryz.prog.wantsStandIn t = false)
theorem proved : Rows.FnExactAskAssertionCardSaid :=
  Claim7.holds_tied_plain_at .later [] _ _ _ _ said (fun _ h => by cases h) (by kernel_rfl) (fun _ h => by cases h) fnExactAskAssertion_row_tie rfl ⟨rfl, rfl⟩ (by kernel_rfl) rfl plain (by kernel_rfl)
#print axioms proved
end Go.Proofs.YtogoppknimpkbaaGreatDoor.fnExactAskAssertion
