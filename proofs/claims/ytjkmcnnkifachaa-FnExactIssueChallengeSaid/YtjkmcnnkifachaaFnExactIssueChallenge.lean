/-
  laws.FnExactIssueChallenge returns true at every argument, and leaves what came in as it was: the program's IssueChallenge answers as the model's (slices of more than 1048576 elements are passed over by the law itself). Conditions: none.
-/
import Derived.Test.YtjkmcnnkifachaaFr
import Derived.Stop.Joined
import Derived.Test.YtjkmcnnkifachaaDg
import Derived.Test.YtjkmcnnkifachaaSo
import Derived.Test.YtjkmcnnkifachaaM1
import Derived.Test.YtjkmcnnkifachaaYChallengeBook
import Derived.Test.YtjkmcnnkifachaaYChallenge
import Derived.Test.YtjkmcnnkifachaaC12
import Derived.Test.YtjkmcnnkifachaaC12b
import Derived.Test.YtjkmcnnkifachaaC12c
import Derived.Test.YtjkmcnnkifachaaC12d
import Derived.Test.YtjkmcnnkifachaaC12e
import Derived.Test.YtjkmcnnkifachaaC12f
import Derived.Test.YtjkmcnnkifachaaC12i
import Derived.Test.YtjkmcnnkifachaaC12x
namespace Go.Proofs.Ytjkmcnnkifachaa.fnExactIssueChallenge
open Go.ChangeShapes Go.WideShapes Go.ChangeAt Go.RowKit
set_option linter.unusedVariables false

open S0 S9 Dm in
set_option maxHeartbeats 8000000 in
set_option maxRecDepth 100000 in
theorem walk (v0 : Value) (a1 : Int) (u1 : (Lit.int .i64 a1).wf = true) (a2 : Int) (u2 : (Lit.int .i64 a2).wf = true) (W : World) {H : Type} {enc : TypeId × Value → H} {b0 : Nat} {d0 : DataW H} {p0 : List MemPlace} (hv0 : Value.okWide Try.prog W .any b0 41 v0) (ht0 : DataW.Trod enc Try.prog W 0 (fun _ => true) true 41 v0 d0 p0) :
    Calls Try.prog 5 #[v0, .int .i64 a1, .int .i64 a2] W fun e w' => e = .returned (.bool true) ∧ Below W.heap.size W w' := by
  obtain ⟨vs0, x0, rfl, hr0, ho0⟩ := Fx.argChallengeBook hv0 ht0
  clear ht0 hv0
  obtain ⟨A_p0_Open, c_p0_Open, rfl, -⟩ := Fx.ChallengeBook.rds hr0
  have H0 := Lib.hid hr0
  clear hr0
  have hwx0 := Nat.le_of_eq (Fx.ChallengeBook.wt x0)
  have hwy0 := Nat.le_of_eq (Fx.ChallengeBook.wt x0).symm
  have hcx0 := Fx.cntTb_ChallengeBook x0
  have hu1 := M1.i64_wf u1
  clear u1
  have hu2 := M1.i64_wf u2
  clear u2
  have hwr0 := Nat.le_of_eq (Fx.ChallengeBook.wt (C12e.issX x0 a1 a2))
  have hws0 := Nat.le_of_eq (Fx.ChallengeBook.wt (C12e.issX x0 a1 a2)).symm
  have hcr0 := Fx.cntTb_ChallengeBook (C12e.issX x0 a1 a2)
  have hwr1 := Nat.le_of_eq (Fx.Challenge.wt (C12e.issC x0 a1 a2))
  have hws1 := Nat.le_of_eq (Fx.Challenge.wt (C12e.issC x0 a1 a2)).symm
  have hnx := Nat.le_of_eq (C12x.ch_wt x0.Open)
  have hmx := Nat.le_of_eq (C12x.ch_wt x0.Open).symm
  have hny0 := Nat.le_of_eq (C12x.ch_wt (C12e.issX x0 a1 a2).Open)
  have hmy0 := Nat.le_of_eq (C12x.ch_wt (C12e.issX x0 a1 a2).Open).symm
  have hlr0 := C12x.iss_len x0 a1 a2
  have HB : Below W.heap.size W W := Below.refl _ _
  obtain ⟨q0, hq0⟩ : ∃ x, x = W.alloc (.cells #[.int .i64 (x0).Seed, .int .i64 (x0).Next, .slice A_p0_Open (x0).Open.length c_p0_Open] 41) := ⟨_, rfl⟩
  have o_p0 := Fx.var_owns W 41 3 [.int .i64 (x0).Seed, .int .i64 (x0).Next, .slice A_p0_Open (x0).Open.length c_p0_Open] rfl
  have n_p0 : [W.heap.size].Nodup := by simp
  have bq0 : Below W.heap.size W q0 := hq0 ▸ (Below.refl _ _).alloc (Nat.le_refl _) _
  rw [← hq0] at o_p0
  have sq0 : q0.heap.size = W.heap.size + 1 := by rw [hq0]; simp
  replace HB := HB.trans (bq0.mono HB.size)
  have i_p0 := Fx.made_in o_p0
  go_enter Try.func5, Try.ntmps5
  go_wp2_with fail
  rw [← hq0]
  (with_reducible refine (Fx.szChallengeBook _ x0 _ (1048576) (rdsL_on H0.out HB) ho0 (by omega) (by omega)).mono ?_); rintro e w1 ⟨rfl, b1⟩
  replace o_p0 := owns_below o_p0 b1
  replace HB := HB.trans (b1.mono HB.size)
  by_cases big0 : (wtL (Fx.ChallengeBook.dcs x0) : Int) ≤ 1048576
  rotate_left
  · rw [if_neg big0]
    go_wp2
    go_ret
    exact ⟨rfl, HB⟩
  rw [if_pos big0]
  have d_p0_0 : w1.cell? ⟨W.heap.size, 0, none⟩ = some (.int .i64 (x0).Seed) := Fx.var_load o_p0 n_p0 0 _ rfl
  have d_p0_1 : w1.cell? ⟨W.heap.size, 1, none⟩ = some (.int .i64 (x0).Next) := Fx.var_load o_p0 n_p0 1 _ rfl
  have d_p0_2 : w1.cell? ⟨W.heap.size, 2, none⟩ = some (.slice A_p0_Open (x0).Open.length c_p0_Open) := Fx.var_load o_p0 n_p0 2 _ rfl
  have e_p0 : W.heap.size < w1.heap.size := Fx.var_lt o_p0
  go_wp2_with fail
  (with_reducible refine (Fx.toChallengeBook _ x0 _ (rdsL_on H0.out HB) (by omega)).mono ?_); rintro e w2 ⟨v_cw0, s_cw0, rfl, o_cw0, n_cw0, b2⟩
  clear d_p0_0 d_p0_1 d_p0_2 e_p0
  replace o_p0 := owns_below o_p0 b2
  replace HB := HB.trans (b2.mono HB.size)
  have i_cw0 := Fx.madeL_in o_cw0
  obtain ⟨A_cw0_Open, c_cw0_Open, _, rfl, -, -⟩ := Fx.ChallengeBook.owns o_cw0
  go_wp2_with fail
  (with_reducible refine (C12x.specIssue2 _ x0 a1 a2 _ (ownsL_rds _ _ _ o_cw0) (by omega) (by omega) (by omega) (by omega) (by omega)).mono ?_); rintro e w3 ⟨v_w0, s_w0, v_w1, s_w1, rfl, o_w0, o_w1, n_w0, n_w1, x_w, b3⟩
  replace o_p0 := owns_below o_p0 b3
  replace o_cw0 := ownsL_below o_cw0 b3
  replace HB := HB.trans (b3.mono HB.size)
  have i_w0 := Fx.madeL_in o_w0
  obtain ⟨A_w0_Open, c_w0_Open, _, rfl, -, -⟩ := Fx.ChallengeBook.owns o_w0
  have i_w1 := Fx.madeL_in o_w1
  obtain ⟨rfl, -⟩ := Fx.Challenge.owns o_w1
  clear o_cw0 i_cw0 n_cw0
  have d_p0_0 : w3.cell? ⟨W.heap.size, 0, none⟩ = some (.int .i64 (x0).Seed) := Fx.var_load o_p0 n_p0 0 _ rfl
  have d_p0_1 : w3.cell? ⟨W.heap.size, 1, none⟩ = some (.int .i64 (x0).Next) := Fx.var_load o_p0 n_p0 1 _ rfl
  have d_p0_2 : w3.cell? ⟨W.heap.size, 2, none⟩ = some (.slice A_p0_Open (x0).Open.length c_p0_Open) := Fx.var_load o_p0 n_p0 2 _ rfl
  have e_p0 : W.heap.size < w3.heap.size := Fx.var_lt o_p0
  go_wp2_with fail
  clear d_p0_0 d_p0_1 d_p0_2 e_p0
  obtain ⟨w4, hw4⟩ : ∃ y, y = w3.alloc (.cells #[.int .i64 ((C12e.issX x0 a1 a2)).Seed, .int .i64 ((C12e.issX x0 a1 a2)).Next, .slice A_w0_Open ((C12e.issX x0 a1 a2)).Open.length c_w0_Open] 26) := ⟨_, rfl⟩
  have o_w0v := Fx.var_owns w3 26 3 [.int .i64 ((C12e.issX x0 a1 a2)).Seed, .int .i64 ((C12e.issX x0 a1 a2)).Next, .slice A_w0_Open ((C12e.issX x0 a1 a2)).Open.length c_w0_Open] rfl
  have b4 : Below w3.heap.size w3 w4 := hw4 ▸ (Below.refl _ _).alloc (Nat.le_refl _) _
  rw [← hw4] at o_w0v ⊢
  have sl4 : w4.heap.size = w3.heap.size + 1 := by rw [hw4]; simp
  clear hw4
  replace o_p0 := owns_below o_p0 b4
  replace o_w0 := ownsL_below o_w0 b4
  replace o_w1 := ownsL_below o_w1 b4
  replace HB := HB.trans (b4.mono HB.size)
  have n_w0v : [w3.heap.size].Nodup := by simp
  have i_w0v := Fx.made_in o_w0v
  obtain ⟨w5, hw5⟩ : ∃ y, y = w4.alloc (.cells #[.int .i64 ((C12e.issC x0 a1 a2)).Id, .int .i64 ((C12e.issC x0 a1 a2)).Account, .int .i64 ((C12e.issC x0 a1 a2)).Until] 30) := ⟨_, rfl⟩
  have o_w1v := Fx.var_owns w4 30 3 [.int .i64 ((C12e.issC x0 a1 a2)).Id, .int .i64 ((C12e.issC x0 a1 a2)).Account, .int .i64 ((C12e.issC x0 a1 a2)).Until] rfl
  have b5 : Below w4.heap.size w4 w5 := hw5 ▸ (Below.refl _ _).alloc (Nat.le_refl _) _
  rw [← hw5] at o_w1v ⊢
  rw [sl4] at o_w1v
  clear hw5
  replace o_p0 := owns_below o_p0 b5
  replace o_w0 := ownsL_below o_w0 b5
  replace o_w1 := ownsL_below o_w1 b5
  replace o_w0v := owns_below o_w0v b5
  replace HB := HB.trans (b5.mono HB.size)
  have n_w1v : [w3.heap.size + 1].Nodup := by simp
  have i_w1v := Fx.made_in o_w1v
  (with_reducible refine (Fx.toChallengeBook _ x0 _ (rdsL_on H0.out HB) (by omega)).mono ?_); rintro e w6 ⟨v_y0, s_y0, rfl, o_y0, n_y0, b6⟩
  replace o_p0 := owns_below o_p0 b6
  replace o_w0 := ownsL_below o_w0 b6
  replace o_w1 := ownsL_below o_w1 b6
  replace o_w0v := owns_below o_w0v b6
  replace o_w1v := owns_below o_w1v b6
  replace HB := HB.trans (b6.mono HB.size)
  have i_y0 := Fx.madeL_in o_y0
  obtain ⟨A_y0_Open, c_y0_Open, _, rfl, -, -⟩ := Fx.ChallengeBook.owns o_y0
  have d_p0_0 : w6.cell? ⟨W.heap.size, 0, none⟩ = some (.int .i64 (x0).Seed) := Fx.var_load o_p0 n_p0 0 _ rfl
  have d_p0_1 : w6.cell? ⟨W.heap.size, 1, none⟩ = some (.int .i64 (x0).Next) := Fx.var_load o_p0 n_p0 1 _ rfl
  have d_p0_2 : w6.cell? ⟨W.heap.size, 2, none⟩ = some (.slice A_p0_Open (x0).Open.length c_p0_Open) := Fx.var_load o_p0 n_p0 2 _ rfl
  have e_p0 : W.heap.size < w6.heap.size := Fx.var_lt o_p0
  have d_w0v_0 : w6.cell? ⟨w3.heap.size, 0, none⟩ = some (.int .i64 ((C12e.issX x0 a1 a2)).Seed) := Fx.var_load o_w0v n_w0v 0 _ rfl
  have d_w0v_1 : w6.cell? ⟨w3.heap.size, 1, none⟩ = some (.int .i64 ((C12e.issX x0 a1 a2)).Next) := Fx.var_load o_w0v n_w0v 1 _ rfl
  have d_w0v_2 : w6.cell? ⟨w3.heap.size, 2, none⟩ = some (.slice A_w0_Open ((C12e.issX x0 a1 a2)).Open.length c_w0_Open) := Fx.var_load o_w0v n_w0v 2 _ rfl
  have e_w0v : w3.heap.size < w6.heap.size := Fx.var_lt o_w0v
  have d_w1v_0 : w6.cell? ⟨w3.heap.size + 1, 0, none⟩ = some (.int .i64 ((C12e.issC x0 a1 a2)).Id) := Fx.var_load o_w1v n_w1v 0 _ rfl
  have d_w1v_1 : w6.cell? ⟨w3.heap.size + 1, 1, none⟩ = some (.int .i64 ((C12e.issC x0 a1 a2)).Account) := Fx.var_load o_w1v n_w1v 1 _ rfl
  have d_w1v_2 : w6.cell? ⟨w3.heap.size + 1, 2, none⟩ = some (.int .i64 ((C12e.issC x0 a1 a2)).Until) := Fx.var_load o_w1v n_w1v 2 _ rfl
  have e_w1v : w3.heap.size + 1 < w6.heap.size := Fx.var_lt o_w1v
  go_wp2_with fail
  clear d_p0_0 d_p0_1 d_p0_2 e_p0 d_w0v_0 d_w0v_1 d_w0v_2 e_w0v d_w1v_0 d_w1v_1 d_w1v_2 e_w1v
  obtain ⟨w7, hw7⟩ : ∃ y, y = w6.alloc (.cells #[.int .i64 (x0).Seed, .int .i64 (x0).Next, .slice A_y0_Open (x0).Open.length c_y0_Open] 26) := ⟨_, rfl⟩
  have o_y0v := Fx.var_owns w6 26 3 [.int .i64 (x0).Seed, .int .i64 (x0).Next, .slice A_y0_Open (x0).Open.length c_y0_Open] rfl
  have b7 : Below w6.heap.size w6 w7 := hw7 ▸ (Below.refl _ _).alloc (Nat.le_refl _) _
  rw [← hw7] at o_y0v ⊢
  clear hw7
  replace o_p0 := owns_below o_p0 b7
  replace o_w0 := ownsL_below o_w0 b7
  replace o_w1 := ownsL_below o_w1 b7
  replace o_w0v := owns_below o_w0v b7
  replace o_w1v := owns_below o_w1v b7
  replace o_y0 := ownsL_below o_y0 b7
  replace HB := HB.trans (b7.mono HB.size)
  have n_y0v : [w6.heap.size].Nodup := by simp
  have i_y0v := Fx.made_in o_y0v
  (with_reducible refine (C12x.implIssue2 _ x0 a1 a2 _ (E0.ownsL_shsL _ _ _ o_y0) (by omega)).mono ?_); rintro e w8 ⟨v_g0, s_g0, v_g1, s_g1, rfl, o_g0, o_g1, n_g0, n_g1, x_g, b8⟩
  replace o_p0 := owns_below o_p0 b8
  replace o_w0 := ownsL_below o_w0 b8
  replace o_w1 := ownsL_below o_w1 b8
  replace o_w0v := owns_below o_w0v b8
  replace o_w1v := owns_below o_w1v b8
  replace o_y0 := ownsL_below o_y0 b8
  replace o_y0v := owns_below o_y0v b8
  replace HB := HB.trans (b8.mono HB.size)
  have i_g0 := Fx.madeL_in o_g0
  obtain ⟨A_g0_Open, c_g0_Open, _, rfl, -, -⟩ := Fx.ChallengeBook.owns o_g0
  have i_g1 := Fx.madeL_in o_g1
  obtain ⟨rfl, -⟩ := Fx.Challenge.owns o_g1
  have d_p0_0 : w8.cell? ⟨W.heap.size, 0, none⟩ = some (.int .i64 (x0).Seed) := Fx.var_load o_p0 n_p0 0 _ rfl
  have d_p0_1 : w8.cell? ⟨W.heap.size, 1, none⟩ = some (.int .i64 (x0).Next) := Fx.var_load o_p0 n_p0 1 _ rfl
  have d_p0_2 : w8.cell? ⟨W.heap.size, 2, none⟩ = some (.slice A_p0_Open (x0).Open.length c_p0_Open) := Fx.var_load o_p0 n_p0 2 _ rfl
  have e_p0 : W.heap.size < w8.heap.size := Fx.var_lt o_p0
  have d_w0v_0 : w8.cell? ⟨w3.heap.size, 0, none⟩ = some (.int .i64 ((C12e.issX x0 a1 a2)).Seed) := Fx.var_load o_w0v n_w0v 0 _ rfl
  have d_w0v_1 : w8.cell? ⟨w3.heap.size, 1, none⟩ = some (.int .i64 ((C12e.issX x0 a1 a2)).Next) := Fx.var_load o_w0v n_w0v 1 _ rfl
  have d_w0v_2 : w8.cell? ⟨w3.heap.size, 2, none⟩ = some (.slice A_w0_Open ((C12e.issX x0 a1 a2)).Open.length c_w0_Open) := Fx.var_load o_w0v n_w0v 2 _ rfl
  have e_w0v : w3.heap.size < w8.heap.size := Fx.var_lt o_w0v
  have d_w1v_0 : w8.cell? ⟨w3.heap.size + 1, 0, none⟩ = some (.int .i64 ((C12e.issC x0 a1 a2)).Id) := Fx.var_load o_w1v n_w1v 0 _ rfl
  have d_w1v_1 : w8.cell? ⟨w3.heap.size + 1, 1, none⟩ = some (.int .i64 ((C12e.issC x0 a1 a2)).Account) := Fx.var_load o_w1v n_w1v 1 _ rfl
  have d_w1v_2 : w8.cell? ⟨w3.heap.size + 1, 2, none⟩ = some (.int .i64 ((C12e.issC x0 a1 a2)).Until) := Fx.var_load o_w1v n_w1v 2 _ rfl
  have e_w1v : w3.heap.size + 1 < w8.heap.size := Fx.var_lt o_w1v
  have d_y0v_0 : w8.cell? ⟨w6.heap.size, 0, none⟩ = some (.int .i64 (x0).Seed) := Fx.var_load o_y0v n_y0v 0 _ rfl
  have d_y0v_1 : w8.cell? ⟨w6.heap.size, 1, none⟩ = some (.int .i64 (x0).Next) := Fx.var_load o_y0v n_y0v 1 _ rfl
  have d_y0v_2 : w8.cell? ⟨w6.heap.size, 2, none⟩ = some (.slice A_y0_Open (x0).Open.length c_y0_Open) := Fx.var_load o_y0v n_y0v 2 _ rfl
  have e_y0v : w6.heap.size < w8.heap.size := Fx.var_lt o_y0v
  go_wp2_with fail
  clear d_p0_0 d_p0_1 d_p0_2 e_p0 d_w0v_0 d_w0v_1 d_w0v_2 e_w0v d_w1v_0 d_w1v_1 d_w1v_2 e_w1v d_y0v_0 d_y0v_1 d_y0v_2 e_y0v
  obtain ⟨w9, hw9⟩ : ∃ y, y = w8.alloc (.cells #[.int .i64 ((C12e.issX x0 a1 a2)).Seed, .int .i64 ((C12e.issX x0 a1 a2)).Next, .slice A_g0_Open ((C12e.issX x0 a1 a2)).Open.length c_g0_Open] 26) := ⟨_, rfl⟩
  have o_g0v := Fx.var_owns w8 26 3 [.int .i64 ((C12e.issX x0 a1 a2)).Seed, .int .i64 ((C12e.issX x0 a1 a2)).Next, .slice A_g0_Open ((C12e.issX x0 a1 a2)).Open.length c_g0_Open] rfl
  have b9 : Below w8.heap.size w8 w9 := hw9 ▸ (Below.refl _ _).alloc (Nat.le_refl _) _
  rw [← hw9] at o_g0v ⊢
  have sl9 : w9.heap.size = w8.heap.size + 1 := by rw [hw9]; simp
  clear hw9
  replace o_p0 := owns_below o_p0 b9
  replace o_w0 := ownsL_below o_w0 b9
  replace o_w1 := ownsL_below o_w1 b9
  replace o_w0v := owns_below o_w0v b9
  replace o_w1v := owns_below o_w1v b9
  replace o_y0 := ownsL_below o_y0 b9
  replace o_y0v := owns_below o_y0v b9
  replace o_g0 := ownsL_below o_g0 b9
  replace o_g1 := ownsL_below o_g1 b9
  replace HB := HB.trans (b9.mono HB.size)
  have n_g0v : [w8.heap.size].Nodup := by simp
  have i_g0v := Fx.made_in o_g0v
  obtain ⟨w10, hw10⟩ : ∃ y, y = w9.alloc (.cells #[.int .i64 ((C12e.issC x0 a1 a2)).Id, .int .i64 ((C12e.issC x0 a1 a2)).Account, .int .i64 ((C12e.issC x0 a1 a2)).Until] 30) := ⟨_, rfl⟩
  have o_g1v := Fx.var_owns w9 30 3 [.int .i64 ((C12e.issC x0 a1 a2)).Id, .int .i64 ((C12e.issC x0 a1 a2)).Account, .int .i64 ((C12e.issC x0 a1 a2)).Until] rfl
  have b10 : Below w9.heap.size w9 w10 := hw10 ▸ (Below.refl _ _).alloc (Nat.le_refl _) _
  rw [← hw10] at o_g1v ⊢
  rw [sl9] at o_g1v
  clear hw10
  replace o_p0 := owns_below o_p0 b10
  replace o_w0 := ownsL_below o_w0 b10
  replace o_w1 := ownsL_below o_w1 b10
  replace o_w0v := owns_below o_w0v b10
  replace o_w1v := owns_below o_w1v b10
  replace o_y0 := ownsL_below o_y0 b10
  replace o_y0v := owns_below o_y0v b10
  replace o_g0 := ownsL_below o_g0 b10
  replace o_g1 := ownsL_below o_g1 b10
  replace o_g0v := owns_below o_g0v b10
  replace HB := HB.trans (b10.mono HB.size)
  have n_g1v : [w8.heap.size + 1].Nodup := by simp
  have i_g1v := Fx.made_in o_g1v
  (with_reducible refine (Fx.eqChallengeBook _ (C12e.issX x0 a1 a2) _ _ (ownsL_rds _ _ _ o_g0) (ownsL_rds _ _ _ o_w0) (by omega)).mono ?_); rintro e w11 ⟨rfl, b11⟩
  replace o_p0 := owns_below o_p0 b11
  replace o_w0 := ownsL_below o_w0 b11
  replace o_w1 := ownsL_below o_w1 b11
  replace o_w0v := owns_below o_w0v b11
  replace o_w1v := owns_below o_w1v b11
  replace o_y0 := ownsL_below o_y0 b11
  replace o_y0v := owns_below o_y0v b11
  replace o_g0 := ownsL_below o_g0 b11
  replace o_g1 := ownsL_below o_g1 b11
  replace o_g0v := owns_below o_g0v b11
  replace o_g1v := owns_below o_g1v b11
  replace HB := HB.trans (b11.mono HB.size)
  have d_g1v_0 : w11.cell? ⟨w8.heap.size + 1, 0, none⟩ = some (.int .i64 ((C12e.issC x0 a1 a2)).Id) := Fx.var_load o_g1v n_g1v 0 _ rfl
  have d_g1v_1 : w11.cell? ⟨w8.heap.size + 1, 1, none⟩ = some (.int .i64 ((C12e.issC x0 a1 a2)).Account) := Fx.var_load o_g1v n_g1v 1 _ rfl
  have d_g1v_2 : w11.cell? ⟨w8.heap.size + 1, 2, none⟩ = some (.int .i64 ((C12e.issC x0 a1 a2)).Until) := Fx.var_load o_g1v n_g1v 2 _ rfl
  have e_g1v : w8.heap.size + 1 < w11.heap.size := Fx.var_lt o_g1v
  have d_w1v_0 : w11.cell? ⟨w3.heap.size + 1, 0, none⟩ = some (.int .i64 ((C12e.issC x0 a1 a2)).Id) := Fx.var_load o_w1v n_w1v 0 _ rfl
  have d_w1v_1 : w11.cell? ⟨w3.heap.size + 1, 1, none⟩ = some (.int .i64 ((C12e.issC x0 a1 a2)).Account) := Fx.var_load o_w1v n_w1v 1 _ rfl
  have d_w1v_2 : w11.cell? ⟨w3.heap.size + 1, 2, none⟩ = some (.int .i64 ((C12e.issC x0 a1 a2)).Until) := Fx.var_load o_w1v n_w1v 2 _ rfl
  have e_w1v : w3.heap.size + 1 < w11.heap.size := Fx.var_lt o_w1v
  go_wp2_with fail
  (with_reducible refine (Fx.eqChallenge _ (C12e.issC x0 a1 a2) _ _ (ownsL_rds _ _ _ o_g1) (ownsL_rds _ _ _ o_w1) (by omega)).mono ?_); rintro e w12 ⟨rfl, b12⟩
  clear d_g1v_0 d_g1v_1 d_g1v_2 e_g1v d_w1v_0 d_w1v_1 d_w1v_2 e_w1v
  replace o_p0 := owns_below o_p0 b12
  replace o_w0 := ownsL_below o_w0 b12
  replace o_w1 := ownsL_below o_w1 b12
  replace o_w0v := owns_below o_w0v b12
  replace o_w1v := owns_below o_w1v b12
  replace o_y0 := ownsL_below o_y0 b12
  replace o_y0v := owns_below o_y0v b12
  replace o_g0 := ownsL_below o_g0 b12
  replace o_g1 := ownsL_below o_g1 b12
  replace o_g0v := owns_below o_g0v b12
  replace o_g1v := owns_below o_g1v b12
  replace HB := HB.trans (b12.mono HB.size)
  have d12_y0v_0 : w12.cell? ⟨w6.heap.size, 0, none⟩ = some (.int .i64 (x0).Seed) := Fx.var_load o_y0v n_y0v 0 _ rfl
  have d12_y0v_1 : w12.cell? ⟨w6.heap.size, 1, none⟩ = some (.int .i64 (x0).Next) := Fx.var_load o_y0v n_y0v 1 _ rfl
  have d12_y0v_2 : w12.cell? ⟨w6.heap.size, 2, none⟩ = some (.slice A_y0_Open (x0).Open.length c_y0_Open) := Fx.var_load o_y0v n_y0v 2 _ rfl
  have d12_p0_0 : w12.cell? ⟨W.heap.size, 0, none⟩ = some (.int .i64 (x0).Seed) := Fx.var_load o_p0 n_p0 0 _ rfl
  have d12_p0_1 : w12.cell? ⟨W.heap.size, 1, none⟩ = some (.int .i64 (x0).Next) := Fx.var_load o_p0 n_p0 1 _ rfl
  have d12_p0_2 : w12.cell? ⟨W.heap.size, 2, none⟩ = some (.slice A_p0_Open (x0).Open.length c_p0_Open) := Fx.var_load o_p0 n_p0 2 _ rfl
  have e12_y0v : w6.heap.size < w12.heap.size := Fx.var_lt o_y0v
  have e12_p0 : W.heap.size < w12.heap.size := Fx.var_lt o_p0
  go_wp2_with fail
  go_region_held3 (fun wx => wx.cell? ⟨w6.heap.size, 0, none⟩ = some (.int .i64 (x0).Seed) ∧ wx.cell? ⟨w6.heap.size, 1, none⟩ = some (.int .i64 (x0).Next) ∧ wx.cell? ⟨w6.heap.size, 2, none⟩ = some (.slice A_y0_Open (x0).Open.length c_y0_Open) ∧ wx.cell? ⟨W.heap.size, 0, none⟩ = some (.int .i64 (x0).Seed) ∧ wx.cell? ⟨W.heap.size, 1, none⟩ = some (.int .i64 (x0).Next) ∧ wx.cell? ⟨W.heap.size, 2, none⟩ = some (.slice A_p0_Open (x0).Open.length c_p0_Open)) (first | exact ⟨d12_y0v_0, d12_y0v_1, d12_y0v_2, d12_p0_0, d12_p0_1, d12_p0_2⟩ | exact ⟨d13_y0v_0, d13_y0v_1, d13_y0v_2, d13_p0_0, d13_p0_1, d13_p0_2⟩ | exact ⟨d14_y0v_0, d14_y0v_1, d14_y0v_2, d14_p0_0, d14_p0_1, d14_p0_2⟩) (first | (go_at_call 24; (with_reducible refine (Fx.toChallengeBook _ x0 _ (rdsL_on H0.out HB.drew) (by omega)).mono ?_); rintro e w13 ⟨v_t0, s_t0, rfl, o_t0, n_t0, b13⟩; replace b13 := (drewN_below w12 1 _).trans b13; replace o_p0 := owns_below o_p0 b13; replace o_w0 := ownsL_below o_w0 b13; replace o_w1 := ownsL_below o_w1 b13; replace o_w0v := owns_below o_w0v b13; replace o_w1v := owns_below o_w1v b13; replace o_y0 := ownsL_below o_y0 b13; replace o_y0v := owns_below o_y0v b13; replace o_g0 := ownsL_below o_g0 b13; replace o_g1 := ownsL_below o_g1 b13; replace o_g0v := owns_below o_g0v b13; replace o_g1v := owns_below o_g1v b13; replace HB := HB.trans (b13.mono HB.size); have i_t0 := Fx.madeL_in o_t0; obtain ⟨A_t0_Open, c_t0_Open, _, rfl, -, -⟩ := Fx.ChallengeBook.owns o_t0; have d13_y0v_0 : w13.cell? ⟨w6.heap.size, 0, none⟩ = some (.int .i64 (x0).Seed) := Fx.var_load o_y0v n_y0v 0 _ rfl; have d13_y0v_1 : w13.cell? ⟨w6.heap.size, 1, none⟩ = some (.int .i64 (x0).Next) := Fx.var_load o_y0v n_y0v 1 _ rfl; have d13_y0v_2 : w13.cell? ⟨w6.heap.size, 2, none⟩ = some (.slice A_y0_Open (x0).Open.length c_y0_Open) := Fx.var_load o_y0v n_y0v 2 _ rfl; have d13_p0_0 : w13.cell? ⟨W.heap.size, 0, none⟩ = some (.int .i64 (x0).Seed) := Fx.var_load o_p0 n_p0 0 _ rfl; have d13_p0_1 : w13.cell? ⟨W.heap.size, 1, none⟩ = some (.int .i64 (x0).Next) := Fx.var_load o_p0 n_p0 1 _ rfl; have d13_p0_2 : w13.cell? ⟨W.heap.size, 2, none⟩ = some (.slice A_p0_Open (x0).Open.length c_p0_Open) := Fx.var_load o_p0 n_p0 2 _ rfl; have e13_y0v : w6.heap.size < w13.heap.size := Fx.var_lt o_y0v; have e13_p0 : W.heap.size < w13.heap.size := Fx.var_lt o_p0) | (go_at_call 25; (with_reducible refine (Fx.eqChallengeBook _ x0 _ _ (ownsL_rds _ _ _ o_y0) (ownsL_rds _ _ _ o_t0) (by omega)).mono ?_); rintro e w14 ⟨rfl, b14⟩; replace o_p0 := owns_below o_p0 b14; replace o_w0 := ownsL_below o_w0 b14; replace o_w1 := ownsL_below o_w1 b14; replace o_w0v := owns_below o_w0v b14; replace o_w1v := owns_below o_w1v b14; replace o_y0 := ownsL_below o_y0 b14; replace o_y0v := owns_below o_y0v b14; replace o_g0 := ownsL_below o_g0 b14; replace o_g1 := ownsL_below o_g1 b14; replace o_g0v := owns_below o_g0v b14; replace o_g1v := owns_below o_g1v b14; replace o_t0 := ownsL_below o_t0 b14; replace HB := HB.trans (b14.mono HB.size); have d14_y0v_0 : w14.cell? ⟨w6.heap.size, 0, none⟩ = some (.int .i64 (x0).Seed) := Fx.var_load o_y0v n_y0v 0 _ rfl; have d14_y0v_1 : w14.cell? ⟨w6.heap.size, 1, none⟩ = some (.int .i64 (x0).Next) := Fx.var_load o_y0v n_y0v 1 _ rfl; have d14_y0v_2 : w14.cell? ⟨w6.heap.size, 2, none⟩ = some (.slice A_y0_Open (x0).Open.length c_y0_Open) := Fx.var_load o_y0v n_y0v 2 _ rfl; have d14_p0_0 : w14.cell? ⟨W.heap.size, 0, none⟩ = some (.int .i64 (x0).Seed) := Fx.var_load o_p0 n_p0 0 _ rfl; have d14_p0_1 : w14.cell? ⟨W.heap.size, 1, none⟩ = some (.int .i64 (x0).Next) := Fx.var_load o_p0 n_p0 1 _ rfl; have d14_p0_2 : w14.cell? ⟨W.heap.size, 2, none⟩ = some (.slice A_p0_Open (x0).Open.length c_p0_Open) := Fx.var_load o_p0 n_p0 2 _ rfl; have e14_y0v : w6.heap.size < w14.heap.size := Fx.var_lt o_y0v; have e14_p0 : W.heap.size < w14.heap.size := Fx.var_lt o_p0))
  try clear d12_y0v_0 d12_y0v_1 d12_y0v_2 d12_p0_0 d12_p0_1 d12_p0_2 e12_y0v e12_p0
  try clear d13_y0v_0 d13_y0v_1 d13_y0v_2 d13_p0_0 d13_p0_1 d13_p0_2 e13_y0v e13_p0
  try clear d14_y0v_0 d14_y0v_1 d14_y0v_2 d14_p0_0 d14_p0_1 d14_p0_2 e14_y0v e14_p0
  try clear o_t0 i_t0 n_t0
  have zq0 := bq0.size
  have z1 := b1.size
  have z2 := b2.size
  have z3 := b3.size
  have z4 := b4.size
  have z5 := b5.size
  have z6 := b6.size
  have z7 := b7.size
  have z8 := b8.size
  have z9 := b9.size
  have z10 := b10.size
  have z11 := b11.size
  have z12 := b12.size
  have d_y0v_0 : w14.cell? ⟨w6.heap.size, 0, none⟩ = some (.int .i64 (x0).Seed) := Fx.var_load o_y0v n_y0v 0 _ rfl
  have d_y0v_1 : w14.cell? ⟨w6.heap.size, 1, none⟩ = some (.int .i64 (x0).Next) := Fx.var_load o_y0v n_y0v 1 _ rfl
  have d_y0v_2 : w14.cell? ⟨w6.heap.size, 2, none⟩ = some (.slice A_y0_Open (x0).Open.length c_y0_Open) := Fx.var_load o_y0v n_y0v 2 _ rfl
  have e_y0v : w6.heap.size < w14.heap.size := Fx.var_lt o_y0v
  go_wp2_with fail
  (with_reducible refine (Fx.markChallengeBook _ _ x0 _ _ _ o_y0 n_y0 (by omega) (by omega) (by omega)).mono ?_); rintro e w15 ⟨rfl, oz, t15⟩
  clear d_y0v_0 d_y0v_1 d_y0v_2 e_y0v
  have z15 := t15.2.2.2.1
  replace o_p0 := owns_turned o_p0 t15 (fun b hb hb2 => by have h1 := i_p0 b hb; have h2 := i_y0 b hb2; omega)
  replace o_w0 := ownsL_turned o_w0 t15 (fun b hb hb2 => by have h1 := i_w0 b hb; have h2 := i_y0 b hb2; omega)
  replace o_w1 := ownsL_turned o_w1 t15 (fun b hb hb2 => by have h1 := i_w1 b hb; have h2 := i_y0 b hb2; omega)
  replace o_w0v := owns_turned o_w0v t15 (fun b hb hb2 => by have h1 := i_w0v b hb; have h2 := i_y0 b hb2; omega)
  replace o_w1v := owns_turned o_w1v t15 (fun b hb hb2 => by have h1 := i_w1v b hb; have h2 := i_y0 b hb2; omega)
  replace o_y0v := owns_turned o_y0v t15 (fun b hb hb2 => by have h1 := i_y0v b hb; have h2 := i_y0 b hb2; omega)
  replace o_g0 := ownsL_turned o_g0 t15 (fun b hb hb2 => by have h1 := i_g0 b hb; have h2 := i_y0 b hb2; omega)
  replace o_g1 := ownsL_turned o_g1 t15 (fun b hb hb2 => by have h1 := i_g1 b hb; have h2 := i_y0 b hb2; omega)
  replace o_g0v := owns_turned o_g0v t15 (fun b hb hb2 => by have h1 := i_g0v b hb; have h2 := i_y0 b hb2; omega)
  replace o_g1v := owns_turned o_g1v t15 (fun b hb hb2 => by have h1 := i_g1v b hb; have h2 := i_y0 b hb2; omega)
  replace HB := below_turned HB t15 (fun b hb => by have h1 := i_y0 b hb; omega)
  replace o_y0 := oz
  clear oz
  have d_g0v_0 : w15.cell? ⟨w8.heap.size, 0, none⟩ = some (.int .i64 ((C12e.issX x0 a1 a2)).Seed) := Fx.var_load o_g0v n_g0v 0 _ rfl
  have d_g0v_1 : w15.cell? ⟨w8.heap.size, 1, none⟩ = some (.int .i64 ((C12e.issX x0 a1 a2)).Next) := Fx.var_load o_g0v n_g0v 1 _ rfl
  have d_g0v_2 : w15.cell? ⟨w8.heap.size, 2, none⟩ = some (.slice A_g0_Open ((C12e.issX x0 a1 a2)).Open.length c_g0_Open) := Fx.var_load o_g0v n_g0v 2 _ rfl
  have e_g0v : w8.heap.size < w15.heap.size := Fx.var_lt o_g0v
  have d_w0v_0 : w15.cell? ⟨w3.heap.size, 0, none⟩ = some (.int .i64 ((C12e.issX x0 a1 a2)).Seed) := Fx.var_load o_w0v n_w0v 0 _ rfl
  have d_w0v_1 : w15.cell? ⟨w3.heap.size, 1, none⟩ = some (.int .i64 ((C12e.issX x0 a1 a2)).Next) := Fx.var_load o_w0v n_w0v 1 _ rfl
  have d_w0v_2 : w15.cell? ⟨w3.heap.size, 2, none⟩ = some (.slice A_w0_Open ((C12e.issX x0 a1 a2)).Open.length c_w0_Open) := Fx.var_load o_w0v n_w0v 2 _ rfl
  have e_w0v : w3.heap.size < w15.heap.size := Fx.var_lt o_w0v
  go_wp2_with fail
  (with_reducible refine (Fx.eqChallengeBook _ (C12e.issX x0 a1 a2) _ _ (ownsL_rds _ _ _ o_g0) (ownsL_rds _ _ _ o_w0) (by omega)).mono ?_); rintro e w16 ⟨rfl, b16⟩
  clear d_g0v_0 d_g0v_1 d_g0v_2 e_g0v d_w0v_0 d_w0v_1 d_w0v_2 e_w0v
  replace o_p0 := owns_below o_p0 b16
  replace o_w0 := ownsL_below o_w0 b16
  replace o_w1 := ownsL_below o_w1 b16
  replace o_w0v := owns_below o_w0v b16
  replace o_w1v := owns_below o_w1v b16
  replace o_y0 := ownsL_below o_y0 b16
  replace o_y0v := owns_below o_y0v b16
  replace o_g0 := ownsL_below o_g0 b16
  replace o_g1 := ownsL_below o_g1 b16
  replace o_g0v := owns_below o_g0v b16
  replace o_g1v := owns_below o_g1v b16
  replace HB := HB.trans (b16.mono HB.size)
  have d_g1v_0 : w16.cell? ⟨w8.heap.size + 1, 0, none⟩ = some (.int .i64 ((C12e.issC x0 a1 a2)).Id) := Fx.var_load o_g1v n_g1v 0 _ rfl
  have d_g1v_1 : w16.cell? ⟨w8.heap.size + 1, 1, none⟩ = some (.int .i64 ((C12e.issC x0 a1 a2)).Account) := Fx.var_load o_g1v n_g1v 1 _ rfl
  have d_g1v_2 : w16.cell? ⟨w8.heap.size + 1, 2, none⟩ = some (.int .i64 ((C12e.issC x0 a1 a2)).Until) := Fx.var_load o_g1v n_g1v 2 _ rfl
  have e_g1v : w8.heap.size + 1 < w16.heap.size := Fx.var_lt o_g1v
  have d_w1v_0 : w16.cell? ⟨w3.heap.size + 1, 0, none⟩ = some (.int .i64 ((C12e.issC x0 a1 a2)).Id) := Fx.var_load o_w1v n_w1v 0 _ rfl
  have d_w1v_1 : w16.cell? ⟨w3.heap.size + 1, 1, none⟩ = some (.int .i64 ((C12e.issC x0 a1 a2)).Account) := Fx.var_load o_w1v n_w1v 1 _ rfl
  have d_w1v_2 : w16.cell? ⟨w3.heap.size + 1, 2, none⟩ = some (.int .i64 ((C12e.issC x0 a1 a2)).Until) := Fx.var_load o_w1v n_w1v 2 _ rfl
  have e_w1v : w3.heap.size + 1 < w16.heap.size := Fx.var_lt o_w1v
  go_wp2_with fail
  (with_reducible refine (Fx.eqChallenge _ (C12e.issC x0 a1 a2) _ _ (ownsL_rds _ _ _ o_g1) (ownsL_rds _ _ _ o_w1) (by omega)).mono ?_); rintro e w17 ⟨rfl, b17⟩
  clear d_g1v_0 d_g1v_1 d_g1v_2 e_g1v d_w1v_0 d_w1v_1 d_w1v_2 e_w1v
  replace o_p0 := owns_below o_p0 b17
  replace o_w0 := ownsL_below o_w0 b17
  replace o_w1 := ownsL_below o_w1 b17
  replace o_w0v := owns_below o_w0v b17
  replace o_w1v := owns_below o_w1v b17
  replace o_y0 := ownsL_below o_y0 b17
  replace o_y0v := owns_below o_y0v b17
  replace o_g0 := ownsL_below o_g0 b17
  replace o_g1 := ownsL_below o_g1 b17
  replace o_g0v := owns_below o_g0v b17
  replace o_g1v := owns_below o_g1v b17
  replace HB := HB.trans (b17.mono HB.size)
  clear o_y0 i_y0 n_y0
  clear o_y0v i_y0v n_y0v
  have d_g0v_0 : w17.cell? ⟨w8.heap.size, 0, none⟩ = some (.int .i64 ((C12e.issX x0 a1 a2)).Seed) := Fx.var_load o_g0v n_g0v 0 _ rfl
  have d_g0v_1 : w17.cell? ⟨w8.heap.size, 1, none⟩ = some (.int .i64 ((C12e.issX x0 a1 a2)).Next) := Fx.var_load o_g0v n_g0v 1 _ rfl
  have d_g0v_2 : w17.cell? ⟨w8.heap.size, 2, none⟩ = some (.slice A_g0_Open ((C12e.issX x0 a1 a2)).Open.length c_g0_Open) := Fx.var_load o_g0v n_g0v 2 _ rfl
  have e_g0v : w8.heap.size < w17.heap.size := Fx.var_lt o_g0v
  go_wp2_with fail
  (with_reducible refine (Fx.markChallengeBook _ _ (C12e.issX x0 a1 a2) _ _ _ o_g0 n_g0 (by omega) (by omega) (by omega)).mono ?_); rintro e w18 ⟨rfl, oz, t18⟩
  clear d_g0v_0 d_g0v_1 d_g0v_2 e_g0v
  have z18 := t18.2.2.2.1
  replace o_p0 := owns_turned o_p0 t18 (fun b hb hb2 => by have h1 := i_p0 b hb; have h2 := i_g0 b hb2; omega)
  replace o_w0 := ownsL_turned o_w0 t18 (fun b hb hb2 => by have h1 := i_w0 b hb; have h2 := i_g0 b hb2; omega)
  replace o_w1 := ownsL_turned o_w1 t18 (fun b hb hb2 => by have h1 := i_w1 b hb; have h2 := i_g0 b hb2; omega)
  replace o_w0v := owns_turned o_w0v t18 (fun b hb hb2 => by have h1 := i_w0v b hb; have h2 := i_g0 b hb2; omega)
  replace o_w1v := owns_turned o_w1v t18 (fun b hb hb2 => by have h1 := i_w1v b hb; have h2 := i_g0 b hb2; omega)
  replace o_g1 := ownsL_turned o_g1 t18 (fun b hb hb2 => x_g b hb2 hb)
  replace o_g0v := owns_turned o_g0v t18 (fun b hb hb2 => by have h1 := i_g0v b hb; have h2 := i_g0 b hb2; omega)
  replace o_g1v := owns_turned o_g1v t18 (fun b hb hb2 => by have h1 := i_g1v b hb; have h2 := i_g0 b hb2; omega)
  replace HB := below_turned HB t18 (fun b hb => by have h1 := i_g0 b hb; omega)
  replace o_g0 := oz
  clear oz
  have d_g0v_0 : w18.cell? ⟨w8.heap.size, 0, none⟩ = some (.int .i64 ((C12e.issX x0 a1 a2)).Seed) := Fx.var_load o_g0v n_g0v 0 _ rfl
  have d_g0v_1 : w18.cell? ⟨w8.heap.size, 1, none⟩ = some (.int .i64 ((C12e.issX x0 a1 a2)).Next) := Fx.var_load o_g0v n_g0v 1 _ rfl
  have d_g0v_2 : w18.cell? ⟨w8.heap.size, 2, none⟩ = some (.slice A_g0_Open ((C12e.issX x0 a1 a2)).Open.length c_g0_Open) := Fx.var_load o_g0v n_g0v 2 _ rfl
  have e_g0v : w8.heap.size < w18.heap.size := Fx.var_lt o_g0v
  go_wp2_with fail
  (with_reducible refine (Fx.heldChallengeBook _ (C12e.issX x0 a1 a2) _ _ (ownsL_rds _ _ _ o_g0) (by omega) (by omega) (by omega)).mono ?_); rintro e w19 ⟨rfl, b19⟩
  clear d_g0v_0 d_g0v_1 d_g0v_2 e_g0v
  replace o_p0 := owns_below o_p0 b19
  replace o_w0 := ownsL_below o_w0 b19
  replace o_w1 := ownsL_below o_w1 b19
  replace o_w0v := owns_below o_w0v b19
  replace o_w1v := owns_below o_w1v b19
  replace o_g0 := ownsL_below o_g0 b19
  replace o_g1 := ownsL_below o_g1 b19
  replace o_g0v := owns_below o_g0v b19
  replace o_g1v := owns_below o_g1v b19
  replace HB := HB.trans (b19.mono HB.size)
  have d_p0_0 : w19.cell? ⟨W.heap.size, 0, none⟩ = some (.int .i64 (x0).Seed) := Fx.var_load o_p0 n_p0 0 _ rfl
  have d_p0_1 : w19.cell? ⟨W.heap.size, 1, none⟩ = some (.int .i64 (x0).Next) := Fx.var_load o_p0 n_p0 1 _ rfl
  have d_p0_2 : w19.cell? ⟨W.heap.size, 2, none⟩ = some (.slice A_p0_Open (x0).Open.length c_p0_Open) := Fx.var_load o_p0 n_p0 2 _ rfl
  have e_p0 : W.heap.size < w19.heap.size := Fx.var_lt o_p0
  go_wp2_with fail
  (with_reducible refine (Fx.toChallengeBook _ x0 _ (rdsL_on H0.out HB) (by omega)).mono ?_); rintro e w20 ⟨v_ch0, s_ch0, rfl, o_ch0, n_ch0, b20⟩
  clear d_p0_0 d_p0_1 d_p0_2 e_p0
  replace o_p0 := owns_below o_p0 b20
  replace o_w0 := ownsL_below o_w0 b20
  replace o_w1 := ownsL_below o_w1 b20
  replace o_w0v := owns_below o_w0v b20
  replace o_w1v := owns_below o_w1v b20
  replace o_g0 := ownsL_below o_g0 b20
  replace o_g1 := ownsL_below o_g1 b20
  replace o_g0v := owns_below o_g0v b20
  replace o_g1v := owns_below o_g1v b20
  replace HB := HB.trans (b20.mono HB.size)
  have i_ch0 := Fx.madeL_in o_ch0
  obtain ⟨A_ch0_Open, c_ch0_Open, _, rfl, -, -⟩ := Fx.ChallengeBook.owns o_ch0
  go_wp2_with fail
  (with_reducible refine (C12x.implIssue2 _ x0 a1 a2 _ (E0.ownsL_shsL _ _ _ o_ch0) (by omega)).mono ?_); rintro e w21 ⟨v_h0, s_h0, v_h1, s_h1, rfl, o_h0, o_h1, n_h0, n_h1, x_h, b21⟩
  replace o_p0 := owns_below o_p0 b21
  replace o_w0 := ownsL_below o_w0 b21
  replace o_w1 := ownsL_below o_w1 b21
  replace o_w0v := owns_below o_w0v b21
  replace o_w1v := owns_below o_w1v b21
  replace o_g0 := ownsL_below o_g0 b21
  replace o_g1 := ownsL_below o_g1 b21
  replace o_g0v := owns_below o_g0v b21
  replace o_g1v := owns_below o_g1v b21
  replace o_ch0 := ownsL_below o_ch0 b21
  replace HB := HB.trans (b21.mono HB.size)
  have i_h0 := Fx.madeL_in o_h0
  obtain ⟨A_h0_Open, c_h0_Open, _, rfl, -, -⟩ := Fx.ChallengeBook.owns o_h0
  have i_h1 := Fx.madeL_in o_h1
  obtain ⟨rfl, -⟩ := Fx.Challenge.owns o_h1
  clear o_ch0 i_ch0 n_ch0
  have d_p0_0 : w21.cell? ⟨W.heap.size, 0, none⟩ = some (.int .i64 (x0).Seed) := Fx.var_load o_p0 n_p0 0 _ rfl
  have d_p0_1 : w21.cell? ⟨W.heap.size, 1, none⟩ = some (.int .i64 (x0).Next) := Fx.var_load o_p0 n_p0 1 _ rfl
  have d_p0_2 : w21.cell? ⟨W.heap.size, 2, none⟩ = some (.slice A_p0_Open (x0).Open.length c_p0_Open) := Fx.var_load o_p0 n_p0 2 _ rfl
  have e_p0 : W.heap.size < w21.heap.size := Fx.var_lt o_p0
  have d_w0v_0 : w21.cell? ⟨w3.heap.size, 0, none⟩ = some (.int .i64 ((C12e.issX x0 a1 a2)).Seed) := Fx.var_load o_w0v n_w0v 0 _ rfl
  have d_w0v_1 : w21.cell? ⟨w3.heap.size, 1, none⟩ = some (.int .i64 ((C12e.issX x0 a1 a2)).Next) := Fx.var_load o_w0v n_w0v 1 _ rfl
  have d_w0v_2 : w21.cell? ⟨w3.heap.size, 2, none⟩ = some (.slice A_w0_Open ((C12e.issX x0 a1 a2)).Open.length c_w0_Open) := Fx.var_load o_w0v n_w0v 2 _ rfl
  have e_w0v : w3.heap.size < w21.heap.size := Fx.var_lt o_w0v
  have d_w1v_0 : w21.cell? ⟨w3.heap.size + 1, 0, none⟩ = some (.int .i64 ((C12e.issC x0 a1 a2)).Id) := Fx.var_load o_w1v n_w1v 0 _ rfl
  have d_w1v_1 : w21.cell? ⟨w3.heap.size + 1, 1, none⟩ = some (.int .i64 ((C12e.issC x0 a1 a2)).Account) := Fx.var_load o_w1v n_w1v 1 _ rfl
  have d_w1v_2 : w21.cell? ⟨w3.heap.size + 1, 2, none⟩ = some (.int .i64 ((C12e.issC x0 a1 a2)).Until) := Fx.var_load o_w1v n_w1v 2 _ rfl
  have e_w1v : w3.heap.size + 1 < w21.heap.size := Fx.var_lt o_w1v
  have d_g0v_0 : w21.cell? ⟨w8.heap.size, 0, none⟩ = some (.int .i64 ((C12e.issX x0 a1 a2)).Seed) := Fx.var_load o_g0v n_g0v 0 _ rfl
  have d_g0v_1 : w21.cell? ⟨w8.heap.size, 1, none⟩ = some (.int .i64 ((C12e.issX x0 a1 a2)).Next) := Fx.var_load o_g0v n_g0v 1 _ rfl
  have d_g0v_2 : w21.cell? ⟨w8.heap.size, 2, none⟩ = some (.slice A_g0_Open ((C12e.issX x0 a1 a2)).Open.length c_g0_Open) := Fx.var_load o_g0v n_g0v 2 _ rfl
  have e_g0v : w8.heap.size < w21.heap.size := Fx.var_lt o_g0v
  have d_g1v_0 : w21.cell? ⟨w8.heap.size + 1, 0, none⟩ = some (.int .i64 ((C12e.issC x0 a1 a2)).Id) := Fx.var_load o_g1v n_g1v 0 _ rfl
  have d_g1v_1 : w21.cell? ⟨w8.heap.size + 1, 1, none⟩ = some (.int .i64 ((C12e.issC x0 a1 a2)).Account) := Fx.var_load o_g1v n_g1v 1 _ rfl
  have d_g1v_2 : w21.cell? ⟨w8.heap.size + 1, 2, none⟩ = some (.int .i64 ((C12e.issC x0 a1 a2)).Until) := Fx.var_load o_g1v n_g1v 2 _ rfl
  have e_g1v : w8.heap.size + 1 < w21.heap.size := Fx.var_lt o_g1v
  go_wp2_with fail
  clear d_p0_0 d_p0_1 d_p0_2 e_p0 d_w0v_0 d_w0v_1 d_w0v_2 e_w0v d_w1v_0 d_w1v_1 d_w1v_2 e_w1v d_g0v_0 d_g0v_1 d_g0v_2 e_g0v d_g1v_0 d_g1v_1 d_g1v_2 e_g1v
  obtain ⟨w22, hw22⟩ : ∃ y, y = w21.alloc (.cells #[.int .i64 ((C12e.issX x0 a1 a2)).Seed, .int .i64 ((C12e.issX x0 a1 a2)).Next, .slice A_h0_Open ((C12e.issX x0 a1 a2)).Open.length c_h0_Open] 26) := ⟨_, rfl⟩
  have o_h0v := Fx.var_owns w21 26 3 [.int .i64 ((C12e.issX x0 a1 a2)).Seed, .int .i64 ((C12e.issX x0 a1 a2)).Next, .slice A_h0_Open ((C12e.issX x0 a1 a2)).Open.length c_h0_Open] rfl
  have b22 : Below w21.heap.size w21 w22 := hw22 ▸ (Below.refl _ _).alloc (Nat.le_refl _) _
  rw [← hw22] at o_h0v ⊢
  have sl22 : w22.heap.size = w21.heap.size + 1 := by rw [hw22]; simp
  clear hw22
  replace o_p0 := owns_below o_p0 b22
  replace o_w0 := ownsL_below o_w0 b22
  replace o_w1 := ownsL_below o_w1 b22
  replace o_w0v := owns_below o_w0v b22
  replace o_w1v := owns_below o_w1v b22
  replace o_g0 := ownsL_below o_g0 b22
  replace o_g1 := ownsL_below o_g1 b22
  replace o_g0v := owns_below o_g0v b22
  replace o_g1v := owns_below o_g1v b22
  replace o_h0 := ownsL_below o_h0 b22
  replace o_h1 := ownsL_below o_h1 b22
  replace HB := HB.trans (b22.mono HB.size)
  have n_h0v : [w21.heap.size].Nodup := by simp
  have i_h0v := Fx.made_in o_h0v
  obtain ⟨w23, hw23⟩ : ∃ y, y = w22.alloc (.cells #[.int .i64 ((C12e.issC x0 a1 a2)).Id, .int .i64 ((C12e.issC x0 a1 a2)).Account, .int .i64 ((C12e.issC x0 a1 a2)).Until] 30) := ⟨_, rfl⟩
  have o_h1v := Fx.var_owns w22 30 3 [.int .i64 ((C12e.issC x0 a1 a2)).Id, .int .i64 ((C12e.issC x0 a1 a2)).Account, .int .i64 ((C12e.issC x0 a1 a2)).Until] rfl
  have b23 : Below w22.heap.size w22 w23 := hw23 ▸ (Below.refl _ _).alloc (Nat.le_refl _) _
  rw [← hw23] at o_h1v ⊢
  rw [sl22] at o_h1v
  clear hw23
  replace o_p0 := owns_below o_p0 b23
  replace o_w0 := ownsL_below o_w0 b23
  replace o_w1 := ownsL_below o_w1 b23
  replace o_w0v := owns_below o_w0v b23
  replace o_w1v := owns_below o_w1v b23
  replace o_g0 := ownsL_below o_g0 b23
  replace o_g1 := ownsL_below o_g1 b23
  replace o_g0v := owns_below o_g0v b23
  replace o_g1v := owns_below o_g1v b23
  replace o_h0 := ownsL_below o_h0 b23
  replace o_h1 := ownsL_below o_h1 b23
  replace o_h0v := owns_below o_h0v b23
  replace HB := HB.trans (b23.mono HB.size)
  have n_h1v : [w21.heap.size + 1].Nodup := by simp
  have i_h1v := Fx.made_in o_h1v
  (with_reducible refine (Fx.eqChallengeBook _ (C12e.issX x0 a1 a2) _ _ (ownsL_rds _ _ _ o_h0) (ownsL_rds _ _ _ o_w0) (by omega)).mono ?_); rintro e w24 ⟨rfl, b24⟩
  replace o_p0 := owns_below o_p0 b24
  replace o_w0 := ownsL_below o_w0 b24
  replace o_w1 := ownsL_below o_w1 b24
  replace o_w0v := owns_below o_w0v b24
  replace o_w1v := owns_below o_w1v b24
  replace o_g0 := ownsL_below o_g0 b24
  replace o_g1 := ownsL_below o_g1 b24
  replace o_g0v := owns_below o_g0v b24
  replace o_g1v := owns_below o_g1v b24
  replace o_h0 := ownsL_below o_h0 b24
  replace o_h1 := ownsL_below o_h1 b24
  replace o_h0v := owns_below o_h0v b24
  replace o_h1v := owns_below o_h1v b24
  replace HB := HB.trans (b24.mono HB.size)
  have d_h1v_0 : w24.cell? ⟨w21.heap.size + 1, 0, none⟩ = some (.int .i64 ((C12e.issC x0 a1 a2)).Id) := Fx.var_load o_h1v n_h1v 0 _ rfl
  have d_h1v_1 : w24.cell? ⟨w21.heap.size + 1, 1, none⟩ = some (.int .i64 ((C12e.issC x0 a1 a2)).Account) := Fx.var_load o_h1v n_h1v 1 _ rfl
  have d_h1v_2 : w24.cell? ⟨w21.heap.size + 1, 2, none⟩ = some (.int .i64 ((C12e.issC x0 a1 a2)).Until) := Fx.var_load o_h1v n_h1v 2 _ rfl
  have e_h1v : w21.heap.size + 1 < w24.heap.size := Fx.var_lt o_h1v
  have d_w1v_0 : w24.cell? ⟨w3.heap.size + 1, 0, none⟩ = some (.int .i64 ((C12e.issC x0 a1 a2)).Id) := Fx.var_load o_w1v n_w1v 0 _ rfl
  have d_w1v_1 : w24.cell? ⟨w3.heap.size + 1, 1, none⟩ = some (.int .i64 ((C12e.issC x0 a1 a2)).Account) := Fx.var_load o_w1v n_w1v 1 _ rfl
  have d_w1v_2 : w24.cell? ⟨w3.heap.size + 1, 2, none⟩ = some (.int .i64 ((C12e.issC x0 a1 a2)).Until) := Fx.var_load o_w1v n_w1v 2 _ rfl
  have e_w1v : w3.heap.size + 1 < w24.heap.size := Fx.var_lt o_w1v
  go_wp2_with fail
  (with_reducible refine (Fx.eqChallenge _ (C12e.issC x0 a1 a2) _ _ (ownsL_rds _ _ _ o_h1) (ownsL_rds _ _ _ o_w1) (by omega)).mono ?_); rintro e w25 ⟨rfl, b25⟩
  clear d_h1v_0 d_h1v_1 d_h1v_2 e_h1v d_w1v_0 d_w1v_1 d_w1v_2 e_w1v
  replace o_p0 := owns_below o_p0 b25
  replace o_w0 := ownsL_below o_w0 b25
  replace o_w1 := ownsL_below o_w1 b25
  replace o_w0v := owns_below o_w0v b25
  replace o_w1v := owns_below o_w1v b25
  replace o_g0 := ownsL_below o_g0 b25
  replace o_g1 := ownsL_below o_g1 b25
  replace o_g0v := owns_below o_g0v b25
  replace o_g1v := owns_below o_g1v b25
  replace o_h0 := ownsL_below o_h0 b25
  replace o_h1 := ownsL_below o_h1 b25
  replace o_h0v := owns_below o_h0v b25
  replace o_h1v := owns_below o_h1v b25
  replace HB := HB.trans (b25.mono HB.size)
  have d_g0v_0 : w25.cell? ⟨w8.heap.size, 0, none⟩ = some (.int .i64 ((C12e.issX x0 a1 a2)).Seed) := Fx.var_load o_g0v n_g0v 0 _ rfl
  have d_g0v_1 : w25.cell? ⟨w8.heap.size, 1, none⟩ = some (.int .i64 ((C12e.issX x0 a1 a2)).Next) := Fx.var_load o_g0v n_g0v 1 _ rfl
  have d_g0v_2 : w25.cell? ⟨w8.heap.size, 2, none⟩ = some (.slice A_g0_Open ((C12e.issX x0 a1 a2)).Open.length c_g0_Open) := Fx.var_load o_g0v n_g0v 2 _ rfl
  have e_g0v : w8.heap.size < w25.heap.size := Fx.var_lt o_g0v
  go_wp2_with fail
  (with_reducible refine (Fx.heldChallengeBook _ (C12e.issX x0 a1 a2) _ _ (ownsL_rds _ _ _ o_g0) (by omega) (by omega) (by omega)).mono ?_); rintro e w26 ⟨rfl, b26⟩
  clear d_g0v_0 d_g0v_1 d_g0v_2 e_g0v
  replace o_p0 := owns_below o_p0 b26
  replace o_w0 := ownsL_below o_w0 b26
  replace o_w1 := ownsL_below o_w1 b26
  replace o_w0v := owns_below o_w0v b26
  replace o_w1v := owns_below o_w1v b26
  replace o_g0 := ownsL_below o_g0 b26
  replace o_g1 := ownsL_below o_g1 b26
  replace o_g0v := owns_below o_g0v b26
  replace o_g1v := owns_below o_g1v b26
  replace o_h0 := ownsL_below o_h0 b26
  replace o_h1 := ownsL_below o_h1 b26
  replace o_h0v := owns_below o_h0v b26
  replace o_h1v := owns_below o_h1v b26
  replace HB := HB.trans (b26.mono HB.size)
  go_wp2
  go_ret
  exact ⟨rfl, HB⟩

set_option maxRecDepth 100000 in
theorem contract (H : Type) (enc : TypeId × Value → H) (W : World) (base : Nat) (args : Array Value) (ds gs : List (DataW H)) (before : List MemPlace)
    (hval : ∀ (j : Nat) t v, Try.f5.params[j]? = some t → args[j]? = some v → Value.okWide Try.prog W .any base t v)
    (hW : DataW.Whole enc Try.prog Try.f5.params.toList Rows.fnExactIssueChallengeSpec.vars false W args.toList ds gs before) :
    Calls Try.prog 5 args W fun e W' => ∃ v, e = .returned v ∧ Rows.fnExactIssueChallengeSpec.post enc Try.prog Try.f5 false true false false W args v W' := by
  have hW' := hW
  obtain ⟨p, q, hA0, hV, rfl, hfz, hnd⟩ := hW
  have hA : DataW.TrodAll enc Try.prog W 0 (fun _ => true) true Try.f5.params.toList args.toList ds p := hA0
  rw [Try.params5] at hA hval
  obtain ⟨v0, vs0, d0, ds0, p0, q0, hargs, rfl, rfl, h0, r0⟩ := trodAll_cons hA
  obtain ⟨v1, vs1, d1, ds1, p1, q1, rfl, rfl, rfl, h1, r1⟩ := trodAll_cons r0
  obtain ⟨v2, vs2, d2, ds2, p2, q2, rfl, rfl, rfl, h2, r2⟩ := trodAll_cons r1
  obtain ⟨rfl, rfl, rfl⟩ := trodAll_nil r2
  obtain rfl : args = #[v0, v1, v2] := by cases args; simp_all
  obtain ⟨rfl, rfl⟩ := trodVars_none hV
  obtain ⟨a1, rfl, rfl, rfl, w1⟩ := open_int Try.underlying3 (hval 1 3 v1 rfl rfl) h1
  obtain ⟨a2, rfl, rfl, rfl, w2⟩ := open_int Try.underlying3 (hval 2 3 v2 rfl rfl) h2
  clear hA0
  refine Fr.closeLaw rfl (by kernel_rfl) (by rw [Try.params5]; decide) hW' rfl ?_
  exact walk v0 a1 w1 a2 w2 W (hval 0 41 v0 rfl rfl) h0

set_option maxRecDepth 100000 in
theorem reads (os : Os) {H : Type} (enc : TypeId × Value → H) : ∃ places, DataW.whole enc Try.prog ((World.holding Try.prog os ⟨#[], #[], []⟩).forCall (fun _ _ => 0) ⟨#[], #[.agg #[.int .i64 0, .int .i64 0, .slice none 0 0], .int .i64 0, .int .i64 0], []⟩).memory Try.f5.params.toList Rows.fnExactIssueChallengeSpec.vars false (#[.agg #[.int .i64 0, .int .i64 0, .slice none 0 0], .int .i64 0, .int .i64 0] : Array Value).toList 8 = some ([.agg [.lit (.int .i64 0), .lit (.int .i64 0), .nil], .lit (.int .i64 0), .lit (.int .i64 0)], [], places) :=
  ⟨[], by kernel_rfl⟩
set_option maxRecDepth 100000 in
theorem lifted (os : Os) (started : os.Started) (H : Type) (enc : TypeId × Value → H) (F : Stop.Interp) :
    ReturnsInHanded {} Try.checked os 5 .any ((OpenSpec.ofChange Rows.fnExactIssueChallengeSpec).preRow enc Try.prog Try.f5 Rows.fnExactIssueChallengeRow.domain false Rows.fnExactIssueChallengeRow.laid) (((OpenSpec.ofChange Rows.fnExactIssueChallengeSpec).at F).post enc Try.prog Try.f5 false true false false) := by
  obtain ⟨places, hx⟩ := reads os enc
  refine returnsInHanded_of_row (C := Try.checked) (s := OpenSpec.ofChange Rows.fnExactIssueChallengeSpec) Fr.own started (by kernel_rfl) Try.func5
    (witness_row_atRef (enc := enc) (C := Try.checked) false (World.holding Try.prog os ⟨#[], #[], []⟩) #[.agg #[.int .i64 0, .int .i64 0, .slice none 0 0], .int .i64 0, .int .i64 0] rfl (by kernel_rfl) (by kernel_rfl) (by kernel_rfl)
      (OpenSpec.preRow_of_cond 8 hx (by kernel_rfl) (fun k hk => by cases hk) (by kernel_rfl) (laidMetH_nil _ _))) ?_
  intro W base args ds gs before hval hW _ hcond _ hL _ _
  exact contract H enc W base args ds gs before hval hW
set_option maxRecDepth 100000 in
theorem said : Rows.FnExactIssueChallengeSaid :=
  OpenClaim.holds_of_cond 5 Try.f5 rfl rfl rfl rfl rfl rfl rfl ⟨rfl, rfl, rfl, rfl, rfl⟩ rfl rfl rfl rfl rfl (by kernel_rfl) Try.func5 (by kernel_rfl)
    (of_decide_eq_true (by kernel_rfl)) (by unfold Func.isWrapper; first | (rw [if_pos (by decide +kernel)]; kernel_rfl) | (rw [if_neg (by decide +kernel)]; exact ⟨rfl, rfl⟩))
    (fun os started H enc _ F => by rw [OpenClaim.pre_eq_preRow]; exact lifted os started H enc F)
theorem proved : Rows.FnExactIssueChallengeSaid := said
#print axioms proved
end Go.Proofs.Ytjkmcnnkifachaa.fnExactIssueChallenge
