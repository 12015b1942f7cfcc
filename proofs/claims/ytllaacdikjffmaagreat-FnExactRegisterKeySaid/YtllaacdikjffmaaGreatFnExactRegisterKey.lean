import Derived.Test.YtllaacdikjffmaaGreatBa
import Derived.Stop.Joined
import Derived.Test.YtllaacdikjffmaaGreatBb
import Derived.Test.YtllaacdikjffmaaGreatYSite
import Derived.Test.YtllaacdikjffmaaGreatM22
import Derived.Test.YtllaacdikjffmaaGreatC15v
import Derived.Test.YtllaacdikjffmaaGreatC15r
import Derived.Test.YtllaacdikjffmaaGreatC15z
/-
  laws.FnExactRegisterKey returns true at every argument, and leaves what came in as it was: the program's RegisterKey answers as the model's (slices of more than 1048576 elements are passed over by the law itself). Conditions: none.
-/
namespace Go.Proofs.YtllaacdikjffmaaGreat.fnExactRegisterKey
open Go.ChangeShapes Go.WideShapes Go.ChangeAt Go.RowKit
set_option linter.unusedVariables false

open S0 S9 Dm in
set_option maxHeartbeats 8000000 in
set_option maxRecDepth 100000 in
theorem walk (v0 : Value) (a1 : Int) (u1 : (Lit.int .i64 a1).wf = true) (a2 : Int) (u2 : (Lit.int .i64 a2).wf = true) (a3 : Int) (u3 : (Lit.int .i64 a3).wf = true) (W : World) {H : Type} {enc : TypeId × Value → H} {b0 : Nat} {d0 : DataW H} {p0 : List MemPlace} (hv0 : Value.okWide Tryz.prog W .any b0 28 v0) (ht0 : DataW.Trod enc Tryz.prog W 0 (fun _ => true) true 28 v0 d0 p0) :
    Calls Tryz.prog 3 #[v0, .int .i64 a1, .int .i64 a2, .int .i64 a3] W fun e w' => e = .returned (.bool true) ∧ Below W.heap.size W w' := by
  obtain ⟨vs0, x0, rfl, hr0, ho0⟩ := Fx.argSite hv0 ht0
  clear ht0 hv0
  obtain ⟨A_p0_Accounts, c_p0_Accounts, A_p0_Book_Open, c_p0_Book_Open, A_p0_Logins, c_p0_Logins, rfl, -, -, -⟩ := Fx.Site.rds hr0
  have H0 := Lib.hid hr0
  clear hr0
  have hwx0 := Nat.le_of_eq (Fx.Site.wt x0)
  have hwy0 := Nat.le_of_eq (Fx.Site.wt x0).symm
  have hcx0 := Fx.cntTb_Site x0
  have hu1 := M1.i64_wf u1
  clear u1
  have hu2 := M1.i64_wf u2
  clear u2
  have hu3 := M1.i64_wf u3
  clear u3
  have hwr0 := Nat.le_of_eq (Fx.Site.wt (M22.regX x0 a1 a2 a3))
  have hws0 := Nat.le_of_eq (Fx.Site.wt (M22.regX x0 a1 a2 a3)).symm
  have hcr0 := Fx.cntTb_Site (M22.regX x0 a1 a2 a3)
  have hlr0 := (C15z.reg_wts x0 a1 a2 a3).1
  have hlr1 := (C15z.reg_wts x0 a1 a2 a3).2.1
  have hlr2 := (C15z.reg_wts x0 a1 a2 a3).2.2.1
  have hlr3 := (C15z.reg_wts x0 a1 a2 a3).2.2.2
  have HB : Below W.heap.size W W := Below.refl _ _
  obtain ⟨q0, hq0⟩ : ∃ x, x = W.alloc (.cells #[.string (x0).Name, .slice A_p0_Accounts (x0).Accounts.length c_p0_Accounts, .int .i64 (x0).Book.Seed, .int .i64 (x0).Book.Next, .slice A_p0_Book_Open (x0).Book.Open.length c_p0_Book_Open, .slice A_p0_Logins (x0).Logins.length c_p0_Logins] 28) := ⟨_, rfl⟩
  have o_p0 := Fx.var_owns W 28 6 [.string (x0).Name, .slice A_p0_Accounts (x0).Accounts.length c_p0_Accounts, .int .i64 (x0).Book.Seed, .int .i64 (x0).Book.Next, .slice A_p0_Book_Open (x0).Book.Open.length c_p0_Book_Open, .slice A_p0_Logins (x0).Logins.length c_p0_Logins] rfl
  have n_p0 : [W.heap.size].Nodup := by simp
  have bq0 : Below W.heap.size W q0 := hq0 ▸ (Below.refl _ _).alloc (Nat.le_refl _) _
  rw [← hq0] at o_p0
  have sq0 : q0.heap.size = W.heap.size + 1 := by rw [hq0]; simp
  replace HB := HB.trans (bq0.mono HB.size)
  have i_p0 := Fx.made_in o_p0
  go_enter Tryz.func3, Tryz.ntmps3
  go_wp2_with fail
  rw [← hq0]
  (with_reducible refine (Fx.szSite _ x0 _ (1048576) (rdsL_on H0.out HB) ho0 (by omega) (by omega)).mono ?_); rintro e w1 ⟨rfl, b1⟩
  replace o_p0 := owns_below o_p0 b1
  replace HB := HB.trans (b1.mono HB.size)
  by_cases big0 : (wtL (Fx.Site.dcs x0) : Int) ≤ 1048576
  rotate_left
  · rw [if_neg big0]
    go_wp2
    go_ret
    exact ⟨rfl, HB⟩
  rw [if_pos big0]
  have d_p0_0 : w1.cell? ⟨W.heap.size, 0, none⟩ = some (.string (x0).Name) := Fx.var_load o_p0 n_p0 0 _ rfl
  have d_p0_1 : w1.cell? ⟨W.heap.size, 1, none⟩ = some (.slice A_p0_Accounts (x0).Accounts.length c_p0_Accounts) := Fx.var_load o_p0 n_p0 1 _ rfl
  have d_p0_2 : w1.cell? ⟨W.heap.size, 2, none⟩ = some (.int .i64 (x0).Book.Seed) := Fx.var_load o_p0 n_p0 2 _ rfl
  have d_p0_3 : w1.cell? ⟨W.heap.size, 3, none⟩ = some (.int .i64 (x0).Book.Next) := Fx.var_load o_p0 n_p0 3 _ rfl
  have d_p0_4 : w1.cell? ⟨W.heap.size, 4, none⟩ = some (.slice A_p0_Book_Open (x0).Book.Open.length c_p0_Book_Open) := Fx.var_load o_p0 n_p0 4 _ rfl
  have d_p0_5 : w1.cell? ⟨W.heap.size, 5, none⟩ = some (.slice A_p0_Logins (x0).Logins.length c_p0_Logins) := Fx.var_load o_p0 n_p0 5 _ rfl
  have e_p0 : W.heap.size < w1.heap.size := Fx.var_lt o_p0
  go_wp2_with fail
  (with_reducible refine (Fx.toSite _ x0 _ (rdsL_on H0.out HB) (by omega)).mono ?_); rintro e w2 ⟨v_cw0, s_cw0, rfl, o_cw0, n_cw0, b2⟩
  clear d_p0_0 d_p0_1 d_p0_2 d_p0_3 d_p0_4 d_p0_5 e_p0
  replace o_p0 := owns_below o_p0 b2
  replace HB := HB.trans (b2.mono HB.size)
  have i_cw0 := Fx.madeL_in o_cw0
  obtain ⟨A_cw0_Accounts, c_cw0_Accounts, _, A_cw0_Book_Open, c_cw0_Book_Open, _, A_cw0_Logins, c_cw0_Logins, _, rfl, -, -, -, -⟩ := Fx.Site.owns o_cw0
  go_wp2_with fail
  (with_reducible refine (C15z.specReg _ x0 _ (E0.ownsL_shsL _ _ _ o_cw0) (by omega) (by omega) (by omega) (by omega) a1 a2 a3).mono ?_); rintro e w3 ⟨v_w0, s_w0, rfl, o_w0, n_w0, b3⟩
  replace o_p0 := owns_below o_p0 b3
  replace o_cw0 := ownsL_below o_cw0 b3
  replace HB := HB.trans (b3.mono HB.size)
  have i_w0 := Fx.madeL_in o_w0
  obtain ⟨A_w0_Accounts, c_w0_Accounts, _, A_w0_Book_Open, c_w0_Book_Open, _, A_w0_Logins, c_w0_Logins, _, rfl, -, -, -, -⟩ := Fx.Site.owns o_w0
  clear o_cw0 i_cw0 n_cw0
  have d_p0_0 : w3.cell? ⟨W.heap.size, 0, none⟩ = some (.string (x0).Name) := Fx.var_load o_p0 n_p0 0 _ rfl
  have d_p0_1 : w3.cell? ⟨W.heap.size, 1, none⟩ = some (.slice A_p0_Accounts (x0).Accounts.length c_p0_Accounts) := Fx.var_load o_p0 n_p0 1 _ rfl
  have d_p0_2 : w3.cell? ⟨W.heap.size, 2, none⟩ = some (.int .i64 (x0).Book.Seed) := Fx.var_load o_p0 n_p0 2 _ rfl
  have d_p0_3 : w3.cell? ⟨W.heap.size, 3, none⟩ = some (.int .i64 (x0).Book.Next) := Fx.var_load o_p0 n_p0 3 _ rfl
  have d_p0_4 : w3.cell? ⟨W.heap.size, 4, none⟩ = some (.slice A_p0_Book_Open (x0).Book.Open.length c_p0_Book_Open) := Fx.var_load o_p0 n_p0 4 _ rfl
  have d_p0_5 : w3.cell? ⟨W.heap.size, 5, none⟩ = some (.slice A_p0_Logins (x0).Logins.length c_p0_Logins) := Fx.var_load o_p0 n_p0 5 _ rfl
  have e_p0 : W.heap.size < w3.heap.size := Fx.var_lt o_p0
  go_wp2_with fail
  clear d_p0_0 d_p0_1 d_p0_2 d_p0_3 d_p0_4 d_p0_5 e_p0
  obtain ⟨w4, hw4⟩ : ∃ y, y = w3.alloc (.cells #[.string ((M22.regX x0 a1 a2 a3)).Name, .slice A_w0_Accounts ((M22.regX x0 a1 a2 a3)).Accounts.length c_w0_Accounts, .int .i64 ((M22.regX x0 a1 a2 a3)).Book.Seed, .int .i64 ((M22.regX x0 a1 a2 a3)).Book.Next, .slice A_w0_Book_Open ((M22.regX x0 a1 a2 a3)).Book.Open.length c_w0_Book_Open, .slice A_w0_Logins ((M22.regX x0 a1 a2 a3)).Logins.length c_w0_Logins] 35) := ⟨_, rfl⟩
  have o_w0v := Fx.var_owns w3 35 6 [.string ((M22.regX x0 a1 a2 a3)).Name, .slice A_w0_Accounts ((M22.regX x0 a1 a2 a3)).Accounts.length c_w0_Accounts, .int .i64 ((M22.regX x0 a1 a2 a3)).Book.Seed, .int .i64 ((M22.regX x0 a1 a2 a3)).Book.Next, .slice A_w0_Book_Open ((M22.regX x0 a1 a2 a3)).Book.Open.length c_w0_Book_Open, .slice A_w0_Logins ((M22.regX x0 a1 a2 a3)).Logins.length c_w0_Logins] rfl
  have b4 : Below w3.heap.size w3 w4 := hw4 ▸ (Below.refl _ _).alloc (Nat.le_refl _) _
  rw [← hw4] at o_w0v ⊢
  clear hw4
  replace o_p0 := owns_below o_p0 b4
  replace o_w0 := ownsL_below o_w0 b4
  replace HB := HB.trans (b4.mono HB.size)
  have n_w0v : [w3.heap.size].Nodup := by simp
  have i_w0v := Fx.made_in o_w0v
  (with_reducible refine (Fx.toSite _ x0 _ (rdsL_on H0.out HB) (by omega)).mono ?_); rintro e w5 ⟨v_y0, s_y0, rfl, o_y0, n_y0, b5⟩
  replace o_p0 := owns_below o_p0 b5
  replace o_w0 := ownsL_below o_w0 b5
  replace o_w0v := owns_below o_w0v b5
  replace HB := HB.trans (b5.mono HB.size)
  have i_y0 := Fx.madeL_in o_y0
  obtain ⟨A_y0_Accounts, c_y0_Accounts, _, A_y0_Book_Open, c_y0_Book_Open, _, A_y0_Logins, c_y0_Logins, _, rfl, -, -, -, -⟩ := Fx.Site.owns o_y0
  have d_p0_0 : w5.cell? ⟨W.heap.size, 0, none⟩ = some (.string (x0).Name) := Fx.var_load o_p0 n_p0 0 _ rfl
  have d_p0_1 : w5.cell? ⟨W.heap.size, 1, none⟩ = some (.slice A_p0_Accounts (x0).Accounts.length c_p0_Accounts) := Fx.var_load o_p0 n_p0 1 _ rfl
  have d_p0_2 : w5.cell? ⟨W.heap.size, 2, none⟩ = some (.int .i64 (x0).Book.Seed) := Fx.var_load o_p0 n_p0 2 _ rfl
  have d_p0_3 : w5.cell? ⟨W.heap.size, 3, none⟩ = some (.int .i64 (x0).Book.Next) := Fx.var_load o_p0 n_p0 3 _ rfl
  have d_p0_4 : w5.cell? ⟨W.heap.size, 4, none⟩ = some (.slice A_p0_Book_Open (x0).Book.Open.length c_p0_Book_Open) := Fx.var_load o_p0 n_p0 4 _ rfl
  have d_p0_5 : w5.cell? ⟨W.heap.size, 5, none⟩ = some (.slice A_p0_Logins (x0).Logins.length c_p0_Logins) := Fx.var_load o_p0 n_p0 5 _ rfl
  have e_p0 : W.heap.size < w5.heap.size := Fx.var_lt o_p0
  have d_w0v_0 : w5.cell? ⟨w3.heap.size, 0, none⟩ = some (.string ((M22.regX x0 a1 a2 a3)).Name) := Fx.var_load o_w0v n_w0v 0 _ rfl
  have d_w0v_1 : w5.cell? ⟨w3.heap.size, 1, none⟩ = some (.slice A_w0_Accounts ((M22.regX x0 a1 a2 a3)).Accounts.length c_w0_Accounts) := Fx.var_load o_w0v n_w0v 1 _ rfl
  have d_w0v_2 : w5.cell? ⟨w3.heap.size, 2, none⟩ = some (.int .i64 ((M22.regX x0 a1 a2 a3)).Book.Seed) := Fx.var_load o_w0v n_w0v 2 _ rfl
  have d_w0v_3 : w5.cell? ⟨w3.heap.size, 3, none⟩ = some (.int .i64 ((M22.regX x0 a1 a2 a3)).Book.Next) := Fx.var_load o_w0v n_w0v 3 _ rfl
  have d_w0v_4 : w5.cell? ⟨w3.heap.size, 4, none⟩ = some (.slice A_w0_Book_Open ((M22.regX x0 a1 a2 a3)).Book.Open.length c_w0_Book_Open) := Fx.var_load o_w0v n_w0v 4 _ rfl
  have d_w0v_5 : w5.cell? ⟨w3.heap.size, 5, none⟩ = some (.slice A_w0_Logins ((M22.regX x0 a1 a2 a3)).Logins.length c_w0_Logins) := Fx.var_load o_w0v n_w0v 5 _ rfl
  have e_w0v : w3.heap.size < w5.heap.size := Fx.var_lt o_w0v
  go_wp2_with fail
  clear d_p0_0 d_p0_1 d_p0_2 d_p0_3 d_p0_4 d_p0_5 e_p0 d_w0v_0 d_w0v_1 d_w0v_2 d_w0v_3 d_w0v_4 d_w0v_5 e_w0v
  obtain ⟨w6, hw6⟩ : ∃ y, y = w5.alloc (.cells #[.string (x0).Name, .slice A_y0_Accounts (x0).Accounts.length c_y0_Accounts, .int .i64 (x0).Book.Seed, .int .i64 (x0).Book.Next, .slice A_y0_Book_Open (x0).Book.Open.length c_y0_Book_Open, .slice A_y0_Logins (x0).Logins.length c_y0_Logins] 35) := ⟨_, rfl⟩
  have o_y0v := Fx.var_owns w5 35 6 [.string (x0).Name, .slice A_y0_Accounts (x0).Accounts.length c_y0_Accounts, .int .i64 (x0).Book.Seed, .int .i64 (x0).Book.Next, .slice A_y0_Book_Open (x0).Book.Open.length c_y0_Book_Open, .slice A_y0_Logins (x0).Logins.length c_y0_Logins] rfl
  have b6 : Below w5.heap.size w5 w6 := hw6 ▸ (Below.refl _ _).alloc (Nat.le_refl _) _
  rw [← hw6] at o_y0v ⊢
  clear hw6
  replace o_p0 := owns_below o_p0 b6
  replace o_w0 := ownsL_below o_w0 b6
  replace o_w0v := owns_below o_w0v b6
  replace o_y0 := ownsL_below o_y0 b6
  replace HB := HB.trans (b6.mono HB.size)
  have n_y0v : [w5.heap.size].Nodup := by simp
  have i_y0v := Fx.made_in o_y0v
  (with_reducible refine (C15z.implReg _ x0 _ (E0.ownsL_shsL _ _ _ o_y0) (by omega) (by omega) (by omega) (by omega) ho0 a1 a2 a3 (by omega) (by omega) (by omega) (by omega)).mono ?_); rintro e w7 ⟨v_g0, s_g0, rfl, o_g0, n_g0, b7⟩
  replace o_p0 := owns_below o_p0 b7
  replace o_w0 := ownsL_below o_w0 b7
  replace o_w0v := owns_below o_w0v b7
  replace o_y0 := ownsL_below o_y0 b7
  replace o_y0v := owns_below o_y0v b7
  replace HB := HB.trans (b7.mono HB.size)
  have i_g0 := Fx.madeL_in o_g0
  obtain ⟨A_g0_Accounts, c_g0_Accounts, _, A_g0_Book_Open, c_g0_Book_Open, _, A_g0_Logins, c_g0_Logins, _, rfl, -, -, -, -⟩ := Fx.Site.owns o_g0
  have d_p0_0 : w7.cell? ⟨W.heap.size, 0, none⟩ = some (.string (x0).Name) := Fx.var_load o_p0 n_p0 0 _ rfl
  have d_p0_1 : w7.cell? ⟨W.heap.size, 1, none⟩ = some (.slice A_p0_Accounts (x0).Accounts.length c_p0_Accounts) := Fx.var_load o_p0 n_p0 1 _ rfl
  have d_p0_2 : w7.cell? ⟨W.heap.size, 2, none⟩ = some (.int .i64 (x0).Book.Seed) := Fx.var_load o_p0 n_p0 2 _ rfl
  have d_p0_3 : w7.cell? ⟨W.heap.size, 3, none⟩ = some (.int .i64 (x0).Book.Next) := Fx.var_load o_p0 n_p0 3 _ rfl
  have d_p0_4 : w7.cell? ⟨W.heap.size, 4, none⟩ = some (.slice A_p0_Book_Open (x0).Book.Open.length c_p0_Book_Open) := Fx.var_load o_p0 n_p0 4 _ rfl
  have d_p0_5 : w7.cell? ⟨W.heap.size, 5, none⟩ = some (.slice A_p0_Logins (x0).Logins.length c_p0_Logins) := Fx.var_load o_p0 n_p0 5 _ rfl
  have e_p0 : W.heap.size < w7.heap.size := Fx.var_lt o_p0
  have d_w0v_0 : w7.cell? ⟨w3.heap.size, 0, none⟩ = some (.string ((M22.regX x0 a1 a2 a3)).Name) := Fx.var_load o_w0v n_w0v 0 _ rfl
  have d_w0v_1 : w7.cell? ⟨w3.heap.size, 1, none⟩ = some (.slice A_w0_Accounts ((M22.regX x0 a1 a2 a3)).Accounts.length c_w0_Accounts) := Fx.var_load o_w0v n_w0v 1 _ rfl
  have d_w0v_2 : w7.cell? ⟨w3.heap.size, 2, none⟩ = some (.int .i64 ((M22.regX x0 a1 a2 a3)).Book.Seed) := Fx.var_load o_w0v n_w0v 2 _ rfl
  have d_w0v_3 : w7.cell? ⟨w3.heap.size, 3, none⟩ = some (.int .i64 ((M22.regX x0 a1 a2 a3)).Book.Next) := Fx.var_load o_w0v n_w0v 3 _ rfl
  have d_w0v_4 : w7.cell? ⟨w3.heap.size, 4, none⟩ = some (.slice A_w0_Book_Open ((M22.regX x0 a1 a2 a3)).Book.Open.length c_w0_Book_Open) := Fx.var_load o_w0v n_w0v 4 _ rfl
  have d_w0v_5 : w7.cell? ⟨w3.heap.size, 5, none⟩ = some (.slice A_w0_Logins ((M22.regX x0 a1 a2 a3)).Logins.length c_w0_Logins) := Fx.var_load o_w0v n_w0v 5 _ rfl
  have e_w0v : w3.heap.size < w7.heap.size := Fx.var_lt o_w0v
  have d_y0v_0 : w7.cell? ⟨w5.heap.size, 0, none⟩ = some (.string (x0).Name) := Fx.var_load o_y0v n_y0v 0 _ rfl
  have d_y0v_1 : w7.cell? ⟨w5.heap.size, 1, none⟩ = some (.slice A_y0_Accounts (x0).Accounts.length c_y0_Accounts) := Fx.var_load o_y0v n_y0v 1 _ rfl
  have d_y0v_2 : w7.cell? ⟨w5.heap.size, 2, none⟩ = some (.int .i64 (x0).Book.Seed) := Fx.var_load o_y0v n_y0v 2 _ rfl
  have d_y0v_3 : w7.cell? ⟨w5.heap.size, 3, none⟩ = some (.int .i64 (x0).Book.Next) := Fx.var_load o_y0v n_y0v 3 _ rfl
  have d_y0v_4 : w7.cell? ⟨w5.heap.size, 4, none⟩ = some (.slice A_y0_Book_Open (x0).Book.Open.length c_y0_Book_Open) := Fx.var_load o_y0v n_y0v 4 _ rfl
  have d_y0v_5 : w7.cell? ⟨w5.heap.size, 5, none⟩ = some (.slice A_y0_Logins (x0).Logins.length c_y0_Logins) := Fx.var_load o_y0v n_y0v 5 _ rfl
  have e_y0v : w5.heap.size < w7.heap.size := Fx.var_lt o_y0v
  go_wp2_with fail
  clear d_p0_0 d_p0_1 d_p0_2 d_p0_3 d_p0_4 d_p0_5 e_p0 d_w0v_0 d_w0v_1 d_w0v_2 d_w0v_3 d_w0v_4 d_w0v_5 e_w0v d_y0v_0 d_y0v_1 d_y0v_2 d_y0v_3 d_y0v_4 d_y0v_5 e_y0v
  obtain ⟨w8, hw8⟩ : ∃ y, y = w7.alloc (.cells #[.string ((M22.regX x0 a1 a2 a3)).Name, .slice A_g0_Accounts ((M22.regX x0 a1 a2 a3)).Accounts.length c_g0_Accounts, .int .i64 ((M22.regX x0 a1 a2 a3)).Book.Seed, .int .i64 ((M22.regX x0 a1 a2 a3)).Book.Next, .slice A_g0_Book_Open ((M22.regX x0 a1 a2 a3)).Book.Open.length c_g0_Book_Open, .slice A_g0_Logins ((M22.regX x0 a1 a2 a3)).Logins.length c_g0_Logins] 35) := ⟨_, rfl⟩
  have o_g0v := Fx.var_owns w7 35 6 [.string ((M22.regX x0 a1 a2 a3)).Name, .slice A_g0_Accounts ((M22.regX x0 a1 a2 a3)).Accounts.length c_g0_Accounts, .int .i64 ((M22.regX x0 a1 a2 a3)).Book.Seed, .int .i64 ((M22.regX x0 a1 a2 a3)).Book.Next, .slice A_g0_Book_Open ((M22.regX x0 a1 a2 a3)).Book.Open.length c_g0_Book_Open, .slice A_g0_Logins ((M22.regX x0 a1 a2 a3)).Logins.length c_g0_Logins] rfl
  have b8 : Below w7.heap.size w7 w8 := hw8 ▸ (Below.refl _ _).alloc (Nat.le_refl _) _
  rw [← hw8] at o_g0v ⊢
  clear hw8
  replace o_p0 := owns_below o_p0 b8
  replace o_w0 := ownsL_below o_w0 b8
  replace o_w0v := owns_below o_w0v b8
  replace o_y0 := ownsL_below o_y0 b8
  replace o_y0v := owns_below o_y0v b8
  replace o_g0 := ownsL_below o_g0 b8
  replace HB := HB.trans (b8.mono HB.size)
  have n_g0v : [w7.heap.size].Nodup := by simp
  have i_g0v := Fx.made_in o_g0v
  (with_reducible refine (Fx.eqSite _ (M22.regX x0 a1 a2 a3) _ _ (ownsL_rds _ _ _ o_g0) (ownsL_rds _ _ _ o_w0) (by omega)).mono ?_); rintro e w9 ⟨rfl, b9⟩
  replace o_p0 := owns_below o_p0 b9
  replace o_w0 := ownsL_below o_w0 b9
  replace o_w0v := owns_below o_w0v b9
  replace o_y0 := ownsL_below o_y0 b9
  replace o_y0v := owns_below o_y0v b9
  replace o_g0 := ownsL_below o_g0 b9
  replace o_g0v := owns_below o_g0v b9
  replace HB := HB.trans (b9.mono HB.size)
  have d9_y0v_0 : w9.cell? ⟨w5.heap.size, 0, none⟩ = some (.string (x0).Name) := Fx.var_load o_y0v n_y0v 0 _ rfl
  have d9_y0v_1 : w9.cell? ⟨w5.heap.size, 1, none⟩ = some (.slice A_y0_Accounts (x0).Accounts.length c_y0_Accounts) := Fx.var_load o_y0v n_y0v 1 _ rfl
  have d9_y0v_2 : w9.cell? ⟨w5.heap.size, 2, none⟩ = some (.int .i64 (x0).Book.Seed) := Fx.var_load o_y0v n_y0v 2 _ rfl
  have d9_y0v_3 : w9.cell? ⟨w5.heap.size, 3, none⟩ = some (.int .i64 (x0).Book.Next) := Fx.var_load o_y0v n_y0v 3 _ rfl
  have d9_y0v_4 : w9.cell? ⟨w5.heap.size, 4, none⟩ = some (.slice A_y0_Book_Open (x0).Book.Open.length c_y0_Book_Open) := Fx.var_load o_y0v n_y0v 4 _ rfl
  have d9_y0v_5 : w9.cell? ⟨w5.heap.size, 5, none⟩ = some (.slice A_y0_Logins (x0).Logins.length c_y0_Logins) := Fx.var_load o_y0v n_y0v 5 _ rfl
  have d9_p0_0 : w9.cell? ⟨W.heap.size, 0, none⟩ = some (.string (x0).Name) := Fx.var_load o_p0 n_p0 0 _ rfl
  have d9_p0_1 : w9.cell? ⟨W.heap.size, 1, none⟩ = some (.slice A_p0_Accounts (x0).Accounts.length c_p0_Accounts) := Fx.var_load o_p0 n_p0 1 _ rfl
  have d9_p0_2 : w9.cell? ⟨W.heap.size, 2, none⟩ = some (.int .i64 (x0).Book.Seed) := Fx.var_load o_p0 n_p0 2 _ rfl
  have d9_p0_3 : w9.cell? ⟨W.heap.size, 3, none⟩ = some (.int .i64 (x0).Book.Next) := Fx.var_load o_p0 n_p0 3 _ rfl
  have d9_p0_4 : w9.cell? ⟨W.heap.size, 4, none⟩ = some (.slice A_p0_Book_Open (x0).Book.Open.length c_p0_Book_Open) := Fx.var_load o_p0 n_p0 4 _ rfl
  have d9_p0_5 : w9.cell? ⟨W.heap.size, 5, none⟩ = some (.slice A_p0_Logins (x0).Logins.length c_p0_Logins) := Fx.var_load o_p0 n_p0 5 _ rfl
  have e9_y0v : w5.heap.size < w9.heap.size := Fx.var_lt o_y0v
  have e9_p0 : W.heap.size < w9.heap.size := Fx.var_lt o_p0
  go_wp2_with fail
  go_region_held3 (fun wx => wx.cell? ⟨w5.heap.size, 0, none⟩ = some (.string (x0).Name) ∧ wx.cell? ⟨w5.heap.size, 1, none⟩ = some (.slice A_y0_Accounts (x0).Accounts.length c_y0_Accounts) ∧ wx.cell? ⟨w5.heap.size, 2, none⟩ = some (.int .i64 (x0).Book.Seed) ∧ wx.cell? ⟨w5.heap.size, 3, none⟩ = some (.int .i64 (x0).Book.Next) ∧ wx.cell? ⟨w5.heap.size, 4, none⟩ = some (.slice A_y0_Book_Open (x0).Book.Open.length c_y0_Book_Open) ∧ wx.cell? ⟨w5.heap.size, 5, none⟩ = some (.slice A_y0_Logins (x0).Logins.length c_y0_Logins) ∧ wx.cell? ⟨W.heap.size, 0, none⟩ = some (.string (x0).Name) ∧ wx.cell? ⟨W.heap.size, 1, none⟩ = some (.slice A_p0_Accounts (x0).Accounts.length c_p0_Accounts) ∧ wx.cell? ⟨W.heap.size, 2, none⟩ = some (.int .i64 (x0).Book.Seed) ∧ wx.cell? ⟨W.heap.size, 3, none⟩ = some (.int .i64 (x0).Book.Next) ∧ wx.cell? ⟨W.heap.size, 4, none⟩ = some (.slice A_p0_Book_Open (x0).Book.Open.length c_p0_Book_Open) ∧ wx.cell? ⟨W.heap.size, 5, none⟩ = some (.slice A_p0_Logins (x0).Logins.length c_p0_Logins)) (first | exact ⟨d9_y0v_0, d9_y0v_1, d9_y0v_2, d9_y0v_3, d9_y0v_4, d9_y0v_5, d9_p0_0, d9_p0_1, d9_p0_2, d9_p0_3, d9_p0_4, d9_p0_5⟩ | exact ⟨d10_y0v_0, d10_y0v_1, d10_y0v_2, d10_y0v_3, d10_y0v_4, d10_y0v_5, d10_p0_0, d10_p0_1, d10_p0_2, d10_p0_3, d10_p0_4, d10_p0_5⟩ | exact ⟨d11_y0v_0, d11_y0v_1, d11_y0v_2, d11_y0v_3, d11_y0v_4, d11_y0v_5, d11_p0_0, d11_p0_1, d11_p0_2, d11_p0_3, d11_p0_4, d11_p0_5⟩) (first | (go_at_call 7; (with_reducible refine (Fx.toSite _ x0 _ (rdsL_on H0.out HB.drew) (by omega)).mono ?_); rintro e w10 ⟨v_t0, s_t0, rfl, o_t0, n_t0, b10⟩; replace b10 := (drewN_below w9 1 _).trans b10; replace o_p0 := owns_below o_p0 b10; replace o_w0 := ownsL_below o_w0 b10; replace o_w0v := owns_below o_w0v b10; replace o_y0 := ownsL_below o_y0 b10; replace o_y0v := owns_below o_y0v b10; replace o_g0 := ownsL_below o_g0 b10; replace o_g0v := owns_below o_g0v b10; replace HB := HB.trans (b10.mono HB.size); have i_t0 := Fx.madeL_in o_t0; obtain ⟨A_t0_Accounts, c_t0_Accounts, _, A_t0_Book_Open, c_t0_Book_Open, _, A_t0_Logins, c_t0_Logins, _, rfl, -, -, -, -⟩ := Fx.Site.owns o_t0; have d10_y0v_0 : w10.cell? ⟨w5.heap.size, 0, none⟩ = some (.string (x0).Name) := Fx.var_load o_y0v n_y0v 0 _ rfl; have d10_y0v_1 : w10.cell? ⟨w5.heap.size, 1, none⟩ = some (.slice A_y0_Accounts (x0).Accounts.length c_y0_Accounts) := Fx.var_load o_y0v n_y0v 1 _ rfl; have d10_y0v_2 : w10.cell? ⟨w5.heap.size, 2, none⟩ = some (.int .i64 (x0).Book.Seed) := Fx.var_load o_y0v n_y0v 2 _ rfl; have d10_y0v_3 : w10.cell? ⟨w5.heap.size, 3, none⟩ = some (.int .i64 (x0).Book.Next) := Fx.var_load o_y0v n_y0v 3 _ rfl; have d10_y0v_4 : w10.cell? ⟨w5.heap.size, 4, none⟩ = some (.slice A_y0_Book_Open (x0).Book.Open.length c_y0_Book_Open) := Fx.var_load o_y0v n_y0v 4 _ rfl; have d10_y0v_5 : w10.cell? ⟨w5.heap.size, 5, none⟩ = some (.slice A_y0_Logins (x0).Logins.length c_y0_Logins) := Fx.var_load o_y0v n_y0v 5 _ rfl; have d10_p0_0 : w10.cell? ⟨W.heap.size, 0, none⟩ = some (.string (x0).Name) := Fx.var_load o_p0 n_p0 0 _ rfl; have d10_p0_1 : w10.cell? ⟨W.heap.size, 1, none⟩ = some (.slice A_p0_Accounts (x0).Accounts.length c_p0_Accounts) := Fx.var_load o_p0 n_p0 1 _ rfl; have d10_p0_2 : w10.cell? ⟨W.heap.size, 2, none⟩ = some (.int .i64 (x0).Book.Seed) := Fx.var_load o_p0 n_p0 2 _ rfl; have d10_p0_3 : w10.cell? ⟨W.heap.size, 3, none⟩ = some (.int .i64 (x0).Book.Next) := Fx.var_load o_p0 n_p0 3 _ rfl; have d10_p0_4 : w10.cell? ⟨W.heap.size, 4, none⟩ = some (.slice A_p0_Book_Open (x0).Book.Open.length c_p0_Book_Open) := Fx.var_load o_p0 n_p0 4 _ rfl; have d10_p0_5 : w10.cell? ⟨W.heap.size, 5, none⟩ = some (.slice A_p0_Logins (x0).Logins.length c_p0_Logins) := Fx.var_load o_p0 n_p0 5 _ rfl; have e10_y0v : w5.heap.size < w10.heap.size := Fx.var_lt o_y0v; have e10_p0 : W.heap.size < w10.heap.size := Fx.var_lt o_p0) | (go_at_call 9; (with_reducible refine (Fx.eqSite _ x0 _ _ (ownsL_rds _ _ _ o_y0) (ownsL_rds _ _ _ o_t0) (by omega)).mono ?_); rintro e w11 ⟨rfl, b11⟩; replace o_p0 := owns_below o_p0 b11; replace o_w0 := ownsL_below o_w0 b11; replace o_w0v := owns_below o_w0v b11; replace o_y0 := ownsL_below o_y0 b11; replace o_y0v := owns_below o_y0v b11; replace o_g0 := ownsL_below o_g0 b11; replace o_g0v := owns_below o_g0v b11; replace o_t0 := ownsL_below o_t0 b11; replace HB := HB.trans (b11.mono HB.size); have d11_y0v_0 : w11.cell? ⟨w5.heap.size, 0, none⟩ = some (.string (x0).Name) := Fx.var_load o_y0v n_y0v 0 _ rfl; have d11_y0v_1 : w11.cell? ⟨w5.heap.size, 1, none⟩ = some (.slice A_y0_Accounts (x0).Accounts.length c_y0_Accounts) := Fx.var_load o_y0v n_y0v 1 _ rfl; have d11_y0v_2 : w11.cell? ⟨w5.heap.size, 2, none⟩ = some (.int .i64 (x0).Book.Seed) := Fx.var_load o_y0v n_y0v 2 _ rfl; have d11_y0v_3 : w11.cell? ⟨w5.heap.size, 3, none⟩ = some (.int .i64 (x0).Book.Next) := Fx.var_load o_y0v n_y0v 3 _ rfl; have d11_y0v_4 : w11.cell? ⟨w5.heap.size, 4, none⟩ = some (.slice A_y0_Book_Open (x0).Book.Open.length c_y0_Book_Open) := Fx.var_load o_y0v n_y0v 4 _ rfl; have d11_y0v_5 : w11.cell? ⟨w5.heap.size, 5, none⟩ = some (.slice A_y0_Logins (x0).Logins.length c_y0_Logins) := Fx.var_load o_y0v n_y0v 5 _ rfl; have d11_p0_0 : w11.cell? ⟨W.heap.size, 0, none⟩ = some (.string (x0).Name) := Fx.var_load o_p0 n_p0 0 _ rfl; have d11_p0_1 : w11.cell? ⟨W.heap.size, 1, none⟩ = some (.slice A_p0_Accounts (x0).Accounts.length c_p0_Accounts) := Fx.var_load o_p0 n_p0 1 _ rfl; have d11_p0_2 : w11.cell? ⟨W.heap.size, 2, none⟩ = some (.int .i64 (x0).Book.Seed) := Fx.var_load o_p0 n_p0 2 _ rfl; have d11_p0_3 : w11.cell? ⟨W.heap.size, 3, none⟩ = some (.int .i64 (x0).Book.Next) := Fx.var_load o_p0 n_p0 3 _ rfl; have d11_p0_4 : w11.cell? ⟨W.heap.size, 4, none⟩ = some (.slice A_p0_Book_Open (x0).Book.Open.length c_p0_Book_Open) := Fx.var_load o_p0 n_p0 4 _ rfl; have d11_p0_5 : w11.cell? ⟨W.heap.size, 5, none⟩ = some (.slice A_p0_Logins (x0).Logins.length c_p0_Logins) := Fx.var_load o_p0 n_p0 5 _ rfl; have e11_y0v : w5.heap.size < w11.heap.size := Fx.var_lt o_y0v; have e11_p0 : W.heap.size < w11.heap.size := Fx.var_lt o_p0))
  try clear d9_y0v_0 d9_y0v_1 d9_y0v_2 d9_y0v_3 d9_y0v_4 d9_y0v_5 d9_p0_0 d9_p0_1 d9_p0_2 d9_p0_3 d9_p0_4 d9_p0_5 e9_y0v e9_p0
  try clear d10_y0v_0 d10_y0v_1 d10_y0v_2 d10_y0v_3 d10_y0v_4 d10_y0v_5 d10_p0_0 d10_p0_1 d10_p0_2 d10_p0_3 d10_p0_4 d10_p0_5 e10_y0v e10_p0
  try clear d11_y0v_0 d11_y0v_1 d11_y0v_2 d11_y0v_3 d11_y0v_4 d11_y0v_5 d11_p0_0 d11_p0_1 d11_p0_2 d11_p0_3 d11_p0_4 d11_p0_5 e11_y0v e11_p0
  try clear o_t0 i_t0 n_t0
  have zq0 := bq0.size
  have z1 := b1.size
  have z2 := b2.size
  have z3 := b3.size
  have z4 := b4.size
  have z5 := b5.size
  have z6 := b6.size
  have z7 := b7.size
  have z8 := b8.size
  have z9 := b9.size
  have d_y0v_0 : w11.cell? ⟨w5.heap.size, 0, none⟩ = some (.string (x0).Name) := Fx.var_load o_y0v n_y0v 0 _ rfl
  have d_y0v_1 : w11.cell? ⟨w5.heap.size, 1, none⟩ = some (.slice A_y0_Accounts (x0).Accounts.length c_y0_Accounts) := Fx.var_load o_y0v n_y0v 1 _ rfl
  have d_y0v_2 : w11.cell? ⟨w5.heap.size, 2, none⟩ = some (.int .i64 (x0).Book.Seed) := Fx.var_load o_y0v n_y0v 2 _ rfl
  have d_y0v_3 : w11.cell? ⟨w5.heap.size, 3, none⟩ = some (.int .i64 (x0).Book.Next) := Fx.var_load o_y0v n_y0v 3 _ rfl
  have d_y0v_4 : w11.cell? ⟨w5.heap.size, 4, none⟩ = some (.slice A_y0_Book_Open (x0).Book.Open.length c_y0_Book_Open) := Fx.var_load o_y0v n_y0v 4 _ rfl
  have d_y0v_5 : w11.cell? ⟨w5.heap.size, 5, none⟩ = some (.slice A_y0_Logins (x0).Logins.length c_y0_Logins) := Fx.var_load o_y0v n_y0v 5 _ rfl
  have e_y0v : w5.heap.size < w11.heap.size := Fx.var_lt o_y0v
  go_wp2_with fail
  (with_reducible refine (Fx.markSite _ _ x0 _ _ _ o_y0 n_y0 (by omega) (by omega) (by omega)).mono ?_); rintro e w12 ⟨rfl, oz, t12⟩
  clear d_y0v_0 d_y0v_1 d_y0v_2 d_y0v_3 d_y0v_4 d_y0v_5 e_y0v
  have z12 := t12.2.2.2.1
  replace o_p0 := owns_turned o_p0 t12 (fun b hb hb2 => by have h1 := i_p0 b hb; have h2 := i_y0 b hb2; omega)
  replace o_w0 := ownsL_turned o_w0 t12 (fun b hb hb2 => by have h1 := i_w0 b hb; have h2 := i_y0 b hb2; omega)
  replace o_w0v := owns_turned o_w0v t12 (fun b hb hb2 => by have h1 := i_w0v b hb; have h2 := i_y0 b hb2; omega)
  replace o_y0v := owns_turned o_y0v t12 (fun b hb hb2 => by have h1 := i_y0v b hb; have h2 := i_y0 b hb2; omega)
  replace o_g0 := ownsL_turned o_g0 t12 (fun b hb hb2 => by have h1 := i_g0 b hb; have h2 := i_y0 b hb2; omega)
  replace o_g0v := owns_turned o_g0v t12 (fun b hb hb2 => by have h1 := i_g0v b hb; have h2 := i_y0 b hb2; omega)
  replace HB := below_turned HB t12 (fun b hb => by have h1 := i_y0 b hb; omega)
  replace o_y0 := oz
  clear oz
  have d_g0v_0 : w12.cell? ⟨w7.heap.size, 0, none⟩ = some (.string ((M22.regX x0 a1 a2 a3)).Name) := Fx.var_load o_g0v n_g0v 0 _ rfl
  have d_g0v_1 : w12.cell? ⟨w7.heap.size, 1, none⟩ = some (.slice A_g0_Accounts ((M22.regX x0 a1 a2 a3)).Accounts.length c_g0_Accounts) := Fx.var_load o_g0v n_g0v 1 _ rfl
  have d_g0v_2 : w12.cell? ⟨w7.heap.size, 2, none⟩ = some (.int .i64 ((M22.regX x0 a1 a2 a3)).Book.Seed) := Fx.var_load o_g0v n_g0v 2 _ rfl
  have d_g0v_3 : w12.cell? ⟨w7.heap.size, 3, none⟩ = some (.int .i64 ((M22.regX x0 a1 a2 a3)).Book.Next) := Fx.var_load o_g0v n_g0v 3 _ rfl
  have d_g0v_4 : w12.cell? ⟨w7.heap.size, 4, none⟩ = some (.slice A_g0_Book_Open ((M22.regX x0 a1 a2 a3)).Book.Open.length c_g0_Book_Open) := Fx.var_load o_g0v n_g0v 4 _ rfl
  have d_g0v_5 : w12.cell? ⟨w7.heap.size, 5, none⟩ = some (.slice A_g0_Logins ((M22.regX x0 a1 a2 a3)).Logins.length c_g0_Logins) := Fx.var_load o_g0v n_g0v 5 _ rfl
  have e_g0v : w7.heap.size < w12.heap.size := Fx.var_lt o_g0v
  have d_w0v_0 : w12.cell? ⟨w3.heap.size, 0, none⟩ = some (.string ((M22.regX x0 a1 a2 a3)).Name) := Fx.var_load o_w0v n_w0v 0 _ rfl
  have d_w0v_1 : w12.cell? ⟨w3.heap.size, 1, none⟩ = some (.slice A_w0_Accounts ((M22.regX x0 a1 a2 a3)).Accounts.length c_w0_Accounts) := Fx.var_load o_w0v n_w0v 1 _ rfl
  have d_w0v_2 : w12.cell? ⟨w3.heap.size, 2, none⟩ = some (.int .i64 ((M22.regX x0 a1 a2 a3)).Book.Seed) := Fx.var_load o_w0v n_w0v 2 _ rfl
  have d_w0v_3 : w12.cell? ⟨w3.heap.size, 3, none⟩ = some (.int .i64 ((M22.regX x0 a1 a2 a3)).Book.Next) := Fx.var_load o_w0v n_w0v 3 _ rfl
  have d_w0v_4 : w12.cell? ⟨w3.heap.size, 4, none⟩ = some (.slice A_w0_Book_Open ((M22.regX x0 a1 a2 a3)).Book.Open.length c_w0_Book_Open) := Fx.var_load o_w0v n_w0v 4 _ rfl
  have d_w0v_5 : w12.cell? ⟨w3.heap.size, 5, none⟩ = some (.slice A_w0_Logins ((M22.regX x0 a1 a2 a3)).Logins.length c_w0_Logins) := Fx.var_load o_w0v n_w0v 5 _ rfl
  have e_w0v : w3.heap.size < w12.heap.size := Fx.var_lt o_w0v
  go_wp2_with fail
  (with_reducible refine (Fx.eqSite _ (M22.regX x0 a1 a2 a3) _ _ (ownsL_rds _ _ _ o_g0) (ownsL_rds _ _ _ o_w0) (by omega)).mono ?_); rintro e w13 ⟨rfl, b13⟩
  clear d_g0v_0 d_g0v_1 d_g0v_2 d_g0v_3 d_g0v_4 d_g0v_5 e_g0v d_w0v_0 d_w0v_1 d_w0v_2 d_w0v_3 d_w0v_4 d_w0v_5 e_w0v
  replace o_p0 := owns_below o_p0 b13
  replace o_w0 := ownsL_below o_w0 b13
  replace o_w0v := owns_below o_w0v b13
  replace o_y0 := ownsL_below o_y0 b13
  replace o_y0v := owns_below o_y0v b13
  replace o_g0 := ownsL_below o_g0 b13
  replace o_g0v := owns_below o_g0v b13
  replace HB := HB.trans (b13.mono HB.size)
  clear o_y0 i_y0 n_y0
  clear o_y0v i_y0v n_y0v
  have d_g0v_0 : w13.cell? ⟨w7.heap.size, 0, none⟩ = some (.string ((M22.regX x0 a1 a2 a3)).Name) := Fx.var_load o_g0v n_g0v 0 _ rfl
  have d_g0v_1 : w13.cell? ⟨w7.heap.size, 1, none⟩ = some (.slice A_g0_Accounts ((M22.regX x0 a1 a2 a3)).Accounts.length c_g0_Accounts) := Fx.var_load o_g0v n_g0v 1 _ rfl
  have d_g0v_2 : w13.cell? ⟨w7.heap.size, 2, none⟩ = some (.int .i64 ((M22.regX x0 a1 a2 a3)).Book.Seed) := Fx.var_load o_g0v n_g0v 2 _ rfl
  have d_g0v_3 : w13.cell? ⟨w7.heap.size, 3, none⟩ = some (.int .i64 ((M22.regX x0 a1 a2 a3)).Book.Next) := Fx.var_load o_g0v n_g0v 3 _ rfl
  have d_g0v_4 : w13.cell? ⟨w7.heap.size, 4, none⟩ = some (.slice A_g0_Book_Open ((M22.regX x0 a1 a2 a3)).Book.Open.length c_g0_Book_Open) := Fx.var_load o_g0v n_g0v 4 _ rfl
  have d_g0v_5 : w13.cell? ⟨w7.heap.size, 5, none⟩ = some (.slice A_g0_Logins ((M22.regX x0 a1 a2 a3)).Logins.length c_g0_Logins) := Fx.var_load o_g0v n_g0v 5 _ rfl
  have e_g0v : w7.heap.size < w13.heap.size := Fx.var_lt o_g0v
  go_wp2_with fail
  (with_reducible refine (Fx.markSite _ _ (M22.regX x0 a1 a2 a3) _ _ _ o_g0 n_g0 (by omega) (by omega) (by omega)).mono ?_); rintro e w14 ⟨rfl, oz, t14⟩
  clear d_g0v_0 d_g0v_1 d_g0v_2 d_g0v_3 d_g0v_4 d_g0v_5 e_g0v
  have z14 := t14.2.2.2.1
  replace o_p0 := owns_turned o_p0 t14 (fun b hb hb2 => by have h1 := i_p0 b hb; have h2 := i_g0 b hb2; omega)
  replace o_w0 := ownsL_turned o_w0 t14 (fun b hb hb2 => by have h1 := i_w0 b hb; have h2 := i_g0 b hb2; omega)
  replace o_w0v := owns_turned o_w0v t14 (fun b hb hb2 => by have h1 := i_w0v b hb; have h2 := i_g0 b hb2; omega)
  replace o_g0v := owns_turned o_g0v t14 (fun b hb hb2 => by have h1 := i_g0v b hb; have h2 := i_g0 b hb2; omega)
  replace HB := below_turned HB t14 (fun b hb => by have h1 := i_g0 b hb; omega)
  replace o_g0 := oz
  clear oz
  have d_g0v_0 : w14.cell? ⟨w7.heap.size, 0, none⟩ = some (.string ((M22.regX x0 a1 a2 a3)).Name) := Fx.var_load o_g0v n_g0v 0 _ rfl
  have d_g0v_1 : w14.cell? ⟨w7.heap.size, 1, none⟩ = some (.slice A_g0_Accounts ((M22.regX x0 a1 a2 a3)).Accounts.length c_g0_Accounts) := Fx.var_load o_g0v n_g0v 1 _ rfl
  have d_g0v_2 : w14.cell? ⟨w7.heap.size, 2, none⟩ = some (.int .i64 ((M22.regX x0 a1 a2 a3)).Book.Seed) := Fx.var_load o_g0v n_g0v 2 _ rfl
  have d_g0v_3 : w14.cell? ⟨w7.heap.size, 3, none⟩ = some (.int .i64 ((M22.regX x0 a1 a2 a3)).Book.Next) := Fx.var_load o_g0v n_g0v 3 _ rfl
  have d_g0v_4 : w14.cell? ⟨w7.heap.size, 4, none⟩ = some (.slice A_g0_Book_Open ((M22.regX x0 a1 a2 a3)).Book.Open.length c_g0_Book_Open) := Fx.var_load o_g0v n_g0v 4 _ rfl
  have d_g0v_5 : w14.cell? ⟨w7.heap.size, 5, none⟩ = some (.slice A_g0_Logins ((M22.regX x0 a1 a2 a3)).Logins.length c_g0_Logins) := Fx.var_load o_g0v n_g0v 5 _ rfl
  have e_g0v : w7.heap.size < w14.heap.size := Fx.var_lt o_g0v
  go_wp2_with fail
  (with_reducible refine (Fx.heldSite _ (M22.regX x0 a1 a2 a3) _ _ (ownsL_rds _ _ _ o_g0) (by omega) (by omega) (by omega)).mono ?_); rintro e w15 ⟨rfl, b15⟩
  clear d_g0v_0 d_g0v_1 d_g0v_2 d_g0v_3 d_g0v_4 d_g0v_5 e_g0v
  replace o_p0 := owns_below o_p0 b15
  replace o_w0 := ownsL_below o_w0 b15
  replace o_w0v := owns_below o_w0v b15
  replace o_g0 := ownsL_below o_g0 b15
  replace o_g0v := owns_below o_g0v b15
  replace HB := HB.trans (b15.mono HB.size)
  have d_p0_0 : w15.cell? ⟨W.heap.size, 0, none⟩ = some (.string (x0).Name) := Fx.var_load o_p0 n_p0 0 _ rfl
  have d_p0_1 : w15.cell? ⟨W.heap.size, 1, none⟩ = some (.slice A_p0_Accounts (x0).Accounts.length c_p0_Accounts) := Fx.var_load o_p0 n_p0 1 _ rfl
  have d_p0_2 : w15.cell? ⟨W.heap.size, 2, none⟩ = some (.int .i64 (x0).Book.Seed) := Fx.var_load o_p0 n_p0 2 _ rfl
  have d_p0_3 : w15.cell? ⟨W.heap.size, 3, none⟩ = some (.int .i64 (x0).Book.Next) := Fx.var_load o_p0 n_p0 3 _ rfl
  have d_p0_4 : w15.cell? ⟨W.heap.size, 4, none⟩ = some (.slice A_p0_Book_Open (x0).Book.Open.length c_p0_Book_Open) := Fx.var_load o_p0 n_p0 4 _ rfl
  have d_p0_5 : w15.cell? ⟨W.heap.size, 5, none⟩ = some (.slice A_p0_Logins (x0).Logins.length c_p0_Logins) := Fx.var_load o_p0 n_p0 5 _ rfl
  have e_p0 : W.heap.size < w15.heap.size := Fx.var_lt o_p0
  go_wp2_with fail
  (with_reducible refine (Fx.toSite _ x0 _ (rdsL_on H0.out HB) (by omega)).mono ?_); rintro e w16 ⟨v_ch0, s_ch0, rfl, o_ch0, n_ch0, b16⟩
  clear d_p0_0 d_p0_1 d_p0_2 d_p0_3 d_p0_4 d_p0_5 e_p0
  replace o_p0 := owns_below o_p0 b16
  replace o_w0 := ownsL_below o_w0 b16
  replace o_w0v := owns_below o_w0v b16
  replace o_g0 := ownsL_below o_g0 b16
  replace o_g0v := owns_below o_g0v b16
  replace HB := HB.trans (b16.mono HB.size)
  have i_ch0 := Fx.madeL_in o_ch0
  obtain ⟨A_ch0_Accounts, c_ch0_Accounts, _, A_ch0_Book_Open, c_ch0_Book_Open, _, A_ch0_Logins, c_ch0_Logins, _, rfl, -, -, -, -⟩ := Fx.Site.owns o_ch0
  go_wp2_with fail
  (with_reducible refine (C15z.implReg _ x0 _ (E0.ownsL_shsL _ _ _ o_ch0) (by omega) (by omega) (by omega) (by omega) ho0 a1 a2 a3 (by omega) (by omega) (by omega) (by omega)).mono ?_); rintro e w17 ⟨v_h0, s_h0, rfl, o_h0, n_h0, b17⟩
  replace o_p0 := owns_below o_p0 b17
  replace o_w0 := ownsL_below o_w0 b17
  replace o_w0v := owns_below o_w0v b17
  replace o_g0 := ownsL_below o_g0 b17
  replace o_g0v := owns_below o_g0v b17
  replace o_ch0 := ownsL_below o_ch0 b17
  replace HB := HB.trans (b17.mono HB.size)
  have i_h0 := Fx.madeL_in o_h0
  obtain ⟨A_h0_Accounts, c_h0_Accounts, _, A_h0_Book_Open, c_h0_Book_Open, _, A_h0_Logins, c_h0_Logins, _, rfl, -, -, -, -⟩ := Fx.Site.owns o_h0
  clear o_ch0 i_ch0 n_ch0
  have d_p0_0 : w17.cell? ⟨W.heap.size, 0, none⟩ = some (.string (x0).Name) := Fx.var_load o_p0 n_p0 0 _ rfl
  have d_p0_1 : w17.cell? ⟨W.heap.size, 1, none⟩ = some (.slice A_p0_Accounts (x0).Accounts.length c_p0_Accounts) := Fx.var_load o_p0 n_p0 1 _ rfl
  have d_p0_2 : w17.cell? ⟨W.heap.size, 2, none⟩ = some (.int .i64 (x0).Book.Seed) := Fx.var_load o_p0 n_p0 2 _ rfl
  have d_p0_3 : w17.cell? ⟨W.heap.size, 3, none⟩ = some (.int .i64 (x0).Book.Next) := Fx.var_load o_p0 n_p0 3 _ rfl
  have d_p0_4 : w17.cell? ⟨W.heap.size, 4, none⟩ = some (.slice A_p0_Book_Open (x0).Book.Open.length c_p0_Book_Open) := Fx.var_load o_p0 n_p0 4 _ rfl
  have d_p0_5 : w17.cell? ⟨W.heap.size, 5, none⟩ = some (.slice A_p0_Logins (x0).Logins.length c_p0_Logins) := Fx.var_load o_p0 n_p0 5 _ rfl
  have e_p0 : W.heap.size < w17.heap.size := Fx.var_lt o_p0
  have d_w0v_0 : w17.cell? ⟨w3.heap.size, 0, none⟩ = some (.string ((M22.regX x0 a1 a2 a3)).Name) := Fx.var_load o_w0v n_w0v 0 _ rfl
  have d_w0v_1 : w17.cell? ⟨w3.heap.size, 1, none⟩ = some (.slice A_w0_Accounts ((M22.regX x0 a1 a2 a3)).Accounts.length c_w0_Accounts) := Fx.var_load o_w0v n_w0v 1 _ rfl
  have d_w0v_2 : w17.cell? ⟨w3.heap.size, 2, none⟩ = some (.int .i64 ((M22.regX x0 a1 a2 a3)).Book.Seed) := Fx.var_load o_w0v n_w0v 2 _ rfl
  have d_w0v_3 : w17.cell? ⟨w3.heap.size, 3, none⟩ = some (.int .i64 ((M22.regX x0 a1 a2 a3)).Book.Next) := Fx.var_load o_w0v n_w0v 3 _ rfl
  have d_w0v_4 : w17.cell? ⟨w3.heap.size, 4, none⟩ = some (.slice A_w0_Book_Open ((M22.regX x0 a1 a2 a3)).Book.Open.length c_w0_Book_Open) := Fx.var_load o_w0v n_w0v 4 _ rfl
  have d_w0v_5 : w17.cell? ⟨w3.heap.size, 5, none⟩ = some (.slice A_w0_Logins ((M22.regX x0 a1 a2 a3)).Logins.length c_w0_Logins) := Fx.var_load o_w0v n_w0v 5 _ rfl
  have e_w0v : w3.heap.size < w17.heap.size := Fx.var_lt o_w0v
  have d_g0v_0 : w17.cell? ⟨w7.heap.size, 0, none⟩ = some (.string ((M22.regX x0 a1 a2 a3)).Name) := Fx.var_load o_g0v n_g0v 0 _ rfl
  have d_g0v_1 : w17.cell? ⟨w7.heap.size, 1, none⟩ = some (.slice A_g0_Accounts ((M22.regX x0 a1 a2 a3)).Accounts.length c_g0_Accounts) := Fx.var_load o_g0v n_g0v 1 _ rfl
  have d_g0v_2 : w17.cell? ⟨w7.heap.size, 2, none⟩ = some (.int .i64 ((M22.regX x0 a1 a2 a3)).Book.Seed) := Fx.var_load o_g0v n_g0v 2 _ rfl
  have d_g0v_3 : w17.cell? ⟨w7.heap.size, 3, none⟩ = some (.int .i64 ((M22.regX x0 a1 a2 a3)).Book.Next) := Fx.var_load o_g0v n_g0v 3 _ rfl
  have d_g0v_4 : w17.cell? ⟨w7.heap.size, 4, none⟩ = some (.slice A_g0_Book_Open ((M22.regX x0 a1 a2 a3)).Book.Open.length c_g0_Book_Open) := Fx.var_load o_g0v n_g0v 4 _ rfl
  have d_g0v_5 : w17.cell? ⟨w7.heap.size, 5, none⟩ = some (.slice A_g0_Logins ((M22.regX x0 a1 a2 a3)).Logins.length c_g0_Logins) := Fx.var_load o_g0v n_g0v 5 _ rfl
  have e_g0v : w7.heap.size < w17.heap.size := Fx.var_lt o_g0v
  go_wp2_with fail
  clear d_p0_0 d_p0_1 d_p0_2 d_p0_3 d_p0_4 d_p0_5 e_p0 d_w0v_0 d_w0v_1 d_w0v_2 d_w0v_3 d_w0v_4 d_w0v_5 e_w0v d_g0v_0 d_g0v_1 d_g0v_2 d_g0v_3 d_g0v_4 d_g0v_5 e_g0v
  obtain ⟨w18, hw18⟩ : ∃ y, y = w17.alloc (.cells #[.string ((M22.regX x0 a1 a2 a3)).Name, .slice A_h0_Accounts ((M22.regX x0 a1 a2 a3)).Accounts.length c_h0_Accounts, .int .i64 ((M22.regX x0 a1 a2 a3)).Book.Seed, .int .i64 ((M22.regX x0 a1 a2 a3)).Book.Next, .slice A_h0_Book_Open ((M22.regX x0 a1 a2 a3)).Book.Open.length c_h0_Book_Open, .slice A_h0_Logins ((M22.regX x0 a1 a2 a3)).Logins.length c_h0_Logins] 35) := ⟨_, rfl⟩
  have o_h0v := Fx.var_owns w17 35 6 [.string ((M22.regX x0 a1 a2 a3)).Name, .slice A_h0_Accounts ((M22.regX x0 a1 a2 a3)).Accounts.length c_h0_Accounts, .int .i64 ((M22.regX x0 a1 a2 a3)).Book.Seed, .int .i64 ((M22.regX x0 a1 a2 a3)).Book.Next, .slice A_h0_Book_Open ((M22.regX x0 a1 a2 a3)).Book.Open.length c_h0_Book_Open, .slice A_h0_Logins ((M22.regX x0 a1 a2 a3)).Logins.length c_h0_Logins] rfl
  have b18 : Below w17.heap.size w17 w18 := hw18 ▸ (Below.refl _ _).alloc (Nat.le_refl _) _
  rw [← hw18] at o_h0v ⊢
  clear hw18
  replace o_p0 := owns_below o_p0 b18
  replace o_w0 := ownsL_below o_w0 b18
  replace o_w0v := owns_below o_w0v b18
  replace o_g0 := ownsL_below o_g0 b18
  replace o_g0v := owns_below o_g0v b18
  replace o_h0 := ownsL_below o_h0 b18
  replace HB := HB.trans (b18.mono HB.size)
  have n_h0v : [w17.heap.size].Nodup := by simp
  have i_h0v := Fx.made_in o_h0v
  (with_reducible refine (Fx.eqSite _ (M22.regX x0 a1 a2 a3) _ _ (ownsL_rds _ _ _ o_h0) (ownsL_rds _ _ _ o_w0) (by omega)).mono ?_); rintro e w19 ⟨rfl, b19⟩
  replace o_p0 := owns_below o_p0 b19
  replace o_w0 := ownsL_below o_w0 b19
  replace o_w0v := owns_below o_w0v b19
  replace o_g0 := ownsL_below o_g0 b19
  replace o_g0v := owns_below o_g0v b19
  replace o_h0 := ownsL_below o_h0 b19
  replace o_h0v := owns_below o_h0v b19
  replace HB := HB.trans (b19.mono HB.size)
  have d_g0v_0 : w19.cell? ⟨w7.heap.size, 0, none⟩ = some (.string ((M22.regX x0 a1 a2 a3)).Name) := Fx.var_load o_g0v n_g0v 0 _ rfl
  have d_g0v_1 : w19.cell? ⟨w7.heap.size, 1, none⟩ = some (.slice A_g0_Accounts ((M22.regX x0 a1 a2 a3)).Accounts.length c_g0_Accounts) := Fx.var_load o_g0v n_g0v 1 _ rfl
  have d_g0v_2 : w19.cell? ⟨w7.heap.size, 2, none⟩ = some (.int .i64 ((M22.regX x0 a1 a2 a3)).Book.Seed) := Fx.var_load o_g0v n_g0v 2 _ rfl
  have d_g0v_3 : w19.cell? ⟨w7.heap.size, 3, none⟩ = some (.int .i64 ((M22.regX x0 a1 a2 a3)).Book.Next) := Fx.var_load o_g0v n_g0v 3 _ rfl
  have d_g0v_4 : w19.cell? ⟨w7.heap.size, 4, none⟩ = some (.slice A_g0_Book_Open ((M22.regX x0 a1 a2 a3)).Book.Open.length c_g0_Book_Open) := Fx.var_load o_g0v n_g0v 4 _ rfl
  have d_g0v_5 : w19.cell? ⟨w7.heap.size, 5, none⟩ = some (.slice A_g0_Logins ((M22.regX x0 a1 a2 a3)).Logins.length c_g0_Logins) := Fx.var_load o_g0v n_g0v 5 _ rfl
  have e_g0v : w7.heap.size < w19.heap.size := Fx.var_lt o_g0v
  go_wp2_with fail
  (with_reducible refine (Fx.heldSite _ (M22.regX x0 a1 a2 a3) _ _ (ownsL_rds _ _ _ o_g0) (by omega) (by omega) (by omega)).mono ?_); rintro e w20 ⟨rfl, b20⟩
  clear d_g0v_0 d_g0v_1 d_g0v_2 d_g0v_3 d_g0v_4 d_g0v_5 e_g0v
  replace o_p0 := owns_below o_p0 b20
  replace o_w0 := ownsL_below o_w0 b20
  replace o_w0v := owns_below o_w0v b20
  replace o_g0 := ownsL_below o_g0 b20
  replace o_g0v := owns_below o_g0v b20
  replace o_h0 := ownsL_below o_h0 b20
  replace o_h0v := owns_below o_h0v b20
  replace HB := HB.trans (b20.mono HB.size)
  go_wp2
  go_ret
  exact ⟨rfl, HB⟩

set_option maxRecDepth 100000 in
theorem contract (H : Type) (enc : TypeId × Value → H) (W : World) (base : Nat) (args : Array Value) (ds gs : List (DataW H)) (before : List MemPlace)
    (hval : ∀ (j : Nat) t v, Tryz.f3.params[j]? = some t → args[j]? = some v → Value.okWide Tryz.prog W .any base t v)
    (hW : DataW.Whole enc Tryz.prog Tryz.f3.params.toList Rows.fnExactRegisterKeySpec.vars false W args.toList ds gs before) :
    Calls Tryz.prog 3 args W fun e W' => ∃ v, e = .returned v ∧ Rows.fnExactRegisterKeySpec.post enc Tryz.prog Tryz.f3 false true false false W args v W' := by
  have hW' := hW
  obtain ⟨p, q, hA0, hV, rfl, hfz, hnd⟩ := hW
  have hA : DataW.TrodAll enc Tryz.prog W 0 (fun _ => true) true Tryz.f3.params.toList args.toList ds p := hA0
  rw [Tryz.params3] at hA hval
  obtain ⟨v0, vs0, d0, ds0, p0, q0, hargs, rfl, rfl, h0, r0⟩ := trodAll_cons hA
  obtain ⟨v1, vs1, d1, ds1, p1, q1, rfl, rfl, rfl, h1, r1⟩ := trodAll_cons r0
  obtain ⟨v2, vs2, d2, ds2, p2, q2, rfl, rfl, rfl, h2, r2⟩ := trodAll_cons r1
  obtain ⟨v3, vs3, d3, ds3, p3, q3, rfl, rfl, rfl, h3, r3⟩ := trodAll_cons r2
  obtain ⟨rfl, rfl, rfl⟩ := trodAll_nil r3
  obtain rfl : args = #[v0, v1, v2, v3] := by cases args; simp_all
  obtain ⟨rfl, rfl⟩ := trodVars_none hV
  obtain ⟨a1, rfl, rfl, rfl, w1⟩ := open_int Tryz.underlying3 (hval 1 3 v1 rfl rfl) h1
  obtain ⟨a2, rfl, rfl, rfl, w2⟩ := open_int Tryz.underlying3 (hval 2 3 v2 rfl rfl) h2
  obtain ⟨a3, rfl, rfl, rfl, w3⟩ := open_int Tryz.underlying3 (hval 3 3 v3 rfl rfl) h3
  clear hA0
  refine Fr.closeLaw rfl (by kernel_rfl) (by rw [Tryz.params3]; decide) hW' rfl ?_
  exact walk v0 a1 w1 a2 w2 a3 w3 W (hval 0 28 v0 rfl rfl) h0

set_option maxRecDepth 100000 in
theorem reads (os : Os) {H : Type} (enc : TypeId × Value → H) : ∃ places, DataW.whole enc Tryz.prog ((World.holding Tryz.prog os ⟨#[], #[], []⟩).forCall (fun _ _ => 0) ⟨#[], #[.agg #[.string ⟨#[]⟩, .slice none 0 0, .int .i64 0, .int .i64 0, .slice none 0 0, .slice none 0 0], .int .i64 0, .int .i64 0, .int .i64 0], []⟩).memory Tryz.f3.params.toList Rows.fnExactRegisterKeySpec.vars false (#[.agg #[.string ⟨#[]⟩, .slice none 0 0, .int .i64 0, .int .i64 0, .slice none 0 0, .slice none 0 0], .int .i64 0, .int .i64 0, .int .i64 0] : Array Value).toList 8 = some ([.agg [.lit (.string []), .nil, .agg [.lit (.int .i64 0), .lit (.int .i64 0), .nil], .nil], .lit (.int .i64 0), .lit (.int .i64 0), .lit (.int .i64 0)], [], places) :=
  ⟨[], by kernel_rfl⟩
set_option maxRecDepth 100000 in
theorem lifted (os : Os) (started : os.Started) (H : Type) (enc : TypeId × Value → H) (F : Stop.Interp) :
    ReturnsInHanded {} Tryz.checked os 3 .any ((OpenSpec.ofChange Rows.fnExactRegisterKeySpec).preRow enc Tryz.prog Tryz.f3 Rows.fnExactRegisterKeyRow.domain false Rows.fnExactRegisterKeyRow.laid) (((OpenSpec.ofChange Rows.fnExactRegisterKeySpec).at F).post enc Tryz.prog Tryz.f3 false true false false) := by
  obtain ⟨places, hx⟩ := reads os enc
  refine returnsInHanded_of_row (C := Tryz.checked) (s := OpenSpec.ofChange Rows.fnExactRegisterKeySpec) Fr.own started (by kernel_rfl) Tryz.func3
    (witness_row_atRef (enc := enc) (C := Tryz.checked) false (World.holding Tryz.prog os ⟨#[], #[], []⟩) #[.agg #[.string ⟨#[]⟩, .slice none 0 0, .int .i64 0, .int .i64 0, .slice none 0 0, .slice none 0 0], .int .i64 0, .int .i64 0, .int .i64 0] rfl (by kernel_rfl) (by kernel_rfl) (by kernel_rfl)
      (OpenSpec.preRow_of_cond 8 hx (by kernel_rfl) (fun k hk => by cases hk) (by kernel_rfl) (laidMetH_nil _ _))) ?_
  intro W base args ds gs before hval hW _ hcond _ hL _ _
  exact contract H enc W base args ds gs before hval hW
set_option maxRecDepth 100000 in
theorem said : Rows.FnExactRegisterKeySaid :=
  OpenClaim.holds_of_cond 3 Tryz.f3 rfl rfl rfl rfl rfl rfl rfl ⟨rfl, rfl, rfl, rfl, rfl⟩ rfl rfl rfl rfl rfl (by kernel_rfl) Tryz.func3 (by kernel_rfl)
    (of_decide_eq_true (by kernel_rfl)) (by unfold Func.isWrapper; first | (rw [if_pos (by decide +kernel)]; kernel_rfl) | (rw [if_neg (by decide +kernel)]; exact ⟨rfl, rfl⟩))
    (fun os started H enc _ F => by rw [OpenClaim.pre_eq_preRow]; exact lifted os started H enc F)
theorem proved : Rows.FnExactRegisterKeySaid := said
#print axioms proved
end Go.Proofs.YtllaacdikjffmaaGreat.fnExactRegisterKey
