/-
  laws.FnExactNewSite returns true at every argument, and leaves what came in as it was: the program's NewSite answers as the model's (slices of more than 1048576 elements are passed over by the law itself). Conditions: none.
-/
import Derived.Test.YtckplhmielckeaaBa
import Derived.Stop.Joined
import Derived.Test.YtckplhmielckeaaBb
import Derived.Test.YtckplhmielckeaaYSite
import Derived.Test.YtckplhmielckeaaM21
import Derived.Test.YtckplhmielckeaaC15s
import Derived.Test.YtckplhmielckeaaC15i
import Derived.Test.YtckplhmielckeaaC15x
namespace Go.Proofs.Ytckplhmielckeaa.fnExactNewSite
open Go.ChangeShapes Go.WideShapes Go.ChangeAt Go.RowKit
set_option linter.unusedVariables false

open S0 S9 Dm in
set_option maxHeartbeats 8000000 in
set_option maxRecDepth 100000 in
theorem walk (s0 : ByteArray) (hs0 : s0.size ≤ maxLen) (a1 : Int) (u1 : (Lit.int .i64 a1).wf = true) (W : World)  :
    Calls Try.prog 3 #[.string s0, .int .i64 a1] W fun e w' => e = .returned (.bool true) ∧ Below W.heap.size W w' := by
  have hu1 := M1.i64_wf u1
  clear u1
  have hwr0 := Nat.le_of_eq (Fx.Site.wt (M21.newX s0 a1))
  have hws0 := Nat.le_of_eq (Fx.Site.wt (M21.newX s0 a1)).symm
  have hcr0 := Fx.cntTb_Site (M21.newX s0 a1)
  have hlr0 := C15x.new_name_le s0 a1
  have hlr1 := (C15x.new_wts s0 a1).1
  have hlr2 := (C15x.new_wts s0 a1).2.1
  have hlr3 := (C15x.new_wts s0 a1).2.2
  have HB : Below W.heap.size W W := Below.refl _ _
  by_cases big0 : 1048576 < s0.size
  · go_enter Try.func3, Try.ntmps3
    go_wp2
    go_ret
    exact ⟨rfl, Below.refl _ _⟩
  go_enter Try.func3, Try.ntmps3
  go_wp2_with fail
  (with_reducible refine (C15x.specNew _ s0 a1 (by omega)).mono ?_); rintro e w1 ⟨v_w0, s_w0, rfl, o_w0, n_w0, b1⟩
  replace HB := HB.trans (b1.mono HB.size)
  have i_w0 := Fx.madeL_in o_w0
  obtain ⟨A_w0_Accounts, c_w0_Accounts, _, A_w0_Book_Open, c_w0_Book_Open, _, A_w0_Logins, c_w0_Logins, _, rfl, -, -, -, -⟩ := Fx.Site.owns o_w0
  go_wp2_with fail
  obtain ⟨w2, hw2⟩ : ∃ y, y = w1.alloc (.cells #[.string ((M21.newX s0 a1)).Name, .slice A_w0_Accounts ((M21.newX s0 a1)).Accounts.length c_w0_Accounts, .int .i64 ((M21.newX s0 a1)).Book.Seed, .int .i64 ((M21.newX s0 a1)).Book.Next, .slice A_w0_Book_Open ((M21.newX s0 a1)).Book.Open.length c_w0_Book_Open, .slice A_w0_Logins ((M21.newX s0 a1)).Logins.length c_w0_Logins] 28) := ⟨_, rfl⟩
  have o_w0v := Fx.var_owns w1 28 6 [.string ((M21.newX s0 a1)).Name, .slice A_w0_Accounts ((M21.newX s0 a1)).Accounts.length c_w0_Accounts, .int .i64 ((M21.newX s0 a1)).Book.Seed, .int .i64 ((M21.newX s0 a1)).Book.Next, .slice A_w0_Book_Open ((M21.newX s0 a1)).Book.Open.length c_w0_Book_Open, .slice A_w0_Logins ((M21.newX s0 a1)).Logins.length c_w0_Logins] rfl
  have b2 : Below w1.heap.size w1 w2 := hw2 ▸ (Below.refl _ _).alloc (Nat.le_refl _) _
  rw [← hw2] at o_w0v ⊢
  clear hw2
  replace o_w0 := ownsL_below o_w0 b2
  replace HB := HB.trans (b2.mono HB.size)
  have n_w0v : [w1.heap.size].Nodup := by simp
  have i_w0v := Fx.made_in o_w0v
  (with_reducible refine (C15x.implNew _ s0 a1 (by omega)).mono ?_); rintro e w3 ⟨v_g0, s_g0, rfl, o_g0, n_g0, b3⟩
  replace o_w0 := ownsL_below o_w0 b3
  replace o_w0v := owns_below o_w0v b3
  replace HB := HB.trans (b3.mono HB.size)
  have i_g0 := Fx.madeL_in o_g0
  obtain ⟨A_g0_Accounts, c_g0_Accounts, _, A_g0_Book_Open, c_g0_Book_Open, _, A_g0_Logins, c_g0_Logins, _, rfl, -, -, -, -⟩ := Fx.Site.owns o_g0
  have d_w0v_0 : w3.cell? ⟨w1.heap.size, 0, none⟩ = some (.string ((M21.newX s0 a1)).Name) := Fx.var_load o_w0v n_w0v 0 _ rfl
  have d_w0v_1 : w3.cell? ⟨w1.heap.size, 1, none⟩ = some (.slice A_w0_Accounts ((M21.newX s0 a1)).Accounts.length c_w0_Accounts) := Fx.var_load o_w0v n_w0v 1 _ rfl
  have d_w0v_2 : w3.cell? ⟨w1.heap.size, 2, none⟩ = some (.int .i64 ((M21.newX s0 a1)).Book.Seed) := Fx.var_load o_w0v n_w0v 2 _ rfl
  have d_w0v_3 : w3.cell? ⟨w1.heap.size, 3, none⟩ = some (.int .i64 ((M21.newX s0 a1)).Book.Next) := Fx.var_load o_w0v n_w0v 3 _ rfl
  have d_w0v_4 : w3.cell? ⟨w1.heap.size, 4, none⟩ = some (.slice A_w0_Book_Open ((M21.newX s0 a1)).Book.Open.length c_w0_Book_Open) := Fx.var_load o_w0v n_w0v 4 _ rfl
  have d_w0v_5 : w3.cell? ⟨w1.heap.size, 5, none⟩ = some (.slice A_w0_Logins ((M21.newX s0 a1)).Logins.length c_w0_Logins) := Fx.var_load o_w0v n_w0v 5 _ rfl
  have e_w0v : w1.heap.size < w3.heap.size := Fx.var_lt o_w0v
  go_wp2_with fail
  clear d_w0v_0 d_w0v_1 d_w0v_2 d_w0v_3 d_w0v_4 d_w0v_5 e_w0v
  obtain ⟨w4, hw4⟩ : ∃ y, y = w3.alloc (.cells #[.string ((M21.newX s0 a1)).Name, .slice A_g0_Accounts ((M21.newX s0 a1)).Accounts.length c_g0_Accounts, .int .i64 ((M21.newX s0 a1)).Book.Seed, .int .i64 ((M21.newX s0 a1)).Book.Next, .slice A_g0_Book_Open ((M21.newX s0 a1)).Book.Open.length c_g0_Book_Open, .slice A_g0_Logins ((M21.newX s0 a1)).Logins.length c_g0_Logins] 28) := ⟨_, rfl⟩
  have o_g0v := Fx.var_owns w3 28 6 [.string ((M21.newX s0 a1)).Name, .slice A_g0_Accounts ((M21.newX s0 a1)).Accounts.length c_g0_Accounts, .int .i64 ((M21.newX s0 a1)).Book.Seed, .int .i64 ((M21.newX s0 a1)).Book.Next, .slice A_g0_Book_Open ((M21.newX s0 a1)).Book.Open.length c_g0_Book_Open, .slice A_g0_Logins ((M21.newX s0 a1)).Logins.length c_g0_Logins] rfl
  have b4 : Below w3.heap.size w3 w4 := hw4 ▸ (Below.refl _ _).alloc (Nat.le_refl _) _
  rw [← hw4] at o_g0v ⊢
  clear hw4
  replace o_w0 := ownsL_below o_w0 b4
  replace o_w0v := owns_below o_w0v b4
  replace o_g0 := ownsL_below o_g0 b4
  replace HB := HB.trans (b4.mono HB.size)
  have n_g0v : [w3.heap.size].Nodup := by simp
  have i_g0v := Fx.made_in o_g0v
  (with_reducible refine (Fx.eqSite _ (M21.newX s0 a1) _ _ (ownsL_rds _ _ _ o_g0) (ownsL_rds _ _ _ o_w0) (by omega)).mono ?_); rintro e w5 ⟨rfl, b5⟩
  replace o_w0 := ownsL_below o_w0 b5
  replace o_w0v := owns_below o_w0v b5
  replace o_g0 := ownsL_below o_g0 b5
  replace o_g0v := owns_below o_g0v b5
  replace HB := HB.trans (b5.mono HB.size)
  have z1 := b1.size
  have z2 := b2.size
  have z3 := b3.size
  have z4 := b4.size
  have z5 := b5.size
  have d_g0v_0 : w5.cell? ⟨w3.heap.size, 0, none⟩ = some (.string ((M21.newX s0 a1)).Name) := Fx.var_load o_g0v n_g0v 0 _ rfl
  have d_g0v_1 : w5.cell? ⟨w3.heap.size, 1, none⟩ = some (.slice A_g0_Accounts ((M21.newX s0 a1)).Accounts.length c_g0_Accounts) := Fx.var_load o_g0v n_g0v 1 _ rfl
  have d_g0v_2 : w5.cell? ⟨w3.heap.size, 2, none⟩ = some (.int .i64 ((M21.newX s0 a1)).Book.Seed) := Fx.var_load o_g0v n_g0v 2 _ rfl
  have d_g0v_3 : w5.cell? ⟨w3.heap.size, 3, none⟩ = some (.int .i64 ((M21.newX s0 a1)).Book.Next) := Fx.var_load o_g0v n_g0v 3 _ rfl
  have d_g0v_4 : w5.cell? ⟨w3.heap.size, 4, none⟩ = some (.slice A_g0_Book_Open ((M21.newX s0 a1)).Book.Open.length c_g0_Book_Open) := Fx.var_load o_g0v n_g0v 4 _ rfl
  have d_g0v_5 : w5.cell? ⟨w3.heap.size, 5, none⟩ = some (.slice A_g0_Logins ((M21.newX s0 a1)).Logins.length c_g0_Logins) := Fx.var_load o_g0v n_g0v 5 _ rfl
  have e_g0v : w3.heap.size < w5.heap.size := Fx.var_lt o_g0v
  go_wp2_with fail
  (with_reducible refine (Fx.markSite _ _ (M21.newX s0 a1) _ _ _ o_g0 n_g0 (by omega) (by omega) (by omega)).mono ?_); rintro e w6 ⟨rfl, oz, t6⟩
  clear d_g0v_0 d_g0v_1 d_g0v_2 d_g0v_3 d_g0v_4 d_g0v_5 e_g0v
  have z6 := t6.2.2.2.1
  replace o_w0 := ownsL_turned o_w0 t6 (fun b hb hb2 => by have h1 := i_w0 b hb; have h2 := i_g0 b hb2; omega)
  replace o_w0v := owns_turned o_w0v t6 (fun b hb hb2 => by have h1 := i_w0v b hb; have h2 := i_g0 b hb2; omega)
  replace o_g0v := owns_turned o_g0v t6 (fun b hb hb2 => by have h1 := i_g0v b hb; have h2 := i_g0 b hb2; omega)
  replace HB := below_turned HB t6 (fun b hb => by have h1 := i_g0 b hb; omega)
  replace o_g0 := oz
  clear oz
  have d_g0v_0 : w6.cell? ⟨w3.heap.size, 0, none⟩ = some (.string ((M21.newX s0 a1)).Name) := Fx.var_load o_g0v n_g0v 0 _ rfl
  have d_g0v_1 : w6.cell? ⟨w3.heap.size, 1, none⟩ = some (.slice A_g0_Accounts ((M21.newX s0 a1)).Accounts.length c_g0_Accounts) := Fx.var_load o_g0v n_g0v 1 _ rfl
  have d_g0v_2 : w6.cell? ⟨w3.heap.size, 2, none⟩ = some (.int .i64 ((M21.newX s0 a1)).Book.Seed) := Fx.var_load o_g0v n_g0v 2 _ rfl
  have d_g0v_3 : w6.cell? ⟨w3.heap.size, 3, none⟩ = some (.int .i64 ((M21.newX s0 a1)).Book.Next) := Fx.var_load o_g0v n_g0v 3 _ rfl
  have d_g0v_4 : w6.cell? ⟨w3.heap.size, 4, none⟩ = some (.slice A_g0_Book_Open ((M21.newX s0 a1)).Book.Open.length c_g0_Book_Open) := Fx.var_load o_g0v n_g0v 4 _ rfl
  have d_g0v_5 : w6.cell? ⟨w3.heap.size, 5, none⟩ = some (.slice A_g0_Logins ((M21.newX s0 a1)).Logins.length c_g0_Logins) := Fx.var_load o_g0v n_g0v 5 _ rfl
  have e_g0v : w3.heap.size < w6.heap.size := Fx.var_lt o_g0v
  go_wp2_with fail
  (with_reducible refine (Fx.heldSite _ (M21.newX s0 a1) _ _ (ownsL_rds _ _ _ o_g0) (by omega) (by omega) (by omega)).mono ?_); rintro e w7 ⟨rfl, b7⟩
  clear d_g0v_0 d_g0v_1 d_g0v_2 d_g0v_3 d_g0v_4 d_g0v_5 e_g0v
  replace o_w0 := ownsL_below o_w0 b7
  replace o_w0v := owns_below o_w0v b7
  replace o_g0 := ownsL_below o_g0 b7
  replace o_g0v := owns_below o_g0v b7
  replace HB := HB.trans (b7.mono HB.size)
  go_wp2_with fail
  (with_reducible refine (C15x.implNew _ s0 a1 (by omega)).mono ?_); rintro e w8 ⟨v_h0, s_h0, rfl, o_h0, n_h0, b8⟩
  replace o_w0 := ownsL_below o_w0 b8
  replace o_w0v := owns_below o_w0v b8
  replace o_g0 := ownsL_below o_g0 b8
  replace o_g0v := owns_below o_g0v b8
  replace HB := HB.trans (b8.mono HB.size)
  have i_h0 := Fx.madeL_in o_h0
  obtain ⟨A_h0_Accounts, c_h0_Accounts, _, A_h0_Book_Open, c_h0_Book_Open, _, A_h0_Logins, c_h0_Logins, _, rfl, -, -, -, -⟩ := Fx.Site.owns o_h0
  have d_w0v_0 : w8.cell? ⟨w1.heap.size, 0, none⟩ = some (.string ((M21.newX s0 a1)).Name) := Fx.var_load o_w0v n_w0v 0 _ rfl
  have d_w0v_1 : w8.cell? ⟨w1.heap.size, 1, none⟩ = some (.slice A_w0_Accounts ((M21.newX s0 a1)).Accounts.length c_w0_Accounts) := Fx.var_load o_w0v n_w0v 1 _ rfl
  have d_w0v_2 : w8.cell? ⟨w1.heap.size, 2, none⟩ = some (.int .i64 ((M21.newX s0 a1)).Book.Seed) := Fx.var_load o_w0v n_w0v 2 _ rfl
  have d_w0v_3 : w8.cell? ⟨w1.heap.size, 3, none⟩ = some (.int .i64 ((M21.newX s0 a1)).Book.Next) := Fx.var_load o_w0v n_w0v 3 _ rfl
  have d_w0v_4 : w8.cell? ⟨w1.heap.size, 4, none⟩ = some (.slice A_w0_Book_Open ((M21.newX s0 a1)).Book.Open.length c_w0_Book_Open) := Fx.var_load o_w0v n_w0v 4 _ rfl
  have d_w0v_5 : w8.cell? ⟨w1.heap.size, 5, none⟩ = some (.slice A_w0_Logins ((M21.newX s0 a1)).Logins.length c_w0_Logins) := Fx.var_load o_w0v n_w0v 5 _ rfl
  have e_w0v : w1.heap.size < w8.heap.size := Fx.var_lt o_w0v
  have d_g0v_0 : w8.cell? ⟨w3.heap.size, 0, none⟩ = some (.string ((M21.newX s0 a1)).Name) := Fx.var_load o_g0v n_g0v 0 _ rfl
  have d_g0v_1 : w8.cell? ⟨w3.heap.size, 1, none⟩ = some (.slice A_g0_Accounts ((M21.newX s0 a1)).Accounts.length c_g0_Accounts) := Fx.var_load o_g0v n_g0v 1 _ rfl
  have d_g0v_2 : w8.cell? ⟨w3.heap.size, 2, none⟩ = some (.int .i64 ((M21.newX s0 a1)).Book.Seed) := Fx.var_load o_g0v n_g0v 2 _ rfl
  have d_g0v_3 : w8.cell? ⟨w3.heap.size, 3, none⟩ = some (.int .i64 ((M21.newX s0 a1)).Book.Next) := Fx.var_load o_g0v n_g0v 3 _ rfl
  have d_g0v_4 : w8.cell? ⟨w3.heap.size, 4, none⟩ = some (.slice A_g0_Book_Open ((M21.newX s0 a1)).Book.Open.length c_g0_Book_Open) := Fx.var_load o_g0v n_g0v 4 _ rfl
  have d_g0v_5 : w8.cell? ⟨w3.heap.size, 5, none⟩ = some (.slice A_g0_Logins ((M21.newX s0 a1)).Logins.length c_g0_Logins) := Fx.var_load o_g0v n_g0v 5 _ rfl
  have e_g0v : w3.heap.size < w8.heap.size := Fx.var_lt o_g0v
  go_wp2_with fail
  clear d_w0v_0 d_w0v_1 d_w0v_2 d_w0v_3 d_w0v_4 d_w0v_5 e_w0v d_g0v_0 d_g0v_1 d_g0v_2 d_g0v_3 d_g0v_4 d_g0v_5 e_g0v
  obtain ⟨w9, hw9⟩ : ∃ y, y = w8.alloc (.cells #[.string ((M21.newX s0 a1)).Name, .slice A_h0_Accounts ((M21.newX s0 a1)).Accounts.length c_h0_Accounts, .int .i64 ((M21.newX s0 a1)).Book.Seed, .int .i64 ((M21.newX s0 a1)).Book.Next, .slice A_h0_Book_Open ((M21.newX s0 a1)).Book.Open.length c_h0_Book_Open, .slice A_h0_Logins ((M21.newX s0 a1)).Logins.length c_h0_Logins] 28) := ⟨_, rfl⟩
  have o_h0v := Fx.var_owns w8 28 6 [.string ((M21.newX s0 a1)).Name, .slice A_h0_Accounts ((M21.newX s0 a1)).Accounts.length c_h0_Accounts, .int .i64 ((M21.newX s0 a1)).Book.Seed, .int .i64 ((M21.newX s0 a1)).Book.Next, .slice A_h0_Book_Open ((M21.newX s0 a1)).Book.Open.length c_h0_Book_Open, .slice A_h0_Logins ((M21.newX s0 a1)).Logins.length c_h0_Logins] rfl
  have b9 : Below w8.heap.size w8 w9 := hw9 ▸ (Below.refl _ _).alloc (Nat.le_refl _) _
  rw [← hw9] at o_h0v ⊢
  clear hw9
  replace o_w0 := ownsL_below o_w0 b9
  replace o_w0v := owns_below o_w0v b9
  replace o_g0 := ownsL_below o_g0 b9
  replace o_g0v := owns_below o_g0v b9
  replace o_h0 := ownsL_below o_h0 b9
  replace HB := HB.trans (b9.mono HB.size)
  have n_h0v : [w8.heap.size].Nodup := by simp
  have i_h0v := Fx.made_in o_h0v
  (with_reducible refine (Fx.eqSite _ (M21.newX s0 a1) _ _ (ownsL_rds _ _ _ o_h0) (ownsL_rds _ _ _ o_w0) (by omega)).mono ?_); rintro e w10 ⟨rfl, b10⟩
  replace o_w0 := ownsL_below o_w0 b10
  replace o_w0v := owns_below o_w0v b10
  replace o_g0 := ownsL_below o_g0 b10
  replace o_g0v := owns_below o_g0v b10
  replace o_h0 := ownsL_below o_h0 b10
  replace o_h0v := owns_below o_h0v b10
  replace HB := HB.trans (b10.mono HB.size)
  have d_g0v_0 : w10.cell? ⟨w3.heap.size, 0, none⟩ = some (.string ((M21.newX s0 a1)).Name) := Fx.var_load o_g0v n_g0v 0 _ rfl
  have d_g0v_1 : w10.cell? ⟨w3.heap.size, 1, none⟩ = some (.slice A_g0_Accounts ((M21.newX s0 a1)).Accounts.length c_g0_Accounts) := Fx.var_load o_g0v n_g0v 1 _ rfl
  have d_g0v_2 : w10.cell? ⟨w3.heap.size, 2, none⟩ = some (.int .i64 ((M21.newX s0 a1)).Book.Seed) := Fx.var_load o_g0v n_g0v 2 _ rfl
  have d_g0v_3 : w10.cell? ⟨w3.heap.size, 3, none⟩ = some (.int .i64 ((M21.newX s0 a1)).Book.Next) := Fx.var_load o_g0v n_g0v 3 _ rfl
  have d_g0v_4 : w10.cell? ⟨w3.heap.size, 4, none⟩ = some (.slice A_g0_Book_Open ((M21.newX s0 a1)).Book.Open.length c_g0_Book_Open) := Fx.var_load o_g0v n_g0v 4 _ rfl
  have d_g0v_5 : w10.cell? ⟨w3.heap.size, 5, none⟩ = some (.slice A_g0_Logins ((M21.newX s0 a1)).Logins.length c_g0_Logins) := Fx.var_load o_g0v n_g0v 5 _ rfl
  have e_g0v : w3.heap.size < w10.heap.size := Fx.var_lt o_g0v
  go_wp2_with fail
  (with_reducible refine (Fx.heldSite _ (M21.newX s0 a1) _ _ (ownsL_rds _ _ _ o_g0) (by omega) (by omega) (by omega)).mono ?_); rintro e w11 ⟨rfl, b11⟩
  clear d_g0v_0 d_g0v_1 d_g0v_2 d_g0v_3 d_g0v_4 d_g0v_5 e_g0v
  replace o_w0 := ownsL_below o_w0 b11
  replace o_w0v := owns_below o_w0v b11
  replace o_g0 := ownsL_below o_g0 b11
  replace o_g0v := owns_below o_g0v b11
  replace o_h0 := ownsL_below o_h0 b11
  replace o_h0v := owns_below o_h0v b11
  replace HB := HB.trans (b11.mono HB.size)
  go_wp2
  go_ret
  exact ⟨rfl, HB⟩

set_option maxRecDepth 100000 in
theorem contract (H : Type) (enc : TypeId × Value → H) (W : World) (base : Nat) (args : Array Value) (ds gs : List (DataW H)) (before : List MemPlace)
    (hval : ∀ (j : Nat) t v, Try.f3.params[j]? = some t → args[j]? = some v → Value.okWide Try.prog W .any base t v)
    (hW : DataW.Whole enc Try.prog Try.f3.params.toList Rows.fnExactNewSiteSpec.vars false W args.toList ds gs before) :
    Calls Try.prog 3 args W fun e W' => ∃ v, e = .returned v ∧ Rows.fnExactNewSiteSpec.post enc Try.prog Try.f3 false true false false W args v W' := by
  have hW' := hW
  obtain ⟨p, q, hA0, hV, rfl, hfz, hnd⟩ := hW
  have hA : DataW.TrodAll enc Try.prog W 0 (fun _ => true) true Try.f3.params.toList args.toList ds p := hA0
  rw [Try.params3] at hA hval
  obtain ⟨v0, vs0, d0, ds0, p0, q0, hargs, rfl, rfl, h0, r0⟩ := trodAll_cons hA
  obtain ⟨v1, vs1, d1, ds1, p1, q1, rfl, rfl, rfl, h1, r1⟩ := trodAll_cons r0
  obtain ⟨rfl, rfl, rfl⟩ := trodAll_nil r1
  obtain rfl : args = #[v0, v1] := by cases args; simp_all
  obtain ⟨rfl, rfl⟩ := trodVars_none hV
  obtain ⟨s0, rfl, rfl, rfl, hs0⟩ := ChangeMaps.open_string Try.underlying9 (hval 0 9 v0 rfl rfl) h0
  obtain ⟨a1, rfl, rfl, rfl, w1⟩ := open_int Try.underlying3 (hval 1 3 v1 rfl rfl) h1
  clear hA0
  refine Fr.closeLaw rfl (by kernel_rfl) (by rw [Try.params3]; decide) hW' rfl ?_
  exact walk s0 hs0 a1 w1 W 

set_option maxRecDepth 100000 in
theorem reads (os : Os) {H : Type} (enc : TypeId × Value → H) : ∃ places, DataW.whole enc Try.prog ((World.holding Try.prog os ⟨#[], #[], []⟩).forCall (fun _ _ => 0) ⟨#[], #[.string ⟨#[]⟩, .int .i64 0], []⟩).memory Try.f3.params.toList Rows.fnExactNewSiteSpec.vars false (#[.string ⟨#[]⟩, .int .i64 0] : Array Value).toList 8 = some ([.lit (.string []), .lit (.int .i64 0)], [], places) :=
  ⟨[], by kernel_rfl⟩
set_option maxRecDepth 100000 in
theorem lifted (os : Os) (started : os.Started) (H : Type) (enc : TypeId × Value → H) (F : Stop.Interp) :
    ReturnsInHanded {} Try.checked os 3 .any ((OpenSpec.ofChange Rows.fnExactNewSiteSpec).preRow enc Try.prog Try.f3 Rows.fnExactNewSiteRow.domain false Rows.fnExactNewSiteRow.laid) (((OpenSpec.ofChange Rows.fnExactNewSiteSpec).at F).post enc Try.prog Try.f3 false true false false) := by
  obtain ⟨places, hx⟩ := reads os enc
  refine returnsInHanded_of_row (C := Try.checked) (s := OpenSpec.ofChange Rows.fnExactNewSiteSpec) Fr.own started (by kernel_rfl) Try.func3
    (witness_row_atRef (enc := enc) (C := Try.checked) false (World.holding Try.prog os ⟨#[], #[], []⟩) #[.string ⟨#[]⟩, .int .i64 0] rfl (by kernel_rfl) (by kernel_rfl) (by kernel_rfl)
      (OpenSpec.preRow_of_cond 8 hx (by kernel_rfl) (fun k hk => by cases hk) (by kernel_rfl) (laidMetH_nil _ _))) ?_
  intro W base args ds gs before hval hW _ hcond _ hL _ _
  exact contract H enc W base args ds gs before hval hW
set_option maxRecDepth 100000 in
theorem said : Rows.FnExactNewSiteSaid :=
  OpenClaim.holds_of_cond 3 Try.f3 rfl rfl rfl rfl rfl rfl rfl ⟨rfl, rfl, rfl, rfl, rfl⟩ rfl rfl rfl rfl rfl (by kernel_rfl) Try.func3 (by kernel_rfl)
    (of_decide_eq_true (by kernel_rfl)) (by unfold Func.isWrapper; first | (rw [if_pos (by decide +kernel)]; kernel_rfl) | (rw [if_neg (by decide +kernel)]; exact ⟨rfl, rfl⟩))
    (fun os started H enc _ F => by rw [OpenClaim.pre_eq_preRow]; exact lifted os started H enc F)
theorem proved : Rows.FnExactNewSiteSaid := said
#print axioms proved
end Go.Proofs.Ytckplhmielckeaa.fnExactNewSite
