import Derived.Test.YtllaacdikjffmaaGreatBb
import Derived.Test.YtllaacdikjffmaaGreatBa
import Derived.Test.YtllaacdikjffmaaGreatYAccount
import Derived.Test.YtllaacdikjffmaaGreatYChallengeBook
/-
  Site: a struct of the laws as a thing of its own, and the laws' own functions over it.
-/
set_option linter.unusedVariables false
namespace Go.Proofs.YtllaacdikjffmaaGreat.Fx
open Go.ChangeShapes Go.WideShapes Go.ChangeAt Go.RowKit Go.Deep
open S0 S1 S9 S10 Ty Dm Bx
structure Site where
  Name : ByteArray
  Accounts : List Fx.Account
  Book : Fx.ChallengeBook
  Logins : List Int
def Site.dcs (x : Site) : List Dc := [.val (.string x.Name), AccountsD x.Accounts, .val (.int .i64 x.Book.Seed), .val (.int .i64 x.Book.Next), ChallengesD x.Book.Open, numsD x.Logins]
theorem Site.len (x : Site) : x.dcs.length = 6 := rfl
structure Site.ok (x : Site) : Prop where
  Name : x.Name.size ≤ maxLen
  Accounts_n : x.Accounts.length ≤ maxLen
  Accounts : ∀ y ∈ x.Accounts, y.ok
  Book : x.Book.ok
  Logins_n : x.Logins.length ≤ maxLen
  Logins : ∀ y ∈ x.Logins, -9223372036854775808 ≤ y ∧ y ≤ 9223372036854775807
def tySite : Ty := .cons .str (.cons tyAccounts (.cons tyChallengeBook (.cons tyI64 (.done))))
set_option maxRecDepth 100000 in
theorem fitSite : fits Tryz.prog tySite 28 = true := by kernel_rfl
set_option maxRecDepth 100000 in
theorem Site.is {ds : List Dc} (h : Is tySite ds) : ∃ x : Site, ds = x.dcs ∧ x.ok := by
  unfold tySite at h
  simp only [Is] at h
  obtain ⟨_, _, rfl, ⟨x0, rfl, h0⟩, ⟨_, _, rfl, h1, ⟨_, _, rfl, h2, ⟨_, _, rfl, h3, rfl⟩⟩⟩⟩ := h
  obtain ⟨x1, rfl, l1, h1⟩ := isAccounts h1
  obtain ⟨x2, rfl, hh2⟩ := Fx.ChallengeBook.is h2
  obtain ⟨x3, rfl, l3, h3⟩ := is_flat h3
  exact ⟨⟨x0, x1, x2, x3⟩, rfl, ⟨h0, l1, h1, hh2, l3, fun y hy => So.okI_i64 (h3 y hy)⟩⟩
set_option maxRecDepth 100000 in
theorem argSite {H : Type} {enc : TypeId × Value → H} {W : World} {b0 : Nat} {v : Value} {d : DataW H} {ps : List MemPlace}
    (hval : Value.okWide Tryz.prog W .any b0 28 v) (h : DataW.Trod enc Tryz.prog W 0 (fun _ => true) true 28 v d ps) :
    ∃ (vs : List Go.Value) (x : Site), v = .agg vs.toArray ∧ RdsL W W.heap.size x.dcs vs ∧ x.ok := by
  obtain ⟨vs, ds, rfl, h1, h2⟩ := arg_struct fitSite hval h
  obtain ⟨x, rfl, ho⟩ := Site.is h1
  exact ⟨vs, x, rfl, h2, ho⟩
theorem Site.rds {w : World} {hi : Nat} {x : Site} {vs : List Go.Value} (h : RdsL w hi x.dcs vs) : ∃ (A_Accounts : Option Addr) (c_Accounts : Nat), ∃ (A_Book_Open : Option Addr) (c_Book_Open : Nat), ∃ (A_Logins : Option Addr) (c_Logins : Nat), vs = [.string x.Name, .slice A_Accounts x.Accounts.length c_Accounts, .int .i64 x.Book.Seed, .int .i64 x.Book.Next, .slice A_Book_Open x.Book.Open.length c_Book_Open, .slice A_Logins x.Logins.length c_Logins] ∧ Rds w hi (AccountsD x.Accounts) (.slice A_Accounts x.Accounts.length c_Accounts) ∧ Rds w hi (ChallengesD x.Book.Open) (.slice A_Book_Open x.Book.Open.length c_Book_Open) ∧ Rds w hi (numsD x.Logins) (.slice A_Logins x.Logins.length c_Logins) := by
  unfold Site.dcs at h
  simp only [RdsL] at h
  obtain ⟨_, _, rfl, h0, ⟨_, _, rfl, h1, ⟨_, _, rfl, h2, ⟨_, _, rfl, h3, ⟨_, _, rfl, h4, ⟨_, _, rfl, h5, rfl⟩⟩⟩⟩⟩⟩ := h
  obtain ⟨A1, c1, rfl⟩ := rds_slice h1
  obtain ⟨A4, c4, rfl⟩ := rds_slice h4
  obtain ⟨A5, c5, rfl⟩ := rds_slice h5
  obtain rfl := rds_val h0
  obtain rfl := rds_val h2
  obtain rfl := rds_val h3
  exact ⟨A1, c1, A4, c4, A5, c5, rfl, h1, h4, h5⟩
theorem Site.owns {w : World} {lo : Nat} {x : Site} {vs : List Go.Value} {bs : List Nat} (h : OwnsL w lo x.dcs vs bs) : ∃ (A_Accounts : Option Addr) (c_Accounts : Nat) (b_Accounts : List Nat), ∃ (A_Book_Open : Option Addr) (c_Book_Open : Nat) (b_Book_Open : List Nat), ∃ (A_Logins : Option Addr) (c_Logins : Nat) (b_Logins : List Nat), vs = [.string x.Name, .slice A_Accounts x.Accounts.length c_Accounts, .int .i64 x.Book.Seed, .int .i64 x.Book.Next, .slice A_Book_Open x.Book.Open.length c_Book_Open, .slice A_Logins x.Logins.length c_Logins] ∧ Owns w lo (AccountsD x.Accounts) (.slice A_Accounts x.Accounts.length c_Accounts) b_Accounts ∧ Owns w lo (ChallengesD x.Book.Open) (.slice A_Book_Open x.Book.Open.length c_Book_Open) b_Book_Open ∧ Owns w lo (numsD x.Logins) (.slice A_Logins x.Logins.length c_Logins) b_Logins ∧ bs = b_Accounts ++ (b_Book_Open ++ (b_Logins)) := by
  unfold Site.dcs at h
  simp only [OwnsL] at h
  obtain ⟨_, _, _, _, rfl, h0, ⟨_, _, _, _, rfl, h1, ⟨_, _, _, _, rfl, h2, ⟨_, _, _, _, rfl, h3, ⟨_, _, _, _, rfl, h4, ⟨_, _, _, _, rfl, h5, ⟨rfl, rfl⟩, rfl⟩, rfl⟩, rfl⟩, rfl⟩, rfl⟩, rfl⟩ := h
  obtain ⟨rfl, rfl⟩ := owns_val h0
  obtain ⟨A1, c1, rfl⟩ := owns_slice h1
  obtain ⟨rfl, rfl⟩ := owns_val h2
  obtain ⟨rfl, rfl⟩ := owns_val h3
  obtain ⟨A4, c4, rfl⟩ := owns_slice h4
  obtain ⟨A5, c5, rfl⟩ := owns_slice h5
  exact ⟨A1, c1, _, A4, c4, _, A5, c5, _, rfl, h1, h4, h5, by simp⟩
theorem Site.wt (x : Site) : wtL x.dcs = x.Name.size + Dm.wt (AccountsD x.Accounts) + Dm.wt (ChallengesD x.Book.Open) + Dm.wt (numsD x.Logins) := by
  unfold Site.dcs
  simp only [wtL]
  simp only [wt_int, wt_str]
  first | done | omega
set_option maxHeartbeats 3200000 in
set_option maxRecDepth 100000 in
theorem toSite (w : World) (x : Site) (vs : List Go.Value) (h : RdsL w w.heap.size x.dcs vs) (hw : wtL x.dcs ≤ 4294967296) : Calls Tryz.prog 7 #[.agg vs.toArray] w (MadeL x.dcs w) := by
  obtain ⟨A_Accounts, c_Accounts, A_Book_Open, c_Book_Open, A_Logins, c_Logins, rfl, h_Accounts, h_Book_Open, h_Logins⟩ := Site.rds h
  have hwt := Nat.le_of_eq (Site.wt x)
  have hwu := Nat.le_of_eq (Site.wt x).symm
  have hwt_Book := Nat.le_of_eq (Fx.ChallengeBook.wt x.Book)
  have hwu_Book := Nat.le_of_eq (Fx.ChallengeBook.wt x.Book).symm
  obtain ⟨w1, hw1⟩ : ∃ y, y = w.alloc (.cells #[.string x.Name, .slice A_Accounts x.Accounts.length c_Accounts, .int .i64 x.Book.Seed, .int .i64 x.Book.Next, .slice A_Book_Open x.Book.Open.length c_Book_Open, .slice A_Logins x.Logins.length c_Logins] 28) := ⟨_, rfl⟩
  obtain ⟨w2, hw2⟩ : ∃ y, y = w1.alloc (.cells #[.string ⟨#[]⟩, .slice none 0 0, .int .i64 0, .int .i64 0, .slice none 0 0, .slice none 0 0] 35) := ⟨_, rfl⟩
  obtain ⟨w3, hw3⟩ : ∃ y, y = w2.alloc (.cells #[.string x.Name, .slice none 0 0, .int .i64 0, .int .i64 0, .slice none 0 0, .slice none 0 0] 35) := ⟨_, rfl⟩
  have s1 : w1.heap.size = w.heap.size + 1 := by rw [hw1]; simp
  have s2 : w2.heap.size = w.heap.size + 1 + 1 := by rw [hw2]; simp [s1]
  have s3 : w3.heap.size = w.heap.size + 1 + 1 + 1 := by rw [hw3]; simp [s2]
  have op := var_owns w 28 6 [.string x.Name, .slice A_Accounts x.Accounts.length c_Accounts, .int .i64 x.Book.Seed, .int .i64 x.Book.Next, .slice A_Book_Open x.Book.Open.length c_Book_Open, .slice A_Logins x.Logins.length c_Logins] rfl
  have oz := var_owns w1 35 6 [.string ⟨#[]⟩, .slice none 0 0, .int .i64 0, .int .i64 0, .slice none 0 0, .slice none 0 0] rfl
  have oo := var_owns w2 35 6 [.string x.Name, .slice none 0 0, .int .i64 0, .int .i64 0, .slice none 0 0, .slice none 0 0] rfl
  have b01 : Below w.heap.size w w1 := hw1 ▸ (Below.refl _ _).alloc (Nat.le_refl _) _
  have b12 : Below w1.heap.size w1 w2 := hw2 ▸ (Below.refl _ _).alloc (Nat.le_refl _) _
  have b23 : Below w2.heap.size w2 w3 := hw3 ▸ (Below.refl _ _).alloc (Nat.le_refl _) _
  rw [← hw1] at op
  rw [← hw2, s1] at oz
  rw [← hw3, s2] at oo
  replace op := owns_below (owns_below op b12) b23
  replace oz := owns_below oz b23
  have HB : Below w.heap.size w w3 := b01.trans ((b12.trans (b23.mono b12.size)).mono b01.size)
  clear b01 b12 b23
  go_enter Tryz.func7, Tryz.ntmps7
  go_wp2_with fail
  rw [← hw1, ← hw2, ← hw3]
  clear hw1 hw2 hw3 s1 s2
  have z3 : w.heap.size + 1 + 1 < w3.heap.size := by omega
  (with_reducible refine (toAccountS _ x.Accounts _ (rds_on h_Accounts HB) (by omega)).mono ?_); rintro e w4 ⟨v_Accounts, s_Accounts, rfl, o_Accounts, n_Accounts, b⟩
  have zz4 := b.size
  replace op := owns_below op b
  replace oz := owns_below oz b
  replace oo := owns_below oo b
  replace HB := HB.trans (b.mono HB.size)
  obtain ⟨B_Accounts, d_Accounts, rfl⟩ := owns_slice o_Accounts
  have i_Accounts : ∀ q, q ∈ s_Accounts → w3.heap.size ≤ q ∧ q < w4.heap.size := owns_in _ _ _ o_Accounts
  have c1 : w4.cell? ⟨w.heap.size + 1 + 1, 1, none⟩ = some (.slice none 0 0) := var_load oo (by simp) 1 _ rfl
  have f1 : w4.frozen? ⟨w.heap.size + 1 + 1, 1, none⟩ = false := var_frozen oo (by simp) 1 _ rfl
  have p2 : w4.cell? ⟨w.heap.size, 2, none⟩ = some (.int .i64 x.Book.Seed) := var_load op (by simp) 2 _ rfl
  have p3 : w4.cell? ⟨w.heap.size, 3, none⟩ = some (.int .i64 x.Book.Next) := var_load op (by simp) 3 _ rfl
  have p4 : w4.cell? ⟨w.heap.size, 4, none⟩ = some (.slice A_Book_Open x.Book.Open.length c_Book_Open) := var_load op (by simp) 4 _ rfl
  have lp := var_lt op
  have lo := var_lt oo
  clear b
  go_wp2_with fail
  clear c1 f1 p2 p3 p4 lp lo
  obtain ⟨w5, hq⟩ : ∃ y, y = setAll w4 (w.heap.size + 1 + 1) 1 [.slice B_Accounts x.Accounts.length d_Accounts] := ⟨_, rfl⟩
  obtain ⟨oo2, tt⟩ := var_some [.slice B_Accounts x.Accounts.length d_Accounts] 1 _ _ oo (by simp)
  rw [← hq] at oo2 tt
  replace oo : Owns w5 _ (varD 35 6 [.string x.Name, .slice B_Accounts x.Accounts.length d_Accounts, .int .i64 0, .int .i64 0, .slice none 0 0, .slice none 0 0]) _ _ := oo2
  clear oo2
  have zq5 := tt.2.2.2.1
  replace op := owns_turned op tt (fun b hb hb2 => by simp at hb hb2; omega)
  replace oz := owns_turned oz tt (fun b hb hb2 => by simp at hb hb2; omega)
  replace o_Accounts := owns_turned o_Accounts tt (fun b hb hb2 => by have h1 := i_Accounts b hb; simp at hb2; omega)
  replace HB := below_turned HB tt (fun b hb => by simp at hb; omega)
  rw [show (w4).setCell ⟨w.heap.size + 1 + 1, 1, none⟩ (.slice B_Accounts x.Accounts.length d_Accounts) = w5 from hq.symm]
  clear hq
  (with_reducible refine (toChallengeBook _ x.Book _ (rdsL_on (Fx.ChallengeBook.mkR h_Book_Open) HB) (by omega)).mono ?_); rintro e w6 ⟨v_Book, s_Book, rfl, o_Book, n_Book, b⟩
  have zz6 := b.size
  replace op := owns_below op b
  replace oz := owns_below oz b
  replace oo := owns_below oo b
  replace o_Accounts := owns_below o_Accounts b
  replace HB := HB.trans (b.mono HB.size)
  have i_Book : ∀ q, q ∈ s_Book → w5.heap.size ≤ q ∧ q < w6.heap.size := ownsL_in _ _ _ o_Book
  obtain ⟨B_Book_Open, d_Book_Open, r_Book_Open, rfl, p_Book_Open, g_Book⟩ := Fx.ChallengeBook.owns o_Book
  have c2 : w6.cell? ⟨w.heap.size + 1 + 1, 2, none⟩ = some (.int .i64 0) := var_load oo (by simp) 2 _ rfl
  have f2 : w6.frozen? ⟨w.heap.size + 1 + 1, 2, none⟩ = false := var_frozen oo (by simp) 2 _ rfl
  have c3 : w6.cell? ⟨w.heap.size + 1 + 1, 3, none⟩ = some (.int .i64 0) := var_load oo (by simp) 3 _ rfl
  have f3 : w6.frozen? ⟨w.heap.size + 1 + 1, 3, none⟩ = false := var_frozen oo (by simp) 3 _ rfl
  have c4 : w6.cell? ⟨w.heap.size + 1 + 1, 4, none⟩ = some (.slice none 0 0) := var_load oo (by simp) 4 _ rfl
  have f4 : w6.frozen? ⟨w.heap.size + 1 + 1, 4, none⟩ = false := var_frozen oo (by simp) 4 _ rfl
  have p5 : w6.cell? ⟨w.heap.size, 5, none⟩ = some (.slice A_Logins x.Logins.length c_Logins) := var_load op (by simp) 5 _ rfl
  have lp := var_lt op
  have lo := var_lt oo
  clear b
  go_wp2_with fail
  clear c2 c3 c4 f2 f3 f4 p5 lp lo
  obtain ⟨w7, hq⟩ : ∃ y, y = setAll w6 (w.heap.size + 1 + 1) 2 [.int .i64 x.Book.Seed, .int .i64 x.Book.Next, .slice B_Book_Open x.Book.Open.length d_Book_Open] := ⟨_, rfl⟩
  obtain ⟨oo2, tt⟩ := var_some [.int .i64 x.Book.Seed, .int .i64 x.Book.Next, .slice B_Book_Open x.Book.Open.length d_Book_Open] 2 _ _ oo (by simp)
  rw [← hq] at oo2 tt
  replace oo : Owns w7 _ (varD 35 6 [.string x.Name, .slice B_Accounts x.Accounts.length d_Accounts, .int .i64 x.Book.Seed, .int .i64 x.Book.Next, .slice B_Book_Open x.Book.Open.length d_Book_Open, .slice none 0 0]) _ _ := oo2
  clear oo2
  have zq7 := tt.2.2.2.1
  replace op := owns_turned op tt (fun b hb hb2 => by simp at hb hb2; omega)
  replace oz := owns_turned oz tt (fun b hb hb2 => by simp at hb hb2; omega)
  replace o_Accounts := owns_turned o_Accounts tt (fun b hb hb2 => by have h1 := i_Accounts b hb; simp at hb2; omega)
  replace o_Book := ownsL_turned o_Book tt (fun b hb hb2 => by have h1 := i_Book b hb; simp at hb2; omega)
  replace HB := below_turned HB tt (fun b hb => by simp at hb; omega)
  rw [show (((w6).setCell ⟨w.heap.size + 1 + 1, 2, none⟩ (.int .i64 x.Book.Seed)).setCell ⟨w.heap.size + 1 + 1, 3, none⟩ (.int .i64 x.Book.Next)).setCell ⟨w.heap.size + 1 + 1, 4, none⟩ (.slice B_Book_Open x.Book.Open.length d_Book_Open) = w7 from hq.symm]
  clear hq
  (with_reducible refine (toIntS _ x.Logins _ (rds_on h_Logins HB) (by omega)).mono ?_); rintro e w8 ⟨v_Logins, s_Logins, rfl, o_Logins, n_Logins, b⟩
  have zz8 := b.size
  replace op := owns_below op b
  replace oz := owns_below oz b
  replace oo := owns_below oo b
  replace o_Accounts := owns_below o_Accounts b
  replace o_Book := ownsL_below o_Book b
  replace HB := HB.trans (b.mono HB.size)
  obtain ⟨B_Logins, d_Logins, rfl⟩ := owns_slice o_Logins
  have i_Logins : ∀ q, q ∈ s_Logins → w7.heap.size ≤ q ∧ q < w8.heap.size := owns_in _ _ _ o_Logins
  have c5 : w8.cell? ⟨w.heap.size + 1 + 1, 5, none⟩ = some (.slice none 0 0) := var_load oo (by simp) 5 _ rfl
  have f5 : w8.frozen? ⟨w.heap.size + 1 + 1, 5, none⟩ = false := var_frozen oo (by simp) 5 _ rfl
  have lp := var_lt op
  have lo := var_lt oo
  have c0 : w8.cell? ⟨w.heap.size + 1 + 1, 0, none⟩ = some (.string x.Name) := var_load oo (by simp) 0 _ rfl
  have c1 : w8.cell? ⟨w.heap.size + 1 + 1, 1, none⟩ = some (.slice B_Accounts x.Accounts.length d_Accounts) := var_load oo (by simp) 1 _ rfl
  have c2 : w8.cell? ⟨w.heap.size + 1 + 1, 2, none⟩ = some (.int .i64 x.Book.Seed) := var_load oo (by simp) 2 _ rfl
  have c3 : w8.cell? ⟨w.heap.size + 1 + 1, 3, none⟩ = some (.int .i64 x.Book.Next) := var_load oo (by simp) 3 _ rfl
  have c4 : w8.cell? ⟨w.heap.size + 1 + 1, 4, none⟩ = some (.slice B_Book_Open x.Book.Open.length d_Book_Open) := var_load oo (by simp) 4 _ rfl
  have y0 : w8.cell? ⟨w.heap.size + 1, 0, none⟩ = some (.string ⟨#[]⟩) := var_load oz (by simp) 0 _ rfl
  have x0 : w8.frozen? ⟨w.heap.size + 1, 0, none⟩ = false := var_frozen oz (by simp) 0 _ rfl
  have y1 : w8.cell? ⟨w.heap.size + 1, 1, none⟩ = some (.slice none 0 0) := var_load oz (by simp) 1 _ rfl
  have x1 : w8.frozen? ⟨w.heap.size + 1, 1, none⟩ = false := var_frozen oz (by simp) 1 _ rfl
  have y2 : w8.cell? ⟨w.heap.size + 1, 2, none⟩ = some (.int .i64 0) := var_load oz (by simp) 2 _ rfl
  have x2 : w8.frozen? ⟨w.heap.size + 1, 2, none⟩ = false := var_frozen oz (by simp) 2 _ rfl
  have y3 : w8.cell? ⟨w.heap.size + 1, 3, none⟩ = some (.int .i64 0) := var_load oz (by simp) 3 _ rfl
  have x3 : w8.frozen? ⟨w.heap.size + 1, 3, none⟩ = false := var_frozen oz (by simp) 3 _ rfl
  have y4 : w8.cell? ⟨w.heap.size + 1, 4, none⟩ = some (.slice none 0 0) := var_load oz (by simp) 4 _ rfl
  have x4 : w8.frozen? ⟨w.heap.size + 1, 4, none⟩ = false := var_frozen oz (by simp) 4 _ rfl
  have y5 : w8.cell? ⟨w.heap.size + 1, 5, none⟩ = some (.slice none 0 0) := var_load oz (by simp) 5 _ rfl
  have x5 : w8.frozen? ⟨w.heap.size + 1, 5, none⟩ = false := var_frozen oz (by simp) 5 _ rfl
  have lz := var_lt oz
  clear b
  go_wp2
  clear c5 f5 lp lo c0 c1 c2 c3 c4 y0 x0 y1 x1 y2 x2 y3 x3 y4 x4 y5 x5 lz
  obtain ⟨w9, hq⟩ : ∃ y, y = setAll w8 (w.heap.size + 1 + 1) 5 [.slice B_Logins x.Logins.length d_Logins] := ⟨_, rfl⟩
  obtain ⟨oo2, tt⟩ := var_some [.slice B_Logins x.Logins.length d_Logins] 5 _ _ oo (by simp)
  rw [← hq] at oo2 tt
  replace oo : Owns w9 _ (varD 35 6 [.string x.Name, .slice B_Accounts x.Accounts.length d_Accounts, .int .i64 x.Book.Seed, .int .i64 x.Book.Next, .slice B_Book_Open x.Book.Open.length d_Book_Open, .slice B_Logins x.Logins.length d_Logins]) _ _ := oo2
  clear oo2
  have zq9 := tt.2.2.2.1
  replace op := owns_turned op tt (fun b hb hb2 => by simp at hb hb2; omega)
  replace oz := owns_turned oz tt (fun b hb hb2 => by simp at hb hb2; omega)
  replace o_Accounts := owns_turned o_Accounts tt (fun b hb hb2 => by have h1 := i_Accounts b hb; simp at hb2; omega)
  replace o_Book := ownsL_turned o_Book tt (fun b hb hb2 => by have h1 := i_Book b hb; simp at hb2; omega)
  replace o_Logins := owns_turned o_Logins tt (fun b hb hb2 => by have h1 := i_Logins b hb; simp at hb2; omega)
  replace HB := below_turned HB tt (fun b hb => by simp at hb; omega)
  obtain ⟨wf, hf⟩ : ∃ y, y = setAll w9 (w.heap.size + 1) 0 [.string x.Name, .slice B_Accounts x.Accounts.length d_Accounts, .int .i64 x.Book.Seed, .int .i64 x.Book.Next, .slice B_Book_Open x.Book.Open.length d_Book_Open, .slice B_Logins x.Logins.length d_Logins] := ⟨_, rfl⟩
  obtain ⟨oz2, t2⟩ := var_some [.string x.Name, .slice B_Accounts x.Accounts.length d_Accounts, .int .i64 x.Book.Seed, .int .i64 x.Book.Next, .slice B_Book_Open x.Book.Open.length d_Book_Open, .slice B_Logins x.Logins.length d_Logins] 0 _ _ oz (by simp)
  rw [← hf] at oz2 t2
  have zf := t2.2.2.2.1
  replace oz : Owns wf _ (varD 35 6 [.string x.Name, .slice B_Accounts x.Accounts.length d_Accounts, .int .i64 x.Book.Seed, .int .i64 x.Book.Next, .slice B_Book_Open x.Book.Open.length d_Book_Open, .slice B_Logins x.Logins.length d_Logins]) _ _ := oz2
  have y0 : wf.cell? ⟨w.heap.size + 1, 0, none⟩ = some (.string x.Name) := var_load oz (by simp) 0 _ rfl
  have y1 : wf.cell? ⟨w.heap.size + 1, 1, none⟩ = some (.slice B_Accounts x.Accounts.length d_Accounts) := var_load oz (by simp) 1 _ rfl
  have y2 : wf.cell? ⟨w.heap.size + 1, 2, none⟩ = some (.int .i64 x.Book.Seed) := var_load oz (by simp) 2 _ rfl
  have y3 : wf.cell? ⟨w.heap.size + 1, 3, none⟩ = some (.int .i64 x.Book.Next) := var_load oz (by simp) 3 _ rfl
  have y4 : wf.cell? ⟨w.heap.size + 1, 4, none⟩ = some (.slice B_Book_Open x.Book.Open.length d_Book_Open) := var_load oz (by simp) 4 _ rfl
  have y5 : wf.cell? ⟨w.heap.size + 1, 5, none⟩ = some (.slice B_Logins x.Logins.length d_Logins) := var_load oz (by simp) 5 _ rfl
  replace o_Accounts := owns_turned o_Accounts t2 (fun b hb hb2 => by have h1 := i_Accounts b hb; simp at hb2; omega)
  replace o_Book := ownsL_turned o_Book t2 (fun b hb hb2 => by have h1 := i_Book b hb; simp at hb2; omega)
  replace o_Logins := owns_turned o_Logins t2 (fun b hb hb2 => by have h1 := i_Logins b hb; simp at hb2; omega)
  replace HB := below_turned HB t2 (fun b hb => by simp at hb; omega)
  have hg : (((((((w8).setCell ⟨w.heap.size + 1 + 1, 5, none⟩ (.slice B_Logins x.Logins.length d_Logins)).setCell ⟨w.heap.size + 1, 0, none⟩ (.string x.Name)).setCell ⟨w.heap.size + 1, 1, none⟩ (.slice B_Accounts x.Accounts.length d_Accounts)).setCell ⟨w.heap.size + 1, 2, none⟩ (.int .i64 x.Book.Seed)).setCell ⟨w.heap.size + 1, 3, none⟩ (.int .i64 x.Book.Next)).setCell ⟨w.heap.size + 1, 4, none⟩ (.slice B_Book_Open x.Book.Open.length d_Book_Open)).setCell ⟨w.heap.size + 1, 5, none⟩ (.slice B_Logins x.Logins.length d_Logins) = wf := by rw [hf, hq]; rfl
  rw [hg]
  clear hg hf hq
  have ND := nodup_last n_Logins i_Logins
  replace ND := nodup_step n_Book i_Book ND (by omega) (by omega)
  replace ND := nodup_step n_Accounts i_Accounts ND (by omega) (by omega)
  have hown : OwnsL wf w.heap.size x.dcs [.string x.Name, .slice B_Accounts x.Accounts.length d_Accounts, .int .i64 x.Book.Seed, .int .i64 x.Book.Next, .slice B_Book_Open x.Book.Open.length d_Book_Open, .slice B_Logins x.Logins.length d_Logins] (s_Accounts ++ (s_Book ++ (s_Logins))) := ownsL_app (vals_own wf w.heap.size [.string x.Name]) (ownsL_app (ownsL_one (owns_base (by omega) _ _ _ o_Accounts)) (ownsL_app (ownsL_base (by omega) _ _ _ o_Book) ((ownsL_one (owns_base (by omega) _ _ _ o_Logins)))))
  refine bodyPost_ret (v := .agg #[.string x.Name, .slice B_Accounts x.Accounts.length d_Accounts, .int .i64 x.Book.Seed, .int .i64 x.Book.Next, .slice B_Book_Open x.Book.Open.length d_Book_Open, .slice B_Logins x.Logins.length d_Logins]) (by simp [results, Tryz.results7, go_sem, y0, y1, y2, y3, y4, y5]) rfl ⟨[.string x.Name, .slice B_Accounts x.Accounts.length d_Accounts, .int .i64 x.Book.Seed, .int .i64 x.Book.Next, .slice B_Book_Open x.Book.Open.length d_Book_Open, .slice B_Logins x.Logins.length d_Logins], _, rfl, hown, ND.1, HB⟩
set_option maxHeartbeats 3200000 in
set_option maxRecDepth 100000 in
theorem eqSite (w : World) (x : Site) (us vs : List Value) (h : RdsL w w.heap.size x.dcs us) (h2 : RdsL w w.heap.size x.dcs vs) (hw : wtL x.dcs ≤ 4294967296) : Calls Tryz.prog 9 #[.agg us.toArray, .agg vs.toArray] w (Gives (.bool true) w) := by
  obtain ⟨A_Accounts, c_Accounts, A_Book_Open, c_Book_Open, A_Logins, c_Logins, rfl, h_Accounts, h_Book_Open, h_Logins⟩ := Site.rds h
  obtain ⟨A2_Accounts, c2_Accounts, A2_Book_Open, c2_Book_Open, A2_Logins, c2_Logins, rfl, k_Accounts, k_Book_Open, k_Logins⟩ := Site.rds h2
  have hwt := Nat.le_of_eq (Site.wt x)
  have hwu := Nat.le_of_eq (Site.wt x).symm
  have hwt_Book := Nat.le_of_eq (Fx.ChallengeBook.wt x.Book)
  have hwu_Book := Nat.le_of_eq (Fx.ChallengeBook.wt x.Book).symm
  obtain ⟨w1, hw1⟩ : ∃ y, y = w.alloc (.cells #[.string x.Name, .slice A_Accounts x.Accounts.length c_Accounts, .int .i64 x.Book.Seed, .int .i64 x.Book.Next, .slice A_Book_Open x.Book.Open.length c_Book_Open, .slice A_Logins x.Logins.length c_Logins] 35) := ⟨_, rfl⟩
  obtain ⟨w2, hw2⟩ : ∃ y, y = w1.alloc (.cells #[.string x.Name, .slice A2_Accounts x.Accounts.length c2_Accounts, .int .i64 x.Book.Seed, .int .i64 x.Book.Next, .slice A2_Book_Open x.Book.Open.length c2_Book_Open, .slice A2_Logins x.Logins.length c2_Logins] 35) := ⟨_, rfl⟩
  have s1 : w1.heap.size = w.heap.size + 1 := by rw [hw1]; simp
  have op := var_owns w 35 6 [.string x.Name, .slice A_Accounts x.Accounts.length c_Accounts, .int .i64 x.Book.Seed, .int .i64 x.Book.Next, .slice A_Book_Open x.Book.Open.length c_Book_Open, .slice A_Logins x.Logins.length c_Logins] rfl
  have oz := var_owns w1 35 6 [.string x.Name, .slice A2_Accounts x.Accounts.length c2_Accounts, .int .i64 x.Book.Seed, .int .i64 x.Book.Next, .slice A2_Book_Open x.Book.Open.length c2_Book_Open, .slice A2_Logins x.Logins.length c2_Logins] rfl
  have b01 : Below w.heap.size w w1 := hw1 ▸ (Below.refl _ _).alloc (Nat.le_refl _) _
  have b12 : Below w1.heap.size w1 w2 := hw2 ▸ (Below.refl _ _).alloc (Nat.le_refl _) _
  rw [← hw1] at op
  rw [← hw2, s1] at oz
  replace op := owns_below op b12
  have HB : Below w.heap.size w w2 := b01.trans (b12.mono b01.size)
  clear b01 b12
  go_enter Tryz.func9, Tryz.ntmps9
  go_wp2_with fail
  rw [← hw1, ← hw2]
  clear hw1 hw2 s1
  (with_reducible refine (eqAccountS _ x.Accounts _ _ (rds_on h_Accounts HB) (rds_on k_Accounts HB) (by omega)).mono ?_); rintro e w3 ⟨rfl, b⟩
  replace op := owns_below op b
  replace oz := owns_below oz b
  replace HB := HB.trans (b.mono HB.size)
  clear b
  have p2 : w3.cell? ⟨w.heap.size, 2, none⟩ = some (.int .i64 x.Book.Seed) := var_load op (by simp) 2 _ rfl
  have q2 : w3.cell? ⟨w.heap.size + 1, 2, none⟩ = some (.int .i64 x.Book.Seed) := var_load oz (by simp) 2 _ rfl
  have p3 : w3.cell? ⟨w.heap.size, 3, none⟩ = some (.int .i64 x.Book.Next) := var_load op (by simp) 3 _ rfl
  have q3 : w3.cell? ⟨w.heap.size + 1, 3, none⟩ = some (.int .i64 x.Book.Next) := var_load oz (by simp) 3 _ rfl
  have p4 : w3.cell? ⟨w.heap.size, 4, none⟩ = some (.slice A_Book_Open x.Book.Open.length c_Book_Open) := var_load op (by simp) 4 _ rfl
  have q4 : w3.cell? ⟨w.heap.size + 1, 4, none⟩ = some (.slice A2_Book_Open x.Book.Open.length c2_Book_Open) := var_load oz (by simp) 4 _ rfl
  have lp := var_lt op
  have lz := var_lt oz
  go_wp2_with fail
  clear p2 q2 p3 q3 p4 q4 lp lz
  (with_reducible refine (eqChallengeBook _ x.Book _ _ (rdsL_on (Fx.ChallengeBook.mkR h_Book_Open) HB) (rdsL_on (Fx.ChallengeBook.mkR k_Book_Open) HB) (by omega)).mono ?_); rintro e w4 ⟨rfl, b⟩
  replace op := owns_below op b
  replace oz := owns_below oz b
  replace HB := HB.trans (b.mono HB.size)
  clear b
  have p5 : w4.cell? ⟨w.heap.size, 5, none⟩ = some (.slice A_Logins x.Logins.length c_Logins) := var_load op (by simp) 5 _ rfl
  have q5 : w4.cell? ⟨w.heap.size + 1, 5, none⟩ = some (.slice A2_Logins x.Logins.length c2_Logins) := var_load oz (by simp) 5 _ rfl
  have lp := var_lt op
  have lz := var_lt oz
  go_wp2_with fail
  clear p5 q5 lp lz
  (with_reducible refine (eqIntS _ x.Logins _ _ (rds_on h_Logins HB) (rds_on k_Logins HB) (by omega)).mono ?_); rintro e w5 ⟨rfl, b⟩
  replace op := owns_below op b
  replace oz := owns_below oz b
  replace HB := HB.trans (b.mono HB.size)
  clear b
  have lp := var_lt op
  have lz := var_lt oz
  go_wp2
  go_ret
  exact ⟨rfl, HB⟩
set_option maxHeartbeats 3200000 in
set_option maxRecDepth 100000 in
theorem szSite (w : World) (x : Site) (vs : List Go.Value) (z : Int) (h : RdsL w w.heap.size x.dcs vs) (ho : x.ok) (hz0 : 0 ≤ z) (hz1 : z ≤ 1048576) :
    Calls Tryz.prog 5 #[.agg vs.toArray, .int .i64 z] w (Gives (.int .i64 (if (wtL x.dcs : Int) ≤ z then z - wtL x.dcs else -1)) w) := by
  obtain ⟨A_Accounts, c_Accounts, A_Book_Open, c_Book_Open, A_Logins, c_Logins, rfl, h_Accounts, h_Book_Open, h_Logins⟩ := Site.rds h
  have hwt := Nat.le_of_eq (Site.wt x)
  have hwu := Nat.le_of_eq (Site.wt x).symm
  have hwt_Book := Nat.le_of_eq (Fx.ChallengeBook.wt x.Book)
  have hwu_Book := Nat.le_of_eq (Fx.ChallengeBook.wt x.Book).symm
  have hs_Name := ho.Name
  unfold maxLen at hs_Name
  obtain ⟨r, hr⟩ : ∃ r : Int, r = if (wtL x.dcs : Int) ≤ z then z - wtL x.dcs else -1 := ⟨_, rfl⟩
  rw [← hr]
  have HR := Lib.hid hr
  clear hr
  obtain ⟨w1, hw1⟩ : ∃ y, y = w.alloc (.cells #[.string x.Name, .slice A_Accounts x.Accounts.length c_Accounts, .int .i64 x.Book.Seed, .int .i64 x.Book.Next, .slice A_Book_Open x.Book.Open.length c_Book_Open, .slice A_Logins x.Logins.length c_Logins] 28) := ⟨_, rfl⟩
  have op := var_owns w 28 6 [.string x.Name, .slice A_Accounts x.Accounts.length c_Accounts, .int .i64 x.Book.Seed, .int .i64 x.Book.Next, .slice A_Book_Open x.Book.Open.length c_Book_Open, .slice A_Logins x.Logins.length c_Logins] rfl
  have HB : Below w.heap.size w w1 := hw1 ▸ (Below.refl _ _).alloc (Nat.le_refl _) _
  rw [← hw1] at op
  go_enter Tryz.func5, Tryz.ntmps5
  by_cases hl0 : (x.Name.size : Int) ≤ z
  · go_wp2_with fail
    rw [← hw1]
    clear hw1
    (with_reducible refine (szAccountS _ x.Accounts _ (z - (x.Name.size : Int)) (rds_on h_Accounts HB) ho.Accounts_n ho.Accounts (by omega) (by omega)).mono ?_); rintro e w3 ⟨rfl, b⟩
    replace op := owns_below op b
    replace HB := HB.trans (b.mono HB.size)
    clear b
    have lp1 := var_lt op
    by_cases hl1 : (Dm.wt (AccountsD x.Accounts) : Int) ≤ (z - (x.Name.size : Int))
    · rw [if_pos hl1]
      have p2_2 : w3.cell? ⟨w.heap.size, 2, none⟩ = some (.int .i64 x.Book.Seed) := var_load op (by simp) 2 _ rfl
      have p2_3 : w3.cell? ⟨w.heap.size, 3, none⟩ = some (.int .i64 x.Book.Next) := var_load op (by simp) 3 _ rfl
      have p2_4 : w3.cell? ⟨w.heap.size, 4, none⟩ = some (.slice A_Book_Open x.Book.Open.length c_Book_Open) := var_load op (by simp) 4 _ rfl
      go_wp2_with fail
      (with_reducible refine (szChallengeBook _ x.Book _ ((z - (x.Name.size : Int)) - (Dm.wt (AccountsD x.Accounts) : Int)) (rdsL_on (Fx.ChallengeBook.mkR h_Book_Open) HB) ho.Book (by omega) (by omega)).mono ?_); rintro e w4 ⟨rfl, b⟩
      clear p2_2 p2_3 p2_4
      replace op := owns_below op b
      replace HB := HB.trans (b.mono HB.size)
      clear b
      have lp2 := var_lt op
      by_cases hl2 : (wtL x.Book.dcs : Int) ≤ ((z - (x.Name.size : Int)) - (Dm.wt (AccountsD x.Accounts) : Int))
      · rw [if_pos hl2]
        have p3_5 : w4.cell? ⟨w.heap.size, 5, none⟩ = some (.slice A_Logins x.Logins.length c_Logins) := var_load op (by simp) 5 _ rfl
        go_wp2_with fail
        (with_reducible refine (szIntS _ x.Logins _ (((z - (x.Name.size : Int)) - (Dm.wt (AccountsD x.Accounts) : Int)) - (wtL x.Book.dcs : Int)) (rds_on h_Logins HB) ho.Logins_n (by omega) (by omega)).mono ?_); rintro e w5 ⟨rfl, b⟩
        clear p3_5
        replace op := owns_below op b
        replace HB := HB.trans (b.mono HB.size)
        clear b
        have lp3 := var_lt op
        by_cases hl3 : (Dm.wt (numsD x.Logins) : Int) ≤ (((z - (x.Name.size : Int)) - (Dm.wt (AccountsD x.Accounts) : Int)) - (wtL x.Book.dcs : Int))
        · rw [if_pos hl3]
          obtain rfl : r = ((((z - (x.Name.size : Int)) - (Dm.wt (AccountsD x.Accounts) : Int)) - (wtL x.Book.dcs : Int)) - (Dm.wt (numsD x.Logins) : Int)) := by rw [HR.out, if_pos (by omega)]; omega
          go_wp2
          go_ret
          exact ⟨rfl, HB⟩
        · rw [if_neg hl3]
          obtain rfl : r = -1 := by rw [HR.out, if_neg (by omega)]
          go_wp2
          go_ret
          exact ⟨rfl, HB⟩
      · rw [if_neg hl2]
        obtain rfl : r = -1 := by rw [HR.out, if_neg (by omega)]
        go_wp2
        go_ret
        exact ⟨rfl, HB⟩
    · rw [if_neg hl1]
      obtain rfl : r = -1 := by rw [HR.out, if_neg (by omega)]
      go_wp2
      go_ret
      exact ⟨rfl, HB⟩
  · obtain rfl : r = -1 := by rw [HR.out, if_neg (by omega)]
    go_wp2
    go_ret
    exact ⟨rfl, hw1 ▸ HB⟩
theorem mkT_Site (x : Site) (k : Int) : mkT x.dcs k = [.val (.string x.Name), mk (AccountsD x.Accounts) (k), .val (.int .i64 x.Book.Seed), .val (.int .i64 x.Book.Next), mk (ChallengesD x.Book.Open) (k + cnt (AccountsD x.Accounts)), mk (numsD x.Logins) (k + cnt (AccountsD x.Accounts) + cnt (ChallengesD x.Book.Open))] := by
  unfold Site.dcs
  rw [mkT_val, mkT_of (d := AccountsD x.Accounts) trivial, mkT_val, mkT_val, mkT_of (d := ChallengesD x.Book.Open) trivial, mkT_of (d := numsD x.Logins) trivial]
  rfl
theorem cntT_Site (x : Site) : cntT x.dcs = cnt (AccountsD x.Accounts) + cnt (ChallengesD x.Book.Open) + cnt (numsD x.Logins) := by
  unfold Site.dcs
  rw [cntT_val, cntT_of (d := AccountsD x.Accounts) trivial, cntT_val, cntT_val, cntT_of (d := ChallengesD x.Book.Open) trivial, cntT_of (d := numsD x.Logins) trivial]
  simp only [cntT, Nat.add_zero, Nat.add_assoc]
theorem cntTb_Site (x : Site) : cntT x.dcs ≤ 64 * wtL x.dcs := by
  rw [cntT_Site, Site.wt]
  have h_Accounts := cnt_Accounts (x.Accounts)
  have h_Book_Open := cnt_Challenges (x.Book.Open)
  have h_Logins := cnt_numsD (x.Logins)
  have k_Book := Fx.ChallengeBook.wt x.Book
  omega
set_option maxHeartbeats 3200000 in
set_option maxRecDepth 100000 in
theorem markSite (w : World) (base : Nat) (x : Site) (vs : List Go.Value) (bs : List Nat) (k : Int) (ho : OwnsL w base x.dcs vs bs) (hnd : bs.Nodup) (hw : wtL x.dcs ≤ 4294967296) (hk0 : 0 ≤ k) (hk1 : k + cntT x.dcs ≤ 1099511627776) :
    Calls Tryz.prog 10 #[.agg vs.toArray, .int .i64 k] w (MarkL x.dcs k base vs bs w) := by
  have hi0 := ownsL_in _ _ _ ho
  obtain ⟨A_Accounts, c_Accounts, b_Accounts, A_Book_Open, c_Book_Open, b_Book_Open, A_Logins, c_Logins, b_Logins, rfl, o_Accounts, o_Book_Open, o_Logins, hbs⟩ := Site.owns ho
  clear ho
  replace hbs := hbs.symm
  subst hbs
  obtain ⟨n_Accounts, hr0, d0⟩ := List.nodup_append.1 hnd
  obtain ⟨n_Book_Open, hr1, d1⟩ := List.nodup_append.1 hr0
  have n_Logins := hr1
  have i_Accounts := owns_in _ _ _ o_Accounts
  have i_Book_Open := owns_in _ _ _ o_Book_Open
  have i_Logins := owns_in _ _ _ o_Logins
  have hwt := Nat.le_of_eq (Site.wt x)
  have hwu := Nat.le_of_eq (Site.wt x).symm
  have hwt_Book := Nat.le_of_eq (Fx.ChallengeBook.wt x.Book)
  have hwu_Book := Nat.le_of_eq (Fx.ChallengeBook.wt x.Book).symm
  have hct := Nat.le_of_eq (cntT_Site x)
  have hcu := Nat.le_of_eq (cntT_Site x).symm
  have hct_Book := Nat.le_of_eq (cntT_ChallengeBook x.Book)
  have hcu_Book := Nat.le_of_eq (cntT_ChallengeBook x.Book).symm
  obtain ⟨w1, hw1⟩ : ∃ y, y = w.alloc (.cells #[.string x.Name, .slice A_Accounts x.Accounts.length c_Accounts, .int .i64 x.Book.Seed, .int .i64 x.Book.Next, .slice A_Book_Open x.Book.Open.length c_Book_Open, .slice A_Logins x.Logins.length c_Logins] 35) := ⟨_, rfl⟩
  have op := var_owns w 35 6 [.string x.Name, .slice A_Accounts x.Accounts.length c_Accounts, .int .i64 x.Book.Seed, .int .i64 x.Book.Next, .slice A_Book_Open x.Book.Open.length c_Book_Open, .slice A_Logins x.Logins.length c_Logins] rfl
  have b01 : Below w.heap.size w w1 := hw1 ▸ (Below.refl _ _).alloc (Nat.le_refl _) _
  rw [← hw1] at op
  replace o_Accounts := owns_below o_Accounts b01
  replace o_Book_Open := owns_below o_Book_Open b01
  replace o_Logins := owns_below o_Logins b01
  have HT : Turned w w1 (b_Accounts ++ (b_Book_Open ++ (b_Logins))) := turned_below b01
  clear b01
  go_enter Tryz.func10, Tryz.ntmps10
  go_wp2_with fail
  rw [← hw1]
  clear hw1
  (with_reducible refine (markAccountS _ base x.Accounts _ _ (k) o_Accounts n_Accounts (by omega) (by omega) (by omega)).mono ?_); rintro e w2 ⟨rfl, oq, t⟩
  have zz2 := t.2.2.2.1
  replace op := owns_turned op t (fun b hb hb2 => by simp at hb; subst hb; exact absurd (show w.heap.size < w.heap.size from (i_Accounts _ hb2).2) (Nat.lt_irrefl _))
  replace o_Book_Open := owns_turned o_Book_Open t (fun b hb hb2 => by exact (d0 b hb2 b (List.mem_append_left _ hb) rfl).elim)
  replace o_Logins := owns_turned o_Logins t (fun b hb hb2 => by exact (d0 b hb2 b (List.mem_append_right _ (hb)) rfl).elim)
  replace HT := turned_trans HT (turned_more t (fun x hx => List.mem_append_left _ hx))
  have o_Accounts := ownsL_one oq
  clear oq t
  have p2 : w2.cell? ⟨w.heap.size, 2, none⟩ = some (.int .i64 x.Book.Seed) := var_load op (by simp) 2 _ rfl
  have p3 : w2.cell? ⟨w.heap.size, 3, none⟩ = some (.int .i64 x.Book.Next) := var_load op (by simp) 3 _ rfl
  have p4 : w2.cell? ⟨w.heap.size, 4, none⟩ = some (.slice A_Book_Open x.Book.Open.length c_Book_Open) := var_load op (by simp) 4 _ rfl
  have lp := var_lt op
  go_wp2_with fail
  clear p2 p3 p4 lp
  have nq : (b_Book_Open).Nodup := n_Book_Open
  (with_reducible refine (markChallengeBook _ base x.Book _ _ (k + cnt (AccountsD x.Accounts)) (Fx.ChallengeBook.mkO o_Book_Open) nq (by omega) (by omega) (by omega)).mono ?_); rintro e w3 ⟨rfl, oq, t⟩
  have zz3 := t.2.2.2.1
  replace op := owns_turned op t (fun b hb hb2 => by simp at hb; subst hb; exact absurd (show w.heap.size < w.heap.size from (i_Book_Open _ hb2).2) (Nat.lt_irrefl _))
  replace o_Logins := owns_turned o_Logins t (fun b hb hb2 => by exact (d1 b hb2 b (hb) rfl).elim)
  replace o_Accounts := ownsL_turned o_Accounts t (fun b hb hb2 => by exact (d0 b hb b (List.mem_append_left _ hb2) rfl).elim)
  replace HT := turned_trans HT (turned_more t (fun x hx => List.mem_append_right _ (List.mem_append_left _ hx)))
  rw [mkT_ChallengeBook] at oq
  have o_Book := oq
  clear oq t
  have p5 : w3.cell? ⟨w.heap.size, 5, none⟩ = some (.slice A_Logins x.Logins.length c_Logins) := var_load op (by simp) 5 _ rfl
  have lp := var_lt op
  go_wp2_with fail
  clear p5 lp
  (with_reducible refine (markIntS _ base x.Logins _ _ (k + cnt (AccountsD x.Accounts) + cntT x.Book.dcs) o_Logins n_Logins (by omega) (by omega) (by omega)).mono ?_); rintro e w4 ⟨rfl, oq, t⟩
  rw [show (k + cnt (AccountsD x.Accounts) + cntT x.Book.dcs : Int) = k + cnt (AccountsD x.Accounts) + cnt (ChallengesD x.Book.Open) by omega] at oq
  have zz4 := t.2.2.2.1
  replace op := owns_turned op t (fun b hb hb2 => by simp at hb; subst hb; exact absurd (show w.heap.size < w.heap.size from (i_Logins _ hb2).2) (Nat.lt_irrefl _))
  replace o_Accounts := ownsL_turned o_Accounts t (fun b hb hb2 => by exact (d0 b hb b (List.mem_append_right _ (hb2)) rfl).elim)
  replace o_Book := ownsL_turned o_Book t (fun b hb hb2 => by exact (d1 b hb b (hb2) rfl).elim)
  replace HT := turned_trans HT (turned_more t (fun x hx => List.mem_append_right _ (List.mem_append_right _ (hx))))
  have o_Logins := ownsL_one oq
  clear oq t
  have lp := var_lt op
  have hown : OwnsL w4 base [.val (.string x.Name), mk (AccountsD x.Accounts) (k), .val (.int .i64 x.Book.Seed), .val (.int .i64 x.Book.Next), mk (ChallengesD x.Book.Open) (k + cnt (AccountsD x.Accounts)), mk (numsD x.Logins) (k + cnt (AccountsD x.Accounts) + cnt (ChallengesD x.Book.Open))] [.string x.Name, .slice A_Accounts x.Accounts.length c_Accounts, .int .i64 x.Book.Seed, .int .i64 x.Book.Next, .slice A_Book_Open x.Book.Open.length c_Book_Open, .slice A_Logins x.Logins.length c_Logins] (([]) ++ ((b_Accounts) ++ ((b_Book_Open) ++ (b_Logins)))) := ownsL_app (vals_own w4 base [.string x.Name]) (ownsL_app o_Accounts (ownsL_app o_Book (o_Logins)))
  have hbe : ([]) ++ ((b_Accounts) ++ ((b_Book_Open) ++ (b_Logins))) = b_Accounts ++ (b_Book_Open ++ (b_Logins)) := by simp
  rw [hbe] at hown
  go_wp2
  go_ret
  refine ⟨by rw [show k + ((Fx.cntT x.dcs : Nat) : Int) = k + cnt (AccountsD x.Accounts) + cntT x.Book.dcs + cnt (numsD x.Logins) by omega]; rfl, ?_, HT⟩
  rw [mkT_Site]
  exact hown
set_option maxHeartbeats 3200000 in
set_option maxRecDepth 100000 in
theorem heldSite (w : World) (x : Site) (vs : List Go.Value) (k : Int) (h : RdsL w w.heap.size (mkT x.dcs k) vs) (hw : wtL x.dcs ≤ 4294967296) (hk0 : 0 ≤ k) (hk1 : k + cntT x.dcs ≤ 1099511627776) :
    Calls Tryz.prog 11 #[.agg vs.toArray, .int .i64 k] w (Gives (.int .i64 (k + cntT x.dcs)) w) := by
  rw [mkT_Site] at h
  simp only [RdsL] at h
  obtain ⟨_, _, rfl, h0, ⟨_, _, rfl, h1, ⟨_, _, rfl, h2, ⟨_, _, rfl, h3, ⟨_, _, rfl, h4, ⟨_, _, rfl, h5, rfl⟩⟩⟩⟩⟩⟩ := h
  obtain rfl := rds_val h0
  obtain ⟨A_Accounts, c_Accounts, rfl⟩ := marked_slice h1
  obtain rfl := rds_val h2
  obtain rfl := rds_val h3
  obtain ⟨A_Book_Open, c_Book_Open, rfl⟩ := marked_slice h4
  obtain ⟨A_Logins, c_Logins, rfl⟩ := marked_slice h5
  have hwt := Nat.le_of_eq (Site.wt x)
  have hwu := Nat.le_of_eq (Site.wt x).symm
  have hwt_Book := Nat.le_of_eq (Fx.ChallengeBook.wt x.Book)
  have hwu_Book := Nat.le_of_eq (Fx.ChallengeBook.wt x.Book).symm
  have hct := Nat.le_of_eq (cntT_Site x)
  have hcu := Nat.le_of_eq (cntT_Site x).symm
  have hct_Book := Nat.le_of_eq (cntT_ChallengeBook x.Book)
  have hcu_Book := Nat.le_of_eq (cntT_ChallengeBook x.Book).symm
  obtain ⟨w1, hw1⟩ : ∃ y, y = w.alloc (.cells #[.string x.Name, .slice A_Accounts x.Accounts.length c_Accounts, .int .i64 x.Book.Seed, .int .i64 x.Book.Next, .slice A_Book_Open x.Book.Open.length c_Book_Open, .slice A_Logins x.Logins.length c_Logins] 35) := ⟨_, rfl⟩
  have op := var_owns w 35 6 [.string x.Name, .slice A_Accounts x.Accounts.length c_Accounts, .int .i64 x.Book.Seed, .int .i64 x.Book.Next, .slice A_Book_Open x.Book.Open.length c_Book_Open, .slice A_Logins x.Logins.length c_Logins] rfl
  have HB : Below w.heap.size w w1 := hw1 ▸ (Below.refl _ _).alloc (Nat.le_refl _) _
  rw [← hw1] at op
  go_enter Tryz.func11, Tryz.ntmps11
  go_wp2_with fail
  rw [← hw1]
  clear hw1
  (with_reducible refine (heldAccountS _ x.Accounts _ (k) (rds_on h1 HB) (by omega) (by omega) (by omega)).mono ?_); rintro e w2 ⟨rfl, b⟩
  replace op := owns_below op b
  replace HB := HB.trans (b.mono HB.size)
  clear b
  have p2 : w2.cell? ⟨w.heap.size, 2, none⟩ = some (.int .i64 x.Book.Seed) := var_load op (by simp) 2 _ rfl
  have p3 : w2.cell? ⟨w.heap.size, 3, none⟩ = some (.int .i64 x.Book.Next) := var_load op (by simp) 3 _ rfl
  have p4 : w2.cell? ⟨w.heap.size, 4, none⟩ = some (.slice A_Book_Open x.Book.Open.length c_Book_Open) := var_load op (by simp) 4 _ rfl
  have lp := var_lt op
  go_wp2_with fail
  clear p2 p3 p4 lp
  (with_reducible refine (heldChallengeBook _ x.Book _ (k + cnt (AccountsD x.Accounts)) (rdsL_on (by rw [mkT_ChallengeBook]; simp only [RdsL]; exact ⟨_, _, rfl, by simp [Rds], ⟨_, _, rfl, by simp [Rds], ⟨_, _, rfl, h4, rfl⟩⟩⟩) HB) (by omega) (by omega) (by omega)).mono ?_); rintro e w3 ⟨rfl, b⟩
  replace op := owns_below op b
  replace HB := HB.trans (b.mono HB.size)
  clear b
  have p5 : w3.cell? ⟨w.heap.size, 5, none⟩ = some (.slice A_Logins x.Logins.length c_Logins) := var_load op (by simp) 5 _ rfl
  have lp := var_lt op
  go_wp2_with fail
  clear p5 lp
  rw [show (k + cnt (AccountsD x.Accounts) + cnt (ChallengesD x.Book.Open) : Int) = k + cnt (AccountsD x.Accounts) + cntT x.Book.dcs by omega] at h5
  (with_reducible refine (heldIntS _ x.Logins _ (k + cnt (AccountsD x.Accounts) + cntT x.Book.dcs) (rds_on h5 HB) (by omega) (by omega) (by omega)).mono ?_); rintro e w4 ⟨rfl, b⟩
  replace op := owns_below op b
  replace HB := HB.trans (b.mono HB.size)
  clear b
  have lp := var_lt op
  go_wp2
  go_ret
  exact ⟨by rw [show k + ((Fx.cntT x.dcs : Nat) : Int) = k + cnt (AccountsD x.Accounts) + cntT x.Book.dcs + cnt (numsD x.Logins) by omega]; rfl, HB⟩
end Go.Proofs.YtllaacdikjffmaaGreat.Fx
