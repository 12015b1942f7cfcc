import Derived.Test.YtialhhdhpjjkaaaGreatDoorBb
import Derived.Test.YtialhhdhpjjkaaaGreatDoorYCredential
/-
  Account: a struct of the laws as a thing of its own, and the laws' own functions over it.
-/
set_option linter.unusedVariables false
namespace Go.Proofs.YtialhhdhpjjkaaaGreatDoor.Fx
open Go.ChangeShapes Go.WideShapes Go.ChangeAt Go.RowKit Go.Deep
open S0 S1 S9 S10 Ty Dm Bx
structure Account where
  Id : Int
  Minimum : Int
  Credentials : List Fx.Credential
def Account.dcs (x : Account) : List Dc := [.val (.int .i64 x.Id), .val (.int .i64 x.Minimum), CredentialsD x.Credentials]
theorem Account.len (x : Account) : x.dcs.length = 3 := rfl
structure Account.ok (x : Account) : Prop where
  Id : -9223372036854775808 ≤ x.Id ∧ x.Id ≤ 9223372036854775807
  Minimum : -9223372036854775808 ≤ x.Minimum ∧ x.Minimum ≤ 9223372036854775807
  Credentials_n : x.Credentials.length ≤ maxLen
  Credentials : ∀ y ∈ x.Credentials, y.ok
def tyAccount : Ty := .cons (.int .i64) (.cons (.int .i64) (.cons tyCredentials (.done)))
set_option maxRecDepth 100000 in
theorem fitAccount : fits Tryz.prog tyAccount 31 = true := by kernel_rfl
set_option maxRecDepth 100000 in
theorem Account.is {ds : List Dc} (h : Is tyAccount ds) : ∃ x : Account, ds = x.dcs ∧ x.ok := by
  unfold tyAccount at h
  simp only [Is] at h
  obtain ⟨_, _, rfl, ⟨x0, rfl, h0⟩, ⟨_, _, rfl, ⟨x1, rfl, h1⟩, ⟨_, _, rfl, h2, rfl⟩⟩⟩ := h
  obtain ⟨x2, rfl, l2, h2⟩ := isCredentials h2
  exact ⟨⟨x0, x1, x2⟩, rfl, ⟨M1.i64_wf h0, M1.i64_wf h1, l2, h2⟩⟩
set_option maxRecDepth 100000 in
theorem argAccount {H : Type} {enc : TypeId × Value → H} {W : World} {b0 : Nat} {v : Value} {d : DataW H} {ps : List MemPlace}
    (hval : Value.okWide Tryz.prog W .any b0 31 v) (h : DataW.Trod enc Tryz.prog W 0 (fun _ => true) true 31 v d ps) :
    ∃ (vs : List Go.Value) (x : Account), v = .agg vs.toArray ∧ RdsL W W.heap.size x.dcs vs ∧ x.ok := by
  obtain ⟨vs, ds, rfl, h1, h2⟩ := arg_struct fitAccount hval h
  obtain ⟨x, rfl, ho⟩ := Account.is h1
  exact ⟨vs, x, rfl, h2, ho⟩
theorem Account.rds {w : World} {hi : Nat} {x : Account} {vs : List Go.Value} (h : RdsL w hi x.dcs vs) : ∃ (A_Credentials : Option Addr) (c_Credentials : Nat), vs = [.int .i64 x.Id, .int .i64 x.Minimum, .slice A_Credentials x.Credentials.length c_Credentials] ∧ Rds w hi (CredentialsD x.Credentials) (.slice A_Credentials x.Credentials.length c_Credentials) := by
  unfold Account.dcs at h
  simp only [RdsL] at h
  obtain ⟨_, _, rfl, h0, ⟨_, _, rfl, h1, ⟨_, _, rfl, h2, rfl⟩⟩⟩ := h
  obtain ⟨A2, c2, rfl⟩ := rds_slice h2
  obtain rfl := rds_val h0
  obtain rfl := rds_val h1
  exact ⟨A2, c2, rfl, h2⟩
theorem Account.mkR {w : World} {hi : Nat} {x : Account} {A_Credentials : Option Addr} {c_Credentials : Nat} (h_Credentials : Rds w hi (CredentialsD x.Credentials) (.slice A_Credentials x.Credentials.length c_Credentials)) : RdsL w hi x.dcs [.int .i64 x.Id, .int .i64 x.Minimum, .slice A_Credentials x.Credentials.length c_Credentials] := by
  unfold Account.dcs
  simp only [RdsL]
  exact ⟨_, _, rfl, by simp [Rds], ⟨_, _, rfl, by simp [Rds], ⟨_, _, rfl, h_Credentials, rfl⟩⟩⟩
theorem Account.owns {w : World} {lo : Nat} {x : Account} {vs : List Go.Value} {bs : List Nat} (h : OwnsL w lo x.dcs vs bs) : ∃ (A_Credentials : Option Addr) (c_Credentials : Nat) (b_Credentials : List Nat), vs = [.int .i64 x.Id, .int .i64 x.Minimum, .slice A_Credentials x.Credentials.length c_Credentials] ∧ Owns w lo (CredentialsD x.Credentials) (.slice A_Credentials x.Credentials.length c_Credentials) b_Credentials ∧ bs = b_Credentials := by
  unfold Account.dcs at h
  simp only [OwnsL] at h
  obtain ⟨_, _, _, _, rfl, h0, ⟨_, _, _, _, rfl, h1, ⟨_, _, _, _, rfl, h2, ⟨rfl, rfl⟩, rfl⟩, rfl⟩, rfl⟩ := h
  obtain ⟨rfl, rfl⟩ := owns_val h0
  obtain ⟨rfl, rfl⟩ := owns_val h1
  obtain ⟨A2, c2, rfl⟩ := owns_slice h2
  exact ⟨A2, c2, _, rfl, h2, by simp⟩
theorem Account.wt (x : Account) : wtL x.dcs = Dm.wt (CredentialsD x.Credentials) := by
  unfold Account.dcs
  simp only [wtL]
  simp only [wt_int]
  first | done | omega
set_option maxHeartbeats 3200000 in
set_option maxRecDepth 100000 in
theorem toAccount (w : World) (x : Account) (vs : List Go.Value) (h : RdsL w w.heap.size x.dcs vs) (hw : wtL x.dcs ≤ 4294967296) : Calls Tryz.prog 14 #[.agg vs.toArray] w (MadeL x.dcs w) := by
  obtain ⟨A_Credentials, c_Credentials, rfl, h_Credentials⟩ := Account.rds h
  have hwt := Nat.le_of_eq (Account.wt x)
  have hwu := Nat.le_of_eq (Account.wt x).symm
  obtain ⟨w1, hw1⟩ : ∃ y, y = w.alloc (.cells #[.int .i64 x.Id, .int .i64 x.Minimum, .slice A_Credentials x.Credentials.length c_Credentials] 31) := ⟨_, rfl⟩
  obtain ⟨w2, hw2⟩ : ∃ y, y = w1.alloc (.cells #[.int .i64 0, .int .i64 0, .slice none 0 0] 35) := ⟨_, rfl⟩
  obtain ⟨w3, hw3⟩ : ∃ y, y = w2.alloc (.cells #[.int .i64 x.Id, .int .i64 x.Minimum, .slice none 0 0] 35) := ⟨_, rfl⟩
  have s1 : w1.heap.size = w.heap.size + 1 := by rw [hw1]; simp
  have s2 : w2.heap.size = w.heap.size + 1 + 1 := by rw [hw2]; simp [s1]
  have s3 : w3.heap.size = w.heap.size + 1 + 1 + 1 := by rw [hw3]; simp [s2]
  have op := var_owns w 31 3 [.int .i64 x.Id, .int .i64 x.Minimum, .slice A_Credentials x.Credentials.length c_Credentials] rfl
  have oz := var_owns w1 35 3 [.int .i64 0, .int .i64 0, .slice none 0 0] rfl
  have oo := var_owns w2 35 3 [.int .i64 x.Id, .int .i64 x.Minimum, .slice none 0 0] rfl
  have b01 : Below w.heap.size w w1 := hw1 ▸ (Below.refl _ _).alloc (Nat.le_refl _) _
  have b12 : Below w1.heap.size w1 w2 := hw2 ▸ (Below.refl _ _).alloc (Nat.le_refl _) _
  have b23 : Below w2.heap.size w2 w3 := hw3 ▸ (Below.refl _ _).alloc (Nat.le_refl _) _
  rw [← hw1] at op
  rw [← hw2, s1] at oz
  rw [← hw3, s2] at oo
  replace op := owns_below (owns_below op b12) b23
  replace oz := owns_below oz b23
  have HB : Below w.heap.size w w3 := b01.trans ((b12.trans (b23.mono b12.size)).mono b01.size)
  clear b01 b12 b23
  go_enter Tryz.func14, Tryz.ntmps14
  go_wp2_with fail
  rw [← hw1, ← hw2, ← hw3]
  clear hw1 hw2 hw3 s1 s2
  have z3 : w.heap.size + 1 + 1 < w3.heap.size := by omega
  (with_reducible refine (toCredentialS _ x.Credentials _ (rds_on h_Credentials HB) (by omega)).mono ?_); rintro e w4 ⟨v_Credentials, s_Credentials, rfl, o_Credentials, n_Credentials, b⟩
  have zz4 := b.size
  replace op := owns_below op b
  replace oz := owns_below oz b
  replace oo := owns_below oo b
  replace HB := HB.trans (b.mono HB.size)
  obtain ⟨B_Credentials, d_Credentials, rfl⟩ := owns_slice o_Credentials
  have i_Credentials : ∀ q, q ∈ s_Credentials → w3.heap.size ≤ q ∧ q < w4.heap.size := owns_in _ _ _ o_Credentials
  have c2 : w4.cell? ⟨w.heap.size + 1 + 1, 2, none⟩ = some (.slice none 0 0) := var_load oo (by simp) 2 _ rfl
  have f2 : w4.frozen? ⟨w.heap.size + 1 + 1, 2, none⟩ = false := var_frozen oo (by simp) 2 _ rfl
  have lp := var_lt op
  have lo := var_lt oo
  have c0 : w4.cell? ⟨w.heap.size + 1 + 1, 0, none⟩ = some (.int .i64 x.Id) := var_load oo (by simp) 0 _ rfl
  have c1 : w4.cell? ⟨w.heap.size + 1 + 1, 1, none⟩ = some (.int .i64 x.Minimum) := var_load oo (by simp) 1 _ rfl
  have y0 : w4.cell? ⟨w.heap.size + 1, 0, none⟩ = some (.int .i64 0) := var_load oz (by simp) 0 _ rfl
  have x0 : w4.frozen? ⟨w.heap.size + 1, 0, none⟩ = false := var_frozen oz (by simp) 0 _ rfl
  have y1 : w4.cell? ⟨w.heap.size + 1, 1, none⟩ = some (.int .i64 0) := var_load oz (by simp) 1 _ rfl
  have x1 : w4.frozen? ⟨w.heap.size + 1, 1, none⟩ = false := var_frozen oz (by simp) 1 _ rfl
  have y2 : w4.cell? ⟨w.heap.size + 1, 2, none⟩ = some (.slice none 0 0) := var_load oz (by simp) 2 _ rfl
  have x2 : w4.frozen? ⟨w.heap.size + 1, 2, none⟩ = false := var_frozen oz (by simp) 2 _ rfl
  have lz := var_lt oz
  clear b
  go_wp2
  clear c2 f2 lp lo c0 c1 y0 x0 y1 x1 y2 x2 lz
  obtain ⟨w5, hq⟩ : ∃ y, y = setAll w4 (w.heap.size + 1 + 1) 2 [.slice B_Credentials x.Credentials.length d_Credentials] := ⟨_, rfl⟩
  obtain ⟨oo2, tt⟩ := var_some [.slice B_Credentials x.Credentials.length d_Credentials] 2 _ _ oo (by simp)
  rw [← hq] at oo2 tt
  replace oo : Owns w5 _ (varD 35 3 [.int .i64 x.Id, .int .i64 x.Minimum, .slice B_Credentials x.Credentials.length d_Credentials]) _ _ := oo2
  clear oo2
  have zq5 := tt.2.2.2.1
  replace op := owns_turned op tt (fun b hb hb2 => by simp at hb hb2; omega)
  replace oz := owns_turned oz tt (fun b hb hb2 => by simp at hb hb2; omega)
  replace o_Credentials := owns_turned o_Credentials tt (fun b hb hb2 => by have h1 := i_Credentials b hb; simp at hb2; omega)
  replace HB := below_turned HB tt (fun b hb => by simp at hb; omega)
  obtain ⟨wf, hf⟩ : ∃ y, y = setAll w5 (w.heap.size + 1) 0 [.int .i64 x.Id, .int .i64 x.Minimum, .slice B_Credentials x.Credentials.length d_Credentials] := ⟨_, rfl⟩
  obtain ⟨oz2, t2⟩ := var_some [.int .i64 x.Id, .int .i64 x.Minimum, .slice B_Credentials x.Credentials.length d_Credentials] 0 _ _ oz (by simp)
  rw [← hf] at oz2 t2
  have zf := t2.2.2.2.1
  replace oz : Owns wf _ (varD 35 3 [.int .i64 x.Id, .int .i64 x.Minimum, .slice B_Credentials x.Credentials.length d_Credentials]) _ _ := oz2
  have y0 : wf.cell? ⟨w.heap.size + 1, 0, none⟩ = some (.int .i64 x.Id) := var_load oz (by simp) 0 _ rfl
  have y1 : wf.cell? ⟨w.heap.size + 1, 1, none⟩ = some (.int .i64 x.Minimum) := var_load oz (by simp) 1 _ rfl
  have y2 : wf.cell? ⟨w.heap.size + 1, 2, none⟩ = some (.slice B_Credentials x.Credentials.length d_Credentials) := var_load oz (by simp) 2 _ rfl
  replace o_Credentials := owns_turned o_Credentials t2 (fun b hb hb2 => by have h1 := i_Credentials b hb; simp at hb2; omega)
  replace HB := below_turned HB t2 (fun b hb => by simp at hb; omega)
  have hg : ((((w4).setCell ⟨w.heap.size + 1 + 1, 2, none⟩ (.slice B_Credentials x.Credentials.length d_Credentials)).setCell ⟨w.heap.size + 1, 0, none⟩ (.int .i64 x.Id)).setCell ⟨w.heap.size + 1, 1, none⟩ (.int .i64 x.Minimum)).setCell ⟨w.heap.size + 1, 2, none⟩ (.slice B_Credentials x.Credentials.length d_Credentials) = wf := by rw [hf, hq]; rfl
  rw [hg]
  clear hg hf hq
  have ND := nodup_last n_Credentials i_Credentials
  have hown : OwnsL wf w.heap.size x.dcs [.int .i64 x.Id, .int .i64 x.Minimum, .slice B_Credentials x.Credentials.length d_Credentials] (s_Credentials) := ownsL_app (vals_own wf w.heap.size [.int .i64 x.Id]) (ownsL_app (vals_own wf w.heap.size [.int .i64 x.Minimum]) ((ownsL_one (owns_base (by omega) _ _ _ o_Credentials))))
  refine bodyPost_ret (v := .agg #[.int .i64 x.Id, .int .i64 x.Minimum, .slice B_Credentials x.Credentials.length d_Credentials]) (by simp [results, Tryz.results14, go_sem, y0, y1, y2]) rfl ⟨[.int .i64 x.Id, .int .i64 x.Minimum, .slice B_Credentials x.Credentials.length d_Credentials], _, rfl, hown, ND.1, HB⟩
set_option maxHeartbeats 3200000 in
set_option maxRecDepth 100000 in
theorem eqAccount (w : World) (x : Account) (us vs : List Value) (h : RdsL w w.heap.size x.dcs us) (h2 : RdsL w w.heap.size x.dcs vs) (hw : wtL x.dcs ≤ 4294967296) : Calls Tryz.prog 16 #[.agg us.toArray, .agg vs.toArray] w (Gives (.bool true) w) := by
  obtain ⟨A_Credentials, c_Credentials, rfl, h_Credentials⟩ := Account.rds h
  obtain ⟨A2_Credentials, c2_Credentials, rfl, k_Credentials⟩ := Account.rds h2
  have hwt := Nat.le_of_eq (Account.wt x)
  have hwu := Nat.le_of_eq (Account.wt x).symm
  obtain ⟨w1, hw1⟩ : ∃ y, y = w.alloc (.cells #[.int .i64 x.Id, .int .i64 x.Minimum, .slice A_Credentials x.Credentials.length c_Credentials] 35) := ⟨_, rfl⟩
  obtain ⟨w2, hw2⟩ : ∃ y, y = w1.alloc (.cells #[.int .i64 x.Id, .int .i64 x.Minimum, .slice A2_Credentials x.Credentials.length c2_Credentials] 35) := ⟨_, rfl⟩
  have s1 : w1.heap.size = w.heap.size + 1 := by rw [hw1]; simp
  have op := var_owns w 35 3 [.int .i64 x.Id, .int .i64 x.Minimum, .slice A_Credentials x.Credentials.length c_Credentials] rfl
  have oz := var_owns w1 35 3 [.int .i64 x.Id, .int .i64 x.Minimum, .slice A2_Credentials x.Credentials.length c2_Credentials] rfl
  have b01 : Below w.heap.size w w1 := hw1 ▸ (Below.refl _ _).alloc (Nat.le_refl _) _
  have b12 : Below w1.heap.size w1 w2 := hw2 ▸ (Below.refl _ _).alloc (Nat.le_refl _) _
  rw [← hw1] at op
  rw [← hw2, s1] at oz
  replace op := owns_below op b12
  have HB : Below w.heap.size w w2 := b01.trans (b12.mono b01.size)
  clear b01 b12
  go_enter Tryz.func16, Tryz.ntmps16
  go_wp2_with fail
  rw [← hw1, ← hw2]
  clear hw1 hw2 s1
  (with_reducible refine (eqCredentialS _ x.Credentials _ _ (rds_on h_Credentials HB) (rds_on k_Credentials HB) (by omega)).mono ?_); rintro e w3 ⟨rfl, b⟩
  replace op := owns_below op b
  replace oz := owns_below oz b
  replace HB := HB.trans (b.mono HB.size)
  clear b
  have lp := var_lt op
  have lz := var_lt oz
  go_wp2
  go_ret
  exact ⟨rfl, HB⟩
set_option maxHeartbeats 3200000 in
set_option maxRecDepth 100000 in
theorem szAccount (w : World) (x : Account) (vs : List Go.Value) (z : Int) (h : RdsL w w.heap.size x.dcs vs) (ho : x.ok) (hz0 : 0 ≤ z) (hz1 : z ≤ 1048576) :
    Calls Tryz.prog 12 #[.agg vs.toArray, .int .i64 z] w (Gives (.int .i64 (if (wtL x.dcs : Int) ≤ z then z - wtL x.dcs else -1)) w) := by
  obtain ⟨A_Credentials, c_Credentials, rfl, h_Credentials⟩ := Account.rds h
  have hwt := Nat.le_of_eq (Account.wt x)
  have hwu := Nat.le_of_eq (Account.wt x).symm
  obtain ⟨r, hr⟩ : ∃ r : Int, r = if (wtL x.dcs : Int) ≤ z then z - wtL x.dcs else -1 := ⟨_, rfl⟩
  rw [← hr]
  have HR := Lib.hid hr
  clear hr
  obtain ⟨w1, hw1⟩ : ∃ y, y = w.alloc (.cells #[.int .i64 x.Id, .int .i64 x.Minimum, .slice A_Credentials x.Credentials.length c_Credentials] 31) := ⟨_, rfl⟩
  have op := var_owns w 31 3 [.int .i64 x.Id, .int .i64 x.Minimum, .slice A_Credentials x.Credentials.length c_Credentials] rfl
  have HB : Below w.heap.size w w1 := hw1 ▸ (Below.refl _ _).alloc (Nat.le_refl _) _
  rw [← hw1] at op
  go_enter Tryz.func12, Tryz.ntmps12
  go_wp2_with fail
  rw [← hw1]
  clear hw1
  (with_reducible refine (szCredentialS _ x.Credentials _ z (rds_on h_Credentials HB) ho.Credentials_n ho.Credentials (by omega) (by omega)).mono ?_); rintro e w2 ⟨rfl, b⟩
  replace op := owns_below op b
  replace HB := HB.trans (b.mono HB.size)
  clear b
  have lp0 := var_lt op
  by_cases hl0 : (Dm.wt (CredentialsD x.Credentials) : Int) ≤ z
  · rw [if_pos hl0]
    obtain rfl : r = (z - (Dm.wt (CredentialsD x.Credentials) : Int)) := by rw [HR.out, if_pos (by omega)]; omega
    go_wp2
    go_ret
    exact ⟨rfl, HB⟩
  · rw [if_neg hl0]
    obtain rfl : r = -1 := by rw [HR.out, if_neg (by omega)]
    go_wp2
    go_ret
    exact ⟨rfl, HB⟩
theorem mkT_Account (x : Account) (k : Int) : mkT x.dcs k = [.val (.int .i64 x.Id), .val (.int .i64 x.Minimum), mk (CredentialsD x.Credentials) (k)] := by
  unfold Account.dcs
  rw [mkT_val, mkT_val, mkT_of (d := CredentialsD x.Credentials) trivial]
  rfl
theorem cntT_Account (x : Account) : cntT x.dcs = cnt (CredentialsD x.Credentials) := by
  unfold Account.dcs
  rw [cntT_val, cntT_val, cntT_of (d := CredentialsD x.Credentials) trivial]
  simp only [cntT, Nat.add_zero]
theorem cntTb_Account (x : Account) : cntT x.dcs ≤ 64 * wtL x.dcs := by
  rw [cntT_Account, Account.wt]
  have h_Credentials := cnt_Credentials (x.Credentials)
  omega
set_option maxHeartbeats 3200000 in
set_option maxRecDepth 100000 in
theorem markAccount (w : World) (base : Nat) (x : Account) (vs : List Go.Value) (bs : List Nat) (k : Int) (ho : OwnsL w base x.dcs vs bs) (hnd : bs.Nodup) (hw : wtL x.dcs ≤ 4294967296) (hk0 : 0 ≤ k) (hk1 : k + cntT x.dcs ≤ 1099511627776) :
    Calls Tryz.prog 17 #[.agg vs.toArray, .int .i64 k] w (MarkL x.dcs k base vs bs w) := by
  have hi0 := ownsL_in _ _ _ ho
  obtain ⟨A_Credentials, c_Credentials, b_Credentials, rfl, o_Credentials, hbs⟩ := Account.owns ho
  clear ho
  replace hbs := hbs.symm
  subst hbs
  have n_Credentials := hnd
  have i_Credentials := owns_in _ _ _ o_Credentials
  have hwt := Nat.le_of_eq (Account.wt x)
  have hwu := Nat.le_of_eq (Account.wt x).symm
  have hct := Nat.le_of_eq (cntT_Account x)
  have hcu := Nat.le_of_eq (cntT_Account x).symm
  obtain ⟨w1, hw1⟩ : ∃ y, y = w.alloc (.cells #[.int .i64 x.Id, .int .i64 x.Minimum, .slice A_Credentials x.Credentials.length c_Credentials] 35) := ⟨_, rfl⟩
  have op := var_owns w 35 3 [.int .i64 x.Id, .int .i64 x.Minimum, .slice A_Credentials x.Credentials.length c_Credentials] rfl
  have b01 : Below w.heap.size w w1 := hw1 ▸ (Below.refl _ _).alloc (Nat.le_refl _) _
  rw [← hw1] at op
  replace o_Credentials := owns_below o_Credentials b01
  have HT : Turned w w1 (b_Credentials) := turned_below b01
  clear b01
  go_enter Tryz.func17, Tryz.ntmps17
  go_wp2_with fail
  rw [← hw1]
  clear hw1
  (with_reducible refine (markCredentialS _ base x.Credentials _ _ (k) o_Credentials n_Credentials (by omega) (by omega) (by omega)).mono ?_); rintro e w2 ⟨rfl, oq, t⟩
  have zz2 := t.2.2.2.1
  replace op := owns_turned op t (fun b hb hb2 => by simp at hb; subst hb; exact absurd (show w.heap.size < w.heap.size from (i_Credentials _ hb2).2) (Nat.lt_irrefl _))
  replace HT := turned_trans HT (turned_more t (fun x hx => hx))
  have o_Credentials := ownsL_one oq
  clear oq t
  have lp := var_lt op
  have hown : OwnsL w2 base [.val (.int .i64 x.Id), .val (.int .i64 x.Minimum), mk (CredentialsD x.Credentials) (k)] [.int .i64 x.Id, .int .i64 x.Minimum, .slice A_Credentials x.Credentials.length c_Credentials] (([]) ++ (([]) ++ (b_Credentials))) := ownsL_app (vals_own w2 base [.int .i64 x.Id]) (ownsL_app (vals_own w2 base [.int .i64 x.Minimum]) (o_Credentials))
  have hbe : ([]) ++ (([]) ++ (b_Credentials)) = b_Credentials := by simp
  rw [hbe] at hown
  go_wp2
  go_ret
  refine ⟨by rw [show k + ((Fx.cntT x.dcs : Nat) : Int) = k + cnt (CredentialsD x.Credentials) by omega]; rfl, ?_, HT⟩
  rw [mkT_Account]
  exact hown
set_option maxHeartbeats 3200000 in
set_option maxRecDepth 100000 in
theorem heldAccount (w : World) (x : Account) (vs : List Go.Value) (k : Int) (h : RdsL w w.heap.size (mkT x.dcs k) vs) (hw : wtL x.dcs ≤ 4294967296) (hk0 : 0 ≤ k) (hk1 : k + cntT x.dcs ≤ 1099511627776) :
    Calls Tryz.prog 18 #[.agg vs.toArray, .int .i64 k] w (Gives (.int .i64 (k + cntT x.dcs)) w) := by
  rw [mkT_Account] at h
  simp only [RdsL] at h
  obtain ⟨_, _, rfl, h0, ⟨_, _, rfl, h1, ⟨_, _, rfl, h2, rfl⟩⟩⟩ := h
  obtain rfl := rds_val h0
  obtain rfl := rds_val h1
  obtain ⟨A_Credentials, c_Credentials, rfl⟩ := marked_slice h2
  have hwt := Nat.le_of_eq (Account.wt x)
  have hwu := Nat.le_of_eq (Account.wt x).symm
  have hct := Nat.le_of_eq (cntT_Account x)
  have hcu := Nat.le_of_eq (cntT_Account x).symm
  obtain ⟨w1, hw1⟩ : ∃ y, y = w.alloc (.cells #[.int .i64 x.Id, .int .i64 x.Minimum, .slice A_Credentials x.Credentials.length c_Credentials] 35) := ⟨_, rfl⟩
  have op := var_owns w 35 3 [.int .i64 x.Id, .int .i64 x.Minimum, .slice A_Credentials x.Credentials.length c_Credentials] rfl
  have HB : Below w.heap.size w w1 := hw1 ▸ (Below.refl _ _).alloc (Nat.le_refl _) _
  rw [← hw1] at op
  go_enter Tryz.func18, Tryz.ntmps18
  go_wp2_with fail
  rw [← hw1]
  clear hw1
  (with_reducible refine (heldCredentialS _ x.Credentials _ (k) (rds_on h2 HB) (by omega) (by omega) (by omega)).mono ?_); rintro e w2 ⟨rfl, b⟩
  replace op := owns_below op b
  replace HB := HB.trans (b.mono HB.size)
  clear b
  have lp := var_lt op
  go_wp2
  go_ret
  exact ⟨by rw [show k + ((Fx.cntT x.dcs : Nat) : Int) = k + cnt (CredentialsD x.Credentials) by omega]; rfl, HB⟩
end Go.Proofs.YtialhhdhpjjkaaaGreatDoor.Fx
