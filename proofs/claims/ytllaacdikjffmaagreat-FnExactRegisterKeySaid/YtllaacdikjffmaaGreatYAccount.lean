import Derived.Test.YtllaacdikjffmaaGreatBb
import Derived.Test.YtllaacdikjffmaaGreatYCredential
/-
  Account: a struct of the laws as a thing of its own, and the laws' own functions over it.
-/
set_option linter.unusedVariables false
namespace Go.Proofs.YtllaacdikjffmaaGreat.Fx
open Go.ChangeShapes Go.WideShapes Go.ChangeAt Go.RowKit Go.Deep
open S0 S1 S9 S10 Ty Dm Bx
structure Account where
  Id : Int
  Minimum : Int
  Credentials : List Fx.Credential
def Account.dcs (x : Account) : List Dc := [.val (.int .i64 x.Id), .val (.int .i64 x.Minimum), CredentialsD x.Credentials]
theorem Account.len (x : Account) : x.dcs.length = 3 := rfl
structure Account.ok (x : Account) : Prop where
  Id : -9223372036854775808 ≤ x.Id ∧ x.Id ≤ 9223372036854775807
  Minimum : -9223372036854775808 ≤ x.Minimum ∧ x.Minimum ≤ 9223372036854775807
  Credentials_n : x.Credentials.length ≤ maxLen
  Credentials : ∀ y ∈ x.Credentials, y.ok
def tyAccount : Ty := .cons (.int .i64) (.cons (.int .i64) (.cons tyCredentials (.done)))
set_option maxRecDepth 100000 in
theorem Account.is {ds : List Dc} (h : Is tyAccount ds) : ∃ x : Account, ds = x.dcs ∧ x.ok := by
  unfold tyAccount at h
  simp only [Is] at h
  obtain ⟨_, _, rfl, ⟨x0, rfl, h0⟩, ⟨_, _, rfl, ⟨x1, rfl, h1⟩, ⟨_, _, rfl, h2, rfl⟩⟩⟩ := h
  obtain ⟨x2, rfl, l2, h2⟩ := isCredentials h2
  exact ⟨⟨x0, x1, x2⟩, rfl, ⟨M1.i64_wf h0, M1.i64_wf h1, l2, h2⟩⟩
def AccountsD (l : List Account) : Dc := .row 52 3 l.length (l.flatMap Account.dcs)
def tyAccounts : Ty := .slice 73 52 tyAccount
set_option maxRecDepth 100000 in
theorem isAccounts {ds : List Dc} (h : Is tyAccounts ds) : ∃ l : List Account, ds = [AccountsD l] ∧ l.length ≤ maxLen ∧ ∀ x ∈ l, x.ok := by
  unfold tyAccounts at h
  simp only [Is] at h
  obtain ⟨n, cs, rfl, hn, hp⟩ := h
  obtain ⟨l, rfl, rfl, ho⟩ := of_pieces Account.dcs Account.ok (fun ds hd => Account.is hd) n cs hp
  exact ⟨l, rfl, hn, ho⟩
theorem Account.rds {w : World} {hi : Nat} {x : Account} {vs : List Go.Value} (h : RdsL w hi x.dcs vs) : ∃ (A_Credentials : Option Addr) (c_Credentials : Nat), vs = [.int .i64 x.Id, .int .i64 x.Minimum, .slice A_Credentials x.Credentials.length c_Credentials] ∧ Rds w hi (CredentialsD x.Credentials) (.slice A_Credentials x.Credentials.length c_Credentials) := by
  unfold Account.dcs at h
  simp only [RdsL] at h
  obtain ⟨_, _, rfl, h0, ⟨_, _, rfl, h1, ⟨_, _, rfl, h2, rfl⟩⟩⟩ := h
  obtain ⟨A2, c2, rfl⟩ := rds_slice h2
  obtain rfl := rds_val h0
  obtain rfl := rds_val h1
  exact ⟨A2, c2, rfl, h2⟩
theorem Account.owns {w : World} {lo : Nat} {x : Account} {vs : List Go.Value} {bs : List Nat} (h : OwnsL w lo x.dcs vs bs) : ∃ (A_Credentials : Option Addr) (c_Credentials : Nat) (b_Credentials : List Nat), vs = [.int .i64 x.Id, .int .i64 x.Minimum, .slice A_Credentials x.Credentials.length c_Credentials] ∧ Owns w lo (CredentialsD x.Credentials) (.slice A_Credentials x.Credentials.length c_Credentials) b_Credentials ∧ bs = b_Credentials := by
  unfold Account.dcs at h
  simp only [OwnsL] at h
  obtain ⟨_, _, _, _, rfl, h0, ⟨_, _, _, _, rfl, h1, ⟨_, _, _, _, rfl, h2, ⟨rfl, rfl⟩, rfl⟩, rfl⟩, rfl⟩ := h
  obtain ⟨rfl, rfl⟩ := owns_val h0
  obtain ⟨rfl, rfl⟩ := owns_val h1
  obtain ⟨A2, c2, rfl⟩ := owns_slice h2
  exact ⟨A2, c2, _, rfl, h2, by simp⟩
theorem Account.wt (x : Account) : wtL x.dcs = Dm.wt (CredentialsD x.Credentials) := by
  unfold Account.dcs
  simp only [wtL]
  simp only [wt_int]
  first | done | omega
set_option maxHeartbeats 3200000 in
set_option maxRecDepth 100000 in
theorem toAccount (w : World) (x : Account) (vs : List Go.Value) (h : RdsL w w.heap.size x.dcs vs) (hw : wtL x.dcs ≤ 4294967296) : Calls Tryz.prog 47 #[.agg vs.toArray] w (MadeL x.dcs w) := by
  obtain ⟨A_Credentials, c_Credentials, rfl, h_Credentials⟩ := Account.rds h
  have hwt := Nat.le_of_eq (Account.wt x)
  have hwu := Nat.le_of_eq (Account.wt x).symm
  obtain ⟨w1, hw1⟩ : ∃ y, y = w.alloc (.cells #[.int .i64 x.Id, .int .i64 x.Minimum, .slice A_Credentials x.Credentials.length c_Credentials] 73) := ⟨_, rfl⟩
  obtain ⟨w2, hw2⟩ : ∃ y, y = w1.alloc (.cells #[.int .i64 0, .int .i64 0, .slice none 0 0] 52) := ⟨_, rfl⟩
  obtain ⟨w3, hw3⟩ : ∃ y, y = w2.alloc (.cells #[.int .i64 x.Id, .int .i64 x.Minimum, .slice none 0 0] 52) := ⟨_, rfl⟩
  have s1 : w1.heap.size = w.heap.size + 1 := by rw [hw1]; simp
  have s2 : w2.heap.size = w.heap.size + 1 + 1 := by rw [hw2]; simp [s1]
  have s3 : w3.heap.size = w.heap.size + 1 + 1 + 1 := by rw [hw3]; simp [s2]
  have op := var_owns w 73 3 [.int .i64 x.Id, .int .i64 x.Minimum, .slice A_Credentials x.Credentials.length c_Credentials] rfl
  have oz := var_owns w1 52 3 [.int .i64 0, .int .i64 0, .slice none 0 0] rfl
  have oo := var_owns w2 52 3 [.int .i64 x.Id, .int .i64 x.Minimum, .slice none 0 0] rfl
  have b01 : Below w.heap.size w w1 := hw1 ▸ (Below.refl _ _).alloc (Nat.le_refl _) _
  have b12 : Below w1.heap.size w1 w2 := hw2 ▸ (Below.refl _ _).alloc (Nat.le_refl _) _
  have b23 : Below w2.heap.size w2 w3 := hw3 ▸ (Below.refl _ _).alloc (Nat.le_refl _) _
  rw [← hw1] at op
  rw [← hw2, s1] at oz
  rw [← hw3, s2] at oo
  replace op := owns_below (owns_below op b12) b23
  replace oz := owns_below oz b23
  have HB : Below w.heap.size w w3 := b01.trans ((b12.trans (b23.mono b12.size)).mono b01.size)
  clear b01 b12 b23
  go_enter Tryz.func47, Tryz.ntmps47
  go_wp2_with fail
  rw [← hw1, ← hw2, ← hw3]
  clear hw1 hw2 hw3 s1 s2
  have z3 : w.heap.size + 1 + 1 < w3.heap.size := by omega
  (with_reducible refine (toCredentialS _ x.Credentials _ (rds_on h_Credentials HB) (by omega)).mono ?_); rintro e w4 ⟨v_Credentials, s_Credentials, rfl, o_Credentials, n_Credentials, b⟩
  have zz4 := b.size
  replace op := owns_below op b
  replace oz := owns_below oz b
  replace oo := owns_below oo b
  replace HB := HB.trans (b.mono HB.size)
  obtain ⟨B_Credentials, d_Credentials, rfl⟩ := owns_slice o_Credentials
  have i_Credentials : ∀ q, q ∈ s_Credentials → w3.heap.size ≤ q ∧ q < w4.heap.size := owns_in _ _ _ o_Credentials
  have c2 : w4.cell? ⟨w.heap.size + 1 + 1, 2, none⟩ = some (.slice none 0 0) := var_load oo (by simp) 2 _ rfl
  have f2 : w4.frozen? ⟨w.heap.size + 1 + 1, 2, none⟩ = false := var_frozen oo (by simp) 2 _ rfl
  have lp := var_lt op
  have lo := var_lt oo
  have c0 : w4.cell? ⟨w.heap.size + 1 + 1, 0, none⟩ = some (.int .i64 x.Id) := var_load oo (by simp) 0 _ rfl
  have c1 : w4.cell? ⟨w.heap.size + 1 + 1, 1, none⟩ = some (.int .i64 x.Minimum) := var_load oo (by simp) 1 _ rfl
  have y0 : w4.cell? ⟨w.heap.size + 1, 0, none⟩ = some (.int .i64 0) := var_load oz (by simp) 0 _ rfl
  have x0 : w4.frozen? ⟨w.heap.size + 1, 0, none⟩ = false := var_frozen oz (by simp) 0 _ rfl
  have y1 : w4.cell? ⟨w.heap.size + 1, 1, none⟩ = some (.int .i64 0) := var_load oz (by simp) 1 _ rfl
  have x1 : w4.frozen? ⟨w.heap.size + 1, 1, none⟩ = false := var_frozen oz (by simp) 1 _ rfl
  have y2 : w4.cell? ⟨w.heap.size + 1, 2, none⟩ = some (.slice none 0 0) := var_load oz (by simp) 2 _ rfl
  have x2 : w4.frozen? ⟨w.heap.size + 1, 2, none⟩ = false := var_frozen oz (by simp) 2 _ rfl
  have lz := var_lt oz
  clear b
  go_wp2
  clear c2 f2 lp lo c0 c1 y0 x0 y1 x1 y2 x2 lz
  obtain ⟨w5, hq⟩ : ∃ y, y = setAll w4 (w.heap.size + 1 + 1) 2 [.slice B_Credentials x.Credentials.length d_Credentials] := ⟨_, rfl⟩
  obtain ⟨oo2, tt⟩ := var_some [.slice B_Credentials x.Credentials.length d_Credentials] 2 _ _ oo (by simp)
  rw [← hq] at oo2 tt
  replace oo : Owns w5 _ (varD 52 3 [.int .i64 x.Id, .int .i64 x.Minimum, .slice B_Credentials x.Credentials.length d_Credentials]) _ _ := oo2
  clear oo2
  have zq5 := tt.2.2.2.1
  replace op := owns_turned op tt (fun b hb hb2 => by simp at hb hb2; omega)
  replace oz := owns_turned oz tt (fun b hb hb2 => by simp at hb hb2; omega)
  replace o_Credentials := owns_turned o_Credentials tt (fun b hb hb2 => by have h1 := i_Credentials b hb; simp at hb2; omega)
  replace HB := below_turned HB tt (fun b hb => by simp at hb; omega)
  obtain ⟨wf, hf⟩ : ∃ y, y = setAll w5 (w.heap.size + 1) 0 [.int .i64 x.Id, .int .i64 x.Minimum, .slice B_Credentials x.Credentials.length d_Credentials] := ⟨_, rfl⟩
  obtain ⟨oz2, t2⟩ := var_some [.int .i64 x.Id, .int .i64 x.Minimum, .slice B_Credentials x.Credentials.length d_Credentials] 0 _ _ oz (by simp)
  rw [← hf] at oz2 t2
  have zf := t2.2.2.2.1
  replace oz : Owns wf _ (varD 52 3 [.int .i64 x.Id, .int .i64 x.Minimum, .slice B_Credentials x.Credentials.length d_Credentials]) _ _ := oz2
  have y0 : wf.cell? ⟨w.heap.size + 1, 0, none⟩ = some (.int .i64 x.Id) := var_load oz (by simp) 0 _ rfl
  have y1 : wf.cell? ⟨w.heap.size + 1, 1, none⟩ = some (.int .i64 x.Minimum) := var_load oz (by simp) 1 _ rfl
  have y2 : wf.cell? ⟨w.heap.size + 1, 2, none⟩ = some (.slice B_Credentials x.Credentials.length d_Credentials) := var_load oz (by simp) 2 _ rfl
  replace o_Credentials := owns_turned o_Credentials t2 (fun b hb hb2 => by have h1 := i_Credentials b hb; simp at hb2; omega)
  replace HB := below_turned HB t2 (fun b hb => by simp at hb; omega)
  have hg : ((((w4).setCell ⟨w.heap.size + 1 + 1, 2, none⟩ (.slice B_Credentials x.Credentials.length d_Credentials)).setCell ⟨w.heap.size + 1, 0, none⟩ (.int .i64 x.Id)).setCell ⟨w.heap.size + 1, 1, none⟩ (.int .i64 x.Minimum)).setCell ⟨w.heap.size + 1, 2, none⟩ (.slice B_Credentials x.Credentials.length d_Credentials) = wf := by rw [hf, hq]; rfl
  rw [hg]
  clear hg hf hq
  have ND := nodup_last n_Credentials i_Credentials
  have hown : OwnsL wf w.heap.size x.dcs [.int .i64 x.Id, .int .i64 x.Minimum, .slice B_Credentials x.Credentials.length d_Credentials] (s_Credentials) := ownsL_app (vals_own wf w.heap.size [.int .i64 x.Id]) (ownsL_app (vals_own wf w.heap.size [.int .i64 x.Minimum]) ((ownsL_one (owns_base (by omega) _ _ _ o_Credentials))))
  refine bodyPost_ret (v := .agg #[.int .i64 x.Id, .int .i64 x.Minimum, .slice B_Credentials x.Credentials.length d_Credentials]) (by simp [results, Tryz.results47, go_sem, y0, y1, y2]) rfl ⟨[.int .i64 x.Id, .int .i64 x.Minimum, .slice B_Credentials x.Credentials.length d_Credentials], _, rfl, hown, ND.1, HB⟩
set_option maxHeartbeats 3200000 in
set_option maxRecDepth 100000 in
theorem eqAccount (w : World) (x : Account) (us vs : List Value) (h : RdsL w w.heap.size x.dcs us) (h2 : RdsL w w.heap.size x.dcs vs) (hw : wtL x.dcs ≤ 4294967296) : Calls Tryz.prog 60 #[.agg us.toArray, .agg vs.toArray] w (Gives (.bool true) w) := by
  obtain ⟨A_Credentials, c_Credentials, rfl, h_Credentials⟩ := Account.rds h
  obtain ⟨A2_Credentials, c2_Credentials, rfl, k_Credentials⟩ := Account.rds h2
  have hwt := Nat.le_of_eq (Account.wt x)
  have hwu := Nat.le_of_eq (Account.wt x).symm
  obtain ⟨w1, hw1⟩ : ∃ y, y = w.alloc (.cells #[.int .i64 x.Id, .int .i64 x.Minimum, .slice A_Credentials x.Credentials.length c_Credentials] 52) := ⟨_, rfl⟩
  obtain ⟨w2, hw2⟩ : ∃ y, y = w1.alloc (.cells #[.int .i64 x.Id, .int .i64 x.Minimum, .slice A2_Credentials x.Credentials.length c2_Credentials] 52) := ⟨_, rfl⟩
  have s1 : w1.heap.size = w.heap.size + 1 := by rw [hw1]; simp
  have op := var_owns w 52 3 [.int .i64 x.Id, .int .i64 x.Minimum, .slice A_Credentials x.Credentials.length c_Credentials] rfl
  have oz := var_owns w1 52 3 [.int .i64 x.Id, .int .i64 x.Minimum, .slice A2_Credentials x.Credentials.length c2_Credentials] rfl
  have b01 : Below w.heap.size w w1 := hw1 ▸ (Below.refl _ _).alloc (Nat.le_refl _) _
  have b12 : Below w1.heap.size w1 w2 := hw2 ▸ (Below.refl _ _).alloc (Nat.le_refl _) _
  rw [← hw1] at op
  rw [← hw2, s1] at oz
  replace op := owns_below op b12
  have HB : Below w.heap.size w w2 := b01.trans (b12.mono b01.size)
  clear b01 b12
  go_enter Tryz.func60, Tryz.ntmps60
  go_wp2_with fail
  rw [← hw1, ← hw2]
  clear hw1 hw2 s1
  (with_reducible refine (eqCredentialS _ x.Credentials _ _ (rds_on h_Credentials HB) (rds_on k_Credentials HB) (by omega)).mono ?_); rintro e w3 ⟨rfl, b⟩
  replace op := owns_below op b
  replace oz := owns_below oz b
  replace HB := HB.trans (b.mono HB.size)
  clear b
  have lp := var_lt op
  have lz := var_lt oz
  go_wp2
  go_ret
  exact ⟨rfl, HB⟩
set_option maxHeartbeats 3200000 in
set_option maxRecDepth 100000 in
theorem szAccount (w : World) (x : Account) (vs : List Go.Value) (z : Int) (h : RdsL w w.heap.size x.dcs vs) (ho : x.ok) (hz0 : 0 ≤ z) (hz1 : z ≤ 1048576) :
    Calls Tryz.prog 40 #[.agg vs.toArray, .int .i64 z] w (Gives (.int .i64 (if (wtL x.dcs : Int) ≤ z then z - wtL x.dcs else -1)) w) := by
  obtain ⟨A_Credentials, c_Credentials, rfl, h_Credentials⟩ := Account.rds h
  have hwt := Nat.le_of_eq (Account.wt x)
  have hwu := Nat.le_of_eq (Account.wt x).symm
  obtain ⟨r, hr⟩ : ∃ r : Int, r = if (wtL x.dcs : Int) ≤ z then z - wtL x.dcs else -1 := ⟨_, rfl⟩
  rw [← hr]
  have HR := Lib.hid hr
  clear hr
  obtain ⟨w1, hw1⟩ : ∃ y, y = w.alloc (.cells #[.int .i64 x.Id, .int .i64 x.Minimum, .slice A_Credentials x.Credentials.length c_Credentials] 73) := ⟨_, rfl⟩
  have op := var_owns w 73 3 [.int .i64 x.Id, .int .i64 x.Minimum, .slice A_Credentials x.Credentials.length c_Credentials] rfl
  have HB : Below w.heap.size w w1 := hw1 ▸ (Below.refl _ _).alloc (Nat.le_refl _) _
  rw [← hw1] at op
  go_enter Tryz.func40, Tryz.ntmps40
  go_wp2_with fail
  rw [← hw1]
  clear hw1
  (with_reducible refine (szCredentialS _ x.Credentials _ z (rds_on h_Credentials HB) ho.Credentials_n ho.Credentials (by omega) (by omega)).mono ?_); rintro e w2 ⟨rfl, b⟩
  replace op := owns_below op b
  replace HB := HB.trans (b.mono HB.size)
  clear b
  have lp0 := var_lt op
  by_cases hl0 : (Dm.wt (CredentialsD x.Credentials) : Int) ≤ z
  · rw [if_pos hl0]
    obtain rfl : r = (z - (Dm.wt (CredentialsD x.Credentials) : Int)) := by rw [HR.out, if_pos (by omega)]; omega
    go_wp2
    go_ret
    exact ⟨rfl, HB⟩
  · rw [if_neg hl0]
    obtain rfl : r = -1 := by rw [HR.out, if_neg (by omega)]
    go_wp2
    go_ret
    exact ⟨rfl, HB⟩
set_option maxRecDepth 100000 in
theorem Account_info : (Tryz.prog.info? 52).map (fun i => (i.zero, i.size, i.bytes)) = some (some (.agg #[.int .i64 0, .int .i64 0, .slice none 0 0]), 3, 40) := by kernel_rfl
theorem wt_Accounts (l : List Account) : Dm.wt (AccountsD l) = l.length + wtL (l.flatMap Account.dcs) := by unfold AccountsD; simp only [Dm.wt]
theorem cntL_Account (x : Account) : cntL x.dcs = 2 + cnt (CredentialsD x.Credentials) := by
  unfold Account.dcs
  simp only [cntL, cnt_plain]
  first | done | omega
theorem cntb_Account (x : Account) : cntL x.dcs ≤ 64 + 64 * wtL x.dcs := by
  rw [cntL_Account, Account.wt]
  have h_Credentials := cnt_Credentials (x.Credentials)
  omega
theorem cnt_Accounts (l : List Account) : cnt (AccountsD l) ≤ 64 * Dm.wt (AccountsD l) := by
  rw [wt_Accounts]
  unfold AccountsD
  simp only [cnt]
  exact cnt_flatMap Account.dcs cntb_Account l
set_option maxHeartbeats 3200000 in
set_option maxRecDepth 100000 in
theorem toAccountS (w : World) (l : List Account) (v : Value) (hr : Rds w w.heap.size (AccountsD l) v) (hw : Dm.wt (AccountsD l) ≤ 4294967296) : Calls Tryz.prog 21 #[v] w (MadeD (AccountsD l) w) := by
  obtain ⟨i0, hi, hz0, hz1, hz2⟩ := info_parts Account_info
  rw [wt_Accounts] at hw
  obtain ⟨A, c, rfl⟩ := rds_slice hr
  obtain ⟨n, hln⟩ : ∃ n, n = l.length := ⟨_, rfl⟩
  have HR := Lib.hid hr
  have HD := Lib.hid (show ∀ x ∈ l, wtL x.dcs ≤ 4294967296 from fun x hx => by have := wt_mem Account.dcs hx; omega)
  have hn : n ≤ 4294967296 := by omega
  rw [← hln]
  clear hr hw
  have HL := Lib.hid hln
  clear hln
  go_enter Tryz.func21, Tryz.ntmps21
  go_wp2_with (at_make; refine wpList_make_full _ rfl _ _ 30 rfl w.heap.size 52 i0 (.agg #[.int .i64 0, .int .i64 0, .slice none 0 0]) 3 Tryz.underlying30 hi hz0 hz1 _ _ _ _ n rfl rfl rfl rfl (by rw [hz2]; omega) (by unfold maxLen; omega) (Nat.le_refl _) ?_; intro w1 hown hgrow)
  have HF : Bs.Fill 52 3 n w ((l.take 0).flatMap Account.dcs) ((n - 0) * 3) w1 := ⟨[], _, [], by rw [List.nil_append]; exact hown, by have := hown.1; omega, by simp [OwnsL], by simp, below_grown hgrow (Nat.le_refl _) (fun _ h => by cases h)⟩
  clear hown hgrow
  go_loopw [4] (fun i wr => ∃ k : Nat, k ≤ n ∧ i = .int .i64 k ∧ Bs.Fill 52 3 n w ((l.take k).flatMap Account.dcs) ((n - k) * 3) wr) (fun i _ => n - (intOf i).toNat)
  case atStart => exact ⟨0, by omega, rfl, HF⟩
  case round =>
    obtain ⟨k, hk, rfl, HF⟩ := hrel
    by_cases hlt : k < n
    · obtain ⟨b, hb⟩ := get_some l (i := k) (by rw [← HL.out]; exact hlt)
      have hbw : Below w.heap.size w wr := by obtain ⟨_, _, _, _, _, _, _, h⟩ := HF; exact h
      have hws := hbw.size
      obtain ⟨vp, tail, bs, ho, ht, _, _, _⟩ := id HF
      have hfl : vp.length + tail.length = n * 3 := by have := ho.1; rw [List.length_append] at this; exact this
      obtain ⟨g, off, us, rfl, hg, hru, hc⟩ := piece_at Account.len (by omega) (rds_keep hbw.block _ _ HR.out) hb
      obtain ⟨A_Credentials, c_Credentials, rfl, h_Credentials⟩ := Account.rds hru
      have c0 : wr.cell? ⟨g, off + k * 3, none⟩ = some (.int .i64 b.Id) := hc 0 _ rfl
      have c1 : wr.cell? ⟨g, off + k * 3 + 1, none⟩ = some (.int .i64 b.Minimum) := hc 1 _ rfl
      have c2 : wr.cell? ⟨g, off + k * 3 + 2, none⟩ = some (.slice A_Credentials b.Credentials.length c_Credentials) := hc 2 _ rfl
      have HU := Lib.hid hru
      clear hc hru
      have HB := Lib.hid hb
      have HW := Lib.hid hbw
      have hdl := HD.out b (List.mem_of_getElem? hb)
      clear hb
      have HF1 := Lib.hid HF
      have HO := Lib.hid ho
      clear HF ho hbw ht hfl h_Credentials
      go_wp2_with fail
      (with_reducible refine (toAccount _ b _ (rdsL_more hws _ _ HU.out) hdl).mono ?_); rintro e w2 ⟨vs2, s2, rfl, o2, n2, b2⟩
      have O2 := Lib.hid o2
      obtain ⟨A2_Credentials, c2_Credentials, b2_Credentials, rfl, -, -⟩ := Account.owns o2
      have ho2 := own_below HO.out b2
      obtain ⟨z0, q0, f0⟩ := Bs.stored_any ho2 (k * 3) (by omega)
      obtain ⟨z1, q1, f1⟩ := Bs.stored_any ho2 (k * 3 + 1) (by omega)
      obtain ⟨z2, q2, f2⟩ := Bs.stored_any ho2 (k * 3 + 2) (by omega)
      have hgg := (ho2.lt _ rfl).2
      have hnk : (n - k) * 3 = (n - (k + 1)) * 3 + 3 := by omega
      rw [hnk] at HF1
      have HN := fill_many (p := k * 3) HF1.out (by rw [flat_len Account.len, List.length_take, ← HL.out, Nat.min_eq_left (by omega)]) b2 O2.out n2 rfl
      rw [← take_next HB.out] at HN
      replace HN := Lib.hid HN
      clear o2 ho2 hnk HF1 O2
      go_wp2
      go_roundw
      case rel => exact ⟨k + 1, by omega, by go_num, HN.out⟩
      case measure => simp [intOf]; omega
    · have hkn : k = n := by omega
      have hd : decide (k < n) = false := by simp; omega
      rw [hkn, Nat.sub_self, Nat.zero_mul, show l.take n = l by rw [HL.out, List.take_length]] at HF
      clear hkn
      obtain ⟨bs, h1, h2, h3⟩ := Bs.fill_end HF
      go_wp2
      go_ret
      refine ⟨_, bs, rfl, ?_, h2, h3⟩
      unfold AccountsD
      rw [← HL.out]
      exact h1
set_option maxHeartbeats 3200000 in
set_option maxRecDepth 100000 in
theorem eqAccountS (w : World) (l : List Account) (u v : Value) (hu : Rds w w.heap.size (AccountsD l) u) (hv : Rds w w.heap.size (AccountsD l) v) (hw : Dm.wt (AccountsD l) ≤ 4294967296) : Calls Tryz.prog 27 #[u, v] w (Gives (.bool true) w) := by
  rw [wt_Accounts] at hw
  obtain ⟨A, c, rfl⟩ := rds_slice hu
  obtain ⟨A2, c2, rfl⟩ := rds_slice hv
  obtain ⟨n, hln⟩ : ∃ n, n = l.length := ⟨_, rfl⟩
  have HR := Lib.hid hu
  have HS := Lib.hid hv
  have HD := Lib.hid (show ∀ x ∈ l, wtL x.dcs ≤ 4294967296 from fun x hx => by have := wt_mem Account.dcs hx; omega)
  have hn : n ≤ 4294967296 := by omega
  rw [← hln]
  clear hu hv hw
  have HL := Lib.hid hln
  clear hln
  go_enter Tryz.func27, Tryz.ntmps27
  go_wp2
  go_loopw [5] (fun i wr => ∃ k : Nat, k ≤ n ∧ i = .int .i64 k ∧ Below w.heap.size w wr) (fun i _ => n - (intOf i).toNat)
  case atStart => exact ⟨0, by omega, rfl, Below.refl _ _⟩
  case round =>
    obtain ⟨k, hk, rfl, HW⟩ := hrel
    by_cases hlt : k < n
    · obtain ⟨b, hb⟩ := get_some l (i := k) (by rw [← HL.out]; exact hlt)
      have hws := HW.size
      obtain ⟨g, off, us, rfl, hg, hru, hc⟩ := piece_at Account.len (by omega) (rds_keep HW.block _ _ HR.out) hb
      obtain ⟨g2, off2, us2, rfl, hg2, hru2, hc2⟩ := piece_at Account.len (by omega) (rds_keep HW.block _ _ HS.out) hb
      obtain ⟨A_Credentials, c_Credentials, rfl, -⟩ := Account.rds hru
      obtain ⟨A2_Credentials, c2_Credentials, rfl, -⟩ := Account.rds hru2
      have c0 : wr.cell? ⟨g, off + k * 3, none⟩ = some (.int .i64 b.Id) := hc 0 _ rfl
      have d0 : wr.cell? ⟨g2, off2 + k * 3, none⟩ = some (.int .i64 b.Id) := hc2 0 _ rfl
      have c1 : wr.cell? ⟨g, off + k * 3 + 1, none⟩ = some (.int .i64 b.Minimum) := hc 1 _ rfl
      have d1 : wr.cell? ⟨g2, off2 + k * 3 + 1, none⟩ = some (.int .i64 b.Minimum) := hc2 1 _ rfl
      have c2 : wr.cell? ⟨g, off + k * 3 + 2, none⟩ = some (.slice A_Credentials b.Credentials.length c_Credentials) := hc 2 _ rfl
      have d2 : wr.cell? ⟨g2, off2 + k * 3 + 2, none⟩ = some (.slice A2_Credentials b.Credentials.length c2_Credentials) := hc2 2 _ rfl
      have hdl := HD.out b (List.mem_of_getElem? hb)
      have RB := Lib.hid (rdsL_on (rdsL_more hws _ _ hru) (drewN_below wr 1 _))
      have RB2 := Lib.hid (rdsL_on (rdsL_more hws _ _ hru2) (drewN_below wr 1 _))
      clear hb hc hc2 hru hru2
      go_wp2_with fail
      go_region_with (go_at_call 60; refine (eqAccount _ b _ _ RB.out RB2.out hdl).mono ?_; rintro e w2 ⟨rfl, b2⟩)
      all_goals
        have HW2 : Below w.heap.size w w2 := HW.trans ((drewN_below wr 1 _).trans (b2.mono hws))
        go_wp2
        go_roundw
        case rel => exact ⟨k + 1, by omega, by go_num, HW2⟩
        case measure => simp [intOf]; omega
    · have hd : decide (k < n) = false := by simp; omega
      go_wp2
      go_ret
      exact ⟨rfl, HW⟩
set_option maxHeartbeats 3200000 in
set_option maxRecDepth 100000 in
theorem markAccountS (w : World) (base : Nat) (l : List Account) (v : Value) (bs : List Nat) (k : Int) (ho : Owns w base (AccountsD l) v bs) (hnd : bs.Nodup) (hw : Dm.wt (AccountsD l) ≤ 4294967296) (hk0 : 0 ≤ k) (hk1 : k + cnt (AccountsD l) ≤ 1099511627776) :
    Calls Tryz.prog 30 #[v, .int .i64 k] w (MarkD (AccountsD l) k base v bs w) := by
  rw [wt_Accounts] at hw
  obtain ⟨A, c, rfl⟩ := owns_slice ho
  obtain ⟨n, hln⟩ : ∃ n, n = l.length := ⟨_, rfl⟩
  have HF : Mkg 52 3 l.length base (l.flatMap Account.dcs) k A l.length c bs w 0 w := mkg_start ho hnd
  have hcl := flat_len Account.len l
  have hkc := fun p => kP_le (cs := l.flatMap Account.dcs) (k := k) (p := p)
  have hcc : cnt (AccountsD l) = cntL (l.flatMap Account.dcs) := by unfold AccountsD; simp only [cnt]
  rw [hcc] at hk1
  have HC := Lib.hid hcc
  have HD := Lib.hid (show ∀ x ∈ l, wtL x.dcs ≤ 4294967296 from fun x hx => by have := wt_mem Account.dcs hx; omega)
  have hn : n ≤ 4294967296 := by omega
  rw [← hln] at hcl HF ⊢
  have HK := Lib.hid hkc
  have HCL := Lib.hid hcl
  have HL := Lib.hid hln
  clear ho hnd hw hcc hln hkc hcl
  have hz : kP (l.flatMap Account.dcs) k 0 = k := kP_zero _ _
  go_enter Tryz.func30, Tryz.ntmps30
  go_wp2
  go_loopw [1, 5] (fun q i wr => ∃ j : Nat, j ≤ n ∧ i = .int .i64 j ∧ q = .int .i64 (kP (l.flatMap Account.dcs) k (j * 3)) ∧ Mkg 52 3 n base (l.flatMap Account.dcs) k A n c bs w (j * 3) wr) (fun _ i _ => n - (intOf i).toNat)
  case atStart => exact ⟨0, by omega, rfl, by rw [Nat.zero_mul, hz], by rw [Nat.zero_mul]; exact HF⟩
  case round =>
    obtain ⟨j, hj, rfl, rfl, HM⟩ := hrel
    clear HF hz
    by_cases hlt : j < n
    · obtain ⟨b, hb⟩ := get_some l (i := j) (by rw [← HL.out]; exact hlt)
      have hdl := HD.out b (List.mem_of_getElem? hb)
      have e0 : (l.flatMap Account.dcs)[j * 3]? = some (.val (.int .i64 b.Id)) := flat_at Account.len l j b 0 hb (by omega)
      have e1 : (l.flatMap Account.dcs)[j * 3 + 1]? = some (.val (.int .i64 b.Minimum)) := flat_at Account.len l j b 1 hb (by omega)
      have e2 : (l.flatMap Account.dcs)[j * 3 + 2]? = some (CredentialsD b.Credentials) := flat_at Account.len l j b 2 hb (by omega)
      obtain ⟨q, hq⟩ : ∃ q, q = kP (l.flatMap Account.dcs) k (j * 3) := ⟨_, rfl⟩
      have k0 : kP (l.flatMap Account.dcs) k (j * 3) = q := hq.symm
      have k1 : kP (l.flatMap Account.dcs) k (j * 3 + 1) = q + 1 := by rw [show j * 3 + 1 = (j * 3) + 1 from rfl, kP_val e0, k0]
      have k2 : kP (l.flatMap Account.dcs) k (j * 3 + 2) = q + 1 + 1 := by rw [show j * 3 + 2 = (j * 3 + 1) + 1 from rfl, kP_val e1, k1]
      have k3 : kP (l.flatMap Account.dcs) k (j * 3 + 3) = q + 1 + 1 + cnt (CredentialsD b.Credentials) := by rw [show j * 3 + 3 = (j * 3 + 2) + 1 from rfl, kP_step e2, k2]
      have kz : kP (l.flatMap Account.dcs) k ((j + 1) * 3) = q + 1 + 1 + cnt (CredentialsD b.Credentials) := by rw [show (j + 1) * 3 = j * 3 + 3 by omega]; exact k3
      have q0 := (HK.out (j * 3)).1
      have q4 := (HK.out ((j + 1) * 3)).2
      rw [kz] at q4
      rw [k0] at q0 ⊢
      clear hq
      rw [Account.wt] at hdl
      obtain ⟨g, off, rfl, hbg, hgs⟩ := mkg_addr HM e0
      have M0 := HM
      clear HM hb
      obtain ⟨c0, f0, M1⟩ := mkg_int k0 (show off + (j * 3) = off + j * 3 from rfl) M0 e0
      obtain ⟨c1, f1, M2⟩ := mkg_int k1 (show off + (j * 3 + 1) = off + j * 3 + 1 from rfl) M1 e1
      obtain ⟨u2, b2, c2, o2, n2, N2⟩ := mkg_rowK k2 (show off + (j * 3 + 2) = off + j * 3 + 2 from rfl) M2 e2
      obtain ⟨A2, d2, rfl⟩ := owns_slice o2
      have O2 := Lib.hid o2
      have H2 := Lib.hid N2
      clear o2 N2
      clear M2
      go_wp2_with fail
      (with_reducible refine (markCredentialS _ base b.Credentials _ _ (q + 1 + 1) O2.out n2 (by omega) (by omega) (by omega)).mono ?_); rintro e w5 ⟨rfl, oq, tq⟩
      have M3 := H2.out w5 oq tq
      clear oq tq H2 O2 c0 f0 c1 f1
      have H4 := Lib.hid (show Mkg 52 3 n base (l.flatMap Account.dcs) k (some ⟨g, off, none⟩) n c bs w ((j + 1) * 3) _ by rw [show (j + 1) * 3 = j * 3 + 3 by omega]; exact M3)
      have HZ := Lib.hid kz
      clear M1 M3 e0 e1 e2 k0 k1 k2 k3 kz M0
      go_wp2
      go_roundw
      case rel => exact ⟨j + 1, by omega, by go_num, by rw [HZ.out], H4.out⟩
      case measure => simp [intOf]; omega
    · have hd : decide (j < n) = false := by simp; omega
      have hjn : n = j := by omega
      subst hjn
      obtain ⟨h1, h2⟩ := mkg_end HM HCL.out
      have hk2 : kP (l.flatMap Account.dcs) k (n * 3) = k + cntL (l.flatMap Account.dcs) := kP_all _ _ _ HCL.out
      rw [hk2]
      have H1 := Lib.hid h1
      have H2 := Lib.hid h2
      clear HM h1 h2 hk2
      go_wp2
      go_ret
      refine ⟨by rw [HC.out]; rfl, ?_, H2.out⟩
      have := H1.out
      unfold AccountsD
      rw [← HL.out]
      exact this
set_option maxHeartbeats 3200000 in
set_option maxRecDepth 100000 in
theorem heldAccountS (w : World) (l : List Account) (v : Value) (k : Int) (hr : Rds w w.heap.size (mk (AccountsD l) k) v) (hw : Dm.wt (AccountsD l) ≤ 4294967296) (hk0 : 0 ≤ k) (hk1 : k + cnt (AccountsD l) ≤ 1099511627776) :
    Calls Tryz.prog 33 #[v, .int .i64 k] w (Gives (.int .i64 (k + cnt (AccountsD l))) w) := by
  rw [wt_Accounts] at hw
  unfold AccountsD at hr
  obtain ⟨A, c, rfl⟩ := marked_slice hr
  obtain ⟨n, hln⟩ : ∃ n, n = l.length := ⟨_, rfl⟩
  have hcl := flat_len Account.len l
  have hkc := fun p => kP_le (cs := l.flatMap Account.dcs) (k := k) (p := p)
  have hcc : cnt (AccountsD l) = cntL (l.flatMap Account.dcs) := by unfold AccountsD; simp only [cnt]
  rw [hcc] at hk1 ⊢
  have HD := Lib.hid (show ∀ x ∈ l, wtL x.dcs ≤ 4294967296 from fun x hx => by have := wt_mem Account.dcs hx; omega)
  have hn : n ≤ 4294967296 := by omega
  have HR := Lib.hid hr
  rw [← hln] at hcl HR ⊢
  have HK := Lib.hid hkc
  have HCL := Lib.hid hcl
  have HL := Lib.hid hln
  clear hr hw hcc hln hkc hcl
  have hz : kP (l.flatMap Account.dcs) k 0 = k := kP_zero _ _
  go_enter Tryz.func33, Tryz.ntmps33
  go_wp2
  go_loopw [1, 5] (fun q i wr => ∃ j : Nat, j ≤ n ∧ i = .int .i64 j ∧ q = .int .i64 (kP (l.flatMap Account.dcs) k (j * 3)) ∧ Below w.heap.size w wr) (fun _ i _ => n - (intOf i).toNat)
  case atStart => exact ⟨0, by omega, rfl, by rw [Nat.zero_mul, hz], Below.refl _ _⟩
  case round =>
    obtain ⟨j, hj, rfl, rfl, HW⟩ := hrel
    clear hz
    by_cases hlt : j < n
    · obtain ⟨b, hb⟩ := get_some l (i := j) (by rw [← HL.out]; exact hlt)
      have hdl := HD.out b (List.mem_of_getElem? hb)
      have e0 : (l.flatMap Account.dcs)[j * 3]? = some (.val (.int .i64 b.Id)) := flat_at Account.len l j b 0 hb (by omega)
      have e1 : (l.flatMap Account.dcs)[j * 3 + 1]? = some (.val (.int .i64 b.Minimum)) := flat_at Account.len l j b 1 hb (by omega)
      have e2 : (l.flatMap Account.dcs)[j * 3 + 2]? = some (CredentialsD b.Credentials) := flat_at Account.len l j b 2 hb (by omega)
      obtain ⟨q, hq⟩ : ∃ q, q = kP (l.flatMap Account.dcs) k (j * 3) := ⟨_, rfl⟩
      have k0 : kP (l.flatMap Account.dcs) k (j * 3) = q := hq.symm
      have k1 : kP (l.flatMap Account.dcs) k (j * 3 + 1) = q + 1 := by rw [show j * 3 + 1 = (j * 3) + 1 from rfl, kP_val e0, k0]
      have k2 : kP (l.flatMap Account.dcs) k (j * 3 + 2) = q + 1 + 1 := by rw [show j * 3 + 2 = (j * 3 + 1) + 1 from rfl, kP_val e1, k1]
      have k3 : kP (l.flatMap Account.dcs) k (j * 3 + 3) = q + 1 + 1 + cnt (CredentialsD b.Credentials) := by rw [show j * 3 + 3 = (j * 3 + 2) + 1 from rfl, kP_step e2, k2]
      have kz : kP (l.flatMap Account.dcs) k ((j + 1) * 3) = q + 1 + 1 + cnt (CredentialsD b.Credentials) := by rw [show (j + 1) * 3 = j * 3 + 3 by omega]; exact k3
      have q0 := (HK.out (j * 3)).1
      have q4 := (HK.out ((j + 1) * 3)).2
      rw [kz] at q4
      rw [k0] at q0 ⊢
      clear hq
      rw [Account.wt] at hdl
      have hws := HW.size
      obtain ⟨g, off, rfl, hg, hat⟩ := held_at Account.len (rds_keep HW.block _ _ HR.out) hb (by omega)
      obtain ⟨u0, c0, r0⟩ := hat 0 _ (by omega) rfl
      rw [Nat.add_zero, k0] at r0
      obtain rfl : u0 = .int .i64 (q) := rds_val r0
      replace c0 : wr.cell? ⟨g, off + j * 3, none⟩ = some _ := c0
      obtain ⟨u1, c1, r1⟩ := hat 1 _ (by omega) rfl
      rw [show j * 3 + 1 = j * 3 + 1 from rfl, k1] at r1
      obtain rfl : u1 = .int .i64 (q + 1) := rds_val r1
      replace c1 : wr.cell? ⟨g, off + j * 3 + 1, none⟩ = some _ := c1
      obtain ⟨u2, c2, r2⟩ := hat 2 _ (by omega) rfl
      rw [show j * 3 + 2 = j * 3 + 2 from rfl, k2] at r2
      obtain ⟨A2, d2, rfl⟩ := marked_slice r2
      replace c2 : wr.cell? ⟨g, off + j * 3 + 2, none⟩ = some _ := c2
      have R2 := Lib.hid (rds_more hws _ _ r2)
      have HZ := Lib.hid kz
      clear hat hb kz e0 e1 e2 k0 k1 k2 k3 r0 r1 r2
      go_wp2_with fail
      (with_reducible refine (heldCredentialS _ b.Credentials _ (q + 1 + 1) R2.out (by omega) (by omega) (by omega)).mono ?_); rintro e w3 ⟨rfl, bq⟩
      have BB : Below wr.heap.size wr w3 := bq
      have zz0 := BB.size
      clear bq
      have HW2 : Below w.heap.size w w3 := HW.trans (BB.mono hws)
      go_wp2
      go_roundw
      case rel => exact ⟨j + 1, by omega, by go_num, by rw [HZ.out], HW2⟩
      case measure => simp [intOf]; omega
    · have hd : decide (j < n) = false := by simp; omega
      have hjn : n = j := by omega
      subst hjn
      have hk2 : kP (l.flatMap Account.dcs) k (n * 3) = k + cntL (l.flatMap Account.dcs) := kP_all _ _ _ HCL.out
      rw [hk2]
      clear hk2
      go_wp2
      go_ret
      exact ⟨rfl, HW⟩
set_option maxHeartbeats 3200000 in
set_option maxRecDepth 100000 in
theorem szAccountS (w : World) (l : List Account) (v : Value) (z : Int) (hr : Rds w w.heap.size (AccountsD l) v) (hn : l.length ≤ maxLen) (ho : ∀ x ∈ l, x.ok) (hz0 : 0 ≤ z) (hz1 : z ≤ 1048576) :
    Calls Tryz.prog 14 #[v, .int .i64 z] w (Gives (.int .i64 (if (Dm.wt (AccountsD l) : Int) ≤ z then z - Dm.wt (AccountsD l) else -1)) w) := by
  obtain ⟨A, c, rfl⟩ := rds_slice hr
  obtain ⟨n, hln⟩ : ∃ n, n = l.length := ⟨_, rfl⟩
  obtain ⟨r, hrr⟩ : ∃ r, r = (if (Dm.wt (AccountsD l) : Int) ≤ z then z - Dm.wt (AccountsD l) else -1 : Int) := ⟨_, rfl⟩
  rw [← hrr]
  rw [wt_Accounts, ← hln] at hrr
  unfold maxLen at hn
  have HO := Lib.hid ho
  have HR := Lib.hid hr
  have HX := Lib.hid hrr
  rw [← hln] at hn ⊢
  have HL := Lib.hid hln
  clear hr ho hln hrr
  by_cases hbig : z < (n : Int)
  · have e : r = -1 := by rw [HX.out, if_neg (by omega)]
    subst e
    clear HX
    go_enter Tryz.func14, Tryz.ntmps14
    go_wp2
    go_ret
    exact ⟨rfl, Below.refl _ _⟩
  go_enter Tryz.func14, Tryz.ntmps14
  go_wp2
  go_loopw [1, 5] (fun q i wr => ∃ k s : Nat, k ≤ n ∧ i = .int .i64 k ∧ q = .int .i64 (z - n - s) ∧ s = wtL ((l.take k).flatMap Account.dcs) ∧ (n : Int) + s ≤ z ∧ Below w.heap.size w wr) (fun _ i _ => n - (intOf i).toNat)
  case atStart => exact ⟨0, 0, by omega, rfl, by simp, by simp [wtL], by omega, Below.refl _ _⟩
  case round =>
    obtain ⟨k, s, hk, rfl, rfl, hs, hsz, HW⟩ := hrel
    have HS := Lib.hid hs
    clear hs
    by_cases hlt : k < n
    · obtain ⟨b, hb⟩ := get_some l (i := k) (by rw [← HL.out]; exact hlt)
      have hob := HO.out b (List.mem_of_getElem? hb)
      have HOB := Lib.hid hob
      clear hob
      have hws := HW.size
      obtain ⟨g, off, us, rfl, hg, hru, hc⟩ := piece_at Account.len (by omega) (rds_keep HW.block _ _ HR.out) hb
      have HU := Lib.hid (rdsL_more hws _ _ hru)
      obtain ⟨A_Credentials, c_Credentials, rfl, -⟩ := Account.rds hru
      have c0 : wr.cell? ⟨g, off + k * 3, none⟩ = some (.int .i64 b.Id) := hc 0 _ rfl
      have c1 : wr.cell? ⟨g, off + k * 3 + 1, none⟩ = some (.int .i64 b.Minimum) := hc 1 _ rfl
      have c2 : wr.cell? ⟨g, off + k * 3 + 2, none⟩ = some (.slice A_Credentials b.Credentials.length c_Credentials) := hc 2 _ rfl
      have HT := Lib.hid (wt_next (f := Account.dcs) hb)
      have HT2 := Lib.hid (wt_split (f := Account.dcs) l (k + 1))
      clear hb hc hru
      obtain ⟨m, hm⟩ : ∃ m, m = wtL b.dcs := ⟨_, rfl⟩
      rw [← hm] at HT
      have HM := Lib.hid hm
      clear hm
      go_wp2_with fail
      (with_reducible refine (szAccount _ b _ (z - n - s) HU.out HOB.out (by omega) (by omega)).mono ?_); rintro e w3 ⟨rfl, b3⟩
      rw [← HM.out]
      have HW2 := HW.trans (b3.mono hws)
      clear b3
      by_cases hle : (m : Int) ≤ z - n - s
      · rw [if_pos hle]
        go_wp2
        go_roundw
        case rel => exact ⟨k + 1, s + m, by omega, by go_num, by simp; omega, by rw [HT.out, ← HS.out], by omega, HW2⟩
        case measure => simp [intOf]; omega
      · rw [if_neg hle]
        have e : r = -1 := by
          have h1 := HX.out
          have h2 := HT.out
          have h3 := HT2.out
          have h4 := HS.out
          rw [if_neg (by omega)] at h1
          exact h1
        subst e
        clear HX
        go_wp2
        go_ret
        exact ⟨rfl, HW2⟩
    · have hd : decide (k < n) = false := by simp; omega
      have e : r = z - n - s := by
        have h1 := HX.out
        have h4 := HS.out
        have hkn : k = n := by omega
        rw [hkn, show l.take n = l by rw [HL.out, List.take_length]] at h4
        rw [← h4, if_pos (by omega)] at h1
        omega
      subst e
      clear HX
      go_wp2
      go_ret
      exact ⟨rfl, HW⟩
end Go.Proofs.YtllaacdikjffmaaGreat.Fx
