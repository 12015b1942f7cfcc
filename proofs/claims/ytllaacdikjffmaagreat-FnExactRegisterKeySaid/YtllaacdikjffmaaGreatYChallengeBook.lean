import Derived.Test.YtllaacdikjffmaaGreatBb
import Derived.Test.YtllaacdikjffmaaGreatYChallenge
/-
  ChallengeBook: a struct of the laws as a thing of its own, and the laws' own functions over it.
-/
set_option linter.unusedVariables false
namespace Go.Proofs.YtllaacdikjffmaaGreat.Fx
open Go.ChangeShapes Go.WideShapes Go.ChangeAt Go.RowKit Go.Deep
open S0 S1 S9 S10 Ty Dm Bx
structure ChallengeBook where
  Seed : Int
  Next : Int
  Open : List Fx.Challenge
def ChallengeBook.dcs (x : ChallengeBook) : List Dc := [.val (.int .i64 x.Seed), .val (.int .i64 x.Next), ChallengesD x.Open]
theorem ChallengeBook.len (x : ChallengeBook) : x.dcs.length = 3 := rfl
structure ChallengeBook.ok (x : ChallengeBook) : Prop where
  Seed : -9223372036854775808 ≤ x.Seed ∧ x.Seed ≤ 9223372036854775807
  Next : -9223372036854775808 ≤ x.Next ∧ x.Next ≤ 9223372036854775807
  Open_n : x.Open.length ≤ maxLen
  Open : ∀ y ∈ x.Open, y.ok
def tyChallengeBook : Ty := .cons (.int .i64) (.cons (.int .i64) (.cons tyChallenges (.done)))
set_option maxRecDepth 100000 in
theorem ChallengeBook.is {ds : List Dc} (h : Is tyChallengeBook ds) : ∃ x : ChallengeBook, ds = x.dcs ∧ x.ok := by
  unfold tyChallengeBook at h
  simp only [Is] at h
  obtain ⟨_, _, rfl, ⟨x0, rfl, h0⟩, ⟨_, _, rfl, ⟨x1, rfl, h1⟩, ⟨_, _, rfl, h2, rfl⟩⟩⟩ := h
  obtain ⟨x2, rfl, l2, h2⟩ := isChallenges h2
  exact ⟨⟨x0, x1, x2⟩, rfl, ⟨M1.i64_wf h0, M1.i64_wf h1, l2, h2⟩⟩
theorem ChallengeBook.rds {w : World} {hi : Nat} {x : ChallengeBook} {vs : List Go.Value} (h : RdsL w hi x.dcs vs) : ∃ (A_Open : Option Addr) (c_Open : Nat), vs = [.int .i64 x.Seed, .int .i64 x.Next, .slice A_Open x.Open.length c_Open] ∧ Rds w hi (ChallengesD x.Open) (.slice A_Open x.Open.length c_Open) := by
  unfold ChallengeBook.dcs at h
  simp only [RdsL] at h
  obtain ⟨_, _, rfl, h0, ⟨_, _, rfl, h1, ⟨_, _, rfl, h2, rfl⟩⟩⟩ := h
  obtain ⟨A2, c2, rfl⟩ := rds_slice h2
  obtain rfl := rds_val h0
  obtain rfl := rds_val h1
  exact ⟨A2, c2, rfl, h2⟩
theorem ChallengeBook.mkR {w : World} {hi : Nat} {x : ChallengeBook} {A_Open : Option Addr} {c_Open : Nat} (h_Open : Rds w hi (ChallengesD x.Open) (.slice A_Open x.Open.length c_Open)) : RdsL w hi x.dcs [.int .i64 x.Seed, .int .i64 x.Next, .slice A_Open x.Open.length c_Open] := by
  unfold ChallengeBook.dcs
  simp only [RdsL]
  exact ⟨_, _, rfl, by simp [Rds], ⟨_, _, rfl, by simp [Rds], ⟨_, _, rfl, h_Open, rfl⟩⟩⟩
theorem ChallengeBook.owns {w : World} {lo : Nat} {x : ChallengeBook} {vs : List Go.Value} {bs : List Nat} (h : OwnsL w lo x.dcs vs bs) : ∃ (A_Open : Option Addr) (c_Open : Nat) (b_Open : List Nat), vs = [.int .i64 x.Seed, .int .i64 x.Next, .slice A_Open x.Open.length c_Open] ∧ Owns w lo (ChallengesD x.Open) (.slice A_Open x.Open.length c_Open) b_Open ∧ bs = b_Open := by
  unfold ChallengeBook.dcs at h
  simp only [OwnsL] at h
  obtain ⟨_, _, _, _, rfl, h0, ⟨_, _, _, _, rfl, h1, ⟨_, _, _, _, rfl, h2, ⟨rfl, rfl⟩, rfl⟩, rfl⟩, rfl⟩ := h
  obtain ⟨rfl, rfl⟩ := owns_val h0
  obtain ⟨rfl, rfl⟩ := owns_val h1
  obtain ⟨A2, c2, rfl⟩ := owns_slice h2
  exact ⟨A2, c2, _, rfl, h2, by simp⟩
theorem ChallengeBook.mkO {w : World} {lo : Nat} {x : ChallengeBook} {A_Open : Option Addr} {c_Open : Nat} {b_Open : List Nat} (h_Open : Owns w lo (ChallengesD x.Open) (.slice A_Open x.Open.length c_Open) b_Open) : OwnsL w lo x.dcs [.int .i64 x.Seed, .int .i64 x.Next, .slice A_Open x.Open.length c_Open] (b_Open) := by
  unfold ChallengeBook.dcs
  simp only [OwnsL]
  exact ⟨_, _, [], b_Open, rfl, by simp [Owns], ⟨_, _, [], b_Open, rfl, by simp [Owns], ⟨_, _, b_Open, [], rfl, h_Open, ⟨rfl, rfl⟩, by simp⟩, by simp⟩, by simp⟩
theorem ChallengeBook.wt (x : ChallengeBook) : wtL x.dcs = Dm.wt (ChallengesD x.Open) := by
  unfold ChallengeBook.dcs
  simp only [wtL]
  simp only [wt_int]
  first | done | omega
set_option maxHeartbeats 3200000 in
set_option maxRecDepth 100000 in
theorem toChallengeBook (w : World) (x : ChallengeBook) (vs : List Go.Value) (h : RdsL w w.heap.size x.dcs vs) (hw : wtL x.dcs ≤ 4294967296) : Calls Tryz.prog 22 #[.agg vs.toArray] w (MadeL x.dcs w) := by
  obtain ⟨A_Open, c_Open, rfl, h_Open⟩ := ChallengeBook.rds h
  have hwt := Nat.le_of_eq (ChallengeBook.wt x)
  have hwu := Nat.le_of_eq (ChallengeBook.wt x).symm
  obtain ⟨w1, hw1⟩ : ∃ y, y = w.alloc (.cells #[.int .i64 x.Seed, .int .i64 x.Next, .slice A_Open x.Open.length c_Open] 25) := ⟨_, rfl⟩
  obtain ⟨w2, hw2⟩ : ∃ y, y = w1.alloc (.cells #[.int .i64 0, .int .i64 0, .slice none 0 0] 33) := ⟨_, rfl⟩
  obtain ⟨w3, hw3⟩ : ∃ y, y = w2.alloc (.cells #[.int .i64 x.Seed, .int .i64 x.Next, .slice none 0 0] 33) := ⟨_, rfl⟩
  have s1 : w1.heap.size = w.heap.size + 1 := by rw [hw1]; simp
  have s2 : w2.heap.size = w.heap.size + 1 + 1 := by rw [hw2]; simp [s1]
  have s3 : w3.heap.size = w.heap.size + 1 + 1 + 1 := by rw [hw3]; simp [s2]
  have op := var_owns w 25 3 [.int .i64 x.Seed, .int .i64 x.Next, .slice A_Open x.Open.length c_Open] rfl
  have oz := var_owns w1 33 3 [.int .i64 0, .int .i64 0, .slice none 0 0] rfl
  have oo := var_owns w2 33 3 [.int .i64 x.Seed, .int .i64 x.Next, .slice none 0 0] rfl
  have b01 : Below w.heap.size w w1 := hw1 ▸ (Below.refl _ _).alloc (Nat.le_refl _) _
  have b12 : Below w1.heap.size w1 w2 := hw2 ▸ (Below.refl _ _).alloc (Nat.le_refl _) _
  have b23 : Below w2.heap.size w2 w3 := hw3 ▸ (Below.refl _ _).alloc (Nat.le_refl _) _
  rw [← hw1] at op
  rw [← hw2, s1] at oz
  rw [← hw3, s2] at oo
  replace op := owns_below (owns_below op b12) b23
  replace oz := owns_below oz b23
  have HB : Below w.heap.size w w3 := b01.trans ((b12.trans (b23.mono b12.size)).mono b01.size)
  clear b01 b12 b23
  go_enter Tryz.func22, Tryz.ntmps22
  go_wp2_with fail
  rw [← hw1, ← hw2, ← hw3]
  clear hw1 hw2 hw3 s1 s2
  have z3 : w.heap.size + 1 + 1 < w3.heap.size := by omega
  (with_reducible refine (toChallengeS _ x.Open _ (rds_on h_Open HB) (by omega)).mono ?_); rintro e w4 ⟨v_Open, s_Open, rfl, o_Open, n_Open, b⟩
  have zz4 := b.size
  replace op := owns_below op b
  replace oz := owns_below oz b
  replace oo := owns_below oo b
  replace HB := HB.trans (b.mono HB.size)
  obtain ⟨B_Open, d_Open, rfl⟩ := owns_slice o_Open
  have i_Open : ∀ q, q ∈ s_Open → w3.heap.size ≤ q ∧ q < w4.heap.size := owns_in _ _ _ o_Open
  have c2 : w4.cell? ⟨w.heap.size + 1 + 1, 2, none⟩ = some (.slice none 0 0) := var_load oo (by simp) 2 _ rfl
  have f2 : w4.frozen? ⟨w.heap.size + 1 + 1, 2, none⟩ = false := var_frozen oo (by simp) 2 _ rfl
  have lp := var_lt op
  have lo := var_lt oo
  have c0 : w4.cell? ⟨w.heap.size + 1 + 1, 0, none⟩ = some (.int .i64 x.Seed) := var_load oo (by simp) 0 _ rfl
  have c1 : w4.cell? ⟨w.heap.size + 1 + 1, 1, none⟩ = some (.int .i64 x.Next) := var_load oo (by simp) 1 _ rfl
  have y0 : w4.cell? ⟨w.heap.size + 1, 0, none⟩ = some (.int .i64 0) := var_load oz (by simp) 0 _ rfl
  have x0 : w4.frozen? ⟨w.heap.size + 1, 0, none⟩ = false := var_frozen oz (by simp) 0 _ rfl
  have y1 : w4.cell? ⟨w.heap.size + 1, 1, none⟩ = some (.int .i64 0) := var_load oz (by simp) 1 _ rfl
  have x1 : w4.frozen? ⟨w.heap.size + 1, 1, none⟩ = false := var_frozen oz (by simp) 1 _ rfl
  have y2 : w4.cell? ⟨w.heap.size + 1, 2, none⟩ = some (.slice none 0 0) := var_load oz (by simp) 2 _ rfl
  have x2 : w4.frozen? ⟨w.heap.size + 1, 2, none⟩ = false := var_frozen oz (by simp) 2 _ rfl
  have lz := var_lt oz
  clear b
  go_wp2
  clear c2 f2 lp lo c0 c1 y0 x0 y1 x1 y2 x2 lz
  obtain ⟨w5, hq⟩ : ∃ y, y = setAll w4 (w.heap.size + 1 + 1) 2 [.slice B_Open x.Open.length d_Open] := ⟨_, rfl⟩
  obtain ⟨oo2, tt⟩ := var_some [.slice B_Open x.Open.length d_Open] 2 _ _ oo (by simp)
  rw [← hq] at oo2 tt
  replace oo : Owns w5 _ (varD 33 3 [.int .i64 x.Seed, .int .i64 x.Next, .slice B_Open x.Open.length d_Open]) _ _ := oo2
  clear oo2
  have zq5 := tt.2.2.2.1
  replace op := owns_turned op tt (fun b hb hb2 => by simp at hb hb2; omega)
  replace oz := owns_turned oz tt (fun b hb hb2 => by simp at hb hb2; omega)
  replace o_Open := owns_turned o_Open tt (fun b hb hb2 => by have h1 := i_Open b hb; simp at hb2; omega)
  replace HB := below_turned HB tt (fun b hb => by simp at hb; omega)
  obtain ⟨wf, hf⟩ : ∃ y, y = setAll w5 (w.heap.size + 1) 0 [.int .i64 x.Seed, .int .i64 x.Next, .slice B_Open x.Open.length d_Open] := ⟨_, rfl⟩
  obtain ⟨oz2, t2⟩ := var_some [.int .i64 x.Seed, .int .i64 x.Next, .slice B_Open x.Open.length d_Open] 0 _ _ oz (by simp)
  rw [← hf] at oz2 t2
  have zf := t2.2.2.2.1
  replace oz : Owns wf _ (varD 33 3 [.int .i64 x.Seed, .int .i64 x.Next, .slice B_Open x.Open.length d_Open]) _ _ := oz2
  have y0 : wf.cell? ⟨w.heap.size + 1, 0, none⟩ = some (.int .i64 x.Seed) := var_load oz (by simp) 0 _ rfl
  have y1 : wf.cell? ⟨w.heap.size + 1, 1, none⟩ = some (.int .i64 x.Next) := var_load oz (by simp) 1 _ rfl
  have y2 : wf.cell? ⟨w.heap.size + 1, 2, none⟩ = some (.slice B_Open x.Open.length d_Open) := var_load oz (by simp) 2 _ rfl
  replace o_Open := owns_turned o_Open t2 (fun b hb hb2 => by have h1 := i_Open b hb; simp at hb2; omega)
  replace HB := below_turned HB t2 (fun b hb => by simp at hb; omega)
  have hg : ((((w4).setCell ⟨w.heap.size + 1 + 1, 2, none⟩ (.slice B_Open x.Open.length d_Open)).setCell ⟨w.heap.size + 1, 0, none⟩ (.int .i64 x.Seed)).setCell ⟨w.heap.size + 1, 1, none⟩ (.int .i64 x.Next)).setCell ⟨w.heap.size + 1, 2, none⟩ (.slice B_Open x.Open.length d_Open) = wf := by rw [hf, hq]; rfl
  rw [hg]
  clear hg hf hq
  have ND := nodup_last n_Open i_Open
  have hown : OwnsL wf w.heap.size x.dcs [.int .i64 x.Seed, .int .i64 x.Next, .slice B_Open x.Open.length d_Open] (s_Open) := ownsL_app (vals_own wf w.heap.size [.int .i64 x.Seed]) (ownsL_app (vals_own wf w.heap.size [.int .i64 x.Next]) ((ownsL_one (owns_base (by omega) _ _ _ o_Open))))
  refine bodyPost_ret (v := .agg #[.int .i64 x.Seed, .int .i64 x.Next, .slice B_Open x.Open.length d_Open]) (by simp [results, Tryz.results22, go_sem, y0, y1, y2]) rfl ⟨[.int .i64 x.Seed, .int .i64 x.Next, .slice B_Open x.Open.length d_Open], _, rfl, hown, ND.1, HB⟩
set_option maxHeartbeats 3200000 in
set_option maxRecDepth 100000 in
theorem eqChallengeBook (w : World) (x : ChallengeBook) (us vs : List Value) (h : RdsL w w.heap.size x.dcs us) (h2 : RdsL w w.heap.size x.dcs vs) (hw : wtL x.dcs ≤ 4294967296) : Calls Tryz.prog 28 #[.agg us.toArray, .agg vs.toArray] w (Gives (.bool true) w) := by
  obtain ⟨A_Open, c_Open, rfl, h_Open⟩ := ChallengeBook.rds h
  obtain ⟨A2_Open, c2_Open, rfl, k_Open⟩ := ChallengeBook.rds h2
  have hwt := Nat.le_of_eq (ChallengeBook.wt x)
  have hwu := Nat.le_of_eq (ChallengeBook.wt x).symm
  obtain ⟨w1, hw1⟩ : ∃ y, y = w.alloc (.cells #[.int .i64 x.Seed, .int .i64 x.Next, .slice A_Open x.Open.length c_Open] 33) := ⟨_, rfl⟩
  obtain ⟨w2, hw2⟩ : ∃ y, y = w1.alloc (.cells #[.int .i64 x.Seed, .int .i64 x.Next, .slice A2_Open x.Open.length c2_Open] 33) := ⟨_, rfl⟩
  have s1 : w1.heap.size = w.heap.size + 1 := by rw [hw1]; simp
  have op := var_owns w 33 3 [.int .i64 x.Seed, .int .i64 x.Next, .slice A_Open x.Open.length c_Open] rfl
  have oz := var_owns w1 33 3 [.int .i64 x.Seed, .int .i64 x.Next, .slice A2_Open x.Open.length c2_Open] rfl
  have b01 : Below w.heap.size w w1 := hw1 ▸ (Below.refl _ _).alloc (Nat.le_refl _) _
  have b12 : Below w1.heap.size w1 w2 := hw2 ▸ (Below.refl _ _).alloc (Nat.le_refl _) _
  rw [← hw1] at op
  rw [← hw2, s1] at oz
  replace op := owns_below op b12
  have HB : Below w.heap.size w w2 := b01.trans (b12.mono b01.size)
  clear b01 b12
  go_enter Tryz.func28, Tryz.ntmps28
  go_wp2_with fail
  rw [← hw1, ← hw2]
  clear hw1 hw2 s1
  (with_reducible refine (eqChallengeS _ x.Open _ _ (rds_on h_Open HB) (rds_on k_Open HB) (by omega)).mono ?_); rintro e w3 ⟨rfl, b⟩
  replace op := owns_below op b
  replace oz := owns_below oz b
  replace HB := HB.trans (b.mono HB.size)
  clear b
  have lp := var_lt op
  have lz := var_lt oz
  go_wp2
  go_ret
  exact ⟨rfl, HB⟩
set_option maxHeartbeats 3200000 in
set_option maxRecDepth 100000 in
theorem szChallengeBook (w : World) (x : ChallengeBook) (vs : List Go.Value) (z : Int) (h : RdsL w w.heap.size x.dcs vs) (ho : x.ok) (hz0 : 0 ≤ z) (hz1 : z ≤ 1048576) :
    Calls Tryz.prog 15 #[.agg vs.toArray, .int .i64 z] w (Gives (.int .i64 (if (wtL x.dcs : Int) ≤ z then z - wtL x.dcs else -1)) w) := by
  obtain ⟨A_Open, c_Open, rfl, h_Open⟩ := ChallengeBook.rds h
  have hwt := Nat.le_of_eq (ChallengeBook.wt x)
  have hwu := Nat.le_of_eq (ChallengeBook.wt x).symm
  obtain ⟨r, hr⟩ : ∃ r : Int, r = if (wtL x.dcs : Int) ≤ z then z - wtL x.dcs else -1 := ⟨_, rfl⟩
  rw [← hr]
  have HR := Lib.hid hr
  clear hr
  obtain ⟨w1, hw1⟩ : ∃ y, y = w.alloc (.cells #[.int .i64 x.Seed, .int .i64 x.Next, .slice A_Open x.Open.length c_Open] 25) := ⟨_, rfl⟩
  have op := var_owns w 25 3 [.int .i64 x.Seed, .int .i64 x.Next, .slice A_Open x.Open.length c_Open] rfl
  have HB : Below w.heap.size w w1 := hw1 ▸ (Below.refl _ _).alloc (Nat.le_refl _) _
  rw [← hw1] at op
  go_enter Tryz.func15, Tryz.ntmps15
  go_wp2_with fail
  rw [← hw1]
  clear hw1
  (with_reducible refine (szChallengeS _ x.Open _ z (rds_on h_Open HB) ho.Open_n ho.Open (by omega) (by omega)).mono ?_); rintro e w2 ⟨rfl, b⟩
  replace op := owns_below op b
  replace HB := HB.trans (b.mono HB.size)
  clear b
  have lp0 := var_lt op
  by_cases hl0 : (Dm.wt (ChallengesD x.Open) : Int) ≤ z
  · rw [if_pos hl0]
    obtain rfl : r = (z - (Dm.wt (ChallengesD x.Open) : Int)) := by rw [HR.out, if_pos (by omega)]; omega
    go_wp2
    go_ret
    exact ⟨rfl, HB⟩
  · rw [if_neg hl0]
    obtain rfl : r = -1 := by rw [HR.out, if_neg (by omega)]
    go_wp2
    go_ret
    exact ⟨rfl, HB⟩
theorem mkT_ChallengeBook (x : ChallengeBook) (k : Int) : mkT x.dcs k = [.val (.int .i64 x.Seed), .val (.int .i64 x.Next), mk (ChallengesD x.Open) (k)] := by
  unfold ChallengeBook.dcs
  rw [mkT_val, mkT_val, mkT_of (d := ChallengesD x.Open) trivial]
  rfl
theorem cntT_ChallengeBook (x : ChallengeBook) : cntT x.dcs = cnt (ChallengesD x.Open) := by
  unfold ChallengeBook.dcs
  rw [cntT_val, cntT_val, cntT_of (d := ChallengesD x.Open) trivial]
  simp only [cntT, Nat.add_zero]
set_option maxHeartbeats 3200000 in
set_option maxRecDepth 100000 in
theorem markChallengeBook (w : World) (base : Nat) (x : ChallengeBook) (vs : List Go.Value) (bs : List Nat) (k : Int) (ho : OwnsL w base x.dcs vs bs) (hnd : bs.Nodup) (hw : wtL x.dcs ≤ 4294967296) (hk0 : 0 ≤ k) (hk1 : k + cntT x.dcs ≤ 1099511627776) :
    Calls Tryz.prog 31 #[.agg vs.toArray, .int .i64 k] w (MarkL x.dcs k base vs bs w) := by
  have hi0 := ownsL_in _ _ _ ho
  obtain ⟨A_Open, c_Open, b_Open, rfl, o_Open, hbs⟩ := ChallengeBook.owns ho
  clear ho
  replace hbs := hbs.symm
  subst hbs
  have n_Open := hnd
  have i_Open := owns_in _ _ _ o_Open
  have hwt := Nat.le_of_eq (ChallengeBook.wt x)
  have hwu := Nat.le_of_eq (ChallengeBook.wt x).symm
  have hct := Nat.le_of_eq (cntT_ChallengeBook x)
  have hcu := Nat.le_of_eq (cntT_ChallengeBook x).symm
  obtain ⟨w1, hw1⟩ : ∃ y, y = w.alloc (.cells #[.int .i64 x.Seed, .int .i64 x.Next, .slice A_Open x.Open.length c_Open] 33) := ⟨_, rfl⟩
  have op := var_owns w 33 3 [.int .i64 x.Seed, .int .i64 x.Next, .slice A_Open x.Open.length c_Open] rfl
  have b01 : Below w.heap.size w w1 := hw1 ▸ (Below.refl _ _).alloc (Nat.le_refl _) _
  rw [← hw1] at op
  replace o_Open := owns_below o_Open b01
  have HT : Turned w w1 (b_Open) := turned_below b01
  clear b01
  go_enter Tryz.func31, Tryz.ntmps31
  go_wp2_with fail
  rw [← hw1]
  clear hw1
  (with_reducible refine (markChallengeS _ base x.Open _ _ (k) o_Open n_Open (by omega) (by omega) (by omega)).mono ?_); rintro e w2 ⟨rfl, oq, t⟩
  have zz2 := t.2.2.2.1
  replace op := owns_turned op t (fun b hb hb2 => by simp at hb; subst hb; exact absurd (show w.heap.size < w.heap.size from (i_Open _ hb2).2) (Nat.lt_irrefl _))
  replace HT := turned_trans HT (turned_more t (fun x hx => hx))
  have o_Open := ownsL_one oq
  clear oq t
  have lp := var_lt op
  have hown : OwnsL w2 base [.val (.int .i64 x.Seed), .val (.int .i64 x.Next), mk (ChallengesD x.Open) (k)] [.int .i64 x.Seed, .int .i64 x.Next, .slice A_Open x.Open.length c_Open] (([]) ++ (([]) ++ (b_Open))) := ownsL_app (vals_own w2 base [.int .i64 x.Seed]) (ownsL_app (vals_own w2 base [.int .i64 x.Next]) (o_Open))
  have hbe : ([]) ++ (([]) ++ (b_Open)) = b_Open := by simp
  rw [hbe] at hown
  go_wp2
  go_ret
  refine ⟨by rw [show k + ((Fx.cntT x.dcs : Nat) : Int) = k + cnt (ChallengesD x.Open) by omega]; rfl, ?_, HT⟩
  rw [mkT_ChallengeBook]
  exact hown
set_option maxHeartbeats 3200000 in
set_option maxRecDepth 100000 in
theorem heldChallengeBook (w : World) (x : ChallengeBook) (vs : List Go.Value) (k : Int) (h : RdsL w w.heap.size (mkT x.dcs k) vs) (hw : wtL x.dcs ≤ 4294967296) (hk0 : 0 ≤ k) (hk1 : k + cntT x.dcs ≤ 1099511627776) :
    Calls Tryz.prog 34 #[.agg vs.toArray, .int .i64 k] w (Gives (.int .i64 (k + cntT x.dcs)) w) := by
  rw [mkT_ChallengeBook] at h
  simp only [RdsL] at h
  obtain ⟨_, _, rfl, h0, ⟨_, _, rfl, h1, ⟨_, _, rfl, h2, rfl⟩⟩⟩ := h
  obtain rfl := rds_val h0
  obtain rfl := rds_val h1
  obtain ⟨A_Open, c_Open, rfl⟩ := marked_slice h2
  have hwt := Nat.le_of_eq (ChallengeBook.wt x)
  have hwu := Nat.le_of_eq (ChallengeBook.wt x).symm
  have hct := Nat.le_of_eq (cntT_ChallengeBook x)
  have hcu := Nat.le_of_eq (cntT_ChallengeBook x).symm
  obtain ⟨w1, hw1⟩ : ∃ y, y = w.alloc (.cells #[.int .i64 x.Seed, .int .i64 x.Next, .slice A_Open x.Open.length c_Open] 33) := ⟨_, rfl⟩
  have op := var_owns w 33 3 [.int .i64 x.Seed, .int .i64 x.Next, .slice A_Open x.Open.length c_Open] rfl
  have HB : Below w.heap.size w w1 := hw1 ▸ (Below.refl _ _).alloc (Nat.le_refl _) _
  rw [← hw1] at op
  go_enter Tryz.func34, Tryz.ntmps34
  go_wp2_with fail
  rw [← hw1]
  clear hw1
  (with_reducible refine (heldChallengeS _ x.Open _ (k) (rds_on h2 HB) (by omega) (by omega) (by omega)).mono ?_); rintro e w2 ⟨rfl, b⟩
  replace op := owns_below op b
  replace HB := HB.trans (b.mono HB.size)
  clear b
  have lp := var_lt op
  go_wp2
  go_ret
  exact ⟨by rw [show k + ((Fx.cntT x.dcs : Nat) : Int) = k + cnt (ChallengesD x.Open) by omega]; rfl, HB⟩
end Go.Proofs.YtllaacdikjffmaaGreat.Fx
