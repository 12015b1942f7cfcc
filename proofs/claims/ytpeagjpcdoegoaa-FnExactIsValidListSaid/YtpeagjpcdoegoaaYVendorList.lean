/-
  VendorList: a struct of the laws as a thing of its own, and the laws' own functions over it.
-/
import Derived.Test.YtpeagjpcdoegoaaDg
set_option linter.unusedVariables false
namespace Go.Proofs.Ytpeagjpcdoegoaa.Fx
open Go.ChangeShapes Go.WideShapes Go.ChangeAt Go.RowKit Go.Deep
open S0 S1 S9 S10 Ty Dm Bx
structure VendorList where
  Master : Int
  Revoked : List Int
def VendorList.dcs (x : VendorList) : List Dc := [.val (.int .i64 x.Master), numsD x.Revoked]
theorem VendorList.len (x : VendorList) : x.dcs.length = 2 := rfl
structure VendorList.ok (x : VendorList) : Prop where
  Master : -9223372036854775808 ≤ x.Master ∧ x.Master ≤ 9223372036854775807
  Revoked_n : x.Revoked.length ≤ maxLen
  Revoked : ∀ y ∈ x.Revoked, -9223372036854775808 ≤ y ∧ y ≤ 9223372036854775807
def tyVendorList : Ty := .cons (.int .i64) (.cons tyI64 (.done))
set_option maxRecDepth 100000 in
theorem fitVendorList : fits Try.prog tyVendorList 46 = true := by kernel_rfl
set_option maxRecDepth 100000 in
theorem VendorList.is {ds : List Dc} (h : Is tyVendorList ds) : ∃ x : VendorList, ds = x.dcs ∧ x.ok := by
  unfold tyVendorList at h
  simp only [Is] at h
  obtain ⟨_, _, rfl, ⟨x0, rfl, h0⟩, ⟨_, _, rfl, h1, rfl⟩⟩ := h
  obtain ⟨x1, rfl, l1, h1⟩ := is_flat h1
  exact ⟨⟨x0, x1⟩, rfl, ⟨M1.i64_wf h0, l1, fun y hy => So.okI_i64 (h1 y hy)⟩⟩
set_option maxRecDepth 100000 in
theorem argVendorList {H : Type} {enc : TypeId × Value → H} {W : World} {b0 : Nat} {v : Value} {d : DataW H} {ps : List MemPlace}
    (hval : Value.okWide Try.prog W .any b0 46 v) (h : DataW.Trod enc Try.prog W 0 (fun _ => true) true 46 v d ps) :
    ∃ (vs : List Go.Value) (x : VendorList), v = .agg vs.toArray ∧ RdsL W W.heap.size x.dcs vs ∧ x.ok := by
  obtain ⟨vs, ds, rfl, h1, h2⟩ := arg_struct fitVendorList hval h
  obtain ⟨x, rfl, ho⟩ := VendorList.is h1
  exact ⟨vs, x, rfl, h2, ho⟩
def VendorListsD (l : List VendorList) : Dc := .row 27 2 l.length (l.flatMap VendorList.dcs)
theorem VendorList.rds {w : World} {hi : Nat} {x : VendorList} {vs : List Go.Value} (h : RdsL w hi x.dcs vs) : ∃ (A_Revoked : Option Addr) (c_Revoked : Nat), vs = [.int .i64 x.Master, .slice A_Revoked x.Revoked.length c_Revoked] ∧ Rds w hi (numsD x.Revoked) (.slice A_Revoked x.Revoked.length c_Revoked) := by
  unfold VendorList.dcs at h
  simp only [RdsL] at h
  obtain ⟨_, _, rfl, h0, ⟨_, _, rfl, h1, rfl⟩⟩ := h
  obtain ⟨A1, c1, rfl⟩ := rds_slice h1
  obtain rfl := rds_val h0
  exact ⟨A1, c1, rfl, h1⟩
theorem VendorList.mkR {w : World} {hi : Nat} {x : VendorList} {A_Revoked : Option Addr} {c_Revoked : Nat} (h_Revoked : Rds w hi (numsD x.Revoked) (.slice A_Revoked x.Revoked.length c_Revoked)) : RdsL w hi x.dcs [.int .i64 x.Master, .slice A_Revoked x.Revoked.length c_Revoked] := by
  unfold VendorList.dcs
  simp only [RdsL]
  exact ⟨_, _, rfl, by simp [Rds], ⟨_, _, rfl, h_Revoked, rfl⟩⟩
theorem VendorList.owns {w : World} {lo : Nat} {x : VendorList} {vs : List Go.Value} {bs : List Nat} (h : OwnsL w lo x.dcs vs bs) : ∃ (A_Revoked : Option Addr) (c_Revoked : Nat) (b_Revoked : List Nat), vs = [.int .i64 x.Master, .slice A_Revoked x.Revoked.length c_Revoked] ∧ Owns w lo (numsD x.Revoked) (.slice A_Revoked x.Revoked.length c_Revoked) b_Revoked ∧ bs = b_Revoked := by
  unfold VendorList.dcs at h
  simp only [OwnsL] at h
  obtain ⟨_, _, _, _, rfl, h0, ⟨_, _, _, _, rfl, h1, ⟨rfl, rfl⟩, rfl⟩, rfl⟩ := h
  obtain ⟨rfl, rfl⟩ := owns_val h0
  obtain ⟨A1, c1, rfl⟩ := owns_slice h1
  exact ⟨A1, c1, _, rfl, h1, by simp⟩
theorem VendorList.mkO {w : World} {lo : Nat} {x : VendorList} {A_Revoked : Option Addr} {c_Revoked : Nat} {b_Revoked : List Nat} (h_Revoked : Owns w lo (numsD x.Revoked) (.slice A_Revoked x.Revoked.length c_Revoked) b_Revoked) : OwnsL w lo x.dcs [.int .i64 x.Master, .slice A_Revoked x.Revoked.length c_Revoked] (b_Revoked) := by
  unfold VendorList.dcs
  simp only [OwnsL]
  exact ⟨_, _, [], b_Revoked, rfl, by simp [Owns], ⟨_, _, b_Revoked, [], rfl, h_Revoked, ⟨rfl, rfl⟩, by simp⟩, by simp⟩
theorem VendorList.wt (x : VendorList) : wtL x.dcs = Dm.wt (numsD x.Revoked) := by
  unfold VendorList.dcs
  simp only [wtL]
  simp only [wt_int]
  first | done | omega
set_option maxHeartbeats 3200000 in
set_option maxRecDepth 100000 in
theorem toVendorList (w : World) (x : VendorList) (vs : List Go.Value) (h : RdsL w w.heap.size x.dcs vs) (hw : wtL x.dcs ≤ 4294967296) : Calls Try.prog 28 #[.agg vs.toArray] w (MadeL x.dcs w) := by
  obtain ⟨A_Revoked, c_Revoked, rfl, h_Revoked⟩ := VendorList.rds h
  have hwt := Nat.le_of_eq (VendorList.wt x)
  have hwu := Nat.le_of_eq (VendorList.wt x).symm
  obtain ⟨w1, hw1⟩ : ∃ y, y = w.alloc (.cells #[.int .i64 x.Master, .slice A_Revoked x.Revoked.length c_Revoked] 46) := ⟨_, rfl⟩
  obtain ⟨w2, hw2⟩ : ∃ y, y = w1.alloc (.cells #[.int .i64 0, .slice none 0 0] 27) := ⟨_, rfl⟩
  obtain ⟨w3, hw3⟩ : ∃ y, y = w2.alloc (.cells #[.int .i64 x.Master, .slice none 0 0] 27) := ⟨_, rfl⟩
  have s1 : w1.heap.size = w.heap.size + 1 := by rw [hw1]; simp
  have s2 : w2.heap.size = w.heap.size + 1 + 1 := by rw [hw2]; simp [s1]
  have s3 : w3.heap.size = w.heap.size + 1 + 1 + 1 := by rw [hw3]; simp [s2]
  have op := var_owns w 46 2 [.int .i64 x.Master, .slice A_Revoked x.Revoked.length c_Revoked] rfl
  have oz := var_owns w1 27 2 [.int .i64 0, .slice none 0 0] rfl
  have oo := var_owns w2 27 2 [.int .i64 x.Master, .slice none 0 0] rfl
  have b01 : Below w.heap.size w w1 := hw1 ▸ (Below.refl _ _).alloc (Nat.le_refl _) _
  have b12 : Below w1.heap.size w1 w2 := hw2 ▸ (Below.refl _ _).alloc (Nat.le_refl _) _
  have b23 : Below w2.heap.size w2 w3 := hw3 ▸ (Below.refl _ _).alloc (Nat.le_refl _) _
  rw [← hw1] at op
  rw [← hw2, s1] at oz
  rw [← hw3, s2] at oo
  replace op := owns_below (owns_below op b12) b23
  replace oz := owns_below oz b23
  have HB : Below w.heap.size w w3 := b01.trans ((b12.trans (b23.mono b12.size)).mono b01.size)
  clear b01 b12 b23
  go_enter Try.func28, Try.ntmps28
  go_wp2_with fail
  rw [← hw1, ← hw2, ← hw3]
  clear hw1 hw2 hw3 s1 s2
  have z3 : w.heap.size + 1 + 1 < w3.heap.size := by omega
  (with_reducible refine (toIntS _ x.Revoked _ (rds_on h_Revoked HB) (by omega)).mono ?_); rintro e w4 ⟨v_Revoked, s_Revoked, rfl, o_Revoked, n_Revoked, b⟩
  have zz4 := b.size
  replace op := owns_below op b
  replace oz := owns_below oz b
  replace oo := owns_below oo b
  replace HB := HB.trans (b.mono HB.size)
  obtain ⟨B_Revoked, d_Revoked, rfl⟩ := owns_slice o_Revoked
  have i_Revoked : ∀ q, q ∈ s_Revoked → w3.heap.size ≤ q ∧ q < w4.heap.size := owns_in _ _ _ o_Revoked
  have c1 : w4.cell? ⟨w.heap.size + 1 + 1, 1, none⟩ = some (.slice none 0 0) := var_load oo (by simp) 1 _ rfl
  have f1 : w4.frozen? ⟨w.heap.size + 1 + 1, 1, none⟩ = false := var_frozen oo (by simp) 1 _ rfl
  have lp := var_lt op
  have lo := var_lt oo
  have c0 : w4.cell? ⟨w.heap.size + 1 + 1, 0, none⟩ = some (.int .i64 x.Master) := var_load oo (by simp) 0 _ rfl
  have y0 : w4.cell? ⟨w.heap.size + 1, 0, none⟩ = some (.int .i64 0) := var_load oz (by simp) 0 _ rfl
  have x0 : w4.frozen? ⟨w.heap.size + 1, 0, none⟩ = false := var_frozen oz (by simp) 0 _ rfl
  have y1 : w4.cell? ⟨w.heap.size + 1, 1, none⟩ = some (.slice none 0 0) := var_load oz (by simp) 1 _ rfl
  have x1 : w4.frozen? ⟨w.heap.size + 1, 1, none⟩ = false := var_frozen oz (by simp) 1 _ rfl
  have lz := var_lt oz
  clear b
  go_wp2
  clear c1 f1 lp lo c0 y0 x0 y1 x1 lz
  obtain ⟨w5, hq⟩ : ∃ y, y = setAll w4 (w.heap.size + 1 + 1) 1 [.slice B_Revoked x.Revoked.length d_Revoked] := ⟨_, rfl⟩
  obtain ⟨oo2, tt⟩ := var_some [.slice B_Revoked x.Revoked.length d_Revoked] 1 _ _ oo (by simp)
  rw [← hq] at oo2 tt
  replace oo : Owns w5 _ (varD 27 2 [.int .i64 x.Master, .slice B_Revoked x.Revoked.length d_Revoked]) _ _ := oo2
  clear oo2
  have zq5 := tt.2.2.2.1
  replace op := owns_turned op tt (fun b hb hb2 => by simp at hb hb2; omega)
  replace oz := owns_turned oz tt (fun b hb hb2 => by simp at hb hb2; omega)
  replace o_Revoked := owns_turned o_Revoked tt (fun b hb hb2 => by have h1 := i_Revoked b hb; simp at hb2; omega)
  replace HB := below_turned HB tt (fun b hb => by simp at hb; omega)
  obtain ⟨wf, hf⟩ : ∃ y, y = setAll w5 (w.heap.size + 1) 0 [.int .i64 x.Master, .slice B_Revoked x.Revoked.length d_Revoked] := ⟨_, rfl⟩
  obtain ⟨oz2, t2⟩ := var_some [.int .i64 x.Master, .slice B_Revoked x.Revoked.length d_Revoked] 0 _ _ oz (by simp)
  rw [← hf] at oz2 t2
  have zf := t2.2.2.2.1
  replace oz : Owns wf _ (varD 27 2 [.int .i64 x.Master, .slice B_Revoked x.Revoked.length d_Revoked]) _ _ := oz2
  have y0 : wf.cell? ⟨w.heap.size + 1, 0, none⟩ = some (.int .i64 x.Master) := var_load oz (by simp) 0 _ rfl
  have y1 : wf.cell? ⟨w.heap.size + 1, 1, none⟩ = some (.slice B_Revoked x.Revoked.length d_Revoked) := var_load oz (by simp) 1 _ rfl
  replace o_Revoked := owns_turned o_Revoked t2 (fun b hb hb2 => by have h1 := i_Revoked b hb; simp at hb2; omega)
  replace HB := below_turned HB t2 (fun b hb => by simp at hb; omega)
  have hg : (((w4).setCell ⟨w.heap.size + 1 + 1, 1, none⟩ (.slice B_Revoked x.Revoked.length d_Revoked)).setCell ⟨w.heap.size + 1, 0, none⟩ (.int .i64 x.Master)).setCell ⟨w.heap.size + 1, 1, none⟩ (.slice B_Revoked x.Revoked.length d_Revoked) = wf := by rw [hf, hq]; rfl
  rw [hg]
  clear hg hf hq
  have ND := nodup_last n_Revoked i_Revoked
  have hown : OwnsL wf w.heap.size x.dcs [.int .i64 x.Master, .slice B_Revoked x.Revoked.length d_Revoked] (s_Revoked) := ownsL_app (vals_own wf w.heap.size [.int .i64 x.Master]) ((ownsL_one (owns_base (by omega) _ _ _ o_Revoked)))
  refine bodyPost_ret (v := .agg #[.int .i64 x.Master, .slice B_Revoked x.Revoked.length d_Revoked]) (by simp [results, Try.results28, go_sem, y0, y1]) rfl ⟨[.int .i64 x.Master, .slice B_Revoked x.Revoked.length d_Revoked], _, rfl, hown, ND.1, HB⟩
set_option maxHeartbeats 3200000 in
set_option maxRecDepth 100000 in
theorem eqVendorList (w : World) (x : VendorList) (us vs : List Value) (h : RdsL w w.heap.size x.dcs us) (h2 : RdsL w w.heap.size x.dcs vs) (hw : wtL x.dcs ≤ 4294967296) : Calls Try.prog 29 #[.agg us.toArray, .agg vs.toArray] w (Gives (.bool true) w) := by
  obtain ⟨A_Revoked, c_Revoked, rfl, h_Revoked⟩ := VendorList.rds h
  obtain ⟨A2_Revoked, c2_Revoked, rfl, k_Revoked⟩ := VendorList.rds h2
  have hwt := Nat.le_of_eq (VendorList.wt x)
  have hwu := Nat.le_of_eq (VendorList.wt x).symm
  obtain ⟨w1, hw1⟩ : ∃ y, y = w.alloc (.cells #[.int .i64 x.Master, .slice A_Revoked x.Revoked.length c_Revoked] 27) := ⟨_, rfl⟩
  obtain ⟨w2, hw2⟩ : ∃ y, y = w1.alloc (.cells #[.int .i64 x.Master, .slice A2_Revoked x.Revoked.length c2_Revoked] 27) := ⟨_, rfl⟩
  have s1 : w1.heap.size = w.heap.size + 1 := by rw [hw1]; simp
  have op := var_owns w 27 2 [.int .i64 x.Master, .slice A_Revoked x.Revoked.length c_Revoked] rfl
  have oz := var_owns w1 27 2 [.int .i64 x.Master, .slice A2_Revoked x.Revoked.length c2_Revoked] rfl
  have b01 : Below w.heap.size w w1 := hw1 ▸ (Below.refl _ _).alloc (Nat.le_refl _) _
  have b12 : Below w1.heap.size w1 w2 := hw2 ▸ (Below.refl _ _).alloc (Nat.le_refl _) _
  rw [← hw1] at op
  rw [← hw2, s1] at oz
  replace op := owns_below op b12
  have HB : Below w.heap.size w w2 := b01.trans (b12.mono b01.size)
  clear b01 b12
  go_enter Try.func29, Try.ntmps29
  go_wp2_with fail
  rw [← hw1, ← hw2]
  clear hw1 hw2 s1
  (with_reducible refine (eqIntS _ x.Revoked _ _ (rds_on h_Revoked HB) (rds_on k_Revoked HB) (by omega)).mono ?_); rintro e w3 ⟨rfl, b⟩
  replace op := owns_below op b
  replace oz := owns_below oz b
  replace HB := HB.trans (b.mono HB.size)
  clear b
  have lp := var_lt op
  have lz := var_lt oz
  go_wp2
  go_ret
  exact ⟨rfl, HB⟩
set_option maxHeartbeats 3200000 in
set_option maxRecDepth 100000 in
theorem szVendorList (w : World) (x : VendorList) (vs : List Go.Value) (z : Int) (h : RdsL w w.heap.size x.dcs vs) (ho : x.ok) (hz0 : 0 ≤ z) (hz1 : z ≤ 1048576) :
    Calls Try.prog 26 #[.agg vs.toArray, .int .i64 z] w (Gives (.int .i64 (if (wtL x.dcs : Int) ≤ z then z - wtL x.dcs else -1)) w) := by
  obtain ⟨A_Revoked, c_Revoked, rfl, h_Revoked⟩ := VendorList.rds h
  have hwt := Nat.le_of_eq (VendorList.wt x)
  have hwu := Nat.le_of_eq (VendorList.wt x).symm
  obtain ⟨r, hr⟩ : ∃ r : Int, r = if (wtL x.dcs : Int) ≤ z then z - wtL x.dcs else -1 := ⟨_, rfl⟩
  rw [← hr]
  have HR := Lib.hid hr
  clear hr
  obtain ⟨w1, hw1⟩ : ∃ y, y = w.alloc (.cells #[.int .i64 x.Master, .slice A_Revoked x.Revoked.length c_Revoked] 46) := ⟨_, rfl⟩
  have op := var_owns w 46 2 [.int .i64 x.Master, .slice A_Revoked x.Revoked.length c_Revoked] rfl
  have HB : Below w.heap.size w w1 := hw1 ▸ (Below.refl _ _).alloc (Nat.le_refl _) _
  rw [← hw1] at op
  go_enter Try.func26, Try.ntmps26
  go_wp2_with fail
  rw [← hw1]
  clear hw1
  (with_reducible refine (szIntS _ x.Revoked _ z (rds_on h_Revoked HB) ho.Revoked_n (by omega) (by omega)).mono ?_); rintro e w2 ⟨rfl, b⟩
  replace op := owns_below op b
  replace HB := HB.trans (b.mono HB.size)
  clear b
  have lp0 := var_lt op
  by_cases hl0 : (Dm.wt (numsD x.Revoked) : Int) ≤ z
  · rw [if_pos hl0]
    obtain rfl : r = (z - (Dm.wt (numsD x.Revoked) : Int)) := by rw [HR.out, if_pos (by omega)]; omega
    go_wp2
    go_ret
    exact ⟨rfl, HB⟩
  · rw [if_neg hl0]
    obtain rfl : r = -1 := by rw [HR.out, if_neg (by omega)]
    go_wp2
    go_ret
    exact ⟨rfl, HB⟩
theorem mkT_VendorList (x : VendorList) (k : Int) : mkT x.dcs k = [.val (.int .i64 x.Master), mk (numsD x.Revoked) (k)] := by
  unfold VendorList.dcs
  rw [mkT_val, mkT_of (d := numsD x.Revoked) trivial]
  rfl
theorem cntT_VendorList (x : VendorList) : cntT x.dcs = cnt (numsD x.Revoked) := by
  unfold VendorList.dcs
  rw [cntT_val, cntT_of (d := numsD x.Revoked) trivial]
  simp only [cntT, Nat.add_zero]
theorem cntTb_VendorList (x : VendorList) : cntT x.dcs ≤ 64 * wtL x.dcs := by
  rw [cntT_VendorList, VendorList.wt]
  have h_Revoked := cnt_numsD (x.Revoked)
  omega
set_option maxHeartbeats 3200000 in
set_option maxRecDepth 100000 in
theorem markVendorList (w : World) (base : Nat) (x : VendorList) (vs : List Go.Value) (bs : List Nat) (k : Int) (ho : OwnsL w base x.dcs vs bs) (hnd : bs.Nodup) (hw : wtL x.dcs ≤ 4294967296) (hk0 : 0 ≤ k) (hk1 : k + cntT x.dcs ≤ 1099511627776) :
    Calls Try.prog 33 #[.agg vs.toArray, .int .i64 k] w (MarkL x.dcs k base vs bs w) := by
  have hi0 := ownsL_in _ _ _ ho
  obtain ⟨A_Revoked, c_Revoked, b_Revoked, rfl, o_Revoked, hbs⟩ := VendorList.owns ho
  clear ho
  replace hbs := hbs.symm
  subst hbs
  have n_Revoked := hnd
  have i_Revoked := owns_in _ _ _ o_Revoked
  have hwt := Nat.le_of_eq (VendorList.wt x)
  have hwu := Nat.le_of_eq (VendorList.wt x).symm
  have hct := Nat.le_of_eq (cntT_VendorList x)
  have hcu := Nat.le_of_eq (cntT_VendorList x).symm
  obtain ⟨w1, hw1⟩ : ∃ y, y = w.alloc (.cells #[.int .i64 x.Master, .slice A_Revoked x.Revoked.length c_Revoked] 27) := ⟨_, rfl⟩
  have op := var_owns w 27 2 [.int .i64 x.Master, .slice A_Revoked x.Revoked.length c_Revoked] rfl
  have b01 : Below w.heap.size w w1 := hw1 ▸ (Below.refl _ _).alloc (Nat.le_refl _) _
  rw [← hw1] at op
  replace o_Revoked := owns_below o_Revoked b01
  have HT : Turned w w1 (b_Revoked) := turned_below b01
  clear b01
  go_enter Try.func33, Try.ntmps33
  go_wp2_with fail
  rw [← hw1]
  clear hw1
  (with_reducible refine (markIntS _ base x.Revoked _ _ (k) o_Revoked n_Revoked (by omega) (by omega) (by omega)).mono ?_); rintro e w2 ⟨rfl, oq, t⟩
  have zz2 := t.2.2.2.1
  replace op := owns_turned op t (fun b hb hb2 => by simp at hb; subst hb; exact absurd (show w.heap.size < w.heap.size from (i_Revoked _ hb2).2) (Nat.lt_irrefl _))
  replace HT := turned_trans HT (turned_more t (fun x hx => hx))
  have o_Revoked := ownsL_one oq
  clear oq t
  have lp := var_lt op
  have hown : OwnsL w2 base [.val (.int .i64 x.Master), mk (numsD x.Revoked) (k)] [.int .i64 x.Master, .slice A_Revoked x.Revoked.length c_Revoked] (([]) ++ (b_Revoked)) := ownsL_app (vals_own w2 base [.int .i64 x.Master]) (o_Revoked)
  have hbe : ([]) ++ (b_Revoked) = b_Revoked := by simp
  rw [hbe] at hown
  go_wp2
  go_ret
  refine ⟨by rw [show k + ((Fx.cntT x.dcs : Nat) : Int) = k + cnt (numsD x.Revoked) by omega]; rfl, ?_, HT⟩
  rw [mkT_VendorList]
  exact hown
set_option maxHeartbeats 3200000 in
set_option maxRecDepth 100000 in
theorem heldVendorList (w : World) (x : VendorList) (vs : List Go.Value) (k : Int) (h : RdsL w w.heap.size (mkT x.dcs k) vs) (hw : wtL x.dcs ≤ 4294967296) (hk0 : 0 ≤ k) (hk1 : k + cntT x.dcs ≤ 1099511627776) :
    Calls Try.prog 34 #[.agg vs.toArray, .int .i64 k] w (Gives (.int .i64 (k + cntT x.dcs)) w) := by
  rw [mkT_VendorList] at h
  simp only [RdsL] at h
  obtain ⟨_, _, rfl, h0, ⟨_, _, rfl, h1, rfl⟩⟩ := h
  obtain rfl := rds_val h0
  obtain ⟨A_Revoked, c_Revoked, rfl⟩ := marked_slice h1
  have hwt := Nat.le_of_eq (VendorList.wt x)
  have hwu := Nat.le_of_eq (VendorList.wt x).symm
  have hct := Nat.le_of_eq (cntT_VendorList x)
  have hcu := Nat.le_of_eq (cntT_VendorList x).symm
  obtain ⟨w1, hw1⟩ : ∃ y, y = w.alloc (.cells #[.int .i64 x.Master, .slice A_Revoked x.Revoked.length c_Revoked] 27) := ⟨_, rfl⟩
  have op := var_owns w 27 2 [.int .i64 x.Master, .slice A_Revoked x.Revoked.length c_Revoked] rfl
  have HB : Below w.heap.size w w1 := hw1 ▸ (Below.refl _ _).alloc (Nat.le_refl _) _
  rw [← hw1] at op
  go_enter Try.func34, Try.ntmps34
  go_wp2_with fail
  rw [← hw1]
  clear hw1
  (with_reducible refine (heldIntS _ x.Revoked _ (k) (rds_on h1 HB) (by omega) (by omega) (by omega)).mono ?_); rintro e w2 ⟨rfl, b⟩
  replace op := owns_below op b
  replace HB := HB.trans (b.mono HB.size)
  clear b
  have lp := var_lt op
  go_wp2
  go_ret
  exact ⟨by rw [show k + ((Fx.cntT x.dcs : Nat) : Int) = k + cnt (numsD x.Revoked) by omega]; rfl, HB⟩
end Go.Proofs.Ytpeagjpcdoegoaa.Fx
