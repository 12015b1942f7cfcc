/-
  Bundle: a struct of the laws as a thing of its own, and the laws' own functions over it.
-/
import Derived.Test.YtoedfeacpllkeaaDg
import Derived.Test.YtoedfeacpllkeaaYEntry
set_option linter.unusedVariables false
namespace Go.Proofs.Ytoedfeacpllkeaa.Fx
open Go.ChangeShapes Go.WideShapes Go.ChangeAt Go.RowKit Go.Deep
open S0 S1 S9 S10 Ty Dm Bx
structure Bundle where
  Entries : List Fx.Entry
def Bundle.dcs (x : Bundle) : List Dc := [EntrysD x.Entries]
theorem Bundle.len (x : Bundle) : x.dcs.length = 1 := rfl
structure Bundle.ok (x : Bundle) : Prop where
  Entries_n : x.Entries.length ≤ maxLen
  Entries : ∀ y ∈ x.Entries, y.ok
def tyBundle : Ty := .cons tyEntrys (.done)
set_option maxRecDepth 100000 in
theorem fitBundle : fits Try.prog tyBundle 42 = true := by kernel_rfl
set_option maxRecDepth 100000 in
theorem Bundle.is {ds : List Dc} (h : Is tyBundle ds) : ∃ x : Bundle, ds = x.dcs ∧ x.ok := by
  unfold tyBundle at h
  simp only [Is] at h
  obtain ⟨_, _, rfl, h0, rfl⟩ := h
  obtain ⟨x0, rfl, l0, h0⟩ := isEntrys h0
  exact ⟨⟨x0⟩, rfl, ⟨l0, h0⟩⟩
set_option maxRecDepth 100000 in
theorem argBundle {H : Type} {enc : TypeId × Value → H} {W : World} {b0 : Nat} {v : Value} {d : DataW H} {ps : List MemPlace}
    (hval : Value.okWide Try.prog W .any b0 42 v) (h : DataW.Trod enc Try.prog W 0 (fun _ => true) true 42 v d ps) :
    ∃ (vs : List Go.Value) (x : Bundle), v = .agg vs.toArray ∧ RdsL W W.heap.size x.dcs vs ∧ x.ok := by
  obtain ⟨vs, ds, rfl, h1, h2⟩ := arg_struct fitBundle hval h
  obtain ⟨x, rfl, ho⟩ := Bundle.is h1
  exact ⟨vs, x, rfl, h2, ho⟩
def BundlesD (l : List Bundle) : Dc := .row 26 1 l.length (l.flatMap Bundle.dcs)
theorem Bundle.rds {w : World} {hi : Nat} {x : Bundle} {vs : List Go.Value} (h : RdsL w hi x.dcs vs) : ∃ (A_Entries : Option Addr) (c_Entries : Nat), vs = [.slice A_Entries x.Entries.length c_Entries] ∧ Rds w hi (EntrysD x.Entries) (.slice A_Entries x.Entries.length c_Entries) := by
  unfold Bundle.dcs at h
  simp only [RdsL] at h
  obtain ⟨_, _, rfl, h0, rfl⟩ := h
  obtain ⟨A0, c0, rfl⟩ := rds_slice h0
  exact ⟨A0, c0, rfl, h0⟩
theorem Bundle.mkR {w : World} {hi : Nat} {x : Bundle} {A_Entries : Option Addr} {c_Entries : Nat} (h_Entries : Rds w hi (EntrysD x.Entries) (.slice A_Entries x.Entries.length c_Entries)) : RdsL w hi x.dcs [.slice A_Entries x.Entries.length c_Entries] := by
  unfold Bundle.dcs
  simp only [RdsL]
  exact ⟨_, _, rfl, h_Entries, rfl⟩
theorem Bundle.owns {w : World} {lo : Nat} {x : Bundle} {vs : List Go.Value} {bs : List Nat} (h : OwnsL w lo x.dcs vs bs) : ∃ (A_Entries : Option Addr) (c_Entries : Nat) (b_Entries : List Nat), vs = [.slice A_Entries x.Entries.length c_Entries] ∧ Owns w lo (EntrysD x.Entries) (.slice A_Entries x.Entries.length c_Entries) b_Entries ∧ bs = b_Entries := by
  unfold Bundle.dcs at h
  simp only [OwnsL] at h
  obtain ⟨_, _, _, _, rfl, h0, ⟨rfl, rfl⟩, rfl⟩ := h
  obtain ⟨A0, c0, rfl⟩ := owns_slice h0
  exact ⟨A0, c0, _, rfl, h0, by simp⟩
theorem Bundle.mkO {w : World} {lo : Nat} {x : Bundle} {A_Entries : Option Addr} {c_Entries : Nat} {b_Entries : List Nat} (h_Entries : Owns w lo (EntrysD x.Entries) (.slice A_Entries x.Entries.length c_Entries) b_Entries) : OwnsL w lo x.dcs [.slice A_Entries x.Entries.length c_Entries] (b_Entries) := by
  unfold Bundle.dcs
  simp only [OwnsL]
  exact ⟨_, _, b_Entries, [], rfl, h_Entries, ⟨rfl, rfl⟩, by simp⟩
theorem Bundle.wt (x : Bundle) : wtL x.dcs = Dm.wt (EntrysD x.Entries) := by
  unfold Bundle.dcs
  simp only [wtL]
  first | done | omega
set_option maxHeartbeats 3200000 in
set_option maxRecDepth 100000 in
theorem toBundle (w : World) (x : Bundle) (vs : List Go.Value) (h : RdsL w w.heap.size x.dcs vs) (hw : wtL x.dcs ≤ 4294967296) : Calls Try.prog 28 #[.agg vs.toArray] w (MadeL x.dcs w) := by
  obtain ⟨A_Entries, c_Entries, rfl, h_Entries⟩ := Bundle.rds h
  have hwt := Nat.le_of_eq (Bundle.wt x)
  have hwu := Nat.le_of_eq (Bundle.wt x).symm
  obtain ⟨w1, hw1⟩ : ∃ y, y = w.alloc (.cells #[.slice A_Entries x.Entries.length c_Entries] 42) := ⟨_, rfl⟩
  obtain ⟨w2, hw2⟩ : ∃ y, y = w1.alloc (.cells #[.slice none 0 0] 26) := ⟨_, rfl⟩
  obtain ⟨w3, hw3⟩ : ∃ y, y = w2.alloc (.cells #[.slice none 0 0] 26) := ⟨_, rfl⟩
  have s1 : w1.heap.size = w.heap.size + 1 := by rw [hw1]; simp
  have s2 : w2.heap.size = w.heap.size + 1 + 1 := by rw [hw2]; simp [s1]
  have s3 : w3.heap.size = w.heap.size + 1 + 1 + 1 := by rw [hw3]; simp [s2]
  have op := var_owns w 42 1 [.slice A_Entries x.Entries.length c_Entries] rfl
  have oz := var_owns w1 26 1 [.slice none 0 0] rfl
  have oo := var_owns w2 26 1 [.slice none 0 0] rfl
  have b01 : Below w.heap.size w w1 := hw1 ▸ (Below.refl _ _).alloc (Nat.le_refl _) _
  have b12 : Below w1.heap.size w1 w2 := hw2 ▸ (Below.refl _ _).alloc (Nat.le_refl _) _
  have b23 : Below w2.heap.size w2 w3 := hw3 ▸ (Below.refl _ _).alloc (Nat.le_refl _) _
  rw [← hw1] at op
  rw [← hw2, s1] at oz
  rw [← hw3, s2] at oo
  replace op := owns_below (owns_below op b12) b23
  replace oz := owns_below oz b23
  have HB : Below w.heap.size w w3 := b01.trans ((b12.trans (b23.mono b12.size)).mono b01.size)
  clear b01 b12 b23
  go_enter Try.func28, Try.ntmps28
  go_wp2_with fail
  rw [← hw1, ← hw2, ← hw3]
  clear hw1 hw2 hw3 s1 s2
  have z3 : w.heap.size + 1 + 1 < w3.heap.size := by omega
  (with_reducible refine (toEntryS _ x.Entries _ (rds_on h_Entries HB) (by omega)).mono ?_); rintro e w4 ⟨v_Entries, s_Entries, rfl, o_Entries, n_Entries, b⟩
  have zz4 := b.size
  replace op := owns_below op b
  replace oz := owns_below oz b
  replace oo := owns_below oo b
  replace HB := HB.trans (b.mono HB.size)
  obtain ⟨B_Entries, d_Entries, rfl⟩ := owns_slice o_Entries
  have i_Entries : ∀ q, q ∈ s_Entries → w3.heap.size ≤ q ∧ q < w4.heap.size := owns_in _ _ _ o_Entries
  have c0 : w4.cell? ⟨w.heap.size + 1 + 1, 0, none⟩ = some (.slice none 0 0) := var_load oo (by simp) 0 _ rfl
  have f0 : w4.frozen? ⟨w.heap.size + 1 + 1, 0, none⟩ = false := var_frozen oo (by simp) 0 _ rfl
  have lp := var_lt op
  have lo := var_lt oo
  have y0 : w4.cell? ⟨w.heap.size + 1, 0, none⟩ = some (.slice none 0 0) := var_load oz (by simp) 0 _ rfl
  have x0 : w4.frozen? ⟨w.heap.size + 1, 0, none⟩ = false := var_frozen oz (by simp) 0 _ rfl
  have lz := var_lt oz
  clear b
  go_wp2
  clear c0 f0 lp lo y0 x0 lz
  obtain ⟨w5, hq⟩ : ∃ y, y = setAll w4 (w.heap.size + 1 + 1) 0 [.slice B_Entries x.Entries.length d_Entries] := ⟨_, rfl⟩
  obtain ⟨oo2, tt⟩ := var_some [.slice B_Entries x.Entries.length d_Entries] 0 _ _ oo (by simp)
  rw [← hq] at oo2 tt
  replace oo : Owns w5 _ (varD 26 1 [.slice B_Entries x.Entries.length d_Entries]) _ _ := oo2
  clear oo2
  have zq5 := tt.2.2.2.1
  replace op := owns_turned op tt (fun b hb hb2 => by simp at hb hb2; omega)
  replace oz := owns_turned oz tt (fun b hb hb2 => by simp at hb hb2; omega)
  replace o_Entries := owns_turned o_Entries tt (fun b hb hb2 => by have h1 := i_Entries b hb; simp at hb2; omega)
  replace HB := below_turned HB tt (fun b hb => by simp at hb; omega)
  obtain ⟨wf, hf⟩ : ∃ y, y = setAll w5 (w.heap.size + 1) 0 [.slice B_Entries x.Entries.length d_Entries] := ⟨_, rfl⟩
  obtain ⟨oz2, t2⟩ := var_some [.slice B_Entries x.Entries.length d_Entries] 0 _ _ oz (by simp)
  rw [← hf] at oz2 t2
  have zf := t2.2.2.2.1
  replace oz : Owns wf _ (varD 26 1 [.slice B_Entries x.Entries.length d_Entries]) _ _ := oz2
  have y0 : wf.cell? ⟨w.heap.size + 1, 0, none⟩ = some (.slice B_Entries x.Entries.length d_Entries) := var_load oz (by simp) 0 _ rfl
  replace o_Entries := owns_turned o_Entries t2 (fun b hb hb2 => by have h1 := i_Entries b hb; simp at hb2; omega)
  replace HB := below_turned HB t2 (fun b hb => by simp at hb; omega)
  have hg : ((w4).setCell ⟨w.heap.size + 1 + 1, 0, none⟩ (.slice B_Entries x.Entries.length d_Entries)).setCell ⟨w.heap.size + 1, 0, none⟩ (.slice B_Entries x.Entries.length d_Entries) = wf := by rw [hf, hq]; rfl
  rw [hg]
  clear hg hf hq
  have ND := nodup_last n_Entries i_Entries
  have hown : OwnsL wf w.heap.size x.dcs [.slice B_Entries x.Entries.length d_Entries] (s_Entries) := (ownsL_one (owns_base (by omega) _ _ _ o_Entries))
  refine bodyPost_ret (v := .agg #[.slice B_Entries x.Entries.length d_Entries]) (by simp [results, Try.results28, go_sem, y0]) rfl ⟨[.slice B_Entries x.Entries.length d_Entries], _, rfl, hown, ND.1, HB⟩
set_option maxHeartbeats 3200000 in
set_option maxRecDepth 100000 in
theorem eqBundle (w : World) (x : Bundle) (us vs : List Value) (h : RdsL w w.heap.size x.dcs us) (h2 : RdsL w w.heap.size x.dcs vs) (hw : wtL x.dcs ≤ 4294967296) : Calls Try.prog 29 #[.agg us.toArray, .agg vs.toArray] w (Gives (.bool true) w) := by
  obtain ⟨A_Entries, c_Entries, rfl, h_Entries⟩ := Bundle.rds h
  obtain ⟨A2_Entries, c2_Entries, rfl, k_Entries⟩ := Bundle.rds h2
  have hwt := Nat.le_of_eq (Bundle.wt x)
  have hwu := Nat.le_of_eq (Bundle.wt x).symm
  obtain ⟨w1, hw1⟩ : ∃ y, y = w.alloc (.cells #[.slice A_Entries x.Entries.length c_Entries] 26) := ⟨_, rfl⟩
  obtain ⟨w2, hw2⟩ : ∃ y, y = w1.alloc (.cells #[.slice A2_Entries x.Entries.length c2_Entries] 26) := ⟨_, rfl⟩
  have s1 : w1.heap.size = w.heap.size + 1 := by rw [hw1]; simp
  have op := var_owns w 26 1 [.slice A_Entries x.Entries.length c_Entries] rfl
  have oz := var_owns w1 26 1 [.slice A2_Entries x.Entries.length c2_Entries] rfl
  have b01 : Below w.heap.size w w1 := hw1 ▸ (Below.refl _ _).alloc (Nat.le_refl _) _
  have b12 : Below w1.heap.size w1 w2 := hw2 ▸ (Below.refl _ _).alloc (Nat.le_refl _) _
  rw [← hw1] at op
  rw [← hw2, s1] at oz
  replace op := owns_below op b12
  have HB : Below w.heap.size w w2 := b01.trans (b12.mono b01.size)
  clear b01 b12
  go_enter Try.func29, Try.ntmps29
  go_wp2_with fail
  rw [← hw1, ← hw2]
  clear hw1 hw2 s1
  (with_reducible refine (eqEntryS _ x.Entries _ _ (rds_on h_Entries HB) (rds_on k_Entries HB) (by omega)).mono ?_); rintro e w3 ⟨rfl, b⟩
  replace op := owns_below op b
  replace oz := owns_below oz b
  replace HB := HB.trans (b.mono HB.size)
  clear b
  have lp := var_lt op
  have lz := var_lt oz
  go_wp2
  go_ret
  exact ⟨rfl, HB⟩
set_option maxHeartbeats 3200000 in
set_option maxRecDepth 100000 in
theorem szBundle (w : World) (x : Bundle) (vs : List Go.Value) (z : Int) (h : RdsL w w.heap.size x.dcs vs) (ho : x.ok) (hz0 : 0 ≤ z) (hz1 : z ≤ 1048576) :
    Calls Try.prog 26 #[.agg vs.toArray, .int .i64 z] w (Gives (.int .i64 (if (wtL x.dcs : Int) ≤ z then z - wtL x.dcs else -1)) w) := by
  obtain ⟨A_Entries, c_Entries, rfl, h_Entries⟩ := Bundle.rds h
  have hwt := Nat.le_of_eq (Bundle.wt x)
  have hwu := Nat.le_of_eq (Bundle.wt x).symm
  obtain ⟨r, hr⟩ : ∃ r : Int, r = if (wtL x.dcs : Int) ≤ z then z - wtL x.dcs else -1 := ⟨_, rfl⟩
  rw [← hr]
  have HR := Lib.hid hr
  clear hr
  obtain ⟨w1, hw1⟩ : ∃ y, y = w.alloc (.cells #[.slice A_Entries x.Entries.length c_Entries] 42) := ⟨_, rfl⟩
  have op := var_owns w 42 1 [.slice A_Entries x.Entries.length c_Entries] rfl
  have HB : Below w.heap.size w w1 := hw1 ▸ (Below.refl _ _).alloc (Nat.le_refl _) _
  rw [← hw1] at op
  go_enter Try.func26, Try.ntmps26
  go_wp2_with fail
  rw [← hw1]
  clear hw1
  (with_reducible refine (szEntryS _ x.Entries _ z (rds_on h_Entries HB) ho.Entries_n ho.Entries (by omega) (by omega)).mono ?_); rintro e w2 ⟨rfl, b⟩
  replace op := owns_below op b
  replace HB := HB.trans (b.mono HB.size)
  clear b
  have lp0 := var_lt op
  by_cases hl0 : (Dm.wt (EntrysD x.Entries) : Int) ≤ z
  · rw [if_pos hl0]
    obtain rfl : r = (z - (Dm.wt (EntrysD x.Entries) : Int)) := by rw [HR.out, if_pos (by omega)]; omega
    go_wp2
    go_ret
    exact ⟨rfl, HB⟩
  · rw [if_neg hl0]
    obtain rfl : r = -1 := by rw [HR.out, if_neg (by omega)]
    go_wp2
    go_ret
    exact ⟨rfl, HB⟩
theorem mkT_Bundle (x : Bundle) (k : Int) : mkT x.dcs k = [mk (EntrysD x.Entries) (k)] := by
  unfold Bundle.dcs
  rw [mkT_of (d := EntrysD x.Entries) trivial]
  rfl
theorem cntT_Bundle (x : Bundle) : cntT x.dcs = cnt (EntrysD x.Entries) := by
  unfold Bundle.dcs
  rw [cntT_of (d := EntrysD x.Entries) trivial]
  simp only [cntT, Nat.add_zero]
theorem cntTb_Bundle (x : Bundle) : cntT x.dcs ≤ 64 * wtL x.dcs := by
  rw [cntT_Bundle, Bundle.wt]
  have h_Entries := cnt_Entrys (x.Entries)
  omega
set_option maxHeartbeats 3200000 in
set_option maxRecDepth 100000 in
theorem markBundle (w : World) (base : Nat) (x : Bundle) (vs : List Go.Value) (bs : List Nat) (k : Int) (ho : OwnsL w base x.dcs vs bs) (hnd : bs.Nodup) (hw : wtL x.dcs ≤ 4294967296) (hk0 : 0 ≤ k) (hk1 : k + cntT x.dcs ≤ 1099511627776) :
    Calls Try.prog 31 #[.agg vs.toArray, .int .i64 k] w (MarkL x.dcs k base vs bs w) := by
  have hi0 := ownsL_in _ _ _ ho
  obtain ⟨A_Entries, c_Entries, b_Entries, rfl, o_Entries, hbs⟩ := Bundle.owns ho
  clear ho
  replace hbs := hbs.symm
  subst hbs
  have n_Entries := hnd
  have i_Entries := owns_in _ _ _ o_Entries
  have hwt := Nat.le_of_eq (Bundle.wt x)
  have hwu := Nat.le_of_eq (Bundle.wt x).symm
  have hct := Nat.le_of_eq (cntT_Bundle x)
  have hcu := Nat.le_of_eq (cntT_Bundle x).symm
  obtain ⟨w1, hw1⟩ : ∃ y, y = w.alloc (.cells #[.slice A_Entries x.Entries.length c_Entries] 26) := ⟨_, rfl⟩
  have op := var_owns w 26 1 [.slice A_Entries x.Entries.length c_Entries] rfl
  have b01 : Below w.heap.size w w1 := hw1 ▸ (Below.refl _ _).alloc (Nat.le_refl _) _
  rw [← hw1] at op
  replace o_Entries := owns_below o_Entries b01
  have HT : Turned w w1 (b_Entries) := turned_below b01
  clear b01
  go_enter Try.func31, Try.ntmps31
  go_wp2_with fail
  rw [← hw1]
  clear hw1
  (with_reducible refine (markEntryS _ base x.Entries _ _ (k) o_Entries n_Entries (by omega) (by omega) (by omega)).mono ?_); rintro e w2 ⟨rfl, oq, t⟩
  have zz2 := t.2.2.2.1
  replace op := owns_turned op t (fun b hb hb2 => by simp at hb; subst hb; exact absurd (show w.heap.size < w.heap.size from (i_Entries _ hb2).2) (Nat.lt_irrefl _))
  replace HT := turned_trans HT (turned_more t (fun x hx => hx))
  have o_Entries := ownsL_one oq
  clear oq t
  have lp := var_lt op
  have hown : OwnsL w2 base [mk (EntrysD x.Entries) (k)] [.slice A_Entries x.Entries.length c_Entries] (b_Entries) := o_Entries
  have hbe : b_Entries = b_Entries := by simp
  rw [hbe] at hown
  go_wp2
  go_ret
  refine ⟨by rw [show k + ((Fx.cntT x.dcs : Nat) : Int) = k + cnt (EntrysD x.Entries) by omega]; rfl, ?_, HT⟩
  rw [mkT_Bundle]
  exact hown
set_option maxHeartbeats 3200000 in
set_option maxRecDepth 100000 in
theorem heldBundle (w : World) (x : Bundle) (vs : List Go.Value) (k : Int) (h : RdsL w w.heap.size (mkT x.dcs k) vs) (hw : wtL x.dcs ≤ 4294967296) (hk0 : 0 ≤ k) (hk1 : k + cntT x.dcs ≤ 1099511627776) :
    Calls Try.prog 32 #[.agg vs.toArray, .int .i64 k] w (Gives (.int .i64 (k + cntT x.dcs)) w) := by
  rw [mkT_Bundle] at h
  simp only [RdsL] at h
  obtain ⟨_, _, rfl, h0, rfl⟩ := h
  obtain ⟨A_Entries, c_Entries, rfl⟩ := marked_slice h0
  have hwt := Nat.le_of_eq (Bundle.wt x)
  have hwu := Nat.le_of_eq (Bundle.wt x).symm
  have hct := Nat.le_of_eq (cntT_Bundle x)
  have hcu := Nat.le_of_eq (cntT_Bundle x).symm
  obtain ⟨w1, hw1⟩ : ∃ y, y = w.alloc (.cells #[.slice A_Entries x.Entries.length c_Entries] 26) := ⟨_, rfl⟩
  have op := var_owns w 26 1 [.slice A_Entries x.Entries.length c_Entries] rfl
  have HB : Below w.heap.size w w1 := hw1 ▸ (Below.refl _ _).alloc (Nat.le_refl _) _
  rw [← hw1] at op
  go_enter Try.func32, Try.ntmps32
  go_wp2_with fail
  rw [← hw1]
  clear hw1
  (with_reducible refine (heldEntryS _ x.Entries _ (k) (rds_on h0 HB) (by omega) (by omega) (by omega)).mono ?_); rintro e w2 ⟨rfl, b⟩
  replace op := owns_below op b
  replace HB := HB.trans (b.mono HB.size)
  clear b
  have lp := var_lt op
  go_wp2
  go_ret
  exact ⟨by rw [show k + ((Fx.cntT x.dcs : Nat) : Int) = k + cnt (EntrysD x.Entries) by omega]; rfl, HB⟩
end Go.Proofs.Ytoedfeacpllkeaa.Fx
