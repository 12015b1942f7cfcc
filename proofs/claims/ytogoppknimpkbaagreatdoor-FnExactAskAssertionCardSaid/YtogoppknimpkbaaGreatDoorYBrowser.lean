import Derived.Test.YtogoppknimpkbaaGreatDoorBb
import Derived.Test.YtogoppknimpkbaaGreatDoorYKeyStore
import Derived.Test.YtogoppknimpkbaaGreatDoorYTab
/-
  Browser: a struct of the laws as a thing of its own, and the laws' own functions over it.
-/
set_option linter.unusedVariables false
namespace Go.Proofs.YtogoppknimpkbaaGreatDoor.Fx
open Go.ChangeShapes Go.WideShapes Go.ChangeAt Go.RowKit Go.Deep
open S0 S1 S9 S10 Ty Dm Bx
structure Browser where
  Store : Fx.KeyStore
  Tabs : List Fx.Tab
  Asked : Int
def Browser.dcs (x : Browser) : List Dc := [.val (.int .i64 x.Store.Vendor), .val (.int .i64 x.Store.Serial), .val (.int .i64 x.Store.Seed), .val (.int .i64 x.Store.Counter), TabsD x.Tabs, .val (.int .i64 x.Asked)]
theorem Browser.len (x : Browser) : x.dcs.length = 6 := rfl
structure Browser.ok (x : Browser) : Prop where
  Store : x.Store.ok
  Tabs_n : x.Tabs.length ≤ maxLen
  Tabs : ∀ y ∈ x.Tabs, y.ok
  Asked : -9223372036854775808 ≤ x.Asked ∧ x.Asked ≤ 9223372036854775807
def tyBrowser : Ty := .cons tyKeyStore (.cons tyTabs (.cons (.int .i64) (.done)))
set_option maxRecDepth 100000 in
theorem fitBrowser : fits Tryz.prog tyBrowser 48 = true := by kernel_rfl
set_option maxRecDepth 100000 in
theorem Browser.is {ds : List Dc} (h : Is tyBrowser ds) : ∃ x : Browser, ds = x.dcs ∧ x.ok := by
  unfold tyBrowser at h
  simp only [Is] at h
  obtain ⟨_, _, rfl, h0, ⟨_, _, rfl, h1, ⟨_, _, rfl, ⟨x2, rfl, h2⟩, rfl⟩⟩⟩ := h
  obtain ⟨x0, rfl, hh0⟩ := Fx.KeyStore.is h0
  obtain ⟨x1, rfl, l1, h1⟩ := isTabs h1
  exact ⟨⟨x0, x1, x2⟩, rfl, ⟨hh0, l1, h1, M1.i64_wf h2⟩⟩
set_option maxRecDepth 100000 in
theorem argBrowser {H : Type} {enc : TypeId × Value → H} {W : World} {b0 : Nat} {v : Value} {d : DataW H} {ps : List MemPlace}
    (hval : Value.okWide Tryz.prog W .any b0 48 v) (h : DataW.Trod enc Tryz.prog W 0 (fun _ => true) true 48 v d ps) :
    ∃ (vs : List Go.Value) (x : Browser), v = .agg vs.toArray ∧ RdsL W W.heap.size x.dcs vs ∧ x.ok := by
  obtain ⟨vs, ds, rfl, h1, h2⟩ := arg_struct fitBrowser hval h
  obtain ⟨x, rfl, ho⟩ := Browser.is h1
  exact ⟨vs, x, rfl, h2, ho⟩
theorem Browser.rds {w : World} {hi : Nat} {x : Browser} {vs : List Go.Value} (h : RdsL w hi x.dcs vs) : ∃ (A_Tabs : Option Addr) (c_Tabs : Nat), vs = [.int .i64 x.Store.Vendor, .int .i64 x.Store.Serial, .int .i64 x.Store.Seed, .int .i64 x.Store.Counter, .slice A_Tabs x.Tabs.length c_Tabs, .int .i64 x.Asked] ∧ Rds w hi (TabsD x.Tabs) (.slice A_Tabs x.Tabs.length c_Tabs) := by
  unfold Browser.dcs at h
  simp only [RdsL] at h
  obtain ⟨_, _, rfl, h0, ⟨_, _, rfl, h1, ⟨_, _, rfl, h2, ⟨_, _, rfl, h3, ⟨_, _, rfl, h4, ⟨_, _, rfl, h5, rfl⟩⟩⟩⟩⟩⟩ := h
  obtain ⟨A4, c4, rfl⟩ := rds_slice h4
  obtain rfl := rds_val h0
  obtain rfl := rds_val h1
  obtain rfl := rds_val h2
  obtain rfl := rds_val h3
  obtain rfl := rds_val h5
  exact ⟨A4, c4, rfl, h4⟩
theorem Browser.mkR {w : World} {hi : Nat} {x : Browser} {A_Tabs : Option Addr} {c_Tabs : Nat} (h_Tabs : Rds w hi (TabsD x.Tabs) (.slice A_Tabs x.Tabs.length c_Tabs)) : RdsL w hi x.dcs [.int .i64 x.Store.Vendor, .int .i64 x.Store.Serial, .int .i64 x.Store.Seed, .int .i64 x.Store.Counter, .slice A_Tabs x.Tabs.length c_Tabs, .int .i64 x.Asked] := by
  unfold Browser.dcs
  simp only [RdsL]
  exact ⟨_, _, rfl, by simp [Rds], ⟨_, _, rfl, by simp [Rds], ⟨_, _, rfl, by simp [Rds], ⟨_, _, rfl, by simp [Rds], ⟨_, _, rfl, h_Tabs, ⟨_, _, rfl, by simp [Rds], rfl⟩⟩⟩⟩⟩⟩
theorem Browser.owns {w : World} {lo : Nat} {x : Browser} {vs : List Go.Value} {bs : List Nat} (h : OwnsL w lo x.dcs vs bs) : ∃ (A_Tabs : Option Addr) (c_Tabs : Nat) (b_Tabs : List Nat), vs = [.int .i64 x.Store.Vendor, .int .i64 x.Store.Serial, .int .i64 x.Store.Seed, .int .i64 x.Store.Counter, .slice A_Tabs x.Tabs.length c_Tabs, .int .i64 x.Asked] ∧ Owns w lo (TabsD x.Tabs) (.slice A_Tabs x.Tabs.length c_Tabs) b_Tabs ∧ bs = b_Tabs := by
  unfold Browser.dcs at h
  simp only [OwnsL] at h
  obtain ⟨_, _, _, _, rfl, h0, ⟨_, _, _, _, rfl, h1, ⟨_, _, _, _, rfl, h2, ⟨_, _, _, _, rfl, h3, ⟨_, _, _, _, rfl, h4, ⟨_, _, _, _, rfl, h5, ⟨rfl, rfl⟩, rfl⟩, rfl⟩, rfl⟩, rfl⟩, rfl⟩, rfl⟩ := h
  obtain ⟨rfl, rfl⟩ := owns_val h0
  obtain ⟨rfl, rfl⟩ := owns_val h1
  obtain ⟨rfl, rfl⟩ := owns_val h2
  obtain ⟨rfl, rfl⟩ := owns_val h3
  obtain ⟨A4, c4, rfl⟩ := owns_slice h4
  obtain ⟨rfl, rfl⟩ := owns_val h5
  exact ⟨A4, c4, _, rfl, h4, by simp⟩
theorem Browser.wt (x : Browser) : wtL x.dcs = Dm.wt (TabsD x.Tabs) := by
  unfold Browser.dcs
  simp only [wtL]
  simp only [wt_int]
  first | done | omega
set_option maxHeartbeats 3200000 in
set_option maxRecDepth 100000 in
theorem toBrowser (w : World) (x : Browser) (vs : List Go.Value) (h : RdsL w w.heap.size x.dcs vs) (hw : wtL x.dcs ≤ 4294967296) : Calls Tryz.prog 17 #[.agg vs.toArray] w (MadeL x.dcs w) := by
  obtain ⟨A_Tabs, c_Tabs, rfl, h_Tabs⟩ := Browser.rds h
  have hwt := Nat.le_of_eq (Browser.wt x)
  have hwu := Nat.le_of_eq (Browser.wt x).symm
  have hwt_Store := Nat.le_of_eq (Fx.KeyStore.wt x.Store)
  have hwu_Store := Nat.le_of_eq (Fx.KeyStore.wt x.Store).symm
  obtain ⟨w1, hw1⟩ : ∃ y, y = w.alloc (.cells #[.int .i64 x.Store.Vendor, .int .i64 x.Store.Serial, .int .i64 x.Store.Seed, .int .i64 x.Store.Counter, .slice A_Tabs x.Tabs.length c_Tabs, .int .i64 x.Asked] 48) := ⟨_, rfl⟩
  obtain ⟨w2, hw2⟩ : ∃ y, y = w1.alloc (.cells #[.int .i64 0, .int .i64 0, .int .i64 0, .int .i64 0, .slice none 0 0, .int .i64 0] 28) := ⟨_, rfl⟩
  obtain ⟨w3, hw3⟩ : ∃ y, y = w2.alloc (.cells #[.int .i64 0, .int .i64 0, .int .i64 0, .int .i64 0, .slice none 0 0, .int .i64 0] 28) := ⟨_, rfl⟩
  have s1 : w1.heap.size = w.heap.size + 1 := by rw [hw1]; simp
  have s2 : w2.heap.size = w.heap.size + 1 + 1 := by rw [hw2]; simp [s1]
  have s3 : w3.heap.size = w.heap.size + 1 + 1 + 1 := by rw [hw3]; simp [s2]
  have op := var_owns w 48 6 [.int .i64 x.Store.Vendor, .int .i64 x.Store.Serial, .int .i64 x.Store.Seed, .int .i64 x.Store.Counter, .slice A_Tabs x.Tabs.length c_Tabs, .int .i64 x.Asked] rfl
  have oz := var_owns w1 28 6 [.int .i64 0, .int .i64 0, .int .i64 0, .int .i64 0, .slice none 0 0, .int .i64 0] rfl
  have oo := var_owns w2 28 6 [.int .i64 0, .int .i64 0, .int .i64 0, .int .i64 0, .slice none 0 0, .int .i64 0] rfl
  have b01 : Below w.heap.size w w1 := hw1 ▸ (Below.refl _ _).alloc (Nat.le_refl _) _
  have b12 : Below w1.heap.size w1 w2 := hw2 ▸ (Below.refl _ _).alloc (Nat.le_refl _) _
  have b23 : Below w2.heap.size w2 w3 := hw3 ▸ (Below.refl _ _).alloc (Nat.le_refl _) _
  rw [← hw1] at op
  rw [← hw2, s1] at oz
  rw [← hw3, s2] at oo
  replace op := owns_below (owns_below op b12) b23
  replace oz := owns_below oz b23
  have HB : Below w.heap.size w w3 := b01.trans ((b12.trans (b23.mono b12.size)).mono b01.size)
  clear b01 b12 b23
  go_enter Tryz.func17, Tryz.ntmps17
  go_wp2_with fail
  rw [← hw1, ← hw2, ← hw3]
  clear hw1 hw2 hw3 s1 s2
  have z3 : w.heap.size + 1 + 1 < w3.heap.size := by omega
  (with_reducible refine (toKeyStore _ x.Store _ (rdsL_on (Fx.KeyStore.mkR ) HB) (by omega)).mono ?_); rintro e w4 ⟨v_Store, s_Store, rfl, o_Store, n_Store, b⟩
  have zz4 := b.size
  replace op := owns_below op b
  replace oz := owns_below oz b
  replace oo := owns_below oo b
  replace HB := HB.trans (b.mono HB.size)
  have i_Store : ∀ q, q ∈ s_Store → w3.heap.size ≤ q ∧ q < w4.heap.size := ownsL_in _ _ _ o_Store
  obtain ⟨rfl, g_Store⟩ := Fx.KeyStore.owns o_Store
  have c0 : w4.cell? ⟨w.heap.size + 1 + 1, 0, none⟩ = some (.int .i64 0) := var_load oo (by simp) 0 _ rfl
  have f0 : w4.frozen? ⟨w.heap.size + 1 + 1, 0, none⟩ = false := var_frozen oo (by simp) 0 _ rfl
  have c1 : w4.cell? ⟨w.heap.size + 1 + 1, 1, none⟩ = some (.int .i64 0) := var_load oo (by simp) 1 _ rfl
  have f1 : w4.frozen? ⟨w.heap.size + 1 + 1, 1, none⟩ = false := var_frozen oo (by simp) 1 _ rfl
  have c2 : w4.cell? ⟨w.heap.size + 1 + 1, 2, none⟩ = some (.int .i64 0) := var_load oo (by simp) 2 _ rfl
  have f2 : w4.frozen? ⟨w.heap.size + 1 + 1, 2, none⟩ = false := var_frozen oo (by simp) 2 _ rfl
  have c3 : w4.cell? ⟨w.heap.size + 1 + 1, 3, none⟩ = some (.int .i64 0) := var_load oo (by simp) 3 _ rfl
  have f3 : w4.frozen? ⟨w.heap.size + 1 + 1, 3, none⟩ = false := var_frozen oo (by simp) 3 _ rfl
  have p4 : w4.cell? ⟨w.heap.size, 4, none⟩ = some (.slice A_Tabs x.Tabs.length c_Tabs) := var_load op (by simp) 4 _ rfl
  have lp := var_lt op
  have lo := var_lt oo
  clear b
  go_wp2_with fail
  clear c0 c1 c2 c3 f0 f1 f2 f3 p4 lp lo
  obtain ⟨w5, hq⟩ : ∃ y, y = setAll w4 (w.heap.size + 1 + 1) 0 [.int .i64 x.Store.Vendor, .int .i64 x.Store.Serial, .int .i64 x.Store.Seed, .int .i64 x.Store.Counter] := ⟨_, rfl⟩
  obtain ⟨oo2, tt⟩ := var_some [.int .i64 x.Store.Vendor, .int .i64 x.Store.Serial, .int .i64 x.Store.Seed, .int .i64 x.Store.Counter] 0 _ _ oo (by simp)
  rw [← hq] at oo2 tt
  replace oo : Owns w5 _ (varD 28 6 [.int .i64 x.Store.Vendor, .int .i64 x.Store.Serial, .int .i64 x.Store.Seed, .int .i64 x.Store.Counter, .slice none 0 0, .int .i64 0]) _ _ := oo2
  clear oo2
  have zq5 := tt.2.2.2.1
  replace op := owns_turned op tt (fun b hb hb2 => by simp at hb hb2; omega)
  replace oz := owns_turned oz tt (fun b hb hb2 => by simp at hb hb2; omega)
  replace o_Store := ownsL_turned o_Store tt (fun b hb hb2 => by have h1 := i_Store b hb; simp at hb2; omega)
  replace HB := below_turned HB tt (fun b hb => by simp at hb; omega)
  rw [show ((((w4).setCell ⟨w.heap.size + 1 + 1, 0, none⟩ (.int .i64 x.Store.Vendor)).setCell ⟨w.heap.size + 1 + 1, 1, none⟩ (.int .i64 x.Store.Serial)).setCell ⟨w.heap.size + 1 + 1, 2, none⟩ (.int .i64 x.Store.Seed)).setCell ⟨w.heap.size + 1 + 1, 3, none⟩ (.int .i64 x.Store.Counter) = w5 from hq.symm]
  clear hq
  (with_reducible refine (toTabS _ x.Tabs _ (rds_on h_Tabs HB) (by omega)).mono ?_); rintro e w6 ⟨v_Tabs, s_Tabs, rfl, o_Tabs, n_Tabs, b⟩
  have zz6 := b.size
  replace op := owns_below op b
  replace oz := owns_below oz b
  replace oo := owns_below oo b
  replace o_Store := ownsL_below o_Store b
  replace HB := HB.trans (b.mono HB.size)
  obtain ⟨B_Tabs, d_Tabs, rfl⟩ := owns_slice o_Tabs
  have i_Tabs : ∀ q, q ∈ s_Tabs → w5.heap.size ≤ q ∧ q < w6.heap.size := owns_in _ _ _ o_Tabs
  have c4 : w6.cell? ⟨w.heap.size + 1 + 1, 4, none⟩ = some (.slice none 0 0) := var_load oo (by simp) 4 _ rfl
  have f4 : w6.frozen? ⟨w.heap.size + 1 + 1, 4, none⟩ = false := var_frozen oo (by simp) 4 _ rfl
  have c5 : w6.cell? ⟨w.heap.size + 1 + 1, 5, none⟩ = some (.int .i64 0) := var_load oo (by simp) 5 _ rfl
  have f5 : w6.frozen? ⟨w.heap.size + 1 + 1, 5, none⟩ = false := var_frozen oo (by simp) 5 _ rfl
  have p5 : w6.cell? ⟨w.heap.size, 5, none⟩ = some (.int .i64 x.Asked) := var_load op (by simp) 5 _ rfl
  have lp := var_lt op
  have lo := var_lt oo
  have c0 : w6.cell? ⟨w.heap.size + 1 + 1, 0, none⟩ = some (.int .i64 x.Store.Vendor) := var_load oo (by simp) 0 _ rfl
  have c1 : w6.cell? ⟨w.heap.size + 1 + 1, 1, none⟩ = some (.int .i64 x.Store.Serial) := var_load oo (by simp) 1 _ rfl
  have c2 : w6.cell? ⟨w.heap.size + 1 + 1, 2, none⟩ = some (.int .i64 x.Store.Seed) := var_load oo (by simp) 2 _ rfl
  have c3 : w6.cell? ⟨w.heap.size + 1 + 1, 3, none⟩ = some (.int .i64 x.Store.Counter) := var_load oo (by simp) 3 _ rfl
  have y0 : w6.cell? ⟨w.heap.size + 1, 0, none⟩ = some (.int .i64 0) := var_load oz (by simp) 0 _ rfl
  have x0 : w6.frozen? ⟨w.heap.size + 1, 0, none⟩ = false := var_frozen oz (by simp) 0 _ rfl
  have y1 : w6.cell? ⟨w.heap.size + 1, 1, none⟩ = some (.int .i64 0) := var_load oz (by simp) 1 _ rfl
  have x1 : w6.frozen? ⟨w.heap.size + 1, 1, none⟩ = false := var_frozen oz (by simp) 1 _ rfl
  have y2 : w6.cell? ⟨w.heap.size + 1, 2, none⟩ = some (.int .i64 0) := var_load oz (by simp) 2 _ rfl
  have x2 : w6.frozen? ⟨w.heap.size + 1, 2, none⟩ = false := var_frozen oz (by simp) 2 _ rfl
  have y3 : w6.cell? ⟨w.heap.size + 1, 3, none⟩ = some (.int .i64 0) := var_load oz (by simp) 3 _ rfl
  have x3 : w6.frozen? ⟨w.heap.size + 1, 3, none⟩ = false := var_frozen oz (by simp) 3 _ rfl
  have y4 : w6.cell? ⟨w.heap.size + 1, 4, none⟩ = some (.slice none 0 0) := var_load oz (by simp) 4 _ rfl
  have x4 : w6.frozen? ⟨w.heap.size + 1, 4, none⟩ = false := var_frozen oz (by simp) 4 _ rfl
  have y5 : w6.cell? ⟨w.heap.size + 1, 5, none⟩ = some (.int .i64 0) := var_load oz (by simp) 5 _ rfl
  have x5 : w6.frozen? ⟨w.heap.size + 1, 5, none⟩ = false := var_frozen oz (by simp) 5 _ rfl
  have lz := var_lt oz
  clear b
  go_wp2
  clear c4 c5 f4 f5 p5 lp lo c0 c1 c2 c3 y0 x0 y1 x1 y2 x2 y3 x3 y4 x4 y5 x5 lz
  obtain ⟨w7, hq⟩ : ∃ y, y = setAll w6 (w.heap.size + 1 + 1) 4 [.slice B_Tabs x.Tabs.length d_Tabs, .int .i64 x.Asked] := ⟨_, rfl⟩
  obtain ⟨oo2, tt⟩ := var_some [.slice B_Tabs x.Tabs.length d_Tabs, .int .i64 x.Asked] 4 _ _ oo (by simp)
  rw [← hq] at oo2 tt
  replace oo : Owns w7 _ (varD 28 6 [.int .i64 x.Store.Vendor, .int .i64 x.Store.Serial, .int .i64 x.Store.Seed, .int .i64 x.Store.Counter, .slice B_Tabs x.Tabs.length d_Tabs, .int .i64 x.Asked]) _ _ := oo2
  clear oo2
  have zq7 := tt.2.2.2.1
  replace op := owns_turned op tt (fun b hb hb2 => by simp at hb hb2; omega)
  replace oz := owns_turned oz tt (fun b hb hb2 => by simp at hb hb2; omega)
  replace o_Store := ownsL_turned o_Store tt (fun b hb hb2 => by have h1 := i_Store b hb; simp at hb2; omega)
  replace o_Tabs := owns_turned o_Tabs tt (fun b hb hb2 => by have h1 := i_Tabs b hb; simp at hb2; omega)
  replace HB := below_turned HB tt (fun b hb => by simp at hb; omega)
  obtain ⟨wf, hf⟩ : ∃ y, y = setAll w7 (w.heap.size + 1) 0 [.int .i64 x.Store.Vendor, .int .i64 x.Store.Serial, .int .i64 x.Store.Seed, .int .i64 x.Store.Counter, .slice B_Tabs x.Tabs.length d_Tabs, .int .i64 x.Asked] := ⟨_, rfl⟩
  obtain ⟨oz2, t2⟩ := var_some [.int .i64 x.Store.Vendor, .int .i64 x.Store.Serial, .int .i64 x.Store.Seed, .int .i64 x.Store.Counter, .slice B_Tabs x.Tabs.length d_Tabs, .int .i64 x.Asked] 0 _ _ oz (by simp)
  rw [← hf] at oz2 t2
  have zf := t2.2.2.2.1
  replace oz : Owns wf _ (varD 28 6 [.int .i64 x.Store.Vendor, .int .i64 x.Store.Serial, .int .i64 x.Store.Seed, .int .i64 x.Store.Counter, .slice B_Tabs x.Tabs.length d_Tabs, .int .i64 x.Asked]) _ _ := oz2
  have y0 : wf.cell? ⟨w.heap.size + 1, 0, none⟩ = some (.int .i64 x.Store.Vendor) := var_load oz (by simp) 0 _ rfl
  have y1 : wf.cell? ⟨w.heap.size + 1, 1, none⟩ = some (.int .i64 x.Store.Serial) := var_load oz (by simp) 1 _ rfl
  have y2 : wf.cell? ⟨w.heap.size + 1, 2, none⟩ = some (.int .i64 x.Store.Seed) := var_load oz (by simp) 2 _ rfl
  have y3 : wf.cell? ⟨w.heap.size + 1, 3, none⟩ = some (.int .i64 x.Store.Counter) := var_load oz (by simp) 3 _ rfl
  have y4 : wf.cell? ⟨w.heap.size + 1, 4, none⟩ = some (.slice B_Tabs x.Tabs.length d_Tabs) := var_load oz (by simp) 4 _ rfl
  have y5 : wf.cell? ⟨w.heap.size + 1, 5, none⟩ = some (.int .i64 x.Asked) := var_load oz (by simp) 5 _ rfl
  replace o_Store := ownsL_turned o_Store t2 (fun b hb hb2 => by have h1 := i_Store b hb; simp at hb2; omega)
  replace o_Tabs := owns_turned o_Tabs t2 (fun b hb hb2 => by have h1 := i_Tabs b hb; simp at hb2; omega)
  replace HB := below_turned HB t2 (fun b hb => by simp at hb; omega)
  have hg : ((((((((w6).setCell ⟨w.heap.size + 1 + 1, 4, none⟩ (.slice B_Tabs x.Tabs.length d_Tabs)).setCell ⟨w.heap.size + 1 + 1, 5, none⟩ (.int .i64 x.Asked)).setCell ⟨w.heap.size + 1, 0, none⟩ (.int .i64 x.Store.Vendor)).setCell ⟨w.heap.size + 1, 1, none⟩ (.int .i64 x.Store.Serial)).setCell ⟨w.heap.size + 1, 2, none⟩ (.int .i64 x.Store.Seed)).setCell ⟨w.heap.size + 1, 3, none⟩ (.int .i64 x.Store.Counter)).setCell ⟨w.heap.size + 1, 4, none⟩ (.slice B_Tabs x.Tabs.length d_Tabs)).setCell ⟨w.heap.size + 1, 5, none⟩ (.int .i64 x.Asked) = wf := by rw [hf, hq]; rfl
  rw [hg]
  clear hg hf hq
  have ND := nodup_nil wf.heap.size
  replace ND := nodup_step n_Tabs i_Tabs ND (by omega) (by omega)
  replace ND := nodup_step n_Store i_Store ND (by omega) (by omega)
  have hown : OwnsL wf w.heap.size x.dcs [.int .i64 x.Store.Vendor, .int .i64 x.Store.Serial, .int .i64 x.Store.Seed, .int .i64 x.Store.Counter, .slice B_Tabs x.Tabs.length d_Tabs, .int .i64 x.Asked] (s_Store ++ (s_Tabs ++ ([]))) := ownsL_app (ownsL_base (by omega) _ _ _ o_Store) (ownsL_app (ownsL_one (owns_base (by omega) _ _ _ o_Tabs)) ((vals_own wf w.heap.size [.int .i64 x.Asked])))
  refine bodyPost_ret (v := .agg #[.int .i64 x.Store.Vendor, .int .i64 x.Store.Serial, .int .i64 x.Store.Seed, .int .i64 x.Store.Counter, .slice B_Tabs x.Tabs.length d_Tabs, .int .i64 x.Asked]) (by simp [results, Tryz.results17, go_sem, y0, y1, y2, y3, y4, y5]) rfl ⟨[.int .i64 x.Store.Vendor, .int .i64 x.Store.Serial, .int .i64 x.Store.Seed, .int .i64 x.Store.Counter, .slice B_Tabs x.Tabs.length d_Tabs, .int .i64 x.Asked], _, rfl, hown, ND.1, HB⟩
set_option maxHeartbeats 3200000 in
set_option maxRecDepth 100000 in
theorem eqBrowser (w : World) (x : Browser) (us vs : List Value) (h : RdsL w w.heap.size x.dcs us) (h2 : RdsL w w.heap.size x.dcs vs) (hw : wtL x.dcs ≤ 4294967296) : Calls Tryz.prog 18 #[.agg us.toArray, .agg vs.toArray] w (Gives (.bool true) w) := by
  obtain ⟨A_Tabs, c_Tabs, rfl, h_Tabs⟩ := Browser.rds h
  obtain ⟨A2_Tabs, c2_Tabs, rfl, k_Tabs⟩ := Browser.rds h2
  have hwt := Nat.le_of_eq (Browser.wt x)
  have hwu := Nat.le_of_eq (Browser.wt x).symm
  have hwt_Store := Nat.le_of_eq (Fx.KeyStore.wt x.Store)
  have hwu_Store := Nat.le_of_eq (Fx.KeyStore.wt x.Store).symm
  obtain ⟨w1, hw1⟩ : ∃ y, y = w.alloc (.cells #[.int .i64 x.Store.Vendor, .int .i64 x.Store.Serial, .int .i64 x.Store.Seed, .int .i64 x.Store.Counter, .slice A_Tabs x.Tabs.length c_Tabs, .int .i64 x.Asked] 28) := ⟨_, rfl⟩
  obtain ⟨w2, hw2⟩ : ∃ y, y = w1.alloc (.cells #[.int .i64 x.Store.Vendor, .int .i64 x.Store.Serial, .int .i64 x.Store.Seed, .int .i64 x.Store.Counter, .slice A2_Tabs x.Tabs.length c2_Tabs, .int .i64 x.Asked] 28) := ⟨_, rfl⟩
  have s1 : w1.heap.size = w.heap.size + 1 := by rw [hw1]; simp
  have op := var_owns w 28 6 [.int .i64 x.Store.Vendor, .int .i64 x.Store.Serial, .int .i64 x.Store.Seed, .int .i64 x.Store.Counter, .slice A_Tabs x.Tabs.length c_Tabs, .int .i64 x.Asked] rfl
  have oz := var_owns w1 28 6 [.int .i64 x.Store.Vendor, .int .i64 x.Store.Serial, .int .i64 x.Store.Seed, .int .i64 x.Store.Counter, .slice A2_Tabs x.Tabs.length c2_Tabs, .int .i64 x.Asked] rfl
  have b01 : Below w.heap.size w w1 := hw1 ▸ (Below.refl _ _).alloc (Nat.le_refl _) _
  have b12 : Below w1.heap.size w1 w2 := hw2 ▸ (Below.refl _ _).alloc (Nat.le_refl _) _
  rw [← hw1] at op
  rw [← hw2, s1] at oz
  replace op := owns_below op b12
  have HB : Below w.heap.size w w2 := b01.trans (b12.mono b01.size)
  clear b01 b12
  go_enter Tryz.func18, Tryz.ntmps18
  go_wp2_with fail
  rw [← hw1, ← hw2]
  clear hw1 hw2 s1
  (with_reducible refine (eqKeyStore _ x.Store _ _ (rdsL_on (Fx.KeyStore.mkR ) HB) (rdsL_on (Fx.KeyStore.mkR ) HB) (by omega)).mono ?_); rintro e w3 ⟨rfl, b⟩
  replace op := owns_below op b
  replace oz := owns_below oz b
  replace HB := HB.trans (b.mono HB.size)
  clear b
  have p4 : w3.cell? ⟨w.heap.size, 4, none⟩ = some (.slice A_Tabs x.Tabs.length c_Tabs) := var_load op (by simp) 4 _ rfl
  have q4 : w3.cell? ⟨w.heap.size + 1, 4, none⟩ = some (.slice A2_Tabs x.Tabs.length c2_Tabs) := var_load oz (by simp) 4 _ rfl
  have lp := var_lt op
  have lz := var_lt oz
  go_wp2_with fail
  clear p4 q4 lp lz
  (with_reducible refine (eqTabS _ x.Tabs _ _ (rds_on h_Tabs HB) (rds_on k_Tabs HB) (by omega)).mono ?_); rintro e w4 ⟨rfl, b⟩
  replace op := owns_below op b
  replace oz := owns_below oz b
  replace HB := HB.trans (b.mono HB.size)
  clear b
  have p5 : w4.cell? ⟨w.heap.size, 5, none⟩ = some (.int .i64 x.Asked) := var_load op (by simp) 5 _ rfl
  have q5 : w4.cell? ⟨w.heap.size + 1, 5, none⟩ = some (.int .i64 x.Asked) := var_load oz (by simp) 5 _ rfl
  have lp := var_lt op
  have lz := var_lt oz
  go_wp2
  go_ret
  exact ⟨rfl, HB⟩
set_option maxHeartbeats 3200000 in
set_option maxRecDepth 100000 in
theorem szBrowser (w : World) (x : Browser) (vs : List Go.Value) (z : Int) (h : RdsL w w.heap.size x.dcs vs) (ho : x.ok) (hz0 : 0 ≤ z) (hz1 : z ≤ 1048576) :
    Calls Tryz.prog 15 #[.agg vs.toArray, .int .i64 z] w (Gives (.int .i64 (if (wtL x.dcs : Int) ≤ z then z - wtL x.dcs else -1)) w) := by
  obtain ⟨A_Tabs, c_Tabs, rfl, h_Tabs⟩ := Browser.rds h
  have hwt := Nat.le_of_eq (Browser.wt x)
  have hwu := Nat.le_of_eq (Browser.wt x).symm
  have hwt_Store := Nat.le_of_eq (Fx.KeyStore.wt x.Store)
  have hwu_Store := Nat.le_of_eq (Fx.KeyStore.wt x.Store).symm
  obtain ⟨r, hr⟩ : ∃ r : Int, r = if (wtL x.dcs : Int) ≤ z then z - wtL x.dcs else -1 := ⟨_, rfl⟩
  rw [← hr]
  have HR := Lib.hid hr
  clear hr
  obtain ⟨w1, hw1⟩ : ∃ y, y = w.alloc (.cells #[.int .i64 x.Store.Vendor, .int .i64 x.Store.Serial, .int .i64 x.Store.Seed, .int .i64 x.Store.Counter, .slice A_Tabs x.Tabs.length c_Tabs, .int .i64 x.Asked] 48) := ⟨_, rfl⟩
  have op := var_owns w 48 6 [.int .i64 x.Store.Vendor, .int .i64 x.Store.Serial, .int .i64 x.Store.Seed, .int .i64 x.Store.Counter, .slice A_Tabs x.Tabs.length c_Tabs, .int .i64 x.Asked] rfl
  have HB : Below w.heap.size w w1 := hw1 ▸ (Below.refl _ _).alloc (Nat.le_refl _) _
  rw [← hw1] at op
  go_enter Tryz.func15, Tryz.ntmps15
  go_wp2_with fail
  rw [← hw1]
  clear hw1
  (with_reducible refine (szTabS _ x.Tabs _ z (rds_on h_Tabs HB) ho.Tabs_n ho.Tabs (by omega) (by omega)).mono ?_); rintro e w2 ⟨rfl, b⟩
  replace op := owns_below op b
  replace HB := HB.trans (b.mono HB.size)
  clear b
  have lp0 := var_lt op
  by_cases hl0 : (Dm.wt (TabsD x.Tabs) : Int) ≤ z
  · rw [if_pos hl0]
    obtain rfl : r = (z - (Dm.wt (TabsD x.Tabs) : Int)) := by rw [HR.out, if_pos (by omega)]; omega
    go_wp2
    go_ret
    exact ⟨rfl, HB⟩
  · rw [if_neg hl0]
    obtain rfl : r = -1 := by rw [HR.out, if_neg (by omega)]
    go_wp2
    go_ret
    exact ⟨rfl, HB⟩
theorem mkT_Browser (x : Browser) (k : Int) : mkT x.dcs k = [.val (.int .i64 x.Store.Vendor), .val (.int .i64 x.Store.Serial), .val (.int .i64 x.Store.Seed), .val (.int .i64 x.Store.Counter), mk (TabsD x.Tabs) (k), .val (.int .i64 x.Asked)] := by
  unfold Browser.dcs
  rw [mkT_val, mkT_val, mkT_val, mkT_val, mkT_of (d := TabsD x.Tabs) trivial, mkT_val]
  rfl
theorem cntT_Browser (x : Browser) : cntT x.dcs = cnt (TabsD x.Tabs) := by
  unfold Browser.dcs
  rw [cntT_val, cntT_val, cntT_val, cntT_val, cntT_of (d := TabsD x.Tabs) trivial, cntT_val]
  simp only [cntT, Nat.add_zero]
theorem cntTb_Browser (x : Browser) : cntT x.dcs ≤ 64 * wtL x.dcs := by
  rw [cntT_Browser, Browser.wt]
  have h_Tabs := cnt_Tabs (x.Tabs)
  have k_Store := Fx.KeyStore.wt x.Store
  omega
set_option maxHeartbeats 3200000 in
set_option maxRecDepth 100000 in
theorem markBrowser (w : World) (base : Nat) (x : Browser) (vs : List Go.Value) (bs : List Nat) (k : Int) (ho : OwnsL w base x.dcs vs bs) (hnd : bs.Nodup) (hw : wtL x.dcs ≤ 4294967296) (hk0 : 0 ≤ k) (hk1 : k + cntT x.dcs ≤ 1099511627776) :
    Calls Tryz.prog 20 #[.agg vs.toArray, .int .i64 k] w (MarkL x.dcs k base vs bs w) := by
  have hi0 := ownsL_in _ _ _ ho
  obtain ⟨A_Tabs, c_Tabs, b_Tabs, rfl, o_Tabs, hbs⟩ := Browser.owns ho
  clear ho
  replace hbs := hbs.symm
  subst hbs
  have n_Tabs := hnd
  have i_Tabs := owns_in _ _ _ o_Tabs
  have hwt := Nat.le_of_eq (Browser.wt x)
  have hwu := Nat.le_of_eq (Browser.wt x).symm
  have hwt_Store := Nat.le_of_eq (Fx.KeyStore.wt x.Store)
  have hwu_Store := Nat.le_of_eq (Fx.KeyStore.wt x.Store).symm
  have hct := Nat.le_of_eq (cntT_Browser x)
  have hcu := Nat.le_of_eq (cntT_Browser x).symm
  obtain ⟨w1, hw1⟩ : ∃ y, y = w.alloc (.cells #[.int .i64 x.Store.Vendor, .int .i64 x.Store.Serial, .int .i64 x.Store.Seed, .int .i64 x.Store.Counter, .slice A_Tabs x.Tabs.length c_Tabs, .int .i64 x.Asked] 28) := ⟨_, rfl⟩
  have op := var_owns w 28 6 [.int .i64 x.Store.Vendor, .int .i64 x.Store.Serial, .int .i64 x.Store.Seed, .int .i64 x.Store.Counter, .slice A_Tabs x.Tabs.length c_Tabs, .int .i64 x.Asked] rfl
  have b01 : Below w.heap.size w w1 := hw1 ▸ (Below.refl _ _).alloc (Nat.le_refl _) _
  rw [← hw1] at op
  replace o_Tabs := owns_below o_Tabs b01
  have HT : Turned w w1 (b_Tabs) := turned_below b01
  clear b01
  go_enter Tryz.func20, Tryz.ntmps20
  go_wp2_with fail
  rw [← hw1]
  clear hw1
  (with_reducible refine (markTabS _ base x.Tabs _ _ (k) o_Tabs n_Tabs (by omega) (by omega) (by omega)).mono ?_); rintro e w2 ⟨rfl, oq, t⟩
  have zz2 := t.2.2.2.1
  replace op := owns_turned op t (fun b hb hb2 => by simp at hb; subst hb; exact absurd (show w.heap.size < w.heap.size from (i_Tabs _ hb2).2) (Nat.lt_irrefl _))
  replace HT := turned_trans HT (turned_more t (fun x hx => hx))
  have o_Tabs := ownsL_one oq
  clear oq t
  have lp := var_lt op
  have hown : OwnsL w2 base [.val (.int .i64 x.Store.Vendor), .val (.int .i64 x.Store.Serial), .val (.int .i64 x.Store.Seed), .val (.int .i64 x.Store.Counter), mk (TabsD x.Tabs) (k), .val (.int .i64 x.Asked)] [.int .i64 x.Store.Vendor, .int .i64 x.Store.Serial, .int .i64 x.Store.Seed, .int .i64 x.Store.Counter, .slice A_Tabs x.Tabs.length c_Tabs, .int .i64 x.Asked] (([]) ++ ((b_Tabs) ++ ([]))) := ownsL_app (vals_own w2 base [.int .i64 x.Store.Vendor, .int .i64 x.Store.Serial, .int .i64 x.Store.Seed, .int .i64 x.Store.Counter]) (ownsL_app o_Tabs ((vals_own w2 base [.int .i64 x.Asked])))
  have hbe : ([]) ++ ((b_Tabs) ++ ([])) = b_Tabs := by simp
  rw [hbe] at hown
  go_wp2
  go_ret
  refine ⟨by rw [show k + ((Fx.cntT x.dcs : Nat) : Int) = k + cnt (TabsD x.Tabs) by omega]; rfl, ?_, HT⟩
  rw [mkT_Browser]
  exact hown
set_option maxHeartbeats 3200000 in
set_option maxRecDepth 100000 in
theorem heldBrowser (w : World) (x : Browser) (vs : List Go.Value) (k : Int) (h : RdsL w w.heap.size (mkT x.dcs k) vs) (hw : wtL x.dcs ≤ 4294967296) (hk0 : 0 ≤ k) (hk1 : k + cntT x.dcs ≤ 1099511627776) :
    Calls Tryz.prog 21 #[.agg vs.toArray, .int .i64 k] w (Gives (.int .i64 (k + cntT x.dcs)) w) := by
  rw [mkT_Browser] at h
  simp only [RdsL] at h
  obtain ⟨_, _, rfl, h0, ⟨_, _, rfl, h1, ⟨_, _, rfl, h2, ⟨_, _, rfl, h3, ⟨_, _, rfl, h4, ⟨_, _, rfl, h5, rfl⟩⟩⟩⟩⟩⟩ := h
  obtain rfl := rds_val h0
  obtain rfl := rds_val h1
  obtain rfl := rds_val h2
  obtain rfl := rds_val h3
  obtain ⟨A_Tabs, c_Tabs, rfl⟩ := marked_slice h4
  obtain rfl := rds_val h5
  have hwt := Nat.le_of_eq (Browser.wt x)
  have hwu := Nat.le_of_eq (Browser.wt x).symm
  have hwt_Store := Nat.le_of_eq (Fx.KeyStore.wt x.Store)
  have hwu_Store := Nat.le_of_eq (Fx.KeyStore.wt x.Store).symm
  have hct := Nat.le_of_eq (cntT_Browser x)
  have hcu := Nat.le_of_eq (cntT_Browser x).symm
  obtain ⟨w1, hw1⟩ : ∃ y, y = w.alloc (.cells #[.int .i64 x.Store.Vendor, .int .i64 x.Store.Serial, .int .i64 x.Store.Seed, .int .i64 x.Store.Counter, .slice A_Tabs x.Tabs.length c_Tabs, .int .i64 x.Asked] 28) := ⟨_, rfl⟩
  have op := var_owns w 28 6 [.int .i64 x.Store.Vendor, .int .i64 x.Store.Serial, .int .i64 x.Store.Seed, .int .i64 x.Store.Counter, .slice A_Tabs x.Tabs.length c_Tabs, .int .i64 x.Asked] rfl
  have HB : Below w.heap.size w w1 := hw1 ▸ (Below.refl _ _).alloc (Nat.le_refl _) _
  rw [← hw1] at op
  go_enter Tryz.func21, Tryz.ntmps21
  go_wp2_with fail
  rw [← hw1]
  clear hw1
  (with_reducible refine (heldTabS _ x.Tabs _ (k) (rds_on h4 HB) (by omega) (by omega) (by omega)).mono ?_); rintro e w2 ⟨rfl, b⟩
  replace op := owns_below op b
  replace HB := HB.trans (b.mono HB.size)
  clear b
  have lp := var_lt op
  go_wp2
  go_ret
  exact ⟨by rw [show k + ((Fx.cntT x.dcs : Nat) : Int) = k + cnt (TabsD x.Tabs) by omega]; rfl, HB⟩
end Go.Proofs.YtogoppknimpkbaaGreatDoor.Fx
