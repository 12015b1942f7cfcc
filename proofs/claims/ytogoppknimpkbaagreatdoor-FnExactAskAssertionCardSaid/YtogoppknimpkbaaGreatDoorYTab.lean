import Derived.Test.YtogoppknimpkbaaGreatDoorBb
import Derived.Test.YtogoppknimpkbaaGreatDoorMt
import Derived.Test.YtogoppknimpkbaaGreatDoorYOrigin
/-
  Tab: a struct of the laws as a thing of its own, and the laws' own functions over it.
-/
set_option linter.unusedVariables false
namespace Go.Proofs.YtogoppknimpkbaaGreatDoor.Fx
open Go.ChangeShapes Go.WideShapes Go.ChangeAt Go.RowKit Go.Deep
open S0 S1 S9 S10 Ty Dm Bx
structure Tab where
  Origin : Fx.Origin
  Top : Fx.Origin
def Tab.dcs (x : Tab) : List Dc := [.val (.bool x.Origin.Secure), .val (.string x.Origin.Host), .val (.int .i64 x.Origin.Port), .val (.bool x.Top.Secure), .val (.string x.Top.Host), .val (.int .i64 x.Top.Port)]
theorem Tab.len (x : Tab) : x.dcs.length = 6 := rfl
structure Tab.ok (x : Tab) : Prop where
  Origin : x.Origin.ok
  Top : x.Top.ok
def tyTab : Ty := .cons tyOrigin (.cons tyOrigin (.done))
set_option maxRecDepth 100000 in
theorem Tab.is {ds : List Dc} (h : Is tyTab ds) : ∃ x : Tab, ds = x.dcs ∧ x.ok := by
  unfold tyTab at h
  simp only [Is] at h
  obtain ⟨_, _, rfl, h0, ⟨_, _, rfl, h1, rfl⟩⟩ := h
  obtain ⟨x0, rfl, hh0⟩ := Fx.Origin.is h0
  obtain ⟨x1, rfl, hh1⟩ := Fx.Origin.is h1
  exact ⟨⟨x0, x1⟩, rfl, ⟨hh0, hh1⟩⟩
def TabsD (l : List Tab) : Dc := .row 62 6 l.length (l.flatMap Tab.dcs)
def tyTabs : Ty := .slice 111 62 tyTab
set_option maxRecDepth 100000 in
theorem isTabs {ds : List Dc} (h : Is tyTabs ds) : ∃ l : List Tab, ds = [TabsD l] ∧ l.length ≤ maxLen ∧ ∀ x ∈ l, x.ok := by
  unfold tyTabs at h
  simp only [Is] at h
  obtain ⟨n, cs, rfl, hn, hp⟩ := h
  obtain ⟨l, rfl, rfl, ho⟩ := of_pieces Tab.dcs Tab.ok (fun ds hd => Tab.is hd) n cs hp
  exact ⟨l, rfl, hn, ho⟩
theorem Tab.rds {w : World} {hi : Nat} {x : Tab} {vs : List Go.Value} (h : RdsL w hi x.dcs vs) : vs = [.bool x.Origin.Secure, .string x.Origin.Host, .int .i64 x.Origin.Port, .bool x.Top.Secure, .string x.Top.Host, .int .i64 x.Top.Port] := by
  unfold Tab.dcs at h
  simp only [RdsL] at h
  obtain ⟨_, _, rfl, h0, ⟨_, _, rfl, h1, ⟨_, _, rfl, h2, ⟨_, _, rfl, h3, ⟨_, _, rfl, h4, ⟨_, _, rfl, h5, rfl⟩⟩⟩⟩⟩⟩ := h
  obtain rfl := rds_val h0
  obtain rfl := rds_val h1
  obtain rfl := rds_val h2
  obtain rfl := rds_val h3
  obtain rfl := rds_val h4
  obtain rfl := rds_val h5
  exact rfl
theorem Tab.mkR {w : World} {hi : Nat} {x : Tab}   : RdsL w hi x.dcs [.bool x.Origin.Secure, .string x.Origin.Host, .int .i64 x.Origin.Port, .bool x.Top.Secure, .string x.Top.Host, .int .i64 x.Top.Port] := by
  unfold Tab.dcs
  simp only [RdsL]
  exact ⟨_, _, rfl, by simp [Rds], ⟨_, _, rfl, by simp [Rds], ⟨_, _, rfl, by simp [Rds], ⟨_, _, rfl, by simp [Rds], ⟨_, _, rfl, by simp [Rds], ⟨_, _, rfl, by simp [Rds], rfl⟩⟩⟩⟩⟩⟩
theorem Tab.owns {w : World} {lo : Nat} {x : Tab} {vs : List Go.Value} {bs : List Nat} (h : OwnsL w lo x.dcs vs bs) : vs = [.bool x.Origin.Secure, .string x.Origin.Host, .int .i64 x.Origin.Port, .bool x.Top.Secure, .string x.Top.Host, .int .i64 x.Top.Port] ∧ bs = [] := by
  unfold Tab.dcs at h
  simp only [OwnsL] at h
  obtain ⟨_, _, _, _, rfl, h0, ⟨_, _, _, _, rfl, h1, ⟨_, _, _, _, rfl, h2, ⟨_, _, _, _, rfl, h3, ⟨_, _, _, _, rfl, h4, ⟨_, _, _, _, rfl, h5, ⟨rfl, rfl⟩, rfl⟩, rfl⟩, rfl⟩, rfl⟩, rfl⟩, rfl⟩ := h
  obtain ⟨rfl, rfl⟩ := owns_val h0
  obtain ⟨rfl, rfl⟩ := owns_val h1
  obtain ⟨rfl, rfl⟩ := owns_val h2
  obtain ⟨rfl, rfl⟩ := owns_val h3
  obtain ⟨rfl, rfl⟩ := owns_val h4
  obtain ⟨rfl, rfl⟩ := owns_val h5
  exact ⟨rfl, by simp⟩
theorem Tab.wt (x : Tab) : wtL x.dcs = x.Origin.Host.size + x.Top.Host.size := by
  unfold Tab.dcs
  simp only [wtL]
  simp only [wt_int, wt_bool, wt_str]
  first | done | omega
set_option maxHeartbeats 3200000 in
set_option maxRecDepth 100000 in
theorem toTab (w : World) (x : Tab) (vs : List Go.Value) (h : RdsL w w.heap.size x.dcs vs) (hw : wtL x.dcs ≤ 4294967296) : Calls Tryz.prog 81 #[.agg vs.toArray] w (MadeL x.dcs w) := by
  obtain rfl := Tab.rds h
  have hwt := Nat.le_of_eq (Tab.wt x)
  have hwu := Nat.le_of_eq (Tab.wt x).symm
  have hwt_Origin := Nat.le_of_eq (Fx.Origin.wt x.Origin)
  have hwu_Origin := Nat.le_of_eq (Fx.Origin.wt x.Origin).symm
  have hwt_Top := Nat.le_of_eq (Fx.Origin.wt x.Top)
  have hwu_Top := Nat.le_of_eq (Fx.Origin.wt x.Top).symm
  obtain ⟨w1, hw1⟩ : ∃ y, y = w.alloc (.cells #[.bool x.Origin.Secure, .string x.Origin.Host, .int .i64 x.Origin.Port, .bool x.Top.Secure, .string x.Top.Host, .int .i64 x.Top.Port] 111) := ⟨_, rfl⟩
  obtain ⟨w2, hw2⟩ : ∃ y, y = w1.alloc (.cells #[.bool false, .string ⟨#[]⟩, .int .i64 0, .bool false, .string ⟨#[]⟩, .int .i64 0] 62) := ⟨_, rfl⟩
  obtain ⟨w3, hw3⟩ : ∃ y, y = w2.alloc (.cells #[.bool false, .string ⟨#[]⟩, .int .i64 0, .bool false, .string ⟨#[]⟩, .int .i64 0] 62) := ⟨_, rfl⟩
  have s1 : w1.heap.size = w.heap.size + 1 := by rw [hw1]; simp
  have s2 : w2.heap.size = w.heap.size + 1 + 1 := by rw [hw2]; simp [s1]
  have s3 : w3.heap.size = w.heap.size + 1 + 1 + 1 := by rw [hw3]; simp [s2]
  have op := var_owns w 111 6 [.bool x.Origin.Secure, .string x.Origin.Host, .int .i64 x.Origin.Port, .bool x.Top.Secure, .string x.Top.Host, .int .i64 x.Top.Port] rfl
  have oz := var_owns w1 62 6 [.bool false, .string ⟨#[]⟩, .int .i64 0, .bool false, .string ⟨#[]⟩, .int .i64 0] rfl
  have oo := var_owns w2 62 6 [.bool false, .string ⟨#[]⟩, .int .i64 0, .bool false, .string ⟨#[]⟩, .int .i64 0] rfl
  have b01 : Below w.heap.size w w1 := hw1 ▸ (Below.refl _ _).alloc (Nat.le_refl _) _
  have b12 : Below w1.heap.size w1 w2 := hw2 ▸ (Below.refl _ _).alloc (Nat.le_refl _) _
  have b23 : Below w2.heap.size w2 w3 := hw3 ▸ (Below.refl _ _).alloc (Nat.le_refl _) _
  rw [← hw1] at op
  rw [← hw2, s1] at oz
  rw [← hw3, s2] at oo
  replace op := owns_below (owns_below op b12) b23
  replace oz := owns_below oz b23
  have HB : Below w.heap.size w w3 := b01.trans ((b12.trans (b23.mono b12.size)).mono b01.size)
  clear b01 b12 b23
  go_enter Tryz.func81, Tryz.ntmps81
  go_wp2_with fail
  rw [← hw1, ← hw2, ← hw3]
  clear hw1 hw2 hw3 s1 s2
  have z3 : w.heap.size + 1 + 1 < w3.heap.size := by omega
  (with_reducible refine (toOrigin _ x.Origin _ (rdsL_on (Fx.Origin.mkR ) HB) (by omega)).mono ?_); rintro e w4 ⟨v_Origin, s_Origin, rfl, o_Origin, n_Origin, b⟩
  have zz4 := b.size
  replace op := owns_below op b
  replace oz := owns_below oz b
  replace oo := owns_below oo b
  replace HB := HB.trans (b.mono HB.size)
  have i_Origin : ∀ q, q ∈ s_Origin → w3.heap.size ≤ q ∧ q < w4.heap.size := ownsL_in _ _ _ o_Origin
  obtain ⟨rfl, g_Origin⟩ := Fx.Origin.owns o_Origin
  have c0 : w4.cell? ⟨w.heap.size + 1 + 1, 0, none⟩ = some (.bool false) := var_load oo (by simp) 0 _ rfl
  have f0 : w4.frozen? ⟨w.heap.size + 1 + 1, 0, none⟩ = false := var_frozen oo (by simp) 0 _ rfl
  have c1 : w4.cell? ⟨w.heap.size + 1 + 1, 1, none⟩ = some (.string ⟨#[]⟩) := var_load oo (by simp) 1 _ rfl
  have f1 : w4.frozen? ⟨w.heap.size + 1 + 1, 1, none⟩ = false := var_frozen oo (by simp) 1 _ rfl
  have c2 : w4.cell? ⟨w.heap.size + 1 + 1, 2, none⟩ = some (.int .i64 0) := var_load oo (by simp) 2 _ rfl
  have f2 : w4.frozen? ⟨w.heap.size + 1 + 1, 2, none⟩ = false := var_frozen oo (by simp) 2 _ rfl
  have p3 : w4.cell? ⟨w.heap.size, 3, none⟩ = some (.bool x.Top.Secure) := var_load op (by simp) 3 _ rfl
  have p4 : w4.cell? ⟨w.heap.size, 4, none⟩ = some (.string x.Top.Host) := var_load op (by simp) 4 _ rfl
  have p5 : w4.cell? ⟨w.heap.size, 5, none⟩ = some (.int .i64 x.Top.Port) := var_load op (by simp) 5 _ rfl
  have lp := var_lt op
  have lo := var_lt oo
  clear b
  go_wp2_with fail
  clear c0 c1 c2 f0 f1 f2 p3 p4 p5 lp lo
  obtain ⟨w5, hq⟩ : ∃ y, y = setAll w4 (w.heap.size + 1 + 1) 0 [.bool x.Origin.Secure, .string x.Origin.Host, .int .i64 x.Origin.Port] := ⟨_, rfl⟩
  obtain ⟨oo2, tt⟩ := var_some [.bool x.Origin.Secure, .string x.Origin.Host, .int .i64 x.Origin.Port] 0 _ _ oo (by simp)
  rw [← hq] at oo2 tt
  replace oo : Owns w5 _ (varD 62 6 [.bool x.Origin.Secure, .string x.Origin.Host, .int .i64 x.Origin.Port, .bool false, .string ⟨#[]⟩, .int .i64 0]) _ _ := oo2
  clear oo2
  have zq5 := tt.2.2.2.1
  replace op := owns_turned op tt (fun b hb hb2 => by simp at hb hb2; omega)
  replace oz := owns_turned oz tt (fun b hb hb2 => by simp at hb hb2; omega)
  replace o_Origin := ownsL_turned o_Origin tt (fun b hb hb2 => by have h1 := i_Origin b hb; simp at hb2; omega)
  replace HB := below_turned HB tt (fun b hb => by simp at hb; omega)
  rw [show (((w4).setCell ⟨w.heap.size + 1 + 1, 0, none⟩ (.bool x.Origin.Secure)).setCell ⟨w.heap.size + 1 + 1, 1, none⟩ (.string x.Origin.Host)).setCell ⟨w.heap.size + 1 + 1, 2, none⟩ (.int .i64 x.Origin.Port) = w5 from hq.symm]
  clear hq
  (with_reducible refine (toOrigin _ x.Top _ (rdsL_on (Fx.Origin.mkR ) HB) (by omega)).mono ?_); rintro e w6 ⟨v_Top, s_Top, rfl, o_Top, n_Top, b⟩
  have zz6 := b.size
  replace op := owns_below op b
  replace oz := owns_below oz b
  replace oo := owns_below oo b
  replace o_Origin := ownsL_below o_Origin b
  replace HB := HB.trans (b.mono HB.size)
  have i_Top : ∀ q, q ∈ s_Top → w5.heap.size ≤ q ∧ q < w6.heap.size := ownsL_in _ _ _ o_Top
  obtain ⟨rfl, g_Top⟩ := Fx.Origin.owns o_Top
  have c3 : w6.cell? ⟨w.heap.size + 1 + 1, 3, none⟩ = some (.bool false) := var_load oo (by simp) 3 _ rfl
  have f3 : w6.frozen? ⟨w.heap.size + 1 + 1, 3, none⟩ = false := var_frozen oo (by simp) 3 _ rfl
  have c4 : w6.cell? ⟨w.heap.size + 1 + 1, 4, none⟩ = some (.string ⟨#[]⟩) := var_load oo (by simp) 4 _ rfl
  have f4 : w6.frozen? ⟨w.heap.size + 1 + 1, 4, none⟩ = false := var_frozen oo (by simp) 4 _ rfl
  have c5 : w6.cell? ⟨w.heap.size + 1 + 1, 5, none⟩ = some (.int .i64 0) := var_load oo (by simp) 5 _ rfl
  have f5 : w6.frozen? ⟨w.heap.size + 1 + 1, 5, none⟩ = false := var_frozen oo (by simp) 5 _ rfl
  have lp := var_lt op
  have lo := var_lt oo
  have c0 : w6.cell? ⟨w.heap.size + 1 + 1, 0, none⟩ = some (.bool x.Origin.Secure) := var_load oo (by simp) 0 _ rfl
  have c1 : w6.cell? ⟨w.heap.size + 1 + 1, 1, none⟩ = some (.string x.Origin.Host) := var_load oo (by simp) 1 _ rfl
  have c2 : w6.cell? ⟨w.heap.size + 1 + 1, 2, none⟩ = some (.int .i64 x.Origin.Port) := var_load oo (by simp) 2 _ rfl
  have y0 : w6.cell? ⟨w.heap.size + 1, 0, none⟩ = some (.bool false) := var_load oz (by simp) 0 _ rfl
  have x0 : w6.frozen? ⟨w.heap.size + 1, 0, none⟩ = false := var_frozen oz (by simp) 0 _ rfl
  have y1 : w6.cell? ⟨w.heap.size + 1, 1, none⟩ = some (.string ⟨#[]⟩) := var_load oz (by simp) 1 _ rfl
  have x1 : w6.frozen? ⟨w.heap.size + 1, 1, none⟩ = false := var_frozen oz (by simp) 1 _ rfl
  have y2 : w6.cell? ⟨w.heap.size + 1, 2, none⟩ = some (.int .i64 0) := var_load oz (by simp) 2 _ rfl
  have x2 : w6.frozen? ⟨w.heap.size + 1, 2, none⟩ = false := var_frozen oz (by simp) 2 _ rfl
  have y3 : w6.cell? ⟨w.heap.size + 1, 3, none⟩ = some (.bool false) := var_load oz (by simp) 3 _ rfl
  have x3 : w6.frozen? ⟨w.heap.size + 1, 3, none⟩ = false := var_frozen oz (by simp) 3 _ rfl
  have y4 : w6.cell? ⟨w.heap.size + 1, 4, none⟩ = some (.string ⟨#[]⟩) := var_load oz (by simp) 4 _ rfl
  have x4 : w6.frozen? ⟨w.heap.size + 1, 4, none⟩ = false := var_frozen oz (by simp) 4 _ rfl
  have y5 : w6.cell? ⟨w.heap.size + 1, 5, none⟩ = some (.int .i64 0) := var_load oz (by simp) 5 _ rfl
  have x5 : w6.frozen? ⟨w.heap.size + 1, 5, none⟩ = false := var_frozen oz (by simp) 5 _ rfl
  have lz := var_lt oz
  clear b
  go_wp2
  clear c3 c4 c5 f3 f4 f5 lp lo c0 c1 c2 y0 x0 y1 x1 y2 x2 y3 x3 y4 x4 y5 x5 lz
  obtain ⟨w7, hq⟩ : ∃ y, y = setAll w6 (w.heap.size + 1 + 1) 3 [.bool x.Top.Secure, .string x.Top.Host, .int .i64 x.Top.Port] := ⟨_, rfl⟩
  obtain ⟨oo2, tt⟩ := var_some [.bool x.Top.Secure, .string x.Top.Host, .int .i64 x.Top.Port] 3 _ _ oo (by simp)
  rw [← hq] at oo2 tt
  replace oo : Owns w7 _ (varD 62 6 [.bool x.Origin.Secure, .string x.Origin.Host, .int .i64 x.Origin.Port, .bool x.Top.Secure, .string x.Top.Host, .int .i64 x.Top.Port]) _ _ := oo2
  clear oo2
  have zq7 := tt.2.2.2.1
  replace op := owns_turned op tt (fun b hb hb2 => by simp at hb hb2; omega)
  replace oz := owns_turned oz tt (fun b hb hb2 => by simp at hb hb2; omega)
  replace o_Origin := ownsL_turned o_Origin tt (fun b hb hb2 => by have h1 := i_Origin b hb; simp at hb2; omega)
  replace o_Top := ownsL_turned o_Top tt (fun b hb hb2 => by have h1 := i_Top b hb; simp at hb2; omega)
  replace HB := below_turned HB tt (fun b hb => by simp at hb; omega)
  obtain ⟨wf, hf⟩ : ∃ y, y = setAll w7 (w.heap.size + 1) 0 [.bool x.Origin.Secure, .string x.Origin.Host, .int .i64 x.Origin.Port, .bool x.Top.Secure, .string x.Top.Host, .int .i64 x.Top.Port] := ⟨_, rfl⟩
  obtain ⟨oz2, t2⟩ := var_some [.bool x.Origin.Secure, .string x.Origin.Host, .int .i64 x.Origin.Port, .bool x.Top.Secure, .string x.Top.Host, .int .i64 x.Top.Port] 0 _ _ oz (by simp)
  rw [← hf] at oz2 t2
  have zf := t2.2.2.2.1
  replace oz : Owns wf _ (varD 62 6 [.bool x.Origin.Secure, .string x.Origin.Host, .int .i64 x.Origin.Port, .bool x.Top.Secure, .string x.Top.Host, .int .i64 x.Top.Port]) _ _ := oz2
  have y0 : wf.cell? ⟨w.heap.size + 1, 0, none⟩ = some (.bool x.Origin.Secure) := var_load oz (by simp) 0 _ rfl
  have y1 : wf.cell? ⟨w.heap.size + 1, 1, none⟩ = some (.string x.Origin.Host) := var_load oz (by simp) 1 _ rfl
  have y2 : wf.cell? ⟨w.heap.size + 1, 2, none⟩ = some (.int .i64 x.Origin.Port) := var_load oz (by simp) 2 _ rfl
  have y3 : wf.cell? ⟨w.heap.size + 1, 3, none⟩ = some (.bool x.Top.Secure) := var_load oz (by simp) 3 _ rfl
  have y4 : wf.cell? ⟨w.heap.size + 1, 4, none⟩ = some (.string x.Top.Host) := var_load oz (by simp) 4 _ rfl
  have y5 : wf.cell? ⟨w.heap.size + 1, 5, none⟩ = some (.int .i64 x.Top.Port) := var_load oz (by simp) 5 _ rfl
  replace o_Origin := ownsL_turned o_Origin t2 (fun b hb hb2 => by have h1 := i_Origin b hb; simp at hb2; omega)
  replace o_Top := ownsL_turned o_Top t2 (fun b hb hb2 => by have h1 := i_Top b hb; simp at hb2; omega)
  replace HB := below_turned HB t2 (fun b hb => by simp at hb; omega)
  have hg : (((((((((w6).setCell ⟨w.heap.size + 1 + 1, 3, none⟩ (.bool x.Top.Secure)).setCell ⟨w.heap.size + 1 + 1, 4, none⟩ (.string x.Top.Host)).setCell ⟨w.heap.size + 1 + 1, 5, none⟩ (.int .i64 x.Top.Port)).setCell ⟨w.heap.size + 1, 0, none⟩ (.bool x.Origin.Secure)).setCell ⟨w.heap.size + 1, 1, none⟩ (.string x.Origin.Host)).setCell ⟨w.heap.size + 1, 2, none⟩ (.int .i64 x.Origin.Port)).setCell ⟨w.heap.size + 1, 3, none⟩ (.bool x.Top.Secure)).setCell ⟨w.heap.size + 1, 4, none⟩ (.string x.Top.Host)).setCell ⟨w.heap.size + 1, 5, none⟩ (.int .i64 x.Top.Port) = wf := by rw [hf, hq]; rfl
  rw [hg]
  clear hg hf hq
  have ND := nodup_last n_Top i_Top
  replace ND := nodup_step n_Origin i_Origin ND (by omega) (by omega)
  have hown : OwnsL wf w.heap.size x.dcs [.bool x.Origin.Secure, .string x.Origin.Host, .int .i64 x.Origin.Port, .bool x.Top.Secure, .string x.Top.Host, .int .i64 x.Top.Port] (s_Origin ++ (s_Top)) := ownsL_app (ownsL_base (by omega) _ _ _ o_Origin) ((ownsL_base (by omega) _ _ _ o_Top))
  refine bodyPost_ret (v := .agg #[.bool x.Origin.Secure, .string x.Origin.Host, .int .i64 x.Origin.Port, .bool x.Top.Secure, .string x.Top.Host, .int .i64 x.Top.Port]) (by simp [results, Tryz.results81, go_sem, y0, y1, y2, y3, y4, y5]) rfl ⟨[.bool x.Origin.Secure, .string x.Origin.Host, .int .i64 x.Origin.Port, .bool x.Top.Secure, .string x.Top.Host, .int .i64 x.Top.Port], _, rfl, hown, ND.1, HB⟩
set_option maxHeartbeats 3200000 in
set_option maxRecDepth 100000 in
theorem eqTab (w : World) (x : Tab) (us vs : List Value) (h : RdsL w w.heap.size x.dcs us) (h2 : RdsL w w.heap.size x.dcs vs) (hw : wtL x.dcs ≤ 4294967296) : Calls Tryz.prog 82 #[.agg us.toArray, .agg vs.toArray] w (Gives (.bool true) w) := by
  obtain rfl := Tab.rds h
  obtain rfl := Tab.rds h2
  have hwt := Nat.le_of_eq (Tab.wt x)
  have hwu := Nat.le_of_eq (Tab.wt x).symm
  have hwt_Origin := Nat.le_of_eq (Fx.Origin.wt x.Origin)
  have hwu_Origin := Nat.le_of_eq (Fx.Origin.wt x.Origin).symm
  have hwt_Top := Nat.le_of_eq (Fx.Origin.wt x.Top)
  have hwu_Top := Nat.le_of_eq (Fx.Origin.wt x.Top).symm
  obtain ⟨w1, hw1⟩ : ∃ y, y = w.alloc (.cells #[.bool x.Origin.Secure, .string x.Origin.Host, .int .i64 x.Origin.Port, .bool x.Top.Secure, .string x.Top.Host, .int .i64 x.Top.Port] 62) := ⟨_, rfl⟩
  obtain ⟨w2, hw2⟩ : ∃ y, y = w1.alloc (.cells #[.bool x.Origin.Secure, .string x.Origin.Host, .int .i64 x.Origin.Port, .bool x.Top.Secure, .string x.Top.Host, .int .i64 x.Top.Port] 62) := ⟨_, rfl⟩
  have s1 : w1.heap.size = w.heap.size + 1 := by rw [hw1]; simp
  have op := var_owns w 62 6 [.bool x.Origin.Secure, .string x.Origin.Host, .int .i64 x.Origin.Port, .bool x.Top.Secure, .string x.Top.Host, .int .i64 x.Top.Port] rfl
  have oz := var_owns w1 62 6 [.bool x.Origin.Secure, .string x.Origin.Host, .int .i64 x.Origin.Port, .bool x.Top.Secure, .string x.Top.Host, .int .i64 x.Top.Port] rfl
  have b01 : Below w.heap.size w w1 := hw1 ▸ (Below.refl _ _).alloc (Nat.le_refl _) _
  have b12 : Below w1.heap.size w1 w2 := hw2 ▸ (Below.refl _ _).alloc (Nat.le_refl _) _
  rw [← hw1] at op
  rw [← hw2, s1] at oz
  replace op := owns_below op b12
  have HB : Below w.heap.size w w2 := b01.trans (b12.mono b01.size)
  clear b01 b12
  go_enter Tryz.func82, Tryz.ntmps82
  go_wp2_with fail
  rw [← hw1, ← hw2]
  clear hw1 hw2 s1
  (with_reducible refine (eqOrigin _ x.Origin _ _ (rdsL_on (Fx.Origin.mkR ) HB) (rdsL_on (Fx.Origin.mkR ) HB) (by omega)).mono ?_); rintro e w3 ⟨rfl, b⟩
  replace op := owns_below op b
  replace oz := owns_below oz b
  replace HB := HB.trans (b.mono HB.size)
  clear b
  have p3 : w3.cell? ⟨w.heap.size, 3, none⟩ = some (.bool x.Top.Secure) := var_load op (by simp) 3 _ rfl
  have q3 : w3.cell? ⟨w.heap.size + 1, 3, none⟩ = some (.bool x.Top.Secure) := var_load oz (by simp) 3 _ rfl
  have p4 : w3.cell? ⟨w.heap.size, 4, none⟩ = some (.string x.Top.Host) := var_load op (by simp) 4 _ rfl
  have q4 : w3.cell? ⟨w.heap.size + 1, 4, none⟩ = some (.string x.Top.Host) := var_load oz (by simp) 4 _ rfl
  have p5 : w3.cell? ⟨w.heap.size, 5, none⟩ = some (.int .i64 x.Top.Port) := var_load op (by simp) 5 _ rfl
  have q5 : w3.cell? ⟨w.heap.size + 1, 5, none⟩ = some (.int .i64 x.Top.Port) := var_load oz (by simp) 5 _ rfl
  have lp := var_lt op
  have lz := var_lt oz
  go_wp2_with fail
  clear p3 q3 p4 q4 p5 q5 lp lz
  (with_reducible refine (eqOrigin _ x.Top _ _ (rdsL_on (Fx.Origin.mkR ) HB) (rdsL_on (Fx.Origin.mkR ) HB) (by omega)).mono ?_); rintro e w4 ⟨rfl, b⟩
  replace op := owns_below op b
  replace oz := owns_below oz b
  replace HB := HB.trans (b.mono HB.size)
  clear b
  have lp := var_lt op
  have lz := var_lt oz
  go_wp2
  go_ret
  exact ⟨rfl, HB⟩
set_option maxHeartbeats 3200000 in
set_option maxRecDepth 100000 in
theorem szTab (w : World) (x : Tab) (vs : List Go.Value) (z : Int) (h : RdsL w w.heap.size x.dcs vs) (ho : x.ok) (hz0 : 0 ≤ z) (hz1 : z ≤ 1048576) :
    Calls Tryz.prog 79 #[.agg vs.toArray, .int .i64 z] w (Gives (.int .i64 (if (wtL x.dcs : Int) ≤ z then z - wtL x.dcs else -1)) w) := by
  obtain rfl := Tab.rds h
  have hwt := Nat.le_of_eq (Tab.wt x)
  have hwu := Nat.le_of_eq (Tab.wt x).symm
  have hwt_Origin := Nat.le_of_eq (Fx.Origin.wt x.Origin)
  have hwu_Origin := Nat.le_of_eq (Fx.Origin.wt x.Origin).symm
  have hwt_Top := Nat.le_of_eq (Fx.Origin.wt x.Top)
  have hwu_Top := Nat.le_of_eq (Fx.Origin.wt x.Top).symm
  obtain ⟨r, hr⟩ : ∃ r : Int, r = if (wtL x.dcs : Int) ≤ z then z - wtL x.dcs else -1 := ⟨_, rfl⟩
  rw [← hr]
  have HR := Lib.hid hr
  clear hr
  obtain ⟨w1, hw1⟩ : ∃ y, y = w.alloc (.cells #[.bool x.Origin.Secure, .string x.Origin.Host, .int .i64 x.Origin.Port, .bool x.Top.Secure, .string x.Top.Host, .int .i64 x.Top.Port] 111) := ⟨_, rfl⟩
  have op := var_owns w 111 6 [.bool x.Origin.Secure, .string x.Origin.Host, .int .i64 x.Origin.Port, .bool x.Top.Secure, .string x.Top.Host, .int .i64 x.Top.Port] rfl
  have HB : Below w.heap.size w w1 := hw1 ▸ (Below.refl _ _).alloc (Nat.le_refl _) _
  rw [← hw1] at op
  go_enter Tryz.func79, Tryz.ntmps79
  go_wp2_with fail
  rw [← hw1]
  clear hw1
  (with_reducible refine (szOrigin _ x.Origin _ z (rdsL_on (Fx.Origin.mkR ) HB) ho.Origin (by omega) (by omega)).mono ?_); rintro e w2 ⟨rfl, b⟩
  replace op := owns_below op b
  replace HB := HB.trans (b.mono HB.size)
  clear b
  have lp0 := var_lt op
  by_cases hl0 : (wtL x.Origin.dcs : Int) ≤ z
  · rw [if_pos hl0]
    have p1_3 : w2.cell? ⟨w.heap.size, 3, none⟩ = some (.bool x.Top.Secure) := var_load op (by simp) 3 _ rfl
    have p1_4 : w2.cell? ⟨w.heap.size, 4, none⟩ = some (.string x.Top.Host) := var_load op (by simp) 4 _ rfl
    have p1_5 : w2.cell? ⟨w.heap.size, 5, none⟩ = some (.int .i64 x.Top.Port) := var_load op (by simp) 5 _ rfl
    go_wp2_with fail
    (with_reducible refine (szOrigin _ x.Top _ (z - (wtL x.Origin.dcs : Int)) (rdsL_on (Fx.Origin.mkR ) HB) ho.Top (by omega) (by omega)).mono ?_); rintro e w3 ⟨rfl, b⟩
    clear p1_3 p1_4 p1_5
    replace op := owns_below op b
    replace HB := HB.trans (b.mono HB.size)
    clear b
    have lp1 := var_lt op
    by_cases hl1 : (wtL x.Top.dcs : Int) ≤ (z - (wtL x.Origin.dcs : Int))
    · rw [if_pos hl1]
      obtain rfl : r = ((z - (wtL x.Origin.dcs : Int)) - (wtL x.Top.dcs : Int)) := by rw [HR.out, if_pos (by omega)]; omega
      go_wp2
      go_ret
      exact ⟨rfl, HB⟩
    · rw [if_neg hl1]
      obtain rfl : r = -1 := by rw [HR.out, if_neg (by omega)]
      go_wp2
      go_ret
      exact ⟨rfl, HB⟩
  · rw [if_neg hl0]
    obtain rfl : r = -1 := by rw [HR.out, if_neg (by omega)]
    go_wp2
    go_ret
    exact ⟨rfl, HB⟩
set_option maxRecDepth 100000 in
theorem Tab_info : (Tryz.prog.info? 62).map (fun i => (i.zero, i.size, i.bytes)) = some (some (.agg #[.bool false, .string ⟨#[]⟩, .int .i64 0, .bool false, .string ⟨#[]⟩, .int .i64 0]), 6, 64) := by kernel_rfl
theorem wt_Tabs (l : List Tab) : Dm.wt (TabsD l) = l.length + wtL (l.flatMap Tab.dcs) := by unfold TabsD; simp only [Dm.wt]
theorem cntL_Tab (x : Tab) : cntL x.dcs = 6 := by
  unfold Tab.dcs
  simp only [cntL, cnt_plain]
  first | done | omega
theorem cntb_Tab (x : Tab) : cntL x.dcs ≤ 64 + 64 * wtL x.dcs := by
  rw [cntL_Tab, Tab.wt]
  omega
theorem cnt_Tabs (l : List Tab) : cnt (TabsD l) ≤ 64 * Dm.wt (TabsD l) := by
  rw [wt_Tabs]
  unfold TabsD
  simp only [cnt]
  exact cnt_flatMap Tab.dcs cntb_Tab l
set_option maxHeartbeats 3200000 in
set_option maxRecDepth 100000 in
theorem toTabS (w : World) (l : List Tab) (v : Value) (hr : Rds w w.heap.size (TabsD l) v) (hw : Dm.wt (TabsD l) ≤ 4294967296) : Calls Tryz.prog 47 #[v] w (MadeD (TabsD l) w) := by
  obtain ⟨i0, hi, hz0, hz1, hz2⟩ := info_parts Tab_info
  rw [wt_Tabs] at hw
  obtain ⟨A, c, rfl⟩ := rds_slice hr
  obtain ⟨n, hln⟩ : ∃ n, n = l.length := ⟨_, rfl⟩
  have HR := Lib.hid hr
  have HD := Lib.hid (show ∀ x ∈ l, wtL x.dcs ≤ 4294967296 from fun x hx => by have := wt_mem Tab.dcs hx; omega)
  have hn : n ≤ 4294967296 := by omega
  rw [← hln]
  clear hr hw
  have HL := Lib.hid hln
  clear hln
  go_enter Tryz.func47, Tryz.ntmps47
  go_wp2_with (at_make; refine wpList_make_full _ rfl _ _ 26 rfl w.heap.size 62 i0 (.agg #[.bool false, .string ⟨#[]⟩, .int .i64 0, .bool false, .string ⟨#[]⟩, .int .i64 0]) 6 Tryz.underlying26 hi hz0 hz1 _ _ _ _ n rfl rfl rfl rfl (by rw [hz2]; omega) (by unfold maxLen; omega) (Nat.le_refl _) ?_; intro w1 hown hgrow)
  have HF : Bs.Fill 62 6 n w ((l.take 0).flatMap Tab.dcs) ((n - 0) * 6) w1 := ⟨[], _, [], by rw [List.nil_append]; exact hown, by have := hown.1; omega, by simp [OwnsL], by simp, below_grown hgrow (Nat.le_refl _) (fun _ h => by cases h)⟩
  clear hown hgrow
  go_loopw [4] (fun i wr => ∃ k : Nat, k ≤ n ∧ i = .int .i64 k ∧ Bs.Fill 62 6 n w ((l.take k).flatMap Tab.dcs) ((n - k) * 6) wr) (fun i _ => n - (intOf i).toNat)
  case atStart => exact ⟨0, by omega, rfl, HF⟩
  case round =>
    obtain ⟨k, hk, rfl, HF⟩ := hrel
    by_cases hlt : k < n
    · obtain ⟨b, hb⟩ := get_some l (i := k) (by rw [← HL.out]; exact hlt)
      have hbw : Below w.heap.size w wr := by obtain ⟨_, _, _, _, _, _, _, h⟩ := HF; exact h
      have hws := hbw.size
      obtain ⟨vp, tail, bs, ho, ht, _, _, _⟩ := id HF
      have hfl : vp.length + tail.length = n * 6 := by have := ho.1; rw [List.length_append] at this; exact this
      obtain ⟨g, off, us, rfl, hg, hru, hc⟩ := piece_at Tab.len (by omega) (rds_keep hbw.block _ _ HR.out) hb
      obtain rfl := Tab.rds hru
      have c0 : wr.cell? ⟨g, off + k * 6, none⟩ = some (.bool b.Origin.Secure) := hc 0 _ rfl
      have c1 : wr.cell? ⟨g, off + k * 6 + 1, none⟩ = some (.string b.Origin.Host) := hc 1 _ rfl
      have c2 : wr.cell? ⟨g, off + k * 6 + 2, none⟩ = some (.int .i64 b.Origin.Port) := hc 2 _ rfl
      have c3 : wr.cell? ⟨g, off + k * 6 + 3, none⟩ = some (.bool b.Top.Secure) := hc 3 _ rfl
      have c4 : wr.cell? ⟨g, off + k * 6 + 4, none⟩ = some (.string b.Top.Host) := hc 4 _ rfl
      have c5 : wr.cell? ⟨g, off + k * 6 + 5, none⟩ = some (.int .i64 b.Top.Port) := hc 5 _ rfl
      have HU := Lib.hid hru
      clear hc hru
      have HB := Lib.hid hb
      have HW := Lib.hid hbw
      have hdl := HD.out b (List.mem_of_getElem? hb)
      clear hb
      have HF1 := Lib.hid HF
      have HO := Lib.hid ho
      clear HF ho hbw ht hfl
      go_wp2_with fail
      (with_reducible refine (toTab _ b _ (rdsL_more hws _ _ HU.out) hdl).mono ?_); rintro e w2 ⟨vs2, s2, rfl, o2, n2, b2⟩
      have O2 := Lib.hid o2
      obtain ⟨rfl, -⟩ := Tab.owns o2
      have ho2 := own_below HO.out b2
      obtain ⟨z0, q0, f0⟩ := Bs.stored_any ho2 (k * 6) (by omega)
      obtain ⟨z1, q1, f1⟩ := Bs.stored_any ho2 (k * 6 + 1) (by omega)
      obtain ⟨z2, q2, f2⟩ := Bs.stored_any ho2 (k * 6 + 2) (by omega)
      obtain ⟨z3, q3, f3⟩ := Bs.stored_any ho2 (k * 6 + 3) (by omega)
      obtain ⟨z4, q4, f4⟩ := Bs.stored_any ho2 (k * 6 + 4) (by omega)
      obtain ⟨z5, q5, f5⟩ := Bs.stored_any ho2 (k * 6 + 5) (by omega)
      have hgg := (ho2.lt _ rfl).2
      have hnk : (n - k) * 6 = (n - (k + 1)) * 6 + 6 := by omega
      rw [hnk] at HF1
      have HN := fill_many (p := k * 6) HF1.out (by rw [flat_len Tab.len, List.length_take, ← HL.out, Nat.min_eq_left (by omega)]) b2 O2.out n2 rfl
      rw [← take_next HB.out] at HN
      replace HN := Lib.hid HN
      clear o2 ho2 hnk HF1 O2
      go_wp2
      go_roundw
      case rel => exact ⟨k + 1, by omega, by go_num, HN.out⟩
      case measure => simp [intOf]; omega
    · have hkn : k = n := by omega
      have hd : decide (k < n) = false := by simp; omega
      rw [hkn, Nat.sub_self, Nat.zero_mul, show l.take n = l by rw [HL.out, List.take_length]] at HF
      clear hkn
      obtain ⟨bs, h1, h2, h3⟩ := Bs.fill_end HF
      go_wp2
      go_ret
      refine ⟨_, bs, rfl, ?_, h2, h3⟩
      unfold TabsD
      rw [← HL.out]
      exact h1
set_option maxHeartbeats 3200000 in
set_option maxRecDepth 100000 in
theorem eqTabS (w : World) (l : List Tab) (u v : Value) (hu : Rds w w.heap.size (TabsD l) u) (hv : Rds w w.heap.size (TabsD l) v) (hw : Dm.wt (TabsD l) ≤ 4294967296) : Calls Tryz.prog 49 #[u, v] w (Gives (.bool true) w) := by
  rw [wt_Tabs] at hw
  obtain ⟨A, c, rfl⟩ := rds_slice hu
  obtain ⟨A2, c2, rfl⟩ := rds_slice hv
  obtain ⟨n, hln⟩ : ∃ n, n = l.length := ⟨_, rfl⟩
  have HR := Lib.hid hu
  have HS := Lib.hid hv
  have HD := Lib.hid (show ∀ x ∈ l, wtL x.dcs ≤ 4294967296 from fun x hx => by have := wt_mem Tab.dcs hx; omega)
  have hn : n ≤ 4294967296 := by omega
  rw [← hln]
  clear hu hv hw
  have HL := Lib.hid hln
  clear hln
  go_enter Tryz.func49, Tryz.ntmps49
  go_wp2
  go_loopw [5] (fun i wr => ∃ k : Nat, k ≤ n ∧ i = .int .i64 k ∧ Below w.heap.size w wr) (fun i _ => n - (intOf i).toNat)
  case atStart => exact ⟨0, by omega, rfl, Below.refl _ _⟩
  case round =>
    obtain ⟨k, hk, rfl, HW⟩ := hrel
    by_cases hlt : k < n
    · obtain ⟨b, hb⟩ := get_some l (i := k) (by rw [← HL.out]; exact hlt)
      have hws := HW.size
      obtain ⟨g, off, us, rfl, hg, hru, hc⟩ := piece_at Tab.len (by omega) (rds_keep HW.block _ _ HR.out) hb
      obtain ⟨g2, off2, us2, rfl, hg2, hru2, hc2⟩ := piece_at Tab.len (by omega) (rds_keep HW.block _ _ HS.out) hb
      obtain rfl := Tab.rds hru
      obtain rfl := Tab.rds hru2
      have c0 : wr.cell? ⟨g, off + k * 6, none⟩ = some (.bool b.Origin.Secure) := hc 0 _ rfl
      have d0 : wr.cell? ⟨g2, off2 + k * 6, none⟩ = some (.bool b.Origin.Secure) := hc2 0 _ rfl
      have c1 : wr.cell? ⟨g, off + k * 6 + 1, none⟩ = some (.string b.Origin.Host) := hc 1 _ rfl
      have d1 : wr.cell? ⟨g2, off2 + k * 6 + 1, none⟩ = some (.string b.Origin.Host) := hc2 1 _ rfl
      have c2 : wr.cell? ⟨g, off + k * 6 + 2, none⟩ = some (.int .i64 b.Origin.Port) := hc 2 _ rfl
      have d2 : wr.cell? ⟨g2, off2 + k * 6 + 2, none⟩ = some (.int .i64 b.Origin.Port) := hc2 2 _ rfl
      have c3 : wr.cell? ⟨g, off + k * 6 + 3, none⟩ = some (.bool b.Top.Secure) := hc 3 _ rfl
      have d3 : wr.cell? ⟨g2, off2 + k * 6 + 3, none⟩ = some (.bool b.Top.Secure) := hc2 3 _ rfl
      have c4 : wr.cell? ⟨g, off + k * 6 + 4, none⟩ = some (.string b.Top.Host) := hc 4 _ rfl
      have d4 : wr.cell? ⟨g2, off2 + k * 6 + 4, none⟩ = some (.string b.Top.Host) := hc2 4 _ rfl
      have c5 : wr.cell? ⟨g, off + k * 6 + 5, none⟩ = some (.int .i64 b.Top.Port) := hc 5 _ rfl
      have d5 : wr.cell? ⟨g2, off2 + k * 6 + 5, none⟩ = some (.int .i64 b.Top.Port) := hc2 5 _ rfl
      have hdl := HD.out b (List.mem_of_getElem? hb)
      have RB := Lib.hid (rdsL_on (rdsL_more hws _ _ hru) (drewN_below wr 1 _))
      have RB2 := Lib.hid (rdsL_on (rdsL_more hws _ _ hru2) (drewN_below wr 1 _))
      clear hb hc hc2 hru hru2
      go_wp2_with fail
      go_region_with (go_at_call 82; refine (eqTab _ b _ _ RB.out RB2.out hdl).mono ?_; rintro e w2 ⟨rfl, b2⟩)
      all_goals
        have HW2 : Below w.heap.size w w2 := HW.trans ((drewN_below wr 1 _).trans (b2.mono hws))
        go_wp2
        go_roundw
        case rel => exact ⟨k + 1, by omega, by go_num, HW2⟩
        case measure => simp [intOf]; omega
    · have hd : decide (k < n) = false := by simp; omega
      go_wp2
      go_ret
      exact ⟨rfl, HW⟩
set_option maxHeartbeats 3200000 in
set_option maxRecDepth 100000 in
theorem markTabS (w : World) (base : Nat) (l : List Tab) (v : Value) (bs : List Nat) (k : Int) (ho : Owns w base (TabsD l) v bs) (hnd : bs.Nodup) (hw : Dm.wt (TabsD l) ≤ 4294967296) (hk0 : 0 ≤ k) (hk1 : k + cnt (TabsD l) ≤ 1099511627776) :
    Calls Tryz.prog 50 #[v, .int .i64 k] w (MarkD (TabsD l) k base v bs w) := by
  rw [wt_Tabs] at hw
  obtain ⟨A, c, rfl⟩ := owns_slice ho
  obtain ⟨n, hln⟩ : ∃ n, n = l.length := ⟨_, rfl⟩
  have HF : Mkg 62 6 l.length base (l.flatMap Tab.dcs) k A l.length c bs w 0 w := mkg_start ho hnd
  have hcl := flat_len Tab.len l
  have hkc := fun p => kP_le (cs := l.flatMap Tab.dcs) (k := k) (p := p)
  have hcc : cnt (TabsD l) = cntL (l.flatMap Tab.dcs) := by unfold TabsD; simp only [cnt]
  rw [hcc] at hk1
  have HC := Lib.hid hcc
  have HD := Lib.hid (show ∀ x ∈ l, wtL x.dcs ≤ 4294967296 from fun x hx => by have := wt_mem Tab.dcs hx; omega)
  have hn : n ≤ 4294967296 := by omega
  rw [← hln] at hcl HF ⊢
  have HK := Lib.hid hkc
  have HCL := Lib.hid hcl
  have HL := Lib.hid hln
  clear ho hnd hw hcc hln hkc hcl
  have hz : kP (l.flatMap Tab.dcs) k 0 = k := kP_zero _ _
  go_enter Tryz.func50, Tryz.ntmps50
  go_wp2
  go_loopw [1, 5] (fun q i wr => ∃ j : Nat, j ≤ n ∧ i = .int .i64 j ∧ q = .int .i64 (kP (l.flatMap Tab.dcs) k (j * 6)) ∧ Mkg 62 6 n base (l.flatMap Tab.dcs) k A n c bs w (j * 6) wr) (fun _ i _ => n - (intOf i).toNat)
  case atStart => exact ⟨0, by omega, rfl, by rw [Nat.zero_mul, hz], by rw [Nat.zero_mul]; exact HF⟩
  case round =>
    obtain ⟨j, hj, rfl, rfl, HM⟩ := hrel
    clear HF hz
    by_cases hlt : j < n
    · obtain ⟨b, hb⟩ := get_some l (i := j) (by rw [← HL.out]; exact hlt)
      have hdl := HD.out b (List.mem_of_getElem? hb)
      have e0 : (l.flatMap Tab.dcs)[j * 6]? = some (.val (.bool b.Origin.Secure)) := flat_at Tab.len l j b 0 hb (by omega)
      have e1 : (l.flatMap Tab.dcs)[j * 6 + 1]? = some (.val (.string b.Origin.Host)) := flat_at Tab.len l j b 1 hb (by omega)
      have e2 : (l.flatMap Tab.dcs)[j * 6 + 2]? = some (.val (.int .i64 b.Origin.Port)) := flat_at Tab.len l j b 2 hb (by omega)
      have e3 : (l.flatMap Tab.dcs)[j * 6 + 3]? = some (.val (.bool b.Top.Secure)) := flat_at Tab.len l j b 3 hb (by omega)
      have e4 : (l.flatMap Tab.dcs)[j * 6 + 4]? = some (.val (.string b.Top.Host)) := flat_at Tab.len l j b 4 hb (by omega)
      have e5 : (l.flatMap Tab.dcs)[j * 6 + 5]? = some (.val (.int .i64 b.Top.Port)) := flat_at Tab.len l j b 5 hb (by omega)
      obtain ⟨q, hq⟩ : ∃ q, q = kP (l.flatMap Tab.dcs) k (j * 6) := ⟨_, rfl⟩
      have k0 : kP (l.flatMap Tab.dcs) k (j * 6) = q := hq.symm
      have k1 : kP (l.flatMap Tab.dcs) k (j * 6 + 1) = q + 1 := by rw [show j * 6 + 1 = (j * 6) + 1 from rfl, kP_val e0, k0]
      have k2 : kP (l.flatMap Tab.dcs) k (j * 6 + 2) = q + 1 + 1 := by rw [show j * 6 + 2 = (j * 6 + 1) + 1 from rfl, kP_val e1, k1]
      have k3 : kP (l.flatMap Tab.dcs) k (j * 6 + 3) = q + 1 + 1 + 1 := by rw [show j * 6 + 3 = (j * 6 + 2) + 1 from rfl, kP_val e2, k2]
      have k4 : kP (l.flatMap Tab.dcs) k (j * 6 + 4) = q + 1 + 1 + 1 + 1 := by rw [show j * 6 + 4 = (j * 6 + 3) + 1 from rfl, kP_val e3, k3]
      have k5 : kP (l.flatMap Tab.dcs) k (j * 6 + 5) = q + 1 + 1 + 1 + 1 + 1 := by rw [show j * 6 + 5 = (j * 6 + 4) + 1 from rfl, kP_val e4, k4]
      have k6 : kP (l.flatMap Tab.dcs) k (j * 6 + 6) = q + 1 + 1 + 1 + 1 + 1 + 1 := by rw [show j * 6 + 6 = (j * 6 + 5) + 1 from rfl, kP_val e5, k5]
      have kz : kP (l.flatMap Tab.dcs) k ((j + 1) * 6) = q + 1 + 1 + 1 + 1 + 1 + 1 := by rw [show (j + 1) * 6 = j * 6 + 6 by omega]; exact k6
      have q0 := (HK.out (j * 6)).1
      have q4 := (HK.out ((j + 1) * 6)).2
      rw [kz] at q4
      rw [k0] at q0 ⊢
      clear hq
      obtain ⟨g, off, rfl, hbg, hgs⟩ := mkg_addr HM e0
      have M0 := HM
      clear HM hb
      obtain ⟨c0, f0, M1⟩ := mkg_bool k0 (show off + (j * 6) = off + j * 6 from rfl) (by omega) M0 e0
      go_wp2_with fail
      (with_reducible refine (Mt.markText _ (q + 1) (by omega) (by omega)).mono ?_); rintro e w4 ⟨rfl, bq⟩
      replace M1 := mkg_below M1 bq
      clear bq c0 f0
      have hgs1 := mkg_lt M1 e1
      obtain ⟨c1, f1, M2⟩ := mkg_str k1 (show off + (j * 6 + 1) = off + j * 6 + 1 from rfl) M1 e1
      obtain ⟨c2, f2, M3⟩ := mkg_int k2 (show off + (j * 6 + 2) = off + j * 6 + 2 from rfl) M2 e2
      obtain ⟨c3, f3, M4⟩ := mkg_bool k3 (show off + (j * 6 + 3) = off + j * 6 + 3 from rfl) (by omega) M3 e3
      go_wp2_with fail
      (with_reducible refine (Mt.markText _ (q + 1 + 1 + 1 + 1) (by omega) (by omega)).mono ?_); rintro e w7 ⟨rfl, bq⟩
      replace M4 := mkg_below M4 bq
      clear bq c1 f1 c2 f2 c3 f3
      have hgs4 := mkg_lt M4 e4
      obtain ⟨c4, f4, M5⟩ := mkg_str k4 (show off + (j * 6 + 4) = off + j * 6 + 4 from rfl) M4 e4
      obtain ⟨c5, f5, M6⟩ := mkg_int k5 (show off + (j * 6 + 5) = off + j * 6 + 5 from rfl) M5 e5
      have H4 := Lib.hid (show Mkg 62 6 n base (l.flatMap Tab.dcs) k (some ⟨g, off, none⟩) n c bs w ((j + 1) * 6) _ by rw [show (j + 1) * 6 = j * 6 + 6 by omega]; exact M6)
      have HZ := Lib.hid kz
      clear M1 M2 M3 M4 M5 M6 e0 e1 e2 e3 e4 e5 k0 k1 k2 k3 k4 k5 k6 kz M0
      go_wp2
      go_roundw
      case rel => exact ⟨j + 1, by omega, by go_num, by rw [HZ.out], H4.out⟩
      case measure => simp [intOf]; omega
    · have hd : decide (j < n) = false := by simp; omega
      have hjn : n = j := by omega
      subst hjn
      obtain ⟨h1, h2⟩ := mkg_end HM HCL.out
      have hk2 : kP (l.flatMap Tab.dcs) k (n * 6) = k + cntL (l.flatMap Tab.dcs) := kP_all _ _ _ HCL.out
      rw [hk2]
      have H1 := Lib.hid h1
      have H2 := Lib.hid h2
      clear HM h1 h2 hk2
      go_wp2
      go_ret
      refine ⟨by rw [HC.out]; rfl, ?_, H2.out⟩
      have := H1.out
      unfold TabsD
      rw [← HL.out]
      exact this
set_option maxHeartbeats 3200000 in
set_option maxRecDepth 100000 in
theorem heldTabS (w : World) (l : List Tab) (v : Value) (k : Int) (hr : Rds w w.heap.size (mk (TabsD l) k) v) (hw : Dm.wt (TabsD l) ≤ 4294967296) (hk0 : 0 ≤ k) (hk1 : k + cnt (TabsD l) ≤ 1099511627776) :
    Calls Tryz.prog 51 #[v, .int .i64 k] w (Gives (.int .i64 (k + cnt (TabsD l))) w) := by
  rw [wt_Tabs] at hw
  unfold TabsD at hr
  obtain ⟨A, c, rfl⟩ := marked_slice hr
  obtain ⟨n, hln⟩ : ∃ n, n = l.length := ⟨_, rfl⟩
  have hcl := flat_len Tab.len l
  have hkc := fun p => kP_le (cs := l.flatMap Tab.dcs) (k := k) (p := p)
  have hcc : cnt (TabsD l) = cntL (l.flatMap Tab.dcs) := by unfold TabsD; simp only [cnt]
  rw [hcc] at hk1 ⊢
  have HD := Lib.hid (show ∀ x ∈ l, wtL x.dcs ≤ 4294967296 from fun x hx => by have := wt_mem Tab.dcs hx; omega)
  have hn : n ≤ 4294967296 := by omega
  have HR := Lib.hid hr
  rw [← hln] at hcl HR ⊢
  have HK := Lib.hid hkc
  have HCL := Lib.hid hcl
  have HL := Lib.hid hln
  clear hr hw hcc hln hkc hcl
  have hz : kP (l.flatMap Tab.dcs) k 0 = k := kP_zero _ _
  go_enter Tryz.func51, Tryz.ntmps51
  go_wp2
  go_loopw [1, 5] (fun q i wr => ∃ j : Nat, j ≤ n ∧ i = .int .i64 j ∧ q = .int .i64 (kP (l.flatMap Tab.dcs) k (j * 6)) ∧ Below w.heap.size w wr) (fun _ i _ => n - (intOf i).toNat)
  case atStart => exact ⟨0, by omega, rfl, by rw [Nat.zero_mul, hz], Below.refl _ _⟩
  case round =>
    obtain ⟨j, hj, rfl, rfl, HW⟩ := hrel
    clear hz
    by_cases hlt : j < n
    · obtain ⟨b, hb⟩ := get_some l (i := j) (by rw [← HL.out]; exact hlt)
      have hdl := HD.out b (List.mem_of_getElem? hb)
      have e0 : (l.flatMap Tab.dcs)[j * 6]? = some (.val (.bool b.Origin.Secure)) := flat_at Tab.len l j b 0 hb (by omega)
      have e1 : (l.flatMap Tab.dcs)[j * 6 + 1]? = some (.val (.string b.Origin.Host)) := flat_at Tab.len l j b 1 hb (by omega)
      have e2 : (l.flatMap Tab.dcs)[j * 6 + 2]? = some (.val (.int .i64 b.Origin.Port)) := flat_at Tab.len l j b 2 hb (by omega)
      have e3 : (l.flatMap Tab.dcs)[j * 6 + 3]? = some (.val (.bool b.Top.Secure)) := flat_at Tab.len l j b 3 hb (by omega)
      have e4 : (l.flatMap Tab.dcs)[j * 6 + 4]? = some (.val (.string b.Top.Host)) := flat_at Tab.len l j b 4 hb (by omega)
      have e5 : (l.flatMap Tab.dcs)[j * 6 + 5]? = some (.val (.int .i64 b.Top.Port)) := flat_at Tab.len l j b 5 hb (by omega)
      obtain ⟨q, hq⟩ : ∃ q, q = kP (l.flatMap Tab.dcs) k (j * 6) := ⟨_, rfl⟩
      have k0 : kP (l.flatMap Tab.dcs) k (j * 6) = q := hq.symm
      have k1 : kP (l.flatMap Tab.dcs) k (j * 6 + 1) = q + 1 := by rw [show j * 6 + 1 = (j * 6) + 1 from rfl, kP_val e0, k0]
      have k2 : kP (l.flatMap Tab.dcs) k (j * 6 + 2) = q + 1 + 1 := by rw [show j * 6 + 2 = (j * 6 + 1) + 1 from rfl, kP_val e1, k1]
      have k3 : kP (l.flatMap Tab.dcs) k (j * 6 + 3) = q + 1 + 1 + 1 := by rw [show j * 6 + 3 = (j * 6 + 2) + 1 from rfl, kP_val e2, k2]
      have k4 : kP (l.flatMap Tab.dcs) k (j * 6 + 4) = q + 1 + 1 + 1 + 1 := by rw [show j * 6 + 4 = (j * 6 + 3) + 1 from rfl, kP_val e3, k3]
      have k5 : kP (l.flatMap Tab.dcs) k (j * 6 + 5) = q + 1 + 1 + 1 + 1 + 1 := by rw [show j * 6 + 5 = (j * 6 + 4) + 1 from rfl, kP_val e4, k4]
      have k6 : kP (l.flatMap Tab.dcs) k (j * 6 + 6) = q + 1 + 1 + 1 + 1 + 1 + 1 := by rw [show j * 6 + 6 = (j * 6 + 5) + 1 from rfl, kP_val e5, k5]
      have kz : kP (l.flatMap Tab.dcs) k ((j + 1) * 6) = q + 1 + 1 + 1 + 1 + 1 + 1 := by rw [show (j + 1) * 6 = j * 6 + 6 by omega]; exact k6
      have q0 := (HK.out (j * 6)).1
      have q4 := (HK.out ((j + 1) * 6)).2
      rw [kz] at q4
      rw [k0] at q0 ⊢
      clear hq
      have hws := HW.size
      obtain ⟨g, off, rfl, hg, hat⟩ := held_at Tab.len (rds_keep HW.block _ _ HR.out) hb (by omega)
      obtain ⟨u0, c0, r0⟩ := hat 0 _ (by omega) rfl
      rw [Nat.add_zero, k0] at r0
      obtain rfl : u0 = .bool ((q) % 3 == 0) := rds_val r0
      replace c0 : wr.cell? ⟨g, off + j * 6, none⟩ = some _ := c0
      obtain ⟨u1, c1, r1⟩ := hat 1 _ (by omega) rfl
      rw [show j * 6 + 1 = j * 6 + 1 from rfl, k1] at r1
      obtain rfl : u1 = .string (text (q + 1)) := rds_val r1
      replace c1 : wr.cell? ⟨g, off + j * 6 + 1, none⟩ = some _ := c1
      obtain ⟨u2, c2, r2⟩ := hat 2 _ (by omega) rfl
      rw [show j * 6 + 2 = j * 6 + 2 from rfl, k2] at r2
      obtain rfl : u2 = .int .i64 (q + 1 + 1) := rds_val r2
      replace c2 : wr.cell? ⟨g, off + j * 6 + 2, none⟩ = some _ := c2
      obtain ⟨u3, c3, r3⟩ := hat 3 _ (by omega) rfl
      rw [show j * 6 + 3 = j * 6 + 3 from rfl, k3] at r3
      obtain rfl : u3 = .bool ((q + 1 + 1 + 1) % 3 == 0) := rds_val r3
      replace c3 : wr.cell? ⟨g, off + j * 6 + 3, none⟩ = some _ := c3
      obtain ⟨u4, c4, r4⟩ := hat 4 _ (by omega) rfl
      rw [show j * 6 + 4 = j * 6 + 4 from rfl, k4] at r4
      obtain rfl : u4 = .string (text (q + 1 + 1 + 1 + 1)) := rds_val r4
      replace c4 : wr.cell? ⟨g, off + j * 6 + 4, none⟩ = some _ := c4
      obtain ⟨u5, c5, r5⟩ := hat 5 _ (by omega) rfl
      rw [show j * 6 + 5 = j * 6 + 5 from rfl, k5] at r5
      obtain rfl : u5 = .int .i64 (q + 1 + 1 + 1 + 1 + 1) := rds_val r5
      replace c5 : wr.cell? ⟨g, off + j * 6 + 5, none⟩ = some _ := c5
      have HZ := Lib.hid kz
      clear hat hb kz e0 e1 e2 e3 e4 e5 k0 k1 k2 k3 k4 k5 k6 r0 r1 r2 r3 r4 r5
      go_wp2_with fail
      go_region_held3 (fun wx => wx.cell? ⟨g, off + j * 6 + 1, none⟩ = some (.string (text (q + 1)))) (first | exact c1 | exact cc1) (first | (go_at_call 83; (with_reducible refine (Mt.markText _ (q + 1) (by omega) (by omega)).mono ?_); rintro e w3 ⟨rfl, bq⟩; replace bq : Below wr.heap.size wr w3 := (drewN_below wr 1 _).trans bq; have cc1 := (bq.cell (p := ⟨g, off + j * 6 + 1, none⟩) (by show g < _; omega)).trans c1))
      have BB : Below wr.heap.size wr w3 := bq
      have zz0 := BB.size
      replace c2 := (bq.cell (p := ⟨g, off + j * 6 + 2, none⟩) (by show g < _; omega)).trans c2
      replace c3 := (bq.cell (p := ⟨g, off + j * 6 + 3, none⟩) (by show g < _; omega)).trans c3
      replace c4 := (bq.cell (p := ⟨g, off + j * 6 + 4, none⟩) (by show g < _; omega)).trans c4
      replace c5 := (bq.cell (p := ⟨g, off + j * 6 + 5, none⟩) (by show g < _; omega)).trans c5
      clear bq
      go_wp2_with fail
      go_region_held3 (fun wx => wx.cell? ⟨g, off + j * 6 + 4, none⟩ = some (.string (text (q + 1 + 1 + 1 + 1)))) (first | exact c4 | exact cc4) (first | (go_at_call 83; (with_reducible refine (Mt.markText _ (q + 1 + 1 + 1 + 1) (by omega) (by omega)).mono ?_); rintro e w4 ⟨rfl, bq⟩; replace bq : Below w3.heap.size w3 w4 := (drewN_below w3 1 _).trans bq; have cc4 := (bq.cell (p := ⟨g, off + j * 6 + 4, none⟩) (by show g < _; omega)).trans c4))
      replace BB := BB.trans (bq.mono BB.size)
      have zz1 := BB.size
      replace c5 := (bq.cell (p := ⟨g, off + j * 6 + 5, none⟩) (by show g < _; omega)).trans c5
      clear bq
      have HW2 : Below w.heap.size w w4 := HW.trans (BB.mono hws)
      go_wp2
      go_roundw
      case rel => exact ⟨j + 1, by omega, by go_num, by rw [HZ.out], HW2⟩
      case measure => simp [intOf]; omega
    · have hd : decide (j < n) = false := by simp; omega
      have hjn : n = j := by omega
      subst hjn
      have hk2 : kP (l.flatMap Tab.dcs) k (n * 6) = k + cntL (l.flatMap Tab.dcs) := kP_all _ _ _ HCL.out
      rw [hk2]
      clear hk2
      go_wp2
      go_ret
      exact ⟨rfl, HW⟩
set_option maxHeartbeats 3200000 in
set_option maxRecDepth 100000 in
theorem szTabS (w : World) (l : List Tab) (v : Value) (z : Int) (hr : Rds w w.heap.size (TabsD l) v) (hn : l.length ≤ maxLen) (ho : ∀ x ∈ l, x.ok) (hz0 : 0 ≤ z) (hz1 : z ≤ 1048576) :
    Calls Tryz.prog 43 #[v, .int .i64 z] w (Gives (.int .i64 (if (Dm.wt (TabsD l) : Int) ≤ z then z - Dm.wt (TabsD l) else -1)) w) := by
  obtain ⟨A, c, rfl⟩ := rds_slice hr
  obtain ⟨n, hln⟩ : ∃ n, n = l.length := ⟨_, rfl⟩
  obtain ⟨r, hrr⟩ : ∃ r, r = (if (Dm.wt (TabsD l) : Int) ≤ z then z - Dm.wt (TabsD l) else -1 : Int) := ⟨_, rfl⟩
  rw [← hrr]
  rw [wt_Tabs, ← hln] at hrr
  unfold maxLen at hn
  have HO := Lib.hid ho
  have HR := Lib.hid hr
  have HX := Lib.hid hrr
  rw [← hln] at hn ⊢
  have HL := Lib.hid hln
  clear hr ho hln hrr
  by_cases hbig : z < (n : Int)
  · have e : r = -1 := by rw [HX.out, if_neg (by omega)]
    subst e
    clear HX
    go_enter Tryz.func43, Tryz.ntmps43
    go_wp2
    go_ret
    exact ⟨rfl, Below.refl _ _⟩
  go_enter Tryz.func43, Tryz.ntmps43
  go_wp2
  go_loopw [1, 5] (fun q i wr => ∃ k s : Nat, k ≤ n ∧ i = .int .i64 k ∧ q = .int .i64 (z - n - s) ∧ s = wtL ((l.take k).flatMap Tab.dcs) ∧ (n : Int) + s ≤ z ∧ Below w.heap.size w wr) (fun _ i _ => n - (intOf i).toNat)
  case atStart => exact ⟨0, 0, by omega, rfl, by simp, by simp [wtL], by omega, Below.refl _ _⟩
  case round =>
    obtain ⟨k, s, hk, rfl, rfl, hs, hsz, HW⟩ := hrel
    have HS := Lib.hid hs
    clear hs
    by_cases hlt : k < n
    · obtain ⟨b, hb⟩ := get_some l (i := k) (by rw [← HL.out]; exact hlt)
      have hob := HO.out b (List.mem_of_getElem? hb)
      have HOB := Lib.hid hob
      clear hob
      have hws := HW.size
      obtain ⟨g, off, us, rfl, hg, hru, hc⟩ := piece_at Tab.len (by omega) (rds_keep HW.block _ _ HR.out) hb
      have HU := Lib.hid (rdsL_more hws _ _ hru)
      obtain rfl := Tab.rds hru
      have c0 : wr.cell? ⟨g, off + k * 6, none⟩ = some (.bool b.Origin.Secure) := hc 0 _ rfl
      have c1 : wr.cell? ⟨g, off + k * 6 + 1, none⟩ = some (.string b.Origin.Host) := hc 1 _ rfl
      have c2 : wr.cell? ⟨g, off + k * 6 + 2, none⟩ = some (.int .i64 b.Origin.Port) := hc 2 _ rfl
      have c3 : wr.cell? ⟨g, off + k * 6 + 3, none⟩ = some (.bool b.Top.Secure) := hc 3 _ rfl
      have c4 : wr.cell? ⟨g, off + k * 6 + 4, none⟩ = some (.string b.Top.Host) := hc 4 _ rfl
      have c5 : wr.cell? ⟨g, off + k * 6 + 5, none⟩ = some (.int .i64 b.Top.Port) := hc 5 _ rfl
      have HT := Lib.hid (wt_next (f := Tab.dcs) hb)
      have HT2 := Lib.hid (wt_split (f := Tab.dcs) l (k + 1))
      clear hb hc hru
      obtain ⟨m, hm⟩ : ∃ m, m = wtL b.dcs := ⟨_, rfl⟩
      rw [← hm] at HT
      have HM := Lib.hid hm
      clear hm
      go_wp2_with fail
      (with_reducible refine (szTab _ b _ (z - n - s) HU.out HOB.out (by omega) (by omega)).mono ?_); rintro e w3 ⟨rfl, b3⟩
      rw [← HM.out]
      have HW2 := HW.trans (b3.mono hws)
      clear b3
      by_cases hle : (m : Int) ≤ z - n - s
      · rw [if_pos hle]
        go_wp2
        go_roundw
        case rel => exact ⟨k + 1, s + m, by omega, by go_num, by simp; omega, by rw [HT.out, ← HS.out], by omega, HW2⟩
        case measure => simp [intOf]; omega
      · rw [if_neg hle]
        have e : r = -1 := by
          have h1 := HX.out
          have h2 := HT.out
          have h3 := HT2.out
          have h4 := HS.out
          rw [if_neg (by omega)] at h1
          exact h1
        subst e
        clear HX
        go_wp2
        go_ret
        exact ⟨rfl, HW2⟩
    · have hd : decide (k < n) = false := by simp; omega
      have e : r = z - n - s := by
        have h1 := HX.out
        have h4 := HS.out
        have hkn : k = n := by omega
        rw [hkn, show l.take n = l by rw [HL.out, List.take_length]] at h4
        rw [← h4, if_pos (by omega)] at h1
        omega
      subst e
      clear HX
      go_wp2
      go_ret
      exact ⟨rfl, HW⟩
end Go.Proofs.YtogoppknimpkbaaGreatDoor.Fx
