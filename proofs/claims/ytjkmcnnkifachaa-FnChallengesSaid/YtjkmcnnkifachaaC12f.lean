/-
  Contract of chapter 12's ExpireChallenges, of the model.
-/
import Derived.Test.YtjkmcnnkifachaaC12e
namespace Go.Proofs.Ytjkmcnnkifachaa.C12f
open Go.ChangeShapes Go.WideShapes Go.ChangeAt Go.RowKit
open S0 S1 S9 Dm Fx M3 M8 C3 C6 C12 C12b C12c C12d C12e
set_option linter.unusedVariables false
set_option linter.unusedSimpArgs false
set_option maxRecDepth 100000
noncomputable def expX (b : Fx.ChallengeBook) (now : Int) : Fx.ChallengeBook := if vbk b then ⟨b.Seed, b.Next, b.Open.filter (fun x => decide (now ≤ x.Until))⟩ else b
theorem elChallenge : Ap.El Try.prog 24 30 3 24 := by
  obtain ⟨i0, hi, hz0, hz1, hz2⟩ := info_parts chal_info
  exact ⟨⟨i0, _, Try.underlying24, hi, hz0, hz1, hz2, by simp [Value.cells]⟩, by decide, by decide⟩
theorem ch_owns {w : World} {lo : Nat} (x : Fx.Challenge) : OwnsL w lo x.dcs [.int .i64 x.Id, .int .i64 x.Account, .int .i64 x.Until] [] := by
  unfold Challenge.dcs
  simp only [OwnsL, Owns]
  exact ⟨_, _, [], [], rfl, ⟨rfl, rfl⟩, ⟨_, _, [], [], rfl, ⟨rfl, rfl⟩, ⟨_, _, [], [], rfl, ⟨rfl, rfl⟩, ⟨rfl, rfl⟩, rfl⟩, rfl⟩, rfl⟩
theorem three {w : World} {B : Nat} {u0 u1 u2 : Value} (h0 : w.cell? ⟨B, 0, none⟩ = some u0) (h1 : w.cell? ⟨B, 1, none⟩ = some u1) (h2 : w.cell? ⟨B, 2, none⟩ = some u2) : ∀ j u, [u0, u1, u2][j]? = some u → w.cell? ⟨B, j, none⟩ = some u := fun j u hu => by
  match j, hu with
  | 0, hu => rw [h0]; exact hu
  | 1, hu => rw [h1]; exact hu
  | 2, hu => rw [h2]; exact hu
  | j + 3, hu => simp at hu
/-- What the rounds so far have kept. -/
def Kept (now : Int) (l : List Fx.Challenge) (k : Nat) (r : List Fx.Challenge) : Prop := r = (l.take k).filter (fun x => decide (now ≤ x.Until))
theorem Kept.yes {now : Int} {l r : List Fx.Challenge} {k : Nat} {x : Fx.Challenge} (h : Kept now l k r) (hx : l[k]? = some x) (e : now ≤ x.Until) : Kept now l (k + 1) (r ++ [x]) := by
  obtain ⟨hl, hx⟩ := List.getElem?_eq_some_iff.1 hx
  unfold Kept at h ⊢
  rw [List.take_succ_eq_append_getElem hl, List.filter_append, ← h, hx]
  simp [e]
theorem Kept.no {now : Int} {l r : List Fx.Challenge} {k : Nat} {x : Fx.Challenge} (h : Kept now l k r) (hx : l[k]? = some x) (e : ¬ now ≤ x.Until) : Kept now l (k + 1) r := by
  obtain ⟨hl, hx⟩ := List.getElem?_eq_some_iff.1 hx
  unfold Kept at h ⊢
  rw [List.take_succ_eq_append_getElem hl, List.filter_append, ← h, hx]
  simp [e]
theorem Kept.len {now : Int} {l r : List Fx.Challenge} {k : Nat} (h : Kept now l k r) : r.length ≤ l.length := by
  unfold Kept at h
  rw [h]
  exact Nat.le_trans (List.length_filter_le _ _) (by rw [List.length_take]; omega)
theorem owns_empty (w : World) : Owns (w.alloc (.cells #[] 30)) w.heap.size (.row 30 3 0 (([] : List Fx.Challenge).flatMap Challenge.dcs)) (.slice (some ⟨w.heap.size, 0, none⟩) 0 0) [w.heap.size] := owns_many (own_emp w)
theorem el3 {w : World} {hi n c k ga off : Nat} {l : List Fx.Challenge} {x : Fx.Challenge} (h : Rds w hi (ChallengesD l) (.slice (some ⟨ga, off, none⟩) n c)) (hx : l[k]? = some x) :
    w.cell? ⟨ga, off + k * 3, none⟩ = some (.int .i64 x.Id) ∧ w.cell? ⟨ga, off + k * 3 + 1, none⟩ = some (.int .i64 x.Account) ∧ w.cell? ⟨ga, off + k * 3 + 2, none⟩ = some (.int .i64 x.Until) := by
  obtain ⟨g', o', us, e, _, hru, hc⟩ := piece_at Challenge.len (by omega) h hx
  injection e with e
  injection e with e1 e2 _
  subst e1 e2
  obtain rfl := Challenge.rds hru
  exact ⟨hc 0 _ rfl, hc 1 _ rfl, hc 2 _ rfl⟩
set_option maxHeartbeats 16000000 in
theorem specExpire (w : World) (b : Fx.ChallengeBook) (now : Int) (us : List Value) (h : RdsL w w.heap.size b.dcs us) (hn : b.Open.length ≤ 16000000) :
    Calls Try.prog 30 #[.agg us.toArray, .int .i64 now] w (Bx.MadeL (expX b now).dcs w) := by
  obtain ⟨A, c, rfl, g⟩ := ChallengeBook.rds h
  have HRD := Lib.hid (fun (wx : World) (hb : Below w.heap.size w wx) => show RdsL wx wx.heap.size b.dcs [.int .i64 b.Seed, .int .i64 b.Next, .slice A b.Open.length c] from rdsL_on h hb)
  have HRW := Lib.hid (fun (wx : World) (hb : Below w.heap.size w wx) => rds_on g hb)
  clear h g
  have HNN := Lib.hid hn
  have KV := Lib.hid (fun (wx : World) (hb : Below w.heap.size w wx) => specVbk wx b _ (HRD.out wx hb) HNN.out)
  have KC := Lib.hid (fun (wx : World) (hb : Below w.heap.size w wx) => specCopyB wx b _ (HRD.out wx hb) HNN.out)
  obtain ⟨xs, hxs⟩ : ∃ xs, xs = b.Open := ⟨_, rfl⟩
  rw [← hxs] at hn KV KC HRW
  obtain ⟨n, hnn⟩ : ∃ n, n = xs.length := ⟨_, rfl⟩
  rw [← hnn] at hn KV KC HRW
  rw [← hxs, ← hnn]
  have HXS := Lib.hid hxs
  have HL := Lib.hid hnn
  clear hnn hxs HNN HRD
  cases h1 : vbk b with
  | false =>
    rw [show expX b now = b by unfold expX; rw [h1]; rfl]
    rw [h1] at KV
    clear h1
    go_enter Try.func30, Try.ntmps30
    obtain ⟨w1, hw1⟩ : ∃ y, y = w.alloc (.cells #[.int .i64 b.Seed, .int .i64 b.Next, .slice A n c] 26) := ⟨_, rfl⟩
    have o_p := var_owns w 26 3 [.int .i64 b.Seed, .int .i64 b.Next, .slice A n c] rfl
    have bw1 : Below w.heap.size w w1 := hw1 ▸ (Below.refl _ _).alloc (Nat.le_refl _) _
    rw [← hw1] at o_p
    have sw1 : w1.heap.size = w.heap.size + 1 := by rw [hw1]; simp
    have zw1 : w.heap.size < w1.heap.size := by rw [hw1]; simp
    have HB := bw1
    obtain ⟨w2, hw2⟩ : ∃ y, y = w1.alloc (.cells #[.int .i64 0, .int .i64 0, .slice none 0 0] 26) := ⟨_, rfl⟩
    have o_r := var_owns w1 26 3 [.int .i64 0, .int .i64 0, .slice none 0 0] rfl
    have bw2 : Below w1.heap.size w1 w2 := hw2 ▸ (Below.refl _ _).alloc (Nat.le_refl _) _
    rw [← hw2] at o_r
    rw [sw1] at o_r
    have sw2 : w2.heap.size = w.heap.size + 1 + 1 := by rw [hw2]; simp [sw1]
    have zw2 : w1.heap.size < w2.heap.size := by rw [hw2]; simp
    replace o_p := owns_below o_p bw2
    replace HB := HB.trans (bw2.mono HB.size)
    go_wp2_with fail
    rw [← hw1, ← hw2]
    clear hw1 hw2 sw1 sw2
    (refine (KV.out _ HB).mono ?_); rintro e w3 ⟨rfl, bw3⟩
    replace o_p := owns_below o_p bw3
    replace o_r := owns_below o_r bw3
    replace HB := HB.trans (bw3.mono HB.size)
    have zw3 := bw3.size
    have c_p0 : w3.cell? ⟨w.heap.size, 0, none⟩ = some (.int .i64 b.Seed) := var_load o_p (by simp) 0 _ rfl
    have f_p0 : w3.frozen? ⟨w.heap.size, 0, none⟩ = false := var_frozen o_p (by simp) 0 _ rfl
    have c_p1 : w3.cell? ⟨w.heap.size, 1, none⟩ = some (.int .i64 b.Next) := var_load o_p (by simp) 1 _ rfl
    have f_p1 : w3.frozen? ⟨w.heap.size, 1, none⟩ = false := var_frozen o_p (by simp) 1 _ rfl
    have c_p2 : w3.cell? ⟨w.heap.size, 2, none⟩ = some (.slice A n c) := var_load o_p (by simp) 2 _ rfl
    have f_p2 : w3.frozen? ⟨w.heap.size, 2, none⟩ = false := var_frozen o_p (by simp) 2 _ rfl
    have l_p := var_lt o_p
    have c_r0 : w3.cell? ⟨(w.heap.size + 1), 0, none⟩ = some (.int .i64 0) := var_load o_r (by simp) 0 _ rfl
    have f_r0 : w3.frozen? ⟨(w.heap.size + 1), 0, none⟩ = false := var_frozen o_r (by simp) 0 _ rfl
    have c_r1 : w3.cell? ⟨(w.heap.size + 1), 1, none⟩ = some (.int .i64 0) := var_load o_r (by simp) 1 _ rfl
    have f_r1 : w3.frozen? ⟨(w.heap.size + 1), 1, none⟩ = false := var_frozen o_r (by simp) 1 _ rfl
    have c_r2 : w3.cell? ⟨(w.heap.size + 1), 2, none⟩ = some (.slice none 0 0) := var_load o_r (by simp) 2 _ rfl
    have f_r2 : w3.frozen? ⟨(w.heap.size + 1), 2, none⟩ = false := var_frozen o_r (by simp) 2 _ rfl
    have l_r := var_lt o_r
    go_wp2_with fail
    (refine (KC.out _ HB).mono ?_); rintro e w4 ⟨v_z, s_z, rfl, o_z, n_z, bw4⟩
    clear c_p0 f_p0 c_p1 f_p1 c_p2 f_p2 l_p c_r0 f_r0 c_r1 f_r1 c_r2 f_r2 l_r
    replace o_p := owns_below o_p bw4
    replace o_r := owns_below o_r bw4
    replace HB := HB.trans (bw4.mono HB.size)
    have zw4 := bw4.size
    obtain ⟨A_z, c_z, b_z, rfl, o_y, hby⟩ := ChallengeBook.owns o_z
    unfold ChallengesD at o_y
    rw [← HXS.out, ← HL.out] at o_y
    rw [show b.Open.length = n by rw [← HXS.out, ← HL.out]]
    have i_y := Fx.made_in o_y
    replace o_y := owns_base (show w.heap.size ≤ w3.heap.size by omega) _ _ _ o_y
    have ny : b_z.Nodup := (show s_z = b_z by simpa using hby) ▸ n_z
    clear o_z hby
    have c_p0 : w4.cell? ⟨w.heap.size, 0, none⟩ = some (.int .i64 b.Seed) := var_load o_p (by simp) 0 _ rfl
    have f_p0 : w4.frozen? ⟨w.heap.size, 0, none⟩ = false := var_frozen o_p (by simp) 0 _ rfl
    have c_p1 : w4.cell? ⟨w.heap.size, 1, none⟩ = some (.int .i64 b.Next) := var_load o_p (by simp) 1 _ rfl
    have f_p1 : w4.frozen? ⟨w.heap.size, 1, none⟩ = false := var_frozen o_p (by simp) 1 _ rfl
    have c_p2 : w4.cell? ⟨w.heap.size, 2, none⟩ = some (.slice A n c) := var_load o_p (by simp) 2 _ rfl
    have f_p2 : w4.frozen? ⟨w.heap.size, 2, none⟩ = false := var_frozen o_p (by simp) 2 _ rfl
    have l_p := var_lt o_p
    have c_r0 : w4.cell? ⟨(w.heap.size + 1), 0, none⟩ = some (.int .i64 0) := var_load o_r (by simp) 0 _ rfl
    have f_r0 : w4.frozen? ⟨(w.heap.size + 1), 0, none⟩ = false := var_frozen o_r (by simp) 0 _ rfl
    have c_r1 : w4.cell? ⟨(w.heap.size + 1), 1, none⟩ = some (.int .i64 0) := var_load o_r (by simp) 1 _ rfl
    have f_r1 : w4.frozen? ⟨(w.heap.size + 1), 1, none⟩ = false := var_frozen o_r (by simp) 1 _ rfl
    have c_r2 : w4.cell? ⟨(w.heap.size + 1), 2, none⟩ = some (.slice none 0 0) := var_load o_r (by simp) 2 _ rfl
    have f_r2 : w4.frozen? ⟨(w.heap.size + 1), 2, none⟩ = false := var_frozen o_r (by simp) 2 _ rfl
    have l_r := var_lt o_r
    go_wp2
    clear c_p0 f_p0 c_p1 f_p1 c_p2 f_p2 l_p c_r0 f_r0 c_r1 f_r1 c_r2 f_r2 l_r
    obtain ⟨w5, hw5⟩ : ∃ y, y = (((w4.setCell ⟨(w.heap.size + 1), 0, none⟩ (.int .i64 b.Seed)).setCell ⟨(w.heap.size + 1), 1, none⟩ (.int .i64 b.Next)).setCell ⟨(w.heap.size + 1), 2, none⟩ (.slice A_z n c_z)) := ⟨_, rfl⟩
    obtain ⟨o_new, tw5⟩ := var_some [.int .i64 b.Seed, .int .i64 b.Next, .slice A_z n c_z] 0 _ _ o_r (by simp)
    rw [show setAll w4 ((w.heap.size + 1)) 0 [.int .i64 b.Seed, .int .i64 b.Next, .slice A_z n c_z] = w5 from hw5.symm] at o_new tw5
    replace o_r : Owns w5 _ (varD 26 3 [.int .i64 b.Seed, .int .i64 b.Next, .slice A_z n c_z]) _ _ := o_new
    clear o_new
    replace o_p := owns_turned o_p tw5 (fun b hb hb2 => by simp at hb hb2; omega)
    replace o_y := owns_turned o_y tw5 (fun b hb hb2 => by have h1 := i_y b hb; simp at hb2; omega)
    replace HB := below_turned HB tw5 (fun b hb => by simp at hb; omega)
    have zw5 := tw5.2.2.2.1
    rw [← hw5]
    clear hw5
    have y0 : w5.cell? ⟨(w.heap.size + 1), 0, none⟩ = some (.int .i64 b.Seed) := var_load o_r (by simp) 0 _ rfl
    have y1 : w5.cell? ⟨(w.heap.size + 1), 1, none⟩ = some (.int .i64 b.Next) := var_load o_r (by simp) 1 _ rfl
    have y2 : w5.cell? ⟨(w.heap.size + 1), 2, none⟩ = some (.slice A_z n c_z) := var_load o_r (by simp) 2 _ rfl
    refine bodyPost_ret (v := .agg #[.int .i64 b.Seed, .int .i64 b.Next, .slice A_z n c_z]) (by simp [results, Try.results30, go_sem, y0, y1, y2]) rfl ?_
    exact made_cb HXS.out HL.out o_y ny HB
  | true =>
    rw [show expX b now = ⟨b.Seed, b.Next, xs.filter (fun x => decide (now ≤ x.Until))⟩ by unfold expX; rw [h1, HXS.out]; rfl]
    rw [h1] at KV
    clear h1
    go_enter Try.func30, Try.ntmps30
    obtain ⟨w1, hw1⟩ : ∃ y, y = w.alloc (.cells #[.int .i64 b.Seed, .int .i64 b.Next, .slice A n c] 26) := ⟨_, rfl⟩
    have o_p := var_owns w 26 3 [.int .i64 b.Seed, .int .i64 b.Next, .slice A n c] rfl
    have bw1 : Below w.heap.size w w1 := hw1 ▸ (Below.refl _ _).alloc (Nat.le_refl _) _
    rw [← hw1] at o_p
    have sw1 : w1.heap.size = w.heap.size + 1 := by rw [hw1]; simp
    have zw1 : w.heap.size < w1.heap.size := by rw [hw1]; simp
    have HB := bw1
    obtain ⟨w2, hw2⟩ : ∃ y, y = w1.alloc (.cells #[.int .i64 0, .int .i64 0, .slice none 0 0] 26) := ⟨_, rfl⟩
    have o_r := var_owns w1 26 3 [.int .i64 0, .int .i64 0, .slice none 0 0] rfl
    have bw2 : Below w1.heap.size w1 w2 := hw2 ▸ (Below.refl _ _).alloc (Nat.le_refl _) _
    rw [← hw2] at o_r
    rw [sw1] at o_r
    have sw2 : w2.heap.size = w.heap.size + 1 + 1 := by rw [hw2]; simp [sw1]
    have zw2 : w1.heap.size < w2.heap.size := by rw [hw2]; simp
    replace o_p := owns_below o_p bw2
    replace HB := HB.trans (bw2.mono HB.size)
    go_wp2_with fail
    rw [← hw1, ← hw2]
    clear hw1 hw2 sw1 sw2
    (refine (KV.out _ HB).mono ?_); rintro e w3 ⟨rfl, bw3⟩
    replace o_p := owns_below o_p bw3
    replace o_r := owns_below o_r bw3
    replace HB := HB.trans (bw3.mono HB.size)
    have zw3 := bw3.size
    have c_p0 : w3.cell? ⟨w.heap.size, 0, none⟩ = some (.int .i64 b.Seed) := var_load o_p (by simp) 0 _ rfl
    have f_p0 : w3.frozen? ⟨w.heap.size, 0, none⟩ = false := var_frozen o_p (by simp) 0 _ rfl
    have c_p1 : w3.cell? ⟨w.heap.size, 1, none⟩ = some (.int .i64 b.Next) := var_load o_p (by simp) 1 _ rfl
    have f_p1 : w3.frozen? ⟨w.heap.size, 1, none⟩ = false := var_frozen o_p (by simp) 1 _ rfl
    have c_p2 : w3.cell? ⟨w.heap.size, 2, none⟩ = some (.slice A n c) := var_load o_p (by simp) 2 _ rfl
    have f_p2 : w3.frozen? ⟨w.heap.size, 2, none⟩ = false := var_frozen o_p (by simp) 2 _ rfl
    have l_p := var_lt o_p
    have c_r0 : w3.cell? ⟨(w.heap.size + 1), 0, none⟩ = some (.int .i64 0) := var_load o_r (by simp) 0 _ rfl
    have f_r0 : w3.frozen? ⟨(w.heap.size + 1), 0, none⟩ = false := var_frozen o_r (by simp) 0 _ rfl
    have c_r1 : w3.cell? ⟨(w.heap.size + 1), 1, none⟩ = some (.int .i64 0) := var_load o_r (by simp) 1 _ rfl
    have f_r1 : w3.frozen? ⟨(w.heap.size + 1), 1, none⟩ = false := var_frozen o_r (by simp) 1 _ rfl
    have c_r2 : w3.cell? ⟨(w.heap.size + 1), 2, none⟩ = some (.slice none 0 0) := var_load o_r (by simp) 2 _ rfl
    have f_r2 : w3.frozen? ⟨(w.heap.size + 1), 2, none⟩ = false := var_frozen o_r (by simp) 2 _ rfl
    have l_r := var_lt o_r
    obtain ⟨w4, hw4⟩ : ∃ y, y = w3.alloc (.cells #[.int .i64 b.Seed, .int .i64 b.Next, .slice (some ⟨w3.heap.size + 1, 0, none⟩) 0 0] 26) := ⟨_, rfl⟩
    have o_o := var_owns w3 26 3 [.int .i64 b.Seed, .int .i64 b.Next, .slice (some ⟨w3.heap.size + 1, 0, none⟩) 0 0] rfl
    have bw4 : Below w3.heap.size w3 w4 := hw4 ▸ (Below.refl _ _).alloc (Nat.le_refl _) _
    rw [← hw4] at o_o
    have sw4 : w4.heap.size = w3.heap.size + 1 := by rw [hw4]; simp
    have zw4 : w3.heap.size < w4.heap.size := by rw [hw4]; simp
    replace o_p := owns_below o_p bw4
    replace o_r := owns_below o_r bw4
    replace HB := HB.trans (bw4.mono HB.size)
    obtain ⟨w5, hw5⟩ : ∃ y, y = w4.alloc (.cells #[] 30) := ⟨_, rfl⟩
    have o_y := owns_empty w4
    have bw5 : Below w4.heap.size w4 w5 := hw5 ▸ (Below.refl _ _).alloc (Nat.le_refl _) _
    rw [← hw5] at o_y
    have i_y := Fx.made_in o_y
    replace o_y := owns_base (show w.heap.size ≤ w4.heap.size by omega) _ _ _ o_y
    rw [sw4] at o_y
    have sw5 : w5.heap.size = w3.heap.size + 1 + 1 := by rw [hw5]; simp [sw4]
    replace o_p := owns_below o_p bw5
    replace o_r := owns_below o_r bw5
    replace o_o := owns_below o_o bw5
    replace HB := HB.trans (bw5.mono HB.size)
    have zw5 := bw5.size
    have ny : [w3.heap.size + 1].Nodup := by simp
    rw [sw4] at i_y
    go_wp2
    rw [← hw4, ← hw5]
    clear hw4 hw5 sw4 sw5
    obtain ⟨g0, hg0⟩ : ∃ y, y = w3.heap.size + 1 := ⟨_, rfl⟩
    rw [← hg0] at o_y o_o i_y ny
    clear c_p0 f_p0 c_p1 f_p1 c_p2 f_p2 l_p c_r0 f_r0 c_r1 f_r1 c_r2 f_r2 l_r
    go_loopw [6] (fun iv wr => ∃ (k m cy : Nat) (Ay : Option Addr) (r : List Fx.Challenge) (sy : List Nat), k ≤ n ∧ iv = .int .i64 k ∧ Kept now xs k r ∧ m = r.length ∧ Owns wr w.heap.size (.row 30 3 m (r.flatMap Challenge.dcs)) (.slice Ay m cy) sy ∧ sy.Nodup ∧ (∀ q, q ∈ sy → w3.heap.size < q) ∧ Owns wr w.heap.size (varD 26 3 [.int .i64 b.Seed, .int .i64 b.Next, .slice A n c]) (.slice (some ⟨w.heap.size, 0, none⟩) 1 1) [w.heap.size] ∧ Owns wr (w.heap.size + 1) (varD 26 3 [.int .i64 0, .int .i64 0, .slice none 0 0]) (.slice (some ⟨(w.heap.size + 1), 0, none⟩) 1 1) [(w.heap.size + 1)] ∧ Owns wr w3.heap.size (varD 26 3 [.int .i64 b.Seed, .int .i64 b.Next, .slice Ay m cy]) (.slice (some ⟨w3.heap.size, 0, none⟩) 1 1) [w3.heap.size] ∧ Below w.heap.size w wr) (fun iv _ => n - (intOf iv).toNat)
    case atStart => exact ⟨0, 0, 0, _, [], _, by omega, rfl, by unfold Kept; rfl, rfl, o_y, ny, fun q hq => by have h1 := i_y q hq; omega, o_p, o_r, o_o, HB⟩
    case round =>
      clear o_p o_r o_o o_y i_y ny HB
      obtain ⟨k, m, cy, Ay, r, sy, hk, rfl, hG, hm, o_y, ny, i_y, o_p, o_r, o_o, HB⟩ := hrel
      have HG := Lib.hid hG
      have HM := Lib.hid hm
      have hmn : m ≤ n := by have := hG.len; have := HL.out; omega
      clear hG hm
      have zwr := HB.size
      by_cases hlt : k < n
      · obtain ⟨x, hx⟩ := get_some xs (i := k) (by have := HL.out; omega)
        obtain ⟨ga, offa, ws, rfl, hga, hru, hca⟩ := piece_at Challenge.len (by omega) (HRW.out _ HB) hx
        obtain rfl := Challenge.rds hru
        have x0 : wr.cell? ⟨ga, offa + k * 3, none⟩ = some (.int .i64 x.Id) := hca 0 _ rfl
        have x1 : wr.cell? ⟨ga, offa + k * 3 + 1, none⟩ = some (.int .i64 x.Account) := hca 1 _ rfl
        have x2 : wr.cell? ⟨ga, offa + k * 3 + 2, none⟩ = some (.int .i64 x.Until) := hca 2 _ rfl
        have HX := Lib.hid hx
        have i1 : (0 : Int) ≤ (k : Int) := by omega
        have i2 : (k : Int) < (n : Int) := by omega
        clear hx hca hru
        have EC := Lib.hid (show ∀ wx, Below w.heap.size w wx → wx.cell? ⟨ga, offa + k * 3, none⟩ = some (.int .i64 x.Id) ∧ wx.cell? ⟨ga, offa + k * 3 + 1, none⟩ = some (.int .i64 x.Account) ∧ wx.cell? ⟨ga, offa + k * 3 + 2, none⟩ = some (.int .i64 x.Until) from fun wx hb => el3 (HRW.out wx hb) HX.out)
        by_cases e1 : now ≤ x.Until
        · have e2 : decide (x.Until ≥ now) = true := by simpa using e1
          have c_p0 : wr.cell? ⟨w.heap.size, 0, none⟩ = some (.int .i64 b.Seed) := var_load o_p (by simp) 0 _ rfl
          have f_p0 : wr.frozen? ⟨w.heap.size, 0, none⟩ = false := var_frozen o_p (by simp) 0 _ rfl
          have c_p1 : wr.cell? ⟨w.heap.size, 1, none⟩ = some (.int .i64 b.Next) := var_load o_p (by simp) 1 _ rfl
          have f_p1 : wr.frozen? ⟨w.heap.size, 1, none⟩ = false := var_frozen o_p (by simp) 1 _ rfl
          have c_p2 : wr.cell? ⟨w.heap.size, 2, none⟩ = some (.slice (some ⟨ga, offa, none⟩) n c) := var_load o_p (by simp) 2 _ rfl
          have f_p2 : wr.frozen? ⟨w.heap.size, 2, none⟩ = false := var_frozen o_p (by simp) 2 _ rfl
          have l_p := var_lt o_p
          have c_r0 : wr.cell? ⟨(w.heap.size + 1), 0, none⟩ = some (.int .i64 0) := var_load o_r (by simp) 0 _ rfl
          have f_r0 : wr.frozen? ⟨(w.heap.size + 1), 0, none⟩ = false := var_frozen o_r (by simp) 0 _ rfl
          have c_r1 : wr.cell? ⟨(w.heap.size + 1), 1, none⟩ = some (.int .i64 0) := var_load o_r (by simp) 1 _ rfl
          have f_r1 : wr.frozen? ⟨(w.heap.size + 1), 1, none⟩ = false := var_frozen o_r (by simp) 1 _ rfl
          have c_r2 : wr.cell? ⟨(w.heap.size + 1), 2, none⟩ = some (.slice none 0 0) := var_load o_r (by simp) 2 _ rfl
          have f_r2 : wr.frozen? ⟨(w.heap.size + 1), 2, none⟩ = false := var_frozen o_r (by simp) 2 _ rfl
          have l_r := var_lt o_r
          have c_o0 : wr.cell? ⟨w3.heap.size, 0, none⟩ = some (.int .i64 b.Seed) := var_load o_o (by simp) 0 _ rfl
          have f_o0 : wr.frozen? ⟨w3.heap.size, 0, none⟩ = false := var_frozen o_o (by simp) 0 _ rfl
          have c_o1 : wr.cell? ⟨w3.heap.size, 1, none⟩ = some (.int .i64 b.Next) := var_load o_o (by simp) 1 _ rfl
          have f_o1 : wr.frozen? ⟨w3.heap.size, 1, none⟩ = false := var_frozen o_o (by simp) 1 _ rfl
          have c_o2 : wr.cell? ⟨w3.heap.size, 2, none⟩ = some (.slice Ay m cy) := var_load o_o (by simp) 2 _ rfl
          have f_o2 : wr.frozen? ⟨w3.heap.size, 2, none⟩ = false := var_frozen o_o (by simp) 2 _ rfl
          have l_o := var_lt o_o
          go_wp2
          clear c_p0 f_p0 c_p1 f_p1 c_p2 f_p2 l_p c_r0 f_r0 c_r1 f_r1 c_r2 f_r2 l_r c_o0 f_o0 c_o1 f_o1 c_o2 f_o2 l_o
          clear x0 x1 x2
          obtain ⟨w6, hw6⟩ : ∃ y, y = wr.drew := ⟨_, rfl⟩
          have bw6 : Below wr.heap.size wr w6 := hw6 ▸ drewN_below wr 1 _
          replace o_p := owns_below o_p bw6
          replace o_r := owns_below o_r bw6
          replace o_o := owns_below o_o bw6
          replace o_y := owns_below o_y bw6
          replace HB := HB.trans (bw6.mono HB.size)
          have zw6 := bw6.size
          refine wp_region_held_drew (S := (fun wx => wx.cell? ⟨w.heap.size, 0, none⟩ = some (.int .i64 b.Seed) ∧ wx.cell? ⟨w.heap.size, 1, none⟩ = some (.int .i64 b.Next) ∧ wx.cell? ⟨w.heap.size, 2, none⟩ = some (.slice (some ⟨ga, offa, none⟩) n c) ∧ wx.cell? ⟨w3.heap.size, 0, none⟩ = some (.int .i64 b.Seed) ∧ wx.cell? ⟨w3.heap.size, 1, none⟩ = some (.int .i64 b.Next) ∧ wx.cell? ⟨ga, offa + k * 3, none⟩ = some (.int .i64 x.Id) ∧ wx.cell? ⟨ga, offa + k * 3 + 1, none⟩ = some (.int .i64 x.Account) ∧ wx.cell? ⟨ga, offa + k * 3 + 2, none⟩ = some (.int .i64 x.Until))) (by kernel_rfl) ?_ (fun hHeld => ?_)
          · rw [← hw6]; exact ⟨var_load o_p (by simp) 0 _ rfl, var_load o_p (by simp) 1 _ rfl, var_load o_p (by simp) 2 _ rfl, var_load o_o (by simp) 0 _ rfl, var_load o_o (by simp) 1 _ rfl, (EC.out _ HB).1, (EC.out _ HB).2.1, (EC.out _ HB).2.2⟩
          rw [← hw6] at hHeld ⊢
          clear hw6
          refine wpAnyH_take (i := 0) (oi := ?oiv_0_1) (v := ?vv_0_1) ?hiv_0_1 (by kernel_rfl) (by kernel_rfl) (by kernel_rfl) ?hQv_0_1 (Or.inl ⟨?hwv_0_1, ?hyv_0_1⟩) (by assumption) ?_
          case hiv_0_1 => simp only [List.getElem?_toArray, List.getElem?_cons_zero]; rfl
          case hQv_0_1 => exact fun _ _ _ h => h
          case hwv_0_1 => rfl
          case hyv_0_1 => intro w hSw; (try dsimp only at hSw); (first | (go_simp; done) | (go_simp; with_reducible rfl))
          try simp only [Act.put, List.setIfInBounds_toArray, List.set_cons_zero, List.set_cons_succ]
          refine wpAnyH_take (i := 2) (oi := ?oiv_2_2) (v := ?vv_2_2) ?hiv_2_2 (by kernel_rfl) (by kernel_rfl) (by kernel_rfl) ?hQv_2_2 (Or.inl ⟨?hwv_2_2, ?hyv_2_2⟩) (by assumption) ?_
          case hiv_2_2 => simp only [List.getElem?_toArray, List.getElem?_cons_succ, List.getElem?_cons_zero]; rfl
          case hQv_2_2 => exact fun _ _ _ h => h
          case hwv_2_2 => rfl
          case hyv_2_2 => intro w hSw; (try dsimp only at hSw); (first | (go_simp; done) | (go_simp; with_reducible rfl))
          try simp only [Act.put, List.setIfInBounds_toArray, List.set_cons_zero, List.set_cons_succ]
          refine wpAnyH_take (i := 3) (oi := ?oiv_3_3) (v := ?vv_3_3) ?hiv_3_3 (by kernel_rfl) (by kernel_rfl) (by kernel_rfl) ?hQv_3_3 (Or.inl ⟨?hwv_3_3, ?hyv_3_3⟩) (by assumption) ?_
          case hiv_3_3 => simp only [List.getElem?_toArray, List.getElem?_cons_succ, List.getElem?_cons_zero]; rfl
          case hQv_3_3 => exact fun _ _ _ h => h
          case hwv_3_3 => rfl
          case hyv_3_3 => intro w hSw; (try dsimp only at hSw); (first | (go_simp; done) | (go_simp; with_reducible rfl))
          try simp only [Act.put, List.setIfInBounds_toArray, List.set_cons_zero, List.set_cons_succ]
          refine wpAnyH_take (i := 4) (oi := ?oiv_4_4) (v := ?vv_4_4) ?hiv_4_4 (by kernel_rfl) (by kernel_rfl) (by kernel_rfl) ?hQv_4_4 (Or.inl ⟨?hwv_4_4, ?hyv_4_4⟩) (by assumption) ?_
          case hiv_4_4 => simp only [List.getElem?_toArray, List.getElem?_cons_succ, List.getElem?_cons_zero]; rfl
          case hQv_4_4 => exact fun _ _ _ h => h
          case hwv_4_4 => rfl
          case hyv_4_4 => intro w hSw; (try dsimp only at hSw); (first | (go_simp; done) | (go_simp; with_reducible rfl))
          try simp only [Act.put, List.setIfInBounds_toArray, List.set_cons_zero, List.set_cons_succ]
          refine wpAnyH_take (i := 5) (oi := ?oiv_5_5) (v := ?vv_5_5) ?hiv_5_5 (by kernel_rfl) (by kernel_rfl) (by kernel_rfl) ?hQv_5_5 (Or.inl ⟨?hwv_5_5, ?hyv_5_5⟩) (by assumption) ?_
          case hiv_5_5 => simp only [List.getElem?_toArray, List.getElem?_cons_succ, List.getElem?_cons_zero]; rfl
          case hQv_5_5 => exact fun _ _ _ h => h
          case hwv_5_5 => rfl
          case hyv_5_5 => intro w hSw; (try dsimp only at hSw); (first | (go_simp; done) | (go_simp; with_reducible rfl))
          try simp only [Act.put, List.setIfInBounds_toArray, List.set_cons_zero, List.set_cons_succ]
          refine wpAnyH_take (i := 6) (oi := ?oiv_6_6) (v := ?vv_6_6) ?hiv_6_6 (by kernel_rfl) (by kernel_rfl) (by kernel_rfl) ?hQv_6_6 (Or.inl ⟨?hwv_6_6, ?hyv_6_6⟩) (by assumption) ?_
          case hiv_6_6 => simp only [List.getElem?_toArray, List.getElem?_cons_succ, List.getElem?_cons_zero]; rfl
          case hQv_6_6 => exact fun _ _ _ h => h
          case hwv_6_6 => rfl
          case hyv_6_6 => intro w hSw; (try dsimp only at hSw); (first | (go_simp; done) | (go_simp; with_reducible rfl))
          try simp only [Act.put, List.setIfInBounds_toArray, List.set_cons_zero, List.set_cons_succ]
          refine wpAnyH_ready (rs := [1, 7]) (by kernel_rfl) (by simp) ?_
          refine AllReadyH.cons (o := ?ov_1_7) ?hiv_1_7 (fun K hK => ?gv_1_7) (AllReadyH.cons (o := ?ov_7_7) ?hiv_7_7 (fun K hK => ?gv_7_7) AllReadyH.nil)
          case hiv_1_7 => simp only [List.getElem?_toArray, List.getElem?_cons_succ, List.getElem?_cons_zero]; rfl
          case hiv_7_7 => simp only [List.getElem?_toArray, List.getElem?_cons_succ, List.getElem?_cons_zero]; rfl
          case gv_1_7 =>
            have c_p0 : w6.cell? ⟨w.heap.size, 0, none⟩ = some (.int .i64 b.Seed) := var_load o_p (by simp) 0 _ rfl
            have f_p0 : w6.frozen? ⟨w.heap.size, 0, none⟩ = false := var_frozen o_p (by simp) 0 _ rfl
            have c_p1 : w6.cell? ⟨w.heap.size, 1, none⟩ = some (.int .i64 b.Next) := var_load o_p (by simp) 1 _ rfl
            have f_p1 : w6.frozen? ⟨w.heap.size, 1, none⟩ = false := var_frozen o_p (by simp) 1 _ rfl
            have c_p2 : w6.cell? ⟨w.heap.size, 2, none⟩ = some (.slice (some ⟨ga, offa, none⟩) n c) := var_load o_p (by simp) 2 _ rfl
            have f_p2 : w6.frozen? ⟨w.heap.size, 2, none⟩ = false := var_frozen o_p (by simp) 2 _ rfl
            have l_p := var_lt o_p
            have c_r0 : w6.cell? ⟨(w.heap.size + 1), 0, none⟩ = some (.int .i64 0) := var_load o_r (by simp) 0 _ rfl
            have f_r0 : w6.frozen? ⟨(w.heap.size + 1), 0, none⟩ = false := var_frozen o_r (by simp) 0 _ rfl
            have c_r1 : w6.cell? ⟨(w.heap.size + 1), 1, none⟩ = some (.int .i64 0) := var_load o_r (by simp) 1 _ rfl
            have f_r1 : w6.frozen? ⟨(w.heap.size + 1), 1, none⟩ = false := var_frozen o_r (by simp) 1 _ rfl
            have c_r2 : w6.cell? ⟨(w.heap.size + 1), 2, none⟩ = some (.slice none 0 0) := var_load o_r (by simp) 2 _ rfl
            have f_r2 : w6.frozen? ⟨(w.heap.size + 1), 2, none⟩ = false := var_frozen o_r (by simp) 2 _ rfl
            have l_r := var_lt o_r
            have c_o0 : w6.cell? ⟨w3.heap.size, 0, none⟩ = some (.int .i64 b.Seed) := var_load o_o (by simp) 0 _ rfl
            have f_o0 : w6.frozen? ⟨w3.heap.size, 0, none⟩ = false := var_frozen o_o (by simp) 0 _ rfl
            have c_o1 : w6.cell? ⟨w3.heap.size, 1, none⟩ = some (.int .i64 b.Next) := var_load o_o (by simp) 1 _ rfl
            have f_o1 : w6.frozen? ⟨w3.heap.size, 1, none⟩ = false := var_frozen o_o (by simp) 1 _ rfl
            have c_o2 : w6.cell? ⟨w3.heap.size, 2, none⟩ = some (.slice Ay m cy) := var_load o_o (by simp) 2 _ rfl
            have f_o2 : w6.frozen? ⟨w3.heap.size, 2, none⟩ = false := var_frozen o_o (by simp) 2 _ rfl
            have l_o := var_lt o_o
            go_simp
            refine hK.out _ _ ?_ (fun hHeld => ?_)
            · exact ⟨var_load o_p (by simp) 0 _ rfl, var_load o_p (by simp) 1 _ rfl, var_load o_p (by simp) 2 _ rfl, var_load o_o (by simp) 0 _ rfl, var_load o_o (by simp) 1 _ rfl, (EC.out _ HB).1, (EC.out _ HB).2.1, (EC.out _ HB).2.2⟩
            clear hK K
            try simp only [Act.put, List.setIfInBounds_toArray, List.set_cons_zero, List.set_cons_succ]
            refine wpAnyH_ready (rs := [7]) (by kernel_rfl) (by simp) ?_
            refine AllReadyH.cons (o := ?ov_7_8) ?hiv_7_8 (fun K hK => ?gv_7_8) AllReadyH.nil
            case hiv_7_8 => simp only [List.getElem?_toArray, List.getElem?_cons_succ, List.getElem?_cons_zero]; rfl
            case gv_7_8 =>
              have c_p0 : w6.cell? ⟨w.heap.size, 0, none⟩ = some (.int .i64 b.Seed) := var_load o_p (by simp) 0 _ rfl
              have f_p0 : w6.frozen? ⟨w.heap.size, 0, none⟩ = false := var_frozen o_p (by simp) 0 _ rfl
              have c_p1 : w6.cell? ⟨w.heap.size, 1, none⟩ = some (.int .i64 b.Next) := var_load o_p (by simp) 1 _ rfl
              have f_p1 : w6.frozen? ⟨w.heap.size, 1, none⟩ = false := var_frozen o_p (by simp) 1 _ rfl
              have c_p2 : w6.cell? ⟨w.heap.size, 2, none⟩ = some (.slice (some ⟨ga, offa, none⟩) n c) := var_load o_p (by simp) 2 _ rfl
              have f_p2 : w6.frozen? ⟨w.heap.size, 2, none⟩ = false := var_frozen o_p (by simp) 2 _ rfl
              have l_p := var_lt o_p
              have c_r0 : w6.cell? ⟨(w.heap.size + 1), 0, none⟩ = some (.int .i64 0) := var_load o_r (by simp) 0 _ rfl
              have f_r0 : w6.frozen? ⟨(w.heap.size + 1), 0, none⟩ = false := var_frozen o_r (by simp) 0 _ rfl
              have c_r1 : w6.cell? ⟨(w.heap.size + 1), 1, none⟩ = some (.int .i64 0) := var_load o_r (by simp) 1 _ rfl
              have f_r1 : w6.frozen? ⟨(w.heap.size + 1), 1, none⟩ = false := var_frozen o_r (by simp) 1 _ rfl
              have c_r2 : w6.cell? ⟨(w.heap.size + 1), 2, none⟩ = some (.slice none 0 0) := var_load o_r (by simp) 2 _ rfl
              have f_r2 : w6.frozen? ⟨(w.heap.size + 1), 2, none⟩ = false := var_frozen o_r (by simp) 2 _ rfl
              have l_r := var_lt o_r
              have c_o0 : w6.cell? ⟨w3.heap.size, 0, none⟩ = some (.int .i64 b.Seed) := var_load o_o (by simp) 0 _ rfl
              have f_o0 : w6.frozen? ⟨w3.heap.size, 0, none⟩ = false := var_frozen o_o (by simp) 0 _ rfl
              have c_o1 : w6.cell? ⟨w3.heap.size, 1, none⟩ = some (.int .i64 b.Next) := var_load o_o (by simp) 1 _ rfl
              have f_o1 : w6.frozen? ⟨w3.heap.size, 1, none⟩ = false := var_frozen o_o (by simp) 1 _ rfl
              have c_o2 : w6.cell? ⟨w3.heap.size, 2, none⟩ = some (.slice Ay m cy) := var_load o_o (by simp) 2 _ rfl
              have f_o2 : w6.frozen? ⟨w3.heap.size, 2, none⟩ = false := var_frozen o_o (by simp) 2 _ rfl
              have l_o := var_lt o_o
              go_simp
              have hgr := var_lt o_o
              have hy6 := Fx.made_in o_y
              clear c_p0 f_p0 c_p1 f_p1 c_p2 f_p2 l_p c_r0 f_r0 c_r1 f_r1 c_r2 f_r2 l_r c_o0 f_o0 c_o1 f_o1 c_o2 f_o2 l_o
              obtain ⟨w7, hw7⟩ : ∃ y, y = w6.alloc (.cells #[.int .i64 x.Id, .int .i64 x.Account, .int .i64 x.Until] 30) := ⟨_, rfl⟩
              have o_e := var_owns w6 30 3 [.int .i64 x.Id, .int .i64 x.Account, .int .i64 x.Until] rfl
              have bw7 : Below w6.heap.size w6 w7 := hw7 ▸ (Below.refl _ _).alloc (Nat.le_refl _) _
              rw [← hw7] at o_e ⊢
              have zw7 : w6.heap.size < w7.heap.size := by rw [hw7]; simp
              clear hw7
              replace o_p := owns_below o_p bw7
              replace o_r := owns_below o_r bw7
              replace o_o := owns_below o_o bw7
              replace o_y := owns_below o_y bw7
              replace HB := HB.trans (bw7.mono HB.size)
              have ne : ∀ q, q ∈ [w6.heap.size] → q ∉ sy := fun q hq h => by have h1 := hy6 q h; simp at hq; omega
              clear hy6
              refine hK.out _ _ ?_ (fun hHeld => ?_)
              · exact ⟨var_load o_p (by simp) 0 _ rfl, var_load o_p (by simp) 1 _ rfl, var_load o_p (by simp) 2 _ rfl, var_load o_o (by simp) 0 _ rfl, var_load o_o (by simp) 1 _ rfl, (EC.out _ HB).1, (EC.out _ HB).2.1, (EC.out _ HB).2.2⟩
              clear hK K
              try simp only [Act.put, List.setIfInBounds_toArray, List.set_cons_zero, List.set_cons_succ]
              refine wpAnyH_ready (rs := [8]) (by kernel_rfl) (by simp) ?_
              refine AllReadyH.cons (o := ?ov_8_9) ?hiv_8_9 (fun K hK => ?gv_8_9) AllReadyH.nil
              case hiv_8_9 => simp only [List.getElem?_toArray, List.getElem?_cons_succ, List.getElem?_cons_zero]; rfl
              case gv_8_9 =>
                refine Ap.step_app_el elChallenge w7 rfl (.tmp 31) (.tmp 37) rfl w.heap.size _ m r sy (by simp [Act.eval]) o_y ny (w6.heap.size) 1 x [.int .i64 x.Id, .int .i64 x.Account, .int .i64 x.Until] (by simp [Act.eval]) rfl (three (var_load o_e (by simp) 0 _ rfl) (var_load o_e (by simp) 1 _ rfl) (var_load o_e (by simp) 2 _ rfl)) (by intro u hu; simp at hu; rcases hu with rfl | rfl | rfl <;> rfl) w.heap.size [] (ch_owns x) List.nodup_nil (fun y _ h => by cases h) (Nat.le_refl _) (by omega) HB.size ?_
                intro v_n s_n w8 o_n n_n T_n M_n
                obtain ⟨A_n, c_n, rfl⟩ := owns_slice o_n
                have zw8 := T_n.2.2.2.1
                replace o_p := owns_turned o_p T_n (fun b hb hb2 => by have h1 := i_y b (own_mem o_y b hb2); simp at hb; omega)
                replace o_r := owns_turned o_r T_n (fun b hb hb2 => by have h1 := i_y b (own_mem o_y b hb2); simp at hb; omega)
                replace o_o := owns_turned o_o T_n (fun b hb hb2 => by have h1 := i_y b (own_mem o_y b hb2); simp at hb; omega)
                replace o_e := owns_turned o_e T_n (fun b hb hb2 => ne b hb (own_mem o_y b hb2))
                replace HB := below_turned HB T_n (fun b hb => (Fx.made_in o_y b (own_mem o_y b hb)).1)
                have i_n : ∀ q, q ∈ s_n → w3.heap.size < q := fun q hq => by rcases M_n q hq with h1 | h1 | h1; exact i_y q h1; cases h1; omega
                clear T_n M_n o_y ny i_y ne
                refine hK.out _ _ ?_ (fun hHeld => ?_)
                · exact ⟨var_load o_p (by simp) 0 _ rfl, var_load o_p (by simp) 1 _ rfl, var_load o_p (by simp) 2 _ rfl, var_load o_o (by simp) 0 _ rfl, var_load o_o (by simp) 1 _ rfl, (EC.out _ HB).1, (EC.out _ HB).2.1, (EC.out _ HB).2.2⟩
                clear hK K
                try simp only [Act.put, List.setIfInBounds_toArray, List.set_cons_zero, List.set_cons_succ]
                refine wpAnyH_take (i := 9) (oi := ?oiv_9_10) (v := ?vv_9_10) ?hiv_9_10 (by kernel_rfl) (by kernel_rfl) (by kernel_rfl) ?hQv_9_10 (Or.inl ⟨?hwv_9_10, ?hyv_9_10⟩) (by assumption) ?_
                case hiv_9_10 => simp only [List.getElem?_toArray, List.getElem?_cons_succ, List.getElem?_cons_zero]; rfl
                case hQv_9_10 => exact fun _ _ _ h => h
                case hwv_9_10 => rfl
                case hyv_9_10 => intro w hSw; (try dsimp only at hSw); (first | (go_simp; done) | (go_simp; with_reducible rfl))
                try simp only [Act.put, List.setIfInBounds_toArray, List.set_cons_zero, List.set_cons_succ]
                refine wpAnyH_ready (rs := [10]) (by kernel_rfl) (by simp) ?_
                refine AllReadyH.cons (o := ?ov_10_11) ?hiv_10_11 (fun K hK => ?gv_10_11) AllReadyH.nil
                case hiv_10_11 => simp only [List.getElem?_toArray, List.getElem?_cons_succ, List.getElem?_cons_zero]; rfl
                case gv_10_11 =>
                  have c_p0 : w8.cell? ⟨w.heap.size, 0, none⟩ = some (.int .i64 b.Seed) := var_load o_p (by simp) 0 _ rfl
                  have f_p0 : w8.frozen? ⟨w.heap.size, 0, none⟩ = false := var_frozen o_p (by simp) 0 _ rfl
                  have c_p1 : w8.cell? ⟨w.heap.size, 1, none⟩ = some (.int .i64 b.Next) := var_load o_p (by simp) 1 _ rfl
                  have f_p1 : w8.frozen? ⟨w.heap.size, 1, none⟩ = false := var_frozen o_p (by simp) 1 _ rfl
                  have c_p2 : w8.cell? ⟨w.heap.size, 2, none⟩ = some (.slice (some ⟨ga, offa, none⟩) n c) := var_load o_p (by simp) 2 _ rfl
                  have f_p2 : w8.frozen? ⟨w.heap.size, 2, none⟩ = false := var_frozen o_p (by simp) 2 _ rfl
                  have l_p := var_lt o_p
                  have c_r0 : w8.cell? ⟨(w.heap.size + 1), 0, none⟩ = some (.int .i64 0) := var_load o_r (by simp) 0 _ rfl
                  have f_r0 : w8.frozen? ⟨(w.heap.size + 1), 0, none⟩ = false := var_frozen o_r (by simp) 0 _ rfl
                  have c_r1 : w8.cell? ⟨(w.heap.size + 1), 1, none⟩ = some (.int .i64 0) := var_load o_r (by simp) 1 _ rfl
                  have f_r1 : w8.frozen? ⟨(w.heap.size + 1), 1, none⟩ = false := var_frozen o_r (by simp) 1 _ rfl
                  have c_r2 : w8.cell? ⟨(w.heap.size + 1), 2, none⟩ = some (.slice none 0 0) := var_load o_r (by simp) 2 _ rfl
                  have f_r2 : w8.frozen? ⟨(w.heap.size + 1), 2, none⟩ = false := var_frozen o_r (by simp) 2 _ rfl
                  have l_r := var_lt o_r
                  have c_o0 : w8.cell? ⟨w3.heap.size, 0, none⟩ = some (.int .i64 b.Seed) := var_load o_o (by simp) 0 _ rfl
                  have f_o0 : w8.frozen? ⟨w3.heap.size, 0, none⟩ = false := var_frozen o_o (by simp) 0 _ rfl
                  have c_o1 : w8.cell? ⟨w3.heap.size, 1, none⟩ = some (.int .i64 b.Next) := var_load o_o (by simp) 1 _ rfl
                  have f_o1 : w8.frozen? ⟨w3.heap.size, 1, none⟩ = false := var_frozen o_o (by simp) 1 _ rfl
                  have c_o2 : w8.cell? ⟨w3.heap.size, 2, none⟩ = some (.slice Ay m cy) := var_load o_o (by simp) 2 _ rfl
                  have f_o2 : w8.frozen? ⟨w3.heap.size, 2, none⟩ = false := var_frozen o_o (by simp) 2 _ rfl
                  have l_o := var_lt o_o
                  have c_e0 : w8.cell? ⟨w6.heap.size, 0, none⟩ = some (.int .i64 x.Id) := var_load o_e (by simp) 0 _ rfl
                  have f_e0 : w8.frozen? ⟨w6.heap.size, 0, none⟩ = false := var_frozen o_e (by simp) 0 _ rfl
                  have c_e1 : w8.cell? ⟨w6.heap.size, 1, none⟩ = some (.int .i64 x.Account) := var_load o_e (by simp) 1 _ rfl
                  have f_e1 : w8.frozen? ⟨w6.heap.size, 1, none⟩ = false := var_frozen o_e (by simp) 1 _ rfl
                  have c_e2 : w8.cell? ⟨w6.heap.size, 2, none⟩ = some (.int .i64 x.Until) := var_load o_e (by simp) 2 _ rfl
                  have f_e2 : w8.frozen? ⟨w6.heap.size, 2, none⟩ = false := var_frozen o_e (by simp) 2 _ rfl
                  have l_e := var_lt o_e
                  go_simp
                  clear c_p0 f_p0 c_p1 f_p1 c_p2 f_p2 l_p c_r0 f_r0 c_r1 f_r1 c_r2 f_r2 l_r c_o0 f_o0 c_o1 f_o1 c_o2 f_o2 l_o c_e0 f_e0 c_e1 f_e1 c_e2 f_e2 l_e
                  obtain ⟨w9, hw9⟩ : ∃ y, y = (w8.setCell ⟨w3.heap.size, 2, none⟩ (.slice A_n (m + 1) c_n)) := ⟨_, rfl⟩
                  obtain ⟨o_new, tw9⟩ := var_some [.slice A_n (m + 1) c_n] 2 _ _ o_o (by simp)
                  rw [show setAll w8 (w3.heap.size) 2 [.slice A_n (m + 1) c_n] = w9 from hw9.symm] at o_new tw9
                  replace o_o : Owns w9 _ (varD 26 3 [.int .i64 b.Seed, .int .i64 b.Next, .slice A_n (m + 1) c_n]) _ _ := o_new
                  clear o_new
                  replace o_p := owns_turned o_p tw9 (fun b hb hb2 => by simp at hb hb2; omega)
                  replace o_r := owns_turned o_r tw9 (fun b hb hb2 => by simp at hb hb2; omega)
                  replace o_e := owns_turned o_e tw9 (fun b hb hb2 => by simp at hb hb2; omega)
                  replace o_n := owns_turned o_n tw9 (fun b hb hb2 => by have h1 := i_n b hb; simp at hb2; omega)
                  replace HB := below_turned HB tw9 (fun b hb => by simp at hb; omega)
                  have zw9 := tw9.2.2.2.1
                  rw [← hw9]
                  clear hw9
                  refine hK.out _ _ ?_ (fun hHeld => ?_)
                  · exact ⟨var_load o_p (by simp) 0 _ rfl, var_load o_p (by simp) 1 _ rfl, var_load o_p (by simp) 2 _ rfl, var_load o_o (by simp) 0 _ rfl, var_load o_o (by simp) 1 _ rfl, (EC.out _ HB).1, (EC.out _ HB).2.1, (EC.out _ HB).2.2⟩
                  clear hK K
                  try simp only [Act.put, List.setIfInBounds_toArray, List.set_cons_zero, List.set_cons_succ]
                  refine wpAnyH_done (by kernel_rfl) ?_ _
                  have c_p0 : w9.cell? ⟨w.heap.size, 0, none⟩ = some (.int .i64 b.Seed) := var_load o_p (by simp) 0 _ rfl
                  have f_p0 : w9.frozen? ⟨w.heap.size, 0, none⟩ = false := var_frozen o_p (by simp) 0 _ rfl
                  have c_p1 : w9.cell? ⟨w.heap.size, 1, none⟩ = some (.int .i64 b.Next) := var_load o_p (by simp) 1 _ rfl
                  have f_p1 : w9.frozen? ⟨w.heap.size, 1, none⟩ = false := var_frozen o_p (by simp) 1 _ rfl
                  have c_p2 : w9.cell? ⟨w.heap.size, 2, none⟩ = some (.slice (some ⟨ga, offa, none⟩) n c) := var_load o_p (by simp) 2 _ rfl
                  have f_p2 : w9.frozen? ⟨w.heap.size, 2, none⟩ = false := var_frozen o_p (by simp) 2 _ rfl
                  have l_p := var_lt o_p
                  have c_r0 : w9.cell? ⟨(w.heap.size + 1), 0, none⟩ = some (.int .i64 0) := var_load o_r (by simp) 0 _ rfl
                  have f_r0 : w9.frozen? ⟨(w.heap.size + 1), 0, none⟩ = false := var_frozen o_r (by simp) 0 _ rfl
                  have c_r1 : w9.cell? ⟨(w.heap.size + 1), 1, none⟩ = some (.int .i64 0) := var_load o_r (by simp) 1 _ rfl
                  have f_r1 : w9.frozen? ⟨(w.heap.size + 1), 1, none⟩ = false := var_frozen o_r (by simp) 1 _ rfl
                  have c_r2 : w9.cell? ⟨(w.heap.size + 1), 2, none⟩ = some (.slice none 0 0) := var_load o_r (by simp) 2 _ rfl
                  have f_r2 : w9.frozen? ⟨(w.heap.size + 1), 2, none⟩ = false := var_frozen o_r (by simp) 2 _ rfl
                  have l_r := var_lt o_r
                  have c_o0 : w9.cell? ⟨w3.heap.size, 0, none⟩ = some (.int .i64 b.Seed) := var_load o_o (by simp) 0 _ rfl
                  have f_o0 : w9.frozen? ⟨w3.heap.size, 0, none⟩ = false := var_frozen o_o (by simp) 0 _ rfl
                  have c_o1 : w9.cell? ⟨w3.heap.size, 1, none⟩ = some (.int .i64 b.Next) := var_load o_o (by simp) 1 _ rfl
                  have f_o1 : w9.frozen? ⟨w3.heap.size, 1, none⟩ = false := var_frozen o_o (by simp) 1 _ rfl
                  have c_o2 : w9.cell? ⟨w3.heap.size, 2, none⟩ = some (.slice A_n (m + 1) c_n) := var_load o_o (by simp) 2 _ rfl
                  have f_o2 : w9.frozen? ⟨w3.heap.size, 2, none⟩ = false := var_frozen o_o (by simp) 2 _ rfl
                  have l_o := var_lt o_o
                  have c_e0 : w9.cell? ⟨w6.heap.size, 0, none⟩ = some (.int .i64 x.Id) := var_load o_e (by simp) 0 _ rfl
                  have f_e0 : w9.frozen? ⟨w6.heap.size, 0, none⟩ = false := var_frozen o_e (by simp) 0 _ rfl
                  have c_e1 : w9.cell? ⟨w6.heap.size, 1, none⟩ = some (.int .i64 x.Account) := var_load o_e (by simp) 1 _ rfl
                  have f_e1 : w9.frozen? ⟨w6.heap.size, 1, none⟩ = false := var_frozen o_e (by simp) 1 _ rfl
                  have c_e2 : w9.cell? ⟨w6.heap.size, 2, none⟩ = some (.int .i64 x.Until) := var_load o_e (by simp) 2 _ rfl
                  have f_e2 : w9.frozen? ⟨w6.heap.size, 2, none⟩ = false := var_frozen o_e (by simp) 2 _ rfl
                  have l_e := var_lt o_e
                  go_wp2
                  clear c_p0 f_p0 c_p1 f_p1 c_p2 f_p2 l_p c_r0 f_r0 c_r1 f_r1 c_r2 f_r2 l_r c_o0 f_o0 c_o1 f_o1 c_o2 f_o2 l_o c_e0 f_e0 c_e1 f_e1 c_e2 f_e2 l_e
                  go_roundw
                  case rel => exact ⟨k + 1, m + 1, c_n, A_n, r ++ [x], s_n, by omega, by go_num, HG.out.yes HX.out e1, by have := HM.out; simp; omega, o_n, n_n, i_n, o_p, o_r, o_o, HB⟩
                  case measure => simp [intOf]; omega
          case gv_7_7 =>
            have c_p0 : w6.cell? ⟨w.heap.size, 0, none⟩ = some (.int .i64 b.Seed) := var_load o_p (by simp) 0 _ rfl
            have f_p0 : w6.frozen? ⟨w.heap.size, 0, none⟩ = false := var_frozen o_p (by simp) 0 _ rfl
            have c_p1 : w6.cell? ⟨w.heap.size, 1, none⟩ = some (.int .i64 b.Next) := var_load o_p (by simp) 1 _ rfl
            have f_p1 : w6.frozen? ⟨w.heap.size, 1, none⟩ = false := var_frozen o_p (by simp) 1 _ rfl
            have c_p2 : w6.cell? ⟨w.heap.size, 2, none⟩ = some (.slice (some ⟨ga, offa, none⟩) n c) := var_load o_p (by simp) 2 _ rfl
            have f_p2 : w6.frozen? ⟨w.heap.size, 2, none⟩ = false := var_frozen o_p (by simp) 2 _ rfl
            have l_p := var_lt o_p
            have c_r0 : w6.cell? ⟨(w.heap.size + 1), 0, none⟩ = some (.int .i64 0) := var_load o_r (by simp) 0 _ rfl
            have f_r0 : w6.frozen? ⟨(w.heap.size + 1), 0, none⟩ = false := var_frozen o_r (by simp) 0 _ rfl
            have c_r1 : w6.cell? ⟨(w.heap.size + 1), 1, none⟩ = some (.int .i64 0) := var_load o_r (by simp) 1 _ rfl
            have f_r1 : w6.frozen? ⟨(w.heap.size + 1), 1, none⟩ = false := var_frozen o_r (by simp) 1 _ rfl
            have c_r2 : w6.cell? ⟨(w.heap.size + 1), 2, none⟩ = some (.slice none 0 0) := var_load o_r (by simp) 2 _ rfl
            have f_r2 : w6.frozen? ⟨(w.heap.size + 1), 2, none⟩ = false := var_frozen o_r (by simp) 2 _ rfl
            have l_r := var_lt o_r
            have c_o0 : w6.cell? ⟨w3.heap.size, 0, none⟩ = some (.int .i64 b.Seed) := var_load o_o (by simp) 0 _ rfl
            have f_o0 : w6.frozen? ⟨w3.heap.size, 0, none⟩ = false := var_frozen o_o (by simp) 0 _ rfl
            have c_o1 : w6.cell? ⟨w3.heap.size, 1, none⟩ = some (.int .i64 b.Next) := var_load o_o (by simp) 1 _ rfl
            have f_o1 : w6.frozen? ⟨w3.heap.size, 1, none⟩ = false := var_frozen o_o (by simp) 1 _ rfl
            have c_o2 : w6.cell? ⟨w3.heap.size, 2, none⟩ = some (.slice Ay m cy) := var_load o_o (by simp) 2 _ rfl
            have f_o2 : w6.frozen? ⟨w3.heap.size, 2, none⟩ = false := var_frozen o_o (by simp) 2 _ rfl
            have l_o := var_lt o_o
            go_simp
            have hgr := var_lt o_o
            have hy6 := Fx.made_in o_y
            clear c_p0 f_p0 c_p1 f_p1 c_p2 f_p2 l_p c_r0 f_r0 c_r1 f_r1 c_r2 f_r2 l_r c_o0 f_o0 c_o1 f_o1 c_o2 f_o2 l_o
            obtain ⟨w7, hw7⟩ : ∃ y, y = w6.alloc (.cells #[.int .i64 x.Id, .int .i64 x.Account, .int .i64 x.Until] 30) := ⟨_, rfl⟩
            have o_e := var_owns w6 30 3 [.int .i64 x.Id, .int .i64 x.Account, .int .i64 x.Until] rfl
            have bw7 : Below w6.heap.size w6 w7 := hw7 ▸ (Below.refl _ _).alloc (Nat.le_refl _) _
            rw [← hw7] at o_e ⊢
            have zw7 : w6.heap.size < w7.heap.size := by rw [hw7]; simp
            clear hw7
            replace o_p := owns_below o_p bw7
            replace o_r := owns_below o_r bw7
            replace o_o := owns_below o_o bw7
            replace o_y := owns_below o_y bw7
            replace HB := HB.trans (bw7.mono HB.size)
            have ne : ∀ q, q ∈ [w6.heap.size] → q ∉ sy := fun q hq h => by have h1 := hy6 q h; simp at hq; omega
            clear hy6
            refine hK.out _ _ ?_ (fun hHeld => ?_)
            · exact ⟨var_load o_p (by simp) 0 _ rfl, var_load o_p (by simp) 1 _ rfl, var_load o_p (by simp) 2 _ rfl, var_load o_o (by simp) 0 _ rfl, var_load o_o (by simp) 1 _ rfl, (EC.out _ HB).1, (EC.out _ HB).2.1, (EC.out _ HB).2.2⟩
            clear hK K
            try simp only [Act.put, List.setIfInBounds_toArray, List.set_cons_zero, List.set_cons_succ]
            refine wpAnyH_ready (rs := [1]) (by kernel_rfl) (by simp) ?_
            refine AllReadyH.cons (o := ?ov_1_12) ?hiv_1_12 (fun K hK => ?gv_1_12) AllReadyH.nil
            case hiv_1_12 => simp only [List.getElem?_toArray, List.getElem?_cons_succ, List.getElem?_cons_zero]; rfl
            case gv_1_12 =>
              have c_p0 : w7.cell? ⟨w.heap.size, 0, none⟩ = some (.int .i64 b.Seed) := var_load o_p (by simp) 0 _ rfl
              have f_p0 : w7.frozen? ⟨w.heap.size, 0, none⟩ = false := var_frozen o_p (by simp) 0 _ rfl
              have c_p1 : w7.cell? ⟨w.heap.size, 1, none⟩ = some (.int .i64 b.Next) := var_load o_p (by simp) 1 _ rfl
              have f_p1 : w7.frozen? ⟨w.heap.size, 1, none⟩ = false := var_frozen o_p (by simp) 1 _ rfl
              have c_p2 : w7.cell? ⟨w.heap.size, 2, none⟩ = some (.slice (some ⟨ga, offa, none⟩) n c) := var_load o_p (by simp) 2 _ rfl
              have f_p2 : w7.frozen? ⟨w.heap.size, 2, none⟩ = false := var_frozen o_p (by simp) 2 _ rfl
              have l_p := var_lt o_p
              have c_r0 : w7.cell? ⟨(w.heap.size + 1), 0, none⟩ = some (.int .i64 0) := var_load o_r (by simp) 0 _ rfl
              have f_r0 : w7.frozen? ⟨(w.heap.size + 1), 0, none⟩ = false := var_frozen o_r (by simp) 0 _ rfl
              have c_r1 : w7.cell? ⟨(w.heap.size + 1), 1, none⟩ = some (.int .i64 0) := var_load o_r (by simp) 1 _ rfl
              have f_r1 : w7.frozen? ⟨(w.heap.size + 1), 1, none⟩ = false := var_frozen o_r (by simp) 1 _ rfl
              have c_r2 : w7.cell? ⟨(w.heap.size + 1), 2, none⟩ = some (.slice none 0 0) := var_load o_r (by simp) 2 _ rfl
              have f_r2 : w7.frozen? ⟨(w.heap.size + 1), 2, none⟩ = false := var_frozen o_r (by simp) 2 _ rfl
              have l_r := var_lt o_r
              have c_o0 : w7.cell? ⟨w3.heap.size, 0, none⟩ = some (.int .i64 b.Seed) := var_load o_o (by simp) 0 _ rfl
              have f_o0 : w7.frozen? ⟨w3.heap.size, 0, none⟩ = false := var_frozen o_o (by simp) 0 _ rfl
              have c_o1 : w7.cell? ⟨w3.heap.size, 1, none⟩ = some (.int .i64 b.Next) := var_load o_o (by simp) 1 _ rfl
              have f_o1 : w7.frozen? ⟨w3.heap.size, 1, none⟩ = false := var_frozen o_o (by simp) 1 _ rfl
              have c_o2 : w7.cell? ⟨w3.heap.size, 2, none⟩ = some (.slice Ay m cy) := var_load o_o (by simp) 2 _ rfl
              have f_o2 : w7.frozen? ⟨w3.heap.size, 2, none⟩ = false := var_frozen o_o (by simp) 2 _ rfl
              have l_o := var_lt o_o
              have c_e0 : w7.cell? ⟨w6.heap.size, 0, none⟩ = some (.int .i64 x.Id) := var_load o_e (by simp) 0 _ rfl
              have f_e0 : w7.frozen? ⟨w6.heap.size, 0, none⟩ = false := var_frozen o_e (by simp) 0 _ rfl
              have c_e1 : w7.cell? ⟨w6.heap.size, 1, none⟩ = some (.int .i64 x.Account) := var_load o_e (by simp) 1 _ rfl
              have f_e1 : w7.frozen? ⟨w6.heap.size, 1, none⟩ = false := var_frozen o_e (by simp) 1 _ rfl
              have c_e2 : w7.cell? ⟨w6.heap.size, 2, none⟩ = some (.int .i64 x.Until) := var_load o_e (by simp) 2 _ rfl
              have f_e2 : w7.frozen? ⟨w6.heap.size, 2, none⟩ = false := var_frozen o_e (by simp) 2 _ rfl
              have l_e := var_lt o_e
              go_simp
              refine hK.out _ _ ?_ (fun hHeld => ?_)
              · exact ⟨var_load o_p (by simp) 0 _ rfl, var_load o_p (by simp) 1 _ rfl, var_load o_p (by simp) 2 _ rfl, var_load o_o (by simp) 0 _ rfl, var_load o_o (by simp) 1 _ rfl, (EC.out _ HB).1, (EC.out _ HB).2.1, (EC.out _ HB).2.2⟩
              clear hK K
              try simp only [Act.put, List.setIfInBounds_toArray, List.set_cons_zero, List.set_cons_succ]
              refine wpAnyH_ready (rs := [8]) (by kernel_rfl) (by simp) ?_
              refine AllReadyH.cons (o := ?ov_8_13) ?hiv_8_13 (fun K hK => ?gv_8_13) AllReadyH.nil
              case hiv_8_13 => simp only [List.getElem?_toArray, List.getElem?_cons_succ, List.getElem?_cons_zero]; rfl
              case gv_8_13 =>
                clear c_p0 f_p0 c_p1 f_p1 c_p2 f_p2 l_p c_r0 f_r0 c_r1 f_r1 c_r2 f_r2 l_r c_o0 f_o0 c_o1 f_o1 c_o2 f_o2 l_o c_e0 f_e0 c_e1 f_e1 c_e2 f_e2 l_e
                refine Ap.step_app_el elChallenge w7 rfl (.tmp 31) (.tmp 37) rfl w.heap.size _ m r sy (by simp [Act.eval]) o_y ny (w6.heap.size) 1 x [.int .i64 x.Id, .int .i64 x.Account, .int .i64 x.Until] (by simp [Act.eval]) rfl (three (var_load o_e (by simp) 0 _ rfl) (var_load o_e (by simp) 1 _ rfl) (var_load o_e (by simp) 2 _ rfl)) (by intro u hu; simp at hu; rcases hu with rfl | rfl | rfl <;> rfl) w.heap.size [] (ch_owns x) List.nodup_nil (fun y _ h => by cases h) (Nat.le_refl _) (by omega) HB.size ?_
                intro v_n s_n w8 o_n n_n T_n M_n
                obtain ⟨A_n, c_n, rfl⟩ := owns_slice o_n
                have zw8 := T_n.2.2.2.1
                replace o_p := owns_turned o_p T_n (fun b hb hb2 => by have h1 := i_y b (own_mem o_y b hb2); simp at hb; omega)
                replace o_r := owns_turned o_r T_n (fun b hb hb2 => by have h1 := i_y b (own_mem o_y b hb2); simp at hb; omega)
                replace o_o := owns_turned o_o T_n (fun b hb hb2 => by have h1 := i_y b (own_mem o_y b hb2); simp at hb; omega)
                replace o_e := owns_turned o_e T_n (fun b hb hb2 => ne b hb (own_mem o_y b hb2))
                replace HB := below_turned HB T_n (fun b hb => (Fx.made_in o_y b (own_mem o_y b hb)).1)
                have i_n : ∀ q, q ∈ s_n → w3.heap.size < q := fun q hq => by rcases M_n q hq with h1 | h1 | h1; exact i_y q h1; cases h1; omega
                clear T_n M_n o_y ny i_y ne
                refine hK.out _ _ ?_ (fun hHeld => ?_)
                · exact ⟨var_load o_p (by simp) 0 _ rfl, var_load o_p (by simp) 1 _ rfl, var_load o_p (by simp) 2 _ rfl, var_load o_o (by simp) 0 _ rfl, var_load o_o (by simp) 1 _ rfl, (EC.out _ HB).1, (EC.out _ HB).2.1, (EC.out _ HB).2.2⟩
                clear hK K
                try simp only [Act.put, List.setIfInBounds_toArray, List.set_cons_zero, List.set_cons_succ]
                refine wpAnyH_take (i := 9) (oi := ?oiv_9_14) (v := ?vv_9_14) ?hiv_9_14 (by kernel_rfl) (by kernel_rfl) (by kernel_rfl) ?hQv_9_14 (Or.inl ⟨?hwv_9_14, ?hyv_9_14⟩) (by assumption) ?_
                case hiv_9_14 => simp only [List.getElem?_toArray, List.getElem?_cons_succ, List.getElem?_cons_zero]; rfl
                case hQv_9_14 => exact fun _ _ _ h => h
                case hwv_9_14 => rfl
                case hyv_9_14 => intro w hSw; (try dsimp only at hSw); (first | (go_simp; done) | (go_simp; with_reducible rfl))
                try simp only [Act.put, List.setIfInBounds_toArray, List.set_cons_zero, List.set_cons_succ]
                refine wpAnyH_ready (rs := [10]) (by kernel_rfl) (by simp) ?_
                refine AllReadyH.cons (o := ?ov_10_15) ?hiv_10_15 (fun K hK => ?gv_10_15) AllReadyH.nil
                case hiv_10_15 => simp only [List.getElem?_toArray, List.getElem?_cons_succ, List.getElem?_cons_zero]; rfl
                case gv_10_15 =>
                  have c_p0 : w8.cell? ⟨w.heap.size, 0, none⟩ = some (.int .i64 b.Seed) := var_load o_p (by simp) 0 _ rfl
                  have f_p0 : w8.frozen? ⟨w.heap.size, 0, none⟩ = false := var_frozen o_p (by simp) 0 _ rfl
                  have c_p1 : w8.cell? ⟨w.heap.size, 1, none⟩ = some (.int .i64 b.Next) := var_load o_p (by simp) 1 _ rfl
                  have f_p1 : w8.frozen? ⟨w.heap.size, 1, none⟩ = false := var_frozen o_p (by simp) 1 _ rfl
                  have c_p2 : w8.cell? ⟨w.heap.size, 2, none⟩ = some (.slice (some ⟨ga, offa, none⟩) n c) := var_load o_p (by simp) 2 _ rfl
                  have f_p2 : w8.frozen? ⟨w.heap.size, 2, none⟩ = false := var_frozen o_p (by simp) 2 _ rfl
                  have l_p := var_lt o_p
                  have c_r0 : w8.cell? ⟨(w.heap.size + 1), 0, none⟩ = some (.int .i64 0) := var_load o_r (by simp) 0 _ rfl
                  have f_r0 : w8.frozen? ⟨(w.heap.size + 1), 0, none⟩ = false := var_frozen o_r (by simp) 0 _ rfl
                  have c_r1 : w8.cell? ⟨(w.heap.size + 1), 1, none⟩ = some (.int .i64 0) := var_load o_r (by simp) 1 _ rfl
                  have f_r1 : w8.frozen? ⟨(w.heap.size + 1), 1, none⟩ = false := var_frozen o_r (by simp) 1 _ rfl
                  have c_r2 : w8.cell? ⟨(w.heap.size + 1), 2, none⟩ = some (.slice none 0 0) := var_load o_r (by simp) 2 _ rfl
                  have f_r2 : w8.frozen? ⟨(w.heap.size + 1), 2, none⟩ = false := var_frozen o_r (by simp) 2 _ rfl
                  have l_r := var_lt o_r
                  have c_o0 : w8.cell? ⟨w3.heap.size, 0, none⟩ = some (.int .i64 b.Seed) := var_load o_o (by simp) 0 _ rfl
                  have f_o0 : w8.frozen? ⟨w3.heap.size, 0, none⟩ = false := var_frozen o_o (by simp) 0 _ rfl
                  have c_o1 : w8.cell? ⟨w3.heap.size, 1, none⟩ = some (.int .i64 b.Next) := var_load o_o (by simp) 1 _ rfl
                  have f_o1 : w8.frozen? ⟨w3.heap.size, 1, none⟩ = false := var_frozen o_o (by simp) 1 _ rfl
                  have c_o2 : w8.cell? ⟨w3.heap.size, 2, none⟩ = some (.slice Ay m cy) := var_load o_o (by simp) 2 _ rfl
                  have f_o2 : w8.frozen? ⟨w3.heap.size, 2, none⟩ = false := var_frozen o_o (by simp) 2 _ rfl
                  have l_o := var_lt o_o
                  have c_e0 : w8.cell? ⟨w6.heap.size, 0, none⟩ = some (.int .i64 x.Id) := var_load o_e (by simp) 0 _ rfl
                  have f_e0 : w8.frozen? ⟨w6.heap.size, 0, none⟩ = false := var_frozen o_e (by simp) 0 _ rfl
                  have c_e1 : w8.cell? ⟨w6.heap.size, 1, none⟩ = some (.int .i64 x.Account) := var_load o_e (by simp) 1 _ rfl
                  have f_e1 : w8.frozen? ⟨w6.heap.size, 1, none⟩ = false := var_frozen o_e (by simp) 1 _ rfl
                  have c_e2 : w8.cell? ⟨w6.heap.size, 2, none⟩ = some (.int .i64 x.Until) := var_load o_e (by simp) 2 _ rfl
                  have f_e2 : w8.frozen? ⟨w6.heap.size, 2, none⟩ = false := var_frozen o_e (by simp) 2 _ rfl
                  have l_e := var_lt o_e
                  go_simp
                  clear c_p0 f_p0 c_p1 f_p1 c_p2 f_p2 l_p c_r0 f_r0 c_r1 f_r1 c_r2 f_r2 l_r c_o0 f_o0 c_o1 f_o1 c_o2 f_o2 l_o c_e0 f_e0 c_e1 f_e1 c_e2 f_e2 l_e
                  obtain ⟨w9, hw9⟩ : ∃ y, y = (w8.setCell ⟨w3.heap.size, 2, none⟩ (.slice A_n (m + 1) c_n)) := ⟨_, rfl⟩
                  obtain ⟨o_new, tw9⟩ := var_some [.slice A_n (m + 1) c_n] 2 _ _ o_o (by simp)
                  rw [show setAll w8 (w3.heap.size) 2 [.slice A_n (m + 1) c_n] = w9 from hw9.symm] at o_new tw9
                  replace o_o : Owns w9 _ (varD 26 3 [.int .i64 b.Seed, .int .i64 b.Next, .slice A_n (m + 1) c_n]) _ _ := o_new
                  clear o_new
                  replace o_p := owns_turned o_p tw9 (fun b hb hb2 => by simp at hb hb2; omega)
                  replace o_r := owns_turned o_r tw9 (fun b hb hb2 => by simp at hb hb2; omega)
                  replace o_e := owns_turned o_e tw9 (fun b hb hb2 => by simp at hb hb2; omega)
                  replace o_n := owns_turned o_n tw9 (fun b hb hb2 => by have h1 := i_n b hb; simp at hb2; omega)
                  replace HB := below_turned HB tw9 (fun b hb => by simp at hb; omega)
                  have zw9 := tw9.2.2.2.1
                  rw [← hw9]
                  clear hw9
                  refine hK.out _ _ ?_ (fun hHeld => ?_)
                  · exact ⟨var_load o_p (by simp) 0 _ rfl, var_load o_p (by simp) 1 _ rfl, var_load o_p (by simp) 2 _ rfl, var_load o_o (by simp) 0 _ rfl, var_load o_o (by simp) 1 _ rfl, (EC.out _ HB).1, (EC.out _ HB).2.1, (EC.out _ HB).2.2⟩
                  clear hK K
                  try simp only [Act.put, List.setIfInBounds_toArray, List.set_cons_zero, List.set_cons_succ]
                  refine wpAnyH_done (by kernel_rfl) ?_ _
                  have c_p0 : w9.cell? ⟨w.heap.size, 0, none⟩ = some (.int .i64 b.Seed) := var_load o_p (by simp) 0 _ rfl
                  have f_p0 : w9.frozen? ⟨w.heap.size, 0, none⟩ = false := var_frozen o_p (by simp) 0 _ rfl
                  have c_p1 : w9.cell? ⟨w.heap.size, 1, none⟩ = some (.int .i64 b.Next) := var_load o_p (by simp) 1 _ rfl
                  have f_p1 : w9.frozen? ⟨w.heap.size, 1, none⟩ = false := var_frozen o_p (by simp) 1 _ rfl
                  have c_p2 : w9.cell? ⟨w.heap.size, 2, none⟩ = some (.slice (some ⟨ga, offa, none⟩) n c) := var_load o_p (by simp) 2 _ rfl
                  have f_p2 : w9.frozen? ⟨w.heap.size, 2, none⟩ = false := var_frozen o_p (by simp) 2 _ rfl
                  have l_p := var_lt o_p
                  have c_r0 : w9.cell? ⟨(w.heap.size + 1), 0, none⟩ = some (.int .i64 0) := var_load o_r (by simp) 0 _ rfl
                  have f_r0 : w9.frozen? ⟨(w.heap.size + 1), 0, none⟩ = false := var_frozen o_r (by simp) 0 _ rfl
                  have c_r1 : w9.cell? ⟨(w.heap.size + 1), 1, none⟩ = some (.int .i64 0) := var_load o_r (by simp) 1 _ rfl
                  have f_r1 : w9.frozen? ⟨(w.heap.size + 1), 1, none⟩ = false := var_frozen o_r (by simp) 1 _ rfl
                  have c_r2 : w9.cell? ⟨(w.heap.size + 1), 2, none⟩ = some (.slice none 0 0) := var_load o_r (by simp) 2 _ rfl
                  have f_r2 : w9.frozen? ⟨(w.heap.size + 1), 2, none⟩ = false := var_frozen o_r (by simp) 2 _ rfl
                  have l_r := var_lt o_r
                  have c_o0 : w9.cell? ⟨w3.heap.size, 0, none⟩ = some (.int .i64 b.Seed) := var_load o_o (by simp) 0 _ rfl
                  have f_o0 : w9.frozen? ⟨w3.heap.size, 0, none⟩ = false := var_frozen o_o (by simp) 0 _ rfl
                  have c_o1 : w9.cell? ⟨w3.heap.size, 1, none⟩ = some (.int .i64 b.Next) := var_load o_o (by simp) 1 _ rfl
                  have f_o1 : w9.frozen? ⟨w3.heap.size, 1, none⟩ = false := var_frozen o_o (by simp) 1 _ rfl
                  have c_o2 : w9.cell? ⟨w3.heap.size, 2, none⟩ = some (.slice A_n (m + 1) c_n) := var_load o_o (by simp) 2 _ rfl
                  have f_o2 : w9.frozen? ⟨w3.heap.size, 2, none⟩ = false := var_frozen o_o (by simp) 2 _ rfl
                  have l_o := var_lt o_o
                  have c_e0 : w9.cell? ⟨w6.heap.size, 0, none⟩ = some (.int .i64 x.Id) := var_load o_e (by simp) 0 _ rfl
                  have f_e0 : w9.frozen? ⟨w6.heap.size, 0, none⟩ = false := var_frozen o_e (by simp) 0 _ rfl
                  have c_e1 : w9.cell? ⟨w6.heap.size, 1, none⟩ = some (.int .i64 x.Account) := var_load o_e (by simp) 1 _ rfl
                  have f_e1 : w9.frozen? ⟨w6.heap.size, 1, none⟩ = false := var_frozen o_e (by simp) 1 _ rfl
                  have c_e2 : w9.cell? ⟨w6.heap.size, 2, none⟩ = some (.int .i64 x.Until) := var_load o_e (by simp) 2 _ rfl
                  have f_e2 : w9.frozen? ⟨w6.heap.size, 2, none⟩ = false := var_frozen o_e (by simp) 2 _ rfl
                  have l_e := var_lt o_e
                  go_wp2
                  clear c_p0 f_p0 c_p1 f_p1 c_p2 f_p2 l_p c_r0 f_r0 c_r1 f_r1 c_r2 f_r2 l_r c_o0 f_o0 c_o1 f_o1 c_o2 f_o2 l_o c_e0 f_e0 c_e1 f_e1 c_e2 f_e2 l_e
                  go_roundw
                  case rel => exact ⟨k + 1, m + 1, c_n, A_n, r ++ [x], s_n, by omega, by go_num, HG.out.yes HX.out e1, by have := HM.out; simp; omega, o_n, n_n, i_n, o_p, o_r, o_o, HB⟩
                  case measure => simp [intOf]; omega
        · have e2 : decide (x.Until ≥ now) = false := by simpa using e1
          have c_p0 : wr.cell? ⟨w.heap.size, 0, none⟩ = some (.int .i64 b.Seed) := var_load o_p (by simp) 0 _ rfl
          have f_p0 : wr.frozen? ⟨w.heap.size, 0, none⟩ = false := var_frozen o_p (by simp) 0 _ rfl
          have c_p1 : wr.cell? ⟨w.heap.size, 1, none⟩ = some (.int .i64 b.Next) := var_load o_p (by simp) 1 _ rfl
          have f_p1 : wr.frozen? ⟨w.heap.size, 1, none⟩ = false := var_frozen o_p (by simp) 1 _ rfl
          have c_p2 : wr.cell? ⟨w.heap.size, 2, none⟩ = some (.slice (some ⟨ga, offa, none⟩) n c) := var_load o_p (by simp) 2 _ rfl
          have f_p2 : wr.frozen? ⟨w.heap.size, 2, none⟩ = false := var_frozen o_p (by simp) 2 _ rfl
          have l_p := var_lt o_p
          have c_r0 : wr.cell? ⟨(w.heap.size + 1), 0, none⟩ = some (.int .i64 0) := var_load o_r (by simp) 0 _ rfl
          have f_r0 : wr.frozen? ⟨(w.heap.size + 1), 0, none⟩ = false := var_frozen o_r (by simp) 0 _ rfl
          have c_r1 : wr.cell? ⟨(w.heap.size + 1), 1, none⟩ = some (.int .i64 0) := var_load o_r (by simp) 1 _ rfl
          have f_r1 : wr.frozen? ⟨(w.heap.size + 1), 1, none⟩ = false := var_frozen o_r (by simp) 1 _ rfl
          have c_r2 : wr.cell? ⟨(w.heap.size + 1), 2, none⟩ = some (.slice none 0 0) := var_load o_r (by simp) 2 _ rfl
          have f_r2 : wr.frozen? ⟨(w.heap.size + 1), 2, none⟩ = false := var_frozen o_r (by simp) 2 _ rfl
          have l_r := var_lt o_r
          have c_o0 : wr.cell? ⟨w3.heap.size, 0, none⟩ = some (.int .i64 b.Seed) := var_load o_o (by simp) 0 _ rfl
          have f_o0 : wr.frozen? ⟨w3.heap.size, 0, none⟩ = false := var_frozen o_o (by simp) 0 _ rfl
          have c_o1 : wr.cell? ⟨w3.heap.size, 1, none⟩ = some (.int .i64 b.Next) := var_load o_o (by simp) 1 _ rfl
          have f_o1 : wr.frozen? ⟨w3.heap.size, 1, none⟩ = false := var_frozen o_o (by simp) 1 _ rfl
          have c_o2 : wr.cell? ⟨w3.heap.size, 2, none⟩ = some (.slice Ay m cy) := var_load o_o (by simp) 2 _ rfl
          have f_o2 : wr.frozen? ⟨w3.heap.size, 2, none⟩ = false := var_frozen o_o (by simp) 2 _ rfl
          have l_o := var_lt o_o
          go_wp2
          clear c_p0 f_p0 c_p1 f_p1 c_p2 f_p2 l_p c_r0 f_r0 c_r1 f_r1 c_r2 f_r2 l_r c_o0 f_o0 c_o1 f_o1 c_o2 f_o2 l_o
          go_roundw
          case rel => exact ⟨k + 1, m, cy, Ay, r, sy, by omega, by go_num, HG.out.no HX.out e1, HM.out, o_y, ny, i_y, o_p, o_r, o_o, HB⟩
          case measure => simp [intOf]; omega
      · have hd : decide (k < n) = false := by simp; omega
        have c_p0 : wr.cell? ⟨w.heap.size, 0, none⟩ = some (.int .i64 b.Seed) := var_load o_p (by simp) 0 _ rfl
        have f_p0 : wr.frozen? ⟨w.heap.size, 0, none⟩ = false := var_frozen o_p (by simp) 0 _ rfl
        have c_p1 : wr.cell? ⟨w.heap.size, 1, none⟩ = some (.int .i64 b.Next) := var_load o_p (by simp) 1 _ rfl
        have f_p1 : wr.frozen? ⟨w.heap.size, 1, none⟩ = false := var_frozen o_p (by simp) 1 _ rfl
        have c_p2 : wr.cell? ⟨w.heap.size, 2, none⟩ = some (.slice A n c) := var_load o_p (by simp) 2 _ rfl
        have f_p2 : wr.frozen? ⟨w.heap.size, 2, none⟩ = false := var_frozen o_p (by simp) 2 _ rfl
        have l_p := var_lt o_p
        have c_r0 : wr.cell? ⟨(w.heap.size + 1), 0, none⟩ = some (.int .i64 0) := var_load o_r (by simp) 0 _ rfl
        have f_r0 : wr.frozen? ⟨(w.heap.size + 1), 0, none⟩ = false := var_frozen o_r (by simp) 0 _ rfl
        have c_r1 : wr.cell? ⟨(w.heap.size + 1), 1, none⟩ = some (.int .i64 0) := var_load o_r (by simp) 1 _ rfl
        have f_r1 : wr.frozen? ⟨(w.heap.size + 1), 1, none⟩ = false := var_frozen o_r (by simp) 1 _ rfl
        have c_r2 : wr.cell? ⟨(w.heap.size + 1), 2, none⟩ = some (.slice none 0 0) := var_load o_r (by simp) 2 _ rfl
        have f_r2 : wr.frozen? ⟨(w.heap.size + 1), 2, none⟩ = false := var_frozen o_r (by simp) 2 _ rfl
        have l_r := var_lt o_r
        have c_o0 : wr.cell? ⟨w3.heap.size, 0, none⟩ = some (.int .i64 b.Seed) := var_load o_o (by simp) 0 _ rfl
        have f_o0 : wr.frozen? ⟨w3.heap.size, 0, none⟩ = false := var_frozen o_o (by simp) 0 _ rfl
        have c_o1 : wr.cell? ⟨w3.heap.size, 1, none⟩ = some (.int .i64 b.Next) := var_load o_o (by simp) 1 _ rfl
        have f_o1 : wr.frozen? ⟨w3.heap.size, 1, none⟩ = false := var_frozen o_o (by simp) 1 _ rfl
        have c_o2 : wr.cell? ⟨w3.heap.size, 2, none⟩ = some (.slice Ay m cy) := var_load o_o (by simp) 2 _ rfl
        have f_o2 : wr.frozen? ⟨w3.heap.size, 2, none⟩ = false := var_frozen o_o (by simp) 2 _ rfl
        have l_o := var_lt o_o
        go_wp2
        clear c_p0 f_p0 c_p1 f_p1 c_p2 f_p2 l_p c_r0 f_r0 c_r1 f_r1 c_r2 f_r2 l_r c_o0 f_o0 c_o1 f_o1 c_o2 f_o2 l_o
        obtain ⟨w6, hw6⟩ : ∃ y, y = (((wr.setCell ⟨(w.heap.size + 1), 0, none⟩ (.int .i64 b.Seed)).setCell ⟨(w.heap.size + 1), 1, none⟩ (.int .i64 b.Next)).setCell ⟨(w.heap.size + 1), 2, none⟩ (.slice Ay m cy)) := ⟨_, rfl⟩
        obtain ⟨o_new, tw6⟩ := var_some [.int .i64 b.Seed, .int .i64 b.Next, .slice Ay m cy] 0 _ _ o_r (by simp)
        rw [show setAll wr ((w.heap.size + 1)) 0 [.int .i64 b.Seed, .int .i64 b.Next, .slice Ay m cy] = w6 from hw6.symm] at o_new tw6
        replace o_r : Owns w6 _ (varD 26 3 [.int .i64 b.Seed, .int .i64 b.Next, .slice Ay m cy]) _ _ := o_new
        clear o_new
        replace o_p := owns_turned o_p tw6 (fun b hb hb2 => by simp at hb hb2; omega)
        replace o_o := owns_turned o_o tw6 (fun b hb hb2 => by simp at hb hb2; omega)
        replace o_y := owns_turned o_y tw6 (fun b hb hb2 => by have h1 := i_y b hb; simp at hb2; omega)
        replace HB := below_turned HB tw6 (fun b hb => by simp at hb; omega)
        have zw6 := tw6.2.2.2.1
        rw [← hw6]
        clear hw6
        have hkx : r = xs.filter (fun x => decide (now ≤ x.Until)) := by have h1 := HG.out; unfold Kept at h1; rw [List.take_of_length_le (by have := HL.out; omega)] at h1; exact h1
        have y0 : w6.cell? ⟨(w.heap.size + 1), 0, none⟩ = some (.int .i64 b.Seed) := var_load o_r (by simp) 0 _ rfl
        have y1 : w6.cell? ⟨(w.heap.size + 1), 1, none⟩ = some (.int .i64 b.Next) := var_load o_r (by simp) 1 _ rfl
        have y2 : w6.cell? ⟨(w.heap.size + 1), 2, none⟩ = some (.slice Ay m cy) := var_load o_r (by simp) 2 _ rfl
        refine bodyPost_ret (v := .agg #[.int .i64 b.Seed, .int .i64 b.Next, .slice Ay m cy]) (by simp [results, Try.results30, go_sem, y0, y1, y2]) rfl ?_
        exact made_cb (b := ⟨b.Seed, b.Next, xs.filter (fun x => decide (now ≤ x.Until))⟩) hkx HM.out o_y ny HB
end Go.Proofs.Ytjkmcnnkifachaa.C12f
