/-
  laws.FnChallenges returns true at every code, and leaves it as it was: a challenge is taken at most once, in time, and for its account. Conditions: none.
-/
import Derived.Test.YtjkmcnnkifachaaFr
import Derived.Stop.Joined
import Derived.Test.YtjkmcnnkifachaaC0
import Derived.Test.YtjkmcnnkifachaaCd
import Derived.Test.YtjkmcnnkifachaaSo
import Derived.Test.YtjkmcnnkifachaaD2
import Derived.Test.YtjkmcnnkifachaaD12b
import Derived.Test.YtjkmcnnkifachaaM16
import Derived.Test.YtjkmcnnkifachaaC12i
import Derived.Test.YtjkmcnnkifachaaVn
import Derived.Deep.DeepCutAuto
import Derived.IntWalk
import Derived.Deep.RegionWith
import Derived.Deep.RegionHeld3
namespace Go.Proofs.Ytjkmcnnkifachaa.fnChallenges
open Go.ChangeShapes Go.WideShapes Go.ChangeAt Go.RowKit
set_option linter.unusedVariables false

open S0 S1 S9 Dm Fx M3 M8 C3 C6 C12 C12b C12c C12d C12e C12f D12 M16 E0 C12i
set_option linter.unusedSimpArgs false
theorem eqBk_self (b : Fx.ChallengeBook) : eqBk b b = true := by unfold eqBk; simp
set_option maxHeartbeats 16000000 in
set_option maxRecDepth 100000 in
theorem walkSmall (A0 : Option Addr) (n0 c0 : Nat) (hl : ¬ 1048576 < n0) (W : World) (hc : C0.Code W W.heap.size (.slice A0 n0 c0)) :
    Calls Try.prog 3 #[.slice A0 n0 c0] W fun e w' => e = .returned (.bool true) ∧ Below W.heap.size W w' := by
  go_enter Try.func3, Try.ntmps3
  go_wp2_with fail
  (with_reducible refine (Cd.big_no A0 n0 c0 _ hl).mono ?_); rintro e w0 ⟨rfl, rfl⟩
  go_wp2_with fail
  (with_reducible refine (D12.issueD _ _ _ hc (Nat.le_refl _)).mono ?_); rintro e w1 ⟨x, a, t, A, c, s, rfl, hx, ⟨a0, a1⟩, ⟨t0, t1⟩, o_m, n_m, bw1⟩
  have HB := bw1
  have zw1 := bw1.size
  have i_m := Fx.made_in o_m
  have HX := Lib.hid hx.1
  have hxl : x.Open.length ≤ 19 := hx.2
  clear hx hc
  cases hk : issOk x a t with
  | false =>
    obtain ⟨e1, e2⟩ := issX_f hk
    have KI := Lib.hid (fun (wx : World) (h : Shs wx wx.heap.size (ChallengesD x.Open) (.slice A x.Open.length c)) => show Calls Try.prog 13 #[.agg #[.int .i64 x.Seed, .int .i64 x.Next, .slice A x.Open.length c], .int .i64 a, .int .i64 t] wx (MadeLx x.dcs (fun vs => .tuple #[.agg vs.toArray, .agg #[.int .i64 0, .int .i64 0, .int .i64 0], .bool false]) wx) from by have h9 := C12i.implIssue wx x a t _ (mkS h) (by omega); rw [e1, e2, hk] at h9; exact h9)
    have KS := Lib.hid (fun (wx : World) (h : Shs wx wx.heap.size (ChallengesD x.Open) (.slice A x.Open.length c)) => show Calls Try.prog 14 #[.agg #[.int .i64 x.Seed, .int .i64 x.Next, .slice A x.Open.length c], .int .i64 a, .int .i64 t] wx (MadeLx x.dcs (fun vs => .tuple #[.agg vs.toArray, .agg #[.int .i64 0, .int .i64 0, .int .i64 0], .bool false]) wx) from by have h9 := specIssue wx x a t _ (ChallengeBook.mkR (shs_rds _ _ h)) (by omega) (by omega) (by omega) (by omega) (by omega); rw [e1, e2, hk] at h9; exact h9)
    have KQ := Lib.hid (fun (wx : World) (A_g : Option Addr) (c_g : Nat) (h : Shs wx wx.heap.size (ChallengesD x.Open) (.slice A x.Open.length c)) (hg : Shs wx wx.heap.size (ChallengesD x.Open) (.slice A_g x.Open.length c_g)) => show Calls Try.prog 15 #[.agg #[.int .i64 x.Seed, .int .i64 x.Next, .slice A_g x.Open.length c_g], .agg #[.int .i64 x.Seed, .int .i64 x.Next, .slice A x.Open.length c]] wx (Gives (.bool true) wx) from by have h9 := C12i.implEqBk wx x x _ _ (mkS hg) (mkS h) (by omega) (by omega); rw [eqBk_self] at h9; exact h9)
    clear e1 e2 hk
    obtain ⟨w2, hw2⟩ : ∃ ww, ww = w1.alloc (.cells #[.int .i64 x.Seed, .int .i64 x.Next, .slice A x.Open.length c] 26) := ⟨_, rfl⟩
    have o_b := var_owns w1 26 3 [.int .i64 x.Seed, .int .i64 x.Next, .slice A x.Open.length c] rfl
    have bw2 : Below w1.heap.size w1 w2 := hw2 ▸ (Below.refl _ _).alloc (Nat.le_refl _) _
    rw [← hw2] at o_b
    have sw2 : w2.heap.size = w1.heap.size + 1 := by rw [hw2]; simp
    have zw2 : w1.heap.size < w2.heap.size := by rw [hw2]; simp
    replace o_m := owns_below o_m bw2
    replace HB := HB.trans (bw2.mono HB.size)
    go_wp2_with fail
    rw [← hw2]
    clear hw2 sw2
    (refine (KI.out _ (owns_shs _ _ _ o_m)).mono ?_); rintro e w3 ⟨v_g, s_g, rfl, o_g0, n_g, bw3⟩
    replace o_b := owns_below o_b bw3
    replace o_m := owns_below o_m bw3
    replace HB := HB.trans (bw3.mono HB.size)
    have zw3 := bw3.size
    obtain ⟨A_g, c_g, b_g, rfl, o_g, -⟩ := ChallengeBook.owns o_g0
    clear o_g0
    have i_g := Fx.made_in o_g
    obtain ⟨c_b0, f_b0, c_b1, f_b1, c_b2, f_b2, l_b⟩ := Vn.v3 o_b
    obtain ⟨w4, hw4⟩ : ∃ ww, ww = w3.alloc (.cells #[.int .i64 x.Seed, .int .i64 x.Next, .slice A_g x.Open.length c_g] 26) := ⟨_, rfl⟩
    have o_x := var_owns w3 26 3 [.int .i64 x.Seed, .int .i64 x.Next, .slice A_g x.Open.length c_g] rfl
    have bw4 : Below w3.heap.size w3 w4 := hw4 ▸ (Below.refl _ _).alloc (Nat.le_refl _) _
    rw [← hw4] at o_x
    have sw4 : w4.heap.size = w3.heap.size + 1 := by rw [hw4]; simp
    have zw4 : w3.heap.size < w4.heap.size := by rw [hw4]; simp
    replace o_b := owns_below o_b bw4
    replace o_m := owns_below o_m bw4
    replace o_g := owns_below o_g bw4
    replace HB := HB.trans (bw4.mono HB.size)
    obtain ⟨w5, hw5⟩ : ∃ ww, ww = w4.alloc (.cells #[.int .i64 0, .int .i64 0, .int .i64 0] 30) := ⟨_, rfl⟩
    have o_c := var_owns w4 30 3 [.int .i64 0, .int .i64 0, .int .i64 0] rfl
    have bw5 : Below w4.heap.size w4 w5 := hw5 ▸ (Below.refl _ _).alloc (Nat.le_refl _) _
    rw [← hw5] at o_c
    rw [sw4] at o_c
    have sw5 : w5.heap.size = w3.heap.size + 1 + 1 := by rw [hw5]; simp [sw4]
    have zw5 : w4.heap.size < w5.heap.size := by rw [hw5]; simp
    replace o_b := owns_below o_b bw5
    replace o_x := owns_below o_x bw5
    replace o_m := owns_below o_m bw5
    replace o_g := owns_below o_g bw5
    replace HB := HB.trans (bw5.mono HB.size)
    go_wp2_with fail
    rw [← hw4, ← hw5]
    clear hw4 hw5 sw4 sw5
    (refine (KS.out _ (owns_shs _ _ _ o_m)).mono ?_); rintro e w6 ⟨v_u, s_u, rfl, o_u0, n_u, bw6⟩
    clear c_b0 f_b0 c_b1 f_b1 c_b2 f_b2 l_b
    replace o_b := owns_below o_b bw6
    replace o_x := owns_below o_x bw6
    replace o_c := owns_below o_c bw6
    replace o_m := owns_below o_m bw6
    replace o_g := owns_below o_g bw6
    replace HB := HB.trans (bw6.mono HB.size)
    have zw6 := bw6.size
    obtain ⟨A_u, c_u, b_u, rfl, o_u, -⟩ := ChallengeBook.owns o_u0
    clear o_u0
    clear o_u n_u
    obtain ⟨c_b0, f_b0, c_b1, f_b1, c_b2, f_b2, l_b⟩ := Vn.v3 o_b
    obtain ⟨c_x0, f_x0, c_x1, f_x1, c_x2, f_x2, l_x⟩ := Vn.v3 o_x
    obtain ⟨c_c0, f_c0, c_c1, f_c1, c_c2, f_c2, l_c⟩ := Vn.v3 o_c
    obtain ⟨w7, hw7⟩ : ∃ ww, ww = w6.alloc (.cells #[.int .i64 x.Seed, .int .i64 x.Next, .slice A_u x.Open.length c_u] 26) := ⟨_, rfl⟩
    have o_u := var_owns w6 26 3 [.int .i64 x.Seed, .int .i64 x.Next, .slice A_u x.Open.length c_u] rfl
    have bw7 : Below w6.heap.size w6 w7 := hw7 ▸ (Below.refl _ _).alloc (Nat.le_refl _) _
    rw [← hw7] at o_u
    have sw7 : w7.heap.size = w6.heap.size + 1 := by rw [hw7]; simp
    have zw7 : w6.heap.size < w7.heap.size := by rw [hw7]; simp
    replace o_b := owns_below o_b bw7
    replace o_x := owns_below o_x bw7
    replace o_c := owns_below o_c bw7
    replace o_m := owns_below o_m bw7
    replace o_g := owns_below o_g bw7
    replace HB := HB.trans (bw7.mono HB.size)
    obtain ⟨w8, hw8⟩ : ∃ ww, ww = w7.alloc (.cells #[.int .i64 0, .int .i64 0, .int .i64 0] 30) := ⟨_, rfl⟩
    have o_v := var_owns w7 30 3 [.int .i64 0, .int .i64 0, .int .i64 0] rfl
    have bw8 : Below w7.heap.size w7 w8 := hw8 ▸ (Below.refl _ _).alloc (Nat.le_refl _) _
    rw [← hw8] at o_v
    rw [sw7] at o_v
    have sw8 : w8.heap.size = w6.heap.size + 1 + 1 := by rw [hw8]; simp [sw7]
    have zw8 : w7.heap.size < w8.heap.size := by rw [hw8]; simp
    replace o_b := owns_below o_b bw8
    replace o_x := owns_below o_x bw8
    replace o_c := owns_below o_c bw8
    replace o_u := owns_below o_u bw8
    replace o_m := owns_below o_m bw8
    replace o_g := owns_below o_g bw8
    replace HB := HB.trans (bw8.mono HB.size)
    go_wp2_with fail
    rw [← hw7, ← hw8]
    clear hw7 hw8 sw7 sw8
    (refine (KQ.out _ _ _ (owns_shs _ _ _ o_m) (owns_shs _ _ _ o_g)).mono ?_); rintro e w9 ⟨rfl, bw9⟩
    clear c_b0 f_b0 c_b1 f_b1 c_b2 f_b2 l_b c_x0 f_x0 c_x1 f_x1 c_x2 f_x2 l_x c_c0 f_c0 c_c1 f_c1 c_c2 f_c2 l_c
    replace o_b := owns_below o_b bw9
    replace o_x := owns_below o_x bw9
    replace o_c := owns_below o_c bw9
    replace o_u := owns_below o_u bw9
    replace o_v := owns_below o_v bw9
    replace o_m := owns_below o_m bw9
    replace o_g := owns_below o_g bw9
    replace HB := HB.trans (bw9.mono HB.size)
    have zw9 := bw9.size
    obtain ⟨c_b0, f_b0, c_b1, f_b1, c_b2, f_b2, l_b⟩ := Vn.v3 o_b
    obtain ⟨c_x0, f_x0, c_x1, f_x1, c_x2, f_x2, l_x⟩ := Vn.v3 o_x
    obtain ⟨c_c0, f_c0, c_c1, f_c1, c_c2, f_c2, l_c⟩ := Vn.v3 o_c
    obtain ⟨c_u0, f_u0, c_u1, f_u1, c_u2, f_u2, l_u⟩ := Vn.v3 o_u
    obtain ⟨c_v0, f_v0, c_v1, f_v1, c_v2, f_v2, l_v⟩ := Vn.v3 o_v
    go_wp2
    go_ret
    exact ⟨rfl, HB⟩
  | true =>
    have J := issued hk
    obtain ⟨X, hX⟩ : ∃ X, X = (⟨x.Seed, x.Next + 1, x.Open.drop (x.Open.length - 15) ++ [⟨x.Next, a, t + 5⟩]⟩ : Fx.ChallengeBook) := ⟨_, rfl⟩
    obtain ⟨Y, hY⟩ : ∃ Y, Y = (⟨x.Seed, x.Next + 1, x.Open.drop (x.Open.length - 15)⟩ : Fx.ChallengeBook) := ⟨_, rfl⟩
    rw [← hX, ← hY] at J
    have hyl : Y.Open.length ≤ 15 := by rw [hY]; simp; omega
    clear hX hY
    obtain ⟨hXO, hYO⟩ := J.ok HX.out
    have hXl := J.len
    have nx := J.nxt
    have ac := J.acc
    have tn := J.now
    have lE : (expX X (t + 6)).Open.length ≤ 16 := by unfold expX; split; exact Nat.le_trans (List.length_filter_le _ _) J.len.1; exact J.len.1
    obtain ⟨Z, hZ⟩ : ∃ Z, Z = expX X (t + 6) := ⟨_, rfl⟩
    have eg := J.gone
    rw [← hZ] at lE eg
    obtain ⟨V, hV⟩ : ∃ V, V = cval x x.Next := ⟨_, rfl⟩
    have ev := J.val
    rw [← hV] at ev
    have KI := Lib.hid (fun (wx : World) (h : Shs wx wx.heap.size (ChallengesD x.Open) (.slice A x.Open.length c)) => show Calls Try.prog 13 #[.agg #[.int .i64 x.Seed, .int .i64 x.Next, .slice A x.Open.length c], .int .i64 a, .int .i64 t] wx (MadeLx X.dcs (fun vs => .tuple #[.agg vs.toArray, .agg #[.int .i64 x.Next, .int .i64 a, .int .i64 (t + 5)], .bool true]) wx) from by have h9 := C12i.implIssue wx x a t _ (mkS h) (by omega); rw [J.iss, J.cha, hk] at h9; exact h9)
    have KS := Lib.hid (fun (wx : World) (h : Shs wx wx.heap.size (ChallengesD x.Open) (.slice A x.Open.length c)) => show Calls Try.prog 14 #[.agg #[.int .i64 x.Seed, .int .i64 x.Next, .slice A x.Open.length c], .int .i64 a, .int .i64 t] wx (MadeLx X.dcs (fun vs => .tuple #[.agg vs.toArray, .agg #[.int .i64 x.Next, .int .i64 a, .int .i64 (t + 5)], .bool true]) wx) from by have h9 := specIssue wx x a t _ (ChallengeBook.mkR (shs_rds _ _ h)) (by omega) (by omega) (by omega) (by omega) (by omega); rw [J.iss, J.cha, hk] at h9; exact h9)
    have KT1 := Lib.hid (fun (wx : World) (A_g : Option Addr) (c_g : Nat) (hg : Shs wx wx.heap.size (ChallengesD X.Open) (.slice A_g X.Open.length c_g)) => show Calls Try.prog 16 #[.agg #[.int .i64 X.Seed, .int .i64 X.Next, .slice A_g X.Open.length c_g], .int .i64 x.Next, .int .i64 a, .int .i64 (t + 5)] wx (MadeLx Y.dcs (fun vs => .tuple #[.agg vs.toArray, .bool true]) wx) from by have h9 := C12i.implTake wx X x.Next a (t + 5) _ (mkS hg) (by omega) (by omega) (by omega); rw [J.tk, J.fine] at h9; exact h9)
    have KT2 := Lib.hid (fun (wx : World) (A_y : Option Addr) (c_y : Nat) (hy : Shs wx wx.heap.size (ChallengesD Y.Open) (.slice A_y Y.Open.length c_y)) => show Calls Try.prog 16 #[.agg #[.int .i64 Y.Seed, .int .i64 Y.Next, .slice A_y Y.Open.length c_y], .int .i64 x.Next, .int .i64 a, .int .i64 t] wx (MadeLx (takeX Y x.Next).dcs (fun vs => .tuple #[.agg vs.toArray, .bool false]) wx) from by have h9 := C12i.implTake wx Y x.Next a t _ (mkS hy) (by omega) (by omega) (by omega); rw [J.twice] at h9; exact h9)
    have KT3 := Lib.hid (fun (wx : World) (A_g : Option Addr) (c_g : Nat) (hg : Shs wx wx.heap.size (ChallengesD X.Open) (.slice A_g X.Open.length c_g)) => show Calls Try.prog 16 #[.agg #[.int .i64 X.Seed, .int .i64 X.Next, .slice A_g X.Open.length c_g], .int .i64 x.Next, .int .i64 a, .int .i64 (t + 5 + 1)] wx (MadeLx Y.dcs (fun vs => .tuple #[.agg vs.toArray, .bool false]) wx) from by have h9 := C12i.implTake wx X x.Next a (t + 5 + 1) _ (mkS hg) (by omega) (by omega) (by omega); rw [show t + 5 + 1 = t + 6 by omega, J.tk, J.late] at h9; rw [show t + 5 + 1 = t + 6 by omega]; exact h9)
    have KT4 := Lib.hid (fun (wx : World) (A_g : Option Addr) (c_g : Nat) (hg : Shs wx wx.heap.size (ChallengesD X.Open) (.slice A_g X.Open.length c_g)) => show Calls Try.prog 16 #[.agg #[.int .i64 X.Seed, .int .i64 X.Next, .slice A_g X.Open.length c_g], .int .i64 x.Next, .int .i64 (a + 1), .int .i64 t] wx (MadeLx Y.dcs (fun vs => .tuple #[.agg vs.toArray, .bool false]) wx) from by have h9 := C12i.implTake wx X x.Next (a + 1) t _ (mkS hg) (by omega) (by omega) (by omega); rw [J.tk, J.other] at h9; exact h9)
    have KE := Lib.hid (fun (wx : World) (A_g : Option Addr) (c_g : Nat) (hg : Shs wx wx.heap.size (ChallengesD X.Open) (.slice A_g X.Open.length c_g)) => show Calls Try.prog 17 #[.agg #[.int .i64 X.Seed, .int .i64 X.Next, .slice A_g X.Open.length c_g], .int .i64 (t + 5 + 1)] wx (Bx.MadeL Z.dcs wx) from by have h9 := C12i.implExpire wx X (t + 5 + 1) _ (mkS hg) (by omega); rw [show t + 5 + 1 = t + 6 by omega, ← hZ] at h9; rw [show t + 5 + 1 = t + 6 by omega]; exact h9)
    have KF1 := Lib.hid (fun (wx : World) (A_g : Option Addr) (c_g : Nat) (hg : Shs wx wx.heap.size (ChallengesD X.Open) (.slice A_g X.Open.length c_g)) => show Calls Try.prog 18 #[.agg #[.int .i64 X.Seed, .int .i64 X.Next, .slice A_g X.Open.length c_g], .int .i64 x.Next] wx (Gives (.int .i64 ((X.Open.length : Int) - 1)) wx) from by have h9 := C12i.implFindC wx X x.Next _ (mkS hg) (by omega); rw [J.at'] at h9; exact h9)
    have KF2 := Lib.hid (fun (wx : World) (A_e : Option Addr) (c_e : Nat) (he : Shs wx wx.heap.size (ChallengesD Z.Open) (.slice A_e Z.Open.length c_e)) => show Calls Try.prog 18 #[.agg #[.int .i64 Z.Seed, .int .i64 Z.Next, .slice A_e Z.Open.length c_e], .int .i64 x.Next] wx (Gives (.int .i64 (-1)) wx) from by have h9 := C12i.implFindC wx Z x.Next _ (mkS he) (by omega); rw [eg] at h9; exact h9)
    have KV1 := Lib.hid (fun (wx : World) (A_g : Option Addr) (c_g : Nat) (hg : Shs wx wx.heap.size (ChallengesD X.Open) (.slice A_g X.Open.length c_g)) => show Calls Try.prog 19 #[.agg #[.int .i64 X.Seed, .int .i64 X.Next, .slice A_g X.Open.length c_g]] wx (Gives (.bool true) wx) from by have h9 := C12i.implVbk wx X _ (mkS hg) (by omega); rw [J.vX] at h9; exact h9)
    have KV2 := Lib.hid (fun (wx : World) (A_y : Option Addr) (c_y : Nat) (hy : Shs wx wx.heap.size (ChallengesD Y.Open) (.slice A_y Y.Open.length c_y)) => show Calls Try.prog 19 #[.agg #[.int .i64 Y.Seed, .int .i64 Y.Next, .slice A_y Y.Open.length c_y]] wx (Gives (.bool true) wx) from by have h9 := C12i.implVbk wx Y _ (mkS hy) (by omega); rw [J.vY] at h9; exact h9)
    have KC1 := Lib.hid (fun (wx : World) (A_g : Option Addr) (c_g : Nat) (hg : Shs wx wx.heap.size (ChallengesD X.Open) (.slice A_g X.Open.length c_g)) => show Calls Try.prog 20 #[.agg #[.int .i64 X.Seed, .int .i64 X.Next, .slice A_g X.Open.length c_g], .int .i64 x.Next] wx (Gives (.int .i64 V) wx) from by have h9 := C12i.implCval wx X x.Next _ (mkS hg) hXO (by omega) (by omega); rw [ev] at h9; exact h9)
    have KC2 := Lib.hid (fun (wx : World) (h : Shs wx wx.heap.size (ChallengesD x.Open) (.slice A x.Open.length c)) => show Calls Try.prog 21 #[.agg #[.int .i64 x.Seed, .int .i64 x.Next, .slice A x.Open.length c], .int .i64 x.Next] wx (Gives (.int .i64 V) wx) from by have h9 := specCval wx x x.Next _ (ChallengeBook.mkR (shs_rds _ _ h)) HX.out (by omega) (by omega); rw [← hV] at h9; exact h9)
    have XN := Lib.hid J.nx
    clear J hV hZ ev eg hk hXO hYO
    obtain ⟨w2, hw2⟩ : ∃ ww, ww = w1.alloc (.cells #[.int .i64 x.Seed, .int .i64 x.Next, .slice A x.Open.length c] 26) := ⟨_, rfl⟩
    have o_b := var_owns w1 26 3 [.int .i64 x.Seed, .int .i64 x.Next, .slice A x.Open.length c] rfl
    have bw2 : Below w1.heap.size w1 w2 := hw2 ▸ (Below.refl _ _).alloc (Nat.le_refl _) _
    rw [← hw2] at o_b
    have sw2 : w2.heap.size = w1.heap.size + 1 := by rw [hw2]; simp
    have zw2 : w1.heap.size < w2.heap.size := by rw [hw2]; simp
    replace o_m := owns_below o_m bw2
    replace HB := HB.trans (bw2.mono HB.size)
    go_wp2_with fail
    rw [← hw2]
    clear hw2 sw2
    (refine (KI.out _ (owns_shs _ _ _ o_m)).mono ?_); rintro e w3 ⟨v_g, s_g, rfl, o_g0, n_g, bw3⟩
    replace o_b := owns_below o_b bw3
    replace o_m := owns_below o_m bw3
    replace HB := HB.trans (bw3.mono HB.size)
    have zw3 := bw3.size
    obtain ⟨A_g, c_g, b_g, rfl, o_g, -⟩ := ChallengeBook.owns o_g0
    clear o_g0
    have i_g := Fx.made_in o_g
    obtain ⟨c_b0, f_b0, c_b1, f_b1, c_b2, f_b2, l_b⟩ := Vn.v3 o_b
    obtain ⟨w4, hw4⟩ : ∃ ww, ww = w3.alloc (.cells #[.int .i64 X.Seed, .int .i64 X.Next, .slice A_g X.Open.length c_g] 26) := ⟨_, rfl⟩
    have o_x := var_owns w3 26 3 [.int .i64 X.Seed, .int .i64 X.Next, .slice A_g X.Open.length c_g] rfl
    have bw4 : Below w3.heap.size w3 w4 := hw4 ▸ (Below.refl _ _).alloc (Nat.le_refl _) _
    rw [← hw4] at o_x
    have sw4 : w4.heap.size = w3.heap.size + 1 := by rw [hw4]; simp
    have zw4 : w3.heap.size < w4.heap.size := by rw [hw4]; simp
    replace o_b := owns_below o_b bw4
    replace o_m := owns_below o_m bw4
    replace o_g := owns_below o_g bw4
    replace HB := HB.trans (bw4.mono HB.size)
    obtain ⟨w5, hw5⟩ : ∃ ww, ww = w4.alloc (.cells #[.int .i64 x.Next, .int .i64 a, .int .i64 (t + 5)] 30) := ⟨_, rfl⟩
    have o_c := var_owns w4 30 3 [.int .i64 x.Next, .int .i64 a, .int .i64 (t + 5)] rfl
    have bw5 : Below w4.heap.size w4 w5 := hw5 ▸ (Below.refl _ _).alloc (Nat.le_refl _) _
    rw [← hw5] at o_c
    rw [sw4] at o_c
    have sw5 : w5.heap.size = w3.heap.size + 1 + 1 := by rw [hw5]; simp [sw4]
    have zw5 : w4.heap.size < w5.heap.size := by rw [hw5]; simp
    replace o_b := owns_below o_b bw5
    replace o_x := owns_below o_x bw5
    replace o_m := owns_below o_m bw5
    replace o_g := owns_below o_g bw5
    replace HB := HB.trans (bw5.mono HB.size)
    go_wp2_with fail
    rw [← hw4, ← hw5]
    clear hw4 hw5 sw4 sw5
    (refine (KS.out _ (owns_shs _ _ _ o_m)).mono ?_); rintro e w6 ⟨v_u, s_u, rfl, o_u0, n_u, bw6⟩
    clear c_b0 f_b0 c_b1 f_b1 c_b2 f_b2 l_b
    replace o_b := owns_below o_b bw6
    replace o_x := owns_below o_x bw6
    replace o_c := owns_below o_c bw6
    replace o_m := owns_below o_m bw6
    replace o_g := owns_below o_g bw6
    replace HB := HB.trans (bw6.mono HB.size)
    have zw6 := bw6.size
    obtain ⟨A_u, c_u, b_u, rfl, o_u, -⟩ := ChallengeBook.owns o_u0
    clear o_u0
    clear o_u n_u
    obtain ⟨c_b0, f_b0, c_b1, f_b1, c_b2, f_b2, l_b⟩ := Vn.v3 o_b
    obtain ⟨c_x0, f_x0, c_x1, f_x1, c_x2, f_x2, l_x⟩ := Vn.v3 o_x
    obtain ⟨c_c0, f_c0, c_c1, f_c1, c_c2, f_c2, l_c⟩ := Vn.v3 o_c
    obtain ⟨w7, hw7⟩ : ∃ ww, ww = w6.alloc (.cells #[.int .i64 X.Seed, .int .i64 X.Next, .slice A_u X.Open.length c_u] 26) := ⟨_, rfl⟩
    have o_u := var_owns w6 26 3 [.int .i64 X.Seed, .int .i64 X.Next, .slice A_u X.Open.length c_u] rfl
    have bw7 : Below w6.heap.size w6 w7 := hw7 ▸ (Below.refl _ _).alloc (Nat.le_refl _) _
    rw [← hw7] at o_u
    have sw7 : w7.heap.size = w6.heap.size + 1 := by rw [hw7]; simp
    have zw7 : w6.heap.size < w7.heap.size := by rw [hw7]; simp
    replace o_b := owns_below o_b bw7
    replace o_x := owns_below o_x bw7
    replace o_c := owns_below o_c bw7
    replace o_m := owns_below o_m bw7
    replace o_g := owns_below o_g bw7
    replace HB := HB.trans (bw7.mono HB.size)
    obtain ⟨w8, hw8⟩ : ∃ ww, ww = w7.alloc (.cells #[.int .i64 x.Next, .int .i64 a, .int .i64 (t + 5)] 30) := ⟨_, rfl⟩
    have o_v := var_owns w7 30 3 [.int .i64 x.Next, .int .i64 a, .int .i64 (t + 5)] rfl
    have bw8 : Below w7.heap.size w7 w8 := hw8 ▸ (Below.refl _ _).alloc (Nat.le_refl _) _
    rw [← hw8] at o_v
    rw [sw7] at o_v
    have sw8 : w8.heap.size = w6.heap.size + 1 + 1 := by rw [hw8]; simp [sw7]
    have zw8 : w7.heap.size < w8.heap.size := by rw [hw8]; simp
    replace o_b := owns_below o_b bw8
    replace o_x := owns_below o_x bw8
    replace o_c := owns_below o_c bw8
    replace o_u := owns_below o_u bw8
    replace o_m := owns_below o_m bw8
    replace o_g := owns_below o_g bw8
    replace HB := HB.trans (bw8.mono HB.size)
    go_wp2_with fail
    rw [← hw7, ← hw8]
    clear hw7 hw8 sw7 sw8
    (refine (KT1.out _ _ _ (owns_shs _ _ _ o_g)).mono ?_); rintro e w9 ⟨v_y, s_y, rfl, o_y0, n_y, bw9⟩
    clear c_b0 f_b0 c_b1 f_b1 c_b2 f_b2 l_b c_x0 f_x0 c_x1 f_x1 c_x2 f_x2 l_x c_c0 f_c0 c_c1 f_c1 c_c2 f_c2 l_c
    replace o_b := owns_below o_b bw9
    replace o_x := owns_below o_x bw9
    replace o_c := owns_below o_c bw9
    replace o_u := owns_below o_u bw9
    replace o_v := owns_below o_v bw9
    replace o_m := owns_below o_m bw9
    replace o_g := owns_below o_g bw9
    replace HB := HB.trans (bw9.mono HB.size)
    have zw9 := bw9.size
    obtain ⟨A_y, c_y, b_y, rfl, o_y, -⟩ := ChallengeBook.owns o_y0
    clear o_y0
    have i_y := Fx.made_in o_y
    clear o_u o_v
    obtain ⟨c_b0, f_b0, c_b1, f_b1, c_b2, f_b2, l_b⟩ := Vn.v3 o_b
    obtain ⟨c_x0, f_x0, c_x1, f_x1, c_x2, f_x2, l_x⟩ := Vn.v3 o_x
    obtain ⟨c_c0, f_c0, c_c1, f_c1, c_c2, f_c2, l_c⟩ := Vn.v3 o_c
    obtain ⟨w10, hw10⟩ : ∃ ww, ww = w9.alloc (.cells #[.int .i64 Y.Seed, .int .i64 Y.Next, .slice A_y Y.Open.length c_y] 26) := ⟨_, rfl⟩
    have o_yv := var_owns w9 26 3 [.int .i64 Y.Seed, .int .i64 Y.Next, .slice A_y Y.Open.length c_y] rfl
    have bw10 : Below w9.heap.size w9 w10 := hw10 ▸ (Below.refl _ _).alloc (Nat.le_refl _) _
    rw [← hw10] at o_yv
    have sw10 : w10.heap.size = w9.heap.size + 1 := by rw [hw10]; simp
    have zw10 : w9.heap.size < w10.heap.size := by rw [hw10]; simp
    replace o_b := owns_below o_b bw10
    replace o_x := owns_below o_x bw10
    replace o_c := owns_below o_c bw10
    replace o_m := owns_below o_m bw10
    replace o_g := owns_below o_g bw10
    replace o_y := owns_below o_y bw10
    replace HB := HB.trans (bw10.mono HB.size)
    go_wp2_with fail
    rw [← hw10]
    clear hw10 sw10
    (refine (KT2.out _ _ _ (owns_shs _ _ _ o_y)).mono ?_); rintro e w11 ⟨v_z, s_z, rfl, o_z0, n_z, bw11⟩
    clear c_b0 f_b0 c_b1 f_b1 c_b2 f_b2 l_b c_x0 f_x0 c_x1 f_x1 c_x2 f_x2 l_x c_c0 f_c0 c_c1 f_c1 c_c2 f_c2 l_c
    replace o_b := owns_below o_b bw11
    replace o_x := owns_below o_x bw11
    replace o_c := owns_below o_c bw11
    replace o_yv := owns_below o_yv bw11
    replace o_m := owns_below o_m bw11
    replace o_g := owns_below o_g bw11
    replace o_y := owns_below o_y bw11
    replace HB := HB.trans (bw11.mono HB.size)
    have zw11 := bw11.size
    obtain ⟨A_z, c_z, b_z, rfl, o_z, -⟩ := ChallengeBook.owns o_z0
    clear o_z0
    clear o_z n_z
    obtain ⟨c_b0, f_b0, c_b1, f_b1, c_b2, f_b2, l_b⟩ := Vn.v3 o_b
    obtain ⟨c_x0, f_x0, c_x1, f_x1, c_x2, f_x2, l_x⟩ := Vn.v3 o_x
    obtain ⟨c_c0, f_c0, c_c1, f_c1, c_c2, f_c2, l_c⟩ := Vn.v3 o_c
    obtain ⟨c_yv0, f_yv0, c_yv1, f_yv1, c_yv2, f_yv2, l_yv⟩ := Vn.v3 o_yv
    obtain ⟨w12, hw12⟩ : ∃ ww, ww = w11.alloc (.cells #[.int .i64 (takeX Y x.Next).Seed, .int .i64 (takeX Y x.Next).Next, .slice A_z (takeX Y x.Next).Open.length c_z] 26) := ⟨_, rfl⟩
    have o_z := var_owns w11 26 3 [.int .i64 (takeX Y x.Next).Seed, .int .i64 (takeX Y x.Next).Next, .slice A_z (takeX Y x.Next).Open.length c_z] rfl
    have bw12 : Below w11.heap.size w11 w12 := hw12 ▸ (Below.refl _ _).alloc (Nat.le_refl _) _
    rw [← hw12] at o_z
    have sw12 : w12.heap.size = w11.heap.size + 1 := by rw [hw12]; simp
    have zw12 : w11.heap.size < w12.heap.size := by rw [hw12]; simp
    replace o_b := owns_below o_b bw12
    replace o_x := owns_below o_x bw12
    replace o_c := owns_below o_c bw12
    replace o_yv := owns_below o_yv bw12
    replace o_m := owns_below o_m bw12
    replace o_g := owns_below o_g bw12
    replace o_y := owns_below o_y bw12
    replace HB := HB.trans (bw12.mono HB.size)
    go_wp2_with fail
    rw [← hw12]
    clear hw12 sw12
    (refine (KT3.out _ _ _ (owns_shs _ _ _ o_g)).mono ?_); rintro e w13 ⟨v_qq1, s_qq1, rfl, o_qq10, n_qq1, bw13⟩
    clear c_b0 f_b0 c_b1 f_b1 c_b2 f_b2 l_b c_x0 f_x0 c_x1 f_x1 c_x2 f_x2 l_x c_c0 f_c0 c_c1 f_c1 c_c2 f_c2 l_c c_yv0 f_yv0 c_yv1 f_yv1 c_yv2 f_yv2 l_yv
    replace o_b := owns_below o_b bw13
    replace o_x := owns_below o_x bw13
    replace o_c := owns_below o_c bw13
    replace o_yv := owns_below o_yv bw13
    replace o_z := owns_below o_z bw13
    replace o_m := owns_below o_m bw13
    replace o_g := owns_below o_g bw13
    replace o_y := owns_below o_y bw13
    replace HB := HB.trans (bw13.mono HB.size)
    have zw13 := bw13.size
    obtain ⟨A_qq1, c_qq1, b_qq1, rfl, o_qq1, -⟩ := ChallengeBook.owns o_qq10
    clear o_qq10
    clear o_qq1 n_qq1
    obtain ⟨c_b0, f_b0, c_b1, f_b1, c_b2, f_b2, l_b⟩ := Vn.v3 o_b
    obtain ⟨c_x0, f_x0, c_x1, f_x1, c_x2, f_x2, l_x⟩ := Vn.v3 o_x
    obtain ⟨c_c0, f_c0, c_c1, f_c1, c_c2, f_c2, l_c⟩ := Vn.v3 o_c
    obtain ⟨c_yv0, f_yv0, c_yv1, f_yv1, c_yv2, f_yv2, l_yv⟩ := Vn.v3 o_yv
    obtain ⟨c_z0, f_z0, c_z1, f_z1, c_z2, f_z2, l_z⟩ := Vn.v3 o_z
    obtain ⟨w14, hw14⟩ : ∃ ww, ww = w13.alloc (.cells #[.int .i64 Y.Seed, .int .i64 Y.Next, .slice A_qq1 Y.Open.length c_qq1] 26) := ⟨_, rfl⟩
    have o_qq1 := var_owns w13 26 3 [.int .i64 Y.Seed, .int .i64 Y.Next, .slice A_qq1 Y.Open.length c_qq1] rfl
    have bw14 : Below w13.heap.size w13 w14 := hw14 ▸ (Below.refl _ _).alloc (Nat.le_refl _) _
    rw [← hw14] at o_qq1
    have sw14 : w14.heap.size = w13.heap.size + 1 := by rw [hw14]; simp
    have zw14 : w13.heap.size < w14.heap.size := by rw [hw14]; simp
    replace o_b := owns_below o_b bw14
    replace o_x := owns_below o_x bw14
    replace o_c := owns_below o_c bw14
    replace o_yv := owns_below o_yv bw14
    replace o_z := owns_below o_z bw14
    replace o_m := owns_below o_m bw14
    replace o_g := owns_below o_g bw14
    replace o_y := owns_below o_y bw14
    replace HB := HB.trans (bw14.mono HB.size)
    go_wp2_with fail
    rw [← hw14]
    clear hw14 sw14
    (refine (KT4.out _ _ _ (owns_shs _ _ _ o_g)).mono ?_); rintro e w15 ⟨v_qq2, s_qq2, rfl, o_qq20, n_qq2, bw15⟩
    clear c_b0 f_b0 c_b1 f_b1 c_b2 f_b2 l_b c_x0 f_x0 c_x1 f_x1 c_x2 f_x2 l_x c_c0 f_c0 c_c1 f_c1 c_c2 f_c2 l_c c_yv0 f_yv0 c_yv1 f_yv1 c_yv2 f_yv2 l_yv c_z0 f_z0 c_z1 f_z1 c_z2 f_z2 l_z
    replace o_b := owns_below o_b bw15
    replace o_x := owns_below o_x bw15
    replace o_c := owns_below o_c bw15
    replace o_yv := owns_below o_yv bw15
    replace o_z := owns_below o_z bw15
    replace o_qq1 := owns_below o_qq1 bw15
    replace o_m := owns_below o_m bw15
    replace o_g := owns_below o_g bw15
    replace o_y := owns_below o_y bw15
    replace HB := HB.trans (bw15.mono HB.size)
    have zw15 := bw15.size
    obtain ⟨A_qq2, c_qq2, b_qq2, rfl, o_qq2, -⟩ := ChallengeBook.owns o_qq20
    clear o_qq20
    clear o_qq2 n_qq2
    obtain ⟨c_b0, f_b0, c_b1, f_b1, c_b2, f_b2, l_b⟩ := Vn.v3 o_b
    obtain ⟨c_x0, f_x0, c_x1, f_x1, c_x2, f_x2, l_x⟩ := Vn.v3 o_x
    obtain ⟨c_c0, f_c0, c_c1, f_c1, c_c2, f_c2, l_c⟩ := Vn.v3 o_c
    obtain ⟨c_yv0, f_yv0, c_yv1, f_yv1, c_yv2, f_yv2, l_yv⟩ := Vn.v3 o_yv
    obtain ⟨c_z0, f_z0, c_z1, f_z1, c_z2, f_z2, l_z⟩ := Vn.v3 o_z
    obtain ⟨c_qq10, f_qq10, c_qq11, f_qq11, c_qq12, f_qq12, l_qq1⟩ := Vn.v3 o_qq1
    obtain ⟨w16, hw16⟩ : ∃ ww, ww = w15.alloc (.cells #[.int .i64 Y.Seed, .int .i64 Y.Next, .slice A_qq2 Y.Open.length c_qq2] 26) := ⟨_, rfl⟩
    have o_qq2 := var_owns w15 26 3 [.int .i64 Y.Seed, .int .i64 Y.Next, .slice A_qq2 Y.Open.length c_qq2] rfl
    have bw16 : Below w15.heap.size w15 w16 := hw16 ▸ (Below.refl _ _).alloc (Nat.le_refl _) _
    rw [← hw16] at o_qq2
    have sw16 : w16.heap.size = w15.heap.size + 1 := by rw [hw16]; simp
    have zw16 : w15.heap.size < w16.heap.size := by rw [hw16]; simp
    replace o_b := owns_below o_b bw16
    replace o_x := owns_below o_x bw16
    replace o_c := owns_below o_c bw16
    replace o_yv := owns_below o_yv bw16
    replace o_z := owns_below o_z bw16
    replace o_qq1 := owns_below o_qq1 bw16
    replace o_m := owns_below o_m bw16
    replace o_g := owns_below o_g bw16
    replace o_y := owns_below o_y bw16
    replace HB := HB.trans (bw16.mono HB.size)
    go_wp2_with fail
    rw [← hw16]
    clear hw16 sw16
    (refine (KE.out _ _ _ (owns_shs _ _ _ o_g)).mono ?_); rintro e w17 ⟨v_e, s_e, rfl, o_e0, n_e, bw17⟩
    clear c_b0 f_b0 c_b1 f_b1 c_b2 f_b2 l_b c_x0 f_x0 c_x1 f_x1 c_x2 f_x2 l_x c_c0 f_c0 c_c1 f_c1 c_c2 f_c2 l_c c_yv0 f_yv0 c_yv1 f_yv1 c_yv2 f_yv2 l_yv c_z0 f_z0 c_z1 f_z1 c_z2 f_z2 l_z c_qq10 f_qq10 c_qq11 f_qq11 c_qq12 f_qq12 l_qq1
    replace o_b := owns_below o_b bw17
    replace o_x := owns_below o_x bw17
    replace o_c := owns_below o_c bw17
    replace o_yv := owns_below o_yv bw17
    replace o_z := owns_below o_z bw17
    replace o_qq1 := owns_below o_qq1 bw17
    replace o_qq2 := owns_below o_qq2 bw17
    replace o_m := owns_below o_m bw17
    replace o_g := owns_below o_g bw17
    replace o_y := owns_below o_y bw17
    replace HB := HB.trans (bw17.mono HB.size)
    have zw17 := bw17.size
    obtain ⟨A_e, c_e, b_e, rfl, o_e, -⟩ := ChallengeBook.owns o_e0
    clear o_e0
    have i_e := Fx.made_in o_e
    clear o_z o_qq1 o_qq2
    obtain ⟨c_b0, f_b0, c_b1, f_b1, c_b2, f_b2, l_b⟩ := Vn.v3 o_b
    obtain ⟨c_x0, f_x0, c_x1, f_x1, c_x2, f_x2, l_x⟩ := Vn.v3 o_x
    obtain ⟨c_c0, f_c0, c_c1, f_c1, c_c2, f_c2, l_c⟩ := Vn.v3 o_c
    obtain ⟨c_yv0, f_yv0, c_yv1, f_yv1, c_yv2, f_yv2, l_yv⟩ := Vn.v3 o_yv
    obtain ⟨w18, hw18⟩ : ∃ ww, ww = w17.alloc (.cells #[.int .i64 Z.Seed, .int .i64 Z.Next, .slice A_e Z.Open.length c_e] 26) := ⟨_, rfl⟩
    have o_ev := var_owns w17 26 3 [.int .i64 Z.Seed, .int .i64 Z.Next, .slice A_e Z.Open.length c_e] rfl
    have bw18 : Below w17.heap.size w17 w18 := hw18 ▸ (Below.refl _ _).alloc (Nat.le_refl _) _
    rw [← hw18] at o_ev
    have sw18 : w18.heap.size = w17.heap.size + 1 := by rw [hw18]; simp
    have zw18 : w17.heap.size < w18.heap.size := by rw [hw18]; simp
    replace o_b := owns_below o_b bw18
    replace o_x := owns_below o_x bw18
    replace o_c := owns_below o_c bw18
    replace o_yv := owns_below o_yv bw18
    replace o_m := owns_below o_m bw18
    replace o_g := owns_below o_g bw18
    replace o_y := owns_below o_y bw18
    replace o_e := owns_below o_e bw18
    replace HB := HB.trans (bw18.mono HB.size)
    go_wp2_with fail
    rw [← hw18]
    clear hw18 sw18
    clear c_b0 f_b0 c_b1 f_b1 c_b2 f_b2 l_b c_x0 f_x0 c_x1 f_x1 c_x2 f_x2 l_x c_c0 f_c0 c_c1 f_c1 c_c2 f_c2 l_c c_yv0 f_yv0 c_yv1 f_yv1 c_yv2 f_yv2 l_yv
    have R_m := Lib.hid (show ∀ wx, Below w18.heap.size w18 wx → Shs wx wx.heap.size (ChallengesD x.Open) (.slice A x.Open.length c) from fun wx hb => shs_on (owns_shs _ _ _ o_m) hb)
    have R_g := Lib.hid (show ∀ wx, Below w18.heap.size w18 wx → Shs wx wx.heap.size (ChallengesD X.Open) (.slice A_g X.Open.length c_g) from fun wx hb => shs_on (owns_shs _ _ _ o_g) hb)
    have R_y := Lib.hid (show ∀ wx, Below w18.heap.size w18 wx → Shs wx wx.heap.size (ChallengesD Y.Open) (.slice A_y Y.Open.length c_y) from fun wx hb => shs_on (owns_shs _ _ _ o_y) hb)
    have R_e := Lib.hid (show ∀ wx, Below w18.heap.size w18 wx → Shs wx wx.heap.size (ChallengesD Z.Open) (.slice A_e Z.Open.length c_e) from fun wx hb => shs_on (owns_shs _ _ _ o_e) hb)
    have HF := Lib.hid (show ∀ wx, Below w18.heap.size w18 wx → wx.cell? ⟨w1.heap.size, 0, none⟩ = some (.int .i64 x.Seed) ∧ wx.cell? ⟨w1.heap.size, 1, none⟩ = some (.int .i64 x.Next) ∧ wx.cell? ⟨w1.heap.size, 2, none⟩ = some (.slice A x.Open.length c) ∧ wx.cell? ⟨w3.heap.size, 0, none⟩ = some (.int .i64 X.Seed) ∧ wx.cell? ⟨w3.heap.size, 1, none⟩ = some (.int .i64 X.Next) ∧ wx.cell? ⟨w3.heap.size, 2, none⟩ = some (.slice A_g X.Open.length c_g) ∧ wx.cell? ⟨(w3.heap.size + 1), 0, none⟩ = some (.int .i64 x.Next) ∧ wx.cell? ⟨(w3.heap.size + 1), 1, none⟩ = some (.int .i64 a) ∧ wx.cell? ⟨(w3.heap.size + 1), 2, none⟩ = some (.int .i64 (t + 5)) ∧ wx.cell? ⟨w9.heap.size, 0, none⟩ = some (.int .i64 Y.Seed) ∧ wx.cell? ⟨w9.heap.size, 1, none⟩ = some (.int .i64 Y.Next) ∧ wx.cell? ⟨w9.heap.size, 2, none⟩ = some (.slice A_y Y.Open.length c_y) ∧ wx.cell? ⟨w17.heap.size, 0, none⟩ = some (.int .i64 Z.Seed) ∧ wx.cell? ⟨w17.heap.size, 1, none⟩ = some (.int .i64 Z.Next) ∧ wx.cell? ⟨w17.heap.size, 2, none⟩ = some (.slice A_e Z.Open.length c_e) from fun wx hb => ⟨var_load (owns_below o_b hb) (by simp) 0 _ rfl, var_load (owns_below o_b hb) (by simp) 1 _ rfl, var_load (owns_below o_b hb) (by simp) 2 _ rfl, var_load (owns_below o_x hb) (by simp) 0 _ rfl, var_load (owns_below o_x hb) (by simp) 1 _ rfl, var_load (owns_below o_x hb) (by simp) 2 _ rfl, var_load (owns_below o_c hb) (by simp) 0 _ rfl, var_load (owns_below o_c hb) (by simp) 1 _ rfl, var_load (owns_below o_c hb) (by simp) 2 _ rfl, var_load (owns_below o_yv hb) (by simp) 0 _ rfl, var_load (owns_below o_yv hb) (by simp) 1 _ rfl, var_load (owns_below o_yv hb) (by simp) 2 _ rfl, var_load (owns_below o_ev hb) (by simp) 0 _ rfl, var_load (owns_below o_ev hb) (by simp) 1 _ rfl, var_load (owns_below o_ev hb) (by simp) 2 _ rfl⟩)
    have L_b := var_lt o_b
    have L_x := var_lt o_x
    have L_c := var_lt o_c
    have L_yv := var_lt o_yv
    have L_ev := var_lt o_ev
    have HBC := HB
    have BB : Below w18.heap.size w18 w18.drew := drewN_below w18 1 _
    replace L_b := Nat.lt_of_lt_of_le L_b BB.size
    replace L_x := Nat.lt_of_lt_of_le L_x BB.size
    replace L_c := Nat.lt_of_lt_of_le L_c BB.size
    replace L_yv := Nat.lt_of_lt_of_le L_yv BB.size
    replace L_ev := Nat.lt_of_lt_of_le L_ev BB.size
    clear o_b o_x o_c o_yv o_ev o_m i_m o_g i_g o_y i_y o_e i_e n_m n_g n_y n_e HB
    have hwr : IntKind.i64.wrap (x.Next + 1) = x.Next + 1 := IntWalk.i64_in _ (by omega)
    have hwl : IntKind.i64.wrap ((X.Open.length : Int) - 1) = (X.Open.length : Int) - 1 := IntWalk.i64_in _ (by omega)
    have hxn : (X.Next == x.Next + 1) = true := by have h := XN.out; simp [h]
    clear XN
    refine wp_region_held_drew (S := (fun wx => wx.cell? ⟨w1.heap.size, 0, none⟩ = some (.int .i64 x.Seed) ∧ wx.cell? ⟨w1.heap.size, 1, none⟩ = some (.int .i64 x.Next) ∧ wx.cell? ⟨w1.heap.size, 2, none⟩ = some (.slice A x.Open.length c) ∧ wx.cell? ⟨w3.heap.size, 0, none⟩ = some (.int .i64 X.Seed) ∧ wx.cell? ⟨w3.heap.size, 1, none⟩ = some (.int .i64 X.Next) ∧ wx.cell? ⟨w3.heap.size, 2, none⟩ = some (.slice A_g X.Open.length c_g) ∧ wx.cell? ⟨(w3.heap.size + 1), 0, none⟩ = some (.int .i64 x.Next) ∧ wx.cell? ⟨(w3.heap.size + 1), 1, none⟩ = some (.int .i64 a) ∧ wx.cell? ⟨(w3.heap.size + 1), 2, none⟩ = some (.int .i64 (t + 5)) ∧ wx.cell? ⟨w9.heap.size, 0, none⟩ = some (.int .i64 Y.Seed) ∧ wx.cell? ⟨w9.heap.size, 1, none⟩ = some (.int .i64 Y.Next) ∧ wx.cell? ⟨w9.heap.size, 2, none⟩ = some (.slice A_y Y.Open.length c_y) ∧ wx.cell? ⟨w17.heap.size, 0, none⟩ = some (.int .i64 Z.Seed) ∧ wx.cell? ⟨w17.heap.size, 1, none⟩ = some (.int .i64 Z.Next) ∧ wx.cell? ⟨w17.heap.size, 2, none⟩ = some (.slice A_e Z.Open.length c_e))) (by kernel_rfl) ?_ (fun hHeld => ?_)
    · exact HF.out _ BB
    refine wpAnyH_take (i := 0) (oi := ?oiz_0) (v := ?vz_0) ?hiz_0 (by kernel_rfl) (by kernel_rfl) (by kernel_rfl) ?hQz_0 (Or.inl ⟨?hwz_0, ?hyz_0⟩) (by assumption) ?_
    case hiz_0 => simp only [List.getElem?_toArray, List.getElem?_cons_zero]; rfl
    case hQz_0 => exact fun _ _ _ h => h
    case hwz_0 => rfl
    case hyz_0 => intro w hSw; (try dsimp only at hSw); (first | (go_simp; done) | (go_simp; with_reducible rfl))
    try simp only [Act.put, List.setIfInBounds_toArray, List.set_cons_zero, List.set_cons_succ]
    refine wpAnyH_take (i := 1) (oi := ?oiz_1) (v := ?vz_1) ?hiz_1 (by kernel_rfl) (by kernel_rfl) (by kernel_rfl) ?hQz_1 (Or.inl ⟨?hwz_1, ?hyz_1⟩) (by assumption) ?_
    case hiz_1 => simp only [List.getElem?_toArray, List.getElem?_cons_succ, List.getElem?_cons_zero]; rfl
    case hQz_1 => exact fun _ _ _ h => h
    case hwz_1 => rfl
    case hyz_1 => intro w hSw; (try dsimp only at hSw); (first | (go_simp; done) | (go_simp; with_reducible rfl))
    try simp only [Act.put, List.setIfInBounds_toArray, List.set_cons_zero, List.set_cons_succ]
    refine wpAnyH_take (i := 2) (oi := ?oiz_2) (v := ?vz_2) ?hiz_2 (by kernel_rfl) (by kernel_rfl) (by kernel_rfl) ?hQz_2 (Or.inl ⟨?hwz_2, ?hyz_2⟩) (by assumption) ?_
    case hiz_2 => simp only [List.getElem?_toArray, List.getElem?_cons_succ, List.getElem?_cons_zero]; rfl
    case hQz_2 => exact fun _ _ _ h => h
    case hwz_2 => rfl
    case hyz_2 => intro w hSw; (try dsimp only at hSw); (first | (go_simp; done) | (go_simp; with_reducible rfl))
    try simp only [Act.put, List.setIfInBounds_toArray, List.set_cons_zero, List.set_cons_succ]
    refine wpAnyH_take (i := 3) (oi := ?oiz_3) (v := ?vz_3) ?hiz_3 (by kernel_rfl) (by kernel_rfl) (by kernel_rfl) ?hQz_3 (Or.inl ⟨?hwz_3, ?hyz_3⟩) (by assumption) ?_
    case hiz_3 => simp only [List.getElem?_toArray, List.getElem?_cons_succ, List.getElem?_cons_zero]; rfl
    case hQz_3 => exact fun _ _ _ h => h
    case hwz_3 => rfl
    case hyz_3 => intro w hSw; (try dsimp only at hSw); (first | (go_simp; done) | (go_simp; with_reducible rfl))
    try simp only [Act.put, List.setIfInBounds_toArray, List.set_cons_zero, List.set_cons_succ]
    refine wpAnyH_take (i := 4) (oi := ?oiz_4) (v := ?vz_4) ?hiz_4 (by kernel_rfl) (by kernel_rfl) (by kernel_rfl) ?hQz_4 (Or.inl ⟨?hwz_4, ?hyz_4⟩) (by assumption) ?_
    case hiz_4 => simp only [List.getElem?_toArray, List.getElem?_cons_succ, List.getElem?_cons_zero]; rfl
    case hQz_4 => exact fun _ _ _ h => h
    case hwz_4 => rfl
    case hyz_4 => intro w hSw; (try dsimp only at hSw); (first | (go_simp; done) | (go_simp; with_reducible rfl))
    try simp only [Act.put, List.setIfInBounds_toArray, List.set_cons_zero, List.set_cons_succ]
    refine wpAnyH_take (i := 5) (oi := ?oiz_5) (v := ?vz_5) ?hiz_5 (by kernel_rfl) (by kernel_rfl) (by kernel_rfl) ?hQz_5 (Or.inl ⟨?hwz_5, ?hyz_5⟩) (by assumption) ?_
    case hiz_5 => simp only [List.getElem?_toArray, List.getElem?_cons_succ, List.getElem?_cons_zero]; rfl
    case hQz_5 => exact fun _ _ _ h => h
    case hwz_5 => rfl
    case hyz_5 => intro w hSw; (try dsimp only at hSw); (first | (go_simp; done) | (go_simp; with_reducible rfl))
    try simp only [Act.put, List.setIfInBounds_toArray, List.set_cons_zero, List.set_cons_succ]
    refine wpAnyH_take (i := 6) (oi := ?oiz_6) (v := ?vz_6) ?hiz_6 (by kernel_rfl) (by kernel_rfl) (by kernel_rfl) ?hQz_6 (Or.inl ⟨?hwz_6, ?hyz_6⟩) (by assumption) ?_
    case hiz_6 => simp only [List.getElem?_toArray, List.getElem?_cons_succ, List.getElem?_cons_zero]; rfl
    case hQz_6 => exact fun _ _ _ h => h
    case hwz_6 => rfl
    case hyz_6 => intro w hSw; (try dsimp only at hSw); (first | (go_simp; done) | (go_simp; with_reducible rfl))
    try simp only [Act.put, List.setIfInBounds_toArray, List.set_cons_zero, List.set_cons_succ]
    refine wpAnyH_take (i := 7) (oi := ?oiz_7) (v := ?vz_7) ?hiz_7 (by kernel_rfl) (by kernel_rfl) (by kernel_rfl) ?hQz_7 (Or.inl ⟨?hwz_7, ?hyz_7⟩) (by assumption) ?_
    case hiz_7 => simp only [List.getElem?_toArray, List.getElem?_cons_succ, List.getElem?_cons_zero]; rfl
    case hQz_7 => exact fun _ _ _ h => h
    case hwz_7 => rfl
    case hyz_7 => intro w hSw; (try dsimp only at hSw); (first | (go_simp; done) | (go_simp; with_reducible rfl))
    try simp only [Act.put, List.setIfInBounds_toArray, List.set_cons_zero, List.set_cons_succ]
    refine wpAnyH_take (i := 8) (oi := ?oiz_8) (v := ?vz_8) ?hiz_8 (by kernel_rfl) (by kernel_rfl) (by kernel_rfl) ?hQz_8 (Or.inl ⟨?hwz_8, ?hyz_8⟩) (by assumption) ?_
    case hiz_8 => simp only [List.getElem?_toArray, List.getElem?_cons_succ, List.getElem?_cons_zero]; rfl
    case hQz_8 => exact fun _ _ _ h => h
    case hwz_8 => rfl
    case hyz_8 => intro w hSw; (try dsimp only at hSw); (first | (go_simp; done) | (go_simp; with_reducible rfl))
    try simp only [Act.put, List.setIfInBounds_toArray, List.set_cons_zero, List.set_cons_succ]
    refine wpAnyH_take (i := 9) (oi := ?oiz_9) (v := ?vz_9) ?hiz_9 (by kernel_rfl) (by kernel_rfl) (by kernel_rfl) ?hQz_9 (Or.inl ⟨?hwz_9, ?hyz_9⟩) (by assumption) ?_
    case hiz_9 => simp only [List.getElem?_toArray, List.getElem?_cons_succ, List.getElem?_cons_zero]; rfl
    case hQz_9 => exact fun _ _ _ h => h
    case hwz_9 => rfl
    case hyz_9 => intro w hSw; (try dsimp only at hSw); (first | (go_simp; done) | (go_simp; with_reducible rfl))
    try simp only [Act.put, List.setIfInBounds_toArray, List.set_cons_zero, List.set_cons_succ]
    refine wpAnyH_take (i := 10) (oi := ?oiz_10) (v := ?vz_10) ?hiz_10 (by kernel_rfl) (by kernel_rfl) (by kernel_rfl) ?hQz_10 (Or.inl ⟨?hwz_10, ?hyz_10⟩) (by assumption) ?_
    case hiz_10 => simp only [List.getElem?_toArray, List.getElem?_cons_succ, List.getElem?_cons_zero]; rfl
    case hQz_10 => exact fun _ _ _ h => h
    case hwz_10 => rfl
    case hyz_10 => intro w hSw; (try dsimp only at hSw); (first | (go_simp; done) | (go_simp; with_reducible rfl))
    try simp only [Act.put, List.setIfInBounds_toArray, List.set_cons_zero, List.set_cons_succ]
    refine wpAnyH_take (i := 11) (oi := ?oiz_11) (v := ?vz_11) ?hiz_11 (by kernel_rfl) (by kernel_rfl) (by kernel_rfl) ?hQz_11 (Or.inl ⟨?hwz_11, ?hyz_11⟩) (by assumption) ?_
    case hiz_11 => simp only [List.getElem?_toArray, List.getElem?_cons_succ, List.getElem?_cons_zero]; rfl
    case hQz_11 => exact fun _ _ _ h => h
    case hwz_11 => rfl
    case hyz_11 => intro w hSw; (try dsimp only at hSw); (first | (go_simp; done) | (go_simp; with_reducible rfl))
    try simp only [Act.put, List.setIfInBounds_toArray, List.set_cons_zero, List.set_cons_succ]
    refine wpAnyH_take (i := 12) (oi := ?oiz_12) (v := ?vz_12) ?hiz_12 (by kernel_rfl) (by kernel_rfl) (by kernel_rfl) ?hQz_12 (Or.inl ⟨?hwz_12, ?hyz_12⟩) (by assumption) ?_
    case hiz_12 => simp only [List.getElem?_toArray, List.getElem?_cons_succ, List.getElem?_cons_zero]; rfl
    case hQz_12 => exact fun _ _ _ h => h
    case hwz_12 => rfl
    case hyz_12 => intro w hSw; (try dsimp only at hSw); (first | (go_simp; done) | (go_simp; with_reducible rfl))
    try simp only [Act.put, List.setIfInBounds_toArray, List.set_cons_zero, List.set_cons_succ]
    refine wpAnyH_take (i := 13) (oi := ?oiz_13) (v := ?vz_13) ?hiz_13 (by kernel_rfl) (by kernel_rfl) (by kernel_rfl) ?hQz_13 (Or.inl ⟨?hwz_13, ?hyz_13⟩) (by assumption) ?_
    case hiz_13 => simp only [List.getElem?_toArray, List.getElem?_cons_succ, List.getElem?_cons_zero]; rfl
    case hQz_13 => exact fun _ _ _ h => h
    case hwz_13 => rfl
    case hyz_13 => intro w hSw; (try dsimp only at hSw); (first | (go_simp; done) | (go_simp; with_reducible rfl))
    try simp only [Act.put, List.setIfInBounds_toArray, List.set_cons_zero, List.set_cons_succ]
    refine wpAnyH_take (i := 14) (oi := ?oiz_14) (v := ?vz_14) ?hiz_14 (by kernel_rfl) (by kernel_rfl) (by kernel_rfl) ?hQz_14 (Or.inl ⟨?hwz_14, ?hyz_14⟩) (by assumption) ?_
    case hiz_14 => simp only [List.getElem?_toArray, List.getElem?_cons_succ, List.getElem?_cons_zero]; rfl
    case hQz_14 => exact fun _ _ _ h => h
    case hwz_14 => rfl
    case hyz_14 => intro w hSw; (try dsimp only at hSw); (first | (go_simp; done) | (go_simp; with_reducible rfl))
    try simp only [Act.put, List.setIfInBounds_toArray, List.set_cons_zero, List.set_cons_succ]
    refine wpAnyH_take (i := 15) (oi := ?oiz_15) (v := ?vz_15) ?hiz_15 (by kernel_rfl) (by kernel_rfl) (by kernel_rfl) ?hQz_15 (Or.inl ⟨?hwz_15, ?hyz_15⟩) (by assumption) ?_
    case hiz_15 => simp only [List.getElem?_toArray, List.getElem?_cons_succ, List.getElem?_cons_zero]; rfl
    case hQz_15 => exact fun _ _ _ h => h
    case hwz_15 => rfl
    case hyz_15 => intro w hSw; (try dsimp only at hSw); (first | (go_simp; done) | (go_simp; with_reducible rfl))
    try simp only [Act.put, List.setIfInBounds_toArray, List.set_cons_zero, List.set_cons_succ]
    refine wpAnyH_take (i := 16) (oi := ?oiz_16) (v := ?vz_16) ?hiz_16 (by kernel_rfl) (by kernel_rfl) (by kernel_rfl) ?hQz_16 (Or.inl ⟨?hwz_16, ?hyz_16⟩) (by assumption) ?_
    case hiz_16 => simp only [List.getElem?_toArray, List.getElem?_cons_succ, List.getElem?_cons_zero]; rfl
    case hQz_16 => exact fun _ _ _ h => h
    case hwz_16 => rfl
    case hyz_16 => intro w hSw; (try dsimp only at hSw); (first | (go_simp; done) | (go_simp; with_reducible rfl))
    try simp only [Act.put, List.setIfInBounds_toArray, List.set_cons_zero, List.set_cons_succ]
    refine wpAnyH_take (i := 18) (oi := ?oiz_18) (v := ?vz_18) ?hiz_18 (by kernel_rfl) (by kernel_rfl) (by kernel_rfl) ?hQz_18 (Or.inl ⟨?hwz_18, ?hyz_18⟩) (by assumption) ?_
    case hiz_18 => simp only [List.getElem?_toArray, List.getElem?_cons_succ, List.getElem?_cons_zero]; rfl
    case hQz_18 => exact fun _ _ _ h => h
    case hwz_18 => rfl
    case hyz_18 => intro w hSw; (try dsimp only at hSw); (first | (go_simp; done) | (go_simp; with_reducible rfl))
    try simp only [Act.put, List.setIfInBounds_toArray, List.set_cons_zero, List.set_cons_succ]
    refine wpAnyH_take (i := 19) (oi := ?oiz_19) (v := ?vz_19) ?hiz_19 (by kernel_rfl) (by kernel_rfl) (by kernel_rfl) ?hQz_19 (Or.inl ⟨?hwz_19, ?hyz_19⟩) (by assumption) ?_
    case hiz_19 => simp only [List.getElem?_toArray, List.getElem?_cons_succ, List.getElem?_cons_zero]; rfl
    case hQz_19 => exact fun _ _ _ h => h
    case hwz_19 => rfl
    case hyz_19 => intro w hSw; (try dsimp only at hSw); (first | (go_simp; done) | (go_simp; with_reducible rfl))
    try simp only [Act.put, List.setIfInBounds_toArray, List.set_cons_zero, List.set_cons_succ]
    refine wpAnyH_take (i := 20) (oi := ?oiz_20) (v := ?vz_20) ?hiz_20 (by kernel_rfl) (by kernel_rfl) (by kernel_rfl) ?hQz_20 (Or.inl ⟨?hwz_20, ?hyz_20⟩) (by assumption) ?_
    case hiz_20 => simp only [List.getElem?_toArray, List.getElem?_cons_succ, List.getElem?_cons_zero]; rfl
    case hQz_20 => exact fun _ _ _ h => h
    case hwz_20 => rfl
    case hyz_20 => intro w hSw; (try dsimp only at hSw); (first | (go_simp; done) | (go_simp; with_reducible rfl))
    try simp only [Act.put, List.setIfInBounds_toArray, List.set_cons_zero, List.set_cons_succ]
    refine wpAnyH_take (i := 21) (oi := ?oiz_21) (v := ?vz_21) ?hiz_21 (by kernel_rfl) (by kernel_rfl) (by kernel_rfl) ?hQz_21 (Or.inl ⟨?hwz_21, ?hyz_21⟩) (by assumption) ?_
    case hiz_21 => simp only [List.getElem?_toArray, List.getElem?_cons_succ, List.getElem?_cons_zero]; rfl
    case hQz_21 => exact fun _ _ _ h => h
    case hwz_21 => rfl
    case hyz_21 => intro w hSw; (try dsimp only at hSw); (first | (go_simp; done) | (go_simp; with_reducible rfl))
    try simp only [Act.put, List.setIfInBounds_toArray, List.set_cons_zero, List.set_cons_succ]
    refine wpAnyH_ready (rs := [17]) (by kernel_rfl) (by simp) ?_
    refine AllReadyH.cons (o := ?oiz_17) ?hiz_17 (fun K hK => ?_) AllReadyH.nil
    case hiz_17 => simp only [List.getElem?_toArray, List.getElem?_cons_succ, List.getElem?_cons_zero]; rfl
    go_simp
    go_at_call 18
    (with_reducible refine (KF1.out _ _ _ (R_g.out _ BB)).mono ?_)
    rintro e wz ⟨rfl, bq⟩
    replace BB : Below w18.heap.size w18 wz := BB.trans (bq.mono BB.size)
    replace L_b := Nat.lt_of_lt_of_le L_b bq.size
    replace L_x := Nat.lt_of_lt_of_le L_x bq.size
    replace L_c := Nat.lt_of_lt_of_le L_c bq.size
    replace L_yv := Nat.lt_of_lt_of_le L_yv bq.size
    replace L_ev := Nat.lt_of_lt_of_le L_ev bq.size
    clear bq
    refine hK.out _ _ ?_ (fun hHeld => ?_)
    · exact HF.out _ BB
    clear hK K
    try simp only [Act.put, List.setIfInBounds_toArray, List.set_cons_zero, List.set_cons_succ]
    refine wpAnyH_take (i := 22) (oi := ?oiz_22) (v := ?vz_22) ?hiz_22 (by kernel_rfl) (by kernel_rfl) (by kernel_rfl) ?hQz_22 (Or.inl ⟨?hwz_22, ?hyz_22⟩) (by assumption) ?_
    case hiz_22 => simp only [List.getElem?_toArray, List.getElem?_cons_succ, List.getElem?_cons_zero]; rfl
    case hQz_22 => exact fun _ _ _ h => h
    case hwz_22 => rfl
    case hyz_22 => intro w hSw; (try dsimp only at hSw); (first | (go_simp; done) | (go_simp; with_reducible rfl))
    try simp only [Act.put, List.setIfInBounds_toArray, List.set_cons_zero, List.set_cons_succ]
    refine wpAnyH_take (i := 23) (oi := ?oiz_23) (v := ?vz_23) ?hiz_23 (by kernel_rfl) (by kernel_rfl) (by kernel_rfl) ?hQz_23 (Or.inl ⟨?hwz_23, ?hyz_23⟩) (by assumption) ?_
    case hiz_23 => simp only [List.getElem?_toArray, List.getElem?_cons_succ, List.getElem?_cons_zero]; rfl
    case hQz_23 => exact fun _ _ _ h => h
    case hwz_23 => rfl
    case hyz_23 => intro w hSw; (try dsimp only at hSw); (first | (go_simp; done) | (go_simp; with_reducible rfl))
    try simp only [Act.put, List.setIfInBounds_toArray, List.set_cons_zero, List.set_cons_succ]
    refine wpAnyH_take (i := 24) (oi := ?oiz_24) (v := ?vz_24) ?hiz_24 (by kernel_rfl) (by kernel_rfl) (by kernel_rfl) ?hQz_24 (Or.inl ⟨?hwz_24, ?hyz_24⟩) (by assumption) ?_
    case hiz_24 => simp only [List.getElem?_toArray, List.getElem?_cons_succ, List.getElem?_cons_zero]; rfl
    case hQz_24 => exact fun _ _ _ h => h
    case hwz_24 => rfl
    case hyz_24 => intro w hSw; (try dsimp only at hSw); (first | (go_simp; done) | (go_simp; with_reducible rfl))
    try simp only [Act.put, List.setIfInBounds_toArray, List.set_cons_zero, List.set_cons_succ]
    refine wpAnyH_take (i := 25) (oi := ?oiz_25) (v := ?vz_25) ?hiz_25 (by kernel_rfl) (by kernel_rfl) (by kernel_rfl) ?hQz_25 (Or.inl ⟨?hwz_25, ?hyz_25⟩) (by assumption) ?_
    case hiz_25 => simp only [List.getElem?_toArray, List.getElem?_cons_succ, List.getElem?_cons_zero]; rfl
    case hQz_25 => exact fun _ _ _ h => h
    case hwz_25 => rfl
    case hyz_25 => intro w hSw; (try dsimp only at hSw); (first | (go_simp; done) | (go_simp; with_reducible rfl))
    try simp only [Act.put, List.setIfInBounds_toArray, List.set_cons_zero, List.set_cons_succ]
    refine wpAnyH_take (i := 26) (oi := ?oiz_26) (v := ?vz_26) ?hiz_26 (by kernel_rfl) (by kernel_rfl) (by kernel_rfl) ?hQz_26 (Or.inl ⟨?hwz_26, ?hyz_26⟩) (by assumption) ?_
    case hiz_26 => simp only [List.getElem?_toArray, List.getElem?_cons_succ, List.getElem?_cons_zero]; rfl
    case hQz_26 => exact fun _ _ _ h => h
    case hwz_26 => rfl
    case hyz_26 => intro w hSw; (try dsimp only at hSw); (first | (go_simp; done) | (go_simp; with_reducible rfl))
    try simp only [Act.put, List.setIfInBounds_toArray, List.set_cons_zero, List.set_cons_succ]
    refine wpAnyH_take (i := 27) (oi := ?oiz_27) (v := ?vz_27) ?hiz_27 (by kernel_rfl) (by kernel_rfl) (by kernel_rfl) ?hQz_27 (Or.inl ⟨?hwz_27, ?hyz_27⟩) (by assumption) ?_
    case hiz_27 => simp only [List.getElem?_toArray, List.getElem?_cons_succ, List.getElem?_cons_zero]; rfl
    case hQz_27 => exact fun _ _ _ h => h
    case hwz_27 => rfl
    case hyz_27 => intro w hSw; (try dsimp only at hSw); (first | (go_simp; done) | (go_simp; with_reducible rfl))
    try simp only [Act.put, List.setIfInBounds_toArray, List.set_cons_zero, List.set_cons_succ]
    refine wpAnyH_ready (rs := [28]) (by kernel_rfl) (by simp) ?_
    refine AllReadyH.cons (o := ?oiz_28) ?hiz_28 (fun K hK => ?_) AllReadyH.nil
    case hiz_28 => simp only [List.getElem?_toArray, List.getElem?_cons_succ, List.getElem?_cons_zero]; rfl
    go_simp
    go_at_call 18
    (with_reducible refine (KF2.out _ _ _ (R_e.out _ BB)).mono ?_)
    rintro e wz ⟨rfl, bq⟩
    replace BB : Below w18.heap.size w18 wz := BB.trans (bq.mono BB.size)
    replace L_b := Nat.lt_of_lt_of_le L_b bq.size
    replace L_x := Nat.lt_of_lt_of_le L_x bq.size
    replace L_c := Nat.lt_of_lt_of_le L_c bq.size
    replace L_yv := Nat.lt_of_lt_of_le L_yv bq.size
    replace L_ev := Nat.lt_of_lt_of_le L_ev bq.size
    clear bq
    refine hK.out _ _ ?_ (fun hHeld => ?_)
    · exact HF.out _ BB
    clear hK K
    try simp only [Act.put, List.setIfInBounds_toArray, List.set_cons_zero, List.set_cons_succ]
    refine wpAnyH_take (i := 29) (oi := ?oiz_29) (v := ?vz_29) ?hiz_29 (by kernel_rfl) (by kernel_rfl) (by kernel_rfl) ?hQz_29 (Or.inl ⟨?hwz_29, ?hyz_29⟩) (by assumption) ?_
    case hiz_29 => simp only [List.getElem?_toArray, List.getElem?_cons_succ, List.getElem?_cons_zero]; rfl
    case hQz_29 => exact fun _ _ _ h => h
    case hwz_29 => rfl
    case hyz_29 => intro w hSw; (try dsimp only at hSw); (first | (go_simp; done) | (go_simp; with_reducible rfl))
    try simp only [Act.put, List.setIfInBounds_toArray, List.set_cons_zero, List.set_cons_succ]
    refine wpAnyH_take (i := 30) (oi := ?oiz_30) (v := ?vz_30) ?hiz_30 (by kernel_rfl) (by kernel_rfl) (by kernel_rfl) ?hQz_30 (Or.inl ⟨?hwz_30, ?hyz_30⟩) (by assumption) ?_
    case hiz_30 => simp only [List.getElem?_toArray, List.getElem?_cons_succ, List.getElem?_cons_zero]; rfl
    case hQz_30 => exact fun _ _ _ h => h
    case hwz_30 => rfl
    case hyz_30 => intro w hSw; (try dsimp only at hSw); (first | (go_simp; done) | (go_simp; with_reducible rfl))
    try simp only [Act.put, List.setIfInBounds_toArray, List.set_cons_zero, List.set_cons_succ]
    refine wpAnyH_take (i := 31) (oi := ?oiz_31) (v := ?vz_31) ?hiz_31 (by kernel_rfl) (by kernel_rfl) (by kernel_rfl) ?hQz_31 (Or.inl ⟨?hwz_31, ?hyz_31⟩) (by assumption) ?_
    case hiz_31 => simp only [List.getElem?_toArray, List.getElem?_cons_succ, List.getElem?_cons_zero]; rfl
    case hQz_31 => exact fun _ _ _ h => h
    case hwz_31 => rfl
    case hyz_31 => intro w hSw; (try dsimp only at hSw); (first | (go_simp; done) | (go_simp; with_reducible rfl))
    try simp only [Act.put, List.setIfInBounds_toArray, List.set_cons_zero, List.set_cons_succ]
    refine wpAnyH_take (i := 32) (oi := ?oiz_32) (v := ?vz_32) ?hiz_32 (by kernel_rfl) (by kernel_rfl) (by kernel_rfl) ?hQz_32 (Or.inl ⟨?hwz_32, ?hyz_32⟩) (by assumption) ?_
    case hiz_32 => simp only [List.getElem?_toArray, List.getElem?_cons_succ, List.getElem?_cons_zero]; rfl
    case hQz_32 => exact fun _ _ _ h => h
    case hwz_32 => rfl
    case hyz_32 => intro w hSw; (try dsimp only at hSw); (first | (go_simp; done) | (go_simp; with_reducible rfl))
    try simp only [Act.put, List.setIfInBounds_toArray, List.set_cons_zero, List.set_cons_succ]
    refine wpAnyH_ready (rs := [33]) (by kernel_rfl) (by simp) ?_
    refine AllReadyH.cons (o := ?oiz_33) ?hiz_33 (fun K hK => ?_) AllReadyH.nil
    case hiz_33 => simp only [List.getElem?_toArray, List.getElem?_cons_succ, List.getElem?_cons_zero]; rfl
    go_simp
    go_at_call 19
    (with_reducible refine (KV1.out _ _ _ (R_g.out _ BB)).mono ?_)
    rintro e wz ⟨rfl, bq⟩
    replace BB : Below w18.heap.size w18 wz := BB.trans (bq.mono BB.size)
    replace L_b := Nat.lt_of_lt_of_le L_b bq.size
    replace L_x := Nat.lt_of_lt_of_le L_x bq.size
    replace L_c := Nat.lt_of_lt_of_le L_c bq.size
    replace L_yv := Nat.lt_of_lt_of_le L_yv bq.size
    replace L_ev := Nat.lt_of_lt_of_le L_ev bq.size
    clear bq
    refine hK.out _ _ ?_ (fun hHeld => ?_)
    · exact HF.out _ BB
    clear hK K
    try simp only [Act.put, List.setIfInBounds_toArray, List.set_cons_zero, List.set_cons_succ]
    refine wpAnyH_take (i := 34) (oi := ?oiz_34) (v := ?vz_34) ?hiz_34 (by kernel_rfl) (by kernel_rfl) (by kernel_rfl) ?hQz_34 (Or.inl ⟨?hwz_34, ?hyz_34⟩) (by assumption) ?_
    case hiz_34 => simp only [List.getElem?_toArray, List.getElem?_cons_succ, List.getElem?_cons_zero]; rfl
    case hQz_34 => exact fun _ _ _ h => h
    case hwz_34 => rfl
    case hyz_34 => intro w hSw; (try dsimp only at hSw); (first | (go_simp; done) | (go_simp; with_reducible rfl))
    try simp only [Act.put, List.setIfInBounds_toArray, List.set_cons_zero, List.set_cons_succ]
    refine wpAnyH_take (i := 35) (oi := ?oiz_35) (v := ?vz_35) ?hiz_35 (by kernel_rfl) (by kernel_rfl) (by kernel_rfl) ?hQz_35 (Or.inl ⟨?hwz_35, ?hyz_35⟩) (by assumption) ?_
    case hiz_35 => simp only [List.getElem?_toArray, List.getElem?_cons_succ, List.getElem?_cons_zero]; rfl
    case hQz_35 => exact fun _ _ _ h => h
    case hwz_35 => rfl
    case hyz_35 => intro w hSw; (try dsimp only at hSw); (first | (go_simp; done) | (go_simp; with_reducible rfl))
    try simp only [Act.put, List.setIfInBounds_toArray, List.set_cons_zero, List.set_cons_succ]
    refine wpAnyH_take (i := 36) (oi := ?oiz_36) (v := ?vz_36) ?hiz_36 (by kernel_rfl) (by kernel_rfl) (by kernel_rfl) ?hQz_36 (Or.inl ⟨?hwz_36, ?hyz_36⟩) (by assumption) ?_
    case hiz_36 => simp only [List.getElem?_toArray, List.getElem?_cons_succ, List.getElem?_cons_zero]; rfl
    case hQz_36 => exact fun _ _ _ h => h
    case hwz_36 => rfl
    case hyz_36 => intro w hSw; (try dsimp only at hSw); (first | (go_simp; done) | (go_simp; with_reducible rfl))
    try simp only [Act.put, List.setIfInBounds_toArray, List.set_cons_zero, List.set_cons_succ]
    refine wpAnyH_ready (rs := [37]) (by kernel_rfl) (by simp) ?_
    refine AllReadyH.cons (o := ?oiz_37) ?hiz_37 (fun K hK => ?_) AllReadyH.nil
    case hiz_37 => simp only [List.getElem?_toArray, List.getElem?_cons_succ, List.getElem?_cons_zero]; rfl
    go_simp
    go_at_call 19
    (with_reducible refine (KV2.out _ _ _ (R_y.out _ BB)).mono ?_)
    rintro e wz ⟨rfl, bq⟩
    replace BB : Below w18.heap.size w18 wz := BB.trans (bq.mono BB.size)
    replace L_b := Nat.lt_of_lt_of_le L_b bq.size
    replace L_x := Nat.lt_of_lt_of_le L_x bq.size
    replace L_c := Nat.lt_of_lt_of_le L_c bq.size
    replace L_yv := Nat.lt_of_lt_of_le L_yv bq.size
    replace L_ev := Nat.lt_of_lt_of_le L_ev bq.size
    clear bq
    refine hK.out _ _ ?_ (fun hHeld => ?_)
    · exact HF.out _ BB
    clear hK K
    try simp only [Act.put, List.setIfInBounds_toArray, List.set_cons_zero, List.set_cons_succ]
    refine wpAnyH_take (i := 38) (oi := ?oiz_38) (v := ?vz_38) ?hiz_38 (by kernel_rfl) (by kernel_rfl) (by kernel_rfl) ?hQz_38 (Or.inl ⟨?hwz_38, ?hyz_38⟩) (by assumption) ?_
    case hiz_38 => simp only [List.getElem?_toArray, List.getElem?_cons_succ, List.getElem?_cons_zero]; rfl
    case hQz_38 => exact fun _ _ _ h => h
    case hwz_38 => rfl
    case hyz_38 => intro w hSw; (try dsimp only at hSw); (first | (go_simp; done) | (go_simp; with_reducible rfl))
    try simp only [Act.put, List.setIfInBounds_toArray, List.set_cons_zero, List.set_cons_succ]
    refine wpAnyH_take (i := 39) (oi := ?oiz_39) (v := ?vz_39) ?hiz_39 (by kernel_rfl) (by kernel_rfl) (by kernel_rfl) ?hQz_39 (Or.inl ⟨?hwz_39, ?hyz_39⟩) (by assumption) ?_
    case hiz_39 => simp only [List.getElem?_toArray, List.getElem?_cons_succ, List.getElem?_cons_zero]; rfl
    case hQz_39 => exact fun _ _ _ h => h
    case hwz_39 => rfl
    case hyz_39 => intro w hSw; (try dsimp only at hSw); (first | (go_simp; done) | (go_simp; with_reducible rfl))
    try simp only [Act.put, List.setIfInBounds_toArray, List.set_cons_zero, List.set_cons_succ]
    refine wpAnyH_take (i := 40) (oi := ?oiz_40) (v := ?vz_40) ?hiz_40 (by kernel_rfl) (by kernel_rfl) (by kernel_rfl) ?hQz_40 (Or.inl ⟨?hwz_40, ?hyz_40⟩) (by assumption) ?_
    case hiz_40 => simp only [List.getElem?_toArray, List.getElem?_cons_succ, List.getElem?_cons_zero]; rfl
    case hQz_40 => exact fun _ _ _ h => h
    case hwz_40 => rfl
    case hyz_40 => intro w hSw; (try dsimp only at hSw); (first | (go_simp; done) | (go_simp; with_reducible rfl))
    try simp only [Act.put, List.setIfInBounds_toArray, List.set_cons_zero, List.set_cons_succ]
    refine wpAnyH_take (i := 41) (oi := ?oiz_41) (v := ?vz_41) ?hiz_41 (by kernel_rfl) (by kernel_rfl) (by kernel_rfl) ?hQz_41 (Or.inl ⟨?hwz_41, ?hyz_41⟩) (by assumption) ?_
    case hiz_41 => simp only [List.getElem?_toArray, List.getElem?_cons_succ, List.getElem?_cons_zero]; rfl
    case hQz_41 => exact fun _ _ _ h => h
    case hwz_41 => rfl
    case hyz_41 => intro w hSw; (try dsimp only at hSw); (first | (go_simp; done) | (go_simp; with_reducible rfl))
    try simp only [Act.put, List.setIfInBounds_toArray, List.set_cons_zero, List.set_cons_succ]
    refine wpAnyH_take (i := 42) (oi := ?oiz_42) (v := ?vz_42) ?hiz_42 (by kernel_rfl) (by kernel_rfl) (by kernel_rfl) ?hQz_42 (Or.inl ⟨?hwz_42, ?hyz_42⟩) (by assumption) ?_
    case hiz_42 => simp only [List.getElem?_toArray, List.getElem?_cons_succ, List.getElem?_cons_zero]; rfl
    case hQz_42 => exact fun _ _ _ h => h
    case hwz_42 => rfl
    case hyz_42 => intro w hSw; (try dsimp only at hSw); (first | (go_simp; done) | (go_simp; with_reducible rfl))
    try simp only [Act.put, List.setIfInBounds_toArray, List.set_cons_zero, List.set_cons_succ]
    refine wpAnyH_take (i := 43) (oi := ?oiz_43) (v := ?vz_43) ?hiz_43 (by kernel_rfl) (by kernel_rfl) (by kernel_rfl) ?hQz_43 (Or.inl ⟨?hwz_43, ?hyz_43⟩) (by assumption) ?_
    case hiz_43 => simp only [List.getElem?_toArray, List.getElem?_cons_succ, List.getElem?_cons_zero]; rfl
    case hQz_43 => exact fun _ _ _ h => h
    case hwz_43 => rfl
    case hyz_43 => intro w hSw; (try dsimp only at hSw); (first | (go_simp; done) | (go_simp; with_reducible rfl))
    try simp only [Act.put, List.setIfInBounds_toArray, List.set_cons_zero, List.set_cons_succ]
    refine wpAnyH_take (i := 44) (oi := ?oiz_44) (v := ?vz_44) ?hiz_44 (by kernel_rfl) (by kernel_rfl) (by kernel_rfl) ?hQz_44 (Or.inl ⟨?hwz_44, ?hyz_44⟩) (by assumption) ?_
    case hiz_44 => simp only [List.getElem?_toArray, List.getElem?_cons_succ, List.getElem?_cons_zero]; rfl
    case hQz_44 => exact fun _ _ _ h => h
    case hwz_44 => rfl
    case hyz_44 => intro w hSw; (try dsimp only at hSw); (first | (go_simp; done) | (go_simp; with_reducible rfl))
    try simp only [Act.put, List.setIfInBounds_toArray, List.set_cons_zero, List.set_cons_succ]
    refine wpAnyH_take (i := 45) (oi := ?oiz_45) (v := ?vz_45) ?hiz_45 (by kernel_rfl) (by kernel_rfl) (by kernel_rfl) ?hQz_45 (Or.inl ⟨?hwz_45, ?hyz_45⟩) (by assumption) ?_
    case hiz_45 => simp only [List.getElem?_toArray, List.getElem?_cons_succ, List.getElem?_cons_zero]; rfl
    case hQz_45 => exact fun _ _ _ h => h
    case hwz_45 => rfl
    case hyz_45 => intro w hSw; (try dsimp only at hSw); (first | (go_simp; done) | (go_simp; with_reducible rfl))
    try simp only [Act.put, List.setIfInBounds_toArray, List.set_cons_zero, List.set_cons_succ]
    refine wpAnyH_take (i := 46) (oi := ?oiz_46) (v := ?vz_46) ?hiz_46 (by kernel_rfl) (by kernel_rfl) (by kernel_rfl) ?hQz_46 (Or.inl ⟨?hwz_46, ?hyz_46⟩) (by assumption) ?_
    case hiz_46 => simp only [List.getElem?_toArray, List.getElem?_cons_succ, List.getElem?_cons_zero]; rfl
    case hQz_46 => exact fun _ _ _ h => h
    case hwz_46 => rfl
    case hyz_46 => intro w hSw; (try dsimp only at hSw); (first | (go_simp; done) | (go_simp; with_reducible rfl))
    try simp only [Act.put, List.setIfInBounds_toArray, List.set_cons_zero, List.set_cons_succ]
    refine wpAnyH_take (i := 47) (oi := ?oiz_47) (v := ?vz_47) ?hiz_47 (by kernel_rfl) (by kernel_rfl) (by kernel_rfl) ?hQz_47 (Or.inl ⟨?hwz_47, ?hyz_47⟩) (by assumption) ?_
    case hiz_47 => simp only [List.getElem?_toArray, List.getElem?_cons_succ, List.getElem?_cons_zero]; rfl
    case hQz_47 => exact fun _ _ _ h => h
    case hwz_47 => rfl
    case hyz_47 => intro w hSw; (try dsimp only at hSw); (first | (go_simp; done) | (go_simp; with_reducible rfl))
    try simp only [Act.put, List.setIfInBounds_toArray, List.set_cons_zero, List.set_cons_succ]
    refine wpAnyH_take (i := 48) (oi := ?oiz_48) (v := ?vz_48) ?hiz_48 (by kernel_rfl) (by kernel_rfl) (by kernel_rfl) ?hQz_48 (Or.inl ⟨?hwz_48, ?hyz_48⟩) (by assumption) ?_
    case hiz_48 => simp only [List.getElem?_toArray, List.getElem?_cons_succ, List.getElem?_cons_zero]; rfl
    case hQz_48 => exact fun _ _ _ h => h
    case hwz_48 => rfl
    case hyz_48 => intro w hSw; (try dsimp only at hSw); (first | (go_simp; done) | (go_simp; with_reducible rfl))
    try simp only [Act.put, List.setIfInBounds_toArray, List.set_cons_zero, List.set_cons_succ]
    refine wpAnyH_take (i := 49) (oi := ?oiz_49) (v := ?vz_49) ?hiz_49 (by kernel_rfl) (by kernel_rfl) (by kernel_rfl) ?hQz_49 (Or.inl ⟨?hwz_49, ?hyz_49⟩) (by assumption) ?_
    case hiz_49 => simp only [List.getElem?_toArray, List.getElem?_cons_succ, List.getElem?_cons_zero]; rfl
    case hQz_49 => exact fun _ _ _ h => h
    case hwz_49 => rfl
    case hyz_49 => intro w hSw; (try dsimp only at hSw); (first | (go_simp; done) | (go_simp; with_reducible rfl))
    try simp only [Act.put, List.setIfInBounds_toArray, List.set_cons_zero, List.set_cons_succ]
    refine wpAnyH_take (i := 50) (oi := ?oiz_50) (v := ?vz_50) ?hiz_50 (by kernel_rfl) (by kernel_rfl) (by kernel_rfl) ?hQz_50 (Or.inl ⟨?hwz_50, ?hyz_50⟩) (by assumption) ?_
    case hiz_50 => simp only [List.getElem?_toArray, List.getElem?_cons_succ, List.getElem?_cons_zero]; rfl
    case hQz_50 => exact fun _ _ _ h => h
    case hwz_50 => rfl
    case hyz_50 => intro w hSw; (try dsimp only at hSw); (first | (go_simp; done) | (go_simp; with_reducible rfl))
    try simp only [Act.put, List.setIfInBounds_toArray, List.set_cons_zero, List.set_cons_succ]
    refine wpAnyH_take (i := 52) (oi := ?oiz_52) (v := ?vz_52) ?hiz_52 (by kernel_rfl) (by kernel_rfl) (by kernel_rfl) ?hQz_52 (Or.inl ⟨?hwz_52, ?hyz_52⟩) (by assumption) ?_
    case hiz_52 => simp only [List.getElem?_toArray, List.getElem?_cons_succ, List.getElem?_cons_zero]; rfl
    case hQz_52 => exact fun _ _ _ h => h
    case hwz_52 => rfl
    case hyz_52 => intro w hSw; (try dsimp only at hSw); (first | (go_simp; done) | (go_simp; with_reducible rfl))
    try simp only [Act.put, List.setIfInBounds_toArray, List.set_cons_zero, List.set_cons_succ]
    refine wpAnyH_take (i := 53) (oi := ?oiz_53) (v := ?vz_53) ?hiz_53 (by kernel_rfl) (by kernel_rfl) (by kernel_rfl) ?hQz_53 (Or.inl ⟨?hwz_53, ?hyz_53⟩) (by assumption) ?_
    case hiz_53 => simp only [List.getElem?_toArray, List.getElem?_cons_succ, List.getElem?_cons_zero]; rfl
    case hQz_53 => exact fun _ _ _ h => h
    case hwz_53 => rfl
    case hyz_53 => intro w hSw; (try dsimp only at hSw); (first | (go_simp; done) | (go_simp; with_reducible rfl))
    try simp only [Act.put, List.setIfInBounds_toArray, List.set_cons_zero, List.set_cons_succ]
    refine wpAnyH_take (i := 54) (oi := ?oiz_54) (v := ?vz_54) ?hiz_54 (by kernel_rfl) (by kernel_rfl) (by kernel_rfl) ?hQz_54 (Or.inl ⟨?hwz_54, ?hyz_54⟩) (by assumption) ?_
    case hiz_54 => simp only [List.getElem?_toArray, List.getElem?_cons_succ, List.getElem?_cons_zero]; rfl
    case hQz_54 => exact fun _ _ _ h => h
    case hwz_54 => rfl
    case hyz_54 => intro w hSw; (try dsimp only at hSw); (first | (go_simp; done) | (go_simp; with_reducible rfl))
    try simp only [Act.put, List.setIfInBounds_toArray, List.set_cons_zero, List.set_cons_succ]
    refine wpAnyH_ready (rs := [51]) (by kernel_rfl) (by simp) ?_
    refine AllReadyH.cons (o := ?oiz_51) ?hiz_51 (fun K hK => ?_) AllReadyH.nil
    case hiz_51 => simp only [List.getElem?_toArray, List.getElem?_cons_succ, List.getElem?_cons_zero]; rfl
    go_simp
    go_at_call 20
    (with_reducible refine (KC1.out _ _ _ (R_g.out _ BB)).mono ?_)
    rintro e wz ⟨rfl, bq⟩
    replace BB : Below w18.heap.size w18 wz := BB.trans (bq.mono BB.size)
    replace L_b := Nat.lt_of_lt_of_le L_b bq.size
    replace L_x := Nat.lt_of_lt_of_le L_x bq.size
    replace L_c := Nat.lt_of_lt_of_le L_c bq.size
    replace L_yv := Nat.lt_of_lt_of_le L_yv bq.size
    replace L_ev := Nat.lt_of_lt_of_le L_ev bq.size
    clear bq
    refine hK.out _ _ ?_ (fun hHeld => ?_)
    · exact HF.out _ BB
    clear hK K
    try simp only [Act.put, List.setIfInBounds_toArray, List.set_cons_zero, List.set_cons_succ]
    refine wpAnyH_ready (rs := [55]) (by kernel_rfl) (by simp) ?_
    refine AllReadyH.cons (o := ?oiz_55) ?hiz_55 (fun K hK => ?_) AllReadyH.nil
    case hiz_55 => simp only [List.getElem?_toArray, List.getElem?_cons_succ, List.getElem?_cons_zero]; rfl
    go_simp
    go_at_call 21
    (with_reducible refine (KC2.out _ (R_m.out _ BB)).mono ?_)
    rintro e wz ⟨rfl, bq⟩
    replace BB : Below w18.heap.size w18 wz := BB.trans (bq.mono BB.size)
    replace L_b := Nat.lt_of_lt_of_le L_b bq.size
    replace L_x := Nat.lt_of_lt_of_le L_x bq.size
    replace L_c := Nat.lt_of_lt_of_le L_c bq.size
    replace L_yv := Nat.lt_of_lt_of_le L_yv bq.size
    replace L_ev := Nat.lt_of_lt_of_le L_ev bq.size
    clear bq
    refine hK.out _ _ ?_ (fun hHeld => ?_)
    · exact HF.out _ BB
    clear hK K
    try simp only [Act.put, List.setIfInBounds_toArray, List.set_cons_zero, List.set_cons_succ]
    refine wpAnyH_take (i := 56) (oi := ?oiz_56) (v := ?vz_56) ?hiz_56 (by kernel_rfl) (by kernel_rfl) (by kernel_rfl) ?hQz_56 (Or.inl ⟨?hwz_56, ?hyz_56⟩) (by assumption) ?_
    case hiz_56 => simp only [List.getElem?_toArray, List.getElem?_cons_succ, List.getElem?_cons_zero]; rfl
    case hQz_56 => exact fun _ _ _ h => h
    case hwz_56 => rfl
    case hyz_56 => intro w hSw; (try dsimp only at hSw); (first | (go_simp; done) | (go_simp; with_reducible rfl))
    try simp only [Act.put, List.setIfInBounds_toArray, List.set_cons_zero, List.set_cons_succ]
    refine wpAnyH_take (i := 57) (oi := ?oiz_57) (v := ?vz_57) ?hiz_57 (by kernel_rfl) (by kernel_rfl) (by kernel_rfl) ?hQz_57 (Or.inl ⟨?hwz_57, ?hyz_57⟩) (by assumption) ?_
    case hiz_57 => simp only [List.getElem?_toArray, List.getElem?_cons_succ, List.getElem?_cons_zero]; rfl
    case hQz_57 => exact fun _ _ _ h => h
    case hwz_57 => rfl
    case hyz_57 => intro w hSw; (try dsimp only at hSw); (first | (go_simp; done) | (go_simp; with_reducible rfl))
    try simp only [Act.put, List.setIfInBounds_toArray, List.set_cons_zero, List.set_cons_succ]
    refine wpAnyH_take (i := 58) (oi := ?oiz_58) (v := ?vz_58) ?hiz_58 (by kernel_rfl) (by kernel_rfl) (by kernel_rfl) ?hQz_58 (Or.inl ⟨?hwz_58, ?hyz_58⟩) (by assumption) ?_
    case hiz_58 => simp only [List.getElem?_toArray, List.getElem?_cons_succ, List.getElem?_cons_zero]; rfl
    case hQz_58 => exact fun _ _ _ h => h
    case hwz_58 => rfl
    case hyz_58 => intro w hSw; (try dsimp only at hSw); (first | (go_simp; done) | (go_simp; with_reducible rfl))
    try simp only [Act.put, List.setIfInBounds_toArray, List.set_cons_zero, List.set_cons_succ]
    refine wpAnyH_done (by kernel_rfl) ?_ _
    go_wp2
    go_ret
    exact ⟨rfl, HBC.trans (BB.mono HBC.size)⟩
set_option maxRecDepth 100000 in
theorem walk (v0 : Value) (W : World) {H : Type} {enc : TypeId × Value → H} {b0 : Nat} {d0 : DataW H} {p0 : List MemPlace} (hv0 : Value.okWide Try.prog W .any b0 22 v0) (ht0 : DataW.Trod enc Try.prog W 0 (fun _ => true) true 22 v0 d0 p0) :
    Calls Try.prog 3 #[v0] W fun e w' => e = .returned (.bool true) ∧ Below W.heap.size W w' := by
  obtain ⟨A0, n0, c0, xs0, rfl, hr0, hm0, hx0⟩ := So.bytes hv0 ht0
  unfold maxLen at hm0
  by_cases hl : 1048576 < n0
  · clear hv0 ht0 hr0
    go_enter Try.func3, Try.ntmps3
    go_wp2_with fail
    (with_reducible refine (Cd.big_yes A0 n0 c0 _ (by omega) hl).mono ?_); rintro e w0 ⟨rfl, rfl⟩
    go_wp2
    go_ret
    exact ⟨rfl, Below.refl _ _⟩
  · exact walkSmall A0 n0 c0 hl W (D2.code_of hr0 hx0 (by omega))

set_option maxRecDepth 100000 in
theorem contract (H : Type) (enc : TypeId × Value → H) (W : World) (base : Nat) (args : Array Value) (ds gs : List (DataW H)) (before : List MemPlace)
    (hval : ∀ (j : Nat) t v, Try.f3.params[j]? = some t → args[j]? = some v → Value.okWide Try.prog W .any base t v)
    (hW : DataW.Whole enc Try.prog Try.f3.params.toList Rows.fnChallengesSpec.vars false W args.toList ds gs before) :
    Calls Try.prog 3 args W fun e W' => ∃ v, e = .returned v ∧ Rows.fnChallengesSpec.post enc Try.prog Try.f3 false true false false W args v W' := by
  have hW' := hW
  obtain ⟨p, q, hA0, hV, rfl, hfz, hnd⟩ := hW
  have hA : DataW.TrodAll enc Try.prog W 0 (fun _ => true) true Try.f3.params.toList args.toList ds p := hA0
  rw [Try.params3] at hA hval
  obtain ⟨v0, vs0, d0, ds0, p0, q0, hargs, rfl, rfl, h0, r0⟩ := trodAll_cons hA
  obtain ⟨rfl, rfl, rfl⟩ := trodAll_nil r0
  obtain rfl : args = #[v0] := by cases args; simp_all
  obtain ⟨rfl, rfl⟩ := trodVars_none hV
  clear hA0
  refine Fr.closeLaw rfl (by kernel_rfl) (by rw [Try.params3]; decide) hW' rfl ?_
  exact walk v0 W (hval 0 22 v0 rfl rfl) h0

set_option maxRecDepth 100000 in
theorem reads (os : Os) {H : Type} (enc : TypeId × Value → H) : ∃ places, DataW.whole enc Try.prog ((World.holding Try.prog os ⟨#[], #[], []⟩).forCall (fun _ _ => 0) ⟨#[], #[.slice none 0 0], []⟩).memory Try.f3.params.toList Rows.fnChallengesSpec.vars false (#[.slice none 0 0] : Array Value).toList 8 = some ([.nil], [], places) :=
  ⟨[], by kernel_rfl⟩
set_option maxRecDepth 100000 in
theorem lifted (os : Os) (started : os.Started) (H : Type) (enc : TypeId × Value → H) (F : Stop.Interp) :
    ReturnsInHanded {} Try.checked os 3 .any ((OpenSpec.ofChange Rows.fnChallengesSpec).preRow enc Try.prog Try.f3 Rows.fnChallengesRow.domain false Rows.fnChallengesRow.laid) (((OpenSpec.ofChange Rows.fnChallengesSpec).at F).post enc Try.prog Try.f3 false true false false) := by
  obtain ⟨places, hx⟩ := reads os enc
  refine returnsInHanded_of_row (C := Try.checked) (s := OpenSpec.ofChange Rows.fnChallengesSpec) Fr.own started (by kernel_rfl) Try.func3
    (witness_row_atRef (enc := enc) (C := Try.checked) false (World.holding Try.prog os ⟨#[], #[], []⟩) #[.slice none 0 0] rfl (by kernel_rfl) (by kernel_rfl) (by kernel_rfl)
      (OpenSpec.preRow_of_cond 8 hx (by kernel_rfl) (fun k hk => by cases hk) (by kernel_rfl) (laidMetH_nil _ _))) ?_
  intro W base args ds gs before hval hW _ hcond _ hL _ _
  exact contract H enc W base args ds gs before hval hW
set_option maxRecDepth 100000 in
theorem said : Rows.FnChallengesSaid :=
  OpenClaim.holds_of_cond 3 Try.f3 rfl rfl rfl rfl rfl rfl rfl ⟨rfl, rfl, rfl, rfl, rfl⟩ rfl rfl rfl rfl rfl (by kernel_rfl) Try.func3 (by kernel_rfl)
    (of_decide_eq_true (by kernel_rfl)) (by unfold Func.isWrapper; first | (rw [if_pos (by decide +kernel)]; kernel_rfl) | (rw [if_neg (by decide +kernel)]; exact ⟨rfl, rfl⟩))
    (fun os started H enc _ F => by rw [OpenClaim.pre_eq_preRow]; exact lifted os started H enc F)
theorem proved : Rows.FnChallengesSaid := said
#print axioms proved
end Go.Proofs.Ytjkmcnnkifachaa.fnChallenges
