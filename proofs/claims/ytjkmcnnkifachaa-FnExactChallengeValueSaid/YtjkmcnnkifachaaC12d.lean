/-
  Contract of chapter 12's TakeChallenge, of the model.
-/
import Derived.Test.YtjkmcnnkifachaaC12c
import Derived.Test.YtjkmcnnkifachaaVn
namespace Go.Proofs.Ytjkmcnnkifachaa.C12d
open Go.ChangeShapes Go.WideShapes Go.ChangeAt Go.RowKit
open S0 S1 S9 Dm Fx M3 M8 C3 C6 C12 C12b C12c
set_option linter.unusedVariables false
set_option linter.unusedSimpArgs false
set_option maxRecDepth 100000
theorem stepC (w : World) {ops : Array Oper} {o : Oper} {a : Act} {K : Act → World → Prop} {Q : Exit → Act → World → Prop} {E : Prop} (hgd : o.guard = none) (s x : Operand)
    (ho : o.op = .call { callee := .builtin .append, args := #[s, x], argTypes := #[24, 24] }) (base : Nat) (v : Value) (n : Nat) (l : List Fx.Challenge) (hs : a.eval s = v) (hown : w.ownsRow base 30 3 v n (many l))
    (B : Nat) (A : Option Addr) (m c : Nat) (k : List Fx.Challenge) (hx : a.eval x = .slice A m c) (hr : Rd w B 3 A m (many k)) (h63 : n + m ≤ 4398046511104) (hbase : base ≤ w.heap.size)
    (h : ∀ v' w', w'.ownsRow base 30 3 v' (n + m) (many (l ++ k)) → w.grownBy w' v.ownBlock → (v'.ownBlock = v.ownBlock ∨ v'.ownBlock = some w.heap.size) → K (a.put o.dst v') w') :
    if Region.wanted o (yielded ops a.tmps) = true then Oper.wp Try.prog o a w K Q else E := by
  obtain ⟨i0, hi, hz0, hz1, hz2⟩ := info_parts chal_info
  exact Ra.step_app w hgd s x 24 ho base 30 i0 (.agg #[.int .i64 0, .int .i64 0, .int .i64 0]) 3 24 Try.underlying24 hi hz0 hz1 hz2 (by simp [Value.cells]) (by decide) v n (many l) hs hown B A m c (many k) hx hr (many_one k) (by unfold maxLen; omega) (by omega) hbase (fun v' w' h1 h2 h3 => h v' w' (by rw [← many_app]; exact h1) h2 h3)
theorem many_take (l : List Fx.Challenge) (k : Nat) : many (l.take k) = (many l).take (k * 3) := by
  induction l generalizing k with
  | nil => simp [many]
  | cons x l ih =>
    cases k with
    | zero => simp [many]
    | succ k =>
      have e : many (x :: l) = one x ++ many l := rfl
      rw [List.take_succ_cons, e, show many (x :: l.take k) = one x ++ many (l.take k) from rfl, ih, List.take_append]
      have : (one x).length = 3 := rfl
      rw [this, List.take_of_length_le (l := one x) (by rw [this]; omega), show (k + 1) * 3 - 3 = k * 3 by omega]
theorem many_drop (l : List Fx.Challenge) (k : Nat) : many (l.drop k) = (many l).drop (k * 3) := by
  induction l generalizing k with
  | nil => simp [many]
  | cons x l ih =>
    cases k with
    | zero => simp [many]
    | succ k =>
      have e : many (x :: l) = one x ++ many l := rfl
      rw [List.drop_succ_cons, e, ih, List.drop_append]
      have : (one x).length = 3 := rfl
      rw [this, List.drop_of_length_le (l := one x) (by rw [this]; omega), show (k + 1) * 3 - 3 = k * 3 by omega, List.nil_append]
theorem rd_take3 {w : World} {hi n k b off : Nat} {l : List Fx.Challenge} (h : Rd w hi 3 (some ⟨b, off, none⟩) n (many l)) (hk : k ≤ n) : Rd w hi 3 (some ⟨b, off, none⟩) k (many (l.take k)) := by
  have hl := h.1
  rw [many_len] at hl
  refine ⟨by rw [many_len, List.length_take]; omega, fun h0 => ?_⟩
  obtain ⟨b', off', e, hb, hc⟩ := h.2 (by omega)
  injection e with e
  injection e with e1 e2 _
  subst e1
  subst e2
  refine ⟨b, off, rfl, hb, fun j hj => ?_⟩
  rw [hc j (by omega), many_take, List.getElem?_take_of_lt (by omega)]
theorem rd_drop3 {w : World} {hi n k b off : Nat} {l : List Fx.Challenge} (h : Rd w hi 3 (some ⟨b, off, none⟩) n (many l)) (hk : k ≤ n) : Rd w hi 3 (some ⟨b, off + k * 3, none⟩) (n - k) (many (l.drop k)) := by
  have hl := h.1
  rw [many_len] at hl
  refine ⟨by rw [many_len, List.length_drop]; omega, fun h0 => ?_⟩
  obtain ⟨b', off', e, hb, hc⟩ := h.2 (by omega)
  injection e with e
  injection e with e1 e2 _
  subst e1
  subst e2
  refine ⟨b, off + k * 3, rfl, hb, fun j hj => ?_⟩
  rw [Nat.add_assoc, hc (k * 3 + j) (by omega), many_drop, List.getElem?_drop]
theorem rd_last {w : World} {hi n k : Nat} {A : Option Addr} {l : List Fx.Challenge} (hn : n = l.length) (h : n ≤ k + 1) : Rd w hi 3 A 0 (many (l.drop (k + 1))) := by
  rw [List.drop_of_length_le (by omega)]
  exact ⟨rfl, fun h => absurd h (by omega)⟩
theorem el_at {w : World} {hi n gb off k : Nat} {l : List Fx.Challenge} {y : Fx.Challenge} (h : Rd w hi 3 (some ⟨gb, off, none⟩) n (many l)) (hk : k < n) (hy : l[k]? = some y) : w.cell? ⟨gb, off + k * 3 + 1, none⟩ = some (.int .i64 y.Account) ∧ w.cell? ⟨gb, off + k * 3 + 2, none⟩ = some (.int .i64 y.Until) := by
  obtain ⟨b', off', e, hb, hc⟩ := h.2 (by omega)
  injection e with e
  injection e with e1 e2 _
  subst e1
  subst e2
  have hd : (many l).drop (k * 3) = one y ++ many (l.drop (k + 1)) := by
    rw [← many_drop, List.drop_eq_getElem_cons (List.getElem?_eq_some_iff.1 hy).1, (List.getElem?_eq_some_iff.1 hy).2]
    rfl
  have hg : ∀ j, (many l)[k * 3 + j]? = (one y ++ many (l.drop (k + 1)))[j]? := fun j => by rw [← hd, List.getElem?_drop]
  refine ⟨?_, ?_⟩
  · have h1 := hc (k * 3 + 1) (by omega)
    rw [hg 1] at h1
    exact h1
  · have h1 := hc (k * 3 + 2) (by omega)
    rw [hg 2] at h1
    exact h1
def posC (l : List Fx.Challenge) (i : Int) : Option Nat := l.findIdx? (fun x => x.Id == i)
theorem posC_some {l : List Fx.Challenge} {i : Int} {k : Nat} (h : posC l i = some k) : k < l.length ∧ findC l i = k := by
  refine ⟨(List.findIdx?_eq_some_iff_getElem.1 h).1, ?_⟩
  unfold posC at h
  unfold findC
  rw [h]
theorem posC_none {l : List Fx.Challenge} {i : Int} (h : posC l i = none) : findC l i = -1 := by
  unfold posC at h
  unfold findC
  rw [h]
noncomputable def takeX (b : Fx.ChallengeBook) (i : Int) : Fx.ChallengeBook := if vbk b then (match posC b.Open i with | some k => ⟨b.Seed, b.Next, b.Open.take k ++ b.Open.drop (k + 1)⟩ | none => b) else b
noncomputable def takeB (b : Fx.ChallengeBook) (i a now : Int) : Bool := vbk b && (match posC b.Open i with | some k => (match b.Open[k]? with | some x => decide (x.Account = a) && decide (now ≤ x.Until) | none => false) | none => false)
theorem made_tk {w wf : World} {x : Fx.ChallengeBook} {xs : List Fx.Challenge} {n c : Nat} {A : Option Addr} {bs : List Nat} {s nx : Int} {b : Bool} (hx : xs = x.Open) (hs : s = x.Seed) (hm : nx = x.Next) (hn : n = xs.length) (o : Owns wf w.heap.size (.row 30 3 n (xs.flatMap Challenge.dcs)) (.slice A n c) bs) (hd : bs.Nodup) (HB : Below w.heap.size w wf) :
    MadeLx x.dcs (fun vs => .tuple #[.agg vs.toArray, .bool b]) w (.returned (.tuple #[.agg #[.int .i64 s, .int .i64 nx, .slice A n c], .bool b])) wf := by
  subst hx
  subst hs
  subst hm
  subst hn
  exact ⟨_, _, rfl, ChallengeBook.mkO o, hd, HB⟩
set_option maxHeartbeats 16000000 in
theorem specTake (w : World) (b : Fx.ChallengeBook) (i a now : Int) (us : List Value) (h : RdsL w w.heap.size b.dcs us) (hsh : ∀ A c, us = [.int .i64 b.Seed, .int .i64 b.Next, .slice A b.Open.length c] → Sh A b.Open.length c) (hn : b.Open.length ≤ 16000000) :
    Calls Try.prog 29 #[.agg us.toArray, .int .i64 i, .int .i64 a, .int .i64 now] w (MadeLx (takeX b i).dcs (fun vs => .tuple #[.agg vs.toArray, .bool (takeB b i a now)]) w) := by
  obtain ⟨A, c, rfl, g⟩ := ChallengeBook.rds h
  have hsh2 := hsh A c rfl
  have hr := rd_many g
  have HRD := Lib.hid (fun (wx : World) (hb : Below w.heap.size w wx) => show RdsL wx wx.heap.size b.dcs [.int .i64 b.Seed, .int .i64 b.Next, .slice A b.Open.length c] from rdsL_on h hb)
  clear h g hsh
  have HNN := Lib.hid hn
  have KV := Lib.hid (fun (wx : World) (hb : Below w.heap.size w wx) => specVbk wx b _ (HRD.out wx hb) HNN.out)
  have KF := Lib.hid (fun (wx : World) (hb : Below w.heap.size w wx) => specFindC wx b i _ (HRD.out wx hb) HNN.out)
  have KC := Lib.hid (fun (wx : World) (hb : Below w.heap.size w wx) => specCopyB wx b _ (HRD.out wx hb) HNN.out)
  have HTX := Lib.hid (show takeX b i = takeX b i from rfl)
  clear HTX
  obtain ⟨xs, hxs⟩ : ∃ xs, xs = b.Open := ⟨_, rfl⟩
  rw [← hxs] at hr hn hsh2 KV KF KC
  obtain ⟨n, hnn⟩ : ∃ n, n = xs.length := ⟨_, rfl⟩
  rw [← hnn] at hr hn hsh2 KV KF KC
  rw [← hxs, ← hnn]
  have HXS := Lib.hid hxs
  have HL := Lib.hid hnn
  clear hnn hxs HNN HRD
  have hsc := hsh2.cap
  have HSH := Lib.hid hsh2
  clear hsh2
  have HR := Lib.hid (show ∀ wx, Below w.heap.size w wx → Rd wx wx.heap.size 3 A n (many xs) from fun wx hb => hr.on hb)
  clear hr
  cases h1 : vbk b with
  | false =>
    have e1 : takeX b i = b := by unfold takeX; rw [h1]; rfl
    have e2 : takeB b i a now = false := by unfold takeB; rw [h1]; rfl
    rw [e1, e2]
    rw [h1] at KV
    clear e1 e2 h1
    obtain ⟨fc, hfc⟩ : ∃ fc, fc = findC xs i := ⟨_, rfl⟩
    rw [← hfc] at KF
    clear hfc
    go_enter Try.func29, Try.ntmps29
    obtain ⟨w1, hw1⟩ : ∃ y, y = w.alloc (.cells #[.int .i64 b.Seed, .int .i64 b.Next, .slice A n c] 26) := ⟨_, rfl⟩
    have o_p := var_owns w 26 3 [.int .i64 b.Seed, .int .i64 b.Next, .slice A n c] rfl
    have bw1 : Below w.heap.size w w1 := hw1 ▸ (Below.refl _ _).alloc (Nat.le_refl _) _
    rw [← hw1] at o_p
    have sw1 : w1.heap.size = w.heap.size + 1 := by rw [hw1]; simp
    have zw1 : w.heap.size < w1.heap.size := by rw [hw1]; simp
    have HB := bw1
    obtain ⟨w2, hw2⟩ : ∃ y, y = w1.alloc (.cells #[.int .i64 0, .int .i64 0, .slice none 0 0] 26) := ⟨_, rfl⟩
    have o_r := var_owns w1 26 3 [.int .i64 0, .int .i64 0, .slice none 0 0] rfl
    have bw2 : Below w1.heap.size w1 w2 := hw2 ▸ (Below.refl _ _).alloc (Nat.le_refl _) _
    rw [← hw2] at o_r
    rw [sw1] at o_r
    have sw2 : w2.heap.size = w.heap.size + 1 + 1 := by rw [hw2]; simp [sw1]
    have zw2 : w1.heap.size < w2.heap.size := by rw [hw2]; simp
    replace o_p := owns_below o_p bw2
    replace HB := HB.trans (bw2.mono HB.size)
    go_wp2_with fail
    rw [← hw1, ← hw2]
    clear hw1 hw2 sw1 sw2
    (refine (KF.out _ HB).mono ?_); rintro e w3 ⟨rfl, bw3⟩
    replace o_p := owns_below o_p bw3
    replace o_r := owns_below o_r bw3
    replace HB := HB.trans (bw3.mono HB.size)
    have zw3 := bw3.size
    obtain ⟨c_p0, f_p0, c_p1, f_p1, c_p2, f_p2, l_p⟩ := Vn.v3 o_p
    obtain ⟨c_r0, f_r0, c_r1, f_r1, c_r2, f_r2, l_r⟩ := Vn.v3 o_r
    go_wp2_with fail
    (refine (KV.out _ HB).mono ?_); rintro e w4 ⟨rfl, bw4⟩
    clear c_p0 f_p0 c_p1 f_p1 c_p2 f_p2 l_p c_r0 f_r0 c_r1 f_r1 c_r2 f_r2 l_r
    replace o_p := owns_below o_p bw4
    replace o_r := owns_below o_r bw4
    replace HB := HB.trans (bw4.mono HB.size)
    have zw4 := bw4.size
    obtain ⟨c_p0, f_p0, c_p1, f_p1, c_p2, f_p2, l_p⟩ := Vn.v3 o_p
    obtain ⟨c_r0, f_r0, c_r1, f_r1, c_r2, f_r2, l_r⟩ := Vn.v3 o_r
    go_wp2_with fail
    (refine (KC.out _ HB).mono ?_); rintro e w5 ⟨v_z, s_z, rfl, o_z, n_z, bw5⟩
    clear c_p0 f_p0 c_p1 f_p1 c_p2 f_p2 l_p c_r0 f_r0 c_r1 f_r1 c_r2 f_r2 l_r
    replace o_p := owns_below o_p bw5
    replace o_r := owns_below o_r bw5
    replace HB := HB.trans (bw5.mono HB.size)
    have zw5 := bw5.size
    obtain ⟨A_z, c_z, b_z, rfl, o_y, hby⟩ := ChallengeBook.owns o_z
    unfold ChallengesD at o_y
    rw [← HXS.out, ← HL.out] at o_y
    rw [show b.Open.length = n by rw [← HXS.out, ← HL.out]]
    have i_y := Fx.made_in o_y
    replace o_y := owns_base (show w.heap.size ≤ w4.heap.size by omega) _ _ _ o_y
    have ny : b_z.Nodup := (show s_z = b_z by simpa using hby) ▸ n_z
    clear o_z hby
    obtain ⟨c_p0, f_p0, c_p1, f_p1, c_p2, f_p2, l_p⟩ := Vn.v3 o_p
    obtain ⟨c_r0, f_r0, c_r1, f_r1, c_r2, f_r2, l_r⟩ := Vn.v3 o_r
    go_wp2
    clear c_p0 f_p0 c_p1 f_p1 c_p2 f_p2 l_p c_r0 f_r0 c_r1 f_r1 c_r2 f_r2 l_r
    obtain ⟨w6, hw6⟩ : ∃ y, y = (((w5.setCell ⟨(w.heap.size + 1), 0, none⟩ (.int .i64 b.Seed)).setCell ⟨(w.heap.size + 1), 1, none⟩ (.int .i64 b.Next)).setCell ⟨(w.heap.size + 1), 2, none⟩ (.slice A_z n c_z)) := ⟨_, rfl⟩
    obtain ⟨o_new, tw6⟩ := var_some [.int .i64 b.Seed, .int .i64 b.Next, .slice A_z n c_z] 0 _ _ o_r (by simp)
    rw [show setAll w5 ((w.heap.size + 1)) 0 [.int .i64 b.Seed, .int .i64 b.Next, .slice A_z n c_z] = w6 from hw6.symm] at o_new tw6
    replace o_r : Owns w6 _ (varD 26 3 [.int .i64 b.Seed, .int .i64 b.Next, .slice A_z n c_z]) _ _ := o_new
    clear o_new
    replace o_p := owns_turned o_p tw6 (fun b hb hb2 => by simp at hb hb2; omega)
    replace o_y := owns_turned o_y tw6 (fun b hb hb2 => by have h1 := i_y b hb; simp at hb2; omega)
    replace HB := below_turned HB tw6 (fun b hb => by simp at hb; omega)
    have zw6 := tw6.2.2.2.1
    rw [← hw6]
    clear hw6
    have y0 : w6.cell? ⟨(w.heap.size + 1), 0, none⟩ = some (.int .i64 b.Seed) := var_load o_r (by simp) 0 _ rfl
    have y1 : w6.cell? ⟨(w.heap.size + 1), 1, none⟩ = some (.int .i64 b.Next) := var_load o_r (by simp) 1 _ rfl
    have y2 : w6.cell? ⟨(w.heap.size + 1), 2, none⟩ = some (.slice A_z n c_z) := var_load o_r (by simp) 2 _ rfl
    refine bodyPost_ret (v := .tuple #[.agg #[.int .i64 b.Seed, .int .i64 b.Next, .slice A_z n c_z], .bool false]) (by simp [results, Try.results29, go_sem, y0, y1, y2]) rfl ?_
    exact made_tk HXS.out rfl rfl HL.out o_y ny HB
  | true =>
    rw [h1] at KV
    cases h2 : posC b.Open i with
    | none =>
      have e1 : takeX b i = b := by unfold takeX; rw [h1, h2]; rfl
      have e2 : takeB b i a now = false := by unfold takeB; rw [h1, h2]; rfl
      rw [e1, e2]
      have h3 := posC_none h2
      rw [← HXS.out] at h3
      rw [h3] at KF
      clear e1 e2 h1 h2 h3
      go_enter Try.func29, Try.ntmps29
      obtain ⟨w1, hw1⟩ : ∃ y, y = w.alloc (.cells #[.int .i64 b.Seed, .int .i64 b.Next, .slice A n c] 26) := ⟨_, rfl⟩
      have o_p := var_owns w 26 3 [.int .i64 b.Seed, .int .i64 b.Next, .slice A n c] rfl
      have bw1 : Below w.heap.size w w1 := hw1 ▸ (Below.refl _ _).alloc (Nat.le_refl _) _
      rw [← hw1] at o_p
      have sw1 : w1.heap.size = w.heap.size + 1 := by rw [hw1]; simp
      have zw1 : w.heap.size < w1.heap.size := by rw [hw1]; simp
      have HB := bw1
      obtain ⟨w2, hw2⟩ : ∃ y, y = w1.alloc (.cells #[.int .i64 0, .int .i64 0, .slice none 0 0] 26) := ⟨_, rfl⟩
      have o_r := var_owns w1 26 3 [.int .i64 0, .int .i64 0, .slice none 0 0] rfl
      have bw2 : Below w1.heap.size w1 w2 := hw2 ▸ (Below.refl _ _).alloc (Nat.le_refl _) _
      rw [← hw2] at o_r
      rw [sw1] at o_r
      have sw2 : w2.heap.size = w.heap.size + 1 + 1 := by rw [hw2]; simp [sw1]
      have zw2 : w1.heap.size < w2.heap.size := by rw [hw2]; simp
      replace o_p := owns_below o_p bw2
      replace HB := HB.trans (bw2.mono HB.size)
      go_wp2_with fail
      rw [← hw1, ← hw2]
      clear hw1 hw2 sw1 sw2
      (refine (KF.out _ HB).mono ?_); rintro e w3 ⟨rfl, bw3⟩
      replace o_p := owns_below o_p bw3
      replace o_r := owns_below o_r bw3
      replace HB := HB.trans (bw3.mono HB.size)
      have zw3 := bw3.size
      obtain ⟨c_p0, f_p0, c_p1, f_p1, c_p2, f_p2, l_p⟩ := Vn.v3 o_p
      obtain ⟨c_r0, f_r0, c_r1, f_r1, c_r2, f_r2, l_r⟩ := Vn.v3 o_r
      go_wp2_with fail
      (refine (KV.out _ HB).mono ?_); rintro e w4 ⟨rfl, bw4⟩
      clear c_p0 f_p0 c_p1 f_p1 c_p2 f_p2 l_p c_r0 f_r0 c_r1 f_r1 c_r2 f_r2 l_r
      replace o_p := owns_below o_p bw4
      replace o_r := owns_below o_r bw4
      replace HB := HB.trans (bw4.mono HB.size)
      have zw4 := bw4.size
      obtain ⟨c_p0, f_p0, c_p1, f_p1, c_p2, f_p2, l_p⟩ := Vn.v3 o_p
      obtain ⟨c_r0, f_r0, c_r1, f_r1, c_r2, f_r2, l_r⟩ := Vn.v3 o_r
      go_wp2_with fail
      (refine (KC.out _ HB).mono ?_); rintro e w5 ⟨v_z, s_z, rfl, o_z, n_z, bw5⟩
      clear c_p0 f_p0 c_p1 f_p1 c_p2 f_p2 l_p c_r0 f_r0 c_r1 f_r1 c_r2 f_r2 l_r
      replace o_p := owns_below o_p bw5
      replace o_r := owns_below o_r bw5
      replace HB := HB.trans (bw5.mono HB.size)
      have zw5 := bw5.size
      obtain ⟨A_z, c_z, b_z, rfl, o_y, hby⟩ := ChallengeBook.owns o_z
      unfold ChallengesD at o_y
      rw [← HXS.out, ← HL.out] at o_y
      rw [show b.Open.length = n by rw [← HXS.out, ← HL.out]]
      have i_y := Fx.made_in o_y
      replace o_y := owns_base (show w.heap.size ≤ w4.heap.size by omega) _ _ _ o_y
      have ny : b_z.Nodup := (show s_z = b_z by simpa using hby) ▸ n_z
      clear o_z hby
      obtain ⟨c_p0, f_p0, c_p1, f_p1, c_p2, f_p2, l_p⟩ := Vn.v3 o_p
      obtain ⟨c_r0, f_r0, c_r1, f_r1, c_r2, f_r2, l_r⟩ := Vn.v3 o_r
      go_wp2
      clear c_p0 f_p0 c_p1 f_p1 c_p2 f_p2 l_p c_r0 f_r0 c_r1 f_r1 c_r2 f_r2 l_r
      obtain ⟨w6, hw6⟩ : ∃ y, y = (((w5.setCell ⟨(w.heap.size + 1), 0, none⟩ (.int .i64 b.Seed)).setCell ⟨(w.heap.size + 1), 1, none⟩ (.int .i64 b.Next)).setCell ⟨(w.heap.size + 1), 2, none⟩ (.slice A_z n c_z)) := ⟨_, rfl⟩
      obtain ⟨o_new, tw6⟩ := var_some [.int .i64 b.Seed, .int .i64 b.Next, .slice A_z n c_z] 0 _ _ o_r (by simp)
      rw [show setAll w5 ((w.heap.size + 1)) 0 [.int .i64 b.Seed, .int .i64 b.Next, .slice A_z n c_z] = w6 from hw6.symm] at o_new tw6
      replace o_r : Owns w6 _ (varD 26 3 [.int .i64 b.Seed, .int .i64 b.Next, .slice A_z n c_z]) _ _ := o_new
      clear o_new
      replace o_p := owns_turned o_p tw6 (fun b hb hb2 => by simp at hb hb2; omega)
      replace o_y := owns_turned o_y tw6 (fun b hb hb2 => by have h1 := i_y b hb; simp at hb2; omega)
      replace HB := below_turned HB tw6 (fun b hb => by simp at hb; omega)
      have zw6 := tw6.2.2.2.1
      rw [← hw6]
      clear hw6
      have y0 : w6.cell? ⟨(w.heap.size + 1), 0, none⟩ = some (.int .i64 b.Seed) := var_load o_r (by simp) 0 _ rfl
      have y1 : w6.cell? ⟨(w.heap.size + 1), 1, none⟩ = some (.int .i64 b.Next) := var_load o_r (by simp) 1 _ rfl
      have y2 : w6.cell? ⟨(w.heap.size + 1), 2, none⟩ = some (.slice A_z n c_z) := var_load o_r (by simp) 2 _ rfl
      refine bodyPost_ret (v := .tuple #[.agg #[.int .i64 b.Seed, .int .i64 b.Next, .slice A_z n c_z], .bool false]) (by simp [results, Try.results29, go_sem, y0, y1, y2]) rfl ?_
      exact made_tk HXS.out rfl rfl HL.out o_y ny HB
    | some k =>
      obtain ⟨h4, h3⟩ := posC_some h2
      rw [← HXS.out] at h3 h4
      rw [h3] at KF
      obtain ⟨y, hy⟩ := get_some xs (i := k) h4
      have hkn : k < n := by rw [HL.out]; exact h4
      have e1 : takeX b i = ⟨b.Seed, b.Next, xs.take k ++ xs.drop (k + 1)⟩ := by unfold takeX; rw [h1, h2, HXS.out]; rfl
      have e2 : takeB b i a now = (decide (y.Account = a) && decide (now ≤ y.Until)) := by unfold takeB; rw [h1, h2, ← HXS.out]; show (true && (match xs[k]? with | some x => _ | none => _)) = _; rw [hy]; rfl
      rw [e1, e2]
      clear e1 e2 h1 h2 h3 h4
      obtain ⟨r, hr⟩ : ∃ r, r = (decide (y.Account = a) && decide (now ≤ y.Until)) := ⟨_, rfl⟩
      rw [← hr]
      have HRB := Lib.hid hr
      clear hr
      have HY := Lib.hid hy
      clear hy
      go_enter Try.func29, Try.ntmps29
      obtain ⟨w1, hw1⟩ : ∃ y, y = w.alloc (.cells #[.int .i64 b.Seed, .int .i64 b.Next, .slice A n c] 26) := ⟨_, rfl⟩
      have o_p := var_owns w 26 3 [.int .i64 b.Seed, .int .i64 b.Next, .slice A n c] rfl
      have bw1 : Below w.heap.size w w1 := hw1 ▸ (Below.refl _ _).alloc (Nat.le_refl _) _
      rw [← hw1] at o_p
      have sw1 : w1.heap.size = w.heap.size + 1 := by rw [hw1]; simp
      have zw1 : w.heap.size < w1.heap.size := by rw [hw1]; simp
      have HB := bw1
      obtain ⟨w2, hw2⟩ : ∃ y, y = w1.alloc (.cells #[.int .i64 0, .int .i64 0, .slice none 0 0] 26) := ⟨_, rfl⟩
      have o_r := var_owns w1 26 3 [.int .i64 0, .int .i64 0, .slice none 0 0] rfl
      have bw2 : Below w1.heap.size w1 w2 := hw2 ▸ (Below.refl _ _).alloc (Nat.le_refl _) _
      rw [← hw2] at o_r
      rw [sw1] at o_r
      have sw2 : w2.heap.size = w.heap.size + 1 + 1 := by rw [hw2]; simp [sw1]
      have zw2 : w1.heap.size < w2.heap.size := by rw [hw2]; simp
      replace o_p := owns_below o_p bw2
      replace HB := HB.trans (bw2.mono HB.size)
      go_wp2_with fail
      rw [← hw1, ← hw2]
      clear hw1 hw2 sw1 sw2
      (refine (KF.out _ HB).mono ?_); rintro e w3 ⟨rfl, bw3⟩
      replace o_p := owns_below o_p bw3
      replace o_r := owns_below o_r bw3
      replace HB := HB.trans (bw3.mono HB.size)
      have zw3 := bw3.size
      obtain ⟨c_p0, f_p0, c_p1, f_p1, c_p2, f_p2, l_p⟩ := Vn.v3 o_p
      obtain ⟨c_r0, f_r0, c_r1, f_r1, c_r2, f_r2, l_r⟩ := Vn.v3 o_r
      go_wp2_with fail
      (refine (KV.out _ HB).mono ?_); rintro e w4 ⟨rfl, bw4⟩
      clear c_p0 f_p0 c_p1 f_p1 c_p2 f_p2 l_p c_r0 f_r0 c_r1 f_r1 c_r2 f_r2 l_r
      replace o_p := owns_below o_p bw4
      replace o_r := owns_below o_r bw4
      replace HB := HB.trans (bw4.mono HB.size)
      have zw4 := bw4.size
      clear KV KF KC
      cases A with
      | none => have h0 := (HSH.out.nil_ rfl).1; omega
      | some ad =>
        obtain ⟨gb, off, sp⟩ := ad
        obtain rfl : sp = none := HSH.out.spot _ rfl
        have EC := Lib.hid (show ∀ wx, Below w.heap.size w wx → wx.cell? ⟨gb, off + k * 3 + 1, none⟩ = some (.int .i64 y.Account) ∧ wx.cell? ⟨gb, off + k * 3 + 2, none⟩ = some (.int .i64 y.Until) from fun wx hb => el_at (HR.out wx hb) hkn HY.out)
        have q1 : (0 : Int) ≤ (k : Int) := by omega
        have q2 : (k : Int) ≤ (c : Int) := by omega
        have q3 : (k : Int) ≤ (n : Int) := by omega
        have q4 : (n : Int) ≤ (c : Int) := by omega
        have q5 : (0 : Int) ≤ (k : Int) + 1 := by omega
        have q6 : (k : Int) + 1 ≤ (c : Int) := by omega
        have q7 : (k : Int) + 1 ≤ (n : Int) := by omega
        have q8 : (k : Int) < (n : Int) := by omega
        have q9 : ¬ (k : Int) < 0 := by omega
        have HW1 := Lib.hid (show IntKind.i64.wrap ((k : Int) + 1) = (k : Int) + 1 from IntWalk.i64_in _ (by omega))
        have HW2 := Lib.hid (show ((k : Int) + 1).toNat = k + 1 by omega)
        obtain ⟨c_p0, f_p0, c_p1, f_p1, c_p2, f_p2, l_p⟩ := Vn.v3 o_p
        obtain ⟨c_r0, f_r0, c_r1, f_r1, c_r2, f_r2, l_r⟩ := Vn.v3 o_r
        obtain ⟨w5, hw5⟩ : ∃ y, y = w4.alloc (.cells #[.int .i64 b.Seed, .int .i64 b.Next, .slice (some ⟨gb, off, none⟩) n c] 26) := ⟨_, rfl⟩
        have o_o := var_owns w4 26 3 [.int .i64 b.Seed, .int .i64 b.Next, .slice (some ⟨gb, off, none⟩) n c] rfl
        have bw5 : Below w4.heap.size w4 w5 := hw5 ▸ (Below.refl _ _).alloc (Nat.le_refl _) _
        rw [← hw5] at o_o
        have sw5 : w5.heap.size = w4.heap.size + 1 := by rw [hw5]; simp
        have zw5 : w4.heap.size < w5.heap.size := by rw [hw5]; simp
        replace o_p := owns_below o_p bw5
        replace o_r := owns_below o_r bw5
        replace HB := HB.trans (bw5.mono HB.size)
        by_cases hkc : k + 1 = c
        · subst hkc
          have q10 : (k : Int) ≤ (k : Int) + 1 := by omega
          have q11 : (n : Int) ≤ (k : Int) + 1 := by omega
          have q12 : (k : Int) + 1 ≤ (k : Int) + 1 := by omega
          by_cases ea : y.Account = a
          · have ea2 : (y.Account == a) = true := by simpa using ea
            by_cases eb : now ≤ y.Until
            · have eb2 : decide (now ≤ y.Until) = true := by simpa using eb
              obtain rfl : r = true := by rw [HRB.out, decide_eq_true ea, eb2]; rfl
              clear ea eb
              go_wp2_with fail
              rw [← hw5]
              clear hw5 sw5
              clear c_p0 f_p0 c_p1 f_p1 c_p2 f_p2 l_p c_r0 f_r0 c_r1 f_r1 c_r2 f_r2 l_r
              have HN := Below.refl w5.heap.size w5
              obtain ⟨w6, hw6⟩ : ∃ y, y = w5.drew := ⟨_, rfl⟩
              have bw6 : Below w5.heap.size w5 w6 := hw6 ▸ drewN_below w5 1 _
              replace o_p := owns_below o_p bw6
              replace o_r := owns_below o_r bw6
              replace o_o := owns_below o_o bw6
              replace HB := HB.trans (bw6.mono HB.size)
              have zw6 := bw6.size
              replace HN := HN.trans (bw6.mono HN.size)
              refine wp_region_held_drew (S := (fun wx => wx.cell? ⟨w.heap.size, 0, none⟩ = some (.int .i64 b.Seed) ∧ wx.cell? ⟨w.heap.size, 1, none⟩ = some (.int .i64 b.Next) ∧ wx.cell? ⟨w.heap.size, 2, none⟩ = some (.slice (some ⟨gb, off, none⟩) n (k + 1)))) (by kernel_rfl) ?_ (fun hHeld => ?_)
              · rw [← hw6]; exact ⟨var_load o_p (by simp) 0 _ rfl, var_load o_p (by simp) 1 _ rfl, var_load o_p (by simp) 2 _ rfl⟩
              rw [← hw6] at hHeld ⊢
              clear hw6
              refine wpAnyH_take (i := 1) (oi := ?oix1_1_1) (v := ?vx1_1_1) ?hix1_1_1 (by kernel_rfl) (by kernel_rfl) (by kernel_rfl) ?hQx1_1_1 (Or.inl ⟨?hwx1_1_1, ?hyx1_1_1⟩) (by assumption) ?_
              case hix1_1_1 => simp only [List.getElem?_toArray, List.getElem?_cons_succ, List.getElem?_cons_zero]; rfl
              case hQx1_1_1 => exact fun _ _ _ h => h
              case hwx1_1_1 => rfl
              case hyx1_1_1 => intro w hSw; have hw1 := HW1.out; have hw2 := HW2.out; (try dsimp only at hSw); (first | (go_simp; done) | (go_simp; with_reducible rfl))
              try simp only [Act.put, List.setIfInBounds_toArray, List.set_cons_zero, List.set_cons_succ]
              refine wpAnyH_take (i := 2) (oi := ?oix1_2_2) (v := ?vx1_2_2) ?hix1_2_2 (by kernel_rfl) (by kernel_rfl) (by kernel_rfl) ?hQx1_2_2 (Or.inl ⟨?hwx1_2_2, ?hyx1_2_2⟩) (by assumption) ?_
              case hix1_2_2 => simp only [List.getElem?_toArray, List.getElem?_cons_succ, List.getElem?_cons_zero]; rfl
              case hQx1_2_2 => exact fun _ _ _ h => h
              case hwx1_2_2 => rfl
              case hyx1_2_2 => intro w hSw; have hw1 := HW1.out; have hw2 := HW2.out; (try dsimp only at hSw); (first | (go_simp; done) | (go_simp; with_reducible rfl))
              try simp only [Act.put, List.setIfInBounds_toArray, List.set_cons_zero, List.set_cons_succ]
              refine wpAnyH_take (i := 3) (oi := ?oix1_3_3) (v := ?vx1_3_3) ?hix1_3_3 (by kernel_rfl) (by kernel_rfl) (by kernel_rfl) ?hQx1_3_3 (Or.inl ⟨?hwx1_3_3, ?hyx1_3_3⟩) (by assumption) ?_
              case hix1_3_3 => simp only [List.getElem?_toArray, List.getElem?_cons_succ, List.getElem?_cons_zero]; rfl
              case hQx1_3_3 => exact fun _ _ _ h => h
              case hwx1_3_3 => rfl
              case hyx1_3_3 => intro w hSw; have hw1 := HW1.out; have hw2 := HW2.out; (try dsimp only at hSw); (first | (go_simp; done) | (go_simp; with_reducible rfl))
              try simp only [Act.put, List.setIfInBounds_toArray, List.set_cons_zero, List.set_cons_succ]
              refine wpAnyH_take (i := 4) (oi := ?oix1_4_4) (v := ?vx1_4_4) ?hix1_4_4 (by kernel_rfl) (by kernel_rfl) (by kernel_rfl) ?hQx1_4_4 (Or.inl ⟨?hwx1_4_4, ?hyx1_4_4⟩) (by assumption) ?_
              case hix1_4_4 => simp only [List.getElem?_toArray, List.getElem?_cons_succ, List.getElem?_cons_zero]; rfl
              case hQx1_4_4 => exact fun _ _ _ h => h
              case hwx1_4_4 => rfl
              case hyx1_4_4 => intro w hSw; have hw1 := HW1.out; have hw2 := HW2.out; (try dsimp only at hSw); (first | (go_simp; done) | (go_simp; with_reducible rfl))
              try simp only [Act.put, List.setIfInBounds_toArray, List.set_cons_zero, List.set_cons_succ]
              refine wpAnyH_take (i := 6) (oi := ?oix1_6_5) (v := ?vx1_6_5) ?hix1_6_5 (by kernel_rfl) (by kernel_rfl) (by kernel_rfl) ?hQx1_6_5 (Or.inl ⟨?hwx1_6_5, ?hyx1_6_5⟩) (by assumption) ?_
              case hix1_6_5 => simp only [List.getElem?_toArray, List.getElem?_cons_succ, List.getElem?_cons_zero]; rfl
              case hQx1_6_5 => exact fun _ _ _ h => h
              case hwx1_6_5 => rfl
              case hyx1_6_5 => intro w hSw; have hw1 := HW1.out; have hw2 := HW2.out; (try dsimp only at hSw); (first | (go_simp; done) | (go_simp; with_reducible rfl))
              try simp only [Act.put, List.setIfInBounds_toArray, List.set_cons_zero, List.set_cons_succ]
              refine wpAnyH_take (i := 7) (oi := ?oix1_7_6) (v := ?vx1_7_6) ?hix1_7_6 (by kernel_rfl) (by kernel_rfl) (by kernel_rfl) ?hQx1_7_6 (Or.inl ⟨?hwx1_7_6, ?hyx1_7_6⟩) (by assumption) ?_
              case hix1_7_6 => simp only [List.getElem?_toArray, List.getElem?_cons_succ, List.getElem?_cons_zero]; rfl
              case hQx1_7_6 => exact fun _ _ _ h => h
              case hwx1_7_6 => rfl
              case hyx1_7_6 => intro w hSw; have hw1 := HW1.out; have hw2 := HW2.out; (try dsimp only at hSw); (first | (go_simp; done) | (go_simp; with_reducible rfl))
              try simp only [Act.put, List.setIfInBounds_toArray, List.set_cons_zero, List.set_cons_succ]
              refine wpAnyH_take (i := 8) (oi := ?oix1_8_7) (v := ?vx1_8_7) ?hix1_8_7 (by kernel_rfl) (by kernel_rfl) (by kernel_rfl) ?hQx1_8_7 (Or.inl ⟨?hwx1_8_7, ?hyx1_8_7⟩) (by assumption) ?_
              case hix1_8_7 => simp only [List.getElem?_toArray, List.getElem?_cons_succ, List.getElem?_cons_zero]; rfl
              case hQx1_8_7 => exact fun _ _ _ h => h
              case hwx1_8_7 => rfl
              case hyx1_8_7 => intro w hSw; have hw1 := HW1.out; have hw2 := HW2.out; (try dsimp only at hSw); (first | (go_simp; done) | (go_simp; with_reducible rfl))
              try simp only [Act.put, List.setIfInBounds_toArray, List.set_cons_zero, List.set_cons_succ]
              refine wpAnyH_take (i := 9) (oi := ?oix1_9_8) (v := ?vx1_9_8) ?hix1_9_8 (by kernel_rfl) (by kernel_rfl) (by kernel_rfl) ?hQx1_9_8 (Or.inl ⟨?hwx1_9_8, ?hyx1_9_8⟩) (by assumption) ?_
              case hix1_9_8 => simp only [List.getElem?_toArray, List.getElem?_cons_succ, List.getElem?_cons_zero]; rfl
              case hQx1_9_8 => exact fun _ _ _ h => h
              case hwx1_9_8 => rfl
              case hyx1_9_8 => intro w hSw; have hw1 := HW1.out; have hw2 := HW2.out; (try dsimp only at hSw); (first | (go_simp; done) | (go_simp; with_reducible rfl))
              try simp only [Act.put, List.setIfInBounds_toArray, List.set_cons_zero, List.set_cons_succ]
              refine wpAnyH_take (i := 10) (oi := ?oix1_10_9) (v := ?vx1_10_9) ?hix1_10_9 (by kernel_rfl) (by kernel_rfl) (by kernel_rfl) ?hQx1_10_9 (Or.inl ⟨?hwx1_10_9, ?hyx1_10_9⟩) (by assumption) ?_
              case hix1_10_9 => simp only [List.getElem?_toArray, List.getElem?_cons_succ, List.getElem?_cons_zero]; rfl
              case hQx1_10_9 => exact fun _ _ _ h => h
              case hwx1_10_9 => rfl
              case hyx1_10_9 => intro w hSw; have hw1 := HW1.out; have hw2 := HW2.out; (try dsimp only at hSw); (first | (go_simp; done) | (go_simp; with_reducible rfl))
              try simp only [Act.put, List.setIfInBounds_toArray, List.set_cons_zero, List.set_cons_succ]
              refine wpAnyH_ready (rs := [0]) (by kernel_rfl) (by simp) ?_
              refine AllReadyH.cons (o := ?ox1_0_10) ?hix1_0_10 (fun K hK => ?gx1_0_10) AllReadyH.nil
              case hix1_0_10 => simp only [List.getElem?_toArray, List.getElem?_cons_zero]; rfl
              case gx1_0_10 =>
                go_simp
                obtain ⟨w7, hw7⟩ : ∃ y, y = w6.alloc (.cells #[] 30) := ⟨_, rfl⟩
                have o_R0 : (w6.alloc (.cells #[] 30)).ownsRow w5.heap.size 30 3 (.slice (some ⟨w6.heap.size, 0, none⟩) 0 0) 0 (many []) := own_base (own_emp w6) HN.size
                rw [← hw7] at o_R0 ⊢
                have bw7 : Below w6.heap.size w6 w7 := hw7 ▸ (Below.refl _ _).alloc (Nat.le_refl _) _
                clear hw7
                replace HN := HN.trans (bw7.mono HN.size)
                replace o_p := owns_below o_p bw7
                replace o_r := owns_below o_r bw7
                replace o_o := owns_below o_o bw7
                replace HB := HB.trans (bw7.mono HB.size)
                have zw7 := bw7.size
                refine hK.out _ _ ?_ (fun hHeld => ?_)
                · exact ⟨var_load o_p (by simp) 0 _ rfl, var_load o_p (by simp) 1 _ rfl, var_load o_p (by simp) 2 _ rfl⟩
                clear hK K
                try simp only [Act.put, List.setIfInBounds_toArray, List.set_cons_zero, List.set_cons_succ]
                refine wpAnyH_ready (rs := [5]) (by kernel_rfl) (by simp) ?_
                refine AllReadyH.cons (o := ?ox1_5_11) ?hix1_5_11 (fun K hK => ?gx1_5_11) AllReadyH.nil
                case hix1_5_11 => simp only [List.getElem?_toArray, List.getElem?_cons_succ, List.getElem?_cons_zero]; rfl
                case gx1_5_11 =>
                  refine stepC w7 rfl (.tmp 25) (.tmp 29) rfl (w5.heap.size) (.slice (some ⟨w6.heap.size, 0, none⟩) 0 0) (0) _ (by simp [Act.eval]) o_R0 _ (some ⟨gb, off, none⟩) (k) (k + 1) (xs.take k) (by simp [Act.eval]) (rd_take3 (HR.out _ HB) (by omega)) (by omega) HN.size ?_
                  intro vw8 w8 o_R5 gw8 kw8
                  have Tw8 := turned_grown gw8
                  have Qw8 : ∀ b, b ∈ Option.toList (Value.ownBlock (.slice (some ⟨w6.heap.size, 0, none⟩) 0 0)) → w5.heap.size ≤ b := fun b hb => (o_R0.lt b (by simpa using hb)).1
                  replace o_p := owns_turned o_p Tw8 (fun b hb hb2 => by have h1 := Qw8 b hb2; simp at hb; omega)
                  replace o_r := owns_turned o_r Tw8 (fun b hb hb2 => by have h1 := Qw8 b hb2; simp at hb; omega)
                  replace o_o := owns_turned o_o Tw8 (fun b hb hb2 => by have h1 := Qw8 b hb2; simp at hb; omega)
                  replace HN := HN.grown gw8 HN.size (fun j hj => (o_R0.lt j hj).1)
                  replace HB := below_turned HB Tw8 (fun b hb => by have h1 := Qw8 b hb; omega)
                  have zw8 := gw8.size
                  rw [Nat.zero_add, List.nil_append] at o_R5
                  obtain ⟨A5, c5, rfl⟩ := own_nil_form o_R5
                  clear o_R0 kw8 gw8
                  refine hK.out _ _ ?_ (fun hHeld => ?_)
                  · exact ⟨var_load o_p (by simp) 0 _ rfl, var_load o_p (by simp) 1 _ rfl, var_load o_p (by simp) 2 _ rfl⟩
                  clear hK K
                  try simp only [Act.put, List.setIfInBounds_toArray, List.set_cons_zero, List.set_cons_succ]
                  refine wpAnyH_ready (rs := [11]) (by kernel_rfl) (by simp) ?_
                  refine AllReadyH.cons (o := ?ox1_11_12) ?hix1_11_12 (fun K hK => ?gx1_11_12) AllReadyH.nil
                  case hix1_11_12 => simp only [List.getElem?_toArray, List.getElem?_cons_succ, List.getElem?_cons_zero]; rfl
                  case gx1_11_12 =>
                    refine stepC w8 rfl (.tmp 30) (.tmp 35) rfl (w5.heap.size) (.slice A5 (k) c5) (k) _ (by simp [Act.eval]) o_R5 _ (some ⟨gb, off, none⟩) (0) (0) (xs.drop (k + 1)) (by simp [Act.eval]) (rd_last (hi := 0) HL.out (by omega)) (by omega) HN.size ?_
                    intro vw9 w9 o_R11 gw9 kw9
                    have Tw9 := turned_grown gw9
                    have Qw9 : ∀ b, b ∈ Option.toList (Value.ownBlock (.slice A5 (k) c5)) → w5.heap.size ≤ b := fun b hb => (o_R5.lt b (by simpa using hb)).1
                    replace o_p := owns_turned o_p Tw9 (fun b hb hb2 => by have h1 := Qw9 b hb2; simp at hb; omega)
                    replace o_r := owns_turned o_r Tw9 (fun b hb hb2 => by have h1 := Qw9 b hb2; simp at hb; omega)
                    replace o_o := owns_turned o_o Tw9 (fun b hb hb2 => by have h1 := Qw9 b hb2; simp at hb; omega)
                    replace HN := HN.grown gw9 HN.size (fun j hj => (o_R5.lt j hj).1)
                    replace HB := below_turned HB Tw9 (fun b hb => by have h1 := Qw9 b hb; omega)
                    have zw9 := gw9.size
                    rw [Nat.add_zero] at o_R11
                    obtain ⟨A11, c11, rfl⟩ := own_nil_form o_R11
                    clear o_R5 kw9 gw9
                    refine hK.out _ _ ?_ (fun hHeld => ?_)
                    · exact ⟨var_load o_p (by simp) 0 _ rfl, var_load o_p (by simp) 1 _ rfl, var_load o_p (by simp) 2 _ rfl⟩
                    clear hK K
                    try simp only [Act.put, List.setIfInBounds_toArray, List.set_cons_zero, List.set_cons_succ]
                    refine wpAnyH_take (i := 12) (oi := ?oix1_12_13) (v := ?vx1_12_13) ?hix1_12_13 (by kernel_rfl) (by kernel_rfl) (by kernel_rfl) ?hQx1_12_13 (Or.inl ⟨?hwx1_12_13, ?hyx1_12_13⟩) (by assumption) ?_
                    case hix1_12_13 => simp only [List.getElem?_toArray, List.getElem?_cons_succ, List.getElem?_cons_zero]; rfl
                    case hQx1_12_13 => exact fun _ _ _ h => h
                    case hwx1_12_13 => rfl
                    case hyx1_12_13 => intro w hSw; have hw1 := HW1.out; have hw2 := HW2.out; (try dsimp only at hSw); (first | (go_simp; done) | (go_simp; with_reducible rfl))
                    try simp only [Act.put, List.setIfInBounds_toArray, List.set_cons_zero, List.set_cons_succ]
                    refine wpAnyH_ready (rs := [13]) (by kernel_rfl) (by simp) ?_
                    refine AllReadyH.cons (o := ?ox1_13_14) ?hix1_13_14 (fun K hK => ?gx1_13_14) AllReadyH.nil
                    case hix1_13_14 => simp only [List.getElem?_toArray, List.getElem?_cons_succ, List.getElem?_cons_zero]; rfl
                    case gx1_13_14 =>
                      obtain ⟨c_p0, f_p0, c_p1, f_p1, c_p2, f_p2, l_p⟩ := Vn.v3 o_p
                      obtain ⟨c_r0, f_r0, c_r1, f_r1, c_r2, f_r2, l_r⟩ := Vn.v3 o_r
                      obtain ⟨c_o0, f_o0, c_o1, f_o1, c_o2, f_o2, l_o⟩ := Vn.v3 o_o
                      go_simp
                      clear c_p0 f_p0 c_p1 f_p1 c_p2 f_p2 l_p c_r0 f_r0 c_r1 f_r1 c_r2 f_r2 l_r c_o0 f_o0 c_o1 f_o1 c_o2 f_o2 l_o
                      obtain ⟨w10, hw10⟩ : ∃ y, y = (w9.setCell ⟨w4.heap.size, 2, none⟩ (.slice A11 (k) c11)) := ⟨_, rfl⟩
                      obtain ⟨o_new, tw10⟩ := var_some [.slice A11 (k) c11] 2 _ _ o_o (by simp)
                      rw [show setAll w9 (w4.heap.size) 2 [.slice A11 (k) c11] = w10 from hw10.symm] at o_new tw10
                      replace o_o : Owns w10 _ (varD 26 3 [.int .i64 b.Seed, .int .i64 b.Next, .slice A11 (k) c11]) _ _ := o_new
                      clear o_new
                      replace o_p := owns_turned o_p tw10 (fun b hb hb2 => by simp at hb hb2; omega)
                      replace o_r := owns_turned o_r tw10 (fun b hb hb2 => by simp at hb hb2; omega)
                      replace HB := below_turned HB tw10 (fun b hb => by simp at hb; omega)
                      have zw10 := tw10.2.2.2.1
                      rw [← hw10]
                      clear hw10
                      replace o_R11 := many_turned o_R11 tw10 (fun b hb hb2 => by have h1 := (o_R11.lt b (by simpa using hb)).1; simp at hb2; omega)
                      refine hK.out _ _ ?_ (fun hHeld => ?_)
                      · exact ⟨var_load o_p (by simp) 0 _ rfl, var_load o_p (by simp) 1 _ rfl, var_load o_p (by simp) 2 _ rfl⟩
                      clear hK K
                      try simp only [Act.put, List.setIfInBounds_toArray, List.set_cons_zero, List.set_cons_succ]
                      refine wpAnyH_done (by kernel_rfl) ?_ _
                      have i_z0 := Fx.made_in (owns_many o_R11)
                      have o_z := owns_many (own_base o_R11 (show w.heap.size ≤ w5.heap.size by omega))
                      have i_z := i_z0
                      clear i_z0 o_R11
                      obtain ⟨c_p0, f_p0, c_p1, f_p1, c_p2, f_p2, l_p⟩ := Vn.v3 o_p
                      obtain ⟨c_r0, f_r0, c_r1, f_r1, c_r2, f_r2, l_r⟩ := Vn.v3 o_r
                      obtain ⟨c_o0, f_o0, c_o1, f_o1, c_o2, f_o2, l_o⟩ := Vn.v3 o_o
                      go_wp2_with fail
                      clear c_p0 f_p0 c_p1 f_p1 c_p2 f_p2 l_p c_r0 f_r0 c_r1 f_r1 c_r2 f_r2 l_r c_o0 f_o0 c_o1 f_o1 c_o2 f_o2 l_o
                      obtain ⟨w11, hw11⟩ : ∃ y, y = w10.drew := ⟨_, rfl⟩
                      have bw11 : Below w10.heap.size w10 w11 := hw11 ▸ drewN_below w10 1 _
                      replace o_p := owns_below o_p bw11
                      replace o_r := owns_below o_r bw11
                      replace o_o := owns_below o_o bw11
                      replace o_z := owns_below o_z bw11
                      replace HB := HB.trans (bw11.mono HB.size)
                      have zw11 := bw11.size
                      refine wp_region_held_drew (S := (fun (wx : World) => wx.cell? ⟨w.heap.size, 0, none⟩ = some (.int .i64 b.Seed) ∧ wx.cell? ⟨w.heap.size, 1, none⟩ = some (.int .i64 b.Next) ∧ wx.cell? ⟨w.heap.size, 2, none⟩ = some (.slice (some ⟨gb, off, none⟩) n (k + 1)) ∧ wx.cell? ⟨w4.heap.size, 0, none⟩ = some (.int .i64 b.Seed) ∧ wx.cell? ⟨w4.heap.size, 1, none⟩ = some (.int .i64 b.Next) ∧ wx.cell? ⟨w4.heap.size, 2, none⟩ = some (.slice A11 (k) c11) ∧ wx.cell? ⟨gb, off + k * 3 + 1, none⟩ = some (.int .i64 y.Account) ∧ wx.cell? ⟨gb, off + k * 3 + 2, none⟩ = some (.int .i64 y.Until))) (by kernel_rfl) ?_ (fun hHeld => ?_)
                      · rw [← hw11]; exact ⟨var_load o_p (by simp) 0 _ rfl, var_load o_p (by simp) 1 _ rfl, var_load o_p (by simp) 2 _ rfl, var_load o_o (by simp) 0 _ rfl, var_load o_o (by simp) 1 _ rfl, var_load o_o (by simp) 2 _ rfl, (EC.out _ HB).1, (EC.out _ HB).2⟩
                      rw [← hw11] at hHeld ⊢
                      clear hw11
                      refine wpAnyH_take (i := 0) (oi := ?oiy1_0_1) (v := ?vy1_0_1) ?hiy1_0_1 (by kernel_rfl) (by kernel_rfl) (by kernel_rfl) ?hQy1_0_1 (Or.inl ⟨?hwy1_0_1, ?hyy1_0_1⟩) (by assumption) ?_
                      case hiy1_0_1 => simp only [List.getElem?_toArray, List.getElem?_cons_zero]; rfl
                      case hQy1_0_1 => exact fun _ _ _ h => h
                      case hwy1_0_1 => rfl
                      case hyy1_0_1 => intro w hSw; (try dsimp only at hSw); (first | (go_simp; done) | (go_simp; with_reducible rfl))
                      try simp only [Act.put, List.setIfInBounds_toArray, List.set_cons_zero, List.set_cons_succ]
                      refine wpAnyH_take (i := 1) (oi := ?oiy1_1_2) (v := ?vy1_1_2) ?hiy1_1_2 (by kernel_rfl) (by kernel_rfl) (by kernel_rfl) ?hQy1_1_2 (Or.inl ⟨?hwy1_1_2, ?hyy1_1_2⟩) (by assumption) ?_
                      case hiy1_1_2 => simp only [List.getElem?_toArray, List.getElem?_cons_succ, List.getElem?_cons_zero]; rfl
                      case hQy1_1_2 => exact fun _ _ _ h => h
                      case hwy1_1_2 => rfl
                      case hyy1_1_2 => intro w hSw; (try dsimp only at hSw); (first | (go_simp; done) | (go_simp; with_reducible rfl))
                      try simp only [Act.put, List.setIfInBounds_toArray, List.set_cons_zero, List.set_cons_succ]
                      refine wpAnyH_take (i := 2) (oi := ?oiy1_2_3) (v := ?vy1_2_3) ?hiy1_2_3 (by kernel_rfl) (by kernel_rfl) (by kernel_rfl) ?hQy1_2_3 (Or.inl ⟨?hwy1_2_3, ?hyy1_2_3⟩) (by assumption) ?_
                      case hiy1_2_3 => simp only [List.getElem?_toArray, List.getElem?_cons_succ, List.getElem?_cons_zero]; rfl
                      case hQy1_2_3 => exact fun _ _ _ h => h
                      case hwy1_2_3 => rfl
                      case hyy1_2_3 => intro w hSw; (try dsimp only at hSw); (first | (go_simp; done) | (go_simp; with_reducible rfl))
                      try simp only [Act.put, List.setIfInBounds_toArray, List.set_cons_zero, List.set_cons_succ]
                      refine wpAnyH_take (i := 3) (oi := ?oiy1_3_4) (v := ?vy1_3_4) ?hiy1_3_4 (by kernel_rfl) (by kernel_rfl) (by kernel_rfl) ?hQy1_3_4 (Or.inl ⟨?hwy1_3_4, ?hyy1_3_4⟩) (by assumption) ?_
                      case hiy1_3_4 => simp only [List.getElem?_toArray, List.getElem?_cons_succ, List.getElem?_cons_zero]; rfl
                      case hQy1_3_4 => exact fun _ _ _ h => h
                      case hwy1_3_4 => rfl
                      case hyy1_3_4 => intro w hSw; (try dsimp only at hSw); (first | (go_simp; done) | (go_simp; with_reducible rfl))
                      try simp only [Act.put, List.setIfInBounds_toArray, List.set_cons_zero, List.set_cons_succ]
                      refine wpAnyH_take (i := 4) (oi := ?oiy1_4_5) (v := ?vy1_4_5) ?hiy1_4_5 (by kernel_rfl) (by kernel_rfl) (by kernel_rfl) ?hQy1_4_5 (Or.inl ⟨?hwy1_4_5, ?hyy1_4_5⟩) (by assumption) ?_
                      case hiy1_4_5 => simp only [List.getElem?_toArray, List.getElem?_cons_succ, List.getElem?_cons_zero]; rfl
                      case hQy1_4_5 => exact fun _ _ _ h => h
                      case hwy1_4_5 => rfl
                      case hyy1_4_5 => intro w hSw; (try dsimp only at hSw); (first | (go_simp; done) | (go_simp; with_reducible rfl))
                      try simp only [Act.put, List.setIfInBounds_toArray, List.set_cons_zero, List.set_cons_succ]
                      refine wpAnyH_take (i := 5) (oi := ?oiy1_5_6) (v := ?vy1_5_6) ?hiy1_5_6 (by kernel_rfl) (by kernel_rfl) (by kernel_rfl) ?hQy1_5_6 (Or.inl ⟨?hwy1_5_6, ?hyy1_5_6⟩) (by assumption) ?_
                      case hiy1_5_6 => simp only [List.getElem?_toArray, List.getElem?_cons_succ, List.getElem?_cons_zero]; rfl
                      case hQy1_5_6 => exact fun _ _ _ h => h
                      case hwy1_5_6 => rfl
                      case hyy1_5_6 => intro w hSw; (try dsimp only at hSw); (first | (go_simp; done) | (go_simp; with_reducible rfl))
                      try simp only [Act.put, List.setIfInBounds_toArray, List.set_cons_zero, List.set_cons_succ]
                      refine wpAnyH_take (i := 6) (oi := ?oiy1_6_7) (v := ?vy1_6_7) ?hiy1_6_7 (by kernel_rfl) (by kernel_rfl) (by kernel_rfl) ?hQy1_6_7 (Or.inl ⟨?hwy1_6_7, ?hyy1_6_7⟩) (by assumption) ?_
                      case hiy1_6_7 => simp only [List.getElem?_toArray, List.getElem?_cons_succ, List.getElem?_cons_zero]; rfl
                      case hQy1_6_7 => exact fun _ _ _ h => h
                      case hwy1_6_7 => rfl
                      case hyy1_6_7 => intro w hSw; (try dsimp only at hSw); (first | (go_simp; done) | (go_simp; with_reducible rfl))
                      try simp only [Act.put, List.setIfInBounds_toArray, List.set_cons_zero, List.set_cons_succ]
                      refine wpAnyH_take (i := 7) (oi := ?oiy1_7_8) (v := ?vy1_7_8) ?hiy1_7_8 (by kernel_rfl) (by kernel_rfl) (by kernel_rfl) ?hQy1_7_8 (Or.inl ⟨?hwy1_7_8, ?hyy1_7_8⟩) (by assumption) ?_
                      case hiy1_7_8 => simp only [List.getElem?_toArray, List.getElem?_cons_succ, List.getElem?_cons_zero]; rfl
                      case hQy1_7_8 => exact fun _ _ _ h => h
                      case hwy1_7_8 => rfl
                      case hyy1_7_8 => intro w hSw; (try dsimp only at hSw); (first | (go_simp; done) | (go_simp; with_reducible rfl))
                      try simp only [Act.put, List.setIfInBounds_toArray, List.set_cons_zero, List.set_cons_succ]
                      refine wpAnyH_take (i := 8) (oi := ?oiy1_8_9) (v := ?vy1_8_9) ?hiy1_8_9 (by kernel_rfl) (by kernel_rfl) (by kernel_rfl) ?hQy1_8_9 (Or.inl ⟨?hwy1_8_9, ?hyy1_8_9⟩) (by assumption) ?_
                      case hiy1_8_9 => simp only [List.getElem?_toArray, List.getElem?_cons_succ, List.getElem?_cons_zero]; rfl
                      case hQy1_8_9 => exact fun _ _ _ h => h
                      case hwy1_8_9 => rfl
                      case hyy1_8_9 => intro w hSw; (try dsimp only at hSw); (first | (go_simp; done) | (go_simp; with_reducible rfl))
                      try simp only [Act.put, List.setIfInBounds_toArray, List.set_cons_zero, List.set_cons_succ]
                      refine wpAnyH_take (i := 9) (oi := ?oiy1_9_10) (v := ?vy1_9_10) ?hiy1_9_10 (by kernel_rfl) (by kernel_rfl) (by kernel_rfl) ?hQy1_9_10 (Or.inl ⟨?hwy1_9_10, ?hyy1_9_10⟩) (by assumption) ?_
                      case hiy1_9_10 => simp only [List.getElem?_toArray, List.getElem?_cons_succ, List.getElem?_cons_zero]; rfl
                      case hQy1_9_10 => exact fun _ _ _ h => h
                      case hwy1_9_10 => rfl
                      case hyy1_9_10 => intro w hSw; (try dsimp only at hSw); (first | (go_simp; done) | (go_simp; with_reducible rfl))
                      try simp only [Act.put, List.setIfInBounds_toArray, List.set_cons_zero, List.set_cons_succ]
                      refine wpAnyH_take (i := 10) (oi := ?oiy1_10_11) (v := ?vy1_10_11) ?hiy1_10_11 (by kernel_rfl) (by kernel_rfl) (by kernel_rfl) ?hQy1_10_11 (Or.inl ⟨?hwy1_10_11, ?hyy1_10_11⟩) (by assumption) ?_
                      case hiy1_10_11 => simp only [List.getElem?_toArray, List.getElem?_cons_succ, List.getElem?_cons_zero]; rfl
                      case hQy1_10_11 => exact fun _ _ _ h => h
                      case hwy1_10_11 => rfl
                      case hyy1_10_11 => intro w hSw; (try dsimp only at hSw); (first | (go_simp; done) | (go_simp; with_reducible rfl))
                      try simp only [Act.put, List.setIfInBounds_toArray, List.set_cons_zero, List.set_cons_succ]
                      refine wpAnyH_take (i := 11) (oi := ?oiy1_11_12) (v := ?vy1_11_12) ?hiy1_11_12 (by kernel_rfl) (by kernel_rfl) (by kernel_rfl) ?hQy1_11_12 (Or.inl ⟨?hwy1_11_12, ?hyy1_11_12⟩) (by assumption) ?_
                      case hiy1_11_12 => simp only [List.getElem?_toArray, List.getElem?_cons_succ, List.getElem?_cons_zero]; rfl
                      case hQy1_11_12 => exact fun _ _ _ h => h
                      case hwy1_11_12 => rfl
                      case hyy1_11_12 => intro w hSw; (try dsimp only at hSw); (first | (go_simp; done) | (go_simp; with_reducible rfl))
                      try simp only [Act.put, List.setIfInBounds_toArray, List.set_cons_zero, List.set_cons_succ]
                      refine wpAnyH_take (i := 12) (oi := ?oiy1_12_13) (v := ?vy1_12_13) ?hiy1_12_13 (by kernel_rfl) (by kernel_rfl) (by kernel_rfl) ?hQy1_12_13 (Or.inl ⟨?hwy1_12_13, ?hyy1_12_13⟩) (by assumption) ?_
                      case hiy1_12_13 => simp only [List.getElem?_toArray, List.getElem?_cons_succ, List.getElem?_cons_zero]; rfl
                      case hQy1_12_13 => exact fun _ _ _ h => h
                      case hwy1_12_13 => rfl
                      case hyy1_12_13 => intro w hSw; (try dsimp only at hSw); (first | (go_simp; done) | (go_simp; with_reducible rfl))
                      try simp only [Act.put, List.setIfInBounds_toArray, List.set_cons_zero, List.set_cons_succ]
                      refine wpAnyH_take (i := 13) (oi := ?oiy1_13_14) (v := ?vy1_13_14) ?hiy1_13_14 (by kernel_rfl) (by kernel_rfl) (by kernel_rfl) ?hQy1_13_14 (Or.inl ⟨?hwy1_13_14, ?hyy1_13_14⟩) (by assumption) ?_
                      case hiy1_13_14 => simp only [List.getElem?_toArray, List.getElem?_cons_succ, List.getElem?_cons_zero]; rfl
                      case hQy1_13_14 => exact fun _ _ _ h => h
                      case hwy1_13_14 => rfl
                      case hyy1_13_14 => intro w hSw; (try dsimp only at hSw); (first | (go_simp; done) | (go_simp; with_reducible rfl))
                      try simp only [Act.put, List.setIfInBounds_toArray, List.set_cons_zero, List.set_cons_succ]
                      refine wpAnyH_take (i := 14) (oi := ?oiy1_14_15) (v := ?vy1_14_15) ?hiy1_14_15 (by kernel_rfl) (by kernel_rfl) (by kernel_rfl) ?hQy1_14_15 (Or.inl ⟨?hwy1_14_15, ?hyy1_14_15⟩) (by assumption) ?_
                      case hiy1_14_15 => simp only [List.getElem?_toArray, List.getElem?_cons_succ, List.getElem?_cons_zero]; rfl
                      case hQy1_14_15 => exact fun _ _ _ h => h
                      case hwy1_14_15 => rfl
                      case hyy1_14_15 => intro w hSw; (try dsimp only at hSw); (first | (go_simp; done) | (go_simp; with_reducible rfl))
                      try simp only [Act.put, List.setIfInBounds_toArray, List.set_cons_zero, List.set_cons_succ]
                      refine wpAnyH_take (i := 15) (oi := ?oiy1_15_16) (v := ?vy1_15_16) ?hiy1_15_16 (by kernel_rfl) (by kernel_rfl) (by kernel_rfl) ?hQy1_15_16 (Or.inl ⟨?hwy1_15_16, ?hyy1_15_16⟩) (by assumption) ?_
                      case hiy1_15_16 => simp only [List.getElem?_toArray, List.getElem?_cons_succ, List.getElem?_cons_zero]; rfl
                      case hQy1_15_16 => exact fun _ _ _ h => h
                      case hwy1_15_16 => rfl
                      case hyy1_15_16 => intro w hSw; (try dsimp only at hSw); (first | (go_simp; done) | (go_simp; with_reducible rfl))
                      try simp only [Act.put, List.setIfInBounds_toArray, List.set_cons_zero, List.set_cons_succ]
                      refine wpAnyH_take (i := 16) (oi := ?oiy1_16_17) (v := ?vy1_16_17) ?hiy1_16_17 (by kernel_rfl) (by kernel_rfl) (by kernel_rfl) ?hQy1_16_17 (Or.inl ⟨?hwy1_16_17, ?hyy1_16_17⟩) (by assumption) ?_
                      case hiy1_16_17 => simp only [List.getElem?_toArray, List.getElem?_cons_succ, List.getElem?_cons_zero]; rfl
                      case hQy1_16_17 => exact fun _ _ _ h => h
                      case hwy1_16_17 => rfl
                      case hyy1_16_17 => intro w hSw; (try dsimp only at hSw); (first | (go_simp; done) | (go_simp; with_reducible rfl))
                      try simp only [Act.put, List.setIfInBounds_toArray, List.set_cons_zero, List.set_cons_succ]
                      refine wpAnyH_take (i := 17) (oi := ?oiy1_17_18) (v := ?vy1_17_18) ?hiy1_17_18 (by kernel_rfl) (by kernel_rfl) (by kernel_rfl) ?hQy1_17_18 (Or.inl ⟨?hwy1_17_18, ?hyy1_17_18⟩) (by assumption) ?_
                      case hiy1_17_18 => simp only [List.getElem?_toArray, List.getElem?_cons_succ, List.getElem?_cons_zero]; rfl
                      case hQy1_17_18 => exact fun _ _ _ h => h
                      case hwy1_17_18 => rfl
                      case hyy1_17_18 => intro w hSw; (try dsimp only at hSw); (first | (go_simp; done) | (go_simp; with_reducible rfl))
                      try simp only [Act.put, List.setIfInBounds_toArray, List.set_cons_zero, List.set_cons_succ]
                      refine wpAnyH_take (i := 18) (oi := ?oiy1_18_19) (v := ?vy1_18_19) ?hiy1_18_19 (by kernel_rfl) (by kernel_rfl) (by kernel_rfl) ?hQy1_18_19 (Or.inl ⟨?hwy1_18_19, ?hyy1_18_19⟩) (by assumption) ?_
                      case hiy1_18_19 => simp only [List.getElem?_toArray, List.getElem?_cons_succ, List.getElem?_cons_zero]; rfl
                      case hQy1_18_19 => exact fun _ _ _ h => h
                      case hwy1_18_19 => rfl
                      case hyy1_18_19 => intro w hSw; (try dsimp only at hSw); (first | (go_simp; done) | (go_simp; with_reducible rfl))
                      try simp only [Act.put, List.setIfInBounds_toArray, List.set_cons_zero, List.set_cons_succ]
                      refine wpAnyH_ready (rs := [19]) (by kernel_rfl) (by simp) ?_
                      refine AllReadyH.cons (o := ?oy1_19_20) ?hiy1_19_20 (fun K hK => ?gy1_19_20) AllReadyH.nil
                      case hiy1_19_20 => simp only [List.getElem?_toArray, List.getElem?_cons_succ, List.getElem?_cons_zero]; rfl
                      case gy1_19_20 =>
                        obtain ⟨c_p0, f_p0, c_p1, f_p1, c_p2, f_p2, l_p⟩ := Vn.v3 o_p
                        obtain ⟨c_r0, f_r0, c_r1, f_r1, c_r2, f_r2, l_r⟩ := Vn.v3 o_r
                        obtain ⟨c_o0, f_o0, c_o1, f_o1, c_o2, f_o2, l_o⟩ := Vn.v3 o_o
                        go_simp
                        clear c_p0 f_p0 c_p1 f_p1 c_p2 f_p2 l_p c_r0 f_r0 c_r1 f_r1 c_r2 f_r2 l_r c_o0 f_o0 c_o1 f_o1 c_o2 f_o2 l_o
                        obtain ⟨w12, hw12⟩ : ∃ y, y = (((w11.setCell ⟨(w.heap.size + 1), 0, none⟩ (.int .i64 b.Seed)).setCell ⟨(w.heap.size + 1), 1, none⟩ (.int .i64 b.Next)).setCell ⟨(w.heap.size + 1), 2, none⟩ (.slice A11 (k) c11)) := ⟨_, rfl⟩
                        obtain ⟨o_new, tw12⟩ := var_some [.int .i64 b.Seed, .int .i64 b.Next, .slice A11 (k) c11] 0 _ _ o_r (by simp)
                        rw [show setAll w11 ((w.heap.size + 1)) 0 [.int .i64 b.Seed, .int .i64 b.Next, .slice A11 (k) c11] = w12 from hw12.symm] at o_new tw12
                        replace o_r : Owns w12 _ (varD 26 3 [.int .i64 b.Seed, .int .i64 b.Next, .slice A11 (k) c11]) _ _ := o_new
                        clear o_new
                        replace o_p := owns_turned o_p tw12 (fun b hb hb2 => by simp at hb hb2; omega)
                        replace o_o := owns_turned o_o tw12 (fun b hb hb2 => by simp at hb hb2; omega)
                        replace o_z := owns_turned o_z tw12 (fun b hb hb2 => by have h1 := i_z b hb; simp at hb2; omega)
                        replace HB := below_turned HB tw12 (fun b hb => by simp at hb; omega)
                        have zw12 := tw12.2.2.2.1
                        rw [← hw12]
                        clear hw12
                        refine hK.out _ _ ?_ (fun hHeld => ?_)
                        · exact ⟨var_load o_p (by simp) 0 _ rfl, var_load o_p (by simp) 1 _ rfl, var_load o_p (by simp) 2 _ rfl, var_load o_o (by simp) 0 _ rfl, var_load o_o (by simp) 1 _ rfl, var_load o_o (by simp) 2 _ rfl, (EC.out _ HB).1, (EC.out _ HB).2⟩
                        clear hK K
                        try simp only [Act.put, List.setIfInBounds_toArray, List.set_cons_zero, List.set_cons_succ]
                        refine wpAnyH_take (i := 20) (oi := ?oiy1_20_21) (v := ?vy1_20_21) ?hiy1_20_21 (by kernel_rfl) (by kernel_rfl) (by kernel_rfl) ?hQy1_20_21 (Or.inl ⟨?hwy1_20_21, ?hyy1_20_21⟩) (by assumption) ?_
                        case hiy1_20_21 => simp only [List.getElem?_toArray, List.getElem?_cons_succ, List.getElem?_cons_zero]; rfl
                        case hQy1_20_21 => exact fun _ _ _ h => h
                        case hwy1_20_21 => rfl
                        case hyy1_20_21 => intro w hSw; (try dsimp only at hSw); (first | (go_simp; done) | (go_simp; with_reducible rfl))
                        try simp only [Act.put, List.setIfInBounds_toArray, List.set_cons_zero, List.set_cons_succ]
                        refine wpAnyH_done (by kernel_rfl) ?_ _
                        go_wp2
                        have y0 : w12.cell? ⟨(w.heap.size + 1), 0, none⟩ = some (.int .i64 b.Seed) := var_load o_r (by simp) 0 _ rfl
                        have y1 : w12.cell? ⟨(w.heap.size + 1), 1, none⟩ = some (.int .i64 b.Next) := var_load o_r (by simp) 1 _ rfl
                        have y2 : w12.cell? ⟨(w.heap.size + 1), 2, none⟩ = some (.slice A11 (k) c11) := var_load o_r (by simp) 2 _ rfl
                        refine bodyPost_ret (v := .tuple #[.agg #[.int .i64 b.Seed, .int .i64 b.Next, .slice A11 (k) c11], .bool true]) (by simp [results, Try.results29, go_sem, y0, y1, y2]) rfl ?_
                        exact made_tk (x := ⟨b.Seed, b.Next, xs.take k ++ xs.drop (k + 1)⟩) (by rfl) rfl rfl (by have := HL.out; simp; omega) o_z (Ra.block_nodup _) HB
            · have eb2 : decide (now ≤ y.Until) = false := by simpa using eb
              obtain rfl : r = false := by rw [HRB.out, decide_eq_true ea, eb2]; rfl
              clear ea eb
              go_wp2_with fail
              rw [← hw5]
              clear hw5 sw5
              clear c_p0 f_p0 c_p1 f_p1 c_p2 f_p2 l_p c_r0 f_r0 c_r1 f_r1 c_r2 f_r2 l_r
              have HN := Below.refl w5.heap.size w5
              obtain ⟨w6, hw6⟩ : ∃ y, y = w5.drew := ⟨_, rfl⟩
              have bw6 : Below w5.heap.size w5 w6 := hw6 ▸ drewN_below w5 1 _
              replace o_p := owns_below o_p bw6
              replace o_r := owns_below o_r bw6
              replace o_o := owns_below o_o bw6
              replace HB := HB.trans (bw6.mono HB.size)
              have zw6 := bw6.size
              replace HN := HN.trans (bw6.mono HN.size)
              refine wp_region_held_drew (S := (fun wx => wx.cell? ⟨w.heap.size, 0, none⟩ = some (.int .i64 b.Seed) ∧ wx.cell? ⟨w.heap.size, 1, none⟩ = some (.int .i64 b.Next) ∧ wx.cell? ⟨w.heap.size, 2, none⟩ = some (.slice (some ⟨gb, off, none⟩) n (k + 1)))) (by kernel_rfl) ?_ (fun hHeld => ?_)
              · rw [← hw6]; exact ⟨var_load o_p (by simp) 0 _ rfl, var_load o_p (by simp) 1 _ rfl, var_load o_p (by simp) 2 _ rfl⟩
              rw [← hw6] at hHeld ⊢
              clear hw6
              refine wpAnyH_take (i := 1) (oi := ?oix2_1_1) (v := ?vx2_1_1) ?hix2_1_1 (by kernel_rfl) (by kernel_rfl) (by kernel_rfl) ?hQx2_1_1 (Or.inl ⟨?hwx2_1_1, ?hyx2_1_1⟩) (by assumption) ?_
              case hix2_1_1 => simp only [List.getElem?_toArray, List.getElem?_cons_succ, List.getElem?_cons_zero]; rfl
              case hQx2_1_1 => exact fun _ _ _ h => h
              case hwx2_1_1 => rfl
              case hyx2_1_1 => intro w hSw; have hw1 := HW1.out; have hw2 := HW2.out; (try dsimp only at hSw); (first | (go_simp; done) | (go_simp; with_reducible rfl))
              try simp only [Act.put, List.setIfInBounds_toArray, List.set_cons_zero, List.set_cons_succ]
              refine wpAnyH_take (i := 2) (oi := ?oix2_2_2) (v := ?vx2_2_2) ?hix2_2_2 (by kernel_rfl) (by kernel_rfl) (by kernel_rfl) ?hQx2_2_2 (Or.inl ⟨?hwx2_2_2, ?hyx2_2_2⟩) (by assumption) ?_
              case hix2_2_2 => simp only [List.getElem?_toArray, List.getElem?_cons_succ, List.getElem?_cons_zero]; rfl
              case hQx2_2_2 => exact fun _ _ _ h => h
              case hwx2_2_2 => rfl
              case hyx2_2_2 => intro w hSw; have hw1 := HW1.out; have hw2 := HW2.out; (try dsimp only at hSw); (first | (go_simp; done) | (go_simp; with_reducible rfl))
              try simp only [Act.put, List.setIfInBounds_toArray, List.set_cons_zero, List.set_cons_succ]
              refine wpAnyH_take (i := 3) (oi := ?oix2_3_3) (v := ?vx2_3_3) ?hix2_3_3 (by kernel_rfl) (by kernel_rfl) (by kernel_rfl) ?hQx2_3_3 (Or.inl ⟨?hwx2_3_3, ?hyx2_3_3⟩) (by assumption) ?_
              case hix2_3_3 => simp only [List.getElem?_toArray, List.getElem?_cons_succ, List.getElem?_cons_zero]; rfl
              case hQx2_3_3 => exact fun _ _ _ h => h
              case hwx2_3_3 => rfl
              case hyx2_3_3 => intro w hSw; have hw1 := HW1.out; have hw2 := HW2.out; (try dsimp only at hSw); (first | (go_simp; done) | (go_simp; with_reducible rfl))
              try simp only [Act.put, List.setIfInBounds_toArray, List.set_cons_zero, List.set_cons_succ]
              refine wpAnyH_take (i := 4) (oi := ?oix2_4_4) (v := ?vx2_4_4) ?hix2_4_4 (by kernel_rfl) (by kernel_rfl) (by kernel_rfl) ?hQx2_4_4 (Or.inl ⟨?hwx2_4_4, ?hyx2_4_4⟩) (by assumption) ?_
              case hix2_4_4 => simp only [List.getElem?_toArray, List.getElem?_cons_succ, List.getElem?_cons_zero]; rfl
              case hQx2_4_4 => exact fun _ _ _ h => h
              case hwx2_4_4 => rfl
              case hyx2_4_4 => intro w hSw; have hw1 := HW1.out; have hw2 := HW2.out; (try dsimp only at hSw); (first | (go_simp; done) | (go_simp; with_reducible rfl))
              try simp only [Act.put, List.setIfInBounds_toArray, List.set_cons_zero, List.set_cons_succ]
              refine wpAnyH_take (i := 6) (oi := ?oix2_6_5) (v := ?vx2_6_5) ?hix2_6_5 (by kernel_rfl) (by kernel_rfl) (by kernel_rfl) ?hQx2_6_5 (Or.inl ⟨?hwx2_6_5, ?hyx2_6_5⟩) (by assumption) ?_
              case hix2_6_5 => simp only [List.getElem?_toArray, List.getElem?_cons_succ, List.getElem?_cons_zero]; rfl
              case hQx2_6_5 => exact fun _ _ _ h => h
              case hwx2_6_5 => rfl
              case hyx2_6_5 => intro w hSw; have hw1 := HW1.out; have hw2 := HW2.out; (try dsimp only at hSw); (first | (go_simp; done) | (go_simp; with_reducible rfl))
              try simp only [Act.put, List.setIfInBounds_toArray, List.set_cons_zero, List.set_cons_succ]
              refine wpAnyH_take (i := 7) (oi := ?oix2_7_6) (v := ?vx2_7_6) ?hix2_7_6 (by kernel_rfl) (by kernel_rfl) (by kernel_rfl) ?hQx2_7_6 (Or.inl ⟨?hwx2_7_6, ?hyx2_7_6⟩) (by assumption) ?_
              case hix2_7_6 => simp only [List.getElem?_toArray, List.getElem?_cons_succ, List.getElem?_cons_zero]; rfl
              case hQx2_7_6 => exact fun _ _ _ h => h
              case hwx2_7_6 => rfl
              case hyx2_7_6 => intro w hSw; have hw1 := HW1.out; have hw2 := HW2.out; (try dsimp only at hSw); (first | (go_simp; done) | (go_simp; with_reducible rfl))
              try simp only [Act.put, List.setIfInBounds_toArray, List.set_cons_zero, List.set_cons_succ]
              refine wpAnyH_take (i := 8) (oi := ?oix2_8_7) (v := ?vx2_8_7) ?hix2_8_7 (by kernel_rfl) (by kernel_rfl) (by kernel_rfl) ?hQx2_8_7 (Or.inl ⟨?hwx2_8_7, ?hyx2_8_7⟩) (by assumption) ?_
              case hix2_8_7 => simp only [List.getElem?_toArray, List.getElem?_cons_succ, List.getElem?_cons_zero]; rfl
              case hQx2_8_7 => exact fun _ _ _ h => h
              case hwx2_8_7 => rfl
              case hyx2_8_7 => intro w hSw; have hw1 := HW1.out; have hw2 := HW2.out; (try dsimp only at hSw); (first | (go_simp; done) | (go_simp; with_reducible rfl))
              try simp only [Act.put, List.setIfInBounds_toArray, List.set_cons_zero, List.set_cons_succ]
              refine wpAnyH_take (i := 9) (oi := ?oix2_9_8) (v := ?vx2_9_8) ?hix2_9_8 (by kernel_rfl) (by kernel_rfl) (by kernel_rfl) ?hQx2_9_8 (Or.inl ⟨?hwx2_9_8, ?hyx2_9_8⟩) (by assumption) ?_
              case hix2_9_8 => simp only [List.getElem?_toArray, List.getElem?_cons_succ, List.getElem?_cons_zero]; rfl
              case hQx2_9_8 => exact fun _ _ _ h => h
              case hwx2_9_8 => rfl
              case hyx2_9_8 => intro w hSw; have hw1 := HW1.out; have hw2 := HW2.out; (try dsimp only at hSw); (first | (go_simp; done) | (go_simp; with_reducible rfl))
              try simp only [Act.put, List.setIfInBounds_toArray, List.set_cons_zero, List.set_cons_succ]
              refine wpAnyH_take (i := 10) (oi := ?oix2_10_9) (v := ?vx2_10_9) ?hix2_10_9 (by kernel_rfl) (by kernel_rfl) (by kernel_rfl) ?hQx2_10_9 (Or.inl ⟨?hwx2_10_9, ?hyx2_10_9⟩) (by assumption) ?_
              case hix2_10_9 => simp only [List.getElem?_toArray, List.getElem?_cons_succ, List.getElem?_cons_zero]; rfl
              case hQx2_10_9 => exact fun _ _ _ h => h
              case hwx2_10_9 => rfl
              case hyx2_10_9 => intro w hSw; have hw1 := HW1.out; have hw2 := HW2.out; (try dsimp only at hSw); (first | (go_simp; done) | (go_simp; with_reducible rfl))
              try simp only [Act.put, List.setIfInBounds_toArray, List.set_cons_zero, List.set_cons_succ]
              refine wpAnyH_ready (rs := [0]) (by kernel_rfl) (by simp) ?_
              refine AllReadyH.cons (o := ?ox2_0_10) ?hix2_0_10 (fun K hK => ?gx2_0_10) AllReadyH.nil
              case hix2_0_10 => simp only [List.getElem?_toArray, List.getElem?_cons_zero]; rfl
              case gx2_0_10 =>
                go_simp
                obtain ⟨w7, hw7⟩ : ∃ y, y = w6.alloc (.cells #[] 30) := ⟨_, rfl⟩
                have o_R0 : (w6.alloc (.cells #[] 30)).ownsRow w5.heap.size 30 3 (.slice (some ⟨w6.heap.size, 0, none⟩) 0 0) 0 (many []) := own_base (own_emp w6) HN.size
                rw [← hw7] at o_R0 ⊢
                have bw7 : Below w6.heap.size w6 w7 := hw7 ▸ (Below.refl _ _).alloc (Nat.le_refl _) _
                clear hw7
                replace HN := HN.trans (bw7.mono HN.size)
                replace o_p := owns_below o_p bw7
                replace o_r := owns_below o_r bw7
                replace o_o := owns_below o_o bw7
                replace HB := HB.trans (bw7.mono HB.size)
                have zw7 := bw7.size
                refine hK.out _ _ ?_ (fun hHeld => ?_)
                · exact ⟨var_load o_p (by simp) 0 _ rfl, var_load o_p (by simp) 1 _ rfl, var_load o_p (by simp) 2 _ rfl⟩
                clear hK K
                try simp only [Act.put, List.setIfInBounds_toArray, List.set_cons_zero, List.set_cons_succ]
                refine wpAnyH_ready (rs := [5]) (by kernel_rfl) (by simp) ?_
                refine AllReadyH.cons (o := ?ox2_5_11) ?hix2_5_11 (fun K hK => ?gx2_5_11) AllReadyH.nil
                case hix2_5_11 => simp only [List.getElem?_toArray, List.getElem?_cons_succ, List.getElem?_cons_zero]; rfl
                case gx2_5_11 =>
                  refine stepC w7 rfl (.tmp 25) (.tmp 29) rfl (w5.heap.size) (.slice (some ⟨w6.heap.size, 0, none⟩) 0 0) (0) _ (by simp [Act.eval]) o_R0 _ (some ⟨gb, off, none⟩) (k) (k + 1) (xs.take k) (by simp [Act.eval]) (rd_take3 (HR.out _ HB) (by omega)) (by omega) HN.size ?_
                  intro vw8 w8 o_R5 gw8 kw8
                  have Tw8 := turned_grown gw8
                  have Qw8 : ∀ b, b ∈ Option.toList (Value.ownBlock (.slice (some ⟨w6.heap.size, 0, none⟩) 0 0)) → w5.heap.size ≤ b := fun b hb => (o_R0.lt b (by simpa using hb)).1
                  replace o_p := owns_turned o_p Tw8 (fun b hb hb2 => by have h1 := Qw8 b hb2; simp at hb; omega)
                  replace o_r := owns_turned o_r Tw8 (fun b hb hb2 => by have h1 := Qw8 b hb2; simp at hb; omega)
                  replace o_o := owns_turned o_o Tw8 (fun b hb hb2 => by have h1 := Qw8 b hb2; simp at hb; omega)
                  replace HN := HN.grown gw8 HN.size (fun j hj => (o_R0.lt j hj).1)
                  replace HB := below_turned HB Tw8 (fun b hb => by have h1 := Qw8 b hb; omega)
                  have zw8 := gw8.size
                  rw [Nat.zero_add, List.nil_append] at o_R5
                  obtain ⟨A5, c5, rfl⟩ := own_nil_form o_R5
                  clear o_R0 kw8 gw8
                  refine hK.out _ _ ?_ (fun hHeld => ?_)
                  · exact ⟨var_load o_p (by simp) 0 _ rfl, var_load o_p (by simp) 1 _ rfl, var_load o_p (by simp) 2 _ rfl⟩
                  clear hK K
                  try simp only [Act.put, List.setIfInBounds_toArray, List.set_cons_zero, List.set_cons_succ]
                  refine wpAnyH_ready (rs := [11]) (by kernel_rfl) (by simp) ?_
                  refine AllReadyH.cons (o := ?ox2_11_12) ?hix2_11_12 (fun K hK => ?gx2_11_12) AllReadyH.nil
                  case hix2_11_12 => simp only [List.getElem?_toArray, List.getElem?_cons_succ, List.getElem?_cons_zero]; rfl
                  case gx2_11_12 =>
                    refine stepC w8 rfl (.tmp 30) (.tmp 35) rfl (w5.heap.size) (.slice A5 (k) c5) (k) _ (by simp [Act.eval]) o_R5 _ (some ⟨gb, off, none⟩) (0) (0) (xs.drop (k + 1)) (by simp [Act.eval]) (rd_last (hi := 0) HL.out (by omega)) (by omega) HN.size ?_
                    intro vw9 w9 o_R11 gw9 kw9
                    have Tw9 := turned_grown gw9
                    have Qw9 : ∀ b, b ∈ Option.toList (Value.ownBlock (.slice A5 (k) c5)) → w5.heap.size ≤ b := fun b hb => (o_R5.lt b (by simpa using hb)).1
                    replace o_p := owns_turned o_p Tw9 (fun b hb hb2 => by have h1 := Qw9 b hb2; simp at hb; omega)
                    replace o_r := owns_turned o_r Tw9 (fun b hb hb2 => by have h1 := Qw9 b hb2; simp at hb; omega)
                    replace o_o := owns_turned o_o Tw9 (fun b hb hb2 => by have h1 := Qw9 b hb2; simp at hb; omega)
                    replace HN := HN.grown gw9 HN.size (fun j hj => (o_R5.lt j hj).1)
                    replace HB := below_turned HB Tw9 (fun b hb => by have h1 := Qw9 b hb; omega)
                    have zw9 := gw9.size
                    rw [Nat.add_zero] at o_R11
                    obtain ⟨A11, c11, rfl⟩ := own_nil_form o_R11
                    clear o_R5 kw9 gw9
                    refine hK.out _ _ ?_ (fun hHeld => ?_)
                    · exact ⟨var_load o_p (by simp) 0 _ rfl, var_load o_p (by simp) 1 _ rfl, var_load o_p (by simp) 2 _ rfl⟩
                    clear hK K
                    try simp only [Act.put, List.setIfInBounds_toArray, List.set_cons_zero, List.set_cons_succ]
                    refine wpAnyH_take (i := 12) (oi := ?oix2_12_13) (v := ?vx2_12_13) ?hix2_12_13 (by kernel_rfl) (by kernel_rfl) (by kernel_rfl) ?hQx2_12_13 (Or.inl ⟨?hwx2_12_13, ?hyx2_12_13⟩) (by assumption) ?_
                    case hix2_12_13 => simp only [List.getElem?_toArray, List.getElem?_cons_succ, List.getElem?_cons_zero]; rfl
                    case hQx2_12_13 => exact fun _ _ _ h => h
                    case hwx2_12_13 => rfl
                    case hyx2_12_13 => intro w hSw; have hw1 := HW1.out; have hw2 := HW2.out; (try dsimp only at hSw); (first | (go_simp; done) | (go_simp; with_reducible rfl))
                    try simp only [Act.put, List.setIfInBounds_toArray, List.set_cons_zero, List.set_cons_succ]
                    refine wpAnyH_ready (rs := [13]) (by kernel_rfl) (by simp) ?_
                    refine AllReadyH.cons (o := ?ox2_13_14) ?hix2_13_14 (fun K hK => ?gx2_13_14) AllReadyH.nil
                    case hix2_13_14 => simp only [List.getElem?_toArray, List.getElem?_cons_succ, List.getElem?_cons_zero]; rfl
                    case gx2_13_14 =>
                      obtain ⟨c_p0, f_p0, c_p1, f_p1, c_p2, f_p2, l_p⟩ := Vn.v3 o_p
                      obtain ⟨c_r0, f_r0, c_r1, f_r1, c_r2, f_r2, l_r⟩ := Vn.v3 o_r
                      obtain ⟨c_o0, f_o0, c_o1, f_o1, c_o2, f_o2, l_o⟩ := Vn.v3 o_o
                      go_simp
                      clear c_p0 f_p0 c_p1 f_p1 c_p2 f_p2 l_p c_r0 f_r0 c_r1 f_r1 c_r2 f_r2 l_r c_o0 f_o0 c_o1 f_o1 c_o2 f_o2 l_o
                      obtain ⟨w10, hw10⟩ : ∃ y, y = (w9.setCell ⟨w4.heap.size, 2, none⟩ (.slice A11 (k) c11)) := ⟨_, rfl⟩
                      obtain ⟨o_new, tw10⟩ := var_some [.slice A11 (k) c11] 2 _ _ o_o (by simp)
                      rw [show setAll w9 (w4.heap.size) 2 [.slice A11 (k) c11] = w10 from hw10.symm] at o_new tw10
                      replace o_o : Owns w10 _ (varD 26 3 [.int .i64 b.Seed, .int .i64 b.Next, .slice A11 (k) c11]) _ _ := o_new
                      clear o_new
                      replace o_p := owns_turned o_p tw10 (fun b hb hb2 => by simp at hb hb2; omega)
                      replace o_r := owns_turned o_r tw10 (fun b hb hb2 => by simp at hb hb2; omega)
                      replace HB := below_turned HB tw10 (fun b hb => by simp at hb; omega)
                      have zw10 := tw10.2.2.2.1
                      rw [← hw10]
                      clear hw10
                      replace o_R11 := many_turned o_R11 tw10 (fun b hb hb2 => by have h1 := (o_R11.lt b (by simpa using hb)).1; simp at hb2; omega)
                      refine hK.out _ _ ?_ (fun hHeld => ?_)
                      · exact ⟨var_load o_p (by simp) 0 _ rfl, var_load o_p (by simp) 1 _ rfl, var_load o_p (by simp) 2 _ rfl⟩
                      clear hK K
                      try simp only [Act.put, List.setIfInBounds_toArray, List.set_cons_zero, List.set_cons_succ]
                      refine wpAnyH_done (by kernel_rfl) ?_ _
                      have i_z0 := Fx.made_in (owns_many o_R11)
                      have o_z := owns_many (own_base o_R11 (show w.heap.size ≤ w5.heap.size by omega))
                      have i_z := i_z0
                      clear i_z0 o_R11
                      obtain ⟨c_p0, f_p0, c_p1, f_p1, c_p2, f_p2, l_p⟩ := Vn.v3 o_p
                      obtain ⟨c_r0, f_r0, c_r1, f_r1, c_r2, f_r2, l_r⟩ := Vn.v3 o_r
                      obtain ⟨c_o0, f_o0, c_o1, f_o1, c_o2, f_o2, l_o⟩ := Vn.v3 o_o
                      go_wp2_with fail
                      clear c_p0 f_p0 c_p1 f_p1 c_p2 f_p2 l_p c_r0 f_r0 c_r1 f_r1 c_r2 f_r2 l_r c_o0 f_o0 c_o1 f_o1 c_o2 f_o2 l_o
                      obtain ⟨w11, hw11⟩ : ∃ y, y = w10.drew := ⟨_, rfl⟩
                      have bw11 : Below w10.heap.size w10 w11 := hw11 ▸ drewN_below w10 1 _
                      replace o_p := owns_below o_p bw11
                      replace o_r := owns_below o_r bw11
                      replace o_o := owns_below o_o bw11
                      replace o_z := owns_below o_z bw11
                      replace HB := HB.trans (bw11.mono HB.size)
                      have zw11 := bw11.size
                      refine wp_region_held_drew (S := (fun (wx : World) => wx.cell? ⟨w.heap.size, 0, none⟩ = some (.int .i64 b.Seed) ∧ wx.cell? ⟨w.heap.size, 1, none⟩ = some (.int .i64 b.Next) ∧ wx.cell? ⟨w.heap.size, 2, none⟩ = some (.slice (some ⟨gb, off, none⟩) n (k + 1)) ∧ wx.cell? ⟨w4.heap.size, 0, none⟩ = some (.int .i64 b.Seed) ∧ wx.cell? ⟨w4.heap.size, 1, none⟩ = some (.int .i64 b.Next) ∧ wx.cell? ⟨w4.heap.size, 2, none⟩ = some (.slice A11 (k) c11) ∧ wx.cell? ⟨gb, off + k * 3 + 1, none⟩ = some (.int .i64 y.Account) ∧ wx.cell? ⟨gb, off + k * 3 + 2, none⟩ = some (.int .i64 y.Until))) (by kernel_rfl) ?_ (fun hHeld => ?_)
                      · rw [← hw11]; exact ⟨var_load o_p (by simp) 0 _ rfl, var_load o_p (by simp) 1 _ rfl, var_load o_p (by simp) 2 _ rfl, var_load o_o (by simp) 0 _ rfl, var_load o_o (by simp) 1 _ rfl, var_load o_o (by simp) 2 _ rfl, (EC.out _ HB).1, (EC.out _ HB).2⟩
                      rw [← hw11] at hHeld ⊢
                      clear hw11
                      refine wpAnyH_take (i := 0) (oi := ?oiy2_0_1) (v := ?vy2_0_1) ?hiy2_0_1 (by kernel_rfl) (by kernel_rfl) (by kernel_rfl) ?hQy2_0_1 (Or.inl ⟨?hwy2_0_1, ?hyy2_0_1⟩) (by assumption) ?_
                      case hiy2_0_1 => simp only [List.getElem?_toArray, List.getElem?_cons_zero]; rfl
                      case hQy2_0_1 => exact fun _ _ _ h => h
                      case hwy2_0_1 => rfl
                      case hyy2_0_1 => intro w hSw; (try dsimp only at hSw); (first | (go_simp; done) | (go_simp; with_reducible rfl))
                      try simp only [Act.put, List.setIfInBounds_toArray, List.set_cons_zero, List.set_cons_succ]
                      refine wpAnyH_take (i := 1) (oi := ?oiy2_1_2) (v := ?vy2_1_2) ?hiy2_1_2 (by kernel_rfl) (by kernel_rfl) (by kernel_rfl) ?hQy2_1_2 (Or.inl ⟨?hwy2_1_2, ?hyy2_1_2⟩) (by assumption) ?_
                      case hiy2_1_2 => simp only [List.getElem?_toArray, List.getElem?_cons_succ, List.getElem?_cons_zero]; rfl
                      case hQy2_1_2 => exact fun _ _ _ h => h
                      case hwy2_1_2 => rfl
                      case hyy2_1_2 => intro w hSw; (try dsimp only at hSw); (first | (go_simp; done) | (go_simp; with_reducible rfl))
                      try simp only [Act.put, List.setIfInBounds_toArray, List.set_cons_zero, List.set_cons_succ]
                      refine wpAnyH_take (i := 2) (oi := ?oiy2_2_3) (v := ?vy2_2_3) ?hiy2_2_3 (by kernel_rfl) (by kernel_rfl) (by kernel_rfl) ?hQy2_2_3 (Or.inl ⟨?hwy2_2_3, ?hyy2_2_3⟩) (by assumption) ?_
                      case hiy2_2_3 => simp only [List.getElem?_toArray, List.getElem?_cons_succ, List.getElem?_cons_zero]; rfl
                      case hQy2_2_3 => exact fun _ _ _ h => h
                      case hwy2_2_3 => rfl
                      case hyy2_2_3 => intro w hSw; (try dsimp only at hSw); (first | (go_simp; done) | (go_simp; with_reducible rfl))
                      try simp only [Act.put, List.setIfInBounds_toArray, List.set_cons_zero, List.set_cons_succ]
                      refine wpAnyH_take (i := 3) (oi := ?oiy2_3_4) (v := ?vy2_3_4) ?hiy2_3_4 (by kernel_rfl) (by kernel_rfl) (by kernel_rfl) ?hQy2_3_4 (Or.inl ⟨?hwy2_3_4, ?hyy2_3_4⟩) (by assumption) ?_
                      case hiy2_3_4 => simp only [List.getElem?_toArray, List.getElem?_cons_succ, List.getElem?_cons_zero]; rfl
                      case hQy2_3_4 => exact fun _ _ _ h => h
                      case hwy2_3_4 => rfl
                      case hyy2_3_4 => intro w hSw; (try dsimp only at hSw); (first | (go_simp; done) | (go_simp; with_reducible rfl))
                      try simp only [Act.put, List.setIfInBounds_toArray, List.set_cons_zero, List.set_cons_succ]
                      refine wpAnyH_take (i := 4) (oi := ?oiy2_4_5) (v := ?vy2_4_5) ?hiy2_4_5 (by kernel_rfl) (by kernel_rfl) (by kernel_rfl) ?hQy2_4_5 (Or.inl ⟨?hwy2_4_5, ?hyy2_4_5⟩) (by assumption) ?_
                      case hiy2_4_5 => simp only [List.getElem?_toArray, List.getElem?_cons_succ, List.getElem?_cons_zero]; rfl
                      case hQy2_4_5 => exact fun _ _ _ h => h
                      case hwy2_4_5 => rfl
                      case hyy2_4_5 => intro w hSw; (try dsimp only at hSw); (first | (go_simp; done) | (go_simp; with_reducible rfl))
                      try simp only [Act.put, List.setIfInBounds_toArray, List.set_cons_zero, List.set_cons_succ]
                      refine wpAnyH_take (i := 5) (oi := ?oiy2_5_6) (v := ?vy2_5_6) ?hiy2_5_6 (by kernel_rfl) (by kernel_rfl) (by kernel_rfl) ?hQy2_5_6 (Or.inl ⟨?hwy2_5_6, ?hyy2_5_6⟩) (by assumption) ?_
                      case hiy2_5_6 => simp only [List.getElem?_toArray, List.getElem?_cons_succ, List.getElem?_cons_zero]; rfl
                      case hQy2_5_6 => exact fun _ _ _ h => h
                      case hwy2_5_6 => rfl
                      case hyy2_5_6 => intro w hSw; (try dsimp only at hSw); (first | (go_simp; done) | (go_simp; with_reducible rfl))
                      try simp only [Act.put, List.setIfInBounds_toArray, List.set_cons_zero, List.set_cons_succ]
                      refine wpAnyH_take (i := 6) (oi := ?oiy2_6_7) (v := ?vy2_6_7) ?hiy2_6_7 (by kernel_rfl) (by kernel_rfl) (by kernel_rfl) ?hQy2_6_7 (Or.inl ⟨?hwy2_6_7, ?hyy2_6_7⟩) (by assumption) ?_
                      case hiy2_6_7 => simp only [List.getElem?_toArray, List.getElem?_cons_succ, List.getElem?_cons_zero]; rfl
                      case hQy2_6_7 => exact fun _ _ _ h => h
                      case hwy2_6_7 => rfl
                      case hyy2_6_7 => intro w hSw; (try dsimp only at hSw); (first | (go_simp; done) | (go_simp; with_reducible rfl))
                      try simp only [Act.put, List.setIfInBounds_toArray, List.set_cons_zero, List.set_cons_succ]
                      refine wpAnyH_take (i := 7) (oi := ?oiy2_7_8) (v := ?vy2_7_8) ?hiy2_7_8 (by kernel_rfl) (by kernel_rfl) (by kernel_rfl) ?hQy2_7_8 (Or.inl ⟨?hwy2_7_8, ?hyy2_7_8⟩) (by assumption) ?_
                      case hiy2_7_8 => simp only [List.getElem?_toArray, List.getElem?_cons_succ, List.getElem?_cons_zero]; rfl
                      case hQy2_7_8 => exact fun _ _ _ h => h
                      case hwy2_7_8 => rfl
                      case hyy2_7_8 => intro w hSw; (try dsimp only at hSw); (first | (go_simp; done) | (go_simp; with_reducible rfl))
                      try simp only [Act.put, List.setIfInBounds_toArray, List.set_cons_zero, List.set_cons_succ]
                      refine wpAnyH_take (i := 8) (oi := ?oiy2_8_9) (v := ?vy2_8_9) ?hiy2_8_9 (by kernel_rfl) (by kernel_rfl) (by kernel_rfl) ?hQy2_8_9 (Or.inl ⟨?hwy2_8_9, ?hyy2_8_9⟩) (by assumption) ?_
                      case hiy2_8_9 => simp only [List.getElem?_toArray, List.getElem?_cons_succ, List.getElem?_cons_zero]; rfl
                      case hQy2_8_9 => exact fun _ _ _ h => h
                      case hwy2_8_9 => rfl
                      case hyy2_8_9 => intro w hSw; (try dsimp only at hSw); (first | (go_simp; done) | (go_simp; with_reducible rfl))
                      try simp only [Act.put, List.setIfInBounds_toArray, List.set_cons_zero, List.set_cons_succ]
                      refine wpAnyH_take (i := 9) (oi := ?oiy2_9_10) (v := ?vy2_9_10) ?hiy2_9_10 (by kernel_rfl) (by kernel_rfl) (by kernel_rfl) ?hQy2_9_10 (Or.inl ⟨?hwy2_9_10, ?hyy2_9_10⟩) (by assumption) ?_
                      case hiy2_9_10 => simp only [List.getElem?_toArray, List.getElem?_cons_succ, List.getElem?_cons_zero]; rfl
                      case hQy2_9_10 => exact fun _ _ _ h => h
                      case hwy2_9_10 => rfl
                      case hyy2_9_10 => intro w hSw; (try dsimp only at hSw); (first | (go_simp; done) | (go_simp; with_reducible rfl))
                      try simp only [Act.put, List.setIfInBounds_toArray, List.set_cons_zero, List.set_cons_succ]
                      refine wpAnyH_take (i := 10) (oi := ?oiy2_10_11) (v := ?vy2_10_11) ?hiy2_10_11 (by kernel_rfl) (by kernel_rfl) (by kernel_rfl) ?hQy2_10_11 (Or.inl ⟨?hwy2_10_11, ?hyy2_10_11⟩) (by assumption) ?_
                      case hiy2_10_11 => simp only [List.getElem?_toArray, List.getElem?_cons_succ, List.getElem?_cons_zero]; rfl
                      case hQy2_10_11 => exact fun _ _ _ h => h
                      case hwy2_10_11 => rfl
                      case hyy2_10_11 => intro w hSw; (try dsimp only at hSw); (first | (go_simp; done) | (go_simp; with_reducible rfl))
                      try simp only [Act.put, List.setIfInBounds_toArray, List.set_cons_zero, List.set_cons_succ]
                      refine wpAnyH_take (i := 11) (oi := ?oiy2_11_12) (v := ?vy2_11_12) ?hiy2_11_12 (by kernel_rfl) (by kernel_rfl) (by kernel_rfl) ?hQy2_11_12 (Or.inl ⟨?hwy2_11_12, ?hyy2_11_12⟩) (by assumption) ?_
                      case hiy2_11_12 => simp only [List.getElem?_toArray, List.getElem?_cons_succ, List.getElem?_cons_zero]; rfl
                      case hQy2_11_12 => exact fun _ _ _ h => h
                      case hwy2_11_12 => rfl
                      case hyy2_11_12 => intro w hSw; (try dsimp only at hSw); (first | (go_simp; done) | (go_simp; with_reducible rfl))
                      try simp only [Act.put, List.setIfInBounds_toArray, List.set_cons_zero, List.set_cons_succ]
                      refine wpAnyH_take (i := 12) (oi := ?oiy2_12_13) (v := ?vy2_12_13) ?hiy2_12_13 (by kernel_rfl) (by kernel_rfl) (by kernel_rfl) ?hQy2_12_13 (Or.inl ⟨?hwy2_12_13, ?hyy2_12_13⟩) (by assumption) ?_
                      case hiy2_12_13 => simp only [List.getElem?_toArray, List.getElem?_cons_succ, List.getElem?_cons_zero]; rfl
                      case hQy2_12_13 => exact fun _ _ _ h => h
                      case hwy2_12_13 => rfl
                      case hyy2_12_13 => intro w hSw; (try dsimp only at hSw); (first | (go_simp; done) | (go_simp; with_reducible rfl))
                      try simp only [Act.put, List.setIfInBounds_toArray, List.set_cons_zero, List.set_cons_succ]
                      refine wpAnyH_take (i := 13) (oi := ?oiy2_13_14) (v := ?vy2_13_14) ?hiy2_13_14 (by kernel_rfl) (by kernel_rfl) (by kernel_rfl) ?hQy2_13_14 (Or.inl ⟨?hwy2_13_14, ?hyy2_13_14⟩) (by assumption) ?_
                      case hiy2_13_14 => simp only [List.getElem?_toArray, List.getElem?_cons_succ, List.getElem?_cons_zero]; rfl
                      case hQy2_13_14 => exact fun _ _ _ h => h
                      case hwy2_13_14 => rfl
                      case hyy2_13_14 => intro w hSw; (try dsimp only at hSw); (first | (go_simp; done) | (go_simp; with_reducible rfl))
                      try simp only [Act.put, List.setIfInBounds_toArray, List.set_cons_zero, List.set_cons_succ]
                      refine wpAnyH_take (i := 14) (oi := ?oiy2_14_15) (v := ?vy2_14_15) ?hiy2_14_15 (by kernel_rfl) (by kernel_rfl) (by kernel_rfl) ?hQy2_14_15 (Or.inl ⟨?hwy2_14_15, ?hyy2_14_15⟩) (by assumption) ?_
                      case hiy2_14_15 => simp only [List.getElem?_toArray, List.getElem?_cons_succ, List.getElem?_cons_zero]; rfl
                      case hQy2_14_15 => exact fun _ _ _ h => h
                      case hwy2_14_15 => rfl
                      case hyy2_14_15 => intro w hSw; (try dsimp only at hSw); (first | (go_simp; done) | (go_simp; with_reducible rfl))
                      try simp only [Act.put, List.setIfInBounds_toArray, List.set_cons_zero, List.set_cons_succ]
                      refine wpAnyH_take (i := 15) (oi := ?oiy2_15_16) (v := ?vy2_15_16) ?hiy2_15_16 (by kernel_rfl) (by kernel_rfl) (by kernel_rfl) ?hQy2_15_16 (Or.inl ⟨?hwy2_15_16, ?hyy2_15_16⟩) (by assumption) ?_
                      case hiy2_15_16 => simp only [List.getElem?_toArray, List.getElem?_cons_succ, List.getElem?_cons_zero]; rfl
                      case hQy2_15_16 => exact fun _ _ _ h => h
                      case hwy2_15_16 => rfl
                      case hyy2_15_16 => intro w hSw; (try dsimp only at hSw); (first | (go_simp; done) | (go_simp; with_reducible rfl))
                      try simp only [Act.put, List.setIfInBounds_toArray, List.set_cons_zero, List.set_cons_succ]
                      refine wpAnyH_take (i := 16) (oi := ?oiy2_16_17) (v := ?vy2_16_17) ?hiy2_16_17 (by kernel_rfl) (by kernel_rfl) (by kernel_rfl) ?hQy2_16_17 (Or.inl ⟨?hwy2_16_17, ?hyy2_16_17⟩) (by assumption) ?_
                      case hiy2_16_17 => simp only [List.getElem?_toArray, List.getElem?_cons_succ, List.getElem?_cons_zero]; rfl
                      case hQy2_16_17 => exact fun _ _ _ h => h
                      case hwy2_16_17 => rfl
                      case hyy2_16_17 => intro w hSw; (try dsimp only at hSw); (first | (go_simp; done) | (go_simp; with_reducible rfl))
                      try simp only [Act.put, List.setIfInBounds_toArray, List.set_cons_zero, List.set_cons_succ]
                      refine wpAnyH_take (i := 17) (oi := ?oiy2_17_18) (v := ?vy2_17_18) ?hiy2_17_18 (by kernel_rfl) (by kernel_rfl) (by kernel_rfl) ?hQy2_17_18 (Or.inl ⟨?hwy2_17_18, ?hyy2_17_18⟩) (by assumption) ?_
                      case hiy2_17_18 => simp only [List.getElem?_toArray, List.getElem?_cons_succ, List.getElem?_cons_zero]; rfl
                      case hQy2_17_18 => exact fun _ _ _ h => h
                      case hwy2_17_18 => rfl
                      case hyy2_17_18 => intro w hSw; (try dsimp only at hSw); (first | (go_simp; done) | (go_simp; with_reducible rfl))
                      try simp only [Act.put, List.setIfInBounds_toArray, List.set_cons_zero, List.set_cons_succ]
                      refine wpAnyH_take (i := 18) (oi := ?oiy2_18_19) (v := ?vy2_18_19) ?hiy2_18_19 (by kernel_rfl) (by kernel_rfl) (by kernel_rfl) ?hQy2_18_19 (Or.inl ⟨?hwy2_18_19, ?hyy2_18_19⟩) (by assumption) ?_
                      case hiy2_18_19 => simp only [List.getElem?_toArray, List.getElem?_cons_succ, List.getElem?_cons_zero]; rfl
                      case hQy2_18_19 => exact fun _ _ _ h => h
                      case hwy2_18_19 => rfl
                      case hyy2_18_19 => intro w hSw; (try dsimp only at hSw); (first | (go_simp; done) | (go_simp; with_reducible rfl))
                      try simp only [Act.put, List.setIfInBounds_toArray, List.set_cons_zero, List.set_cons_succ]
                      refine wpAnyH_ready (rs := [19]) (by kernel_rfl) (by simp) ?_
                      refine AllReadyH.cons (o := ?oy2_19_20) ?hiy2_19_20 (fun K hK => ?gy2_19_20) AllReadyH.nil
                      case hiy2_19_20 => simp only [List.getElem?_toArray, List.getElem?_cons_succ, List.getElem?_cons_zero]; rfl
                      case gy2_19_20 =>
                        obtain ⟨c_p0, f_p0, c_p1, f_p1, c_p2, f_p2, l_p⟩ := Vn.v3 o_p
                        obtain ⟨c_r0, f_r0, c_r1, f_r1, c_r2, f_r2, l_r⟩ := Vn.v3 o_r
                        obtain ⟨c_o0, f_o0, c_o1, f_o1, c_o2, f_o2, l_o⟩ := Vn.v3 o_o
                        go_simp
                        clear c_p0 f_p0 c_p1 f_p1 c_p2 f_p2 l_p c_r0 f_r0 c_r1 f_r1 c_r2 f_r2 l_r c_o0 f_o0 c_o1 f_o1 c_o2 f_o2 l_o
                        obtain ⟨w12, hw12⟩ : ∃ y, y = (((w11.setCell ⟨(w.heap.size + 1), 0, none⟩ (.int .i64 b.Seed)).setCell ⟨(w.heap.size + 1), 1, none⟩ (.int .i64 b.Next)).setCell ⟨(w.heap.size + 1), 2, none⟩ (.slice A11 (k) c11)) := ⟨_, rfl⟩
                        obtain ⟨o_new, tw12⟩ := var_some [.int .i64 b.Seed, .int .i64 b.Next, .slice A11 (k) c11] 0 _ _ o_r (by simp)
                        rw [show setAll w11 ((w.heap.size + 1)) 0 [.int .i64 b.Seed, .int .i64 b.Next, .slice A11 (k) c11] = w12 from hw12.symm] at o_new tw12
                        replace o_r : Owns w12 _ (varD 26 3 [.int .i64 b.Seed, .int .i64 b.Next, .slice A11 (k) c11]) _ _ := o_new
                        clear o_new
                        replace o_p := owns_turned o_p tw12 (fun b hb hb2 => by simp at hb hb2; omega)
                        replace o_o := owns_turned o_o tw12 (fun b hb hb2 => by simp at hb hb2; omega)
                        replace o_z := owns_turned o_z tw12 (fun b hb hb2 => by have h1 := i_z b hb; simp at hb2; omega)
                        replace HB := below_turned HB tw12 (fun b hb => by simp at hb; omega)
                        have zw12 := tw12.2.2.2.1
                        rw [← hw12]
                        clear hw12
                        refine hK.out _ _ ?_ (fun hHeld => ?_)
                        · exact ⟨var_load o_p (by simp) 0 _ rfl, var_load o_p (by simp) 1 _ rfl, var_load o_p (by simp) 2 _ rfl, var_load o_o (by simp) 0 _ rfl, var_load o_o (by simp) 1 _ rfl, var_load o_o (by simp) 2 _ rfl, (EC.out _ HB).1, (EC.out _ HB).2⟩
                        clear hK K
                        try simp only [Act.put, List.setIfInBounds_toArray, List.set_cons_zero, List.set_cons_succ]
                        refine wpAnyH_take (i := 20) (oi := ?oiy2_20_21) (v := ?vy2_20_21) ?hiy2_20_21 (by kernel_rfl) (by kernel_rfl) (by kernel_rfl) ?hQy2_20_21 (Or.inl ⟨?hwy2_20_21, ?hyy2_20_21⟩) (by assumption) ?_
                        case hiy2_20_21 => simp only [List.getElem?_toArray, List.getElem?_cons_succ, List.getElem?_cons_zero]; rfl
                        case hQy2_20_21 => exact fun _ _ _ h => h
                        case hwy2_20_21 => rfl
                        case hyy2_20_21 => intro w hSw; (try dsimp only at hSw); (first | (go_simp; done) | (go_simp; with_reducible rfl))
                        try simp only [Act.put, List.setIfInBounds_toArray, List.set_cons_zero, List.set_cons_succ]
                        refine wpAnyH_done (by kernel_rfl) ?_ _
                        go_wp2
                        have y0 : w12.cell? ⟨(w.heap.size + 1), 0, none⟩ = some (.int .i64 b.Seed) := var_load o_r (by simp) 0 _ rfl
                        have y1 : w12.cell? ⟨(w.heap.size + 1), 1, none⟩ = some (.int .i64 b.Next) := var_load o_r (by simp) 1 _ rfl
                        have y2 : w12.cell? ⟨(w.heap.size + 1), 2, none⟩ = some (.slice A11 (k) c11) := var_load o_r (by simp) 2 _ rfl
                        refine bodyPost_ret (v := .tuple #[.agg #[.int .i64 b.Seed, .int .i64 b.Next, .slice A11 (k) c11], .bool false]) (by simp [results, Try.results29, go_sem, y0, y1, y2]) rfl ?_
                        exact made_tk (x := ⟨b.Seed, b.Next, xs.take k ++ xs.drop (k + 1)⟩) (by rfl) rfl rfl (by have := HL.out; simp; omega) o_z (Ra.block_nodup _) HB
          · have ea2 : (y.Account == a) = false := by simpa using ea
            obtain rfl : r = false := by rw [HRB.out, decide_eq_false ea]; rfl
            clear ea
            go_wp2_with fail
            rw [← hw5]
            clear hw5 sw5
            clear c_p0 f_p0 c_p1 f_p1 c_p2 f_p2 l_p c_r0 f_r0 c_r1 f_r1 c_r2 f_r2 l_r
            have HN := Below.refl w5.heap.size w5
            obtain ⟨w6, hw6⟩ : ∃ y, y = w5.drew := ⟨_, rfl⟩
            have bw6 : Below w5.heap.size w5 w6 := hw6 ▸ drewN_below w5 1 _
            replace o_p := owns_below o_p bw6
            replace o_r := owns_below o_r bw6
            replace o_o := owns_below o_o bw6
            replace HB := HB.trans (bw6.mono HB.size)
            have zw6 := bw6.size
            replace HN := HN.trans (bw6.mono HN.size)
            refine wp_region_held_drew (S := (fun wx => wx.cell? ⟨w.heap.size, 0, none⟩ = some (.int .i64 b.Seed) ∧ wx.cell? ⟨w.heap.size, 1, none⟩ = some (.int .i64 b.Next) ∧ wx.cell? ⟨w.heap.size, 2, none⟩ = some (.slice (some ⟨gb, off, none⟩) n (k + 1)))) (by kernel_rfl) ?_ (fun hHeld => ?_)
            · rw [← hw6]; exact ⟨var_load o_p (by simp) 0 _ rfl, var_load o_p (by simp) 1 _ rfl, var_load o_p (by simp) 2 _ rfl⟩
            rw [← hw6] at hHeld ⊢
            clear hw6
            refine wpAnyH_take (i := 1) (oi := ?oix3_1_1) (v := ?vx3_1_1) ?hix3_1_1 (by kernel_rfl) (by kernel_rfl) (by kernel_rfl) ?hQx3_1_1 (Or.inl ⟨?hwx3_1_1, ?hyx3_1_1⟩) (by assumption) ?_
            case hix3_1_1 => simp only [List.getElem?_toArray, List.getElem?_cons_succ, List.getElem?_cons_zero]; rfl
            case hQx3_1_1 => exact fun _ _ _ h => h
            case hwx3_1_1 => rfl
            case hyx3_1_1 => intro w hSw; have hw1 := HW1.out; have hw2 := HW2.out; (try dsimp only at hSw); (first | (go_simp; done) | (go_simp; with_reducible rfl))
            try simp only [Act.put, List.setIfInBounds_toArray, List.set_cons_zero, List.set_cons_succ]
            refine wpAnyH_take (i := 2) (oi := ?oix3_2_2) (v := ?vx3_2_2) ?hix3_2_2 (by kernel_rfl) (by kernel_rfl) (by kernel_rfl) ?hQx3_2_2 (Or.inl ⟨?hwx3_2_2, ?hyx3_2_2⟩) (by assumption) ?_
            case hix3_2_2 => simp only [List.getElem?_toArray, List.getElem?_cons_succ, List.getElem?_cons_zero]; rfl
            case hQx3_2_2 => exact fun _ _ _ h => h
            case hwx3_2_2 => rfl
            case hyx3_2_2 => intro w hSw; have hw1 := HW1.out; have hw2 := HW2.out; (try dsimp only at hSw); (first | (go_simp; done) | (go_simp; with_reducible rfl))
            try simp only [Act.put, List.setIfInBounds_toArray, List.set_cons_zero, List.set_cons_succ]
            refine wpAnyH_take (i := 3) (oi := ?oix3_3_3) (v := ?vx3_3_3) ?hix3_3_3 (by kernel_rfl) (by kernel_rfl) (by kernel_rfl) ?hQx3_3_3 (Or.inl ⟨?hwx3_3_3, ?hyx3_3_3⟩) (by assumption) ?_
            case hix3_3_3 => simp only [List.getElem?_toArray, List.getElem?_cons_succ, List.getElem?_cons_zero]; rfl
            case hQx3_3_3 => exact fun _ _ _ h => h
            case hwx3_3_3 => rfl
            case hyx3_3_3 => intro w hSw; have hw1 := HW1.out; have hw2 := HW2.out; (try dsimp only at hSw); (first | (go_simp; done) | (go_simp; with_reducible rfl))
            try simp only [Act.put, List.setIfInBounds_toArray, List.set_cons_zero, List.set_cons_succ]
            refine wpAnyH_take (i := 4) (oi := ?oix3_4_4) (v := ?vx3_4_4) ?hix3_4_4 (by kernel_rfl) (by kernel_rfl) (by kernel_rfl) ?hQx3_4_4 (Or.inl ⟨?hwx3_4_4, ?hyx3_4_4⟩) (by assumption) ?_
            case hix3_4_4 => simp only [List.getElem?_toArray, List.getElem?_cons_succ, List.getElem?_cons_zero]; rfl
            case hQx3_4_4 => exact fun _ _ _ h => h
            case hwx3_4_4 => rfl
            case hyx3_4_4 => intro w hSw; have hw1 := HW1.out; have hw2 := HW2.out; (try dsimp only at hSw); (first | (go_simp; done) | (go_simp; with_reducible rfl))
            try simp only [Act.put, List.setIfInBounds_toArray, List.set_cons_zero, List.set_cons_succ]
            refine wpAnyH_take (i := 6) (oi := ?oix3_6_5) (v := ?vx3_6_5) ?hix3_6_5 (by kernel_rfl) (by kernel_rfl) (by kernel_rfl) ?hQx3_6_5 (Or.inl ⟨?hwx3_6_5, ?hyx3_6_5⟩) (by assumption) ?_
            case hix3_6_5 => simp only [List.getElem?_toArray, List.getElem?_cons_succ, List.getElem?_cons_zero]; rfl
            case hQx3_6_5 => exact fun _ _ _ h => h
            case hwx3_6_5 => rfl
            case hyx3_6_5 => intro w hSw; have hw1 := HW1.out; have hw2 := HW2.out; (try dsimp only at hSw); (first | (go_simp; done) | (go_simp; with_reducible rfl))
            try simp only [Act.put, List.setIfInBounds_toArray, List.set_cons_zero, List.set_cons_succ]
            refine wpAnyH_take (i := 7) (oi := ?oix3_7_6) (v := ?vx3_7_6) ?hix3_7_6 (by kernel_rfl) (by kernel_rfl) (by kernel_rfl) ?hQx3_7_6 (Or.inl ⟨?hwx3_7_6, ?hyx3_7_6⟩) (by assumption) ?_
            case hix3_7_6 => simp only [List.getElem?_toArray, List.getElem?_cons_succ, List.getElem?_cons_zero]; rfl
            case hQx3_7_6 => exact fun _ _ _ h => h
            case hwx3_7_6 => rfl
            case hyx3_7_6 => intro w hSw; have hw1 := HW1.out; have hw2 := HW2.out; (try dsimp only at hSw); (first | (go_simp; done) | (go_simp; with_reducible rfl))
            try simp only [Act.put, List.setIfInBounds_toArray, List.set_cons_zero, List.set_cons_succ]
            refine wpAnyH_take (i := 8) (oi := ?oix3_8_7) (v := ?vx3_8_7) ?hix3_8_7 (by kernel_rfl) (by kernel_rfl) (by kernel_rfl) ?hQx3_8_7 (Or.inl ⟨?hwx3_8_7, ?hyx3_8_7⟩) (by assumption) ?_
            case hix3_8_7 => simp only [List.getElem?_toArray, List.getElem?_cons_succ, List.getElem?_cons_zero]; rfl
            case hQx3_8_7 => exact fun _ _ _ h => h
            case hwx3_8_7 => rfl
            case hyx3_8_7 => intro w hSw; have hw1 := HW1.out; have hw2 := HW2.out; (try dsimp only at hSw); (first | (go_simp; done) | (go_simp; with_reducible rfl))
            try simp only [Act.put, List.setIfInBounds_toArray, List.set_cons_zero, List.set_cons_succ]
            refine wpAnyH_take (i := 9) (oi := ?oix3_9_8) (v := ?vx3_9_8) ?hix3_9_8 (by kernel_rfl) (by kernel_rfl) (by kernel_rfl) ?hQx3_9_8 (Or.inl ⟨?hwx3_9_8, ?hyx3_9_8⟩) (by assumption) ?_
            case hix3_9_8 => simp only [List.getElem?_toArray, List.getElem?_cons_succ, List.getElem?_cons_zero]; rfl
            case hQx3_9_8 => exact fun _ _ _ h => h
            case hwx3_9_8 => rfl
            case hyx3_9_8 => intro w hSw; have hw1 := HW1.out; have hw2 := HW2.out; (try dsimp only at hSw); (first | (go_simp; done) | (go_simp; with_reducible rfl))
            try simp only [Act.put, List.setIfInBounds_toArray, List.set_cons_zero, List.set_cons_succ]
            refine wpAnyH_take (i := 10) (oi := ?oix3_10_9) (v := ?vx3_10_9) ?hix3_10_9 (by kernel_rfl) (by kernel_rfl) (by kernel_rfl) ?hQx3_10_9 (Or.inl ⟨?hwx3_10_9, ?hyx3_10_9⟩) (by assumption) ?_
            case hix3_10_9 => simp only [List.getElem?_toArray, List.getElem?_cons_succ, List.getElem?_cons_zero]; rfl
            case hQx3_10_9 => exact fun _ _ _ h => h
            case hwx3_10_9 => rfl
            case hyx3_10_9 => intro w hSw; have hw1 := HW1.out; have hw2 := HW2.out; (try dsimp only at hSw); (first | (go_simp; done) | (go_simp; with_reducible rfl))
            try simp only [Act.put, List.setIfInBounds_toArray, List.set_cons_zero, List.set_cons_succ]
            refine wpAnyH_ready (rs := [0]) (by kernel_rfl) (by simp) ?_
            refine AllReadyH.cons (o := ?ox3_0_10) ?hix3_0_10 (fun K hK => ?gx3_0_10) AllReadyH.nil
            case hix3_0_10 => simp only [List.getElem?_toArray, List.getElem?_cons_zero]; rfl
            case gx3_0_10 =>
              go_simp
              obtain ⟨w7, hw7⟩ : ∃ y, y = w6.alloc (.cells #[] 30) := ⟨_, rfl⟩
              have o_R0 : (w6.alloc (.cells #[] 30)).ownsRow w5.heap.size 30 3 (.slice (some ⟨w6.heap.size, 0, none⟩) 0 0) 0 (many []) := own_base (own_emp w6) HN.size
              rw [← hw7] at o_R0 ⊢
              have bw7 : Below w6.heap.size w6 w7 := hw7 ▸ (Below.refl _ _).alloc (Nat.le_refl _) _
              clear hw7
              replace HN := HN.trans (bw7.mono HN.size)
              replace o_p := owns_below o_p bw7
              replace o_r := owns_below o_r bw7
              replace o_o := owns_below o_o bw7
              replace HB := HB.trans (bw7.mono HB.size)
              have zw7 := bw7.size
              refine hK.out _ _ ?_ (fun hHeld => ?_)
              · exact ⟨var_load o_p (by simp) 0 _ rfl, var_load o_p (by simp) 1 _ rfl, var_load o_p (by simp) 2 _ rfl⟩
              clear hK K
              try simp only [Act.put, List.setIfInBounds_toArray, List.set_cons_zero, List.set_cons_succ]
              refine wpAnyH_ready (rs := [5]) (by kernel_rfl) (by simp) ?_
              refine AllReadyH.cons (o := ?ox3_5_11) ?hix3_5_11 (fun K hK => ?gx3_5_11) AllReadyH.nil
              case hix3_5_11 => simp only [List.getElem?_toArray, List.getElem?_cons_succ, List.getElem?_cons_zero]; rfl
              case gx3_5_11 =>
                refine stepC w7 rfl (.tmp 25) (.tmp 29) rfl (w5.heap.size) (.slice (some ⟨w6.heap.size, 0, none⟩) 0 0) (0) _ (by simp [Act.eval]) o_R0 _ (some ⟨gb, off, none⟩) (k) (k + 1) (xs.take k) (by simp [Act.eval]) (rd_take3 (HR.out _ HB) (by omega)) (by omega) HN.size ?_
                intro vw8 w8 o_R5 gw8 kw8
                have Tw8 := turned_grown gw8
                have Qw8 : ∀ b, b ∈ Option.toList (Value.ownBlock (.slice (some ⟨w6.heap.size, 0, none⟩) 0 0)) → w5.heap.size ≤ b := fun b hb => (o_R0.lt b (by simpa using hb)).1
                replace o_p := owns_turned o_p Tw8 (fun b hb hb2 => by have h1 := Qw8 b hb2; simp at hb; omega)
                replace o_r := owns_turned o_r Tw8 (fun b hb hb2 => by have h1 := Qw8 b hb2; simp at hb; omega)
                replace o_o := owns_turned o_o Tw8 (fun b hb hb2 => by have h1 := Qw8 b hb2; simp at hb; omega)
                replace HN := HN.grown gw8 HN.size (fun j hj => (o_R0.lt j hj).1)
                replace HB := below_turned HB Tw8 (fun b hb => by have h1 := Qw8 b hb; omega)
                have zw8 := gw8.size
                rw [Nat.zero_add, List.nil_append] at o_R5
                obtain ⟨A5, c5, rfl⟩ := own_nil_form o_R5
                clear o_R0 kw8 gw8
                refine hK.out _ _ ?_ (fun hHeld => ?_)
                · exact ⟨var_load o_p (by simp) 0 _ rfl, var_load o_p (by simp) 1 _ rfl, var_load o_p (by simp) 2 _ rfl⟩
                clear hK K
                try simp only [Act.put, List.setIfInBounds_toArray, List.set_cons_zero, List.set_cons_succ]
                refine wpAnyH_ready (rs := [11]) (by kernel_rfl) (by simp) ?_
                refine AllReadyH.cons (o := ?ox3_11_12) ?hix3_11_12 (fun K hK => ?gx3_11_12) AllReadyH.nil
                case hix3_11_12 => simp only [List.getElem?_toArray, List.getElem?_cons_succ, List.getElem?_cons_zero]; rfl
                case gx3_11_12 =>
                  refine stepC w8 rfl (.tmp 30) (.tmp 35) rfl (w5.heap.size) (.slice A5 (k) c5) (k) _ (by simp [Act.eval]) o_R5 _ (some ⟨gb, off, none⟩) (0) (0) (xs.drop (k + 1)) (by simp [Act.eval]) (rd_last (hi := 0) HL.out (by omega)) (by omega) HN.size ?_
                  intro vw9 w9 o_R11 gw9 kw9
                  have Tw9 := turned_grown gw9
                  have Qw9 : ∀ b, b ∈ Option.toList (Value.ownBlock (.slice A5 (k) c5)) → w5.heap.size ≤ b := fun b hb => (o_R5.lt b (by simpa using hb)).1
                  replace o_p := owns_turned o_p Tw9 (fun b hb hb2 => by have h1 := Qw9 b hb2; simp at hb; omega)
                  replace o_r := owns_turned o_r Tw9 (fun b hb hb2 => by have h1 := Qw9 b hb2; simp at hb; omega)
                  replace o_o := owns_turned o_o Tw9 (fun b hb hb2 => by have h1 := Qw9 b hb2; simp at hb; omega)
                  replace HN := HN.grown gw9 HN.size (fun j hj => (o_R5.lt j hj).1)
                  replace HB := below_turned HB Tw9 (fun b hb => by have h1 := Qw9 b hb; omega)
                  have zw9 := gw9.size
                  rw [Nat.add_zero] at o_R11
                  obtain ⟨A11, c11, rfl⟩ := own_nil_form o_R11
                  clear o_R5 kw9 gw9
                  refine hK.out _ _ ?_ (fun hHeld => ?_)
                  · exact ⟨var_load o_p (by simp) 0 _ rfl, var_load o_p (by simp) 1 _ rfl, var_load o_p (by simp) 2 _ rfl⟩
                  clear hK K
                  try simp only [Act.put, List.setIfInBounds_toArray, List.set_cons_zero, List.set_cons_succ]
                  refine wpAnyH_take (i := 12) (oi := ?oix3_12_13) (v := ?vx3_12_13) ?hix3_12_13 (by kernel_rfl) (by kernel_rfl) (by kernel_rfl) ?hQx3_12_13 (Or.inl ⟨?hwx3_12_13, ?hyx3_12_13⟩) (by assumption) ?_
                  case hix3_12_13 => simp only [List.getElem?_toArray, List.getElem?_cons_succ, List.getElem?_cons_zero]; rfl
                  case hQx3_12_13 => exact fun _ _ _ h => h
                  case hwx3_12_13 => rfl
                  case hyx3_12_13 => intro w hSw; have hw1 := HW1.out; have hw2 := HW2.out; (try dsimp only at hSw); (first | (go_simp; done) | (go_simp; with_reducible rfl))
                  try simp only [Act.put, List.setIfInBounds_toArray, List.set_cons_zero, List.set_cons_succ]
                  refine wpAnyH_ready (rs := [13]) (by kernel_rfl) (by simp) ?_
                  refine AllReadyH.cons (o := ?ox3_13_14) ?hix3_13_14 (fun K hK => ?gx3_13_14) AllReadyH.nil
                  case hix3_13_14 => simp only [List.getElem?_toArray, List.getElem?_cons_succ, List.getElem?_cons_zero]; rfl
                  case gx3_13_14 =>
                    obtain ⟨c_p0, f_p0, c_p1, f_p1, c_p2, f_p2, l_p⟩ := Vn.v3 o_p
                    obtain ⟨c_r0, f_r0, c_r1, f_r1, c_r2, f_r2, l_r⟩ := Vn.v3 o_r
                    obtain ⟨c_o0, f_o0, c_o1, f_o1, c_o2, f_o2, l_o⟩ := Vn.v3 o_o
                    go_simp
                    clear c_p0 f_p0 c_p1 f_p1 c_p2 f_p2 l_p c_r0 f_r0 c_r1 f_r1 c_r2 f_r2 l_r c_o0 f_o0 c_o1 f_o1 c_o2 f_o2 l_o
                    obtain ⟨w10, hw10⟩ : ∃ y, y = (w9.setCell ⟨w4.heap.size, 2, none⟩ (.slice A11 (k) c11)) := ⟨_, rfl⟩
                    obtain ⟨o_new, tw10⟩ := var_some [.slice A11 (k) c11] 2 _ _ o_o (by simp)
                    rw [show setAll w9 (w4.heap.size) 2 [.slice A11 (k) c11] = w10 from hw10.symm] at o_new tw10
                    replace o_o : Owns w10 _ (varD 26 3 [.int .i64 b.Seed, .int .i64 b.Next, .slice A11 (k) c11]) _ _ := o_new
                    clear o_new
                    replace o_p := owns_turned o_p tw10 (fun b hb hb2 => by simp at hb hb2; omega)
                    replace o_r := owns_turned o_r tw10 (fun b hb hb2 => by simp at hb hb2; omega)
                    replace HB := below_turned HB tw10 (fun b hb => by simp at hb; omega)
                    have zw10 := tw10.2.2.2.1
                    rw [← hw10]
                    clear hw10
                    replace o_R11 := many_turned o_R11 tw10 (fun b hb hb2 => by have h1 := (o_R11.lt b (by simpa using hb)).1; simp at hb2; omega)
                    refine hK.out _ _ ?_ (fun hHeld => ?_)
                    · exact ⟨var_load o_p (by simp) 0 _ rfl, var_load o_p (by simp) 1 _ rfl, var_load o_p (by simp) 2 _ rfl⟩
                    clear hK K
                    try simp only [Act.put, List.setIfInBounds_toArray, List.set_cons_zero, List.set_cons_succ]
                    refine wpAnyH_done (by kernel_rfl) ?_ _
                    have i_z0 := Fx.made_in (owns_many o_R11)
                    have o_z := owns_many (own_base o_R11 (show w.heap.size ≤ w5.heap.size by omega))
                    have i_z := i_z0
                    clear i_z0 o_R11
                    obtain ⟨c_p0, f_p0, c_p1, f_p1, c_p2, f_p2, l_p⟩ := Vn.v3 o_p
                    obtain ⟨c_r0, f_r0, c_r1, f_r1, c_r2, f_r2, l_r⟩ := Vn.v3 o_r
                    obtain ⟨c_o0, f_o0, c_o1, f_o1, c_o2, f_o2, l_o⟩ := Vn.v3 o_o
                    go_wp2_with fail
                    clear c_p0 f_p0 c_p1 f_p1 c_p2 f_p2 l_p c_r0 f_r0 c_r1 f_r1 c_r2 f_r2 l_r c_o0 f_o0 c_o1 f_o1 c_o2 f_o2 l_o
                    obtain ⟨w11, hw11⟩ : ∃ y, y = w10.drew := ⟨_, rfl⟩
                    have bw11 : Below w10.heap.size w10 w11 := hw11 ▸ drewN_below w10 1 _
                    replace o_p := owns_below o_p bw11
                    replace o_r := owns_below o_r bw11
                    replace o_o := owns_below o_o bw11
                    replace o_z := owns_below o_z bw11
                    replace HB := HB.trans (bw11.mono HB.size)
                    have zw11 := bw11.size
                    refine wp_region_held_drew (S := (fun (wx : World) => wx.cell? ⟨w.heap.size, 0, none⟩ = some (.int .i64 b.Seed) ∧ wx.cell? ⟨w.heap.size, 1, none⟩ = some (.int .i64 b.Next) ∧ wx.cell? ⟨w.heap.size, 2, none⟩ = some (.slice (some ⟨gb, off, none⟩) n (k + 1)) ∧ wx.cell? ⟨w4.heap.size, 0, none⟩ = some (.int .i64 b.Seed) ∧ wx.cell? ⟨w4.heap.size, 1, none⟩ = some (.int .i64 b.Next) ∧ wx.cell? ⟨w4.heap.size, 2, none⟩ = some (.slice A11 (k) c11) ∧ wx.cell? ⟨gb, off + k * 3 + 1, none⟩ = some (.int .i64 y.Account) ∧ wx.cell? ⟨gb, off + k * 3 + 2, none⟩ = some (.int .i64 y.Until))) (by kernel_rfl) ?_ (fun hHeld => ?_)
                    · rw [← hw11]; exact ⟨var_load o_p (by simp) 0 _ rfl, var_load o_p (by simp) 1 _ rfl, var_load o_p (by simp) 2 _ rfl, var_load o_o (by simp) 0 _ rfl, var_load o_o (by simp) 1 _ rfl, var_load o_o (by simp) 2 _ rfl, (EC.out _ HB).1, (EC.out _ HB).2⟩
                    rw [← hw11] at hHeld ⊢
                    clear hw11
                    refine wpAnyH_take (i := 0) (oi := ?oiy3_0_1) (v := ?vy3_0_1) ?hiy3_0_1 (by kernel_rfl) (by kernel_rfl) (by kernel_rfl) ?hQy3_0_1 (Or.inl ⟨?hwy3_0_1, ?hyy3_0_1⟩) (by assumption) ?_
                    case hiy3_0_1 => simp only [List.getElem?_toArray, List.getElem?_cons_zero]; rfl
                    case hQy3_0_1 => exact fun _ _ _ h => h
                    case hwy3_0_1 => rfl
                    case hyy3_0_1 => intro w hSw; (try dsimp only at hSw); (first | (go_simp; done) | (go_simp; with_reducible rfl))
                    try simp only [Act.put, List.setIfInBounds_toArray, List.set_cons_zero, List.set_cons_succ]
                    refine wpAnyH_take (i := 1) (oi := ?oiy3_1_2) (v := ?vy3_1_2) ?hiy3_1_2 (by kernel_rfl) (by kernel_rfl) (by kernel_rfl) ?hQy3_1_2 (Or.inl ⟨?hwy3_1_2, ?hyy3_1_2⟩) (by assumption) ?_
                    case hiy3_1_2 => simp only [List.getElem?_toArray, List.getElem?_cons_succ, List.getElem?_cons_zero]; rfl
                    case hQy3_1_2 => exact fun _ _ _ h => h
                    case hwy3_1_2 => rfl
                    case hyy3_1_2 => intro w hSw; (try dsimp only at hSw); (first | (go_simp; done) | (go_simp; with_reducible rfl))
                    try simp only [Act.put, List.setIfInBounds_toArray, List.set_cons_zero, List.set_cons_succ]
                    refine wpAnyH_take (i := 2) (oi := ?oiy3_2_3) (v := ?vy3_2_3) ?hiy3_2_3 (by kernel_rfl) (by kernel_rfl) (by kernel_rfl) ?hQy3_2_3 (Or.inl ⟨?hwy3_2_3, ?hyy3_2_3⟩) (by assumption) ?_
                    case hiy3_2_3 => simp only [List.getElem?_toArray, List.getElem?_cons_succ, List.getElem?_cons_zero]; rfl
                    case hQy3_2_3 => exact fun _ _ _ h => h
                    case hwy3_2_3 => rfl
                    case hyy3_2_3 => intro w hSw; (try dsimp only at hSw); (first | (go_simp; done) | (go_simp; with_reducible rfl))
                    try simp only [Act.put, List.setIfInBounds_toArray, List.set_cons_zero, List.set_cons_succ]
                    refine wpAnyH_take (i := 3) (oi := ?oiy3_3_4) (v := ?vy3_3_4) ?hiy3_3_4 (by kernel_rfl) (by kernel_rfl) (by kernel_rfl) ?hQy3_3_4 (Or.inl ⟨?hwy3_3_4, ?hyy3_3_4⟩) (by assumption) ?_
                    case hiy3_3_4 => simp only [List.getElem?_toArray, List.getElem?_cons_succ, List.getElem?_cons_zero]; rfl
                    case hQy3_3_4 => exact fun _ _ _ h => h
                    case hwy3_3_4 => rfl
                    case hyy3_3_4 => intro w hSw; (try dsimp only at hSw); (first | (go_simp; done) | (go_simp; with_reducible rfl))
                    try simp only [Act.put, List.setIfInBounds_toArray, List.set_cons_zero, List.set_cons_succ]
                    refine wpAnyH_take (i := 4) (oi := ?oiy3_4_5) (v := ?vy3_4_5) ?hiy3_4_5 (by kernel_rfl) (by kernel_rfl) (by kernel_rfl) ?hQy3_4_5 (Or.inl ⟨?hwy3_4_5, ?hyy3_4_5⟩) (by assumption) ?_
                    case hiy3_4_5 => simp only [List.getElem?_toArray, List.getElem?_cons_succ, List.getElem?_cons_zero]; rfl
                    case hQy3_4_5 => exact fun _ _ _ h => h
                    case hwy3_4_5 => rfl
                    case hyy3_4_5 => intro w hSw; (try dsimp only at hSw); (first | (go_simp; done) | (go_simp; with_reducible rfl))
                    try simp only [Act.put, List.setIfInBounds_toArray, List.set_cons_zero, List.set_cons_succ]
                    refine wpAnyH_take (i := 5) (oi := ?oiy3_5_6) (v := ?vy3_5_6) ?hiy3_5_6 (by kernel_rfl) (by kernel_rfl) (by kernel_rfl) ?hQy3_5_6 (Or.inl ⟨?hwy3_5_6, ?hyy3_5_6⟩) (by assumption) ?_
                    case hiy3_5_6 => simp only [List.getElem?_toArray, List.getElem?_cons_succ, List.getElem?_cons_zero]; rfl
                    case hQy3_5_6 => exact fun _ _ _ h => h
                    case hwy3_5_6 => rfl
                    case hyy3_5_6 => intro w hSw; (try dsimp only at hSw); (first | (go_simp; done) | (go_simp; with_reducible rfl))
                    try simp only [Act.put, List.setIfInBounds_toArray, List.set_cons_zero, List.set_cons_succ]
                    refine wpAnyH_take (i := 6) (oi := ?oiy3_6_7) (v := ?vy3_6_7) ?hiy3_6_7 (by kernel_rfl) (by kernel_rfl) (by kernel_rfl) ?hQy3_6_7 (Or.inl ⟨?hwy3_6_7, ?hyy3_6_7⟩) (by assumption) ?_
                    case hiy3_6_7 => simp only [List.getElem?_toArray, List.getElem?_cons_succ, List.getElem?_cons_zero]; rfl
                    case hQy3_6_7 => exact fun _ _ _ h => h
                    case hwy3_6_7 => rfl
                    case hyy3_6_7 => intro w hSw; (try dsimp only at hSw); (first | (go_simp; done) | (go_simp; with_reducible rfl))
                    try simp only [Act.put, List.setIfInBounds_toArray, List.set_cons_zero, List.set_cons_succ]
                    refine wpAnyH_take (i := 7) (oi := ?oiy3_7_8) (v := ?vy3_7_8) ?hiy3_7_8 (by kernel_rfl) (by kernel_rfl) (by kernel_rfl) ?hQy3_7_8 (Or.inl ⟨?hwy3_7_8, ?hyy3_7_8⟩) (by assumption) ?_
                    case hiy3_7_8 => simp only [List.getElem?_toArray, List.getElem?_cons_succ, List.getElem?_cons_zero]; rfl
                    case hQy3_7_8 => exact fun _ _ _ h => h
                    case hwy3_7_8 => rfl
                    case hyy3_7_8 => intro w hSw; (try dsimp only at hSw); (first | (go_simp; done) | (go_simp; with_reducible rfl))
                    try simp only [Act.put, List.setIfInBounds_toArray, List.set_cons_zero, List.set_cons_succ]
                    refine wpAnyH_take (i := 8) (oi := ?oiy3_8_9) (v := ?vy3_8_9) ?hiy3_8_9 (by kernel_rfl) (by kernel_rfl) (by kernel_rfl) ?hQy3_8_9 (Or.inl ⟨?hwy3_8_9, ?hyy3_8_9⟩) (by assumption) ?_
                    case hiy3_8_9 => simp only [List.getElem?_toArray, List.getElem?_cons_succ, List.getElem?_cons_zero]; rfl
                    case hQy3_8_9 => exact fun _ _ _ h => h
                    case hwy3_8_9 => rfl
                    case hyy3_8_9 => intro w hSw; (try dsimp only at hSw); (first | (go_simp; done) | (go_simp; with_reducible rfl))
                    try simp only [Act.put, List.setIfInBounds_toArray, List.set_cons_zero, List.set_cons_succ]
                    refine wpAnyH_take (i := 9) (oi := ?oiy3_9_10) (v := ?vy3_9_10) ?hiy3_9_10 (by kernel_rfl) (by kernel_rfl) (by kernel_rfl) ?hQy3_9_10 (Or.inl ⟨?hwy3_9_10, ?hyy3_9_10⟩) (by assumption) ?_
                    case hiy3_9_10 => simp only [List.getElem?_toArray, List.getElem?_cons_succ, List.getElem?_cons_zero]; rfl
                    case hQy3_9_10 => exact fun _ _ _ h => h
                    case hwy3_9_10 => rfl
                    case hyy3_9_10 => intro w hSw; (try dsimp only at hSw); (first | (go_simp; done) | (go_simp; with_reducible rfl))
                    try simp only [Act.put, List.setIfInBounds_toArray, List.set_cons_zero, List.set_cons_succ]
                    refine wpAnyH_take (i := 10) (oi := ?oiy3_10_11) (v := undef) ?hiy3_10_11 (by kernel_rfl) (by kernel_rfl) (by kernel_rfl) ?hQy3_10_11 (Or.inr ⟨?hwy3_10_11, rfl⟩) (by assumption) ?_
                    case hiy3_10_11 => simp only [List.getElem?_toArray, List.getElem?_cons_succ, List.getElem?_cons_zero]; rfl
                    case hQy3_10_11 => exact fun _ _ _ h => h
                    case hwy3_10_11 => rfl
                    try simp only [Act.put, List.setIfInBounds_toArray, List.set_cons_zero, List.set_cons_succ]
                    refine wpAnyH_take (i := 11) (oi := ?oiy3_11_12) (v := undef) ?hiy3_11_12 (by kernel_rfl) (by kernel_rfl) (by kernel_rfl) ?hQy3_11_12 (Or.inr ⟨?hwy3_11_12, rfl⟩) (by assumption) ?_
                    case hiy3_11_12 => simp only [List.getElem?_toArray, List.getElem?_cons_succ, List.getElem?_cons_zero]; rfl
                    case hQy3_11_12 => exact fun _ _ _ h => h
                    case hwy3_11_12 => rfl
                    try simp only [Act.put, List.setIfInBounds_toArray, List.set_cons_zero, List.set_cons_succ]
                    refine wpAnyH_take (i := 12) (oi := ?oiy3_12_13) (v := undef) ?hiy3_12_13 (by kernel_rfl) (by kernel_rfl) (by kernel_rfl) ?hQy3_12_13 (Or.inr ⟨?hwy3_12_13, rfl⟩) (by assumption) ?_
                    case hiy3_12_13 => simp only [List.getElem?_toArray, List.getElem?_cons_succ, List.getElem?_cons_zero]; rfl
                    case hQy3_12_13 => exact fun _ _ _ h => h
                    case hwy3_12_13 => rfl
                    try simp only [Act.put, List.setIfInBounds_toArray, List.set_cons_zero, List.set_cons_succ]
                    refine wpAnyH_take (i := 13) (oi := ?oiy3_13_14) (v := undef) ?hiy3_13_14 (by kernel_rfl) (by kernel_rfl) (by kernel_rfl) ?hQy3_13_14 (Or.inr ⟨?hwy3_13_14, rfl⟩) (by assumption) ?_
                    case hiy3_13_14 => simp only [List.getElem?_toArray, List.getElem?_cons_succ, List.getElem?_cons_zero]; rfl
                    case hQy3_13_14 => exact fun _ _ _ h => h
                    case hwy3_13_14 => rfl
                    try simp only [Act.put, List.setIfInBounds_toArray, List.set_cons_zero, List.set_cons_succ]
                    refine wpAnyH_take (i := 14) (oi := ?oiy3_14_15) (v := undef) ?hiy3_14_15 (by kernel_rfl) (by kernel_rfl) (by kernel_rfl) ?hQy3_14_15 (Or.inr ⟨?hwy3_14_15, rfl⟩) (by assumption) ?_
                    case hiy3_14_15 => simp only [List.getElem?_toArray, List.getElem?_cons_succ, List.getElem?_cons_zero]; rfl
                    case hQy3_14_15 => exact fun _ _ _ h => h
                    case hwy3_14_15 => rfl
                    try simp only [Act.put, List.setIfInBounds_toArray, List.set_cons_zero, List.set_cons_succ]
                    refine wpAnyH_take (i := 15) (oi := ?oiy3_15_16) (v := undef) ?hiy3_15_16 (by kernel_rfl) (by kernel_rfl) (by kernel_rfl) ?hQy3_15_16 (Or.inr ⟨?hwy3_15_16, rfl⟩) (by assumption) ?_
                    case hiy3_15_16 => simp only [List.getElem?_toArray, List.getElem?_cons_succ, List.getElem?_cons_zero]; rfl
                    case hQy3_15_16 => exact fun _ _ _ h => h
                    case hwy3_15_16 => rfl
                    try simp only [Act.put, List.setIfInBounds_toArray, List.set_cons_zero, List.set_cons_succ]
                    refine wpAnyH_take (i := 16) (oi := ?oiy3_16_17) (v := undef) ?hiy3_16_17 (by kernel_rfl) (by kernel_rfl) (by kernel_rfl) ?hQy3_16_17 (Or.inr ⟨?hwy3_16_17, rfl⟩) (by assumption) ?_
                    case hiy3_16_17 => simp only [List.getElem?_toArray, List.getElem?_cons_succ, List.getElem?_cons_zero]; rfl
                    case hQy3_16_17 => exact fun _ _ _ h => h
                    case hwy3_16_17 => rfl
                    try simp only [Act.put, List.setIfInBounds_toArray, List.set_cons_zero, List.set_cons_succ]
                    refine wpAnyH_take (i := 17) (oi := ?oiy3_17_18) (v := undef) ?hiy3_17_18 (by kernel_rfl) (by kernel_rfl) (by kernel_rfl) ?hQy3_17_18 (Or.inr ⟨?hwy3_17_18, rfl⟩) (by assumption) ?_
                    case hiy3_17_18 => simp only [List.getElem?_toArray, List.getElem?_cons_succ, List.getElem?_cons_zero]; rfl
                    case hQy3_17_18 => exact fun _ _ _ h => h
                    case hwy3_17_18 => rfl
                    try simp only [Act.put, List.setIfInBounds_toArray, List.set_cons_zero, List.set_cons_succ]
                    refine wpAnyH_take (i := 18) (oi := ?oiy3_18_19) (v := ?vy3_18_19) ?hiy3_18_19 (by kernel_rfl) (by kernel_rfl) (by kernel_rfl) ?hQy3_18_19 (Or.inl ⟨?hwy3_18_19, ?hyy3_18_19⟩) (by assumption) ?_
                    case hiy3_18_19 => simp only [List.getElem?_toArray, List.getElem?_cons_succ, List.getElem?_cons_zero]; rfl
                    case hQy3_18_19 => exact fun _ _ _ h => h
                    case hwy3_18_19 => rfl
                    case hyy3_18_19 => intro w hSw; (try dsimp only at hSw); (first | (go_simp; done) | (go_simp; with_reducible rfl))
                    try simp only [Act.put, List.setIfInBounds_toArray, List.set_cons_zero, List.set_cons_succ]
                    refine wpAnyH_ready (rs := [19]) (by kernel_rfl) (by simp) ?_
                    refine AllReadyH.cons (o := ?oy3_19_20) ?hiy3_19_20 (fun K hK => ?gy3_19_20) AllReadyH.nil
                    case hiy3_19_20 => simp only [List.getElem?_toArray, List.getElem?_cons_succ, List.getElem?_cons_zero]; rfl
                    case gy3_19_20 =>
                      obtain ⟨c_p0, f_p0, c_p1, f_p1, c_p2, f_p2, l_p⟩ := Vn.v3 o_p
                      obtain ⟨c_r0, f_r0, c_r1, f_r1, c_r2, f_r2, l_r⟩ := Vn.v3 o_r
                      obtain ⟨c_o0, f_o0, c_o1, f_o1, c_o2, f_o2, l_o⟩ := Vn.v3 o_o
                      go_simp
                      clear c_p0 f_p0 c_p1 f_p1 c_p2 f_p2 l_p c_r0 f_r0 c_r1 f_r1 c_r2 f_r2 l_r c_o0 f_o0 c_o1 f_o1 c_o2 f_o2 l_o
                      obtain ⟨w12, hw12⟩ : ∃ y, y = (((w11.setCell ⟨(w.heap.size + 1), 0, none⟩ (.int .i64 b.Seed)).setCell ⟨(w.heap.size + 1), 1, none⟩ (.int .i64 b.Next)).setCell ⟨(w.heap.size + 1), 2, none⟩ (.slice A11 (k) c11)) := ⟨_, rfl⟩
                      obtain ⟨o_new, tw12⟩ := var_some [.int .i64 b.Seed, .int .i64 b.Next, .slice A11 (k) c11] 0 _ _ o_r (by simp)
                      rw [show setAll w11 ((w.heap.size + 1)) 0 [.int .i64 b.Seed, .int .i64 b.Next, .slice A11 (k) c11] = w12 from hw12.symm] at o_new tw12
                      replace o_r : Owns w12 _ (varD 26 3 [.int .i64 b.Seed, .int .i64 b.Next, .slice A11 (k) c11]) _ _ := o_new
                      clear o_new
                      replace o_p := owns_turned o_p tw12 (fun b hb hb2 => by simp at hb hb2; omega)
                      replace o_o := owns_turned o_o tw12 (fun b hb hb2 => by simp at hb hb2; omega)
                      replace o_z := owns_turned o_z tw12 (fun b hb hb2 => by have h1 := i_z b hb; simp at hb2; omega)
                      replace HB := below_turned HB tw12 (fun b hb => by simp at hb; omega)
                      have zw12 := tw12.2.2.2.1
                      rw [← hw12]
                      clear hw12
                      refine hK.out _ _ ?_ (fun hHeld => ?_)
                      · exact ⟨var_load o_p (by simp) 0 _ rfl, var_load o_p (by simp) 1 _ rfl, var_load o_p (by simp) 2 _ rfl, var_load o_o (by simp) 0 _ rfl, var_load o_o (by simp) 1 _ rfl, var_load o_o (by simp) 2 _ rfl, (EC.out _ HB).1, (EC.out _ HB).2⟩
                      clear hK K
                      try simp only [Act.put, List.setIfInBounds_toArray, List.set_cons_zero, List.set_cons_succ]
                      refine wpAnyH_take (i := 20) (oi := ?oiy3_20_21) (v := ?vy3_20_21) ?hiy3_20_21 (by kernel_rfl) (by kernel_rfl) (by kernel_rfl) ?hQy3_20_21 (Or.inl ⟨?hwy3_20_21, ?hyy3_20_21⟩) (by assumption) ?_
                      case hiy3_20_21 => simp only [List.getElem?_toArray, List.getElem?_cons_succ, List.getElem?_cons_zero]; rfl
                      case hQy3_20_21 => exact fun _ _ _ h => h
                      case hwy3_20_21 => rfl
                      case hyy3_20_21 => intro w hSw; (try dsimp only at hSw); (first | (go_simp; done) | (go_simp; with_reducible rfl))
                      try simp only [Act.put, List.setIfInBounds_toArray, List.set_cons_zero, List.set_cons_succ]
                      refine wpAnyH_done (by kernel_rfl) ?_ _
                      go_wp2
                      have y0 : w12.cell? ⟨(w.heap.size + 1), 0, none⟩ = some (.int .i64 b.Seed) := var_load o_r (by simp) 0 _ rfl
                      have y1 : w12.cell? ⟨(w.heap.size + 1), 1, none⟩ = some (.int .i64 b.Next) := var_load o_r (by simp) 1 _ rfl
                      have y2 : w12.cell? ⟨(w.heap.size + 1), 2, none⟩ = some (.slice A11 (k) c11) := var_load o_r (by simp) 2 _ rfl
                      refine bodyPost_ret (v := .tuple #[.agg #[.int .i64 b.Seed, .int .i64 b.Next, .slice A11 (k) c11], .bool false]) (by simp [results, Try.results29, go_sem, y0, y1, y2]) rfl ?_
                      exact made_tk (x := ⟨b.Seed, b.Next, xs.take k ++ xs.drop (k + 1)⟩) (by rfl) rfl rfl (by have := HL.out; simp; omega) o_z (Ra.block_nodup _) HB
        · have hkc2 : ¬ c = k + 1 := by omega
          have hkc3 : k + 1 < c := by omega
          by_cases ea : y.Account = a
          · have ea2 : (y.Account == a) = true := by simpa using ea
            by_cases eb : now ≤ y.Until
            · have eb2 : decide (now ≤ y.Until) = true := by simpa using eb
              obtain rfl : r = true := by rw [HRB.out, decide_eq_true ea, eb2]; rfl
              clear ea eb
              go_wp2_with fail
              rw [← hw5]
              clear hw5 sw5
              clear c_p0 f_p0 c_p1 f_p1 c_p2 f_p2 l_p c_r0 f_r0 c_r1 f_r1 c_r2 f_r2 l_r
              have HN := Below.refl w5.heap.size w5
              obtain ⟨w6, hw6⟩ : ∃ y, y = w5.drew := ⟨_, rfl⟩
              have bw6 : Below w5.heap.size w5 w6 := hw6 ▸ drewN_below w5 1 _
              replace o_p := owns_below o_p bw6
              replace o_r := owns_below o_r bw6
              replace o_o := owns_below o_o bw6
              replace HB := HB.trans (bw6.mono HB.size)
              have zw6 := bw6.size
              replace HN := HN.trans (bw6.mono HN.size)
              refine wp_region_held_drew (S := (fun wx => wx.cell? ⟨w.heap.size, 0, none⟩ = some (.int .i64 b.Seed) ∧ wx.cell? ⟨w.heap.size, 1, none⟩ = some (.int .i64 b.Next) ∧ wx.cell? ⟨w.heap.size, 2, none⟩ = some (.slice (some ⟨gb, off, none⟩) n c))) (by kernel_rfl) ?_ (fun hHeld => ?_)
              · rw [← hw6]; exact ⟨var_load o_p (by simp) 0 _ rfl, var_load o_p (by simp) 1 _ rfl, var_load o_p (by simp) 2 _ rfl⟩
              rw [← hw6] at hHeld ⊢
              clear hw6
              refine wpAnyH_take (i := 1) (oi := ?oix4_1_1) (v := ?vx4_1_1) ?hix4_1_1 (by kernel_rfl) (by kernel_rfl) (by kernel_rfl) ?hQx4_1_1 (Or.inl ⟨?hwx4_1_1, ?hyx4_1_1⟩) (by assumption) ?_
              case hix4_1_1 => simp only [List.getElem?_toArray, List.getElem?_cons_succ, List.getElem?_cons_zero]; rfl
              case hQx4_1_1 => exact fun _ _ _ h => h
              case hwx4_1_1 => rfl
              case hyx4_1_1 => intro w hSw; have hw1 := HW1.out; have hw2 := HW2.out; (try dsimp only at hSw); (first | (go_simp; done) | (go_simp; with_reducible rfl))
              try simp only [Act.put, List.setIfInBounds_toArray, List.set_cons_zero, List.set_cons_succ]
              refine wpAnyH_take (i := 2) (oi := ?oix4_2_2) (v := ?vx4_2_2) ?hix4_2_2 (by kernel_rfl) (by kernel_rfl) (by kernel_rfl) ?hQx4_2_2 (Or.inl ⟨?hwx4_2_2, ?hyx4_2_2⟩) (by assumption) ?_
              case hix4_2_2 => simp only [List.getElem?_toArray, List.getElem?_cons_succ, List.getElem?_cons_zero]; rfl
              case hQx4_2_2 => exact fun _ _ _ h => h
              case hwx4_2_2 => rfl
              case hyx4_2_2 => intro w hSw; have hw1 := HW1.out; have hw2 := HW2.out; (try dsimp only at hSw); (first | (go_simp; done) | (go_simp; with_reducible rfl))
              try simp only [Act.put, List.setIfInBounds_toArray, List.set_cons_zero, List.set_cons_succ]
              refine wpAnyH_take (i := 3) (oi := ?oix4_3_3) (v := ?vx4_3_3) ?hix4_3_3 (by kernel_rfl) (by kernel_rfl) (by kernel_rfl) ?hQx4_3_3 (Or.inl ⟨?hwx4_3_3, ?hyx4_3_3⟩) (by assumption) ?_
              case hix4_3_3 => simp only [List.getElem?_toArray, List.getElem?_cons_succ, List.getElem?_cons_zero]; rfl
              case hQx4_3_3 => exact fun _ _ _ h => h
              case hwx4_3_3 => rfl
              case hyx4_3_3 => intro w hSw; have hw1 := HW1.out; have hw2 := HW2.out; (try dsimp only at hSw); (first | (go_simp; done) | (go_simp; with_reducible rfl))
              try simp only [Act.put, List.setIfInBounds_toArray, List.set_cons_zero, List.set_cons_succ]
              refine wpAnyH_take (i := 4) (oi := ?oix4_4_4) (v := ?vx4_4_4) ?hix4_4_4 (by kernel_rfl) (by kernel_rfl) (by kernel_rfl) ?hQx4_4_4 (Or.inl ⟨?hwx4_4_4, ?hyx4_4_4⟩) (by assumption) ?_
              case hix4_4_4 => simp only [List.getElem?_toArray, List.getElem?_cons_succ, List.getElem?_cons_zero]; rfl
              case hQx4_4_4 => exact fun _ _ _ h => h
              case hwx4_4_4 => rfl
              case hyx4_4_4 => intro w hSw; have hw1 := HW1.out; have hw2 := HW2.out; (try dsimp only at hSw); (first | (go_simp; done) | (go_simp; with_reducible rfl))
              try simp only [Act.put, List.setIfInBounds_toArray, List.set_cons_zero, List.set_cons_succ]
              refine wpAnyH_take (i := 6) (oi := ?oix4_6_5) (v := ?vx4_6_5) ?hix4_6_5 (by kernel_rfl) (by kernel_rfl) (by kernel_rfl) ?hQx4_6_5 (Or.inl ⟨?hwx4_6_5, ?hyx4_6_5⟩) (by assumption) ?_
              case hix4_6_5 => simp only [List.getElem?_toArray, List.getElem?_cons_succ, List.getElem?_cons_zero]; rfl
              case hQx4_6_5 => exact fun _ _ _ h => h
              case hwx4_6_5 => rfl
              case hyx4_6_5 => intro w hSw; have hw1 := HW1.out; have hw2 := HW2.out; (try dsimp only at hSw); (first | (go_simp; done) | (go_simp; with_reducible rfl))
              try simp only [Act.put, List.setIfInBounds_toArray, List.set_cons_zero, List.set_cons_succ]
              refine wpAnyH_take (i := 7) (oi := ?oix4_7_6) (v := ?vx4_7_6) ?hix4_7_6 (by kernel_rfl) (by kernel_rfl) (by kernel_rfl) ?hQx4_7_6 (Or.inl ⟨?hwx4_7_6, ?hyx4_7_6⟩) (by assumption) ?_
              case hix4_7_6 => simp only [List.getElem?_toArray, List.getElem?_cons_succ, List.getElem?_cons_zero]; rfl
              case hQx4_7_6 => exact fun _ _ _ h => h
              case hwx4_7_6 => rfl
              case hyx4_7_6 => intro w hSw; have hw1 := HW1.out; have hw2 := HW2.out; (try dsimp only at hSw); (first | (go_simp; done) | (go_simp; with_reducible rfl))
              try simp only [Act.put, List.setIfInBounds_toArray, List.set_cons_zero, List.set_cons_succ]
              refine wpAnyH_take (i := 8) (oi := ?oix4_8_7) (v := ?vx4_8_7) ?hix4_8_7 (by kernel_rfl) (by kernel_rfl) (by kernel_rfl) ?hQx4_8_7 (Or.inl ⟨?hwx4_8_7, ?hyx4_8_7⟩) (by assumption) ?_
              case hix4_8_7 => simp only [List.getElem?_toArray, List.getElem?_cons_succ, List.getElem?_cons_zero]; rfl
              case hQx4_8_7 => exact fun _ _ _ h => h
              case hwx4_8_7 => rfl
              case hyx4_8_7 => intro w hSw; have hw1 := HW1.out; have hw2 := HW2.out; (try dsimp only at hSw); (first | (go_simp; done) | (go_simp; with_reducible rfl))
              try simp only [Act.put, List.setIfInBounds_toArray, List.set_cons_zero, List.set_cons_succ]
              refine wpAnyH_take (i := 9) (oi := ?oix4_9_8) (v := ?vx4_9_8) ?hix4_9_8 (by kernel_rfl) (by kernel_rfl) (by kernel_rfl) ?hQx4_9_8 (Or.inl ⟨?hwx4_9_8, ?hyx4_9_8⟩) (by assumption) ?_
              case hix4_9_8 => simp only [List.getElem?_toArray, List.getElem?_cons_succ, List.getElem?_cons_zero]; rfl
              case hQx4_9_8 => exact fun _ _ _ h => h
              case hwx4_9_8 => rfl
              case hyx4_9_8 => intro w hSw; have hw1 := HW1.out; have hw2 := HW2.out; (try dsimp only at hSw); (first | (go_simp; done) | (go_simp; with_reducible rfl))
              try simp only [Act.put, List.setIfInBounds_toArray, List.set_cons_zero, List.set_cons_succ]
              refine wpAnyH_take (i := 10) (oi := ?oix4_10_9) (v := ?vx4_10_9) ?hix4_10_9 (by kernel_rfl) (by kernel_rfl) (by kernel_rfl) ?hQx4_10_9 (Or.inl ⟨?hwx4_10_9, ?hyx4_10_9⟩) (by assumption) ?_
              case hix4_10_9 => simp only [List.getElem?_toArray, List.getElem?_cons_succ, List.getElem?_cons_zero]; rfl
              case hQx4_10_9 => exact fun _ _ _ h => h
              case hwx4_10_9 => rfl
              case hyx4_10_9 => intro w hSw; have hw1 := HW1.out; have hw2 := HW2.out; (try dsimp only at hSw); (first | (go_simp; done) | (go_simp; with_reducible rfl))
              try simp only [Act.put, List.setIfInBounds_toArray, List.set_cons_zero, List.set_cons_succ]
              refine wpAnyH_ready (rs := [0]) (by kernel_rfl) (by simp) ?_
              refine AllReadyH.cons (o := ?ox4_0_10) ?hix4_0_10 (fun K hK => ?gx4_0_10) AllReadyH.nil
              case hix4_0_10 => simp only [List.getElem?_toArray, List.getElem?_cons_zero]; rfl
              case gx4_0_10 =>
                go_simp
                obtain ⟨w7, hw7⟩ : ∃ y, y = w6.alloc (.cells #[] 30) := ⟨_, rfl⟩
                have o_R0 : (w6.alloc (.cells #[] 30)).ownsRow w5.heap.size 30 3 (.slice (some ⟨w6.heap.size, 0, none⟩) 0 0) 0 (many []) := own_base (own_emp w6) HN.size
                rw [← hw7] at o_R0 ⊢
                have bw7 : Below w6.heap.size w6 w7 := hw7 ▸ (Below.refl _ _).alloc (Nat.le_refl _) _
                clear hw7
                replace HN := HN.trans (bw7.mono HN.size)
                replace o_p := owns_below o_p bw7
                replace o_r := owns_below o_r bw7
                replace o_o := owns_below o_o bw7
                replace HB := HB.trans (bw7.mono HB.size)
                have zw7 := bw7.size
                refine hK.out _ _ ?_ (fun hHeld => ?_)
                · exact ⟨var_load o_p (by simp) 0 _ rfl, var_load o_p (by simp) 1 _ rfl, var_load o_p (by simp) 2 _ rfl⟩
                clear hK K
                try simp only [Act.put, List.setIfInBounds_toArray, List.set_cons_zero, List.set_cons_succ]
                refine wpAnyH_ready (rs := [5]) (by kernel_rfl) (by simp) ?_
                refine AllReadyH.cons (o := ?ox4_5_11) ?hix4_5_11 (fun K hK => ?gx4_5_11) AllReadyH.nil
                case hix4_5_11 => simp only [List.getElem?_toArray, List.getElem?_cons_succ, List.getElem?_cons_zero]; rfl
                case gx4_5_11 =>
                  refine stepC w7 rfl (.tmp 25) (.tmp 29) rfl (w5.heap.size) (.slice (some ⟨w6.heap.size, 0, none⟩) 0 0) (0) _ (by simp [Act.eval]) o_R0 _ (some ⟨gb, off, none⟩) (k) (c) (xs.take k) (by simp [Act.eval]) (rd_take3 (HR.out _ HB) (by omega)) (by omega) HN.size ?_
                  intro vw8 w8 o_R5 gw8 kw8
                  have Tw8 := turned_grown gw8
                  have Qw8 : ∀ b, b ∈ Option.toList (Value.ownBlock (.slice (some ⟨w6.heap.size, 0, none⟩) 0 0)) → w5.heap.size ≤ b := fun b hb => (o_R0.lt b (by simpa using hb)).1
                  replace o_p := owns_turned o_p Tw8 (fun b hb hb2 => by have h1 := Qw8 b hb2; simp at hb; omega)
                  replace o_r := owns_turned o_r Tw8 (fun b hb hb2 => by have h1 := Qw8 b hb2; simp at hb; omega)
                  replace o_o := owns_turned o_o Tw8 (fun b hb hb2 => by have h1 := Qw8 b hb2; simp at hb; omega)
                  replace HN := HN.grown gw8 HN.size (fun j hj => (o_R0.lt j hj).1)
                  replace HB := below_turned HB Tw8 (fun b hb => by have h1 := Qw8 b hb; omega)
                  have zw8 := gw8.size
                  rw [Nat.zero_add, List.nil_append] at o_R5
                  obtain ⟨A5, c5, rfl⟩ := own_nil_form o_R5
                  clear o_R0 kw8 gw8
                  refine hK.out _ _ ?_ (fun hHeld => ?_)
                  · exact ⟨var_load o_p (by simp) 0 _ rfl, var_load o_p (by simp) 1 _ rfl, var_load o_p (by simp) 2 _ rfl⟩
                  clear hK K
                  try simp only [Act.put, List.setIfInBounds_toArray, List.set_cons_zero, List.set_cons_succ]
                  refine wpAnyH_ready (rs := [11]) (by kernel_rfl) (by simp) ?_
                  refine AllReadyH.cons (o := ?ox4_11_12) ?hix4_11_12 (fun K hK => ?gx4_11_12) AllReadyH.nil
                  case hix4_11_12 => simp only [List.getElem?_toArray, List.getElem?_cons_succ, List.getElem?_cons_zero]; rfl
                  case gx4_11_12 =>
                    refine stepC w8 rfl (.tmp 30) (.tmp 35) rfl (w5.heap.size) (.slice A5 (k) c5) (k) _ (by simp [Act.eval]) o_R5 _ (some ⟨gb, off + (k + 1) * 3, none⟩) (n - (k + 1)) (c - (k + 1)) (xs.drop (k + 1)) (by simp [Act.eval]) (rd_drop3 (HR.out _ HB) (by omega)) (by omega) HN.size ?_
                    intro vw9 w9 o_R11 gw9 kw9
                    have Tw9 := turned_grown gw9
                    have Qw9 : ∀ b, b ∈ Option.toList (Value.ownBlock (.slice A5 (k) c5)) → w5.heap.size ≤ b := fun b hb => (o_R5.lt b (by simpa using hb)).1
                    replace o_p := owns_turned o_p Tw9 (fun b hb hb2 => by have h1 := Qw9 b hb2; simp at hb; omega)
                    replace o_r := owns_turned o_r Tw9 (fun b hb hb2 => by have h1 := Qw9 b hb2; simp at hb; omega)
                    replace o_o := owns_turned o_o Tw9 (fun b hb hb2 => by have h1 := Qw9 b hb2; simp at hb; omega)
                    replace HN := HN.grown gw9 HN.size (fun j hj => (o_R5.lt j hj).1)
                    replace HB := below_turned HB Tw9 (fun b hb => by have h1 := Qw9 b hb; omega)
                    have zw9 := gw9.size
                    obtain ⟨A11, c11, rfl⟩ := own_nil_form o_R11
                    clear o_R5 kw9 gw9
                    refine hK.out _ _ ?_ (fun hHeld => ?_)
                    · exact ⟨var_load o_p (by simp) 0 _ rfl, var_load o_p (by simp) 1 _ rfl, var_load o_p (by simp) 2 _ rfl⟩
                    clear hK K
                    try simp only [Act.put, List.setIfInBounds_toArray, List.set_cons_zero, List.set_cons_succ]
                    refine wpAnyH_take (i := 12) (oi := ?oix4_12_13) (v := ?vx4_12_13) ?hix4_12_13 (by kernel_rfl) (by kernel_rfl) (by kernel_rfl) ?hQx4_12_13 (Or.inl ⟨?hwx4_12_13, ?hyx4_12_13⟩) (by assumption) ?_
                    case hix4_12_13 => simp only [List.getElem?_toArray, List.getElem?_cons_succ, List.getElem?_cons_zero]; rfl
                    case hQx4_12_13 => exact fun _ _ _ h => h
                    case hwx4_12_13 => rfl
                    case hyx4_12_13 => intro w hSw; have hw1 := HW1.out; have hw2 := HW2.out; (try dsimp only at hSw); (first | (go_simp; done) | (go_simp; with_reducible rfl))
                    try simp only [Act.put, List.setIfInBounds_toArray, List.set_cons_zero, List.set_cons_succ]
                    refine wpAnyH_ready (rs := [13]) (by kernel_rfl) (by simp) ?_
                    refine AllReadyH.cons (o := ?ox4_13_14) ?hix4_13_14 (fun K hK => ?gx4_13_14) AllReadyH.nil
                    case hix4_13_14 => simp only [List.getElem?_toArray, List.getElem?_cons_succ, List.getElem?_cons_zero]; rfl
                    case gx4_13_14 =>
                      obtain ⟨c_p0, f_p0, c_p1, f_p1, c_p2, f_p2, l_p⟩ := Vn.v3 o_p
                      obtain ⟨c_r0, f_r0, c_r1, f_r1, c_r2, f_r2, l_r⟩ := Vn.v3 o_r
                      obtain ⟨c_o0, f_o0, c_o1, f_o1, c_o2, f_o2, l_o⟩ := Vn.v3 o_o
                      go_simp
                      clear c_p0 f_p0 c_p1 f_p1 c_p2 f_p2 l_p c_r0 f_r0 c_r1 f_r1 c_r2 f_r2 l_r c_o0 f_o0 c_o1 f_o1 c_o2 f_o2 l_o
                      obtain ⟨w10, hw10⟩ : ∃ y, y = (w9.setCell ⟨w4.heap.size, 2, none⟩ (.slice A11 (k + (n - (k + 1))) c11)) := ⟨_, rfl⟩
                      obtain ⟨o_new, tw10⟩ := var_some [.slice A11 (k + (n - (k + 1))) c11] 2 _ _ o_o (by simp)
                      rw [show setAll w9 (w4.heap.size) 2 [.slice A11 (k + (n - (k + 1))) c11] = w10 from hw10.symm] at o_new tw10
                      replace o_o : Owns w10 _ (varD 26 3 [.int .i64 b.Seed, .int .i64 b.Next, .slice A11 (k + (n - (k + 1))) c11]) _ _ := o_new
                      clear o_new
                      replace o_p := owns_turned o_p tw10 (fun b hb hb2 => by simp at hb hb2; omega)
                      replace o_r := owns_turned o_r tw10 (fun b hb hb2 => by simp at hb hb2; omega)
                      replace HB := below_turned HB tw10 (fun b hb => by simp at hb; omega)
                      have zw10 := tw10.2.2.2.1
                      rw [← hw10]
                      clear hw10
                      replace o_R11 := many_turned o_R11 tw10 (fun b hb hb2 => by have h1 := (o_R11.lt b (by simpa using hb)).1; simp at hb2; omega)
                      refine hK.out _ _ ?_ (fun hHeld => ?_)
                      · exact ⟨var_load o_p (by simp) 0 _ rfl, var_load o_p (by simp) 1 _ rfl, var_load o_p (by simp) 2 _ rfl⟩
                      clear hK K
                      try simp only [Act.put, List.setIfInBounds_toArray, List.set_cons_zero, List.set_cons_succ]
                      refine wpAnyH_done (by kernel_rfl) ?_ _
                      have i_z0 := Fx.made_in (owns_many o_R11)
                      have o_z := owns_many (own_base o_R11 (show w.heap.size ≤ w5.heap.size by omega))
                      have i_z := i_z0
                      clear i_z0 o_R11
                      obtain ⟨c_p0, f_p0, c_p1, f_p1, c_p2, f_p2, l_p⟩ := Vn.v3 o_p
                      obtain ⟨c_r0, f_r0, c_r1, f_r1, c_r2, f_r2, l_r⟩ := Vn.v3 o_r
                      obtain ⟨c_o0, f_o0, c_o1, f_o1, c_o2, f_o2, l_o⟩ := Vn.v3 o_o
                      go_wp2_with fail
                      clear c_p0 f_p0 c_p1 f_p1 c_p2 f_p2 l_p c_r0 f_r0 c_r1 f_r1 c_r2 f_r2 l_r c_o0 f_o0 c_o1 f_o1 c_o2 f_o2 l_o
                      obtain ⟨w11, hw11⟩ : ∃ y, y = w10.drew := ⟨_, rfl⟩
                      have bw11 : Below w10.heap.size w10 w11 := hw11 ▸ drewN_below w10 1 _
                      replace o_p := owns_below o_p bw11
                      replace o_r := owns_below o_r bw11
                      replace o_o := owns_below o_o bw11
                      replace o_z := owns_below o_z bw11
                      replace HB := HB.trans (bw11.mono HB.size)
                      have zw11 := bw11.size
                      refine wp_region_held_drew (S := (fun (wx : World) => wx.cell? ⟨w.heap.size, 0, none⟩ = some (.int .i64 b.Seed) ∧ wx.cell? ⟨w.heap.size, 1, none⟩ = some (.int .i64 b.Next) ∧ wx.cell? ⟨w.heap.size, 2, none⟩ = some (.slice (some ⟨gb, off, none⟩) n c) ∧ wx.cell? ⟨w4.heap.size, 0, none⟩ = some (.int .i64 b.Seed) ∧ wx.cell? ⟨w4.heap.size, 1, none⟩ = some (.int .i64 b.Next) ∧ wx.cell? ⟨w4.heap.size, 2, none⟩ = some (.slice A11 (k + (n - (k + 1))) c11) ∧ wx.cell? ⟨gb, off + k * 3 + 1, none⟩ = some (.int .i64 y.Account) ∧ wx.cell? ⟨gb, off + k * 3 + 2, none⟩ = some (.int .i64 y.Until))) (by kernel_rfl) ?_ (fun hHeld => ?_)
                      · rw [← hw11]; exact ⟨var_load o_p (by simp) 0 _ rfl, var_load o_p (by simp) 1 _ rfl, var_load o_p (by simp) 2 _ rfl, var_load o_o (by simp) 0 _ rfl, var_load o_o (by simp) 1 _ rfl, var_load o_o (by simp) 2 _ rfl, (EC.out _ HB).1, (EC.out _ HB).2⟩
                      rw [← hw11] at hHeld ⊢
                      clear hw11
                      refine wpAnyH_take (i := 0) (oi := ?oiy4_0_1) (v := ?vy4_0_1) ?hiy4_0_1 (by kernel_rfl) (by kernel_rfl) (by kernel_rfl) ?hQy4_0_1 (Or.inl ⟨?hwy4_0_1, ?hyy4_0_1⟩) (by assumption) ?_
                      case hiy4_0_1 => simp only [List.getElem?_toArray, List.getElem?_cons_zero]; rfl
                      case hQy4_0_1 => exact fun _ _ _ h => h
                      case hwy4_0_1 => rfl
                      case hyy4_0_1 => intro w hSw; (try dsimp only at hSw); (first | (go_simp; done) | (go_simp; with_reducible rfl))
                      try simp only [Act.put, List.setIfInBounds_toArray, List.set_cons_zero, List.set_cons_succ]
                      refine wpAnyH_take (i := 1) (oi := ?oiy4_1_2) (v := ?vy4_1_2) ?hiy4_1_2 (by kernel_rfl) (by kernel_rfl) (by kernel_rfl) ?hQy4_1_2 (Or.inl ⟨?hwy4_1_2, ?hyy4_1_2⟩) (by assumption) ?_
                      case hiy4_1_2 => simp only [List.getElem?_toArray, List.getElem?_cons_succ, List.getElem?_cons_zero]; rfl
                      case hQy4_1_2 => exact fun _ _ _ h => h
                      case hwy4_1_2 => rfl
                      case hyy4_1_2 => intro w hSw; (try dsimp only at hSw); (first | (go_simp; done) | (go_simp; with_reducible rfl))
                      try simp only [Act.put, List.setIfInBounds_toArray, List.set_cons_zero, List.set_cons_succ]
                      refine wpAnyH_take (i := 2) (oi := ?oiy4_2_3) (v := ?vy4_2_3) ?hiy4_2_3 (by kernel_rfl) (by kernel_rfl) (by kernel_rfl) ?hQy4_2_3 (Or.inl ⟨?hwy4_2_3, ?hyy4_2_3⟩) (by assumption) ?_
                      case hiy4_2_3 => simp only [List.getElem?_toArray, List.getElem?_cons_succ, List.getElem?_cons_zero]; rfl
                      case hQy4_2_3 => exact fun _ _ _ h => h
                      case hwy4_2_3 => rfl
                      case hyy4_2_3 => intro w hSw; (try dsimp only at hSw); (first | (go_simp; done) | (go_simp; with_reducible rfl))
                      try simp only [Act.put, List.setIfInBounds_toArray, List.set_cons_zero, List.set_cons_succ]
                      refine wpAnyH_take (i := 3) (oi := ?oiy4_3_4) (v := ?vy4_3_4) ?hiy4_3_4 (by kernel_rfl) (by kernel_rfl) (by kernel_rfl) ?hQy4_3_4 (Or.inl ⟨?hwy4_3_4, ?hyy4_3_4⟩) (by assumption) ?_
                      case hiy4_3_4 => simp only [List.getElem?_toArray, List.getElem?_cons_succ, List.getElem?_cons_zero]; rfl
                      case hQy4_3_4 => exact fun _ _ _ h => h
                      case hwy4_3_4 => rfl
                      case hyy4_3_4 => intro w hSw; (try dsimp only at hSw); (first | (go_simp; done) | (go_simp; with_reducible rfl))
                      try simp only [Act.put, List.setIfInBounds_toArray, List.set_cons_zero, List.set_cons_succ]
                      refine wpAnyH_take (i := 4) (oi := ?oiy4_4_5) (v := ?vy4_4_5) ?hiy4_4_5 (by kernel_rfl) (by kernel_rfl) (by kernel_rfl) ?hQy4_4_5 (Or.inl ⟨?hwy4_4_5, ?hyy4_4_5⟩) (by assumption) ?_
                      case hiy4_4_5 => simp only [List.getElem?_toArray, List.getElem?_cons_succ, List.getElem?_cons_zero]; rfl
                      case hQy4_4_5 => exact fun _ _ _ h => h
                      case hwy4_4_5 => rfl
                      case hyy4_4_5 => intro w hSw; (try dsimp only at hSw); (first | (go_simp; done) | (go_simp; with_reducible rfl))
                      try simp only [Act.put, List.setIfInBounds_toArray, List.set_cons_zero, List.set_cons_succ]
                      refine wpAnyH_take (i := 5) (oi := ?oiy4_5_6) (v := ?vy4_5_6) ?hiy4_5_6 (by kernel_rfl) (by kernel_rfl) (by kernel_rfl) ?hQy4_5_6 (Or.inl ⟨?hwy4_5_6, ?hyy4_5_6⟩) (by assumption) ?_
                      case hiy4_5_6 => simp only [List.getElem?_toArray, List.getElem?_cons_succ, List.getElem?_cons_zero]; rfl
                      case hQy4_5_6 => exact fun _ _ _ h => h
                      case hwy4_5_6 => rfl
                      case hyy4_5_6 => intro w hSw; (try dsimp only at hSw); (first | (go_simp; done) | (go_simp; with_reducible rfl))
                      try simp only [Act.put, List.setIfInBounds_toArray, List.set_cons_zero, List.set_cons_succ]
                      refine wpAnyH_take (i := 6) (oi := ?oiy4_6_7) (v := ?vy4_6_7) ?hiy4_6_7 (by kernel_rfl) (by kernel_rfl) (by kernel_rfl) ?hQy4_6_7 (Or.inl ⟨?hwy4_6_7, ?hyy4_6_7⟩) (by assumption) ?_
                      case hiy4_6_7 => simp only [List.getElem?_toArray, List.getElem?_cons_succ, List.getElem?_cons_zero]; rfl
                      case hQy4_6_7 => exact fun _ _ _ h => h
                      case hwy4_6_7 => rfl
                      case hyy4_6_7 => intro w hSw; (try dsimp only at hSw); (first | (go_simp; done) | (go_simp; with_reducible rfl))
                      try simp only [Act.put, List.setIfInBounds_toArray, List.set_cons_zero, List.set_cons_succ]
                      refine wpAnyH_take (i := 7) (oi := ?oiy4_7_8) (v := ?vy4_7_8) ?hiy4_7_8 (by kernel_rfl) (by kernel_rfl) (by kernel_rfl) ?hQy4_7_8 (Or.inl ⟨?hwy4_7_8, ?hyy4_7_8⟩) (by assumption) ?_
                      case hiy4_7_8 => simp only [List.getElem?_toArray, List.getElem?_cons_succ, List.getElem?_cons_zero]; rfl
                      case hQy4_7_8 => exact fun _ _ _ h => h
                      case hwy4_7_8 => rfl
                      case hyy4_7_8 => intro w hSw; (try dsimp only at hSw); (first | (go_simp; done) | (go_simp; with_reducible rfl))
                      try simp only [Act.put, List.setIfInBounds_toArray, List.set_cons_zero, List.set_cons_succ]
                      refine wpAnyH_take (i := 8) (oi := ?oiy4_8_9) (v := ?vy4_8_9) ?hiy4_8_9 (by kernel_rfl) (by kernel_rfl) (by kernel_rfl) ?hQy4_8_9 (Or.inl ⟨?hwy4_8_9, ?hyy4_8_9⟩) (by assumption) ?_
                      case hiy4_8_9 => simp only [List.getElem?_toArray, List.getElem?_cons_succ, List.getElem?_cons_zero]; rfl
                      case hQy4_8_9 => exact fun _ _ _ h => h
                      case hwy4_8_9 => rfl
                      case hyy4_8_9 => intro w hSw; (try dsimp only at hSw); (first | (go_simp; done) | (go_simp; with_reducible rfl))
                      try simp only [Act.put, List.setIfInBounds_toArray, List.set_cons_zero, List.set_cons_succ]
                      refine wpAnyH_take (i := 9) (oi := ?oiy4_9_10) (v := ?vy4_9_10) ?hiy4_9_10 (by kernel_rfl) (by kernel_rfl) (by kernel_rfl) ?hQy4_9_10 (Or.inl ⟨?hwy4_9_10, ?hyy4_9_10⟩) (by assumption) ?_
                      case hiy4_9_10 => simp only [List.getElem?_toArray, List.getElem?_cons_succ, List.getElem?_cons_zero]; rfl
                      case hQy4_9_10 => exact fun _ _ _ h => h
                      case hwy4_9_10 => rfl
                      case hyy4_9_10 => intro w hSw; (try dsimp only at hSw); (first | (go_simp; done) | (go_simp; with_reducible rfl))
                      try simp only [Act.put, List.setIfInBounds_toArray, List.set_cons_zero, List.set_cons_succ]
                      refine wpAnyH_take (i := 10) (oi := ?oiy4_10_11) (v := ?vy4_10_11) ?hiy4_10_11 (by kernel_rfl) (by kernel_rfl) (by kernel_rfl) ?hQy4_10_11 (Or.inl ⟨?hwy4_10_11, ?hyy4_10_11⟩) (by assumption) ?_
                      case hiy4_10_11 => simp only [List.getElem?_toArray, List.getElem?_cons_succ, List.getElem?_cons_zero]; rfl
                      case hQy4_10_11 => exact fun _ _ _ h => h
                      case hwy4_10_11 => rfl
                      case hyy4_10_11 => intro w hSw; (try dsimp only at hSw); (first | (go_simp; done) | (go_simp; with_reducible rfl))
                      try simp only [Act.put, List.setIfInBounds_toArray, List.set_cons_zero, List.set_cons_succ]
                      refine wpAnyH_take (i := 11) (oi := ?oiy4_11_12) (v := ?vy4_11_12) ?hiy4_11_12 (by kernel_rfl) (by kernel_rfl) (by kernel_rfl) ?hQy4_11_12 (Or.inl ⟨?hwy4_11_12, ?hyy4_11_12⟩) (by assumption) ?_
                      case hiy4_11_12 => simp only [List.getElem?_toArray, List.getElem?_cons_succ, List.getElem?_cons_zero]; rfl
                      case hQy4_11_12 => exact fun _ _ _ h => h
                      case hwy4_11_12 => rfl
                      case hyy4_11_12 => intro w hSw; (try dsimp only at hSw); (first | (go_simp; done) | (go_simp; with_reducible rfl))
                      try simp only [Act.put, List.setIfInBounds_toArray, List.set_cons_zero, List.set_cons_succ]
                      refine wpAnyH_take (i := 12) (oi := ?oiy4_12_13) (v := ?vy4_12_13) ?hiy4_12_13 (by kernel_rfl) (by kernel_rfl) (by kernel_rfl) ?hQy4_12_13 (Or.inl ⟨?hwy4_12_13, ?hyy4_12_13⟩) (by assumption) ?_
                      case hiy4_12_13 => simp only [List.getElem?_toArray, List.getElem?_cons_succ, List.getElem?_cons_zero]; rfl
                      case hQy4_12_13 => exact fun _ _ _ h => h
                      case hwy4_12_13 => rfl
                      case hyy4_12_13 => intro w hSw; (try dsimp only at hSw); (first | (go_simp; done) | (go_simp; with_reducible rfl))
                      try simp only [Act.put, List.setIfInBounds_toArray, List.set_cons_zero, List.set_cons_succ]
                      refine wpAnyH_take (i := 13) (oi := ?oiy4_13_14) (v := ?vy4_13_14) ?hiy4_13_14 (by kernel_rfl) (by kernel_rfl) (by kernel_rfl) ?hQy4_13_14 (Or.inl ⟨?hwy4_13_14, ?hyy4_13_14⟩) (by assumption) ?_
                      case hiy4_13_14 => simp only [List.getElem?_toArray, List.getElem?_cons_succ, List.getElem?_cons_zero]; rfl
                      case hQy4_13_14 => exact fun _ _ _ h => h
                      case hwy4_13_14 => rfl
                      case hyy4_13_14 => intro w hSw; (try dsimp only at hSw); (first | (go_simp; done) | (go_simp; with_reducible rfl))
                      try simp only [Act.put, List.setIfInBounds_toArray, List.set_cons_zero, List.set_cons_succ]
                      refine wpAnyH_take (i := 14) (oi := ?oiy4_14_15) (v := ?vy4_14_15) ?hiy4_14_15 (by kernel_rfl) (by kernel_rfl) (by kernel_rfl) ?hQy4_14_15 (Or.inl ⟨?hwy4_14_15, ?hyy4_14_15⟩) (by assumption) ?_
                      case hiy4_14_15 => simp only [List.getElem?_toArray, List.getElem?_cons_succ, List.getElem?_cons_zero]; rfl
                      case hQy4_14_15 => exact fun _ _ _ h => h
                      case hwy4_14_15 => rfl
                      case hyy4_14_15 => intro w hSw; (try dsimp only at hSw); (first | (go_simp; done) | (go_simp; with_reducible rfl))
                      try simp only [Act.put, List.setIfInBounds_toArray, List.set_cons_zero, List.set_cons_succ]
                      refine wpAnyH_take (i := 15) (oi := ?oiy4_15_16) (v := ?vy4_15_16) ?hiy4_15_16 (by kernel_rfl) (by kernel_rfl) (by kernel_rfl) ?hQy4_15_16 (Or.inl ⟨?hwy4_15_16, ?hyy4_15_16⟩) (by assumption) ?_
                      case hiy4_15_16 => simp only [List.getElem?_toArray, List.getElem?_cons_succ, List.getElem?_cons_zero]; rfl
                      case hQy4_15_16 => exact fun _ _ _ h => h
                      case hwy4_15_16 => rfl
                      case hyy4_15_16 => intro w hSw; (try dsimp only at hSw); (first | (go_simp; done) | (go_simp; with_reducible rfl))
                      try simp only [Act.put, List.setIfInBounds_toArray, List.set_cons_zero, List.set_cons_succ]
                      refine wpAnyH_take (i := 16) (oi := ?oiy4_16_17) (v := ?vy4_16_17) ?hiy4_16_17 (by kernel_rfl) (by kernel_rfl) (by kernel_rfl) ?hQy4_16_17 (Or.inl ⟨?hwy4_16_17, ?hyy4_16_17⟩) (by assumption) ?_
                      case hiy4_16_17 => simp only [List.getElem?_toArray, List.getElem?_cons_succ, List.getElem?_cons_zero]; rfl
                      case hQy4_16_17 => exact fun _ _ _ h => h
                      case hwy4_16_17 => rfl
                      case hyy4_16_17 => intro w hSw; (try dsimp only at hSw); (first | (go_simp; done) | (go_simp; with_reducible rfl))
                      try simp only [Act.put, List.setIfInBounds_toArray, List.set_cons_zero, List.set_cons_succ]
                      refine wpAnyH_take (i := 17) (oi := ?oiy4_17_18) (v := ?vy4_17_18) ?hiy4_17_18 (by kernel_rfl) (by kernel_rfl) (by kernel_rfl) ?hQy4_17_18 (Or.inl ⟨?hwy4_17_18, ?hyy4_17_18⟩) (by assumption) ?_
                      case hiy4_17_18 => simp only [List.getElem?_toArray, List.getElem?_cons_succ, List.getElem?_cons_zero]; rfl
                      case hQy4_17_18 => exact fun _ _ _ h => h
                      case hwy4_17_18 => rfl
                      case hyy4_17_18 => intro w hSw; (try dsimp only at hSw); (first | (go_simp; done) | (go_simp; with_reducible rfl))
                      try simp only [Act.put, List.setIfInBounds_toArray, List.set_cons_zero, List.set_cons_succ]
                      refine wpAnyH_take (i := 18) (oi := ?oiy4_18_19) (v := ?vy4_18_19) ?hiy4_18_19 (by kernel_rfl) (by kernel_rfl) (by kernel_rfl) ?hQy4_18_19 (Or.inl ⟨?hwy4_18_19, ?hyy4_18_19⟩) (by assumption) ?_
                      case hiy4_18_19 => simp only [List.getElem?_toArray, List.getElem?_cons_succ, List.getElem?_cons_zero]; rfl
                      case hQy4_18_19 => exact fun _ _ _ h => h
                      case hwy4_18_19 => rfl
                      case hyy4_18_19 => intro w hSw; (try dsimp only at hSw); (first | (go_simp; done) | (go_simp; with_reducible rfl))
                      try simp only [Act.put, List.setIfInBounds_toArray, List.set_cons_zero, List.set_cons_succ]
                      refine wpAnyH_ready (rs := [19]) (by kernel_rfl) (by simp) ?_
                      refine AllReadyH.cons (o := ?oy4_19_20) ?hiy4_19_20 (fun K hK => ?gy4_19_20) AllReadyH.nil
                      case hiy4_19_20 => simp only [List.getElem?_toArray, List.getElem?_cons_succ, List.getElem?_cons_zero]; rfl
                      case gy4_19_20 =>
                        obtain ⟨c_p0, f_p0, c_p1, f_p1, c_p2, f_p2, l_p⟩ := Vn.v3 o_p
                        obtain ⟨c_r0, f_r0, c_r1, f_r1, c_r2, f_r2, l_r⟩ := Vn.v3 o_r
                        obtain ⟨c_o0, f_o0, c_o1, f_o1, c_o2, f_o2, l_o⟩ := Vn.v3 o_o
                        go_simp
                        clear c_p0 f_p0 c_p1 f_p1 c_p2 f_p2 l_p c_r0 f_r0 c_r1 f_r1 c_r2 f_r2 l_r c_o0 f_o0 c_o1 f_o1 c_o2 f_o2 l_o
                        obtain ⟨w12, hw12⟩ : ∃ y, y = (((w11.setCell ⟨(w.heap.size + 1), 0, none⟩ (.int .i64 b.Seed)).setCell ⟨(w.heap.size + 1), 1, none⟩ (.int .i64 b.Next)).setCell ⟨(w.heap.size + 1), 2, none⟩ (.slice A11 (k + (n - (k + 1))) c11)) := ⟨_, rfl⟩
                        obtain ⟨o_new, tw12⟩ := var_some [.int .i64 b.Seed, .int .i64 b.Next, .slice A11 (k + (n - (k + 1))) c11] 0 _ _ o_r (by simp)
                        rw [show setAll w11 ((w.heap.size + 1)) 0 [.int .i64 b.Seed, .int .i64 b.Next, .slice A11 (k + (n - (k + 1))) c11] = w12 from hw12.symm] at o_new tw12
                        replace o_r : Owns w12 _ (varD 26 3 [.int .i64 b.Seed, .int .i64 b.Next, .slice A11 (k + (n - (k + 1))) c11]) _ _ := o_new
                        clear o_new
                        replace o_p := owns_turned o_p tw12 (fun b hb hb2 => by simp at hb hb2; omega)
                        replace o_o := owns_turned o_o tw12 (fun b hb hb2 => by simp at hb hb2; omega)
                        replace o_z := owns_turned o_z tw12 (fun b hb hb2 => by have h1 := i_z b hb; simp at hb2; omega)
                        replace HB := below_turned HB tw12 (fun b hb => by simp at hb; omega)
                        have zw12 := tw12.2.2.2.1
                        rw [← hw12]
                        clear hw12
                        refine hK.out _ _ ?_ (fun hHeld => ?_)
                        · exact ⟨var_load o_p (by simp) 0 _ rfl, var_load o_p (by simp) 1 _ rfl, var_load o_p (by simp) 2 _ rfl, var_load o_o (by simp) 0 _ rfl, var_load o_o (by simp) 1 _ rfl, var_load o_o (by simp) 2 _ rfl, (EC.out _ HB).1, (EC.out _ HB).2⟩
                        clear hK K
                        try simp only [Act.put, List.setIfInBounds_toArray, List.set_cons_zero, List.set_cons_succ]
                        refine wpAnyH_take (i := 20) (oi := ?oiy4_20_21) (v := ?vy4_20_21) ?hiy4_20_21 (by kernel_rfl) (by kernel_rfl) (by kernel_rfl) ?hQy4_20_21 (Or.inl ⟨?hwy4_20_21, ?hyy4_20_21⟩) (by assumption) ?_
                        case hiy4_20_21 => simp only [List.getElem?_toArray, List.getElem?_cons_succ, List.getElem?_cons_zero]; rfl
                        case hQy4_20_21 => exact fun _ _ _ h => h
                        case hwy4_20_21 => rfl
                        case hyy4_20_21 => intro w hSw; (try dsimp only at hSw); (first | (go_simp; done) | (go_simp; with_reducible rfl))
                        try simp only [Act.put, List.setIfInBounds_toArray, List.set_cons_zero, List.set_cons_succ]
                        refine wpAnyH_done (by kernel_rfl) ?_ _
                        go_wp2
                        have y0 : w12.cell? ⟨(w.heap.size + 1), 0, none⟩ = some (.int .i64 b.Seed) := var_load o_r (by simp) 0 _ rfl
                        have y1 : w12.cell? ⟨(w.heap.size + 1), 1, none⟩ = some (.int .i64 b.Next) := var_load o_r (by simp) 1 _ rfl
                        have y2 : w12.cell? ⟨(w.heap.size + 1), 2, none⟩ = some (.slice A11 (k + (n - (k + 1))) c11) := var_load o_r (by simp) 2 _ rfl
                        refine bodyPost_ret (v := .tuple #[.agg #[.int .i64 b.Seed, .int .i64 b.Next, .slice A11 (k + (n - (k + 1))) c11], .bool true]) (by simp [results, Try.results29, go_sem, y0, y1, y2]) rfl ?_
                        exact made_tk (x := ⟨b.Seed, b.Next, xs.take k ++ xs.drop (k + 1)⟩) (by rfl) rfl rfl (by have := HL.out; simp; omega) o_z (Ra.block_nodup _) HB
            · have eb2 : decide (now ≤ y.Until) = false := by simpa using eb
              obtain rfl : r = false := by rw [HRB.out, decide_eq_true ea, eb2]; rfl
              clear ea eb
              go_wp2_with fail
              rw [← hw5]
              clear hw5 sw5
              clear c_p0 f_p0 c_p1 f_p1 c_p2 f_p2 l_p c_r0 f_r0 c_r1 f_r1 c_r2 f_r2 l_r
              have HN := Below.refl w5.heap.size w5
              obtain ⟨w6, hw6⟩ : ∃ y, y = w5.drew := ⟨_, rfl⟩
              have bw6 : Below w5.heap.size w5 w6 := hw6 ▸ drewN_below w5 1 _
              replace o_p := owns_below o_p bw6
              replace o_r := owns_below o_r bw6
              replace o_o := owns_below o_o bw6
              replace HB := HB.trans (bw6.mono HB.size)
              have zw6 := bw6.size
              replace HN := HN.trans (bw6.mono HN.size)
              refine wp_region_held_drew (S := (fun wx => wx.cell? ⟨w.heap.size, 0, none⟩ = some (.int .i64 b.Seed) ∧ wx.cell? ⟨w.heap.size, 1, none⟩ = some (.int .i64 b.Next) ∧ wx.cell? ⟨w.heap.size, 2, none⟩ = some (.slice (some ⟨gb, off, none⟩) n c))) (by kernel_rfl) ?_ (fun hHeld => ?_)
              · rw [← hw6]; exact ⟨var_load o_p (by simp) 0 _ rfl, var_load o_p (by simp) 1 _ rfl, var_load o_p (by simp) 2 _ rfl⟩
              rw [← hw6] at hHeld ⊢
              clear hw6
              refine wpAnyH_take (i := 1) (oi := ?oix5_1_1) (v := ?vx5_1_1) ?hix5_1_1 (by kernel_rfl) (by kernel_rfl) (by kernel_rfl) ?hQx5_1_1 (Or.inl ⟨?hwx5_1_1, ?hyx5_1_1⟩) (by assumption) ?_
              case hix5_1_1 => simp only [List.getElem?_toArray, List.getElem?_cons_succ, List.getElem?_cons_zero]; rfl
              case hQx5_1_1 => exact fun _ _ _ h => h
              case hwx5_1_1 => rfl
              case hyx5_1_1 => intro w hSw; have hw1 := HW1.out; have hw2 := HW2.out; (try dsimp only at hSw); (first | (go_simp; done) | (go_simp; with_reducible rfl))
              try simp only [Act.put, List.setIfInBounds_toArray, List.set_cons_zero, List.set_cons_succ]
              refine wpAnyH_take (i := 2) (oi := ?oix5_2_2) (v := ?vx5_2_2) ?hix5_2_2 (by kernel_rfl) (by kernel_rfl) (by kernel_rfl) ?hQx5_2_2 (Or.inl ⟨?hwx5_2_2, ?hyx5_2_2⟩) (by assumption) ?_
              case hix5_2_2 => simp only [List.getElem?_toArray, List.getElem?_cons_succ, List.getElem?_cons_zero]; rfl
              case hQx5_2_2 => exact fun _ _ _ h => h
              case hwx5_2_2 => rfl
              case hyx5_2_2 => intro w hSw; have hw1 := HW1.out; have hw2 := HW2.out; (try dsimp only at hSw); (first | (go_simp; done) | (go_simp; with_reducible rfl))
              try simp only [Act.put, List.setIfInBounds_toArray, List.set_cons_zero, List.set_cons_succ]
              refine wpAnyH_take (i := 3) (oi := ?oix5_3_3) (v := ?vx5_3_3) ?hix5_3_3 (by kernel_rfl) (by kernel_rfl) (by kernel_rfl) ?hQx5_3_3 (Or.inl ⟨?hwx5_3_3, ?hyx5_3_3⟩) (by assumption) ?_
              case hix5_3_3 => simp only [List.getElem?_toArray, List.getElem?_cons_succ, List.getElem?_cons_zero]; rfl
              case hQx5_3_3 => exact fun _ _ _ h => h
              case hwx5_3_3 => rfl
              case hyx5_3_3 => intro w hSw; have hw1 := HW1.out; have hw2 := HW2.out; (try dsimp only at hSw); (first | (go_simp; done) | (go_simp; with_reducible rfl))
              try simp only [Act.put, List.setIfInBounds_toArray, List.set_cons_zero, List.set_cons_succ]
              refine wpAnyH_take (i := 4) (oi := ?oix5_4_4) (v := ?vx5_4_4) ?hix5_4_4 (by kernel_rfl) (by kernel_rfl) (by kernel_rfl) ?hQx5_4_4 (Or.inl ⟨?hwx5_4_4, ?hyx5_4_4⟩) (by assumption) ?_
              case hix5_4_4 => simp only [List.getElem?_toArray, List.getElem?_cons_succ, List.getElem?_cons_zero]; rfl
              case hQx5_4_4 => exact fun _ _ _ h => h
              case hwx5_4_4 => rfl
              case hyx5_4_4 => intro w hSw; have hw1 := HW1.out; have hw2 := HW2.out; (try dsimp only at hSw); (first | (go_simp; done) | (go_simp; with_reducible rfl))
              try simp only [Act.put, List.setIfInBounds_toArray, List.set_cons_zero, List.set_cons_succ]
              refine wpAnyH_take (i := 6) (oi := ?oix5_6_5) (v := ?vx5_6_5) ?hix5_6_5 (by kernel_rfl) (by kernel_rfl) (by kernel_rfl) ?hQx5_6_5 (Or.inl ⟨?hwx5_6_5, ?hyx5_6_5⟩) (by assumption) ?_
              case hix5_6_5 => simp only [List.getElem?_toArray, List.getElem?_cons_succ, List.getElem?_cons_zero]; rfl
              case hQx5_6_5 => exact fun _ _ _ h => h
              case hwx5_6_5 => rfl
              case hyx5_6_5 => intro w hSw; have hw1 := HW1.out; have hw2 := HW2.out; (try dsimp only at hSw); (first | (go_simp; done) | (go_simp; with_reducible rfl))
              try simp only [Act.put, List.setIfInBounds_toArray, List.set_cons_zero, List.set_cons_succ]
              refine wpAnyH_take (i := 7) (oi := ?oix5_7_6) (v := ?vx5_7_6) ?hix5_7_6 (by kernel_rfl) (by kernel_rfl) (by kernel_rfl) ?hQx5_7_6 (Or.inl ⟨?hwx5_7_6, ?hyx5_7_6⟩) (by assumption) ?_
              case hix5_7_6 => simp only [List.getElem?_toArray, List.getElem?_cons_succ, List.getElem?_cons_zero]; rfl
              case hQx5_7_6 => exact fun _ _ _ h => h
              case hwx5_7_6 => rfl
              case hyx5_7_6 => intro w hSw; have hw1 := HW1.out; have hw2 := HW2.out; (try dsimp only at hSw); (first | (go_simp; done) | (go_simp; with_reducible rfl))
              try simp only [Act.put, List.setIfInBounds_toArray, List.set_cons_zero, List.set_cons_succ]
              refine wpAnyH_take (i := 8) (oi := ?oix5_8_7) (v := ?vx5_8_7) ?hix5_8_7 (by kernel_rfl) (by kernel_rfl) (by kernel_rfl) ?hQx5_8_7 (Or.inl ⟨?hwx5_8_7, ?hyx5_8_7⟩) (by assumption) ?_
              case hix5_8_7 => simp only [List.getElem?_toArray, List.getElem?_cons_succ, List.getElem?_cons_zero]; rfl
              case hQx5_8_7 => exact fun _ _ _ h => h
              case hwx5_8_7 => rfl
              case hyx5_8_7 => intro w hSw; have hw1 := HW1.out; have hw2 := HW2.out; (try dsimp only at hSw); (first | (go_simp; done) | (go_simp; with_reducible rfl))
              try simp only [Act.put, List.setIfInBounds_toArray, List.set_cons_zero, List.set_cons_succ]
              refine wpAnyH_take (i := 9) (oi := ?oix5_9_8) (v := ?vx5_9_8) ?hix5_9_8 (by kernel_rfl) (by kernel_rfl) (by kernel_rfl) ?hQx5_9_8 (Or.inl ⟨?hwx5_9_8, ?hyx5_9_8⟩) (by assumption) ?_
              case hix5_9_8 => simp only [List.getElem?_toArray, List.getElem?_cons_succ, List.getElem?_cons_zero]; rfl
              case hQx5_9_8 => exact fun _ _ _ h => h
              case hwx5_9_8 => rfl
              case hyx5_9_8 => intro w hSw; have hw1 := HW1.out; have hw2 := HW2.out; (try dsimp only at hSw); (first | (go_simp; done) | (go_simp; with_reducible rfl))
              try simp only [Act.put, List.setIfInBounds_toArray, List.set_cons_zero, List.set_cons_succ]
              refine wpAnyH_take (i := 10) (oi := ?oix5_10_9) (v := ?vx5_10_9) ?hix5_10_9 (by kernel_rfl) (by kernel_rfl) (by kernel_rfl) ?hQx5_10_9 (Or.inl ⟨?hwx5_10_9, ?hyx5_10_9⟩) (by assumption) ?_
              case hix5_10_9 => simp only [List.getElem?_toArray, List.getElem?_cons_succ, List.getElem?_cons_zero]; rfl
              case hQx5_10_9 => exact fun _ _ _ h => h
              case hwx5_10_9 => rfl
              case hyx5_10_9 => intro w hSw; have hw1 := HW1.out; have hw2 := HW2.out; (try dsimp only at hSw); (first | (go_simp; done) | (go_simp; with_reducible rfl))
              try simp only [Act.put, List.setIfInBounds_toArray, List.set_cons_zero, List.set_cons_succ]
              refine wpAnyH_ready (rs := [0]) (by kernel_rfl) (by simp) ?_
              refine AllReadyH.cons (o := ?ox5_0_10) ?hix5_0_10 (fun K hK => ?gx5_0_10) AllReadyH.nil
              case hix5_0_10 => simp only [List.getElem?_toArray, List.getElem?_cons_zero]; rfl
              case gx5_0_10 =>
                go_simp
                obtain ⟨w7, hw7⟩ : ∃ y, y = w6.alloc (.cells #[] 30) := ⟨_, rfl⟩
                have o_R0 : (w6.alloc (.cells #[] 30)).ownsRow w5.heap.size 30 3 (.slice (some ⟨w6.heap.size, 0, none⟩) 0 0) 0 (many []) := own_base (own_emp w6) HN.size
                rw [← hw7] at o_R0 ⊢
                have bw7 : Below w6.heap.size w6 w7 := hw7 ▸ (Below.refl _ _).alloc (Nat.le_refl _) _
                clear hw7
                replace HN := HN.trans (bw7.mono HN.size)
                replace o_p := owns_below o_p bw7
                replace o_r := owns_below o_r bw7
                replace o_o := owns_below o_o bw7
                replace HB := HB.trans (bw7.mono HB.size)
                have zw7 := bw7.size
                refine hK.out _ _ ?_ (fun hHeld => ?_)
                · exact ⟨var_load o_p (by simp) 0 _ rfl, var_load o_p (by simp) 1 _ rfl, var_load o_p (by simp) 2 _ rfl⟩
                clear hK K
                try simp only [Act.put, List.setIfInBounds_toArray, List.set_cons_zero, List.set_cons_succ]
                refine wpAnyH_ready (rs := [5]) (by kernel_rfl) (by simp) ?_
                refine AllReadyH.cons (o := ?ox5_5_11) ?hix5_5_11 (fun K hK => ?gx5_5_11) AllReadyH.nil
                case hix5_5_11 => simp only [List.getElem?_toArray, List.getElem?_cons_succ, List.getElem?_cons_zero]; rfl
                case gx5_5_11 =>
                  refine stepC w7 rfl (.tmp 25) (.tmp 29) rfl (w5.heap.size) (.slice (some ⟨w6.heap.size, 0, none⟩) 0 0) (0) _ (by simp [Act.eval]) o_R0 _ (some ⟨gb, off, none⟩) (k) (c) (xs.take k) (by simp [Act.eval]) (rd_take3 (HR.out _ HB) (by omega)) (by omega) HN.size ?_
                  intro vw8 w8 o_R5 gw8 kw8
                  have Tw8 := turned_grown gw8
                  have Qw8 : ∀ b, b ∈ Option.toList (Value.ownBlock (.slice (some ⟨w6.heap.size, 0, none⟩) 0 0)) → w5.heap.size ≤ b := fun b hb => (o_R0.lt b (by simpa using hb)).1
                  replace o_p := owns_turned o_p Tw8 (fun b hb hb2 => by have h1 := Qw8 b hb2; simp at hb; omega)
                  replace o_r := owns_turned o_r Tw8 (fun b hb hb2 => by have h1 := Qw8 b hb2; simp at hb; omega)
                  replace o_o := owns_turned o_o Tw8 (fun b hb hb2 => by have h1 := Qw8 b hb2; simp at hb; omega)
                  replace HN := HN.grown gw8 HN.size (fun j hj => (o_R0.lt j hj).1)
                  replace HB := below_turned HB Tw8 (fun b hb => by have h1 := Qw8 b hb; omega)
                  have zw8 := gw8.size
                  rw [Nat.zero_add, List.nil_append] at o_R5
                  obtain ⟨A5, c5, rfl⟩ := own_nil_form o_R5
                  clear o_R0 kw8 gw8
                  refine hK.out _ _ ?_ (fun hHeld => ?_)
                  · exact ⟨var_load o_p (by simp) 0 _ rfl, var_load o_p (by simp) 1 _ rfl, var_load o_p (by simp) 2 _ rfl⟩
                  clear hK K
                  try simp only [Act.put, List.setIfInBounds_toArray, List.set_cons_zero, List.set_cons_succ]
                  refine wpAnyH_ready (rs := [11]) (by kernel_rfl) (by simp) ?_
                  refine AllReadyH.cons (o := ?ox5_11_12) ?hix5_11_12 (fun K hK => ?gx5_11_12) AllReadyH.nil
                  case hix5_11_12 => simp only [List.getElem?_toArray, List.getElem?_cons_succ, List.getElem?_cons_zero]; rfl
                  case gx5_11_12 =>
                    refine stepC w8 rfl (.tmp 30) (.tmp 35) rfl (w5.heap.size) (.slice A5 (k) c5) (k) _ (by simp [Act.eval]) o_R5 _ (some ⟨gb, off + (k + 1) * 3, none⟩) (n - (k + 1)) (c - (k + 1)) (xs.drop (k + 1)) (by simp [Act.eval]) (rd_drop3 (HR.out _ HB) (by omega)) (by omega) HN.size ?_
                    intro vw9 w9 o_R11 gw9 kw9
                    have Tw9 := turned_grown gw9
                    have Qw9 : ∀ b, b ∈ Option.toList (Value.ownBlock (.slice A5 (k) c5)) → w5.heap.size ≤ b := fun b hb => (o_R5.lt b (by simpa using hb)).1
                    replace o_p := owns_turned o_p Tw9 (fun b hb hb2 => by have h1 := Qw9 b hb2; simp at hb; omega)
                    replace o_r := owns_turned o_r Tw9 (fun b hb hb2 => by have h1 := Qw9 b hb2; simp at hb; omega)
                    replace o_o := owns_turned o_o Tw9 (fun b hb hb2 => by have h1 := Qw9 b hb2; simp at hb; omega)
                    replace HN := HN.grown gw9 HN.size (fun j hj => (o_R5.lt j hj).1)
                    replace HB := below_turned HB Tw9 (fun b hb => by have h1 := Qw9 b hb; omega)
                    have zw9 := gw9.size
                    obtain ⟨A11, c11, rfl⟩ := own_nil_form o_R11
                    clear o_R5 kw9 gw9
                    refine hK.out _ _ ?_ (fun hHeld => ?_)
                    · exact ⟨var_load o_p (by simp) 0 _ rfl, var_load o_p (by simp) 1 _ rfl, var_load o_p (by simp) 2 _ rfl⟩
                    clear hK K
                    try simp only [Act.put, List.setIfInBounds_toArray, List.set_cons_zero, List.set_cons_succ]
                    refine wpAnyH_take (i := 12) (oi := ?oix5_12_13) (v := ?vx5_12_13) ?hix5_12_13 (by kernel_rfl) (by kernel_rfl) (by kernel_rfl) ?hQx5_12_13 (Or.inl ⟨?hwx5_12_13, ?hyx5_12_13⟩) (by assumption) ?_
                    case hix5_12_13 => simp only [List.getElem?_toArray, List.getElem?_cons_succ, List.getElem?_cons_zero]; rfl
                    case hQx5_12_13 => exact fun _ _ _ h => h
                    case hwx5_12_13 => rfl
                    case hyx5_12_13 => intro w hSw; have hw1 := HW1.out; have hw2 := HW2.out; (try dsimp only at hSw); (first | (go_simp; done) | (go_simp; with_reducible rfl))
                    try simp only [Act.put, List.setIfInBounds_toArray, List.set_cons_zero, List.set_cons_succ]
                    refine wpAnyH_ready (rs := [13]) (by kernel_rfl) (by simp) ?_
                    refine AllReadyH.cons (o := ?ox5_13_14) ?hix5_13_14 (fun K hK => ?gx5_13_14) AllReadyH.nil
                    case hix5_13_14 => simp only [List.getElem?_toArray, List.getElem?_cons_succ, List.getElem?_cons_zero]; rfl
                    case gx5_13_14 =>
                      obtain ⟨c_p0, f_p0, c_p1, f_p1, c_p2, f_p2, l_p⟩ := Vn.v3 o_p
                      obtain ⟨c_r0, f_r0, c_r1, f_r1, c_r2, f_r2, l_r⟩ := Vn.v3 o_r
                      obtain ⟨c_o0, f_o0, c_o1, f_o1, c_o2, f_o2, l_o⟩ := Vn.v3 o_o
                      go_simp
                      clear c_p0 f_p0 c_p1 f_p1 c_p2 f_p2 l_p c_r0 f_r0 c_r1 f_r1 c_r2 f_r2 l_r c_o0 f_o0 c_o1 f_o1 c_o2 f_o2 l_o
                      obtain ⟨w10, hw10⟩ : ∃ y, y = (w9.setCell ⟨w4.heap.size, 2, none⟩ (.slice A11 (k + (n - (k + 1))) c11)) := ⟨_, rfl⟩
                      obtain ⟨o_new, tw10⟩ := var_some [.slice A11 (k + (n - (k + 1))) c11] 2 _ _ o_o (by simp)
                      rw [show setAll w9 (w4.heap.size) 2 [.slice A11 (k + (n - (k + 1))) c11] = w10 from hw10.symm] at o_new tw10
                      replace o_o : Owns w10 _ (varD 26 3 [.int .i64 b.Seed, .int .i64 b.Next, .slice A11 (k + (n - (k + 1))) c11]) _ _ := o_new
                      clear o_new
                      replace o_p := owns_turned o_p tw10 (fun b hb hb2 => by simp at hb hb2; omega)
                      replace o_r := owns_turned o_r tw10 (fun b hb hb2 => by simp at hb hb2; omega)
                      replace HB := below_turned HB tw10 (fun b hb => by simp at hb; omega)
                      have zw10 := tw10.2.2.2.1
                      rw [← hw10]
                      clear hw10
                      replace o_R11 := many_turned o_R11 tw10 (fun b hb hb2 => by have h1 := (o_R11.lt b (by simpa using hb)).1; simp at hb2; omega)
                      refine hK.out _ _ ?_ (fun hHeld => ?_)
                      · exact ⟨var_load o_p (by simp) 0 _ rfl, var_load o_p (by simp) 1 _ rfl, var_load o_p (by simp) 2 _ rfl⟩
                      clear hK K
                      try simp only [Act.put, List.setIfInBounds_toArray, List.set_cons_zero, List.set_cons_succ]
                      refine wpAnyH_done (by kernel_rfl) ?_ _
                      have i_z0 := Fx.made_in (owns_many o_R11)
                      have o_z := owns_many (own_base o_R11 (show w.heap.size ≤ w5.heap.size by omega))
                      have i_z := i_z0
                      clear i_z0 o_R11
                      obtain ⟨c_p0, f_p0, c_p1, f_p1, c_p2, f_p2, l_p⟩ := Vn.v3 o_p
                      obtain ⟨c_r0, f_r0, c_r1, f_r1, c_r2, f_r2, l_r⟩ := Vn.v3 o_r
                      obtain ⟨c_o0, f_o0, c_o1, f_o1, c_o2, f_o2, l_o⟩ := Vn.v3 o_o
                      go_wp2_with fail
                      clear c_p0 f_p0 c_p1 f_p1 c_p2 f_p2 l_p c_r0 f_r0 c_r1 f_r1 c_r2 f_r2 l_r c_o0 f_o0 c_o1 f_o1 c_o2 f_o2 l_o
                      obtain ⟨w11, hw11⟩ : ∃ y, y = w10.drew := ⟨_, rfl⟩
                      have bw11 : Below w10.heap.size w10 w11 := hw11 ▸ drewN_below w10 1 _
                      replace o_p := owns_below o_p bw11
                      replace o_r := owns_below o_r bw11
                      replace o_o := owns_below o_o bw11
                      replace o_z := owns_below o_z bw11
                      replace HB := HB.trans (bw11.mono HB.size)
                      have zw11 := bw11.size
                      refine wp_region_held_drew (S := (fun (wx : World) => wx.cell? ⟨w.heap.size, 0, none⟩ = some (.int .i64 b.Seed) ∧ wx.cell? ⟨w.heap.size, 1, none⟩ = some (.int .i64 b.Next) ∧ wx.cell? ⟨w.heap.size, 2, none⟩ = some (.slice (some ⟨gb, off, none⟩) n c) ∧ wx.cell? ⟨w4.heap.size, 0, none⟩ = some (.int .i64 b.Seed) ∧ wx.cell? ⟨w4.heap.size, 1, none⟩ = some (.int .i64 b.Next) ∧ wx.cell? ⟨w4.heap.size, 2, none⟩ = some (.slice A11 (k + (n - (k + 1))) c11) ∧ wx.cell? ⟨gb, off + k * 3 + 1, none⟩ = some (.int .i64 y.Account) ∧ wx.cell? ⟨gb, off + k * 3 + 2, none⟩ = some (.int .i64 y.Until))) (by kernel_rfl) ?_ (fun hHeld => ?_)
                      · rw [← hw11]; exact ⟨var_load o_p (by simp) 0 _ rfl, var_load o_p (by simp) 1 _ rfl, var_load o_p (by simp) 2 _ rfl, var_load o_o (by simp) 0 _ rfl, var_load o_o (by simp) 1 _ rfl, var_load o_o (by simp) 2 _ rfl, (EC.out _ HB).1, (EC.out _ HB).2⟩
                      rw [← hw11] at hHeld ⊢
                      clear hw11
                      refine wpAnyH_take (i := 0) (oi := ?oiy5_0_1) (v := ?vy5_0_1) ?hiy5_0_1 (by kernel_rfl) (by kernel_rfl) (by kernel_rfl) ?hQy5_0_1 (Or.inl ⟨?hwy5_0_1, ?hyy5_0_1⟩) (by assumption) ?_
                      case hiy5_0_1 => simp only [List.getElem?_toArray, List.getElem?_cons_zero]; rfl
                      case hQy5_0_1 => exact fun _ _ _ h => h
                      case hwy5_0_1 => rfl
                      case hyy5_0_1 => intro w hSw; (try dsimp only at hSw); (first | (go_simp; done) | (go_simp; with_reducible rfl))
                      try simp only [Act.put, List.setIfInBounds_toArray, List.set_cons_zero, List.set_cons_succ]
                      refine wpAnyH_take (i := 1) (oi := ?oiy5_1_2) (v := ?vy5_1_2) ?hiy5_1_2 (by kernel_rfl) (by kernel_rfl) (by kernel_rfl) ?hQy5_1_2 (Or.inl ⟨?hwy5_1_2, ?hyy5_1_2⟩) (by assumption) ?_
                      case hiy5_1_2 => simp only [List.getElem?_toArray, List.getElem?_cons_succ, List.getElem?_cons_zero]; rfl
                      case hQy5_1_2 => exact fun _ _ _ h => h
                      case hwy5_1_2 => rfl
                      case hyy5_1_2 => intro w hSw; (try dsimp only at hSw); (first | (go_simp; done) | (go_simp; with_reducible rfl))
                      try simp only [Act.put, List.setIfInBounds_toArray, List.set_cons_zero, List.set_cons_succ]
                      refine wpAnyH_take (i := 2) (oi := ?oiy5_2_3) (v := ?vy5_2_3) ?hiy5_2_3 (by kernel_rfl) (by kernel_rfl) (by kernel_rfl) ?hQy5_2_3 (Or.inl ⟨?hwy5_2_3, ?hyy5_2_3⟩) (by assumption) ?_
                      case hiy5_2_3 => simp only [List.getElem?_toArray, List.getElem?_cons_succ, List.getElem?_cons_zero]; rfl
                      case hQy5_2_3 => exact fun _ _ _ h => h
                      case hwy5_2_3 => rfl
                      case hyy5_2_3 => intro w hSw; (try dsimp only at hSw); (first | (go_simp; done) | (go_simp; with_reducible rfl))
                      try simp only [Act.put, List.setIfInBounds_toArray, List.set_cons_zero, List.set_cons_succ]
                      refine wpAnyH_take (i := 3) (oi := ?oiy5_3_4) (v := ?vy5_3_4) ?hiy5_3_4 (by kernel_rfl) (by kernel_rfl) (by kernel_rfl) ?hQy5_3_4 (Or.inl ⟨?hwy5_3_4, ?hyy5_3_4⟩) (by assumption) ?_
                      case hiy5_3_4 => simp only [List.getElem?_toArray, List.getElem?_cons_succ, List.getElem?_cons_zero]; rfl
                      case hQy5_3_4 => exact fun _ _ _ h => h
                      case hwy5_3_4 => rfl
                      case hyy5_3_4 => intro w hSw; (try dsimp only at hSw); (first | (go_simp; done) | (go_simp; with_reducible rfl))
                      try simp only [Act.put, List.setIfInBounds_toArray, List.set_cons_zero, List.set_cons_succ]
                      refine wpAnyH_take (i := 4) (oi := ?oiy5_4_5) (v := ?vy5_4_5) ?hiy5_4_5 (by kernel_rfl) (by kernel_rfl) (by kernel_rfl) ?hQy5_4_5 (Or.inl ⟨?hwy5_4_5, ?hyy5_4_5⟩) (by assumption) ?_
                      case hiy5_4_5 => simp only [List.getElem?_toArray, List.getElem?_cons_succ, List.getElem?_cons_zero]; rfl
                      case hQy5_4_5 => exact fun _ _ _ h => h
                      case hwy5_4_5 => rfl
                      case hyy5_4_5 => intro w hSw; (try dsimp only at hSw); (first | (go_simp; done) | (go_simp; with_reducible rfl))
                      try simp only [Act.put, List.setIfInBounds_toArray, List.set_cons_zero, List.set_cons_succ]
                      refine wpAnyH_take (i := 5) (oi := ?oiy5_5_6) (v := ?vy5_5_6) ?hiy5_5_6 (by kernel_rfl) (by kernel_rfl) (by kernel_rfl) ?hQy5_5_6 (Or.inl ⟨?hwy5_5_6, ?hyy5_5_6⟩) (by assumption) ?_
                      case hiy5_5_6 => simp only [List.getElem?_toArray, List.getElem?_cons_succ, List.getElem?_cons_zero]; rfl
                      case hQy5_5_6 => exact fun _ _ _ h => h
                      case hwy5_5_6 => rfl
                      case hyy5_5_6 => intro w hSw; (try dsimp only at hSw); (first | (go_simp; done) | (go_simp; with_reducible rfl))
                      try simp only [Act.put, List.setIfInBounds_toArray, List.set_cons_zero, List.set_cons_succ]
                      refine wpAnyH_take (i := 6) (oi := ?oiy5_6_7) (v := ?vy5_6_7) ?hiy5_6_7 (by kernel_rfl) (by kernel_rfl) (by kernel_rfl) ?hQy5_6_7 (Or.inl ⟨?hwy5_6_7, ?hyy5_6_7⟩) (by assumption) ?_
                      case hiy5_6_7 => simp only [List.getElem?_toArray, List.getElem?_cons_succ, List.getElem?_cons_zero]; rfl
                      case hQy5_6_7 => exact fun _ _ _ h => h
                      case hwy5_6_7 => rfl
                      case hyy5_6_7 => intro w hSw; (try dsimp only at hSw); (first | (go_simp; done) | (go_simp; with_reducible rfl))
                      try simp only [Act.put, List.setIfInBounds_toArray, List.set_cons_zero, List.set_cons_succ]
                      refine wpAnyH_take (i := 7) (oi := ?oiy5_7_8) (v := ?vy5_7_8) ?hiy5_7_8 (by kernel_rfl) (by kernel_rfl) (by kernel_rfl) ?hQy5_7_8 (Or.inl ⟨?hwy5_7_8, ?hyy5_7_8⟩) (by assumption) ?_
                      case hiy5_7_8 => simp only [List.getElem?_toArray, List.getElem?_cons_succ, List.getElem?_cons_zero]; rfl
                      case hQy5_7_8 => exact fun _ _ _ h => h
                      case hwy5_7_8 => rfl
                      case hyy5_7_8 => intro w hSw; (try dsimp only at hSw); (first | (go_simp; done) | (go_simp; with_reducible rfl))
                      try simp only [Act.put, List.setIfInBounds_toArray, List.set_cons_zero, List.set_cons_succ]
                      refine wpAnyH_take (i := 8) (oi := ?oiy5_8_9) (v := ?vy5_8_9) ?hiy5_8_9 (by kernel_rfl) (by kernel_rfl) (by kernel_rfl) ?hQy5_8_9 (Or.inl ⟨?hwy5_8_9, ?hyy5_8_9⟩) (by assumption) ?_
                      case hiy5_8_9 => simp only [List.getElem?_toArray, List.getElem?_cons_succ, List.getElem?_cons_zero]; rfl
                      case hQy5_8_9 => exact fun _ _ _ h => h
                      case hwy5_8_9 => rfl
                      case hyy5_8_9 => intro w hSw; (try dsimp only at hSw); (first | (go_simp; done) | (go_simp; with_reducible rfl))
                      try simp only [Act.put, List.setIfInBounds_toArray, List.set_cons_zero, List.set_cons_succ]
                      refine wpAnyH_take (i := 9) (oi := ?oiy5_9_10) (v := ?vy5_9_10) ?hiy5_9_10 (by kernel_rfl) (by kernel_rfl) (by kernel_rfl) ?hQy5_9_10 (Or.inl ⟨?hwy5_9_10, ?hyy5_9_10⟩) (by assumption) ?_
                      case hiy5_9_10 => simp only [List.getElem?_toArray, List.getElem?_cons_succ, List.getElem?_cons_zero]; rfl
                      case hQy5_9_10 => exact fun _ _ _ h => h
                      case hwy5_9_10 => rfl
                      case hyy5_9_10 => intro w hSw; (try dsimp only at hSw); (first | (go_simp; done) | (go_simp; with_reducible rfl))
                      try simp only [Act.put, List.setIfInBounds_toArray, List.set_cons_zero, List.set_cons_succ]
                      refine wpAnyH_take (i := 10) (oi := ?oiy5_10_11) (v := ?vy5_10_11) ?hiy5_10_11 (by kernel_rfl) (by kernel_rfl) (by kernel_rfl) ?hQy5_10_11 (Or.inl ⟨?hwy5_10_11, ?hyy5_10_11⟩) (by assumption) ?_
                      case hiy5_10_11 => simp only [List.getElem?_toArray, List.getElem?_cons_succ, List.getElem?_cons_zero]; rfl
                      case hQy5_10_11 => exact fun _ _ _ h => h
                      case hwy5_10_11 => rfl
                      case hyy5_10_11 => intro w hSw; (try dsimp only at hSw); (first | (go_simp; done) | (go_simp; with_reducible rfl))
                      try simp only [Act.put, List.setIfInBounds_toArray, List.set_cons_zero, List.set_cons_succ]
                      refine wpAnyH_take (i := 11) (oi := ?oiy5_11_12) (v := ?vy5_11_12) ?hiy5_11_12 (by kernel_rfl) (by kernel_rfl) (by kernel_rfl) ?hQy5_11_12 (Or.inl ⟨?hwy5_11_12, ?hyy5_11_12⟩) (by assumption) ?_
                      case hiy5_11_12 => simp only [List.getElem?_toArray, List.getElem?_cons_succ, List.getElem?_cons_zero]; rfl
                      case hQy5_11_12 => exact fun _ _ _ h => h
                      case hwy5_11_12 => rfl
                      case hyy5_11_12 => intro w hSw; (try dsimp only at hSw); (first | (go_simp; done) | (go_simp; with_reducible rfl))
                      try simp only [Act.put, List.setIfInBounds_toArray, List.set_cons_zero, List.set_cons_succ]
                      refine wpAnyH_take (i := 12) (oi := ?oiy5_12_13) (v := ?vy5_12_13) ?hiy5_12_13 (by kernel_rfl) (by kernel_rfl) (by kernel_rfl) ?hQy5_12_13 (Or.inl ⟨?hwy5_12_13, ?hyy5_12_13⟩) (by assumption) ?_
                      case hiy5_12_13 => simp only [List.getElem?_toArray, List.getElem?_cons_succ, List.getElem?_cons_zero]; rfl
                      case hQy5_12_13 => exact fun _ _ _ h => h
                      case hwy5_12_13 => rfl
                      case hyy5_12_13 => intro w hSw; (try dsimp only at hSw); (first | (go_simp; done) | (go_simp; with_reducible rfl))
                      try simp only [Act.put, List.setIfInBounds_toArray, List.set_cons_zero, List.set_cons_succ]
                      refine wpAnyH_take (i := 13) (oi := ?oiy5_13_14) (v := ?vy5_13_14) ?hiy5_13_14 (by kernel_rfl) (by kernel_rfl) (by kernel_rfl) ?hQy5_13_14 (Or.inl ⟨?hwy5_13_14, ?hyy5_13_14⟩) (by assumption) ?_
                      case hiy5_13_14 => simp only [List.getElem?_toArray, List.getElem?_cons_succ, List.getElem?_cons_zero]; rfl
                      case hQy5_13_14 => exact fun _ _ _ h => h
                      case hwy5_13_14 => rfl
                      case hyy5_13_14 => intro w hSw; (try dsimp only at hSw); (first | (go_simp; done) | (go_simp; with_reducible rfl))
                      try simp only [Act.put, List.setIfInBounds_toArray, List.set_cons_zero, List.set_cons_succ]
                      refine wpAnyH_take (i := 14) (oi := ?oiy5_14_15) (v := ?vy5_14_15) ?hiy5_14_15 (by kernel_rfl) (by kernel_rfl) (by kernel_rfl) ?hQy5_14_15 (Or.inl ⟨?hwy5_14_15, ?hyy5_14_15⟩) (by assumption) ?_
                      case hiy5_14_15 => simp only [List.getElem?_toArray, List.getElem?_cons_succ, List.getElem?_cons_zero]; rfl
                      case hQy5_14_15 => exact fun _ _ _ h => h
                      case hwy5_14_15 => rfl
                      case hyy5_14_15 => intro w hSw; (try dsimp only at hSw); (first | (go_simp; done) | (go_simp; with_reducible rfl))
                      try simp only [Act.put, List.setIfInBounds_toArray, List.set_cons_zero, List.set_cons_succ]
                      refine wpAnyH_take (i := 15) (oi := ?oiy5_15_16) (v := ?vy5_15_16) ?hiy5_15_16 (by kernel_rfl) (by kernel_rfl) (by kernel_rfl) ?hQy5_15_16 (Or.inl ⟨?hwy5_15_16, ?hyy5_15_16⟩) (by assumption) ?_
                      case hiy5_15_16 => simp only [List.getElem?_toArray, List.getElem?_cons_succ, List.getElem?_cons_zero]; rfl
                      case hQy5_15_16 => exact fun _ _ _ h => h
                      case hwy5_15_16 => rfl
                      case hyy5_15_16 => intro w hSw; (try dsimp only at hSw); (first | (go_simp; done) | (go_simp; with_reducible rfl))
                      try simp only [Act.put, List.setIfInBounds_toArray, List.set_cons_zero, List.set_cons_succ]
                      refine wpAnyH_take (i := 16) (oi := ?oiy5_16_17) (v := ?vy5_16_17) ?hiy5_16_17 (by kernel_rfl) (by kernel_rfl) (by kernel_rfl) ?hQy5_16_17 (Or.inl ⟨?hwy5_16_17, ?hyy5_16_17⟩) (by assumption) ?_
                      case hiy5_16_17 => simp only [List.getElem?_toArray, List.getElem?_cons_succ, List.getElem?_cons_zero]; rfl
                      case hQy5_16_17 => exact fun _ _ _ h => h
                      case hwy5_16_17 => rfl
                      case hyy5_16_17 => intro w hSw; (try dsimp only at hSw); (first | (go_simp; done) | (go_simp; with_reducible rfl))
                      try simp only [Act.put, List.setIfInBounds_toArray, List.set_cons_zero, List.set_cons_succ]
                      refine wpAnyH_take (i := 17) (oi := ?oiy5_17_18) (v := ?vy5_17_18) ?hiy5_17_18 (by kernel_rfl) (by kernel_rfl) (by kernel_rfl) ?hQy5_17_18 (Or.inl ⟨?hwy5_17_18, ?hyy5_17_18⟩) (by assumption) ?_
                      case hiy5_17_18 => simp only [List.getElem?_toArray, List.getElem?_cons_succ, List.getElem?_cons_zero]; rfl
                      case hQy5_17_18 => exact fun _ _ _ h => h
                      case hwy5_17_18 => rfl
                      case hyy5_17_18 => intro w hSw; (try dsimp only at hSw); (first | (go_simp; done) | (go_simp; with_reducible rfl))
                      try simp only [Act.put, List.setIfInBounds_toArray, List.set_cons_zero, List.set_cons_succ]
                      refine wpAnyH_take (i := 18) (oi := ?oiy5_18_19) (v := ?vy5_18_19) ?hiy5_18_19 (by kernel_rfl) (by kernel_rfl) (by kernel_rfl) ?hQy5_18_19 (Or.inl ⟨?hwy5_18_19, ?hyy5_18_19⟩) (by assumption) ?_
                      case hiy5_18_19 => simp only [List.getElem?_toArray, List.getElem?_cons_succ, List.getElem?_cons_zero]; rfl
                      case hQy5_18_19 => exact fun _ _ _ h => h
                      case hwy5_18_19 => rfl
                      case hyy5_18_19 => intro w hSw; (try dsimp only at hSw); (first | (go_simp; done) | (go_simp; with_reducible rfl))
                      try simp only [Act.put, List.setIfInBounds_toArray, List.set_cons_zero, List.set_cons_succ]
                      refine wpAnyH_ready (rs := [19]) (by kernel_rfl) (by simp) ?_
                      refine AllReadyH.cons (o := ?oy5_19_20) ?hiy5_19_20 (fun K hK => ?gy5_19_20) AllReadyH.nil
                      case hiy5_19_20 => simp only [List.getElem?_toArray, List.getElem?_cons_succ, List.getElem?_cons_zero]; rfl
                      case gy5_19_20 =>
                        obtain ⟨c_p0, f_p0, c_p1, f_p1, c_p2, f_p2, l_p⟩ := Vn.v3 o_p
                        obtain ⟨c_r0, f_r0, c_r1, f_r1, c_r2, f_r2, l_r⟩ := Vn.v3 o_r
                        obtain ⟨c_o0, f_o0, c_o1, f_o1, c_o2, f_o2, l_o⟩ := Vn.v3 o_o
                        go_simp
                        clear c_p0 f_p0 c_p1 f_p1 c_p2 f_p2 l_p c_r0 f_r0 c_r1 f_r1 c_r2 f_r2 l_r c_o0 f_o0 c_o1 f_o1 c_o2 f_o2 l_o
                        obtain ⟨w12, hw12⟩ : ∃ y, y = (((w11.setCell ⟨(w.heap.size + 1), 0, none⟩ (.int .i64 b.Seed)).setCell ⟨(w.heap.size + 1), 1, none⟩ (.int .i64 b.Next)).setCell ⟨(w.heap.size + 1), 2, none⟩ (.slice A11 (k + (n - (k + 1))) c11)) := ⟨_, rfl⟩
                        obtain ⟨o_new, tw12⟩ := var_some [.int .i64 b.Seed, .int .i64 b.Next, .slice A11 (k + (n - (k + 1))) c11] 0 _ _ o_r (by simp)
                        rw [show setAll w11 ((w.heap.size + 1)) 0 [.int .i64 b.Seed, .int .i64 b.Next, .slice A11 (k + (n - (k + 1))) c11] = w12 from hw12.symm] at o_new tw12
                        replace o_r : Owns w12 _ (varD 26 3 [.int .i64 b.Seed, .int .i64 b.Next, .slice A11 (k + (n - (k + 1))) c11]) _ _ := o_new
                        clear o_new
                        replace o_p := owns_turned o_p tw12 (fun b hb hb2 => by simp at hb hb2; omega)
                        replace o_o := owns_turned o_o tw12 (fun b hb hb2 => by simp at hb hb2; omega)
                        replace o_z := owns_turned o_z tw12 (fun b hb hb2 => by have h1 := i_z b hb; simp at hb2; omega)
                        replace HB := below_turned HB tw12 (fun b hb => by simp at hb; omega)
                        have zw12 := tw12.2.2.2.1
                        rw [← hw12]
                        clear hw12
                        refine hK.out _ _ ?_ (fun hHeld => ?_)
                        · exact ⟨var_load o_p (by simp) 0 _ rfl, var_load o_p (by simp) 1 _ rfl, var_load o_p (by simp) 2 _ rfl, var_load o_o (by simp) 0 _ rfl, var_load o_o (by simp) 1 _ rfl, var_load o_o (by simp) 2 _ rfl, (EC.out _ HB).1, (EC.out _ HB).2⟩
                        clear hK K
                        try simp only [Act.put, List.setIfInBounds_toArray, List.set_cons_zero, List.set_cons_succ]
                        refine wpAnyH_take (i := 20) (oi := ?oiy5_20_21) (v := ?vy5_20_21) ?hiy5_20_21 (by kernel_rfl) (by kernel_rfl) (by kernel_rfl) ?hQy5_20_21 (Or.inl ⟨?hwy5_20_21, ?hyy5_20_21⟩) (by assumption) ?_
                        case hiy5_20_21 => simp only [List.getElem?_toArray, List.getElem?_cons_succ, List.getElem?_cons_zero]; rfl
                        case hQy5_20_21 => exact fun _ _ _ h => h
                        case hwy5_20_21 => rfl
                        case hyy5_20_21 => intro w hSw; (try dsimp only at hSw); (first | (go_simp; done) | (go_simp; with_reducible rfl))
                        try simp only [Act.put, List.setIfInBounds_toArray, List.set_cons_zero, List.set_cons_succ]
                        refine wpAnyH_done (by kernel_rfl) ?_ _
                        go_wp2
                        have y0 : w12.cell? ⟨(w.heap.size + 1), 0, none⟩ = some (.int .i64 b.Seed) := var_load o_r (by simp) 0 _ rfl
                        have y1 : w12.cell? ⟨(w.heap.size + 1), 1, none⟩ = some (.int .i64 b.Next) := var_load o_r (by simp) 1 _ rfl
                        have y2 : w12.cell? ⟨(w.heap.size + 1), 2, none⟩ = some (.slice A11 (k + (n - (k + 1))) c11) := var_load o_r (by simp) 2 _ rfl
                        refine bodyPost_ret (v := .tuple #[.agg #[.int .i64 b.Seed, .int .i64 b.Next, .slice A11 (k + (n - (k + 1))) c11], .bool false]) (by simp [results, Try.results29, go_sem, y0, y1, y2]) rfl ?_
                        exact made_tk (x := ⟨b.Seed, b.Next, xs.take k ++ xs.drop (k + 1)⟩) (by rfl) rfl rfl (by have := HL.out; simp; omega) o_z (Ra.block_nodup _) HB
          · have ea2 : (y.Account == a) = false := by simpa using ea
            obtain rfl : r = false := by rw [HRB.out, decide_eq_false ea]; rfl
            clear ea
            go_wp2_with fail
            rw [← hw5]
            clear hw5 sw5
            clear c_p0 f_p0 c_p1 f_p1 c_p2 f_p2 l_p c_r0 f_r0 c_r1 f_r1 c_r2 f_r2 l_r
            have HN := Below.refl w5.heap.size w5
            obtain ⟨w6, hw6⟩ : ∃ y, y = w5.drew := ⟨_, rfl⟩
            have bw6 : Below w5.heap.size w5 w6 := hw6 ▸ drewN_below w5 1 _
            replace o_p := owns_below o_p bw6
            replace o_r := owns_below o_r bw6
            replace o_o := owns_below o_o bw6
            replace HB := HB.trans (bw6.mono HB.size)
            have zw6 := bw6.size
            replace HN := HN.trans (bw6.mono HN.size)
            refine wp_region_held_drew (S := (fun wx => wx.cell? ⟨w.heap.size, 0, none⟩ = some (.int .i64 b.Seed) ∧ wx.cell? ⟨w.heap.size, 1, none⟩ = some (.int .i64 b.Next) ∧ wx.cell? ⟨w.heap.size, 2, none⟩ = some (.slice (some ⟨gb, off, none⟩) n c))) (by kernel_rfl) ?_ (fun hHeld => ?_)
            · rw [← hw6]; exact ⟨var_load o_p (by simp) 0 _ rfl, var_load o_p (by simp) 1 _ rfl, var_load o_p (by simp) 2 _ rfl⟩
            rw [← hw6] at hHeld ⊢
            clear hw6
            refine wpAnyH_take (i := 1) (oi := ?oix6_1_1) (v := ?vx6_1_1) ?hix6_1_1 (by kernel_rfl) (by kernel_rfl) (by kernel_rfl) ?hQx6_1_1 (Or.inl ⟨?hwx6_1_1, ?hyx6_1_1⟩) (by assumption) ?_
            case hix6_1_1 => simp only [List.getElem?_toArray, List.getElem?_cons_succ, List.getElem?_cons_zero]; rfl
            case hQx6_1_1 => exact fun _ _ _ h => h
            case hwx6_1_1 => rfl
            case hyx6_1_1 => intro w hSw; have hw1 := HW1.out; have hw2 := HW2.out; (try dsimp only at hSw); (first | (go_simp; done) | (go_simp; with_reducible rfl))
            try simp only [Act.put, List.setIfInBounds_toArray, List.set_cons_zero, List.set_cons_succ]
            refine wpAnyH_take (i := 2) (oi := ?oix6_2_2) (v := ?vx6_2_2) ?hix6_2_2 (by kernel_rfl) (by kernel_rfl) (by kernel_rfl) ?hQx6_2_2 (Or.inl ⟨?hwx6_2_2, ?hyx6_2_2⟩) (by assumption) ?_
            case hix6_2_2 => simp only [List.getElem?_toArray, List.getElem?_cons_succ, List.getElem?_cons_zero]; rfl
            case hQx6_2_2 => exact fun _ _ _ h => h
            case hwx6_2_2 => rfl
            case hyx6_2_2 => intro w hSw; have hw1 := HW1.out; have hw2 := HW2.out; (try dsimp only at hSw); (first | (go_simp; done) | (go_simp; with_reducible rfl))
            try simp only [Act.put, List.setIfInBounds_toArray, List.set_cons_zero, List.set_cons_succ]
            refine wpAnyH_take (i := 3) (oi := ?oix6_3_3) (v := ?vx6_3_3) ?hix6_3_3 (by kernel_rfl) (by kernel_rfl) (by kernel_rfl) ?hQx6_3_3 (Or.inl ⟨?hwx6_3_3, ?hyx6_3_3⟩) (by assumption) ?_
            case hix6_3_3 => simp only [List.getElem?_toArray, List.getElem?_cons_succ, List.getElem?_cons_zero]; rfl
            case hQx6_3_3 => exact fun _ _ _ h => h
            case hwx6_3_3 => rfl
            case hyx6_3_3 => intro w hSw; have hw1 := HW1.out; have hw2 := HW2.out; (try dsimp only at hSw); (first | (go_simp; done) | (go_simp; with_reducible rfl))
            try simp only [Act.put, List.setIfInBounds_toArray, List.set_cons_zero, List.set_cons_succ]
            refine wpAnyH_take (i := 4) (oi := ?oix6_4_4) (v := ?vx6_4_4) ?hix6_4_4 (by kernel_rfl) (by kernel_rfl) (by kernel_rfl) ?hQx6_4_4 (Or.inl ⟨?hwx6_4_4, ?hyx6_4_4⟩) (by assumption) ?_
            case hix6_4_4 => simp only [List.getElem?_toArray, List.getElem?_cons_succ, List.getElem?_cons_zero]; rfl
            case hQx6_4_4 => exact fun _ _ _ h => h
            case hwx6_4_4 => rfl
            case hyx6_4_4 => intro w hSw; have hw1 := HW1.out; have hw2 := HW2.out; (try dsimp only at hSw); (first | (go_simp; done) | (go_simp; with_reducible rfl))
            try simp only [Act.put, List.setIfInBounds_toArray, List.set_cons_zero, List.set_cons_succ]
            refine wpAnyH_take (i := 6) (oi := ?oix6_6_5) (v := ?vx6_6_5) ?hix6_6_5 (by kernel_rfl) (by kernel_rfl) (by kernel_rfl) ?hQx6_6_5 (Or.inl ⟨?hwx6_6_5, ?hyx6_6_5⟩) (by assumption) ?_
            case hix6_6_5 => simp only [List.getElem?_toArray, List.getElem?_cons_succ, List.getElem?_cons_zero]; rfl
            case hQx6_6_5 => exact fun _ _ _ h => h
            case hwx6_6_5 => rfl
            case hyx6_6_5 => intro w hSw; have hw1 := HW1.out; have hw2 := HW2.out; (try dsimp only at hSw); (first | (go_simp; done) | (go_simp; with_reducible rfl))
            try simp only [Act.put, List.setIfInBounds_toArray, List.set_cons_zero, List.set_cons_succ]
            refine wpAnyH_take (i := 7) (oi := ?oix6_7_6) (v := ?vx6_7_6) ?hix6_7_6 (by kernel_rfl) (by kernel_rfl) (by kernel_rfl) ?hQx6_7_6 (Or.inl ⟨?hwx6_7_6, ?hyx6_7_6⟩) (by assumption) ?_
            case hix6_7_6 => simp only [List.getElem?_toArray, List.getElem?_cons_succ, List.getElem?_cons_zero]; rfl
            case hQx6_7_6 => exact fun _ _ _ h => h
            case hwx6_7_6 => rfl
            case hyx6_7_6 => intro w hSw; have hw1 := HW1.out; have hw2 := HW2.out; (try dsimp only at hSw); (first | (go_simp; done) | (go_simp; with_reducible rfl))
            try simp only [Act.put, List.setIfInBounds_toArray, List.set_cons_zero, List.set_cons_succ]
            refine wpAnyH_take (i := 8) (oi := ?oix6_8_7) (v := ?vx6_8_7) ?hix6_8_7 (by kernel_rfl) (by kernel_rfl) (by kernel_rfl) ?hQx6_8_7 (Or.inl ⟨?hwx6_8_7, ?hyx6_8_7⟩) (by assumption) ?_
            case hix6_8_7 => simp only [List.getElem?_toArray, List.getElem?_cons_succ, List.getElem?_cons_zero]; rfl
            case hQx6_8_7 => exact fun _ _ _ h => h
            case hwx6_8_7 => rfl
            case hyx6_8_7 => intro w hSw; have hw1 := HW1.out; have hw2 := HW2.out; (try dsimp only at hSw); (first | (go_simp; done) | (go_simp; with_reducible rfl))
            try simp only [Act.put, List.setIfInBounds_toArray, List.set_cons_zero, List.set_cons_succ]
            refine wpAnyH_take (i := 9) (oi := ?oix6_9_8) (v := ?vx6_9_8) ?hix6_9_8 (by kernel_rfl) (by kernel_rfl) (by kernel_rfl) ?hQx6_9_8 (Or.inl ⟨?hwx6_9_8, ?hyx6_9_8⟩) (by assumption) ?_
            case hix6_9_8 => simp only [List.getElem?_toArray, List.getElem?_cons_succ, List.getElem?_cons_zero]; rfl
            case hQx6_9_8 => exact fun _ _ _ h => h
            case hwx6_9_8 => rfl
            case hyx6_9_8 => intro w hSw; have hw1 := HW1.out; have hw2 := HW2.out; (try dsimp only at hSw); (first | (go_simp; done) | (go_simp; with_reducible rfl))
            try simp only [Act.put, List.setIfInBounds_toArray, List.set_cons_zero, List.set_cons_succ]
            refine wpAnyH_take (i := 10) (oi := ?oix6_10_9) (v := ?vx6_10_9) ?hix6_10_9 (by kernel_rfl) (by kernel_rfl) (by kernel_rfl) ?hQx6_10_9 (Or.inl ⟨?hwx6_10_9, ?hyx6_10_9⟩) (by assumption) ?_
            case hix6_10_9 => simp only [List.getElem?_toArray, List.getElem?_cons_succ, List.getElem?_cons_zero]; rfl
            case hQx6_10_9 => exact fun _ _ _ h => h
            case hwx6_10_9 => rfl
            case hyx6_10_9 => intro w hSw; have hw1 := HW1.out; have hw2 := HW2.out; (try dsimp only at hSw); (first | (go_simp; done) | (go_simp; with_reducible rfl))
            try simp only [Act.put, List.setIfInBounds_toArray, List.set_cons_zero, List.set_cons_succ]
            refine wpAnyH_ready (rs := [0]) (by kernel_rfl) (by simp) ?_
            refine AllReadyH.cons (o := ?ox6_0_10) ?hix6_0_10 (fun K hK => ?gx6_0_10) AllReadyH.nil
            case hix6_0_10 => simp only [List.getElem?_toArray, List.getElem?_cons_zero]; rfl
            case gx6_0_10 =>
              go_simp
              obtain ⟨w7, hw7⟩ : ∃ y, y = w6.alloc (.cells #[] 30) := ⟨_, rfl⟩
              have o_R0 : (w6.alloc (.cells #[] 30)).ownsRow w5.heap.size 30 3 (.slice (some ⟨w6.heap.size, 0, none⟩) 0 0) 0 (many []) := own_base (own_emp w6) HN.size
              rw [← hw7] at o_R0 ⊢
              have bw7 : Below w6.heap.size w6 w7 := hw7 ▸ (Below.refl _ _).alloc (Nat.le_refl _) _
              clear hw7
              replace HN := HN.trans (bw7.mono HN.size)
              replace o_p := owns_below o_p bw7
              replace o_r := owns_below o_r bw7
              replace o_o := owns_below o_o bw7
              replace HB := HB.trans (bw7.mono HB.size)
              have zw7 := bw7.size
              refine hK.out _ _ ?_ (fun hHeld => ?_)
              · exact ⟨var_load o_p (by simp) 0 _ rfl, var_load o_p (by simp) 1 _ rfl, var_load o_p (by simp) 2 _ rfl⟩
              clear hK K
              try simp only [Act.put, List.setIfInBounds_toArray, List.set_cons_zero, List.set_cons_succ]
              refine wpAnyH_ready (rs := [5]) (by kernel_rfl) (by simp) ?_
              refine AllReadyH.cons (o := ?ox6_5_11) ?hix6_5_11 (fun K hK => ?gx6_5_11) AllReadyH.nil
              case hix6_5_11 => simp only [List.getElem?_toArray, List.getElem?_cons_succ, List.getElem?_cons_zero]; rfl
              case gx6_5_11 =>
                refine stepC w7 rfl (.tmp 25) (.tmp 29) rfl (w5.heap.size) (.slice (some ⟨w6.heap.size, 0, none⟩) 0 0) (0) _ (by simp [Act.eval]) o_R0 _ (some ⟨gb, off, none⟩) (k) (c) (xs.take k) (by simp [Act.eval]) (rd_take3 (HR.out _ HB) (by omega)) (by omega) HN.size ?_
                intro vw8 w8 o_R5 gw8 kw8
                have Tw8 := turned_grown gw8
                have Qw8 : ∀ b, b ∈ Option.toList (Value.ownBlock (.slice (some ⟨w6.heap.size, 0, none⟩) 0 0)) → w5.heap.size ≤ b := fun b hb => (o_R0.lt b (by simpa using hb)).1
                replace o_p := owns_turned o_p Tw8 (fun b hb hb2 => by have h1 := Qw8 b hb2; simp at hb; omega)
                replace o_r := owns_turned o_r Tw8 (fun b hb hb2 => by have h1 := Qw8 b hb2; simp at hb; omega)
                replace o_o := owns_turned o_o Tw8 (fun b hb hb2 => by have h1 := Qw8 b hb2; simp at hb; omega)
                replace HN := HN.grown gw8 HN.size (fun j hj => (o_R0.lt j hj).1)
                replace HB := below_turned HB Tw8 (fun b hb => by have h1 := Qw8 b hb; omega)
                have zw8 := gw8.size
                rw [Nat.zero_add, List.nil_append] at o_R5
                obtain ⟨A5, c5, rfl⟩ := own_nil_form o_R5
                clear o_R0 kw8 gw8
                refine hK.out _ _ ?_ (fun hHeld => ?_)
                · exact ⟨var_load o_p (by simp) 0 _ rfl, var_load o_p (by simp) 1 _ rfl, var_load o_p (by simp) 2 _ rfl⟩
                clear hK K
                try simp only [Act.put, List.setIfInBounds_toArray, List.set_cons_zero, List.set_cons_succ]
                refine wpAnyH_ready (rs := [11]) (by kernel_rfl) (by simp) ?_
                refine AllReadyH.cons (o := ?ox6_11_12) ?hix6_11_12 (fun K hK => ?gx6_11_12) AllReadyH.nil
                case hix6_11_12 => simp only [List.getElem?_toArray, List.getElem?_cons_succ, List.getElem?_cons_zero]; rfl
                case gx6_11_12 =>
                  refine stepC w8 rfl (.tmp 30) (.tmp 35) rfl (w5.heap.size) (.slice A5 (k) c5) (k) _ (by simp [Act.eval]) o_R5 _ (some ⟨gb, off + (k + 1) * 3, none⟩) (n - (k + 1)) (c - (k + 1)) (xs.drop (k + 1)) (by simp [Act.eval]) (rd_drop3 (HR.out _ HB) (by omega)) (by omega) HN.size ?_
                  intro vw9 w9 o_R11 gw9 kw9
                  have Tw9 := turned_grown gw9
                  have Qw9 : ∀ b, b ∈ Option.toList (Value.ownBlock (.slice A5 (k) c5)) → w5.heap.size ≤ b := fun b hb => (o_R5.lt b (by simpa using hb)).1
                  replace o_p := owns_turned o_p Tw9 (fun b hb hb2 => by have h1 := Qw9 b hb2; simp at hb; omega)
                  replace o_r := owns_turned o_r Tw9 (fun b hb hb2 => by have h1 := Qw9 b hb2; simp at hb; omega)
                  replace o_o := owns_turned o_o Tw9 (fun b hb hb2 => by have h1 := Qw9 b hb2; simp at hb; omega)
                  replace HN := HN.grown gw9 HN.size (fun j hj => (o_R5.lt j hj).1)
                  replace HB := below_turned HB Tw9 (fun b hb => by have h1 := Qw9 b hb; omega)
                  have zw9 := gw9.size
                  obtain ⟨A11, c11, rfl⟩ := own_nil_form o_R11
                  clear o_R5 kw9 gw9
                  refine hK.out _ _ ?_ (fun hHeld => ?_)
                  · exact ⟨var_load o_p (by simp) 0 _ rfl, var_load o_p (by simp) 1 _ rfl, var_load o_p (by simp) 2 _ rfl⟩
                  clear hK K
                  try simp only [Act.put, List.setIfInBounds_toArray, List.set_cons_zero, List.set_cons_succ]
                  refine wpAnyH_take (i := 12) (oi := ?oix6_12_13) (v := ?vx6_12_13) ?hix6_12_13 (by kernel_rfl) (by kernel_rfl) (by kernel_rfl) ?hQx6_12_13 (Or.inl ⟨?hwx6_12_13, ?hyx6_12_13⟩) (by assumption) ?_
                  case hix6_12_13 => simp only [List.getElem?_toArray, List.getElem?_cons_succ, List.getElem?_cons_zero]; rfl
                  case hQx6_12_13 => exact fun _ _ _ h => h
                  case hwx6_12_13 => rfl
                  case hyx6_12_13 => intro w hSw; have hw1 := HW1.out; have hw2 := HW2.out; (try dsimp only at hSw); (first | (go_simp; done) | (go_simp; with_reducible rfl))
                  try simp only [Act.put, List.setIfInBounds_toArray, List.set_cons_zero, List.set_cons_succ]
                  refine wpAnyH_ready (rs := [13]) (by kernel_rfl) (by simp) ?_
                  refine AllReadyH.cons (o := ?ox6_13_14) ?hix6_13_14 (fun K hK => ?gx6_13_14) AllReadyH.nil
                  case hix6_13_14 => simp only [List.getElem?_toArray, List.getElem?_cons_succ, List.getElem?_cons_zero]; rfl
                  case gx6_13_14 =>
                    obtain ⟨c_p0, f_p0, c_p1, f_p1, c_p2, f_p2, l_p⟩ := Vn.v3 o_p
                    obtain ⟨c_r0, f_r0, c_r1, f_r1, c_r2, f_r2, l_r⟩ := Vn.v3 o_r
                    obtain ⟨c_o0, f_o0, c_o1, f_o1, c_o2, f_o2, l_o⟩ := Vn.v3 o_o
                    go_simp
                    clear c_p0 f_p0 c_p1 f_p1 c_p2 f_p2 l_p c_r0 f_r0 c_r1 f_r1 c_r2 f_r2 l_r c_o0 f_o0 c_o1 f_o1 c_o2 f_o2 l_o
                    obtain ⟨w10, hw10⟩ : ∃ y, y = (w9.setCell ⟨w4.heap.size, 2, none⟩ (.slice A11 (k + (n - (k + 1))) c11)) := ⟨_, rfl⟩
                    obtain ⟨o_new, tw10⟩ := var_some [.slice A11 (k + (n - (k + 1))) c11] 2 _ _ o_o (by simp)
                    rw [show setAll w9 (w4.heap.size) 2 [.slice A11 (k + (n - (k + 1))) c11] = w10 from hw10.symm] at o_new tw10
                    replace o_o : Owns w10 _ (varD 26 3 [.int .i64 b.Seed, .int .i64 b.Next, .slice A11 (k + (n - (k + 1))) c11]) _ _ := o_new
                    clear o_new
                    replace o_p := owns_turned o_p tw10 (fun b hb hb2 => by simp at hb hb2; omega)
                    replace o_r := owns_turned o_r tw10 (fun b hb hb2 => by simp at hb hb2; omega)
                    replace HB := below_turned HB tw10 (fun b hb => by simp at hb; omega)
                    have zw10 := tw10.2.2.2.1
                    rw [← hw10]
                    clear hw10
                    replace o_R11 := many_turned o_R11 tw10 (fun b hb hb2 => by have h1 := (o_R11.lt b (by simpa using hb)).1; simp at hb2; omega)
                    refine hK.out _ _ ?_ (fun hHeld => ?_)
                    · exact ⟨var_load o_p (by simp) 0 _ rfl, var_load o_p (by simp) 1 _ rfl, var_load o_p (by simp) 2 _ rfl⟩
                    clear hK K
                    try simp only [Act.put, List.setIfInBounds_toArray, List.set_cons_zero, List.set_cons_succ]
                    refine wpAnyH_done (by kernel_rfl) ?_ _
                    have i_z0 := Fx.made_in (owns_many o_R11)
                    have o_z := owns_many (own_base o_R11 (show w.heap.size ≤ w5.heap.size by omega))
                    have i_z := i_z0
                    clear i_z0 o_R11
                    obtain ⟨c_p0, f_p0, c_p1, f_p1, c_p2, f_p2, l_p⟩ := Vn.v3 o_p
                    obtain ⟨c_r0, f_r0, c_r1, f_r1, c_r2, f_r2, l_r⟩ := Vn.v3 o_r
                    obtain ⟨c_o0, f_o0, c_o1, f_o1, c_o2, f_o2, l_o⟩ := Vn.v3 o_o
                    go_wp2_with fail
                    clear c_p0 f_p0 c_p1 f_p1 c_p2 f_p2 l_p c_r0 f_r0 c_r1 f_r1 c_r2 f_r2 l_r c_o0 f_o0 c_o1 f_o1 c_o2 f_o2 l_o
                    obtain ⟨w11, hw11⟩ : ∃ y, y = w10.drew := ⟨_, rfl⟩
                    have bw11 : Below w10.heap.size w10 w11 := hw11 ▸ drewN_below w10 1 _
                    replace o_p := owns_below o_p bw11
                    replace o_r := owns_below o_r bw11
                    replace o_o := owns_below o_o bw11
                    replace o_z := owns_below o_z bw11
                    replace HB := HB.trans (bw11.mono HB.size)
                    have zw11 := bw11.size
                    refine wp_region_held_drew (S := (fun (wx : World) => wx.cell? ⟨w.heap.size, 0, none⟩ = some (.int .i64 b.Seed) ∧ wx.cell? ⟨w.heap.size, 1, none⟩ = some (.int .i64 b.Next) ∧ wx.cell? ⟨w.heap.size, 2, none⟩ = some (.slice (some ⟨gb, off, none⟩) n c) ∧ wx.cell? ⟨w4.heap.size, 0, none⟩ = some (.int .i64 b.Seed) ∧ wx.cell? ⟨w4.heap.size, 1, none⟩ = some (.int .i64 b.Next) ∧ wx.cell? ⟨w4.heap.size, 2, none⟩ = some (.slice A11 (k + (n - (k + 1))) c11) ∧ wx.cell? ⟨gb, off + k * 3 + 1, none⟩ = some (.int .i64 y.Account) ∧ wx.cell? ⟨gb, off + k * 3 + 2, none⟩ = some (.int .i64 y.Until))) (by kernel_rfl) ?_ (fun hHeld => ?_)
                    · rw [← hw11]; exact ⟨var_load o_p (by simp) 0 _ rfl, var_load o_p (by simp) 1 _ rfl, var_load o_p (by simp) 2 _ rfl, var_load o_o (by simp) 0 _ rfl, var_load o_o (by simp) 1 _ rfl, var_load o_o (by simp) 2 _ rfl, (EC.out _ HB).1, (EC.out _ HB).2⟩
                    rw [← hw11] at hHeld ⊢
                    clear hw11
                    refine wpAnyH_take (i := 0) (oi := ?oiy6_0_1) (v := ?vy6_0_1) ?hiy6_0_1 (by kernel_rfl) (by kernel_rfl) (by kernel_rfl) ?hQy6_0_1 (Or.inl ⟨?hwy6_0_1, ?hyy6_0_1⟩) (by assumption) ?_
                    case hiy6_0_1 => simp only [List.getElem?_toArray, List.getElem?_cons_zero]; rfl
                    case hQy6_0_1 => exact fun _ _ _ h => h
                    case hwy6_0_1 => rfl
                    case hyy6_0_1 => intro w hSw; (try dsimp only at hSw); (first | (go_simp; done) | (go_simp; with_reducible rfl))
                    try simp only [Act.put, List.setIfInBounds_toArray, List.set_cons_zero, List.set_cons_succ]
                    refine wpAnyH_take (i := 1) (oi := ?oiy6_1_2) (v := ?vy6_1_2) ?hiy6_1_2 (by kernel_rfl) (by kernel_rfl) (by kernel_rfl) ?hQy6_1_2 (Or.inl ⟨?hwy6_1_2, ?hyy6_1_2⟩) (by assumption) ?_
                    case hiy6_1_2 => simp only [List.getElem?_toArray, List.getElem?_cons_succ, List.getElem?_cons_zero]; rfl
                    case hQy6_1_2 => exact fun _ _ _ h => h
                    case hwy6_1_2 => rfl
                    case hyy6_1_2 => intro w hSw; (try dsimp only at hSw); (first | (go_simp; done) | (go_simp; with_reducible rfl))
                    try simp only [Act.put, List.setIfInBounds_toArray, List.set_cons_zero, List.set_cons_succ]
                    refine wpAnyH_take (i := 2) (oi := ?oiy6_2_3) (v := ?vy6_2_3) ?hiy6_2_3 (by kernel_rfl) (by kernel_rfl) (by kernel_rfl) ?hQy6_2_3 (Or.inl ⟨?hwy6_2_3, ?hyy6_2_3⟩) (by assumption) ?_
                    case hiy6_2_3 => simp only [List.getElem?_toArray, List.getElem?_cons_succ, List.getElem?_cons_zero]; rfl
                    case hQy6_2_3 => exact fun _ _ _ h => h
                    case hwy6_2_3 => rfl
                    case hyy6_2_3 => intro w hSw; (try dsimp only at hSw); (first | (go_simp; done) | (go_simp; with_reducible rfl))
                    try simp only [Act.put, List.setIfInBounds_toArray, List.set_cons_zero, List.set_cons_succ]
                    refine wpAnyH_take (i := 3) (oi := ?oiy6_3_4) (v := ?vy6_3_4) ?hiy6_3_4 (by kernel_rfl) (by kernel_rfl) (by kernel_rfl) ?hQy6_3_4 (Or.inl ⟨?hwy6_3_4, ?hyy6_3_4⟩) (by assumption) ?_
                    case hiy6_3_4 => simp only [List.getElem?_toArray, List.getElem?_cons_succ, List.getElem?_cons_zero]; rfl
                    case hQy6_3_4 => exact fun _ _ _ h => h
                    case hwy6_3_4 => rfl
                    case hyy6_3_4 => intro w hSw; (try dsimp only at hSw); (first | (go_simp; done) | (go_simp; with_reducible rfl))
                    try simp only [Act.put, List.setIfInBounds_toArray, List.set_cons_zero, List.set_cons_succ]
                    refine wpAnyH_take (i := 4) (oi := ?oiy6_4_5) (v := ?vy6_4_5) ?hiy6_4_5 (by kernel_rfl) (by kernel_rfl) (by kernel_rfl) ?hQy6_4_5 (Or.inl ⟨?hwy6_4_5, ?hyy6_4_5⟩) (by assumption) ?_
                    case hiy6_4_5 => simp only [List.getElem?_toArray, List.getElem?_cons_succ, List.getElem?_cons_zero]; rfl
                    case hQy6_4_5 => exact fun _ _ _ h => h
                    case hwy6_4_5 => rfl
                    case hyy6_4_5 => intro w hSw; (try dsimp only at hSw); (first | (go_simp; done) | (go_simp; with_reducible rfl))
                    try simp only [Act.put, List.setIfInBounds_toArray, List.set_cons_zero, List.set_cons_succ]
                    refine wpAnyH_take (i := 5) (oi := ?oiy6_5_6) (v := ?vy6_5_6) ?hiy6_5_6 (by kernel_rfl) (by kernel_rfl) (by kernel_rfl) ?hQy6_5_6 (Or.inl ⟨?hwy6_5_6, ?hyy6_5_6⟩) (by assumption) ?_
                    case hiy6_5_6 => simp only [List.getElem?_toArray, List.getElem?_cons_succ, List.getElem?_cons_zero]; rfl
                    case hQy6_5_6 => exact fun _ _ _ h => h
                    case hwy6_5_6 => rfl
                    case hyy6_5_6 => intro w hSw; (try dsimp only at hSw); (first | (go_simp; done) | (go_simp; with_reducible rfl))
                    try simp only [Act.put, List.setIfInBounds_toArray, List.set_cons_zero, List.set_cons_succ]
                    refine wpAnyH_take (i := 6) (oi := ?oiy6_6_7) (v := ?vy6_6_7) ?hiy6_6_7 (by kernel_rfl) (by kernel_rfl) (by kernel_rfl) ?hQy6_6_7 (Or.inl ⟨?hwy6_6_7, ?hyy6_6_7⟩) (by assumption) ?_
                    case hiy6_6_7 => simp only [List.getElem?_toArray, List.getElem?_cons_succ, List.getElem?_cons_zero]; rfl
                    case hQy6_6_7 => exact fun _ _ _ h => h
                    case hwy6_6_7 => rfl
                    case hyy6_6_7 => intro w hSw; (try dsimp only at hSw); (first | (go_simp; done) | (go_simp; with_reducible rfl))
                    try simp only [Act.put, List.setIfInBounds_toArray, List.set_cons_zero, List.set_cons_succ]
                    refine wpAnyH_take (i := 7) (oi := ?oiy6_7_8) (v := ?vy6_7_8) ?hiy6_7_8 (by kernel_rfl) (by kernel_rfl) (by kernel_rfl) ?hQy6_7_8 (Or.inl ⟨?hwy6_7_8, ?hyy6_7_8⟩) (by assumption) ?_
                    case hiy6_7_8 => simp only [List.getElem?_toArray, List.getElem?_cons_succ, List.getElem?_cons_zero]; rfl
                    case hQy6_7_8 => exact fun _ _ _ h => h
                    case hwy6_7_8 => rfl
                    case hyy6_7_8 => intro w hSw; (try dsimp only at hSw); (first | (go_simp; done) | (go_simp; with_reducible rfl))
                    try simp only [Act.put, List.setIfInBounds_toArray, List.set_cons_zero, List.set_cons_succ]
                    refine wpAnyH_take (i := 8) (oi := ?oiy6_8_9) (v := ?vy6_8_9) ?hiy6_8_9 (by kernel_rfl) (by kernel_rfl) (by kernel_rfl) ?hQy6_8_9 (Or.inl ⟨?hwy6_8_9, ?hyy6_8_9⟩) (by assumption) ?_
                    case hiy6_8_9 => simp only [List.getElem?_toArray, List.getElem?_cons_succ, List.getElem?_cons_zero]; rfl
                    case hQy6_8_9 => exact fun _ _ _ h => h
                    case hwy6_8_9 => rfl
                    case hyy6_8_9 => intro w hSw; (try dsimp only at hSw); (first | (go_simp; done) | (go_simp; with_reducible rfl))
                    try simp only [Act.put, List.setIfInBounds_toArray, List.set_cons_zero, List.set_cons_succ]
                    refine wpAnyH_take (i := 9) (oi := ?oiy6_9_10) (v := ?vy6_9_10) ?hiy6_9_10 (by kernel_rfl) (by kernel_rfl) (by kernel_rfl) ?hQy6_9_10 (Or.inl ⟨?hwy6_9_10, ?hyy6_9_10⟩) (by assumption) ?_
                    case hiy6_9_10 => simp only [List.getElem?_toArray, List.getElem?_cons_succ, List.getElem?_cons_zero]; rfl
                    case hQy6_9_10 => exact fun _ _ _ h => h
                    case hwy6_9_10 => rfl
                    case hyy6_9_10 => intro w hSw; (try dsimp only at hSw); (first | (go_simp; done) | (go_simp; with_reducible rfl))
                    try simp only [Act.put, List.setIfInBounds_toArray, List.set_cons_zero, List.set_cons_succ]
                    refine wpAnyH_take (i := 10) (oi := ?oiy6_10_11) (v := undef) ?hiy6_10_11 (by kernel_rfl) (by kernel_rfl) (by kernel_rfl) ?hQy6_10_11 (Or.inr ⟨?hwy6_10_11, rfl⟩) (by assumption) ?_
                    case hiy6_10_11 => simp only [List.getElem?_toArray, List.getElem?_cons_succ, List.getElem?_cons_zero]; rfl
                    case hQy6_10_11 => exact fun _ _ _ h => h
                    case hwy6_10_11 => rfl
                    try simp only [Act.put, List.setIfInBounds_toArray, List.set_cons_zero, List.set_cons_succ]
                    refine wpAnyH_take (i := 11) (oi := ?oiy6_11_12) (v := undef) ?hiy6_11_12 (by kernel_rfl) (by kernel_rfl) (by kernel_rfl) ?hQy6_11_12 (Or.inr ⟨?hwy6_11_12, rfl⟩) (by assumption) ?_
                    case hiy6_11_12 => simp only [List.getElem?_toArray, List.getElem?_cons_succ, List.getElem?_cons_zero]; rfl
                    case hQy6_11_12 => exact fun _ _ _ h => h
                    case hwy6_11_12 => rfl
                    try simp only [Act.put, List.setIfInBounds_toArray, List.set_cons_zero, List.set_cons_succ]
                    refine wpAnyH_take (i := 12) (oi := ?oiy6_12_13) (v := undef) ?hiy6_12_13 (by kernel_rfl) (by kernel_rfl) (by kernel_rfl) ?hQy6_12_13 (Or.inr ⟨?hwy6_12_13, rfl⟩) (by assumption) ?_
                    case hiy6_12_13 => simp only [List.getElem?_toArray, List.getElem?_cons_succ, List.getElem?_cons_zero]; rfl
                    case hQy6_12_13 => exact fun _ _ _ h => h
                    case hwy6_12_13 => rfl
                    try simp only [Act.put, List.setIfInBounds_toArray, List.set_cons_zero, List.set_cons_succ]
                    refine wpAnyH_take (i := 13) (oi := ?oiy6_13_14) (v := undef) ?hiy6_13_14 (by kernel_rfl) (by kernel_rfl) (by kernel_rfl) ?hQy6_13_14 (Or.inr ⟨?hwy6_13_14, rfl⟩) (by assumption) ?_
                    case hiy6_13_14 => simp only [List.getElem?_toArray, List.getElem?_cons_succ, List.getElem?_cons_zero]; rfl
                    case hQy6_13_14 => exact fun _ _ _ h => h
                    case hwy6_13_14 => rfl
                    try simp only [Act.put, List.setIfInBounds_toArray, List.set_cons_zero, List.set_cons_succ]
                    refine wpAnyH_take (i := 14) (oi := ?oiy6_14_15) (v := undef) ?hiy6_14_15 (by kernel_rfl) (by kernel_rfl) (by kernel_rfl) ?hQy6_14_15 (Or.inr ⟨?hwy6_14_15, rfl⟩) (by assumption) ?_
                    case hiy6_14_15 => simp only [List.getElem?_toArray, List.getElem?_cons_succ, List.getElem?_cons_zero]; rfl
                    case hQy6_14_15 => exact fun _ _ _ h => h
                    case hwy6_14_15 => rfl
                    try simp only [Act.put, List.setIfInBounds_toArray, List.set_cons_zero, List.set_cons_succ]
                    refine wpAnyH_take (i := 15) (oi := ?oiy6_15_16) (v := undef) ?hiy6_15_16 (by kernel_rfl) (by kernel_rfl) (by kernel_rfl) ?hQy6_15_16 (Or.inr ⟨?hwy6_15_16, rfl⟩) (by assumption) ?_
                    case hiy6_15_16 => simp only [List.getElem?_toArray, List.getElem?_cons_succ, List.getElem?_cons_zero]; rfl
                    case hQy6_15_16 => exact fun _ _ _ h => h
                    case hwy6_15_16 => rfl
                    try simp only [Act.put, List.setIfInBounds_toArray, List.set_cons_zero, List.set_cons_succ]
                    refine wpAnyH_take (i := 16) (oi := ?oiy6_16_17) (v := undef) ?hiy6_16_17 (by kernel_rfl) (by kernel_rfl) (by kernel_rfl) ?hQy6_16_17 (Or.inr ⟨?hwy6_16_17, rfl⟩) (by assumption) ?_
                    case hiy6_16_17 => simp only [List.getElem?_toArray, List.getElem?_cons_succ, List.getElem?_cons_zero]; rfl
                    case hQy6_16_17 => exact fun _ _ _ h => h
                    case hwy6_16_17 => rfl
                    try simp only [Act.put, List.setIfInBounds_toArray, List.set_cons_zero, List.set_cons_succ]
                    refine wpAnyH_take (i := 17) (oi := ?oiy6_17_18) (v := undef) ?hiy6_17_18 (by kernel_rfl) (by kernel_rfl) (by kernel_rfl) ?hQy6_17_18 (Or.inr ⟨?hwy6_17_18, rfl⟩) (by assumption) ?_
                    case hiy6_17_18 => simp only [List.getElem?_toArray, List.getElem?_cons_succ, List.getElem?_cons_zero]; rfl
                    case hQy6_17_18 => exact fun _ _ _ h => h
                    case hwy6_17_18 => rfl
                    try simp only [Act.put, List.setIfInBounds_toArray, List.set_cons_zero, List.set_cons_succ]
                    refine wpAnyH_take (i := 18) (oi := ?oiy6_18_19) (v := ?vy6_18_19) ?hiy6_18_19 (by kernel_rfl) (by kernel_rfl) (by kernel_rfl) ?hQy6_18_19 (Or.inl ⟨?hwy6_18_19, ?hyy6_18_19⟩) (by assumption) ?_
                    case hiy6_18_19 => simp only [List.getElem?_toArray, List.getElem?_cons_succ, List.getElem?_cons_zero]; rfl
                    case hQy6_18_19 => exact fun _ _ _ h => h
                    case hwy6_18_19 => rfl
                    case hyy6_18_19 => intro w hSw; (try dsimp only at hSw); (first | (go_simp; done) | (go_simp; with_reducible rfl))
                    try simp only [Act.put, List.setIfInBounds_toArray, List.set_cons_zero, List.set_cons_succ]
                    refine wpAnyH_ready (rs := [19]) (by kernel_rfl) (by simp) ?_
                    refine AllReadyH.cons (o := ?oy6_19_20) ?hiy6_19_20 (fun K hK => ?gy6_19_20) AllReadyH.nil
                    case hiy6_19_20 => simp only [List.getElem?_toArray, List.getElem?_cons_succ, List.getElem?_cons_zero]; rfl
                    case gy6_19_20 =>
                      obtain ⟨c_p0, f_p0, c_p1, f_p1, c_p2, f_p2, l_p⟩ := Vn.v3 o_p
                      obtain ⟨c_r0, f_r0, c_r1, f_r1, c_r2, f_r2, l_r⟩ := Vn.v3 o_r
                      obtain ⟨c_o0, f_o0, c_o1, f_o1, c_o2, f_o2, l_o⟩ := Vn.v3 o_o
                      go_simp
                      clear c_p0 f_p0 c_p1 f_p1 c_p2 f_p2 l_p c_r0 f_r0 c_r1 f_r1 c_r2 f_r2 l_r c_o0 f_o0 c_o1 f_o1 c_o2 f_o2 l_o
                      obtain ⟨w12, hw12⟩ : ∃ y, y = (((w11.setCell ⟨(w.heap.size + 1), 0, none⟩ (.int .i64 b.Seed)).setCell ⟨(w.heap.size + 1), 1, none⟩ (.int .i64 b.Next)).setCell ⟨(w.heap.size + 1), 2, none⟩ (.slice A11 (k + (n - (k + 1))) c11)) := ⟨_, rfl⟩
                      obtain ⟨o_new, tw12⟩ := var_some [.int .i64 b.Seed, .int .i64 b.Next, .slice A11 (k + (n - (k + 1))) c11] 0 _ _ o_r (by simp)
                      rw [show setAll w11 ((w.heap.size + 1)) 0 [.int .i64 b.Seed, .int .i64 b.Next, .slice A11 (k + (n - (k + 1))) c11] = w12 from hw12.symm] at o_new tw12
                      replace o_r : Owns w12 _ (varD 26 3 [.int .i64 b.Seed, .int .i64 b.Next, .slice A11 (k + (n - (k + 1))) c11]) _ _ := o_new
                      clear o_new
                      replace o_p := owns_turned o_p tw12 (fun b hb hb2 => by simp at hb hb2; omega)
                      replace o_o := owns_turned o_o tw12 (fun b hb hb2 => by simp at hb hb2; omega)
                      replace o_z := owns_turned o_z tw12 (fun b hb hb2 => by have h1 := i_z b hb; simp at hb2; omega)
                      replace HB := below_turned HB tw12 (fun b hb => by simp at hb; omega)
                      have zw12 := tw12.2.2.2.1
                      rw [← hw12]
                      clear hw12
                      refine hK.out _ _ ?_ (fun hHeld => ?_)
                      · exact ⟨var_load o_p (by simp) 0 _ rfl, var_load o_p (by simp) 1 _ rfl, var_load o_p (by simp) 2 _ rfl, var_load o_o (by simp) 0 _ rfl, var_load o_o (by simp) 1 _ rfl, var_load o_o (by simp) 2 _ rfl, (EC.out _ HB).1, (EC.out _ HB).2⟩
                      clear hK K
                      try simp only [Act.put, List.setIfInBounds_toArray, List.set_cons_zero, List.set_cons_succ]
                      refine wpAnyH_take (i := 20) (oi := ?oiy6_20_21) (v := ?vy6_20_21) ?hiy6_20_21 (by kernel_rfl) (by kernel_rfl) (by kernel_rfl) ?hQy6_20_21 (Or.inl ⟨?hwy6_20_21, ?hyy6_20_21⟩) (by assumption) ?_
                      case hiy6_20_21 => simp only [List.getElem?_toArray, List.getElem?_cons_succ, List.getElem?_cons_zero]; rfl
                      case hQy6_20_21 => exact fun _ _ _ h => h
                      case hwy6_20_21 => rfl
                      case hyy6_20_21 => intro w hSw; (try dsimp only at hSw); (first | (go_simp; done) | (go_simp; with_reducible rfl))
                      try simp only [Act.put, List.setIfInBounds_toArray, List.set_cons_zero, List.set_cons_succ]
                      refine wpAnyH_done (by kernel_rfl) ?_ _
                      go_wp2
                      have y0 : w12.cell? ⟨(w.heap.size + 1), 0, none⟩ = some (.int .i64 b.Seed) := var_load o_r (by simp) 0 _ rfl
                      have y1 : w12.cell? ⟨(w.heap.size + 1), 1, none⟩ = some (.int .i64 b.Next) := var_load o_r (by simp) 1 _ rfl
                      have y2 : w12.cell? ⟨(w.heap.size + 1), 2, none⟩ = some (.slice A11 (k + (n - (k + 1))) c11) := var_load o_r (by simp) 2 _ rfl
                      refine bodyPost_ret (v := .tuple #[.agg #[.int .i64 b.Seed, .int .i64 b.Next, .slice A11 (k + (n - (k + 1))) c11], .bool false]) (by simp [results, Try.results29, go_sem, y0, y1, y2]) rfl ?_
                      exact made_tk (x := ⟨b.Seed, b.Next, xs.take k ++ xs.drop (k + 1)⟩) (by rfl) rfl rfl (by have := HL.out; simp; omega) o_z (Ra.block_nodup _) HB
end Go.Proofs.Ytjkmcnnkifachaa.C12d
