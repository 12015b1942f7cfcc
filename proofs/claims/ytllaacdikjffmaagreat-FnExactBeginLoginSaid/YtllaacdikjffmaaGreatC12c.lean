import Derived.Test.YtllaacdikjffmaaGreatC12b
/-
  Rows of challenges: read, owned, appended to; the model's l12Copy.
-/
namespace Go.Proofs.YtllaacdikjffmaaGreat.C12c
open Go.ChangeShapes Go.WideShapes Go.ChangeAt Go.RowKit
open S0 S1 S9 Dm Fx M3 M8 C3 C6 C12 C12b
set_option linter.unusedVariables false
set_option linter.unusedSimpArgs false
set_option maxRecDepth 100000
def one (x : Fx.Challenge) : List Value := [.int .i64 x.Id, .int .i64 x.Account, .int .i64 x.Until]
def many (l : List Fx.Challenge) : List Value := l.flatMap one
theorem many_app (l k : List Fx.Challenge) : many l ++ many k = many (l ++ k) := by unfold many; rw [List.flatMap_append]
theorem many_len (l : List Fx.Challenge) : (many l).length = l.length * 3 := by
  unfold many
  induction l with
  | nil => rfl
  | cons x l ih => rw [List.flatMap_cons, List.length_append, ih, List.length_cons]; simp [one]; omega
theorem many_one (l : List Fx.Challenge) : ∀ u ∈ many l, u.oneCell' = true := by
  intro u hu
  unfold many at hu
  obtain ⟨x, _, hx⟩ := List.mem_flatMap.1 hu
  unfold one at hx
  simp only [List.mem_cons, List.not_mem_nil, or_false] at hx
  rcases hx with rfl | rfl | rfl <;> rfl
theorem rdsL_many {w : World} {hi : Nat} : ∀ {l : List Fx.Challenge} {vs : List Value}, RdsL w hi (l.flatMap Challenge.dcs) vs → vs = many l
  | [], vs, h => by
    have e : vs = [] := by simpa [RdsL] using h
    rw [e]
    rfl
  | x :: l, vs, h => by
    rw [List.flatMap_cons] at h
    unfold Challenge.dcs at h
    simp only [List.cons_append, List.nil_append, RdsL, Rds] at h
    obtain ⟨_, _, rfl, rfl, _, _, rfl, rfl, _, _, rfl, rfl, h⟩ := h
    rw [rdsL_many h]
    rfl
theorem rd_many {w : World} {hi n c : Nat} {A : Option Addr} {l : List Fx.Challenge} (h : Rds w hi (.row 67 3 n (l.flatMap Challenge.dcs)) (.slice A n c)) : Rd w hi 3 A n (many l) := by
  obtain ⟨A', c', vs, e, hr, hl⟩ := rds_row h
  injection e with e1 _ _
  subst e1
  rw [rdsL_many hl] at hr
  exact hr
theorem ownsL_many {w : World} {lo : Nat} : ∀ (l : List Fx.Challenge), OwnsL w lo (l.flatMap Challenge.dcs) (many l) []
  | [] => by simp [OwnsL, many]
  | x :: l => by
    rw [List.flatMap_cons]
    unfold Challenge.dcs
    simp only [List.cons_append, List.nil_append, OwnsL]
    exact ⟨_, _, [], [], rfl, by simp [Owns], ⟨_, _, [], [], rfl, by simp [Owns], ⟨_, many l, [], [], rfl, by simp [Owns], ownsL_many l, rfl⟩, rfl⟩, rfl⟩
theorem owns_many {w : World} {lo n : Nat} {v : Value} {l : List Fx.Challenge} (h : w.ownsRow lo 67 3 v n (many l)) : Owns w lo (.row 67 3 n (l.flatMap Challenge.dcs)) v v.ownBlock.toList := by
  simp only [Owns]
  exact ⟨_, [], .of h, ownsL_many l, by simp⟩
theorem owns_manyA {w : World} {lo n : Nat} {v : Value} {l : List Fx.Challenge} (h : Ow.At w lo 67 3 v n (many l)) : Owns w lo (.row 67 3 n (l.flatMap Challenge.dcs)) v v.ownBlock.toList := by
  simp only [Owns]
  exact ⟨_, [], h, ownsL_many l, by simp⟩
theorem many_owns {w : World} {lo n : Nat} {v : Value} {l : List Fx.Challenge} {bs : List Nat} (h : Owns w lo (.row 67 3 n (l.flatMap Challenge.dcs)) v bs) : Ow.At w lo 67 3 v n (many l) := by
  obtain ⟨vs, b2, hr, hl, _⟩ := owns_row h
  rw [rdsL_many (ownsL_rds _ _ _ hl)] at hr
  exact hr
theorem chal_info : (Tryz.prog.info? 67).map (fun i => (i.zero, i.size, i.bytes)) = some (some (.agg #[.int .i64 0, .int .i64 0, .int .i64 0]), 3, 24) := by kernel_rfl
theorem appC (w : World) {ops : Array Oper} {rest : List Oper} {o : Oper} {a : Act} {Q : Exit → Act → World → Prop} (hgd : o.guard = none) (s x : Operand)
    (ho : o.op = .call { callee := .builtin .append, args := #[s, x], argTypes := #[31, 31] }) (base : Nat) (v : Value) (n : Nat) (l : List Fx.Challenge) (hs : a.eval s = v) (hown : w.ownsRow base 67 3 v n (many l))
    (B : Nat) (A : Option Addr) (m c : Nat) (k : List Fx.Challenge) (hx : a.eval x = .slice A m c) (hr : Rd w B 3 A m (many k)) (h63 : n + m ≤ 4398046511104) (hbase : base ≤ w.heap.size)
    (h : ∀ v' w', w'.ownsRow base 67 3 v' (n + m) (many (l ++ k)) → w.grownBy w' v.ownBlock → wpList Tryz.prog ops Q rest (a.put o.dst v') w') : wpList Tryz.prog ops Q (o :: rest) a w := by
  obtain ⟨i0, hi, hz0, hz1, hz2⟩ := info_parts chal_info
  exact wpList_app w hgd s x 31 ho base 67 i0 (.agg #[.int .i64 0, .int .i64 0, .int .i64 0]) 3 24 Tryz.underlying31 hi hz0 hz1 hz2 (by simp [Value.cells]) (by decide) v n (many l) hs hown B A m c (many k) hx hr (many_one k) (by unfold maxLen; omega) (by omega) hbase (fun v' w' h1 h2 => h v' w' (by rw [← many_app]; exact h1) h2)
theorem made_cb {w wf : World} {b : Fx.ChallengeBook} {xs : List Fx.Challenge} {n c : Nat} {A : Option Addr} {bs : List Nat} (hx : xs = b.Open) (hn : n = xs.length) (o : Owns wf w.heap.size (.row 67 3 n (xs.flatMap Challenge.dcs)) (.slice A n c) bs) (hd : bs.Nodup) (HB : Below w.heap.size w wf) :
    Bx.MadeL b.dcs w (.returned (.agg #[.int .i64 b.Seed, .int .i64 b.Next, .slice A n c])) wf := by
  subst hx
  subst hn
  exact ⟨_, _, rfl, ChallengeBook.mkO o, hd, HB⟩
theorem far5 {b g a c : Nat} (h1 : b ∈ [a]) (h2 : b ∈ Option.toList (Value.ownBlock (.slice (some ⟨g, 0, none⟩) 0 c))) (h : a ≠ g) : False := by
  have e1 := List.mem_singleton.1 h1
  have e2 : b = g := by simpa [Value.ownBlock] using h2
  exact h (by rw [← e1, e2])
theorem own_emp (w : World) : (w.alloc (.cells #[] 67)).ownsRow w.heap.size 67 3 (.slice (some ⟨w.heap.size, 0, none⟩) 0 0) 0 (many []) := by
  exact w.ownsRow_lit #[] 0 (Nat.le_refl _) (by unfold maxLen; omega) (by simp)
set_option maxHeartbeats 3200000 in
theorem specCopyB (w : World) (b : Fx.ChallengeBook) (us : List Value) (h : RdsL w w.heap.size b.dcs us) (hn : b.Open.length ≤ 16000000) : Calls Tryz.prog 43 #[.agg us.toArray] w (Bx.MadeL b.dcs w) := by
  obtain ⟨A, c, rfl, g⟩ := ChallengeBook.rds h
  clear h
  have hr := rd_many g
  clear g
  obtain ⟨xs, hxs⟩ : ∃ xs, xs = b.Open := ⟨_, rfl⟩
  rw [← hxs] at hr hn ⊢
  obtain ⟨n, hnn⟩ : ∃ n, n = xs.length := ⟨_, rfl⟩
  rw [← hnn] at hr hn ⊢
  have HXS := Lib.hid hxs
  have HL := Lib.hid hnn
  clear hnn hxs
  have HR := Lib.hid (show ∀ wx, Below w.heap.size w wx → Rd wx wx.heap.size 3 A n (many xs) from fun wx hb => hr.on hb)
  clear hr
  go_enter Tryz.func43, Tryz.ntmps43
  obtain ⟨w1, hw1⟩ : ∃ y, y = w.alloc (.cells #[.int .i64 b.Seed, .int .i64 b.Next, .slice A n c] 33) := ⟨_, rfl⟩
  have o_p := var_owns w 33 3 [.int .i64 b.Seed, .int .i64 b.Next, .slice A n c] rfl
  have bw1 : Below w.heap.size w w1 := hw1 ▸ (Below.refl _ _).alloc (Nat.le_refl _) _
  rw [← hw1] at o_p
  have sw1 : w1.heap.size = w.heap.size + 1 := by rw [hw1]; simp
  have zw1 : w.heap.size < w1.heap.size := by rw [hw1]; simp
  have HB := bw1
  obtain ⟨w2, hw2⟩ : ∃ y, y = w1.alloc (.cells #[.int .i64 0, .int .i64 0, .slice none 0 0] 33) := ⟨_, rfl⟩
  have o_r := var_owns w1 33 3 [.int .i64 0, .int .i64 0, .slice none 0 0] rfl
  have bw2 : Below w1.heap.size w1 w2 := hw2 ▸ (Below.refl _ _).alloc (Nat.le_refl _) _
  rw [← hw2] at o_r
  rw [sw1] at o_r
  have sw2 : w2.heap.size = w.heap.size + 1 + 1 := by rw [hw2]; simp [sw1]
  have zw2 : w1.heap.size < w2.heap.size := by rw [hw2]; simp
  replace o_p := owns_below o_p bw2
  replace HB := HB.trans (bw2.mono HB.size)
  obtain ⟨w3, hw3⟩ : ∃ y, y = w2.alloc (.cells #[.int .i64 b.Seed, .int .i64 b.Next, .slice A n c] 33) := ⟨_, rfl⟩
  have o_o := var_owns w2 33 3 [.int .i64 b.Seed, .int .i64 b.Next, .slice A n c] rfl
  have bw3 : Below w2.heap.size w2 w3 := hw3 ▸ (Below.refl _ _).alloc (Nat.le_refl _) _
  rw [← hw3] at o_o
  rw [sw2] at o_o
  have sw3 : w3.heap.size = w.heap.size + 1 + 1 + 1 := by rw [hw3]; simp [sw2]
  have zw3 : w2.heap.size < w3.heap.size := by rw [hw3]; simp
  replace o_p := owns_below o_p bw3
  replace o_r := owns_below o_r bw3
  replace HB := HB.trans (bw3.mono HB.size)
  obtain ⟨w4, hw4⟩ : ∃ y, y = w3.alloc (.cells #[] 67) := ⟨_, rfl⟩
  have o4 : w4.ownsRow w3.heap.size 67 3 (.slice (some ⟨w3.heap.size, 0, none⟩) 0 0) 0 (many []) := hw4 ▸ own_emp w3
  have bw4 : Below w3.heap.size w3 w4 := hw4 ▸ (Below.refl _ _).alloc (Nat.le_refl _) _
  have R4 := HR.out w4 (HB.trans (bw4.mono HB.size))
  have c_p0 : w3.cell? ⟨w.heap.size, 0, none⟩ = some (.int .i64 b.Seed) := var_load o_p (by simp) 0 _ rfl
  have f_p0 : w3.frozen? ⟨w.heap.size, 0, none⟩ = false := var_frozen o_p (by simp) 0 _ rfl
  have c_p1 : w3.cell? ⟨w.heap.size, 1, none⟩ = some (.int .i64 b.Next) := var_load o_p (by simp) 1 _ rfl
  have f_p1 : w3.frozen? ⟨w.heap.size, 1, none⟩ = false := var_frozen o_p (by simp) 1 _ rfl
  have c_p2 : w3.cell? ⟨w.heap.size, 2, none⟩ = some (.slice A n c) := var_load o_p (by simp) 2 _ rfl
  have f_p2 : w3.frozen? ⟨w.heap.size, 2, none⟩ = false := var_frozen o_p (by simp) 2 _ rfl
  have l_p := var_lt o_p
  have c_r0 : w3.cell? ⟨(w.heap.size + 1), 0, none⟩ = some (.int .i64 0) := var_load o_r (by simp) 0 _ rfl
  have f_r0 : w3.frozen? ⟨(w.heap.size + 1), 0, none⟩ = false := var_frozen o_r (by simp) 0 _ rfl
  have c_r1 : w3.cell? ⟨(w.heap.size + 1), 1, none⟩ = some (.int .i64 0) := var_load o_r (by simp) 1 _ rfl
  have f_r1 : w3.frozen? ⟨(w.heap.size + 1), 1, none⟩ = false := var_frozen o_r (by simp) 1 _ rfl
  have c_r2 : w3.cell? ⟨(w.heap.size + 1), 2, none⟩ = some (.slice none 0 0) := var_load o_r (by simp) 2 _ rfl
  have f_r2 : w3.frozen? ⟨(w.heap.size + 1), 2, none⟩ = false := var_frozen o_r (by simp) 2 _ rfl
  have l_r := var_lt o_r
  have c_o0 : w3.cell? ⟨(w.heap.size + 1 + 1), 0, none⟩ = some (.int .i64 b.Seed) := var_load o_o (by simp) 0 _ rfl
  have f_o0 : w3.frozen? ⟨(w.heap.size + 1 + 1), 0, none⟩ = false := var_frozen o_o (by simp) 0 _ rfl
  have c_o1 : w3.cell? ⟨(w.heap.size + 1 + 1), 1, none⟩ = some (.int .i64 b.Next) := var_load o_o (by simp) 1 _ rfl
  have f_o1 : w3.frozen? ⟨(w.heap.size + 1 + 1), 1, none⟩ = false := var_frozen o_o (by simp) 1 _ rfl
  have c_o2 : w3.cell? ⟨(w.heap.size + 1 + 1), 2, none⟩ = some (.slice A n c) := var_load o_o (by simp) 2 _ rfl
  have f_o2 : w3.frozen? ⟨(w.heap.size + 1 + 1), 2, none⟩ = false := var_frozen o_o (by simp) 2 _ rfl
  have l_o := var_lt o_o
  replace o_p := owns_below o_p bw4
  replace o_r := owns_below o_r bw4
  replace o_o := owns_below o_o bw4
  replace HB := HB.trans (bw4.mono HB.size)
  have zw4 := bw4.size
  rw [sw3] at o4
  go_wp2_with (at_builtin; rw [← hw1, ← hw2, ← hw3, ← hw4]; refine appC w4 rfl _ _ rfl w3.heap.size _ 0 [] rfl (sw3.symm ▸ o4) _ A n c xs rfl R4 (by omega) zw4 ?_; intro v5 w5 o5 g5; obtain ⟨A5, c5, rfl⟩ := own_nil_form o5; have T5 := turned_grown g5; replace o_p := owns_turned o_p T5 (fun b h1 h2 => far5 h1 h2 (by omega)); have c5_p0 : w5.cell? ⟨w.heap.size, 0, none⟩ = some (.int .i64 b.Seed) := var_load o_p (by simp) 0 _ rfl; have f5_p0 : w5.frozen? ⟨w.heap.size, 0, none⟩ = false := var_frozen o_p (by simp) 0 _ rfl; have c5_p1 : w5.cell? ⟨w.heap.size, 1, none⟩ = some (.int .i64 b.Next) := var_load o_p (by simp) 1 _ rfl; have f5_p1 : w5.frozen? ⟨w.heap.size, 1, none⟩ = false := var_frozen o_p (by simp) 1 _ rfl; have c5_p2 : w5.cell? ⟨w.heap.size, 2, none⟩ = some (.slice A n c) := var_load o_p (by simp) 2 _ rfl; have f5_p2 : w5.frozen? ⟨w.heap.size, 2, none⟩ = false := var_frozen o_p (by simp) 2 _ rfl; have l5_p := var_lt o_p; replace o_r := owns_turned o_r T5 (fun b h1 h2 => far5 h1 h2 (by omega)); have c5_r0 : w5.cell? ⟨(w.heap.size + 1), 0, none⟩ = some (.int .i64 0) := var_load o_r (by simp) 0 _ rfl; have f5_r0 : w5.frozen? ⟨(w.heap.size + 1), 0, none⟩ = false := var_frozen o_r (by simp) 0 _ rfl; have c5_r1 : w5.cell? ⟨(w.heap.size + 1), 1, none⟩ = some (.int .i64 0) := var_load o_r (by simp) 1 _ rfl; have f5_r1 : w5.frozen? ⟨(w.heap.size + 1), 1, none⟩ = false := var_frozen o_r (by simp) 1 _ rfl; have c5_r2 : w5.cell? ⟨(w.heap.size + 1), 2, none⟩ = some (.slice none 0 0) := var_load o_r (by simp) 2 _ rfl; have f5_r2 : w5.frozen? ⟨(w.heap.size + 1), 2, none⟩ = false := var_frozen o_r (by simp) 2 _ rfl; have l5_r := var_lt o_r; replace o_o := owns_turned o_o T5 (fun b h1 h2 => far5 h1 h2 (by omega)); have c5_o0 : w5.cell? ⟨(w.heap.size + 1 + 1), 0, none⟩ = some (.int .i64 b.Seed) := var_load o_o (by simp) 0 _ rfl; have f5_o0 : w5.frozen? ⟨(w.heap.size + 1 + 1), 0, none⟩ = false := var_frozen o_o (by simp) 0 _ rfl; have c5_o1 : w5.cell? ⟨(w.heap.size + 1 + 1), 1, none⟩ = some (.int .i64 b.Next) := var_load o_o (by simp) 1 _ rfl; have f5_o1 : w5.frozen? ⟨(w.heap.size + 1 + 1), 1, none⟩ = false := var_frozen o_o (by simp) 1 _ rfl; have c5_o2 : w5.cell? ⟨(w.heap.size + 1 + 1), 2, none⟩ = some (.slice A n c) := var_load o_o (by simp) 2 _ rfl; have f5_o2 : w5.frozen? ⟨(w.heap.size + 1 + 1), 2, none⟩ = false := var_frozen o_o (by simp) 2 _ rfl; have l5_o := var_lt o_o)
  rw [Nat.zero_add, List.nil_append] at o5
  replace HB := HB.grown g5 HB.size (fun j hj => by have h1 : w.heap.size + 1 + 1 + 1 = j := Option.some.inj (show some (w.heap.size + 1 + 1 + 1) = some j from hj); omega)
  have zw5 := g5.size
  have i_z := Fx.made_in (owns_many o5)
  have o_z := owns_many (own_base o5 (show w.heap.size ≤ w3.heap.size by omega))
  clear c5_p0 c5_p1 c5_p2 f5_p0 f5_p1 f5_p2 l5_p c5_r0 c5_r1 c5_r2 f5_r0 f5_r1 f5_r2 l5_r c5_o0 c5_o1 c5_o2 f5_o0 f5_o1 f5_o2 l5_o
  obtain ⟨w6, hw6⟩ : ∃ y, y = (w5.setCell ⟨(w.heap.size + 1 + 1), 2, none⟩ (.slice A5 n c5)) := ⟨_, rfl⟩
  obtain ⟨o_new, tw6⟩ := var_some [.slice A5 n c5] 2 _ _ o_o (by simp)
  rw [show setAll w5 ((w.heap.size + 1 + 1)) 2 [.slice A5 n c5] = w6 from hw6.symm] at o_new tw6
  replace o_o : Owns w6 _ (varD 33 3 [.int .i64 b.Seed, .int .i64 b.Next, .slice A5 n c5]) _ _ := o_new
  clear o_new
  replace o_p := owns_turned o_p tw6 (fun b hb hb2 => by simp at hb hb2; omega)
  replace o_r := owns_turned o_r tw6 (fun b hb hb2 => by simp at hb hb2; omega)
  replace o_z := owns_turned o_z tw6 (fun b hb hb2 => by have h1 := i_z b hb; simp at hb2; omega)
  replace HB := below_turned HB tw6 (fun b hb => by simp at hb; omega)
  have zw6 := tw6.2.2.2.1
  rw [← hw6]
  clear hw6
  obtain ⟨w7, hw7⟩ : ∃ y, y = (((w6.setCell ⟨(w.heap.size + 1), 0, none⟩ (.int .i64 b.Seed)).setCell ⟨(w.heap.size + 1), 1, none⟩ (.int .i64 b.Next)).setCell ⟨(w.heap.size + 1), 2, none⟩ (.slice A5 n c5)) := ⟨_, rfl⟩
  obtain ⟨o_new, tw7⟩ := var_some [.int .i64 b.Seed, .int .i64 b.Next, .slice A5 n c5] 0 _ _ o_r (by simp)
  rw [show setAll w6 ((w.heap.size + 1)) 0 [.int .i64 b.Seed, .int .i64 b.Next, .slice A5 n c5] = w7 from hw7.symm] at o_new tw7
  replace o_r : Owns w7 _ (varD 33 3 [.int .i64 b.Seed, .int .i64 b.Next, .slice A5 n c5]) _ _ := o_new
  clear o_new
  replace o_p := owns_turned o_p tw7 (fun b hb hb2 => by simp at hb hb2; omega)
  replace o_o := owns_turned o_o tw7 (fun b hb hb2 => by simp at hb hb2; omega)
  replace o_z := owns_turned o_z tw7 (fun b hb hb2 => by have h1 := i_z b hb; simp at hb2; omega)
  replace HB := below_turned HB tw7 (fun b hb => by simp at hb; omega)
  have zw7 := tw7.2.2.2.1
  rw [← hw7]
  clear hw7
  have y0 : w7.cell? ⟨(w.heap.size + 1), 0, none⟩ = some (.int .i64 b.Seed) := var_load o_r (by simp) 0 _ rfl
  have y1 : w7.cell? ⟨(w.heap.size + 1), 1, none⟩ = some (.int .i64 b.Next) := var_load o_r (by simp) 1 _ rfl
  have y2 : w7.cell? ⟨(w.heap.size + 1), 2, none⟩ = some (.slice A5 n c5) := var_load o_r (by simp) 2 _ rfl
  refine bodyPost_ret (v := .agg #[.int .i64 b.Seed, .int .i64 b.Next, .slice A5 n c5]) (by simp [results, Tryz.results43, go_sem, y0, y1, y2]) rfl ?_
  exact made_cb HXS.out HL.out o_z (Ra.block_nodup _) HB
end Go.Proofs.YtllaacdikjffmaaGreat.C12c
