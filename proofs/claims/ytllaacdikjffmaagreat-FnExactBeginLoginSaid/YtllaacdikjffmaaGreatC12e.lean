import Derived.Test.YtllaacdikjffmaaGreatC12d
import Derived.Test.YtllaacdikjffmaaGreatC12t
import Derived.Test.YtllaacdikjffmaaGreatAp
import Derived.Deep.DeepCutAuto
/-
  Contract of chapter 12's IssueChallenge, of the model.
-/
namespace Go.Proofs.YtllaacdikjffmaaGreat.C12e
open Go.ChangeShapes Go.WideShapes Go.ChangeAt Go.RowKit
open S0 S1 S9 Dm Fx M3 M8 C3 C6 C12 C12b C12c C12d
set_option linter.unusedVariables false
set_option linter.unusedSimpArgs false
set_option maxRecDepth 100000
noncomputable def issOk (b : Fx.ChallengeBook) (a now : Int) : Bool := vbk b && !(b.Next == 1000000) && decide (0 ≤ a ∧ a ≤ 1000000) && decide (0 ≤ now ∧ now ≤ 1000000)
noncomputable def issC (b : Fx.ChallengeBook) (a now : Int) : Fx.Challenge := if issOk b a now then ⟨b.Next, a, now + 5⟩ else ⟨0, 0, 0⟩
noncomputable def issX (b : Fx.ChallengeBook) (a now : Int) : Fx.ChallengeBook := if issOk b a now then ⟨b.Seed, b.Next + 1, b.Open.drop (b.Open.length - 15) ++ [⟨b.Next, a, now + 5⟩]⟩ else b
theorem issX_f {b : Fx.ChallengeBook} {a now : Int} (h : issOk b a now = false) : issX b a now = b ∧ issC b a now = ⟨0, 0, 0⟩ := by
  unfold issX issC
  rw [if_neg (by rw [h]; simp), if_neg (by rw [h]; simp)]
  exact ⟨rfl, rfl⟩
theorem issX_t {b : Fx.ChallengeBook} {a now : Int} (h : issOk b a now = true) : issX b a now = ⟨b.Seed, b.Next + 1, b.Open.drop (b.Open.length - 15) ++ [⟨b.Next, a, now + 5⟩]⟩ ∧ issC b a now = ⟨b.Next, a, now + 5⟩ := by
  unfold issX issC
  rw [if_pos h, if_pos h]
  exact ⟨rfl, rfl⟩
theorem vbk_parts {b : Fx.ChallengeBook} (h : vbk b = true) : 0 ≤ b.Next ∧ b.Next ≤ 1000000 ∧ b.Open.length ≤ 16 := by
  unfold vbk at h
  simp only [Bool.and_eq_true, decide_eq_true_eq] at h
  exact ⟨h.1.2.1, h.1.2.2, h.2⟩
theorem own_mem {w : World} {lo E s n : Nat} {cs : List Dc} {v : Value} {bs : List Nat} (h : Owns w lo (.row E s n cs) v bs) : ∀ b, b ∈ v.ownBlock.toList → b ∈ bs := by
  obtain ⟨vs, b2, _, _, rfl⟩ := owns_row h
  exact fun b hb => List.mem_append_left _ hb
theorem own_block {w : World} {lo n : Nat} {v : Value} {l : List Fx.Challenge} {bs : List Nat} (h : Owns w lo (.row 67 3 n (l.flatMap Challenge.dcs)) v bs) : bs = v.ownBlock.toList := by
  obtain ⟨vs, b2, _, hl, rfl⟩ := owns_row h
  have : ∀ (l : List Fx.Challenge) (vs : List Value) (bs : List Nat), OwnsL w lo (l.flatMap Challenge.dcs) vs bs → bs = [] := by
    intro l
    induction l with
    | nil => intro vs bs h; simp only [List.flatMap_nil, OwnsL] at h; exact h.2
    | cons x l ih =>
      intro vs bs h
      rw [List.flatMap_cons] at h
      unfold Challenge.dcs at h
      simp only [List.cons_append, List.nil_append, OwnsL, Owns] at h
      obtain ⟨_, _, _, _, rfl, ⟨rfl, rfl⟩, ⟨_, _, _, _, rfl, ⟨rfl, rfl⟩, ⟨_, _, _, _, rfl, ⟨rfl, rfl⟩, h, rfl⟩, rfl⟩, rfl⟩ := h
      rw [ih _ _ h]
  rw [this _ _ _ hl, List.append_nil]
/-- The first challenges cut off. -/
theorem own_cut {w : World} {lo n g off c k : Nat} {l : List Fx.Challenge} {bs : List Nat} (h : Owns w lo (.row 67 3 n (l.flatMap Challenge.dcs)) (.slice (some ⟨g, off, none⟩) n c) bs) (hk : k ≤ n) : Owns w lo (.row 67 3 (n - k) ((l.drop k).flatMap Challenge.dcs)) (.slice (some ⟨g, off + k * 3, none⟩) (n - k) (c - k)) bs := by
  have e := own_block h
  have h2 := (many_owns h).cut k hk (by decide)
  rw [← many_drop] at h2
  have h3 := owns_manyA h2
  rw [e]
  exact h3
theorem own_at_some {w : World} {lo n c : Nat} {A : Option Addr} {l : List Fx.Challenge} {bs : List Nat} (h : Owns w lo (.row 67 3 n (l.flatMap Challenge.dcs)) (.slice A n c) bs) (hn : 0 < n) : ∃ g off, A = some ⟨g, off, none⟩ ∧ n ≤ c := by
  have h2 := many_owns h
  obtain ⟨g, off, cap, e, _, _⟩ := h2.form hn
  injection e with e1 _ _
  exact ⟨g, off, e1, h2.sh.cap⟩
theorem made_is {w wf : World} {x : Fx.ChallengeBook} {xs : List Fx.Challenge} {n c : Nat} {A : Option Addr} {bs : List Nat} {s nx i1 i2 i3 : Int} {b : Bool} {k : Fx.Challenge} (hx : xs = x.Open) (hs : s = x.Seed) (hm : nx = x.Next) (hn : n = xs.length) (hk : k = ⟨i1, i2, i3⟩) (o : Owns wf w.heap.size (.row 67 3 n (xs.flatMap Challenge.dcs)) (.slice A n c) bs) (hd : bs.Nodup) (HB : Below w.heap.size w wf) :
    MadeLx x.dcs (fun vs => .tuple #[.agg vs.toArray, .agg #[.int .i64 k.Id, .int .i64 k.Account, .int .i64 k.Until], .bool b]) w (.returned (.tuple #[.agg #[.int .i64 s, .int .i64 nx, .slice A n c], .agg #[.int .i64 i1, .int .i64 i2, .int .i64 i3], .bool b])) wf := by
  subst hx
  subst hs
  subst hm
  subst hn
  subst hk
  exact ⟨_, _, rfl, ChallengeBook.mkO o, hd, HB⟩
/-- Results in two variables and a Boolean. -/
theorem app_ch {w : World} {ops : Array Oper} {rest : List Oper} {o : Oper} {a : Act} {Q : Exit → Act → World → Prop} (hgd : o.guard = none) (s x : Operand)
    (ho : o.op = .call { callee := .builtin .append, args := #[s, x], argTypes := #[31, 31] }) (base : Nat) (v : Value) (n : Nat) (l : List Fx.Challenge) (bs : List Nat) (hs : a.eval s = v) (hown : Owns w base (.row 67 3 n (l.flatMap Challenge.dcs)) v bs) (hnd : bs.Nodup)
    (B c : Nat) (k : Fx.Challenge) (hx : a.eval x = .slice (some ⟨B, 0, none⟩) 1 c) (h0 : w.cell? ⟨B, 0, none⟩ = some (.int .i64 k.Id)) (h1 : w.cell? ⟨B, 1, none⟩ = some (.int .i64 k.Account)) (h2 : w.cell? ⟨B, 2, none⟩ = some (.int .i64 k.Until)) (h63 : n ≤ 1099511627776) (hbase : base ≤ w.heap.size)
    (h : ∀ v' bs' w', Owns w' base (.row 67 3 (n + 1) ((l ++ [k]).flatMap Challenge.dcs)) v' bs' → bs'.Nodup → Turned w w' v.ownBlock.toList → (∀ y, y ∈ bs' → y ∈ bs ∨ y = w.heap.size) → wpList Tryz.prog ops Q rest (a.put o.dst v') w') : wpList Tryz.prog ops Q (o :: rest) a w := by
  obtain ⟨i0, hi, hz0, hz1, hz2⟩ := info_parts chal_info
  refine Ap.wpList_app_one w hgd s x 31 ho base 67 i0 (.agg #[.int .i64 0, .int .i64 0, .int .i64 0]) 3 24 Tryz.underlying31 hi hz0 hz1 hz2 (by simp [Value.cells]) (by decide) v n _ bs hs hown hnd B c [.int .i64 k.Id, .int .i64 k.Account, .int .i64 k.Until] hx rfl (fun j u hu => ?_) (by intro u hu; simp at hu; rcases hu with rfl | rfl | rfl <;> rfl) base k.dcs [] ?_ List.nodup_nil (fun y _ h => by cases h) (Nat.le_refl _) (by unfold maxLen; omega) (by omega) hbase (fun v' bs' w' k1 k2 k3 k4 => h v' bs' w' ?_ k2 k3 (fun y hy => (k4 y hy).imp id (fun h => h.elim (fun h => by cases h) id)))
  · match j, hu with
    | 0, hu => rw [h0]; exact hu
    | 1, hu => rw [h1]; exact hu
    | 2, hu => rw [h2]; exact hu
    | j + 3, hu => simp at hu
  · unfold Challenge.dcs
    simp only [OwnsL, Owns]
    exact ⟨_, _, [], [], rfl, ⟨rfl, rfl⟩, ⟨_, _, [], [], rfl, ⟨rfl, rfl⟩, ⟨_, _, [], [], rfl, ⟨rfl, rfl⟩, ⟨rfl, rfl⟩, rfl⟩, rfl⟩, rfl⟩
  · rw [List.flatMap_append, List.flatMap_cons, List.flatMap_nil, List.append_nil]
    exact k1
set_option maxHeartbeats 16000000 in
theorem specIssue (w : World) (b : Fx.ChallengeBook) (a now : Int) (us : List Value) (h : RdsL w w.heap.size b.dcs us) (hn : b.Open.length ≤ 16000000) (ha0 : -9223372036854775808 ≤ a) (ha1 : a ≤ 9223372036854775807) (hw0 : -9223372036854775808 ≤ now) (hw1 : now ≤ 9223372036854775807) :
    Calls Tryz.prog 36 #[.agg us.toArray, .int .i64 a, .int .i64 now] w (MadeLx (issX b a now).dcs (fun vs => .tuple #[.agg vs.toArray, .agg #[.int .i64 (issC b a now).Id, .int .i64 (issC b a now).Account, .int .i64 (issC b a now).Until], .bool (issOk b a now)]) w) := by
  obtain ⟨A, c, rfl, g⟩ := ChallengeBook.rds h
  have HRD := Lib.hid (fun (wx : World) (hb : Below w.heap.size w wx) => show RdsL wx wx.heap.size b.dcs [.int .i64 b.Seed, .int .i64 b.Next, .slice A b.Open.length c] from rdsL_on h hb)
  clear h g
  have HNN := Lib.hid hn
  have KV := Lib.hid (fun (wx : World) (hb : Below w.heap.size w wx) => specVbk wx b _ (HRD.out wx hb) HNN.out)
  have KC := Lib.hid (fun (wx : World) (hb : Below w.heap.size w wx) => specCopyB wx b _ (HRD.out wx hb) HNN.out)
  obtain ⟨xs, hxs⟩ : ∃ xs, xs = b.Open := ⟨_, rfl⟩
  rw [← hxs] at hn KV KC
  obtain ⟨n, hnn⟩ : ∃ n, n = xs.length := ⟨_, rfl⟩
  rw [← hnn] at hn KV KC
  rw [← hxs, ← hnn]
  have HXS := Lib.hid hxs
  have HL := Lib.hid hnn
  clear hnn hxs HNN HRD
  cases h1 : vbk b with
  | false =>
    have e1 : issOk b a now = false := by unfold issOk; rw [h1]; rfl
    obtain ⟨e2, e3⟩ := issX_f e1
    rw [e1, e2, e3]
    clear e1 e2 e3
    rw [h1] at KV
    clear h1
    go_enter Tryz.func36, Tryz.ntmps36
    obtain ⟨w1, hw1⟩ : ∃ y, y = w.alloc (.cells #[.int .i64 b.Seed, .int .i64 b.Next, .slice A n c] 33) := ⟨_, rfl⟩
    have o_p := var_owns w 33 3 [.int .i64 b.Seed, .int .i64 b.Next, .slice A n c] rfl
    have bw1 : Below w.heap.size w w1 := hw1 ▸ (Below.refl _ _).alloc (Nat.le_refl _) _
    rw [← hw1] at o_p
    have sw1 : w1.heap.size = w.heap.size + 1 := by rw [hw1]; simp
    have zw1 : w.heap.size < w1.heap.size := by rw [hw1]; simp
    have HB := bw1
    obtain ⟨w2, hw2⟩ : ∃ y, y = w1.alloc (.cells #[.int .i64 0, .int .i64 0, .slice none 0 0] 33) := ⟨_, rfl⟩
    have o_r := var_owns w1 33 3 [.int .i64 0, .int .i64 0, .slice none 0 0] rfl
    have bw2 : Below w1.heap.size w1 w2 := hw2 ▸ (Below.refl _ _).alloc (Nat.le_refl _) _
    rw [← hw2] at o_r
    rw [sw1] at o_r
    have sw2 : w2.heap.size = w.heap.size + 1 + 1 := by rw [hw2]; simp [sw1]
    have zw2 : w1.heap.size < w2.heap.size := by rw [hw2]; simp
    replace o_p := owns_below o_p bw2
    replace HB := HB.trans (bw2.mono HB.size)
    obtain ⟨w3, hw3⟩ : ∃ y, y = w2.alloc (.cells #[.int .i64 0, .int .i64 0, .int .i64 0] 67) := ⟨_, rfl⟩
    have o_q := var_owns w2 67 3 [.int .i64 0, .int .i64 0, .int .i64 0] rfl
    have bw3 : Below w2.heap.size w2 w3 := hw3 ▸ (Below.refl _ _).alloc (Nat.le_refl _) _
    rw [← hw3] at o_q
    rw [sw2] at o_q
    have sw3 : w3.heap.size = w.heap.size + 1 + 1 + 1 := by rw [hw3]; simp [sw2]
    have zw3 : w2.heap.size < w3.heap.size := by rw [hw3]; simp
    replace o_p := owns_below o_p bw3
    replace o_r := owns_below o_r bw3
    replace HB := HB.trans (bw3.mono HB.size)
    go_wp2_with fail
    rw [← hw1, ← hw2, ← hw3]
    clear hw1 hw2 hw3 sw1 sw2 sw3
    (refine (KC.out _ HB).mono ?_); rintro e w4 ⟨v_z, s_z, rfl, o_z, n_z, bw4⟩
    replace o_p := owns_below o_p bw4
    replace o_r := owns_below o_r bw4
    replace o_q := owns_below o_q bw4
    replace HB := HB.trans (bw4.mono HB.size)
    have zw4 := bw4.size
    obtain ⟨A_z, c_z, b_z, rfl, o_y, hby⟩ := ChallengeBook.owns o_z
    unfold ChallengesD at o_y
    rw [← HXS.out, ← HL.out] at o_y
    rw [show b.Open.length = n by rw [← HXS.out, ← HL.out]]
    have i_y := Fx.made_in o_y
    replace o_y := owns_base (show w.heap.size ≤ w3.heap.size by omega) _ _ _ o_y
    have ny : b_z.Nodup := (show s_z = b_z by simpa using hby) ▸ n_z
    clear o_z hby
    have c_p0 : w4.cell? ⟨w.heap.size, 0, none⟩ = some (.int .i64 b.Seed) := var_load o_p (by simp) 0 _ rfl
    have f_p0 : w4.frozen? ⟨w.heap.size, 0, none⟩ = false := var_frozen o_p (by simp) 0 _ rfl
    have c_p1 : w4.cell? ⟨w.heap.size, 1, none⟩ = some (.int .i64 b.Next) := var_load o_p (by simp) 1 _ rfl
    have f_p1 : w4.frozen? ⟨w.heap.size, 1, none⟩ = false := var_frozen o_p (by simp) 1 _ rfl
    have c_p2 : w4.cell? ⟨w.heap.size, 2, none⟩ = some (.slice A n c) := var_load o_p (by simp) 2 _ rfl
    have f_p2 : w4.frozen? ⟨w.heap.size, 2, none⟩ = false := var_frozen o_p (by simp) 2 _ rfl
    have l_p := var_lt o_p
    have c_r0 : w4.cell? ⟨(w.heap.size + 1), 0, none⟩ = some (.int .i64 0) := var_load o_r (by simp) 0 _ rfl
    have f_r0 : w4.frozen? ⟨(w.heap.size + 1), 0, none⟩ = false := var_frozen o_r (by simp) 0 _ rfl
    have c_r1 : w4.cell? ⟨(w.heap.size + 1), 1, none⟩ = some (.int .i64 0) := var_load o_r (by simp) 1 _ rfl
    have f_r1 : w4.frozen? ⟨(w.heap.size + 1), 1, none⟩ = false := var_frozen o_r (by simp) 1 _ rfl
    have c_r2 : w4.cell? ⟨(w.heap.size + 1), 2, none⟩ = some (.slice none 0 0) := var_load o_r (by simp) 2 _ rfl
    have f_r2 : w4.frozen? ⟨(w.heap.size + 1), 2, none⟩ = false := var_frozen o_r (by simp) 2 _ rfl
    have l_r := var_lt o_r
    have c_q0 : w4.cell? ⟨(w.heap.size + 1 + 1), 0, none⟩ = some (.int .i64 0) := var_load o_q (by simp) 0 _ rfl
    have f_q0 : w4.frozen? ⟨(w.heap.size + 1 + 1), 0, none⟩ = false := var_frozen o_q (by simp) 0 _ rfl
    have c_q1 : w4.cell? ⟨(w.heap.size + 1 + 1), 1, none⟩ = some (.int .i64 0) := var_load o_q (by simp) 1 _ rfl
    have f_q1 : w4.frozen? ⟨(w.heap.size + 1 + 1), 1, none⟩ = false := var_frozen o_q (by simp) 1 _ rfl
    have c_q2 : w4.cell? ⟨(w.heap.size + 1 + 1), 2, none⟩ = some (.int .i64 0) := var_load o_q (by simp) 2 _ rfl
    have f_q2 : w4.frozen? ⟨(w.heap.size + 1 + 1), 2, none⟩ = false := var_frozen o_q (by simp) 2 _ rfl
    have l_q := var_lt o_q
    obtain ⟨w5, hw5⟩ : ∃ y, y = w4.alloc (.cells #[.int .i64 b.Seed, .int .i64 b.Next, .slice A_z n c_z] 33) := ⟨_, rfl⟩
    have o_o := var_owns w4 33 3 [.int .i64 b.Seed, .int .i64 b.Next, .slice A_z n c_z] rfl
    have bw5 : Below w4.heap.size w4 w5 := hw5 ▸ (Below.refl _ _).alloc (Nat.le_refl _) _
    rw [← hw5] at o_o
    have sw5 : w5.heap.size = w4.heap.size + 1 := by rw [hw5]; simp
    have zw5 : w4.heap.size < w5.heap.size := by rw [hw5]; simp
    replace o_p := owns_below o_p bw5
    replace o_r := owns_below o_r bw5
    replace o_q := owns_below o_q bw5
    replace o_y := owns_below o_y bw5
    replace HB := HB.trans (bw5.mono HB.size)
    go_wp2_with fail
    rw [← hw5]
    clear hw5 sw5
    (refine (KV.out _ HB).mono ?_); rintro e w6 ⟨rfl, bw6⟩
    clear c_p0 f_p0 c_p1 f_p1 c_p2 f_p2 l_p c_r0 f_r0 c_r1 f_r1 c_r2 f_r2 l_r c_q0 f_q0 c_q1 f_q1 c_q2 f_q2 l_q
    replace o_p := owns_below o_p bw6
    replace o_r := owns_below o_r bw6
    replace o_q := owns_below o_q bw6
    replace o_o := owns_below o_o bw6
    replace o_y := owns_below o_y bw6
    replace HB := HB.trans (bw6.mono HB.size)
    have zw6 := bw6.size
    have c_p0 : w6.cell? ⟨w.heap.size, 0, none⟩ = some (.int .i64 b.Seed) := var_load o_p (by simp) 0 _ rfl
    have f_p0 : w6.frozen? ⟨w.heap.size, 0, none⟩ = false := var_frozen o_p (by simp) 0 _ rfl
    have c_p1 : w6.cell? ⟨w.heap.size, 1, none⟩ = some (.int .i64 b.Next) := var_load o_p (by simp) 1 _ rfl
    have f_p1 : w6.frozen? ⟨w.heap.size, 1, none⟩ = false := var_frozen o_p (by simp) 1 _ rfl
    have c_p2 : w6.cell? ⟨w.heap.size, 2, none⟩ = some (.slice A n c) := var_load o_p (by simp) 2 _ rfl
    have f_p2 : w6.frozen? ⟨w.heap.size, 2, none⟩ = false := var_frozen o_p (by simp) 2 _ rfl
    have l_p := var_lt o_p
    have c_r0 : w6.cell? ⟨(w.heap.size + 1), 0, none⟩ = some (.int .i64 0) := var_load o_r (by simp) 0 _ rfl
    have f_r0 : w6.frozen? ⟨(w.heap.size + 1), 0, none⟩ = false := var_frozen o_r (by simp) 0 _ rfl
    have c_r1 : w6.cell? ⟨(w.heap.size + 1), 1, none⟩ = some (.int .i64 0) := var_load o_r (by simp) 1 _ rfl
    have f_r1 : w6.frozen? ⟨(w.heap.size + 1), 1, none⟩ = false := var_frozen o_r (by simp) 1 _ rfl
    have c_r2 : w6.cell? ⟨(w.heap.size + 1), 2, none⟩ = some (.slice none 0 0) := var_load o_r (by simp) 2 _ rfl
    have f_r2 : w6.frozen? ⟨(w.heap.size + 1), 2, none⟩ = false := var_frozen o_r (by simp) 2 _ rfl
    have l_r := var_lt o_r
    have c_q0 : w6.cell? ⟨(w.heap.size + 1 + 1), 0, none⟩ = some (.int .i64 0) := var_load o_q (by simp) 0 _ rfl
    have f_q0 : w6.frozen? ⟨(w.heap.size + 1 + 1), 0, none⟩ = false := var_frozen o_q (by simp) 0 _ rfl
    have c_q1 : w6.cell? ⟨(w.heap.size + 1 + 1), 1, none⟩ = some (.int .i64 0) := var_load o_q (by simp) 1 _ rfl
    have f_q1 : w6.frozen? ⟨(w.heap.size + 1 + 1), 1, none⟩ = false := var_frozen o_q (by simp) 1 _ rfl
    have c_q2 : w6.cell? ⟨(w.heap.size + 1 + 1), 2, none⟩ = some (.int .i64 0) := var_load o_q (by simp) 2 _ rfl
    have f_q2 : w6.frozen? ⟨(w.heap.size + 1 + 1), 2, none⟩ = false := var_frozen o_q (by simp) 2 _ rfl
    have l_q := var_lt o_q
    have c_o0 : w6.cell? ⟨w4.heap.size, 0, none⟩ = some (.int .i64 b.Seed) := var_load o_o (by simp) 0 _ rfl
    have f_o0 : w6.frozen? ⟨w4.heap.size, 0, none⟩ = false := var_frozen o_o (by simp) 0 _ rfl
    have c_o1 : w6.cell? ⟨w4.heap.size, 1, none⟩ = some (.int .i64 b.Next) := var_load o_o (by simp) 1 _ rfl
    have f_o1 : w6.frozen? ⟨w4.heap.size, 1, none⟩ = false := var_frozen o_o (by simp) 1 _ rfl
    have c_o2 : w6.cell? ⟨w4.heap.size, 2, none⟩ = some (.slice A_z n c_z) := var_load o_o (by simp) 2 _ rfl
    have f_o2 : w6.frozen? ⟨w4.heap.size, 2, none⟩ = false := var_frozen o_o (by simp) 2 _ rfl
    have l_o := var_lt o_o
    go_wp2_with (first | (go_at_call 66; (with_reducible refine (C1.specIn_t _ _ _ _ (by omega) (by omega)).mono ?_); rintro e w' ⟨rfl, rfl⟩) | (go_at_call 66; (with_reducible refine (C1.specIn_f _ _ _ _ (by omega)).mono ?_); rintro e w' ⟨rfl, rfl⟩))
    clear c_p0 f_p0 c_p1 f_p1 c_p2 f_p2 l_p c_r0 f_r0 c_r1 f_r1 c_r2 f_r2 l_r c_q0 f_q0 c_q1 f_q1 c_q2 f_q2 l_q c_o0 f_o0 c_o1 f_o1 c_o2 f_o2 l_o
    obtain ⟨w7, hw7⟩ : ∃ y, y = (((w6.setCell ⟨(w.heap.size + 1), 0, none⟩ (.int .i64 b.Seed)).setCell ⟨(w.heap.size + 1), 1, none⟩ (.int .i64 b.Next)).setCell ⟨(w.heap.size + 1), 2, none⟩ (.slice A_z n c_z)) := ⟨_, rfl⟩
    obtain ⟨o_new, tw7⟩ := var_some [.int .i64 b.Seed, .int .i64 b.Next, .slice A_z n c_z] 0 _ _ o_r (by simp)
    rw [show setAll w6 ((w.heap.size + 1)) 0 [.int .i64 b.Seed, .int .i64 b.Next, .slice A_z n c_z] = w7 from hw7.symm] at o_new tw7
    replace o_r : Owns w7 _ (varD 33 3 [.int .i64 b.Seed, .int .i64 b.Next, .slice A_z n c_z]) _ _ := o_new
    clear o_new
    replace o_p := owns_turned o_p tw7 (fun b hb hb2 => by simp at hb hb2; omega)
    replace o_q := owns_turned o_q tw7 (fun b hb hb2 => by simp at hb hb2; omega)
    replace o_o := owns_turned o_o tw7 (fun b hb hb2 => by simp at hb hb2; omega)
    replace o_y := owns_turned o_y tw7 (fun b hb hb2 => by have h1 := i_y b hb; simp at hb2; omega)
    replace HB := below_turned HB tw7 (fun b hb => by simp at hb; omega)
    have zw7 := tw7.2.2.2.1
    rw [← hw7]
    clear hw7
    obtain ⟨w8, hw8⟩ : ∃ y, y = (((w7.setCell ⟨(w.heap.size + 1 + 1), 0, none⟩ (.int .i64 0)).setCell ⟨(w.heap.size + 1 + 1), 1, none⟩ (.int .i64 0)).setCell ⟨(w.heap.size + 1 + 1), 2, none⟩ (.int .i64 0)) := ⟨_, rfl⟩
    obtain ⟨o_new, tw8⟩ := var_some [.int .i64 0, .int .i64 0, .int .i64 0] 0 _ _ o_q (by simp)
    rw [show setAll w7 ((w.heap.size + 1 + 1)) 0 [.int .i64 0, .int .i64 0, .int .i64 0] = w8 from hw8.symm] at o_new tw8
    replace o_q : Owns w8 _ (varD 67 3 [.int .i64 0, .int .i64 0, .int .i64 0]) _ _ := o_new
    clear o_new
    replace o_p := owns_turned o_p tw8 (fun b hb hb2 => by simp at hb hb2; omega)
    replace o_r := owns_turned o_r tw8 (fun b hb hb2 => by simp at hb hb2; omega)
    replace o_o := owns_turned o_o tw8 (fun b hb hb2 => by simp at hb hb2; omega)
    replace o_y := owns_turned o_y tw8 (fun b hb hb2 => by have h1 := i_y b hb; simp at hb2; omega)
    replace HB := below_turned HB tw8 (fun b hb => by simp at hb; omega)
    have zw8 := tw8.2.2.2.1
    rw [← hw8]
    clear hw8
    have y0 : w8.cell? ⟨(w.heap.size + 1), 0, none⟩ = some (.int .i64 b.Seed) := var_load o_r (by simp) 0 _ rfl
    have y1 : w8.cell? ⟨(w.heap.size + 1), 1, none⟩ = some (.int .i64 b.Next) := var_load o_r (by simp) 1 _ rfl
    have y2 : w8.cell? ⟨(w.heap.size + 1), 2, none⟩ = some (.slice A_z n c_z) := var_load o_r (by simp) 2 _ rfl
    have u0 : w8.cell? ⟨(w.heap.size + 1 + 1), 0, none⟩ = some (.int .i64 0) := var_load o_q (by simp) 0 _ rfl
    have u1 : w8.cell? ⟨(w.heap.size + 1 + 1), 1, none⟩ = some (.int .i64 0) := var_load o_q (by simp) 1 _ rfl
    have u2 : w8.cell? ⟨(w.heap.size + 1 + 1), 2, none⟩ = some (.int .i64 0) := var_load o_q (by simp) 2 _ rfl
    refine bodyPost_ret (v := .tuple #[.agg #[.int .i64 b.Seed, .int .i64 b.Next, .slice A_z n c_z], .agg #[.int .i64 0, .int .i64 0, .int .i64 0], .bool false]) (by simp [results, Tryz.results36, go_sem, y0, y1, y2, u0, u1, u2]) rfl ?_
    exact made_is HXS.out rfl rfl HL.out rfl o_y ny HB
  | true =>
    obtain ⟨nx0, nx1, len⟩ := vbk_parts h1
    rw [← HXS.out, ← HL.out] at len
    rw [h1] at KV
    by_cases h2 : b.Next = 1000000
    · skip
      have e1 : issOk b a now = false := by unfold issOk; rw [h1, h2]; rfl
      obtain ⟨e2, e3⟩ := issX_f e1
      rw [e1, e2, e3]
      clear e1 e2 e3
      have h2b : (b.Next == 1000000) = true := by simpa using h2
      clear h1 h2
      go_enter Tryz.func36, Tryz.ntmps36
      obtain ⟨w1, hw1⟩ : ∃ y, y = w.alloc (.cells #[.int .i64 b.Seed, .int .i64 b.Next, .slice A n c] 33) := ⟨_, rfl⟩
      have o_p := var_owns w 33 3 [.int .i64 b.Seed, .int .i64 b.Next, .slice A n c] rfl
      have bw1 : Below w.heap.size w w1 := hw1 ▸ (Below.refl _ _).alloc (Nat.le_refl _) _
      rw [← hw1] at o_p
      have sw1 : w1.heap.size = w.heap.size + 1 := by rw [hw1]; simp
      have zw1 : w.heap.size < w1.heap.size := by rw [hw1]; simp
      have HB := bw1
      obtain ⟨w2, hw2⟩ : ∃ y, y = w1.alloc (.cells #[.int .i64 0, .int .i64 0, .slice none 0 0] 33) := ⟨_, rfl⟩
      have o_r := var_owns w1 33 3 [.int .i64 0, .int .i64 0, .slice none 0 0] rfl
      have bw2 : Below w1.heap.size w1 w2 := hw2 ▸ (Below.refl _ _).alloc (Nat.le_refl _) _
      rw [← hw2] at o_r
      rw [sw1] at o_r
      have sw2 : w2.heap.size = w.heap.size + 1 + 1 := by rw [hw2]; simp [sw1]
      have zw2 : w1.heap.size < w2.heap.size := by rw [hw2]; simp
      replace o_p := owns_below o_p bw2
      replace HB := HB.trans (bw2.mono HB.size)
      obtain ⟨w3, hw3⟩ : ∃ y, y = w2.alloc (.cells #[.int .i64 0, .int .i64 0, .int .i64 0] 67) := ⟨_, rfl⟩
      have o_q := var_owns w2 67 3 [.int .i64 0, .int .i64 0, .int .i64 0] rfl
      have bw3 : Below w2.heap.size w2 w3 := hw3 ▸ (Below.refl _ _).alloc (Nat.le_refl _) _
      rw [← hw3] at o_q
      rw [sw2] at o_q
      have sw3 : w3.heap.size = w.heap.size + 1 + 1 + 1 := by rw [hw3]; simp [sw2]
      have zw3 : w2.heap.size < w3.heap.size := by rw [hw3]; simp
      replace o_p := owns_below o_p bw3
      replace o_r := owns_below o_r bw3
      replace HB := HB.trans (bw3.mono HB.size)
      go_wp2_with fail
      rw [← hw1, ← hw2, ← hw3]
      clear hw1 hw2 hw3 sw1 sw2 sw3
      (refine (KC.out _ HB).mono ?_); rintro e w4 ⟨v_z, s_z, rfl, o_z, n_z, bw4⟩
      replace o_p := owns_below o_p bw4
      replace o_r := owns_below o_r bw4
      replace o_q := owns_below o_q bw4
      replace HB := HB.trans (bw4.mono HB.size)
      have zw4 := bw4.size
      obtain ⟨A_z, c_z, b_z, rfl, o_y, hby⟩ := ChallengeBook.owns o_z
      unfold ChallengesD at o_y
      rw [← HXS.out, ← HL.out] at o_y
      rw [show b.Open.length = n by rw [← HXS.out, ← HL.out]]
      have i_y := Fx.made_in o_y
      replace o_y := owns_base (show w.heap.size ≤ w3.heap.size by omega) _ _ _ o_y
      have ny : b_z.Nodup := (show s_z = b_z by simpa using hby) ▸ n_z
      clear o_z hby
      have c_p0 : w4.cell? ⟨w.heap.size, 0, none⟩ = some (.int .i64 b.Seed) := var_load o_p (by simp) 0 _ rfl
      have f_p0 : w4.frozen? ⟨w.heap.size, 0, none⟩ = false := var_frozen o_p (by simp) 0 _ rfl
      have c_p1 : w4.cell? ⟨w.heap.size, 1, none⟩ = some (.int .i64 b.Next) := var_load o_p (by simp) 1 _ rfl
      have f_p1 : w4.frozen? ⟨w.heap.size, 1, none⟩ = false := var_frozen o_p (by simp) 1 _ rfl
      have c_p2 : w4.cell? ⟨w.heap.size, 2, none⟩ = some (.slice A n c) := var_load o_p (by simp) 2 _ rfl
      have f_p2 : w4.frozen? ⟨w.heap.size, 2, none⟩ = false := var_frozen o_p (by simp) 2 _ rfl
      have l_p := var_lt o_p
      have c_r0 : w4.cell? ⟨(w.heap.size + 1), 0, none⟩ = some (.int .i64 0) := var_load o_r (by simp) 0 _ rfl
      have f_r0 : w4.frozen? ⟨(w.heap.size + 1), 0, none⟩ = false := var_frozen o_r (by simp) 0 _ rfl
      have c_r1 : w4.cell? ⟨(w.heap.size + 1), 1, none⟩ = some (.int .i64 0) := var_load o_r (by simp) 1 _ rfl
      have f_r1 : w4.frozen? ⟨(w.heap.size + 1), 1, none⟩ = false := var_frozen o_r (by simp) 1 _ rfl
      have c_r2 : w4.cell? ⟨(w.heap.size + 1), 2, none⟩ = some (.slice none 0 0) := var_load o_r (by simp) 2 _ rfl
      have f_r2 : w4.frozen? ⟨(w.heap.size + 1), 2, none⟩ = false := var_frozen o_r (by simp) 2 _ rfl
      have l_r := var_lt o_r
      have c_q0 : w4.cell? ⟨(w.heap.size + 1 + 1), 0, none⟩ = some (.int .i64 0) := var_load o_q (by simp) 0 _ rfl
      have f_q0 : w4.frozen? ⟨(w.heap.size + 1 + 1), 0, none⟩ = false := var_frozen o_q (by simp) 0 _ rfl
      have c_q1 : w4.cell? ⟨(w.heap.size + 1 + 1), 1, none⟩ = some (.int .i64 0) := var_load o_q (by simp) 1 _ rfl
      have f_q1 : w4.frozen? ⟨(w.heap.size + 1 + 1), 1, none⟩ = false := var_frozen o_q (by simp) 1 _ rfl
      have c_q2 : w4.cell? ⟨(w.heap.size + 1 + 1), 2, none⟩ = some (.int .i64 0) := var_load o_q (by simp) 2 _ rfl
      have f_q2 : w4.frozen? ⟨(w.heap.size + 1 + 1), 2, none⟩ = false := var_frozen o_q (by simp) 2 _ rfl
      have l_q := var_lt o_q
      obtain ⟨w5, hw5⟩ : ∃ y, y = w4.alloc (.cells #[.int .i64 b.Seed, .int .i64 b.Next, .slice A_z n c_z] 33) := ⟨_, rfl⟩
      have o_o := var_owns w4 33 3 [.int .i64 b.Seed, .int .i64 b.Next, .slice A_z n c_z] rfl
      have bw5 : Below w4.heap.size w4 w5 := hw5 ▸ (Below.refl _ _).alloc (Nat.le_refl _) _
      rw [← hw5] at o_o
      have sw5 : w5.heap.size = w4.heap.size + 1 := by rw [hw5]; simp
      have zw5 : w4.heap.size < w5.heap.size := by rw [hw5]; simp
      replace o_p := owns_below o_p bw5
      replace o_r := owns_below o_r bw5
      replace o_q := owns_below o_q bw5
      replace o_y := owns_below o_y bw5
      replace HB := HB.trans (bw5.mono HB.size)
      go_wp2_with fail
      rw [← hw5]
      clear hw5 sw5
      (refine (KV.out _ HB).mono ?_); rintro e w6 ⟨rfl, bw6⟩
      clear c_p0 f_p0 c_p1 f_p1 c_p2 f_p2 l_p c_r0 f_r0 c_r1 f_r1 c_r2 f_r2 l_r c_q0 f_q0 c_q1 f_q1 c_q2 f_q2 l_q
      replace o_p := owns_below o_p bw6
      replace o_r := owns_below o_r bw6
      replace o_q := owns_below o_q bw6
      replace o_o := owns_below o_o bw6
      replace o_y := owns_below o_y bw6
      replace HB := HB.trans (bw6.mono HB.size)
      have zw6 := bw6.size
      have c_p0 : w6.cell? ⟨w.heap.size, 0, none⟩ = some (.int .i64 b.Seed) := var_load o_p (by simp) 0 _ rfl
      have f_p0 : w6.frozen? ⟨w.heap.size, 0, none⟩ = false := var_frozen o_p (by simp) 0 _ rfl
      have c_p1 : w6.cell? ⟨w.heap.size, 1, none⟩ = some (.int .i64 b.Next) := var_load o_p (by simp) 1 _ rfl
      have f_p1 : w6.frozen? ⟨w.heap.size, 1, none⟩ = false := var_frozen o_p (by simp) 1 _ rfl
      have c_p2 : w6.cell? ⟨w.heap.size, 2, none⟩ = some (.slice A n c) := var_load o_p (by simp) 2 _ rfl
      have f_p2 : w6.frozen? ⟨w.heap.size, 2, none⟩ = false := var_frozen o_p (by simp) 2 _ rfl
      have l_p := var_lt o_p
      have c_r0 : w6.cell? ⟨(w.heap.size + 1), 0, none⟩ = some (.int .i64 0) := var_load o_r (by simp) 0 _ rfl
      have f_r0 : w6.frozen? ⟨(w.heap.size + 1), 0, none⟩ = false := var_frozen o_r (by simp) 0 _ rfl
      have c_r1 : w6.cell? ⟨(w.heap.size + 1), 1, none⟩ = some (.int .i64 0) := var_load o_r (by simp) 1 _ rfl
      have f_r1 : w6.frozen? ⟨(w.heap.size + 1), 1, none⟩ = false := var_frozen o_r (by simp) 1 _ rfl
      have c_r2 : w6.cell? ⟨(w.heap.size + 1), 2, none⟩ = some (.slice none 0 0) := var_load o_r (by simp) 2 _ rfl
      have f_r2 : w6.frozen? ⟨(w.heap.size + 1), 2, none⟩ = false := var_frozen o_r (by simp) 2 _ rfl
      have l_r := var_lt o_r
      have c_q0 : w6.cell? ⟨(w.heap.size + 1 + 1), 0, none⟩ = some (.int .i64 0) := var_load o_q (by simp) 0 _ rfl
      have f_q0 : w6.frozen? ⟨(w.heap.size + 1 + 1), 0, none⟩ = false := var_frozen o_q (by simp) 0 _ rfl
      have c_q1 : w6.cell? ⟨(w.heap.size + 1 + 1), 1, none⟩ = some (.int .i64 0) := var_load o_q (by simp) 1 _ rfl
      have f_q1 : w6.frozen? ⟨(w.heap.size + 1 + 1), 1, none⟩ = false := var_frozen o_q (by simp) 1 _ rfl
      have c_q2 : w6.cell? ⟨(w.heap.size + 1 + 1), 2, none⟩ = some (.int .i64 0) := var_load o_q (by simp) 2 _ rfl
      have f_q2 : w6.frozen? ⟨(w.heap.size + 1 + 1), 2, none⟩ = false := var_frozen o_q (by simp) 2 _ rfl
      have l_q := var_lt o_q
      have c_o0 : w6.cell? ⟨w4.heap.size, 0, none⟩ = some (.int .i64 b.Seed) := var_load o_o (by simp) 0 _ rfl
      have f_o0 : w6.frozen? ⟨w4.heap.size, 0, none⟩ = false := var_frozen o_o (by simp) 0 _ rfl
      have c_o1 : w6.cell? ⟨w4.heap.size, 1, none⟩ = some (.int .i64 b.Next) := var_load o_o (by simp) 1 _ rfl
      have f_o1 : w6.frozen? ⟨w4.heap.size, 1, none⟩ = false := var_frozen o_o (by simp) 1 _ rfl
      have c_o2 : w6.cell? ⟨w4.heap.size, 2, none⟩ = some (.slice A_z n c_z) := var_load o_o (by simp) 2 _ rfl
      have f_o2 : w6.frozen? ⟨w4.heap.size, 2, none⟩ = false := var_frozen o_o (by simp) 2 _ rfl
      have l_o := var_lt o_o
      go_wp2_with (first | (go_at_call 66; (with_reducible refine (C1.specIn_t _ _ _ _ (by omega) (by omega)).mono ?_); rintro e w' ⟨rfl, rfl⟩) | (go_at_call 66; (with_reducible refine (C1.specIn_f _ _ _ _ (by omega)).mono ?_); rintro e w' ⟨rfl, rfl⟩))
      clear c_p0 f_p0 c_p1 f_p1 c_p2 f_p2 l_p c_r0 f_r0 c_r1 f_r1 c_r2 f_r2 l_r c_q0 f_q0 c_q1 f_q1 c_q2 f_q2 l_q c_o0 f_o0 c_o1 f_o1 c_o2 f_o2 l_o
      obtain ⟨w7, hw7⟩ : ∃ y, y = (((w6.setCell ⟨(w.heap.size + 1), 0, none⟩ (.int .i64 b.Seed)).setCell ⟨(w.heap.size + 1), 1, none⟩ (.int .i64 b.Next)).setCell ⟨(w.heap.size + 1), 2, none⟩ (.slice A_z n c_z)) := ⟨_, rfl⟩
      obtain ⟨o_new, tw7⟩ := var_some [.int .i64 b.Seed, .int .i64 b.Next, .slice A_z n c_z] 0 _ _ o_r (by simp)
      rw [show setAll w6 ((w.heap.size + 1)) 0 [.int .i64 b.Seed, .int .i64 b.Next, .slice A_z n c_z] = w7 from hw7.symm] at o_new tw7
      replace o_r : Owns w7 _ (varD 33 3 [.int .i64 b.Seed, .int .i64 b.Next, .slice A_z n c_z]) _ _ := o_new
      clear o_new
      replace o_p := owns_turned o_p tw7 (fun b hb hb2 => by simp at hb hb2; omega)
      replace o_q := owns_turned o_q tw7 (fun b hb hb2 => by simp at hb hb2; omega)
      replace o_o := owns_turned o_o tw7 (fun b hb hb2 => by simp at hb hb2; omega)
      replace o_y := owns_turned o_y tw7 (fun b hb hb2 => by have h1 := i_y b hb; simp at hb2; omega)
      replace HB := below_turned HB tw7 (fun b hb => by simp at hb; omega)
      have zw7 := tw7.2.2.2.1
      rw [← hw7]
      clear hw7
      obtain ⟨w8, hw8⟩ : ∃ y, y = (((w7.setCell ⟨(w.heap.size + 1 + 1), 0, none⟩ (.int .i64 0)).setCell ⟨(w.heap.size + 1 + 1), 1, none⟩ (.int .i64 0)).setCell ⟨(w.heap.size + 1 + 1), 2, none⟩ (.int .i64 0)) := ⟨_, rfl⟩
      obtain ⟨o_new, tw8⟩ := var_some [.int .i64 0, .int .i64 0, .int .i64 0] 0 _ _ o_q (by simp)
      rw [show setAll w7 ((w.heap.size + 1 + 1)) 0 [.int .i64 0, .int .i64 0, .int .i64 0] = w8 from hw8.symm] at o_new tw8
      replace o_q : Owns w8 _ (varD 67 3 [.int .i64 0, .int .i64 0, .int .i64 0]) _ _ := o_new
      clear o_new
      replace o_p := owns_turned o_p tw8 (fun b hb hb2 => by simp at hb hb2; omega)
      replace o_r := owns_turned o_r tw8 (fun b hb hb2 => by simp at hb hb2; omega)
      replace o_o := owns_turned o_o tw8 (fun b hb hb2 => by simp at hb hb2; omega)
      replace o_y := owns_turned o_y tw8 (fun b hb hb2 => by have h1 := i_y b hb; simp at hb2; omega)
      replace HB := below_turned HB tw8 (fun b hb => by simp at hb; omega)
      have zw8 := tw8.2.2.2.1
      rw [← hw8]
      clear hw8
      have y0 : w8.cell? ⟨(w.heap.size + 1), 0, none⟩ = some (.int .i64 b.Seed) := var_load o_r (by simp) 0 _ rfl
      have y1 : w8.cell? ⟨(w.heap.size + 1), 1, none⟩ = some (.int .i64 b.Next) := var_load o_r (by simp) 1 _ rfl
      have y2 : w8.cell? ⟨(w.heap.size + 1), 2, none⟩ = some (.slice A_z n c_z) := var_load o_r (by simp) 2 _ rfl
      have u0 : w8.cell? ⟨(w.heap.size + 1 + 1), 0, none⟩ = some (.int .i64 0) := var_load o_q (by simp) 0 _ rfl
      have u1 : w8.cell? ⟨(w.heap.size + 1 + 1), 1, none⟩ = some (.int .i64 0) := var_load o_q (by simp) 1 _ rfl
      have u2 : w8.cell? ⟨(w.heap.size + 1 + 1), 2, none⟩ = some (.int .i64 0) := var_load o_q (by simp) 2 _ rfl
      refine bodyPost_ret (v := .tuple #[.agg #[.int .i64 b.Seed, .int .i64 b.Next, .slice A_z n c_z], .agg #[.int .i64 0, .int .i64 0, .int .i64 0], .bool false]) (by simp [results, Tryz.results36, go_sem, y0, y1, y2, u0, u1, u2]) rfl ?_
      exact made_is HXS.out rfl rfl HL.out rfl o_y ny HB
    by_cases h3 : 0 ≤ a ∧ a ≤ 1000000
    · by_cases h4 : 0 ≤ now ∧ now ≤ 1000000
      · skip
        have h2b : (b.Next == 1000000) = false := by simpa using h2
        have e1 : issOk b a now = true := by unfold issOk; rw [h1, h2b, decide_eq_true h3, decide_eq_true h4]; rfl
        obtain ⟨e2, e3⟩ := issX_t e1
        rw [e1, e2, e3]
        clear e1 e2 e3 h1
        obtain ⟨h3a, h3b⟩ := h3
        obtain ⟨h4a, h4b⟩ := h4
        go_enter Tryz.func36, Tryz.ntmps36
        obtain ⟨w1, hw1⟩ : ∃ y, y = w.alloc (.cells #[.int .i64 b.Seed, .int .i64 b.Next, .slice A n c] 33) := ⟨_, rfl⟩
        have o_p := var_owns w 33 3 [.int .i64 b.Seed, .int .i64 b.Next, .slice A n c] rfl
        have bw1 : Below w.heap.size w w1 := hw1 ▸ (Below.refl _ _).alloc (Nat.le_refl _) _
        rw [← hw1] at o_p
        have sw1 : w1.heap.size = w.heap.size + 1 := by rw [hw1]; simp
        have zw1 : w.heap.size < w1.heap.size := by rw [hw1]; simp
        have HB := bw1
        obtain ⟨w2, hw2⟩ : ∃ y, y = w1.alloc (.cells #[.int .i64 0, .int .i64 0, .slice none 0 0] 33) := ⟨_, rfl⟩
        have o_r := var_owns w1 33 3 [.int .i64 0, .int .i64 0, .slice none 0 0] rfl
        have bw2 : Below w1.heap.size w1 w2 := hw2 ▸ (Below.refl _ _).alloc (Nat.le_refl _) _
        rw [← hw2] at o_r
        rw [sw1] at o_r
        have sw2 : w2.heap.size = w.heap.size + 1 + 1 := by rw [hw2]; simp [sw1]
        have zw2 : w1.heap.size < w2.heap.size := by rw [hw2]; simp
        replace o_p := owns_below o_p bw2
        replace HB := HB.trans (bw2.mono HB.size)
        obtain ⟨w3, hw3⟩ : ∃ y, y = w2.alloc (.cells #[.int .i64 0, .int .i64 0, .int .i64 0] 67) := ⟨_, rfl⟩
        have o_q := var_owns w2 67 3 [.int .i64 0, .int .i64 0, .int .i64 0] rfl
        have bw3 : Below w2.heap.size w2 w3 := hw3 ▸ (Below.refl _ _).alloc (Nat.le_refl _) _
        rw [← hw3] at o_q
        rw [sw2] at o_q
        have sw3 : w3.heap.size = w.heap.size + 1 + 1 + 1 := by rw [hw3]; simp [sw2]
        have zw3 : w2.heap.size < w3.heap.size := by rw [hw3]; simp
        replace o_p := owns_below o_p bw3
        replace o_r := owns_below o_r bw3
        replace HB := HB.trans (bw3.mono HB.size)
        go_wp2_with fail
        rw [← hw1, ← hw2, ← hw3]
        clear hw1 hw2 hw3 sw1 sw2 sw3
        (refine (KC.out _ HB).mono ?_); rintro e w4 ⟨v_z, s_z, rfl, o_z, n_z, bw4⟩
        replace o_p := owns_below o_p bw4
        replace o_r := owns_below o_r bw4
        replace o_q := owns_below o_q bw4
        replace HB := HB.trans (bw4.mono HB.size)
        have zw4 := bw4.size
        obtain ⟨A_z, c_z, b_z, rfl, o_y, hby⟩ := ChallengeBook.owns o_z
        unfold ChallengesD at o_y
        rw [← HXS.out, ← HL.out] at o_y
        rw [show b.Open.length = n by rw [← HXS.out, ← HL.out]]
        have i_y := Fx.made_in o_y
        replace o_y := owns_base (show w.heap.size ≤ w3.heap.size by omega) _ _ _ o_y
        have ny : b_z.Nodup := (show s_z = b_z by simpa using hby) ▸ n_z
        clear o_z hby
        have c_p0 : w4.cell? ⟨w.heap.size, 0, none⟩ = some (.int .i64 b.Seed) := var_load o_p (by simp) 0 _ rfl
        have f_p0 : w4.frozen? ⟨w.heap.size, 0, none⟩ = false := var_frozen o_p (by simp) 0 _ rfl
        have c_p1 : w4.cell? ⟨w.heap.size, 1, none⟩ = some (.int .i64 b.Next) := var_load o_p (by simp) 1 _ rfl
        have f_p1 : w4.frozen? ⟨w.heap.size, 1, none⟩ = false := var_frozen o_p (by simp) 1 _ rfl
        have c_p2 : w4.cell? ⟨w.heap.size, 2, none⟩ = some (.slice A n c) := var_load o_p (by simp) 2 _ rfl
        have f_p2 : w4.frozen? ⟨w.heap.size, 2, none⟩ = false := var_frozen o_p (by simp) 2 _ rfl
        have l_p := var_lt o_p
        have c_r0 : w4.cell? ⟨(w.heap.size + 1), 0, none⟩ = some (.int .i64 0) := var_load o_r (by simp) 0 _ rfl
        have f_r0 : w4.frozen? ⟨(w.heap.size + 1), 0, none⟩ = false := var_frozen o_r (by simp) 0 _ rfl
        have c_r1 : w4.cell? ⟨(w.heap.size + 1), 1, none⟩ = some (.int .i64 0) := var_load o_r (by simp) 1 _ rfl
        have f_r1 : w4.frozen? ⟨(w.heap.size + 1), 1, none⟩ = false := var_frozen o_r (by simp) 1 _ rfl
        have c_r2 : w4.cell? ⟨(w.heap.size + 1), 2, none⟩ = some (.slice none 0 0) := var_load o_r (by simp) 2 _ rfl
        have f_r2 : w4.frozen? ⟨(w.heap.size + 1), 2, none⟩ = false := var_frozen o_r (by simp) 2 _ rfl
        have l_r := var_lt o_r
        have c_q0 : w4.cell? ⟨(w.heap.size + 1 + 1), 0, none⟩ = some (.int .i64 0) := var_load o_q (by simp) 0 _ rfl
        have f_q0 : w4.frozen? ⟨(w.heap.size + 1 + 1), 0, none⟩ = false := var_frozen o_q (by simp) 0 _ rfl
        have c_q1 : w4.cell? ⟨(w.heap.size + 1 + 1), 1, none⟩ = some (.int .i64 0) := var_load o_q (by simp) 1 _ rfl
        have f_q1 : w4.frozen? ⟨(w.heap.size + 1 + 1), 1, none⟩ = false := var_frozen o_q (by simp) 1 _ rfl
        have c_q2 : w4.cell? ⟨(w.heap.size + 1 + 1), 2, none⟩ = some (.int .i64 0) := var_load o_q (by simp) 2 _ rfl
        have f_q2 : w4.frozen? ⟨(w.heap.size + 1 + 1), 2, none⟩ = false := var_frozen o_q (by simp) 2 _ rfl
        have l_q := var_lt o_q
        obtain ⟨w5, hw5⟩ : ∃ y, y = w4.alloc (.cells #[.int .i64 b.Seed, .int .i64 b.Next, .slice A_z n c_z] 33) := ⟨_, rfl⟩
        have o_o := var_owns w4 33 3 [.int .i64 b.Seed, .int .i64 b.Next, .slice A_z n c_z] rfl
        have bw5 : Below w4.heap.size w4 w5 := hw5 ▸ (Below.refl _ _).alloc (Nat.le_refl _) _
        rw [← hw5] at o_o
        have sw5 : w5.heap.size = w4.heap.size + 1 := by rw [hw5]; simp
        have zw5 : w4.heap.size < w5.heap.size := by rw [hw5]; simp
        replace o_p := owns_below o_p bw5
        replace o_r := owns_below o_r bw5
        replace o_q := owns_below o_q bw5
        replace o_y := owns_below o_y bw5
        replace HB := HB.trans (bw5.mono HB.size)
        go_wp2_with fail
        rw [← hw5]
        clear hw5 sw5
        (refine (KV.out _ HB).mono ?_); rintro e w6 ⟨rfl, bw6⟩
        clear c_p0 f_p0 c_p1 f_p1 c_p2 f_p2 l_p c_r0 f_r0 c_r1 f_r1 c_r2 f_r2 l_r c_q0 f_q0 c_q1 f_q1 c_q2 f_q2 l_q
        replace o_p := owns_below o_p bw6
        replace o_r := owns_below o_r bw6
        replace o_q := owns_below o_q bw6
        replace o_o := owns_below o_o bw6
        replace o_y := owns_below o_y bw6
        replace HB := HB.trans (bw6.mono HB.size)
        have zw6 := bw6.size
        have h4d : -9223372036854775808 ≤ now + 5 ∧ now + 5 ≤ 9223372036854775807 := by omega
        by_cases h5 : n < 16
        · have h5b : decide ((n : Int) ≥ 16) = false := by simp; omega
          have HD := Lib.hid (show xs = b.Open.drop (b.Open.length - 15) by rw [← HXS.out, ← HL.out, show n - 15 = 0 by omega, List.drop_zero])
          have c_p0 : w6.cell? ⟨w.heap.size, 0, none⟩ = some (.int .i64 b.Seed) := var_load o_p (by simp) 0 _ rfl
          have f_p0 : w6.frozen? ⟨w.heap.size, 0, none⟩ = false := var_frozen o_p (by simp) 0 _ rfl
          have c_p1 : w6.cell? ⟨w.heap.size, 1, none⟩ = some (.int .i64 b.Next) := var_load o_p (by simp) 1 _ rfl
          have f_p1 : w6.frozen? ⟨w.heap.size, 1, none⟩ = false := var_frozen o_p (by simp) 1 _ rfl
          have c_p2 : w6.cell? ⟨w.heap.size, 2, none⟩ = some (.slice A n c) := var_load o_p (by simp) 2 _ rfl
          have f_p2 : w6.frozen? ⟨w.heap.size, 2, none⟩ = false := var_frozen o_p (by simp) 2 _ rfl
          have l_p := var_lt o_p
          have c_r0 : w6.cell? ⟨(w.heap.size + 1), 0, none⟩ = some (.int .i64 0) := var_load o_r (by simp) 0 _ rfl
          have f_r0 : w6.frozen? ⟨(w.heap.size + 1), 0, none⟩ = false := var_frozen o_r (by simp) 0 _ rfl
          have c_r1 : w6.cell? ⟨(w.heap.size + 1), 1, none⟩ = some (.int .i64 0) := var_load o_r (by simp) 1 _ rfl
          have f_r1 : w6.frozen? ⟨(w.heap.size + 1), 1, none⟩ = false := var_frozen o_r (by simp) 1 _ rfl
          have c_r2 : w6.cell? ⟨(w.heap.size + 1), 2, none⟩ = some (.slice none 0 0) := var_load o_r (by simp) 2 _ rfl
          have f_r2 : w6.frozen? ⟨(w.heap.size + 1), 2, none⟩ = false := var_frozen o_r (by simp) 2 _ rfl
          have l_r := var_lt o_r
          have c_q0 : w6.cell? ⟨(w.heap.size + 1 + 1), 0, none⟩ = some (.int .i64 0) := var_load o_q (by simp) 0 _ rfl
          have f_q0 : w6.frozen? ⟨(w.heap.size + 1 + 1), 0, none⟩ = false := var_frozen o_q (by simp) 0 _ rfl
          have c_q1 : w6.cell? ⟨(w.heap.size + 1 + 1), 1, none⟩ = some (.int .i64 0) := var_load o_q (by simp) 1 _ rfl
          have f_q1 : w6.frozen? ⟨(w.heap.size + 1 + 1), 1, none⟩ = false := var_frozen o_q (by simp) 1 _ rfl
          have c_q2 : w6.cell? ⟨(w.heap.size + 1 + 1), 2, none⟩ = some (.int .i64 0) := var_load o_q (by simp) 2 _ rfl
          have f_q2 : w6.frozen? ⟨(w.heap.size + 1 + 1), 2, none⟩ = false := var_frozen o_q (by simp) 2 _ rfl
          have l_q := var_lt o_q
          have c_o0 : w6.cell? ⟨w4.heap.size, 0, none⟩ = some (.int .i64 b.Seed) := var_load o_o (by simp) 0 _ rfl
          have f_o0 : w6.frozen? ⟨w4.heap.size, 0, none⟩ = false := var_frozen o_o (by simp) 0 _ rfl
          have c_o1 : w6.cell? ⟨w4.heap.size, 1, none⟩ = some (.int .i64 b.Next) := var_load o_o (by simp) 1 _ rfl
          have f_o1 : w6.frozen? ⟨w4.heap.size, 1, none⟩ = false := var_frozen o_o (by simp) 1 _ rfl
          have c_o2 : w6.cell? ⟨w4.heap.size, 2, none⟩ = some (.slice A_z n c_z) := var_load o_o (by simp) 2 _ rfl
          have f_o2 : w6.frozen? ⟨w4.heap.size, 2, none⟩ = false := var_frozen o_o (by simp) 2 _ rfl
          have l_o := var_lt o_o
          go_upto_region 6 with (first | (go_at_call 66; (with_reducible refine (C1.specIn_t _ _ _ _ (by omega) (by omega)).mono ?_); rintro e w' ⟨rfl, rfl⟩) | (go_at_call 66; (with_reducible refine (C1.specIn_f _ _ _ _ (by omega)).mono ?_); rintro e w' ⟨rfl, rfl⟩))
          clear c_p0 f_p0 c_p1 f_p1 c_p2 f_p2 l_p c_r0 f_r0 c_r1 f_r1 c_r2 f_r2 l_r c_q0 f_q0 c_q1 f_q1 c_q2 f_q2 l_q c_o0 f_o0 c_o1 f_o1 c_o2 f_o2 l_o
          have c_p0 : w6.cell? ⟨w.heap.size, 0, none⟩ = some (.int .i64 b.Seed) := var_load o_p (by simp) 0 _ rfl
          have f_p0 : w6.frozen? ⟨w.heap.size, 0, none⟩ = false := var_frozen o_p (by simp) 0 _ rfl
          have c_p1 : w6.cell? ⟨w.heap.size, 1, none⟩ = some (.int .i64 b.Next) := var_load o_p (by simp) 1 _ rfl
          have f_p1 : w6.frozen? ⟨w.heap.size, 1, none⟩ = false := var_frozen o_p (by simp) 1 _ rfl
          have c_p2 : w6.cell? ⟨w.heap.size, 2, none⟩ = some (.slice A n c) := var_load o_p (by simp) 2 _ rfl
          have f_p2 : w6.frozen? ⟨w.heap.size, 2, none⟩ = false := var_frozen o_p (by simp) 2 _ rfl
          have l_p := var_lt o_p
          have c_r0 : w6.cell? ⟨(w.heap.size + 1), 0, none⟩ = some (.int .i64 0) := var_load o_r (by simp) 0 _ rfl
          have f_r0 : w6.frozen? ⟨(w.heap.size + 1), 0, none⟩ = false := var_frozen o_r (by simp) 0 _ rfl
          have c_r1 : w6.cell? ⟨(w.heap.size + 1), 1, none⟩ = some (.int .i64 0) := var_load o_r (by simp) 1 _ rfl
          have f_r1 : w6.frozen? ⟨(w.heap.size + 1), 1, none⟩ = false := var_frozen o_r (by simp) 1 _ rfl
          have c_r2 : w6.cell? ⟨(w.heap.size + 1), 2, none⟩ = some (.slice none 0 0) := var_load o_r (by simp) 2 _ rfl
          have f_r2 : w6.frozen? ⟨(w.heap.size + 1), 2, none⟩ = false := var_frozen o_r (by simp) 2 _ rfl
          have l_r := var_lt o_r
          have c_q0 : w6.cell? ⟨(w.heap.size + 1 + 1), 0, none⟩ = some (.int .i64 0) := var_load o_q (by simp) 0 _ rfl
          have f_q0 : w6.frozen? ⟨(w.heap.size + 1 + 1), 0, none⟩ = false := var_frozen o_q (by simp) 0 _ rfl
          have c_q1 : w6.cell? ⟨(w.heap.size + 1 + 1), 1, none⟩ = some (.int .i64 0) := var_load o_q (by simp) 1 _ rfl
          have f_q1 : w6.frozen? ⟨(w.heap.size + 1 + 1), 1, none⟩ = false := var_frozen o_q (by simp) 1 _ rfl
          have c_q2 : w6.cell? ⟨(w.heap.size + 1 + 1), 2, none⟩ = some (.int .i64 0) := var_load o_q (by simp) 2 _ rfl
          have f_q2 : w6.frozen? ⟨(w.heap.size + 1 + 1), 2, none⟩ = false := var_frozen o_q (by simp) 2 _ rfl
          have l_q := var_lt o_q
          have c_o0 : w6.cell? ⟨w4.heap.size, 0, none⟩ = some (.int .i64 b.Seed) := var_load o_o (by simp) 0 _ rfl
          have f_o0 : w6.frozen? ⟨w4.heap.size, 0, none⟩ = false := var_frozen o_o (by simp) 0 _ rfl
          have c_o1 : w6.cell? ⟨w4.heap.size, 1, none⟩ = some (.int .i64 b.Next) := var_load o_o (by simp) 1 _ rfl
          have f_o1 : w6.frozen? ⟨w4.heap.size, 1, none⟩ = false := var_frozen o_o (by simp) 1 _ rfl
          have c_o2 : w6.cell? ⟨w4.heap.size, 2, none⟩ = some (.slice A_z n c_z) := var_load o_o (by simp) 2 _ rfl
          have f_o2 : w6.frozen? ⟨w4.heap.size, 2, none⟩ = false := var_frozen o_o (by simp) 2 _ rfl
          have l_o := var_lt o_o
          obtain ⟨w7, hw7⟩ : ∃ y, y = w6.alloc (.cells #[.int .i64 b.Next, .int .i64 a, .int .i64 (now + 5)] 67) := ⟨_, rfl⟩
          have o_x := var_owns w6 67 3 [.int .i64 b.Next, .int .i64 a, .int .i64 (now + 5)] rfl
          have bw7 : Below w6.heap.size w6 w7 := hw7 ▸ (Below.refl _ _).alloc (Nat.le_refl _) _
          rw [← hw7] at o_x
          have sw7 : w7.heap.size = w6.heap.size + 1 := by rw [hw7]; simp
          have zw7 : w6.heap.size < w7.heap.size := by rw [hw7]; simp
          replace o_p := owns_below o_p bw7
          replace o_r := owns_below o_r bw7
          replace o_q := owns_below o_q bw7
          replace o_o := owns_below o_o bw7
          replace o_y := owns_below o_y bw7
          replace HB := HB.trans (bw7.mono HB.size)
          obtain ⟨w8, hw8⟩ : ∃ y, y = w7.alloc (.cells #[.int .i64 b.Next, .int .i64 a, .int .i64 (now + 5)] 67) := ⟨_, rfl⟩
          have o_e := var_owns w7 67 3 [.int .i64 b.Next, .int .i64 a, .int .i64 (now + 5)] rfl
          have bw8 : Below w7.heap.size w7 w8 := hw8 ▸ (Below.refl _ _).alloc (Nat.le_refl _) _
          rw [← hw8] at o_e
          rw [sw7] at o_e
          have sw8 : w8.heap.size = w6.heap.size + 1 + 1 := by rw [hw8]; simp [sw7]
          have zw8 : w7.heap.size < w8.heap.size := by rw [hw8]; simp
          replace o_p := owns_below o_p bw8
          replace o_r := owns_below o_r bw8
          replace o_q := owns_below o_q bw8
          replace o_o := owns_below o_o bw8
          replace o_x := owns_below o_x bw8
          replace o_y := owns_below o_y bw8
          replace HB := HB.trans (bw8.mono HB.size)
          go_wp2_with (at_builtin; rw [← hw7, ← hw8]; clear hw7 hw8 sw7 sw8; refine app_ch rfl _ _ rfl w.heap.size _ _ (xs) b_z rfl o_y ny (w6.heap.size + 1) 1 ⟨b.Next, a, now + 5⟩ rfl (var_load o_e (by simp) 0 _ rfl) (var_load o_e (by simp) 1 _ rfl) (var_load o_e (by simp) 2 _ rfl) (by omega) HB.size ?_; intro v_n s_n w9 o_n n_n T_n M_n; have i_n : ∀ y, y ∈ s_n → (w3.heap.size ≤ y ∧ y < w4.heap.size) ∨ y = w8.heap.size := fun y hy => (M_n y hy).imp (i_y y) id; obtain ⟨A_n, c_n, rfl⟩ := owns_slice o_n; have zw9 := T_n.2.2.2.1; replace o_p := owns_turned o_p T_n (fun b hb hb2 => by have h1 := i_y b (own_mem o_y b hb2); simp at hb; omega); replace o_r := owns_turned o_r T_n (fun b hb hb2 => by have h1 := i_y b (own_mem o_y b hb2); simp at hb; omega); replace o_q := owns_turned o_q T_n (fun b hb hb2 => by have h1 := i_y b (own_mem o_y b hb2); simp at hb; omega); replace o_o := owns_turned o_o T_n (fun b hb hb2 => by have h1 := i_y b (own_mem o_y b hb2); simp at hb; omega); replace o_x := owns_turned o_x T_n (fun b hb hb2 => by have h1 := i_y b (own_mem o_y b hb2); simp at hb; omega); replace o_e := owns_turned o_e T_n (fun b hb hb2 => by have h1 := i_y b (own_mem o_y b hb2); simp at hb; omega); replace HB := below_turned HB T_n (fun b hb => by have h1 := i_y b (own_mem o_y b hb); omega); clear o_y ny T_n M_n c_p0 f_p0 c_p1 f_p1 c_p2 f_p2 l_p c_r0 f_r0 c_r1 f_r1 c_r2 f_r2 l_r c_q0 f_q0 c_q1 f_q1 c_q2 f_q2 l_q c_o0 f_o0 c_o1 f_o1 c_o2 f_o2 l_o; have c_p0 : w9.cell? ⟨w.heap.size, 0, none⟩ = some (.int .i64 b.Seed) := var_load o_p (by simp) 0 _ rfl; have f_p0 : w9.frozen? ⟨w.heap.size, 0, none⟩ = false := var_frozen o_p (by simp) 0 _ rfl; have c_p1 : w9.cell? ⟨w.heap.size, 1, none⟩ = some (.int .i64 b.Next) := var_load o_p (by simp) 1 _ rfl; have f_p1 : w9.frozen? ⟨w.heap.size, 1, none⟩ = false := var_frozen o_p (by simp) 1 _ rfl; have c_p2 : w9.cell? ⟨w.heap.size, 2, none⟩ = some (.slice A n c) := var_load o_p (by simp) 2 _ rfl; have f_p2 : w9.frozen? ⟨w.heap.size, 2, none⟩ = false := var_frozen o_p (by simp) 2 _ rfl; have l_p := var_lt o_p; have c_r0 : w9.cell? ⟨(w.heap.size + 1), 0, none⟩ = some (.int .i64 0) := var_load o_r (by simp) 0 _ rfl; have f_r0 : w9.frozen? ⟨(w.heap.size + 1), 0, none⟩ = false := var_frozen o_r (by simp) 0 _ rfl; have c_r1 : w9.cell? ⟨(w.heap.size + 1), 1, none⟩ = some (.int .i64 0) := var_load o_r (by simp) 1 _ rfl; have f_r1 : w9.frozen? ⟨(w.heap.size + 1), 1, none⟩ = false := var_frozen o_r (by simp) 1 _ rfl; have c_r2 : w9.cell? ⟨(w.heap.size + 1), 2, none⟩ = some (.slice none 0 0) := var_load o_r (by simp) 2 _ rfl; have f_r2 : w9.frozen? ⟨(w.heap.size + 1), 2, none⟩ = false := var_frozen o_r (by simp) 2 _ rfl; have l_r := var_lt o_r; have c_q0 : w9.cell? ⟨(w.heap.size + 1 + 1), 0, none⟩ = some (.int .i64 0) := var_load o_q (by simp) 0 _ rfl; have f_q0 : w9.frozen? ⟨(w.heap.size + 1 + 1), 0, none⟩ = false := var_frozen o_q (by simp) 0 _ rfl; have c_q1 : w9.cell? ⟨(w.heap.size + 1 + 1), 1, none⟩ = some (.int .i64 0) := var_load o_q (by simp) 1 _ rfl; have f_q1 : w9.frozen? ⟨(w.heap.size + 1 + 1), 1, none⟩ = false := var_frozen o_q (by simp) 1 _ rfl; have c_q2 : w9.cell? ⟨(w.heap.size + 1 + 1), 2, none⟩ = some (.int .i64 0) := var_load o_q (by simp) 2 _ rfl; have f_q2 : w9.frozen? ⟨(w.heap.size + 1 + 1), 2, none⟩ = false := var_frozen o_q (by simp) 2 _ rfl; have l_q := var_lt o_q; have c_o0 : w9.cell? ⟨w4.heap.size, 0, none⟩ = some (.int .i64 b.Seed) := var_load o_o (by simp) 0 _ rfl; have f_o0 : w9.frozen? ⟨w4.heap.size, 0, none⟩ = false := var_frozen o_o (by simp) 0 _ rfl; have c_o1 : w9.cell? ⟨w4.heap.size, 1, none⟩ = some (.int .i64 b.Next) := var_load o_o (by simp) 1 _ rfl; have f_o1 : w9.frozen? ⟨w4.heap.size, 1, none⟩ = false := var_frozen o_o (by simp) 1 _ rfl; have c_o2 : w9.cell? ⟨w4.heap.size, 2, none⟩ = some (.slice A_z n c_z) := var_load o_o (by simp) 2 _ rfl; have f_o2 : w9.frozen? ⟨w4.heap.size, 2, none⟩ = false := var_frozen o_o (by simp) 2 _ rfl; have l_o := var_lt o_o; have c_x0 : w9.cell? ⟨w6.heap.size, 0, none⟩ = some (.int .i64 b.Next) := var_load o_x (by simp) 0 _ rfl; have f_x0 : w9.frozen? ⟨w6.heap.size, 0, none⟩ = false := var_frozen o_x (by simp) 0 _ rfl; have c_x1 : w9.cell? ⟨w6.heap.size, 1, none⟩ = some (.int .i64 a) := var_load o_x (by simp) 1 _ rfl; have f_x1 : w9.frozen? ⟨w6.heap.size, 1, none⟩ = false := var_frozen o_x (by simp) 1 _ rfl; have c_x2 : w9.cell? ⟨w6.heap.size, 2, none⟩ = some (.int .i64 (now + 5)) := var_load o_x (by simp) 2 _ rfl; have f_x2 : w9.frozen? ⟨w6.heap.size, 2, none⟩ = false := var_frozen o_x (by simp) 2 _ rfl; have l_x := var_lt o_x; have c_e0 : w9.cell? ⟨(w6.heap.size + 1), 0, none⟩ = some (.int .i64 b.Next) := var_load o_e (by simp) 0 _ rfl; have f_e0 : w9.frozen? ⟨(w6.heap.size + 1), 0, none⟩ = false := var_frozen o_e (by simp) 0 _ rfl; have c_e1 : w9.cell? ⟨(w6.heap.size + 1), 1, none⟩ = some (.int .i64 a) := var_load o_e (by simp) 1 _ rfl; have f_e1 : w9.frozen? ⟨(w6.heap.size + 1), 1, none⟩ = false := var_frozen o_e (by simp) 1 _ rfl; have c_e2 : w9.cell? ⟨(w6.heap.size + 1), 2, none⟩ = some (.int .i64 (now + 5)) := var_load o_e (by simp) 2 _ rfl; have f_e2 : w9.frozen? ⟨(w6.heap.size + 1), 2, none⟩ = false := var_frozen o_e (by simp) 2 _ rfl; have l_e := var_lt o_e)
          clear c_p0 f_p0 c_p1 f_p1 c_p2 f_p2 l_p c_r0 f_r0 c_r1 f_r1 c_r2 f_r2 l_r c_q0 f_q0 c_q1 f_q1 c_q2 f_q2 l_q c_o0 f_o0 c_o1 f_o1 c_o2 f_o2 l_o c_x0 f_x0 c_x1 f_x1 c_x2 f_x2 l_x c_e0 f_e0 c_e1 f_e1 c_e2 f_e2 l_e
          obtain ⟨w10, hw10⟩ : ∃ y, y = (w9.setCell ⟨w4.heap.size, 2, none⟩ (.slice A_n (n + 1) c_n)) := ⟨_, rfl⟩
          obtain ⟨o_new, tw10⟩ := var_some [.slice A_n (n + 1) c_n] 2 _ _ o_o (by simp)
          rw [show setAll w9 (w4.heap.size) 2 [.slice A_n (n + 1) c_n] = w10 from hw10.symm] at o_new tw10
          replace o_o : Owns w10 _ (varD 33 3 [.int .i64 b.Seed, .int .i64 b.Next, .slice A_n (n + 1) c_n]) _ _ := o_new
          clear o_new
          replace o_p := owns_turned o_p tw10 (fun b hb hb2 => by simp at hb hb2; omega)
          replace o_r := owns_turned o_r tw10 (fun b hb hb2 => by simp at hb hb2; omega)
          replace o_q := owns_turned o_q tw10 (fun b hb hb2 => by simp at hb hb2; omega)
          replace o_x := owns_turned o_x tw10 (fun b hb hb2 => by simp at hb hb2; omega)
          replace o_e := owns_turned o_e tw10 (fun b hb hb2 => by simp at hb hb2; omega)
          replace o_n := owns_turned o_n tw10 (fun b hb hb2 => by have h1 := i_n b hb; simp at hb2; omega)
          replace HB := below_turned HB tw10 (fun b hb => by simp at hb; omega)
          have zw10 := tw10.2.2.2.1
          rw [← hw10]
          clear hw10
          obtain ⟨w11, hw11⟩ : ∃ y, y = (w10.setCell ⟨w4.heap.size, 1, none⟩ (.int .i64 (b.Next + 1))) := ⟨_, rfl⟩
          obtain ⟨o_new, tw11⟩ := var_some [.int .i64 (b.Next + 1)] 1 _ _ o_o (by simp)
          rw [show setAll w10 (w4.heap.size) 1 [.int .i64 (b.Next + 1)] = w11 from hw11.symm] at o_new tw11
          replace o_o : Owns w11 _ (varD 33 3 [.int .i64 b.Seed, .int .i64 (b.Next + 1), .slice A_n (n + 1) c_n]) _ _ := o_new
          clear o_new
          replace o_p := owns_turned o_p tw11 (fun b hb hb2 => by simp at hb hb2; omega)
          replace o_r := owns_turned o_r tw11 (fun b hb hb2 => by simp at hb hb2; omega)
          replace o_q := owns_turned o_q tw11 (fun b hb hb2 => by simp at hb hb2; omega)
          replace o_x := owns_turned o_x tw11 (fun b hb hb2 => by simp at hb hb2; omega)
          replace o_e := owns_turned o_e tw11 (fun b hb hb2 => by simp at hb hb2; omega)
          replace o_n := owns_turned o_n tw11 (fun b hb hb2 => by have h1 := i_n b hb; simp at hb2; omega)
          replace HB := below_turned HB tw11 (fun b hb => by simp at hb; omega)
          have zw11 := tw11.2.2.2.1
          rw [← hw11]
          clear hw11
          obtain ⟨w12, hw12⟩ : ∃ y, y = w11.drew := ⟨_, rfl⟩
          have bw12 : Below w11.heap.size w11 w12 := hw12 ▸ drewN_below w11 1 _
          replace o_p := owns_below o_p bw12
          replace o_r := owns_below o_r bw12
          replace o_q := owns_below o_q bw12
          replace o_o := owns_below o_o bw12
          replace o_x := owns_below o_x bw12
          replace o_e := owns_below o_e bw12
          replace o_n := owns_below o_n bw12
          replace HB := HB.trans (bw12.mono HB.size)
          have zw12 := bw12.size
          refine wp_region_held_drew (S := (fun wx => wx.cell? ⟨w4.heap.size, 0, none⟩ = some (.int .i64 b.Seed) ∧ wx.cell? ⟨w4.heap.size, 1, none⟩ = some (.int .i64 (b.Next + 1)) ∧ wx.cell? ⟨w4.heap.size, 2, none⟩ = some (.slice A_n (n + 1) c_n) ∧ wx.cell? ⟨w6.heap.size, 0, none⟩ = some (.int .i64 b.Next) ∧ wx.cell? ⟨w6.heap.size, 1, none⟩ = some (.int .i64 a) ∧ wx.cell? ⟨w6.heap.size, 2, none⟩ = some (.int .i64 (now + 5)))) (by kernel_rfl) ?_ (fun hHeld => ?_)
          · rw [← hw12]; exact ⟨var_load o_o (by simp) 0 _ rfl, var_load o_o (by simp) 1 _ rfl, var_load o_o (by simp) 2 _ rfl, var_load o_x (by simp) 0 _ rfl, var_load o_x (by simp) 1 _ rfl, var_load o_x (by simp) 2 _ rfl⟩
          rw [← hw12] at hHeld ⊢
          clear hw12
          refine wpAnyH_take (i := 0) (oi := ?oiz1_0_1) (v := ?vz1_0_1) ?hiz1_0_1 (by kernel_rfl) (by kernel_rfl) (by kernel_rfl) ?hQz1_0_1 (Or.inl ⟨?hwz1_0_1, ?hyz1_0_1⟩) (by assumption) ?_
          case hiz1_0_1 => simp only [List.getElem?_toArray, List.getElem?_cons_zero]; rfl
          case hQz1_0_1 => exact fun _ _ _ h => h
          case hwz1_0_1 => rfl
          case hyz1_0_1 => intro w hSw; (try dsimp only at hSw); (first | (go_simp; done) | (go_simp; with_reducible rfl))
          try simp only [Act.put, List.setIfInBounds_toArray, List.set_cons_zero, List.set_cons_succ]
          refine wpAnyH_take (i := 1) (oi := ?oiz1_1_2) (v := ?vz1_1_2) ?hiz1_1_2 (by kernel_rfl) (by kernel_rfl) (by kernel_rfl) ?hQz1_1_2 (Or.inl ⟨?hwz1_1_2, ?hyz1_1_2⟩) (by assumption) ?_
          case hiz1_1_2 => simp only [List.getElem?_toArray, List.getElem?_cons_succ, List.getElem?_cons_zero]; rfl
          case hQz1_1_2 => exact fun _ _ _ h => h
          case hwz1_1_2 => rfl
          case hyz1_1_2 => intro w hSw; (try dsimp only at hSw); (first | (go_simp; done) | (go_simp; with_reducible rfl))
          try simp only [Act.put, List.setIfInBounds_toArray, List.set_cons_zero, List.set_cons_succ]
          refine wpAnyH_ready (rs := [2]) (by kernel_rfl) (by simp) ?_
          refine AllReadyH.cons (o := ?oz1_2_3) ?hiz1_2_3 (fun K hK => ?gz1_2_3) AllReadyH.nil
          case hiz1_2_3 => simp only [List.getElem?_toArray, List.getElem?_cons_succ, List.getElem?_cons_zero]; rfl
          case gz1_2_3 =>
            have c_p0 : w12.cell? ⟨w.heap.size, 0, none⟩ = some (.int .i64 b.Seed) := var_load o_p (by simp) 0 _ rfl
            have f_p0 : w12.frozen? ⟨w.heap.size, 0, none⟩ = false := var_frozen o_p (by simp) 0 _ rfl
            have c_p1 : w12.cell? ⟨w.heap.size, 1, none⟩ = some (.int .i64 b.Next) := var_load o_p (by simp) 1 _ rfl
            have f_p1 : w12.frozen? ⟨w.heap.size, 1, none⟩ = false := var_frozen o_p (by simp) 1 _ rfl
            have c_p2 : w12.cell? ⟨w.heap.size, 2, none⟩ = some (.slice A n c) := var_load o_p (by simp) 2 _ rfl
            have f_p2 : w12.frozen? ⟨w.heap.size, 2, none⟩ = false := var_frozen o_p (by simp) 2 _ rfl
            have l_p := var_lt o_p
            have c_r0 : w12.cell? ⟨(w.heap.size + 1), 0, none⟩ = some (.int .i64 0) := var_load o_r (by simp) 0 _ rfl
            have f_r0 : w12.frozen? ⟨(w.heap.size + 1), 0, none⟩ = false := var_frozen o_r (by simp) 0 _ rfl
            have c_r1 : w12.cell? ⟨(w.heap.size + 1), 1, none⟩ = some (.int .i64 0) := var_load o_r (by simp) 1 _ rfl
            have f_r1 : w12.frozen? ⟨(w.heap.size + 1), 1, none⟩ = false := var_frozen o_r (by simp) 1 _ rfl
            have c_r2 : w12.cell? ⟨(w.heap.size + 1), 2, none⟩ = some (.slice none 0 0) := var_load o_r (by simp) 2 _ rfl
            have f_r2 : w12.frozen? ⟨(w.heap.size + 1), 2, none⟩ = false := var_frozen o_r (by simp) 2 _ rfl
            have l_r := var_lt o_r
            have c_q0 : w12.cell? ⟨(w.heap.size + 1 + 1), 0, none⟩ = some (.int .i64 0) := var_load o_q (by simp) 0 _ rfl
            have f_q0 : w12.frozen? ⟨(w.heap.size + 1 + 1), 0, none⟩ = false := var_frozen o_q (by simp) 0 _ rfl
            have c_q1 : w12.cell? ⟨(w.heap.size + 1 + 1), 1, none⟩ = some (.int .i64 0) := var_load o_q (by simp) 1 _ rfl
            have f_q1 : w12.frozen? ⟨(w.heap.size + 1 + 1), 1, none⟩ = false := var_frozen o_q (by simp) 1 _ rfl
            have c_q2 : w12.cell? ⟨(w.heap.size + 1 + 1), 2, none⟩ = some (.int .i64 0) := var_load o_q (by simp) 2 _ rfl
            have f_q2 : w12.frozen? ⟨(w.heap.size + 1 + 1), 2, none⟩ = false := var_frozen o_q (by simp) 2 _ rfl
            have l_q := var_lt o_q
            have c_o0 : w12.cell? ⟨w4.heap.size, 0, none⟩ = some (.int .i64 b.Seed) := var_load o_o (by simp) 0 _ rfl
            have f_o0 : w12.frozen? ⟨w4.heap.size, 0, none⟩ = false := var_frozen o_o (by simp) 0 _ rfl
            have c_o1 : w12.cell? ⟨w4.heap.size, 1, none⟩ = some (.int .i64 (b.Next + 1)) := var_load o_o (by simp) 1 _ rfl
            have f_o1 : w12.frozen? ⟨w4.heap.size, 1, none⟩ = false := var_frozen o_o (by simp) 1 _ rfl
            have c_o2 : w12.cell? ⟨w4.heap.size, 2, none⟩ = some (.slice A_n (n + 1) c_n) := var_load o_o (by simp) 2 _ rfl
            have f_o2 : w12.frozen? ⟨w4.heap.size, 2, none⟩ = false := var_frozen o_o (by simp) 2 _ rfl
            have l_o := var_lt o_o
            have c_x0 : w12.cell? ⟨w6.heap.size, 0, none⟩ = some (.int .i64 b.Next) := var_load o_x (by simp) 0 _ rfl
            have f_x0 : w12.frozen? ⟨w6.heap.size, 0, none⟩ = false := var_frozen o_x (by simp) 0 _ rfl
            have c_x1 : w12.cell? ⟨w6.heap.size, 1, none⟩ = some (.int .i64 a) := var_load o_x (by simp) 1 _ rfl
            have f_x1 : w12.frozen? ⟨w6.heap.size, 1, none⟩ = false := var_frozen o_x (by simp) 1 _ rfl
            have c_x2 : w12.cell? ⟨w6.heap.size, 2, none⟩ = some (.int .i64 (now + 5)) := var_load o_x (by simp) 2 _ rfl
            have f_x2 : w12.frozen? ⟨w6.heap.size, 2, none⟩ = false := var_frozen o_x (by simp) 2 _ rfl
            have l_x := var_lt o_x
            have c_e0 : w12.cell? ⟨(w6.heap.size + 1), 0, none⟩ = some (.int .i64 b.Next) := var_load o_e (by simp) 0 _ rfl
            have f_e0 : w12.frozen? ⟨(w6.heap.size + 1), 0, none⟩ = false := var_frozen o_e (by simp) 0 _ rfl
            have c_e1 : w12.cell? ⟨(w6.heap.size + 1), 1, none⟩ = some (.int .i64 a) := var_load o_e (by simp) 1 _ rfl
            have f_e1 : w12.frozen? ⟨(w6.heap.size + 1), 1, none⟩ = false := var_frozen o_e (by simp) 1 _ rfl
            have c_e2 : w12.cell? ⟨(w6.heap.size + 1), 2, none⟩ = some (.int .i64 (now + 5)) := var_load o_e (by simp) 2 _ rfl
            have f_e2 : w12.frozen? ⟨(w6.heap.size + 1), 2, none⟩ = false := var_frozen o_e (by simp) 2 _ rfl
            have l_e := var_lt o_e
            go_simp
            clear c_p0 f_p0 c_p1 f_p1 c_p2 f_p2 l_p c_r0 f_r0 c_r1 f_r1 c_r2 f_r2 l_r c_q0 f_q0 c_q1 f_q1 c_q2 f_q2 l_q c_o0 f_o0 c_o1 f_o1 c_o2 f_o2 l_o c_x0 f_x0 c_x1 f_x1 c_x2 f_x2 l_x c_e0 f_e0 c_e1 f_e1 c_e2 f_e2 l_e
            obtain ⟨w13, hw13⟩ : ∃ y, y = (((w12.setCell ⟨(w.heap.size + 1), 0, none⟩ (.int .i64 b.Seed)).setCell ⟨(w.heap.size + 1), 1, none⟩ (.int .i64 (b.Next + 1))).setCell ⟨(w.heap.size + 1), 2, none⟩ (.slice A_n (n + 1) c_n)) := ⟨_, rfl⟩
            obtain ⟨o_new, tw13⟩ := var_some [.int .i64 b.Seed, .int .i64 (b.Next + 1), .slice A_n (n + 1) c_n] 0 _ _ o_r (by simp)
            rw [show setAll w12 ((w.heap.size + 1)) 0 [.int .i64 b.Seed, .int .i64 (b.Next + 1), .slice A_n (n + 1) c_n] = w13 from hw13.symm] at o_new tw13
            replace o_r : Owns w13 _ (varD 33 3 [.int .i64 b.Seed, .int .i64 (b.Next + 1), .slice A_n (n + 1) c_n]) _ _ := o_new
            clear o_new
            replace o_p := owns_turned o_p tw13 (fun b hb hb2 => by simp at hb hb2; omega)
            replace o_q := owns_turned o_q tw13 (fun b hb hb2 => by simp at hb hb2; omega)
            replace o_o := owns_turned o_o tw13 (fun b hb hb2 => by simp at hb hb2; omega)
            replace o_x := owns_turned o_x tw13 (fun b hb hb2 => by simp at hb hb2; omega)
            replace o_e := owns_turned o_e tw13 (fun b hb hb2 => by simp at hb hb2; omega)
            replace o_n := owns_turned o_n tw13 (fun b hb hb2 => by have h1 := i_n b hb; simp at hb2; omega)
            replace HB := below_turned HB tw13 (fun b hb => by simp at hb; omega)
            have zw13 := tw13.2.2.2.1
            rw [← hw13]
            clear hw13
            refine hK.out _ _ ?_ (fun hHeld => ?_)
            · exact ⟨var_load o_o (by simp) 0 _ rfl, var_load o_o (by simp) 1 _ rfl, var_load o_o (by simp) 2 _ rfl, var_load o_x (by simp) 0 _ rfl, var_load o_x (by simp) 1 _ rfl, var_load o_x (by simp) 2 _ rfl⟩
            clear hK K
            try simp only [Act.put, List.setIfInBounds_toArray, List.set_cons_zero, List.set_cons_succ]
            refine wpAnyH_ready (rs := [3]) (by kernel_rfl) (by simp) ?_
            refine AllReadyH.cons (o := ?oz1_3_4) ?hiz1_3_4 (fun K hK => ?gz1_3_4) AllReadyH.nil
            case hiz1_3_4 => simp only [List.getElem?_toArray, List.getElem?_cons_succ, List.getElem?_cons_zero]; rfl
            case gz1_3_4 =>
              have c_p0 : w13.cell? ⟨w.heap.size, 0, none⟩ = some (.int .i64 b.Seed) := var_load o_p (by simp) 0 _ rfl
              have f_p0 : w13.frozen? ⟨w.heap.size, 0, none⟩ = false := var_frozen o_p (by simp) 0 _ rfl
              have c_p1 : w13.cell? ⟨w.heap.size, 1, none⟩ = some (.int .i64 b.Next) := var_load o_p (by simp) 1 _ rfl
              have f_p1 : w13.frozen? ⟨w.heap.size, 1, none⟩ = false := var_frozen o_p (by simp) 1 _ rfl
              have c_p2 : w13.cell? ⟨w.heap.size, 2, none⟩ = some (.slice A n c) := var_load o_p (by simp) 2 _ rfl
              have f_p2 : w13.frozen? ⟨w.heap.size, 2, none⟩ = false := var_frozen o_p (by simp) 2 _ rfl
              have l_p := var_lt o_p
              have c_r0 : w13.cell? ⟨(w.heap.size + 1), 0, none⟩ = some (.int .i64 b.Seed) := var_load o_r (by simp) 0 _ rfl
              have f_r0 : w13.frozen? ⟨(w.heap.size + 1), 0, none⟩ = false := var_frozen o_r (by simp) 0 _ rfl
              have c_r1 : w13.cell? ⟨(w.heap.size + 1), 1, none⟩ = some (.int .i64 (b.Next + 1)) := var_load o_r (by simp) 1 _ rfl
              have f_r1 : w13.frozen? ⟨(w.heap.size + 1), 1, none⟩ = false := var_frozen o_r (by simp) 1 _ rfl
              have c_r2 : w13.cell? ⟨(w.heap.size + 1), 2, none⟩ = some (.slice A_n (n + 1) c_n) := var_load o_r (by simp) 2 _ rfl
              have f_r2 : w13.frozen? ⟨(w.heap.size + 1), 2, none⟩ = false := var_frozen o_r (by simp) 2 _ rfl
              have l_r := var_lt o_r
              have c_q0 : w13.cell? ⟨(w.heap.size + 1 + 1), 0, none⟩ = some (.int .i64 0) := var_load o_q (by simp) 0 _ rfl
              have f_q0 : w13.frozen? ⟨(w.heap.size + 1 + 1), 0, none⟩ = false := var_frozen o_q (by simp) 0 _ rfl
              have c_q1 : w13.cell? ⟨(w.heap.size + 1 + 1), 1, none⟩ = some (.int .i64 0) := var_load o_q (by simp) 1 _ rfl
              have f_q1 : w13.frozen? ⟨(w.heap.size + 1 + 1), 1, none⟩ = false := var_frozen o_q (by simp) 1 _ rfl
              have c_q2 : w13.cell? ⟨(w.heap.size + 1 + 1), 2, none⟩ = some (.int .i64 0) := var_load o_q (by simp) 2 _ rfl
              have f_q2 : w13.frozen? ⟨(w.heap.size + 1 + 1), 2, none⟩ = false := var_frozen o_q (by simp) 2 _ rfl
              have l_q := var_lt o_q
              have c_o0 : w13.cell? ⟨w4.heap.size, 0, none⟩ = some (.int .i64 b.Seed) := var_load o_o (by simp) 0 _ rfl
              have f_o0 : w13.frozen? ⟨w4.heap.size, 0, none⟩ = false := var_frozen o_o (by simp) 0 _ rfl
              have c_o1 : w13.cell? ⟨w4.heap.size, 1, none⟩ = some (.int .i64 (b.Next + 1)) := var_load o_o (by simp) 1 _ rfl
              have f_o1 : w13.frozen? ⟨w4.heap.size, 1, none⟩ = false := var_frozen o_o (by simp) 1 _ rfl
              have c_o2 : w13.cell? ⟨w4.heap.size, 2, none⟩ = some (.slice A_n (n + 1) c_n) := var_load o_o (by simp) 2 _ rfl
              have f_o2 : w13.frozen? ⟨w4.heap.size, 2, none⟩ = false := var_frozen o_o (by simp) 2 _ rfl
              have l_o := var_lt o_o
              have c_x0 : w13.cell? ⟨w6.heap.size, 0, none⟩ = some (.int .i64 b.Next) := var_load o_x (by simp) 0 _ rfl
              have f_x0 : w13.frozen? ⟨w6.heap.size, 0, none⟩ = false := var_frozen o_x (by simp) 0 _ rfl
              have c_x1 : w13.cell? ⟨w6.heap.size, 1, none⟩ = some (.int .i64 a) := var_load o_x (by simp) 1 _ rfl
              have f_x1 : w13.frozen? ⟨w6.heap.size, 1, none⟩ = false := var_frozen o_x (by simp) 1 _ rfl
              have c_x2 : w13.cell? ⟨w6.heap.size, 2, none⟩ = some (.int .i64 (now + 5)) := var_load o_x (by simp) 2 _ rfl
              have f_x2 : w13.frozen? ⟨w6.heap.size, 2, none⟩ = false := var_frozen o_x (by simp) 2 _ rfl
              have l_x := var_lt o_x
              have c_e0 : w13.cell? ⟨(w6.heap.size + 1), 0, none⟩ = some (.int .i64 b.Next) := var_load o_e (by simp) 0 _ rfl
              have f_e0 : w13.frozen? ⟨(w6.heap.size + 1), 0, none⟩ = false := var_frozen o_e (by simp) 0 _ rfl
              have c_e1 : w13.cell? ⟨(w6.heap.size + 1), 1, none⟩ = some (.int .i64 a) := var_load o_e (by simp) 1 _ rfl
              have f_e1 : w13.frozen? ⟨(w6.heap.size + 1), 1, none⟩ = false := var_frozen o_e (by simp) 1 _ rfl
              have c_e2 : w13.cell? ⟨(w6.heap.size + 1), 2, none⟩ = some (.int .i64 (now + 5)) := var_load o_e (by simp) 2 _ rfl
              have f_e2 : w13.frozen? ⟨(w6.heap.size + 1), 2, none⟩ = false := var_frozen o_e (by simp) 2 _ rfl
              have l_e := var_lt o_e
              go_simp
              clear c_p0 f_p0 c_p1 f_p1 c_p2 f_p2 l_p c_r0 f_r0 c_r1 f_r1 c_r2 f_r2 l_r c_q0 f_q0 c_q1 f_q1 c_q2 f_q2 l_q c_o0 f_o0 c_o1 f_o1 c_o2 f_o2 l_o c_x0 f_x0 c_x1 f_x1 c_x2 f_x2 l_x c_e0 f_e0 c_e1 f_e1 c_e2 f_e2 l_e
              obtain ⟨w14, hw14⟩ : ∃ y, y = (((w13.setCell ⟨(w.heap.size + 1 + 1), 0, none⟩ (.int .i64 b.Next)).setCell ⟨(w.heap.size + 1 + 1), 1, none⟩ (.int .i64 a)).setCell ⟨(w.heap.size + 1 + 1), 2, none⟩ (.int .i64 (now + 5))) := ⟨_, rfl⟩
              obtain ⟨o_new, tw14⟩ := var_some [.int .i64 b.Next, .int .i64 a, .int .i64 (now + 5)] 0 _ _ o_q (by simp)
              rw [show setAll w13 ((w.heap.size + 1 + 1)) 0 [.int .i64 b.Next, .int .i64 a, .int .i64 (now + 5)] = w14 from hw14.symm] at o_new tw14
              replace o_q : Owns w14 _ (varD 67 3 [.int .i64 b.Next, .int .i64 a, .int .i64 (now + 5)]) _ _ := o_new
              clear o_new
              replace o_p := owns_turned o_p tw14 (fun b hb hb2 => by simp at hb hb2; omega)
              replace o_r := owns_turned o_r tw14 (fun b hb hb2 => by simp at hb hb2; omega)
              replace o_o := owns_turned o_o tw14 (fun b hb hb2 => by simp at hb hb2; omega)
              replace o_x := owns_turned o_x tw14 (fun b hb hb2 => by simp at hb hb2; omega)
              replace o_e := owns_turned o_e tw14 (fun b hb hb2 => by simp at hb hb2; omega)
              replace o_n := owns_turned o_n tw14 (fun b hb hb2 => by have h1 := i_n b hb; simp at hb2; omega)
              replace HB := below_turned HB tw14 (fun b hb => by simp at hb; omega)
              have zw14 := tw14.2.2.2.1
              rw [← hw14]
              clear hw14
              refine hK.out _ _ ?_ (fun hHeld => ?_)
              · exact ⟨var_load o_o (by simp) 0 _ rfl, var_load o_o (by simp) 1 _ rfl, var_load o_o (by simp) 2 _ rfl, var_load o_x (by simp) 0 _ rfl, var_load o_x (by simp) 1 _ rfl, var_load o_x (by simp) 2 _ rfl⟩
              clear hK K
              try simp only [Act.put, List.setIfInBounds_toArray, List.set_cons_zero, List.set_cons_succ]
              refine wpAnyH_take (i := 4) (oi := ?oiz1_4_5) (v := ?vz1_4_5) ?hiz1_4_5 (by kernel_rfl) (by kernel_rfl) (by kernel_rfl) ?hQz1_4_5 (Or.inl ⟨?hwz1_4_5, ?hyz1_4_5⟩) (by assumption) ?_
              case hiz1_4_5 => simp only [List.getElem?_toArray, List.getElem?_cons_succ, List.getElem?_cons_zero]; rfl
              case hQz1_4_5 => exact fun _ _ _ h => h
              case hwz1_4_5 => rfl
              case hyz1_4_5 => intro w hSw; (try dsimp only at hSw); (first | (go_simp; done) | (go_simp; with_reducible rfl))
              try simp only [Act.put, List.setIfInBounds_toArray, List.set_cons_zero, List.set_cons_succ]
              refine wpAnyH_done (by kernel_rfl) ?_ _
              go_wp2
              have y0 : w14.cell? ⟨(w.heap.size + 1), 0, none⟩ = some (.int .i64 b.Seed) := var_load o_r (by simp) 0 _ rfl
              have y1 : w14.cell? ⟨(w.heap.size + 1), 1, none⟩ = some (.int .i64 (b.Next + 1)) := var_load o_r (by simp) 1 _ rfl
              have y2 : w14.cell? ⟨(w.heap.size + 1), 2, none⟩ = some (.slice A_n (n + 1) c_n) := var_load o_r (by simp) 2 _ rfl
              have u0 : w14.cell? ⟨(w.heap.size + 1 + 1), 0, none⟩ = some (.int .i64 b.Next) := var_load o_q (by simp) 0 _ rfl
              have u1 : w14.cell? ⟨(w.heap.size + 1 + 1), 1, none⟩ = some (.int .i64 a) := var_load o_q (by simp) 1 _ rfl
              have u2 : w14.cell? ⟨(w.heap.size + 1 + 1), 2, none⟩ = some (.int .i64 (now + 5)) := var_load o_q (by simp) 2 _ rfl
              refine bodyPost_ret (v := .tuple #[.agg #[.int .i64 b.Seed, .int .i64 (b.Next + 1), .slice A_n (n + 1) c_n], .agg #[.int .i64 b.Next, .int .i64 a, .int .i64 (now + 5)], .bool true]) (by simp [results, Tryz.results36, go_sem, y0, y1, y2, u0, u1, u2]) rfl ?_
              exact made_is (by rw [HD.out]) rfl rfl (by have := HL.out; simp; omega) rfl o_n n_n HB
        · have h5b : decide ((n : Int) ≥ 16) = true := by simp; omega
          have HD := Lib.hid (show xs.drop 1 = b.Open.drop (b.Open.length - 15) by rw [← HXS.out, ← HL.out, show n - 15 = 1 by omega])
          obtain rfl : n = 16 := by omega
          obtain ⟨g, off, rfl, hcz⟩ := own_at_some o_y (by omega)
          have q1 : (1 : Int) ≤ (c_z : Int) := by omega
          have q2 : (16 : Int) ≤ (c_z : Int) := by omega
          have q3 : ¬ c_z = 1 := by omega
          have q4 : 1 < c_z := by omega
          have c_p0 : w6.cell? ⟨w.heap.size, 0, none⟩ = some (.int .i64 b.Seed) := var_load o_p (by simp) 0 _ rfl
          have f_p0 : w6.frozen? ⟨w.heap.size, 0, none⟩ = false := var_frozen o_p (by simp) 0 _ rfl
          have c_p1 : w6.cell? ⟨w.heap.size, 1, none⟩ = some (.int .i64 b.Next) := var_load o_p (by simp) 1 _ rfl
          have f_p1 : w6.frozen? ⟨w.heap.size, 1, none⟩ = false := var_frozen o_p (by simp) 1 _ rfl
          have c_p2 : w6.cell? ⟨w.heap.size, 2, none⟩ = some (.slice A 16 c) := var_load o_p (by simp) 2 _ rfl
          have f_p2 : w6.frozen? ⟨w.heap.size, 2, none⟩ = false := var_frozen o_p (by simp) 2 _ rfl
          have l_p := var_lt o_p
          have c_r0 : w6.cell? ⟨(w.heap.size + 1), 0, none⟩ = some (.int .i64 0) := var_load o_r (by simp) 0 _ rfl
          have f_r0 : w6.frozen? ⟨(w.heap.size + 1), 0, none⟩ = false := var_frozen o_r (by simp) 0 _ rfl
          have c_r1 : w6.cell? ⟨(w.heap.size + 1), 1, none⟩ = some (.int .i64 0) := var_load o_r (by simp) 1 _ rfl
          have f_r1 : w6.frozen? ⟨(w.heap.size + 1), 1, none⟩ = false := var_frozen o_r (by simp) 1 _ rfl
          have c_r2 : w6.cell? ⟨(w.heap.size + 1), 2, none⟩ = some (.slice none 0 0) := var_load o_r (by simp) 2 _ rfl
          have f_r2 : w6.frozen? ⟨(w.heap.size + 1), 2, none⟩ = false := var_frozen o_r (by simp) 2 _ rfl
          have l_r := var_lt o_r
          have c_q0 : w6.cell? ⟨(w.heap.size + 1 + 1), 0, none⟩ = some (.int .i64 0) := var_load o_q (by simp) 0 _ rfl
          have f_q0 : w6.frozen? ⟨(w.heap.size + 1 + 1), 0, none⟩ = false := var_frozen o_q (by simp) 0 _ rfl
          have c_q1 : w6.cell? ⟨(w.heap.size + 1 + 1), 1, none⟩ = some (.int .i64 0) := var_load o_q (by simp) 1 _ rfl
          have f_q1 : w6.frozen? ⟨(w.heap.size + 1 + 1), 1, none⟩ = false := var_frozen o_q (by simp) 1 _ rfl
          have c_q2 : w6.cell? ⟨(w.heap.size + 1 + 1), 2, none⟩ = some (.int .i64 0) := var_load o_q (by simp) 2 _ rfl
          have f_q2 : w6.frozen? ⟨(w.heap.size + 1 + 1), 2, none⟩ = false := var_frozen o_q (by simp) 2 _ rfl
          have l_q := var_lt o_q
          have c_o0 : w6.cell? ⟨w4.heap.size, 0, none⟩ = some (.int .i64 b.Seed) := var_load o_o (by simp) 0 _ rfl
          have f_o0 : w6.frozen? ⟨w4.heap.size, 0, none⟩ = false := var_frozen o_o (by simp) 0 _ rfl
          have c_o1 : w6.cell? ⟨w4.heap.size, 1, none⟩ = some (.int .i64 b.Next) := var_load o_o (by simp) 1 _ rfl
          have f_o1 : w6.frozen? ⟨w4.heap.size, 1, none⟩ = false := var_frozen o_o (by simp) 1 _ rfl
          have c_o2 : w6.cell? ⟨w4.heap.size, 2, none⟩ = some (.slice (some ⟨g, off, none⟩) 16 c_z) := var_load o_o (by simp) 2 _ rfl
          have f_o2 : w6.frozen? ⟨w4.heap.size, 2, none⟩ = false := var_frozen o_o (by simp) 2 _ rfl
          have l_o := var_lt o_o
          go_upto_region 6 with (first | (go_at_call 66; (with_reducible refine (C1.specIn_t _ _ _ _ (by omega) (by omega)).mono ?_); rintro e w' ⟨rfl, rfl⟩) | (go_at_call 66; (with_reducible refine (C1.specIn_f _ _ _ _ (by omega)).mono ?_); rintro e w' ⟨rfl, rfl⟩))
          clear c_p0 f_p0 c_p1 f_p1 c_p2 f_p2 l_p c_r0 f_r0 c_r1 f_r1 c_r2 f_r2 l_r c_q0 f_q0 c_q1 f_q1 c_q2 f_q2 l_q c_o0 f_o0 c_o1 f_o1 c_o2 f_o2 l_o
          obtain ⟨w7, hw7⟩ : ∃ y, y = (w6.setCell ⟨w4.heap.size, 2, none⟩ (.slice (some ⟨g, off + 3, none⟩) 15 (c_z - 1))) := ⟨_, rfl⟩
          obtain ⟨o_new, tw7⟩ := var_some [.slice (some ⟨g, off + 3, none⟩) 15 (c_z - 1)] 2 _ _ o_o (by simp)
          rw [show setAll w6 (w4.heap.size) 2 [.slice (some ⟨g, off + 3, none⟩) 15 (c_z - 1)] = w7 from hw7.symm] at o_new tw7
          replace o_o : Owns w7 _ (varD 33 3 [.int .i64 b.Seed, .int .i64 b.Next, .slice (some ⟨g, off + 3, none⟩) 15 (c_z - 1)]) _ _ := o_new
          clear o_new
          replace o_p := owns_turned o_p tw7 (fun b hb hb2 => by simp at hb hb2; omega)
          replace o_r := owns_turned o_r tw7 (fun b hb hb2 => by simp at hb hb2; omega)
          replace o_q := owns_turned o_q tw7 (fun b hb hb2 => by simp at hb hb2; omega)
          replace o_y := owns_turned o_y tw7 (fun b hb hb2 => by have h1 := i_y b hb; simp at hb2; omega)
          replace HB := below_turned HB tw7 (fun b hb => by simp at hb; omega)
          have zw7 := tw7.2.2.2.1
          rw [← hw7]
          clear hw7
          replace o_y : Owns w7 w.heap.size (.row 67 3 15 ((xs.drop 1).flatMap Challenge.dcs)) (.slice (some ⟨g, off + 3, none⟩) 15 (c_z - 1)) b_z := own_cut (k := 1) o_y (by omega)
          have c_p0 : w7.cell? ⟨w.heap.size, 0, none⟩ = some (.int .i64 b.Seed) := var_load o_p (by simp) 0 _ rfl
          have f_p0 : w7.frozen? ⟨w.heap.size, 0, none⟩ = false := var_frozen o_p (by simp) 0 _ rfl
          have c_p1 : w7.cell? ⟨w.heap.size, 1, none⟩ = some (.int .i64 b.Next) := var_load o_p (by simp) 1 _ rfl
          have f_p1 : w7.frozen? ⟨w.heap.size, 1, none⟩ = false := var_frozen o_p (by simp) 1 _ rfl
          have c_p2 : w7.cell? ⟨w.heap.size, 2, none⟩ = some (.slice A 16 c) := var_load o_p (by simp) 2 _ rfl
          have f_p2 : w7.frozen? ⟨w.heap.size, 2, none⟩ = false := var_frozen o_p (by simp) 2 _ rfl
          have l_p := var_lt o_p
          have c_r0 : w7.cell? ⟨(w.heap.size + 1), 0, none⟩ = some (.int .i64 0) := var_load o_r (by simp) 0 _ rfl
          have f_r0 : w7.frozen? ⟨(w.heap.size + 1), 0, none⟩ = false := var_frozen o_r (by simp) 0 _ rfl
          have c_r1 : w7.cell? ⟨(w.heap.size + 1), 1, none⟩ = some (.int .i64 0) := var_load o_r (by simp) 1 _ rfl
          have f_r1 : w7.frozen? ⟨(w.heap.size + 1), 1, none⟩ = false := var_frozen o_r (by simp) 1 _ rfl
          have c_r2 : w7.cell? ⟨(w.heap.size + 1), 2, none⟩ = some (.slice none 0 0) := var_load o_r (by simp) 2 _ rfl
          have f_r2 : w7.frozen? ⟨(w.heap.size + 1), 2, none⟩ = false := var_frozen o_r (by simp) 2 _ rfl
          have l_r := var_lt o_r
          have c_q0 : w7.cell? ⟨(w.heap.size + 1 + 1), 0, none⟩ = some (.int .i64 0) := var_load o_q (by simp) 0 _ rfl
          have f_q0 : w7.frozen? ⟨(w.heap.size + 1 + 1), 0, none⟩ = false := var_frozen o_q (by simp) 0 _ rfl
          have c_q1 : w7.cell? ⟨(w.heap.size + 1 + 1), 1, none⟩ = some (.int .i64 0) := var_load o_q (by simp) 1 _ rfl
          have f_q1 : w7.frozen? ⟨(w.heap.size + 1 + 1), 1, none⟩ = false := var_frozen o_q (by simp) 1 _ rfl
          have c_q2 : w7.cell? ⟨(w.heap.size + 1 + 1), 2, none⟩ = some (.int .i64 0) := var_load o_q (by simp) 2 _ rfl
          have f_q2 : w7.frozen? ⟨(w.heap.size + 1 + 1), 2, none⟩ = false := var_frozen o_q (by simp) 2 _ rfl
          have l_q := var_lt o_q
          have c_o0 : w7.cell? ⟨w4.heap.size, 0, none⟩ = some (.int .i64 b.Seed) := var_load o_o (by simp) 0 _ rfl
          have f_o0 : w7.frozen? ⟨w4.heap.size, 0, none⟩ = false := var_frozen o_o (by simp) 0 _ rfl
          have c_o1 : w7.cell? ⟨w4.heap.size, 1, none⟩ = some (.int .i64 b.Next) := var_load o_o (by simp) 1 _ rfl
          have f_o1 : w7.frozen? ⟨w4.heap.size, 1, none⟩ = false := var_frozen o_o (by simp) 1 _ rfl
          have c_o2 : w7.cell? ⟨w4.heap.size, 2, none⟩ = some (.slice (some ⟨g, off + 3, none⟩) 15 (c_z - 1)) := var_load o_o (by simp) 2 _ rfl
          have f_o2 : w7.frozen? ⟨w4.heap.size, 2, none⟩ = false := var_frozen o_o (by simp) 2 _ rfl
          have l_o := var_lt o_o
          obtain ⟨w8, hw8⟩ : ∃ y, y = w7.alloc (.cells #[.int .i64 b.Next, .int .i64 a, .int .i64 (now + 5)] 67) := ⟨_, rfl⟩
          have o_x := var_owns w7 67 3 [.int .i64 b.Next, .int .i64 a, .int .i64 (now + 5)] rfl
          have bw8 : Below w7.heap.size w7 w8 := hw8 ▸ (Below.refl _ _).alloc (Nat.le_refl _) _
          rw [← hw8] at o_x
          have sw8 : w8.heap.size = w7.heap.size + 1 := by rw [hw8]; simp
          have zw8 : w7.heap.size < w8.heap.size := by rw [hw8]; simp
          replace o_p := owns_below o_p bw8
          replace o_r := owns_below o_r bw8
          replace o_q := owns_below o_q bw8
          replace o_o := owns_below o_o bw8
          replace o_y := owns_below o_y bw8
          replace HB := HB.trans (bw8.mono HB.size)
          obtain ⟨w9, hw9⟩ : ∃ y, y = w8.alloc (.cells #[.int .i64 b.Next, .int .i64 a, .int .i64 (now + 5)] 67) := ⟨_, rfl⟩
          have o_e := var_owns w8 67 3 [.int .i64 b.Next, .int .i64 a, .int .i64 (now + 5)] rfl
          have bw9 : Below w8.heap.size w8 w9 := hw9 ▸ (Below.refl _ _).alloc (Nat.le_refl _) _
          rw [← hw9] at o_e
          rw [sw8] at o_e
          have sw9 : w9.heap.size = w7.heap.size + 1 + 1 := by rw [hw9]; simp [sw8]
          have zw9 : w8.heap.size < w9.heap.size := by rw [hw9]; simp
          replace o_p := owns_below o_p bw9
          replace o_r := owns_below o_r bw9
          replace o_q := owns_below o_q bw9
          replace o_o := owns_below o_o bw9
          replace o_x := owns_below o_x bw9
          replace o_y := owns_below o_y bw9
          replace HB := HB.trans (bw9.mono HB.size)
          go_wp2_with (at_builtin; rw [← hw8, ← hw9]; clear hw8 hw9 sw8 sw9; refine app_ch rfl _ _ rfl w.heap.size _ _ (xs.drop 1) b_z rfl o_y ny (w7.heap.size + 1) 1 ⟨b.Next, a, now + 5⟩ rfl (var_load o_e (by simp) 0 _ rfl) (var_load o_e (by simp) 1 _ rfl) (var_load o_e (by simp) 2 _ rfl) (by omega) HB.size ?_; intro v_n s_n w10 o_n n_n T_n M_n; have i_n : ∀ y, y ∈ s_n → (w3.heap.size ≤ y ∧ y < w4.heap.size) ∨ y = w9.heap.size := fun y hy => (M_n y hy).imp (i_y y) id; obtain ⟨A_n, c_n, rfl⟩ := owns_slice o_n; have zw10 := T_n.2.2.2.1; replace o_p := owns_turned o_p T_n (fun b hb hb2 => by have h1 := i_y b (own_mem o_y b hb2); simp at hb; omega); replace o_r := owns_turned o_r T_n (fun b hb hb2 => by have h1 := i_y b (own_mem o_y b hb2); simp at hb; omega); replace o_q := owns_turned o_q T_n (fun b hb hb2 => by have h1 := i_y b (own_mem o_y b hb2); simp at hb; omega); replace o_o := owns_turned o_o T_n (fun b hb hb2 => by have h1 := i_y b (own_mem o_y b hb2); simp at hb; omega); replace o_x := owns_turned o_x T_n (fun b hb hb2 => by have h1 := i_y b (own_mem o_y b hb2); simp at hb; omega); replace o_e := owns_turned o_e T_n (fun b hb hb2 => by have h1 := i_y b (own_mem o_y b hb2); simp at hb; omega); replace HB := below_turned HB T_n (fun b hb => by have h1 := i_y b (own_mem o_y b hb); omega); clear o_y ny T_n M_n c_p0 f_p0 c_p1 f_p1 c_p2 f_p2 l_p c_r0 f_r0 c_r1 f_r1 c_r2 f_r2 l_r c_q0 f_q0 c_q1 f_q1 c_q2 f_q2 l_q c_o0 f_o0 c_o1 f_o1 c_o2 f_o2 l_o; have c_p0 : w10.cell? ⟨w.heap.size, 0, none⟩ = some (.int .i64 b.Seed) := var_load o_p (by simp) 0 _ rfl; have f_p0 : w10.frozen? ⟨w.heap.size, 0, none⟩ = false := var_frozen o_p (by simp) 0 _ rfl; have c_p1 : w10.cell? ⟨w.heap.size, 1, none⟩ = some (.int .i64 b.Next) := var_load o_p (by simp) 1 _ rfl; have f_p1 : w10.frozen? ⟨w.heap.size, 1, none⟩ = false := var_frozen o_p (by simp) 1 _ rfl; have c_p2 : w10.cell? ⟨w.heap.size, 2, none⟩ = some (.slice A 16 c) := var_load o_p (by simp) 2 _ rfl; have f_p2 : w10.frozen? ⟨w.heap.size, 2, none⟩ = false := var_frozen o_p (by simp) 2 _ rfl; have l_p := var_lt o_p; have c_r0 : w10.cell? ⟨(w.heap.size + 1), 0, none⟩ = some (.int .i64 0) := var_load o_r (by simp) 0 _ rfl; have f_r0 : w10.frozen? ⟨(w.heap.size + 1), 0, none⟩ = false := var_frozen o_r (by simp) 0 _ rfl; have c_r1 : w10.cell? ⟨(w.heap.size + 1), 1, none⟩ = some (.int .i64 0) := var_load o_r (by simp) 1 _ rfl; have f_r1 : w10.frozen? ⟨(w.heap.size + 1), 1, none⟩ = false := var_frozen o_r (by simp) 1 _ rfl; have c_r2 : w10.cell? ⟨(w.heap.size + 1), 2, none⟩ = some (.slice none 0 0) := var_load o_r (by simp) 2 _ rfl; have f_r2 : w10.frozen? ⟨(w.heap.size + 1), 2, none⟩ = false := var_frozen o_r (by simp) 2 _ rfl; have l_r := var_lt o_r; have c_q0 : w10.cell? ⟨(w.heap.size + 1 + 1), 0, none⟩ = some (.int .i64 0) := var_load o_q (by simp) 0 _ rfl; have f_q0 : w10.frozen? ⟨(w.heap.size + 1 + 1), 0, none⟩ = false := var_frozen o_q (by simp) 0 _ rfl; have c_q1 : w10.cell? ⟨(w.heap.size + 1 + 1), 1, none⟩ = some (.int .i64 0) := var_load o_q (by simp) 1 _ rfl; have f_q1 : w10.frozen? ⟨(w.heap.size + 1 + 1), 1, none⟩ = false := var_frozen o_q (by simp) 1 _ rfl; have c_q2 : w10.cell? ⟨(w.heap.size + 1 + 1), 2, none⟩ = some (.int .i64 0) := var_load o_q (by simp) 2 _ rfl; have f_q2 : w10.frozen? ⟨(w.heap.size + 1 + 1), 2, none⟩ = false := var_frozen o_q (by simp) 2 _ rfl; have l_q := var_lt o_q; have c_o0 : w10.cell? ⟨w4.heap.size, 0, none⟩ = some (.int .i64 b.Seed) := var_load o_o (by simp) 0 _ rfl; have f_o0 : w10.frozen? ⟨w4.heap.size, 0, none⟩ = false := var_frozen o_o (by simp) 0 _ rfl; have c_o1 : w10.cell? ⟨w4.heap.size, 1, none⟩ = some (.int .i64 b.Next) := var_load o_o (by simp) 1 _ rfl; have f_o1 : w10.frozen? ⟨w4.heap.size, 1, none⟩ = false := var_frozen o_o (by simp) 1 _ rfl; have c_o2 : w10.cell? ⟨w4.heap.size, 2, none⟩ = some (.slice (some ⟨g, off + 3, none⟩) 15 (c_z - 1)) := var_load o_o (by simp) 2 _ rfl; have f_o2 : w10.frozen? ⟨w4.heap.size, 2, none⟩ = false := var_frozen o_o (by simp) 2 _ rfl; have l_o := var_lt o_o; have c_x0 : w10.cell? ⟨w7.heap.size, 0, none⟩ = some (.int .i64 b.Next) := var_load o_x (by simp) 0 _ rfl; have f_x0 : w10.frozen? ⟨w7.heap.size, 0, none⟩ = false := var_frozen o_x (by simp) 0 _ rfl; have c_x1 : w10.cell? ⟨w7.heap.size, 1, none⟩ = some (.int .i64 a) := var_load o_x (by simp) 1 _ rfl; have f_x1 : w10.frozen? ⟨w7.heap.size, 1, none⟩ = false := var_frozen o_x (by simp) 1 _ rfl; have c_x2 : w10.cell? ⟨w7.heap.size, 2, none⟩ = some (.int .i64 (now + 5)) := var_load o_x (by simp) 2 _ rfl; have f_x2 : w10.frozen? ⟨w7.heap.size, 2, none⟩ = false := var_frozen o_x (by simp) 2 _ rfl; have l_x := var_lt o_x; have c_e0 : w10.cell? ⟨(w7.heap.size + 1), 0, none⟩ = some (.int .i64 b.Next) := var_load o_e (by simp) 0 _ rfl; have f_e0 : w10.frozen? ⟨(w7.heap.size + 1), 0, none⟩ = false := var_frozen o_e (by simp) 0 _ rfl; have c_e1 : w10.cell? ⟨(w7.heap.size + 1), 1, none⟩ = some (.int .i64 a) := var_load o_e (by simp) 1 _ rfl; have f_e1 : w10.frozen? ⟨(w7.heap.size + 1), 1, none⟩ = false := var_frozen o_e (by simp) 1 _ rfl; have c_e2 : w10.cell? ⟨(w7.heap.size + 1), 2, none⟩ = some (.int .i64 (now + 5)) := var_load o_e (by simp) 2 _ rfl; have f_e2 : w10.frozen? ⟨(w7.heap.size + 1), 2, none⟩ = false := var_frozen o_e (by simp) 2 _ rfl; have l_e := var_lt o_e)
          clear c_p0 f_p0 c_p1 f_p1 c_p2 f_p2 l_p c_r0 f_r0 c_r1 f_r1 c_r2 f_r2 l_r c_q0 f_q0 c_q1 f_q1 c_q2 f_q2 l_q c_o0 f_o0 c_o1 f_o1 c_o2 f_o2 l_o c_x0 f_x0 c_x1 f_x1 c_x2 f_x2 l_x c_e0 f_e0 c_e1 f_e1 c_e2 f_e2 l_e
          obtain ⟨w11, hw11⟩ : ∃ y, y = (w10.setCell ⟨w4.heap.size, 2, none⟩ (.slice A_n (15 + 1) c_n)) := ⟨_, rfl⟩
          obtain ⟨o_new, tw11⟩ := var_some [.slice A_n (15 + 1) c_n] 2 _ _ o_o (by simp)
          rw [show setAll w10 (w4.heap.size) 2 [.slice A_n (15 + 1) c_n] = w11 from hw11.symm] at o_new tw11
          replace o_o : Owns w11 _ (varD 33 3 [.int .i64 b.Seed, .int .i64 b.Next, .slice A_n (15 + 1) c_n]) _ _ := o_new
          clear o_new
          replace o_p := owns_turned o_p tw11 (fun b hb hb2 => by simp at hb hb2; omega)
          replace o_r := owns_turned o_r tw11 (fun b hb hb2 => by simp at hb hb2; omega)
          replace o_q := owns_turned o_q tw11 (fun b hb hb2 => by simp at hb hb2; omega)
          replace o_x := owns_turned o_x tw11 (fun b hb hb2 => by simp at hb hb2; omega)
          replace o_e := owns_turned o_e tw11 (fun b hb hb2 => by simp at hb hb2; omega)
          replace o_n := owns_turned o_n tw11 (fun b hb hb2 => by have h1 := i_n b hb; simp at hb2; omega)
          replace HB := below_turned HB tw11 (fun b hb => by simp at hb; omega)
          have zw11 := tw11.2.2.2.1
          rw [← hw11]
          clear hw11
          obtain ⟨w12, hw12⟩ : ∃ y, y = (w11.setCell ⟨w4.heap.size, 1, none⟩ (.int .i64 (b.Next + 1))) := ⟨_, rfl⟩
          obtain ⟨o_new, tw12⟩ := var_some [.int .i64 (b.Next + 1)] 1 _ _ o_o (by simp)
          rw [show setAll w11 (w4.heap.size) 1 [.int .i64 (b.Next + 1)] = w12 from hw12.symm] at o_new tw12
          replace o_o : Owns w12 _ (varD 33 3 [.int .i64 b.Seed, .int .i64 (b.Next + 1), .slice A_n (15 + 1) c_n]) _ _ := o_new
          clear o_new
          replace o_p := owns_turned o_p tw12 (fun b hb hb2 => by simp at hb hb2; omega)
          replace o_r := owns_turned o_r tw12 (fun b hb hb2 => by simp at hb hb2; omega)
          replace o_q := owns_turned o_q tw12 (fun b hb hb2 => by simp at hb hb2; omega)
          replace o_x := owns_turned o_x tw12 (fun b hb hb2 => by simp at hb hb2; omega)
          replace o_e := owns_turned o_e tw12 (fun b hb hb2 => by simp at hb hb2; omega)
          replace o_n := owns_turned o_n tw12 (fun b hb hb2 => by have h1 := i_n b hb; simp at hb2; omega)
          replace HB := below_turned HB tw12 (fun b hb => by simp at hb; omega)
          have zw12 := tw12.2.2.2.1
          rw [← hw12]
          clear hw12
          obtain ⟨w13, hw13⟩ : ∃ y, y = w12.drew := ⟨_, rfl⟩
          have bw13 : Below w12.heap.size w12 w13 := hw13 ▸ drewN_below w12 1 _
          replace o_p := owns_below o_p bw13
          replace o_r := owns_below o_r bw13
          replace o_q := owns_below o_q bw13
          replace o_o := owns_below o_o bw13
          replace o_x := owns_below o_x bw13
          replace o_e := owns_below o_e bw13
          replace o_n := owns_below o_n bw13
          replace HB := HB.trans (bw13.mono HB.size)
          have zw13 := bw13.size
          refine wp_region_held_drew (S := (fun wx => wx.cell? ⟨w4.heap.size, 0, none⟩ = some (.int .i64 b.Seed) ∧ wx.cell? ⟨w4.heap.size, 1, none⟩ = some (.int .i64 (b.Next + 1)) ∧ wx.cell? ⟨w4.heap.size, 2, none⟩ = some (.slice A_n (15 + 1) c_n) ∧ wx.cell? ⟨w7.heap.size, 0, none⟩ = some (.int .i64 b.Next) ∧ wx.cell? ⟨w7.heap.size, 1, none⟩ = some (.int .i64 a) ∧ wx.cell? ⟨w7.heap.size, 2, none⟩ = some (.int .i64 (now + 5)))) (by kernel_rfl) ?_ (fun hHeld => ?_)
          · rw [← hw13]; exact ⟨var_load o_o (by simp) 0 _ rfl, var_load o_o (by simp) 1 _ rfl, var_load o_o (by simp) 2 _ rfl, var_load o_x (by simp) 0 _ rfl, var_load o_x (by simp) 1 _ rfl, var_load o_x (by simp) 2 _ rfl⟩
          rw [← hw13] at hHeld ⊢
          clear hw13
          refine wpAnyH_take (i := 0) (oi := ?oiz2_0_1) (v := ?vz2_0_1) ?hiz2_0_1 (by kernel_rfl) (by kernel_rfl) (by kernel_rfl) ?hQz2_0_1 (Or.inl ⟨?hwz2_0_1, ?hyz2_0_1⟩) (by assumption) ?_
          case hiz2_0_1 => simp only [List.getElem?_toArray, List.getElem?_cons_zero]; rfl
          case hQz2_0_1 => exact fun _ _ _ h => h
          case hwz2_0_1 => rfl
          case hyz2_0_1 => intro w hSw; (try dsimp only at hSw); (first | (go_simp; done) | (go_simp; with_reducible rfl))
          try simp only [Act.put, List.setIfInBounds_toArray, List.set_cons_zero, List.set_cons_succ]
          refine wpAnyH_take (i := 1) (oi := ?oiz2_1_2) (v := ?vz2_1_2) ?hiz2_1_2 (by kernel_rfl) (by kernel_rfl) (by kernel_rfl) ?hQz2_1_2 (Or.inl ⟨?hwz2_1_2, ?hyz2_1_2⟩) (by assumption) ?_
          case hiz2_1_2 => simp only [List.getElem?_toArray, List.getElem?_cons_succ, List.getElem?_cons_zero]; rfl
          case hQz2_1_2 => exact fun _ _ _ h => h
          case hwz2_1_2 => rfl
          case hyz2_1_2 => intro w hSw; (try dsimp only at hSw); (first | (go_simp; done) | (go_simp; with_reducible rfl))
          try simp only [Act.put, List.setIfInBounds_toArray, List.set_cons_zero, List.set_cons_succ]
          refine wpAnyH_ready (rs := [2]) (by kernel_rfl) (by simp) ?_
          refine AllReadyH.cons (o := ?oz2_2_3) ?hiz2_2_3 (fun K hK => ?gz2_2_3) AllReadyH.nil
          case hiz2_2_3 => simp only [List.getElem?_toArray, List.getElem?_cons_succ, List.getElem?_cons_zero]; rfl
          case gz2_2_3 =>
            have c_p0 : w13.cell? ⟨w.heap.size, 0, none⟩ = some (.int .i64 b.Seed) := var_load o_p (by simp) 0 _ rfl
            have f_p0 : w13.frozen? ⟨w.heap.size, 0, none⟩ = false := var_frozen o_p (by simp) 0 _ rfl
            have c_p1 : w13.cell? ⟨w.heap.size, 1, none⟩ = some (.int .i64 b.Next) := var_load o_p (by simp) 1 _ rfl
            have f_p1 : w13.frozen? ⟨w.heap.size, 1, none⟩ = false := var_frozen o_p (by simp) 1 _ rfl
            have c_p2 : w13.cell? ⟨w.heap.size, 2, none⟩ = some (.slice A 16 c) := var_load o_p (by simp) 2 _ rfl
            have f_p2 : w13.frozen? ⟨w.heap.size, 2, none⟩ = false := var_frozen o_p (by simp) 2 _ rfl
            have l_p := var_lt o_p
            have c_r0 : w13.cell? ⟨(w.heap.size + 1), 0, none⟩ = some (.int .i64 0) := var_load o_r (by simp) 0 _ rfl
            have f_r0 : w13.frozen? ⟨(w.heap.size + 1), 0, none⟩ = false := var_frozen o_r (by simp) 0 _ rfl
            have c_r1 : w13.cell? ⟨(w.heap.size + 1), 1, none⟩ = some (.int .i64 0) := var_load o_r (by simp) 1 _ rfl
            have f_r1 : w13.frozen? ⟨(w.heap.size + 1), 1, none⟩ = false := var_frozen o_r (by simp) 1 _ rfl
            have c_r2 : w13.cell? ⟨(w.heap.size + 1), 2, none⟩ = some (.slice none 0 0) := var_load o_r (by simp) 2 _ rfl
            have f_r2 : w13.frozen? ⟨(w.heap.size + 1), 2, none⟩ = false := var_frozen o_r (by simp) 2 _ rfl
            have l_r := var_lt o_r
            have c_q0 : w13.cell? ⟨(w.heap.size + 1 + 1), 0, none⟩ = some (.int .i64 0) := var_load o_q (by simp) 0 _ rfl
            have f_q0 : w13.frozen? ⟨(w.heap.size + 1 + 1), 0, none⟩ = false := var_frozen o_q (by simp) 0 _ rfl
            have c_q1 : w13.cell? ⟨(w.heap.size + 1 + 1), 1, none⟩ = some (.int .i64 0) := var_load o_q (by simp) 1 _ rfl
            have f_q1 : w13.frozen? ⟨(w.heap.size + 1 + 1), 1, none⟩ = false := var_frozen o_q (by simp) 1 _ rfl
            have c_q2 : w13.cell? ⟨(w.heap.size + 1 + 1), 2, none⟩ = some (.int .i64 0) := var_load o_q (by simp) 2 _ rfl
            have f_q2 : w13.frozen? ⟨(w.heap.size + 1 + 1), 2, none⟩ = false := var_frozen o_q (by simp) 2 _ rfl
            have l_q := var_lt o_q
            have c_o0 : w13.cell? ⟨w4.heap.size, 0, none⟩ = some (.int .i64 b.Seed) := var_load o_o (by simp) 0 _ rfl
            have f_o0 : w13.frozen? ⟨w4.heap.size, 0, none⟩ = false := var_frozen o_o (by simp) 0 _ rfl
            have c_o1 : w13.cell? ⟨w4.heap.size, 1, none⟩ = some (.int .i64 (b.Next + 1)) := var_load o_o (by simp) 1 _ rfl
            have f_o1 : w13.frozen? ⟨w4.heap.size, 1, none⟩ = false := var_frozen o_o (by simp) 1 _ rfl
            have c_o2 : w13.cell? ⟨w4.heap.size, 2, none⟩ = some (.slice A_n (15 + 1) c_n) := var_load o_o (by simp) 2 _ rfl
            have f_o2 : w13.frozen? ⟨w4.heap.size, 2, none⟩ = false := var_frozen o_o (by simp) 2 _ rfl
            have l_o := var_lt o_o
            have c_x0 : w13.cell? ⟨w7.heap.size, 0, none⟩ = some (.int .i64 b.Next) := var_load o_x (by simp) 0 _ rfl
            have f_x0 : w13.frozen? ⟨w7.heap.size, 0, none⟩ = false := var_frozen o_x (by simp) 0 _ rfl
            have c_x1 : w13.cell? ⟨w7.heap.size, 1, none⟩ = some (.int .i64 a) := var_load o_x (by simp) 1 _ rfl
            have f_x1 : w13.frozen? ⟨w7.heap.size, 1, none⟩ = false := var_frozen o_x (by simp) 1 _ rfl
            have c_x2 : w13.cell? ⟨w7.heap.size, 2, none⟩ = some (.int .i64 (now + 5)) := var_load o_x (by simp) 2 _ rfl
            have f_x2 : w13.frozen? ⟨w7.heap.size, 2, none⟩ = false := var_frozen o_x (by simp) 2 _ rfl
            have l_x := var_lt o_x
            have c_e0 : w13.cell? ⟨(w7.heap.size + 1), 0, none⟩ = some (.int .i64 b.Next) := var_load o_e (by simp) 0 _ rfl
            have f_e0 : w13.frozen? ⟨(w7.heap.size + 1), 0, none⟩ = false := var_frozen o_e (by simp) 0 _ rfl
            have c_e1 : w13.cell? ⟨(w7.heap.size + 1), 1, none⟩ = some (.int .i64 a) := var_load o_e (by simp) 1 _ rfl
            have f_e1 : w13.frozen? ⟨(w7.heap.size + 1), 1, none⟩ = false := var_frozen o_e (by simp) 1 _ rfl
            have c_e2 : w13.cell? ⟨(w7.heap.size + 1), 2, none⟩ = some (.int .i64 (now + 5)) := var_load o_e (by simp) 2 _ rfl
            have f_e2 : w13.frozen? ⟨(w7.heap.size + 1), 2, none⟩ = false := var_frozen o_e (by simp) 2 _ rfl
            have l_e := var_lt o_e
            go_simp
            clear c_p0 f_p0 c_p1 f_p1 c_p2 f_p2 l_p c_r0 f_r0 c_r1 f_r1 c_r2 f_r2 l_r c_q0 f_q0 c_q1 f_q1 c_q2 f_q2 l_q c_o0 f_o0 c_o1 f_o1 c_o2 f_o2 l_o c_x0 f_x0 c_x1 f_x1 c_x2 f_x2 l_x c_e0 f_e0 c_e1 f_e1 c_e2 f_e2 l_e
            obtain ⟨w14, hw14⟩ : ∃ y, y = (((w13.setCell ⟨(w.heap.size + 1), 0, none⟩ (.int .i64 b.Seed)).setCell ⟨(w.heap.size + 1), 1, none⟩ (.int .i64 (b.Next + 1))).setCell ⟨(w.heap.size + 1), 2, none⟩ (.slice A_n (15 + 1) c_n)) := ⟨_, rfl⟩
            obtain ⟨o_new, tw14⟩ := var_some [.int .i64 b.Seed, .int .i64 (b.Next + 1), .slice A_n (15 + 1) c_n] 0 _ _ o_r (by simp)
            rw [show setAll w13 ((w.heap.size + 1)) 0 [.int .i64 b.Seed, .int .i64 (b.Next + 1), .slice A_n (15 + 1) c_n] = w14 from hw14.symm] at o_new tw14
            replace o_r : Owns w14 _ (varD 33 3 [.int .i64 b.Seed, .int .i64 (b.Next + 1), .slice A_n (15 + 1) c_n]) _ _ := o_new
            clear o_new
            replace o_p := owns_turned o_p tw14 (fun b hb hb2 => by simp at hb hb2; omega)
            replace o_q := owns_turned o_q tw14 (fun b hb hb2 => by simp at hb hb2; omega)
            replace o_o := owns_turned o_o tw14 (fun b hb hb2 => by simp at hb hb2; omega)
            replace o_x := owns_turned o_x tw14 (fun b hb hb2 => by simp at hb hb2; omega)
            replace o_e := owns_turned o_e tw14 (fun b hb hb2 => by simp at hb hb2; omega)
            replace o_n := owns_turned o_n tw14 (fun b hb hb2 => by have h1 := i_n b hb; simp at hb2; omega)
            replace HB := below_turned HB tw14 (fun b hb => by simp at hb; omega)
            have zw14 := tw14.2.2.2.1
            rw [← hw14]
            clear hw14
            refine hK.out _ _ ?_ (fun hHeld => ?_)
            · exact ⟨var_load o_o (by simp) 0 _ rfl, var_load o_o (by simp) 1 _ rfl, var_load o_o (by simp) 2 _ rfl, var_load o_x (by simp) 0 _ rfl, var_load o_x (by simp) 1 _ rfl, var_load o_x (by simp) 2 _ rfl⟩
            clear hK K
            try simp only [Act.put, List.setIfInBounds_toArray, List.set_cons_zero, List.set_cons_succ]
            refine wpAnyH_ready (rs := [3]) (by kernel_rfl) (by simp) ?_
            refine AllReadyH.cons (o := ?oz2_3_4) ?hiz2_3_4 (fun K hK => ?gz2_3_4) AllReadyH.nil
            case hiz2_3_4 => simp only [List.getElem?_toArray, List.getElem?_cons_succ, List.getElem?_cons_zero]; rfl
            case gz2_3_4 =>
              have c_p0 : w14.cell? ⟨w.heap.size, 0, none⟩ = some (.int .i64 b.Seed) := var_load o_p (by simp) 0 _ rfl
              have f_p0 : w14.frozen? ⟨w.heap.size, 0, none⟩ = false := var_frozen o_p (by simp) 0 _ rfl
              have c_p1 : w14.cell? ⟨w.heap.size, 1, none⟩ = some (.int .i64 b.Next) := var_load o_p (by simp) 1 _ rfl
              have f_p1 : w14.frozen? ⟨w.heap.size, 1, none⟩ = false := var_frozen o_p (by simp) 1 _ rfl
              have c_p2 : w14.cell? ⟨w.heap.size, 2, none⟩ = some (.slice A 16 c) := var_load o_p (by simp) 2 _ rfl
              have f_p2 : w14.frozen? ⟨w.heap.size, 2, none⟩ = false := var_frozen o_p (by simp) 2 _ rfl
              have l_p := var_lt o_p
              have c_r0 : w14.cell? ⟨(w.heap.size + 1), 0, none⟩ = some (.int .i64 b.Seed) := var_load o_r (by simp) 0 _ rfl
              have f_r0 : w14.frozen? ⟨(w.heap.size + 1), 0, none⟩ = false := var_frozen o_r (by simp) 0 _ rfl
              have c_r1 : w14.cell? ⟨(w.heap.size + 1), 1, none⟩ = some (.int .i64 (b.Next + 1)) := var_load o_r (by simp) 1 _ rfl
              have f_r1 : w14.frozen? ⟨(w.heap.size + 1), 1, none⟩ = false := var_frozen o_r (by simp) 1 _ rfl
              have c_r2 : w14.cell? ⟨(w.heap.size + 1), 2, none⟩ = some (.slice A_n (15 + 1) c_n) := var_load o_r (by simp) 2 _ rfl
              have f_r2 : w14.frozen? ⟨(w.heap.size + 1), 2, none⟩ = false := var_frozen o_r (by simp) 2 _ rfl
              have l_r := var_lt o_r
              have c_q0 : w14.cell? ⟨(w.heap.size + 1 + 1), 0, none⟩ = some (.int .i64 0) := var_load o_q (by simp) 0 _ rfl
              have f_q0 : w14.frozen? ⟨(w.heap.size + 1 + 1), 0, none⟩ = false := var_frozen o_q (by simp) 0 _ rfl
              have c_q1 : w14.cell? ⟨(w.heap.size + 1 + 1), 1, none⟩ = some (.int .i64 0) := var_load o_q (by simp) 1 _ rfl
              have f_q1 : w14.frozen? ⟨(w.heap.size + 1 + 1), 1, none⟩ = false := var_frozen o_q (by simp) 1 _ rfl
              have c_q2 : w14.cell? ⟨(w.heap.size + 1 + 1), 2, none⟩ = some (.int .i64 0) := var_load o_q (by simp) 2 _ rfl
              have f_q2 : w14.frozen? ⟨(w.heap.size + 1 + 1), 2, none⟩ = false := var_frozen o_q (by simp) 2 _ rfl
              have l_q := var_lt o_q
              have c_o0 : w14.cell? ⟨w4.heap.size, 0, none⟩ = some (.int .i64 b.Seed) := var_load o_o (by simp) 0 _ rfl
              have f_o0 : w14.frozen? ⟨w4.heap.size, 0, none⟩ = false := var_frozen o_o (by simp) 0 _ rfl
              have c_o1 : w14.cell? ⟨w4.heap.size, 1, none⟩ = some (.int .i64 (b.Next + 1)) := var_load o_o (by simp) 1 _ rfl
              have f_o1 : w14.frozen? ⟨w4.heap.size, 1, none⟩ = false := var_frozen o_o (by simp) 1 _ rfl
              have c_o2 : w14.cell? ⟨w4.heap.size, 2, none⟩ = some (.slice A_n (15 + 1) c_n) := var_load o_o (by simp) 2 _ rfl
              have f_o2 : w14.frozen? ⟨w4.heap.size, 2, none⟩ = false := var_frozen o_o (by simp) 2 _ rfl
              have l_o := var_lt o_o
              have c_x0 : w14.cell? ⟨w7.heap.size, 0, none⟩ = some (.int .i64 b.Next) := var_load o_x (by simp) 0 _ rfl
              have f_x0 : w14.frozen? ⟨w7.heap.size, 0, none⟩ = false := var_frozen o_x (by simp) 0 _ rfl
              have c_x1 : w14.cell? ⟨w7.heap.size, 1, none⟩ = some (.int .i64 a) := var_load o_x (by simp) 1 _ rfl
              have f_x1 : w14.frozen? ⟨w7.heap.size, 1, none⟩ = false := var_frozen o_x (by simp) 1 _ rfl
              have c_x2 : w14.cell? ⟨w7.heap.size, 2, none⟩ = some (.int .i64 (now + 5)) := var_load o_x (by simp) 2 _ rfl
              have f_x2 : w14.frozen? ⟨w7.heap.size, 2, none⟩ = false := var_frozen o_x (by simp) 2 _ rfl
              have l_x := var_lt o_x
              have c_e0 : w14.cell? ⟨(w7.heap.size + 1), 0, none⟩ = some (.int .i64 b.Next) := var_load o_e (by simp) 0 _ rfl
              have f_e0 : w14.frozen? ⟨(w7.heap.size + 1), 0, none⟩ = false := var_frozen o_e (by simp) 0 _ rfl
              have c_e1 : w14.cell? ⟨(w7.heap.size + 1), 1, none⟩ = some (.int .i64 a) := var_load o_e (by simp) 1 _ rfl
              have f_e1 : w14.frozen? ⟨(w7.heap.size + 1), 1, none⟩ = false := var_frozen o_e (by simp) 1 _ rfl
              have c_e2 : w14.cell? ⟨(w7.heap.size + 1), 2, none⟩ = some (.int .i64 (now + 5)) := var_load o_e (by simp) 2 _ rfl
              have f_e2 : w14.frozen? ⟨(w7.heap.size + 1), 2, none⟩ = false := var_frozen o_e (by simp) 2 _ rfl
              have l_e := var_lt o_e
              go_simp
              clear c_p0 f_p0 c_p1 f_p1 c_p2 f_p2 l_p c_r0 f_r0 c_r1 f_r1 c_r2 f_r2 l_r c_q0 f_q0 c_q1 f_q1 c_q2 f_q2 l_q c_o0 f_o0 c_o1 f_o1 c_o2 f_o2 l_o c_x0 f_x0 c_x1 f_x1 c_x2 f_x2 l_x c_e0 f_e0 c_e1 f_e1 c_e2 f_e2 l_e
              obtain ⟨w15, hw15⟩ : ∃ y, y = (((w14.setCell ⟨(w.heap.size + 1 + 1), 0, none⟩ (.int .i64 b.Next)).setCell ⟨(w.heap.size + 1 + 1), 1, none⟩ (.int .i64 a)).setCell ⟨(w.heap.size + 1 + 1), 2, none⟩ (.int .i64 (now + 5))) := ⟨_, rfl⟩
              obtain ⟨o_new, tw15⟩ := var_some [.int .i64 b.Next, .int .i64 a, .int .i64 (now + 5)] 0 _ _ o_q (by simp)
              rw [show setAll w14 ((w.heap.size + 1 + 1)) 0 [.int .i64 b.Next, .int .i64 a, .int .i64 (now + 5)] = w15 from hw15.symm] at o_new tw15
              replace o_q : Owns w15 _ (varD 67 3 [.int .i64 b.Next, .int .i64 a, .int .i64 (now + 5)]) _ _ := o_new
              clear o_new
              replace o_p := owns_turned o_p tw15 (fun b hb hb2 => by simp at hb hb2; omega)
              replace o_r := owns_turned o_r tw15 (fun b hb hb2 => by simp at hb hb2; omega)
              replace o_o := owns_turned o_o tw15 (fun b hb hb2 => by simp at hb hb2; omega)
              replace o_x := owns_turned o_x tw15 (fun b hb hb2 => by simp at hb hb2; omega)
              replace o_e := owns_turned o_e tw15 (fun b hb hb2 => by simp at hb hb2; omega)
              replace o_n := owns_turned o_n tw15 (fun b hb hb2 => by have h1 := i_n b hb; simp at hb2; omega)
              replace HB := below_turned HB tw15 (fun b hb => by simp at hb; omega)
              have zw15 := tw15.2.2.2.1
              rw [← hw15]
              clear hw15
              refine hK.out _ _ ?_ (fun hHeld => ?_)
              · exact ⟨var_load o_o (by simp) 0 _ rfl, var_load o_o (by simp) 1 _ rfl, var_load o_o (by simp) 2 _ rfl, var_load o_x (by simp) 0 _ rfl, var_load o_x (by simp) 1 _ rfl, var_load o_x (by simp) 2 _ rfl⟩
              clear hK K
              try simp only [Act.put, List.setIfInBounds_toArray, List.set_cons_zero, List.set_cons_succ]
              refine wpAnyH_take (i := 4) (oi := ?oiz2_4_5) (v := ?vz2_4_5) ?hiz2_4_5 (by kernel_rfl) (by kernel_rfl) (by kernel_rfl) ?hQz2_4_5 (Or.inl ⟨?hwz2_4_5, ?hyz2_4_5⟩) (by assumption) ?_
              case hiz2_4_5 => simp only [List.getElem?_toArray, List.getElem?_cons_succ, List.getElem?_cons_zero]; rfl
              case hQz2_4_5 => exact fun _ _ _ h => h
              case hwz2_4_5 => rfl
              case hyz2_4_5 => intro w hSw; (try dsimp only at hSw); (first | (go_simp; done) | (go_simp; with_reducible rfl))
              try simp only [Act.put, List.setIfInBounds_toArray, List.set_cons_zero, List.set_cons_succ]
              refine wpAnyH_done (by kernel_rfl) ?_ _
              go_wp2
              have y0 : w15.cell? ⟨(w.heap.size + 1), 0, none⟩ = some (.int .i64 b.Seed) := var_load o_r (by simp) 0 _ rfl
              have y1 : w15.cell? ⟨(w.heap.size + 1), 1, none⟩ = some (.int .i64 (b.Next + 1)) := var_load o_r (by simp) 1 _ rfl
              have y2 : w15.cell? ⟨(w.heap.size + 1), 2, none⟩ = some (.slice A_n (15 + 1) c_n) := var_load o_r (by simp) 2 _ rfl
              have u0 : w15.cell? ⟨(w.heap.size + 1 + 1), 0, none⟩ = some (.int .i64 b.Next) := var_load o_q (by simp) 0 _ rfl
              have u1 : w15.cell? ⟨(w.heap.size + 1 + 1), 1, none⟩ = some (.int .i64 a) := var_load o_q (by simp) 1 _ rfl
              have u2 : w15.cell? ⟨(w.heap.size + 1 + 1), 2, none⟩ = some (.int .i64 (now + 5)) := var_load o_q (by simp) 2 _ rfl
              refine bodyPost_ret (v := .tuple #[.agg #[.int .i64 b.Seed, .int .i64 (b.Next + 1), .slice A_n (15 + 1) c_n], .agg #[.int .i64 b.Next, .int .i64 a, .int .i64 (now + 5)], .bool true]) (by simp [results, Tryz.results36, go_sem, y0, y1, y2, u0, u1, u2]) rfl ?_
              exact made_is (by rw [HD.out]) rfl rfl (by have := HL.out; simp; omega) rfl o_n n_n HB
      · have h2b : (b.Next == 1000000) = false := by simpa using h2
        have e1 : issOk b a now = false := by unfold issOk; rw [h1, decide_eq_false h4, Bool.and_false]
        obtain ⟨e2, e3⟩ := issX_f e1
        rw [e1, e2, e3]
        clear e1 e2 e3
        clear h1
        obtain ⟨h3a, h3b⟩ := h3
        have h4c : now < 0 ∨ 1000000 < now := by omega
        clear h4
        go_enter Tryz.func36, Tryz.ntmps36
        obtain ⟨w1, hw1⟩ : ∃ y, y = w.alloc (.cells #[.int .i64 b.Seed, .int .i64 b.Next, .slice A n c] 33) := ⟨_, rfl⟩
        have o_p := var_owns w 33 3 [.int .i64 b.Seed, .int .i64 b.Next, .slice A n c] rfl
        have bw1 : Below w.heap.size w w1 := hw1 ▸ (Below.refl _ _).alloc (Nat.le_refl _) _
        rw [← hw1] at o_p
        have sw1 : w1.heap.size = w.heap.size + 1 := by rw [hw1]; simp
        have zw1 : w.heap.size < w1.heap.size := by rw [hw1]; simp
        have HB := bw1
        obtain ⟨w2, hw2⟩ : ∃ y, y = w1.alloc (.cells #[.int .i64 0, .int .i64 0, .slice none 0 0] 33) := ⟨_, rfl⟩
        have o_r := var_owns w1 33 3 [.int .i64 0, .int .i64 0, .slice none 0 0] rfl
        have bw2 : Below w1.heap.size w1 w2 := hw2 ▸ (Below.refl _ _).alloc (Nat.le_refl _) _
        rw [← hw2] at o_r
        rw [sw1] at o_r
        have sw2 : w2.heap.size = w.heap.size + 1 + 1 := by rw [hw2]; simp [sw1]
        have zw2 : w1.heap.size < w2.heap.size := by rw [hw2]; simp
        replace o_p := owns_below o_p bw2
        replace HB := HB.trans (bw2.mono HB.size)
        obtain ⟨w3, hw3⟩ : ∃ y, y = w2.alloc (.cells #[.int .i64 0, .int .i64 0, .int .i64 0] 67) := ⟨_, rfl⟩
        have o_q := var_owns w2 67 3 [.int .i64 0, .int .i64 0, .int .i64 0] rfl
        have bw3 : Below w2.heap.size w2 w3 := hw3 ▸ (Below.refl _ _).alloc (Nat.le_refl _) _
        rw [← hw3] at o_q
        rw [sw2] at o_q
        have sw3 : w3.heap.size = w.heap.size + 1 + 1 + 1 := by rw [hw3]; simp [sw2]
        have zw3 : w2.heap.size < w3.heap.size := by rw [hw3]; simp
        replace o_p := owns_below o_p bw3
        replace o_r := owns_below o_r bw3
        replace HB := HB.trans (bw3.mono HB.size)
        go_wp2_with fail
        rw [← hw1, ← hw2, ← hw3]
        clear hw1 hw2 hw3 sw1 sw2 sw3
        (refine (KC.out _ HB).mono ?_); rintro e w4 ⟨v_z, s_z, rfl, o_z, n_z, bw4⟩
        replace o_p := owns_below o_p bw4
        replace o_r := owns_below o_r bw4
        replace o_q := owns_below o_q bw4
        replace HB := HB.trans (bw4.mono HB.size)
        have zw4 := bw4.size
        obtain ⟨A_z, c_z, b_z, rfl, o_y, hby⟩ := ChallengeBook.owns o_z
        unfold ChallengesD at o_y
        rw [← HXS.out, ← HL.out] at o_y
        rw [show b.Open.length = n by rw [← HXS.out, ← HL.out]]
        have i_y := Fx.made_in o_y
        replace o_y := owns_base (show w.heap.size ≤ w3.heap.size by omega) _ _ _ o_y
        have ny : b_z.Nodup := (show s_z = b_z by simpa using hby) ▸ n_z
        clear o_z hby
        have c_p0 : w4.cell? ⟨w.heap.size, 0, none⟩ = some (.int .i64 b.Seed) := var_load o_p (by simp) 0 _ rfl
        have f_p0 : w4.frozen? ⟨w.heap.size, 0, none⟩ = false := var_frozen o_p (by simp) 0 _ rfl
        have c_p1 : w4.cell? ⟨w.heap.size, 1, none⟩ = some (.int .i64 b.Next) := var_load o_p (by simp) 1 _ rfl
        have f_p1 : w4.frozen? ⟨w.heap.size, 1, none⟩ = false := var_frozen o_p (by simp) 1 _ rfl
        have c_p2 : w4.cell? ⟨w.heap.size, 2, none⟩ = some (.slice A n c) := var_load o_p (by simp) 2 _ rfl
        have f_p2 : w4.frozen? ⟨w.heap.size, 2, none⟩ = false := var_frozen o_p (by simp) 2 _ rfl
        have l_p := var_lt o_p
        have c_r0 : w4.cell? ⟨(w.heap.size + 1), 0, none⟩ = some (.int .i64 0) := var_load o_r (by simp) 0 _ rfl
        have f_r0 : w4.frozen? ⟨(w.heap.size + 1), 0, none⟩ = false := var_frozen o_r (by simp) 0 _ rfl
        have c_r1 : w4.cell? ⟨(w.heap.size + 1), 1, none⟩ = some (.int .i64 0) := var_load o_r (by simp) 1 _ rfl
        have f_r1 : w4.frozen? ⟨(w.heap.size + 1), 1, none⟩ = false := var_frozen o_r (by simp) 1 _ rfl
        have c_r2 : w4.cell? ⟨(w.heap.size + 1), 2, none⟩ = some (.slice none 0 0) := var_load o_r (by simp) 2 _ rfl
        have f_r2 : w4.frozen? ⟨(w.heap.size + 1), 2, none⟩ = false := var_frozen o_r (by simp) 2 _ rfl
        have l_r := var_lt o_r
        have c_q0 : w4.cell? ⟨(w.heap.size + 1 + 1), 0, none⟩ = some (.int .i64 0) := var_load o_q (by simp) 0 _ rfl
        have f_q0 : w4.frozen? ⟨(w.heap.size + 1 + 1), 0, none⟩ = false := var_frozen o_q (by simp) 0 _ rfl
        have c_q1 : w4.cell? ⟨(w.heap.size + 1 + 1), 1, none⟩ = some (.int .i64 0) := var_load o_q (by simp) 1 _ rfl
        have f_q1 : w4.frozen? ⟨(w.heap.size + 1 + 1), 1, none⟩ = false := var_frozen o_q (by simp) 1 _ rfl
        have c_q2 : w4.cell? ⟨(w.heap.size + 1 + 1), 2, none⟩ = some (.int .i64 0) := var_load o_q (by simp) 2 _ rfl
        have f_q2 : w4.frozen? ⟨(w.heap.size + 1 + 1), 2, none⟩ = false := var_frozen o_q (by simp) 2 _ rfl
        have l_q := var_lt o_q
        obtain ⟨w5, hw5⟩ : ∃ y, y = w4.alloc (.cells #[.int .i64 b.Seed, .int .i64 b.Next, .slice A_z n c_z] 33) := ⟨_, rfl⟩
        have o_o := var_owns w4 33 3 [.int .i64 b.Seed, .int .i64 b.Next, .slice A_z n c_z] rfl
        have bw5 : Below w4.heap.size w4 w5 := hw5 ▸ (Below.refl _ _).alloc (Nat.le_refl _) _
        rw [← hw5] at o_o
        have sw5 : w5.heap.size = w4.heap.size + 1 := by rw [hw5]; simp
        have zw5 : w4.heap.size < w5.heap.size := by rw [hw5]; simp
        replace o_p := owns_below o_p bw5
        replace o_r := owns_below o_r bw5
        replace o_q := owns_below o_q bw5
        replace o_y := owns_below o_y bw5
        replace HB := HB.trans (bw5.mono HB.size)
        go_wp2_with fail
        rw [← hw5]
        clear hw5 sw5
        (refine (KV.out _ HB).mono ?_); rintro e w6 ⟨rfl, bw6⟩
        clear c_p0 f_p0 c_p1 f_p1 c_p2 f_p2 l_p c_r0 f_r0 c_r1 f_r1 c_r2 f_r2 l_r c_q0 f_q0 c_q1 f_q1 c_q2 f_q2 l_q
        replace o_p := owns_below o_p bw6
        replace o_r := owns_below o_r bw6
        replace o_q := owns_below o_q bw6
        replace o_o := owns_below o_o bw6
        replace o_y := owns_below o_y bw6
        replace HB := HB.trans (bw6.mono HB.size)
        have zw6 := bw6.size
        have c_p0 : w6.cell? ⟨w.heap.size, 0, none⟩ = some (.int .i64 b.Seed) := var_load o_p (by simp) 0 _ rfl
        have f_p0 : w6.frozen? ⟨w.heap.size, 0, none⟩ = false := var_frozen o_p (by simp) 0 _ rfl
        have c_p1 : w6.cell? ⟨w.heap.size, 1, none⟩ = some (.int .i64 b.Next) := var_load o_p (by simp) 1 _ rfl
        have f_p1 : w6.frozen? ⟨w.heap.size, 1, none⟩ = false := var_frozen o_p (by simp) 1 _ rfl
        have c_p2 : w6.cell? ⟨w.heap.size, 2, none⟩ = some (.slice A n c) := var_load o_p (by simp) 2 _ rfl
        have f_p2 : w6.frozen? ⟨w.heap.size, 2, none⟩ = false := var_frozen o_p (by simp) 2 _ rfl
        have l_p := var_lt o_p
        have c_r0 : w6.cell? ⟨(w.heap.size + 1), 0, none⟩ = some (.int .i64 0) := var_load o_r (by simp) 0 _ rfl
        have f_r0 : w6.frozen? ⟨(w.heap.size + 1), 0, none⟩ = false := var_frozen o_r (by simp) 0 _ rfl
        have c_r1 : w6.cell? ⟨(w.heap.size + 1), 1, none⟩ = some (.int .i64 0) := var_load o_r (by simp) 1 _ rfl
        have f_r1 : w6.frozen? ⟨(w.heap.size + 1), 1, none⟩ = false := var_frozen o_r (by simp) 1 _ rfl
        have c_r2 : w6.cell? ⟨(w.heap.size + 1), 2, none⟩ = some (.slice none 0 0) := var_load o_r (by simp) 2 _ rfl
        have f_r2 : w6.frozen? ⟨(w.heap.size + 1), 2, none⟩ = false := var_frozen o_r (by simp) 2 _ rfl
        have l_r := var_lt o_r
        have c_q0 : w6.cell? ⟨(w.heap.size + 1 + 1), 0, none⟩ = some (.int .i64 0) := var_load o_q (by simp) 0 _ rfl
        have f_q0 : w6.frozen? ⟨(w.heap.size + 1 + 1), 0, none⟩ = false := var_frozen o_q (by simp) 0 _ rfl
        have c_q1 : w6.cell? ⟨(w.heap.size + 1 + 1), 1, none⟩ = some (.int .i64 0) := var_load o_q (by simp) 1 _ rfl
        have f_q1 : w6.frozen? ⟨(w.heap.size + 1 + 1), 1, none⟩ = false := var_frozen o_q (by simp) 1 _ rfl
        have c_q2 : w6.cell? ⟨(w.heap.size + 1 + 1), 2, none⟩ = some (.int .i64 0) := var_load o_q (by simp) 2 _ rfl
        have f_q2 : w6.frozen? ⟨(w.heap.size + 1 + 1), 2, none⟩ = false := var_frozen o_q (by simp) 2 _ rfl
        have l_q := var_lt o_q
        have c_o0 : w6.cell? ⟨w4.heap.size, 0, none⟩ = some (.int .i64 b.Seed) := var_load o_o (by simp) 0 _ rfl
        have f_o0 : w6.frozen? ⟨w4.heap.size, 0, none⟩ = false := var_frozen o_o (by simp) 0 _ rfl
        have c_o1 : w6.cell? ⟨w4.heap.size, 1, none⟩ = some (.int .i64 b.Next) := var_load o_o (by simp) 1 _ rfl
        have f_o1 : w6.frozen? ⟨w4.heap.size, 1, none⟩ = false := var_frozen o_o (by simp) 1 _ rfl
        have c_o2 : w6.cell? ⟨w4.heap.size, 2, none⟩ = some (.slice A_z n c_z) := var_load o_o (by simp) 2 _ rfl
        have f_o2 : w6.frozen? ⟨w4.heap.size, 2, none⟩ = false := var_frozen o_o (by simp) 2 _ rfl
        have l_o := var_lt o_o
        go_wp2_with (first | (go_at_call 66; (with_reducible refine (C1.specIn_t _ _ _ _ (by omega) (by omega)).mono ?_); rintro e w' ⟨rfl, rfl⟩) | (go_at_call 66; (with_reducible refine (C1.specIn_f _ _ _ _ (by omega)).mono ?_); rintro e w' ⟨rfl, rfl⟩))
        clear c_p0 f_p0 c_p1 f_p1 c_p2 f_p2 l_p c_r0 f_r0 c_r1 f_r1 c_r2 f_r2 l_r c_q0 f_q0 c_q1 f_q1 c_q2 f_q2 l_q c_o0 f_o0 c_o1 f_o1 c_o2 f_o2 l_o
        obtain ⟨w7, hw7⟩ : ∃ y, y = (((w6.setCell ⟨(w.heap.size + 1), 0, none⟩ (.int .i64 b.Seed)).setCell ⟨(w.heap.size + 1), 1, none⟩ (.int .i64 b.Next)).setCell ⟨(w.heap.size + 1), 2, none⟩ (.slice A_z n c_z)) := ⟨_, rfl⟩
        obtain ⟨o_new, tw7⟩ := var_some [.int .i64 b.Seed, .int .i64 b.Next, .slice A_z n c_z] 0 _ _ o_r (by simp)
        rw [show setAll w6 ((w.heap.size + 1)) 0 [.int .i64 b.Seed, .int .i64 b.Next, .slice A_z n c_z] = w7 from hw7.symm] at o_new tw7
        replace o_r : Owns w7 _ (varD 33 3 [.int .i64 b.Seed, .int .i64 b.Next, .slice A_z n c_z]) _ _ := o_new
        clear o_new
        replace o_p := owns_turned o_p tw7 (fun b hb hb2 => by simp at hb hb2; omega)
        replace o_q := owns_turned o_q tw7 (fun b hb hb2 => by simp at hb hb2; omega)
        replace o_o := owns_turned o_o tw7 (fun b hb hb2 => by simp at hb hb2; omega)
        replace o_y := owns_turned o_y tw7 (fun b hb hb2 => by have h1 := i_y b hb; simp at hb2; omega)
        replace HB := below_turned HB tw7 (fun b hb => by simp at hb; omega)
        have zw7 := tw7.2.2.2.1
        rw [← hw7]
        clear hw7
        obtain ⟨w8, hw8⟩ : ∃ y, y = (((w7.setCell ⟨(w.heap.size + 1 + 1), 0, none⟩ (.int .i64 0)).setCell ⟨(w.heap.size + 1 + 1), 1, none⟩ (.int .i64 0)).setCell ⟨(w.heap.size + 1 + 1), 2, none⟩ (.int .i64 0)) := ⟨_, rfl⟩
        obtain ⟨o_new, tw8⟩ := var_some [.int .i64 0, .int .i64 0, .int .i64 0] 0 _ _ o_q (by simp)
        rw [show setAll w7 ((w.heap.size + 1 + 1)) 0 [.int .i64 0, .int .i64 0, .int .i64 0] = w8 from hw8.symm] at o_new tw8
        replace o_q : Owns w8 _ (varD 67 3 [.int .i64 0, .int .i64 0, .int .i64 0]) _ _ := o_new
        clear o_new
        replace o_p := owns_turned o_p tw8 (fun b hb hb2 => by simp at hb hb2; omega)
        replace o_r := owns_turned o_r tw8 (fun b hb hb2 => by simp at hb hb2; omega)
        replace o_o := owns_turned o_o tw8 (fun b hb hb2 => by simp at hb hb2; omega)
        replace o_y := owns_turned o_y tw8 (fun b hb hb2 => by have h1 := i_y b hb; simp at hb2; omega)
        replace HB := below_turned HB tw8 (fun b hb => by simp at hb; omega)
        have zw8 := tw8.2.2.2.1
        rw [← hw8]
        clear hw8
        have y0 : w8.cell? ⟨(w.heap.size + 1), 0, none⟩ = some (.int .i64 b.Seed) := var_load o_r (by simp) 0 _ rfl
        have y1 : w8.cell? ⟨(w.heap.size + 1), 1, none⟩ = some (.int .i64 b.Next) := var_load o_r (by simp) 1 _ rfl
        have y2 : w8.cell? ⟨(w.heap.size + 1), 2, none⟩ = some (.slice A_z n c_z) := var_load o_r (by simp) 2 _ rfl
        have u0 : w8.cell? ⟨(w.heap.size + 1 + 1), 0, none⟩ = some (.int .i64 0) := var_load o_q (by simp) 0 _ rfl
        have u1 : w8.cell? ⟨(w.heap.size + 1 + 1), 1, none⟩ = some (.int .i64 0) := var_load o_q (by simp) 1 _ rfl
        have u2 : w8.cell? ⟨(w.heap.size + 1 + 1), 2, none⟩ = some (.int .i64 0) := var_load o_q (by simp) 2 _ rfl
        refine bodyPost_ret (v := .tuple #[.agg #[.int .i64 b.Seed, .int .i64 b.Next, .slice A_z n c_z], .agg #[.int .i64 0, .int .i64 0, .int .i64 0], .bool false]) (by simp [results, Tryz.results36, go_sem, y0, y1, y2, u0, u1, u2]) rfl ?_
        exact made_is HXS.out rfl rfl HL.out rfl o_y ny HB
    · have h2b : (b.Next == 1000000) = false := by simpa using h2
      have e1 : issOk b a now = false := by unfold issOk; rw [h1, decide_eq_false h3, Bool.and_false]; rfl
      obtain ⟨e2, e3⟩ := issX_f e1
      rw [e1, e2, e3]
      clear e1 e2 e3
      clear h1
      have h3c : a < 0 ∨ 1000000 < a := by omega
      clear h3
      go_enter Tryz.func36, Tryz.ntmps36
      obtain ⟨w1, hw1⟩ : ∃ y, y = w.alloc (.cells #[.int .i64 b.Seed, .int .i64 b.Next, .slice A n c] 33) := ⟨_, rfl⟩
      have o_p := var_owns w 33 3 [.int .i64 b.Seed, .int .i64 b.Next, .slice A n c] rfl
      have bw1 : Below w.heap.size w w1 := hw1 ▸ (Below.refl _ _).alloc (Nat.le_refl _) _
      rw [← hw1] at o_p
      have sw1 : w1.heap.size = w.heap.size + 1 := by rw [hw1]; simp
      have zw1 : w.heap.size < w1.heap.size := by rw [hw1]; simp
      have HB := bw1
      obtain ⟨w2, hw2⟩ : ∃ y, y = w1.alloc (.cells #[.int .i64 0, .int .i64 0, .slice none 0 0] 33) := ⟨_, rfl⟩
      have o_r := var_owns w1 33 3 [.int .i64 0, .int .i64 0, .slice none 0 0] rfl
      have bw2 : Below w1.heap.size w1 w2 := hw2 ▸ (Below.refl _ _).alloc (Nat.le_refl _) _
      rw [← hw2] at o_r
      rw [sw1] at o_r
      have sw2 : w2.heap.size = w.heap.size + 1 + 1 := by rw [hw2]; simp [sw1]
      have zw2 : w1.heap.size < w2.heap.size := by rw [hw2]; simp
      replace o_p := owns_below o_p bw2
      replace HB := HB.trans (bw2.mono HB.size)
      obtain ⟨w3, hw3⟩ : ∃ y, y = w2.alloc (.cells #[.int .i64 0, .int .i64 0, .int .i64 0] 67) := ⟨_, rfl⟩
      have o_q := var_owns w2 67 3 [.int .i64 0, .int .i64 0, .int .i64 0] rfl
      have bw3 : Below w2.heap.size w2 w3 := hw3 ▸ (Below.refl _ _).alloc (Nat.le_refl _) _
      rw [← hw3] at o_q
      rw [sw2] at o_q
      have sw3 : w3.heap.size = w.heap.size + 1 + 1 + 1 := by rw [hw3]; simp [sw2]
      have zw3 : w2.heap.size < w3.heap.size := by rw [hw3]; simp
      replace o_p := owns_below o_p bw3
      replace o_r := owns_below o_r bw3
      replace HB := HB.trans (bw3.mono HB.size)
      go_wp2_with fail
      rw [← hw1, ← hw2, ← hw3]
      clear hw1 hw2 hw3 sw1 sw2 sw3
      (refine (KC.out _ HB).mono ?_); rintro e w4 ⟨v_z, s_z, rfl, o_z, n_z, bw4⟩
      replace o_p := owns_below o_p bw4
      replace o_r := owns_below o_r bw4
      replace o_q := owns_below o_q bw4
      replace HB := HB.trans (bw4.mono HB.size)
      have zw4 := bw4.size
      obtain ⟨A_z, c_z, b_z, rfl, o_y, hby⟩ := ChallengeBook.owns o_z
      unfold ChallengesD at o_y
      rw [← HXS.out, ← HL.out] at o_y
      rw [show b.Open.length = n by rw [← HXS.out, ← HL.out]]
      have i_y := Fx.made_in o_y
      replace o_y := owns_base (show w.heap.size ≤ w3.heap.size by omega) _ _ _ o_y
      have ny : b_z.Nodup := (show s_z = b_z by simpa using hby) ▸ n_z
      clear o_z hby
      have c_p0 : w4.cell? ⟨w.heap.size, 0, none⟩ = some (.int .i64 b.Seed) := var_load o_p (by simp) 0 _ rfl
      have f_p0 : w4.frozen? ⟨w.heap.size, 0, none⟩ = false := var_frozen o_p (by simp) 0 _ rfl
      have c_p1 : w4.cell? ⟨w.heap.size, 1, none⟩ = some (.int .i64 b.Next) := var_load o_p (by simp) 1 _ rfl
      have f_p1 : w4.frozen? ⟨w.heap.size, 1, none⟩ = false := var_frozen o_p (by simp) 1 _ rfl
      have c_p2 : w4.cell? ⟨w.heap.size, 2, none⟩ = some (.slice A n c) := var_load o_p (by simp) 2 _ rfl
      have f_p2 : w4.frozen? ⟨w.heap.size, 2, none⟩ = false := var_frozen o_p (by simp) 2 _ rfl
      have l_p := var_lt o_p
      have c_r0 : w4.cell? ⟨(w.heap.size + 1), 0, none⟩ = some (.int .i64 0) := var_load o_r (by simp) 0 _ rfl
      have f_r0 : w4.frozen? ⟨(w.heap.size + 1), 0, none⟩ = false := var_frozen o_r (by simp) 0 _ rfl
      have c_r1 : w4.cell? ⟨(w.heap.size + 1), 1, none⟩ = some (.int .i64 0) := var_load o_r (by simp) 1 _ rfl
      have f_r1 : w4.frozen? ⟨(w.heap.size + 1), 1, none⟩ = false := var_frozen o_r (by simp) 1 _ rfl
      have c_r2 : w4.cell? ⟨(w.heap.size + 1), 2, none⟩ = some (.slice none 0 0) := var_load o_r (by simp) 2 _ rfl
      have f_r2 : w4.frozen? ⟨(w.heap.size + 1), 2, none⟩ = false := var_frozen o_r (by simp) 2 _ rfl
      have l_r := var_lt o_r
      have c_q0 : w4.cell? ⟨(w.heap.size + 1 + 1), 0, none⟩ = some (.int .i64 0) := var_load o_q (by simp) 0 _ rfl
      have f_q0 : w4.frozen? ⟨(w.heap.size + 1 + 1), 0, none⟩ = false := var_frozen o_q (by simp) 0 _ rfl
      have c_q1 : w4.cell? ⟨(w.heap.size + 1 + 1), 1, none⟩ = some (.int .i64 0) := var_load o_q (by simp) 1 _ rfl
      have f_q1 : w4.frozen? ⟨(w.heap.size + 1 + 1), 1, none⟩ = false := var_frozen o_q (by simp) 1 _ rfl
      have c_q2 : w4.cell? ⟨(w.heap.size + 1 + 1), 2, none⟩ = some (.int .i64 0) := var_load o_q (by simp) 2 _ rfl
      have f_q2 : w4.frozen? ⟨(w.heap.size + 1 + 1), 2, none⟩ = false := var_frozen o_q (by simp) 2 _ rfl
      have l_q := var_lt o_q
      obtain ⟨w5, hw5⟩ : ∃ y, y = w4.alloc (.cells #[.int .i64 b.Seed, .int .i64 b.Next, .slice A_z n c_z] 33) := ⟨_, rfl⟩
      have o_o := var_owns w4 33 3 [.int .i64 b.Seed, .int .i64 b.Next, .slice A_z n c_z] rfl
      have bw5 : Below w4.heap.size w4 w5 := hw5 ▸ (Below.refl _ _).alloc (Nat.le_refl _) _
      rw [← hw5] at o_o
      have sw5 : w5.heap.size = w4.heap.size + 1 := by rw [hw5]; simp
      have zw5 : w4.heap.size < w5.heap.size := by rw [hw5]; simp
      replace o_p := owns_below o_p bw5
      replace o_r := owns_below o_r bw5
      replace o_q := owns_below o_q bw5
      replace o_y := owns_below o_y bw5
      replace HB := HB.trans (bw5.mono HB.size)
      go_wp2_with fail
      rw [← hw5]
      clear hw5 sw5
      (refine (KV.out _ HB).mono ?_); rintro e w6 ⟨rfl, bw6⟩
      clear c_p0 f_p0 c_p1 f_p1 c_p2 f_p2 l_p c_r0 f_r0 c_r1 f_r1 c_r2 f_r2 l_r c_q0 f_q0 c_q1 f_q1 c_q2 f_q2 l_q
      replace o_p := owns_below o_p bw6
      replace o_r := owns_below o_r bw6
      replace o_q := owns_below o_q bw6
      replace o_o := owns_below o_o bw6
      replace o_y := owns_below o_y bw6
      replace HB := HB.trans (bw6.mono HB.size)
      have zw6 := bw6.size
      have c_p0 : w6.cell? ⟨w.heap.size, 0, none⟩ = some (.int .i64 b.Seed) := var_load o_p (by simp) 0 _ rfl
      have f_p0 : w6.frozen? ⟨w.heap.size, 0, none⟩ = false := var_frozen o_p (by simp) 0 _ rfl
      have c_p1 : w6.cell? ⟨w.heap.size, 1, none⟩ = some (.int .i64 b.Next) := var_load o_p (by simp) 1 _ rfl
      have f_p1 : w6.frozen? ⟨w.heap.size, 1, none⟩ = false := var_frozen o_p (by simp) 1 _ rfl
      have c_p2 : w6.cell? ⟨w.heap.size, 2, none⟩ = some (.slice A n c) := var_load o_p (by simp) 2 _ rfl
      have f_p2 : w6.frozen? ⟨w.heap.size, 2, none⟩ = false := var_frozen o_p (by simp) 2 _ rfl
      have l_p := var_lt o_p
      have c_r0 : w6.cell? ⟨(w.heap.size + 1), 0, none⟩ = some (.int .i64 0) := var_load o_r (by simp) 0 _ rfl
      have f_r0 : w6.frozen? ⟨(w.heap.size + 1), 0, none⟩ = false := var_frozen o_r (by simp) 0 _ rfl
      have c_r1 : w6.cell? ⟨(w.heap.size + 1), 1, none⟩ = some (.int .i64 0) := var_load o_r (by simp) 1 _ rfl
      have f_r1 : w6.frozen? ⟨(w.heap.size + 1), 1, none⟩ = false := var_frozen o_r (by simp) 1 _ rfl
      have c_r2 : w6.cell? ⟨(w.heap.size + 1), 2, none⟩ = some (.slice none 0 0) := var_load o_r (by simp) 2 _ rfl
      have f_r2 : w6.frozen? ⟨(w.heap.size + 1), 2, none⟩ = false := var_frozen o_r (by simp) 2 _ rfl
      have l_r := var_lt o_r
      have c_q0 : w6.cell? ⟨(w.heap.size + 1 + 1), 0, none⟩ = some (.int .i64 0) := var_load o_q (by simp) 0 _ rfl
      have f_q0 : w6.frozen? ⟨(w.heap.size + 1 + 1), 0, none⟩ = false := var_frozen o_q (by simp) 0 _ rfl
      have c_q1 : w6.cell? ⟨(w.heap.size + 1 + 1), 1, none⟩ = some (.int .i64 0) := var_load o_q (by simp) 1 _ rfl
      have f_q1 : w6.frozen? ⟨(w.heap.size + 1 + 1), 1, none⟩ = false := var_frozen o_q (by simp) 1 _ rfl
      have c_q2 : w6.cell? ⟨(w.heap.size + 1 + 1), 2, none⟩ = some (.int .i64 0) := var_load o_q (by simp) 2 _ rfl
      have f_q2 : w6.frozen? ⟨(w.heap.size + 1 + 1), 2, none⟩ = false := var_frozen o_q (by simp) 2 _ rfl
      have l_q := var_lt o_q
      have c_o0 : w6.cell? ⟨w4.heap.size, 0, none⟩ = some (.int .i64 b.Seed) := var_load o_o (by simp) 0 _ rfl
      have f_o0 : w6.frozen? ⟨w4.heap.size, 0, none⟩ = false := var_frozen o_o (by simp) 0 _ rfl
      have c_o1 : w6.cell? ⟨w4.heap.size, 1, none⟩ = some (.int .i64 b.Next) := var_load o_o (by simp) 1 _ rfl
      have f_o1 : w6.frozen? ⟨w4.heap.size, 1, none⟩ = false := var_frozen o_o (by simp) 1 _ rfl
      have c_o2 : w6.cell? ⟨w4.heap.size, 2, none⟩ = some (.slice A_z n c_z) := var_load o_o (by simp) 2 _ rfl
      have f_o2 : w6.frozen? ⟨w4.heap.size, 2, none⟩ = false := var_frozen o_o (by simp) 2 _ rfl
      have l_o := var_lt o_o
      go_wp2_with (first | (go_at_call 66; (with_reducible refine (C1.specIn_t _ _ _ _ (by omega) (by omega)).mono ?_); rintro e w' ⟨rfl, rfl⟩) | (go_at_call 66; (with_reducible refine (C1.specIn_f _ _ _ _ (by omega)).mono ?_); rintro e w' ⟨rfl, rfl⟩))
      clear c_p0 f_p0 c_p1 f_p1 c_p2 f_p2 l_p c_r0 f_r0 c_r1 f_r1 c_r2 f_r2 l_r c_q0 f_q0 c_q1 f_q1 c_q2 f_q2 l_q c_o0 f_o0 c_o1 f_o1 c_o2 f_o2 l_o
      obtain ⟨w7, hw7⟩ : ∃ y, y = (((w6.setCell ⟨(w.heap.size + 1), 0, none⟩ (.int .i64 b.Seed)).setCell ⟨(w.heap.size + 1), 1, none⟩ (.int .i64 b.Next)).setCell ⟨(w.heap.size + 1), 2, none⟩ (.slice A_z n c_z)) := ⟨_, rfl⟩
      obtain ⟨o_new, tw7⟩ := var_some [.int .i64 b.Seed, .int .i64 b.Next, .slice A_z n c_z] 0 _ _ o_r (by simp)
      rw [show setAll w6 ((w.heap.size + 1)) 0 [.int .i64 b.Seed, .int .i64 b.Next, .slice A_z n c_z] = w7 from hw7.symm] at o_new tw7
      replace o_r : Owns w7 _ (varD 33 3 [.int .i64 b.Seed, .int .i64 b.Next, .slice A_z n c_z]) _ _ := o_new
      clear o_new
      replace o_p := owns_turned o_p tw7 (fun b hb hb2 => by simp at hb hb2; omega)
      replace o_q := owns_turned o_q tw7 (fun b hb hb2 => by simp at hb hb2; omega)
      replace o_o := owns_turned o_o tw7 (fun b hb hb2 => by simp at hb hb2; omega)
      replace o_y := owns_turned o_y tw7 (fun b hb hb2 => by have h1 := i_y b hb; simp at hb2; omega)
      replace HB := below_turned HB tw7 (fun b hb => by simp at hb; omega)
      have zw7 := tw7.2.2.2.1
      rw [← hw7]
      clear hw7
      obtain ⟨w8, hw8⟩ : ∃ y, y = (((w7.setCell ⟨(w.heap.size + 1 + 1), 0, none⟩ (.int .i64 0)).setCell ⟨(w.heap.size + 1 + 1), 1, none⟩ (.int .i64 0)).setCell ⟨(w.heap.size + 1 + 1), 2, none⟩ (.int .i64 0)) := ⟨_, rfl⟩
      obtain ⟨o_new, tw8⟩ := var_some [.int .i64 0, .int .i64 0, .int .i64 0] 0 _ _ o_q (by simp)
      rw [show setAll w7 ((w.heap.size + 1 + 1)) 0 [.int .i64 0, .int .i64 0, .int .i64 0] = w8 from hw8.symm] at o_new tw8
      replace o_q : Owns w8 _ (varD 67 3 [.int .i64 0, .int .i64 0, .int .i64 0]) _ _ := o_new
      clear o_new
      replace o_p := owns_turned o_p tw8 (fun b hb hb2 => by simp at hb hb2; omega)
      replace o_r := owns_turned o_r tw8 (fun b hb hb2 => by simp at hb hb2; omega)
      replace o_o := owns_turned o_o tw8 (fun b hb hb2 => by simp at hb hb2; omega)
      replace o_y := owns_turned o_y tw8 (fun b hb hb2 => by have h1 := i_y b hb; simp at hb2; omega)
      replace HB := below_turned HB tw8 (fun b hb => by simp at hb; omega)
      have zw8 := tw8.2.2.2.1
      rw [← hw8]
      clear hw8
      have y0 : w8.cell? ⟨(w.heap.size + 1), 0, none⟩ = some (.int .i64 b.Seed) := var_load o_r (by simp) 0 _ rfl
      have y1 : w8.cell? ⟨(w.heap.size + 1), 1, none⟩ = some (.int .i64 b.Next) := var_load o_r (by simp) 1 _ rfl
      have y2 : w8.cell? ⟨(w.heap.size + 1), 2, none⟩ = some (.slice A_z n c_z) := var_load o_r (by simp) 2 _ rfl
      have u0 : w8.cell? ⟨(w.heap.size + 1 + 1), 0, none⟩ = some (.int .i64 0) := var_load o_q (by simp) 0 _ rfl
      have u1 : w8.cell? ⟨(w.heap.size + 1 + 1), 1, none⟩ = some (.int .i64 0) := var_load o_q (by simp) 1 _ rfl
      have u2 : w8.cell? ⟨(w.heap.size + 1 + 1), 2, none⟩ = some (.int .i64 0) := var_load o_q (by simp) 2 _ rfl
      refine bodyPost_ret (v := .tuple #[.agg #[.int .i64 b.Seed, .int .i64 b.Next, .slice A_z n c_z], .agg #[.int .i64 0, .int .i64 0, .int .i64 0], .bool false]) (by simp [results, Tryz.results36, go_sem, y0, y1, y2, u0, u1, u2]) rfl ?_
      exact made_is HXS.out rfl rfl HL.out rfl o_y ny HB
end Go.Proofs.YtllaacdikjffmaaGreat.C12e
