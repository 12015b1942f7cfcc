import Derived.Test.YtllaacdikjffmaaGreatC12
/-
  Contract of chapter 12's IsValidBook, of the model.
-/
namespace Go.Proofs.YtllaacdikjffmaaGreat.C12b
open Go.ChangeShapes Go.WideShapes Go.ChangeAt Go.RowKit
open S0 S1 S9 Dm Fx M3 M8 C3 C6 C12
set_option linter.unusedVariables false
set_option linter.unusedSimpArgs false
set_option maxRecDepth 100000
def okCh (nx : Int) (x : Fx.Challenge) : Prop := (0 ≤ x.Id ∧ x.Id ≤ IntKind.i64.wrap (nx - 1)) ∧ (0 ≤ x.Account ∧ x.Account ≤ 1000005) ∧ (0 ≤ x.Until ∧ x.Until ≤ 1000005)
def okBook (nx : Int) (l : List Fx.Challenge) : Prop := (∀ x ∈ l, okCh nx x) ∧ ∀ j x y, l[j]? = some x → l[j + 1]? = some y → x.Id < y.Id
open Classical in
noncomputable def okB (nx : Int) (l : List Fx.Challenge) : Bool := decide (okBook nx l)
open Classical in
theorem okB_t {nx : Int} {l : List Fx.Challenge} (h : okBook nx l) : okB nx l = true := decide_eq_true h
open Classical in
theorem okB_f {nx : Int} {l : List Fx.Challenge} (h : ¬ okBook nx l) : okB nx l = false := decide_eq_false h
noncomputable def vbk (b : Fx.ChallengeBook) : Bool := okB b.Next b.Open && decide (0 ≤ b.Next ∧ b.Next ≤ 1000000) && decide (b.Open.length ≤ 16)
theorem inT (x a c : Int) (w : World) (h1 : a ≤ x) (h2 : x ≤ c) : Calls Tryz.prog 66 #[.int .i64 x, .int .i64 a, .int .i64 c] w fun e w' => e = .returned (.bool true) ∧ w' = w := (C1.specIn_t _ _ _ _ h1 h2).mono fun e w' h => ⟨h.1, h.2.symm⟩
theorem inF (x a c : Int) (w : World) (h : x < a ∨ c < x) : Calls Tryz.prog 66 #[.int .i64 x, .int .i64 a, .int .i64 c] w fun e w' => e = .returned (.bool false) ∧ w' = w := (C1.specIn_f _ _ _ _ h).mono fun e w' h => ⟨h.1, h.2.symm⟩
/-- What the rounds so far have seen. -/
def Seen (nx : Int) (l : List Fx.Challenge) (k : Nat) : Prop := (∀ j x, j < k → l[j]? = some x → okCh nx x) ∧ ∀ j x y, j + 1 < k → l[j]? = some x → l[j + 1]? = some y → x.Id < y.Id
theorem Seen.next {nx : Int} {l : List Fx.Challenge} {k : Nat} {x : Fx.Challenge} (h : Seen nx l k) (hx : l[k]? = some x) (ho : okCh nx x) (hp : ∀ j y, k = j + 1 → l[j]? = some y → y.Id < x.Id) : Seen nx l (k + 1) := by
  refine ⟨fun j z hj hz => ?_, fun j y z hj hy hz => ?_⟩
  · by_cases h1 : j < k
    · exact h.1 j z h1 hz
    · obtain rfl : j = k := by omega
      rw [hx] at hz
      injection hz with hz
      rw [← hz]; exact ho
  · by_cases h1 : j + 1 < k
    · exact h.2 j y z h1 hy hz
    · obtain rfl : k = j + 1 := by omega
      rw [hx] at hz
      injection hz with hz
      rw [← hz]; exact hp j y rfl hy
theorem Seen.all {nx : Int} {l : List Fx.Challenge} {k : Nat} (h : Seen nx l k) (hk : l.length ≤ k) : okBook nx l := by
  refine ⟨fun x hx => ?_, fun j x y hx hy => ?_⟩
  · obtain ⟨j, hj, rfl⟩ := List.getElem_of_mem hx
    exact h.1 j _ (by omega) (List.getElem?_eq_getElem hj)
  · have := (List.getElem?_eq_some_iff.1 hy).1
    exact h.2 j x y (by omega) hx hy
set_option maxHeartbeats 8000000 in
theorem specVbk (w : World) (b : Fx.ChallengeBook) (us : List Value) (h : RdsL w w.heap.size b.dcs us) (hn : b.Open.length ≤ 16000000) : Calls Tryz.prog 46 #[.agg us.toArray] w (Gives (.bool (vbk b)) w) := by
  obtain ⟨A, c, rfl, g⟩ := ChallengeBook.rds h
  clear h
  obtain ⟨r, hrr⟩ : ∃ r, r = vbk b := ⟨_, rfl⟩
  rw [← hrr]
  unfold vbk at hrr
  obtain ⟨xs, hxs⟩ : ∃ xs, xs = b.Open := ⟨_, rfl⟩
  rw [← hxs] at g hrr hn ⊢
  obtain ⟨n, hnn⟩ : ∃ n, n = xs.length := ⟨_, rfl⟩
  rw [← hnn] at g hn hrr ⊢
  have HL := Lib.hid hnn
  have HRR := Lib.hid hrr
  clear hnn hrr hxs
  obtain ⟨N, hN⟩ : ∃ N, N = IntKind.i64.wrap (b.Next - 1) := ⟨_, rfl⟩
  have HOK := Lib.hid (show ∀ x, okCh b.Next x ↔ (0 ≤ x.Id ∧ x.Id ≤ N) ∧ (0 ≤ x.Account ∧ x.Account ≤ 1000005) ∧ (0 ≤ x.Until ∧ x.Until ≤ 1000005) from fun x => by unfold okCh; rw [hN])
  have HW := Lib.hid hN.symm
  clear hN
  obtain ⟨w1, hw1⟩ : ∃ y, y = w.alloc (.cells #[.int .i64 b.Seed, .int .i64 b.Next, .slice A n c] 33) := ⟨_, rfl⟩
  have op := var_owns w 33 3 [.int .i64 b.Seed, .int .i64 b.Next, .slice A n c] rfl
  have HB : Below w.heap.size w w1 := hw1 ▸ (Below.refl _ _).alloc (Nat.le_refl _) _
  rw [← hw1] at op
  have HR := Lib.hid (rds_on g HB)
  have l0 := var_lt op
  have HF := Lib.hid (show ∀ wx, Below w1.heap.size w1 wx → wx.cell? ⟨w.heap.size, 1, none⟩ = some (.int .i64 b.Next) ∧ wx.cell? ⟨w.heap.size, 2, none⟩ = some (.slice A n c) from fun wx hb => ⟨var_load (owns_below op hb) (by simp) 1 _ rfl, var_load (owns_below op hb) (by simp) 2 _ rfl⟩)
  clear g op
  go_enter Tryz.func46, Tryz.ntmps46
  go_wp2_with fail
  rw [← hw1]
  clear hw1
  go_loopw [3] (fun v wr => ∃ k : Nat, k ≤ n ∧ v = .int .i64 k ∧ Seen b.Next xs k ∧ Below w1.heap.size w1 wr) (fun v _ => n - (intOf v).toNat)
  case atStart => exact ⟨0, by omega, rfl, ⟨fun _ _ h => by omega, fun _ _ _ h => by omega⟩, Below.refl _ _⟩
  case round =>
    obtain ⟨k, hk, rfl, hG, hb⟩ := hrel
    have HG := Lib.hid hG
    clear hG
    obtain ⟨p1, p2⟩ := HF.out _ hb
    have lr : w.heap.size < wr.heap.size := Nat.lt_of_lt_of_le l0 hb.size
    by_cases hlt : k < n
    · obtain ⟨x, hx⟩ := get_some xs (i := k) (by have := HL.out; omega)
      obtain ⟨ga, offa, us, rfl, hga, hru, hca⟩ := piece_at Challenge.len (by omega) (rds_on HR.out hb) hx
      obtain rfl := Challenge.rds hru
      have x0 : wr.cell? ⟨ga, offa + k * 3, none⟩ = some (.int .i64 x.Id) := hca 0 _ rfl
      have x1 : wr.cell? ⟨ga, offa + k * 3 + 1, none⟩ = some (.int .i64 x.Account) := hca 1 _ rfl
      have x2 : wr.cell? ⟨ga, offa + k * 3 + 2, none⟩ = some (.int .i64 x.Until) := hca 2 _ rfl
      have HX := Lib.hid hx
      have i1 : (0 : Int) ≤ (k : Int) := by omega
      have i2 : (k : Int) < (n : Int) := by omega
      clear hx hca hru
      obtain ⟨wx, hwx⟩ : ∃ y, y = wr.alloc (.cells #[.int .i64 x.Id, .int .i64 x.Account, .int .i64 x.Until] 67) := ⟨_, rfl⟩
      have ox := var_owns wr 67 3 [.int .i64 x.Id, .int .i64 x.Account, .int .i64 x.Until] rfl
      have bx : Below wr.heap.size wr wx := hwx ▸ (Below.refl _ _).alloc (Nat.le_refl _) _
      rw [← hwx] at ox
      have v0 : wx.cell? ⟨wr.heap.size, 0, none⟩ = some (.int .i64 x.Id) := var_load ox (by simp) 0 _ rfl
      have v1 : wx.cell? ⟨wr.heap.size, 1, none⟩ = some (.int .i64 x.Account) := var_load ox (by simp) 1 _ rfl
      have v2 : wx.cell? ⟨wr.heap.size, 2, none⟩ = some (.int .i64 x.Until) := var_load ox (by simp) 2 _ rfl
      have hb2 := hb.trans (bx.mono hb.size)
      obtain ⟨r1, r2⟩ := HF.out _ hb2
      have lx : w.heap.size < wx.heap.size := Nat.lt_of_lt_of_le lr bx.size
      have ly := var_lt ox
      clear ox
      go_wp2_with fail
      rw [← hwx]
      clear hwx x0 x1 x2 p1 p2
      by_cases e1 : 0 ≤ x.Id ∧ x.Id ≤ N
      · cases k with
        | zero =>
          by_cases e2 : 0 ≤ x.Account ∧ x.Account ≤ 1000005
          · by_cases e3 : 0 ≤ x.Until ∧ x.Until ≤ 1000005
            · have HO := Lib.hid (show okCh b.Next x from (HOK.out x).2 ⟨e1, e2, e3⟩)
              have hw := HW.out
              go_quiet (first | (go_at_call 66; exact Calls.quiet_of_same (inT _ _ _ _ (by omega) (by omega))) | (go_at_call 66; exact Calls.quiet_of_same (inF _ _ _ _ (by omega))))
              clear hw
              clear e1 e2 e3
              go_wp2
              go_roundw
              case rel => exact ⟨0 + 1, by omega, by go_num, HG.out.next HX.out HO.out (fun j y e hy => by omega), hb2.trans (drewN_below _ _ _)⟩
              case measure => simp [intOf]; omega
            · have hr : r = false := by
                rw [HRR.out, okB_f, Bool.false_and, Bool.false_and]
                intro ho
                exact e3 ((HOK.out x).1 (ho.1 x (List.mem_of_getElem? HX.out))).2.2
              subst hr
              have hw := HW.out
              go_quiet (first | (go_at_call 66; exact Calls.quiet_of_same (inT _ _ _ _ (by omega) (by omega))) | (go_at_call 66; exact Calls.quiet_of_same (inF _ _ _ _ (by omega))))
              clear hw
              go_wp2
              go_ret
              exact ⟨rfl, HB.trans ((hb2.trans (drewN_below _ _ _)).mono HB.size)⟩
          · have hr : r = false := by
              rw [HRR.out, okB_f, Bool.false_and, Bool.false_and]
              intro ho
              exact e2 ((HOK.out x).1 (ho.1 x (List.mem_of_getElem? HX.out))).2.1
            subst hr
            have hw := HW.out
            go_quiet (first | (go_at_call 66; exact Calls.quiet_of_same (inT _ _ _ _ (by omega) (by omega))) | (go_at_call 66; exact Calls.quiet_of_same (inF _ _ _ _ (by omega))))
            clear hw
            go_wp2
            go_ret
            exact ⟨rfl, HB.trans ((hb2.trans (drewN_below _ _ _)).mono HB.size)⟩
        | succ m =>
          obtain ⟨y, hy⟩ := get_some xs (i := m) (by have := HL.out; omega)
          obtain ⟨ga2, offa2, us2, eA, hga2, hru2, hca2⟩ := piece_at Challenge.len (by omega) (rds_on HR.out hb2) hy
          injection eA with eA
          injection eA with eA1 eA2 _
          subst eA1
          subst eA2
          obtain rfl := Challenge.rds hru2
          have y0 : wx.cell? ⟨ga, offa + m * 3, none⟩ = some (.int .i64 y.Id) := hca2 0 _ rfl
          have HY := Lib.hid hy
          clear hy hca2 hru2
          have hk1 : (0 : Int) < ((m : Int) + 1) := by omega
          have hk2 : IntKind.i64.wrap ((m : Int) + 1 - 1) = (m : Int) := by rw [IntWalk.i64_in _ (by omega)]; omega
          have hk3 : (0 : Int) ≤ (m : Int) := by omega
          have hk4 : (m : Int) < (n : Int) := by omega
          by_cases ep : y.Id < x.Id
          · have HP := Lib.hid ep
            have dp : decide (x.Id ≤ y.Id) = false := by simp; omega
            have dp2 : decide (y.Id ≥ x.Id) = false := by simp; omega
            by_cases e2 : 0 ≤ x.Account ∧ x.Account ≤ 1000005
            · by_cases e3 : 0 ≤ x.Until ∧ x.Until ≤ 1000005
              · have HO := Lib.hid (show okCh b.Next x from (HOK.out x).2 ⟨e1, e2, e3⟩)
                have hw := HW.out
                go_quiet (first | (go_at_call 66; exact Calls.quiet_of_same (inT _ _ _ _ (by omega) (by omega))) | (go_at_call 66; exact Calls.quiet_of_same (inF _ _ _ _ (by omega))))
                clear hw
                clear e1 e2 e3
                go_wp2
                go_roundw
                case rel => exact ⟨(m + 1) + 1, by omega, by go_num, HG.out.next HX.out HO.out (fun j y e hy => by obtain rfl : j = m := (by omega); rw [HY.out] at hy; injection hy with hy; rw [← hy]; exact HP.out), hb2.trans (drewN_below _ _ _)⟩
                case measure => simp [intOf]; omega
              · have hr : r = false := by
                  rw [HRR.out, okB_f, Bool.false_and, Bool.false_and]
                  intro ho
                  exact e3 ((HOK.out x).1 (ho.1 x (List.mem_of_getElem? HX.out))).2.2
                subst hr
                have hw := HW.out
                go_quiet (first | (go_at_call 66; exact Calls.quiet_of_same (inT _ _ _ _ (by omega) (by omega))) | (go_at_call 66; exact Calls.quiet_of_same (inF _ _ _ _ (by omega))))
                clear hw
                go_wp2
                go_ret
                exact ⟨rfl, HB.trans ((hb2.trans (drewN_below _ _ _)).mono HB.size)⟩
            · have hr : r = false := by
                rw [HRR.out, okB_f, Bool.false_and, Bool.false_and]
                intro ho
                exact e2 ((HOK.out x).1 (ho.1 x (List.mem_of_getElem? HX.out))).2.1
              subst hr
              have hw := HW.out
              go_quiet (first | (go_at_call 66; exact Calls.quiet_of_same (inT _ _ _ _ (by omega) (by omega))) | (go_at_call 66; exact Calls.quiet_of_same (inF _ _ _ _ (by omega))))
              clear hw
              go_wp2
              go_ret
              exact ⟨rfl, HB.trans ((hb2.trans (drewN_below _ _ _)).mono HB.size)⟩
          · have dp : decide (x.Id ≤ y.Id) = true := by simp; omega
            have dp2 : decide (y.Id ≥ x.Id) = true := by simp; omega
            have hr : r = false := by
              rw [HRR.out, okB_f, Bool.false_and, Bool.false_and]
              intro ho
              have := ho.2 m y x HY.out HX.out
              omega
            subst hr
            have hw := HW.out
            go_quiet (first | (go_at_call 66; exact Calls.quiet_of_same (inT _ _ _ _ (by omega) (by omega))) | (go_at_call 66; exact Calls.quiet_of_same (inF _ _ _ _ (by omega))))
            clear hw
            go_wp2
            go_ret
            exact ⟨rfl, HB.trans ((hb2.trans (drewN_below _ _ _)).mono HB.size)⟩
      · have hr : r = false := by
          rw [HRR.out, okB_f, Bool.false_and, Bool.false_and]
          intro ho
          exact e1 ((HOK.out x).1 (ho.1 x (List.mem_of_getElem? HX.out))).1
        subst hr
        have hw := HW.out
        go_quiet (first | (go_at_call 66; exact Calls.quiet_of_same (inT _ _ _ _ (by omega) (by omega))) | (go_at_call 66; exact Calls.quiet_of_same (inF _ _ _ _ (by omega))))
        clear hw
        go_wp2
        go_ret
        exact ⟨rfl, HB.trans ((hb2.trans (drewN_below _ _ _)).mono HB.size)⟩
    · have ho : okB b.Next xs = true := okB_t (HG.out.all (by have := HL.out; omega))
      have HD := Lib.hid (show r = (decide (0 ≤ b.Next ∧ b.Next ≤ 1000000) && decide (n ≤ 16)) by rw [HRR.out, ho, Bool.true_and])
      clear ho
      by_cases e4 : 0 ≤ b.Next ∧ b.Next ≤ 1000000
      · have HD2 := Lib.hid (show r = decide (n ≤ 16) by rw [HD.out, decide_eq_true e4, Bool.true_and])
        go_wp2_with fail
        (with_reducible refine (C1.specIn_t _ _ _ _ (by omega) (by omega)).mono ?_); rintro e w' ⟨rfl, rfl⟩
        by_cases e5 : n ≤ 16
        · have hr : r = true := by rw [HD2.out, decide_eq_true e5]
          subst hr
          have e6 : decide ((n : Int) ≤ 16) = true := by simp; omega
          go_wp2
          go_ret
          exact ⟨rfl, HB.trans (hb.mono HB.size)⟩
        · have hr : r = false := by rw [HD2.out, decide_eq_false e5]
          subst hr
          have e6 : decide ((n : Int) ≤ 16) = false := by simp; omega
          go_wp2
          go_ret
          exact ⟨rfl, HB.trans (hb.mono HB.size)⟩
      · have hr : r = false := by rw [HD.out, decide_eq_false e4]; rfl
        subst hr
        go_wp2_with fail
        (with_reducible refine (C1.specIn_f _ _ _ _ (by omega)).mono ?_); rintro e w' ⟨rfl, rfl⟩
        go_wp2
        go_ret
        exact ⟨rfl, HB.trans (hb.mono HB.size)⟩
end Go.Proofs.YtllaacdikjffmaaGreat.C12b
