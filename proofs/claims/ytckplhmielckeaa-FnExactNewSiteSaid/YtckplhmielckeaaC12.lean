/-
  Contracts of chapter 12's challenges, of the model: those that read alone.
-/
import Derived.Test.YtckplhmielckeaaBa
import Derived.Test.YtckplhmielckeaaYChallengeBook
import Derived.Test.YtckplhmielckeaaBb
import Derived.Deep.QuietTactic
import Derived.BigQuiet
import Derived.IntWalk
namespace Go.Proofs.Ytckplhmielckeaa.C12
open Go.ChangeShapes Go.WideShapes Go.ChangeAt Go.RowKit
open S0 S1 S9 Dm Fx M3 M8 C3 C6
set_option linter.unusedVariables false
set_option linter.unusedSimpArgs false
set_option maxRecDepth 100000
def cval (b : Fx.ChallengeBook) (i : Int) : Int := khash b.Seed [197, i]
def findC (l : List Fx.Challenge) (i : Int) : Int := match l.findIdx? (fun x => x.Id == i) with
  | some k => (k : Int)
  | none => -1
theorem findC_at {l : List Fx.Challenge} {i : Int} {k : Nat} {x : Fx.Challenge} (h : l[k]? = some x) (e : x.Id = i) (hn : ∀ j y, j < k → l[j]? = some y → y.Id ≠ i) : findC l i = k := by
  obtain ⟨hk, hx⟩ := List.getElem?_eq_some_iff.1 h
  have : l.findIdx? (fun x => x.Id == i) = some k := by
    rw [List.findIdx?_eq_some_iff_getElem]
    refine ⟨hk, by rw [hx]; simpa using e, fun j hj => ?_⟩
    have := hn j l[j] hj (List.getElem?_eq_getElem (by omega))
    simpa using this
  unfold findC
  rw [this]
theorem findC_none {l : List Fx.Challenge} {i : Int} (hn : ∀ j y, j < l.length → l[j]? = some y → y.Id ≠ i) : findC l i = -1 := by
  have : l.findIdx? (fun x => x.Id == i) = none := by
    rw [List.findIdx?_eq_none_iff]
    intro y hy
    obtain ⟨j, hj, e⟩ := List.getElem_of_mem hy
    have := hn j y hj (by rw [List.getElem?_eq_getElem hj, e])
    simpa using this
  unfold findC
  rw [this]
def cel (x : Fx.Challenge) : List Int := [x.Id, x.Account, x.Until]
def eqBk (a b : Fx.ChallengeBook) : Bool := decide (a.Seed = b.Seed) && decide (a.Next = b.Next) && decide (a.Open.map cel = b.Open.map cel)
theorem cel_all {xs ys : List Fx.Challenge} (hl : xs.length = ys.length) (h : ∀ j x y, j < xs.length → xs[j]? = some x → ys[j]? = some y → cel x = cel y) : xs.map cel = ys.map cel := by
  apply List.ext_getElem
  · simpa using hl
  · intro j h1 h2
    simp only [List.length_map] at h1 h2
    rw [List.getElem_map, List.getElem_map]
    exact h j _ _ h1 (List.getElem?_eq_getElem h1) (List.getElem?_eq_getElem h2)
theorem cel_at {xs ys : List Fx.Challenge} {j : Nat} {x y : Fx.Challenge} (hx : xs[j]? = some x) (hy : ys[j]? = some y) (h : xs.map cel = ys.map cel) : cel x = cel y := by
  have := congrArg (fun l => l[j]?) h
  simp only [List.getElem?_map, hx, hy, Option.map_some] at this
  exact Option.some.inj this
set_option maxHeartbeats 3200000 in
theorem specEqBk (w : World) (a b : Fx.ChallengeBook) (us vs : List Value) (h : RdsL w w.heap.size a.dcs us) (h2 : RdsL w w.heap.size b.dcs vs) (hn : a.Open.length ≤ 16000000) (hm : b.Open.length ≤ 16000000) : Calls Try.prog 55 #[.agg us.toArray, .agg vs.toArray] w (Gives (.bool (eqBk a b)) w) := by
  obtain ⟨A, c, rfl, g⟩ := ChallengeBook.rds h
  obtain ⟨A2, c2, rfl, g2⟩ := ChallengeBook.rds h2
  clear h h2
  obtain ⟨r, hrr⟩ : ∃ r, r = eqBk a b := ⟨_, rfl⟩
  rw [← hrr]
  unfold eqBk at hrr
  obtain ⟨xs, hxs⟩ : ∃ xs, xs = a.Open := ⟨_, rfl⟩
  obtain ⟨ys, hys⟩ : ∃ ys, ys = b.Open := ⟨_, rfl⟩
  rw [← hxs] at g hn
  rw [← hys] at g2 hm
  rw [← hxs, ← hys] at hrr ⊢
  obtain ⟨n, hnn⟩ : ∃ n, n = xs.length := ⟨_, rfl⟩
  obtain ⟨m, hmm⟩ : ∃ m, m = ys.length := ⟨_, rfl⟩
  rw [← hnn] at g hn
  rw [← hmm] at g2 hm
  rw [← hnn, ← hmm]
  have HL := Lib.hid (And.intro hnn hmm)
  have HRR := Lib.hid hrr
  clear hnn hmm hrr hxs hys
  obtain ⟨w0, hw0⟩ : ∃ y, y = w.alloc (.cells #[.int .i64 a.Seed, .int .i64 a.Next, .slice A n c] 25) := ⟨_, rfl⟩
  obtain ⟨w1, hw1⟩ : ∃ y, y = w0.alloc (.cells #[.int .i64 b.Seed, .int .i64 b.Next, .slice A2 m c2] 25) := ⟨_, rfl⟩
  have s0 : w0.heap.size = w.heap.size + 1 := by rw [hw0]; simp
  have op := var_owns w 25 3 [.int .i64 a.Seed, .int .i64 a.Next, .slice A n c] rfl
  have oq := var_owns w0 25 3 [.int .i64 b.Seed, .int .i64 b.Next, .slice A2 m c2] rfl
  have b0 : Below w.heap.size w w0 := hw0 ▸ (Below.refl _ _).alloc (Nat.le_refl _) _
  have b1 : Below w0.heap.size w0 w1 := hw1 ▸ (Below.refl _ _).alloc (Nat.le_refl _) _
  rw [← hw0] at op
  rw [← hw1, s0] at oq
  replace op := owns_below op b1
  have HB := b0.trans (b1.mono b0.size)
  have HR := Lib.hid (rds_on g HB)
  have HS := Lib.hid (rds_on g2 HB)
  have HF := Lib.hid (show ∀ wx, Below w1.heap.size w1 wx → wx.cell? ⟨w.heap.size, 2, none⟩ = some (.slice A n c) ∧ wx.cell? ⟨w.heap.size + 1, 2, none⟩ = some (.slice A2 m c2) from fun wx hb => ⟨var_load (owns_below op hb) (by simp) 2 _ rfl, var_load (owns_below oq hb) (by simp) 2 _ rfl⟩)
  have p0 : w1.cell? ⟨w.heap.size, 0, none⟩ = some (.int .i64 a.Seed) := var_load op (by simp) 0 _ rfl
  have p1 : w1.cell? ⟨w.heap.size, 1, none⟩ = some (.int .i64 a.Next) := var_load op (by simp) 1 _ rfl
  have p2 : w1.cell? ⟨w.heap.size, 2, none⟩ = some (.slice A n c) := var_load op (by simp) 2 _ rfl
  have q0 : w1.cell? ⟨w.heap.size + 1, 0, none⟩ = some (.int .i64 b.Seed) := var_load oq (by simp) 0 _ rfl
  have q1 : w1.cell? ⟨w.heap.size + 1, 1, none⟩ = some (.int .i64 b.Next) := var_load oq (by simp) 1 _ rfl
  have q2 : w1.cell? ⟨w.heap.size + 1, 2, none⟩ = some (.slice A2 m c2) := var_load oq (by simp) 2 _ rfl
  clear g g2 op oq b0 b1 s0
  by_cases e1 : a.Seed = b.Seed
  · by_cases e2 : a.Next = b.Next
    · by_cases e3 : n = m
      · have f1 : (a.Seed != b.Seed) = false := by simpa using e1
        have f2 : (a.Next != b.Next) = false := by simpa using e2
        have f3 : ((n : Int) != (m : Int)) = false := by simp; omega
        have g1 : (a.Seed == b.Seed) = true := by simpa using e1
        have g2 : (a.Next == b.Next) = true := by simpa using e2
        have g3 : ((n : Int) == (m : Int)) = true := by simp; omega
        have HE := Lib.hid (show r = decide (xs.map cel = ys.map cel) by rw [HRR.out, decide_eq_true e1, decide_eq_true e2]; rfl)
        have HN := Lib.hid e3
        clear e1 e2 e3 HRR
        go_enter Try.func55, Try.ntmps55
        go_wp2_with fail
        rw [← hw0, ← hw1]
        clear hw0 hw1 p0 p1 p2 q0 q1 q2
        go_loopw [5] (fun v wr => ∃ k : Nat, k ≤ n ∧ v = .int .i64 k ∧ (∀ j x y, j < k → xs[j]? = some x → ys[j]? = some y → cel x = cel y) ∧ Below w1.heap.size w1 wr) (fun v _ => n - (intOf v).toNat)
        case atStart => exact ⟨0, by omega, rfl, fun _ _ _ h => by omega, Below.refl _ _⟩
        case round =>
          obtain ⟨k, hk, rfl, hG, hb⟩ := hrel
          have HG := Lib.hid hG
          clear hG
          obtain ⟨p2, q2⟩ := HF.out _ hb
          by_cases hlt : k < n
          · obtain ⟨x, hx⟩ := get_some xs (i := k) (by have := HL.out.1; omega)
            obtain ⟨y, hy⟩ := get_some ys (i := k) (by have := HL.out.2; have := HN.out; omega)
            obtain ⟨ga, offa, us, rfl, hga, hrua, hca⟩ := piece_at Challenge.len (by omega) (rds_on HR.out hb) hx
            obtain ⟨gb, offb, us2, rfl, hgb, hrub, hcb⟩ := piece_at Challenge.len (by omega) (rds_on HS.out hb) hy
            obtain rfl := Challenge.rds hrua
            obtain rfl := Challenge.rds hrub
            have x0 : wr.cell? ⟨ga, offa + k * 3, none⟩ = some (.int .i64 x.Id) := hca 0 _ rfl
            have x1 : wr.cell? ⟨ga, offa + k * 3 + 1, none⟩ = some (.int .i64 x.Account) := hca 1 _ rfl
            have x2 : wr.cell? ⟨ga, offa + k * 3 + 2, none⟩ = some (.int .i64 x.Until) := hca 2 _ rfl
            have y0 : wr.cell? ⟨gb, offb + k * 3, none⟩ = some (.int .i64 y.Id) := hcb 0 _ rfl
            have y1 : wr.cell? ⟨gb, offb + k * 3 + 1, none⟩ = some (.int .i64 y.Account) := hcb 1 _ rfl
            have y2 : wr.cell? ⟨gb, offb + k * 3 + 2, none⟩ = some (.int .i64 y.Until) := hcb 2 _ rfl
            have HX := Lib.hid (And.intro hx hy)
            have i1 : (0 : Int) ≤ (k : Int) := by omega
            have i2 : (k : Int) < (n : Int) := by omega
            have i3 : (k : Int) < (m : Int) := by have := HN.out; omega
            clear hx hy hca hcb hrua hrub
            by_cases he : cel x = cel y
            · have he2 := he
              unfold cel at he2
              simp only [List.cons.injEq, and_true] at he2
              obtain ⟨j1, j2, j3⟩ := he2
              have HC := Lib.hid he
              rw [← j1] at y0
              rw [← j2] at y1
              rw [← j3] at y2
              clear he j1 j2 j3
              go_wp2_with fail
              go_quiet (fail)
              go_wp2
              go_roundw
              case rel =>
                refine ⟨k + 1, by omega, by go_num, fun j u v hj hu hv => ?_, hb.trans (drewN_below _ _ _)⟩
                by_cases h : j < k
                · exact HG.out j u v h hu hv
                · obtain rfl : j = k := by omega
                  have h1 := HX.out.1
                  have h2 := HX.out.2
                  rw [hu] at h1
                  rw [hv] at h2
                  injection h1 with h1
                  injection h2 with h2
                  rw [h1, h2]
                  exact HC.out
              case measure => simp [intOf]; omega
            · have hr : r = false := by
                rw [HE.out]
                exact decide_eq_false (fun h => he (cel_at HX.out.1 HX.out.2 h))
              subst hr
              have hne : ¬ (x.Id = y.Id ∧ x.Account = y.Account ∧ x.Until = y.Until) := fun h => he (by unfold cel; rw [h.1, h.2.1, h.2.2])
              clear he
              by_cases d0 : x.Id = y.Id
              · rw [← d0] at y0 hne
                by_cases d1 : x.Account = y.Account
                · rw [← d1] at y1 hne
                  have d2 : (x.Until == y.Until) = false := by simpa using (fun h => hne ⟨rfl, rfl, h⟩)
                  have d3 : ¬ x.Until = y.Until := by simpa using d2
                  clear hne d0 d1
                  go_wp2_with fail
                  go_quiet (fail)
                  go_wp2
                  go_ret
                  exact ⟨rfl, HB.trans ((hb.trans (drewN_below _ _ _)).mono HB.size)⟩
                · have d2 : (x.Account == y.Account) = false := by simpa using d1
                  clear hne d0
                  go_wp2_with fail
                  go_quiet (fail)
                  go_wp2
                  go_ret
                  exact ⟨rfl, HB.trans ((hb.trans (drewN_below _ _ _)).mono HB.size)⟩
              · have d2 : (x.Id == y.Id) = false := by simpa using d0
                clear hne
                go_wp2_with fail
                go_quiet (fail)
                go_wp2
                go_ret
                exact ⟨rfl, HB.trans ((hb.trans (drewN_below _ _ _)).mono HB.size)⟩
          · have hr : r = true := by
              rw [HE.out]
              exact decide_eq_true (cel_all (by rw [← HL.out.1, ← HL.out.2]; exact HN.out) (fun j x y hj hx hy => HG.out j x y (by have := HL.out.1; omega) hx hy))
            subst hr
            go_wp2
            go_ret
            exact ⟨rfl, HB.trans (hb.mono HB.size)⟩
      · have hr : r = false := by rw [HRR.out]; rw [decide_eq_false (p := xs.map cel = ys.map cel) (fun h => e3 (by rw [HL.out.1, HL.out.2]; simpa using congrArg List.length h)), Bool.and_false]
        subst hr
        have f1 : (a.Seed != b.Seed) = false := by simpa using e1
        have f2 : (a.Next != b.Next) = false := by simpa using e2
        have f3 : ((n : Int) != (m : Int)) = true := by simp; omega
        clear HRR e1 e2 e3
        go_enter Try.func55, Try.ntmps55
        go_wp2_with fail
        rw [← hw0, ← hw1]
        clear hw0 hw1
        go_wp2
        go_ret
        exact ⟨rfl, HB⟩
    · have hr : r = false := by rw [HRR.out]; rw [decide_eq_false e2]; simp
      subst hr
      have f1 : (a.Seed != b.Seed) = false := by simpa using e1
      have f2 : (a.Next != b.Next) = true := by simpa using e2
      clear HRR e1 e2
      go_enter Try.func55, Try.ntmps55
      go_wp2_with fail
      rw [← hw0, ← hw1]
      clear hw0 hw1
      go_wp2
      go_ret
      exact ⟨rfl, HB⟩
  · have hr : r = false := by rw [HRR.out]; rw [decide_eq_false e1]; simp
    subst hr
    have f1 : (a.Seed != b.Seed) = true := by simpa using e1
    clear HRR e1
    go_enter Try.func55, Try.ntmps55
    go_wp2_with fail
    rw [← hw0, ← hw1]
    clear hw0 hw1
    go_wp2
    go_ret
    exact ⟨rfl, HB⟩
end Go.Proofs.Ytckplhmielckeaa.C12
