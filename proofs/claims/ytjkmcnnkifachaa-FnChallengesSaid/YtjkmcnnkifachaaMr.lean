/-
  maps.DeleteFunc of the late challenges: its closure, its walk over every order of the entries.
-/
import Derived.Test.YtjkmcnnkifachaaMp
import Derived.WalkKit
import Derived.Maps.Ext
import Derived.Lib.SliceRun
import Derived.Laws.IdiomRangeMap
import Derived.Deep.LoopGhost
namespace Go.Proofs.Ytjkmcnnkifachaa.Mr
open Go.ChangeShapes Go.WideShapes Go.ChangeAt Go.RowKit
open Go.Maps
open S0 S1 S9 Dm Fx C12 Mp
set_option linter.unusedVariables false
set_option linter.unusedSimpArgs false
set_option maxRecDepth 100000
theorem late_c (w : World) (k : Value) (x : Fx.Challenge) (bx : Nat) (now : Int) (hx : w.cell? ⟨bx, 0, none⟩ = some (.int .i64 now)) :
    Calls Try.prog 45 #[k, valC x, .pointer (some ⟨bx, 0, none⟩)] w fun e w' => e = .returned (.bool (decide (x.Until < now))) ∧ w.grownBy w' none := by
  unfold valC
  have hx2 : (w.alloc (.cells #[.int .i64 x.Id, .int .i64 x.Account, .int .i64 x.Until] 30)).cell? ⟨bx, 0, none⟩ = some (.int .i64 now) := Lib.cell?_alloc_some _ hx
  go_enter Try.func45, Try.ntmps45
  go_wp2
  go_ret
  exact ⟨rfl, World.grownBy_alloc w _ none⟩
theorem find_c (w : World) (x : Fx.Challenge) (bx : Nat) (i : Int) (hx : w.cell? ⟨bx, 0, none⟩ = some (.int .i64 i)) :
    Calls Try.prog 47 #[valC x, .pointer (some ⟨bx, 0, none⟩)] w fun e w' => e = .returned (.bool (x.Id == i)) ∧ Below w.heap.size w w' := by
  unfold valC
  have hx2 : (w.alloc (.cells #[.int .i64 x.Id, .int .i64 x.Account, .int .i64 x.Until] 30)).cell? ⟨bx, 0, none⟩ = some (.int .i64 i) := Lib.cell?_alloc_some _ hx
  go_enter Try.func47, Try.ntmps47
  go_wp2
  go_ret
  exact ⟨rfl, (Below.refl _ _).alloc (Nat.le_refl _) _⟩
set_option maxHeartbeats 4000000 in
set_option maxRecDepth 100000 in
theorem deleteFunc_c (b n bx : Nat) (l : List Fx.Challenge) (now : Int) (w : World) (hown : Lies w b n l) (hx : w.cell? ⟨bx, 0, none⟩ = some (.int .i64 now)) (hne : bx ≠ b) :
    Calls Try.prog 44 #[.map (some b), .func (.func 45) #[] #[.pointer (some ⟨bx, 0, none⟩)]] w fun e w' => e = .returned (.tuple #[]) ∧ Lies w' b n (l.filter fun x => decide (now ≤ x.Until)) ∧ w.grownBy w' (some b) := by
  obtain ⟨es0, hD, hap, hkeys⟩ := hown.entries keyI
  have hown : w.ownsMap Try.prog 3 rC b n (.map es0) := hD ▸ hown
  have HF := Lib.hid (show Lib.deleteFuncD (lateD now) (.map es0) = mapD (l.filter fun x => decide (now ≤ x.Until)) by rw [← hD]; exact cut_map l now)
  have HX := Lib.hid hx
  have HN := Lib.hid hne
  clear hD hx hne
  go_enter Try.func44, Try.ntmps44
  go_wp2_with (first
    | (at_range; refine wpList_range_own _ rfl _ 60 rfl 3 30 keyI Try.underlying60 rC b n _ rfl hown ?_; intro w0 hrg0 hg0 hs0)
    | go_in)
  go_frame
  go_loopw [8] (fun _ wr => ∃ (left : Lit → Bool) (cnt : Nat), wr.ranges Try.prog 3 rC b w.heap.size n (Fk (lateD now) es0 left) left cnt ∧ w.grownBy wr (some b))
    (fun _ wr => wr.rangeLeft b w.heap.size)
  case atStart => exact ⟨_, _, by rw [Fk_start hkeys]; exact hrg0, hg0.but _⟩
  case round =>
    obtain ⟨left, cnt, hrg, hgw⟩ := hrel
    go_wp2_with (first
      | (at_next; refine wpList_next_ranges _ rfl _ rfl 3 keyI rC id valC (fun key _ _ => ⟨key, rfl⟩) (fun v _ h => by obtain ⟨x, e, _⟩ := rC_inv h; exact ⟨x, e⟩) b w.heap.size n _ _ _ rfl hrg ?_ ?_)
      | go_in)
    · intro _ hl0
      go_wp2
      go_end0
      exact ⟨rfl, by have := hrg.owns; rw [Fk_end hl0, HF.out] at this; exact this, hgw⟩
    · intro x c kl yd yp w1 cnt1 hkey hlx hv hat hrg1 hlt hg1 hs1 hen
      have hv : some (dcC c, ([] : List MemPlace)) = some (yd, yp) := hv
      obtain ⟨rfl, rfl⟩ : dcC c = yd ∧ [] = yp := by simpa using hv
      have hgw1 := hgw.andThen hg1 (fun j hj => by cases hj; exact Or.inl (Nat.le_refl _))
      have hbl := hrg1.owns.lt
      have hrl := hrg1.lt
      have HC := Lib.hid hkey
      unfold valC at hen ⊢
      go_wp2_with fail
      obtain ⟨w2, hw2⟩ : ∃ y, y = w1.alloc (.cells #[.int .i64 c.Id, .int .i64 c.Account, .int .i64 c.Until] 30) := ⟨_, rfl⟩
      have hg2 : w1.grownBy w2 none := hw2 ▸ World.grownBy_alloc w1 _ none
      have hc2 : w2.cell? ⟨bx, 0, none⟩ = some (.int .i64 now) := by rw [hw2]; exact Lib.cell?_alloc_some _ (hgw1.cell HX.out (fun e => HN.out (by simpa using e)))
      rw [← hw2]
      clear hw2 hv hkey
      (refine (late_c w2 x c bx now hc2).mono ?_); rintro e w3 ⟨rfl, hg3⟩
      have hrg3 := (hrg1.kept hg2 (by simp) (by simp)).kept hg3 (by simp) (by simp)
      have hgw3 := (hgw1.andThen hg2 (fun j hj => by cases hj)).andThen hg3 (fun j hj => by cases hj)
      clear hg2 hc2 hg3 hrg1 hgw1 hen hs1 hg1
      by_cases hp : c.Until < now
      · have hd : decide (c.Until < now) = true := decide_eq_true hp
        rw [hd]
        go_wp2_with (first
          | (at_delete; refine wpList_delete_ranges _ rfl _ _ 60 3 rfl 30 keyI Try.underlying60 rC b w.heap.size n _ _ _ rfl hrg3 _ _ rfl HC.out ?_; intro w4 cnt4 hrg4 hle hturn; go_frame)
          | go_in)
        rw [strike_twice] at hrg4
        go_roundw
        case rel => exact ⟨_, cnt4, by rw [← Fk_struck hap (keyI.key HC.out) hlx (pd := lateD now) (show lateD now kl (dcC c) = true from hd) hat]; exact hrg4, hgw3.andThen hturn.grown (fun j hj => by cases hj; exact Or.inr rfl)⟩
        case measure => rw [hrg4.left_eq, hrg.left_eq]; omega
      · have hd : decide (c.Until < now) = false := decide_eq_false hp
        rw [hd]
        go_wp2
        go_roundw
        case rel => exact ⟨_, cnt1, by rw [← Fk_stays hap (keyI.key HC.out) hlx (pd := lateD now) (show lateD now kl (dcC c) = false from hd) hat]; exact hrg3, hgw3⟩
        case measure => rw [hrg3.left_eq, hrg.left_eq]; exact hlt
end Go.Proofs.Ytjkmcnnkifachaa.Mr
