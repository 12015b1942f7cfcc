/-
  Contracts of chapter 5's shares, of the model.
-/
import Derived.Test.YthmljddgaabnhaaM6
import Derived.Deep.AppendLies
namespace Go.Proofs.Ythmljddgaabnhaa.C5f
open Go.ChangeShapes Go.WideShapes Go.ChangeAt Go.RowKit
open S0 S1 S3 C3 M4 M5 C5 C5b C5c C5d C5e M6
set_option linter.unusedVariables false
set_option maxHeartbeats 1600000 in
set_option maxRecDepth 100000 in
theorem specAre (w : World) (A : Option Addr) (n c : Nat) (xs : List Int) (b : Bool) (hd : b = true ↔ are xs n) (hr : Rd w w.heap.size 2 A n (ints .i64 xs)) (hok : okInts xs) (hn : n ≤ 4294967296) :
    Calls Try.prog 28 #[.slice A n c] w (Gives (.bool b) w) := by
  have HR := Lib.hid hr
  have HX := Lib.hid hok
  have HD := Lib.hid hd
  have hbf : ¬ are xs n → b = false := fun h => by
    cases hb : b with
    | false => rfl
    | true => exact absurd (hd.1 hb) h
  have HBF := Lib.hid hbf
  clear hr hok hd hbf
  go_enter Try.func28, Try.ntmps28
  go_wp2
  go_loopw [3] (fun i wr => ∃ k : Nat, k ≤ n ∧ i = .int .i64 k ∧ (∀ j, j < k → good xs j) ∧ fresh (ixs xs n) k ∧ Below w.heap.size w wr) (fun i _ => n - (intOf i).toNat)
  case atStart => exact ⟨0, by omega, rfl, fun _ h => by omega, fun ⟨_, _, h1, h2, _⟩ => by omega, Below.refl _ _⟩
  case round =>
    obtain ⟨k, hk, rfl, hG, hF, hb⟩ := hrel
    have HG := Lib.hid hG
    have HF := Lib.hid hF
    clear hG hF
    by_cases hlt : k < n
    · obtain ⟨g, off, rfl, hgl, hcell, hcellv⟩ := Rd2.at_ (HR.out.below hb) hlt
      have HIX := Lib.hid (ixs_get xs n k hlt)
      obtain ⟨x, hx⟩ : ∃ x, x = xs.getD (k * 2) 0 := ⟨_, rfl⟩
      obtain ⟨y, hy⟩ : ∃ y, y = xs.getD (k * 2 + 1) 0 := ⟨_, rfl⟩
      have HGK := Lib.hid (show good xs k ↔ (1 ≤ x ∧ x ≤ 7 ∧ 0 ≤ y ∧ y ≤ 1018) by rw [hx, hy]; exact Iff.rfl)
      rw [← hx] at hcell HIX
      rw [← hy] at hcellv
      clear hx hy
      by_cases hi : 1 ≤ x ∧ x ≤ 7
      · by_cases hv : 0 ≤ y ∧ y ≤ 1018
        · have HN := Lib.hid (show ∀ j, j < k + 1 → good xs j from fun j hj => by
            by_cases h : j < k
            · exact HG.out j h
            · obtain rfl : j = k := by omega
              exact HGK.out.2 ⟨hi.1, hi.2, hv.1, hv.2⟩)
          go_wp2_with fail
          (with_reducible refine (C1.specIn_t x 1 7 _ hi.1 hi.2).mono ?_); rintro e w2 ⟨rfl, rfl⟩
          go_wp2_with fail
          (with_reducible refine (C1.specIn_t y 0 1018 _ hv.1 hv.2).mono ?_); rintro e w2 ⟨rfl, rfl⟩
          go_wp2
          go_loopw [4] (fun i wx => ∃ p : Nat, p ≤ k ∧ i = .int .i64 p ∧ apart (ixs xs n) k p ∧ Below wr.heap.size wr wx) (fun i _ => k - (intOf i).toNat)
          case atStart => exact ⟨0, by omega, rfl, fun _ h => by omega, Below.refl _ _⟩
          case round =>
            obtain ⟨p, hp, rfl, hA, hb2⟩ := hrel
            have HA := Lib.hid hA
            clear hA
            have hb3 := hb2
            replace hb2 := hb.trans (hb2.mono hb.size)
            by_cases hpk : p < k
            · have hck : wr.cell? ⟨g, off + k * 2, none⟩ = some (.int .i64 x) := by
                obtain ⟨b', off', e, _, h, _⟩ := Rd2.at_ (HR.out.below hb2) hlt
                cases e
                rw [← HIX.out, ixs_get xs n k hlt]; exact h
              obtain ⟨b', off', e, _, hcp, _⟩ := Rd2.at_ (HR.out.below hb2) (j := p) (by omega)
              cases e
              have HIP := Lib.hid (ixs_get xs n p (by omega))
              obtain ⟨z, hz⟩ : ∃ z, z = xs.getD (p * 2) 0 := ⟨_, rfl⟩
              have hgp := HG.out p hpk
              unfold good at hgp
              rw [← hz] at hcp HIP hgp
              obtain ⟨gp1, gp2, _, _⟩ := hgp
              clear hz hcell hcellv
              have hpn : p < n := by omega
              have hpi : (p : Int) < n := by omega
              have hki : (k : Int) < n := by omega
              by_cases he : z = x
              · have HB := Lib.hid (HBF.out (fun h => h.2.2.2 ⟨p, k, hpk, hlt, by rw [HIP.out, HIX.out, he]⟩))
                have heb : (z == x) = true := by simpa using he
                clear he
                go_wp2_with fail
                go_region
                go_wp2
                go_ret
                exact ⟨by rw [HB.out]; rfl, hb2.trans (drewN_below _ 1 _)⟩
              · have HA2 := Lib.hid (HA.out.next (show (ixs xs n).getD p 0 % 1019 ≠ (ixs xs n).getD k 0 % 1019 by rw [HIP.out, HIX.out]; omega))
                have heb : (z == x) = false := by simpa using he
                clear he
                go_wp2_with fail
                go_region
                go_wp2
                go_roundw
                case rel => exact ⟨p + 1, by omega, by go_num, HA2.out, hb3.trans (drewN_below _ 1 _)⟩
                case measure => simp [intOf]; omega
            · obtain rfl : p = k := by omega
              have HFN := Lib.hid (HF.out.next HA.out)
              have hd : decide (p < p) = false := by simp
              go_wp2
              go_roundw
              case rel => exact ⟨p + 1, by omega, by go_num, HN.out, HFN.out, hb2⟩
              case measure => simp [intOf]; omega
        · have HB := Lib.hid (HBF.out (good_not hlt (fun h => hv ⟨(HGK.out.1 h).2.2.1, (HGK.out.1 h).2.2.2⟩)))
          have hv2 : y < 0 ∨ 1018 < y := by omega
          clear hv
          go_wp2_with fail
          (with_reducible refine (C1.specIn_t x 1 7 _ hi.1 hi.2).mono ?_); rintro e w2 ⟨rfl, rfl⟩
          go_wp2_with fail
          (with_reducible refine (C1.specIn_f y 0 1018 _ hv2).mono ?_); rintro e w2 ⟨rfl, rfl⟩
          go_wp2
          go_ret
          exact ⟨by rw [HB.out]; rfl, hb⟩
      · have HB := Lib.hid (HBF.out (good_not hlt (fun h => hi ⟨(HGK.out.1 h).1, (HGK.out.1 h).2.1⟩)))
        have hi2 : x < 1 ∨ 7 < x := by omega
        clear hi
        go_wp2_with fail
        (with_reducible refine (C1.specIn_f x 1 7 _ hi2).mono ?_); rintro e w2 ⟨rfl, rfl⟩
        go_wp2
        go_ret
        exact ⟨by rw [HB.out]; rfl, hb⟩
    · obtain rfl : k = n := by omega
      have hdd : decide (k < k) = false := by simp
      by_cases hin : 1 ≤ k ∧ k ≤ 7
      · have HB := Lib.hid (HD.out.2 ⟨hin.1, hin.2, HG.out, HF.out⟩)
        go_wp2_with fail
        (with_reducible refine (C1.specIn_t (k : Int) 1 7 _ (by omega) (by omega)).mono ?_); rintro e w2 ⟨rfl, rfl⟩
        go_wp2
        go_ret
        exact ⟨by rw [HB.out]; rfl, hb⟩
      · have HB := Lib.hid (HBF.out (fun h => hin ⟨h.1, h.2.1⟩))
        have h2 : (k : Int) < 1 ∨ 7 < (k : Int) := by omega
        clear hin
        go_wp2_with fail
        (with_reducible refine (C1.specIn_f (k : Int) 1 7 _ h2).mono ?_); rintro e w2 ⟨rfl, rfl⟩
        go_wp2
        go_ret
        exact ⟨by rw [HB.out]; rfl, hb⟩
def Idx (w : World) (xs : List Int) (n k : Nat) (v : Value) (wr : World) : Prop := wr.ownsRow w.heap.size 3 1 v k (ints .i64 ((ixs xs n).take k)) ∧ Below w.heap.size w wr
theorem idx_next {w wr w2 : World} {xs : List Int} {n k : Nat} {v v2 : Value} {x : Int} {o : Obj} (h : Idx w xs n k v wr) (hk : k < n) (hx : x = (ixs xs n).getD k 0)
    (ho : w2.ownsRow w.heap.size 3 1 v2 (k + 1) (ints .i64 ((ixs xs n).take k) ++ [.int .i64 x])) (hg : (wr.alloc o).grownBy w2 v.ownBlock) : Idx w xs n (k + 1) v2 w2 := by
  refine ⟨?_, (h.2.alloc h.2.size o).grown hg (by have := h.2.size; simp; omega) (fun j hj => (h.1.lt j hj).1)⟩
  have hk2 : k < (ixs xs n).length := by rw [ixs_len]; exact hk
  have e1 : (ixs xs n).take (k + 1) = (ixs xs n).take k ++ [x] := by rw [List.take_succ_eq_append_getElem hk2, hx]; simp [List.getElem?_eq_getElem hk2]
  rw [e1, ← ints_app]
  exact ho
set_option maxHeartbeats 1600000 in
set_option maxRecDepth 100000 in
theorem specIdx (w : World) (A : Option Addr) (n c : Nat) (xs : List Int) (hr : Rd w w.heap.size 2 A n (ints .i64 xs)) (hn : n ≤ 4294967296) :
    Calls Try.prog 48 #[.slice A n c] w (MadeS 3 1 n (ints .i64 (ixs xs n)) w) := by
  have HR := Lib.hid hr
  have HE : Idx w xs n 0 (.slice (some ⟨w.heap.size, 0, none⟩) 0 0) (w.alloc (.cells #[] 3)) := ⟨by simpa [ints] using own_lit w #[] 0 _ 3 (Nat.le_refl _) rfl (Nat.zero_le _), (Below.refl _ _).alloc (Nat.le_refl _) _⟩
  clear hr
  go_enter Try.func48, Try.ntmps48
  go_wp2
  go_loopw [3, 4] (fun v i wr => ∃ k : Nat, k ≤ n ∧ i = .int .i64 k ∧ Idx w xs n k v wr) (fun _ i _ => n - (intOf i).toNat)
  case atStart => exact ⟨0, by omega, rfl, HE⟩
  case round =>
    obtain ⟨k, hk, rfl, hE⟩ := hrel
    obtain ⟨A1, c1, rfl⟩ := own_nil_form hE.1
    have H := Lib.hid hE
    have hE1 := hE.1
    have hb := hE.2
    have hz := hE.2.size
    clear hE HE
    by_cases hlt : k < n
    · obtain ⟨g, off, rfl, hgl, hcell, hcellv⟩ := Rd2.at_ (HR.out.below hb) hlt
      have HIX := Lib.hid (ixs_get xs n k hlt)
      obtain ⟨x, hx⟩ : ∃ x, x = xs.getD (k * 2) 0 := ⟨_, rfl⟩
      rw [← hx] at hcell HIX
      clear hx
      go_wp2_with (at_builtin; refine appI _ rfl _ _ rfl w.heap.size _ _ _ rfl (hE1.alloc _) _ _ 1 1 [.int .i64 x] rfl (rd_one _ _ _) (one_int .i64 _) (by omega) (by simp; omega) ?_; intro v2 w2 ho2 hg2)
      go_roundw
      case rel => exact ⟨k + 1, by omega, by go_num, idx_next H.out hlt HIX.out.symm ho2 hg2⟩
      case measure => simp [intOf]; omega
    · have hkn : k = n := by omega
      subst hkn
      have hd : decide (k < k) = false := by simp
      have e : (ixs xs k).take k = ixs xs k := List.take_of_length_le (by rw [ixs_len]; exact Nat.le_refl _)
      rw [e] at hE1
      have HE1 := Lib.hid hE1
      clear hE1 e
      go_wp2
      go_ret
      exact ⟨_, _, rfl, HE1.out, hb⟩
end Go.Proofs.Ythmljddgaabnhaa.C5f
