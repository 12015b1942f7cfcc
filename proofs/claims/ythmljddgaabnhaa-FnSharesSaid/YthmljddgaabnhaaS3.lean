/-
  Slices of shares, which are structs of two ints: contracts of the laws' own functions over them: copy, compare, mark, look at the marks.
-/
import Derived.Test.YthmljddgaabnhaaS1
import Derived.Deep.RegionHeld3
import Derived.Deep.RegionWith
namespace Go.Proofs.Ythmljddgaabnhaa.S3
open Go.ChangeShapes Go.WideShapes Go.ChangeAt Go.RowKit
open S0 S1
set_option linter.unusedVariables false
theorem share_info : (Try.prog.info? 34).map (fun i => (i.zero, i.size, i.bytes)) = some (some (.agg #[.int .i64 0, .int .i64 0]), 2, 16) := by kernel_rfl
theorem stored_at2 {w : World} {base E n c g : Nat} {kd : IntKind} {xs : List Int} (h : w.ownsRow base E 2 (.slice (some ⟨g, 0, none⟩) n c) n (ints kd xs)) (j : Nat) (hj : j < n * 2) :
    g < w.heap.size ∧ base ≤ g ∧ w.cell? ⟨g, j, none⟩ = some (.int kd (xs.getD j 0)) ∧ w.frozen? ⟨g, j, none⟩ = false := by
  obtain ⟨h1, h2⟩ := h.lt g rfl
  refine ⟨h2, h1, ?_, ?_⟩
  · rw [h.cellAt j hj, ints_get kd xs j (by have := h.1; rw [ints_len] at this; omega)]
  · rcases h.2 with ⟨e, _⟩ | ⟨_, _, _, e, _, hb, _⟩
    · cases e
    · injection e with e1
      injection e1 with e1
      injection e1 with e2
      subst e2
      simp [World.frozen?, hb]
/-- The two cells of a share. -/
theorem Rd2.at_ {w : World} {hi n : Nat} {A : Option Addr} {k : IntKind} {xs : List Int} (h : Rd w hi 2 A n (ints k xs)) {j : Nat} (hj : j < n) :
    ∃ b off, A = some ⟨b, off, none⟩ ∧ b < hi ∧ w.cell? ⟨b, off + j * 2, none⟩ = some (.int k (xs.getD (j * 2) 0)) ∧ w.cell? ⟨b, off + j * 2 + 1, none⟩ = some (.int k (xs.getD (j * 2 + 1) 0)) := by
  obtain ⟨b, off, e, hb, hc⟩ := h.2 (by omega)
  have hl := h.1
  rw [ints_len] at hl
  refine ⟨b, off, e, hb, ?_, ?_⟩
  · rw [hc (j * 2) (by omega), ints_get k xs (j * 2) (by omega)]
  · rw [Nat.add_assoc, hc (j * 2 + 1) (by omega), ints_get k xs (j * 2 + 1) (by omega)]
theorem eqOne (w : World) (i v : Int) : Calls Try.prog 34 #[.agg #[.int .i64 i, .int .i64 v], .agg #[.int .i64 i, .int .i64 v]] w (Gives (.bool true) w) := by
  go_enter Try.func34, Try.ntmps34
  go_wp2
  go_ret
  exact ⟨rfl, ((Below.refl _ _).alloc (Nat.le_refl _) _).alloc (by simp) _⟩
theorem toOne (w : World) (i v : Int) : Calls Try.prog 45 #[.agg #[.int .i64 i, .int .i64 v]] w (Gives (.agg #[.int .i64 i, .int .i64 v]) w) := by
  go_enter Try.func45, Try.ntmps45
  go_wp2
  refine bodyPost_ret (v := .agg #[.int .i64 i, .int .i64 v]) (by simp [results, Try.results45, go_sem]) rfl ⟨rfl, ?_⟩
  exact (((Below.refl _ _).alloc (Nat.le_refl _) _).alloc (by simp) _).alloc (by simp; omega) _
set_option maxHeartbeats 800000 in
theorem eqShareS_t (w : World) (A B : Option Addr) (n c d : Nat) (xs : List Int) (ha : Rd w w.heap.size 2 A n (ints .i64 xs)) (hb : Rd w w.heap.size 2 B n (ints .i64 xs)) (hn : n ≤ 4294967296) :
    Calls Try.prog 22 #[.slice A n c, .slice B n d] w (Gives (.bool true) w) := by
  have HA := Lib.hid ha
  have HB := Lib.hid hb
  clear ha hb
  go_enter Try.func22, Try.ntmps22
  go_wp2
  go_loopw [5] (fun i wr => ∃ k : Nat, k ≤ n ∧ i = .int .i64 k ∧ Below w.heap.size w wr) (fun i _ => n - (intOf i).toNat)
  case atStart => exact ⟨0, by omega, rfl, Below.refl _ _⟩
  case round =>
    obtain ⟨k, hk, rfl, HW⟩ := hrel
    by_cases hlt : k < n
    · obtain ⟨b, off, rfl, hb, hcell, hcellv⟩ := Rd2.at_ (HA.out.below HW) hlt
      obtain ⟨b2, off2, rfl, hb2, hcell2, hcell2v⟩ := Rd2.at_ (HB.out.below HW) hlt
      obtain ⟨x, hx⟩ : ∃ x, x = xs.getD (k * 2) 0 := ⟨_, rfl⟩
      obtain ⟨y, hy⟩ : ∃ y, y = xs.getD (k * 2 + 1) 0 := ⟨_, rfl⟩
      rw [← hx] at hcell hcell2
      rw [← hy] at hcellv hcell2v
      clear hx hy
      have hz := HW.size
      go_wp2_with fail
      go_region_with (go_at_call 34; refine (eqOne _ x y).mono ?_; rintro e w2 ⟨rfl, b2⟩)
      all_goals
        have HW2 : Below w.heap.size w w2 := HW.trans ((drewN_below wr 1 _).trans (b2.mono hz))
        go_wp2
        go_roundw
        case rel => exact ⟨k + 1, by omega, by go_num, HW2⟩
        case measure => simp [intOf]; omega
    · have hd : decide (k < n) = false := by simp; omega
      go_wp2
      go_ret
      exact ⟨rfl, HW⟩
/-- Behind k shares. -/
def Filled2 (E : Nat) (w : World) (n : Nat) (xs : List Int) (k : Nat) (wr : World) : Prop :=
  wr.ownsRow w.heap.size E 2 (.slice (some ⟨w.heap.size, 0, none⟩) n n) n (ints .i64 (half xs (k * 2) (n * 2))) ∧ Below w.heap.size w wr
theorem Filled2.next {E n k : Nat} {w wr w2 : World} {xs : List Int} {x y : Int} (ho : w2.ownsRow w.heap.size E 2 (.slice (some ⟨w.heap.size, 0, none⟩) n n) n (ints .i64 (half xs (k * 2) (n * 2)))) (hw : Below w.heap.size w wr) (hb : Below wr.heap.size wr w2)
    (hl : xs.length = n * 2) (hk : k < n) (hx : x = xs.getD (k * 2) 0) (hy : y = xs.getD (k * 2 + 1) 0) : Filled2 E w n xs (k + 1) ((w2.setCell ⟨w.heap.size, k * 2, none⟩ (.int .i64 x)).setCell ⟨w.heap.size, k * 2 + 1, none⟩ (.int .i64 y)) := by
  have h1 := (ho.stored (k * 2) (.int .i64 x)).1
  rw [ints_put, hx, half_set xs (k * 2) (n * 2) hl (by omega)] at h1
  have h2 := (h1.stored (k * 2 + 1) (.int .i64 y)).1
  rw [ints_put, hy, half_set xs (k * 2 + 1) (n * 2) hl (by omega)] at h2
  refine ⟨?_, ((hw.trans (hb.mono hw.size)).setCell (Nat.le_refl _) _).setCell (Nat.le_refl _) _⟩
  rw [hx, hy, show (k + 1) * 2 = k * 2 + 1 + 1 by omega]
  exact h2
theorem made_two (z : Value) (n : Nat) : (madeCells #[z, z] n).toList = List.replicate n z := by
  refine List.ext_getElem (by simp [madeCells]) fun i h1 h2 => ?_
  have h : i % 2 = 0 ∨ i % 2 = 1 := by omega
  rcases h with h | h <;> simp [madeCells, h]
theorem made_shares (n : Nat) : (madeCells (Value.agg #[.int .i64 0, .int .i64 0]).cells (n * 2)).toList = ints .i64 (List.replicate (n * 2) 0) := by
  have : (Value.agg #[.int .i64 0, .int .i64 0]).cells = #[.int .i64 0, .int .i64 0] := rfl
  rw [this, made_two]; simp [ints]
set_option maxHeartbeats 800000 in
theorem toShareS (w : World) (A : Option Addr) (n c : Nat) (xs : List Int) (hr : Rd w w.heap.size 2 A n (ints .i64 xs)) (hn : n ≤ 4294967296) :
    Calls Try.prog 29 #[.slice A n c] w (MadeS 34 2 n (ints .i64 xs) w) := by
  obtain ⟨i0, hi, hz0, hz1, hz2⟩ := info_parts share_info
  have hl : xs.length = n * 2 := by have := hr.1; rw [ints_len] at this; exact this
  have HR := Lib.hid hr
  have HL := Lib.hid hl
  clear hr hl
  go_enter Try.func29, Try.ntmps29
  go_wp2_with (at_make; refine wpList_make_full _ rfl _ _ 26 rfl w.heap.size 34 i0 (.agg #[.int .i64 0, .int .i64 0]) 2 Try.underlying26 hi hz0 hz1 _ _ _ _ n rfl rfl rfl rfl (by rw [hz2]; omega) (by unfold maxLen; omega) (Nat.le_refl _) ?_; intro w1 hown hgrow)
  have HF : Filled2 34 w n xs 0 w1 := ⟨by rw [Nat.zero_mul, half_zero, ← made_shares]; exact hown, below_grown hgrow (Nat.le_refl _) (fun _ h => by cases h)⟩
  clear hown hgrow
  go_loopw [4] (fun i wr => ∃ k : Nat, k ≤ n ∧ i = .int .i64 k ∧ Filled2 34 w n xs k wr) (fun i _ => n - (intOf i).toNat)
  case atStart => exact ⟨0, by omega, rfl, HF⟩
  case round =>
    obtain ⟨k, hk, rfl, HF⟩ := hrel
    by_cases hlt : k < n
    · obtain ⟨b, off, rfl, hb, hcell, hcellv⟩ := Rd2.at_ (HR.out.below HF.2) hlt
      obtain ⟨x, hx⟩ : ∃ x, x = xs.getD (k * 2) 0 := ⟨_, rfl⟩
      obtain ⟨y, hy⟩ : ∃ y, y = xs.getD (k * 2 + 1) 0 := ⟨_, rfl⟩
      rw [← hx] at hcell
      rw [← hy] at hcellv
      have HX := Lib.hid hx
      have HY := Lib.hid hy
      clear hx hy
      have H1 := Lib.hid HF.1
      have hw := HF.2
      have hws := hw.size
      clear HF
      go_wp2_with fail
      (with_reducible refine (toOne wr x y).mono ?_); rintro e w2 ⟨rfl, b2⟩
      have ho := own_below H1.out b2
      obtain ⟨hg, hbase, hold, hfr⟩ := stored_at2 ho (k * 2) (by omega)
      obtain ⟨_, _, hold1, hfr1⟩ := stored_at2 ho (k * 2 + 1) (by omega)
      have HO := Lib.hid ho
      clear ho hbase
      go_wp2
      go_roundw
      case rel => exact ⟨k + 1, by omega, by go_num, Filled2.next HO.out hw b2 HL.out hlt HX.out HY.out⟩
      case measure => simp [intOf]; omega
    · have hkn : k = n := by omega
      have H2 : Filled2 34 w n xs n wr := by have := HF; rw [hkn] at this; exact this
      have hd : decide (k < n) = false := by simp; omega
      clear HF hkn
      go_wp2
      go_ret
      exact ⟨_, _, rfl, by have := H2.1; rw [half_all xs (n * 2) HL.out] at this; exact this, H2.2⟩
def MarkedTo2 (E base : Nat) (A : Option Addr) (n c : Nat) (k : Int) (w : World) (e : Ending) (w' : World) : Prop :=
  e = .returned (.int .i64 (k + n * 2)) ∧ w'.ownsRow base E 2 (.slice A n c) n (ints .i64 (marks fi64 k (n * 2))) ∧ w.grownBy w' (Value.slice A n c).ownBlock
def Marking2 (E base : Nat) (A : Option Addr) (n c : Nat) (xs : List Int) (k : Int) (j : Nat) (w wr : World) : Prop :=
  wr.ownsRow base E 2 (.slice A n c) n (ints .i64 (marked fi64 k xs (j * 2))) ∧ w.grownBy wr (Value.slice A n c).ownBlock
theorem Marking2.addr {E base : Nat} {A : Option Addr} {n c : Nat} {xs : List Int} {k : Int} {j : Nat} {w wr : World} (h : Marking2 E base A n c xs k j w wr) (hn : 0 < n) : ∃ g, A = some ⟨g, 0, none⟩ := by
  obtain ⟨g, cap, hv, _⟩ := h.1.form hn
  injection hv with h1
  exact ⟨g, h1⟩
theorem Marking2.step {E base g n c : Nat} {xs : List Int} {k : Int} {j : Nat} {w wr : World} (h : Marking2 E base (some ⟨g, 0, none⟩) n c xs k j w wr) (hl : xs.length = n * 2) (hj : j < n) :
    Marking2 E base (some ⟨g, 0, none⟩) n c xs k (j + 1) w ((wr.setCell ⟨g, j * 2, none⟩ (.int .i64 (k + j * 2))).setCell ⟨g, j * 2 + 1, none⟩ (.int .i64 (k + j * 2 + 1))) := by
  obtain ⟨h1, h2⟩ := h.1.stored (j * 2) (.int .i64 (fi64 (k + (j * 2 : Nat))))
  rw [ints_put, marked_set fi64 k xs (j * 2) (by omega)] at h1
  obtain ⟨h3, h4⟩ := h1.stored (j * 2 + 1) (.int .i64 (fi64 (k + (j * 2 + 1 : Nat))))
  rw [ints_put, marked_set fi64 k xs (j * 2 + 1) (by omega)] at h3
  have e1 : fi64 (k + (j * 2 : Nat)) = k + j * 2 := by unfold fi64; omega
  have e2 : fi64 (k + (j * 2 + 1 : Nat)) = k + j * 2 + 1 := by unfold fi64; omega
  rw [e1, e2] at h3 h4
  rw [e1] at h2
  refine ⟨?_, (h.2.trans h2).trans h4⟩
  rw [show (j + 1) * 2 = j * 2 + 1 + 1 by omega]
  exact h3
set_option maxHeartbeats 800000 in
theorem markShareS (w : World) (base : Nat) (A : Option Addr) (n c : Nat) (xs : List Int) (k : Int) (ho : w.ownsRow base 34 2 (.slice A n c) n (ints .i64 xs)) (hn : n ≤ 4294967296) (hk0 : 0 ≤ k) (hk1 : k ≤ 1099511627776) :
    Calls Try.prog 25 #[.slice A n c, .int .i64 k] w (MarkedTo2 34 base A n c k w) := by
  have hl : xs.length = n * 2 := by have := ho.1; rw [ints_len] at this; omega
  have HF : Marking2 34 base A n c xs k 0 w w := ⟨by rw [Nat.zero_mul, marked_zero]; exact ho, World.grownBy.refl _ _⟩
  have HL := Lib.hid hl
  clear ho hl
  go_enter Try.func25, Try.ntmps25
  go_wp2
  go_loopw [1, 5] (fun q i wr => ∃ j : Nat, j ≤ n ∧ i = .int .i64 j ∧ q = .int .i64 (k + j * 2) ∧ Marking2 34 base A n c xs k j w wr) (fun _ i _ => n - (intOf i).toNat)
  case atStart => exact ⟨0, by omega, rfl, by simp, HF⟩
  case round =>
    obtain ⟨j, hj, rfl, rfl, HM⟩ := hrel
    by_cases hlt : j < n
    · obtain ⟨g, rfl⟩ := HM.addr (by omega)
      obtain ⟨hg, hbase, hold, hfr⟩ := stored_at2 HM.1 (j * 2) (by omega)
      obtain ⟨_, _, hold1, hfr1⟩ := stored_at2 HM.1 (j * 2 + 1) (by omega)
      have H := Lib.hid (HM.step HL.out hlt)
      clear HM HF
      go_wp2
      go_roundw
      case rel => exact ⟨j + 1, by omega, by go_num, by go_num, H.out⟩
      case measure => simp [intOf]; omega
    · have hd : decide (j < n) = false := by simp; omega
      have hjn : n = j := by omega
      subst hjn
      go_wp2
      go_ret
      exact ⟨rfl, by have := HM.1; rw [marked_all _ _ _ _ HL.out] at this; exact this, HM.2⟩
set_option maxHeartbeats 800000 in
theorem heldShareS (w : World) (A : Option Addr) (n c : Nat) (k : Int) (ho : Rd w w.heap.size 2 A n (ints .i64 (marks fi64 k (n * 2)))) (hn : n ≤ 4294967296) (hk0 : 0 ≤ k) (hk1 : k ≤ 1099511627776) :
    Calls Try.prog 26 #[.slice A n c, .int .i64 k] w (Gives (.int .i64 (k + n * 2)) w) := by
  have HR := Lib.hid ho
  clear ho
  go_enter Try.func26, Try.ntmps26
  go_wp2
  go_loopw [1, 5] (fun q i wr => ∃ j : Nat, j ≤ n ∧ i = .int .i64 j ∧ q = .int .i64 (k + j * 2) ∧ Below w.heap.size w wr) (fun _ i _ => n - (intOf i).toNat)
  case atStart => exact ⟨0, by omega, rfl, by simp, Below.refl _ _⟩
  case round =>
    obtain ⟨j, hj, rfl, rfl, HW⟩ := hrel
    by_cases hlt : j < n
    · obtain ⟨b, off, rfl, hb, hcell, hcellv⟩ := Rd2.at_ (HR.out.below HW) hlt
      rw [marks_get _ _ _ _ (by omega)] at hcell hcellv
      have e1 : fi64 (k + (j * 2 : Nat)) = k + j * 2 := by unfold fi64; omega
      have e2 : fi64 (k + (j * 2 + 1 : Nat)) = k + j * 2 + 1 := by unfold fi64; omega
      rw [e1] at hcell
      rw [e2] at hcellv
      clear e1 e2
      go_wp2
      go_roundw
      case rel => exact ⟨j + 1, by omega, by go_num, by go_num, HW⟩
      case measure => simp [intOf]; omega
    · have hd : decide (j < n) = false := by simp; omega
      have hjn : n = j := by omega
      subst hjn
      go_wp2
      go_ret
      exact ⟨rfl, HW⟩
theorem szShareS_y (w : World) (A : Option Addr) (n c : Nat) (hn : n ≤ 9223372036854775807) (h : n ≤ 1048576) : Calls Try.prog 27 #[.slice A n c, .int .i64 1048576] w (Gives (.int .i64 (1048576 - n)) w) := by
  go_enter Try.func27, Try.ntmps27
  go_wp2
  go_ret
  exact ⟨rfl, Below.refl _ _⟩
theorem szShareS_n (w : World) (A : Option Addr) (n c : Nat) (hn : n ≤ 9223372036854775807) (h : 1048576 < n) : Calls Try.prog 27 #[.slice A n c, .int .i64 1048576] w (Gives (.int .i64 (-1)) w) := by
  go_enter Try.func27, Try.ntmps27
  go_wp2
  go_ret
  exact ⟨rfl, Below.refl _ _⟩
end Go.Proofs.Ythmljddgaabnhaa.S3
