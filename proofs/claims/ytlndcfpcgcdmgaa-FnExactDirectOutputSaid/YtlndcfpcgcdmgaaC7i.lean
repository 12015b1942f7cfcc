/-
  Contracts of chapter 7's oblivious evaluation, of the program: CombineEvaluations runs a table of method expressions over a struct of its own.
-/
import Derived.Test.YtlndcfpcgcdmgaaC7
import Derived.Test.YtlndcfpcgcdmgaaM1
import Derived.Test.YtlndcfpcgcdmgaaC5b
import Derived.BigQuiet
import Derived.RegionTactic
import Derived.Deep.RegionLaw
namespace Go.Proofs.Ytlndcfpcgcdmgaa.C7i
open Go.ChangeShapes Go.WideShapes Go.ChangeAt Go.RowKit
open S0 S1 C3 M3 M4 M5 C4 C4b C4c C4d C5 C5b C7
set_option linter.unusedVariables false
set_option maxRecDepth 100000 in
theorem isBln (b : Int) (w : World) (b0 : -9223372036854775808 ≤ b) (b1 : b ≤ 9223372036854775807) :
    Calls Try.prog 33 #[.int .i64 b] w fun e w' => e = .returned (.bool (b % 1019 != 0)) ∧ w = w' := by
  obtain ⟨r, hr⟩ : ∃ r, r = b % 1019 := ⟨_, rfl⟩
  rw [← hr]
  have HR := Lib.hid hr
  clear hr
  go_enter Try.func33, Try.ntmps33
  go_wp2_with fail
  (with_reducible refine (C1.implMod_in b 1019 _ b0 b1 (by omega) (by omega)).mono ?_); rintro e w2 ⟨rfl, rfl⟩
  rw [← HR.out]
  go_wp2
  go_ret
  exact ⟨rfl, rfl⟩
theorem isBln_f {b : Int} (w : World) (b0 : -9223372036854775808 ≤ b) (b1 : b ≤ 9223372036854775807) (h : b % 1019 = 0) :
    Calls Try.prog 33 #[.int .i64 b] w fun e w' => e = .returned (.bool false) ∧ w = w' := by
  have := isBln b w b0 b1
  rw [h] at this
  exact this
theorem isBln_t {b : Int} (w : World) (b0 : -9223372036854775808 ≤ b) (b1 : b ≤ 9223372036854775807) (h : ¬ b % 1019 = 0) :
    Calls Try.prog 33 #[.int .i64 b] w fun e w' => e = .returned (.bool true) ∧ w = w' := by
  have := isBln b w b0 b1
  rw [show (b % 1019 != 0) = true by simpa using h] at this
  exact this
set_option maxRecDepth 100000 in
theorem implBln (l x b : Int) (w : World) (l0 : -9223372036854775808 ≤ l) (l1 : l ≤ 9223372036854775807) (x0 : -9223372036854775808 ≤ x) (x1 : x ≤ 9223372036854775807) (b0 : -9223372036854775808 ≤ b) (b1 : b ≤ 9223372036854775807) :
    Calls Try.prog 13 #[.int .i64 l, .int .i64 x, .int .i64 b] w (Gives (.int .i64 (bln l x b)) w) := by
  by_cases h : b % 1019 = 0
  · have HP := Lib.hid (show bln l x b = 0 by unfold bln; rw [if_pos h])
    have HB := Lib.hid (isBln_f w b0 b1 h)
    clear h
    go_enter Try.func13, Try.ntmps13
    go_wp2_with fail
    (refine HB.out.mono ?_); rintro e w2 ⟨rfl, rfl⟩
    go_wp2
    go_ret
    exact ⟨by rw [HP.out]; rfl, Below.refl _ _⟩
  · have HP := Lib.hid (show bln l x b = pw (hg l x) b by unfold bln; rw [if_neg h])
    have HB := Lib.hid (isBln_t w b0 b1 h)
    clear h
    go_enter Try.func13, Try.ntmps13
    go_wp2_with fail
    (refine HB.out.mono ?_); rintro e w2 ⟨rfl, rfl⟩
    go_wp2_with fail
    (with_reducible refine (implHash l x _ l0 l1 x0 x1).mono ?_); rintro e w2 ⟨rfl, b2⟩
    go_wp2_with fail
    (with_reducible refine (implPow (hg l x) b _ b0 b1).mono ?_); rintro e w3 ⟨rfl, b3⟩
    go_wp2
    go_ret
    exact ⟨by rw [HP.out]; rfl, b2.trans (b3.mono b2.size)⟩
set_option maxRecDepth 100000 in
theorem implFin (c b : Int) (w : World) (b0 : -9223372036854775808 ≤ b) (b1 : b ≤ 9223372036854775807) :
    Calls Try.prog 28 #[.int .i64 c, .int .i64 b] w (Gives (.int .i64 (fin c b)) w) := by
  by_cases h : b % 1019 = 0
  · have HP := Lib.hid (show fin c b = 0 by unfold fin; rw [if_pos h])
    have HB := Lib.hid (isBln_f w b0 b1 h)
    clear h
    go_enter Try.func28, Try.ntmps28
    go_wp2_with fail
    (refine HB.out.mono ?_); rintro e w2 ⟨rfl, rfl⟩
    go_wp2
    go_ret
    exact ⟨by rw [HP.out]; rfl, Below.refl _ _⟩
  · have HP := Lib.hid (show fin c b = pw c (inv (b % 1019)) by unfold fin; rw [if_neg h])
    have HB := Lib.hid (isBln_t w b0 b1 h)
    have hi := inv_in (b % 1019)
    obtain ⟨v, hv⟩ : ∃ v, v = inv (b % 1019) := ⟨_, rfl⟩
    rw [← hv] at HP hi
    have HV := Lib.hid hv
    clear hv h
    go_enter Try.func28, Try.ntmps28
    go_wp2_with fail
    (refine HB.out.mono ?_); rintro e w2 ⟨rfl, rfl⟩
    go_wp2_with fail
    (with_reducible refine (implInv b _ b0 b1).mono ?_); rintro e w2 ⟨rfl, b2⟩
    rw [← HV.out]
    go_wp2_with fail
    (with_reducible refine (implPow c v _ (by omega) (by omega)).mono ?_); rintro e w3 ⟨rfl, b3⟩
    go_wp2
    go_ret
    exact ⟨by rw [HP.out]; rfl, b2.trans (b3.mono b2.size)⟩
set_option maxRecDepth 100000 in
theorem implOkey (e l : Int) (w : World) (e0 : -9223372036854775808 ≤ e) (e1 : e ≤ 9223372036854775807) (l0 : -9223372036854775808 ≤ l) (l1 : l ≤ 9223372036854775807) :
    Calls Try.prog 30 #[.int .i64 e, .int .i64 l] w (Gives (.int .i64 (okey e l)) w) := by
  have HO := Lib.hid (show okInts [157, l] from okInts.cons (by omega) (by omega) (okInts.one l0 l1))
  have bb : Below w.heap.size w (w.alloc (.cells #[.int .i64 157, .int .i64 l] 3)) := (Below.refl _ _).alloc (Nat.le_refl _) _
  obtain ⟨q, hq⟩ : ∃ q, q = khash e [157, l] := ⟨_, rfl⟩
  have HP := Lib.hid (show okey e l = if 1 > q then 1 else q by
    unfold okey; rw [← hq]
    by_cases h1 : q > 1
    · rw [if_pos h1, if_neg (by omega)]
    · rw [if_neg h1]; by_cases h2 : 1 > q
      · rw [if_pos h2]
      · rw [if_neg h2]; omega)
  have HQ := Lib.hid hq
  clear hq
  go_enter Try.func30, Try.ntmps30
  go_wp2_with fail
  (with_reducible refine (implKeyed _ _ 2 2 [157, l] e e0 e1 (rd_two w 157 l) HO.out (by omega)).mono ?_); rintro e2 w2 ⟨rfl, b2⟩
  rw [← HQ.out]
  go_wp2_with fail
  (with_reducible refine (fromHash q _).mono ?_); rintro e3 w3 ⟨rfl, b3⟩
  rw [← HP.out]
  go_wp2
  go_ret
  have b4 := bb.trans (b2.mono bb.size)
  exact ⟨rfl, b4.trans (b3.mono b4.size)⟩
set_option maxRecDepth 100000 in
theorem implDir (s l x : Int) (w : World) (s0 : -9223372036854775808 ≤ s) (s1 : s ≤ 9223372036854775807) (l0 : -9223372036854775808 ≤ l) (l1 : l ≤ 9223372036854775807) (x0 : -9223372036854775808 ≤ x) (x1 : x ≤ 9223372036854775807) :
    Calls Try.prog 23 #[.int .i64 s, .int .i64 l, .int .i64 x] w (Gives (.int .i64 (dir s l x)) w) := by
  have HP := Lib.hid (show dir s l x = pw (hg l x) s from rfl)
  go_enter Try.func23, Try.ntmps23
  go_wp2_with fail
  (with_reducible refine (implHash l x _ l0 l1 x0 x1).mono ?_); rintro e w2 ⟨rfl, b2⟩
  go_wp2_with fail
  (with_reducible refine (implPow (hg l x) s _ s0 s1).mono ?_); rintro e w3 ⟨rfl, b3⟩
  rw [← HP.out]
  go_wp2
  go_ret
  exact ⟨rfl, b2.trans (b3.mono b2.size)⟩
set_option maxRecDepth 100000 in
theorem implEx (e l x : Int) (w : World) (l0 : -9223372036854775808 ≤ l) (l1 : l ≤ 9223372036854775807) (x0 : -9223372036854775808 ≤ x) (x1 : x ≤ 9223372036854775807) :
    Calls Try.prog 15 #[.int .i64 e, .int .i64 l, .int .i64 x] w (Gives (.tuple #[.int .i64 (exV e l x), .bool (exB e l x)]) w) := by
  obtain ⟨n, hn⟩ : ∃ n, n = lg (hg l x) e := ⟨_, rfl⟩
  have HN := Lib.hid hn
  by_cases h : n < 1
  · rw [show exV e l x = 0 by unfold exV; rw [← hn, if_pos h], show exB e l x = false by unfold exB; rw [← hn, decide_eq_true h]; rfl]
    clear hn
    go_enter Try.func15, Try.ntmps15
    go_wp2_with fail
    (with_reducible refine (implHash l x _ l0 l1 x0 x1).mono ?_); rintro e2 w2 ⟨rfl, b2⟩
    go_wp2_with fail
    (with_reducible refine (implLog (hg l x) e _).mono ?_); rintro e3 w3 ⟨rfl, b3⟩
    rw [← HN.out]
    go_wp2
    go_ret2
    exact ⟨rfl, b2.trans (b3.mono b2.size)⟩
  · rw [show exV e l x = n by unfold exV; rw [← hn, if_neg h], show exB e l x = true by unfold exB; rw [← hn, decide_eq_false h]; rfl]
    clear hn
    go_enter Try.func15, Try.ntmps15
    go_wp2_with fail
    (with_reducible refine (implHash l x _ l0 l1 x0 x1).mono ?_); rintro e2 w2 ⟨rfl, b2⟩
    go_wp2_with fail
    (with_reducible refine (implLog (hg l x) e _).mono ?_); rintro e3 w3 ⟨rfl, b3⟩
    rw [← HN.out]
    go_wp2
    go_ret2
    exact ⟨rfl, b2.trans (b3.mono b2.size)⟩
set_option maxRecDepth 100000 in
theorem implEvs (i v e : Int) (w : World) : Calls Try.prog 16 #[.agg #[.int .i64 i, .int .i64 v], .int .i64 e] w (Gives (.int .i64 (evs v e)) w) := by
  have b0 : Below w.heap.size w (w.alloc (.cells #[.int .i64 i, .int .i64 v] 30)) := (Below.refl _ _).alloc (Nat.le_refl _) _
  by_cases h2 : e = 1
  · have HP := Lib.hid (show evs v e = 0 by unfold evs; rw [if_neg (fun h => h.2.1 h2)])
    have h3 : (e == 1) = true := by simpa using h2
    clear h2
    go_enter Try.func16, Try.ntmps16
    go_wp2
    go_ret
    exact ⟨by rw [HP.out]; rfl, b0⟩
  · have h3 : (e == 1) = false := by simpa using h2
    by_cases hv : 0 ≤ v ∧ v ≤ 1018
    · have HI := Lib.hid (inR_t hv.1 hv.2)
      have HP := Lib.hid (show evs v e = pw e v by
        by_cases h1 : isEl e
        · unfold evs; rw [if_pos ⟨h1, h2, hv.1, hv.2⟩]
        · unfold evs; rw [if_neg (fun h => h1 h.1), pw_f v h1])
      clear h2
      go_enter Try.func16, Try.ntmps16
      go_wp2_with fail
      (with_reducible refine (implInR v _).mono ?_); rintro e2 w2 ⟨rfl, rfl⟩
      rw [HI.out]
      go_wp2_with fail
      (with_reducible refine (implPow e v _ (by omega) (by omega)).mono ?_); rintro e3 w3 ⟨rfl, b3⟩
      rw [← HP.out]
      go_wp2
      go_ret
      exact ⟨rfl, b0.trans (b3.mono b0.size)⟩
    · have HP := Lib.hid (show evs v e = 0 by unfold evs; rw [if_neg (fun h => hv ⟨h.2.2.1, h.2.2.2⟩)])
      have HI := Lib.hid (show inR v = false from decide_eq_false hv)
      clear h2 hv
      go_enter Try.func16, Try.ntmps16
      go_wp2_with fail
      (with_reducible refine (implInR v _).mono ?_); rintro e2 w2 ⟨rfl, rfl⟩
      rw [HI.out]
      go_wp2
      go_ret
      exact ⟨by rw [HP.out]; rfl, b0⟩
/-- What the steps of a combination speak of: its struct lies in the block g, above H. -/
structure Cb (w : World) (H g : Nat) (A B : Option Addr) (n c m d : Nat) (v : Int) : Prop where
  hi : H ≤ g
  lt : g < w.heap.size
  c0 : w.cell? ⟨g, 0, none⟩ = some (.slice A n c)
  c1 : w.cell? ⟨g, 1, none⟩ = some (.slice B m d)
  c2 : w.cell? ⟨g, 2, none⟩ = some (.int .i64 v)
  fz : w.frozen? ⟨g, 2, none⟩ = false
theorem Cb.below {w w' : World} {H g : Nat} {A B : Option Addr} {n c m d : Nat} {v : Int} (h : Cb w H g A B n c m d v) (hb : Below w.heap.size w w') : Cb w' H g A B n c m d v :=
  ⟨h.hi, Nat.lt_of_lt_of_le h.lt hb.size, by rw [hb.cell (p := ⟨g, 0, none⟩) h.lt]; exact h.c0, by rw [hb.cell (p := ⟨g, 1, none⟩) h.lt]; exact h.c1, by rw [hb.cell (p := ⟨g, 2, none⟩) h.lt]; exact h.c2,
   (World.frozen?_of_block (a := ⟨g, 2, none⟩) (hb.block g h.lt)).trans h.fz⟩
theorem Cb.set {w : World} {H g : Nat} {A B : Option Addr} {n c m d : Nat} {v : Int} (h : Cb w H g A B n c m d v) (x : Int) : Cb (w.setCell ⟨g, 2, none⟩ (.int .i64 x)) H g A B n c m d x :=
  ⟨h.hi, by simpa using h.lt, by rw [World.cell?_setCell_other _ _ _ _ (by simp)]; exact h.c0, by rw [World.cell?_setCell_other _ _ _ _ (by simp)]; exact h.c1, World.cell?_setCell_same _ _ _ h.c2,
   (World.frozen?_setCell _ _ _ _).trans h.fz⟩
/-- The product of evaluations is 0 if one of them is no element. -/
theorem cmbV_el {is es : List Int} (k : Nat) (h : ∀ j, j < k → isEl (es.getD j 0)) : isEl (cmbV is es k) := by
  induction k with
  | zero => exact el_one
  | succ k ih => exact ml_el (ih fun j hj => h j (by omega)) (pw_el _ (h k (by omega)))
theorem not_el0 : ¬ isEl 0 := fun h => by have := h.lo; omega
theorem cmbV_f {is es : List Int} (k j : Nat) (hj : j < k) (h : ¬ isEl (es.getD j 0)) : cmbV is es k = 0 := by
  induction k with
  | zero => omega
  | succ k ih =>
    show ml (cmbV is es k) (pw (es.getD k 0) (lw is k 0)) = 0
    by_cases hk : j < k
    · rw [ih hk]; exact ml_f (fun h => not_el0 h.1)
    · obtain rfl : j = k := by omega
      rw [pw_f _ h]; exact ml_f (fun h => not_el0 h.2)
set_option maxRecDepth 100000 in
theorem lens (w : World) (H g : Nat) (A B : Option Addr) (n c m d : Nat) (v : Int) (z : Bool) (hz : z = decide (1 ≤ n ∧ n = m)) (h : Cb w H g A B n c m d v) (hn : n ≤ 4294967296) (hm : m ≤ 4294967296) :
    Calls Try.prog 44 #[.pointer (some ⟨g, 0, none⟩)] w (Gives (.bool z) w) := by
  obtain ⟨hi, lt, c0, c1, c2, fz⟩ := h
  by_cases h0 : n = 0
  · obtain rfl : z = false := by rw [hz]; exact decide_eq_false (by omega)
    subst h0
    have hd : decide ((0 : Int) < ((0 : Nat) : Int)) = false := by simp
    clear hz
    go_enter Try.func44, Try.ntmps44
    go_wp2
    go_quiet (fail)
    go_wp2
    go_ret
    exact ⟨rfl, drewN_below _ _ _⟩
  · have hd : decide (0 < n) = true := by simp; omega
    by_cases h1 : n = m
    · obtain rfl : z = true := by rw [hz]; exact decide_eq_true ⟨by omega, h1⟩
      subst h1
      have he : (n == n) = true := by simp
      clear hz
      go_enter Try.func44, Try.ntmps44
      go_wp2
      go_quiet (fail)
      go_wp2
      go_ret
      exact ⟨rfl, drewN_below _ _ _⟩
    · obtain rfl : z = false := by rw [hz]; exact decide_eq_false (by omega)
      have he : ((n : Int) == (m : Int)) = false := by simp; omega
      clear hz
      go_enter Try.func44, Try.ntmps44
      go_wp2
      go_quiet (fail)
      go_wp2
      go_ret
      exact ⟨by rw [← he]; rfl, drewN_below _ _ _⟩
/-- When the indices of a combination are right. -/
def ixOK (is : List Int) (n : Nat) : Prop := (∀ k, k < n → 1 ≤ is.getD k 0 ∧ is.getD k 0 ≤ 7) ∧ ¬ dup is n
set_option maxHeartbeats 800000 in
set_option maxRecDepth 100000 in
theorem ixs (w : World) (H g : Nat) (A B : Option Addr) (n c m d : Nat) (v : Int) (is : List Int) (z : Bool) (hz : z = true ↔ ixOK is n) (h : Cb w H g A B n c m d v) (hri : Rd w w.heap.size 1 A n (ints .i64 is)) (hok : okInts is) (hn : n ≤ 4294967296) :
    Calls Try.prog 45 #[.pointer (some ⟨g, 0, none⟩)] w (Gives (.bool z) w) := by
  have HR := Lib.hid hri
  have HX := Lib.hid hok
  have HZ := Lib.hid hz
  have HC := Lib.hid h
  obtain ⟨hi, lt, c0, c1, c2, fz⟩ := h
  clear hri hok hz
  go_enter Try.func45, Try.ntmps45
  go_wp2
  go_loop [10] (fun i => ∃ k : Nat, k ≤ n ∧ i = .int .i64 k ∧ (∀ j, j < k → 1 ≤ is.getD j 0 ∧ is.getD j 0 ≤ 7)) (fun i => n - (intOf i).toNat)
  case atStart => exact ⟨0, by omega, rfl, fun _ h => by omega⟩
  case round =>
    obtain ⟨k, hk, rfl, hG⟩ := hrel
    have HG := Lib.hid hG
    clear hG
    by_cases hlt : k < n
    · obtain ⟨b, off, rfl, hgl, hcell⟩ := HR.out.at_ hlt
      obtain ⟨x, hx⟩ : ∃ x, x = is.getD k 0 := ⟨_, rfl⟩
      rw [← hx] at hcell
      have HXX := Lib.hid hx
      clear hx
      by_cases hxi : 1 ≤ x ∧ x ≤ 7
      · have HN := Lib.hid (show ∀ j, j < k + 1 → 1 ≤ is.getD j 0 ∧ is.getD j 0 ≤ 7 from fun j hj => by
          by_cases h : j < k
          · exact HG.out j h
          · obtain rfl : j = k := by omega
            rw [← HXX.out]; exact hxi)
        go_wp2_with fail
        (with_reducible refine (C1.implIn_t x 1 7 _ hxi.1 hxi.2).mono ?_); rintro e w2 ⟨rfl, rfl⟩
        go_wp2
        go_round
        case rel => exact ⟨k + 1, by omega, by go_num, HN.out⟩
        case measure => simp [intOf]; omega
      · have hxo : x < 1 ∨ 7 < x := by omega
        obtain rfl : z = false := by
          cases hzz : z with
          | false => rfl
          | true => exact absurd (by rw [HXX.out]; exact (HZ.out.1 hzz).1 k hlt) hxi
        clear hxi
        go_wp2_with fail
        (with_reducible refine (C1.implIn_f x 1 7 _ hxo).mono ?_); rintro e w2 ⟨rfl, rfl⟩
        go_wp2
        go_ret
        exact ⟨rfl, Below.refl _ _⟩
    · obtain rfl : k = n := by omega
      have HB := Lib.hid (show z = true ↔ ¬ dup is k from ⟨fun h => (HZ.out.1 h).2, fun h => HZ.out.2 ⟨HG.out, h⟩⟩)
      go_wp2_with fail
      (with_reducible refine (diff _ A k c is z HB.out HR.out HX.out hn).mono ?_); rintro e w1 ⟨rfl, b1⟩
      go_wp2
      go_ret
      exact ⟨rfl, b1⟩
set_option maxHeartbeats 1600000 in
set_option maxRecDepth 100000 in
theorem mult (w : World) (H g : Nat) (A B : Option Addr) (n c d : Nat) (v : Int) (is es : List Int) (h : Cb w H g A B n c n d v) (hri : Rd w H 1 A n (ints .i64 is)) (hok : okInts is) (hre : Rd w H 1 B n (ints .i64 es)) (hn : n ≤ 4294967296) :
    Calls Try.prog 46 #[.pointer (some ⟨g, 0, none⟩)] w (fun e w' => e = .returned (.bool (cmbV is es n != 0)) ∧ Below H w w' ∧ Cb w' H g A B n c n d (cmbV is es n)) := by
  have HR := Lib.hid hri
  have HE := Lib.hid hre
  have HX := Lib.hid hok
  have hHg := h.hi
  have hgl := h.lt
  have hHw : H ≤ w.heap.size := by omega
  have HC := Lib.hid (h.set 1)
  obtain ⟨hi, lt, c0, c1, c2, fz⟩ := h
  clear hri hre hok
  have HB1 := Lib.hid ((Below.refl H w).setCell (p := ⟨g, 2, none⟩) hHg (.int .i64 1))
  obtain ⟨hi', lt', c0', c1', c2', fz'⟩ := HC.out
  go_enter Try.func46, Try.ntmps46
  go_wp2
  go_loopw [13] (fun i wr => ∃ j : Nat, j ≤ n ∧ i = .int .i64 j ∧ Cb wr H g A B n c n d (cmbV is es j) ∧ Below H w wr) (fun i _ => n - (intOf i).toNat)
  case atStart => exact ⟨0, by omega, rfl, HC.out, HB1.out⟩
  case round =>
    obtain ⟨j, hj, rfl, hC, hbx⟩ := hrel
    clear hi' lt' c0' c1' c2' fz' c0 c1 c2 fz
    have HCC := Lib.hid hC
    obtain ⟨_, lt2, c0, c1, c2, fz⟩ := hC
    by_cases hlj : j < n
    · obtain ⟨g2, off2, rfl, hgl2, hcell2⟩ := (HE.out.below hbx).at_ hlj
      have HS := Lib.hid (show cmbV is es (j + 1) = ml (cmbV is es j) (pw (es.getD j 0) (lw is j 0)) from rfl)
      have hlw := lw_in is j 0
      obtain ⟨y, hy⟩ : ∃ y, y = es.getD j 0 := ⟨_, rfl⟩
      obtain ⟨z, hz2⟩ : ∃ z, z = lw is j 0 := ⟨_, rfl⟩
      obtain ⟨q, hq⟩ : ∃ q, q = cmbV is es j := ⟨_, rfl⟩
      rw [← hy, ← hz2, ← hq] at HS
      rw [← hy] at hcell2
      rw [← hz2] at hlw
      rw [← hq] at HCC c2
      have HZ2 := Lib.hid hz2
      obtain ⟨z0, z1⟩ := hlw
      have HRW := Lib.hid ((HR.out.below hbx).more (show H ≤ wr.heap.size by omega))
      clear hy hz2 hq
      have hji : (j : Int) < n := by omega
      go_wp2_with fail
      go_region_law (first
        | (go_simp
           go_at_call 64
           refine (weight _ (j : Int) 0 (by omega) (by omega) A n c is (HRW.out.on (Below.refl _ wr).drew) HX.out hn).mono ?_
           rintro e w4 ⟨rfl, b4⟩
           rw [← HZ2.out]
           have B4 := Lib.hid (show Below wr.heap.size wr w4 from (Below.refl _ wr).drew.trans b4)
           have c24 := (b4.cell (p := ⟨g, 2, none⟩) lt2).trans c2)
        | (go_simp
           go_at_call 34
           refine (implPow y z _ (by omega) (by omega)).mono ?_
           rintro e w5 ⟨rfl, b5⟩
           have B5 := Lib.hid (B4.out.trans (b5.mono B4.out.size))
           have c25 := (B5.out.cell (p := ⟨g, 2, none⟩) lt2).trans c2)
        | (go_simp
           go_at_call 63
           refine (implMul q (pw y z) _).mono ?_
           rintro e w6 ⟨rfl, b6⟩
           have B6 := Lib.hid (B5.out.trans (b6.mono B5.out.size))
           have C6 := Lib.hid ((HCC.out.below B6.out).set (ml q (pw y z)))
           have c26 := (B6.out.cell (p := ⟨g, 2, none⟩) lt2).trans c2
           have f26 := (World.frozen?_of_block (a := ⟨g, 2, none⟩) (B6.out.block g lt2)).trans fz))
      all_goals
        go_wp2
        go_roundw
        case rel => exact ⟨j + 1, by omega, by go_num, by rw [HS.out]; exact C6.out, (hbx.trans (B6.out.mono (by omega))).setCell (p := ⟨g, 2, none⟩) hHg _⟩
        case measure => simp [intOf]; omega
    · obtain rfl : j = n := by omega
      have hd : decide (j < j) = false := by simp
      go_wp2
      go_ret
      exact ⟨rfl, hbx, HCC.out⟩
/-- The table of steps. -/
def row3 : Array Value := #[.func (.func 44) #[] #[], .func (.func 45) #[] #[], .func (.func 46) #[] #[]]
/-- The struct of a combination, new. -/
theorem Cb.new (w : World) (A B : Option Addr) (n c m d : Nat) (t : TypeId) : Cb (w.alloc (.cells #[.slice A n c, .slice B m d, .int .i64 0] t)) w.heap.size w.heap.size A B n c m d 0 := by
  have h := own_lit w #[.slice A n c, .slice B m d, .int .i64 0] 3 w.heap.size t (Nat.le_refl _) rfl (by unfold maxLen; omega)
  refine ⟨Nat.le_refl _, by simp, ?_, ?_, ?_, ?_⟩
  · have := h.cellAt 0 (by omega); exact this
  · have := h.cellAt 1 (by omega); exact this
  · have := h.cellAt 2 (by omega); exact this
  · exact h.frozenAt 2
theorem Cb.low {w : World} {H H' g : Nat} {A B : Option Addr} {n c m d : Nat} {v : Int} (h : Cb w H g A B n c m d v) (hH : H' ≤ H) : Cb w H' g A B n c m d v := ⟨by have := h.hi; omega, h.lt, h.c0, h.c1, h.c2, h.fz⟩
theorem cmb_parts {is es : List Int} {n : Nat} (h0 : 1 ≤ n) (hx : ixOK is n) : (cmbV is es n != 0) = cmbB is es n n ∧ cmb is es n n = cmbV is es n := by
  by_cases h : ∀ k, k < n → isEl (es.getD k 0)
  · obtain ⟨e1, e2⟩ := cmb_t (is := is) (es := es) (n := n) (m := n) ⟨rfl, h0, fun k hk => ⟨(hx.1 k hk).1, (hx.1 k hk).2, h k hk⟩, hx.2⟩
    have h1 := (cmbV_el (is := is) n h).lo
    exact ⟨by rw [e2]; simp; omega, e1⟩
  · obtain ⟨k, hk, hn⟩ : ∃ k, k < n ∧ ¬ isEl (es.getD k 0) := by
      apply Classical.byContradiction
      intro hc
      exact h fun k hk => Classical.byContradiction fun hb => hc ⟨k, hk, hb⟩
    obtain ⟨e1, e2⟩ := cmb_f (is := is) (es := es) (n := n) (m := n) (fun hok => hn (hok.2.2.1 k hk).2.2)
    rw [e1, e2, cmbV_f n k hk hn]
    exact ⟨rfl, rfl⟩
/-- One store into a row of a new block. -/
theorem st (w : World) (t : TypeId) (cs : Array Value) (j : Nat) (v : Value) (hv : v.oneCell' = true) (hj : j < cs.size) :
    (store ⟨w.heap.size, j, none⟩ v).run Try.prog (w.alloc (.cells cs t)) = .ok () (w.alloc (.cells (cs.set j v hj) t)) := by
  rw [run_store _ _ _ _ _ hv]
  have hc : (w.alloc (.cells cs t)).cell? ⟨w.heap.size, j, none⟩ = cs[j]? := cell_of_row _ _ j cs t (0, 0) (heap_alloc_last w _)
  rw [hc, Array.getElem?_eq_getElem hj]
  have hf := World.frozen?_alloc_new w cs t j
  simp only [hf, World.setCell_alloc_new]
  simp [Array.setIfInBounds, hj]
theorem ix0 (w : World) : (Instr.index 48 (.agg #[.func (.func 44) #[] #[], .func (.func 45) #[] #[], .func (.func 46) #[] #[]]) (.int .i64 0)).run Try.prog w = .ok (.func (.func 44) #[] #[]) w := by kernel_rfl
theorem ix1 (w : World) : (Instr.index 48 (.agg #[.func (.func 44) #[] #[], .func (.func 45) #[] #[], .func (.func 46) #[] #[]]) (.int .i64 1)).run Try.prog w = .ok (.func (.func 45) #[] #[]) w := by kernel_rfl
theorem ix2 (w : World) : (Instr.index 48 (.agg #[.func (.func 44) #[] #[], .func (.func 45) #[] #[], .func (.func 46) #[] #[]]) (.int .i64 2)).run Try.prog w = .ok (.func (.func 46) #[] #[]) w := by kernel_rfl
/-- What holds ahead of each step. -/
def Step (is es : List Int) (n m : Nat) (i : Value) (H g : Nat) (A B : Option Addr) (c d : Nat) (wr : World) : Prop :=
  (i = .int .i64 0 ∧ Cb wr H g A B n c m d 0) ∨ (i = .int .i64 1 ∧ Cb wr H g A B n c m d 0 ∧ (1 ≤ n ∧ n = m)) ∨ (i = .int .i64 2 ∧ Cb wr H g A B n c m d 0 ∧ (1 ≤ n ∧ n = m) ∧ ixOK is n)
    ∨ (i = .int .i64 3 ∧ Cb wr H g A B n c m d (cmbV is es n) ∧ (1 ≤ n ∧ n = m) ∧ ixOK is n ∧ cmbB is es n m = true)
set_option maxHeartbeats 1600000 in
set_option maxRecDepth 100000 in
theorem implCmb (w : World) (A B : Option Addr) (n c m d : Nat) (is es : List Int) (hri : Rd w w.heap.size 1 A n (ints .i64 is)) (hok : okInts is) (hre : Rd w w.heap.size 1 B m (ints .i64 es)) (hn : n ≤ 4294967296) (hm : m ≤ 4294967296) :
    Calls Try.prog 20 #[.slice A n c, .slice B m d] w (Gives (.tuple #[.int .i64 (cmb is es n m), .bool (cmbB is es n m)]) w) := by
  have HR := Lib.hid hri
  have HE := Lib.hid hre
  have HX := Lib.hid hok
  have HF := Lib.hid (cmb_f (is := is) (es := es) (n := n) (m := m))
  clear hri hre hok
  have HN := Lib.hid ((Cb.new (w.alloc (.cells row3 48)) A B n c m d 50).low (H' := w.heap.size) (by simp))
  have HB := Lib.hid (((Below.refl w.heap.size w).alloc (Nat.le_refl _) (.cells row3 48)).alloc (by simp) (.cells #[.slice A n c, .slice B m d, .int .i64 0] 50))
  have s0 := st w 48 #[.nilFunc, .nilFunc, .nilFunc] 0 (.func (.func 44) #[] #[]) rfl (by decide)
  have s1 := st w 48 #[.func (.func 44) #[] #[], .nilFunc, .nilFunc] 1 (.func (.func 45) #[] #[]) rfl (by decide)
  have s2 := st w 48 #[.func (.func 44) #[] #[], .func (.func 45) #[] #[], .nilFunc] 2 (.func (.func 46) #[] #[]) rfl (by decide)
  go_enter Try.func20, Try.ntmps20
  go_wp2
  go_loopw [15] (fun i wr => Step is es n m i w.heap.size (w.heap.size + 1) A B c d wr ∧ Below w.heap.size w wr) (fun i _ => 3 - (intOf i).toNat)
  case atStart => exact ⟨Or.inl ⟨rfl, by have h := HN.out; simpa [row3] using h⟩, HB.out⟩
  case round =>
    obtain ⟨hs, hbx⟩ := hrel
    have x0 := ix0 wr
    have x1 := ix1 wr
    have x2 := ix2 wr
    clear s0 s1 s2
    rcases hs with ⟨rfl, hC⟩ | ⟨rfl, hC, hnm⟩ | ⟨rfl, hC, hnm, hix⟩ | ⟨rfl, hC, hnm, hix, hz⟩
    · have hL := lens wr _ _ A B n c m d 0 _ rfl hC hn hm
      have HC := Lib.hid hC
      have hlt := hC.lt
      by_cases h : 1 ≤ n ∧ n = m
      · rw [decide_eq_true h] at hL
        have HL := Lib.hid hL
        have HH := Lib.hid h
        clear hL hC h
        go_wp2_with fail
        (refine HL.out.mono ?_); rintro e w2 ⟨rfl, b2⟩
        go_wp2
        go_roundw
        case rel => exact ⟨Or.inr (Or.inl ⟨rfl, HC.out.below b2, HH.out⟩), hbx.trans (b2.mono hbx.size)⟩
        case measure => simp [intOf]
      · obtain ⟨e1, e2⟩ := HF.out (fun hk => h ⟨hk.2.1, hk.1⟩)
        rw [decide_eq_false h] at hL
        have HL := Lib.hid hL
        clear hL hC
        go_wp2_with fail
        (refine HL.out.mono ?_); rintro e w2 ⟨rfl, b2⟩
        go_wp2
        go_ret2
        exact ⟨by rw [e1, e2]; rfl, hbx.trans (b2.mono hbx.size)⟩
    · obtain ⟨h1, rfl⟩ := hnm
      have HC := Lib.hid hC
      have hlt := hC.lt
      by_cases h : ixOK is n
      · have HL := Lib.hid (ixs wr _ _ A B n c n d 0 is true ⟨fun _ => h, fun _ => rfl⟩ hC (HR.out.on hbx) HX.out hn)
        clear hC
        go_wp2_with fail
        (refine HL.out.mono ?_); rintro e w2 ⟨rfl, b2⟩
        go_wp2
        go_roundw
        case rel => exact ⟨Or.inr (Or.inr (Or.inl ⟨rfl, HC.out.below b2, ⟨h1, rfl⟩, h⟩)), hbx.trans (b2.mono hbx.size)⟩
        case measure => simp [intOf]
      · obtain ⟨e1, e2⟩ := HF.out (fun hk => h ⟨fun j hj => ⟨(hk.2.2.1 j hj).1, (hk.2.2.1 j hj).2.1⟩, hk.2.2.2⟩)
        have HL := Lib.hid (ixs wr _ _ A B n c n d 0 is false ⟨fun hc => (by cases hc), fun hc => absurd hc h⟩ hC (HR.out.on hbx) HX.out hn)
        clear hC
        go_wp2_with fail
        (refine HL.out.mono ?_); rintro e w2 ⟨rfl, b2⟩
        go_wp2
        go_ret2
        exact ⟨by rw [e1, e2]; rfl, hbx.trans (b2.mono hbx.size)⟩
    · obtain ⟨h1, rfl⟩ := hnm
      obtain ⟨p1, p2⟩ := cmb_parts (es := es) h1 hix
      have hM := mult wr _ _ A B n c d 0 is es hC (HR.out.below hbx) HX.out (HE.out.below hbx) hn
      rw [p1] at hM
      have hlt := hC.lt
      have HI := Lib.hid hix
      cases hb : cmbB is es n n with
      | true =>
        rw [hb] at hM p1
        have HL := Lib.hid hM
        have HP := Lib.hid p1
        clear hM hC p1 hix
        go_wp2_with fail
        (refine HL.out.mono ?_); rintro e w2 ⟨rfl, b2, hC2⟩
        have HC2 := Lib.hid hC2
        clear hC2
        go_wp2
        go_roundw
        case rel => exact ⟨Or.inr (Or.inr (Or.inr ⟨rfl, HC2.out, ⟨h1, rfl⟩, HI.out, hb⟩)), hbx.trans b2⟩
        case measure => simp [intOf]
      | false =>
        rw [hb] at hM p1
        have HL := Lib.hid hM
        have HP := Lib.hid p1
        have hz : cmb is es n n = 0 := by
          rw [p2]
          simpa using p1
        clear hM hC p1 hix
        go_wp2_with fail
        (refine HL.out.mono ?_); rintro e w2 ⟨rfl, b2, hC2⟩
        clear hC2
        go_wp2
        go_ret2
        exact ⟨by rw [hz]; rfl, hbx.trans b2⟩
    · obtain ⟨h1, rfl⟩ := hnm
      obtain ⟨p1, p2⟩ := cmb_parts (es := es) h1 hix
      obtain ⟨_, _, c0, c1, c2, _⟩ := hC
      rw [← p2] at c2
      clear p1 p2
      go_wp2
      go_ret2
      exact ⟨by rw [hz]; rfl, hbx⟩
end Go.Proofs.Ytlndcfpcgcdmgaa.C7i
