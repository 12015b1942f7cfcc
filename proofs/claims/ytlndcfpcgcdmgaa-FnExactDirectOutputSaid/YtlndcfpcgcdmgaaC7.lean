/-
  Contracts of chapter 7's oblivious evaluation, of the model.
-/
import Derived.Test.YtlndcfpcgcdmgaaC1
import Derived.Test.YtlndcfpcgcdmgaaC4c
import Derived.Test.YtlndcfpcgcdmgaaC4d
import Derived.Test.YtlndcfpcgcdmgaaC5
namespace Go.Proofs.Ytlndcfpcgcdmgaa.C7
open Go.ChangeShapes Go.WideShapes Go.ChangeAt Go.RowKit
open S0 S1 C3 M3 M4 M5 C4 C4b C4c C4d C5
set_option linter.unusedVariables false
def bln (l x b : Int) : Int := if b % 1019 = 0 then 0 else pw (hg l x) b
def fin (c b : Int) : Int := if b % 1019 = 0 then 0 else pw c (inv (b % 1019))
def okey (e l : Int) : Int := if khash e [157, l] > 1 then khash e [157, l] else 1
def dir (s l x : Int) : Int := pw (hg l x) s
noncomputable def exV (e l x : Int) : Int := if lg (hg l x) e < 1 then 0 else lg (hg l x) e
noncomputable def exB (e l x : Int) : Bool := !decide (lg (hg l x) e < 1)
/-- When a share is evaluated. -/
def evB (v e : Int) : Prop := isEl e ∧ e ≠ 1 ∧ 0 ≤ v ∧ v ≤ 1018
open Classical in
noncomputable def evs (v e : Int) : Int := if evB v e then pw e v else 0
set_option maxRecDepth 100000 in
theorem specBln (l x b : Int) (w : World) (l0 : -9223372036854775808 ≤ l) (l1 : l ≤ 9223372036854775807) (x0 : -9223372036854775808 ≤ x) (x1 : x ≤ 9223372036854775807) (b0 : -9223372036854775808 ≤ b) (b1 : b ≤ 9223372036854775807) :
    Calls Try.prog 17 #[.int .i64 l, .int .i64 x, .int .i64 b] w (Gives (.int .i64 (bln l x b)) w) := by
  by_cases h : b % 1019 = 0
  · have HP := Lib.hid (show bln l x b = 0 by unfold bln; rw [if_pos h])
    go_enter Try.func17, Try.ntmps17
    go_wp2_with fail
    (with_reducible refine (C1.specMod_in b 1019 _ b0 b1 (by omega) (by omega)).mono ?_); rintro e w2 ⟨rfl, rfl⟩
    rw [h]
    go_wp2
    go_ret
    exact ⟨by rw [HP.out]; rfl, Below.refl _ _⟩
  · have HP := Lib.hid (show bln l x b = pw (hg l x) b by unfold bln; rw [if_neg h])
    obtain ⟨r, hr⟩ : ∃ r, r = b % 1019 := ⟨_, rfl⟩
    have r0 : (r == 0) = false := by simp; omega
    have r1 : ¬ r = 0 := by omega
    have HRR := Lib.hid hr
    clear hr h
    go_enter Try.func17, Try.ntmps17
    go_wp2_with fail
    (with_reducible refine (C1.specMod_in b 1019 _ b0 b1 (by omega) (by omega)).mono ?_); rintro e w2 ⟨rfl, rfl⟩
    rw [← HRR.out]
    go_wp2_with fail
    (with_reducible refine (specHash l x _ l0 l1 x0 x1).mono ?_); rintro e w2 ⟨rfl, b2⟩
    go_wp2_with fail
    (with_reducible refine (specPow (hg l x) b _ b0 b1).mono ?_); rintro e w3 ⟨rfl, rfl⟩
    go_wp2
    go_ret
    exact ⟨by rw [HP.out]; rfl, b2⟩
set_option maxRecDepth 100000 in
theorem specFin (c b : Int) (w : World) (b0 : -9223372036854775808 ≤ b) (b1 : b ≤ 9223372036854775807) :
    Calls Try.prog 27 #[.int .i64 c, .int .i64 b] w (Gives (.int .i64 (fin c b)) w) := by
  by_cases h : b % 1019 = 0
  · have HP := Lib.hid (show fin c b = 0 by unfold fin; rw [if_pos h])
    go_enter Try.func27, Try.ntmps27
    go_wp2_with fail
    (with_reducible refine (C1.specMod_in b 1019 _ b0 b1 (by omega) (by omega)).mono ?_); rintro e w2 ⟨rfl, rfl⟩
    rw [h]
    go_wp2
    go_ret
    exact ⟨by rw [HP.out]; rfl, Below.refl _ _⟩
  · have HP := Lib.hid (show fin c b = pw c (inv (b % 1019)) by unfold fin; rw [if_neg h])
    have hi := inv_in (b % 1019)
    obtain ⟨v, hv⟩ : ∃ v, v = inv (b % 1019) := ⟨_, rfl⟩
    rw [← hv] at HP hi
    have HV := Lib.hid hv
    clear hv
    obtain ⟨r, hr⟩ : ∃ r, r = b % 1019 := ⟨_, rfl⟩
    have r0 : (r == 0) = false := by simp; omega
    have r1 : ¬ r = 0 := by omega
    have HRR := Lib.hid hr
    clear hr h
    go_enter Try.func27, Try.ntmps27
    go_wp2_with fail
    (with_reducible refine (C1.specMod_in b 1019 _ b0 b1 (by omega) (by omega)).mono ?_); rintro e w2 ⟨rfl, rfl⟩
    rw [← HRR.out]
    go_wp2_with fail
    (with_reducible refine (specInv b _ b0 b1).mono ?_); rintro e w2 ⟨rfl, b2⟩
    rw [← HV.out]
    go_wp2_with fail
    (with_reducible refine (specPow c v _ (by omega) (by omega)).mono ?_); rintro e w3 ⟨rfl, rfl⟩
    go_wp2
    go_ret
    exact ⟨by rw [HP.out]; rfl, b2⟩
set_option maxRecDepth 100000 in
theorem specOkey (e l : Int) (w : World) (e0 : -9223372036854775808 ≤ e) (e1 : e ≤ 9223372036854775807) (l0 : -9223372036854775808 ≤ l) (l1 : l ≤ 9223372036854775807) :
    Calls Try.prog 29 #[.int .i64 e, .int .i64 l] w (Gives (.int .i64 (okey e l)) w) := by
  have HP := Lib.hid (show okey e l = if khash e [157, l] > 1 then khash e [157, l] else 1 from rfl)
  have HO := Lib.hid (show okInts [157, l] from okInts.cons (by omega) (by omega) (okInts.one l0 l1))
  have bb : Below w.heap.size w (w.alloc (.cells #[.int .i64 157, .int .i64 l] 3)) := (Below.refl _ _).alloc (Nat.le_refl _) _
  go_enter Try.func29, Try.ntmps29
  go_wp2_with fail
  (with_reducible refine (specKeyed _ _ 2 2 [157, l] e e0 e1 (rd_two w 157 l) HO.out (by omega)).mono ?_); rintro e2 w2 ⟨rfl, b2⟩
  obtain ⟨q, hq⟩ : ∃ q, q = khash e [157, l] := ⟨_, rfl⟩
  rw [← hq] at HP ⊢
  clear hq
  go_wp2_with fail
  (with_reducible refine (C1.specMax 1 q _).mono ?_); rintro e3 w3 ⟨rfl, rfl⟩
  rw [← HP.out]
  go_wp2
  go_ret
  exact ⟨rfl, bb.trans (b2.mono bb.size)⟩
set_option maxRecDepth 100000 in
theorem specDir (s l x : Int) (w : World) (s0 : -9223372036854775808 ≤ s) (s1 : s ≤ 9223372036854775807) (l0 : -9223372036854775808 ≤ l) (l1 : l ≤ 9223372036854775807) (x0 : -9223372036854775808 ≤ x) (x1 : x ≤ 9223372036854775807) :
    Calls Try.prog 22 #[.int .i64 s, .int .i64 l, .int .i64 x] w (Gives (.int .i64 (dir s l x)) w) := by
  have HP := Lib.hid (show dir s l x = pw (hg l x) s from rfl)
  go_enter Try.func22, Try.ntmps22
  go_wp2_with fail
  (with_reducible refine (specHash l x _ l0 l1 x0 x1).mono ?_); rintro e w2 ⟨rfl, b2⟩
  go_wp2_with fail
  (with_reducible refine (specPow (hg l x) s _ s0 s1).mono ?_); rintro e w3 ⟨rfl, rfl⟩
  rw [← HP.out]
  go_wp2
  go_ret
  exact ⟨rfl, b2⟩
set_option maxRecDepth 100000 in
theorem specEx (e l x : Int) (w : World) (l0 : -9223372036854775808 ≤ l) (l1 : l ≤ 9223372036854775807) (x0 : -9223372036854775808 ≤ x) (x1 : x ≤ 9223372036854775807) :
    Calls Try.prog 26 #[.int .i64 e, .int .i64 l, .int .i64 x] w (Gives (.tuple #[.int .i64 (exV e l x), .bool (exB e l x)]) w) := by
  by_cases h : lg (hg l x) e < 1
  · rw [show exV e l x = 0 by unfold exV; rw [if_pos h], show exB e l x = false by unfold exB; rw [decide_eq_true h]; rfl]
    have HL := Lib.hid (show lg (hg l x) e = lg (hg l x) e from rfl)
    go_enter Try.func26, Try.ntmps26
    go_wp2_with fail
    (with_reducible refine (specHash l x _ l0 l1 x0 x1).mono ?_); rintro e2 w2 ⟨rfl, b2⟩
    go_wp2_with fail
    (with_reducible refine (specLog (hg l x) e _).mono ?_); rintro e3 w3 ⟨rfl, b3⟩
    obtain ⟨n, hn⟩ : ∃ n, n = lg (hg l x) e := ⟨_, rfl⟩
    rw [← hn] at h ⊢
    clear hn
    go_wp2
    go_ret2
    exact ⟨rfl, b2.trans (b3.mono b2.size)⟩
  · rw [show exV e l x = lg (hg l x) e by unfold exV; rw [if_neg h], show exB e l x = true by unfold exB; rw [decide_eq_false h]; rfl]
    obtain ⟨n, hn⟩ : ∃ n, n = lg (hg l x) e := ⟨_, rfl⟩
    rw [← hn] at h ⊢
    have HN := Lib.hid hn
    clear hn
    go_enter Try.func26, Try.ntmps26
    go_wp2_with fail
    (with_reducible refine (specHash l x _ l0 l1 x0 x1).mono ?_); rintro e2 w2 ⟨rfl, b2⟩
    go_wp2_with fail
    (with_reducible refine (specLog (hg l x) e _).mono ?_); rintro e3 w3 ⟨rfl, b3⟩
    rw [← HN.out]
    go_wp2
    go_ret2
    exact ⟨rfl, b2.trans (b3.mono b2.size)⟩
set_option maxRecDepth 100000 in
theorem specEvs (i v e : Int) (w : World) : Calls Try.prog 24 #[.agg #[.int .i64 i, .int .i64 v], .int .i64 e] w (Gives (.int .i64 (evs v e)) w) := by
  have b0 : Below w.heap.size w (w.alloc (.cells #[.int .i64 i, .int .i64 v] 30)) := (Below.refl _ _).alloc (Nat.le_refl _) _
  by_cases h1 : isEl e
  · have HE := Lib.hid (el_t h1)
    by_cases h2 : e = 1
    · have HP := Lib.hid (show evs v e = 0 by unfold evs; rw [if_neg (fun h => h.2.1 h2)])
      have h3 : (e == 1) = true := by simpa using h2
      clear h1 h2
      go_enter Try.func24, Try.ntmps24
      go_wp2_with fail
      (with_reducible refine (specEl e _).mono ?_); rintro e2 w2 ⟨rfl, rfl⟩
      rw [HE.out]
      go_wp2
      go_ret
      exact ⟨by rw [HP.out]; rfl, b0⟩
    · have h3 : (e == 1) = false := by simpa using h2
      by_cases hv : 0 ≤ v ∧ v ≤ 1018
      · have HP := Lib.hid (show evs v e = pw e v by unfold evs; rw [if_pos ⟨h1, h2, hv.1, hv.2⟩])
        clear h1 h2
        go_enter Try.func24, Try.ntmps24
        go_wp2_with fail
        (with_reducible refine (specEl e _).mono ?_); rintro e2 w2 ⟨rfl, rfl⟩
        rw [HE.out]
        go_wp2_with fail
        (with_reducible refine (C1.specIn_t v 0 1018 _ hv.1 hv.2).mono ?_); rintro e2 w2 ⟨rfl, rfl⟩
        go_wp2_with fail
        (with_reducible refine (specPow e v _ (by omega) (by omega)).mono ?_); rintro e3 w3 ⟨rfl, rfl⟩
        rw [← HP.out]
        go_wp2
        go_ret
        exact ⟨rfl, b0⟩
      · have HP := Lib.hid (show evs v e = 0 by unfold evs; rw [if_neg (fun h => hv ⟨h.2.2.1, h.2.2.2⟩)])
        have hv2 : v < 0 ∨ 1018 < v := by omega
        clear h1 h2 hv
        go_enter Try.func24, Try.ntmps24
        go_wp2_with fail
        (with_reducible refine (specEl e _).mono ?_); rintro e2 w2 ⟨rfl, rfl⟩
        rw [HE.out]
        go_wp2_with fail
        (with_reducible refine (C1.specIn_f v 0 1018 _ hv2).mono ?_); rintro e2 w2 ⟨rfl, rfl⟩
        go_wp2
        go_ret
        exact ⟨by rw [HP.out]; rfl, b0⟩
  · have HE := Lib.hid (el_f h1)
    have HP := Lib.hid (show evs v e = 0 by unfold evs; rw [if_neg (fun h => h1 h.1)])
    clear h1
    go_enter Try.func24, Try.ntmps24
    go_wp2_with fail
    (with_reducible refine (specEl e _).mono ?_); rintro e2 w2 ⟨rfl, rfl⟩
    rw [HE.out]
    go_wp2
    go_ret
    exact ⟨by rw [HP.out]; rfl, b0⟩
/-- When evaluations are combined, and to what. -/
def cmbOK (is es : List Int) (n m : Nat) : Prop := n = m ∧ 1 ≤ n ∧ (∀ k, k < n → 1 ≤ is.getD k 0 ∧ is.getD k 0 ≤ 7 ∧ isEl (es.getD k 0)) ∧ ¬ dup is n
noncomputable def cmbV (is es : List Int) : Nat → Int
  | 0 => 1
  | k + 1 => ml (cmbV is es k) (pw (es.getD k 0) (lw is k 0))
open Classical in
noncomputable def cmb (is es : List Int) (n m : Nat) : Int := if cmbOK is es n m then cmbV is es n else 0
open Classical in
noncomputable def cmbB (is es : List Int) (n m : Nat) : Bool := decide (cmbOK is es n m)
open Classical in
theorem cmb_t {is es : List Int} {n m : Nat} (h : cmbOK is es n m) : cmb is es n m = cmbV is es n ∧ cmbB is es n m = true := ⟨if_pos h, decide_eq_true h⟩
open Classical in
theorem cmb_f {is es : List Int} {n m : Nat} (h : ¬ cmbOK is es n m) : cmb is es n m = 0 ∧ cmbB is es n m = false := ⟨if_neg h, decide_eq_false h⟩
set_option maxHeartbeats 3200000 in
set_option maxRecDepth 100000 in
theorem specCmb (w : World) (A B : Option Addr) (n c m d : Nat) (is es : List Int) (hri : Rd w w.heap.size 1 A n (ints .i64 is)) (hok : okInts is) (hre : Rd w w.heap.size 1 B m (ints .i64 es)) (hn : n ≤ 4294967296) (hm : m ≤ 4294967296) :
    Calls Try.prog 18 #[.slice A n c, .slice B m d] w (Gives (.tuple #[.int .i64 (cmb is es n m), .bool (cmbB is es n m)]) w) := by
  have HR := Lib.hid hri
  have HE := Lib.hid hre
  have HX := Lib.hid hok
  have HT := Lib.hid (cmb_t (is := is) (es := es) (n := n) (m := m))
  have HF := Lib.hid (cmb_f (is := is) (es := es) (n := n) (m := m))
  obtain ⟨V, hV⟩ : ∃ V, V = cmb is es n m := ⟨_, rfl⟩
  obtain ⟨b, hb⟩ : ∃ b, b = cmbB is es n m := ⟨_, rfl⟩
  rw [← hV, ← hb] at HT HF ⊢
  clear hri hre hok hV hb
  by_cases hnm : n = m
  · subst hnm
    by_cases hn0 : n = 0
    · obtain ⟨rfl, rfl⟩ := HF.out (fun h => by have := h.2.1; omega)
      have hz : ((n : Int) == 0) = true := by simp; omega
      clear hn0
      go_enter Try.func18, Try.ntmps18
      go_wp2
      go_ret2
      exact ⟨rfl, Below.refl _ _⟩
    · have hz : ((n : Int) == 0) = false := by simp; omega
      have hn1 : 1 ≤ n := by omega
      clear hn0
      go_enter Try.func18, Try.ntmps18
      go_wp2
      go_loopw [6] (fun i wr => ∃ k : Nat, k ≤ n ∧ i = .int .i64 k ∧ (∀ j, j < k → 1 ≤ is.getD j 0 ∧ is.getD j 0 ≤ 7 ∧ isEl (es.getD j 0)) ∧ fresh is k ∧ Below w.heap.size w wr) (fun i _ => n - (intOf i).toNat)
      case atStart => exact ⟨0, by omega, rfl, fun _ h => by omega, fun ⟨_, _, h1, h2, _⟩ => by omega, Below.refl _ _⟩
      case round =>
        obtain ⟨k, hk, rfl, hG, hFr, hbw⟩ := hrel
        have HG := Lib.hid hG
        have HFr := Lib.hid hFr
        clear hG hFr
        by_cases hlt : k < n
        · obtain ⟨g, off, rfl, hgl, hcell⟩ := (HR.out.below hbw).at_ hlt
          obtain ⟨g2, off2, rfl, hgl2, hcell2⟩ := (HE.out.below hbw).at_ hlt
          obtain ⟨x, hx⟩ : ∃ x, x = is.getD k 0 := ⟨_, rfl⟩
          obtain ⟨y, hy⟩ : ∃ y, y = es.getD k 0 := ⟨_, rfl⟩
          rw [← hx] at hcell
          rw [← hy] at hcell2
          have HXX := Lib.hid hx
          have HYY := Lib.hid hy
          clear hx hy
          by_cases hi : 1 ≤ x ∧ x ≤ 7
          · by_cases hv : isEl y
            · have HV := Lib.hid (el_t hv)
              have HN := Lib.hid (show ∀ j, j < k + 1 → 1 ≤ is.getD j 0 ∧ is.getD j 0 ≤ 7 ∧ isEl (es.getD j 0) from fun j hj => by
                by_cases h : j < k
                · exact HG.out j h
                · obtain rfl : j = k := by omega
                  rw [← HXX.out, ← HYY.out]; exact ⟨hi.1, hi.2, hv⟩)
              clear hv
              go_wp2_with fail
              (with_reducible refine (C1.specIn_t x 1 7 _ hi.1 hi.2).mono ?_); rintro e w2 ⟨rfl, rfl⟩
              go_wp2_with fail
              (with_reducible refine (specEl y _).mono ?_); rintro e w2 ⟨rfl, rfl⟩
              rw [HV.out]
              go_wp2
              go_loopw [7] (fun i wx => ∃ p : Nat, p ≤ k ∧ i = .int .i64 p ∧ apart is k p ∧ Below wr.heap.size wr wx) (fun i _ => k - (intOf i).toNat)
              case atStart => exact ⟨0, by omega, rfl, fun _ h => by omega, Below.refl _ _⟩
              case round =>
                obtain ⟨p, hp, rfl, hA, hb2⟩ := hrel
                have HA := Lib.hid hA
                clear hA
                have hb3 := hb2
                replace hb2 := hbw.trans (hb2.mono hbw.size)
                by_cases hpk : p < k
                · have hck : wr.cell? ⟨g, off + k, none⟩ = some (.int .i64 x) := by
                    obtain ⟨b', off', e, _, h⟩ := (HR.out.below hb2).at_ hlt
                    cases e
                    rw [HXX.out]; exact h
                  obtain ⟨b', off', e, _, hcp⟩ := (HR.out.below hb2).at_ (j := p) (by omega)
                  cases e
                  obtain ⟨z, hz2⟩ : ∃ z, z = is.getD p 0 := ⟨_, rfl⟩
                  have hgp := HG.out p hpk
                  rw [← hz2] at hcp hgp
                  obtain ⟨gp1, gp2, _⟩ := hgp
                  have HZ2 := Lib.hid hz2
                  clear hz2 hcell hcell2
                  have hpn : p < n := by omega
                  have hpi : (p : Int) < n := by omega
                  have hki : (k : Int) < n := by omega
                  by_cases he : z = x
                  · obtain ⟨rfl, rfl⟩ := HF.out (fun h => h.2.2.2 ⟨p, k, hpk, hlt, by rw [← HZ2.out, ← HXX.out, he]⟩)
                    have heb : (z == x) = true := by simpa using he
                    clear he
                    go_wp2_with fail
                    go_region
                    go_wp2
                    go_ret2
                    exact ⟨rfl, hb2.trans (drewN_below _ 1 _)⟩
                  · have HA2 := Lib.hid (HA.out.next (show is.getD p 0 % 1019 ≠ is.getD k 0 % 1019 by rw [← HZ2.out, ← HXX.out]; omega))
                    have heb : (z == x) = false := by simpa using he
                    clear he
                    go_wp2_with fail
                    go_region
                    go_wp2
                    go_roundw
                    case rel => exact ⟨p + 1, by omega, by go_num, HA2.out, hb3.trans (drewN_below _ 1 _)⟩
                    case measure => simp [intOf]; omega
                · obtain rfl : p = k := by omega
                  have HFN := Lib.hid (HFr.out.next HA.out)
                  have hd : decide (p < p) = false := by simp
                  go_wp2
                  go_roundw
                  case rel => exact ⟨p + 1, by omega, by go_num, HN.out, HFN.out, hb2⟩
                  case measure => simp [intOf]; omega
            · obtain ⟨rfl, rfl⟩ := HF.out (fun h => hv (by rw [HYY.out]; exact (h.2.2.1 k hlt).2.2))
              have HV := Lib.hid (el_f hv)
              clear hv
              go_wp2_with fail
              (with_reducible refine (C1.specIn_t x 1 7 _ hi.1 hi.2).mono ?_); rintro e w2 ⟨rfl, rfl⟩
              go_wp2_with fail
              (with_reducible refine (specEl y _).mono ?_); rintro e w2 ⟨rfl, rfl⟩
              rw [HV.out]
              go_wp2
              go_ret2
              exact ⟨rfl, hbw⟩
          · obtain ⟨rfl, rfl⟩ := HF.out (fun h => hi (by rw [HXX.out]; exact ⟨(h.2.2.1 k hlt).1, (h.2.2.1 k hlt).2.1⟩))
            have hi2 : x < 1 ∨ 7 < x := by omega
            clear hi
            go_wp2_with fail
            (with_reducible refine (C1.specIn_f x 1 7 _ hi2).mono ?_); rintro e w2 ⟨rfl, rfl⟩
            go_wp2
            go_ret2
            exact ⟨rfl, hbw⟩
        · obtain rfl : k = n := by omega
          obtain ⟨hv1, rfl⟩ := HT.out ⟨rfl, hn1, HG.out, HFr.out⟩
          have HV := Lib.hid hv1
          have hdd : decide (k < k) = false := by simp
          clear hv1
          go_wp2
          go_loopw [8, 9] (fun v i wx => ∃ j : Nat, j ≤ k ∧ i = .int .i64 j ∧ v = .int .i64 (cmbV is es j) ∧ Below w.heap.size w wx) (fun _ i _ => k - (intOf i).toNat)
          case atStart => exact ⟨0, by omega, rfl, rfl, hbw⟩
          case round =>
            obtain ⟨j, hj, rfl, rfl, hbx⟩ := hrel
            by_cases hlj : j < k
            · obtain ⟨g2, off2, rfl, hgl2, hcell2⟩ := (HE.out.below hbx).at_ hlj
              have HS := Lib.hid (show cmbV is es (j + 1) = ml (cmbV is es j) (pw (es.getD j 0) (lw is j 0)) from rfl)
              have hlw := lw_in is j 0
              obtain ⟨y, hy⟩ : ∃ y, y = es.getD j 0 := ⟨_, rfl⟩
              obtain ⟨z, hz2⟩ : ∃ z, z = lw is j 0 := ⟨_, rfl⟩
              obtain ⟨q, hq⟩ : ∃ q, q = cmbV is es j := ⟨_, rfl⟩
              rw [← hy, ← hz2, ← hq] at HS
              rw [← hy] at hcell2
              rw [← hz2] at hlw
              rw [← hq]
              have HZ2 := Lib.hid hz2
              obtain ⟨z0, z1⟩ := hlw
              clear hy hz2 hq
              have hji : (j : Int) < k := by omega
              have hgr : g2 < wr.heap.size := by have := hbx.size; omega
              go_wp2_with fail
              go_region_held3 (fun wx => wx.cell? ⟨g2, off2 + j, none⟩ = some (.int .i64 y)) (first | exact hcell2 | exact hcell3) (first | (go_at_call 43; refine (specWeight _ (j : Int) 0 (by omega) (by omega) A k c is (HR.out.on hbx.drew) HX.out hn).mono ?_; rintro e w4 ⟨rfl, b4⟩; rw [← HZ2.out]; have hcell3 : w4.cell? ⟨g2, off2 + j, none⟩ = some (.int .i64 y) := (b4.cell (p := ⟨g2, off2 + j, none⟩) hgr).trans hcell2) | (go_at_call 39; refine (specPow y z _ (by omega) (by omega)).mono ?_; rintro e w5 ⟨rfl, rfl⟩) | (go_at_call 42; refine (specMul q (pw y z) _).mono ?_; rintro e w5 ⟨rfl, rfl⟩))
              have hbd : Below w.heap.size w wr.drew := hbx.drew
              have hb4 : Below w.heap.size w w4 := hbd.trans (b4.mono hbd.size)
              go_wp2
              go_roundw
              case rel => exact ⟨j + 1, by omega, by go_num, by rw [HS.out], hb4⟩
              case measure => simp [intOf]; omega
            · obtain rfl : j = k := by omega
              rw [← HV.out]
              go_wp2
              go_ret2
              exact ⟨rfl, hbx⟩
  · obtain ⟨rfl, rfl⟩ := HF.out (fun h => hnm h.1)
    have hne : (n == m) = false := by simpa using hnm
    have hne2 : ((n : Int) == (m : Int)) = false := by simp; omega
    clear hnm
    go_enter Try.func18, Try.ntmps18
    go_wp2
    go_ret2
    exact ⟨rfl, Below.refl _ _⟩
end Go.Proofs.Ytlndcfpcgcdmgaa.C7
