/-
  Contracts of chapter 5's shares, of the model: Interpolate, ShareSecret, RefreshShares, MissingShare.
-/
import Derived.Test.YthmljddgaabnhaaC5f
namespace Go.Proofs.Ythmljddgaabnhaa.C5g
open Go.ChangeShapes Go.WideShapes Go.ChangeAt Go.RowKit
open S0 S1 S3 C3 M4 M5 C5 C5b C5c C5d C5e C5f M6
set_option linter.unusedVariables false
theorem red0 (s q : Int) (s0 : 0 ≤ s) (s1 : s ≤ 1018) (q0 : 0 ≤ q) (q1 : q ≤ 1018 * 1018) : (s + q).tmod 1019 = (s + q) % 1019 := Int.tmod_eq_emod_of_nonneg (by omega)
set_option maxHeartbeats 1600000 in
set_option maxRecDepth 100000 in
theorem specInterpolate (w : World) (t : Int) (A : Option Addr) (n c : Nat) (xs : List Int) (ht0 : -9223372036854775808 ≤ t) (ht1 : t ≤ 9223372036854775807) (hr : Rd w w.heap.size 2 A n (ints .i64 xs)) (hok : okInts xs) (hn : n ≤ 4294967296) (ha : are xs n) :
    Calls Try.prog 31 #[.slice A n c, .int .i64 t] w (Gives (.tuple #[.int .i64 (thr xs n t), .bool true]) w) := by
  have HR := Lib.hid hr
  have HX := Lib.hid hok
  have HA := Lib.hid ha
  have HT := Lib.hid (show thr xs n t = fsum (vls xs n) (lws (ixs xs n) t n) n from rfl)
  clear hr hok ha
  go_enter Try.func31, Try.ntmps31
  go_wp2_with fail
  (with_reducible refine (specAre _ A n c xs true ⟨fun _ => HA.out, fun _ => rfl⟩ HR.out HX.out hn).mono ?_); rintro e w1 ⟨rfl, b1⟩
  go_wp2
  go_loopw [6, 7] (fun s i wr => ∃ k : Nat, k ≤ n ∧ i = .int .i64 k ∧ s = .int .i64 (fsum (vls xs n) (lws (ixs xs n) t n) k) ∧ Below w.heap.size w wr) (fun _ i _ => n - (intOf i).toNat)
  case atStart => exact ⟨0, by omega, rfl, rfl, b1⟩
  case round =>
    obtain ⟨k, hk, rfl, rfl, hb⟩ := hrel
    clear b1
    by_cases hlt : k < n
    · obtain ⟨g, off, rfl, hgl, hcell, hcellv⟩ := Rd2.at_ (HR.out.below hb) hlt
      have hgood := HA.out.2.2.1 k hlt
      unfold good at hgood
      obtain ⟨_, _, y0, y1⟩ := hgood
      obtain ⟨s0, s1⟩ := fsum_in (vls xs n) (lws (ixs xs n) t n) k
      obtain ⟨z0, z1⟩ := lw_in (ixs xs n) (k : Int) t
      have HE := Lib.hid (show fsum (vls xs n) (lws (ixs xs n) t n) (k + 1) = (fsum (vls xs n) (lws (ixs xs n) t n) k + (lws (ixs xs n) t n).getD k 0 * ((vls xs n).getD k 0 % 1019)) % 1019 from rfl)
      rw [vls_get xs n k hlt, lws_get _ t n k hlt] at HE
      obtain ⟨y, hy⟩ : ∃ y, y = xs.getD (k * 2 + 1) 0 := ⟨_, rfl⟩
      obtain ⟨z, hz⟩ : ∃ z, z = lw (ixs xs n) (k : Int) t := ⟨_, rfl⟩
      obtain ⟨s, hss⟩ : ∃ s, s = fsum (vls xs n) (lws (ixs xs n) t n) k := ⟨_, rfl⟩
      rw [← hy, ← hz, ← hss] at HE
      rw [← hy] at hcellv y0 y1
      rw [← hz] at z0 z1
      rw [← hss] at s0 s1 ⊢
      have hym : y % 1019 = y := by omega
      rw [hym, Int.mul_comm] at HE
      have HZ := Lib.hid hz
      clear hy hz hss hcell hym
      have n0 : 0 ≤ y * z := Int.mul_nonneg y0 z0
      have n1 : y * z ≤ 1018 * 1018 := Int.mul_le_mul y1 z1 z0 (by omega)
      have hki : (k : Int) < n := by omega
      have hgr : g < wr.heap.size := by have := hb.size; omega
      go_wp2_with fail
      go_region_held3 (fun wx => wx.cell? ⟨g, off + k * 2 + 1, none⟩ = some (.int .i64 y)) (first | exact hcellv | exact hcell2 | exact hcell3) (first | (go_at_call 48; refine (specIdx _ _ n c xs (HR.out.on hb.drew) hn).mono ?_; rintro e w2 ⟨A2, c2, rfl, o2, b2⟩; have hcell2 : w2.cell? ⟨g, off + k * 2 + 1, none⟩ = some (.int .i64 y) := (b2.cell (p := ⟨g, off + k * 2 + 1, none⟩) hgr).trans hcellv; have hgr2 : g < w2.heap.size := Nat.lt_of_lt_of_le hgr b2.size) | (go_at_call 30; refine (specWeight w2 (k : Int) t ht0 ht1 A2 n c2 (ixs xs n) (Rd.own o2) (ixs_ok HX.out n) hn).mono ?_; rintro e w3 ⟨rfl, b3⟩; rw [← HZ.out]; have hcell3 : w3.cell? ⟨g, off + k * 2 + 1, none⟩ = some (.int .i64 y) := (b3.cell (p := ⟨g, off + k * 2 + 1, none⟩) hgr2).trans hcell2))
      have hbd : Below w.heap.size w wr.drew := hb.drew
      have hb4 : Below w.heap.size w w3 := hbd.trans ((b2.trans (b3.mono b2.size)).mono hbd.size)
      go_wp2
      go_roundw
      case rel => exact ⟨k + 1, by omega, by go_num, by rw [HE.out, red s (y * z) s0 s1 n0 n1], hb4⟩
      case measure => simp [intOf]; omega
    · obtain rfl : k = n := by omega
      have hdd : decide (k < k) = false := by simp
      rw [← HT.out]
      go_wp2
      go_ret2
      exact ⟨rfl, hb⟩
set_option maxRecDepth 100000 in
theorem specInterpolate_f (w : World) (t : Int) (A : Option Addr) (n c : Nat) (xs : List Int) (hr : Rd w w.heap.size 2 A n (ints .i64 xs)) (hok : okInts xs) (hn : n ≤ 4294967296) (ha : ¬ are xs n) :
    Calls Try.prog 31 #[.slice A n c, .int .i64 t] w (Gives (.tuple #[.int .i64 0, .bool false]) w) := by
  have HR := Lib.hid hr
  have HX := Lib.hid hok
  have HA := Lib.hid ha
  clear hr hok ha
  go_enter Try.func31, Try.ntmps31
  go_wp2_with fail
  (with_reducible refine (specAre _ A n c xs false ⟨fun h => (by cases h), fun h => absurd h HA.out⟩ HR.out HX.out hn).mono ?_); rintro e w1 ⟨rfl, b1⟩
  go_wp2
  go_ret2
  exact ⟨rfl, b1⟩
set_option maxHeartbeats 1600000 in
set_option maxRecDepth 100000 in
theorem specSecret (w : World) (s : Int) (A : Option Addr) (m c n : Nat) (cs : List Int) (hs0 : -9223372036854775808 ≤ s) (hs1 : s ≤ 9223372036854775807) (hr : Rd w w.heap.size 1 A m (ints .i64 cs)) (hok : okInts cs) (hn : n ≤ 7) (hmn : m < n) :
    Calls Try.prog 20 #[.int .i64 s, .slice A m c, .int .i64 n] w (MadeS 34 2 n (ints .i64 (prs shf (shg s cs) n)) w) := by
  have HR := Lib.hid hr
  have HX := Lib.hid hok
  have HM := made2_start shf (shg s cs) w
  clear hr hok
  go_enter Try.func20, Try.ntmps20
  go_wp2_with fail
  (with_reducible refine (C1.specIn_t (n : Int) 1 7 _ (by omega) (by omega)).mono ?_); rintro e w1 ⟨rfl, rfl⟩
  have hmi : (m : Int) < (n : Int) := by omega
  have hdm : decide (n ≤ m) = false := by simp; omega
  go_wp2
  go_loopw [7, 8] (fun v i wr => ∃ k : Nat, k ≤ n ∧ i = .int .i64 ((k : Int) + 1) ∧ Made2 shf (shg s cs) w k v wr) (fun _ i _ => n + 1 - (intOf i).toNat)
  case atStart => exact ⟨0, by omega, rfl, HM⟩
  case round =>
    obtain ⟨k, hk, rfl, hE⟩ := hrel
    obtain ⟨A1, c1, rfl⟩ := made2_form hE
    have H := Lib.hid hE
    have hb := hE.2
    clear hE HM
    by_cases hlt : k < n
    · have ho := H.out.1
      have hz := hb.size
      have HQ := Lib.hid (show shg s cs k = poly s cs ((k : Int) + 1) from rfl)
      go_wp2_with fail
      (with_reducible refine (l5Poly wr s ((k : Int) + 1) A m c cs hs0 hs1 (by omega) (by omega) (HR.out.on hb) HX.out (by omega)).mono ?_); rintro e w3 ⟨rfl, rfl⟩
      rw [← HQ.out]
      obtain ⟨q, hq⟩ : ∃ q, q = shg s cs k := ⟨_, rfl⟩
      rw [← hq]
      have HQ2 := Lib.hid hq
      clear hq
      go_wp2_with (at_builtin; refine appS _ rfl _ _ rfl w.heap.size _ _ _ rfl (ho.alloc _) _ _ 1 1 [.int .i64 ((k : Int) + 1), .int .i64 q] rfl (rd_two _ _ _ _) (one_two _ _) (by omega) (by simp; omega) ?_; intro v2 w2 ho2 hg2)
      go_roundw
      case rel => exact ⟨k + 1, by omega, by go_num, made2_next H.out (Below.refl _ _) rfl HQ2.out ho2 hg2⟩
      case measure => simp [intOf]; omega
    · have hkn : k = n := by omega
      subst hkn
      go_wp2
      go_ret
      exact ⟨_, _, rfl, H.out.1, H.out.2⟩
theorem specSecret_f (w : World) (s : Int) (A : Option Addr) (m c : Nat) (n : Int) (hm : m ≤ 9223372036854775807) (hmn : ¬ secB m n) :
    Calls Try.prog 20 #[.int .i64 s, .slice A m c, .int .i64 n] w (MadeS 34 2 0 [] w) := by
  have HM := made2_start shf (shg 0 []) w
  by_cases hin : 1 ≤ n ∧ n ≤ 7
  · have h2 : n ≤ (m : Int) := by
      have : ¬ (m : Int) < n := fun h => hmn ⟨hin.1, hin.2, h⟩
      omega
    clear hmn
    go_enter Try.func20, Try.ntmps20
    go_wp2_with fail
    (with_reducible refine (C1.specIn_t n 1 7 _ hin.1 hin.2).mono ?_); rintro e w1 ⟨rfl, rfl⟩
    go_wp2
    go_ret
    exact ⟨_, _, rfl, HM.1, HM.2⟩
  · have h2 : n < 1 ∨ 7 < n := by omega
    clear hmn
    go_enter Try.func20, Try.ntmps20
    go_wp2_with fail
    (with_reducible refine (C1.specIn_f n 1 7 _ h2).mono ?_); rintro e w1 ⟨rfl, rfl⟩
    go_wp2
    go_ret
    exact ⟨_, _, rfl, HM.1, HM.2⟩
/-- append of one share, as a step of a region that draws its order. -/
theorem stepS (w : World) {ops : Array Oper} {o : Oper} {a : Act} {K : Act → World → Prop} {Q : Exit → Act → World → Prop} {E : Prop} (hgd : o.guard = none) (s x : Operand)
    (ho : o.op = .call { callee := .builtin .append, args := #[s, x], argTypes := #[26, 26] }) (base : Nat) (v : Value) (n : Nat) (xs : List Value) (hs : a.eval s = v) (hown : w.ownsRow base 34 2 v n xs)
    (B c : Nat) (y z : Int) (hx : a.eval x = .slice (some ⟨B, 0, none⟩) 1 c) (hc0 : w.cell? ⟨B, 0, none⟩ = some (.int .i64 y)) (hc1 : w.cell? ⟨B, 1, none⟩ = some (.int .i64 z)) (h63 : n + 1 ≤ 4398046511104) (hbase : base ≤ w.heap.size)
    (h : ∀ v' w', w'.ownsRow base 34 2 v' (n + 1) (xs ++ [.int .i64 y, .int .i64 z]) → w.grownBy w' v.ownBlock → K (a.put o.dst v') w') :
    if Region.wanted o (yielded ops a.tmps) = true then Oper.wp Try.prog o a w K Q else E := by
  obtain ⟨i0, hi, hz0, hz1, hz2⟩ := info_parts share_info
  refine step_append_lies w hgd s x 26 ho base 34 i0 (.agg #[.int .i64 0, .int .i64 0]) 2 16 Try.underlying26 hi hz0 hz1 hz2 rfl (by decide) v n xs hs hown ⟨B, 0, none⟩ 1 c [.int .i64 y, .int .i64 z] hx rfl (fun j u hu => ?_) (one_two y z) (by omega) (by unfold maxLen; omega) (by omega) hbase _ rfl (fun g cap w' h1 h2 _ _ => h _ _ h1 h2)
  have hj : j = 0 ∨ j = 1 := by
    rcases Nat.lt_or_ge j 2 with h0 | h0
    · omega
    · rw [List.getElem?_eq_none (by simp; omega)] at hu; cases hu
  rcases hj with rfl | rfl
  · have hu' : Value.int .i64 y = u := by simpa using hu
    subst hu'
    exact hc0
  · have hu' : Value.int .i64 z = u := by simpa using hu
    subst hu'
    exact hc1
theorem cell_al {w : World} {b j : Nat} {v : Value} {o : Obj} (hb : b < w.heap.size) (h : w.cell? ⟨b, j, none⟩ = some v) : (w.alloc o).cell? ⟨b, j, none⟩ = some v := by
  have e : (w.alloc o).heap[b]? = w.heap[b]? := Below.heap_alloc w o b hb
  rw [World.cell?_of_block (a := ⟨b, j, none⟩) e]
  exact h
theorem cell_gr2 {w w2 w3 : World} {E n b j : Nat} {v u : Value} {xs : List Value} {o : Obj} (h : w2.ownsRow w.heap.size E 2 v n xs) (hb : b < w.heap.size) (hb2 : b < w2.heap.size) (hg : (w2.alloc o).grownBy w3 v.ownBlock) (hc : w2.cell? ⟨b, j, none⟩ = some u) : w3.cell? ⟨b, j, none⟩ = some u := by
  have e : w3.heap[b]? = (w2.alloc o).heap[b]? := hg.block b (by simp; omega) (fun e => by have := (h.lt b e.symm).1; omega)
  rw [World.cell?_of_block (a := ⟨b, j, none⟩) e]
  exact cell_al hb2 hc
theorem polyB (w : World) (s x : Int) (A : Option Addr) (n c : Nat) (cs : List Int) (hs0 : -9223372036854775808 ≤ s) (hs1 : s ≤ 9223372036854775807) (hx0 : 0 ≤ x) (hx1 : x ≤ 1018) (hr : Rd w w.heap.size 1 A n (ints .i64 cs)) (hok : okInts cs) (hn : n ≤ 4294967296) :
    Calls Try.prog 44 #[.int .i64 s, .slice A n c, .int .i64 x] w (Gives (.int .i64 (poly s cs x)) w) :=
  (l5Poly w s x A n c cs hs0 hs1 hx0 hx1 hr hok hn).mono fun _ _ ⟨he, hw⟩ => ⟨he, hw ▸ Below.refl _ _⟩
theorem poly_add (y : Int) (cs : List Int) (x : Int) (y0 : 0 ≤ y) (y1 : y ≤ 1018) : (IntKind.i64.wrap (y + poly 0 cs x)).tmod 1019 = poly y cs x := by
  obtain ⟨q0, q1⟩ := poly_in 0 cs x
  have e : IntKind.i64.wrap (y + poly 0 cs x) = y + poly 0 cs x := by rw [IntKind.wrap_i64]; omega
  rw [e, Int.tmod_eq_emod_of_nonneg (by omega)]
  unfold poly
  omega
set_option maxHeartbeats 1600000 in
set_option maxRecDepth 100000 in
theorem specRefresh (w : World) (A B : Option Addr) (n c m d : Nat) (xs cs : List Int) (hr : Rd w w.heap.size 2 A n (ints .i64 xs)) (hok : okInts xs) (hrc : Rd w w.heap.size 1 B m (ints .i64 cs)) (hokc : okInts cs) (hm : m ≤ 4294967296) (ha : are xs n) :
    Calls Try.prog 32 #[.slice A n c, .slice B m d] w (MadeS 34 2 n (ints .i64 (prs (rff xs) (rfg xs cs) n)) w) := by
  have hn7 : n ≤ 7 := ha.2.1
  have HR := Lib.hid hr
  have HX := Lib.hid hok
  have HRC := Lib.hid hrc
  have HXC := Lib.hid hokc
  have HA := Lib.hid ha
  have HM := made2_start (rff xs) (rfg xs cs) w
  have hb0 : Below w.heap.size w (w.alloc (.cells #[] 34)) := (Below.refl _ _).alloc (Nat.le_refl _) _
  clear hr hok hrc hokc ha
  go_enter Try.func32, Try.ntmps32
  go_wp2_with fail
  (with_reducible refine (specAre _ A n c xs true ⟨fun _ => HA.out, fun _ => rfl⟩ (HR.out.on hb0) HX.out (by omega)).mono ?_); rintro e w1 ⟨rfl, b1⟩
  have HM1 : Made2 (rff xs) (rfg xs cs) w 0 (.slice (some ⟨w.heap.size, 0, none⟩) 0 0) w1 := ⟨own_below HM.1 b1, HM.2.trans (b1.mono HM.2.size)⟩
  clear HM
  go_wp2
  go_loopw [5, 6] (fun v i wr => ∃ k : Nat, k ≤ n ∧ i = .int .i64 (k : Int) ∧ Made2 (rff xs) (rfg xs cs) w k v wr) (fun _ i _ => n - (intOf i).toNat)
  case atStart => exact ⟨0, by omega, rfl, HM1⟩
  case round =>
    obtain ⟨k, hk, rfl, hE⟩ := hrel
    obtain ⟨A1, c1, rfl⟩ := made2_form hE
    have H := Lib.hid hE
    have hb := hE.2
    clear hE HM1 b1 hb0
    by_cases hlt : k < n
    · obtain ⟨g, off, rfl, hgl, hcell, hcellv⟩ := Rd2.at_ (HR.out.below hb) hlt
      have hgood := HA.out.2.2.1 k hlt
      unfold good at hgood
      have HF := Lib.hid (show rff xs k = xs.getD (k * 2) 0 from rfl)
      have HG := Lib.hid (show rfg xs cs k = poly (xs.getD (k * 2 + 1) 0) cs (xs.getD (k * 2) 0) from rfl)
      obtain ⟨x, hx⟩ : ∃ x, x = xs.getD (k * 2) 0 := ⟨_, rfl⟩
      obtain ⟨y, hy⟩ : ∃ y, y = xs.getD (k * 2 + 1) 0 := ⟨_, rfl⟩
      rw [← hx] at hcell hgood
      rw [← hy] at hcellv hgood
      rw [← hx] at HF HG
      rw [← hy] at HG
      clear hx hy
      obtain ⟨x1, x7, y0, y1⟩ := hgood
      have HPA := Lib.hid (poly_add y cs x y0 y1)
      obtain ⟨q, hq⟩ : ∃ q, q = poly 0 cs x := ⟨_, rfl⟩
      rw [← hq] at HPA
      have HQ := Lib.hid hq
      clear hq
      have hz := hb.size
      have hgr : g < wr.heap.size := by omega
      have hki : (k : Int) < n := by omega
      go_wp2_with fail
      go_region_held3 (fun wx => wx.cell? ⟨g, off + k * 2, none⟩ = some (.int .i64 x) ∧ wx.cell? ⟨g, off + k * 2 + 1, none⟩ = some (.int .i64 y)) (first | exact ⟨hcell, hcellv⟩ | exact ⟨hcell2, hcellv2⟩ | exact ⟨cell_al hgr2 hcell2, cell_al hgr2 hcellv2⟩ | exact ⟨hcell3, hcellv3⟩) (first | (go_at_call 44; refine (polyB _ 0 x B m d cs (by omega) (by omega) (by omega) (by omega) (HRC.out.on hb.drew) HXC.out hm).mono ?_; rintro e w2 ⟨rfl, b2⟩; rw [← HQ.out]; have hcell2 : w2.cell? ⟨g, off + k * 2, none⟩ = some (.int .i64 x) := (b2.cell (p := ⟨g, off + k * 2, none⟩) hgr).trans hcell; have hcellv2 : w2.cell? ⟨g, off + k * 2 + 1, none⟩ = some (.int .i64 y) := (b2.cell (p := ⟨g, off + k * 2 + 1, none⟩) hgr).trans hcellv; have hgr2 : g < w2.heap.size := Nat.lt_of_lt_of_le hgr b2.size; have hbw2 : Below wr.heap.size wr w2 := (drewN_below wr 1 _).trans b2; have ho2 := Lib.hid (own_below H.out.1 hbw2); have hz2 : w.heap.size ≤ w2.heap.size := Nat.le_trans hz hbw2.size) | (refine stepS _ rfl (.tmp 18) (.tmp 39) rfl w.heap.size (.slice A1 k c1) k _ (by simp [Act.eval]) (ho2.out.alloc _) w2.heap.size 1 _ _ (by simp [Act.eval]) (new_cell w2 _ _ 0) (new_cell w2 _ _ 1) (by omega) (by simp; omega) ?_; intro v3 w3 ho3 hg3; have hcell3 : w3.cell? ⟨g, off + k * 2, none⟩ = some (.int .i64 x) := cell_gr2 ho2.out hgl hgr2 hg3 hcell2; have hcellv3 : w3.cell? ⟨g, off + k * 2 + 1, none⟩ = some (.int .i64 y) := cell_gr2 ho2.out hgl hgr2 hg3 hcellv2))
      go_wp2
      go_roundw
      case rel => exact ⟨k + 1, by omega, by go_num, made2_next H.out hbw2 HF.out.symm (by rw [HPA.out, HG.out]) ho3 hg3⟩
      case measure => simp [intOf]; omega
    · have hkn : k = n := by omega
      subst hkn
      have hd : decide (k < k) = false := by simp
      go_wp2
      go_ret
      exact ⟨_, _, rfl, H.out.1, H.out.2⟩
set_option maxRecDepth 100000 in
theorem specRefresh_f (w : World) (A B : Option Addr) (n c m d : Nat) (xs : List Int) (hr : Rd w w.heap.size 2 A n (ints .i64 xs)) (hok : okInts xs) (hn : n ≤ 4294967296) (ha : ¬ are xs n) :
    Calls Try.prog 32 #[.slice A n c, .slice B m d] w (MadeS 34 2 0 [] w) := by
  have HR := Lib.hid hr
  have HX := Lib.hid hok
  have HA := Lib.hid ha
  have HM := made2_start shf (shg 0 []) w
  have hb0 : Below w.heap.size w (w.alloc (.cells #[] 34)) := (Below.refl _ _).alloc (Nat.le_refl _) _
  clear hr hok ha
  go_enter Try.func32, Try.ntmps32
  go_wp2_with fail
  (with_reducible refine (specAre _ A n c xs false ⟨fun h => (by cases h), fun h => absurd h HA.out⟩ (HR.out.on hb0) HX.out hn).mono ?_); rintro e w1 ⟨rfl, b1⟩
  have ho := own_below HM.1 b1
  have hbb := HM.2.trans (b1.mono HM.2.size)
  clear HM b1 hb0
  go_wp2
  go_ret
  exact ⟨_, _, rfl, ho, hbb⟩
end Go.Proofs.Ythmljddgaabnhaa.C5g
