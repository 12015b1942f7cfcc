/-
  Contracts of chapter 5's shares, of the program: ShareSecret, RefreshShares, MissingShare.
-/
import Derived.Test.YthmljddgaabnhaaC5d
namespace Go.Proofs.Ythmljddgaabnhaa.C5e
open Go.ChangeShapes Go.WideShapes Go.ChangeAt Go.RowKit
open S0 S1 S3 C3 M4 M5 C5 C5b C5c C5d
set_option linter.unusedVariables false
/-- n pairs, in a row. -/
def prs (f g : Nat → Int) : Nat → List Int
  | 0 => []
  | n + 1 => prs f g n ++ [f n, g n]
theorem prs_len (f g : Nat → Int) (n : Nat) : (prs f g n).length = n * 2 := by
  induction n with
  | zero => rfl
  | succ n ih => unfold prs; rw [List.length_append, ih]; simp; omega
theorem prs_ix (f g : Nat → Int) (n k : Nat) (hk : k < n) : (prs f g n).getD (k * 2) 0 = f k := by
  induction n with
  | zero => omega
  | succ n ih =>
    unfold prs
    rw [List.getD_eq_getElem?_getD]
    by_cases h : k < n
    · rw [List.getElem?_append_left (by rw [prs_len]; omega), ← List.getD_eq_getElem?_getD]; exact ih h
    · obtain rfl : k = n := by omega
      rw [List.getElem?_append_right (by rw [prs_len]; omega), prs_len]
      simp
theorem prs_vl (f g : Nat → Int) (n k : Nat) (hk : k < n) : (prs f g n).getD (k * 2 + 1) 0 = g k := by
  induction n with
  | zero => omega
  | succ n ih =>
    unfold prs
    rw [List.getD_eq_getElem?_getD]
    by_cases h : k < n
    · rw [List.getElem?_append_left (by rw [prs_len]; omega), ← List.getD_eq_getElem?_getD]; exact ih h
    · obtain rfl : k = n := by omega
      rw [List.getElem?_append_right (by rw [prs_len]; omega), prs_len, show k * 2 + 1 - k * 2 = 1 by omega]
      rfl
theorem prs_ixs (f g : Nat → Int) (n : Nat) : ixs (prs f g n) n = (List.range n).map f := by
  unfold ixs
  exact List.map_congr_left fun k hk => prs_ix f g n k (by simpa using hk)
theorem prs_vls (f g : Nat → Int) (n : Nat) : vls (prs f g n) n = (List.range n).map g := by
  unfold vls
  exact List.map_congr_left fun k hk => prs_vl f g n k (by simpa using hk)
theorem appS (w : World) {ops : Array Oper} {rest : List Oper} {o : Oper} {a : Act} {Q : Exit → Act → World → Prop} (hgd : o.guard = none) (s x : Operand)
    (ho : o.op = .call { callee := .builtin .append, args := #[s, x], argTypes := #[26, 26] }) (base : Nat) (v : Value) (n : Nat) (xs : List Value) (hs : a.eval s = v) (hown : w.ownsRow base 34 2 v n xs)
    (B : Nat) (A : Option Addr) (m c : Nat) (news : List Value) (hx : a.eval x = .slice A m c) (hr : Rd w B 2 A m news) (h1 : ∀ u ∈ news, u.oneCell' = true) (h63 : n + m ≤ 4398046511104) (hbase : base ≤ w.heap.size)
    (h : ∀ v' w', w'.ownsRow base 34 2 v' (n + m) (xs ++ news) → w.grownBy w' v.ownBlock → wpList Try.prog ops Q rest (a.put o.dst v') w') : wpList Try.prog ops Q (o :: rest) a w := by
  obtain ⟨i0, hi, hz0, hz1, hz2⟩ := info_parts share_info
  exact wpList_app w hgd s x 26 ho base 34 i0 (.agg #[.int .i64 0, .int .i64 0]) 2 16 Try.underlying26 hi hz0 hz1 hz2 rfl (by decide) v n xs hs hown B A m c news hx hr h1 (by unfold maxLen; omega) (by omega) hbase h
theorem rd_two (w : World) (u v : Value) (t : TypeId) : Rd (w.alloc (.cells #[u, v] t)) (w.alloc (.cells #[u, v] t)).heap.size 2 (some ⟨w.heap.size, 0, none⟩) 1 [u, v] :=
  ⟨rfl, fun _ => ⟨_, _, rfl, by simp, fun j hj => by rw [Nat.zero_add, new_cell]; simp⟩⟩
theorem rd_two_at (w : World) (u v : Value) (t : TypeId) (g : Nat) (hg : g = w.heap.size) : Rd (w.alloc (.cells #[u, v] t)) (w.alloc (.cells #[u, v] t)).heap.size 2 (some ⟨g, 0, none⟩) 1 [u, v] := hg ▸ rd_two w u v t
theorem one_two (x y : Int) : ∀ u ∈ [Value.int .i64 x, Value.int .i64 y], u.oneCell' = true := ints_oneCell .i64 [x, y]
theorem own_lit2 (w : World) (cs : Array Value) (n base : Nat) (E : TypeId) (hb : base ≤ w.heap.size) (hn : cs.size = n * 2) (hm : n ≤ maxLen) : (w.alloc (.cells cs E)).ownsRow base E 2 (.slice (some ⟨w.heap.size, 0, none⟩) n n) n cs.toList :=
  w.ownsRow_lit cs n hb hm hn
/-- Behind k shares of a list in the making. -/
def Made2 (f g : Nat → Int) (w : World) (k : Nat) (v : Value) (wr : World) : Prop :=
  wr.ownsRow w.heap.size 34 2 v k (ints .i64 (prs f g k)) ∧ Below w.heap.size w wr
theorem made2_start (f g : Nat → Int) (w : World) : Made2 f g w 0 (.slice (some ⟨w.heap.size, 0, none⟩) 0 0) (w.alloc (.cells #[] 34)) :=
  ⟨own_lit2 w #[] 0 w.heap.size 34 (Nat.le_refl _) rfl (by unfold maxLen; omega), (Below.refl _ _).alloc (Nat.le_refl _) _⟩
theorem made2_next {f g : Nat → Int} {w wr w1 w2 : World} {k : Nat} {v v2 : Value} {x y : Int} {o : Obj} (h : Made2 f g w k v wr) (hb : Below wr.heap.size wr w1) (hx : x = f k) (hy : y = g k)
    (ho : w2.ownsRow w.heap.size 34 2 v2 (k + 1) (ints .i64 (prs f g k) ++ [.int .i64 x, .int .i64 y])) (hg : (w1.alloc o).grownBy w2 v.ownBlock) : Made2 f g w (k + 1) v2 w2 := by
  have hb1 : Below w.heap.size w w1 := h.2.trans (hb.mono h.2.size)
  refine ⟨?_, (hb1.alloc hb1.size o).grown hg (by have := hb1.size; simp; omega) (fun j hj => (h.1.lt j hj).1)⟩
  have e : ints .i64 (prs f g (k + 1)) = ints .i64 (prs f g k) ++ [.int .i64 x, .int .i64 y] := by
    have : prs f g (k + 1) = prs f g k ++ [x, y] := by rw [hx, hy]; rfl
    rw [this, ← ints_app]; rfl
  rw [e]
  exact ho
theorem made2_form {f g : Nat → Int} {w wr : World} {k : Nat} {v : Value} (h : Made2 f g w k v wr) : ∃ A c, v = .slice A k c := own_nil_form h.1
/-- What ShareSecret gives. -/
def secB (m n : Int) : Prop := 1 ≤ n ∧ n ≤ 7 ∧ m < n
def shf (k : Nat) : Int := (k : Int) + 1
def shg (s : Int) (cs : List Int) (k : Nat) : Int := poly s cs ((k : Int) + 1)
set_option maxHeartbeats 1600000 in
set_option maxRecDepth 100000 in
theorem shareSecret (w : World) (s : Int) (A : Option Addr) (m c n : Nat) (cs : List Int) (hs0 : -9223372036854775808 ≤ s) (hs1 : s ≤ 9223372036854775807) (hr : Rd w w.heap.size 1 A m (ints .i64 cs)) (hok : okInts cs) (hn : n ≤ 7) (hmn : m < n) :
    Calls Try.prog 13 #[.int .i64 s, .slice A m c, .int .i64 n] w (MadeS 34 2 n (ints .i64 (prs shf (shg s cs) n)) w) := by
  have HR := Lib.hid hr
  have HX := Lib.hid hok
  have HM := made2_start shf (shg s cs) w
  clear hr hok
  go_enter Try.func13, Try.ntmps13
  go_wp2_with fail
  (with_reducible refine (C1.implIn_t (n : Int) 1 7 _ (by omega) (by omega)).mono ?_); rintro e w1 ⟨rfl, rfl⟩
  have hmi : (m : Int) < (n : Int) := by omega
  have hdm : decide (n ≤ m) = false := by simp; omega
  go_wp2
  go_loopw [7, 8] (fun v i wr => ∃ k : Nat, k ≤ n ∧ i = .int .i64 ((k : Int) + 1) ∧ Made2 shf (shg s cs) w k v wr) (fun _ i _ => n + 1 - (intOf i).toNat)
  case atStart => exact ⟨0, by omega, rfl, HM⟩
  case round =>
    obtain ⟨k, hk, rfl, hE⟩ := hrel
    obtain ⟨A1, c1, rfl⟩ := made2_form hE
    have H := Lib.hid hE
    have hb := hE.2
    clear hE HM
    by_cases hlt : k < n
    · go_wp2_with fail
      (with_reducible refine (polynomial _ s ((k : Int) + 1) A m c cs hs0 hs1 (by omega) (by omega) (HR.out.on hb) HX.out (by omega)).mono ?_); rintro e w3 ⟨rfl, b3⟩
      have ho := own_below H.out.1 b3
      have hz := hb.size
      have hz3 := b3.size
      obtain ⟨q, hq⟩ : ∃ q, q = poly s cs ((k : Int) + 1) := ⟨_, rfl⟩
      rw [← hq]
      have HQ := Lib.hid hq
      clear hq
      go_wp2_with (at_builtin; refine appS _ rfl _ _ rfl w.heap.size _ _ _ rfl (ho.alloc _) _ _ 1 1 [.int .i64 ((k : Int) + 1), .int .i64 q] rfl (rd_two _ _ _ _) (one_two _ _) (by omega) (by simp; omega) ?_; intro v2 w2 ho2 hg2)
      go_roundw
      case rel => exact ⟨k + 1, by omega, by go_num, made2_next H.out b3 rfl HQ.out ho2 hg2⟩
      case measure => simp [intOf]; omega
    · have hkn : k = n := by omega
      subst hkn
      go_wp2
      go_ret
      exact ⟨_, _, rfl, H.out.1, H.out.2⟩
theorem shareSecret_f (w : World) (s : Int) (A : Option Addr) (m c : Nat) (n : Int) (hm : m ≤ 9223372036854775807) (hmn : ¬ secB m n) :
    Calls Try.prog 13 #[.int .i64 s, .slice A m c, .int .i64 n] w (MadeS 34 2 0 [] w) := by
  have HM := made2_start shf (shg 0 []) w
  by_cases hin : 1 ≤ n ∧ n ≤ 7
  · have h2 : n ≤ (m : Int) := by
      have : ¬ (m : Int) < n := fun h => hmn ⟨hin.1, hin.2, h⟩
      omega
    clear hmn
    go_enter Try.func13, Try.ntmps13
    go_wp2_with fail
    (with_reducible refine (C1.implIn_t n 1 7 _ hin.1 hin.2).mono ?_); rintro e w1 ⟨rfl, rfl⟩
    go_wp2
    go_ret
    exact ⟨_, _, rfl, HM.1, HM.2⟩
  · have h2 : n < 1 ∨ 7 < n := by omega
    clear hmn
    go_enter Try.func13, Try.ntmps13
    go_wp2_with fail
    (with_reducible refine (C1.implIn_f n 1 7 _ h2).mono ?_); rintro e w1 ⟨rfl, rfl⟩
    go_wp2
    go_ret
    exact ⟨_, _, rfl, HM.1, HM.2⟩
/-- What RefreshShares gives. -/
def rff (xs : List Int) (k : Nat) : Int := xs.getD (k * 2) 0
def rfg (xs cs : List Int) (k : Nat) : Int := poly (xs.getD (k * 2 + 1) 0) cs (xs.getD (k * 2) 0)
set_option maxHeartbeats 1600000 in
set_option maxRecDepth 100000 in
theorem refresh (w : World) (A B : Option Addr) (n c m d : Nat) (xs cs : List Int) (hr : Rd w w.heap.size 2 A n (ints .i64 xs)) (hok : okInts xs) (hrc : Rd w w.heap.size 1 B m (ints .i64 cs)) (hokc : okInts cs) (hm : m ≤ 4294967296) (ha : are xs n) :
    Calls Try.prog 15 #[.slice A n c, .slice B m d] w (MadeS 34 2 n (ints .i64 (prs (rff xs) (rfg xs cs) n)) w) := by
  have hn7 : n ≤ 7 := ha.2.1
  have HR := Lib.hid hr
  have HX := Lib.hid hok
  have HRC := Lib.hid hrc
  have HXC := Lib.hid hokc
  have HA := Lib.hid ha
  have HM := made2_start (rff xs) (rfg xs cs) w
  have hb0 : Below w.heap.size w (w.alloc (.cells #[] 34)) := (Below.refl _ _).alloc (Nat.le_refl _) _
  clear hr hok hrc hokc ha
  go_enter Try.func15, Try.ntmps15
  go_wp2_with fail
  (with_reducible refine (areShares _ A n c xs true ⟨fun _ => HA.out, fun _ => rfl⟩ (HR.out.on hb0) HX.out (by omega)).mono ?_); rintro e w1 ⟨rfl, b1⟩
  have HM1 : Made2 (rff xs) (rfg xs cs) w 0 (.slice (some ⟨w.heap.size, 0, none⟩) 0 0) w1 := ⟨own_below HM.1 b1, HM.2.trans (b1.mono HM.2.size)⟩
  clear HM
  go_wp2
  go_loopw [5, 15] (fun v i wr => ∃ k : Nat, k ≤ n ∧ i = .int .i64 (k : Int) ∧ Made2 (rff xs) (rfg xs cs) w k v wr) (fun _ i _ => n - (intOf i).toNat)
  case atStart => exact ⟨0, by omega, rfl, HM1⟩
  case round =>
    obtain ⟨k, hk, rfl, hE⟩ := hrel
    obtain ⟨A1, c1, rfl⟩ := made2_form hE
    have H := Lib.hid hE
    have hb := hE.2
    clear hE HM1
    by_cases hlt : k < n
    · obtain ⟨g, off, rfl, hgl, hcell, hcellv⟩ := Rd2.at_ (HR.out.below hb) hlt
      have hgood := HA.out.2.2.1 k hlt
      unfold good at hgood
      have HF := Lib.hid (show rff xs k = xs.getD (k * 2) 0 from rfl)
      have HG := Lib.hid (show rfg xs cs k = poly (xs.getD (k * 2 + 1) 0) cs (xs.getD (k * 2) 0) from rfl)
      obtain ⟨x, hx⟩ : ∃ x, x = xs.getD (k * 2) 0 := ⟨_, rfl⟩
      obtain ⟨y, hy⟩ : ∃ y, y = xs.getD (k * 2 + 1) 0 := ⟨_, rfl⟩
      rw [← hx] at hcell hgood
      rw [← hy] at hcellv hgood
      rw [← hx] at HF HG
      rw [← hy] at HG
      clear hx hy
      obtain ⟨x1, x7, y0, y1⟩ := hgood
      have hz := hb.size
      have hgr : g < wr.heap.size := by omega
      have hbal : Below w.heap.size w (wr.alloc (.cells #[.int .i64 x, .int .i64 y] 34)) := hb.alloc hz _
      have b9 : Below wr.heap.size wr (wr.alloc (.cells #[.int .i64 x, .int .i64 y] 34)) := (Below.refl _ _).alloc (Nat.le_refl _) _
      go_wp2_with fail
      (with_reducible refine (polynomial _ y x B m d cs (by omega) (by omega) (by omega) (by omega) (HRC.out.on hbal) HXC.out hm).mono ?_); rintro e w3 ⟨rfl, b3⟩
      obtain ⟨q, hq⟩ : ∃ q, q = poly y cs x := ⟨_, rfl⟩
      rw [← hq]
      rw [← hq] at HG
      clear hq
      have hbox := own_below (own_lit2 wr #[.int .i64 x, .int .i64 y] 1 wr.heap.size 34 (Nat.le_refl _) rfl (by unfold maxLen; omega)) b3
      obtain ⟨hg3, _, d0, f0⟩ := stored_at2 (kd := .i64) (xs := [x, y]) hbox 0 (by omega)
      obtain ⟨_, _, d1, f1⟩ := stored_at2 (kd := .i64) (xs := [x, y]) hbox 1 (by omega)
      have d0' : w3.cell? ⟨wr.heap.size, 0, none⟩ = some (.int .i64 x) := d0
      have d1' : w3.cell? ⟨wr.heap.size, 1, none⟩ = some (.int .i64 y) := d1
      have b4 : Below wr.heap.size wr (w3.setCell ⟨wr.heap.size, 1, none⟩ (.int .i64 q)) := (b9.trans (b3.mono b9.size)).setCell (Nat.le_refl _) _
      have ho := own_below H.out.1 b4
      have hz4 := b4.size
      clear d0 d1 hbox b9 b3 hbal hb0 b1
      go_wp2_with (at_builtin; refine appS _ rfl _ _ rfl w.heap.size _ _ _ rfl (ho.alloc _) _ _ 1 1 [.int .i64 x, .int .i64 q] rfl (rd_two_at _ _ _ _ _ (by simp)) (one_two _ _) (by omega) (by simp; omega) ?_; intro v2 w2 ho2 hg2)
      go_roundw
      case rel => exact ⟨k + 1, by omega, by go_num, made2_next H.out b4 HF.out.symm HG.out.symm ho2 hg2⟩
      case measure => simp [intOf]; omega
    · have hkn : k = n := by omega
      subst hkn
      have hd : decide (k < k) = false := by simp
      go_wp2
      go_ret
      exact ⟨_, _, rfl, H.out.1, H.out.2⟩
set_option maxRecDepth 100000 in
theorem refresh_f (w : World) (A B : Option Addr) (n c m d : Nat) (xs : List Int) (hr : Rd w w.heap.size 2 A n (ints .i64 xs)) (hok : okInts xs) (hn : n ≤ 4294967296) (ha : ¬ are xs n) :
    Calls Try.prog 15 #[.slice A n c, .slice B m d] w (MadeS 34 2 0 [] w) := by
  have HR := Lib.hid hr
  have HX := Lib.hid hok
  have HA := Lib.hid ha
  have HM := made2_start shf (shg 0 []) w
  have hb0 : Below w.heap.size w (w.alloc (.cells #[] 34)) := (Below.refl _ _).alloc (Nat.le_refl _) _
  clear hr hok ha
  go_enter Try.func15, Try.ntmps15
  go_wp2_with fail
  (with_reducible refine (areShares _ A n c xs false ⟨fun h => (by cases h), fun h => absurd h HA.out⟩ (HR.out.on hb0) HX.out hn).mono ?_); rintro e w1 ⟨rfl, b1⟩
  have ho := own_below HM.1 b1
  have hbb := HM.2.trans (b1.mono HM.2.size)
  clear HM b1 hb0
  go_wp2
  go_ret
  exact ⟨_, _, rfl, ho, hbb⟩
/-- When MissingShare has an answer. -/
def mis (xs : List Int) (n : Nat) (i : Int) : Prop := (n = 0 ∨ are xs n) ∧ 1 ≤ i ∧ i ≤ 7 ∧ ¬ ∃ k, k < n ∧ xs.getD (k * 2) 0 = i
/-- The result's cells, wherever the call has come to. -/
theorem box_at {w w' : World} (hb : Below (w.heap.size + 1) (w.alloc (.cells #[.int .i64 0, .int .i64 0] 34)) w') :
    w.heap.size < w'.heap.size ∧ w'.cell? ⟨w.heap.size, 0, none⟩ = some (.int .i64 0) ∧ w'.cell? ⟨w.heap.size, 1, none⟩ = some (.int .i64 0) ∧ w'.frozen? ⟨w.heap.size, 0, none⟩ = false ∧ w'.frozen? ⟨w.heap.size, 1, none⟩ = false := by
  have h : w'.ownsRow w.heap.size 34 2 (.slice (some ⟨w.heap.size, 0, none⟩) 1 1) 1 (ints .i64 [0, 0]) := own_below (own_lit2 w #[.int .i64 0, .int .i64 0] 1 w.heap.size 34 (Nat.le_refl _) rfl (by unfold maxLen; omega)) (hb.mono (by simp))
  obtain ⟨h1, _, h2, h3⟩ := stored_at2 h 0 (by omega)
  obtain ⟨_, _, h4, h5⟩ := stored_at2 h 1 (by omega)
  exact ⟨h1, h2, h4, h3, h5⟩
theorem append_ok {xs : List Int} (s : Int) (hs0 : -9223372036854775808 ≤ s) (hs1 : s ≤ 9223372036854775807) (h : okInts xs) : okInts ([0, s] ++ xs) := by
  intro x hx
  simp only [List.cons_append, List.nil_append, List.mem_cons] at hx
  rcases hx with rfl | rfl | hx
  · omega
  · omega
  · exact h x hx
theorem set2 (w : World) (g : Nat) (x y : Value) (hg : g < w.heap.size) {u v : Value} (h0 : w.cell? ⟨g, 0, none⟩ = some u) (h1 : w.cell? ⟨g, 1, none⟩ = some v) :
    ((w.setCell ⟨g, 0, none⟩ x).setCell ⟨g, 1, none⟩ y).cell? ⟨g, 0, none⟩ = some x ∧ ((w.setCell ⟨g, 0, none⟩ x).setCell ⟨g, 1, none⟩ y).cell? ⟨g, 1, none⟩ = some y := by
  have ne1 : (⟨g, 1, none⟩ : Addr) ≠ ⟨g, 0, none⟩ := fun h => by injection h with _ h2 _; exact absurd h2 (by omega)
  have ne0 : (⟨g, 0, none⟩ : Addr) ≠ ⟨g, 1, none⟩ := fun h => ne1 h.symm
  have e1 : (w.setCell ⟨g, 0, none⟩ x).cell? ⟨g, 1, none⟩ = some v := by rw [World.cell?_setCell_other _ _ _ _ ne0]; exact h1
  exact ⟨by rw [World.cell?_setCell_other _ _ _ _ ne1]; exact World.cell?_setCell_same _ _ _ h0, World.cell?_setCell_same _ _ _ e1⟩
set_option maxHeartbeats 1600000 in
set_option maxRecDepth 100000 in
theorem missing_0 (w : World) (s i : Int) (A : Option Addr) (n c : Nat) (xs : List Int) (hs0 : -9223372036854775808 ≤ s) (hs1 : s ≤ 9223372036854775807) (hr : Rd w w.heap.size 2 A n (ints .i64 xs)) (hok : okInts xs) (hm : mis xs n i) (hn : n = 0) :
    Calls Try.prog 18 #[.slice A n c, .int .i64 s, .int .i64 i] w (Gives (.tuple #[.agg #[.int .i64 i, .int .i64 (thr ([0, s] ++ xs) (1 + n) i)], .bool true]) w) := by
  have HR := Lib.hid hr
  have HX := Lib.hid hok
  have hb0 : Below w.heap.size w (w.alloc (.cells #[.int .i64 0, .int .i64 0] 34)) := (Below.refl _ _).alloc (Nat.le_refl _) _
  have hz0 : (w.alloc (.cells #[.int .i64 0, .int .i64 0] 34)).heap.size = w.heap.size + 1 := by simp
  clear hr hok
  obtain ⟨_, hi0, hi1, hno⟩ := hm
  have HN := Lib.hid hno
  have hnd : decide (0 < n) = false := by simp; omega
  have hn7 : n ≤ 7 := by omega
  obtain ⟨V, hV⟩ : ∃ V, V = thr ([0, s] ++ xs) (1 + n) i := ⟨_, rfl⟩
  rw [← hV]
  have HV := Lib.hid hV
  clear hno hn hV
  go_enter Try.func18, Try.ntmps18
  go_wp2_with fail
  (with_reducible refine (C1.implIn_t i 1 7 _ hi0 hi1).mono ?_); rintro e w5 ⟨rfl, rfl⟩
  go_wp2_with fail
  (with_reducible refine (hasIndex _ i A n c xs false ⟨fun h => (by cases h), fun h => absurd h HN.out⟩ (HR.out.on hb0) (by omega)).mono ?_); rintro e w2 ⟨rfl, b2⟩
  have hb2 : Below w.heap.size w w2 := hb0.trans (b2.mono hb0.size)
  have ho0 := own_lit2 w2 #[.int .i64 0, .int .i64 s] 1 w2.heap.size 34 (Nat.le_refl _) rfl (by unfold maxLen; omega)
  have hb3 : Below w2.heap.size w2 (w2.alloc (.cells #[.int .i64 0, .int .i64 s] 34)) := (Below.refl _ _).alloc (Nat.le_refl _) _
  have HB2 := Lib.hid (show Below (w.heap.size + 1) (w.alloc (.cells #[.int .i64 0, .int .i64 0] 34)) w2 from (hz0 ▸ b2))
  go_wp2_with (at_builtin; refine appS _ rfl _ _ rfl w2.heap.size (.slice (some ⟨w2.heap.size, 0, none⟩) 1 1) 1 _ rfl ho0 _ A n c _ rfl ((HR.out.on hb2).on hb3) (ints_one _ _) (by omega) hb3.size ?_; intro v3 w3 ho3 hg3; obtain ⟨A3, c3, rfl⟩ := own_nil_form ho3)
  have hb4 : Below w2.heap.size w2 w3 := hb3.grown hg3 hb3.size (fun k hk => by cases hk; exact Nat.le_refl _)
  have hr3 : Rd w3 w3.heap.size 2 A3 (1 + n) (ints .i64 ([0, s] ++ xs)) := by rw [← ints_app]; exact Rd.own ho3
  have HR3 := Lib.hid hr3
  clear hr3 ho3 hg3 ho0 hb3
  go_wp2_with fail
  (with_reducible refine (through _ i A3 (1 + n) c3 ([0, s] ++ xs) (by omega) (by omega) HR3.out (append_ok s hs0 hs1 HX.out) (by omega)).mono ?_); rintro e w4 ⟨rfl, b4⟩
  rw [← HV.out]
  have hb5 : Below w2.heap.size w2 w4 := hb4.trans (b4.mono hb4.size)
  have hw1 : w.heap.size + 1 ≤ w2.heap.size := by have := HB2.out.size; omega
  obtain ⟨g0, g1, g2, g3, g4⟩ := box_at (HB2.out.trans (hb5.mono hw1))
  have HW := Lib.hid (hb2.trans (hb5.mono hb2.size))
  clear hb5 hb4 b4 hb2 hb0 b2
  go_wp2
  obtain ⟨d0, d1⟩ := set2 w4 w.heap.size (.int .i64 i) (.int .i64 V) g0 g1 g2
  refine bodyPost_ret (v := .tuple #[.agg #[.int .i64 i, .int .i64 V], .bool true]) (by simp [results, Try.results18, go_sem, d0, d1]) rfl ⟨rfl, ?_⟩
  exact (HW.out.setCell (Nat.le_refl _) _).setCell (Nat.le_refl _) _
set_option maxHeartbeats 1600000 in
set_option maxRecDepth 100000 in
theorem missing_1 (w : World) (s i : Int) (A : Option Addr) (n c : Nat) (xs : List Int) (hs0 : -9223372036854775808 ≤ s) (hs1 : s ≤ 9223372036854775807) (hr : Rd w w.heap.size 2 A n (ints .i64 xs)) (hok : okInts xs) (hm : mis xs n i) (hn : 0 < n) :
    Calls Try.prog 18 #[.slice A n c, .int .i64 s, .int .i64 i] w (Gives (.tuple #[.agg #[.int .i64 i, .int .i64 (thr ([0, s] ++ xs) (1 + n) i)], .bool true]) w) := by
  have HR := Lib.hid hr
  have HX := Lib.hid hok
  have hb0 : Below w.heap.size w (w.alloc (.cells #[.int .i64 0, .int .i64 0] 34)) := (Below.refl _ _).alloc (Nat.le_refl _) _
  have hz0 : (w.alloc (.cells #[.int .i64 0, .int .i64 0] 34)).heap.size = w.heap.size + 1 := by simp
  clear hr hok
  obtain ⟨ha0, hi0, hi1, hno⟩ := hm
  have ha : are xs n := ha0.resolve_left (by omega)
  have hn7 : n ≤ 7 := ha.2.1
  have HA := Lib.hid ha
  have HN := Lib.hid hno
  obtain ⟨V, hV⟩ : ∃ V, V = thr ([0, s] ++ xs) (1 + n) i := ⟨_, rfl⟩
  rw [← hV]
  have HV := Lib.hid hV
  clear hno ha ha0 hV
  go_enter Try.func18, Try.ntmps18
  go_wp2_with fail
  (with_reducible refine (areShares _ A n c xs true ⟨fun _ => HA.out, fun _ => rfl⟩ (HR.out.on hb0) HX.out (by omega)).mono ?_); rintro e w1 ⟨rfl, b1⟩
  have hb1 : Below w.heap.size w w1 := hb0.trans (b1.mono hb0.size)
  go_wp2_with fail
  (with_reducible refine (C1.implIn_t i 1 7 _ hi0 hi1).mono ?_); rintro e w5 ⟨rfl, rfl⟩
  go_wp2_with fail
  (with_reducible refine (hasIndex _ i A n c xs false ⟨fun h => (by cases h), fun h => absurd h HN.out⟩ (HR.out.on hb1) (by omega)).mono ?_); rintro e w2 ⟨rfl, b2⟩
  have hb2 : Below w.heap.size w w2 := hb1.trans (b2.mono hb1.size)
  have ho0 := own_lit2 w2 #[.int .i64 0, .int .i64 s] 1 w2.heap.size 34 (Nat.le_refl _) rfl (by unfold maxLen; omega)
  have hb3 : Below w2.heap.size w2 (w2.alloc (.cells #[.int .i64 0, .int .i64 s] 34)) := (Below.refl _ _).alloc (Nat.le_refl _) _
  have HB2 := Lib.hid (show Below (w.heap.size + 1) (w.alloc (.cells #[.int .i64 0, .int .i64 0] 34)) w2 from (hz0 ▸ b1.trans (b2.mono b1.size)))
  go_wp2_with (at_builtin; refine appS _ rfl _ _ rfl w2.heap.size (.slice (some ⟨w2.heap.size, 0, none⟩) 1 1) 1 _ rfl ho0 _ A n c _ rfl ((HR.out.on hb2).on hb3) (ints_one _ _) (by omega) hb3.size ?_; intro v3 w3 ho3 hg3; obtain ⟨A3, c3, rfl⟩ := own_nil_form ho3)
  have hb4 : Below w2.heap.size w2 w3 := hb3.grown hg3 hb3.size (fun k hk => by cases hk; exact Nat.le_refl _)
  have hr3 : Rd w3 w3.heap.size 2 A3 (1 + n) (ints .i64 ([0, s] ++ xs)) := by rw [← ints_app]; exact Rd.own ho3
  have HR3 := Lib.hid hr3
  clear hr3 ho3 hg3 ho0 hb3
  go_wp2_with fail
  (with_reducible refine (through _ i A3 (1 + n) c3 ([0, s] ++ xs) (by omega) (by omega) HR3.out (append_ok s hs0 hs1 HX.out) (by omega)).mono ?_); rintro e w4 ⟨rfl, b4⟩
  rw [← HV.out]
  have hb5 : Below w2.heap.size w2 w4 := hb4.trans (b4.mono hb4.size)
  have hw1 : w.heap.size + 1 ≤ w2.heap.size := by have := HB2.out.size; omega
  obtain ⟨g0, g1, g2, g3, g4⟩ := box_at (HB2.out.trans (hb5.mono hw1))
  have HW := Lib.hid (hb2.trans (hb5.mono hb2.size))
  clear hb5 hb4 b4 hb2 hb0 b2
  go_wp2
  obtain ⟨d0, d1⟩ := set2 w4 w.heap.size (.int .i64 i) (.int .i64 V) g0 g1 g2
  refine bodyPost_ret (v := .tuple #[.agg #[.int .i64 i, .int .i64 V], .bool true]) (by simp [results, Try.results18, go_sem, d0, d1]) rfl ⟨rfl, ?_⟩
  exact (HW.out.setCell (Nat.le_refl _) _).setCell (Nat.le_refl _) _
set_option maxHeartbeats 1600000 in
set_option maxRecDepth 100000 in
theorem missing_fa (w : World) (s i : Int) (A : Option Addr) (n c : Nat) (xs : List Int) (hr : Rd w w.heap.size 2 A n (ints .i64 xs)) (hok : okInts xs) (hn : 0 < n) (hn2 : n ≤ 4294967296) (ha : ¬ are xs n) :
    Calls Try.prog 18 #[.slice A n c, .int .i64 s, .int .i64 i] w (Gives (.tuple #[.agg #[.int .i64 0, .int .i64 0], .bool false]) w) := by
  have HR := Lib.hid hr
  have HX := Lib.hid hok
  have hb0 : Below w.heap.size w (w.alloc (.cells #[.int .i64 0, .int .i64 0] 34)) := (Below.refl _ _).alloc (Nat.le_refl _) _
  have hz0 : (w.alloc (.cells #[.int .i64 0, .int .i64 0] 34)).heap.size = w.heap.size + 1 := by simp
  clear hr hok
  have HA := Lib.hid ha
  clear ha
  go_enter Try.func18, Try.ntmps18
  go_wp2_with fail
  (with_reducible refine (areShares _ A n c xs false ⟨fun h => (by cases h), fun h => absurd h HA.out⟩ (HR.out.on hb0) HX.out hn2).mono ?_); rintro e w1 ⟨rfl, b1⟩
  obtain ⟨g0, g1, g2, g3, g4⟩ := box_at (w := w) (w' := w1) ((hz0 ▸ b1))
  have HW := Lib.hid (show Below w.heap.size w w1 from hb0.trans (b1.mono hb0.size))
  clear b1 hb0
  go_wp2
  obtain ⟨d0, d1⟩ := set2 w1 w.heap.size (.int .i64 0) (.int .i64 0) g0 g1 g2
  refine bodyPost_ret (v := .tuple #[.agg #[.int .i64 0, .int .i64 0], .bool false]) (by simp [results, Try.results18, go_sem, d0, d1]) rfl ⟨rfl, ?_⟩
  exact (HW.out.setCell (Nat.le_refl _) _).setCell (Nat.le_refl _) _
set_option maxHeartbeats 1600000 in
set_option maxRecDepth 100000 in
theorem missing_fo0 (w : World) (s i : Int) (A : Option Addr) (n c : Nat) (xs : List Int) (hr : Rd w w.heap.size 2 A n (ints .i64 xs)) (hok : okInts xs) (hn : n = 0) (hi : i < 1 ∨ 7 < i) :
    Calls Try.prog 18 #[.slice A n c, .int .i64 s, .int .i64 i] w (Gives (.tuple #[.agg #[.int .i64 0, .int .i64 0], .bool false]) w) := by
  have HR := Lib.hid hr
  have HX := Lib.hid hok
  have hb0 : Below w.heap.size w (w.alloc (.cells #[.int .i64 0, .int .i64 0] 34)) := (Below.refl _ _).alloc (Nat.le_refl _) _
  have hz0 : (w.alloc (.cells #[.int .i64 0, .int .i64 0] 34)).heap.size = w.heap.size + 1 := by simp
  clear hr hok
  have hnd : decide (0 < n) = false := by simp; omega
  clear hn
  go_enter Try.func18, Try.ntmps18
  go_wp2_with fail
  (with_reducible refine (C1.implIn_f i 1 7 _ hi).mono ?_); rintro e w5 ⟨rfl, rfl⟩
  have HW := Lib.hid hb0
  clear hb0
  go_wp2
  refine bodyPost_ret (v := .tuple #[.agg #[.int .i64 0, .int .i64 0], .bool false]) (by simp [results, Try.results18, go_sem]) rfl ⟨rfl, ?_⟩
  exact HW.out
set_option maxHeartbeats 1600000 in
set_option maxRecDepth 100000 in
theorem missing_fo1 (w : World) (s i : Int) (A : Option Addr) (n c : Nat) (xs : List Int) (hr : Rd w w.heap.size 2 A n (ints .i64 xs)) (hok : okInts xs) (hn : 0 < n) (ha : are xs n) (hi : i < 1 ∨ 7 < i) :
    Calls Try.prog 18 #[.slice A n c, .int .i64 s, .int .i64 i] w (Gives (.tuple #[.agg #[.int .i64 0, .int .i64 0], .bool false]) w) := by
  have HR := Lib.hid hr
  have HX := Lib.hid hok
  have hb0 : Below w.heap.size w (w.alloc (.cells #[.int .i64 0, .int .i64 0] 34)) := (Below.refl _ _).alloc (Nat.le_refl _) _
  have hz0 : (w.alloc (.cells #[.int .i64 0, .int .i64 0] 34)).heap.size = w.heap.size + 1 := by simp
  clear hr hok
  have HA := Lib.hid ha
  have hn7 : n ≤ 7 := ha.2.1
  clear ha
  go_enter Try.func18, Try.ntmps18
  go_wp2_with fail
  (with_reducible refine (areShares _ A n c xs true ⟨fun _ => HA.out, fun _ => rfl⟩ (HR.out.on hb0) HX.out (by omega)).mono ?_); rintro e w1 ⟨rfl, b1⟩
  have hb1 : Below w.heap.size w w1 := hb0.trans (b1.mono hb0.size)
  go_wp2_with fail
  (with_reducible refine (C1.implIn_f i 1 7 _ hi).mono ?_); rintro e w5 ⟨rfl, rfl⟩
  obtain ⟨g0, g1, g2, g3, g4⟩ := box_at (w := w) (w' := w1) ((hz0 ▸ b1))
  have HW := Lib.hid (show Below w.heap.size w w1 from hb1)
  clear b1 hb0 hb1
  go_wp2
  obtain ⟨d0, d1⟩ := set2 w1 w.heap.size (.int .i64 0) (.int .i64 0) g0 g1 g2
  refine bodyPost_ret (v := .tuple #[.agg #[.int .i64 0, .int .i64 0], .bool false]) (by simp [results, Try.results18, go_sem, d0, d1]) rfl ⟨rfl, ?_⟩
  exact (HW.out.setCell (Nat.le_refl _) _).setCell (Nat.le_refl _) _
set_option maxHeartbeats 1600000 in
set_option maxRecDepth 100000 in
theorem missing_fh1 (w : World) (s i : Int) (A : Option Addr) (n c : Nat) (xs : List Int) (hr : Rd w w.heap.size 2 A n (ints .i64 xs)) (hok : okInts xs) (hn : 0 < n) (ha : are xs n) (hi0 : 1 ≤ i) (hi1 : i ≤ 7) (hh : ∃ k, k < n ∧ xs.getD (k * 2) 0 = i) :
    Calls Try.prog 18 #[.slice A n c, .int .i64 s, .int .i64 i] w (Gives (.tuple #[.agg #[.int .i64 0, .int .i64 0], .bool false]) w) := by
  have HR := Lib.hid hr
  have HX := Lib.hid hok
  have hb0 : Below w.heap.size w (w.alloc (.cells #[.int .i64 0, .int .i64 0] 34)) := (Below.refl _ _).alloc (Nat.le_refl _) _
  have hz0 : (w.alloc (.cells #[.int .i64 0, .int .i64 0] 34)).heap.size = w.heap.size + 1 := by simp
  clear hr hok
  have HA := Lib.hid ha
  have hn7 : n ≤ 7 := ha.2.1
  clear ha
  have HH := Lib.hid hh
  clear hh
  go_enter Try.func18, Try.ntmps18
  go_wp2_with fail
  (with_reducible refine (areShares _ A n c xs true ⟨fun _ => HA.out, fun _ => rfl⟩ (HR.out.on hb0) HX.out (by omega)).mono ?_); rintro e w1 ⟨rfl, b1⟩
  have hb1 : Below w.heap.size w w1 := hb0.trans (b1.mono hb0.size)
  go_wp2_with fail
  (with_reducible refine (C1.implIn_t i 1 7 _ hi0 hi1).mono ?_); rintro e w5 ⟨rfl, rfl⟩
  go_wp2_with fail
  (with_reducible refine (hasIndex _ i A n c xs true ⟨fun _ => HH.out, fun _ => rfl⟩ (HR.out.on hb1) (by omega)).mono ?_); rintro e w2 ⟨rfl, b2⟩
  obtain ⟨g0, g1, g2, g3, g4⟩ := box_at (w := w) (w' := w2) ((hz0 ▸ b1.trans (b2.mono b1.size)))
  have HW := Lib.hid (show Below w.heap.size w w2 from hb1.trans (b2.mono hb1.size))
  clear b1 hb0 hb1 b2
  go_wp2
  obtain ⟨d0, d1⟩ := set2 w2 w.heap.size (.int .i64 0) (.int .i64 0) g0 g1 g2
  refine bodyPost_ret (v := .tuple #[.agg #[.int .i64 0, .int .i64 0], .bool false]) (by simp [results, Try.results18, go_sem, d0, d1]) rfl ⟨rfl, ?_⟩
  exact (HW.out.setCell (Nat.le_refl _) _).setCell (Nat.le_refl _) _
theorem missing (w : World) (s i : Int) (A : Option Addr) (n c : Nat) (xs : List Int) (hs0 : -9223372036854775808 ≤ s) (hs1 : s ≤ 9223372036854775807) (hr : Rd w w.heap.size 2 A n (ints .i64 xs)) (hok : okInts xs) (hm : mis xs n i) :
    Calls Try.prog 18 #[.slice A n c, .int .i64 s, .int .i64 i] w (Gives (.tuple #[.agg #[.int .i64 i, .int .i64 (thr ([0, s] ++ xs) (1 + n) i)], .bool true]) w) := by
  by_cases hn : n = 0
  · exact missing_0 w s i A n c xs hs0 hs1 hr hok hm hn
  · exact missing_1 w s i A n c xs hs0 hs1 hr hok hm (by omega)
theorem missing_f (w : World) (s i : Int) (A : Option Addr) (n c : Nat) (xs : List Int) (hr : Rd w w.heap.size 2 A n (ints .i64 xs)) (hok : okInts xs) (hn2 : n ≤ 4294967296) (hm : ¬ mis xs n i) :
    Calls Try.prog 18 #[.slice A n c, .int .i64 s, .int .i64 i] w (Gives (.tuple #[.agg #[.int .i64 0, .int .i64 0], .bool false]) w) := by
  by_cases hn : n = 0
  · refine missing_fo0 w s i A n c xs hr hok hn ?_
    by_cases hi : i < 1 ∨ 7 < i
    · exact hi
    · exact absurd ⟨.inl hn, by omega, by omega, fun ⟨k, hk, _⟩ => by omega⟩ hm
  · by_cases ha : are xs n
    · by_cases hi : i < 1 ∨ 7 < i
      · exact missing_fo1 w s i A n c xs hr hok (by omega) ha hi
      · refine missing_fh1 w s i A n c xs hr hok (by omega) ha (by omega) (by omega) (Classical.byContradiction fun h => hm ⟨.inr ha, by omega, by omega, h⟩)
    · exact missing_fa w s i A n c xs hr hok (by omega) hn2 ha
end Go.Proofs.Ythmljddgaabnhaa.C5e
