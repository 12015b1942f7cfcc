/-
  laws.FnOblivious returns true at every code, and leaves it as it was: three evaluations by shares of a secret, put together and unblinded, are the direct output by that secret; indices that repeat are refused. Conditions: none.
-/
import Derived.Test.YtlndcfpcgcdmgaaFr
import Derived.Stop.Joined
import Derived.Test.YtlndcfpcgcdmgaaC0
import Derived.Test.YtlndcfpcgcdmgaaCd
import Derived.Test.YtlndcfpcgcdmgaaSo
import Derived.Test.YtlndcfpcgcdmgaaL0
import Derived.Test.YtlndcfpcgcdmgaaM9
import Derived.Test.YtlndcfpcgcdmgaaC7i
import Derived.Deep.AppendLies
namespace Go.Proofs.Ytlndcfpcgcdmgaa.fnOblivious
open Go.ChangeShapes Go.WideShapes Go.ChangeAt Go.RowKit
set_option linter.unusedVariables false

open S0 S1 S3 C3 M3 M4 M5 C4b C4d C5 C5b C5c C5d C5e C7 M6 M7 M9
/-- append of one number onto a row of the call's own, and where it then lies. -/
theorem appIL (w : World) (y : Int) {ops : Array Oper} {rest : List Oper} {o : Oper} {a : Act} {Q : Exit → Act → World → Prop} (hgd : o.guard = none) (s x : Operand)
    (ho : o.op = .call { callee := .builtin .append, args := #[s, x], argTypes := #[32, 32] }) (base : Nat) (v : Value) (n : Nat) (xs : List Value) (hs : a.eval s = v) (hown : (w.alloc (.cells #[.int .i64 y] 3)).ownsRow base 3 1 v n xs)
    (c : Nat) (hx : a.eval x = .slice (some ⟨w.heap.size, 0, none⟩) 1 c) (h63 : n + 1 ≤ 17592186044416) (hbase : base ≤ w.heap.size)
    (h : ∀ g cap w', w'.ownsRow base 3 1 (.slice (some ⟨g, 0, none⟩) (n + 1) cap) (n + 1) (xs ++ [.int .i64 y]) → (w.alloc (.cells #[.int .i64 y] 3)).grownBy w' v.ownBlock → (v.ownBlock = some g ∨ g = (w.alloc (.cells #[.int .i64 y] 3)).heap.size) → wpList Try.prog ops Q rest (a.put o.dst (.slice (some ⟨g, 0, none⟩) (n + 1) cap)) w') : wpList Try.prog ops Q (o :: rest) a (w.alloc (.cells #[.int .i64 y] 3)) := by
  obtain ⟨i0, hi, hz0, hz1, hz2⟩ := info_parts int_info
  refine wpList_append_lies _ hgd s x 32 ho base 3 i0 (.int .i64 0) 1 8 Try.underlying32 hi hz0 hz1 hz2 rfl (by decide) v n xs hs hown ⟨w.heap.size, 0, none⟩ 1 c [.int .i64 y] hx rfl (fun j u hu => ?_) (one_int .i64 y) (by omega) (by unfold maxLen; omega) (by omega) (by have := ((Below.refl w.heap.size w).alloc (Nat.le_refl _) (.cells #[.int .i64 y] 3)).size; omega) _ rfl (fun g cap w' h1 h2 h3 _ => h g cap w' h1 h2 h3)
  have hj : j = 0 := by
    rcases Nat.eq_zero_or_pos j with h0 | h0
    · exact h0
    · rw [List.getElem?_eq_none (by simp; omega)] at hu; cases hu
  subst hj
  exact (new_cell w #[.int .i64 y] 3 0).trans hu
theorem ints_one_app (xs : List Int) (y : Int) : ints .i64 xs ++ [.int .i64 y] = ints .i64 (xs ++ [y]) := ints_app .i64 xs [y]
theorem grow_far {w0 wr w2 : World} {n1 n2 g1 c1 g2 c2 g1' : Nat} {xs ys : List Value} (o1 : wr.ownsRow w0.heap.size 3 1 (.slice (some ⟨g1, 0, none⟩) n1 c1) n1 xs) (o2 : wr.ownsRow w0.heap.size 3 1 (.slice (some ⟨g2, 0, none⟩) n2 c2) n2 ys) (hne : g1 ≠ g2) (hb : Below w0.heap.size w0 wr)
    {o : Obj} (hg : (wr.alloc o).grownBy w2 (Value.slice (some ⟨g1, 0, none⟩) n1 c1).ownBlock) (hat : (Value.slice (some ⟨g1, 0, none⟩) n1 c1).ownBlock = some g1' ∨ g1' = (wr.alloc o).heap.size) :
    w2.ownsRow w0.heap.size 3 1 (.slice (some ⟨g2, 0, none⟩) n2 c2) n2 ys ∧ g1' ≠ g2 ∧ Below w0.heap.size w0 w2 := by
  have h2 := (o2.lt g2 rfl).2
  refine ⟨(o2.alloc o).kept hg (.inr (fun e => hne ?_)), ?_, (hb.alloc hb.size o).grown hg (by have := (hb.alloc hb.size o).size; exact this) (fun k hk => (o1.lt k hk).1)⟩
  · injection e with e1; exact e1.symm
  · rcases hat with e | e
    · injection e with e1; subst e1; exact hne
    · rw [e]
      have : (wr.alloc o).heap.size = wr.heap.size + 1 := by simp
      omega
/-- The indices and the evaluations in the making. -/
structure Two (P : Int → Int) (e : Int) (k j : Nat) (w : World) (v1 v2 : Value) (wr : World) : Prop where
  own1 : wr.ownsRow w.heap.size 3 1 v1 j (ints .i64 (rng k j))
  own2 : wr.ownsRow w.heap.size 3 1 v2 j (ints .i64 ((rng k j).map fun x => evs (P x) e))
  far : ∃ g1 g2 c1 c2, v1 = .slice (some ⟨g1, 0, none⟩) j c1 ∧ v2 = .slice (some ⟨g2, 0, none⟩) j c2 ∧ g1 ≠ g2
  bel : Below w.heap.size w wr
theorem rng_next (k j : Nat) : rng k (j + 1) = rng k j ++ [((k + 1 + j : Nat) : Int)] := by unfold rng; rw [List.range_succ, List.map_append]; rfl
theorem two_start (P : Int → Int) (e : Int) (k : Nat) (w : World) : Two P e k 0 w (.slice (some ⟨w.heap.size, 0, none⟩) 0 0) (.slice (some ⟨w.heap.size + 1, 0, none⟩) 0 0) ((w.alloc (.cells #[] 3)).alloc (.cells #[] 3)) := by
  have hs : (w.alloc (.cells #[] 3)).heap.size = w.heap.size + 1 := by simp
  have o2 := own_lit (w.alloc (.cells #[] 3)) #[] 0 w.heap.size 3 (by simp) rfl (Nat.zero_le _)
  rw [hs] at o2
  exact ⟨(own_lit w #[] 0 w.heap.size 3 (Nat.le_refl _) rfl (Nat.zero_le _)).alloc _, o2, ⟨_, _, _, _, rfl, rfl, by omega⟩, ((Below.refl _ _).alloc (Nat.le_refl _) _).alloc (by simp) _⟩
theorem bln_is (w : World) (l x b e : Int) (l0 : 0 ≤ l) (l1 : l ≤ 255) (x0 : 0 ≤ x) (x1 : x ≤ 2295) (b0 : 0 ≤ b) (b1 : b ≤ 1019) (he : bln l x b = e) :
    Calls Try.prog 13 #[.int .i64 l, .int .i64 x, .int .i64 b] w (Gives (.int .i64 e) w) := by
  subst he
  exact C7i.implBln l x b w (by omega) (by omega) (by omega) (by omega) (by omega) (by omega)
theorem evs_is (w : World) (i v e z : Int) (hz : evs v e = z) : Calls Try.prog 16 #[.agg #[.int .i64 i, .int .i64 v], .int .i64 e] w (Gives (.int .i64 z) w) := by
  subst hz; exact C7i.implEvs i v e w
theorem sec5 (w : World) (s : Int) (A : Option Addr) (c : Nat) (cs : List Int) (hs0 : 0 ≤ s) (hs1 : s ≤ 1018) (hr : Rd w w.heap.size 1 A 2 (ints .i64 cs)) (hok : okInts cs) :
    Calls Try.prog 31 #[.int .i64 s, .slice A 2 c, .int .i64 5] w (MadeS 30 2 5 (ints .i64 (shl 0 5 (poly s cs))) w) := by
  rw [← sec_shl]
  exact C5g.specSecret w s A 2 c 5 cs (by omega) (by omega) hr hok (by omega) (by omega)
theorem cmb_is (w : World) (A B : Option Addr) (c d : Nat) (s e z : Int) (cs : List Int) (k : Nat) (hk : k + 3 ≤ 7) (he : isEl e) (h1 : e ≠ 1) (hc : cs.length = 2) (hri : Rd w w.heap.size 1 A 3 (ints .i64 (rng k 3))) (hre : Rd w w.heap.size 1 B 3 (ints .i64 ((rng k 3).map fun x => evs (poly s cs x) e))) (hz : pw e s = z) :
    Calls Try.prog 20 #[.slice A 3 c, .slice B 3 d] w (Gives (.tuple #[.int .i64 z, .bool true]) w) := by
  have hok : okInts (rng k 3) := by
    intro x hx
    unfold rng at hx
    rw [List.mem_map] at hx
    obtain ⟨i, hi, rfl⟩ := hx
    have hi2 : i < 3 := by simpa using hi
    omega
  have h := C7i.implCmb w A B 3 c 3 d _ _ hri hok hre (by omega) (by omega)
  obtain ⟨h2, h3⟩ := cmb_t (cmb_ok he h1 k hk s cs)
  rw [h2, h3, quorum3 he h1 k hk s cs hc, hz] at h
  exact h
theorem again (w : World) (A B : Option Addr) (c d : Nat) (hri : Rd w w.heap.size 1 A 2 (ints .i64 [2, 2])) (hre : Rd w w.heap.size 1 B 2 (ints .i64 [4, 4])) :
    Calls Try.prog 20 #[.slice A 2 c, .slice B 2 d] w (Gives (.tuple #[.int .i64 0, .bool false]) w) := by
  have hok : okInts [2, 2] := okInts.cons (by omega) (by omega) (okInts.one (by omega) (by omega))
  have h := C7i.implCmb w A B 2 c 2 d _ _ hri hok hre (by omega) (by omega)
  obtain ⟨h2, h3⟩ := cmb_f (is := [2, 2]) (es := [4, 4]) (n := 2) (m := 2) (fun h => h.2.2.2 ⟨0, 1, by omega, by omega, rfl⟩)
  rw [h2, h3] at h
  exact h
theorem rd_pair (w : World) (x y : Int) : Rd (w.alloc (.cells #[.int .i64 x, .int .i64 y] 3)) (w.alloc (.cells #[.int .i64 x, .int .i64 y] 3)).heap.size 1 (some ⟨w.heap.size, 0, none⟩) 2 (ints .i64 [x, y]) :=
  Rd.own (own_lit w #[.int .i64 x, .int .i64 y] 2 w.heap.size 3 (Nat.le_refl _) rfl (by unfold maxLen; omega))
set_option maxHeartbeats 4000000 in
set_option maxRecDepth 100000 in
theorem walkSmall (A0 : Option Addr) (n0 c0 : Nat) (xs0 : List Int) (hl : ¬ 1048576 < n0) (W : World) (hr : Rd W W.heap.size 1 A0 n0 (ints .u8 xs0)) (hx : ∀ x ∈ xs0, 0 ≤ x ∧ x ≤ 255) :
    Calls Try.prog 11 #[.slice A0 n0 c0] W fun e w' => e = .returned (.bool true) ∧ Below W.heap.size W w' := by
  have HR := Lib.hid hr
  have HX := Lib.hid hx
  have hn0 : n0 ≤ 1048576 := by omega
  have HA := Lib.hid (fun i => L0.atv_bd xs0 i hx)
  have HB : Below W.heap.size W W := Below.refl _ _
  clear hr hx
  go_enter Try.func11, Try.ntmps11
  go_wp2_with fail
  (with_reducible refine (Cd.big_no A0 n0 c0 _ hl).mono ?_); rintro e w0 ⟨rfl, rfl⟩
  go_wp2_with fail
  (with_reducible refine (L0.at_is _ A0 n0 c0 xs0 0 0 rfl (HR.out.on HB) HX.out hn0 (by omega)).mono ?_); rintro e w0 ⟨rfl, rfl⟩
  obtain ⟨a0a, a0b⟩ := HA.out 0
  obtain ⟨a0, ha0⟩ : ∃ x, x = L0.atv xs0 0 := ⟨_, rfl⟩
  rw [← ha0] at a0a a0b ⊢
  clear ha0
  go_wp2_with fail
  (with_reducible refine (L0.at_is _ A0 n0 c0 xs0 1 1 rfl (HR.out.on HB) HX.out hn0 (by omega)).mono ?_); rintro e w0 ⟨rfl, rfl⟩
  obtain ⟨a1a, a1b⟩ := HA.out 1
  obtain ⟨a1, ha1⟩ : ∃ x, x = L0.atv xs0 1 := ⟨_, rfl⟩
  rw [← ha1] at a1a a1b ⊢
  clear ha1
  go_wp2_with fail
  (with_reducible refine (L0.at_is _ A0 n0 c0 xs0 2 2 rfl (HR.out.on HB) HX.out hn0 (by omega)).mono ?_); rintro e w0 ⟨rfl, rfl⟩
  obtain ⟨a2a, a2b⟩ := HA.out 2
  obtain ⟨a2, ha2⟩ : ∃ x, x = L0.atv xs0 2 := ⟨_, rfl⟩
  rw [← ha2] at a2a a2b ⊢
  clear ha2
  have hok : okInts [a1 * 4, a2] := okInts.cons (by omega) (by omega) (okInts.one (by omega) (by omega))
  have HOK := Lib.hid hok
  clear hok
  have s0 : 0 ≤ 1 + a0 * 3 := by omega
  have s1 : 1 + a0 * 3 ≤ 1018 := by omega
  have b1 : Below W.heap.size W (W.alloc (.cells #[.int .i64 (a1 * 4), .int .i64 a2] 3)) := (Below.refl _ _).alloc (Nat.le_refl _) _
  have R1 := Lib.hid (rd_pair W (a1 * 4) a2)
  go_wp2_with fail
  (with_reducible refine (sec5 _ (1 + a0 * 3) _ _ [a1 * 4, a2] s0 s1 R1.out HOK.out).mono ?_); rintro e w2 ⟨Al, cl, rfl, ol, b2⟩
  replace HB := HB.trans (b1.trans (b2.mono b1.size))
  have HC2 := Lib.hid (show [a1 * 4, a2].length = 2 from rfl)
  obtain ⟨cs, hcs⟩ : ∃ cs, cs = [a1 * 4, a2] := ⟨_, rfl⟩
  rw [← hcs] at ol HC2
  have RL := Lib.hid (fun w' (hb : Below w2.heap.size w2 w') => show Rd w' w'.heap.size 2 Al 5 (ints .i64 (shl 0 5 (poly (1 + a0 * 3) cs))) from Rd.own (own_below ol hb))
  clear ol hcs b1 b2 HOK R1
  go_wp2_with fail
  (with_reducible refine (L0.at_is _ A0 n0 c0 xs0 3 3 rfl (HR.out.on HB) HX.out hn0 (by omega)).mono ?_); rintro e w0 ⟨rfl, rfl⟩
  obtain ⟨la, lb⟩ := HA.out 3
  obtain ⟨l, hl⟩ : ∃ x, x = L0.atv xs0 3 := ⟨_, rfl⟩
  rw [← hl] at la lb ⊢
  clear hl
  go_wp2_with fail
  (with_reducible refine (L0.at_is _ A0 n0 c0 xs0 4 4 rfl (HR.out.on HB) HX.out hn0 (by omega)).mono ?_); rintro e w0 ⟨rfl, rfl⟩
  obtain ⟨xa, xb⟩ := HA.out 4
  obtain ⟨x, hx⟩ : ∃ x, x = L0.atv xs0 4 := ⟨_, rfl⟩
  rw [← hx] at xa xb ⊢
  clear hx
  go_wp2_with fail
  (with_reducible refine (L0.at_is _ A0 n0 c0 xs0 5 5 rfl (HR.out.on HB) HX.out hn0 (by omega)).mono ?_); rintro e w0 ⟨rfl, rfl⟩
  obtain ⟨ba, bb⟩ := HA.out 5
  obtain ⟨b, hb⟩ : ∃ x, x = L0.atv xs0 5 := ⟨_, rfl⟩
  rw [← hb] at ba bb ⊢
  clear hb
  have hbm : (1 + b * 3) % 1019 ≠ 0 := by omega
  have HEL := Lib.hid (bln_el (l := l) (x := x) hbm)
  have HNE := Lib.hid (bln_ne (l := l) (x := x) hbm)
  have HFB := Lib.hid (fin_bln (l := l) (x := x) (s := 1 + a0 * 3) hbm)
  obtain ⟨e0, he0⟩ : ∃ e, bln l x (1 + b * 3) = e := ⟨_, rfl⟩
  rw [he0] at HEL HNE HFB
  have HE := Lib.hid he0
  clear he0 hbm
  go_wp2_with fail
  (with_reducible refine (bln_is _ l x (1 + b * 3) e0 la lb xa (by omega) (by omega) (by omega) HE.out).mono ?_); rintro e w3 ⟨rfl, b3⟩
  have hb3 : Below w2.heap.size w2 w3 := b3
  replace HB := HB.trans (b3.mono HB.size)
  have HT := Lib.hid (fun k => two_start (poly (1 + a0 * 3) cs) e0 k w3)
  have hbb : Below W.heap.size W ((w3.alloc (.cells #[] 3)).alloc (.cells #[] 3)) := (HB.alloc HB.size _).alloc (by have := HB.size; simp; omega) _
  have HW3 := Lib.hid HB
  go_wp2_with fail
  (with_reducible refine (L0.at_is _ A0 n0 c0 xs0 6 6 rfl (HR.out.on hbb) HX.out hn0 (by omega)).mono ?_); rintro e w0 ⟨rfl, rfl⟩
  obtain ⟨qa, qb⟩ := HA.out 6
  obtain ⟨q, hq⟩ : ∃ x, x = L0.atv xs0 6 := ⟨_, rfl⟩
  rw [← hq] at qa qb ⊢
  clear hq hbb b3
  obtain ⟨k, hk⟩ : ∃ k : Nat, q % 3 = k := ⟨(q % 3).toNat, by omega⟩
  have hk2 : k ≤ 2 := by omega
  go_wp2_with fail
  rw [hk]
  go_loopw [9, 10, 12] (fun v1 v2 i wr => ∃ j : Nat, j ≤ 3 ∧ i = .int .i64 ((k + j : Nat) : Int) ∧ Two (poly (1 + a0 * 3) cs) e0 k j w3 v1 v2 wr) (fun _ _ i _ => k + 3 - (intOf i).toNat)
  case atStart => exact ⟨0, by omega, rfl, HT.out k⟩
  case round =>
  obtain ⟨j, hj, rfl, hT⟩ := hrel
  obtain ⟨g1, g2, c1, c2, rfl, rfl, hne⟩ := hT.far
  have o1 := hT.own1
  have o2 := hT.own2
  have hbr := hT.bel
  have hz := hT.bel.size
  clear hT HT HB
  by_cases hlt : j < 3
  · have hij : ((k + j : Nat) : Int) < (k : Int) + 3 := by omega
    have hi5 : ((k + j : Nat) : Int) < 5 := by omega
    have hi0 : (0 : Int) ≤ ((k + j : Nat) : Int) := by omega
    have hbl := hb3.trans (hbr.mono hb3.size)
    obtain ⟨g, off, rfl, hgl, hc0, hc1⟩ := Rd2.at_ (RL.out wr hbl) (j := k + j) (by omega)
    rw [shl_ix 0 5 _ (k + j) (by omega)] at hc0
    rw [shl_vl 0 5 _ (k + j) (by omega)] at hc1
    obtain ⟨i, hi⟩ : ∃ i : Nat, i = k + j := ⟨_, rfl⟩
    rw [← hi] at hc0 hc1 hij hi5 hi0 ⊢
    have ei : ((0 + 1 + i : Nat) : Int) = (i : Int) + 1 := by omega
    rw [ei] at hc0 hc1
    have HEV := Lib.hid (show evs (poly (1 + a0 * 3) cs ((i : Int) + 1)) e0 = evs (poly (1 + a0 * 3) cs ((i : Int) + 1)) e0 from rfl)
    have HRN := Lib.hid (show rng k (j + 1) = rng k j ++ [(i : Int) + 1] by rw [rng_next]; congr 2; omega)
    obtain ⟨y, hy⟩ : ∃ y, y = poly (1 + a0 * 3) cs ((i : Int) + 1) := ⟨_, rfl⟩
    rw [← hy] at hc1 HEV
    have HY := Lib.hid hy
    obtain ⟨z, hz2⟩ : ∃ z, evs y e0 = z := ⟨_, rfl⟩
    have HZ := Lib.hid hz2
    have HI := Lib.hid hi
    clear hy hz2 ei HEV hi
    go_wp2_with (at_builtin
                 refine appIL _ ((i : Int) + 1) rfl _ _ rfl w3.heap.size _ _ _ rfl (o1.alloc _) 1 rfl (by omega) (by omega) ?_
                 intro g1' c1' w4 o1' hg1 hat1
                 obtain ⟨o2', hne', hb4⟩ := grow_far o1 o2 hne hbr hg1 hat1
                 have hbl4 := hb3.trans (hb4.mono hb3.size)
                 obtain ⟨gx, offx, ex, _, hd0, hd1⟩ := Rd2.at_ (RL.out w4 hbl4) (j := i) (by omega)
                 cases ex
                 rw [shl_ix 0 5 _ i (by omega)] at hd0
                 rw [shl_vl 0 5 _ i (by omega)] at hd1
                 have ei : ((0 + 1 + i : Nat) : Int) = (i : Int) + 1 := by omega
                 rw [ei] at hd0 hd1
                 rw [← HY.out] at hd1
                 rw [ints_one_app] at o1'
                 have O1 := Lib.hid o1'
                 have O2 := Lib.hid o2'
                 have hz4 := hb4.size
                 clear o1 o2 o1' o2' hne hbr hz hbl hc0 hc1 hg1 hat1 ei)
    (with_reducible refine (evs_is _ ((i : Int) + 1) y e0 z HZ.out).mono ?_); rintro e w5 ⟨rfl, b5⟩
    have p1 := own_below O1.out b5
    have p2 := own_below O2.out b5
    have hb5 : Below w3.heap.size w3 w5 := hb4.trans (b5.mono hz4)
    have hz5 := hb5.size
    clear b5 hd0 hd1 hbl4
    go_wp2_with (at_builtin; refine appIL _ z rfl _ _ rfl w3.heap.size _ _ _ rfl (p2.alloc _) 1 rfl (by omega) (by omega) ?_; intro g2' c2' w6 o2' hg2 hat2)
    obtain ⟨o1', hne2, hb6⟩ := grow_far p2 p1 hne'.symm hb5 hg2 hat2
    go_roundw
    case rel =>
      refine ⟨j + 1, by omega, ?_, ⟨?_, ?_, ⟨_, _, _, _, rfl, rfl, hne2.symm⟩, hb6⟩⟩
      · rw [show ((k + (j + 1) : Nat) : Int) = (i : Int) + 1 by have := HI.out; omega]
      · rw [HRN.out]; exact o1'
      · rw [HRN.out, List.map_append, ← ints_app]
        have ez : ints .i64 ([(i : Int) + 1].map fun x => evs (poly (1 + a0 * 3) cs x) e0) = [.int .i64 z] := by
          show [Value.int .i64 (evs (poly (1 + a0 * 3) cs ((i : Int) + 1)) e0)] = _
          rw [← HY.out, HZ.out]
        rw [ez]; exact o2'
    case measure => simp [intOf]; have := HI.out; omega
  have hj3 : j = 3 := by omega
  subst hj3
  have hij : ¬ (((k + 3 : Nat) : Int) < (k : Int) + 3) := by omega
  have hd : decide (((k + 3 : Nat) : Int) < (k : Int) + 3) = false := by simp
  have O1 := Lib.hid o1
  have O2 := Lib.hid o2
  have HB : Below W.heap.size W wr := HW3.out.trans (hbr.mono HW3.out.size)
  obtain ⟨z, hz2⟩ : ∃ z, pw e0 (1 + a0 * 3) = z := ⟨_, rfl⟩
  rw [hz2] at HFB
  have HZ := Lib.hid hz2
  obtain ⟨D, hD⟩ : ∃ D, D = dir (1 + a0 * 3) l x := ⟨_, rfl⟩
  rw [← hD] at HFB
  have hDE : isEl D := by rw [hD]; exact pw_el _ (hg_el l x)
  have HDD := Lib.hid hD
  have HED := Lib.hid (el_t hDE)
  have d0 := hDE.lo
  have d1 := hDE.hi
  clear o1 o2 hz2 hD hDE hz hbr
  go_wp2_with fail
  (with_reducible refine (cmb_is _ _ _ _ _ (1 + a0 * 3) e0 z cs k (by omega) HEL.out HNE.out HC2.out (Rd.own O1.out) (Rd.own O2.out) HZ.out).mono ?_); rintro e w4 ⟨rfl, b4⟩
  replace HB := HB.trans (b4.mono HB.size)
  clear b4 O1 O2
  go_wp2_with fail
  (with_reducible refine (C7i.implDir (1 + a0 * 3) l x _ (by omega) (by omega) (by omega) (by omega) (by omega) (by omega)).mono ?_); rintro e w5 ⟨rfl, b5⟩
  replace HB := HB.trans (b5.mono HB.size)
  rw [← HDD.out]
  have R2 := Lib.hid (rd_pair w5 2 2)
  have bq : Below w5.heap.size w5 (w5.alloc (.cells #[.int .i64 2, .int .i64 2] 3)) := (Below.refl _ _).alloc (Nat.le_refl _) _
  have hs5 : (w5.alloc (.cells #[.int .i64 2, .int .i64 2] 3)).heap.size = w5.heap.size + 1 := by simp
  have r4 := rd_pair (w5.alloc (.cells #[.int .i64 2, .int .i64 2] 3)) 4 4
  rw [hs5] at r4
  have R4 := Lib.hid r4
  have br : Below w5.heap.size w5 ((w5.alloc (.cells #[.int .i64 2, .int .i64 2] 3)).alloc (.cells #[.int .i64 4, .int .i64 4] 3)) := bq.alloc bq.size _
  have R22 := Lib.hid (R2.out.alloc (.cells #[.int .i64 4, .int .i64 4] 3))
  clear r4 hs5 bq b5
  go_wp2_with fail
  (with_reducible refine (again _ _ _ _ _ R22.out R4.out).mono ?_); rintro e w6 ⟨rfl, b6⟩
  replace HB := HB.trans ((br.trans (b6.mono br.size)).mono HB.size)
  clear br b6
  go_wp2_with fail
  (with_reducible refine (C7i.implFin z (1 + b * 3) _ (by omega) (by omega)).mono ?_); rintro e w7 ⟨rfl, b7⟩
  replace HB := HB.trans (b7.mono HB.size)
  rw [HFB.out]
  go_wp2_with fail
  (with_reducible refine (specEl D _).mono ?_); rintro e w8 ⟨rfl, rfl⟩
  rw [HED.out]
  go_wp2_with fail
  (with_reducible refine (C7i.implOkey D l _ (by omega) (by omega) (by omega) (by omega)).mono ?_); rintro e w8 ⟨rfl, b8⟩
  replace HB := HB.trans (b8.mono HB.size)
  go_wp2_with fail
  (with_reducible refine (specOkey D l _ (by omega) (by omega) (by omega) (by omega)).mono ?_); rintro e w9 ⟨rfl, b9⟩
  replace HB := HB.trans (b9.mono HB.size)
  go_wp2
  go_ret
  exact ⟨rfl, HB⟩
theorem walk (v0 : Value) (W : World) {H : Type} {enc : TypeId × Value → H} {b0 : Nat} {d0 : DataW H} {p0 : List MemPlace} (hv0 : Value.okWide Try.prog W .any b0 22 v0) (ht0 : DataW.Trod enc Try.prog W 0 (fun _ => true) true 22 v0 d0 p0) :
    Calls Try.prog 11 #[v0] W fun e w' => e = .returned (.bool true) ∧ Below W.heap.size W w' := by
  obtain ⟨A0, n0, c0, xs0, rfl, hr0, hm0, hx0⟩ := So.bytes hv0 ht0
  unfold maxLen at hm0
  by_cases hl : 1048576 < n0
  · clear hv0 ht0 hr0
    go_enter Try.func11, Try.ntmps11
    go_wp2_with fail
    (with_reducible refine (Cd.big_yes A0 n0 c0 _ (by omega) hl).mono ?_); rintro e w0 ⟨rfl, rfl⟩
    go_wp2
    go_ret
    exact ⟨rfl, Below.refl _ _⟩
  · exact walkSmall A0 n0 c0 xs0 hl W hr0 (fun x h => So.okI_u8 (hx0 x h))

theorem contract (H : Type) (enc : TypeId × Value → H) (W : World) (base : Nat) (args : Array Value) (ds gs : List (DataW H)) (before : List MemPlace)
    (hval : ∀ (j : Nat) t v, Try.f11.params[j]? = some t → args[j]? = some v → Value.okWide Try.prog W .any base t v)
    (hW : DataW.Whole enc Try.prog Try.f11.params.toList Rows.fnObliviousSpec.vars false W args.toList ds gs before) :
    Calls Try.prog 11 args W fun e W' => ∃ v, e = .returned v ∧ Rows.fnObliviousSpec.post enc Try.prog Try.f11 false true false false W args v W' := by
  have hW' := hW
  obtain ⟨p, q, hA0, hV, rfl, hfz, hnd⟩ := hW
  have hA : DataW.TrodAll enc Try.prog W 0 (fun _ => true) true Try.f11.params.toList args.toList ds p := hA0
  rw [Try.params11] at hA hval
  obtain ⟨v0, vs0, d0, ds0, p0, q0, hargs, rfl, rfl, h0, r0⟩ := trodAll_cons hA
  obtain ⟨rfl, rfl, rfl⟩ := trodAll_nil r0
  obtain rfl : args = #[v0] := by cases args; simp_all
  obtain ⟨rfl, rfl⟩ := trodVars_none hV
  clear hA0
  refine Fr.closeLaw rfl (by kernel_rfl) (by rw [Try.params11]; decide) hW' rfl ?_
  exact walk v0 W (hval 0 22 v0 rfl rfl) h0

theorem reads (os : Os) {H : Type} (enc : TypeId × Value → H) : ∃ places, DataW.whole enc Try.prog ((World.holding Try.prog os ⟨#[], #[], []⟩).forCall (fun _ _ => 0) ⟨#[], #[.slice none 0 0], []⟩).memory Try.f11.params.toList Rows.fnObliviousSpec.vars false (#[.slice none 0 0] : Array Value).toList 8 = some ([.nil], [], places) :=
  ⟨[], by kernel_rfl⟩
set_option maxRecDepth 100000 in
theorem lifted (os : Os) (started : os.Started) (H : Type) (enc : TypeId × Value → H) (F : Stop.Interp) :
    ReturnsInHanded {} Try.checked os 11 .any ((OpenSpec.ofChange Rows.fnObliviousSpec).preRow enc Try.prog Try.f11 Rows.fnObliviousRow.domain false Rows.fnObliviousRow.laid) (((OpenSpec.ofChange Rows.fnObliviousSpec).at F).post enc Try.prog Try.f11 false true false false) := by
  obtain ⟨places, hx⟩ := reads os enc
  refine returnsInHanded_of_row (C := Try.checked) (s := OpenSpec.ofChange Rows.fnObliviousSpec) Fr.own started (by kernel_rfl) Try.func11
    (witness_row_atRef (enc := enc) (C := Try.checked) false (World.holding Try.prog os ⟨#[], #[], []⟩) #[.slice none 0 0] rfl (by kernel_rfl) (by kernel_rfl) (by kernel_rfl)
      (OpenSpec.preRow_of_cond 8 hx (by kernel_rfl) (fun k hk => by cases hk) (by kernel_rfl) (laidMetH_nil _ _))) ?_
  intro W base args ds gs before hval hW _ hcond _ hL _ _
  exact contract H enc W base args ds gs before hval hW
theorem said : Rows.FnObliviousSaid :=
  OpenClaim.holds_of_cond 11 Try.f11 rfl rfl rfl rfl rfl rfl rfl ⟨rfl, rfl, rfl, rfl, rfl⟩ rfl rfl rfl rfl rfl (by kernel_rfl) Try.func11 (by kernel_rfl)
    (of_decide_eq_true (by kernel_rfl)) (by unfold Func.isWrapper; first | (rw [if_pos (by decide +kernel)]; kernel_rfl) | (rw [if_neg (by decide +kernel)]; exact ⟨rfl, rfl⟩))
    (fun os started H enc _ F => by rw [OpenClaim.pre_eq_preRow]; exact lifted os started H enc F)
theorem proved : Rows.FnObliviousSaid := said
#print axioms proved
end Go.Proofs.Ytlndcfpcgcdmgaa.fnOblivious
