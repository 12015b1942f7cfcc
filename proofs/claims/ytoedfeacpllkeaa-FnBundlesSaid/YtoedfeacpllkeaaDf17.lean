/-
  slices.DeleteFunc of the deleted entries of an own row.
-/
import Derived.Test.YtoedfeacpllkeaaC17j
import Derived.WalkKit
import Derived.Below
import Derived.LoopTactic
import Derived.Lib.SliceRun
import Derived.Laws.Slices
import Derived.Test.YtoedfeacpllkeaaIn17
namespace Go.Proofs.Ytoedfeacpllkeaa.Df17
open Go.ChangeShapes Go.WideShapes Go.ChangeAt Go.RowKit
open S0 S1 S9 Dm Fx M26 E0 E1 E2 E3 E4 E5 E7 E10 E15 E16 E17 E18 E19 E20 E22 E25 E26 E28 E29 Das C17i C17j In17
set_option linter.unusedVariables false
set_option linter.unusedSimpArgs false
set_option maxRecDepth 100000
def one (x : En) : List Value := [.int .i64 x.Site, .int .i64 x.Handle, .int .i64 x.Version, .bool x.Deleted]
def many (l : List En) : List Value := l.flatMap one
theorem many_len (l : List En) : (many l).length = l.length * 4 := by
  unfold many
  induction l with
  | nil => rfl
  | cons x l ih => rw [List.flatMap_cons, List.length_append, ih, List.length_cons]; simp [one]; omega
theorem many_app (l k : List En) : many (l ++ k) = many l ++ many k := by unfold many; rw [List.flatMap_append]
theorem many_take (l : List En) (k : Nat) : (many l).take (k * 4) = many (l.take k) := by
  rcases Nat.lt_or_ge k l.length with h | h
  · have e : many l = many (l.take k) ++ many (l.drop k) := by rw [← many_app, List.take_append_drop]
    rw [e, List.take_append_of_le_length (by rw [many_len, List.length_take]; omega), List.take_of_length_le (by rw [many_len, List.length_take]; omega)]
  · rw [List.take_of_length_le h, List.take_of_length_le (by rw [many_len]; omega)]
theorem many_drop (l : List En) (k : Nat) : (many l).drop (k * 4) = many (l.drop k) := by
  rcases Nat.lt_or_ge k l.length with h | h
  · have e : many l = many (l.take k) ++ many (l.drop k) := by rw [← many_app, List.take_append_drop]
    rw [e, List.drop_append_of_le_length (by rw [many_len, List.length_take]; omega), List.drop_of_length_le (by rw [many_len, List.length_take]; omega), List.nil_append]
  · rw [List.drop_of_length_le h, List.drop_of_length_le (by rw [many_len]; omega)]; rfl
theorem many_one (l : List En) : ∀ u ∈ many l, u.oneCell' = true := by
  intro u hu
  unfold many at hu
  obtain ⟨x, _, hx⟩ := List.mem_flatMap.1 hu
  unfold one at hx
  simp only [List.mem_cons, List.not_mem_nil, or_false] at hx
  rcases hx with rfl | rfl | rfl | rfl <;> rfl
theorem many_dc : ∀ l : List En, l.flatMap Entry.dcs = (many l).map Dc.val
  | [] => rfl
  | x :: l => by
    rw [List.flatMap_cons, many_dc l]
    unfold many
    rw [List.flatMap_cons, List.map_append]
    rfl
theorem row_dc (l : List En) : (rowR 38 4 dasEntry zEntry l).dc = .row 38 4 l.length ((many l).map Dc.val) := by
  rw [rowR_dc 38 zEntry Entry.len dasEntry_dc, many_dc]
theorem own_at {w : World} {lo : Nat} {l : List En} {v : Value} {bs : List Nat} (h : Owns w lo (rowR 38 4 dasEntry zEntry l).dc v bs) : Ow.At w lo 38 4 v l.length (many l) ∧ bs = v.ownBlock.toList := by
  rw [row_dc] at h
  simp only [Owns] at h
  obtain ⟨vs, b2, hat, hl, rfl⟩ := h
  obtain rfl := vals_of hl
  have hb : ∀ {us vs : List Value} {bs : List Nat}, OwnsL w lo (us.map Dc.val) vs bs → bs = [] := by
    intro us
    induction us with
    | nil => intro vs bs h; simp only [List.map_nil, OwnsL] at h; exact h.2
    | cons u us ih =>
      intro vs bs h
      simp only [List.map_cons, OwnsL, Owns] at h
      obtain ⟨v, vs', b1, b2, _, ⟨_, rfl⟩, h2, rfl⟩ := h
      rw [ih h2]
  rw [hb hl, List.append_nil]
  exact ⟨hat, rfl⟩
theorem at_own2 {w : World} {lo : Nat} {l : List En} {v : Value} (h : Ow.At w lo 38 4 v l.length (many l)) : Owns w lo (rowR 38 4 dasEntry zEntry l).dc v v.ownBlock.toList := by
  rw [row_dc]
  simp only [Owns]
  exact ⟨_, [], h, vals_own w lo _, by simp⟩
theorem many_at {l : List En} {k : Nat} (hk : k < l.length) : (many l)[k * 4]? = some (.int .i64 (l.getD k zEntry).Site) ∧ (many l)[k * 4 + 1]? = some (.int .i64 (l.getD k zEntry).Handle) ∧ (many l)[k * 4 + 2]? = some (.int .i64 (l.getD k zEntry).Version) ∧ (many l)[k * 4 + 3]? = some (.bool (l.getD k zEntry).Deleted) := by
  have e : many l = many (l.take k) ++ (one (l.getD k zEntry) ++ many (l.drop (k + 1))) := by
    have e2 : l = l.take k ++ (l.getD k zEntry :: l.drop (k + 1)) := by rw [getD_lt hk, List.getElem_cons_drop hk, List.take_append_drop]
    calc many l = many (l.take k ++ (l.getD k zEntry :: l.drop (k + 1))) := by rw [← e2]
      _ = _ := by rw [many_app]; rfl
  have hl : (many (l.take k)).length = k * 4 := by rw [many_len, List.length_take]; omega
  rw [e]
  refine ⟨?_, ?_, ?_, ?_⟩ <;> rw [List.getElem?_append_right (by omega), hl]
  · rw [Nat.sub_self]; rfl
  · rw [show k * 4 + 1 - k * 4 = 1 by omega]; rfl
  · rw [show k * 4 + 2 - k * 4 = 2 by omega]; rfl
  · rw [show k * 4 + 3 - k * 4 = 3 by omega]; rfl
theorem many_set {l : List En} {k : Nat} (hk : k < l.length) (x : En) : ((((many l).set (k * 4) (.int .i64 x.Site)).set (k * 4 + 1) (.int .i64 x.Handle)).set (k * 4 + 2) (.int .i64 x.Version)).set (k * 4 + 3) (.bool x.Deleted) = many (l.set k x) := by
  have e : ∀ m : List En, k < m.length → many m = many (m.take k) ++ (one (m.getD k zEntry) ++ many (m.drop (k + 1))) := fun m hm => by
    have e2 : m = m.take k ++ (m.getD k zEntry :: m.drop (k + 1)) := by rw [getD_lt hm, List.getElem_cons_drop hm, List.take_append_drop]
    calc many m = many (m.take k ++ (m.getD k zEntry :: m.drop (k + 1))) := by rw [← e2]
      _ = _ := by rw [many_app]; rfl
  have hl : (many (l.take k)).length = k * 4 := by rw [many_len, List.length_take]; omega
  rw [e l hk, e (l.set k x) (by simpa using hk), List.take_set_of_le (Nat.le_refl _), List.drop_set_of_lt (Nat.lt_succ_self _), getD_lt (l := l.set k x) (by simpa using hk), List.getElem_set_self]
  rw [List.set_append_right _ _ (by omega), List.set_append_right _ _ (by omega), List.set_append_right _ _ (by omega), List.set_append_right _ _ (by omega), hl, Nat.sub_self, show k * 4 + 1 - k * 4 = 1 by omega, show k * 4 + 2 - k * 4 = 2 by omega, show k * 4 + 3 - k * 4 = 3 by omega]
  rfl
abbrev enV (x : En) : Value := .agg #[.int .i64 x.Site, .int .i64 x.Handle, .int .i64 x.Version, .bool x.Deleted]
theorem del_c (w : World) (x : En) : Calls Try.prog 55 #[enV x] w (Gives (.bool x.Deleted) w) :=
  con_plain (conDel x) rfl (arg_agg (us := [.int .i64 x.Site, .int .i64 x.Handle, .int .i64 x.Version, .bool x.Deleted]) rfl (by
    show ShsL _ _ [Dc.val _, Dc.val _, Dc.val _, Dc.val _] _
    simp only [ShsL, Shs]
    exact ⟨_, _, rfl, rfl, _, _, rfl, rfl, _, _, rfl, rfl, _, _, rfl, rfl, rfl⟩) arg_nil)
theorem idx_c (w : World) (v : Value) (l : List En) (hn : l.length ≤ 16000000) (hv : Shs w w.heap.size (rowR 38 4 dasEntry zEntry l).dc v) : Calls Try.prog 51 #[v, .func (.func 55) #[] #[]] w (Gives (.int .i64 (idxI l)) w) :=
  con_plain (conIxD l (by omega)) rfl (arg_row rfl hv (arg_val arg_nil))
theorem actE_none {l : List En} (h : idxD l = none) : actE l = l := by
  unfold actE
  refine List.filter_eq_self.2 fun x hx => ?_
  obtain ⟨i, hi, rfl⟩ := List.getElem_of_mem hx
  have := idxD_no h i hi
  rw [getD_lt hi] at this
  rw [this]
  rfl
theorem actE_all {l : List En} {k : Nat} (hk : k ≤ l.length) (h : ∀ j, j < k → (l.getD j zEntry).Deleted = false) : actE (l.take k) = l.take k := by
  refine actE_none (idxD_none fun j hj => ?_)
  rw [List.length_take] at hj
  have h2 := h j (by omega)
  rw [getD_lt (by omega)] at h2
  rw [getD_lt (by rw [List.length_take]; omega), List.getElem_take]
  exact h2
/-- The row in the midst: the first i are those that stay of the first j, from j on nothing has changed. -/
structure Mid (l m : List En) (i j : Nat) : Prop where
  len : m.length = l.length
  lt : i < j
  le : j ≤ l.length
  kept : actE (l.take j) = m.take i
  rest : m.drop j = l.drop j
theorem Mid.at {l m : List En} {i j : Nat} (h : Mid l m i j) (hj : j < l.length) : m.getD j zEntry = l.getD j zEntry := by
  have e := congrArg (fun z : List En => z[0]?) h.rest
  simp only [List.getElem?_drop, Nat.add_zero] at e
  rw [List.getD_eq_getElem?_getD, List.getD_eq_getElem?_getD, e]
theorem Mid.skip {l m : List En} {i j : Nat} (h : Mid l m i j) (hj : j < l.length) (hd : (l.getD j zEntry).Deleted = true) : Mid l m i (j + 1) := by
  refine ⟨h.len, Nat.lt_succ_of_lt h.lt, hj, ?_, ?_⟩
  · rw [actE_take hj, hd, h.kept]; simp
  · have e := congrArg (fun z : List En => z.drop 1) h.rest
    simpa [List.drop_drop, Nat.add_comm] using e
theorem Mid.put {l m : List En} {i j : Nat} (h : Mid l m i j) (hj : j < l.length) (hd : (l.getD j zEntry).Deleted = false) : Mid l (m.set i (l.getD j zEntry)) (i + 1) (j + 1) := by
  have h1 := h.lt
  have h2 := h.len
  refine ⟨by rw [List.length_set]; exact h.len, by omega, hj, ?_, ?_⟩
  · rw [actE_take hj, hd, h.kept, List.take_add_one, List.take_set_of_le (Nat.le_refl _), List.getElem?_set_self (by omega)]
    rfl
  · rw [List.drop_set_of_lt (by omega)]
    have e := congrArg (fun z : List En => z.drop 1) h.rest
    simpa [List.drop_drop, Nat.add_comm] using e
theorem run_clearK (w : World) (t e ty : TypeId) (z : Value) (m : Nat) (hm : 0 < m) (ht : Try.prog.underlying t = some (.slice e)) (hv : (zeroValue e).run Try.prog w = .ok z w) (zs : List Value) (hz : (Builtin.zeroCells z.cells m).toList = zs) (h1 : ∀ u ∈ zs, u.oneCell' = true) (b o c : Nat)
    (hc : ∀ j, j < zs.length → (w.cell? ⟨b, o + j, none⟩).isSome = true) (hf : ∀ j, j < zs.length → w.frozen? ⟨b, o + j, none⟩ = false) :
    (Builtin.clear_ #[t] ty #[.slice (some ⟨b, o, none⟩) m c]).run Try.prog w = .ok (.tuple #[]) (w.setCells b o zs) := by
  have hst := run_storeCells_cells (P := Try.prog) b o zs 0 w (by simpa using hc) (by simpa using hf) h1
  simp only [Nat.add_zero] at hst
  obtain ⟨k, rfl⟩ : ∃ k, m = k + 1 := ⟨m - 1, by omega⟩
  simp [Builtin.clear_, run_underlying ht, hv, hz, hst]
theorem zeros_len (m : Nat) : (Builtin.zeroCells (Value.agg #[.int .i64 0, .int .i64 0, .int .i64 0, .bool false]).cells m).toList.length = m * 4 := by
  rw [Array.length_toList, size_zeroCells]; rfl
theorem zeros_one (m : Nat) : ∀ u ∈ (Builtin.zeroCells (Value.agg #[.int .i64 0, .int .i64 0, .int .i64 0, .bool false]).cells m).toList, u.oneCell' = true := by
  intro u hu
  simp only [Builtin.zeroCells, Value.cells] at hu
  obtain ⟨a, _, rfl⟩ : ∃ a, a < m * 4 ∧ [Value.int IntKind.i64 0, Value.int IntKind.i64 0, Value.int IntKind.i64 0, Value.bool false][a % 4]?.getD default = u := by simpa using hu
  have h4 : a % 4 < 4 := Nat.mod_lt _ (by decide)
  match a % 4, h4 with
  | 0, _ | 1, _ | 2, _ | 3, _ => rfl
set_option maxHeartbeats 4000000 in
theorem delFunc_c (w : World) (base g off c : Nat) (l : List En) (hs : Ow.At w base 38 4 (.slice (some ⟨g, off, none⟩) l.length c) l.length (many l)) (hn : l.length ≤ 16000000) :
    Calls Try.prog 53 #[.slice (some ⟨g, off, none⟩) l.length c, .func (.func 55) #[] #[]] w fun e w' => e = .returned (.slice (some ⟨g, off, none⟩) (actE l).length c) ∧ Ow.At w' base 38 4 (.slice (some ⟨g, off, none⟩) (actE l).length c) (actE l).length (many (actE l)) ∧ w.grownBy w' (some g) := by
  have hc : l.length ≤ c ∧ c ≤ 9223372036854775807 := by
    rcases hs.2 with ⟨e, _⟩ | ⟨g', off', cap', cur, e, _, _, h1, h2, _⟩
    · cases e
    · cases e; exact ⟨h1, by simpa [maxLen] using h2⟩
  obtain ⟨n, hln⟩ : ∃ n, n = l.length := ⟨_, rfl⟩
  have hv : Shs w w.heap.size (rowR 38 4 dasEntry zEntry l).dc (.slice (some ⟨g, off, none⟩) l.length c) := owns_shs _ _ _ (at_own2 hs)
  have HI := idx_c w _ l hn hv
  cases hi : idxD l with
  | none =>
    rw [idxI_none hi] at HI
    rw [actE_none hi]
    have HS := Lib.hid hs
    have HL := Lib.hid hln
    rw [← hln] at HI hn hc ⊢
    clear hv hs hln
    go_enter Try.func53, Try.ntmps53
    go_wp2_with fail
    (with_reducible refine HI.mono ?_); rintro e w1 ⟨rfl, hb1⟩
    go_wp2
    go_ret
    exact ⟨rfl, by rw [HL.out]; exact HS.out.below hb1, ⟨hb1.os, hb1.tape, hb1.output, hb1.size, fun k hk _ => hb1.block k hk⟩⟩
  | some i0 =>
    obtain ⟨q1, q2, q3⟩ := idxD_at hi
    rw [idxI_some hi] at HI
    have HM : Mid l l i0 (i0 + 1) := ⟨rfl, Nat.lt_succ_self _, q1, by rw [actE_take q1, q2, actE_all (by omega) q3]; simp, rfl⟩
    have HS := Lib.hid hs
    have HMM := Lib.hid HM
    have HL := Lib.hid hln
    rw [← hln] at HI q1 hn hc ⊢
    clear hv hs HM hi q2 q3 hln
    go_enter Try.func53, Try.ntmps53
    go_wp2_with fail
    (with_reducible refine HI.mono ?_); rintro e w1 ⟨rfl, hb1⟩
    have HB1 := Lib.hid hb1
    clear hb1 HI
    go_wp2
    go_loopw [5, 6] (fun a b wr => ∃ (i j : Nat) (m : List En), a = .int .i64 i ∧ b = .int .i64 j ∧ Mid l m i j ∧ Ow.At wr base 38 4 (.slice (some ⟨g, off, none⟩) n c) n (many m) ∧ w.grownBy wr (some g)) (fun _ b _ => n - (intOf b).toNat)
    case atStart => exact ⟨i0, i0 + 1, l, rfl, by go_num, HMM.out, by rw [HL.out]; exact HS.out.below HB1.out, ⟨HB1.out.os, HB1.out.tape, HB1.out.output, HB1.out.size, fun k hk _ => HB1.out.block k hk⟩⟩
    case round =>
      obtain ⟨i, j, m, rfl, rfl, hm, hat, hg⟩ := hrel
      have hij := hm.lt
      have hml := hm.len
      have hjl := hm.le
      have hll := HL.out
      have HM := Lib.hid hm
      have HA := Lib.hid hat
      have HG := Lib.hid hg
      by_cases hlt : j < n
      · have hmj := hm.at (by omega)
        obtain ⟨e0, e1, e2, e3⟩ := many_at (l := m) (k := j) (by omega)
        rw [hmj] at e0 e1 e2 e3
        have c0 := (hat.cellAt (j * 4) (by omega)).trans e0
        have c1 := (hat.cellAt (j * 4 + 1) (by omega)).trans e1
        have c2 := (hat.cellAt (j * 4 + 2) (by omega)).trans e2
        have c3 := (hat.cellAt (j * 4 + 3) (by omega)).trans e3
        rw [← Nat.add_assoc] at c1 c2 c3
        obtain ⟨x, hx⟩ : ∃ x, x = l.getD j zEntry := ⟨_, rfl⟩
        rw [← hx] at c0 c1 c2 c3
        have HX := Lib.hid hx
        clear e0 e1 e2 e3 hmj hx hm hat hg hml hll
        go_wp2_with fail
        obtain ⟨w2, hw2⟩ : ∃ y, y = wr.alloc (.cells #[.int .i64 x.Site, .int .i64 x.Handle, .int .i64 x.Version, .bool x.Deleted] 38) := ⟨_, rfl⟩
        have hb2 : Below wr.heap.size wr w2 := hw2 ▸ (Below.refl _ _).alloc (Nat.le_refl _) _
        have hz2 : w2.heap.size = wr.heap.size + 1 := by rw [hw2]; simp
        have hv2 : w2.heap[wr.heap.size]? = some (.cells #[.int .i64 x.Site, .int .i64 x.Handle, .int .i64 x.Version, .bool x.Deleted] 38 (0, 0)) := by rw [hw2]; exact heap_alloc_new wr _
        rw [← hw2]
        clear hw2 c0 c1 c2 c3
        (with_reducible refine (del_c w2 x).mono ?_); rintro e w3 ⟨rfl, hb3⟩
        have hv3 := (hb3.block wr.heap.size (by omega)).trans hv2
        have v0 : w3.cell? ⟨wr.heap.size, 0, none⟩ = some (.int .i64 x.Site) := by simp [World.cell?, hv3]
        have v1 : w3.cell? ⟨wr.heap.size, 1, none⟩ = some (.int .i64 x.Handle) := by simp [World.cell?, hv3]
        have v2 : w3.cell? ⟨wr.heap.size, 2, none⟩ = some (.int .i64 x.Version) := by simp [World.cell?, hv3]
        have v3 : w3.cell? ⟨wr.heap.size, 3, none⟩ = some (.bool x.Deleted) := by simp [World.cell?, hv3]
        have hat3 := (HA.out.below hb2).below hb3
        have hg3 : w.grownBy w3 (some g) := (HG.out.trans ⟨hb2.os, hb2.tape, hb2.output, hb2.size, fun k hk _ => hb2.block k hk⟩).trans ⟨hb3.os, hb3.tape, hb3.output, hb3.size, fun k hk _ => hb3.block k hk⟩
        have HA3 := Lib.hid hat3
        have HG3 := Lib.hid hg3
        cases hd : x.Deleted with
        | true =>
          have HD := Lib.hid (show (l.getD j zEntry).Deleted = true by rw [← HX.out]; exact hd)
          clear hd hat3 hg3 v0 v1 v2 v3 hv3 hb3 hb2 hv2 hz2
          go_wp2
          go_roundw
          case rel =>
            repeat apply Exists.intro
            exact ⟨⟨i, j + 1, m, rfl, by go_num, HM.out.skip (by rw [← HL.out]; exact hlt) HD.out, HA3.out, HG3.out⟩, rfl⟩
          case measure => simp [intOf]; omega
        | false =>
          have HD := Lib.hid (show (l.getD j zEntry).Deleted = false by rw [← HX.out]; exact hd)
          rw [hd] at v3
          have hml := HM.out.len
          have hin : i < n := by omega
          have hmi : i < m.length := by rw [hml, ← HL.out]; exact hin
          obtain ⟨e0, e1, e2, e3⟩ := many_at hmi
          have z0 := (hat3.cellAt (i * 4) (by omega)).trans e0
          have z1 := (hat3.cellAt (i * 4 + 1) (by omega)).trans e1
          have z2 := (hat3.cellAt (i * 4 + 2) (by omega)).trans e2
          have z3 := (hat3.cellAt (i * 4 + 3) (by omega)).trans e3
          rw [← Nat.add_assoc] at z1 z2 z3
          have f0 := hat3.frozenAt (off + i * 4)
          have f1 := hat3.frozenAt (off + i * 4 + 1)
          have f2 := hat3.frozenAt (off + i * 4 + 2)
          have f3 := hat3.frozenAt (off + i * 4 + 3)
          have HMI := Lib.hid hmi
          clear hat3 hg3 hv3 hb3 hb2 hv2 e0 e1 e2 e3 hml hmi
          go_wp2
          go_roundw
          case rel =>
            obtain ⟨k1, g1⟩ := HA3.out.stored (i * 4) (.int .i64 x.Site)
            obtain ⟨k2, g2⟩ := k1.stored (i * 4 + 1) (.int .i64 x.Handle)
            obtain ⟨k3, g3⟩ := k2.stored (i * 4 + 2) (.int .i64 x.Version)
            obtain ⟨k4, g4⟩ := k3.stored (i * 4 + 3) (.bool x.Deleted)
            have hgg := ((((HG3.out.trans g1).trans g2).trans g3).trans g4)
            rw [many_set HMI.out] at k4
            have hput := HM.out.put (by rw [← HL.out]; exact hlt) HD.out
            rw [← HX.out] at hput
            rw [hd] at k4 hgg
            simp only [← Nat.add_assoc] at k4 hgg
            repeat apply Exists.intro
            exact ⟨⟨i + 1, j + 1, _, by go_num, by go_num, hput, k4, hgg⟩, rfl⟩
          case measure => simp [intOf]; omega
      · have hjn : j = n := by have := HL.out; omega
        subst hjn
        obtain ⟨cur, hcur, hcs, htake, hbg⟩ : ∃ cur, wr.heap[g]? = some (.cells cur 38 (0, 0)) ∧ cur.size = off + c * 4 ∧ (cur.toList.drop off).take (j * 4) = many m ∧ base ≤ g := by
          rcases hat.2 with ⟨e, _⟩ | ⟨g', off', cap', cur, e, h1, h2, h3, h4, h5, h6, h7⟩
          · cases e
          · cases e; exact ⟨cur, h2, h5, h6, h1⟩
        obtain ⟨zs, hzs⟩ : ∃ zs, zs = (Builtin.zeroCells (Value.agg #[.int .i64 0, .int .i64 0, .int .i64 0, .bool false]).cells (j - i)).toList := ⟨_, rfl⟩
        have hzl : zs.length = (j - i) * 4 := by rw [hzs]; exact zeros_len _
        obtain ⟨W2, hW2⟩ : ∃ W2, W2 = wr.setCells g (off + i * 4) zs := ⟨_, rfl⟩
        have hcl : ∀ ty, (Builtin.clear_ #[24] ty #[.slice (some ⟨g, off + i * 4, none⟩) (j - i) (c - i)]).run Try.prog wr = .ok (.tuple #[]) W2 := fun ty => by
          rw [hW2]
          refine run_clearK wr _ _ ty _ _ (by omega) Try.underlying24 (Try.zeroValue38 wr) _ hzs.symm (by rw [hzs]; exact zeros_one _) g (off + i * 4) (c - i) (fun q hq => ?_) (fun q hq => frozen_of_row wr g _ cur _ hcur)
          rw [cell_of_row wr g (off + i * 4 + q) cur _ _ hcur, Array.getElem?_eq_getElem (by omega)]; rfl
        have hci : ¬ (c = i) := by omega
        have hin : i ≤ j := by omega
        obtain ⟨c2, hc2, hl2⟩ := E5.heap_cells g 38 zs (off + i * 4) wr cur hcur (by omega)
        rw [← hW2] at hc2
        have ht2 : Turned wr W2 [g] := hW2 ▸ E5.turned_cells g zs _ _
        have HC2 := Lib.hid hc2
        have HL2 := Lib.hid hl2
        have HT2 := Lib.hid ht2
        have HTK := Lib.hid htake
        have HZL := Lib.hid hzl
        have HCS := Lib.hid hcs
        clear hm hg hat hcur htake hzs hW2 hc2 hl2 ht2 hzl hcs hll hml
        go_wp2
        go_ret
        have hk : actE l = m.take i := by
          have := HM.out.kept
          rwa [List.take_of_length_le (by rw [← HL.out]; exact Nat.le_refl _)] at this
        have hlen : (actE l).length = i := by rw [hk, List.length_take]; have := HM.out.len; have := HL.out; omega
        have hz := HZL.out
        have hcs := HCS.out
        have hml : (many m).length = j * 4 := by rw [many_len]; have := HM.out.len; have := HL.out; omega
        have hls : c2.size = cur.size := by
          have := congrArg List.length HL2.out
          simp only [List.length_append, List.length_take, List.length_drop, Array.length_toList] at this
          omega
        rw [hlen]
        refine ⟨rfl, ⟨by rw [many_len, hlen], .inr ⟨g, off, c, c2, rfl, hbg, HC2.out, by omega, by unfold maxLen; omega, by omega, ?_, fun e => by cases e⟩⟩, ?_⟩
        · rw [HL2.out, hk, ← many_take, ← HTK.out]
          have e1 : (cur.toList.take (off + i * 4)).length = off + i * 4 := by rw [List.length_take, Array.length_toList]; omega
          rw [List.append_assoc, List.drop_append_of_le_length (by omega), List.take_append_of_le_length (by rw [List.length_drop]; omega), List.take_of_length_le (by rw [List.length_drop]; omega), List.take_take, Nat.min_eq_left (by omega), List.drop_take, Nat.add_sub_cancel_left]
        · have h2 := HT2.out
          exact HG.out.trans ⟨h2.1, h2.2.1, h2.2.2.1, h2.2.2.2.1, fun k hk hn => h2.2.2.2.2 k hk (fun hb => hn (by simp at hb; rw [hb]))⟩
theorem delFunc_nil (w : World) : Calls Try.prog 53 #[.slice none 0 0, .func (.func 55) #[] #[]] w (Gives (.slice none 0 0) w) := by
  have HI := idx_c w (.slice none 0 0) [] (by simp) (by
    simp only [Da.dc, Shs]
    exact ⟨none, 0, [], rfl, ⟨rfl, fun h => absurd h (Nat.lt_irrefl _)⟩, by simp [ShsL], ⟨Nat.le_refl _, fun _ => ⟨rfl, rfl⟩, fun _ h => by cases h⟩⟩)
  rw [show idxI [] = -1 from rfl] at HI
  go_enter Try.func53, Try.ntmps53
  go_wp2_with fail
  (with_reducible refine HI.mono ?_); rintro e w1 ⟨rfl, hb1⟩
  go_wp2
  go_ret
  exact ⟨rfl, hb1⟩
/-- slices.DeleteFunc of the deleted entries, in a run. -/
theorem cust_delFunc {old : World → Prop} {id q : Nat} {o : Oper} {c : Call} {y : AV} {l : List En} {d d2 : Da} (ho : o.op = .call c) (hc : c.callee = .value (.func 53)) (hy : AvIds y = []) (hd : d.dc = (rowR 38 4 dasEntry zEntry l).dc) (hd2 : d2 = rowR 38 4 dasEntry zEntry (actE l)) (hn : l.length ≤ 16000000) :
    Cust Try.prog old id o [y, .one (.own q), .one (.val (.func (.func 55) #[] #[]))] [.own d] ⟨[], .one (.own id), [(q, .gone), (id, .own d2)]⟩ := by
  subst hd2
  refine cust_call (hlen := by rw [List.flatMap_cons, hy]; rfl) ho hc (con_enters Try.func53 (by kernel_rfl) (by kernel_rfl)) fun W0 obs ρ w args hold hm hv hos hun hn2 => ?_
  obtain ⟨v1, s1, rfl, k1, v2, s2, rfl, k2, k3⟩ := hv
  obtain rfl : s2 = [] := k3
  obtain rfl : v2 = .func (.func 55) #[] #[] := k2
  have hq : obs q = .own d := by rw [List.flatMap_cons, hy] at hos; simpa [AvIds, ScIds] using hos
  obtain ⟨r, bs, hρ, hown⟩ := own_of hm hq
  obtain rfl := own_val (W0 := W0) k1 hρ
  rw [hd] at hown
  obtain ⟨hat, e1⟩ := own_at hown
  obtain ⟨A, cp, hf⟩ := hat.nil_form
  rcases hat.2 with ⟨e, h0⟩ | ⟨g, off, cap, cur, e, h1, h2, _⟩
  · have h0 : l.length = 0 := h0
    obtain rfl : l = [] := List.eq_nil_of_length_eq_zero h0
    have e : v1 = .slice none 0 0 := e
    subst e
    refine (delFunc_nil w).mono ?_
    rintro en w' ⟨rfl, hb⟩
    refine ⟨_, rfl, ?_⟩
    have e1 : bs = [] := e1
    subst e1
    refine post_move (bs' := []) hm hρ (hun id (Nat.le_refl _) (by omega)) ⟨hb.os, hb.tape, hb.output, hb.size, fun k hk _ => hb.block k hk⟩ rfl (fun b hb => by cases hb) (by simp) (ob_own ?_)
    have := at_own2 (l := ([] : List En)) (hat.below hb)
    exact this
  · have e : v1 = _ := e
    subst e
    refine (delFunc_c w W0.heap.size g off cap l hat hn).mono ?_
    rintro en w' ⟨rfl, hat', hg⟩
    refine ⟨_, rfl, ?_⟩
    have e1 : bs = [g] := e1
    subst e1
    refine post_move (bs' := [g]) hm hρ (hun id (Nat.le_refl _) (by omega)) (turned_grown hg) rfl (fun b hb => .inl hb) (by simp) (ob_own ?_)
    have := at_own2 hat'
    exact this
theorem ins_many (l : List En) (k : Nat) (x : En) : (many l).take (k * 4) ++ one x ++ (many l).drop (k * 4) = many (insE l k x) := by
  unfold insE
  rw [many_app, many_take, many_drop, List.append_assoc]
  rfl
theorem many_sing (x : En) : many [x] = one x := by unfold many; simp
/-- slices.Insert of one entry, in a run. -/
theorem cust_insert {old : World → Prop} {id q1 q2 : Nat} {o : Oper} {c : Call} {y : AV} {l : List En} {k : Nat} {x : En} {d1 d2 d3 : Da} (ho : o.op = .call c) (hc : c.callee = .value (.func 64)) (hy : AvIds y = []) (h1 : d1.dc = (rowR 38 4 dasEntry zEntry l).dc) (h2 : d2.dc = (rowR 38 4 dasEntry zEntry [x]).dc) (h3 : d3 = rowR 38 4 dasEntry zEntry (insE l k x)) (hk : k ≤ l.length) (hn : l.length ≤ 16000000) (hne : q1 ≠ q2) :
    Cust Try.prog old id o [y, .one (.own q1), .one (.val (.int .i64 k)), .one (.own q2)] [.own d1, .own d2] ⟨[], .one (.own id), [(q1, .gone), (id, .own d3)]⟩ := by
  subst h3
  exact cust_call (hlen := by rw [List.flatMap_cons, hy]; rfl) ho hc (con_enters Try.func64 (by kernel_rfl) (by kernel_rfl)) fun W0 obs ρ w args hold hm hv hos hun hn2 => by
    obtain ⟨v1, s1, rfl, k1, v2, s2, rfl, k2, v3, s3, rfl, k3, k4⟩ := hv
    obtain rfl : s3 = [] := k4
    obtain rfl : v2 = _ := k2
    have hos2 : obs q1 = .own d1 ∧ obs q2 = .own d2 := by rw [List.flatMap_cons, hy] at hos; simpa [AvIds, ScIds] using hos
    obtain ⟨r1, bs1, hρ1, hown1⟩ := own_of hm hos2.1
    obtain ⟨r2, bs2, hρ2, hown2⟩ := own_of hm hos2.2
    obtain rfl := own_val (W0 := W0) k1 hρ1
    obtain rfl := own_val (W0 := W0) k3 hρ2
    rw [h1] at hown1
    rw [h2] at hown2
    obtain ⟨hat1, e1⟩ := own_at hown1
    obtain ⟨hat2, e2⟩ := own_at hown2
    have hd := hm.apart q1 q2 _ _ hne hρ1 hρ2
    refine (insert_c w W0.heap.size W0.heap.size l.length k v1 v3 (many l) (many [x]) hat1 hat2 (fun b hb hb2 => hd b (by rw [e1, hb]; simp) (by rw [e2, hb2]; simp)) (many_one l) (many_one [x]) hk hn hm.below.size).mono ?_
    rintro e w' ⟨g, off, cap, rfl, hat, hg, hw⟩
    rw [many_sing, ins_many, ← insE_len (x := x) hk] at hat
    refine ⟨_, rfl, ?_⟩
    rw [← insE_len (x := x) hk]
    refine post_move (bs' := [g]) hm hρ1 (hun id (Nat.le_refl _) (by omega)) (by rw [e1]; exact turned_grown hg) rfl (fun b hb => ?_) (by simp) (ob_own (by have := at_own2 hat; exact this))
    obtain rfl := List.mem_singleton.1 hb
    rcases hw with hw | hw
    · exact .inl (by rw [e1, hw]; simp)
    · exact .inr hw
end Go.Proofs.Ytoedfeacpllkeaa.Df17
