import Derived.Test.YtllaacdikjffmaaGreatBb
import Derived.Test.YtllaacdikjffmaaGreatBa
import Derived.Test.YtllaacdikjffmaaGreatEa
import Derived.Shelf.Spec.SlicesInsertGrow
import Derived.Lib.AppendZerosOnto
/-
  slices.Insert of one credential into an own row.
-/
namespace Go.Proofs.YtllaacdikjffmaaGreat.In
open Go.ChangeShapes Go.WideShapes Go.ChangeAt Go.RowKit
open S0 S1 S9
set_option linter.unusedVariables false
set_option linter.unusedSimpArgs false
set_option maxRecDepth 100000
theorem run_copyK {P : Program} (w : World) (dT sT ty elem : TypeId) (size b o dLen dCap : Nat) (a : Addr) (sLen sCap m : Nat) (cs : List Value)
    (hu : P.underlying dT = some (.slice elem)) (hs : (P.info? elem).map (·.size) = some size) (hm : Nat.min sLen dLen = m) (hn : cs.length = m * size)
    (hsrc : ∀ j v, cs[j]? = some v → w.cell? (a.add j) = some v) (hc : ∀ j, j < cs.length → (w.cell? ⟨b, o + j, none⟩).isSome = true) (hf : ∀ j, j < cs.length → w.frozen? ⟨b, o + j, none⟩ = false) (h1 : ∀ v ∈ cs, v.oneCell' = true) :
    (Builtin.copy_ #[dT, sT] ty #[.slice (some ⟨b, o, none⟩) dLen dCap, .slice (some a) sLen sCap]).run P w = .ok (goInt m) (w.setCells b o cs) := by
  have hl := run_loadCells_list (P := P) w a cs hsrc
  have hst := run_storeCells_cells (P := P) b o cs 0 w (by simpa using hc) (by simpa using hf) h1
  cases hq : P.info? elem with
  | none => simp [hq] at hs
  | some i =>
    have hi : i.size = size := by simpa [hq] using hs
    subst hi
    rw [hn] at hl
    simp [Builtin.copy_, run_underlying hu, Builtin.lenOf, Builtin.firstCells, sizeOf, typeInfo, hq, hm, hl, hst]
theorem cred_info : (Tryz.prog.info? 81).map (fun i => (i.zero, i.size, i.bytes)) = some (some (.agg #[.int .i64 0, .int .i64 0, .int .i64 0, .bool false]), 4, 32) := by kernel_rfl
theorem cred_size : (Tryz.prog.info? 81).map (·.size) = some 4 := by kernel_rfl
def InsO (base n i : Nat) (o : Option Nat) (xs us : List Value) (H : Nat) (w : World) (e : Ending) (w' : World) : Prop :=
  ∃ g off cap, e = .returned (.slice (some ⟨g, off, none⟩) (n + 1) cap) ∧ Ow.At w' base 81 4 (.slice (some ⟨g, off, none⟩) (n + 1) cap) (n + 1) (xs.take (i * 4) ++ us ++ xs.drop (i * 4)) ∧ w.grownBy w' o ∧ (o = some g ∨ H ≤ g)
set_option maxHeartbeats 4000000 in
theorem ins_nil (w : World) (base vb voff vc : Nat) (us : List Value) (hs : Ow.At w base 81 4 (.slice none 0 0) 0 []) (hul : us.length = 4)
    (hvs : ∀ j v, us[j]? = some v → w.cell? ⟨vb, voff + j, none⟩ = some v) (h1v : ∀ v ∈ us, v.oneCell' = true) (hb : base ≤ w.heap.size) :
    Calls Tryz.prog 58 #[.slice none 0 0, .int .i64 0, .slice (some ⟨vb, voff, none⟩) 1 vc] w (InsO base 0 0 none [] us w.heap.size w) := by
  obtain ⟨i0, hi0, hz0, hsz0, hb0⟩ := info_parts cred_info
  have s0 := Lib.hid (show ∀ j u, us[j]? = some u → w.cell? ((⟨vb, voff, none⟩ : Addr).add j) = some u from fun j u hj => by rw [Addr.add_lit]; exact hvs j u hj)
  have HS := Lib.hid hs
  clear hs hvs
  go_enter Tryz.func58, Tryz.ntmps58
  go_wp2_with (at_builtin; go_loud (refine Ow.wpList_appAt _ rfl _ _ 50 rfl base 81 i0 _ 4 32 Tryz.underlying50 hi0 hz0 hsz0 hb0 (by simp [Value.cells]) (by omega) _ 0 [] (by simp [Act.eval, Act.put]) HS.out ⟨vb, voff, none⟩ 1 vc us (by simp [Act.eval, Act.put]) (by omega) s0.out h1v (by omega) (by unfold maxLen; omega) (by omega) hb _ rfl ?_); intro g off cap w' k1 k2 k3 k4)
  go_ret
  exact ⟨g, off, cap, rfl, by simpa using k1, k2, k3.elim .inl fun h => .inr (by omega)⟩
set_option maxHeartbeats 4000000 in
theorem ins_end (w : World) (base n g off c vb voff vc : Nat) (xs us : List Value) (hs : Ow.At w base 81 4 (.slice (some ⟨g, off, none⟩) n c) n xs) (hul : us.length = 4)
    (hvs : ∀ j v, us[j]? = some v → w.cell? ⟨vb, voff + j, none⟩ = some v) (h1v : ∀ v ∈ us, v.oneCell' = true) (hn : n ≤ 16000000) (hb : base ≤ w.heap.size) :
    Calls Tryz.prog 58 #[.slice (some ⟨g, off, none⟩) n c, .int .i64 n, .slice (some ⟨vb, voff, none⟩) 1 vc] w (InsO base n n (some g) xs us w.heap.size w) := by
  obtain ⟨i0, hi0, hz0, hsz0, hb0⟩ := info_parts cred_info
  have hxl := hs.1
  have hc : n ≤ c ∧ c ≤ 9223372036854775807 := by
    rcases hs.2 with ⟨e, _⟩ | ⟨g', off', cap', cur, e, _, _, h1, h2, _⟩
    · cases e
    · cases e; exact ⟨h1, by simpa [maxLen] using h2⟩
  obtain ⟨hc1, hc2⟩ := hc
  have s0 := Lib.hid (show ∀ j u, us[j]? = some u → w.cell? ((⟨vb, voff, none⟩ : Addr).add j) = some u from fun j u hj => by rw [Addr.add_lit]; exact hvs j u hj)
  have HS := Lib.hid hs
  clear hs hvs
  by_cases hcn : c = n
  · subst hcn
    go_enter Tryz.func58, Tryz.ntmps58
    go_wp2_with (at_builtin; refine Ow.wpList_appAt _ rfl _ _ 50 rfl base 81 i0 _ 4 32 Tryz.underlying50 hi0 hz0 hsz0 hb0 (by simp [Value.cells]) (by omega) _ c xs (by simp [Act.eval, Act.put]) HS.out ⟨vb, voff, none⟩ 1 vc us (by simp [Act.eval, Act.put]) (by omega) s0.out h1v (by omega) (by unfold maxLen; omega) (by omega) hb _ rfl ?_; intro g off cap w' k1 k2 k3 k4)
    go_ret
    refine ⟨g, off, cap, rfl, ?_, k2, k3.elim .inl fun h => .inr (by omega)⟩
    rw [List.take_of_length_le (by omega), List.drop_of_length_le (by omega), List.append_nil]
    exact k1
  · go_enter Tryz.func58, Tryz.ntmps58
    go_wp2_with (at_builtin; refine Ow.wpList_appAt _ rfl _ _ 50 rfl base 81 i0 _ 4 32 Tryz.underlying50 hi0 hz0 hsz0 hb0 (by simp [Value.cells]) (by omega) _ n xs (by simp [Act.eval, Act.put]) HS.out ⟨vb, voff, none⟩ 1 vc us (by simp [Act.eval, Act.put]) (by omega) s0.out h1v (by omega) (by unfold maxLen; omega) (by omega) hb _ rfl ?_; intro g off cap w' k1 k2 k3 k4)
    go_ret
    refine ⟨g, off, cap, rfl, ?_, k2, k3.elim .inl fun h => .inr (by omega)⟩
    rw [List.take_of_length_le (by omega), List.drop_of_length_le (by omega), List.append_nil]
    exact k1
/-- What the two copies leave of a row of cells. -/
theorem two_copies {cur c1 c2 : List Value} {o i n : Nat} {xs us : List Value} (hx : xs.length = n * 4) (hu : us.length = 4) (hi : i < n) (hcur : o + (n + 1) * 4 ≤ cur.length) (h0 : (cur.drop o).take (i * 4) = xs.take (i * 4))
    (h1 : c1 = cur.take (o + i * 4) ++ us ++ cur.drop (o + i * 4 + us.length)) (h2 : c2 = c1.take (o + (i + 1) * 4) ++ xs.drop (i * 4) ++ c1.drop (o + (i + 1) * 4 + (xs.drop (i * 4)).length)) :
    c2.length = cur.length ∧ (c2.drop o).take ((n + 1) * 4) = xs.take (i * 4) ++ us ++ xs.drop (i * 4) := by
  have e1 : (cur.take (o + i * 4)).length = o + i * 4 := by rw [List.length_take]; omega
  have e2 : cur.take (o + i * 4) = cur.take o ++ xs.take (i * 4) := by rw [List.take_add, h0]
  have l1 : c1.length = cur.length := by rw [h1]; simp only [List.length_append, List.length_take, List.length_drop]; omega
  have t1 : c1.take (o + (i + 1) * 4) = cur.take (o + i * 4) ++ us := by
    rw [h1, List.append_assoc, ← List.append_assoc, List.take_append_of_le_length (by rw [List.length_append, e1]; omega), List.take_of_length_le (by rw [List.length_append, e1]; omega)]
  refine ⟨by rw [h2]; simp only [List.length_append, List.length_take, List.length_drop]; omega, ?_⟩
  have e3 : (cur.take o).length = o := by rw [List.length_take]; omega
  have e4 : (xs.take (i * 4)).length = i * 4 := by rw [List.length_take]; omega
  rw [h2, t1, e2, List.append_assoc, List.append_assoc, List.append_assoc, List.drop_append_of_le_length (by omega), List.drop_of_length_le (by omega), List.nil_append, ← List.append_assoc, ← List.append_assoc, List.take_append_of_le_length (by simp only [List.length_append, List.length_drop]; omega), List.take_of_length_le (by simp only [List.length_append, List.length_drop]; omega)]
/-- .. where the new one was copied in last. -/
theorem two_copies2 {cur c1 c2 : List Value} {o i n : Nat} {xs us : List Value} (hx : xs.length = n * 4) (hu : us.length = 4) (hi : i < n) (hcur : o + (n + 1) * 4 ≤ cur.length) (h0 : (cur.drop o).take (i * 4) = xs.take (i * 4))
    (h1 : c1 = cur.take (o + (i + 1) * 4) ++ xs.drop (i * 4) ++ cur.drop (o + (i + 1) * 4 + (xs.drop (i * 4)).length)) (h2 : c2 = c1.take (o + i * 4) ++ us ++ c1.drop (o + i * 4 + us.length)) :
    c2.length = cur.length ∧ (c2.drop o).take ((n + 1) * 4) = xs.take (i * 4) ++ us ++ xs.drop (i * 4) := by
  have hd : (xs.drop (i * 4)).length = (n - i) * 4 := by rw [List.length_drop]; omega
  have hk : (cur.take (o + (i + 1) * 4)).length = o + (i + 1) * 4 := by rw [List.length_take]; omega
  have l1 : c1.length = cur.length := by rw [h1]; simp only [List.length_append, List.length_take, List.length_drop]; omega
  have t1 : c1.take (o + i * 4) = cur.take o ++ xs.take (i * 4) := by
    rw [h1, List.append_assoc, List.take_append_of_le_length (by omega), List.take_take, Nat.min_eq_left (by omega), List.take_add, h0]
  have t2 : c1.drop (o + i * 4 + us.length) = xs.drop (i * 4) ++ cur.drop (o + (i + 1) * 4 + (xs.drop (i * 4)).length) := by
    rw [h1, List.append_assoc, hu, show o + i * 4 + 4 = (cur.take (o + (i + 1) * 4)).length by omega, List.drop_left]
  have e3 : (cur.take o).length = o := by rw [List.length_take]; omega
  have e4 : (xs.take (i * 4)).length = i * 4 := by rw [List.length_take]; omega
  refine ⟨by rw [h2]; simp only [List.length_append, List.length_take, List.length_drop]; omega, ?_⟩
  rw [h2, t1, t2, List.append_assoc, List.append_assoc, List.drop_append_of_le_length (by omega), List.drop_of_length_le (by omega), List.nil_append, ← List.append_assoc, ← List.append_assoc, List.take_append_of_le_length (by simp only [List.length_append]; omega), List.take_of_length_le (by simp only [List.length_append]; omega)]
set_option maxHeartbeats 4000000 in
theorem ins_shift (w : World) (base n i g off c vb voff vc : Nat) (xs us : List Value) (hs : Ow.At w base 81 4 (.slice (some ⟨g, off, none⟩) n c) n xs) (hul : us.length = 4)
    (hvs : ∀ j v, us[j]? = some v → w.cell? ⟨vb, voff + j, none⟩ = some v) (h1x : ∀ v ∈ xs, v.oneCell' = true) (h1v : ∀ v ∈ us, v.oneCell' = true) (hvb : vb ≠ g) (hi : i < n) (hroom : n + 1 ≤ c) (hn : n ≤ 16000000) (hb : base ≤ w.heap.size)
    (tA kA : Nat) (hsa : w.shape? vb = some (tA, kA)) (hfa : w.frozen? ⟨vb, voff, none⟩ = false) (hfe : w.frozen? ⟨vb, kA, none⟩ = false) :
    Calls Tryz.prog 58 #[.slice (some ⟨g, off, none⟩) n c, .int .i64 i, .slice (some ⟨vb, voff, none⟩) 1 vc] w (InsO base n i (some g) xs us w.heap.size w) := by
  have hxl := hs.1
  obtain ⟨cur, hcur, hcs, htake, hbg, hc63⟩ : ∃ cur, w.heap[g]? = some (.cells cur 81 (0, 0)) ∧ cur.size = off + c * 4 ∧ (cur.toList.drop off).take (n * 4) = xs ∧ base ≤ g ∧ c ≤ 9223372036854775807 := by
    rcases hs.2 with ⟨e, _⟩ | ⟨g', off', cap', cur, e, h1, h2, h3, h4, h5, h6, h7⟩
    · cases e
    · cases e; exact ⟨cur, h2, h5, h6, h1, by simpa [maxLen] using h4⟩
  have hcm : c ≤ maxLen := by unfold maxLen; omega
  have mixed : Tryz.prog.follows .mixedOrders = true := by kernel_rfl
  have hcell : ∀ j, j < n * 4 → w.cell? ⟨g, off + j, none⟩ = xs[j]? := hs.cellAt
  have hsp : ∀ j, j < c * 4 → (w.cell? ⟨g, off + j, none⟩).isSome = true := fun j hj => by
    rw [cell_of_row w g (off + j) cur _ _ hcur, Array.getElem?_eq_getElem (by omega)]; rfl
  have hfz : ∀ j, w.frozen? ⟨g, j, none⟩ = false := hs.frozenAt
  have hsb : w.shape? g = some (81, cur.size) := by simp [World.shape?, hcur]
  have hz1 : ¬ ((i : Int) = (n : Int)) := by omega
  have hov : ∀ lb cb, (callFunc 84 #[.slice (some ⟨vb, voff, none⟩) 1 vc, .slice (some ⟨g, off + (i + 1) * 4, none⟩) lb cb]).run Tryz.prog w = .ok (.value (.bool false)) w := fun lb cb => by
    rw [run_callFunc_extern Tryz.func84 (by kernel_rfl) (by kernel_rfl) (by kernel_rfl) (e := Extern.SlicesOverlaps.overlaps #[50, 50] #[4]) (by kernel_rfl),
      Lib.run_overlaps_apart w 50 4 81 Tryz.underlying50 4 (fun w => by
        obtain ⟨i0, hi0, hz0, hsz0, hb0⟩ := info_parts cred_info
        simp [sizeOf, typeInfo, hi0, hsz0]) ⟨vb, voff, none⟩ ⟨g, off + (i + 1) * 4, none⟩ 1 vc lb cb hvb tA _ kA _ hsa hsb (by omega) hfa hfe]
    rfl
  have hdl : (xs.drop (i * 4)).length = (n - i) * 4 := by rw [List.length_drop]; omega
  have hw1 : IntKind.i64.wrap ((i : Int) + 1) = (i : Int) + 1 := by rw [IntKind.wrap_i64]; omega
  have hb1 : (0 : Int) ≤ (i : Int) + 1 := by omega
  have hin : i ≤ n := by omega
  have htn : ((i : Int) + 1).toNat = i + 1 := by omega
  have hb2 : ¬ (c = i + 1) := by omega
  have hb3 : (i : Int) ≤ (n : Int) + 1 := by omega
  have hb4 : ¬ (c = i) := by omega
  have hcp1 : ∀ ty dc sc, (Builtin.copy_ #[50, 50] ty #[.slice (some ⟨g, off + (i + 1) * 4, none⟩) (n - i) dc, .slice (some ⟨g, off + i * 4, none⟩) (n + 1 - i) sc]).run Tryz.prog w.drew = .ok (goInt ((n - i : Nat) : Int)) (w.drew.setCells g (off + (i + 1) * 4) (xs.drop (i * 4))) := fun ty dc sc =>
    run_copyK w.drew _ _ ty 81 4 g (off + (i + 1) * 4) (n - i) dc ⟨g, off + i * 4, none⟩ (n + 1 - i) sc (n - i) (xs.drop (i * 4)) Tryz.underlying50 cred_size (by simp only [Nat.min_def]; split <;> omega) hdl
      (fun j v hj => by
        have hl := (List.getElem?_eq_some_iff.1 hj).1
        rw [Addr.add_lit, Nat.add_assoc]
        exact (hcell _ (by omega)).trans (by rwa [List.getElem?_drop] at hj))
      (fun j hj => by rw [Nat.add_assoc]; exact hsp _ (by omega)) (fun j hj => hfz _) (fun v hv => h1x v (List.mem_of_mem_drop hv))
  obtain ⟨W1, hW1⟩ : ∃ W1, W1 = w.drew.setCells g (off + (i + 1) * 4) (xs.drop (i * 4)) := ⟨_, rfl⟩
  obtain ⟨c1, hc1, hl1⟩ := E5.heap_cells g 81 (xs.drop (i * 4)) (off + (i + 1) * 4) w.drew cur hcur (by omega)
  rw [← hW1] at hc1
  have hsz1 : c1.size = cur.size := by
    have := congrArg List.length hl1
    simp only [List.length_append, List.length_take, List.length_drop, Array.length_toList] at this
    omega
  have hvw : ∀ j v, us[j]? = some v → W1.cell? ⟨vb, voff + j, none⟩ = some v := fun j v hj => by
    rw [hW1, World.cell?_setCells_out g _ _ _ _ (fun h _ => absurd h hvb)]
    exact hvs j v hj
  have hcp2 : ∀ (W : World), (∀ x, W.cell? x = W1.cell? x) → (∀ x, W.frozen? x = W1.frozen? x) → ∀ ty dc, (Builtin.copy_ #[50, 50] ty #[.slice (some ⟨g, off + i * 4, none⟩) (n + 1 - i) dc, .slice (some ⟨vb, voff, none⟩) 1 vc]).run Tryz.prog W = .ok (goInt ((1 : Nat) : Int)) (W.setCells g (off + i * 4) us) := fun W hWc hWf ty dc =>
    run_copyK W _ _ ty 81 4 g (off + i * 4) (n + 1 - i) dc ⟨vb, voff, none⟩ 1 vc 1 us Tryz.underlying50 cred_size (by simp only [Nat.min_def]; split <;> omega) (by omega)
      (fun j v hj => by rw [Addr.add_lit, hWc]; exact hvw j v hj)
      (fun j hj => by rw [hWc, cell_of_row W1 g _ c1 _ _ hc1, Array.getElem?_eq_getElem (by omega)]; rfl)
      (fun j hj => by rw [hWf]; exact frozen_of_row W1 g _ c1 _ hc1) h1v
  rw [← hW1] at hcp1
  have HW := Lib.hid hW1
  have HL := Lib.hid hl1
  clear hW1 hl1 hs hcell hsp hvs
  go_enter Tryz.func58, Tryz.ntmps58
  go_wp2_with (simp only [hov])
  go_region_law_o (refine step_copy_runI rfl _ _ 50 50 rfl _ _ (by simp [Act.eval, Act.put]) (by simp [Act.eval, Act.put]) (hcp1 _ _ _) ?_)
  go_wp2_with (at_builtin; refine wpList_copy_runI _ rfl _ _ 50 50 rfl _ _ rfl rfl (hcp2 _ (fun _ => rfl) (fun _ => rfl) _ _) ?_)
  go_ret
  obtain ⟨c2, hc2, hl2⟩ := E5.heap_cells g 81 us (off + i * 4) W1 c1 hc1 (by omega)
  obtain ⟨q1, q2⟩ := two_copies2 (cur := cur.toList) (c1 := c1.toList) (c2 := c2.toList) (o := off) hxl hul hi (by rw [Array.length_toList]; omega) (by rw [← htake, List.take_take, Nat.min_eq_left (by omega)]) HL.out hl2
  have ht1 : Turned w W1 [g] := HW.out ▸ E5.turned_cells g (xs.drop (i * 4)) (off + (i + 1) * 4) w.drew
  have ht2 := turned_trans ht1 (E5.turned_cells g us (off + i * 4) W1)
  refine ⟨g, off, c, rfl, ⟨?_, .inr ⟨g, off, c, c2, rfl, hbg, hc2, hroom, hcm, ?_, q2, fun e => by cases e⟩⟩, ⟨ht2.1, ht2.2.1, ht2.2.2.1, ht2.2.2.2.1, fun k hk hn => ht2.2.2.2.2 k hk (fun hb => hn (by simp at hb; rw [hb]))⟩, .inl rfl⟩
  · simp only [List.length_append, List.length_take, List.length_drop]; omega
  · rw [← Array.length_toList, q1, Array.length_toList]; omega
set_option maxHeartbeats 4000000 in
theorem ins_grow (w : World) (base n i g off c vb voff vc : Nat) (xs us : List Value) (hs : Ow.At w base 81 4 (.slice (some ⟨g, off, none⟩) n c) n xs) (hul : us.length = 4)
    (hvs : ∀ j v, us[j]? = some v → w.cell? ⟨vb, voff + j, none⟩ = some v) (h1x : ∀ v ∈ xs, v.oneCell' = true) (h1v : ∀ v ∈ us, v.oneCell' = true) (hi : i < n) (hroom : ¬ n + 1 ≤ c) (hn : n ≤ 16000000) (hb : base ≤ w.heap.size) :
    Calls Tryz.prog 58 #[.slice (some ⟨g, off, none⟩) n c, .int .i64 i, .slice (some ⟨vb, voff, none⟩) 1 vc] w (InsO base n i (some g) xs us w.heap.size w) := by
  have hxl := hs.1
  obtain ⟨i0, hi0, hz0, hsz0, hb0⟩ := info_parts cred_info
  have mixed : Tryz.prog.follows .mixedOrders = true := by kernel_rfl
  have hnc : c = n := by
    rcases hs.2 with ⟨e, _⟩ | ⟨g', off', cap', cur, e, _, _, h1, _⟩
    · cases e
    · cases e; omega
  subst hnc
  have hgw : g < w.heap.size := (hs.lt g rfl).2
  have hcell : ∀ j, j < c * 4 → w.cell? ⟨g, off + j, none⟩ = xs[j]? := hs.cellAt
  have hvw : vb < w.heap.size := block_lt_of_cell (hvs 0 _ (List.getElem?_eq_getElem (by omega)))
  have hz1 : ¬ ((i : Int) = (c : Int)) := by omega
  have hz3 : (c : Int) < (c : Int) + 1 := by omega
  have hkk : (c : Int) + 1 - (i : Int) = ((c + 1 - i : Nat) : Int) := by omega
  have hik : i + (c + 1 - i) = c + 1 := by omega
  have hold : (Builtin.firstCells i0.size i (.slice (some ⟨g, off, none⟩) i c)).run Tryz.prog w.drew = .ok (xs.take (i * 4)).toArray w.drew := by
    rw [hsz0]
    exact run_firstCells_some w.drew 4 i ⟨g, off, none⟩ i c (xs.take (i * 4)) (by rw [List.length_take]; omega) (fun j v hj => by
      rw [Addr.add_lit]
      rw [List.getElem?_take] at hj
      split at hj
      · exact (hcell j (by omega)).trans hj
      · cases hj)
  obtain ⟨Z, hZ⟩ : ∃ Z : Value, Z = .agg #[.int .i64 0, .int .i64 0, .int .i64 0, .bool false] := ⟨_, rfl⟩
  have hZc : Z.cells.size = 4 := by rw [hZ]; rfl
  rw [← hZ] at hz0
  have hrz : ∀ ty, (Builtin.append_ #[50, 3] ty #[.slice (some ⟨g, off, none⟩) i c, .int .i64 ((c : Int) + 1 - (i : Int))]).run Tryz.prog w =
      .ok (.slice (some ⟨w.heap.size, 0, none⟩) (c + 1) (grownCap w (c + 1) c 81)) (w.drew.alloc (.cells ((xs.take (i * 4)).toArray ++ Builtin.zeroCells Z.cells (c + 1 - i) ++ Builtin.zeroCells Z.cells (grownCap w (c + 1) c 81 - (c + 1))) 81)) := fun ty => by
    have h := Lib.run_append_grow_zeros w 50 3 ty 81 i0 _ .i64 .i64 Tryz.underlying50 Tryz.underlying3 hi0 hz0 (some ⟨g, off, none⟩) i c (xs.take (i * 4)) hold (c + 1 - i) (by omega) (by omega) (by omega) (by omega) (by rw [hb0]; omega) (by rw [hb0, hik]; exact growslice_fits (by omega) (by omega))
    rw [hik] at h
    rw [hkk]
    exact h
  obtain ⟨G, hG⟩ : ∃ G, G = grownCap w (c + 1) c 81 := ⟨_, rfl⟩
  obtain ⟨ROW, hROW⟩ : ∃ ROW : Array Value, ROW = (xs.take (i * 4)).toArray ++ Builtin.zeroCells Z.cells (c + 1 - i) ++ Builtin.zeroCells Z.cells (G - (c + 1)) := ⟨_, rfl⟩
  rw [← hG] at hrz
  rw [← hROW] at hrz
  have hGn : c + 1 ≤ G := by rw [hG]; exact grownCap_ge w _ _ _
  have hGm : G ≤ maxLen := by rw [hG]; exact grownCap_le_maxLen w (c + 1) c _ (by unfold maxLen; omega)
  have hG63 : G ≤ 9223372036854775807 := by unfold maxLen at hGm; omega
  have hRl : ROW.size = G * 4 := by
    rw [hROW]
    simp only [Array.size_append, List.size_toArray, size_zeroCells, hZc, List.length_take]
    omega
  have hRt : ROW.toList.take (i * 4) = xs.take (i * 4) := by
    rw [hROW]
    simp only [Array.toList_append, List.append_assoc]
    rw [List.take_append_of_le_length (by rw [List.length_take]; omega), List.take_take, Nat.min_self]
  obtain ⟨W1, hW1⟩ : ∃ W1, W1 = w.drew.alloc (.cells ROW 81) := ⟨_, rfl⟩
  rw [← hW1] at hrz
  have hN : ∀ j, j < (c + 1) * 4 → (W1.cell? ⟨w.heap.size, j, none⟩).isSome = true := fun j hj => by
    rw [hW1, World.cell?_alloc_at (w := w.drew) ROW _ w.heap.size j rfl, Array.getElem?_eq_getElem (by omega)]; rfl
  have hNf : ∀ j, W1.frozen? ⟨w.heap.size, j, none⟩ = false := fun j => by rw [hW1]; exact World.frozen?_alloc_at (w := w.drew) ROW _ w.heap.size j rfl
  have hOb : ∀ j v, w.cell? ⟨g, j, none⟩ = some v → W1.cell? ⟨g, j, none⟩ = some v := fun j v h => by rw [hW1, World.cell?_alloc_past (w := w.drew) _ g j hgw]; exact h
  have hOv : ∀ j v, w.cell? ⟨vb, j, none⟩ = some v → W1.cell? ⟨vb, j, none⟩ = some v := fun j v h => by rw [hW1, World.cell?_alloc_past (w := w.drew) _ vb j hvw]; exact h
  have hcpA : ∀ (W : World), (∀ x, W.cell? x = W1.cell? x) → (∀ x, W.frozen? x = W1.frozen? x) → ∀ ty dc, (Builtin.copy_ #[50, 50] ty #[.slice (some ⟨w.heap.size, i * 4, none⟩) (c + 1 - i) dc, .slice (some ⟨vb, voff, none⟩) 1 vc]).run Tryz.prog W = .ok (goInt ((1 : Nat) : Int)) (W.setCells w.heap.size (i * 4) us) := fun W hWc hWf ty dc =>
    run_copyK W _ _ ty 81 4 w.heap.size (i * 4) (c + 1 - i) dc ⟨vb, voff, none⟩ 1 vc 1 us Tryz.underlying50 cred_size (by simp only [Nat.min_def]; split <;> omega) (by omega)
      (fun j v hj => by rw [Addr.add_lit, hWc]; exact hOv _ v (hvs j v hj))
      (fun j hj => by rw [hWc]; exact hN _ (by omega)) (fun j hj => by rw [hWf]; exact hNf _) h1v
  have hGi : ¬ (G = i) := by omega
  have hGim : ¬ (G = i + 1) := by omega
  have hci : ¬ (c = i) := by omega
  have hbN : g ≠ w.heap.size := by omega
  have hdl : (xs.drop (i * 4)).length = (c - i) * 4 := by rw [List.length_drop]; omega
  have hcpB : ∀ (W : World), (∀ x, W.cell? x = (W1.setCells w.heap.size (i * 4) us).cell? x) → (∀ x, W.frozen? x = (W1.setCells w.heap.size (i * 4) us).frozen? x) → ∀ ty dc sc, (Builtin.copy_ #[50, 50] ty #[.slice (some ⟨w.heap.size, (i + 1) * 4, none⟩) (c - i) dc, .slice (some ⟨g, off + i * 4, none⟩) (c - i) sc]).run Tryz.prog W = .ok (goInt ((c - i : Nat) : Int)) (W.setCells w.heap.size ((i + 1) * 4) (xs.drop (i * 4))) := fun W hWc hWf ty dc sc =>
    run_copyK W _ _ ty 81 4 w.heap.size ((i + 1) * 4) (c - i) dc ⟨g, off + i * 4, none⟩ (c - i) sc (c - i) (xs.drop (i * 4)) Tryz.underlying50 cred_size (by simp only [Nat.min_def]; split <;> omega) hdl
      (fun j v hj => by
        have hl := (List.getElem?_eq_some_iff.1 hj).1
        rw [Addr.add_lit, hWc, World.cell?_setCells_out _ _ _ _ _ (fun h _ => absurd h hbN), Nat.add_assoc]
        exact hOb _ v ((hcell (i * 4 + j) (by omega)).trans (by rwa [List.getElem?_drop] at hj)))
      (fun j hj => by rw [hWc]; exact isSome_setCells _ _ _ _ (fun t ht => hN _ (by omega)) _ (hN _ (by omega)))
      (fun j hj => by rw [hWf, World.frozen?_setCells]; exact hNf _) (fun v hv => h1x v (List.mem_of_mem_drop hv))
  have hw1 : IntKind.i64.wrap ((i : Int) + 1) = (i : Int) + 1 := by rw [IntKind.wrap_i64]; omega
  have hb1 : (0 : Int) ≤ (i : Int) + 1 := by omega
  have hin : i ≤ c := by omega
  have htn : ((i : Int) + 1).toNat = i + 1 := by omega
  have hb3 : (i : Int) ≤ (c : Int) := by omega
  obtain ⟨c1, hc1, hl1⟩ := E5.heap_cells w.heap.size 81 us (i * 4) W1 ROW (by rw [hW1]; exact heap_alloc_new w.drew _) (by omega)
  have HL := Lib.hid hl1
  have HB := Lib.hid hb
  have HR := Lib.hid hRl
  have HT := Lib.hid hRt
  have HGM := Lib.hid hGm
  have HC1 := Lib.hid hc1
  subst hW1
  have hE1 : ∀ x, ((w.alloc (.cells ROW 81)).drew).cell? x = (w.drew.alloc (.cells ROW 81)).cell? x := fun x => rfl
  have hE2 : ∀ x, ((w.alloc (.cells ROW 81)).drew).frozen? x = (w.drew.alloc (.cells ROW 81)).frozen? x := fun x => rfl
  have hF1 : ∀ x, (((w.alloc (.cells ROW 81)).drew.setCells w.heap.size (i * 4) us).drew).cell? x = ((w.drew.alloc (.cells ROW 81)).setCells w.heap.size (i * 4) us).cell? x := fun x => rfl
  have hF2 : ∀ x, (((w.alloc (.cells ROW 81)).drew.setCells w.heap.size (i * 4) us).drew).frozen? x = ((w.drew.alloc (.cells ROW 81)).setCells w.heap.size (i * 4) us).frozen? x := fun x => rfl
  clear hkk hik hold hROW hG hRl hs hcell hvs hZ hZc hz0 hb hRt hGm hc1 hl1
  go_enter Tryz.func58, Tryz.ntmps58
  go_wp2_with (first
    | (at_builtin; refine Lib.wpList_append_run _ rfl _ _ _ _ rfl _ _ rfl rfl _ _ (hrz _) ?_)
    | (at_builtin; refine wpList_copy_runI _ rfl _ _ 50 50 rfl _ _ rfl rfl (hcpA _ hE1 hE2 _ _) ?_)
    | (at_builtin; refine wpList_copy_runI _ rfl _ _ 50 50 rfl _ _ rfl rfl (hcpB _ (fun _ => rfl) (fun _ => rfl) _ _ _) ?_))
  go_region_law_o (refine step_copy_runI rfl _ _ 50 50 rfl (.slice (some ⟨w.heap.size, (i + 1) * 4, none⟩) (c - i) (G - (i + 1))) (.slice (some ⟨g, off + i * 4, none⟩) (c - i) (c - i)) (by simp [Act.eval, Act.put]) (by simp [Act.eval, Act.put]) (hcpB _ hF1 hF2 3 (G - (i + 1)) (c - i)) ?_)
  go_wp2
  go_ret
  have hRs := HR.out
  have l1 : c1.size = ROW.size := by
    have := congrArg List.length HL.out
    simp only [List.length_append, List.length_take, List.length_drop, Array.length_toList] at this
    omega
  obtain ⟨c2, hc2, hl2⟩ := E5.heap_cells w.heap.size 81 (xs.drop (i * 4)) ((i + 1) * 4) (((w.alloc (.cells ROW 81)).drew.setCells w.heap.size (i * 4) us).drew) c1 (show (((w.drew.alloc (.cells ROW 81)).setCells w.heap.size (i * 4) us).drew).heap[w.heap.size]? = _ from HC1.out) (by omega)
  obtain ⟨q1, q2⟩ := two_copies (cur := ROW.toList) (c1 := c1.toList) (c2 := c2.toList) (o := 0) hxl hul hi (by rw [Array.length_toList]; omega) (by rw [List.drop_zero]; exact HT.out) (by rw [Nat.zero_add]; exact HL.out) (by rw [Nat.zero_add]; exact hl2)
  have ht1 := turned_trans (E5.turned_cells w.heap.size us (i * 4) (w.alloc (.cells ROW 81)).drew) (show Turned _ (((w.alloc (.cells ROW 81)).drew.setCells w.heap.size (i * 4) us).drew) [w.heap.size] from turned_refl _ _)
  have ht2 := turned_trans ht1 (E5.turned_cells w.heap.size (xs.drop (i * 4)) ((i + 1) * 4) _)
  refine ⟨w.heap.size, 0, G, rfl, ⟨?_, .inr ⟨w.heap.size, 0, G, c2, rfl, HB.out, hc2, hGn, HGM.out, ?_, q2, fun e => by cases e⟩⟩, ⟨ht2.1, ht2.2.1, ht2.2.2.1, Nat.le_trans (by simp) ht2.2.2.2.1, fun k hk hn => ?_⟩, .inr (Nat.le_refl _)⟩
  · simp only [List.length_append, List.length_take, List.length_drop]; omega
  · rw [← Array.length_toList, q1, Array.length_toList]; omega
  · refine (ht2.2.2.2.2 k (Nat.lt_of_lt_of_le hk (by simp)) (fun hb => ?_)).trans ?_
    · have : k = w.heap.size := by simpa using hb
      omega
    · exact Go.heap_alloc_old w _ hk
theorem insert_c (w : World) (base lo2 n i : Nat) (sv vv : Value) (xs us : List Value) (hs : Ow.At w base 81 4 sv n xs) (hv : Ow.At w lo2 81 4 vv 1 us) (hap : ∀ b, sv.ownBlock = some b → vv.ownBlock ≠ some b)
    (h1x : ∀ v ∈ xs, v.oneCell' = true) (h1v : ∀ v ∈ us, v.oneCell' = true) (hi : i ≤ n) (hn : n ≤ 16000000) (hb : base ≤ w.heap.size) :
    Calls Tryz.prog 58 #[sv, .int .i64 i, vv] w (InsO base n i sv.ownBlock xs us w.heap.size w) := by
  have hul : us.length = 4 := by have := hv.1; omega
  obtain ⟨vb, voff, vc, rfl, hvl, hvw⟩ := hv.form (by omega)
  have hvs : ∀ j v, us[j]? = some v → w.cell? ⟨vb, voff + j, none⟩ = some v := fun j v hj => by
    have hl := (List.getElem?_eq_some_iff.1 hj).1
    exact (hv.cellAt j (by omega)).trans hj
  obtain ⟨A, c, rfl⟩ := hs.nil_form
  cases A with
  | none =>
    rcases hs.2 with ⟨e, h0⟩ | ⟨g', off', cap', cur, e, _⟩
    · injection e with _ e2 e3
      subst e2 e3
      obtain rfl : xs = [] := List.eq_nil_of_length_eq_zero (by have := hs.1; omega)
      obtain rfl : i = 0 := by omega
      exact ins_nil w base vb voff vc us hs hul hvs h1v hb
    · cases e
  | some a =>
    obtain ⟨g, off, rfl⟩ : ∃ g off, a = ⟨g, off, none⟩ := by
      rcases hs.2 with ⟨e, _⟩ | ⟨g', off', cap', cur, e, _⟩
      · cases e
      · cases e; exact ⟨_, _, rfl⟩
    rcases Nat.lt_or_ge i n with h | h
    · by_cases hroom : n + 1 ≤ c
      · have hne : vb ≠ g := fun e => hap g rfl (by rw [e]; rfl)
        obtain ⟨cv, hcv⟩ : ∃ cv, w.heap[vb]? = some (.cells cv 81 (0, 0)) := by
          rcases hv.2 with ⟨e, _⟩ | ⟨g', off', cap', cur, e, h1, h2, _⟩
          · cases e
          · cases e; exact ⟨cur, h2⟩
        exact ins_shift w base n i g off c vb voff vc xs us hs hul hvs h1x h1v hne h hroom hn hb 81 cv.size (by simp [World.shape?, hcv]) (hv.frozenAt _) (hv.frozenAt _)
      · exact ins_grow w base n i g off c vb voff vc xs us hs hul hvs h1x h1v h hroom hn hb
    · obtain rfl : i = n := by omega
      exact ins_end w base i g off c vb voff vc xs us hs hul hvs h1v hn hb
end Go.Proofs.YtllaacdikjffmaaGreat.In
