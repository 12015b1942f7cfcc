/-
  slices.Contains, slices.BinarySearch, slices.Insert of one value, at numbers, in the words of rows that a call owns. (The library's own contracts are laid in the Shelf.)
-/
import Derived.Test.YtpeagjpcdoegoaaS1
import Derived.Test.YtpeagjpcdoegoaaShelf
namespace Go.Proofs.Ytpeagjpcdoegoaa.Si
open Go.ChangeShapes Go.WideShapes Go.ChangeAt Go.RowKit
open S0 S1
set_option linter.unusedVariables false
set_option maxRecDepth 100000
theorem heap_setCells (g : Nat) (e : TypeId) : ∀ (vs : List Value) (o : Nat) (w : World) (cur : Array Value), w.heap[g]? = some (.cells cur e (0, 0)) → o + vs.length ≤ cur.size →
    ∃ cur' : Array Value, (w.setCells g o vs).heap[g]? = some (.cells cur' e (0, 0)) ∧ cur'.toList = cur.toList.take o ++ vs ++ cur.toList.drop (o + vs.length)
  | [], o, w, cur, h, _ => ⟨cur, h, by simp⟩
  | v :: vs, o, w, cur, h, hl => by
    simp only [List.length_cons] at hl
    obtain ⟨c', h2, h3⟩ := heap_setCells g e vs (o + 1) (w.setCell ⟨g, o, none⟩ v) (cur.setIfInBounds o v) (heap_setCell_same w g o cur e v h) (by simp; omega)
    refine ⟨c', h2, ?_⟩
    have hs : (cur.setIfInBounds o v).toList = cur.toList.take o ++ v :: cur.toList.drop (o + 1) := by
      rw [Array.toList_setIfInBounds, List.set_eq_take_append_cons_drop, if_pos (by simp; omega)]
    have h4 : (cur.toList.take o).length = o := by rw [List.length_take, Array.length_toList]; omega
    have h5 : ∀ (a b : List Value), a.length = o → (a ++ v :: b).take (o + 1) = a ++ [v] := fun a b ha => by
      rw [List.take_append, List.take_of_length_le (by omega), ha, Nat.add_sub_cancel_left]; rfl
    have h6 : ∀ (a b : List Value) (n : Nat), a.length = o → (a ++ v :: b).drop (o + 1 + n) = b.drop n := fun a b n ha => by
      rw [List.drop_append, List.drop_of_length_le (by omega), ha, show o + 1 + n - o = n + 1 by omega]; rfl
    rw [h3, hs, h5 _ _ h4, h6 _ _ _ h4, List.drop_drop, List.length_cons, show o + (vs.length + 1) = o + 1 + vs.length by omega]
    simp
theorem grown_setCells (g : Nat) : ∀ (vs : List Value) (o : Nat) (w : World), w.grownBy (w.setCells g o vs) (some g)
  | [], _, w => World.grownBy.refl w _
  | v :: vs, o, w => by
    have h := grown_setCells g vs (o + 1) (w.setCell ⟨g, o, none⟩ v)
    have h1 : w.grownBy (w.setCell ⟨g, o, none⟩ v) (some g) := ⟨rfl, rfl, rfl, by simp, fun k _ hk => heap_setCell_other w ⟨g, o, none⟩ k v (fun e => hk (by simp [e]))⟩
    exact ⟨h.os.trans h1.os, h.tape.trans h1.tape, h.output.trans h1.output, Nat.le_trans h1.size h.size, fun k hk hn => (h.block k (Nat.lt_of_lt_of_le hk h1.size) hn).trans (h1.block k hk hn)⟩
theorem grown_then {a b c : World} {r : Option Nat} (h1 : a.grownBy b r) (h : b.grownBy c r) : a.grownBy c r :=
  ⟨h.os.trans h1.os, h.tape.trans h1.tape, h.output.trans h1.output, Nat.le_trans h1.size h.size, fun k hk hn => (h.block k (Nat.lt_of_lt_of_le hk h1.size) hn).trans (h1.block k hk hn)⟩
theorem grown_drew (w : World) (r : Option Nat) : w.grownBy w.drew r := ⟨rfl, rfl, rfl, Nat.le_refl _, fun _ _ _ => rfl⟩
/-- The first k of a row that begins with xs. -/
theorem take_le {l xs : List Value} {n k : Nat} (h : l.take n = xs) (hk : k ≤ n) : l.take k = xs.take k := by rw [← h, List.take_take, Nat.min_eq_left hk]
theorem contains (w : World) (A : Option Addr) (n c : Nat) (xs : List Int) (x : Int) (hr : Rd w w.heap.size 1 A n (ints .i64 xs)) (hn : n ≤ 1000000000) :
    Calls Try.prog 58 #[.slice A n c, .int .i64 x] w fun e w' => e = .returned (.bool (xs.contains x)) ∧ w = w' := by
  have hl := hr.len1
  rw [ints_len] at hl
  by_cases h0 : n = 0
  · subst h0
    obtain rfl := List.eq_nil_of_length_eq_zero hl
    exact (Try.slices_Contains_int_empty _ _ _ _).mono (by rintro e w' ⟨rfl, rfl⟩; exact ⟨rfl, rfl⟩)
  · obtain ⟨b, off, rfl, hb, -⟩ := hr.2 (by omega)
    have hc : ∀ j, j < xs.length → w.cell? ⟨b, off + j, none⟩ = some (.int .i64 (xs.getD j 0)) := fun j hj => by
      obtain ⟨b', off', e, -, h⟩ := hr.at_ (j := j) (by omega)
      injection e with e; injection e with e1 e2 _; subst e1; subst e2
      exact h
    exact (Try.slices_Contains_int b off n c xs x w (by omega) (by omega) hc).mono (by
      rintro e w' ⟨rfl, rfl⟩
      exact ⟨by rw [List.take_of_length_le (by omega)], rfl⟩)
theorem search (w : World) (A : Option Addr) (n c : Nat) (xs : List Int) (x : Int) (hr : Rd w w.heap.size 1 A n (ints .i64 xs)) (hn : n ≤ 1000000000) (hs : xs.Pairwise (· ≤ ·)) :
    Calls Try.prog 56 #[.slice A n c, .int .i64 x] w (Gives (.tuple #[.int .i64 (xs.countP (fun y => decide (y < x)) : Nat), .bool (xs.contains x)]) w) := by
  have hl := hr.len1
  rw [ints_len] at hl
  by_cases h0 : n = 0
  · subst h0
    obtain rfl := List.eq_nil_of_length_eq_zero hl
    exact (Try.slices_BinarySearch_int_empty _ _ _ _).mono (by rintro e w' ⟨rfl, rfl⟩; exact ⟨rfl, Below.refl _ _⟩)
  · obtain ⟨b, off, rfl, hb, -⟩ := hr.2 (by omega)
    have hc : ∀ j, j < xs.length → w.cell? ⟨b, off + j, none⟩ = some (.int .i64 (xs.getD j 0)) := fun j hj => by
      obtain ⟨b', off', e, -, h⟩ := hr.at_ (j := j) (by omega)
      injection e with e; injection e with e1 e2 _; subst e1; subst e2
      exact h
    have ht : xs.take n = xs := List.take_of_length_le (by omega)
    exact (Try.slices_BinarySearch_int b off n c xs x w (by omega) (by omega) hc (by rw [ht]; exact hs)).mono (by
      rintro e w' ⟨rfl, q, rfl⟩
      exact ⟨by rw [ht], drewN_below w q _⟩)
/-- What an insertion leaves: the row with x at place i, in the old row's block or in a new one. -/
def Ins (base : Nat) (v0 : Value) (n i : Nat) (xs : List Int) (x : Int) (w : World) (e : Ending) (w' : World) : Prop :=
  ∃ A c, e = .returned (.slice A (n + 1) c) ∧ w'.ownsRow base 3 1 (.slice A (n + 1) c) (n + 1) (ints .i64 (xs.take i ++ x :: xs.drop i)) ∧ w.grownBy w' v0.ownBlock
theorem insert (w : World) (base : Nat) (A : Option Addr) (n c i vb : Nat) (xs : List Int) (x : Int) (lo : Nat) (ho : w.ownsRow base 3 1 (.slice A n c) n (ints .i64 xs)) (hv : w.ownsRow lo 3 1 (.slice (some ⟨vb, 0, none⟩) 1 1) 1 (ints .i64 [x]))
    (hne : Value.ownBlock (.slice A n c) ≠ some vb) (hi : i ≤ n) (hn : n ≤ 1000000000) (hb : base ≤ w.heap.size) :
    Calls Try.prog 57 #[.slice A n c, .int .i64 i, .slice (some ⟨vb, 0, none⟩) 1 1] w (Ins base (.slice A n c) n i xs x w) := by
  have hl : xs.length = n := by have := ho.1; rw [ints_len] at this; omega
  have hcl : (ints .i64 xs).length = n := by rw [ints_len, hl]
  have hvs : ∀ j v, (ints .i64 [x])[j]? = some v → w.cell? ⟨vb, 0 + j, none⟩ = some v := fun j v h => by
    have hj : j < 1 := by
      rcases Nat.lt_or_ge j 1 with h2 | h2
      · exact h2
      · rw [List.getElem?_eq_none (by simpa [ints] using h2)] at h; cases h
    rw [Nat.zero_add, hv.cellAt j (by omega)]
    exact h
  have hends : ints .i64 (xs.take i ++ x :: xs.drop i) = (ints .i64 xs).take i ++ (ints .i64 [x] ++ (ints .i64 xs).drop i) := by simp [ints, List.map_take, List.map_drop]
  have hlen : (ints .i64 (xs.take i ++ x :: xs.drop i)).length = (n + 1) * 1 := by rw [ints_len]; simp; omega
  have hO := ho
  rcases hO.2 with ⟨e0, rfl⟩ | ⟨g, cap, cur, e0, hg, hgg, hnc, hcm, hcs, htk⟩
  · injection e0 with e1 _ e2
    subst e1; subst e2
    obtain rfl : xs = [] := List.eq_nil_of_length_eq_zero hl
    obtain rfl : i = 0 := by omega
    refine (Any2.slices_Insert_int_end_grow Try.laysIns none 0 0 vb 0 1 1 [] (ints .i64 [x]) w (by omega) (by omega) (by omega) (by omega) rfl rfl (fun _ => rfl) (fun a h => by cases h) hvs (ints_one _ _)).mono ?_
    rintro e w' ⟨rfl, rfl⟩
    have hG := grownCap_ge w (0 + 1) 0 (Try.laysIns_ren.t 3)
    have hG2 := grownCap_le_maxLen w (0 + 1) 0 (Try.laysIns_ren.t 3) (by unfold maxLen; omega)
    obtain ⟨G, hGG⟩ : ∃ G, G = grownCap w (0 + 1) 0 (Try.laysIns_ren.t 3) := ⟨_, rfl⟩
    rw [← hGG] at hG hG2 ⊢
    clear hGG
    refine ⟨_, _, rfl, ⟨hlen, .inr ⟨w.heap.size, _, _, rfl, hb, heap_alloc_new w.drew _, hG, hG2, ?_, ?_⟩⟩, ?_⟩
    · simp [Builtin.zeroCells, Value.cells, ints]; omega
    · simp [ints]
    · exact grown_then (grown_drew _ _) (World.grownBy_alloc _ _ _)
  · injection e0 with e1 _ e2
    subst e1; subst e2
    have hcell : ∀ j v, (ints .i64 xs)[j]? = some v → w.cell? ⟨g, 0 + j, none⟩ = some v := fun j v h => by
      have hj : j < n := by
        rcases Nat.lt_or_ge j n with h2 | h2
        · exact h2
        · rw [List.getElem?_eq_none (by omega)] at h; cases h
      rw [Nat.zero_add, ho.cellAt j (by omega)]
      exact h
    rw [Nat.mul_one] at htk hcs
    have hsome : ∀ j, j < c → (w.cell? ⟨g, 0 + j, none⟩).isSome = true := fun j hj => by
      rw [cell_of_row w g (0 + j) cur _ _ hgg, Array.getElem?_eq_getElem (by omega)]; rfl
    have hfrz : ∀ j, w.frozen? ⟨g, j, none⟩ = false := fun j => frozen_of_row w g j cur _ hgg
    have hc63 : c ≤ 9223372036854775807 := by unfold maxLen at hcm; omega
    obtain ⟨gv, capv, curv, ev, -, hgv, hncv, -, hcsv, -⟩ := (hv.2).resolve_left (fun h => by have := h.2; omega)
    injection ev with ev1 _ ev2
    injection ev1 with ev1
    injection ev1 with ev1 _ _
    subst ev1; subst ev2
    have hvg : vb ≠ g := fun e => hne (by rw [e]; rfl)
    by_cases hin : i = n
    · subst hin
      by_cases hroom : i + 1 ≤ c
      · refine (Any2.slices_Insert_int_end_room Try.laysIns g 0 i c vb 0 1 1 (ints .i64 [x]) w (by omega) hroom hc63 rfl (fun j hj => by rw [Nat.add_assoc]; exact hsome _ (by omega)) (fun j _ => hfrz _) hvs (ints_one _ _)).mono ?_
        rintro e w' ⟨rfl, rfl⟩
        obtain ⟨cur', h1, h2⟩ := heap_setCells g 3 (ints .i64 [x]) (0 + i) w cur hgg (by simp [ints]; omega)
        refine ⟨_, _, rfl, ⟨hlen, .inr ⟨g, c, cur', rfl, hg, h1, hroom, hcm, ?_, ?_⟩⟩, grown_setCells g _ _ w⟩
        · rw [← Array.length_toList, h2]; simp [ints]; omega
        · rw [h2, hends, Nat.mul_one, Nat.zero_add, htk, ← hcl, List.take_length, List.drop_length, List.take_append_of_le_length (by simp [ints]), List.append_nil]
          exact List.take_of_length_le (by simp [ints])
      · refine (Any2.slices_Insert_int_end_grow Try.laysIns (some ⟨g, 0, none⟩) i c vb 0 1 1 (ints .i64 xs) (ints .i64 [x]) w (by omega) hnc (by omega) (by omega) hcl rfl (fun h => by cases h) (fun a h j v hj => by cases h; rw [Addr.add_lit]; exact hcell j v hj) hvs (ints_one _ _)).mono ?_
        rintro e w' ⟨rfl, rfl⟩
        have hG := grownCap_ge w (i + 1) c (Try.laysIns_ren.t 3)
        have hG2 := grownCap_le_maxLen w (i + 1) c (Try.laysIns_ren.t 3) (by unfold maxLen; omega)
        obtain ⟨G, hGG⟩ : ∃ G, G = grownCap w (i + 1) c (Try.laysIns_ren.t 3) := ⟨_, rfl⟩
        rw [← hGG] at hG hG2 ⊢
        clear hGG
        refine ⟨_, _, rfl, ⟨hlen, .inr ⟨w.heap.size, _, _, rfl, hb, heap_alloc_new w.drew _, hG, hG2, ?_, ?_⟩⟩, ?_⟩
        · simp [Builtin.zeroCells, Value.cells, ints, hl]; omega
        · rw [hends, ← hcl, List.take_length, List.drop_length, List.append_nil, hcl, Nat.mul_one]
          simp only [Array.toList_append]
          rw [List.take_append_of_le_length (by simp [ints, hl])]
          exact List.take_of_length_le (by simp [ints, hl])
        · exact grown_then (grown_drew _ _) (World.grownBy_alloc _ _ _)
    · have hilt : i < n := by omega
      have hdl : ((ints .i64 xs).drop i).length = n - i := by rw [List.length_drop, hcl]
      by_cases hroom : n + 1 ≤ c
      · refine (Any2.slices_Insert_int_shift Try.laysIns g 0 n c i vb 0 1 1 (ints .i64 xs) (ints .i64 [x]) w hilt (by omega) hroom hc63 hvg hcl rfl hcell (fun j hj => hsome j (by omega)) (fun j _ => hfrz _) hvs (ints_one _ _) (ints_one _ _)
          3 3 1 c (by simp [World.shape?, hgv, hcsv]) (by simp [World.shape?, hgg, hcs]) (by omega) (frozen_of_row w vb 0 curv _ hgv) (frozen_of_row w vb 1 curv _ hgv)).mono ?_
        rintro e w' ⟨rfl, rfl⟩
        obtain ⟨cur1, h1, h2⟩ := heap_setCells g 3 ((ints .i64 xs).drop i) (0 + (i + 1)) w.drew cur hgg (by rw [hdl]; omega)
        have hs1 : cur1.size = c := by rw [← Array.length_toList, h2]; simp [hcl]; omega
        obtain ⟨cur2, h3, h4⟩ := heap_setCells g 3 (ints .i64 [x]) (0 + i) _ cur1 h1 (by simp [ints, hs1]; omega)
        refine ⟨_, _, rfl, ⟨hlen, .inr ⟨g, c, cur2, rfl, hg, h3, hroom, hcm, ?_, ?_⟩⟩, grown_then (grown_drew _ _) (grown_then (grown_setCells g _ _ _) (grown_setCells g _ _ _))⟩
        · rw [← Array.length_toList, h4]; simp [ints, hs1]; omega
        · have e1 : cur.toList.take i = (ints .i64 xs).take i := take_le htk (by omega)
          have e2 : (cur1.toList.take i) = (ints .i64 xs).take i := by
            rw [h2, Nat.zero_add, List.append_assoc, List.take_append_of_le_length (by simp; omega), List.take_take, Nat.min_eq_left (by omega), e1]
          have e3 : (cur1.toList.drop (i + 1)).take (n - i) = (ints .i64 xs).drop i := by
            rw [h2, Nat.zero_add, List.append_assoc, List.drop_append, List.drop_of_length_le (by simp; omega), List.nil_append, List.length_take, Array.length_toList, Nat.min_eq_left (by omega), Nat.sub_self, List.drop_zero, List.take_append_of_le_length (by omega)]
            exact List.take_of_length_le (by omega)
          rw [h4, hends, Nat.mul_one, Nat.zero_add, show (ints .i64 [x]).length = 1 from rfl, e2, List.append_assoc]
          have e4 : ((ints .i64 xs).take i).length = i := by rw [List.length_take, hcl]; omega
          rw [List.take_append, e4, List.take_of_length_le (by omega), show n + 1 - i = (n - i) + 1 by omega]
          refine congrArg _ ?_
          show (Value.int .i64 x :: (cur1.toList.drop (i + 1))).take (n - i + 1) = _
          rw [List.take_succ_cons, e3]
          rfl
      · refine (Any2.slices_Insert_int_grow Try.laysIns g 0 n c i vb 0 1 1 (ints .i64 xs) (ints .i64 [x]) w hilt (by omega) hnc (by omega) (by omega) hcl rfl hcell hvs (ints_one _ _) (ints_one _ _)).mono ?_
        rintro e w' ⟨rfl, rfl⟩
        have hG := grownCap_ge w (n + 1) c (Try.laysIns_ren.t 3)
        have hG2 := grownCap_le_maxLen w (n + 1) c (Try.laysIns_ren.t 3) (by unfold maxLen; omega)
        obtain ⟨G, hGG⟩ : ∃ G, G = grownCap w (n + 1) c (Try.laysIns_ren.t 3) := ⟨_, rfl⟩
        rw [← hGG] at hG hG2 ⊢
        obtain ⟨cur0, hc0⟩ : ∃ cur0 : Array Value, cur0 = ((ints .i64 xs).take i).toArray ++ Builtin.zeroCells (Value.int .i64 0).cells (n + 1 - i) ++ Builtin.zeroCells (Value.int .i64 0).cells (G - (n + 1)) := ⟨_, rfl⟩
        rw [← hc0]
        have hs0 : cur0.size = G := by rw [hc0]; simp [Builtin.zeroCells, Value.cells, hcl]; omega
        have e1 : cur0.toList.take i = (ints .i64 xs).take i := by
          rw [hc0]
          simp only [Array.toList_append]
          rw [List.append_assoc, List.take_append_of_le_length (by simp [hcl]; omega)]
          exact List.take_of_length_le (by simp; omega)
        have h0 : (w.alloc (.cells cur0 3)).drew.heap[w.heap.size]? = some (.cells cur0 3 (0, 0)) := heap_alloc_new w _
        obtain ⟨cur1, h1, h2⟩ := heap_setCells w.heap.size 3 (ints .i64 [x]) i _ cur0 h0 (by simp [ints, hs0]; omega)
        have hs1 : cur1.size = G := by rw [← Array.length_toList, h2]; simp [ints, hs0]; omega
        obtain ⟨cur2, h3, h4⟩ := heap_setCells w.heap.size 3 ((ints .i64 xs).drop i) (i + 1) (((w.alloc (.cells cur0 3)).drew.setCells w.heap.size i (ints .i64 [x])).drew) cur1 h1 (by rw [hdl]; omega)
        refine ⟨_, _, rfl, ⟨hlen, .inr ⟨w.heap.size, G, cur2, rfl, hb, h3, hG, hG2, ?_, ?_⟩⟩, ?_⟩
        · rw [← Array.length_toList, h4]; simp [hcl, hs1]; omega
        · have e4 : ((ints .i64 xs).take i).length = i := by rw [List.length_take, hcl]; omega
          have e2 : cur1.toList.take (i + 1) = (ints .i64 xs).take i ++ ints .i64 [x] := by
            rw [h2, e1, List.take_append_of_le_length (by rw [List.length_append, e4]; simp [ints])]
            exact List.take_of_length_le (by rw [List.length_append, e4]; simp [ints])
          rw [h4, e2, hends, Nat.mul_one, List.append_assoc, List.append_assoc, ← List.append_assoc (ints .i64 [x]), ← List.append_assoc]
          rw [List.take_append_of_le_length (by rw [List.length_append, List.length_append, e4, hdl]; simp [ints]; omega)]
          exact List.take_of_length_le (by rw [List.length_append, List.length_append, e4, hdl]; simp [ints]; omega)
        · have hb0 : w.grownBy ((((w.alloc (.cells cur0 3)).drew.setCells w.heap.size i (ints .i64 [x])).drew).setCells w.heap.size (i + 1) ((ints .i64 xs).drop i)) (some w.heap.size) :=
            grown_then (grown_then (grown_then (grown_then (World.grownBy_alloc _ _ _) (grown_drew _ _)) (grown_setCells _ _ _ _)) (grown_drew _ _)) (grown_setCells _ _ _ _)
          exact ⟨hb0.os, hb0.tape, hb0.output, hb0.size, fun k hk _ => hb0.block k hk (fun e => by cases e; omega)⟩
end Go.Proofs.Ytpeagjpcdoegoaa.Si
