import Derived.Test.YtllaacdikjffmaaGreatC12c
import Derived.Test.YtllaacdikjffmaaGreatEa
import Derived.Deep.RegionLaw
/-
  slices.Delete of the first challenge of an own row.
-/
namespace Go.Proofs.YtllaacdikjffmaaGreat.Mq
open Go.ChangeShapes Go.WideShapes Go.ChangeAt Go.RowKit
open S0 S1 S9 Dm Fx C12 C12c
set_option linter.unusedVariables false
set_option linter.unusedSimpArgs false
set_option maxRecDepth 100000
theorem run_clear3 (w : World) (t e ty : TypeId) (z : Value) (ht : Tryz.prog.underlying t = some (.slice e)) (hv : (zeroValue e).run Tryz.prog w = .ok z w) (zs : List Value) (hz : (Builtin.zeroCells z.cells 1).toList = zs) (h1 : ∀ u ∈ zs, u.oneCell' = true) (b o c : Nat)
    (hc : ∀ j, j < zs.length → (w.cell? ⟨b, o + j, none⟩).isSome = true) (hf : ∀ j, j < zs.length → w.frozen? ⟨b, o + j, none⟩ = false) :
    (Builtin.clear_ #[t] ty #[.slice (some ⟨b, o, none⟩) 1 c]).run Tryz.prog w = .ok (.tuple #[]) (w.setCells b o zs) := by
  have hst := run_storeCells_cells (P := Tryz.prog) b o zs 0 w (by simpa using hc) (by simpa using hf) h1
  simp only [Nat.add_zero] at hst
  simp [Builtin.clear_, run_underlying ht, hv, hz, hst]
set_option maxHeartbeats 4000000 in
theorem delete_c (w : World) (base g off cap m : Nat) (xs : List Value) (h : Ow.At w base 67 3 (.slice (some ⟨g, off, none⟩) (m + 1) cap) (m + 1) xs) (hone : ∀ u ∈ xs, u.oneCell' = true) (hm : 0 < m) (hbig : m ≤ 16000000) :
    Calls Tryz.prog 70 #[.slice (some ⟨g, off, none⟩) ((m + 1 : Nat)) cap, .int .i64 0, .int .i64 1] w fun e w' => e = .returned (.slice (some ⟨g, off, none⟩) m cap) ∧ Ow.At w' base 67 3 (.slice (some ⟨g, off, none⟩) m cap) m (xs.drop 3) ∧ w.grownBy w' (some g) := by
  have hcap : m + 1 ≤ cap := by
    rcases h.2 with ⟨e, _⟩ | ⟨g', off', cap', cur, e, _, _, h1, _⟩
    · cases e
    · cases e; exact h1
  have hcapm : cap ≤ 9223372036854775807 := by
    rcases h.2 with ⟨e, _⟩ | ⟨g', off', cap', cur, e, _, _, _, h1, _⟩
    · cases e
    · cases e; simpa [maxLen] using h1
  obtain ⟨i0, hi0, hz0, hsz0, hb0⟩ := info_parts chal_info
  obtain ⟨news, hnews⟩ : ∃ news, news = xs.drop 3 := ⟨_, rfl⟩
  have hlen : news.length = m * 3 := by rw [hnews, List.length_drop, h.1]; omega
  have hget : ∀ j u, news[j]? = some u → xs[3 + j]? = some u := fun j u hj => by rw [hnews, List.getElem?_drop] at hj; exact hj
  have hcell : ∀ j, j < (m + 1) * 3 → w.cell? ⟨g, off + j, none⟩ = xs[j]? := h.cellAt
  have hfr := h.frozenAt
  have s0 := Lib.hid (show news.length = m * 3 from hlen)
  have s1 := Lib.hid (show ∀ j u, news[j]? = some u → w.drew.cell? ((⟨g, off + 3, none⟩ : Addr).add j) = some u from fun j u hj => by
    have hl := (List.getElem?_eq_some_iff.1 hj).1
    rw [Addr.add_lit, Nat.add_assoc]
    exact (hcell (3 + j) (by omega)).trans (hget j u hj))
  have s2 := Lib.hid (show ∀ u ∈ news, u.oneCell' = true from fun u hu => hone u (List.mem_of_mem_drop (hnews ▸ hu)))
  have s3 := Lib.hid (show ∀ j, j < news.length → (w.drew.cell? ⟨g, off + 0 * 3 + j, none⟩).isSome = true ∧ w.drew.frozen? ⟨g, off + 0 * 3 + j, none⟩ = false from fun j hj => by
    have hx : j < xs.length := by rw [h.1]; omega
    refine ⟨?_, hfr (off + 0 * 3 + j)⟩
    show (w.cell? ⟨g, off + 0 * 3 + j, none⟩).isSome = true
    rw [show off + 0 * 3 + j = off + j by omega, hcell j (by omega), List.getElem?_eq_getElem hx]
    rfl)
  obtain ⟨W1, hW1⟩ : ∃ W1, W1 = w.drew.setCells g (off + 0 * 3) news := ⟨_, rfl⟩
  obtain ⟨cur, hcur, hcs, htake, hbg⟩ : ∃ cur, w.heap[g]? = some (.cells cur 67 (0, 0)) ∧ cur.size = off + cap * 3 ∧ (cur.toList.drop off).take ((m + 1) * 3) = xs ∧ base ≤ g := by
    rcases h.2 with ⟨e, _⟩ | ⟨g', off', cap', cur, e, h1, h2, h3, h4, h5, h6, h7⟩
    · cases e
    · cases e; exact ⟨cur, h2, h5, h6, h1⟩
  have hc3 : (m + 1) * 3 ≤ cap * 3 := Nat.mul_le_mul_right _ hcap
  obtain ⟨c1, hc1, hl1⟩ := E5.heap_cells g 67 news (off + 0 * 3) w.drew cur hcur (by omega)
  rw [← hW1] at hc1
  have ht1 : Turned w.drew W1 [g] := hW1 ▸ E5.turned_cells g news _ _
  have z0 : c1.size = cur.size := by
    have := congrArg List.length hl1
    simp only [List.length_append, List.length_take, List.length_drop, Array.length_toList] at this
    omega
  have hzs : (Builtin.zeroCells (Value.agg #[.int .i64 0, .int .i64 0, .int .i64 0]).cells 1).toList = [.int .i64 0, .int .i64 0, .int .i64 0] := by simp [Builtin.zeroCells, Value.cells, List.range, List.range.loop]
  have hcell1 : ∀ j, j < cap * 3 → (W1.cell? ⟨g, off + j, none⟩).isSome = true ∧ W1.frozen? ⟨g, off + j, none⟩ = false := fun j hj => by
    have h4 : off + j < c1.size := by omega
    refine ⟨?_, frozen_of_row W1 g (off + j) c1 _ hc1⟩
    simp [World.cell?, hc1, h4]
  obtain ⟨W2, hW2⟩ : ∃ W2, W2 = W1.setCells g (off + m * 3) [.int .i64 0, .int .i64 0, .int .i64 0] := ⟨_, rfl⟩
  have hcl : ∀ ty, (Builtin.clear_ #[31] ty #[.slice (some ⟨g, off + m * 3, none⟩) 1 (cap - m)]).run Tryz.prog W1 = .ok (.tuple #[]) W2 := fun ty => by
    rw [hW2]
    exact run_clear3 W1 _ _ ty _ Tryz.underlying31 (Tryz.zeroValue67 W1) _ hzs (by simp [Value.oneCell']) g (off + m * 3) (cap - m) (fun j hj => by have hj : j < 3 := hj; rw [Nat.add_assoc]; exact (hcell1 (m * 3 + j) (by omega)).1) (fun j hj => by have hj : j < 3 := hj; rw [Nat.add_assoc]; exact (hcell1 (m * 3 + j) (by omega)).2)
  have hcap1 : ¬ cap = 1 := by omega
  have hle1 : (1 : Int) ≤ (m : Int) + 1 := by omega
  have hmm : m ≤ m + 1 := by omega
  have hsub : m + 1 - m = 1 := by omega
  have HW := Lib.hid hW1
  have hnw := Lib.hid hnews
  have HW2 := Lib.hid hW2
  clear hget hcell hfr hW1 hnews hW2
  go_enter Tryz.func70, Tryz.ntmps70
  go_wp2_with fail
  go_region_law (refine step_append_room rfl (.tmp 22) (.tmp 25) 31 rfl 67 i0 3 Tryz.underlying31 hi0 hsz0 g off 0 cap (by simp [Act.eval, Act.put]) ⟨g, off + 3, none⟩ m (cap - 1) news (by simp [Act.eval, Act.put]) s0.out s1.out s2.out (by omega) s3.out ?_; rw [← HW.out])
  go_wp2
  go_ret
  obtain ⟨c2, hc2, hl2⟩ := E5.heap_cells g 67 [.int .i64 0, .int .i64 0, .int .i64 0] (off + m * 3) W1 c1 hc1 (by simp; omega)
  rw [← HW2.out] at hc2
  have ht2 : Turned W1 W2 [g] := HW2.out ▸ E5.turned_cells g _ _ _
  have z2 : c2.size = cur.size := by
    have := congrArg List.length hl2
    simp only [List.length_append, List.length_take, List.length_drop, Array.length_toList, List.length_cons, List.length_nil] at this
    omega
  have hnl : news.length = m * 3 := hlen
  have hx3 : xs.drop 3 = news := (hnw.out).symm
  refine ⟨rfl, ⟨by rw [hx3, hlen], .inr ⟨g, off, cap, c2, rfl, hbg, hc2, by omega, by simpa [maxLen] using hcapm, by omega, ?_, fun e => by cases e⟩⟩, ?_⟩
  · rw [hl2, hl1, hx3]
    have e1 : (cur.toList.take (off + 0 * 3)).length = off := by rw [List.length_take, Array.length_toList]; omega
    rw [List.append_assoc, List.append_assoc]
    have e2 : (List.take (off + m * 3) (List.take (off + 0 * 3) cur.toList ++ (news ++ List.drop (off + 0 * 3 + news.length) cur.toList))) = List.take (off + 0 * 3) cur.toList ++ news := by
      rw [← List.append_assoc, List.take_append_of_le_length (by rw [List.length_append, e1]; omega), List.take_of_length_le (by rw [List.length_append, e1]; omega)]
    rw [e2, List.append_assoc, List.drop_append_of_le_length (by omega), List.drop_of_length_le (by omega), List.nil_append, List.take_append_of_le_length (by omega), List.take_of_length_le (by omega)]
  · have h1 : Turned w W2 [g] := turned_trans (show Turned w W1 [g] from ht1) ht2
    exact ⟨h1.1, h1.2.1, h1.2.2.1, h1.2.2.2.1, fun k hk hn => h1.2.2.2.2 k hk (fun hb => hn (by simp at hb; rw [hb]))⟩
end Go.Proofs.YtllaacdikjffmaaGreat.Mq
