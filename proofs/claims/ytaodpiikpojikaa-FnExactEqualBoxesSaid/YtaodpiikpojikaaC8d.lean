/-
  Contracts of chapter 8's functions over boxes, of the model: FindBox.
-/
import Derived.Test.YtaodpiikpojikaaC8c
namespace Go.Proofs.Ytaodpiikpojikaa.C8d
open Go.ChangeShapes Go.WideShapes Go.ChangeAt Go.RowKit Go.Deep
open S0 S1 S9 S10 Ty Dm Bx Fx C3 M3 M8 M10
set_option linter.unusedVariables false
theorem box_rds {w : World} {hi : Nat} {b : Box} {A : Option Addr} {c : Nat} (h : Rd w hi 1 A b.data.length (ints .u8 b.data)) : RdsL w hi b.dcs [.int .i64 b.to, .int .i64 b.eph, .slice A b.data.length c, .int .i64 b.mac] := by
  unfold Box.dcs
  simp only [RdsL]
  exact ⟨_, _, rfl, by simp [Rds], _, _, rfl, by simp [Rds], _, _, rfl, flat_rds h, _, _, rfl, by simp [Rds], rfl⟩
theorem find_skip {k : Int} {l : List Box} {j : Nat} {b : Box} (h : l[j]? = some b) (ho : openOk k b = false) : findOk k (l.drop j) = findOk k (l.drop (j + 1)) ∧ findB k (l.drop j) = findB k (l.drop (j + 1)) := by
  obtain ⟨hl, e⟩ := List.getElem?_eq_some_iff.1 h
  rw [List.drop_eq_getElem_cons hl, e]
  simp [findOk, findB, ho]
theorem find_hit {k : Int} {l : List Box} {j : Nat} {b : Box} (h : l[j]? = some b) (ho : openOk k b = true) : findOk k (l.drop j) = true ∧ findB k (l.drop j) = openB k b := by
  obtain ⟨hl, e⟩ := List.getElem?_eq_some_iff.1 h
  rw [List.drop_eq_getElem_cons hl, e]
  simp [findOk, findB, ho]
set_option maxHeartbeats 4000000 in
set_option maxRecDepth 100000 in
theorem specFind (w : World) (l : List Box) (k : Int) (v : Value) (h : Rds w w.heap.size (boxesD l) v) (ho : ∀ b ∈ l, b.ok) (hw : wt (boxesD l) ≤ 1048576) :
    Calls Try.prog 43 #[v, .int .i64 k] w (MadeD1 (bytesD (findB k l)) (.bool (findOk k l)) w) := by
  obtain ⟨A, c, rfl⟩ := Bs.boxes_slice h
  have hsm : l.length ≤ 1048576 ∧ ∀ b ∈ l, wtL b.dcs ≤ 1048576 := by
    rw [Bs.wt_boxes] at hw
    exact ⟨by omega, fun b hb => by rw [Bs.wt_box]; have := wt_each b hb; omega⟩
  obtain ⟨n, hn⟩ : ∃ n, n = l.length := ⟨_, rfl⟩
  have hn2 := hsm.1
  rw [← hn] at hn2 ⊢
  have HR := Lib.hid h
  have HO := Lib.hid ho
  have HS := Lib.hid hsm.2
  have HN := Lib.hid hn
  clear h ho hsm hw hn
  go_enter Try.func43, Try.ntmps43
  go_wp2
  go_loopw [6] (fun i wr => ∃ j : Nat, j ≤ n ∧ i = .int .i64 j ∧ findOk k (l.drop j) = findOk k l ∧ findB k (l.drop j) = findB k l ∧ Below w.heap.size w wr) (fun i _ => n - (intOf i).toNat)
  case atStart => exact ⟨0, by omega, rfl, by simp, by simp, Below.refl _ _⟩
  case round =>
    obtain ⟨j, hj, rfl, h1, h2, hB⟩ := hrel
    have H1 := Lib.hid h1
    have H2 := Lib.hid h2
    clear h1 h2
    by_cases hlt : j < n
    · obtain ⟨b, hb⟩ := get_some l (i := j) (by rw [← HN.out]; exact hlt)
      have hws := hB.size
      obtain ⟨g, off, B, d, rfl, hg, c0, c1, c2, c3, rB⟩ := Bs.boxes_at (rds_keep hB.block _ _ HR.out) hb
      have HBB := Lib.hid hb
      have hm := List.mem_of_getElem? hb
      have HOK := Lib.hid (HO.out b hm)
      have HWT := Lib.hid (HS.out b hm)
      have RL := Lib.hid (show RdsL wr wr.heap.size b.dcs [.int .i64 b.to, .int .i64 b.eph, .slice B b.data.length d, .int .i64 b.mac] from box_rds (rB.more hws))
      clear hb hm rB
      by_cases hop : openOk k b = true
      · obtain ⟨e1, e2⟩ := find_hit HBB.out hop
        rw [H1.out] at e1
        rw [H2.out] at e2
        have E1 := Lib.hid e1
        have E2 := Lib.hid e2
        have HP := Lib.hid hop
        clear e1 e2 hop
        go_wp2_with fail
        (with_reducible refine (C8c.specOpen _ k b _ RL.out HOK.out HWT.out).mono ?_); rintro e w2 ⟨v2, s2, rfl, o2, n2, b2⟩
        rw [HP.out]
        have BW := hB.trans (b2.mono hws)
        go_wp2
        rw [E1.out, E2.out]
        refine bodyPost_ret (v := .tuple #[v2, .bool true]) (by simp [results, Try.results43, go_sem]) rfl ⟨_, s2, rfl, owns_base hws _ _ _ o2, n2, BW⟩
      · have hop2 : openOk k b = false := by simpa using hop
        obtain ⟨e1, e2⟩ := find_skip HBB.out hop2
        rw [H1.out] at e1
        rw [H2.out] at e2
        have E1 := Lib.hid e1
        have E2 := Lib.hid e2
        have HP := Lib.hid hop2
        clear e1 e2 hop hop2
        go_wp2_with fail
        (with_reducible refine (C8c.specOpen _ k b _ RL.out HOK.out HWT.out).mono ?_); rintro e w2 ⟨v2, s2, rfl, o2, n2, b2⟩
        rw [HP.out]
        have BW := hB.trans (b2.mono hws)
        clear o2 n2 b2
        go_wp2
        go_roundw
        case rel => exact ⟨j + 1, by omega, by go_num, E1.out.symm, E2.out.symm, BW⟩
        case measure => simp [intOf]; omega
    · have hd : decide (j < n) = false := by simp; omega
      have hjn : j = n := by omega
      have e : l.drop j = [] := by rw [hjn, HN.out]; simp
      have h1 := H1.out
      have h2 := H2.out
      rw [e] at h1 h2
      simp only [findOk, findB] at h1 h2
      have E1 := Lib.hid h1
      have E2 := Lib.hid h2
      clear h1 h2 e hjn
      go_wp2
      rw [← E1.out, ← E2.out]
      have ho := own_lit wr #[] 0 wr.heap.size 5 (Nat.le_refl _) rfl (by unfold maxLen; omega)
      refine bodyPost_ret (v := .tuple #[.slice (some ⟨wr.heap.size, 0, none⟩) 0 0, .bool false]) (by simp [results, Try.results43, go_sem]) rfl ⟨_, _, rfl, owns_flat (own_base ho hB.size), nodup_own _, hB.alloc hB.size _⟩
end Go.Proofs.Ytaodpiikpojikaa.C8d
