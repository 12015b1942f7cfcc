/-
  Contracts of chapter 12's draws: a book of challenges of at most nineteen entries, an account, a time.
-/
import Derived.Test.YtjkmcnnkifachaaC0
import Derived.Test.YtjkmcnnkifachaaDv
import Derived.Test.YtjkmcnnkifachaaC12f
import Derived.Test.YtjkmcnnkifachaaVn
import Derived.Deep.RegionHeld3
namespace Go.Proofs.Ytjkmcnnkifachaa.D12
open Go.ChangeShapes Go.WideShapes Go.ChangeAt Go.RowKit
open C0 S0 S1 S9 Dm Fx C12 C12b C12c C12d C12e C12f Dv
set_option linter.unusedVariables false
set_option linter.unusedSimpArgs false
set_option maxRecDepth 100000
/-- A book as it is drawn: it fits, and has at most m entries. -/
def Bk (m : Nat) (x : Fx.ChallengeBook) : Prop := x.ok ∧ x.Open.length ≤ m
theorem bk_zero (s n : Int) (h1 : 1 ≤ s ∧ s ≤ 999) (h2 : 0 ≤ n ∧ n ≤ 4) : Bk 0 ⟨s, n, []⟩ := ⟨⟨by dsimp only; omega, by dsimp only; omega, Nat.zero_le _, fun y hy => by cases hy⟩, Nat.le_refl _⟩
theorem bk_iss {x : Fx.ChallengeBook} {m : Nat} {a t : Int} (h : Bk m x) (ha : 0 ≤ a ∧ a ≤ 1000001) (ht : 0 ≤ t ∧ t ≤ 1000001) (hm : m < 1000) : Bk (m + 1) (issX x a t) := by
  by_cases h1 : issOk x a t = true
  · rw [(issX_t h1).1]
    have hv : vbk x = true := by unfold issOk at h1; simp only [Bool.and_eq_true] at h1; exact h1.1.1.1
    obtain ⟨v1, v2, v3⟩ := vbk_parts hv
    have hl : (x.Open.drop (x.Open.length - 15) ++ [(⟨x.Next, a, t + 5⟩ : Fx.Challenge)]).length ≤ m + 1 := by
      have := h.2
      simp only [List.length_append, List.length_drop, List.length_cons, List.length_nil]
      omega
    refine ⟨⟨h.1.Seed, by dsimp only; omega, by dsimp only; unfold maxLen; omega, fun y hy => ?_⟩, hl⟩
    dsimp only at hy
    rcases List.mem_append.1 hy with h2 | h2
    · exact h.1.Open y (List.mem_of_mem_drop h2)
    · obtain rfl := List.mem_singleton.1 h2
      exact ⟨by dsimp only; omega, by dsimp only; omega, by dsimp only; omega⟩
  · rw [(issX_f (by simpa using h1)).1]
    exact ⟨h.1, by have := h.2; omega⟩
theorem bk_take {x : Fx.ChallengeBook} {m : Nat} {i : Int} (h : Bk m x) : Bk m (takeX x i) := by
  unfold takeX
  split
  · split
    · rename_i k hk
      have hl := (posC_some hk).1
      refine ⟨⟨h.1.Seed, h.1.Next, ?_, fun y hy => ?_⟩, ?_⟩
      · have := h.1.Open_n
        simp only [List.length_append, List.length_take, List.length_drop]
        omega
      · dsimp only at hy
        rcases List.mem_append.1 hy with h2 | h2
        · exact h.1.Open y (List.mem_of_mem_take h2)
        · exact h.1.Open y (List.mem_of_mem_drop h2)
      · have := h.2
        simp only [List.length_append, List.length_take, List.length_drop]
        omega
    · exact h
  · exact h
theorem bk_next {x : Fx.ChallengeBook} {m : Nat} {u : Int} (h : Bk m x) (hu : isI64 u) : Bk m ⟨x.Seed, u, x.Open⟩ := ⟨⟨h.1.Seed, hu, h.1.Open_n, h.1.Open⟩, h.2⟩
theorem bk_app {x : Fx.ChallengeBook} {m : Nat} {u a : Int} (h : Bk m x) (hu : isI64 u) (ha : isI64 a) (hm : m < 1000) : Bk (m + 1) ⟨x.Seed, x.Next, x.Open ++ [⟨u, a, 3⟩]⟩ := by
  have hl : (x.Open ++ [(⟨u, a, 3⟩ : Fx.Challenge)]).length ≤ m + 1 := by have := h.2; simp only [List.length_append, List.length_cons, List.length_nil]; omega
  refine ⟨⟨h.1.Seed, h.1.Next, by dsimp only; unfold maxLen; omega, fun y hy => ?_⟩, hl⟩
  dsimp only at hy
  rcases List.mem_append.1 hy with h2 | h2
  · exact h.1.Open y h2
  · obtain rfl := List.mem_singleton.1 h2
    exact ⟨hu, ha, by dsimp only; omega⟩
theorem own_zero (w : World) (lo : Nat) : Owns w lo (ChallengesD []) (.slice none 0 0) [] := by
  unfold ChallengesD
  simp only [Owns]
  exact ⟨[], [], ⟨rfl, Or.inl ⟨rfl, rfl⟩⟩, by simp [OwnsL], rfl⟩
def DrawnBk (m : Nat) (w : World) (B H0 : Nat) (e : Ending) (w' : World) : Prop := ∃ (x : Fx.ChallengeBook) (A : Option Addr) (c : Nat) (s : List Nat), e = .returned (.agg #[.int .i64 x.Seed, .int .i64 x.Next, .slice A x.Open.length c]) ∧ Bk m x ∧ Owns w' w.heap.size (ChallengesD x.Open) (.slice A x.Open.length c) s ∧ s.Nodup ∧ IsCur w' B H0 ∧ w.grownBy w' (some B)
theorem own_at {w : World} {lo : Nat} {l : List Fx.Challenge} {v : Value} {bs : List Nat} (h : Owns w lo (ChallengesD l) v bs) : Ow.At w lo 30 3 v l.length (many l) := many_owns h
set_option maxHeartbeats 16000000 in
theorem book_any (w : World) (B H0 : Nat) (C : IsCur w B H0) : Calls Try.prog 56 #[.pointer (some ⟨B, 0, none⟩)] w (DrawnBk 18 w B H0) := by
  have hB := C.lt
  have hH := C.low
  go_enter Try.func56, Try.ntmps56
  obtain ⟨w1, hw1⟩ : ∃ y, y = w.alloc (.cells #[.int .i64 0, .int .i64 0, .slice none 0 0] 26) := ⟨_, rfl⟩
  have o_r := var_owns w 26 3 [.int .i64 0, .int .i64 0, .slice none 0 0] rfl
  have bw1 : Below w.heap.size w w1 := hw1 ▸ (Below.refl _ _).alloc (Nat.le_refl _) _
  rw [← hw1] at o_r
  have sw1 : w1.heap.size = w.heap.size + 1 := by rw [hw1]; simp
  have gw1 : w.grownBy w1 (some B) := hw1 ▸ World.grownBy_alloc w _ _
  have zw1 : w.heap.size < w1.heap.size := by rw [hw1]; simp
  have n_r : w.heap.size ≠ B := by have := C.lt; have := C.low; omega
  have m_r : H0 ≤ w.heap.size := by have := C.lt; have := C.low; omega
  replace C : IsCur w1 B H0 := hw1 ▸ C.alloc _
  have hG := gw1
  go_wp2_with fail
  rw [← hw1]
  clear hw1 sw1
  (with_reducible refine (below_any _ _ H0 999 C).mono ?_); rintro e w2 ⟨u, rfl, ⟨hu0, hu1⟩, C, gw2⟩
  replace o_r := Dv.owns_drawn o_r gw2 (by omega)
  replace hG := grown_trans hG gw2
  have zw2 := gw2.size
  obtain ⟨c_r0, f_r0, c_r1, f_r1, c_r2, f_r2, l_r⟩ := Vn.v3 o_r
  go_wp2_with fail
  (with_reducible refine (below_any _ _ H0 5 C).mono ?_); rintro e w3 ⟨v, rfl, ⟨hv0, hv1⟩, C, gw3⟩
  clear c_r0 f_r0 c_r1 f_r1 c_r2 f_r2 l_r
  replace o_r := Dv.owns_drawn o_r gw3 (by omega)
  replace hG := grown_trans hG gw3
  have zw3 := gw3.size
  replace hu1 : u ≤ 998 := by omega
  replace hv1 : v ≤ 4 := by omega
  obtain ⟨c_r0, f_r0, c_r1, f_r1, c_r2, f_r2, l_r⟩ := Vn.v3 o_r
  obtain ⟨w4, hw4⟩ : ∃ y, y = w3.alloc (.cells #[.int .i64 (1 + u), .int .i64 v, .slice none 0 0] 26) := ⟨_, rfl⟩
  have o_b := var_owns w3 26 3 [.int .i64 (1 + u), .int .i64 v, .slice none 0 0] rfl
  have bw4 : Below w3.heap.size w3 w4 := hw4 ▸ (Below.refl _ _).alloc (Nat.le_refl _) _
  rw [← hw4] at o_b
  have sw4 : w4.heap.size = w3.heap.size + 1 := by rw [hw4]; simp
  have gw4 : w3.grownBy w4 (some B) := hw4 ▸ World.grownBy_alloc w3 _ _
  have zw4 : w3.heap.size < w4.heap.size := by rw [hw4]; simp
  have n_b : w3.heap.size ≠ B := by have := C.lt; have := C.low; omega
  have m_b : H0 ≤ w3.heap.size := by have := C.lt; have := C.low; omega
  replace C : IsCur w4 B H0 := hw4 ▸ C.alloc _
  replace o_r := owns_below o_r bw4
  replace hG := grown_trans hG gw4
  have HL := Lib.hid (show Calls Try.prog 35 #[.pointer (some ⟨B, 0, none⟩), .slice (some ⟨w3.heap.size + 1, 0, none⟩) 4 4] (w4.alloc (.cells #[.int .i64 0, .int .i64 2, .int .i64 5, .int .i64 18] 3)) (Drawn (fun z => 0 ≤ z ∧ z ≤ 18) w4 B H0) from int_litg [0, 2, 5, 18] 4 rfl w4 B H0 _ (sw4.symm) 3 C (by simp) (by simp) (fun z => 0 ≤ z ∧ z ≤ 18) (by simp))
  go_wp2_with fail
  rw [← hw4]
  clear hw4 sw4
  (with_reducible refine (HL.out).mono ?_); rintro e w5 ⟨i, rfl, ⟨hi0, hi1⟩, C, gw5⟩
  clear c_r0 f_r0 c_r1 f_r1 c_r2 f_r2 l_r
  replace o_r := Dv.owns_drawn o_r gw5 (by omega)
  replace o_b := Dv.owns_drawn o_b gw5 (by omega)
  replace hG := grown_trans hG gw5
  have zw5 := gw5.size
  clear HL
  obtain ⟨j0, rfl⟩ : ∃ j : Nat, i = j := ⟨i.toNat, by omega⟩
  have hj0 : j0 ≤ 18 := by omega
  clear hi0 hi1
  obtain ⟨c_r0, f_r0, c_r1, f_r1, c_r2, f_r2, l_r⟩ := Vn.v3 o_r
  obtain ⟨c_b0, f_b0, c_b1, f_b1, c_b2, f_b2, l_b⟩ := Vn.v3 o_b
  go_wp2
  clear c_r0 f_r0 c_r1 f_r1 c_r2 f_r2 l_r c_b0 f_b0 c_b1 f_b1 c_b2 f_b2 l_b
  go_loopw [4] (fun iv wr => ∃ (j : Nat) (x : Fx.ChallengeBook) (A : Option Addr) (c : Nat) (s : List Nat), iv = .int .i64 j ∧ j ≤ 18 ∧ Bk (18 - j) x ∧ Owns wr w.heap.size (ChallengesD x.Open) (.slice A x.Open.length c) s ∧ s.Nodup ∧ (∀ q, q ∈ s → w3.heap.size < q) ∧ Owns wr w.heap.size (varD 26 3 [.int .i64 0, .int .i64 0, .slice none 0 0]) (.slice (some ⟨w.heap.size, 0, none⟩) 1 1) [w.heap.size] ∧ Owns wr w3.heap.size (varD 26 3 [.int .i64 x.Seed, .int .i64 x.Next, .slice A x.Open.length c]) (.slice (some ⟨w3.heap.size, 0, none⟩) 1 1) [w3.heap.size] ∧ IsCur wr B H0 ∧ w.grownBy wr (some B)) (fun iv _ => (intOf iv).toNat)
  case atStart => exact ⟨j0, ⟨1 + u, v, []⟩, none, 0, [], rfl, hj0, (by have h1 := bk_zero (1 + u) v (by omega) (by omega); exact ⟨h1.1, by have := h1.2; omega⟩), own_zero _ _, List.nodup_nil, (fun q hq => by cases hq), o_r, o_b, C, hG⟩
  case round =>
    clear o_r o_b C hG
    obtain ⟨j, x, A, c, s, rfl, hj, hx, o_y, ny, i_y, o_r, o_b, C, hG⟩ := hrel
    have HX := Lib.hid hx
    have hxl : x.Open.length ≤ 18 := by have := hx.2; omega
    clear hx
    have zwr := hG.size
    have zb := var_lt o_b
    by_cases hlt : 0 < j
    · have hd : decide ((0 : Int) < j) = true := by simp; omega
      obtain ⟨c_r0, f_r0, c_r1, f_r1, c_r2, f_r2, l_r⟩ := Vn.v3 o_r
      obtain ⟨c_b0, f_b0, c_b1, f_b1, c_b2, f_b2, l_b⟩ := Vn.v3 o_b
      go_wp2
      clear c_r0 f_r0 c_r1 f_r1 c_r2 f_r2 l_r c_b0 f_b0 c_b1 f_b1 c_b2 f_b2 l_b
      obtain ⟨w6, hw6⟩ : ∃ y, y = wr.drew := ⟨_, rfl⟩
      have bw6 : Below wr.heap.size wr w6 := hw6 ▸ drewN_below wr 1 _
      have gw6 : wr.grownBy w6 (some B) := hw6 ▸ grown_drewN wr 1 _
      replace C : IsCur w6 B H0 := hw6 ▸ C.drewN 1
      replace o_r := owns_below o_r bw6
      replace o_b := owns_below o_b bw6
      replace o_y := owns_below o_y bw6
      replace hG := grown_trans hG gw6
      have zw6 := bw6.size
      refine wp_region_held_drew (S := (fun (wx : World) => True)) (by kernel_rfl) ?_ (fun hHeld => ?_)
      · trivial
      rw [← hw6]
      clear hw6
      refine wpAnyH_take (i := 1) (oi := ?oiv_1_1) (v := ?vv_1_1) ?hiv_1_1 (by kernel_rfl) (by kernel_rfl) (by kernel_rfl) ?hQv_1_1 (Or.inl ⟨?hwv_1_1, ?hyv_1_1⟩) (by assumption) ?_
      case hiv_1_1 => simp only [List.getElem?_toArray, List.getElem?_cons_succ, List.getElem?_cons_zero]; rfl
      case hQv_1_1 => exact fun _ _ _ h => h
      case hwv_1_1 => rfl
      case hyv_1_1 => intro w hSw; (try dsimp only at hSw); (first | (go_simp; done) | (go_simp; with_reducible rfl))
      try simp only [Act.put, List.setIfInBounds_toArray, List.set_cons_zero, List.set_cons_succ]
      refine wpAnyH_take (i := 3) (oi := ?oiv_3_2) (v := ?vv_3_2) ?hiv_3_2 (by kernel_rfl) (by kernel_rfl) (by kernel_rfl) ?hQv_3_2 (Or.inl ⟨?hwv_3_2, ?hyv_3_2⟩) (by assumption) ?_
      case hiv_3_2 => simp only [List.getElem?_toArray, List.getElem?_cons_succ, List.getElem?_cons_zero]; rfl
      case hQv_3_2 => exact fun _ _ _ h => h
      case hwv_3_2 => rfl
      case hyv_3_2 => intro w hSw; (try dsimp only at hSw); (first | (go_simp; done) | (go_simp; with_reducible rfl))
      try simp only [Act.put, List.setIfInBounds_toArray, List.set_cons_zero, List.set_cons_succ]
      refine wpAnyH_ready (rs := [0, 2]) (by kernel_rfl) (by simp) ?_
      refine AllReadyH.cons (o := ?ov_0_3) ?hiv_0_3 (fun K hK => ?gv_0_3) (AllReadyH.cons (o := ?ov_2_3) ?hiv_2_3 (fun K hK => ?gv_2_3) AllReadyH.nil)
      case hiv_0_3 => simp only [List.getElem?_toArray, List.getElem?_cons_zero]; rfl
      case hiv_2_3 => simp only [List.getElem?_toArray, List.getElem?_cons_succ, List.getElem?_cons_zero]; rfl
      case gv_0_3 =>
        obtain ⟨c_b0, f_b0, c_b1, f_b1, c_b2, f_b2, l_b⟩ := Vn.v3 o_b
        go_simp
        refine hK.out _ _ ?_ (fun hHeld => ?_)
        · trivial
        clear hK K
        try simp only [Act.put, List.setIfInBounds_toArray, List.set_cons_zero, List.set_cons_succ]
        refine wpAnyH_ready (rs := [2]) (by kernel_rfl) (by simp) ?_
        refine AllReadyH.cons (o := ?ov_2_4) ?hiv_2_4 (fun K hK => ?gv_2_4) AllReadyH.nil
        case hiv_2_4 => simp only [List.getElem?_toArray, List.getElem?_cons_succ, List.getElem?_cons_zero]; rfl
        case gv_2_4 =>
          go_simp
          go_at_call 57
          (with_reducible refine (below_any _ _ H0 4 C).mono ?_); rintro e w7 ⟨a, rfl, ⟨ha0, ha1⟩, C, gw7⟩
          clear c_b0 f_b0 c_b1 f_b1 c_b2 f_b2 l_b
          replace o_r := Dv.owns_drawn o_r gw7 (by omega)
          replace o_b := Dv.owns_drawn o_b gw7 (by omega)
          replace o_y := owns_turned o_y (turned_grown gw7) (fun b hb hb2 => by have h1 := i_y b hb; simp at hb2; omega)
          replace hG := grown_trans hG gw7
          have zw7 := gw7.size
          replace ha1 : a ≤ 3 := by omega
          refine hK.out _ _ ?_ (fun hHeld => ?_)
          · trivial
          clear hK K
          try simp only [Act.put, List.setIfInBounds_toArray, List.set_cons_zero, List.set_cons_succ]
          refine wpAnyH_ready (rs := [4]) (by kernel_rfl) (by simp) ?_
          refine AllReadyH.cons (o := ?ov_4_5) ?hiv_4_5 (fun K hK => ?gv_4_5) AllReadyH.nil
          case hiv_4_5 => simp only [List.getElem?_toArray, List.getElem?_cons_succ, List.getElem?_cons_zero]; rfl
          case gv_4_5 =>
            go_simp
            go_at_call 57
            (with_reducible refine (below_any _ _ H0 12 C).mono ?_); rintro e w8 ⟨t, rfl, ⟨ht0, ht1⟩, C, gw8⟩
            replace o_r := Dv.owns_drawn o_r gw8 (by omega)
            replace o_b := Dv.owns_drawn o_b gw8 (by omega)
            replace o_y := owns_turned o_y (turned_grown gw8) (fun b hb hb2 => by have h1 := i_y b hb; simp at hb2; omega)
            replace hG := grown_trans hG gw8
            have zw8 := gw8.size
            replace ht1 : t ≤ 11 := by omega
            refine hK.out _ _ ?_ (fun hHeld => ?_)
            · trivial
            clear hK K
            try simp only [Act.put, List.setIfInBounds_toArray, List.set_cons_zero, List.set_cons_succ]
            refine wpAnyH_ready (rs := [5]) (by kernel_rfl) (by simp) ?_
            refine AllReadyH.cons (o := ?ov_5_6) ?hiv_5_6 (fun K hK => ?gv_5_6) AllReadyH.nil
            case hiv_5_6 => simp only [List.getElem?_toArray, List.getElem?_cons_succ, List.getElem?_cons_zero]; rfl
            case gv_5_6 =>
              go_simp
              go_at_call 14
              (refine (specIssue w8 x a t _ (ChallengeBook.mkR (owns_rds _ _ _ o_y)) (by omega) (by omega) (by omega) (by omega) (by omega)).mono ?_); rintro e w9 ⟨v_z, s_z, rfl, o_z, n_z, bw9⟩
              have gw9 : World.grownBy w8 w9 (some B) := below_grown bw9
              replace o_r := owns_below o_r bw9
              replace o_b := owns_below o_b bw9
              replace o_y := owns_below o_y bw9
              replace hG := grown_trans hG gw9
              have zw9 := bw9.size
              replace C := cur_below C bw9
              have KX := bk_iss (a := a) (t := t) HX.out (by omega) (by omega) (by omega)
              obtain ⟨A_z, c_z, b_z, rfl, o_y2, rfl⟩ := ChallengeBook.owns o_z
              clear o_z
              obtain ⟨x2, hx2⟩ : ∃ y, y = issX x a t := ⟨_, rfl⟩
              rw [← hx2] at o_y2 KX ⊢
              clear hx2
              clear o_y i_y ny
              have o_y := o_y2
              clear o_y2
              have ny := n_z
              clear n_z
              have i_y := Fx.made_in o_y
              replace o_y := owns_base (show w.heap.size ≤ w8.heap.size by omega) _ _ _ o_y
              have HX2 := Lib.hid KX
              have hxl2 : x2.Open.length ≤ 19 - j := by have := KX.2; omega
              clear KX
              refine hK.out _ _ ?_ (fun hHeld => ?_)
              · trivial
              clear hK K
              try simp only [Act.put, List.setIfInBounds_toArray, List.set_cons_zero, List.set_cons_succ]
              refine wpAnyH_take (i := 6) (oi := ?oiv_6_7) (v := ?vv_6_7) ?hiv_6_7 (by kernel_rfl) (by kernel_rfl) (by kernel_rfl) ?hQv_6_7 (Or.inl ⟨?hwv_6_7, ?hyv_6_7⟩) (by assumption) ?_
              case hiv_6_7 => simp only [List.getElem?_toArray, List.getElem?_cons_succ, List.getElem?_cons_zero]; rfl
              case hQv_6_7 => exact fun _ _ _ h => h
              case hwv_6_7 => rfl
              case hyv_6_7 => intro w hSw; (try dsimp only at hSw); (first | (go_simp; done) | (go_simp; with_reducible rfl))
              try simp only [Act.put, List.setIfInBounds_toArray, List.set_cons_zero, List.set_cons_succ]
              refine wpAnyH_take (i := 7) (oi := ?oiv_7_8) (v := ?vv_7_8) ?hiv_7_8 (by kernel_rfl) (by kernel_rfl) (by kernel_rfl) ?hQv_7_8 (Or.inl ⟨?hwv_7_8, ?hyv_7_8⟩) (by assumption) ?_
              case hiv_7_8 => simp only [List.getElem?_toArray, List.getElem?_cons_succ, List.getElem?_cons_zero]; rfl
              case hQv_7_8 => exact fun _ _ _ h => h
              case hwv_7_8 => rfl
              case hyv_7_8 => intro w hSw; (try dsimp only at hSw); (first | (go_simp; done) | (go_simp; with_reducible rfl))
              try simp only [Act.put, List.setIfInBounds_toArray, List.set_cons_zero, List.set_cons_succ]
              refine wpAnyH_take (i := 8) (oi := ?oiv_8_9) (v := ?vv_8_9) ?hiv_8_9 (by kernel_rfl) (by kernel_rfl) (by kernel_rfl) ?hQv_8_9 (Or.inl ⟨?hwv_8_9, ?hyv_8_9⟩) (by assumption) ?_
              case hiv_8_9 => simp only [List.getElem?_toArray, List.getElem?_cons_succ, List.getElem?_cons_zero]; rfl
              case hQv_8_9 => exact fun _ _ _ h => h
              case hwv_8_9 => rfl
              case hyv_8_9 => intro w hSw; (try dsimp only at hSw); (first | (go_simp; done) | (go_simp; with_reducible rfl))
              try simp only [Act.put, List.setIfInBounds_toArray, List.set_cons_zero, List.set_cons_succ]
              refine wpAnyH_take (i := 9) (oi := ?oiv_9_10) (v := ?vv_9_10) ?hiv_9_10 (by kernel_rfl) (by kernel_rfl) (by kernel_rfl) ?hQv_9_10 (Or.inl ⟨?hwv_9_10, ?hyv_9_10⟩) (by assumption) ?_
              case hiv_9_10 => simp only [List.getElem?_toArray, List.getElem?_cons_succ, List.getElem?_cons_zero]; rfl
              case hQv_9_10 => exact fun _ _ _ h => h
              case hwv_9_10 => rfl
              case hyv_9_10 => intro w hSw; (try dsimp only at hSw); (first | (go_simp; done) | (go_simp; with_reducible rfl))
              try simp only [Act.put, List.setIfInBounds_toArray, List.set_cons_zero, List.set_cons_succ]
              refine wpAnyH_ready (rs := [10]) (by kernel_rfl) (by simp) ?_
              refine AllReadyH.cons (o := ?ov_10_11) ?hiv_10_11 (fun K hK => ?gv_10_11) AllReadyH.nil
              case hiv_10_11 => simp only [List.getElem?_toArray, List.getElem?_cons_succ, List.getElem?_cons_zero]; rfl
              case gv_10_11 =>
                obtain ⟨c_b0, f_b0, c_b1, f_b1, c_b2, f_b2, l_b⟩ := Vn.v3 o_b
                go_simp
                clear c_b0 f_b0 c_b1 f_b1 c_b2 f_b2 l_b
                obtain ⟨w10, hw10⟩ : ∃ y, y = (((w9.setCell ⟨w3.heap.size, 0, none⟩ (.int .i64 x2.Seed)).setCell ⟨w3.heap.size, 1, none⟩ (.int .i64 x2.Next)).setCell ⟨w3.heap.size, 2, none⟩ (.slice A_z x2.Open.length c_z)) := ⟨_, rfl⟩
                obtain ⟨o_new, tw10⟩ := var_some [.int .i64 x2.Seed, .int .i64 x2.Next, .slice A_z x2.Open.length c_z] 0 _ _ o_b (by simp)
                rw [show setAll w9 (w3.heap.size) 0 [.int .i64 x2.Seed, .int .i64 x2.Next, .slice A_z x2.Open.length c_z] = w10 from hw10.symm] at o_new tw10
                replace o_b : Owns w10 _ (varD 26 3 [.int .i64 x2.Seed, .int .i64 x2.Next, .slice A_z x2.Open.length c_z]) _ _ := o_new
                clear o_new
                replace o_r := owns_turned o_r tw10 (fun b hb hb2 => by simp at hb hb2; omega)
                replace o_y := owns_turned o_y tw10 (fun b hb hb2 => by have h1 := i_y b hb; simp at hb2; omega)
                replace hG := Dv.grown_turned hG tw10 (fun b hb => by simp at hb; omega)
                replace C := Dv.cur_turned C tw10 (by omega) (by omega)
                have zw10 := tw10.2.2.2.1
                rw [← hw10]
                clear hw10
                refine hK.out _ _ ?_ (fun hHeld => ?_)
                · trivial
                clear hK K
                try simp only [Act.put, List.setIfInBounds_toArray, List.set_cons_zero, List.set_cons_succ]
                refine wpAnyH_done (by kernel_rfl) ?_ _
                obtain ⟨c_r0, f_r0, c_r1, f_r1, c_r2, f_r2, l_r⟩ := Vn.v3 o_r
                obtain ⟨c_b0, f_b0, c_b1, f_b1, c_b2, f_b2, l_b⟩ := Vn.v3 o_b
                go_wp2_with fail
                (with_reducible refine (once_any _ _ H0 5 C).mono ?_); rintro e w11 ⟨f, rfl, C, gw11⟩
                clear c_r0 f_r0 c_r1 f_r1 c_r2 f_r2 l_r c_b0 f_b0 c_b1 f_b1 c_b2 f_b2 l_b
                replace o_r := Dv.owns_drawn o_r gw11 (by omega)
                replace o_b := Dv.owns_drawn o_b gw11 (by omega)
                replace o_y := owns_turned o_y (turned_grown gw11) (fun b hb hb2 => by have h1 := i_y b hb; simp at hb2; omega)
                replace hG := grown_trans hG gw11
                have zw11 := gw11.size
                cases f
                ·
                  obtain ⟨c_r0, f_r0, c_r1, f_r1, c_r2, f_r2, l_r⟩ := Vn.v3 o_r
                  obtain ⟨c_b0, f_b0, c_b1, f_b1, c_b2, f_b2, l_b⟩ := Vn.v3 o_b
                  go_wp2
                  clear c_r0 f_r0 c_r1 f_r1 c_r2 f_r2 l_r c_b0 f_b0 c_b1 f_b1 c_b2 f_b2 l_b
                  go_roundw
                  case rel => exact ⟨j - 1, x2, A_z, c_z, _, by go_num, by omega, (by have h1 := HX2.out; exact ⟨h1.1, by have := h1.2; omega⟩), o_y, ny, (fun q hq => by have h1 := i_y q hq; omega), o_r, o_b, C, hG⟩
                  case measure => simp [intOf]; omega
                ·
                  obtain ⟨c_r0, f_r0, c_r1, f_r1, c_r2, f_r2, l_r⟩ := Vn.v3 o_r
                  obtain ⟨c_b0, f_b0, c_b1, f_b1, c_b2, f_b2, l_b⟩ := Vn.v3 o_b
                  go_wp2_with fail
                  (refine (specTake w11 x2 _ _ _ _ (ChallengeBook.mkR (owns_rds _ _ _ o_y)) (fun A3 c3 e3 => by injection e3 with _ e3; injection e3 with _ e3; injection e3 with e3 _; injection e3 with e4 _ e5; subst e4 e5; exact (own_at o_y).sh) (by omega)).mono ?_); rintro e w12 ⟨v_z, s_z, rfl, o_z, n_z, bw12⟩
                  clear c_r0 f_r0 c_r1 f_r1 c_r2 f_r2 l_r c_b0 f_b0 c_b1 f_b1 c_b2 f_b2 l_b
                  have gw12 : World.grownBy w11 w12 (some B) := below_grown bw12
                  replace o_r := owns_below o_r bw12
                  replace o_b := owns_below o_b bw12
                  replace o_y := owns_below o_y bw12
                  replace hG := grown_trans hG gw12
                  have zw12 := bw12.size
                  replace C := cur_below C bw12
                  have KX := bk_take (i := wrap64 (x2.Next - 1)) HX2.out
                  obtain ⟨A_z, c_z, b_z, rfl, o_y2, rfl⟩ := ChallengeBook.owns o_z
                  clear o_z
                  obtain ⟨x3, hx2⟩ : ∃ y, y = takeX x2 (wrap64 (x2.Next - 1)) := ⟨_, rfl⟩
                  rw [← hx2] at o_y2 KX ⊢
                  clear hx2
                  clear o_y i_y ny
                  have o_y := o_y2
                  clear o_y2
                  have ny := n_z
                  clear n_z
                  have i_y := Fx.made_in o_y
                  replace o_y := owns_base (show w.heap.size ≤ w11.heap.size by omega) _ _ _ o_y
                  have HX3 := Lib.hid KX
                  have hxl3 : x3.Open.length ≤ 19 - j := by have := KX.2; omega
                  clear KX
                  obtain ⟨c_r0, f_r0, c_r1, f_r1, c_r2, f_r2, l_r⟩ := Vn.v3 o_r
                  obtain ⟨c_b0, f_b0, c_b1, f_b1, c_b2, f_b2, l_b⟩ := Vn.v3 o_b
                  go_wp2
                  clear c_r0 f_r0 c_r1 f_r1 c_r2 f_r2 l_r c_b0 f_b0 c_b1 f_b1 c_b2 f_b2 l_b
                  obtain ⟨w13, hw13⟩ : ∃ y, y = (((w12.setCell ⟨w3.heap.size, 0, none⟩ (.int .i64 x3.Seed)).setCell ⟨w3.heap.size, 1, none⟩ (.int .i64 x3.Next)).setCell ⟨w3.heap.size, 2, none⟩ (.slice A_z x3.Open.length c_z)) := ⟨_, rfl⟩
                  obtain ⟨o_new, tw13⟩ := var_some [.int .i64 x3.Seed, .int .i64 x3.Next, .slice A_z x3.Open.length c_z] 0 _ _ o_b (by simp)
                  rw [show setAll w12 (w3.heap.size) 0 [.int .i64 x3.Seed, .int .i64 x3.Next, .slice A_z x3.Open.length c_z] = w13 from hw13.symm] at o_new tw13
                  replace o_b : Owns w13 _ (varD 26 3 [.int .i64 x3.Seed, .int .i64 x3.Next, .slice A_z x3.Open.length c_z]) _ _ := o_new
                  clear o_new
                  replace o_r := owns_turned o_r tw13 (fun b hb hb2 => by simp at hb hb2; omega)
                  replace o_y := owns_turned o_y tw13 (fun b hb hb2 => by have h1 := i_y b hb; simp at hb2; omega)
                  replace hG := Dv.grown_turned hG tw13 (fun b hb => by simp at hb; omega)
                  replace C := Dv.cur_turned C tw13 (by omega) (by omega)
                  have zw13 := tw13.2.2.2.1
                  rw [← hw13]
                  clear hw13
                  go_roundw
                  case rel => exact ⟨j - 1, x3, A_z, c_z, _, by go_num, by omega, (by have h1 := HX3.out; exact ⟨h1.1, by have := h1.2; omega⟩), o_y, ny, (fun q hq => by have h1 := i_y q hq; omega), o_r, o_b, C, hG⟩
                  case measure => simp [intOf]; omega
      case gv_2_3 =>
        go_simp
        go_at_call 57
        (with_reducible refine (below_any _ _ H0 4 C).mono ?_); rintro e w7 ⟨a, rfl, ⟨ha0, ha1⟩, C, gw7⟩
        replace o_r := Dv.owns_drawn o_r gw7 (by omega)
        replace o_b := Dv.owns_drawn o_b gw7 (by omega)
        replace o_y := owns_turned o_y (turned_grown gw7) (fun b hb hb2 => by have h1 := i_y b hb; simp at hb2; omega)
        replace hG := grown_trans hG gw7
        have zw7 := gw7.size
        replace ha1 : a ≤ 3 := by omega
        refine hK.out _ _ ?_ (fun hHeld => ?_)
        · trivial
        clear hK K
        try simp only [Act.put, List.setIfInBounds_toArray, List.set_cons_zero, List.set_cons_succ]
        refine wpAnyH_ready (rs := [0, 4]) (by kernel_rfl) (by simp) ?_
        refine AllReadyH.cons (o := ?ov_0_12) ?hiv_0_12 (fun K hK => ?gv_0_12) (AllReadyH.cons (o := ?ov_4_12) ?hiv_4_12 (fun K hK => ?gv_4_12) AllReadyH.nil)
        case hiv_0_12 => simp only [List.getElem?_toArray, List.getElem?_cons_zero]; rfl
        case hiv_4_12 => simp only [List.getElem?_toArray, List.getElem?_cons_succ, List.getElem?_cons_zero]; rfl
        case gv_0_12 =>
          obtain ⟨c_b0, f_b0, c_b1, f_b1, c_b2, f_b2, l_b⟩ := Vn.v3 o_b
          go_simp
          refine hK.out _ _ ?_ (fun hHeld => ?_)
          · trivial
          clear hK K
          try simp only [Act.put, List.setIfInBounds_toArray, List.set_cons_zero, List.set_cons_succ]
          refine wpAnyH_ready (rs := [4]) (by kernel_rfl) (by simp) ?_
          refine AllReadyH.cons (o := ?ov_4_13) ?hiv_4_13 (fun K hK => ?gv_4_13) AllReadyH.nil
          case hiv_4_13 => simp only [List.getElem?_toArray, List.getElem?_cons_succ, List.getElem?_cons_zero]; rfl
          case gv_4_13 =>
            go_simp
            go_at_call 57
            (with_reducible refine (below_any _ _ H0 12 C).mono ?_); rintro e w8 ⟨t, rfl, ⟨ht0, ht1⟩, C, gw8⟩
            clear c_b0 f_b0 c_b1 f_b1 c_b2 f_b2 l_b
            replace o_r := Dv.owns_drawn o_r gw8 (by omega)
            replace o_b := Dv.owns_drawn o_b gw8 (by omega)
            replace o_y := owns_turned o_y (turned_grown gw8) (fun b hb hb2 => by have h1 := i_y b hb; simp at hb2; omega)
            replace hG := grown_trans hG gw8
            have zw8 := gw8.size
            replace ht1 : t ≤ 11 := by omega
            refine hK.out _ _ ?_ (fun hHeld => ?_)
            · trivial
            clear hK K
            try simp only [Act.put, List.setIfInBounds_toArray, List.set_cons_zero, List.set_cons_succ]
            refine wpAnyH_ready (rs := [5]) (by kernel_rfl) (by simp) ?_
            refine AllReadyH.cons (o := ?ov_5_14) ?hiv_5_14 (fun K hK => ?gv_5_14) AllReadyH.nil
            case hiv_5_14 => simp only [List.getElem?_toArray, List.getElem?_cons_succ, List.getElem?_cons_zero]; rfl
            case gv_5_14 =>
              go_simp
              go_at_call 14
              (refine (specIssue w8 x a t _ (ChallengeBook.mkR (owns_rds _ _ _ o_y)) (by omega) (by omega) (by omega) (by omega) (by omega)).mono ?_); rintro e w9 ⟨v_z, s_z, rfl, o_z, n_z, bw9⟩
              have gw9 : World.grownBy w8 w9 (some B) := below_grown bw9
              replace o_r := owns_below o_r bw9
              replace o_b := owns_below o_b bw9
              replace o_y := owns_below o_y bw9
              replace hG := grown_trans hG gw9
              have zw9 := bw9.size
              replace C := cur_below C bw9
              have KX := bk_iss (a := a) (t := t) HX.out (by omega) (by omega) (by omega)
              obtain ⟨A_z, c_z, b_z, rfl, o_y2, rfl⟩ := ChallengeBook.owns o_z
              clear o_z
              obtain ⟨x2, hx2⟩ : ∃ y, y = issX x a t := ⟨_, rfl⟩
              rw [← hx2] at o_y2 KX ⊢
              clear hx2
              clear o_y i_y ny
              have o_y := o_y2
              clear o_y2
              have ny := n_z
              clear n_z
              have i_y := Fx.made_in o_y
              replace o_y := owns_base (show w.heap.size ≤ w8.heap.size by omega) _ _ _ o_y
              have HX2 := Lib.hid KX
              have hxl2 : x2.Open.length ≤ 19 - j := by have := KX.2; omega
              clear KX
              refine hK.out _ _ ?_ (fun hHeld => ?_)
              · trivial
              clear hK K
              try simp only [Act.put, List.setIfInBounds_toArray, List.set_cons_zero, List.set_cons_succ]
              refine wpAnyH_take (i := 6) (oi := ?oiv_6_15) (v := ?vv_6_15) ?hiv_6_15 (by kernel_rfl) (by kernel_rfl) (by kernel_rfl) ?hQv_6_15 (Or.inl ⟨?hwv_6_15, ?hyv_6_15⟩) (by assumption) ?_
              case hiv_6_15 => simp only [List.getElem?_toArray, List.getElem?_cons_succ, List.getElem?_cons_zero]; rfl
              case hQv_6_15 => exact fun _ _ _ h => h
              case hwv_6_15 => rfl
              case hyv_6_15 => intro w hSw; (try dsimp only at hSw); (first | (go_simp; done) | (go_simp; with_reducible rfl))
              try simp only [Act.put, List.setIfInBounds_toArray, List.set_cons_zero, List.set_cons_succ]
              refine wpAnyH_take (i := 7) (oi := ?oiv_7_16) (v := ?vv_7_16) ?hiv_7_16 (by kernel_rfl) (by kernel_rfl) (by kernel_rfl) ?hQv_7_16 (Or.inl ⟨?hwv_7_16, ?hyv_7_16⟩) (by assumption) ?_
              case hiv_7_16 => simp only [List.getElem?_toArray, List.getElem?_cons_succ, List.getElem?_cons_zero]; rfl
              case hQv_7_16 => exact fun _ _ _ h => h
              case hwv_7_16 => rfl
              case hyv_7_16 => intro w hSw; (try dsimp only at hSw); (first | (go_simp; done) | (go_simp; with_reducible rfl))
              try simp only [Act.put, List.setIfInBounds_toArray, List.set_cons_zero, List.set_cons_succ]
              refine wpAnyH_take (i := 8) (oi := ?oiv_8_17) (v := ?vv_8_17) ?hiv_8_17 (by kernel_rfl) (by kernel_rfl) (by kernel_rfl) ?hQv_8_17 (Or.inl ⟨?hwv_8_17, ?hyv_8_17⟩) (by assumption) ?_
              case hiv_8_17 => simp only [List.getElem?_toArray, List.getElem?_cons_succ, List.getElem?_cons_zero]; rfl
              case hQv_8_17 => exact fun _ _ _ h => h
              case hwv_8_17 => rfl
              case hyv_8_17 => intro w hSw; (try dsimp only at hSw); (first | (go_simp; done) | (go_simp; with_reducible rfl))
              try simp only [Act.put, List.setIfInBounds_toArray, List.set_cons_zero, List.set_cons_succ]
              refine wpAnyH_take (i := 9) (oi := ?oiv_9_18) (v := ?vv_9_18) ?hiv_9_18 (by kernel_rfl) (by kernel_rfl) (by kernel_rfl) ?hQv_9_18 (Or.inl ⟨?hwv_9_18, ?hyv_9_18⟩) (by assumption) ?_
              case hiv_9_18 => simp only [List.getElem?_toArray, List.getElem?_cons_succ, List.getElem?_cons_zero]; rfl
              case hQv_9_18 => exact fun _ _ _ h => h
              case hwv_9_18 => rfl
              case hyv_9_18 => intro w hSw; (try dsimp only at hSw); (first | (go_simp; done) | (go_simp; with_reducible rfl))
              try simp only [Act.put, List.setIfInBounds_toArray, List.set_cons_zero, List.set_cons_succ]
              refine wpAnyH_ready (rs := [10]) (by kernel_rfl) (by simp) ?_
              refine AllReadyH.cons (o := ?ov_10_19) ?hiv_10_19 (fun K hK => ?gv_10_19) AllReadyH.nil
              case hiv_10_19 => simp only [List.getElem?_toArray, List.getElem?_cons_succ, List.getElem?_cons_zero]; rfl
              case gv_10_19 =>
                obtain ⟨c_b0, f_b0, c_b1, f_b1, c_b2, f_b2, l_b⟩ := Vn.v3 o_b
                go_simp
                clear c_b0 f_b0 c_b1 f_b1 c_b2 f_b2 l_b
                obtain ⟨w10, hw10⟩ : ∃ y, y = (((w9.setCell ⟨w3.heap.size, 0, none⟩ (.int .i64 x2.Seed)).setCell ⟨w3.heap.size, 1, none⟩ (.int .i64 x2.Next)).setCell ⟨w3.heap.size, 2, none⟩ (.slice A_z x2.Open.length c_z)) := ⟨_, rfl⟩
                obtain ⟨o_new, tw10⟩ := var_some [.int .i64 x2.Seed, .int .i64 x2.Next, .slice A_z x2.Open.length c_z] 0 _ _ o_b (by simp)
                rw [show setAll w9 (w3.heap.size) 0 [.int .i64 x2.Seed, .int .i64 x2.Next, .slice A_z x2.Open.length c_z] = w10 from hw10.symm] at o_new tw10
                replace o_b : Owns w10 _ (varD 26 3 [.int .i64 x2.Seed, .int .i64 x2.Next, .slice A_z x2.Open.length c_z]) _ _ := o_new
                clear o_new
                replace o_r := owns_turned o_r tw10 (fun b hb hb2 => by simp at hb hb2; omega)
                replace o_y := owns_turned o_y tw10 (fun b hb hb2 => by have h1 := i_y b hb; simp at hb2; omega)
                replace hG := Dv.grown_turned hG tw10 (fun b hb => by simp at hb; omega)
                replace C := Dv.cur_turned C tw10 (by omega) (by omega)
                have zw10 := tw10.2.2.2.1
                rw [← hw10]
                clear hw10
                refine hK.out _ _ ?_ (fun hHeld => ?_)
                · trivial
                clear hK K
                try simp only [Act.put, List.setIfInBounds_toArray, List.set_cons_zero, List.set_cons_succ]
                refine wpAnyH_done (by kernel_rfl) ?_ _
                obtain ⟨c_r0, f_r0, c_r1, f_r1, c_r2, f_r2, l_r⟩ := Vn.v3 o_r
                obtain ⟨c_b0, f_b0, c_b1, f_b1, c_b2, f_b2, l_b⟩ := Vn.v3 o_b
                go_wp2_with fail
                (with_reducible refine (once_any _ _ H0 5 C).mono ?_); rintro e w11 ⟨f, rfl, C, gw11⟩
                clear c_r0 f_r0 c_r1 f_r1 c_r2 f_r2 l_r c_b0 f_b0 c_b1 f_b1 c_b2 f_b2 l_b
                replace o_r := Dv.owns_drawn o_r gw11 (by omega)
                replace o_b := Dv.owns_drawn o_b gw11 (by omega)
                replace o_y := owns_turned o_y (turned_grown gw11) (fun b hb hb2 => by have h1 := i_y b hb; simp at hb2; omega)
                replace hG := grown_trans hG gw11
                have zw11 := gw11.size
                cases f
                ·
                  obtain ⟨c_r0, f_r0, c_r1, f_r1, c_r2, f_r2, l_r⟩ := Vn.v3 o_r
                  obtain ⟨c_b0, f_b0, c_b1, f_b1, c_b2, f_b2, l_b⟩ := Vn.v3 o_b
                  go_wp2
                  clear c_r0 f_r0 c_r1 f_r1 c_r2 f_r2 l_r c_b0 f_b0 c_b1 f_b1 c_b2 f_b2 l_b
                  go_roundw
                  case rel => exact ⟨j - 1, x2, A_z, c_z, _, by go_num, by omega, (by have h1 := HX2.out; exact ⟨h1.1, by have := h1.2; omega⟩), o_y, ny, (fun q hq => by have h1 := i_y q hq; omega), o_r, o_b, C, hG⟩
                  case measure => simp [intOf]; omega
                ·
                  obtain ⟨c_r0, f_r0, c_r1, f_r1, c_r2, f_r2, l_r⟩ := Vn.v3 o_r
                  obtain ⟨c_b0, f_b0, c_b1, f_b1, c_b2, f_b2, l_b⟩ := Vn.v3 o_b
                  go_wp2_with fail
                  (refine (specTake w11 x2 _ _ _ _ (ChallengeBook.mkR (owns_rds _ _ _ o_y)) (fun A3 c3 e3 => by injection e3 with _ e3; injection e3 with _ e3; injection e3 with e3 _; injection e3 with e4 _ e5; subst e4 e5; exact (own_at o_y).sh) (by omega)).mono ?_); rintro e w12 ⟨v_z, s_z, rfl, o_z, n_z, bw12⟩
                  clear c_r0 f_r0 c_r1 f_r1 c_r2 f_r2 l_r c_b0 f_b0 c_b1 f_b1 c_b2 f_b2 l_b
                  have gw12 : World.grownBy w11 w12 (some B) := below_grown bw12
                  replace o_r := owns_below o_r bw12
                  replace o_b := owns_below o_b bw12
                  replace o_y := owns_below o_y bw12
                  replace hG := grown_trans hG gw12
                  have zw12 := bw12.size
                  replace C := cur_below C bw12
                  have KX := bk_take (i := wrap64 (x2.Next - 1)) HX2.out
                  obtain ⟨A_z, c_z, b_z, rfl, o_y2, rfl⟩ := ChallengeBook.owns o_z
                  clear o_z
                  obtain ⟨x3, hx2⟩ : ∃ y, y = takeX x2 (wrap64 (x2.Next - 1)) := ⟨_, rfl⟩
                  rw [← hx2] at o_y2 KX ⊢
                  clear hx2
                  clear o_y i_y ny
                  have o_y := o_y2
                  clear o_y2
                  have ny := n_z
                  clear n_z
                  have i_y := Fx.made_in o_y
                  replace o_y := owns_base (show w.heap.size ≤ w11.heap.size by omega) _ _ _ o_y
                  have HX3 := Lib.hid KX
                  have hxl3 : x3.Open.length ≤ 19 - j := by have := KX.2; omega
                  clear KX
                  obtain ⟨c_r0, f_r0, c_r1, f_r1, c_r2, f_r2, l_r⟩ := Vn.v3 o_r
                  obtain ⟨c_b0, f_b0, c_b1, f_b1, c_b2, f_b2, l_b⟩ := Vn.v3 o_b
                  go_wp2
                  clear c_r0 f_r0 c_r1 f_r1 c_r2 f_r2 l_r c_b0 f_b0 c_b1 f_b1 c_b2 f_b2 l_b
                  obtain ⟨w13, hw13⟩ : ∃ y, y = (((w12.setCell ⟨w3.heap.size, 0, none⟩ (.int .i64 x3.Seed)).setCell ⟨w3.heap.size, 1, none⟩ (.int .i64 x3.Next)).setCell ⟨w3.heap.size, 2, none⟩ (.slice A_z x3.Open.length c_z)) := ⟨_, rfl⟩
                  obtain ⟨o_new, tw13⟩ := var_some [.int .i64 x3.Seed, .int .i64 x3.Next, .slice A_z x3.Open.length c_z] 0 _ _ o_b (by simp)
                  rw [show setAll w12 (w3.heap.size) 0 [.int .i64 x3.Seed, .int .i64 x3.Next, .slice A_z x3.Open.length c_z] = w13 from hw13.symm] at o_new tw13
                  replace o_b : Owns w13 _ (varD 26 3 [.int .i64 x3.Seed, .int .i64 x3.Next, .slice A_z x3.Open.length c_z]) _ _ := o_new
                  clear o_new
                  replace o_r := owns_turned o_r tw13 (fun b hb hb2 => by simp at hb hb2; omega)
                  replace o_y := owns_turned o_y tw13 (fun b hb hb2 => by have h1 := i_y b hb; simp at hb2; omega)
                  replace hG := Dv.grown_turned hG tw13 (fun b hb => by simp at hb; omega)
                  replace C := Dv.cur_turned C tw13 (by omega) (by omega)
                  have zw13 := tw13.2.2.2.1
                  rw [← hw13]
                  clear hw13
                  go_roundw
                  case rel => exact ⟨j - 1, x3, A_z, c_z, _, by go_num, by omega, (by have h1 := HX3.out; exact ⟨h1.1, by have := h1.2; omega⟩), o_y, ny, (fun q hq => by have h1 := i_y q hq; omega), o_r, o_b, C, hG⟩
                  case measure => simp [intOf]; omega
        case gv_4_12 =>
          go_simp
          go_at_call 57
          (with_reducible refine (below_any _ _ H0 12 C).mono ?_); rintro e w8 ⟨t, rfl, ⟨ht0, ht1⟩, C, gw8⟩
          replace o_r := Dv.owns_drawn o_r gw8 (by omega)
          replace o_b := Dv.owns_drawn o_b gw8 (by omega)
          replace o_y := owns_turned o_y (turned_grown gw8) (fun b hb hb2 => by have h1 := i_y b hb; simp at hb2; omega)
          replace hG := grown_trans hG gw8
          have zw8 := gw8.size
          replace ht1 : t ≤ 11 := by omega
          refine hK.out _ _ ?_ (fun hHeld => ?_)
          · trivial
          clear hK K
          try simp only [Act.put, List.setIfInBounds_toArray, List.set_cons_zero, List.set_cons_succ]
          refine wpAnyH_ready (rs := [0]) (by kernel_rfl) (by simp) ?_
          refine AllReadyH.cons (o := ?ov_0_20) ?hiv_0_20 (fun K hK => ?gv_0_20) AllReadyH.nil
          case hiv_0_20 => simp only [List.getElem?_toArray, List.getElem?_cons_zero]; rfl
          case gv_0_20 =>
            obtain ⟨c_b0, f_b0, c_b1, f_b1, c_b2, f_b2, l_b⟩ := Vn.v3 o_b
            go_simp
            refine hK.out _ _ ?_ (fun hHeld => ?_)
            · trivial
            clear hK K
            try simp only [Act.put, List.setIfInBounds_toArray, List.set_cons_zero, List.set_cons_succ]
            refine wpAnyH_ready (rs := [5]) (by kernel_rfl) (by simp) ?_
            refine AllReadyH.cons (o := ?ov_5_21) ?hiv_5_21 (fun K hK => ?gv_5_21) AllReadyH.nil
            case hiv_5_21 => simp only [List.getElem?_toArray, List.getElem?_cons_succ, List.getElem?_cons_zero]; rfl
            case gv_5_21 =>
              go_simp
              go_at_call 14
              (refine (specIssue w8 x a t _ (ChallengeBook.mkR (owns_rds _ _ _ o_y)) (by omega) (by omega) (by omega) (by omega) (by omega)).mono ?_); rintro e w9 ⟨v_z, s_z, rfl, o_z, n_z, bw9⟩
              clear c_b0 f_b0 c_b1 f_b1 c_b2 f_b2 l_b
              have gw9 : World.grownBy w8 w9 (some B) := below_grown bw9
              replace o_r := owns_below o_r bw9
              replace o_b := owns_below o_b bw9
              replace o_y := owns_below o_y bw9
              replace hG := grown_trans hG gw9
              have zw9 := bw9.size
              replace C := cur_below C bw9
              have KX := bk_iss (a := a) (t := t) HX.out (by omega) (by omega) (by omega)
              obtain ⟨A_z, c_z, b_z, rfl, o_y2, rfl⟩ := ChallengeBook.owns o_z
              clear o_z
              obtain ⟨x2, hx2⟩ : ∃ y, y = issX x a t := ⟨_, rfl⟩
              rw [← hx2] at o_y2 KX ⊢
              clear hx2
              clear o_y i_y ny
              have o_y := o_y2
              clear o_y2
              have ny := n_z
              clear n_z
              have i_y := Fx.made_in o_y
              replace o_y := owns_base (show w.heap.size ≤ w8.heap.size by omega) _ _ _ o_y
              have HX2 := Lib.hid KX
              have hxl2 : x2.Open.length ≤ 19 - j := by have := KX.2; omega
              clear KX
              refine hK.out _ _ ?_ (fun hHeld => ?_)
              · trivial
              clear hK K
              try simp only [Act.put, List.setIfInBounds_toArray, List.set_cons_zero, List.set_cons_succ]
              refine wpAnyH_take (i := 6) (oi := ?oiv_6_22) (v := ?vv_6_22) ?hiv_6_22 (by kernel_rfl) (by kernel_rfl) (by kernel_rfl) ?hQv_6_22 (Or.inl ⟨?hwv_6_22, ?hyv_6_22⟩) (by assumption) ?_
              case hiv_6_22 => simp only [List.getElem?_toArray, List.getElem?_cons_succ, List.getElem?_cons_zero]; rfl
              case hQv_6_22 => exact fun _ _ _ h => h
              case hwv_6_22 => rfl
              case hyv_6_22 => intro w hSw; (try dsimp only at hSw); (first | (go_simp; done) | (go_simp; with_reducible rfl))
              try simp only [Act.put, List.setIfInBounds_toArray, List.set_cons_zero, List.set_cons_succ]
              refine wpAnyH_take (i := 7) (oi := ?oiv_7_23) (v := ?vv_7_23) ?hiv_7_23 (by kernel_rfl) (by kernel_rfl) (by kernel_rfl) ?hQv_7_23 (Or.inl ⟨?hwv_7_23, ?hyv_7_23⟩) (by assumption) ?_
              case hiv_7_23 => simp only [List.getElem?_toArray, List.getElem?_cons_succ, List.getElem?_cons_zero]; rfl
              case hQv_7_23 => exact fun _ _ _ h => h
              case hwv_7_23 => rfl
              case hyv_7_23 => intro w hSw; (try dsimp only at hSw); (first | (go_simp; done) | (go_simp; with_reducible rfl))
              try simp only [Act.put, List.setIfInBounds_toArray, List.set_cons_zero, List.set_cons_succ]
              refine wpAnyH_take (i := 8) (oi := ?oiv_8_24) (v := ?vv_8_24) ?hiv_8_24 (by kernel_rfl) (by kernel_rfl) (by kernel_rfl) ?hQv_8_24 (Or.inl ⟨?hwv_8_24, ?hyv_8_24⟩) (by assumption) ?_
              case hiv_8_24 => simp only [List.getElem?_toArray, List.getElem?_cons_succ, List.getElem?_cons_zero]; rfl
              case hQv_8_24 => exact fun _ _ _ h => h
              case hwv_8_24 => rfl
              case hyv_8_24 => intro w hSw; (try dsimp only at hSw); (first | (go_simp; done) | (go_simp; with_reducible rfl))
              try simp only [Act.put, List.setIfInBounds_toArray, List.set_cons_zero, List.set_cons_succ]
              refine wpAnyH_take (i := 9) (oi := ?oiv_9_25) (v := ?vv_9_25) ?hiv_9_25 (by kernel_rfl) (by kernel_rfl) (by kernel_rfl) ?hQv_9_25 (Or.inl ⟨?hwv_9_25, ?hyv_9_25⟩) (by assumption) ?_
              case hiv_9_25 => simp only [List.getElem?_toArray, List.getElem?_cons_succ, List.getElem?_cons_zero]; rfl
              case hQv_9_25 => exact fun _ _ _ h => h
              case hwv_9_25 => rfl
              case hyv_9_25 => intro w hSw; (try dsimp only at hSw); (first | (go_simp; done) | (go_simp; with_reducible rfl))
              try simp only [Act.put, List.setIfInBounds_toArray, List.set_cons_zero, List.set_cons_succ]
              refine wpAnyH_ready (rs := [10]) (by kernel_rfl) (by simp) ?_
              refine AllReadyH.cons (o := ?ov_10_26) ?hiv_10_26 (fun K hK => ?gv_10_26) AllReadyH.nil
              case hiv_10_26 => simp only [List.getElem?_toArray, List.getElem?_cons_succ, List.getElem?_cons_zero]; rfl
              case gv_10_26 =>
                obtain ⟨c_b0, f_b0, c_b1, f_b1, c_b2, f_b2, l_b⟩ := Vn.v3 o_b
                go_simp
                clear c_b0 f_b0 c_b1 f_b1 c_b2 f_b2 l_b
                obtain ⟨w10, hw10⟩ : ∃ y, y = (((w9.setCell ⟨w3.heap.size, 0, none⟩ (.int .i64 x2.Seed)).setCell ⟨w3.heap.size, 1, none⟩ (.int .i64 x2.Next)).setCell ⟨w3.heap.size, 2, none⟩ (.slice A_z x2.Open.length c_z)) := ⟨_, rfl⟩
                obtain ⟨o_new, tw10⟩ := var_some [.int .i64 x2.Seed, .int .i64 x2.Next, .slice A_z x2.Open.length c_z] 0 _ _ o_b (by simp)
                rw [show setAll w9 (w3.heap.size) 0 [.int .i64 x2.Seed, .int .i64 x2.Next, .slice A_z x2.Open.length c_z] = w10 from hw10.symm] at o_new tw10
                replace o_b : Owns w10 _ (varD 26 3 [.int .i64 x2.Seed, .int .i64 x2.Next, .slice A_z x2.Open.length c_z]) _ _ := o_new
                clear o_new
                replace o_r := owns_turned o_r tw10 (fun b hb hb2 => by simp at hb hb2; omega)
                replace o_y := owns_turned o_y tw10 (fun b hb hb2 => by have h1 := i_y b hb; simp at hb2; omega)
                replace hG := Dv.grown_turned hG tw10 (fun b hb => by simp at hb; omega)
                replace C := Dv.cur_turned C tw10 (by omega) (by omega)
                have zw10 := tw10.2.2.2.1
                rw [← hw10]
                clear hw10
                refine hK.out _ _ ?_ (fun hHeld => ?_)
                · trivial
                clear hK K
                try simp only [Act.put, List.setIfInBounds_toArray, List.set_cons_zero, List.set_cons_succ]
                refine wpAnyH_done (by kernel_rfl) ?_ _
                obtain ⟨c_r0, f_r0, c_r1, f_r1, c_r2, f_r2, l_r⟩ := Vn.v3 o_r
                obtain ⟨c_b0, f_b0, c_b1, f_b1, c_b2, f_b2, l_b⟩ := Vn.v3 o_b
                go_wp2_with fail
                (with_reducible refine (once_any _ _ H0 5 C).mono ?_); rintro e w11 ⟨f, rfl, C, gw11⟩
                clear c_r0 f_r0 c_r1 f_r1 c_r2 f_r2 l_r c_b0 f_b0 c_b1 f_b1 c_b2 f_b2 l_b
                replace o_r := Dv.owns_drawn o_r gw11 (by omega)
                replace o_b := Dv.owns_drawn o_b gw11 (by omega)
                replace o_y := owns_turned o_y (turned_grown gw11) (fun b hb hb2 => by have h1 := i_y b hb; simp at hb2; omega)
                replace hG := grown_trans hG gw11
                have zw11 := gw11.size
                cases f
                ·
                  obtain ⟨c_r0, f_r0, c_r1, f_r1, c_r2, f_r2, l_r⟩ := Vn.v3 o_r
                  obtain ⟨c_b0, f_b0, c_b1, f_b1, c_b2, f_b2, l_b⟩ := Vn.v3 o_b
                  go_wp2
                  clear c_r0 f_r0 c_r1 f_r1 c_r2 f_r2 l_r c_b0 f_b0 c_b1 f_b1 c_b2 f_b2 l_b
                  go_roundw
                  case rel => exact ⟨j - 1, x2, A_z, c_z, _, by go_num, by omega, (by have h1 := HX2.out; exact ⟨h1.1, by have := h1.2; omega⟩), o_y, ny, (fun q hq => by have h1 := i_y q hq; omega), o_r, o_b, C, hG⟩
                  case measure => simp [intOf]; omega
                ·
                  obtain ⟨c_r0, f_r0, c_r1, f_r1, c_r2, f_r2, l_r⟩ := Vn.v3 o_r
                  obtain ⟨c_b0, f_b0, c_b1, f_b1, c_b2, f_b2, l_b⟩ := Vn.v3 o_b
                  go_wp2_with fail
                  (refine (specTake w11 x2 _ _ _ _ (ChallengeBook.mkR (owns_rds _ _ _ o_y)) (fun A3 c3 e3 => by injection e3 with _ e3; injection e3 with _ e3; injection e3 with e3 _; injection e3 with e4 _ e5; subst e4 e5; exact (own_at o_y).sh) (by omega)).mono ?_); rintro e w12 ⟨v_z, s_z, rfl, o_z, n_z, bw12⟩
                  clear c_r0 f_r0 c_r1 f_r1 c_r2 f_r2 l_r c_b0 f_b0 c_b1 f_b1 c_b2 f_b2 l_b
                  have gw12 : World.grownBy w11 w12 (some B) := below_grown bw12
                  replace o_r := owns_below o_r bw12
                  replace o_b := owns_below o_b bw12
                  replace o_y := owns_below o_y bw12
                  replace hG := grown_trans hG gw12
                  have zw12 := bw12.size
                  replace C := cur_below C bw12
                  have KX := bk_take (i := wrap64 (x2.Next - 1)) HX2.out
                  obtain ⟨A_z, c_z, b_z, rfl, o_y2, rfl⟩ := ChallengeBook.owns o_z
                  clear o_z
                  obtain ⟨x3, hx2⟩ : ∃ y, y = takeX x2 (wrap64 (x2.Next - 1)) := ⟨_, rfl⟩
                  rw [← hx2] at o_y2 KX ⊢
                  clear hx2
                  clear o_y i_y ny
                  have o_y := o_y2
                  clear o_y2
                  have ny := n_z
                  clear n_z
                  have i_y := Fx.made_in o_y
                  replace o_y := owns_base (show w.heap.size ≤ w11.heap.size by omega) _ _ _ o_y
                  have HX3 := Lib.hid KX
                  have hxl3 : x3.Open.length ≤ 19 - j := by have := KX.2; omega
                  clear KX
                  obtain ⟨c_r0, f_r0, c_r1, f_r1, c_r2, f_r2, l_r⟩ := Vn.v3 o_r
                  obtain ⟨c_b0, f_b0, c_b1, f_b1, c_b2, f_b2, l_b⟩ := Vn.v3 o_b
                  go_wp2
                  clear c_r0 f_r0 c_r1 f_r1 c_r2 f_r2 l_r c_b0 f_b0 c_b1 f_b1 c_b2 f_b2 l_b
                  obtain ⟨w13, hw13⟩ : ∃ y, y = (((w12.setCell ⟨w3.heap.size, 0, none⟩ (.int .i64 x3.Seed)).setCell ⟨w3.heap.size, 1, none⟩ (.int .i64 x3.Next)).setCell ⟨w3.heap.size, 2, none⟩ (.slice A_z x3.Open.length c_z)) := ⟨_, rfl⟩
                  obtain ⟨o_new, tw13⟩ := var_some [.int .i64 x3.Seed, .int .i64 x3.Next, .slice A_z x3.Open.length c_z] 0 _ _ o_b (by simp)
                  rw [show setAll w12 (w3.heap.size) 0 [.int .i64 x3.Seed, .int .i64 x3.Next, .slice A_z x3.Open.length c_z] = w13 from hw13.symm] at o_new tw13
                  replace o_b : Owns w13 _ (varD 26 3 [.int .i64 x3.Seed, .int .i64 x3.Next, .slice A_z x3.Open.length c_z]) _ _ := o_new
                  clear o_new
                  replace o_r := owns_turned o_r tw13 (fun b hb hb2 => by simp at hb hb2; omega)
                  replace o_y := owns_turned o_y tw13 (fun b hb hb2 => by have h1 := i_y b hb; simp at hb2; omega)
                  replace hG := Dv.grown_turned hG tw13 (fun b hb => by simp at hb; omega)
                  replace C := Dv.cur_turned C tw13 (by omega) (by omega)
                  have zw13 := tw13.2.2.2.1
                  rw [← hw13]
                  clear hw13
                  go_roundw
                  case rel => exact ⟨j - 1, x3, A_z, c_z, _, by go_num, by omega, (by have h1 := HX3.out; exact ⟨h1.1, by have := h1.2; omega⟩), o_y, ny, (fun q hq => by have h1 := i_y q hq; omega), o_r, o_b, C, hG⟩
                  case measure => simp [intOf]; omega
    · have hd : decide ((0 : Int) < j) = false := by simp; omega
      obtain ⟨c_r0, f_r0, c_r1, f_r1, c_r2, f_r2, l_r⟩ := Vn.v3 o_r
      obtain ⟨c_b0, f_b0, c_b1, f_b1, c_b2, f_b2, l_b⟩ := Vn.v3 o_b
      go_wp2
      clear c_r0 f_r0 c_r1 f_r1 c_r2 f_r2 l_r c_b0 f_b0 c_b1 f_b1 c_b2 f_b2 l_b
      obtain ⟨w6, hw6⟩ : ∃ y, y = (((wr.setCell ⟨w.heap.size, 0, none⟩ (.int .i64 x.Seed)).setCell ⟨w.heap.size, 1, none⟩ (.int .i64 x.Next)).setCell ⟨w.heap.size, 2, none⟩ (.slice A x.Open.length c)) := ⟨_, rfl⟩
      obtain ⟨o_new, tw6⟩ := var_some [.int .i64 x.Seed, .int .i64 x.Next, .slice A x.Open.length c] 0 _ _ o_r (by simp)
      rw [show setAll wr (w.heap.size) 0 [.int .i64 x.Seed, .int .i64 x.Next, .slice A x.Open.length c] = w6 from hw6.symm] at o_new tw6
      replace o_r : Owns w6 _ (varD 26 3 [.int .i64 x.Seed, .int .i64 x.Next, .slice A x.Open.length c]) _ _ := o_new
      clear o_new
      replace o_b := owns_turned o_b tw6 (fun b hb hb2 => by simp at hb hb2; omega)
      replace o_y := owns_turned o_y tw6 (fun b hb hb2 => by have h1 := i_y b hb; simp at hb2; omega)
      replace hG := Dv.grown_turned hG tw6 (fun b hb => by simp at hb; omega)
      replace C := Dv.cur_turned C tw6 (by omega) (by omega)
      have zw6 := tw6.2.2.2.1
      rw [← hw6]
      clear hw6
      have y0 : w6.cell? ⟨w.heap.size, 0, none⟩ = some (.int .i64 x.Seed) := var_load o_r (by simp) 0 _ rfl
      have y1 : w6.cell? ⟨w.heap.size, 1, none⟩ = some (.int .i64 x.Next) := var_load o_r (by simp) 1 _ rfl
      have y2 : w6.cell? ⟨w.heap.size, 2, none⟩ = some (.slice A x.Open.length c) := var_load o_r (by simp) 2 _ rfl
      refine bodyPost_ret (v := .agg #[.int .i64 x.Seed, .int .i64 x.Next, .slice A x.Open.length c]) (by simp [results, Try.results56, go_sem, y0, y1, y2]) rfl ?_
      exact ⟨x, A, c, s, rfl, ⟨HX.out.1, hxl⟩, o_y, ny, C, hG⟩
theorem row_lit {P : Int → Prop} {w : World} {lo T L n : Nat} {bs : List Nat} (zs : List Int) (hn : n = zs.length) (h : Owns w lo (varD T n (zs.map (Value.int .i64))) (.slice (some ⟨L, 0, none⟩) 1 1) bs) (hb : bs.Nodup) (hl : L < w.heap.size) (hz : ∀ z ∈ zs, P z) : IntRow P w L n := by
  subst hn
  exact ⟨hl, fun k hk => ⟨zs[k], hz _ (List.getElem_mem hk), var_load h hb k _ (by simp [hk])⟩⟩
theorem grown_of {w w' : World} {row : Option Nat} (t : Turned w w' row.toList) : w.grownBy w' row :=
  ⟨t.1, t.2.1, t.2.2.1, t.2.2.2.1, fun k hk hr => t.2.2.2.2 k hk (fun hx => hr (by cases row with | none => cases hx | some r => rw [List.mem_singleton.1 hx]))⟩
theorem cur_off {w w' : World} {B H0 : Nat} {row : Option Nat} (C : IsCur w B H0) (t : Turned w w' row.toList) (h : ∀ q, q ∈ row.toList → B < q) : IsCur w' B H0 :=
  C.kept (grown_of t) (fun e => by have := h B (by rw [e]; simp); omega) (fun r hr => by have h1 := h r (by rw [hr]; simp); have h2 := C.low; omega)
theorem drawn_bk {m : Nat} {w w' : World} {B H0 n c : Nat} {A : Option Addr} {s : List Nat} {s0 n0 : Int} (x : Fx.ChallengeBook) (h1 : s0 = x.Seed) (h2 : n0 = x.Next) (hn : n = x.Open.length) (hk : Bk m x) (o : Owns w' w.heap.size (.row 30 3 n (x.Open.flatMap Challenge.dcs)) (.slice A n c) s) (hd : s.Nodup) (C : IsCur w' B H0) (g : w.grownBy w' (some B)) :
    DrawnBk m w B H0 (.returned (.agg #[.int .i64 s0, .int .i64 n0, .slice A n c])) w' := by
  subst h1 h2 hn
  exact ⟨x, A, c, s, rfl, hk, o, hd, C, g⟩
end Go.Proofs.Ytjkmcnnkifachaa.D12
