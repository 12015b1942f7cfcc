/-
  Contracts of chapter 12's draws: a book of challenges that may be wrong, and what IssueChallenge is tried with.
-/
import Derived.Test.YtjkmcnnkifachaaD12
namespace Go.Proofs.Ytjkmcnnkifachaa.D12
open Go.ChangeShapes Go.WideShapes Go.ChangeAt Go.RowKit
open C0 S0 S1 S9 Dm Fx C12 C12b C12c C12d C12e C12f Dv
set_option linter.unusedVariables false
set_option linter.unusedSimpArgs false
set_option maxRecDepth 100000
set_option maxHeartbeats 16000000 in
theorem bany_any (w : World) (B H0 : Nat) (C : IsCur w B H0) : Calls Try.prog 34 #[.pointer (some ⟨B, 0, none⟩)] w (DrawnBk 19 w B H0) := by
  have hB := C.lt
  have hH := C.low
  go_enter Try.func34, Try.ntmps34
  obtain ⟨w1, hw1⟩ : ∃ y, y = w.alloc (.cells #[.int .i64 0, .int .i64 0, .slice none 0 0] 26) := ⟨_, rfl⟩
  have o_r := var_owns w 26 3 [.int .i64 0, .int .i64 0, .slice none 0 0] rfl
  have bw1 : Below w.heap.size w w1 := hw1 ▸ (Below.refl _ _).alloc (Nat.le_refl _) _
  rw [← hw1] at o_r
  have sw1 : w1.heap.size = w.heap.size + 1 := by rw [hw1]; simp
  have gw1 : w.grownBy w1 (some B) := hw1 ▸ World.grownBy_alloc w _ _
  have zw1 : w.heap.size < w1.heap.size := by rw [hw1]; simp
  have n_r : w.heap.size ≠ B := by have := C.lt; have := C.low; omega
  have m_r : H0 ≤ w.heap.size := by have := C.lt; have := C.low; omega
  replace C : IsCur w1 B H0 := hw1 ▸ C.alloc _
  have hG := gw1
  go_wp2_with fail
  rw [← hw1]
  clear hw1 sw1
  (with_reducible refine (book_any _ _ H0 C).mono ?_); rintro e w2 ⟨x, A, c, s, rfl, hx, o_y, ny, C, gw2⟩
  replace o_r := Dv.owns_drawn o_r gw2 (by omega)
  replace hG := grown_trans hG gw2
  have zw2 := gw2.size
  have i_y := Fx.made_in o_y
  replace o_y := owns_base (show w.heap.size ≤ w1.heap.size by omega) _ _ _ o_y
  have HX := Lib.hid hx
  have hxl : x.Open.length ≤ 18 := hx.2
  clear hx
  obtain ⟨c_r0, f_r0, c_r1, f_r1, c_r2, f_r2, l_r⟩ := Vn.v3 o_r
  obtain ⟨w3, hw3⟩ : ∃ y, y = w2.alloc (.cells #[.int .i64 x.Seed, .int .i64 x.Next, .slice A x.Open.length c] 26) := ⟨_, rfl⟩
  have o_b := var_owns w2 26 3 [.int .i64 x.Seed, .int .i64 x.Next, .slice A x.Open.length c] rfl
  have bw3 : Below w2.heap.size w2 w3 := hw3 ▸ (Below.refl _ _).alloc (Nat.le_refl _) _
  rw [← hw3] at o_b
  have sw3 : w3.heap.size = w2.heap.size + 1 := by rw [hw3]; simp
  have gw3 : w2.grownBy w3 (some B) := hw3 ▸ World.grownBy_alloc w2 _ _
  have zw3 : w2.heap.size < w3.heap.size := by rw [hw3]; simp
  have n_b : w2.heap.size ≠ B := by have := C.lt; have := C.low; omega
  have m_b : H0 ≤ w2.heap.size := by have := C.lt; have := C.low; omega
  replace C : IsCur w3 B H0 := hw3 ▸ C.alloc _
  replace o_r := owns_below o_r bw3
  replace o_y := owns_below o_y bw3
  replace hG := grown_trans hG gw3
  go_wp2_with fail
  rw [← hw3]
  clear hw3 sw3
  (with_reducible refine (below_any _ _ H0 10 C).mono ?_); rintro e w4 ⟨q, rfl, ⟨hq0, hq1⟩, C, gw4⟩
  clear c_r0 f_r0 c_r1 f_r1 c_r2 f_r2 l_r
  replace o_r := Dv.owns_drawn o_r gw4 (by omega)
  replace o_b := Dv.owns_drawn o_b gw4 (by omega)
  replace o_y := owns_turned o_y (turned_grown gw4) (fun b hb hb2 => by have h1 := i_y b hb; simp at hb2; omega)
  replace hG := grown_trans hG gw4
  have zw4 := gw4.size
  clear hq1
  by_cases h0 : q = 0
  · subst h0
    have HL := Lib.hid (show Calls Try.prog 35 #[.pointer (some ⟨B, 0, none⟩), .slice (some ⟨w4.heap.size, 0, none⟩) 4 4] (w4.alloc (.cells #[.int .i64 (-1), .int .i64 0, .int .i64 1000000, .int .i64 1000001] 3)) (Drawn (isI64) w4 B H0) from int_litg [-1, 0, 1000000, 1000001] 4 rfl w4 B H0 _ (rfl) 3 C (by simp) (by simp) (isI64) (by simp [isI64]))
    obtain ⟨c_r0, f_r0, c_r1, f_r1, c_r2, f_r2, l_r⟩ := Vn.v3 o_r
    obtain ⟨c_b0, f_b0, c_b1, f_b1, c_b2, f_b2, l_b⟩ := Vn.v3 o_b
    go_wp2_with fail
    (with_reducible refine (HL.out).mono ?_); rintro e w5 ⟨u, rfl, hu, C, gw5⟩
    clear c_r0 f_r0 c_r1 f_r1 c_r2 f_r2 l_r c_b0 f_b0 c_b1 f_b1 c_b2 f_b2 l_b
    replace o_r := Dv.owns_drawn o_r gw5 (by omega)
    replace o_b := Dv.owns_drawn o_b gw5 (by omega)
    replace o_y := owns_turned o_y (turned_grown gw5) (fun b hb hb2 => by have h1 := i_y b hb; simp at hb2; omega)
    replace hG := grown_trans hG gw5
    have zw5 := gw5.size
    clear HL
    obtain ⟨c_r0, f_r0, c_r1, f_r1, c_r2, f_r2, l_r⟩ := Vn.v3 o_r
    obtain ⟨c_b0, f_b0, c_b1, f_b1, c_b2, f_b2, l_b⟩ := Vn.v3 o_b
    go_wp2
    clear c_r0 f_r0 c_r1 f_r1 c_r2 f_r2 l_r c_b0 f_b0 c_b1 f_b1 c_b2 f_b2 l_b
    obtain ⟨w6, hw6⟩ : ∃ y, y = (w5.setCell ⟨w2.heap.size, 1, none⟩ (.int .i64 u)) := ⟨_, rfl⟩
    obtain ⟨o_new, tw6⟩ := var_some [.int .i64 u] 1 _ _ o_b (by simp)
    rw [show setAll w5 (w2.heap.size) 1 [.int .i64 u] = w6 from hw6.symm] at o_new tw6
    replace o_b : Owns w6 _ (varD 26 3 [.int .i64 x.Seed, .int .i64 u, .slice A x.Open.length c]) _ _ := o_new
    clear o_new
    replace o_r := owns_turned o_r tw6 (fun b hb hb2 => by simp at hb hb2; omega)
    replace o_y := owns_turned o_y tw6 (fun b hb hb2 => by have h1 := i_y b hb; simp at hb2; omega)
    replace hG := Dv.grown_turned hG tw6 (fun b hb => by simp at hb; omega)
    replace C := Dv.cur_turned C tw6 (by omega) (by omega)
    have zw6 := tw6.2.2.2.1
    rw [← hw6]
    clear hw6
    obtain ⟨w7, hw7⟩ : ∃ y, y = (((w6.setCell ⟨w.heap.size, 0, none⟩ (.int .i64 x.Seed)).setCell ⟨w.heap.size, 1, none⟩ (.int .i64 u)).setCell ⟨w.heap.size, 2, none⟩ (.slice A x.Open.length c)) := ⟨_, rfl⟩
    obtain ⟨o_new, tw7⟩ := var_some [.int .i64 x.Seed, .int .i64 u, .slice A x.Open.length c] 0 _ _ o_r (by simp)
    rw [show setAll w6 (w.heap.size) 0 [.int .i64 x.Seed, .int .i64 u, .slice A x.Open.length c] = w7 from hw7.symm] at o_new tw7
    replace o_r : Owns w7 _ (varD 26 3 [.int .i64 x.Seed, .int .i64 u, .slice A x.Open.length c]) _ _ := o_new
    clear o_new
    replace o_b := owns_turned o_b tw7 (fun b hb hb2 => by simp at hb hb2; omega)
    replace o_y := owns_turned o_y tw7 (fun b hb hb2 => by have h1 := i_y b hb; simp at hb2; omega)
    replace hG := Dv.grown_turned hG tw7 (fun b hb => by simp at hb; omega)
    replace C := Dv.cur_turned C tw7 (by omega) (by omega)
    have zw7 := tw7.2.2.2.1
    rw [← hw7]
    clear hw7
    have y0 : w7.cell? ⟨w.heap.size, 0, none⟩ = some (.int .i64 x.Seed) := var_load o_r (by simp) 0 _ rfl
    have y1 : w7.cell? ⟨w.heap.size, 1, none⟩ = some (.int .i64 u) := var_load o_r (by simp) 1 _ rfl
    have y2 : w7.cell? ⟨w.heap.size, 2, none⟩ = some (.slice A x.Open.length c) := var_load o_r (by simp) 2 _ rfl
    refine bodyPost_ret (v := .agg #[.int .i64 x.Seed, .int .i64 u, .slice A x.Open.length c]) (by simp [results, Try.results34, go_sem, y0, y1, y2]) rfl ?_
    exact drawn_bk (⟨x.Seed, u, x.Open⟩) rfl rfl rfl (by have h1 := bk_next HX.out hu; exact ⟨h1.1, by have := h1.2; omega⟩) o_y ny C hG
  · have e0 : (q == 0) = false := by simpa using h0
    by_cases h1 : q = 1
    · subst h1
      obtain ⟨c_r0, f_r0, c_r1, f_r1, c_r2, f_r2, l_r⟩ := Vn.v3 o_r
      obtain ⟨c_b0, f_b0, c_b1, f_b1, c_b2, f_b2, l_b⟩ := Vn.v3 o_b
      go_wp2
      clear c_r0 f_r0 c_r1 f_r1 c_r2 f_r2 l_r c_b0 f_b0 c_b1 f_b1 c_b2 f_b2 l_b
      unfold ChallengesD at o_y
      obtain ⟨w5, hw5⟩ : ∃ y, y = w4.drew := ⟨_, rfl⟩
      have bw5 : Below w4.heap.size w4 w5 := hw5 ▸ drewN_below w4 1 _
      have gw5 : w4.grownBy w5 (some B) := hw5 ▸ grown_drewN w4 1 _
      replace C : IsCur w5 B H0 := hw5 ▸ C.drewN 1
      replace o_r := owns_below o_r bw5
      replace o_b := owns_below o_b bw5
      replace o_y := owns_below o_y bw5
      replace hG := grown_trans hG gw5
      have zw5 := bw5.size
      refine wp_region_held_drew (S := (fun (wx : World) => True)) (by kernel_rfl) ?_ (fun hHeld => ?_)
      · trivial
      rw [← hw5]
      clear hw5
      refine wpAnyH_take (i := 0) (oi := ?oiv_0_1) (v := ?vv_0_1) ?hiv_0_1 (by kernel_rfl) (by kernel_rfl) (by kernel_rfl) ?hQv_0_1 (Or.inl ⟨?hwv_0_1, ?hyv_0_1⟩) (by assumption) ?_
      case hiv_0_1 => simp only [List.getElem?_toArray, List.getElem?_cons_zero]; rfl
      case hQv_0_1 => exact fun _ _ _ h => h
      case hwv_0_1 => rfl
      case hyv_0_1 => intro w hSw; (try dsimp only at hSw); (first | (go_simp; done) | (go_simp; with_reducible rfl))
      try simp only [Act.put, List.setIfInBounds_toArray, List.set_cons_zero, List.set_cons_succ]
      refine wpAnyH_take (i := 2) (oi := ?oiv_2_2) (v := ?vv_2_2) ?hiv_2_2 (by kernel_rfl) (by kernel_rfl) (by kernel_rfl) ?hQv_2_2 (Or.inl ⟨?hwv_2_2, ?hyv_2_2⟩) (by assumption) ?_
      case hiv_2_2 => simp only [List.getElem?_toArray, List.getElem?_cons_succ, List.getElem?_cons_zero]; rfl
      case hQv_2_2 => exact fun _ _ _ h => h
      case hwv_2_2 => rfl
      case hyv_2_2 => intro w hSw; (try dsimp only at hSw); (first | (go_simp; done) | (go_simp; with_reducible rfl))
      try simp only [Act.put, List.setIfInBounds_toArray, List.set_cons_zero, List.set_cons_succ]
      refine wpAnyH_take (i := 5) (oi := ?oiv_5_3) (v := ?vv_5_3) ?hiv_5_3 (by kernel_rfl) (by kernel_rfl) (by kernel_rfl) ?hQv_5_3 (Or.inl ⟨?hwv_5_3, ?hyv_5_3⟩) (by assumption) ?_
      case hiv_5_3 => simp only [List.getElem?_toArray, List.getElem?_cons_succ, List.getElem?_cons_zero]; rfl
      case hQv_5_3 => exact fun _ _ _ h => h
      case hwv_5_3 => rfl
      case hyv_5_3 => intro w hSw; (try dsimp only at hSw); (first | (go_simp; done) | (go_simp; with_reducible rfl))
      try simp only [Act.put, List.setIfInBounds_toArray, List.set_cons_zero, List.set_cons_succ]
      refine wpAnyH_ready (rs := [1, 3, 6]) (by kernel_rfl) (by simp) ?_
      refine AllReadyH.cons (o := ?ov_1_4) ?hiv_1_4 (fun K hK => ?gv_1_4) (AllReadyH.cons (o := ?ov_3_4) ?hiv_3_4 (fun K hK => ?gv_3_4) (AllReadyH.cons (o := ?ov_6_4) ?hiv_6_4 (fun K hK => ?gv_6_4) AllReadyH.nil))
      case hiv_1_4 => simp only [List.getElem?_toArray, List.getElem?_cons_succ, List.getElem?_cons_zero]; rfl
      case hiv_3_4 => simp only [List.getElem?_toArray, List.getElem?_cons_succ, List.getElem?_cons_zero]; rfl
      case hiv_6_4 => simp only [List.getElem?_toArray, List.getElem?_cons_succ, List.getElem?_cons_zero]; rfl
      case gv_1_4 =>
        obtain ⟨c_b0, f_b0, c_b1, f_b1, c_b2, f_b2, l_b⟩ := Vn.v3 o_b
        go_simp
        refine hK.out _ _ ?_ (fun hHeld => ?_)
        · trivial
        clear hK K
        try simp only [Act.put, List.setIfInBounds_toArray, List.set_cons_zero, List.set_cons_succ]
        refine wpAnyH_ready (rs := [3, 6]) (by kernel_rfl) (by simp) ?_
        refine AllReadyH.cons (o := ?ov_3_5) ?hiv_3_5 (fun K hK => ?gv_3_5) (AllReadyH.cons (o := ?ov_6_5) ?hiv_6_5 (fun K hK => ?gv_6_5) AllReadyH.nil)
        case hiv_3_5 => simp only [List.getElem?_toArray, List.getElem?_cons_succ, List.getElem?_cons_zero]; rfl
        case hiv_6_5 => simp only [List.getElem?_toArray, List.getElem?_cons_succ, List.getElem?_cons_zero]; rfl
        case gv_3_5 =>
          go_simp
          go_at_call 57
          (with_reducible refine (below_any _ _ H0 30 C).mono ?_); rintro e w6 ⟨a, rfl, ⟨ha0, ha1⟩, C, gw6⟩
          clear c_b0 f_b0 c_b1 f_b1 c_b2 f_b2 l_b
          replace o_r := Dv.owns_drawn o_r gw6 (by omega)
          replace o_b := Dv.owns_drawn o_b gw6 (by omega)
          replace o_y := owns_turned o_y (turned_grown gw6) (fun b hb hb2 => by have h1 := i_y b hb; simp at hb2; omega)
          replace hG := grown_trans hG gw6
          have zw6 := gw6.size
          replace ha1 : a ≤ 29 := by omega
          have hwr : IntKind.i64.wrap (a - 1) = a - 1 := IntWalk.i64_in _ (by omega)
          refine hK.out _ _ ?_ (fun hHeld => ?_)
          · trivial
          clear hK K
          try simp only [Act.put, List.setIfInBounds_toArray, List.set_cons_zero, List.set_cons_succ]
          refine wpAnyH_take (i := 4) (oi := ?oiv_4_6) (v := ?vv_4_6) ?hiv_4_6 (by kernel_rfl) (by kernel_rfl) (by kernel_rfl) ?hQv_4_6 (Or.inl ⟨?hwv_4_6, ?hyv_4_6⟩) (by assumption) ?_
          case hiv_4_6 => simp only [List.getElem?_toArray, List.getElem?_cons_succ, List.getElem?_cons_zero]; rfl
          case hQv_4_6 => exact fun _ _ _ h => h
          case hwv_4_6 => rfl
          case hyv_4_6 => intro w hSw; (try dsimp only at hSw); (first | (go_simp; done) | (go_simp; with_reducible rfl))
          try simp only [Act.put, List.setIfInBounds_toArray, List.set_cons_zero, List.set_cons_succ]
          refine wpAnyH_ready (rs := [6]) (by kernel_rfl) (by simp) ?_
          refine AllReadyH.cons (o := ?ov_6_7) ?hiv_6_7 (fun K hK => ?gv_6_7) AllReadyH.nil
          case hiv_6_7 => simp only [List.getElem?_toArray, List.getElem?_cons_succ, List.getElem?_cons_zero]; rfl
          case gv_6_7 =>
            go_simp
            obtain ⟨w7, hw7⟩ : ∃ y, y = w6.alloc (.cells #[.int .i64 (0), .int .i64 (-1), .int .i64 (1000005), .int .i64 (1000006)] 3) := ⟨_, rfl⟩
            have o_li := var_owns w6 3 4 [.int .i64 (0), .int .i64 (-1), .int .i64 (1000005), .int .i64 (1000006)] rfl
            have bw7 : Below w6.heap.size w6 w7 := hw7 ▸ (Below.refl _ _).alloc (Nat.le_refl _) _
            rw [← hw7] at o_li ⊢
            have zw7 : w6.heap.size < w7.heap.size := by rw [hw7]; simp
            have gw7 : World.grownBy w6 w7 (some B) := below_grown bw7
            clear hw7
            replace C := cur_below C bw7
            replace o_r := owns_below o_r bw7
            replace o_b := owns_below o_b bw7
            replace o_y := owns_below o_y bw7
            replace hG := grown_trans hG gw7
            have HI := Lib.hid (row_lit (P := isI64) [0, -1, 1000005, 1000006] rfl o_li (by simp) (var_lt o_li) (by simp [isI64]))
            refine hK.out _ _ ?_ (fun hHeld => ?_)
            · trivial
            clear hK K
            try simp only [Act.put, List.setIfInBounds_toArray, List.set_cons_zero, List.set_cons_succ]
            refine wpAnyH_ready (rs := [7]) (by kernel_rfl) (by simp) ?_
            refine AllReadyH.cons (o := ?ov_7_8) ?hiv_7_8 (fun K hK => ?gv_7_8) AllReadyH.nil
            case hiv_7_8 => simp only [List.getElem?_toArray, List.getElem?_cons_succ, List.getElem?_cons_zero]; rfl
            case gv_7_8 =>
              go_simp
              go_at_call 35
              have HJ := row_lit (P := isI64) [0, -1, 1000005, 1000006] rfl o_li (by simp) (var_lt o_li) (by simp [isI64])
              clear HI
              (refine (int_any isI64 _ _ H0 w6.heap.size 4 C HJ (by omega) (by omega) (by omega)).mono ?_); rintro e w8 ⟨u, rfl, hu, C, gw8⟩
              replace o_r := Dv.owns_drawn o_r gw8 (by omega)
              replace o_b := Dv.owns_drawn o_b gw8 (by omega)
              replace o_li := Dv.owns_drawn o_li gw8 (by omega)
              replace o_y := owns_turned o_y (turned_grown gw8) (fun b hb hb2 => by have h1 := i_y b hb; simp at hb2; omega)
              replace hG := grown_trans hG gw8
              have zw8 := gw8.size
              clear HJ
              refine hK.out _ _ ?_ (fun hHeld => ?_)
              · trivial
              clear hK K
              try simp only [Act.put, List.setIfInBounds_toArray, List.set_cons_zero, List.set_cons_succ]
              refine wpAnyH_take (i := 8) (oi := ?oiv_8_9) (v := ?vv_8_9) ?hiv_8_9 (by kernel_rfl) (by kernel_rfl) (by kernel_rfl) ?hQv_8_9 (Or.inl ⟨?hwv_8_9, ?hyv_8_9⟩) (by assumption) ?_
              case hiv_8_9 => simp only [List.getElem?_toArray, List.getElem?_cons_succ, List.getElem?_cons_zero]; rfl
              case hQv_8_9 => exact fun _ _ _ h => h
              case hwv_8_9 => rfl
              case hyv_8_9 => intro w hSw; (try dsimp only at hSw); (first | (go_simp; done) | (go_simp; with_reducible rfl))
              try simp only [Act.put, List.setIfInBounds_toArray, List.set_cons_zero, List.set_cons_succ]
              refine wpAnyH_ready (rs := [9]) (by kernel_rfl) (by simp) ?_
              refine AllReadyH.cons (o := ?ov_9_10) ?hiv_9_10 (fun K hK => ?gv_9_10) AllReadyH.nil
              case hiv_9_10 => simp only [List.getElem?_toArray, List.getElem?_cons_succ, List.getElem?_cons_zero]; rfl
              case gv_9_10 =>
                go_simp
                have hgr := var_lt o_b
                have hy6 := Fx.made_in o_y
                obtain ⟨w9, hw9⟩ : ∃ y, y = w8.alloc (.cells #[.int .i64 (a - 1), .int .i64 u, .int .i64 3] 30) := ⟨_, rfl⟩
                have o_e := var_owns w8 30 3 [.int .i64 (a - 1), .int .i64 u, .int .i64 3] rfl
                have bw9 : Below w8.heap.size w8 w9 := hw9 ▸ (Below.refl _ _).alloc (Nat.le_refl _) _
                rw [← hw9] at o_e ⊢
                have zw9 : w8.heap.size < w9.heap.size := by rw [hw9]; simp
                have gw9 : World.grownBy w8 w9 (some B) := below_grown bw9
                clear hw9
                replace C := cur_below C bw9
                replace o_r := owns_below o_r bw9
                replace o_b := owns_below o_b bw9
                replace o_li := owns_below o_li bw9
                replace o_y := owns_below o_y bw9
                replace hG := grown_trans hG gw9
                have ne : ∀ q, q ∈ [w8.heap.size] → q ∉ s := fun q hq h => by have h1 := hy6 q h; simp at hq; omega
                clear hy6
                refine hK.out _ _ ?_ (fun hHeld => ?_)
                · trivial
                clear hK K
                try simp only [Act.put, List.setIfInBounds_toArray, List.set_cons_zero, List.set_cons_succ]
                refine wpAnyH_ready (rs := [10]) (by kernel_rfl) (by simp) ?_
                refine AllReadyH.cons (o := ?ov_10_11) ?hiv_10_11 (fun K hK => ?gv_10_11) AllReadyH.nil
                case hiv_10_11 => simp only [List.getElem?_toArray, List.getElem?_cons_succ, List.getElem?_cons_zero]; rfl
                case gv_10_11 =>
                  refine Ap.step_app_el elChallenge w9 rfl (.tmp 17) (.tmp 25) rfl w.heap.size _ x.Open.length x.Open s (by simp [Act.eval]) o_y ny (w8.heap.size) 1 ⟨a - 1, u, 3⟩ [.int .i64 (a - 1), .int .i64 u, .int .i64 3] (by simp [Act.eval]) rfl (three (var_load o_e (by simp) 0 _ rfl) (var_load o_e (by simp) 1 _ rfl) (var_load o_e (by simp) 2 _ rfl)) (by intro u hu; simp at hu; rcases hu with rfl | rfl | rfl <;> rfl) w.heap.size [] (ch_owns ⟨a - 1, u, 3⟩) List.nodup_nil (fun y _ h => by cases h) (Nat.le_refl _) (by omega) hG.size ?_
                  intro v_n s_n w10 o_n n_n T_n M_n
                  obtain ⟨A_n, c_n, rfl⟩ := owns_slice o_n
                  have zw10 := T_n.2.2.2.1
                  replace o_r := owns_turned o_r T_n (fun b hb hb2 => by have h1 := i_y b (own_mem o_y b hb2); simp at hb; omega)
                  replace o_b := owns_turned o_b T_n (fun b hb hb2 => by have h1 := i_y b (own_mem o_y b hb2); simp at hb; omega)
                  replace o_li := owns_turned o_li T_n (fun b hb hb2 => by have h1 := i_y b (own_mem o_y b hb2); simp at hb; omega)
                  replace o_e := owns_turned o_e T_n (fun b hb hb2 => ne b hb (own_mem o_y b hb2))
                  replace hG := Dv.grown_turned hG T_n (fun b hb => (Fx.made_in o_y b (own_mem o_y b hb)).1)
                  replace C := cur_off C T_n (fun b hb => by have h1 := i_y b (own_mem o_y b hb); omega)
                  have i_n := Fx.made_in o_n
                  have i_n : ∀ q, q ∈ s_n → w1.heap.size ≤ q ∧ q ≠ w2.heap.size := fun q hq => by have h2 := i_n q hq; rcases M_n q hq with h1 | h1 | h1; exact ⟨(i_y q h1).1, by have := (i_y q h1).2; omega⟩; cases h1; omega
                  clear T_n M_n o_y ny i_y ne
                  refine hK.out _ _ ?_ (fun hHeld => ?_)
                  · trivial
                  clear hK K
                  try simp only [Act.put, List.setIfInBounds_toArray, List.set_cons_zero, List.set_cons_succ]
                  refine wpAnyH_take (i := 11) (oi := ?oiv_11_12) (v := ?vv_11_12) ?hiv_11_12 (by kernel_rfl) (by kernel_rfl) (by kernel_rfl) ?hQv_11_12 (Or.inl ⟨?hwv_11_12, ?hyv_11_12⟩) (by assumption) ?_
                  case hiv_11_12 => simp only [List.getElem?_toArray, List.getElem?_cons_succ, List.getElem?_cons_zero]; rfl
                  case hQv_11_12 => exact fun _ _ _ h => h
                  case hwv_11_12 => rfl
                  case hyv_11_12 => intro w hSw; (try dsimp only at hSw); (first | (go_simp; done) | (go_simp; with_reducible rfl))
                  try simp only [Act.put, List.setIfInBounds_toArray, List.set_cons_zero, List.set_cons_succ]
                  refine wpAnyH_ready (rs := [12]) (by kernel_rfl) (by simp) ?_
                  refine AllReadyH.cons (o := ?ov_12_13) ?hiv_12_13 (fun K hK => ?gv_12_13) AllReadyH.nil
                  case hiv_12_13 => simp only [List.getElem?_toArray, List.getElem?_cons_succ, List.getElem?_cons_zero]; rfl
                  case gv_12_13 =>
                    obtain ⟨c_b0, f_b0, c_b1, f_b1, c_b2, f_b2, l_b⟩ := Vn.v3 o_b
                    go_simp
                    clear c_b0 f_b0 c_b1 f_b1 c_b2 f_b2 l_b
                    obtain ⟨w11, hw11⟩ : ∃ y, y = (w10.setCell ⟨w2.heap.size, 2, none⟩ (.slice A_n (x.Open.length + 1) c_n)) := ⟨_, rfl⟩
                    obtain ⟨o_new, tw11⟩ := var_some [.slice A_n (x.Open.length + 1) c_n] 2 _ _ o_b (by simp)
                    rw [show setAll w10 (w2.heap.size) 2 [.slice A_n (x.Open.length + 1) c_n] = w11 from hw11.symm] at o_new tw11
                    replace o_b : Owns w11 _ (varD 26 3 [.int .i64 x.Seed, .int .i64 x.Next, .slice A_n (x.Open.length + 1) c_n]) _ _ := o_new
                    clear o_new
                    replace o_r := owns_turned o_r tw11 (fun b hb hb2 => by simp at hb hb2; omega)
                    replace o_li := owns_turned o_li tw11 (fun b hb hb2 => by simp at hb hb2; omega)
                    replace o_e := owns_turned o_e tw11 (fun b hb hb2 => by simp at hb hb2; omega)
                    replace o_n := owns_turned o_n tw11 (fun b hb hb2 => by have h1 := i_n b hb; simp at hb2; omega)
                    replace hG := Dv.grown_turned hG tw11 (fun b hb => by simp at hb; omega)
                    replace C := Dv.cur_turned C tw11 (by omega) (by omega)
                    have zw11 := tw11.2.2.2.1
                    rw [← hw11]
                    clear hw11
                    refine hK.out _ _ ?_ (fun hHeld => ?_)
                    · trivial
                    clear hK K
                    try simp only [Act.put, List.setIfInBounds_toArray, List.set_cons_zero, List.set_cons_succ]
                    refine wpAnyH_done (by kernel_rfl) ?_ _
                    obtain ⟨c_r0, f_r0, c_r1, f_r1, c_r2, f_r2, l_r⟩ := Vn.v3 o_r
                    obtain ⟨c_b0, f_b0, c_b1, f_b1, c_b2, f_b2, l_b⟩ := Vn.v3 o_b
                    obtain ⟨c_li0, f_li0, c_li1, f_li1, c_li2, f_li2, c_li3, f_li3, l_li⟩ := Vn.v4 o_li
                    obtain ⟨c_e0, f_e0, c_e1, f_e1, c_e2, f_e2, l_e⟩ := Vn.v3 o_e
                    go_wp2
                    clear c_r0 f_r0 c_r1 f_r1 c_r2 f_r2 l_r c_b0 f_b0 c_b1 f_b1 c_b2 f_b2 l_b c_li0 f_li0 c_li1 f_li1 c_li2 f_li2 c_li3 f_li3 l_li c_e0 f_e0 c_e1 f_e1 c_e2 f_e2 l_e
                    obtain ⟨w12, hw12⟩ : ∃ y, y = (((w11.setCell ⟨w.heap.size, 0, none⟩ (.int .i64 x.Seed)).setCell ⟨w.heap.size, 1, none⟩ (.int .i64 x.Next)).setCell ⟨w.heap.size, 2, none⟩ (.slice A_n (x.Open.length + 1) c_n)) := ⟨_, rfl⟩
                    obtain ⟨o_new, tw12⟩ := var_some [.int .i64 x.Seed, .int .i64 x.Next, .slice A_n (x.Open.length + 1) c_n] 0 _ _ o_r (by simp)
                    rw [show setAll w11 (w.heap.size) 0 [.int .i64 x.Seed, .int .i64 x.Next, .slice A_n (x.Open.length + 1) c_n] = w12 from hw12.symm] at o_new tw12
                    replace o_r : Owns w12 _ (varD 26 3 [.int .i64 x.Seed, .int .i64 x.Next, .slice A_n (x.Open.length + 1) c_n]) _ _ := o_new
                    clear o_new
                    replace o_b := owns_turned o_b tw12 (fun b hb hb2 => by simp at hb hb2; omega)
                    replace o_li := owns_turned o_li tw12 (fun b hb hb2 => by simp at hb hb2; omega)
                    replace o_e := owns_turned o_e tw12 (fun b hb hb2 => by simp at hb hb2; omega)
                    replace o_n := owns_turned o_n tw12 (fun b hb hb2 => by have h1 := i_n b hb; simp at hb2; omega)
                    replace hG := Dv.grown_turned hG tw12 (fun b hb => by simp at hb; omega)
                    replace C := Dv.cur_turned C tw12 (by omega) (by omega)
                    have zw12 := tw12.2.2.2.1
                    rw [← hw12]
                    clear hw12
                    have y0 : w12.cell? ⟨w.heap.size, 0, none⟩ = some (.int .i64 x.Seed) := var_load o_r (by simp) 0 _ rfl
                    have y1 : w12.cell? ⟨w.heap.size, 1, none⟩ = some (.int .i64 x.Next) := var_load o_r (by simp) 1 _ rfl
                    have y2 : w12.cell? ⟨w.heap.size, 2, none⟩ = some (.slice A_n (x.Open.length + 1) c_n) := var_load o_r (by simp) 2 _ rfl
                    refine bodyPost_ret (v := .agg #[.int .i64 x.Seed, .int .i64 x.Next, .slice A_n (x.Open.length + 1) c_n]) (by simp [results, Try.results34, go_sem, y0, y1, y2]) rfl ?_
                    exact drawn_bk ⟨x.Seed, x.Next, x.Open ++ [⟨a - 1, u, 3⟩]⟩ rfl rfl (by simp) (bk_app HX.out (show isI64 (a - 1) from ⟨by omega, by omega⟩) hu (by omega)) o_n n_n C hG
        case gv_6_5 =>
          go_simp
          clear c_b0 f_b0 c_b1 f_b1 c_b2 f_b2 l_b
          obtain ⟨w6, hw6⟩ : ∃ y, y = w5.alloc (.cells #[.int .i64 (0), .int .i64 (-1), .int .i64 (1000005), .int .i64 (1000006)] 3) := ⟨_, rfl⟩
          have o_li := var_owns w5 3 4 [.int .i64 (0), .int .i64 (-1), .int .i64 (1000005), .int .i64 (1000006)] rfl
          have bw6 : Below w5.heap.size w5 w6 := hw6 ▸ (Below.refl _ _).alloc (Nat.le_refl _) _
          rw [← hw6] at o_li ⊢
          have zw6 : w5.heap.size < w6.heap.size := by rw [hw6]; simp
          have gw6 : World.grownBy w5 w6 (some B) := below_grown bw6
          clear hw6
          replace C := cur_below C bw6
          replace o_r := owns_below o_r bw6
          replace o_b := owns_below o_b bw6
          replace o_y := owns_below o_y bw6
          replace hG := grown_trans hG gw6
          have HI := Lib.hid (row_lit (P := isI64) [0, -1, 1000005, 1000006] rfl o_li (by simp) (var_lt o_li) (by simp [isI64]))
          refine hK.out _ _ ?_ (fun hHeld => ?_)
          · trivial
          clear hK K
          try simp only [Act.put, List.setIfInBounds_toArray, List.set_cons_zero, List.set_cons_succ]
          refine wpAnyH_ready (rs := [3]) (by kernel_rfl) (by simp) ?_
          refine AllReadyH.cons (o := ?ov_3_14) ?hiv_3_14 (fun K hK => ?gv_3_14) AllReadyH.nil
          case hiv_3_14 => simp only [List.getElem?_toArray, List.getElem?_cons_succ, List.getElem?_cons_zero]; rfl
          case gv_3_14 =>
            go_simp
            go_at_call 57
            (with_reducible refine (below_any _ _ H0 30 C).mono ?_); rintro e w7 ⟨a, rfl, ⟨ha0, ha1⟩, C, gw7⟩
            replace o_r := Dv.owns_drawn o_r gw7 (by omega)
            replace o_b := Dv.owns_drawn o_b gw7 (by omega)
            replace o_li := Dv.owns_drawn o_li gw7 (by omega)
            replace o_y := owns_turned o_y (turned_grown gw7) (fun b hb hb2 => by have h1 := i_y b hb; simp at hb2; omega)
            replace hG := grown_trans hG gw7
            have zw7 := gw7.size
            replace ha1 : a ≤ 29 := by omega
            have hwr : IntKind.i64.wrap (a - 1) = a - 1 := IntWalk.i64_in _ (by omega)
            refine hK.out _ _ ?_ (fun hHeld => ?_)
            · trivial
            clear hK K
            try simp only [Act.put, List.setIfInBounds_toArray, List.set_cons_zero, List.set_cons_succ]
            refine wpAnyH_take (i := 4) (oi := ?oiv_4_15) (v := ?vv_4_15) ?hiv_4_15 (by kernel_rfl) (by kernel_rfl) (by kernel_rfl) ?hQv_4_15 (Or.inl ⟨?hwv_4_15, ?hyv_4_15⟩) (by assumption) ?_
            case hiv_4_15 => simp only [List.getElem?_toArray, List.getElem?_cons_succ, List.getElem?_cons_zero]; rfl
            case hQv_4_15 => exact fun _ _ _ h => h
            case hwv_4_15 => rfl
            case hyv_4_15 => intro w hSw; (try dsimp only at hSw); (first | (go_simp; done) | (go_simp; with_reducible rfl))
            try simp only [Act.put, List.setIfInBounds_toArray, List.set_cons_zero, List.set_cons_succ]
            refine wpAnyH_ready (rs := [7]) (by kernel_rfl) (by simp) ?_
            refine AllReadyH.cons (o := ?ov_7_16) ?hiv_7_16 (fun K hK => ?gv_7_16) AllReadyH.nil
            case hiv_7_16 => simp only [List.getElem?_toArray, List.getElem?_cons_succ, List.getElem?_cons_zero]; rfl
            case gv_7_16 =>
              go_simp
              go_at_call 35
              have HJ := row_lit (P := isI64) [0, -1, 1000005, 1000006] rfl o_li (by simp) (var_lt o_li) (by simp [isI64])
              clear HI
              (refine (int_any isI64 _ _ H0 w5.heap.size 4 C HJ (by omega) (by omega) (by omega)).mono ?_); rintro e w8 ⟨u, rfl, hu, C, gw8⟩
              replace o_r := Dv.owns_drawn o_r gw8 (by omega)
              replace o_b := Dv.owns_drawn o_b gw8 (by omega)
              replace o_li := Dv.owns_drawn o_li gw8 (by omega)
              replace o_y := owns_turned o_y (turned_grown gw8) (fun b hb hb2 => by have h1 := i_y b hb; simp at hb2; omega)
              replace hG := grown_trans hG gw8
              have zw8 := gw8.size
              clear HJ
              refine hK.out _ _ ?_ (fun hHeld => ?_)
              · trivial
              clear hK K
              try simp only [Act.put, List.setIfInBounds_toArray, List.set_cons_zero, List.set_cons_succ]
              refine wpAnyH_take (i := 8) (oi := ?oiv_8_17) (v := ?vv_8_17) ?hiv_8_17 (by kernel_rfl) (by kernel_rfl) (by kernel_rfl) ?hQv_8_17 (Or.inl ⟨?hwv_8_17, ?hyv_8_17⟩) (by assumption) ?_
              case hiv_8_17 => simp only [List.getElem?_toArray, List.getElem?_cons_succ, List.getElem?_cons_zero]; rfl
              case hQv_8_17 => exact fun _ _ _ h => h
              case hwv_8_17 => rfl
              case hyv_8_17 => intro w hSw; (try dsimp only at hSw); (first | (go_simp; done) | (go_simp; with_reducible rfl))
              try simp only [Act.put, List.setIfInBounds_toArray, List.set_cons_zero, List.set_cons_succ]
              refine wpAnyH_ready (rs := [9]) (by kernel_rfl) (by simp) ?_
              refine AllReadyH.cons (o := ?ov_9_18) ?hiv_9_18 (fun K hK => ?gv_9_18) AllReadyH.nil
              case hiv_9_18 => simp only [List.getElem?_toArray, List.getElem?_cons_succ, List.getElem?_cons_zero]; rfl
              case gv_9_18 =>
                go_simp
                have hgr := var_lt o_b
                have hy6 := Fx.made_in o_y
                obtain ⟨w9, hw9⟩ : ∃ y, y = w8.alloc (.cells #[.int .i64 (a - 1), .int .i64 u, .int .i64 3] 30) := ⟨_, rfl⟩
                have o_e := var_owns w8 30 3 [.int .i64 (a - 1), .int .i64 u, .int .i64 3] rfl
                have bw9 : Below w8.heap.size w8 w9 := hw9 ▸ (Below.refl _ _).alloc (Nat.le_refl _) _
                rw [← hw9] at o_e ⊢
                have zw9 : w8.heap.size < w9.heap.size := by rw [hw9]; simp
                have gw9 : World.grownBy w8 w9 (some B) := below_grown bw9
                clear hw9
                replace C := cur_below C bw9
                replace o_r := owns_below o_r bw9
                replace o_b := owns_below o_b bw9
                replace o_li := owns_below o_li bw9
                replace o_y := owns_below o_y bw9
                replace hG := grown_trans hG gw9
                have ne : ∀ q, q ∈ [w8.heap.size] → q ∉ s := fun q hq h => by have h1 := hy6 q h; simp at hq; omega
                clear hy6
                refine hK.out _ _ ?_ (fun hHeld => ?_)
                · trivial
                clear hK K
                try simp only [Act.put, List.setIfInBounds_toArray, List.set_cons_zero, List.set_cons_succ]
                refine wpAnyH_ready (rs := [10]) (by kernel_rfl) (by simp) ?_
                refine AllReadyH.cons (o := ?ov_10_19) ?hiv_10_19 (fun K hK => ?gv_10_19) AllReadyH.nil
                case hiv_10_19 => simp only [List.getElem?_toArray, List.getElem?_cons_succ, List.getElem?_cons_zero]; rfl
                case gv_10_19 =>
                  refine Ap.step_app_el elChallenge w9 rfl (.tmp 17) (.tmp 25) rfl w.heap.size _ x.Open.length x.Open s (by simp [Act.eval]) o_y ny (w8.heap.size) 1 ⟨a - 1, u, 3⟩ [.int .i64 (a - 1), .int .i64 u, .int .i64 3] (by simp [Act.eval]) rfl (three (var_load o_e (by simp) 0 _ rfl) (var_load o_e (by simp) 1 _ rfl) (var_load o_e (by simp) 2 _ rfl)) (by intro u hu; simp at hu; rcases hu with rfl | rfl | rfl <;> rfl) w.heap.size [] (ch_owns ⟨a - 1, u, 3⟩) List.nodup_nil (fun y _ h => by cases h) (Nat.le_refl _) (by omega) hG.size ?_
                  intro v_n s_n w10 o_n n_n T_n M_n
                  obtain ⟨A_n, c_n, rfl⟩ := owns_slice o_n
                  have zw10 := T_n.2.2.2.1
                  replace o_r := owns_turned o_r T_n (fun b hb hb2 => by have h1 := i_y b (own_mem o_y b hb2); simp at hb; omega)
                  replace o_b := owns_turned o_b T_n (fun b hb hb2 => by have h1 := i_y b (own_mem o_y b hb2); simp at hb; omega)
                  replace o_li := owns_turned o_li T_n (fun b hb hb2 => by have h1 := i_y b (own_mem o_y b hb2); simp at hb; omega)
                  replace o_e := owns_turned o_e T_n (fun b hb hb2 => ne b hb (own_mem o_y b hb2))
                  replace hG := Dv.grown_turned hG T_n (fun b hb => (Fx.made_in o_y b (own_mem o_y b hb)).1)
                  replace C := cur_off C T_n (fun b hb => by have h1 := i_y b (own_mem o_y b hb); omega)
                  have i_n := Fx.made_in o_n
                  have i_n : ∀ q, q ∈ s_n → w1.heap.size ≤ q ∧ q ≠ w2.heap.size := fun q hq => by have h2 := i_n q hq; rcases M_n q hq with h1 | h1 | h1; exact ⟨(i_y q h1).1, by have := (i_y q h1).2; omega⟩; cases h1; omega
                  clear T_n M_n o_y ny i_y ne
                  refine hK.out _ _ ?_ (fun hHeld => ?_)
                  · trivial
                  clear hK K
                  try simp only [Act.put, List.setIfInBounds_toArray, List.set_cons_zero, List.set_cons_succ]
                  refine wpAnyH_take (i := 11) (oi := ?oiv_11_20) (v := ?vv_11_20) ?hiv_11_20 (by kernel_rfl) (by kernel_rfl) (by kernel_rfl) ?hQv_11_20 (Or.inl ⟨?hwv_11_20, ?hyv_11_20⟩) (by assumption) ?_
                  case hiv_11_20 => simp only [List.getElem?_toArray, List.getElem?_cons_succ, List.getElem?_cons_zero]; rfl
                  case hQv_11_20 => exact fun _ _ _ h => h
                  case hwv_11_20 => rfl
                  case hyv_11_20 => intro w hSw; (try dsimp only at hSw); (first | (go_simp; done) | (go_simp; with_reducible rfl))
                  try simp only [Act.put, List.setIfInBounds_toArray, List.set_cons_zero, List.set_cons_succ]
                  refine wpAnyH_ready (rs := [12]) (by kernel_rfl) (by simp) ?_
                  refine AllReadyH.cons (o := ?ov_12_21) ?hiv_12_21 (fun K hK => ?gv_12_21) AllReadyH.nil
                  case hiv_12_21 => simp only [List.getElem?_toArray, List.getElem?_cons_succ, List.getElem?_cons_zero]; rfl
                  case gv_12_21 =>
                    obtain ⟨c_b0, f_b0, c_b1, f_b1, c_b2, f_b2, l_b⟩ := Vn.v3 o_b
                    go_simp
                    clear c_b0 f_b0 c_b1 f_b1 c_b2 f_b2 l_b
                    obtain ⟨w11, hw11⟩ : ∃ y, y = (w10.setCell ⟨w2.heap.size, 2, none⟩ (.slice A_n (x.Open.length + 1) c_n)) := ⟨_, rfl⟩
                    obtain ⟨o_new, tw11⟩ := var_some [.slice A_n (x.Open.length + 1) c_n] 2 _ _ o_b (by simp)
                    rw [show setAll w10 (w2.heap.size) 2 [.slice A_n (x.Open.length + 1) c_n] = w11 from hw11.symm] at o_new tw11
                    replace o_b : Owns w11 _ (varD 26 3 [.int .i64 x.Seed, .int .i64 x.Next, .slice A_n (x.Open.length + 1) c_n]) _ _ := o_new
                    clear o_new
                    replace o_r := owns_turned o_r tw11 (fun b hb hb2 => by simp at hb hb2; omega)
                    replace o_li := owns_turned o_li tw11 (fun b hb hb2 => by simp at hb hb2; omega)
                    replace o_e := owns_turned o_e tw11 (fun b hb hb2 => by simp at hb hb2; omega)
                    replace o_n := owns_turned o_n tw11 (fun b hb hb2 => by have h1 := i_n b hb; simp at hb2; omega)
                    replace hG := Dv.grown_turned hG tw11 (fun b hb => by simp at hb; omega)
                    replace C := Dv.cur_turned C tw11 (by omega) (by omega)
                    have zw11 := tw11.2.2.2.1
                    rw [← hw11]
                    clear hw11
                    refine hK.out _ _ ?_ (fun hHeld => ?_)
                    · trivial
                    clear hK K
                    try simp only [Act.put, List.setIfInBounds_toArray, List.set_cons_zero, List.set_cons_succ]
                    refine wpAnyH_done (by kernel_rfl) ?_ _
                    obtain ⟨c_r0, f_r0, c_r1, f_r1, c_r2, f_r2, l_r⟩ := Vn.v3 o_r
                    obtain ⟨c_b0, f_b0, c_b1, f_b1, c_b2, f_b2, l_b⟩ := Vn.v3 o_b
                    obtain ⟨c_li0, f_li0, c_li1, f_li1, c_li2, f_li2, c_li3, f_li3, l_li⟩ := Vn.v4 o_li
                    obtain ⟨c_e0, f_e0, c_e1, f_e1, c_e2, f_e2, l_e⟩ := Vn.v3 o_e
                    go_wp2
                    clear c_r0 f_r0 c_r1 f_r1 c_r2 f_r2 l_r c_b0 f_b0 c_b1 f_b1 c_b2 f_b2 l_b c_li0 f_li0 c_li1 f_li1 c_li2 f_li2 c_li3 f_li3 l_li c_e0 f_e0 c_e1 f_e1 c_e2 f_e2 l_e
                    obtain ⟨w12, hw12⟩ : ∃ y, y = (((w11.setCell ⟨w.heap.size, 0, none⟩ (.int .i64 x.Seed)).setCell ⟨w.heap.size, 1, none⟩ (.int .i64 x.Next)).setCell ⟨w.heap.size, 2, none⟩ (.slice A_n (x.Open.length + 1) c_n)) := ⟨_, rfl⟩
                    obtain ⟨o_new, tw12⟩ := var_some [.int .i64 x.Seed, .int .i64 x.Next, .slice A_n (x.Open.length + 1) c_n] 0 _ _ o_r (by simp)
                    rw [show setAll w11 (w.heap.size) 0 [.int .i64 x.Seed, .int .i64 x.Next, .slice A_n (x.Open.length + 1) c_n] = w12 from hw12.symm] at o_new tw12
                    replace o_r : Owns w12 _ (varD 26 3 [.int .i64 x.Seed, .int .i64 x.Next, .slice A_n (x.Open.length + 1) c_n]) _ _ := o_new
                    clear o_new
                    replace o_b := owns_turned o_b tw12 (fun b hb hb2 => by simp at hb hb2; omega)
                    replace o_li := owns_turned o_li tw12 (fun b hb hb2 => by simp at hb hb2; omega)
                    replace o_e := owns_turned o_e tw12 (fun b hb hb2 => by simp at hb hb2; omega)
                    replace o_n := owns_turned o_n tw12 (fun b hb hb2 => by have h1 := i_n b hb; simp at hb2; omega)
                    replace hG := Dv.grown_turned hG tw12 (fun b hb => by simp at hb; omega)
                    replace C := Dv.cur_turned C tw12 (by omega) (by omega)
                    have zw12 := tw12.2.2.2.1
                    rw [← hw12]
                    clear hw12
                    have y0 : w12.cell? ⟨w.heap.size, 0, none⟩ = some (.int .i64 x.Seed) := var_load o_r (by simp) 0 _ rfl
                    have y1 : w12.cell? ⟨w.heap.size, 1, none⟩ = some (.int .i64 x.Next) := var_load o_r (by simp) 1 _ rfl
                    have y2 : w12.cell? ⟨w.heap.size, 2, none⟩ = some (.slice A_n (x.Open.length + 1) c_n) := var_load o_r (by simp) 2 _ rfl
                    refine bodyPost_ret (v := .agg #[.int .i64 x.Seed, .int .i64 x.Next, .slice A_n (x.Open.length + 1) c_n]) (by simp [results, Try.results34, go_sem, y0, y1, y2]) rfl ?_
                    exact drawn_bk ⟨x.Seed, x.Next, x.Open ++ [⟨a - 1, u, 3⟩]⟩ rfl rfl (by simp) (bk_app HX.out (show isI64 (a - 1) from ⟨by omega, by omega⟩) hu (by omega)) o_n n_n C hG
      case gv_3_4 =>
        go_simp
        go_at_call 57
        (with_reducible refine (below_any _ _ H0 30 C).mono ?_); rintro e w6 ⟨a, rfl, ⟨ha0, ha1⟩, C, gw6⟩
        replace o_r := Dv.owns_drawn o_r gw6 (by omega)
        replace o_b := Dv.owns_drawn o_b gw6 (by omega)
        replace o_y := owns_turned o_y (turned_grown gw6) (fun b hb hb2 => by have h1 := i_y b hb; simp at hb2; omega)
        replace hG := grown_trans hG gw6
        have zw6 := gw6.size
        replace ha1 : a ≤ 29 := by omega
        have hwr : IntKind.i64.wrap (a - 1) = a - 1 := IntWalk.i64_in _ (by omega)
        refine hK.out _ _ ?_ (fun hHeld => ?_)
        · trivial
        clear hK K
        try simp only [Act.put, List.setIfInBounds_toArray, List.set_cons_zero, List.set_cons_succ]
        refine wpAnyH_take (i := 4) (oi := ?oiv_4_22) (v := ?vv_4_22) ?hiv_4_22 (by kernel_rfl) (by kernel_rfl) (by kernel_rfl) ?hQv_4_22 (Or.inl ⟨?hwv_4_22, ?hyv_4_22⟩) (by assumption) ?_
        case hiv_4_22 => simp only [List.getElem?_toArray, List.getElem?_cons_succ, List.getElem?_cons_zero]; rfl
        case hQv_4_22 => exact fun _ _ _ h => h
        case hwv_4_22 => rfl
        case hyv_4_22 => intro w hSw; (try dsimp only at hSw); (first | (go_simp; done) | (go_simp; with_reducible rfl))
        try simp only [Act.put, List.setIfInBounds_toArray, List.set_cons_zero, List.set_cons_succ]
        refine wpAnyH_ready (rs := [1, 6]) (by kernel_rfl) (by simp) ?_
        refine AllReadyH.cons (o := ?ov_1_23) ?hiv_1_23 (fun K hK => ?gv_1_23) (AllReadyH.cons (o := ?ov_6_23) ?hiv_6_23 (fun K hK => ?gv_6_23) AllReadyH.nil)
        case hiv_1_23 => simp only [List.getElem?_toArray, List.getElem?_cons_succ, List.getElem?_cons_zero]; rfl
        case hiv_6_23 => simp only [List.getElem?_toArray, List.getElem?_cons_succ, List.getElem?_cons_zero]; rfl
        case gv_1_23 =>
          obtain ⟨c_b0, f_b0, c_b1, f_b1, c_b2, f_b2, l_b⟩ := Vn.v3 o_b
          go_simp
          refine hK.out _ _ ?_ (fun hHeld => ?_)
          · trivial
          clear hK K
          try simp only [Act.put, List.setIfInBounds_toArray, List.set_cons_zero, List.set_cons_succ]
          refine wpAnyH_ready (rs := [6]) (by kernel_rfl) (by simp) ?_
          refine AllReadyH.cons (o := ?ov_6_24) ?hiv_6_24 (fun K hK => ?gv_6_24) AllReadyH.nil
          case hiv_6_24 => simp only [List.getElem?_toArray, List.getElem?_cons_succ, List.getElem?_cons_zero]; rfl
          case gv_6_24 =>
            go_simp
            clear c_b0 f_b0 c_b1 f_b1 c_b2 f_b2 l_b
            obtain ⟨w7, hw7⟩ : ∃ y, y = w6.alloc (.cells #[.int .i64 (0), .int .i64 (-1), .int .i64 (1000005), .int .i64 (1000006)] 3) := ⟨_, rfl⟩
            have o_li := var_owns w6 3 4 [.int .i64 (0), .int .i64 (-1), .int .i64 (1000005), .int .i64 (1000006)] rfl
            have bw7 : Below w6.heap.size w6 w7 := hw7 ▸ (Below.refl _ _).alloc (Nat.le_refl _) _
            rw [← hw7] at o_li ⊢
            have zw7 : w6.heap.size < w7.heap.size := by rw [hw7]; simp
            have gw7 : World.grownBy w6 w7 (some B) := below_grown bw7
            clear hw7
            replace C := cur_below C bw7
            replace o_r := owns_below o_r bw7
            replace o_b := owns_below o_b bw7
            replace o_y := owns_below o_y bw7
            replace hG := grown_trans hG gw7
            have HI := Lib.hid (row_lit (P := isI64) [0, -1, 1000005, 1000006] rfl o_li (by simp) (var_lt o_li) (by simp [isI64]))
            refine hK.out _ _ ?_ (fun hHeld => ?_)
            · trivial
            clear hK K
            try simp only [Act.put, List.setIfInBounds_toArray, List.set_cons_zero, List.set_cons_succ]
            refine wpAnyH_ready (rs := [7]) (by kernel_rfl) (by simp) ?_
            refine AllReadyH.cons (o := ?ov_7_25) ?hiv_7_25 (fun K hK => ?gv_7_25) AllReadyH.nil
            case hiv_7_25 => simp only [List.getElem?_toArray, List.getElem?_cons_succ, List.getElem?_cons_zero]; rfl
            case gv_7_25 =>
              go_simp
              go_at_call 35
              have HJ := row_lit (P := isI64) [0, -1, 1000005, 1000006] rfl o_li (by simp) (var_lt o_li) (by simp [isI64])
              clear HI
              (refine (int_any isI64 _ _ H0 w6.heap.size 4 C HJ (by omega) (by omega) (by omega)).mono ?_); rintro e w8 ⟨u, rfl, hu, C, gw8⟩
              replace o_r := Dv.owns_drawn o_r gw8 (by omega)
              replace o_b := Dv.owns_drawn o_b gw8 (by omega)
              replace o_li := Dv.owns_drawn o_li gw8 (by omega)
              replace o_y := owns_turned o_y (turned_grown gw8) (fun b hb hb2 => by have h1 := i_y b hb; simp at hb2; omega)
              replace hG := grown_trans hG gw8
              have zw8 := gw8.size
              clear HJ
              refine hK.out _ _ ?_ (fun hHeld => ?_)
              · trivial
              clear hK K
              try simp only [Act.put, List.setIfInBounds_toArray, List.set_cons_zero, List.set_cons_succ]
              refine wpAnyH_take (i := 8) (oi := ?oiv_8_26) (v := ?vv_8_26) ?hiv_8_26 (by kernel_rfl) (by kernel_rfl) (by kernel_rfl) ?hQv_8_26 (Or.inl ⟨?hwv_8_26, ?hyv_8_26⟩) (by assumption) ?_
              case hiv_8_26 => simp only [List.getElem?_toArray, List.getElem?_cons_succ, List.getElem?_cons_zero]; rfl
              case hQv_8_26 => exact fun _ _ _ h => h
              case hwv_8_26 => rfl
              case hyv_8_26 => intro w hSw; (try dsimp only at hSw); (first | (go_simp; done) | (go_simp; with_reducible rfl))
              try simp only [Act.put, List.setIfInBounds_toArray, List.set_cons_zero, List.set_cons_succ]
              refine wpAnyH_ready (rs := [9]) (by kernel_rfl) (by simp) ?_
              refine AllReadyH.cons (o := ?ov_9_27) ?hiv_9_27 (fun K hK => ?gv_9_27) AllReadyH.nil
              case hiv_9_27 => simp only [List.getElem?_toArray, List.getElem?_cons_succ, List.getElem?_cons_zero]; rfl
              case gv_9_27 =>
                go_simp
                have hgr := var_lt o_b
                have hy6 := Fx.made_in o_y
                obtain ⟨w9, hw9⟩ : ∃ y, y = w8.alloc (.cells #[.int .i64 (a - 1), .int .i64 u, .int .i64 3] 30) := ⟨_, rfl⟩
                have o_e := var_owns w8 30 3 [.int .i64 (a - 1), .int .i64 u, .int .i64 3] rfl
                have bw9 : Below w8.heap.size w8 w9 := hw9 ▸ (Below.refl _ _).alloc (Nat.le_refl _) _
                rw [← hw9] at o_e ⊢
                have zw9 : w8.heap.size < w9.heap.size := by rw [hw9]; simp
                have gw9 : World.grownBy w8 w9 (some B) := below_grown bw9
                clear hw9
                replace C := cur_below C bw9
                replace o_r := owns_below o_r bw9
                replace o_b := owns_below o_b bw9
                replace o_li := owns_below o_li bw9
                replace o_y := owns_below o_y bw9
                replace hG := grown_trans hG gw9
                have ne : ∀ q, q ∈ [w8.heap.size] → q ∉ s := fun q hq h => by have h1 := hy6 q h; simp at hq; omega
                clear hy6
                refine hK.out _ _ ?_ (fun hHeld => ?_)
                · trivial
                clear hK K
                try simp only [Act.put, List.setIfInBounds_toArray, List.set_cons_zero, List.set_cons_succ]
                refine wpAnyH_ready (rs := [10]) (by kernel_rfl) (by simp) ?_
                refine AllReadyH.cons (o := ?ov_10_28) ?hiv_10_28 (fun K hK => ?gv_10_28) AllReadyH.nil
                case hiv_10_28 => simp only [List.getElem?_toArray, List.getElem?_cons_succ, List.getElem?_cons_zero]; rfl
                case gv_10_28 =>
                  refine Ap.step_app_el elChallenge w9 rfl (.tmp 17) (.tmp 25) rfl w.heap.size _ x.Open.length x.Open s (by simp [Act.eval]) o_y ny (w8.heap.size) 1 ⟨a - 1, u, 3⟩ [.int .i64 (a - 1), .int .i64 u, .int .i64 3] (by simp [Act.eval]) rfl (three (var_load o_e (by simp) 0 _ rfl) (var_load o_e (by simp) 1 _ rfl) (var_load o_e (by simp) 2 _ rfl)) (by intro u hu; simp at hu; rcases hu with rfl | rfl | rfl <;> rfl) w.heap.size [] (ch_owns ⟨a - 1, u, 3⟩) List.nodup_nil (fun y _ h => by cases h) (Nat.le_refl _) (by omega) hG.size ?_
                  intro v_n s_n w10 o_n n_n T_n M_n
                  obtain ⟨A_n, c_n, rfl⟩ := owns_slice o_n
                  have zw10 := T_n.2.2.2.1
                  replace o_r := owns_turned o_r T_n (fun b hb hb2 => by have h1 := i_y b (own_mem o_y b hb2); simp at hb; omega)
                  replace o_b := owns_turned o_b T_n (fun b hb hb2 => by have h1 := i_y b (own_mem o_y b hb2); simp at hb; omega)
                  replace o_li := owns_turned o_li T_n (fun b hb hb2 => by have h1 := i_y b (own_mem o_y b hb2); simp at hb; omega)
                  replace o_e := owns_turned o_e T_n (fun b hb hb2 => ne b hb (own_mem o_y b hb2))
                  replace hG := Dv.grown_turned hG T_n (fun b hb => (Fx.made_in o_y b (own_mem o_y b hb)).1)
                  replace C := cur_off C T_n (fun b hb => by have h1 := i_y b (own_mem o_y b hb); omega)
                  have i_n := Fx.made_in o_n
                  have i_n : ∀ q, q ∈ s_n → w1.heap.size ≤ q ∧ q ≠ w2.heap.size := fun q hq => by have h2 := i_n q hq; rcases M_n q hq with h1 | h1 | h1; exact ⟨(i_y q h1).1, by have := (i_y q h1).2; omega⟩; cases h1; omega
                  clear T_n M_n o_y ny i_y ne
                  refine hK.out _ _ ?_ (fun hHeld => ?_)
                  · trivial
                  clear hK K
                  try simp only [Act.put, List.setIfInBounds_toArray, List.set_cons_zero, List.set_cons_succ]
                  refine wpAnyH_take (i := 11) (oi := ?oiv_11_29) (v := ?vv_11_29) ?hiv_11_29 (by kernel_rfl) (by kernel_rfl) (by kernel_rfl) ?hQv_11_29 (Or.inl ⟨?hwv_11_29, ?hyv_11_29⟩) (by assumption) ?_
                  case hiv_11_29 => simp only [List.getElem?_toArray, List.getElem?_cons_succ, List.getElem?_cons_zero]; rfl
                  case hQv_11_29 => exact fun _ _ _ h => h
                  case hwv_11_29 => rfl
                  case hyv_11_29 => intro w hSw; (try dsimp only at hSw); (first | (go_simp; done) | (go_simp; with_reducible rfl))
                  try simp only [Act.put, List.setIfInBounds_toArray, List.set_cons_zero, List.set_cons_succ]
                  refine wpAnyH_ready (rs := [12]) (by kernel_rfl) (by simp) ?_
                  refine AllReadyH.cons (o := ?ov_12_30) ?hiv_12_30 (fun K hK => ?gv_12_30) AllReadyH.nil
                  case hiv_12_30 => simp only [List.getElem?_toArray, List.getElem?_cons_succ, List.getElem?_cons_zero]; rfl
                  case gv_12_30 =>
                    obtain ⟨c_b0, f_b0, c_b1, f_b1, c_b2, f_b2, l_b⟩ := Vn.v3 o_b
                    go_simp
                    clear c_b0 f_b0 c_b1 f_b1 c_b2 f_b2 l_b
                    obtain ⟨w11, hw11⟩ : ∃ y, y = (w10.setCell ⟨w2.heap.size, 2, none⟩ (.slice A_n (x.Open.length + 1) c_n)) := ⟨_, rfl⟩
                    obtain ⟨o_new, tw11⟩ := var_some [.slice A_n (x.Open.length + 1) c_n] 2 _ _ o_b (by simp)
                    rw [show setAll w10 (w2.heap.size) 2 [.slice A_n (x.Open.length + 1) c_n] = w11 from hw11.symm] at o_new tw11
                    replace o_b : Owns w11 _ (varD 26 3 [.int .i64 x.Seed, .int .i64 x.Next, .slice A_n (x.Open.length + 1) c_n]) _ _ := o_new
                    clear o_new
                    replace o_r := owns_turned o_r tw11 (fun b hb hb2 => by simp at hb hb2; omega)
                    replace o_li := owns_turned o_li tw11 (fun b hb hb2 => by simp at hb hb2; omega)
                    replace o_e := owns_turned o_e tw11 (fun b hb hb2 => by simp at hb hb2; omega)
                    replace o_n := owns_turned o_n tw11 (fun b hb hb2 => by have h1 := i_n b hb; simp at hb2; omega)
                    replace hG := Dv.grown_turned hG tw11 (fun b hb => by simp at hb; omega)
                    replace C := Dv.cur_turned C tw11 (by omega) (by omega)
                    have zw11 := tw11.2.2.2.1
                    rw [← hw11]
                    clear hw11
                    refine hK.out _ _ ?_ (fun hHeld => ?_)
                    · trivial
                    clear hK K
                    try simp only [Act.put, List.setIfInBounds_toArray, List.set_cons_zero, List.set_cons_succ]
                    refine wpAnyH_done (by kernel_rfl) ?_ _
                    obtain ⟨c_r0, f_r0, c_r1, f_r1, c_r2, f_r2, l_r⟩ := Vn.v3 o_r
                    obtain ⟨c_b0, f_b0, c_b1, f_b1, c_b2, f_b2, l_b⟩ := Vn.v3 o_b
                    obtain ⟨c_li0, f_li0, c_li1, f_li1, c_li2, f_li2, c_li3, f_li3, l_li⟩ := Vn.v4 o_li
                    obtain ⟨c_e0, f_e0, c_e1, f_e1, c_e2, f_e2, l_e⟩ := Vn.v3 o_e
                    go_wp2
                    clear c_r0 f_r0 c_r1 f_r1 c_r2 f_r2 l_r c_b0 f_b0 c_b1 f_b1 c_b2 f_b2 l_b c_li0 f_li0 c_li1 f_li1 c_li2 f_li2 c_li3 f_li3 l_li c_e0 f_e0 c_e1 f_e1 c_e2 f_e2 l_e
                    obtain ⟨w12, hw12⟩ : ∃ y, y = (((w11.setCell ⟨w.heap.size, 0, none⟩ (.int .i64 x.Seed)).setCell ⟨w.heap.size, 1, none⟩ (.int .i64 x.Next)).setCell ⟨w.heap.size, 2, none⟩ (.slice A_n (x.Open.length + 1) c_n)) := ⟨_, rfl⟩
                    obtain ⟨o_new, tw12⟩ := var_some [.int .i64 x.Seed, .int .i64 x.Next, .slice A_n (x.Open.length + 1) c_n] 0 _ _ o_r (by simp)
                    rw [show setAll w11 (w.heap.size) 0 [.int .i64 x.Seed, .int .i64 x.Next, .slice A_n (x.Open.length + 1) c_n] = w12 from hw12.symm] at o_new tw12
                    replace o_r : Owns w12 _ (varD 26 3 [.int .i64 x.Seed, .int .i64 x.Next, .slice A_n (x.Open.length + 1) c_n]) _ _ := o_new
                    clear o_new
                    replace o_b := owns_turned o_b tw12 (fun b hb hb2 => by simp at hb hb2; omega)
                    replace o_li := owns_turned o_li tw12 (fun b hb hb2 => by simp at hb hb2; omega)
                    replace o_e := owns_turned o_e tw12 (fun b hb hb2 => by simp at hb hb2; omega)
                    replace o_n := owns_turned o_n tw12 (fun b hb hb2 => by have h1 := i_n b hb; simp at hb2; omega)
                    replace hG := Dv.grown_turned hG tw12 (fun b hb => by simp at hb; omega)
                    replace C := Dv.cur_turned C tw12 (by omega) (by omega)
                    have zw12 := tw12.2.2.2.1
                    rw [← hw12]
                    clear hw12
                    have y0 : w12.cell? ⟨w.heap.size, 0, none⟩ = some (.int .i64 x.Seed) := var_load o_r (by simp) 0 _ rfl
                    have y1 : w12.cell? ⟨w.heap.size, 1, none⟩ = some (.int .i64 x.Next) := var_load o_r (by simp) 1 _ rfl
                    have y2 : w12.cell? ⟨w.heap.size, 2, none⟩ = some (.slice A_n (x.Open.length + 1) c_n) := var_load o_r (by simp) 2 _ rfl
                    refine bodyPost_ret (v := .agg #[.int .i64 x.Seed, .int .i64 x.Next, .slice A_n (x.Open.length + 1) c_n]) (by simp [results, Try.results34, go_sem, y0, y1, y2]) rfl ?_
                    exact drawn_bk ⟨x.Seed, x.Next, x.Open ++ [⟨a - 1, u, 3⟩]⟩ rfl rfl (by simp) (bk_app HX.out (show isI64 (a - 1) from ⟨by omega, by omega⟩) hu (by omega)) o_n n_n C hG
        case gv_6_23 =>
          go_simp
          obtain ⟨w7, hw7⟩ : ∃ y, y = w6.alloc (.cells #[.int .i64 (0), .int .i64 (-1), .int .i64 (1000005), .int .i64 (1000006)] 3) := ⟨_, rfl⟩
          have o_li := var_owns w6 3 4 [.int .i64 (0), .int .i64 (-1), .int .i64 (1000005), .int .i64 (1000006)] rfl
          have bw7 : Below w6.heap.size w6 w7 := hw7 ▸ (Below.refl _ _).alloc (Nat.le_refl _) _
          rw [← hw7] at o_li ⊢
          have zw7 : w6.heap.size < w7.heap.size := by rw [hw7]; simp
          have gw7 : World.grownBy w6 w7 (some B) := below_grown bw7
          clear hw7
          replace C := cur_below C bw7
          replace o_r := owns_below o_r bw7
          replace o_b := owns_below o_b bw7
          replace o_y := owns_below o_y bw7
          replace hG := grown_trans hG gw7
          have HI := Lib.hid (row_lit (P := isI64) [0, -1, 1000005, 1000006] rfl o_li (by simp) (var_lt o_li) (by simp [isI64]))
          refine hK.out _ _ ?_ (fun hHeld => ?_)
          · trivial
          clear hK K
          try simp only [Act.put, List.setIfInBounds_toArray, List.set_cons_zero, List.set_cons_succ]
          refine wpAnyH_ready (rs := [1, 7]) (by kernel_rfl) (by simp) ?_
          refine AllReadyH.cons (o := ?ov_1_31) ?hiv_1_31 (fun K hK => ?gv_1_31) (AllReadyH.cons (o := ?ov_7_31) ?hiv_7_31 (fun K hK => ?gv_7_31) AllReadyH.nil)
          case hiv_1_31 => simp only [List.getElem?_toArray, List.getElem?_cons_succ, List.getElem?_cons_zero]; rfl
          case hiv_7_31 => simp only [List.getElem?_toArray, List.getElem?_cons_succ, List.getElem?_cons_zero]; rfl
          case gv_1_31 =>
            obtain ⟨c_b0, f_b0, c_b1, f_b1, c_b2, f_b2, l_b⟩ := Vn.v3 o_b
            go_simp
            refine hK.out _ _ ?_ (fun hHeld => ?_)
            · trivial
            clear hK K
            try simp only [Act.put, List.setIfInBounds_toArray, List.set_cons_zero, List.set_cons_succ]
            refine wpAnyH_ready (rs := [7]) (by kernel_rfl) (by simp) ?_
            refine AllReadyH.cons (o := ?ov_7_32) ?hiv_7_32 (fun K hK => ?gv_7_32) AllReadyH.nil
            case hiv_7_32 => simp only [List.getElem?_toArray, List.getElem?_cons_succ, List.getElem?_cons_zero]; rfl
            case gv_7_32 =>
              go_simp
              go_at_call 35
              have HJ := row_lit (P := isI64) [0, -1, 1000005, 1000006] rfl o_li (by simp) (var_lt o_li) (by simp [isI64])
              clear HI
              (refine (int_any isI64 _ _ H0 w6.heap.size 4 C HJ (by omega) (by omega) (by omega)).mono ?_); rintro e w8 ⟨u, rfl, hu, C, gw8⟩
              clear c_b0 f_b0 c_b1 f_b1 c_b2 f_b2 l_b
              replace o_r := Dv.owns_drawn o_r gw8 (by omega)
              replace o_b := Dv.owns_drawn o_b gw8 (by omega)
              replace o_li := Dv.owns_drawn o_li gw8 (by omega)
              replace o_y := owns_turned o_y (turned_grown gw8) (fun b hb hb2 => by have h1 := i_y b hb; simp at hb2; omega)
              replace hG := grown_trans hG gw8
              have zw8 := gw8.size
              clear HJ
              refine hK.out _ _ ?_ (fun hHeld => ?_)
              · trivial
              clear hK K
              try simp only [Act.put, List.setIfInBounds_toArray, List.set_cons_zero, List.set_cons_succ]
              refine wpAnyH_take (i := 8) (oi := ?oiv_8_33) (v := ?vv_8_33) ?hiv_8_33 (by kernel_rfl) (by kernel_rfl) (by kernel_rfl) ?hQv_8_33 (Or.inl ⟨?hwv_8_33, ?hyv_8_33⟩) (by assumption) ?_
              case hiv_8_33 => simp only [List.getElem?_toArray, List.getElem?_cons_succ, List.getElem?_cons_zero]; rfl
              case hQv_8_33 => exact fun _ _ _ h => h
              case hwv_8_33 => rfl
              case hyv_8_33 => intro w hSw; (try dsimp only at hSw); (first | (go_simp; done) | (go_simp; with_reducible rfl))
              try simp only [Act.put, List.setIfInBounds_toArray, List.set_cons_zero, List.set_cons_succ]
              refine wpAnyH_ready (rs := [9]) (by kernel_rfl) (by simp) ?_
              refine AllReadyH.cons (o := ?ov_9_34) ?hiv_9_34 (fun K hK => ?gv_9_34) AllReadyH.nil
              case hiv_9_34 => simp only [List.getElem?_toArray, List.getElem?_cons_succ, List.getElem?_cons_zero]; rfl
              case gv_9_34 =>
                go_simp
                have hgr := var_lt o_b
                have hy6 := Fx.made_in o_y
                obtain ⟨w9, hw9⟩ : ∃ y, y = w8.alloc (.cells #[.int .i64 (a - 1), .int .i64 u, .int .i64 3] 30) := ⟨_, rfl⟩
                have o_e := var_owns w8 30 3 [.int .i64 (a - 1), .int .i64 u, .int .i64 3] rfl
                have bw9 : Below w8.heap.size w8 w9 := hw9 ▸ (Below.refl _ _).alloc (Nat.le_refl _) _
                rw [← hw9] at o_e ⊢
                have zw9 : w8.heap.size < w9.heap.size := by rw [hw9]; simp
                have gw9 : World.grownBy w8 w9 (some B) := below_grown bw9
                clear hw9
                replace C := cur_below C bw9
                replace o_r := owns_below o_r bw9
                replace o_b := owns_below o_b bw9
                replace o_li := owns_below o_li bw9
                replace o_y := owns_below o_y bw9
                replace hG := grown_trans hG gw9
                have ne : ∀ q, q ∈ [w8.heap.size] → q ∉ s := fun q hq h => by have h1 := hy6 q h; simp at hq; omega
                clear hy6
                refine hK.out _ _ ?_ (fun hHeld => ?_)
                · trivial
                clear hK K
                try simp only [Act.put, List.setIfInBounds_toArray, List.set_cons_zero, List.set_cons_succ]
                refine wpAnyH_ready (rs := [10]) (by kernel_rfl) (by simp) ?_
                refine AllReadyH.cons (o := ?ov_10_35) ?hiv_10_35 (fun K hK => ?gv_10_35) AllReadyH.nil
                case hiv_10_35 => simp only [List.getElem?_toArray, List.getElem?_cons_succ, List.getElem?_cons_zero]; rfl
                case gv_10_35 =>
                  refine Ap.step_app_el elChallenge w9 rfl (.tmp 17) (.tmp 25) rfl w.heap.size _ x.Open.length x.Open s (by simp [Act.eval]) o_y ny (w8.heap.size) 1 ⟨a - 1, u, 3⟩ [.int .i64 (a - 1), .int .i64 u, .int .i64 3] (by simp [Act.eval]) rfl (three (var_load o_e (by simp) 0 _ rfl) (var_load o_e (by simp) 1 _ rfl) (var_load o_e (by simp) 2 _ rfl)) (by intro u hu; simp at hu; rcases hu with rfl | rfl | rfl <;> rfl) w.heap.size [] (ch_owns ⟨a - 1, u, 3⟩) List.nodup_nil (fun y _ h => by cases h) (Nat.le_refl _) (by omega) hG.size ?_
                  intro v_n s_n w10 o_n n_n T_n M_n
                  obtain ⟨A_n, c_n, rfl⟩ := owns_slice o_n
                  have zw10 := T_n.2.2.2.1
                  replace o_r := owns_turned o_r T_n (fun b hb hb2 => by have h1 := i_y b (own_mem o_y b hb2); simp at hb; omega)
                  replace o_b := owns_turned o_b T_n (fun b hb hb2 => by have h1 := i_y b (own_mem o_y b hb2); simp at hb; omega)
                  replace o_li := owns_turned o_li T_n (fun b hb hb2 => by have h1 := i_y b (own_mem o_y b hb2); simp at hb; omega)
                  replace o_e := owns_turned o_e T_n (fun b hb hb2 => ne b hb (own_mem o_y b hb2))
                  replace hG := Dv.grown_turned hG T_n (fun b hb => (Fx.made_in o_y b (own_mem o_y b hb)).1)
                  replace C := cur_off C T_n (fun b hb => by have h1 := i_y b (own_mem o_y b hb); omega)
                  have i_n := Fx.made_in o_n
                  have i_n : ∀ q, q ∈ s_n → w1.heap.size ≤ q ∧ q ≠ w2.heap.size := fun q hq => by have h2 := i_n q hq; rcases M_n q hq with h1 | h1 | h1; exact ⟨(i_y q h1).1, by have := (i_y q h1).2; omega⟩; cases h1; omega
                  clear T_n M_n o_y ny i_y ne
                  refine hK.out _ _ ?_ (fun hHeld => ?_)
                  · trivial
                  clear hK K
                  try simp only [Act.put, List.setIfInBounds_toArray, List.set_cons_zero, List.set_cons_succ]
                  refine wpAnyH_take (i := 11) (oi := ?oiv_11_36) (v := ?vv_11_36) ?hiv_11_36 (by kernel_rfl) (by kernel_rfl) (by kernel_rfl) ?hQv_11_36 (Or.inl ⟨?hwv_11_36, ?hyv_11_36⟩) (by assumption) ?_
                  case hiv_11_36 => simp only [List.getElem?_toArray, List.getElem?_cons_succ, List.getElem?_cons_zero]; rfl
                  case hQv_11_36 => exact fun _ _ _ h => h
                  case hwv_11_36 => rfl
                  case hyv_11_36 => intro w hSw; (try dsimp only at hSw); (first | (go_simp; done) | (go_simp; with_reducible rfl))
                  try simp only [Act.put, List.setIfInBounds_toArray, List.set_cons_zero, List.set_cons_succ]
                  refine wpAnyH_ready (rs := [12]) (by kernel_rfl) (by simp) ?_
                  refine AllReadyH.cons (o := ?ov_12_37) ?hiv_12_37 (fun K hK => ?gv_12_37) AllReadyH.nil
                  case hiv_12_37 => simp only [List.getElem?_toArray, List.getElem?_cons_succ, List.getElem?_cons_zero]; rfl
                  case gv_12_37 =>
                    obtain ⟨c_b0, f_b0, c_b1, f_b1, c_b2, f_b2, l_b⟩ := Vn.v3 o_b
                    go_simp
                    clear c_b0 f_b0 c_b1 f_b1 c_b2 f_b2 l_b
                    obtain ⟨w11, hw11⟩ : ∃ y, y = (w10.setCell ⟨w2.heap.size, 2, none⟩ (.slice A_n (x.Open.length + 1) c_n)) := ⟨_, rfl⟩
                    obtain ⟨o_new, tw11⟩ := var_some [.slice A_n (x.Open.length + 1) c_n] 2 _ _ o_b (by simp)
                    rw [show setAll w10 (w2.heap.size) 2 [.slice A_n (x.Open.length + 1) c_n] = w11 from hw11.symm] at o_new tw11
                    replace o_b : Owns w11 _ (varD 26 3 [.int .i64 x.Seed, .int .i64 x.Next, .slice A_n (x.Open.length + 1) c_n]) _ _ := o_new
                    clear o_new
                    replace o_r := owns_turned o_r tw11 (fun b hb hb2 => by simp at hb hb2; omega)
                    replace o_li := owns_turned o_li tw11 (fun b hb hb2 => by simp at hb hb2; omega)
                    replace o_e := owns_turned o_e tw11 (fun b hb hb2 => by simp at hb hb2; omega)
                    replace o_n := owns_turned o_n tw11 (fun b hb hb2 => by have h1 := i_n b hb; simp at hb2; omega)
                    replace hG := Dv.grown_turned hG tw11 (fun b hb => by simp at hb; omega)
                    replace C := Dv.cur_turned C tw11 (by omega) (by omega)
                    have zw11 := tw11.2.2.2.1
                    rw [← hw11]
                    clear hw11
                    refine hK.out _ _ ?_ (fun hHeld => ?_)
                    · trivial
                    clear hK K
                    try simp only [Act.put, List.setIfInBounds_toArray, List.set_cons_zero, List.set_cons_succ]
                    refine wpAnyH_done (by kernel_rfl) ?_ _
                    obtain ⟨c_r0, f_r0, c_r1, f_r1, c_r2, f_r2, l_r⟩ := Vn.v3 o_r
                    obtain ⟨c_b0, f_b0, c_b1, f_b1, c_b2, f_b2, l_b⟩ := Vn.v3 o_b
                    obtain ⟨c_li0, f_li0, c_li1, f_li1, c_li2, f_li2, c_li3, f_li3, l_li⟩ := Vn.v4 o_li
                    obtain ⟨c_e0, f_e0, c_e1, f_e1, c_e2, f_e2, l_e⟩ := Vn.v3 o_e
                    go_wp2
                    clear c_r0 f_r0 c_r1 f_r1 c_r2 f_r2 l_r c_b0 f_b0 c_b1 f_b1 c_b2 f_b2 l_b c_li0 f_li0 c_li1 f_li1 c_li2 f_li2 c_li3 f_li3 l_li c_e0 f_e0 c_e1 f_e1 c_e2 f_e2 l_e
                    obtain ⟨w12, hw12⟩ : ∃ y, y = (((w11.setCell ⟨w.heap.size, 0, none⟩ (.int .i64 x.Seed)).setCell ⟨w.heap.size, 1, none⟩ (.int .i64 x.Next)).setCell ⟨w.heap.size, 2, none⟩ (.slice A_n (x.Open.length + 1) c_n)) := ⟨_, rfl⟩
                    obtain ⟨o_new, tw12⟩ := var_some [.int .i64 x.Seed, .int .i64 x.Next, .slice A_n (x.Open.length + 1) c_n] 0 _ _ o_r (by simp)
                    rw [show setAll w11 (w.heap.size) 0 [.int .i64 x.Seed, .int .i64 x.Next, .slice A_n (x.Open.length + 1) c_n] = w12 from hw12.symm] at o_new tw12
                    replace o_r : Owns w12 _ (varD 26 3 [.int .i64 x.Seed, .int .i64 x.Next, .slice A_n (x.Open.length + 1) c_n]) _ _ := o_new
                    clear o_new
                    replace o_b := owns_turned o_b tw12 (fun b hb hb2 => by simp at hb hb2; omega)
                    replace o_li := owns_turned o_li tw12 (fun b hb hb2 => by simp at hb hb2; omega)
                    replace o_e := owns_turned o_e tw12 (fun b hb hb2 => by simp at hb hb2; omega)
                    replace o_n := owns_turned o_n tw12 (fun b hb hb2 => by have h1 := i_n b hb; simp at hb2; omega)
                    replace hG := Dv.grown_turned hG tw12 (fun b hb => by simp at hb; omega)
                    replace C := Dv.cur_turned C tw12 (by omega) (by omega)
                    have zw12 := tw12.2.2.2.1
                    rw [← hw12]
                    clear hw12
                    have y0 : w12.cell? ⟨w.heap.size, 0, none⟩ = some (.int .i64 x.Seed) := var_load o_r (by simp) 0 _ rfl
                    have y1 : w12.cell? ⟨w.heap.size, 1, none⟩ = some (.int .i64 x.Next) := var_load o_r (by simp) 1 _ rfl
                    have y2 : w12.cell? ⟨w.heap.size, 2, none⟩ = some (.slice A_n (x.Open.length + 1) c_n) := var_load o_r (by simp) 2 _ rfl
                    refine bodyPost_ret (v := .agg #[.int .i64 x.Seed, .int .i64 x.Next, .slice A_n (x.Open.length + 1) c_n]) (by simp [results, Try.results34, go_sem, y0, y1, y2]) rfl ?_
                    exact drawn_bk ⟨x.Seed, x.Next, x.Open ++ [⟨a - 1, u, 3⟩]⟩ rfl rfl (by simp) (bk_app HX.out (show isI64 (a - 1) from ⟨by omega, by omega⟩) hu (by omega)) o_n n_n C hG
          case gv_7_31 =>
            go_simp
            go_at_call 35
            have HJ := row_lit (P := isI64) [0, -1, 1000005, 1000006] rfl o_li (by simp) (var_lt o_li) (by simp [isI64])
            clear HI
            (refine (int_any isI64 _ _ H0 w6.heap.size 4 C HJ (by omega) (by omega) (by omega)).mono ?_); rintro e w8 ⟨u, rfl, hu, C, gw8⟩
            replace o_r := Dv.owns_drawn o_r gw8 (by omega)
            replace o_b := Dv.owns_drawn o_b gw8 (by omega)
            replace o_li := Dv.owns_drawn o_li gw8 (by omega)
            replace o_y := owns_turned o_y (turned_grown gw8) (fun b hb hb2 => by have h1 := i_y b hb; simp at hb2; omega)
            replace hG := grown_trans hG gw8
            have zw8 := gw8.size
            clear HJ
            refine hK.out _ _ ?_ (fun hHeld => ?_)
            · trivial
            clear hK K
            try simp only [Act.put, List.setIfInBounds_toArray, List.set_cons_zero, List.set_cons_succ]
            refine wpAnyH_take (i := 8) (oi := ?oiv_8_38) (v := ?vv_8_38) ?hiv_8_38 (by kernel_rfl) (by kernel_rfl) (by kernel_rfl) ?hQv_8_38 (Or.inl ⟨?hwv_8_38, ?hyv_8_38⟩) (by assumption) ?_
            case hiv_8_38 => simp only [List.getElem?_toArray, List.getElem?_cons_succ, List.getElem?_cons_zero]; rfl
            case hQv_8_38 => exact fun _ _ _ h => h
            case hwv_8_38 => rfl
            case hyv_8_38 => intro w hSw; (try dsimp only at hSw); (first | (go_simp; done) | (go_simp; with_reducible rfl))
            try simp only [Act.put, List.setIfInBounds_toArray, List.set_cons_zero, List.set_cons_succ]
            refine wpAnyH_ready (rs := [1, 9]) (by kernel_rfl) (by simp) ?_
            refine AllReadyH.cons (o := ?ov_1_39) ?hiv_1_39 (fun K hK => ?gv_1_39) (AllReadyH.cons (o := ?ov_9_39) ?hiv_9_39 (fun K hK => ?gv_9_39) AllReadyH.nil)
            case hiv_1_39 => simp only [List.getElem?_toArray, List.getElem?_cons_succ, List.getElem?_cons_zero]; rfl
            case hiv_9_39 => simp only [List.getElem?_toArray, List.getElem?_cons_succ, List.getElem?_cons_zero]; rfl
            case gv_1_39 =>
              obtain ⟨c_b0, f_b0, c_b1, f_b1, c_b2, f_b2, l_b⟩ := Vn.v3 o_b
              go_simp
              refine hK.out _ _ ?_ (fun hHeld => ?_)
              · trivial
              clear hK K
              try simp only [Act.put, List.setIfInBounds_toArray, List.set_cons_zero, List.set_cons_succ]
              refine wpAnyH_ready (rs := [9]) (by kernel_rfl) (by simp) ?_
              refine AllReadyH.cons (o := ?ov_9_40) ?hiv_9_40 (fun K hK => ?gv_9_40) AllReadyH.nil
              case hiv_9_40 => simp only [List.getElem?_toArray, List.getElem?_cons_succ, List.getElem?_cons_zero]; rfl
              case gv_9_40 =>
                go_simp
                have hgr := var_lt o_b
                have hy6 := Fx.made_in o_y
                clear c_b0 f_b0 c_b1 f_b1 c_b2 f_b2 l_b
                obtain ⟨w9, hw9⟩ : ∃ y, y = w8.alloc (.cells #[.int .i64 (a - 1), .int .i64 u, .int .i64 3] 30) := ⟨_, rfl⟩
                have o_e := var_owns w8 30 3 [.int .i64 (a - 1), .int .i64 u, .int .i64 3] rfl
                have bw9 : Below w8.heap.size w8 w9 := hw9 ▸ (Below.refl _ _).alloc (Nat.le_refl _) _
                rw [← hw9] at o_e ⊢
                have zw9 : w8.heap.size < w9.heap.size := by rw [hw9]; simp
                have gw9 : World.grownBy w8 w9 (some B) := below_grown bw9
                clear hw9
                replace C := cur_below C bw9
                replace o_r := owns_below o_r bw9
                replace o_b := owns_below o_b bw9
                replace o_li := owns_below o_li bw9
                replace o_y := owns_below o_y bw9
                replace hG := grown_trans hG gw9
                have ne : ∀ q, q ∈ [w8.heap.size] → q ∉ s := fun q hq h => by have h1 := hy6 q h; simp at hq; omega
                clear hy6
                refine hK.out _ _ ?_ (fun hHeld => ?_)
                · trivial
                clear hK K
                try simp only [Act.put, List.setIfInBounds_toArray, List.set_cons_zero, List.set_cons_succ]
                refine wpAnyH_ready (rs := [10]) (by kernel_rfl) (by simp) ?_
                refine AllReadyH.cons (o := ?ov_10_41) ?hiv_10_41 (fun K hK => ?gv_10_41) AllReadyH.nil
                case hiv_10_41 => simp only [List.getElem?_toArray, List.getElem?_cons_succ, List.getElem?_cons_zero]; rfl
                case gv_10_41 =>
                  refine Ap.step_app_el elChallenge w9 rfl (.tmp 17) (.tmp 25) rfl w.heap.size _ x.Open.length x.Open s (by simp [Act.eval]) o_y ny (w8.heap.size) 1 ⟨a - 1, u, 3⟩ [.int .i64 (a - 1), .int .i64 u, .int .i64 3] (by simp [Act.eval]) rfl (three (var_load o_e (by simp) 0 _ rfl) (var_load o_e (by simp) 1 _ rfl) (var_load o_e (by simp) 2 _ rfl)) (by intro u hu; simp at hu; rcases hu with rfl | rfl | rfl <;> rfl) w.heap.size [] (ch_owns ⟨a - 1, u, 3⟩) List.nodup_nil (fun y _ h => by cases h) (Nat.le_refl _) (by omega) hG.size ?_
                  intro v_n s_n w10 o_n n_n T_n M_n
                  obtain ⟨A_n, c_n, rfl⟩ := owns_slice o_n
                  have zw10 := T_n.2.2.2.1
                  replace o_r := owns_turned o_r T_n (fun b hb hb2 => by have h1 := i_y b (own_mem o_y b hb2); simp at hb; omega)
                  replace o_b := owns_turned o_b T_n (fun b hb hb2 => by have h1 := i_y b (own_mem o_y b hb2); simp at hb; omega)
                  replace o_li := owns_turned o_li T_n (fun b hb hb2 => by have h1 := i_y b (own_mem o_y b hb2); simp at hb; omega)
                  replace o_e := owns_turned o_e T_n (fun b hb hb2 => ne b hb (own_mem o_y b hb2))
                  replace hG := Dv.grown_turned hG T_n (fun b hb => (Fx.made_in o_y b (own_mem o_y b hb)).1)
                  replace C := cur_off C T_n (fun b hb => by have h1 := i_y b (own_mem o_y b hb); omega)
                  have i_n := Fx.made_in o_n
                  have i_n : ∀ q, q ∈ s_n → w1.heap.size ≤ q ∧ q ≠ w2.heap.size := fun q hq => by have h2 := i_n q hq; rcases M_n q hq with h1 | h1 | h1; exact ⟨(i_y q h1).1, by have := (i_y q h1).2; omega⟩; cases h1; omega
                  clear T_n M_n o_y ny i_y ne
                  refine hK.out _ _ ?_ (fun hHeld => ?_)
                  · trivial
                  clear hK K
                  try simp only [Act.put, List.setIfInBounds_toArray, List.set_cons_zero, List.set_cons_succ]
                  refine wpAnyH_take (i := 11) (oi := ?oiv_11_42) (v := ?vv_11_42) ?hiv_11_42 (by kernel_rfl) (by kernel_rfl) (by kernel_rfl) ?hQv_11_42 (Or.inl ⟨?hwv_11_42, ?hyv_11_42⟩) (by assumption) ?_
                  case hiv_11_42 => simp only [List.getElem?_toArray, List.getElem?_cons_succ, List.getElem?_cons_zero]; rfl
                  case hQv_11_42 => exact fun _ _ _ h => h
                  case hwv_11_42 => rfl
                  case hyv_11_42 => intro w hSw; (try dsimp only at hSw); (first | (go_simp; done) | (go_simp; with_reducible rfl))
                  try simp only [Act.put, List.setIfInBounds_toArray, List.set_cons_zero, List.set_cons_succ]
                  refine wpAnyH_ready (rs := [12]) (by kernel_rfl) (by simp) ?_
                  refine AllReadyH.cons (o := ?ov_12_43) ?hiv_12_43 (fun K hK => ?gv_12_43) AllReadyH.nil
                  case hiv_12_43 => simp only [List.getElem?_toArray, List.getElem?_cons_succ, List.getElem?_cons_zero]; rfl
                  case gv_12_43 =>
                    obtain ⟨c_b0, f_b0, c_b1, f_b1, c_b2, f_b2, l_b⟩ := Vn.v3 o_b
                    go_simp
                    clear c_b0 f_b0 c_b1 f_b1 c_b2 f_b2 l_b
                    obtain ⟨w11, hw11⟩ : ∃ y, y = (w10.setCell ⟨w2.heap.size, 2, none⟩ (.slice A_n (x.Open.length + 1) c_n)) := ⟨_, rfl⟩
                    obtain ⟨o_new, tw11⟩ := var_some [.slice A_n (x.Open.length + 1) c_n] 2 _ _ o_b (by simp)
                    rw [show setAll w10 (w2.heap.size) 2 [.slice A_n (x.Open.length + 1) c_n] = w11 from hw11.symm] at o_new tw11
                    replace o_b : Owns w11 _ (varD 26 3 [.int .i64 x.Seed, .int .i64 x.Next, .slice A_n (x.Open.length + 1) c_n]) _ _ := o_new
                    clear o_new
                    replace o_r := owns_turned o_r tw11 (fun b hb hb2 => by simp at hb hb2; omega)
                    replace o_li := owns_turned o_li tw11 (fun b hb hb2 => by simp at hb hb2; omega)
                    replace o_e := owns_turned o_e tw11 (fun b hb hb2 => by simp at hb hb2; omega)
                    replace o_n := owns_turned o_n tw11 (fun b hb hb2 => by have h1 := i_n b hb; simp at hb2; omega)
                    replace hG := Dv.grown_turned hG tw11 (fun b hb => by simp at hb; omega)
                    replace C := Dv.cur_turned C tw11 (by omega) (by omega)
                    have zw11 := tw11.2.2.2.1
                    rw [← hw11]
                    clear hw11
                    refine hK.out _ _ ?_ (fun hHeld => ?_)
                    · trivial
                    clear hK K
                    try simp only [Act.put, List.setIfInBounds_toArray, List.set_cons_zero, List.set_cons_succ]
                    refine wpAnyH_done (by kernel_rfl) ?_ _
                    obtain ⟨c_r0, f_r0, c_r1, f_r1, c_r2, f_r2, l_r⟩ := Vn.v3 o_r
                    obtain ⟨c_b0, f_b0, c_b1, f_b1, c_b2, f_b2, l_b⟩ := Vn.v3 o_b
                    obtain ⟨c_li0, f_li0, c_li1, f_li1, c_li2, f_li2, c_li3, f_li3, l_li⟩ := Vn.v4 o_li
                    obtain ⟨c_e0, f_e0, c_e1, f_e1, c_e2, f_e2, l_e⟩ := Vn.v3 o_e
                    go_wp2
                    clear c_r0 f_r0 c_r1 f_r1 c_r2 f_r2 l_r c_b0 f_b0 c_b1 f_b1 c_b2 f_b2 l_b c_li0 f_li0 c_li1 f_li1 c_li2 f_li2 c_li3 f_li3 l_li c_e0 f_e0 c_e1 f_e1 c_e2 f_e2 l_e
                    obtain ⟨w12, hw12⟩ : ∃ y, y = (((w11.setCell ⟨w.heap.size, 0, none⟩ (.int .i64 x.Seed)).setCell ⟨w.heap.size, 1, none⟩ (.int .i64 x.Next)).setCell ⟨w.heap.size, 2, none⟩ (.slice A_n (x.Open.length + 1) c_n)) := ⟨_, rfl⟩
                    obtain ⟨o_new, tw12⟩ := var_some [.int .i64 x.Seed, .int .i64 x.Next, .slice A_n (x.Open.length + 1) c_n] 0 _ _ o_r (by simp)
                    rw [show setAll w11 (w.heap.size) 0 [.int .i64 x.Seed, .int .i64 x.Next, .slice A_n (x.Open.length + 1) c_n] = w12 from hw12.symm] at o_new tw12
                    replace o_r : Owns w12 _ (varD 26 3 [.int .i64 x.Seed, .int .i64 x.Next, .slice A_n (x.Open.length + 1) c_n]) _ _ := o_new
                    clear o_new
                    replace o_b := owns_turned o_b tw12 (fun b hb hb2 => by simp at hb hb2; omega)
                    replace o_li := owns_turned o_li tw12 (fun b hb hb2 => by simp at hb hb2; omega)
                    replace o_e := owns_turned o_e tw12 (fun b hb hb2 => by simp at hb hb2; omega)
                    replace o_n := owns_turned o_n tw12 (fun b hb hb2 => by have h1 := i_n b hb; simp at hb2; omega)
                    replace hG := Dv.grown_turned hG tw12 (fun b hb => by simp at hb; omega)
                    replace C := Dv.cur_turned C tw12 (by omega) (by omega)
                    have zw12 := tw12.2.2.2.1
                    rw [← hw12]
                    clear hw12
                    have y0 : w12.cell? ⟨w.heap.size, 0, none⟩ = some (.int .i64 x.Seed) := var_load o_r (by simp) 0 _ rfl
                    have y1 : w12.cell? ⟨w.heap.size, 1, none⟩ = some (.int .i64 x.Next) := var_load o_r (by simp) 1 _ rfl
                    have y2 : w12.cell? ⟨w.heap.size, 2, none⟩ = some (.slice A_n (x.Open.length + 1) c_n) := var_load o_r (by simp) 2 _ rfl
                    refine bodyPost_ret (v := .agg #[.int .i64 x.Seed, .int .i64 x.Next, .slice A_n (x.Open.length + 1) c_n]) (by simp [results, Try.results34, go_sem, y0, y1, y2]) rfl ?_
                    exact drawn_bk ⟨x.Seed, x.Next, x.Open ++ [⟨a - 1, u, 3⟩]⟩ rfl rfl (by simp) (bk_app HX.out (show isI64 (a - 1) from ⟨by omega, by omega⟩) hu (by omega)) o_n n_n C hG
            case gv_9_39 =>
              go_simp
              have hgr := var_lt o_b
              have hy6 := Fx.made_in o_y
              obtain ⟨w9, hw9⟩ : ∃ y, y = w8.alloc (.cells #[.int .i64 (a - 1), .int .i64 u, .int .i64 3] 30) := ⟨_, rfl⟩
              have o_e := var_owns w8 30 3 [.int .i64 (a - 1), .int .i64 u, .int .i64 3] rfl
              have bw9 : Below w8.heap.size w8 w9 := hw9 ▸ (Below.refl _ _).alloc (Nat.le_refl _) _
              rw [← hw9] at o_e ⊢
              have zw9 : w8.heap.size < w9.heap.size := by rw [hw9]; simp
              have gw9 : World.grownBy w8 w9 (some B) := below_grown bw9
              clear hw9
              replace C := cur_below C bw9
              replace o_r := owns_below o_r bw9
              replace o_b := owns_below o_b bw9
              replace o_li := owns_below o_li bw9
              replace o_y := owns_below o_y bw9
              replace hG := grown_trans hG gw9
              have ne : ∀ q, q ∈ [w8.heap.size] → q ∉ s := fun q hq h => by have h1 := hy6 q h; simp at hq; omega
              clear hy6
              refine hK.out _ _ ?_ (fun hHeld => ?_)
              · trivial
              clear hK K
              try simp only [Act.put, List.setIfInBounds_toArray, List.set_cons_zero, List.set_cons_succ]
              refine wpAnyH_ready (rs := [1]) (by kernel_rfl) (by simp) ?_
              refine AllReadyH.cons (o := ?ov_1_44) ?hiv_1_44 (fun K hK => ?gv_1_44) AllReadyH.nil
              case hiv_1_44 => simp only [List.getElem?_toArray, List.getElem?_cons_succ, List.getElem?_cons_zero]; rfl
              case gv_1_44 =>
                obtain ⟨c_b0, f_b0, c_b1, f_b1, c_b2, f_b2, l_b⟩ := Vn.v3 o_b
                go_simp
                refine hK.out _ _ ?_ (fun hHeld => ?_)
                · trivial
                clear hK K
                try simp only [Act.put, List.setIfInBounds_toArray, List.set_cons_zero, List.set_cons_succ]
                refine wpAnyH_ready (rs := [10]) (by kernel_rfl) (by simp) ?_
                refine AllReadyH.cons (o := ?ov_10_45) ?hiv_10_45 (fun K hK => ?gv_10_45) AllReadyH.nil
                case hiv_10_45 => simp only [List.getElem?_toArray, List.getElem?_cons_succ, List.getElem?_cons_zero]; rfl
                case gv_10_45 =>
                  clear c_b0 f_b0 c_b1 f_b1 c_b2 f_b2 l_b
                  refine Ap.step_app_el elChallenge w9 rfl (.tmp 17) (.tmp 25) rfl w.heap.size _ x.Open.length x.Open s (by simp [Act.eval]) o_y ny (w8.heap.size) 1 ⟨a - 1, u, 3⟩ [.int .i64 (a - 1), .int .i64 u, .int .i64 3] (by simp [Act.eval]) rfl (three (var_load o_e (by simp) 0 _ rfl) (var_load o_e (by simp) 1 _ rfl) (var_load o_e (by simp) 2 _ rfl)) (by intro u hu; simp at hu; rcases hu with rfl | rfl | rfl <;> rfl) w.heap.size [] (ch_owns ⟨a - 1, u, 3⟩) List.nodup_nil (fun y _ h => by cases h) (Nat.le_refl _) (by omega) hG.size ?_
                  intro v_n s_n w10 o_n n_n T_n M_n
                  obtain ⟨A_n, c_n, rfl⟩ := owns_slice o_n
                  have zw10 := T_n.2.2.2.1
                  replace o_r := owns_turned o_r T_n (fun b hb hb2 => by have h1 := i_y b (own_mem o_y b hb2); simp at hb; omega)
                  replace o_b := owns_turned o_b T_n (fun b hb hb2 => by have h1 := i_y b (own_mem o_y b hb2); simp at hb; omega)
                  replace o_li := owns_turned o_li T_n (fun b hb hb2 => by have h1 := i_y b (own_mem o_y b hb2); simp at hb; omega)
                  replace o_e := owns_turned o_e T_n (fun b hb hb2 => ne b hb (own_mem o_y b hb2))
                  replace hG := Dv.grown_turned hG T_n (fun b hb => (Fx.made_in o_y b (own_mem o_y b hb)).1)
                  replace C := cur_off C T_n (fun b hb => by have h1 := i_y b (own_mem o_y b hb); omega)
                  have i_n := Fx.made_in o_n
                  have i_n : ∀ q, q ∈ s_n → w1.heap.size ≤ q ∧ q ≠ w2.heap.size := fun q hq => by have h2 := i_n q hq; rcases M_n q hq with h1 | h1 | h1; exact ⟨(i_y q h1).1, by have := (i_y q h1).2; omega⟩; cases h1; omega
                  clear T_n M_n o_y ny i_y ne
                  refine hK.out _ _ ?_ (fun hHeld => ?_)
                  · trivial
                  clear hK K
                  try simp only [Act.put, List.setIfInBounds_toArray, List.set_cons_zero, List.set_cons_succ]
                  refine wpAnyH_take (i := 11) (oi := ?oiv_11_46) (v := ?vv_11_46) ?hiv_11_46 (by kernel_rfl) (by kernel_rfl) (by kernel_rfl) ?hQv_11_46 (Or.inl ⟨?hwv_11_46, ?hyv_11_46⟩) (by assumption) ?_
                  case hiv_11_46 => simp only [List.getElem?_toArray, List.getElem?_cons_succ, List.getElem?_cons_zero]; rfl
                  case hQv_11_46 => exact fun _ _ _ h => h
                  case hwv_11_46 => rfl
                  case hyv_11_46 => intro w hSw; (try dsimp only at hSw); (first | (go_simp; done) | (go_simp; with_reducible rfl))
                  try simp only [Act.put, List.setIfInBounds_toArray, List.set_cons_zero, List.set_cons_succ]
                  refine wpAnyH_ready (rs := [12]) (by kernel_rfl) (by simp) ?_
                  refine AllReadyH.cons (o := ?ov_12_47) ?hiv_12_47 (fun K hK => ?gv_12_47) AllReadyH.nil
                  case hiv_12_47 => simp only [List.getElem?_toArray, List.getElem?_cons_succ, List.getElem?_cons_zero]; rfl
                  case gv_12_47 =>
                    obtain ⟨c_b0, f_b0, c_b1, f_b1, c_b2, f_b2, l_b⟩ := Vn.v3 o_b
                    go_simp
                    clear c_b0 f_b0 c_b1 f_b1 c_b2 f_b2 l_b
                    obtain ⟨w11, hw11⟩ : ∃ y, y = (w10.setCell ⟨w2.heap.size, 2, none⟩ (.slice A_n (x.Open.length + 1) c_n)) := ⟨_, rfl⟩
                    obtain ⟨o_new, tw11⟩ := var_some [.slice A_n (x.Open.length + 1) c_n] 2 _ _ o_b (by simp)
                    rw [show setAll w10 (w2.heap.size) 2 [.slice A_n (x.Open.length + 1) c_n] = w11 from hw11.symm] at o_new tw11
                    replace o_b : Owns w11 _ (varD 26 3 [.int .i64 x.Seed, .int .i64 x.Next, .slice A_n (x.Open.length + 1) c_n]) _ _ := o_new
                    clear o_new
                    replace o_r := owns_turned o_r tw11 (fun b hb hb2 => by simp at hb hb2; omega)
                    replace o_li := owns_turned o_li tw11 (fun b hb hb2 => by simp at hb hb2; omega)
                    replace o_e := owns_turned o_e tw11 (fun b hb hb2 => by simp at hb hb2; omega)
                    replace o_n := owns_turned o_n tw11 (fun b hb hb2 => by have h1 := i_n b hb; simp at hb2; omega)
                    replace hG := Dv.grown_turned hG tw11 (fun b hb => by simp at hb; omega)
                    replace C := Dv.cur_turned C tw11 (by omega) (by omega)
                    have zw11 := tw11.2.2.2.1
                    rw [← hw11]
                    clear hw11
                    refine hK.out _ _ ?_ (fun hHeld => ?_)
                    · trivial
                    clear hK K
                    try simp only [Act.put, List.setIfInBounds_toArray, List.set_cons_zero, List.set_cons_succ]
                    refine wpAnyH_done (by kernel_rfl) ?_ _
                    obtain ⟨c_r0, f_r0, c_r1, f_r1, c_r2, f_r2, l_r⟩ := Vn.v3 o_r
                    obtain ⟨c_b0, f_b0, c_b1, f_b1, c_b2, f_b2, l_b⟩ := Vn.v3 o_b
                    obtain ⟨c_li0, f_li0, c_li1, f_li1, c_li2, f_li2, c_li3, f_li3, l_li⟩ := Vn.v4 o_li
                    obtain ⟨c_e0, f_e0, c_e1, f_e1, c_e2, f_e2, l_e⟩ := Vn.v3 o_e
                    go_wp2
                    clear c_r0 f_r0 c_r1 f_r1 c_r2 f_r2 l_r c_b0 f_b0 c_b1 f_b1 c_b2 f_b2 l_b c_li0 f_li0 c_li1 f_li1 c_li2 f_li2 c_li3 f_li3 l_li c_e0 f_e0 c_e1 f_e1 c_e2 f_e2 l_e
                    obtain ⟨w12, hw12⟩ : ∃ y, y = (((w11.setCell ⟨w.heap.size, 0, none⟩ (.int .i64 x.Seed)).setCell ⟨w.heap.size, 1, none⟩ (.int .i64 x.Next)).setCell ⟨w.heap.size, 2, none⟩ (.slice A_n (x.Open.length + 1) c_n)) := ⟨_, rfl⟩
                    obtain ⟨o_new, tw12⟩ := var_some [.int .i64 x.Seed, .int .i64 x.Next, .slice A_n (x.Open.length + 1) c_n] 0 _ _ o_r (by simp)
                    rw [show setAll w11 (w.heap.size) 0 [.int .i64 x.Seed, .int .i64 x.Next, .slice A_n (x.Open.length + 1) c_n] = w12 from hw12.symm] at o_new tw12
                    replace o_r : Owns w12 _ (varD 26 3 [.int .i64 x.Seed, .int .i64 x.Next, .slice A_n (x.Open.length + 1) c_n]) _ _ := o_new
                    clear o_new
                    replace o_b := owns_turned o_b tw12 (fun b hb hb2 => by simp at hb hb2; omega)
                    replace o_li := owns_turned o_li tw12 (fun b hb hb2 => by simp at hb hb2; omega)
                    replace o_e := owns_turned o_e tw12 (fun b hb hb2 => by simp at hb hb2; omega)
                    replace o_n := owns_turned o_n tw12 (fun b hb hb2 => by have h1 := i_n b hb; simp at hb2; omega)
                    replace hG := Dv.grown_turned hG tw12 (fun b hb => by simp at hb; omega)
                    replace C := Dv.cur_turned C tw12 (by omega) (by omega)
                    have zw12 := tw12.2.2.2.1
                    rw [← hw12]
                    clear hw12
                    have y0 : w12.cell? ⟨w.heap.size, 0, none⟩ = some (.int .i64 x.Seed) := var_load o_r (by simp) 0 _ rfl
                    have y1 : w12.cell? ⟨w.heap.size, 1, none⟩ = some (.int .i64 x.Next) := var_load o_r (by simp) 1 _ rfl
                    have y2 : w12.cell? ⟨w.heap.size, 2, none⟩ = some (.slice A_n (x.Open.length + 1) c_n) := var_load o_r (by simp) 2 _ rfl
                    refine bodyPost_ret (v := .agg #[.int .i64 x.Seed, .int .i64 x.Next, .slice A_n (x.Open.length + 1) c_n]) (by simp [results, Try.results34, go_sem, y0, y1, y2]) rfl ?_
                    exact drawn_bk ⟨x.Seed, x.Next, x.Open ++ [⟨a - 1, u, 3⟩]⟩ rfl rfl (by simp) (bk_app HX.out (show isI64 (a - 1) from ⟨by omega, by omega⟩) hu (by omega)) o_n n_n C hG
      case gv_6_4 =>
        go_simp
        obtain ⟨w6, hw6⟩ : ∃ y, y = w5.alloc (.cells #[.int .i64 (0), .int .i64 (-1), .int .i64 (1000005), .int .i64 (1000006)] 3) := ⟨_, rfl⟩
        have o_li := var_owns w5 3 4 [.int .i64 (0), .int .i64 (-1), .int .i64 (1000005), .int .i64 (1000006)] rfl
        have bw6 : Below w5.heap.size w5 w6 := hw6 ▸ (Below.refl _ _).alloc (Nat.le_refl _) _
        rw [← hw6] at o_li ⊢
        have zw6 : w5.heap.size < w6.heap.size := by rw [hw6]; simp
        have gw6 : World.grownBy w5 w6 (some B) := below_grown bw6
        clear hw6
        replace C := cur_below C bw6
        replace o_r := owns_below o_r bw6
        replace o_b := owns_below o_b bw6
        replace o_y := owns_below o_y bw6
        replace hG := grown_trans hG gw6
        have HI := Lib.hid (row_lit (P := isI64) [0, -1, 1000005, 1000006] rfl o_li (by simp) (var_lt o_li) (by simp [isI64]))
        refine hK.out _ _ ?_ (fun hHeld => ?_)
        · trivial
        clear hK K
        try simp only [Act.put, List.setIfInBounds_toArray, List.set_cons_zero, List.set_cons_succ]
        refine wpAnyH_ready (rs := [1, 3]) (by kernel_rfl) (by simp) ?_
        refine AllReadyH.cons (o := ?ov_1_48) ?hiv_1_48 (fun K hK => ?gv_1_48) (AllReadyH.cons (o := ?ov_3_48) ?hiv_3_48 (fun K hK => ?gv_3_48) AllReadyH.nil)
        case hiv_1_48 => simp only [List.getElem?_toArray, List.getElem?_cons_succ, List.getElem?_cons_zero]; rfl
        case hiv_3_48 => simp only [List.getElem?_toArray, List.getElem?_cons_succ, List.getElem?_cons_zero]; rfl
        case gv_1_48 =>
          obtain ⟨c_b0, f_b0, c_b1, f_b1, c_b2, f_b2, l_b⟩ := Vn.v3 o_b
          go_simp
          refine hK.out _ _ ?_ (fun hHeld => ?_)
          · trivial
          clear hK K
          try simp only [Act.put, List.setIfInBounds_toArray, List.set_cons_zero, List.set_cons_succ]
          refine wpAnyH_ready (rs := [3]) (by kernel_rfl) (by simp) ?_
          refine AllReadyH.cons (o := ?ov_3_49) ?hiv_3_49 (fun K hK => ?gv_3_49) AllReadyH.nil
          case hiv_3_49 => simp only [List.getElem?_toArray, List.getElem?_cons_succ, List.getElem?_cons_zero]; rfl
          case gv_3_49 =>
            go_simp
            go_at_call 57
            (with_reducible refine (below_any _ _ H0 30 C).mono ?_); rintro e w7 ⟨a, rfl, ⟨ha0, ha1⟩, C, gw7⟩
            clear c_b0 f_b0 c_b1 f_b1 c_b2 f_b2 l_b
            replace o_r := Dv.owns_drawn o_r gw7 (by omega)
            replace o_b := Dv.owns_drawn o_b gw7 (by omega)
            replace o_li := Dv.owns_drawn o_li gw7 (by omega)
            replace o_y := owns_turned o_y (turned_grown gw7) (fun b hb hb2 => by have h1 := i_y b hb; simp at hb2; omega)
            replace hG := grown_trans hG gw7
            have zw7 := gw7.size
            replace ha1 : a ≤ 29 := by omega
            have hwr : IntKind.i64.wrap (a - 1) = a - 1 := IntWalk.i64_in _ (by omega)
            refine hK.out _ _ ?_ (fun hHeld => ?_)
            · trivial
            clear hK K
            try simp only [Act.put, List.setIfInBounds_toArray, List.set_cons_zero, List.set_cons_succ]
            refine wpAnyH_take (i := 4) (oi := ?oiv_4_50) (v := ?vv_4_50) ?hiv_4_50 (by kernel_rfl) (by kernel_rfl) (by kernel_rfl) ?hQv_4_50 (Or.inl ⟨?hwv_4_50, ?hyv_4_50⟩) (by assumption) ?_
            case hiv_4_50 => simp only [List.getElem?_toArray, List.getElem?_cons_succ, List.getElem?_cons_zero]; rfl
            case hQv_4_50 => exact fun _ _ _ h => h
            case hwv_4_50 => rfl
            case hyv_4_50 => intro w hSw; (try dsimp only at hSw); (first | (go_simp; done) | (go_simp; with_reducible rfl))
            try simp only [Act.put, List.setIfInBounds_toArray, List.set_cons_zero, List.set_cons_succ]
            refine wpAnyH_ready (rs := [7]) (by kernel_rfl) (by simp) ?_
            refine AllReadyH.cons (o := ?ov_7_51) ?hiv_7_51 (fun K hK => ?gv_7_51) AllReadyH.nil
            case hiv_7_51 => simp only [List.getElem?_toArray, List.getElem?_cons_succ, List.getElem?_cons_zero]; rfl
            case gv_7_51 =>
              go_simp
              go_at_call 35
              have HJ := row_lit (P := isI64) [0, -1, 1000005, 1000006] rfl o_li (by simp) (var_lt o_li) (by simp [isI64])
              clear HI
              (refine (int_any isI64 _ _ H0 w5.heap.size 4 C HJ (by omega) (by omega) (by omega)).mono ?_); rintro e w8 ⟨u, rfl, hu, C, gw8⟩
              replace o_r := Dv.owns_drawn o_r gw8 (by omega)
              replace o_b := Dv.owns_drawn o_b gw8 (by omega)
              replace o_li := Dv.owns_drawn o_li gw8 (by omega)
              replace o_y := owns_turned o_y (turned_grown gw8) (fun b hb hb2 => by have h1 := i_y b hb; simp at hb2; omega)
              replace hG := grown_trans hG gw8
              have zw8 := gw8.size
              clear HJ
              refine hK.out _ _ ?_ (fun hHeld => ?_)
              · trivial
              clear hK K
              try simp only [Act.put, List.setIfInBounds_toArray, List.set_cons_zero, List.set_cons_succ]
              refine wpAnyH_take (i := 8) (oi := ?oiv_8_52) (v := ?vv_8_52) ?hiv_8_52 (by kernel_rfl) (by kernel_rfl) (by kernel_rfl) ?hQv_8_52 (Or.inl ⟨?hwv_8_52, ?hyv_8_52⟩) (by assumption) ?_
              case hiv_8_52 => simp only [List.getElem?_toArray, List.getElem?_cons_succ, List.getElem?_cons_zero]; rfl
              case hQv_8_52 => exact fun _ _ _ h => h
              case hwv_8_52 => rfl
              case hyv_8_52 => intro w hSw; (try dsimp only at hSw); (first | (go_simp; done) | (go_simp; with_reducible rfl))
              try simp only [Act.put, List.setIfInBounds_toArray, List.set_cons_zero, List.set_cons_succ]
              refine wpAnyH_ready (rs := [9]) (by kernel_rfl) (by simp) ?_
              refine AllReadyH.cons (o := ?ov_9_53) ?hiv_9_53 (fun K hK => ?gv_9_53) AllReadyH.nil
              case hiv_9_53 => simp only [List.getElem?_toArray, List.getElem?_cons_succ, List.getElem?_cons_zero]; rfl
              case gv_9_53 =>
                go_simp
                have hgr := var_lt o_b
                have hy6 := Fx.made_in o_y
                obtain ⟨w9, hw9⟩ : ∃ y, y = w8.alloc (.cells #[.int .i64 (a - 1), .int .i64 u, .int .i64 3] 30) := ⟨_, rfl⟩
                have o_e := var_owns w8 30 3 [.int .i64 (a - 1), .int .i64 u, .int .i64 3] rfl
                have bw9 : Below w8.heap.size w8 w9 := hw9 ▸ (Below.refl _ _).alloc (Nat.le_refl _) _
                rw [← hw9] at o_e ⊢
                have zw9 : w8.heap.size < w9.heap.size := by rw [hw9]; simp
                have gw9 : World.grownBy w8 w9 (some B) := below_grown bw9
                clear hw9
                replace C := cur_below C bw9
                replace o_r := owns_below o_r bw9
                replace o_b := owns_below o_b bw9
                replace o_li := owns_below o_li bw9
                replace o_y := owns_below o_y bw9
                replace hG := grown_trans hG gw9
                have ne : ∀ q, q ∈ [w8.heap.size] → q ∉ s := fun q hq h => by have h1 := hy6 q h; simp at hq; omega
                clear hy6
                refine hK.out _ _ ?_ (fun hHeld => ?_)
                · trivial
                clear hK K
                try simp only [Act.put, List.setIfInBounds_toArray, List.set_cons_zero, List.set_cons_succ]
                refine wpAnyH_ready (rs := [10]) (by kernel_rfl) (by simp) ?_
                refine AllReadyH.cons (o := ?ov_10_54) ?hiv_10_54 (fun K hK => ?gv_10_54) AllReadyH.nil
                case hiv_10_54 => simp only [List.getElem?_toArray, List.getElem?_cons_succ, List.getElem?_cons_zero]; rfl
                case gv_10_54 =>
                  refine Ap.step_app_el elChallenge w9 rfl (.tmp 17) (.tmp 25) rfl w.heap.size _ x.Open.length x.Open s (by simp [Act.eval]) o_y ny (w8.heap.size) 1 ⟨a - 1, u, 3⟩ [.int .i64 (a - 1), .int .i64 u, .int .i64 3] (by simp [Act.eval]) rfl (three (var_load o_e (by simp) 0 _ rfl) (var_load o_e (by simp) 1 _ rfl) (var_load o_e (by simp) 2 _ rfl)) (by intro u hu; simp at hu; rcases hu with rfl | rfl | rfl <;> rfl) w.heap.size [] (ch_owns ⟨a - 1, u, 3⟩) List.nodup_nil (fun y _ h => by cases h) (Nat.le_refl _) (by omega) hG.size ?_
                  intro v_n s_n w10 o_n n_n T_n M_n
                  obtain ⟨A_n, c_n, rfl⟩ := owns_slice o_n
                  have zw10 := T_n.2.2.2.1
                  replace o_r := owns_turned o_r T_n (fun b hb hb2 => by have h1 := i_y b (own_mem o_y b hb2); simp at hb; omega)
                  replace o_b := owns_turned o_b T_n (fun b hb hb2 => by have h1 := i_y b (own_mem o_y b hb2); simp at hb; omega)
                  replace o_li := owns_turned o_li T_n (fun b hb hb2 => by have h1 := i_y b (own_mem o_y b hb2); simp at hb; omega)
                  replace o_e := owns_turned o_e T_n (fun b hb hb2 => ne b hb (own_mem o_y b hb2))
                  replace hG := Dv.grown_turned hG T_n (fun b hb => (Fx.made_in o_y b (own_mem o_y b hb)).1)
                  replace C := cur_off C T_n (fun b hb => by have h1 := i_y b (own_mem o_y b hb); omega)
                  have i_n := Fx.made_in o_n
                  have i_n : ∀ q, q ∈ s_n → w1.heap.size ≤ q ∧ q ≠ w2.heap.size := fun q hq => by have h2 := i_n q hq; rcases M_n q hq with h1 | h1 | h1; exact ⟨(i_y q h1).1, by have := (i_y q h1).2; omega⟩; cases h1; omega
                  clear T_n M_n o_y ny i_y ne
                  refine hK.out _ _ ?_ (fun hHeld => ?_)
                  · trivial
                  clear hK K
                  try simp only [Act.put, List.setIfInBounds_toArray, List.set_cons_zero, List.set_cons_succ]
                  refine wpAnyH_take (i := 11) (oi := ?oiv_11_55) (v := ?vv_11_55) ?hiv_11_55 (by kernel_rfl) (by kernel_rfl) (by kernel_rfl) ?hQv_11_55 (Or.inl ⟨?hwv_11_55, ?hyv_11_55⟩) (by assumption) ?_
                  case hiv_11_55 => simp only [List.getElem?_toArray, List.getElem?_cons_succ, List.getElem?_cons_zero]; rfl
                  case hQv_11_55 => exact fun _ _ _ h => h
                  case hwv_11_55 => rfl
                  case hyv_11_55 => intro w hSw; (try dsimp only at hSw); (first | (go_simp; done) | (go_simp; with_reducible rfl))
                  try simp only [Act.put, List.setIfInBounds_toArray, List.set_cons_zero, List.set_cons_succ]
                  refine wpAnyH_ready (rs := [12]) (by kernel_rfl) (by simp) ?_
                  refine AllReadyH.cons (o := ?ov_12_56) ?hiv_12_56 (fun K hK => ?gv_12_56) AllReadyH.nil
                  case hiv_12_56 => simp only [List.getElem?_toArray, List.getElem?_cons_succ, List.getElem?_cons_zero]; rfl
                  case gv_12_56 =>
                    obtain ⟨c_b0, f_b0, c_b1, f_b1, c_b2, f_b2, l_b⟩ := Vn.v3 o_b
                    go_simp
                    clear c_b0 f_b0 c_b1 f_b1 c_b2 f_b2 l_b
                    obtain ⟨w11, hw11⟩ : ∃ y, y = (w10.setCell ⟨w2.heap.size, 2, none⟩ (.slice A_n (x.Open.length + 1) c_n)) := ⟨_, rfl⟩
                    obtain ⟨o_new, tw11⟩ := var_some [.slice A_n (x.Open.length + 1) c_n] 2 _ _ o_b (by simp)
                    rw [show setAll w10 (w2.heap.size) 2 [.slice A_n (x.Open.length + 1) c_n] = w11 from hw11.symm] at o_new tw11
                    replace o_b : Owns w11 _ (varD 26 3 [.int .i64 x.Seed, .int .i64 x.Next, .slice A_n (x.Open.length + 1) c_n]) _ _ := o_new
                    clear o_new
                    replace o_r := owns_turned o_r tw11 (fun b hb hb2 => by simp at hb hb2; omega)
                    replace o_li := owns_turned o_li tw11 (fun b hb hb2 => by simp at hb hb2; omega)
                    replace o_e := owns_turned o_e tw11 (fun b hb hb2 => by simp at hb hb2; omega)
                    replace o_n := owns_turned o_n tw11 (fun b hb hb2 => by have h1 := i_n b hb; simp at hb2; omega)
                    replace hG := Dv.grown_turned hG tw11 (fun b hb => by simp at hb; omega)
                    replace C := Dv.cur_turned C tw11 (by omega) (by omega)
                    have zw11 := tw11.2.2.2.1
                    rw [← hw11]
                    clear hw11
                    refine hK.out _ _ ?_ (fun hHeld => ?_)
                    · trivial
                    clear hK K
                    try simp only [Act.put, List.setIfInBounds_toArray, List.set_cons_zero, List.set_cons_succ]
                    refine wpAnyH_done (by kernel_rfl) ?_ _
                    obtain ⟨c_r0, f_r0, c_r1, f_r1, c_r2, f_r2, l_r⟩ := Vn.v3 o_r
                    obtain ⟨c_b0, f_b0, c_b1, f_b1, c_b2, f_b2, l_b⟩ := Vn.v3 o_b
                    obtain ⟨c_li0, f_li0, c_li1, f_li1, c_li2, f_li2, c_li3, f_li3, l_li⟩ := Vn.v4 o_li
                    obtain ⟨c_e0, f_e0, c_e1, f_e1, c_e2, f_e2, l_e⟩ := Vn.v3 o_e
                    go_wp2
                    clear c_r0 f_r0 c_r1 f_r1 c_r2 f_r2 l_r c_b0 f_b0 c_b1 f_b1 c_b2 f_b2 l_b c_li0 f_li0 c_li1 f_li1 c_li2 f_li2 c_li3 f_li3 l_li c_e0 f_e0 c_e1 f_e1 c_e2 f_e2 l_e
                    obtain ⟨w12, hw12⟩ : ∃ y, y = (((w11.setCell ⟨w.heap.size, 0, none⟩ (.int .i64 x.Seed)).setCell ⟨w.heap.size, 1, none⟩ (.int .i64 x.Next)).setCell ⟨w.heap.size, 2, none⟩ (.slice A_n (x.Open.length + 1) c_n)) := ⟨_, rfl⟩
                    obtain ⟨o_new, tw12⟩ := var_some [.int .i64 x.Seed, .int .i64 x.Next, .slice A_n (x.Open.length + 1) c_n] 0 _ _ o_r (by simp)
                    rw [show setAll w11 (w.heap.size) 0 [.int .i64 x.Seed, .int .i64 x.Next, .slice A_n (x.Open.length + 1) c_n] = w12 from hw12.symm] at o_new tw12
                    replace o_r : Owns w12 _ (varD 26 3 [.int .i64 x.Seed, .int .i64 x.Next, .slice A_n (x.Open.length + 1) c_n]) _ _ := o_new
                    clear o_new
                    replace o_b := owns_turned o_b tw12 (fun b hb hb2 => by simp at hb hb2; omega)
                    replace o_li := owns_turned o_li tw12 (fun b hb hb2 => by simp at hb hb2; omega)
                    replace o_e := owns_turned o_e tw12 (fun b hb hb2 => by simp at hb hb2; omega)
                    replace o_n := owns_turned o_n tw12 (fun b hb hb2 => by have h1 := i_n b hb; simp at hb2; omega)
                    replace hG := Dv.grown_turned hG tw12 (fun b hb => by simp at hb; omega)
                    replace C := Dv.cur_turned C tw12 (by omega) (by omega)
                    have zw12 := tw12.2.2.2.1
                    rw [← hw12]
                    clear hw12
                    have y0 : w12.cell? ⟨w.heap.size, 0, none⟩ = some (.int .i64 x.Seed) := var_load o_r (by simp) 0 _ rfl
                    have y1 : w12.cell? ⟨w.heap.size, 1, none⟩ = some (.int .i64 x.Next) := var_load o_r (by simp) 1 _ rfl
                    have y2 : w12.cell? ⟨w.heap.size, 2, none⟩ = some (.slice A_n (x.Open.length + 1) c_n) := var_load o_r (by simp) 2 _ rfl
                    refine bodyPost_ret (v := .agg #[.int .i64 x.Seed, .int .i64 x.Next, .slice A_n (x.Open.length + 1) c_n]) (by simp [results, Try.results34, go_sem, y0, y1, y2]) rfl ?_
                    exact drawn_bk ⟨x.Seed, x.Next, x.Open ++ [⟨a - 1, u, 3⟩]⟩ rfl rfl (by simp) (bk_app HX.out (show isI64 (a - 1) from ⟨by omega, by omega⟩) hu (by omega)) o_n n_n C hG
        case gv_3_48 =>
          go_simp
          go_at_call 57
          (with_reducible refine (below_any _ _ H0 30 C).mono ?_); rintro e w7 ⟨a, rfl, ⟨ha0, ha1⟩, C, gw7⟩
          replace o_r := Dv.owns_drawn o_r gw7 (by omega)
          replace o_b := Dv.owns_drawn o_b gw7 (by omega)
          replace o_li := Dv.owns_drawn o_li gw7 (by omega)
          replace o_y := owns_turned o_y (turned_grown gw7) (fun b hb hb2 => by have h1 := i_y b hb; simp at hb2; omega)
          replace hG := grown_trans hG gw7
          have zw7 := gw7.size
          replace ha1 : a ≤ 29 := by omega
          have hwr : IntKind.i64.wrap (a - 1) = a - 1 := IntWalk.i64_in _ (by omega)
          refine hK.out _ _ ?_ (fun hHeld => ?_)
          · trivial
          clear hK K
          try simp only [Act.put, List.setIfInBounds_toArray, List.set_cons_zero, List.set_cons_succ]
          refine wpAnyH_take (i := 4) (oi := ?oiv_4_57) (v := ?vv_4_57) ?hiv_4_57 (by kernel_rfl) (by kernel_rfl) (by kernel_rfl) ?hQv_4_57 (Or.inl ⟨?hwv_4_57, ?hyv_4_57⟩) (by assumption) ?_
          case hiv_4_57 => simp only [List.getElem?_toArray, List.getElem?_cons_succ, List.getElem?_cons_zero]; rfl
          case hQv_4_57 => exact fun _ _ _ h => h
          case hwv_4_57 => rfl
          case hyv_4_57 => intro w hSw; (try dsimp only at hSw); (first | (go_simp; done) | (go_simp; with_reducible rfl))
          try simp only [Act.put, List.setIfInBounds_toArray, List.set_cons_zero, List.set_cons_succ]
          refine wpAnyH_ready (rs := [1, 7]) (by kernel_rfl) (by simp) ?_
          refine AllReadyH.cons (o := ?ov_1_58) ?hiv_1_58 (fun K hK => ?gv_1_58) (AllReadyH.cons (o := ?ov_7_58) ?hiv_7_58 (fun K hK => ?gv_7_58) AllReadyH.nil)
          case hiv_1_58 => simp only [List.getElem?_toArray, List.getElem?_cons_succ, List.getElem?_cons_zero]; rfl
          case hiv_7_58 => simp only [List.getElem?_toArray, List.getElem?_cons_succ, List.getElem?_cons_zero]; rfl
          case gv_1_58 =>
            obtain ⟨c_b0, f_b0, c_b1, f_b1, c_b2, f_b2, l_b⟩ := Vn.v3 o_b
            go_simp
            refine hK.out _ _ ?_ (fun hHeld => ?_)
            · trivial
            clear hK K
            try simp only [Act.put, List.setIfInBounds_toArray, List.set_cons_zero, List.set_cons_succ]
            refine wpAnyH_ready (rs := [7]) (by kernel_rfl) (by simp) ?_
            refine AllReadyH.cons (o := ?ov_7_59) ?hiv_7_59 (fun K hK => ?gv_7_59) AllReadyH.nil
            case hiv_7_59 => simp only [List.getElem?_toArray, List.getElem?_cons_succ, List.getElem?_cons_zero]; rfl
            case gv_7_59 =>
              go_simp
              go_at_call 35
              have HJ := row_lit (P := isI64) [0, -1, 1000005, 1000006] rfl o_li (by simp) (var_lt o_li) (by simp [isI64])
              clear HI
              (refine (int_any isI64 _ _ H0 w5.heap.size 4 C HJ (by omega) (by omega) (by omega)).mono ?_); rintro e w8 ⟨u, rfl, hu, C, gw8⟩
              clear c_b0 f_b0 c_b1 f_b1 c_b2 f_b2 l_b
              replace o_r := Dv.owns_drawn o_r gw8 (by omega)
              replace o_b := Dv.owns_drawn o_b gw8 (by omega)
              replace o_li := Dv.owns_drawn o_li gw8 (by omega)
              replace o_y := owns_turned o_y (turned_grown gw8) (fun b hb hb2 => by have h1 := i_y b hb; simp at hb2; omega)
              replace hG := grown_trans hG gw8
              have zw8 := gw8.size
              clear HJ
              refine hK.out _ _ ?_ (fun hHeld => ?_)
              · trivial
              clear hK K
              try simp only [Act.put, List.setIfInBounds_toArray, List.set_cons_zero, List.set_cons_succ]
              refine wpAnyH_take (i := 8) (oi := ?oiv_8_60) (v := ?vv_8_60) ?hiv_8_60 (by kernel_rfl) (by kernel_rfl) (by kernel_rfl) ?hQv_8_60 (Or.inl ⟨?hwv_8_60, ?hyv_8_60⟩) (by assumption) ?_
              case hiv_8_60 => simp only [List.getElem?_toArray, List.getElem?_cons_succ, List.getElem?_cons_zero]; rfl
              case hQv_8_60 => exact fun _ _ _ h => h
              case hwv_8_60 => rfl
              case hyv_8_60 => intro w hSw; (try dsimp only at hSw); (first | (go_simp; done) | (go_simp; with_reducible rfl))
              try simp only [Act.put, List.setIfInBounds_toArray, List.set_cons_zero, List.set_cons_succ]
              refine wpAnyH_ready (rs := [9]) (by kernel_rfl) (by simp) ?_
              refine AllReadyH.cons (o := ?ov_9_61) ?hiv_9_61 (fun K hK => ?gv_9_61) AllReadyH.nil
              case hiv_9_61 => simp only [List.getElem?_toArray, List.getElem?_cons_succ, List.getElem?_cons_zero]; rfl
              case gv_9_61 =>
                go_simp
                have hgr := var_lt o_b
                have hy6 := Fx.made_in o_y
                obtain ⟨w9, hw9⟩ : ∃ y, y = w8.alloc (.cells #[.int .i64 (a - 1), .int .i64 u, .int .i64 3] 30) := ⟨_, rfl⟩
                have o_e := var_owns w8 30 3 [.int .i64 (a - 1), .int .i64 u, .int .i64 3] rfl
                have bw9 : Below w8.heap.size w8 w9 := hw9 ▸ (Below.refl _ _).alloc (Nat.le_refl _) _
                rw [← hw9] at o_e ⊢
                have zw9 : w8.heap.size < w9.heap.size := by rw [hw9]; simp
                have gw9 : World.grownBy w8 w9 (some B) := below_grown bw9
                clear hw9
                replace C := cur_below C bw9
                replace o_r := owns_below o_r bw9
                replace o_b := owns_below o_b bw9
                replace o_li := owns_below o_li bw9
                replace o_y := owns_below o_y bw9
                replace hG := grown_trans hG gw9
                have ne : ∀ q, q ∈ [w8.heap.size] → q ∉ s := fun q hq h => by have h1 := hy6 q h; simp at hq; omega
                clear hy6
                refine hK.out _ _ ?_ (fun hHeld => ?_)
                · trivial
                clear hK K
                try simp only [Act.put, List.setIfInBounds_toArray, List.set_cons_zero, List.set_cons_succ]
                refine wpAnyH_ready (rs := [10]) (by kernel_rfl) (by simp) ?_
                refine AllReadyH.cons (o := ?ov_10_62) ?hiv_10_62 (fun K hK => ?gv_10_62) AllReadyH.nil
                case hiv_10_62 => simp only [List.getElem?_toArray, List.getElem?_cons_succ, List.getElem?_cons_zero]; rfl
                case gv_10_62 =>
                  refine Ap.step_app_el elChallenge w9 rfl (.tmp 17) (.tmp 25) rfl w.heap.size _ x.Open.length x.Open s (by simp [Act.eval]) o_y ny (w8.heap.size) 1 ⟨a - 1, u, 3⟩ [.int .i64 (a - 1), .int .i64 u, .int .i64 3] (by simp [Act.eval]) rfl (three (var_load o_e (by simp) 0 _ rfl) (var_load o_e (by simp) 1 _ rfl) (var_load o_e (by simp) 2 _ rfl)) (by intro u hu; simp at hu; rcases hu with rfl | rfl | rfl <;> rfl) w.heap.size [] (ch_owns ⟨a - 1, u, 3⟩) List.nodup_nil (fun y _ h => by cases h) (Nat.le_refl _) (by omega) hG.size ?_
                  intro v_n s_n w10 o_n n_n T_n M_n
                  obtain ⟨A_n, c_n, rfl⟩ := owns_slice o_n
                  have zw10 := T_n.2.2.2.1
                  replace o_r := owns_turned o_r T_n (fun b hb hb2 => by have h1 := i_y b (own_mem o_y b hb2); simp at hb; omega)
                  replace o_b := owns_turned o_b T_n (fun b hb hb2 => by have h1 := i_y b (own_mem o_y b hb2); simp at hb; omega)
                  replace o_li := owns_turned o_li T_n (fun b hb hb2 => by have h1 := i_y b (own_mem o_y b hb2); simp at hb; omega)
                  replace o_e := owns_turned o_e T_n (fun b hb hb2 => ne b hb (own_mem o_y b hb2))
                  replace hG := Dv.grown_turned hG T_n (fun b hb => (Fx.made_in o_y b (own_mem o_y b hb)).1)
                  replace C := cur_off C T_n (fun b hb => by have h1 := i_y b (own_mem o_y b hb); omega)
                  have i_n := Fx.made_in o_n
                  have i_n : ∀ q, q ∈ s_n → w1.heap.size ≤ q ∧ q ≠ w2.heap.size := fun q hq => by have h2 := i_n q hq; rcases M_n q hq with h1 | h1 | h1; exact ⟨(i_y q h1).1, by have := (i_y q h1).2; omega⟩; cases h1; omega
                  clear T_n M_n o_y ny i_y ne
                  refine hK.out _ _ ?_ (fun hHeld => ?_)
                  · trivial
                  clear hK K
                  try simp only [Act.put, List.setIfInBounds_toArray, List.set_cons_zero, List.set_cons_succ]
                  refine wpAnyH_take (i := 11) (oi := ?oiv_11_63) (v := ?vv_11_63) ?hiv_11_63 (by kernel_rfl) (by kernel_rfl) (by kernel_rfl) ?hQv_11_63 (Or.inl ⟨?hwv_11_63, ?hyv_11_63⟩) (by assumption) ?_
                  case hiv_11_63 => simp only [List.getElem?_toArray, List.getElem?_cons_succ, List.getElem?_cons_zero]; rfl
                  case hQv_11_63 => exact fun _ _ _ h => h
                  case hwv_11_63 => rfl
                  case hyv_11_63 => intro w hSw; (try dsimp only at hSw); (first | (go_simp; done) | (go_simp; with_reducible rfl))
                  try simp only [Act.put, List.setIfInBounds_toArray, List.set_cons_zero, List.set_cons_succ]
                  refine wpAnyH_ready (rs := [12]) (by kernel_rfl) (by simp) ?_
                  refine AllReadyH.cons (o := ?ov_12_64) ?hiv_12_64 (fun K hK => ?gv_12_64) AllReadyH.nil
                  case hiv_12_64 => simp only [List.getElem?_toArray, List.getElem?_cons_succ, List.getElem?_cons_zero]; rfl
                  case gv_12_64 =>
                    obtain ⟨c_b0, f_b0, c_b1, f_b1, c_b2, f_b2, l_b⟩ := Vn.v3 o_b
                    go_simp
                    clear c_b0 f_b0 c_b1 f_b1 c_b2 f_b2 l_b
                    obtain ⟨w11, hw11⟩ : ∃ y, y = (w10.setCell ⟨w2.heap.size, 2, none⟩ (.slice A_n (x.Open.length + 1) c_n)) := ⟨_, rfl⟩
                    obtain ⟨o_new, tw11⟩ := var_some [.slice A_n (x.Open.length + 1) c_n] 2 _ _ o_b (by simp)
                    rw [show setAll w10 (w2.heap.size) 2 [.slice A_n (x.Open.length + 1) c_n] = w11 from hw11.symm] at o_new tw11
                    replace o_b : Owns w11 _ (varD 26 3 [.int .i64 x.Seed, .int .i64 x.Next, .slice A_n (x.Open.length + 1) c_n]) _ _ := o_new
                    clear o_new
                    replace o_r := owns_turned o_r tw11 (fun b hb hb2 => by simp at hb hb2; omega)
                    replace o_li := owns_turned o_li tw11 (fun b hb hb2 => by simp at hb hb2; omega)
                    replace o_e := owns_turned o_e tw11 (fun b hb hb2 => by simp at hb hb2; omega)
                    replace o_n := owns_turned o_n tw11 (fun b hb hb2 => by have h1 := i_n b hb; simp at hb2; omega)
                    replace hG := Dv.grown_turned hG tw11 (fun b hb => by simp at hb; omega)
                    replace C := Dv.cur_turned C tw11 (by omega) (by omega)
                    have zw11 := tw11.2.2.2.1
                    rw [← hw11]
                    clear hw11
                    refine hK.out _ _ ?_ (fun hHeld => ?_)
                    · trivial
                    clear hK K
                    try simp only [Act.put, List.setIfInBounds_toArray, List.set_cons_zero, List.set_cons_succ]
                    refine wpAnyH_done (by kernel_rfl) ?_ _
                    obtain ⟨c_r0, f_r0, c_r1, f_r1, c_r2, f_r2, l_r⟩ := Vn.v3 o_r
                    obtain ⟨c_b0, f_b0, c_b1, f_b1, c_b2, f_b2, l_b⟩ := Vn.v3 o_b
                    obtain ⟨c_li0, f_li0, c_li1, f_li1, c_li2, f_li2, c_li3, f_li3, l_li⟩ := Vn.v4 o_li
                    obtain ⟨c_e0, f_e0, c_e1, f_e1, c_e2, f_e2, l_e⟩ := Vn.v3 o_e
                    go_wp2
                    clear c_r0 f_r0 c_r1 f_r1 c_r2 f_r2 l_r c_b0 f_b0 c_b1 f_b1 c_b2 f_b2 l_b c_li0 f_li0 c_li1 f_li1 c_li2 f_li2 c_li3 f_li3 l_li c_e0 f_e0 c_e1 f_e1 c_e2 f_e2 l_e
                    obtain ⟨w12, hw12⟩ : ∃ y, y = (((w11.setCell ⟨w.heap.size, 0, none⟩ (.int .i64 x.Seed)).setCell ⟨w.heap.size, 1, none⟩ (.int .i64 x.Next)).setCell ⟨w.heap.size, 2, none⟩ (.slice A_n (x.Open.length + 1) c_n)) := ⟨_, rfl⟩
                    obtain ⟨o_new, tw12⟩ := var_some [.int .i64 x.Seed, .int .i64 x.Next, .slice A_n (x.Open.length + 1) c_n] 0 _ _ o_r (by simp)
                    rw [show setAll w11 (w.heap.size) 0 [.int .i64 x.Seed, .int .i64 x.Next, .slice A_n (x.Open.length + 1) c_n] = w12 from hw12.symm] at o_new tw12
                    replace o_r : Owns w12 _ (varD 26 3 [.int .i64 x.Seed, .int .i64 x.Next, .slice A_n (x.Open.length + 1) c_n]) _ _ := o_new
                    clear o_new
                    replace o_b := owns_turned o_b tw12 (fun b hb hb2 => by simp at hb hb2; omega)
                    replace o_li := owns_turned o_li tw12 (fun b hb hb2 => by simp at hb hb2; omega)
                    replace o_e := owns_turned o_e tw12 (fun b hb hb2 => by simp at hb hb2; omega)
                    replace o_n := owns_turned o_n tw12 (fun b hb hb2 => by have h1 := i_n b hb; simp at hb2; omega)
                    replace hG := Dv.grown_turned hG tw12 (fun b hb => by simp at hb; omega)
                    replace C := Dv.cur_turned C tw12 (by omega) (by omega)
                    have zw12 := tw12.2.2.2.1
                    rw [← hw12]
                    clear hw12
                    have y0 : w12.cell? ⟨w.heap.size, 0, none⟩ = some (.int .i64 x.Seed) := var_load o_r (by simp) 0 _ rfl
                    have y1 : w12.cell? ⟨w.heap.size, 1, none⟩ = some (.int .i64 x.Next) := var_load o_r (by simp) 1 _ rfl
                    have y2 : w12.cell? ⟨w.heap.size, 2, none⟩ = some (.slice A_n (x.Open.length + 1) c_n) := var_load o_r (by simp) 2 _ rfl
                    refine bodyPost_ret (v := .agg #[.int .i64 x.Seed, .int .i64 x.Next, .slice A_n (x.Open.length + 1) c_n]) (by simp [results, Try.results34, go_sem, y0, y1, y2]) rfl ?_
                    exact drawn_bk ⟨x.Seed, x.Next, x.Open ++ [⟨a - 1, u, 3⟩]⟩ rfl rfl (by simp) (bk_app HX.out (show isI64 (a - 1) from ⟨by omega, by omega⟩) hu (by omega)) o_n n_n C hG
          case gv_7_58 =>
            go_simp
            go_at_call 35
            have HJ := row_lit (P := isI64) [0, -1, 1000005, 1000006] rfl o_li (by simp) (var_lt o_li) (by simp [isI64])
            clear HI
            (refine (int_any isI64 _ _ H0 w5.heap.size 4 C HJ (by omega) (by omega) (by omega)).mono ?_); rintro e w8 ⟨u, rfl, hu, C, gw8⟩
            replace o_r := Dv.owns_drawn o_r gw8 (by omega)
            replace o_b := Dv.owns_drawn o_b gw8 (by omega)
            replace o_li := Dv.owns_drawn o_li gw8 (by omega)
            replace o_y := owns_turned o_y (turned_grown gw8) (fun b hb hb2 => by have h1 := i_y b hb; simp at hb2; omega)
            replace hG := grown_trans hG gw8
            have zw8 := gw8.size
            clear HJ
            refine hK.out _ _ ?_ (fun hHeld => ?_)
            · trivial
            clear hK K
            try simp only [Act.put, List.setIfInBounds_toArray, List.set_cons_zero, List.set_cons_succ]
            refine wpAnyH_take (i := 8) (oi := ?oiv_8_65) (v := ?vv_8_65) ?hiv_8_65 (by kernel_rfl) (by kernel_rfl) (by kernel_rfl) ?hQv_8_65 (Or.inl ⟨?hwv_8_65, ?hyv_8_65⟩) (by assumption) ?_
            case hiv_8_65 => simp only [List.getElem?_toArray, List.getElem?_cons_succ, List.getElem?_cons_zero]; rfl
            case hQv_8_65 => exact fun _ _ _ h => h
            case hwv_8_65 => rfl
            case hyv_8_65 => intro w hSw; (try dsimp only at hSw); (first | (go_simp; done) | (go_simp; with_reducible rfl))
            try simp only [Act.put, List.setIfInBounds_toArray, List.set_cons_zero, List.set_cons_succ]
            refine wpAnyH_ready (rs := [1, 9]) (by kernel_rfl) (by simp) ?_
            refine AllReadyH.cons (o := ?ov_1_66) ?hiv_1_66 (fun K hK => ?gv_1_66) (AllReadyH.cons (o := ?ov_9_66) ?hiv_9_66 (fun K hK => ?gv_9_66) AllReadyH.nil)
            case hiv_1_66 => simp only [List.getElem?_toArray, List.getElem?_cons_succ, List.getElem?_cons_zero]; rfl
            case hiv_9_66 => simp only [List.getElem?_toArray, List.getElem?_cons_succ, List.getElem?_cons_zero]; rfl
            case gv_1_66 =>
              obtain ⟨c_b0, f_b0, c_b1, f_b1, c_b2, f_b2, l_b⟩ := Vn.v3 o_b
              go_simp
              refine hK.out _ _ ?_ (fun hHeld => ?_)
              · trivial
              clear hK K
              try simp only [Act.put, List.setIfInBounds_toArray, List.set_cons_zero, List.set_cons_succ]
              refine wpAnyH_ready (rs := [9]) (by kernel_rfl) (by simp) ?_
              refine AllReadyH.cons (o := ?ov_9_67) ?hiv_9_67 (fun K hK => ?gv_9_67) AllReadyH.nil
              case hiv_9_67 => simp only [List.getElem?_toArray, List.getElem?_cons_succ, List.getElem?_cons_zero]; rfl
              case gv_9_67 =>
                go_simp
                have hgr := var_lt o_b
                have hy6 := Fx.made_in o_y
                clear c_b0 f_b0 c_b1 f_b1 c_b2 f_b2 l_b
                obtain ⟨w9, hw9⟩ : ∃ y, y = w8.alloc (.cells #[.int .i64 (a - 1), .int .i64 u, .int .i64 3] 30) := ⟨_, rfl⟩
                have o_e := var_owns w8 30 3 [.int .i64 (a - 1), .int .i64 u, .int .i64 3] rfl
                have bw9 : Below w8.heap.size w8 w9 := hw9 ▸ (Below.refl _ _).alloc (Nat.le_refl _) _
                rw [← hw9] at o_e ⊢
                have zw9 : w8.heap.size < w9.heap.size := by rw [hw9]; simp
                have gw9 : World.grownBy w8 w9 (some B) := below_grown bw9
                clear hw9
                replace C := cur_below C bw9
                replace o_r := owns_below o_r bw9
                replace o_b := owns_below o_b bw9
                replace o_li := owns_below o_li bw9
                replace o_y := owns_below o_y bw9
                replace hG := grown_trans hG gw9
                have ne : ∀ q, q ∈ [w8.heap.size] → q ∉ s := fun q hq h => by have h1 := hy6 q h; simp at hq; omega
                clear hy6
                refine hK.out _ _ ?_ (fun hHeld => ?_)
                · trivial
                clear hK K
                try simp only [Act.put, List.setIfInBounds_toArray, List.set_cons_zero, List.set_cons_succ]
                refine wpAnyH_ready (rs := [10]) (by kernel_rfl) (by simp) ?_
                refine AllReadyH.cons (o := ?ov_10_68) ?hiv_10_68 (fun K hK => ?gv_10_68) AllReadyH.nil
                case hiv_10_68 => simp only [List.getElem?_toArray, List.getElem?_cons_succ, List.getElem?_cons_zero]; rfl
                case gv_10_68 =>
                  refine Ap.step_app_el elChallenge w9 rfl (.tmp 17) (.tmp 25) rfl w.heap.size _ x.Open.length x.Open s (by simp [Act.eval]) o_y ny (w8.heap.size) 1 ⟨a - 1, u, 3⟩ [.int .i64 (a - 1), .int .i64 u, .int .i64 3] (by simp [Act.eval]) rfl (three (var_load o_e (by simp) 0 _ rfl) (var_load o_e (by simp) 1 _ rfl) (var_load o_e (by simp) 2 _ rfl)) (by intro u hu; simp at hu; rcases hu with rfl | rfl | rfl <;> rfl) w.heap.size [] (ch_owns ⟨a - 1, u, 3⟩) List.nodup_nil (fun y _ h => by cases h) (Nat.le_refl _) (by omega) hG.size ?_
                  intro v_n s_n w10 o_n n_n T_n M_n
                  obtain ⟨A_n, c_n, rfl⟩ := owns_slice o_n
                  have zw10 := T_n.2.2.2.1
                  replace o_r := owns_turned o_r T_n (fun b hb hb2 => by have h1 := i_y b (own_mem o_y b hb2); simp at hb; omega)
                  replace o_b := owns_turned o_b T_n (fun b hb hb2 => by have h1 := i_y b (own_mem o_y b hb2); simp at hb; omega)
                  replace o_li := owns_turned o_li T_n (fun b hb hb2 => by have h1 := i_y b (own_mem o_y b hb2); simp at hb; omega)
                  replace o_e := owns_turned o_e T_n (fun b hb hb2 => ne b hb (own_mem o_y b hb2))
                  replace hG := Dv.grown_turned hG T_n (fun b hb => (Fx.made_in o_y b (own_mem o_y b hb)).1)
                  replace C := cur_off C T_n (fun b hb => by have h1 := i_y b (own_mem o_y b hb); omega)
                  have i_n := Fx.made_in o_n
                  have i_n : ∀ q, q ∈ s_n → w1.heap.size ≤ q ∧ q ≠ w2.heap.size := fun q hq => by have h2 := i_n q hq; rcases M_n q hq with h1 | h1 | h1; exact ⟨(i_y q h1).1, by have := (i_y q h1).2; omega⟩; cases h1; omega
                  clear T_n M_n o_y ny i_y ne
                  refine hK.out _ _ ?_ (fun hHeld => ?_)
                  · trivial
                  clear hK K
                  try simp only [Act.put, List.setIfInBounds_toArray, List.set_cons_zero, List.set_cons_succ]
                  refine wpAnyH_take (i := 11) (oi := ?oiv_11_69) (v := ?vv_11_69) ?hiv_11_69 (by kernel_rfl) (by kernel_rfl) (by kernel_rfl) ?hQv_11_69 (Or.inl ⟨?hwv_11_69, ?hyv_11_69⟩) (by assumption) ?_
                  case hiv_11_69 => simp only [List.getElem?_toArray, List.getElem?_cons_succ, List.getElem?_cons_zero]; rfl
                  case hQv_11_69 => exact fun _ _ _ h => h
                  case hwv_11_69 => rfl
                  case hyv_11_69 => intro w hSw; (try dsimp only at hSw); (first | (go_simp; done) | (go_simp; with_reducible rfl))
                  try simp only [Act.put, List.setIfInBounds_toArray, List.set_cons_zero, List.set_cons_succ]
                  refine wpAnyH_ready (rs := [12]) (by kernel_rfl) (by simp) ?_
                  refine AllReadyH.cons (o := ?ov_12_70) ?hiv_12_70 (fun K hK => ?gv_12_70) AllReadyH.nil
                  case hiv_12_70 => simp only [List.getElem?_toArray, List.getElem?_cons_succ, List.getElem?_cons_zero]; rfl
                  case gv_12_70 =>
                    obtain ⟨c_b0, f_b0, c_b1, f_b1, c_b2, f_b2, l_b⟩ := Vn.v3 o_b
                    go_simp
                    clear c_b0 f_b0 c_b1 f_b1 c_b2 f_b2 l_b
                    obtain ⟨w11, hw11⟩ : ∃ y, y = (w10.setCell ⟨w2.heap.size, 2, none⟩ (.slice A_n (x.Open.length + 1) c_n)) := ⟨_, rfl⟩
                    obtain ⟨o_new, tw11⟩ := var_some [.slice A_n (x.Open.length + 1) c_n] 2 _ _ o_b (by simp)
                    rw [show setAll w10 (w2.heap.size) 2 [.slice A_n (x.Open.length + 1) c_n] = w11 from hw11.symm] at o_new tw11
                    replace o_b : Owns w11 _ (varD 26 3 [.int .i64 x.Seed, .int .i64 x.Next, .slice A_n (x.Open.length + 1) c_n]) _ _ := o_new
                    clear o_new
                    replace o_r := owns_turned o_r tw11 (fun b hb hb2 => by simp at hb hb2; omega)
                    replace o_li := owns_turned o_li tw11 (fun b hb hb2 => by simp at hb hb2; omega)
                    replace o_e := owns_turned o_e tw11 (fun b hb hb2 => by simp at hb hb2; omega)
                    replace o_n := owns_turned o_n tw11 (fun b hb hb2 => by have h1 := i_n b hb; simp at hb2; omega)
                    replace hG := Dv.grown_turned hG tw11 (fun b hb => by simp at hb; omega)
                    replace C := Dv.cur_turned C tw11 (by omega) (by omega)
                    have zw11 := tw11.2.2.2.1
                    rw [← hw11]
                    clear hw11
                    refine hK.out _ _ ?_ (fun hHeld => ?_)
                    · trivial
                    clear hK K
                    try simp only [Act.put, List.setIfInBounds_toArray, List.set_cons_zero, List.set_cons_succ]
                    refine wpAnyH_done (by kernel_rfl) ?_ _
                    obtain ⟨c_r0, f_r0, c_r1, f_r1, c_r2, f_r2, l_r⟩ := Vn.v3 o_r
                    obtain ⟨c_b0, f_b0, c_b1, f_b1, c_b2, f_b2, l_b⟩ := Vn.v3 o_b
                    obtain ⟨c_li0, f_li0, c_li1, f_li1, c_li2, f_li2, c_li3, f_li3, l_li⟩ := Vn.v4 o_li
                    obtain ⟨c_e0, f_e0, c_e1, f_e1, c_e2, f_e2, l_e⟩ := Vn.v3 o_e
                    go_wp2
                    clear c_r0 f_r0 c_r1 f_r1 c_r2 f_r2 l_r c_b0 f_b0 c_b1 f_b1 c_b2 f_b2 l_b c_li0 f_li0 c_li1 f_li1 c_li2 f_li2 c_li3 f_li3 l_li c_e0 f_e0 c_e1 f_e1 c_e2 f_e2 l_e
                    obtain ⟨w12, hw12⟩ : ∃ y, y = (((w11.setCell ⟨w.heap.size, 0, none⟩ (.int .i64 x.Seed)).setCell ⟨w.heap.size, 1, none⟩ (.int .i64 x.Next)).setCell ⟨w.heap.size, 2, none⟩ (.slice A_n (x.Open.length + 1) c_n)) := ⟨_, rfl⟩
                    obtain ⟨o_new, tw12⟩ := var_some [.int .i64 x.Seed, .int .i64 x.Next, .slice A_n (x.Open.length + 1) c_n] 0 _ _ o_r (by simp)
                    rw [show setAll w11 (w.heap.size) 0 [.int .i64 x.Seed, .int .i64 x.Next, .slice A_n (x.Open.length + 1) c_n] = w12 from hw12.symm] at o_new tw12
                    replace o_r : Owns w12 _ (varD 26 3 [.int .i64 x.Seed, .int .i64 x.Next, .slice A_n (x.Open.length + 1) c_n]) _ _ := o_new
                    clear o_new
                    replace o_b := owns_turned o_b tw12 (fun b hb hb2 => by simp at hb hb2; omega)
                    replace o_li := owns_turned o_li tw12 (fun b hb hb2 => by simp at hb hb2; omega)
                    replace o_e := owns_turned o_e tw12 (fun b hb hb2 => by simp at hb hb2; omega)
                    replace o_n := owns_turned o_n tw12 (fun b hb hb2 => by have h1 := i_n b hb; simp at hb2; omega)
                    replace hG := Dv.grown_turned hG tw12 (fun b hb => by simp at hb; omega)
                    replace C := Dv.cur_turned C tw12 (by omega) (by omega)
                    have zw12 := tw12.2.2.2.1
                    rw [← hw12]
                    clear hw12
                    have y0 : w12.cell? ⟨w.heap.size, 0, none⟩ = some (.int .i64 x.Seed) := var_load o_r (by simp) 0 _ rfl
                    have y1 : w12.cell? ⟨w.heap.size, 1, none⟩ = some (.int .i64 x.Next) := var_load o_r (by simp) 1 _ rfl
                    have y2 : w12.cell? ⟨w.heap.size, 2, none⟩ = some (.slice A_n (x.Open.length + 1) c_n) := var_load o_r (by simp) 2 _ rfl
                    refine bodyPost_ret (v := .agg #[.int .i64 x.Seed, .int .i64 x.Next, .slice A_n (x.Open.length + 1) c_n]) (by simp [results, Try.results34, go_sem, y0, y1, y2]) rfl ?_
                    exact drawn_bk ⟨x.Seed, x.Next, x.Open ++ [⟨a - 1, u, 3⟩]⟩ rfl rfl (by simp) (bk_app HX.out (show isI64 (a - 1) from ⟨by omega, by omega⟩) hu (by omega)) o_n n_n C hG
            case gv_9_66 =>
              go_simp
              have hgr := var_lt o_b
              have hy6 := Fx.made_in o_y
              obtain ⟨w9, hw9⟩ : ∃ y, y = w8.alloc (.cells #[.int .i64 (a - 1), .int .i64 u, .int .i64 3] 30) := ⟨_, rfl⟩
              have o_e := var_owns w8 30 3 [.int .i64 (a - 1), .int .i64 u, .int .i64 3] rfl
              have bw9 : Below w8.heap.size w8 w9 := hw9 ▸ (Below.refl _ _).alloc (Nat.le_refl _) _
              rw [← hw9] at o_e ⊢
              have zw9 : w8.heap.size < w9.heap.size := by rw [hw9]; simp
              have gw9 : World.grownBy w8 w9 (some B) := below_grown bw9
              clear hw9
              replace C := cur_below C bw9
              replace o_r := owns_below o_r bw9
              replace o_b := owns_below o_b bw9
              replace o_li := owns_below o_li bw9
              replace o_y := owns_below o_y bw9
              replace hG := grown_trans hG gw9
              have ne : ∀ q, q ∈ [w8.heap.size] → q ∉ s := fun q hq h => by have h1 := hy6 q h; simp at hq; omega
              clear hy6
              refine hK.out _ _ ?_ (fun hHeld => ?_)
              · trivial
              clear hK K
              try simp only [Act.put, List.setIfInBounds_toArray, List.set_cons_zero, List.set_cons_succ]
              refine wpAnyH_ready (rs := [1]) (by kernel_rfl) (by simp) ?_
              refine AllReadyH.cons (o := ?ov_1_71) ?hiv_1_71 (fun K hK => ?gv_1_71) AllReadyH.nil
              case hiv_1_71 => simp only [List.getElem?_toArray, List.getElem?_cons_succ, List.getElem?_cons_zero]; rfl
              case gv_1_71 =>
                obtain ⟨c_b0, f_b0, c_b1, f_b1, c_b2, f_b2, l_b⟩ := Vn.v3 o_b
                go_simp
                refine hK.out _ _ ?_ (fun hHeld => ?_)
                · trivial
                clear hK K
                try simp only [Act.put, List.setIfInBounds_toArray, List.set_cons_zero, List.set_cons_succ]
                refine wpAnyH_ready (rs := [10]) (by kernel_rfl) (by simp) ?_
                refine AllReadyH.cons (o := ?ov_10_72) ?hiv_10_72 (fun K hK => ?gv_10_72) AllReadyH.nil
                case hiv_10_72 => simp only [List.getElem?_toArray, List.getElem?_cons_succ, List.getElem?_cons_zero]; rfl
                case gv_10_72 =>
                  clear c_b0 f_b0 c_b1 f_b1 c_b2 f_b2 l_b
                  refine Ap.step_app_el elChallenge w9 rfl (.tmp 17) (.tmp 25) rfl w.heap.size _ x.Open.length x.Open s (by simp [Act.eval]) o_y ny (w8.heap.size) 1 ⟨a - 1, u, 3⟩ [.int .i64 (a - 1), .int .i64 u, .int .i64 3] (by simp [Act.eval]) rfl (three (var_load o_e (by simp) 0 _ rfl) (var_load o_e (by simp) 1 _ rfl) (var_load o_e (by simp) 2 _ rfl)) (by intro u hu; simp at hu; rcases hu with rfl | rfl | rfl <;> rfl) w.heap.size [] (ch_owns ⟨a - 1, u, 3⟩) List.nodup_nil (fun y _ h => by cases h) (Nat.le_refl _) (by omega) hG.size ?_
                  intro v_n s_n w10 o_n n_n T_n M_n
                  obtain ⟨A_n, c_n, rfl⟩ := owns_slice o_n
                  have zw10 := T_n.2.2.2.1
                  replace o_r := owns_turned o_r T_n (fun b hb hb2 => by have h1 := i_y b (own_mem o_y b hb2); simp at hb; omega)
                  replace o_b := owns_turned o_b T_n (fun b hb hb2 => by have h1 := i_y b (own_mem o_y b hb2); simp at hb; omega)
                  replace o_li := owns_turned o_li T_n (fun b hb hb2 => by have h1 := i_y b (own_mem o_y b hb2); simp at hb; omega)
                  replace o_e := owns_turned o_e T_n (fun b hb hb2 => ne b hb (own_mem o_y b hb2))
                  replace hG := Dv.grown_turned hG T_n (fun b hb => (Fx.made_in o_y b (own_mem o_y b hb)).1)
                  replace C := cur_off C T_n (fun b hb => by have h1 := i_y b (own_mem o_y b hb); omega)
                  have i_n := Fx.made_in o_n
                  have i_n : ∀ q, q ∈ s_n → w1.heap.size ≤ q ∧ q ≠ w2.heap.size := fun q hq => by have h2 := i_n q hq; rcases M_n q hq with h1 | h1 | h1; exact ⟨(i_y q h1).1, by have := (i_y q h1).2; omega⟩; cases h1; omega
                  clear T_n M_n o_y ny i_y ne
                  refine hK.out _ _ ?_ (fun hHeld => ?_)
                  · trivial
                  clear hK K
                  try simp only [Act.put, List.setIfInBounds_toArray, List.set_cons_zero, List.set_cons_succ]
                  refine wpAnyH_take (i := 11) (oi := ?oiv_11_73) (v := ?vv_11_73) ?hiv_11_73 (by kernel_rfl) (by kernel_rfl) (by kernel_rfl) ?hQv_11_73 (Or.inl ⟨?hwv_11_73, ?hyv_11_73⟩) (by assumption) ?_
                  case hiv_11_73 => simp only [List.getElem?_toArray, List.getElem?_cons_succ, List.getElem?_cons_zero]; rfl
                  case hQv_11_73 => exact fun _ _ _ h => h
                  case hwv_11_73 => rfl
                  case hyv_11_73 => intro w hSw; (try dsimp only at hSw); (first | (go_simp; done) | (go_simp; with_reducible rfl))
                  try simp only [Act.put, List.setIfInBounds_toArray, List.set_cons_zero, List.set_cons_succ]
                  refine wpAnyH_ready (rs := [12]) (by kernel_rfl) (by simp) ?_
                  refine AllReadyH.cons (o := ?ov_12_74) ?hiv_12_74 (fun K hK => ?gv_12_74) AllReadyH.nil
                  case hiv_12_74 => simp only [List.getElem?_toArray, List.getElem?_cons_succ, List.getElem?_cons_zero]; rfl
                  case gv_12_74 =>
                    obtain ⟨c_b0, f_b0, c_b1, f_b1, c_b2, f_b2, l_b⟩ := Vn.v3 o_b
                    go_simp
                    clear c_b0 f_b0 c_b1 f_b1 c_b2 f_b2 l_b
                    obtain ⟨w11, hw11⟩ : ∃ y, y = (w10.setCell ⟨w2.heap.size, 2, none⟩ (.slice A_n (x.Open.length + 1) c_n)) := ⟨_, rfl⟩
                    obtain ⟨o_new, tw11⟩ := var_some [.slice A_n (x.Open.length + 1) c_n] 2 _ _ o_b (by simp)
                    rw [show setAll w10 (w2.heap.size) 2 [.slice A_n (x.Open.length + 1) c_n] = w11 from hw11.symm] at o_new tw11
                    replace o_b : Owns w11 _ (varD 26 3 [.int .i64 x.Seed, .int .i64 x.Next, .slice A_n (x.Open.length + 1) c_n]) _ _ := o_new
                    clear o_new
                    replace o_r := owns_turned o_r tw11 (fun b hb hb2 => by simp at hb hb2; omega)
                    replace o_li := owns_turned o_li tw11 (fun b hb hb2 => by simp at hb hb2; omega)
                    replace o_e := owns_turned o_e tw11 (fun b hb hb2 => by simp at hb hb2; omega)
                    replace o_n := owns_turned o_n tw11 (fun b hb hb2 => by have h1 := i_n b hb; simp at hb2; omega)
                    replace hG := Dv.grown_turned hG tw11 (fun b hb => by simp at hb; omega)
                    replace C := Dv.cur_turned C tw11 (by omega) (by omega)
                    have zw11 := tw11.2.2.2.1
                    rw [← hw11]
                    clear hw11
                    refine hK.out _ _ ?_ (fun hHeld => ?_)
                    · trivial
                    clear hK K
                    try simp only [Act.put, List.setIfInBounds_toArray, List.set_cons_zero, List.set_cons_succ]
                    refine wpAnyH_done (by kernel_rfl) ?_ _
                    obtain ⟨c_r0, f_r0, c_r1, f_r1, c_r2, f_r2, l_r⟩ := Vn.v3 o_r
                    obtain ⟨c_b0, f_b0, c_b1, f_b1, c_b2, f_b2, l_b⟩ := Vn.v3 o_b
                    obtain ⟨c_li0, f_li0, c_li1, f_li1, c_li2, f_li2, c_li3, f_li3, l_li⟩ := Vn.v4 o_li
                    obtain ⟨c_e0, f_e0, c_e1, f_e1, c_e2, f_e2, l_e⟩ := Vn.v3 o_e
                    go_wp2
                    clear c_r0 f_r0 c_r1 f_r1 c_r2 f_r2 l_r c_b0 f_b0 c_b1 f_b1 c_b2 f_b2 l_b c_li0 f_li0 c_li1 f_li1 c_li2 f_li2 c_li3 f_li3 l_li c_e0 f_e0 c_e1 f_e1 c_e2 f_e2 l_e
                    obtain ⟨w12, hw12⟩ : ∃ y, y = (((w11.setCell ⟨w.heap.size, 0, none⟩ (.int .i64 x.Seed)).setCell ⟨w.heap.size, 1, none⟩ (.int .i64 x.Next)).setCell ⟨w.heap.size, 2, none⟩ (.slice A_n (x.Open.length + 1) c_n)) := ⟨_, rfl⟩
                    obtain ⟨o_new, tw12⟩ := var_some [.int .i64 x.Seed, .int .i64 x.Next, .slice A_n (x.Open.length + 1) c_n] 0 _ _ o_r (by simp)
                    rw [show setAll w11 (w.heap.size) 0 [.int .i64 x.Seed, .int .i64 x.Next, .slice A_n (x.Open.length + 1) c_n] = w12 from hw12.symm] at o_new tw12
                    replace o_r : Owns w12 _ (varD 26 3 [.int .i64 x.Seed, .int .i64 x.Next, .slice A_n (x.Open.length + 1) c_n]) _ _ := o_new
                    clear o_new
                    replace o_b := owns_turned o_b tw12 (fun b hb hb2 => by simp at hb hb2; omega)
                    replace o_li := owns_turned o_li tw12 (fun b hb hb2 => by simp at hb hb2; omega)
                    replace o_e := owns_turned o_e tw12 (fun b hb hb2 => by simp at hb hb2; omega)
                    replace o_n := owns_turned o_n tw12 (fun b hb hb2 => by have h1 := i_n b hb; simp at hb2; omega)
                    replace hG := Dv.grown_turned hG tw12 (fun b hb => by simp at hb; omega)
                    replace C := Dv.cur_turned C tw12 (by omega) (by omega)
                    have zw12 := tw12.2.2.2.1
                    rw [← hw12]
                    clear hw12
                    have y0 : w12.cell? ⟨w.heap.size, 0, none⟩ = some (.int .i64 x.Seed) := var_load o_r (by simp) 0 _ rfl
                    have y1 : w12.cell? ⟨w.heap.size, 1, none⟩ = some (.int .i64 x.Next) := var_load o_r (by simp) 1 _ rfl
                    have y2 : w12.cell? ⟨w.heap.size, 2, none⟩ = some (.slice A_n (x.Open.length + 1) c_n) := var_load o_r (by simp) 2 _ rfl
                    refine bodyPost_ret (v := .agg #[.int .i64 x.Seed, .int .i64 x.Next, .slice A_n (x.Open.length + 1) c_n]) (by simp [results, Try.results34, go_sem, y0, y1, y2]) rfl ?_
                    exact drawn_bk ⟨x.Seed, x.Next, x.Open ++ [⟨a - 1, u, 3⟩]⟩ rfl rfl (by simp) (bk_app HX.out (show isI64 (a - 1) from ⟨by omega, by omega⟩) hu (by omega)) o_n n_n C hG
    · have e1 : (q == 1) = false := by simpa using h1
      obtain ⟨c_r0, f_r0, c_r1, f_r1, c_r2, f_r2, l_r⟩ := Vn.v3 o_r
      obtain ⟨c_b0, f_b0, c_b1, f_b1, c_b2, f_b2, l_b⟩ := Vn.v3 o_b
      go_wp2
      clear c_r0 f_r0 c_r1 f_r1 c_r2 f_r2 l_r c_b0 f_b0 c_b1 f_b1 c_b2 f_b2 l_b
      obtain ⟨w5, hw5⟩ : ∃ y, y = (((w4.setCell ⟨w.heap.size, 0, none⟩ (.int .i64 x.Seed)).setCell ⟨w.heap.size, 1, none⟩ (.int .i64 x.Next)).setCell ⟨w.heap.size, 2, none⟩ (.slice A x.Open.length c)) := ⟨_, rfl⟩
      obtain ⟨o_new, tw5⟩ := var_some [.int .i64 x.Seed, .int .i64 x.Next, .slice A x.Open.length c] 0 _ _ o_r (by simp)
      rw [show setAll w4 (w.heap.size) 0 [.int .i64 x.Seed, .int .i64 x.Next, .slice A x.Open.length c] = w5 from hw5.symm] at o_new tw5
      replace o_r : Owns w5 _ (varD 26 3 [.int .i64 x.Seed, .int .i64 x.Next, .slice A x.Open.length c]) _ _ := o_new
      clear o_new
      replace o_b := owns_turned o_b tw5 (fun b hb hb2 => by simp at hb hb2; omega)
      replace o_y := owns_turned o_y tw5 (fun b hb hb2 => by have h1 := i_y b hb; simp at hb2; omega)
      replace hG := Dv.grown_turned hG tw5 (fun b hb => by simp at hb; omega)
      replace C := Dv.cur_turned C tw5 (by omega) (by omega)
      have zw5 := tw5.2.2.2.1
      rw [← hw5]
      clear hw5
      have y0 : w5.cell? ⟨w.heap.size, 0, none⟩ = some (.int .i64 x.Seed) := var_load o_r (by simp) 0 _ rfl
      have y1 : w5.cell? ⟨w.heap.size, 1, none⟩ = some (.int .i64 x.Next) := var_load o_r (by simp) 1 _ rfl
      have y2 : w5.cell? ⟨w.heap.size, 2, none⟩ = some (.slice A x.Open.length c) := var_load o_r (by simp) 2 _ rfl
      refine bodyPost_ret (v := .agg #[.int .i64 x.Seed, .int .i64 x.Next, .slice A x.Open.length c]) (by simp [results, Try.results34, go_sem, y0, y1, y2]) rfl ?_
      exact drawn_bk (x) rfl rfl rfl ⟨HX.out.1, by omega⟩ o_y ny C hG
def EndI (w : World) (e : Ending) (w' : World) : Prop := ∃ (x : Fx.ChallengeBook) (a u : Int) (A : Option Addr) (c : Nat) (s : List Nat), e = .returned (.tuple #[.agg #[.int .i64 x.Seed, .int .i64 x.Next, .slice A x.Open.length c], .int .i64 a, .int .i64 u]) ∧ Bk 19 x ∧ (-1 ≤ a ∧ a ≤ 1000001) ∧ (-1 ≤ u ∧ u ≤ 1000001) ∧ Owns w' w.heap.size (ChallengesD x.Open) (.slice A x.Open.length c) s ∧ s.Nodup ∧ Below w.heap.size w w'
set_option maxHeartbeats 3200000 in
theorem issueD (w : World) (H0 : Nat) (v : Value) (hc : C0.Code w H0 v) (h0 : H0 ≤ w.heap.size) : Calls Try.prog 12 #[v] w (EndI w) := by
  go_enter Try.func12, Try.ntmps12
  obtain ⟨w1, hw1⟩ : ∃ y, y = w.alloc (.cells #[.int .i64 0, .int .i64 0, .slice none 0 0] 26) := ⟨_, rfl⟩
  have o_r := var_owns w 26 3 [.int .i64 0, .int .i64 0, .slice none 0 0] rfl
  have bw1 : Below w.heap.size w w1 := hw1 ▸ (Below.refl _ _).alloc (Nat.le_refl _) _
  rw [← hw1] at o_r
  have sw1 : w1.heap.size = w.heap.size + 1 := by rw [hw1]; simp
  have zw1 : w.heap.size < w1.heap.size := by rw [hw1]; simp
  have HB := bw1
  have hc0 : C0.Code w1 H0 v := hc.below (HB.mono h0)
  go_wp2_with fail
  rw [← hw1]
  clear hw1 sw1
  (with_reducible refine (new_any _ H0 v hc0 (by omega)).mono ?_); rintro e w2 ⟨rfl, C, gw2⟩
  replace o_r := owns_turned o_r (turned_grown gw2) (fun b h1 h2 => by simp at h2)
  replace HB := HB.trans (grown_below gw2 (by omega) (fun r h => by cases h))
  have zw2 := gw2.size
  have zcur := C.lt
  obtain ⟨c_r0, f_r0, c_r1, f_r1, c_r2, f_r2, l_r⟩ := Vn.v3 o_r
  go_wp2_with fail
  (with_reducible refine (bany_any _ _ H0 C).mono ?_); rintro e w3 ⟨x, A, c, s, rfl, hx, o_y, ny, C, gw3⟩
  clear c_r0 f_r0 c_r1 f_r1 c_r2 f_r2 l_r
  replace o_r := Dv.owns_drawn o_r gw3 (by omega)
  replace HB := HB.trans (grown_below gw3 (by omega) (fun r h => by cases h; omega))
  have zw3 := gw3.size
  have i_y := Fx.made_in o_y
  replace o_y := owns_base (show w.heap.size ≤ w2.heap.size by omega) _ _ _ o_y
  have HX := Lib.hid hx
  have hxl : x.Open.length ≤ 19 := hx.2
  clear hx
  obtain ⟨c_r0, f_r0, c_r1, f_r1, c_r2, f_r2, l_r⟩ := Vn.v3 o_r
  obtain ⟨w4, hw4⟩ : ∃ y, y = w3.alloc (.cells #[.int .i64 x.Seed, .int .i64 x.Next, .slice A x.Open.length c] 26) := ⟨_, rfl⟩
  have o_b := var_owns w3 26 3 [.int .i64 x.Seed, .int .i64 x.Next, .slice A x.Open.length c] rfl
  have bw4 : Below w3.heap.size w3 w4 := hw4 ▸ (Below.refl _ _).alloc (Nat.le_refl _) _
  rw [← hw4] at o_b
  have sw4 : w4.heap.size = w3.heap.size + 1 := by rw [hw4]; simp
  have zw4 : w3.heap.size < w4.heap.size := by rw [hw4]; simp
  have n_b : w3.heap.size ≠ w1.heap.size := by have := C.lt; have := C.low; omega
  have m_b : H0 ≤ w3.heap.size := by have := C.lt; have := C.low; omega
  replace C : IsCur w4 w1.heap.size H0 := hw4 ▸ C.alloc _
  replace o_r := owns_below o_r bw4
  replace o_y := owns_below o_y bw4
  replace HB := HB.trans (bw4.mono HB.size)
  have HL := Lib.hid (show Calls Try.prog 35 #[.pointer (some ⟨w1.heap.size, 0, none⟩), .slice (some ⟨w3.heap.size + 1, 0, none⟩) 6 6] (w4.alloc (.cells #[.int .i64 0, .int .i64 1, .int .i64 2, .int .i64 (-1), .int .i64 1000000, .int .i64 1000001] 3)) (Drawn (fun z => -1 ≤ z ∧ z ≤ 1000001) w4 w1.heap.size H0) from int_litg [0, 1, 2, -1, 1000000, 1000001] 6 rfl w4 w1.heap.size H0 _ (sw4.symm) 3 C (by simp) (by simp) (fun z => -1 ≤ z ∧ z ≤ 1000001) (by simp))
  go_wp2_with fail
  rw [← hw4]
  clear hw4 sw4
  (with_reducible refine (HL.out).mono ?_); rintro e w5 ⟨a, rfl, ha, C, gw5⟩
  clear c_r0 f_r0 c_r1 f_r1 c_r2 f_r2 l_r
  replace o_r := Dv.owns_drawn o_r gw5 (by omega)
  replace o_b := Dv.owns_drawn o_b gw5 (by omega)
  replace o_y := owns_turned o_y (turned_grown gw5) (fun b hb hb2 => by have h1 := i_y b hb; simp at hb2; omega)
  replace HB := HB.trans (grown_below gw5 (by omega) (fun r h => by cases h; omega))
  have zw5 := gw5.size
  clear HL
  obtain ⟨c_r0, f_r0, c_r1, f_r1, c_r2, f_r2, l_r⟩ := Vn.v3 o_r
  obtain ⟨c_b0, f_b0, c_b1, f_b1, c_b2, f_b2, l_b⟩ := Vn.v3 o_b
  go_wp2_with fail
  clear c_r0 f_r0 c_r1 f_r1 c_r2 f_r2 l_r c_b0 f_b0 c_b1 f_b1 c_b2 f_b2 l_b
  obtain ⟨w6, hw6⟩ : ∃ y, y = w5.drew := ⟨_, rfl⟩
  have bw6 : Below w5.heap.size w5 w6 := hw6 ▸ drewN_below w5 1 _
  replace C : IsCur w6 w1.heap.size H0 := hw6 ▸ C.drewN 1
  replace o_r := owns_below o_r bw6
  replace o_b := owns_below o_b bw6
  replace o_y := owns_below o_y bw6
  replace HB := HB.trans (bw6.mono HB.size)
  have zw6 := bw6.size
  refine wp_region_held_drew (S := (fun (wx : World) => wx.cell? ⟨w3.heap.size, 0, none⟩ = some (.int .i64 x.Seed) ∧ wx.cell? ⟨w3.heap.size, 1, none⟩ = some (.int .i64 x.Next) ∧ wx.cell? ⟨w3.heap.size, 2, none⟩ = some (.slice A x.Open.length c))) (by kernel_rfl) ?_ (fun hHeld => ?_)
  · rw [← hw6]; exact ⟨var_load o_b (by simp) 0 _ rfl, var_load o_b (by simp) 1 _ rfl, var_load o_b (by simp) 2 _ rfl⟩
  rw [← hw6] at hHeld ⊢
  clear hw6
  refine wpAnyH_take (i := 0) (oi := ?oiv_0_1) (v := ?vv_0_1) ?hiv_0_1 (by kernel_rfl) (by kernel_rfl) (by kernel_rfl) ?hQv_0_1 (Or.inl ⟨?hwv_0_1, ?hyv_0_1⟩) (by assumption) ?_
  case hiv_0_1 => simp only [List.getElem?_toArray, List.getElem?_cons_zero]; rfl
  case hQv_0_1 => exact fun _ _ _ h => h
  case hwv_0_1 => rfl
  case hyv_0_1 => intro w hSw; (try dsimp only at hSw); (first | (go_simp; done) | (go_simp; with_reducible rfl))
  try simp only [Act.put, List.setIfInBounds_toArray, List.set_cons_zero, List.set_cons_succ]
  refine wpAnyH_take (i := 1) (oi := ?oiv_1_2) (v := ?vv_1_2) ?hiv_1_2 (by kernel_rfl) (by kernel_rfl) (by kernel_rfl) ?hQv_1_2 (Or.inl ⟨?hwv_1_2, ?hyv_1_2⟩) (by assumption) ?_
  case hiv_1_2 => simp only [List.getElem?_toArray, List.getElem?_cons_succ, List.getElem?_cons_zero]; rfl
  case hQv_1_2 => exact fun _ _ _ h => h
  case hwv_1_2 => rfl
  case hyv_1_2 => intro w hSw; (try dsimp only at hSw); (first | (go_simp; done) | (go_simp; with_reducible rfl))
  try simp only [Act.put, List.setIfInBounds_toArray, List.set_cons_zero, List.set_cons_succ]
  refine wpAnyH_take (i := 2) (oi := ?oiv_2_3) (v := ?vv_2_3) ?hiv_2_3 (by kernel_rfl) (by kernel_rfl) (by kernel_rfl) ?hQv_2_3 (Or.inl ⟨?hwv_2_3, ?hyv_2_3⟩) (by assumption) ?_
  case hiv_2_3 => simp only [List.getElem?_toArray, List.getElem?_cons_succ, List.getElem?_cons_zero]; rfl
  case hQv_2_3 => exact fun _ _ _ h => h
  case hwv_2_3 => rfl
  case hyv_2_3 => intro w hSw; (try dsimp only at hSw); (first | (go_simp; done) | (go_simp; with_reducible rfl))
  try simp only [Act.put, List.setIfInBounds_toArray, List.set_cons_zero, List.set_cons_succ]
  refine wpAnyH_ready (rs := [3]) (by kernel_rfl) (by simp) ?_
  refine AllReadyH.cons (o := ?ov_3_4) ?hiv_3_4 (fun K hK => ?gv_3_4) AllReadyH.nil
  case hiv_3_4 => simp only [List.getElem?_toArray, List.getElem?_cons_succ, List.getElem?_cons_zero]; rfl
  case gv_3_4 =>
    go_simp
    obtain ⟨w7, hw7⟩ : ∃ y, y = w6.alloc (.cells #[.int .i64 (0), .int .i64 (5), .int .i64 (9), .int .i64 (-1), .int .i64 (1000000), .int .i64 (1000001)] 3) := ⟨_, rfl⟩
    have o_li := var_owns w6 3 6 [.int .i64 (0), .int .i64 (5), .int .i64 (9), .int .i64 (-1), .int .i64 (1000000), .int .i64 (1000001)] rfl
    have bw7 : Below w6.heap.size w6 w7 := hw7 ▸ (Below.refl _ _).alloc (Nat.le_refl _) _
    rw [← hw7] at o_li ⊢
    have zw7 : w6.heap.size < w7.heap.size := by rw [hw7]; simp
    clear hw7
    replace C := cur_below C bw7
    replace o_r := owns_below o_r bw7
    replace o_b := owns_below o_b bw7
    replace o_y := owns_below o_y bw7
    replace HB := HB.trans (bw7.mono HB.size)
    refine hK.out _ _ ?_ (fun hHeld => ?_)
    · exact ⟨var_load o_b (by simp) 0 _ rfl, var_load o_b (by simp) 1 _ rfl, var_load o_b (by simp) 2 _ rfl⟩
    clear hK K
    try simp only [Act.put, List.setIfInBounds_toArray, List.set_cons_zero, List.set_cons_succ]
    refine wpAnyH_ready (rs := [4]) (by kernel_rfl) (by simp) ?_
    refine AllReadyH.cons (o := ?ov_4_5) ?hiv_4_5 (fun K hK => ?gv_4_5) AllReadyH.nil
    case hiv_4_5 => simp only [List.getElem?_toArray, List.getElem?_cons_succ, List.getElem?_cons_zero]; rfl
    case gv_4_5 =>
      go_simp
      go_at_call 35
      have HJ := row_lit (P := fun z => -1 ≤ z ∧ z ≤ 1000001) [0, 5, 9, -1, 1000000, 1000001] rfl o_li (by simp) (var_lt o_li) (by simp)
      (refine (int_any _ _ _ H0 w6.heap.size 6 C HJ (by have := C.lt; omega) (by omega) (by omega)).mono ?_); rintro e w8 ⟨u, rfl, hu, C, gw8⟩
      replace o_r := Dv.owns_drawn o_r gw8 (by omega)
      replace o_b := Dv.owns_drawn o_b gw8 (by omega)
      replace o_li := Dv.owns_drawn o_li gw8 (by omega)
      replace o_y := owns_turned o_y (turned_grown gw8) (fun b hb hb2 => by have h1 := i_y b hb; simp at hb2; omega)
      replace HB := HB.trans (grown_below gw8 (by omega) (fun r h => by cases h; omega))
      have zw8 := gw8.size
      clear HJ
      refine hK.out _ _ ?_ (fun hHeld => ?_)
      · exact ⟨var_load o_b (by simp) 0 _ rfl, var_load o_b (by simp) 1 _ rfl, var_load o_b (by simp) 2 _ rfl⟩
      clear hK K
      try simp only [Act.put, List.setIfInBounds_toArray, List.set_cons_zero, List.set_cons_succ]
      refine wpAnyH_ready (rs := [5]) (by kernel_rfl) (by simp) ?_
      refine AllReadyH.cons (o := ?ov_5_6) ?hiv_5_6 (fun K hK => ?gv_5_6) AllReadyH.nil
      case hiv_5_6 => simp only [List.getElem?_toArray, List.getElem?_cons_succ, List.getElem?_cons_zero]; rfl
      case gv_5_6 =>
        obtain ⟨c_r0, f_r0, c_r1, f_r1, c_r2, f_r2, l_r⟩ := Vn.v3 o_r
        go_simp
        clear c_r0 f_r0 c_r1 f_r1 c_r2 f_r2 l_r
        obtain ⟨w9, hw9⟩ : ∃ y, y = (((w8.setCell ⟨w.heap.size, 0, none⟩ (.int .i64 x.Seed)).setCell ⟨w.heap.size, 1, none⟩ (.int .i64 x.Next)).setCell ⟨w.heap.size, 2, none⟩ (.slice A x.Open.length c)) := ⟨_, rfl⟩
        obtain ⟨o_new, tw9⟩ := var_some [.int .i64 x.Seed, .int .i64 x.Next, .slice A x.Open.length c] 0 _ _ o_r (by simp)
        rw [show setAll w8 (w.heap.size) 0 [.int .i64 x.Seed, .int .i64 x.Next, .slice A x.Open.length c] = w9 from hw9.symm] at o_new tw9
        replace o_r : Owns w9 _ (varD 26 3 [.int .i64 x.Seed, .int .i64 x.Next, .slice A x.Open.length c]) _ _ := o_new
        clear o_new
        replace o_b := owns_turned o_b tw9 (fun b hb hb2 => by simp at hb hb2; omega)
        replace o_li := owns_turned o_li tw9 (fun b hb hb2 => by simp at hb hb2; omega)
        replace o_y := owns_turned o_y tw9 (fun b hb hb2 => by have h1 := i_y b hb; simp at hb2; omega)
        replace HB := below_turned HB tw9 (fun b hb => by simp at hb; omega)
        replace C := Dv.cur_turned C tw9 (by omega) (by omega)
        have zw9 := tw9.2.2.2.1
        rw [← hw9]
        clear hw9
        refine hK.out _ _ ?_ (fun hHeld => ?_)
        · exact ⟨var_load o_b (by simp) 0 _ rfl, var_load o_b (by simp) 1 _ rfl, var_load o_b (by simp) 2 _ rfl⟩
        clear hK K
        try simp only [Act.put, List.setIfInBounds_toArray, List.set_cons_zero, List.set_cons_succ]
        refine wpAnyH_take (i := 6) (oi := ?oiv_6_7) (v := ?vv_6_7) ?hiv_6_7 (by kernel_rfl) (by kernel_rfl) (by kernel_rfl) ?hQv_6_7 (Or.inl ⟨?hwv_6_7, ?hyv_6_7⟩) (by assumption) ?_
        case hiv_6_7 => simp only [List.getElem?_toArray, List.getElem?_cons_succ, List.getElem?_cons_zero]; rfl
        case hQv_6_7 => exact fun _ _ _ h => h
        case hwv_6_7 => rfl
        case hyv_6_7 => intro w hSw; (try dsimp only at hSw); (first | (go_simp; done) | (go_simp; with_reducible rfl))
        try simp only [Act.put, List.setIfInBounds_toArray, List.set_cons_zero, List.set_cons_succ]
        refine wpAnyH_take (i := 7) (oi := ?oiv_7_8) (v := ?vv_7_8) ?hiv_7_8 (by kernel_rfl) (by kernel_rfl) (by kernel_rfl) ?hQv_7_8 (Or.inl ⟨?hwv_7_8, ?hyv_7_8⟩) (by assumption) ?_
        case hiv_7_8 => simp only [List.getElem?_toArray, List.getElem?_cons_succ, List.getElem?_cons_zero]; rfl
        case hQv_7_8 => exact fun _ _ _ h => h
        case hwv_7_8 => rfl
        case hyv_7_8 => intro w hSw; (try dsimp only at hSw); (first | (go_simp; done) | (go_simp; with_reducible rfl))
        try simp only [Act.put, List.setIfInBounds_toArray, List.set_cons_zero, List.set_cons_succ]
        refine wpAnyH_done (by kernel_rfl) ?_ _
        obtain ⟨c_r0, f_r0, c_r1, f_r1, c_r2, f_r2, l_r⟩ := Vn.v3 o_r
        obtain ⟨c_b0, f_b0, c_b1, f_b1, c_b2, f_b2, l_b⟩ := Vn.v3 o_b
        have c_li0 : w9.cell? ⟨w6.heap.size, 0, none⟩ = some (.int .i64 (0)) := var_load o_li (by simp) 0 _ rfl
        have f_li0 : w9.frozen? ⟨w6.heap.size, 0, none⟩ = false := var_frozen o_li (by simp) 0 _ rfl
        have c_li1 : w9.cell? ⟨w6.heap.size, 1, none⟩ = some (.int .i64 (5)) := var_load o_li (by simp) 1 _ rfl
        have f_li1 : w9.frozen? ⟨w6.heap.size, 1, none⟩ = false := var_frozen o_li (by simp) 1 _ rfl
        have c_li2 : w9.cell? ⟨w6.heap.size, 2, none⟩ = some (.int .i64 (9)) := var_load o_li (by simp) 2 _ rfl
        have f_li2 : w9.frozen? ⟨w6.heap.size, 2, none⟩ = false := var_frozen o_li (by simp) 2 _ rfl
        have c_li3 : w9.cell? ⟨w6.heap.size, 3, none⟩ = some (.int .i64 (-1)) := var_load o_li (by simp) 3 _ rfl
        have f_li3 : w9.frozen? ⟨w6.heap.size, 3, none⟩ = false := var_frozen o_li (by simp) 3 _ rfl
        have c_li4 : w9.cell? ⟨w6.heap.size, 4, none⟩ = some (.int .i64 (1000000)) := var_load o_li (by simp) 4 _ rfl
        have f_li4 : w9.frozen? ⟨w6.heap.size, 4, none⟩ = false := var_frozen o_li (by simp) 4 _ rfl
        have c_li5 : w9.cell? ⟨w6.heap.size, 5, none⟩ = some (.int .i64 (1000001)) := var_load o_li (by simp) 5 _ rfl
        have f_li5 : w9.frozen? ⟨w6.heap.size, 5, none⟩ = false := var_frozen o_li (by simp) 5 _ rfl
        have l_li := var_lt o_li
        go_wp2
        clear c_r0 f_r0 c_r1 f_r1 c_r2 f_r2 l_r c_b0 f_b0 c_b1 f_b1 c_b2 f_b2 l_b c_li0 f_li0 c_li1 f_li1 c_li2 f_li2 c_li3 f_li3 c_li4 f_li4 c_li5 f_li5 l_li
        have y0 : w9.cell? ⟨w.heap.size, 0, none⟩ = some (.int .i64 x.Seed) := var_load o_r (by simp) 0 _ rfl
        have y1 : w9.cell? ⟨w.heap.size, 1, none⟩ = some (.int .i64 x.Next) := var_load o_r (by simp) 1 _ rfl
        have y2 : w9.cell? ⟨w.heap.size, 2, none⟩ = some (.slice A x.Open.length c) := var_load o_r (by simp) 2 _ rfl
        refine bodyPost_ret (v := .tuple #[.agg #[.int .i64 x.Seed, .int .i64 x.Next, .slice A x.Open.length c], .int .i64 a, .int .i64 u]) (by simp [results, Try.results12, go_sem, y0, y1, y2]) rfl ?_
        exact ⟨x, a, u, A, c, s, rfl, HX.out, ha, hu, o_y, ny, HB⟩
end Go.Proofs.Ytjkmcnnkifachaa.D12
