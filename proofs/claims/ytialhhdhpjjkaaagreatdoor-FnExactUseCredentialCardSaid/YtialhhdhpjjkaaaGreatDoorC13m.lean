import Derived.Test.YtialhhdhpjjkaaaGreatDoorYAssertion
import Derived.Test.YtialhhdhpjjkaaaGreatDoorH1
import Derived.Test.YtialhhdhpjjkaaaGreatDoorBa
import Derived.Test.YtialhhdhpjjkaaaGreatDoorBb
import Derived.Deep.RegionHeld3
/-
  Chapter 13's message of an assertion, of the model.
-/
namespace Go.Proofs.YtialhhdhpjjkaaaGreatDoor.C13m
open Go.ChangeShapes Go.WideShapes Go.ChangeAt Go.RowKit
open S0 S1 S9 Dm Fx M3 M8 C3 C6 H1
set_option linter.unusedVariables false
set_option linter.unusedSimpArgs false
set_option maxRecDepth 100000
def msg (a : Fx.Assertion) : List Int := [199, siteH a.Site, derive 211 (C3b.sbytes a.Origin), a.Challenge, a.Handle, if a.Present then 1 else 0]
theorem msg_ok {a : Fx.Assertion} (h : a.ok) : okInts (msg a) := by
  have h1 := siteH_in a.Site
  have h2 := derive_valid 211 (C3b.sbytes a.Origin)
  have h3 := h.Challenge
  have h4 := h.Handle
  exact (okInts.one (x := 199) (by omega) (by omega)).app ((okInts.one h1.1 h1.2).app ((okInts.one (by omega) (by omega)).app ((okInts.one h3.1 h3.2).app ((okInts.one h4.1 h4.2).app (okInts.one (x := if a.Present then 1 else 0) (by split <;> omega) (by split <;> omega))))))
theorem msg_len (a : Fx.Assertion) : (msg a).length = 6 := rfl
theorem as_rds (w : World) (hi : Nat) (a : Fx.Assertion) : RdsL w hi a.dcs [.string a.Site, .string a.Origin, .int .i64 a.Challenge, .int .i64 a.Handle, .bool a.Present, .int .i64 a.Counter, .int .i64 a.Signature] := Assertion.mkR
set_option maxHeartbeats 1600000 in
theorem specMsg (w : World) (a : Fx.Assertion) (us : List Value) (h : RdsL w w.heap.size a.dcs us) (hs : a.Site.size ≤ 16000000) (hs2 : a.Origin.size ≤ 16000000) : Calls Tryz.prog 45 #[.agg us.toArray] w (MadeS 3 1 6 (ints .i64 (msg a)) w) := by
  obtain rfl := Assertion.rds h
  clear h
  go_enter Tryz.func45, Tryz.ntmps45
  cases hq1 : a.Present with
  | true =>
    go_wp2_with fail
    obtain ⟨w1, hw1⟩ : ∃ ww, ww = w.alloc (.cells #[.string a.Site, .string a.Origin, .int .i64 a.Challenge, .int .i64 a.Handle, .bool true, .int .i64 a.Counter, .int .i64 a.Signature] 26) := ⟨_, rfl⟩
    have o_v1 := var_owns w 26 7 [.string a.Site, .string a.Origin, .int .i64 a.Challenge, .int .i64 a.Handle, .bool true, .int .i64 a.Counter, .int .i64 a.Signature] rfl
    have bw1 : Below w.heap.size w w1 := hw1 ▸ (Below.refl _ _).alloc (Nat.le_refl _) _
    have sw1 : w1.heap.size = w.heap.size + 1 := by rw [hw1]; simp
    rw [← hw1] at o_v1 ⊢
    have zw1 : w.heap.size < w1.heap.size := by omega
    have HB := bw1
    clear hw1
    obtain ⟨w2, hw2⟩ : ∃ ww, ww = w1.drew := ⟨_, rfl⟩
    have bw2 : Below w1.heap.size w1 w2 := hw2 ▸ drewN_below w1 1 _
    replace o_v1 := owns_below o_v1 bw2
    replace HB := HB.trans (bw2.mono HB.size)
    have zw2 := bw2.size
    refine wp_region_held_drew (S := (fun (wx : World) => wx.cell? ⟨w.heap.size, 0, none⟩ = some (.string a.Site) ∧ wx.cell? ⟨w.heap.size, 1, none⟩ = some (.string a.Origin) ∧ wx.cell? ⟨w.heap.size, 2, none⟩ = some (.int .i64 a.Challenge) ∧ wx.cell? ⟨w.heap.size, 3, none⟩ = some (.int .i64 a.Handle))) (by kernel_rfl) ?_ (fun hHeld => ?_)
    · rw [← hw2]; exact ⟨var_load o_v1 (by simp) 0 _ rfl, var_load o_v1 (by simp) 1 _ rfl, var_load o_v1 (by simp) 2 _ rfl, var_load o_v1 (by simp) 3 _ rfl⟩
    rw [← hw2] at hHeld ⊢
    clear hw2
    refine wpAnyH_take (i := 0) (oi := ?oix1__0_1) (v := ?vx1__0_1) ?hix1__0_1 (by kernel_rfl) (by kernel_rfl) (by kernel_rfl) ?hQx1__0_1 (Or.inl ⟨?hwx1__0_1, ?hyx1__0_1⟩) (by assumption) ?_
    case hix1__0_1 => simp only [List.getElem?_toArray, List.getElem?_cons_zero]; rfl
    case hQx1__0_1 => exact fun _ _ _ h => h
    case hwx1__0_1 => rfl
    case hyx1__0_1 => intro w hSw; (try dsimp only at hSw); (first | (go_simp; done) | (go_simp; with_reducible rfl))
    try simp only [Act.put, List.setIfInBounds_toArray, List.set_cons_zero, List.set_cons_succ]
    refine wpAnyH_take (i := 1) (oi := ?oix1__1_2) (v := ?vx1__1_2) ?hix1__1_2 (by kernel_rfl) (by kernel_rfl) (by kernel_rfl) ?hQx1__1_2 (Or.inl ⟨?hwx1__1_2, ?hyx1__1_2⟩) (by assumption) ?_
    case hix1__1_2 => simp only [List.getElem?_toArray, List.getElem?_cons_succ, List.getElem?_cons_zero]; rfl
    case hQx1__1_2 => exact fun _ _ _ h => h
    case hwx1__1_2 => rfl
    case hyx1__1_2 => intro w hSw; (try dsimp only at hSw); (first | (go_simp; done) | (go_simp; with_reducible rfl))
    try simp only [Act.put, List.setIfInBounds_toArray, List.set_cons_zero, List.set_cons_succ]
    refine wpAnyH_take (i := 3) (oi := ?oix1__3_3) (v := ?vx1__3_3) ?hix1__3_3 (by kernel_rfl) (by kernel_rfl) (by kernel_rfl) ?hQx1__3_3 (Or.inl ⟨?hwx1__3_3, ?hyx1__3_3⟩) (by assumption) ?_
    case hix1__3_3 => simp only [List.getElem?_toArray, List.getElem?_cons_succ, List.getElem?_cons_zero]; rfl
    case hQx1__3_3 => exact fun _ _ _ h => h
    case hwx1__3_3 => rfl
    case hyx1__3_3 => intro w hSw; (try dsimp only at hSw); (first | (go_simp; done) | (go_simp; with_reducible rfl))
    try simp only [Act.put, List.setIfInBounds_toArray, List.set_cons_zero, List.set_cons_succ]
    refine wpAnyH_take (i := 4) (oi := ?oix1__4_4) (v := ?vx1__4_4) ?hix1__4_4 (by kernel_rfl) (by kernel_rfl) (by kernel_rfl) ?hQx1__4_4 (Or.inl ⟨?hwx1__4_4, ?hyx1__4_4⟩) (by assumption) ?_
    case hix1__4_4 => simp only [List.getElem?_toArray, List.getElem?_cons_succ, List.getElem?_cons_zero]; rfl
    case hQx1__4_4 => exact fun _ _ _ h => h
    case hwx1__4_4 => rfl
    case hyx1__4_4 => intro w hSw; (try dsimp only at hSw); (first | (go_simp; done) | (go_simp; with_reducible rfl))
    try simp only [Act.put, List.setIfInBounds_toArray, List.set_cons_zero, List.set_cons_succ]
    refine wpAnyH_take (i := 6) (oi := ?oix1__6_5) (v := ?vx1__6_5) ?hix1__6_5 (by kernel_rfl) (by kernel_rfl) (by kernel_rfl) ?hQx1__6_5 (Or.inl ⟨?hwx1__6_5, ?hyx1__6_5⟩) (by assumption) ?_
    case hix1__6_5 => simp only [List.getElem?_toArray, List.getElem?_cons_succ, List.getElem?_cons_zero]; rfl
    case hQx1__6_5 => exact fun _ _ _ h => h
    case hwx1__6_5 => rfl
    case hyx1__6_5 => intro w hSw; (try dsimp only at hSw); (first | (go_simp; done) | (go_simp; with_reducible rfl))
    try simp only [Act.put, List.setIfInBounds_toArray, List.set_cons_zero, List.set_cons_succ]
    refine wpAnyH_take (i := 7) (oi := ?oix1__7_6) (v := ?vx1__7_6) ?hix1__7_6 (by kernel_rfl) (by kernel_rfl) (by kernel_rfl) ?hQx1__7_6 (Or.inl ⟨?hwx1__7_6, ?hyx1__7_6⟩) (by assumption) ?_
    case hix1__7_6 => simp only [List.getElem?_toArray, List.getElem?_cons_succ, List.getElem?_cons_zero]; rfl
    case hQx1__7_6 => exact fun _ _ _ h => h
    case hwx1__7_6 => rfl
    case hyx1__7_6 => intro w hSw; (try dsimp only at hSw); (first | (go_simp; done) | (go_simp; with_reducible rfl))
    try simp only [Act.put, List.setIfInBounds_toArray, List.set_cons_zero, List.set_cons_succ]
    refine wpAnyH_take (i := 8) (oi := ?oix1__8_7) (v := ?vx1__8_7) ?hix1__8_7 (by kernel_rfl) (by kernel_rfl) (by kernel_rfl) ?hQx1__8_7 (Or.inl ⟨?hwx1__8_7, ?hyx1__8_7⟩) (by assumption) ?_
    case hix1__8_7 => simp only [List.getElem?_toArray, List.getElem?_cons_succ, List.getElem?_cons_zero]; rfl
    case hQx1__8_7 => exact fun _ _ _ h => h
    case hwx1__8_7 => rfl
    case hyx1__8_7 => intro w hSw; (try dsimp only at hSw); (first | (go_simp; done) | (go_simp; with_reducible rfl))
    try simp only [Act.put, List.setIfInBounds_toArray, List.set_cons_zero, List.set_cons_succ]
    refine wpAnyH_take (i := 9) (oi := ?oix1__9_8) (v := ?vx1__9_8) ?hix1__9_8 (by kernel_rfl) (by kernel_rfl) (by kernel_rfl) ?hQx1__9_8 (Or.inl ⟨?hwx1__9_8, ?hyx1__9_8⟩) (by assumption) ?_
    case hix1__9_8 => simp only [List.getElem?_toArray, List.getElem?_cons_succ, List.getElem?_cons_zero]; rfl
    case hQx1__9_8 => exact fun _ _ _ h => h
    case hwx1__9_8 => rfl
    case hyx1__9_8 => intro w hSw; (try dsimp only at hSw); (first | (go_simp; done) | (go_simp; with_reducible rfl))
    try simp only [Act.put, List.setIfInBounds_toArray, List.set_cons_zero, List.set_cons_succ]
    refine wpAnyH_take (i := 10) (oi := ?oix1__10_9) (v := ?vx1__10_9) ?hix1__10_9 (by kernel_rfl) (by kernel_rfl) (by kernel_rfl) ?hQx1__10_9 (Or.inl ⟨?hwx1__10_9, ?hyx1__10_9⟩) (by assumption) ?_
    case hix1__10_9 => simp only [List.getElem?_toArray, List.getElem?_cons_succ, List.getElem?_cons_zero]; rfl
    case hQx1__10_9 => exact fun _ _ _ h => h
    case hwx1__10_9 => rfl
    case hyx1__10_9 => intro w hSw; (try dsimp only at hSw); (first | (go_simp; done) | (go_simp; with_reducible rfl))
    try simp only [Act.put, List.setIfInBounds_toArray, List.set_cons_zero, List.set_cons_succ]
    refine wpAnyH_ready (rs := [2]) (by kernel_rfl) (by simp) ?_
    refine AllReadyH.cons (o := ?ox1__2_10) ?hix1__2_10 (fun K hK => ?gx1__2_10) AllReadyH.nil
    case hix1__2_10 => simp only [List.getElem?_toArray, List.getElem?_cons_succ, List.getElem?_cons_zero]; rfl
    case gx1__2_10 =>
      go_simp
      go_at_call 34
      (with_reducible refine (specSiteH w2 a.Site (by omega)).mono ?_); rintro e w3 ⟨rfl, bw3⟩
      replace o_v1 := owns_below o_v1 bw3
      replace HB := HB.trans (bw3.mono HB.size)
      have zw3 := bw3.size
      refine hK.out _ _ ?_ (fun hHeld => ?_)
      · exact ⟨var_load o_v1 (by simp) 0 _ rfl, var_load o_v1 (by simp) 1 _ rfl, var_load o_v1 (by simp) 2 _ rfl, var_load o_v1 (by simp) 3 _ rfl⟩
      clear hK K
      try simp only [Act.put, List.setIfInBounds_toArray, List.set_cons_zero, List.set_cons_succ]
      refine wpAnyH_ready (rs := [5]) (by kernel_rfl) (by simp) ?_
      refine AllReadyH.cons (o := ?ox1__5_11) ?hix1__5_11 (fun K hK => ?gx1__5_11) AllReadyH.nil
      case hix1__5_11 => simp only [List.getElem?_toArray, List.getElem?_cons_succ, List.getElem?_cons_zero]; rfl
      case gx1__5_11 =>
        go_simp
        go_at_call 80
        (with_reducible refine (C3b.specDerive w3 211 a.Origin (by omega) (by omega) (by omega)).mono ?_); rintro e w4 ⟨rfl, bw4⟩
        replace o_v1 := owns_below o_v1 bw4
        replace HB := HB.trans (bw4.mono HB.size)
        have zw4 := bw4.size
        refine hK.out _ _ ?_ (fun hHeld => ?_)
        · exact ⟨var_load o_v1 (by simp) 0 _ rfl, var_load o_v1 (by simp) 1 _ rfl, var_load o_v1 (by simp) 2 _ rfl, var_load o_v1 (by simp) 3 _ rfl⟩
        clear hK K
        try simp only [Act.put, List.setIfInBounds_toArray, List.set_cons_zero, List.set_cons_succ]
        refine wpAnyH_ready (rs := [11]) (by kernel_rfl) (by simp) ?_
        refine AllReadyH.cons (o := ?ox1__11_12) ?hix1__11_12 (fun K hK => ?gx1__11_12) AllReadyH.nil
        case hix1__11_12 => simp only [List.getElem?_toArray, List.getElem?_cons_succ, List.getElem?_cons_zero]; rfl
        case gx1__11_12 =>
          go_simp
          obtain ⟨w5, hw5⟩ : ∃ ww, ww = w4.alloc (.cells #[.int .i64 199, .int .i64 (siteH a.Site), .int .i64 (derive 211 (C3b.sbytes a.Origin)), .int .i64 a.Challenge, .int .i64 a.Handle, .int .i64 1] 3) := ⟨_, rfl⟩
          have o_R11_w5 : (w4.alloc (.cells #[.int .i64 199, .int .i64 (siteH a.Site), .int .i64 (derive 211 (C3b.sbytes a.Origin)), .int .i64 a.Challenge, .int .i64 a.Handle, .int .i64 1] 3)).ownsRow w4.heap.size 3 1 (.slice (some ⟨w4.heap.size, 0, none⟩) 6 6) 6 (ints .i64 [199, siteH a.Site, derive 211 (C3b.sbytes a.Origin), a.Challenge, a.Handle, 1]) := C6.own_ints w4 [199, siteH a.Site, derive 211 (C3b.sbytes a.Origin), a.Challenge, a.Handle, 1] 6 rfl (by omega)
          have bw5 : Below w4.heap.size w4 w5 := hw5 ▸ (Below.refl _ _).alloc (Nat.le_refl _) _
          rw [← hw5] at o_R11_w5 ⊢
          have zw5 : w4.heap.size < w5.heap.size := by rw [hw5]; simp
          clear hw5
          replace o_v1 := owns_below o_v1 bw5
          replace HB := HB.trans (bw5.mono HB.size)
          have i_R11_w5 := o_R11_w5.lt
          refine hK.out _ _ ?_ (fun hHeld => ?_)
          · exact ⟨var_load o_v1 (by simp) 0 _ rfl, var_load o_v1 (by simp) 1 _ rfl, var_load o_v1 (by simp) 2 _ rfl, var_load o_v1 (by simp) 3 _ rfl⟩
          clear hK K
          try simp only [Act.put, List.setIfInBounds_toArray, List.set_cons_zero, List.set_cons_succ]
          refine wpAnyH_take (i := 12) (oi := ?oix1__12_13) (v := ?vx1__12_13) ?hix1__12_13 (by kernel_rfl) (by kernel_rfl) (by kernel_rfl) ?hQx1__12_13 (Or.inl ⟨?hwx1__12_13, ?hyx1__12_13⟩) (by assumption) ?_
          case hix1__12_13 => simp only [List.getElem?_toArray, List.getElem?_cons_succ, List.getElem?_cons_zero]; rfl
          case hQx1__12_13 => exact fun _ _ _ h => h
          case hwx1__12_13 => rfl
          case hyx1__12_13 => intro w hSw; (try dsimp only at hSw); (first | (go_simp; done) | (go_simp; with_reducible rfl))
          try simp only [Act.put, List.setIfInBounds_toArray, List.set_cons_zero, List.set_cons_succ]
          refine wpAnyH_done (by kernel_rfl) ?_ _
          go_wp2
          refine bodyPost_ret (v := .slice (some ⟨w4.heap.size, 0, none⟩) 6 6) (by simp [results, Tryz.results45, go_sem]) rfl ?_
          have hm : ints .i64 (msg a) = ints .i64 [199, siteH a.Site, derive 211 (C3b.sbytes a.Origin), a.Challenge, a.Handle, 1] := by unfold msg; rw [hq1]; rfl
          rw [hm]
          exact ⟨_, _, rfl, own_base o_R11_w5 (by omega), HB⟩
  | false =>
    go_wp2_with fail
    obtain ⟨w1, hw1⟩ : ∃ ww, ww = w.alloc (.cells #[.string a.Site, .string a.Origin, .int .i64 a.Challenge, .int .i64 a.Handle, .bool false, .int .i64 a.Counter, .int .i64 a.Signature] 26) := ⟨_, rfl⟩
    have o_v1 := var_owns w 26 7 [.string a.Site, .string a.Origin, .int .i64 a.Challenge, .int .i64 a.Handle, .bool false, .int .i64 a.Counter, .int .i64 a.Signature] rfl
    have bw1 : Below w.heap.size w w1 := hw1 ▸ (Below.refl _ _).alloc (Nat.le_refl _) _
    have sw1 : w1.heap.size = w.heap.size + 1 := by rw [hw1]; simp
    rw [← hw1] at o_v1 ⊢
    have zw1 : w.heap.size < w1.heap.size := by omega
    have HB := bw1
    clear hw1
    obtain ⟨w2, hw2⟩ : ∃ ww, ww = w1.drew := ⟨_, rfl⟩
    have bw2 : Below w1.heap.size w1 w2 := hw2 ▸ drewN_below w1 1 _
    replace o_v1 := owns_below o_v1 bw2
    replace HB := HB.trans (bw2.mono HB.size)
    have zw2 := bw2.size
    refine wp_region_held_drew (S := (fun (wx : World) => wx.cell? ⟨w.heap.size, 0, none⟩ = some (.string a.Site) ∧ wx.cell? ⟨w.heap.size, 1, none⟩ = some (.string a.Origin) ∧ wx.cell? ⟨w.heap.size, 2, none⟩ = some (.int .i64 a.Challenge) ∧ wx.cell? ⟨w.heap.size, 3, none⟩ = some (.int .i64 a.Handle))) (by kernel_rfl) ?_ (fun hHeld => ?_)
    · rw [← hw2]; exact ⟨var_load o_v1 (by simp) 0 _ rfl, var_load o_v1 (by simp) 1 _ rfl, var_load o_v1 (by simp) 2 _ rfl, var_load o_v1 (by simp) 3 _ rfl⟩
    rw [← hw2] at hHeld ⊢
    clear hw2
    refine wpAnyH_take (i := 0) (oi := ?oix2__0_1) (v := ?vx2__0_1) ?hix2__0_1 (by kernel_rfl) (by kernel_rfl) (by kernel_rfl) ?hQx2__0_1 (Or.inl ⟨?hwx2__0_1, ?hyx2__0_1⟩) (by assumption) ?_
    case hix2__0_1 => simp only [List.getElem?_toArray, List.getElem?_cons_zero]; rfl
    case hQx2__0_1 => exact fun _ _ _ h => h
    case hwx2__0_1 => rfl
    case hyx2__0_1 => intro w hSw; (try dsimp only at hSw); (first | (go_simp; done) | (go_simp; with_reducible rfl))
    try simp only [Act.put, List.setIfInBounds_toArray, List.set_cons_zero, List.set_cons_succ]
    refine wpAnyH_take (i := 1) (oi := ?oix2__1_2) (v := ?vx2__1_2) ?hix2__1_2 (by kernel_rfl) (by kernel_rfl) (by kernel_rfl) ?hQx2__1_2 (Or.inl ⟨?hwx2__1_2, ?hyx2__1_2⟩) (by assumption) ?_
    case hix2__1_2 => simp only [List.getElem?_toArray, List.getElem?_cons_succ, List.getElem?_cons_zero]; rfl
    case hQx2__1_2 => exact fun _ _ _ h => h
    case hwx2__1_2 => rfl
    case hyx2__1_2 => intro w hSw; (try dsimp only at hSw); (first | (go_simp; done) | (go_simp; with_reducible rfl))
    try simp only [Act.put, List.setIfInBounds_toArray, List.set_cons_zero, List.set_cons_succ]
    refine wpAnyH_take (i := 3) (oi := ?oix2__3_3) (v := ?vx2__3_3) ?hix2__3_3 (by kernel_rfl) (by kernel_rfl) (by kernel_rfl) ?hQx2__3_3 (Or.inl ⟨?hwx2__3_3, ?hyx2__3_3⟩) (by assumption) ?_
    case hix2__3_3 => simp only [List.getElem?_toArray, List.getElem?_cons_succ, List.getElem?_cons_zero]; rfl
    case hQx2__3_3 => exact fun _ _ _ h => h
    case hwx2__3_3 => rfl
    case hyx2__3_3 => intro w hSw; (try dsimp only at hSw); (first | (go_simp; done) | (go_simp; with_reducible rfl))
    try simp only [Act.put, List.setIfInBounds_toArray, List.set_cons_zero, List.set_cons_succ]
    refine wpAnyH_take (i := 4) (oi := ?oix2__4_4) (v := ?vx2__4_4) ?hix2__4_4 (by kernel_rfl) (by kernel_rfl) (by kernel_rfl) ?hQx2__4_4 (Or.inl ⟨?hwx2__4_4, ?hyx2__4_4⟩) (by assumption) ?_
    case hix2__4_4 => simp only [List.getElem?_toArray, List.getElem?_cons_succ, List.getElem?_cons_zero]; rfl
    case hQx2__4_4 => exact fun _ _ _ h => h
    case hwx2__4_4 => rfl
    case hyx2__4_4 => intro w hSw; (try dsimp only at hSw); (first | (go_simp; done) | (go_simp; with_reducible rfl))
    try simp only [Act.put, List.setIfInBounds_toArray, List.set_cons_zero, List.set_cons_succ]
    refine wpAnyH_take (i := 6) (oi := ?oix2__6_5) (v := ?vx2__6_5) ?hix2__6_5 (by kernel_rfl) (by kernel_rfl) (by kernel_rfl) ?hQx2__6_5 (Or.inl ⟨?hwx2__6_5, ?hyx2__6_5⟩) (by assumption) ?_
    case hix2__6_5 => simp only [List.getElem?_toArray, List.getElem?_cons_succ, List.getElem?_cons_zero]; rfl
    case hQx2__6_5 => exact fun _ _ _ h => h
    case hwx2__6_5 => rfl
    case hyx2__6_5 => intro w hSw; (try dsimp only at hSw); (first | (go_simp; done) | (go_simp; with_reducible rfl))
    try simp only [Act.put, List.setIfInBounds_toArray, List.set_cons_zero, List.set_cons_succ]
    refine wpAnyH_take (i := 7) (oi := ?oix2__7_6) (v := ?vx2__7_6) ?hix2__7_6 (by kernel_rfl) (by kernel_rfl) (by kernel_rfl) ?hQx2__7_6 (Or.inl ⟨?hwx2__7_6, ?hyx2__7_6⟩) (by assumption) ?_
    case hix2__7_6 => simp only [List.getElem?_toArray, List.getElem?_cons_succ, List.getElem?_cons_zero]; rfl
    case hQx2__7_6 => exact fun _ _ _ h => h
    case hwx2__7_6 => rfl
    case hyx2__7_6 => intro w hSw; (try dsimp only at hSw); (first | (go_simp; done) | (go_simp; with_reducible rfl))
    try simp only [Act.put, List.setIfInBounds_toArray, List.set_cons_zero, List.set_cons_succ]
    refine wpAnyH_take (i := 8) (oi := ?oix2__8_7) (v := ?vx2__8_7) ?hix2__8_7 (by kernel_rfl) (by kernel_rfl) (by kernel_rfl) ?hQx2__8_7 (Or.inl ⟨?hwx2__8_7, ?hyx2__8_7⟩) (by assumption) ?_
    case hix2__8_7 => simp only [List.getElem?_toArray, List.getElem?_cons_succ, List.getElem?_cons_zero]; rfl
    case hQx2__8_7 => exact fun _ _ _ h => h
    case hwx2__8_7 => rfl
    case hyx2__8_7 => intro w hSw; (try dsimp only at hSw); (first | (go_simp; done) | (go_simp; with_reducible rfl))
    try simp only [Act.put, List.setIfInBounds_toArray, List.set_cons_zero, List.set_cons_succ]
    refine wpAnyH_take (i := 9) (oi := ?oix2__9_8) (v := ?vx2__9_8) ?hix2__9_8 (by kernel_rfl) (by kernel_rfl) (by kernel_rfl) ?hQx2__9_8 (Or.inl ⟨?hwx2__9_8, ?hyx2__9_8⟩) (by assumption) ?_
    case hix2__9_8 => simp only [List.getElem?_toArray, List.getElem?_cons_succ, List.getElem?_cons_zero]; rfl
    case hQx2__9_8 => exact fun _ _ _ h => h
    case hwx2__9_8 => rfl
    case hyx2__9_8 => intro w hSw; (try dsimp only at hSw); (first | (go_simp; done) | (go_simp; with_reducible rfl))
    try simp only [Act.put, List.setIfInBounds_toArray, List.set_cons_zero, List.set_cons_succ]
    refine wpAnyH_take (i := 10) (oi := ?oix2__10_9) (v := ?vx2__10_9) ?hix2__10_9 (by kernel_rfl) (by kernel_rfl) (by kernel_rfl) ?hQx2__10_9 (Or.inl ⟨?hwx2__10_9, ?hyx2__10_9⟩) (by assumption) ?_
    case hix2__10_9 => simp only [List.getElem?_toArray, List.getElem?_cons_succ, List.getElem?_cons_zero]; rfl
    case hQx2__10_9 => exact fun _ _ _ h => h
    case hwx2__10_9 => rfl
    case hyx2__10_9 => intro w hSw; (try dsimp only at hSw); (first | (go_simp; done) | (go_simp; with_reducible rfl))
    try simp only [Act.put, List.setIfInBounds_toArray, List.set_cons_zero, List.set_cons_succ]
    refine wpAnyH_ready (rs := [2]) (by kernel_rfl) (by simp) ?_
    refine AllReadyH.cons (o := ?ox2__2_10) ?hix2__2_10 (fun K hK => ?gx2__2_10) AllReadyH.nil
    case hix2__2_10 => simp only [List.getElem?_toArray, List.getElem?_cons_succ, List.getElem?_cons_zero]; rfl
    case gx2__2_10 =>
      go_simp
      go_at_call 34
      (with_reducible refine (specSiteH w2 a.Site (by omega)).mono ?_); rintro e w3 ⟨rfl, bw3⟩
      replace o_v1 := owns_below o_v1 bw3
      replace HB := HB.trans (bw3.mono HB.size)
      have zw3 := bw3.size
      refine hK.out _ _ ?_ (fun hHeld => ?_)
      · exact ⟨var_load o_v1 (by simp) 0 _ rfl, var_load o_v1 (by simp) 1 _ rfl, var_load o_v1 (by simp) 2 _ rfl, var_load o_v1 (by simp) 3 _ rfl⟩
      clear hK K
      try simp only [Act.put, List.setIfInBounds_toArray, List.set_cons_zero, List.set_cons_succ]
      refine wpAnyH_ready (rs := [5]) (by kernel_rfl) (by simp) ?_
      refine AllReadyH.cons (o := ?ox2__5_11) ?hix2__5_11 (fun K hK => ?gx2__5_11) AllReadyH.nil
      case hix2__5_11 => simp only [List.getElem?_toArray, List.getElem?_cons_succ, List.getElem?_cons_zero]; rfl
      case gx2__5_11 =>
        go_simp
        go_at_call 80
        (with_reducible refine (C3b.specDerive w3 211 a.Origin (by omega) (by omega) (by omega)).mono ?_); rintro e w4 ⟨rfl, bw4⟩
        replace o_v1 := owns_below o_v1 bw4
        replace HB := HB.trans (bw4.mono HB.size)
        have zw4 := bw4.size
        refine hK.out _ _ ?_ (fun hHeld => ?_)
        · exact ⟨var_load o_v1 (by simp) 0 _ rfl, var_load o_v1 (by simp) 1 _ rfl, var_load o_v1 (by simp) 2 _ rfl, var_load o_v1 (by simp) 3 _ rfl⟩
        clear hK K
        try simp only [Act.put, List.setIfInBounds_toArray, List.set_cons_zero, List.set_cons_succ]
        refine wpAnyH_ready (rs := [11]) (by kernel_rfl) (by simp) ?_
        refine AllReadyH.cons (o := ?ox2__11_12) ?hix2__11_12 (fun K hK => ?gx2__11_12) AllReadyH.nil
        case hix2__11_12 => simp only [List.getElem?_toArray, List.getElem?_cons_succ, List.getElem?_cons_zero]; rfl
        case gx2__11_12 =>
          go_simp
          obtain ⟨w5, hw5⟩ : ∃ ww, ww = w4.alloc (.cells #[.int .i64 199, .int .i64 (siteH a.Site), .int .i64 (derive 211 (C3b.sbytes a.Origin)), .int .i64 a.Challenge, .int .i64 a.Handle, .int .i64 0] 3) := ⟨_, rfl⟩
          have o_R11_w5 : (w4.alloc (.cells #[.int .i64 199, .int .i64 (siteH a.Site), .int .i64 (derive 211 (C3b.sbytes a.Origin)), .int .i64 a.Challenge, .int .i64 a.Handle, .int .i64 0] 3)).ownsRow w4.heap.size 3 1 (.slice (some ⟨w4.heap.size, 0, none⟩) 6 6) 6 (ints .i64 [199, siteH a.Site, derive 211 (C3b.sbytes a.Origin), a.Challenge, a.Handle, 0]) := C6.own_ints w4 [199, siteH a.Site, derive 211 (C3b.sbytes a.Origin), a.Challenge, a.Handle, 0] 6 rfl (by omega)
          have bw5 : Below w4.heap.size w4 w5 := hw5 ▸ (Below.refl _ _).alloc (Nat.le_refl _) _
          rw [← hw5] at o_R11_w5 ⊢
          have zw5 : w4.heap.size < w5.heap.size := by rw [hw5]; simp
          clear hw5
          replace o_v1 := owns_below o_v1 bw5
          replace HB := HB.trans (bw5.mono HB.size)
          have i_R11_w5 := o_R11_w5.lt
          refine hK.out _ _ ?_ (fun hHeld => ?_)
          · exact ⟨var_load o_v1 (by simp) 0 _ rfl, var_load o_v1 (by simp) 1 _ rfl, var_load o_v1 (by simp) 2 _ rfl, var_load o_v1 (by simp) 3 _ rfl⟩
          clear hK K
          try simp only [Act.put, List.setIfInBounds_toArray, List.set_cons_zero, List.set_cons_succ]
          refine wpAnyH_take (i := 12) (oi := ?oix2__12_13) (v := ?vx2__12_13) ?hix2__12_13 (by kernel_rfl) (by kernel_rfl) (by kernel_rfl) ?hQx2__12_13 (Or.inl ⟨?hwx2__12_13, ?hyx2__12_13⟩) (by assumption) ?_
          case hix2__12_13 => simp only [List.getElem?_toArray, List.getElem?_cons_succ, List.getElem?_cons_zero]; rfl
          case hQx2__12_13 => exact fun _ _ _ h => h
          case hwx2__12_13 => rfl
          case hyx2__12_13 => intro w hSw; (try dsimp only at hSw); (first | (go_simp; done) | (go_simp; with_reducible rfl))
          try simp only [Act.put, List.setIfInBounds_toArray, List.set_cons_zero, List.set_cons_succ]
          refine wpAnyH_done (by kernel_rfl) ?_ _
          go_wp2
          refine bodyPost_ret (v := .slice (some ⟨w4.heap.size, 0, none⟩) 6 6) (by simp [results, Tryz.results45, go_sem]) rfl ?_
          have hm : ints .i64 (msg a) = ints .i64 [199, siteH a.Site, derive 211 (C3b.sbytes a.Origin), a.Challenge, a.Handle, 0] := by unfold msg; rw [hq1]; rfl
          rw [hm]
          exact ⟨_, _, rfl, own_base o_R11_w5 (by omega), HB⟩
end Go.Proofs.YtialhhdhpjjkaaaGreatDoor.C13m
