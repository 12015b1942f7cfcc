import Derived.Test.YtialhhdhpjjkaaaGreatDoorC13m
import Derived.Test.YtialhhdhpjjkaaaGreatDoorC9b
import Derived.Test.YtialhhdhpjjkaaaGreatDoorC9c
import Derived.Test.YtialhhdhpjjkaaaGreatDoorC10
import Derived.Test.YtialhhdhpjjkaaaGreatDoorDa14
/-
  Contracts of chapter 13's checked assertions, of the model.
-/
namespace Go.Proofs.YtialhhdhpjjkaaaGreatDoor.C13
open Go.ChangeShapes Go.WideShapes Go.ChangeAt Go.RowKit
open S0 S1 S9 Dm Fx M3 M8 M12 M13 C3 C6 C9 C13m
set_option linter.unusedVariables false
set_option linter.unusedSimpArgs false
set_option maxRecDepth 100000
theorem str_ext {a b : ByteArray} (h : a.toList = b.toList) : a = b := by
  rw [Lib.toList_data, Lib.toList_data] at h
  cases a; cases b
  simp at h
  rw [h]
noncomputable def chkA (p : Int) (a : Fx.Assertion) (s : ByteArray) (ch ctr : Int) : Int :=
  if a.Site = s then (if poB (bts a.Origin) = true then (if mayO (poO (bts a.Origin)) (bts s) = true then (if a.Present = true then (if a.Challenge = ch then (if vsg p (msg a ++ [a.Counter]) a.Signature = true then (if ctr < a.Counter then 0 else 4) else 5) else 3) else 2) else 1) else 1) else 1
theorem po_gives {o : Fx.Origin} {b : Bool} {w : World} {e : Ending} {w' : World} (h : MadeLx o.dcs (fun vs => .tuple #[.agg vs.toArray, .bool b]) w e w') : Gives (.tuple #[.agg #[.bool o.Secure, .string o.Host, .int .i64 o.Port], .bool b]) w e w' := by
  obtain ⟨vs, bs, rfl, ho, _, hb⟩ := h
  obtain ⟨rfl, _⟩ := Origin.owns ho
  exact ⟨rfl, hb⟩
theorem org_rds (w : World) (hi : Nat) (o : Fx.Origin) : RdsL w hi o.dcs [.bool o.Secure, .string o.Host, .int .i64 o.Port] := Origin.mkR
set_option maxHeartbeats 8000000 in
theorem specChk (w : World) (p : Int) (a : Fx.Assertion) (z : ByteArray) (ch ctr : Int) (us : List Value) (h : RdsL w w.heap.size a.dcs us) (ha : a.ok) (hs : a.Site.size ≤ 16000000) (hs2 : a.Origin.size ≤ 16000000) (hz : z.size ≤ 16000000) :
    Calls Tryz.prog 9 #[.int .i64 p, .agg us.toArray, .string z, .int .i64 ch, .int .i64 ctr] w (Gives (.int .i64 (chkA p a z ch ctr)) w) := by
  obtain rfl := Assertion.rds h
  clear h
  have HMC := Lib.hid ((msg_ok ha).app (okInts.one ha.Counter.1 ha.Counter.2))
  have KPo := Lib.hid (fun wx => (C9c.specPo wx a.Origin (by omega)).mono (fun e w' h => po_gives h))
  have hph := po_size (bts a.Origin)
  clear ha
  go_enter Tryz.func9, Tryz.ntmps9
  go_wp2_with fail
  obtain ⟨w1, hw1⟩ : ∃ ww, ww = w.alloc (.cells #[.string a.Site, .string a.Origin, .int .i64 a.Challenge, .int .i64 a.Handle, .bool a.Present, .int .i64 a.Counter, .int .i64 a.Signature] 26) := ⟨_, rfl⟩
  have o_v6 := var_owns w 26 7 [.string a.Site, .string a.Origin, .int .i64 a.Challenge, .int .i64 a.Handle, .bool a.Present, .int .i64 a.Counter, .int .i64 a.Signature] rfl
  have bw1 : Below w.heap.size w w1 := hw1 ▸ (Below.refl _ _).alloc (Nat.le_refl _) _
  have sw1 : w1.heap.size = w.heap.size + 1 := by rw [hw1]; simp
  rw [← hw1] at o_v6 ⊢
  have zw1 : w.heap.size < w1.heap.size := by omega
  have HB := bw1
  clear hw1
  (with_reducible refine (KPo.out _).mono ?_); rintro e w2 ⟨rfl, bw2⟩
  replace o_v6 := owns_below o_v6 bw2
  replace HB := HB.trans (bw2.mono HB.size)
  have zw2 := bw2.size
  by_cases hq1 : a.Site = z
  ·
    have hq1a : (a.Site.toList == z.toList) = true := by simpa [Lib.toList_data] using congrArg ByteArray.toList hq1
    have HQ1 := Lib.hid hq1
    clear hq1
    cases hq2 : poB (bts a.Origin) with
    | true =>
      obtain ⟨c_v60, f_v60, c_v61, f_v61, c_v62, f_v62, c_v63, f_v63, c_v64, f_v64, c_v65, f_v65, c_v66, f_v66, l_v6⟩ := Vn.v7 o_v6
      go_wp2_with fail
      clear c_v60 f_v60 c_v61 f_v61 c_v62 f_v62 c_v63 f_v63 c_v64 f_v64 c_v65 f_v65 c_v66 f_v66 l_v6
      obtain ⟨w3, hw3⟩ : ∃ ww, ww = w2.alloc (.cells #[.bool ((poO (bts a.Origin)).Secure), .string ((poO (bts a.Origin)).Host), .int .i64 ((poO (bts a.Origin)).Port)] 45) := ⟨_, rfl⟩
      have o_v11 := var_owns w2 45 3 [.bool ((poO (bts a.Origin)).Secure), .string ((poO (bts a.Origin)).Host), .int .i64 ((poO (bts a.Origin)).Port)] rfl
      have bw3 : Below w2.heap.size w2 w3 := hw3 ▸ (Below.refl _ _).alloc (Nat.le_refl _) _
      have sw3 : w3.heap.size = w2.heap.size + 1 := by rw [hw3]; simp
      rw [← hw3] at o_v11 ⊢
      have zw3 : w2.heap.size < w3.heap.size := by omega
      replace o_v6 := owns_below o_v6 bw3
      replace HB := HB.trans (bw3.mono HB.size)
      clear hw3
      (with_reducible refine (C9b.specMay _ (poO (bts a.Origin)) z _ (org_rds _ _ _) (by omega) (by omega)).mono ?_); rintro e w4 ⟨rfl, bw4⟩
      replace o_v6 := owns_below o_v6 bw4
      replace o_v11 := owns_below o_v11 bw4
      replace HB := HB.trans (bw4.mono HB.size)
      have zw4 := bw4.size
      cases hq3 : mayO (poO (bts a.Origin)) (bts z) with
      | true =>
        cases hq4 : a.Present with
        | true =>
          by_cases hq5 : a.Challenge = ch
          ·
            have hq5a : (a.Challenge == ch) = true := by simpa using hq5
            have hq5b : (a.Challenge != ch) = false := by simp [hq5]
            have HQ5 := Lib.hid hq5
            clear hq5
            obtain ⟨c_v60, f_v60, c_v61, f_v61, c_v62, f_v62, c_v63, f_v63, c_v64, f_v64, c_v65, f_v65, c_v66, f_v66, l_v6⟩ := Vn.v7 o_v6
            go_wp2_with fail
            clear c_v60 f_v60 c_v61 f_v61 c_v62 f_v62 c_v63 f_v63 c_v64 f_v64 c_v65 f_v65 c_v66 f_v66 l_v6
            obtain ⟨w5, hw5⟩ : ∃ ww, ww = w4.drew := ⟨_, rfl⟩
            have bw5 : Below w4.heap.size w4 w5 := hw5 ▸ drewN_below w4 1 _
            replace o_v6 := owns_below o_v6 bw5
            replace o_v11 := owns_below o_v11 bw5
            replace HB := HB.trans (bw5.mono HB.size)
            have zw5 := bw5.size
            refine wp_region_held_drew (S := (fun (wx : World) => wx.cell? ⟨w.heap.size, 0, none⟩ = some (.string a.Site) ∧ wx.cell? ⟨w.heap.size, 1, none⟩ = some (.string a.Origin) ∧ wx.cell? ⟨w.heap.size, 2, none⟩ = some (.int .i64 a.Challenge) ∧ wx.cell? ⟨w.heap.size, 3, none⟩ = some (.int .i64 a.Handle) ∧ wx.cell? ⟨w.heap.size, 4, none⟩ = some (.bool a.Present) ∧ wx.cell? ⟨w.heap.size, 5, none⟩ = some (.int .i64 a.Counter) ∧ wx.cell? ⟨w.heap.size, 6, none⟩ = some (.int .i64 a.Signature))) (by kernel_rfl) ?_ (fun hHeld => ?_)
            · rw [← hw5]; exact ⟨var_load o_v6 (by simp) 0 _ rfl, var_load o_v6 (by simp) 1 _ rfl, var_load o_v6 (by simp) 2 _ rfl, var_load o_v6 (by simp) 3 _ rfl, var_load o_v6 (by simp) 4 _ rfl, var_load o_v6 (by simp) 5 _ rfl, var_load o_v6 (by simp) 6 _ rfl⟩
            rw [← hw5] at hHeld ⊢
            clear hw5
            refine wpAnyH_take (i := 0) (oi := ?oix1__0_1) (v := ?vx1__0_1) ?hix1__0_1 (by kernel_rfl) (by kernel_rfl) (by kernel_rfl) ?hQx1__0_1 (Or.inl ⟨?hwx1__0_1, ?hyx1__0_1⟩) (by assumption) ?_
            case hix1__0_1 => simp only [List.getElem?_toArray, List.getElem?_cons_zero]; rfl
            case hQx1__0_1 => exact fun _ _ _ h => h
            case hwx1__0_1 => rfl
            case hyx1__0_1 => intro w hSw; (try dsimp only at hSw); (first | (go_simp; done) | (go_simp; with_reducible rfl))
            try simp only [Act.put, List.setIfInBounds_toArray, List.set_cons_zero, List.set_cons_succ]
            refine wpAnyH_take (i := 1) (oi := ?oix1__1_2) (v := ?vx1__1_2) ?hix1__1_2 (by kernel_rfl) (by kernel_rfl) (by kernel_rfl) ?hQx1__1_2 (Or.inl ⟨?hwx1__1_2, ?hyx1__1_2⟩) (by assumption) ?_
            case hix1__1_2 => simp only [List.getElem?_toArray, List.getElem?_cons_succ, List.getElem?_cons_zero]; rfl
            case hQx1__1_2 => exact fun _ _ _ h => h
            case hwx1__1_2 => rfl
            case hyx1__1_2 => intro w hSw; (try dsimp only at hSw); (first | (go_simp; done) | (go_simp; with_reducible rfl))
            try simp only [Act.put, List.setIfInBounds_toArray, List.set_cons_zero, List.set_cons_succ]
            refine wpAnyH_take (i := 3) (oi := ?oix1__3_3) (v := ?vx1__3_3) ?hix1__3_3 (by kernel_rfl) (by kernel_rfl) (by kernel_rfl) ?hQx1__3_3 (Or.inl ⟨?hwx1__3_3, ?hyx1__3_3⟩) (by assumption) ?_
            case hix1__3_3 => simp only [List.getElem?_toArray, List.getElem?_cons_succ, List.getElem?_cons_zero]; rfl
            case hQx1__3_3 => exact fun _ _ _ h => h
            case hwx1__3_3 => rfl
            case hyx1__3_3 => intro w hSw; (try dsimp only at hSw); (first | (go_simp; done) | (go_simp; with_reducible rfl))
            try simp only [Act.put, List.setIfInBounds_toArray, List.set_cons_zero, List.set_cons_succ]
            refine wpAnyH_take (i := 4) (oi := ?oix1__4_4) (v := ?vx1__4_4) ?hix1__4_4 (by kernel_rfl) (by kernel_rfl) (by kernel_rfl) ?hQx1__4_4 (Or.inl ⟨?hwx1__4_4, ?hyx1__4_4⟩) (by assumption) ?_
            case hix1__4_4 => simp only [List.getElem?_toArray, List.getElem?_cons_succ, List.getElem?_cons_zero]; rfl
            case hQx1__4_4 => exact fun _ _ _ h => h
            case hwx1__4_4 => rfl
            case hyx1__4_4 => intro w hSw; (try dsimp only at hSw); (first | (go_simp; done) | (go_simp; with_reducible rfl))
            try simp only [Act.put, List.setIfInBounds_toArray, List.set_cons_zero, List.set_cons_succ]
            refine wpAnyH_take (i := 7) (oi := ?oix1__7_5) (v := ?vx1__7_5) ?hix1__7_5 (by kernel_rfl) (by kernel_rfl) (by kernel_rfl) ?hQx1__7_5 (Or.inl ⟨?hwx1__7_5, ?hyx1__7_5⟩) (by assumption) ?_
            case hix1__7_5 => simp only [List.getElem?_toArray, List.getElem?_cons_succ, List.getElem?_cons_zero]; rfl
            case hQx1__7_5 => exact fun _ _ _ h => h
            case hwx1__7_5 => rfl
            case hyx1__7_5 => intro w hSw; (try dsimp only at hSw); (first | (go_simp; done) | (go_simp; with_reducible rfl))
            try simp only [Act.put, List.setIfInBounds_toArray, List.set_cons_zero, List.set_cons_succ]
            refine wpAnyH_take (i := 8) (oi := ?oix1__8_6) (v := ?vx1__8_6) ?hix1__8_6 (by kernel_rfl) (by kernel_rfl) (by kernel_rfl) ?hQx1__8_6 (Or.inl ⟨?hwx1__8_6, ?hyx1__8_6⟩) (by assumption) ?_
            case hix1__8_6 => simp only [List.getElem?_toArray, List.getElem?_cons_succ, List.getElem?_cons_zero]; rfl
            case hQx1__8_6 => exact fun _ _ _ h => h
            case hwx1__8_6 => rfl
            case hyx1__8_6 => intro w hSw; (try dsimp only at hSw); (first | (go_simp; done) | (go_simp; with_reducible rfl))
            try simp only [Act.put, List.setIfInBounds_toArray, List.set_cons_zero, List.set_cons_succ]
            refine wpAnyH_ready (rs := [2, 5]) (by kernel_rfl) (by simp) ?_
            refine AllReadyH.cons (o := ?ox1__2_7) ?hix1__2_7 (fun K hK => ?gx1__2_7) (AllReadyH.cons (o := ?ox1__5_7) ?hix1__5_7 (fun K hK => ?gx1__5_7) AllReadyH.nil)
            case hix1__2_7 => simp only [List.getElem?_toArray, List.getElem?_cons_succ, List.getElem?_cons_zero]; rfl
            case hix1__5_7 => simp only [List.getElem?_toArray, List.getElem?_cons_succ, List.getElem?_cons_zero]; rfl
            case gx1__2_7 =>
              go_simp
              go_at_call 45
              have K9 := specMsg w5 a _ (as_rds _ _ a) (by omega) (by omega)
              rw [hq4] at K9
              (with_reducible refine (K9).mono ?_); rintro e w6 ⟨A9, c9, rfl, o_R9, bw6⟩
              replace o_v6 := owns_below o_v6 bw6
              replace o_v11 := owns_below o_v11 bw6
              replace HB := HB.trans (bw6.mono HB.size)
              have zw6 := bw6.size
              have i_R9 := o_R9.lt
              clear K9
              refine hK.out _ _ ?_ (fun hHeld => ?_)
              · exact ⟨var_load o_v6 (by simp) 0 _ rfl, var_load o_v6 (by simp) 1 _ rfl, var_load o_v6 (by simp) 2 _ rfl, var_load o_v6 (by simp) 3 _ rfl, var_load o_v6 (by simp) 4 _ rfl, var_load o_v6 (by simp) 5 _ rfl, var_load o_v6 (by simp) 6 _ rfl⟩
              clear hK K
              try simp only [Act.put, List.setIfInBounds_toArray, List.set_cons_zero, List.set_cons_succ]
              refine wpAnyH_ready (rs := [5]) (by kernel_rfl) (by simp) ?_
              refine AllReadyH.cons (o := ?ox1__5_8) ?hix1__5_8 (fun K hK => ?gx1__5_8) AllReadyH.nil
              case hix1__5_8 => simp only [List.getElem?_toArray, List.getElem?_cons_succ, List.getElem?_cons_zero]; rfl
              case gx1__5_8 =>
                go_simp
                obtain ⟨w7, hw7⟩ : ∃ ww, ww = w6.alloc (.cells #[.int .i64 a.Counter] 3) := ⟨_, rfl⟩
                have o_R5_w7 : (w6.alloc (.cells #[.int .i64 a.Counter] 3)).ownsRow w6.heap.size 3 1 (.slice (some ⟨w6.heap.size, 0, none⟩) 1 1) 1 (ints .i64 [a.Counter]) := C6.own_ints w6 [a.Counter] 1 rfl (by omega)
                have bw7 : Below w6.heap.size w6 w7 := hw7 ▸ (Below.refl _ _).alloc (Nat.le_refl _) _
                rw [← hw7] at o_R5_w7 ⊢
                have zw7 : w6.heap.size < w7.heap.size := by rw [hw7]; simp
                clear hw7
                replace o_v6 := owns_below o_v6 bw7
                replace o_v11 := owns_below o_v11 bw7
                replace o_R9 := own_below o_R9 bw7
                replace HB := HB.trans (bw7.mono HB.size)
                have i_R5_w7 := o_R5_w7.lt
                refine hK.out _ _ ?_ (fun hHeld => ?_)
                · exact ⟨var_load o_v6 (by simp) 0 _ rfl, var_load o_v6 (by simp) 1 _ rfl, var_load o_v6 (by simp) 2 _ rfl, var_load o_v6 (by simp) 3 _ rfl, var_load o_v6 (by simp) 4 _ rfl, var_load o_v6 (by simp) 5 _ rfl, var_load o_v6 (by simp) 6 _ rfl⟩
                clear hK K
                try simp only [Act.put, List.setIfInBounds_toArray, List.set_cons_zero, List.set_cons_succ]
                refine wpAnyH_ready (rs := [6]) (by kernel_rfl) (by simp) ?_
                refine AllReadyH.cons (o := ?ox1__6_9) ?hix1__6_9 (fun K hK => ?gx1__6_9) AllReadyH.nil
                case hix1__6_9 => simp only [List.getElem?_toArray, List.getElem?_cons_succ, List.getElem?_cons_zero]; rfl
                case gx1__6_9 =>
                  refine Ra.stepI w7 rfl (.tmp 46) (.tmp 49) rfl (w5.heap.size) (.slice A9 6 c9) (6) _ (by simp [Act.eval]) o_R9 _ ((some ⟨w6.heap.size, 0, none⟩)) (1) (1) ([a.Counter]) (by simp [Act.eval]) (Rd.own o_R5_w7) (by omega) (by omega) ?_
                  intro vw8 w8 o_R6_w8 gw8 kw8
                  have Tw8 := turned_grown gw8
                  have Qw8 : ∀ b, b ∈ Option.toList (Value.ownBlock (.slice A9 6 c9)) → w5.heap.size ≤ b := fun b hb => (o_R9.lt b (by simpa using hb)).1
                  replace o_v6 := owns_turned o_v6 Tw8 (fun b hb hb2 => by have h1 := Qw8 b hb2; simp at hb; omega)
                  replace o_v11 := owns_turned o_v11 Tw8 (fun b hb hb2 => by have h1 := Qw8 b hb2; simp at hb; omega)
                  clear o_R5_w7 i_R5_w7
                  clear o_R9 i_R9
                  replace HB := below_turned HB Tw8 (fun b hb => by have h1 := Qw8 b hb; omega)
                  have zw8 := gw8.size
                  obtain ⟨Aw8, cw8, rfl⟩ := own_nil_form o_R6_w8
                  have i_R6_w8 := o_R6_w8.lt
                  replace o_R6_w8 : w8.ownsRow (w5.heap.size) 3 1 (.slice Aw8 7 cw8) 7 (ints .i64 (msg a ++ [a.Counter])) := o_R6_w8
                  refine hK.out _ _ ?_ (fun hHeld => ?_)
                  · exact ⟨var_load o_v6 (by simp) 0 _ rfl, var_load o_v6 (by simp) 1 _ rfl, var_load o_v6 (by simp) 2 _ rfl, var_load o_v6 (by simp) 3 _ rfl, var_load o_v6 (by simp) 4 _ rfl, var_load o_v6 (by simp) 5 _ rfl, var_load o_v6 (by simp) 6 _ rfl⟩
                  clear hK K
                  try simp only [Act.put, List.setIfInBounds_toArray, List.set_cons_zero, List.set_cons_succ]
                  refine wpAnyH_ready (rs := [9]) (by kernel_rfl) (by simp) ?_
                  refine AllReadyH.cons (o := ?ox1__9_10) ?hix1__9_10 (fun K hK => ?gx1__9_10) AllReadyH.nil
                  case hix1__9_10 => simp only [List.getElem?_toArray, List.getElem?_cons_succ, List.getElem?_cons_zero]; rfl
                  case gx1__9_10 =>
                    go_simp
                    go_at_call 46
                    (with_reducible refine (specVsg _ Aw8 7 cw8 (msg a ++ [a.Counter]) p a.Signature (Rd.own o_R6_w8) HMC.out (by omega)).mono ?_); rintro e w9 ⟨rfl, bw9⟩
                    replace o_v6 := owns_below o_v6 bw9
                    replace o_v11 := owns_below o_v11 bw9
                    replace o_R6_w8 := own_below o_R6_w8 bw9
                    replace HB := HB.trans (bw9.mono HB.size)
                    have zw9 := bw9.size
                    refine hK.out _ _ ?_ (fun hHeld => ?_)
                    · exact ⟨var_load o_v6 (by simp) 0 _ rfl, var_load o_v6 (by simp) 1 _ rfl, var_load o_v6 (by simp) 2 _ rfl, var_load o_v6 (by simp) 3 _ rfl, var_load o_v6 (by simp) 4 _ rfl, var_load o_v6 (by simp) 5 _ rfl, var_load o_v6 (by simp) 6 _ rfl⟩
                    clear hK K
                    try simp only [Act.put, List.setIfInBounds_toArray, List.set_cons_zero, List.set_cons_succ]
                    refine wpAnyH_take (i := 10) (oi := ?oix1__10_11) (v := ?vx1__10_11) ?hix1__10_11 (by kernel_rfl) (by kernel_rfl) (by kernel_rfl) ?hQx1__10_11 (Or.inl ⟨?hwx1__10_11, ?hyx1__10_11⟩) (by assumption) ?_
                    case hix1__10_11 => simp only [List.getElem?_toArray, List.getElem?_cons_succ, List.getElem?_cons_zero]; rfl
                    case hQx1__10_11 => exact fun _ _ _ h => h
                    case hwx1__10_11 => rfl
                    case hyx1__10_11 => intro w hSw; (try dsimp only at hSw); (first | (go_simp; done) | (go_simp; with_reducible rfl))
                    try simp only [Act.put, List.setIfInBounds_toArray, List.set_cons_zero, List.set_cons_succ]
                    refine wpAnyH_take (i := 11) (oi := ?oix1__11_12) (v := ?vx1__11_12) ?hix1__11_12 (by kernel_rfl) (by kernel_rfl) (by kernel_rfl) ?hQx1__11_12 (Or.inl ⟨?hwx1__11_12, ?hyx1__11_12⟩) (by assumption) ?_
                    case hix1__11_12 => simp only [List.getElem?_toArray, List.getElem?_cons_succ, List.getElem?_cons_zero]; rfl
                    case hQx1__11_12 => exact fun _ _ _ h => h
                    case hwx1__11_12 => rfl
                    case hyx1__11_12 => intro w hSw; (try dsimp only at hSw); (first | (go_simp; done) | (go_simp; with_reducible rfl))
                    try simp only [Act.put, List.setIfInBounds_toArray, List.set_cons_zero, List.set_cons_succ]
                    refine wpAnyH_done (by kernel_rfl) ?_ _
                    cases hq6 : vsg p (msg a ++ [a.Counter]) a.Signature with
                    | true =>
                      by_cases hq7 : ctr < a.Counter
                      ·
                        obtain ⟨c_v60, f_v60, c_v61, f_v61, c_v62, f_v62, c_v63, f_v63, c_v64, f_v64, c_v65, f_v65, c_v66, f_v66, l_v6⟩ := Vn.v7 o_v6
                        go_wp2
                        clear c_v60 f_v60 c_v61 f_v61 c_v62 f_v62 c_v63 f_v63 c_v64 f_v64 c_v65 f_v65 c_v66 f_v66 l_v6
                        refine bodyPost_ret (v := .int .i64 0) (by simp [results, Tryz.results9, go_sem]) rfl ?_
                        exact ⟨by simp [chkA, HQ1.out, hq2, hq3, hq4, HQ5.out, hq6, hq7], HB⟩
                      ·
                        obtain ⟨c_v60, f_v60, c_v61, f_v61, c_v62, f_v62, c_v63, f_v63, c_v64, f_v64, c_v65, f_v65, c_v66, f_v66, l_v6⟩ := Vn.v7 o_v6
                        go_wp2
                        clear c_v60 f_v60 c_v61 f_v61 c_v62 f_v62 c_v63 f_v63 c_v64 f_v64 c_v65 f_v65 c_v66 f_v66 l_v6
                        refine bodyPost_ret (v := .int .i64 4) (by simp [results, Tryz.results9, go_sem]) rfl ?_
                        exact ⟨by simp [chkA, HQ1.out, hq2, hq3, hq4, HQ5.out, hq6, hq7], HB⟩
                    | false =>
                      go_wp2
                      refine bodyPost_ret (v := .int .i64 5) (by simp [results, Tryz.results9, go_sem]) rfl ?_
                      exact ⟨by simp [chkA, HQ1.out, hq2, hq3, hq4, HQ5.out, hq6], HB⟩
            case gx1__5_7 =>
              go_simp
              obtain ⟨w6, hw6⟩ : ∃ ww, ww = w5.alloc (.cells #[.int .i64 a.Counter] 3) := ⟨_, rfl⟩
              have o_R5_w6 : (w5.alloc (.cells #[.int .i64 a.Counter] 3)).ownsRow w5.heap.size 3 1 (.slice (some ⟨w5.heap.size, 0, none⟩) 1 1) 1 (ints .i64 [a.Counter]) := C6.own_ints w5 [a.Counter] 1 rfl (by omega)
              have bw6 : Below w5.heap.size w5 w6 := hw6 ▸ (Below.refl _ _).alloc (Nat.le_refl _) _
              rw [← hw6] at o_R5_w6 ⊢
              have zw6 : w5.heap.size < w6.heap.size := by rw [hw6]; simp
              clear hw6
              replace o_v6 := owns_below o_v6 bw6
              replace o_v11 := owns_below o_v11 bw6
              replace HB := HB.trans (bw6.mono HB.size)
              have i_R5_w6 := o_R5_w6.lt
              refine hK.out _ _ ?_ (fun hHeld => ?_)
              · exact ⟨var_load o_v6 (by simp) 0 _ rfl, var_load o_v6 (by simp) 1 _ rfl, var_load o_v6 (by simp) 2 _ rfl, var_load o_v6 (by simp) 3 _ rfl, var_load o_v6 (by simp) 4 _ rfl, var_load o_v6 (by simp) 5 _ rfl, var_load o_v6 (by simp) 6 _ rfl⟩
              clear hK K
              try simp only [Act.put, List.setIfInBounds_toArray, List.set_cons_zero, List.set_cons_succ]
              refine wpAnyH_ready (rs := [2]) (by kernel_rfl) (by simp) ?_
              refine AllReadyH.cons (o := ?ox1__2_13) ?hix1__2_13 (fun K hK => ?gx1__2_13) AllReadyH.nil
              case hix1__2_13 => simp only [List.getElem?_toArray, List.getElem?_cons_succ, List.getElem?_cons_zero]; rfl
              case gx1__2_13 =>
                go_simp
                go_at_call 45
                have K9 := specMsg w6 a _ (as_rds _ _ a) (by omega) (by omega)
                rw [hq4] at K9
                (with_reducible refine (K9).mono ?_); rintro e w7 ⟨A9, c9, rfl, o_R9, bw7⟩
                replace o_v6 := owns_below o_v6 bw7
                replace o_v11 := owns_below o_v11 bw7
                replace o_R5_w6 := own_below o_R5_w6 bw7
                replace HB := HB.trans (bw7.mono HB.size)
                have zw7 := bw7.size
                have i_R9 := o_R9.lt
                clear K9
                refine hK.out _ _ ?_ (fun hHeld => ?_)
                · exact ⟨var_load o_v6 (by simp) 0 _ rfl, var_load o_v6 (by simp) 1 _ rfl, var_load o_v6 (by simp) 2 _ rfl, var_load o_v6 (by simp) 3 _ rfl, var_load o_v6 (by simp) 4 _ rfl, var_load o_v6 (by simp) 5 _ rfl, var_load o_v6 (by simp) 6 _ rfl⟩
                clear hK K
                try simp only [Act.put, List.setIfInBounds_toArray, List.set_cons_zero, List.set_cons_succ]
                refine wpAnyH_ready (rs := [6]) (by kernel_rfl) (by simp) ?_
                refine AllReadyH.cons (o := ?ox1__6_14) ?hix1__6_14 (fun K hK => ?gx1__6_14) AllReadyH.nil
                case hix1__6_14 => simp only [List.getElem?_toArray, List.getElem?_cons_succ, List.getElem?_cons_zero]; rfl
                case gx1__6_14 =>
                  refine Ra.stepI w7 rfl (.tmp 46) (.tmp 49) rfl (w6.heap.size) (.slice A9 6 c9) (6) _ (by simp [Act.eval]) o_R9 _ ((some ⟨w5.heap.size, 0, none⟩)) (1) (1) ([a.Counter]) (by simp [Act.eval]) (Rd.own o_R5_w6) (by omega) (by omega) ?_
                  intro vw8 w8 o_R6_w8 gw8 kw8
                  have Tw8 := turned_grown gw8
                  have Qw8 : ∀ b, b ∈ Option.toList (Value.ownBlock (.slice A9 6 c9)) → w6.heap.size ≤ b := fun b hb => (o_R9.lt b (by simpa using hb)).1
                  replace o_v6 := owns_turned o_v6 Tw8 (fun b hb hb2 => by have h1 := Qw8 b hb2; simp at hb; omega)
                  replace o_v11 := owns_turned o_v11 Tw8 (fun b hb hb2 => by have h1 := Qw8 b hb2; simp at hb; omega)
                  clear o_R5_w6 i_R5_w6
                  clear o_R9 i_R9
                  replace HB := below_turned HB Tw8 (fun b hb => by have h1 := Qw8 b hb; omega)
                  have zw8 := gw8.size
                  obtain ⟨Aw8, cw8, rfl⟩ := own_nil_form o_R6_w8
                  have i_R6_w8 := o_R6_w8.lt
                  replace o_R6_w8 : w8.ownsRow (w6.heap.size) 3 1 (.slice Aw8 7 cw8) 7 (ints .i64 (msg a ++ [a.Counter])) := o_R6_w8
                  refine hK.out _ _ ?_ (fun hHeld => ?_)
                  · exact ⟨var_load o_v6 (by simp) 0 _ rfl, var_load o_v6 (by simp) 1 _ rfl, var_load o_v6 (by simp) 2 _ rfl, var_load o_v6 (by simp) 3 _ rfl, var_load o_v6 (by simp) 4 _ rfl, var_load o_v6 (by simp) 5 _ rfl, var_load o_v6 (by simp) 6 _ rfl⟩
                  clear hK K
                  try simp only [Act.put, List.setIfInBounds_toArray, List.set_cons_zero, List.set_cons_succ]
                  refine wpAnyH_ready (rs := [9]) (by kernel_rfl) (by simp) ?_
                  refine AllReadyH.cons (o := ?ox1__9_15) ?hix1__9_15 (fun K hK => ?gx1__9_15) AllReadyH.nil
                  case hix1__9_15 => simp only [List.getElem?_toArray, List.getElem?_cons_succ, List.getElem?_cons_zero]; rfl
                  case gx1__9_15 =>
                    go_simp
                    go_at_call 46
                    (with_reducible refine (specVsg _ Aw8 7 cw8 (msg a ++ [a.Counter]) p a.Signature (Rd.own o_R6_w8) HMC.out (by omega)).mono ?_); rintro e w9 ⟨rfl, bw9⟩
                    replace o_v6 := owns_below o_v6 bw9
                    replace o_v11 := owns_below o_v11 bw9
                    replace o_R6_w8 := own_below o_R6_w8 bw9
                    replace HB := HB.trans (bw9.mono HB.size)
                    have zw9 := bw9.size
                    refine hK.out _ _ ?_ (fun hHeld => ?_)
                    · exact ⟨var_load o_v6 (by simp) 0 _ rfl, var_load o_v6 (by simp) 1 _ rfl, var_load o_v6 (by simp) 2 _ rfl, var_load o_v6 (by simp) 3 _ rfl, var_load o_v6 (by simp) 4 _ rfl, var_load o_v6 (by simp) 5 _ rfl, var_load o_v6 (by simp) 6 _ rfl⟩
                    clear hK K
                    try simp only [Act.put, List.setIfInBounds_toArray, List.set_cons_zero, List.set_cons_succ]
                    refine wpAnyH_take (i := 10) (oi := ?oix1__10_16) (v := ?vx1__10_16) ?hix1__10_16 (by kernel_rfl) (by kernel_rfl) (by kernel_rfl) ?hQx1__10_16 (Or.inl ⟨?hwx1__10_16, ?hyx1__10_16⟩) (by assumption) ?_
                    case hix1__10_16 => simp only [List.getElem?_toArray, List.getElem?_cons_succ, List.getElem?_cons_zero]; rfl
                    case hQx1__10_16 => exact fun _ _ _ h => h
                    case hwx1__10_16 => rfl
                    case hyx1__10_16 => intro w hSw; (try dsimp only at hSw); (first | (go_simp; done) | (go_simp; with_reducible rfl))
                    try simp only [Act.put, List.setIfInBounds_toArray, List.set_cons_zero, List.set_cons_succ]
                    refine wpAnyH_take (i := 11) (oi := ?oix1__11_17) (v := ?vx1__11_17) ?hix1__11_17 (by kernel_rfl) (by kernel_rfl) (by kernel_rfl) ?hQx1__11_17 (Or.inl ⟨?hwx1__11_17, ?hyx1__11_17⟩) (by assumption) ?_
                    case hix1__11_17 => simp only [List.getElem?_toArray, List.getElem?_cons_succ, List.getElem?_cons_zero]; rfl
                    case hQx1__11_17 => exact fun _ _ _ h => h
                    case hwx1__11_17 => rfl
                    case hyx1__11_17 => intro w hSw; (try dsimp only at hSw); (first | (go_simp; done) | (go_simp; with_reducible rfl))
                    try simp only [Act.put, List.setIfInBounds_toArray, List.set_cons_zero, List.set_cons_succ]
                    refine wpAnyH_done (by kernel_rfl) ?_ _
                    cases hq8 : vsg p (msg a ++ [a.Counter]) a.Signature with
                    | true =>
                      by_cases hq9 : ctr < a.Counter
                      ·
                        obtain ⟨c_v60, f_v60, c_v61, f_v61, c_v62, f_v62, c_v63, f_v63, c_v64, f_v64, c_v65, f_v65, c_v66, f_v66, l_v6⟩ := Vn.v7 o_v6
                        go_wp2
                        clear c_v60 f_v60 c_v61 f_v61 c_v62 f_v62 c_v63 f_v63 c_v64 f_v64 c_v65 f_v65 c_v66 f_v66 l_v6
                        refine bodyPost_ret (v := .int .i64 0) (by simp [results, Tryz.results9, go_sem]) rfl ?_
                        exact ⟨by simp [chkA, HQ1.out, hq2, hq3, hq4, HQ5.out, hq8, hq9], HB⟩
                      ·
                        obtain ⟨c_v60, f_v60, c_v61, f_v61, c_v62, f_v62, c_v63, f_v63, c_v64, f_v64, c_v65, f_v65, c_v66, f_v66, l_v6⟩ := Vn.v7 o_v6
                        go_wp2
                        clear c_v60 f_v60 c_v61 f_v61 c_v62 f_v62 c_v63 f_v63 c_v64 f_v64 c_v65 f_v65 c_v66 f_v66 l_v6
                        refine bodyPost_ret (v := .int .i64 4) (by simp [results, Tryz.results9, go_sem]) rfl ?_
                        exact ⟨by simp [chkA, HQ1.out, hq2, hq3, hq4, HQ5.out, hq8, hq9], HB⟩
                    | false =>
                      go_wp2
                      refine bodyPost_ret (v := .int .i64 5) (by simp [results, Tryz.results9, go_sem]) rfl ?_
                      exact ⟨by simp [chkA, HQ1.out, hq2, hq3, hq4, HQ5.out, hq8], HB⟩
          ·
            have hq5a : (a.Challenge == ch) = false := by simpa using hq5
            have hq5b : (a.Challenge != ch) = true := by simp [hq5]
            have HQ5 := Lib.hid hq5
            clear hq5
            obtain ⟨c_v60, f_v60, c_v61, f_v61, c_v62, f_v62, c_v63, f_v63, c_v64, f_v64, c_v65, f_v65, c_v66, f_v66, l_v6⟩ := Vn.v7 o_v6
            go_wp2
            clear c_v60 f_v60 c_v61 f_v61 c_v62 f_v62 c_v63 f_v63 c_v64 f_v64 c_v65 f_v65 c_v66 f_v66 l_v6
            refine bodyPost_ret (v := .int .i64 3) (by simp [results, Tryz.results9, go_sem]) rfl ?_
            exact ⟨by simp [chkA, HQ1.out, hq2, hq3, hq4, HQ5.out], HB⟩
        | false =>
          obtain ⟨c_v60, f_v60, c_v61, f_v61, c_v62, f_v62, c_v63, f_v63, c_v64, f_v64, c_v65, f_v65, c_v66, f_v66, l_v6⟩ := Vn.v7 o_v6
          go_wp2
          clear c_v60 f_v60 c_v61 f_v61 c_v62 f_v62 c_v63 f_v63 c_v64 f_v64 c_v65 f_v65 c_v66 f_v66 l_v6
          refine bodyPost_ret (v := .int .i64 2) (by simp [results, Tryz.results9, go_sem]) rfl ?_
          exact ⟨by simp [chkA, HQ1.out, hq2, hq3, hq4], HB⟩
      | false =>
        go_wp2
        refine bodyPost_ret (v := .int .i64 1) (by simp [results, Tryz.results9, go_sem]) rfl ?_
        exact ⟨by simp [chkA, HQ1.out, hq2, hq3], HB⟩
    | false =>
      obtain ⟨c_v60, f_v60, c_v61, f_v61, c_v62, f_v62, c_v63, f_v63, c_v64, f_v64, c_v65, f_v65, c_v66, f_v66, l_v6⟩ := Vn.v7 o_v6
      go_wp2
      clear c_v60 f_v60 c_v61 f_v61 c_v62 f_v62 c_v63 f_v63 c_v64 f_v64 c_v65 f_v65 c_v66 f_v66 l_v6
      obtain ⟨w3, hw3⟩ : ∃ ww, ww = w2.alloc (.cells #[.bool ((poO (bts a.Origin)).Secure), .string ((poO (bts a.Origin)).Host), .int .i64 ((poO (bts a.Origin)).Port)] 45) := ⟨_, rfl⟩
      have o_v11 := var_owns w2 45 3 [.bool ((poO (bts a.Origin)).Secure), .string ((poO (bts a.Origin)).Host), .int .i64 ((poO (bts a.Origin)).Port)] rfl
      have bw3 : Below w2.heap.size w2 w3 := hw3 ▸ (Below.refl _ _).alloc (Nat.le_refl _) _
      have sw3 : w3.heap.size = w2.heap.size + 1 := by rw [hw3]; simp
      rw [← hw3] at o_v11 ⊢
      have zw3 : w2.heap.size < w3.heap.size := by omega
      replace o_v6 := owns_below o_v6 bw3
      replace HB := HB.trans (bw3.mono HB.size)
      clear hw3
      refine bodyPost_ret (v := .int .i64 1) (by simp [results, Tryz.results9, go_sem]) rfl ?_
      exact ⟨by simp [chkA, HQ1.out, hq2], HB⟩
  ·
    have hq1a : (a.Site.toList == z.toList) = false := by simpa [Lib.toList_data] using fun e => hq1 (str_ext e)
    have HQ1 := Lib.hid hq1
    clear hq1
    obtain ⟨c_v60, f_v60, c_v61, f_v61, c_v62, f_v62, c_v63, f_v63, c_v64, f_v64, c_v65, f_v65, c_v66, f_v66, l_v6⟩ := Vn.v7 o_v6
    go_wp2
    clear c_v60 f_v60 c_v61 f_v61 c_v62 f_v62 c_v63 f_v63 c_v64 f_v64 c_v65 f_v65 c_v66 f_v66 l_v6
    obtain ⟨w3, hw3⟩ : ∃ ww, ww = w2.alloc (.cells #[.bool ((poO (bts a.Origin)).Secure), .string ((poO (bts a.Origin)).Host), .int .i64 ((poO (bts a.Origin)).Port)] 45) := ⟨_, rfl⟩
    have o_v11 := var_owns w2 45 3 [.bool ((poO (bts a.Origin)).Secure), .string ((poO (bts a.Origin)).Host), .int .i64 ((poO (bts a.Origin)).Port)] rfl
    have bw3 : Below w2.heap.size w2 w3 := hw3 ▸ (Below.refl _ _).alloc (Nat.le_refl _) _
    have sw3 : w3.heap.size = w2.heap.size + 1 := by rw [hw3]; simp
    rw [← hw3] at o_v11 ⊢
    have zw3 : w2.heap.size < w3.heap.size := by omega
    replace o_v6 := owns_below o_v6 bw3
    replace HB := HB.trans (bw3.mono HB.size)
    clear hw3
    refine bodyPost_ret (v := .int .i64 1) (by simp [results, Tryz.results9, go_sem]) rfl ?_
    exact ⟨by simp [chkA, HQ1.out], HB⟩
end Go.Proofs.YtialhhdhpjjkaaaGreatDoor.C13
