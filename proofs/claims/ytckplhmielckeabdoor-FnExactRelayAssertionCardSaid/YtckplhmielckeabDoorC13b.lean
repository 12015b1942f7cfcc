import Derived.Test.YtckplhmielckeabDoorC13
import Derived.Test.YtckplhmielckeabDoorBb
/-
  Contracts of chapter 13's made assertions, of the model.
-/
namespace Go.Proofs.YtckplhmielckeabDoor.C13b
open Go.ChangeShapes Go.WideShapes Go.ChangeAt Go.RowKit
open S0 S1 S9 Dm Fx M3 M8 M12 M13 C3 C6 C9 C10 C13m C13
set_option linter.unusedVariables false
set_option linter.unusedSimpArgs false
set_option maxRecDepth 100000
noncomputable def a0 (o : Fx.Origin) (z : ByteArray) (k ch : Int) (p : Bool) : Fx.Assertion := ⟨z, str (fmtO o), ch, k, p, 0, 0⟩
noncomputable def mkB (x : Fx.KeyStore) (o : Fx.Origin) (z : ByteArray) : Bool := mayO o (bts z) && signB x
noncomputable def mkS (x : Fx.KeyStore) (o : Fx.Origin) (z : ByteArray) : Fx.KeyStore := if mkB x o z then signX x else x
noncomputable def mkA (x : Fx.KeyStore) (o : Fx.Origin) (z : ByteArray) (k ch : Int) (p : Bool) : Fx.Assertion :=
  if mkB x o z then ⟨z, str (fmtO o), ch, k, p, (signX x).Counter, signV x z k (msg (a0 o z k ch p))⟩ else ⟨⟨#[]⟩, ⟨#[]⟩, 0, 0, false, 0, 0⟩
theorem sg_gives {y : Fx.KeyStore} {n : Int} {b : Bool} {w : World} {e : Ending} {w' : World} (h : MadeLx y.dcs (fun vs => .tuple #[.agg vs.toArray, .int .i64 n, .bool b]) w e w') : Gives (.tuple #[.agg #[.int .i64 y.Vendor, .int .i64 y.Serial, .int .i64 y.Seed, .int .i64 y.Counter], .int .i64 n, .bool b]) w e w' := by
  obtain ⟨vs, bs, rfl, ho, _, hb⟩ := h
  obtain ⟨rfl, _⟩ := KeyStore.owns ho
  exact ⟨rfl, hb⟩
/-- What making an assertion gives: a store, an assertion, whether. -/
def mkV (y : Fx.KeyStore) (a : Fx.Assertion) (b : Bool) : Value := .tuple #[.agg #[.int .i64 y.Vendor, .int .i64 y.Serial, .int .i64 y.Seed, .int .i64 y.Counter], .agg #[.string a.Site, .string a.Origin, .int .i64 a.Challenge, .int .i64 a.Handle, .bool a.Present, .int .i64 a.Counter, .int .i64 a.Signature], .bool b]
theorem fmt_size (o : Fx.Origin) : (str (fmtO o)).size ≤ 100 := by
  have h := fmtO_size o
  have e : (str (fmtO o)).size = (fmtO o).length := by rw [← bts_len, bts_str]
  omega
set_option maxHeartbeats 8000000 in
theorem specMake (w : World) (x : Fx.KeyStore) (o : Fx.Origin) (z : ByteArray) (k ch : Int) (p : Bool) (us vs : List Value) (h : RdsL w w.heap.size x.dcs us) (h2 : RdsL w w.heap.size o.dcs vs) (hx : x.ok) (hz : z.size ≤ 15000000) (ho : o.Host.size ≤ 15000000) (k0 : -9223372036854775808 ≤ k) (k1 : k ≤ 9223372036854775807) (c0 : -9223372036854775808 ≤ ch) (c1 : ch ≤ 9223372036854775807) :
    Calls Tryd.prog 6 #[.agg us.toArray, .agg vs.toArray, .string z, .int .i64 k, .int .i64 ch, .bool p] w (Gives (mkV (mkS x o z) (mkA x o z k ch p) (mkB x o z)) w) := by
  obtain rfl := KeyStore.rds h
  obtain rfl := Origin.rds h2
  clear h h2
  have hfs := fmt_size o
  obtain ⟨fo, hfo⟩ : ∃ fo, fo = str (fmtO o) := ⟨_, rfl⟩
  have KF := Lib.hid (fun wx : World => show Calls Tryd.prog 14 #[.agg #[.bool o.Secure, .string o.Host, .int .i64 o.Port]] wx (Gives (.string fo) wx) from by rw [hfo]; exact C9b.specFmtO wx o _ (org_rds _ _ o) (by omega))
  obtain ⟨mm, hmm⟩ : ∃ mm, mm = msg (a0 o z k ch p) := ⟨_, rfl⟩
  rw [← hfo] at hfs
  have HA0 : (a0 o z k ch p).Origin = fo := hfo.symm
  have hok : okInts mm := by rw [hmm]; exact msg_ok (a := a0 o z k ch p) ⟨by unfold a0; dsimp only; unfold maxLen; omega, by rw [HA0]; unfold maxLen; omega, ⟨c0, c1⟩, ⟨k0, k1⟩, trivial, by unfold a0; dsimp only; omega, by unfold a0; dsimp only; omega⟩
  have KM := Lib.hid (fun wx : World => show Calls Tryd.prog 16 #[.agg #[.string z, .string fo, .int .i64 ch, .int .i64 k, .bool p, .int .i64 0, .int .i64 0]] wx (MadeS 3 1 6 (ints .i64 mm) wx) from by rw [hmm, hfo]; exact specMsg wx (a0 o z k ch p) _ (as_rds _ _ _) (by unfold a0; dsimp only; omega) (by rw [HA0]; omega))
  obtain ⟨y, hy⟩ : ∃ y, y = signX x := ⟨_, rfl⟩
  obtain ⟨sv, hsv⟩ : ∃ sv, sv = signV x z k mm := ⟨_, rfl⟩
  obtain ⟨sb, hsb⟩ : ∃ sb, sb = signB x := ⟨_, rfl⟩
  have hml : mm.length = 6 := by rw [hmm]; rfl
  have KS := Lib.hid (fun (wx : World) (A : Option Addr) (c : Nat) (hr : Rd wx wx.heap.size 1 A 6 (ints .i64 mm)) => show Calls Tryd.prog 15 #[.agg #[.int .i64 x.Vendor, .int .i64 x.Serial, .int .i64 x.Seed, .int .i64 x.Counter], .string z, .int .i64 k, .slice A 6 c] wx (Gives (.tuple #[.agg #[.int .i64 y.Vendor, .int .i64 y.Serial, .int .i64 y.Seed, .int .i64 y.Counter], .int .i64 sv, .bool sb]) wx) from by
    rw [hy, hsv, hsb]
    exact (C10b.specSign wx x z k mm _ _ (st_rds wx _ x) hx (by omega) k0 k1 (show Rds wx wx.heap.size (numsD mm) (.slice A 6 c) from by rw [← hml]; exact flat_rds (by rw [hml]; exact hr)) hok (by omega)).mono (fun e w' h => sg_gives h))
  have HSX := Lib.hid hy
  have HSV := Lib.hid (show sv = signV x z k (msg (a0 o z k ch p)) by rw [hsv, hmm])
  have HSB := Lib.hid hsb
  have HFO := Lib.hid hfo
  clear hy hsv hsb hfo hmm hok hx HA0 hml
  go_enter Tryd.func6, Tryd.ntmps6
  go_wp2_with fail
  obtain ⟨w1, hw1⟩ : ∃ ww, ww = w.alloc (.cells #[.int .i64 x.Vendor, .int .i64 x.Serial, .int .i64 x.Seed, .int .i64 x.Counter] 27) := ⟨_, rfl⟩
  have o_v6 := var_owns w 27 4 [.int .i64 x.Vendor, .int .i64 x.Serial, .int .i64 x.Seed, .int .i64 x.Counter] rfl
  have bw1 : Below w.heap.size w w1 := hw1 ▸ (Below.refl _ _).alloc (Nat.le_refl _) _
  have sw1 : w1.heap.size = w.heap.size + 1 := by rw [hw1]; simp
  rw [← hw1] at o_v6 ⊢
  have zw1 : w.heap.size < w1.heap.size := by omega
  have HB := bw1
  clear hw1
  obtain ⟨w2, hw2⟩ : ∃ ww, ww = w1.alloc (.cells #[.bool o.Secure, .string o.Host, .int .i64 o.Port] 33) := ⟨_, rfl⟩
  have o_v7 := var_owns w1 33 3 [.bool o.Secure, .string o.Host, .int .i64 o.Port] rfl
  have bw2 : Below w1.heap.size w1 w2 := hw2 ▸ (Below.refl _ _).alloc (Nat.le_refl _) _
  have sw2 : w2.heap.size = w1.heap.size + 1 := by rw [hw2]; simp
  rw [← hw2] at o_v7 ⊢
  have qw2 : w1.heap.size = w.heap.size + 1 := by omega
  rw [qw2] at o_v7
  clear qw2
  have zw2 : w1.heap.size < w2.heap.size := by omega
  replace o_v6 := owns_below o_v6 bw2
  replace HB := HB.trans (bw2.mono HB.size)
  clear hw2
  obtain ⟨w3, hw3⟩ : ∃ ww, ww = w2.alloc (.cells #[.int .i64 0, .int .i64 0, .int .i64 0, .int .i64 0] 27) := ⟨_, rfl⟩
  have o_v12 := var_owns w2 27 4 [.int .i64 0, .int .i64 0, .int .i64 0, .int .i64 0] rfl
  have bw3 : Below w2.heap.size w2 w3 := hw3 ▸ (Below.refl _ _).alloc (Nat.le_refl _) _
  have sw3 : w3.heap.size = w2.heap.size + 1 := by rw [hw3]; simp
  rw [← hw3] at o_v12 ⊢
  have qw3 : w2.heap.size = w.heap.size + 2 := by omega
  rw [qw3] at o_v12
  clear qw3
  have zw3 : w2.heap.size < w3.heap.size := by omega
  replace o_v6 := owns_below o_v6 bw3
  replace o_v7 := owns_below o_v7 bw3
  replace HB := HB.trans (bw3.mono HB.size)
  clear hw3
  obtain ⟨w4, hw4⟩ : ∃ ww, ww = w3.alloc (.cells #[.string ⟨#[]⟩, .string ⟨#[]⟩, .int .i64 0, .int .i64 0, .bool false, .int .i64 0, .int .i64 0] 29) := ⟨_, rfl⟩
  have o_v13 := var_owns w3 29 7 [.string ⟨#[]⟩, .string ⟨#[]⟩, .int .i64 0, .int .i64 0, .bool false, .int .i64 0, .int .i64 0] rfl
  have bw4 : Below w3.heap.size w3 w4 := hw4 ▸ (Below.refl _ _).alloc (Nat.le_refl _) _
  have sw4 : w4.heap.size = w3.heap.size + 1 := by rw [hw4]; simp
  rw [← hw4] at o_v13 ⊢
  have qw4 : w3.heap.size = w.heap.size + 3 := by omega
  rw [qw4] at o_v13
  clear qw4
  have zw4 : w3.heap.size < w4.heap.size := by omega
  replace o_v6 := owns_below o_v6 bw4
  replace o_v7 := owns_below o_v7 bw4
  replace o_v12 := owns_below o_v12 bw4
  replace HB := HB.trans (bw4.mono HB.size)
  clear hw4
  (with_reducible refine (KF.out _).mono ?_); rintro e w5 ⟨rfl, bw5⟩
  replace o_v6 := owns_below o_v6 bw5
  replace o_v7 := owns_below o_v7 bw5
  replace o_v12 := owns_below o_v12 bw5
  replace o_v13 := owns_below o_v13 bw5
  replace HB := HB.trans (bw5.mono HB.size)
  have zw5 := bw5.size
  go_wp2_with fail
  obtain ⟨w6, hw6⟩ : ∃ ww, ww = w5.alloc (.cells #[.string z, .string fo, .int .i64 ch, .int .i64 k, .bool p, .int .i64 0, .int .i64 0] 29) := ⟨_, rfl⟩
  have o_v15 := var_owns w5 29 7 [.string z, .string fo, .int .i64 ch, .int .i64 k, .bool p, .int .i64 0, .int .i64 0] rfl
  have bw6 : Below w5.heap.size w5 w6 := hw6 ▸ (Below.refl _ _).alloc (Nat.le_refl _) _
  have sw6 : w6.heap.size = w5.heap.size + 1 := by rw [hw6]; simp
  rw [← hw6] at o_v15 ⊢
  have zw6 : w5.heap.size < w6.heap.size := by omega
  replace o_v6 := owns_below o_v6 bw6
  replace o_v7 := owns_below o_v7 bw6
  replace o_v12 := owns_below o_v12 bw6
  replace o_v13 := owns_below o_v13 bw6
  replace HB := HB.trans (bw6.mono HB.size)
  clear hw6
  obtain ⟨w7, hw7⟩ : ∃ ww, ww = w6.drew := ⟨_, rfl⟩
  have bw7 : Below w6.heap.size w6 w7 := hw7 ▸ drewN_below w6 1 _
  replace o_v6 := owns_below o_v6 bw7
  replace o_v7 := owns_below o_v7 bw7
  replace o_v12 := owns_below o_v12 bw7
  replace o_v13 := owns_below o_v13 bw7
  replace o_v15 := owns_below o_v15 bw7
  replace HB := HB.trans (bw7.mono HB.size)
  have zw7 := bw7.size
  refine wp_region_held_drew (S := (fun (wx : World) => wx.cell? ⟨w5.heap.size, 0, none⟩ = some (.string z) ∧ wx.cell? ⟨w5.heap.size, 1, none⟩ = some (.string fo) ∧ wx.cell? ⟨w5.heap.size, 2, none⟩ = some (.int .i64 ch) ∧ wx.cell? ⟨w5.heap.size, 3, none⟩ = some (.int .i64 k) ∧ wx.cell? ⟨w5.heap.size, 4, none⟩ = some (.bool p) ∧ wx.cell? ⟨w5.heap.size, 5, none⟩ = some (.int .i64 0) ∧ wx.cell? ⟨w5.heap.size, 6, none⟩ = some (.int .i64 0) ∧ wx.cell? ⟨w.heap.size, 0, none⟩ = some (.int .i64 x.Vendor) ∧ wx.cell? ⟨w.heap.size, 1, none⟩ = some (.int .i64 x.Serial) ∧ wx.cell? ⟨w.heap.size, 2, none⟩ = some (.int .i64 x.Seed) ∧ wx.cell? ⟨w.heap.size, 3, none⟩ = some (.int .i64 x.Counter))) (by kernel_rfl) ?_ (fun hHeld => ?_)
  · rw [← hw7]; exact ⟨var_load o_v15 (by simp) 0 _ rfl, var_load o_v15 (by simp) 1 _ rfl, var_load o_v15 (by simp) 2 _ rfl, var_load o_v15 (by simp) 3 _ rfl, var_load o_v15 (by simp) 4 _ rfl, var_load o_v15 (by simp) 5 _ rfl, var_load o_v15 (by simp) 6 _ rfl, var_load o_v6 (by simp) 0 _ rfl, var_load o_v6 (by simp) 1 _ rfl, var_load o_v6 (by simp) 2 _ rfl, var_load o_v6 (by simp) 3 _ rfl⟩
  rw [← hw7] at hHeld ⊢
  clear hw7
  refine wpAnyH_take (i := 0) (oi := ?oix1__0_1) (v := ?vx1__0_1) ?hix1__0_1 (by kernel_rfl) (by kernel_rfl) (by kernel_rfl) ?hQx1__0_1 (Or.inl ⟨?hwx1__0_1, ?hyx1__0_1⟩) (by assumption) ?_
  case hix1__0_1 => simp only [List.getElem?_toArray, List.getElem?_cons_zero]; rfl
  case hQx1__0_1 => exact fun _ _ _ h => h
  case hwx1__0_1 => rfl
  case hyx1__0_1 => intro w hSw; (try dsimp only at hSw); (first | (go_simp; done) | (go_simp; with_reducible rfl))
  try simp only [Act.put, List.setIfInBounds_toArray, List.set_cons_zero, List.set_cons_succ]
  refine wpAnyH_take (i := 1) (oi := ?oix1__1_2) (v := ?vx1__1_2) ?hix1__1_2 (by kernel_rfl) (by kernel_rfl) (by kernel_rfl) ?hQx1__1_2 (Or.inl ⟨?hwx1__1_2, ?hyx1__1_2⟩) (by assumption) ?_
  case hix1__1_2 => simp only [List.getElem?_toArray, List.getElem?_cons_succ, List.getElem?_cons_zero]; rfl
  case hQx1__1_2 => exact fun _ _ _ h => h
  case hwx1__1_2 => rfl
  case hyx1__1_2 => intro w hSw; (try dsimp only at hSw); (first | (go_simp; done) | (go_simp; with_reducible rfl))
  try simp only [Act.put, List.setIfInBounds_toArray, List.set_cons_zero, List.set_cons_succ]
  refine wpAnyH_take (i := 2) (oi := ?oix1__2_3) (v := ?vx1__2_3) ?hix1__2_3 (by kernel_rfl) (by kernel_rfl) (by kernel_rfl) ?hQx1__2_3 (Or.inl ⟨?hwx1__2_3, ?hyx1__2_3⟩) (by assumption) ?_
  case hix1__2_3 => simp only [List.getElem?_toArray, List.getElem?_cons_succ, List.getElem?_cons_zero]; rfl
  case hQx1__2_3 => exact fun _ _ _ h => h
  case hwx1__2_3 => rfl
  case hyx1__2_3 => intro w hSw; (try dsimp only at hSw); (first | (go_simp; done) | (go_simp; with_reducible rfl))
  try simp only [Act.put, List.setIfInBounds_toArray, List.set_cons_zero, List.set_cons_succ]
  refine wpAnyH_take (i := 3) (oi := ?oix1__3_4) (v := ?vx1__3_4) ?hix1__3_4 (by kernel_rfl) (by kernel_rfl) (by kernel_rfl) ?hQx1__3_4 (Or.inl ⟨?hwx1__3_4, ?hyx1__3_4⟩) (by assumption) ?_
  case hix1__3_4 => simp only [List.getElem?_toArray, List.getElem?_cons_succ, List.getElem?_cons_zero]; rfl
  case hQx1__3_4 => exact fun _ _ _ h => h
  case hwx1__3_4 => rfl
  case hyx1__3_4 => intro w hSw; (try dsimp only at hSw); (first | (go_simp; done) | (go_simp; with_reducible rfl))
  try simp only [Act.put, List.setIfInBounds_toArray, List.set_cons_zero, List.set_cons_succ]
  refine wpAnyH_ready (rs := [4, 10]) (by kernel_rfl) (by simp) ?_
  refine AllReadyH.cons (o := ?ox1__4_5) ?hix1__4_5 (fun K hK => ?gx1__4_5) (AllReadyH.cons (o := ?ox1__10_5) ?hix1__10_5 (fun K hK => ?gx1__10_5) AllReadyH.nil)
  case hix1__4_5 => simp only [List.getElem?_toArray, List.getElem?_cons_succ, List.getElem?_cons_zero]; rfl
  case hix1__10_5 => simp only [List.getElem?_toArray, List.getElem?_cons_succ, List.getElem?_cons_zero]; rfl
  case gx1__4_5 =>
    go_simp
    go_at_call 16
    (with_reducible refine (KM.out _).mono ?_); rintro e w8 ⟨A9, c9, rfl, o_R9, bw8⟩
    replace o_v6 := owns_below o_v6 bw8
    replace o_v7 := owns_below o_v7 bw8
    replace o_v12 := owns_below o_v12 bw8
    replace o_v13 := owns_below o_v13 bw8
    replace o_v15 := owns_below o_v15 bw8
    replace HB := HB.trans (bw8.mono HB.size)
    have zw8 := bw8.size
    have i_R9 := o_R9.lt
    refine hK.out _ _ ?_ (fun hHeld => ?_)
    · exact ⟨var_load o_v15 (by simp) 0 _ rfl, var_load o_v15 (by simp) 1 _ rfl, var_load o_v15 (by simp) 2 _ rfl, var_load o_v15 (by simp) 3 _ rfl, var_load o_v15 (by simp) 4 _ rfl, var_load o_v15 (by simp) 5 _ rfl, var_load o_v15 (by simp) 6 _ rfl, var_load o_v6 (by simp) 0 _ rfl, var_load o_v6 (by simp) 1 _ rfl, var_load o_v6 (by simp) 2 _ rfl, var_load o_v6 (by simp) 3 _ rfl⟩
    clear hK K
    try simp only [Act.put, List.setIfInBounds_toArray, List.set_cons_zero, List.set_cons_succ]
    refine wpAnyH_ready (rs := [5, 10]) (by kernel_rfl) (by simp) ?_
    refine AllReadyH.cons (o := ?ox1__5_6) ?hix1__5_6 (fun K hK => ?gx1__5_6) (AllReadyH.cons (o := ?ox1__10_6) ?hix1__10_6 (fun K hK => ?gx1__10_6) AllReadyH.nil)
    case hix1__5_6 => simp only [List.getElem?_toArray, List.getElem?_cons_succ, List.getElem?_cons_zero]; rfl
    case hix1__10_6 => simp only [List.getElem?_toArray, List.getElem?_cons_succ, List.getElem?_cons_zero]; rfl
    case gx1__5_6 =>
      go_simp
      go_at_call 15
      (with_reducible refine (KS.out _ A9 c9 (Rd.own o_R9)).mono ?_); rintro e w9 ⟨rfl, bw9⟩
      replace o_v6 := owns_below o_v6 bw9
      replace o_v7 := owns_below o_v7 bw9
      replace o_v12 := owns_below o_v12 bw9
      replace o_v13 := owns_below o_v13 bw9
      replace o_v15 := owns_below o_v15 bw9
      replace o_R9 := own_below o_R9 bw9
      replace HB := HB.trans (bw9.mono HB.size)
      have zw9 := bw9.size
      refine hK.out _ _ ?_ (fun hHeld => ?_)
      · exact ⟨var_load o_v15 (by simp) 0 _ rfl, var_load o_v15 (by simp) 1 _ rfl, var_load o_v15 (by simp) 2 _ rfl, var_load o_v15 (by simp) 3 _ rfl, var_load o_v15 (by simp) 4 _ rfl, var_load o_v15 (by simp) 5 _ rfl, var_load o_v15 (by simp) 6 _ rfl, var_load o_v6 (by simp) 0 _ rfl, var_load o_v6 (by simp) 1 _ rfl, var_load o_v6 (by simp) 2 _ rfl, var_load o_v6 (by simp) 3 _ rfl⟩
      clear hK K
      try simp only [Act.put, List.setIfInBounds_toArray, List.set_cons_zero, List.set_cons_succ]
      refine wpAnyH_take (i := 6) (oi := ?oix1__6_7) (v := ?vx1__6_7) ?hix1__6_7 (by kernel_rfl) (by kernel_rfl) (by kernel_rfl) ?hQx1__6_7 (Or.inl ⟨?hwx1__6_7, ?hyx1__6_7⟩) (by assumption) ?_
      case hix1__6_7 => simp only [List.getElem?_toArray, List.getElem?_cons_succ, List.getElem?_cons_zero]; rfl
      case hQx1__6_7 => exact fun _ _ _ h => h
      case hwx1__6_7 => rfl
      case hyx1__6_7 => intro w hSw; (try dsimp only at hSw); (first | (go_simp; done) | (go_simp; with_reducible rfl))
      try simp only [Act.put, List.setIfInBounds_toArray, List.set_cons_zero, List.set_cons_succ]
      refine wpAnyH_take (i := 7) (oi := ?oix1__7_8) (v := ?vx1__7_8) ?hix1__7_8 (by kernel_rfl) (by kernel_rfl) (by kernel_rfl) ?hQx1__7_8 (Or.inl ⟨?hwx1__7_8, ?hyx1__7_8⟩) (by assumption) ?_
      case hix1__7_8 => simp only [List.getElem?_toArray, List.getElem?_cons_succ, List.getElem?_cons_zero]; rfl
      case hQx1__7_8 => exact fun _ _ _ h => h
      case hwx1__7_8 => rfl
      case hyx1__7_8 => intro w hSw; (try dsimp only at hSw); (first | (go_simp; done) | (go_simp; with_reducible rfl))
      try simp only [Act.put, List.setIfInBounds_toArray, List.set_cons_zero, List.set_cons_succ]
      refine wpAnyH_take (i := 8) (oi := ?oix1__8_9) (v := ?vx1__8_9) ?hix1__8_9 (by kernel_rfl) (by kernel_rfl) (by kernel_rfl) ?hQx1__8_9 (Or.inl ⟨?hwx1__8_9, ?hyx1__8_9⟩) (by assumption) ?_
      case hix1__8_9 => simp only [List.getElem?_toArray, List.getElem?_cons_succ, List.getElem?_cons_zero]; rfl
      case hQx1__8_9 => exact fun _ _ _ h => h
      case hwx1__8_9 => rfl
      case hyx1__8_9 => intro w hSw; (try dsimp only at hSw); (first | (go_simp; done) | (go_simp; with_reducible rfl))
      try simp only [Act.put, List.setIfInBounds_toArray, List.set_cons_zero, List.set_cons_succ]
      refine wpAnyH_take (i := 9) (oi := ?oix1__9_10) (v := ?vx1__9_10) ?hix1__9_10 (by kernel_rfl) (by kernel_rfl) (by kernel_rfl) ?hQx1__9_10 (Or.inl ⟨?hwx1__9_10, ?hyx1__9_10⟩) (by assumption) ?_
      case hix1__9_10 => simp only [List.getElem?_toArray, List.getElem?_cons_succ, List.getElem?_cons_zero]; rfl
      case hQx1__9_10 => exact fun _ _ _ h => h
      case hwx1__9_10 => rfl
      case hyx1__9_10 => intro w hSw; (try dsimp only at hSw); (first | (go_simp; done) | (go_simp; with_reducible rfl))
      try simp only [Act.put, List.setIfInBounds_toArray, List.set_cons_zero, List.set_cons_succ]
      refine wpAnyH_ready (rs := [10]) (by kernel_rfl) (by simp) ?_
      refine AllReadyH.cons (o := ?ox1__10_11) ?hix1__10_11 (fun K hK => ?gx1__10_11) AllReadyH.nil
      case hix1__10_11 => simp only [List.getElem?_toArray, List.getElem?_cons_succ, List.getElem?_cons_zero]; rfl
      case gx1__10_11 =>
        go_simp
        obtain ⟨w10, hw10⟩ : ∃ ww, ww = w9.alloc (.cells #[.int .i64 0, .int .i64 0, .int .i64 0, .int .i64 0] 27) := ⟨_, rfl⟩
        have o_v16 := var_owns w9 27 4 [.int .i64 0, .int .i64 0, .int .i64 0, .int .i64 0] rfl
        have bw10 : Below w9.heap.size w9 w10 := hw10 ▸ (Below.refl _ _).alloc (Nat.le_refl _) _
        rw [← hw10] at o_v16 ⊢
        have zw10 : w9.heap.size < w10.heap.size := by rw [hw10]; simp
        clear hw10
        replace o_v6 := owns_below o_v6 bw10
        replace o_v7 := owns_below o_v7 bw10
        replace o_v12 := owns_below o_v12 bw10
        replace o_v13 := owns_below o_v13 bw10
        replace o_v15 := owns_below o_v15 bw10
        replace o_R9 := own_below o_R9 bw10
        replace HB := HB.trans (bw10.mono HB.size)
        refine hK.out _ _ ?_ (fun hHeld => ?_)
        · exact ⟨var_load o_v15 (by simp) 0 _ rfl, var_load o_v15 (by simp) 1 _ rfl, var_load o_v15 (by simp) 2 _ rfl, var_load o_v15 (by simp) 3 _ rfl, var_load o_v15 (by simp) 4 _ rfl, var_load o_v15 (by simp) 5 _ rfl, var_load o_v15 (by simp) 6 _ rfl, var_load o_v6 (by simp) 0 _ rfl, var_load o_v6 (by simp) 1 _ rfl, var_load o_v6 (by simp) 2 _ rfl, var_load o_v6 (by simp) 3 _ rfl⟩
        clear hK K
        try simp only [Act.put, List.setIfInBounds_toArray, List.set_cons_zero, List.set_cons_succ]
        refine wpAnyH_ready (rs := [11]) (by kernel_rfl) (by simp) ?_
        refine AllReadyH.cons (o := ?ox1__11_12) ?hix1__11_12 (fun K hK => ?gx1__11_12) AllReadyH.nil
        case hix1__11_12 => simp only [List.getElem?_toArray, List.getElem?_cons_succ, List.getElem?_cons_zero]; rfl
        case gx1__11_12 =>
          obtain ⟨c_v160, f_v160, c_v161, f_v161, c_v162, f_v162, c_v163, f_v163, l_v16⟩ := Vn.v4 o_v16
          go_simp
          clear c_v160 f_v160 c_v161 f_v161 c_v162 f_v162 c_v163 f_v163 l_v16
          obtain ⟨w11, hw11⟩ : ∃ ww, ww = ((((w10.setCell ⟨w9.heap.size, 0, none⟩ (.int .i64 y.Vendor)).setCell ⟨w9.heap.size, 1, none⟩ (.int .i64 y.Serial)).setCell ⟨w9.heap.size, 2, none⟩ (.int .i64 y.Seed)).setCell ⟨w9.heap.size, 3, none⟩ (.int .i64 y.Counter)) := ⟨_, rfl⟩
          obtain ⟨o_new, tw11⟩ := var_some [.int .i64 y.Vendor, .int .i64 y.Serial, .int .i64 y.Seed, .int .i64 y.Counter] 0 _ _ o_v16 (by simp)
          rw [show setAll w10 (w9.heap.size) 0 [.int .i64 y.Vendor, .int .i64 y.Serial, .int .i64 y.Seed, .int .i64 y.Counter] = w11 from hw11.symm] at o_new tw11
          replace o_v16 : Owns w11 _ (varD 27 4 [.int .i64 y.Vendor, .int .i64 y.Serial, .int .i64 y.Seed, .int .i64 y.Counter]) _ _ := o_new
          clear o_new
          replace o_v6 := owns_turned o_v6 tw11 (fun b hb hb2 => by simp at hb hb2; omega)
          replace o_v7 := owns_turned o_v7 tw11 (fun b hb hb2 => by simp at hb hb2; omega)
          replace o_v12 := owns_turned o_v12 tw11 (fun b hb hb2 => by simp at hb hb2; omega)
          replace o_v13 := owns_turned o_v13 tw11 (fun b hb hb2 => by simp at hb hb2; omega)
          replace o_v15 := owns_turned o_v15 tw11 (fun b hb hb2 => by simp at hb hb2; omega)
          replace o_R9 := Vn.row_turned o_R9 tw11 (fun b hb hb2 => by have h1 := i_R9 b hb; simp at hb2; omega)
          replace HB := below_turned HB tw11 (fun b hb => by simp at hb; omega)
          have zw11 := tw11.2.2.2.1
          rw [← hw11]
          clear hw11
          refine hK.out _ _ ?_ (fun hHeld => ?_)
          · exact ⟨var_load o_v15 (by simp) 0 _ rfl, var_load o_v15 (by simp) 1 _ rfl, var_load o_v15 (by simp) 2 _ rfl, var_load o_v15 (by simp) 3 _ rfl, var_load o_v15 (by simp) 4 _ rfl, var_load o_v15 (by simp) 5 _ rfl, var_load o_v15 (by simp) 6 _ rfl, var_load o_v6 (by simp) 0 _ rfl, var_load o_v6 (by simp) 1 _ rfl, var_load o_v6 (by simp) 2 _ rfl, var_load o_v6 (by simp) 3 _ rfl⟩
          clear hK K
          try simp only [Act.put, List.setIfInBounds_toArray, List.set_cons_zero, List.set_cons_succ]
          refine wpAnyH_take (i := 12) (oi := ?oix1__12_13) (v := ?vx1__12_13) ?hix1__12_13 (by kernel_rfl) (by kernel_rfl) (by kernel_rfl) ?hQx1__12_13 (Or.inl ⟨?hwx1__12_13, ?hyx1__12_13⟩) (by assumption) ?_
          case hix1__12_13 => simp only [List.getElem?_toArray, List.getElem?_cons_succ, List.getElem?_cons_zero]; rfl
          case hQx1__12_13 => exact fun _ _ _ h => h
          case hwx1__12_13 => rfl
          case hyx1__12_13 => intro w hSw; (try dsimp only at hSw); (first | (go_simp; done) | (go_simp; with_reducible rfl))
          try simp only [Act.put, List.setIfInBounds_toArray, List.set_cons_zero, List.set_cons_succ]
          refine wpAnyH_take (i := 13) (oi := ?oix1__13_14) (v := ?vx1__13_14) ?hix1__13_14 (by kernel_rfl) (by kernel_rfl) (by kernel_rfl) ?hQx1__13_14 (Or.inl ⟨?hwx1__13_14, ?hyx1__13_14⟩) (by assumption) ?_
          case hix1__13_14 => simp only [List.getElem?_toArray, List.getElem?_cons_succ, List.getElem?_cons_zero]; rfl
          case hQx1__13_14 => exact fun _ _ _ h => h
          case hwx1__13_14 => rfl
          case hyx1__13_14 => intro w hSw; (try dsimp only at hSw); (first | (go_simp; done) | (go_simp; with_reducible rfl))
          try simp only [Act.put, List.setIfInBounds_toArray, List.set_cons_zero, List.set_cons_succ]
          refine wpAnyH_done (by kernel_rfl) ?_ _
          obtain ⟨c_v70, f_v70, c_v71, f_v71, c_v72, f_v72, l_v7⟩ := Vn.v3 o_v7
          go_wp2_with fail
          clear c_v70 f_v70 c_v71 f_v71 c_v72 f_v72 l_v7
          (with_reducible refine (C9b.specMay w11 o z _ (org_rds _ _ o) (by omega) (by omega)).mono ?_); rintro e w12 ⟨rfl, bw12⟩
          replace o_v6 := owns_below o_v6 bw12
          replace o_v7 := owns_below o_v7 bw12
          replace o_v12 := owns_below o_v12 bw12
          replace o_v13 := owns_below o_v13 bw12
          replace o_v15 := owns_below o_v15 bw12
          replace o_v16 := owns_below o_v16 bw12
          replace o_R9 := own_below o_R9 bw12
          replace HB := HB.trans (bw12.mono HB.size)
          have zw12 := bw12.size
          cases hq1 : mayO o (bts z) with
          | true =>
            cases hq2 : sb with
            | true =>
              obtain ⟨c_v150, f_v150, c_v151, f_v151, c_v152, f_v152, c_v153, f_v153, c_v154, f_v154, c_v155, f_v155, c_v156, f_v156, l_v15⟩ := Vn.v7 o_v15
              obtain ⟨c_v160, f_v160, c_v161, f_v161, c_v162, f_v162, c_v163, f_v163, l_v16⟩ := Vn.v4 o_v16
              go_wp2_with fail
              clear c_v150 f_v150 c_v151 f_v151 c_v152 f_v152 c_v153 f_v153 c_v154 f_v154 c_v155 f_v155 c_v156 f_v156 l_v15 c_v160 f_v160 c_v161 f_v161 c_v162 f_v162 c_v163 f_v163 l_v16
              obtain ⟨w13, hw13⟩ : ∃ ww, ww = (w12.setCell ⟨w5.heap.size, 5, none⟩ (.int .i64 y.Counter)) := ⟨_, rfl⟩
              obtain ⟨o_new, tw13⟩ := var_some [.int .i64 y.Counter] 5 _ _ o_v15 (by simp)
              rw [show setAll w12 (w5.heap.size) 5 [.int .i64 y.Counter] = w13 from hw13.symm] at o_new tw13
              replace o_v15 : Owns w13 _ (varD 29 7 [.string z, .string fo, .int .i64 ch, .int .i64 k, .bool p, .int .i64 y.Counter, .int .i64 0]) _ _ := o_new
              clear o_new
              replace o_v6 := owns_turned o_v6 tw13 (fun b hb hb2 => by simp at hb hb2; omega)
              replace o_v7 := owns_turned o_v7 tw13 (fun b hb hb2 => by simp at hb hb2; omega)
              replace o_v12 := owns_turned o_v12 tw13 (fun b hb hb2 => by simp at hb hb2; omega)
              replace o_v13 := owns_turned o_v13 tw13 (fun b hb hb2 => by simp at hb hb2; omega)
              replace o_v16 := owns_turned o_v16 tw13 (fun b hb hb2 => by simp at hb hb2; omega)
              replace o_R9 := Vn.row_turned o_R9 tw13 (fun b hb hb2 => by have h1 := i_R9 b hb; simp at hb2; omega)
              replace HB := below_turned HB tw13 (fun b hb => by simp at hb; omega)
              have zw13 := tw13.2.2.2.1
              rw [← hw13]
              clear hw13
              obtain ⟨w14, hw14⟩ : ∃ ww, ww = (w13.setCell ⟨w5.heap.size, 6, none⟩ (.int .i64 sv)) := ⟨_, rfl⟩
              obtain ⟨o_new, tw14⟩ := var_some [.int .i64 sv] 6 _ _ o_v15 (by simp)
              rw [show setAll w13 (w5.heap.size) 6 [.int .i64 sv] = w14 from hw14.symm] at o_new tw14
              replace o_v15 : Owns w14 _ (varD 29 7 [.string z, .string fo, .int .i64 ch, .int .i64 k, .bool p, .int .i64 y.Counter, .int .i64 sv]) _ _ := o_new
              clear o_new
              replace o_v6 := owns_turned o_v6 tw14 (fun b hb hb2 => by simp at hb hb2; omega)
              replace o_v7 := owns_turned o_v7 tw14 (fun b hb hb2 => by simp at hb hb2; omega)
              replace o_v12 := owns_turned o_v12 tw14 (fun b hb hb2 => by simp at hb hb2; omega)
              replace o_v13 := owns_turned o_v13 tw14 (fun b hb hb2 => by simp at hb hb2; omega)
              replace o_v16 := owns_turned o_v16 tw14 (fun b hb hb2 => by simp at hb hb2; omega)
              replace o_R9 := Vn.row_turned o_R9 tw14 (fun b hb hb2 => by have h1 := i_R9 b hb; simp at hb2; omega)
              replace HB := below_turned HB tw14 (fun b hb => by simp at hb; omega)
              have zw14 := tw14.2.2.2.1
              rw [← hw14]
              clear hw14
              obtain ⟨w15, hw15⟩ : ∃ ww, ww = w14.drew := ⟨_, rfl⟩
              have bw15 : Below w14.heap.size w14 w15 := hw15 ▸ drewN_below w14 1 _
              replace o_v6 := owns_below o_v6 bw15
              replace o_v7 := owns_below o_v7 bw15
              replace o_v12 := owns_below o_v12 bw15
              replace o_v13 := owns_below o_v13 bw15
              replace o_v15 := owns_below o_v15 bw15
              replace o_v16 := owns_below o_v16 bw15
              replace o_R9 := own_below o_R9 bw15
              replace HB := HB.trans (bw15.mono HB.size)
              have zw15 := bw15.size
              refine wp_region_held_drew (S := (fun (wx : World) => wx.cell? ⟨w5.heap.size, 0, none⟩ = some (.string z) ∧ wx.cell? ⟨w5.heap.size, 1, none⟩ = some (.string fo) ∧ wx.cell? ⟨w5.heap.size, 2, none⟩ = some (.int .i64 ch) ∧ wx.cell? ⟨w5.heap.size, 3, none⟩ = some (.int .i64 k) ∧ wx.cell? ⟨w5.heap.size, 4, none⟩ = some (.bool p) ∧ wx.cell? ⟨w5.heap.size, 5, none⟩ = some (.int .i64 y.Counter) ∧ wx.cell? ⟨w5.heap.size, 6, none⟩ = some (.int .i64 sv) ∧ wx.cell? ⟨w9.heap.size, 0, none⟩ = some (.int .i64 y.Vendor) ∧ wx.cell? ⟨w9.heap.size, 1, none⟩ = some (.int .i64 y.Serial) ∧ wx.cell? ⟨w9.heap.size, 2, none⟩ = some (.int .i64 y.Seed) ∧ wx.cell? ⟨w9.heap.size, 3, none⟩ = some (.int .i64 y.Counter))) (by kernel_rfl) ?_ (fun hHeld => ?_)
              · rw [← hw15]; exact ⟨var_load o_v15 (by simp) 0 _ rfl, var_load o_v15 (by simp) 1 _ rfl, var_load o_v15 (by simp) 2 _ rfl, var_load o_v15 (by simp) 3 _ rfl, var_load o_v15 (by simp) 4 _ rfl, var_load o_v15 (by simp) 5 _ rfl, var_load o_v15 (by simp) 6 _ rfl, var_load o_v16 (by simp) 0 _ rfl, var_load o_v16 (by simp) 1 _ rfl, var_load o_v16 (by simp) 2 _ rfl, var_load o_v16 (by simp) 3 _ rfl⟩
              rw [← hw15] at hHeld ⊢
              clear hw15
              refine wpAnyH_take (i := 0) (oi := ?oix2__0_1) (v := ?vx2__0_1) ?hix2__0_1 (by kernel_rfl) (by kernel_rfl) (by kernel_rfl) ?hQx2__0_1 (Or.inl ⟨?hwx2__0_1, ?hyx2__0_1⟩) (by assumption) ?_
              case hix2__0_1 => simp only [List.getElem?_toArray, List.getElem?_cons_zero]; rfl
              case hQx2__0_1 => exact fun _ _ _ h => h
              case hwx2__0_1 => rfl
              case hyx2__0_1 => intro w hSw; (try dsimp only at hSw); (first | (go_simp; done) | (go_simp; with_reducible rfl))
              try simp only [Act.put, List.setIfInBounds_toArray, List.set_cons_zero, List.set_cons_succ]
              refine wpAnyH_take (i := 1) (oi := ?oix2__1_2) (v := ?vx2__1_2) ?hix2__1_2 (by kernel_rfl) (by kernel_rfl) (by kernel_rfl) ?hQx2__1_2 (Or.inl ⟨?hwx2__1_2, ?hyx2__1_2⟩) (by assumption) ?_
              case hix2__1_2 => simp only [List.getElem?_toArray, List.getElem?_cons_succ, List.getElem?_cons_zero]; rfl
              case hQx2__1_2 => exact fun _ _ _ h => h
              case hwx2__1_2 => rfl
              case hyx2__1_2 => intro w hSw; (try dsimp only at hSw); (first | (go_simp; done) | (go_simp; with_reducible rfl))
              try simp only [Act.put, List.setIfInBounds_toArray, List.set_cons_zero, List.set_cons_succ]
              refine wpAnyH_ready (rs := [2]) (by kernel_rfl) (by simp) ?_
              refine AllReadyH.cons (o := ?ox2__2_3) ?hix2__2_3 (fun K hK => ?gx2__2_3) AllReadyH.nil
              case hix2__2_3 => simp only [List.getElem?_toArray, List.getElem?_cons_succ, List.getElem?_cons_zero]; rfl
              case gx2__2_3 =>
                obtain ⟨c_v120, f_v120, c_v121, f_v121, c_v122, f_v122, c_v123, f_v123, l_v12⟩ := Vn.v4 o_v12
                go_simp
                clear c_v120 f_v120 c_v121 f_v121 c_v122 f_v122 c_v123 f_v123 l_v12
                obtain ⟨w16, hw16⟩ : ∃ ww, ww = ((((w15.setCell ⟨(w.heap.size + 2), 0, none⟩ (.int .i64 y.Vendor)).setCell ⟨(w.heap.size + 2), 1, none⟩ (.int .i64 y.Serial)).setCell ⟨(w.heap.size + 2), 2, none⟩ (.int .i64 y.Seed)).setCell ⟨(w.heap.size + 2), 3, none⟩ (.int .i64 y.Counter)) := ⟨_, rfl⟩
                obtain ⟨o_new, tw16⟩ := var_some [.int .i64 y.Vendor, .int .i64 y.Serial, .int .i64 y.Seed, .int .i64 y.Counter] 0 _ _ o_v12 (by simp)
                rw [show setAll w15 ((w.heap.size + 2)) 0 [.int .i64 y.Vendor, .int .i64 y.Serial, .int .i64 y.Seed, .int .i64 y.Counter] = w16 from hw16.symm] at o_new tw16
                replace o_v12 : Owns w16 _ (varD 27 4 [.int .i64 y.Vendor, .int .i64 y.Serial, .int .i64 y.Seed, .int .i64 y.Counter]) _ _ := o_new
                clear o_new
                replace o_v6 := owns_turned o_v6 tw16 (fun b hb hb2 => by simp at hb hb2; omega)
                replace o_v7 := owns_turned o_v7 tw16 (fun b hb hb2 => by simp at hb hb2; omega)
                replace o_v13 := owns_turned o_v13 tw16 (fun b hb hb2 => by simp at hb hb2; omega)
                replace o_v15 := owns_turned o_v15 tw16 (fun b hb hb2 => by simp at hb hb2; omega)
                replace o_v16 := owns_turned o_v16 tw16 (fun b hb hb2 => by simp at hb hb2; omega)
                replace o_R9 := Vn.row_turned o_R9 tw16 (fun b hb hb2 => by have h1 := i_R9 b hb; simp at hb2; omega)
                replace HB := below_turned HB tw16 (fun b hb => by simp at hb; omega)
                have zw16 := tw16.2.2.2.1
                rw [← hw16]
                clear hw16
                refine hK.out _ _ ?_ (fun hHeld => ?_)
                · exact ⟨var_load o_v15 (by simp) 0 _ rfl, var_load o_v15 (by simp) 1 _ rfl, var_load o_v15 (by simp) 2 _ rfl, var_load o_v15 (by simp) 3 _ rfl, var_load o_v15 (by simp) 4 _ rfl, var_load o_v15 (by simp) 5 _ rfl, var_load o_v15 (by simp) 6 _ rfl, var_load o_v16 (by simp) 0 _ rfl, var_load o_v16 (by simp) 1 _ rfl, var_load o_v16 (by simp) 2 _ rfl, var_load o_v16 (by simp) 3 _ rfl⟩
                clear hK K
                try simp only [Act.put, List.setIfInBounds_toArray, List.set_cons_zero, List.set_cons_succ]
                refine wpAnyH_ready (rs := [3]) (by kernel_rfl) (by simp) ?_
                refine AllReadyH.cons (o := ?ox2__3_4) ?hix2__3_4 (fun K hK => ?gx2__3_4) AllReadyH.nil
                case hix2__3_4 => simp only [List.getElem?_toArray, List.getElem?_cons_succ, List.getElem?_cons_zero]; rfl
                case gx2__3_4 =>
                  obtain ⟨c_v130, f_v130, c_v131, f_v131, c_v132, f_v132, c_v133, f_v133, c_v134, f_v134, c_v135, f_v135, c_v136, f_v136, l_v13⟩ := Vn.v7 o_v13
                  go_simp
                  clear c_v130 f_v130 c_v131 f_v131 c_v132 f_v132 c_v133 f_v133 c_v134 f_v134 c_v135 f_v135 c_v136 f_v136 l_v13
                  obtain ⟨w17, hw17⟩ : ∃ ww, ww = (((((((w16.setCell ⟨(w.heap.size + 3), 0, none⟩ (.string z)).setCell ⟨(w.heap.size + 3), 1, none⟩ (.string fo)).setCell ⟨(w.heap.size + 3), 2, none⟩ (.int .i64 ch)).setCell ⟨(w.heap.size + 3), 3, none⟩ (.int .i64 k)).setCell ⟨(w.heap.size + 3), 4, none⟩ (.bool p)).setCell ⟨(w.heap.size + 3), 5, none⟩ (.int .i64 y.Counter)).setCell ⟨(w.heap.size + 3), 6, none⟩ (.int .i64 sv)) := ⟨_, rfl⟩
                  obtain ⟨o_new, tw17⟩ := var_some [.string z, .string fo, .int .i64 ch, .int .i64 k, .bool p, .int .i64 y.Counter, .int .i64 sv] 0 _ _ o_v13 (by simp)
                  rw [show setAll w16 ((w.heap.size + 3)) 0 [.string z, .string fo, .int .i64 ch, .int .i64 k, .bool p, .int .i64 y.Counter, .int .i64 sv] = w17 from hw17.symm] at o_new tw17
                  replace o_v13 : Owns w17 _ (varD 29 7 [.string z, .string fo, .int .i64 ch, .int .i64 k, .bool p, .int .i64 y.Counter, .int .i64 sv]) _ _ := o_new
                  clear o_new
                  replace o_v6 := owns_turned o_v6 tw17 (fun b hb hb2 => by simp at hb hb2; omega)
                  replace o_v7 := owns_turned o_v7 tw17 (fun b hb hb2 => by simp at hb hb2; omega)
                  replace o_v12 := owns_turned o_v12 tw17 (fun b hb hb2 => by simp at hb hb2; omega)
                  replace o_v15 := owns_turned o_v15 tw17 (fun b hb hb2 => by simp at hb hb2; omega)
                  replace o_v16 := owns_turned o_v16 tw17 (fun b hb hb2 => by simp at hb hb2; omega)
                  replace o_R9 := Vn.row_turned o_R9 tw17 (fun b hb hb2 => by have h1 := i_R9 b hb; simp at hb2; omega)
                  replace HB := below_turned HB tw17 (fun b hb => by simp at hb; omega)
                  have zw17 := tw17.2.2.2.1
                  rw [← hw17]
                  clear hw17
                  refine hK.out _ _ ?_ (fun hHeld => ?_)
                  · exact ⟨var_load o_v15 (by simp) 0 _ rfl, var_load o_v15 (by simp) 1 _ rfl, var_load o_v15 (by simp) 2 _ rfl, var_load o_v15 (by simp) 3 _ rfl, var_load o_v15 (by simp) 4 _ rfl, var_load o_v15 (by simp) 5 _ rfl, var_load o_v15 (by simp) 6 _ rfl, var_load o_v16 (by simp) 0 _ rfl, var_load o_v16 (by simp) 1 _ rfl, var_load o_v16 (by simp) 2 _ rfl, var_load o_v16 (by simp) 3 _ rfl⟩
                  clear hK K
                  try simp only [Act.put, List.setIfInBounds_toArray, List.set_cons_zero, List.set_cons_succ]
                  refine wpAnyH_take (i := 4) (oi := ?oix2__4_5) (v := ?vx2__4_5) ?hix2__4_5 (by kernel_rfl) (by kernel_rfl) (by kernel_rfl) ?hQx2__4_5 (Or.inl ⟨?hwx2__4_5, ?hyx2__4_5⟩) (by assumption) ?_
                  case hix2__4_5 => simp only [List.getElem?_toArray, List.getElem?_cons_succ, List.getElem?_cons_zero]; rfl
                  case hQx2__4_5 => exact fun _ _ _ h => h
                  case hwx2__4_5 => rfl
                  case hyx2__4_5 => intro w hSw; (try dsimp only at hSw); (first | (go_simp; done) | (go_simp; with_reducible rfl))
                  try simp only [Act.put, List.setIfInBounds_toArray, List.set_cons_zero, List.set_cons_succ]
                  refine wpAnyH_done (by kernel_rfl) ?_ _
                  obtain ⟨c_v120, f_v120, c_v121, f_v121, c_v122, f_v122, c_v123, f_v123, l_v12⟩ := Vn.v4 o_v12
                  obtain ⟨c_v130, f_v130, c_v131, f_v131, c_v132, f_v132, c_v133, f_v133, c_v134, f_v134, c_v135, f_v135, c_v136, f_v136, l_v13⟩ := Vn.v7 o_v13
                  go_wp2
                  clear c_v120 f_v120 c_v121 f_v121 c_v122 f_v122 c_v123 f_v123 l_v12 c_v130 f_v130 c_v131 f_v131 c_v132 f_v132 c_v133 f_v133 c_v134 f_v134 c_v135 f_v135 c_v136 f_v136 l_v13
                  have y_v12_0 : w17.cell? ⟨(w.heap.size + 2), 0, none⟩ = some (.int .i64 y.Vendor) := var_load o_v12 (by simp) 0 _ rfl
                  have y_v12_1 : w17.cell? ⟨(w.heap.size + 2), 1, none⟩ = some (.int .i64 y.Serial) := var_load o_v12 (by simp) 1 _ rfl
                  have y_v12_2 : w17.cell? ⟨(w.heap.size + 2), 2, none⟩ = some (.int .i64 y.Seed) := var_load o_v12 (by simp) 2 _ rfl
                  have y_v12_3 : w17.cell? ⟨(w.heap.size + 2), 3, none⟩ = some (.int .i64 y.Counter) := var_load o_v12 (by simp) 3 _ rfl
                  have y_v13_0 : w17.cell? ⟨(w.heap.size + 3), 0, none⟩ = some (.string z) := var_load o_v13 (by simp) 0 _ rfl
                  have y_v13_1 : w17.cell? ⟨(w.heap.size + 3), 1, none⟩ = some (.string fo) := var_load o_v13 (by simp) 1 _ rfl
                  have y_v13_2 : w17.cell? ⟨(w.heap.size + 3), 2, none⟩ = some (.int .i64 ch) := var_load o_v13 (by simp) 2 _ rfl
                  have y_v13_3 : w17.cell? ⟨(w.heap.size + 3), 3, none⟩ = some (.int .i64 k) := var_load o_v13 (by simp) 3 _ rfl
                  have y_v13_4 : w17.cell? ⟨(w.heap.size + 3), 4, none⟩ = some (.bool p) := var_load o_v13 (by simp) 4 _ rfl
                  have y_v13_5 : w17.cell? ⟨(w.heap.size + 3), 5, none⟩ = some (.int .i64 y.Counter) := var_load o_v13 (by simp) 5 _ rfl
                  have y_v13_6 : w17.cell? ⟨(w.heap.size + 3), 6, none⟩ = some (.int .i64 sv) := var_load o_v13 (by simp) 6 _ rfl
                  refine bodyPost_ret (v := .tuple #[.agg #[.int .i64 y.Vendor, .int .i64 y.Serial, .int .i64 y.Seed, .int .i64 y.Counter], .agg #[.string z, .string fo, .int .i64 ch, .int .i64 k, .bool p, .int .i64 y.Counter, .int .i64 sv], .bool true]) (by simp [results, Tryd.results6, go_sem, y_v12_0, y_v12_1, y_v12_2, y_v12_3, y_v13_0, y_v13_1, y_v13_2, y_v13_3, y_v13_4, y_v13_5, y_v13_6]) rfl ?_
                  exact ⟨by unfold mkV mkS mkA mkB; simp [hq1, hq2, ← HSB.out, ← HSX.out, ← HSV.out, ← HFO.out], HB⟩
            | false =>
              obtain ⟨c_v60, f_v60, c_v61, f_v61, c_v62, f_v62, c_v63, f_v63, l_v6⟩ := Vn.v4 o_v6
              obtain ⟨c_v120, f_v120, c_v121, f_v121, c_v122, f_v122, c_v123, f_v123, l_v12⟩ := Vn.v4 o_v12
              obtain ⟨c_v130, f_v130, c_v131, f_v131, c_v132, f_v132, c_v133, f_v133, c_v134, f_v134, c_v135, f_v135, c_v136, f_v136, l_v13⟩ := Vn.v7 o_v13
              go_wp2
              clear c_v60 f_v60 c_v61 f_v61 c_v62 f_v62 c_v63 f_v63 l_v6 c_v120 f_v120 c_v121 f_v121 c_v122 f_v122 c_v123 f_v123 l_v12 c_v130 f_v130 c_v131 f_v131 c_v132 f_v132 c_v133 f_v133 c_v134 f_v134 c_v135 f_v135 c_v136 f_v136 l_v13
              obtain ⟨w13, hw13⟩ : ∃ ww, ww = ((((w12.setCell ⟨(w.heap.size + 2), 0, none⟩ (.int .i64 x.Vendor)).setCell ⟨(w.heap.size + 2), 1, none⟩ (.int .i64 x.Serial)).setCell ⟨(w.heap.size + 2), 2, none⟩ (.int .i64 x.Seed)).setCell ⟨(w.heap.size + 2), 3, none⟩ (.int .i64 x.Counter)) := ⟨_, rfl⟩
              obtain ⟨o_new, tw13⟩ := var_some [.int .i64 x.Vendor, .int .i64 x.Serial, .int .i64 x.Seed, .int .i64 x.Counter] 0 _ _ o_v12 (by simp)
              rw [show setAll w12 ((w.heap.size + 2)) 0 [.int .i64 x.Vendor, .int .i64 x.Serial, .int .i64 x.Seed, .int .i64 x.Counter] = w13 from hw13.symm] at o_new tw13
              replace o_v12 : Owns w13 _ (varD 27 4 [.int .i64 x.Vendor, .int .i64 x.Serial, .int .i64 x.Seed, .int .i64 x.Counter]) _ _ := o_new
              clear o_new
              replace o_v6 := owns_turned o_v6 tw13 (fun b hb hb2 => by simp at hb hb2; omega)
              replace o_v7 := owns_turned o_v7 tw13 (fun b hb hb2 => by simp at hb hb2; omega)
              replace o_v13 := owns_turned o_v13 tw13 (fun b hb hb2 => by simp at hb hb2; omega)
              replace o_v15 := owns_turned o_v15 tw13 (fun b hb hb2 => by simp at hb hb2; omega)
              replace o_v16 := owns_turned o_v16 tw13 (fun b hb hb2 => by simp at hb hb2; omega)
              replace o_R9 := Vn.row_turned o_R9 tw13 (fun b hb hb2 => by have h1 := i_R9 b hb; simp at hb2; omega)
              replace HB := below_turned HB tw13 (fun b hb => by simp at hb; omega)
              have zw13 := tw13.2.2.2.1
              rw [← hw13]
              clear hw13
              obtain ⟨w14, hw14⟩ : ∃ ww, ww = (((((((w13.setCell ⟨(w.heap.size + 3), 0, none⟩ (.string ⟨#[]⟩)).setCell ⟨(w.heap.size + 3), 1, none⟩ (.string ⟨#[]⟩)).setCell ⟨(w.heap.size + 3), 2, none⟩ (.int .i64 0)).setCell ⟨(w.heap.size + 3), 3, none⟩ (.int .i64 0)).setCell ⟨(w.heap.size + 3), 4, none⟩ (.bool false)).setCell ⟨(w.heap.size + 3), 5, none⟩ (.int .i64 0)).setCell ⟨(w.heap.size + 3), 6, none⟩ (.int .i64 0)) := ⟨_, rfl⟩
              obtain ⟨o_new, tw14⟩ := var_some [.string ⟨#[]⟩, .string ⟨#[]⟩, .int .i64 0, .int .i64 0, .bool false, .int .i64 0, .int .i64 0] 0 _ _ o_v13 (by simp)
              rw [show setAll w13 ((w.heap.size + 3)) 0 [.string ⟨#[]⟩, .string ⟨#[]⟩, .int .i64 0, .int .i64 0, .bool false, .int .i64 0, .int .i64 0] = w14 from hw14.symm] at o_new tw14
              replace o_v13 : Owns w14 _ (varD 29 7 [.string ⟨#[]⟩, .string ⟨#[]⟩, .int .i64 0, .int .i64 0, .bool false, .int .i64 0, .int .i64 0]) _ _ := o_new
              clear o_new
              replace o_v6 := owns_turned o_v6 tw14 (fun b hb hb2 => by simp at hb hb2; omega)
              replace o_v7 := owns_turned o_v7 tw14 (fun b hb hb2 => by simp at hb hb2; omega)
              replace o_v12 := owns_turned o_v12 tw14 (fun b hb hb2 => by simp at hb hb2; omega)
              replace o_v15 := owns_turned o_v15 tw14 (fun b hb hb2 => by simp at hb hb2; omega)
              replace o_v16 := owns_turned o_v16 tw14 (fun b hb hb2 => by simp at hb hb2; omega)
              replace o_R9 := Vn.row_turned o_R9 tw14 (fun b hb hb2 => by have h1 := i_R9 b hb; simp at hb2; omega)
              replace HB := below_turned HB tw14 (fun b hb => by simp at hb; omega)
              have zw14 := tw14.2.2.2.1
              rw [← hw14]
              clear hw14
              have y_v12_0 : w14.cell? ⟨(w.heap.size + 2), 0, none⟩ = some (.int .i64 x.Vendor) := var_load o_v12 (by simp) 0 _ rfl
              have y_v12_1 : w14.cell? ⟨(w.heap.size + 2), 1, none⟩ = some (.int .i64 x.Serial) := var_load o_v12 (by simp) 1 _ rfl
              have y_v12_2 : w14.cell? ⟨(w.heap.size + 2), 2, none⟩ = some (.int .i64 x.Seed) := var_load o_v12 (by simp) 2 _ rfl
              have y_v12_3 : w14.cell? ⟨(w.heap.size + 2), 3, none⟩ = some (.int .i64 x.Counter) := var_load o_v12 (by simp) 3 _ rfl
              have y_v13_0 : w14.cell? ⟨(w.heap.size + 3), 0, none⟩ = some (.string ⟨#[]⟩) := var_load o_v13 (by simp) 0 _ rfl
              have y_v13_1 : w14.cell? ⟨(w.heap.size + 3), 1, none⟩ = some (.string ⟨#[]⟩) := var_load o_v13 (by simp) 1 _ rfl
              have y_v13_2 : w14.cell? ⟨(w.heap.size + 3), 2, none⟩ = some (.int .i64 0) := var_load o_v13 (by simp) 2 _ rfl
              have y_v13_3 : w14.cell? ⟨(w.heap.size + 3), 3, none⟩ = some (.int .i64 0) := var_load o_v13 (by simp) 3 _ rfl
              have y_v13_4 : w14.cell? ⟨(w.heap.size + 3), 4, none⟩ = some (.bool false) := var_load o_v13 (by simp) 4 _ rfl
              have y_v13_5 : w14.cell? ⟨(w.heap.size + 3), 5, none⟩ = some (.int .i64 0) := var_load o_v13 (by simp) 5 _ rfl
              have y_v13_6 : w14.cell? ⟨(w.heap.size + 3), 6, none⟩ = some (.int .i64 0) := var_load o_v13 (by simp) 6 _ rfl
              refine bodyPost_ret (v := .tuple #[.agg #[.int .i64 x.Vendor, .int .i64 x.Serial, .int .i64 x.Seed, .int .i64 x.Counter], .agg #[.string ⟨#[]⟩, .string ⟨#[]⟩, .int .i64 0, .int .i64 0, .bool false, .int .i64 0, .int .i64 0], .bool false]) (by simp [results, Tryd.results6, go_sem, y_v12_0, y_v12_1, y_v12_2, y_v12_3, y_v13_0, y_v13_1, y_v13_2, y_v13_3, y_v13_4, y_v13_5, y_v13_6]) rfl ?_
              exact ⟨by unfold mkV mkS mkA mkB; simp [hq1, hq2, ← HSB.out, ← HSX.out, ← HSV.out, ← HFO.out], HB⟩
          | false =>
            obtain ⟨c_v60, f_v60, c_v61, f_v61, c_v62, f_v62, c_v63, f_v63, l_v6⟩ := Vn.v4 o_v6
            obtain ⟨c_v120, f_v120, c_v121, f_v121, c_v122, f_v122, c_v123, f_v123, l_v12⟩ := Vn.v4 o_v12
            obtain ⟨c_v130, f_v130, c_v131, f_v131, c_v132, f_v132, c_v133, f_v133, c_v134, f_v134, c_v135, f_v135, c_v136, f_v136, l_v13⟩ := Vn.v7 o_v13
            go_wp2
            clear c_v60 f_v60 c_v61 f_v61 c_v62 f_v62 c_v63 f_v63 l_v6 c_v120 f_v120 c_v121 f_v121 c_v122 f_v122 c_v123 f_v123 l_v12 c_v130 f_v130 c_v131 f_v131 c_v132 f_v132 c_v133 f_v133 c_v134 f_v134 c_v135 f_v135 c_v136 f_v136 l_v13
            obtain ⟨w13, hw13⟩ : ∃ ww, ww = ((((w12.setCell ⟨(w.heap.size + 2), 0, none⟩ (.int .i64 x.Vendor)).setCell ⟨(w.heap.size + 2), 1, none⟩ (.int .i64 x.Serial)).setCell ⟨(w.heap.size + 2), 2, none⟩ (.int .i64 x.Seed)).setCell ⟨(w.heap.size + 2), 3, none⟩ (.int .i64 x.Counter)) := ⟨_, rfl⟩
            obtain ⟨o_new, tw13⟩ := var_some [.int .i64 x.Vendor, .int .i64 x.Serial, .int .i64 x.Seed, .int .i64 x.Counter] 0 _ _ o_v12 (by simp)
            rw [show setAll w12 ((w.heap.size + 2)) 0 [.int .i64 x.Vendor, .int .i64 x.Serial, .int .i64 x.Seed, .int .i64 x.Counter] = w13 from hw13.symm] at o_new tw13
            replace o_v12 : Owns w13 _ (varD 27 4 [.int .i64 x.Vendor, .int .i64 x.Serial, .int .i64 x.Seed, .int .i64 x.Counter]) _ _ := o_new
            clear o_new
            replace o_v6 := owns_turned o_v6 tw13 (fun b hb hb2 => by simp at hb hb2; omega)
            replace o_v7 := owns_turned o_v7 tw13 (fun b hb hb2 => by simp at hb hb2; omega)
            replace o_v13 := owns_turned o_v13 tw13 (fun b hb hb2 => by simp at hb hb2; omega)
            replace o_v15 := owns_turned o_v15 tw13 (fun b hb hb2 => by simp at hb hb2; omega)
            replace o_v16 := owns_turned o_v16 tw13 (fun b hb hb2 => by simp at hb hb2; omega)
            replace o_R9 := Vn.row_turned o_R9 tw13 (fun b hb hb2 => by have h1 := i_R9 b hb; simp at hb2; omega)
            replace HB := below_turned HB tw13 (fun b hb => by simp at hb; omega)
            have zw13 := tw13.2.2.2.1
            rw [← hw13]
            clear hw13
            obtain ⟨w14, hw14⟩ : ∃ ww, ww = (((((((w13.setCell ⟨(w.heap.size + 3), 0, none⟩ (.string ⟨#[]⟩)).setCell ⟨(w.heap.size + 3), 1, none⟩ (.string ⟨#[]⟩)).setCell ⟨(w.heap.size + 3), 2, none⟩ (.int .i64 0)).setCell ⟨(w.heap.size + 3), 3, none⟩ (.int .i64 0)).setCell ⟨(w.heap.size + 3), 4, none⟩ (.bool false)).setCell ⟨(w.heap.size + 3), 5, none⟩ (.int .i64 0)).setCell ⟨(w.heap.size + 3), 6, none⟩ (.int .i64 0)) := ⟨_, rfl⟩
            obtain ⟨o_new, tw14⟩ := var_some [.string ⟨#[]⟩, .string ⟨#[]⟩, .int .i64 0, .int .i64 0, .bool false, .int .i64 0, .int .i64 0] 0 _ _ o_v13 (by simp)
            rw [show setAll w13 ((w.heap.size + 3)) 0 [.string ⟨#[]⟩, .string ⟨#[]⟩, .int .i64 0, .int .i64 0, .bool false, .int .i64 0, .int .i64 0] = w14 from hw14.symm] at o_new tw14
            replace o_v13 : Owns w14 _ (varD 29 7 [.string ⟨#[]⟩, .string ⟨#[]⟩, .int .i64 0, .int .i64 0, .bool false, .int .i64 0, .int .i64 0]) _ _ := o_new
            clear o_new
            replace o_v6 := owns_turned o_v6 tw14 (fun b hb hb2 => by simp at hb hb2; omega)
            replace o_v7 := owns_turned o_v7 tw14 (fun b hb hb2 => by simp at hb hb2; omega)
            replace o_v12 := owns_turned o_v12 tw14 (fun b hb hb2 => by simp at hb hb2; omega)
            replace o_v15 := owns_turned o_v15 tw14 (fun b hb hb2 => by simp at hb hb2; omega)
            replace o_v16 := owns_turned o_v16 tw14 (fun b hb hb2 => by simp at hb hb2; omega)
            replace o_R9 := Vn.row_turned o_R9 tw14 (fun b hb hb2 => by have h1 := i_R9 b hb; simp at hb2; omega)
            replace HB := below_turned HB tw14 (fun b hb => by simp at hb; omega)
            have zw14 := tw14.2.2.2.1
            rw [← hw14]
            clear hw14
            have y_v12_0 : w14.cell? ⟨(w.heap.size + 2), 0, none⟩ = some (.int .i64 x.Vendor) := var_load o_v12 (by simp) 0 _ rfl
            have y_v12_1 : w14.cell? ⟨(w.heap.size + 2), 1, none⟩ = some (.int .i64 x.Serial) := var_load o_v12 (by simp) 1 _ rfl
            have y_v12_2 : w14.cell? ⟨(w.heap.size + 2), 2, none⟩ = some (.int .i64 x.Seed) := var_load o_v12 (by simp) 2 _ rfl
            have y_v12_3 : w14.cell? ⟨(w.heap.size + 2), 3, none⟩ = some (.int .i64 x.Counter) := var_load o_v12 (by simp) 3 _ rfl
            have y_v13_0 : w14.cell? ⟨(w.heap.size + 3), 0, none⟩ = some (.string ⟨#[]⟩) := var_load o_v13 (by simp) 0 _ rfl
            have y_v13_1 : w14.cell? ⟨(w.heap.size + 3), 1, none⟩ = some (.string ⟨#[]⟩) := var_load o_v13 (by simp) 1 _ rfl
            have y_v13_2 : w14.cell? ⟨(w.heap.size + 3), 2, none⟩ = some (.int .i64 0) := var_load o_v13 (by simp) 2 _ rfl
            have y_v13_3 : w14.cell? ⟨(w.heap.size + 3), 3, none⟩ = some (.int .i64 0) := var_load o_v13 (by simp) 3 _ rfl
            have y_v13_4 : w14.cell? ⟨(w.heap.size + 3), 4, none⟩ = some (.bool false) := var_load o_v13 (by simp) 4 _ rfl
            have y_v13_5 : w14.cell? ⟨(w.heap.size + 3), 5, none⟩ = some (.int .i64 0) := var_load o_v13 (by simp) 5 _ rfl
            have y_v13_6 : w14.cell? ⟨(w.heap.size + 3), 6, none⟩ = some (.int .i64 0) := var_load o_v13 (by simp) 6 _ rfl
            refine bodyPost_ret (v := .tuple #[.agg #[.int .i64 x.Vendor, .int .i64 x.Serial, .int .i64 x.Seed, .int .i64 x.Counter], .agg #[.string ⟨#[]⟩, .string ⟨#[]⟩, .int .i64 0, .int .i64 0, .bool false, .int .i64 0, .int .i64 0], .bool false]) (by simp [results, Tryd.results6, go_sem, y_v12_0, y_v12_1, y_v12_2, y_v12_3, y_v13_0, y_v13_1, y_v13_2, y_v13_3, y_v13_4, y_v13_5, y_v13_6]) rfl ?_
            exact ⟨by unfold mkV mkS mkA mkB; simp [hq1, ← HSB.out, ← HSX.out, ← HSV.out, ← HFO.out], HB⟩
    case gx1__10_6 =>
      go_simp
      obtain ⟨w9, hw9⟩ : ∃ ww, ww = w8.alloc (.cells #[.int .i64 0, .int .i64 0, .int .i64 0, .int .i64 0] 27) := ⟨_, rfl⟩
      have o_v16 := var_owns w8 27 4 [.int .i64 0, .int .i64 0, .int .i64 0, .int .i64 0] rfl
      have bw9 : Below w8.heap.size w8 w9 := hw9 ▸ (Below.refl _ _).alloc (Nat.le_refl _) _
      rw [← hw9] at o_v16 ⊢
      have zw9 : w8.heap.size < w9.heap.size := by rw [hw9]; simp
      clear hw9
      replace o_v6 := owns_below o_v6 bw9
      replace o_v7 := owns_below o_v7 bw9
      replace o_v12 := owns_below o_v12 bw9
      replace o_v13 := owns_below o_v13 bw9
      replace o_v15 := owns_below o_v15 bw9
      replace o_R9 := own_below o_R9 bw9
      replace HB := HB.trans (bw9.mono HB.size)
      refine hK.out _ _ ?_ (fun hHeld => ?_)
      · exact ⟨var_load o_v15 (by simp) 0 _ rfl, var_load o_v15 (by simp) 1 _ rfl, var_load o_v15 (by simp) 2 _ rfl, var_load o_v15 (by simp) 3 _ rfl, var_load o_v15 (by simp) 4 _ rfl, var_load o_v15 (by simp) 5 _ rfl, var_load o_v15 (by simp) 6 _ rfl, var_load o_v6 (by simp) 0 _ rfl, var_load o_v6 (by simp) 1 _ rfl, var_load o_v6 (by simp) 2 _ rfl, var_load o_v6 (by simp) 3 _ rfl⟩
      clear hK K
      try simp only [Act.put, List.setIfInBounds_toArray, List.set_cons_zero, List.set_cons_succ]
      refine wpAnyH_ready (rs := [5]) (by kernel_rfl) (by simp) ?_
      refine AllReadyH.cons (o := ?ox1__5_15) ?hix1__5_15 (fun K hK => ?gx1__5_15) AllReadyH.nil
      case hix1__5_15 => simp only [List.getElem?_toArray, List.getElem?_cons_succ, List.getElem?_cons_zero]; rfl
      case gx1__5_15 =>
        go_simp
        go_at_call 15
        (with_reducible refine (KS.out _ A9 c9 (Rd.own o_R9)).mono ?_); rintro e w10 ⟨rfl, bw10⟩
        replace o_v6 := owns_below o_v6 bw10
        replace o_v7 := owns_below o_v7 bw10
        replace o_v12 := owns_below o_v12 bw10
        replace o_v13 := owns_below o_v13 bw10
        replace o_v15 := owns_below o_v15 bw10
        replace o_v16 := owns_below o_v16 bw10
        replace o_R9 := own_below o_R9 bw10
        replace HB := HB.trans (bw10.mono HB.size)
        have zw10 := bw10.size
        refine hK.out _ _ ?_ (fun hHeld => ?_)
        · exact ⟨var_load o_v15 (by simp) 0 _ rfl, var_load o_v15 (by simp) 1 _ rfl, var_load o_v15 (by simp) 2 _ rfl, var_load o_v15 (by simp) 3 _ rfl, var_load o_v15 (by simp) 4 _ rfl, var_load o_v15 (by simp) 5 _ rfl, var_load o_v15 (by simp) 6 _ rfl, var_load o_v6 (by simp) 0 _ rfl, var_load o_v6 (by simp) 1 _ rfl, var_load o_v6 (by simp) 2 _ rfl, var_load o_v6 (by simp) 3 _ rfl⟩
        clear hK K
        try simp only [Act.put, List.setIfInBounds_toArray, List.set_cons_zero, List.set_cons_succ]
        refine wpAnyH_take (i := 6) (oi := ?oix1__6_16) (v := ?vx1__6_16) ?hix1__6_16 (by kernel_rfl) (by kernel_rfl) (by kernel_rfl) ?hQx1__6_16 (Or.inl ⟨?hwx1__6_16, ?hyx1__6_16⟩) (by assumption) ?_
        case hix1__6_16 => simp only [List.getElem?_toArray, List.getElem?_cons_succ, List.getElem?_cons_zero]; rfl
        case hQx1__6_16 => exact fun _ _ _ h => h
        case hwx1__6_16 => rfl
        case hyx1__6_16 => intro w hSw; (try dsimp only at hSw); (first | (go_simp; done) | (go_simp; with_reducible rfl))
        try simp only [Act.put, List.setIfInBounds_toArray, List.set_cons_zero, List.set_cons_succ]
        refine wpAnyH_take (i := 7) (oi := ?oix1__7_17) (v := ?vx1__7_17) ?hix1__7_17 (by kernel_rfl) (by kernel_rfl) (by kernel_rfl) ?hQx1__7_17 (Or.inl ⟨?hwx1__7_17, ?hyx1__7_17⟩) (by assumption) ?_
        case hix1__7_17 => simp only [List.getElem?_toArray, List.getElem?_cons_succ, List.getElem?_cons_zero]; rfl
        case hQx1__7_17 => exact fun _ _ _ h => h
        case hwx1__7_17 => rfl
        case hyx1__7_17 => intro w hSw; (try dsimp only at hSw); (first | (go_simp; done) | (go_simp; with_reducible rfl))
        try simp only [Act.put, List.setIfInBounds_toArray, List.set_cons_zero, List.set_cons_succ]
        refine wpAnyH_take (i := 8) (oi := ?oix1__8_18) (v := ?vx1__8_18) ?hix1__8_18 (by kernel_rfl) (by kernel_rfl) (by kernel_rfl) ?hQx1__8_18 (Or.inl ⟨?hwx1__8_18, ?hyx1__8_18⟩) (by assumption) ?_
        case hix1__8_18 => simp only [List.getElem?_toArray, List.getElem?_cons_succ, List.getElem?_cons_zero]; rfl
        case hQx1__8_18 => exact fun _ _ _ h => h
        case hwx1__8_18 => rfl
        case hyx1__8_18 => intro w hSw; (try dsimp only at hSw); (first | (go_simp; done) | (go_simp; with_reducible rfl))
        try simp only [Act.put, List.setIfInBounds_toArray, List.set_cons_zero, List.set_cons_succ]
        refine wpAnyH_take (i := 9) (oi := ?oix1__9_19) (v := ?vx1__9_19) ?hix1__9_19 (by kernel_rfl) (by kernel_rfl) (by kernel_rfl) ?hQx1__9_19 (Or.inl ⟨?hwx1__9_19, ?hyx1__9_19⟩) (by assumption) ?_
        case hix1__9_19 => simp only [List.getElem?_toArray, List.getElem?_cons_succ, List.getElem?_cons_zero]; rfl
        case hQx1__9_19 => exact fun _ _ _ h => h
        case hwx1__9_19 => rfl
        case hyx1__9_19 => intro w hSw; (try dsimp only at hSw); (first | (go_simp; done) | (go_simp; with_reducible rfl))
        try simp only [Act.put, List.setIfInBounds_toArray, List.set_cons_zero, List.set_cons_succ]
        refine wpAnyH_ready (rs := [11]) (by kernel_rfl) (by simp) ?_
        refine AllReadyH.cons (o := ?ox1__11_20) ?hix1__11_20 (fun K hK => ?gx1__11_20) AllReadyH.nil
        case hix1__11_20 => simp only [List.getElem?_toArray, List.getElem?_cons_succ, List.getElem?_cons_zero]; rfl
        case gx1__11_20 =>
          obtain ⟨c_v160, f_v160, c_v161, f_v161, c_v162, f_v162, c_v163, f_v163, l_v16⟩ := Vn.v4 o_v16
          go_simp
          clear c_v160 f_v160 c_v161 f_v161 c_v162 f_v162 c_v163 f_v163 l_v16
          obtain ⟨w11, hw11⟩ : ∃ ww, ww = ((((w10.setCell ⟨w8.heap.size, 0, none⟩ (.int .i64 y.Vendor)).setCell ⟨w8.heap.size, 1, none⟩ (.int .i64 y.Serial)).setCell ⟨w8.heap.size, 2, none⟩ (.int .i64 y.Seed)).setCell ⟨w8.heap.size, 3, none⟩ (.int .i64 y.Counter)) := ⟨_, rfl⟩
          obtain ⟨o_new, tw11⟩ := var_some [.int .i64 y.Vendor, .int .i64 y.Serial, .int .i64 y.Seed, .int .i64 y.Counter] 0 _ _ o_v16 (by simp)
          rw [show setAll w10 (w8.heap.size) 0 [.int .i64 y.Vendor, .int .i64 y.Serial, .int .i64 y.Seed, .int .i64 y.Counter] = w11 from hw11.symm] at o_new tw11
          replace o_v16 : Owns w11 _ (varD 27 4 [.int .i64 y.Vendor, .int .i64 y.Serial, .int .i64 y.Seed, .int .i64 y.Counter]) _ _ := o_new
          clear o_new
          replace o_v6 := owns_turned o_v6 tw11 (fun b hb hb2 => by simp at hb hb2; omega)
          replace o_v7 := owns_turned o_v7 tw11 (fun b hb hb2 => by simp at hb hb2; omega)
          replace o_v12 := owns_turned o_v12 tw11 (fun b hb hb2 => by simp at hb hb2; omega)
          replace o_v13 := owns_turned o_v13 tw11 (fun b hb hb2 => by simp at hb hb2; omega)
          replace o_v15 := owns_turned o_v15 tw11 (fun b hb hb2 => by simp at hb hb2; omega)
          replace o_R9 := Vn.row_turned o_R9 tw11 (fun b hb hb2 => by have h1 := i_R9 b hb; simp at hb2; omega)
          replace HB := below_turned HB tw11 (fun b hb => by simp at hb; omega)
          have zw11 := tw11.2.2.2.1
          rw [← hw11]
          clear hw11
          refine hK.out _ _ ?_ (fun hHeld => ?_)
          · exact ⟨var_load o_v15 (by simp) 0 _ rfl, var_load o_v15 (by simp) 1 _ rfl, var_load o_v15 (by simp) 2 _ rfl, var_load o_v15 (by simp) 3 _ rfl, var_load o_v15 (by simp) 4 _ rfl, var_load o_v15 (by simp) 5 _ rfl, var_load o_v15 (by simp) 6 _ rfl, var_load o_v6 (by simp) 0 _ rfl, var_load o_v6 (by simp) 1 _ rfl, var_load o_v6 (by simp) 2 _ rfl, var_load o_v6 (by simp) 3 _ rfl⟩
          clear hK K
          try simp only [Act.put, List.setIfInBounds_toArray, List.set_cons_zero, List.set_cons_succ]
          refine wpAnyH_take (i := 12) (oi := ?oix1__12_21) (v := ?vx1__12_21) ?hix1__12_21 (by kernel_rfl) (by kernel_rfl) (by kernel_rfl) ?hQx1__12_21 (Or.inl ⟨?hwx1__12_21, ?hyx1__12_21⟩) (by assumption) ?_
          case hix1__12_21 => simp only [List.getElem?_toArray, List.getElem?_cons_succ, List.getElem?_cons_zero]; rfl
          case hQx1__12_21 => exact fun _ _ _ h => h
          case hwx1__12_21 => rfl
          case hyx1__12_21 => intro w hSw; (try dsimp only at hSw); (first | (go_simp; done) | (go_simp; with_reducible rfl))
          try simp only [Act.put, List.setIfInBounds_toArray, List.set_cons_zero, List.set_cons_succ]
          refine wpAnyH_take (i := 13) (oi := ?oix1__13_22) (v := ?vx1__13_22) ?hix1__13_22 (by kernel_rfl) (by kernel_rfl) (by kernel_rfl) ?hQx1__13_22 (Or.inl ⟨?hwx1__13_22, ?hyx1__13_22⟩) (by assumption) ?_
          case hix1__13_22 => simp only [List.getElem?_toArray, List.getElem?_cons_succ, List.getElem?_cons_zero]; rfl
          case hQx1__13_22 => exact fun _ _ _ h => h
          case hwx1__13_22 => rfl
          case hyx1__13_22 => intro w hSw; (try dsimp only at hSw); (first | (go_simp; done) | (go_simp; with_reducible rfl))
          try simp only [Act.put, List.setIfInBounds_toArray, List.set_cons_zero, List.set_cons_succ]
          refine wpAnyH_done (by kernel_rfl) ?_ _
          obtain ⟨c_v70, f_v70, c_v71, f_v71, c_v72, f_v72, l_v7⟩ := Vn.v3 o_v7
          go_wp2_with fail
          clear c_v70 f_v70 c_v71 f_v71 c_v72 f_v72 l_v7
          (with_reducible refine (C9b.specMay w11 o z _ (org_rds _ _ o) (by omega) (by omega)).mono ?_); rintro e w12 ⟨rfl, bw12⟩
          replace o_v6 := owns_below o_v6 bw12
          replace o_v7 := owns_below o_v7 bw12
          replace o_v12 := owns_below o_v12 bw12
          replace o_v13 := owns_below o_v13 bw12
          replace o_v15 := owns_below o_v15 bw12
          replace o_v16 := owns_below o_v16 bw12
          replace o_R9 := own_below o_R9 bw12
          replace HB := HB.trans (bw12.mono HB.size)
          have zw12 := bw12.size
          cases hq3 : mayO o (bts z) with
          | true =>
            cases hq4 : sb with
            | true =>
              obtain ⟨c_v150, f_v150, c_v151, f_v151, c_v152, f_v152, c_v153, f_v153, c_v154, f_v154, c_v155, f_v155, c_v156, f_v156, l_v15⟩ := Vn.v7 o_v15
              obtain ⟨c_v160, f_v160, c_v161, f_v161, c_v162, f_v162, c_v163, f_v163, l_v16⟩ := Vn.v4 o_v16
              go_wp2_with fail
              clear c_v150 f_v150 c_v151 f_v151 c_v152 f_v152 c_v153 f_v153 c_v154 f_v154 c_v155 f_v155 c_v156 f_v156 l_v15 c_v160 f_v160 c_v161 f_v161 c_v162 f_v162 c_v163 f_v163 l_v16
              obtain ⟨w13, hw13⟩ : ∃ ww, ww = (w12.setCell ⟨w5.heap.size, 5, none⟩ (.int .i64 y.Counter)) := ⟨_, rfl⟩
              obtain ⟨o_new, tw13⟩ := var_some [.int .i64 y.Counter] 5 _ _ o_v15 (by simp)
              rw [show setAll w12 (w5.heap.size) 5 [.int .i64 y.Counter] = w13 from hw13.symm] at o_new tw13
              replace o_v15 : Owns w13 _ (varD 29 7 [.string z, .string fo, .int .i64 ch, .int .i64 k, .bool p, .int .i64 y.Counter, .int .i64 0]) _ _ := o_new
              clear o_new
              replace o_v6 := owns_turned o_v6 tw13 (fun b hb hb2 => by simp at hb hb2; omega)
              replace o_v7 := owns_turned o_v7 tw13 (fun b hb hb2 => by simp at hb hb2; omega)
              replace o_v12 := owns_turned o_v12 tw13 (fun b hb hb2 => by simp at hb hb2; omega)
              replace o_v13 := owns_turned o_v13 tw13 (fun b hb hb2 => by simp at hb hb2; omega)
              replace o_v16 := owns_turned o_v16 tw13 (fun b hb hb2 => by simp at hb hb2; omega)
              replace o_R9 := Vn.row_turned o_R9 tw13 (fun b hb hb2 => by have h1 := i_R9 b hb; simp at hb2; omega)
              replace HB := below_turned HB tw13 (fun b hb => by simp at hb; omega)
              have zw13 := tw13.2.2.2.1
              rw [← hw13]
              clear hw13
              obtain ⟨w14, hw14⟩ : ∃ ww, ww = (w13.setCell ⟨w5.heap.size, 6, none⟩ (.int .i64 sv)) := ⟨_, rfl⟩
              obtain ⟨o_new, tw14⟩ := var_some [.int .i64 sv] 6 _ _ o_v15 (by simp)
              rw [show setAll w13 (w5.heap.size) 6 [.int .i64 sv] = w14 from hw14.symm] at o_new tw14
              replace o_v15 : Owns w14 _ (varD 29 7 [.string z, .string fo, .int .i64 ch, .int .i64 k, .bool p, .int .i64 y.Counter, .int .i64 sv]) _ _ := o_new
              clear o_new
              replace o_v6 := owns_turned o_v6 tw14 (fun b hb hb2 => by simp at hb hb2; omega)
              replace o_v7 := owns_turned o_v7 tw14 (fun b hb hb2 => by simp at hb hb2; omega)
              replace o_v12 := owns_turned o_v12 tw14 (fun b hb hb2 => by simp at hb hb2; omega)
              replace o_v13 := owns_turned o_v13 tw14 (fun b hb hb2 => by simp at hb hb2; omega)
              replace o_v16 := owns_turned o_v16 tw14 (fun b hb hb2 => by simp at hb hb2; omega)
              replace o_R9 := Vn.row_turned o_R9 tw14 (fun b hb hb2 => by have h1 := i_R9 b hb; simp at hb2; omega)
              replace HB := below_turned HB tw14 (fun b hb => by simp at hb; omega)
              have zw14 := tw14.2.2.2.1
              rw [← hw14]
              clear hw14
              obtain ⟨w15, hw15⟩ : ∃ ww, ww = w14.drew := ⟨_, rfl⟩
              have bw15 : Below w14.heap.size w14 w15 := hw15 ▸ drewN_below w14 1 _
              replace o_v6 := owns_below o_v6 bw15
              replace o_v7 := owns_below o_v7 bw15
              replace o_v12 := owns_below o_v12 bw15
              replace o_v13 := owns_below o_v13 bw15
              replace o_v15 := owns_below o_v15 bw15
              replace o_v16 := owns_below o_v16 bw15
              replace o_R9 := own_below o_R9 bw15
              replace HB := HB.trans (bw15.mono HB.size)
              have zw15 := bw15.size
              refine wp_region_held_drew (S := (fun (wx : World) => wx.cell? ⟨w5.heap.size, 0, none⟩ = some (.string z) ∧ wx.cell? ⟨w5.heap.size, 1, none⟩ = some (.string fo) ∧ wx.cell? ⟨w5.heap.size, 2, none⟩ = some (.int .i64 ch) ∧ wx.cell? ⟨w5.heap.size, 3, none⟩ = some (.int .i64 k) ∧ wx.cell? ⟨w5.heap.size, 4, none⟩ = some (.bool p) ∧ wx.cell? ⟨w5.heap.size, 5, none⟩ = some (.int .i64 y.Counter) ∧ wx.cell? ⟨w5.heap.size, 6, none⟩ = some (.int .i64 sv) ∧ wx.cell? ⟨w8.heap.size, 0, none⟩ = some (.int .i64 y.Vendor) ∧ wx.cell? ⟨w8.heap.size, 1, none⟩ = some (.int .i64 y.Serial) ∧ wx.cell? ⟨w8.heap.size, 2, none⟩ = some (.int .i64 y.Seed) ∧ wx.cell? ⟨w8.heap.size, 3, none⟩ = some (.int .i64 y.Counter))) (by kernel_rfl) ?_ (fun hHeld => ?_)
              · rw [← hw15]; exact ⟨var_load o_v15 (by simp) 0 _ rfl, var_load o_v15 (by simp) 1 _ rfl, var_load o_v15 (by simp) 2 _ rfl, var_load o_v15 (by simp) 3 _ rfl, var_load o_v15 (by simp) 4 _ rfl, var_load o_v15 (by simp) 5 _ rfl, var_load o_v15 (by simp) 6 _ rfl, var_load o_v16 (by simp) 0 _ rfl, var_load o_v16 (by simp) 1 _ rfl, var_load o_v16 (by simp) 2 _ rfl, var_load o_v16 (by simp) 3 _ rfl⟩
              rw [← hw15] at hHeld ⊢
              clear hw15
              refine wpAnyH_take (i := 0) (oi := ?oix3__0_1) (v := ?vx3__0_1) ?hix3__0_1 (by kernel_rfl) (by kernel_rfl) (by kernel_rfl) ?hQx3__0_1 (Or.inl ⟨?hwx3__0_1, ?hyx3__0_1⟩) (by assumption) ?_
              case hix3__0_1 => simp only [List.getElem?_toArray, List.getElem?_cons_zero]; rfl
              case hQx3__0_1 => exact fun _ _ _ h => h
              case hwx3__0_1 => rfl
              case hyx3__0_1 => intro w hSw; (try dsimp only at hSw); (first | (go_simp; done) | (go_simp; with_reducible rfl))
              try simp only [Act.put, List.setIfInBounds_toArray, List.set_cons_zero, List.set_cons_succ]
              refine wpAnyH_take (i := 1) (oi := ?oix3__1_2) (v := ?vx3__1_2) ?hix3__1_2 (by kernel_rfl) (by kernel_rfl) (by kernel_rfl) ?hQx3__1_2 (Or.inl ⟨?hwx3__1_2, ?hyx3__1_2⟩) (by assumption) ?_
              case hix3__1_2 => simp only [List.getElem?_toArray, List.getElem?_cons_succ, List.getElem?_cons_zero]; rfl
              case hQx3__1_2 => exact fun _ _ _ h => h
              case hwx3__1_2 => rfl
              case hyx3__1_2 => intro w hSw; (try dsimp only at hSw); (first | (go_simp; done) | (go_simp; with_reducible rfl))
              try simp only [Act.put, List.setIfInBounds_toArray, List.set_cons_zero, List.set_cons_succ]
              refine wpAnyH_ready (rs := [2]) (by kernel_rfl) (by simp) ?_
              refine AllReadyH.cons (o := ?ox3__2_3) ?hix3__2_3 (fun K hK => ?gx3__2_3) AllReadyH.nil
              case hix3__2_3 => simp only [List.getElem?_toArray, List.getElem?_cons_succ, List.getElem?_cons_zero]; rfl
              case gx3__2_3 =>
                obtain ⟨c_v120, f_v120, c_v121, f_v121, c_v122, f_v122, c_v123, f_v123, l_v12⟩ := Vn.v4 o_v12
                go_simp
                clear c_v120 f_v120 c_v121 f_v121 c_v122 f_v122 c_v123 f_v123 l_v12
                obtain ⟨w16, hw16⟩ : ∃ ww, ww = ((((w15.setCell ⟨(w.heap.size + 2), 0, none⟩ (.int .i64 y.Vendor)).setCell ⟨(w.heap.size + 2), 1, none⟩ (.int .i64 y.Serial)).setCell ⟨(w.heap.size + 2), 2, none⟩ (.int .i64 y.Seed)).setCell ⟨(w.heap.size + 2), 3, none⟩ (.int .i64 y.Counter)) := ⟨_, rfl⟩
                obtain ⟨o_new, tw16⟩ := var_some [.int .i64 y.Vendor, .int .i64 y.Serial, .int .i64 y.Seed, .int .i64 y.Counter] 0 _ _ o_v12 (by simp)
                rw [show setAll w15 ((w.heap.size + 2)) 0 [.int .i64 y.Vendor, .int .i64 y.Serial, .int .i64 y.Seed, .int .i64 y.Counter] = w16 from hw16.symm] at o_new tw16
                replace o_v12 : Owns w16 _ (varD 27 4 [.int .i64 y.Vendor, .int .i64 y.Serial, .int .i64 y.Seed, .int .i64 y.Counter]) _ _ := o_new
                clear o_new
                replace o_v6 := owns_turned o_v6 tw16 (fun b hb hb2 => by simp at hb hb2; omega)
                replace o_v7 := owns_turned o_v7 tw16 (fun b hb hb2 => by simp at hb hb2; omega)
                replace o_v13 := owns_turned o_v13 tw16 (fun b hb hb2 => by simp at hb hb2; omega)
                replace o_v15 := owns_turned o_v15 tw16 (fun b hb hb2 => by simp at hb hb2; omega)
                replace o_v16 := owns_turned o_v16 tw16 (fun b hb hb2 => by simp at hb hb2; omega)
                replace o_R9 := Vn.row_turned o_R9 tw16 (fun b hb hb2 => by have h1 := i_R9 b hb; simp at hb2; omega)
                replace HB := below_turned HB tw16 (fun b hb => by simp at hb; omega)
                have zw16 := tw16.2.2.2.1
                rw [← hw16]
                clear hw16
                refine hK.out _ _ ?_ (fun hHeld => ?_)
                · exact ⟨var_load o_v15 (by simp) 0 _ rfl, var_load o_v15 (by simp) 1 _ rfl, var_load o_v15 (by simp) 2 _ rfl, var_load o_v15 (by simp) 3 _ rfl, var_load o_v15 (by simp) 4 _ rfl, var_load o_v15 (by simp) 5 _ rfl, var_load o_v15 (by simp) 6 _ rfl, var_load o_v16 (by simp) 0 _ rfl, var_load o_v16 (by simp) 1 _ rfl, var_load o_v16 (by simp) 2 _ rfl, var_load o_v16 (by simp) 3 _ rfl⟩
                clear hK K
                try simp only [Act.put, List.setIfInBounds_toArray, List.set_cons_zero, List.set_cons_succ]
                refine wpAnyH_ready (rs := [3]) (by kernel_rfl) (by simp) ?_
                refine AllReadyH.cons (o := ?ox3__3_4) ?hix3__3_4 (fun K hK => ?gx3__3_4) AllReadyH.nil
                case hix3__3_4 => simp only [List.getElem?_toArray, List.getElem?_cons_succ, List.getElem?_cons_zero]; rfl
                case gx3__3_4 =>
                  obtain ⟨c_v130, f_v130, c_v131, f_v131, c_v132, f_v132, c_v133, f_v133, c_v134, f_v134, c_v135, f_v135, c_v136, f_v136, l_v13⟩ := Vn.v7 o_v13
                  go_simp
                  clear c_v130 f_v130 c_v131 f_v131 c_v132 f_v132 c_v133 f_v133 c_v134 f_v134 c_v135 f_v135 c_v136 f_v136 l_v13
                  obtain ⟨w17, hw17⟩ : ∃ ww, ww = (((((((w16.setCell ⟨(w.heap.size + 3), 0, none⟩ (.string z)).setCell ⟨(w.heap.size + 3), 1, none⟩ (.string fo)).setCell ⟨(w.heap.size + 3), 2, none⟩ (.int .i64 ch)).setCell ⟨(w.heap.size + 3), 3, none⟩ (.int .i64 k)).setCell ⟨(w.heap.size + 3), 4, none⟩ (.bool p)).setCell ⟨(w.heap.size + 3), 5, none⟩ (.int .i64 y.Counter)).setCell ⟨(w.heap.size + 3), 6, none⟩ (.int .i64 sv)) := ⟨_, rfl⟩
                  obtain ⟨o_new, tw17⟩ := var_some [.string z, .string fo, .int .i64 ch, .int .i64 k, .bool p, .int .i64 y.Counter, .int .i64 sv] 0 _ _ o_v13 (by simp)
                  rw [show setAll w16 ((w.heap.size + 3)) 0 [.string z, .string fo, .int .i64 ch, .int .i64 k, .bool p, .int .i64 y.Counter, .int .i64 sv] = w17 from hw17.symm] at o_new tw17
                  replace o_v13 : Owns w17 _ (varD 29 7 [.string z, .string fo, .int .i64 ch, .int .i64 k, .bool p, .int .i64 y.Counter, .int .i64 sv]) _ _ := o_new
                  clear o_new
                  replace o_v6 := owns_turned o_v6 tw17 (fun b hb hb2 => by simp at hb hb2; omega)
                  replace o_v7 := owns_turned o_v7 tw17 (fun b hb hb2 => by simp at hb hb2; omega)
                  replace o_v12 := owns_turned o_v12 tw17 (fun b hb hb2 => by simp at hb hb2; omega)
                  replace o_v15 := owns_turned o_v15 tw17 (fun b hb hb2 => by simp at hb hb2; omega)
                  replace o_v16 := owns_turned o_v16 tw17 (fun b hb hb2 => by simp at hb hb2; omega)
                  replace o_R9 := Vn.row_turned o_R9 tw17 (fun b hb hb2 => by have h1 := i_R9 b hb; simp at hb2; omega)
                  replace HB := below_turned HB tw17 (fun b hb => by simp at hb; omega)
                  have zw17 := tw17.2.2.2.1
                  rw [← hw17]
                  clear hw17
                  refine hK.out _ _ ?_ (fun hHeld => ?_)
                  · exact ⟨var_load o_v15 (by simp) 0 _ rfl, var_load o_v15 (by simp) 1 _ rfl, var_load o_v15 (by simp) 2 _ rfl, var_load o_v15 (by simp) 3 _ rfl, var_load o_v15 (by simp) 4 _ rfl, var_load o_v15 (by simp) 5 _ rfl, var_load o_v15 (by simp) 6 _ rfl, var_load o_v16 (by simp) 0 _ rfl, var_load o_v16 (by simp) 1 _ rfl, var_load o_v16 (by simp) 2 _ rfl, var_load o_v16 (by simp) 3 _ rfl⟩
                  clear hK K
                  try simp only [Act.put, List.setIfInBounds_toArray, List.set_cons_zero, List.set_cons_succ]
                  refine wpAnyH_take (i := 4) (oi := ?oix3__4_5) (v := ?vx3__4_5) ?hix3__4_5 (by kernel_rfl) (by kernel_rfl) (by kernel_rfl) ?hQx3__4_5 (Or.inl ⟨?hwx3__4_5, ?hyx3__4_5⟩) (by assumption) ?_
                  case hix3__4_5 => simp only [List.getElem?_toArray, List.getElem?_cons_succ, List.getElem?_cons_zero]; rfl
                  case hQx3__4_5 => exact fun _ _ _ h => h
                  case hwx3__4_5 => rfl
                  case hyx3__4_5 => intro w hSw; (try dsimp only at hSw); (first | (go_simp; done) | (go_simp; with_reducible rfl))
                  try simp only [Act.put, List.setIfInBounds_toArray, List.set_cons_zero, List.set_cons_succ]
                  refine wpAnyH_done (by kernel_rfl) ?_ _
                  obtain ⟨c_v120, f_v120, c_v121, f_v121, c_v122, f_v122, c_v123, f_v123, l_v12⟩ := Vn.v4 o_v12
                  obtain ⟨c_v130, f_v130, c_v131, f_v131, c_v132, f_v132, c_v133, f_v133, c_v134, f_v134, c_v135, f_v135, c_v136, f_v136, l_v13⟩ := Vn.v7 o_v13
                  go_wp2
                  clear c_v120 f_v120 c_v121 f_v121 c_v122 f_v122 c_v123 f_v123 l_v12 c_v130 f_v130 c_v131 f_v131 c_v132 f_v132 c_v133 f_v133 c_v134 f_v134 c_v135 f_v135 c_v136 f_v136 l_v13
                  have y_v12_0 : w17.cell? ⟨(w.heap.size + 2), 0, none⟩ = some (.int .i64 y.Vendor) := var_load o_v12 (by simp) 0 _ rfl
                  have y_v12_1 : w17.cell? ⟨(w.heap.size + 2), 1, none⟩ = some (.int .i64 y.Serial) := var_load o_v12 (by simp) 1 _ rfl
                  have y_v12_2 : w17.cell? ⟨(w.heap.size + 2), 2, none⟩ = some (.int .i64 y.Seed) := var_load o_v12 (by simp) 2 _ rfl
                  have y_v12_3 : w17.cell? ⟨(w.heap.size + 2), 3, none⟩ = some (.int .i64 y.Counter) := var_load o_v12 (by simp) 3 _ rfl
                  have y_v13_0 : w17.cell? ⟨(w.heap.size + 3), 0, none⟩ = some (.string z) := var_load o_v13 (by simp) 0 _ rfl
                  have y_v13_1 : w17.cell? ⟨(w.heap.size + 3), 1, none⟩ = some (.string fo) := var_load o_v13 (by simp) 1 _ rfl
                  have y_v13_2 : w17.cell? ⟨(w.heap.size + 3), 2, none⟩ = some (.int .i64 ch) := var_load o_v13 (by simp) 2 _ rfl
                  have y_v13_3 : w17.cell? ⟨(w.heap.size + 3), 3, none⟩ = some (.int .i64 k) := var_load o_v13 (by simp) 3 _ rfl
                  have y_v13_4 : w17.cell? ⟨(w.heap.size + 3), 4, none⟩ = some (.bool p) := var_load o_v13 (by simp) 4 _ rfl
                  have y_v13_5 : w17.cell? ⟨(w.heap.size + 3), 5, none⟩ = some (.int .i64 y.Counter) := var_load o_v13 (by simp) 5 _ rfl
                  have y_v13_6 : w17.cell? ⟨(w.heap.size + 3), 6, none⟩ = some (.int .i64 sv) := var_load o_v13 (by simp) 6 _ rfl
                  refine bodyPost_ret (v := .tuple #[.agg #[.int .i64 y.Vendor, .int .i64 y.Serial, .int .i64 y.Seed, .int .i64 y.Counter], .agg #[.string z, .string fo, .int .i64 ch, .int .i64 k, .bool p, .int .i64 y.Counter, .int .i64 sv], .bool true]) (by simp [results, Tryd.results6, go_sem, y_v12_0, y_v12_1, y_v12_2, y_v12_3, y_v13_0, y_v13_1, y_v13_2, y_v13_3, y_v13_4, y_v13_5, y_v13_6]) rfl ?_
                  exact ⟨by unfold mkV mkS mkA mkB; simp [hq3, hq4, ← HSB.out, ← HSX.out, ← HSV.out, ← HFO.out], HB⟩
            | false =>
              obtain ⟨c_v60, f_v60, c_v61, f_v61, c_v62, f_v62, c_v63, f_v63, l_v6⟩ := Vn.v4 o_v6
              obtain ⟨c_v120, f_v120, c_v121, f_v121, c_v122, f_v122, c_v123, f_v123, l_v12⟩ := Vn.v4 o_v12
              obtain ⟨c_v130, f_v130, c_v131, f_v131, c_v132, f_v132, c_v133, f_v133, c_v134, f_v134, c_v135, f_v135, c_v136, f_v136, l_v13⟩ := Vn.v7 o_v13
              go_wp2
              clear c_v60 f_v60 c_v61 f_v61 c_v62 f_v62 c_v63 f_v63 l_v6 c_v120 f_v120 c_v121 f_v121 c_v122 f_v122 c_v123 f_v123 l_v12 c_v130 f_v130 c_v131 f_v131 c_v132 f_v132 c_v133 f_v133 c_v134 f_v134 c_v135 f_v135 c_v136 f_v136 l_v13
              obtain ⟨w13, hw13⟩ : ∃ ww, ww = ((((w12.setCell ⟨(w.heap.size + 2), 0, none⟩ (.int .i64 x.Vendor)).setCell ⟨(w.heap.size + 2), 1, none⟩ (.int .i64 x.Serial)).setCell ⟨(w.heap.size + 2), 2, none⟩ (.int .i64 x.Seed)).setCell ⟨(w.heap.size + 2), 3, none⟩ (.int .i64 x.Counter)) := ⟨_, rfl⟩
              obtain ⟨o_new, tw13⟩ := var_some [.int .i64 x.Vendor, .int .i64 x.Serial, .int .i64 x.Seed, .int .i64 x.Counter] 0 _ _ o_v12 (by simp)
              rw [show setAll w12 ((w.heap.size + 2)) 0 [.int .i64 x.Vendor, .int .i64 x.Serial, .int .i64 x.Seed, .int .i64 x.Counter] = w13 from hw13.symm] at o_new tw13
              replace o_v12 : Owns w13 _ (varD 27 4 [.int .i64 x.Vendor, .int .i64 x.Serial, .int .i64 x.Seed, .int .i64 x.Counter]) _ _ := o_new
              clear o_new
              replace o_v6 := owns_turned o_v6 tw13 (fun b hb hb2 => by simp at hb hb2; omega)
              replace o_v7 := owns_turned o_v7 tw13 (fun b hb hb2 => by simp at hb hb2; omega)
              replace o_v13 := owns_turned o_v13 tw13 (fun b hb hb2 => by simp at hb hb2; omega)
              replace o_v15 := owns_turned o_v15 tw13 (fun b hb hb2 => by simp at hb hb2; omega)
              replace o_v16 := owns_turned o_v16 tw13 (fun b hb hb2 => by simp at hb hb2; omega)
              replace o_R9 := Vn.row_turned o_R9 tw13 (fun b hb hb2 => by have h1 := i_R9 b hb; simp at hb2; omega)
              replace HB := below_turned HB tw13 (fun b hb => by simp at hb; omega)
              have zw13 := tw13.2.2.2.1
              rw [← hw13]
              clear hw13
              obtain ⟨w14, hw14⟩ : ∃ ww, ww = (((((((w13.setCell ⟨(w.heap.size + 3), 0, none⟩ (.string ⟨#[]⟩)).setCell ⟨(w.heap.size + 3), 1, none⟩ (.string ⟨#[]⟩)).setCell ⟨(w.heap.size + 3), 2, none⟩ (.int .i64 0)).setCell ⟨(w.heap.size + 3), 3, none⟩ (.int .i64 0)).setCell ⟨(w.heap.size + 3), 4, none⟩ (.bool false)).setCell ⟨(w.heap.size + 3), 5, none⟩ (.int .i64 0)).setCell ⟨(w.heap.size + 3), 6, none⟩ (.int .i64 0)) := ⟨_, rfl⟩
              obtain ⟨o_new, tw14⟩ := var_some [.string ⟨#[]⟩, .string ⟨#[]⟩, .int .i64 0, .int .i64 0, .bool false, .int .i64 0, .int .i64 0] 0 _ _ o_v13 (by simp)
              rw [show setAll w13 ((w.heap.size + 3)) 0 [.string ⟨#[]⟩, .string ⟨#[]⟩, .int .i64 0, .int .i64 0, .bool false, .int .i64 0, .int .i64 0] = w14 from hw14.symm] at o_new tw14
              replace o_v13 : Owns w14 _ (varD 29 7 [.string ⟨#[]⟩, .string ⟨#[]⟩, .int .i64 0, .int .i64 0, .bool false, .int .i64 0, .int .i64 0]) _ _ := o_new
              clear o_new
              replace o_v6 := owns_turned o_v6 tw14 (fun b hb hb2 => by simp at hb hb2; omega)
              replace o_v7 := owns_turned o_v7 tw14 (fun b hb hb2 => by simp at hb hb2; omega)
              replace o_v12 := owns_turned o_v12 tw14 (fun b hb hb2 => by simp at hb hb2; omega)
              replace o_v15 := owns_turned o_v15 tw14 (fun b hb hb2 => by simp at hb hb2; omega)
              replace o_v16 := owns_turned o_v16 tw14 (fun b hb hb2 => by simp at hb hb2; omega)
              replace o_R9 := Vn.row_turned o_R9 tw14 (fun b hb hb2 => by have h1 := i_R9 b hb; simp at hb2; omega)
              replace HB := below_turned HB tw14 (fun b hb => by simp at hb; omega)
              have zw14 := tw14.2.2.2.1
              rw [← hw14]
              clear hw14
              have y_v12_0 : w14.cell? ⟨(w.heap.size + 2), 0, none⟩ = some (.int .i64 x.Vendor) := var_load o_v12 (by simp) 0 _ rfl
              have y_v12_1 : w14.cell? ⟨(w.heap.size + 2), 1, none⟩ = some (.int .i64 x.Serial) := var_load o_v12 (by simp) 1 _ rfl
              have y_v12_2 : w14.cell? ⟨(w.heap.size + 2), 2, none⟩ = some (.int .i64 x.Seed) := var_load o_v12 (by simp) 2 _ rfl
              have y_v12_3 : w14.cell? ⟨(w.heap.size + 2), 3, none⟩ = some (.int .i64 x.Counter) := var_load o_v12 (by simp) 3 _ rfl
              have y_v13_0 : w14.cell? ⟨(w.heap.size + 3), 0, none⟩ = some (.string ⟨#[]⟩) := var_load o_v13 (by simp) 0 _ rfl
              have y_v13_1 : w14.cell? ⟨(w.heap.size + 3), 1, none⟩ = some (.string ⟨#[]⟩) := var_load o_v13 (by simp) 1 _ rfl
              have y_v13_2 : w14.cell? ⟨(w.heap.size + 3), 2, none⟩ = some (.int .i64 0) := var_load o_v13 (by simp) 2 _ rfl
              have y_v13_3 : w14.cell? ⟨(w.heap.size + 3), 3, none⟩ = some (.int .i64 0) := var_load o_v13 (by simp) 3 _ rfl
              have y_v13_4 : w14.cell? ⟨(w.heap.size + 3), 4, none⟩ = some (.bool false) := var_load o_v13 (by simp) 4 _ rfl
              have y_v13_5 : w14.cell? ⟨(w.heap.size + 3), 5, none⟩ = some (.int .i64 0) := var_load o_v13 (by simp) 5 _ rfl
              have y_v13_6 : w14.cell? ⟨(w.heap.size + 3), 6, none⟩ = some (.int .i64 0) := var_load o_v13 (by simp) 6 _ rfl
              refine bodyPost_ret (v := .tuple #[.agg #[.int .i64 x.Vendor, .int .i64 x.Serial, .int .i64 x.Seed, .int .i64 x.Counter], .agg #[.string ⟨#[]⟩, .string ⟨#[]⟩, .int .i64 0, .int .i64 0, .bool false, .int .i64 0, .int .i64 0], .bool false]) (by simp [results, Tryd.results6, go_sem, y_v12_0, y_v12_1, y_v12_2, y_v12_3, y_v13_0, y_v13_1, y_v13_2, y_v13_3, y_v13_4, y_v13_5, y_v13_6]) rfl ?_
              exact ⟨by unfold mkV mkS mkA mkB; simp [hq3, hq4, ← HSB.out, ← HSX.out, ← HSV.out, ← HFO.out], HB⟩
          | false =>
            obtain ⟨c_v60, f_v60, c_v61, f_v61, c_v62, f_v62, c_v63, f_v63, l_v6⟩ := Vn.v4 o_v6
            obtain ⟨c_v120, f_v120, c_v121, f_v121, c_v122, f_v122, c_v123, f_v123, l_v12⟩ := Vn.v4 o_v12
            obtain ⟨c_v130, f_v130, c_v131, f_v131, c_v132, f_v132, c_v133, f_v133, c_v134, f_v134, c_v135, f_v135, c_v136, f_v136, l_v13⟩ := Vn.v7 o_v13
            go_wp2
            clear c_v60 f_v60 c_v61 f_v61 c_v62 f_v62 c_v63 f_v63 l_v6 c_v120 f_v120 c_v121 f_v121 c_v122 f_v122 c_v123 f_v123 l_v12 c_v130 f_v130 c_v131 f_v131 c_v132 f_v132 c_v133 f_v133 c_v134 f_v134 c_v135 f_v135 c_v136 f_v136 l_v13
            obtain ⟨w13, hw13⟩ : ∃ ww, ww = ((((w12.setCell ⟨(w.heap.size + 2), 0, none⟩ (.int .i64 x.Vendor)).setCell ⟨(w.heap.size + 2), 1, none⟩ (.int .i64 x.Serial)).setCell ⟨(w.heap.size + 2), 2, none⟩ (.int .i64 x.Seed)).setCell ⟨(w.heap.size + 2), 3, none⟩ (.int .i64 x.Counter)) := ⟨_, rfl⟩
            obtain ⟨o_new, tw13⟩ := var_some [.int .i64 x.Vendor, .int .i64 x.Serial, .int .i64 x.Seed, .int .i64 x.Counter] 0 _ _ o_v12 (by simp)
            rw [show setAll w12 ((w.heap.size + 2)) 0 [.int .i64 x.Vendor, .int .i64 x.Serial, .int .i64 x.Seed, .int .i64 x.Counter] = w13 from hw13.symm] at o_new tw13
            replace o_v12 : Owns w13 _ (varD 27 4 [.int .i64 x.Vendor, .int .i64 x.Serial, .int .i64 x.Seed, .int .i64 x.Counter]) _ _ := o_new
            clear o_new
            replace o_v6 := owns_turned o_v6 tw13 (fun b hb hb2 => by simp at hb hb2; omega)
            replace o_v7 := owns_turned o_v7 tw13 (fun b hb hb2 => by simp at hb hb2; omega)
            replace o_v13 := owns_turned o_v13 tw13 (fun b hb hb2 => by simp at hb hb2; omega)
            replace o_v15 := owns_turned o_v15 tw13 (fun b hb hb2 => by simp at hb hb2; omega)
            replace o_v16 := owns_turned o_v16 tw13 (fun b hb hb2 => by simp at hb hb2; omega)
            replace o_R9 := Vn.row_turned o_R9 tw13 (fun b hb hb2 => by have h1 := i_R9 b hb; simp at hb2; omega)
            replace HB := below_turned HB tw13 (fun b hb => by simp at hb; omega)
            have zw13 := tw13.2.2.2.1
            rw [← hw13]
            clear hw13
            obtain ⟨w14, hw14⟩ : ∃ ww, ww = (((((((w13.setCell ⟨(w.heap.size + 3), 0, none⟩ (.string ⟨#[]⟩)).setCell ⟨(w.heap.size + 3), 1, none⟩ (.string ⟨#[]⟩)).setCell ⟨(w.heap.size + 3), 2, none⟩ (.int .i64 0)).setCell ⟨(w.heap.size + 3), 3, none⟩ (.int .i64 0)).setCell ⟨(w.heap.size + 3), 4, none⟩ (.bool false)).setCell ⟨(w.heap.size + 3), 5, none⟩ (.int .i64 0)).setCell ⟨(w.heap.size + 3), 6, none⟩ (.int .i64 0)) := ⟨_, rfl⟩
            obtain ⟨o_new, tw14⟩ := var_some [.string ⟨#[]⟩, .string ⟨#[]⟩, .int .i64 0, .int .i64 0, .bool false, .int .i64 0, .int .i64 0] 0 _ _ o_v13 (by simp)
            rw [show setAll w13 ((w.heap.size + 3)) 0 [.string ⟨#[]⟩, .string ⟨#[]⟩, .int .i64 0, .int .i64 0, .bool false, .int .i64 0, .int .i64 0] = w14 from hw14.symm] at o_new tw14
            replace o_v13 : Owns w14 _ (varD 29 7 [.string ⟨#[]⟩, .string ⟨#[]⟩, .int .i64 0, .int .i64 0, .bool false, .int .i64 0, .int .i64 0]) _ _ := o_new
            clear o_new
            replace o_v6 := owns_turned o_v6 tw14 (fun b hb hb2 => by simp at hb hb2; omega)
            replace o_v7 := owns_turned o_v7 tw14 (fun b hb hb2 => by simp at hb hb2; omega)
            replace o_v12 := owns_turned o_v12 tw14 (fun b hb hb2 => by simp at hb hb2; omega)
            replace o_v15 := owns_turned o_v15 tw14 (fun b hb hb2 => by simp at hb hb2; omega)
            replace o_v16 := owns_turned o_v16 tw14 (fun b hb hb2 => by simp at hb hb2; omega)
            replace o_R9 := Vn.row_turned o_R9 tw14 (fun b hb hb2 => by have h1 := i_R9 b hb; simp at hb2; omega)
            replace HB := below_turned HB tw14 (fun b hb => by simp at hb; omega)
            have zw14 := tw14.2.2.2.1
            rw [← hw14]
            clear hw14
            have y_v12_0 : w14.cell? ⟨(w.heap.size + 2), 0, none⟩ = some (.int .i64 x.Vendor) := var_load o_v12 (by simp) 0 _ rfl
            have y_v12_1 : w14.cell? ⟨(w.heap.size + 2), 1, none⟩ = some (.int .i64 x.Serial) := var_load o_v12 (by simp) 1 _ rfl
            have y_v12_2 : w14.cell? ⟨(w.heap.size + 2), 2, none⟩ = some (.int .i64 x.Seed) := var_load o_v12 (by simp) 2 _ rfl
            have y_v12_3 : w14.cell? ⟨(w.heap.size + 2), 3, none⟩ = some (.int .i64 x.Counter) := var_load o_v12 (by simp) 3 _ rfl
            have y_v13_0 : w14.cell? ⟨(w.heap.size + 3), 0, none⟩ = some (.string ⟨#[]⟩) := var_load o_v13 (by simp) 0 _ rfl
            have y_v13_1 : w14.cell? ⟨(w.heap.size + 3), 1, none⟩ = some (.string ⟨#[]⟩) := var_load o_v13 (by simp) 1 _ rfl
            have y_v13_2 : w14.cell? ⟨(w.heap.size + 3), 2, none⟩ = some (.int .i64 0) := var_load o_v13 (by simp) 2 _ rfl
            have y_v13_3 : w14.cell? ⟨(w.heap.size + 3), 3, none⟩ = some (.int .i64 0) := var_load o_v13 (by simp) 3 _ rfl
            have y_v13_4 : w14.cell? ⟨(w.heap.size + 3), 4, none⟩ = some (.bool false) := var_load o_v13 (by simp) 4 _ rfl
            have y_v13_5 : w14.cell? ⟨(w.heap.size + 3), 5, none⟩ = some (.int .i64 0) := var_load o_v13 (by simp) 5 _ rfl
            have y_v13_6 : w14.cell? ⟨(w.heap.size + 3), 6, none⟩ = some (.int .i64 0) := var_load o_v13 (by simp) 6 _ rfl
            refine bodyPost_ret (v := .tuple #[.agg #[.int .i64 x.Vendor, .int .i64 x.Serial, .int .i64 x.Seed, .int .i64 x.Counter], .agg #[.string ⟨#[]⟩, .string ⟨#[]⟩, .int .i64 0, .int .i64 0, .bool false, .int .i64 0, .int .i64 0], .bool false]) (by simp [results, Tryd.results6, go_sem, y_v12_0, y_v12_1, y_v12_2, y_v12_3, y_v13_0, y_v13_1, y_v13_2, y_v13_3, y_v13_4, y_v13_5, y_v13_6]) rfl ?_
            exact ⟨by unfold mkV mkS mkA mkB; simp [hq3, ← HSB.out, ← HSX.out, ← HSV.out, ← HFO.out], HB⟩
  case gx1__10_5 =>
    go_simp
    obtain ⟨w8, hw8⟩ : ∃ ww, ww = w7.alloc (.cells #[.int .i64 0, .int .i64 0, .int .i64 0, .int .i64 0] 27) := ⟨_, rfl⟩
    have o_v16 := var_owns w7 27 4 [.int .i64 0, .int .i64 0, .int .i64 0, .int .i64 0] rfl
    have bw8 : Below w7.heap.size w7 w8 := hw8 ▸ (Below.refl _ _).alloc (Nat.le_refl _) _
    rw [← hw8] at o_v16 ⊢
    have zw8 : w7.heap.size < w8.heap.size := by rw [hw8]; simp
    clear hw8
    replace o_v6 := owns_below o_v6 bw8
    replace o_v7 := owns_below o_v7 bw8
    replace o_v12 := owns_below o_v12 bw8
    replace o_v13 := owns_below o_v13 bw8
    replace o_v15 := owns_below o_v15 bw8
    replace HB := HB.trans (bw8.mono HB.size)
    refine hK.out _ _ ?_ (fun hHeld => ?_)
    · exact ⟨var_load o_v15 (by simp) 0 _ rfl, var_load o_v15 (by simp) 1 _ rfl, var_load o_v15 (by simp) 2 _ rfl, var_load o_v15 (by simp) 3 _ rfl, var_load o_v15 (by simp) 4 _ rfl, var_load o_v15 (by simp) 5 _ rfl, var_load o_v15 (by simp) 6 _ rfl, var_load o_v6 (by simp) 0 _ rfl, var_load o_v6 (by simp) 1 _ rfl, var_load o_v6 (by simp) 2 _ rfl, var_load o_v6 (by simp) 3 _ rfl⟩
    clear hK K
    try simp only [Act.put, List.setIfInBounds_toArray, List.set_cons_zero, List.set_cons_succ]
    refine wpAnyH_ready (rs := [4]) (by kernel_rfl) (by simp) ?_
    refine AllReadyH.cons (o := ?ox1__4_23) ?hix1__4_23 (fun K hK => ?gx1__4_23) AllReadyH.nil
    case hix1__4_23 => simp only [List.getElem?_toArray, List.getElem?_cons_succ, List.getElem?_cons_zero]; rfl
    case gx1__4_23 =>
      go_simp
      go_at_call 16
      (with_reducible refine (KM.out _).mono ?_); rintro e w9 ⟨A9, c9, rfl, o_R9, bw9⟩
      replace o_v6 := owns_below o_v6 bw9
      replace o_v7 := owns_below o_v7 bw9
      replace o_v12 := owns_below o_v12 bw9
      replace o_v13 := owns_below o_v13 bw9
      replace o_v15 := owns_below o_v15 bw9
      replace o_v16 := owns_below o_v16 bw9
      replace HB := HB.trans (bw9.mono HB.size)
      have zw9 := bw9.size
      have i_R9 := o_R9.lt
      refine hK.out _ _ ?_ (fun hHeld => ?_)
      · exact ⟨var_load o_v15 (by simp) 0 _ rfl, var_load o_v15 (by simp) 1 _ rfl, var_load o_v15 (by simp) 2 _ rfl, var_load o_v15 (by simp) 3 _ rfl, var_load o_v15 (by simp) 4 _ rfl, var_load o_v15 (by simp) 5 _ rfl, var_load o_v15 (by simp) 6 _ rfl, var_load o_v6 (by simp) 0 _ rfl, var_load o_v6 (by simp) 1 _ rfl, var_load o_v6 (by simp) 2 _ rfl, var_load o_v6 (by simp) 3 _ rfl⟩
      clear hK K
      try simp only [Act.put, List.setIfInBounds_toArray, List.set_cons_zero, List.set_cons_succ]
      refine wpAnyH_ready (rs := [5]) (by kernel_rfl) (by simp) ?_
      refine AllReadyH.cons (o := ?ox1__5_24) ?hix1__5_24 (fun K hK => ?gx1__5_24) AllReadyH.nil
      case hix1__5_24 => simp only [List.getElem?_toArray, List.getElem?_cons_succ, List.getElem?_cons_zero]; rfl
      case gx1__5_24 =>
        go_simp
        go_at_call 15
        (with_reducible refine (KS.out _ A9 c9 (Rd.own o_R9)).mono ?_); rintro e w10 ⟨rfl, bw10⟩
        replace o_v6 := owns_below o_v6 bw10
        replace o_v7 := owns_below o_v7 bw10
        replace o_v12 := owns_below o_v12 bw10
        replace o_v13 := owns_below o_v13 bw10
        replace o_v15 := owns_below o_v15 bw10
        replace o_v16 := owns_below o_v16 bw10
        replace o_R9 := own_below o_R9 bw10
        replace HB := HB.trans (bw10.mono HB.size)
        have zw10 := bw10.size
        refine hK.out _ _ ?_ (fun hHeld => ?_)
        · exact ⟨var_load o_v15 (by simp) 0 _ rfl, var_load o_v15 (by simp) 1 _ rfl, var_load o_v15 (by simp) 2 _ rfl, var_load o_v15 (by simp) 3 _ rfl, var_load o_v15 (by simp) 4 _ rfl, var_load o_v15 (by simp) 5 _ rfl, var_load o_v15 (by simp) 6 _ rfl, var_load o_v6 (by simp) 0 _ rfl, var_load o_v6 (by simp) 1 _ rfl, var_load o_v6 (by simp) 2 _ rfl, var_load o_v6 (by simp) 3 _ rfl⟩
        clear hK K
        try simp only [Act.put, List.setIfInBounds_toArray, List.set_cons_zero, List.set_cons_succ]
        refine wpAnyH_take (i := 6) (oi := ?oix1__6_25) (v := ?vx1__6_25) ?hix1__6_25 (by kernel_rfl) (by kernel_rfl) (by kernel_rfl) ?hQx1__6_25 (Or.inl ⟨?hwx1__6_25, ?hyx1__6_25⟩) (by assumption) ?_
        case hix1__6_25 => simp only [List.getElem?_toArray, List.getElem?_cons_succ, List.getElem?_cons_zero]; rfl
        case hQx1__6_25 => exact fun _ _ _ h => h
        case hwx1__6_25 => rfl
        case hyx1__6_25 => intro w hSw; (try dsimp only at hSw); (first | (go_simp; done) | (go_simp; with_reducible rfl))
        try simp only [Act.put, List.setIfInBounds_toArray, List.set_cons_zero, List.set_cons_succ]
        refine wpAnyH_take (i := 7) (oi := ?oix1__7_26) (v := ?vx1__7_26) ?hix1__7_26 (by kernel_rfl) (by kernel_rfl) (by kernel_rfl) ?hQx1__7_26 (Or.inl ⟨?hwx1__7_26, ?hyx1__7_26⟩) (by assumption) ?_
        case hix1__7_26 => simp only [List.getElem?_toArray, List.getElem?_cons_succ, List.getElem?_cons_zero]; rfl
        case hQx1__7_26 => exact fun _ _ _ h => h
        case hwx1__7_26 => rfl
        case hyx1__7_26 => intro w hSw; (try dsimp only at hSw); (first | (go_simp; done) | (go_simp; with_reducible rfl))
        try simp only [Act.put, List.setIfInBounds_toArray, List.set_cons_zero, List.set_cons_succ]
        refine wpAnyH_take (i := 8) (oi := ?oix1__8_27) (v := ?vx1__8_27) ?hix1__8_27 (by kernel_rfl) (by kernel_rfl) (by kernel_rfl) ?hQx1__8_27 (Or.inl ⟨?hwx1__8_27, ?hyx1__8_27⟩) (by assumption) ?_
        case hix1__8_27 => simp only [List.getElem?_toArray, List.getElem?_cons_succ, List.getElem?_cons_zero]; rfl
        case hQx1__8_27 => exact fun _ _ _ h => h
        case hwx1__8_27 => rfl
        case hyx1__8_27 => intro w hSw; (try dsimp only at hSw); (first | (go_simp; done) | (go_simp; with_reducible rfl))
        try simp only [Act.put, List.setIfInBounds_toArray, List.set_cons_zero, List.set_cons_succ]
        refine wpAnyH_take (i := 9) (oi := ?oix1__9_28) (v := ?vx1__9_28) ?hix1__9_28 (by kernel_rfl) (by kernel_rfl) (by kernel_rfl) ?hQx1__9_28 (Or.inl ⟨?hwx1__9_28, ?hyx1__9_28⟩) (by assumption) ?_
        case hix1__9_28 => simp only [List.getElem?_toArray, List.getElem?_cons_succ, List.getElem?_cons_zero]; rfl
        case hQx1__9_28 => exact fun _ _ _ h => h
        case hwx1__9_28 => rfl
        case hyx1__9_28 => intro w hSw; (try dsimp only at hSw); (first | (go_simp; done) | (go_simp; with_reducible rfl))
        try simp only [Act.put, List.setIfInBounds_toArray, List.set_cons_zero, List.set_cons_succ]
        refine wpAnyH_ready (rs := [11]) (by kernel_rfl) (by simp) ?_
        refine AllReadyH.cons (o := ?ox1__11_29) ?hix1__11_29 (fun K hK => ?gx1__11_29) AllReadyH.nil
        case hix1__11_29 => simp only [List.getElem?_toArray, List.getElem?_cons_succ, List.getElem?_cons_zero]; rfl
        case gx1__11_29 =>
          obtain ⟨c_v160, f_v160, c_v161, f_v161, c_v162, f_v162, c_v163, f_v163, l_v16⟩ := Vn.v4 o_v16
          go_simp
          clear c_v160 f_v160 c_v161 f_v161 c_v162 f_v162 c_v163 f_v163 l_v16
          obtain ⟨w11, hw11⟩ : ∃ ww, ww = ((((w10.setCell ⟨w7.heap.size, 0, none⟩ (.int .i64 y.Vendor)).setCell ⟨w7.heap.size, 1, none⟩ (.int .i64 y.Serial)).setCell ⟨w7.heap.size, 2, none⟩ (.int .i64 y.Seed)).setCell ⟨w7.heap.size, 3, none⟩ (.int .i64 y.Counter)) := ⟨_, rfl⟩
          obtain ⟨o_new, tw11⟩ := var_some [.int .i64 y.Vendor, .int .i64 y.Serial, .int .i64 y.Seed, .int .i64 y.Counter] 0 _ _ o_v16 (by simp)
          rw [show setAll w10 (w7.heap.size) 0 [.int .i64 y.Vendor, .int .i64 y.Serial, .int .i64 y.Seed, .int .i64 y.Counter] = w11 from hw11.symm] at o_new tw11
          replace o_v16 : Owns w11 _ (varD 27 4 [.int .i64 y.Vendor, .int .i64 y.Serial, .int .i64 y.Seed, .int .i64 y.Counter]) _ _ := o_new
          clear o_new
          replace o_v6 := owns_turned o_v6 tw11 (fun b hb hb2 => by simp at hb hb2; omega)
          replace o_v7 := owns_turned o_v7 tw11 (fun b hb hb2 => by simp at hb hb2; omega)
          replace o_v12 := owns_turned o_v12 tw11 (fun b hb hb2 => by simp at hb hb2; omega)
          replace o_v13 := owns_turned o_v13 tw11 (fun b hb hb2 => by simp at hb hb2; omega)
          replace o_v15 := owns_turned o_v15 tw11 (fun b hb hb2 => by simp at hb hb2; omega)
          replace o_R9 := Vn.row_turned o_R9 tw11 (fun b hb hb2 => by have h1 := i_R9 b hb; simp at hb2; omega)
          replace HB := below_turned HB tw11 (fun b hb => by simp at hb; omega)
          have zw11 := tw11.2.2.2.1
          rw [← hw11]
          clear hw11
          refine hK.out _ _ ?_ (fun hHeld => ?_)
          · exact ⟨var_load o_v15 (by simp) 0 _ rfl, var_load o_v15 (by simp) 1 _ rfl, var_load o_v15 (by simp) 2 _ rfl, var_load o_v15 (by simp) 3 _ rfl, var_load o_v15 (by simp) 4 _ rfl, var_load o_v15 (by simp) 5 _ rfl, var_load o_v15 (by simp) 6 _ rfl, var_load o_v6 (by simp) 0 _ rfl, var_load o_v6 (by simp) 1 _ rfl, var_load o_v6 (by simp) 2 _ rfl, var_load o_v6 (by simp) 3 _ rfl⟩
          clear hK K
          try simp only [Act.put, List.setIfInBounds_toArray, List.set_cons_zero, List.set_cons_succ]
          refine wpAnyH_take (i := 12) (oi := ?oix1__12_30) (v := ?vx1__12_30) ?hix1__12_30 (by kernel_rfl) (by kernel_rfl) (by kernel_rfl) ?hQx1__12_30 (Or.inl ⟨?hwx1__12_30, ?hyx1__12_30⟩) (by assumption) ?_
          case hix1__12_30 => simp only [List.getElem?_toArray, List.getElem?_cons_succ, List.getElem?_cons_zero]; rfl
          case hQx1__12_30 => exact fun _ _ _ h => h
          case hwx1__12_30 => rfl
          case hyx1__12_30 => intro w hSw; (try dsimp only at hSw); (first | (go_simp; done) | (go_simp; with_reducible rfl))
          try simp only [Act.put, List.setIfInBounds_toArray, List.set_cons_zero, List.set_cons_succ]
          refine wpAnyH_take (i := 13) (oi := ?oix1__13_31) (v := ?vx1__13_31) ?hix1__13_31 (by kernel_rfl) (by kernel_rfl) (by kernel_rfl) ?hQx1__13_31 (Or.inl ⟨?hwx1__13_31, ?hyx1__13_31⟩) (by assumption) ?_
          case hix1__13_31 => simp only [List.getElem?_toArray, List.getElem?_cons_succ, List.getElem?_cons_zero]; rfl
          case hQx1__13_31 => exact fun _ _ _ h => h
          case hwx1__13_31 => rfl
          case hyx1__13_31 => intro w hSw; (try dsimp only at hSw); (first | (go_simp; done) | (go_simp; with_reducible rfl))
          try simp only [Act.put, List.setIfInBounds_toArray, List.set_cons_zero, List.set_cons_succ]
          refine wpAnyH_done (by kernel_rfl) ?_ _
          obtain ⟨c_v70, f_v70, c_v71, f_v71, c_v72, f_v72, l_v7⟩ := Vn.v3 o_v7
          go_wp2_with fail
          clear c_v70 f_v70 c_v71 f_v71 c_v72 f_v72 l_v7
          (with_reducible refine (C9b.specMay w11 o z _ (org_rds _ _ o) (by omega) (by omega)).mono ?_); rintro e w12 ⟨rfl, bw12⟩
          replace o_v6 := owns_below o_v6 bw12
          replace o_v7 := owns_below o_v7 bw12
          replace o_v12 := owns_below o_v12 bw12
          replace o_v13 := owns_below o_v13 bw12
          replace o_v15 := owns_below o_v15 bw12
          replace o_v16 := owns_below o_v16 bw12
          replace o_R9 := own_below o_R9 bw12
          replace HB := HB.trans (bw12.mono HB.size)
          have zw12 := bw12.size
          cases hq5 : mayO o (bts z) with
          | true =>
            cases hq6 : sb with
            | true =>
              obtain ⟨c_v150, f_v150, c_v151, f_v151, c_v152, f_v152, c_v153, f_v153, c_v154, f_v154, c_v155, f_v155, c_v156, f_v156, l_v15⟩ := Vn.v7 o_v15
              obtain ⟨c_v160, f_v160, c_v161, f_v161, c_v162, f_v162, c_v163, f_v163, l_v16⟩ := Vn.v4 o_v16
              go_wp2_with fail
              clear c_v150 f_v150 c_v151 f_v151 c_v152 f_v152 c_v153 f_v153 c_v154 f_v154 c_v155 f_v155 c_v156 f_v156 l_v15 c_v160 f_v160 c_v161 f_v161 c_v162 f_v162 c_v163 f_v163 l_v16
              obtain ⟨w13, hw13⟩ : ∃ ww, ww = (w12.setCell ⟨w5.heap.size, 5, none⟩ (.int .i64 y.Counter)) := ⟨_, rfl⟩
              obtain ⟨o_new, tw13⟩ := var_some [.int .i64 y.Counter] 5 _ _ o_v15 (by simp)
              rw [show setAll w12 (w5.heap.size) 5 [.int .i64 y.Counter] = w13 from hw13.symm] at o_new tw13
              replace o_v15 : Owns w13 _ (varD 29 7 [.string z, .string fo, .int .i64 ch, .int .i64 k, .bool p, .int .i64 y.Counter, .int .i64 0]) _ _ := o_new
              clear o_new
              replace o_v6 := owns_turned o_v6 tw13 (fun b hb hb2 => by simp at hb hb2; omega)
              replace o_v7 := owns_turned o_v7 tw13 (fun b hb hb2 => by simp at hb hb2; omega)
              replace o_v12 := owns_turned o_v12 tw13 (fun b hb hb2 => by simp at hb hb2; omega)
              replace o_v13 := owns_turned o_v13 tw13 (fun b hb hb2 => by simp at hb hb2; omega)
              replace o_v16 := owns_turned o_v16 tw13 (fun b hb hb2 => by simp at hb hb2; omega)
              replace o_R9 := Vn.row_turned o_R9 tw13 (fun b hb hb2 => by have h1 := i_R9 b hb; simp at hb2; omega)
              replace HB := below_turned HB tw13 (fun b hb => by simp at hb; omega)
              have zw13 := tw13.2.2.2.1
              rw [← hw13]
              clear hw13
              obtain ⟨w14, hw14⟩ : ∃ ww, ww = (w13.setCell ⟨w5.heap.size, 6, none⟩ (.int .i64 sv)) := ⟨_, rfl⟩
              obtain ⟨o_new, tw14⟩ := var_some [.int .i64 sv] 6 _ _ o_v15 (by simp)
              rw [show setAll w13 (w5.heap.size) 6 [.int .i64 sv] = w14 from hw14.symm] at o_new tw14
              replace o_v15 : Owns w14 _ (varD 29 7 [.string z, .string fo, .int .i64 ch, .int .i64 k, .bool p, .int .i64 y.Counter, .int .i64 sv]) _ _ := o_new
              clear o_new
              replace o_v6 := owns_turned o_v6 tw14 (fun b hb hb2 => by simp at hb hb2; omega)
              replace o_v7 := owns_turned o_v7 tw14 (fun b hb hb2 => by simp at hb hb2; omega)
              replace o_v12 := owns_turned o_v12 tw14 (fun b hb hb2 => by simp at hb hb2; omega)
              replace o_v13 := owns_turned o_v13 tw14 (fun b hb hb2 => by simp at hb hb2; omega)
              replace o_v16 := owns_turned o_v16 tw14 (fun b hb hb2 => by simp at hb hb2; omega)
              replace o_R9 := Vn.row_turned o_R9 tw14 (fun b hb hb2 => by have h1 := i_R9 b hb; simp at hb2; omega)
              replace HB := below_turned HB tw14 (fun b hb => by simp at hb; omega)
              have zw14 := tw14.2.2.2.1
              rw [← hw14]
              clear hw14
              obtain ⟨w15, hw15⟩ : ∃ ww, ww = w14.drew := ⟨_, rfl⟩
              have bw15 : Below w14.heap.size w14 w15 := hw15 ▸ drewN_below w14 1 _
              replace o_v6 := owns_below o_v6 bw15
              replace o_v7 := owns_below o_v7 bw15
              replace o_v12 := owns_below o_v12 bw15
              replace o_v13 := owns_below o_v13 bw15
              replace o_v15 := owns_below o_v15 bw15
              replace o_v16 := owns_below o_v16 bw15
              replace o_R9 := own_below o_R9 bw15
              replace HB := HB.trans (bw15.mono HB.size)
              have zw15 := bw15.size
              refine wp_region_held_drew (S := (fun (wx : World) => wx.cell? ⟨w5.heap.size, 0, none⟩ = some (.string z) ∧ wx.cell? ⟨w5.heap.size, 1, none⟩ = some (.string fo) ∧ wx.cell? ⟨w5.heap.size, 2, none⟩ = some (.int .i64 ch) ∧ wx.cell? ⟨w5.heap.size, 3, none⟩ = some (.int .i64 k) ∧ wx.cell? ⟨w5.heap.size, 4, none⟩ = some (.bool p) ∧ wx.cell? ⟨w5.heap.size, 5, none⟩ = some (.int .i64 y.Counter) ∧ wx.cell? ⟨w5.heap.size, 6, none⟩ = some (.int .i64 sv) ∧ wx.cell? ⟨w7.heap.size, 0, none⟩ = some (.int .i64 y.Vendor) ∧ wx.cell? ⟨w7.heap.size, 1, none⟩ = some (.int .i64 y.Serial) ∧ wx.cell? ⟨w7.heap.size, 2, none⟩ = some (.int .i64 y.Seed) ∧ wx.cell? ⟨w7.heap.size, 3, none⟩ = some (.int .i64 y.Counter))) (by kernel_rfl) ?_ (fun hHeld => ?_)
              · rw [← hw15]; exact ⟨var_load o_v15 (by simp) 0 _ rfl, var_load o_v15 (by simp) 1 _ rfl, var_load o_v15 (by simp) 2 _ rfl, var_load o_v15 (by simp) 3 _ rfl, var_load o_v15 (by simp) 4 _ rfl, var_load o_v15 (by simp) 5 _ rfl, var_load o_v15 (by simp) 6 _ rfl, var_load o_v16 (by simp) 0 _ rfl, var_load o_v16 (by simp) 1 _ rfl, var_load o_v16 (by simp) 2 _ rfl, var_load o_v16 (by simp) 3 _ rfl⟩
              rw [← hw15] at hHeld ⊢
              clear hw15
              refine wpAnyH_take (i := 0) (oi := ?oix4__0_1) (v := ?vx4__0_1) ?hix4__0_1 (by kernel_rfl) (by kernel_rfl) (by kernel_rfl) ?hQx4__0_1 (Or.inl ⟨?hwx4__0_1, ?hyx4__0_1⟩) (by assumption) ?_
              case hix4__0_1 => simp only [List.getElem?_toArray, List.getElem?_cons_zero]; rfl
              case hQx4__0_1 => exact fun _ _ _ h => h
              case hwx4__0_1 => rfl
              case hyx4__0_1 => intro w hSw; (try dsimp only at hSw); (first | (go_simp; done) | (go_simp; with_reducible rfl))
              try simp only [Act.put, List.setIfInBounds_toArray, List.set_cons_zero, List.set_cons_succ]
              refine wpAnyH_take (i := 1) (oi := ?oix4__1_2) (v := ?vx4__1_2) ?hix4__1_2 (by kernel_rfl) (by kernel_rfl) (by kernel_rfl) ?hQx4__1_2 (Or.inl ⟨?hwx4__1_2, ?hyx4__1_2⟩) (by assumption) ?_
              case hix4__1_2 => simp only [List.getElem?_toArray, List.getElem?_cons_succ, List.getElem?_cons_zero]; rfl
              case hQx4__1_2 => exact fun _ _ _ h => h
              case hwx4__1_2 => rfl
              case hyx4__1_2 => intro w hSw; (try dsimp only at hSw); (first | (go_simp; done) | (go_simp; with_reducible rfl))
              try simp only [Act.put, List.setIfInBounds_toArray, List.set_cons_zero, List.set_cons_succ]
              refine wpAnyH_ready (rs := [2]) (by kernel_rfl) (by simp) ?_
              refine AllReadyH.cons (o := ?ox4__2_3) ?hix4__2_3 (fun K hK => ?gx4__2_3) AllReadyH.nil
              case hix4__2_3 => simp only [List.getElem?_toArray, List.getElem?_cons_succ, List.getElem?_cons_zero]; rfl
              case gx4__2_3 =>
                obtain ⟨c_v120, f_v120, c_v121, f_v121, c_v122, f_v122, c_v123, f_v123, l_v12⟩ := Vn.v4 o_v12
                go_simp
                clear c_v120 f_v120 c_v121 f_v121 c_v122 f_v122 c_v123 f_v123 l_v12
                obtain ⟨w16, hw16⟩ : ∃ ww, ww = ((((w15.setCell ⟨(w.heap.size + 2), 0, none⟩ (.int .i64 y.Vendor)).setCell ⟨(w.heap.size + 2), 1, none⟩ (.int .i64 y.Serial)).setCell ⟨(w.heap.size + 2), 2, none⟩ (.int .i64 y.Seed)).setCell ⟨(w.heap.size + 2), 3, none⟩ (.int .i64 y.Counter)) := ⟨_, rfl⟩
                obtain ⟨o_new, tw16⟩ := var_some [.int .i64 y.Vendor, .int .i64 y.Serial, .int .i64 y.Seed, .int .i64 y.Counter] 0 _ _ o_v12 (by simp)
                rw [show setAll w15 ((w.heap.size + 2)) 0 [.int .i64 y.Vendor, .int .i64 y.Serial, .int .i64 y.Seed, .int .i64 y.Counter] = w16 from hw16.symm] at o_new tw16
                replace o_v12 : Owns w16 _ (varD 27 4 [.int .i64 y.Vendor, .int .i64 y.Serial, .int .i64 y.Seed, .int .i64 y.Counter]) _ _ := o_new
                clear o_new
                replace o_v6 := owns_turned o_v6 tw16 (fun b hb hb2 => by simp at hb hb2; omega)
                replace o_v7 := owns_turned o_v7 tw16 (fun b hb hb2 => by simp at hb hb2; omega)
                replace o_v13 := owns_turned o_v13 tw16 (fun b hb hb2 => by simp at hb hb2; omega)
                replace o_v15 := owns_turned o_v15 tw16 (fun b hb hb2 => by simp at hb hb2; omega)
                replace o_v16 := owns_turned o_v16 tw16 (fun b hb hb2 => by simp at hb hb2; omega)
                replace o_R9 := Vn.row_turned o_R9 tw16 (fun b hb hb2 => by have h1 := i_R9 b hb; simp at hb2; omega)
                replace HB := below_turned HB tw16 (fun b hb => by simp at hb; omega)
                have zw16 := tw16.2.2.2.1
                rw [← hw16]
                clear hw16
                refine hK.out _ _ ?_ (fun hHeld => ?_)
                · exact ⟨var_load o_v15 (by simp) 0 _ rfl, var_load o_v15 (by simp) 1 _ rfl, var_load o_v15 (by simp) 2 _ rfl, var_load o_v15 (by simp) 3 _ rfl, var_load o_v15 (by simp) 4 _ rfl, var_load o_v15 (by simp) 5 _ rfl, var_load o_v15 (by simp) 6 _ rfl, var_load o_v16 (by simp) 0 _ rfl, var_load o_v16 (by simp) 1 _ rfl, var_load o_v16 (by simp) 2 _ rfl, var_load o_v16 (by simp) 3 _ rfl⟩
                clear hK K
                try simp only [Act.put, List.setIfInBounds_toArray, List.set_cons_zero, List.set_cons_succ]
                refine wpAnyH_ready (rs := [3]) (by kernel_rfl) (by simp) ?_
                refine AllReadyH.cons (o := ?ox4__3_4) ?hix4__3_4 (fun K hK => ?gx4__3_4) AllReadyH.nil
                case hix4__3_4 => simp only [List.getElem?_toArray, List.getElem?_cons_succ, List.getElem?_cons_zero]; rfl
                case gx4__3_4 =>
                  obtain ⟨c_v130, f_v130, c_v131, f_v131, c_v132, f_v132, c_v133, f_v133, c_v134, f_v134, c_v135, f_v135, c_v136, f_v136, l_v13⟩ := Vn.v7 o_v13
                  go_simp
                  clear c_v130 f_v130 c_v131 f_v131 c_v132 f_v132 c_v133 f_v133 c_v134 f_v134 c_v135 f_v135 c_v136 f_v136 l_v13
                  obtain ⟨w17, hw17⟩ : ∃ ww, ww = (((((((w16.setCell ⟨(w.heap.size + 3), 0, none⟩ (.string z)).setCell ⟨(w.heap.size + 3), 1, none⟩ (.string fo)).setCell ⟨(w.heap.size + 3), 2, none⟩ (.int .i64 ch)).setCell ⟨(w.heap.size + 3), 3, none⟩ (.int .i64 k)).setCell ⟨(w.heap.size + 3), 4, none⟩ (.bool p)).setCell ⟨(w.heap.size + 3), 5, none⟩ (.int .i64 y.Counter)).setCell ⟨(w.heap.size + 3), 6, none⟩ (.int .i64 sv)) := ⟨_, rfl⟩
                  obtain ⟨o_new, tw17⟩ := var_some [.string z, .string fo, .int .i64 ch, .int .i64 k, .bool p, .int .i64 y.Counter, .int .i64 sv] 0 _ _ o_v13 (by simp)
                  rw [show setAll w16 ((w.heap.size + 3)) 0 [.string z, .string fo, .int .i64 ch, .int .i64 k, .bool p, .int .i64 y.Counter, .int .i64 sv] = w17 from hw17.symm] at o_new tw17
                  replace o_v13 : Owns w17 _ (varD 29 7 [.string z, .string fo, .int .i64 ch, .int .i64 k, .bool p, .int .i64 y.Counter, .int .i64 sv]) _ _ := o_new
                  clear o_new
                  replace o_v6 := owns_turned o_v6 tw17 (fun b hb hb2 => by simp at hb hb2; omega)
                  replace o_v7 := owns_turned o_v7 tw17 (fun b hb hb2 => by simp at hb hb2; omega)
                  replace o_v12 := owns_turned o_v12 tw17 (fun b hb hb2 => by simp at hb hb2; omega)
                  replace o_v15 := owns_turned o_v15 tw17 (fun b hb hb2 => by simp at hb hb2; omega)
                  replace o_v16 := owns_turned o_v16 tw17 (fun b hb hb2 => by simp at hb hb2; omega)
                  replace o_R9 := Vn.row_turned o_R9 tw17 (fun b hb hb2 => by have h1 := i_R9 b hb; simp at hb2; omega)
                  replace HB := below_turned HB tw17 (fun b hb => by simp at hb; omega)
                  have zw17 := tw17.2.2.2.1
                  rw [← hw17]
                  clear hw17
                  refine hK.out _ _ ?_ (fun hHeld => ?_)
                  · exact ⟨var_load o_v15 (by simp) 0 _ rfl, var_load o_v15 (by simp) 1 _ rfl, var_load o_v15 (by simp) 2 _ rfl, var_load o_v15 (by simp) 3 _ rfl, var_load o_v15 (by simp) 4 _ rfl, var_load o_v15 (by simp) 5 _ rfl, var_load o_v15 (by simp) 6 _ rfl, var_load o_v16 (by simp) 0 _ rfl, var_load o_v16 (by simp) 1 _ rfl, var_load o_v16 (by simp) 2 _ rfl, var_load o_v16 (by simp) 3 _ rfl⟩
                  clear hK K
                  try simp only [Act.put, List.setIfInBounds_toArray, List.set_cons_zero, List.set_cons_succ]
                  refine wpAnyH_take (i := 4) (oi := ?oix4__4_5) (v := ?vx4__4_5) ?hix4__4_5 (by kernel_rfl) (by kernel_rfl) (by kernel_rfl) ?hQx4__4_5 (Or.inl ⟨?hwx4__4_5, ?hyx4__4_5⟩) (by assumption) ?_
                  case hix4__4_5 => simp only [List.getElem?_toArray, List.getElem?_cons_succ, List.getElem?_cons_zero]; rfl
                  case hQx4__4_5 => exact fun _ _ _ h => h
                  case hwx4__4_5 => rfl
                  case hyx4__4_5 => intro w hSw; (try dsimp only at hSw); (first | (go_simp; done) | (go_simp; with_reducible rfl))
                  try simp only [Act.put, List.setIfInBounds_toArray, List.set_cons_zero, List.set_cons_succ]
                  refine wpAnyH_done (by kernel_rfl) ?_ _
                  obtain ⟨c_v120, f_v120, c_v121, f_v121, c_v122, f_v122, c_v123, f_v123, l_v12⟩ := Vn.v4 o_v12
                  obtain ⟨c_v130, f_v130, c_v131, f_v131, c_v132, f_v132, c_v133, f_v133, c_v134, f_v134, c_v135, f_v135, c_v136, f_v136, l_v13⟩ := Vn.v7 o_v13
                  go_wp2
                  clear c_v120 f_v120 c_v121 f_v121 c_v122 f_v122 c_v123 f_v123 l_v12 c_v130 f_v130 c_v131 f_v131 c_v132 f_v132 c_v133 f_v133 c_v134 f_v134 c_v135 f_v135 c_v136 f_v136 l_v13
                  have y_v12_0 : w17.cell? ⟨(w.heap.size + 2), 0, none⟩ = some (.int .i64 y.Vendor) := var_load o_v12 (by simp) 0 _ rfl
                  have y_v12_1 : w17.cell? ⟨(w.heap.size + 2), 1, none⟩ = some (.int .i64 y.Serial) := var_load o_v12 (by simp) 1 _ rfl
                  have y_v12_2 : w17.cell? ⟨(w.heap.size + 2), 2, none⟩ = some (.int .i64 y.Seed) := var_load o_v12 (by simp) 2 _ rfl
                  have y_v12_3 : w17.cell? ⟨(w.heap.size + 2), 3, none⟩ = some (.int .i64 y.Counter) := var_load o_v12 (by simp) 3 _ rfl
                  have y_v13_0 : w17.cell? ⟨(w.heap.size + 3), 0, none⟩ = some (.string z) := var_load o_v13 (by simp) 0 _ rfl
                  have y_v13_1 : w17.cell? ⟨(w.heap.size + 3), 1, none⟩ = some (.string fo) := var_load o_v13 (by simp) 1 _ rfl
                  have y_v13_2 : w17.cell? ⟨(w.heap.size + 3), 2, none⟩ = some (.int .i64 ch) := var_load o_v13 (by simp) 2 _ rfl
                  have y_v13_3 : w17.cell? ⟨(w.heap.size + 3), 3, none⟩ = some (.int .i64 k) := var_load o_v13 (by simp) 3 _ rfl
                  have y_v13_4 : w17.cell? ⟨(w.heap.size + 3), 4, none⟩ = some (.bool p) := var_load o_v13 (by simp) 4 _ rfl
                  have y_v13_5 : w17.cell? ⟨(w.heap.size + 3), 5, none⟩ = some (.int .i64 y.Counter) := var_load o_v13 (by simp) 5 _ rfl
                  have y_v13_6 : w17.cell? ⟨(w.heap.size + 3), 6, none⟩ = some (.int .i64 sv) := var_load o_v13 (by simp) 6 _ rfl
                  refine bodyPost_ret (v := .tuple #[.agg #[.int .i64 y.Vendor, .int .i64 y.Serial, .int .i64 y.Seed, .int .i64 y.Counter], .agg #[.string z, .string fo, .int .i64 ch, .int .i64 k, .bool p, .int .i64 y.Counter, .int .i64 sv], .bool true]) (by simp [results, Tryd.results6, go_sem, y_v12_0, y_v12_1, y_v12_2, y_v12_3, y_v13_0, y_v13_1, y_v13_2, y_v13_3, y_v13_4, y_v13_5, y_v13_6]) rfl ?_
                  exact ⟨by unfold mkV mkS mkA mkB; simp [hq5, hq6, ← HSB.out, ← HSX.out, ← HSV.out, ← HFO.out], HB⟩
            | false =>
              obtain ⟨c_v60, f_v60, c_v61, f_v61, c_v62, f_v62, c_v63, f_v63, l_v6⟩ := Vn.v4 o_v6
              obtain ⟨c_v120, f_v120, c_v121, f_v121, c_v122, f_v122, c_v123, f_v123, l_v12⟩ := Vn.v4 o_v12
              obtain ⟨c_v130, f_v130, c_v131, f_v131, c_v132, f_v132, c_v133, f_v133, c_v134, f_v134, c_v135, f_v135, c_v136, f_v136, l_v13⟩ := Vn.v7 o_v13
              go_wp2
              clear c_v60 f_v60 c_v61 f_v61 c_v62 f_v62 c_v63 f_v63 l_v6 c_v120 f_v120 c_v121 f_v121 c_v122 f_v122 c_v123 f_v123 l_v12 c_v130 f_v130 c_v131 f_v131 c_v132 f_v132 c_v133 f_v133 c_v134 f_v134 c_v135 f_v135 c_v136 f_v136 l_v13
              obtain ⟨w13, hw13⟩ : ∃ ww, ww = ((((w12.setCell ⟨(w.heap.size + 2), 0, none⟩ (.int .i64 x.Vendor)).setCell ⟨(w.heap.size + 2), 1, none⟩ (.int .i64 x.Serial)).setCell ⟨(w.heap.size + 2), 2, none⟩ (.int .i64 x.Seed)).setCell ⟨(w.heap.size + 2), 3, none⟩ (.int .i64 x.Counter)) := ⟨_, rfl⟩
              obtain ⟨o_new, tw13⟩ := var_some [.int .i64 x.Vendor, .int .i64 x.Serial, .int .i64 x.Seed, .int .i64 x.Counter] 0 _ _ o_v12 (by simp)
              rw [show setAll w12 ((w.heap.size + 2)) 0 [.int .i64 x.Vendor, .int .i64 x.Serial, .int .i64 x.Seed, .int .i64 x.Counter] = w13 from hw13.symm] at o_new tw13
              replace o_v12 : Owns w13 _ (varD 27 4 [.int .i64 x.Vendor, .int .i64 x.Serial, .int .i64 x.Seed, .int .i64 x.Counter]) _ _ := o_new
              clear o_new
              replace o_v6 := owns_turned o_v6 tw13 (fun b hb hb2 => by simp at hb hb2; omega)
              replace o_v7 := owns_turned o_v7 tw13 (fun b hb hb2 => by simp at hb hb2; omega)
              replace o_v13 := owns_turned o_v13 tw13 (fun b hb hb2 => by simp at hb hb2; omega)
              replace o_v15 := owns_turned o_v15 tw13 (fun b hb hb2 => by simp at hb hb2; omega)
              replace o_v16 := owns_turned o_v16 tw13 (fun b hb hb2 => by simp at hb hb2; omega)
              replace o_R9 := Vn.row_turned o_R9 tw13 (fun b hb hb2 => by have h1 := i_R9 b hb; simp at hb2; omega)
              replace HB := below_turned HB tw13 (fun b hb => by simp at hb; omega)
              have zw13 := tw13.2.2.2.1
              rw [← hw13]
              clear hw13
              obtain ⟨w14, hw14⟩ : ∃ ww, ww = (((((((w13.setCell ⟨(w.heap.size + 3), 0, none⟩ (.string ⟨#[]⟩)).setCell ⟨(w.heap.size + 3), 1, none⟩ (.string ⟨#[]⟩)).setCell ⟨(w.heap.size + 3), 2, none⟩ (.int .i64 0)).setCell ⟨(w.heap.size + 3), 3, none⟩ (.int .i64 0)).setCell ⟨(w.heap.size + 3), 4, none⟩ (.bool false)).setCell ⟨(w.heap.size + 3), 5, none⟩ (.int .i64 0)).setCell ⟨(w.heap.size + 3), 6, none⟩ (.int .i64 0)) := ⟨_, rfl⟩
              obtain ⟨o_new, tw14⟩ := var_some [.string ⟨#[]⟩, .string ⟨#[]⟩, .int .i64 0, .int .i64 0, .bool false, .int .i64 0, .int .i64 0] 0 _ _ o_v13 (by simp)
              rw [show setAll w13 ((w.heap.size + 3)) 0 [.string ⟨#[]⟩, .string ⟨#[]⟩, .int .i64 0, .int .i64 0, .bool false, .int .i64 0, .int .i64 0] = w14 from hw14.symm] at o_new tw14
              replace o_v13 : Owns w14 _ (varD 29 7 [.string ⟨#[]⟩, .string ⟨#[]⟩, .int .i64 0, .int .i64 0, .bool false, .int .i64 0, .int .i64 0]) _ _ := o_new
              clear o_new
              replace o_v6 := owns_turned o_v6 tw14 (fun b hb hb2 => by simp at hb hb2; omega)
              replace o_v7 := owns_turned o_v7 tw14 (fun b hb hb2 => by simp at hb hb2; omega)
              replace o_v12 := owns_turned o_v12 tw14 (fun b hb hb2 => by simp at hb hb2; omega)
              replace o_v15 := owns_turned o_v15 tw14 (fun b hb hb2 => by simp at hb hb2; omega)
              replace o_v16 := owns_turned o_v16 tw14 (fun b hb hb2 => by simp at hb hb2; omega)
              replace o_R9 := Vn.row_turned o_R9 tw14 (fun b hb hb2 => by have h1 := i_R9 b hb; simp at hb2; omega)
              replace HB := below_turned HB tw14 (fun b hb => by simp at hb; omega)
              have zw14 := tw14.2.2.2.1
              rw [← hw14]
              clear hw14
              have y_v12_0 : w14.cell? ⟨(w.heap.size + 2), 0, none⟩ = some (.int .i64 x.Vendor) := var_load o_v12 (by simp) 0 _ rfl
              have y_v12_1 : w14.cell? ⟨(w.heap.size + 2), 1, none⟩ = some (.int .i64 x.Serial) := var_load o_v12 (by simp) 1 _ rfl
              have y_v12_2 : w14.cell? ⟨(w.heap.size + 2), 2, none⟩ = some (.int .i64 x.Seed) := var_load o_v12 (by simp) 2 _ rfl
              have y_v12_3 : w14.cell? ⟨(w.heap.size + 2), 3, none⟩ = some (.int .i64 x.Counter) := var_load o_v12 (by simp) 3 _ rfl
              have y_v13_0 : w14.cell? ⟨(w.heap.size + 3), 0, none⟩ = some (.string ⟨#[]⟩) := var_load o_v13 (by simp) 0 _ rfl
              have y_v13_1 : w14.cell? ⟨(w.heap.size + 3), 1, none⟩ = some (.string ⟨#[]⟩) := var_load o_v13 (by simp) 1 _ rfl
              have y_v13_2 : w14.cell? ⟨(w.heap.size + 3), 2, none⟩ = some (.int .i64 0) := var_load o_v13 (by simp) 2 _ rfl
              have y_v13_3 : w14.cell? ⟨(w.heap.size + 3), 3, none⟩ = some (.int .i64 0) := var_load o_v13 (by simp) 3 _ rfl
              have y_v13_4 : w14.cell? ⟨(w.heap.size + 3), 4, none⟩ = some (.bool false) := var_load o_v13 (by simp) 4 _ rfl
              have y_v13_5 : w14.cell? ⟨(w.heap.size + 3), 5, none⟩ = some (.int .i64 0) := var_load o_v13 (by simp) 5 _ rfl
              have y_v13_6 : w14.cell? ⟨(w.heap.size + 3), 6, none⟩ = some (.int .i64 0) := var_load o_v13 (by simp) 6 _ rfl
              refine bodyPost_ret (v := .tuple #[.agg #[.int .i64 x.Vendor, .int .i64 x.Serial, .int .i64 x.Seed, .int .i64 x.Counter], .agg #[.string ⟨#[]⟩, .string ⟨#[]⟩, .int .i64 0, .int .i64 0, .bool false, .int .i64 0, .int .i64 0], .bool false]) (by simp [results, Tryd.results6, go_sem, y_v12_0, y_v12_1, y_v12_2, y_v12_3, y_v13_0, y_v13_1, y_v13_2, y_v13_3, y_v13_4, y_v13_5, y_v13_6]) rfl ?_
              exact ⟨by unfold mkV mkS mkA mkB; simp [hq5, hq6, ← HSB.out, ← HSX.out, ← HSV.out, ← HFO.out], HB⟩
          | false =>
            obtain ⟨c_v60, f_v60, c_v61, f_v61, c_v62, f_v62, c_v63, f_v63, l_v6⟩ := Vn.v4 o_v6
            obtain ⟨c_v120, f_v120, c_v121, f_v121, c_v122, f_v122, c_v123, f_v123, l_v12⟩ := Vn.v4 o_v12
            obtain ⟨c_v130, f_v130, c_v131, f_v131, c_v132, f_v132, c_v133, f_v133, c_v134, f_v134, c_v135, f_v135, c_v136, f_v136, l_v13⟩ := Vn.v7 o_v13
            go_wp2
            clear c_v60 f_v60 c_v61 f_v61 c_v62 f_v62 c_v63 f_v63 l_v6 c_v120 f_v120 c_v121 f_v121 c_v122 f_v122 c_v123 f_v123 l_v12 c_v130 f_v130 c_v131 f_v131 c_v132 f_v132 c_v133 f_v133 c_v134 f_v134 c_v135 f_v135 c_v136 f_v136 l_v13
            obtain ⟨w13, hw13⟩ : ∃ ww, ww = ((((w12.setCell ⟨(w.heap.size + 2), 0, none⟩ (.int .i64 x.Vendor)).setCell ⟨(w.heap.size + 2), 1, none⟩ (.int .i64 x.Serial)).setCell ⟨(w.heap.size + 2), 2, none⟩ (.int .i64 x.Seed)).setCell ⟨(w.heap.size + 2), 3, none⟩ (.int .i64 x.Counter)) := ⟨_, rfl⟩
            obtain ⟨o_new, tw13⟩ := var_some [.int .i64 x.Vendor, .int .i64 x.Serial, .int .i64 x.Seed, .int .i64 x.Counter] 0 _ _ o_v12 (by simp)
            rw [show setAll w12 ((w.heap.size + 2)) 0 [.int .i64 x.Vendor, .int .i64 x.Serial, .int .i64 x.Seed, .int .i64 x.Counter] = w13 from hw13.symm] at o_new tw13
            replace o_v12 : Owns w13 _ (varD 27 4 [.int .i64 x.Vendor, .int .i64 x.Serial, .int .i64 x.Seed, .int .i64 x.Counter]) _ _ := o_new
            clear o_new
            replace o_v6 := owns_turned o_v6 tw13 (fun b hb hb2 => by simp at hb hb2; omega)
            replace o_v7 := owns_turned o_v7 tw13 (fun b hb hb2 => by simp at hb hb2; omega)
            replace o_v13 := owns_turned o_v13 tw13 (fun b hb hb2 => by simp at hb hb2; omega)
            replace o_v15 := owns_turned o_v15 tw13 (fun b hb hb2 => by simp at hb hb2; omega)
            replace o_v16 := owns_turned o_v16 tw13 (fun b hb hb2 => by simp at hb hb2; omega)
            replace o_R9 := Vn.row_turned o_R9 tw13 (fun b hb hb2 => by have h1 := i_R9 b hb; simp at hb2; omega)
            replace HB := below_turned HB tw13 (fun b hb => by simp at hb; omega)
            have zw13 := tw13.2.2.2.1
            rw [← hw13]
            clear hw13
            obtain ⟨w14, hw14⟩ : ∃ ww, ww = (((((((w13.setCell ⟨(w.heap.size + 3), 0, none⟩ (.string ⟨#[]⟩)).setCell ⟨(w.heap.size + 3), 1, none⟩ (.string ⟨#[]⟩)).setCell ⟨(w.heap.size + 3), 2, none⟩ (.int .i64 0)).setCell ⟨(w.heap.size + 3), 3, none⟩ (.int .i64 0)).setCell ⟨(w.heap.size + 3), 4, none⟩ (.bool false)).setCell ⟨(w.heap.size + 3), 5, none⟩ (.int .i64 0)).setCell ⟨(w.heap.size + 3), 6, none⟩ (.int .i64 0)) := ⟨_, rfl⟩
            obtain ⟨o_new, tw14⟩ := var_some [.string ⟨#[]⟩, .string ⟨#[]⟩, .int .i64 0, .int .i64 0, .bool false, .int .i64 0, .int .i64 0] 0 _ _ o_v13 (by simp)
            rw [show setAll w13 ((w.heap.size + 3)) 0 [.string ⟨#[]⟩, .string ⟨#[]⟩, .int .i64 0, .int .i64 0, .bool false, .int .i64 0, .int .i64 0] = w14 from hw14.symm] at o_new tw14
            replace o_v13 : Owns w14 _ (varD 29 7 [.string ⟨#[]⟩, .string ⟨#[]⟩, .int .i64 0, .int .i64 0, .bool false, .int .i64 0, .int .i64 0]) _ _ := o_new
            clear o_new
            replace o_v6 := owns_turned o_v6 tw14 (fun b hb hb2 => by simp at hb hb2; omega)
            replace o_v7 := owns_turned o_v7 tw14 (fun b hb hb2 => by simp at hb hb2; omega)
            replace o_v12 := owns_turned o_v12 tw14 (fun b hb hb2 => by simp at hb hb2; omega)
            replace o_v15 := owns_turned o_v15 tw14 (fun b hb hb2 => by simp at hb hb2; omega)
            replace o_v16 := owns_turned o_v16 tw14 (fun b hb hb2 => by simp at hb hb2; omega)
            replace o_R9 := Vn.row_turned o_R9 tw14 (fun b hb hb2 => by have h1 := i_R9 b hb; simp at hb2; omega)
            replace HB := below_turned HB tw14 (fun b hb => by simp at hb; omega)
            have zw14 := tw14.2.2.2.1
            rw [← hw14]
            clear hw14
            have y_v12_0 : w14.cell? ⟨(w.heap.size + 2), 0, none⟩ = some (.int .i64 x.Vendor) := var_load o_v12 (by simp) 0 _ rfl
            have y_v12_1 : w14.cell? ⟨(w.heap.size + 2), 1, none⟩ = some (.int .i64 x.Serial) := var_load o_v12 (by simp) 1 _ rfl
            have y_v12_2 : w14.cell? ⟨(w.heap.size + 2), 2, none⟩ = some (.int .i64 x.Seed) := var_load o_v12 (by simp) 2 _ rfl
            have y_v12_3 : w14.cell? ⟨(w.heap.size + 2), 3, none⟩ = some (.int .i64 x.Counter) := var_load o_v12 (by simp) 3 _ rfl
            have y_v13_0 : w14.cell? ⟨(w.heap.size + 3), 0, none⟩ = some (.string ⟨#[]⟩) := var_load o_v13 (by simp) 0 _ rfl
            have y_v13_1 : w14.cell? ⟨(w.heap.size + 3), 1, none⟩ = some (.string ⟨#[]⟩) := var_load o_v13 (by simp) 1 _ rfl
            have y_v13_2 : w14.cell? ⟨(w.heap.size + 3), 2, none⟩ = some (.int .i64 0) := var_load o_v13 (by simp) 2 _ rfl
            have y_v13_3 : w14.cell? ⟨(w.heap.size + 3), 3, none⟩ = some (.int .i64 0) := var_load o_v13 (by simp) 3 _ rfl
            have y_v13_4 : w14.cell? ⟨(w.heap.size + 3), 4, none⟩ = some (.bool false) := var_load o_v13 (by simp) 4 _ rfl
            have y_v13_5 : w14.cell? ⟨(w.heap.size + 3), 5, none⟩ = some (.int .i64 0) := var_load o_v13 (by simp) 5 _ rfl
            have y_v13_6 : w14.cell? ⟨(w.heap.size + 3), 6, none⟩ = some (.int .i64 0) := var_load o_v13 (by simp) 6 _ rfl
            refine bodyPost_ret (v := .tuple #[.agg #[.int .i64 x.Vendor, .int .i64 x.Serial, .int .i64 x.Seed, .int .i64 x.Counter], .agg #[.string ⟨#[]⟩, .string ⟨#[]⟩, .int .i64 0, .int .i64 0, .bool false, .int .i64 0, .int .i64 0], .bool false]) (by simp [results, Tryd.results6, go_sem, y_v12_0, y_v12_1, y_v12_2, y_v12_3, y_v13_0, y_v13_1, y_v13_2, y_v13_3, y_v13_4, y_v13_5, y_v13_6]) rfl ?_
            exact ⟨by unfold mkV mkS mkA mkB; simp [hq5, ← HSB.out, ← HSX.out, ← HSV.out, ← HFO.out], HB⟩
set_option maxHeartbeats 8000000 in
theorem specRelay (w : World) (x : Fx.KeyStore) (o : Fx.Origin) (z : ByteArray) (k ch : Int) (us vs : List Value) (h : RdsL w w.heap.size x.dcs us) (h2 : RdsL w w.heap.size o.dcs vs) (hx : x.ok) (hz : z.size ≤ 15000000) (ho : o.Host.size ≤ 15000000) (k0 : -9223372036854775808 ≤ k) (k1 : k ≤ 9223372036854775807) (c0 : -9223372036854775808 ≤ ch) (c1 : ch ≤ 9223372036854775807) :
    Calls Tryd.prog 12 #[.agg us.toArray, .agg vs.toArray, .string z, .int .i64 k, .int .i64 ch] w (Gives (mkV (mkS x o z) (mkA x o z k ch true) (mkB x o z)) w) := by
  obtain rfl := KeyStore.rds h
  obtain rfl := Origin.rds h2
  clear h h2
  obtain ⟨q, hq⟩ : ∃ q, q = mkS x o z := ⟨_, rfl⟩
  obtain ⟨r, hr⟩ : ∃ r, r = mkA x o z k ch true := ⟨_, rfl⟩
  obtain ⟨mb, hmb⟩ : ∃ mb, mb = mkB x o z := ⟨_, rfl⟩
  have KK := Lib.hid (fun wx : World => show Calls Tryd.prog 6 #[.agg #[.int .i64 x.Vendor, .int .i64 x.Serial, .int .i64 x.Seed, .int .i64 x.Counter], .agg #[.bool o.Secure, .string o.Host, .int .i64 o.Port], .string z, .int .i64 k, .int .i64 ch, .bool true] wx (Gives (mkV q r mb) wx) from by
    rw [hq, hr, hmb]
    exact specMake wx x o z k ch true _ _ (st_rds wx _ x) (org_rds wx _ o) hx hz ho k0 k1 c0 c1)
  unfold mkV at KK
  have HQ := Lib.hid hq
  have HR := Lib.hid hr
  have HM := Lib.hid hmb
  clear hq hr hmb hx
  go_enter Tryd.func12, Tryd.ntmps12
  go_wp2_with fail
  obtain ⟨w1, hw1⟩ : ∃ ww, ww = w.alloc (.cells #[.int .i64 x.Vendor, .int .i64 x.Serial, .int .i64 x.Seed, .int .i64 x.Counter] 27) := ⟨_, rfl⟩
  have o_v5 := var_owns w 27 4 [.int .i64 x.Vendor, .int .i64 x.Serial, .int .i64 x.Seed, .int .i64 x.Counter] rfl
  have bw1 : Below w.heap.size w w1 := hw1 ▸ (Below.refl _ _).alloc (Nat.le_refl _) _
  have sw1 : w1.heap.size = w.heap.size + 1 := by rw [hw1]; simp
  rw [← hw1] at o_v5 ⊢
  have zw1 : w.heap.size < w1.heap.size := by omega
  have HB := bw1
  clear hw1
  obtain ⟨w2, hw2⟩ : ∃ ww, ww = w1.alloc (.cells #[.bool o.Secure, .string o.Host, .int .i64 o.Port] 33) := ⟨_, rfl⟩
  have o_v6 := var_owns w1 33 3 [.bool o.Secure, .string o.Host, .int .i64 o.Port] rfl
  have bw2 : Below w1.heap.size w1 w2 := hw2 ▸ (Below.refl _ _).alloc (Nat.le_refl _) _
  have sw2 : w2.heap.size = w1.heap.size + 1 := by rw [hw2]; simp
  rw [← hw2] at o_v6 ⊢
  have qw2 : w1.heap.size = w.heap.size + 1 := by omega
  rw [qw2] at o_v6
  clear qw2
  have zw2 : w1.heap.size < w2.heap.size := by omega
  replace o_v5 := owns_below o_v5 bw2
  replace HB := HB.trans (bw2.mono HB.size)
  clear hw2
  obtain ⟨w3, hw3⟩ : ∃ ww, ww = w2.alloc (.cells #[.int .i64 0, .int .i64 0, .int .i64 0, .int .i64 0] 27) := ⟨_, rfl⟩
  have o_v10 := var_owns w2 27 4 [.int .i64 0, .int .i64 0, .int .i64 0, .int .i64 0] rfl
  have bw3 : Below w2.heap.size w2 w3 := hw3 ▸ (Below.refl _ _).alloc (Nat.le_refl _) _
  have sw3 : w3.heap.size = w2.heap.size + 1 := by rw [hw3]; simp
  rw [← hw3] at o_v10 ⊢
  have qw3 : w2.heap.size = w.heap.size + 2 := by omega
  rw [qw3] at o_v10
  clear qw3
  have zw3 : w2.heap.size < w3.heap.size := by omega
  replace o_v5 := owns_below o_v5 bw3
  replace o_v6 := owns_below o_v6 bw3
  replace HB := HB.trans (bw3.mono HB.size)
  clear hw3
  obtain ⟨w4, hw4⟩ : ∃ ww, ww = w3.alloc (.cells #[.string ⟨#[]⟩, .string ⟨#[]⟩, .int .i64 0, .int .i64 0, .bool false, .int .i64 0, .int .i64 0] 29) := ⟨_, rfl⟩
  have o_v11 := var_owns w3 29 7 [.string ⟨#[]⟩, .string ⟨#[]⟩, .int .i64 0, .int .i64 0, .bool false, .int .i64 0, .int .i64 0] rfl
  have bw4 : Below w3.heap.size w3 w4 := hw4 ▸ (Below.refl _ _).alloc (Nat.le_refl _) _
  have sw4 : w4.heap.size = w3.heap.size + 1 := by rw [hw4]; simp
  rw [← hw4] at o_v11 ⊢
  have qw4 : w3.heap.size = w.heap.size + 3 := by omega
  rw [qw4] at o_v11
  clear qw4
  have zw4 : w3.heap.size < w4.heap.size := by omega
  replace o_v5 := owns_below o_v5 bw4
  replace o_v6 := owns_below o_v6 bw4
  replace o_v10 := owns_below o_v10 bw4
  replace HB := HB.trans (bw4.mono HB.size)
  clear hw4
  (with_reducible refine (KK.out _).mono ?_); rintro e w5 ⟨rfl, bw5⟩
  replace o_v5 := owns_below o_v5 bw5
  replace o_v6 := owns_below o_v6 bw5
  replace o_v10 := owns_below o_v10 bw5
  replace o_v11 := owns_below o_v11 bw5
  replace HB := HB.trans (bw5.mono HB.size)
  have zw5 := bw5.size
  obtain ⟨c_v100, f_v100, c_v101, f_v101, c_v102, f_v102, c_v103, f_v103, l_v10⟩ := Vn.v4 o_v10
  obtain ⟨c_v110, f_v110, c_v111, f_v111, c_v112, f_v112, c_v113, f_v113, c_v114, f_v114, c_v115, f_v115, c_v116, f_v116, l_v11⟩ := Vn.v7 o_v11
  go_wp2
  clear c_v100 f_v100 c_v101 f_v101 c_v102 f_v102 c_v103 f_v103 l_v10 c_v110 f_v110 c_v111 f_v111 c_v112 f_v112 c_v113 f_v113 c_v114 f_v114 c_v115 f_v115 c_v116 f_v116 l_v11
  obtain ⟨w6, hw6⟩ : ∃ ww, ww = ((((w5.setCell ⟨(w.heap.size + 2), 0, none⟩ (.int .i64 q.Vendor)).setCell ⟨(w.heap.size + 2), 1, none⟩ (.int .i64 q.Serial)).setCell ⟨(w.heap.size + 2), 2, none⟩ (.int .i64 q.Seed)).setCell ⟨(w.heap.size + 2), 3, none⟩ (.int .i64 q.Counter)) := ⟨_, rfl⟩
  obtain ⟨o_new, tw6⟩ := var_some [.int .i64 q.Vendor, .int .i64 q.Serial, .int .i64 q.Seed, .int .i64 q.Counter] 0 _ _ o_v10 (by simp)
  rw [show setAll w5 ((w.heap.size + 2)) 0 [.int .i64 q.Vendor, .int .i64 q.Serial, .int .i64 q.Seed, .int .i64 q.Counter] = w6 from hw6.symm] at o_new tw6
  replace o_v10 : Owns w6 _ (varD 27 4 [.int .i64 q.Vendor, .int .i64 q.Serial, .int .i64 q.Seed, .int .i64 q.Counter]) _ _ := o_new
  clear o_new
  replace o_v5 := owns_turned o_v5 tw6 (fun b hb hb2 => by simp at hb hb2; omega)
  replace o_v6 := owns_turned o_v6 tw6 (fun b hb hb2 => by simp at hb hb2; omega)
  replace o_v11 := owns_turned o_v11 tw6 (fun b hb hb2 => by simp at hb hb2; omega)
  replace HB := below_turned HB tw6 (fun b hb => by simp at hb; omega)
  have zw6 := tw6.2.2.2.1
  rw [← hw6]
  clear hw6
  obtain ⟨w7, hw7⟩ : ∃ ww, ww = (((((((w6.setCell ⟨(w.heap.size + 3), 0, none⟩ (.string r.Site)).setCell ⟨(w.heap.size + 3), 1, none⟩ (.string r.Origin)).setCell ⟨(w.heap.size + 3), 2, none⟩ (.int .i64 r.Challenge)).setCell ⟨(w.heap.size + 3), 3, none⟩ (.int .i64 r.Handle)).setCell ⟨(w.heap.size + 3), 4, none⟩ (.bool r.Present)).setCell ⟨(w.heap.size + 3), 5, none⟩ (.int .i64 r.Counter)).setCell ⟨(w.heap.size + 3), 6, none⟩ (.int .i64 r.Signature)) := ⟨_, rfl⟩
  obtain ⟨o_new, tw7⟩ := var_some [.string r.Site, .string r.Origin, .int .i64 r.Challenge, .int .i64 r.Handle, .bool r.Present, .int .i64 r.Counter, .int .i64 r.Signature] 0 _ _ o_v11 (by simp)
  rw [show setAll w6 ((w.heap.size + 3)) 0 [.string r.Site, .string r.Origin, .int .i64 r.Challenge, .int .i64 r.Handle, .bool r.Present, .int .i64 r.Counter, .int .i64 r.Signature] = w7 from hw7.symm] at o_new tw7
  replace o_v11 : Owns w7 _ (varD 29 7 [.string r.Site, .string r.Origin, .int .i64 r.Challenge, .int .i64 r.Handle, .bool r.Present, .int .i64 r.Counter, .int .i64 r.Signature]) _ _ := o_new
  clear o_new
  replace o_v5 := owns_turned o_v5 tw7 (fun b hb hb2 => by simp at hb hb2; omega)
  replace o_v6 := owns_turned o_v6 tw7 (fun b hb hb2 => by simp at hb hb2; omega)
  replace o_v10 := owns_turned o_v10 tw7 (fun b hb hb2 => by simp at hb hb2; omega)
  replace HB := below_turned HB tw7 (fun b hb => by simp at hb; omega)
  have zw7 := tw7.2.2.2.1
  rw [← hw7]
  clear hw7
  have y_v10_0 : w7.cell? ⟨(w.heap.size + 2), 0, none⟩ = some (.int .i64 q.Vendor) := var_load o_v10 (by simp) 0 _ rfl
  have y_v10_1 : w7.cell? ⟨(w.heap.size + 2), 1, none⟩ = some (.int .i64 q.Serial) := var_load o_v10 (by simp) 1 _ rfl
  have y_v10_2 : w7.cell? ⟨(w.heap.size + 2), 2, none⟩ = some (.int .i64 q.Seed) := var_load o_v10 (by simp) 2 _ rfl
  have y_v10_3 : w7.cell? ⟨(w.heap.size + 2), 3, none⟩ = some (.int .i64 q.Counter) := var_load o_v10 (by simp) 3 _ rfl
  have y_v11_0 : w7.cell? ⟨(w.heap.size + 3), 0, none⟩ = some (.string r.Site) := var_load o_v11 (by simp) 0 _ rfl
  have y_v11_1 : w7.cell? ⟨(w.heap.size + 3), 1, none⟩ = some (.string r.Origin) := var_load o_v11 (by simp) 1 _ rfl
  have y_v11_2 : w7.cell? ⟨(w.heap.size + 3), 2, none⟩ = some (.int .i64 r.Challenge) := var_load o_v11 (by simp) 2 _ rfl
  have y_v11_3 : w7.cell? ⟨(w.heap.size + 3), 3, none⟩ = some (.int .i64 r.Handle) := var_load o_v11 (by simp) 3 _ rfl
  have y_v11_4 : w7.cell? ⟨(w.heap.size + 3), 4, none⟩ = some (.bool r.Present) := var_load o_v11 (by simp) 4 _ rfl
  have y_v11_5 : w7.cell? ⟨(w.heap.size + 3), 5, none⟩ = some (.int .i64 r.Counter) := var_load o_v11 (by simp) 5 _ rfl
  have y_v11_6 : w7.cell? ⟨(w.heap.size + 3), 6, none⟩ = some (.int .i64 r.Signature) := var_load o_v11 (by simp) 6 _ rfl
  refine bodyPost_ret (v := .tuple #[.agg #[.int .i64 q.Vendor, .int .i64 q.Serial, .int .i64 q.Seed, .int .i64 q.Counter], .agg #[.string r.Site, .string r.Origin, .int .i64 r.Challenge, .int .i64 r.Handle, .bool r.Present, .int .i64 r.Counter, .int .i64 r.Signature], .bool mb]) (by simp [results, Tryd.results12, go_sem, y_v10_0, y_v10_1, y_v10_2, y_v10_3, y_v11_0, y_v11_1, y_v11_2, y_v11_3, y_v11_4, y_v11_5, y_v11_6]) rfl ?_
  exact ⟨by rw [← HQ.out, ← HR.out, ← HM.out]; rfl, HB⟩
end Go.Proofs.YtckplhmielckeabDoor.C13b
