/-
  Contracts of chapter 8's functions, of the program.
-/
import Derived.Test.YtaodpiikpojikaaC8f
import Derived.Test.YtaodpiikpojikaaC8d
import Derived.Test.YtaodpiikpojikaaC8e
import Derived.Test.YtaodpiikpojikaaC6i
import Derived.Test.YtaodpiikpojikaaC3c
import Derived.Test.YtaodpiikpojikaaC8h
import Derived.Deep.QuietTactic
import Derived.BigQuiet
namespace Go.Proofs.Ytaodpiikpojikaa.C8i
open Go.ChangeShapes Go.WideShapes Go.ChangeAt Go.RowKit Go.Deep
open S0 S1 S9 S10 Ty Dm Bx Fx C3 M3 M8 M10
set_option linter.unusedVariables false
theorem bytesEqualQ (w : World) (A B : Option Addr) (n m c d : Nat) (xs ys : List Int) (ha : Rd w w.heap.size 1 A n (ints .u8 xs)) (hb : Rd w w.heap.size 1 B m (ints .u8 ys)) :
    Calls Try.prog 70 #[.slice A n c, .slice B m d] w fun e w' => e = .returned (.bool ((strOfNums xs).toList == (strOfNums ys).toList)) ∧ w' = w := by
  have h1 := S2.conv_rd (c := c) ha
  have h2 := S2.conv_rd (c := d) hb
  clear ha hb
  go_enter Try.func70, Try.ntmps70
  go_wp2
  go_ret
  exact ⟨rfl, rfl⟩
theorem equalQ (w : World) (A B : Option Addr) (n m c d : Nat) (xs ys : List Int) (z : Bool) (ha : Rd w w.heap.size 1 A n (ints .u8 xs)) (hb : Rd w w.heap.size 1 B m (ints .u8 ys)) (hz : ((strOfNums xs).toList == (strOfNums ys).toList) = z) :
    Calls Try.prog 53 #[.slice A n c, .slice B m d] w fun e w' => e = .returned (.bool z) ∧ w' = w := by
  have HZ := Lib.hid hz
  clear hz
  go_enter Try.func53, Try.ntmps53
  go_wp2_with fail
  (with_reducible refine (bytesEqualQ _ _ _ _ _ _ _ xs ys ha hb).mono ?_); rintro e w1 ⟨rfl, rfl⟩
  rw [HZ.out]
  go_wp2
  go_ret
  exact ⟨rfl, rfl⟩
set_option maxHeartbeats 4000000 in
set_option maxRecDepth 100000 in
theorem implEql (w : World) (a b : Box) (us vs : List Value) (h : RdsL w w.heap.size a.dcs us) (h2 : RdsL w w.heap.size b.dcs vs) (ho : a.ok) (ho2 : b.ok) :
    Calls Try.prog 19 #[.agg us.toArray, .agg vs.toArray] w (Gives (.bool (eqlB a b)) w) := by
  obtain ⟨A, c, rfl, hr⟩ := Box.rds h
  obtain ⟨B, d, rfl, hs⟩ := Box.rds h2
  have bw : Below w.heap.size w ((w.alloc (.cells #[.int .i64 a.to, .int .i64 a.eph, .slice A a.data.length c, .int .i64 a.mac] 26)).alloc (.cells #[.int .i64 b.to, .int .i64 b.eph, .slice B b.data.length d, .int .i64 b.mac] 26)) := ((Below.refl _ _).alloc (Nat.le_refl _) _).alloc (by simp) _
  have HR := Lib.hid (hr.on bw)
  have HS := Lib.hid (hs.on bw)
  have HE := Lib.hid (C8e.same_bytes ho.data ho2.data)
  clear h h2 hr hs ho ho2
  have fin : eqlB a b = ((a.to == b.to) && ((a.eph == b.eph) && (decide (a.data = b.data) && (a.mac == b.mac)))) := by
    unfold eqlB
    by_cases h1 : a.to = b.to <;> by_cases h2 : a.eph = b.eph <;> by_cases h3 : a.mac = b.mac <;> by_cases h4 : a.data = b.data <;> simp [h1, h2, h3, h4]
  have HF := Lib.hid fin
  clear fin
  obtain ⟨na, hna⟩ : ∃ n, n = a.data.length := ⟨_, rfl⟩
  obtain ⟨nb, hnb⟩ : ∃ n, n = b.data.length := ⟨_, rfl⟩
  rw [← hna, ← hnb] at HR HS bw ⊢
  clear hna hnb
  obtain ⟨w2, hw2⟩ : ∃ x, x = (w.alloc (.cells #[.int .i64 a.to, .int .i64 a.eph, .slice A na c, .int .i64 a.mac] 26)).alloc (.cells #[.int .i64 b.to, .int .i64 b.eph, .slice B nb d, .int .i64 b.mac] 26) := ⟨_, rfl⟩
  have f : ∀ j u, [Value.int .i64 a.to, .int .i64 a.eph, .slice A na c, .int .i64 a.mac][j]? = some u → w2.cell? ⟨w.heap.size, j, none⟩ = some u := fun j u hj => by
    rw [hw2]
    exact (((Below.refl _ (w.alloc (.cells #[.int .i64 a.to, .int .i64 a.eph, .slice A na c, .int .i64 a.mac] 26))).alloc (Nat.le_refl _) (.cells #[.int .i64 b.to, .int .i64 b.eph, .slice B nb d, .int .i64 b.mac] 26)).cell (p := ⟨w.heap.size, j, none⟩) (by simp)).trans (var_at (w := w) (T := 26) (cs := #[.int .i64 a.to, .int .i64 a.eph, .slice A na c, .int .i64 a.mac]) (Below.refl _ _) w.heap.size rfl j u (by simpa using hj)).1
  have g : ∀ j u, [Value.int .i64 b.to, .int .i64 b.eph, .slice B nb d, .int .i64 b.mac][j]? = some u → w2.cell? ⟨w.heap.size + 1, j, none⟩ = some u := fun j u hj => by
    rw [hw2]
    exact (var_at (w := w.alloc (.cells #[.int .i64 a.to, .int .i64 a.eph, .slice A na c, .int .i64 a.mac] 26)) (T := 26) (cs := #[.int .i64 b.to, .int .i64 b.eph, .slice B nb d, .int .i64 b.mac]) (Below.refl _ _) (w.heap.size + 1) (by simp) j u (by simpa using hj)).1
  have f0 := f 0 _ rfl
  have f1 := f 1 _ rfl
  have f2 := f 2 _ rfl
  have f3 := f 3 _ rfl
  have g0 := g 0 _ rfl
  have g1 := g 1 _ rfl
  have g2 := g 2 _ rfl
  have g3 := g 3 _ rfl
  rw [← hw2] at bw HR HS
  have BW := Lib.hid bw
  clear f g bw
  obtain ⟨q, hq⟩ : ∃ q, q = eqlB a b := ⟨_, rfl⟩
  rw [← hq] at HF ⊢
  clear hq
  cases c0 : (a.to == b.to) with
  | false =>
    have HX := Lib.hid (show q = false by rw [HF.out, c0]; rfl)
    go_enter Try.func19, Try.ntmps19
    go_wp2_with fail
    try rw [← hw2]
    clear hw2
    go_ret
    exact ⟨by rw [HX.out]; rfl, BW.out⟩
  | true =>
    cases c1 : (a.eph == b.eph) with
    | false =>
      have HX := Lib.hid (show q = false by rw [HF.out, c0, c1]; rfl)
      go_enter Try.func19, Try.ntmps19
      go_wp2_with fail
      try rw [← hw2]
      clear hw2
      go_ret
      exact ⟨by rw [HX.out]; rfl, BW.out⟩
    | true =>
      cases c2 : decide (a.data = b.data) with
      | false =>
        have HQ := Lib.hid (HE.out.trans c2)
        have HX := Lib.hid (show q = false by rw [HF.out, c0, c1, c2]; rfl)
        go_enter Try.func19, Try.ntmps19
        go_wp2_with fail
        try rw [← hw2]
        clear hw2
        (with_reducible refine (equalQ _ A B na nb c d _ _ _ HR.out HS.out HQ.out).mono ?_); rintro e w3 ⟨rfl, rfl⟩
        go_wp2
        go_ret
        exact ⟨by rw [HX.out]; rfl, BW.out⟩
      | true =>
        have HQ := Lib.hid (HE.out.trans c2)
        cases c3 : (a.mac == b.mac) with
        | false =>
          have HX := Lib.hid (show q = false by rw [HF.out, c0, c1, c2, c3]; rfl)
          go_enter Try.func19, Try.ntmps19
          go_wp2_with fail
          try rw [← hw2]
          clear hw2
          (with_reducible refine (equalQ _ A B na nb c d _ _ _ HR.out HS.out HQ.out).mono ?_); rintro e w3 ⟨rfl, rfl⟩
          go_wp2
          go_ret
          exact ⟨by rw [HX.out]; rfl, BW.out⟩
        | true =>
          have HX := Lib.hid (show q = true by rw [HF.out, c0, c1, c2, c3]; rfl)
          go_enter Try.func19, Try.ntmps19
          go_wp2_with fail
          try rw [← hw2]
          clear hw2
          (with_reducible refine (equalQ _ A B na nb c d _ _ _ HR.out HS.out HQ.out).mono ?_); rintro e w3 ⟨rfl, rfl⟩
          go_wp2
          go_ret
          exact ⟨by rw [HX.out]; rfl, BW.out⟩
/-- A variable of the call's own that was set to the zero box. -/
theorem zero_set {w w' : World} {x0 x1 x2 x3 : Value} {b0 : Nat} (hb : Below w.heap.size w w') (hv : w.heap.size ≤ b0) (h0 : w'.cell? ⟨b0, 0, none⟩ = some x0) (h1 : w'.cell? ⟨b0, 1, none⟩ = some x1) (h2 : w'.cell? ⟨b0, 2, none⟩ = some x2) (h3 : w'.cell? ⟨b0, 3, none⟩ = some x3) {ts : Array Value} (h6 : ts[6]? = some (.pointer (some ⟨b0, 0, none⟩))) (h7 : ts[7]? = some (.bool false)) :
    bodyPost Try.prog Try.f13 (MadeL1 zeroB.dcs (.bool false) w) Exit.ret { tmps := ts, defers := [] } ((((w'.setCell ⟨b0, 0, none⟩ (.int .i64 0)).setCell ⟨b0, 1, none⟩ (.int .i64 0)).setCell ⟨b0, 2, none⟩ (.slice none 0 0)).setCell ⟨b0, 3, none⟩ (.int .i64 0)) := by
  obtain ⟨d0, d1, d2, d3⟩ := set_four (x0 := .int .i64 0) (x1 := .int .i64 0) (x2 := .slice none 0 0) (x3 := .int .i64 0) h0 h1 h2 h3
  refine bodyPost_ret (v := .tuple #[.agg #[.int .i64 0, .int .i64 0, .slice none 0 0, .int .i64 0], .bool false]) (by simp [results, Try.results13, go_sem, h6, h7, d0, d1, d2, d3]) rfl ⟨_, [], rfl, C8b.zero_owns _ _, by simp, ?_⟩
  exact (((hb.setCell hv _).setCell hv _).setCell hv _).setCell hv _
set_option maxHeartbeats 4000000 in
set_option maxRecDepth 100000 in
theorem implSeal (w : World) (p e : Int) (xs : List Int) (v : Value) (h : Rds w w.heap.size (bytesD xs) v) (hx : ∀ x ∈ xs, 0 ≤ x ∧ x ≤ 255) (hw : wt (bytesD xs) ≤ 1048576) (p0 : -9223372036854775808 ≤ p) (p1 : p ≤ 9223372036854775807) :
    Calls Try.prog 13 #[.int .i64 p, .int .i64 e, v] w (MadeL1 (sealB p e xs).dcs (.bool (sealOk p e xs)) w) := by
  obtain ⟨A, c, rfl, hr⟩ := rds_flat h
  rw [wt_bytesD] at hw
  obtain ⟨n, hn⟩ : ∃ n, n = xs.length := ⟨_, rfl⟩
  rw [← hn] at hr hw ⊢
  have HR := Lib.hid hr
  have HX := Lib.hid hx
  have HN := Lib.hid hn
  clear h hr hx hn
  obtain ⟨w1, hw1⟩ : ∃ x, x = w.alloc (.cells #[.int .i64 0, .int .i64 0, .slice none 0 0, .int .i64 0] 26) := ⟨_, rfl⟩
  have b0 : Below w.heap.size w w1 := hw1 ▸ (Below.refl _ _).alloc (Nat.le_refl _) _
  have rv := Fx.var_owns w 26 4 [.int .i64 0, .int .i64 0, .slice none 0 0, .int .i64 0] rfl
  rw [← hw1] at rv
  have nv : [w.heap.size].Nodup := by simp
  by_cases hall : key p ∧ key e ∧ n ≤ 200
  · obtain ⟨hp, he, hl⟩ := hall
    have hok : sealOk p e xs = true := by unfold sealOk; exact decide_eq_true ⟨hp, he, by rw [← HN.out]; exact hl⟩
    have HB := Lib.hid (show sealB p e xs = sealed p e xs by unfold sealB; rw [if_pos hok])
    have HP := Lib.hid hp
    have HK := Lib.hid he
    have HE := Lib.hid (C6.isKey_t he)
    have hk := prv_key hp
    have k0 := hk.1
    have k1 := hk.2
    have p0 := hp.1
    have p1 := hp.2
    have e0 := he.1
    have e1 := he.2
    obtain ⟨q, hq⟩ : ∃ q, q = prv p := ⟨_, rfl⟩
    rw [← hq] at k0 k1
    have HQ := Lib.hid hq
    have hbk := bkey_key q e
    obtain ⟨m, hm⟩ : ∃ m, m = bkey q e := ⟨_, rfl⟩
    rw [← hm] at hbk
    have m0 := hbk.1
    have m1 := hbk.2
    have HM := Lib.hid hm
    rw [hok]
    clear hok hk hq hp he hm hbk
    have hne : (q == 0) = false := by simp; omega
    obtain ⟨z, hz⟩ : ∃ z, z = decide (n ≤ 200) := ⟨_, rfl⟩
    have hzt : z = true := by rw [hz]; exact decide_eq_true hl
    subst hzt
    have HZ := Lib.hid hz
    clear hz
    go_enter Try.func13, Try.ntmps13
    go_wp2_with fail
    rw [← hw1]
    clear hw1
    (with_reducible refine (C6i.implPrv p _ (by omega) (by omega)).mono ?_); rintro ed w2 ⟨rfl, b2⟩
    rw [← HQ.out]
    have B2 := b0.trans (b2.mono b0.size)
    replace rv := owns_below rv b2
    go_wp2_with fail
    (with_reducible refine (C8h.take _ A n c xs true HZ.out (HR.out.on B2) (by omega)).mono ?_); rintro ed w3 ⟨A2, l2, c2, rfl, hl2, hr2, b3⟩
    have hln : l2 = n := by omega
    have hxs : xs.take l2 = xs := by rw [hln, HN.out, List.take_length]
    rw [hxs] at hr2
    have HR2 := Lib.hid hr2
    clear hr2 hl2 hxs
    subst hln
    have B3 := B2.trans (b3.mono B2.size)
    replace rv := owns_below rv b3
    clear b0 b2 b3 B2
    go_wp2_with fail
    (with_reducible refine (implValid _ e).mono ?_); rintro ed w4 ⟨rfl, rfl⟩
    rw [HE.out]
    go_wp2_with fail
    (with_reducible refine (C8h.implKey _ q e (by omega) (by omega) (by omega) (by omega)).mono ?_); rintro ed w2 ⟨rfl, b2⟩
    rw [← HM.out]
    have B2 := B3.trans (b2.mono B3.size)
    replace rv := owns_below rv b2
    have hr2 := HR2.out.on b2
    have hlt2w : w.heap.size < w2.heap.size := var_lt rv
    clear b2 B3
    go_wp2_with fail
    (with_reducible refine (C3c.implEncrypt _ m A2 l2 c2 xs (by omega) (by omega) hr2 HX.out (by omega)).mono ?_); rintro ed w3 ⟨A3, c3, rfl, o3, b3⟩
    replace rv := owns_below rv b3
    have B3 := B2.trans (b3.mono B2.size)
    have hlen : (encL m xs).length = l2 := by rw [enc_len, ← HN.out]
    have hB : OwnsL w3 w2.heap.size (Box.mk p e (encL m xs) 0).dcs [.int .i64 p, .int .i64 e, .slice A3 l2 c3, .int .i64 0] (Value.slice A3 l2 c3).ownBlock.toList := by
      have h := Box.made (b := Box.mk p e (encL m xs) 0) (A := A3) (c := c3) (w := w3) (lo := w2.heap.size) (by rw [show (Box.mk p e (encL m xs) 0).data.length = l2 from hlen]; exact o3)
      rw [show (Box.mk p e (encL m xs) 0).data.length = l2 from hlen] at h
      exact h
    have hbs3 : ∀ b, b ∈ (Value.slice A3 l2 c3).ownBlock.toList → w2.heap.size ≤ b ∧ b < w3.heap.size := ownsL_in _ _ _ hB
    clear B2 b3 o3 hr2
    have r0 := var_load rv nv 0 _ rfl
    have r1 := var_load rv nv 1 _ rfl
    have r2 := var_load rv nv 2 _ rfl
    have r3 := var_load rv nv 3 _ rfl
    have hlt3 : w.heap.size < w3.heap.size := var_lt rv
    have hlt2 : w.heap.size < w2.heap.size := hlt2w
    go_wp2_with fail
    clear r0 r1 r2 r3
    obtain ⟨w4, hw4⟩ : ∃ x, x = w3.alloc (.cells #[.int .i64 p, .int .i64 e, .slice A3 l2 c3, .int .i64 0] 26) := ⟨_, rfl⟩
    have bv := Fx.var_owns w3 26 4 [.int .i64 p, .int .i64 e, .slice A3 l2 c3, .int .i64 0] rfl
    have b4 : Below w3.heap.size w3 w4 := hw4 ▸ (Below.refl _ _).alloc (Nat.le_refl _) _
    rw [← hw4] at bv ⊢
    clear hw4
    have nb : [w3.heap.size].Nodup := by simp
    replace rv := owns_below rv b4
    replace hB := ownsL_below hB b4
    have B4 := B3.trans (b4.mono B3.size)
    clear B3 b4
    (with_reducible refine (C8h.implMac _ m (Box.mk p e (encL m xs) 0) _ (by omega) (by omega) (ownsL_rds _ _ _ hB) ⟨⟨by show _ ≤ p; omega, by show p ≤ _; omega⟩, ⟨by show _ ≤ e; omega, by show e ≤ _; omega⟩, by show (encL m xs).length ≤ _; rw [hlen]; unfold maxLen; omega, enc_ok m xs, ⟨by show _ ≤ (0 : Int); omega, by show (0 : Int) ≤ _; omega⟩⟩ (by rw [Bs.wt_box]; show (encL m xs).length ≤ _; omega)).mono ?_); rintro ed w5 ⟨rfl, b5⟩
    replace rv := owns_below rv b5
    replace bv := owns_below bv b5
    replace hB := ownsL_below hB b5
    have B5 := B4.trans (b5.mono B4.size)
    obtain ⟨z, hz⟩ : ∃ z, z = bmac m (Box.mk p e (encL m xs) 0) := ⟨_, rfl⟩
    rw [← hz]
    have ht : sealed p e xs = Box.mk p e (encL m xs) z := by unfold sealed; rw [hz, HM.out, HQ.out]
    have HT := Lib.hid ht
    have hbox : OwnsL w5 w2.heap.size (Box.mk p e (encL m xs) z).dcs [.int .i64 p, .int .i64 e, .slice A3 l2 c3, .int .i64 z] (Value.slice A3 l2 c3).ownBlock.toList := by
      obtain ⟨A', c', hv, ho, _⟩ := Box.owns hB
      injection hv with _ hv; injection hv with _ hv; injection hv with hv _
      rw [show (Box.mk p e (encL m xs) 0).data.length = l2 from hlen] at ho hv
      rw [← hv] at ho
      have h := Box.made (b := Box.mk p e (encL m xs) z) (A := A3) (c := c3) (w := w5) (lo := w2.heap.size) (by rw [show (Box.mk p e (encL m xs) z).data.length = l2 from hlen]; exact ho)
      rw [show (Box.mk p e (encL m xs) z).data.length = l2 from hlen] at h
      exact h
    have r0 := var_load rv nv 0 _ rfl
    have r1 := var_load rv nv 1 _ rfl
    have r2 := var_load rv nv 2 _ rfl
    have r3 := var_load rv nv 3 _ rfl
    have f0 := var_frozen rv nv 0 _ rfl
    have f1 := var_frozen rv nv 1 _ rfl
    have f2 := var_frozen rv nv 2 _ rfl
    have f3 := var_frozen rv nv 3 _ rfl
    have u0 := var_load bv nb 0 _ rfl
    have u1 := var_load bv nb 1 _ rfl
    have u2 := var_load bv nb 2 _ rfl
    have u3 := var_load bv nb 3 _ rfl
    have v3 := var_frozen bv nb 3 _ rfl
    go_wp2
    rw [← hz, HB.out, HT.out]
    have z0 := (set_block (x := .int .i64 z) (j := 3) (k := 0) (show w3.heap.size ≠ w.heap.size by omega)).trans r0
    have z1 := (set_block (x := .int .i64 z) (j := 3) (k := 1) (show w3.heap.size ≠ w.heap.size by omega)).trans r1
    have z2 := (set_block (x := .int .i64 z) (j := 3) (k := 2) (show w3.heap.size ≠ w.heap.size by omega)).trans r2
    have z3 := (set_block (x := .int .i64 z) (j := 3) (k := 3) (show w3.heap.size ≠ w.heap.size by omega)).trans r3
    obtain ⟨d0, d1, d2, d3⟩ := set_four (x0 := .int .i64 p) (x1 := .int .i64 e) (x2 := .slice A3 l2 c3) (x3 := .int .i64 z) z0 z1 z2 z3
    have hown := hB
    have hbs : ∀ b, b ∈ (Value.slice A3 l2 c3).ownBlock.toList → w2.heap.size ≤ b ∧ b < w3.heap.size := hbs3
    have H1 : OwnsL (((((w5.setCell ⟨w3.heap.size, 3, none⟩ (.int .i64 z)).setCell ⟨w.heap.size, 0, none⟩ (.int .i64 p)).setCell ⟨w.heap.size, 1, none⟩ (.int .i64 e)).setCell ⟨w.heap.size, 2, none⟩ (.slice A3 l2 c3)).setCell ⟨w.heap.size, 3, none⟩ (.int .i64 z)) w.heap.size (Box.mk p e (encL m xs) z).dcs [.int .i64 p, .int .i64 e, .slice A3 l2 c3, .int .i64 z] (Value.slice A3 l2 c3).ownBlock.toList := by
      have h := hbox
      refine ownsL_keep _ _ _ (ownsL_base (by omega) _ _ _ h) (fun b hb => ?_)
      obtain ⟨h1, h2⟩ := hbs b hb
      rw [heap_setCell_other _ _ b _ (by show b ≠ w.heap.size; omega), heap_setCell_other _ _ b _ (by show b ≠ w.heap.size; omega), heap_setCell_other _ _ b _ (by show b ≠ w.heap.size; omega), heap_setCell_other _ _ b _ (by show b ≠ w.heap.size; omega), heap_setCell_other _ _ b _ (by show b ≠ w3.heap.size; omega)]
    refine bodyPost_ret (v := .tuple #[.agg #[.int .i64 p, .int .i64 e, .slice A3 l2 c3, .int .i64 z], .bool true]) (by simp [results, Try.results13, go_sem, d0, d1, d2, d3]) rfl ⟨_, _, rfl, H1, nodup_own _, ?_⟩
    exact ((((B5.setCell (by show w.heap.size ≤ w3.heap.size; omega) _).setCell (Nat.le_refl _) _).setCell (Nat.le_refl _) _).setCell (Nat.le_refl _) _).setCell (Nat.le_refl _) _
  · have hok : sealOk p e xs = false := by unfold sealOk; exact decide_eq_false (fun h => hall ⟨h.1, h.2.1, by rw [HN.out]; exact h.2.2⟩)
    have HB := Lib.hid (show sealB p e xs = zeroB by unfold sealB; rw [hok]; rfl)
    rw [hok]
    clear hok
    obtain ⟨q, hq⟩ : ∃ q, q = prv p := ⟨_, rfl⟩
    have HQ := Lib.hid hq
    obtain ⟨z, hz⟩ : ∃ z, z = decide (n ≤ 200) := ⟨_, rfl⟩
    have HZ := Lib.hid hz
    have hcs : z = false ∨ (z = true ∧ (q == 0) = true) ∨ (z = true ∧ (q == 0) = false ∧ isKey e = false) := by
      by_cases h1 : n ≤ 200
      · rw [hz, decide_eq_true h1]
        by_cases h2 : key p
        · have := (prv_key h2).1
          refine Or.inr (Or.inr ⟨rfl, by simp; omega, C6.isKey_f (fun h3 => hall ⟨h2, h3, h1⟩)⟩)
        · refine Or.inr (Or.inl ⟨rfl, by rw [hq, prv_f h2]; rfl⟩)
      · rw [hz, decide_eq_false h1]; exact Or.inl rfl
    have HC := Lib.hid hcs
    clear hq hz hcs hall
    go_enter Try.func13, Try.ntmps13
    go_wp2_with fail
    rw [← hw1]
    clear hw1
    (with_reducible refine (C6i.implPrv p _ (by omega) (by omega)).mono ?_); rintro ed w2 ⟨rfl, b2⟩
    rw [← HQ.out]
    have B2 := b0.trans (b2.mono b0.size)
    replace rv := owns_below rv b2
    go_wp2_with fail
    (with_reducible refine (C8h.take _ A n c xs z HZ.out (HR.out.on B2) (by omega)).mono ?_); rintro ed w3 ⟨A3, m, c3, rfl, -, -, b3⟩
    have B3 := B2.trans (b3.mono B2.size)
    replace rv := owns_below rv b3
    have r0 := var_load rv nv 0 _ rfl
    have r1 := var_load rv nv 1 _ rfl
    have r2 := var_load rv nv 2 _ rfl
    have r3 := var_load rv nv 3 _ rfl
    have f0 := var_frozen rv nv 0 _ rfl
    have f1 := var_frozen rv nv 1 _ rfl
    have f2 := var_frozen rv nv 2 _ rfl
    have f3 := var_frozen rv nv 3 _ rfl
    clear b0 b2 b3 B2
    rcases HC.out with rfl | ⟨rfl, h2⟩ | ⟨rfl, h2, h3⟩
    · go_wp2
      rw [HB.out]
      exact zero_set B3 (Nat.le_refl _) r0 r1 r2 r3 rfl rfl
    · go_wp2
      rw [HB.out]
      exact zero_set B3 (Nat.le_refl _) r0 r1 r2 r3 rfl rfl
    · have H3 := Lib.hid h3
      clear h3
      go_wp2_with fail
      (with_reducible refine (implValid _ e).mono ?_); rintro ed w4 ⟨rfl, rfl⟩
      rw [H3.out]
      go_wp2
      rw [HB.out]
      exact zero_set B3 (Nat.le_refl _) r0 r1 r2 r3 rfl rfl
end Go.Proofs.Ytaodpiikpojikaa.C8i
