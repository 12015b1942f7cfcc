/-
  Contracts of chapter 8's functions over boxes, of the model: SealBox, OpenBox, FindBox, SealBoxes, EqualBoxes.
-/
import Derived.Test.YtaodpiikpojikaaC8
namespace Go.Proofs.Ytaodpiikpojikaa.C8b
open Go.ChangeShapes Go.WideShapes Go.ChangeAt Go.RowKit Go.Deep
open S0 S1 S9 S10 Ty Dm Bx Fx C3 M3 M8 M10
set_option linter.unusedVariables false
theorem isKey_of {k : Int} (h : key k) : isKey k = true := C6.isKey_t h
theorem zero_owns (w : World) (lo : Nat) : OwnsL w lo zeroB.dcs [.int .i64 0, .int .i64 0, .slice none 0 0, .int .i64 0] [] := by
  have h := no_bytes w lo 5 .u8
  unfold Box.dcs zeroB
  simp only [OwnsL]
  exact ⟨_, _, [], [], rfl, by simp [Owns], ⟨_, _, [], [], rfl, by simp [Owns], ⟨_, _, [], [], rfl, h, ⟨_, _, [], [], rfl, by simp [Owns], ⟨rfl, rfl⟩, rfl⟩, rfl⟩, rfl⟩, rfl⟩
theorem zero_ret (w : World) {ts : Array Value} (b0 : Below w.heap.size w (w.alloc (.cells #[.int .i64 0, .int .i64 0, .slice none 0 0, .int .i64 0] 26))) (h6 : ts[6]? = some (.pointer (some ⟨w.heap.size, 0, none⟩))) (h7 : ts[7]? = some (.bool false)) :
    bodyPost Try.prog Try.f20 (MadeL1 zeroB.dcs (.bool false) w) Exit.ret { tmps := ts, defers := [] } (w.alloc (.cells #[.int .i64 0, .int .i64 0, .slice none 0 0, .int .i64 0] 26)) := by
  have d := fun j u hj => (S10.var_at (w := w) (cs := #[.int .i64 0, .int .i64 0, .slice none 0 0, .int .i64 0]) (T := 26) (Below.refl _ _) w.heap.size rfl j u hj).1
  have d0 := d 0 _ rfl
  have d1 := d 1 _ rfl
  have d2 := d 2 _ rfl
  have d3 := d 3 _ rfl
  refine bodyPost_ret (v := .tuple #[.agg #[.int .i64 0, .int .i64 0, .slice none 0 0, .int .i64 0], .bool false]) (by simp [results, Try.results20, go_sem, h6, h7, d0, d1, d2, d3]) rfl ⟨_, [], rfl, zero_owns _ _, by simp, b0⟩
set_option maxHeartbeats 4000000 in
set_option maxRecDepth 100000 in
theorem specSeal (w : World) (p e : Int) (xs : List Int) (v : Value) (h : Rds w w.heap.size (bytesD xs) v) (hx : ∀ x ∈ xs, 0 ≤ x ∧ x ≤ 255) (hw : wt (bytesD xs) ≤ 1048576) :
    Calls Try.prog 20 #[.int .i64 p, .int .i64 e, v] w (MadeL1 (sealB p e xs).dcs (.bool (sealOk p e xs)) w) := by
  obtain ⟨A, c, rfl, hr⟩ := rds_flat h
  rw [wt_bytesD] at hw
  obtain ⟨n, hn⟩ : ∃ n, n = xs.length := ⟨_, rfl⟩
  rw [← hn] at hr hw ⊢
  have HR := Lib.hid hr
  have HX := Lib.hid hx
  have HN := Lib.hid hn
  clear h hr hx hn
  have b0 : Below w.heap.size w (w.alloc (.cells #[.int .i64 0, .int .i64 0, .slice none 0 0, .int .i64 0] 26)) := (Below.refl _ _).alloc (Nat.le_refl _) _
  by_cases hp : key p
  · by_cases he : key e
    · by_cases hl : n ≤ 200
      · have hok : sealOk p e xs = true := by unfold sealOk; exact decide_eq_true ⟨hp, he, by rw [← HN.out]; exact hl⟩
        have HB := Lib.hid (show sealB p e xs = sealed p e xs by unfold sealB; rw [if_pos hok])
        have HP := Lib.hid hp
        have HK := Lib.hid he
        have HE := Lib.hid (C6.isKey_t he)
        have hk := prv_key hp
        have k0 := hk.1
        have k1 := hk.2
        have p0 := hp.1
        have p1 := hp.2
        have e0 := he.1
        have e1 := he.2
        obtain ⟨q, hq⟩ : ∃ q, q = prv p := ⟨_, rfl⟩
        rw [← hq] at k0 k1
        have HQ := Lib.hid hq
        have hbk := bkey_key q e
        obtain ⟨m, hm⟩ : ∃ m, m = bkey q e := ⟨_, rfl⟩
        rw [← hm] at hbk
        have m0 := hbk.1
        have m1 := hbk.2
        have HM := Lib.hid hm
        rw [hok]
        clear hok hk hq hp he hm hbk
        have hne : (q == 0) = false := by simp; omega
        go_enter Try.func20, Try.ntmps20
        go_wp2_with fail
        (with_reducible refine (C6.specPrv p _).mono ?_); rintro ed w2 ⟨rfl, rfl⟩
        rw [← HQ.out]
        go_wp2_with fail
        (with_reducible refine (specValid _ e).mono ?_); rintro ed w2 ⟨rfl, rfl⟩
        rw [HE.out]
        go_wp2_with fail
        (with_reducible refine (C8.specKey _ q e (by omega) (by omega) (by omega) (by omega)).mono ?_); rintro ed w2 ⟨rfl, b2⟩
        rw [← HM.out]
        have B2 := b0.trans (b2.mono b0.size)
        have hr2 := HR.out.on B2
        obtain ⟨w1, hw1⟩ : ∃ x, x = w.alloc (.cells #[.int .i64 0, .int .i64 0, .slice none 0 0, .int .i64 0] 26) := ⟨_, rfl⟩
        have rv := Fx.var_owns w 26 4 [.int .i64 0, .int .i64 0, .slice none 0 0, .int .i64 0] rfl
        rw [← hw1] at rv b2
        have nv : [w.heap.size].Nodup := by simp
        replace rv := owns_below rv b2
        have hlt2w : w.heap.size < w2.heap.size := var_lt rv
        clear b2 b0 hw1
        go_wp2_with fail
        (with_reducible refine (C3d.specEncrypt _ m A n c xs (by omega) (by omega) hr2 HX.out (by omega)).mono ?_); rintro ed w3 ⟨A3, c3, rfl, o3, b3⟩
        replace rv := owns_below rv b3
        have B3 := B2.trans (b3.mono B2.size)
        have hlen : (encL m xs).length = n := by rw [enc_len, ← HN.out]
        have hB : OwnsL w3 w2.heap.size (Box.mk p e (encL m xs) 0).dcs [.int .i64 p, .int .i64 e, .slice A3 n c3, .int .i64 0] (Value.slice A3 n c3).ownBlock.toList := by
          have h := Box.made (b := Box.mk p e (encL m xs) 0) (A := A3) (c := c3) (w := w3) (lo := w2.heap.size) (by rw [show (Box.mk p e (encL m xs) 0).data.length = n from hlen]; exact o3)
          rw [show (Box.mk p e (encL m xs) 0).data.length = n from hlen] at h
          exact h
        have hbs3 : ∀ b, b ∈ (Value.slice A3 n c3).ownBlock.toList → w2.heap.size ≤ b ∧ b < w3.heap.size := ownsL_in _ _ _ hB
        clear B2 b3 o3 hr2
        have r0 := var_load rv nv 0 _ rfl
        have r1 := var_load rv nv 1 _ rfl
        have r2 := var_load rv nv 2 _ rfl
        have r3 := var_load rv nv 3 _ rfl
        have hlt3 : w.heap.size < w3.heap.size := var_lt rv
        have hlt2 : w.heap.size < w2.heap.size := hlt2w
        go_wp2_with fail
        clear r0 r1 r2 r3
        obtain ⟨w4, hw4⟩ : ∃ x, x = w3.alloc (.cells #[.int .i64 p, .int .i64 e, .slice A3 n c3, .int .i64 0] 26) := ⟨_, rfl⟩
        have bv := Fx.var_owns w3 26 4 [.int .i64 p, .int .i64 e, .slice A3 n c3, .int .i64 0] rfl
        have b4 : Below w3.heap.size w3 w4 := hw4 ▸ (Below.refl _ _).alloc (Nat.le_refl _) _
        rw [← hw4] at bv ⊢
        clear hw4
        have nb : [w3.heap.size].Nodup := by simp
        replace rv := owns_below rv b4
        replace hB := ownsL_below hB b4
        have B4 := B3.trans (b4.mono B3.size)
        clear B3 b4
        (with_reducible refine (C8.specMac _ m (Box.mk p e (encL m xs) 0) _ (by omega) (by omega) (ownsL_rds _ _ _ hB) ⟨⟨by show _ ≤ p; omega, by show p ≤ _; omega⟩, ⟨by show _ ≤ e; omega, by show e ≤ _; omega⟩, by show (encL m xs).length ≤ _; rw [hlen]; unfold maxLen; omega, enc_ok m xs, ⟨by show _ ≤ (0 : Int); omega, by show (0 : Int) ≤ _; omega⟩⟩ (by rw [Bs.wt_box]; show (encL m xs).length ≤ _; omega)).mono ?_); rintro ed w5 ⟨rfl, b5⟩
        replace rv := owns_below rv b5
        replace bv := owns_below bv b5
        replace hB := ownsL_below hB b5
        have B5 := B4.trans (b5.mono B4.size)
        obtain ⟨z, hz⟩ : ∃ z, z = bmac m (Box.mk p e (encL m xs) 0) := ⟨_, rfl⟩
        rw [← hz]
        have ht : sealed p e xs = Box.mk p e (encL m xs) z := by unfold sealed; rw [hz, HM.out, HQ.out]
        have HT := Lib.hid ht
        have hbox : OwnsL w5 w2.heap.size (Box.mk p e (encL m xs) z).dcs [.int .i64 p, .int .i64 e, .slice A3 n c3, .int .i64 z] (Value.slice A3 n c3).ownBlock.toList := by
          obtain ⟨A', c', hv, ho, _⟩ := Box.owns hB
          injection hv with _ hv; injection hv with _ hv; injection hv with hv _
          rw [show (Box.mk p e (encL m xs) 0).data.length = n from hlen] at ho hv
          rw [← hv] at ho
          have h := Box.made (b := Box.mk p e (encL m xs) z) (A := A3) (c := c3) (w := w5) (lo := w2.heap.size) (by rw [show (Box.mk p e (encL m xs) z).data.length = n from hlen]; exact ho)
          rw [show (Box.mk p e (encL m xs) z).data.length = n from hlen] at h
          exact h
        have r0 := var_load rv nv 0 _ rfl
        have r1 := var_load rv nv 1 _ rfl
        have r2 := var_load rv nv 2 _ rfl
        have r3 := var_load rv nv 3 _ rfl
        have f0 := var_frozen rv nv 0 _ rfl
        have f1 := var_frozen rv nv 1 _ rfl
        have f2 := var_frozen rv nv 2 _ rfl
        have f3 := var_frozen rv nv 3 _ rfl
        have u0 := var_load bv nb 0 _ rfl
        have u1 := var_load bv nb 1 _ rfl
        have u2 := var_load bv nb 2 _ rfl
        have u3 := var_load bv nb 3 _ rfl
        have v3 := var_frozen bv nb 3 _ rfl
        go_wp2
        rw [← hz, HB.out, HT.out]
        have z0 := (set_block (x := .int .i64 z) (j := 3) (k := 0) (show w3.heap.size ≠ w.heap.size by omega)).trans r0
        have z1 := (set_block (x := .int .i64 z) (j := 3) (k := 1) (show w3.heap.size ≠ w.heap.size by omega)).trans r1
        have z2 := (set_block (x := .int .i64 z) (j := 3) (k := 2) (show w3.heap.size ≠ w.heap.size by omega)).trans r2
        have z3 := (set_block (x := .int .i64 z) (j := 3) (k := 3) (show w3.heap.size ≠ w.heap.size by omega)).trans r3
        obtain ⟨d0, d1, d2, d3⟩ := set_four (x0 := .int .i64 p) (x1 := .int .i64 e) (x2 := .slice A3 n c3) (x3 := .int .i64 z) z0 z1 z2 z3
        have hown := hB
        have hbs : ∀ b, b ∈ (Value.slice A3 n c3).ownBlock.toList → w2.heap.size ≤ b ∧ b < w3.heap.size := hbs3
        have H1 : OwnsL (((((w5.setCell ⟨w3.heap.size, 3, none⟩ (.int .i64 z)).setCell ⟨w.heap.size, 0, none⟩ (.int .i64 p)).setCell ⟨w.heap.size, 1, none⟩ (.int .i64 e)).setCell ⟨w.heap.size, 2, none⟩ (.slice A3 n c3)).setCell ⟨w.heap.size, 3, none⟩ (.int .i64 z)) w.heap.size (Box.mk p e (encL m xs) z).dcs [.int .i64 p, .int .i64 e, .slice A3 n c3, .int .i64 z] (Value.slice A3 n c3).ownBlock.toList := by
          have h := hbox
          refine ownsL_keep _ _ _ (ownsL_base (by omega) _ _ _ h) (fun b hb => ?_)
          obtain ⟨h1, h2⟩ := hbs b hb
          rw [heap_setCell_other _ _ b _ (by show b ≠ w.heap.size; omega), heap_setCell_other _ _ b _ (by show b ≠ w.heap.size; omega), heap_setCell_other _ _ b _ (by show b ≠ w.heap.size; omega), heap_setCell_other _ _ b _ (by show b ≠ w.heap.size; omega), heap_setCell_other _ _ b _ (by show b ≠ w3.heap.size; omega)]
        refine bodyPost_ret (v := .tuple #[.agg #[.int .i64 p, .int .i64 e, .slice A3 n c3, .int .i64 z], .bool true]) (by simp [results, Try.results20, go_sem, d0, d1, d2, d3]) rfl ⟨_, _, rfl, H1, nodup_own _, ?_⟩
        exact ((((B5.setCell (by show w.heap.size ≤ w3.heap.size; omega) _).setCell (Nat.le_refl _) _).setCell (Nat.le_refl _) _).setCell (Nat.le_refl _) _).setCell (Nat.le_refl _) _
      · have hok : sealOk p e xs = false := by unfold sealOk; exact decide_eq_false (fun h => hl (by rw [HN.out]; exact h.2.2))
        have HB := Lib.hid (show sealB p e xs = zeroB by unfold sealB; rw [hok]; rfl)
        have HE := Lib.hid (isKey_of he)
        have hk := prv_key hp
        have k0 := hk.1
        obtain ⟨q, hq⟩ : ∃ q, q = prv p := ⟨_, rfl⟩
        rw [← hq] at k0
        have HQ := Lib.hid hq
        rw [hok]
        clear hok hk hq hp he
        have hne : (q == 0) = false := by simp; omega
        go_enter Try.func20, Try.ntmps20
        go_wp2_with fail
        (with_reducible refine (C6.specPrv p _).mono ?_); rintro ed w2 ⟨rfl, rfl⟩
        rw [← HQ.out]
        go_wp2_with fail
        (with_reducible refine (specValid _ e).mono ?_); rintro ed w2 ⟨rfl, rfl⟩
        rw [HE.out]
        go_wp2
        rw [HB.out]
        exact zero_ret _ b0 rfl rfl
    · have hok : sealOk p e xs = false := by unfold sealOk; exact decide_eq_false (fun h => he h.2.1)
      have HB := Lib.hid (show sealB p e xs = zeroB by unfold sealB; rw [hok]; rfl)
      have HE := Lib.hid (C6.isKey_f he)
      have hk := prv_key hp
      have k0 := hk.1
      obtain ⟨q, hq⟩ : ∃ q, q = prv p := ⟨_, rfl⟩
      rw [← hq] at k0
      have HQ := Lib.hid hq
      rw [hok]
      clear hok hk hq hp he
      have hne : (q == 0) = false := by simp; omega
      go_enter Try.func20, Try.ntmps20
      go_wp2_with fail
      (with_reducible refine (C6.specPrv p _).mono ?_); rintro ed w2 ⟨rfl, rfl⟩
      rw [← HQ.out]
      go_wp2_with fail
      (with_reducible refine (specValid _ e).mono ?_); rintro ed w2 ⟨rfl, rfl⟩
      rw [HE.out]
      go_wp2
      rw [HB.out]
      exact zero_ret _ b0 rfl rfl
  · have hok : sealOk p e xs = false := by unfold sealOk; exact decide_eq_false (fun h => hp h.1)
    have HB := Lib.hid (show sealB p e xs = zeroB by unfold sealB; rw [hok]; rfl)
    have HQ := Lib.hid (prv_f hp)
    rw [hok]
    clear hok hp
    go_enter Try.func20, Try.ntmps20
    go_wp2_with fail
    (with_reducible refine (C6.specPrv p _).mono ?_); rintro ed w2 ⟨rfl, rfl⟩
    rw [HQ.out]
    go_wp2
    rw [HB.out]
    exact zero_ret _ b0 rfl rfl
end Go.Proofs.Ytaodpiikpojikaa.C8b
