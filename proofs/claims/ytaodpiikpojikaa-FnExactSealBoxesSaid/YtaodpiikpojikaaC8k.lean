/-
  Contracts of chapter 8's functions over boxes, of the program: FindBox, SealBoxes.
-/
import Derived.Test.YtaodpiikpojikaaC8j
import Derived.Test.YtaodpiikpojikaaC8d
import Derived.Test.YtaodpiikpojikaaC8f
namespace Go.Proofs.Ytaodpiikpojikaa.C8k
open Go.ChangeShapes Go.WideShapes Go.ChangeAt Go.RowKit Go.Deep
open S0 S1 S9 S10 Ty Dm Bx Fx C3 M3 M8 M10
set_option linter.unusedVariables false
set_option maxHeartbeats 4000000 in
set_option maxRecDepth 100000 in
theorem implFind (w : World) (l : List Box) (k : Int) (v : Value) (h : Rds w w.heap.size (boxesD l) v) (ho : ∀ b ∈ l, b.ok) (hw : wt (boxesD l) ≤ 1048576) :
    Calls Try.prog 17 #[v, .int .i64 k] w (MadeD1 (bytesD (findB k l)) (.bool (findOk k l)) w) := by
  obtain ⟨A, c, rfl⟩ := Bs.boxes_slice h
  have hsm : l.length ≤ 1048576 ∧ ∀ b ∈ l, wtL b.dcs ≤ 1048576 := by
    rw [Bs.wt_boxes] at hw
    exact ⟨by omega, fun b hb => by rw [Bs.wt_box]; have := wt_each b hb; omega⟩
  obtain ⟨n, hn⟩ : ∃ n, n = l.length := ⟨_, rfl⟩
  have hn2 := hsm.1
  rw [← hn] at hn2 ⊢
  have HR := Lib.hid h
  have HO := Lib.hid ho
  have HS := Lib.hid hsm.2
  have HN := Lib.hid hn
  clear h ho hsm hw hn
  go_enter Try.func17, Try.ntmps17
  go_wp2
  go_loopw [12] (fun i wr => ∃ j : Nat, j ≤ n ∧ i = .int .i64 j ∧ findOk k (l.drop j) = findOk k l ∧ findB k (l.drop j) = findB k l ∧ Below w.heap.size w wr) (fun i _ => n - (intOf i).toNat)
  case atStart => exact ⟨0, by omega, rfl, by simp, by simp, Below.refl _ _⟩
  case round =>
    obtain ⟨j, hj, rfl, h1, h2, hB⟩ := hrel
    have H1 := Lib.hid h1
    have H2 := Lib.hid h2
    clear h1 h2
    by_cases hlt : j < n
    · obtain ⟨b, hb⟩ := get_some l (i := j) (by rw [← HN.out]; exact hlt)
      have hws := hB.size
      obtain ⟨g, off, B, d, rfl, hg, c0, c1, c2, c3, rB⟩ := Bs.boxes_at (rds_keep hB.block _ _ HR.out) hb
      have HBB := Lib.hid hb
      have hm := List.mem_of_getElem? hb
      have HOK := Lib.hid (HO.out b hm)
      have HWT := Lib.hid (HS.out b hm)
      have RL := Lib.hid (show RdsL wr wr.heap.size b.dcs [.int .i64 b.to, .int .i64 b.eph, .slice B b.data.length d, .int .i64 b.mac] from C8d.box_rds (rB.more hws))
      have bl : Below wr.heap.size wr (wr.alloc (.cells #[.int .i64 b.to, .int .i64 b.eph, .slice B b.data.length d, .int .i64 b.mac] 26)) := (Below.refl _ _).alloc (Nat.le_refl _) _
      have RL2 := Lib.hid (rdsL_on RL.out bl)
      have BL := hB.trans (bl.mono hws)
      have hwl := BL.size
      clear hb hm rB bl
      by_cases hop : openOk k b = true
      · obtain ⟨e1, e2⟩ := C8d.find_hit HBB.out hop
        rw [H1.out] at e1
        rw [H2.out] at e2
        have E1 := Lib.hid e1
        have E2 := Lib.hid e2
        have HP := Lib.hid hop
        clear e1 e2 hop
        go_wp2_with fail
        (with_reducible refine (C8j.implOpen _ k b _ RL2.out HOK.out HWT.out).mono ?_); rintro e w2 ⟨v2, s2, rfl, o2, n2, b2⟩
        rw [HP.out]
        have BW := BL.trans (b2.mono hwl)
        go_wp2
        rw [E1.out, E2.out]
        refine bodyPost_ret (v := .tuple #[v2, .bool true]) (by simp [results, Try.results17, go_sem]) rfl ⟨_, s2, rfl, owns_base hwl _ _ _ o2, n2, BW⟩
      · have hop2 : openOk k b = false := by simpa using hop
        obtain ⟨e1, e2⟩ := C8d.find_skip HBB.out hop2
        rw [H1.out] at e1
        rw [H2.out] at e2
        have E1 := Lib.hid e1
        have E2 := Lib.hid e2
        have HP := Lib.hid hop2
        clear e1 e2 hop hop2
        go_wp2_with fail
        (with_reducible refine (C8j.implOpen _ k b _ RL2.out HOK.out HWT.out).mono ?_); rintro e w2 ⟨v2, s2, rfl, o2, n2, b2⟩
        rw [HP.out]
        have BW := BL.trans (b2.mono hwl)
        clear o2 n2 b2
        go_wp2
        go_roundw
        case rel => exact ⟨j + 1, by omega, by go_num, E1.out.symm, E2.out.symm, BW⟩
        case measure => simp [intOf]; omega
    · have hd : decide (j < n) = false := by simp; omega
      have hjn : j = n := by omega
      have e : l.drop j = [] := by rw [hjn, HN.out]; simp
      have h1 := H1.out
      have h2 := H2.out
      rw [e] at h1 h2
      simp only [findOk, findB] at h1 h2
      have E1 := Lib.hid h1
      have E2 := Lib.hid h2
      clear h1 h2 e hjn
      go_wp2
      rw [← E1.out, ← E2.out]
      have ho := own_lit wr #[] 0 wr.heap.size 5 (Nat.le_refl _) rfl (by unfold maxLen; omega)
      refine bodyPost_ret (v := .tuple #[.slice (some ⟨wr.heap.size, 0, none⟩) 0 0, .bool false]) (by simp [results, Try.results17, go_sem]) rfl ⟨_, _, rfl, owns_flat (own_base ho hB.size), nodup_own _, hB.alloc hB.size _⟩
set_option maxHeartbeats 4000000 in
set_option maxRecDepth 100000 in
theorem implSeals (w : World) (ps : List Int) (e : Int) (xs : List Int) (u v : Value) (g : Rds w w.heap.size (numsD ps) u) (h : Rds w w.heap.size (bytesD xs) v) (hx : ∀ x ∈ xs, 0 ≤ x ∧ x ≤ 255) (hp : wt (numsD ps) ≤ 1048576) (hw : wt (bytesD xs) ≤ 1048576) (hps : ∀ x ∈ ps, -9223372036854775808 ≤ x ∧ x ≤ 9223372036854775807) (e0 : -9223372036854775808 ≤ e) (e1 : e ≤ 9223372036854775807) :
    Calls Try.prog 16 #[u, .int .i64 e, v] w (MadeD1 (boxesD (seals ps e xs)) (.bool (sealsOk e xs ps 0)) w) := by
  obtain ⟨A, c, rfl, hr⟩ := rds_flat g
  obtain ⟨i0, hi, hz0, hz1, hz2⟩ := info_parts Bs.box_info
  rw [wt_numsD] at hp
  obtain ⟨n, hn⟩ : ∃ n, n = ps.length := ⟨_, rfl⟩
  rw [← hn] at hr hp ⊢
  obtain ⟨L, hL⟩ : ∃ L, L = sealsB e xs ps 0 := ⟨_, rfl⟩
  have hLl : L.length = n := by rw [hL, sealsB_len, hn]
  have HPS := Lib.hid hps
  have HR := Lib.hid hr
  clear hps
  have HV := Lib.hid h
  have HX := Lib.hid hx
  have HN := Lib.hid hn
  have HL := Lib.hid hL
  have HLL := Lib.hid hLl
  have HW := Lib.hid hw
  clear g h hx hr hn hL hLl hw
  have hb0 : Below w.heap.size w (w.alloc (.cells #[] 26)) := (Below.refl _ _).alloc (Nat.le_refl _) _
  have ho0 : Owns (w.alloc (.cells #[] 26)) w.heap.size (.row 26 4 0 []) (.slice (some ⟨w.heap.size, 0, none⟩) 0 0) [w.heap.size] := by
    have h := w.ownsRow_lit (base := w.heap.size) (size := 4) (e := 26) #[] 0 (Nat.le_refl _) (by unfold maxLen; omega) (by simp)
    simp only [Owns]
    exact ⟨[], [], by simpa using h, by simp [OwnsL], by simp [Value.ownBlock]⟩
  go_enter Try.func16, Try.ntmps16
  go_wp2
  go_loopw [8, 16] (fun q i wr => ∃ (j : Nat) (Aq : Option Addr) (cq : Nat) (bs : List Nat), j ≤ n ∧ i = .int .i64 j ∧ q = .slice Aq j cq ∧ Owns wr w.heap.size (.row 26 4 j ((L.take j).flatMap Box.dcs)) (.slice Aq j cq) bs ∧ bs.Nodup ∧ sealsOk e xs ps 0 = sealsOk e xs (ps.drop j) j ∧ Below w.heap.size w wr) (fun _ i _ => n - (intOf i).toNat)
  case atStart => exact ⟨0, _, _, [w.heap.size], by omega, rfl, rfl, by simpa using ho0, by simp, by simp, hb0⟩
  case round =>
    obtain ⟨j, Aq, cq, bs, hj, rfl, rfl, ho, hnd, hs, hB⟩ := hrel
    clear ho0 hb0
    have H1 := Lib.hid hs
    clear hs
    by_cases hlt : j < n
    · obtain ⟨p, hpj⟩ : ∃ p, ps[j]? = some p := ⟨ps[j]'(by rw [← HN.out]; exact hlt), List.getElem?_eq_getElem _⟩
      have hws := hB.size
      have HPP := Lib.hid (HPS.out p (List.mem_of_getElem? hpj))
      obtain ⟨b, off, rfl, hbl, hcell⟩ := (HR.out.below hB).at_ hlt
      rw [List.getD_eq_getElem?_getD, hpj] at hcell
      simp only [Option.getD_some] at hcell
      have hd := C8f.sealsOk_drop e xs ps 0 j p hpj
      rw [Nat.zero_add, Nat.zero_add] at hd
      have hget := C8f.sealsB_get e xs ps 0 j p hpj
      rw [← HL.out, Nat.zero_add] at hget
      obtain ⟨f, hf⟩ : ∃ f, f = wrap64 (e + (j : Int)) := ⟨_, rfl⟩
      rw [← hf] at hd hget
      have HD := Lib.hid hd
      have HG := Lib.hid hget
      have HFF := Lib.hid hf
      have OO := Lib.hid ho
      have RV := Lib.hid (rds_on HV.out hB)
      clear hd hget hf hpj ho
      go_wp2_with fail
      rw [← HFF.out]
      (with_reducible refine (C8i.implSeal _ p f xs _ RV.out HX.out HW.out HPP.out.1 HPP.out.2).mono ?_); rintro ed w2 ⟨vs, s2, rfl, o2, n2, b2⟩
      have BW := hB.trans (b2.mono hws)
      by_cases hok : sealOk p f xs = true
      · have hX : sealB p f xs = sealed p f xs := by unfold sealB; rw [if_pos hok]
        rw [hX] at o2
        obtain ⟨X, hXX⟩ : ∃ X, X = sealed p f xs := ⟨_, rfl⟩
        rw [← hXX] at o2 HG
        have hs := H1.out
        rw [HD.out, hok, Bool.true_and] at hs
        have H2 := Lib.hid hs
        obtain ⟨A2, c2, rfl, _, _⟩ := Box.owns o2
        have HNX := Lib.hid (C8f.take_next HG.out)
        rw [hok]
        have OO2 := owns_below OO.out b2
        have hdis : ∀ y, y ∈ bs → y ∉ s2 := fun y hy hy2 => by
          have h1 := (owns_in _ _ _ OO.out y hy).2
          have h2 := (ownsL_in _ _ _ o2 y hy2).1
          omega
        obtain ⟨m, hm⟩ : ∃ m, m = X.data.length := ⟨_, rfl⟩
        rw [← hm] at o2 ⊢
        have bl : Below w2.heap.size w2 ((w2.alloc (.cells #[.int .i64 X.to, .int .i64 X.eph, .slice A2 m c2, .int .i64 X.mac] 26)).alloc (.cells #[.int .i64 X.to, .int .i64 X.eph, .slice A2 m c2, .int .i64 X.mac] 26)) := ((Below.refl _ _).alloc (Nat.le_refl _) _).alloc (by simp) _
        have OO3 := Lib.hid (owns_below OO2 bl)
        have O3 := Lib.hid (ownsL_below o2 bl)
        have BW3 := Lib.hid (BW.trans (bl.mono BW.size))
        have s1 : (w2.alloc (.cells #[.int .i64 X.to, .int .i64 X.eph, .slice A2 m c2, .int .i64 X.mac] 26)).heap.size = w2.heap.size + 1 := by simp
        have NC := Lib.hid (fun jj uu (hj : [Value.int .i64 X.to, .int .i64 X.eph, .slice A2 m c2, .int .i64 X.mac][jj]? = some uu) => (var_at (w := w2.alloc (.cells #[.int .i64 X.to, .int .i64 X.eph, .slice A2 m c2, .int .i64 X.mac] 26)) (T := 26) (cs := #[.int .i64 X.to, .int .i64 X.eph, .slice A2 m c2, .int .i64 X.mac]) (Below.refl _ _) (w2.heap.size + 1) s1 jj uu (by simpa using hj)).1)
        clear OO2 o2 bl s1 hs hm hok hX hXX BW b2 hws
        go_wp2_with (at_builtin; refine Ap.wpList_app_one _ rfl _ _ 32 rfl w.heap.size 26 i0 (.agg #[.int .i64 0, .int .i64 0, .slice none 0 0, .int .i64 0]) 4 48 Try.underlying32 hi hz0 hz1 hz2 rfl (by decide) (.slice Aq j cq) j _ bs rfl OO3.out hnd _ 1 [.int .i64 X.to, .int .i64 X.eph, .slice A2 m c2, .int .i64 X.mac] rfl rfl NC.out (by intro uu hu; simp at hu; rcases hu with rfl | rfl | rfl | rfl <;> rfl) wr.heap.size X.dcs s2 O3.out n2 hdis hB.size (by unfold maxLen; omega) (by omega) BW3.out.size ?_; intro v3 bs3 w3 o3 n3 t3)
        have hown : ∀ y, y ∈ (Value.slice Aq j cq).ownBlock.toList → w.heap.size ≤ y := fun y hy => by
          obtain ⟨vs5, b5, h1, _, _⟩ := owns_row OO.out
          cases hv : (Value.slice Aq j cq).ownBlock with
          | none => rw [hv] at hy; cases hy
          | some k =>
            rw [hv] at hy
            obtain rfl : y = k := by simpa using hy
            exact (h1.lt y hv).1
        have BW4 := Lib.hid (below_turned BW3.out t3 hown)
        obtain ⟨A3, c3, rfl⟩ : ∃ A3 c3, v3 = .slice A3 (j + 1) c3 := by
          obtain ⟨vs5, b5, h1, _, _⟩ := owns_row o3
          exact own_nil_form h1
        rw [← HNX.out] at o3
        have O4 := Lib.hid o3
        clear o3 t3 hown
        go_roundw
        case rel => exact ⟨j + 1, A3, c3, bs3, by omega, by go_num, rfl, O4.out, n3, H2.out, BW4.out⟩
        case measure => simp [intOf]; omega
      · have hok2 : sealOk p f xs = false := by simpa using hok
        have hs := H1.out
        rw [HD.out, hok2, Bool.false_and] at hs
        have hX : sealB p f xs = zeroB := by unfold sealB; rw [hok2]; rfl
        rw [hX] at o2
        obtain ⟨A2, c2, rfl, _, _⟩ := Box.owns o2
        have H2 := Lib.hid hs
        have H3 := Lib.hid (show seals ps e xs = [] by unfold seals; rw [hs]; rfl)
        rw [hok2]
        obtain ⟨m, hm⟩ : ∃ m, m = zeroB.data.length := ⟨_, rfl⟩
        rw [← hm]
        have bl := Lib.hid (BW.trans (((Below.refl w2.heap.size w2).alloc (Nat.le_refl _) (.cells #[.int .i64 zeroB.to, .int .i64 zeroB.eph, .slice A2 m c2, .int .i64 zeroB.mac] 26)).mono BW.size))
        clear o2 hs hX hok hok2 BW b2 hm
        go_wp2
        rw [H2.out, H3.out]
        refine bodyPost_ret (v := .tuple #[.slice (some ⟨w2.heap.size + 1, 0, none⟩) 0 0, .bool false]) (by simp [results, Try.results16, go_sem]) rfl (C8f.none_boxes bl.out (by simp))
    · have hd : decide (j < n) = false := by simp; omega
      have hjn : j = n := by omega
      have hs := H1.out
      rw [hjn, show ps.drop n = [] by rw [HN.out]; simp] at hs
      simp only [sealsOk] at hs
      have HS := Lib.hid hs
      have HT := Lib.hid (show seals ps e xs = L by unfold seals; rw [if_pos hs, HL.out])
      rw [hjn, show L.take n = L by rw [← HLL.out, List.take_length]] at ho
      have OO := Lib.hid ho
      clear hs ho
      obtain rfl : j = n := hjn
      go_wp2
      rw [HS.out, HT.out]
      refine bodyPost_ret (v := .tuple #[.slice Aq j cq, .bool true]) (by simp [results, Try.results16, go_sem]) rfl ⟨_, bs, rfl, ?_, hnd, hB⟩
      unfold boxesD
      rw [HLL.out]
      exact OO.out
end Go.Proofs.Ytaodpiikpojikaa.C8k
