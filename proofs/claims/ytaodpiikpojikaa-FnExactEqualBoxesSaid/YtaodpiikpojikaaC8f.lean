/-
  Contracts of chapter 8's functions over boxes, of the model: SealBoxes.
-/
import Derived.Test.YtaodpiikpojikaaC8b
import Derived.Test.YtaodpiikpojikaaAp
namespace Go.Proofs.Ytaodpiikpojikaa.C8f
open Go.ChangeShapes Go.WideShapes Go.ChangeAt Go.RowKit Go.Deep
open S0 S1 S9 S10 Ty Dm Bx Fx C3 M3 M8 M10
set_option linter.unusedVariables false
theorem sealsB_get (e : Int) (xs : List Int) : ∀ (ps : List Int) (i j : Nat) (p : Int), ps[j]? = some p → (sealsB e xs ps i)[j]? = some (sealed p (wrap64 (e + ((i + j : Nat) : Int))) xs)
  | [], i, j, p, h => by simp at h
  | q :: ps, i, 0, p, h => by obtain rfl : q = p := by simpa using h
                              simp [sealsB]
  | q :: ps, i, j + 1, p, h => by
    have h2 : ps[j]? = some p := by simpa using h
    have := sealsB_get e xs ps (i + 1) j p h2
    simp only [sealsB, List.getElem?_cons_succ]
    rw [this]
    congr 4
    omega
theorem sealsOk_drop (e : Int) (xs : List Int) : ∀ (ps : List Int) (i j : Nat) (p : Int), ps[j]? = some p → sealsOk e xs (ps.drop j) (i + j) = (sealOk p (wrap64 (e + ((i + j : Nat) : Int))) xs && sealsOk e xs (ps.drop (j + 1)) (i + (j + 1)))
  | ps, i, j, p, h => by
    obtain ⟨hl, e2⟩ := List.getElem?_eq_some_iff.1 h
    rw [List.drop_eq_getElem_cons hl, e2]
    rfl
theorem take_next {l : List Box} {j : Nat} {b : Box} (h : l[j]? = some b) : (l.take (j + 1)).flatMap Box.dcs = (l.take j).flatMap Box.dcs ++ b.dcs := by
  obtain ⟨hl2, e2⟩ := List.getElem?_eq_some_iff.1 h
  rw [List.take_succ_eq_append_getElem hl2, e2]; simp
theorem none_boxes {w wr : World} {g : Nat} (hb : Below w.heap.size w wr) (hg : wr.heap.size = g) : MadeD1 (boxesD []) (.bool false) w (.returned (.tuple #[.slice (some ⟨g, 0, none⟩) 0 0, .bool false])) (wr.alloc (.cells #[] 26)) := by
  subst hg
  have h := wr.ownsRow_lit (base := w.heap.size) (size := 4) (e := 26) #[] 0 hb.size (by unfold maxLen; omega) (by simp)
  refine ⟨_, [wr.heap.size], rfl, ?_, by simp, hb.alloc hb.size _⟩
  unfold boxesD
  simp only [Owns]
  exact ⟨[], [], by simpa using h, by simp [OwnsL], by simp [Value.ownBlock]⟩
set_option maxHeartbeats 4000000 in
set_option maxRecDepth 100000 in
theorem specSeals (w : World) (ps : List Int) (e : Int) (xs : List Int) (u v : Value) (g : Rds w w.heap.size (numsD ps) u) (h : Rds w w.heap.size (bytesD xs) v) (hx : ∀ x ∈ xs, 0 ≤ x ∧ x ≤ 255) (hp : wt (numsD ps) ≤ 1048576) (hw : wt (bytesD xs) ≤ 1048576) (e0 : -9223372036854775808 ≤ e) (e1 : e ≤ 9223372036854775807) :
    Calls Try.prog 35 #[u, .int .i64 e, v] w (MadeD1 (boxesD (seals ps e xs)) (.bool (sealsOk e xs ps 0)) w) := by
  obtain ⟨A, c, rfl, hr⟩ := rds_flat g
  obtain ⟨i0, hi, hz0, hz1, hz2⟩ := info_parts Bs.box_info
  rw [wt_numsD] at hp
  obtain ⟨n, hn⟩ : ∃ n, n = ps.length := ⟨_, rfl⟩
  rw [← hn] at hr hp ⊢
  obtain ⟨L, hL⟩ : ∃ L, L = sealsB e xs ps 0 := ⟨_, rfl⟩
  have hLl : L.length = n := by rw [hL, sealsB_len, hn]
  have HR := Lib.hid hr
  have HV := Lib.hid h
  have HX := Lib.hid hx
  have HN := Lib.hid hn
  have HL := Lib.hid hL
  have HLL := Lib.hid hLl
  have HW := Lib.hid hw
  clear g h hx hr hn hL hLl hw
  have hb0 : Below w.heap.size w (w.alloc (.cells #[] 26)) := (Below.refl _ _).alloc (Nat.le_refl _) _
  have ho0 : Owns (w.alloc (.cells #[] 26)) w.heap.size (.row 26 4 0 []) (.slice (some ⟨w.heap.size, 0, none⟩) 0 0) [w.heap.size] := by
    have h := w.ownsRow_lit (base := w.heap.size) (size := 4) (e := 26) #[] 0 (Nat.le_refl _) (by unfold maxLen; omega) (by simp)
    simp only [Owns]
    exact ⟨[], [], by simpa using h, by simp [OwnsL], by simp [Value.ownBlock]⟩
  go_enter Try.func35, Try.ntmps35
  go_wp2
  go_loopw [8, 9] (fun q i wr => ∃ (j : Nat) (Aq : Option Addr) (cq : Nat) (bs : List Nat), j ≤ n ∧ i = .int .i64 j ∧ q = .slice Aq j cq ∧ Owns wr w.heap.size (.row 26 4 j ((L.take j).flatMap Box.dcs)) (.slice Aq j cq) bs ∧ bs.Nodup ∧ sealsOk e xs ps 0 = sealsOk e xs (ps.drop j) j ∧ Below w.heap.size w wr) (fun _ i _ => n - (intOf i).toNat)
  case atStart => exact ⟨0, _, _, [w.heap.size], by omega, rfl, rfl, by simpa using ho0, by simp, by simp, hb0⟩
  case round =>
    obtain ⟨j, Aq, cq, bs, hj, rfl, rfl, ho, hnd, hs, hB⟩ := hrel
    clear ho0 hb0
    have H1 := Lib.hid hs
    clear hs
    by_cases hlt : j < n
    · obtain ⟨p, hpj⟩ : ∃ p, ps[j]? = some p := ⟨ps[j]'(by rw [← HN.out]; exact hlt), List.getElem?_eq_getElem _⟩
      have hws := hB.size
      obtain ⟨b, off, rfl, hbl, hcell⟩ := (HR.out.below hB).at_ hlt
      rw [List.getD_eq_getElem?_getD, hpj] at hcell
      simp only [Option.getD_some] at hcell
      have hd := sealsOk_drop e xs ps 0 j p hpj
      rw [Nat.zero_add, Nat.zero_add] at hd
      have hget := sealsB_get e xs ps 0 j p hpj
      rw [← HL.out, Nat.zero_add] at hget
      obtain ⟨f, hf⟩ : ∃ f, f = wrap64 (e + (j : Int)) := ⟨_, rfl⟩
      rw [← hf] at hd hget
      have HD := Lib.hid hd
      have HG := Lib.hid hget
      have HFF := Lib.hid hf
      have OO := Lib.hid ho
      have RV := Lib.hid (rds_on HV.out hB)
      clear hd hget hf hpj ho
      go_wp2_with fail
      rw [← HFF.out]
      (with_reducible refine (C8b.specSeal _ p f xs _ RV.out HX.out HW.out).mono ?_); rintro ed w2 ⟨vs, s2, rfl, o2, n2, b2⟩
      have BW := hB.trans (b2.mono hws)
      by_cases hok : sealOk p f xs = true
      · have hX : sealB p f xs = sealed p f xs := by unfold sealB; rw [if_pos hok]
        rw [hX] at o2
        obtain ⟨X, hXX⟩ : ∃ X, X = sealed p f xs := ⟨_, rfl⟩
        rw [← hXX] at o2 HG
        have hs := H1.out
        rw [HD.out, hok, Bool.true_and] at hs
        have H2 := Lib.hid hs
        obtain ⟨A2, c2, rfl, _, _⟩ := Box.owns o2
        have HNX := Lib.hid (take_next HG.out)
        rw [hok]
        have OO2 := owns_below OO.out b2
        have hdis : ∀ y, y ∈ bs → y ∉ s2 := fun y hy hy2 => by
          have h1 := (owns_in _ _ _ OO.out y hy).2
          have h2 := (ownsL_in _ _ _ o2 y hy2).1
          omega
        obtain ⟨m, hm⟩ : ∃ m, m = X.data.length := ⟨_, rfl⟩
        rw [← hm] at o2 ⊢
        have bl : Below w2.heap.size w2 ((w2.alloc (.cells #[.int .i64 X.to, .int .i64 X.eph, .slice A2 m c2, .int .i64 X.mac] 26)).alloc (.cells #[.int .i64 X.to, .int .i64 X.eph, .slice A2 m c2, .int .i64 X.mac] 26)) := ((Below.refl _ _).alloc (Nat.le_refl _) _).alloc (by simp) _
        have OO3 := Lib.hid (owns_below OO2 bl)
        have O3 := Lib.hid (ownsL_below o2 bl)
        have BW3 := Lib.hid (BW.trans (bl.mono BW.size))
        have s1 : (w2.alloc (.cells #[.int .i64 X.to, .int .i64 X.eph, .slice A2 m c2, .int .i64 X.mac] 26)).heap.size = w2.heap.size + 1 := by simp
        have NC := Lib.hid (fun jj uu (hj : [Value.int .i64 X.to, .int .i64 X.eph, .slice A2 m c2, .int .i64 X.mac][jj]? = some uu) => (var_at (w := w2.alloc (.cells #[.int .i64 X.to, .int .i64 X.eph, .slice A2 m c2, .int .i64 X.mac] 26)) (T := 26) (cs := #[.int .i64 X.to, .int .i64 X.eph, .slice A2 m c2, .int .i64 X.mac]) (Below.refl _ _) (w2.heap.size + 1) s1 jj uu (by simpa using hj)).1)
        clear OO2 o2 bl s1 hs hm hok hX hXX BW b2 hws
        go_wp2_with (at_builtin; refine Ap.wpList_app_one _ rfl _ _ 32 rfl w.heap.size 26 i0 (.agg #[.int .i64 0, .int .i64 0, .slice none 0 0, .int .i64 0]) 4 48 Try.underlying32 hi hz0 hz1 hz2 rfl (by decide) (.slice Aq j cq) j _ bs rfl OO3.out hnd _ 1 [.int .i64 X.to, .int .i64 X.eph, .slice A2 m c2, .int .i64 X.mac] rfl rfl NC.out (by intro uu hu; simp at hu; rcases hu with rfl | rfl | rfl | rfl <;> rfl) wr.heap.size X.dcs s2 O3.out n2 hdis hB.size (by unfold maxLen; omega) (by omega) BW3.out.size ?_; intro v3 bs3 w3 o3 n3 t3)
        have hown : ∀ y, y ∈ (Value.slice Aq j cq).ownBlock.toList → w.heap.size ≤ y := fun y hy => by
          obtain ⟨vs5, b5, h1, _, _⟩ := owns_row OO.out
          cases hv : (Value.slice Aq j cq).ownBlock with
          | none => rw [hv] at hy; cases hy
          | some k =>
            rw [hv] at hy
            obtain rfl : y = k := by simpa using hy
            exact (h1.lt y hv).1
        have BW4 := Lib.hid (below_turned BW3.out t3 hown)
        obtain ⟨A3, c3, rfl⟩ : ∃ A3 c3, v3 = .slice A3 (j + 1) c3 := by
          obtain ⟨vs5, b5, h1, _, _⟩ := owns_row o3
          exact own_nil_form h1
        rw [← HNX.out] at o3
        have O4 := Lib.hid o3
        clear o3 t3 hown
        go_roundw
        case rel => exact ⟨j + 1, A3, c3, bs3, by omega, by go_num, rfl, O4.out, n3, H2.out, BW4.out⟩
        case measure => simp [intOf]; omega
      · have hok2 : sealOk p f xs = false := by simpa using hok
        have hs := H1.out
        rw [HD.out, hok2, Bool.false_and] at hs
        have hX : sealB p f xs = zeroB := by unfold sealB; rw [hok2]; rfl
        rw [hX] at o2
        obtain ⟨A2, c2, rfl, _, _⟩ := Box.owns o2
        have H2 := Lib.hid hs
        have H3 := Lib.hid (show seals ps e xs = [] by unfold seals; rw [hs]; rfl)
        rw [hok2]
        obtain ⟨m, hm⟩ : ∃ m, m = zeroB.data.length := ⟨_, rfl⟩
        rw [← hm]
        have bl := Lib.hid (BW.trans (((Below.refl w2.heap.size w2).alloc (Nat.le_refl _) (.cells #[.int .i64 zeroB.to, .int .i64 zeroB.eph, .slice A2 m c2, .int .i64 zeroB.mac] 26)).mono BW.size))
        clear o2 hs hX hok hok2 BW b2 hm
        go_wp2
        rw [H2.out, H3.out]
        refine bodyPost_ret (v := .tuple #[.slice (some ⟨w2.heap.size + 1, 0, none⟩) 0 0, .bool false]) (by simp [results, Try.results35, go_sem]) rfl (none_boxes bl.out (by simp))
    · have hd : decide (j < n) = false := by simp; omega
      have hjn : j = n := by omega
      have hs := H1.out
      rw [hjn, show ps.drop n = [] by rw [HN.out]; simp] at hs
      simp only [sealsOk] at hs
      have HS := Lib.hid hs
      have HT := Lib.hid (show seals ps e xs = L by unfold seals; rw [if_pos hs, HL.out])
      rw [hjn, show L.take n = L by rw [← HLL.out, List.take_length]] at ho
      have OO := Lib.hid ho
      clear hs ho
      obtain rfl : j = n := hjn
      go_wp2
      rw [HS.out, HT.out]
      refine bodyPost_ret (v := .tuple #[.slice Aq j cq, .bool true]) (by simp [results, Try.results35, go_sem]) rfl ⟨_, bs, rfl, ?_, hnd, hB⟩
      unfold boxesD
      rw [HLL.out]
      exact OO.out
end Go.Proofs.Ytaodpiikpojikaa.C8f
