import Derived.Test.YtllaacdikjffmaaGreatBb
/-
  Challenge: a struct of the laws as a thing of its own, and the laws' own functions over it.
-/
set_option linter.unusedVariables false
namespace Go.Proofs.YtllaacdikjffmaaGreat.Fx
open Go.ChangeShapes Go.WideShapes Go.ChangeAt Go.RowKit Go.Deep
open S0 S1 S9 S10 Ty Dm Bx
structure Challenge where
  Id : Int
  Account : Int
  Until : Int
def Challenge.dcs (x : Challenge) : List Dc := [.val (.int .i64 x.Id), .val (.int .i64 x.Account), .val (.int .i64 x.Until)]
theorem Challenge.len (x : Challenge) : x.dcs.length = 3 := rfl
structure Challenge.ok (x : Challenge) : Prop where
  Id : -9223372036854775808 ≤ x.Id ∧ x.Id ≤ 9223372036854775807
  Account : -9223372036854775808 ≤ x.Account ∧ x.Account ≤ 9223372036854775807
  Until : -9223372036854775808 ≤ x.Until ∧ x.Until ≤ 9223372036854775807
def tyChallenge : Ty := .cons (.int .i64) (.cons (.int .i64) (.cons (.int .i64) (.done)))
set_option maxRecDepth 100000 in
theorem Challenge.is {ds : List Dc} (h : Is tyChallenge ds) : ∃ x : Challenge, ds = x.dcs ∧ x.ok := by
  unfold tyChallenge at h
  simp only [Is] at h
  obtain ⟨_, _, rfl, ⟨x0, rfl, h0⟩, ⟨_, _, rfl, ⟨x1, rfl, h1⟩, ⟨_, _, rfl, ⟨x2, rfl, h2⟩, rfl⟩⟩⟩ := h
  exact ⟨⟨x0, x1, x2⟩, rfl, ⟨M1.i64_wf h0, M1.i64_wf h1, M1.i64_wf h2⟩⟩
def ChallengesD (l : List Challenge) : Dc := .row 67 3 l.length (l.flatMap Challenge.dcs)
def tyChallenges : Ty := .slice 108 67 tyChallenge
set_option maxRecDepth 100000 in
theorem isChallenges {ds : List Dc} (h : Is tyChallenges ds) : ∃ l : List Challenge, ds = [ChallengesD l] ∧ l.length ≤ maxLen ∧ ∀ x ∈ l, x.ok := by
  unfold tyChallenges at h
  simp only [Is] at h
  obtain ⟨n, cs, rfl, hn, hp⟩ := h
  obtain ⟨l, rfl, rfl, ho⟩ := of_pieces Challenge.dcs Challenge.ok (fun ds hd => Challenge.is hd) n cs hp
  exact ⟨l, rfl, hn, ho⟩
theorem Challenge.rds {w : World} {hi : Nat} {x : Challenge} {vs : List Go.Value} (h : RdsL w hi x.dcs vs) : vs = [.int .i64 x.Id, .int .i64 x.Account, .int .i64 x.Until] := by
  unfold Challenge.dcs at h
  simp only [RdsL] at h
  obtain ⟨_, _, rfl, h0, ⟨_, _, rfl, h1, ⟨_, _, rfl, h2, rfl⟩⟩⟩ := h
  obtain rfl := rds_val h0
  obtain rfl := rds_val h1
  obtain rfl := rds_val h2
  exact rfl
theorem Challenge.owns {w : World} {lo : Nat} {x : Challenge} {vs : List Go.Value} {bs : List Nat} (h : OwnsL w lo x.dcs vs bs) : vs = [.int .i64 x.Id, .int .i64 x.Account, .int .i64 x.Until] ∧ bs = [] := by
  unfold Challenge.dcs at h
  simp only [OwnsL] at h
  obtain ⟨_, _, _, _, rfl, h0, ⟨_, _, _, _, rfl, h1, ⟨_, _, _, _, rfl, h2, ⟨rfl, rfl⟩, rfl⟩, rfl⟩, rfl⟩ := h
  obtain ⟨rfl, rfl⟩ := owns_val h0
  obtain ⟨rfl, rfl⟩ := owns_val h1
  obtain ⟨rfl, rfl⟩ := owns_val h2
  exact ⟨rfl, by simp⟩
theorem Challenge.mkO {w : World} {lo : Nat} {x : Challenge}    : OwnsL w lo x.dcs [.int .i64 x.Id, .int .i64 x.Account, .int .i64 x.Until] ([]) := by
  unfold Challenge.dcs
  simp only [OwnsL]
  exact ⟨_, _, [], [], rfl, by simp [Owns], ⟨_, _, [], [], rfl, by simp [Owns], ⟨_, _, [], [], rfl, by simp [Owns], ⟨rfl, rfl⟩, by simp⟩, by simp⟩, by simp⟩
theorem Challenge.wt (x : Challenge) : wtL x.dcs = 0 := by
  unfold Challenge.dcs
  simp only [wtL]
  simp only [wt_int]
  first | done | omega
set_option maxHeartbeats 3200000 in
set_option maxRecDepth 100000 in
theorem toChallenge (w : World) (x : Challenge) (vs : List Go.Value) (h : RdsL w w.heap.size x.dcs vs) (hw : wtL x.dcs ≤ 4294967296) : Calls Tryz.prog 78 #[.agg vs.toArray] w (MadeL x.dcs w) := by
  obtain rfl := Challenge.rds h
  go_enter Tryz.func78, Tryz.ntmps78
  go_wp2
  refine bodyPost_ret (v := .agg #[.int .i64 x.Id, .int .i64 x.Account, .int .i64 x.Until]) (by simp [results, Tryz.results78, go_sem]) rfl ⟨[.int .i64 x.Id, .int .i64 x.Account, .int .i64 x.Until], [], rfl, Challenge.mkO, by simp, ?_⟩
  exact (((Below.refl _ _).alloc (Nat.le_refl _) _).alloc (by simp) _).alloc (by simp; omega) _
set_option maxHeartbeats 3200000 in
set_option maxRecDepth 100000 in
theorem eqChallenge (w : World) (x : Challenge) (us vs : List Value) (h : RdsL w w.heap.size x.dcs us) (h2 : RdsL w w.heap.size x.dcs vs) (hw : wtL x.dcs ≤ 4294967296) : Calls Tryz.prog 90 #[.agg us.toArray, .agg vs.toArray] w (Gives (.bool true) w) := by
  obtain rfl := Challenge.rds h
  obtain rfl := Challenge.rds h2
  go_enter Tryz.func90, Tryz.ntmps90
  go_wp2
  go_ret
  exact ⟨rfl, ((Below.refl _ _).alloc (Nat.le_refl _) _).alloc (by simp) _⟩
set_option maxRecDepth 100000 in
theorem Challenge_info : (Tryz.prog.info? 67).map (fun i => (i.zero, i.size, i.bytes)) = some (some (.agg #[.int .i64 0, .int .i64 0, .int .i64 0]), 3, 24) := by kernel_rfl
theorem wt_Challenges (l : List Challenge) : Dm.wt (ChallengesD l) = l.length + wtL (l.flatMap Challenge.dcs) := by unfold ChallengesD; simp only [Dm.wt]
theorem cntL_Challenge (x : Challenge) : cntL x.dcs = 3 := by
  unfold Challenge.dcs
  simp only [cntL, cnt_plain]
  first | done | omega
theorem cntb_Challenge (x : Challenge) : cntL x.dcs ≤ 64 + 64 * wtL x.dcs := by
  rw [cntL_Challenge, Challenge.wt]
  omega
theorem cnt_Challenges (l : List Challenge) : cnt (ChallengesD l) ≤ 64 * Dm.wt (ChallengesD l) := by
  rw [wt_Challenges]
  unfold ChallengesD
  simp only [cnt]
  exact cnt_flatMap Challenge.dcs cntb_Challenge l
set_option maxHeartbeats 3200000 in
set_option maxRecDepth 100000 in
theorem toChallengeS (w : World) (l : List Challenge) (v : Value) (hr : Rds w w.heap.size (ChallengesD l) v) (hw : Dm.wt (ChallengesD l) ≤ 4294967296) : Calls Tryz.prog 48 #[v] w (MadeD (ChallengesD l) w) := by
  obtain ⟨i0, hi, hz0, hz1, hz2⟩ := info_parts Challenge_info
  rw [wt_Challenges] at hw
  obtain ⟨A, c, rfl⟩ := rds_slice hr
  obtain ⟨n, hln⟩ : ∃ n, n = l.length := ⟨_, rfl⟩
  have HR := Lib.hid hr
  have HD := Lib.hid (show ∀ x ∈ l, wtL x.dcs ≤ 4294967296 from fun x hx => by have := wt_mem Challenge.dcs hx; omega)
  have hn : n ≤ 4294967296 := by omega
  rw [← hln]
  clear hr hw
  have HL := Lib.hid hln
  clear hln
  go_enter Tryz.func48, Tryz.ntmps48
  go_wp2_with (at_make; refine wpList_make_full _ rfl _ _ 31 rfl w.heap.size 67 i0 (.agg #[.int .i64 0, .int .i64 0, .int .i64 0]) 3 Tryz.underlying31 hi hz0 hz1 _ _ _ _ n rfl rfl rfl rfl (by rw [hz2]; omega) (by unfold maxLen; omega) (Nat.le_refl _) ?_; intro w1 hown hgrow)
  have HF : Bs.Fill 67 3 n w ((l.take 0).flatMap Challenge.dcs) ((n - 0) * 3) w1 := ⟨[], _, [], by rw [List.nil_append]; exact hown, by have := hown.1; omega, by simp [OwnsL], by simp, below_grown hgrow (Nat.le_refl _) (fun _ h => by cases h)⟩
  clear hown hgrow
  go_loopw [4] (fun i wr => ∃ k : Nat, k ≤ n ∧ i = .int .i64 k ∧ Bs.Fill 67 3 n w ((l.take k).flatMap Challenge.dcs) ((n - k) * 3) wr) (fun i _ => n - (intOf i).toNat)
  case atStart => exact ⟨0, by omega, rfl, HF⟩
  case round =>
    obtain ⟨k, hk, rfl, HF⟩ := hrel
    by_cases hlt : k < n
    · obtain ⟨b, hb⟩ := get_some l (i := k) (by rw [← HL.out]; exact hlt)
      have hbw : Below w.heap.size w wr := by obtain ⟨_, _, _, _, _, _, _, h⟩ := HF; exact h
      have hws := hbw.size
      obtain ⟨vp, tail, bs, ho, ht, _, _, _⟩ := id HF
      have hfl : vp.length + tail.length = n * 3 := by have := ho.1; rw [List.length_append] at this; exact this
      obtain ⟨g, off, us, rfl, hg, hru, hc⟩ := piece_at Challenge.len (by omega) (rds_keep hbw.block _ _ HR.out) hb
      obtain rfl := Challenge.rds hru
      have c0 : wr.cell? ⟨g, off + k * 3, none⟩ = some (.int .i64 b.Id) := hc 0 _ rfl
      have c1 : wr.cell? ⟨g, off + k * 3 + 1, none⟩ = some (.int .i64 b.Account) := hc 1 _ rfl
      have c2 : wr.cell? ⟨g, off + k * 3 + 2, none⟩ = some (.int .i64 b.Until) := hc 2 _ rfl
      have HU := Lib.hid hru
      clear hc hru
      have HB := Lib.hid hb
      have HW := Lib.hid hbw
      have hdl := HD.out b (List.mem_of_getElem? hb)
      clear hb
      have HF1 := Lib.hid HF
      have HO := Lib.hid ho
      clear HF ho hbw ht hfl
      go_wp2_with fail
      (with_reducible refine (toChallenge _ b _ (rdsL_more hws _ _ HU.out) hdl).mono ?_); rintro e w2 ⟨vs2, s2, rfl, o2, n2, b2⟩
      have O2 := Lib.hid o2
      obtain ⟨rfl, -⟩ := Challenge.owns o2
      have ho2 := own_below HO.out b2
      obtain ⟨z0, q0, f0⟩ := Bs.stored_any ho2 (k * 3) (by omega)
      obtain ⟨z1, q1, f1⟩ := Bs.stored_any ho2 (k * 3 + 1) (by omega)
      obtain ⟨z2, q2, f2⟩ := Bs.stored_any ho2 (k * 3 + 2) (by omega)
      have hgg := (ho2.lt _ rfl).2
      have hnk : (n - k) * 3 = (n - (k + 1)) * 3 + 3 := by omega
      rw [hnk] at HF1
      have HN := fill_many (p := k * 3) HF1.out (by rw [flat_len Challenge.len, List.length_take, ← HL.out, Nat.min_eq_left (by omega)]) b2 O2.out n2 rfl
      rw [← take_next HB.out] at HN
      replace HN := Lib.hid HN
      clear o2 ho2 hnk HF1 O2
      go_wp2
      go_roundw
      case rel => exact ⟨k + 1, by omega, by go_num, HN.out⟩
      case measure => simp [intOf]; omega
    · have hkn : k = n := by omega
      have hd : decide (k < n) = false := by simp; omega
      rw [hkn, Nat.sub_self, Nat.zero_mul, show l.take n = l by rw [HL.out, List.take_length]] at HF
      clear hkn
      obtain ⟨bs, h1, h2, h3⟩ := Bs.fill_end HF
      go_wp2
      go_ret
      refine ⟨_, bs, rfl, ?_, h2, h3⟩
      unfold ChallengesD
      rw [← HL.out]
      exact h1
set_option maxHeartbeats 3200000 in
set_option maxRecDepth 100000 in
theorem eqChallengeS (w : World) (l : List Challenge) (u v : Value) (hu : Rds w w.heap.size (ChallengesD l) u) (hv : Rds w w.heap.size (ChallengesD l) v) (hw : Dm.wt (ChallengesD l) ≤ 4294967296) : Calls Tryz.prog 61 #[u, v] w (Gives (.bool true) w) := by
  rw [wt_Challenges] at hw
  obtain ⟨A, c, rfl⟩ := rds_slice hu
  obtain ⟨A2, c2, rfl⟩ := rds_slice hv
  obtain ⟨n, hln⟩ : ∃ n, n = l.length := ⟨_, rfl⟩
  have HR := Lib.hid hu
  have HS := Lib.hid hv
  have HD := Lib.hid (show ∀ x ∈ l, wtL x.dcs ≤ 4294967296 from fun x hx => by have := wt_mem Challenge.dcs hx; omega)
  have hn : n ≤ 4294967296 := by omega
  rw [← hln]
  clear hu hv hw
  have HL := Lib.hid hln
  clear hln
  go_enter Tryz.func61, Tryz.ntmps61
  go_wp2
  go_loopw [5] (fun i wr => ∃ k : Nat, k ≤ n ∧ i = .int .i64 k ∧ Below w.heap.size w wr) (fun i _ => n - (intOf i).toNat)
  case atStart => exact ⟨0, by omega, rfl, Below.refl _ _⟩
  case round =>
    obtain ⟨k, hk, rfl, HW⟩ := hrel
    by_cases hlt : k < n
    · obtain ⟨b, hb⟩ := get_some l (i := k) (by rw [← HL.out]; exact hlt)
      have hws := HW.size
      obtain ⟨g, off, us, rfl, hg, hru, hc⟩ := piece_at Challenge.len (by omega) (rds_keep HW.block _ _ HR.out) hb
      obtain ⟨g2, off2, us2, rfl, hg2, hru2, hc2⟩ := piece_at Challenge.len (by omega) (rds_keep HW.block _ _ HS.out) hb
      obtain rfl := Challenge.rds hru
      obtain rfl := Challenge.rds hru2
      have c0 : wr.cell? ⟨g, off + k * 3, none⟩ = some (.int .i64 b.Id) := hc 0 _ rfl
      have d0 : wr.cell? ⟨g2, off2 + k * 3, none⟩ = some (.int .i64 b.Id) := hc2 0 _ rfl
      have c1 : wr.cell? ⟨g, off + k * 3 + 1, none⟩ = some (.int .i64 b.Account) := hc 1 _ rfl
      have d1 : wr.cell? ⟨g2, off2 + k * 3 + 1, none⟩ = some (.int .i64 b.Account) := hc2 1 _ rfl
      have c2 : wr.cell? ⟨g, off + k * 3 + 2, none⟩ = some (.int .i64 b.Until) := hc 2 _ rfl
      have d2 : wr.cell? ⟨g2, off2 + k * 3 + 2, none⟩ = some (.int .i64 b.Until) := hc2 2 _ rfl
      have hdl := HD.out b (List.mem_of_getElem? hb)
      have RB := Lib.hid (rdsL_on (rdsL_more hws _ _ hru) (drewN_below wr 1 _))
      have RB2 := Lib.hid (rdsL_on (rdsL_more hws _ _ hru2) (drewN_below wr 1 _))
      clear hb hc hc2 hru hru2
      go_wp2_with fail
      go_region_with (go_at_call 90; refine (eqChallenge _ b _ _ RB.out RB2.out hdl).mono ?_; rintro e w2 ⟨rfl, b2⟩)
      all_goals
        have HW2 : Below w.heap.size w w2 := HW.trans ((drewN_below wr 1 _).trans (b2.mono hws))
        go_wp2
        go_roundw
        case rel => exact ⟨k + 1, by omega, by go_num, HW2⟩
        case measure => simp [intOf]; omega
    · have hd : decide (k < n) = false := by simp; omega
      go_wp2
      go_ret
      exact ⟨rfl, HW⟩
set_option maxHeartbeats 3200000 in
set_option maxRecDepth 100000 in
theorem markChallengeS (w : World) (base : Nat) (l : List Challenge) (v : Value) (bs : List Nat) (k : Int) (ho : Owns w base (ChallengesD l) v bs) (hnd : bs.Nodup) (hw : Dm.wt (ChallengesD l) ≤ 4294967296) (hk0 : 0 ≤ k) (hk1 : k + cnt (ChallengesD l) ≤ 1099511627776) :
    Calls Tryz.prog 63 #[v, .int .i64 k] w (MarkD (ChallengesD l) k base v bs w) := by
  rw [wt_Challenges] at hw
  obtain ⟨A, c, rfl⟩ := owns_slice ho
  obtain ⟨n, hln⟩ : ∃ n, n = l.length := ⟨_, rfl⟩
  have HF : Mkg 67 3 l.length base (l.flatMap Challenge.dcs) k A l.length c bs w 0 w := mkg_start ho hnd
  have hcl := flat_len Challenge.len l
  have hkc := fun p => kP_le (cs := l.flatMap Challenge.dcs) (k := k) (p := p)
  have hcc : cnt (ChallengesD l) = cntL (l.flatMap Challenge.dcs) := by unfold ChallengesD; simp only [cnt]
  rw [hcc] at hk1
  have HC := Lib.hid hcc
  have HD := Lib.hid (show ∀ x ∈ l, wtL x.dcs ≤ 4294967296 from fun x hx => by have := wt_mem Challenge.dcs hx; omega)
  have hn : n ≤ 4294967296 := by omega
  rw [← hln] at hcl HF ⊢
  have HK := Lib.hid hkc
  have HCL := Lib.hid hcl
  have HL := Lib.hid hln
  clear ho hnd hw hcc hln hkc hcl
  have hz : kP (l.flatMap Challenge.dcs) k 0 = k := kP_zero _ _
  go_enter Tryz.func63, Tryz.ntmps63
  go_wp2
  go_loopw [1, 5] (fun q i wr => ∃ j : Nat, j ≤ n ∧ i = .int .i64 j ∧ q = .int .i64 (kP (l.flatMap Challenge.dcs) k (j * 3)) ∧ Mkg 67 3 n base (l.flatMap Challenge.dcs) k A n c bs w (j * 3) wr) (fun _ i _ => n - (intOf i).toNat)
  case atStart => exact ⟨0, by omega, rfl, by rw [Nat.zero_mul, hz], by rw [Nat.zero_mul]; exact HF⟩
  case round =>
    obtain ⟨j, hj, rfl, rfl, HM⟩ := hrel
    clear HF hz
    by_cases hlt : j < n
    · obtain ⟨b, hb⟩ := get_some l (i := j) (by rw [← HL.out]; exact hlt)
      have hdl := HD.out b (List.mem_of_getElem? hb)
      have e0 : (l.flatMap Challenge.dcs)[j * 3]? = some (.val (.int .i64 b.Id)) := flat_at Challenge.len l j b 0 hb (by omega)
      have e1 : (l.flatMap Challenge.dcs)[j * 3 + 1]? = some (.val (.int .i64 b.Account)) := flat_at Challenge.len l j b 1 hb (by omega)
      have e2 : (l.flatMap Challenge.dcs)[j * 3 + 2]? = some (.val (.int .i64 b.Until)) := flat_at Challenge.len l j b 2 hb (by omega)
      obtain ⟨q, hq⟩ : ∃ q, q = kP (l.flatMap Challenge.dcs) k (j * 3) := ⟨_, rfl⟩
      have k0 : kP (l.flatMap Challenge.dcs) k (j * 3) = q := hq.symm
      have k1 : kP (l.flatMap Challenge.dcs) k (j * 3 + 1) = q + 1 := by rw [show j * 3 + 1 = (j * 3) + 1 from rfl, kP_val e0, k0]
      have k2 : kP (l.flatMap Challenge.dcs) k (j * 3 + 2) = q + 1 + 1 := by rw [show j * 3 + 2 = (j * 3 + 1) + 1 from rfl, kP_val e1, k1]
      have k3 : kP (l.flatMap Challenge.dcs) k (j * 3 + 3) = q + 1 + 1 + 1 := by rw [show j * 3 + 3 = (j * 3 + 2) + 1 from rfl, kP_val e2, k2]
      have kz : kP (l.flatMap Challenge.dcs) k ((j + 1) * 3) = q + 1 + 1 + 1 := by rw [show (j + 1) * 3 = j * 3 + 3 by omega]; exact k3
      have q0 := (HK.out (j * 3)).1
      have q4 := (HK.out ((j + 1) * 3)).2
      rw [kz] at q4
      rw [k0] at q0 ⊢
      clear hq
      obtain ⟨g, off, rfl, hbg, hgs⟩ := mkg_addr HM e0
      have M0 := HM
      clear HM hb
      obtain ⟨c0, f0, M1⟩ := mkg_int k0 (show off + (j * 3) = off + j * 3 from rfl) M0 e0
      obtain ⟨c1, f1, M2⟩ := mkg_int k1 (show off + (j * 3 + 1) = off + j * 3 + 1 from rfl) M1 e1
      obtain ⟨c2, f2, M3⟩ := mkg_int k2 (show off + (j * 3 + 2) = off + j * 3 + 2 from rfl) M2 e2
      have H4 := Lib.hid (show Mkg 67 3 n base (l.flatMap Challenge.dcs) k (some ⟨g, off, none⟩) n c bs w ((j + 1) * 3) _ by rw [show (j + 1) * 3 = j * 3 + 3 by omega]; exact M3)
      have HZ := Lib.hid kz
      clear M1 M2 M3 e0 e1 e2 k0 k1 k2 k3 kz M0
      go_wp2
      go_roundw
      case rel => exact ⟨j + 1, by omega, by go_num, by rw [HZ.out], H4.out⟩
      case measure => simp [intOf]; omega
    · have hd : decide (j < n) = false := by simp; omega
      have hjn : n = j := by omega
      subst hjn
      obtain ⟨h1, h2⟩ := mkg_end HM HCL.out
      have hk2 : kP (l.flatMap Challenge.dcs) k (n * 3) = k + cntL (l.flatMap Challenge.dcs) := kP_all _ _ _ HCL.out
      rw [hk2]
      have H1 := Lib.hid h1
      have H2 := Lib.hid h2
      clear HM h1 h2 hk2
      go_wp2
      go_ret
      refine ⟨by rw [HC.out]; rfl, ?_, H2.out⟩
      have := H1.out
      unfold ChallengesD
      rw [← HL.out]
      exact this
set_option maxHeartbeats 3200000 in
set_option maxRecDepth 100000 in
theorem heldChallengeS (w : World) (l : List Challenge) (v : Value) (k : Int) (hr : Rds w w.heap.size (mk (ChallengesD l) k) v) (hw : Dm.wt (ChallengesD l) ≤ 4294967296) (hk0 : 0 ≤ k) (hk1 : k + cnt (ChallengesD l) ≤ 1099511627776) :
    Calls Tryz.prog 65 #[v, .int .i64 k] w (Gives (.int .i64 (k + cnt (ChallengesD l))) w) := by
  rw [wt_Challenges] at hw
  unfold ChallengesD at hr
  obtain ⟨A, c, rfl⟩ := marked_slice hr
  obtain ⟨n, hln⟩ : ∃ n, n = l.length := ⟨_, rfl⟩
  have hcl := flat_len Challenge.len l
  have hkc := fun p => kP_le (cs := l.flatMap Challenge.dcs) (k := k) (p := p)
  have hcc : cnt (ChallengesD l) = cntL (l.flatMap Challenge.dcs) := by unfold ChallengesD; simp only [cnt]
  rw [hcc] at hk1 ⊢
  have HD := Lib.hid (show ∀ x ∈ l, wtL x.dcs ≤ 4294967296 from fun x hx => by have := wt_mem Challenge.dcs hx; omega)
  have hn : n ≤ 4294967296 := by omega
  have HR := Lib.hid hr
  rw [← hln] at hcl HR ⊢
  have HK := Lib.hid hkc
  have HCL := Lib.hid hcl
  have HL := Lib.hid hln
  clear hr hw hcc hln hkc hcl
  have hz : kP (l.flatMap Challenge.dcs) k 0 = k := kP_zero _ _
  go_enter Tryz.func65, Tryz.ntmps65
  go_wp2
  go_loopw [1, 5] (fun q i wr => ∃ j : Nat, j ≤ n ∧ i = .int .i64 j ∧ q = .int .i64 (kP (l.flatMap Challenge.dcs) k (j * 3)) ∧ Below w.heap.size w wr) (fun _ i _ => n - (intOf i).toNat)
  case atStart => exact ⟨0, by omega, rfl, by rw [Nat.zero_mul, hz], Below.refl _ _⟩
  case round =>
    obtain ⟨j, hj, rfl, rfl, HW⟩ := hrel
    clear hz
    by_cases hlt : j < n
    · obtain ⟨b, hb⟩ := get_some l (i := j) (by rw [← HL.out]; exact hlt)
      have hdl := HD.out b (List.mem_of_getElem? hb)
      have e0 : (l.flatMap Challenge.dcs)[j * 3]? = some (.val (.int .i64 b.Id)) := flat_at Challenge.len l j b 0 hb (by omega)
      have e1 : (l.flatMap Challenge.dcs)[j * 3 + 1]? = some (.val (.int .i64 b.Account)) := flat_at Challenge.len l j b 1 hb (by omega)
      have e2 : (l.flatMap Challenge.dcs)[j * 3 + 2]? = some (.val (.int .i64 b.Until)) := flat_at Challenge.len l j b 2 hb (by omega)
      obtain ⟨q, hq⟩ : ∃ q, q = kP (l.flatMap Challenge.dcs) k (j * 3) := ⟨_, rfl⟩
      have k0 : kP (l.flatMap Challenge.dcs) k (j * 3) = q := hq.symm
      have k1 : kP (l.flatMap Challenge.dcs) k (j * 3 + 1) = q + 1 := by rw [show j * 3 + 1 = (j * 3) + 1 from rfl, kP_val e0, k0]
      have k2 : kP (l.flatMap Challenge.dcs) k (j * 3 + 2) = q + 1 + 1 := by rw [show j * 3 + 2 = (j * 3 + 1) + 1 from rfl, kP_val e1, k1]
      have k3 : kP (l.flatMap Challenge.dcs) k (j * 3 + 3) = q + 1 + 1 + 1 := by rw [show j * 3 + 3 = (j * 3 + 2) + 1 from rfl, kP_val e2, k2]
      have kz : kP (l.flatMap Challenge.dcs) k ((j + 1) * 3) = q + 1 + 1 + 1 := by rw [show (j + 1) * 3 = j * 3 + 3 by omega]; exact k3
      have q0 := (HK.out (j * 3)).1
      have q4 := (HK.out ((j + 1) * 3)).2
      rw [kz] at q4
      rw [k0] at q0 ⊢
      clear hq
      have hws := HW.size
      obtain ⟨g, off, rfl, hg, hat⟩ := held_at Challenge.len (rds_keep HW.block _ _ HR.out) hb (by omega)
      obtain ⟨u0, c0, r0⟩ := hat 0 _ (by omega) rfl
      rw [Nat.add_zero, k0] at r0
      obtain rfl : u0 = .int .i64 (q) := rds_val r0
      replace c0 : wr.cell? ⟨g, off + j * 3, none⟩ = some _ := c0
      obtain ⟨u1, c1, r1⟩ := hat 1 _ (by omega) rfl
      rw [show j * 3 + 1 = j * 3 + 1 from rfl, k1] at r1
      obtain rfl : u1 = .int .i64 (q + 1) := rds_val r1
      replace c1 : wr.cell? ⟨g, off + j * 3 + 1, none⟩ = some _ := c1
      obtain ⟨u2, c2, r2⟩ := hat 2 _ (by omega) rfl
      rw [show j * 3 + 2 = j * 3 + 2 from rfl, k2] at r2
      obtain rfl : u2 = .int .i64 (q + 1 + 1) := rds_val r2
      replace c2 : wr.cell? ⟨g, off + j * 3 + 2, none⟩ = some _ := c2
      have HZ := Lib.hid kz
      clear hat hb kz e0 e1 e2 k0 k1 k2 k3 r0 r1 r2
      have HW2 : Below w.heap.size w wr := HW
      go_wp2
      go_roundw
      case rel => exact ⟨j + 1, by omega, by go_num, by rw [HZ.out], HW2⟩
      case measure => simp [intOf]; omega
    · have hd : decide (j < n) = false := by simp; omega
      have hjn : n = j := by omega
      subst hjn
      have hk2 : kP (l.flatMap Challenge.dcs) k (n * 3) = k + cntL (l.flatMap Challenge.dcs) := kP_all _ _ _ HCL.out
      rw [hk2]
      clear hk2
      go_wp2
      go_ret
      exact ⟨rfl, HW⟩
set_option maxHeartbeats 3200000 in
set_option maxRecDepth 100000 in
theorem szChallengeS (w : World) (l : List Challenge) (v : Value) (z : Int) (hr : Rds w w.heap.size (ChallengesD l) v) (hn : l.length ≤ maxLen) (ho : ∀ x ∈ l, x.ok) (hz0 : 0 ≤ z) (hz1 : z ≤ 1048576) :
    Calls Tryz.prog 41 #[v, .int .i64 z] w (Gives (.int .i64 (if (Dm.wt (ChallengesD l) : Int) ≤ z then z - Dm.wt (ChallengesD l) else -1)) w) := by
  obtain ⟨A, c, rfl⟩ := rds_slice hr
  obtain ⟨n, hln⟩ : ∃ n, n = l.length := ⟨_, rfl⟩
  obtain ⟨r, hrr⟩ : ∃ r, r = (if (Dm.wt (ChallengesD l) : Int) ≤ z then z - Dm.wt (ChallengesD l) else -1 : Int) := ⟨_, rfl⟩
  rw [← hrr]
  rw [wt_Challenges, ← hln] at hrr
  unfold maxLen at hn
  have HO := Lib.hid ho
  have HR := Lib.hid hr
  have HX := Lib.hid hrr
  rw [← hln] at hn ⊢
  have HL := Lib.hid hln
  clear hr ho hln hrr
  by_cases hbig : z < (n : Int)
  · have e : r = -1 := by rw [HX.out, if_neg (by omega)]
    subst e
    clear HX
    go_enter Tryz.func41, Tryz.ntmps41
    go_wp2
    go_ret
    exact ⟨rfl, Below.refl _ _⟩
  have h0 : ∀ l : List Challenge, wtL (l.flatMap Challenge.dcs) = 0 := by
    intro l
    induction l with
    | nil => rfl
    | cons x l ih => rw [List.flatMap_cons, wtL_app, ih, Challenge.wt]
  have e : r = z - n := by rw [HX.out, h0, if_pos (by omega)]; omega
  subst e
  clear HX h0
  go_enter Tryz.func41, Tryz.ntmps41
  go_wp2
  go_ret
  exact ⟨rfl, Below.refl _ _⟩
end Go.Proofs.YtllaacdikjffmaaGreat.Fx
