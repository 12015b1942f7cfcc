import Derived.Test.YtllaacdikjffmaaGreatBb
/-
  Credential: a struct of the laws as a thing of its own, and the laws' own functions over it.
-/
set_option linter.unusedVariables false
namespace Go.Proofs.YtllaacdikjffmaaGreat.Fx
open Go.ChangeShapes Go.WideShapes Go.ChangeAt Go.RowKit Go.Deep
open S0 S1 S9 S10 Ty Dm Bx
structure Credential where
  Handle : Int
  Public : Int
  Counter : Int
  Cut : Bool
def Credential.dcs (x : Credential) : List Dc := [.val (.int .i64 x.Handle), .val (.int .i64 x.Public), .val (.int .i64 x.Counter), .val (.bool x.Cut)]
theorem Credential.len (x : Credential) : x.dcs.length = 4 := rfl
structure Credential.ok (x : Credential) : Prop where
  Handle : -9223372036854775808 ≤ x.Handle ∧ x.Handle ≤ 9223372036854775807
  Public : -9223372036854775808 ≤ x.Public ∧ x.Public ≤ 9223372036854775807
  Counter : -9223372036854775808 ≤ x.Counter ∧ x.Counter ≤ 9223372036854775807
  Cut : True
def tyCredential : Ty := .cons (.int .i64) (.cons (.int .i64) (.cons (.int .i64) (.cons .bool (.done))))
set_option maxRecDepth 100000 in
theorem Credential.is {ds : List Dc} (h : Is tyCredential ds) : ∃ x : Credential, ds = x.dcs ∧ x.ok := by
  unfold tyCredential at h
  simp only [Is] at h
  obtain ⟨_, _, rfl, ⟨x0, rfl, h0⟩, ⟨_, _, rfl, ⟨x1, rfl, h1⟩, ⟨_, _, rfl, ⟨x2, rfl, h2⟩, ⟨_, _, rfl, ⟨x3, rfl⟩, rfl⟩⟩⟩⟩ := h
  exact ⟨⟨x0, x1, x2, x3⟩, rfl, ⟨M1.i64_wf h0, M1.i64_wf h1, M1.i64_wf h2, trivial⟩⟩
def CredentialsD (l : List Credential) : Dc := .row 81 4 l.length (l.flatMap Credential.dcs)
def tyCredentials : Ty := .slice 122 81 tyCredential
set_option maxRecDepth 100000 in
theorem isCredentials {ds : List Dc} (h : Is tyCredentials ds) : ∃ l : List Credential, ds = [CredentialsD l] ∧ l.length ≤ maxLen ∧ ∀ x ∈ l, x.ok := by
  unfold tyCredentials at h
  simp only [Is] at h
  obtain ⟨n, cs, rfl, hn, hp⟩ := h
  obtain ⟨l, rfl, rfl, ho⟩ := of_pieces Credential.dcs Credential.ok (fun ds hd => Credential.is hd) n cs hp
  exact ⟨l, rfl, hn, ho⟩
theorem Credential.rds {w : World} {hi : Nat} {x : Credential} {vs : List Go.Value} (h : RdsL w hi x.dcs vs) : vs = [.int .i64 x.Handle, .int .i64 x.Public, .int .i64 x.Counter, .bool x.Cut] := by
  unfold Credential.dcs at h
  simp only [RdsL] at h
  obtain ⟨_, _, rfl, h0, ⟨_, _, rfl, h1, ⟨_, _, rfl, h2, ⟨_, _, rfl, h3, rfl⟩⟩⟩⟩ := h
  obtain rfl := rds_val h0
  obtain rfl := rds_val h1
  obtain rfl := rds_val h2
  obtain rfl := rds_val h3
  exact rfl
theorem Credential.owns {w : World} {lo : Nat} {x : Credential} {vs : List Go.Value} {bs : List Nat} (h : OwnsL w lo x.dcs vs bs) : vs = [.int .i64 x.Handle, .int .i64 x.Public, .int .i64 x.Counter, .bool x.Cut] ∧ bs = [] := by
  unfold Credential.dcs at h
  simp only [OwnsL] at h
  obtain ⟨_, _, _, _, rfl, h0, ⟨_, _, _, _, rfl, h1, ⟨_, _, _, _, rfl, h2, ⟨_, _, _, _, rfl, h3, ⟨rfl, rfl⟩, rfl⟩, rfl⟩, rfl⟩, rfl⟩ := h
  obtain ⟨rfl, rfl⟩ := owns_val h0
  obtain ⟨rfl, rfl⟩ := owns_val h1
  obtain ⟨rfl, rfl⟩ := owns_val h2
  obtain ⟨rfl, rfl⟩ := owns_val h3
  exact ⟨rfl, by simp⟩
theorem Credential.mkO {w : World} {lo : Nat} {x : Credential}    : OwnsL w lo x.dcs [.int .i64 x.Handle, .int .i64 x.Public, .int .i64 x.Counter, .bool x.Cut] ([]) := by
  unfold Credential.dcs
  simp only [OwnsL]
  exact ⟨_, _, [], [], rfl, by simp [Owns], ⟨_, _, [], [], rfl, by simp [Owns], ⟨_, _, [], [], rfl, by simp [Owns], ⟨_, _, [], [], rfl, by simp [Owns], ⟨rfl, rfl⟩, by simp⟩, by simp⟩, by simp⟩, by simp⟩
theorem Credential.wt (x : Credential) : wtL x.dcs = 0 := by
  unfold Credential.dcs
  simp only [wtL]
  simp only [wt_int, wt_bool]
  first | done | omega
set_option maxHeartbeats 3200000 in
set_option maxRecDepth 100000 in
theorem toCredential (w : World) (x : Credential) (vs : List Go.Value) (h : RdsL w w.heap.size x.dcs vs) (hw : wtL x.dcs ≤ 4294967296) : Calls Tryz.prog 97 #[.agg vs.toArray] w (MadeL x.dcs w) := by
  obtain rfl := Credential.rds h
  go_enter Tryz.func97, Tryz.ntmps97
  go_wp2
  refine bodyPost_ret (v := .agg #[.int .i64 x.Handle, .int .i64 x.Public, .int .i64 x.Counter, .bool x.Cut]) (by simp [results, Tryz.results97, go_sem]) rfl ⟨[.int .i64 x.Handle, .int .i64 x.Public, .int .i64 x.Counter, .bool x.Cut], [], rfl, Credential.mkO, by simp, ?_⟩
  exact (((Below.refl _ _).alloc (Nat.le_refl _) _).alloc (by simp) _).alloc (by simp; omega) _
set_option maxHeartbeats 3200000 in
set_option maxRecDepth 100000 in
theorem eqCredential (w : World) (x : Credential) (us vs : List Value) (h : RdsL w w.heap.size x.dcs us) (h2 : RdsL w w.heap.size x.dcs vs) (hw : wtL x.dcs ≤ 4294967296) : Calls Tryz.prog 102 #[.agg us.toArray, .agg vs.toArray] w (Gives (.bool true) w) := by
  obtain rfl := Credential.rds h
  obtain rfl := Credential.rds h2
  go_enter Tryz.func102, Tryz.ntmps102
  go_wp2
  go_ret
  exact ⟨rfl, ((Below.refl _ _).alloc (Nat.le_refl _) _).alloc (by simp) _⟩
set_option maxRecDepth 100000 in
theorem Credential_info : (Tryz.prog.info? 81).map (fun i => (i.zero, i.size, i.bytes)) = some (some (.agg #[.int .i64 0, .int .i64 0, .int .i64 0, .bool false]), 4, 32) := by kernel_rfl
theorem wt_Credentials (l : List Credential) : Dm.wt (CredentialsD l) = l.length + wtL (l.flatMap Credential.dcs) := by unfold CredentialsD; simp only [Dm.wt]
theorem cntL_Credential (x : Credential) : cntL x.dcs = 4 := by
  unfold Credential.dcs
  simp only [cntL, cnt_plain]
  first | done | omega
theorem cntb_Credential (x : Credential) : cntL x.dcs ≤ 64 + 64 * wtL x.dcs := by
  rw [cntL_Credential, Credential.wt]
  omega
theorem cnt_Credentials (l : List Credential) : cnt (CredentialsD l) ≤ 64 * Dm.wt (CredentialsD l) := by
  rw [wt_Credentials]
  unfold CredentialsD
  simp only [cnt]
  exact cnt_flatMap Credential.dcs cntb_Credential l
set_option maxHeartbeats 3200000 in
set_option maxRecDepth 100000 in
theorem toCredentialS (w : World) (l : List Credential) (v : Value) (hr : Rds w w.heap.size (CredentialsD l) v) (hw : Dm.wt (CredentialsD l) ≤ 4294967296) : Calls Tryz.prog 77 #[v] w (MadeD (CredentialsD l) w) := by
  obtain ⟨i0, hi, hz0, hz1, hz2⟩ := info_parts Credential_info
  rw [wt_Credentials] at hw
  obtain ⟨A, c, rfl⟩ := rds_slice hr
  obtain ⟨n, hln⟩ : ∃ n, n = l.length := ⟨_, rfl⟩
  have HR := Lib.hid hr
  have HD := Lib.hid (show ∀ x ∈ l, wtL x.dcs ≤ 4294967296 from fun x hx => by have := wt_mem Credential.dcs hx; omega)
  have hn : n ≤ 4294967296 := by omega
  rw [← hln]
  clear hr hw
  have HL := Lib.hid hln
  clear hln
  go_enter Tryz.func77, Tryz.ntmps77
  go_wp2_with (at_make; refine wpList_make_full _ rfl _ _ 50 rfl w.heap.size 81 i0 (.agg #[.int .i64 0, .int .i64 0, .int .i64 0, .bool false]) 4 Tryz.underlying50 hi hz0 hz1 _ _ _ _ n rfl rfl rfl rfl (by rw [hz2]; omega) (by unfold maxLen; omega) (Nat.le_refl _) ?_; intro w1 hown hgrow)
  have HF : Bs.Fill 81 4 n w ((l.take 0).flatMap Credential.dcs) ((n - 0) * 4) w1 := ⟨[], _, [], by rw [List.nil_append]; exact hown, by have := hown.1; omega, by simp [OwnsL], by simp, below_grown hgrow (Nat.le_refl _) (fun _ h => by cases h)⟩
  clear hown hgrow
  go_loopw [4] (fun i wr => ∃ k : Nat, k ≤ n ∧ i = .int .i64 k ∧ Bs.Fill 81 4 n w ((l.take k).flatMap Credential.dcs) ((n - k) * 4) wr) (fun i _ => n - (intOf i).toNat)
  case atStart => exact ⟨0, by omega, rfl, HF⟩
  case round =>
    obtain ⟨k, hk, rfl, HF⟩ := hrel
    by_cases hlt : k < n
    · obtain ⟨b, hb⟩ := get_some l (i := k) (by rw [← HL.out]; exact hlt)
      have hbw : Below w.heap.size w wr := by obtain ⟨_, _, _, _, _, _, _, h⟩ := HF; exact h
      have hws := hbw.size
      obtain ⟨vp, tail, bs, ho, ht, _, _, _⟩ := id HF
      have hfl : vp.length + tail.length = n * 4 := by have := ho.1; rw [List.length_append] at this; exact this
      obtain ⟨g, off, us, rfl, hg, hru, hc⟩ := piece_at Credential.len (by omega) (rds_keep hbw.block _ _ HR.out) hb
      obtain rfl := Credential.rds hru
      have c0 : wr.cell? ⟨g, off + k * 4, none⟩ = some (.int .i64 b.Handle) := hc 0 _ rfl
      have c1 : wr.cell? ⟨g, off + k * 4 + 1, none⟩ = some (.int .i64 b.Public) := hc 1 _ rfl
      have c2 : wr.cell? ⟨g, off + k * 4 + 2, none⟩ = some (.int .i64 b.Counter) := hc 2 _ rfl
      have c3 : wr.cell? ⟨g, off + k * 4 + 3, none⟩ = some (.bool b.Cut) := hc 3 _ rfl
      have HU := Lib.hid hru
      clear hc hru
      have HB := Lib.hid hb
      have HW := Lib.hid hbw
      have hdl := HD.out b (List.mem_of_getElem? hb)
      clear hb
      have HF1 := Lib.hid HF
      have HO := Lib.hid ho
      clear HF ho hbw ht hfl
      go_wp2_with fail
      (with_reducible refine (toCredential _ b _ (rdsL_more hws _ _ HU.out) hdl).mono ?_); rintro e w2 ⟨vs2, s2, rfl, o2, n2, b2⟩
      have O2 := Lib.hid o2
      obtain ⟨rfl, -⟩ := Credential.owns o2
      have ho2 := own_below HO.out b2
      obtain ⟨z0, q0, f0⟩ := Bs.stored_any ho2 (k * 4) (by omega)
      obtain ⟨z1, q1, f1⟩ := Bs.stored_any ho2 (k * 4 + 1) (by omega)
      obtain ⟨z2, q2, f2⟩ := Bs.stored_any ho2 (k * 4 + 2) (by omega)
      obtain ⟨z3, q3, f3⟩ := Bs.stored_any ho2 (k * 4 + 3) (by omega)
      have hgg := (ho2.lt _ rfl).2
      have hnk : (n - k) * 4 = (n - (k + 1)) * 4 + 4 := by omega
      rw [hnk] at HF1
      have HN := fill_many (p := k * 4) HF1.out (by rw [flat_len Credential.len, List.length_take, ← HL.out, Nat.min_eq_left (by omega)]) b2 O2.out n2 rfl
      rw [← take_next HB.out] at HN
      replace HN := Lib.hid HN
      clear o2 ho2 hnk HF1 O2
      go_wp2
      go_roundw
      case rel => exact ⟨k + 1, by omega, by go_num, HN.out⟩
      case measure => simp [intOf]; omega
    · have hkn : k = n := by omega
      have hd : decide (k < n) = false := by simp; omega
      rw [hkn, Nat.sub_self, Nat.zero_mul, show l.take n = l by rw [HL.out, List.take_length]] at HF
      clear hkn
      obtain ⟨bs, h1, h2, h3⟩ := Bs.fill_end HF
      go_wp2
      go_ret
      refine ⟨_, bs, rfl, ?_, h2, h3⟩
      unfold CredentialsD
      rw [← HL.out]
      exact h1
set_option maxHeartbeats 3200000 in
set_option maxRecDepth 100000 in
theorem eqCredentialS (w : World) (l : List Credential) (u v : Value) (hu : Rds w w.heap.size (CredentialsD l) u) (hv : Rds w w.heap.size (CredentialsD l) v) (hw : Dm.wt (CredentialsD l) ≤ 4294967296) : Calls Tryz.prog 89 #[u, v] w (Gives (.bool true) w) := by
  rw [wt_Credentials] at hw
  obtain ⟨A, c, rfl⟩ := rds_slice hu
  obtain ⟨A2, c2, rfl⟩ := rds_slice hv
  obtain ⟨n, hln⟩ : ∃ n, n = l.length := ⟨_, rfl⟩
  have HR := Lib.hid hu
  have HS := Lib.hid hv
  have HD := Lib.hid (show ∀ x ∈ l, wtL x.dcs ≤ 4294967296 from fun x hx => by have := wt_mem Credential.dcs hx; omega)
  have hn : n ≤ 4294967296 := by omega
  rw [← hln]
  clear hu hv hw
  have HL := Lib.hid hln
  clear hln
  go_enter Tryz.func89, Tryz.ntmps89
  go_wp2
  go_loopw [5] (fun i wr => ∃ k : Nat, k ≤ n ∧ i = .int .i64 k ∧ Below w.heap.size w wr) (fun i _ => n - (intOf i).toNat)
  case atStart => exact ⟨0, by omega, rfl, Below.refl _ _⟩
  case round =>
    obtain ⟨k, hk, rfl, HW⟩ := hrel
    by_cases hlt : k < n
    · obtain ⟨b, hb⟩ := get_some l (i := k) (by rw [← HL.out]; exact hlt)
      have hws := HW.size
      obtain ⟨g, off, us, rfl, hg, hru, hc⟩ := piece_at Credential.len (by omega) (rds_keep HW.block _ _ HR.out) hb
      obtain ⟨g2, off2, us2, rfl, hg2, hru2, hc2⟩ := piece_at Credential.len (by omega) (rds_keep HW.block _ _ HS.out) hb
      obtain rfl := Credential.rds hru
      obtain rfl := Credential.rds hru2
      have c0 : wr.cell? ⟨g, off + k * 4, none⟩ = some (.int .i64 b.Handle) := hc 0 _ rfl
      have d0 : wr.cell? ⟨g2, off2 + k * 4, none⟩ = some (.int .i64 b.Handle) := hc2 0 _ rfl
      have c1 : wr.cell? ⟨g, off + k * 4 + 1, none⟩ = some (.int .i64 b.Public) := hc 1 _ rfl
      have d1 : wr.cell? ⟨g2, off2 + k * 4 + 1, none⟩ = some (.int .i64 b.Public) := hc2 1 _ rfl
      have c2 : wr.cell? ⟨g, off + k * 4 + 2, none⟩ = some (.int .i64 b.Counter) := hc 2 _ rfl
      have d2 : wr.cell? ⟨g2, off2 + k * 4 + 2, none⟩ = some (.int .i64 b.Counter) := hc2 2 _ rfl
      have c3 : wr.cell? ⟨g, off + k * 4 + 3, none⟩ = some (.bool b.Cut) := hc 3 _ rfl
      have d3 : wr.cell? ⟨g2, off2 + k * 4 + 3, none⟩ = some (.bool b.Cut) := hc2 3 _ rfl
      have hdl := HD.out b (List.mem_of_getElem? hb)
      have RB := Lib.hid (rdsL_on (rdsL_more hws _ _ hru) (drewN_below wr 1 _))
      have RB2 := Lib.hid (rdsL_on (rdsL_more hws _ _ hru2) (drewN_below wr 1 _))
      clear hb hc hc2 hru hru2
      go_wp2_with fail
      go_region_with (go_at_call 102; refine (eqCredential _ b _ _ RB.out RB2.out hdl).mono ?_; rintro e w2 ⟨rfl, b2⟩)
      all_goals
        have HW2 : Below w.heap.size w w2 := HW.trans ((drewN_below wr 1 _).trans (b2.mono hws))
        go_wp2
        go_roundw
        case rel => exact ⟨k + 1, by omega, by go_num, HW2⟩
        case measure => simp [intOf]; omega
    · have hd : decide (k < n) = false := by simp; omega
      go_wp2
      go_ret
      exact ⟨rfl, HW⟩
set_option maxHeartbeats 3200000 in
set_option maxRecDepth 100000 in
theorem markCredentialS (w : World) (base : Nat) (l : List Credential) (v : Value) (bs : List Nat) (k : Int) (ho : Owns w base (CredentialsD l) v bs) (hnd : bs.Nodup) (hw : Dm.wt (CredentialsD l) ≤ 4294967296) (hk0 : 0 ≤ k) (hk1 : k + cnt (CredentialsD l) ≤ 1099511627776) :
    Calls Tryz.prog 62 #[v, .int .i64 k] w (MarkD (CredentialsD l) k base v bs w) := by
  rw [wt_Credentials] at hw
  obtain ⟨A, c, rfl⟩ := owns_slice ho
  obtain ⟨n, hln⟩ : ∃ n, n = l.length := ⟨_, rfl⟩
  have HF : Mkg 81 4 l.length base (l.flatMap Credential.dcs) k A l.length c bs w 0 w := mkg_start ho hnd
  have hcl := flat_len Credential.len l
  have hkc := fun p => kP_le (cs := l.flatMap Credential.dcs) (k := k) (p := p)
  have hcc : cnt (CredentialsD l) = cntL (l.flatMap Credential.dcs) := by unfold CredentialsD; simp only [cnt]
  rw [hcc] at hk1
  have HC := Lib.hid hcc
  have HD := Lib.hid (show ∀ x ∈ l, wtL x.dcs ≤ 4294967296 from fun x hx => by have := wt_mem Credential.dcs hx; omega)
  have hn : n ≤ 4294967296 := by omega
  rw [← hln] at hcl HF ⊢
  have HK := Lib.hid hkc
  have HCL := Lib.hid hcl
  have HL := Lib.hid hln
  clear ho hnd hw hcc hln hkc hcl
  have hz : kP (l.flatMap Credential.dcs) k 0 = k := kP_zero _ _
  go_enter Tryz.func62, Tryz.ntmps62
  go_wp2
  go_loopw [1, 5] (fun q i wr => ∃ j : Nat, j ≤ n ∧ i = .int .i64 j ∧ q = .int .i64 (kP (l.flatMap Credential.dcs) k (j * 4)) ∧ Mkg 81 4 n base (l.flatMap Credential.dcs) k A n c bs w (j * 4) wr) (fun _ i _ => n - (intOf i).toNat)
  case atStart => exact ⟨0, by omega, rfl, by rw [Nat.zero_mul, hz], by rw [Nat.zero_mul]; exact HF⟩
  case round =>
    obtain ⟨j, hj, rfl, rfl, HM⟩ := hrel
    clear HF hz
    by_cases hlt : j < n
    · obtain ⟨b, hb⟩ := get_some l (i := j) (by rw [← HL.out]; exact hlt)
      have hdl := HD.out b (List.mem_of_getElem? hb)
      have e0 : (l.flatMap Credential.dcs)[j * 4]? = some (.val (.int .i64 b.Handle)) := flat_at Credential.len l j b 0 hb (by omega)
      have e1 : (l.flatMap Credential.dcs)[j * 4 + 1]? = some (.val (.int .i64 b.Public)) := flat_at Credential.len l j b 1 hb (by omega)
      have e2 : (l.flatMap Credential.dcs)[j * 4 + 2]? = some (.val (.int .i64 b.Counter)) := flat_at Credential.len l j b 2 hb (by omega)
      have e3 : (l.flatMap Credential.dcs)[j * 4 + 3]? = some (.val (.bool b.Cut)) := flat_at Credential.len l j b 3 hb (by omega)
      obtain ⟨q, hq⟩ : ∃ q, q = kP (l.flatMap Credential.dcs) k (j * 4) := ⟨_, rfl⟩
      have k0 : kP (l.flatMap Credential.dcs) k (j * 4) = q := hq.symm
      have k1 : kP (l.flatMap Credential.dcs) k (j * 4 + 1) = q + 1 := by rw [show j * 4 + 1 = (j * 4) + 1 from rfl, kP_val e0, k0]
      have k2 : kP (l.flatMap Credential.dcs) k (j * 4 + 2) = q + 1 + 1 := by rw [show j * 4 + 2 = (j * 4 + 1) + 1 from rfl, kP_val e1, k1]
      have k3 : kP (l.flatMap Credential.dcs) k (j * 4 + 3) = q + 1 + 1 + 1 := by rw [show j * 4 + 3 = (j * 4 + 2) + 1 from rfl, kP_val e2, k2]
      have k4 : kP (l.flatMap Credential.dcs) k (j * 4 + 4) = q + 1 + 1 + 1 + 1 := by rw [show j * 4 + 4 = (j * 4 + 3) + 1 from rfl, kP_val e3, k3]
      have kz : kP (l.flatMap Credential.dcs) k ((j + 1) * 4) = q + 1 + 1 + 1 + 1 := by rw [show (j + 1) * 4 = j * 4 + 4 by omega]; exact k4
      have q0 := (HK.out (j * 4)).1
      have q4 := (HK.out ((j + 1) * 4)).2
      rw [kz] at q4
      rw [k0] at q0 ⊢
      clear hq
      obtain ⟨g, off, rfl, hbg, hgs⟩ := mkg_addr HM e0
      have M0 := HM
      clear HM hb
      obtain ⟨c0, f0, M1⟩ := mkg_int k0 (show off + (j * 4) = off + j * 4 from rfl) M0 e0
      obtain ⟨c1, f1, M2⟩ := mkg_int k1 (show off + (j * 4 + 1) = off + j * 4 + 1 from rfl) M1 e1
      obtain ⟨c2, f2, M3⟩ := mkg_int k2 (show off + (j * 4 + 2) = off + j * 4 + 2 from rfl) M2 e2
      obtain ⟨c3, f3, M4⟩ := mkg_bool k3 (show off + (j * 4 + 3) = off + j * 4 + 3 from rfl) (by omega) M3 e3
      have H4 := Lib.hid (show Mkg 81 4 n base (l.flatMap Credential.dcs) k (some ⟨g, off, none⟩) n c bs w ((j + 1) * 4) _ by rw [show (j + 1) * 4 = j * 4 + 4 by omega]; exact M4)
      have HZ := Lib.hid kz
      clear M1 M2 M3 M4 e0 e1 e2 e3 k0 k1 k2 k3 k4 kz M0
      go_wp2
      go_roundw
      case rel => exact ⟨j + 1, by omega, by go_num, by rw [HZ.out], H4.out⟩
      case measure => simp [intOf]; omega
    · have hd : decide (j < n) = false := by simp; omega
      have hjn : n = j := by omega
      subst hjn
      obtain ⟨h1, h2⟩ := mkg_end HM HCL.out
      have hk2 : kP (l.flatMap Credential.dcs) k (n * 4) = k + cntL (l.flatMap Credential.dcs) := kP_all _ _ _ HCL.out
      rw [hk2]
      have H1 := Lib.hid h1
      have H2 := Lib.hid h2
      clear HM h1 h2 hk2
      go_wp2
      go_ret
      refine ⟨by rw [HC.out]; rfl, ?_, H2.out⟩
      have := H1.out
      unfold CredentialsD
      rw [← HL.out]
      exact this
set_option maxHeartbeats 3200000 in
set_option maxRecDepth 100000 in
theorem heldCredentialS (w : World) (l : List Credential) (v : Value) (k : Int) (hr : Rds w w.heap.size (mk (CredentialsD l) k) v) (hw : Dm.wt (CredentialsD l) ≤ 4294967296) (hk0 : 0 ≤ k) (hk1 : k + cnt (CredentialsD l) ≤ 1099511627776) :
    Calls Tryz.prog 64 #[v, .int .i64 k] w (Gives (.int .i64 (k + cnt (CredentialsD l))) w) := by
  rw [wt_Credentials] at hw
  unfold CredentialsD at hr
  obtain ⟨A, c, rfl⟩ := marked_slice hr
  obtain ⟨n, hln⟩ : ∃ n, n = l.length := ⟨_, rfl⟩
  have hcl := flat_len Credential.len l
  have hkc := fun p => kP_le (cs := l.flatMap Credential.dcs) (k := k) (p := p)
  have hcc : cnt (CredentialsD l) = cntL (l.flatMap Credential.dcs) := by unfold CredentialsD; simp only [cnt]
  rw [hcc] at hk1 ⊢
  have HD := Lib.hid (show ∀ x ∈ l, wtL x.dcs ≤ 4294967296 from fun x hx => by have := wt_mem Credential.dcs hx; omega)
  have hn : n ≤ 4294967296 := by omega
  have HR := Lib.hid hr
  rw [← hln] at hcl HR ⊢
  have HK := Lib.hid hkc
  have HCL := Lib.hid hcl
  have HL := Lib.hid hln
  clear hr hw hcc hln hkc hcl
  have hz : kP (l.flatMap Credential.dcs) k 0 = k := kP_zero _ _
  go_enter Tryz.func64, Tryz.ntmps64
  go_wp2
  go_loopw [1, 5] (fun q i wr => ∃ j : Nat, j ≤ n ∧ i = .int .i64 j ∧ q = .int .i64 (kP (l.flatMap Credential.dcs) k (j * 4)) ∧ Below w.heap.size w wr) (fun _ i _ => n - (intOf i).toNat)
  case atStart => exact ⟨0, by omega, rfl, by rw [Nat.zero_mul, hz], Below.refl _ _⟩
  case round =>
    obtain ⟨j, hj, rfl, rfl, HW⟩ := hrel
    clear hz
    by_cases hlt : j < n
    · obtain ⟨b, hb⟩ := get_some l (i := j) (by rw [← HL.out]; exact hlt)
      have hdl := HD.out b (List.mem_of_getElem? hb)
      have e0 : (l.flatMap Credential.dcs)[j * 4]? = some (.val (.int .i64 b.Handle)) := flat_at Credential.len l j b 0 hb (by omega)
      have e1 : (l.flatMap Credential.dcs)[j * 4 + 1]? = some (.val (.int .i64 b.Public)) := flat_at Credential.len l j b 1 hb (by omega)
      have e2 : (l.flatMap Credential.dcs)[j * 4 + 2]? = some (.val (.int .i64 b.Counter)) := flat_at Credential.len l j b 2 hb (by omega)
      have e3 : (l.flatMap Credential.dcs)[j * 4 + 3]? = some (.val (.bool b.Cut)) := flat_at Credential.len l j b 3 hb (by omega)
      obtain ⟨q, hq⟩ : ∃ q, q = kP (l.flatMap Credential.dcs) k (j * 4) := ⟨_, rfl⟩
      have k0 : kP (l.flatMap Credential.dcs) k (j * 4) = q := hq.symm
      have k1 : kP (l.flatMap Credential.dcs) k (j * 4 + 1) = q + 1 := by rw [show j * 4 + 1 = (j * 4) + 1 from rfl, kP_val e0, k0]
      have k2 : kP (l.flatMap Credential.dcs) k (j * 4 + 2) = q + 1 + 1 := by rw [show j * 4 + 2 = (j * 4 + 1) + 1 from rfl, kP_val e1, k1]
      have k3 : kP (l.flatMap Credential.dcs) k (j * 4 + 3) = q + 1 + 1 + 1 := by rw [show j * 4 + 3 = (j * 4 + 2) + 1 from rfl, kP_val e2, k2]
      have k4 : kP (l.flatMap Credential.dcs) k (j * 4 + 4) = q + 1 + 1 + 1 + 1 := by rw [show j * 4 + 4 = (j * 4 + 3) + 1 from rfl, kP_val e3, k3]
      have kz : kP (l.flatMap Credential.dcs) k ((j + 1) * 4) = q + 1 + 1 + 1 + 1 := by rw [show (j + 1) * 4 = j * 4 + 4 by omega]; exact k4
      have q0 := (HK.out (j * 4)).1
      have q4 := (HK.out ((j + 1) * 4)).2
      rw [kz] at q4
      rw [k0] at q0 ⊢
      clear hq
      have hws := HW.size
      obtain ⟨g, off, rfl, hg, hat⟩ := held_at Credential.len (rds_keep HW.block _ _ HR.out) hb (by omega)
      obtain ⟨u0, c0, r0⟩ := hat 0 _ (by omega) rfl
      rw [Nat.add_zero, k0] at r0
      obtain rfl : u0 = .int .i64 (q) := rds_val r0
      replace c0 : wr.cell? ⟨g, off + j * 4, none⟩ = some _ := c0
      obtain ⟨u1, c1, r1⟩ := hat 1 _ (by omega) rfl
      rw [show j * 4 + 1 = j * 4 + 1 from rfl, k1] at r1
      obtain rfl : u1 = .int .i64 (q + 1) := rds_val r1
      replace c1 : wr.cell? ⟨g, off + j * 4 + 1, none⟩ = some _ := c1
      obtain ⟨u2, c2, r2⟩ := hat 2 _ (by omega) rfl
      rw [show j * 4 + 2 = j * 4 + 2 from rfl, k2] at r2
      obtain rfl : u2 = .int .i64 (q + 1 + 1) := rds_val r2
      replace c2 : wr.cell? ⟨g, off + j * 4 + 2, none⟩ = some _ := c2
      obtain ⟨u3, c3, r3⟩ := hat 3 _ (by omega) rfl
      rw [show j * 4 + 3 = j * 4 + 3 from rfl, k3] at r3
      obtain rfl : u3 = .bool ((q + 1 + 1 + 1) % 3 == 0) := rds_val r3
      replace c3 : wr.cell? ⟨g, off + j * 4 + 3, none⟩ = some _ := c3
      have HZ := Lib.hid kz
      clear hat hb kz e0 e1 e2 e3 k0 k1 k2 k3 k4 r0 r1 r2 r3
      have HW2 : Below w.heap.size w wr := HW
      go_wp2
      go_roundw
      case rel => exact ⟨j + 1, by omega, by go_num, by rw [HZ.out], HW2⟩
      case measure => simp [intOf]; omega
    · have hd : decide (j < n) = false := by simp; omega
      have hjn : n = j := by omega
      subst hjn
      have hk2 : kP (l.flatMap Credential.dcs) k (n * 4) = k + cntL (l.flatMap Credential.dcs) := kP_all _ _ _ HCL.out
      rw [hk2]
      clear hk2
      go_wp2
      go_ret
      exact ⟨rfl, HW⟩
set_option maxHeartbeats 3200000 in
set_option maxRecDepth 100000 in
theorem szCredentialS (w : World) (l : List Credential) (v : Value) (z : Int) (hr : Rds w w.heap.size (CredentialsD l) v) (hn : l.length ≤ maxLen) (ho : ∀ x ∈ l, x.ok) (hz0 : 0 ≤ z) (hz1 : z ≤ 1048576) :
    Calls Tryz.prog 72 #[v, .int .i64 z] w (Gives (.int .i64 (if (Dm.wt (CredentialsD l) : Int) ≤ z then z - Dm.wt (CredentialsD l) else -1)) w) := by
  obtain ⟨A, c, rfl⟩ := rds_slice hr
  obtain ⟨n, hln⟩ : ∃ n, n = l.length := ⟨_, rfl⟩
  obtain ⟨r, hrr⟩ : ∃ r, r = (if (Dm.wt (CredentialsD l) : Int) ≤ z then z - Dm.wt (CredentialsD l) else -1 : Int) := ⟨_, rfl⟩
  rw [← hrr]
  rw [wt_Credentials, ← hln] at hrr
  unfold maxLen at hn
  have HO := Lib.hid ho
  have HR := Lib.hid hr
  have HX := Lib.hid hrr
  rw [← hln] at hn ⊢
  have HL := Lib.hid hln
  clear hr ho hln hrr
  by_cases hbig : z < (n : Int)
  · have e : r = -1 := by rw [HX.out, if_neg (by omega)]
    subst e
    clear HX
    go_enter Tryz.func72, Tryz.ntmps72
    go_wp2
    go_ret
    exact ⟨rfl, Below.refl _ _⟩
  have h0 : ∀ l : List Credential, wtL (l.flatMap Credential.dcs) = 0 := by
    intro l
    induction l with
    | nil => rfl
    | cons x l ih => rw [List.flatMap_cons, wtL_app, ih, Credential.wt]
  have e : r = z - n := by rw [HX.out, h0, if_pos (by omega)]; omega
  subst e
  clear HX h0
  go_enter Tryz.func72, Tryz.ntmps72
  go_wp2
  go_ret
  exact ⟨rfl, Below.refl _ _⟩
end Go.Proofs.YtllaacdikjffmaaGreat.Fx
