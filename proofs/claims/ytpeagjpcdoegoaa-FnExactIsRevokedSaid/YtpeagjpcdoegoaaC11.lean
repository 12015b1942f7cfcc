/-
  Contracts of chapter 11's attestations, of the model: vendors' keys, lists of revoked devices.
-/
import Derived.Test.YtpeagjpcdoegoaaC10
import Derived.Test.YtpeagjpcdoegoaaYAttestation
import Derived.Test.YtpeagjpcdoegoaaYVendorList
import Derived.Test.YtpeagjpcdoegoaaRa
import Derived.Deep.QuietTactic
import Derived.BigQuiet
import Derived.IntWalk
namespace Go.Proofs.Ytpeagjpcdoegoaa.C11
open Go.ChangeShapes Go.WideShapes Go.ChangeAt Go.RowKit
open S0 S1 S9 Dm Fx M3 M8 C3 C6 C10
set_option linter.unusedVariables false
set_option linter.unusedSimpArgs false
set_option maxRecDepth 100000
def vpr (m v : Int) : Int := der m [191, v]
def amsg (v s k : Int) : List Int := [193, v, s, k]
def attX (m : Int) (x : Fx.KeyStore) : Fx.Attestation := if vst x then ⟨x.Vendor, x.Serial, pub (devP x), sgn (vpr m x.Vendor) (amsg x.Vendor x.Serial (pub (devP x)))⟩ else ⟨0, 0, 0, 0⟩
def asc (xs : List Int) : Prop := ∀ j, j + 1 < xs.length → xs.getD j 0 < xs.getD (j + 1) 0
open Classical in
noncomputable def ascB (xs : List Int) : Bool := decide (asc xs)
open Classical in
theorem ascB_t {xs : List Int} (h : asc xs) : ascB xs = true := decide_eq_true h
open Classical in
theorem ascB_f {xs : List Int} (h : ¬ asc xs) : ascB xs = false := decide_eq_false h
open Classical in
theorem ascB_asc {xs : List Int} (h : ascB xs = true) : asc xs := of_decide_eq_true h
noncomputable def vlB (x : Fx.VendorList) : Bool := ascB x.Revoked && isKey x.Master
def rcode (v s : Int) : Int := wrap64 (wrap64 (v * 10000000) + s)
def revB (x : Fx.VendorList) (v s : Int) : Bool := x.Revoked.contains (rcode v s)
def rngB (v s : Int) : Bool := decide (1 ≤ v ∧ v ≤ 9) && decide (0 ≤ s ∧ s ≤ 1000000)
noncomputable def chkB (l : Fx.VendorList) (a : Fx.Attestation) : Bool := vlB l && rngB a.Vendor a.Serial && !revB l a.Vendor a.Serial && vsg (pub (vpr l.Master a.Vendor)) (amsg a.Vendor a.Serial a.Key) a.Signature
theorem rd_of {w : World} {hi n c : Nat} {A : Option Addr} {xs : List Int} (g : Rds w hi (flatD 3 .i64 1 n xs) (.slice A n c)) : Rd w hi 1 A n (ints .i64 xs) := by
  obtain ⟨A', c', e, hr⟩ := rds_flat g
  injection e with e1 _ _
  subst e1
  exact hr
theorem sh_list {w : World} {lo : Nat} {x : Fx.VendorList} {us : List Value} {bs : List Nat} (o : OwnsL w lo x.dcs us bs) : ∀ A c, us = [.int .i64 x.Master, .slice A x.Revoked.length c] → Sh A x.Revoked.length c := by
  intro A c e
  obtain ⟨A', c', b, e', oy, -⟩ := VendorList.owns o
  rw [e] at e'
  injection e' with _ e'
  injection e' with e' _
  injection e' with e1 _ e2
  subst e1
  subst e2
  exact own_sh (flat_owns oy).1
theorem specVpr (w : World) (m v : Int) (m0 : -9223372036854775808 ≤ m) (m1 : m ≤ 9223372036854775807) (v0 : -9223372036854775808 ≤ v) (v1 : v ≤ 9223372036854775807) : Calls Try.prog 21 #[.int .i64 m, .int .i64 v] w (Gives (.int .i64 (vpr m v)) w) := by
  have b1 : Below w.heap.size w (w.alloc (.cells #[.int .i64 191, .int .i64 v] 3)) := (Below.refl _ _).alloc (Nat.le_refl _) _
  have ho3 : (w.alloc (.cells #[.int .i64 191, .int .i64 v] 3)).ownsRow w.heap.size 3 1 (.slice (some ⟨w.heap.size, 0, none⟩) 2 2) 2 (ints .i64 [191, v]) := own_ints w [191, v] 2 rfl (by omega)
  have HO := Lib.hid (show okInts [191, v] from (okInts.one (x := 191) (by omega) (by omega)).app (okInts.one v0 v1))
  go_enter Try.func21, Try.ntmps21
  go_wp2_with fail
  (with_reducible refine (specDer _ _ 2 2 [191, v] m m0 m1 (Rd.own ho3) HO.out (by omega)).mono ?_); rintro e w2 ⟨rfl, b2⟩
  go_wp2
  go_ret
  exact ⟨rfl, b1.trans (b2.mono b1.size)⟩
theorem specAmsg (w : World) (v s k : Int) : Calls Try.prog 64 #[.int .i64 v, .int .i64 s, .int .i64 k] w (MadeS 3 1 4 (ints .i64 (amsg v s k)) w) := by
  have ho := own_ints w [193, v, s, k] 4 rfl (by omega)
  go_enter Try.func64, Try.ntmps64
  go_wp2
  go_ret
  exact ⟨_, _, rfl, ho, (Below.refl _ _).alloc (Nat.le_refl _) _⟩
theorem specRng (w : World) (v s : Int) : Calls Try.prog 67 #[.int .i64 v, .int .i64 s] w fun e w' => e = .returned (.bool (rngB v s)) ∧ w = w' := by
  obtain ⟨r, hr⟩ : ∃ r, r = rngB v s := ⟨_, rfl⟩
  rw [← hr]
  unfold rngB at hr
  by_cases h1 : 1 ≤ v ∧ v ≤ 9
  · rw [decide_eq_true h1, Bool.true_and] at hr
    by_cases h2 : 0 ≤ s ∧ s ≤ 1000000
    · obtain rfl : r = true := by rw [hr, decide_eq_true h2]
      clear hr
      go_enter Try.func67, Try.ntmps67
      go_wp2_with fail
      (with_reducible refine (C1.specIn_t _ _ _ _ (by omega) (by omega)).mono ?_); rintro e w' ⟨rfl, rfl⟩
      go_wp2_with fail
      (with_reducible refine (C1.specIn_t _ _ _ _ (by omega) (by omega)).mono ?_); rintro e w' ⟨rfl, rfl⟩
      go_wp2
      go_ret
      exact ⟨rfl, rfl⟩
    · obtain rfl : r = false := by rw [hr, decide_eq_false h2]
      clear hr
      go_enter Try.func67, Try.ntmps67
      go_wp2_with fail
      (with_reducible refine (C1.specIn_t _ _ _ _ (by omega) (by omega)).mono ?_); rintro e w' ⟨rfl, rfl⟩
      go_wp2_with fail
      (with_reducible refine (C1.specIn_f _ _ _ _ (by omega)).mono ?_); rintro e w' ⟨rfl, rfl⟩
      go_wp2
      go_ret
      exact ⟨rfl, rfl⟩
  · obtain rfl : r = false := by rw [hr, decide_eq_false h1]; rfl
    clear hr
    go_enter Try.func67, Try.ntmps67
    go_wp2_with fail
    (with_reducible refine (C1.specIn_f _ _ _ _ (by omega)).mono ?_); rintro e w' ⟨rfl, rfl⟩
    go_wp2
    go_ret
    exact ⟨rfl, rfl⟩
theorem not_yet {xs : List Int} {c : Int} {k : Nat} (h : ∀ j, j < k → xs.getD j 0 ≠ c) (hk : xs.length ≤ k) : xs.contains c = false := by
  rw [← Bool.not_eq_true, List.contains_iff_mem]
  intro hm
  obtain ⟨j, hj, e⟩ := List.getElem_of_mem hm
  refine h j (by omega) ?_
  rw [List.getD_eq_getElem?_getD, List.getElem?_eq_getElem hj]
  exact e
theorem found {xs : List Int} {c : Int} {k : Nat} (hk : k < xs.length) (h : xs.getD k 0 = c) : xs.contains c = true := by
  rw [List.contains_iff_mem, ← h, List.getD_eq_getElem?_getD, List.getElem?_eq_getElem hk]
  exact List.getElem_mem hk
set_option maxHeartbeats 1600000 in
theorem specRev (w : World) (x : Fx.VendorList) (v s : Int) (us : List Value) (h : RdsL w w.heap.size x.dcs us) (hn : x.Revoked.length ≤ 16000000) : Calls Try.prog 35 #[.agg us.toArray, .int .i64 v, .int .i64 s] w (Gives (.bool (revB x v s)) w) := by
  obtain ⟨A, c, rfl, g⟩ := VendorList.rds h
  have hr := rd_of g
  clear h g
  obtain ⟨r, hrr⟩ : ∃ r, r = revB x v s := ⟨_, rfl⟩
  rw [← hrr]
  unfold revB at hrr
  obtain ⟨cd, hcd⟩ : ∃ cd, cd = rcode v s := ⟨_, rfl⟩
  rw [← hcd] at hrr
  unfold rcode at hcd
  obtain ⟨xs, hxs⟩ : ∃ xs, xs = x.Revoked := ⟨_, rfl⟩
  rw [← hxs] at hr hrr hn ⊢
  obtain ⟨n, hnn⟩ : ∃ n, n = xs.length := ⟨_, rfl⟩
  rw [← hnn] at hr hn ⊢
  have HL := Lib.hid hnn
  have HRR := Lib.hid hrr
  clear hnn hrr hxs
  obtain ⟨w1, hw1⟩ : ∃ y, y = w.alloc (.cells #[.int .i64 x.Master, .slice A n c] 27) := ⟨_, rfl⟩
  have op := var_owns w 27 2 [.int .i64 x.Master, .slice A n c] rfl
  have HB : Below w.heap.size w w1 := hw1 ▸ (Below.refl _ _).alloc (Nat.le_refl _) _
  rw [← hw1] at op
  have HR := Lib.hid (hr.on HB)
  have c1 : w1.cell? ⟨w.heap.size, 1, none⟩ = some (.slice A n c) := var_load op (by simp) 1 _ rfl
  clear hr op
  go_enter Try.func35, Try.ntmps35
  go_wp2_with fail
  rw [← hw1]
  clear hw1
  go_loop [7] (fun i => ∃ k : Nat, k ≤ n ∧ i = .int .i64 k ∧ ∀ j, j < k → xs.getD j 0 ≠ cd) (fun i => n - (intOf i).toNat)
  case atStart => exact ⟨0, by omega, rfl, fun _ h => by omega⟩
  case round =>
    obtain ⟨k, hk, rfl, hG⟩ := hrel
    have HG := Lib.hid hG
    clear hG
    by_cases hlt : k < n
    · obtain ⟨b, off, rfl, hbl, hcell⟩ := HR.out.at_ hlt
      obtain ⟨y, hy⟩ : ∃ y, y = xs.getD k 0 := ⟨_, rfl⟩
      rw [← hy] at hcell
      have HY := Lib.hid hy
      clear hy
      by_cases hc : y = cd
      · obtain rfl : r = true := by rw [HRR.out]; exact found (by have := HL.out; omega) (HY.out.symm.trans hc)
        have hcb : (y == wrap64 (wrap64 (v * 10000000) + s)) = true := by rw [← hcd]; simpa using hc
        clear hc hcd
        go_wp2
        go_ret
        exact ⟨rfl, HB⟩
      · have hcb : (y == wrap64 (wrap64 (v * 10000000) + s)) = false := by rw [← hcd]; simpa using hc
        have HC := Lib.hid hc
        clear hc hcd
        go_wp2
        go_round
        case rel =>
          refine ⟨k + 1, by omega, by go_num, fun j hj => ?_⟩
          by_cases h : j < k
          · exact HG.out j h
          · obtain rfl : j = k := by omega
            exact HY.out ▸ HC.out
        case measure => simp [intOf]; omega
    · obtain rfl : k = n := by omega
      obtain rfl : r = false := by rw [HRR.out]; exact not_yet HG.out (by have := HL.out; omega)
      clear hcd
      go_wp2
      go_ret
      exact ⟨rfl, HB⟩
set_option maxHeartbeats 1600000 in
theorem specVl (w : World) (x : Fx.VendorList) (us : List Value) (h : RdsL w w.heap.size x.dcs us) (hn : x.Revoked.length ≤ 16000000) : Calls Try.prog 27 #[.agg us.toArray] w (Gives (.bool (vlB x)) w) := by
  obtain ⟨A, c, rfl, g⟩ := VendorList.rds h
  have hr := rd_of g
  clear h g
  obtain ⟨r, hrr⟩ : ∃ r, r = vlB x := ⟨_, rfl⟩
  rw [← hrr]
  unfold vlB at hrr
  obtain ⟨xs, hxs⟩ : ∃ xs, xs = x.Revoked := ⟨_, rfl⟩
  rw [← hxs] at hr hrr hn ⊢
  obtain ⟨n, hnn⟩ : ∃ n, n = xs.length := ⟨_, rfl⟩
  rw [← hnn] at hr hn ⊢
  have HL := Lib.hid hnn
  have HRR := Lib.hid hrr
  clear hnn hrr hxs
  obtain ⟨w1, hw1⟩ : ∃ y, y = w.alloc (.cells #[.int .i64 x.Master, .slice A n c] 27) := ⟨_, rfl⟩
  have op := var_owns w 27 2 [.int .i64 x.Master, .slice A n c] rfl
  have HB : Below w.heap.size w w1 := hw1 ▸ (Below.refl _ _).alloc (Nat.le_refl _) _
  rw [← hw1] at op
  have HR := Lib.hid (hr.on HB)
  have HF := Lib.hid (show ∀ wx, Below w1.heap.size w1 wx → wx.cell? ⟨w.heap.size, 0, none⟩ = some (.int .i64 x.Master) ∧ wx.cell? ⟨w.heap.size, 1, none⟩ = some (.slice A n c) from fun wx hb => ⟨var_load (owns_below op hb) (by simp) 0 _ rfl, var_load (owns_below op hb) (by simp) 1 _ rfl⟩)
  clear hr op
  go_enter Try.func27, Try.ntmps27
  go_wp2_with fail
  rw [← hw1]
  clear hw1
  go_loopw [3] (fun i wr => ∃ k : Nat, (k = 0 ∨ k < n) ∧ i = .int .i64 ((k : Int) + 1) ∧ (∀ j, j < k → xs.getD j 0 < xs.getD (j + 1) 0) ∧ Below w1.heap.size w1 wr) (fun i _ => n + 1 - (intOf i).toNat)
  case atStart => exact ⟨0, Or.inl rfl, rfl, fun _ h => by omega, Below.refl _ _⟩
  case round =>
    obtain ⟨k, hk, rfl, hG, hb⟩ := hrel
    have HG := Lib.hid hG
    obtain ⟨c0, c1⟩ := HF.out _ hb
    have HK := Lib.hid hk
    clear hG hk
    by_cases hlt : k + 1 < n
    · have hI : ((k : Int) + 1) < (n : Int) := by omega
      obtain ⟨b, off, rfl, hbl, hcell⟩ := (HR.out.below hb).at_ hlt
      obtain ⟨b', off', e', -, hcell0⟩ := (HR.out.below hb).at_ (show k < n by omega)
      injection e' with e'
      injection e' with e1 e2 _
      subst e1
      subst e2
      obtain ⟨y, hy⟩ : ∃ y, y = xs.getD k 0 := ⟨_, rfl⟩
      obtain ⟨z, hz⟩ : ∃ z, z = xs.getD (k + 1) 0 := ⟨_, rfl⟩
      rw [← hy] at hcell0
      rw [← hz] at hcell
      have HY := Lib.hid (And.intro hy hz)
      clear hy hz
      have i1 : (0 : Int) ≤ (k : Int) := by omega
      have i2 : (k : Int) < (n : Int) := by omega
      have i3 : (0 : Int) ≤ (k : Int) + 1 := by omega
      by_cases hc : z ≤ y
      · obtain rfl : r = false := by
          rw [HRR.out, ascB_f, Bool.false_and]
          intro ha
          have h1 := ha k (by have := HL.out; omega)
          rw [← HY.out.1, ← HY.out.2] at h1
          omega
        have hd : decide (z ≤ y) = true := by simpa using hc
        have hd2 : decide (y ≥ z) = true := by simpa using hc
        have hw : IntKind.i64.wrap ((k : Int) + 1 - 1) = (k : Int) := by rw [IntWalk.i64_in _ (by omega)]; omega
        go_wp2_with fail
        go_quiet (fail)
        clear hw
        go_wp2
        go_ret
        exact ⟨rfl, HB.trans ((hb.trans (drewN_below _ _ _)).mono HB.size)⟩
      · have hd : decide (z ≤ y) = false := by simpa using hc
        have hd2 : decide (y ≥ z) = false := by simpa using hc
        have HC := Lib.hid hc
        clear hc
        have hw : IntKind.i64.wrap ((k : Int) + 1 - 1) = (k : Int) := by rw [IntWalk.i64_in _ (by omega)]; omega
        go_wp2_with fail
        go_quiet (fail)
        clear hw
        go_wp2
        go_roundw
        case rel =>
          refine ⟨k + 1, Or.inr hlt, by go_num, fun j hj => ?_, hb.trans (drewN_below _ _ _)⟩
          by_cases h : j < k
          · exact HG.out j h
          · obtain rfl : j = k := by omega
            rw [← HY.out.1, ← HY.out.2]
            have := HC.out
            omega
        case measure => simp [intOf]; omega
    · have hI : ¬ ((k : Int) + 1) < (n : Int) := by omega
      have ha : ascB xs = true := ascB_t (fun j hj => HG.out j (by have := HL.out; have := HK.out; omega))
      have HA := Lib.hid (show r = isKey x.Master by rw [HRR.out, ha, Bool.true_and])
      clear ha
      go_wp2_with fail
      (with_reducible refine (specValid _ x.Master).mono ?_); rintro e w' ⟨rfl, rfl⟩
      rw [← HA.out]
      go_wp2
      go_ret
      exact ⟨rfl, HB.trans (hb.mono HB.size)⟩
end Go.Proofs.Ytpeagjpcdoegoaa.C11
