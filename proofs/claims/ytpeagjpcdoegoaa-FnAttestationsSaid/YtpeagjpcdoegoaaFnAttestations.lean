/-
  laws.FnAttestations returns true at every code, and leaves it as it was: a genuine device is accepted until it is revoked, and no changed attestation is. Conditions: none.
-/
import Derived.Test.YtpeagjpcdoegoaaFr
import Derived.Stop.Joined
import Derived.Test.YtpeagjpcdoegoaaCd
import Derived.Test.YtpeagjpcdoegoaaSo
import Derived.Test.YtpeagjpcdoegoaaL0
import Derived.Test.YtpeagjpcdoegoaaM15
import Derived.Test.YtpeagjpcdoegoaaC11b
import Derived.Test.YtpeagjpcdoegoaaC11c
import Derived.Test.YtpeagjpcdoegoaaC11i
namespace Go.Proofs.Ytpeagjpcdoegoaa.fnAttestations
open Go.ChangeShapes Go.WideShapes Go.ChangeAt Go.RowKit
set_option linter.unusedVariables false

open S0 S1 S9 Dm Fx M3 M8 C3 C6 C10 C11 C11b M15
set_option linter.unusedSimpArgs false
theorem rds_no {w : World} {M : Int} : RdsL w w.heap.size (Fx.VendorList.mk M []).dcs [.int .i64 M, .slice none 0 0] := VendorList.mkR (x := ⟨M, []⟩) (flat_rds (Rd.nil))
theorem sh_no {M : Int} : ∀ A c, ([.int .i64 M, .slice none 0 0] : List Value) = [.int .i64 (Fx.VendorList.mk M []).Master, .slice A (Fx.VendorList.mk M []).Revoked.length c] → Sh A (Fx.VendorList.mk M []).Revoked.length c := by
  intro A c e
  injection e with _ e
  injection e with e _
  injection e with e1 _ e2
  subst e1
  subst e2
  exact ⟨Nat.le_refl _, fun _ => ⟨rfl, rfl⟩, fun a h => by cases h⟩
theorem sh_of {M cd : Int} {A : Option Addr} {c : Nat} (hs : Sh A 1 c) : ∀ A' c', ([.int .i64 M, .slice A 1 c] : List Value) = [.int .i64 (Fx.VendorList.mk M [cd]).Master, .slice A' (Fx.VendorList.mk M [cd]).Revoked.length c'] → Sh A' (Fx.VendorList.mk M [cd]).Revoked.length c' := by
  intro A' c' e
  injection e with _ e
  injection e with e _
  injection e with e1 _ e2
  subst e1
  subst e2
  exact hs
theorem at_ok {v s d g : Int} (hv : -9223372036854775808 ≤ v ∧ v ≤ 9223372036854775807) (hs : -9223372036854775808 ≤ s ∧ s ≤ 9223372036854775807) (hd : -9223372036854775808 ≤ d ∧ d ≤ 9223372036854775807) (hg : -9223372036854775808 ≤ g ∧ g ≤ 9223372036854775807) : (Fx.Attestation.mk v s d g).ok := ⟨hv, hs, hd, hg⟩
theorem vl_ok {M : Int} {xs : List Int} (hm : -9223372036854775808 ≤ M ∧ M ≤ 9223372036854775807) (hn : xs.length ≤ 10) (hx : ∀ y ∈ xs, -9223372036854775808 ≤ y ∧ y ≤ 9223372036854775807) : (Fx.VendorList.mk M xs).ok := ⟨hm, by show xs.length ≤ maxLen; unfold maxLen; omega, hx⟩
set_option maxHeartbeats 16000000 in
set_option maxRecDepth 100000 in
theorem walkSmall (A0 : Option Addr) (n0 c0 : Nat) (xs0 : List Int) (hl : ¬ 1048576 < n0) (W : World) (hr : Rd W W.heap.size 1 A0 n0 (ints .u8 xs0)) (hx : ∀ x ∈ xs0, 0 ≤ x ∧ x ≤ 255) :
    Calls Try.prog 3 #[.slice A0 n0 c0] W fun e w' => e = .returned (.bool true) ∧ Below W.heap.size W w' := by
  have HR := Lib.hid hr
  have HX := Lib.hid hx
  have hn0 : n0 ≤ 1048576 := by omega
  have HB : Below W.heap.size W W := Below.refl _ _
  clear hr hx
  go_enter Try.func3, Try.ntmps3
  go_wp2_with fail
  (with_reducible refine (Cd.big_no A0 n0 c0 _ hl).mono ?_); rintro e w0 ⟨rfl, rfl⟩
  go_wp2_with fail
  (with_reducible refine (L0.at_some _ A0 n0 c0 xs0 0 (by omega) (by omega) (HR.out.on HB) HX.out hn0).mono ?_); rintro e wz ⟨a0, rfl, a00, a01, rfl⟩
  obtain ⟨w1, hw1⟩ : ∃ y, y = W.alloc (.cells #[.int .i64 (1 + a0), .slice none 0 0] 27) := ⟨_, rfl⟩
  have o_l := var_owns W 27 2 [.int .i64 (1 + a0), .slice none 0 0] rfl
  have bw1 : Below W.heap.size W w1 := hw1 ▸ (Below.refl _ _).alloc (Nat.le_refl _) _
  rw [← hw1] at o_l
  have sw1 : w1.heap.size = W.heap.size + 1 := by rw [hw1]; simp
  have zw1 : W.heap.size < w1.heap.size := by rw [hw1]; simp
  replace HB := HB.trans (bw1.mono HB.size)
  go_wp2_with fail
  rw [← hw1]
  clear hw1 sw1
  obtain ⟨M, hM⟩ : ∃ M, M = 1 + a0 := ⟨_, rfl⟩
  rw [← hM] at o_l ⊢
  have m0 : 1 ≤ M := by omega
  have m1 : M ≤ 256 := by omega
  clear hM a00 a01
  (with_reducible refine (L0.at_some _ A0 n0 c0 xs0 1 (by omega) (by omega) (HR.out.on HB) HX.out hn0).mono ?_); rintro e wz ⟨a1, rfl, a10, a11, rfl⟩
  have c_l0 : w1.cell? ⟨W.heap.size, 0, none⟩ = some (.int .i64 M) := var_load o_l (by simp) 0 _ rfl
  have f_l0 : w1.frozen? ⟨W.heap.size, 0, none⟩ = false := var_frozen o_l (by simp) 0 _ rfl
  have c_l1 : w1.cell? ⟨W.heap.size, 1, none⟩ = some (.slice none 0 0) := var_load o_l (by simp) 1 _ rfl
  have f_l1 : w1.frozen? ⟨W.heap.size, 1, none⟩ = false := var_frozen o_l (by simp) 1 _ rfl
  have l_l := var_lt o_l
  go_wp2_with fail
  (with_reducible refine (L0.at_some _ A0 n0 c0 xs0 2 (by omega) (by omega) (HR.out.on HB) HX.out hn0).mono ?_); rintro e wz ⟨S, rfl, S0, S1, rfl⟩
  clear c_l0 f_l0 c_l1 f_l1 l_l
  have c_l0 : w1.cell? ⟨W.heap.size, 0, none⟩ = some (.int .i64 M) := var_load o_l (by simp) 0 _ rfl
  have f_l0 : w1.frozen? ⟨W.heap.size, 0, none⟩ = false := var_frozen o_l (by simp) 0 _ rfl
  have c_l1 : w1.cell? ⟨W.heap.size, 1, none⟩ = some (.slice none 0 0) := var_load o_l (by simp) 1 _ rfl
  have f_l1 : w1.frozen? ⟨W.heap.size, 1, none⟩ = false := var_frozen o_l (by simp) 1 _ rfl
  have l_l := var_lt o_l
  go_wp2_with fail
  (with_reducible refine (L0.at_some _ A0 n0 c0 xs0 3 (by omega) (by omega) (HR.out.on HB) HX.out hn0).mono ?_); rintro e wz ⟨a3, rfl, a30, a31, rfl⟩
  clear c_l0 f_l0 c_l1 f_l1 l_l
  have c_l0 : w1.cell? ⟨W.heap.size, 0, none⟩ = some (.int .i64 M) := var_load o_l (by simp) 0 _ rfl
  have f_l0 : w1.frozen? ⟨W.heap.size, 0, none⟩ = false := var_frozen o_l (by simp) 0 _ rfl
  have c_l1 : w1.cell? ⟨W.heap.size, 1, none⟩ = some (.slice none 0 0) := var_load o_l (by simp) 1 _ rfl
  have f_l1 : w1.frozen? ⟨W.heap.size, 1, none⟩ = false := var_frozen o_l (by simp) 1 _ rfl
  have l_l := var_lt o_l
  obtain ⟨w2, hw2⟩ : ∃ y, y = w1.alloc (.cells #[.int .i64 (1 + a1 % 9), .int .i64 S, .int .i64 (1 + a3), .int .i64 0] 29) := ⟨_, rfl⟩
  have o_s := var_owns w1 29 4 [.int .i64 (1 + a1 % 9), .int .i64 S, .int .i64 (1 + a3), .int .i64 0] rfl
  have bw2 : Below w1.heap.size w1 w2 := hw2 ▸ (Below.refl _ _).alloc (Nat.le_refl _) _
  rw [← hw2] at o_s
  have sw2 : w2.heap.size = w1.heap.size + 1 := by rw [hw2]; simp
  have zw2 : w1.heap.size < w2.heap.size := by rw [hw2]; simp
  replace o_l := owns_below o_l bw2
  replace HB := HB.trans (bw2.mono HB.size)
  go_wp2_with fail
  rw [← hw2]
  clear hw2 sw2
  obtain ⟨V, hV⟩ : ∃ V, V = 1 + a1 % 9 := ⟨_, rfl⟩
  obtain ⟨K, hK⟩ : ∃ K, K = 1 + a3 := ⟨_, rfl⟩
  rw [← hV, ← hK] at o_s ⊢
  clear c_l0 f_l0 c_l1 f_l1 l_l
  have v0 : 1 ≤ V := by omega
  have v1 : V ≤ 9 := by omega
  have k0 : 1 ≤ K := by omega
  have k1 : K ≤ 256 := by omega
  clear hV hK a10 a11 a30 a31
  have hN : Nums M V S K := ⟨⟨m0, m1⟩, ⟨v0, v1⟩, ⟨S0, S1⟩, ⟨k0, k1⟩⟩
  obtain ⟨D, hD⟩ : ∃ D, D = pub (devP (sto V S K)) := ⟨_, rfl⟩
  obtain ⟨D2, hD2⟩ : ∃ D, D = pub (devP ⟨1, 0, 7777, 0⟩) := ⟨_, rfl⟩
  obtain ⟨sg, hsg⟩ : ∃ g, g = sgn (vpr M V) (amsg V S D) := ⟨_, rfl⟩
  obtain ⟨f1, f2, f3, f4, f5⟩ := facts hN hD hD2 hsg
  have okK : (sto V S K).ok := ⟨by show _ ≤ V ∧ V ≤ _; omega, by show _ ≤ S ∧ S ≤ _; omega, by show _ ≤ K ∧ K ≤ _; omega, by show (_ : Int) ≤ 0 ∧ (0 : Int) ≤ _; omega⟩
  have eA : attX M (sto V S K) = ⟨V, S, D, sg⟩ := by unfold attX; rw [vst_sto hN, hsg, hD]; rfl
  have rD := pub_in (devP (sto V S K))
  rw [← hD] at rD
  have rD2 := pub_in (devP ⟨1, 0, 7777, 0⟩)
  rw [← hD2] at rD2
  have rg : 0 ≤ sg ∧ sg ≤ 2147483646 := by rw [hsg]; exact sgn_in _ _
  obtain ⟨cd, hcd⟩ : ∃ cd, cd = V * 10000000 + S := ⟨_, rfl⟩
  obtain ⟨g1, g2⟩ := rvk_nil (M := M) (V := V) (S := S) ⟨by omega, by omega⟩ ⟨v0, v1⟩ ⟨by omega, by omega⟩
  obtain ⟨g3, g4⟩ := rvk_one (M := M) (V := V) (S := S) ⟨v0, v1⟩ ⟨by omega, by omega⟩
  have g5 := rev_one (M := M) (V := V) (S := S) ⟨v0, v1⟩ ⟨by omega, by omega⟩
  have g6 := vl_one (M := M) (c := V * 10000000 + S) ⟨by omega, by omega⟩
  rw [← hcd] at g2 g3 g4 g5 g6 f4
  have cdb : -9223372036854775808 ≤ cd ∧ cd ≤ 9223372036854775807 := by omega
  have KT := Lib.hid (fun (wx : World) => show Calls Try.prog 15 #[.int .i64 M, .agg #[.int .i64 V, .int .i64 S, .int .i64 K, .int .i64 0]] wx (MadeLx (Fx.Attestation.mk V S D sg).dcs (fun vs => .tuple #[.agg vs.toArray, .bool true]) wx) from by have h := C11i.implAtt wx M (sto V S K) _ (st_rds wx _ _) okK (by omega) (by omega); rw [eA, vst_sto hN] at h; exact h)
  have KD := Lib.hid (fun (wx : World) => show Calls Try.prog 16 #[.agg #[.int .i64 1, .int .i64 0, .int .i64 7777, .int .i64 0]] wx (Gives (.int .i64 D2) wx) from by rw [hD2]; exact specDevPub wx ⟨1, 0, 7777, 0⟩ _ (st_rds wx _ _) ⟨by show (_ : Int) ≤ 1 ∧ (1 : Int) ≤ _; omega, by show (_ : Int) ≤ 0 ∧ (0 : Int) ≤ _; omega, by show (_ : Int) ≤ 7777 ∧ (7777 : Int) ≤ _; omega, by show (_ : Int) ≤ 0 ∧ (0 : Int) ≤ _; omega⟩)
  have KR1 := Lib.hid (fun (wx : World) => show Calls Try.prog 17 #[.agg #[.int .i64 M, .slice none 0 0], .int .i64 V, .int .i64 S] wx (MadeLx (Fx.VendorList.mk M [cd]).dcs (fun vs => .tuple #[.agg vs.toArray, .bool true]) wx) from by have h := C11i.implRvk wx ⟨M, []⟩ V S _ rds_no sh_no (by simp); rw [g1, g2] at h; exact h)
  have KR2 := Lib.hid (fun (wx : World) (A : Option Addr) (c : Nat) (h : Rds wx wx.heap.size (numsD [cd]) (.slice A 1 c)) (hs : Sh A 1 c) => show Calls Try.prog 17 #[.agg #[.int .i64 M, .slice A 1 c], .int .i64 V, .int .i64 S] wx (MadeLx (Fx.VendorList.mk M [cd]).dcs (fun vs => .tuple #[.agg vs.toArray, .bool false]) wx) from by have h9 := C11i.implRvk wx ⟨M, [cd]⟩ V S _ (VendorList.mkR (x := ⟨M, [cd]⟩) h) (sh_of hs) (by simp); rw [g3, g4] at h9; exact h9)
  have KC1 := Lib.hid (fun (wx : World) => show Calls Try.prog 18 #[.agg #[.int .i64 M, .slice none 0 0], .agg #[.int .i64 V, .int .i64 S, .int .i64 D, .int .i64 sg]] wx (Gives (.bool true) wx) from by have h9 := C11i.implChk wx ⟨M, []⟩ ⟨V, S, D, sg⟩ _ _ rds_no Attestation.mkR (vl_ok (by omega) (by simp) (by simp)) (at_ok (by omega) (by omega) (by omega) (by omega)) (by simp); rw [f1] at h9; exact h9)
  have KC2 := Lib.hid (fun (wx : World) => show Calls Try.prog 18 #[.agg #[.int .i64 M, .slice none 0 0], .agg #[.int .i64 V, .int .i64 (S + 1), .int .i64 D, .int .i64 sg]] wx (Gives (.bool false) wx) from by have h9 := C11i.implChk wx ⟨M, []⟩ ⟨V, (S + 1), D, sg⟩ _ _ rds_no Attestation.mkR (vl_ok (by omega) (by simp) (by simp)) (at_ok (by omega) (by omega) (by omega) (by omega)) (by simp); rw [f2] at h9; exact h9)
  have KC3 := Lib.hid (fun (wx : World) => show Calls Try.prog 18 #[.agg #[.int .i64 M, .slice none 0 0], .agg #[.int .i64 V, .int .i64 S, .int .i64 D2, .int .i64 sg]] wx (Gives (.bool false) wx) from by have h9 := C11i.implChk wx ⟨M, []⟩ ⟨V, S, D2, sg⟩ _ _ rds_no Attestation.mkR (vl_ok (by omega) (by simp) (by simp)) (at_ok (by omega) (by omega) (by omega) (by omega)) (by simp); rw [f3] at h9; exact h9)
  have KC4 := Lib.hid (fun (wx : World) (A : Option Addr) (c : Nat) (h : Rds wx wx.heap.size (numsD [cd]) (.slice A 1 c)) => show Calls Try.prog 18 #[.agg #[.int .i64 M, .slice A 1 c], .agg #[.int .i64 V, .int .i64 S, .int .i64 D, .int .i64 sg]] wx (Gives (.bool false) wx) from by have h9 := C11i.implChk wx ⟨M, [cd]⟩ ⟨V, S, D, sg⟩ _ _ (VendorList.mkR (x := ⟨M, [cd]⟩) h) Attestation.mkR (vl_ok (by omega) (by simp) (fun y hy => by rw [List.mem_singleton.1 hy]; omega)) (at_ok (by omega) (by omega) (by omega) (by omega)) (by simp); rw [f4] at h9; exact h9)
  have KC5 := Lib.hid (fun (wx : World) => show Calls Try.prog 18 #[.agg #[.int .i64 (M + 1), .slice none 0 0], .agg #[.int .i64 V, .int .i64 S, .int .i64 D, .int .i64 sg]] wx (Gives (.bool false) wx) from by have h9 := C11i.implChk wx ⟨M + 1, []⟩ ⟨V, S, D, sg⟩ _ _ rds_no Attestation.mkR (vl_ok (by omega) (by simp) (by simp)) (at_ok (by omega) (by omega) (by omega) (by omega)) (by simp); rw [f5] at h9; exact h9)
  have KI := Lib.hid (fun (wx : World) (A : Option Addr) (c : Nat) (h : Rds wx wx.heap.size (numsD [cd]) (.slice A 1 c)) => show Calls Try.prog 19 #[.agg #[.int .i64 M, .slice A 1 c], .int .i64 V, .int .i64 S] wx (Gives (.bool true) wx) from by have h9 := C11i.implRev wx ⟨M, [cd]⟩ V S _ (VendorList.mkR (x := ⟨M, [cd]⟩) h) (by simp); rw [g5] at h9; exact h9)
  have KL := Lib.hid (fun (wx : World) (A : Option Addr) (c : Nat) (h : Rds wx wx.heap.size (numsD [cd]) (.slice A 1 c)) => show Calls Try.prog 20 #[.agg #[.int .i64 M, .slice A 1 c]] wx (Gives (.bool true) wx) from by have h9 := C11i.implVl wx ⟨M, [cd]⟩ _ (VendorList.mkR (x := ⟨M, [cd]⟩) h) (by simp); rw [g6] at h9; exact h9)
  clear f1 f2 f3 f4 f5 g1 g2 g3 g4 g5 g6 hD hD2 hsg hcd eA okK hN rD rD2 rg
  (refine (KT.out _).mono ?_); rintro e w3 ⟨v_g, s_g, rfl, o_g, n_g, bw3⟩
  replace o_l := owns_below o_l bw3
  replace o_s := owns_below o_s bw3
  replace HB := HB.trans (bw3.mono HB.size)
  have zw3 := bw3.size
  obtain ⟨rfl, -⟩ := Attestation.owns o_g
  clear o_g n_g
  have c_l0 : w3.cell? ⟨W.heap.size, 0, none⟩ = some (.int .i64 M) := var_load o_l (by simp) 0 _ rfl
  have f_l0 : w3.frozen? ⟨W.heap.size, 0, none⟩ = false := var_frozen o_l (by simp) 0 _ rfl
  have c_l1 : w3.cell? ⟨W.heap.size, 1, none⟩ = some (.slice none 0 0) := var_load o_l (by simp) 1 _ rfl
  have f_l1 : w3.frozen? ⟨W.heap.size, 1, none⟩ = false := var_frozen o_l (by simp) 1 _ rfl
  have l_l := var_lt o_l
  have c_s0 : w3.cell? ⟨w1.heap.size, 0, none⟩ = some (.int .i64 V) := var_load o_s (by simp) 0 _ rfl
  have f_s0 : w3.frozen? ⟨w1.heap.size, 0, none⟩ = false := var_frozen o_s (by simp) 0 _ rfl
  have c_s1 : w3.cell? ⟨w1.heap.size, 1, none⟩ = some (.int .i64 S) := var_load o_s (by simp) 1 _ rfl
  have f_s1 : w3.frozen? ⟨w1.heap.size, 1, none⟩ = false := var_frozen o_s (by simp) 1 _ rfl
  have c_s2 : w3.cell? ⟨w1.heap.size, 2, none⟩ = some (.int .i64 K) := var_load o_s (by simp) 2 _ rfl
  have f_s2 : w3.frozen? ⟨w1.heap.size, 2, none⟩ = false := var_frozen o_s (by simp) 2 _ rfl
  have c_s3 : w3.cell? ⟨w1.heap.size, 3, none⟩ = some (.int .i64 0) := var_load o_s (by simp) 3 _ rfl
  have f_s3 : w3.frozen? ⟨w1.heap.size, 3, none⟩ = false := var_frozen o_s (by simp) 3 _ rfl
  have l_s := var_lt o_s
  obtain ⟨w4, hw4⟩ : ∃ y, y = w3.alloc (.cells #[.int .i64 V, .int .i64 S, .int .i64 D, .int .i64 sg] 31) := ⟨_, rfl⟩
  have o_a := var_owns w3 31 4 [.int .i64 V, .int .i64 S, .int .i64 D, .int .i64 sg] rfl
  have bw4 : Below w3.heap.size w3 w4 := hw4 ▸ (Below.refl _ _).alloc (Nat.le_refl _) _
  rw [← hw4] at o_a
  have sw4 : w4.heap.size = w3.heap.size + 1 := by rw [hw4]; simp
  have zw4 : w3.heap.size < w4.heap.size := by rw [hw4]; simp
  replace o_l := owns_below o_l bw4
  replace o_s := owns_below o_s bw4
  replace HB := HB.trans (bw4.mono HB.size)
  obtain ⟨w5, hw5⟩ : ∃ y, y = w4.alloc (.cells #[.int .i64 V, .int .i64 (S + 1), .int .i64 D, .int .i64 sg] 31) := ⟨_, rfl⟩
  have o_b := var_owns w4 31 4 [.int .i64 V, .int .i64 (S + 1), .int .i64 D, .int .i64 sg] rfl
  have bw5 : Below w4.heap.size w4 w5 := hw5 ▸ (Below.refl _ _).alloc (Nat.le_refl _) _
  rw [← hw5] at o_b
  rw [sw4] at o_b
  have sw5 : w5.heap.size = w3.heap.size + 1 + 1 := by rw [hw5]; simp [sw4]
  have zw5 : w4.heap.size < w5.heap.size := by rw [hw5]; simp
  replace o_l := owns_below o_l bw5
  replace o_s := owns_below o_s bw5
  replace o_a := owns_below o_a bw5
  replace HB := HB.trans (bw5.mono HB.size)
  obtain ⟨w6, hw6⟩ : ∃ y, y = w5.alloc (.cells #[.int .i64 V, .int .i64 S, .int .i64 D, .int .i64 sg] 31) := ⟨_, rfl⟩
  have o_f := var_owns w5 31 4 [.int .i64 V, .int .i64 S, .int .i64 D, .int .i64 sg] rfl
  have bw6 : Below w5.heap.size w5 w6 := hw6 ▸ (Below.refl _ _).alloc (Nat.le_refl _) _
  rw [← hw6] at o_f
  rw [sw5] at o_f
  have sw6 : w6.heap.size = w3.heap.size + 1 + 1 + 1 := by rw [hw6]; simp [sw5]
  have zw6 : w5.heap.size < w6.heap.size := by rw [hw6]; simp
  replace o_l := owns_below o_l bw6
  replace o_s := owns_below o_s bw6
  replace o_a := owns_below o_a bw6
  replace o_b := owns_below o_b bw6
  replace HB := HB.trans (bw6.mono HB.size)
  go_wp2_with fail
  rw [← hw4, ← hw5, ← hw6]
  clear hw4 hw5 hw6 sw4 sw5 sw6
  (refine (KD.out _).mono ?_); rintro e w7 ⟨rfl, bw7⟩
  clear c_l0 f_l0 c_l1 f_l1 l_l c_s0 f_s0 c_s1 f_s1 c_s2 f_s2 c_s3 f_s3 l_s
  replace o_l := owns_below o_l bw7
  replace o_s := owns_below o_s bw7
  replace o_a := owns_below o_a bw7
  replace o_b := owns_below o_b bw7
  replace o_f := owns_below o_f bw7
  replace HB := HB.trans (bw7.mono HB.size)
  have zw7 := bw7.size
  have c_l0 : w7.cell? ⟨W.heap.size, 0, none⟩ = some (.int .i64 M) := var_load o_l (by simp) 0 _ rfl
  have f_l0 : w7.frozen? ⟨W.heap.size, 0, none⟩ = false := var_frozen o_l (by simp) 0 _ rfl
  have c_l1 : w7.cell? ⟨W.heap.size, 1, none⟩ = some (.slice none 0 0) := var_load o_l (by simp) 1 _ rfl
  have f_l1 : w7.frozen? ⟨W.heap.size, 1, none⟩ = false := var_frozen o_l (by simp) 1 _ rfl
  have l_l := var_lt o_l
  have c_s0 : w7.cell? ⟨w1.heap.size, 0, none⟩ = some (.int .i64 V) := var_load o_s (by simp) 0 _ rfl
  have f_s0 : w7.frozen? ⟨w1.heap.size, 0, none⟩ = false := var_frozen o_s (by simp) 0 _ rfl
  have c_s1 : w7.cell? ⟨w1.heap.size, 1, none⟩ = some (.int .i64 S) := var_load o_s (by simp) 1 _ rfl
  have f_s1 : w7.frozen? ⟨w1.heap.size, 1, none⟩ = false := var_frozen o_s (by simp) 1 _ rfl
  have c_s2 : w7.cell? ⟨w1.heap.size, 2, none⟩ = some (.int .i64 K) := var_load o_s (by simp) 2 _ rfl
  have f_s2 : w7.frozen? ⟨w1.heap.size, 2, none⟩ = false := var_frozen o_s (by simp) 2 _ rfl
  have c_s3 : w7.cell? ⟨w1.heap.size, 3, none⟩ = some (.int .i64 0) := var_load o_s (by simp) 3 _ rfl
  have f_s3 : w7.frozen? ⟨w1.heap.size, 3, none⟩ = false := var_frozen o_s (by simp) 3 _ rfl
  have l_s := var_lt o_s
  have c_a0 : w7.cell? ⟨w3.heap.size, 0, none⟩ = some (.int .i64 V) := var_load o_a (by simp) 0 _ rfl
  have f_a0 : w7.frozen? ⟨w3.heap.size, 0, none⟩ = false := var_frozen o_a (by simp) 0 _ rfl
  have c_a1 : w7.cell? ⟨w3.heap.size, 1, none⟩ = some (.int .i64 S) := var_load o_a (by simp) 1 _ rfl
  have f_a1 : w7.frozen? ⟨w3.heap.size, 1, none⟩ = false := var_frozen o_a (by simp) 1 _ rfl
  have c_a2 : w7.cell? ⟨w3.heap.size, 2, none⟩ = some (.int .i64 D) := var_load o_a (by simp) 2 _ rfl
  have f_a2 : w7.frozen? ⟨w3.heap.size, 2, none⟩ = false := var_frozen o_a (by simp) 2 _ rfl
  have c_a3 : w7.cell? ⟨w3.heap.size, 3, none⟩ = some (.int .i64 sg) := var_load o_a (by simp) 3 _ rfl
  have f_a3 : w7.frozen? ⟨w3.heap.size, 3, none⟩ = false := var_frozen o_a (by simp) 3 _ rfl
  have l_a := var_lt o_a
  have c_b0 : w7.cell? ⟨(w3.heap.size + 1), 0, none⟩ = some (.int .i64 V) := var_load o_b (by simp) 0 _ rfl
  have f_b0 : w7.frozen? ⟨(w3.heap.size + 1), 0, none⟩ = false := var_frozen o_b (by simp) 0 _ rfl
  have c_b1 : w7.cell? ⟨(w3.heap.size + 1), 1, none⟩ = some (.int .i64 (S + 1)) := var_load o_b (by simp) 1 _ rfl
  have f_b1 : w7.frozen? ⟨(w3.heap.size + 1), 1, none⟩ = false := var_frozen o_b (by simp) 1 _ rfl
  have c_b2 : w7.cell? ⟨(w3.heap.size + 1), 2, none⟩ = some (.int .i64 D) := var_load o_b (by simp) 2 _ rfl
  have f_b2 : w7.frozen? ⟨(w3.heap.size + 1), 2, none⟩ = false := var_frozen o_b (by simp) 2 _ rfl
  have c_b3 : w7.cell? ⟨(w3.heap.size + 1), 3, none⟩ = some (.int .i64 sg) := var_load o_b (by simp) 3 _ rfl
  have f_b3 : w7.frozen? ⟨(w3.heap.size + 1), 3, none⟩ = false := var_frozen o_b (by simp) 3 _ rfl
  have l_b := var_lt o_b
  have c_f0 : w7.cell? ⟨(w3.heap.size + 1 + 1), 0, none⟩ = some (.int .i64 V) := var_load o_f (by simp) 0 _ rfl
  have f_f0 : w7.frozen? ⟨(w3.heap.size + 1 + 1), 0, none⟩ = false := var_frozen o_f (by simp) 0 _ rfl
  have c_f1 : w7.cell? ⟨(w3.heap.size + 1 + 1), 1, none⟩ = some (.int .i64 S) := var_load o_f (by simp) 1 _ rfl
  have f_f1 : w7.frozen? ⟨(w3.heap.size + 1 + 1), 1, none⟩ = false := var_frozen o_f (by simp) 1 _ rfl
  have c_f2 : w7.cell? ⟨(w3.heap.size + 1 + 1), 2, none⟩ = some (.int .i64 D) := var_load o_f (by simp) 2 _ rfl
  have f_f2 : w7.frozen? ⟨(w3.heap.size + 1 + 1), 2, none⟩ = false := var_frozen o_f (by simp) 2 _ rfl
  have c_f3 : w7.cell? ⟨(w3.heap.size + 1 + 1), 3, none⟩ = some (.int .i64 sg) := var_load o_f (by simp) 3 _ rfl
  have f_f3 : w7.frozen? ⟨(w3.heap.size + 1 + 1), 3, none⟩ = false := var_frozen o_f (by simp) 3 _ rfl
  have l_f := var_lt o_f
  go_wp2_with fail
  clear c_l0 f_l0 c_l1 f_l1 l_l c_s0 f_s0 c_s1 f_s1 c_s2 f_s2 c_s3 f_s3 l_s c_a0 f_a0 c_a1 f_a1 c_a2 f_a2 c_a3 f_a3 l_a c_b0 f_b0 c_b1 f_b1 c_b2 f_b2 c_b3 f_b3 l_b c_f0 f_f0 c_f1 f_f1 c_f2 f_f2 c_f3 f_f3 l_f
  obtain ⟨w8, hw8⟩ : ∃ y, y = (w7.setCell ⟨(w3.heap.size + 1 + 1), 2, none⟩ (.int .i64 D2)) := ⟨_, rfl⟩
  obtain ⟨o_new, tw8⟩ := var_some [.int .i64 D2] 2 _ _ o_f (by simp)
  rw [show setAll w7 ((w3.heap.size + 1 + 1)) 2 [.int .i64 D2] = w8 from hw8.symm] at o_new tw8
  replace o_f : Owns w8 _ (varD 31 4 [.int .i64 V, .int .i64 S, .int .i64 D2, .int .i64 sg]) _ _ := o_new
  clear o_new
  replace o_l := owns_turned o_l tw8 (fun b hb hb2 => by simp at hb hb2; omega)
  replace o_s := owns_turned o_s tw8 (fun b hb hb2 => by simp at hb hb2; omega)
  replace o_a := owns_turned o_a tw8 (fun b hb hb2 => by simp at hb hb2; omega)
  replace o_b := owns_turned o_b tw8 (fun b hb hb2 => by simp at hb hb2; omega)
  replace HB := below_turned HB tw8 (fun b hb => by simp at hb; omega)
  have zw8 := tw8.2.2.2.1
  rw [← hw8]
  clear hw8
  (refine (KR1.out _).mono ?_); rintro e w9 ⟨v_r, s_r, rfl, o_r0, n_r, bw9⟩
  replace o_l := owns_below o_l bw9
  replace o_s := owns_below o_s bw9
  replace o_a := owns_below o_a bw9
  replace o_b := owns_below o_b bw9
  replace o_f := owns_below o_f bw9
  replace HB := HB.trans (bw9.mono HB.size)
  have zw9 := bw9.size
  obtain ⟨A, c, b_r, rfl, o_y, -⟩ := VendorList.owns o_r0
  clear o_r0
  have i_y := Fx.made_in o_y
  have c_l0 : w9.cell? ⟨W.heap.size, 0, none⟩ = some (.int .i64 M) := var_load o_l (by simp) 0 _ rfl
  have f_l0 : w9.frozen? ⟨W.heap.size, 0, none⟩ = false := var_frozen o_l (by simp) 0 _ rfl
  have c_l1 : w9.cell? ⟨W.heap.size, 1, none⟩ = some (.slice none 0 0) := var_load o_l (by simp) 1 _ rfl
  have f_l1 : w9.frozen? ⟨W.heap.size, 1, none⟩ = false := var_frozen o_l (by simp) 1 _ rfl
  have l_l := var_lt o_l
  have c_s0 : w9.cell? ⟨w1.heap.size, 0, none⟩ = some (.int .i64 V) := var_load o_s (by simp) 0 _ rfl
  have f_s0 : w9.frozen? ⟨w1.heap.size, 0, none⟩ = false := var_frozen o_s (by simp) 0 _ rfl
  have c_s1 : w9.cell? ⟨w1.heap.size, 1, none⟩ = some (.int .i64 S) := var_load o_s (by simp) 1 _ rfl
  have f_s1 : w9.frozen? ⟨w1.heap.size, 1, none⟩ = false := var_frozen o_s (by simp) 1 _ rfl
  have c_s2 : w9.cell? ⟨w1.heap.size, 2, none⟩ = some (.int .i64 K) := var_load o_s (by simp) 2 _ rfl
  have f_s2 : w9.frozen? ⟨w1.heap.size, 2, none⟩ = false := var_frozen o_s (by simp) 2 _ rfl
  have c_s3 : w9.cell? ⟨w1.heap.size, 3, none⟩ = some (.int .i64 0) := var_load o_s (by simp) 3 _ rfl
  have f_s3 : w9.frozen? ⟨w1.heap.size, 3, none⟩ = false := var_frozen o_s (by simp) 3 _ rfl
  have l_s := var_lt o_s
  have c_a0 : w9.cell? ⟨w3.heap.size, 0, none⟩ = some (.int .i64 V) := var_load o_a (by simp) 0 _ rfl
  have f_a0 : w9.frozen? ⟨w3.heap.size, 0, none⟩ = false := var_frozen o_a (by simp) 0 _ rfl
  have c_a1 : w9.cell? ⟨w3.heap.size, 1, none⟩ = some (.int .i64 S) := var_load o_a (by simp) 1 _ rfl
  have f_a1 : w9.frozen? ⟨w3.heap.size, 1, none⟩ = false := var_frozen o_a (by simp) 1 _ rfl
  have c_a2 : w9.cell? ⟨w3.heap.size, 2, none⟩ = some (.int .i64 D) := var_load o_a (by simp) 2 _ rfl
  have f_a2 : w9.frozen? ⟨w3.heap.size, 2, none⟩ = false := var_frozen o_a (by simp) 2 _ rfl
  have c_a3 : w9.cell? ⟨w3.heap.size, 3, none⟩ = some (.int .i64 sg) := var_load o_a (by simp) 3 _ rfl
  have f_a3 : w9.frozen? ⟨w3.heap.size, 3, none⟩ = false := var_frozen o_a (by simp) 3 _ rfl
  have l_a := var_lt o_a
  have c_b0 : w9.cell? ⟨(w3.heap.size + 1), 0, none⟩ = some (.int .i64 V) := var_load o_b (by simp) 0 _ rfl
  have f_b0 : w9.frozen? ⟨(w3.heap.size + 1), 0, none⟩ = false := var_frozen o_b (by simp) 0 _ rfl
  have c_b1 : w9.cell? ⟨(w3.heap.size + 1), 1, none⟩ = some (.int .i64 (S + 1)) := var_load o_b (by simp) 1 _ rfl
  have f_b1 : w9.frozen? ⟨(w3.heap.size + 1), 1, none⟩ = false := var_frozen o_b (by simp) 1 _ rfl
  have c_b2 : w9.cell? ⟨(w3.heap.size + 1), 2, none⟩ = some (.int .i64 D) := var_load o_b (by simp) 2 _ rfl
  have f_b2 : w9.frozen? ⟨(w3.heap.size + 1), 2, none⟩ = false := var_frozen o_b (by simp) 2 _ rfl
  have c_b3 : w9.cell? ⟨(w3.heap.size + 1), 3, none⟩ = some (.int .i64 sg) := var_load o_b (by simp) 3 _ rfl
  have f_b3 : w9.frozen? ⟨(w3.heap.size + 1), 3, none⟩ = false := var_frozen o_b (by simp) 3 _ rfl
  have l_b := var_lt o_b
  have c_f0 : w9.cell? ⟨(w3.heap.size + 1 + 1), 0, none⟩ = some (.int .i64 V) := var_load o_f (by simp) 0 _ rfl
  have f_f0 : w9.frozen? ⟨(w3.heap.size + 1 + 1), 0, none⟩ = false := var_frozen o_f (by simp) 0 _ rfl
  have c_f1 : w9.cell? ⟨(w3.heap.size + 1 + 1), 1, none⟩ = some (.int .i64 S) := var_load o_f (by simp) 1 _ rfl
  have f_f1 : w9.frozen? ⟨(w3.heap.size + 1 + 1), 1, none⟩ = false := var_frozen o_f (by simp) 1 _ rfl
  have c_f2 : w9.cell? ⟨(w3.heap.size + 1 + 1), 2, none⟩ = some (.int .i64 D2) := var_load o_f (by simp) 2 _ rfl
  have f_f2 : w9.frozen? ⟨(w3.heap.size + 1 + 1), 2, none⟩ = false := var_frozen o_f (by simp) 2 _ rfl
  have c_f3 : w9.cell? ⟨(w3.heap.size + 1 + 1), 3, none⟩ = some (.int .i64 sg) := var_load o_f (by simp) 3 _ rfl
  have f_f3 : w9.frozen? ⟨(w3.heap.size + 1 + 1), 3, none⟩ = false := var_frozen o_f (by simp) 3 _ rfl
  have l_f := var_lt o_f
  obtain ⟨w10, hw10⟩ : ∃ y, y = w9.alloc (.cells #[.int .i64 M, .slice A 1 c] 27) := ⟨_, rfl⟩
  have o_r := var_owns w9 27 2 [.int .i64 M, .slice A 1 c] rfl
  have bw10 : Below w9.heap.size w9 w10 := hw10 ▸ (Below.refl _ _).alloc (Nat.le_refl _) _
  rw [← hw10] at o_r
  have sw10 : w10.heap.size = w9.heap.size + 1 := by rw [hw10]; simp
  have zw10 : w9.heap.size < w10.heap.size := by rw [hw10]; simp
  replace o_l := owns_below o_l bw10
  replace o_s := owns_below o_s bw10
  replace o_a := owns_below o_a bw10
  replace o_b := owns_below o_b bw10
  replace o_f := owns_below o_f bw10
  replace o_y := owns_below o_y bw10
  replace HB := HB.trans (bw10.mono HB.size)
  go_wp2_with fail
  rw [← hw10]
  clear hw10 sw10
  (refine (KR2.out _ A c (owns_rds _ _ _ o_y) (own_sh (flat_owns o_y).1)).mono ?_); rintro e w11 ⟨v_r2, s_r2, rfl, o_r0, n_r2, bw11⟩
  clear c_l0 f_l0 c_l1 f_l1 l_l c_s0 f_s0 c_s1 f_s1 c_s2 f_s2 c_s3 f_s3 l_s c_a0 f_a0 c_a1 f_a1 c_a2 f_a2 c_a3 f_a3 l_a c_b0 f_b0 c_b1 f_b1 c_b2 f_b2 c_b3 f_b3 l_b c_f0 f_f0 c_f1 f_f1 c_f2 f_f2 c_f3 f_f3 l_f
  replace o_l := owns_below o_l bw11
  replace o_s := owns_below o_s bw11
  replace o_a := owns_below o_a bw11
  replace o_b := owns_below o_b bw11
  replace o_f := owns_below o_f bw11
  replace o_r := owns_below o_r bw11
  replace o_y := owns_below o_y bw11
  replace HB := HB.trans (bw11.mono HB.size)
  have zw11 := bw11.size
  obtain ⟨A2, c2, b_r2, rfl, -, -⟩ := VendorList.owns o_r0
  clear o_r0
  have c_l0 : w11.cell? ⟨W.heap.size, 0, none⟩ = some (.int .i64 M) := var_load o_l (by simp) 0 _ rfl
  have f_l0 : w11.frozen? ⟨W.heap.size, 0, none⟩ = false := var_frozen o_l (by simp) 0 _ rfl
  have c_l1 : w11.cell? ⟨W.heap.size, 1, none⟩ = some (.slice none 0 0) := var_load o_l (by simp) 1 _ rfl
  have f_l1 : w11.frozen? ⟨W.heap.size, 1, none⟩ = false := var_frozen o_l (by simp) 1 _ rfl
  have l_l := var_lt o_l
  have c_s0 : w11.cell? ⟨w1.heap.size, 0, none⟩ = some (.int .i64 V) := var_load o_s (by simp) 0 _ rfl
  have f_s0 : w11.frozen? ⟨w1.heap.size, 0, none⟩ = false := var_frozen o_s (by simp) 0 _ rfl
  have c_s1 : w11.cell? ⟨w1.heap.size, 1, none⟩ = some (.int .i64 S) := var_load o_s (by simp) 1 _ rfl
  have f_s1 : w11.frozen? ⟨w1.heap.size, 1, none⟩ = false := var_frozen o_s (by simp) 1 _ rfl
  have c_s2 : w11.cell? ⟨w1.heap.size, 2, none⟩ = some (.int .i64 K) := var_load o_s (by simp) 2 _ rfl
  have f_s2 : w11.frozen? ⟨w1.heap.size, 2, none⟩ = false := var_frozen o_s (by simp) 2 _ rfl
  have c_s3 : w11.cell? ⟨w1.heap.size, 3, none⟩ = some (.int .i64 0) := var_load o_s (by simp) 3 _ rfl
  have f_s3 : w11.frozen? ⟨w1.heap.size, 3, none⟩ = false := var_frozen o_s (by simp) 3 _ rfl
  have l_s := var_lt o_s
  have c_a0 : w11.cell? ⟨w3.heap.size, 0, none⟩ = some (.int .i64 V) := var_load o_a (by simp) 0 _ rfl
  have f_a0 : w11.frozen? ⟨w3.heap.size, 0, none⟩ = false := var_frozen o_a (by simp) 0 _ rfl
  have c_a1 : w11.cell? ⟨w3.heap.size, 1, none⟩ = some (.int .i64 S) := var_load o_a (by simp) 1 _ rfl
  have f_a1 : w11.frozen? ⟨w3.heap.size, 1, none⟩ = false := var_frozen o_a (by simp) 1 _ rfl
  have c_a2 : w11.cell? ⟨w3.heap.size, 2, none⟩ = some (.int .i64 D) := var_load o_a (by simp) 2 _ rfl
  have f_a2 : w11.frozen? ⟨w3.heap.size, 2, none⟩ = false := var_frozen o_a (by simp) 2 _ rfl
  have c_a3 : w11.cell? ⟨w3.heap.size, 3, none⟩ = some (.int .i64 sg) := var_load o_a (by simp) 3 _ rfl
  have f_a3 : w11.frozen? ⟨w3.heap.size, 3, none⟩ = false := var_frozen o_a (by simp) 3 _ rfl
  have l_a := var_lt o_a
  have c_b0 : w11.cell? ⟨(w3.heap.size + 1), 0, none⟩ = some (.int .i64 V) := var_load o_b (by simp) 0 _ rfl
  have f_b0 : w11.frozen? ⟨(w3.heap.size + 1), 0, none⟩ = false := var_frozen o_b (by simp) 0 _ rfl
  have c_b1 : w11.cell? ⟨(w3.heap.size + 1), 1, none⟩ = some (.int .i64 (S + 1)) := var_load o_b (by simp) 1 _ rfl
  have f_b1 : w11.frozen? ⟨(w3.heap.size + 1), 1, none⟩ = false := var_frozen o_b (by simp) 1 _ rfl
  have c_b2 : w11.cell? ⟨(w3.heap.size + 1), 2, none⟩ = some (.int .i64 D) := var_load o_b (by simp) 2 _ rfl
  have f_b2 : w11.frozen? ⟨(w3.heap.size + 1), 2, none⟩ = false := var_frozen o_b (by simp) 2 _ rfl
  have c_b3 : w11.cell? ⟨(w3.heap.size + 1), 3, none⟩ = some (.int .i64 sg) := var_load o_b (by simp) 3 _ rfl
  have f_b3 : w11.frozen? ⟨(w3.heap.size + 1), 3, none⟩ = false := var_frozen o_b (by simp) 3 _ rfl
  have l_b := var_lt o_b
  have c_f0 : w11.cell? ⟨(w3.heap.size + 1 + 1), 0, none⟩ = some (.int .i64 V) := var_load o_f (by simp) 0 _ rfl
  have f_f0 : w11.frozen? ⟨(w3.heap.size + 1 + 1), 0, none⟩ = false := var_frozen o_f (by simp) 0 _ rfl
  have c_f1 : w11.cell? ⟨(w3.heap.size + 1 + 1), 1, none⟩ = some (.int .i64 S) := var_load o_f (by simp) 1 _ rfl
  have f_f1 : w11.frozen? ⟨(w3.heap.size + 1 + 1), 1, none⟩ = false := var_frozen o_f (by simp) 1 _ rfl
  have c_f2 : w11.cell? ⟨(w3.heap.size + 1 + 1), 2, none⟩ = some (.int .i64 D2) := var_load o_f (by simp) 2 _ rfl
  have f_f2 : w11.frozen? ⟨(w3.heap.size + 1 + 1), 2, none⟩ = false := var_frozen o_f (by simp) 2 _ rfl
  have c_f3 : w11.cell? ⟨(w3.heap.size + 1 + 1), 3, none⟩ = some (.int .i64 sg) := var_load o_f (by simp) 3 _ rfl
  have f_f3 : w11.frozen? ⟨(w3.heap.size + 1 + 1), 3, none⟩ = false := var_frozen o_f (by simp) 3 _ rfl
  have l_f := var_lt o_f
  have c_r0 : w11.cell? ⟨w9.heap.size, 0, none⟩ = some (.int .i64 M) := var_load o_r (by simp) 0 _ rfl
  have f_r0 : w11.frozen? ⟨w9.heap.size, 0, none⟩ = false := var_frozen o_r (by simp) 0 _ rfl
  have c_r1 : w11.cell? ⟨w9.heap.size, 1, none⟩ = some (.slice A 1 c) := var_load o_r (by simp) 1 _ rfl
  have f_r1 : w11.frozen? ⟨w9.heap.size, 1, none⟩ = false := var_frozen o_r (by simp) 1 _ rfl
  have l_r := var_lt o_r
  obtain ⟨w12, hw12⟩ : ∃ y, y = w11.alloc (.cells #[.int .i64 M, .slice A2 1 c2] 27) := ⟨_, rfl⟩
  have o_q := var_owns w11 27 2 [.int .i64 M, .slice A2 1 c2] rfl
  have bw12 : Below w11.heap.size w11 w12 := hw12 ▸ (Below.refl _ _).alloc (Nat.le_refl _) _
  rw [← hw12] at o_q
  have sw12 : w12.heap.size = w11.heap.size + 1 := by rw [hw12]; simp
  have zw12 : w11.heap.size < w12.heap.size := by rw [hw12]; simp
  replace o_l := owns_below o_l bw12
  replace o_s := owns_below o_s bw12
  replace o_a := owns_below o_a bw12
  replace o_b := owns_below o_b bw12
  replace o_f := owns_below o_f bw12
  replace o_r := owns_below o_r bw12
  replace o_y := owns_below o_y bw12
  replace HB := HB.trans (bw12.mono HB.size)
  go_wp2_with fail
  rw [← hw12]
  clear hw12 sw12
  (refine (KC1.out _).mono ?_); rintro e w13 ⟨rfl, bw13⟩
  clear c_l0 f_l0 c_l1 f_l1 l_l c_s0 f_s0 c_s1 f_s1 c_s2 f_s2 c_s3 f_s3 l_s c_a0 f_a0 c_a1 f_a1 c_a2 f_a2 c_a3 f_a3 l_a c_b0 f_b0 c_b1 f_b1 c_b2 f_b2 c_b3 f_b3 l_b c_f0 f_f0 c_f1 f_f1 c_f2 f_f2 c_f3 f_f3 l_f c_r0 f_r0 c_r1 f_r1 l_r
  replace o_l := owns_below o_l bw13
  replace o_s := owns_below o_s bw13
  replace o_a := owns_below o_a bw13
  replace o_b := owns_below o_b bw13
  replace o_f := owns_below o_f bw13
  replace o_r := owns_below o_r bw13
  replace o_q := owns_below o_q bw13
  replace o_y := owns_below o_y bw13
  replace HB := HB.trans (bw13.mono HB.size)
  have zw13 := bw13.size
  have c_l0 : w13.cell? ⟨W.heap.size, 0, none⟩ = some (.int .i64 M) := var_load o_l (by simp) 0 _ rfl
  have f_l0 : w13.frozen? ⟨W.heap.size, 0, none⟩ = false := var_frozen o_l (by simp) 0 _ rfl
  have c_l1 : w13.cell? ⟨W.heap.size, 1, none⟩ = some (.slice none 0 0) := var_load o_l (by simp) 1 _ rfl
  have f_l1 : w13.frozen? ⟨W.heap.size, 1, none⟩ = false := var_frozen o_l (by simp) 1 _ rfl
  have l_l := var_lt o_l
  have c_s0 : w13.cell? ⟨w1.heap.size, 0, none⟩ = some (.int .i64 V) := var_load o_s (by simp) 0 _ rfl
  have f_s0 : w13.frozen? ⟨w1.heap.size, 0, none⟩ = false := var_frozen o_s (by simp) 0 _ rfl
  have c_s1 : w13.cell? ⟨w1.heap.size, 1, none⟩ = some (.int .i64 S) := var_load o_s (by simp) 1 _ rfl
  have f_s1 : w13.frozen? ⟨w1.heap.size, 1, none⟩ = false := var_frozen o_s (by simp) 1 _ rfl
  have c_s2 : w13.cell? ⟨w1.heap.size, 2, none⟩ = some (.int .i64 K) := var_load o_s (by simp) 2 _ rfl
  have f_s2 : w13.frozen? ⟨w1.heap.size, 2, none⟩ = false := var_frozen o_s (by simp) 2 _ rfl
  have c_s3 : w13.cell? ⟨w1.heap.size, 3, none⟩ = some (.int .i64 0) := var_load o_s (by simp) 3 _ rfl
  have f_s3 : w13.frozen? ⟨w1.heap.size, 3, none⟩ = false := var_frozen o_s (by simp) 3 _ rfl
  have l_s := var_lt o_s
  have c_a0 : w13.cell? ⟨w3.heap.size, 0, none⟩ = some (.int .i64 V) := var_load o_a (by simp) 0 _ rfl
  have f_a0 : w13.frozen? ⟨w3.heap.size, 0, none⟩ = false := var_frozen o_a (by simp) 0 _ rfl
  have c_a1 : w13.cell? ⟨w3.heap.size, 1, none⟩ = some (.int .i64 S) := var_load o_a (by simp) 1 _ rfl
  have f_a1 : w13.frozen? ⟨w3.heap.size, 1, none⟩ = false := var_frozen o_a (by simp) 1 _ rfl
  have c_a2 : w13.cell? ⟨w3.heap.size, 2, none⟩ = some (.int .i64 D) := var_load o_a (by simp) 2 _ rfl
  have f_a2 : w13.frozen? ⟨w3.heap.size, 2, none⟩ = false := var_frozen o_a (by simp) 2 _ rfl
  have c_a3 : w13.cell? ⟨w3.heap.size, 3, none⟩ = some (.int .i64 sg) := var_load o_a (by simp) 3 _ rfl
  have f_a3 : w13.frozen? ⟨w3.heap.size, 3, none⟩ = false := var_frozen o_a (by simp) 3 _ rfl
  have l_a := var_lt o_a
  have c_b0 : w13.cell? ⟨(w3.heap.size + 1), 0, none⟩ = some (.int .i64 V) := var_load o_b (by simp) 0 _ rfl
  have f_b0 : w13.frozen? ⟨(w3.heap.size + 1), 0, none⟩ = false := var_frozen o_b (by simp) 0 _ rfl
  have c_b1 : w13.cell? ⟨(w3.heap.size + 1), 1, none⟩ = some (.int .i64 (S + 1)) := var_load o_b (by simp) 1 _ rfl
  have f_b1 : w13.frozen? ⟨(w3.heap.size + 1), 1, none⟩ = false := var_frozen o_b (by simp) 1 _ rfl
  have c_b2 : w13.cell? ⟨(w3.heap.size + 1), 2, none⟩ = some (.int .i64 D) := var_load o_b (by simp) 2 _ rfl
  have f_b2 : w13.frozen? ⟨(w3.heap.size + 1), 2, none⟩ = false := var_frozen o_b (by simp) 2 _ rfl
  have c_b3 : w13.cell? ⟨(w3.heap.size + 1), 3, none⟩ = some (.int .i64 sg) := var_load o_b (by simp) 3 _ rfl
  have f_b3 : w13.frozen? ⟨(w3.heap.size + 1), 3, none⟩ = false := var_frozen o_b (by simp) 3 _ rfl
  have l_b := var_lt o_b
  have c_f0 : w13.cell? ⟨(w3.heap.size + 1 + 1), 0, none⟩ = some (.int .i64 V) := var_load o_f (by simp) 0 _ rfl
  have f_f0 : w13.frozen? ⟨(w3.heap.size + 1 + 1), 0, none⟩ = false := var_frozen o_f (by simp) 0 _ rfl
  have c_f1 : w13.cell? ⟨(w3.heap.size + 1 + 1), 1, none⟩ = some (.int .i64 S) := var_load o_f (by simp) 1 _ rfl
  have f_f1 : w13.frozen? ⟨(w3.heap.size + 1 + 1), 1, none⟩ = false := var_frozen o_f (by simp) 1 _ rfl
  have c_f2 : w13.cell? ⟨(w3.heap.size + 1 + 1), 2, none⟩ = some (.int .i64 D2) := var_load o_f (by simp) 2 _ rfl
  have f_f2 : w13.frozen? ⟨(w3.heap.size + 1 + 1), 2, none⟩ = false := var_frozen o_f (by simp) 2 _ rfl
  have c_f3 : w13.cell? ⟨(w3.heap.size + 1 + 1), 3, none⟩ = some (.int .i64 sg) := var_load o_f (by simp) 3 _ rfl
  have f_f3 : w13.frozen? ⟨(w3.heap.size + 1 + 1), 3, none⟩ = false := var_frozen o_f (by simp) 3 _ rfl
  have l_f := var_lt o_f
  have c_r0 : w13.cell? ⟨w9.heap.size, 0, none⟩ = some (.int .i64 M) := var_load o_r (by simp) 0 _ rfl
  have f_r0 : w13.frozen? ⟨w9.heap.size, 0, none⟩ = false := var_frozen o_r (by simp) 0 _ rfl
  have c_r1 : w13.cell? ⟨w9.heap.size, 1, none⟩ = some (.slice A 1 c) := var_load o_r (by simp) 1 _ rfl
  have f_r1 : w13.frozen? ⟨w9.heap.size, 1, none⟩ = false := var_frozen o_r (by simp) 1 _ rfl
  have l_r := var_lt o_r
  have c_q0 : w13.cell? ⟨w11.heap.size, 0, none⟩ = some (.int .i64 M) := var_load o_q (by simp) 0 _ rfl
  have f_q0 : w13.frozen? ⟨w11.heap.size, 0, none⟩ = false := var_frozen o_q (by simp) 0 _ rfl
  have c_q1 : w13.cell? ⟨w11.heap.size, 1, none⟩ = some (.slice A2 1 c2) := var_load o_q (by simp) 1 _ rfl
  have f_q1 : w13.frozen? ⟨w11.heap.size, 1, none⟩ = false := var_frozen o_q (by simp) 1 _ rfl
  have l_q := var_lt o_q
  go_wp2_with fail
  (refine (KC2.out _).mono ?_); rintro e w14 ⟨rfl, bw14⟩
  clear c_l0 f_l0 c_l1 f_l1 l_l c_s0 f_s0 c_s1 f_s1 c_s2 f_s2 c_s3 f_s3 l_s c_a0 f_a0 c_a1 f_a1 c_a2 f_a2 c_a3 f_a3 l_a c_b0 f_b0 c_b1 f_b1 c_b2 f_b2 c_b3 f_b3 l_b c_f0 f_f0 c_f1 f_f1 c_f2 f_f2 c_f3 f_f3 l_f c_r0 f_r0 c_r1 f_r1 l_r c_q0 f_q0 c_q1 f_q1 l_q
  replace o_l := owns_below o_l bw14
  replace o_s := owns_below o_s bw14
  replace o_a := owns_below o_a bw14
  replace o_b := owns_below o_b bw14
  replace o_f := owns_below o_f bw14
  replace o_r := owns_below o_r bw14
  replace o_q := owns_below o_q bw14
  replace o_y := owns_below o_y bw14
  replace HB := HB.trans (bw14.mono HB.size)
  have zw14 := bw14.size
  have c_l0 : w14.cell? ⟨W.heap.size, 0, none⟩ = some (.int .i64 M) := var_load o_l (by simp) 0 _ rfl
  have f_l0 : w14.frozen? ⟨W.heap.size, 0, none⟩ = false := var_frozen o_l (by simp) 0 _ rfl
  have c_l1 : w14.cell? ⟨W.heap.size, 1, none⟩ = some (.slice none 0 0) := var_load o_l (by simp) 1 _ rfl
  have f_l1 : w14.frozen? ⟨W.heap.size, 1, none⟩ = false := var_frozen o_l (by simp) 1 _ rfl
  have l_l := var_lt o_l
  have c_s0 : w14.cell? ⟨w1.heap.size, 0, none⟩ = some (.int .i64 V) := var_load o_s (by simp) 0 _ rfl
  have f_s0 : w14.frozen? ⟨w1.heap.size, 0, none⟩ = false := var_frozen o_s (by simp) 0 _ rfl
  have c_s1 : w14.cell? ⟨w1.heap.size, 1, none⟩ = some (.int .i64 S) := var_load o_s (by simp) 1 _ rfl
  have f_s1 : w14.frozen? ⟨w1.heap.size, 1, none⟩ = false := var_frozen o_s (by simp) 1 _ rfl
  have c_s2 : w14.cell? ⟨w1.heap.size, 2, none⟩ = some (.int .i64 K) := var_load o_s (by simp) 2 _ rfl
  have f_s2 : w14.frozen? ⟨w1.heap.size, 2, none⟩ = false := var_frozen o_s (by simp) 2 _ rfl
  have c_s3 : w14.cell? ⟨w1.heap.size, 3, none⟩ = some (.int .i64 0) := var_load o_s (by simp) 3 _ rfl
  have f_s3 : w14.frozen? ⟨w1.heap.size, 3, none⟩ = false := var_frozen o_s (by simp) 3 _ rfl
  have l_s := var_lt o_s
  have c_a0 : w14.cell? ⟨w3.heap.size, 0, none⟩ = some (.int .i64 V) := var_load o_a (by simp) 0 _ rfl
  have f_a0 : w14.frozen? ⟨w3.heap.size, 0, none⟩ = false := var_frozen o_a (by simp) 0 _ rfl
  have c_a1 : w14.cell? ⟨w3.heap.size, 1, none⟩ = some (.int .i64 S) := var_load o_a (by simp) 1 _ rfl
  have f_a1 : w14.frozen? ⟨w3.heap.size, 1, none⟩ = false := var_frozen o_a (by simp) 1 _ rfl
  have c_a2 : w14.cell? ⟨w3.heap.size, 2, none⟩ = some (.int .i64 D) := var_load o_a (by simp) 2 _ rfl
  have f_a2 : w14.frozen? ⟨w3.heap.size, 2, none⟩ = false := var_frozen o_a (by simp) 2 _ rfl
  have c_a3 : w14.cell? ⟨w3.heap.size, 3, none⟩ = some (.int .i64 sg) := var_load o_a (by simp) 3 _ rfl
  have f_a3 : w14.frozen? ⟨w3.heap.size, 3, none⟩ = false := var_frozen o_a (by simp) 3 _ rfl
  have l_a := var_lt o_a
  have c_b0 : w14.cell? ⟨(w3.heap.size + 1), 0, none⟩ = some (.int .i64 V) := var_load o_b (by simp) 0 _ rfl
  have f_b0 : w14.frozen? ⟨(w3.heap.size + 1), 0, none⟩ = false := var_frozen o_b (by simp) 0 _ rfl
  have c_b1 : w14.cell? ⟨(w3.heap.size + 1), 1, none⟩ = some (.int .i64 (S + 1)) := var_load o_b (by simp) 1 _ rfl
  have f_b1 : w14.frozen? ⟨(w3.heap.size + 1), 1, none⟩ = false := var_frozen o_b (by simp) 1 _ rfl
  have c_b2 : w14.cell? ⟨(w3.heap.size + 1), 2, none⟩ = some (.int .i64 D) := var_load o_b (by simp) 2 _ rfl
  have f_b2 : w14.frozen? ⟨(w3.heap.size + 1), 2, none⟩ = false := var_frozen o_b (by simp) 2 _ rfl
  have c_b3 : w14.cell? ⟨(w3.heap.size + 1), 3, none⟩ = some (.int .i64 sg) := var_load o_b (by simp) 3 _ rfl
  have f_b3 : w14.frozen? ⟨(w3.heap.size + 1), 3, none⟩ = false := var_frozen o_b (by simp) 3 _ rfl
  have l_b := var_lt o_b
  have c_f0 : w14.cell? ⟨(w3.heap.size + 1 + 1), 0, none⟩ = some (.int .i64 V) := var_load o_f (by simp) 0 _ rfl
  have f_f0 : w14.frozen? ⟨(w3.heap.size + 1 + 1), 0, none⟩ = false := var_frozen o_f (by simp) 0 _ rfl
  have c_f1 : w14.cell? ⟨(w3.heap.size + 1 + 1), 1, none⟩ = some (.int .i64 S) := var_load o_f (by simp) 1 _ rfl
  have f_f1 : w14.frozen? ⟨(w3.heap.size + 1 + 1), 1, none⟩ = false := var_frozen o_f (by simp) 1 _ rfl
  have c_f2 : w14.cell? ⟨(w3.heap.size + 1 + 1), 2, none⟩ = some (.int .i64 D2) := var_load o_f (by simp) 2 _ rfl
  have f_f2 : w14.frozen? ⟨(w3.heap.size + 1 + 1), 2, none⟩ = false := var_frozen o_f (by simp) 2 _ rfl
  have c_f3 : w14.cell? ⟨(w3.heap.size + 1 + 1), 3, none⟩ = some (.int .i64 sg) := var_load o_f (by simp) 3 _ rfl
  have f_f3 : w14.frozen? ⟨(w3.heap.size + 1 + 1), 3, none⟩ = false := var_frozen o_f (by simp) 3 _ rfl
  have l_f := var_lt o_f
  have c_r0 : w14.cell? ⟨w9.heap.size, 0, none⟩ = some (.int .i64 M) := var_load o_r (by simp) 0 _ rfl
  have f_r0 : w14.frozen? ⟨w9.heap.size, 0, none⟩ = false := var_frozen o_r (by simp) 0 _ rfl
  have c_r1 : w14.cell? ⟨w9.heap.size, 1, none⟩ = some (.slice A 1 c) := var_load o_r (by simp) 1 _ rfl
  have f_r1 : w14.frozen? ⟨w9.heap.size, 1, none⟩ = false := var_frozen o_r (by simp) 1 _ rfl
  have l_r := var_lt o_r
  have c_q0 : w14.cell? ⟨w11.heap.size, 0, none⟩ = some (.int .i64 M) := var_load o_q (by simp) 0 _ rfl
  have f_q0 : w14.frozen? ⟨w11.heap.size, 0, none⟩ = false := var_frozen o_q (by simp) 0 _ rfl
  have c_q1 : w14.cell? ⟨w11.heap.size, 1, none⟩ = some (.slice A2 1 c2) := var_load o_q (by simp) 1 _ rfl
  have f_q1 : w14.frozen? ⟨w11.heap.size, 1, none⟩ = false := var_frozen o_q (by simp) 1 _ rfl
  have l_q := var_lt o_q
  go_wp2_with fail
  (refine (KC3.out _).mono ?_); rintro e w15 ⟨rfl, bw15⟩
  clear c_l0 f_l0 c_l1 f_l1 l_l c_s0 f_s0 c_s1 f_s1 c_s2 f_s2 c_s3 f_s3 l_s c_a0 f_a0 c_a1 f_a1 c_a2 f_a2 c_a3 f_a3 l_a c_b0 f_b0 c_b1 f_b1 c_b2 f_b2 c_b3 f_b3 l_b c_f0 f_f0 c_f1 f_f1 c_f2 f_f2 c_f3 f_f3 l_f c_r0 f_r0 c_r1 f_r1 l_r c_q0 f_q0 c_q1 f_q1 l_q
  replace o_l := owns_below o_l bw15
  replace o_s := owns_below o_s bw15
  replace o_a := owns_below o_a bw15
  replace o_b := owns_below o_b bw15
  replace o_f := owns_below o_f bw15
  replace o_r := owns_below o_r bw15
  replace o_q := owns_below o_q bw15
  replace o_y := owns_below o_y bw15
  replace HB := HB.trans (bw15.mono HB.size)
  have zw15 := bw15.size
  have c_l0 : w15.cell? ⟨W.heap.size, 0, none⟩ = some (.int .i64 M) := var_load o_l (by simp) 0 _ rfl
  have f_l0 : w15.frozen? ⟨W.heap.size, 0, none⟩ = false := var_frozen o_l (by simp) 0 _ rfl
  have c_l1 : w15.cell? ⟨W.heap.size, 1, none⟩ = some (.slice none 0 0) := var_load o_l (by simp) 1 _ rfl
  have f_l1 : w15.frozen? ⟨W.heap.size, 1, none⟩ = false := var_frozen o_l (by simp) 1 _ rfl
  have l_l := var_lt o_l
  have c_s0 : w15.cell? ⟨w1.heap.size, 0, none⟩ = some (.int .i64 V) := var_load o_s (by simp) 0 _ rfl
  have f_s0 : w15.frozen? ⟨w1.heap.size, 0, none⟩ = false := var_frozen o_s (by simp) 0 _ rfl
  have c_s1 : w15.cell? ⟨w1.heap.size, 1, none⟩ = some (.int .i64 S) := var_load o_s (by simp) 1 _ rfl
  have f_s1 : w15.frozen? ⟨w1.heap.size, 1, none⟩ = false := var_frozen o_s (by simp) 1 _ rfl
  have c_s2 : w15.cell? ⟨w1.heap.size, 2, none⟩ = some (.int .i64 K) := var_load o_s (by simp) 2 _ rfl
  have f_s2 : w15.frozen? ⟨w1.heap.size, 2, none⟩ = false := var_frozen o_s (by simp) 2 _ rfl
  have c_s3 : w15.cell? ⟨w1.heap.size, 3, none⟩ = some (.int .i64 0) := var_load o_s (by simp) 3 _ rfl
  have f_s3 : w15.frozen? ⟨w1.heap.size, 3, none⟩ = false := var_frozen o_s (by simp) 3 _ rfl
  have l_s := var_lt o_s
  have c_a0 : w15.cell? ⟨w3.heap.size, 0, none⟩ = some (.int .i64 V) := var_load o_a (by simp) 0 _ rfl
  have f_a0 : w15.frozen? ⟨w3.heap.size, 0, none⟩ = false := var_frozen o_a (by simp) 0 _ rfl
  have c_a1 : w15.cell? ⟨w3.heap.size, 1, none⟩ = some (.int .i64 S) := var_load o_a (by simp) 1 _ rfl
  have f_a1 : w15.frozen? ⟨w3.heap.size, 1, none⟩ = false := var_frozen o_a (by simp) 1 _ rfl
  have c_a2 : w15.cell? ⟨w3.heap.size, 2, none⟩ = some (.int .i64 D) := var_load o_a (by simp) 2 _ rfl
  have f_a2 : w15.frozen? ⟨w3.heap.size, 2, none⟩ = false := var_frozen o_a (by simp) 2 _ rfl
  have c_a3 : w15.cell? ⟨w3.heap.size, 3, none⟩ = some (.int .i64 sg) := var_load o_a (by simp) 3 _ rfl
  have f_a3 : w15.frozen? ⟨w3.heap.size, 3, none⟩ = false := var_frozen o_a (by simp) 3 _ rfl
  have l_a := var_lt o_a
  have c_b0 : w15.cell? ⟨(w3.heap.size + 1), 0, none⟩ = some (.int .i64 V) := var_load o_b (by simp) 0 _ rfl
  have f_b0 : w15.frozen? ⟨(w3.heap.size + 1), 0, none⟩ = false := var_frozen o_b (by simp) 0 _ rfl
  have c_b1 : w15.cell? ⟨(w3.heap.size + 1), 1, none⟩ = some (.int .i64 (S + 1)) := var_load o_b (by simp) 1 _ rfl
  have f_b1 : w15.frozen? ⟨(w3.heap.size + 1), 1, none⟩ = false := var_frozen o_b (by simp) 1 _ rfl
  have c_b2 : w15.cell? ⟨(w3.heap.size + 1), 2, none⟩ = some (.int .i64 D) := var_load o_b (by simp) 2 _ rfl
  have f_b2 : w15.frozen? ⟨(w3.heap.size + 1), 2, none⟩ = false := var_frozen o_b (by simp) 2 _ rfl
  have c_b3 : w15.cell? ⟨(w3.heap.size + 1), 3, none⟩ = some (.int .i64 sg) := var_load o_b (by simp) 3 _ rfl
  have f_b3 : w15.frozen? ⟨(w3.heap.size + 1), 3, none⟩ = false := var_frozen o_b (by simp) 3 _ rfl
  have l_b := var_lt o_b
  have c_f0 : w15.cell? ⟨(w3.heap.size + 1 + 1), 0, none⟩ = some (.int .i64 V) := var_load o_f (by simp) 0 _ rfl
  have f_f0 : w15.frozen? ⟨(w3.heap.size + 1 + 1), 0, none⟩ = false := var_frozen o_f (by simp) 0 _ rfl
  have c_f1 : w15.cell? ⟨(w3.heap.size + 1 + 1), 1, none⟩ = some (.int .i64 S) := var_load o_f (by simp) 1 _ rfl
  have f_f1 : w15.frozen? ⟨(w3.heap.size + 1 + 1), 1, none⟩ = false := var_frozen o_f (by simp) 1 _ rfl
  have c_f2 : w15.cell? ⟨(w3.heap.size + 1 + 1), 2, none⟩ = some (.int .i64 D2) := var_load o_f (by simp) 2 _ rfl
  have f_f2 : w15.frozen? ⟨(w3.heap.size + 1 + 1), 2, none⟩ = false := var_frozen o_f (by simp) 2 _ rfl
  have c_f3 : w15.cell? ⟨(w3.heap.size + 1 + 1), 3, none⟩ = some (.int .i64 sg) := var_load o_f (by simp) 3 _ rfl
  have f_f3 : w15.frozen? ⟨(w3.heap.size + 1 + 1), 3, none⟩ = false := var_frozen o_f (by simp) 3 _ rfl
  have l_f := var_lt o_f
  have c_r0 : w15.cell? ⟨w9.heap.size, 0, none⟩ = some (.int .i64 M) := var_load o_r (by simp) 0 _ rfl
  have f_r0 : w15.frozen? ⟨w9.heap.size, 0, none⟩ = false := var_frozen o_r (by simp) 0 _ rfl
  have c_r1 : w15.cell? ⟨w9.heap.size, 1, none⟩ = some (.slice A 1 c) := var_load o_r (by simp) 1 _ rfl
  have f_r1 : w15.frozen? ⟨w9.heap.size, 1, none⟩ = false := var_frozen o_r (by simp) 1 _ rfl
  have l_r := var_lt o_r
  have c_q0 : w15.cell? ⟨w11.heap.size, 0, none⟩ = some (.int .i64 M) := var_load o_q (by simp) 0 _ rfl
  have f_q0 : w15.frozen? ⟨w11.heap.size, 0, none⟩ = false := var_frozen o_q (by simp) 0 _ rfl
  have c_q1 : w15.cell? ⟨w11.heap.size, 1, none⟩ = some (.slice A2 1 c2) := var_load o_q (by simp) 1 _ rfl
  have f_q1 : w15.frozen? ⟨w11.heap.size, 1, none⟩ = false := var_frozen o_q (by simp) 1 _ rfl
  have l_q := var_lt o_q
  go_wp2_with fail
  (refine (KI.out _ A c (owns_rds _ _ _ o_y)).mono ?_); rintro e w16 ⟨rfl, bw16⟩
  clear c_l0 f_l0 c_l1 f_l1 l_l c_s0 f_s0 c_s1 f_s1 c_s2 f_s2 c_s3 f_s3 l_s c_a0 f_a0 c_a1 f_a1 c_a2 f_a2 c_a3 f_a3 l_a c_b0 f_b0 c_b1 f_b1 c_b2 f_b2 c_b3 f_b3 l_b c_f0 f_f0 c_f1 f_f1 c_f2 f_f2 c_f3 f_f3 l_f c_r0 f_r0 c_r1 f_r1 l_r c_q0 f_q0 c_q1 f_q1 l_q
  replace o_l := owns_below o_l bw16
  replace o_s := owns_below o_s bw16
  replace o_a := owns_below o_a bw16
  replace o_b := owns_below o_b bw16
  replace o_f := owns_below o_f bw16
  replace o_r := owns_below o_r bw16
  replace o_q := owns_below o_q bw16
  replace o_y := owns_below o_y bw16
  replace HB := HB.trans (bw16.mono HB.size)
  have zw16 := bw16.size
  have c_l0 : w16.cell? ⟨W.heap.size, 0, none⟩ = some (.int .i64 M) := var_load o_l (by simp) 0 _ rfl
  have f_l0 : w16.frozen? ⟨W.heap.size, 0, none⟩ = false := var_frozen o_l (by simp) 0 _ rfl
  have c_l1 : w16.cell? ⟨W.heap.size, 1, none⟩ = some (.slice none 0 0) := var_load o_l (by simp) 1 _ rfl
  have f_l1 : w16.frozen? ⟨W.heap.size, 1, none⟩ = false := var_frozen o_l (by simp) 1 _ rfl
  have l_l := var_lt o_l
  have c_s0 : w16.cell? ⟨w1.heap.size, 0, none⟩ = some (.int .i64 V) := var_load o_s (by simp) 0 _ rfl
  have f_s0 : w16.frozen? ⟨w1.heap.size, 0, none⟩ = false := var_frozen o_s (by simp) 0 _ rfl
  have c_s1 : w16.cell? ⟨w1.heap.size, 1, none⟩ = some (.int .i64 S) := var_load o_s (by simp) 1 _ rfl
  have f_s1 : w16.frozen? ⟨w1.heap.size, 1, none⟩ = false := var_frozen o_s (by simp) 1 _ rfl
  have c_s2 : w16.cell? ⟨w1.heap.size, 2, none⟩ = some (.int .i64 K) := var_load o_s (by simp) 2 _ rfl
  have f_s2 : w16.frozen? ⟨w1.heap.size, 2, none⟩ = false := var_frozen o_s (by simp) 2 _ rfl
  have c_s3 : w16.cell? ⟨w1.heap.size, 3, none⟩ = some (.int .i64 0) := var_load o_s (by simp) 3 _ rfl
  have f_s3 : w16.frozen? ⟨w1.heap.size, 3, none⟩ = false := var_frozen o_s (by simp) 3 _ rfl
  have l_s := var_lt o_s
  have c_a0 : w16.cell? ⟨w3.heap.size, 0, none⟩ = some (.int .i64 V) := var_load o_a (by simp) 0 _ rfl
  have f_a0 : w16.frozen? ⟨w3.heap.size, 0, none⟩ = false := var_frozen o_a (by simp) 0 _ rfl
  have c_a1 : w16.cell? ⟨w3.heap.size, 1, none⟩ = some (.int .i64 S) := var_load o_a (by simp) 1 _ rfl
  have f_a1 : w16.frozen? ⟨w3.heap.size, 1, none⟩ = false := var_frozen o_a (by simp) 1 _ rfl
  have c_a2 : w16.cell? ⟨w3.heap.size, 2, none⟩ = some (.int .i64 D) := var_load o_a (by simp) 2 _ rfl
  have f_a2 : w16.frozen? ⟨w3.heap.size, 2, none⟩ = false := var_frozen o_a (by simp) 2 _ rfl
  have c_a3 : w16.cell? ⟨w3.heap.size, 3, none⟩ = some (.int .i64 sg) := var_load o_a (by simp) 3 _ rfl
  have f_a3 : w16.frozen? ⟨w3.heap.size, 3, none⟩ = false := var_frozen o_a (by simp) 3 _ rfl
  have l_a := var_lt o_a
  have c_b0 : w16.cell? ⟨(w3.heap.size + 1), 0, none⟩ = some (.int .i64 V) := var_load o_b (by simp) 0 _ rfl
  have f_b0 : w16.frozen? ⟨(w3.heap.size + 1), 0, none⟩ = false := var_frozen o_b (by simp) 0 _ rfl
  have c_b1 : w16.cell? ⟨(w3.heap.size + 1), 1, none⟩ = some (.int .i64 (S + 1)) := var_load o_b (by simp) 1 _ rfl
  have f_b1 : w16.frozen? ⟨(w3.heap.size + 1), 1, none⟩ = false := var_frozen o_b (by simp) 1 _ rfl
  have c_b2 : w16.cell? ⟨(w3.heap.size + 1), 2, none⟩ = some (.int .i64 D) := var_load o_b (by simp) 2 _ rfl
  have f_b2 : w16.frozen? ⟨(w3.heap.size + 1), 2, none⟩ = false := var_frozen o_b (by simp) 2 _ rfl
  have c_b3 : w16.cell? ⟨(w3.heap.size + 1), 3, none⟩ = some (.int .i64 sg) := var_load o_b (by simp) 3 _ rfl
  have f_b3 : w16.frozen? ⟨(w3.heap.size + 1), 3, none⟩ = false := var_frozen o_b (by simp) 3 _ rfl
  have l_b := var_lt o_b
  have c_f0 : w16.cell? ⟨(w3.heap.size + 1 + 1), 0, none⟩ = some (.int .i64 V) := var_load o_f (by simp) 0 _ rfl
  have f_f0 : w16.frozen? ⟨(w3.heap.size + 1 + 1), 0, none⟩ = false := var_frozen o_f (by simp) 0 _ rfl
  have c_f1 : w16.cell? ⟨(w3.heap.size + 1 + 1), 1, none⟩ = some (.int .i64 S) := var_load o_f (by simp) 1 _ rfl
  have f_f1 : w16.frozen? ⟨(w3.heap.size + 1 + 1), 1, none⟩ = false := var_frozen o_f (by simp) 1 _ rfl
  have c_f2 : w16.cell? ⟨(w3.heap.size + 1 + 1), 2, none⟩ = some (.int .i64 D2) := var_load o_f (by simp) 2 _ rfl
  have f_f2 : w16.frozen? ⟨(w3.heap.size + 1 + 1), 2, none⟩ = false := var_frozen o_f (by simp) 2 _ rfl
  have c_f3 : w16.cell? ⟨(w3.heap.size + 1 + 1), 3, none⟩ = some (.int .i64 sg) := var_load o_f (by simp) 3 _ rfl
  have f_f3 : w16.frozen? ⟨(w3.heap.size + 1 + 1), 3, none⟩ = false := var_frozen o_f (by simp) 3 _ rfl
  have l_f := var_lt o_f
  have c_r0 : w16.cell? ⟨w9.heap.size, 0, none⟩ = some (.int .i64 M) := var_load o_r (by simp) 0 _ rfl
  have f_r0 : w16.frozen? ⟨w9.heap.size, 0, none⟩ = false := var_frozen o_r (by simp) 0 _ rfl
  have c_r1 : w16.cell? ⟨w9.heap.size, 1, none⟩ = some (.slice A 1 c) := var_load o_r (by simp) 1 _ rfl
  have f_r1 : w16.frozen? ⟨w9.heap.size, 1, none⟩ = false := var_frozen o_r (by simp) 1 _ rfl
  have l_r := var_lt o_r
  have c_q0 : w16.cell? ⟨w11.heap.size, 0, none⟩ = some (.int .i64 M) := var_load o_q (by simp) 0 _ rfl
  have f_q0 : w16.frozen? ⟨w11.heap.size, 0, none⟩ = false := var_frozen o_q (by simp) 0 _ rfl
  have c_q1 : w16.cell? ⟨w11.heap.size, 1, none⟩ = some (.slice A2 1 c2) := var_load o_q (by simp) 1 _ rfl
  have f_q1 : w16.frozen? ⟨w11.heap.size, 1, none⟩ = false := var_frozen o_q (by simp) 1 _ rfl
  have l_q := var_lt o_q
  go_wp2_with fail
  (refine (KC4.out _ A c (owns_rds _ _ _ o_y)).mono ?_); rintro e w17 ⟨rfl, bw17⟩
  clear c_l0 f_l0 c_l1 f_l1 l_l c_s0 f_s0 c_s1 f_s1 c_s2 f_s2 c_s3 f_s3 l_s c_a0 f_a0 c_a1 f_a1 c_a2 f_a2 c_a3 f_a3 l_a c_b0 f_b0 c_b1 f_b1 c_b2 f_b2 c_b3 f_b3 l_b c_f0 f_f0 c_f1 f_f1 c_f2 f_f2 c_f3 f_f3 l_f c_r0 f_r0 c_r1 f_r1 l_r c_q0 f_q0 c_q1 f_q1 l_q
  replace o_l := owns_below o_l bw17
  replace o_s := owns_below o_s bw17
  replace o_a := owns_below o_a bw17
  replace o_b := owns_below o_b bw17
  replace o_f := owns_below o_f bw17
  replace o_r := owns_below o_r bw17
  replace o_q := owns_below o_q bw17
  replace o_y := owns_below o_y bw17
  replace HB := HB.trans (bw17.mono HB.size)
  have zw17 := bw17.size
  have c_l0 : w17.cell? ⟨W.heap.size, 0, none⟩ = some (.int .i64 M) := var_load o_l (by simp) 0 _ rfl
  have f_l0 : w17.frozen? ⟨W.heap.size, 0, none⟩ = false := var_frozen o_l (by simp) 0 _ rfl
  have c_l1 : w17.cell? ⟨W.heap.size, 1, none⟩ = some (.slice none 0 0) := var_load o_l (by simp) 1 _ rfl
  have f_l1 : w17.frozen? ⟨W.heap.size, 1, none⟩ = false := var_frozen o_l (by simp) 1 _ rfl
  have l_l := var_lt o_l
  have c_s0 : w17.cell? ⟨w1.heap.size, 0, none⟩ = some (.int .i64 V) := var_load o_s (by simp) 0 _ rfl
  have f_s0 : w17.frozen? ⟨w1.heap.size, 0, none⟩ = false := var_frozen o_s (by simp) 0 _ rfl
  have c_s1 : w17.cell? ⟨w1.heap.size, 1, none⟩ = some (.int .i64 S) := var_load o_s (by simp) 1 _ rfl
  have f_s1 : w17.frozen? ⟨w1.heap.size, 1, none⟩ = false := var_frozen o_s (by simp) 1 _ rfl
  have c_s2 : w17.cell? ⟨w1.heap.size, 2, none⟩ = some (.int .i64 K) := var_load o_s (by simp) 2 _ rfl
  have f_s2 : w17.frozen? ⟨w1.heap.size, 2, none⟩ = false := var_frozen o_s (by simp) 2 _ rfl
  have c_s3 : w17.cell? ⟨w1.heap.size, 3, none⟩ = some (.int .i64 0) := var_load o_s (by simp) 3 _ rfl
  have f_s3 : w17.frozen? ⟨w1.heap.size, 3, none⟩ = false := var_frozen o_s (by simp) 3 _ rfl
  have l_s := var_lt o_s
  have c_a0 : w17.cell? ⟨w3.heap.size, 0, none⟩ = some (.int .i64 V) := var_load o_a (by simp) 0 _ rfl
  have f_a0 : w17.frozen? ⟨w3.heap.size, 0, none⟩ = false := var_frozen o_a (by simp) 0 _ rfl
  have c_a1 : w17.cell? ⟨w3.heap.size, 1, none⟩ = some (.int .i64 S) := var_load o_a (by simp) 1 _ rfl
  have f_a1 : w17.frozen? ⟨w3.heap.size, 1, none⟩ = false := var_frozen o_a (by simp) 1 _ rfl
  have c_a2 : w17.cell? ⟨w3.heap.size, 2, none⟩ = some (.int .i64 D) := var_load o_a (by simp) 2 _ rfl
  have f_a2 : w17.frozen? ⟨w3.heap.size, 2, none⟩ = false := var_frozen o_a (by simp) 2 _ rfl
  have c_a3 : w17.cell? ⟨w3.heap.size, 3, none⟩ = some (.int .i64 sg) := var_load o_a (by simp) 3 _ rfl
  have f_a3 : w17.frozen? ⟨w3.heap.size, 3, none⟩ = false := var_frozen o_a (by simp) 3 _ rfl
  have l_a := var_lt o_a
  have c_b0 : w17.cell? ⟨(w3.heap.size + 1), 0, none⟩ = some (.int .i64 V) := var_load o_b (by simp) 0 _ rfl
  have f_b0 : w17.frozen? ⟨(w3.heap.size + 1), 0, none⟩ = false := var_frozen o_b (by simp) 0 _ rfl
  have c_b1 : w17.cell? ⟨(w3.heap.size + 1), 1, none⟩ = some (.int .i64 (S + 1)) := var_load o_b (by simp) 1 _ rfl
  have f_b1 : w17.frozen? ⟨(w3.heap.size + 1), 1, none⟩ = false := var_frozen o_b (by simp) 1 _ rfl
  have c_b2 : w17.cell? ⟨(w3.heap.size + 1), 2, none⟩ = some (.int .i64 D) := var_load o_b (by simp) 2 _ rfl
  have f_b2 : w17.frozen? ⟨(w3.heap.size + 1), 2, none⟩ = false := var_frozen o_b (by simp) 2 _ rfl
  have c_b3 : w17.cell? ⟨(w3.heap.size + 1), 3, none⟩ = some (.int .i64 sg) := var_load o_b (by simp) 3 _ rfl
  have f_b3 : w17.frozen? ⟨(w3.heap.size + 1), 3, none⟩ = false := var_frozen o_b (by simp) 3 _ rfl
  have l_b := var_lt o_b
  have c_f0 : w17.cell? ⟨(w3.heap.size + 1 + 1), 0, none⟩ = some (.int .i64 V) := var_load o_f (by simp) 0 _ rfl
  have f_f0 : w17.frozen? ⟨(w3.heap.size + 1 + 1), 0, none⟩ = false := var_frozen o_f (by simp) 0 _ rfl
  have c_f1 : w17.cell? ⟨(w3.heap.size + 1 + 1), 1, none⟩ = some (.int .i64 S) := var_load o_f (by simp) 1 _ rfl
  have f_f1 : w17.frozen? ⟨(w3.heap.size + 1 + 1), 1, none⟩ = false := var_frozen o_f (by simp) 1 _ rfl
  have c_f2 : w17.cell? ⟨(w3.heap.size + 1 + 1), 2, none⟩ = some (.int .i64 D2) := var_load o_f (by simp) 2 _ rfl
  have f_f2 : w17.frozen? ⟨(w3.heap.size + 1 + 1), 2, none⟩ = false := var_frozen o_f (by simp) 2 _ rfl
  have c_f3 : w17.cell? ⟨(w3.heap.size + 1 + 1), 3, none⟩ = some (.int .i64 sg) := var_load o_f (by simp) 3 _ rfl
  have f_f3 : w17.frozen? ⟨(w3.heap.size + 1 + 1), 3, none⟩ = false := var_frozen o_f (by simp) 3 _ rfl
  have l_f := var_lt o_f
  have c_r0 : w17.cell? ⟨w9.heap.size, 0, none⟩ = some (.int .i64 M) := var_load o_r (by simp) 0 _ rfl
  have f_r0 : w17.frozen? ⟨w9.heap.size, 0, none⟩ = false := var_frozen o_r (by simp) 0 _ rfl
  have c_r1 : w17.cell? ⟨w9.heap.size, 1, none⟩ = some (.slice A 1 c) := var_load o_r (by simp) 1 _ rfl
  have f_r1 : w17.frozen? ⟨w9.heap.size, 1, none⟩ = false := var_frozen o_r (by simp) 1 _ rfl
  have l_r := var_lt o_r
  have c_q0 : w17.cell? ⟨w11.heap.size, 0, none⟩ = some (.int .i64 M) := var_load o_q (by simp) 0 _ rfl
  have f_q0 : w17.frozen? ⟨w11.heap.size, 0, none⟩ = false := var_frozen o_q (by simp) 0 _ rfl
  have c_q1 : w17.cell? ⟨w11.heap.size, 1, none⟩ = some (.slice A2 1 c2) := var_load o_q (by simp) 1 _ rfl
  have f_q1 : w17.frozen? ⟨w11.heap.size, 1, none⟩ = false := var_frozen o_q (by simp) 1 _ rfl
  have l_q := var_lt o_q
  go_wp2_with fail
  (refine (KL.out _ A c (owns_rds _ _ _ o_y)).mono ?_); rintro e w18 ⟨rfl, bw18⟩
  clear c_l0 f_l0 c_l1 f_l1 l_l c_s0 f_s0 c_s1 f_s1 c_s2 f_s2 c_s3 f_s3 l_s c_a0 f_a0 c_a1 f_a1 c_a2 f_a2 c_a3 f_a3 l_a c_b0 f_b0 c_b1 f_b1 c_b2 f_b2 c_b3 f_b3 l_b c_f0 f_f0 c_f1 f_f1 c_f2 f_f2 c_f3 f_f3 l_f c_r0 f_r0 c_r1 f_r1 l_r c_q0 f_q0 c_q1 f_q1 l_q
  replace o_l := owns_below o_l bw18
  replace o_s := owns_below o_s bw18
  replace o_a := owns_below o_a bw18
  replace o_b := owns_below o_b bw18
  replace o_f := owns_below o_f bw18
  replace o_r := owns_below o_r bw18
  replace o_q := owns_below o_q bw18
  replace o_y := owns_below o_y bw18
  replace HB := HB.trans (bw18.mono HB.size)
  have zw18 := bw18.size
  have c_l0 : w18.cell? ⟨W.heap.size, 0, none⟩ = some (.int .i64 M) := var_load o_l (by simp) 0 _ rfl
  have f_l0 : w18.frozen? ⟨W.heap.size, 0, none⟩ = false := var_frozen o_l (by simp) 0 _ rfl
  have c_l1 : w18.cell? ⟨W.heap.size, 1, none⟩ = some (.slice none 0 0) := var_load o_l (by simp) 1 _ rfl
  have f_l1 : w18.frozen? ⟨W.heap.size, 1, none⟩ = false := var_frozen o_l (by simp) 1 _ rfl
  have l_l := var_lt o_l
  have c_s0 : w18.cell? ⟨w1.heap.size, 0, none⟩ = some (.int .i64 V) := var_load o_s (by simp) 0 _ rfl
  have f_s0 : w18.frozen? ⟨w1.heap.size, 0, none⟩ = false := var_frozen o_s (by simp) 0 _ rfl
  have c_s1 : w18.cell? ⟨w1.heap.size, 1, none⟩ = some (.int .i64 S) := var_load o_s (by simp) 1 _ rfl
  have f_s1 : w18.frozen? ⟨w1.heap.size, 1, none⟩ = false := var_frozen o_s (by simp) 1 _ rfl
  have c_s2 : w18.cell? ⟨w1.heap.size, 2, none⟩ = some (.int .i64 K) := var_load o_s (by simp) 2 _ rfl
  have f_s2 : w18.frozen? ⟨w1.heap.size, 2, none⟩ = false := var_frozen o_s (by simp) 2 _ rfl
  have c_s3 : w18.cell? ⟨w1.heap.size, 3, none⟩ = some (.int .i64 0) := var_load o_s (by simp) 3 _ rfl
  have f_s3 : w18.frozen? ⟨w1.heap.size, 3, none⟩ = false := var_frozen o_s (by simp) 3 _ rfl
  have l_s := var_lt o_s
  have c_a0 : w18.cell? ⟨w3.heap.size, 0, none⟩ = some (.int .i64 V) := var_load o_a (by simp) 0 _ rfl
  have f_a0 : w18.frozen? ⟨w3.heap.size, 0, none⟩ = false := var_frozen o_a (by simp) 0 _ rfl
  have c_a1 : w18.cell? ⟨w3.heap.size, 1, none⟩ = some (.int .i64 S) := var_load o_a (by simp) 1 _ rfl
  have f_a1 : w18.frozen? ⟨w3.heap.size, 1, none⟩ = false := var_frozen o_a (by simp) 1 _ rfl
  have c_a2 : w18.cell? ⟨w3.heap.size, 2, none⟩ = some (.int .i64 D) := var_load o_a (by simp) 2 _ rfl
  have f_a2 : w18.frozen? ⟨w3.heap.size, 2, none⟩ = false := var_frozen o_a (by simp) 2 _ rfl
  have c_a3 : w18.cell? ⟨w3.heap.size, 3, none⟩ = some (.int .i64 sg) := var_load o_a (by simp) 3 _ rfl
  have f_a3 : w18.frozen? ⟨w3.heap.size, 3, none⟩ = false := var_frozen o_a (by simp) 3 _ rfl
  have l_a := var_lt o_a
  have c_b0 : w18.cell? ⟨(w3.heap.size + 1), 0, none⟩ = some (.int .i64 V) := var_load o_b (by simp) 0 _ rfl
  have f_b0 : w18.frozen? ⟨(w3.heap.size + 1), 0, none⟩ = false := var_frozen o_b (by simp) 0 _ rfl
  have c_b1 : w18.cell? ⟨(w3.heap.size + 1), 1, none⟩ = some (.int .i64 (S + 1)) := var_load o_b (by simp) 1 _ rfl
  have f_b1 : w18.frozen? ⟨(w3.heap.size + 1), 1, none⟩ = false := var_frozen o_b (by simp) 1 _ rfl
  have c_b2 : w18.cell? ⟨(w3.heap.size + 1), 2, none⟩ = some (.int .i64 D) := var_load o_b (by simp) 2 _ rfl
  have f_b2 : w18.frozen? ⟨(w3.heap.size + 1), 2, none⟩ = false := var_frozen o_b (by simp) 2 _ rfl
  have c_b3 : w18.cell? ⟨(w3.heap.size + 1), 3, none⟩ = some (.int .i64 sg) := var_load o_b (by simp) 3 _ rfl
  have f_b3 : w18.frozen? ⟨(w3.heap.size + 1), 3, none⟩ = false := var_frozen o_b (by simp) 3 _ rfl
  have l_b := var_lt o_b
  have c_f0 : w18.cell? ⟨(w3.heap.size + 1 + 1), 0, none⟩ = some (.int .i64 V) := var_load o_f (by simp) 0 _ rfl
  have f_f0 : w18.frozen? ⟨(w3.heap.size + 1 + 1), 0, none⟩ = false := var_frozen o_f (by simp) 0 _ rfl
  have c_f1 : w18.cell? ⟨(w3.heap.size + 1 + 1), 1, none⟩ = some (.int .i64 S) := var_load o_f (by simp) 1 _ rfl
  have f_f1 : w18.frozen? ⟨(w3.heap.size + 1 + 1), 1, none⟩ = false := var_frozen o_f (by simp) 1 _ rfl
  have c_f2 : w18.cell? ⟨(w3.heap.size + 1 + 1), 2, none⟩ = some (.int .i64 D2) := var_load o_f (by simp) 2 _ rfl
  have f_f2 : w18.frozen? ⟨(w3.heap.size + 1 + 1), 2, none⟩ = false := var_frozen o_f (by simp) 2 _ rfl
  have c_f3 : w18.cell? ⟨(w3.heap.size + 1 + 1), 3, none⟩ = some (.int .i64 sg) := var_load o_f (by simp) 3 _ rfl
  have f_f3 : w18.frozen? ⟨(w3.heap.size + 1 + 1), 3, none⟩ = false := var_frozen o_f (by simp) 3 _ rfl
  have l_f := var_lt o_f
  have c_r0 : w18.cell? ⟨w9.heap.size, 0, none⟩ = some (.int .i64 M) := var_load o_r (by simp) 0 _ rfl
  have f_r0 : w18.frozen? ⟨w9.heap.size, 0, none⟩ = false := var_frozen o_r (by simp) 0 _ rfl
  have c_r1 : w18.cell? ⟨w9.heap.size, 1, none⟩ = some (.slice A 1 c) := var_load o_r (by simp) 1 _ rfl
  have f_r1 : w18.frozen? ⟨w9.heap.size, 1, none⟩ = false := var_frozen o_r (by simp) 1 _ rfl
  have l_r := var_lt o_r
  have c_q0 : w18.cell? ⟨w11.heap.size, 0, none⟩ = some (.int .i64 M) := var_load o_q (by simp) 0 _ rfl
  have f_q0 : w18.frozen? ⟨w11.heap.size, 0, none⟩ = false := var_frozen o_q (by simp) 0 _ rfl
  have c_q1 : w18.cell? ⟨w11.heap.size, 1, none⟩ = some (.slice A2 1 c2) := var_load o_q (by simp) 1 _ rfl
  have f_q1 : w18.frozen? ⟨w11.heap.size, 1, none⟩ = false := var_frozen o_q (by simp) 1 _ rfl
  have l_q := var_lt o_q
  go_wp2_with fail
  (refine (KC5.out _).mono ?_); rintro e w19 ⟨rfl, bw19⟩
  clear c_l0 f_l0 c_l1 f_l1 l_l c_s0 f_s0 c_s1 f_s1 c_s2 f_s2 c_s3 f_s3 l_s c_a0 f_a0 c_a1 f_a1 c_a2 f_a2 c_a3 f_a3 l_a c_b0 f_b0 c_b1 f_b1 c_b2 f_b2 c_b3 f_b3 l_b c_f0 f_f0 c_f1 f_f1 c_f2 f_f2 c_f3 f_f3 l_f c_r0 f_r0 c_r1 f_r1 l_r c_q0 f_q0 c_q1 f_q1 l_q
  replace o_l := owns_below o_l bw19
  replace o_s := owns_below o_s bw19
  replace o_a := owns_below o_a bw19
  replace o_b := owns_below o_b bw19
  replace o_f := owns_below o_f bw19
  replace o_r := owns_below o_r bw19
  replace o_q := owns_below o_q bw19
  replace o_y := owns_below o_y bw19
  replace HB := HB.trans (bw19.mono HB.size)
  have zw19 := bw19.size
  have c_l0 : w19.cell? ⟨W.heap.size, 0, none⟩ = some (.int .i64 M) := var_load o_l (by simp) 0 _ rfl
  have f_l0 : w19.frozen? ⟨W.heap.size, 0, none⟩ = false := var_frozen o_l (by simp) 0 _ rfl
  have c_l1 : w19.cell? ⟨W.heap.size, 1, none⟩ = some (.slice none 0 0) := var_load o_l (by simp) 1 _ rfl
  have f_l1 : w19.frozen? ⟨W.heap.size, 1, none⟩ = false := var_frozen o_l (by simp) 1 _ rfl
  have l_l := var_lt o_l
  have c_s0 : w19.cell? ⟨w1.heap.size, 0, none⟩ = some (.int .i64 V) := var_load o_s (by simp) 0 _ rfl
  have f_s0 : w19.frozen? ⟨w1.heap.size, 0, none⟩ = false := var_frozen o_s (by simp) 0 _ rfl
  have c_s1 : w19.cell? ⟨w1.heap.size, 1, none⟩ = some (.int .i64 S) := var_load o_s (by simp) 1 _ rfl
  have f_s1 : w19.frozen? ⟨w1.heap.size, 1, none⟩ = false := var_frozen o_s (by simp) 1 _ rfl
  have c_s2 : w19.cell? ⟨w1.heap.size, 2, none⟩ = some (.int .i64 K) := var_load o_s (by simp) 2 _ rfl
  have f_s2 : w19.frozen? ⟨w1.heap.size, 2, none⟩ = false := var_frozen o_s (by simp) 2 _ rfl
  have c_s3 : w19.cell? ⟨w1.heap.size, 3, none⟩ = some (.int .i64 0) := var_load o_s (by simp) 3 _ rfl
  have f_s3 : w19.frozen? ⟨w1.heap.size, 3, none⟩ = false := var_frozen o_s (by simp) 3 _ rfl
  have l_s := var_lt o_s
  have c_a0 : w19.cell? ⟨w3.heap.size, 0, none⟩ = some (.int .i64 V) := var_load o_a (by simp) 0 _ rfl
  have f_a0 : w19.frozen? ⟨w3.heap.size, 0, none⟩ = false := var_frozen o_a (by simp) 0 _ rfl
  have c_a1 : w19.cell? ⟨w3.heap.size, 1, none⟩ = some (.int .i64 S) := var_load o_a (by simp) 1 _ rfl
  have f_a1 : w19.frozen? ⟨w3.heap.size, 1, none⟩ = false := var_frozen o_a (by simp) 1 _ rfl
  have c_a2 : w19.cell? ⟨w3.heap.size, 2, none⟩ = some (.int .i64 D) := var_load o_a (by simp) 2 _ rfl
  have f_a2 : w19.frozen? ⟨w3.heap.size, 2, none⟩ = false := var_frozen o_a (by simp) 2 _ rfl
  have c_a3 : w19.cell? ⟨w3.heap.size, 3, none⟩ = some (.int .i64 sg) := var_load o_a (by simp) 3 _ rfl
  have f_a3 : w19.frozen? ⟨w3.heap.size, 3, none⟩ = false := var_frozen o_a (by simp) 3 _ rfl
  have l_a := var_lt o_a
  have c_b0 : w19.cell? ⟨(w3.heap.size + 1), 0, none⟩ = some (.int .i64 V) := var_load o_b (by simp) 0 _ rfl
  have f_b0 : w19.frozen? ⟨(w3.heap.size + 1), 0, none⟩ = false := var_frozen o_b (by simp) 0 _ rfl
  have c_b1 : w19.cell? ⟨(w3.heap.size + 1), 1, none⟩ = some (.int .i64 (S + 1)) := var_load o_b (by simp) 1 _ rfl
  have f_b1 : w19.frozen? ⟨(w3.heap.size + 1), 1, none⟩ = false := var_frozen o_b (by simp) 1 _ rfl
  have c_b2 : w19.cell? ⟨(w3.heap.size + 1), 2, none⟩ = some (.int .i64 D) := var_load o_b (by simp) 2 _ rfl
  have f_b2 : w19.frozen? ⟨(w3.heap.size + 1), 2, none⟩ = false := var_frozen o_b (by simp) 2 _ rfl
  have c_b3 : w19.cell? ⟨(w3.heap.size + 1), 3, none⟩ = some (.int .i64 sg) := var_load o_b (by simp) 3 _ rfl
  have f_b3 : w19.frozen? ⟨(w3.heap.size + 1), 3, none⟩ = false := var_frozen o_b (by simp) 3 _ rfl
  have l_b := var_lt o_b
  have c_f0 : w19.cell? ⟨(w3.heap.size + 1 + 1), 0, none⟩ = some (.int .i64 V) := var_load o_f (by simp) 0 _ rfl
  have f_f0 : w19.frozen? ⟨(w3.heap.size + 1 + 1), 0, none⟩ = false := var_frozen o_f (by simp) 0 _ rfl
  have c_f1 : w19.cell? ⟨(w3.heap.size + 1 + 1), 1, none⟩ = some (.int .i64 S) := var_load o_f (by simp) 1 _ rfl
  have f_f1 : w19.frozen? ⟨(w3.heap.size + 1 + 1), 1, none⟩ = false := var_frozen o_f (by simp) 1 _ rfl
  have c_f2 : w19.cell? ⟨(w3.heap.size + 1 + 1), 2, none⟩ = some (.int .i64 D2) := var_load o_f (by simp) 2 _ rfl
  have f_f2 : w19.frozen? ⟨(w3.heap.size + 1 + 1), 2, none⟩ = false := var_frozen o_f (by simp) 2 _ rfl
  have c_f3 : w19.cell? ⟨(w3.heap.size + 1 + 1), 3, none⟩ = some (.int .i64 sg) := var_load o_f (by simp) 3 _ rfl
  have f_f3 : w19.frozen? ⟨(w3.heap.size + 1 + 1), 3, none⟩ = false := var_frozen o_f (by simp) 3 _ rfl
  have l_f := var_lt o_f
  have c_r0 : w19.cell? ⟨w9.heap.size, 0, none⟩ = some (.int .i64 M) := var_load o_r (by simp) 0 _ rfl
  have f_r0 : w19.frozen? ⟨w9.heap.size, 0, none⟩ = false := var_frozen o_r (by simp) 0 _ rfl
  have c_r1 : w19.cell? ⟨w9.heap.size, 1, none⟩ = some (.slice A 1 c) := var_load o_r (by simp) 1 _ rfl
  have f_r1 : w19.frozen? ⟨w9.heap.size, 1, none⟩ = false := var_frozen o_r (by simp) 1 _ rfl
  have l_r := var_lt o_r
  have c_q0 : w19.cell? ⟨w11.heap.size, 0, none⟩ = some (.int .i64 M) := var_load o_q (by simp) 0 _ rfl
  have f_q0 : w19.frozen? ⟨w11.heap.size, 0, none⟩ = false := var_frozen o_q (by simp) 0 _ rfl
  have c_q1 : w19.cell? ⟨w11.heap.size, 1, none⟩ = some (.slice A2 1 c2) := var_load o_q (by simp) 1 _ rfl
  have f_q1 : w19.frozen? ⟨w11.heap.size, 1, none⟩ = false := var_frozen o_q (by simp) 1 _ rfl
  have l_q := var_lt o_q
  go_wp2
  go_ret
  exact ⟨rfl, HB⟩
set_option maxRecDepth 100000 in
theorem walk (v0 : Value) (W : World) {H : Type} {enc : TypeId × Value → H} {b0 : Nat} {d0 : DataW H} {p0 : List MemPlace} (hv0 : Value.okWide Try.prog W .any b0 22 v0) (ht0 : DataW.Trod enc Try.prog W 0 (fun _ => true) true 22 v0 d0 p0) :
    Calls Try.prog 3 #[v0] W fun e w' => e = .returned (.bool true) ∧ Below W.heap.size W w' := by
  obtain ⟨A0, n0, c0, xs0, rfl, hr0, hm0, hx0⟩ := So.bytes hv0 ht0
  unfold maxLen at hm0
  by_cases hl : 1048576 < n0
  · clear hv0 ht0 hr0
    go_enter Try.func3, Try.ntmps3
    go_wp2_with fail
    (with_reducible refine (Cd.big_yes A0 n0 c0 _ (by omega) hl).mono ?_); rintro e w0 ⟨rfl, rfl⟩
    go_wp2
    go_ret
    exact ⟨rfl, Below.refl _ _⟩
  · exact walkSmall A0 n0 c0 xs0 hl W hr0 (fun x h => So.okI_u8 (hx0 x h))

set_option maxRecDepth 100000 in
theorem contract (H : Type) (enc : TypeId × Value → H) (W : World) (base : Nat) (args : Array Value) (ds gs : List (DataW H)) (before : List MemPlace)
    (hval : ∀ (j : Nat) t v, Try.f3.params[j]? = some t → args[j]? = some v → Value.okWide Try.prog W .any base t v)
    (hW : DataW.Whole enc Try.prog Try.f3.params.toList Rows.fnAttestationsSpec.vars false W args.toList ds gs before) :
    Calls Try.prog 3 args W fun e W' => ∃ v, e = .returned v ∧ Rows.fnAttestationsSpec.post enc Try.prog Try.f3 false true false false W args v W' := by
  have hW' := hW
  obtain ⟨p, q, hA0, hV, rfl, hfz, hnd⟩ := hW
  have hA : DataW.TrodAll enc Try.prog W 0 (fun _ => true) true Try.f3.params.toList args.toList ds p := hA0
  rw [Try.params3] at hA hval
  obtain ⟨v0, vs0, d0, ds0, p0, q0, hargs, rfl, rfl, h0, r0⟩ := trodAll_cons hA
  obtain ⟨rfl, rfl, rfl⟩ := trodAll_nil r0
  obtain rfl : args = #[v0] := by cases args; simp_all
  obtain ⟨rfl, rfl⟩ := trodVars_none hV
  clear hA0
  refine Fr.closeLaw rfl (by kernel_rfl) (by rw [Try.params3]; decide) hW' rfl ?_
  exact walk v0 W (hval 0 22 v0 rfl rfl) h0

set_option maxRecDepth 100000 in
theorem reads (os : Os) {H : Type} (enc : TypeId × Value → H) : ∃ places, DataW.whole enc Try.prog ((World.holding Try.prog os ⟨#[], #[], []⟩).forCall (fun _ _ => 0) ⟨#[], #[.slice none 0 0], []⟩).memory Try.f3.params.toList Rows.fnAttestationsSpec.vars false (#[.slice none 0 0] : Array Value).toList 8 = some ([.nil], [], places) :=
  ⟨[], by kernel_rfl⟩
set_option maxRecDepth 100000 in
theorem lifted (os : Os) (started : os.Started) (H : Type) (enc : TypeId × Value → H) (F : Stop.Interp) :
    ReturnsInHanded {} Try.checked os 3 .any ((OpenSpec.ofChange Rows.fnAttestationsSpec).preRow enc Try.prog Try.f3 Rows.fnAttestationsRow.domain false Rows.fnAttestationsRow.laid) (((OpenSpec.ofChange Rows.fnAttestationsSpec).at F).post enc Try.prog Try.f3 false true false false) := by
  obtain ⟨places, hx⟩ := reads os enc
  refine returnsInHanded_of_row (C := Try.checked) (s := OpenSpec.ofChange Rows.fnAttestationsSpec) Fr.own started (by kernel_rfl) Try.func3
    (witness_row_atRef (enc := enc) (C := Try.checked) false (World.holding Try.prog os ⟨#[], #[], []⟩) #[.slice none 0 0] rfl (by kernel_rfl) (by kernel_rfl) (by kernel_rfl)
      (OpenSpec.preRow_of_cond 8 hx (by kernel_rfl) (fun k hk => by cases hk) (by kernel_rfl) (laidMetH_nil _ _))) ?_
  intro W base args ds gs before hval hW _ hcond _ hL _ _
  exact contract H enc W base args ds gs before hval hW
set_option maxRecDepth 100000 in
theorem said : Rows.FnAttestationsSaid :=
  OpenClaim.holds_of_cond 3 Try.f3 rfl rfl rfl rfl rfl rfl rfl ⟨rfl, rfl, rfl, rfl, rfl⟩ rfl rfl rfl rfl rfl (by kernel_rfl) Try.func3 (by kernel_rfl)
    (of_decide_eq_true (by kernel_rfl)) (by unfold Func.isWrapper; first | (rw [if_pos (by decide +kernel)]; kernel_rfl) | (rw [if_neg (by decide +kernel)]; exact ⟨rfl, rfl⟩))
    (fun os started H enc _ F => by rw [OpenClaim.pre_eq_preRow]; exact lifted os started H enc F)
theorem proved : Rows.FnAttestationsSaid := said
#print axioms proved
end Go.Proofs.Ytpeagjpcdoegoaa.fnAttestations
