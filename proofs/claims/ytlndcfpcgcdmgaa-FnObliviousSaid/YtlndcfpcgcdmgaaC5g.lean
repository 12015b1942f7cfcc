/-
  Contracts of chapter 5's shares, of the model: Interpolate, ShareSecret, RefreshShares, MissingShare.
-/
import Derived.Test.YtlndcfpcgcdmgaaC5f
namespace Go.Proofs.Ytlndcfpcgcdmgaa.C5g
open Go.ChangeShapes Go.WideShapes Go.ChangeAt Go.RowKit
open S0 S1 S3 C3 M4 M5 C5 C5b C5c C5d C5e C5f M6
set_option linter.unusedVariables false
theorem red0 (s q : Int) (s0 : 0 ≤ s) (s1 : s ≤ 1018) (q0 : 0 ≤ q) (q1 : q ≤ 1018 * 1018) : (s + q).tmod 1019 = (s + q) % 1019 := Int.tmod_eq_emod_of_nonneg (by omega)
set_option maxHeartbeats 1600000 in
set_option maxRecDepth 100000 in
theorem specSecret (w : World) (s : Int) (A : Option Addr) (m c n : Nat) (cs : List Int) (hs0 : -9223372036854775808 ≤ s) (hs1 : s ≤ 9223372036854775807) (hr : Rd w w.heap.size 1 A m (ints .i64 cs)) (hok : okInts cs) (hn : n ≤ 7) (hmn : m < n) :
    Calls Try.prog 31 #[.int .i64 s, .slice A m c, .int .i64 n] w (MadeS 30 2 n (ints .i64 (prs shf (shg s cs) n)) w) := by
  have HR := Lib.hid hr
  have HX := Lib.hid hok
  have HM := made2_start shf (shg s cs) w
  clear hr hok
  go_enter Try.func31, Try.ntmps31
  go_wp2_with fail
  (with_reducible refine (C1.specIn_t (n : Int) 1 7 _ (by omega) (by omega)).mono ?_); rintro e w1 ⟨rfl, rfl⟩
  have hmi : (m : Int) < (n : Int) := by omega
  have hdm : decide (n ≤ m) = false := by simp; omega
  go_wp2
  go_loopw [7, 8] (fun v i wr => ∃ k : Nat, k ≤ n ∧ i = .int .i64 ((k : Int) + 1) ∧ Made2 shf (shg s cs) w k v wr) (fun _ i _ => n + 1 - (intOf i).toNat)
  case atStart => exact ⟨0, by omega, rfl, HM⟩
  case round =>
    obtain ⟨k, hk, rfl, hE⟩ := hrel
    obtain ⟨A1, c1, rfl⟩ := made2_form hE
    have H := Lib.hid hE
    have hb := hE.2
    clear hE HM
    by_cases hlt : k < n
    · have ho := H.out.1
      have hz := hb.size
      have HQ := Lib.hid (show shg s cs k = poly s cs ((k : Int) + 1) from rfl)
      go_wp2_with fail
      (with_reducible refine (l5Poly wr s ((k : Int) + 1) A m c cs hs0 hs1 (by omega) (by omega) (HR.out.on hb) HX.out (by omega)).mono ?_); rintro e w3 ⟨rfl, rfl⟩
      rw [← HQ.out]
      obtain ⟨q, hq⟩ : ∃ q, q = shg s cs k := ⟨_, rfl⟩
      rw [← hq]
      have HQ2 := Lib.hid hq
      clear hq
      go_wp2_with (at_builtin; refine appS _ rfl _ _ rfl w.heap.size _ _ _ rfl (ho.alloc _) _ _ 1 1 [.int .i64 ((k : Int) + 1), .int .i64 q] rfl (rd_two _ _ _ _) (one_two _ _) (by omega) (by simp; omega) ?_; intro v2 w2 ho2 hg2)
      go_roundw
      case rel => exact ⟨k + 1, by omega, by go_num, made2_next H.out (Below.refl _ _) rfl HQ2.out ho2 hg2⟩
      case measure => simp [intOf]; omega
    · have hkn : k = n := by omega
      subst hkn
      go_wp2
      go_ret
      exact ⟨_, _, rfl, H.out.1, H.out.2⟩
theorem specSecret_f (w : World) (s : Int) (A : Option Addr) (m c : Nat) (n : Int) (hm : m ≤ 9223372036854775807) (hmn : ¬ secB m n) :
    Calls Try.prog 31 #[.int .i64 s, .slice A m c, .int .i64 n] w (MadeS 30 2 0 [] w) := by
  have HM := made2_start shf (shg 0 []) w
  by_cases hin : 1 ≤ n ∧ n ≤ 7
  · have h2 : n ≤ (m : Int) := by
      have : ¬ (m : Int) < n := fun h => hmn ⟨hin.1, hin.2, h⟩
      omega
    clear hmn
    go_enter Try.func31, Try.ntmps31
    go_wp2_with fail
    (with_reducible refine (C1.specIn_t n 1 7 _ hin.1 hin.2).mono ?_); rintro e w1 ⟨rfl, rfl⟩
    go_wp2
    go_ret
    exact ⟨_, _, rfl, HM.1, HM.2⟩
  · have h2 : n < 1 ∨ 7 < n := by omega
    clear hmn
    go_enter Try.func31, Try.ntmps31
    go_wp2_with fail
    (with_reducible refine (C1.specIn_f n 1 7 _ h2).mono ?_); rintro e w1 ⟨rfl, rfl⟩
    go_wp2
    go_ret
    exact ⟨_, _, rfl, HM.1, HM.2⟩
end Go.Proofs.Ytlndcfpcgcdmgaa.C5g
