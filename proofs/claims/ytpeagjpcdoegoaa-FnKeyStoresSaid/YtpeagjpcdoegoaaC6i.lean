/-
  Contracts of chapter 6's keys and signatures, of the program: PublicKey, PrivateKey (a map of one entry keyed by a struct), VerifySignature, DeriveKey.
-/
import Derived.Test.YtpeagjpcdoegoaaC6
import Derived.Test.YtpeagjpcdoegoaaM1
import Derived.Maps.Own
import Derived.DeepKeys4
namespace Go.Proofs.Ytpeagjpcdoegoaa.C6i
open Go.ChangeShapes Go.WideShapes Go.ChangeAt Go.RowKit
open Go.Maps (Keyed)
open S0 S1 C3 M3 M4 M8 C6
set_option linter.unusedVariables false
set_option maxRecDepth 100000
set_option maxRecDepth 100000 in
theorem implPub0 (k : Int) (w : World) : Calls Try.prog 76 #[.int .i64 k] w fun e w' => e = .returned (.int .i64 (pub k)) ∧ w = w' := by
  by_cases h : key k
  · have HP := Lib.hid (show pub k = k * 48271 % 2147483647 by unfold pub; rw [if_pos h])
    have HK := Lib.hid (isKey_t h)
    have h0 := h.1
    have h1 := h.2
    clear h
    go_enter Try.func76, Try.ntmps76
    go_wp2_with fail
    (with_reducible refine (implValid _ k).mono ?_); rintro e w2 ⟨rfl, rfl⟩
    rw [HK.out]
    go_wp2
    go_ret
    exact ⟨by rw [HP.out]; rfl, rfl⟩
  · have HP := Lib.hid (pub_f h)
    have HK := Lib.hid (isKey_f h)
    clear h
    go_enter Try.func76, Try.ntmps76
    go_wp2_with fail
    (with_reducible refine (implValid _ k).mono ?_); rintro e w2 ⟨rfl, rfl⟩
    rw [HK.out]
    go_wp2
    go_ret
    exact ⟨by rw [HP.out]; rfl, rfl⟩
set_option maxHeartbeats 800000 in
set_option maxRecDepth 100000 in
theorem implDer (w : World) (A : Option Addr) (n c : Nat) (xs : List Int) (k : Int) (hk0 : -9223372036854775808 ≤ k) (hk1 : k ≤ 9223372036854775807) (hr : Rd w w.heap.size 1 A n (ints .i64 xs)) (hx : okInts xs) (hn : n ≤ 1048576) :
    Calls Try.prog 62 #[.int .i64 k, .slice A n c] w (Gives (.int .i64 (der k xs)) w) := by
  have HP := Lib.hid (show der k xs = if 1 > khash k ([151] ++ xs) then 1 else khash k ([151] ++ xs) by unfold der; split <;> split <;> omega)
  have HR := Lib.hid hr
  have HO := Lib.hid ((okInts.one (x := 151) (by omega) (by omega)).app hx)
  have ho0 : (w.alloc (.cells #[.int .i64 151] 3)).ownsRow w.heap.size 3 1 (.slice (some ⟨w.heap.size, 0, none⟩) 1 1) 1 (ints .i64 [151]) := own_ints w [151] 1 rfl (by omega)
  have b0 : Below w.heap.size w (w.alloc (.cells #[.int .i64 151] 3)) := (Below.refl _ _).alloc (Nat.le_refl _) _
  clear hr hx
  go_enter Try.func62, Try.ntmps62
  go_wp2_with (at_builtin; refine appI _ rfl _ _ rfl w.heap.size (.slice (some ⟨w.heap.size, 0, none⟩) 1 1) 1 _ rfl ho0 _ A n c _ rfl (HR.out.on b0) (ints_one _ _) (by omega) b0.size ?_; intro v1 w1 ho1 hg1; obtain ⟨A1, c1, rfl⟩ := own_nil_form ho1)
  have hb1 : Below w.heap.size w w1 := b0.grown hg1 b0.size (fun k hk => (ho0.lt k hk).1)
  rw [ints_app] at ho1
  have HO1 := Lib.hid ho1
  clear ho1 ho0 b0 hg1
  go_wp2_with fail
  (with_reducible refine (implKeyed _ A1 (1 + n) c1 ([151] ++ xs) k hk0 hk1 (Rd.own HO1.out) HO.out (by omega)).mono ?_); rintro e w2 ⟨rfl, b2⟩
  obtain ⟨q, hq⟩ : ∃ q, q = khash k ([151] ++ xs) := ⟨_, rfl⟩
  rw [← hq] at HP ⊢
  clear hq
  go_wp2_with fail
  (with_reducible refine (fromHash _ _).mono ?_); rintro e w3 ⟨he, b3⟩
  rw [← HP.out] at he
  subst he
  go_wp2
  go_ret
  have h2 := hb1.trans (b2.mono hb1.size)
  exact ⟨rfl, h2.trans (b3.mono h2.size)⟩
theorem implPub (k : Int) (w : World) : Calls Try.prog 76 #[.int .i64 k] w (Gives (.int .i64 (pub k)) w) := (implPub0 k w).mono (by rintro e w2 ⟨rfl, rfl⟩; exact ⟨rfl, Below.refl _ _⟩)
theorem specPub (k : Int) (w : World) : Calls Try.prog 42 #[.int .i64 k] w (Gives (.int .i64 (pub k)) w) := (C6.specPub k w).mono (by rintro e w2 ⟨rfl, rfl⟩; exact ⟨rfl, Below.refl _ _⟩)
theorem specPrv (u : Int) (w : World) : Calls Try.prog 78 #[.int .i64 u] w (Gives (.int .i64 (prv u)) w) := (C6.specPrv u w).mono (by rintro e w2 ⟨rfl, rfl⟩; exact ⟨rfl, Below.refl _ _⟩)
end Go.Proofs.Ytpeagjpcdoegoaa.C6i
