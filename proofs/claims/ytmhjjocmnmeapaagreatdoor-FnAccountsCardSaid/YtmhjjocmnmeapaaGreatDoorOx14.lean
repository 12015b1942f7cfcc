import Derived.Test.YtmhjjocmnmeapaaGreatDoorDr8
import Derived.Test.YtmhjjocmnmeapaaGreatDoorOk14
import Derived.Test.YtmhjjocmnmeapaaGreatDoorM20
/-
  What DrawUseCredential gives is in range.
-/
namespace Go.Proofs.YtmhjjocmnmeapaaGreatDoor.Ox14
open Go.ChangeShapes Go.WideShapes Go.ChangeAt Go.RowKit
open S0 S1 S9 Dm Fx M8 M13 M18 M19 C10 C13m C13b Das Dr Ok14
set_option linter.unusedVariables false
set_option linter.unusedSimpArgs false
set_option maxRecDepth 100000
structure OkX (x : Fx.Assertion) : Prop where
  site : x.Site.size ≤ 16000000
  orig : x.Origin.size ≤ 16000000
  chal : -9223372036854775808 ≤ x.Challenge ∧ x.Challenge ≤ 9223372036854775807
  hand : -9223372036854775808 ≤ x.Handle ∧ x.Handle ≤ 9223372036854775807
  cntr : -9223372036854775808 ≤ x.Counter ∧ x.Counter ≤ 9223372036854775807
  sign : -9223372036854775808 ≤ x.Signature ∧ x.Signature ≤ 9223372036854775807
theorem OkX.ok {x : Fx.Assertion} (h : OkX x) : x.ok := by
  have h1 := h.site
  have h2 := h.orig
  exact ⟨by unfold maxLen; omega, by unfold maxLen; omega, h.chal, h.hand, trivial, h.cntr, h.sign⟩
theorem z_okX : OkX zAssertion := ⟨by decide, by decide, by decide, by decide, by decide, by decide⟩
theorem mk_okX {y : Fx.KeyStore} {o : Fx.Origin} {z : ByteArray} {h n : Int} {p : Bool} (hz : z.size ≤ 15000000) (h0 : -9223372036854775808 ≤ h ∧ h ≤ 9223372036854775807) (n0 : -9223372036854775808 ≤ n ∧ n ≤ 9223372036854775807) : OkX (mkA y o z h n p) := by
  have hf := fmt_size o
  unfold mkA
  split
  · next hb =>
    have hs : signB y = true := by unfold mkB at hb; rw [Bool.and_eq_true] at hb; exact hb.2
    have hc : -9223372036854775808 ≤ (signX y).Counter ∧ (signX y).Counter ≤ 9223372036854775807 := by
      unfold signX
      rw [if_pos hs]
      unfold signB vst at hs
      simp only [Bool.and_eq_true, decide_eq_true_eq] at hs
      show -9223372036854775808 ≤ y.Counter + 1 ∧ y.Counter + 1 ≤ 9223372036854775807
      omega
    have hv : -9223372036854775808 ≤ signV y z h (msg (a0 o z h n p)) ∧ signV y z h (msg (a0 o z h n p)) ≤ 9223372036854775807 := by
      unfold signV
      rw [if_pos hs]
      have := sgn_in (prvS y z h) (msg (a0 o z h n p) ++ [y.Counter + 1])
      omega
    exact ⟨by show z.size ≤ _; omega, by show (str (fmtO o)).size ≤ _; omega, n0, h0, hc, hv⟩
  · exact ⟨by decide, by decide, by decide, by decide, by decide, by decide⟩
theorem lit_size {l : List ByteArray} (h : ∀ x ∈ l, x.size ≤ 16000000) (k : Nat) : (l.getD k ⟨#[]⟩).size ≤ 16000000 := by
  rw [List.getD_eq_getElem?_getD]
  rcases Nat.lt_or_ge k l.length with hk | hk
  · rw [List.getElem?_eq_getElem hk]; exact h _ (List.getElem_mem hk)
  · rw [List.getElem?_eq_none hk]; exact Nat.zero_le _
theorem hostAny_size (xs : List Int) (s : Cu) : (hostAny0 xs s).size ≤ 16000000 := by
  unfold hostAny0
  split
  · exact lit_size (by decide) _
  · unfold host0
    exact lit_size (by decide) _
theorem bent_okX {xs : List Int} {x : Fx.Assertion} {s : Cu} (h : OkX x) : OkX (bent0 xs x s) := by
  obtain ⟨h1, h2, h3, h4, h5, h6⟩ := h
  unfold bent0
  repeat' split
  · exact ⟨h1, lit_size (by decide) _, h3, h4, h5, h6⟩
  · exact ⟨h1, h2, wr_bd _, h4, h5, h6⟩
  · exact ⟨h1, h2, h3, h4, wr_bd _, h6⟩
  · exact ⟨h1, h2, h3, h4, h5, wr_bd _⟩
  · exact ⟨hostAny_size _ _, h2, h3, h4, h5, h6⟩
  · exact ⟨h1, h2, h3, wr_bd _, h5, h6⟩
  · exact ⟨h1, h2, h3, h4, h5, h6⟩
theorem scan_okX {l : List Fx.KeyStore} {z : ByteArray} {o : Fx.Origin} {h p n : Int} (hz : z.size ≤ 15000000) (h0 : -9223372036854775808 ≤ h ∧ h ≤ 9223372036854775807) (n0 : -9223372036854775808 ≤ n ∧ n ≤ 9223372036854775807) : ∀ (m j : Nat) (x : Fx.Assertion), OkX x → OkX (scanU l z o h p n m j x)
  | 0, _, x, hx => hx
  | m + 1, j, x, hx => by
    cases e : (pubS (l.getD j zKeyStore) z h == p) with
    | true => rw [scan_t e]; exact scan_okX hz h0 n0 m (j + 1) _ (mk_okX hz h0 n0)
    | false => rw [scan_f e]; exact scan_okX hz h0 n0 m (j + 1) _ hx
theorem duN_bd (xs : List Int) : -9223372036854775808 ≤ duN xs ∧ duN xs ≤ 9223372036854775807 := bel_bd xs 9 _ (by decide) (by decide)
theorem duX1_okX (xs : List Int) : OkX (duX1 xs) := by
  cases h4 : decide (((duL xs).length : Int) > 0) with
  | false => rw [duX1_f h4]; exact z_okX
  | true => rw [duX1_t h4]; exact scan_okX site_size ((okL.acc _ _ _).at _).Handle (duN_bd xs) _ _ _ z_okX
theorem duX_okX (xs : List Int) : OkX (duX xs) := by
  cases h : (belV xs 3 (duS4 xs) == 0) with
  | true => rw [(duX_t h).1]; exact bent_okX (duX1_okX xs)
  | false => rw [(duX_f h).1]; exact duX1_okX xs
theorem duA_okL (xs : List Int) : okL (duA xs).Credentials := by
  cases h : (belV xs 10 (duS5 xs) == 0) with
  | true => rw [duA_t h]; exact okL.any _ _
  | false => rw [duA_f h]; exact okL.acc _ _ _
theorem duS4_ok {xs : List Int} (hx : xs.length ≤ 1048576) : OkC xs (duS4 xs) := by
  have k : OkC xs (duS3 xs) := belS_ok (accS_ok (siteS_ok (start_ok (by omega))))
  cases h4 : decide (((duL xs).length : Int) > 0) with
  | false => rw [duS4_f h4]; exact k
  | true => rw [duS4_t h4]; exact belS_ok k
theorem duS5_ok {xs : List Int} (hx : xs.length ≤ 1048576) : OkC xs (duS5 xs) := by
  cases h : (belV xs 3 (duS4 xs) == 0) with
  | true => rw [(duX_t h).2]; exact bentS_ok (belS_ok (duS4_ok hx))
  | false => rw [(duX_f h).2]; exact belS_ok (duS4_ok hx)
theorem duA_len {xs : List Int} (hx : xs.length ≤ 1048576) : (duA xs).Credentials.length ≤ 4 := by
  cases h : (belV xs 10 (duS5 xs) == 0) with
  | true => rw [duA_t h]; exact an_len (belS_ok (duS5_ok hx))
  | false =>
    rw [duA_f h]
    have := (acc_len (z := duZ xs) (siteS_ok (start_ok (xs := xs) (by omega)))).1
    exact Nat.le_trans this (by decide)
end Go.Proofs.YtmhjjocmnmeapaaGreatDoor.Ox14
