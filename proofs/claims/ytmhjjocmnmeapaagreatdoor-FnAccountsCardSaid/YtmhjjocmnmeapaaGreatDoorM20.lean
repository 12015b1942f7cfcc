import Derived.Test.YtmhjjocmnmeapaaGreatDoorM19
/-
  What FnAccounts asks, in plain words.
-/
namespace Go.Proofs.YtmhjjocmnmeapaaGreatDoor.M20
open S0 S1 S9 Dm Fx M8 M18 M19 C13 Das
set_option linter.unusedVariables false
theorem chk_ctr {p : Int} {x : Fx.Assertion} {z : ByteArray} {n c : Int} (hc : x.Counter ≤ c) : chkA p x z n c ≠ 0 := by
  unfold chkA
  repeat' split
  all_goals first | omega | decide
theorem find_set {l : List Cr} {h : Int} {k : Nat} {y : Cr} (e : pos l h = some k) (hy : y.Handle = (l.getD k zCredential).Handle) : findC (l.set k y) h = (k : Int) := by
  obtain ⟨hk, hh⟩ := pos_handle e
  refine find_at (by rw [List.length_set]; exact hk) (fun j hj => ?_) (by rw [getD_set hk, if_pos rfl, hy, hh])
  rw [getD_set hk, if_neg (by omega)]
  exact pos_before e hj
theorem use_again (a : Fx.Account) (x : Fx.Assertion) (z : ByteArray) (n : Int) : useR (useX a x z n) x z n ≠ 0 := by
  cases e : cutB a x.Handle with
  | false =>
    obtain ⟨h1, h2⟩ := use_f (z := z) (n := n) e
    rw [h1, h2]; decide
  | true =>
    cases e0 : useK a x z n == 0 with
    | true =>
      rw [use_0 e e0]
      obtain ⟨k, hp, hv, _, hk, _⟩ := cut_of e
      have hf : findC a.Credentials x.Handle = (k : Int) := by unfold findC; rw [hp]
      cases e2 : cutB (⟨a.Id, a.Minimum, setN a.Credentials (findC a.Credentials x.Handle).toNat x.Counter⟩ : Fx.Account) x.Handle with
      | false => rw [(use_f e2).2]; decide
      | true =>
        rw [use_r e2]
        unfold useK
        refine chk_ctr ?_
        unfold useC
        show x.Counter ≤ ((setN a.Credentials (findC a.Credentials x.Handle).toNat x.Counter).getD (findC (setN a.Credentials (findC a.Credentials x.Handle).toNat x.Counter) x.Handle).toNat zCredential).Counter
        rw [hf, Int.toNat_natCast]
        unfold setN
        rw [find_set (y := { (a.Credentials.getD k zCredential) with Counter := x.Counter }) hp rfl, Int.toNat_natCast, getD_set hk, if_pos rfl]
        exact Int.le_refl _
    | false =>
      cases e4 : useK a x z n == 4 with
      | true =>
        rw [use_4 e e0 e4, ← cutX_t e, (use_f (cut_more e)).2]; decide
      | false =>
        rw [use_9 e e0 e4, use_r e]
        simpa using e0
theorem use_inv {a : Fx.Account} {x : Fx.Assertion} {z : ByteArray} {n : Int} (e : vac a = false) : useX a x z n = a := (use_f (cutB_v e)).1
theorem use_after {b : Fx.Account} {x : Fx.Assertion} {z : ByteArray} {n : Int} (e : cutB b x.Handle = true) : useR (cutX b x.Handle) x z n = 5 := (use_f (cut_more e)).2
theorem cut_ne {b : Fx.Account} {h : Int} (e : cutB b h = true) : eqlA (cutX b h) b = false := by
  cases e2 : eqlA (cutX b h) b with
  | false => rfl
  | true =>
    have e3 := cut_more e
    rw [eqlA_ok e2, e] at e3
    cases e3
theorem rai_key (a : Fx.Account) : raiB a 3 = vac a := by
  unfold raiB
  cases e : vac a with
  | false => rfl
  | true => rw [inB_t ⟨(vac_ok e).2.1.2, by decide⟩]; rfl
theorem rai_low {a : Fx.Account} (e : raiB a 3 = true) : raiB (raiX a 3) 1 = false ∧ allB (raiX a 3) 2 = false := by
  rw [raiX_t e]
  have h1 : ∀ m : Int, m < 3 → raiB (⟨a.Id, 3, a.Credentials⟩ : Fx.Account) m = false := fun m hm => by
    unfold raiB inB
    rw [decide_eq_false (show ¬ (3 : Int) ≤ m by omega)]
    simp
  refine ⟨h1 1 (by decide), ?_⟩
  unfold allB
  rw [h1 2 (by decide)]
  rfl
end Go.Proofs.YtmhjjocmnmeapaaGreatDoor.M20
