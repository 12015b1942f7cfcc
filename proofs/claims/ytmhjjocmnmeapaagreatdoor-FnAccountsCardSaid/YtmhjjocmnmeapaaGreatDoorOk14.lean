import Derived.Test.YtmhjjocmnmeapaaGreatDoorDr7
import Derived.Test.YtmhjjocmnmeapaaGreatDoorC14l
/-
  What chapter 14's draws give is in range.
-/
namespace Go.Proofs.YtmhjjocmnmeapaaGreatDoor.Ok14
open Go.ChangeShapes Go.WideShapes Go.ChangeAt Go.RowKit
open S0 S1 S9 Dm Fx M8 M18 C14l E0 E1 E2 E3 E4 E7 E10 E15 E16 E17 E18 E19 E20 E22 E23 Das Dr
set_option linter.unusedVariables false
set_option linter.unusedSimpArgs false
set_option maxRecDepth 100000
def okL (l : List Cr) : Prop := ∀ x ∈ l, Credential.ok x
theorem z_ok : Credential.ok zCredential := ⟨by decide, by decide, by decide, trivial⟩
theorem okL.at {l : List Cr} (h : okL l) (k : Nat) : Credential.ok (l.getD k zCredential) := by
  rw [List.getD_eq_getElem?_getD]
  rcases Nat.lt_or_ge k l.length with hk | hk
  · rw [List.getElem?_eq_getElem hk]; exact h _ (List.getElem_mem hk)
  · rw [List.getElem?_eq_none hk]; exact z_ok
theorem okL.set {l : List Cr} (h : okL l) (k : Nat) {y : Cr} (hy : Credential.ok y) : okL (l.set k y) := fun x hx => by
  rcases List.mem_or_eq_of_mem_set hx with h1 | rfl
  · exact h x h1
  · exact hy
theorem okL.cut {a : Fx.Account} (h : okL a.Credentials) (k : Int) : okL (cutX a k).Credentials := by
  cases e : cutB a k with
  | false => rw [cutX_f e]; exact h
  | true => rw [cutX_t e]; exact okL.set h _ ⟨(h.at _).Handle, (h.at _).Public, (h.at _).Counter, trivial⟩
theorem okL.add {a : Fx.Account} (h : okL a.Credentials) {k p : Int} (hk : -9223372036854775808 ≤ k ∧ k ≤ 9223372036854775807) (hp : -9223372036854775808 ≤ p ∧ p ≤ 9223372036854775807) : okL (addX a k p).Credentials := by
  cases e : addB a k p with
  | false => rw [addX_f e]; exact h
  | true => rw [add_cr e]; exact ins_ok h ⟨hk, hp, ⟨by show (-9223372036854775808 : Int) ≤ 0; decide, by show (0 : Int) ≤ 9223372036854775807; decide⟩, trivial⟩
theorem pub_bd (k : Int) : -9223372036854775808 ≤ pub k ∧ pub k ≤ 9223372036854775807 := by have := pub_in k; omega
theorem bel_bd (xs : List Int) (n : Int) (s : Cu) (h0 : 0 < n) (h1 : n ≤ 100000) : -9223372036854775808 ≤ belV xs n s ∧ belV xs n s ≤ 9223372036854775807 := by have := belV_bd xs (n := n) s h0; omega
theorem okL.pass {xs : List Int} {z : ByteArray} {y : AS} (h : okL y.a.Credentials) : okL (pass xs z y).a.Credentials := by
  have h1 : okL (passA xs z y).a.Credentials := by
    cases e : addB y.a (passH xs y) (passP xs z y) with
    | false => rw [passA_f e]; exact h
    | true =>
      rw [passA_t e]
      have h2 : okL (addX y.a (passH xs y) (passP xs z y)).Credentials := okL.add h (stH_bd _ _ _) (pub_bd _)
      exact okL.set h2 _ ⟨(h2.at _).Handle, (h2.at _).Public, bel_bd xs 5 _ (by decide) (by decide), trivial⟩
  cases e : (belV xs 5 (passA xs z y).s == 0) with
  | true => rw [pass_t e]; exact okL.cut h1 _
  | false => rw [pass_f e]; exact h1
theorem okL.run {xs : List Int} {z : ByteArray} : ∀ {n : Nat} {y : AS}, okL y.a.Credentials → okL (runA xs z n y).a.Credentials
  | 0, _, h => h
  | n + 1, y, h => okL.run (n := n) (okL.pass h)
theorem okL.acc (xs : List Int) (z : ByteArray) (s : Cu) : okL (accA xs z s).Credentials := okL.run (n := (as0 xs s).n) (y := as0 xs s) (fun x hx => by cases hx)
theorem lit_bd {l : List Int} (h : ∀ x ∈ l, -9223372036854775808 ≤ x ∧ x ≤ 9223372036854775807) (k : Nat) : -9223372036854775808 ≤ l.getD k 0 ∧ l.getD k 0 ≤ 9223372036854775807 := by
  rw [List.getD_eq_getElem?_getD]
  rcases Nat.lt_or_ge k l.length with hk | hk
  · rw [List.getElem?_eq_getElem hk]; exact h _ (List.getElem_mem hk)
  · rw [List.getElem?_eq_none hk]; decide
theorem okL.any (xs : List Int) (s : Cu) : okL (anA xs s).Credentials := by
  have h := okL.acc xs BANK s
  unfold anA
  split
  · exact h
  · split
    · exact h
    · split
      · intro x hx
        rcases List.mem_append.1 hx with h1 | h1
        · exact h x h1
        · rw [List.mem_singleton.1 h1]
          exact ⟨wr_bd _, lit_bd (by decide) _, lit_bd (by decide) _, trivial⟩
      · exact h
theorem an_len {xs : List Int} {s : Cu} (k : OkC xs s) : (anA xs s).Credentials.length ≤ 4 := by
  have h := (acc_len (z := BANK) k).1
  unfold anA
  split
  · show (accA xs BANK s).Credentials.length ≤ 4; omega
  · split
    · show (accA xs BANK s).Credentials.length ≤ 4; omega
    · split
      · show ((accA xs BANK s).Credentials ++ [anC xs s]).length ≤ 4; rw [List.length_append]; simp; omega
      · omega
theorem cut_lenE (a : Fx.Account) (h : Int) : (cutX a h).Credentials.length = a.Credentials.length := by
  cases e : cutB a h with
  | false => rw [cutX_f e]
  | true => rw [cutX_t e]; show (setC _ _).length = _; unfold setC; rw [List.length_set]
theorem passA_eq {xs : List Int} {z : ByteArray} {y : AS} (h : y.l.length = y.a.Credentials.length) : (passA xs z y).l.length = (passA xs z y).a.Credentials.length := by
  cases e : addB y.a (passH xs y) (passP xs z y) with
  | false => rw [passA_f e]; exact h
  | true =>
    rw [passA_t e]
    show (y.l ++ [stK xs y.s]).length = (setN _ _ _).length
    rw [setN_len, len_add e, List.length_append, h]
    rfl
theorem pass_eq {xs : List Int} {z : ByteArray} {y : AS} (h : y.l.length = y.a.Credentials.length) : (pass xs z y).l.length = (pass xs z y).a.Credentials.length := by
  have h1 := passA_eq (xs := xs) (z := z) h
  cases e : (belV xs 5 (passA xs z y).s == 0) with
  | true => rw [pass_t e]; show _ = (cutX _ _).Credentials.length; rw [cut_lenE]; exact h1
  | false => rw [pass_f e]; exact h1
theorem run_eq {xs : List Int} {z : ByteArray} : ∀ {n : Nat} {y : AS}, y.l.length = y.a.Credentials.length → (runA xs z n y).l.length = (runA xs z n y).a.Credentials.length
  | 0, _, h => h
  | n + 1, y, h => run_eq (n := n) (pass_eq h)
theorem acc_eq (xs : List Int) (z : ByteArray) (s : Cu) : (accL xs z s).length = (accA xs z s).Credentials.length := run_eq (n := (as0 xs s).n) (y := as0 xs s) rfl
theorem zK_ok : KeyStore.ok zKeyStore := ⟨⟨by decide, by decide⟩, ⟨by decide, by decide⟩, ⟨by decide, by decide⟩, ⟨by decide, by decide⟩⟩
theorem passA_oks {xs : List Int} {z : ByteArray} {y : AS} (h : ∀ x ∈ y.l, KeyStore.ok x) : ∀ x ∈ (passA xs z y).l, KeyStore.ok x := by
  cases e : addB y.a (passH xs y) (passP xs z y) with
  | false => rw [passA_f e]; exact h
  | true =>
    rw [passA_t e]
    intro x hx
    rcases List.mem_append.1 (show x ∈ y.l ++ [stK xs y.s] from hx) with h1 | h1
    · exact h x h1
    · rw [List.mem_singleton.1 h1]; exact stK_ok _ _
theorem pass_oks {xs : List Int} {z : ByteArray} {y : AS} (h : ∀ x ∈ y.l, KeyStore.ok x) : ∀ x ∈ (pass xs z y).l, KeyStore.ok x := by
  have h1 := passA_oks (xs := xs) (z := z) h
  cases e : (belV xs 5 (passA xs z y).s == 0) with
  | true => rw [pass_t e]; exact h1
  | false => rw [pass_f e]; exact h1
theorem run_oks {xs : List Int} {z : ByteArray} : ∀ {n : Nat} {y : AS}, (∀ x ∈ y.l, KeyStore.ok x) → ∀ x ∈ (runA xs z n y).l, KeyStore.ok x
  | 0, _, h => h
  | n + 1, y, h => run_oks (n := n) (pass_oks h)
theorem acc_oks (xs : List Int) (z : ByteArray) (s : Cu) : ∀ x ∈ accL xs z s, KeyStore.ok x := run_oks (n := (as0 xs s).n) (y := as0 xs s) fun x hx => by cases hx
theorem acc_okAt (xs : List Int) (z : ByteArray) (s : Cu) (k : Nat) : KeyStore.ok ((accL xs z s).getD k zKeyStore) := by
  rw [List.getD_eq_getElem?_getD]
  rcases Nat.lt_or_ge k (accL xs z s).length with hk | hk
  · rw [List.getElem?_eq_getElem hk]; exact acc_oks _ _ _ _ (List.getElem_mem hk)
  · rw [List.getElem?_eq_none hk]; exact zK_ok
end Go.Proofs.YtmhjjocmnmeapaaGreatDoor.Ok14
