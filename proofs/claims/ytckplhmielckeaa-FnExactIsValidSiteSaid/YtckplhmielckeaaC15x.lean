/-
  Chapter 15 in the words of the exact laws.
-/
import Derived.Test.YtckplhmielckeaaC15s
import Derived.Test.YtckplhmielckeaaC15i
import Derived.Test.YtckplhmielckeaaC14x
import Derived.Test.YtckplhmielckeaaYSite
namespace Go.Proofs.Ytckplhmielckeaa.C15x
open Go.ChangeShapes Go.WideShapes Go.ChangeAt Go.RowKit
open S0 S1 S9 Dm Fx M3 M8 M18 M21 E0 E18 Das
set_option linter.unusedVariables false
theorem ch_wt (l : List Fx.Challenge) : Dm.wt (ChallengesD l) = l.length := by
  rw [wt_Challenges]
  have : wtL (l.flatMap Fx.Challenge.dcs) = 0 := by
    induction l with
    | nil => rfl
    | cons x l ih => rw [List.flatMap_cons, Dm.wtL_app, ih, Challenge.wt]
  omega
theorem ac_cr : ∀ {l : List Fx.Account} {a : Fx.Account}, a ∈ l → a.Credentials.length ≤ wtL (l.flatMap Account.dcs)
  | [], _, h => by cases h
  | x :: l, a, h => by
    rw [List.flatMap_cons, Dm.wtL_app, Account.wt, C14x.cr_wt]
    rcases List.mem_cons.1 h with rfl | h
    · omega
    · have := ac_cr h
      omega
theorem ac_len {l : List Fx.Account} {n : Nat} (h : Dm.wt (AccountsD l) ≤ n) : l.length ≤ n := by rw [wt_Accounts] at h; omega
theorem ac_crs {l : List Fx.Account} {n : Nat} (h : Dm.wt (AccountsD l) ≤ n) : ∀ a ∈ l, a.Credentials.length ≤ n := fun a ha => by
  rw [wt_Accounts] at h
  have := ac_cr ha
  omega
theorem ch_len {l : List Fx.Challenge} {n : Nat} (h : Dm.wt (ChallengesD l) ≤ n) : l.length ≤ n := by rw [ch_wt] at h; exact h
theorem nu_len {l : List Int} {n : Nat} (h : Dm.wt (numsD l) ≤ n) : l.length ≤ n := by rw [wt_numsD] at h; exact h
theorem oks {s : Fx.Site} (h : s.ok) : ∀ a ∈ s.Accounts, ∀ x ∈ a.Credentials, Credential.ok x := fun a ha => (h.Accounts a ha).Credentials
theorem new_name_le (z : ByteArray) (k : Int) : (newX z k).Name.size ≤ z.size := by
  cases h : acpB z k with
  | true => rw [newX_t h]; exact Nat.le_refl _
  | false => rw [newX_f h]; exact Nat.zero_le _
theorem new_acc (z : ByteArray) (k : Int) : (newX z k).Accounts = [] ∧ (newX z k).Book.Open = [] ∧ (newX z k).Logins = [] := by
  cases h : acpB z k with
  | true => rw [newX_t h]; exact ⟨rfl, rfl, rfl⟩
  | false => rw [newX_f h]; exact ⟨rfl, rfl, rfl⟩
theorem new_wts (z : ByteArray) (k : Int) : Dm.wt (AccountsD (newX z k).Accounts) ≤ 0 ∧ Dm.wt (ChallengesD (newX z k).Book.Open) ≤ 0 ∧ Dm.wt (numsD (newX z k).Logins) ≤ 0 := by
  obtain ⟨h1, h2, h3⟩ := new_acc z k
  rw [h1, h2, h3, ch_wt, wt_Accounts, wt_numsD]
  exact ⟨Nat.le_refl _, Nat.le_refl _, Nat.le_refl _⟩
theorem specNew (w : World) (z : ByteArray) (k : Int) (hz : z.size ≤ 4294967296) : Calls Try.prog 8 #[.string z, .int .i64 k] w (Bx.MadeL (newX z k).dcs w) :=
  (con_made (C15s.conNew z k hz) (us := []) rfl (dasSite_dc _) (arg_val (arg_val arg_nil))).mono fun _ _ h => h
theorem implNew (w : World) (z : ByteArray) (k : Int) (hz : z.size ≤ 4294967296) : Calls Try.prog 9 #[.string z, .int .i64 k] w (Bx.MadeL (newX z k).dcs w) :=
  (con_made (C15i.conNew z k hz) (us := []) rfl (dasSite_dc _) (arg_val (arg_val arg_nil))).mono fun _ _ h => h
section
variable (w : World) (s b : Fx.Site) (us vs : List Value) (h : ShsL w w.heap.size s.dcs us) (h2 : ShsL w w.heap.size b.dcs vs) (h1 : Dm.wt (AccountsD s.Accounts) ≤ 16000000)
include h h1
theorem specFnd (i : Int) : Calls Try.prog 19 #[.agg us.toArray, .int .i64 i] w (Gives (.int .i64 (findA s.Accounts i)) w) :=
  con_plain (C15s.conFnd s i (ac_len h1)) (us := [.int .i64 (findA s.Accounts i)]) rfl (arg_agg (dasSite_dc s) h (arg_val arg_nil))
theorem implFnd (i : Int) : Calls Try.prog 20 #[.agg us.toArray, .int .i64 i] w (Gives (.int .i64 (findA s.Accounts i)) w) :=
  con_plain (C15i.conFnd s i (ac_len h1)) (us := [.int .i64 (findA s.Accounts i)]) rfl (arg_agg (dasSite_dc s) h (arg_val arg_nil))
variable (h3 : Dm.wt (ChallengesD s.Book.Open) ≤ 16000000) (hz : s.Name.size ≤ 4294967296)
include h3 hz
theorem specVsi : Calls Try.prog 14 #[.agg us.toArray] w (Gives (.bool (vsi s)) w) :=
  con_plain (C15s.conVsi s (ac_len h1) (ac_crs h1) (ch_len h3) hz) (us := [.bool (vsi s)]) rfl (arg_agg (dasSite_dc s) h arg_nil)
theorem implVsi (ho : s.ok) : Calls Try.prog 16 #[.agg us.toArray] w (Gives (.bool (vsi s)) w) :=
  con_plain (C15i.conVsi s (ac_len h1) (ac_crs h1) (oks ho) (ch_len h3) hz) (us := [.bool (vsi s)]) rfl (arg_agg (dasSite_dc s) h arg_nil)
end
section
variable (w : World) (s b : Fx.Site) (us vs : List Value) (h : ShsL w w.heap.size s.dcs us) (h2 : ShsL w w.heap.size b.dcs vs) (h1 : Dm.wt (AccountsD s.Accounts) ≤ 16000000) (h3 : Dm.wt (ChallengesD s.Book.Open) ≤ 16000000) (h4 : Dm.wt (numsD s.Logins) ≤ 16000000) (k1 : Dm.wt (AccountsD b.Accounts) ≤ 16000000) (k3 : Dm.wt (ChallengesD b.Book.Open) ≤ 16000000) (k4 : Dm.wt (numsD b.Logins) ≤ 16000000)
include h h2 h1 h3 h4 k1 k3 k4
theorem specEql : Calls Try.prog 21 #[.agg us.toArray, .agg vs.toArray] w (Gives (.bool (eqlS s b)) w) :=
  con_plain (C15s.conEql s b (ac_len h1) (ac_len k1) (ac_crs h1) (ac_crs k1) (ch_len h3) (ch_len k3) (nu_len h4) (nu_len k4)) (us := [.bool (eqlS s b)]) rfl (arg_agg (dasSite_dc s) h (arg_agg (dasSite_dc b) h2 arg_nil))
theorem implEql : Calls Try.prog 22 #[.agg us.toArray, .agg vs.toArray] w (Gives (.bool (eqlS s b)) w) :=
  con_plain (C15i.conEql s b (ac_len h1) (ac_len k1) (ac_crs h1) (ac_crs k1) (ch_len h3) (ch_len k3) (nu_len h4) (nu_len k4)) (us := [.bool (eqlS s b)]) rfl (arg_agg (dasSite_dc s) h (arg_agg (dasSite_dc b) h2 arg_nil))
end
end Go.Proofs.Ytckplhmielckeaa.C15x
