import Derived.Test.YtllaacdikjffmaaGreatC15s
import Derived.Test.YtllaacdikjffmaaGreatC15i
import Derived.Test.YtllaacdikjffmaaGreatC14x
import Derived.Test.YtllaacdikjffmaaGreatYSite
/-
  Chapter 15 in the words of the exact laws.
-/
namespace Go.Proofs.YtllaacdikjffmaaGreat.C15x
open Go.ChangeShapes Go.WideShapes Go.ChangeAt Go.RowKit
open S0 S1 S9 Dm Fx M3 M8 M18 M21 E0 E18 Das
set_option linter.unusedVariables false
theorem ch_wt (l : List Fx.Challenge) : Dm.wt (ChallengesD l) = l.length := by
  rw [wt_Challenges]
  have : wtL (l.flatMap Fx.Challenge.dcs) = 0 := by
    induction l with
    | nil => rfl
    | cons x l ih => rw [List.flatMap_cons, Dm.wtL_app, ih, Challenge.wt]
  omega
theorem ac_cr : ∀ {l : List Fx.Account} {a : Fx.Account}, a ∈ l → a.Credentials.length ≤ wtL (l.flatMap Account.dcs)
  | [], _, h => by cases h
  | x :: l, a, h => by
    rw [List.flatMap_cons, Dm.wtL_app, Account.wt, C14x.cr_wt]
    rcases List.mem_cons.1 h with rfl | h
    · omega
    · have := ac_cr h
      omega
theorem ac_len {l : List Fx.Account} {n : Nat} (h : Dm.wt (AccountsD l) ≤ n) : l.length ≤ n := by rw [wt_Accounts] at h; omega
theorem ac_crs {l : List Fx.Account} {n : Nat} (h : Dm.wt (AccountsD l) ≤ n) : ∀ a ∈ l, a.Credentials.length ≤ n := fun a ha => by
  rw [wt_Accounts] at h
  have := ac_cr ha
  omega
theorem ch_len {l : List Fx.Challenge} {n : Nat} (h : Dm.wt (ChallengesD l) ≤ n) : l.length ≤ n := by rw [ch_wt] at h; exact h
theorem nu_len {l : List Int} {n : Nat} (h : Dm.wt (numsD l) ≤ n) : l.length ≤ n := by rw [wt_numsD] at h; exact h
theorem oks {s : Fx.Site} (h : s.ok) : ∀ a ∈ s.Accounts, ∀ x ∈ a.Credentials, Credential.ok x := fun a ha => (h.Accounts a ha).Credentials
section
variable (w : World) (s b : Fx.Site) (us vs : List Value) (h : ShsL w w.heap.size s.dcs us) (h2 : ShsL w w.heap.size b.dcs vs) (h1 : Dm.wt (AccountsD s.Accounts) ≤ 16000000)
include h h1
variable (h3 : Dm.wt (ChallengesD s.Book.Open) ≤ 16000000) (hz : s.Name.size ≤ 4294967296)
include h3 hz
end
section
variable (w : World) (s b : Fx.Site) (us vs : List Value) (h : ShsL w w.heap.size s.dcs us) (h2 : ShsL w w.heap.size b.dcs vs) (h1 : Dm.wt (AccountsD s.Accounts) ≤ 16000000) (h3 : Dm.wt (ChallengesD s.Book.Open) ≤ 16000000) (h4 : Dm.wt (numsD s.Logins) ≤ 16000000) (k1 : Dm.wt (AccountsD b.Accounts) ≤ 16000000) (k3 : Dm.wt (ChallengesD b.Book.Open) ≤ 16000000) (k4 : Dm.wt (numsD b.Logins) ≤ 16000000)
include h h2 h1 h3 h4 k1 k3 k4
end
end Go.Proofs.YtllaacdikjffmaaGreat.C15x
