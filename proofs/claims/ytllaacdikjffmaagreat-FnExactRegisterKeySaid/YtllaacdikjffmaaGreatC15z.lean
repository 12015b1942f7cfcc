import Derived.Test.YtllaacdikjffmaaGreatC15x
import Derived.Test.YtllaacdikjffmaaGreatC15v
import Derived.Test.YtllaacdikjffmaaGreatC15r
/-
  RegisterKey in the words of the exact laws.
-/
namespace Go.Proofs.YtllaacdikjffmaaGreat.C15z
open Go.ChangeShapes Go.WideShapes Go.ChangeAt Go.RowKit
open S0 S1 S9 Dm Fx M3 M8 M18 M21 M22 E0 E18 Das C15x
set_option linter.unusedVariables false
theorem add_wt (a : Fx.Account) (h p : Int) : Account.dcs (addX a h p) |> Dm.wtL |> (· ≤ Dm.wtL a.dcs + 1) := by
  show Dm.wtL (addX a h p).dcs ≤ Dm.wtL a.dcs + 1
  rw [Account.wt, Account.wt, C14x.cr_wt, C14x.cr_wt]
  exact C14x.add_len a h p
theorem set_wt {x : Fx.Account} : ∀ {l : List Fx.Account} {k : Nat}, k < l.length → Dm.wtL x.dcs ≤ Dm.wtL (l.getD k zAccount).dcs + 1 → Dm.wtL ((l.set k x).flatMap Account.dcs) ≤ Dm.wtL (l.flatMap Account.dcs) + 1
  | [], k, hk, _ => absurd hk (Nat.not_lt_zero _)
  | y :: l, 0, hk, h => by
    have h : Dm.wtL x.dcs ≤ Dm.wtL y.dcs + 1 := h
    rw [List.set_cons_zero, List.flatMap_cons, List.flatMap_cons, Dm.wtL_app, Dm.wtL_app]
    omega
  | y :: l, k + 1, hk, h => by
    have ih := set_wt (x := x) (l := l) (k := k) (by simpa using hk) (by simpa using h)
    rw [List.set_cons_succ, List.flatMap_cons, List.flatMap_cons, Dm.wtL_app, Dm.wtL_app]
    omega
theorem reg_wts (s : Fx.Site) (i h p : Int) : Dm.wt (AccountsD (regX s i h p).Accounts) ≤ Dm.wt (AccountsD s.Accounts) + 1 ∧ Dm.wt (ChallengesD (regX s i h p).Book.Open) ≤ Dm.wt (ChallengesD s.Book.Open) ∧ Dm.wt (numsD (regX s i h p).Logins) ≤ Dm.wt (numsD s.Logins) ∧ (regX s i h p).Name.size ≤ s.Name.size := by
  cases e : fndB s i with
  | false => rw [(reg_f e h p).1]; exact ⟨Nat.le_succ _, Nat.le_refl _, Nat.le_refl _, Nat.le_refl _⟩
  | true =>
    rw [(reg_t e h p).1]
    refine ⟨?_, Nat.le_refl _, Nat.le_refl _, Nat.le_refl _⟩
    obtain ⟨_, k, hk, hkl⟩ := fnd_t e
    show Dm.wt (AccountsD (s.Accounts.set (findA s.Accounts i).toNat (addX (accAt s i) h p))) ≤ _
    have ha : accAt s i = s.Accounts.getD k zAccount := by unfold accAt; rw [hk, Int.toNat_natCast]
    rw [wt_Accounts, wt_Accounts, List.length_set, hk, Int.toNat_natCast, ha]
    have := set_wt (x := addX (s.Accounts.getD k zAccount) h p) hkl (add_wt _ h p)
    omega
section
variable (w : World) (s : Fx.Site) (us : List Value) (h : ShsL w w.heap.size s.dcs us) (h1 : Dm.wt (AccountsD s.Accounts) ≤ 15000000) (h3 : Dm.wt (ChallengesD s.Book.Open) ≤ 15000000) (h4 : Dm.wt (numsD s.Logins) ≤ 15000000) (hz : s.Name.size ≤ 4294967296) (ho : s.ok)
include h h1 h3 h4 hz ho
omit ho in
theorem specReg (i k p : Int) : Calls Tryz.prog 6 #[.agg us.toArray, .int .i64 i, .int .i64 k, .int .i64 p] w (MadeLx (regX s i k p).dcs (fun vs => .tuple #[.agg vs.toArray, .bool (regB s i k p)]) w) :=
  con_made (C15v.conReg s i k p (by have := ac_len h1; omega) (fun a ha => ac_crs h1 a ha) (by have := ch_len h3; omega) (by have := nu_len h4; omega) hz) (us := [.bool (regB s i k p)]) rfl (dasSite_dc _) (arg_agg (dasSite_dc s) h (arg_val (arg_val (arg_val arg_nil))))
theorem implReg (i k p : Int) (k0 : -9223372036854775808 ≤ k) (k1 : k ≤ 9223372036854775807) (p0 : -9223372036854775808 ≤ p) (p1 : p ≤ 9223372036854775807) : Calls Tryz.prog 8 #[.agg us.toArray, .int .i64 i, .int .i64 k, .int .i64 p] w (MadeLx (regX s i k p).dcs (fun vs => .tuple #[.agg vs.toArray, .bool (regB s i k p)]) w) :=
  con_made (C15r.conReg s i k p (by have := ac_len h1; omega) (fun a ha => by have := ac_crs h1 a ha; omega) (oks ho) (by have := ch_len h3; omega) (by have := nu_len h4; omega) hz k0 k1 p0 p1) (us := [.bool (regB s i k p)]) rfl (dasSite_dc _) (arg_agg (dasSite_dc s) h (arg_val (arg_val (arg_val arg_nil))))
end
end Go.Proofs.YtllaacdikjffmaaGreat.C15z
