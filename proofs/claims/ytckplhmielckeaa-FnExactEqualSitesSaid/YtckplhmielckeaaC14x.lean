/-
  Chapter 14 in the words of the exact laws.
-/
import Derived.Test.YtckplhmielckeaaC14l
import Derived.Test.YtckplhmielckeaaC14s
import Derived.Test.YtckplhmielckeaaYAccount
namespace Go.Proofs.Ytckplhmielckeaa.C14x
open Go.ChangeShapes Go.WideShapes Go.ChangeAt Go.RowKit
open S0 S1 S9 Dm Fx M3 M8 M18 E0 E18 Das
set_option linter.unusedVariables false
theorem cr_wt (l : List Fx.Credential) : Dm.wt (CredentialsD l) = l.length := by
  rw [wt_Credentials]
  have : wtL (l.flatMap Fx.Credential.dcs) = 0 := by
    induction l with
    | nil => rfl
    | cons x l ih => rw [List.flatMap_cons, Dm.wtL_app, ih, Credential.wt]
  omega
theorem add_len (a : Fx.Account) (h p : Int) : (addX a h p).Credentials.length ≤ a.Credentials.length + 1 := by
  cases e : addB a h p with
  | false => rw [addX_f e]; omega
  | true => rw [addX_t e]; exact Nat.le_of_eq (insK_len h p (cnt_le _ _))
theorem cut_len (a : Fx.Account) (h : Int) : (cutX a h).Credentials.length ≤ a.Credentials.length := by
  cases e : cutB a h with
  | false => rw [cutX_f e]; omega
  | true => rw [cutX_t e]; show (setC _ _).length ≤ _; unfold setC; rw [List.length_set]; omega
theorem rai_len (a : Fx.Account) (m : Int) : (raiX a m).Credentials.length ≤ a.Credentials.length := by
  cases e : raiB a m with
  | false => rw [raiX_f e]; omega
  | true => rw [raiX_t e]; exact Nat.le_refl _
section
variable (w : World) (a b : Fx.Account) (us vs : List Value) (h : ShsL w w.heap.size a.dcs us) (h2 : ShsL w w.heap.size b.dcs vs) (hn : a.Credentials.length ≤ 15000000) (hm : b.Credentials.length ≤ 15000000) (ho : ∀ x ∈ a.Credentials, Credential.ok x)
include h hn
theorem specVac : Calls Try.prog 39 #[.agg us.toArray] w (Gives (.bool (vac a)) w) :=
  con_plain (C14s.conVac a (by omega)) (us := [.bool (vac a)]) rfl (arg_agg (dasAccount_dc a) h arg_nil)
include h2 hm
theorem specEql : Calls Try.prog 57 #[.agg us.toArray, .agg vs.toArray] w (Gives (.bool (eqlA a b)) w) :=
  con_plain (C14s.conEql a b (by omega) (by omega)) (us := [.bool (eqlA a b)]) rfl (arg_agg (dasAccount_dc a) h (arg_agg (dasAccount_dc b) h2 arg_nil))
theorem implEql : Calls Try.prog 59 #[.agg us.toArray, .agg vs.toArray] w (Gives (.bool (eqlA a b)) w) :=
  con_plain (C14i.conEql a b (by omega) (by omega)) (us := [.bool (eqlA a b)]) rfl (arg_agg (dasAccount_dc a) h (arg_agg (dasAccount_dc b) h2 arg_nil))
omit h2 hm
include ho
theorem implVac : Calls Try.prog 77 #[.agg us.toArray] w (Gives (.bool (vac a)) w) :=
  con_plain (C14k.conVac a (by omega) ho) (us := [.bool (vac a)]) rfl (arg_agg (dasAccount_dc a) h arg_nil)
end
end Go.Proofs.Ytckplhmielckeaa.C14x
