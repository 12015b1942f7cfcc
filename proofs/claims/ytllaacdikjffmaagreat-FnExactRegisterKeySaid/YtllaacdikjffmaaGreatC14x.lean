import Derived.Test.YtllaacdikjffmaaGreatC14l
import Derived.Test.YtllaacdikjffmaaGreatC14s
import Derived.Test.YtllaacdikjffmaaGreatYAccount
/-
  Chapter 14 in the words of the exact laws.
-/
namespace Go.Proofs.YtllaacdikjffmaaGreat.C14x
open Go.ChangeShapes Go.WideShapes Go.ChangeAt Go.RowKit
open S0 S1 S9 Dm Fx M3 M8 M18 E0 E18 Das
set_option linter.unusedVariables false
theorem cr_wt (l : List Fx.Credential) : Dm.wt (CredentialsD l) = l.length := by
  rw [wt_Credentials]
  have : wtL (l.flatMap Fx.Credential.dcs) = 0 := by
    induction l with
    | nil => rfl
    | cons x l ih => rw [List.flatMap_cons, Dm.wtL_app, ih, Credential.wt]
  omega
theorem add_len (a : Fx.Account) (h p : Int) : (addX a h p).Credentials.length ≤ a.Credentials.length + 1 := by
  cases e : addB a h p with
  | false => rw [addX_f e]; omega
  | true => rw [addX_t e]; exact Nat.le_of_eq (insK_len h p (cnt_le _ _))
section
variable (w : World) (a b : Fx.Account) (us vs : List Value) (h : ShsL w w.heap.size a.dcs us) (h2 : ShsL w w.heap.size b.dcs vs) (hn : a.Credentials.length ≤ 15000000) (hm : b.Credentials.length ≤ 15000000) (ho : ∀ x ∈ a.Credentials, Credential.ok x)
include h hn
end
end Go.Proofs.YtllaacdikjffmaaGreat.C14x
