/-
  Chapter 14 in the words of the exact laws.
-/
import Derived.Test.YtpfjfnlefeocnaaC14l
import Derived.Test.YtpfjfnlefeocnaaC14s
import Derived.Test.YtpfjfnlefeocnaaYAccount
namespace Go.Proofs.Ytpfjfnlefeocnaa.C14x
open Go.ChangeShapes Go.WideShapes Go.ChangeAt Go.RowKit
open S0 S1 S9 Dm Fx M3 M8 M18 E0 E18 Das
set_option linter.unusedVariables false
theorem cr_wt (l : List Fx.Credential) : Dm.wt (CredentialsD l) = l.length := by
  rw [wt_Credentials]
  have : wtL (l.flatMap Fx.Credential.dcs) = 0 := by
    induction l with
    | nil => rfl
    | cons x l ih => rw [List.flatMap_cons, Dm.wtL_app, ih, Credential.wt]
  omega
theorem add_len (a : Fx.Account) (h p : Int) : (addX a h p).Credentials.length ≤ a.Credentials.length + 1 := by
  cases e : addB a h p with
  | false => rw [addX_f e]; omega
  | true => rw [addX_t e]; exact Nat.le_of_eq (insK_len h p (cnt_le _ _))
theorem cut_len (a : Fx.Account) (h : Int) : (cutX a h).Credentials.length ≤ a.Credentials.length := by
  cases e : cutB a h with
  | false => rw [cutX_f e]; omega
  | true => rw [cutX_t e]; show (setC _ _).length ≤ _; unfold setC; rw [List.length_set]; omega
theorem rai_len (a : Fx.Account) (m : Int) : (raiX a m).Credentials.length ≤ a.Credentials.length := by
  cases e : raiB a m with
  | false => rw [raiX_f e]; omega
  | true => rw [raiX_t e]; exact Nat.le_refl _
section
variable (w : World) (a b : Fx.Account) (us vs : List Value) (h : ShsL w w.heap.size a.dcs us) (h2 : ShsL w w.heap.size b.dcs vs) (hn : a.Credentials.length ≤ 15000000) (hm : b.Credentials.length ≤ 15000000) (ho : ∀ x ∈ a.Credentials, Credential.ok x)
include h hn
theorem specVac : Calls Try.prog 20 #[.agg us.toArray] w (Gives (.bool (vac a)) w) :=
  con_plain (C14s.conVac a (by omega)) (us := [.bool (vac a)]) rfl (arg_agg (dasAccount_dc a) h arg_nil)
theorem specFnd (i : Int) : Calls Try.prog 26 #[.agg us.toArray, .int .i64 i] w (Gives (.int .i64 (findC a.Credentials i)) w) :=
  con_plain (C14s.conFnd a i (by omega)) (us := [.int .i64 (findC a.Credentials i)]) rfl (arg_agg (dasAccount_dc a) h (arg_val arg_nil))
theorem specAll (i : Int) : Calls Try.prog 29 #[.agg us.toArray, .int .i64 i] w (Gives (.bool (allB a i)) w) :=
  con_plain (C14s.conAll a i (by omega)) (us := [.bool (allB a i)]) rfl (arg_agg (dasAccount_dc a) h (arg_val arg_nil))
theorem specRai (i : Int) : Calls Try.prog 27 #[.agg us.toArray, .int .i64 i] w (MadeLx (raiX a i).dcs (fun vs => .tuple #[.agg vs.toArray, .bool (raiB a i)]) w) :=
  con_made (C14s.conRai a i (by omega)) (us := [.bool (raiB a i)]) rfl (dasAccount_dc _) (arg_agg (dasAccount_dc a) h (arg_val arg_nil))
theorem specCut (i : Int) : Calls Try.prog 25 #[.agg us.toArray, .int .i64 i] w (MadeLx (cutX a i).dcs (fun vs => .tuple #[.agg vs.toArray, .bool (cutB a i)]) w) :=
  con_made (C14s.conCut a i (by omega)) (us := [.bool (cutB a i)]) rfl (dasAccount_dc _) (arg_agg (dasAccount_dc a) h (arg_val arg_nil))
theorem specAdd (i p : Int) : Calls Try.prog 14 #[.agg us.toArray, .int .i64 i, .int .i64 p] w (MadeLx (addX a i p).dcs (fun vs => .tuple #[.agg vs.toArray, .bool (addB a i p)]) w) :=
  con_made (C14s.conAdd a i p hn) (us := [.bool (addB a i p)]) rfl (dasAccount_dc _) (arg_agg (dasAccount_dc a) h (arg_val (arg_val arg_nil)))
include h2 hm
theorem specEql : Calls Try.prog 31 #[.agg us.toArray, .agg vs.toArray] w (Gives (.bool (eqlA a b)) w) :=
  con_plain (C14s.conEql a b (by omega) (by omega)) (us := [.bool (eqlA a b)]) rfl (arg_agg (dasAccount_dc a) h (arg_agg (dasAccount_dc b) h2 arg_nil))
theorem implEql : Calls Try.prog 15 #[.agg us.toArray, .agg vs.toArray] w (Gives (.bool (eqlA a b)) w) :=
  con_plain (C14i.conEql a b (by omega) (by omega)) (us := [.bool (eqlA a b)]) rfl (arg_agg (dasAccount_dc a) h (arg_agg (dasAccount_dc b) h2 arg_nil))
omit h2 hm
theorem implFnd (i : Int) : Calls Try.prog 16 #[.agg us.toArray, .int .i64 i] w (Gives (.int .i64 (findC a.Credentials i)) w) :=
  con_plain (C14k.conFnd a i (by omega)) (us := [.int .i64 (findC a.Credentials i)]) rfl (arg_agg (dasAccount_dc a) h (arg_val arg_nil))
include ho
theorem implVac : Calls Try.prog 18 #[.agg us.toArray] w (Gives (.bool (vac a)) w) :=
  con_plain (C14k.conVac a (by omega) ho) (us := [.bool (vac a)]) rfl (arg_agg (dasAccount_dc a) h arg_nil)
theorem implAll (i : Int) : Calls Try.prog 30 #[.agg us.toArray, .int .i64 i] w (Gives (.bool (allB a i)) w) :=
  con_plain (C14l.conAll a i (by omega) ho) (us := [.bool (allB a i)]) rfl (arg_agg (dasAccount_dc a) h (arg_val arg_nil))
theorem implRai (i : Int) : Calls Try.prog 28 #[.agg us.toArray, .int .i64 i] w (MadeLx (raiX a i).dcs (fun vs => .tuple #[.agg vs.toArray, .bool (raiB a i)]) w) :=
  con_made (C14l.conRai a i (by omega) ho) (us := [.bool (raiB a i)]) rfl (dasAccount_dc _) (arg_agg (dasAccount_dc a) h (arg_val arg_nil))
theorem implCut (i : Int) : Calls Try.prog 17 #[.agg us.toArray, .int .i64 i] w (MadeLx (cutX a i).dcs (fun vs => .tuple #[.agg vs.toArray, .bool (cutB a i)]) w) :=
  con_made (C14l.conCut a i (by omega) ho) (us := [.bool (cutB a i)]) rfl (dasAccount_dc _) (arg_agg (dasAccount_dc a) h (arg_val arg_nil))
theorem implAdd (i p : Int) (i0 : -9223372036854775808 ≤ i) (i1 : i ≤ 9223372036854775807) (p0 : -9223372036854775808 ≤ p) (p1 : p ≤ 9223372036854775807) : Calls Try.prog 13 #[.agg us.toArray, .int .i64 i, .int .i64 p] w (MadeLx (addX a i p).dcs (fun vs => .tuple #[.agg vs.toArray, .bool (addB a i p)]) w) :=
  con_made (C14l.conAdd a i p hn ho i0 i1 p0 p1) (us := [.bool (addB a i p)]) rfl (dasAccount_dc _) (arg_agg (dasAccount_dc a) h (arg_val (arg_val arg_nil)))
end
end Go.Proofs.Ytpfjfnlefeocnaa.C14x
