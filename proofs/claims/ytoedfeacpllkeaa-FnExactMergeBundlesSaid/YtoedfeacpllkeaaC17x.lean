/-
  Chapter 17 in the words of the exact laws.
-/
import Derived.Test.YtoedfeacpllkeaaC17s
import Derived.Test.YtoedfeacpllkeaaC17k
import Derived.Test.YtoedfeacpllkeaaYBundle
namespace Go.Proofs.Ytoedfeacpllkeaa.C17x
open Go.ChangeShapes Go.WideShapes Go.ChangeAt Go.RowKit
open S0 S1 S9 Dm Fx M26 E0 E18 Das
set_option linter.unusedVariables false
theorem en_wt (l : List Fx.Entry) : Dm.wt (EntrysD l) = l.length := by
  rw [wt_Entrys]
  have : wtL (l.flatMap Fx.Entry.dcs) = 0 := by
    induction l with
    | nil => rfl
    | cons x l ih => rw [List.flatMap_cons, Dm.wtL_app, ih, Entry.wt]
  omega
def putY (b : Fx.Bundle) (s h : Int) : Fx.Bundle := ⟨putX b.Entries s h⟩
def delY (b : Fx.Bundle) (s h : Int) : Fx.Bundle := ⟨delX b.Entries s h⟩
def mrgY (a b : Fx.Bundle) : Fx.Bundle := ⟨mrgX a.Entries b.Entries⟩
theorem put_len (b : Fx.Bundle) (s h : Int) : (putY b s h).Entries.length ≤ b.Entries.length + 1 := by
  show (putX b.Entries s h).length ≤ _
  cases e : putB b.Entries s h with
  | false => rw [putX_f e]; omega
  | true => rw [putX_t e]; exact (setE_len _ _).2
theorem del_len (b : Fx.Bundle) (s h : Int) : (delY b s h).Entries.length ≤ b.Entries.length + 1 := by
  show (delX b.Entries s h).length ≤ _
  cases e : delB b.Entries s h with
  | false => rw [delX_f e]; omega
  | true => rw [delX_t e]; exact (setE_len _ _).2
theorem mrg_len (a b : Fx.Bundle) : (mrgY a b).Entries.length ≤ a.Entries.length + b.Entries.length := C17k.mrgX_len _ _
section
variable (w : World) (a b : Fx.Bundle) (us vs : List Value) (h : ShsL w w.heap.size a.dcs us) (h2 : ShsL w w.heap.size b.dcs vs) (hn : a.Entries.length ≤ 6000000) (hm : b.Entries.length ≤ 6000000)
include h hn
theorem specIs : Calls Try.prog 27 #[.agg us.toArray] w (Gives (.bool (vbu a.Entries)) w) :=
  con_plain (C17s.conIs a.Entries (by omega)) (us := [.bool (vbu a.Entries)]) rfl (arg_agg (dasBundle_dc a) h arg_nil)
theorem implIs : Calls Try.prog 18 #[.agg us.toArray] w (Gives (.bool (vbu a.Entries)) w) :=
  con_plain (C17k.conIsB a.Entries (by omega)) (us := [.bool (vbu a.Entries)]) rfl (arg_agg (dasBundle_dc a) h arg_nil)
theorem specFnd (i j : Int) : Calls Try.prog 30 #[.agg us.toArray, .int .i64 i, .int .i64 j] w (Gives (.int .i64 (fndI a.Entries i j)) w) :=
  con_plain (C17s.conFnd a.Entries i j (by omega)) (us := [.int .i64 (fndI a.Entries i j)]) rfl (arg_agg (dasBundle_dc a) h (arg_val (arg_val arg_nil)))
theorem implFnd (i j : Int) : Calls Try.prog 22 #[.agg us.toArray, .int .i64 i, .int .i64 j] w (Gives (.int .i64 (fndI a.Entries i j)) w) :=
  con_plain (C17j.conFnd a.Entries i j (by omega)) (us := [.int .i64 (fndI a.Entries i j)]) rfl (arg_agg (dasBundle_dc a) h (arg_val (arg_val arg_nil)))
theorem specPut (i j : Int) : Calls Try.prog 25 #[.agg us.toArray, .int .i64 i, .int .i64 j] w (MadeLx (putY a i j).dcs (fun vs => .tuple #[.agg vs.toArray, .bool (putB a.Entries i j)]) w) :=
  con_made (C17s.conPut a.Entries i j (by omega)) (us := [.bool (putB a.Entries i j)]) rfl (dasBundle_dc (putY a i j)) (arg_agg (dasBundle_dc a) h (arg_val (arg_val arg_nil)))
theorem specDel (i j : Int) : Calls Try.prog 21 #[.agg us.toArray, .int .i64 i, .int .i64 j] w (MadeLx (delY a i j).dcs (fun vs => .tuple #[.agg vs.toArray, .bool (delB a.Entries i j)]) w) :=
  con_made (C17s.conDel a.Entries i j (by omega)) (us := [.bool (delB a.Entries i j)]) rfl (dasBundle_dc (delY a i j)) (arg_agg (dasBundle_dc a) h (arg_val (arg_val arg_nil)))
theorem specAct : Calls Try.prog 35 #[.agg us.toArray] w (MadeDx (EntrysD (actE a.Entries)) (fun v => v) w) :=
  con_madeD (C17s.conAct a.Entries (by omega)) (us := []) rfl (rowR_dc 38 zEntry Fx.Entry.len dasEntry_dc (actE a.Entries)) (arg_agg (dasBundle_dc a) h arg_nil)
theorem implPut (i j : Int) : Calls Try.prog 24 #[.agg us.toArray, .int .i64 i, .int .i64 j] w (MadeLx (putY a i j).dcs (fun vs => .tuple #[.agg vs.toArray, .bool (putB a.Entries i j)]) w) :=
  con_made (C17k.conPut a.Entries i j (by omega)) (us := [.bool (putB a.Entries i j)]) rfl (dasBundle_dc (putY a i j)) (arg_agg (dasBundle_dc a) h (arg_val (arg_val arg_nil)))
theorem implDel (i j : Int) : Calls Try.prog 20 #[.agg us.toArray, .int .i64 i, .int .i64 j] w (MadeLx (delY a i j).dcs (fun vs => .tuple #[.agg vs.toArray, .bool (delB a.Entries i j)]) w) :=
  con_made (C17k.conDel a.Entries i j (by omega)) (us := [.bool (delB a.Entries i j)]) rfl (dasBundle_dc (delY a i j)) (arg_agg (dasBundle_dc a) h (arg_val (arg_val arg_nil)))
theorem implAct : Calls Try.prog 23 #[.agg us.toArray] w (MadeDx (EntrysD (actE a.Entries)) (fun v => v) w) :=
  con_madeD (C17k.conAct a.Entries (by omega)) (us := []) rfl (rowR_dc 38 zEntry Fx.Entry.len dasEntry_dc (actE a.Entries)) (arg_agg (dasBundle_dc a) h arg_nil)
include h2 hm
theorem specMrg : Calls Try.prog 33 #[.agg us.toArray, .agg vs.toArray] w (MadeLx (mrgY a b).dcs (fun vs => .tuple #[.agg vs.toArray, .bool (mrgB a.Entries b.Entries)]) w) :=
  con_made (C17s.conMrg a.Entries b.Entries (by omega) (by omega)) (us := [.bool (mrgB a.Entries b.Entries)]) rfl (dasBundle_dc (mrgY a b)) (arg_agg (dasBundle_dc a) h (arg_agg (dasBundle_dc b) h2 arg_nil))
theorem specEql : Calls Try.prog 39 #[.agg us.toArray, .agg vs.toArray] w (Gives (.bool (eqlE a.Entries b.Entries)) w) :=
  con_plain (C17s.conEql a.Entries b.Entries (by omega) (by omega)) (us := [.bool (eqlE a.Entries b.Entries)]) rfl (arg_agg (dasBundle_dc a) h (arg_agg (dasBundle_dc b) h2 arg_nil))
theorem specInc : Calls Try.prog 34 #[.agg us.toArray, .agg vs.toArray] w (Gives (.bool (incB a.Entries b.Entries)) w) :=
  con_plain (C17s.conInc a.Entries b.Entries (by omega) (by omega)) (us := [.bool (incB a.Entries b.Entries)]) rfl (arg_agg (dasBundle_dc a) h (arg_agg (dasBundle_dc b) h2 arg_nil))
theorem implMrg : Calls Try.prog 15 #[.agg us.toArray, .agg vs.toArray] w (MadeLx (mrgY a b).dcs (fun vs => .tuple #[.agg vs.toArray, .bool (mrgB a.Entries b.Entries)]) w) :=
  con_made (C17k.conMrg a.Entries b.Entries (by omega) (by omega)) (us := [.bool (mrgB a.Entries b.Entries)]) rfl (dasBundle_dc (mrgY a b)) (arg_agg (dasBundle_dc a) h (arg_agg (dasBundle_dc b) h2 arg_nil))
theorem implEql : Calls Try.prog 16 #[.agg us.toArray, .agg vs.toArray] w (Gives (.bool (eqlE a.Entries b.Entries)) w) :=
  con_plain (C17k.conEql a.Entries b.Entries (by omega) (by omega)) (us := [.bool (eqlE a.Entries b.Entries)]) rfl (arg_agg (dasBundle_dc a) h (arg_agg (dasBundle_dc b) h2 arg_nil))
theorem implInc : Calls Try.prog 17 #[.agg us.toArray, .agg vs.toArray] w (Gives (.bool (incB a.Entries b.Entries)) w) :=
  con_plain (C17k.conInc a.Entries b.Entries (by omega) (by omega)) (us := [.bool (incB a.Entries b.Entries)]) rfl (arg_agg (dasBundle_dc a) h (arg_agg (dasBundle_dc b) h2 arg_nil))
end
end Go.Proofs.Ytoedfeacpllkeaa.C17x
