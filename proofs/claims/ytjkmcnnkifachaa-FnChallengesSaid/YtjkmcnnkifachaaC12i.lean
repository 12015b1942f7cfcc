/-
  Contracts of chapter 12's challenges, of the program, in the words of the laws.
-/
import Derived.Test.YtjkmcnnkifachaaT12k
namespace Go.Proofs.Ytjkmcnnkifachaa.C12i
open Go.ChangeShapes Go.WideShapes Go.ChangeAt Go.RowKit
open S0 S1 S9 Dm Fx M3 M8 C3 C6 C12 C12b C12c C12d C12e C12f E0 E18 Das T12i T12k
set_option linter.unusedVariables false
/-- A book whose challenges' slice is known with its shape. -/
theorem mkS {w : World} {hi c : Nat} {A : Option Addr} {b : Fx.ChallengeBook} (h : Shs w hi (ChallengesD b.Open) (.slice A b.Open.length c)) : ShsL w hi b.dcs [.int .i64 b.Seed, .int .i64 b.Next, .slice A b.Open.length c] := by
  simp only [ChallengeBook.dcs, ShsL]
  exact ⟨_, _, rfl, by simp only [Shs], _, _, rfl, by simp only [Shs], _, _, rfl, h, rfl⟩
theorem implVbk (w : World) (b : Fx.ChallengeBook) (us : List Value) (h : ShsL w w.heap.size b.dcs us) (hn : b.Open.length ≤ 16000000) : Calls Try.prog 19 #[.agg us.toArray] w (Gives (.bool (vbk b)) w) :=
  con_plain (conVbk b hn) (us := [.bool (vbk b)]) rfl (arg_agg (dasChallengeBook_dc b) h arg_nil)
theorem implCval (w : World) (b : Fx.ChallengeBook) (i : Int) (us : List Value) (h : ShsL w w.heap.size b.dcs us) (hb : b.ok) (i0 : -9223372036854775808 ≤ i) (i1 : i ≤ 9223372036854775807) : Calls Try.prog 20 #[.agg us.toArray, .int .i64 i] w (Gives (.int .i64 (cval b i)) w) :=
  con_plain (conVal b i hb i0 i1) (us := [.int .i64 (cval b i)]) rfl (arg_agg (dasChallengeBook_dc b) h (arg_val arg_nil))
theorem implFindC (w : World) (b : Fx.ChallengeBook) (i : Int) (us : List Value) (h : ShsL w w.heap.size b.dcs us) (hn : b.Open.length ≤ 16000000) : Calls Try.prog 18 #[.agg us.toArray, .int .i64 i] w (Gives (.int .i64 (findC b.Open i)) w) :=
  con_plain (conFnd b i hn) (us := [.int .i64 (findC b.Open i)]) rfl (arg_agg (dasChallengeBook_dc b) h (arg_val arg_nil))
theorem implEqBk (w : World) (a b : Fx.ChallengeBook) (us vs : List Value) (h : ShsL w w.heap.size a.dcs us) (h2 : ShsL w w.heap.size b.dcs vs) (hn : a.Open.length ≤ 16000000) (hm : b.Open.length ≤ 16000000) : Calls Try.prog 15 #[.agg us.toArray, .agg vs.toArray] w (Gives (.bool (eqBk a b)) w) :=
  con_plain (conEqB a b hn hm) (us := [.bool (eqBk a b)]) rfl (arg_agg (dasChallengeBook_dc a) h (arg_agg (dasChallengeBook_dc b) h2 arg_nil))
theorem implIssue (w : World) (b : Fx.ChallengeBook) (a now : Int) (us : List Value) (h : ShsL w w.heap.size b.dcs us) (hn : b.Open.length ≤ 16000000) :
    Calls Try.prog 13 #[.agg us.toArray, .int .i64 a, .int .i64 now] w (MadeLx (issX b a now).dcs (fun vs => .tuple #[.agg vs.toArray, .agg #[.int .i64 (issC b a now).Id, .int .i64 (issC b a now).Account, .int .i64 (issC b a now).Until], .bool (issOk b a now)]) w) :=
  con_made (conIssue b a now hn) (us := [.agg #[.int .i64 (issC b a now).Id, .int .i64 (issC b a now).Account, .int .i64 (issC b a now).Until], .bool (issOk b a now)]) rfl (dasChallengeBook_dc _) (arg_agg (dasChallengeBook_dc b) h (arg_val (arg_val arg_nil)))
theorem implTake (w : World) (b : Fx.ChallengeBook) (i a now : Int) (us : List Value) (h : ShsL w w.heap.size b.dcs us) (hn : b.Open.length ≤ 16000000) (i0 : -9223372036854775808 ≤ i) (i1 : i ≤ 9223372036854775807) :
    Calls Try.prog 16 #[.agg us.toArray, .int .i64 i, .int .i64 a, .int .i64 now] w (MadeLx (takeX b i).dcs (fun vs => .tuple #[.agg vs.toArray, .bool (takeB b i a now)]) w) :=
  con_made (conTake b i a now hn i0 i1) (us := [.bool (takeB b i a now)]) rfl (dasChallengeBook_dc _) (arg_agg (dasChallengeBook_dc b) h (arg_val (arg_val (arg_val arg_nil))))
theorem implExpire (w : World) (b : Fx.ChallengeBook) (now : Int) (us : List Value) (h : ShsL w w.heap.size b.dcs us) (hn : b.Open.length ≤ 16000000) :
    Calls Try.prog 17 #[.agg us.toArray, .int .i64 now] w (Bx.MadeL (expX b now).dcs w) :=
  (con_made (conExp b now hn) (us := []) rfl (dasChallengeBook_dc _) (arg_agg (dasChallengeBook_dc b) h (arg_val arg_nil))).mono fun _ _ h => h
end Go.Proofs.Ytjkmcnnkifachaa.C12i
