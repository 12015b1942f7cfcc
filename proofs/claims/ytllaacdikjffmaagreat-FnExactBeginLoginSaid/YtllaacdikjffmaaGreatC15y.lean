import Derived.Test.YtllaacdikjffmaaGreatC15x
import Derived.Test.YtllaacdikjffmaaGreatC15v
import Derived.Test.YtllaacdikjffmaaGreatC15w
/-
  BeginLogin in the words of the exact laws.
-/
namespace Go.Proofs.YtllaacdikjffmaaGreat.C15y
open Go.ChangeShapes Go.WideShapes Go.ChangeAt Go.RowKit
open S0 S1 S9 Dm Fx M3 M8 M18 M21 M22 M23 E0 E18 Das C15x
set_option linter.unusedVariables false
theorem beg_wts (s : Fx.Site) (i t : Int) : Dm.wt (AccountsD (begX s i t).Accounts) ≤ Dm.wt (AccountsD s.Accounts) ∧ Dm.wt (ChallengesD (begX s i t).Book.Open) ≤ Dm.wt (ChallengesD s.Book.Open) + 1 ∧ Dm.wt (numsD (begX s i t).Logins) ≤ Dm.wt (numsD s.Logins) ∧ (begX s i t).Name.size ≤ s.Name.size := by
  cases e : begB s i t with
  | false => rw [(beg_f e).1]; exact ⟨Nat.le_refl _, Nat.le_succ _, Nat.le_refl _, Nat.le_refl _⟩
  | true =>
    rw [(beg_t e).1]
    refine ⟨Nat.le_refl _, ?_, Nat.le_refl _, Nat.le_refl _⟩
    have hk : C12e.issOk s.Book i t = true := by
      unfold begB at e
      rw [Bool.and_eq_true] at e
      exact e.2
    show Dm.wt (ChallengesD (C12e.issX s.Book i t).Open) ≤ _
    rw [ch_wt, ch_wt, (C12e.issX_t hk).1]
    simp only [List.length_append, List.length_drop, List.length_cons, List.length_nil]
    omega
section
variable (w : World) (s : Fx.Site) (us : List Value) (h : ShsL w w.heap.size s.dcs us) (h1 : Dm.wt (AccountsD s.Accounts) ≤ 15000000) (h3 : Dm.wt (ChallengesD s.Book.Open) ≤ 15000000) (h4 : Dm.wt (numsD s.Logins) ≤ 15000000) (hz : s.Name.size ≤ 4294967296) (ho : s.ok)
include h h1 h3 h4 hz ho
theorem specBeg (i t : Int) (i0 : -9223372036854775808 ≤ i) (i1 : i ≤ 9223372036854775807) (t0 : -9223372036854775808 ≤ t) (t1 : t ≤ 9223372036854775807) : Calls Tryz.prog 12 #[.agg us.toArray, .int .i64 i, .int .i64 t] w (MadeLx (begX s i t).dcs (fun vs => .tuple #[.agg vs.toArray, .int .i64 (begI s i t), .int .i64 (begV s i t), .bool (begB s i t)]) w) :=
  con_made (C15v.conBeg s i t (by have := ac_len h1; omega) (fun a ha => ac_crs h1 a ha) (by have := ch_len h3; omega) (by have := nu_len h4; omega) hz ho.Book ⟨i0, i1⟩ ⟨t0, t1⟩) (us := [.int .i64 (begI s i t), .int .i64 (begV s i t), .bool (begB s i t)]) rfl (dasSite_dc _) (arg_agg (dasSite_dc s) h (arg_val (arg_val arg_nil)))
theorem implBeg (i t : Int) : Calls Tryz.prog 13 #[.agg us.toArray, .int .i64 i, .int .i64 t] w (MadeLx (begX s i t).dcs (fun vs => .tuple #[.agg vs.toArray, .int .i64 (begI s i t), .int .i64 (begV s i t), .bool (begB s i t)]) w) :=
  con_made (C15w.conBeg s i t (by have := ac_len h1; omega) (fun a ha => by have := ac_crs h1 a ha; omega) (oks ho) (by have := ch_len h3; omega) (by have := nu_len h4; omega) hz ho.Book) (us := [.int .i64 (begI s i t), .int .i64 (begV s i t), .bool (begB s i t)]) rfl (dasSite_dc _) (arg_agg (dasSite_dc s) h (arg_val (arg_val arg_nil)))
end
end Go.Proofs.YtllaacdikjffmaaGreat.C15y
