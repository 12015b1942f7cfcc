/-
  Chapter 12 for its exact laws: how long the books are that come back; IssueChallenge as two things made.
-/
import Derived.Test.YtjkmcnnkifachaaC12i
namespace Go.Proofs.Ytjkmcnnkifachaa.C12x
open Go.ChangeShapes Go.WideShapes Go.ChangeAt Go.RowKit
open S0 S1 S9 Dm Fx M3 M8 C3 C6 C12 C12b C12c C12d C12e C12f
set_option linter.unusedVariables false
theorem ch_wt (l : List Fx.Challenge) : Dm.wt (ChallengesD l) = l.length := by
  rw [wt_Challenges]
  have : wtL (l.flatMap Fx.Challenge.dcs) = 0 := by
    induction l with
    | nil => rfl
    | cons x l ih => rw [List.flatMap_cons, Dm.wtL_app, ih, Challenge.wt]
  omega
theorem iss_len (b : Fx.ChallengeBook) (a t : Int) : (issX b a t).Open.length ≤ b.Open.length + 1 := by
  cases h : issOk b a t with
  | false => rw [(issX_f h).1]; omega
  | true => rw [(issX_t h).1]; simp only [List.length_append, List.length_drop, List.length_cons, List.length_nil]; omega
theorem take_len (b : Fx.ChallengeBook) (i : Int) : (takeX b i).Open.length ≤ b.Open.length := by
  unfold takeX
  split
  · split
    · simp; omega
    · omega
  · omega
theorem exp_len (b : Fx.ChallengeBook) (t : Int) : (expX b t).Open.length ≤ b.Open.length := by
  unfold expX
  split
  · exact List.length_filter_le _ _
  · omega
theorem two {b : Fx.ChallengeBook} {x : Fx.Challenge} {q : Bool} {w : World} {e : Ending} {w' : World} (h : MadeLx b.dcs (fun vs => .tuple #[.agg vs.toArray, .agg #[.int .i64 x.Id, .int .i64 x.Account, .int .i64 x.Until], .bool q]) w e w') :
    MadeLLx b.dcs x.dcs (fun us vs => .tuple #[.agg us.toArray, .agg vs.toArray, .bool q]) w e w' := by
  obtain ⟨vs, bs, rfl, ho, hn, hb⟩ := h
  exact ⟨vs, bs, _, [], rfl, ho, ch_owns x, hn, by simp, by simp, hb⟩
theorem sh_book {w : World} {lo : Nat} {b : Fx.ChallengeBook} {us : List Value} {bs : List Nat} (o : OwnsL w lo b.dcs us bs) : ∀ A c, us = [.int .i64 b.Seed, .int .i64 b.Next, .slice A b.Open.length c] → Sh A b.Open.length c := by
  intro A c e
  obtain ⟨A', c', b', e', oy, -⟩ := ChallengeBook.owns o
  rw [e] at e'
  injection e' with _ e'
  injection e' with _ e'
  injection e' with e' _
  injection e' with e1 _ e2
  subst e1
  subst e2
  exact (many_owns oy).sh
theorem specIssue2 (w : World) (b : Fx.ChallengeBook) (a now : Int) (us : List Value) (h : RdsL w w.heap.size b.dcs us) (hn : b.Open.length ≤ 16000000) (ha0 : -9223372036854775808 ≤ a) (ha1 : a ≤ 9223372036854775807) (hw0 : -9223372036854775808 ≤ now) (hw1 : now ≤ 9223372036854775807) :
    Calls Try.prog 14 #[.agg us.toArray, .int .i64 a, .int .i64 now] w (MadeLLx (issX b a now).dcs (issC b a now).dcs (fun us vs => .tuple #[.agg us.toArray, .agg vs.toArray, .bool (issOk b a now)]) w) :=
  (specIssue w b a now us h hn ha0 ha1 hw0 hw1).mono fun _ _ h => two h
theorem implIssue2 (w : World) (b : Fx.ChallengeBook) (a now : Int) (us : List Value) (h : E0.ShsL w w.heap.size b.dcs us) (hn : b.Open.length ≤ 16000000) :
    Calls Try.prog 13 #[.agg us.toArray, .int .i64 a, .int .i64 now] w (MadeLLx (issX b a now).dcs (issC b a now).dcs (fun us vs => .tuple #[.agg us.toArray, .agg vs.toArray, .bool (issOk b a now)]) w) :=
  (C12i.implIssue w b a now us h hn).mono fun _ _ h => two h
end Go.Proofs.Ytjkmcnnkifachaa.C12x
