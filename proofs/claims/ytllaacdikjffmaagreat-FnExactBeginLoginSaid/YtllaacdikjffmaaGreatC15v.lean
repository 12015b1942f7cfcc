import Derived.Test.YtllaacdikjffmaaGreatC15t
import Derived.Test.YtllaacdikjffmaaGreatM23
import Derived.Test.YtllaacdikjffmaaGreatC12e
namespace Go.Proofs.YtllaacdikjffmaaGreat.C15v
open Go.ChangeShapes Go.WideShapes Go.ChangeAt Go.RowKit
open S0 S1 S9 Dm Fx M8 M12 M13 M18 M21 M22 M23 C3 E0 E1 E2 E3 E7 E9 E10 E15 E16 E17 E18 E19 E20 E26 Das C15s C15t
set_option linter.unusedVariables false
set_option linter.unusedSimpArgs false
set_option maxRecDepth 100000
theorem conIss (b : Fx.ChallengeBook) (a t : Int) (hn : b.Open.length ≤ 16000000) (ha : -9223372036854775808 ≤ a ∧ a ≤ 9223372036854775807) (ht : -9223372036854775808 ≤ t ∧ t ≤ 9223372036854775807) : FnCon Tryz.prog 36 [(true, dasChallengeBook b), iV a, iV t] [(true, dasChallengeBook (C12e.issX b a t)), (true, dasChallenge (C12e.issC b a t)), bV (C12e.issOk b a t)] :=
  con_of_made (us := [.agg #[.int .i64 (C12e.issC b a t).Id, .int .i64 (C12e.issC b a t).Account, .int .i64 (C12e.issC b a t).Until], .bool (C12e.issOk b a t)]) (con_enters Tryz.func36 (by kernel_rfl) (by kernel_rfl)) rfl (dasChallengeBook_dc _) fun w v0 k0 => by
    obtain ⟨us, v1, rfl, k1, k2⟩ := of_aggA (dasChallengeBook_dc b) k0
    obtain ⟨v2, rfl, k3⟩ := of_valA k2
    obtain ⟨v3, rfl, k4⟩ := of_valA k3
    obtain rfl := of_nil k4
    exact C12e.specIssue w b a t us k1 hn ha.1 ha.2 ht.1 ht.2
theorem conVal (b : Fx.ChallengeBook) (i : Int) (hb : b.ok) (hi : -9223372036854775808 ≤ i ∧ i ≤ 9223372036854775807) : FnCon Tryz.prog 37 [(true, dasChallengeBook b), iV i] [iV (C12.cval b i)] :=
  con_of_plain (con_enters Tryz.func37 (by kernel_rfl) (by kernel_rfl)) rfl fun w v0 k0 => by
    obtain ⟨us, v1, rfl, k1, k2⟩ := of_aggA (dasChallengeBook_dc b) k0
    obtain ⟨v2, rfl, k3⟩ := of_valA k2
    obtain rfl := of_nil k3
    exact C12.specCval w b i us k1 hb hi.1 hi.2
noncomputable def bgC (s : Fx.Site) (i t : Int) : Orc := callsBy fun d f a => match f with
  | 17 => some [(true, dasSite s)]
  | 18 => some [iV (findA s.Accounts i)]
  | 19 => some [bV (vsi s)]
  | 36 => some [(true, dasChallengeBook (C12e.issX s.Book i t)), (true, dasChallenge (C12e.issC s.Book i t)), bV (C12e.issOk s.Book i t)]
  | 37 => some [iV (C12.cval (C12e.issX s.Book i t) (C12e.issC s.Book i t).Id)]
  | _ => none
theorem conBeg (s : Fx.Site) (i t : Int) (hn : s.Accounts.length ≤ 16000000) (hc : ∀ a ∈ s.Accounts, a.Credentials.length ≤ 15000000) (hb : s.Book.Open.length ≤ 16000000) (hl : s.Logins.length ≤ 16000000) (hz : s.Name.size ≤ 4294967296) (ho : s.Book.ok) (hi : -9223372036854775808 ≤ i ∧ i ≤ 9223372036854775807) (ht : -9223372036854775808 ≤ t ∧ t ≤ 9223372036854775807) : FnCon Tryz.prog 12 ([(true, dasSite s), iV i, iV t]) ([(true, dasSite (begX s i t)), iV (begI s i t), iV (begV s i t), bV (begB s i t)]) := by
  refine fn_go (p := ((FnCon Tryz.prog 17 [(true, (dasSite s))] [(true, dasSite s)]) ∧ ((FnCon Tryz.prog 36 [(true, [dI (s.Book.Seed), dI (s.Book.Next), rowR 67 3 dasChallenge zChallenge s.Book.Open]), (false, [dI (i)]), (false, [dI (t)])] [(true, dasChallengeBook (C12e.issX s.Book i t)), (true, dasChallenge (C12e.issC s.Book i t)), (false, [dB ((C12e.issOk s.Book i t))])]) ∧ bcase (!vsi s) ((FnCon Tryz.prog 19 [(true, (dasSite s))] [(false, [dB ((vsi s))])]) ∧ ((!vsi s) = true ∧ (true = true ∧ ((true = true ∧ (Value.string s.Name = Value.string (begX s i t).Name ∧ ((DaEq (rowR 52 3 dasAccount zAccount s.Accounts) (Da.row 52 3 (begX s i t).Accounts.length fun i_1 j => (dasAccount ((begX s i t).Accounts.getD i_1 zAccount)).getD j (Da.val undef))) ∧ (vI s.Book.Seed = vI (begX s i t).Book.Seed ∧ (vI s.Book.Next = vI (begX s i t).Book.Next ∧ ((DaEq (rowR 67 3 dasChallenge zChallenge s.Book.Open) (Da.row 67 3 (begX s i t).Book.Open.length fun i_1 j => (dasChallenge ((begX s i t).Book.Open.getD i_1 zChallenge)).getD j (Da.val undef))) ∧ (DaEq (numR 3 .i64 s.Logins) (Da.row 3 1 (begX s i t).Logins.length fun i_1 x => dI (((begX s i t).Logins.getD i_1 0)))))))))) ∧ ((false = false ∧ vI 0 = vI (begI s i t)) ∧ ((false = false ∧ vI 0 = vI (begV s i t)) ∧ (false = false ∧ Value.bool false = Value.bool (begB s i t)))))))) (bcase (decide (findA s.Accounts i < 0)) ((FnCon Tryz.prog 19 [(true, (dasSite s))] [(false, [dB ((vsi s))])]) ∧ ((!vsi s) = false ∧ ((FnCon Tryz.prog 18 [(true, (dasSite s)), (false, [dI (i)])] [(false, [dI ((findA s.Accounts i))])]) ∧ (decide (findA s.Accounts i < 0) = true ∧ ((true = true ∧ (Value.string s.Name = Value.string (begX s i t).Name ∧ ((DaEq (rowR 52 3 dasAccount zAccount s.Accounts) (Da.row 52 3 (begX s i t).Accounts.length fun i_1 j => (dasAccount ((begX s i t).Accounts.getD i_1 zAccount)).getD j (Da.val undef))) ∧ (vI s.Book.Seed = vI (begX s i t).Book.Seed ∧ (vI s.Book.Next = vI (begX s i t).Book.Next ∧ ((DaEq (rowR 67 3 dasChallenge zChallenge s.Book.Open) (Da.row 67 3 (begX s i t).Book.Open.length fun i_1 j => (dasChallenge ((begX s i t).Book.Open.getD i_1 zChallenge)).getD j (Da.val undef))) ∧ (DaEq (numR 3 .i64 s.Logins) (Da.row 3 1 (begX s i t).Logins.length fun i_1 x => dI (((begX s i t).Logins.getD i_1 0)))))))))) ∧ ((false = false ∧ vI 0 = vI (begI s i t)) ∧ ((false = false ∧ vI 0 = vI (begV s i t)) ∧ (false = false ∧ Value.bool false = Value.bool (begB s i t))))))))) ((FnCon Tryz.prog 19 [(true, (dasSite s))] [(false, [dB ((vsi s))])]) ∧ ((!vsi s) = false ∧ ((FnCon Tryz.prog 18 [(true, (dasSite s)), (false, [dI (i)])] [(false, [dI ((findA s.Accounts i))])]) ∧ (decide (findA s.Accounts i < 0) = false ∧ bcase (!C12e.issOk s.Book i t) ((true = true ∧ (Value.string s.Name = Value.string (begX s i t).Name ∧ ((DaEq (rowR 52 3 dasAccount zAccount s.Accounts) (Da.row 52 3 (begX s i t).Accounts.length fun i_1 j => (dasAccount ((begX s i t).Accounts.getD i_1 zAccount)).getD j (Da.val undef))) ∧ (vI s.Book.Seed = vI (begX s i t).Book.Seed ∧ (vI s.Book.Next = vI (begX s i t).Book.Next ∧ ((DaEq (rowR 67 3 dasChallenge zChallenge s.Book.Open) (Da.row 67 3 (begX s i t).Book.Open.length fun i_1 j => (dasChallenge ((begX s i t).Book.Open.getD i_1 zChallenge)).getD j (Da.val undef))) ∧ (DaEq (numR 3 .i64 s.Logins) (Da.row 3 1 (begX s i t).Logins.length fun i_1 x => dI (((begX s i t).Logins.getD i_1 0)))))))))) ∧ ((false = false ∧ vI 0 = vI (begI s i t)) ∧ ((false = false ∧ vI 0 = vI (begV s i t)) ∧ (false = false ∧ Value.bool false = Value.bool (begB s i t))))) ((FnCon Tryz.prog 37 [(true, [dI ((C12e.issX s.Book i t).Seed), dI ((C12e.issX s.Book i t).Next), Da.row 67 3 (C12e.issX s.Book i t).Open.length fun i_1 j => (dasChallenge ((C12e.issX s.Book i t).Open.getD i_1 zChallenge)).getD j (Da.val undef)]), (false, [dI ((C12e.issC s.Book i t).Id)])] [(false, [dI ((C12.cval (C12e.issX s.Book i t) (C12e.issC s.Book i t).Id))])]) ∧ ((true = true ∧ (Value.string s.Name = Value.string (begX s i t).Name ∧ ((DaEq (rowR 52 3 dasAccount zAccount s.Accounts) (Da.row 52 3 (begX s i t).Accounts.length fun i_1 j => (dasAccount ((begX s i t).Accounts.getD i_1 zAccount)).getD j (Da.val undef))) ∧ (vI (C12e.issX s.Book i t).Seed = vI (begX s i t).Book.Seed ∧ (vI (C12e.issX s.Book i t).Next = vI (begX s i t).Book.Next ∧ ((DaEq (Da.row 67 3 (C12e.issX s.Book i t).Open.length fun i_1 j => (dasChallenge ((C12e.issX s.Book i t).Open.getD i_1 zChallenge)).getD j (Da.val undef)) (Da.row 67 3 (begX s i t).Book.Open.length fun i_1 j => (dasChallenge ((begX s i t).Book.Open.getD i_1 zChallenge)).getD j (Da.val undef))) ∧ (DaEq (numR 3 .i64 s.Logins) (Da.row 3 1 (begX s i t).Logins.length fun i_1 x => dI (((begX s i t).Logins.getD i_1 0)))))))))) ∧ ((false = false ∧ vI (C12e.issC s.Book i t).Id = vI (begI s i t)) ∧ ((false = false ∧ vI (C12.cval (C12e.issX s.Book i t) (C12e.issC s.Book i t).Id) = vI (begV s i t)) ∧ (false = false ∧ Value.bool true = Value.bool (begB s i t)))))))))))))) (bgC s i t) (noLoops) Tryz.func12 (by kernel_rfl) (by kernel_rfl) (by kernel_rfl) (fun _ => trivial) (by kernel_rfl) ?_
  refine ⟨?g0, ?g1, bcase_intro (fun h2 => ⟨?g3, h2, rfl, ⟨rfl, congrArg _ ?g4, ?g5, congrArg _ ?g6, congrArg _ ?g7, ?g8, ?g9⟩, ⟨rfl, congrArg _ ?g10⟩, ⟨rfl, congrArg _ ?g11⟩, rfl, congrArg _ ?g12⟩) (fun h2 => bcase_intro (fun h13 => ⟨?g14, h2, ?g15, h13, ⟨rfl, congrArg _ ?g16, ?g17, congrArg _ ?g18, congrArg _ ?g19, ?g20, ?g21⟩, ⟨rfl, congrArg _ ?g22⟩, ⟨rfl, congrArg _ ?g23⟩, rfl, congrArg _ ?g24⟩) (fun h13 => ⟨?g25, h2, ?g26, h13, bcase_intro (fun h27 => ⟨⟨rfl, congrArg _ ?g28, ?g29, congrArg _ ?g30, congrArg _ ?g31, ?g32, ?g33⟩, ⟨rfl, congrArg _ ?g34⟩, ⟨rfl, congrArg _ ?g35⟩, rfl, congrArg _ ?g36⟩) (fun h27 => ⟨?g37, ⟨rfl, congrArg _ ?g38, ?g39, congrArg _ ?g40, congrArg _ ?g41, ?g42, ?g43⟩, ⟨rfl, congrArg _ ?g44⟩, ⟨rfl, congrArg _ ?g45⟩, rfl, congrArg _ ?g46⟩)⟩))⟩
  all_goals have hc' : ∀ a ∈ s.Accounts, a.Credentials.length ≤ 16000000 := fun a ha => by have := hc a ha; omega
  case g0 => exact C15t.conCopy s hn hc' hb hl
  case g1 => exact conIss s.Book i t hb hi ht
  case g3 | g14 | g25 => exact C15s.conVsi s hn hc' hb hz
  case g15 | g26 => exact C15s.conFnd s i hn
  case g4 | g5 | g6 | g7 | g8 | g9 | g10 | g11 | g12 =>
    have e := beg_f1 (t := t) (fnd_f1 (i := i) (show vsi s = false by simpa using h2))
    obtain ⟨e1, e2, e3⟩ := beg_f e
    first
      | exact e2.symm
      | exact e3.symm
      | exact e.symm
      | (rw [e1] <;> first | rfl | exact DaEq.refl _)
  case g16 | g17 | g18 | g19 | g20 | g21 | g22 | g23 | g24 =>
    have e := beg_f1 (t := t) (fnd_f2 (of_decide_eq_true h13))
    obtain ⟨e1, e2, e3⟩ := beg_f e
    first
      | exact e2.symm
      | exact e3.symm
      | exact e.symm
      | (rw [e1] <;> first | rfl | exact DaEq.refl _)
  case g28 | g29 | g30 | g31 | g32 | g33 | g34 | g35 | g36 =>
    have e := beg_f2 (s := s) (show C12e.issOk s.Book i t = false by simpa using h27)
    obtain ⟨e1, e2, e3⟩ := beg_f e
    first
      | exact e2.symm
      | exact e3.symm
      | exact e.symm
      | (rw [e1] <;> first | rfl | exact DaEq.refl _)
  all_goals
    have h13 := of_decide_eq_false h13
    have hv : vsi s = true := by simpa using h2
    have hk : C12e.issOk s.Book i t = true := by simpa using h27
    have e := beg_y (fnd_y hv h13) hk
    obtain ⟨e1, e2, e3⟩ := beg_t e
  case g37 => exact conVal _ _ (iss_okB ho hk).1 (iss_okB ho hk).2
  all_goals first
    | exact e2.symm
    | exact e3.symm
    | exact e.symm
    | (rw [e1] <;> first | rfl | exact DaEq.refl _)
end Go.Proofs.YtllaacdikjffmaaGreat.C15v
