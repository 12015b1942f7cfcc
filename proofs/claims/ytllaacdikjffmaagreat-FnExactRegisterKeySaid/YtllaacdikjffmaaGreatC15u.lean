import Derived.Test.YtllaacdikjffmaaGreatC15i
import Derived.Test.YtllaacdikjffmaaGreatC15t
import Derived.Test.YtllaacdikjffmaaGreatE27
namespace Go.Proofs.YtllaacdikjffmaaGreat.C15u
open Go.ChangeShapes Go.WideShapes Go.ChangeAt Go.RowKit
open S0 S1 S9 Dm Fx M8 M12 M13 M18 M21 C3 E0 E1 E2 E3 E4 E7 E8 E9 E10 E15 E16 E17 E18 E19 E20 E21 E22 E24 E26 E27 Das C14i C14j C14k C15s C15t C15i
set_option linter.unusedVariables false
set_option linter.unusedSimpArgs false
set_option maxRecDepth 100000
theorem conRaw (n : Nat) (vs : List Value) (hn : n ≤ 16000000) (hp : PlainEl n 3 (valsEl 3 vs)) : FnCon Tryz.prog 49 ([(false, [.row 52 3 n (valsEl 3 vs)])]) ([(false, [.row 52 3 n (valsEl 3 vs)])]) := by
  refine fn_go (p := ((PlainEl n 3 fun i j => Da.val (vs.getD (i * 3 + j) undef)) ∧ (0 + n ≤ 1000000000000 ∧ ((0 + n) * 40 ≤ 140737488355328 ∧ (false = false ∧ (DaEq (Da.row 52 3 (0 + n) fun i j => Da.val (vs.getD ((i - 0) * 3 + j) undef)) (Da.row 52 3 n fun i j => Da.val (vs.getD (i * 3 + j) undef)))))))) (noCalls) (noLoops) Tryz.func49 (by kernel_rfl) (by kernel_rfl) (by kernel_rfl) (fun _ => trivial) (by kernel_rfl) ?_
  refine ⟨?g0, ?g1, ?g2, rfl, ?g3⟩
  case g0 => exact hp
  case g3 => exact ⟨rfl, rfl, Nat.zero_add _, fun i _ j _ => rfl⟩
  all_goals omega
theorem conInts (xs : List Int) (hn : xs.length ≤ 16000000) : FnCon Tryz.prog 52 ([(false, [numR 3 .i64 xs])]) ([(false, [numR 3 .i64 xs])]) := by
  refine fn_go (p := ((PlainEl xs.length 1 fun i x => dI ((xs.getD i 0))) ∧ (0 + xs.length ≤ 1000000000000 ∧ ((0 + xs.length) * 8 ≤ 140737488355328 ∧ (false = false ∧ (DaEq (Da.row 3 1 (0 + xs.length) fun i j => dI ((xs.getD (i - 0) 0))) (numR 3 .i64 xs))))))) (noCalls) (noLoops) Tryz.func52 (by kernel_rfl) (by kernel_rfl) (by kernel_rfl) (fun _ => trivial) (by kernel_rfl) ?_
  refine ⟨?g0, ?g1, ?g2, rfl, ?g3⟩
  case g0 => exact fun i _ j _ => rfl
  case g3 => exact ⟨rfl, rfl, Nat.zero_add _, fun i _ j _ => rfl⟩
  all_goals omega
def acDs (l : List Ac) : List Dc := l.flatMap Account.dcs
theorem acDs_len : ∀ l : List Ac, (acDs l).length = l.length * 3
  | [] => rfl
  | x :: l => by
    have ih := acDs_len l
    unfold acDs at *
    rw [List.flatMap_cons, List.length_append, ih, Account.len, List.length_cons]
    omega
theorem acDs_at : ∀ {l : List Ac} {i : Nat}, i < l.length → (acDs l)[i * 3]? = some (.val (vI (l.getD i zAccount).Id)) ∧ (acDs l)[i * 3 + 1]? = some (.val (vI (l.getD i zAccount).Minimum)) ∧ (acDs l)[i * 3 + 2]? = some (CredentialsD (l.getD i zAccount).Credentials)
  | [], i, h => by simp at h
  | x :: l, 0, _ => ⟨rfl, rfl, rfl⟩
  | x :: l, i + 1, h => by
    obtain ⟨h1, h2, h3⟩ := acDs_at (l := l) (i := i) (by simpa using h)
    unfold acDs at *
    rw [List.flatMap_cons, show (i + 1) * 3 = x.dcs.length + i * 3 by rw [Account.len]; omega]
    refine ⟨?_, ?_, ?_⟩
    · rw [List.getElem?_append_right (by omega), Nat.add_sub_cancel_left, h1]; rfl
    · rw [Nat.add_assoc, List.getElem?_append_right (by omega), Nat.add_sub_cancel_left, h2]; rfl
    · rw [Nat.add_assoc, List.getElem?_append_right (by omega), Nat.add_sub_cancel_left, h3]; rfl
theorem acDs_cr {l : List Ac} {i : Nat} (h : i < l.length) : (acDs l)[i * 3 + 2]? = some (rowR 81 4 dasCredential zCredential (l.getD i zAccount).Credentials).dc := by
  rw [(acDs_at h).2.2, rowR_dc 81 zCredential Fx.Credential.len dasCredential_dc]
  rfl
theorem acDs_val {l : List Ac} {i : Nat} (h : i < l.length) : ∀ j, j < 3 → j ≠ 2 → ∃ u, (acDs l)[i * 3 + j]? = some (.val u) := fun j hj hne => by
  match j, hj with
  | 0, _ => exact ⟨_, (acDs_at h).1⟩
  | 1, _ => exact ⟨_, (acDs_at h).2.1⟩
  | 2, _ => exact absurd rfl hne
theorem acDs_dc (l : List Ac) : (rowR 52 3 dasAccount zAccount l).dc = .row 52 3 l.length (acDs l) := by
  rw [rowR_dc 52 zAccount Fx.Account.len dasAccount_dc]; rfl
theorem acDs_plain {w : World} {hi : Nat} : ∀ {l : List Ac} {vs : List Value}, ShsL w hi (acDs l) vs → ∀ u, u ∈ vs → isVal (.val u) = true
  | [], vs, h, u, hu => by
    unfold acDs at h
    simp only [List.flatMap_nil, ShsL] at h
    subst h; cases hu
  | x :: l, vs, h, u, hu => by
    have ih : ∀ vs : List Value, ShsL w hi (acDs l) vs → ∀ u, u ∈ vs → isVal (.val u) = true := fun vs h u hu => acDs_plain h u hu
    unfold acDs at h ih
    rw [List.flatMap_cons] at h
    unfold Account.dcs at h
    simp only [List.cons_append, List.nil_append, ShsL] at h
    obtain ⟨v1, _, rfl, h1, v2, _, rfl, h2, v3, _, rfl, h3, h4⟩ := h
    simp only [Shs] at h1 h2
    unfold CredentialsD at h3
    simp only [Shs] at h3
    obtain ⟨A, c, _, e3, _⟩ := h3
    rcases List.mem_cons.1 hu with rfl | hu
    · rw [h1]; rfl
    · rcases List.mem_cons.1 hu with rfl | hu
      · rw [h2]; rfl
      · rcases List.mem_cons.1 hu with rfl | hu
        · rw [e3]; rfl
        · exact ih _ h4 u hu
attribute [irreducible] acDs
theorem plain_el {vs : List Value} {n : Nat} (hl : vs.length = n * 3) (h : ∀ u, u ∈ vs → isVal (.val u) = true) : PlainEl n 3 (valsEl 3 vs) := fun i hi j hj => by
  have hlt : i * 3 + j < vs.length := by omega
  show isVal (.val (vs.getD (i * 3 + j) undef)) = true
  rw [List.getD_eq_getElem?_getD, List.getElem?_eq_getElem hlt]
  exact h _ (List.getElem_mem hlt)
def suC (W : World) (s : Fx.Site) : Orc := ⟨fun d f a => match f with
  | 50 => (match a with | [(_, [.row _ _ n el])] => some [(false, [.row 81 4 n el])] | _ => none)
  | 51 => some [(false, [rowR 67 3 dasChallenge zChallenge s.Book.Open])]
  | 52 => some [(false, [numR 3 .i64 s.Logins])]
  | _ => none, fun id vs os => match id with
  | 20016 => some ⟨[], .one (.own 20016), [(20016, .abs (Half W 52 3 s.Accounts.length 0 (acDs s.Accounts)))]⟩
  | 30016 => some ⟨[], .one (.val (vI s.Accounts.length)), []⟩
  | 60048 => (match vs with | [.one (.own q), .one (.val (.int _ j))] => some ⟨[0 ≤ j ∧ j < (s.Accounts.length : Int)], .one (.elo q 3 j.toNat 0), []⟩ | _ => none)
  | 60080 => (match vs with | [.one (.own q), .one (.val (.int _ j))] => some ⟨[0 ≤ j ∧ j < (s.Accounts.length : Int)], .one (.elo q 3 j.toNat 0), []⟩ | _ => none)
  | 60064 => (match vs with | [.one (.elo q _ i _)] => some ⟨[], .one (.old (rowR 81 4 dasCredential zCredential (s.Accounts.getD i zAccount).Credentials)), []⟩ | _ => none)
  | 60096 => (match vs with | [.one (.elo q _ i _), .one (.own r)] => some ⟨[], .one (.val undef), [(r, .gone), (q, .abs (Half W 52 3 s.Accounts.length (i + 1) (acDs s.Accounts)))]⟩ | _ => none)
  | _ => none, fun w => w = W⟩
abbrev SuX (l : List Ac) : Type := { i : Nat // i ≤ l.length }
noncomputable def suL (W : World) (s : Fx.Site) : Loops := fun r _ => match r with
  | 3 => some ⟨SuX s.Accounts, fun v sl => only [1, 2, 10, 11] 0 (sl.set 11 (.one (.val (vI v.1)))), fun v obs => C14i.keepO [10008] obs ++ [(10000, .var 35 [.val (.string s.Name), .own 20016, .val (vI s.Book.Seed), .val (vI s.Book.Next), .old (rowR 67 3 dasChallenge zChallenge s.Book.Open), .old (numR 3 .i64 s.Logins)]), (20016, .abs (Half W 52 3 s.Accounts.length v.1 (acDs s.Accounts)))], fun v => s.Accounts.length - v.1⟩
  | _ => none
theorem wpCopy (W : World) (s : Fx.Site) (hn : s.Accounts.length ≤ 16000000) (hc : ∀ a ∈ s.Accounts, a.Credentials.length ≤ 16000000) (hb : s.Book.Open.length ≤ 16000000) (hl : s.Logins.length ≤ 16000000) : awp Tryz.prog (suC W s) (suL W s) (Tryz.f24.body.getD .skip) ⟨[.agg [.val (.string s.Name), .old (rowR 52 3 dasAccount zAccount s.Accounts), .val (vI s.Book.Seed), .val (vI s.Book.Next), .old (rowR 67 3 dasChallenge zChallenge s.Book.Open), .old (numR 3 .i64 s.Logins)]] ++ List.replicate (Tryz.f24.ntmps - ([.agg [.val (.string s.Name), .old (rowR 52 3 dasAccount zAccount s.Accounts), .val (vI s.Book.Seed), .val (vI s.Book.Next), .old (rowR 67 3 dasChallenge zChallenge s.Book.Open), .old (numR 3 .i64 s.Logins)]] : List AV).length) (.one (.val undef)), fun _ => .un⟩ (retH Tryz.prog Tryz.f24.results.toList [(true, dasSite s)] 20016 (Half W 52 3 s.Accounts.length s.Accounts.length (acDs s.Accounts)) (rowR 52 3 dasAccount zAccount s.Accounts)) := by
  have hh_ : ((Cust Tryz.prog (fun w => w = W) 20016 (opOf (Tryz.f24.body.getD Code.skip) 1 2) [AV.one (Sc.val (Value.func (Fn.func 49) { toList := [] } { toList := [] })), AV.one (Sc.old (rowR 52 3 dasAccount zAccount s.Accounts))] [] { need := [], val := AV.one (Sc.own 20016), mem := [(20016, Ob.abs (Half W 52 3 s.Accounts.length 0 (acDs s.Accounts)))] }) ∧ ((Cust Tryz.prog (fun w => w = W) 30016 (opOf (Tryz.f24.body.getD Code.skip) 2 2) [AV.one (Sc.own 20016)] [Ob.abs (Half W 52 3 s.Accounts.length 0 (acDs s.Accounts))] { need := [], val := AV.one (Sc.val (vI (↑s.Accounts.length : Int))), mem := [] }) ∧ ((∃ x0 : SuX s.Accounts, (((some 10000 = some 10000 ∧ 0 = 0) ∧ ((some 10008 = some 10008 ∧ 0 = 0) ∧ (vI (↑s.Accounts.length : Int) = vI (↑s.Accounts.length : Int) ∧ (vI 0 = vI (↑x0.1 : Int) ∧ True)))) ∧ ((35 = 35 ∧ (Value.string { data := { toList := [] } } = Value.string { data := { toList := [] } } ∧ (Value.slice none 0 0 = Value.slice none 0 0 ∧ (vI 0 = vI 0 ∧ (vI 0 = vI 0 ∧ (Value.slice none 0 0 = Value.slice none 0 0 ∧ Value.slice none 0 0 = Value.slice none 0 0)))))) ∧ ((35 = 35 ∧ (Value.string s.Name = Value.string s.Name ∧ (some 20016 = some 20016 ∧ (vI s.Book.Seed = vI s.Book.Seed ∧ (vI s.Book.Next = vI s.Book.Next ∧ ((DaEq (rowR 67 3 dasChallenge zChallenge s.Book.Open) (rowR 67 3 dasChallenge zChallenge s.Book.Open)) ∧ (DaEq (numR 3 .i64 s.Logins) (numR 3 .i64 s.Logins)))))))) ∧ (AbsLe (Half W 52 3 s.Accounts.length 0 (acDs s.Accounts)) (Half W 52 3 s.Accounts.length x0.1 (acDs s.Accounts)) ∧ True))))) ∧ (∀ v : SuX s.Accounts, bcase (decide ((↑v.1 : Int) < (↑s.Accounts.length : Int))) ((Cust Tryz.prog (fun w => w = W) 60048 (opOf (Tryz.f24.body.getD Code.skip) 5 6) [AV.one (Sc.own 20016), AV.one (Sc.val (vI (↑v.1 : Int)))] [Ob.abs (Half W 52 3 s.Accounts.length v.1 (acDs s.Accounts))] { need := [0 ≤ (↑v.1 : Int) ∧ (↑v.1 : Int) < (↑s.Accounts.length : Int)], val := AV.one (Sc.elo 20016 3 (↑v.1 : Int).toNat 0), mem := [] }) ∧ ((0 ≤ (↑v.1 : Int) ∧ (↑v.1 : Int) < (↑s.Accounts.length : Int)) ∧ ((Cust Tryz.prog (fun w => w = W) 60064 (opOf (Tryz.f24.body.getD Code.skip) 5 8) [AV.one (Sc.elo 20016 3 (↑v.1 : Int).toNat 2)] [Ob.abs (Half W 52 3 s.Accounts.length v.1 (acDs s.Accounts))] { need := [], val := AV.one (Sc.old (Da.row 81 4 (s.Accounts.getD (↑v.1 : Int).toNat zAccount).Credentials.length fun i j => (dasCredential ((s.Accounts.getD (↑v.1 : Int).toNat zAccount).Credentials.getD i zCredential)).getD j (Da.val undef))), mem := [] }) ∧ ((FnCon Tryz.prog 50 [(false, [Da.row 81 4 (s.Accounts.getD (↑v.1 : Int).toNat zAccount).Credentials.length fun i j => (dasCredential ((s.Accounts.getD (↑v.1 : Int).toNat zAccount).Credentials.getD i zCredential)).getD j (Da.val undef)])] [(false, [Da.row 81 4 (s.Accounts.getD (↑v.1 : Int).toNat zAccount).Credentials.length fun i j => (dasCredential ((s.Accounts.getD (↑v.1 : Int).toNat zAccount).Credentials.getD i zCredential)).getD j (Da.val undef)])]) ∧ ((Cust Tryz.prog (fun w => w = W) 60080 (opOf (Tryz.f24.body.getD Code.skip) 5 10) [AV.one (Sc.own 20016), AV.one (Sc.val (vI (↑v.1 : Int)))] [Ob.abs (Half W 52 3 s.Accounts.length v.1 (acDs s.Accounts))] { need := [0 ≤ (↑v.1 : Int) ∧ (↑v.1 : Int) < (↑s.Accounts.length : Int)], val := AV.one (Sc.elo 20016 3 (↑v.1 : Int).toNat 0), mem := [] }) ∧ ((0 ≤ (↑v.1 : Int) ∧ (↑v.1 : Int) < (↑s.Accounts.length : Int)) ∧ ((Cust Tryz.prog (fun w => w = W) 60096 (opOf (Tryz.f24.body.getD Code.skip) 5 12) [AV.one (Sc.elo 20016 3 (↑v.1 : Int).toNat 2), AV.one (Sc.own 60072)] [Ob.abs (Half W 52 3 s.Accounts.length v.1 (acDs s.Accounts)), Ob.own (Da.row 81 4 (s.Accounts.getD (↑v.1 : Int).toNat zAccount).Credentials.length fun i j => (dasCredential ((s.Accounts.getD (↑v.1 : Int).toNat zAccount).Credentials.getD i zCredential)).getD j (Da.val undef))] { need := [], val := AV.one (Sc.val undef), mem := [(60072, Ob.gone), (20016, Ob.abs (Half W 52 3 s.Accounts.length ((↑v.1 : Int).toNat + 1) (acDs s.Accounts)))] }) ∧ (∃ v' : SuX s.Accounts, (s.Accounts.length.sub v'.1 < s.Accounts.length.sub v.1 ∧ (((some 10000 = some 10000 ∧ 0 = 0) ∧ ((some 10008 = some 10008 ∧ 0 = 0) ∧ (vI (↑s.Accounts.length : Int) = vI (↑s.Accounts.length : Int) ∧ (vI (IntKind.i64.wrap ((↑v.1 : Int) + 1)) = vI (↑v'.1 : Int) ∧ True)))) ∧ ((35 = 35 ∧ (Value.string { data := { toList := [] } } = Value.string { data := { toList := [] } } ∧ (Value.slice none 0 0 = Value.slice none 0 0 ∧ (vI 0 = vI 0 ∧ (vI 0 = vI 0 ∧ (Value.slice none 0 0 = Value.slice none 0 0 ∧ Value.slice none 0 0 = Value.slice none 0 0)))))) ∧ ((35 = 35 ∧ (Value.string s.Name = Value.string s.Name ∧ (some 20016 = some 20016 ∧ (vI s.Book.Seed = vI s.Book.Seed ∧ (vI s.Book.Next = vI s.Book.Next ∧ ((DaEq (rowR 67 3 dasChallenge zChallenge s.Book.Open) (rowR 67 3 dasChallenge zChallenge s.Book.Open)) ∧ (DaEq (numR 3 .i64 s.Logins) (numR 3 .i64 s.Logins)))))))) ∧ (AbsLe (Half W 52 3 s.Accounts.length ((↑v.1 : Int).toNat + 1) (acDs s.Accounts)) (Half W 52 3 s.Accounts.length v'.1 (acDs s.Accounts)) ∧ True))))))))))))) ((FnCon Tryz.prog 51 [(false, [rowR 67 3 dasChallenge zChallenge s.Book.Open])] [(false, [rowR 67 3 dasChallenge zChallenge s.Book.Open])]) ∧ ((FnCon Tryz.prog 52 [(false, [numR 3 .i64 s.Logins])] [(false, [numR 3 .i64 s.Logins])]) ∧ (Half W 52 3 s.Accounts.length v.1 (acDs s.Accounts) = Half W 52 3 s.Accounts.length s.Accounts.length (acDs s.Accounts) ∧ (true = true ∧ (Value.string s.Name = Value.string s.Name ∧ ((DaEq (rowR 52 3 dasAccount zAccount s.Accounts) (rowR 52 3 dasAccount zAccount s.Accounts)) ∧ (vI s.Book.Seed = vI s.Book.Seed ∧ (vI s.Book.Next = vI s.Book.Next ∧ ((DaEq (rowR 67 3 dasChallenge zChallenge s.Book.Open) (rowR 67 3 dasChallenge zChallenge s.Book.Open)) ∧ (DaEq (numR 3 .i64 s.Logins) (numR 3 .i64 s.Logins))))))))))))))) = (awp Tryz.prog (suC W s) (suL W s) (Tryz.f24.body.getD .skip) ⟨[.agg [.val (.string s.Name), .old (rowR 52 3 dasAccount zAccount s.Accounts), .val (vI s.Book.Seed), .val (vI s.Book.Next), .old (rowR 67 3 dasChallenge zChallenge s.Book.Open), .old (numR 3 .i64 s.Logins)]] ++ List.replicate (Tryz.f24.ntmps - ([.agg [.val (.string s.Name), .old (rowR 52 3 dasAccount zAccount s.Accounts), .val (vI s.Book.Seed), .val (vI s.Book.Next), .old (rowR 67 3 dasChallenge zChallenge s.Book.Open), .old (numR 3 .i64 s.Logins)]] : List AV).length) (.one (.val undef)), fun _ => .un⟩ (retH Tryz.prog Tryz.f24.results.toList [(true, dasSite s)] 20016 (Half W 52 3 s.Accounts.length s.Accounts.length (acDs s.Accounts)) (rowR 52 3 dasAccount zAccount s.Accounts))) := by kernel_rfl
  rw [← hh_]
  clear hh_
  refine ⟨?g0, ?g1, ⟨⟨0, Nat.zero_le _⟩, ⟨⟨⟨rfl, rfl⟩, ⟨rfl, rfl⟩, rfl, congrArg _ ?g3, trivial⟩, ⟨rfl, rfl, rfl, rfl, rfl, rfl, rfl⟩, ⟨rfl, rfl, rfl, rfl, rfl, DaEq.refl _, DaEq.refl _⟩, ?g4, trivial⟩⟩, fun v => bcase_intro (fun h5 => ⟨?g6, ⟨?g7, ?g8⟩, ?g9, ?g10, ?g11, ⟨?g12, ?g13⟩, ?g14, ⟨⟨v.1 + 1, ?wa⟩, ⟨?g16, ⟨⟨rfl, rfl⟩, ⟨rfl, rfl⟩, rfl, congrArg _ ?g17, trivial⟩, ⟨rfl, rfl, rfl, rfl, rfl, rfl, rfl⟩, ⟨rfl, rfl, rfl, rfl, rfl, DaEq.refl _, DaEq.refl _⟩, ?g18, trivial⟩⟩⟩) (fun h5 => ⟨?g19, ?g20, ?g21, rfl, rfl, DaEq.refl _, rfl, rfl, DaEq.refl _, DaEq.refl _⟩)⟩
  case g0 => exact cust_copyH rfl rfl rfl (fun _ h => h) (acDs_dc _) (con_enters Tryz.func49 (by kernel_rfl) (by kernel_rfl)) fun vs hlen hsl => conRaw _ vs hn (plain_el hlen (acDs_plain hsl.choose_spec))
  case g1 => exact cust_lenH (E' := 52) rfl rfl rfl rfl (by kernel_rfl)
  case g3 => rfl
  case g4 => exact ⟨fun _ _ _ h => h, Half.firm⟩
  case g19 => exact T12i.conCopy _ hb
  case g20 => exact conInts _ hl
  case g21 =>
    have h5 := of_decide_eq_false h5
    have he : v.1 = s.Accounts.length := by
      have := v.2
      omega
    rw [he]
  all_goals
    have hlt : v.1 < s.Accounts.length := by have := of_decide_eq_true h5; omega
  case g6 | g11 => exact cust_indexH (E' := 52) rfl (by kernel_rfl) (by kernel_rfl)
  case g7 | g8 | g12 | g13 => omega
  case g9 => exact cust_loadH (i := v.1) rfl (by kernel_rfl) (by kernel_rfl) (by decide) (acDs_cr hlt) (fun _ h => h)
  case g10 => exact C14i.conCopy _ (cr_le hc _)
  case g14 => exact cust_storeH (i := v.1) rfl (by kernel_rfl) (by decide) (acDs_len _) (acDs_cr hlt) (acDs_val hlt) (fun _ h => h) (by decide)
  case wa => omega
  case g16 => show s.Accounts.length - (v.1 + 1) < s.Accounts.length - v.1; omega
  case g17 => show IntKind.i64.wrap ((v.1 : Int) + 1) = ((v.1 + 1 : Nat) : Int); rw [IntWalk.i64_in _ (by omega)]; rfl
  case g18 => exact ⟨fun _ _ _ h => h, Half.firm⟩
theorem conCopyS (s : Fx.Site) (hn : s.Accounts.length ≤ 16000000) (hc : ∀ a ∈ s.Accounts, a.Credentials.length ≤ 16000000) (hb : s.Book.Open.length ≤ 16000000) (hl : s.Logins.length ≤ 16000000) : FnCon Tryz.prog 24 [(true, dasSite s)] [(true, dasSite s)] :=
  con_goH (fun W => suC W s) (fun W => suL W s) Tryz.func24 (by kernel_rfl) (by kernel_rfl) (by kernel_rfl) (fun _ => rfl) (q := 20016) (d := rowR 52 3 dasAccount zAccount s.Accounts) (φ := fun W => (Half W 52 3 s.Accounts.length s.Accounts.length (acDs s.Accounts))) (fun W v bs w h => by rw [acDs_dc]; exact Half.all (acDs_len _) h) fun W => wpCopy W s hn hc hb hl
end Go.Proofs.YtllaacdikjffmaaGreat.C15u
