import Derived.Test.YtckplhmielckeaaM21
import Derived.Test.YtckplhmielckeaaC14l
import Derived.Test.YtckplhmielckeaaT12i
import Derived.Test.YtckplhmielckeaaC15s
import Derived.Test.YtckplhmielckeaaC9i
import Derived.Test.YtckplhmielckeaaE26
import Derived.Test.YtckplhmielckeaaBa
namespace Go.Proofs.Ytckplhmielckeaa.C15i
open Go.ChangeShapes Go.WideShapes Go.ChangeAt Go.RowKit
open S0 S1 S9 Dm Fx M8 M12 M13 M18 M21 C3 E0 E1 E2 E3 E4 E7 E10 E15 E16 E17 E18 E19 E20 E21 E22 E24 E26 Das C14i C14j C14k C15s
set_option linter.unusedVariables false
set_option linter.unusedSimpArgs false
set_option maxRecDepth 100000
abbrev keepO := C14i.keepO
theorem ok_at {l : List Ac} (h : ∀ a ∈ l, ∀ x ∈ a.Credentials, Credential.ok x) (k : Nat) : ∀ x ∈ (l.getD k zAccount).Credentials, Credential.ok x := by
  rw [List.getD_eq_getElem?_getD]
  rcases Nat.lt_or_ge k l.length with hk | hk
  · rw [List.getElem?_eq_getElem hk]; exact h _ (List.getElem_mem hk)
  · rw [List.getElem?_eq_none hk]; intro x hx; cases hx
theorem conName (z : ByteArray) (hz : z.size ≤ 4294967296) : FnCon Try.prog 64 [sV z] [bV (nameB z)] :=
  con_of_plain (con_enters Try.func64 (by kernel_rfl) (by kernel_rfl)) rfl fun w v0 k0 => by
    obtain ⟨v1, rfl, k1⟩ := of_valA k0
    obtain rfl := of_nil k1
    exact C9i.implSiteN z w hz
theorem conKey (k : Int) : FnCon Try.prog 65 [iV k] [bV (isKey k)] :=
  con_of_plain (con_enters Try.func65 (by kernel_rfl) (by kernel_rfl)) rfl fun w v0 k0 => by
    obtain ⟨v1, rfl, k1⟩ := of_valA k0
    obtain rfl := of_nil k1
    exact C3.implValidB w k
def arL (l : List Ac) : Loops := fun r _ => match r with
  | 5 => some ⟨VsX l, fun v sl => only [3, 9, 10, 11] 0 ((sl.set 11 (.one (.val (vI v.1)))).set 3 (.one (.val (vI (lowA l v.1))))), fun _ _ => [], fun v => l.length - v.1⟩
  | _ => none
noncomputable def arC : Orc := callsBy fun d f a => match a with | [(_, [.val (.int _ i), .val (.int _ m), .row _ _ n el])] => some [bV (vacD i m n el)] | _ => none
theorem conAcp (z : ByteArray) (k : Int) (hz : z.size ≤ 4294967296) : FnCon Try.prog 26 ([sV z, iV k]) ([bV (acpB z k)]) := by
  refine fn_go (p := bcase (nameB z) (FnCon Try.prog 64 [(false, [dS (z)])] [(false, [dB ((nameB z))])] ∧ (nameB z = true ∧ (FnCon Try.prog 65 [(false, [dI (k)])] [(false, [dB ((isKey k))])] ∧ (false = false ∧ Value.bool (isKey k) = Value.bool (acpB z k))))) (FnCon Try.prog 64 [(false, [dS (z)])] [(false, [dB ((nameB z))])] ∧ (nameB z = false ∧ (false = false ∧ Value.bool false = Value.bool (acpB z k))))) (callsBy fun d f a => match f with | 64 => some [bV (nameB z)] | 65 => some [bV (isKey k)] | _ => none) (noLoops) Try.func26 (by kernel_rfl) (by kernel_rfl) (by kernel_rfl) (fun _ => trivial) (by kernel_rfl) ?_
  refine bcase_intro (fun h0 => ⟨(conName z hz), h0, (conKey k), rfl, congrArg _ ?g3⟩) (fun h0 => ⟨(conName z hz), h0, rfl, congrArg _ ?g5⟩)
  case g3 => unfold acpB; rw [show nameB z = true from h0, Bool.true_and]
  case g5 => unfold acpB; rw [show nameB z = false from h0, Bool.false_and]
theorem conNew (z : ByteArray) (k : Int) (hz : z.size ≤ 4294967296) : FnCon Try.prog 9 ([sV z, iV k]) ([(true, dasSite (newX z k))]) := by
  refine fn_go (p := (FnCon Try.prog 26 [(false, [dS (z)]), (false, [dI (k)])] [(false, [dB ((acpB z k))])] ∧ bcase (!acpB z k) (true = true ∧ (Value.string { data := { toList := [] } } = Value.string (newX z k).Name ∧ ((Value.slice none 0 0 = Value.slice none 0 0 ∧ (newX z k).Accounts.length = 0) ∧ (vI 0 = vI (newX z k).Book.Seed ∧ (vI 0 = vI (newX z k).Book.Next ∧ ((Value.slice none 0 0 = Value.slice none 0 0 ∧ (newX z k).Book.Open.length = 0) ∧ (Value.slice none 0 0 = Value.slice none 0 0 ∧ (newX z k).Logins.length = 0))))))) (true = true ∧ (Value.string z = Value.string (newX z k).Name ∧ ((Value.slice none 0 0 = Value.slice none 0 0 ∧ (newX z k).Accounts.length = 0) ∧ (vI k = vI (newX z k).Book.Seed ∧ (vI 0 = vI (newX z k).Book.Next ∧ ((Value.slice none 0 0 = Value.slice none 0 0 ∧ (newX z k).Book.Open.length = 0) ∧ (Value.slice none 0 0 = Value.slice none 0 0 ∧ (newX z k).Logins.length = 0))))))))) (callsBy fun d f a => some [bV (acpB z k)]) (noLoops) Try.func9 (by kernel_rfl) (by kernel_rfl) (by kernel_rfl) (fun _ => trivial) (by kernel_rfl) ?_
  refine ⟨(conAcp z k hz), bcase_intro (fun h1 => ⟨rfl, congrArg _ ?g2, ⟨rfl, ?g3⟩, congrArg _ ?g4, congrArg _ ?g5, ⟨rfl, ?g6⟩, rfl, ?g7⟩) (fun h1 => ⟨rfl, congrArg _ ?g8, ⟨rfl, ?g9⟩, congrArg _ ?g10, congrArg _ ?g11, ⟨rfl, ?g12⟩, rfl, ?g13⟩)⟩
  case g2 | g3 | g4 | g5 | g6 | g7 => rw [newX_f (by simpa using h1)] <;> rfl
  case g8 | g9 | g10 | g11 | g12 | g13 => rw [newX_t (by simpa using h1)] <;> rfl
theorem conAre (l : List Ac) (hn : l.length ≤ 16000000) (hc : ∀ a ∈ l, a.Credentials.length ≤ 16000000) (ho : ∀ a ∈ l, ∀ x ∈ a.Credentials, Credential.ok x) : FnCon Try.prog 44 ([(false, [rowR 63 3 dasAccount zAccount l])]) ([bV (vas l)]) := by
  refine fn_go (p := bcase (decide ((↑l.length : Int) > 8)) (false = false ∧ Value.bool false = Value.bool (vas l)) ((∃ x0 : VsX l, ((vI 0 = vI (lowA l x0.1) ∧ ((DaEq (rowR 63 3 dasAccount zAccount l) (rowR 63 3 dasAccount zAccount l)) ∧ (vI (↑l.length : Int) = vI (↑l.length : Int) ∧ (vI 0 = vI (↑x0.1 : Int) ∧ True)))) ∧ True)) ∧ (∀ v : VsX l, bcase (decide ((↑v.1 : Int) < (↑l.length : Int))) ((0 ≤ (↑v.1 : Int) ∧ (↑v.1 : Int) < (↑l.length : Int)) ∧ bcase (decide ((l.getD (↑v.1 : Int).toNat zAccount).Id < lowA l v.1)) (decide ((l.getD (↑v.1 : Int).toNat zAccount).Id < lowA l v.1) = true ∧ (false = false ∧ Value.bool false = Value.bool (vas l))) (decide ((l.getD (↑v.1 : Int).toNat zAccount).Id < lowA l v.1) = false ∧ ((FnCon Try.prog 77 [(true, [dI ((l.getD (↑v.1 : Int).toNat zAccount).Id), dI ((l.getD (↑v.1 : Int).toNat zAccount).Minimum), Da.row 89 4 (l.getD (↑v.1 : Int).toNat zAccount).Credentials.length fun i j => (dasCredential ((l.getD (↑v.1 : Int).toNat zAccount).Credentials.getD i zCredential)).getD j (Da.val undef)])] [(false, [dB ((vacD (l.getD (↑v.1 : Int).toNat zAccount).Id (l.getD (↑v.1 : Int).toNat zAccount).Minimum (l.getD (↑v.1 : Int).toNat zAccount).Credentials.length fun i j => (dasCredential ((l.getD (↑v.1 : Int).toNat zAccount).Credentials.getD i zCredential)).getD j (Da.val undef)))])]) ∧ bcase (!vacD (l.getD (↑v.1 : Int).toNat zAccount).Id (l.getD (↑v.1 : Int).toNat zAccount).Minimum (l.getD (↑v.1 : Int).toNat zAccount).Credentials.length fun i j => (dasCredential ((l.getD (↑v.1 : Int).toNat zAccount).Credentials.getD i zCredential)).getD j (Da.val undef)) (false = false ∧ Value.bool false = Value.bool (vas l)) (∃ v' : VsX l, (l.length.sub v'.1 < l.length.sub v.1 ∧ ((vI (IntKind.i64.wrap ((l.getD (↑v.1 : Int).toNat zAccount).Id + 1)) = vI (lowA l v'.1) ∧ ((DaEq (rowR 63 3 dasAccount zAccount l) (rowR 63 3 dasAccount zAccount l)) ∧ (vI (↑l.length : Int) = vI (↑l.length : Int) ∧ (vI (IntKind.i64.wrap ((↑v.1 : Int) + 1)) = vI (↑v'.1 : Int) ∧ True)))) ∧ True)))))) (false = false ∧ Value.bool true = Value.bool (vas l))))) (arC) (arL l) Try.func44 (by kernel_rfl) (by kernel_rfl) (by kernel_rfl) (fun _ => trivial) (by kernel_rfl) ?_
  refine bcase_intro (fun h0 => ⟨rfl, congrArg _ ?g1⟩) (fun h0 => ⟨⟨⟨0, Nat.zero_le _, SeenA.zero _⟩, ⟨⟨congrArg _ ?g3, DaEq.refl _, rfl, congrArg _ ?g4, trivial⟩, trivial⟩⟩, fun v => bcase_intro (fun h5 => ⟨⟨?g6, ?g7⟩, bcase_intro (fun h8 => ⟨h8, rfl, congrArg _ ?g9⟩) (fun h8 => ⟨h8, ?g10, bcase_intro (fun h11 => ⟨rfl, congrArg _ ?g12⟩) (fun h11 => ⟨⟨v.1 + 1, ?wa, ?wb⟩, ⟨?g14, ⟨congrArg _ ?g15, DaEq.refl _, rfl, congrArg _ ?g16, trivial⟩, trivial⟩⟩)⟩)⟩) (fun h5 => ⟨rfl, congrArg _ ?g17⟩)⟩)
  case g1 =>
    have h0 := of_decide_eq_true h0
    unfold vas
    rw [decide_eq_false (by omega)]
    rfl
  all_goals have h0 := of_decide_eq_false h0
  case g3 | g4 => rfl
  case g17 =>
    have h5 := of_decide_eq_false h5
    have he : v.1 = l.length := by
      have := v.2.1
      omega
    unfold vas
    rw [okAs_t (by rw [← he]; exact v.2.2), decide_eq_true (by omega)]
    rfl
  case g10 =>
    have h := C14k.conVac (l.getD (v.1 : Int).toNat zAccount) (cr_le hc _) (ok_at ho _)
    rw [← vacD_is] at h
    exact h
  all_goals
    have hl : v.1 < l.length := by have := of_decide_eq_true h5; omega
    have htn : (↑v.1 : Int).toNat = v.1 := Int.toNat_natCast _
  case g6 | g7 => omega
  all_goals rw [htn] at h8
  case g9 =>
    have h8 := of_decide_eq_true h8
    unfold vas
    rw [okAs_f hl fun g => g.at_low h8, Bool.and_false]
  all_goals
    have h8 := of_decide_eq_false h8
    rw [vacD_is, htn] at h11
  case g12 =>
    unfold vas
    rw [okAs_f hl fun g => by have := g.vac; rw [this] at h11; cases h11]
    rw [Bool.and_false]
  case g14 => show l.length - (v.1 + 1) < l.length - v.1; omega
  case g15 =>
    have h3 := vac_id (a := l.getD v.1 zAccount) (by simpa using h11)
    show IntKind.i64.wrap ((l.getD (↑v.1 : Int).toNat zAccount).Id + 1) = lowA l (v.1 + 1)
    rw [htn, lowA_succ, IntWalk.i64_in _ (by omega)]
  case g16 => show IntKind.i64.wrap ((v.1 : Int) + 1) = ((v.1 + 1 : Nat) : Int); rw [IntWalk.i64_in _ (by omega)]; rfl
  case wa => omega
  case wb => exact v.2.2.next (goodA h8 (by simpa using h11))
theorem conVsi (s : Fx.Site) (hn : s.Accounts.length ≤ 16000000) (hc : ∀ a ∈ s.Accounts, a.Credentials.length ≤ 16000000) (ho : ∀ a ∈ s.Accounts, ∀ x ∈ a.Credentials, Credential.ok x) (hb : s.Book.Open.length ≤ 16000000) (hz : s.Name.size ≤ 4294967296) : FnCon Try.prog 16 ([(true, dasSite s)]) ([bV (vsi s)]) := by
  refine fn_go (p := bcase (acpB s.Name s.Book.Seed) (bcase (vas s.Accounts) (FnCon Try.prog 26 [(false, [dS (s.Name)]), (false, [dI (s.Book.Seed)])] [(false, [dB ((acpB s.Name s.Book.Seed))])] ∧ (acpB s.Name s.Book.Seed = true ∧ ((FnCon Try.prog 44 [(false, [rowR 63 3 dasAccount zAccount s.Accounts])] [(false, [dB ((vas s.Accounts))])]) ∧ (vas s.Accounts = true ∧ ((FnCon Try.prog 45 [(true, [dI (s.Book.Seed), dI (s.Book.Next), rowR 92 3 dasChallenge zChallenge s.Book.Open])] [(false, [dB ((C12b.vbk s.Book))])]) ∧ (false = false ∧ Value.bool (C12b.vbk s.Book) = Value.bool (vsi s))))))) (FnCon Try.prog 26 [(false, [dS (s.Name)]), (false, [dI (s.Book.Seed)])] [(false, [dB ((acpB s.Name s.Book.Seed))])] ∧ (acpB s.Name s.Book.Seed = true ∧ ((FnCon Try.prog 44 [(false, [rowR 63 3 dasAccount zAccount s.Accounts])] [(false, [dB ((vas s.Accounts))])]) ∧ (vas s.Accounts = false ∧ (false = false ∧ Value.bool false = Value.bool (vsi s))))))) (FnCon Try.prog 26 [(false, [dS (s.Name)]), (false, [dI (s.Book.Seed)])] [(false, [dB ((acpB s.Name s.Book.Seed))])] ∧ (acpB s.Name s.Book.Seed = false ∧ (false = false ∧ (false = false ∧ Value.bool false = Value.bool (vsi s)))))) (callsBy fun d f a => match f with | 26 => some [bV (acpB s.Name s.Book.Seed)] | 44 => some [bV (vas s.Accounts)] | 45 => some [bV (C12b.vbk s.Book)] | _ => none) (noLoops) Try.func16 (by kernel_rfl) (by kernel_rfl) (by kernel_rfl) (fun _ => trivial) (by kernel_rfl) ?_
  refine bcase_intro (fun h0 => bcase_intro (fun h1 => ⟨(conAcp _ _ hz), h0, (conAre _ hn hc ho), h1, (T12i.conVbk _ hb), rfl, congrArg _ ?g5⟩) (fun h1 => ⟨(conAcp _ _ hz), h0, (conAre _ hn hc ho), h1, rfl, congrArg _ ?g8⟩)) (fun h0 => ⟨(conAcp _ _ hz), h0, rfl, rfl, congrArg _ ?g10⟩)
  case g5 => unfold vsi; rw [show acpB s.Name s.Book.Seed = true from h0, show vas s.Accounts = true from h1]; rfl
  case g8 => unfold vsi; rw [show vas s.Accounts = false from h1]; simp
  case g10 => unfold vsi; rw [show acpB s.Name s.Book.Seed = false from h0]; rfl
noncomputable def fa1C (bx : Nat) (h : Int) : Orc := ⟨fun _ _ _ => none, fun id vs _ => match id with | 20016 => some ⟨[], .one (.val (.int .i64 h)), []⟩ | _ => none, BoxI bx h⟩
theorem wpA1 (x : Ac) (h : Int) (bx : Nat) : awp Try.prog (fa1C bx h) (noLoops) (Try.f54.body.getD .skip) ⟨[.agg [.val (.int .i64 x.Id), .val (.int .i64 x.Minimum), .old (rowR 89 4 dasCredential zCredential x.Credentials)], .one (.val (.pointer (some ⟨bx, 0, none⟩)))] ++ List.replicate (Try.f54.ntmps - ([.agg [.val (.int .i64 x.Id), .val (.int .i64 x.Minimum), .old (rowR 89 4 dasCredential zCredential x.Credentials)], .one (.val (.pointer (some ⟨bx, 0, none⟩)))] : List AV).length) (.one (.val undef)), fun _ => .un⟩ (retK Try.prog Try.f54.results.toList [bV (x.Id == h)]) := by
  have hh_ : (Cust Try.prog (BoxI bx h) 20016 (opOf (Try.f54.body.getD Code.skip) 1 2) [AV.one (Sc.val (Value.pointer (some { block := bx, off := 0 })))] [] { need := [], val := AV.one (Sc.val (vI h)), mem := [] } ∧ (false = false ∧ Value.bool (x.Id == h) = Value.bool (x.Id == h))) = (awp Try.prog (fa1C bx h) (noLoops) (Try.f54.body.getD .skip) ⟨[.agg [.val (.int .i64 x.Id), .val (.int .i64 x.Minimum), .old (rowR 89 4 dasCredential zCredential x.Credentials)], .one (.val (.pointer (some ⟨bx, 0, none⟩)))] ++ List.replicate (Try.f54.ntmps - ([.agg [.val (.int .i64 x.Id), .val (.int .i64 x.Minimum), .old (rowR 89 4 dasCredential zCredential x.Credentials)], .one (.val (.pointer (some ⟨bx, 0, none⟩)))] : List AV).length) (.one (.val undef)), fun _ => .un⟩ (retK Try.prog Try.f54.results.toList [bV (x.Id == h)])) := by kernel_rfl
  rw [← hh_]
  clear hh_
  refine ⟨?g0, rfl, rfl⟩
  case g0 => exact cust_loadP (r := false) (us := [.int .i64 h]) rfl (by kernel_rfl) (by kernel_rfl) (fun _ => rfl) (fun W hW => ⟨hW.is.1, fun j v hj => by
      match j, hj with
      | 0, hj => cases hj; exact hW.is.2⟩) rfl
theorem find1_c (w : World) (x : Ac) (h : Int) (bx : Nat) (v : Value) (hv : Shs w w.heap.size (rowR 89 4 dasCredential zCredential x.Credentials).dc v) (hb : BoxI bx h w) : Calls Try.prog 54 #[.agg #[.int .i64 x.Id, .int .i64 x.Minimum, v], .pointer (some ⟨bx, 0, none⟩)] w (Gives (.bool (x.Id == h)) w) :=
  law_go (fa1C bx h) noLoops Try.func54 (by kernel_rfl) (by kernel_rfl) (wpA1 x h bx) (vs := [.agg #[.int .i64 x.Id, .int .i64 x.Minimum, v], .pointer (some ⟨bx, 0, none⟩)]) hb rfl (fun j av hi => by
    match j, hi with
    | 0, hi => cases hi; exact ⟨_, rfl, [.int .i64 x.Id, .int .i64 x.Minimum, v], rfl, _, _, rfl, rfl, _, _, rfl, rfl, _, _, rfl, hv, rfl⟩
    | 1, hi => cases hi; exact ⟨_, rfl, rfl⟩
    | j + 2, hi => cases hi)
def iaL (l : List Ac) (h : Int) : Loops := fun r _ => match r with
  | 2 => some ⟨FnX l h, fun v sl => only [0, 1, 7, 8] 0 (sl.set 8 (.one (.val (vI v.1)))), fun _ _ => [], fun v => l.length - v.1⟩
  | _ => none
def iaC (h : Int) (bx : Nat) : Orc := ⟨fun _ _ _ => none, fun id vs _ => match id with
  | 50040 => (match vs with | [_, .agg (.val (.int _ x) :: _)] => some ⟨[], .one (.val (.bool (x == h))), []⟩ | _ => none)
  | _ => none, BoxI bx h⟩
theorem wpIa (l : List Ac) (h : Int) (bx : Nat) (hn : l.length ≤ 16000000) : awp Try.prog (iaC h bx) (iaL l h) (Try.f53.body.getD .skip) ⟨[.one (.old (rowR 63 3 dasAccount zAccount l)), .one (.val (.func (.func 54) #[] #[.pointer (some ⟨bx, 0, none⟩)]))] ++ List.replicate (Try.f53.ntmps - ([.one (.old (rowR 63 3 dasAccount zAccount l)), .one (.val (.func (.func 54) #[] #[.pointer (some ⟨bx, 0, none⟩)]))] : List AV).length) (.one (.val undef)), fun _ => .un⟩ (retK Try.prog Try.f53.results.toList [iV (findA l h)]) := by
  have hh_ : ((∃ x0 : FnX l h, (((DaEq (rowR 63 3 dasAccount zAccount l) (rowR 63 3 dasAccount zAccount l)) ∧ (Value.func (Fn.func 54) { toList := [] } { toList := [Value.pointer (some { block := bx, off := 0 })] } = Value.func (Fn.func 54) { toList := [] } { toList := [Value.pointer (some { block := bx, off := 0 })] } ∧ (vI (↑l.length : Int) = vI (↑l.length : Int) ∧ (vI 0 = vI (↑x0.1 : Int) ∧ True)))) ∧ True)) ∧ (∀ v : FnX l h, bcase (decide ((↑v.1 : Int) < (↑l.length : Int))) ((0 ≤ (↑v.1 : Int) ∧ (↑v.1 : Int) < (↑l.length : Int)) ∧ ((Cust Try.prog (BoxI bx h) 50040 (opOf (Try.f53.body.getD Code.skip) 4 5) [AV.one (Sc.val (Value.func (Fn.func 54) { toList := [] } { toList := [Value.pointer (some { block := bx, off := 0 })] })), AV.agg [Sc.val (vI (l.getD (↑v.1 : Int).toNat zAccount).Id), Sc.val (vI (l.getD (↑v.1 : Int).toNat zAccount).Minimum), Sc.old (Da.row 89 4 (l.getD (↑v.1 : Int).toNat zAccount).Credentials.length fun i j => (dasCredential ((l.getD (↑v.1 : Int).toNat zAccount).Credentials.getD i zCredential)).getD j (Da.val undef))]] [] { need := [], val := AV.one (Sc.val (Value.bool ((l.getD (↑v.1 : Int).toNat zAccount).Id == h))), mem := [] }) ∧ bcase ((l.getD (↑v.1 : Int).toNat zAccount).Id == h) (false = false ∧ vI (↑v.1 : Int) = vI (findA l h)) (∃ v' : FnX l h, (l.length.sub v'.1 < l.length.sub v.1 ∧ (((DaEq (rowR 63 3 dasAccount zAccount l) (rowR 63 3 dasAccount zAccount l)) ∧ (Value.func (Fn.func 54) { toList := [] } { toList := [Value.pointer (some { block := bx, off := 0 })] } = Value.func (Fn.func 54) { toList := [] } { toList := [Value.pointer (some { block := bx, off := 0 })] } ∧ (vI (↑l.length : Int) = vI (↑l.length : Int) ∧ (vI (IntKind.i64.wrap ((↑v.1 : Int) + 1)) = vI (↑v'.1 : Int) ∧ True)))) ∧ True))))) (false = false ∧ vI (-1) = vI (findA l h)))) = (awp Try.prog (iaC h bx) (iaL l h) (Try.f53.body.getD .skip) ⟨[.one (.old (rowR 63 3 dasAccount zAccount l)), .one (.val (.func (.func 54) #[] #[.pointer (some ⟨bx, 0, none⟩)]))] ++ List.replicate (Try.f53.ntmps - ([.one (.old (rowR 63 3 dasAccount zAccount l)), .one (.val (.func (.func 54) #[] #[.pointer (some ⟨bx, 0, none⟩)]))] : List AV).length) (.one (.val undef)), fun _ => .un⟩ (retK Try.prog Try.f53.results.toList [iV (findA l h)])) := by kernel_rfl
  rw [← hh_]
  clear hh_
  refine ⟨⟨⟨0, Nat.zero_le _, fun j h => absurd h (Nat.not_lt_zero _)⟩, ⟨⟨DaEq.refl _, rfl, rfl, congrArg _ ?g1, trivial⟩, trivial⟩⟩, fun v => bcase_intro (fun h2 => ⟨⟨?g3, ?g4⟩, ?g5, bcase_intro (fun h6 => ⟨rfl, congrArg _ ?g7⟩) (fun h6 => ⟨⟨v.1 + 1, ?wa, ?wb⟩, ⟨?g9, ⟨DaEq.refl _, rfl, rfl, congrArg _ ?g10, trivial⟩, trivial⟩⟩)⟩) (fun h2 => ⟨rfl, congrArg _ ?g11⟩)⟩
  case g1 => rfl
  case g11 =>
    have h2 := of_decide_eq_false h2
    exact (findA_no fun j hj => v.2.2 j (by omega)).symm
  all_goals have h2 := of_decide_eq_true h2
  case g3 | g4 => omega
  case g5 =>
    refine cust_dyn rfl rfl rfl (con_enters Try.func54 (by kernel_rfl) (by kernel_rfl)) fun W0 obs ρ w args hold hm hv hos hun hn => ?_
    obtain ⟨v1, s1, rfl, ⟨cs, rfl, u1, t1, rfl, k1, u2, t2, rfl, k2, u3, t3, rfl, k3, rfl⟩, rfl⟩ := hv
    obtain rfl : u1 = _ := k1
    obtain rfl : u2 = _ := k2
    refine (find1_c w (l.getD (↑v.1 : Int).toNat zAccount) h bx u3 (shs_on k3 hm.below) (BoxI.on hold hm.below)).mono ?_
    rintro e w' ⟨rfl, hb⟩
    exact ⟨_, rfl, post_same hm hb rfl⟩
  all_goals simp only [Int.toNat_natCast] at h6
  case g7 => exact (findA_at (by omega) v.2.2 (by simpa using h6)).symm
  case wa => omega
  case wb =>
    intro j hj
    rcases Nat.lt_or_ge j v.1 with h | h
    · exact v.2.2 j h
    · obtain rfl : j = v.1 := by omega
      simpa using h6
  case g9 => show l.length - (v.1 + 1) < l.length - v.1; omega
  case g10 => show IntKind.i64.wrap ((v.1 : Int) + 1) = ((v.1 + 1 : Nat) : Int); rw [IntWalk.i64_in _ (by omega)]; rfl
theorem indexA_c (w : World) (v : Value) (l : List Ac) (h : Int) (bx : Nat) (hn : l.length ≤ 16000000) (hv : Shs w w.heap.size (rowR 63 3 dasAccount zAccount l).dc v) (hx : BoxI bx h w) :
    Calls Try.prog 53 #[v, .func (.func 54) #[] #[.pointer (some ⟨bx, 0, none⟩)]] w (Gives (.int .i64 (findA l h)) w) :=
  law_go (iaC h bx) (iaL l h) Try.func53 (by kernel_rfl) (by kernel_rfl) (wpIa l h bx hn) (vs := [v, .func (.func 54) #[] #[.pointer (some ⟨bx, 0, none⟩)]]) hx rfl (fun j av hi => by
    match j, hi with
    | 0, hi => cases hi; exact ⟨v, rfl, hv⟩
    | 1, hi => cases hi; exact ⟨_, rfl, rfl⟩
    | j + 2, hi => cases hi)
theorem cust_indexA {old : World → Prop} {id q : Nat} {o : Oper} {c : Call} {u : AV} {l : List Ac} {h : Int} {d : Da} (ho : o.op = .call c) (hc : c.callee = .value (.func 53)) (hd : d = rowR 63 3 dasAccount zAccount l) (hu : AvIds u = []) (hn : l.length ≤ 16000000) :
    Cust Try.prog old id o [u, .one (.old d), .one (.own q)] [.abs (CapI 54 h)] ⟨[], .one (.val (.int .i64 (findA l h))), []⟩ := by
  subst hd
  refine cust_call (hlen := by rw [List.flatMap_cons, hu]; rfl) ho hc (con_enters Try.func53 (by kernel_rfl) (by kernel_rfl)) fun W0 obs ρ w args hold hm hv hos hun hn2 => ?_
  obtain ⟨v1, s1, rfl, k1, v2, s2, rfl, k2, k3⟩ := hv
  obtain rfl : s2 = [] := k3
  have hq : obs q = .abs (CapI 54 h) := by rw [List.flatMap_cons, hu] at hos; simpa [AvIds, ScIds] using hos
  obtain ⟨r, bs, hr, hφ, hnd⟩ := abs_of hm hq
  have h2 := own_val k2 hr
  obtain ⟨bx, T, rfl, rfl, hbx⟩ := hφ.is
  obtain rfl : v2 = _ := h2
  refine (indexA_c w v1 l h bx hn (shs_on k1 hm.below) ⟨(Array.getElem?_eq_some_iff.1 hbx).1, by simp [World.cell?, hbx]⟩).mono ?_
  rintro e w' ⟨rfl, hb⟩
  exact ⟨_, rfl, post_same hm hb rfl⟩
def fndC (s : Fx.Site) (h : Int) : Orc := ⟨fun _ _ _ => none, fun id vs _ => match id with
  | 20016 => (match vs with | [.one (.ptr q _)] => some ⟨[], .one (.own 20016), [(q, .gone), (20016, .abs (CapI 54 h))]⟩ | _ => none)
  | 20024 => some ⟨[], .one (.val (vI (findA s.Accounts h))), []⟩
  | _ => none, fun _ => True⟩
def eaL (l m : List Ac) : Loops := fun r _ => match r with
  | 4 => some ⟨EqX l m, fun v sl => only [0, 1, 2, 15, 16, 17] 0 (sl.set 17 (.one (.val (vI v.1)))), fun _ _ => [], fun v => l.length - v.1⟩
  | _ => none
def eaC : Orc := ⟨fun _ _ _ => none, fun id vs _ => match vs with | [_, .agg [.val (.int _ i), .val (.int _ m), .old (.row _ _ n el)], .agg [.val (.int _ i2), .val (.int _ m2), .old (.row _ _ n2 el2)]] => some ⟨[], .one (.val (.bool (eqlD i m n el i2 m2 n2 el2))), []⟩ | _ => none, fun _ => True⟩
theorem conFnd (s : Fx.Site) (h : Int) (hn : s.Accounts.length ≤ 16000000) : FnCon Try.prog 20 ([(true, dasSite s), iV h]) ([iV (findA s.Accounts h)]) := by
  refine fn_go (p := ((Cust Try.prog (fun x => True) 20016 (opOf (Try.f20.body.getD Code.skip) 1 2) [AV.one (Sc.ptr 10008 0)] [Ob.var 3 [Sc.val (vI h)]] { need := [], val := AV.one (Sc.own 20016), mem := [(10008, Ob.gone), (20016, Ob.abs (CapI 54 h))] }) ∧ ((Cust Try.prog (fun x => True) 20024 (opOf (Try.f20.body.getD Code.skip) 1 3) [AV.one (Sc.val (Value.func (Fn.func 53) { toList := [] } { toList := [] })), AV.one (Sc.old (rowR 63 3 dasAccount zAccount s.Accounts)), AV.one (Sc.own 20016)] [Ob.abs (CapI 54 h)] { need := [], val := AV.one (Sc.val (vI (findA s.Accounts h))), mem := [] }) ∧ (false = false ∧ vI (findA s.Accounts h) = vI (findA s.Accounts h))))) (fndC s h) (noLoops) Try.func20 (by kernel_rfl) (by kernel_rfl) (by kernel_rfl) (fun _ => trivial) (by kernel_rfl) ?_
  refine ⟨?g0, ?g1, rfl, rfl⟩
  case g0 => exact cust_capture rfl
  case g1 => exact cust_indexA rfl rfl rfl rfl hn
theorem conEqF (l m : List Ac) (hn : l.length ≤ 16000000) (hm : m.length ≤ 16000000) (hcl : ∀ a ∈ l, a.Credentials.length ≤ 16000000) (hcm : ∀ a ∈ m, a.Credentials.length ≤ 16000000) : FnCon Try.prog 58 ([(false, [rowR 63 3 dasAccount zAccount l]), (false, [rowR 63 3 dasAccount zAccount m]), (false, [.val (.func (.func 59) #[] #[])])]) ([bV (eqlAs l m)]) := by
  refine fn_go (p := bcase ((↑l.length : Int) != (↑m.length : Int)) (false = false ∧ Value.bool false = Value.bool (eqlAs l m)) ((∃ x0 : EqX l m, (((DaEq (rowR 63 3 dasAccount zAccount l) (rowR 63 3 dasAccount zAccount l)) ∧ ((DaEq (rowR 63 3 dasAccount zAccount m) (rowR 63 3 dasAccount zAccount m)) ∧ (Value.func (Fn.func 59) { toList := [] } { toList := [] } = Value.func (Fn.func 59) { toList := [] } { toList := [] } ∧ ((DaEq (rowR 63 3 dasAccount zAccount l) (rowR 63 3 dasAccount zAccount l)) ∧ (vI (↑l.length : Int) = vI (↑l.length : Int) ∧ (vI 0 = vI (↑x0.1 : Int) ∧ True)))))) ∧ True)) ∧ (∀ v : EqX l m, bcase (decide ((↑v.1 : Int) < (↑l.length : Int))) ((0 ≤ (↑v.1 : Int) ∧ (↑v.1 : Int) < (↑l.length : Int)) ∧ ((0 ≤ (↑v.1 : Int) ∧ (↑v.1 : Int) < (↑m.length : Int)) ∧ ((Cust Try.prog (fun x => True) 80024 (opOf (Try.f58.body.getD Code.skip) 7 3) [AV.one (Sc.val (Value.func (Fn.func 59) { toList := [] } { toList := [] })), AV.agg [Sc.val (vI (l.getD (↑v.1 : Int).toNat zAccount).Id), Sc.val (vI (l.getD (↑v.1 : Int).toNat zAccount).Minimum), Sc.old (Da.row 89 4 (l.getD (↑v.1 : Int).toNat zAccount).Credentials.length fun i j => (dasCredential ((l.getD (↑v.1 : Int).toNat zAccount).Credentials.getD i zCredential)).getD j (Da.val undef))], AV.agg [Sc.val (vI (m.getD (↑v.1 : Int).toNat zAccount).Id), Sc.val (vI (m.getD (↑v.1 : Int).toNat zAccount).Minimum), Sc.old (Da.row 89 4 (m.getD (↑v.1 : Int).toNat zAccount).Credentials.length fun i j => (dasCredential ((m.getD (↑v.1 : Int).toNat zAccount).Credentials.getD i zCredential)).getD j (Da.val undef))]] [] { need := [], val := AV.one (Sc.val (Value.bool (eqlD (l.getD (↑v.1 : Int).toNat zAccount).Id (l.getD (↑v.1 : Int).toNat zAccount).Minimum (l.getD (↑v.1 : Int).toNat zAccount).Credentials.length (fun i j => (dasCredential ((l.getD (↑v.1 : Int).toNat zAccount).Credentials.getD i zCredential)).getD j (Da.val undef)) (m.getD (↑v.1 : Int).toNat zAccount).Id (m.getD (↑v.1 : Int).toNat zAccount).Minimum (m.getD (↑v.1 : Int).toNat zAccount).Credentials.length fun i j => (dasCredential ((m.getD (↑v.1 : Int).toNat zAccount).Credentials.getD i zCredential)).getD j (Da.val undef)))), mem := [] }) ∧ bcase (!eqlD (l.getD (↑v.1 : Int).toNat zAccount).Id (l.getD (↑v.1 : Int).toNat zAccount).Minimum (l.getD (↑v.1 : Int).toNat zAccount).Credentials.length (fun i j => (dasCredential ((l.getD (↑v.1 : Int).toNat zAccount).Credentials.getD i zCredential)).getD j (Da.val undef)) (m.getD (↑v.1 : Int).toNat zAccount).Id (m.getD (↑v.1 : Int).toNat zAccount).Minimum (m.getD (↑v.1 : Int).toNat zAccount).Credentials.length fun i j => (dasCredential ((m.getD (↑v.1 : Int).toNat zAccount).Credentials.getD i zCredential)).getD j (Da.val undef)) (false = false ∧ Value.bool false = Value.bool (eqlAs l m)) (∃ v' : EqX l m, (l.length.sub v'.1 < l.length.sub v.1 ∧ (((DaEq (rowR 63 3 dasAccount zAccount l) (rowR 63 3 dasAccount zAccount l)) ∧ ((DaEq (rowR 63 3 dasAccount zAccount m) (rowR 63 3 dasAccount zAccount m)) ∧ (Value.func (Fn.func 59) { toList := [] } { toList := [] } = Value.func (Fn.func 59) { toList := [] } { toList := [] } ∧ ((DaEq (rowR 63 3 dasAccount zAccount l) (rowR 63 3 dasAccount zAccount l)) ∧ (vI (↑l.length : Int) = vI (↑l.length : Int) ∧ (vI (IntKind.i64.wrap ((↑v.1 : Int) + 1)) = vI (↑v'.1 : Int) ∧ True)))))) ∧ True)))))) (false = false ∧ Value.bool true = Value.bool (eqlAs l m))))) (eaC) (eaL l m) Try.func58 (by kernel_rfl) (by kernel_rfl) (by kernel_rfl) (fun _ => trivial) (by kernel_rfl) ?_
  refine bcase_intro (fun h0 => ⟨rfl, congrArg _ ?g1⟩) (fun h0 => ⟨⟨⟨0, Nat.zero_le _, ?wa, fun j h => absurd h (Nat.not_lt_zero _)⟩, ⟨⟨DaEq.refl _, DaEq.refl _, rfl, DaEq.refl _, rfl, congrArg _ ?g3, trivial⟩, trivial⟩⟩, fun v => bcase_intro (fun h4 => ⟨⟨?g5, ?g6⟩, ⟨?g7, ?g8⟩, ?g9, bcase_intro (fun h10 => ⟨rfl, congrArg _ ?g11⟩) (fun h10 => ⟨⟨v.1 + 1, ?wb, v.2.2.1, ?wc⟩, ⟨?g13, ⟨DaEq.refl _, DaEq.refl _, rfl, DaEq.refl _, rfl, congrArg _ ?g14, trivial⟩, trivial⟩⟩)⟩) (fun h4 => ⟨rfl, congrArg _ ?g15⟩)⟩)
  case g1 =>
    have h3 : ¬ (l.length : Int) = m.length := by simpa using h0
    rw [eqlAs_len (by omega)]
  case wa =>
    have h3 : (l.length : Int) = m.length := by simpa using h0
    omega
  case g3 => rfl
  case g15 =>
    have h4 := of_decide_eq_false h4
    rw [eqlAs_all v.2.2.1 (fun j hj => v.2.2.2 j (by omega))]
  all_goals
    have hl : v.1 < l.length := by have := of_decide_eq_true h4; omega
    have hll := v.2.2.1
    have htn : (↑v.1 : Int).toNat = v.1 := Int.toNat_natCast _
  case g5 | g6 | g7 | g8 => omega
  case g9 =>
    have h := C14i.conEql (l.getD (v.1 : Int).toNat zAccount) (m.getD (v.1 : Int).toNat zAccount) (cr_le hcl _) (cr_le hcm _)
    rw [← eqlD_is] at h
    exact cust_dynon rfl rfl rfl h (fun obs _ => rfl) rfl (Nat.le_of_ble_eq_true rfl)
  all_goals rw [eqlD_is, htn] at h10
  case g11 => rw [eqlAs_at hl (by omega) (by simpa using h10)]
  case wb => omega
  case wc =>
    intro j hj
    rcases Nat.lt_or_ge j v.1 with h | h
    · exact v.2.2.2 j h
    · obtain rfl : j = v.1 := by omega
      simpa using h10
  case g13 => show l.length - (v.1 + 1) < l.length - v.1; omega
  case g14 => show IntKind.i64.wrap ((v.1 : Int) + 1) = ((v.1 + 1 : Nat) : Int); rw [IntWalk.i64_in _ (by omega)]; rfl
theorem conEqN (xs ys : List Int) (hn : xs.length ≤ 4294967296) (hm : ys.length ≤ 4294967296) : FnCon Try.prog 61 [(false, [numR 3 .i64 xs]), (false, [numR 3 .i64 ys])] [bV (decide (xs = ys))] :=
  con_of_plain (con_enters Try.func61 (by kernel_rfl) (by kernel_rfl)) rfl fun w v0 k0 => by
    obtain ⟨v1, v2, rfl, hr, k1⟩ := of_rowA (numR_dc _ _ _) k0
    obtain ⟨v3, v4, rfl, hr2, k2⟩ := of_rowA (numR_dc _ _ _) k1
    obtain rfl := of_nil k2
    obtain ⟨A, c, rfl, hq⟩ := rds_flat hr
    obtain ⟨B, d, rfl, hq2⟩ := rds_flat hr2
    exact S2.slicesEqual w A B _ _ c d xs ys hq hq2 hn hm
noncomputable def esC (a b : Fx.Site) : Orc := callsBy fun d f x => match f with
  | 58 => some [bV (eqlAs a.Accounts b.Accounts)]
  | 60 => some [bV (C12.eqBk a.Book b.Book)]
  | 61 => some [bV (decide (a.Logins = b.Logins))]
  | _ => none
theorem conEql (a b : Fx.Site) (ha : a.Accounts.length ≤ 16000000) (hb : b.Accounts.length ≤ 16000000) (hca : ∀ x ∈ a.Accounts, x.Credentials.length ≤ 16000000) (hcb : ∀ x ∈ b.Accounts, x.Credentials.length ≤ 16000000) (hoa : a.Book.Open.length ≤ 16000000) (hob : b.Book.Open.length ≤ 16000000) (hla : a.Logins.length ≤ 16000000) (hlb : b.Logins.length ≤ 16000000) : FnCon Try.prog 22 ([(true, dasSite a), (true, dasSite b)]) ([bV (eqlS a b)]) := by
  refine fn_go (p := bcase (a.Name.toList == b.Name.toList) (bcase (eqlAs a.Accounts b.Accounts) (bcase (C12.eqBk a.Book b.Book) ((a.Name.toList == b.Name.toList) = true ∧ ((FnCon Try.prog 58 [(false, [rowR 63 3 dasAccount zAccount a.Accounts]), (false, [rowR 63 3 dasAccount zAccount b.Accounts]), (false, [Da.val (Value.func (Fn.func 59) { toList := [] } { toList := [] })])] [(false, [dB ((eqlAs a.Accounts b.Accounts))])]) ∧ (eqlAs a.Accounts b.Accounts = true ∧ ((FnCon Try.prog 60 [(true, [dI (a.Book.Seed), dI (a.Book.Next), rowR 92 3 dasChallenge zChallenge a.Book.Open]), (true, [dI (b.Book.Seed), dI (b.Book.Next), rowR 92 3 dasChallenge zChallenge b.Book.Open])] [(false, [dB ((C12.eqBk a.Book b.Book))])]) ∧ (C12.eqBk a.Book b.Book = true ∧ ((FnCon Try.prog 61 [(false, [numR 3 .i64 a.Logins]), (false, [numR 3 .i64 b.Logins])] [(false, [dB ((decide (a.Logins = b.Logins)))])]) ∧ (false = false ∧ Value.bool (decide (a.Logins = b.Logins)) = Value.bool (eqlS a b)))))))) ((a.Name.toList == b.Name.toList) = true ∧ ((FnCon Try.prog 58 [(false, [rowR 63 3 dasAccount zAccount a.Accounts]), (false, [rowR 63 3 dasAccount zAccount b.Accounts]), (false, [Da.val (Value.func (Fn.func 59) { toList := [] } { toList := [] })])] [(false, [dB ((eqlAs a.Accounts b.Accounts))])]) ∧ (eqlAs a.Accounts b.Accounts = true ∧ ((FnCon Try.prog 60 [(true, [dI (a.Book.Seed), dI (a.Book.Next), rowR 92 3 dasChallenge zChallenge a.Book.Open]), (true, [dI (b.Book.Seed), dI (b.Book.Next), rowR 92 3 dasChallenge zChallenge b.Book.Open])] [(false, [dB ((C12.eqBk a.Book b.Book))])]) ∧ (C12.eqBk a.Book b.Book = false ∧ (false = false ∧ Value.bool false = Value.bool (eqlS a b)))))))) ((a.Name.toList == b.Name.toList) = true ∧ ((FnCon Try.prog 58 [(false, [rowR 63 3 dasAccount zAccount a.Accounts]), (false, [rowR 63 3 dasAccount zAccount b.Accounts]), (false, [Da.val (Value.func (Fn.func 59) { toList := [] } { toList := [] })])] [(false, [dB ((eqlAs a.Accounts b.Accounts))])]) ∧ (eqlAs a.Accounts b.Accounts = false ∧ (false = false ∧ (false = false ∧ Value.bool false = Value.bool (eqlS a b))))))) ((a.Name.toList == b.Name.toList) = false ∧ (false = false ∧ (false = false ∧ (false = false ∧ Value.bool false = Value.bool (eqlS a b)))))) (esC a b) (noLoops) Try.func22 (by kernel_rfl) (by kernel_rfl) (by kernel_rfl) (fun _ => trivial) (by kernel_rfl) ?_
  refine bcase_intro (fun h0 => bcase_intro (fun h1 => bcase_intro (fun h2 => ⟨h0, (conEqF _ _ ha hb hca hcb), h1, (T12i.conEqB _ _ hoa hob), h2, (conEqN _ _ (by omega) (by omega)), rfl, congrArg _ ?g6⟩) (fun h2 => ⟨h0, (conEqF _ _ ha hb hca hcb), h1, (T12i.conEqB _ _ hoa hob), h2, rfl, congrArg _ ?g9⟩)) (fun h1 => ⟨h0, (conEqF _ _ ha hb hca hcb), h1, rfl, rfl, congrArg _ ?g11⟩)) (fun h0 => ⟨h0, rfl, rfl, rfl, congrArg _ ?g12⟩)
  all_goals rw [name_eq] at h0
  case g6 => unfold eqlS; rw [show decide (a.Name = b.Name) = true from h0, show eqlAs a.Accounts b.Accounts = true from h1, show C12.eqBk a.Book b.Book = true from h2]; rfl
  case g9 => unfold eqlS; rw [show C12.eqBk a.Book b.Book = false from h2]; simp
  case g11 => unfold eqlS; rw [show eqlAs a.Accounts b.Accounts = false from h1]; simp
  case g12 => unfold eqlS; rw [show decide (a.Name = b.Name) = false from h0]; rfl
end Go.Proofs.Ytckplhmielckeaa.C15i
