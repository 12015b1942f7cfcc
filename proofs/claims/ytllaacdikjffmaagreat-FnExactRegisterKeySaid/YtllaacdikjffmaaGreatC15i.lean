import Derived.Test.YtllaacdikjffmaaGreatM21
import Derived.Test.YtllaacdikjffmaaGreatC14l
import Derived.Test.YtllaacdikjffmaaGreatT12i
import Derived.Test.YtllaacdikjffmaaGreatC15s
import Derived.Test.YtllaacdikjffmaaGreatBd
import Derived.Test.YtllaacdikjffmaaGreatE26
import Derived.Test.YtllaacdikjffmaaGreatBa
namespace Go.Proofs.YtllaacdikjffmaaGreat.C15i
open Go.ChangeShapes Go.WideShapes Go.ChangeAt Go.RowKit
open S0 S1 S9 Dm Fx M8 M12 M13 M18 M21 C3 E0 E1 E2 E3 E4 E7 E10 E15 E16 E17 E18 E19 E20 E21 E22 E24 E26 Das C14i C14j C14k C15s
set_option linter.unusedVariables false
set_option linter.unusedSimpArgs false
set_option maxRecDepth 100000
abbrev keepO := C14i.keepO
theorem ok_at {l : List Ac} (h : ∀ a ∈ l, ∀ x ∈ a.Credentials, Credential.ok x) (k : Nat) : ∀ x ∈ (l.getD k zAccount).Credentials, Credential.ok x := by
  rw [List.getD_eq_getElem?_getD]
  rcases Nat.lt_or_ge k l.length with hk | hk
  · rw [List.getElem?_eq_getElem hk]; exact h _ (List.getElem_mem hk)
  · rw [List.getElem?_eq_none hk]; intro x hx; cases hx
theorem conName (z : ByteArray) (hz : z.size ≤ 4294967296) : FnCon Tryz.prog 98 [sV z] [bV (nameB z)] :=
  con_of_plain (con_enters Tryz.func98 (by kernel_rfl) (by kernel_rfl)) rfl fun w v0 k0 => by
    obtain ⟨v1, rfl, k1⟩ := of_valA k0
    obtain rfl := of_nil k1
    exact C9i.implSiteN z w hz
theorem conKey (k : Int) : FnCon Tryz.prog 99 [iV k] [bV (isKey k)] :=
  con_of_plain (con_enters Tryz.func99 (by kernel_rfl) (by kernel_rfl)) rfl fun w v0 k0 => by
    obtain ⟨v1, rfl, k1⟩ := of_valA k0
    obtain rfl := of_nil k1
    exact C3.implValidB w k
def arL (l : List Ac) : Loops := fun r _ => match r with
  | 5 => some ⟨VsX l, fun v sl => only [3, 9, 10, 11] 0 ((sl.set 11 (.one (.val (vI v.1)))).set 3 (.one (.val (vI (lowA l v.1))))), fun _ _ => [], fun v => l.length - v.1⟩
  | _ => none
noncomputable def arC : Orc := callsBy fun d f a => match a with | [(_, [.val (.int _ i), .val (.int _ m), .row _ _ n el])] => some [bV (vacD i m n el)] | _ => none
theorem conAcp (z : ByteArray) (k : Int) (hz : z.size ≤ 4294967296) : FnCon Tryz.prog 81 ([sV z, iV k]) ([bV (acpB z k)]) := by
  refine fn_go (p := bcase (nameB z) (FnCon Tryz.prog 98 [(false, [dS (z)])] [(false, [dB ((nameB z))])] ∧ (nameB z = true ∧ (FnCon Tryz.prog 99 [(false, [dI (k)])] [(false, [dB ((isKey k))])] ∧ (false = false ∧ Value.bool (isKey k) = Value.bool (acpB z k))))) (FnCon Tryz.prog 98 [(false, [dS (z)])] [(false, [dB ((nameB z))])] ∧ (nameB z = false ∧ (false = false ∧ Value.bool false = Value.bool (acpB z k))))) (callsBy fun d f a => match f with | 98 => some [bV (nameB z)] | 99 => some [bV (isKey k)] | _ => none) (noLoops) Tryz.func81 (by kernel_rfl) (by kernel_rfl) (by kernel_rfl) (fun _ => trivial) (by kernel_rfl) ?_
  refine bcase_intro (fun h0 => ⟨(conName z hz), h0, (conKey k), rfl, congrArg _ ?g3⟩) (fun h0 => ⟨(conName z hz), h0, rfl, congrArg _ ?g5⟩)
  case g3 => unfold acpB; rw [show nameB z = true from h0, Bool.true_and]
  case g5 => unfold acpB; rw [show nameB z = false from h0, Bool.false_and]
theorem conAre (l : List Ac) (hn : l.length ≤ 16000000) (hc : ∀ a ∈ l, a.Credentials.length ≤ 16000000) (ho : ∀ a ∈ l, ∀ x ∈ a.Credentials, Credential.ok x) : FnCon Tryz.prog 82 ([(false, [rowR 52 3 dasAccount zAccount l])]) ([bV (vas l)]) := by
  refine fn_go (p := bcase (decide ((↑l.length : Int) > 8)) (false = false ∧ Value.bool false = Value.bool (vas l)) ((∃ x0 : VsX l, ((vI 0 = vI (lowA l x0.1) ∧ ((DaEq (rowR 52 3 dasAccount zAccount l) (rowR 52 3 dasAccount zAccount l)) ∧ (vI (↑l.length : Int) = vI (↑l.length : Int) ∧ (vI 0 = vI (↑x0.1 : Int) ∧ True)))) ∧ True)) ∧ (∀ v : VsX l, bcase (decide ((↑v.1 : Int) < (↑l.length : Int))) ((0 ≤ (↑v.1 : Int) ∧ (↑v.1 : Int) < (↑l.length : Int)) ∧ bcase (decide ((l.getD (↑v.1 : Int).toNat zAccount).Id < lowA l v.1)) (decide ((l.getD (↑v.1 : Int).toNat zAccount).Id < lowA l v.1) = true ∧ (false = false ∧ Value.bool false = Value.bool (vas l))) (decide ((l.getD (↑v.1 : Int).toNat zAccount).Id < lowA l v.1) = false ∧ ((FnCon Tryz.prog 59 [(true, [dI ((l.getD (↑v.1 : Int).toNat zAccount).Id), dI ((l.getD (↑v.1 : Int).toNat zAccount).Minimum), Da.row 81 4 (l.getD (↑v.1 : Int).toNat zAccount).Credentials.length fun i j => (dasCredential ((l.getD (↑v.1 : Int).toNat zAccount).Credentials.getD i zCredential)).getD j (Da.val undef)])] [(false, [dB ((vacD (l.getD (↑v.1 : Int).toNat zAccount).Id (l.getD (↑v.1 : Int).toNat zAccount).Minimum (l.getD (↑v.1 : Int).toNat zAccount).Credentials.length fun i j => (dasCredential ((l.getD (↑v.1 : Int).toNat zAccount).Credentials.getD i zCredential)).getD j (Da.val undef)))])]) ∧ bcase (!vacD (l.getD (↑v.1 : Int).toNat zAccount).Id (l.getD (↑v.1 : Int).toNat zAccount).Minimum (l.getD (↑v.1 : Int).toNat zAccount).Credentials.length fun i j => (dasCredential ((l.getD (↑v.1 : Int).toNat zAccount).Credentials.getD i zCredential)).getD j (Da.val undef)) (false = false ∧ Value.bool false = Value.bool (vas l)) (∃ v' : VsX l, (l.length.sub v'.1 < l.length.sub v.1 ∧ ((vI (IntKind.i64.wrap ((l.getD (↑v.1 : Int).toNat zAccount).Id + 1)) = vI (lowA l v'.1) ∧ ((DaEq (rowR 52 3 dasAccount zAccount l) (rowR 52 3 dasAccount zAccount l)) ∧ (vI (↑l.length : Int) = vI (↑l.length : Int) ∧ (vI (IntKind.i64.wrap ((↑v.1 : Int) + 1)) = vI (↑v'.1 : Int) ∧ True)))) ∧ True)))))) (false = false ∧ Value.bool true = Value.bool (vas l))))) (arC) (arL l) Tryz.func82 (by kernel_rfl) (by kernel_rfl) (by kernel_rfl) (fun _ => trivial) (by kernel_rfl) ?_
  refine bcase_intro (fun h0 => ⟨rfl, congrArg _ ?g1⟩) (fun h0 => ⟨⟨⟨0, Nat.zero_le _, SeenA.zero _⟩, ⟨⟨congrArg _ ?g3, DaEq.refl _, rfl, congrArg _ ?g4, trivial⟩, trivial⟩⟩, fun v => bcase_intro (fun h5 => ⟨⟨?g6, ?g7⟩, bcase_intro (fun h8 => ⟨h8, rfl, congrArg _ ?g9⟩) (fun h8 => ⟨h8, ?g10, bcase_intro (fun h11 => ⟨rfl, congrArg _ ?g12⟩) (fun h11 => ⟨⟨v.1 + 1, ?wa, ?wb⟩, ⟨?g14, ⟨congrArg _ ?g15, DaEq.refl _, rfl, congrArg _ ?g16, trivial⟩, trivial⟩⟩)⟩)⟩) (fun h5 => ⟨rfl, congrArg _ ?g17⟩)⟩)
  case g1 =>
    have h0 := of_decide_eq_true h0
    unfold vas
    rw [decide_eq_false (by omega)]
    rfl
  all_goals have h0 := of_decide_eq_false h0
  case g3 | g4 => rfl
  case g17 =>
    have h5 := of_decide_eq_false h5
    have he : v.1 = l.length := by
      have := v.2.1
      omega
    unfold vas
    rw [okAs_t (by rw [← he]; exact v.2.2), decide_eq_true (by omega)]
    rfl
  case g10 =>
    have h := C14k.conVac (l.getD (v.1 : Int).toNat zAccount) (cr_le hc _) (ok_at ho _)
    rw [← vacD_is] at h
    exact h
  all_goals
    have hl : v.1 < l.length := by have := of_decide_eq_true h5; omega
    have htn : (↑v.1 : Int).toNat = v.1 := Int.toNat_natCast _
  case g6 | g7 => omega
  all_goals rw [htn] at h8
  case g9 =>
    have h8 := of_decide_eq_true h8
    unfold vas
    rw [okAs_f hl fun g => g.at_low h8, Bool.and_false]
  all_goals
    have h8 := of_decide_eq_false h8
    rw [vacD_is, htn] at h11
  case g12 =>
    unfold vas
    rw [okAs_f hl fun g => by have := g.vac; rw [this] at h11; cases h11]
    rw [Bool.and_false]
  case g14 => show l.length - (v.1 + 1) < l.length - v.1; omega
  case g15 =>
    have h3 := vac_id (a := l.getD v.1 zAccount) (by simpa using h11)
    show IntKind.i64.wrap ((l.getD (↑v.1 : Int).toNat zAccount).Id + 1) = lowA l (v.1 + 1)
    rw [htn, lowA_succ, IntWalk.i64_in _ (by omega)]
  case g16 => show IntKind.i64.wrap ((v.1 : Int) + 1) = ((v.1 + 1 : Nat) : Int); rw [IntWalk.i64_in _ (by omega)]; rfl
  case wa => omega
  case wb => exact v.2.2.next (goodA h8 (by simpa using h11))
theorem conVsi (s : Fx.Site) (hn : s.Accounts.length ≤ 16000000) (hc : ∀ a ∈ s.Accounts, a.Credentials.length ≤ 16000000) (ho : ∀ a ∈ s.Accounts, ∀ x ∈ a.Credentials, Credential.ok x) (hb : s.Book.Open.length ≤ 16000000) (hz : s.Name.size ≤ 4294967296) : FnCon Tryz.prog 54 ([(true, dasSite s)]) ([bV (vsi s)]) := by
  refine fn_go (p := bcase (acpB s.Name s.Book.Seed) (bcase (vas s.Accounts) (FnCon Tryz.prog 81 [(false, [dS (s.Name)]), (false, [dI (s.Book.Seed)])] [(false, [dB ((acpB s.Name s.Book.Seed))])] ∧ (acpB s.Name s.Book.Seed = true ∧ ((FnCon Tryz.prog 82 [(false, [rowR 52 3 dasAccount zAccount s.Accounts])] [(false, [dB ((vas s.Accounts))])]) ∧ (vas s.Accounts = true ∧ ((FnCon Tryz.prog 68 [(true, [dI (s.Book.Seed), dI (s.Book.Next), rowR 67 3 dasChallenge zChallenge s.Book.Open])] [(false, [dB ((C12b.vbk s.Book))])]) ∧ (false = false ∧ Value.bool (C12b.vbk s.Book) = Value.bool (vsi s))))))) (FnCon Tryz.prog 81 [(false, [dS (s.Name)]), (false, [dI (s.Book.Seed)])] [(false, [dB ((acpB s.Name s.Book.Seed))])] ∧ (acpB s.Name s.Book.Seed = true ∧ ((FnCon Tryz.prog 82 [(false, [rowR 52 3 dasAccount zAccount s.Accounts])] [(false, [dB ((vas s.Accounts))])]) ∧ (vas s.Accounts = false ∧ (false = false ∧ Value.bool false = Value.bool (vsi s))))))) (FnCon Tryz.prog 81 [(false, [dS (s.Name)]), (false, [dI (s.Book.Seed)])] [(false, [dB ((acpB s.Name s.Book.Seed))])] ∧ (acpB s.Name s.Book.Seed = false ∧ (false = false ∧ (false = false ∧ Value.bool false = Value.bool (vsi s)))))) (callsBy fun d f a => match f with | 81 => some [bV (acpB s.Name s.Book.Seed)] | 82 => some [bV (vas s.Accounts)] | 68 => some [bV (C12b.vbk s.Book)] | _ => none) (noLoops) Tryz.func54 (by kernel_rfl) (by kernel_rfl) (by kernel_rfl) (fun _ => trivial) (by kernel_rfl) ?_
  refine bcase_intro (fun h0 => bcase_intro (fun h1 => ⟨(conAcp _ _ hz), h0, (conAre _ hn hc ho), h1, (T12i.conVbk _ hb), rfl, congrArg _ ?g5⟩) (fun h1 => ⟨(conAcp _ _ hz), h0, (conAre _ hn hc ho), h1, rfl, congrArg _ ?g8⟩)) (fun h0 => ⟨(conAcp _ _ hz), h0, rfl, rfl, congrArg _ ?g10⟩)
  case g5 => unfold vsi; rw [show acpB s.Name s.Book.Seed = true from h0, show vas s.Accounts = true from h1]; rfl
  case g8 => unfold vsi; rw [show vas s.Accounts = false from h1]; simp
  case g10 => unfold vsi; rw [show acpB s.Name s.Book.Seed = false from h0]; rfl
noncomputable def fa1C (bx : Nat) (h : Int) : Orc := ⟨fun _ _ _ => none, fun id vs _ => match id with | 20016 => some ⟨[], .one (.val (.int .i64 h)), []⟩ | _ => none, BoxI bx h⟩
theorem wpA1 (x : Ac) (h : Int) (bx : Nat) : awp Tryz.prog (fa1C bx h) (noLoops) (Tryz.f80.body.getD .skip) ⟨[.agg [.val (.int .i64 x.Id), .val (.int .i64 x.Minimum), .old (rowR 81 4 dasCredential zCredential x.Credentials)], .one (.val (.pointer (some ⟨bx, 0, none⟩)))] ++ List.replicate (Tryz.f80.ntmps - ([.agg [.val (.int .i64 x.Id), .val (.int .i64 x.Minimum), .old (rowR 81 4 dasCredential zCredential x.Credentials)], .one (.val (.pointer (some ⟨bx, 0, none⟩)))] : List AV).length) (.one (.val undef)), fun _ => .un⟩ (retK Tryz.prog Tryz.f80.results.toList [bV (x.Id == h)]) := by
  have hh_ : (Cust Tryz.prog (BoxI bx h) 20016 (opOf (Tryz.f80.body.getD Code.skip) 1 2) [AV.one (Sc.val (Value.pointer (some { block := bx, off := 0 })))] [] { need := [], val := AV.one (Sc.val (vI h)), mem := [] } ∧ (false = false ∧ Value.bool (x.Id == h) = Value.bool (x.Id == h))) = (awp Tryz.prog (fa1C bx h) (noLoops) (Tryz.f80.body.getD .skip) ⟨[.agg [.val (.int .i64 x.Id), .val (.int .i64 x.Minimum), .old (rowR 81 4 dasCredential zCredential x.Credentials)], .one (.val (.pointer (some ⟨bx, 0, none⟩)))] ++ List.replicate (Tryz.f80.ntmps - ([.agg [.val (.int .i64 x.Id), .val (.int .i64 x.Minimum), .old (rowR 81 4 dasCredential zCredential x.Credentials)], .one (.val (.pointer (some ⟨bx, 0, none⟩)))] : List AV).length) (.one (.val undef)), fun _ => .un⟩ (retK Tryz.prog Tryz.f80.results.toList [bV (x.Id == h)])) := by kernel_rfl
  rw [← hh_]
  clear hh_
  refine ⟨?g0, rfl, rfl⟩
  case g0 => exact cust_loadP (r := false) (us := [.int .i64 h]) rfl (by kernel_rfl) (by kernel_rfl) (fun _ => rfl) (fun W hW => ⟨hW.is.1, fun j v hj => by
      match j, hj with
      | 0, hj => cases hj; exact hW.is.2⟩) rfl
theorem find1_c (w : World) (x : Ac) (h : Int) (bx : Nat) (v : Value) (hv : Shs w w.heap.size (rowR 81 4 dasCredential zCredential x.Credentials).dc v) (hb : BoxI bx h w) : Calls Tryz.prog 80 #[.agg #[.int .i64 x.Id, .int .i64 x.Minimum, v], .pointer (some ⟨bx, 0, none⟩)] w (Gives (.bool (x.Id == h)) w) :=
  law_go (fa1C bx h) noLoops Tryz.func80 (by kernel_rfl) (by kernel_rfl) (wpA1 x h bx) (vs := [.agg #[.int .i64 x.Id, .int .i64 x.Minimum, v], .pointer (some ⟨bx, 0, none⟩)]) hb rfl (fun j av hi => by
    match j, hi with
    | 0, hi => cases hi; exact ⟨_, rfl, [.int .i64 x.Id, .int .i64 x.Minimum, v], rfl, _, _, rfl, rfl, _, _, rfl, rfl, _, _, rfl, hv, rfl⟩
    | 1, hi => cases hi; exact ⟨_, rfl, rfl⟩
    | j + 2, hi => cases hi)
def iaL (l : List Ac) (h : Int) : Loops := fun r _ => match r with
  | 2 => some ⟨FnX l h, fun v sl => only [0, 1, 7, 8] 0 (sl.set 8 (.one (.val (vI v.1)))), fun _ _ => [], fun v => l.length - v.1⟩
  | _ => none
def iaC (h : Int) (bx : Nat) : Orc := ⟨fun _ _ _ => none, fun id vs _ => match id with
  | 50040 => (match vs with | [_, .agg (.val (.int _ x) :: _)] => some ⟨[], .one (.val (.bool (x == h))), []⟩ | _ => none)
  | _ => none, BoxI bx h⟩
theorem wpIa (l : List Ac) (h : Int) (bx : Nat) (hn : l.length ≤ 16000000) : awp Tryz.prog (iaC h bx) (iaL l h) (Tryz.f79.body.getD .skip) ⟨[.one (.old (rowR 52 3 dasAccount zAccount l)), .one (.val (.func (.func 80) #[] #[.pointer (some ⟨bx, 0, none⟩)]))] ++ List.replicate (Tryz.f79.ntmps - ([.one (.old (rowR 52 3 dasAccount zAccount l)), .one (.val (.func (.func 80) #[] #[.pointer (some ⟨bx, 0, none⟩)]))] : List AV).length) (.one (.val undef)), fun _ => .un⟩ (retK Tryz.prog Tryz.f79.results.toList [iV (findA l h)]) := by
  have hh_ : ((∃ x0 : FnX l h, (((DaEq (rowR 52 3 dasAccount zAccount l) (rowR 52 3 dasAccount zAccount l)) ∧ (Value.func (Fn.func 80) { toList := [] } { toList := [Value.pointer (some { block := bx, off := 0 })] } = Value.func (Fn.func 80) { toList := [] } { toList := [Value.pointer (some { block := bx, off := 0 })] } ∧ (vI (↑l.length : Int) = vI (↑l.length : Int) ∧ (vI 0 = vI (↑x0.1 : Int) ∧ True)))) ∧ True)) ∧ (∀ v : FnX l h, bcase (decide ((↑v.1 : Int) < (↑l.length : Int))) ((0 ≤ (↑v.1 : Int) ∧ (↑v.1 : Int) < (↑l.length : Int)) ∧ ((Cust Tryz.prog (BoxI bx h) 50040 (opOf (Tryz.f79.body.getD Code.skip) 4 5) [AV.one (Sc.val (Value.func (Fn.func 80) { toList := [] } { toList := [Value.pointer (some { block := bx, off := 0 })] })), AV.agg [Sc.val (vI (l.getD (↑v.1 : Int).toNat zAccount).Id), Sc.val (vI (l.getD (↑v.1 : Int).toNat zAccount).Minimum), Sc.old (Da.row 81 4 (l.getD (↑v.1 : Int).toNat zAccount).Credentials.length fun i j => (dasCredential ((l.getD (↑v.1 : Int).toNat zAccount).Credentials.getD i zCredential)).getD j (Da.val undef))]] [] { need := [], val := AV.one (Sc.val (Value.bool ((l.getD (↑v.1 : Int).toNat zAccount).Id == h))), mem := [] }) ∧ bcase ((l.getD (↑v.1 : Int).toNat zAccount).Id == h) (false = false ∧ vI (↑v.1 : Int) = vI (findA l h)) (∃ v' : FnX l h, (l.length.sub v'.1 < l.length.sub v.1 ∧ (((DaEq (rowR 52 3 dasAccount zAccount l) (rowR 52 3 dasAccount zAccount l)) ∧ (Value.func (Fn.func 80) { toList := [] } { toList := [Value.pointer (some { block := bx, off := 0 })] } = Value.func (Fn.func 80) { toList := [] } { toList := [Value.pointer (some { block := bx, off := 0 })] } ∧ (vI (↑l.length : Int) = vI (↑l.length : Int) ∧ (vI (IntKind.i64.wrap ((↑v.1 : Int) + 1)) = vI (↑v'.1 : Int) ∧ True)))) ∧ True))))) (false = false ∧ vI (-1) = vI (findA l h)))) = (awp Tryz.prog (iaC h bx) (iaL l h) (Tryz.f79.body.getD .skip) ⟨[.one (.old (rowR 52 3 dasAccount zAccount l)), .one (.val (.func (.func 80) #[] #[.pointer (some ⟨bx, 0, none⟩)]))] ++ List.replicate (Tryz.f79.ntmps - ([.one (.old (rowR 52 3 dasAccount zAccount l)), .one (.val (.func (.func 80) #[] #[.pointer (some ⟨bx, 0, none⟩)]))] : List AV).length) (.one (.val undef)), fun _ => .un⟩ (retK Tryz.prog Tryz.f79.results.toList [iV (findA l h)])) := by kernel_rfl
  rw [← hh_]
  clear hh_
  refine ⟨⟨⟨0, Nat.zero_le _, fun j h => absurd h (Nat.not_lt_zero _)⟩, ⟨⟨DaEq.refl _, rfl, rfl, congrArg _ ?g1, trivial⟩, trivial⟩⟩, fun v => bcase_intro (fun h2 => ⟨⟨?g3, ?g4⟩, ?g5, bcase_intro (fun h6 => ⟨rfl, congrArg _ ?g7⟩) (fun h6 => ⟨⟨v.1 + 1, ?wa, ?wb⟩, ⟨?g9, ⟨DaEq.refl _, rfl, rfl, congrArg _ ?g10, trivial⟩, trivial⟩⟩)⟩) (fun h2 => ⟨rfl, congrArg _ ?g11⟩)⟩
  case g1 => rfl
  case g11 =>
    have h2 := of_decide_eq_false h2
    exact (findA_no fun j hj => v.2.2 j (by omega)).symm
  all_goals have h2 := of_decide_eq_true h2
  case g3 | g4 => omega
  case g5 =>
    refine cust_dyn rfl rfl rfl (con_enters Tryz.func80 (by kernel_rfl) (by kernel_rfl)) fun W0 obs ρ w args hold hm hv hos hun hn => ?_
    obtain ⟨v1, s1, rfl, ⟨cs, rfl, u1, t1, rfl, k1, u2, t2, rfl, k2, u3, t3, rfl, k3, rfl⟩, rfl⟩ := hv
    obtain rfl : u1 = _ := k1
    obtain rfl : u2 = _ := k2
    refine (find1_c w (l.getD (↑v.1 : Int).toNat zAccount) h bx u3 (shs_on k3 hm.below) (BoxI.on hold hm.below)).mono ?_
    rintro e w' ⟨rfl, hb⟩
    exact ⟨_, rfl, post_same hm hb rfl⟩
  all_goals simp only [Int.toNat_natCast] at h6
  case g7 => exact (findA_at (by omega) v.2.2 (by simpa using h6)).symm
  case wa => omega
  case wb =>
    intro j hj
    rcases Nat.lt_or_ge j v.1 with h | h
    · exact v.2.2 j h
    · obtain rfl : j = v.1 := by omega
      simpa using h6
  case g9 => show l.length - (v.1 + 1) < l.length - v.1; omega
  case g10 => show IntKind.i64.wrap ((v.1 : Int) + 1) = ((v.1 + 1 : Nat) : Int); rw [IntWalk.i64_in _ (by omega)]; rfl
theorem indexA_c (w : World) (v : Value) (l : List Ac) (h : Int) (bx : Nat) (hn : l.length ≤ 16000000) (hv : Shs w w.heap.size (rowR 52 3 dasAccount zAccount l).dc v) (hx : BoxI bx h w) :
    Calls Tryz.prog 79 #[v, .func (.func 80) #[] #[.pointer (some ⟨bx, 0, none⟩)]] w (Gives (.int .i64 (findA l h)) w) :=
  law_go (iaC h bx) (iaL l h) Tryz.func79 (by kernel_rfl) (by kernel_rfl) (wpIa l h bx hn) (vs := [v, .func (.func 80) #[] #[.pointer (some ⟨bx, 0, none⟩)]]) hx rfl (fun j av hi => by
    match j, hi with
    | 0, hi => cases hi; exact ⟨v, rfl, hv⟩
    | 1, hi => cases hi; exact ⟨_, rfl, rfl⟩
    | j + 2, hi => cases hi)
theorem cust_indexA {old : World → Prop} {id q : Nat} {o : Oper} {c : Call} {u : AV} {l : List Ac} {h : Int} {d : Da} (ho : o.op = .call c) (hc : c.callee = .value (.func 79)) (hd : d = rowR 52 3 dasAccount zAccount l) (hu : AvIds u = []) (hn : l.length ≤ 16000000) :
    Cust Tryz.prog old id o [u, .one (.old d), .one (.own q)] [.abs (CapI 80 h)] ⟨[], .one (.val (.int .i64 (findA l h))), []⟩ := by
  subst hd
  refine cust_call (hlen := by rw [List.flatMap_cons, hu]; rfl) ho hc (con_enters Tryz.func79 (by kernel_rfl) (by kernel_rfl)) fun W0 obs ρ w args hold hm hv hos hun hn2 => ?_
  obtain ⟨v1, s1, rfl, k1, v2, s2, rfl, k2, k3⟩ := hv
  obtain rfl : s2 = [] := k3
  have hq : obs q = .abs (CapI 80 h) := by rw [List.flatMap_cons, hu] at hos; simpa [AvIds, ScIds] using hos
  obtain ⟨r, bs, hr, hφ, hnd⟩ := abs_of hm hq
  have h2 := own_val k2 hr
  obtain ⟨bx, T, rfl, rfl, hbx⟩ := hφ.is
  obtain rfl : v2 = _ := h2
  refine (indexA_c w v1 l h bx hn (shs_on k1 hm.below) ⟨(Array.getElem?_eq_some_iff.1 hbx).1, by simp [World.cell?, hbx]⟩).mono ?_
  rintro e w' ⟨rfl, hb⟩
  exact ⟨_, rfl, post_same hm hb rfl⟩
def fndC (s : Fx.Site) (h : Int) : Orc := ⟨fun _ _ _ => none, fun id vs _ => match id with
  | 20016 => (match vs with | [.one (.ptr q _)] => some ⟨[], .one (.own 20016), [(q, .gone), (20016, .abs (CapI 80 h))]⟩ | _ => none)
  | 20024 => some ⟨[], .one (.val (vI (findA s.Accounts h))), []⟩
  | _ => none, fun _ => True⟩
theorem conFnd (s : Fx.Site) (h : Int) (hn : s.Accounts.length ≤ 16000000) : FnCon Tryz.prog 53 ([(true, dasSite s), iV h]) ([iV (findA s.Accounts h)]) := by
  refine fn_go (p := ((Cust Tryz.prog (fun x => True) 20016 (opOf (Tryz.f53.body.getD Code.skip) 1 2) [AV.one (Sc.ptr 10008 0)] [Ob.var 3 [Sc.val (vI h)]] { need := [], val := AV.one (Sc.own 20016), mem := [(10008, Ob.gone), (20016, Ob.abs (CapI 80 h))] }) ∧ ((Cust Tryz.prog (fun x => True) 20024 (opOf (Tryz.f53.body.getD Code.skip) 1 3) [AV.one (Sc.val (Value.func (Fn.func 79) { toList := [] } { toList := [] })), AV.one (Sc.old (rowR 52 3 dasAccount zAccount s.Accounts)), AV.one (Sc.own 20016)] [Ob.abs (CapI 80 h)] { need := [], val := AV.one (Sc.val (vI (findA s.Accounts h))), mem := [] }) ∧ (false = false ∧ vI (findA s.Accounts h) = vI (findA s.Accounts h))))) (fndC s h) (noLoops) Tryz.func53 (by kernel_rfl) (by kernel_rfl) (by kernel_rfl) (fun _ => trivial) (by kernel_rfl) ?_
  refine ⟨?g0, ?g1, rfl, rfl⟩
  case g0 => exact cust_capture rfl
  case g1 => exact cust_indexA rfl rfl rfl rfl hn
end Go.Proofs.YtllaacdikjffmaaGreat.C15i
