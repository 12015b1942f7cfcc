import Derived.Test.YtialhhdhpjjkaaaGreatDoorC14j
import Derived.Test.YtialhhdhpjjkaaaGreatDoorBb
import Derived.Test.YtialhhdhpjjkaaaGreatDoorBa
import Derived.Test.YtialhhdhpjjkaaaGreatDoorEa
import Derived.Shelf.Spec.SlicesInsertGrow
import Derived.Lib.AppendZerosOnto
namespace Go.Proofs.YtialhhdhpjjkaaaGreatDoor.C14k
open Go.ChangeShapes Go.WideShapes Go.ChangeAt Go.RowKit
open S0 S1 S9 Dm Fx M8 M18 E0 E1 E2 E3 E4 E7 E10 E15 E16 E17 E18 E19 E20 E21 E22 E24 Das C14i C14j
set_option linter.unusedVariables false
set_option linter.unusedSimpArgs false
set_option maxRecDepth 100000
theorem are_c (w : World) (n b : Nat) (i m : Int) (l : List Cr) (hn : l.length ≤ 16000000) (ho : ∀ x ∈ l, Credential.ok x) (hat : LentAt w n b 35 (cellsA i m l)) :
    Calls Tryz.prog 131 #[.func (.func 132) #[.pointer (some ⟨b, 0, none⟩)] #[]] w fun e w' => e = .returned (.bool (okCs l)) ∧ w.grownBy w' (some b) := by
  obtain ⟨vs, hb, hcs⟩ := hat.is
  have hΦ : NextT (trunc w n) i m l 0 [] (nextV b) [b] w := ⟨b, vs, rfl, rfl, hb, hcs⟩
  refine (fun_go (us := []) (areC (trunc w n) i m l) (areL (trunc w n) i m l) Tryz.func131 (by kernel_rfl) (by kernel_rfl) rfl hΦ (fun w1 w2 h => BoundAt.firm _ _ w1 w2 h) hat.lo hat.lt rfl (fun R hR => wpAre (trunc w n) i m l b hn ho R hR)).mono ?_
  rintro e w' ⟨vs', bs, rfl, hres, -, hg⟩
  obtain ⟨rfl, rfl⟩ := plainGs_ok (us := [.bool (okCs l)]) rfl hres
  exact ⟨rfl, hg⟩
noncomputable def vacC (W : World) (a : Fx.Account) : Orc := ⟨fun d _ _ => match d with | some 5 => some [bV (inB a.Id 0 1000000)] | some 9 => some [bV (inB a.Minimum 1 3)] | _ => none, fun id vs _ => match id with
  | 20120 => (match vs with | [.one (.ptr q _)] => some ⟨[], .one (.own 20120), [(q, .gone), (20120, .tab 0 [] (NextT W a.Id a.Minimum a.Credentials))]⟩ | _ => none)
  | 20128 => (match vs with | [_, .one (.own q)] => some ⟨[], .one (.val (.bool (okCs a.Credentials))), [(q, .gone)]⟩ | _ => none)
  | _ => none, fun w => w = W⟩
theorem conVac (a : Fx.Account) (hn : a.Credentials.length ≤ 16000000) (ho : ∀ x ∈ a.Credentials, Credential.ok x) : FnCon Tryz.prog 96 ([(true, dasAccount a)]) ([bV (vac a)]) := by
  refine E24.fn_goW (p := fun W => bcase (inB a.Id 0 1000000) (bcase (inB a.Minimum 1 3) (bcase (decide ((↑a.Credentials.length : Int) ≤ 8)) (FnCon Tryz.prog 105 [(false, [dI (a.Id)]), (false, [dI (0)]), (false, [dI (1000000)])] [(false, [dB ((inB a.Id 0 1000000))])] ∧ (inB a.Id 0 1000000 = true ∧ (FnCon Tryz.prog 130 [(false, [dI (a.Minimum)])] [(false, [dB ((inB a.Minimum 1 3))])] ∧ (inB a.Minimum 1 3 = true ∧ (decide ((↑a.Credentials.length : Int) ≤ 8) = true ∧ ((Cust Tryz.prog (fun w => w = W) 20120 (opOf (Tryz.f96.body.getD Code.skip) 1 15) [AV.one (Sc.ptr 10000 0)] [Ob.var 35 [Sc.val (vI a.Id), Sc.val (vI a.Minimum), Sc.old (rowR 86 4 dasCredential zCredential a.Credentials)]] { need := [], val := AV.one (Sc.own 20120), mem := [(10000, Ob.gone), (20120, Ob.tab 0 [] (NextT W a.Id a.Minimum a.Credentials))] }) ∧ ((Cust Tryz.prog (fun w => w = W) 20128 (opOf (Tryz.f96.body.getD Code.skip) 1 16) [AV.one (Sc.val (Value.func (Fn.func 131) { toList := [] } { toList := [] })), AV.one (Sc.own 20120)] [Ob.tab 0 [] (NextT W a.Id a.Minimum a.Credentials)] { need := [], val := AV.one (Sc.val (Value.bool (okCs a.Credentials))), mem := [(20120, Ob.gone)] }) ∧ (false = false ∧ Value.bool (okCs a.Credentials) = Value.bool (vac a))))))))) (FnCon Tryz.prog 105 [(false, [dI (a.Id)]), (false, [dI (0)]), (false, [dI (1000000)])] [(false, [dB ((inB a.Id 0 1000000))])] ∧ (inB a.Id 0 1000000 = true ∧ (FnCon Tryz.prog 130 [(false, [dI (a.Minimum)])] [(false, [dB ((inB a.Minimum 1 3))])] ∧ (inB a.Minimum 1 3 = true ∧ (decide ((↑a.Credentials.length : Int) ≤ 8) = false ∧ (false = false ∧ Value.bool false = Value.bool (vac a)))))))) (FnCon Tryz.prog 105 [(false, [dI (a.Id)]), (false, [dI (0)]), (false, [dI (1000000)])] [(false, [dB ((inB a.Id 0 1000000))])] ∧ (inB a.Id 0 1000000 = true ∧ (FnCon Tryz.prog 130 [(false, [dI (a.Minimum)])] [(false, [dB ((inB a.Minimum 1 3))])] ∧ (inB a.Minimum 1 3 = false ∧ (false = false ∧ (false = false ∧ Value.bool false = Value.bool (vac a)))))))) (FnCon Tryz.prog 105 [(false, [dI (a.Id)]), (false, [dI (0)]), (false, [dI (1000000)])] [(false, [dB ((inB a.Id 0 1000000))])] ∧ (inB a.Id 0 1000000 = false ∧ (false = false ∧ (false = false ∧ (false = false ∧ Value.bool false = Value.bool (vac a))))))) (fun W => vacC W a) (noLoops) Tryz.func96 (by kernel_rfl) (by kernel_rfl) (by kernel_rfl) (fun _ => rfl) (by kernel_rfl) ?_
  intro W
  refine bcase_intro (fun h0 => bcase_intro (fun h1 => bcase_intro (fun h2 => ⟨(conIn _ _ _), h0, (conIsM _), h1, h2, ?g5, ?g6, rfl, congrArg _ ?g7⟩) (fun h2 => ⟨(conIn _ _ _), h0, (conIsM _), h1, h2, rfl, congrArg _ ?g10⟩)) (fun h1 => ⟨(conIn _ _ _), h0, (conIsM _), h1, rfl, rfl, congrArg _ ?g13⟩)) (fun h0 => ⟨(conIn _ _ _), h0, rfl, rfl, rfl, congrArg _ ?g15⟩)
  case g5 => exact cust_bound rfl rfl rfl
  case g6 => exact cust_bfun (u := .bool (okCs a.Credentials)) rfl rfl (con_enters Tryz.func131 (by kernel_rfl) (by kernel_rfl)) rfl (cs := cellsA a.Id a.Minimum a.Credentials) rfl rfl rfl fun w n b hat => are_c w n b _ _ _ hn ho hat
  case g7 => unfold vac; rw [h0, h1, decide_eq_true (show a.Credentials.length ≤ 8 by have := of_decide_eq_true h2; omega)]; rfl
  case g10 => unfold vac; rw [decide_eq_false (show ¬ a.Credentials.length ≤ 8 by have := of_decide_eq_false h2; omega)]; simp
  case g13 => unfold vac; rw [h1]; simp
  case g15 => unfold vac; rw [h0]; rfl
structure CapI (g : Nat) (i : Int) (v : Value) (bs : List Nat) (w : World) : Prop where
  is : ∃ b T, v = .func (.func g) #[] #[.pointer (some ⟨b, 0, none⟩)] ∧ bs = [b] ∧ w.heap[b]? = some (.cells #[.int .i64 i] T (0, 0))
theorem CapI.firm {g : Nat} {i : Int} (v : Value) (bs : List Nat) (w1 w2 : World) (hk : ∀ b, b ∈ bs → w2.heap[b]? = w1.heap[b]?) (h : CapI g i v bs w1) : CapI g i v bs w2 := by
  obtain ⟨b, T, rfl, rfl, hb⟩ := h.is
  exact ⟨b, T, rfl, rfl, (hk b (by simp)).trans hb⟩
theorem cust_capture {old : World → Prop} {id q g : Nat} {o : Oper} {x : Operand} {T : TypeId} {i : Int} (ho : o.op = .makeFunc (.func g) #[] #[x]) :
    Cust Tryz.prog old id o [.one (.ptr q 0)] [.var T [.val (.int .i64 i)]] ⟨[], .one (.own id), [(q, .gone), (id, .abs (CapI g i))]⟩ :=
  cust_val fun W0 obs ρ a w hold hm hv hos hun hn => by
    have hops : o.op.operands.toList = [x] := by rw [ho]; simp [Op.operands]
    rw [hops] at hv
    obtain ⟨v1, s1, e1, k1, k2⟩ := hv
    obtain ⟨ex, -⟩ : a.eval x = v1 ∧ True := by simp at e1; exact ⟨e1.1, trivial⟩
    have hq : obs q = .var T [.val (.int .i64 i)] := by simpa [AvIds, ScIds] using hos
    obtain ⟨b, vs, hr, hb1, hb2, hc⟩ := var_of hm hq
    have hv1 := ptr_of (W0 := W0) k1 hr
    obtain rfl := plain_cs (us := [.int .i64 i]) rfl hc
    have hin := hm.in_ hr
    refine ⟨.func (.func g) #[] #[.pointer (some ⟨b, 0, none⟩)], w, ?_, post_move (bs' := [b]) hm hr (hun id (Nat.le_refl _) (by omega)) (turned_refl w _) rfl (fun b hb => .inl hb) (by simp) (ob_abs ⟨b, T, rfl, rfl, hb2⟩ (fun b' hb' => hin b' hb') (CapI.firm _ _))⟩
    unfold execOp
    rw [ho]
    simp [Instr.makeFunc, ex, hv1]
structure BoxI (bx : Nat) (i : Int) (w : World) : Prop where
  is : bx < w.heap.size ∧ w.cell? ⟨bx, 0, none⟩ = some (.int .i64 i)
theorem BoxI.on {bx : Nat} {i : Int} {W w : World} (h : BoxI bx i W) (hb : Below W.heap.size W w) : BoxI bx i w := ⟨Nat.lt_of_lt_of_le h.is.1 hb.size, by rw [World.cell?_of_block (w := W) (hb.block bx h.is.1)]; exact h.is.2⟩
noncomputable def f1C (bx : Nat) (h : Int) : Orc := ⟨fun _ _ _ => none, fun id vs _ => match id with | 20016 => some ⟨[], .one (.val (.int .i64 h)), []⟩ | _ => none, BoxI bx h⟩
theorem wpF1 (x : Cr) (h : Int) (bx : Nat) : awp Tryz.prog (f1C bx h) (noLoops) (Tryz.f129.body.getD .skip) ⟨[.agg [.val (.int .i64 (x).Handle), .val (.int .i64 (x).Public), .val (.int .i64 (x).Counter), .val (.bool (x).Cut)], .one (.val (.pointer (some ⟨bx, 0, none⟩)))] ++ List.replicate (Tryz.f129.ntmps - ([.agg [.val (.int .i64 (x).Handle), .val (.int .i64 (x).Public), .val (.int .i64 (x).Counter), .val (.bool (x).Cut)], .one (.val (.pointer (some ⟨bx, 0, none⟩)))] : List AV).length) (.one (.val undef)), fun _ => .un⟩ (retK Tryz.prog Tryz.f129.results.toList [bV (x.Handle == h)]) := by
  have hh_ : (Cust Tryz.prog (BoxI bx h) 20016 (opOf (Tryz.f129.body.getD Code.skip) 1 2) [AV.one (Sc.val (Value.pointer (some { block := bx, off := 0 })))] [] { need := [], val := AV.one (Sc.val (vI h)), mem := [] } ∧ (false = false ∧ Value.bool (x.Handle == h) = Value.bool (x.Handle == h))) = (awp Tryz.prog (f1C bx h) (noLoops) (Tryz.f129.body.getD .skip) ⟨[.agg [.val (.int .i64 (x).Handle), .val (.int .i64 (x).Public), .val (.int .i64 (x).Counter), .val (.bool (x).Cut)], .one (.val (.pointer (some ⟨bx, 0, none⟩)))] ++ List.replicate (Tryz.f129.ntmps - ([.agg [.val (.int .i64 (x).Handle), .val (.int .i64 (x).Public), .val (.int .i64 (x).Counter), .val (.bool (x).Cut)], .one (.val (.pointer (some ⟨bx, 0, none⟩)))] : List AV).length) (.one (.val undef)), fun _ => .un⟩ (retK Tryz.prog Tryz.f129.results.toList [bV (x.Handle == h)])) := by kernel_rfl
  rw [← hh_]
  clear hh_
  refine ⟨?g0, rfl, rfl⟩
  case g0 => exact cust_loadP (r := false) (us := [.int .i64 h]) rfl (by kernel_rfl) (by kernel_rfl) (fun _ => rfl) (fun W hW => ⟨hW.is.1, fun j v hj => by
      match j, hj with
      | 0, hj => cases hj; exact hW.is.2⟩) rfl
theorem find1_c (w : World) (x : Cr) (h : Int) (bx : Nat) (hb : BoxI bx h w) : Calls Tryz.prog 129 #[.agg #[.int .i64 x.Handle, .int .i64 x.Public, .int .i64 x.Counter, .bool x.Cut], .pointer (some ⟨bx, 0, none⟩)] w (Gives (.bool (x.Handle == h)) w) :=
  law_go (f1C bx h) noLoops Tryz.func129 (by kernel_rfl) (by kernel_rfl) (wpF1 x h bx) hb rfl (args_of (us := [.agg #[.int .i64 x.Handle, .int .i64 x.Public, .int .i64 x.Counter, .bool x.Cut], .pointer (some ⟨bx, 0, none⟩)]))
abbrev IxX (l : List Cr) (h : Int) : Type := { k : Nat // k ≤ l.length ∧ ∀ j, j < k → (l.getD j zCredential).Handle ≠ h }
def ixL (l : List Cr) (h : Int) : Loops := fun r _ => match r with
  | 2 => some ⟨IxX l h, fun v sl => only [0, 1, 7, 8] 0 (sl.set 8 (.one (.val (vI v.1)))), fun _ _ => [], fun v => l.length - v.1⟩
  | _ => none
def ixC (h : Int) (bx : Nat) : Orc := ⟨fun _ _ _ => none, fun id vs _ => match id with
  | 50040 => (match vs with | [_, .agg (.val (.int _ x) :: _)] => some ⟨[], .one (.val (.bool (x == h))), []⟩ | _ => none)
  | _ => none, BoxI bx h⟩
theorem wpIx (l : List Cr) (h : Int) (bx : Nat) (hn : l.length ≤ 16000000) : awp Tryz.prog (ixC h bx) (ixL l h) (Tryz.f128.body.getD .skip) ⟨[.one (.old (rowR 86 4 dasCredential zCredential l)), .one (.val (.func (.func 129) #[] #[.pointer (some ⟨bx, 0, none⟩)]))] ++ List.replicate (Tryz.f128.ntmps - ([.one (.old (rowR 86 4 dasCredential zCredential l)), .one (.val (.func (.func 129) #[] #[.pointer (some ⟨bx, 0, none⟩)]))] : List AV).length) (.one (.val undef)), fun _ => .un⟩ (retK Tryz.prog Tryz.f128.results.toList [iV (findC l h)]) := by
  have hh_ : ((∃ x0 : IxX l h, (((DaEq (rowR 86 4 dasCredential zCredential l) (rowR 86 4 dasCredential zCredential l)) ∧ (Value.func (Fn.func 129) { toList := [] } { toList := [Value.pointer (some { block := bx, off := 0 })] } = Value.func (Fn.func 129) { toList := [] } { toList := [Value.pointer (some { block := bx, off := 0 })] } ∧ (vI (↑l.length : Int) = vI (↑l.length : Int) ∧ (vI 0 = vI (↑x0.1 : Int) ∧ True)))) ∧ True)) ∧ (∀ v : IxX l h, bcase (decide ((↑v.1 : Int) < (↑l.length : Int))) ((0 ≤ (↑v.1 : Int) ∧ (↑v.1 : Int) < (↑l.length : Int)) ∧ (Cust Tryz.prog (BoxI bx h) 50040 (opOf (Tryz.f128.body.getD Code.skip) 4 5) [AV.one (Sc.val (Value.func (Fn.func 129) { toList := [] } { toList := [Value.pointer (some { block := bx, off := 0 })] })), AV.agg [Sc.val (vI (l.getD (↑v.1 : Int).toNat zCredential).Handle), Sc.val (vI (l.getD (↑v.1 : Int).toNat zCredential).Public), Sc.val (vI (l.getD (↑v.1 : Int).toNat zCredential).Counter), Sc.val (Value.bool (l.getD (↑v.1 : Int).toNat zCredential).Cut)]] [] { need := [], val := AV.one (Sc.val (Value.bool ((l.getD (↑v.1 : Int).toNat zCredential).Handle == h))), mem := [] } ∧ bcase ((l.getD (↑v.1 : Int).toNat zCredential).Handle == h) (false = false ∧ vI (↑v.1 : Int) = vI (findC l h)) (∃ v' : IxX l h, (l.length.sub v'.1 < l.length.sub v.1 ∧ (((DaEq (rowR 86 4 dasCredential zCredential l) (rowR 86 4 dasCredential zCredential l)) ∧ (Value.func (Fn.func 129) { toList := [] } { toList := [Value.pointer (some { block := bx, off := 0 })] } = Value.func (Fn.func 129) { toList := [] } { toList := [Value.pointer (some { block := bx, off := 0 })] } ∧ (vI (↑l.length : Int) = vI (↑l.length : Int) ∧ (vI (IntKind.i64.wrap ((↑v.1 : Int) + 1)) = vI (↑v'.1 : Int) ∧ True)))) ∧ True))))) (false = false ∧ vI (-1) = vI (findC l h)))) = (awp Tryz.prog (ixC h bx) (ixL l h) (Tryz.f128.body.getD .skip) ⟨[.one (.old (rowR 86 4 dasCredential zCredential l)), .one (.val (.func (.func 129) #[] #[.pointer (some ⟨bx, 0, none⟩)]))] ++ List.replicate (Tryz.f128.ntmps - ([.one (.old (rowR 86 4 dasCredential zCredential l)), .one (.val (.func (.func 129) #[] #[.pointer (some ⟨bx, 0, none⟩)]))] : List AV).length) (.one (.val undef)), fun _ => .un⟩ (retK Tryz.prog Tryz.f128.results.toList [iV (findC l h)])) := by kernel_rfl
  rw [← hh_]
  clear hh_
  refine ⟨⟨⟨0, Nat.zero_le _, fun j h => absurd h (Nat.not_lt_zero _)⟩, ⟨⟨DaEq.refl _, rfl, rfl, congrArg _ ?g1, trivial⟩, trivial⟩⟩, fun v => bcase_intro (fun h2 => ⟨⟨?g3, ?g4⟩, ?g5, bcase_intro (fun h6 => ⟨rfl, congrArg _ ?g7⟩) (fun h6 => ⟨⟨v.1 + 1, ?wa, ?wb⟩, ⟨?g9, ⟨DaEq.refl _, rfl, rfl, congrArg _ ?g10, trivial⟩, trivial⟩⟩)⟩) (fun h2 => ⟨rfl, congrArg _ ?g11⟩)⟩
  case g1 => rfl
  case g11 =>
    have h2 := of_decide_eq_false h2
    exact (find_no fun j hj => v.2.2 j (by omega)).symm
  all_goals have h2 := of_decide_eq_true h2
  case g3 | g4 => omega
  case g5 =>
    refine cust_dyn rfl rfl rfl (con_enters Tryz.func129 (by kernel_rfl) (by kernel_rfl)) fun W0 obs ρ w args hold hm hv hos hun hn => ?_
    have e := vs_plain (us := [.agg #[.int .i64 (l.getD (↑v.1 : Int).toNat zCredential).Handle, .int .i64 (l.getD (↑v.1 : Int).toNat zCredential).Public, .int .i64 (l.getD (↑v.1 : Int).toNat zCredential).Counter, .bool (l.getD (↑v.1 : Int).toNat zCredential).Cut]]) rfl hv
    subst e
    refine (find1_c w _ h bx (BoxI.on hold hm.below)).mono ?_
    rintro e w' ⟨rfl, hb⟩
    exact ⟨_, rfl, post_same hm hb rfl⟩
  all_goals simp only [Int.toNat_natCast] at h6
  case g7 => exact (find_at (by omega) v.2.2 (by simpa using h6)).symm
  case wa => omega
  case wb =>
    intro j hj
    rcases Nat.lt_or_ge j v.1 with h | h
    · exact v.2.2 j h
    · obtain rfl : j = v.1 := by omega
      simpa using h6
  case g9 => show l.length - (v.1 + 1) < l.length - v.1; omega
  case g10 => show IntKind.i64.wrap ((v.1 : Int) + 1) = ((v.1 + 1 : Nat) : Int); rw [IntWalk.i64_in _ (by omega)]; rfl
theorem index_c (w : World) (v : Value) (l : List Cr) (h : Int) (bx : Nat) (hn : l.length ≤ 16000000) (hv : Shs w w.heap.size (rowR 86 4 dasCredential zCredential l).dc v) (hx : BoxI bx h w) :
    Calls Tryz.prog 128 #[v, .func (.func 129) #[] #[.pointer (some ⟨bx, 0, none⟩)]] w (Gives (.int .i64 (findC l h)) w) :=
  law_go (ixC h bx) (ixL l h) Tryz.func128 (by kernel_rfl) (by kernel_rfl) (wpIx l h bx hn) (vs := [v, .func (.func 129) #[] #[.pointer (some ⟨bx, 0, none⟩)]]) hx rfl (fun j av hi => by
    match j, hi with
    | 0, hi => cases hi; exact ⟨v, rfl, hv⟩
    | 1, hi => cases hi; exact ⟨_, rfl, rfl⟩
    | j + 2, hi => cases hi)
theorem cust_index {old : World → Prop} {id q : Nat} {o : Oper} {c : Call} {u : AV} {l : List Cr} {h : Int} {d : Da} (ho : o.op = .call c) (hc : c.callee = .value (.func 128)) (hd : d = rowR 86 4 dasCredential zCredential l) (hu : AvIds u = []) (hn : l.length ≤ 16000000) :
    Cust Tryz.prog old id o [u, .one (.old d), .one (.own q)] [.abs (CapI 129 h)] ⟨[], .one (.val (.int .i64 (findC l h))), []⟩ := by
  subst hd
  refine cust_call (hlen := by rw [List.flatMap_cons, hu]; rfl) ho hc (con_enters Tryz.func128 (by kernel_rfl) (by kernel_rfl)) fun W0 obs ρ w args hold hm hv hos hun hn2 => ?_
  obtain ⟨v1, s1, rfl, k1, v2, s2, rfl, k2, k3⟩ := hv
  obtain rfl : s2 = [] := k3
  have hq : obs q = .abs (CapI 129 h) := by rw [List.flatMap_cons, hu] at hos; simpa [AvIds, ScIds] using hos
  obtain ⟨r, bs, hr, hφ, hnd⟩ := abs_of hm hq
  have h2 := own_val k2 hr
  obtain ⟨bx, T, rfl, rfl, hbx⟩ := hφ.is
  obtain rfl : v2 = _ := h2
  refine (index_c w v1 l h bx hn (shs_on k1 hm.below) ⟨(Array.getElem?_eq_some_iff.1 hbx).1, by simp [World.cell?, hbx]⟩).mono ?_
  rintro e w' ⟨rfl, hb⟩
  exact ⟨_, rfl, post_same hm hb rfl⟩
def fndC (a : Fx.Account) (h : Int) : Orc := ⟨fun _ _ _ => none, fun id vs _ => match id with
  | 20016 => (match vs with | [.one (.ptr q _)] => some ⟨[], .one (.own 20016), [(q, .gone), (20016, .abs (CapI 129 h))]⟩ | _ => none)
  | 20024 => some ⟨[], .one (.val (vI (findC a.Credentials h))), []⟩
  | _ => none, fun _ => True⟩
theorem conFnd (a : Fx.Account) (h : Int) (hn : a.Credentials.length ≤ 16000000) : FnCon Tryz.prog 95 ([(true, dasAccount a), iV h]) ([iV (findC a.Credentials h)]) := by
  refine fn_go (p := ((Cust Tryz.prog (fun x => True) 20016 (opOf (Tryz.f95.body.getD Code.skip) 1 2) [AV.one (Sc.ptr 10008 0)] [Ob.var 3 [Sc.val (vI h)]] { need := [], val := AV.one (Sc.own 20016), mem := [(10008, Ob.gone), (20016, Ob.abs (CapI 129 h))] }) ∧ ((Cust Tryz.prog (fun x => True) 20024 (opOf (Tryz.f95.body.getD Code.skip) 1 3) [AV.one (Sc.val (Value.func (Fn.func 128) { toList := [] } { toList := [] })), AV.one (Sc.old (rowR 86 4 dasCredential zCredential a.Credentials)), AV.one (Sc.own 20016)] [Ob.abs (CapI 129 h)] { need := [], val := AV.one (Sc.val (vI (findC a.Credentials h))), mem := [] }) ∧ (false = false ∧ vI (findC a.Credentials h) = vI (findC a.Credentials h))))) (fndC a h) (noLoops) Tryz.func95 (by kernel_rfl) (by kernel_rfl) (by kernel_rfl) (fun _ => trivial) (by kernel_rfl) ?_
  refine ⟨?g0, ?g1, rfl, rfl⟩
  case g0 => exact cust_capture rfl
  case g1 => exact cust_index rfl rfl rfl rfl hn
/-- An account's variable at block B, as it lies in a world. -/
structure AtA (a : Fx.Account) (B : Nat) (A : Option Addr) (c : Nat) (w : World) : Prop where
  blk : w.heap[B]? = some (.cells #[.int .i64 a.Id, .int .i64 a.Minimum, .slice A a.Credentials.length c] 35 (0, 0))
  row : Shs w w.heap.size (rowR 86 4 dasCredential zCredential a.Credentials).dc (.slice A a.Credentials.length c)
theorem AtA.cells {a : Fx.Account} {B : Nat} {A : Option Addr} {c : Nat} {w : World} (h : AtA a B A c w) : B < w.heap.size ∧ ∀ j v, [Value.int .i64 a.Id, .int .i64 a.Minimum, .slice A a.Credentials.length c][j]? = some v → w.cell? ⟨B, 0 + j, none⟩ = some v :=
  ⟨(Array.getElem?_eq_some_iff.1 h.blk).1, fun j v hj => by rw [Nat.zero_add, cell_of_row w B j _ _ _ h.blk]; simpa using hj⟩
theorem AtA.shs {a : Fx.Account} {B : Nat} {A : Option Addr} {c : Nat} {W w : World} (h : AtA a B A c W) (hb : Below W.heap.size W w) : ShsL w w.heap.size a.dcs [.int .i64 a.Id, .int .i64 a.Minimum, .slice A a.Credentials.length c] := by
  refine shsL_on (w := W) ?_ hb
  rw [← dasAccount_dc a]
  simp only [dasAccount, List.map_cons, List.map_nil, ShsL]
  exact ⟨_, _, rfl, by show Shs _ _ (.val _) _; simp only [Shs], _, _, rfl, by show Shs _ _ (.val _) _; simp only [Shs], _, _, rfl, h.row, rfl⟩
theorem AtA.elem {a : Fx.Account} {B g off c : Nat} {w : World} (h : AtA a B (some ⟨g, off, none⟩) c w) {k : Nat} (hk : k < a.Credentials.length) : g < w.heap.size ∧ w.cell? ⟨g, off + (k * 4 + 3), none⟩ = some (.bool (a.Credentials.getD k zCredential).Cut) := by
  have hh := h.row
  simp only [Da.dc, Shs] at hh
  obtain ⟨A, c', vs, e, hr, hl, _⟩ := hh
  injection e with e1 _ _
  subst e1
  obtain ⟨b, o2, e2, hlt, hc⟩ := hr.2 (by omega)
  injection e2 with e2
  injection e2 with e3 e4 _
  subst e3 e4
  refine ⟨hlt, ?_⟩
  obtain ⟨h1, h2⟩ := rdsL_get hl
  have hq : ((List.range (a.Credentials.length * 4)).map fun q => ((dasCredential (a.Credentials.getD (q / 4) zCredential)).getD (q % 4) (.val undef)).dc)[k * 4 + 3]? = some (.val (.bool (a.Credentials.getD k zCredential).Cut)) := by
    rw [List.getElem?_map, List.getElem?_range (by omega), Option.map_some, show (k * 4 + 3) / 4 = k by omega, show (k * 4 + 3) % 4 = 3 by omega]
    simp [dasCredential, Da.dc]
  obtain ⟨v, hv, hs⟩ := h2 _ _ hq
  simp only [Shs] at hs
  rw [hc _ (by omega), hv, hs]
noncomputable def uncuC (a : Fx.Account) (h : Int) (B : Nat) (A : Option Addr) (c : Nat) : Orc := ⟨fun _ _ _ => none, fun id vs _ => match id with
  | 20016 => some ⟨[], .agg [.val (.int .i64 a.Id), .val (.int .i64 a.Minimum), .val (.slice A a.Credentials.length c)], []⟩
  | 20032 => some ⟨[], .one (.val (.int .i64 (findC a.Credentials h))), []⟩
  | 30016 => some ⟨[], .agg [.val (.int .i64 a.Id), .val (.int .i64 a.Minimum), .val (.slice A a.Credentials.length c)], []⟩
  | 30024 => some ⟨[], .one (.val (.bool (vac a))), []⟩
  | 30104 => some ⟨[], .one (.val (.slice A a.Credentials.length c)), []⟩
  | 30136 => some ⟨[], .one (.val (.bool (a.Credentials.getD (findC a.Credentials h).toNat zCredential).Cut)), []⟩
  | 50024 => some ⟨[], .one (.val (.slice A a.Credentials.length c)), []⟩
  | _ => none, AtA a B A c⟩
noncomputable def uncuC0 (a : Fx.Account) (B : Nat) (A : Option Addr) (c : Nat) : Orc := ⟨fun _ _ _ => none, fun id vs _ => match id with
  | 20016 => some ⟨[], .agg [.val (.int .i64 a.Id), .val (.int .i64 a.Minimum), .val (.slice A a.Credentials.length c)], []⟩
  | 20032 => some ⟨[], .one (.val (.int .i64 (-1))), []⟩
  | 30016 => some ⟨[], .agg [.val (.int .i64 a.Id), .val (.int .i64 a.Minimum), .val (.slice A a.Credentials.length c)], []⟩
  | 30024 => some ⟨[], .one (.val (.bool (vac a))), []⟩
  | _ => none, AtA a B A c⟩
noncomputable def unPtr (a : Fx.Account) (h : Int) (g off : Nat) : Value := match cutB a h with | true => .pointer (some ⟨g, off + ((findC a.Credentials h).toNat * 4 + 0), none⟩) | false => .pointer none
theorem wpUncut (a : Fx.Account) (h : Int) (B g off c : Nat) (hn : a.Credentials.length ≤ 16000000) (ho : ∀ x ∈ a.Credentials, Credential.ok x) : awp Tryz.prog (uncuC a h B (some ⟨g, off, none⟩) c) (noLoops) (Tryz.f55.body.getD .skip) ⟨[.one (.val (.pointer (some ⟨B, 0, none⟩))), .one (.val (.int .i64 h))] ++ List.replicate (Tryz.f55.ntmps - ([.one (.val (.pointer (some ⟨B, 0, none⟩))), .one (.val (.int .i64 h))] : List AV).length) (.one (.val undef)), fun _ => .un⟩ (retK Tryz.prog Tryz.f55.results.toList [(false, [.val (unPtr a h g off)]), bV (cutB a h)]) := by
  have hh_ : (Cust Tryz.prog (AtA a B (some { block := g, off := off }) c) 20016 (opOf (Tryz.f55.body.getD Code.skip) 1 2) [AV.one (Sc.val (Value.pointer (some { block := B, off := 0 })))] [] { need := [], val := AV.agg [Sc.val (vI a.Id), Sc.val (vI a.Minimum), Sc.val (Value.slice (some { block := g, off := off }) a.Credentials.length c)], mem := [] } ∧ (Cust Tryz.prog (AtA a B (some { block := g, off := off }) c) 20032 (opOf (Tryz.f55.body.getD Code.skip) 1 4) [AV.one (Sc.val (Value.func (Fn.func 95) { toList := [] } { toList := [] })), AV.agg [Sc.val (vI a.Id), Sc.val (vI a.Minimum), Sc.val (Value.slice (some { block := g, off := off }) a.Credentials.length c)], AV.one (Sc.val (vI h))] [] { need := [], val := AV.one (Sc.val (vI (findC a.Credentials h))), mem := [] } ∧ bcase (!vac a) (Cust Tryz.prog (AtA a B (some { block := g, off := off }) c) 30016 (opOf (Tryz.f55.body.getD Code.skip) 2 2) [AV.one (Sc.val (Value.pointer (some { block := B, off := 0 })))] [] { need := [], val := AV.agg [Sc.val (vI a.Id), Sc.val (vI a.Minimum), Sc.val (Value.slice (some { block := g, off := off }) a.Credentials.length c)], mem := [] } ∧ (Cust Tryz.prog (AtA a B (some { block := g, off := off }) c) 30024 (opOf (Tryz.f55.body.getD Code.skip) 2 3) [AV.one (Sc.val (Value.func (Fn.func 96) { toList := [] } { toList := [] })), AV.agg [Sc.val (vI a.Id), Sc.val (vI a.Minimum), Sc.val (Value.slice (some { block := g, off := off }) a.Credentials.length c)]] [] { need := [], val := AV.one (Sc.val (Value.bool (vac a))), mem := [] } ∧ ((!vac a) = true ∧ (true = true ∧ ((false = false ∧ Value.pointer none = unPtr a h g off) ∧ (false = false ∧ Value.bool false = Value.bool (cutB a h))))))) (bcase (decide (findC a.Credentials h < 0)) (Cust Tryz.prog (AtA a B (some { block := g, off := off }) c) 30016 (opOf (Tryz.f55.body.getD Code.skip) 2 2) [AV.one (Sc.val (Value.pointer (some { block := B, off := 0 })))] [] { need := [], val := AV.agg [Sc.val (vI a.Id), Sc.val (vI a.Minimum), Sc.val (Value.slice (some { block := g, off := off }) a.Credentials.length c)], mem := [] } ∧ (Cust Tryz.prog (AtA a B (some { block := g, off := off }) c) 30024 (opOf (Tryz.f55.body.getD Code.skip) 2 3) [AV.one (Sc.val (Value.func (Fn.func 96) { toList := [] } { toList := [] })), AV.agg [Sc.val (vI a.Id), Sc.val (vI a.Minimum), Sc.val (Value.slice (some { block := g, off := off }) a.Credentials.length c)]] [] { need := [], val := AV.one (Sc.val (Value.bool (vac a))), mem := [] } ∧ ((!vac a) = false ∧ (decide (findC a.Credentials h < 0) = true ∧ ((false = false ∧ Value.pointer none = unPtr a h g off) ∧ (false = false ∧ Value.bool false = Value.bool (cutB a h))))))) (Cust Tryz.prog (AtA a B (some { block := g, off := off }) c) 30016 (opOf (Tryz.f55.body.getD Code.skip) 2 2) [AV.one (Sc.val (Value.pointer (some { block := B, off := 0 })))] [] { need := [], val := AV.agg [Sc.val (vI a.Id), Sc.val (vI a.Minimum), Sc.val (Value.slice (some { block := g, off := off }) a.Credentials.length c)], mem := [] } ∧ (Cust Tryz.prog (AtA a B (some { block := g, off := off }) c) 30024 (opOf (Tryz.f55.body.getD Code.skip) 2 3) [AV.one (Sc.val (Value.func (Fn.func 96) { toList := [] } { toList := [] })), AV.agg [Sc.val (vI a.Id), Sc.val (vI a.Minimum), Sc.val (Value.slice (some { block := g, off := off }) a.Credentials.length c)]] [] { need := [], val := AV.one (Sc.val (Value.bool (vac a))), mem := [] } ∧ ((!vac a) = false ∧ (decide (findC a.Credentials h < 0) = false ∧ (Cust Tryz.prog (AtA a B (some { block := g, off := off }) c) 30104 (opOf (Tryz.f55.body.getD Code.skip) 2 13) [AV.one (Sc.val (Value.pointer (some { block := B, off := 2 })))] [] { need := [], val := AV.one (Sc.val (Value.slice (some { block := g, off := off }) a.Credentials.length c)), mem := [] } ∧ ((0 ≤ findC a.Credentials h ∧ findC a.Credentials h < (↑a.Credentials.length : Int)) ∧ (Cust Tryz.prog (AtA a B (some { block := g, off := off }) c) 30136 (opOf (Tryz.f55.body.getD Code.skip) 2 17) [AV.one (Sc.val (Value.pointer (some { block := g, off := off + ((findC a.Credentials h).toNat * 4 + 0) + 3 })))] [] { need := [], val := AV.one (Sc.val (Value.bool (a.Credentials.getD (findC a.Credentials h).toNat zCredential).Cut)), mem := [] } ∧ bcase ((a.Credentials.getD (findC a.Credentials h).toNat zCredential).Cut) ((false = false ∧ Value.pointer none = unPtr a h g off) ∧ (false = false ∧ Value.bool false = Value.bool (cutB a h))) (Cust Tryz.prog (AtA a B (some { block := g, off := off }) c) 50024 (opOf (Tryz.f55.body.getD Code.skip) 4 3) [AV.one (Sc.val (Value.pointer (some { block := B, off := 2 })))] [] { need := [], val := AV.one (Sc.val (Value.slice (some { block := g, off := off }) a.Credentials.length c)), mem := [] } ∧ ((0 ≤ findC a.Credentials h ∧ findC a.Credentials h < (↑a.Credentials.length : Int)) ∧ ((false = false ∧ Value.pointer (some { block := g, off := off + ((findC a.Credentials h).toNat * 4 + 0) }) = unPtr a h g off) ∧ (false = false ∧ Value.bool true = Value.bool (cutB a h))))))))))))))) = (awp Tryz.prog (uncuC a h B (some ⟨g, off, none⟩) c) (noLoops) (Tryz.f55.body.getD .skip) ⟨[.one (.val (.pointer (some ⟨B, 0, none⟩))), .one (.val (.int .i64 h))] ++ List.replicate (Tryz.f55.ntmps - ([.one (.val (.pointer (some ⟨B, 0, none⟩))), .one (.val (.int .i64 h))] : List AV).length) (.one (.val undef)), fun _ => .un⟩ (retK Tryz.prog Tryz.f55.results.toList [(false, [.val (unPtr a h g off)]), bV (cutB a h)])) := by kernel_rfl
  rw [← hh_]
  clear hh_
  refine ⟨?g0, ?g1, bcase_intro (fun h2 => ⟨?g3, ?g4, h2, rfl, ⟨rfl, ?g5⟩, rfl, congrArg _ ?g6⟩) (fun h2 => bcase_intro (fun h7 => ⟨?g8, ?g9, h2, h7, ⟨rfl, ?g10⟩, rfl, congrArg _ ?g11⟩) (fun h7 => ⟨?g12, ?g13, h2, h7, ?g14, ⟨?g15, ?g16⟩, ?g17, bcase_intro (fun h18 => ⟨⟨rfl, ?g19⟩, rfl, congrArg _ ?g20⟩) (fun h18 => ⟨?g21, ⟨?g22, ?g23⟩, ⟨rfl, ?g24⟩, rfl, congrArg _ ?g25⟩)⟩))⟩
  case g0 | g3 | g8 | g12 => exact cust_loadP (r := true) (us := [.int .i64 a.Id, .int .i64 a.Minimum, .slice (some ⟨g, off, none⟩) a.Credentials.length c]) rfl (by kernel_rfl) (by kernel_rfl) (fun h => by cases h) (fun W hW => AtA.cells hW) rfl
  case g4 | g9 | g13 => exact cust_plain (us := [.agg #[.int .i64 a.Id, .int .i64 a.Minimum, .slice (some ⟨g, off, none⟩) a.Credentials.length c]]) (u := .bool (vac a)) rfl rfl (con_enters Tryz.func96 (by kernel_rfl) (by kernel_rfl)) rfl rfl fun W0 w hold hb => con_plain (conVac a hn ho) (us := [.bool (vac a)]) rfl (arg_agg (dasAccount_dc a) (AtA.shs hold hb) arg_nil)
  case g1 => exact cust_plain (us := [.agg #[.int .i64 a.Id, .int .i64 a.Minimum, .slice (some ⟨g, off, none⟩) a.Credentials.length c], .int .i64 h]) (u := .int .i64 (findC a.Credentials h)) rfl rfl (con_enters Tryz.func95 (by kernel_rfl) (by kernel_rfl)) rfl rfl fun W0 w hold hb => con_plain (conFnd a h hn) (us := [.int .i64 (findC a.Credentials h)]) rfl (arg_agg (dasAccount_dc a) (AtA.shs hold hb) (arg_val arg_nil))
  case g14 | g21 => exact cust_loadP (r := false) (us := [.slice (some ⟨g, off, none⟩) a.Credentials.length c]) rfl (by kernel_rfl) (by kernel_rfl) (fun _ => rfl) (fun W hW => ⟨(AtA.cells hW).1, fun j v hj => by
      match j, hj with
      | 0, hj => cases hj; exact (AtA.cells hW).2 2 _ rfl⟩) rfl
  case g5 | g6 =>
    have eb := cutB_v (h := h) (show vac a = false by simpa using h2)
    first | exact eb.symm | (unfold unPtr; rw [eb])
  all_goals have hv : vac a = true := by simpa using h2
  case g10 | g11 =>
    have eb := cutB_n (of_decide_eq_true h7)
    first | exact eb.symm | (unfold unPtr; rw [eb])
  all_goals
    have h7 := of_decide_eq_false h7
    obtain ⟨k, hk1, hk2, hk3⟩ := pos_of h7
    have hb := cutB_p hv h7
  case g15 | g16 | g22 | g23 => omega
  case g17 =>
    refine cust_loadP (r := false) (us := [.bool (a.Credentials.getD (findC a.Credentials h).toNat zCredential).Cut]) rfl (by kernel_rfl) (by kernel_rfl) (fun _ => rfl) (fun W hW => ?_) rfl
    obtain ⟨q1, q2⟩ := AtA.elem hW (k := (findC a.Credentials h).toNat) (by omega)
    refine ⟨q1, fun j v hj => ?_⟩
    match j, hj with
    | 0, hj => cases hj; rw [show off + ((findC a.Credentials h).toNat * 4 + 0) + 3 + 0 = off + ((findC a.Credentials h).toNat * 4 + 3) by omega]; exact q2
  case g19 | g20 =>
    rw [h18] at hb
    have eb : cutB a h = false := hb
    first | exact eb.symm | (unfold unPtr; rw [eb])
  all_goals
    rw [h18] at hb
    have eb : cutB a h = true := hb
    first | exact eb.symm | (unfold unPtr; rw [eb])
theorem wpUncut0 (a : Fx.Account) (h : Int) (B : Nat) (A : Option Addr) (c : Nat) (he : a.Credentials = []) (hn : a.Credentials.length ≤ 16000000) (ho : ∀ x ∈ a.Credentials, Credential.ok x) : awp Tryz.prog (uncuC0 a B A c) (noLoops) (Tryz.f55.body.getD .skip) ⟨[.one (.val (.pointer (some ⟨B, 0, none⟩))), .one (.val (.int .i64 h))] ++ List.replicate (Tryz.f55.ntmps - ([.one (.val (.pointer (some ⟨B, 0, none⟩))), .one (.val (.int .i64 h))] : List AV).length) (.one (.val undef)), fun _ => .un⟩ (retK Tryz.prog Tryz.f55.results.toList [(false, [.val (.pointer none)]), bV false]) := by
  have hh_ : (Cust Tryz.prog (AtA a B A c) 20016 (opOf (Tryz.f55.body.getD Code.skip) 1 2) [AV.one (Sc.val (Value.pointer (some { block := B, off := 0 })))] [] { need := [], val := AV.agg [Sc.val (vI a.Id), Sc.val (vI a.Minimum), Sc.val (Value.slice A a.Credentials.length c)], mem := [] } ∧ (Cust Tryz.prog (AtA a B A c) 20032 (opOf (Tryz.f55.body.getD Code.skip) 1 4) [AV.one (Sc.val (Value.func (Fn.func 95) { toList := [] } { toList := [] })), AV.agg [Sc.val (vI a.Id), Sc.val (vI a.Minimum), Sc.val (Value.slice A a.Credentials.length c)], AV.one (Sc.val (vI h))] [] { need := [], val := AV.one (Sc.val (vI (-1))), mem := [] } ∧ bcase (!vac a) (Cust Tryz.prog (AtA a B A c) 30016 (opOf (Tryz.f55.body.getD Code.skip) 2 2) [AV.one (Sc.val (Value.pointer (some { block := B, off := 0 })))] [] { need := [], val := AV.agg [Sc.val (vI a.Id), Sc.val (vI a.Minimum), Sc.val (Value.slice A a.Credentials.length c)], mem := [] } ∧ (Cust Tryz.prog (AtA a B A c) 30024 (opOf (Tryz.f55.body.getD Code.skip) 2 3) [AV.one (Sc.val (Value.func (Fn.func 96) { toList := [] } { toList := [] })), AV.agg [Sc.val (vI a.Id), Sc.val (vI a.Minimum), Sc.val (Value.slice A a.Credentials.length c)]] [] { need := [], val := AV.one (Sc.val (Value.bool (vac a))), mem := [] } ∧ ((!vac a) = true ∧ (true = true ∧ ((false = false ∧ Value.pointer none = Value.pointer none) ∧ (false = false ∧ Value.bool false = Value.bool false)))))) (Cust Tryz.prog (AtA a B A c) 30016 (opOf (Tryz.f55.body.getD Code.skip) 2 2) [AV.one (Sc.val (Value.pointer (some { block := B, off := 0 })))] [] { need := [], val := AV.agg [Sc.val (vI a.Id), Sc.val (vI a.Minimum), Sc.val (Value.slice A a.Credentials.length c)], mem := [] } ∧ (Cust Tryz.prog (AtA a B A c) 30024 (opOf (Tryz.f55.body.getD Code.skip) 2 3) [AV.one (Sc.val (Value.func (Fn.func 96) { toList := [] } { toList := [] })), AV.agg [Sc.val (vI a.Id), Sc.val (vI a.Minimum), Sc.val (Value.slice A a.Credentials.length c)]] [] { need := [], val := AV.one (Sc.val (Value.bool (vac a))), mem := [] } ∧ ((!vac a) = false ∧ (true = true ∧ ((false = false ∧ Value.pointer none = Value.pointer none) ∧ (false = false ∧ Value.bool false = Value.bool false)))))))) = (awp Tryz.prog (uncuC0 a B A c) (noLoops) (Tryz.f55.body.getD .skip) ⟨[.one (.val (.pointer (some ⟨B, 0, none⟩))), .one (.val (.int .i64 h))] ++ List.replicate (Tryz.f55.ntmps - ([.one (.val (.pointer (some ⟨B, 0, none⟩))), .one (.val (.int .i64 h))] : List AV).length) (.one (.val undef)), fun _ => .un⟩ (retK Tryz.prog Tryz.f55.results.toList [(false, [.val (.pointer none)]), bV false])) := by kernel_rfl
  rw [← hh_]
  clear hh_
  refine ⟨?g0, ?g1, bcase_intro (fun h2 => ⟨?g3, ?g4, h2, rfl, ⟨rfl, rfl⟩, rfl, rfl⟩) (fun h2 => ⟨?g5, ?g6, h2, rfl, ⟨rfl, rfl⟩, rfl, rfl⟩)⟩
  case g0 | g3 | g5 => exact cust_loadP (r := true) (us := [.int .i64 a.Id, .int .i64 a.Minimum, .slice A a.Credentials.length c]) rfl (by kernel_rfl) (by kernel_rfl) (fun h => by cases h) (fun W hW => AtA.cells hW) rfl
  case g4 | g6 => exact cust_plain (us := [.agg #[.int .i64 a.Id, .int .i64 a.Minimum, .slice A a.Credentials.length c]]) (u := .bool (vac a)) rfl rfl (con_enters Tryz.func96 (by kernel_rfl) (by kernel_rfl)) rfl rfl fun W0 w hold hb => con_plain (conVac a hn ho) (us := [.bool (vac a)]) rfl (arg_agg (dasAccount_dc a) (AtA.shs hold hb) arg_nil)
  case g1 => exact cust_plain (us := [.agg #[.int .i64 a.Id, .int .i64 a.Minimum, .slice A a.Credentials.length c], .int .i64 h]) (u := .int .i64 (-1)) rfl rfl (con_enters Tryz.func95 (by kernel_rfl) (by kernel_rfl)) rfl rfl fun W0 w hold hb => by have := con_plain (conFnd a h hn) (us := [.int .i64 (findC a.Credentials h)]) rfl (w := w) (arg_agg (dasAccount_dc a) (AtA.shs hold hb) (arg_val arg_nil)); rw [show findC a.Credentials h = -1 by rw [he]; rfl] at this; exact this
end Go.Proofs.YtialhhdhpjjkaaaGreatDoor.C14k
