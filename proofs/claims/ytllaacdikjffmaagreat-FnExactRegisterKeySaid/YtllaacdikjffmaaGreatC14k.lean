import Derived.Test.YtllaacdikjffmaaGreatC14j
import Derived.Test.YtllaacdikjffmaaGreatIn
namespace Go.Proofs.YtllaacdikjffmaaGreat.C14k
open Go.ChangeShapes Go.WideShapes Go.ChangeAt Go.RowKit
open S0 S1 S9 Dm Fx M8 M18 E0 E1 E2 E3 E4 E7 E10 E15 E16 E17 E18 E19 E20 E21 E22 E24 Das C14i C14j
set_option linter.unusedVariables false
set_option linter.unusedSimpArgs false
set_option maxRecDepth 100000
theorem are_c (w : World) (n b : Nat) (i m : Int) (l : List Cr) (hn : l.length ≤ 16000000) (ho : ∀ x ∈ l, Credential.ok x) (hat : LentAt w n b 52 (cellsA i m l)) :
    Calls Tryz.prog 87 #[.func (.func 88) #[.pointer (some ⟨b, 0, none⟩)] #[]] w fun e w' => e = .returned (.bool (okCs l)) ∧ w.grownBy w' (some b) := by
  obtain ⟨vs, hb, hcs⟩ := hat.is
  have hΦ : NextT (trunc w n) i m l 0 [] (nextV b) [b] w := ⟨b, vs, rfl, rfl, hb, hcs⟩
  refine (fun_go (us := []) (areC (trunc w n) i m l) (areL (trunc w n) i m l) Tryz.func87 (by kernel_rfl) (by kernel_rfl) rfl hΦ (fun w1 w2 h => BoundAt.firm _ _ w1 w2 h) hat.lo hat.lt rfl (fun R hR => wpAre (trunc w n) i m l b hn ho R hR)).mono ?_
  rintro e w' ⟨vs', bs, rfl, hres, -, hg⟩
  obtain ⟨rfl, rfl⟩ := plainGs_ok (us := [.bool (okCs l)]) rfl hres
  exact ⟨rfl, hg⟩
noncomputable def vacC (W : World) (a : Fx.Account) : Orc := ⟨fun d _ _ => match d with | some 5 => some [bV (inB a.Id 0 1000000)] | some 9 => some [bV (inB a.Minimum 1 3)] | _ => none, fun id vs _ => match id with
  | 20120 => (match vs with | [.one (.ptr q _)] => some ⟨[], .one (.own 20120), [(q, .gone), (20120, .tab 0 [] (NextT W a.Id a.Minimum a.Credentials))]⟩ | _ => none)
  | 20128 => (match vs with | [_, .one (.own q)] => some ⟨[], .one (.val (.bool (okCs a.Credentials))), [(q, .gone)]⟩ | _ => none)
  | _ => none, fun w => w = W⟩
theorem conVac (a : Fx.Account) (hn : a.Credentials.length ≤ 16000000) (ho : ∀ x ∈ a.Credentials, Credential.ok x) : FnCon Tryz.prog 59 ([(true, dasAccount a)]) ([bV (vac a)]) := by
  refine E24.fn_goW (p := fun W => bcase (inB a.Id 0 1000000) (bcase (inB a.Minimum 1 3) (bcase (decide ((↑a.Credentials.length : Int) ≤ 8)) (FnCon Tryz.prog 69 [(false, [dI (a.Id)]), (false, [dI (0)]), (false, [dI (1000000)])] [(false, [dB ((inB a.Id 0 1000000))])] ∧ (inB a.Id 0 1000000 = true ∧ (FnCon Tryz.prog 86 [(false, [dI (a.Minimum)])] [(false, [dB ((inB a.Minimum 1 3))])] ∧ (inB a.Minimum 1 3 = true ∧ (decide ((↑a.Credentials.length : Int) ≤ 8) = true ∧ ((Cust Tryz.prog (fun w => w = W) 20120 (opOf (Tryz.f59.body.getD Code.skip) 1 15) [AV.one (Sc.ptr 10000 0)] [Ob.var 52 [Sc.val (vI a.Id), Sc.val (vI a.Minimum), Sc.old (rowR 81 4 dasCredential zCredential a.Credentials)]] { need := [], val := AV.one (Sc.own 20120), mem := [(10000, Ob.gone), (20120, Ob.tab 0 [] (NextT W a.Id a.Minimum a.Credentials))] }) ∧ ((Cust Tryz.prog (fun w => w = W) 20128 (opOf (Tryz.f59.body.getD Code.skip) 1 16) [AV.one (Sc.val (Value.func (Fn.func 87) { toList := [] } { toList := [] })), AV.one (Sc.own 20120)] [Ob.tab 0 [] (NextT W a.Id a.Minimum a.Credentials)] { need := [], val := AV.one (Sc.val (Value.bool (okCs a.Credentials))), mem := [(20120, Ob.gone)] }) ∧ (false = false ∧ Value.bool (okCs a.Credentials) = Value.bool (vac a))))))))) (FnCon Tryz.prog 69 [(false, [dI (a.Id)]), (false, [dI (0)]), (false, [dI (1000000)])] [(false, [dB ((inB a.Id 0 1000000))])] ∧ (inB a.Id 0 1000000 = true ∧ (FnCon Tryz.prog 86 [(false, [dI (a.Minimum)])] [(false, [dB ((inB a.Minimum 1 3))])] ∧ (inB a.Minimum 1 3 = true ∧ (decide ((↑a.Credentials.length : Int) ≤ 8) = false ∧ (false = false ∧ Value.bool false = Value.bool (vac a)))))))) (FnCon Tryz.prog 69 [(false, [dI (a.Id)]), (false, [dI (0)]), (false, [dI (1000000)])] [(false, [dB ((inB a.Id 0 1000000))])] ∧ (inB a.Id 0 1000000 = true ∧ (FnCon Tryz.prog 86 [(false, [dI (a.Minimum)])] [(false, [dB ((inB a.Minimum 1 3))])] ∧ (inB a.Minimum 1 3 = false ∧ (false = false ∧ (false = false ∧ Value.bool false = Value.bool (vac a)))))))) (FnCon Tryz.prog 69 [(false, [dI (a.Id)]), (false, [dI (0)]), (false, [dI (1000000)])] [(false, [dB ((inB a.Id 0 1000000))])] ∧ (inB a.Id 0 1000000 = false ∧ (false = false ∧ (false = false ∧ (false = false ∧ Value.bool false = Value.bool (vac a))))))) (fun W => vacC W a) (noLoops) Tryz.func59 (by kernel_rfl) (by kernel_rfl) (by kernel_rfl) (fun _ => rfl) (by kernel_rfl) ?_
  intro W
  refine bcase_intro (fun h0 => bcase_intro (fun h1 => bcase_intro (fun h2 => ⟨(conIn _ _ _), h0, (conIsM _), h1, h2, ?g5, ?g6, rfl, congrArg _ ?g7⟩) (fun h2 => ⟨(conIn _ _ _), h0, (conIsM _), h1, h2, rfl, congrArg _ ?g10⟩)) (fun h1 => ⟨(conIn _ _ _), h0, (conIsM _), h1, rfl, rfl, congrArg _ ?g13⟩)) (fun h0 => ⟨(conIn _ _ _), h0, rfl, rfl, rfl, congrArg _ ?g15⟩)
  case g5 => exact cust_bound rfl rfl rfl
  case g6 => exact cust_bfun (u := .bool (okCs a.Credentials)) rfl rfl (con_enters Tryz.func87 (by kernel_rfl) (by kernel_rfl)) rfl (cs := cellsA a.Id a.Minimum a.Credentials) rfl rfl rfl fun w n b hat => are_c w n b _ _ _ hn ho hat
  case g7 => unfold vac; rw [h0, h1, decide_eq_true (show a.Credentials.length ≤ 8 by have := of_decide_eq_true h2; omega)]; rfl
  case g10 => unfold vac; rw [decide_eq_false (show ¬ a.Credentials.length ≤ 8 by have := of_decide_eq_false h2; omega)]; simp
  case g13 => unfold vac; rw [h1]; simp
  case g15 => unfold vac; rw [h0]; rfl
structure CapI (g : Nat) (i : Int) (v : Value) (bs : List Nat) (w : World) : Prop where
  is : ∃ b T, v = .func (.func g) #[] #[.pointer (some ⟨b, 0, none⟩)] ∧ bs = [b] ∧ w.heap[b]? = some (.cells #[.int .i64 i] T (0, 0))
theorem CapI.firm {g : Nat} {i : Int} (v : Value) (bs : List Nat) (w1 w2 : World) (hk : ∀ b, b ∈ bs → w2.heap[b]? = w1.heap[b]?) (h : CapI g i v bs w1) : CapI g i v bs w2 := by
  obtain ⟨b, T, rfl, rfl, hb⟩ := h.is
  exact ⟨b, T, rfl, rfl, (hk b (by simp)).trans hb⟩
theorem cust_capture {old : World → Prop} {id q g : Nat} {o : Oper} {x : Operand} {T : TypeId} {i : Int} (ho : o.op = .makeFunc (.func g) #[] #[x]) :
    Cust Tryz.prog old id o [.one (.ptr q 0)] [.var T [.val (.int .i64 i)]] ⟨[], .one (.own id), [(q, .gone), (id, .abs (CapI g i))]⟩ :=
  cust_val fun W0 obs ρ a w hold hm hv hos hun hn => by
    have hops : o.op.operands.toList = [x] := by rw [ho]; simp [Op.operands]
    rw [hops] at hv
    obtain ⟨v1, s1, e1, k1, k2⟩ := hv
    obtain ⟨ex, -⟩ : a.eval x = v1 ∧ True := by simp at e1; exact ⟨e1.1, trivial⟩
    have hq : obs q = .var T [.val (.int .i64 i)] := by simpa [AvIds, ScIds] using hos
    obtain ⟨b, vs, hr, hb1, hb2, hc⟩ := var_of hm hq
    have hv1 := ptr_of (W0 := W0) k1 hr
    obtain rfl := plain_cs (us := [.int .i64 i]) rfl hc
    have hin := hm.in_ hr
    refine ⟨.func (.func g) #[] #[.pointer (some ⟨b, 0, none⟩)], w, ?_, post_move (bs' := [b]) hm hr (hun id (Nat.le_refl _) (by omega)) (turned_refl w _) rfl (fun b hb => .inl hb) (by simp) (ob_abs ⟨b, T, rfl, rfl, hb2⟩ (fun b' hb' => hin b' hb') (CapI.firm _ _))⟩
    unfold execOp
    rw [ho]
    simp [Instr.makeFunc, ex, hv1]
structure BoxI (bx : Nat) (i : Int) (w : World) : Prop where
  is : bx < w.heap.size ∧ w.cell? ⟨bx, 0, none⟩ = some (.int .i64 i)
theorem BoxI.on {bx : Nat} {i : Int} {W w : World} (h : BoxI bx i W) (hb : Below W.heap.size W w) : BoxI bx i w := ⟨Nat.lt_of_lt_of_le h.is.1 hb.size, by rw [World.cell?_of_block (w := W) (hb.block bx h.is.1)]; exact h.is.2⟩
/-- An account's variable at block B, as it lies in a world. -/
structure AtA (a : Fx.Account) (B : Nat) (A : Option Addr) (c : Nat) (w : World) : Prop where
  blk : w.heap[B]? = some (.cells #[.int .i64 a.Id, .int .i64 a.Minimum, .slice A a.Credentials.length c] 52 (0, 0))
  row : Shs w w.heap.size (rowR 81 4 dasCredential zCredential a.Credentials).dc (.slice A a.Credentials.length c)
theorem AtA.cells {a : Fx.Account} {B : Nat} {A : Option Addr} {c : Nat} {w : World} (h : AtA a B A c w) : B < w.heap.size ∧ ∀ j v, [Value.int .i64 a.Id, .int .i64 a.Minimum, .slice A a.Credentials.length c][j]? = some v → w.cell? ⟨B, 0 + j, none⟩ = some v :=
  ⟨(Array.getElem?_eq_some_iff.1 h.blk).1, fun j v hj => by rw [Nat.zero_add, cell_of_row w B j _ _ _ h.blk]; simpa using hj⟩
theorem AtA.elem {a : Fx.Account} {B g off c : Nat} {w : World} (h : AtA a B (some ⟨g, off, none⟩) c w) {k : Nat} (hk : k < a.Credentials.length) : g < w.heap.size ∧ w.cell? ⟨g, off + (k * 4 + 3), none⟩ = some (.bool (a.Credentials.getD k zCredential).Cut) := by
  have hh := h.row
  simp only [Da.dc, Shs] at hh
  obtain ⟨A, c', vs, e, hr, hl, _⟩ := hh
  injection e with e1 _ _
  subst e1
  obtain ⟨b, o2, e2, hlt, hc⟩ := hr.2 (by omega)
  injection e2 with e2
  injection e2 with e3 e4 _
  subst e3 e4
  refine ⟨hlt, ?_⟩
  obtain ⟨h1, h2⟩ := rdsL_get hl
  have hq : ((List.range (a.Credentials.length * 4)).map fun q => ((dasCredential (a.Credentials.getD (q / 4) zCredential)).getD (q % 4) (.val undef)).dc)[k * 4 + 3]? = some (.val (.bool (a.Credentials.getD k zCredential).Cut)) := by
    rw [List.getElem?_map, List.getElem?_range (by omega), Option.map_some, show (k * 4 + 3) / 4 = k by omega, show (k * 4 + 3) % 4 = 3 by omega]
    simp [dasCredential, Da.dc]
  obtain ⟨v, hv, hs⟩ := h2 _ _ hq
  simp only [Shs] at hs
  rw [hc _ (by omega), hv, hs]
end Go.Proofs.YtllaacdikjffmaaGreat.C14k
