import Derived.Test.YtjkmcnnkifachaaT12i
import Derived.Test.YtjkmcnnkifachaaMc
import Derived.Test.YtjkmcnnkifachaaMk
import Derived.Test.YtjkmcnnkifachaaMr
namespace Go.Proofs.Ytjkmcnnkifachaa.T12j
open Go.ChangeShapes Go.WideShapes Go.ChangeAt Go.RowKit
open S0 S1 S9 Dm Fx M3 C3 C12 C12b C12c E0 E1 E2 E3 E4 E7 E10 E15 E16 E17 E18 E19 E20 Das Mp Mc Mk Mr T12i
set_option linter.unusedVariables false
set_option linter.unusedSimpArgs false
set_option maxRecDepth 100000
def upto (l : List Fx.Challenge) (x : Int) : List Fx.Challenge := l.filter fun y => decide (y.Id ≤ x)
noncomputable def fnd (l : List Fx.Challenge) (x : Int) : Fx.Challenge := (l.find? fun y => y.Id == x).getD zChallenge
def inI (l : List Fx.Challenge) : Prop := ∀ x ∈ l, -9223372036854775808 ≤ x.Id ∧ x.Id ≤ 9223372036854775807
theorem upto_at {l : List Fx.Challenge} (h : Asc l) {k : Nat} (hk : k < l.length) : upto l (l.getD k zChallenge).Id = l.take (k + 1) := by
  induction l generalizing k with
  | nil => simp at hk
  | cons x l ih =>
    have h' := List.pairwise_cons.1 h
    cases k with
    | zero =>
      unfold upto
      rw [List.filter_cons_of_pos (by simp), List.filter_eq_nil_iff.2 (fun y hy => by have := h'.1 y hy; simp; omega)]
      rfl
    | succ k =>
      have hk' : k < l.length := by simpa using hk
      have hm : l.getD k zChallenge ∈ l := by rw [List.getD_eq_getElem?_getD, List.getElem?_eq_getElem hk']; exact List.getElem_mem hk'
      have h3 : x.Id < (l.getD k zChallenge).Id := h'.1 _ hm
      have e := ih h'.2 hk'
      unfold upto at e ⊢
      rw [List.getD_cons_succ, List.filter_cons_of_pos (by simpa using Int.le_of_lt h3), e]
      rfl
theorem fnd_at {l : List Fx.Challenge} (h : Asc l) {k : Nat} (hk : k < l.length) : fnd l (l.getD k zChallenge).Id = l.getD k zChallenge := by
  have hm : l.getD k zChallenge ∈ l := by rw [List.getD_eq_getElem?_getD, List.getElem?_eq_getElem hk]; exact List.getElem_mem hk
  unfold fnd
  rw [asc_find h hm]
  rfl
theorem take_at {l : List Fx.Challenge} {k : Nat} (hk : k < l.length) : l.take (k + 1) = l.take k ++ [l.getD k zChallenge] := by
  rw [List.take_add_one]
  simp [List.getElem?_eq_getElem hk]
def BoxI (w : World) (bx : Nat) (i : Int) : Prop := w.cell? ⟨bx, 0, none⟩ = some (.int .i64 i)
structure KeysFn (b : Nat) (v : Value) (bs : List Nat) (w : World) : Prop where
  is : ∃ bx, v = .func (.func 67) #[] #[.pointer (some ⟨bx, 0, none⟩)] ∧ bs = [bx] ∧ w.heap[bx]? = some (.cells #[.map (some b)] 60 (0, 0))
theorem KeysFn.firm {b : Nat} (v : Value) (bs : List Nat) (w1 w2 : World) (hk : ∀ b, b ∈ bs → w2.heap[b]? = w1.heap[b]?) (h : KeysFn b v bs w1) : KeysFn b v bs w2 := by
  obtain ⟨bx, rfl, rfl, hb⟩ := h.is
  exact ⟨bx, rfl, rfl, (hk bx (by simp)).trans hb⟩
theorem lies_on {W0 w : World} {b n : Nat} {l : List Fx.Challenge} (h : Lies W0 b n l) (hb : Below W0.heap.size W0 w) : Lies w b n l := by
  have hl := h.lt
  obtain ⟨es, clock, h1, r⟩ := h
  exact ⟨es, clock, (hb.block b hl).trans h1, r⟩
theorem cust_look {id : Nat} {o : Oper} {x y : Operand} {b n : Nat} {i : Int} {l : List Fx.Challenge} {c : Fx.Challenge} (ho : o.op = .lookup 60 x y false) (i0 : -9223372036854775808 ≤ i) (i1 : i ≤ 9223372036854775807) (hc : c = fnd l i) :
    Cust Try.prog (fun w => Lies w b n l) id o [.one (.val (.map (some b))), .one (.val (.int .i64 i))] [] ⟨[], .agg [.val (.int .i64 c.Id), .val (.int .i64 c.Account), .val (.int .i64 c.Until)], []⟩ :=
  cust_val fun W0 obs ρ a w hold hmm hv hos hun hn => by
    have hops : o.op.operands.toList = [x, y] := by rw [ho]; rfl
    rw [hops] at hv
    obtain ⟨v1, s1, e1, k1, v2, s2, e2, k2, k4⟩ := hv
    subst e2
    obtain ⟨ex, ey, -⟩ : a.eval x = v1 ∧ a.eval y = v2 ∧ True := by simp at e1; exact ⟨e1.1, e1.2.1, trivial⟩
    have h1 : v1 = .map (some b) := k1
    have h2 : v2 = .int .i64 i := k2
    obtain ⟨v, ps, hrun, hR⟩ := (lies_on hold hmm.below).lookup keyI Try.underlying60 (zeroC w) (rC_mk zChallenge) (key_at i0 i1)
    rw [look_at] at hR
    obtain ⟨c', rfl, e⟩ := rC_inv hR
    injection e with e _
    obtain rfl := dcC_inj e
    refine ⟨valC (fnd l i), w, ?_, post_same hmm (Below.refl _ _) ?_⟩
    · unfold execOp
      rw [ho]
      simp only [ex, ey, h1, h2]
      simp [hrun, Result.andThen]
      rfl
    · rw [hc]; exact ⟨_, rfl, cells3 _⟩
theorem cell_on {W0 w : World} {a : Addr} {v : Value} (hb : Below W0.heap.size W0 w) (h : W0.cell? a = some v) : w.cell? a = some v := by
  have hl := World.block_lt_of_cell? W0 a h
  exact (World.cell?_of_block (hb.block a.block hl)).trans h
def byL (l : List Fx.Challenge) : Loops := fun r => match r with
  | 3 => some ⟨{ k : Nat // k ≤ l.length }, fun v sl => only [3, 7, 8, 9] 0 (sl.set 9 (.one (.val (vI v.1)))), fun v _ => [(20000, .abs (MapIs v.1 (l.take v.1)))], fun v => l.length - v.1⟩
  | _ => none
def inL (l : List Fx.Challenge) : Loops := fun r => match r with
  | 3 => some ⟨{ k : Nat // k ≤ l.length }, fun v sl => only [0, 3, 9, 10, 11] 0 ((sl.set 11 (.one (.val (vI v.1)))).set 3 (.one (.own 77))), fun v obs => [(77, .own (rowR 30 3 dasChallenge zChallenge (l.take v.1))), (30016, obs 30016)], fun v => l.length - v.1⟩
  | _ => none
def ixL (l : List Fx.Challenge) (i : Int) : Loops := fun r => match r with
  | 2 => some ⟨{ k : Nat // k ≤ l.length ∧ ∀ j, j < k → (l.getD j zChallenge).Id ≠ i }, fun v sl => only [0, 1, 7, 8] 0 (sl.set 8 (.one (.val (vI v.1)))), fun _ _ => [], fun v => l.length - v.1⟩
  | _ => none
def byC (l : List Fx.Challenge) : Orc := ⟨fun _ _ _ => none, fun id vs _ => match id with
  | 20000 => some ⟨[], .one (.own 20000), [(20000, .abs (MapIs 0 []))]⟩
  | 60032 => (match vs with | [.one (.own q), .one (.val (.int _ x)), _] => some ⟨[], .no, [(q, .abs (MapIs (upto l x).length (upto l x)))]⟩ | _ => none)
  | _ => none, fun _ => True⟩
noncomputable def inC (l : List Fx.Challenge) (b n : Nat) : Orc := ⟨fun _ _ _ => none, fun id vs _ => match id with
  | 30008 => some ⟨[], .one (.own 30008), [(30008, .abs (KeysFn b))]⟩
  | 30016 => some ⟨[], .one (.own 30016), [(30016, .own (numR 3 .i64 (l.map (·.Id))))]⟩
  | 60024 => (match vs with | [_, .one (.val (.int _ x))] => some ⟨[], .agg [.val (vI (fnd l x).Id), .val (vI (fnd l x).Account), .val (vI (fnd l x).Until)], []⟩ | _ => none)
  | _ => none, fun w => Lies w b n l⟩
def ixC (i : Int) (bx : Nat) : Orc := ⟨fun _ _ _ => none, fun id vs _ => match id with
  | 50040 => (match vs with | [_, .agg [.val (.int _ x), _, _]] => some ⟨[], .one (.val (.bool (x == i))), []⟩ | _ => none)
  | _ => none, fun w => BoxI w bx i⟩
theorem wpById (l : List Fx.Challenge) (hn : l.length ≤ 16000000) (ha : Asc l) (hw : inI l) : awp Try.prog (byC l) (byL l) (Try.f42.body.getD .skip) ⟨[.one (.old (rowR 30 3 dasChallenge zChallenge l))] ++ List.replicate (Try.f42.ntmps - ([.one (.old (rowR 30 3 dasChallenge zChallenge l))] : List AV).length) (.one (.val undef)), fun _ => .un⟩ (retA Try.prog Try.f42.results.toList (MapIs l.length l)) := by
  refine wp_go (p := ((Cust Try.prog (fun x => True) 20000 (opOf (Try.f42.body.getD Code.skip) 1 0) [] [] { need := [], val := AV.one (Sc.own 20000), mem := [(20000, Ob.abs (MapIs 0 []))] }) ∧ ((∃ x0 : { k // k ≤ l.length }, ((some 20000 = some 20000 ∧ ((DaEq (rowR 30 3 dasChallenge zChallenge l) (rowR 30 3 dasChallenge zChallenge l)) ∧ (vI (↑l.length : Int) = vI (↑l.length : Int) ∧ (vI 0 = vI (↑x0.1 : Int) ∧ True)))) ∧ (AbsLe (MapIs 0 []) (MapIs x0.1 (List.take x0.1 l)) ∧ True))) ∧ (∀ v : { k // k ≤ l.length }, bcase (decide ((↑v.1 : Int) < (↑l.length : Int))) ((0 ≤ (↑v.1 : Int) ∧ (↑v.1 : Int) < (↑l.length : Int)) ∧ ((Cust Try.prog (fun x => True) 60032 (opOf (Try.f42.body.getD Code.skip) 5 4) [AV.one (Sc.own 20000), AV.one (Sc.val (vI (l.getD (↑v.1 : Int).toNat zChallenge).Id)), AV.agg [Sc.val (vI (l.getD (↑v.1 : Int).toNat zChallenge).Id), Sc.val (vI (l.getD (↑v.1 : Int).toNat zChallenge).Account), Sc.val (vI (l.getD (↑v.1 : Int).toNat zChallenge).Until)]] [Ob.abs (MapIs v.1 (List.take v.1 l))] { need := [], val := AV.no, mem := [(20000, Ob.abs (MapIs (upto l (l.getD (↑v.1 : Int).toNat zChallenge).Id).length (upto l (l.getD (↑v.1 : Int).toNat zChallenge).Id)))] }) ∧ (∃ v' : { k // k ≤ l.length }, (l.length.sub v'.1 < l.length.sub v.1 ∧ ((some 20000 = some 20000 ∧ ((DaEq (rowR 30 3 dasChallenge zChallenge l) (rowR 30 3 dasChallenge zChallenge l)) ∧ (vI (↑l.length : Int) = vI (↑l.length : Int) ∧ (vI (IntKind.i64.wrap ((↑v.1 : Int) + 1)) = vI (↑v'.1 : Int) ∧ True)))) ∧ (AbsLe (MapIs (upto l (l.getD (↑v.1 : Int).toNat zChallenge).Id).length (upto l (l.getD (↑v.1 : Int).toNat zChallenge).Id)) (MapIs v'.1 (List.take v'.1 l)) ∧ True)))))) (AbsLe (MapIs v.1 (List.take v.1 l)) (MapIs l.length l)))))) (by kernel_rfl) ?_
  refine ⟨?g0, ⟨⟨0, Nat.zero_le _⟩, ⟨⟨rfl, DaEq.refl _, rfl, congrArg _ ?g2, trivial⟩, ?g3, trivial⟩⟩, fun v => bcase_intro (fun h4 => ⟨⟨?g5, ?g6⟩, ?g7, ⟨⟨v.1 + 1, ?wa⟩, ⟨?g9, ⟨rfl, DaEq.refl _, rfl, congrArg _ ?g10, trivial⟩, ?g11, trivial⟩⟩⟩) (fun h4 => ?g12)⟩
  case g0 => exact cust_makeMap rfl
  case g2 => rfl
  case g3 => exact ⟨fun _ _ _ h => h, MapIs.firm⟩
  case g12 =>
    have h4 := of_decide_eq_false h4
    rw [show v.1 = l.length by have := v.2; omega, List.take_length]
    exact ⟨fun _ _ _ h => h, MapIs.firm⟩
  all_goals
    have h4 := of_decide_eq_true h4
    have hl : v.1 < l.length := by omega
  case g5 | g6 => omega
  case wa => omega
  case g9 => show l.length - (v.1 + 1) < l.length - v.1; omega
  case g10 => show IntKind.i64.wrap ((v.1 : Int) + 1) = ((v.1 + 1 : Nat) : Int); rw [IntWalk.i64_in _ (by omega)]; rfl
  all_goals
    have hm : l.getD v.1 zChallenge ∈ l := by rw [List.getD_eq_getElem?_getD, List.getElem?_eq_getElem hl]; exact List.getElem_mem hl
    rw [show (↑v.1 : Int).toNat = v.1 from Int.toNat_natCast _, upto_at ha hl]
  case g7 =>
    refine cust_update rfl (hw _ hm).1 (hw _ hm).2 (take_at hl) (asc_take ha _) (by omega) ?_
    rw [List.length_take]; omega
  case g11 =>
    rw [show (l.take (v.1 + 1)).length = v.1 + 1 by rw [List.length_take]; omega]
    exact ⟨fun _ _ _ h => h, MapIs.firm⟩
theorem wpIn (l : List Fx.Challenge) (b n : Nat) (hn : l.length ≤ 16000000) (ha : Asc l) (hw : inI l) : awp Try.prog (inC l b n) (inL l) (Try.f43.body.getD .skip) ⟨[.one (.val (.map (some b)))] ++ List.replicate (Try.f43.ntmps - ([.one (.val (.map (some b)))] : List AV).length) (.one (.val undef)), fun _ => .un⟩ (retK Try.prog Try.f43.results.toList [(false, [rowR 30 3 dasChallenge zChallenge l])]) := by
  refine wp_go (p := ((Cust Try.prog (fun w => Lies w b n l) 30008 (opOf (Try.f43.body.getD Code.skip) 2 1) [AV.one (Sc.val (Value.func (Fn.func 59) { toList := [] } { toList := [] })), AV.one (Sc.val (Value.map (some b)))] [] { need := [], val := AV.one (Sc.own 30008), mem := [(30008, Ob.abs (KeysFn b))] }) ∧ ((Cust Try.prog (fun w => Lies w b n l) 30016 (opOf (Try.f43.body.getD Code.skip) 2 2) [AV.one (Sc.val (Value.func (Fn.func 58) { toList := [] } { toList := [] })), AV.one (Sc.own 30008)] [Ob.abs (KeysFn b)] { need := [], val := AV.one (Sc.own 30016), mem := [(30016, Ob.own (Da.row 3 1 (List.map (fun x => x.Id) l).length fun i x => dI (((List.map (fun x => x.Id) l).getD i 0))))] }) ∧ ((∃ x0 : { k // k ≤ l.length }, ((Value.map (some b) = Value.map (some b) ∧ (some 20000 = some 20000 ∧ (some 30016 = some 30016 ∧ ((vI (↑(List.map (fun x => x.Id) l).length : Int) = vI (↑(List.map (fun x => x.Id) l).length : Int)) ∧ (vI 0 = vI (↑x0.1 : Int) ∧ True))))) ∧ ((DaEq (Da.row 30 3 0 fun i j => Da.val ([].getD (i * 3 + j) undef)) (Da.row 30 3 (List.take x0.1 l).length fun i j => (dasChallenge ((List.take x0.1 l).getD i zChallenge)).getD j (Da.val undef))) ∧ ((DaEq (Da.row 3 1 (List.map (fun x => x.Id) l).length fun i x => dI (((List.map (fun x => x.Id) l).getD i 0))) (Da.row 3 1 (List.map (fun x => x.Id) l).length fun i x => dI (((List.map (fun x => x.Id) l).getD i 0)))) ∧ True)))) ∧ (∀ v : { k // k ≤ l.length }, bcase (decide ((↑v.1 : Int) < (↑(List.map (fun x => x.Id) l).length : Int))) ((0 ≤ (↑v.1 : Int) ∧ ((↑v.1 : Int) < (↑(List.map (fun x => x.Id) l).length : Int))) ∧ ((Cust Try.prog (fun w => Lies w b n l) 60024 (opOf (Try.f43.body.getD Code.skip) 5 3) [AV.one (Sc.val (Value.map (some b))), AV.one (Sc.val (vI ((List.map (fun x => x.Id) l).getD (↑v.1 : Int).toNat 0)))] [] { need := [], val := AV.agg [Sc.val (vI (fnd l ((List.map (fun x => x.Id) l).getD (↑v.1 : Int).toNat 0)).Id), Sc.val (vI (fnd l ((List.map (fun x => x.Id) l).getD (↑v.1 : Int).toNat 0)).Account), Sc.val (vI (fnd l ((List.map (fun x => x.Id) l).getD (↑v.1 : Int).toNat 0)).Until)], mem := [] }) ∧ ((E9.PlainEl 1 3 fun i j => Da.val ([vI (fnd l ((List.map (fun x => x.Id) l).getD (↑v.1 : Int).toNat 0)).Id, vI (fnd l ((List.map (fun x => x.Id) l).getD (↑v.1 : Int).toNat 0)).Account, vI (fnd l ((List.map (fun x => x.Id) l).getD (↑v.1 : Int).toNat 0)).Until].getD (i * 3 + j) undef)) ∧ ((List.take v.1 l).length + 1 ≤ 1000000000000 ∧ (((List.take v.1 l).length + 1) * 24 ≤ 140737488355328 ∧ (∃ v' : { k // k ≤ l.length }, (l.length.sub v'.1 < l.length.sub v.1 ∧ ((Value.map (some b) = Value.map (some b) ∧ (some 60040 = some 60040 ∧ (some 30016 = some 30016 ∧ ((vI (↑(List.map (fun x => x.Id) l).length : Int) = vI (↑(List.map (fun x => x.Id) l).length : Int)) ∧ (vI (IntKind.i64.wrap ((↑v.1 : Int) + 1)) = vI (↑v'.1 : Int) ∧ True))))) ∧ ((DaEq
  (Da.row 30 3 ((List.take v.1 l).length + 1) fun i j =>
    match i.succ.ble (List.take v.1 l).length with
    | true => (dasChallenge ((List.take v.1 l).getD i zChallenge)).getD j (Da.val undef)
    | false => Da.val ([vI (fnd l ((List.map (fun x => x.Id) l).getD (↑v.1 : Int).toNat 0)).Id, vI (fnd l ((List.map (fun x => x.Id) l).getD (↑v.1 : Int).toNat 0)).Account, vI (fnd l ((List.map (fun x => x.Id) l).getD (↑v.1 : Int).toNat 0)).Until].getD ((i - (List.take v.1 l).length) * 3 + j) undef))
  (Da.row 30 3 (List.take v'.1 l).length fun i j => (dasChallenge ((List.take v'.1 l).getD i zChallenge)).getD j (Da.val undef))) ∧ ((DaEq (Da.row 3 1 (List.map (fun x => x.Id) l).length fun i x => dI (((List.map (fun x => x.Id) l).getD i 0))) (Da.row 3 1 (List.map (fun x => x.Id) l).length fun i x => dI (((List.map (fun x => x.Id) l).getD i 0)))) ∧ True)))))))))) (false = false ∧ (DaEq (Da.row 30 3 (List.take v.1 l).length fun i j => (dasChallenge ((List.take v.1 l).getD i zChallenge)).getD j (Da.val undef)) (rowR 30 3 dasChallenge zChallenge l)))))))) (by kernel_rfl) ?_
  refine ⟨?g0, ?g1, ⟨⟨0, Nat.zero_le _⟩, ⟨⟨rfl, rfl, rfl, rfl, congrArg _ ?g3, trivial⟩, ?g4, DaEq.refl _, trivial⟩⟩, fun v => bcase_intro (fun h5 => ⟨⟨?g6, ?g7⟩, ?g8, ?g9, ?g10, ?g11, ⟨⟨v.1 + 1, ?wa⟩, ⟨?g13, ⟨rfl, rfl, rfl, rfl, congrArg _ ?g14, trivial⟩, ?g15, DaEq.refl _, trivial⟩⟩⟩) (fun h5 => ⟨rfl, ?g16⟩)⟩
  case g0 =>
    refine cust_call rfl rfl (con_enters Try.func59 (by kernel_rfl) (by kernel_rfl)) fun W0 obs ρ w args hold hm hv hos hun hn => ?_
    obtain ⟨v1, s1, rfl, k1, k2⟩ := hv
    obtain rfl : v1 = .map (some b) := k1
    obtain rfl : s1 = [] := k2
    refine (keys_c (some b) w).mono ?_
    rintro e w' ⟨rfl, rfl⟩
    exact ⟨_, rfl, post_new (bs := [w.heap.size]) hm (hun 30008 (by omega) (by omega)) ((Below.refl _ _).alloc (Nat.le_refl _) _) rfl (fun b hb => by simp at hb; omega) (by simp) (ob_abs ⟨_, rfl, rfl, heap_alloc_new w _⟩ (fun b hb => by simp at hb; have := hm.below.size; simp; omega) (KeysFn.firm _ _))⟩
  case g1 =>
    refine cust_call rfl rfl (con_enters Try.func58 (by kernel_rfl) (by kernel_rfl)) fun W0 obs ρ w args hold hm hv hos hun hn2 => ?_
    obtain ⟨v1, s1, rfl, k1, k2⟩ := hv
    obtain rfl : s1 = [] := k2
    have hq : obs 30008 = .abs (KeysFn b) := by simpa [AvIds, ScIds] using hos
    obtain ⟨r, bs, hr, hφ, hnd⟩ := abs_of hm hq
    have h1 := own_val k1 hr
    obtain ⟨bx, rfl, rfl, hbx⟩ := hφ.is
    obtain rfl : v1 = _ := h1
    have hl : bx < w.heap.size := (Array.getElem?_eq_some_iff.1 hbx).1
    refine (sorted_c w (lies_on hold hm.below) ha hn (by simp [World.cell?, hbx]) hl).mono ?_
    rintro e w' ⟨v, rfl, hrow, hb⟩
    have ho := owns_base (lo' := W0.heap.size) hm.below.size _ _ _ (owns_flat (kd := .i64) hrow)
    have hin := owns_in _ _ _ (owns_flat (kd := .i64) hrow)
    rw [show flatD 3 .i64 1 l.length (l.map (·.Id)) = (numR 3 .i64 (l.map (·.Id))).dc by rw [numR_dc, List.length_map]] at ho
    exact ⟨v, rfl, post_new hm (hun 30016 (by omega) (by omega)) hb (owns_one (owns_flat (kd := .i64) hrow)) (fun b hb => (hin b hb).1) (Bx.nodup_own v) (ob_own ho)⟩
  case g3 => rfl
  case g4 => exact ⟨rfl, rfl, rfl, fun i hi => absurd hi (Nat.not_lt_zero _)⟩
  case g16 =>
    have h5 := of_decide_eq_false h5
    rw [List.length_map] at h5
    refine row_to row_self ?_
    rw [List.take_of_length_le (by omega)]
  all_goals
    have h5 := of_decide_eq_true h5
    rw [List.length_map] at h5
    have hl : v.1 < l.length := by omega
  case g6 => omega
  case g7 => rw [List.length_map]; omega
  case wa => omega
  case g13 => show l.length - (v.1 + 1) < l.length - v.1; omega
  case g14 => show IntKind.i64.wrap ((v.1 : Int) + 1) = ((v.1 + 1 : Nat) : Int); rw [IntWalk.i64_in _ (by omega)]; rfl
  case g10 | g11 => rw [List.length_take]; omega
  all_goals
    have hm : l.getD v.1 zChallenge ∈ l := by rw [List.getD_eq_getElem?_getD, List.getElem?_eq_getElem hl]; exact List.getElem_mem hl
    have hx : (l.map (·.Id)).getD (↑v.1 : Int).toNat 0 = (l.getD v.1 zChallenge).Id := by
      rw [Int.toNat_natCast, List.getD_eq_getElem?_getD, List.getElem?_map, List.getD_eq_getElem?_getD, List.getElem?_eq_getElem hl]; rfl
  case g8 => exact cust_look rfl (by rw [hx]; exact (hw _ hm).1) (by rw [hx]; exact (hw _ hm).2) rfl
  case g9 =>
    intro i hi j hj
    obtain rfl : i = 0 := by omega
    match j, hj with
    | 0, _ => rfl
    | 1, _ => rfl
    | 2, _ => rfl
  case g15 =>
    refine row_to (row_app row_self (row_one (x := fnd l ((l.map (·.Id)).getD (↑v.1 : Int).toNat 0)) fun j hj => ?_)) (by rw [hx, fnd_at ha hl]; exact (take_at hl).symm)
    match j, hj with
    | 0, _ => rfl
    | 1, _ => rfl
    | 2, _ => rfl
theorem wpIx (l : List Fx.Challenge) (i : Int) (bx : Nat) (hn : l.length ≤ 16000000) : awp Try.prog (ixC i bx) (ixL l i) (Try.f46.body.getD .skip) ⟨[.one (.old (rowR 30 3 dasChallenge zChallenge l)), .one (.val (.func (.func 47) #[] #[.pointer (some ⟨bx, 0, none⟩)]))] ++ List.replicate (Try.f46.ntmps - ([.one (.old (rowR 30 3 dasChallenge zChallenge l)), .one (.val (.func (.func 47) #[] #[.pointer (some ⟨bx, 0, none⟩)]))] : List AV).length) (.one (.val undef)), fun _ => .un⟩ (retK Try.prog Try.f46.results.toList [iV (findC l i)]) := by
  refine wp_go (p := ((∃ x0 : { k // k ≤ l.length ∧ ∀ (j : Nat), j < k → (l.getD j zChallenge).Id ≠ i }, (((DaEq (rowR 30 3 dasChallenge zChallenge l) (rowR 30 3 dasChallenge zChallenge l)) ∧ (Value.func (Fn.func 47) { toList := [] } { toList := [Value.pointer (some { block := bx, off := 0 })] } = Value.func (Fn.func 47) { toList := [] } { toList := [Value.pointer (some { block := bx, off := 0 })] } ∧ (vI (↑l.length : Int) = vI (↑l.length : Int) ∧ (vI 0 = vI (↑x0.1 : Int) ∧ True)))) ∧ True)) ∧ (∀ v : { k // k ≤ l.length ∧ ∀ (j : Nat), j < k → (l.getD j zChallenge).Id ≠ i }, bcase (decide ((↑v.1 : Int) < (↑l.length : Int))) ((0 ≤ (↑v.1 : Int) ∧ (↑v.1 : Int) < (↑l.length : Int)) ∧ ((Cust Try.prog (fun w => BoxI w bx i) 50040 (opOf (Try.f46.body.getD Code.skip) 4 5) [AV.one (Sc.val (Value.func (Fn.func 47) { toList := [] } { toList := [Value.pointer (some { block := bx, off := 0 })] })), AV.agg [Sc.val (vI (l.getD (↑v.1 : Int).toNat zChallenge).Id), Sc.val (vI (l.getD (↑v.1 : Int).toNat zChallenge).Account), Sc.val (vI (l.getD (↑v.1 : Int).toNat zChallenge).Until)]] [] { need := [], val := AV.one (Sc.val (Value.bool ((l.getD (↑v.1 : Int).toNat zChallenge).Id == i))), mem := [] }) ∧ bcase ((l.getD (↑v.1 : Int).toNat zChallenge).Id == i) (false = false ∧ vI (↑v.1 : Int) = vI (findC l i)) (∃ v' : { k // k ≤ l.length ∧ ∀ (j : Nat), j < k → (l.getD j zChallenge).Id ≠ i }, (l.length.sub v'.1 < l.length.sub v.1 ∧ (((DaEq (rowR 30 3 dasChallenge zChallenge l) (rowR 30 3 dasChallenge zChallenge l)) ∧ (Value.func (Fn.func 47) { toList := [] } { toList := [Value.pointer (some { block := bx, off := 0 })] } = Value.func (Fn.func 47) { toList := [] } { toList := [Value.pointer (some { block := bx, off := 0 })] } ∧ (vI (↑l.length : Int) = vI (↑l.length : Int) ∧ (vI (IntKind.i64.wrap ((↑v.1 : Int) + 1)) = vI (↑v'.1 : Int) ∧ True)))) ∧ True))))) (false = false ∧ vI (-1) = vI (findC l i))))) (by kernel_rfl) ?_
  refine ⟨⟨⟨0, Nat.zero_le _, fun j h => absurd h (Nat.not_lt_zero _)⟩, ⟨⟨DaEq.refl _, rfl, rfl, congrArg _ ?g1, trivial⟩, trivial⟩⟩, fun v => bcase_intro (fun h2 => ⟨⟨?g3, ?g4⟩, ?g5, bcase_intro (fun h6 => ⟨rfl, congrArg _ ?g7⟩) (fun h6 => ⟨⟨v.1 + 1, ?wa, ?wb⟩, ⟨?g9, ⟨DaEq.refl _, rfl, rfl, congrArg _ ?g10, trivial⟩, trivial⟩⟩)⟩) (fun h2 => ⟨rfl, congrArg _ ?g11⟩)⟩
  case g1 => rfl
  case g11 =>
    have := of_decide_eq_false h2
    exact (findC_none fun j y hj hy => by have := v.2.2 j (by omega); simpa [hy, List.getD_eq_getElem?_getD] using this).symm
  all_goals
    have h2 := of_decide_eq_true h2
    have hl : v.1 < l.length := by omega
  case g3 | g4 => omega
  case g5 =>
    refine cust_dyn rfl rfl rfl (con_enters Try.func47 (by kernel_rfl) (by kernel_rfl)) fun W0 obs ρ w args hold hm hv hos hun hn => ?_
    obtain ⟨v1, s1, rfl, k1, k2⟩ := hv
    obtain rfl : s1 = [] := k2
    obtain rfl := vals3 k1
    have hold : W0.cell? ⟨bx, 0, none⟩ = some (.int .i64 i) := hold
    refine (find_c w _ bx i (cell_on hm.below hold)).mono ?_
    rintro e w' ⟨rfl, hb⟩
    exact ⟨_, rfl, post_same hm hb rfl⟩
  case g7 =>
    have he := beq_iff_eq.1 h6
    simp only [Int.toNat_natCast] at he
    exact (findC_at (k := v.1) (x := l.getD v.1 zChallenge) (by simp [List.getElem?_eq_getElem hl]) he (fun j y hj hy => by have := v.2.2 j hj; simpa [hy, List.getD_eq_getElem?_getD] using this)).symm
  case wa => omega
  case wb =>
    intro j hj
    rcases Nat.lt_or_ge j v.1 with h | h
    · exact v.2.2 j h
    · obtain rfl : j = v.1 := by omega
      simpa using beq_eq_false_iff_ne.1 h6
  case g9 => show l.length - (v.1 + 1) < l.length - v.1; omega
  case g10 => rw [IntWalk.i64_in _ (by omega)]; rfl
end Go.Proofs.Ytjkmcnnkifachaa.T12j
