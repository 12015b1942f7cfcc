import Derived.Test.YtllaacdikjffmaaGreatM18
import Derived.Test.YtllaacdikjffmaaGreatBa
namespace Go.Proofs.YtllaacdikjffmaaGreat.C14i
open Go.ChangeShapes Go.WideShapes Go.ChangeAt Go.RowKit
open S0 S1 S9 Dm Fx M8 M18 E0 E1 E2 E3 E4 E7 E10 E15 E16 E17 E18 E19 E20 E22 Das
set_option linter.unusedVariables false
set_option linter.unusedSimpArgs false
set_option maxRecDepth 100000
def keepO (qs : List Nat) (obs : Nat → Ob) : List (Nat × Ob) := qs.map fun q => (q, obs q)
theorem plainC (f : Nat → Cr) (n : Nat) : E9.PlainEl n 4 (fun i j => (dasCredential (f i)).getD j (.val undef)) := plain_row (das := dasCredential) (k := 4) (fun _ => rfl) (fun _ => rfl) f n
theorem conIn (n lo hi : Int) : FnCon Tryz.prog 69 ([iV n, iV lo, iV hi]) ([bV (inB n lo hi)]) := by
  refine fn_go (p := bcase (decide (lo ≤ n)) (decide (lo ≤ n) = true ∧ (false = false ∧ Value.bool (decide (n ≤ hi)) = Value.bool (inB n lo hi))) (decide (lo ≤ n) = false ∧ (false = false ∧ Value.bool false = Value.bool (inB n lo hi)))) (noCalls) (noLoops) Tryz.func69 (by kernel_rfl) (by kernel_rfl) (by kernel_rfl) (fun _ => trivial) (by kernel_rfl) ?_
  refine bcase_intro (fun h0 => ⟨h0, rfl, congrArg _ ?g1⟩) (fun h0 => ⟨h0, rfl, congrArg _ ?g2⟩)
  case g1 => unfold inB; rw [show decide (lo ≤ n) = true from h0, Bool.true_and]
  case g2 => unfold inB; rw [show decide (lo ≤ n) = false from h0, Bool.false_and]
theorem conIsM (n : Int) : FnCon Tryz.prog 86 ([iV n]) ([bV (inB n 1 3)]) := by
  refine fn_go (p := (FnCon Tryz.prog 69 [(false, [dI (n)]), (false, [dI (1)]), (false, [dI (3)])] [(false, [dB ((inB n 1 3))])] ∧ (false = false ∧ Value.bool (inB n 1 3) = Value.bool (inB n 1 3)))) (callsBy fun _ _ _ => some [bV (inB n 1 3)]) (noLoops) Tryz.func86 (by kernel_rfl) (by kernel_rfl) (by kernel_rfl) (fun _ => trivial) (by kernel_rfl) ?_
  refine ⟨(conIn _ _ _), rfl, rfl⟩
theorem conPrv (u : Int) (u0 : -9223372036854775808 ≤ u) (u1 : u ≤ 9223372036854775807) : FnCon Tryz.prog 101 [iV u] [iV (prv u)] :=
  con_of_plain (con_enters Tryz.func101 (by kernel_rfl) (by kernel_rfl)) rfl fun w v0 k0 => by
    obtain ⟨v1, rfl, k1⟩ := of_valA k0
    obtain rfl := of_nil k1
    exact C6i.implPrv u w u0 u1
theorem conCopy (l : List Cr) (hn : l.length ≤ 16000000) : FnCon Tryz.prog 50 ([(false, [rowR 81 4 dasCredential zCredential l])]) ([(false, [rowR 81 4 dasCredential zCredential l])]) := by
  refine fn_go (p := ((E9.PlainEl l.length 4 fun i j => (dasCredential (l.getD i zCredential)).getD j (Da.val undef)) ∧ (0 + l.length ≤ 1000000000000 ∧ ((0 + l.length) * 32 ≤ 140737488355328 ∧ (false = false ∧ (DaEq (Da.row 81 4 (0 + l.length) fun i j => (dasCredential (l.getD (i - 0) zCredential)).getD j (Da.val undef)) (rowR 81 4 dasCredential zCredential l))))))) (noCalls) (noLoops) Tryz.func50 (by kernel_rfl) (by kernel_rfl) (by kernel_rfl) (fun _ => trivial) (by kernel_rfl) ?_
  refine ⟨?g0, ?g1, ?g2, rfl, ?g3⟩
  case g0 => exact plainC _ _
  case g3 => exact row_to (row_app row_nil row_self) (by simp)
  all_goals omega
theorem conNaN (x : Int) : FnCon Tryz.prog 83 ([iV x]) ([bV false]) := by
  refine fn_go (p := (false = false ∧ Value.bool (x != x) = Value.bool false)) (noCalls) (noLoops) Tryz.func83 (by kernel_rfl) (by kernel_rfl) (by kernel_rfl) (fun _ => trivial) (by kernel_rfl) ?_
  refine ⟨rfl, congrArg _ ?g0⟩
  case g0 => simp
def cmpI (x y : Int) : Int := if x < y then -1 else if y < x then 1 else 0
theorem cmp_lt (x y : Int) : decide (cmpI x y < 0) = decide (x < y) := by
  unfold cmpI
  by_cases h : x < y
  · rw [if_pos h, decide_eq_true h]; rfl
  · rw [if_neg h, decide_eq_false h]
    by_cases h2 : y < x
    · rw [if_pos h2]; rfl
    · rw [if_neg h2]; rfl
theorem conCmp (x y : Int) : FnCon Tryz.prog 57 ([iV x, iV y]) ([iV (cmpI x y)]) := by
  refine fn_go (p := (FnCon Tryz.prog 83 [(false, [dI (x)])] [(false, [dB (false)])] ∧ (FnCon Tryz.prog 83 [(false, [dI (y)])] [(false, [dB (false)])] ∧ bcase (decide (x < y)) (false = false ∧ vI (-1) = vI (cmpI x y)) (bcase (decide (x > y)) (false = false ∧ vI 1 = vI (cmpI x y)) (false = false ∧ vI 0 = vI (cmpI x y)))))) (callsBy fun _ _ _ => some [bV false]) (noLoops) Tryz.func57 (by kernel_rfl) (by kernel_rfl) (by kernel_rfl) (fun _ => trivial) (by kernel_rfl) ?_
  refine ⟨(conNaN _), (conNaN _), bcase_intro (fun h2 => ⟨rfl, congrArg _ ?g3⟩) (fun h2 => bcase_intro (fun h4 => ⟨rfl, congrArg _ ?g5⟩) (fun h4 => ⟨rfl, congrArg _ ?g6⟩))⟩
  case g3 => unfold cmpI; rw [if_pos (of_decide_eq_true h2)]
  case g5 => unfold cmpI; rw [if_neg (of_decide_eq_false h2), if_pos (of_decide_eq_true h4)]
  case g6 => unfold cmpI; rw [if_neg (of_decide_eq_false h2), if_neg (of_decide_eq_false h4)]
theorem conAdd1 (x : Cr) (h : Int) : FnCon Tryz.prog 56 ([(true, dasCredential x), iV h]) ([iV (cmpI x.Handle h)]) := by
  refine fn_go (p := (FnCon Tryz.prog 57 [(false, [dI (x.Handle)]), (false, [dI (h)])] [(false, [dI ((cmpI x.Handle h))])] ∧ (false = false ∧ vI (cmpI x.Handle h) = vI (cmpI x.Handle h)))) (callsBy fun _ _ _ => some [iV (cmpI x.Handle h)]) (noLoops) Tryz.func56 (by kernel_rfl) (by kernel_rfl) (by kernel_rfl) (fun _ => trivial) (by kernel_rfl) ?_
  refine ⟨(conCmp _ _), rfl, rfl⟩
theorem cred_shs (w : World) (hi : Nat) (x : Cr) : ShsL w hi x.dcs [.int .i64 x.Handle, .int .i64 x.Public, .int .i64 x.Counter, .bool x.Cut] := by
  simp only [Credential.dcs, ShsL, Shs]
  exact ⟨_, _, rfl, rfl, _, _, rfl, rfl, _, _, rfl, rfl, _, _, rfl, rfl, rfl⟩

theorem cust_cmp {old : World → Prop} {id : Nat} {o : Oper} {c : Call} {z : Operand} {y : Cr} {h : Int} (ho : o.op = .call c) (hc : c.callee = .value z) :
    Cust Tryz.prog old id o [.one (.val (.func (.func 56) #[] #[])), .agg [.val (.int .i64 y.Handle), .val (.int .i64 y.Public), .val (.int .i64 y.Counter), .val (.bool y.Cut)], .one (.val (.int .i64 h))] [] ⟨[], .one (.val (vI (cmpI y.Handle h))), []⟩ :=
  cust_dyn ho hc rfl (con_enters Tryz.func56 (by kernel_rfl) (by kernel_rfl)) fun W0 obs ρ w args hold hm hv hos hun hn => by
    have e := vs_plain (us := [.agg #[.int .i64 y.Handle, .int .i64 y.Public, .int .i64 y.Counter, .bool y.Cut], .int .i64 h]) rfl hv
    subst e
    have := con_plain (conAdd1 y h) (us := [.int .i64 (cmpI y.Handle h)]) rfl (w := w) (vs := [.agg [.int .i64 y.Handle, .int .i64 y.Public, .int .i64 y.Counter, .bool y.Cut].toArray, .int .i64 h]) (arg_agg (dasCredential_dc y) (cred_shs _ _ y) (arg_val arg_nil))
    refine Calls.mono (by simpa using this) ?_
    rintro en w' ⟨rfl, hb⟩
    exact ⟨_, rfl, post_same hm hb rfl⟩
theorem mid_eq {a b : Nat} (h : a + b ≤ 100000000) : IntKind.i64.wrap ((IntKind.u64.wrap (IntKind.i64.wrap ((a : Int) + (b : Int)))).fdiv 2) = (((a + b) / 2 : Nat) : Int) := by
  have h1 : IntKind.i64.wrap ((a : Int) + (b : Int)) = (a : Int) + (b : Int) := IntWalk.i64_in _ (by omega)
  have hu : IntKind.u64.wrap ((a : Int) + (b : Int)) = (a : Int) + (b : Int) := by
    rw [IntKind.wrap_u64]; omega
  rw [h1, hu, Int.fdiv_eq_ediv_of_nonneg _ (by omega), IntWalk.i64_in _ (by omega)]
  omega
/-- The place that a search by halves comes to. -/
def bsr (p : Nat → Bool) (i j : Nat) : Nat := if h : i < j then (match p ((i + j) / 2) with | true => bsr p ((i + j) / 2 + 1) j | false => bsr p i ((i + j) / 2)) else i
termination_by j - i
decreasing_by all_goals omega
theorem bsr_at {p : Nat → Bool} {k : Nat} : ∀ {d i j : Nat}, j - i ≤ d → i ≤ k → k ≤ j → (∀ m, i ≤ m → m < j → (p m = true ↔ m < k)) → bsr p i j = k
  | 0, i, j, hd, h1, h2, hp => by
    rw [bsr, dif_neg (by omega)]; omega
  | d + 1, i, j, hd, h1, h2, hp => by
    rw [bsr]
    split
    · next h =>
      have hm := hp ((i + j) / 2) (by omega) (by omega)
      split
      · next e => exact bsr_at (d := d) (by omega) (by have := hm.1 e; omega) h2 fun m h3 h4 => hp m (by omega) h4
      · next e =>
        have : ¬ (i + j) / 2 < k := fun h => by rw [hm.2 h] at e; cases e
        exact bsr_at (d := d) (by omega) h1 (by omega) fun m h3 h4 => hp m h3 (by omega)
    · omega
theorem bsr_le {p : Nat → Bool} : ∀ {d i j : Nat}, j - i ≤ d → i ≤ j → i ≤ bsr p i j ∧ bsr p i j ≤ j
  | 0, i, j, hd, h1 => by rw [bsr, dif_neg (by omega)]; omega
  | d + 1, i, j, hd, h1 => by
    rw [bsr]
    split
    · next h =>
      split
      · have := bsr_le (p := p) (d := d) (i := (i + j) / 2 + 1) (j := j) (by omega) (by omega); omega
      · have := bsr_le (p := p) (d := d) (i := i) (j := (i + j) / 2) (by omega) (by omega); omega
    · omega
def lessAt (l : List Cr) (h : Int) (m : Nat) : Bool := decide ((l.getD m zCredential).Handle < h)
abbrev BsX (l : List Cr) (h : Int) : Type := { q : Nat × Nat // q.1 ≤ q.2 ∧ q.2 ≤ l.length ∧ bsr (lessAt l h) q.1 q.2 = bsr (lessAt l h) 0 l.length }
def bsL (l : List Cr) (h : Int) : Loops := fun r _ => match r with
  | 3 => some ⟨BsX l h, fun v sl => only [0, 1, 2, 6, 7, 8, 9, 10] 0 ((sl.set 9 (.one (.val (vI v.1.1)))).set 10 (.one (.val (vI v.1.2)))), fun _ _ => [], fun v => v.1.2 - v.1.1⟩
  | _ => none
def atB (l : List Cr) (h : Int) : Nat := bsr (lessAt l h) 0 l.length
def foundB (l : List Cr) (h : Int) : Bool := decide ((atB l h : Int) < l.length) && (cmpI (l.getD (atB l h) zCredential).Handle h == 0)
def bsC (h : Int) : Orc := ⟨fun _ _ _ => none, fun id vs _ => match vs with | [_, .agg (.val (.int _ x) :: _), _] => some ⟨[], .one (.val (vI (cmpI x h))), []⟩ | _ => none, fun _ => True⟩
theorem conBs (l : List Cr) (h : Int) (hn : l.length ≤ 16000000) : FnCon Tryz.prog 55 ([(false, [rowR 81 4 dasCredential zCredential l]), iV h, (false, [.val (.func (.func 56) #[] #[])])]) ([iV (atB l h), bV (foundB l h)]) := by
  refine fn_go (p := ((∃ x0 : BsX l h, (((DaEq (rowR 81 4 dasCredential zCredential l) (rowR 81 4 dasCredential zCredential l)) ∧ (vI h = vI h ∧ (Value.func (Fn.func 56) { toList := [] } { toList := [] } = Value.func (Fn.func 56) { toList := [] } { toList := [] } ∧ (vI 0 = vI 0 ∧ (Value.bool false = Value.bool false ∧ (vI (↑l.length : Int) = vI (↑l.length : Int) ∧ (vI 0 = vI (↑x0.val.1 : Int) ∧ (vI (↑l.length : Int) = vI (↑x0.val.2 : Int) ∧ True)))))))) ∧ True)) ∧ (∀ v : BsX l h, bcase (decide ((↑v.val.1 : Int) < (↑v.val.2 : Int))) ((0 ≤ IntKind.i64.wrap ((IntKind.u64.wrap (IntKind.i64.wrap ((↑v.val.1 : Int) + (↑v.val.2 : Int)))).fdiv 2) ∧ IntKind.i64.wrap ((IntKind.u64.wrap (IntKind.i64.wrap ((↑v.val.1 : Int) + (↑v.val.2 : Int)))).fdiv 2) < (↑l.length : Int)) ∧ ((Cust Tryz.prog (fun x => True) 60048 (opOf (Tryz.f55.body.getD Code.skip) 5 6) [AV.one (Sc.val (Value.func (Fn.func 56) { toList := [] } { toList := [] })), AV.agg [Sc.val (vI (l.getD (IntKind.i64.wrap ((IntKind.u64.wrap (IntKind.i64.wrap ((↑v.val.1 : Int) + (↑v.val.2 : Int)))).fdiv 2)).toNat zCredential).Handle), Sc.val (vI (l.getD (IntKind.i64.wrap ((IntKind.u64.wrap (IntKind.i64.wrap ((↑v.val.1 : Int) + (↑v.val.2 : Int)))).fdiv 2)).toNat zCredential).Public), Sc.val (vI (l.getD (IntKind.i64.wrap ((IntKind.u64.wrap (IntKind.i64.wrap ((↑v.val.1 : Int) + (↑v.val.2 : Int)))).fdiv 2)).toNat zCredential).Counter), Sc.val (Value.bool (l.getD (IntKind.i64.wrap ((IntKind.u64.wrap (IntKind.i64.wrap ((↑v.val.1 : Int) + (↑v.val.2 : Int)))).fdiv 2)).toNat zCredential).Cut)], AV.one (Sc.val (vI h))] [] { need := [], val := AV.one (Sc.val (vI (cmpI (l.getD (IntKind.i64.wrap ((IntKind.u64.wrap (IntKind.i64.wrap ((↑v.val.1 : Int) + (↑v.val.2 : Int)))).fdiv 2)).toNat zCredential).Handle h))), mem := [] }) ∧ bcase (decide (cmpI (l.getD (IntKind.i64.wrap ((IntKind.u64.wrap (IntKind.i64.wrap ((↑v.val.1 : Int) + (↑v.val.2 : Int)))).fdiv 2)).toNat zCredential).Handle h < 0)) (∃ v' : BsX l h, (v'.val.2.sub v'.val.1 < v.val.2.sub v.val.1 ∧ (((DaEq (rowR 81 4 dasCredential zCredential l) (rowR 81 4 dasCredential zCredential l)) ∧ (vI h = vI h ∧ (Value.func (Fn.func 56) { toList := [] } { toList := [] } = Value.func (Fn.func 56) { toList := [] } { toList := [] } ∧ (vI 0 = vI 0 ∧ (Value.bool false = Value.bool false ∧ (vI (↑l.length : Int) = vI (↑l.length : Int) ∧ (vI (IntKind.i64.wrap (IntKind.i64.wrap ((IntKind.u64.wrap (IntKind.i64.wrap ((↑v.val.1 : Int) + (↑v.val.2 : Int)))).fdiv 2) + 1)) = vI (↑v'.val.1 : Int) ∧ (vI (↑v.val.2 : Int) = vI (↑v'.val.2 : Int) ∧ True)))))))) ∧ True))) (∃ v' : BsX l h, (v'.val.2.sub v'.val.1 < v.val.2.sub v.val.1 ∧ (((DaEq (rowR 81 4 dasCredential zCredential l) (rowR 81 4 dasCredential zCredential l)) ∧ (vI h = vI h ∧ (Value.func (Fn.func 56) { toList := [] } { toList := [] } = Value.func (Fn.func 56) { toList := [] } { toList := [] } ∧ (vI 0 = vI 0 ∧ (Value.bool false = Value.bool false ∧ (vI (↑l.length : Int) = vI (↑l.length : Int) ∧ (vI (↑v.val.1 : Int) = vI (↑v'.val.1 : Int) ∧ (vI (IntKind.i64.wrap ((IntKind.u64.wrap (IntKind.i64.wrap ((↑v.val.1 : Int) + (↑v.val.2 : Int)))).fdiv 2)) = vI (↑v'.val.2 : Int) ∧ True)))))))) ∧ True))))) (bcase (decide ((↑v.val.1 : Int) < (↑l.length : Int))) (decide ((↑v.val.1 : Int) < (↑l.length : Int)) = true ∧ ((0 ≤ (↑v.val.1 : Int) ∧ (↑v.val.1 : Int) < (↑l.length : Int)) ∧ ((Cust Tryz.prog (fun x => True) 90088 (opOf (Tryz.f55.body.getD Code.skip) 8 11) [AV.one (Sc.val (Value.func (Fn.func 56) { toList := [] } { toList := [] })), AV.agg [Sc.val (vI (l.getD (↑v.val.1 : Int).toNat zCredential).Handle), Sc.val (vI (l.getD (↑v.val.1 : Int).toNat zCredential).Public), Sc.val (vI (l.getD (↑v.val.1 : Int).toNat zCredential).Counter), Sc.val (Value.bool (l.getD (↑v.val.1 : Int).toNat zCredential).Cut)], AV.one (Sc.val (vI h))] [] { need := [], val := AV.one (Sc.val (vI (cmpI (l.getD (↑v.val.1 : Int).toNat zCredential).Handle h))), mem := [] }) ∧ ((false = false ∧ vI (↑v.val.1 : Int) = vI (↑(atB l h) : Int)) ∧ (false = false ∧ Value.bool (cmpI (l.getD (↑v.val.1 : Int).toNat zCredential).Handle h == 0) = Value.bool (foundB l h)))))) (decide ((↑v.val.1 : Int) < (↑l.length : Int)) = false ∧ ((false = false ∧ vI (↑v.val.1 : Int) = vI (↑(atB l h) : Int)) ∧ (false = false ∧ Value.bool false = Value.bool (foundB l h)))))))) (bsC h) (bsL l h) Tryz.func55 (by kernel_rfl) (by kernel_rfl) (by kernel_rfl) (fun _ => trivial) (by kernel_rfl) ?_
  refine ⟨⟨⟨(0, l.length), Nat.zero_le _, Nat.le_refl _, rfl⟩, ⟨⟨DaEq.refl _, rfl, rfl, rfl, rfl, rfl, congrArg _ ?g1, congrArg _ ?g2, trivial⟩, trivial⟩⟩, fun v => bcase_intro (fun h3 => ⟨⟨?g4, ?g5⟩, ?g6, bcase_intro (fun h7 => ⟨⟨((v.1.1 + v.1.2) / 2 + 1, v.1.2), ?wa, ?wb, ?wc⟩, ⟨?g9, ⟨DaEq.refl _, rfl, rfl, rfl, rfl, rfl, congrArg _ ?g10, congrArg _ ?g11, trivial⟩, trivial⟩⟩) (fun h7 => ⟨⟨(v.1.1, (v.1.1 + v.1.2) / 2), ?wd, ?we, ?wf⟩, ⟨?g13, ⟨DaEq.refl _, rfl, rfl, rfl, rfl, rfl, congrArg _ ?g14, congrArg _ ?g15, trivial⟩, trivial⟩⟩)⟩) (fun h3 => bcase_intro (fun h16 => ⟨h16, ⟨?g17, ?g18⟩, ?g19, ⟨rfl, congrArg _ ?g20⟩, rfl, congrArg _ ?g21⟩) (fun h16 => ⟨h16, ⟨rfl, congrArg _ ?g22⟩, rfl, congrArg _ ?g23⟩))⟩
  case g1 | g2 => rfl
  all_goals
    obtain ⟨k1, k2, k3⟩ := v.2
    have hM := mid_eq (a := v.1.1) (b := v.1.2) (by omega)
  case g6 | g19 => exact cust_cmp rfl rfl
  case g20 | g22 =>
    have h3 := of_decide_eq_false h3
    have e : v.1.1 = v.1.2 := by omega
    rw [← e, bsr, dif_neg (by omega)] at k3
    show (v.1.1 : Int) = (atB l h : Int)
    rw [show atB l h = v.1.1 from k3.symm]
  case g21 =>
    have h3 := of_decide_eq_false h3
    have e : v.1.1 = v.1.2 := by omega
    rw [← e, bsr, dif_neg (by omega)] at k3
    unfold foundB
    rw [show atB l h = v.1.1 from k3.symm, h16, Int.toNat_natCast, Bool.true_and]
  case g23 =>
    have h3 := of_decide_eq_false h3
    have e : v.1.1 = v.1.2 := by omega
    rw [← e, bsr, dif_neg (by omega)] at k3
    unfold foundB
    rw [show atB l h = v.1.1 from k3.symm, h16, Bool.false_and]
  case g17 | g18 => have h16 := of_decide_eq_true h16; omega
  all_goals
    have h3 := of_decide_eq_true h3
    try rw [hM, Int.toNat_natCast, cmp_lt] at h7
  case g4 | g5 => rw [hM]; omega
  case g9 => show v.1.2 - ((v.1.1 + v.1.2) / 2 + 1) < v.1.2 - v.1.1; omega
  case g10 => rw [hM, IntWalk.i64_in _ (by omega)]; rfl
  case g13 => show (v.1.1 + v.1.2) / 2 - v.1.1 < v.1.2 - v.1.1; omega
  case g15 => rw [hM]
  case wa => show (v.1.1 + v.1.2) / 2 + 1 ≤ v.1.2; omega
  case wb => exact k2
  case wc =>
    refine Eq.trans ?_ k3
    show bsr _ ((v.1.1 + v.1.2) / 2 + 1) v.1.2 = bsr _ v.1.1 v.1.2
    conv => rhs; rw [bsr]
    rw [dif_pos (by omega), show lessAt l h ((v.1.1 + v.1.2) / 2) = true from h7]
  case wd => show v.1.1 ≤ (v.1.1 + v.1.2) / 2; omega
  case we => show (v.1.1 + v.1.2) / 2 ≤ l.length; omega
  case wf =>
    refine Eq.trans ?_ k3
    show bsr _ v.1.1 ((v.1.1 + v.1.2) / 2) = bsr _ v.1.1 v.1.2
    conv => rhs; rw [bsr]
    rw [dif_pos (by omega), show lessAt l h ((v.1.1 + v.1.2) / 2) = false from h7]
theorem drop_row (l : List Cr) : (Da.row 81 4 (l.length.sub 1) fun i j => (dasCredential (l.getD (i + 1) zCredential)).getD j (Da.val undef)) = Da.row 81 4 (List.drop 1 l).length fun i j => (dasCredential ((List.drop 1 l).getD i zCredential)).getD j (Da.val undef) := by
  cases l with
  | nil => simp only [List.drop_nil, List.getD_nil]; rfl
  | cons x l => rfl
theorem lnNext (l : List Cr) (i m : Int) (hn : l.length ≤ 16000000) : E22.LentCon Tryz.prog 88 52 ([.val (.int .i64 i), .val (.int .i64 m), .old (rowR 81 4 dasCredential zCredential (l))]) ([]) ([(true, dasCredential (l.getD 0 zCredential)), bV (decide (0 < l.length))]) ([.val (.int .i64 i), .val (.int .i64 m), .old (rowR 81 4 dasCredential zCredential (l.drop 1))]) := by
  refine E22.lent_go (p := fun R => bcase ((↑l.length : Int) == 0) (((true = true ∧ (vI 0 = vI (l.getD 0 zCredential).Handle ∧ (vI 0 = vI (l.getD 0 zCredential).Public ∧ (vI 0 = vI (l.getD 0 zCredential).Counter ∧ Value.bool false = Value.bool (l.getD 0 zCredential).Cut)))) ∧ (false = false ∧ Value.bool false = Value.bool (decide (0 < l.length)))) ∧ ((52 = 52 ∧ (vI i = vI i ∧ (vI m = vI m ∧ (Sc.old (rowR 81 4 dasCredential zCredential l) = Sc.old (Da.row 81 4 (List.drop 1 l).length fun i j => (dasCredential ((List.drop 1 l).getD i zCredential)).getD j (Da.val undef)))))) ∧ R = R)) ((Int.NonNeg 0 ∧ 0 < (↑l.length : Int)) ∧ ((Int.NonNeg 1 ∧ (1 ≤ (↑l.length : Int) ∧ (↑l.length : Int) ≤ (↑l.length : Int))) ∧ (((true = true ∧ (vI (l.getD 0 zCredential).Handle = vI (l.getD 0 zCredential).Handle ∧ (vI (l.getD 0 zCredential).Public = vI (l.getD 0 zCredential).Public ∧ (vI (l.getD 0 zCredential).Counter = vI (l.getD 0 zCredential).Counter ∧ Value.bool (l.getD 0 zCredential).Cut = Value.bool (l.getD 0 zCredential).Cut)))) ∧ (false = false ∧ Value.bool true = Value.bool (decide (0 < l.length)))) ∧ ((52 = 52 ∧ (vI i = vI i ∧ (vI m = vI m ∧ (Sc.old (Da.row 81 4 (l.length.sub 1) fun i j => (dasCredential (l.getD (i + 1) zCredential)).getD j (Da.val undef)) = Sc.old (Da.row 81 4 (List.drop 1 l).length fun i j => (dasCredential ((List.drop 1 l).getD i zCredential)).getD j (Da.val undef)))))) ∧ R = R))))) (noCalls) (noLoops) Tryz.func88 (by kernel_rfl) (by kernel_rfl) (by kernel_rfl) (fun _ => trivial) rfl (by kernel_rfl) ?_
  intro R hR
  refine bcase_intro (fun h0 => ⟨⟨⟨rfl, congrArg _ ?g1, congrArg _ ?g2, congrArg _ ?g3, congrArg _ ?g4⟩, rfl, congrArg _ ?g5⟩, ⟨rfl, rfl, rfl, ?g6⟩, rfl⟩) (fun h0 => ⟨⟨?g7, ?g8⟩, ⟨?g9, ?g10, ?g11⟩, ⟨⟨rfl, congrArg _ ?g12, congrArg _ ?g13, congrArg _ ?g14, congrArg _ ?g15⟩, rfl, congrArg _ ?g16⟩, ⟨rfl, rfl, rfl, ?g17⟩, rfl⟩)
  case g1 | g2 | g3 | g4 | g5 | g6 =>
    obtain rfl : l = [] := List.eq_nil_of_length_eq_zero (by have := beq_iff_eq.1 h0; omega)
    rfl
  all_goals have hl : 0 < l.length := by have := beq_eq_false_iff_ne.1 h0; omega
  case g7 => exact Int.NonNeg.mk 0
  case g9 => exact Int.NonNeg.mk 1
  case g16 => exact (decide_eq_true hl).symm
  case g17 => exact congrArg _ (drop_row l)
  all_goals first | rfl | omega
end Go.Proofs.YtllaacdikjffmaaGreat.C14i
