import Derived.Test.YtoedfeacpllkeaaDr2
namespace Go.Proofs.Ytoedfeacpllkeaa.Dr
open Go.ChangeShapes Go.WideShapes Go.ChangeAt Go.RowKit
open S0 S1 S9 E0 E1 E2 E3 E4 E7 E10 E15 E16 E17 E18 E19 E20 E22 E23
set_option linter.unusedVariables false
set_option linter.unusedSimpArgs false
set_option maxRecDepth 100000
set_option maxHeartbeats 4000000
def keepO (qs : List Nat) (obs : Nat → Ob) : List (Nat × Ob) := qs.map fun q => (q, obs q)
def hN (xs : List Int) : Nat → Int
  | 0 => 193017 + xs.length
  | k + 1 => bits .and .i64 (IntKind.i64.wrap (IntKind.i64.wrap (IntKind.i64.wrap (hN xs k * 137) + IntKind.i64.wrap (xs.getD k 0)) + 11)) 1073741823
abbrev NewX (xs : List Int) : Type := { k : Nat // k ≤ xs.length ∧ k ≤ 4000 }
def newL (xs : List Int) : Loops := fun r _ => match r with
  | 3 => some ⟨NewX xs, fun v sl => only [0, 3, 4] 0 ((sl.set 4 (.one (.val (vI v.1)))).set 3 (.one (.val (vI (hN xs v.1))))), fun _ obs => keepO [2] obs, fun v => xs.length - v.1⟩
  | _ => none
def start (xs : List Int) : Cu := ⟨0, hN xs (min xs.length 4000)⟩
theorem nwNew (xs : List Int) (hx : xs.length ≤ 140737488351232) : E23.NewCon Try.prog 40 ([(false, [numR 5 .u8 xs])]) 71 ([.old (numR 5 .u8 xs), .val (.int .i64 (0)), .val (.int .i64 (hN xs (min xs.length 4000)))]) := by
  refine E23.new_go (p := fun R => ((∃ x0 : NewX xs, (((DaEq (Da.row 5 1 xs.length fun i x => Da.val (Value.int IntKind.u8 (xs.getD i 0))) (Da.row 5 1 xs.length fun i x => Da.val (Value.int IntKind.u8 (xs.getD i 0)))) ∧ (vI (IntKind.i64.wrap (193017 + (↑xs.length : Int))) = vI (hN xs x0.1) ∧ (vI 0 = vI (↑x0.1 : Int) ∧ True))) ∧ (AbsLe R R ∧ True))) ∧ (∀ v : NewX xs, bcase (decide ((↑v.1 : Int) < (↑xs.length : Int))) (decide ((↑v.1 : Int) < (↑xs.length : Int)) = true ∧ bcase (decide ((↑v.1 : Int) < 4000)) ((0 ≤ (↑v.1 : Int) ∧ (↑v.1 : Int) < (↑xs.length : Int)) ∧ (∃ v' : NewX xs, (xs.length.sub v'.1 < xs.length.sub v.1 ∧ (((DaEq (Da.row 5 1 xs.length fun i x => Da.val (Value.int IntKind.u8 (xs.getD i 0))) (Da.row 5 1 xs.length fun i x => Da.val (Value.int IntKind.u8 (xs.getD i 0)))) ∧ (vI (IntKind.i64.wrap (↑(BitVec.ofInt 64 (IntKind.i64.wrap (IntKind.i64.wrap (IntKind.i64.wrap (hN xs v.1 * 137) + IntKind.i64.wrap (xs.getD (↑v.1 : Int).toNat 0)) + 11)) &&& BitVec.ofInt 64 1073741823).toNat : Int)) = vI (hN xs v'.1) ∧ (vI (IntKind.i64.wrap ((↑v.1 : Int) + 1)) = vI (↑v'.1 : Int) ∧ True))) ∧ (AbsLe R R ∧ True))))) (True ∧ ((71 = 71 ∧ ((Sc.old (Da.row 5 1 xs.length fun i x => Da.val (Value.int IntKind.u8 (xs.getD i 0))) = Sc.old (Da.row 5 1 xs.length fun i x => Da.val (Value.int IntKind.u8 (xs.getD i 0)))) ∧ (vI 0 = vI 0 ∧ (vI (hN xs v.1) = vI (hN xs (Decidable.rec (fun h => 4000) (fun h => xs.length) (xs.length.decLe 4000))))))) ∧ R = R))) (decide ((↑v.1 : Int) < (↑xs.length : Int)) = false ∧ (True ∧ ((71 = 71 ∧ ((Sc.old (Da.row 5 1 xs.length fun i x => Da.val (Value.int IntKind.u8 (xs.getD i 0))) = Sc.old (Da.row 5 1 xs.length fun i x => Da.val (Value.int IntKind.u8 (xs.getD i 0)))) ∧ (vI 0 = vI 0 ∧ (vI (hN xs v.1) = vI (hN xs (Decidable.rec (fun h => 4000) (fun h => xs.length) (xs.length.decLe 4000))))))) ∧ R = R)))))) (noCalls) (newL xs) Try.func40 (by kernel_rfl) (by kernel_rfl) (by kernel_rfl) (fun _ => trivial) rfl (by kernel_rfl) ?_
  intro R hR
  refine ⟨⟨⟨0, Nat.zero_le _, Nat.zero_le _⟩, ⟨⟨DaEq.refl _, congrArg _ ?g1, congrArg _ ?g2, trivial⟩, ?g3, trivial⟩⟩, fun v => bcase_intro (fun h4 => ⟨h4, bcase_intro (fun h5 => ⟨⟨?g6, ?g7⟩, ⟨⟨v.1 + 1, ?wa, ?wb⟩, ⟨?g9, ⟨DaEq.refl _, congrArg _ ?g10, congrArg _ ?g11, trivial⟩, ?g12, trivial⟩⟩⟩) (fun h5 => ⟨trivial, ⟨rfl, rfl, rfl, congrArg _ ?g13⟩, rfl⟩)⟩) (fun h4 => ⟨h4, trivial, ⟨rfl, rfl, rfl, congrArg _ ?g14⟩, rfl⟩)⟩
  case g1 => exact IntWalk.i64_in _ (by omega)
  case g2 => rfl
  case g3 | g12 => exact hR
  case g13 =>
    have h5 := of_decide_eq_false h5
    have h6 := v.2.1
    have h7 := v.2.2
    show hN xs v.1 = hN xs (min xs.length 4000)
    rw [show min xs.length 4000 = v.1 by omega]
  case g14 =>
    have h4 := of_decide_eq_false h4
    have h6 := v.2.1
    have h7 := v.2.2
    show hN xs v.1 = hN xs (min xs.length 4000)
    rw [show min xs.length 4000 = v.1 by omega]
  all_goals
    have h4 := of_decide_eq_true h4
    have h5 := of_decide_eq_true h5
  case g6 => omega
  case g7 => exact h4
  case wa => omega
  case wb => omega
  case g9 => show xs.length - (v.1 + 1) < xs.length - v.1; omega
  case g10 => rw [Int.toNat_natCast]; rfl
  case g11 =>
    rw [IntWalk.i64_in _ (by omega)]
    rfl
theorem nwStart (xs : List Int) (hx : xs.length ≤ 140737488351232) : NewCon Try.prog 40 [(false, [numR 5 .u8 xs])] 71 (cur xs (start xs)) := nwNew xs hx
theorem lnOnce (xs : List Int) (n : Int) (s : Cu) (k : OkC xs s) (n1 : n ≤ 9223372036854775807) : E22.LentCon Try.prog 62 71 (cur xs s) ([.int .i64 n]) ([bV (belV xs n s == 0)]) (cur xs (belS xs n s)) := by
  refine E22.lent_go (p := fun R => ((Cust Try.prog (fun x => True) 20016 (opOf (Try.f62.body.getD Code.skip) 1 2) [AV.one (Sc.val (Value.func (Fn.func 41) { toList := [] } { toList := [] })), AV.one (Sc.ptr 1 0), AV.one (Sc.val (vI n))] [Ob.var 71 (cur xs s)] { need := [], val := AV.one (Sc.val (vI (belV xs n s))), mem := [(1, Ob.var 71 (cur xs (belS xs n s)))] }) ∧ ((false = false ∧ Value.bool (belV xs n s == 0) = Value.bool (belV xs n s == 0)) ∧ ((71 = 71 ∧ ((Sc.old (Da.row 5 1 xs.length fun i x => Da.val (Value.int IntKind.u8 (xs.getD i 0))) = Sc.old (Da.row 5 1 xs.length fun i x => Da.val (Value.int IntKind.u8 (xs.getD i 0)))) ∧ (vI (belS xs n s).i = vI (belS xs n s).i ∧ vI (belS xs n s).h = vI (belS xs n s).h))) ∧ R = R)))) (⟨fun _ _ _ => none, fun id vs os => match id with | 20016 => some ⟨[], .one (.val (.int .i64 (belV xs n s))), [(1, .var 71 (cur xs (belS xs n s)))]⟩ | _ => none, fun _ => True⟩) (noLoops) Try.func62 (by kernel_rfl) (by kernel_rfl) (by kernel_rfl) (fun _ => trivial) rfl (by kernel_rfl) ?_
  intro R hR
  refine ⟨?g0, ⟨rfl, rfl⟩, ⟨rfl, rfl, rfl, rfl⟩, rfl⟩
  case g0 => exact cust_lent rfl rfl rfl rfl rfl rfl rfl rfl (lnB xs n s k n1) rfl (by omega)
theorem start_ok {xs : List Int} (hx : xs.length ≤ 140737488351232) : OkC xs (start xs) := ⟨Int.le_refl 0, hx⟩
end Go.Proofs.Ytoedfeacpllkeaa.Dr
