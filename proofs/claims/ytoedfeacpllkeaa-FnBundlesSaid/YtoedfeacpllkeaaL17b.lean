import Derived.Test.YtoedfeacpllkeaaM28
import Derived.Test.YtoedfeacpllkeaaC17k
namespace Go.Proofs.Ytoedfeacpllkeaa.L17b
open Go.ChangeShapes Go.WideShapes Go.ChangeAt Go.RowKit
open S0 S1 S9 Dm Fx M26 M27 M28 E0 E1 E2 E3 E4 E7 E10 E15 E16 E17 E18 E19 E20 E22 E23 Das
set_option linter.unusedVariables false
set_option linter.unusedSimpArgs false
set_option maxRecDepth 100000
set_option maxHeartbeats 4000000
theorem conBig (xs : List Int) (hx : xs.length ≤ 1048576) : FnCon Try.prog 13 ([(false, [numR 5 .u8 xs])]) ([bV false]) := by
  refine fn_go (p := (false = false ∧ Value.bool (decide ((↑xs.length : Int) > 1048576)) = Value.bool false)) (noCalls) (noLoops) Try.func13 (by kernel_rfl) (by kernel_rfl) (by kernel_rfl) (fun _ => trivial) (by kernel_rfl) ?_
  refine ⟨rfl, congrArg _ ?g0⟩
  case g0 => exact decide_eq_false (by omega)
theorem conM {a b x : List En} (ha : Few a) (hb : Few b) (h : mrgL a b = x) : FnCon Try.prog 15 [(true, [rowR 38 4 dasEntry zEntry a]), (true, [rowR 38 4 dasEntry zEntry b])] [(true, [rowR 38 4 dasEntry zEntry x]), bV true] := by
  obtain ⟨_, e1, e2⟩ := ha.mrg hb
  have h1 := (vbu_is ha.vb).2.2
  have h2 := (vbu_is hb.vb).2.2
  have := C17k.conMrg a b (by omega) (by omega)
  rw [e1, e2, h] at this
  exact this
theorem conE {a b : List En} (ha : Few a) (hb : Few b) (h : a = b) : FnCon Try.prog 16 [(true, [rowR 38 4 dasEntry zEntry a]), (true, [rowR 38 4 dasEntry zEntry b])] [bV true] := by
  have h1 := (vbu_is ha.vb).2.2
  have h2 := (vbu_is hb.vb).2.2
  have := C17k.conEql a b (by omega) (by omega)
  rw [eqlE_t h] at this
  exact this
theorem conI {a b : List En} (ha : Few a) (hb : Few b) (h : mrgL a b = a) : FnCon Try.prog 17 [(true, [rowR 38 4 dasEntry zEntry a]), (true, [rowR 38 4 dasEntry zEntry b])] [bV true] := by
  have h1 := (vbu_is ha.vb).2.2
  have h2 := (vbu_is hb.vb).2.2
  have := C17k.conInc a b (by omega) (by omega)
  rw [inc_of ha hb h] at this
  exact this
theorem conLaw (xs : List Int) (hx : xs.length ≤ 1048576) (a b c : List En) (ha : Few a) (hb : Few b) (hc : Few c) (hD : FnCon Try.prog 14 [(false, [numR 5 .u8 xs])] [(true, [rowR 38 4 dasEntry zEntry a]), (true, [rowR 38 4 dasEntry zEntry b]), (true, [rowR 38 4 dasEntry zEntry c])]) : FnCon Try.prog 3 ([(false, [numR 5 .u8 xs])]) ([bV true]) := by
  refine fn_go (p := ((FnCon Try.prog 13 [(false, [Da.row 5 1 xs.length fun i x => Da.val (Value.int IntKind.u8 (xs.getD i 0))])] [(false, [dB (false)])]) ∧ ((FnCon Try.prog 14 [(false, [Da.row 5 1 xs.length fun i x => Da.val (Value.int IntKind.u8 (xs.getD i 0))])] [(true, [rowR 38 4 dasEntry zEntry a]), (true, [rowR 38 4 dasEntry zEntry b]), (true, [rowR 38 4 dasEntry zEntry c])]) ∧ ((FnCon Try.prog 15 [(true, [rowR 38 4 dasEntry zEntry a]), (true, [rowR 38 4 dasEntry zEntry b])] [(true, [Da.row 38 4 (mrgL a b).length fun i j => (dasEntry ((mrgL a b).getD i zEntry)).getD j (Da.val undef)]), (false, [dB (true)])]) ∧ ((FnCon Try.prog 15 [(true, [rowR 38 4 dasEntry zEntry b]), (true, [rowR 38 4 dasEntry zEntry a])] [(true, [Da.row 38 4 (mrgL a b).length fun i j => (dasEntry ((mrgL a b).getD i zEntry)).getD j (Da.val undef)]), (false, [dB (true)])]) ∧ ((FnCon Try.prog 15 [(true, [Da.row 38 4 (mrgL a b).length fun i j => (dasEntry ((mrgL a b).getD i zEntry)).getD j (Da.val undef)]), (true, [rowR 38 4 dasEntry zEntry c])] [(true, [Da.row 38 4 (mrgL (mrgL a b) c).length fun i j => (dasEntry ((mrgL (mrgL a b) c).getD i zEntry)).getD j (Da.val undef)]), (false, [dB (true)])]) ∧ ((FnCon Try.prog 15 [(true, [rowR 38 4 dasEntry zEntry b]), (true, [rowR 38 4 dasEntry zEntry c])] [(true, [Da.row 38 4 (mrgL b c).length fun i j => (dasEntry ((mrgL b c).getD i zEntry)).getD j (Da.val undef)]), (false, [dB (true)])]) ∧ ((FnCon Try.prog 15 [(true, [rowR 38 4 dasEntry zEntry a]), (true, [Da.row 38 4 (mrgL b c).length fun i j => (dasEntry ((mrgL b c).getD i zEntry)).getD j (Da.val undef)])] [(true, [Da.row 38 4 (mrgL (mrgL a b) c).length fun i j => (dasEntry ((mrgL (mrgL a b) c).getD i zEntry)).getD j (Da.val undef)]), (false, [dB (true)])]) ∧ ((FnCon Try.prog 15 [(true, [rowR 38 4 dasEntry zEntry a]), (true, [rowR 38 4 dasEntry zEntry a])] [(true, [rowR 38 4 dasEntry zEntry a]), (false, [dB (true)])]) ∧ (true = true ∧ (true = true ∧ (true = true ∧ (true = true ∧ (true = true ∧ (true = true ∧ ((FnCon Try.prog 16 [(true, [Da.row 38 4 (mrgL a b).length fun i j => (dasEntry ((mrgL a b).getD i zEntry)).getD j (Da.val undef)]), (true, [Da.row 38 4 (mrgL a b).length fun i j => (dasEntry ((mrgL a b).getD i zEntry)).getD j (Da.val undef)])] [(false, [dB (true)])]) ∧ (true = true ∧ ((FnCon Try.prog 16 [(true, [Da.row 38 4 (mrgL (mrgL a b) c).length fun i j => (dasEntry ((mrgL (mrgL a b) c).getD i zEntry)).getD j (Da.val undef)]), (true, [Da.row 38 4 (mrgL (mrgL a b) c).length fun i j => (dasEntry ((mrgL (mrgL a b) c).getD i zEntry)).getD j (Da.val undef)])] [(false, [dB (true)])]) ∧ (true = true ∧ ((FnCon Try.prog 16 [(true, [rowR 38 4 dasEntry zEntry a]), (true, [rowR 38 4 dasEntry zEntry a])] [(false, [dB (true)])]) ∧ (true = true ∧ ((FnCon Try.prog 17 [(true, [Da.row 38 4 (mrgL a b).length fun i j => (dasEntry ((mrgL a b).getD i zEntry)).getD j (Da.val undef)]), (true, [rowR 38 4 dasEntry zEntry a])] [(false, [dB (true)])]) ∧ (true = true ∧ ((FnCon Try.prog 17 [(true, [Da.row 38 4 (mrgL a b).length fun i j => (dasEntry ((mrgL a b).getD i zEntry)).getD j (Da.val undef)]), (true, [rowR 38 4 dasEntry zEntry b])] [(false, [dB (true)])]) ∧ (true = true ∧ ((FnCon Try.prog 17 [(true, [Da.row 38 4 (mrgL (mrgL a b) c).length fun i j => (dasEntry ((mrgL (mrgL a b) c).getD i zEntry)).getD j (Da.val undef)]), (true, [rowR 38 4 dasEntry zEntry c])] [(false, [dB (true)])]) ∧ (true = true ∧ ((FnCon Try.prog 18 [(true, [Da.row 38 4 (mrgL (mrgL a b) c).length fun i j => (dasEntry ((mrgL (mrgL a b) c).getD i zEntry)).getD j (Da.val undef)])] [(false, [dB (true)])]) ∧ (false = false ∧ Value.bool true = Value.bool true))))))))))))))))))))))))))))) (callsBy fun d _ _ => match d with | some 19 => some [bV false] | some 22 => some [(true, [rowR 38 4 dasEntry zEntry a]), (true, [rowR 38 4 dasEntry zEntry b]), (true, [rowR 38 4 dasEntry zEntry c])] | some 29 => some [(true, [rowR 38 4 dasEntry zEntry (mrgL a b)]), bV true] | some 35 => some [(true, [rowR 38 4 dasEntry zEntry (mrgL a b)]), bV true] | some 41 => some [(true, [rowR 38 4 dasEntry zEntry (mrgL (mrgL a b) c)]), bV true] | some 47 => some [(true, [rowR 38 4 dasEntry zEntry (mrgL b c)]), bV true] | some 53 => some [(true, [rowR 38 4 dasEntry zEntry (mrgL (mrgL a b) c)]), bV true] | some 59 => some [(true, [rowR 38 4 dasEntry zEntry a]), bV true] | some 81 => some [bV true] | some 86 => some [bV true] | some 91 => some [bV true] | some 96 => some [bV true] | some 101 => some [bV true] | some 106 => some [bV true] | some 110 => some [bV true] | _ => none) (noLoops) Try.func3 (by kernel_rfl) (by kernel_rfl) (by kernel_rfl) (fun _ => trivial) (by kernel_rfl) ?_
  refine ⟨?g0, ?g1, ?g2, ?g3, ?g4, ?g5, ?g6, ?g7, rfl, rfl, rfl, rfl, rfl, rfl, ?g8, rfl, ?g9, rfl, ?g10, rfl, ?g11, rfl, ?g12, rfl, ?g13, rfl, ?g14, rfl, rfl⟩
  all_goals have hX := (ha.mrg hb).1
  all_goals have hXC := (hX.mrg hc).1
  all_goals have hBC := (hb.mrg hc).1
  case g0 => exact conBig xs hx
  case g1 => exact hD
  case g2 => exact conM ha hb rfl
  case g3 => exact conM hb ha (mrg_comm hb.asc ha.asc)
  case g4 => exact conM hX hc rfl
  case g5 => exact conM hb hc rfl
  case g6 => exact conM ha hBC (mrg_assoc ha.asc hb.asc hc.asc).symm
  case g7 => exact conM ha ha (mrg_idem ha.asc)
  case g8 => exact conE hX hX rfl
  case g9 => exact conE hXC hXC rfl
  case g10 => exact conE ha ha rfl
  case g11 => exact conI hX ha (mrg_left ha.asc hb.asc)
  case g12 => exact conI hX hb (mrg_right ha.asc hb.asc)
  case g13 => exact conI hXC hc (mrg_right hX.asc hc.asc)
  case g14 => have := C17k.conIsB (mrgL (mrgL a b) c) (by have := (vbu_is hXC.vb).2.2; omega); rw [hXC.vb] at this; exact this
end Go.Proofs.Ytoedfeacpllkeaa.L17b
