import Derived.Test.YtoedfeacpllkeaaEb
import Derived.Test.YtoedfeacpllkeaaDg
import Derived.Test.YtoedfeacpllkeaaC0
namespace Go.Proofs.Ytoedfeacpllkeaa.Dr
open Go.ChangeShapes Go.WideShapes Go.ChangeAt Go.RowKit
open S0 S1 S9 E0 E1 E2 E3 E4 E7 E10 E15 E16 E17 E18 E19 E20 E22
set_option linter.unusedVariables false
set_option linter.unusedSimpArgs false
set_option maxRecDepth 100000
set_option maxHeartbeats 4000000
def byteH (h : Int) : Int := IntKind.i64.wrap (IntKind.i64.wrap (h * 6364136223846793005) + 1442695040888963407)
def byteX (h : Int) : Int := bits .and .i64 (bits .xor .i64 ((byteH h).fdiv 8589934592) ((byteH h).fdiv 140737488355328)) 255
def byteV (xs : List Int) (i h : Int) : Int := if i < xs.length then bits .and .i64 (IntKind.i64.wrap (byteX h + IntKind.i64.wrap (xs.getD i.toNat 0))) 255 else byteX h
def byteI (xs : List Int) (i : Int) : Int := if i < xs.length then IntKind.i64.wrap (i + 1) else i
theorem lnByte (xs : List Int) (i h : Int) (i0 : 0 ≤ i) : E22.LentCon Try.prog 61 71 ([.old (numR 5 .u8 xs), .val (.int .i64 (i)), .val (.int .i64 (h))]) ([]) ([iV (byteV xs i h)]) ([.old (numR 5 .u8 xs), .val (.int .i64 (byteI xs i)), .val (.int .i64 (byteH h))]) := by
  refine E22.lent_go (p := fun R => bcase (decide (i < (↑xs.length : Int))) ((0 ≤ i ∧ i < (↑xs.length : Int)) ∧ ((false = false ∧ vI (IntKind.i64.wrap (↑(BitVec.ofInt 64 (IntKind.i64.wrap (IntKind.i64.wrap (↑(BitVec.ofInt 64 (IntKind.i64.wrap (↑(BitVec.ofInt 64 ((IntKind.i64.wrap (IntKind.i64.wrap (h * 6364136223846793005) + 1442695040888963407)).fdiv 8589934592) ^^^ BitVec.ofInt 64 ((IntKind.i64.wrap (IntKind.i64.wrap (h * 6364136223846793005) + 1442695040888963407)).fdiv 140737488355328)).toNat : Int)) &&& BitVec.ofInt 64 255).toNat : Int) + IntKind.i64.wrap (xs.getD i.toNat 0))) &&& BitVec.ofInt 64 255).toNat : Int)) = vI (byteV xs i h)) ∧ ((71 = 71 ∧ ((Sc.old (Da.row 5 1 xs.length fun i x => Da.val (Value.int IntKind.u8 (xs.getD i 0))) = Sc.old (Da.row 5 1 xs.length fun i x => Da.val (Value.int IntKind.u8 (xs.getD i 0)))) ∧ (vI (IntKind.i64.wrap (i + 1)) = vI (byteI xs i) ∧ vI (IntKind.i64.wrap (IntKind.i64.wrap (h * 6364136223846793005) + 1442695040888963407)) = vI (byteH h)))) ∧ R = R))) ((false = false ∧ vI (IntKind.i64.wrap (↑(BitVec.ofInt 64 (IntKind.i64.wrap (↑(BitVec.ofInt 64 ((IntKind.i64.wrap (IntKind.i64.wrap (h * 6364136223846793005) + 1442695040888963407)).fdiv 8589934592) ^^^ BitVec.ofInt 64 ((IntKind.i64.wrap (IntKind.i64.wrap (h * 6364136223846793005) + 1442695040888963407)).fdiv 140737488355328)).toNat : Int)) &&& BitVec.ofInt 64 255).toNat : Int)) = vI (byteV xs i h)) ∧ ((71 = 71 ∧ ((Sc.old (Da.row 5 1 xs.length fun i x => Da.val (Value.int IntKind.u8 (xs.getD i 0))) = Sc.old (Da.row 5 1 xs.length fun i x => Da.val (Value.int IntKind.u8 (xs.getD i 0)))) ∧ (vI i = vI (byteI xs i) ∧ vI (IntKind.i64.wrap (IntKind.i64.wrap (h * 6364136223846793005) + 1442695040888963407)) = vI (byteH h)))) ∧ R = R))) (noCalls) (noLoops) Try.func61 (by kernel_rfl) (by kernel_rfl) (by kernel_rfl) (fun _ => trivial) rfl (by kernel_rfl) ?_
  intro R hR
  refine bcase_intro (fun h0 => ⟨⟨?g1, ?g2⟩, ⟨rfl, congrArg _ ?g3⟩, ⟨rfl, rfl, congrArg _ ?g4, congrArg _ ?g5⟩, rfl⟩) (fun h0 => ⟨⟨rfl, congrArg _ ?g6⟩, ⟨rfl, rfl, congrArg _ ?g7, congrArg _ ?g8⟩, rfl⟩)
  case g1 => exact i0
  case g2 => exact of_decide_eq_true h0
  case g3 => rw [byteV, if_pos (of_decide_eq_true h0)]; rfl
  case g4 => rw [byteI, if_pos (of_decide_eq_true h0)]
  case g5 | g8 => rfl
  case g6 => rw [byteV, if_neg (of_decide_eq_false h0)]; rfl
  case g7 => rw [byteI, if_neg (of_decide_eq_false h0)]
def OkS (xs : List Int) (s : Int × Int) : Prop := 0 ≤ s.1 ∧ xs.length ≤ 140737488351232
theorem byteI_ok {xs : List Int} {i h : Int} (k : OkS xs (i, h)) : OkS xs (byteI xs i, byteH h) := by
  obtain ⟨h1, h2⟩ := k
  refine ⟨?_, h2⟩
  have h1 : 0 ≤ i := h1
  show 0 ≤ byteI xs i
  unfold byteI
  split
  · rw [IntWalk.i64_in _ (by omega)]; omega
  · exact h1
theorem byteV_bd (xs : List Int) (i h : Int) : 0 ≤ byteV xs i h ∧ byteV xs i h ≤ 255 := by
  unfold byteV byteX
  split <;> exact C0.and255_bd _
/-- The next number below n, and where the cursor is then. -/
def bel (xs : List Int) (n : Int) (s : Int × Int) : Int × Int × Int :=
  if n ≤ 0 then (0, s.1, s.2) else if n ≤ 256 then ((byteV xs s.1 s.2).tmod n, byteI xs s.1, byteH s.2)
  else ((byteV xs s.1 s.2 * 65536 + byteV xs (byteI xs s.1) (byteH s.2) * 256 + byteV xs (byteI xs (byteI xs s.1)) (byteH (byteH s.2))).tmod n, byteI xs (byteI xs (byteI xs s.1)), byteH (byteH (byteH s.2)))
theorem bel_ok {xs : List Int} {n : Int} {s : Int × Int} (k : OkS xs s) : OkS xs (bel xs n s).2 := by
  unfold bel
  split
  · exact k
  · split
    · exact byteI_ok k
    · exact byteI_ok (byteI_ok (byteI_ok k))
theorem bel_bd (xs : List Int) {n : Int} (s : Int × Int) (hn : 0 < n) : 0 ≤ (bel xs n s).1 ∧ (bel xs n s).1 < n := by
  have tb : ∀ x : Int, 0 ≤ x → 0 ≤ x.tmod n ∧ x.tmod n < n := fun x hx => ⟨Int.tmod_nonneg n hx, Int.tmod_lt_of_pos x hn⟩
  unfold bel
  rw [if_neg (by omega)]
  split
  · exact tb _ (byteV_bd _ _ _).1
  · refine tb _ ?_
    have h1 := byteV_bd xs s.1 s.2
    have h2 := byteV_bd xs (byteI xs s.1) (byteH s.2)
    have h3 := byteV_bd xs (byteI xs (byteI xs s.1)) (byteH (byteH s.2))
    omega
theorem lnBel (xs : List Int) (n i h : Int) (k : OkS xs (i, h)) (n1 : n ≤ 9223372036854775807) : E22.LentCon Try.prog 41 71 ([.old (numR 5 .u8 xs), .val (.int .i64 (i)), .val (.int .i64 (h))]) ([.int .i64 n]) ([iV (bel xs n (i, h)).1]) ([.old (numR 5 .u8 xs), .val (.int .i64 ((bel xs n (i, h)).2.1)), .val (.int .i64 ((bel xs n (i, h)).2.2))]) := by
  refine E22.lent_go (p := fun R => bcase (decide (n ≤ 0)) ((false = false ∧ vI 0 = vI (bel xs n (i, h)).1) ∧ ((71 = 71 ∧ ((Sc.old (Da.row 5 1 xs.length fun i x => Da.val (Value.int IntKind.u8 (xs.getD i 0))) = Sc.old (Da.row 5 1 xs.length fun i x => Da.val (Value.int IntKind.u8 (xs.getD i 0)))) ∧ (vI i = vI (bel xs n (i, h)).snd.1 ∧ vI h = vI (bel xs n (i, h)).snd.2))) ∧ R = R)) (bcase (decide (n ≤ 256)) ((Cust Try.prog (fun x => True) 50008 (opOf (Try.f41.body.getD Code.skip) 4 1) [AV.one (Sc.val (Value.func (Fn.func 61) { toList := [] } { toList := [] })), AV.one (Sc.ptr 1 0)] [Ob.var 71 [Sc.old (Da.row 5 1 xs.length fun i x => Da.val (Value.int IntKind.u8 (xs.getD i 0))), Sc.val (vI i), Sc.val (vI h)]] { need := [], val := AV.one (Sc.val (vI (byteV xs i h))), mem := [(1, Ob.var 71 [Sc.old (Da.row 5 1 xs.length fun i x => Da.val (Value.int IntKind.u8 (xs.getD i 0))), Sc.val (vI (byteI xs i)), Sc.val (vI (byteH h))])] }) ∧ (n ≠ 0 ∧ ((false = false ∧ vI ((byteV xs i h).tmod n) = vI (bel xs n (i, h)).1) ∧ ((71 = 71 ∧ ((Sc.old (Da.row 5 1 xs.length fun i x => Da.val (Value.int IntKind.u8 (xs.getD i 0))) = Sc.old (Da.row 5 1 xs.length fun i x => Da.val (Value.int IntKind.u8 (xs.getD i 0)))) ∧ (vI (byteI xs i) = vI (bel xs n (i, h)).snd.1 ∧ vI (byteH h) = vI (bel xs n (i, h)).snd.2))) ∧ R = R)))) ((Cust Try.prog (fun x => True) 60008 (opOf (Try.f41.body.getD Code.skip) 5 1) [AV.one (Sc.val (Value.func (Fn.func 61) { toList := [] } { toList := [] })), AV.one (Sc.ptr 1 0)] [Ob.var 71 [Sc.old (Da.row 5 1 xs.length fun i x => Da.val (Value.int IntKind.u8 (xs.getD i 0))), Sc.val (vI i), Sc.val (vI h)]] { need := [], val := AV.one (Sc.val (vI (byteV xs i h))), mem := [(1, Ob.var 71 [Sc.old (Da.row 5 1 xs.length fun i x => Da.val (Value.int IntKind.u8 (xs.getD i 0))), Sc.val (vI (byteI xs i)), Sc.val (vI (byteH h))])] }) ∧ ((Cust Try.prog (fun x => True) 70008 (opOf (Try.f41.body.getD Code.skip) 6 1) [AV.one (Sc.val (Value.func (Fn.func 61) { toList := [] } { toList := [] })), AV.one (Sc.ptr 1 0)] [Ob.var 71 [Sc.old (Da.row 5 1 xs.length fun i x => Da.val (Value.int IntKind.u8 (xs.getD i 0))), Sc.val (vI (byteI xs i)), Sc.val (vI (byteH h))]] { need := [], val := AV.one (Sc.val (vI (byteV xs (byteI xs i) (byteH h)))), mem := [(1, Ob.var 71 [Sc.old (Da.row 5 1 xs.length fun i x => Da.val (Value.int IntKind.u8 (xs.getD i 0))), Sc.val (vI (byteI xs (byteI xs i))), Sc.val (vI (byteH (byteH h)))])] }) ∧ ((Cust Try.prog (fun x => True) 80008 (opOf (Try.f41.body.getD Code.skip) 7 1) [AV.one (Sc.val (Value.func (Fn.func 61) { toList := [] } { toList := [] })), AV.one (Sc.ptr 1 0)] [Ob.var 71 [Sc.old (Da.row 5 1 xs.length fun i x => Da.val (Value.int IntKind.u8 (xs.getD i 0))), Sc.val (vI (byteI xs (byteI xs i))), Sc.val (vI (byteH (byteH h)))]] { need := [], val := AV.one (Sc.val (vI (byteV xs (byteI xs (byteI xs i)) (byteH (byteH h))))), mem := [(1, Ob.var 71 [Sc.old (Da.row 5 1 xs.length fun i x => Da.val (Value.int IntKind.u8 (xs.getD i 0))), Sc.val (vI (byteI xs (byteI xs (byteI xs i)))), Sc.val (vI (byteH (byteH (byteH h))))])] }) ∧ (n ≠ 0 ∧ ((false = false ∧ vI ((IntKind.i64.wrap (IntKind.i64.wrap (IntKind.i64.wrap (byteV xs i h * 65536) + IntKind.i64.wrap (byteV xs (byteI xs i) (byteH h) * 256)) + byteV xs (byteI xs (byteI xs i)) (byteH (byteH h)))).tmod n) = vI (bel xs n (i, h)).1) ∧ ((71 = 71 ∧ ((Sc.old (Da.row 5 1 xs.length fun i x => Da.val (Value.int IntKind.u8 (xs.getD i 0))) = Sc.old (Da.row 5 1 xs.length fun i x => Da.val (Value.int IntKind.u8 (xs.getD i 0)))) ∧ (vI (byteI xs (byteI xs (byteI xs i))) = vI (bel xs n (i, h)).snd.1 ∧ vI (byteH (byteH (byteH h))) = vI (bel xs n (i, h)).snd.2))) ∧ R = R)))))))) (⟨fun _ _ _ => none, fun id vs os => match id with | 50008 => some ⟨[], .one (.val (.int .i64 (byteV xs i h))), [(1, .var 71 [.old (numR 5 .u8 xs), .val (.int .i64 (byteI xs i)), .val (.int .i64 (byteH h))])]⟩ | 60008 => some ⟨[], .one (.val (.int .i64 (byteV xs i h))), [(1, .var 71 [.old (numR 5 .u8 xs), .val (.int .i64 (byteI xs i)), .val (.int .i64 (byteH h))])]⟩ | 70008 => some ⟨[], .one (.val (.int .i64 (byteV xs (byteI xs i) (byteH h)))), [(1, .var 71 [.old (numR 5 .u8 xs), .val (.int .i64 (byteI xs (byteI xs i))), .val (.int .i64 (byteH (byteH h)))])]⟩ | 80008 => some ⟨[], .one (.val (.int .i64 (byteV xs (byteI xs (byteI xs i)) (byteH (byteH h))))), [(1, .var 71 [.old (numR 5 .u8 xs), .val (.int .i64 (byteI xs (byteI xs (byteI xs i)))), .val (.int .i64 (byteH (byteH (byteH h))))])]⟩ | _ => none, fun _ => True⟩) (noLoops) Try.func41 (by kernel_rfl) (by kernel_rfl) (by kernel_rfl) (fun _ => trivial) rfl (by kernel_rfl) ?_
  intro R hR
  refine bcase_intro (fun h0 => ⟨⟨rfl, congrArg _ ?g1⟩, ⟨rfl, rfl, congrArg _ ?g2, congrArg _ ?g3⟩, rfl⟩) (fun h0 => bcase_intro (fun h4 => ⟨?g5, ?g6, ⟨rfl, congrArg _ ?g7⟩, ⟨rfl, rfl, congrArg _ ?g8, congrArg _ ?g9⟩, rfl⟩) (fun h4 => ⟨?g10, ?g11, ?g12, ?g13, ⟨rfl, congrArg _ ?g14⟩, ⟨rfl, rfl, congrArg _ ?g15, congrArg _ ?g16⟩, rfl⟩))
  case g1 | g2 | g3 => rw [bel, if_pos (of_decide_eq_true h0)]
  all_goals have e0 : ¬ n ≤ 0 := of_decide_eq_false h0
  case g6 | g13 => omega
  case g5 | g10 => exact cust_lent rfl rfl rfl rfl rfl rfl rfl rfl (lnByte xs i h k.1) rfl (by omega)
  case g11 => exact cust_lent rfl rfl rfl rfl rfl rfl rfl rfl (lnByte xs (byteI xs i) (byteH h) (byteI_ok k).1) rfl (by omega)
  case g12 => exact cust_lent rfl rfl rfl rfl rfl rfl rfl rfl (lnByte xs (byteI xs (byteI xs i)) (byteH (byteH h)) (byteI_ok (byteI_ok k)).1) rfl (by omega)
  case g7 | g8 | g9 => rw [bel, if_neg e0, if_pos (of_decide_eq_true h4)]
  all_goals have e4 : ¬ n ≤ 256 := of_decide_eq_false h4
  case g15 | g16 => rw [bel, if_neg e0, if_neg e4]
  case g14 =>
    have h1 := byteV_bd xs i h
    have h2 := byteV_bd xs (byteI xs i) (byteH h)
    have h3 := byteV_bd xs (byteI xs (byteI xs i)) (byteH (byteH h))
    rw [bel, if_neg e0, if_neg e4]
    rw [IntWalk.i64_in (byteV xs i h * 65536) (by omega), IntWalk.i64_in (byteV xs (byteI xs i) (byteH h) * 256) (by omega), IntWalk.i64_in (byteV xs i h * 65536 + byteV xs (byteI xs i) (byteH h) * 256) (by omega), IntWalk.i64_in _ (by omega)]
/-- Where a cursor stands. -/
structure Cu where
  i : Int
  h : Int
structure OkC (xs : List Int) (s : Cu) : Prop where
  i0 : 0 ≤ s.i
  len : xs.length ≤ 140737488351232
def belV (xs : List Int) (n : Int) (s : Cu) : Int := (bel xs n (s.i, s.h)).1
def belS (xs : List Int) (n : Int) (s : Cu) : Cu := ⟨(bel xs n (s.i, s.h)).2.1, (bel xs n (s.i, s.h)).2.2⟩
theorem OkC.pair {xs : List Int} {s : Cu} (k : OkC xs s) : OkS xs (s.i, s.h) := ⟨k.i0, k.len⟩
theorem belS_ok {xs : List Int} {n : Int} {s : Cu} (k : OkC xs s) : OkC xs (belS xs n s) := ⟨(bel_ok k.pair (n := n)).1, k.len⟩
theorem belV_bd (xs : List Int) {n : Int} (s : Cu) (hn : 0 < n) : 0 ≤ belV xs n s ∧ belV xs n s < n := bel_bd xs (s.i, s.h) hn
/-- A cursor's cells. -/
abbrev cur (xs : List Int) (s : Cu) : List Sc := [.old (numR 5 .u8 xs), .val (.int .i64 s.i), .val (.int .i64 s.h)]
theorem lnB (xs : List Int) (n : Int) (s : Cu) (k : OkC xs s) (n1 : n ≤ 9223372036854775807) : LentCon Try.prog 41 71 (cur xs s) [.int .i64 n] [iV (belV xs n s)] (cur xs (belS xs n s)) := lnBel xs n s.i s.h k.pair n1
end Go.Proofs.Ytoedfeacpllkeaa.Dr
