/-
  Contract of chapter 10's SignWithStore, of the model.
-/
import Derived.Test.YtialhhdhpjjkaaaDoorC10
import Derived.Test.YtialhhdhpjjkaaaDoorDa14
namespace Go.Proofs.YtialhhdhpjjkaaaDoor.C10b
open Go.ChangeShapes Go.WideShapes Go.ChangeAt Go.RowKit
open S0 S1 S9 Dm Fx M3 M8 C3 C6 C10 E0 E1 E2 E3 E4 E7 E10 E15 E16 E17 E18 E19 E20 Das
set_option linter.unusedVariables false
set_option linter.unusedSimpArgs false
set_option maxRecDepth 100000
set_option maxHeartbeats 4000000
theorem conVst (x : Fx.KeyStore) : FnCon Tryd.prog 24 [(true, dasKeyStore x)] [bV (vst x)] :=
  con_of_plain (con_enters Tryd.func24 (by kernel_rfl) (by kernel_rfl)) rfl fun w v0 k0 => by
    obtain ⟨us, v1, rfl, hr, k1⟩ := of_aggA (dasKeyStore_dc x) k0
    obtain rfl := of_nil k1
    exact specVst w x us hr
theorem conPrvS (x : Fx.KeyStore) (z : ByteArray) (k : Int) (ho : x.ok) (hs : z.size ≤ 16000000) (k0 : -9223372036854775808 ≤ k) (k1_ : k ≤ 9223372036854775807) : FnCon Tryd.prog 26 [(true, dasKeyStore x), sV z, iV k] [iV (prvS x z k)] :=
  con_of_plain (con_enters Tryd.func26 (by kernel_rfl) (by kernel_rfl)) rfl fun w v0 k00 => by
    obtain ⟨us, v1, rfl, hr, k1⟩ := of_aggA (dasKeyStore_dc x) k00
    obtain ⟨v2, rfl, k2⟩ := of_valA k1
    obtain ⟨v3, rfl, k3⟩ := of_valA k2
    obtain rfl := of_nil k3
    exact specPrvS w x z k us hr ho hs k0 k1_
theorem conSgn (d : Da) (xs : List Int) (hd : d.dc = flatD 3 .i64 1 xs.length xs) (k : Int) (hx : okInts xs) (hn : xs.length ≤ 1048577) : FnCon Tryd.prog 25 [iV k, (false, [d])] [iV (sgn k xs)] :=
  con_of_plain (con_enters Tryd.func25 (by kernel_rfl) (by kernel_rfl)) rfl fun w v0 k00 => by
    obtain ⟨v1, rfl, k1⟩ := of_valA k00
    obtain ⟨v, v2, rfl, hr, k2⟩ := of_rowA hd k1
    obtain rfl := of_nil k2
    obtain ⟨A, c, rfl, hq⟩ := rds_flat hr
    exact specSgn w A _ c xs k hq hx (by omega)
theorem conSign (x : Fx.KeyStore) (z : ByteArray) (k : Int) (m : List Int) (ho : x.ok) (hs : z.size ≤ 16000000) (k0 : -9223372036854775808 ≤ k) (k1 : k ≤ 9223372036854775807) (hm : okInts m) (hn : m.length ≤ 1048576) : FnCon Tryd.prog 15 ([(true, dasKeyStore x), sV z, iV k, (false, [numR 3 .i64 m])]) ([(true, dasKeyStore (signX x)), iV (signV x z k m), bV (signB x)]) := by
  have hc_ : vst x = true → 0 ≤ x.Counter ∧ x.Counter ≤ 1000000 := fun e => by
    unfold vst at e
    simp only [Bool.and_eq_true, decide_eq_true_eq] at e
    exact e.2
  have hF_ : signB x = false → signX x = x ∧ signV x z k m = 0 := fun e => ⟨by unfold signX; rw [e]; rfl, by unfold signV; rw [e]; rfl⟩
  have hT_ : signB x = true → signX x = ⟨x.Vendor, x.Serial, x.Seed, x.Counter + 1⟩ ∧ signV x z k m = sgn (prvS x z k) (m ++ [x.Counter + 1]) := fun e => ⟨by unfold signX; rw [if_pos e], by unfold signV; rw [if_pos e]⟩
  refine fn_go (p := bcase (!vst x) (FnCon Tryd.prog 24 [(true, dasKeyStore x)] [(false, [dB ((vst x))])] ∧ ((!vst x) = true ∧ ((true = true ∧ (vI x.Vendor = vI (signX x).Vendor ∧ (vI x.Serial = vI (signX x).Serial ∧ (vI x.Seed = vI (signX x).Seed ∧ vI x.Counter = vI (signX x).Counter)))) ∧ ((false = false ∧ vI 0 = vI (signV x z k m)) ∧ (false = false ∧ Value.bool false = Value.bool (signB x)))))) (FnCon Tryd.prog 24 [(true, dasKeyStore x)] [(false, [dB ((vst x))])] ∧ ((!vst x) = false ∧ bcase (x.Counter == 1000000) ((true = true ∧ (vI x.Vendor = vI (signX x).Vendor ∧ (vI x.Serial = vI (signX x).Serial ∧ (vI x.Seed = vI (signX x).Seed ∧ vI x.Counter = vI (signX x).Counter)))) ∧ ((false = false ∧ vI 0 = vI (signV x z k m)) ∧ (false = false ∧ Value.bool false = Value.bool (signB x)))) (FnCon Tryd.prog 26 [(true, dasKeyStore x), (false, [dS (z)]), (false, [dI (k)])] [(false, [dI ((prvS x z k))])] ∧ ((E9.PlainEl m.length 1 fun i x => dI ((m.getD i 0))) ∧ (0 + m.length ≤ 1000000000000 ∧ ((0 + m.length) * 8 ≤ 140737488355328 ∧ ((E9.PlainEl 1 1 fun i j => Da.val ([vI (IntKind.i64.wrap (x.Counter + 1))].getD (i * 1 + j) undef)) ∧ (0 + m.length + 1 ≤ 1000000000000 ∧ ((0 + m.length + 1) * 8 ≤ 140737488355328 ∧ ((FnCon Tryd.prog 25
  [(false, [dI ((prvS x z k))]),
    (false,
      [Da.row 3 1 (0 + m.length + 1) fun i j =>
          match i.succ.ble (0 + m.length) with
          | true => dI ((m.getD (i - 0) 0))
          | false => Da.val ([vI (IntKind.i64.wrap (x.Counter + 1))].getD ((i - (0 + m.length)) * 1 + j) undef)])]
  [(false, [dI ((sgn (prvS x z k) (m.append [x.Counter + 1])))])]) ∧ ((true = true ∧ (vI x.Vendor = vI (signX x).Vendor ∧ (vI x.Serial = vI (signX x).Serial ∧ (vI x.Seed = vI (signX x).Seed ∧ vI (IntKind.i64.wrap (x.Counter + 1)) = vI (signX x).Counter)))) ∧ ((false = false ∧ vI (sgn (prvS x z k) (m.append [x.Counter + 1])) = vI (signV x z k m)) ∧ (false = false ∧ Value.bool true = Value.bool (signB x))))))))))))))) (callsBy fun _ _ a => match a with | [(true, _)] => some [bV (vst x)] | [(true, _), _, _] => some [iV (prvS x z k)] | [_, (false, _)] => some [iV (sgn (prvS x z k) (m ++ [x.Counter + 1]))] | _ => none) (noLoops) Tryd.func15 (by kernel_rfl) (by kernel_rfl) (by kernel_rfl) (fun _ => trivial) (by kernel_rfl) ?_
  refine bcase_intro (fun h0 => ⟨(conVst x), h0, ⟨rfl, congrArg _ ?g2, congrArg _ ?g3, congrArg _ ?g4, congrArg _ ?g5⟩, ⟨rfl, congrArg _ ?g6⟩, rfl, congrArg _ ?g7⟩) (fun h0 => ⟨(conVst x), h0, bcase_intro (fun h9 => ⟨⟨rfl, congrArg _ ?g10, congrArg _ ?g11, congrArg _ ?g12, congrArg _ ?g13⟩, ⟨rfl, congrArg _ ?g14⟩, rfl, congrArg _ ?g15⟩) (fun h9 => ⟨(conPrvS x z k ho hs k0 k1), ?g17, ?g18, ?g19, ?g20, ?g21, ?g22, ?g23, ⟨rfl, congrArg _ ?g24, congrArg _ ?g25, congrArg _ ?g26, congrArg _ ?g27⟩, ⟨rfl, congrArg _ ?g28⟩, rfl, congrArg _ ?g29⟩)⟩)
  case g2 | g3 | g4 | g5 | g6 | g7 =>
    have e : signB x = false := by unfold signB; rw [show vst x = false by simpa using h0]; rfl
    first | rw [(hF_ e).1] | rw [(hF_ e).2] | exact e.symm
  case g10 | g11 | g12 | g13 | g14 | g15 =>
    have e : signB x = false := by unfold signB; rw [decide_eq_true (show x.Counter = 1000000 by simpa using h9)]; simp
    first | rw [(hF_ e).1] | rw [(hF_ e).2] | exact e.symm
  all_goals
    have hv : vst x = true := by simpa using h0
    have hn9 : x.Counter ≠ 1000000 := by simpa using h9
    obtain ⟨hc0, hc1⟩ := hc_ hv
    have hw : IntKind.i64.wrap (x.Counter + 1) = x.Counter + 1 := IntWalk.i64_in _ (by omega)
    have e : signB x = true := by unfold signB; rw [hv, decide_eq_false hn9]; rfl
  case g17 | g20 =>
    intro i hi j hj
    obtain rfl : j = 0 := by omega
    first | rfl | (obtain rfl : i = 0 := by omega
                   rfl)
  case g18 | g19 | g21 | g22 => omega
  case g23 =>
    rw [hw]
    exact conSgn _ (m ++ [x.Counter + 1]) ((num_to (row_app (row_app row_nil num_self) num_one) rfl).dc.trans (numR_dc _ _ _)) _ (hm.app (okInts.one (by omega) (by omega))) (by simp; omega)
  all_goals first | rw [(hT_ e).1] | exact ((hT_ e).2).symm | exact e.symm
  case g27 => exact hw
theorem ks_shs (w : World) (hi : Nat) (x : Fx.KeyStore) {us : List Value} (h : RdsL w hi x.dcs us) : E0.ShsL w hi x.dcs us :=
  E0.shsL_vals (fun d hd => by
    simp only [KeyStore.dcs, List.mem_cons, List.not_mem_nil, or_false] at hd
    rcases hd with rfl | rfl | rfl | rfl <;> exact ⟨_, rfl⟩) h
theorem specSign (w : World) (x : Fx.KeyStore) (s : ByteArray) (k : Int) (m : List Int) (us : List Value) (v : Value) (h : RdsL w w.heap.size x.dcs us) (ho : x.ok) (hs : s.size ≤ 16000000) (k0 : -9223372036854775808 ≤ k) (k1 : k ≤ 9223372036854775807) (g : E0.Shs w w.heap.size (numsD m) v) (hm : okInts m) (hn : m.length ≤ 1048576) :
    Calls Tryd.prog 15 #[.agg us.toArray, .string s, .int .i64 k, v] w (MadeLx (signX x).dcs (fun vs => .tuple #[.agg vs.toArray, .int .i64 (signV x s k m), .bool (signB x)]) w) :=
  con_made (conSign x s k m ho hs k0 k1 hm hn) (us := [.int .i64 (signV x s k m), .bool (signB x)]) rfl (dasKeyStore_dc _) (arg_agg (dasKeyStore_dc x) (ks_shs w _ x h) (arg_val (arg_val (arg_row (numR_dc _ _ _) g arg_nil))))
end Go.Proofs.YtialhhdhpjjkaaaDoor.C10b
