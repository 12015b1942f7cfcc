/-
  Contracts of chapter 13's made assertions, of the model.
-/
import Derived.Test.YtialhhdhpjjkaaaDoorC13m
import Derived.Test.YtialhhdhpjjkaaaDoorC10b
import Derived.Test.YtialhhdhpjjkaaaDoorC9b
import Derived.Test.YtialhhdhpjjkaaaDoorBb
namespace Go.Proofs.YtialhhdhpjjkaaaDoor.C13b
open Go.ChangeShapes Go.WideShapes Go.ChangeAt Go.RowKit
open S0 S1 S9 Dm Fx M3 M8 M12 M13 C3 C6 C9 C10 C13m E0 E1 E2 E3 E4 E7 E10 E15 E16 E17 E18 E19 E20 Das
set_option linter.unusedVariables false
set_option linter.unusedSimpArgs false
set_option maxRecDepth 100000
set_option maxHeartbeats 4000000
noncomputable def a0 (o : Fx.Origin) (z : ByteArray) (k ch : Int) (p : Bool) : Fx.Assertion := ⟨z, str (fmtO o), ch, k, p, 0, 0⟩
noncomputable def mkB (x : Fx.KeyStore) (o : Fx.Origin) (z : ByteArray) : Bool := mayO o (bts z) && signB x
noncomputable def mkS (x : Fx.KeyStore) (o : Fx.Origin) (z : ByteArray) : Fx.KeyStore := if mkB x o z then signX x else x
noncomputable def mkA (x : Fx.KeyStore) (o : Fx.Origin) (z : ByteArray) (k ch : Int) (p : Bool) : Fx.Assertion :=
  if mkB x o z then ⟨z, str (fmtO o), ch, k, p, (signX x).Counter, signV x z k (msg (a0 o z k ch p))⟩ else ⟨⟨#[]⟩, ⟨#[]⟩, 0, 0, false, 0, 0⟩
/-- What making an assertion gives: a store, an assertion, whether. -/
def mkV (y : Fx.KeyStore) (a : Fx.Assertion) (b : Bool) : Value := .tuple #[.agg #[.int .i64 y.Vendor, .int .i64 y.Serial, .int .i64 y.Seed, .int .i64 y.Counter], .agg #[.string a.Site, .string a.Origin, .int .i64 a.Challenge, .int .i64 a.Handle, .bool a.Present, .int .i64 a.Counter, .int .i64 a.Signature], .bool b]
theorem fmt_size (o : Fx.Origin) : (str (fmtO o)).size ≤ 100 := by
  have h := fmtO_size o
  have e : (str (fmtO o)).size = (fmtO o).length := by rw [← bts_len, bts_str]
  omega
theorem or_shs (w : World) (hi : Nat) (x : Fx.Origin) {us : List Value} (h : RdsL w hi x.dcs us) : E0.ShsL w hi x.dcs us :=
  E0.shsL_vals (fun d hd => by
    simp only [Origin.dcs, List.mem_cons, List.not_mem_nil, or_false] at hd
    rcases hd with rfl | rfl | rfl <;> exact ⟨_, rfl⟩) h
theorem conFmtO (o : Fx.Origin) (h : o.Host.size ≤ 4294967296) : FnCon Tryd.prog 14 [(true, dasOrigin o)] [sV (str (fmtO o))] :=
  con_of_plain (con_enters Tryd.func14 (by kernel_rfl) (by kernel_rfl)) rfl fun w v0 k0 => by
    obtain ⟨us, v1, rfl, hr, k1⟩ := of_aggA (dasOrigin_dc o) k0
    obtain rfl := of_nil k1
    exact C9b.specFmtO w o us hr h
theorem conMay (o : Fx.Origin) (z : ByteArray) (h1 : o.Host.size ≤ 4294967296) (h2 : z.size ≤ 4294967296) : FnCon Tryd.prog 17 [(true, dasOrigin o), sV z] [bV (mayO o (bts z))] :=
  con_of_plain (con_enters Tryd.func17 (by kernel_rfl) (by kernel_rfl)) rfl fun w v0 k0 => by
    obtain ⟨us, v1, rfl, hr, k1⟩ := of_aggA (dasOrigin_dc o) k0
    obtain ⟨v2, rfl, k2⟩ := of_valA k1
    obtain rfl := of_nil k2
    exact C9b.specMay w o z us hr h1 h2
theorem conMsg (a : Fx.Assertion) (hs : a.Site.size ≤ 16000000) (hs2 : a.Origin.size ≤ 16000000) : FnCon Tryd.prog 16 [(true, dasAssertion a)] [(false, [numR 3 .i64 (msg a)])] :=
  con_of_madeD (con_enters Tryd.func16 (by kernel_rfl) (by kernel_rfl)) (us := []) rfl (numR_dc _ _ _) fun w vs k => by
    obtain ⟨us, v1, rfl, hr, k1⟩ := of_aggA (dasAssertion_dc a) k
    obtain rfl := of_nil k1
    refine (specMsg w a us hr hs hs2).mono fun e w' h => ?_
    obtain ⟨A, c, rfl, ho, hb⟩ := h
    exact ⟨_, _, rfl, owns_flat ho, Ra.block_nodup _, hb⟩
noncomputable def orcMk (x : Fx.KeyStore) (o : Fx.Origin) (z : ByteArray) (k ch : Int) (p : Bool) : Orc := callsBy fun _ _ a => match a with
  | [(true, _)] => match a with
    | [(true, [_, _, _])] => some [sV (str (fmtO o))]
    | _ => some [(false, [numR 3 .i64 (msg (a0 o z k ch p))])]
  | [(true, _), _] => some [bV (mayO o (bts z))]
  | _ => some [(true, dasKeyStore (signX x)), iV (signV x z k (msg (a0 o z k ch p))), bV (signB x)]
theorem conMake (x : Fx.KeyStore) (o : Fx.Origin) (z : ByteArray) (k ch : Int) (p : Bool) (hx : x.ok) (hz : z.size ≤ 15000000) (ho : o.Host.size ≤ 15000000) (k0 : -9223372036854775808 ≤ k) (k1 : k ≤ 9223372036854775807) (ch0 : -9223372036854775808 ≤ ch) (ch1 : ch ≤ 9223372036854775807) : FnCon Tryd.prog 6 ([(true, dasKeyStore x), (true, dasOrigin o), sV z, iV k, iV ch, bV p]) ([(true, dasKeyStore (mkS x o z)), (true, dasAssertion (mkA x o z k ch p)), bV (mkB x o z)]) := by
  have hz_ : (a0 o z k ch p).Site.size ≤ 16000000 := by show z.size ≤ 16000000; omega
  have hf_ : (a0 o z k ch p).Origin.size ≤ 16000000 := by have := fmt_size o; show (str (fmtO o)).size ≤ 16000000; omega
  have hz2_ : z.size ≤ 16000000 := by omega
  have ha_ : (a0 o z k ch p).ok := ⟨by show z.size ≤ maxLen; unfold maxLen; omega, by have := fmt_size o; show (str (fmtO o)).size ≤ maxLen; unfold maxLen; omega, ⟨ch0, ch1⟩, ⟨k0, k1⟩, trivial, ⟨by show (-9223372036854775808 : Int) ≤ 0; decide, by show (0 : Int) ≤ 9223372036854775807; decide⟩, ⟨by show (-9223372036854775808 : Int) ≤ 0; decide, by show (0 : Int) ≤ 9223372036854775807; decide⟩⟩
  have hF_ : mkB x o z = false → mkS x o z = x ∧ mkA x o z k ch p = ⟨⟨#[]⟩, ⟨#[]⟩, 0, 0, false, 0, 0⟩ := fun e => ⟨by unfold mkS; rw [e]; rfl, by unfold mkA; rw [e]; rfl⟩
  have hT_ : mkB x o z = true → mkS x o z = signX x ∧ mkA x o z k ch p = ⟨z, str (fmtO o), ch, k, p, (signX x).Counter, signV x z k (msg (a0 o z k ch p))⟩ := fun e => ⟨by unfold mkS; rw [if_pos e], by unfold mkA; rw [if_pos e]⟩
  refine fn_go (p := (FnCon Tryd.prog 14 [(true, dasOrigin o)] [(false, [dS ((str (fmtO o)))])] ∧ ((FnCon Tryd.prog 16 [(true, [dS (z), dS ((str (fmtO o))), dI (ch), dI (k), dB (p), dI (0), dI (0)])] [(false, [Da.row 3 1 (msg (a0 o z k ch p)).length fun i x => dI (((msg (a0 o z k ch p)).getD i 0))])]) ∧ ((FnCon Tryd.prog 15 [(true, dasKeyStore x), (false, [dS (z)]), (false, [dI (k)]), (false, [Da.row 3 1 (msg (a0 o z k ch p)).length fun i x => dI (((msg (a0 o z k ch p)).getD i 0))])] [(true, dasKeyStore (signX x)), (false, [dI ((signV x z k (msg (a0 o z k ch p))))]), (false, [dB ((signB x))])]) ∧ bcase (!mayO o (bts z)) (FnCon Tryd.prog 17 [(true, dasOrigin o), (false, [dS (z)])] [(false, [dB ((mayO o (bts z)))])] ∧ ((!mayO o (bts z)) = true ∧ ((true = true ∧ (vI x.Vendor = vI (mkS x o z).Vendor ∧ (vI x.Serial = vI (mkS x o z).Serial ∧ (vI x.Seed = vI (mkS x o z).Seed ∧ vI x.Counter = vI (mkS x o z).Counter)))) ∧ ((true = true ∧ (Value.string { data := { toList := [] } } = Value.string (mkA x o z k ch p).Site ∧ (Value.string { data := { toList := [] } } = Value.string (mkA x o z k ch p).Origin ∧ (vI 0 = vI (mkA x o z k ch p).Challenge ∧ (vI 0 = vI (mkA x o z k ch p).Handle ∧ (Value.bool false = Value.bool (mkA x o z k ch p).Present ∧ (vI 0 = vI (mkA x o z k ch p).Counter ∧ vI 0 = vI (mkA x o z k ch p).Signature))))))) ∧ (false = false ∧ Value.bool false = Value.bool (mkB x o z)))))) (FnCon Tryd.prog 17 [(true, dasOrigin o), (false, [dS (z)])] [(false, [dB ((mayO o (bts z)))])] ∧ ((!mayO o (bts z)) = false ∧ bcase (!signB x) ((true = true ∧ (vI x.Vendor = vI (mkS x o z).Vendor ∧ (vI x.Serial = vI (mkS x o z).Serial ∧ (vI x.Seed = vI (mkS x o z).Seed ∧ vI x.Counter = vI (mkS x o z).Counter)))) ∧ ((true = true ∧ (Value.string { data := { toList := [] } } = Value.string (mkA x o z k ch p).Site ∧ (Value.string { data := { toList := [] } } = Value.string (mkA x o z k ch p).Origin ∧ (vI 0 = vI (mkA x o z k ch p).Challenge ∧ (vI 0 = vI (mkA x o z k ch p).Handle ∧ (Value.bool false = Value.bool (mkA x o z k ch p).Present ∧ (vI 0 = vI (mkA x o z k ch p).Counter ∧ vI 0 = vI (mkA x o z k ch p).Signature))))))) ∧ (false = false ∧ Value.bool false = Value.bool (mkB x o z)))) ((true = true ∧ (vI (signX x).Vendor = vI (mkS x o z).Vendor ∧ (vI (signX x).Serial = vI (mkS x o z).Serial ∧ (vI (signX x).Seed = vI (mkS x o z).Seed ∧ vI (signX x).Counter = vI (mkS x o z).Counter)))) ∧ ((true = true ∧ (Value.string z = Value.string (mkA x o z k ch p).Site ∧ (Value.string (str (fmtO o)) = Value.string (mkA x o z k ch p).Origin ∧ (vI ch = vI (mkA x o z k ch p).Challenge ∧ (vI k = vI (mkA x o z k ch p).Handle ∧ (Value.bool p = Value.bool (mkA x o z k ch p).Present ∧ (vI (signX x).Counter = vI (mkA x o z k ch p).Counter ∧ vI (signV x z k (msg (a0 o z k ch p))) = vI (mkA x o z k ch p).Signature))))))) ∧ (false = false ∧ Value.bool true = Value.bool (mkB x o z)))))))))) (orcMk x o z k ch p) (noLoops) Tryd.func6 (by kernel_rfl) (by kernel_rfl) (by kernel_rfl) (fun _ => trivial) (by kernel_rfl) ?_
  refine ⟨(conFmtO o (by omega)), (conMsg (a0 o z k ch p) hz_ hf_), (C10b.conSign x z k _ hx hz2_ k0 k1 (msg_ok ha_) (by simp [msg])), bcase_intro (fun h3 => ⟨(conMay o z (by omega) (by omega)), h3, ⟨rfl, congrArg _ ?g5, congrArg _ ?g6, congrArg _ ?g7, congrArg _ ?g8⟩, ⟨rfl, congrArg _ ?g9, congrArg _ ?g10, congrArg _ ?g11, congrArg _ ?g12, congrArg _ ?g13, congrArg _ ?g14, congrArg _ ?g15⟩, rfl, congrArg _ ?g16⟩) (fun h3 => ⟨(conMay o z (by omega) (by omega)), h3, bcase_intro (fun h18 => ⟨⟨rfl, congrArg _ ?g19, congrArg _ ?g20, congrArg _ ?g21, congrArg _ ?g22⟩, ⟨rfl, congrArg _ ?g23, congrArg _ ?g24, congrArg _ ?g25, congrArg _ ?g26, congrArg _ ?g27, congrArg _ ?g28, congrArg _ ?g29⟩, rfl, congrArg _ ?g30⟩) (fun h18 => ⟨⟨rfl, congrArg _ ?g31, congrArg _ ?g32, congrArg _ ?g33, congrArg _ ?g34⟩, ⟨rfl, congrArg _ ?g35, congrArg _ ?g36, congrArg _ ?g37, congrArg _ ?g38, congrArg _ ?g39, congrArg _ ?g40, congrArg _ ?g41⟩, rfl, congrArg _ ?g42⟩)⟩)⟩
  all_goals first
    | (have e : mkB x o z = false := by (unfold mkB; rw [show mayO o (bts z) = false by simpa using h3]; rfl)
       first | rw [(hF_ e).1] | rw [(hF_ e).2] | exact e.symm)
    | (have e : mkB x o z = false := by (unfold mkB; rw [show signB x = false by simpa using h18]; simp)
       first | rw [(hF_ e).1] | rw [(hF_ e).2] | exact e.symm)
    | (have e : mkB x o z = true := by (unfold mkB; rw [show mayO o (bts z) = true by simpa using h3, show signB x = true by simpa using h18]; rfl)
       first | rw [(hT_ e).1] | rw [(hT_ e).2] | exact e.symm)
theorem specMake (w : World) (x : Fx.KeyStore) (o : Fx.Origin) (z : ByteArray) (k ch : Int) (p : Bool) (us vs : List Value) (h : RdsL w w.heap.size x.dcs us) (h2 : RdsL w w.heap.size o.dcs vs) (hx : x.ok) (hz : z.size ≤ 15000000) (ho : o.Host.size ≤ 15000000) (k0 : -9223372036854775808 ≤ k) (k1 : k ≤ 9223372036854775807) (c0 : -9223372036854775808 ≤ ch) (c1 : ch ≤ 9223372036854775807) :
    Calls Tryd.prog 6 #[.agg us.toArray, .agg vs.toArray, .string z, .int .i64 k, .int .i64 ch, .bool p] w (Gives (mkV (mkS x o z) (mkA x o z k ch p) (mkB x o z)) w) :=
  con_plain (conMake x o z k ch p hx hz ho k0 k1 c0 c1) (us := [.agg #[.int .i64 (mkS x o z).Vendor, .int .i64 (mkS x o z).Serial, .int .i64 (mkS x o z).Seed, .int .i64 (mkS x o z).Counter], .agg #[.string (mkA x o z k ch p).Site, .string (mkA x o z k ch p).Origin, .int .i64 (mkA x o z k ch p).Challenge, .int .i64 (mkA x o z k ch p).Handle, .bool (mkA x o z k ch p).Present, .int .i64 (mkA x o z k ch p).Counter, .int .i64 (mkA x o z k ch p).Signature], .bool (mkB x o z)]) rfl (arg_agg (dasKeyStore_dc x) (C10b.ks_shs w _ x h) (arg_agg (dasOrigin_dc o) (or_shs w _ o h2) (arg_val (arg_val (arg_val (arg_val arg_nil))))))
end Go.Proofs.YtialhhdhpjjkaaaDoor.C13b
