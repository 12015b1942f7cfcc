import Derived.Test.YtialhhdhpjjkaaaGreatDoorDa14
import Derived.Test.YtialhhdhpjjkaaaGreatDoorC13r
import Derived.Test.YtialhhdhpjjkaaaGreatDoorC13b
import Derived.Test.YtialhhdhpjjkaaaGreatDoorC13
import Derived.Test.YtialhhdhpjjkaaaGreatDoorC10i
import Derived.Test.YtialhhdhpjjkaaaGreatDoorC9i
import Derived.Test.YtialhhdhpjjkaaaGreatDoorBa
import Derived.Test.YtialhhdhpjjkaaaGreatDoorLa
namespace Go.Proofs.YtialhhdhpjjkaaaGreatDoor.C13s
open Go.ChangeShapes Go.WideShapes Go.ChangeAt Go.RowKit
open S0 S1 S9 Dm Fx M3 M8 M13 H1 C3 C6 C10 C13m C13 C13b C13r E0 E1 E2 E3 E4 E7 E10 E15 E16 E17 E18 E19 E20 Das
set_option linter.unusedVariables false
set_option linter.unusedSimpArgs false
set_option maxRecDepth 100000
set_option maxHeartbeats 4000000
theorem conMay (o : Fx.Origin) (z : ByteArray) (h1 : o.Host.size ≤ 4294967296) (h2 : z.size ≤ 4294967296) : FnCon Tryz.prog 27 [(true, dasOrigin o), sV z] [bV (mayO o (bts z))] :=
  con_of_plain (con_enters Tryz.func27 (by kernel_rfl) (by kernel_rfl)) rfl fun w v0 k0 => by
    obtain ⟨us, v1, rfl, hr, k1⟩ := of_aggA (dasOrigin_dc o) k0
    obtain ⟨v2, rfl, k2⟩ := of_valA k1
    obtain rfl := of_nil k2
    exact C9i.implMay w o z us hr h1 h2
theorem conSign (x : Fx.KeyStore) (z : ByteArray) (k : Int) (m : List Int) (ho : x.ok) (hs : z.size ≤ 16000000) (k0 : -9223372036854775808 ≤ k) (k1_ : k ≤ 9223372036854775807) (hm : okInts m) (hn : m.length ≤ 1048576) : FnCon Tryz.prog 81 [(true, dasKeyStore x), sV z, iV k, (false, [numR 3 .i64 m])] [(true, dasKeyStore (signX x)), iV (signV x z k m), bV (signB x)] :=
  con_of_made (con_enters Tryz.func81 (by kernel_rfl) (by kernel_rfl)) (us := [.int .i64 (signV x z k m), .bool (signB x)]) rfl (dasKeyStore_dc _) fun w vs h => by
    obtain ⟨us, v1, rfl, hr, k1⟩ := of_aggA (dasKeyStore_dc x) h
    obtain ⟨v2, rfl, k2⟩ := of_valA k1
    obtain ⟨v3, rfl, k3⟩ := of_valA k2
    obtain ⟨v, v4, rfl, hr2, k4⟩ := of_rowA (numR_dc _ _ _) k3
    obtain rfl := of_nil k4
    exact C10i.implSign w x z k m us v hr ho hs k0 k1_ hr2 hm hn
noncomputable def orcMk (Q : World → Prop) (x : Fx.KeyStore) (o : Fx.Origin) (z : ByteArray) (k ch : Int) (p : Bool) : Orc := ⟨fun d f ags => match d with | some 37 => some [(false, [numR 3 .i64 (msg (a0 o z k ch p))])] | some 38 => some [(true, dasKeyStore (signX x)), iV (signV x z k (msg (a0 o z k ch p))), bV (signB x)] | some 21 => some [bV (mayO o (bts z))] | _ => none, fun id vs _ => match id with | 40016 => some ⟨[], .one (.val (.string (str (fmtO o)))), []⟩ | _ => none, Q⟩
theorem conVsg (d : Da) (xs : List Int) (hd : d.dc = flatD 3 .i64 1 xs.length xs) (u s : Int) (u0 : -9223372036854775808 ≤ u) (u1 : u ≤ 9223372036854775807) (hx : okInts xs) (hn : xs.length ≤ 1048576) : FnCon Tryz.prog 127 [iV u, (false, [d]), iV s] [bV (vsg u xs s)] :=
  con_of_plain (con_enters Tryz.func127 (by kernel_rfl) (by kernel_rfl)) rfl fun w v0 k0 => by
    obtain ⟨v1, rfl, k1⟩ := of_valA k0
    obtain ⟨v, v2, rfl, hr, k2⟩ := of_rowA hd k1
    obtain ⟨v3, rfl, k3⟩ := of_valA k2
    obtain rfl := of_nil k3
    obtain ⟨A, c, rfl, hq⟩ := rds_flat hr
    exact C6i.implVsg w A _ c xs u s u0 u1 hq hx hn
def errV (c : Int) : Value := if c = 0 then .nilIface else .iface 76 (.agg #[.int .i64 c])
noncomputable def orcFor (Q : World → Prop) (o : Fx.Origin) (b m : Bool) : Orc := ⟨fun _ _ _ => none, fun id vs _ => match id with | 20016 => some ⟨[], .tup [(true, [.val (.bool o.Secure), .val (.string o.Host), .val (.int .i64 o.Port)]), (false, [.val (.bool b)])], []⟩ | 30080 => some ⟨[], .one (.val (.bool m)), []⟩ | _ => none, Q⟩
noncomputable def orcAcc (Q : World → Prop) (p : Int) (a : Fx.Assertion) (ch ctr : Int) (f : Bool) : Orc := ⟨fun d _ _ => match d with | some 34 => some [bV (vsg p (msg a ++ [a.Counter]) a.Signature)] | some 41 => some [bV (decide (a.Counter ≤ ctr))] | _ => none, fun id vs _ => match id with | 20016 => some ⟨[], .one (.val (.bool f)), []⟩ | 30008 => some ⟨[], .one (.val (.iface 76 (.agg #[.int .i64 1]))), []⟩ | 50008 => some ⟨[], .one (.val (.iface 76 (.agg #[.int .i64 2]))), []⟩ | 70008 => some ⟨[], .one (.val (.iface 76 (.agg #[.int .i64 3]))), []⟩ | 90008 => some ⟨[], .one (.val (.iface 76 (.agg #[.int .i64 5]))), []⟩ | 110008 => some ⟨[], .one (.val (.iface 76 (.agg #[.int .i64 4]))), []⟩ | _ => none, Q⟩
noncomputable def orcRl (Q : World → Prop) (y : Fx.KeyStore) (a : Fx.Assertion) (b : Bool) : Orc := ⟨fun _ _ _ => none, fun id vs _ => match id with | 20040 => some ⟨[], .tup [(true, [.val (.int .i64 y.Vendor), .val (.int .i64 y.Serial), .val (.int .i64 y.Seed), .val (.int .i64 y.Counter)]), (true, [.val (.string a.Site), .val (.string a.Origin), .val (.int .i64 a.Challenge), .val (.int .i64 a.Handle), .val (.bool a.Present), .val (.int .i64 a.Counter), .val (.int .i64 a.Signature)]), (false, [.val (.bool b)])], []⟩ | _ => none, Q⟩
theorem wpMk (Q : World → Prop) (hQ : ∀ w, Q w → La.Pow w) (x : Fx.KeyStore) (o : Fx.Origin) (z : ByteArray) (k ch : Int) (p : Bool) (hx : x.ok) (hz : z.size ≤ 15000000) (ho : o.Host.size ≤ 15000000) (k0 : -9223372036854775808 ≤ k) (k1 : k ≤ 9223372036854775807) (ch0 : -9223372036854775808 ≤ ch) (ch1 : ch ≤ 9223372036854775807) : awp Tryz.prog (orcMk Q x o z k ch p) (noLoops) (Tryz.f36.body.getD .skip) ⟨[.agg [.val (.int .i64 x.Vendor), .val (.int .i64 x.Serial), .val (.int .i64 x.Seed), .val (.int .i64 x.Counter)], .agg [.val (.bool o.Secure), .val (.string o.Host), .val (.int .i64 o.Port)], .one (.val (.string z)), .one (.val (.int .i64 k)), .one (.val (.int .i64 ch)), .one (.val (.bool p))] ++ List.replicate (Tryz.f36.ntmps - ([.agg [.val (.int .i64 x.Vendor), .val (.int .i64 x.Serial), .val (.int .i64 x.Seed), .val (.int .i64 x.Counter)], .agg [.val (.bool o.Secure), .val (.string o.Host), .val (.int .i64 o.Port)], .one (.val (.string z)), .one (.val (.int .i64 k)), .one (.val (.int .i64 ch)), .one (.val (.bool p))] : List AV).length) (.one (.val undef)), fun _ => .un⟩ (retK Tryz.prog Tryz.f36.results.toList [(true, dasKeyStore (mkS x o z)), (true, dasAssertion (mkA x o z k ch p)), bV (mkB x o z)]) := by
  have hz_ : (a0 o z k ch p).Site.size ≤ 16000000 := by show z.size ≤ 16000000; omega
  have hf_ : (a0 o z k ch p).Origin.size ≤ 16000000 := by have := fmt_size o; show (str (fmtO o)).size ≤ 16000000; omega
  have hz2_ : z.size ≤ 16000000 := by omega
  have ha_ : (a0 o z k ch p).ok := ⟨by show z.size ≤ maxLen; unfold maxLen; omega, by have := fmt_size o; show (str (fmtO o)).size ≤ maxLen; unfold maxLen; omega, ⟨ch0, ch1⟩, ⟨k0, k1⟩, trivial, ⟨by show (-9223372036854775808 : Int) ≤ 0; decide, by show (0 : Int) ≤ 9223372036854775807; decide⟩, ⟨by show (-9223372036854775808 : Int) ≤ 0; decide, by show (0 : Int) ≤ 9223372036854775807; decide⟩⟩
  have hF_ : mkB x o z = false → mkS x o z = x ∧ mkA x o z k ch p = ⟨⟨#[]⟩, ⟨#[]⟩, 0, 0, false, 0, 0⟩ := fun e => ⟨by unfold mkS; rw [e]; rfl, by unfold mkA; rw [e]; rfl⟩
  have hT_ : mkB x o z = true → mkS x o z = signX x ∧ mkA x o z k ch p = ⟨z, str (fmtO o), ch, k, p, (signX x).Counter, signV x z k (msg (a0 o z k ch p))⟩ := fun e => ⟨by unfold mkS; rw [if_pos e], by unfold mkA; rw [if_pos e]⟩
  have hh_ : (FnCon Tryz.prog 27 [(true, dasOrigin o), (false, [dS (z)])] [(false, [dB ((mayO o (bts z)))])] ∧ bcase (!mayO o (bts z)) ((true = true ∧ (vI x.Vendor = vI (mkS x o z).Vendor ∧ (vI x.Serial = vI (mkS x o z).Serial ∧ (vI x.Seed = vI (mkS x o z).Seed ∧ vI x.Counter = vI (mkS x o z).Counter)))) ∧ ((true = true ∧ (Value.string { data := { toList := [] } } = Value.string (mkA x o z k ch p).Site ∧ (Value.string { data := { toList := [] } } = Value.string (mkA x o z k ch p).Origin ∧ (vI 0 = vI (mkA x o z k ch p).Challenge ∧ (vI 0 = vI (mkA x o z k ch p).Handle ∧ (Value.bool false = Value.bool (mkA x o z k ch p).Present ∧ (vI 0 = vI (mkA x o z k ch p).Counter ∧ vI 0 = vI (mkA x o z k ch p).Signature))))))) ∧ (false = false ∧ Value.bool false = Value.bool (mkB x o z)))) (Cust Tryz.prog Q 40016 (opOf (Tryz.f36.body.getD Code.skip) 3 2) [AV.one (Sc.val (Value.func (Fn.func 22) { toList := [] } { toList := [] })), AV.agg [Sc.val (Value.bool o.Secure), Sc.val (Value.string o.Host), Sc.val (vI o.Port)]] [] { need := [], val := AV.one (Sc.val (Value.string (str (fmtO o)))), mem := [] } ∧ ((FnCon Tryz.prog 44 [(true, [dS (z), dS ((str (fmtO o))), dI (ch), dI (k), dB (p), dI (0), dI (0)])] [(false, [Da.row 3 1 (msg (a0 o z k ch p)).length fun i x => dI (((msg (a0 o z k ch p)).getD i 0))])]) ∧ ((FnCon Tryz.prog 81 [(true, dasKeyStore x), (false, [dS (z)]), (false, [dI (k)]), (false, [Da.row 3 1 (msg (a0 o z k ch p)).length fun i x => dI (((msg (a0 o z k ch p)).getD i 0))])] [(true, dasKeyStore (signX x)), (false, [dI ((signV x z k (msg (a0 o z k ch p))))]), (false, [dB ((signB x))])]) ∧ bcase (!signB x) ((true = true ∧ (vI x.Vendor = vI (mkS x o z).Vendor ∧ (vI x.Serial = vI (mkS x o z).Serial ∧ (vI x.Seed = vI (mkS x o z).Seed ∧ vI x.Counter = vI (mkS x o z).Counter)))) ∧ ((true = true ∧ (Value.string { data := { toList := [] } } = Value.string (mkA x o z k ch p).Site ∧ (Value.string { data := { toList := [] } } = Value.string (mkA x o z k ch p).Origin ∧ (vI 0 = vI (mkA x o z k ch p).Challenge ∧ (vI 0 = vI (mkA x o z k ch p).Handle ∧ (Value.bool false = Value.bool (mkA x o z k ch p).Present ∧ (vI 0 = vI (mkA x o z k ch p).Counter ∧ vI 0 = vI (mkA x o z k ch p).Signature))))))) ∧ (false = false ∧ Value.bool false = Value.bool (mkB x o z)))) ((true = true ∧ (vI (signX x).Vendor = vI (mkS x o z).Vendor ∧ (vI (signX x).Serial = vI (mkS x o z).Serial ∧ (vI (signX x).Seed = vI (mkS x o z).Seed ∧ vI (signX x).Counter = vI (mkS x o z).Counter)))) ∧ ((true = true ∧ (Value.string z = Value.string (mkA x o z k ch p).Site ∧ (Value.string (str (fmtO o)) = Value.string (mkA x o z k ch p).Origin ∧ (vI ch = vI (mkA x o z k ch p).Challenge ∧ (vI k = vI (mkA x o z k ch p).Handle ∧ (Value.bool p = Value.bool (mkA x o z k ch p).Present ∧ (vI (signX x).Counter = vI (mkA x o z k ch p).Counter ∧ vI (signV x z k (msg (a0 o z k ch p))) = vI (mkA x o z k ch p).Signature))))))) ∧ (false = false ∧ Value.bool true = Value.bool (mkB x o z)))))))) = (awp Tryz.prog (orcMk Q x o z k ch p) (noLoops) (Tryz.f36.body.getD .skip) ⟨[.agg [.val (.int .i64 x.Vendor), .val (.int .i64 x.Serial), .val (.int .i64 x.Seed), .val (.int .i64 x.Counter)], .agg [.val (.bool o.Secure), .val (.string o.Host), .val (.int .i64 o.Port)], .one (.val (.string z)), .one (.val (.int .i64 k)), .one (.val (.int .i64 ch)), .one (.val (.bool p))] ++ List.replicate (Tryz.f36.ntmps - ([.agg [.val (.int .i64 x.Vendor), .val (.int .i64 x.Serial), .val (.int .i64 x.Seed), .val (.int .i64 x.Counter)], .agg [.val (.bool o.Secure), .val (.string o.Host), .val (.int .i64 o.Port)], .one (.val (.string z)), .one (.val (.int .i64 k)), .one (.val (.int .i64 ch)), .one (.val (.bool p))] : List AV).length) (.one (.val undef)), fun _ => .un⟩ (retK Tryz.prog Tryz.f36.results.toList [(true, dasKeyStore (mkS x o z)), (true, dasAssertion (mkA x o z k ch p)), bV (mkB x o z)])) := by kernel_rfl
  rw [← hh_]
  clear hh_
  refine ⟨(conMay o z (by omega) (by omega)), bcase_intro (fun h1 => ⟨⟨rfl, congrArg _ ?g2, congrArg _ ?g3, congrArg _ ?g4, congrArg _ ?g5⟩, ⟨rfl, congrArg _ ?g6, congrArg _ ?g7, congrArg _ ?g8, congrArg _ ?g9, congrArg _ ?g10, congrArg _ ?g11, congrArg _ ?g12⟩, rfl, congrArg _ ?g13⟩) (fun h1 => ⟨?g14, (conMsg (a0 o z k ch p) hz_ hf_), (conSign x z k _ hx hz2_ k0 k1 (msg_ok ha_) (by simp [msg])), bcase_intro (fun h17 => ⟨⟨rfl, congrArg _ ?g18, congrArg _ ?g19, congrArg _ ?g20, congrArg _ ?g21⟩, ⟨rfl, congrArg _ ?g22, congrArg _ ?g23, congrArg _ ?g24, congrArg _ ?g25, congrArg _ ?g26, congrArg _ ?g27, congrArg _ ?g28⟩, rfl, congrArg _ ?g29⟩) (fun h17 => ⟨⟨rfl, congrArg _ ?g30, congrArg _ ?g31, congrArg _ ?g32, congrArg _ ?g33⟩, ⟨rfl, congrArg _ ?g34, congrArg _ ?g35, congrArg _ ?g36, congrArg _ ?g37, congrArg _ ?g38, congrArg _ ?g39, congrArg _ ?g40⟩, rfl, congrArg _ ?g41⟩)⟩)⟩
  case g14 => exact cust_plain (u := .string (str (fmtO o))) rfl rfl (con_enters Tryz.func22 (by kernel_rfl) (by kernel_rfl)) rfl rfl fun W0 w h hb_ => C9i.implFmtO w o _ Origin.mkR (by omega) ((hQ _ h).stays hb_)
  all_goals first
    | (have e : mkB x o z = false := by (unfold mkB; rw [show mayO o (bts z) = false by simpa using h1]; rfl)
       first | rw [(hF_ e).1] | rw [(hF_ e).2] | exact e.symm)
    | (have e : mkB x o z = false := by (unfold mkB; rw [show signB x = false by simpa using h17]; simp)
       first | rw [(hF_ e).1] | rw [(hF_ e).2] | exact e.symm)
    | (have e : mkB x o z = true := by (unfold mkB; rw [show mayO o (bts z) = true by simpa using h1, show signB x = true by simpa using h17]; rfl)
       first | rw [(hT_ e).1] | rw [(hT_ e).2] | exact e.symm)
theorem implMake (w : World) (x : Fx.KeyStore) (o : Fx.Origin) (z : ByteArray) (k ch : Int) (p : Bool) (us vs : List Value) (h : RdsL w w.heap.size x.dcs us) (h2 : RdsL w w.heap.size o.dcs vs) (hx : x.ok) (hz : z.size ≤ 15000000) (ho : o.Host.size ≤ 15000000) (k0 : -9223372036854775808 ≤ k) (k1 : k ≤ 9223372036854775807) (c0 : -9223372036854775808 ≤ ch) (c1 : ch ≤ 9223372036854775807) (ht : La.Pow w) :
    Calls Tryz.prog 36 #[.agg us.toArray, .agg vs.toArray, .string z, .int .i64 k, .int .i64 ch, .bool p] w (Gives (C13b.mkV (C13b.mkS x o z) (C13b.mkA x o z k ch p) (C13b.mkB x o z)) w) := by
  obtain rfl := KeyStore.rds h
  obtain rfl := Origin.rds h2
  exact law_goP (us := [.agg #[.int .i64 (mkS x o z).Vendor, .int .i64 (mkS x o z).Serial, .int .i64 (mkS x o z).Seed, .int .i64 (mkS x o z).Counter], .agg #[.string (mkA x o z k ch p).Site, .string (mkA x o z k ch p).Origin, .int .i64 (mkA x o z k ch p).Challenge, .int .i64 (mkA x o z k ch p).Handle, .bool (mkA x o z k ch p).Present, .int .i64 (mkA x o z k ch p).Counter, .int .i64 (mkA x o z k ch p).Signature], .bool (mkB x o z)]) (orcMk (fun W => W = w) x o z k ch p) E18.noLoops Tryz.func36 (by kernel_rfl) (by kernel_rfl) rfl (wpMk (fun W => W = w) (fun W h => h ▸ ht) x o z k ch p hx hz ho k0 k1 c0 c1) rfl rfl (args_of (us := [.agg #[.int .i64 x.Vendor, .int .i64 x.Serial, .int .i64 x.Seed, .int .i64 x.Counter], .agg #[.bool o.Secure, .string o.Host, .int .i64 o.Port], .string z, .int .i64 k, .int .i64 ch, .bool p]))
theorem wpFor (Q : World → Prop) (hQ : ∀ w, Q w → La.Pow w ∧ La.Errs w) (a : Fx.Assertion) (z : ByteArray) (o : Fx.Origin) (b m : Bool) (ho : o = poO (bts a.Origin)) (hb : b = poB (bts a.Origin)) (hm : m = mayO (poO (bts a.Origin)) (bts z)) (hs2 : a.Origin.size ≤ 16000000) (hz : z.size ≤ 16000000) : awp Tryz.prog (orcFor Q o b m) (noLoops) (Tryz.f92.body.getD .skip) ⟨[.agg [.val (.string a.Site), .val (.string a.Origin), .val (.int .i64 a.Challenge), .val (.int .i64 a.Handle), .val (.bool a.Present), .val (.int .i64 a.Counter), .val (.int .i64 a.Signature)], .one (.val (.string z))] ++ List.replicate (Tryz.f92.ntmps - ([.agg [.val (.string a.Site), .val (.string a.Origin), .val (.int .i64 a.Challenge), .val (.int .i64 a.Handle), .val (.bool a.Present), .val (.int .i64 a.Counter), .val (.int .i64 a.Signature)], .one (.val (.string z))] : List AV).length) (.one (.val undef)), fun _ => .un⟩ (retK Tryz.prog Tryz.f92.results.toList [bV (b && decide (a.Site = z) && m)]) := by
  have hh_ : (Cust Tryz.prog Q 20016 (opOf (Tryz.f92.body.getD Code.skip) 1 2) [AV.one (Sc.val (Value.func (Fn.func 21) { toList := [] } { toList := [] })), AV.one (Sc.val (Value.string a.Origin))] [] { need := [], val := AV.tup [(true, [Sc.val (Value.bool o.Secure), Sc.val (Value.string o.Host), Sc.val (vI o.Port)]), (false, [Sc.val (Value.bool b)])], mem := [] } ∧ bcase (b) (bcase (a.Site.toList == z.toList) (b = true ∧ ((a.Site.toList == z.toList) = true ∧ (Cust Tryz.prog Q 30080 (opOf (Tryz.f92.body.getD Code.skip) 2 10) [AV.one (Sc.val (Value.func (Fn.func 27) { toList := [] } { toList := [] })), AV.agg [Sc.val (Value.bool o.Secure), Sc.val (Value.string o.Host), Sc.val (vI o.Port)], AV.one (Sc.val (Value.string z))] [] { need := [], val := AV.one (Sc.val (Value.bool m)), mem := [] } ∧ (false = false ∧ (Value.bool m =
  Value.bool
    (match
      match b with
      | false => false
      | true => decide (a.Site = z) with
    | false => false
    | true => m)))))) (b = true ∧ ((a.Site.toList == z.toList) = false ∧ (false = false ∧ (Value.bool false =
  Value.bool
    (match
      match b with
      | false => false
      | true => decide (a.Site = z) with
    | false => false
    | true => m)))))) (b = false ∧ (false = false ∧ (false = false ∧ (Value.bool false =
  Value.bool
    (match
      match b with
      | false => false
      | true => decide (a.Site = z) with
    | false => false
    | true => m)))))) = (awp Tryz.prog (orcFor Q o b m) (noLoops) (Tryz.f92.body.getD .skip) ⟨[.agg [.val (.string a.Site), .val (.string a.Origin), .val (.int .i64 a.Challenge), .val (.int .i64 a.Handle), .val (.bool a.Present), .val (.int .i64 a.Counter), .val (.int .i64 a.Signature)], .one (.val (.string z))] ++ List.replicate (Tryz.f92.ntmps - ([.agg [.val (.string a.Site), .val (.string a.Origin), .val (.int .i64 a.Challenge), .val (.int .i64 a.Handle), .val (.bool a.Present), .val (.int .i64 a.Counter), .val (.int .i64 a.Signature)], .one (.val (.string z))] : List AV).length) (.one (.val undef)), fun _ => .un⟩ (retK Tryz.prog Tryz.f92.results.toList [bV (b && decide (a.Site = z) && m)])) := by kernel_rfl
  rw [← hh_]
  clear hh_
  refine ⟨?g0, bcase_intro (fun h1 => bcase_intro (fun h2 => ⟨h1, h2, ?g3, rfl, congrArg _ ?g4⟩) (fun h2 => ⟨h1, h2, rfl, congrArg _ ?g5⟩)) (fun h1 => ⟨h1, rfl, rfl, congrArg _ ?g6⟩)⟩
  case g0 => exact cust_plain (u := .tuple #[.agg #[.bool o.Secure, .string o.Host, .int .i64 o.Port], .bool b]) rfl rfl (con_enters Tryz.func21 (by kernel_rfl) (by kernel_rfl)) rfl rfl fun W0 w h hb_ => by rw [ho, hb]; exact (C9i.implPo w a.Origin (by omega) ((hQ _ h).1.stays hb_) ((hQ _ h).2.stays hb_)).mono fun e w h => po_gives h
  case g3 => exact cust_plain (u := .bool m) rfl rfl (con_enters Tryz.func27 (by kernel_rfl) (by kernel_rfl)) rfl rfl fun W0 w h hb_ => by rw [hm, ← ho]; exact C9i.implMay w o z _ (org_rds w _ o) (by have := po_size (bts a.Origin); rw [← ho] at this; omega) (by omega)
  case g4 =>
    have e : a.Site = z := str_ext (by simpa using h2)
    simp [show b = true from h1, e]
  case g5 =>
    have e : ¬ a.Site = z := fun e => by subst e; simp at h2
    simp [show b = true from h1, e]
  case g6 => simp [show b = false from h1]
theorem implFor (w : World) (a : Fx.Assertion) (z : ByteArray) (hs2 : a.Origin.size ≤ 16000000) (hz : z.size ≤ 16000000) (ht : La.Pow w) (he : La.Errs w) :
    Calls Tryz.prog 92 #[.agg #[.string a.Site, .string a.Origin, .int .i64 a.Challenge, .int .i64 a.Handle, .bool a.Present, .int .i64 a.Counter, .int .i64 a.Signature], .string z] w (Gives (.bool (poB (bts a.Origin) && decide (a.Site = z) && mayO (poO (bts a.Origin)) (bts z))) w) :=
  law_go (orcFor (fun W => W = w) _ _ _) E18.noLoops Tryz.func92 (by kernel_rfl) (by kernel_rfl) (wpFor (fun W => W = w) (fun W h => by subst h; exact ⟨ht, he⟩) a z _ _ _ rfl rfl rfl hs2 hz) rfl rfl
    (args_of (us := [.agg #[.string a.Site, .string a.Origin, .int .i64 a.Challenge, .int .i64 a.Handle, .bool a.Present, .int .i64 a.Counter, .int .i64 a.Signature], .string z]))
theorem chk_f {p : Int} {a : Fx.Assertion} {z : ByteArray} {ch ctr : Int} {f : Bool} (hf : f = (poB (bts a.Origin) && decide (a.Site = z) && mayO (poO (bts a.Origin)) (bts z))) : chkA p a z ch ctr = if f = true then (if a.Present = true then (if a.Challenge = ch then (if vsg p (msg a ++ [a.Counter]) a.Signature = true then (if ctr < a.Counter then 0 else 4) else 5) else 3) else 2) else 1 := by
  subst hf
  unfold chkA
  by_cases h1 : a.Site = z
  · by_cases h2 : poB (bts a.Origin) = true
    · by_cases h3 : mayO (poO (bts a.Origin)) (bts z) = true
      · have hF : (poB (bts a.Origin) && decide (a.Site = z) && mayO (poO (bts a.Origin)) (bts z)) = true := by rw [h2, h3]; simp [h1]
        rw [if_pos h1, if_pos h2, if_pos h3, hF, if_pos rfl]
      · have hF : (poB (bts a.Origin) && decide (a.Site = z) && mayO (poO (bts a.Origin)) (bts z)) = false := by simp [h3]
        rw [if_pos h1, if_pos h2, if_neg h3, hF]; rfl
    · have hF : (poB (bts a.Origin) && decide (a.Site = z) && mayO (poO (bts a.Origin)) (bts z)) = false := by simp [h2]
      rw [if_pos h1, if_neg h2, hF]; rfl
  · have hF : (poB (bts a.Origin) && decide (a.Site = z) && mayO (poO (bts a.Origin)) (bts z)) = false := by simp [h1]
    rw [if_neg h1, hF]; rfl
theorem conSg (a : Fx.Assertion) (p : Int) (ha : a.ok) (hs : a.Site.size ≤ 16000000) (hs2 : a.Origin.size ≤ 16000000) (p0 : -9223372036854775808 ≤ p) (p1 : p ≤ 9223372036854775807) : FnCon Tryz.prog 93 ([(true, dasAssertion a), iV p]) ([bV (vsg p (msg a ++ [a.Counter]) a.Signature)]) := by
  refine fn_go (p := ((FnCon Tryz.prog 44 [(true, dasAssertion a)] [(false, [Da.row 3 1 (msg a).length fun i x => dI (((msg a).getD i 0))])]) ∧ ((E9.PlainEl 1 1 fun i j => Da.val ([vI a.Counter].getD (i * 1 + j) undef)) ∧ ((msg a).length + 1 ≤ 1000000000000 ∧ (((msg a).length + 1) * 8 ≤ 140737488355328 ∧ ((FnCon Tryz.prog 127
  [(false, [dI (p)]),
    (false,
      [Da.row 3 1 ((msg a).length + 1) fun i j =>
          match i.ble [H1.siteH a.Site, derive 211 (C3b.sbytes a.Origin), a.Challenge, a.Handle, Decidable.rec (fun h => 0) (fun h => 1) (instDecidableEqBool a.Present true)].length with
          | true => dI (((msg a).getD i 0))
          | false => Da.val ([vI a.Counter].getD ((i - (msg a).length) * 1 + j) undef)]),
    (false, [dI (a.Signature)])]
  [(false, [dB ((vsg p [199, H1.siteH a.Site, derive 211 (C3b.sbytes a.Origin), a.Challenge, a.Handle, Decidable.rec (fun h => 0) (fun h => 1) (instDecidableEqBool a.Present true), a.Counter] a.Signature))])]) ∧ (false = false ∧ (Value.bool (vsg p [199, H1.siteH a.Site, derive 211 (C3b.sbytes a.Origin), a.Challenge, a.Handle, Decidable.rec (fun h => 0) (fun h => 1) (instDecidableEqBool a.Present true), a.Counter] a.Signature) = Value.bool (vsg p [199, H1.siteH a.Site, derive 211 (C3b.sbytes a.Origin), a.Challenge, a.Handle, Decidable.rec (fun h => 0) (fun h => 1) (instDecidableEqBool a.Present true), a.Counter] a.Signature))))))))) (callsBy fun d _ _ => match d with | some 7 => some [(false, [numR 3 .i64 (msg a)])] | some 14 => some [bV (vsg p (msg a ++ [a.Counter]) a.Signature)] | _ => none) (noLoops) Tryz.func93 (by kernel_rfl) (by kernel_rfl) (by kernel_rfl) (fun _ => trivial) (by kernel_rfl) ?_
  refine ⟨(conMsg a hs hs2), ?g1, ?g2, ?g3, (conVsg _ (msg a ++ [a.Counter]) ((num_to (row_app num_self num_one) rfl).dc.trans (numR_dc _ _ _)) _ _ p0 p1 ((msg_ok ha).app (okInts.one ha.Counter.1 ha.Counter.2)) (by simp [msg])), rfl, rfl⟩
  case g1 =>
    intro i hi j hj
    obtain rfl : i = 0 := by omega
    obtain rfl : j = 0 := by omega
    rfl
  case g2 | g3 => simp [msg]
theorem wpRl (Q : World → Prop) (hQ : ∀ w, Q w → La.Pow w) (x : Fx.KeyStore) (o : Fx.Origin) (z : ByteArray) (k ch : Int) (y : Fx.KeyStore) (a : Fx.Assertion) (b : Bool) (hy : y = mkS x o z) (ha : a = mkA x o z k ch true) (hb : b = mkB x o z) (hx : x.ok) (hz : z.size ≤ 15000000) (ho : o.Host.size ≤ 15000000) (k0 : -9223372036854775808 ≤ k) (k1 : k ≤ 9223372036854775807) (ch0 : -9223372036854775808 ≤ ch) (ch1 : ch ≤ 9223372036854775807) : awp Tryz.prog (orcRl Q y a b) (noLoops) (Tryz.f41.body.getD .skip) ⟨[.agg [.val (.int .i64 x.Vendor), .val (.int .i64 x.Serial), .val (.int .i64 x.Seed), .val (.int .i64 x.Counter)], .agg [.val (.bool o.Secure), .val (.string o.Host), .val (.int .i64 o.Port)], .one (.val (.string z)), .one (.val (.int .i64 k)), .one (.val (.int .i64 ch))] ++ List.replicate (Tryz.f41.ntmps - ([.agg [.val (.int .i64 x.Vendor), .val (.int .i64 x.Serial), .val (.int .i64 x.Seed), .val (.int .i64 x.Counter)], .agg [.val (.bool o.Secure), .val (.string o.Host), .val (.int .i64 o.Port)], .one (.val (.string z)), .one (.val (.int .i64 k)), .one (.val (.int .i64 ch))] : List AV).length) (.one (.val undef)), fun _ => .un⟩ (retK Tryz.prog Tryz.f41.results.toList [(true, dasKeyStore y), (true, dasAssertion a), bV b]) := by
  have hh_ : (Cust Tryz.prog Q 20040 (opOf (Tryz.f41.body.getD Code.skip) 1 5) [AV.one (Sc.val (Value.func (Fn.func 36) { toList := [] } { toList := [] })), AV.agg [Sc.val (vI x.Vendor), Sc.val (vI x.Serial), Sc.val (vI x.Seed), Sc.val (vI x.Counter)], AV.agg [Sc.val (Value.bool o.Secure), Sc.val (Value.string o.Host), Sc.val (vI o.Port)], AV.one (Sc.val (Value.string z)), AV.one (Sc.val (vI k)), AV.one (Sc.val (vI ch)), AV.one (Sc.val (Value.bool true))] [] { need := [], val := AV.tup [(true, [Sc.val (vI y.Vendor), Sc.val (vI y.Serial), Sc.val (vI y.Seed), Sc.val (vI y.Counter)]), (true, [Sc.val (Value.string a.Site), Sc.val (Value.string a.Origin), Sc.val (vI a.Challenge), Sc.val (vI a.Handle), Sc.val (Value.bool a.Present), Sc.val (vI a.Counter), Sc.val (vI a.Signature)]), (false, [Sc.val (Value.bool b)])], mem := [] } ∧ ((true = true ∧ (vI y.Vendor = vI y.Vendor ∧ (vI y.Serial = vI y.Serial ∧ (vI y.Seed = vI y.Seed ∧ vI y.Counter = vI y.Counter)))) ∧ ((true = true ∧ (Value.string a.Site = Value.string a.Site ∧ (Value.string a.Origin = Value.string a.Origin ∧ (vI a.Challenge = vI a.Challenge ∧ (vI a.Handle = vI a.Handle ∧ (Value.bool a.Present = Value.bool a.Present ∧ (vI a.Counter = vI a.Counter ∧ vI a.Signature = vI a.Signature))))))) ∧ (false = false ∧ Value.bool b = Value.bool b)))) = (awp Tryz.prog (orcRl Q y a b) (noLoops) (Tryz.f41.body.getD .skip) ⟨[.agg [.val (.int .i64 x.Vendor), .val (.int .i64 x.Serial), .val (.int .i64 x.Seed), .val (.int .i64 x.Counter)], .agg [.val (.bool o.Secure), .val (.string o.Host), .val (.int .i64 o.Port)], .one (.val (.string z)), .one (.val (.int .i64 k)), .one (.val (.int .i64 ch))] ++ List.replicate (Tryz.f41.ntmps - ([.agg [.val (.int .i64 x.Vendor), .val (.int .i64 x.Serial), .val (.int .i64 x.Seed), .val (.int .i64 x.Counter)], .agg [.val (.bool o.Secure), .val (.string o.Host), .val (.int .i64 o.Port)], .one (.val (.string z)), .one (.val (.int .i64 k)), .one (.val (.int .i64 ch))] : List AV).length) (.one (.val undef)), fun _ => .un⟩ (retK Tryz.prog Tryz.f41.results.toList [(true, dasKeyStore y), (true, dasAssertion a), bV b])) := by kernel_rfl
  rw [← hh_]
  clear hh_
  refine ⟨?g0, ⟨rfl, rfl, rfl, rfl, rfl⟩, ⟨rfl, rfl, rfl, rfl, rfl, rfl, rfl, rfl⟩, rfl, rfl⟩
  case g0 => exact cust_plain (u := .tuple #[.agg #[.int .i64 y.Vendor, .int .i64 y.Serial, .int .i64 y.Seed, .int .i64 y.Counter], .agg #[.string a.Site, .string a.Origin, .int .i64 a.Challenge, .int .i64 a.Handle, .bool a.Present, .int .i64 a.Counter, .int .i64 a.Signature], .bool b]) rfl rfl (con_enters Tryz.func36 (by kernel_rfl) (by kernel_rfl)) rfl rfl fun W0 w h hb_ => by rw [hy, ha, hb]; exact implMake w x o z k ch true _ _ KeyStore.mkR Origin.mkR hx hz ho k0 k1 ch0 ch1 ((hQ _ h).stays hb_)
theorem implRelay (w : World) (x : Fx.KeyStore) (o : Fx.Origin) (z : ByteArray) (k ch : Int) (us vs : List Value) (h : RdsL w w.heap.size x.dcs us) (h2 : RdsL w w.heap.size o.dcs vs) (hx : x.ok) (hz : z.size ≤ 15000000) (ho : o.Host.size ≤ 15000000) (k0 : -9223372036854775808 ≤ k) (k1 : k ≤ 9223372036854775807) (c0 : -9223372036854775808 ≤ ch) (c1 : ch ≤ 9223372036854775807) (ht : La.Pow w) :
    Calls Tryz.prog 41 #[.agg us.toArray, .agg vs.toArray, .string z, .int .i64 k, .int .i64 ch] w (Gives (C13b.mkV (C13b.mkS x o z) (C13b.mkA x o z k ch true) (C13b.mkB x o z)) w) := by
  obtain rfl := KeyStore.rds h
  obtain rfl := Origin.rds h2
  obtain ⟨y, hy⟩ : ∃ y, y = mkS x o z := ⟨_, rfl⟩
  obtain ⟨a, ha⟩ : ∃ a, a = mkA x o z k ch true := ⟨_, rfl⟩
  obtain ⟨b, hb⟩ : ∃ b, b = mkB x o z := ⟨_, rfl⟩
  rw [← hy, ← ha, ← hb]
  exact law_goP (us := [.agg #[.int .i64 y.Vendor, .int .i64 y.Serial, .int .i64 y.Seed, .int .i64 y.Counter], .agg #[.string a.Site, .string a.Origin, .int .i64 a.Challenge, .int .i64 a.Handle, .bool a.Present, .int .i64 a.Counter, .int .i64 a.Signature], .bool b]) (orcRl (fun W => W = w) y a b) E18.noLoops Tryz.func41 (by kernel_rfl) (by kernel_rfl) rfl (wpRl (fun W => W = w) (fun W h => h ▸ ht) x o z k ch y a b hy ha hb hx hz ho k0 k1 c0 c1) rfl rfl (args_of (us := [.agg #[.int .i64 x.Vendor, .int .i64 x.Serial, .int .i64 x.Seed, .int .i64 x.Counter], .agg #[.bool o.Secure, .string o.Host, .int .i64 o.Port], .string z, .int .i64 k, .int .i64 ch]))
theorem wpAcc (Q : World → Prop) (hQ : ∀ w, Q w → La.Pow w ∧ La.Errs w) (p : Int) (a : Fx.Assertion) (z : ByteArray) (ch ctr : Int) (f : Bool) (hf : f = (poB (bts a.Origin) && decide (a.Site = z) && mayO (poO (bts a.Origin)) (bts z))) (ha : a.ok) (hs : a.Site.size ≤ 16000000) (hs2 : a.Origin.size ≤ 16000000) (hz : z.size ≤ 16000000) (p0 : -9223372036854775808 ≤ p) (p1 : p ≤ 9223372036854775807) : awp Tryz.prog (orcAcc Q p a ch ctr f) (noLoops) (Tryz.f48.body.getD .skip) ⟨[.agg [.val (.string a.Site), .val (.string a.Origin), .val (.int .i64 a.Challenge), .val (.int .i64 a.Handle), .val (.bool a.Present), .val (.int .i64 a.Counter), .val (.int .i64 a.Signature)], .one (.val (.int .i64 p)), .one (.val (.string z)), .one (.val (.int .i64 ch)), .one (.val (.int .i64 ctr))] ++ List.replicate (Tryz.f48.ntmps - ([.agg [.val (.string a.Site), .val (.string a.Origin), .val (.int .i64 a.Challenge), .val (.int .i64 a.Handle), .val (.bool a.Present), .val (.int .i64 a.Counter), .val (.int .i64 a.Signature)], .one (.val (.int .i64 p)), .one (.val (.string z)), .one (.val (.int .i64 ch)), .one (.val (.int .i64 ctr))] : List AV).length) (.one (.val undef)), fun _ => .un⟩ (retK Tryz.prog Tryz.f48.results.toList [(false, [.val (errV (chkA p a z ch ctr))])]) := by
  have hh_ : (Cust Tryz.prog Q 20016 (opOf (Tryz.f48.body.getD Code.skip) 1 2) [AV.one (Sc.val (Value.func (Fn.func 92) { toList := [] } { toList := [] })), AV.agg [Sc.val (Value.string a.Site), Sc.val (Value.string a.Origin), Sc.val (vI a.Challenge), Sc.val (vI a.Handle), Sc.val (Value.bool a.Present), Sc.val (vI a.Counter), Sc.val (vI a.Signature)], AV.one (Sc.val (Value.string z))] [] { need := [], val := AV.one (Sc.val (Value.bool f)), mem := [] } ∧ bcase (!f) (Cust Tryz.prog Q 30008 (opOf (Tryz.f48.body.getD Code.skip) 2 1) [AV.agg [Sc.val (vI 1)]] [] { need := [], val := AV.one (Sc.val (Value.iface 76 (Value.agg { toList := [vI 1] }))), mem := [] } ∧ (false = false ∧ Value.iface 76 (Value.agg { toList := [vI 1] }) = errV (chkA p a z ch ctr))) (bcase (!a.Present) (Cust Tryz.prog Q 50008 (opOf (Tryz.f48.body.getD Code.skip) 4 1) [AV.agg [Sc.val (vI 2)]] [] { need := [], val := AV.one (Sc.val (Value.iface 76 (Value.agg { toList := [vI 2] }))), mem := [] } ∧ (false = false ∧ Value.iface 76 (Value.agg { toList := [vI 2] }) = errV (chkA p a z ch ctr))) (bcase (a.Challenge != ch) (Cust Tryz.prog Q 70008 (opOf (Tryz.f48.body.getD Code.skip) 6 1) [AV.agg [Sc.val (vI 3)]] [] { need := [], val := AV.one (Sc.val (Value.iface 76 (Value.agg { toList := [vI 3] }))), mem := [] } ∧ (false = false ∧ Value.iface 76 (Value.agg { toList := [vI 3] }) = errV (chkA p a z ch ctr))) ((FnCon Tryz.prog 93 [(true, dasAssertion a), (false, [dI (p)])] [(false, [dB ((vsg p [199, H1.siteH a.Site, derive 211 (C3b.sbytes a.Origin), a.Challenge, a.Handle, Decidable.rec (fun h => 0) (fun h => 1) (instDecidableEqBool a.Present true), a.Counter] a.Signature))])]) ∧ bcase (!vsg p [199, H1.siteH a.Site, derive 211 (C3b.sbytes a.Origin), a.Challenge, a.Handle, Decidable.rec (fun h => 0) (fun h => 1) (instDecidableEqBool a.Present true), a.Counter] a.Signature) (Cust Tryz.prog Q 90008 (opOf (Tryz.f48.body.getD Code.skip) 8 1) [AV.agg [Sc.val (vI 5)]] [] { need := [], val := AV.one (Sc.val (Value.iface 76 (Value.agg { toList := [vI 5] }))), mem := [] } ∧ (false = false ∧ Value.iface 76 (Value.agg { toList := [vI 5] }) = errV (chkA p a z ch ctr))) (FnCon Tryz.prog 38 [(true, dasAssertion a), (false, [dI (ctr)])] [(false, [dB ((decide (a.Counter ≤ ctr)))])] ∧ bcase (decide (a.Counter ≤ ctr)) (Cust Tryz.prog Q 110008 (opOf (Tryz.f48.body.getD Code.skip) 10 1) [AV.agg [Sc.val (vI 4)]] [] { need := [], val := AV.one (Sc.val (Value.iface 76 (Value.agg { toList := [vI 4] }))), mem := [] } ∧ (false = false ∧ Value.iface 76 (Value.agg { toList := [vI 4] }) = errV (chkA p a z ch ctr))) (false = false ∧ Value.nilIface = errV (chkA p a z ch ctr))))))) = (awp Tryz.prog (orcAcc Q p a ch ctr f) (noLoops) (Tryz.f48.body.getD .skip) ⟨[.agg [.val (.string a.Site), .val (.string a.Origin), .val (.int .i64 a.Challenge), .val (.int .i64 a.Handle), .val (.bool a.Present), .val (.int .i64 a.Counter), .val (.int .i64 a.Signature)], .one (.val (.int .i64 p)), .one (.val (.string z)), .one (.val (.int .i64 ch)), .one (.val (.int .i64 ctr))] ++ List.replicate (Tryz.f48.ntmps - ([.agg [.val (.string a.Site), .val (.string a.Origin), .val (.int .i64 a.Challenge), .val (.int .i64 a.Handle), .val (.bool a.Present), .val (.int .i64 a.Counter), .val (.int .i64 a.Signature)], .one (.val (.int .i64 p)), .one (.val (.string z)), .one (.val (.int .i64 ch)), .one (.val (.int .i64 ctr))] : List AV).length) (.one (.val undef)), fun _ => .un⟩ (retK Tryz.prog Tryz.f48.results.toList [(false, [.val (errV (chkA p a z ch ctr))])])) := by kernel_rfl
  rw [← hh_]
  clear hh_
  refine ⟨?g0, bcase_intro (fun h1 => ⟨?g2, rfl, ?g3⟩) (fun h1 => bcase_intro (fun h4 => ⟨?g5, rfl, ?g6⟩) (fun h4 => bcase_intro (fun h7 => ⟨?g8, rfl, ?g9⟩) (fun h7 => ⟨(conSg a p ha hs hs2 p0 p1), bcase_intro (fun h11 => ⟨?g12, rfl, ?g13⟩) (fun h11 => ⟨(conClone a ctr), bcase_intro (fun h15 => ⟨?g16, rfl, ?g17⟩) (fun h15 => ⟨rfl, ?g18⟩)⟩)⟩)))⟩
  case g0 => exact cust_plain (u := .bool f) rfl rfl (con_enters Tryz.func92 (by kernel_rfl) (by kernel_rfl)) rfl rfl fun W0 w h hb_ => by rw [hf]; exact implFor w a z hs2 hz ((hQ _ h).1.stays hb_) ((hQ _ h).2.stays hb_)
  case g2 => exact cust_iface rfl Tryz.underlying76 (fun _ h => by cases h) rfl
  case g5 => exact cust_iface rfl Tryz.underlying76 (fun _ h => by cases h) rfl
  case g8 => exact cust_iface rfl Tryz.underlying76 (fun _ h => by cases h) rfl
  case g12 => exact cust_iface rfl Tryz.underlying76 (fun _ h => by cases h) rfl
  case g16 => exact cust_iface rfl Tryz.underlying76 (fun _ h => by cases h) rfl
  case g3 =>
    have e : ¬ f = true := by simpa using h1
    rw [chk_f hf, if_neg e]; rfl
  all_goals have e1 : f = true := by simpa using h1
  case g6 =>
    have e : ¬ a.Present = true := by simpa using h4
    rw [chk_f hf, if_pos e1, if_neg e]; rfl
  all_goals have e4 : a.Present = true := by simpa using h4
  case g9 =>
    have e : ¬ a.Challenge = ch := by simpa using h7
    rw [chk_f hf, if_pos e1, if_pos e4, if_neg e]; rfl
  all_goals have e7 : a.Challenge = ch := by simpa using h7
  case g13 =>
    have e : ¬ vsg p (msg a ++ [a.Counter]) a.Signature = true := by have h11 : (!vsg p (msg a ++ [a.Counter]) a.Signature) = true := h11; simpa using h11
    rw [chk_f hf, if_pos e1, if_pos e4, if_pos e7, if_neg e]; rfl
  all_goals have e11 : vsg p (msg a ++ [a.Counter]) a.Signature = true := by have h11 : (!vsg p (msg a ++ [a.Counter]) a.Signature) = false := h11; simpa using h11
  case g17 =>
    have := of_decide_eq_true h15
    rw [chk_f hf, if_pos e1, if_pos e4, if_pos e7, if_pos e11, if_neg (by omega)]; rfl
  case g18 =>
    have := of_decide_eq_false h15
    rw [chk_f hf, if_pos e1, if_pos e4, if_pos e7, if_pos e11, if_pos (by omega)]; rfl
end Go.Proofs.YtialhhdhpjjkaaaGreatDoor.C13s
