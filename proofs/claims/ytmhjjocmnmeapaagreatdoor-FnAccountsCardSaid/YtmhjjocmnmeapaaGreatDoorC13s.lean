import Derived.Test.YtmhjjocmnmeapaaGreatDoorDa14
import Derived.Test.YtmhjjocmnmeapaaGreatDoorC13r
import Derived.Test.YtmhjjocmnmeapaaGreatDoorC13b
import Derived.Test.YtmhjjocmnmeapaaGreatDoorC13
import Derived.Test.YtmhjjocmnmeapaaGreatDoorC10b
import Derived.Test.YtmhjjocmnmeapaaGreatDoorBa
import Derived.Lib.AppendZerosOnto
import Derived.Handy
import Derived.Test.YtmhjjocmnmeapaaGreatDoorBc
import Derived.Test.YtmhjjocmnmeapaaGreatDoorLa
namespace Go.Proofs.YtmhjjocmnmeapaaGreatDoor.C13s
open Go.ChangeShapes Go.WideShapes Go.ChangeAt Go.RowKit
open S0 S1 S9 Dm Fx M3 M8 M13 H1 C3 C6 C10 C13m C13 C13b C13r E0 E1 E2 E3 E4 E7 E10 E15 E16 E17 E18 E19 E20 Das
set_option linter.unusedVariables false
set_option linter.unusedSimpArgs false
set_option maxRecDepth 100000
set_option maxHeartbeats 4000000
theorem conVsg (d : Da) (xs : List Int) (hd : d.dc = flatD 3 .i64 1 xs.length xs) (u s : Int) (u0 : -9223372036854775808 ≤ u) (u1 : u ≤ 9223372036854775807) (hx : okInts xs) (hn : xs.length ≤ 1048576) : FnCon Tryz.prog 88 [iV u, (false, [d]), iV s] [bV (vsg u xs s)] :=
  con_of_plain (con_enters Tryz.func88 (by kernel_rfl) (by kernel_rfl)) rfl fun w v0 k0 => by
    obtain ⟨v1, rfl, k1⟩ := of_valA k0
    obtain ⟨v, v2, rfl, hr, k2⟩ := of_rowA hd k1
    obtain ⟨v3, rfl, k3⟩ := of_valA k2
    obtain rfl := of_nil k3
    obtain ⟨A, c, rfl, hq⟩ := rds_flat hr
    exact C6i.implVsg w A _ c xs u s u0 u1 hq hx hn
def errV (c : Int) : Value := if c = 0 then .nilIface else .iface 88 (.agg #[.int .i64 c])
noncomputable def orcFor (Q : World → Prop) (o : Fx.Origin) (b m : Bool) : Orc := ⟨fun _ _ _ => none, fun id vs _ => match id with | 20016 => some ⟨[], .tup [(true, [.val (.bool o.Secure), .val (.string o.Host), .val (.int .i64 o.Port)]), (false, [.val (.bool b)])], []⟩ | 30080 => some ⟨[], .one (.val (.bool m)), []⟩ | _ => none, Q⟩
noncomputable def orcAcc (Q : World → Prop) (p : Int) (a : Fx.Assertion) (ch ctr : Int) (f : Bool) : Orc := ⟨fun d _ _ => match d with | some 34 => some [bV (vsg p (msg a ++ [a.Counter]) a.Signature)] | some 41 => some [bV (decide (a.Counter ≤ ctr))] | _ => none, fun id vs _ => match id with | 20016 => some ⟨[], .one (.val (.bool f)), []⟩ | 30008 => some ⟨[], .one (.val (.iface 88 (.agg #[.int .i64 1]))), []⟩ | 50008 => some ⟨[], .one (.val (.iface 88 (.agg #[.int .i64 2]))), []⟩ | 70008 => some ⟨[], .one (.val (.iface 88 (.agg #[.int .i64 3]))), []⟩ | 90008 => some ⟨[], .one (.val (.iface 88 (.agg #[.int .i64 5]))), []⟩ | 110008 => some ⟨[], .one (.val (.iface 88 (.agg #[.int .i64 4]))), []⟩ | _ => none, Q⟩
theorem wpFor (Q : World → Prop) (hQ : ∀ w, Q w → La.Pow w ∧ La.Errs w) (a : Fx.Assertion) (z : ByteArray) (o : Fx.Origin) (b m : Bool) (ho : o = poO (bts a.Origin)) (hb : b = poB (bts a.Origin)) (hm : m = mayO (poO (bts a.Origin)) (bts z)) (hs2 : a.Origin.size ≤ 16000000) (hz : z.size ≤ 16000000) : awp Tryz.prog (orcFor Q o b m) (noLoops) (Tryz.f74.body.getD .skip) ⟨[.agg [.val (.string a.Site), .val (.string a.Origin), .val (.int .i64 a.Challenge), .val (.int .i64 a.Handle), .val (.bool a.Present), .val (.int .i64 a.Counter), .val (.int .i64 a.Signature)], .one (.val (.string z))] ++ List.replicate (Tryz.f74.ntmps - ([.agg [.val (.string a.Site), .val (.string a.Origin), .val (.int .i64 a.Challenge), .val (.int .i64 a.Handle), .val (.bool a.Present), .val (.int .i64 a.Counter), .val (.int .i64 a.Signature)], .one (.val (.string z))] : List AV).length) (.one (.val undef)), fun _ => .un⟩ (retK Tryz.prog Tryz.f74.results.toList [bV (b && decide (a.Site = z) && m)]) := by
  have hh_ : (Cust Tryz.prog Q 20016 (opOf (Tryz.f74.body.getD Code.skip) 1 2) [AV.one (Sc.val (Value.func (Fn.func 86) { toList := [] } { toList := [] })), AV.one (Sc.val (Value.string a.Origin))] [] { need := [], val := AV.tup [(true, [Sc.val (Value.bool o.Secure), Sc.val (Value.string o.Host), Sc.val (vI o.Port)]), (false, [Sc.val (Value.bool b)])], mem := [] } ∧ bcase (b) (bcase (a.Site.toList == z.toList) (b = true ∧ ((a.Site.toList == z.toList) = true ∧ (Cust Tryz.prog Q 30080 (opOf (Tryz.f74.body.getD Code.skip) 2 10) [AV.one (Sc.val (Value.func (Fn.func 87) { toList := [] } { toList := [] })), AV.agg [Sc.val (Value.bool o.Secure), Sc.val (Value.string o.Host), Sc.val (vI o.Port)], AV.one (Sc.val (Value.string z))] [] { need := [], val := AV.one (Sc.val (Value.bool m)), mem := [] } ∧ (false = false ∧ (Value.bool m =
  Value.bool
    (match
      match b with
      | false => false
      | true => decide (a.Site = z) with
    | false => false
    | true => m)))))) (b = true ∧ ((a.Site.toList == z.toList) = false ∧ (false = false ∧ (Value.bool false =
  Value.bool
    (match
      match b with
      | false => false
      | true => decide (a.Site = z) with
    | false => false
    | true => m)))))) (b = false ∧ (false = false ∧ (false = false ∧ (Value.bool false =
  Value.bool
    (match
      match b with
      | false => false
      | true => decide (a.Site = z) with
    | false => false
    | true => m)))))) = (awp Tryz.prog (orcFor Q o b m) (noLoops) (Tryz.f74.body.getD .skip) ⟨[.agg [.val (.string a.Site), .val (.string a.Origin), .val (.int .i64 a.Challenge), .val (.int .i64 a.Handle), .val (.bool a.Present), .val (.int .i64 a.Counter), .val (.int .i64 a.Signature)], .one (.val (.string z))] ++ List.replicate (Tryz.f74.ntmps - ([.agg [.val (.string a.Site), .val (.string a.Origin), .val (.int .i64 a.Challenge), .val (.int .i64 a.Handle), .val (.bool a.Present), .val (.int .i64 a.Counter), .val (.int .i64 a.Signature)], .one (.val (.string z))] : List AV).length) (.one (.val undef)), fun _ => .un⟩ (retK Tryz.prog Tryz.f74.results.toList [bV (b && decide (a.Site = z) && m)])) := by kernel_rfl
  rw [← hh_]
  clear hh_
  refine ⟨?g0, bcase_intro (fun h1 => bcase_intro (fun h2 => ⟨h1, h2, ?g3, rfl, congrArg _ ?g4⟩) (fun h2 => ⟨h1, h2, rfl, congrArg _ ?g5⟩)) (fun h1 => ⟨h1, rfl, rfl, congrArg _ ?g6⟩)⟩
  case g0 => exact cust_plain (u := .tuple #[.agg #[.bool o.Secure, .string o.Host, .int .i64 o.Port], .bool b]) rfl rfl (con_enters Tryz.func86 (by kernel_rfl) (by kernel_rfl)) rfl rfl fun W0 w h hb_ => by rw [ho, hb]; exact (C9i.implPo w a.Origin (by omega) ((hQ _ h).1.stays hb_) ((hQ _ h).2.stays hb_)).mono fun e w h => po_gives h
  case g3 => exact cust_plain (u := .bool m) rfl rfl (con_enters Tryz.func87 (by kernel_rfl) (by kernel_rfl)) rfl rfl fun W0 w h hb_ => by rw [hm, ← ho]; exact C9i.implMay w o z _ (org_rds w _ o) (by have := po_size (bts a.Origin); rw [← ho] at this; omega) (by omega)
  case g4 =>
    have e : a.Site = z := str_ext (by simpa using h2)
    simp [show b = true from h1, e]
  case g5 =>
    have e : ¬ a.Site = z := fun e => by subst e; simp at h2
    simp [show b = true from h1, e]
  case g6 => simp [show b = false from h1]
theorem implFor (w : World) (a : Fx.Assertion) (z : ByteArray) (hs2 : a.Origin.size ≤ 16000000) (hz : z.size ≤ 16000000) (ht : La.Pow w) (he : La.Errs w) :
    Calls Tryz.prog 74 #[.agg #[.string a.Site, .string a.Origin, .int .i64 a.Challenge, .int .i64 a.Handle, .bool a.Present, .int .i64 a.Counter, .int .i64 a.Signature], .string z] w (Gives (.bool (poB (bts a.Origin) && decide (a.Site = z) && mayO (poO (bts a.Origin)) (bts z))) w) :=
  law_go (orcFor (fun W => W = w) _ _ _) E18.noLoops Tryz.func74 (by kernel_rfl) (by kernel_rfl) (wpFor (fun W => W = w) (fun W h => by subst h; exact ⟨ht, he⟩) a z _ _ _ rfl rfl rfl hs2 hz) rfl rfl
    (args_of (us := [.agg #[.string a.Site, .string a.Origin, .int .i64 a.Challenge, .int .i64 a.Handle, .bool a.Present, .int .i64 a.Counter, .int .i64 a.Signature], .string z]))
theorem chk_f {p : Int} {a : Fx.Assertion} {z : ByteArray} {ch ctr : Int} {f : Bool} (hf : f = (poB (bts a.Origin) && decide (a.Site = z) && mayO (poO (bts a.Origin)) (bts z))) : chkA p a z ch ctr = if f = true then (if a.Present = true then (if a.Challenge = ch then (if vsg p (msg a ++ [a.Counter]) a.Signature = true then (if ctr < a.Counter then 0 else 4) else 5) else 3) else 2) else 1 := by
  subst hf
  unfold chkA
  by_cases h1 : a.Site = z
  · by_cases h2 : poB (bts a.Origin) = true
    · by_cases h3 : mayO (poO (bts a.Origin)) (bts z) = true
      · have hF : (poB (bts a.Origin) && decide (a.Site = z) && mayO (poO (bts a.Origin)) (bts z)) = true := by rw [h2, h3]; simp [h1]
        rw [if_pos h1, if_pos h2, if_pos h3, hF, if_pos rfl]
      · have hF : (poB (bts a.Origin) && decide (a.Site = z) && mayO (poO (bts a.Origin)) (bts z)) = false := by simp [h3]
        rw [if_pos h1, if_pos h2, if_neg h3, hF]; rfl
    · have hF : (poB (bts a.Origin) && decide (a.Site = z) && mayO (poO (bts a.Origin)) (bts z)) = false := by simp [h2]
      rw [if_pos h1, if_neg h2, hF]; rfl
  · have hF : (poB (bts a.Origin) && decide (a.Site = z) && mayO (poO (bts a.Origin)) (bts z)) = false := by simp [h1]
    rw [if_neg h1, hF]; rfl
theorem conSg (a : Fx.Assertion) (p : Int) (ha : a.ok) (hs : a.Site.size ≤ 16000000) (hs2 : a.Origin.size ≤ 16000000) (p0 : -9223372036854775808 ≤ p) (p1 : p ≤ 9223372036854775807) : FnCon Tryz.prog 75 ([(true, dasAssertion a), iV p]) ([bV (vsg p (msg a ++ [a.Counter]) a.Signature)]) := by
  refine fn_go (p := ((FnCon Tryz.prog 89 [(true, dasAssertion a)] [(false, [Da.row 3 1 (msg a).length fun i x => dI (((msg a).getD i 0))])]) ∧ ((E9.PlainEl 1 1 fun i j => Da.val ([vI a.Counter].getD (i * 1 + j) undef)) ∧ ((msg a).length + 1 ≤ 1000000000000 ∧ (((msg a).length + 1) * 8 ≤ 140737488355328 ∧ ((FnCon Tryz.prog 88
  [(false, [dI (p)]),
    (false,
      [Da.row 3 1 ((msg a).length + 1) fun i j =>
          match i.ble [H1.siteH a.Site, derive 211 (C3b.sbytes a.Origin), a.Challenge, a.Handle, Decidable.rec (fun h => 0) (fun h => 1) (instDecidableEqBool a.Present true)].length with
          | true => dI (((msg a).getD i 0))
          | false => Da.val ([vI a.Counter].getD ((i - (msg a).length) * 1 + j) undef)]),
    (false, [dI (a.Signature)])]
  [(false, [dB ((vsg p [199, H1.siteH a.Site, derive 211 (C3b.sbytes a.Origin), a.Challenge, a.Handle, Decidable.rec (fun h => 0) (fun h => 1) (instDecidableEqBool a.Present true), a.Counter] a.Signature))])]) ∧ (false = false ∧ (Value.bool (vsg p [199, H1.siteH a.Site, derive 211 (C3b.sbytes a.Origin), a.Challenge, a.Handle, Decidable.rec (fun h => 0) (fun h => 1) (instDecidableEqBool a.Present true), a.Counter] a.Signature) = Value.bool (vsg p [199, H1.siteH a.Site, derive 211 (C3b.sbytes a.Origin), a.Challenge, a.Handle, Decidable.rec (fun h => 0) (fun h => 1) (instDecidableEqBool a.Present true), a.Counter] a.Signature))))))))) (callsBy fun d _ _ => match d with | some 7 => some [(false, [numR 3 .i64 (msg a)])] | some 14 => some [bV (vsg p (msg a ++ [a.Counter]) a.Signature)] | _ => none) (noLoops) Tryz.func75 (by kernel_rfl) (by kernel_rfl) (by kernel_rfl) (fun _ => trivial) (by kernel_rfl) ?_
  refine ⟨(conMsg a hs hs2), ?g1, ?g2, ?g3, (conVsg _ (msg a ++ [a.Counter]) ((num_to (row_app num_self num_one) rfl).dc.trans (numR_dc _ _ _)) _ _ p0 p1 ((msg_ok ha).app (okInts.one ha.Counter.1 ha.Counter.2)) (by simp [msg])), rfl, rfl⟩
  case g1 =>
    intro i hi j hj
    obtain rfl : i = 0 := by omega
    obtain rfl : j = 0 := by omega
    rfl
  case g2 | g3 => simp [msg]
theorem wpAcc (Q : World → Prop) (hQ : ∀ w, Q w → La.Pow w ∧ La.Errs w) (p : Int) (a : Fx.Assertion) (z : ByteArray) (ch ctr : Int) (f : Bool) (hf : f = (poB (bts a.Origin) && decide (a.Site = z) && mayO (poO (bts a.Origin)) (bts z))) (ha : a.ok) (hs : a.Site.size ≤ 16000000) (hs2 : a.Origin.size ≤ 16000000) (hz : z.size ≤ 16000000) (p0 : -9223372036854775808 ≤ p) (p1 : p ≤ 9223372036854775807) : awp Tryz.prog (orcAcc Q p a ch ctr f) (noLoops) (Tryz.f50.body.getD .skip) ⟨[.agg [.val (.string a.Site), .val (.string a.Origin), .val (.int .i64 a.Challenge), .val (.int .i64 a.Handle), .val (.bool a.Present), .val (.int .i64 a.Counter), .val (.int .i64 a.Signature)], .one (.val (.int .i64 p)), .one (.val (.string z)), .one (.val (.int .i64 ch)), .one (.val (.int .i64 ctr))] ++ List.replicate (Tryz.f50.ntmps - ([.agg [.val (.string a.Site), .val (.string a.Origin), .val (.int .i64 a.Challenge), .val (.int .i64 a.Handle), .val (.bool a.Present), .val (.int .i64 a.Counter), .val (.int .i64 a.Signature)], .one (.val (.int .i64 p)), .one (.val (.string z)), .one (.val (.int .i64 ch)), .one (.val (.int .i64 ctr))] : List AV).length) (.one (.val undef)), fun _ => .un⟩ (retK Tryz.prog Tryz.f50.results.toList [(false, [.val (errV (chkA p a z ch ctr))])]) := by
  have hh_ : (Cust Tryz.prog Q 20016 (opOf (Tryz.f50.body.getD Code.skip) 1 2) [AV.one (Sc.val (Value.func (Fn.func 74) { toList := [] } { toList := [] })), AV.agg [Sc.val (Value.string a.Site), Sc.val (Value.string a.Origin), Sc.val (vI a.Challenge), Sc.val (vI a.Handle), Sc.val (Value.bool a.Present), Sc.val (vI a.Counter), Sc.val (vI a.Signature)], AV.one (Sc.val (Value.string z))] [] { need := [], val := AV.one (Sc.val (Value.bool f)), mem := [] } ∧ bcase (!f) (Cust Tryz.prog Q 30008 (opOf (Tryz.f50.body.getD Code.skip) 2 1) [AV.agg [Sc.val (vI 1)]] [] { need := [], val := AV.one (Sc.val (Value.iface 88 (Value.agg { toList := [vI 1] }))), mem := [] } ∧ (false = false ∧ Value.iface 88 (Value.agg { toList := [vI 1] }) = errV (chkA p a z ch ctr))) (bcase (!a.Present) (Cust Tryz.prog Q 50008 (opOf (Tryz.f50.body.getD Code.skip) 4 1) [AV.agg [Sc.val (vI 2)]] [] { need := [], val := AV.one (Sc.val (Value.iface 88 (Value.agg { toList := [vI 2] }))), mem := [] } ∧ (false = false ∧ Value.iface 88 (Value.agg { toList := [vI 2] }) = errV (chkA p a z ch ctr))) (bcase (a.Challenge != ch) (Cust Tryz.prog Q 70008 (opOf (Tryz.f50.body.getD Code.skip) 6 1) [AV.agg [Sc.val (vI 3)]] [] { need := [], val := AV.one (Sc.val (Value.iface 88 (Value.agg { toList := [vI 3] }))), mem := [] } ∧ (false = false ∧ Value.iface 88 (Value.agg { toList := [vI 3] }) = errV (chkA p a z ch ctr))) ((FnCon Tryz.prog 75 [(true, dasAssertion a), (false, [dI (p)])] [(false, [dB ((vsg p [199, H1.siteH a.Site, derive 211 (C3b.sbytes a.Origin), a.Challenge, a.Handle, Decidable.rec (fun h => 0) (fun h => 1) (instDecidableEqBool a.Present true), a.Counter] a.Signature))])]) ∧ bcase (!vsg p [199, H1.siteH a.Site, derive 211 (C3b.sbytes a.Origin), a.Challenge, a.Handle, Decidable.rec (fun h => 0) (fun h => 1) (instDecidableEqBool a.Present true), a.Counter] a.Signature) (Cust Tryz.prog Q 90008 (opOf (Tryz.f50.body.getD Code.skip) 8 1) [AV.agg [Sc.val (vI 5)]] [] { need := [], val := AV.one (Sc.val (Value.iface 88 (Value.agg { toList := [vI 5] }))), mem := [] } ∧ (false = false ∧ Value.iface 88 (Value.agg { toList := [vI 5] }) = errV (chkA p a z ch ctr))) (FnCon Tryz.prog 76 [(true, dasAssertion a), (false, [dI (ctr)])] [(false, [dB ((decide (a.Counter ≤ ctr)))])] ∧ bcase (decide (a.Counter ≤ ctr)) (Cust Tryz.prog Q 110008 (opOf (Tryz.f50.body.getD Code.skip) 10 1) [AV.agg [Sc.val (vI 4)]] [] { need := [], val := AV.one (Sc.val (Value.iface 88 (Value.agg { toList := [vI 4] }))), mem := [] } ∧ (false = false ∧ Value.iface 88 (Value.agg { toList := [vI 4] }) = errV (chkA p a z ch ctr))) (false = false ∧ Value.nilIface = errV (chkA p a z ch ctr))))))) = (awp Tryz.prog (orcAcc Q p a ch ctr f) (noLoops) (Tryz.f50.body.getD .skip) ⟨[.agg [.val (.string a.Site), .val (.string a.Origin), .val (.int .i64 a.Challenge), .val (.int .i64 a.Handle), .val (.bool a.Present), .val (.int .i64 a.Counter), .val (.int .i64 a.Signature)], .one (.val (.int .i64 p)), .one (.val (.string z)), .one (.val (.int .i64 ch)), .one (.val (.int .i64 ctr))] ++ List.replicate (Tryz.f50.ntmps - ([.agg [.val (.string a.Site), .val (.string a.Origin), .val (.int .i64 a.Challenge), .val (.int .i64 a.Handle), .val (.bool a.Present), .val (.int .i64 a.Counter), .val (.int .i64 a.Signature)], .one (.val (.int .i64 p)), .one (.val (.string z)), .one (.val (.int .i64 ch)), .one (.val (.int .i64 ctr))] : List AV).length) (.one (.val undef)), fun _ => .un⟩ (retK Tryz.prog Tryz.f50.results.toList [(false, [.val (errV (chkA p a z ch ctr))])])) := by kernel_rfl
  rw [← hh_]
  clear hh_
  refine ⟨?g0, bcase_intro (fun h1 => ⟨?g2, rfl, ?g3⟩) (fun h1 => bcase_intro (fun h4 => ⟨?g5, rfl, ?g6⟩) (fun h4 => bcase_intro (fun h7 => ⟨?g8, rfl, ?g9⟩) (fun h7 => ⟨(conSg a p ha hs hs2 p0 p1), bcase_intro (fun h11 => ⟨?g12, rfl, ?g13⟩) (fun h11 => ⟨(conClone a ctr), bcase_intro (fun h15 => ⟨?g16, rfl, ?g17⟩) (fun h15 => ⟨rfl, ?g18⟩)⟩)⟩)))⟩
  case g0 => exact cust_plain (u := .bool f) rfl rfl (con_enters Tryz.func74 (by kernel_rfl) (by kernel_rfl)) rfl rfl fun W0 w h hb_ => by rw [hf]; exact implFor w a z hs2 hz ((hQ _ h).1.stays hb_) ((hQ _ h).2.stays hb_)
  case g2 => exact cust_iface rfl Tryz.underlying88 (fun _ h => by cases h) rfl
  case g5 => exact cust_iface rfl Tryz.underlying88 (fun _ h => by cases h) rfl
  case g8 => exact cust_iface rfl Tryz.underlying88 (fun _ h => by cases h) rfl
  case g12 => exact cust_iface rfl Tryz.underlying88 (fun _ h => by cases h) rfl
  case g16 => exact cust_iface rfl Tryz.underlying88 (fun _ h => by cases h) rfl
  case g3 =>
    have e : ¬ f = true := by simpa using h1
    rw [chk_f hf, if_neg e]; rfl
  all_goals have e1 : f = true := by simpa using h1
  case g6 =>
    have e : ¬ a.Present = true := by simpa using h4
    rw [chk_f hf, if_pos e1, if_neg e]; rfl
  all_goals have e4 : a.Present = true := by simpa using h4
  case g9 =>
    have e : ¬ a.Challenge = ch := by simpa using h7
    rw [chk_f hf, if_pos e1, if_pos e4, if_neg e]; rfl
  all_goals have e7 : a.Challenge = ch := by simpa using h7
  case g13 =>
    have e : ¬ vsg p (msg a ++ [a.Counter]) a.Signature = true := by have h11 : (!vsg p (msg a ++ [a.Counter]) a.Signature) = true := h11; simpa using h11
    rw [chk_f hf, if_pos e1, if_pos e4, if_pos e7, if_neg e]; rfl
  all_goals have e11 : vsg p (msg a ++ [a.Counter]) a.Signature = true := by have h11 : (!vsg p (msg a ++ [a.Counter]) a.Signature) = false := h11; simpa using h11
  case g17 =>
    have := of_decide_eq_true h15
    rw [chk_f hf, if_pos e1, if_pos e4, if_pos e7, if_pos e11, if_neg (by omega)]; rfl
  case g18 =>
    have := of_decide_eq_false h15
    rw [chk_f hf, if_pos e1, if_pos e4, if_pos e7, if_pos e11, if_pos (by omega)]; rfl
end Go.Proofs.YtmhjjocmnmeapaaGreatDoor.C13s
