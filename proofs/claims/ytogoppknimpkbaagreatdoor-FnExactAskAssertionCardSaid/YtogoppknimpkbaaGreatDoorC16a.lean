import Derived.Test.YtogoppknimpkbaaGreatDoorC16s
import Derived.Test.YtogoppknimpkbaaGreatDoorC16l
import Derived.Test.YtogoppknimpkbaaGreatDoorC13b
import Derived.Test.YtogoppknimpkbaaGreatDoorC13s
import Derived.Test.YtogoppknimpkbaaGreatDoorLa
namespace Go.Proofs.YtogoppknimpkbaaGreatDoor.C16a
open Go.ChangeShapes Go.WideShapes Go.ChangeAt Go.RowKit
open S0 S1 S9 Dm Fx M3 M8 M12 M13 C9 C10 C13b M24 C16c C16l E0 E1 E2 E3 E4 E7 E10 E15 E16 E17 E18 E19 E20 E21 E22 E24 E26 E28 Das
set_option linter.unusedVariables false
set_option linter.unusedSimpArgs false
set_option maxRecDepth 100000
set_option maxHeartbeats 4000000
noncomputable def askX (b : Fx.Browser) (t : Int) (z : ByteArray) (c : Bool) : Fx.Browser := match canB b t z with | true => (match c with | true => ⟨mkS b.Store (tabAt b t).Origin z, b.Tabs, IntKind.i64.wrap (b.Asked + 1)⟩ | false => M24.ask b) | false => b
noncomputable def askO (b : Fx.Browser) (t : Int) (z : ByteArray) (k ch : Int) (c : Bool) : Fx.Assertion := match canB b t z && c with | true => mkA b.Store (tabAt b t).Origin z k ch true | false => ⟨⟨#[]⟩, ⟨#[]⟩, 0, 0, false, 0, 0⟩
noncomputable def askB (b : Fx.Browser) (t : Int) (z : ByteArray) (c : Bool) : Bool := canB b t z && (c && mkB b.Store (tabAt b t).Origin z)
theorem ask_1 {b : Fx.Browser} {t : Int} {z : ByteArray} {k ch : Int} {c : Bool} (h : canB b t z = false) : askX b t z c = b ∧ askO b t z k ch c = ⟨⟨#[]⟩, ⟨#[]⟩, 0, 0, false, 0, 0⟩ ∧ askB b t z c = false := by
  unfold askX askO askB
  rw [h]
  exact ⟨rfl, rfl, rfl⟩
theorem ask_2 {b : Fx.Browser} {t : Int} {z : ByteArray} {k ch : Int} {c : Bool} (h : canB b t z = true) (h2 : c = false) : askX b t z c = M24.ask b ∧ askO b t z k ch c = ⟨⟨#[]⟩, ⟨#[]⟩, 0, 0, false, 0, 0⟩ ∧ askB b t z c = false := by
  subst h2
  unfold askX askO askB
  rw [h]
  exact ⟨rfl, rfl, rfl⟩
theorem ask_3 {b : Fx.Browser} {t : Int} {z : ByteArray} {k ch : Int} {c : Bool} (h : canB b t z = true) (h2 : c = true) : askX b t z c = ⟨mkS b.Store (tabAt b t).Origin z, b.Tabs, IntKind.i64.wrap (b.Asked + 1)⟩ ∧ askO b t z k ch c = mkA b.Store (tabAt b t).Origin z k ch true ∧ askB b t z c = mkB b.Store (tabAt b t).Origin z := by
  subst h2
  unfold askX askO askB
  rw [h]
  exact ⟨rfl, rfl, rfl⟩
theorem mk_no {x : Fx.KeyStore} {o : Fx.Origin} {z : ByteArray} {k ch : Int} {p : Bool} (e : mkB x o z = false) : mkS x o z = x ∧ mkA x o z k ch p = ⟨⟨#[]⟩, ⟨#[]⟩, 0, 0, false, 0, 0⟩ := ⟨by unfold mkS; rw [e]; rfl, by unfold mkA; rw [e]; rfl⟩
theorem ask_4 {b : Fx.Browser} {t : Int} {z : ByteArray} {k ch : Int} {c : Bool} (h : canB b t z = true) (h3 : mkB b.Store (tabAt b t).Origin z = false) : askX b t z c = M24.ask b ∧ askO b t z k ch c = ⟨⟨#[]⟩, ⟨#[]⟩, 0, 0, false, 0, 0⟩ ∧ askB b t z c = false := by
  cases c with
  | false => exact ask_2 h rfl
  | true =>
    obtain ⟨e1, e2, e3⟩ := ask_3 (k := k) (ch := ch) h rfl
    obtain ⟨f1, f2⟩ := mk_no (k := k) (ch := ch) (p := true) h3
    rw [f1] at e1
    rw [f2] at e2
    rw [h3] at e3
    exact ⟨e1, e2, e3⟩
theorem ask_5 {b : Fx.Browser} {t : Int} {z : ByteArray} {k ch : Int} {c : Bool} (h : canB b t z = true) (h2 : c = true) (h3 : mkB b.Store (tabAt b t).Origin z = true) : askX b t z c = ⟨mkS b.Store (tabAt b t).Origin z, b.Tabs, IntKind.i64.wrap (b.Asked + 1)⟩ ∧ askO b t z k ch c = mkA b.Store (tabAt b t).Origin z k ch true ∧ askB b t z c = true := by
  obtain ⟨e1, e2, e3⟩ := ask_3 (k := k) (ch := ch) h h2
  rw [h3] at e3
  exact ⟨e1, e2, e3⟩
noncomputable def askC (b : Fx.Browser) (t : Int) (z : ByteArray) (k ch : Int) : Orc := callsBy fun d _ _ => match d with | some 20 => some [(true, dasBrowser b)] | some 24 => some [bV (canB b t z)] | some 44 => some [(true, dasKeyStore (mkS b.Store (tabAt b t).Origin z)), (true, dasAssertion (mkA b.Store (tabAt b t).Origin z k ch true)), bV (mkB b.Store (tabAt b t).Origin z)] | _ => none
noncomputable def askI (Q : World → Prop) (b : Fx.Browser) (t : Int) (z : ByteArray) (k ch : Int) (c : Bool) (m : Bool) : Orc := ⟨fun d _ _ => match d with | some 21 => some [(false, [rowR 62 6 dasTab zTab b.Tabs])] | _ => none, fun id vs os => match id with
  | 30024 => (match m with
    | true => some ⟨[], .tup [(false, [.elo 20016 6 t.toNat 0]), (false, [.val (.bool c)])], [(10000, .var 28 [.val (.int .i64 (M24.ask b).Store.Vendor), .val (.int .i64 (M24.ask b).Store.Serial), .val (.int .i64 (M24.ask b).Store.Seed), .val (.int .i64 (M24.ask b).Store.Counter), .own 20016, .val (.int .i64 (M24.ask b).Asked)])]⟩
    | false => some ⟨[], .tup [(false, [.val (.pointer none)]), (false, [.val (.bool false)])], []⟩)
  | 60072 => some ⟨[], .tup [(true, [.val (.int .i64 (mkS b.Store (tabAt b t).Origin z).Vendor), .val (.int .i64 (mkS b.Store (tabAt b t).Origin z).Serial), .val (.int .i64 (mkS b.Store (tabAt b t).Origin z).Seed), .val (.int .i64 (mkS b.Store (tabAt b t).Origin z).Counter)]), (true, [.val (.string (mkA b.Store (tabAt b t).Origin z k ch true).Site), .val (.string (mkA b.Store (tabAt b t).Origin z k ch true).Origin), .val (.int .i64 (mkA b.Store (tabAt b t).Origin z k ch true).Challenge), .val (.int .i64 (mkA b.Store (tabAt b t).Origin z k ch true).Handle), .val (.bool (mkA b.Store (tabAt b t).Origin z k ch true).Present), .val (.int .i64 (mkA b.Store (tabAt b t).Origin z k ch true).Counter), .val (.int .i64 (mkA b.Store (tabAt b t).Origin z k ch true).Signature)]), (false, [.val (.bool (mkB b.Store (tabAt b t).Origin z))])], []⟩
  | _ => none, Q⟩
theorem conAskS (b : Fx.Browser) (t : Int) (z : ByteArray) (k ch : Int) (c : Bool) (hn : b.Tabs.length ≤ 16000000) (hs : short b) (hz : z.size ≤ 15000000) (ho : (tabAt b t).Origin.Host.size ≤ 15000000) (hst : b.Store.ok) (k0 : -9223372036854775808 ≤ k) (k1 : k ≤ 9223372036854775807) (ch0 : -9223372036854775808 ≤ ch) (ch1 : ch ≤ 9223372036854775807) : FnCon Tryz.prog 16 ([(true, dasBrowser b), iV t, sV z, iV k, iV ch, bV c]) ([(true, dasBrowser (askX b t z c)), (true, dasAssertion (askO b t z k ch c)), bV (askB b t z c)]) := by
  refine fn_go (p := ((FnCon Tryz.prog 44 [(true, (dasBrowser b))] [(true, dasBrowser b)]) ∧ ((FnCon Tryz.prog 9 [(true, (dasBrowser b)), (false, [dI (t)]), (false, [dS (z)])] [(false, [dB ((canB b t z))])]) ∧ bcase (!canB b t z) ((true = true ∧ (vI b.Store.Vendor = vI (askX b t z c).Store.Vendor ∧ (vI b.Store.Serial = vI (askX b t z c).Store.Serial ∧ (vI b.Store.Seed = vI (askX b t z c).Store.Seed ∧ (vI b.Store.Counter = vI (askX b t z c).Store.Counter ∧ ((DaEq (rowR 62 6 dasTab zTab b.Tabs) (Da.row 62 6 (askX b t z c).Tabs.length fun i j => (dasTab ((askX b t z c).Tabs.getD i zTab)).getD j (Da.val undef))) ∧ vI b.Asked = vI (askX b t z c).Asked)))))) ∧ ((true = true ∧ (Value.string { data := { toList := [] } } = Value.string (askO b t z k ch c).Site ∧ (Value.string { data := { toList := [] } } = Value.string (askO b t z k ch c).Origin ∧ (vI 0 = vI (askO b t z k ch c).Challenge ∧ (vI 0 = vI (askO b t z k ch c).Handle ∧ (Value.bool false = Value.bool (askO b t z k ch c).Present ∧ (vI 0 = vI (askO b t z k ch c).Counter ∧ vI 0 = vI (askO b t z k ch c).Signature))))))) ∧ (false = false ∧ Value.bool false = Value.bool (askB b t z c)))) ((0 ≤ t ∧ t < (↑b.Tabs.length : Int)) ∧ (FnCon Tryz.prog 45 [(true, [dI (b.Store.Vendor), dI (b.Store.Serial), dI (b.Store.Seed), dI (b.Store.Counter)]), (true, [dB ((b.Tabs.getD t.toNat zTab).Origin.Secure), dS ((b.Tabs.getD t.toNat zTab).Origin.Host), dI ((b.Tabs.getD t.toNat zTab).Origin.Port)]), (false, [dS (z)]), (false, [dI (k)]), (false, [dI (ch)]), (false, [dB (true)])] [(true, dasKeyStore (mkS b.Store (tabAt b t).Origin z)), (true, dasAssertion (mkA b.Store (tabAt b t).Origin z k ch true)), (false, [dB ((mkB b.Store (tabAt b t).Origin z))])] ∧ bcase (!c) ((!c) = true ∧ ((true = true ∧ (vI b.Store.Vendor = vI (askX b t z c).Store.Vendor ∧ (vI b.Store.Serial = vI (askX b t z c).Store.Serial ∧ (vI b.Store.Seed = vI (askX b t z c).Store.Seed ∧ (vI b.Store.Counter = vI (askX b t z c).Store.Counter ∧ ((DaEq (rowR 62 6 dasTab zTab b.Tabs) (Da.row 62 6 (askX b t z c).Tabs.length fun i j => (dasTab ((askX b t z c).Tabs.getD i zTab)).getD j (Da.val undef))) ∧ vI (IntKind.i64.wrap (b.Asked + 1)) = vI (askX b t z c).Asked)))))) ∧ ((true = true ∧ (Value.string { data := { toList := [] } } = Value.string (askO b t z k ch c).Site ∧ (Value.string { data := { toList := [] } } = Value.string (askO b t z k ch c).Origin ∧ (vI 0 = vI (askO b t z k ch c).Challenge ∧ (vI 0 = vI (askO b t z k ch c).Handle ∧ (Value.bool false = Value.bool (askO b t z k ch c).Present ∧ (vI 0 = vI (askO b t z k ch c).Counter ∧ vI 0 = vI (askO b t z k ch c).Signature))))))) ∧ (false = false ∧ Value.bool false = Value.bool (askB b t z c))))) ((!c) = false ∧ bcase (!mkB b.Store (tabAt b t).Origin z) ((true = true ∧ (vI b.Store.Vendor = vI (askX b t z c).Store.Vendor ∧ (vI b.Store.Serial = vI (askX b t z c).Store.Serial ∧ (vI b.Store.Seed = vI (askX b t z c).Store.Seed ∧ (vI b.Store.Counter = vI (askX b t z c).Store.Counter ∧ ((DaEq (rowR 62 6 dasTab zTab b.Tabs) (Da.row 62 6 (askX b t z c).Tabs.length fun i j => (dasTab ((askX b t z c).Tabs.getD i zTab)).getD j (Da.val undef))) ∧ vI (IntKind.i64.wrap (b.Asked + 1)) = vI (askX b t z c).Asked)))))) ∧ ((true = true ∧ (Value.string { data := { toList := [] } } = Value.string (askO b t z k ch c).Site ∧ (Value.string { data := { toList := [] } } = Value.string (askO b t z k ch c).Origin ∧ (vI 0 = vI (askO b t z k ch c).Challenge ∧ (vI 0 = vI (askO b t z k ch c).Handle ∧ (Value.bool false = Value.bool (askO b t z k ch c).Present ∧ (vI 0 = vI (askO b t z k ch c).Counter ∧ vI 0 = vI (askO b t z k ch c).Signature))))))) ∧ (false = false ∧ Value.bool false = Value.bool (askB b t z c)))) ((true = true ∧ (vI (mkS b.Store (tabAt b t).Origin z).Vendor = vI (askX b t z c).Store.Vendor ∧ (vI (mkS b.Store (tabAt b t).Origin z).Serial = vI (askX b t z c).Store.Serial ∧ (vI (mkS b.Store (tabAt b t).Origin z).Seed = vI (askX b t z c).Store.Seed ∧ (vI (mkS b.Store (tabAt b t).Origin z).Counter = vI (askX b t z c).Store.Counter ∧ ((DaEq (rowR 62 6 dasTab zTab b.Tabs) (Da.row 62 6 (askX b t z c).Tabs.length fun i j => (dasTab ((askX b t z c).Tabs.getD i zTab)).getD j (Da.val undef))) ∧ vI (IntKind.i64.wrap (b.Asked + 1)) = vI (askX b t z c).Asked)))))) ∧ ((true = true ∧ (Value.string (mkA b.Store (tabAt b t).Origin z k ch true).Site = Value.string (askO b t z k ch c).Site ∧ (Value.string (mkA b.Store (tabAt b t).Origin z k ch true).Origin = Value.string (askO b t z k ch c).Origin ∧ (vI (mkA b.Store (tabAt b t).Origin z k ch true).Challenge = vI (askO b t z k ch c).Challenge ∧ (vI (mkA b.Store (tabAt b t).Origin z k ch true).Handle = vI (askO b t z k ch c).Handle ∧ (Value.bool (mkA b.Store (tabAt b t).Origin z k ch true).Present = Value.bool (askO b t z k ch c).Present ∧ (vI (mkA b.Store (tabAt b t).Origin z k ch true).Counter = vI (askO b t z k ch c).Counter ∧ vI (mkA b.Store (tabAt b t).Origin z k ch true).Signature = vI (askO b t z k ch c).Signature))))))) ∧ (false = false ∧ Value.bool true = Value.bool (askB b t z c)))))))))) (askC b t z k ch) (noLoops) Tryz.func16 (by kernel_rfl) (by kernel_rfl) (by kernel_rfl) (fun _ => trivial) (by kernel_rfl) ?_
  refine ⟨(C16s.conCopy b hn), (C16s.conCan b t z hn hs (by omega)), bcase_intro (fun h2 => ⟨⟨rfl, congrArg _ ?g3, congrArg _ ?g4, congrArg _ ?g5, congrArg _ ?g6, ?g7, congrArg _ ?g8⟩, ⟨rfl, congrArg _ ?g9, congrArg _ ?g10, congrArg _ ?g11, congrArg _ ?g12, congrArg _ ?g13, congrArg _ ?g14, congrArg _ ?g15⟩, rfl, congrArg _ ?g16⟩) (fun h2 => ⟨⟨?g17, ?g18⟩, (C13b.conMake b.Store (tabAt b t).Origin z k ch true hst hz ho k0 k1 ch0 ch1), bcase_intro (fun h20 => ⟨h20, ⟨rfl, congrArg _ ?g21, congrArg _ ?g22, congrArg _ ?g23, congrArg _ ?g24, ?g25, congrArg _ ?g26⟩, ⟨rfl, congrArg _ ?g27, congrArg _ ?g28, congrArg _ ?g29, congrArg _ ?g30, congrArg _ ?g31, congrArg _ ?g32, congrArg _ ?g33⟩, rfl, congrArg _ ?g34⟩) (fun h20 => ⟨h20, bcase_intro (fun h35 => ⟨⟨rfl, congrArg _ ?g36, congrArg _ ?g37, congrArg _ ?g38, congrArg _ ?g39, ?g40, congrArg _ ?g41⟩, ⟨rfl, congrArg _ ?g42, congrArg _ ?g43, congrArg _ ?g44, congrArg _ ?g45, congrArg _ ?g46, congrArg _ ?g47, congrArg _ ?g48⟩, rfl, congrArg _ ?g49⟩) (fun h35 => ⟨⟨rfl, congrArg _ ?g50, congrArg _ ?g51, congrArg _ ?g52, congrArg _ ?g53, ?g54, congrArg _ ?g55⟩, ⟨rfl, congrArg _ ?g56, congrArg _ ?g57, congrArg _ ?g58, congrArg _ ?g59, congrArg _ ?g60, congrArg _ ?g61, congrArg _ ?g62⟩, rfl, congrArg _ ?g63⟩)⟩)⟩)⟩
  case g3 | g4 | g5 | g6 | g7 | g8 | g9 | g10 | g11 | g12 | g13 | g14 | g15 | g16 =>
    obtain ⟨eX, eO, eB⟩ := ask_1 (k := k) (ch := ch) (c := c) (show canB b t z = false by simpa using h2)
    first
      | exact (congrArg (fun y : Fx.Browser => y.Store.Vendor) eX).symm
      | exact (congrArg (fun y : Fx.Browser => y.Store.Serial) eX).symm
      | exact (congrArg (fun y : Fx.Browser => y.Store.Seed) eX).symm
      | exact (congrArg (fun y : Fx.Browser => y.Store.Counter) eX).symm
      | exact (congrArg (fun y : Fx.Browser => y.Asked) eX).symm
      | exact row_to row_self (congrArg (fun y : Fx.Browser => y.Tabs) eX).symm
      | exact (congrArg (fun y : Fx.Assertion => y.Site) eO).symm
      | exact (congrArg (fun y : Fx.Assertion => y.Origin) eO).symm
      | exact (congrArg (fun y : Fx.Assertion => y.Challenge) eO).symm
      | exact (congrArg (fun y : Fx.Assertion => y.Handle) eO).symm
      | exact (congrArg (fun y : Fx.Assertion => y.Present) eO).symm
      | exact (congrArg (fun y : Fx.Assertion => y.Counter) eO).symm
      | exact (congrArg (fun y : Fx.Assertion => y.Signature) eO).symm
      | exact eB.symm
  all_goals have h2 : canB b t z = true := by simpa using h2
  case g17 | g18 => have := isTab_lt (canB_is h2); omega
  case g21 | g22 | g23 | g24 | g25 | g26 | g27 | g28 | g29 | g30 | g31 | g32 | g33 | g34 =>
    obtain ⟨eX, eO, eB⟩ := ask_2 (k := k) (ch := ch) h2 (show c = false by simpa using h20)
    first
      | exact (congrArg (fun y : Fx.Browser => y.Store.Vendor) eX).symm
      | exact (congrArg (fun y : Fx.Browser => y.Store.Serial) eX).symm
      | exact (congrArg (fun y : Fx.Browser => y.Store.Seed) eX).symm
      | exact (congrArg (fun y : Fx.Browser => y.Store.Counter) eX).symm
      | exact (congrArg (fun y : Fx.Browser => y.Asked) eX).symm
      | exact row_to row_self (congrArg (fun y : Fx.Browser => y.Tabs) eX).symm
      | exact (congrArg (fun y : Fx.Assertion => y.Site) eO).symm
      | exact (congrArg (fun y : Fx.Assertion => y.Origin) eO).symm
      | exact (congrArg (fun y : Fx.Assertion => y.Challenge) eO).symm
      | exact (congrArg (fun y : Fx.Assertion => y.Handle) eO).symm
      | exact (congrArg (fun y : Fx.Assertion => y.Present) eO).symm
      | exact (congrArg (fun y : Fx.Assertion => y.Counter) eO).symm
      | exact (congrArg (fun y : Fx.Assertion => y.Signature) eO).symm
      | exact eB.symm
  case g36 | g37 | g38 | g39 | g40 | g41 | g42 | g43 | g44 | g45 | g46 | g47 | g48 | g49 =>
    obtain ⟨eX, eO, eB⟩ := ask_4 (k := k) (ch := ch) (c := c) h2 (show mkB b.Store (tabAt b t).Origin z = false by simpa using h35)
    first
      | exact (congrArg (fun y : Fx.Browser => y.Store.Vendor) eX).symm
      | exact (congrArg (fun y : Fx.Browser => y.Store.Serial) eX).symm
      | exact (congrArg (fun y : Fx.Browser => y.Store.Seed) eX).symm
      | exact (congrArg (fun y : Fx.Browser => y.Store.Counter) eX).symm
      | exact (congrArg (fun y : Fx.Browser => y.Asked) eX).symm
      | exact row_to row_self (congrArg (fun y : Fx.Browser => y.Tabs) eX).symm
      | exact (congrArg (fun y : Fx.Assertion => y.Site) eO).symm
      | exact (congrArg (fun y : Fx.Assertion => y.Origin) eO).symm
      | exact (congrArg (fun y : Fx.Assertion => y.Challenge) eO).symm
      | exact (congrArg (fun y : Fx.Assertion => y.Handle) eO).symm
      | exact (congrArg (fun y : Fx.Assertion => y.Present) eO).symm
      | exact (congrArg (fun y : Fx.Assertion => y.Counter) eO).symm
      | exact (congrArg (fun y : Fx.Assertion => y.Signature) eO).symm
      | exact eB.symm
  all_goals
    obtain ⟨eX, eO, eB⟩ := ask_5 (k := k) (ch := ch) h2 (show c = true by simpa using h20) (show mkB b.Store (tabAt b t).Origin z = true by simpa using h35)
    first
      | exact (congrArg (fun y : Fx.Browser => y.Store.Vendor) eX).symm
      | exact (congrArg (fun y : Fx.Browser => y.Store.Serial) eX).symm
      | exact (congrArg (fun y : Fx.Browser => y.Store.Seed) eX).symm
      | exact (congrArg (fun y : Fx.Browser => y.Store.Counter) eX).symm
      | exact (congrArg (fun y : Fx.Browser => y.Asked) eX).symm
      | exact row_to row_self (congrArg (fun y : Fx.Browser => y.Tabs) eX).symm
      | exact (congrArg (fun y : Fx.Assertion => y.Site) eO).symm
      | exact (congrArg (fun y : Fx.Assertion => y.Origin) eO).symm
      | exact (congrArg (fun y : Fx.Assertion => y.Challenge) eO).symm
      | exact (congrArg (fun y : Fx.Assertion => y.Handle) eO).symm
      | exact (congrArg (fun y : Fx.Assertion => y.Present) eO).symm
      | exact (congrArg (fun y : Fx.Assertion => y.Counter) eO).symm
      | exact (congrArg (fun y : Fx.Assertion => y.Signature) eO).symm
      | exact eB.symm
theorem wpAskT (Q : World → Prop) (hQ : ∀ w, Q w → La.Pow w) (b : Fx.Browser) (t : Int) (z : ByteArray) (k ch : Int) (c : Bool) (hn : b.Tabs.length ≤ 16000000) (hs : short b) (hz : z.size ≤ 15000000) (ho : (tabAt b t).Origin.Host.size ≤ 15000000) (hst : b.Store.ok) (k0 : -9223372036854775808 ≤ k) (k1 : k ≤ 9223372036854775807) (ch0 : -9223372036854775808 ≤ ch) (ch1 : ch ≤ 9223372036854775807) (hi : canB b t z = true) : awp Tryz.prog (askI Q b t z k ch c true) (noLoops) (Tryz.f7.body.getD .skip) ⟨[.agg [.val (.int .i64 b.Store.Vendor), .val (.int .i64 b.Store.Serial), .val (.int .i64 b.Store.Seed), .val (.int .i64 b.Store.Counter), .old (rowR 62 6 dasTab zTab b.Tabs), .val (.int .i64 b.Asked)], .one (.val (.int .i64 t)), .one (.val (.string z)), .one (.val (.int .i64 k)), .one (.val (.int .i64 ch)), .one (.val (.bool c))] ++ List.replicate (Tryz.f7.ntmps - ([.agg [.val (.int .i64 b.Store.Vendor), .val (.int .i64 b.Store.Serial), .val (.int .i64 b.Store.Seed), .val (.int .i64 b.Store.Counter), .old (rowR 62 6 dasTab zTab b.Tabs), .val (.int .i64 b.Asked)], .one (.val (.int .i64 t)), .one (.val (.string z)), .one (.val (.int .i64 k)), .one (.val (.int .i64 ch)), .one (.val (.bool c))] : List AV).length) (.one (.val undef)), fun _ => .un⟩ (retK Tryz.prog Tryz.f7.results.toList [(true, dasBrowser (askX b t z c)), (true, dasAssertion (askO b t z k ch c)), bV (askB b t z c)]) := by
  have hh_ : ((FnCon Tryz.prog 26 [(false, [rowR 62 6 dasTab zTab b.Tabs])] [(false, [rowR 62 6 dasTab zTab b.Tabs])]) ∧ ((Cust Tryz.prog Q 30024 (opOf (Tryz.f7.body.getD Code.skip) 2 3) [AV.one (Sc.val (Value.func (Fn.func 27) { toList := [] } { toList := [] })), AV.one (Sc.ptr 10000 0), AV.one (Sc.val (vI t)), AV.one (Sc.val (Value.string z)), AV.one (Sc.val (Value.bool c))] [Ob.var 28 [Sc.val (vI b.Store.Vendor), Sc.val (vI b.Store.Serial), Sc.val (vI b.Store.Seed), Sc.val (vI b.Store.Counter), Sc.own 20016, Sc.val (vI b.Asked)], Ob.own (rowR 62 6 dasTab zTab b.Tabs)] { need := [], val := AV.tup [(false, [Sc.elo 20016 6 t.toNat 0]), (false, [Sc.val (Value.bool c)])], mem := [(10000, Ob.var 28 [Sc.val (vI (M24.ask b).Store.Vendor), Sc.val (vI (M24.ask b).Store.Serial), Sc.val (vI (M24.ask b).Store.Seed), Sc.val (vI (M24.ask b).Store.Counter), Sc.own 20016, Sc.val (vI (M24.ask b).Asked)])] }) ∧ bcase (!c) ((true = true ∧ (vI (M24.ask b).Store.Vendor = vI (askX b t z c).Store.Vendor ∧ (vI (M24.ask b).Store.Serial = vI (askX b t z c).Store.Serial ∧ (vI (M24.ask b).Store.Seed = vI (askX b t z c).Store.Seed ∧ (vI (M24.ask b).Store.Counter = vI (askX b t z c).Store.Counter ∧ ((DaEq (rowR 62 6 dasTab zTab b.Tabs) (Da.row 62 6 (askX b t z c).Tabs.length fun i j => (dasTab ((askX b t z c).Tabs.getD i zTab)).getD j (Da.val undef))) ∧ vI (M24.ask b).Asked = vI (askX b t z c).Asked)))))) ∧ ((true = true ∧ (Value.string { data := { toList := [] } } = Value.string (askO b t z k ch c).Site ∧ (Value.string { data := { toList := [] } } = Value.string (askO b t z k ch c).Origin ∧ (vI 0 = vI (askO b t z k ch c).Challenge ∧ (vI 0 = vI (askO b t z k ch c).Handle ∧ (Value.bool false = Value.bool (askO b t z k ch c).Present ∧ (vI 0 = vI (askO b t z k ch c).Counter ∧ vI 0 = vI (askO b t z k ch c).Signature))))))) ∧ (false = false ∧ Value.bool false = Value.bool (askB b t z c)))) (Cust Tryz.prog Q 60072 (opOf (Tryz.f7.body.getD Code.skip) 5 9) [AV.one (Sc.val (Value.func (Fn.func 28) { toList := [] } { toList := [] })), AV.agg [Sc.val (vI (M24.ask b).Store.Vendor), Sc.val (vI (M24.ask b).Store.Serial), Sc.val (vI (M24.ask b).Store.Seed), Sc.val (vI (M24.ask b).Store.Counter)], AV.agg [Sc.val (Value.bool (b.Tabs.getD t.toNat zTab).Origin.Secure), Sc.val (Value.string (b.Tabs.getD t.toNat zTab).Origin.Host), Sc.val (vI (b.Tabs.getD t.toNat zTab).Origin.Port)], AV.one (Sc.val (Value.string z)), AV.one (Sc.val (vI k)), AV.one (Sc.val (vI ch)), AV.one (Sc.val (Value.bool true))] [] { need := [], val := AV.tup [(true, [Sc.val (vI (mkS b.Store (tabAt b t).Origin z).Vendor), Sc.val (vI (mkS b.Store (tabAt b t).Origin z).Serial), Sc.val (vI (mkS b.Store (tabAt b t).Origin z).Seed), Sc.val (vI (mkS b.Store (tabAt b t).Origin z).Counter)]), (true, [Sc.val (Value.string (mkA b.Store (tabAt b t).Origin z k ch true).Site), Sc.val (Value.string (mkA b.Store (tabAt b t).Origin z k ch true).Origin), Sc.val (vI (mkA b.Store (tabAt b t).Origin z k ch true).Challenge), Sc.val (vI (mkA b.Store (tabAt b t).Origin z k ch true).Handle), Sc.val (Value.bool (mkA b.Store (tabAt b t).Origin z k ch true).Present), Sc.val (vI (mkA b.Store (tabAt b t).Origin z k ch true).Counter), Sc.val (vI (mkA b.Store (tabAt b t).Origin z k ch true).Signature)]), (false, [Sc.val (Value.bool (mkB b.Store (tabAt b t).Origin z))])], mem := [] } ∧ ((true = true ∧ (vI (mkS b.Store (tabAt b t).Origin z).Vendor = vI (askX b t z c).Store.Vendor ∧ (vI (mkS b.Store (tabAt b t).Origin z).Serial = vI (askX b t z c).Store.Serial ∧ (vI (mkS b.Store (tabAt b t).Origin z).Seed = vI (askX b t z c).Store.Seed ∧ (vI (mkS b.Store (tabAt b t).Origin z).Counter = vI (askX b t z c).Store.Counter ∧ ((DaEq (rowR 62 6 dasTab zTab b.Tabs) (Da.row 62 6 (askX b t z c).Tabs.length fun i j => (dasTab ((askX b t z c).Tabs.getD i zTab)).getD j (Da.val undef))) ∧ vI (M24.ask b).Asked = vI (askX b t z c).Asked)))))) ∧ ((true = true ∧ (Value.string (mkA b.Store (tabAt b t).Origin z k ch true).Site = Value.string (askO b t z k ch c).Site ∧ (Value.string (mkA b.Store (tabAt b t).Origin z k ch true).Origin = Value.string (askO b t z k ch c).Origin ∧ (vI (mkA b.Store (tabAt b t).Origin z k ch true).Challenge = vI (askO b t z k ch c).Challenge ∧ (vI (mkA b.Store (tabAt b t).Origin z k ch true).Handle = vI (askO b t z k ch c).Handle ∧ (Value.bool (mkA b.Store (tabAt b t).Origin z k ch true).Present = Value.bool (askO b t z k ch c).Present ∧ (vI (mkA b.Store (tabAt b t).Origin z k ch true).Counter = vI (askO b t z k ch c).Counter ∧ vI (mkA b.Store (tabAt b t).Origin z k ch true).Signature = vI (askO b t z k ch c).Signature))))))) ∧ (false = false ∧ Value.bool (mkB b.Store (tabAt b t).Origin z) = Value.bool (askB b t z c))))))) = (awp Tryz.prog (askI Q b t z k ch c true) (noLoops) (Tryz.f7.body.getD .skip) ⟨[.agg [.val (.int .i64 b.Store.Vendor), .val (.int .i64 b.Store.Serial), .val (.int .i64 b.Store.Seed), .val (.int .i64 b.Store.Counter), .old (rowR 62 6 dasTab zTab b.Tabs), .val (.int .i64 b.Asked)], .one (.val (.int .i64 t)), .one (.val (.string z)), .one (.val (.int .i64 k)), .one (.val (.int .i64 ch)), .one (.val (.bool c))] ++ List.replicate (Tryz.f7.ntmps - ([.agg [.val (.int .i64 b.Store.Vendor), .val (.int .i64 b.Store.Serial), .val (.int .i64 b.Store.Seed), .val (.int .i64 b.Store.Counter), .old (rowR 62 6 dasTab zTab b.Tabs), .val (.int .i64 b.Asked)], .one (.val (.int .i64 t)), .one (.val (.string z)), .one (.val (.int .i64 k)), .one (.val (.int .i64 ch)), .one (.val (.bool c))] : List AV).length) (.one (.val undef)), fun _ => .un⟩ (retK Tryz.prog Tryz.f7.results.toList [(true, dasBrowser (askX b t z c)), (true, dasAssertion (askO b t z k ch c)), bV (askB b t z c)])) := by kernel_rfl
  rw [← hh_]
  clear hh_
  refine ⟨(C16k.conCopy b.Tabs hn), ?g1, bcase_intro (fun h2 => ⟨⟨rfl, congrArg _ ?g3, congrArg _ ?g4, congrArg _ ?g5, congrArg _ ?g6, ?g7, congrArg _ ?g8⟩, ⟨rfl, congrArg _ ?g9, congrArg _ ?g10, congrArg _ ?g11, congrArg _ ?g12, congrArg _ ?g13, congrArg _ ?g14, congrArg _ ?g15⟩, rfl, congrArg _ ?g16⟩) (fun h2 => ⟨?g17, ⟨rfl, congrArg _ ?g18, congrArg _ ?g19, congrArg _ ?g20, congrArg _ ?g21, ?g22, congrArg _ ?g23⟩, ⟨rfl, congrArg _ ?g24, congrArg _ ?g25, congrArg _ ?g26, congrArg _ ?g27, congrArg _ ?g28, congrArg _ ?g29, congrArg _ ?g30⟩, rfl, congrArg _ ?g31⟩)⟩
  case g1 => exact cust_askT rfl rfl rfl (DaEq.refl _) hn hs (by omega) hi
  case g17 => exact cust_plain (u := C13b.mkV (mkS b.Store (tabAt b t).Origin z) (mkA b.Store (tabAt b t).Origin z k ch true) (mkB b.Store (tabAt b t).Origin z)) rfl rfl (con_enters Tryz.func28 (by kernel_rfl) (by kernel_rfl)) rfl rfl fun W0 w h hb => C13s.implMake w b.Store (tabAt b t).Origin z k ch true _ _ KeyStore.mkR Origin.mkR hst hz ho k0 k1 ch0 ch1 ((hQ _ h).stays hb)
  case g3 | g4 | g5 | g6 | g7 | g8 | g9 | g10 | g11 | g12 | g13 | g14 | g15 | g16 =>
    obtain ⟨eX, eO, eB⟩ := ask_2 (k := k) (ch := ch) hi (show c = false by simpa using h2)
    first
      | exact (congrArg (fun y : Fx.Browser => y.Store.Vendor) eX).symm
      | exact (congrArg (fun y : Fx.Browser => y.Store.Serial) eX).symm
      | exact (congrArg (fun y : Fx.Browser => y.Store.Seed) eX).symm
      | exact (congrArg (fun y : Fx.Browser => y.Store.Counter) eX).symm
      | exact (congrArg (fun y : Fx.Browser => y.Asked) eX).symm
      | exact row_to row_self (congrArg (fun y : Fx.Browser => y.Tabs) eX).symm
      | exact (congrArg (fun y : Fx.Assertion => y.Site) eO).symm
      | exact (congrArg (fun y : Fx.Assertion => y.Origin) eO).symm
      | exact (congrArg (fun y : Fx.Assertion => y.Challenge) eO).symm
      | exact (congrArg (fun y : Fx.Assertion => y.Handle) eO).symm
      | exact (congrArg (fun y : Fx.Assertion => y.Present) eO).symm
      | exact (congrArg (fun y : Fx.Assertion => y.Counter) eO).symm
      | exact (congrArg (fun y : Fx.Assertion => y.Signature) eO).symm
      | exact eB.symm
  all_goals
    obtain ⟨eX, eO, eB⟩ := ask_3 (k := k) (ch := ch) hi (show c = true by simpa using h2)
    first
      | exact (congrArg (fun y : Fx.Browser => y.Store.Vendor) eX).symm
      | exact (congrArg (fun y : Fx.Browser => y.Store.Serial) eX).symm
      | exact (congrArg (fun y : Fx.Browser => y.Store.Seed) eX).symm
      | exact (congrArg (fun y : Fx.Browser => y.Store.Counter) eX).symm
      | exact (congrArg (fun y : Fx.Browser => y.Asked) eX).symm
      | exact row_to row_self (congrArg (fun y : Fx.Browser => y.Tabs) eX).symm
      | exact (congrArg (fun y : Fx.Assertion => y.Site) eO).symm
      | exact (congrArg (fun y : Fx.Assertion => y.Origin) eO).symm
      | exact (congrArg (fun y : Fx.Assertion => y.Challenge) eO).symm
      | exact (congrArg (fun y : Fx.Assertion => y.Handle) eO).symm
      | exact (congrArg (fun y : Fx.Assertion => y.Present) eO).symm
      | exact (congrArg (fun y : Fx.Assertion => y.Counter) eO).symm
      | exact (congrArg (fun y : Fx.Assertion => y.Signature) eO).symm
      | exact eB.symm
theorem wpAskF (Q : World → Prop) (b : Fx.Browser) (t : Int) (z : ByteArray) (k ch : Int) (c : Bool) (hn : b.Tabs.length ≤ 16000000) (hs : short b) (hz : z.size ≤ 15000000) (ho : (tabAt b t).Origin.Host.size ≤ 15000000) (hst : b.Store.ok) (k0 : -9223372036854775808 ≤ k) (k1 : k ≤ 9223372036854775807) (ch0 : -9223372036854775808 ≤ ch) (ch1 : ch ≤ 9223372036854775807) (hi : canB b t z = false) : awp Tryz.prog (askI Q b t z k ch c false) (noLoops) (Tryz.f7.body.getD .skip) ⟨[.agg [.val (.int .i64 b.Store.Vendor), .val (.int .i64 b.Store.Serial), .val (.int .i64 b.Store.Seed), .val (.int .i64 b.Store.Counter), .old (rowR 62 6 dasTab zTab b.Tabs), .val (.int .i64 b.Asked)], .one (.val (.int .i64 t)), .one (.val (.string z)), .one (.val (.int .i64 k)), .one (.val (.int .i64 ch)), .one (.val (.bool c))] ++ List.replicate (Tryz.f7.ntmps - ([.agg [.val (.int .i64 b.Store.Vendor), .val (.int .i64 b.Store.Serial), .val (.int .i64 b.Store.Seed), .val (.int .i64 b.Store.Counter), .old (rowR 62 6 dasTab zTab b.Tabs), .val (.int .i64 b.Asked)], .one (.val (.int .i64 t)), .one (.val (.string z)), .one (.val (.int .i64 k)), .one (.val (.int .i64 ch)), .one (.val (.bool c))] : List AV).length) (.one (.val undef)), fun _ => .un⟩ (retK Tryz.prog Tryz.f7.results.toList [(true, dasBrowser (askX b t z c)), (true, dasAssertion (askO b t z k ch c)), bV (askB b t z c)]) := by
  have hh_ : ((FnCon Tryz.prog 26 [(false, [rowR 62 6 dasTab zTab b.Tabs])] [(false, [rowR 62 6 dasTab zTab b.Tabs])]) ∧ ((Cust Tryz.prog Q 30024 (opOf (Tryz.f7.body.getD Code.skip) 2 3) [AV.one (Sc.val (Value.func (Fn.func 27) { toList := [] } { toList := [] })), AV.one (Sc.ptr 10000 0), AV.one (Sc.val (vI t)), AV.one (Sc.val (Value.string z)), AV.one (Sc.val (Value.bool c))] [Ob.var 28 [Sc.val (vI b.Store.Vendor), Sc.val (vI b.Store.Serial), Sc.val (vI b.Store.Seed), Sc.val (vI b.Store.Counter), Sc.own 20016, Sc.val (vI b.Asked)], Ob.own (rowR 62 6 dasTab zTab b.Tabs)] { need := [], val := AV.tup [(false, [Sc.val (Value.pointer none)]), (false, [Sc.val (Value.bool false)])], mem := [] }) ∧ ((true = true ∧ (vI b.Store.Vendor = vI (askX b t z c).Store.Vendor ∧ (vI b.Store.Serial = vI (askX b t z c).Store.Serial ∧ (vI b.Store.Seed = vI (askX b t z c).Store.Seed ∧ (vI b.Store.Counter = vI (askX b t z c).Store.Counter ∧ ((DaEq (rowR 62 6 dasTab zTab b.Tabs) (Da.row 62 6 (askX b t z c).Tabs.length fun i j => (dasTab ((askX b t z c).Tabs.getD i zTab)).getD j (Da.val undef))) ∧ vI b.Asked = vI (askX b t z c).Asked)))))) ∧ ((true = true ∧ (Value.string { data := { toList := [] } } = Value.string (askO b t z k ch c).Site ∧ (Value.string { data := { toList := [] } } = Value.string (askO b t z k ch c).Origin ∧ (vI 0 = vI (askO b t z k ch c).Challenge ∧ (vI 0 = vI (askO b t z k ch c).Handle ∧ (Value.bool false = Value.bool (askO b t z k ch c).Present ∧ (vI 0 = vI (askO b t z k ch c).Counter ∧ vI 0 = vI (askO b t z k ch c).Signature))))))) ∧ (false = false ∧ Value.bool false = Value.bool (askB b t z c)))))) = (awp Tryz.prog (askI Q b t z k ch c false) (noLoops) (Tryz.f7.body.getD .skip) ⟨[.agg [.val (.int .i64 b.Store.Vendor), .val (.int .i64 b.Store.Serial), .val (.int .i64 b.Store.Seed), .val (.int .i64 b.Store.Counter), .old (rowR 62 6 dasTab zTab b.Tabs), .val (.int .i64 b.Asked)], .one (.val (.int .i64 t)), .one (.val (.string z)), .one (.val (.int .i64 k)), .one (.val (.int .i64 ch)), .one (.val (.bool c))] ++ List.replicate (Tryz.f7.ntmps - ([.agg [.val (.int .i64 b.Store.Vendor), .val (.int .i64 b.Store.Serial), .val (.int .i64 b.Store.Seed), .val (.int .i64 b.Store.Counter), .old (rowR 62 6 dasTab zTab b.Tabs), .val (.int .i64 b.Asked)], .one (.val (.int .i64 t)), .one (.val (.string z)), .one (.val (.int .i64 k)), .one (.val (.int .i64 ch)), .one (.val (.bool c))] : List AV).length) (.one (.val undef)), fun _ => .un⟩ (retK Tryz.prog Tryz.f7.results.toList [(true, dasBrowser (askX b t z c)), (true, dasAssertion (askO b t z k ch c)), bV (askB b t z c)])) := by kernel_rfl
  rw [← hh_]
  clear hh_
  refine ⟨(C16k.conCopy b.Tabs hn), ?g1, ⟨rfl, congrArg _ ?g2, congrArg _ ?g3, congrArg _ ?g4, congrArg _ ?g5, ?g6, congrArg _ ?g7⟩, ⟨rfl, congrArg _ ?g8, congrArg _ ?g9, congrArg _ ?g10, congrArg _ ?g11, congrArg _ ?g12, congrArg _ ?g13, congrArg _ ?g14⟩, rfl, congrArg _ ?g15⟩
  case g1 => exact cust_askF rfl rfl rfl (DaEq.refl _) hn hs (by omega) hi
  all_goals
    obtain ⟨eX, eO, eB⟩ := ask_1 (k := k) (ch := ch) (c := c) hi
    first
      | exact (congrArg (fun y : Fx.Browser => y.Store.Vendor) eX).symm
      | exact (congrArg (fun y : Fx.Browser => y.Store.Serial) eX).symm
      | exact (congrArg (fun y : Fx.Browser => y.Store.Seed) eX).symm
      | exact (congrArg (fun y : Fx.Browser => y.Store.Counter) eX).symm
      | exact (congrArg (fun y : Fx.Browser => y.Asked) eX).symm
      | exact row_to row_self (congrArg (fun y : Fx.Browser => y.Tabs) eX).symm
      | exact (congrArg (fun y : Fx.Assertion => y.Site) eO).symm
      | exact (congrArg (fun y : Fx.Assertion => y.Origin) eO).symm
      | exact (congrArg (fun y : Fx.Assertion => y.Challenge) eO).symm
      | exact (congrArg (fun y : Fx.Assertion => y.Handle) eO).symm
      | exact (congrArg (fun y : Fx.Assertion => y.Present) eO).symm
      | exact (congrArg (fun y : Fx.Assertion => y.Counter) eO).symm
      | exact (congrArg (fun y : Fx.Assertion => y.Signature) eO).symm
      | exact eB.symm
end Go.Proofs.YtogoppknimpkbaaGreatDoor.C16a
