import Derived.Test.YtogoppknimpkbaaGreatDoorC16y
import Derived.Test.YtogoppknimpkbaaGreatDoorM25
import Derived.Test.YtogoppknimpkbaaGreatDoorDr9
import Derived.Test.YtogoppknimpkbaaGreatDoorC13
import Derived.Test.YtogoppknimpkbaaGreatDoorE25
import Derived.Test.YtogoppknimpkbaaGreatDoorBa
namespace Go.Proofs.YtogoppknimpkbaaGreatDoor.L16b
open Go.ChangeShapes Go.WideShapes Go.ChangeAt Go.RowKit
open S0 S1 S9 Dm Fx M3 M8 M12 M13 C10 C13b M24 M25 C16a E0 E1 E2 E3 E4 E7 E10 E15 E16 E17 E18 E19 E20 E21 E22 E23 E24 E25 Das Dr
set_option linter.unusedVariables false
set_option linter.unusedSimpArgs false
set_option maxRecDepth 100000
set_option maxHeartbeats 4000000
noncomputable def brC (W : World) (b : Fx.Browser) (t : Int) (z : ByteArray) (k ch : Int) (c x y r m : Bool) : Orc := ⟨fun d _ _ => match d with | some 19 => some [bV false] | some 22 => some [(true, dasBrowser b), iV t, sV z, iV k, iV ch, bV c] | some 43 => some [bV x] | some 48 => some [bV x] | some 78 => some [iV (pubS b.Store z k)] | some 85 => some [iV (C13.chkA (pubS b.Store z k) (askO b t z k ch c) z ch b.Store.Counter)] | some 104 => some [(true, dasBrowser (regX b t z)), iV (regP b t z k c), bV r] | some 122 => some [iV (pubS b.Store z k)] | some 137 => some [(true, dasBrowser (navX b t evil)), bV m] | some 145 => some [bV false] | some 150 => some [bV true] | some 158 => some [bV x] | _ => none, fun id vs os => match id with | 50048 => some ⟨[], resAV (grpNew 50048 [(true, dasBrowser (askX b t z c)), (true, dasAssertion (askO b t z k ch c)), bV y]).1, (grpNew 50048 [(true, dasBrowser (askX b t z c)), (true, dasAssertion (askO b t z k ch c)), bV y]).2.1⟩ | _ => none, fun w => w = W⟩
theorem conBig (xs : List Int) (hx : xs.length ≤ 1048576) : FnCon Tryz.prog 5 [(false, [numR 5 .u8 xs])] [bV false] :=
  con_of_plain (con_enters Tryz.func5 (by kernel_rfl) (by kernel_rfl)) rfl fun w v0 k0 => by
    obtain ⟨v, v2, rfl, hr, k2⟩ := of_rowA (numR_dc _ _ _) k0
    obtain rfl := of_nil k2
    obtain ⟨A, c, rfl, hq⟩ := rds_flat hr
    exact (Cd.big_no A _ c w (by omega)).mono (by rintro e w2 ⟨rfl, rfl⟩; exact ⟨rfl, Below.refl _ _⟩)
theorem conChk (p : Int) (x : Fx.Assertion) (z : ByteArray) (n c : Int) (hx : x.ok) (hs : x.Site.size ≤ 16000000) (hs2 : x.Origin.size ≤ 16000000) (hz : z.size ≤ 16000000) : FnCon Tryz.prog 10 [iV p, (true, dasAssertion x), (false, [.val (.string z)]), iV n, iV c] [iV (C13.chkA p x z n c)] :=
  con_of_plain (con_enters Tryz.func10 (by kernel_rfl) (by kernel_rfl)) rfl fun w v0 k0 => by
    obtain ⟨v1, rfl, k1⟩ := of_valA k0
    obtain ⟨us, v2, rfl, k2, k3⟩ := of_aggA (dasAssertion_dc x) k1
    obtain ⟨v3, rfl, k4⟩ := of_valA k3
    obtain ⟨v4, rfl, k5⟩ := of_valA k4
    obtain ⟨v5, rfl, k6⟩ := of_valA k5
    obtain rfl := of_nil k6
    exact C13.specChk w p x z n c us k2 hx hs hs2 hz
theorem cust_ask {old : World → Prop} {W : World} {id q : Nat} {o : Oper} {c : Call} {y : AV} {a : Fx.Browser} {t : Int} {z : ByteArray} {k ch : Int} {p : Bool} {gs : List (Bool × List Sc)} {m : List (Nat × Ob)} {kk : Nat} (ho : o.op = .call c) (hc : c.callee = .value (.func 7)) (hy : AvIds y = []) (hW : ∀ w, old w → w = W) (h1 : Dm.wt (TabsD a.Tabs) ≤ 15000000) (hz : z.size ≤ 15000000) (hst : a.Store.ok) (k0 : -9223372036854775808 ≤ k) (k1 : k ≤ 9223372036854775807) (c0 : -9223372036854775808 ≤ ch) (c1 : ch ≤ 9223372036854775807) (ht : La.Pow W)
    {yy : Bool} (hyy : askB a t z p = yy) (hg : grpNew id [(true, dasBrowser (askX a t z p)), (true, dasAssertion (askO a t z k ch p)), bV yy] = (gs, m, kk)) (hkk : kk ≤ id + 8) :
    Cust Tryz.prog old id o [y, .agg [.val (.int .i64 a.Store.Vendor), .val (.int .i64 a.Store.Serial), .val (.int .i64 a.Store.Seed), .val (.int .i64 a.Store.Counter), .own q, .val (.int .i64 a.Asked)], .one (.val (.int .i64 t)), .one (.val (.string z)), .one (.val (.int .i64 k)), .one (.val (.int .i64 ch)), .one (.val (.bool p))] [.own (rowR 62 6 dasTab zTab a.Tabs)] ⟨[], resAV gs, m⟩ :=
  cust_on (ags := [(true, dasBrowser a), iV t, sV z, iV k, iV ch, bV p]) ho hc (con_enters Tryz.func7 (by kernel_rfl) (by kernel_rfl)) (fun obs hob => by
    have hq : obs q = .own (rowR 62 6 dasTab zTab a.Tabs) := by
      have h2 := named_one hob (by rw [List.flatMap_cons, hy]; rfl)
      rw [List.flatMap_cons, hy] at h2
      simpa [AvIds, ScIds] using h2
    show avsDa obs [.agg [.val (.int .i64 a.Store.Vendor), .val (.int .i64 a.Store.Serial), .val (.int .i64 a.Store.Seed), .val (.int .i64 a.Store.Counter), .own q, .val (.int .i64 a.Asked)], .one (.val (.int .i64 t)), .one (.val (.string z)), .one (.val (.int .i64 k)), .one (.val (.int .i64 ch)), .one (.val (.bool p))] = _
    simp [avsDa, avDa, csDa, scDa, hq, dasBrowser]) hg hkk fun W0 w hold hb args hargs => by
    obtain rfl := hW _ hold
    obtain ⟨us, v1, rfl, h2, j1⟩ := arg_open (dasBrowser_dc a) hargs
    obtain ⟨v2, rfl, j2⟩ := of_valA j1
    obtain ⟨v3, rfl, j3⟩ := of_valA j2
    obtain ⟨v4, rfl, j4⟩ := of_valA j3
    obtain ⟨v5, rfl, j5⟩ := of_valA j4
    obtain ⟨v6, rfl, j6⟩ := of_valA j5
    obtain rfl := of_nil j6
    subst hyy
    exact C16y.implAskR w a us h2 h1 t z k ch p hz hst k0 k1 c0 c1 (ht.stays hb)
structure OkX (x : Fx.Assertion) : Prop where
  site : x.Site.size ≤ 16000000
  orig : x.Origin.size ≤ 16000000
  chal : -9223372036854775808 ≤ x.Challenge ∧ x.Challenge ≤ 9223372036854775807
  hand : -9223372036854775808 ≤ x.Handle ∧ x.Handle ≤ 9223372036854775807
  cntr : -9223372036854775808 ≤ x.Counter ∧ x.Counter ≤ 9223372036854775807
  sign : -9223372036854775808 ≤ x.Signature ∧ x.Signature ≤ 9223372036854775807
theorem OkX.ok {x : Fx.Assertion} (h : OkX x) : x.ok := by
  have h1 := h.site
  have h2 := h.orig
  exact ⟨by unfold maxLen; omega, by unfold maxLen; omega, h.chal, h.hand, trivial, h.cntr, h.sign⟩
theorem mk_okX {y : Fx.KeyStore} {o : Fx.Origin} {z : ByteArray} {h n : Int} {p : Bool} (hz : z.size ≤ 15000000) (h0 : -9223372036854775808 ≤ h ∧ h ≤ 9223372036854775807) (n0 : -9223372036854775808 ≤ n ∧ n ≤ 9223372036854775807) : OkX (mkA y o z h n p) := by
  have hf := fmt_size o
  unfold mkA
  split
  · next hb =>
    have hs : signB y = true := by unfold mkB at hb; rw [Bool.and_eq_true] at hb; exact hb.2
    have hc : -9223372036854775808 ≤ (signX y).Counter ∧ (signX y).Counter ≤ 9223372036854775807 := by
      unfold signX
      rw [if_pos hs]
      unfold signB vst at hs
      simp only [Bool.and_eq_true, decide_eq_true_eq] at hs
      show -9223372036854775808 ≤ y.Counter + 1 ∧ y.Counter + 1 ≤ 9223372036854775807
      omega
    have hv : -9223372036854775808 ≤ signV y z h (C13m.msg (a0 o z h n p)) ∧ signV y z h (C13m.msg (a0 o z h n p)) ≤ 9223372036854775807 := by
      unfold signV
      rw [if_pos hs]
      have := sgn_in (prvS y z h) (C13m.msg (a0 o z h n p) ++ [y.Counter + 1])
      omega
    exact ⟨by show z.size ≤ _; omega, by show (str (fmtO o)).size ≤ _; omega, n0, h0, hc, hv⟩
  · exact ⟨by decide, by decide, by decide, by decide, by decide, by decide⟩
theorem z_okX : OkX ⟨⟨#[]⟩, ⟨#[]⟩, 0, 0, false, 0, 0⟩ := ⟨by decide, by decide, by decide, by decide, by decide, by decide⟩
theorem ask_okX {b : Fx.Browser} {t : Int} {z : ByteArray} {k ch : Int} {c : Bool} (hz : z.size ≤ 15000000) (h0 : -9223372036854775808 ≤ k ∧ k ≤ 9223372036854775807) (n0 : -9223372036854775808 ≤ ch ∧ ch ≤ 9223372036854775807) : OkX (askO b t z k ch c) := by
  unfold askO
  cases canB b t z && c with
  | true => exact mk_okX hz h0 n0
  | false => exact z_okX
theorem wt_small {b : Fx.Browser} (h : BrK b) (hl : b.Tabs.length ≤ 8) : Dm.wt (TabsD b.Tabs) ≤ 15000000 := by
  rw [wt_Tabs]
  have : ∀ l : List Fx.Tab, (∀ t ∈ l, t.Origin.Host.size ≤ 100 ∧ t.Top.Host.size ≤ 100) → wtL (l.flatMap Tab.dcs) ≤ 200 * l.length := by
    intro l
    induction l with
    | nil => intro _; exact Nat.le_refl _
    | cons x l ih =>
      intro h
      have h1 := h x List.mem_cons_self
      have h2 := ih fun t ht => h t (List.mem_cons_of_mem _ ht)
      rw [List.flatMap_cons, Dm.wtL_app, Tab.wt, List.length_cons]
      omega
  have := this b.Tabs h.host
  omega
theorem short_of {b : Fx.Browser} (h : BrK b) : short b := fun t ht => by have := h.host t ht; omega
theorem BrK.nav {b : Fx.Browser} (h : BrK b) (t : Int) : BrK (navX b t evil) ∧ (navX b t evil).Tabs.length = b.Tabs.length := by
  cases e : navB b t evil with
  | false => rw [navX_f e]; exact ⟨h, rfl⟩
  | true =>
    rw [navX_t e]
    refine ⟨⟨h.st, fun x hx => ?_, h.asd⟩, List.length_set⟩
    rcases List.mem_or_eq_of_mem_set hx with hx | rfl
    · exact h.host x hx
    · refine ⟨show evil.Host.size ≤ 100 by decide, ?_⟩
      unfold navT
      simp only
      split
      · decide
      · exact (h.at t.toNat).2
theorem wpFFFF (W : World) (xs : List Int) (hx : xs.length ≤ 1048576) (ht : La.Pow W) (b : Fx.Browser) (t : Int) (z : ByteArray) (k ch : Int) (c : Bool) (hb : BrK b) (hl : b.Tabs.length ≤ 8) (hz : z.size ≤ 141) (k0 : -9223372036854775808 ≤ k) (k1 : k ≤ 9223372036854775807) (c0 : -9223372036854775808 ≤ ch) (c1 : ch ≤ 9223372036854775807) (hD : FnCon Tryz.prog 6 [(false, [numR 5 .u8 xs])] [(true, dasBrowser b), iV t, sV z, iV k, iV ch, bV c]) (hx_ : canB b t z = false) (hy_ : askB b t z c = false) (hr_ : regB b t z c = false) (hm_ : navB b t evil = false) : awp Tryz.prog (brC W b t z k ch c false false false false) (noLoops) (Tryz.f3.body.getD .skip) ⟨[.one (.old (numR 5 .u8 xs))] ++ List.replicate (Tryz.f3.ntmps - ([.one (.old (numR 5 .u8 xs))] : List AV).length) (.one (.val undef)), fun _ => .un⟩ (retK Tryz.prog Tryz.f3.results.toList [bV true]) := by
  have hh_ : ((FnCon Tryz.prog 5 [(false, [Da.row 5 1 xs.length fun i x => Da.val (Value.int IntKind.u8 (xs.getD i 0))])] [(false, [dB (false)])]) ∧ ((FnCon Tryz.prog 6 [(false, [Da.row 5 1 xs.length fun i x => Da.val (Value.int IntKind.u8 (xs.getD i 0))])] [(true, dasBrowser b), (false, [dI (t)]), (false, [dS (z)]), (false, [dI (k)]), (false, [dI (ch)]), (false, [dB (c)])]) ∧ ((Cust Tryz.prog (fun w => w = W) 50048 (opOf (Tryz.f3.body.getD Code.skip) 4 6) [AV.one (Sc.val (Value.func (Fn.func 7) { toList := [] } { toList := [] })), AV.agg [Sc.val (vI b.Store.Vendor), Sc.val (vI b.Store.Serial), Sc.val (vI b.Store.Seed), Sc.val (vI b.Store.Counter), Sc.own 40008, Sc.val (vI b.Asked)], AV.one (Sc.val (vI t)), AV.one (Sc.val (Value.string z)), AV.one (Sc.val (vI k)), AV.one (Sc.val (vI ch)), AV.one (Sc.val (Value.bool c))] [Ob.own (rowR 62 6 dasTab zTab b.Tabs)] { need := [], val := AV.tup [(true, [Sc.val (vI (askX b t z c).Store.Vendor), Sc.val (vI (askX b t z c).Store.Serial), Sc.val (vI (askX b t z c).Store.Seed), Sc.val (vI (askX b t z c).Store.Counter), Sc.own 50048, Sc.val (vI (askX b t z c).Asked)]), (true, [Sc.val (Value.string (askO b t z k ch c).Site), Sc.val (Value.string (askO b t z k ch c).Origin), Sc.val (vI (askO b t z k ch c).Challenge), Sc.val (vI (askO b t z k ch c).Handle), Sc.val (Value.bool (askO b t z k ch c).Present), Sc.val (vI (askO b t z k ch c).Counter), Sc.val (vI (askO b t z k ch c).Signature)]), (false, [Sc.val (Value.bool false)])], mem := [(50048, Ob.own (Da.row 62 6 (askX b t z c).Tabs.length fun i j => (dasTab ((askX b t z c).Tabs.getD i zTab)).getD j (Da.val undef)))] }) ∧ ((FnCon Tryz.prog 8 [(true, (dasBrowser b)), (false, [dI (t)]), (false, [dS (z)])] [(false, [dB (false)])]) ∧ bcase ((askX b t z c).Asked != b.Asked) ((FnCon Tryz.prog 9 [(true, (dasBrowser b)), (false, [dI (t)]), (false, [dS (z)])] [(false, [dB (false)])]) ∧ (false = false ∧ (false = false ∧ (false = false ∧ (((askX b t z c).Asked != b.Asked) = true ∧ (false = false ∧ Value.bool false = Value.bool true)))))) ((FnCon Tryz.prog 9 [(true, (dasBrowser b)), (false, [dI (t)]), (false, [dS (z)])] [(false, [dB (false)])]) ∧ (false = false ∧ (false = false ∧ (false = false ∧ (((askX b t z c).Asked != b.Asked) = false ∧ (false = false ∧ ((FnCon Tryz.prog 12 [(true, (dasBrowser b)), (false, [dI (t)]), (false, [dS (z)]), (false, [dI (k)]), (false, [dB (c)])] [(true, dasBrowser (regX b t z)), (false, [dI ((regP b t z k c))]), (false, [dB (false)])]) ∧ (false = false ∧ (false = false ∧ bcase (match
  match (regX b t z).Store.Vendor == b.Store.Vendor with
  | false => false
  | true =>
    match (regX b t z).Store.Serial == b.Store.Serial with
    | false => false
    | true =>
      match (regX b t z).Store.Seed == b.Store.Seed with
      | false => false
      | true =>
        match (regX b t z).Store.Counter == b.Store.Counter with
        | false => false
        | true => true with
| true => false
| false => true) (false = false ∧ Value.bool false = Value.bool true) ((FnCon Tryz.prog 13 [(true, (dasBrowser b)), (false, [dI (t)]), (true, [dB (true), dS ({ data := { toList := [101, 118, 105, 108, 46, 110, 101, 116] } }), dI (443)])] [(true, dasBrowser (navX b t { Secure := true, Host := { data := { toList := [101, 118, 105, 108, 46, 110, 101, 116] } }, Port := 443 })), (false, [dB (false)])]) ∧ (true = true ∧ (false = false ∧ Value.bool true = Value.bool true)))))))))))))))) = (awp Tryz.prog (brC W b t z k ch c false false false false) (noLoops) (Tryz.f3.body.getD .skip) ⟨[.one (.old (numR 5 .u8 xs))] ++ List.replicate (Tryz.f3.ntmps - ([.one (.old (numR 5 .u8 xs))] : List AV).length) (.one (.val undef)), fun _ => .un⟩ (retK Tryz.prog Tryz.f3.results.toList [bV true])) := by kernel_rfl
  rw [← hh_]
  clear hh_
  refine ⟨?g0, ?g1, ?g2, ?g3, bcase_intro (fun h4 => ⟨?g5, rfl, rfl, rfl, h4, rfl, congrArg _ ?g6⟩) (fun h4 => ⟨?g7, rfl, rfl, rfl, h4, rfl, ?g8, rfl, rfl, bcase_intro (fun h9 => ⟨rfl, congrArg _ ?g10⟩) (fun h9 => ⟨?g11, rfl, rfl, rfl⟩)⟩)⟩
  case g0 => exact conBig xs hx
  case g1 => exact hD
  case g2 => exact cust_ask (gs := (grpNew 50048 [(true, dasBrowser (askX b t z c)), (true, dasAssertion (askO b t z k ch c)), bV false]).1) (m := (grpNew 50048 [(true, dasBrowser (askX b t z c)), (true, dasAssertion (askO b t z k ch c)), bV false]).2.1) (kk := (grpNew 50048 [(true, dasBrowser (askX b t z c)), (true, dasAssertion (askO b t z k ch c)), bV false]).2.2) rfl rfl rfl (fun _ h => h) (wt_small hb hl) (by omega) hb.st k0 k1 c0 c1 ht hy_ rfl (Nat.le_of_ble_eq_true rfl)
  case g3 => (have h := C16l.conCan b t z (by omega) (short_of hb) (by omega); rw [hx_] at h; exact h)
  case g5 | g7 => (have h := C16s.conCan b t z (by omega) (short_of hb) (by omega); rw [hx_] at h; exact h)
  case g6 => rw [ask_asked hx_] at h4; simp at h4
  case g8 => (have h := C16l.conReg b t z k c (by omega) (short_of hb) (by omega) hb.st k0 k1; rw [hr_] at h; exact h)
  case g10 => rw [reg_store] at h9; simp at h9
  case g11 => (have h := C16l.conNav b t evil (by omega) (by decide); rw [hm_] at h; exact h)
theorem wpFFFT (W : World) (xs : List Int) (hx : xs.length ≤ 1048576) (ht : La.Pow W) (b : Fx.Browser) (t : Int) (z : ByteArray) (k ch : Int) (c : Bool) (hb : BrK b) (hl : b.Tabs.length ≤ 8) (hz : z.size ≤ 141) (k0 : -9223372036854775808 ≤ k) (k1 : k ≤ 9223372036854775807) (c0 : -9223372036854775808 ≤ ch) (c1 : ch ≤ 9223372036854775807) (hD : FnCon Tryz.prog 6 [(false, [numR 5 .u8 xs])] [(true, dasBrowser b), iV t, sV z, iV k, iV ch, bV c]) (hx_ : canB b t z = false) (hy_ : askB b t z c = false) (hr_ : regB b t z c = false) (hm_ : navB b t evil = true) : awp Tryz.prog (brC W b t z k ch c false false false true) (noLoops) (Tryz.f3.body.getD .skip) ⟨[.one (.old (numR 5 .u8 xs))] ++ List.replicate (Tryz.f3.ntmps - ([.one (.old (numR 5 .u8 xs))] : List AV).length) (.one (.val undef)), fun _ => .un⟩ (retK Tryz.prog Tryz.f3.results.toList [bV true]) := by
  have hh_ : ((FnCon Tryz.prog 5 [(false, [Da.row 5 1 xs.length fun i x => Da.val (Value.int IntKind.u8 (xs.getD i 0))])] [(false, [dB (false)])]) ∧ ((FnCon Tryz.prog 6 [(false, [Da.row 5 1 xs.length fun i x => Da.val (Value.int IntKind.u8 (xs.getD i 0))])] [(true, dasBrowser b), (false, [dI (t)]), (false, [dS (z)]), (false, [dI (k)]), (false, [dI (ch)]), (false, [dB (c)])]) ∧ ((Cust Tryz.prog (fun w => w = W) 50048 (opOf (Tryz.f3.body.getD Code.skip) 4 6) [AV.one (Sc.val (Value.func (Fn.func 7) { toList := [] } { toList := [] })), AV.agg [Sc.val (vI b.Store.Vendor), Sc.val (vI b.Store.Serial), Sc.val (vI b.Store.Seed), Sc.val (vI b.Store.Counter), Sc.own 40008, Sc.val (vI b.Asked)], AV.one (Sc.val (vI t)), AV.one (Sc.val (Value.string z)), AV.one (Sc.val (vI k)), AV.one (Sc.val (vI ch)), AV.one (Sc.val (Value.bool c))] [Ob.own (rowR 62 6 dasTab zTab b.Tabs)] { need := [], val := AV.tup [(true, [Sc.val (vI (askX b t z c).Store.Vendor), Sc.val (vI (askX b t z c).Store.Serial), Sc.val (vI (askX b t z c).Store.Seed), Sc.val (vI (askX b t z c).Store.Counter), Sc.own 50048, Sc.val (vI (askX b t z c).Asked)]), (true, [Sc.val (Value.string (askO b t z k ch c).Site), Sc.val (Value.string (askO b t z k ch c).Origin), Sc.val (vI (askO b t z k ch c).Challenge), Sc.val (vI (askO b t z k ch c).Handle), Sc.val (Value.bool (askO b t z k ch c).Present), Sc.val (vI (askO b t z k ch c).Counter), Sc.val (vI (askO b t z k ch c).Signature)]), (false, [Sc.val (Value.bool false)])], mem := [(50048, Ob.own (Da.row 62 6 (askX b t z c).Tabs.length fun i j => (dasTab ((askX b t z c).Tabs.getD i zTab)).getD j (Da.val undef)))] }) ∧ ((FnCon Tryz.prog 8 [(true, (dasBrowser b)), (false, [dI (t)]), (false, [dS (z)])] [(false, [dB (false)])]) ∧ bcase ((askX b t z c).Asked != b.Asked) ((FnCon Tryz.prog 9 [(true, (dasBrowser b)), (false, [dI (t)]), (false, [dS (z)])] [(false, [dB (false)])]) ∧ (false = false ∧ (false = false ∧ (false = false ∧ (((askX b t z c).Asked != b.Asked) = true ∧ (false = false ∧ Value.bool false = Value.bool true)))))) ((FnCon Tryz.prog 9 [(true, (dasBrowser b)), (false, [dI (t)]), (false, [dS (z)])] [(false, [dB (false)])]) ∧ (false = false ∧ (false = false ∧ (false = false ∧ (((askX b t z c).Asked != b.Asked) = false ∧ (false = false ∧ ((FnCon Tryz.prog 12 [(true, (dasBrowser b)), (false, [dI (t)]), (false, [dS (z)]), (false, [dI (k)]), (false, [dB (c)])] [(true, dasBrowser (regX b t z)), (false, [dI ((regP b t z k c))]), (false, [dB (false)])]) ∧ (false = false ∧ (false = false ∧ bcase (match
  match (regX b t z).Store.Vendor == b.Store.Vendor with
  | false => false
  | true =>
    match (regX b t z).Store.Serial == b.Store.Serial with
    | false => false
    | true =>
      match (regX b t z).Store.Seed == b.Store.Seed with
      | false => false
      | true =>
        match (regX b t z).Store.Counter == b.Store.Counter with
        | false => false
        | true => true with
| true => false
| false => true) (false = false ∧ Value.bool false = Value.bool true) ((FnCon Tryz.prog 13 [(true, (dasBrowser b)), (false, [dI (t)]), (true, [dB (true), dS ({ data := { toList := [101, 118, 105, 108, 46, 110, 101, 116] } }), dI (443)])] [(true, dasBrowser (navX b t { Secure := true, Host := { data := { toList := [101, 118, 105, 108, 46, 110, 101, 116] } }, Port := 443 })), (false, [dB (true)])]) ∧ (false = false ∧ ((FnCon Tryz.prog 8 [(true, [dI ((navX b t { Secure := true, Host := { data := { toList := [101, 118, 105, 108, 46, 110, 101, 116] } }, Port := 443 }).Store.Vendor), dI ((navX b t { Secure := true, Host := { data := { toList := [101, 118, 105, 108, 46, 110, 101, 116] } }, Port := 443 }).Store.Serial), dI ((navX b t { Secure := true, Host := { data := { toList := [101, 118, 105, 108, 46, 110, 101, 116] } }, Port := 443 }).Store.Seed), dI ((navX b t { Secure := true, Host := { data := { toList := [101, 118, 105, 108, 46, 110, 101, 116] } }, Port := 443 }).Store.Counter), Da.row 62 6 (navX b t { Secure := true, Host := { data := { toList := [101, 118, 105, 108, 46, 110, 101, 116] } }, Port := 443 }).Tabs.length fun i j => (dasTab ((navX b t { Secure := true, Host := { data := { toList := [101, 118, 105, 108, 46, 110, 101, 116] } }, Port := 443 }).Tabs.getD i zTab)).getD j (Da.val undef), dI ((navX b t { Secure := true, Host := { data := { toList := [101, 118, 105, 108, 46, 110, 101, 116] } }, Port := 443 }).Asked)]), (false, [dI (t)]), (false, [dS ({ data := { toList := [98, 97, 110, 107, 46, 99, 111, 109] } })])] [(false, [dB (false)])]) ∧ (true = true ∧ ((FnCon Tryz.prog 14 [(true, (dasBrowser b)), (true, (dasBrowser b))] [(false, [dB (true)])]) ∧ (true = true ∧ ((FnCon Tryz.prog 9 [(true, (dasBrowser b)), (false, [dI (t)]), (false, [dS (z)])] [(false, [dB (false)])]) ∧ (false = false ∧ Value.bool true = Value.bool true))))))))))))))))))))) = (awp Tryz.prog (brC W b t z k ch c false false false true) (noLoops) (Tryz.f3.body.getD .skip) ⟨[.one (.old (numR 5 .u8 xs))] ++ List.replicate (Tryz.f3.ntmps - ([.one (.old (numR 5 .u8 xs))] : List AV).length) (.one (.val undef)), fun _ => .un⟩ (retK Tryz.prog Tryz.f3.results.toList [bV true])) := by kernel_rfl
  rw [← hh_]
  clear hh_
  refine ⟨?g0, ?g1, ?g2, ?g3, bcase_intro (fun h4 => ⟨?g5, rfl, rfl, rfl, h4, rfl, congrArg _ ?g6⟩) (fun h4 => ⟨?g7, rfl, rfl, rfl, h4, rfl, ?g8, rfl, rfl, bcase_intro (fun h9 => ⟨rfl, congrArg _ ?g10⟩) (fun h9 => ⟨?g11, rfl, ?g12, rfl, ?g13, rfl, ?g14, rfl, rfl⟩)⟩)⟩
  case g0 => exact conBig xs hx
  case g1 => exact hD
  case g2 => exact cust_ask (gs := (grpNew 50048 [(true, dasBrowser (askX b t z c)), (true, dasAssertion (askO b t z k ch c)), bV false]).1) (m := (grpNew 50048 [(true, dasBrowser (askX b t z c)), (true, dasAssertion (askO b t z k ch c)), bV false]).2.1) (kk := (grpNew 50048 [(true, dasBrowser (askX b t z c)), (true, dasAssertion (askO b t z k ch c)), bV false]).2.2) rfl rfl rfl (fun _ h => h) (wt_small hb hl) (by omega) hb.st k0 k1 c0 c1 ht hy_ rfl (Nat.le_of_ble_eq_true rfl)
  case g3 => (have h := C16l.conCan b t z (by omega) (short_of hb) (by omega); rw [hx_] at h; exact h)
  case g5 | g7 | g14 => (have h := C16s.conCan b t z (by omega) (short_of hb) (by omega); rw [hx_] at h; exact h)
  case g6 => rw [ask_asked hx_] at h4; simp at h4
  case g8 => (have h := C16l.conReg b t z k c (by omega) (short_of hb) (by omega) hb.st k0 k1; rw [hr_] at h; exact h)
  case g10 => rw [reg_store] at h9; simp at h9
  case g11 => (have h := C16l.conNav b t evil (by omega) (by decide); rw [hm_] at h; exact h)
  case g12 => (have h := C16l.conCan (navX b t evil) t bank (by have := (BrK.nav hb t).2; omega) (short_of (BrK.nav hb t).1) (by decide); rw [nav_can (b := b) hm_] at h; exact h)
  case g13 => (have h := C16l.conEql b b (by omega) (by omega); rw [eql_self b] at h; exact h)
theorem wpTFFF (W : World) (xs : List Int) (hx : xs.length ≤ 1048576) (ht : La.Pow W) (b : Fx.Browser) (t : Int) (z : ByteArray) (k ch : Int) (c : Bool) (hb : BrK b) (hl : b.Tabs.length ≤ 8) (hz : z.size ≤ 141) (k0 : -9223372036854775808 ≤ k) (k1 : k ≤ 9223372036854775807) (c0 : -9223372036854775808 ≤ ch) (c1 : ch ≤ 9223372036854775807) (hD : FnCon Tryz.prog 6 [(false, [numR 5 .u8 xs])] [(true, dasBrowser b), iV t, sV z, iV k, iV ch, bV c]) (hx_ : canB b t z = true) (hy_ : askB b t z c = false) (hr_ : regB b t z c = false) (hm_ : navB b t evil = false) : awp Tryz.prog (brC W b t z k ch c true false false false) (noLoops) (Tryz.f3.body.getD .skip) ⟨[.one (.old (numR 5 .u8 xs))] ++ List.replicate (Tryz.f3.ntmps - ([.one (.old (numR 5 .u8 xs))] : List AV).length) (.one (.val undef)), fun _ => .un⟩ (retK Tryz.prog Tryz.f3.results.toList [bV true]) := by
  have hh_ : ((FnCon Tryz.prog 5 [(false, [Da.row 5 1 xs.length fun i x => Da.val (Value.int IntKind.u8 (xs.getD i 0))])] [(false, [dB (false)])]) ∧ ((FnCon Tryz.prog 6 [(false, [Da.row 5 1 xs.length fun i x => Da.val (Value.int IntKind.u8 (xs.getD i 0))])] [(true, dasBrowser b), (false, [dI (t)]), (false, [dS (z)]), (false, [dI (k)]), (false, [dI (ch)]), (false, [dB (c)])]) ∧ ((Cust Tryz.prog (fun w => w = W) 50048 (opOf (Tryz.f3.body.getD Code.skip) 4 6) [AV.one (Sc.val (Value.func (Fn.func 7) { toList := [] } { toList := [] })), AV.agg [Sc.val (vI b.Store.Vendor), Sc.val (vI b.Store.Serial), Sc.val (vI b.Store.Seed), Sc.val (vI b.Store.Counter), Sc.own 40008, Sc.val (vI b.Asked)], AV.one (Sc.val (vI t)), AV.one (Sc.val (Value.string z)), AV.one (Sc.val (vI k)), AV.one (Sc.val (vI ch)), AV.one (Sc.val (Value.bool c))] [Ob.own (rowR 62 6 dasTab zTab b.Tabs)] { need := [], val := AV.tup [(true, [Sc.val (vI (askX b t z c).Store.Vendor), Sc.val (vI (askX b t z c).Store.Serial), Sc.val (vI (askX b t z c).Store.Seed), Sc.val (vI (askX b t z c).Store.Counter), Sc.own 50048, Sc.val (vI (askX b t z c).Asked)]), (true, [Sc.val (Value.string (askO b t z k ch c).Site), Sc.val (Value.string (askO b t z k ch c).Origin), Sc.val (vI (askO b t z k ch c).Challenge), Sc.val (vI (askO b t z k ch c).Handle), Sc.val (Value.bool (askO b t z k ch c).Present), Sc.val (vI (askO b t z k ch c).Counter), Sc.val (vI (askO b t z k ch c).Signature)]), (false, [Sc.val (Value.bool false)])], mem := [(50048, Ob.own (Da.row 62 6 (askX b t z c).Tabs.length fun i j => (dasTab ((askX b t z c).Tabs.getD i zTab)).getD j (Da.val undef)))] }) ∧ ((FnCon Tryz.prog 8 [(true, (dasBrowser b)), (false, [dI (t)]), (false, [dS (z)])] [(false, [dB (true)])]) ∧ bcase ((askX b t z c).Asked != b.Asked) ((FnCon Tryz.prog 9 [(true, (dasBrowser b)), (false, [dI (t)]), (false, [dS (z)])] [(false, [dB (true)])]) ∧ (false = false ∧ (false = false ∧ (false = false ∧ (((askX b t z c).Asked != b.Asked) = true ∧ (false = false ∧ ((FnCon Tryz.prog 12 [(true, (dasBrowser b)), (false, [dI (t)]), (false, [dS (z)]), (false, [dI (k)]), (false, [dB (c)])] [(true, dasBrowser (regX b t z)), (false, [dI ((regP b t z k c))]), (false, [dB (false)])]) ∧ (false = false ∧ (false = false ∧ bcase (match
  match (regX b t z).Store.Vendor == b.Store.Vendor with
  | false => false
  | true =>
    match (regX b t z).Store.Serial == b.Store.Serial with
    | false => false
    | true =>
      match (regX b t z).Store.Seed == b.Store.Seed with
      | false => false
      | true =>
        match (regX b t z).Store.Counter == b.Store.Counter with
        | false => false
        | true => true with
| true => false
| false => true) (false = false ∧ Value.bool false = Value.bool true) ((FnCon Tryz.prog 13 [(true, (dasBrowser b)), (false, [dI (t)]), (true, [dB (true), dS ({ data := { toList := [101, 118, 105, 108, 46, 110, 101, 116] } }), dI (443)])] [(true, dasBrowser (navX b t { Secure := true, Host := { data := { toList := [101, 118, 105, 108, 46, 110, 101, 116] } }, Port := 443 })), (false, [dB (false)])]) ∧ (true = true ∧ (false = false ∧ Value.bool true = Value.bool true)))))))))))) ((FnCon Tryz.prog 9 [(true, (dasBrowser b)), (false, [dI (t)]), (false, [dS (z)])] [(false, [dB (true)])]) ∧ (false = false ∧ (false = false ∧ (false = false ∧ (((askX b t z c).Asked != b.Asked) = false ∧ (false = false ∧ ((FnCon Tryz.prog 12 [(true, (dasBrowser b)), (false, [dI (t)]), (false, [dS (z)]), (false, [dI (k)]), (false, [dB (c)])] [(true, dasBrowser (regX b t z)), (false, [dI ((regP b t z k c))]), (false, [dB (false)])]) ∧ (false = false ∧ (false = false ∧ bcase (match
  match (regX b t z).Store.Vendor == b.Store.Vendor with
  | false => false
  | true =>
    match (regX b t z).Store.Serial == b.Store.Serial with
    | false => false
    | true =>
      match (regX b t z).Store.Seed == b.Store.Seed with
      | false => false
      | true =>
        match (regX b t z).Store.Counter == b.Store.Counter with
        | false => false
        | true => true with
| true => false
| false => true) (false = false ∧ Value.bool false = Value.bool true) ((FnCon Tryz.prog 13 [(true, (dasBrowser b)), (false, [dI (t)]), (true, [dB (true), dS ({ data := { toList := [101, 118, 105, 108, 46, 110, 101, 116] } }), dI (443)])] [(true, dasBrowser (navX b t { Secure := true, Host := { data := { toList := [101, 118, 105, 108, 46, 110, 101, 116] } }, Port := 443 })), (false, [dB (false)])]) ∧ (true = true ∧ (false = false ∧ Value.bool true = Value.bool true)))))))))))))))) = (awp Tryz.prog (brC W b t z k ch c true false false false) (noLoops) (Tryz.f3.body.getD .skip) ⟨[.one (.old (numR 5 .u8 xs))] ++ List.replicate (Tryz.f3.ntmps - ([.one (.old (numR 5 .u8 xs))] : List AV).length) (.one (.val undef)), fun _ => .un⟩ (retK Tryz.prog Tryz.f3.results.toList [bV true])) := by kernel_rfl
  rw [← hh_]
  clear hh_
  refine ⟨?g0, ?g1, ?g2, ?g3, bcase_intro (fun h4 => ⟨?g5, rfl, rfl, rfl, h4, rfl, ?g6, rfl, rfl, bcase_intro (fun h7 => ⟨rfl, congrArg _ ?g8⟩) (fun h7 => ⟨?g9, rfl, rfl, rfl⟩)⟩) (fun h4 => ⟨?g10, rfl, rfl, rfl, h4, rfl, ?g11, rfl, rfl, bcase_intro (fun h12 => ⟨rfl, congrArg _ ?g13⟩) (fun h12 => ⟨?g14, rfl, rfl, rfl⟩)⟩)⟩
  case g0 => exact conBig xs hx
  case g1 => exact hD
  case g2 => exact cust_ask (gs := (grpNew 50048 [(true, dasBrowser (askX b t z c)), (true, dasAssertion (askO b t z k ch c)), bV false]).1) (m := (grpNew 50048 [(true, dasBrowser (askX b t z c)), (true, dasAssertion (askO b t z k ch c)), bV false]).2.1) (kk := (grpNew 50048 [(true, dasBrowser (askX b t z c)), (true, dasAssertion (askO b t z k ch c)), bV false]).2.2) rfl rfl rfl (fun _ h => h) (wt_small hb hl) (by omega) hb.st k0 k1 c0 c1 ht hy_ rfl (Nat.le_of_ble_eq_true rfl)
  case g3 => (have h := C16l.conCan b t z (by omega) (short_of hb) (by omega); rw [hx_] at h; exact h)
  case g5 | g10 => (have h := C16s.conCan b t z (by omega) (short_of hb) (by omega); rw [hx_] at h; exact h)
  case g6 | g11 => (have h := C16l.conReg b t z k c (by omega) (short_of hb) (by omega) hb.st k0 k1; rw [hr_] at h; exact h)
  case g8 => rw [reg_store] at h7; simp at h7
  case g9 | g14 => (have h := C16l.conNav b t evil (by omega) (by decide); rw [hm_] at h; exact h)
  case g13 => rw [reg_store] at h12; simp at h12
theorem wpTFFT (W : World) (xs : List Int) (hx : xs.length ≤ 1048576) (ht : La.Pow W) (b : Fx.Browser) (t : Int) (z : ByteArray) (k ch : Int) (c : Bool) (hb : BrK b) (hl : b.Tabs.length ≤ 8) (hz : z.size ≤ 141) (k0 : -9223372036854775808 ≤ k) (k1 : k ≤ 9223372036854775807) (c0 : -9223372036854775808 ≤ ch) (c1 : ch ≤ 9223372036854775807) (hD : FnCon Tryz.prog 6 [(false, [numR 5 .u8 xs])] [(true, dasBrowser b), iV t, sV z, iV k, iV ch, bV c]) (hx_ : canB b t z = true) (hy_ : askB b t z c = false) (hr_ : regB b t z c = false) (hm_ : navB b t evil = true) : awp Tryz.prog (brC W b t z k ch c true false false true) (noLoops) (Tryz.f3.body.getD .skip) ⟨[.one (.old (numR 5 .u8 xs))] ++ List.replicate (Tryz.f3.ntmps - ([.one (.old (numR 5 .u8 xs))] : List AV).length) (.one (.val undef)), fun _ => .un⟩ (retK Tryz.prog Tryz.f3.results.toList [bV true]) := by
  have hh_ : ((FnCon Tryz.prog 5 [(false, [Da.row 5 1 xs.length fun i x => Da.val (Value.int IntKind.u8 (xs.getD i 0))])] [(false, [dB (false)])]) ∧ ((FnCon Tryz.prog 6 [(false, [Da.row 5 1 xs.length fun i x => Da.val (Value.int IntKind.u8 (xs.getD i 0))])] [(true, dasBrowser b), (false, [dI (t)]), (false, [dS (z)]), (false, [dI (k)]), (false, [dI (ch)]), (false, [dB (c)])]) ∧ ((Cust Tryz.prog (fun w => w = W) 50048 (opOf (Tryz.f3.body.getD Code.skip) 4 6) [AV.one (Sc.val (Value.func (Fn.func 7) { toList := [] } { toList := [] })), AV.agg [Sc.val (vI b.Store.Vendor), Sc.val (vI b.Store.Serial), Sc.val (vI b.Store.Seed), Sc.val (vI b.Store.Counter), Sc.own 40008, Sc.val (vI b.Asked)], AV.one (Sc.val (vI t)), AV.one (Sc.val (Value.string z)), AV.one (Sc.val (vI k)), AV.one (Sc.val (vI ch)), AV.one (Sc.val (Value.bool c))] [Ob.own (rowR 62 6 dasTab zTab b.Tabs)] { need := [], val := AV.tup [(true, [Sc.val (vI (askX b t z c).Store.Vendor), Sc.val (vI (askX b t z c).Store.Serial), Sc.val (vI (askX b t z c).Store.Seed), Sc.val (vI (askX b t z c).Store.Counter), Sc.own 50048, Sc.val (vI (askX b t z c).Asked)]), (true, [Sc.val (Value.string (askO b t z k ch c).Site), Sc.val (Value.string (askO b t z k ch c).Origin), Sc.val (vI (askO b t z k ch c).Challenge), Sc.val (vI (askO b t z k ch c).Handle), Sc.val (Value.bool (askO b t z k ch c).Present), Sc.val (vI (askO b t z k ch c).Counter), Sc.val (vI (askO b t z k ch c).Signature)]), (false, [Sc.val (Value.bool false)])], mem := [(50048, Ob.own (Da.row 62 6 (askX b t z c).Tabs.length fun i j => (dasTab ((askX b t z c).Tabs.getD i zTab)).getD j (Da.val undef)))] }) ∧ ((FnCon Tryz.prog 8 [(true, (dasBrowser b)), (false, [dI (t)]), (false, [dS (z)])] [(false, [dB (true)])]) ∧ bcase ((askX b t z c).Asked != b.Asked) ((FnCon Tryz.prog 9 [(true, (dasBrowser b)), (false, [dI (t)]), (false, [dS (z)])] [(false, [dB (true)])]) ∧ (false = false ∧ (false = false ∧ (false = false ∧ (((askX b t z c).Asked != b.Asked) = true ∧ (false = false ∧ ((FnCon Tryz.prog 12 [(true, (dasBrowser b)), (false, [dI (t)]), (false, [dS (z)]), (false, [dI (k)]), (false, [dB (c)])] [(true, dasBrowser (regX b t z)), (false, [dI ((regP b t z k c))]), (false, [dB (false)])]) ∧ (false = false ∧ (false = false ∧ bcase (match
  match (regX b t z).Store.Vendor == b.Store.Vendor with
  | false => false
  | true =>
    match (regX b t z).Store.Serial == b.Store.Serial with
    | false => false
    | true =>
      match (regX b t z).Store.Seed == b.Store.Seed with
      | false => false
      | true =>
        match (regX b t z).Store.Counter == b.Store.Counter with
        | false => false
        | true => true with
| true => false
| false => true) (false = false ∧ Value.bool false = Value.bool true) ((FnCon Tryz.prog 13 [(true, (dasBrowser b)), (false, [dI (t)]), (true, [dB (true), dS ({ data := { toList := [101, 118, 105, 108, 46, 110, 101, 116] } }), dI (443)])] [(true, dasBrowser (navX b t { Secure := true, Host := { data := { toList := [101, 118, 105, 108, 46, 110, 101, 116] } }, Port := 443 })), (false, [dB (true)])]) ∧ (false = false ∧ ((FnCon Tryz.prog 8 [(true, [dI ((navX b t { Secure := true, Host := { data := { toList := [101, 118, 105, 108, 46, 110, 101, 116] } }, Port := 443 }).Store.Vendor), dI ((navX b t { Secure := true, Host := { data := { toList := [101, 118, 105, 108, 46, 110, 101, 116] } }, Port := 443 }).Store.Serial), dI ((navX b t { Secure := true, Host := { data := { toList := [101, 118, 105, 108, 46, 110, 101, 116] } }, Port := 443 }).Store.Seed), dI ((navX b t { Secure := true, Host := { data := { toList := [101, 118, 105, 108, 46, 110, 101, 116] } }, Port := 443 }).Store.Counter), Da.row 62 6 (navX b t { Secure := true, Host := { data := { toList := [101, 118, 105, 108, 46, 110, 101, 116] } }, Port := 443 }).Tabs.length fun i j => (dasTab ((navX b t { Secure := true, Host := { data := { toList := [101, 118, 105, 108, 46, 110, 101, 116] } }, Port := 443 }).Tabs.getD i zTab)).getD j (Da.val undef), dI ((navX b t { Secure := true, Host := { data := { toList := [101, 118, 105, 108, 46, 110, 101, 116] } }, Port := 443 }).Asked)]), (false, [dI (t)]), (false, [dS ({ data := { toList := [98, 97, 110, 107, 46, 99, 111, 109] } })])] [(false, [dB (false)])]) ∧ (true = true ∧ ((FnCon Tryz.prog 14 [(true, (dasBrowser b)), (true, (dasBrowser b))] [(false, [dB (true)])]) ∧ (true = true ∧ ((FnCon Tryz.prog 9 [(true, (dasBrowser b)), (false, [dI (t)]), (false, [dS (z)])] [(false, [dB (true)])]) ∧ (false = false ∧ Value.bool true = Value.bool true))))))))))))))))) ((FnCon Tryz.prog 9 [(true, (dasBrowser b)), (false, [dI (t)]), (false, [dS (z)])] [(false, [dB (true)])]) ∧ (false = false ∧ (false = false ∧ (false = false ∧ (((askX b t z c).Asked != b.Asked) = false ∧ (false = false ∧ ((FnCon Tryz.prog 12 [(true, (dasBrowser b)), (false, [dI (t)]), (false, [dS (z)]), (false, [dI (k)]), (false, [dB (c)])] [(true, dasBrowser (regX b t z)), (false, [dI ((regP b t z k c))]), (false, [dB (false)])]) ∧ (false = false ∧ (false = false ∧ bcase (match
  match (regX b t z).Store.Vendor == b.Store.Vendor with
  | false => false
  | true =>
    match (regX b t z).Store.Serial == b.Store.Serial with
    | false => false
    | true =>
      match (regX b t z).Store.Seed == b.Store.Seed with
      | false => false
      | true =>
        match (regX b t z).Store.Counter == b.Store.Counter with
        | false => false
        | true => true with
| true => false
| false => true) (false = false ∧ Value.bool false = Value.bool true) ((FnCon Tryz.prog 13 [(true, (dasBrowser b)), (false, [dI (t)]), (true, [dB (true), dS ({ data := { toList := [101, 118, 105, 108, 46, 110, 101, 116] } }), dI (443)])] [(true, dasBrowser (navX b t { Secure := true, Host := { data := { toList := [101, 118, 105, 108, 46, 110, 101, 116] } }, Port := 443 })), (false, [dB (true)])]) ∧ (false = false ∧ ((FnCon Tryz.prog 8 [(true, [dI ((navX b t { Secure := true, Host := { data := { toList := [101, 118, 105, 108, 46, 110, 101, 116] } }, Port := 443 }).Store.Vendor), dI ((navX b t { Secure := true, Host := { data := { toList := [101, 118, 105, 108, 46, 110, 101, 116] } }, Port := 443 }).Store.Serial), dI ((navX b t { Secure := true, Host := { data := { toList := [101, 118, 105, 108, 46, 110, 101, 116] } }, Port := 443 }).Store.Seed), dI ((navX b t { Secure := true, Host := { data := { toList := [101, 118, 105, 108, 46, 110, 101, 116] } }, Port := 443 }).Store.Counter), Da.row 62 6 (navX b t { Secure := true, Host := { data := { toList := [101, 118, 105, 108, 46, 110, 101, 116] } }, Port := 443 }).Tabs.length fun i j => (dasTab ((navX b t { Secure := true, Host := { data := { toList := [101, 118, 105, 108, 46, 110, 101, 116] } }, Port := 443 }).Tabs.getD i zTab)).getD j (Da.val undef), dI ((navX b t { Secure := true, Host := { data := { toList := [101, 118, 105, 108, 46, 110, 101, 116] } }, Port := 443 }).Asked)]), (false, [dI (t)]), (false, [dS ({ data := { toList := [98, 97, 110, 107, 46, 99, 111, 109] } })])] [(false, [dB (false)])]) ∧ (true = true ∧ ((FnCon Tryz.prog 14 [(true, (dasBrowser b)), (true, (dasBrowser b))] [(false, [dB (true)])]) ∧ (true = true ∧ ((FnCon Tryz.prog 9 [(true, (dasBrowser b)), (false, [dI (t)]), (false, [dS (z)])] [(false, [dB (true)])]) ∧ (false = false ∧ Value.bool true = Value.bool true))))))))))))))))))))) = (awp Tryz.prog (brC W b t z k ch c true false false true) (noLoops) (Tryz.f3.body.getD .skip) ⟨[.one (.old (numR 5 .u8 xs))] ++ List.replicate (Tryz.f3.ntmps - ([.one (.old (numR 5 .u8 xs))] : List AV).length) (.one (.val undef)), fun _ => .un⟩ (retK Tryz.prog Tryz.f3.results.toList [bV true])) := by kernel_rfl
  rw [← hh_]
  clear hh_
  refine ⟨?g0, ?g1, ?g2, ?g3, bcase_intro (fun h4 => ⟨?g5, rfl, rfl, rfl, h4, rfl, ?g6, rfl, rfl, bcase_intro (fun h7 => ⟨rfl, congrArg _ ?g8⟩) (fun h7 => ⟨?g9, rfl, ?g10, rfl, ?g11, rfl, ?g12, rfl, rfl⟩)⟩) (fun h4 => ⟨?g13, rfl, rfl, rfl, h4, rfl, ?g14, rfl, rfl, bcase_intro (fun h15 => ⟨rfl, congrArg _ ?g16⟩) (fun h15 => ⟨?g17, rfl, ?g18, rfl, ?g19, rfl, ?g20, rfl, rfl⟩)⟩)⟩
  case g0 => exact conBig xs hx
  case g1 => exact hD
  case g2 => exact cust_ask (gs := (grpNew 50048 [(true, dasBrowser (askX b t z c)), (true, dasAssertion (askO b t z k ch c)), bV false]).1) (m := (grpNew 50048 [(true, dasBrowser (askX b t z c)), (true, dasAssertion (askO b t z k ch c)), bV false]).2.1) (kk := (grpNew 50048 [(true, dasBrowser (askX b t z c)), (true, dasAssertion (askO b t z k ch c)), bV false]).2.2) rfl rfl rfl (fun _ h => h) (wt_small hb hl) (by omega) hb.st k0 k1 c0 c1 ht hy_ rfl (Nat.le_of_ble_eq_true rfl)
  case g3 => (have h := C16l.conCan b t z (by omega) (short_of hb) (by omega); rw [hx_] at h; exact h)
  case g5 | g12 | g13 | g20 => (have h := C16s.conCan b t z (by omega) (short_of hb) (by omega); rw [hx_] at h; exact h)
  case g6 | g14 => (have h := C16l.conReg b t z k c (by omega) (short_of hb) (by omega) hb.st k0 k1; rw [hr_] at h; exact h)
  case g8 => rw [reg_store] at h7; simp at h7
  case g9 | g17 => (have h := C16l.conNav b t evil (by omega) (by decide); rw [hm_] at h; exact h)
  case g10 | g18 => (have h := C16l.conCan (navX b t evil) t bank (by have := (BrK.nav hb t).2; omega) (short_of (BrK.nav hb t).1) (by decide); rw [nav_can (b := b) hm_] at h; exact h)
  case g11 | g19 => (have h := C16l.conEql b b (by omega) (by omega); rw [eql_self b] at h; exact h)
  case g16 => rw [reg_store] at h15; simp at h15
theorem wpTFTF (W : World) (xs : List Int) (hx : xs.length ≤ 1048576) (ht : La.Pow W) (b : Fx.Browser) (t : Int) (z : ByteArray) (k ch : Int) (c : Bool) (hb : BrK b) (hl : b.Tabs.length ≤ 8) (hz : z.size ≤ 141) (k0 : -9223372036854775808 ≤ k) (k1 : k ≤ 9223372036854775807) (c0 : -9223372036854775808 ≤ ch) (c1 : ch ≤ 9223372036854775807) (hD : FnCon Tryz.prog 6 [(false, [numR 5 .u8 xs])] [(true, dasBrowser b), iV t, sV z, iV k, iV ch, bV c]) (hx_ : canB b t z = true) (hy_ : askB b t z c = false) (hr_ : regB b t z c = true) (hm_ : navB b t evil = false) : awp Tryz.prog (brC W b t z k ch c true false true false) (noLoops) (Tryz.f3.body.getD .skip) ⟨[.one (.old (numR 5 .u8 xs))] ++ List.replicate (Tryz.f3.ntmps - ([.one (.old (numR 5 .u8 xs))] : List AV).length) (.one (.val undef)), fun _ => .un⟩ (retK Tryz.prog Tryz.f3.results.toList [bV true]) := by
  have hh_ : ((FnCon Tryz.prog 5 [(false, [Da.row 5 1 xs.length fun i x => Da.val (Value.int IntKind.u8 (xs.getD i 0))])] [(false, [dB (false)])]) ∧ ((FnCon Tryz.prog 6 [(false, [Da.row 5 1 xs.length fun i x => Da.val (Value.int IntKind.u8 (xs.getD i 0))])] [(true, dasBrowser b), (false, [dI (t)]), (false, [dS (z)]), (false, [dI (k)]), (false, [dI (ch)]), (false, [dB (c)])]) ∧ ((Cust Tryz.prog (fun w => w = W) 50048 (opOf (Tryz.f3.body.getD Code.skip) 4 6) [AV.one (Sc.val (Value.func (Fn.func 7) { toList := [] } { toList := [] })), AV.agg [Sc.val (vI b.Store.Vendor), Sc.val (vI b.Store.Serial), Sc.val (vI b.Store.Seed), Sc.val (vI b.Store.Counter), Sc.own 40008, Sc.val (vI b.Asked)], AV.one (Sc.val (vI t)), AV.one (Sc.val (Value.string z)), AV.one (Sc.val (vI k)), AV.one (Sc.val (vI ch)), AV.one (Sc.val (Value.bool c))] [Ob.own (rowR 62 6 dasTab zTab b.Tabs)] { need := [], val := AV.tup [(true, [Sc.val (vI (askX b t z c).Store.Vendor), Sc.val (vI (askX b t z c).Store.Serial), Sc.val (vI (askX b t z c).Store.Seed), Sc.val (vI (askX b t z c).Store.Counter), Sc.own 50048, Sc.val (vI (askX b t z c).Asked)]), (true, [Sc.val (Value.string (askO b t z k ch c).Site), Sc.val (Value.string (askO b t z k ch c).Origin), Sc.val (vI (askO b t z k ch c).Challenge), Sc.val (vI (askO b t z k ch c).Handle), Sc.val (Value.bool (askO b t z k ch c).Present), Sc.val (vI (askO b t z k ch c).Counter), Sc.val (vI (askO b t z k ch c).Signature)]), (false, [Sc.val (Value.bool false)])], mem := [(50048, Ob.own (Da.row 62 6 (askX b t z c).Tabs.length fun i j => (dasTab ((askX b t z c).Tabs.getD i zTab)).getD j (Da.val undef)))] }) ∧ ((FnCon Tryz.prog 8 [(true, (dasBrowser b)), (false, [dI (t)]), (false, [dS (z)])] [(false, [dB (true)])]) ∧ bcase ((askX b t z c).Asked != b.Asked) ((FnCon Tryz.prog 9 [(true, (dasBrowser b)), (false, [dI (t)]), (false, [dS (z)])] [(false, [dB (true)])]) ∧ (false = false ∧ (false = false ∧ (false = false ∧ (((askX b t z c).Asked != b.Asked) = true ∧ (false = false ∧ ((FnCon Tryz.prog 12 [(true, (dasBrowser b)), (false, [dI (t)]), (false, [dS (z)]), (false, [dI (k)]), (false, [dB (c)])] [(true, dasBrowser (regX b t z)), (false, [dI ((regP b t z k c))]), (false, [dB (true)])]) ∧ bcase (!c) (true = true ∧ (false = false ∧ ((!c) = true ∧ (true = true ∧ (false = false ∧ Value.bool false = Value.bool true))))) (bcase (regP b t z k c != pubS b.Store z k) (true = true ∧ (false = false ∧ ((!c) = false ∧ (FnCon Tryz.prog 11 [(true, [dI (b.Store.Vendor), dI (b.Store.Serial), dI (b.Store.Seed), dI (b.Store.Counter)]), (false, [dS (z)]), (false, [dI (k)])] [(false, [dI ((pubS b.Store z k))])] ∧ ((regP b t z k c != pubS b.Store z k) = true ∧ (false = false ∧ Value.bool false = Value.bool true)))))) (true = true ∧ (false = false ∧ ((!c) = false ∧ (FnCon Tryz.prog 11 [(true, [dI (b.Store.Vendor), dI (b.Store.Serial), dI (b.Store.Seed), dI (b.Store.Counter)]), (false, [dS (z)]), (false, [dI (k)])] [(false, [dI ((pubS b.Store z k))])] ∧ ((regP b t z k c != pubS b.Store z k) = false ∧ bcase (match
  match (regX b t z).Store.Vendor == b.Store.Vendor with
  | false => false
  | true =>
    match (regX b t z).Store.Serial == b.Store.Serial with
    | false => false
    | true =>
      match (regX b t z).Store.Seed == b.Store.Seed with
      | false => false
      | true =>
        match (regX b t z).Store.Counter == b.Store.Counter with
        | false => false
        | true => true with
| true => false
| false => true) (false = false ∧ Value.bool false = Value.bool true) ((FnCon Tryz.prog 13 [(true, (dasBrowser b)), (false, [dI (t)]), (true, [dB (true), dS ({ data := { toList := [101, 118, 105, 108, 46, 110, 101, 116] } }), dI (443)])] [(true, dasBrowser (navX b t { Secure := true, Host := { data := { toList := [101, 118, 105, 108, 46, 110, 101, 116] } }, Port := 443 })), (false, [dB (false)])]) ∧ (true = true ∧ (false = false ∧ Value.bool true = Value.bool true)))))))))))))))) ((FnCon Tryz.prog 9 [(true, (dasBrowser b)), (false, [dI (t)]), (false, [dS (z)])] [(false, [dB (true)])]) ∧ (false = false ∧ (false = false ∧ (false = false ∧ (((askX b t z c).Asked != b.Asked) = false ∧ (false = false ∧ ((FnCon Tryz.prog 12 [(true, (dasBrowser b)), (false, [dI (t)]), (false, [dS (z)]), (false, [dI (k)]), (false, [dB (c)])] [(true, dasBrowser (regX b t z)), (false, [dI ((regP b t z k c))]), (false, [dB (true)])]) ∧ bcase (!c) (true = true ∧ (false = false ∧ ((!c) = true ∧ (true = true ∧ (false = false ∧ Value.bool false = Value.bool true))))) (bcase (regP b t z k c != pubS b.Store z k) (true = true ∧ (false = false ∧ ((!c) = false ∧ (FnCon Tryz.prog 11 [(true, [dI (b.Store.Vendor), dI (b.Store.Serial), dI (b.Store.Seed), dI (b.Store.Counter)]), (false, [dS (z)]), (false, [dI (k)])] [(false, [dI ((pubS b.Store z k))])] ∧ ((regP b t z k c != pubS b.Store z k) = true ∧ (false = false ∧ Value.bool false = Value.bool true)))))) (true = true ∧ (false = false ∧ ((!c) = false ∧ (FnCon Tryz.prog 11 [(true, [dI (b.Store.Vendor), dI (b.Store.Serial), dI (b.Store.Seed), dI (b.Store.Counter)]), (false, [dS (z)]), (false, [dI (k)])] [(false, [dI ((pubS b.Store z k))])] ∧ ((regP b t z k c != pubS b.Store z k) = false ∧ bcase (match
  match (regX b t z).Store.Vendor == b.Store.Vendor with
  | false => false
  | true =>
    match (regX b t z).Store.Serial == b.Store.Serial with
    | false => false
    | true =>
      match (regX b t z).Store.Seed == b.Store.Seed with
      | false => false
      | true =>
        match (regX b t z).Store.Counter == b.Store.Counter with
        | false => false
        | true => true with
| true => false
| false => true) (false = false ∧ Value.bool false = Value.bool true) ((FnCon Tryz.prog 13 [(true, (dasBrowser b)), (false, [dI (t)]), (true, [dB (true), dS ({ data := { toList := [101, 118, 105, 108, 46, 110, 101, 116] } }), dI (443)])] [(true, dasBrowser (navX b t { Secure := true, Host := { data := { toList := [101, 118, 105, 108, 46, 110, 101, 116] } }, Port := 443 })), (false, [dB (false)])]) ∧ (true = true ∧ (false = false ∧ Value.bool true = Value.bool true)))))))))))))))))))) = (awp Tryz.prog (brC W b t z k ch c true false true false) (noLoops) (Tryz.f3.body.getD .skip) ⟨[.one (.old (numR 5 .u8 xs))] ++ List.replicate (Tryz.f3.ntmps - ([.one (.old (numR 5 .u8 xs))] : List AV).length) (.one (.val undef)), fun _ => .un⟩ (retK Tryz.prog Tryz.f3.results.toList [bV true])) := by kernel_rfl
  rw [← hh_]
  clear hh_
  refine ⟨?g0, ?g1, ?g2, ?g3, bcase_intro (fun h4 => ⟨?g5, rfl, rfl, rfl, h4, rfl, ?g6, bcase_intro (fun h7 => ⟨rfl, rfl, h7, rfl, rfl, congrArg _ ?g8⟩) (fun h7 => bcase_intro (fun h9 => ⟨rfl, rfl, h7, ?g10, h9, rfl, congrArg _ ?g11⟩) (fun h9 => ⟨rfl, rfl, h7, ?g12, h9, bcase_intro (fun h13 => ⟨rfl, congrArg _ ?g14⟩) (fun h13 => ⟨?g15, rfl, rfl, rfl⟩)⟩))⟩) (fun h4 => ⟨?g16, rfl, rfl, rfl, h4, rfl, ?g17, bcase_intro (fun h18 => ⟨rfl, rfl, h18, rfl, rfl, congrArg _ ?g19⟩) (fun h18 => bcase_intro (fun h20 => ⟨rfl, rfl, h18, ?g21, h20, rfl, congrArg _ ?g22⟩) (fun h20 => ⟨rfl, rfl, h18, ?g23, h20, bcase_intro (fun h24 => ⟨rfl, congrArg _ ?g25⟩) (fun h24 => ⟨?g26, rfl, rfl, rfl⟩)⟩))⟩)⟩
  case g0 => exact conBig xs hx
  case g1 => exact hD
  case g2 => exact cust_ask (gs := (grpNew 50048 [(true, dasBrowser (askX b t z c)), (true, dasAssertion (askO b t z k ch c)), bV false]).1) (m := (grpNew 50048 [(true, dasBrowser (askX b t z c)), (true, dasAssertion (askO b t z k ch c)), bV false]).2.1) (kk := (grpNew 50048 [(true, dasBrowser (askX b t z c)), (true, dasAssertion (askO b t z k ch c)), bV false]).2.2) rfl rfl rfl (fun _ h => h) (wt_small hb hl) (by omega) hb.st k0 k1 c0 c1 ht hy_ rfl (Nat.le_of_ble_eq_true rfl)
  case g3 => (have h := C16l.conCan b t z (by omega) (short_of hb) (by omega); rw [hx_] at h; exact h)
  case g5 | g16 => (have h := C16s.conCan b t z (by omega) (short_of hb) (by omega); rw [hx_] at h; exact h)
  case g6 | g17 => (have h := C16l.conReg b t z k c (by omega) (short_of hb) (by omega) hb.st k0 k1; rw [hr_] at h; exact h)
  case g8 => rw [(reg_ok hr_).2] at h7; simp at h7
  case g10 | g12 | g21 | g23 => exact C16c.sPub b.Store z k hb.st (by omega) k0 k1
  case g11 => rw [regP_t hr_] at h9; simp at h9
  case g14 => rw [reg_store] at h13; simp at h13
  case g15 | g26 => (have h := C16l.conNav b t evil (by omega) (by decide); rw [hm_] at h; exact h)
  case g19 => rw [(reg_ok hr_).2] at h18; simp at h18
  case g22 => rw [regP_t hr_] at h20; simp at h20
  case g25 => rw [reg_store] at h24; simp at h24
theorem wpTFTT (W : World) (xs : List Int) (hx : xs.length ≤ 1048576) (ht : La.Pow W) (b : Fx.Browser) (t : Int) (z : ByteArray) (k ch : Int) (c : Bool) (hb : BrK b) (hl : b.Tabs.length ≤ 8) (hz : z.size ≤ 141) (k0 : -9223372036854775808 ≤ k) (k1 : k ≤ 9223372036854775807) (c0 : -9223372036854775808 ≤ ch) (c1 : ch ≤ 9223372036854775807) (hD : FnCon Tryz.prog 6 [(false, [numR 5 .u8 xs])] [(true, dasBrowser b), iV t, sV z, iV k, iV ch, bV c]) (hx_ : canB b t z = true) (hy_ : askB b t z c = false) (hr_ : regB b t z c = true) (hm_ : navB b t evil = true) : awp Tryz.prog (brC W b t z k ch c true false true true) (noLoops) (Tryz.f3.body.getD .skip) ⟨[.one (.old (numR 5 .u8 xs))] ++ List.replicate (Tryz.f3.ntmps - ([.one (.old (numR 5 .u8 xs))] : List AV).length) (.one (.val undef)), fun _ => .un⟩ (retK Tryz.prog Tryz.f3.results.toList [bV true]) := by
  have hh_ : ((FnCon Tryz.prog 5 [(false, [Da.row 5 1 xs.length fun i x => Da.val (Value.int IntKind.u8 (xs.getD i 0))])] [(false, [dB (false)])]) ∧ ((FnCon Tryz.prog 6 [(false, [Da.row 5 1 xs.length fun i x => Da.val (Value.int IntKind.u8 (xs.getD i 0))])] [(true, dasBrowser b), (false, [dI (t)]), (false, [dS (z)]), (false, [dI (k)]), (false, [dI (ch)]), (false, [dB (c)])]) ∧ ((Cust Tryz.prog (fun w => w = W) 50048 (opOf (Tryz.f3.body.getD Code.skip) 4 6) [AV.one (Sc.val (Value.func (Fn.func 7) { toList := [] } { toList := [] })), AV.agg [Sc.val (vI b.Store.Vendor), Sc.val (vI b.Store.Serial), Sc.val (vI b.Store.Seed), Sc.val (vI b.Store.Counter), Sc.own 40008, Sc.val (vI b.Asked)], AV.one (Sc.val (vI t)), AV.one (Sc.val (Value.string z)), AV.one (Sc.val (vI k)), AV.one (Sc.val (vI ch)), AV.one (Sc.val (Value.bool c))] [Ob.own (rowR 62 6 dasTab zTab b.Tabs)] { need := [], val := AV.tup [(true, [Sc.val (vI (askX b t z c).Store.Vendor), Sc.val (vI (askX b t z c).Store.Serial), Sc.val (vI (askX b t z c).Store.Seed), Sc.val (vI (askX b t z c).Store.Counter), Sc.own 50048, Sc.val (vI (askX b t z c).Asked)]), (true, [Sc.val (Value.string (askO b t z k ch c).Site), Sc.val (Value.string (askO b t z k ch c).Origin), Sc.val (vI (askO b t z k ch c).Challenge), Sc.val (vI (askO b t z k ch c).Handle), Sc.val (Value.bool (askO b t z k ch c).Present), Sc.val (vI (askO b t z k ch c).Counter), Sc.val (vI (askO b t z k ch c).Signature)]), (false, [Sc.val (Value.bool false)])], mem := [(50048, Ob.own (Da.row 62 6 (askX b t z c).Tabs.length fun i j => (dasTab ((askX b t z c).Tabs.getD i zTab)).getD j (Da.val undef)))] }) ∧ ((FnCon Tryz.prog 8 [(true, (dasBrowser b)), (false, [dI (t)]), (false, [dS (z)])] [(false, [dB (true)])]) ∧ bcase ((askX b t z c).Asked != b.Asked) ((FnCon Tryz.prog 9 [(true, (dasBrowser b)), (false, [dI (t)]), (false, [dS (z)])] [(false, [dB (true)])]) ∧ (false = false ∧ (false = false ∧ (false = false ∧ (((askX b t z c).Asked != b.Asked) = true ∧ (false = false ∧ ((FnCon Tryz.prog 12 [(true, (dasBrowser b)), (false, [dI (t)]), (false, [dS (z)]), (false, [dI (k)]), (false, [dB (c)])] [(true, dasBrowser (regX b t z)), (false, [dI ((regP b t z k c))]), (false, [dB (true)])]) ∧ bcase (!c) (true = true ∧ (false = false ∧ ((!c) = true ∧ (true = true ∧ (false = false ∧ Value.bool false = Value.bool true))))) (bcase (regP b t z k c != pubS b.Store z k) (true = true ∧ (false = false ∧ ((!c) = false ∧ (FnCon Tryz.prog 11 [(true, [dI (b.Store.Vendor), dI (b.Store.Serial), dI (b.Store.Seed), dI (b.Store.Counter)]), (false, [dS (z)]), (false, [dI (k)])] [(false, [dI ((pubS b.Store z k))])] ∧ ((regP b t z k c != pubS b.Store z k) = true ∧ (false = false ∧ Value.bool false = Value.bool true)))))) (true = true ∧ (false = false ∧ ((!c) = false ∧ (FnCon Tryz.prog 11 [(true, [dI (b.Store.Vendor), dI (b.Store.Serial), dI (b.Store.Seed), dI (b.Store.Counter)]), (false, [dS (z)]), (false, [dI (k)])] [(false, [dI ((pubS b.Store z k))])] ∧ ((regP b t z k c != pubS b.Store z k) = false ∧ bcase (match
  match (regX b t z).Store.Vendor == b.Store.Vendor with
  | false => false
  | true =>
    match (regX b t z).Store.Serial == b.Store.Serial with
    | false => false
    | true =>
      match (regX b t z).Store.Seed == b.Store.Seed with
      | false => false
      | true =>
        match (regX b t z).Store.Counter == b.Store.Counter with
        | false => false
        | true => true with
| true => false
| false => true) (false = false ∧ Value.bool false = Value.bool true) ((FnCon Tryz.prog 13 [(true, (dasBrowser b)), (false, [dI (t)]), (true, [dB (true), dS ({ data := { toList := [101, 118, 105, 108, 46, 110, 101, 116] } }), dI (443)])] [(true, dasBrowser (navX b t { Secure := true, Host := { data := { toList := [101, 118, 105, 108, 46, 110, 101, 116] } }, Port := 443 })), (false, [dB (true)])]) ∧ (false = false ∧ ((FnCon Tryz.prog 8 [(true, [dI ((navX b t { Secure := true, Host := { data := { toList := [101, 118, 105, 108, 46, 110, 101, 116] } }, Port := 443 }).Store.Vendor), dI ((navX b t { Secure := true, Host := { data := { toList := [101, 118, 105, 108, 46, 110, 101, 116] } }, Port := 443 }).Store.Serial), dI ((navX b t { Secure := true, Host := { data := { toList := [101, 118, 105, 108, 46, 110, 101, 116] } }, Port := 443 }).Store.Seed), dI ((navX b t { Secure := true, Host := { data := { toList := [101, 118, 105, 108, 46, 110, 101, 116] } }, Port := 443 }).Store.Counter), Da.row 62 6 (navX b t { Secure := true, Host := { data := { toList := [101, 118, 105, 108, 46, 110, 101, 116] } }, Port := 443 }).Tabs.length fun i j => (dasTab ((navX b t { Secure := true, Host := { data := { toList := [101, 118, 105, 108, 46, 110, 101, 116] } }, Port := 443 }).Tabs.getD i zTab)).getD j (Da.val undef), dI ((navX b t { Secure := true, Host := { data := { toList := [101, 118, 105, 108, 46, 110, 101, 116] } }, Port := 443 }).Asked)]), (false, [dI (t)]), (false, [dS ({ data := { toList := [98, 97, 110, 107, 46, 99, 111, 109] } })])] [(false, [dB (false)])]) ∧ (true = true ∧ ((FnCon Tryz.prog 14 [(true, (dasBrowser b)), (true, (dasBrowser b))] [(false, [dB (true)])]) ∧ (true = true ∧ ((FnCon Tryz.prog 9 [(true, (dasBrowser b)), (false, [dI (t)]), (false, [dS (z)])] [(false, [dB (true)])]) ∧ (false = false ∧ Value.bool true = Value.bool true))))))))))))))))))))) ((FnCon Tryz.prog 9 [(true, (dasBrowser b)), (false, [dI (t)]), (false, [dS (z)])] [(false, [dB (true)])]) ∧ (false = false ∧ (false = false ∧ (false = false ∧ (((askX b t z c).Asked != b.Asked) = false ∧ (false = false ∧ ((FnCon Tryz.prog 12 [(true, (dasBrowser b)), (false, [dI (t)]), (false, [dS (z)]), (false, [dI (k)]), (false, [dB (c)])] [(true, dasBrowser (regX b t z)), (false, [dI ((regP b t z k c))]), (false, [dB (true)])]) ∧ bcase (!c) (true = true ∧ (false = false ∧ ((!c) = true ∧ (true = true ∧ (false = false ∧ Value.bool false = Value.bool true))))) (bcase (regP b t z k c != pubS b.Store z k) (true = true ∧ (false = false ∧ ((!c) = false ∧ (FnCon Tryz.prog 11 [(true, [dI (b.Store.Vendor), dI (b.Store.Serial), dI (b.Store.Seed), dI (b.Store.Counter)]), (false, [dS (z)]), (false, [dI (k)])] [(false, [dI ((pubS b.Store z k))])] ∧ ((regP b t z k c != pubS b.Store z k) = true ∧ (false = false ∧ Value.bool false = Value.bool true)))))) (true = true ∧ (false = false ∧ ((!c) = false ∧ (FnCon Tryz.prog 11 [(true, [dI (b.Store.Vendor), dI (b.Store.Serial), dI (b.Store.Seed), dI (b.Store.Counter)]), (false, [dS (z)]), (false, [dI (k)])] [(false, [dI ((pubS b.Store z k))])] ∧ ((regP b t z k c != pubS b.Store z k) = false ∧ bcase (match
  match (regX b t z).Store.Vendor == b.Store.Vendor with
  | false => false
  | true =>
    match (regX b t z).Store.Serial == b.Store.Serial with
    | false => false
    | true =>
      match (regX b t z).Store.Seed == b.Store.Seed with
      | false => false
      | true =>
        match (regX b t z).Store.Counter == b.Store.Counter with
        | false => false
        | true => true with
| true => false
| false => true) (false = false ∧ Value.bool false = Value.bool true) ((FnCon Tryz.prog 13 [(true, (dasBrowser b)), (false, [dI (t)]), (true, [dB (true), dS ({ data := { toList := [101, 118, 105, 108, 46, 110, 101, 116] } }), dI (443)])] [(true, dasBrowser (navX b t { Secure := true, Host := { data := { toList := [101, 118, 105, 108, 46, 110, 101, 116] } }, Port := 443 })), (false, [dB (true)])]) ∧ (false = false ∧ ((FnCon Tryz.prog 8 [(true, [dI ((navX b t { Secure := true, Host := { data := { toList := [101, 118, 105, 108, 46, 110, 101, 116] } }, Port := 443 }).Store.Vendor), dI ((navX b t { Secure := true, Host := { data := { toList := [101, 118, 105, 108, 46, 110, 101, 116] } }, Port := 443 }).Store.Serial), dI ((navX b t { Secure := true, Host := { data := { toList := [101, 118, 105, 108, 46, 110, 101, 116] } }, Port := 443 }).Store.Seed), dI ((navX b t { Secure := true, Host := { data := { toList := [101, 118, 105, 108, 46, 110, 101, 116] } }, Port := 443 }).Store.Counter), Da.row 62 6 (navX b t { Secure := true, Host := { data := { toList := [101, 118, 105, 108, 46, 110, 101, 116] } }, Port := 443 }).Tabs.length fun i j => (dasTab ((navX b t { Secure := true, Host := { data := { toList := [101, 118, 105, 108, 46, 110, 101, 116] } }, Port := 443 }).Tabs.getD i zTab)).getD j (Da.val undef), dI ((navX b t { Secure := true, Host := { data := { toList := [101, 118, 105, 108, 46, 110, 101, 116] } }, Port := 443 }).Asked)]), (false, [dI (t)]), (false, [dS ({ data := { toList := [98, 97, 110, 107, 46, 99, 111, 109] } })])] [(false, [dB (false)])]) ∧ (true = true ∧ ((FnCon Tryz.prog 14 [(true, (dasBrowser b)), (true, (dasBrowser b))] [(false, [dB (true)])]) ∧ (true = true ∧ ((FnCon Tryz.prog 9 [(true, (dasBrowser b)), (false, [dI (t)]), (false, [dS (z)])] [(false, [dB (true)])]) ∧ (false = false ∧ Value.bool true = Value.bool true))))))))))))))))))))))))) = (awp Tryz.prog (brC W b t z k ch c true false true true) (noLoops) (Tryz.f3.body.getD .skip) ⟨[.one (.old (numR 5 .u8 xs))] ++ List.replicate (Tryz.f3.ntmps - ([.one (.old (numR 5 .u8 xs))] : List AV).length) (.one (.val undef)), fun _ => .un⟩ (retK Tryz.prog Tryz.f3.results.toList [bV true])) := by kernel_rfl
  rw [← hh_]
  clear hh_
  refine ⟨?g0, ?g1, ?g2, ?g3, bcase_intro (fun h4 => ⟨?g5, rfl, rfl, rfl, h4, rfl, ?g6, bcase_intro (fun h7 => ⟨rfl, rfl, h7, rfl, rfl, congrArg _ ?g8⟩) (fun h7 => bcase_intro (fun h9 => ⟨rfl, rfl, h7, ?g10, h9, rfl, congrArg _ ?g11⟩) (fun h9 => ⟨rfl, rfl, h7, ?g12, h9, bcase_intro (fun h13 => ⟨rfl, congrArg _ ?g14⟩) (fun h13 => ⟨?g15, rfl, ?g16, rfl, ?g17, rfl, ?g18, rfl, rfl⟩)⟩))⟩) (fun h4 => ⟨?g19, rfl, rfl, rfl, h4, rfl, ?g20, bcase_intro (fun h21 => ⟨rfl, rfl, h21, rfl, rfl, congrArg _ ?g22⟩) (fun h21 => bcase_intro (fun h23 => ⟨rfl, rfl, h21, ?g24, h23, rfl, congrArg _ ?g25⟩) (fun h23 => ⟨rfl, rfl, h21, ?g26, h23, bcase_intro (fun h27 => ⟨rfl, congrArg _ ?g28⟩) (fun h27 => ⟨?g29, rfl, ?g30, rfl, ?g31, rfl, ?g32, rfl, rfl⟩)⟩))⟩)⟩
  case g0 => exact conBig xs hx
  case g1 => exact hD
  case g2 => exact cust_ask (gs := (grpNew 50048 [(true, dasBrowser (askX b t z c)), (true, dasAssertion (askO b t z k ch c)), bV false]).1) (m := (grpNew 50048 [(true, dasBrowser (askX b t z c)), (true, dasAssertion (askO b t z k ch c)), bV false]).2.1) (kk := (grpNew 50048 [(true, dasBrowser (askX b t z c)), (true, dasAssertion (askO b t z k ch c)), bV false]).2.2) rfl rfl rfl (fun _ h => h) (wt_small hb hl) (by omega) hb.st k0 k1 c0 c1 ht hy_ rfl (Nat.le_of_ble_eq_true rfl)
  case g3 => (have h := C16l.conCan b t z (by omega) (short_of hb) (by omega); rw [hx_] at h; exact h)
  case g5 | g18 | g19 | g32 => (have h := C16s.conCan b t z (by omega) (short_of hb) (by omega); rw [hx_] at h; exact h)
  case g6 | g20 => (have h := C16l.conReg b t z k c (by omega) (short_of hb) (by omega) hb.st k0 k1; rw [hr_] at h; exact h)
  case g8 => rw [(reg_ok hr_).2] at h7; simp at h7
  case g10 | g12 | g24 | g26 => exact C16c.sPub b.Store z k hb.st (by omega) k0 k1
  case g11 => rw [regP_t hr_] at h9; simp at h9
  case g14 => rw [reg_store] at h13; simp at h13
  case g15 | g29 => (have h := C16l.conNav b t evil (by omega) (by decide); rw [hm_] at h; exact h)
  case g16 | g30 => (have h := C16l.conCan (navX b t evil) t bank (by have := (BrK.nav hb t).2; omega) (short_of (BrK.nav hb t).1) (by decide); rw [nav_can (b := b) hm_] at h; exact h)
  case g17 | g31 => (have h := C16l.conEql b b (by omega) (by omega); rw [eql_self b] at h; exact h)
  case g22 => rw [(reg_ok hr_).2] at h21; simp at h21
  case g25 => rw [regP_t hr_] at h23; simp at h23
  case g28 => rw [reg_store] at h27; simp at h27
theorem wpTTTF (W : World) (xs : List Int) (hx : xs.length ≤ 1048576) (ht : La.Pow W) (b : Fx.Browser) (t : Int) (z : ByteArray) (k ch : Int) (c : Bool) (hb : BrK b) (hl : b.Tabs.length ≤ 8) (hz : z.size ≤ 141) (k0 : -9223372036854775808 ≤ k) (k1 : k ≤ 9223372036854775807) (c0 : -9223372036854775808 ≤ ch) (c1 : ch ≤ 9223372036854775807) (hD : FnCon Tryz.prog 6 [(false, [numR 5 .u8 xs])] [(true, dasBrowser b), iV t, sV z, iV k, iV ch, bV c]) (hx_ : canB b t z = true) (hy_ : askB b t z c = true) (hr_ : regB b t z c = true) (hm_ : navB b t evil = false) : awp Tryz.prog (brC W b t z k ch c true true true false) (noLoops) (Tryz.f3.body.getD .skip) ⟨[.one (.old (numR 5 .u8 xs))] ++ List.replicate (Tryz.f3.ntmps - ([.one (.old (numR 5 .u8 xs))] : List AV).length) (.one (.val undef)), fun _ => .un⟩ (retK Tryz.prog Tryz.f3.results.toList [bV true]) := by
  have hh_ : ((FnCon Tryz.prog 5 [(false, [Da.row 5 1 xs.length fun i x => Da.val (Value.int IntKind.u8 (xs.getD i 0))])] [(false, [dB (false)])]) ∧ ((FnCon Tryz.prog 6 [(false, [Da.row 5 1 xs.length fun i x => Da.val (Value.int IntKind.u8 (xs.getD i 0))])] [(true, dasBrowser b), (false, [dI (t)]), (false, [dS (z)]), (false, [dI (k)]), (false, [dI (ch)]), (false, [dB (c)])]) ∧ ((Cust Tryz.prog (fun w => w = W) 50048 (opOf (Tryz.f3.body.getD Code.skip) 4 6) [AV.one (Sc.val (Value.func (Fn.func 7) { toList := [] } { toList := [] })), AV.agg [Sc.val (vI b.Store.Vendor), Sc.val (vI b.Store.Serial), Sc.val (vI b.Store.Seed), Sc.val (vI b.Store.Counter), Sc.own 40008, Sc.val (vI b.Asked)], AV.one (Sc.val (vI t)), AV.one (Sc.val (Value.string z)), AV.one (Sc.val (vI k)), AV.one (Sc.val (vI ch)), AV.one (Sc.val (Value.bool c))] [Ob.own (rowR 62 6 dasTab zTab b.Tabs)] { need := [], val := AV.tup [(true, [Sc.val (vI (askX b t z c).Store.Vendor), Sc.val (vI (askX b t z c).Store.Serial), Sc.val (vI (askX b t z c).Store.Seed), Sc.val (vI (askX b t z c).Store.Counter), Sc.own 50048, Sc.val (vI (askX b t z c).Asked)]), (true, [Sc.val (Value.string (askO b t z k ch c).Site), Sc.val (Value.string (askO b t z k ch c).Origin), Sc.val (vI (askO b t z k ch c).Challenge), Sc.val (vI (askO b t z k ch c).Handle), Sc.val (Value.bool (askO b t z k ch c).Present), Sc.val (vI (askO b t z k ch c).Counter), Sc.val (vI (askO b t z k ch c).Signature)]), (false, [Sc.val (Value.bool true)])], mem := [(50048, Ob.own (Da.row 62 6 (askX b t z c).Tabs.length fun i j => (dasTab ((askX b t z c).Tabs.getD i zTab)).getD j (Da.val undef)))] }) ∧ ((FnCon Tryz.prog 8 [(true, (dasBrowser b)), (false, [dI (t)]), (false, [dS (z)])] [(false, [dB (true)])]) ∧ bcase (!c) ((FnCon Tryz.prog 9 [(true, (dasBrowser b)), (false, [dI (t)]), (false, [dS (z)])] [(false, [dB (true)])]) ∧ (false = false ∧ (true = true ∧ (false = false ∧ ((!c) = true ∧ (false = false ∧ Value.bool false = Value.bool true)))))) (bcase ((askX b t z c).Asked != b.Asked) ((FnCon Tryz.prog 9 [(true, (dasBrowser b)), (false, [dI (t)]), (false, [dS (z)])] [(false, [dB (true)])]) ∧ (false = false ∧ (true = true ∧ (false = false ∧ ((!c) = false ∧ (((askX b t z c).Asked != b.Asked) = true ∧ bcase (C13.chkA (pubS b.Store z k) (askO b t z k ch c) z ch b.Store.Counter != 0) (true = true ∧ (FnCon Tryz.prog 11 [(true, [dI (b.Store.Vendor), dI (b.Store.Serial), dI (b.Store.Seed), dI (b.Store.Counter)]), (false, [dS (z)]), (false, [dI (k)])] [(false, [dI ((pubS b.Store z k))])] ∧ (FnCon Tryz.prog 10 [(false, [dI ((pubS b.Store z k))]), (true, (dasAssertion (askO b t z k ch c))), (false, [dS (z)]), (false, [dI (ch)]), (false, [dI (b.Store.Counter)])] [(false, [dI ((C13.chkA (pubS b.Store z k) (askO b t z k ch c) z ch b.Store.Counter))])] ∧ ((C13.chkA (pubS b.Store z k) (askO b t z k ch c) z ch b.Store.Counter != 0) = true ∧ (false = false ∧ Value.bool false = Value.bool true))))) (true = true ∧ (FnCon Tryz.prog 11 [(true, [dI (b.Store.Vendor), dI (b.Store.Serial), dI (b.Store.Seed), dI (b.Store.Counter)]), (false, [dS (z)]), (false, [dI (k)])] [(false, [dI ((pubS b.Store z k))])] ∧ (FnCon Tryz.prog 10 [(false, [dI ((pubS b.Store z k))]), (true, (dasAssertion (askO b t z k ch c))), (false, [dS (z)]), (false, [dI (ch)]), (false, [dI (b.Store.Counter)])] [(false, [dI ((C13.chkA (pubS b.Store z k) (askO b t z k ch c) z ch b.Store.Counter))])] ∧ ((C13.chkA (pubS b.Store z k) (askO b t z k ch c) z ch b.Store.Counter != 0) = false ∧ bcase ((askX b t z c).Store.Counter != IntKind.i64.wrap (b.Store.Counter + 1)) (false = false ∧ Value.bool false = Value.bool true) ((FnCon Tryz.prog 12 [(true, (dasBrowser b)), (false, [dI (t)]), (false, [dS (z)]), (false, [dI (k)]), (false, [dB (c)])] [(true, dasBrowser (regX b t z)), (false, [dI ((regP b t z k c))]), (false, [dB (true)])]) ∧ bcase (!c) (true = true ∧ (false = false ∧ ((!c) = true ∧ (true = true ∧ (false = false ∧ Value.bool false = Value.bool true))))) (bcase (regP b t z k c != pubS b.Store z k) (true = true ∧ (false = false ∧ ((!c) = false ∧ (FnCon Tryz.prog 11 [(true, [dI (b.Store.Vendor), dI (b.Store.Serial), dI (b.Store.Seed), dI (b.Store.Counter)]), (false, [dS (z)]), (false, [dI (k)])] [(false, [dI ((pubS b.Store z k))])] ∧ ((regP b t z k c != pubS b.Store z k) = true ∧ (false = false ∧ Value.bool false = Value.bool true)))))) (true = true ∧ (false = false ∧ ((!c) = false ∧ (FnCon Tryz.prog 11 [(true, [dI (b.Store.Vendor), dI (b.Store.Serial), dI (b.Store.Seed), dI (b.Store.Counter)]), (false, [dS (z)]), (false, [dI (k)])] [(false, [dI ((pubS b.Store z k))])] ∧ ((regP b t z k c != pubS b.Store z k) = false ∧ bcase (match
  match (regX b t z).Store.Vendor == b.Store.Vendor with
  | false => false
  | true =>
    match (regX b t z).Store.Serial == b.Store.Serial with
    | false => false
    | true =>
      match (regX b t z).Store.Seed == b.Store.Seed with
      | false => false
      | true =>
        match (regX b t z).Store.Counter == b.Store.Counter with
        | false => false
        | true => true with
| true => false
| false => true) (false = false ∧ Value.bool false = Value.bool true) ((FnCon Tryz.prog 13 [(true, (dasBrowser b)), (false, [dI (t)]), (true, [dB (true), dS ({ data := { toList := [101, 118, 105, 108, 46, 110, 101, 116] } }), dI (443)])] [(true, dasBrowser (navX b t { Secure := true, Host := { data := { toList := [101, 118, 105, 108, 46, 110, 101, 116] } }, Port := 443 })), (false, [dB (false)])]) ∧ (true = true ∧ (false = false ∧ Value.bool true = Value.bool true)))))))))))))))))))) ((FnCon Tryz.prog 9 [(true, (dasBrowser b)), (false, [dI (t)]), (false, [dS (z)])] [(false, [dB (true)])]) ∧ (false = false ∧ (true = true ∧ (false = false ∧ ((!c) = false ∧ (((askX b t z c).Asked != b.Asked) = false ∧ bcase (C13.chkA (pubS b.Store z k) (askO b t z k ch c) z ch b.Store.Counter != 0) (true = true ∧ (FnCon Tryz.prog 11 [(true, [dI (b.Store.Vendor), dI (b.Store.Serial), dI (b.Store.Seed), dI (b.Store.Counter)]), (false, [dS (z)]), (false, [dI (k)])] [(false, [dI ((pubS b.Store z k))])] ∧ (FnCon Tryz.prog 10 [(false, [dI ((pubS b.Store z k))]), (true, (dasAssertion (askO b t z k ch c))), (false, [dS (z)]), (false, [dI (ch)]), (false, [dI (b.Store.Counter)])] [(false, [dI ((C13.chkA (pubS b.Store z k) (askO b t z k ch c) z ch b.Store.Counter))])] ∧ ((C13.chkA (pubS b.Store z k) (askO b t z k ch c) z ch b.Store.Counter != 0) = true ∧ (false = false ∧ Value.bool false = Value.bool true))))) (true = true ∧ (FnCon Tryz.prog 11 [(true, [dI (b.Store.Vendor), dI (b.Store.Serial), dI (b.Store.Seed), dI (b.Store.Counter)]), (false, [dS (z)]), (false, [dI (k)])] [(false, [dI ((pubS b.Store z k))])] ∧ (FnCon Tryz.prog 10 [(false, [dI ((pubS b.Store z k))]), (true, (dasAssertion (askO b t z k ch c))), (false, [dS (z)]), (false, [dI (ch)]), (false, [dI (b.Store.Counter)])] [(false, [dI ((C13.chkA (pubS b.Store z k) (askO b t z k ch c) z ch b.Store.Counter))])] ∧ ((C13.chkA (pubS b.Store z k) (askO b t z k ch c) z ch b.Store.Counter != 0) = false ∧ bcase ((askX b t z c).Store.Counter != IntKind.i64.wrap (b.Store.Counter + 1)) (false = false ∧ Value.bool false = Value.bool true) ((FnCon Tryz.prog 12 [(true, (dasBrowser b)), (false, [dI (t)]), (false, [dS (z)]), (false, [dI (k)]), (false, [dB (c)])] [(true, dasBrowser (regX b t z)), (false, [dI ((regP b t z k c))]), (false, [dB (true)])]) ∧ bcase (!c) (true = true ∧ (false = false ∧ ((!c) = true ∧ (true = true ∧ (false = false ∧ Value.bool false = Value.bool true))))) (bcase (regP b t z k c != pubS b.Store z k) (true = true ∧ (false = false ∧ ((!c) = false ∧ (FnCon Tryz.prog 11 [(true, [dI (b.Store.Vendor), dI (b.Store.Serial), dI (b.Store.Seed), dI (b.Store.Counter)]), (false, [dS (z)]), (false, [dI (k)])] [(false, [dI ((pubS b.Store z k))])] ∧ ((regP b t z k c != pubS b.Store z k) = true ∧ (false = false ∧ Value.bool false = Value.bool true)))))) (true = true ∧ (false = false ∧ ((!c) = false ∧ (FnCon Tryz.prog 11 [(true, [dI (b.Store.Vendor), dI (b.Store.Serial), dI (b.Store.Seed), dI (b.Store.Counter)]), (false, [dS (z)]), (false, [dI (k)])] [(false, [dI ((pubS b.Store z k))])] ∧ ((regP b t z k c != pubS b.Store z k) = false ∧ bcase (match
  match (regX b t z).Store.Vendor == b.Store.Vendor with
  | false => false
  | true =>
    match (regX b t z).Store.Serial == b.Store.Serial with
    | false => false
    | true =>
      match (regX b t z).Store.Seed == b.Store.Seed with
      | false => false
      | true =>
        match (regX b t z).Store.Counter == b.Store.Counter with
        | false => false
        | true => true with
| true => false
| false => true) (false = false ∧ Value.bool false = Value.bool true) ((FnCon Tryz.prog 13 [(true, (dasBrowser b)), (false, [dI (t)]), (true, [dB (true), dS ({ data := { toList := [101, 118, 105, 108, 46, 110, 101, 116] } }), dI (443)])] [(true, dasBrowser (navX b t { Secure := true, Host := { data := { toList := [101, 118, 105, 108, 46, 110, 101, 116] } }, Port := 443 })), (false, [dB (false)])]) ∧ (true = true ∧ (false = false ∧ Value.bool true = Value.bool true))))))))))))))))))))))))) = (awp Tryz.prog (brC W b t z k ch c true true true false) (noLoops) (Tryz.f3.body.getD .skip) ⟨[.one (.old (numR 5 .u8 xs))] ++ List.replicate (Tryz.f3.ntmps - ([.one (.old (numR 5 .u8 xs))] : List AV).length) (.one (.val undef)), fun _ => .un⟩ (retK Tryz.prog Tryz.f3.results.toList [bV true])) := by kernel_rfl
  rw [← hh_]
  clear hh_
  refine ⟨?g0, ?g1, ?g2, ?g3, bcase_intro (fun h4 => ⟨?g5, rfl, rfl, rfl, h4, rfl, congrArg _ ?g6⟩) (fun h4 => bcase_intro (fun h7 => ⟨?g8, rfl, rfl, rfl, h4, h7, bcase_intro (fun h9 => ⟨rfl, ?g10, ?g11, h9, rfl, congrArg _ ?g12⟩) (fun h9 => ⟨rfl, ?g13, ?g14, h9, bcase_intro (fun h15 => ⟨rfl, congrArg _ ?g16⟩) (fun h15 => ⟨?g17, bcase_intro (fun h18 => ⟨rfl, rfl, h18, rfl, rfl, congrArg _ ?g19⟩) (fun h18 => bcase_intro (fun h20 => ⟨rfl, rfl, h18, ?g21, h20, rfl, congrArg _ ?g22⟩) (fun h20 => ⟨rfl, rfl, h18, ?g23, h20, bcase_intro (fun h24 => ⟨rfl, congrArg _ ?g25⟩) (fun h24 => ⟨?g26, rfl, rfl, rfl⟩)⟩))⟩)⟩)⟩) (fun h7 => ⟨?g27, rfl, rfl, rfl, h4, h7, bcase_intro (fun h28 => ⟨rfl, ?g29, ?g30, h28, rfl, congrArg _ ?g31⟩) (fun h28 => ⟨rfl, ?g32, ?g33, h28, bcase_intro (fun h34 => ⟨rfl, congrArg _ ?g35⟩) (fun h34 => ⟨?g36, bcase_intro (fun h37 => ⟨rfl, rfl, h37, rfl, rfl, congrArg _ ?g38⟩) (fun h37 => bcase_intro (fun h39 => ⟨rfl, rfl, h37, ?g40, h39, rfl, congrArg _ ?g41⟩) (fun h39 => ⟨rfl, rfl, h37, ?g42, h39, bcase_intro (fun h43 => ⟨rfl, congrArg _ ?g44⟩) (fun h43 => ⟨?g45, rfl, rfl, rfl⟩)⟩))⟩)⟩)⟩))⟩
  case g0 => exact conBig xs hx
  case g1 => exact hD
  case g2 => exact cust_ask (gs := (grpNew 50048 [(true, dasBrowser (askX b t z c)), (true, dasAssertion (askO b t z k ch c)), bV true]).1) (m := (grpNew 50048 [(true, dasBrowser (askX b t z c)), (true, dasAssertion (askO b t z k ch c)), bV true]).2.1) (kk := (grpNew 50048 [(true, dasBrowser (askX b t z c)), (true, dasAssertion (askO b t z k ch c)), bV true]).2.2) rfl rfl rfl (fun _ h => h) (wt_small hb hl) (by omega) hb.st k0 k1 c0 c1 ht hy_ rfl (Nat.le_of_ble_eq_true rfl)
  case g3 => (have h := C16l.conCan b t z (by omega) (short_of hb) (by omega); rw [hx_] at h; exact h)
  case g5 | g8 | g27 => (have h := C16s.conCan b t z (by omega) (short_of hb) (by omega); rw [hx_] at h; exact h)
  case g6 => rw [(ask_ok hy_).2.1] at h4; simp at h4
  case g10 | g13 | g21 | g23 | g29 | g32 | g40 | g42 => exact C16c.sPub b.Store z k hb.st (by omega) k0 k1
  case g11 | g14 | g30 | g33 => exact conChk _ _ _ _ _ (ask_okX (by omega) ⟨k0, k1⟩ ⟨c0, c1⟩).ok (ask_okX (by omega) ⟨k0, k1⟩ ⟨c0, c1⟩).site (ask_okX (by omega) ⟨k0, k1⟩ ⟨c0, c1⟩).orig (by omega)
  case g12 => rw [(ask_chk hy_).1] at h9; simp at h9
  case g16 => rw [(ask_chk (k := k) (ch := ch) hy_).2] at h15; simp at h15
  case g17 | g36 => (have h := C16l.conReg b t z k c (by omega) (short_of hb) (by omega) hb.st k0 k1; rw [hr_] at h; exact h)
  case g19 => rw [(ask_ok hy_).2.1] at h18; simp at h18
  case g22 => rw [regP_t hr_] at h20; simp at h20
  case g25 => rw [reg_store] at h24; simp at h24
  case g26 | g45 => (have h := C16l.conNav b t evil (by omega) (by decide); rw [hm_] at h; exact h)
  case g31 => rw [(ask_chk hy_).1] at h28; simp at h28
  case g35 => rw [(ask_chk (k := k) (ch := ch) hy_).2] at h34; simp at h34
  case g38 => rw [(ask_ok hy_).2.1] at h37; simp at h37
  case g41 => rw [regP_t hr_] at h39; simp at h39
  case g44 => rw [reg_store] at h43; simp at h43
theorem wpTTTT (W : World) (xs : List Int) (hx : xs.length ≤ 1048576) (ht : La.Pow W) (b : Fx.Browser) (t : Int) (z : ByteArray) (k ch : Int) (c : Bool) (hb : BrK b) (hl : b.Tabs.length ≤ 8) (hz : z.size ≤ 141) (k0 : -9223372036854775808 ≤ k) (k1 : k ≤ 9223372036854775807) (c0 : -9223372036854775808 ≤ ch) (c1 : ch ≤ 9223372036854775807) (hD : FnCon Tryz.prog 6 [(false, [numR 5 .u8 xs])] [(true, dasBrowser b), iV t, sV z, iV k, iV ch, bV c]) (hx_ : canB b t z = true) (hy_ : askB b t z c = true) (hr_ : regB b t z c = true) (hm_ : navB b t evil = true) : awp Tryz.prog (brC W b t z k ch c true true true true) (noLoops) (Tryz.f3.body.getD .skip) ⟨[.one (.old (numR 5 .u8 xs))] ++ List.replicate (Tryz.f3.ntmps - ([.one (.old (numR 5 .u8 xs))] : List AV).length) (.one (.val undef)), fun _ => .un⟩ (retK Tryz.prog Tryz.f3.results.toList [bV true]) := by
  have hh_ : ((FnCon Tryz.prog 5 [(false, [Da.row 5 1 xs.length fun i x => Da.val (Value.int IntKind.u8 (xs.getD i 0))])] [(false, [dB (false)])]) ∧ ((FnCon Tryz.prog 6 [(false, [Da.row 5 1 xs.length fun i x => Da.val (Value.int IntKind.u8 (xs.getD i 0))])] [(true, dasBrowser b), (false, [dI (t)]), (false, [dS (z)]), (false, [dI (k)]), (false, [dI (ch)]), (false, [dB (c)])]) ∧ ((Cust Tryz.prog (fun w => w = W) 50048 (opOf (Tryz.f3.body.getD Code.skip) 4 6) [AV.one (Sc.val (Value.func (Fn.func 7) { toList := [] } { toList := [] })), AV.agg [Sc.val (vI b.Store.Vendor), Sc.val (vI b.Store.Serial), Sc.val (vI b.Store.Seed), Sc.val (vI b.Store.Counter), Sc.own 40008, Sc.val (vI b.Asked)], AV.one (Sc.val (vI t)), AV.one (Sc.val (Value.string z)), AV.one (Sc.val (vI k)), AV.one (Sc.val (vI ch)), AV.one (Sc.val (Value.bool c))] [Ob.own (rowR 62 6 dasTab zTab b.Tabs)] { need := [], val := AV.tup [(true, [Sc.val (vI (askX b t z c).Store.Vendor), Sc.val (vI (askX b t z c).Store.Serial), Sc.val (vI (askX b t z c).Store.Seed), Sc.val (vI (askX b t z c).Store.Counter), Sc.own 50048, Sc.val (vI (askX b t z c).Asked)]), (true, [Sc.val (Value.string (askO b t z k ch c).Site), Sc.val (Value.string (askO b t z k ch c).Origin), Sc.val (vI (askO b t z k ch c).Challenge), Sc.val (vI (askO b t z k ch c).Handle), Sc.val (Value.bool (askO b t z k ch c).Present), Sc.val (vI (askO b t z k ch c).Counter), Sc.val (vI (askO b t z k ch c).Signature)]), (false, [Sc.val (Value.bool true)])], mem := [(50048, Ob.own (Da.row 62 6 (askX b t z c).Tabs.length fun i j => (dasTab ((askX b t z c).Tabs.getD i zTab)).getD j (Da.val undef)))] }) ∧ ((FnCon Tryz.prog 8 [(true, (dasBrowser b)), (false, [dI (t)]), (false, [dS (z)])] [(false, [dB (true)])]) ∧ bcase (!c) ((FnCon Tryz.prog 9 [(true, (dasBrowser b)), (false, [dI (t)]), (false, [dS (z)])] [(false, [dB (true)])]) ∧ (false = false ∧ (true = true ∧ (false = false ∧ ((!c) = true ∧ (false = false ∧ Value.bool false = Value.bool true)))))) (bcase ((askX b t z c).Asked != b.Asked) ((FnCon Tryz.prog 9 [(true, (dasBrowser b)), (false, [dI (t)]), (false, [dS (z)])] [(false, [dB (true)])]) ∧ (false = false ∧ (true = true ∧ (false = false ∧ ((!c) = false ∧ (((askX b t z c).Asked != b.Asked) = true ∧ bcase (C13.chkA (pubS b.Store z k) (askO b t z k ch c) z ch b.Store.Counter != 0) (true = true ∧ (FnCon Tryz.prog 11 [(true, [dI (b.Store.Vendor), dI (b.Store.Serial), dI (b.Store.Seed), dI (b.Store.Counter)]), (false, [dS (z)]), (false, [dI (k)])] [(false, [dI ((pubS b.Store z k))])] ∧ (FnCon Tryz.prog 10 [(false, [dI ((pubS b.Store z k))]), (true, (dasAssertion (askO b t z k ch c))), (false, [dS (z)]), (false, [dI (ch)]), (false, [dI (b.Store.Counter)])] [(false, [dI ((C13.chkA (pubS b.Store z k) (askO b t z k ch c) z ch b.Store.Counter))])] ∧ ((C13.chkA (pubS b.Store z k) (askO b t z k ch c) z ch b.Store.Counter != 0) = true ∧ (false = false ∧ Value.bool false = Value.bool true))))) (true = true ∧ (FnCon Tryz.prog 11 [(true, [dI (b.Store.Vendor), dI (b.Store.Serial), dI (b.Store.Seed), dI (b.Store.Counter)]), (false, [dS (z)]), (false, [dI (k)])] [(false, [dI ((pubS b.Store z k))])] ∧ (FnCon Tryz.prog 10 [(false, [dI ((pubS b.Store z k))]), (true, (dasAssertion (askO b t z k ch c))), (false, [dS (z)]), (false, [dI (ch)]), (false, [dI (b.Store.Counter)])] [(false, [dI ((C13.chkA (pubS b.Store z k) (askO b t z k ch c) z ch b.Store.Counter))])] ∧ ((C13.chkA (pubS b.Store z k) (askO b t z k ch c) z ch b.Store.Counter != 0) = false ∧ bcase ((askX b t z c).Store.Counter != IntKind.i64.wrap (b.Store.Counter + 1)) (false = false ∧ Value.bool false = Value.bool true) ((FnCon Tryz.prog 12 [(true, (dasBrowser b)), (false, [dI (t)]), (false, [dS (z)]), (false, [dI (k)]), (false, [dB (c)])] [(true, dasBrowser (regX b t z)), (false, [dI ((regP b t z k c))]), (false, [dB (true)])]) ∧ bcase (!c) (true = true ∧ (false = false ∧ ((!c) = true ∧ (true = true ∧ (false = false ∧ Value.bool false = Value.bool true))))) (bcase (regP b t z k c != pubS b.Store z k) (true = true ∧ (false = false ∧ ((!c) = false ∧ (FnCon Tryz.prog 11 [(true, [dI (b.Store.Vendor), dI (b.Store.Serial), dI (b.Store.Seed), dI (b.Store.Counter)]), (false, [dS (z)]), (false, [dI (k)])] [(false, [dI ((pubS b.Store z k))])] ∧ ((regP b t z k c != pubS b.Store z k) = true ∧ (false = false ∧ Value.bool false = Value.bool true)))))) (true = true ∧ (false = false ∧ ((!c) = false ∧ (FnCon Tryz.prog 11 [(true, [dI (b.Store.Vendor), dI (b.Store.Serial), dI (b.Store.Seed), dI (b.Store.Counter)]), (false, [dS (z)]), (false, [dI (k)])] [(false, [dI ((pubS b.Store z k))])] ∧ ((regP b t z k c != pubS b.Store z k) = false ∧ bcase (match
  match (regX b t z).Store.Vendor == b.Store.Vendor with
  | false => false
  | true =>
    match (regX b t z).Store.Serial == b.Store.Serial with
    | false => false
    | true =>
      match (regX b t z).Store.Seed == b.Store.Seed with
      | false => false
      | true =>
        match (regX b t z).Store.Counter == b.Store.Counter with
        | false => false
        | true => true with
| true => false
| false => true) (false = false ∧ Value.bool false = Value.bool true) ((FnCon Tryz.prog 13 [(true, (dasBrowser b)), (false, [dI (t)]), (true, [dB (true), dS ({ data := { toList := [101, 118, 105, 108, 46, 110, 101, 116] } }), dI (443)])] [(true, dasBrowser (navX b t { Secure := true, Host := { data := { toList := [101, 118, 105, 108, 46, 110, 101, 116] } }, Port := 443 })), (false, [dB (true)])]) ∧ (false = false ∧ ((FnCon Tryz.prog 8 [(true, [dI ((navX b t { Secure := true, Host := { data := { toList := [101, 118, 105, 108, 46, 110, 101, 116] } }, Port := 443 }).Store.Vendor), dI ((navX b t { Secure := true, Host := { data := { toList := [101, 118, 105, 108, 46, 110, 101, 116] } }, Port := 443 }).Store.Serial), dI ((navX b t { Secure := true, Host := { data := { toList := [101, 118, 105, 108, 46, 110, 101, 116] } }, Port := 443 }).Store.Seed), dI ((navX b t { Secure := true, Host := { data := { toList := [101, 118, 105, 108, 46, 110, 101, 116] } }, Port := 443 }).Store.Counter), Da.row 62 6 (navX b t { Secure := true, Host := { data := { toList := [101, 118, 105, 108, 46, 110, 101, 116] } }, Port := 443 }).Tabs.length fun i j => (dasTab ((navX b t { Secure := true, Host := { data := { toList := [101, 118, 105, 108, 46, 110, 101, 116] } }, Port := 443 }).Tabs.getD i zTab)).getD j (Da.val undef), dI ((navX b t { Secure := true, Host := { data := { toList := [101, 118, 105, 108, 46, 110, 101, 116] } }, Port := 443 }).Asked)]), (false, [dI (t)]), (false, [dS ({ data := { toList := [98, 97, 110, 107, 46, 99, 111, 109] } })])] [(false, [dB (false)])]) ∧ (true = true ∧ ((FnCon Tryz.prog 14 [(true, (dasBrowser b)), (true, (dasBrowser b))] [(false, [dB (true)])]) ∧ (true = true ∧ ((FnCon Tryz.prog 9 [(true, (dasBrowser b)), (false, [dI (t)]), (false, [dS (z)])] [(false, [dB (true)])]) ∧ (false = false ∧ Value.bool true = Value.bool true))))))))))))))))))))))))) ((FnCon Tryz.prog 9 [(true, (dasBrowser b)), (false, [dI (t)]), (false, [dS (z)])] [(false, [dB (true)])]) ∧ (false = false ∧ (true = true ∧ (false = false ∧ ((!c) = false ∧ (((askX b t z c).Asked != b.Asked) = false ∧ bcase (C13.chkA (pubS b.Store z k) (askO b t z k ch c) z ch b.Store.Counter != 0) (true = true ∧ (FnCon Tryz.prog 11 [(true, [dI (b.Store.Vendor), dI (b.Store.Serial), dI (b.Store.Seed), dI (b.Store.Counter)]), (false, [dS (z)]), (false, [dI (k)])] [(false, [dI ((pubS b.Store z k))])] ∧ (FnCon Tryz.prog 10 [(false, [dI ((pubS b.Store z k))]), (true, (dasAssertion (askO b t z k ch c))), (false, [dS (z)]), (false, [dI (ch)]), (false, [dI (b.Store.Counter)])] [(false, [dI ((C13.chkA (pubS b.Store z k) (askO b t z k ch c) z ch b.Store.Counter))])] ∧ ((C13.chkA (pubS b.Store z k) (askO b t z k ch c) z ch b.Store.Counter != 0) = true ∧ (false = false ∧ Value.bool false = Value.bool true))))) (true = true ∧ (FnCon Tryz.prog 11 [(true, [dI (b.Store.Vendor), dI (b.Store.Serial), dI (b.Store.Seed), dI (b.Store.Counter)]), (false, [dS (z)]), (false, [dI (k)])] [(false, [dI ((pubS b.Store z k))])] ∧ (FnCon Tryz.prog 10 [(false, [dI ((pubS b.Store z k))]), (true, (dasAssertion (askO b t z k ch c))), (false, [dS (z)]), (false, [dI (ch)]), (false, [dI (b.Store.Counter)])] [(false, [dI ((C13.chkA (pubS b.Store z k) (askO b t z k ch c) z ch b.Store.Counter))])] ∧ ((C13.chkA (pubS b.Store z k) (askO b t z k ch c) z ch b.Store.Counter != 0) = false ∧ bcase ((askX b t z c).Store.Counter != IntKind.i64.wrap (b.Store.Counter + 1)) (false = false ∧ Value.bool false = Value.bool true) ((FnCon Tryz.prog 12 [(true, (dasBrowser b)), (false, [dI (t)]), (false, [dS (z)]), (false, [dI (k)]), (false, [dB (c)])] [(true, dasBrowser (regX b t z)), (false, [dI ((regP b t z k c))]), (false, [dB (true)])]) ∧ bcase (!c) (true = true ∧ (false = false ∧ ((!c) = true ∧ (true = true ∧ (false = false ∧ Value.bool false = Value.bool true))))) (bcase (regP b t z k c != pubS b.Store z k) (true = true ∧ (false = false ∧ ((!c) = false ∧ (FnCon Tryz.prog 11 [(true, [dI (b.Store.Vendor), dI (b.Store.Serial), dI (b.Store.Seed), dI (b.Store.Counter)]), (false, [dS (z)]), (false, [dI (k)])] [(false, [dI ((pubS b.Store z k))])] ∧ ((regP b t z k c != pubS b.Store z k) = true ∧ (false = false ∧ Value.bool false = Value.bool true)))))) (true = true ∧ (false = false ∧ ((!c) = false ∧ (FnCon Tryz.prog 11 [(true, [dI (b.Store.Vendor), dI (b.Store.Serial), dI (b.Store.Seed), dI (b.Store.Counter)]), (false, [dS (z)]), (false, [dI (k)])] [(false, [dI ((pubS b.Store z k))])] ∧ ((regP b t z k c != pubS b.Store z k) = false ∧ bcase (match
  match (regX b t z).Store.Vendor == b.Store.Vendor with
  | false => false
  | true =>
    match (regX b t z).Store.Serial == b.Store.Serial with
    | false => false
    | true =>
      match (regX b t z).Store.Seed == b.Store.Seed with
      | false => false
      | true =>
        match (regX b t z).Store.Counter == b.Store.Counter with
        | false => false
        | true => true with
| true => false
| false => true) (false = false ∧ Value.bool false = Value.bool true) ((FnCon Tryz.prog 13 [(true, (dasBrowser b)), (false, [dI (t)]), (true, [dB (true), dS ({ data := { toList := [101, 118, 105, 108, 46, 110, 101, 116] } }), dI (443)])] [(true, dasBrowser (navX b t { Secure := true, Host := { data := { toList := [101, 118, 105, 108, 46, 110, 101, 116] } }, Port := 443 })), (false, [dB (true)])]) ∧ (false = false ∧ ((FnCon Tryz.prog 8 [(true, [dI ((navX b t { Secure := true, Host := { data := { toList := [101, 118, 105, 108, 46, 110, 101, 116] } }, Port := 443 }).Store.Vendor), dI ((navX b t { Secure := true, Host := { data := { toList := [101, 118, 105, 108, 46, 110, 101, 116] } }, Port := 443 }).Store.Serial), dI ((navX b t { Secure := true, Host := { data := { toList := [101, 118, 105, 108, 46, 110, 101, 116] } }, Port := 443 }).Store.Seed), dI ((navX b t { Secure := true, Host := { data := { toList := [101, 118, 105, 108, 46, 110, 101, 116] } }, Port := 443 }).Store.Counter), Da.row 62 6 (navX b t { Secure := true, Host := { data := { toList := [101, 118, 105, 108, 46, 110, 101, 116] } }, Port := 443 }).Tabs.length fun i j => (dasTab ((navX b t { Secure := true, Host := { data := { toList := [101, 118, 105, 108, 46, 110, 101, 116] } }, Port := 443 }).Tabs.getD i zTab)).getD j (Da.val undef), dI ((navX b t { Secure := true, Host := { data := { toList := [101, 118, 105, 108, 46, 110, 101, 116] } }, Port := 443 }).Asked)]), (false, [dI (t)]), (false, [dS ({ data := { toList := [98, 97, 110, 107, 46, 99, 111, 109] } })])] [(false, [dB (false)])]) ∧ (true = true ∧ ((FnCon Tryz.prog 14 [(true, (dasBrowser b)), (true, (dasBrowser b))] [(false, [dB (true)])]) ∧ (true = true ∧ ((FnCon Tryz.prog 9 [(true, (dasBrowser b)), (false, [dI (t)]), (false, [dS (z)])] [(false, [dB (true)])]) ∧ (false = false ∧ Value.bool true = Value.bool true)))))))))))))))))))))))))))))) = (awp Tryz.prog (brC W b t z k ch c true true true true) (noLoops) (Tryz.f3.body.getD .skip) ⟨[.one (.old (numR 5 .u8 xs))] ++ List.replicate (Tryz.f3.ntmps - ([.one (.old (numR 5 .u8 xs))] : List AV).length) (.one (.val undef)), fun _ => .un⟩ (retK Tryz.prog Tryz.f3.results.toList [bV true])) := by kernel_rfl
  rw [← hh_]
  clear hh_
  refine ⟨?g0, ?g1, ?g2, ?g3, bcase_intro (fun h4 => ⟨?g5, rfl, rfl, rfl, h4, rfl, congrArg _ ?g6⟩) (fun h4 => bcase_intro (fun h7 => ⟨?g8, rfl, rfl, rfl, h4, h7, bcase_intro (fun h9 => ⟨rfl, ?g10, ?g11, h9, rfl, congrArg _ ?g12⟩) (fun h9 => ⟨rfl, ?g13, ?g14, h9, bcase_intro (fun h15 => ⟨rfl, congrArg _ ?g16⟩) (fun h15 => ⟨?g17, bcase_intro (fun h18 => ⟨rfl, rfl, h18, rfl, rfl, congrArg _ ?g19⟩) (fun h18 => bcase_intro (fun h20 => ⟨rfl, rfl, h18, ?g21, h20, rfl, congrArg _ ?g22⟩) (fun h20 => ⟨rfl, rfl, h18, ?g23, h20, bcase_intro (fun h24 => ⟨rfl, congrArg _ ?g25⟩) (fun h24 => ⟨?g26, rfl, ?g27, rfl, ?g28, rfl, ?g29, rfl, rfl⟩)⟩))⟩)⟩)⟩) (fun h7 => ⟨?g30, rfl, rfl, rfl, h4, h7, bcase_intro (fun h31 => ⟨rfl, ?g32, ?g33, h31, rfl, congrArg _ ?g34⟩) (fun h31 => ⟨rfl, ?g35, ?g36, h31, bcase_intro (fun h37 => ⟨rfl, congrArg _ ?g38⟩) (fun h37 => ⟨?g39, bcase_intro (fun h40 => ⟨rfl, rfl, h40, rfl, rfl, congrArg _ ?g41⟩) (fun h40 => bcase_intro (fun h42 => ⟨rfl, rfl, h40, ?g43, h42, rfl, congrArg _ ?g44⟩) (fun h42 => ⟨rfl, rfl, h40, ?g45, h42, bcase_intro (fun h46 => ⟨rfl, congrArg _ ?g47⟩) (fun h46 => ⟨?g48, rfl, ?g49, rfl, ?g50, rfl, ?g51, rfl, rfl⟩)⟩))⟩)⟩)⟩))⟩
  case g0 => exact conBig xs hx
  case g1 => exact hD
  case g2 => exact cust_ask (gs := (grpNew 50048 [(true, dasBrowser (askX b t z c)), (true, dasAssertion (askO b t z k ch c)), bV true]).1) (m := (grpNew 50048 [(true, dasBrowser (askX b t z c)), (true, dasAssertion (askO b t z k ch c)), bV true]).2.1) (kk := (grpNew 50048 [(true, dasBrowser (askX b t z c)), (true, dasAssertion (askO b t z k ch c)), bV true]).2.2) rfl rfl rfl (fun _ h => h) (wt_small hb hl) (by omega) hb.st k0 k1 c0 c1 ht hy_ rfl (Nat.le_of_ble_eq_true rfl)
  case g3 => (have h := C16l.conCan b t z (by omega) (short_of hb) (by omega); rw [hx_] at h; exact h)
  case g5 | g8 | g29 | g30 | g51 => (have h := C16s.conCan b t z (by omega) (short_of hb) (by omega); rw [hx_] at h; exact h)
  case g6 => rw [(ask_ok hy_).2.1] at h4; simp at h4
  case g10 | g13 | g21 | g23 | g32 | g35 | g43 | g45 => exact C16c.sPub b.Store z k hb.st (by omega) k0 k1
  case g11 | g14 | g33 | g36 => exact conChk _ _ _ _ _ (ask_okX (by omega) ⟨k0, k1⟩ ⟨c0, c1⟩).ok (ask_okX (by omega) ⟨k0, k1⟩ ⟨c0, c1⟩).site (ask_okX (by omega) ⟨k0, k1⟩ ⟨c0, c1⟩).orig (by omega)
  case g12 => rw [(ask_chk hy_).1] at h9; simp at h9
  case g16 => rw [(ask_chk (k := k) (ch := ch) hy_).2] at h15; simp at h15
  case g17 | g39 => (have h := C16l.conReg b t z k c (by omega) (short_of hb) (by omega) hb.st k0 k1; rw [hr_] at h; exact h)
  case g19 => rw [(ask_ok hy_).2.1] at h18; simp at h18
  case g22 => rw [regP_t hr_] at h20; simp at h20
  case g25 => rw [reg_store] at h24; simp at h24
  case g26 | g48 => (have h := C16l.conNav b t evil (by omega) (by decide); rw [hm_] at h; exact h)
  case g27 | g49 => (have h := C16l.conCan (navX b t evil) t bank (by have := (BrK.nav hb t).2; omega) (short_of (BrK.nav hb t).1) (by decide); rw [nav_can (b := b) hm_] at h; exact h)
  case g28 | g50 => (have h := C16l.conEql b b (by omega) (by omega); rw [eql_self b] at h; exact h)
  case g34 => rw [(ask_chk hy_).1] at h31; simp at h31
  case g38 => rw [(ask_chk (k := k) (ch := ch) hy_).2] at h37; simp at h37
  case g41 => rw [(ask_ok hy_).2.1] at h40; simp at h40
  case g44 => rw [regP_t hr_] at h42; simp at h42
  case g47 => rw [reg_store] at h46; simp at h46
theorem law (W : World) (xs : List Int) (hx : xs.length ≤ 1048576) (ht : La.Pow W) (b : Fx.Browser) (t : Int) (z : ByteArray) (k ch : Int) (c : Bool) (hb : BrK b) (hl : b.Tabs.length ≤ 8) (hz : z.size ≤ 141) (k0 : -9223372036854775808 ≤ k) (k1 : k ≤ 9223372036854775807) (c0 : -9223372036854775808 ≤ ch) (c1 : ch ≤ 9223372036854775807) (hD : FnCon Tryz.prog 6 [(false, [numR 5 .u8 xs])] [(true, dasBrowser b), iV t, sV z, iV k, iV ch, bV c]) (v : Value) (hS : Shs W W.heap.size (numR 5 .u8 xs).dc v) : Calls Tryz.prog 3 #[v] W (Gives (.bool true) W) := by
  have hA : ∀ (i : Nat) (av : AV), ([.one (.old (numR 5 .u8 xs))] : List AV)[i]? = some av → ∃ u, [v][i]? = some u ∧ AvOK (fun _ => none) W av u := fun i av hi => by
    match i, hi with
    | 0, hi => cases hi; exact ⟨_, rfl, hS⟩
    | i + 1, hi => cases hi
  cases hx_ : canB b t z with
  | false =>
    have hy_ := ask_not (c := c) hx_
    have hr_ := regB_f1 (c := c) hx_
    cases hm_ : navB b t evil with
    | false => exact law_go (brC W b t z k ch c false false false false) E18.noLoops Tryz.func3 (by kernel_rfl) (by kernel_rfl) (wpFFFF W xs hx ht b t z k ch c hb hl hz k0 k1 c0 c1 hD hx_ hy_ hr_ hm_) rfl rfl hA
    | true => exact law_go (brC W b t z k ch c false false false true) E18.noLoops Tryz.func3 (by kernel_rfl) (by kernel_rfl) (wpFFFT W xs hx ht b t z k ch c hb hl hz k0 k1 c0 c1 hD hx_ hy_ hr_ hm_) rfl rfl hA
  | true =>
    cases hy_ : askB b t z c with
    | true =>
      have hr_ : regB b t z c = true := ask_reg hy_
      cases hm_ : navB b t evil with
      | false => exact law_go (brC W b t z k ch c true true true false) E18.noLoops Tryz.func3 (by kernel_rfl) (by kernel_rfl) (wpTTTF W xs hx ht b t z k ch c hb hl hz k0 k1 c0 c1 hD hx_ hy_ hr_ hm_) rfl rfl hA
      | true => exact law_go (brC W b t z k ch c true true true true) E18.noLoops Tryz.func3 (by kernel_rfl) (by kernel_rfl) (wpTTTT W xs hx ht b t z k ch c hb hl hz k0 k1 c0 c1 hD hx_ hy_ hr_ hm_) rfl rfl hA
    | false =>
      cases hr_ : regB b t z c with
      | false =>
        cases hm_ : navB b t evil with
        | false => exact law_go (brC W b t z k ch c true false false false) E18.noLoops Tryz.func3 (by kernel_rfl) (by kernel_rfl) (wpTFFF W xs hx ht b t z k ch c hb hl hz k0 k1 c0 c1 hD hx_ hy_ hr_ hm_) rfl rfl hA
        | true => exact law_go (brC W b t z k ch c true false false true) E18.noLoops Tryz.func3 (by kernel_rfl) (by kernel_rfl) (wpTFFT W xs hx ht b t z k ch c hb hl hz k0 k1 c0 c1 hD hx_ hy_ hr_ hm_) rfl rfl hA
      | true =>
        cases hm_ : navB b t evil with
        | false => exact law_go (brC W b t z k ch c true false true false) E18.noLoops Tryz.func3 (by kernel_rfl) (by kernel_rfl) (wpTFTF W xs hx ht b t z k ch c hb hl hz k0 k1 c0 c1 hD hx_ hy_ hr_ hm_) rfl rfl hA
        | true => exact law_go (brC W b t z k ch c true false true true) E18.noLoops Tryz.func3 (by kernel_rfl) (by kernel_rfl) (wpTFTT W xs hx ht b t z k ch c hb hl hz k0 k1 c0 c1 hD hx_ hy_ hr_ hm_) rfl rfl hA
end Go.Proofs.YtogoppknimpkbaaGreatDoor.L16b
