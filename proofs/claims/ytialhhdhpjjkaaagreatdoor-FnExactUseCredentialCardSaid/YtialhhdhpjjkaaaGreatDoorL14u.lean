import Derived.Test.YtialhhdhpjjkaaaGreatDoorC14u
import Derived.Test.YtialhhdhpjjkaaaGreatDoorC14x
import Derived.Test.YtialhhdhpjjkaaaGreatDoorE25
import Derived.Test.YtialhhdhpjjkaaaGreatDoorYAssertion
namespace Go.Proofs.YtialhhdhpjjkaaaGreatDoor.L14u
open Go.ChangeShapes Go.WideShapes Go.ChangeAt Go.RowKit
open S0 S1 S9 Dm Fx M8 M18 M19 C13 E0 E1 E2 E3 E4 E7 E10 E15 E16 E17 E18 E19 E20 E21 E22 E24 E25 Das C14u
set_option linter.unusedVariables false
set_option linter.unusedSimpArgs false
set_option maxRecDepth 100000
set_option maxHeartbeats 4000000
def szA (a : Fx.Account) (k : Int) : Int := if (wtL a.dcs : Int) ≤ k then k - wtL a.dcs else -1
def szX (x : Fx.Assertion) (k : Int) : Int := if (wtL x.dcs : Int) ≤ k then k - wtL x.dcs else -1
theorem szA_ok {a : Fx.Account} {k : Int} (h : decide (szA a k < 0) = false) : (wtL a.dcs : Int) ≤ k ∧ szA a k = k - wtL a.dcs := by
  have h := of_decide_eq_false h
  unfold szA at *
  by_cases hc : (wtL a.dcs : Int) ≤ k
  · rw [if_pos hc]; exact ⟨hc, rfl⟩
  · rw [if_neg hc] at h; omega
theorem szX_ok {x : Fx.Assertion} {k : Int} (h : decide (szX x k < 0) = false) : (wtL x.dcs : Int) ≤ k := by
  have h := of_decide_eq_false h
  unfold szX at *
  by_cases hc : (wtL x.dcs : Int) ≤ k
  · exact hc
  · rw [if_neg hc] at h; omega
noncomputable def exC (W : World) (a : Fx.Account) (x : Fx.Assertion) (z : ByteArray) (n : Int) : Orc := ⟨fun d _ _ => match d with | some 25 => some [iV (szA a 1048576)] | some 30 => some [iV (szX x (szA a 1048576))] | some 35 => some [(true, dasAccount a)] | some 37 => some [(true, dasAssertion x)] | some 40 => some [(true, dasAccount (useX a x z n)), iV (useR a x z n)] | some 44 => some [(true, dasAccount a)] | some 48 => some [(true, dasAssertion x)] | some 56 => some [bV true] | some 65 => some [(true, dasAccount a)] | some 66 => some [bV true] | some 76 => some [bV true] | some 97 => some [(true, dasAccount a)] | some 99 => some [(true, dasAssertion x)] | some 107 => some [bV true] | _ => none, fun id vs os => match id with | 130040 => some ⟨[], resAV (grpNew 130040 [(true, dasAccount (useX a x z n)), iV (useR a x z n)]).1, (grpNew 130040 [(true, dasAccount (useX a x z n)), iV (useR a x z n)]).2.1⟩ | 300048 => some ⟨[], resAV (grpNew 300048 [(true, dasAccount (useX a x z n)), iV (useR a x z n)]).1, (grpNew 300048 [(true, dasAccount (useX a x z n)), iV (useR a x z n)]).2.1⟩ | 190016 => (match vs with | [_, .agg [_, _, .own q], _] => some ⟨[], .one (.val (.int .i64 (1 + cntT a.dcs))), [(q, .abs (OwnAt W.heap.size (mk (CredentialsD a.Credentials) 1)))]⟩ | _ => none) | 230016 => (match vs with | [_, .agg [_, _, .own q], _] => some ⟨[], .one (.val (.int .i64 (1 + cntT (useX a x z n).dcs))), [(q, .abs (OwnAt W.heap.size (mk (CredentialsD (useX a x z n).Credentials) 1)))]⟩ | _ => none) | 250016 => some ⟨[], .one (.val (.int .i64 (1 + cntT (useX a x z n).dcs))), []⟩ | 340016 => some ⟨[], .one (.val (.int .i64 (1 + cntT (useX a x z n).dcs))), []⟩ | _ => none, fun w => w = W⟩
theorem conSzA (a : Fx.Account) (k : Int) (ho : a.ok) (h0 : 0 ≤ k) (h1 : k ≤ 1048576) : FnCon Tryz.prog 12 [(true, dasAccount a), iV k] [iV (szA a k)] :=
  con_of_plain (con_enters Tryz.func12 (by kernel_rfl) (by kernel_rfl)) rfl fun w v0 k0 => by
    obtain ⟨us, v2, rfl, k2, k3⟩ := of_aggA (dasAccount_dc a) k0
    obtain ⟨v3, rfl, k4⟩ := of_valA k3
    obtain rfl := of_nil k4
    exact Fx.szAccount w a us k k2 ho h0 h1
theorem conSzX (x : Fx.Assertion) (k : Int) (ho : x.ok) (h0 : 0 ≤ k) (h1 : k ≤ 1048576) : FnCon Tryz.prog 8 [(true, dasAssertion x), iV k] [iV (szX x k)] :=
  con_of_plain (con_enters Tryz.func8 (by kernel_rfl) (by kernel_rfl)) rfl fun w v0 k0 => by
    obtain ⟨us, v2, rfl, k2, k3⟩ := of_aggA (dasAssertion_dc x) k0
    obtain ⟨v3, rfl, k4⟩ := of_valA k3
    obtain rfl := of_nil k4
    exact Fx.szAssertion w x us k k2 ho h0 h1
theorem conToA (a : Fx.Account) (hw : wtL a.dcs ≤ 4294967296) : FnCon Tryz.prog 14 [(true, dasAccount a)] [(true, dasAccount a)] :=
  con_of_made (con_enters Tryz.func14 (by kernel_rfl) (by kernel_rfl)) (us := []) rfl (dasAccount_dc a) fun w v0 k0 => by
    obtain ⟨us, v2, rfl, k2, k3⟩ := of_aggA (dasAccount_dc a) k0
    obtain rfl := of_nil k3
    exact (Fx.toAccount w a us k2 hw).mono fun _ _ h => h
theorem conToX (x : Fx.Assertion) (hw : wtL x.dcs ≤ 4294967296) : FnCon Tryz.prog 10 [(true, dasAssertion x)] [(true, dasAssertion x)] :=
  con_of_made (con_enters Tryz.func10 (by kernel_rfl) (by kernel_rfl)) (us := []) rfl (dasAssertion_dc x) fun w v0 k0 => by
    obtain ⟨us, v2, rfl, k2, k3⟩ := of_aggA (dasAssertion_dc x) k0
    obtain rfl := of_nil k3
    exact (Fx.toAssertion w x us k2 hw).mono fun _ _ h => h
theorem conEqA (a : Fx.Account) (hw : wtL a.dcs ≤ 4294967296) : FnCon Tryz.prog 16 [(true, dasAccount a), (true, dasAccount a)] [bV true] :=
  con_of_plain (con_enters Tryz.func16 (by kernel_rfl) (by kernel_rfl)) rfl fun w v0 k0 => by
    obtain ⟨us, v2, rfl, k2, k3⟩ := of_aggA (dasAccount_dc a) k0
    obtain ⟨vs, v4, rfl, k4, k5⟩ := of_aggA (dasAccount_dc a) k3
    obtain rfl := of_nil k5
    exact Fx.eqAccount w a us vs k2 k4 hw
section
variable {old : World → Prop} {W : World} {id q : Nat} {o : Oper} {c : Call} {y : AV} {a : Fx.Account} {k : Int}
theorem cust_mark (ho : o.op = .call c) (hc : c.callee = .value (.func 17)) (hy : AvIds y = []) (hW : ∀ w, old w → w = W) (hw : wtL a.dcs ≤ 4294967296) (hk0 : 0 ≤ k) (hk1 : k + cntT a.dcs ≤ 1099511627776) :
    Cust Tryz.prog old id o [y, .agg [.val (.int .i64 (a).Id), .val (.int .i64 (a).Minimum), .own q], .one (.val (.int .i64 k))] [.own (rowR 86 4 dasCredential zCredential a.Credentials)] ⟨[], .one (.val (.int .i64 (k + cntT a.dcs))), [(q, .abs (OwnAt W.heap.size (mk (CredentialsD a.Credentials) k)))]⟩ :=
  cust_call (hlen := by rw [List.flatMap_cons, hy]; rfl) ho hc (con_enters Tryz.func17 (by kernel_rfl) (by kernel_rfl)) fun W0 obs ρ w args hold hm hv hos hun hne => by
    obtain rfl := hW _ hold
    obtain ⟨v1, s1, rfl, ⟨cs, rfl, u1, t1, rfl, rfl, u2, t2, rfl, rfl, u3, t3, rfl, k3, rfl⟩, v2, s2, rfl, rfl, rfl⟩ := hv
    have hq : obs q = .own (rowR 86 4 dasCredential zCredential a.Credentials) := by rw [List.flatMap_cons, hy] at hos; simpa [AvIds, ScIds] using hos
    obtain ⟨r, bs, hρ, hown⟩ := own_of hm hq
    obtain rfl := own_val (W0 := W0) k3 hρ
    rw [rowR_dc 86 zCredential Credential.len dasCredential_dc] at hown
    have hL : OwnsL w W0.heap.size a.dcs [.int .i64 a.Id, .int .i64 a.Minimum, u3] bs := by
      unfold Account.dcs
      simp only [OwnsL, Owns]
      exact ⟨_, _, [], bs, rfl, ⟨rfl, rfl⟩, ⟨_, _, [], bs, rfl, ⟨rfl, rfl⟩, ⟨_, _, bs, [], rfl, hown, ⟨rfl, rfl⟩, by simp⟩, by simp⟩, by simp⟩
    refine (Fx.markAccount w W0.heap.size a _ bs k hL (hm.nodup _ _ hρ) hw hk0 hk1).mono ?_
    rintro e w' ⟨rfl, hO, hT⟩
    rw [mkT_Account] at hO
    simp only [OwnsL] at hO
    obtain ⟨_, _, b1, b2, e1, h1, ⟨_, _, b3, b4, e2, h2, ⟨_, _, b5, b6, e3, h3, ⟨e4, rfl⟩, rfl⟩, rfl⟩, eb⟩ := hO
    simp only [Owns] at h1 h2
    obtain ⟨rfl, rfl⟩ := h1
    obtain ⟨rfl, rfl⟩ := h2
    injection e1 with _ e1
    subst e1
    injection e2 with _ e2
    subst e2
    injection e3 with e3 e5
    subst e3
    have eb : bs = b5 := by simpa using eb
    subst eb
    exact ⟨_, rfl, post_turn hm hρ hT (ob_abs ⟨h3⟩ (fun b hb => ⟨(hm.in_ hρ b hb).1, Nat.lt_of_lt_of_le (hm.in_ hρ b hb).2 hT.2.2.2.1⟩) (OwnAt.firm _ _)) (fun _ _ => rfl)⟩
theorem cust_held (ho : o.op = .call c) (hc : c.callee = .value (.func 18)) (hy : AvIds y = []) (hw : wtL a.dcs ≤ 4294967296) (hk0 : 0 ≤ k) (hk1 : k + cntT a.dcs ≤ 1099511627776) :
    Cust Tryz.prog old id o [y, .agg [.val (.int .i64 (a).Id), .val (.int .i64 (a).Minimum), .own q], .one (.val (.int .i64 k))] [.abs (OwnAt W.heap.size (mk (CredentialsD a.Credentials) k))] ⟨[], .one (.val (.int .i64 (k + cntT a.dcs))), []⟩ :=
  cust_call (hlen := by rw [List.flatMap_cons, hy]; rfl) ho hc (con_enters Tryz.func18 (by kernel_rfl) (by kernel_rfl)) fun W0 obs ρ w args hold hm hv hos hun hne => by
    obtain ⟨v1, s1, rfl, ⟨cs, rfl, u1, t1, rfl, rfl, u2, t2, rfl, rfl, u3, t3, rfl, k3, rfl⟩, v2, s2, rfl, rfl, rfl⟩ := hv
    have hq : obs q = .abs (OwnAt W.heap.size (mk (CredentialsD a.Credentials) k)) := by rw [List.flatMap_cons, hy] at hos; simpa [AvIds, ScIds] using hos
    obtain ⟨r, bs, hρ, hφ, _⟩ := abs_of hm hq
    obtain rfl := own_val (W0 := W0) k3 hρ
    have hR : RdsL w w.heap.size (mkT a.dcs k) [.int .i64 a.Id, .int .i64 a.Minimum, u3] := by
      rw [mkT_Account]
      simp only [RdsL]
      exact ⟨_, _, rfl, (by simp only [Rds]), ⟨_, _, rfl, (by simp only [Rds]), ⟨_, _, rfl, owns_rds _ _ _ hφ.is, rfl⟩⟩⟩
    refine (Fx.heldAccount w a _ k hR hw hk0 hk1).mono ?_
    rintro e w' ⟨rfl, hb⟩
    exact ⟨_, rfl, post_same hm hb rfl⟩
theorem cust_use {x : Fx.Assertion} {z : ByteArray} {n : Int} {gs : List (Bool × List Sc)} {m : List (Nat × Ob)} {kk : Nat} (ho : o.op = .call c) (hc : c.callee = .value (.func 15)) (hy : AvIds y = []) (hW : ∀ w, old w → w = W) (hn : a.Credentials.length ≤ 16000000) (hx : x.ok) (hs : x.Site.size ≤ 16000000) (hs2 : x.Origin.size ≤ 16000000) (hz : z.size ≤ 16000000) (hok : ∀ y ∈ a.Credentials, Credential.ok y) (ht : La.Pow W) (he : As.Er W)
    (hg : grpNew id [(true, dasAccount (useX a x z n)), iV (useR a x z n)] = (gs, m, kk)) (hkk : kk ≤ id + 8) :
    Cust Tryz.prog old id o [y, .agg [.val (.int .i64 (a).Id), .val (.int .i64 (a).Minimum), .own q], .agg [.val (.string x.Site), .val (.string x.Origin), .val (.int .i64 x.Challenge), .val (.int .i64 x.Handle), .val (.bool x.Present), .val (.int .i64 x.Counter), .val (.int .i64 x.Signature)], .one (.val (.string z)), .one (.val (.int .i64 n))] [.own (rowR 86 4 dasCredential zCredential a.Credentials)] ⟨[], resAV gs, m⟩ :=
  cust_on (ags := [(true, dasAccount a), (true, dasAssertion x), (false, [.val (.string z)]), iV n]) ho hc (con_enters Tryz.func15 (by kernel_rfl) (by kernel_rfl)) (fun obs hob => by
    have hq : obs q = .own (rowR 86 4 dasCredential zCredential a.Credentials) := by
      have h2 := named_one hob (by rw [List.flatMap_cons, hy]; rfl)
      rw [List.flatMap_cons, hy] at h2
      simpa [AvIds, ScIds] using h2
    show avsDa obs [.agg [.val (.int .i64 (a).Id), .val (.int .i64 (a).Minimum), .own q], .agg [.val (.string x.Site), .val (.string x.Origin), .val (.int .i64 x.Challenge), .val (.int .i64 x.Handle), .val (.bool x.Present), .val (.int .i64 x.Counter), .val (.int .i64 x.Signature)], .one (.val (.string z)), .one (.val (.int .i64 n))] = _
    simp [avsDa, avDa, csDa, scDa, hq, dasAccount, dasAssertion]) hg hkk fun W0 w hold hb args hargs => by
    obtain rfl := hW _ hold
    obtain ⟨us, v1, rfl, h1, k1⟩ := arg_open (dasAccount_dc a) hargs
    obtain ⟨vs, v2, rfl, h2, k2⟩ := of_aggA (dasAssertion_dc x) k1
    obtain ⟨v3, rfl, k3⟩ := of_valA k2
    obtain ⟨v4, rfl, k4⟩ := of_valA k3
    obtain rfl := of_nil k4
    exact (implUse w a x z n us vs h1 h2 hn hx hs hs2 hz hok (ht.stays hb) (he.stays hb)).mono fun _ _ h => made_res (us := [.int .i64 (useR a x z n)]) rfl (dasAccount_dc _) h
end
theorem wpLaw (W : World) (a : Fx.Account) (x : Fx.Assertion) (z : ByteArray) (n : Int) (hao : a.ok) (hxo : x.ok) (hz : z.size ≤ 9223372036854775807) (ht : La.Pow W) (he : As.Er W) : awp Tryz.prog (exC W a x z n) (noLoops) (Tryz.f4.body.getD .skip) ⟨[.agg [.val (.int .i64 (a).Id), .val (.int .i64 (a).Minimum), .old (rowR 86 4 dasCredential zCredential a.Credentials)], .agg [.val (.string x.Site), .val (.string x.Origin), .val (.int .i64 x.Challenge), .val (.int .i64 x.Handle), .val (.bool x.Present), .val (.int .i64 x.Counter), .val (.int .i64 x.Signature)], .one (.val (.string z)), .one (.val (.int .i64 n))] ++ List.replicate (Tryz.f4.ntmps - ([.agg [.val (.int .i64 (a).Id), .val (.int .i64 (a).Minimum), .old (rowR 86 4 dasCredential zCredential a.Credentials)], .agg [.val (.string x.Site), .val (.string x.Origin), .val (.int .i64 x.Challenge), .val (.int .i64 x.Handle), .val (.bool x.Present), .val (.int .i64 x.Counter), .val (.int .i64 x.Signature)], .one (.val (.string z)), .one (.val (.int .i64 n))] : List AV).length) (.one (.val undef)), fun _ => .un⟩ (retK Tryz.prog Tryz.f4.results.toList [bV true]) := by
  have hh_ : bcase (decide ((↑z.size : Int) > 1048576)) (false = false ∧ Value.bool true = Value.bool true) ((FnCon Tryz.prog 12 [(true, dasAccount a), (false, [dI (1048576)])] [(false, [dI ((szA a 1048576))])]) ∧ bcase (decide (szA a 1048576 < 0)) (false = false ∧ Value.bool true = Value.bool true) (FnCon Tryz.prog 8 [(true, dasAssertion x), (false, [dI ((szA a 1048576))])] [(false, [dI ((szX x (szA a 1048576)))])] ∧ bcase (decide (szX x (szA a 1048576) < 0)) (false = false ∧ Value.bool true = Value.bool true) ((FnCon Tryz.prog 14 [(true, dasAccount a)] [(true, dasAccount a)]) ∧ (FnCon Tryz.prog 10 [(true, dasAssertion x)] [(true, dasAssertion x)] ∧ ((FnCon Tryz.prog 13 [(true, dasAccount a), (true, dasAssertion x), (false, [dS (z)]), (false, [dI (n)])] [(true, dasAccount (useX a x z n)), (false, [dI ((useR a x z n))])]) ∧ ((FnCon Tryz.prog 14 [(true, dasAccount a)] [(true, dasAccount a)]) ∧ (FnCon Tryz.prog 10 [(true, dasAssertion x)] [(true, dasAssertion x)] ∧ ((Cust Tryz.prog (fun w => w = W) 130040 (opOf (Tryz.f4.body.getD Code.skip) 12 5) [AV.one (Sc.val (Value.func (Fn.func 15) { toList := [] } { toList := [] })), AV.agg [Sc.val (vI a.Id), Sc.val (vI a.Minimum), Sc.own 120008], AV.agg [Sc.val (Value.string x.Site), Sc.val (Value.string x.Origin), Sc.val (vI x.Challenge), Sc.val (vI x.Handle), Sc.val (Value.bool x.Present), Sc.val (vI x.Counter), Sc.val (vI x.Signature)], AV.one (Sc.val (Value.string z)), AV.one (Sc.val (vI n))] [Ob.own (rowR 86 4 dasCredential zCredential a.Credentials)] { need := [], val := AV.tup [(true, [Sc.val (vI (useX a x z n).Id), Sc.val (vI (useX a x z n).Minimum), Sc.own 130040]), (false, [Sc.val (vI (useR a x z n))])], mem := [(130040, Ob.own (Da.row 86 4 (useX a x z n).Credentials.length fun i j => (dasCredential ((useX a x z n).Credentials.getD i zCredential)).getD j (Da.val undef)))] }) ∧ ((FnCon Tryz.prog 16 [(true, [dI ((useX a x z n).Id), dI ((useX a x z n).Minimum), Da.row 86 4 (useX a x z n).Credentials.length fun i j => (dasCredential ((useX a x z n).Credentials.getD i zCredential)).getD j (Da.val undef)]), (true, [dI ((useX a x z n).Id), dI ((useX a x z n).Minimum), Da.row 86 4 (useX a x z n).Credentials.length fun i j => (dasCredential ((useX a x z n).Credentials.getD i zCredential)).getD j (Da.val undef)])] [(false, [dB (true)])]) ∧ (false = false ∧ bcase (useR a x z n != useR a x z n) (false = false ∧ Value.bool false = Value.bool true) ((FnCon Tryz.prog 14 [(true, dasAccount a)] [(true, dasAccount a)]) ∧ ((FnCon Tryz.prog 16 [(true, dasAccount a), (true, dasAccount a)] [(false, [dB (true)])]) ∧ ((Cust Tryz.prog (fun w => w = W) 190016 (opOf (Tryz.f4.body.getD Code.skip) 18 2) [AV.one (Sc.val (Value.func (Fn.func 17) { toList := [] } { toList := [] })), AV.agg [Sc.val (vI a.Id), Sc.val (vI a.Minimum), Sc.own 120008], AV.one (Sc.val (vI 1))] [Ob.own (rowR 86 4 dasCredential zCredential a.Credentials)] { need := [], val := AV.one (Sc.val (vI (1 + (↑(cntT a.dcs) : Int)))), mem := [(120008, Ob.abs (OwnAt W.heap.1.length (mk (CredentialsD a.Credentials) 1)))] }) ∧ (decide (1 + (↑(cntT a.dcs) : Int) < 0) = false ∧ ((FnCon Tryz.prog 16 [(true, [dI ((useX a x z n).Id), dI ((useX a x z n).Minimum), Da.row 86 4 (useX a x z n).Credentials.length fun i j => (dasCredential ((useX a x z n).Credentials.getD i zCredential)).getD j (Da.val undef)]), (true, [dI ((useX a x z n).Id), dI ((useX a x z n).Minimum), Da.row 86 4 (useX a x z n).Credentials.length fun i j => (dasCredential ((useX a x z n).Credentials.getD i zCredential)).getD j (Da.val undef)])] [(false, [dB (true)])]) ∧ (false = false ∧ bcase (useR a x z n != useR a x z n) (false = false ∧ Value.bool false = Value.bool true) ((Cust Tryz.prog (fun w => w = W) 230016 (opOf (Tryz.f4.body.getD Code.skip) 22 2) [AV.one (Sc.val (Value.func (Fn.func 17) { toList := [] } { toList := [] })), AV.agg [Sc.val (vI (useX a x z n).Id), Sc.val (vI (useX a x z n).Minimum), Sc.own 130040], AV.one (Sc.val (vI 1))] [Ob.own (Da.row 86 4 (useX a x z n).Credentials.length fun i j => (dasCredential ((useX a x z n).Credentials.getD i zCredential)).getD j (Da.val undef))] { need := [], val := AV.one (Sc.val (vI (1 + (↑(cntT (useX a x z n).dcs) : Int)))), mem := [(130040, Ob.abs (OwnAt W.heap.1.length (mk (CredentialsD (useX a x z n).Credentials) 1)))] }) ∧ ((Cust Tryz.prog (fun w => w = W) 250016 (opOf (Tryz.f4.body.getD Code.skip) 24 2) [AV.one (Sc.val (Value.func (Fn.func 18) { toList := [] } { toList := [] })), AV.agg [Sc.val (vI (useX a x z n).Id), Sc.val (vI (useX a x z n).Minimum), Sc.own 130040], AV.one (Sc.val (vI 1))] [Ob.abs (OwnAt W.heap.1.length (mk (CredentialsD (useX a x z n).Credentials) 1))] { need := [], val := AV.one (Sc.val (vI (1 + (↑(cntT (useX a x z n).dcs) : Int)))), mem := [] }) ∧ bcase (1 + (↑(cntT (useX a x z n).dcs) : Int) != 1 + (↑(cntT (useX a x z n).dcs) : Int)) (false = false ∧ Value.bool false = Value.bool true) ((FnCon Tryz.prog 14 [(true, dasAccount a)] [(true, dasAccount a)]) ∧ (FnCon Tryz.prog 10 [(true, dasAssertion x)] [(true, dasAssertion x)] ∧ ((Cust Tryz.prog (fun w => w = W) 300048 (opOf (Tryz.f4.body.getD Code.skip) 29 6) [AV.one (Sc.val (Value.func (Fn.func 15) { toList := [] } { toList := [] })), AV.agg [Sc.val (vI a.Id), Sc.val (vI a.Minimum), Sc.own 300008], AV.agg [Sc.val (Value.string x.Site), Sc.val (Value.string x.Origin), Sc.val (vI x.Challenge), Sc.val (vI x.Handle), Sc.val (Value.bool x.Present), Sc.val (vI x.Counter), Sc.val (vI x.Signature)], AV.one (Sc.val (Value.string z)), AV.one (Sc.val (vI n))] [Ob.own (rowR 86 4 dasCredential zCredential a.Credentials)] { need := [], val := AV.tup [(true, [Sc.val (vI (useX a x z n).Id), Sc.val (vI (useX a x z n).Minimum), Sc.own 300048]), (false, [Sc.val (vI (useR a x z n))])], mem := [(300048, Ob.own (Da.row 86 4 (useX a x z n).Credentials.length fun i j => (dasCredential ((useX a x z n).Credentials.getD i zCredential)).getD j (Da.val undef)))] }) ∧ ((FnCon Tryz.prog 16 [(true, [dI ((useX a x z n).Id), dI ((useX a x z n).Minimum), Da.row 86 4 (useX a x z n).Credentials.length fun i j => (dasCredential ((useX a x z n).Credentials.getD i zCredential)).getD j (Da.val undef)]), (true, [dI ((useX a x z n).Id), dI ((useX a x z n).Minimum), Da.row 86 4 (useX a x z n).Credentials.length fun i j => (dasCredential ((useX a x z n).Credentials.getD i zCredential)).getD j (Da.val undef)])] [(false, [dB (true)])]) ∧ (false = false ∧ bcase (useR a x z n != useR a x z n) (false = false ∧ Value.bool false = Value.bool true) ((Cust Tryz.prog (fun w => w = W) 340016 (opOf (Tryz.f4.body.getD Code.skip) 33 2) [AV.one (Sc.val (Value.func (Fn.func 18) { toList := [] } { toList := [] })), AV.agg [Sc.val (vI (useX a x z n).Id), Sc.val (vI (useX a x z n).Minimum), Sc.own 130040], AV.one (Sc.val (vI 1))] [Ob.abs (OwnAt W.heap.1.length (mk (CredentialsD (useX a x z n).Credentials) 1))] { need := [], val := AV.one (Sc.val (vI (1 + (↑(cntT (useX a x z n).dcs) : Int)))), mem := [] }) ∧ bcase (1 + (↑(cntT (useX a x z n).dcs) : Int) != 1 + (↑(cntT (useX a x z n).dcs) : Int)) (false = false ∧ Value.bool false = Value.bool true) (false = false ∧ Value.bool true = Value.bool true))))))))))))))))))))))))) = (awp Tryz.prog (exC W a x z n) (noLoops) (Tryz.f4.body.getD .skip) ⟨[.agg [.val (.int .i64 (a).Id), .val (.int .i64 (a).Minimum), .old (rowR 86 4 dasCredential zCredential a.Credentials)], .agg [.val (.string x.Site), .val (.string x.Origin), .val (.int .i64 x.Challenge), .val (.int .i64 x.Handle), .val (.bool x.Present), .val (.int .i64 x.Counter), .val (.int .i64 x.Signature)], .one (.val (.string z)), .one (.val (.int .i64 n))] ++ List.replicate (Tryz.f4.ntmps - ([.agg [.val (.int .i64 (a).Id), .val (.int .i64 (a).Minimum), .old (rowR 86 4 dasCredential zCredential a.Credentials)], .agg [.val (.string x.Site), .val (.string x.Origin), .val (.int .i64 x.Challenge), .val (.int .i64 x.Handle), .val (.bool x.Present), .val (.int .i64 x.Counter), .val (.int .i64 x.Signature)], .one (.val (.string z)), .one (.val (.int .i64 n))] : List AV).length) (.one (.val undef)), fun _ => .un⟩ (retK Tryz.prog Tryz.f4.results.toList [bV true])) := by kernel_rfl
  rw [← hh_]
  clear hh_
  refine bcase_intro (fun h0 => ⟨rfl, rfl⟩) (fun h0 => ⟨?g1, bcase_intro (fun h2 => ⟨rfl, rfl⟩) (fun h2 => ⟨?g3, bcase_intro (fun h4 => ⟨rfl, rfl⟩) (fun h4 => ⟨?g5, ?g6, ?g7, ?g8, ?g9, ?g10, ?g11, rfl, bcase_intro (fun h12 => ⟨rfl, congrArg _ ?g13⟩) (fun h12 => ⟨?g14, ?g15, ?g16, ?g17, ?g18, rfl, bcase_intro (fun h19 => ⟨rfl, congrArg _ ?g20⟩) (fun h19 => ⟨?g21, ?g22, bcase_intro (fun h23 => ⟨rfl, congrArg _ ?g24⟩) (fun h23 => ⟨?g25, ?g26, ?g27, ?g28, rfl, bcase_intro (fun h29 => ⟨rfl, congrArg _ ?g30⟩) (fun h29 => ⟨?g31, bcase_intro (fun h32 => ⟨rfl, congrArg _ ?g33⟩) (fun h32 => ⟨rfl, rfl⟩)⟩)⟩)⟩)⟩)⟩)⟩)⟩)
  case g1 => exact conSzA a 1048576 hao (by omega) (by omega)
  all_goals
    obtain ⟨hwa, hsa⟩ := szA_ok h2
    have q1 := Fx.Account.wt a
    have q2 := Fx.cntTb_Account a
    have q3 := C14x.cr_wt a.Credentials
    have q4 := Fx.Account.wt (useX a x z n)
    have q5 := Fx.cntTb_Account (useX a x z n)
    have q6 := C14x.cr_wt (useX a x z n).Credentials
    have q7 := M19.use_len a x z n
    have q8 := Fx.Assertion.wt x
    have h0 := of_decide_eq_false h0
  case g3 => exact conSzX x _ hxo (by omega) (by omega)
  all_goals
    have hwx := szX_ok h4
  case g5 | g8 | g14 | g25 => exact conToA a (by omega)
  case g6 | g9 | g26 => exact conToX x (by omega)
  case g7 => exact conUseS a x z n (by omega) hxo (by omega) (by omega) (by omega)
  case g10 => exact cust_use (gs := (grpNew 130040 [(true, dasAccount (useX a x z n)), iV (useR a x z n)]).1) (m := (grpNew 130040 [(true, dasAccount (useX a x z n)), iV (useR a x z n)]).2.1) (kk := (grpNew 130040 [(true, dasAccount (useX a x z n)), iV (useR a x z n)]).2.2) rfl rfl rfl (fun _ h => h) (by omega) hxo (by omega) (by omega) (by omega) hao.Credentials ht he rfl (Nat.le_of_ble_eq_true rfl)
  case g27 => exact cust_use (gs := (grpNew 300048 [(true, dasAccount (useX a x z n)), iV (useR a x z n)]).1) (m := (grpNew 300048 [(true, dasAccount (useX a x z n)), iV (useR a x z n)]).2.1) (kk := (grpNew 300048 [(true, dasAccount (useX a x z n)), iV (useR a x z n)]).2.2) rfl rfl rfl (fun _ h => h) (by omega) hxo (by omega) (by omega) (by omega) hao.Credentials ht he rfl (Nat.le_of_ble_eq_true rfl)
  case g11 | g18 | g28 => exact conEqA (useX a x z n) (by omega)
  case g15 => exact conEqA a (by omega)
  case g16 => exact cust_mark (a := a) rfl rfl rfl (fun _ h => h) (by omega) (by omega) (by omega)
  case g17 => exact decide_eq_false (by omega)
  case g21 => exact cust_mark (a := (useX a x z n)) rfl rfl rfl (fun _ h => h) (by omega) (by omega) (by omega)
  case g22 | g31 => exact cust_held (a := (useX a x z n)) rfl rfl rfl (by omega) (by omega) (by omega)
  case g13 => simp at h12
  case g20 => simp at h19
  case g24 => simp at h23
  case g30 => simp at h29
  case g33 => simp at h32
end Go.Proofs.YtialhhdhpjjkaaaGreatDoor.L14u
