import Derived.Test.YtogoppknimpkbaaC16x
import Derived.Test.YtogoppknimpkbaaE25
namespace Go.Proofs.Ytogoppknimpkbaa.L16x
open Go.ChangeShapes Go.WideShapes Go.ChangeAt Go.RowKit
open S0 S1 S9 Dm Fx M3 M8 M12 M13 M24 C16x E0 E1 E2 E3 E4 E7 E10 E15 E16 E17 E18 E19 E20 E21 E22 E24 E25 Das
set_option linter.unusedVariables false
set_option linter.unusedSimpArgs false
set_option maxRecDepth 100000
set_option maxHeartbeats 4000000
def szB (b : Fx.Browser) (k : Int) : Int := if (wtL b.dcs : Int) ≤ k then k - wtL b.dcs else -1
def szO (o : Fx.Origin) (k : Int) : Int := if (wtL o.dcs : Int) ≤ k then k - wtL o.dcs else -1
theorem szB_ok {b : Fx.Browser} {k : Int} (h : decide (szB b k < 0) = false) : (wtL b.dcs : Int) ≤ k ∧ szB b k = k - wtL b.dcs := by
  have h := of_decide_eq_false h
  unfold szB at *
  by_cases hc : (wtL b.dcs : Int) ≤ k
  · rw [if_pos hc]; exact ⟨hc, rfl⟩
  · rw [if_neg hc] at h; omega
theorem szO_ok {o : Fx.Origin} {k : Int} (h : decide (szO o k < 0) = false) : (wtL o.dcs : Int) ≤ k ∧ szO o k = k - wtL o.dcs := by
  have h := of_decide_eq_false h
  unfold szO at *
  by_cases hc : (wtL o.dcs : Int) ≤ k
  · rw [if_pos hc]; exact ⟨hc, rfl⟩
  · rw [if_neg hc] at h; omega
theorem conSzB (b : Fx.Browser) (k : Int) (ho : b.ok) (h0 : 0 ≤ k) (h1 : k ≤ 1048576) : FnCon Try.prog 10 [(true, dasBrowser b), iV k] [iV (szB b k)] :=
  con_of_plain (con_enters Try.func10 (by kernel_rfl) (by kernel_rfl)) rfl fun w v0 k0 => by
    obtain ⟨us, v2, rfl, k2, k3⟩ := of_aggA (dasBrowser_dc b) k0
    obtain ⟨v3, rfl, k4⟩ := of_valA k3
    obtain rfl := of_nil k4
    exact Fx.szBrowser w b us k k2 ho h0 h1
theorem conSzO (o : Fx.Origin) (k : Int) (ho : o.ok) (h0 : 0 ≤ k) (h1 : k ≤ 1048576) : FnCon Try.prog 11 [(true, dasOrigin o), iV k] [iV (szO o k)] :=
  con_of_plain (con_enters Try.func11 (by kernel_rfl) (by kernel_rfl)) rfl fun w v0 k0 => by
    obtain ⟨us, v2, rfl, k2, k3⟩ := of_aggA (dasOrigin_dc o) k0
    obtain ⟨v3, rfl, k4⟩ := of_valA k3
    obtain rfl := of_nil k4
    exact Fx.szOrigin w o us k k2 ho h0 h1
theorem conToB (b : Fx.Browser) (hw : wtL b.dcs ≤ 4294967296) : FnCon Try.prog 13 [(true, dasBrowser b)] [(true, dasBrowser b)] :=
  con_of_made (con_enters Try.func13 (by kernel_rfl) (by kernel_rfl)) (us := []) rfl (dasBrowser_dc b) fun w v0 k0 => by
    obtain ⟨us, v2, rfl, k2, k3⟩ := of_aggA (dasBrowser_dc b) k0
    obtain rfl := of_nil k3
    exact (Fx.toBrowser w b us k2 hw).mono fun _ _ h => h
theorem conToO (o : Fx.Origin) (hw : wtL o.dcs ≤ 4294967296) : FnCon Try.prog 14 [(true, dasOrigin o)] [(true, dasOrigin o)] :=
  con_of_made (con_enters Try.func14 (by kernel_rfl) (by kernel_rfl)) (us := []) rfl (dasOrigin_dc o) fun w v0 k0 => by
    obtain ⟨us, v2, rfl, k2, k3⟩ := of_aggA (dasOrigin_dc o) k0
    obtain rfl := of_nil k3
    exact (Fx.toOrigin w o us k2 hw).mono fun _ _ h => h
theorem conEqB (b : Fx.Browser) (hw : wtL b.dcs ≤ 4294967296) : FnCon Try.prog 16 [(true, dasBrowser b), (true, dasBrowser b)] [bV true] :=
  con_of_plain (con_enters Try.func16 (by kernel_rfl) (by kernel_rfl)) rfl fun w v0 k0 => by
    obtain ⟨us, v2, rfl, k2, k3⟩ := of_aggA (dasBrowser_dc b) k0
    obtain ⟨vs, v4, rfl, k4, k5⟩ := of_aggA (dasBrowser_dc b) k3
    obtain rfl := of_nil k5
    exact Fx.eqBrowser w b us vs k2 k4 hw
section
variable {old : World → Prop} {W : World} {id q : Nat} {o : Oper} {c : Call} {y : AV} {a : Fx.Browser} {k : Int}
theorem cust_mark (ho : o.op = .call c) (hc : c.callee = .value (.func 17)) (hy : AvIds y = []) (hW : ∀ w, old w → w = W) (hw : wtL a.dcs ≤ 4294967296) (hk0 : 0 ≤ k) (hk1 : k + cntT a.dcs ≤ 1099511627776) :
    Cust Try.prog old id o [y, .agg [.val (.int .i64 (a).Store.Vendor), .val (.int .i64 (a).Store.Serial), .val (.int .i64 (a).Store.Seed), .val (.int .i64 (a).Store.Counter), .own q, .val (.int .i64 (a).Asked)], .one (.val (.int .i64 k))] [.own (rowR 59 6 dasTab zTab a.Tabs)] ⟨[], .one (.val (.int .i64 (k + cntT a.dcs))), [(q, .abs (OwnAt W.heap.size (mk (TabsD a.Tabs) k)))]⟩ :=
  cust_call (hlen := by rw [List.flatMap_cons, hy]; rfl) ho hc (con_enters Try.func17 (by kernel_rfl) (by kernel_rfl)) fun W0 obs ρ w args hold hm hv hos hun hne => by
    obtain rfl := hW _ hold
    obtain ⟨v1, s1, rfl, ⟨cs, rfl, u1, t1, rfl, rfl, u2, t2, rfl, rfl, u3, t3, rfl, rfl, u4, t4, rfl, rfl, u5, t5, rfl, k5, u6, t6, rfl, rfl, rfl⟩, v2, s2, rfl, rfl, rfl⟩ := hv
    have hq : obs q = .own (rowR 59 6 dasTab zTab a.Tabs) := by rw [List.flatMap_cons, hy] at hos; simpa [AvIds, ScIds] using hos
    obtain ⟨r, bs, hρ, hown⟩ := own_of hm hq
    obtain rfl := own_val (W0 := W0) k5 hρ
    rw [rowR_dc 59 zTab Tab.len dasTab_dc] at hown
    have hL : OwnsL w W0.heap.size a.dcs [.int .i64 a.Store.Vendor, .int .i64 a.Store.Serial, .int .i64 a.Store.Seed, .int .i64 a.Store.Counter, u5, .int .i64 a.Asked] bs := by
      unfold Browser.dcs
      simp only [OwnsL, Owns]
      exact ⟨_, _, [], bs, rfl, ⟨rfl, rfl⟩, ⟨_, _, [], bs, rfl, ⟨rfl, rfl⟩, ⟨_, _, [], bs, rfl, ⟨rfl, rfl⟩, ⟨_, _, [], bs, rfl, ⟨rfl, rfl⟩, ⟨_, _, bs, [], rfl, hown, ⟨_, _, [], [], rfl, ⟨rfl, rfl⟩, ⟨rfl, rfl⟩, rfl⟩, by simp⟩, by simp⟩, by simp⟩, by simp⟩, by simp⟩
    refine (Fx.markBrowser w W0.heap.size a _ bs k hL (hm.nodup _ _ hρ) hw hk0 hk1).mono ?_
    rintro e w' ⟨rfl, hO, hT⟩
    rw [mkT_Browser] at hO
    simp only [OwnsL] at hO
    obtain ⟨_, _, b1, c1, e1, h1, ⟨_, _, b2, c2, e2, h2, ⟨_, _, b3, c3, e3, h3, ⟨_, _, b4, c4, e4, h4, ⟨_, _, b5, c5, e5, h5, ⟨_, _, b6, c6, e6, h6, ⟨e7, rfl⟩, rfl⟩, rfl⟩, rfl⟩, rfl⟩, rfl⟩, eb⟩ := hO
    simp only [Owns] at h1 h2 h3 h4 h6
    obtain ⟨rfl, rfl⟩ := h1
    obtain ⟨rfl, rfl⟩ := h2
    obtain ⟨rfl, rfl⟩ := h3
    obtain ⟨rfl, rfl⟩ := h4
    obtain ⟨rfl, rfl⟩ := h6
    injection e1 with _ e1
    subst e1
    injection e2 with _ e2
    subst e2
    injection e3 with _ e3
    subst e3
    injection e4 with _ e4
    subst e4
    injection e5 with e5 e8
    subst e5
    have eb : bs = b5 := by simpa using eb
    subst eb
    exact ⟨_, rfl, post_turn hm hρ hT (ob_abs ⟨h5⟩ (fun b hb => ⟨(hm.in_ hρ b hb).1, Nat.lt_of_lt_of_le (hm.in_ hρ b hb).2 hT.2.2.2.1⟩) (OwnAt.firm _ _)) (fun _ _ => rfl)⟩
theorem cust_held (ho : o.op = .call c) (hc : c.callee = .value (.func 18)) (hy : AvIds y = []) (hw : wtL a.dcs ≤ 4294967296) (hk0 : 0 ≤ k) (hk1 : k + cntT a.dcs ≤ 1099511627776) :
    Cust Try.prog old id o [y, .agg [.val (.int .i64 (a).Store.Vendor), .val (.int .i64 (a).Store.Serial), .val (.int .i64 (a).Store.Seed), .val (.int .i64 (a).Store.Counter), .own q, .val (.int .i64 (a).Asked)], .one (.val (.int .i64 k))] [.abs (OwnAt W.heap.size (mk (TabsD a.Tabs) k))] ⟨[], .one (.val (.int .i64 (k + cntT a.dcs))), []⟩ :=
  cust_call (hlen := by rw [List.flatMap_cons, hy]; rfl) ho hc (con_enters Try.func18 (by kernel_rfl) (by kernel_rfl)) fun W0 obs ρ w args hold hm hv hos hun hne => by
    obtain ⟨v1, s1, rfl, ⟨cs, rfl, u1, t1, rfl, rfl, u2, t2, rfl, rfl, u3, t3, rfl, rfl, u4, t4, rfl, rfl, u5, t5, rfl, k5, u6, t6, rfl, rfl, rfl⟩, v2, s2, rfl, rfl, rfl⟩ := hv
    have hq : obs q = .abs (OwnAt W.heap.size (mk (TabsD a.Tabs) k)) := by rw [List.flatMap_cons, hy] at hos; simpa [AvIds, ScIds] using hos
    obtain ⟨r, bs, hρ, hφ, _⟩ := abs_of hm hq
    obtain rfl := own_val (W0 := W0) k5 hρ
    have hR : RdsL w w.heap.size (mkT a.dcs k) [.int .i64 a.Store.Vendor, .int .i64 a.Store.Serial, .int .i64 a.Store.Seed, .int .i64 a.Store.Counter, u5, .int .i64 a.Asked] := by
      rw [mkT_Browser]
      simp only [RdsL]
      exact ⟨_, _, rfl, (by simp only [Rds]), ⟨_, _, rfl, (by simp only [Rds]), ⟨_, _, rfl, (by simp only [Rds]), ⟨_, _, rfl, (by simp only [Rds]), ⟨_, _, rfl, owns_rds _ _ _ hφ.is, ⟨_, _, rfl, (by simp only [Rds]), rfl⟩⟩⟩⟩⟩⟩
    refine (Fx.heldBrowser w a _ k hR hw hk0 hk1).mono ?_
    rintro e w' ⟨rfl, hb⟩
    exact ⟨_, rfl, post_same hm hb rfl⟩
end
noncomputable def navE (W : World) (b : Fx.Browser) (t : Int) (o : Fx.Origin) : Orc := ⟨fun d _ _ => match d with | some 20 => some [iV (szB b 1048576)] | some 25 => some [iV (szO o (szB b 1048576))] | some 30 => some [(true, dasBrowser b)] | some 33 => some [(true, dasOrigin o)] | some 34 => some [(true, dasBrowser (navX b t o)), bV (navB b t o)] | some 38 => some [(true, dasBrowser b)] | some 43 => some [(true, dasOrigin o)] | some 44 => some [(true, dasBrowser (navX b t o)), bV (navB b t o)] | some 49 => some [bV true] | some 58 => some [(true, dasBrowser b)] | some 59 => some [bV true] | some 69 => some [bV true] | some 90 => some [(true, dasBrowser b)] | some 93 => some [(true, dasOrigin o)] | some 94 => some [(true, dasBrowser (navX b t o)), bV (navB b t o)] | some 99 => some [bV true] | _ => none, fun id vs os => match id with | 170016 => (match vs with | [_, .agg [_, _, _, _, .own q, _], _] => some ⟨[], .one (.val (.int .i64 (1 + cntT (b).dcs))), [(q, .abs (OwnAt W.heap.size (mk (TabsD (b).Tabs) 1)))]⟩ | _ => none) | 210016 => (match vs with | [_, .agg [_, _, _, _, .own q, _], _] => some ⟨[], .one (.val (.int .i64 (1 + cntT ((navX b t o)).dcs))), [(q, .abs (OwnAt W.heap.size (mk (TabsD ((navX b t o)).Tabs) 1)))]⟩ | _ => none) | 230016 => some ⟨[], .one (.val (.int .i64 (1 + cntT ((navX b t o)).dcs))), []⟩ | 320016 => some ⟨[], .one (.val (.int .i64 (1 + cntT ((navX b t o)).dcs))), []⟩ | _ => none, fun w => w = W⟩
theorem wpNav (W : World) (b : Fx.Browser) (t : Int) (o : Fx.Origin) (hbo : b.ok) (hoo : o.ok) : awp Try.prog (navE W b t o) (noLoops) (Try.f6.body.getD .skip) ⟨[.agg [.val (.int .i64 (b).Store.Vendor), .val (.int .i64 (b).Store.Serial), .val (.int .i64 (b).Store.Seed), .val (.int .i64 (b).Store.Counter), .old (rowR 59 6 dasTab zTab b.Tabs), .val (.int .i64 (b).Asked)], .one (.val (.int .i64 t)), .agg [.val (.bool o.Secure), .val (.string o.Host), .val (.int .i64 o.Port)]] ++ List.replicate (Try.f6.ntmps - ([.agg [.val (.int .i64 (b).Store.Vendor), .val (.int .i64 (b).Store.Serial), .val (.int .i64 (b).Store.Seed), .val (.int .i64 (b).Store.Counter), .old (rowR 59 6 dasTab zTab b.Tabs), .val (.int .i64 (b).Asked)], .one (.val (.int .i64 t)), .agg [.val (.bool o.Secure), .val (.string o.Host), .val (.int .i64 o.Port)]] : List AV).length) (.one (.val undef)), fun _ => .un⟩ (retK Try.prog Try.f6.results.toList [bV true]) := by
  have hh_ : ((FnCon Try.prog 10 [(true, (dasBrowser b)), (false, [dI (1048576)])] [(false, [dI ((szB b 1048576))])]) ∧ bcase (decide (szB b 1048576 < 0)) (false = false ∧ Value.bool true = Value.bool true) (FnCon Try.prog 11 [(true, (dasOrigin o)), (false, [dI ((szB b 1048576))])] [(false, [dI ((szO o (szB b 1048576)))])] ∧ bcase (decide (szO o (szB b 1048576) < 0)) (false = false ∧ Value.bool true = Value.bool true) ((FnCon Try.prog 13 [(true, (dasBrowser b))] [(true, dasBrowser b)]) ∧ (FnCon Try.prog 14 [(true, (dasOrigin o))] [(true, dasOrigin o)] ∧ ((FnCon Try.prog 23 [(true, (dasBrowser b)), (false, [dI (t)]), (true, (dasOrigin o))] [(true, dasBrowser (navX b t o)), (false, [dB ((navB b t o))])]) ∧ ((FnCon Try.prog 13 [(true, (dasBrowser b))] [(true, dasBrowser b)]) ∧ (FnCon Try.prog 14 [(true, (dasOrigin o))] [(true, dasOrigin o)] ∧ ((FnCon Try.prog 24 [(true, (dasBrowser b)), (false, [dI (t)]), (true, (dasOrigin o))] [(true, dasBrowser (navX b t o)), (false, [dB ((navB b t o))])]) ∧ ((FnCon Try.prog 16 [(true, [dI ((navX b t o).Store.Vendor), dI ((navX b t o).Store.Serial), dI ((navX b t o).Store.Seed), dI ((navX b t o).Store.Counter), Da.row 59 6 (navX b t o).Tabs.length fun i j => (dasTab ((navX b t o).Tabs.getD i zTab)).getD j (Da.val undef), dI ((navX b t o).Asked)]), (true, [dI ((navX b t o).Store.Vendor), dI ((navX b t o).Store.Serial), dI ((navX b t o).Store.Seed), dI ((navX b t o).Store.Counter), Da.row 59 6 (navX b t o).Tabs.length fun i j => (dasTab ((navX b t o).Tabs.getD i zTab)).getD j (Da.val undef), dI ((navX b t o).Asked)])] [(false, [dB (true)])]) ∧ (false = false ∧ bcase (!navB b t o == navB b t o) (false = false ∧ Value.bool false = Value.bool true) ((FnCon Try.prog 13 [(true, (dasBrowser b))] [(true, dasBrowser b)]) ∧ ((FnCon Try.prog 16 [(true, (dasBrowser b)), (true, (dasBrowser b))] [(false, [dB (true)])]) ∧ ((Cust Try.prog (fun w => w = W) 170016 (opOf (Try.f6.body.getD Code.skip) 16 2) [AV.one (Sc.val (Value.func (Fn.func 17) { toList := [] } { toList := [] })), AV.agg [Sc.val (vI b.Store.Vendor), Sc.val (vI b.Store.Serial), Sc.val (vI b.Store.Seed), Sc.val (vI b.Store.Counter), Sc.own 100008, Sc.val (vI b.Asked)], AV.one (Sc.val (vI 1))] [Ob.own (rowR 59 6 dasTab zTab b.Tabs)] { need := [], val := AV.one (Sc.val (vI (1 + (↑(cntT b.dcs) : Int)))), mem := [(100008, Ob.abs (OwnAt W.heap.1.length (mk (TabsD b.Tabs) 1)))] }) ∧ (decide (1 + (↑(cntT b.dcs) : Int) < 0) = false ∧ ((FnCon Try.prog 16 [(true, [dI ((navX b t o).Store.Vendor), dI ((navX b t o).Store.Serial), dI ((navX b t o).Store.Seed), dI ((navX b t o).Store.Counter), Da.row 59 6 (navX b t o).Tabs.length fun i j => (dasTab ((navX b t o).Tabs.getD i zTab)).getD j (Da.val undef), dI ((navX b t o).Asked)]), (true, [dI ((navX b t o).Store.Vendor), dI ((navX b t o).Store.Serial), dI ((navX b t o).Store.Seed), dI ((navX b t o).Store.Counter), Da.row 59 6 (navX b t o).Tabs.length fun i j => (dasTab ((navX b t o).Tabs.getD i zTab)).getD j (Da.val undef), dI ((navX b t o).Asked)])] [(false, [dB (true)])]) ∧ (false = false ∧ bcase (!navB b t o == navB b t o) (false = false ∧ Value.bool false = Value.bool true) ((Cust Try.prog (fun w => w = W) 210016 (opOf (Try.f6.body.getD Code.skip) 20 2) [AV.one (Sc.val (Value.func (Fn.func 17) { toList := [] } { toList := [] })), AV.agg [Sc.val (vI (navX b t o).Store.Vendor), Sc.val (vI (navX b t o).Store.Serial), Sc.val (vI (navX b t o).Store.Seed), Sc.val (vI (navX b t o).Store.Counter), Sc.own 110032, Sc.val (vI (navX b t o).Asked)], AV.one (Sc.val (vI 1))] [Ob.own (Da.row 59 6 (navX b t o).Tabs.length fun i j => (dasTab ((navX b t o).Tabs.getD i zTab)).getD j (Da.val undef))] { need := [], val := AV.one (Sc.val (vI (1 + (↑(cntT (Browser.dcs (navX b t o))) : Int)))), mem := [(110032, Ob.abs (OwnAt W.heap.1.length (mk (TabsD (navX b t o).Tabs) 1)))] }) ∧ ((Cust Try.prog (fun w => w = W) 230016 (opOf (Try.f6.body.getD Code.skip) 22 2) [AV.one (Sc.val (Value.func (Fn.func 18) { toList := [] } { toList := [] })), AV.agg [Sc.val (vI (navX b t o).Store.Vendor), Sc.val (vI (navX b t o).Store.Serial), Sc.val (vI (navX b t o).Store.Seed), Sc.val (vI (navX b t o).Store.Counter), Sc.own 110032, Sc.val (vI (navX b t o).Asked)], AV.one (Sc.val (vI 1))] [Ob.abs (OwnAt W.heap.1.length (mk (TabsD (navX b t o).Tabs) 1))] { need := [], val := AV.one (Sc.val (vI (1 + (↑(cntT (Browser.dcs (navX b t o))) : Int)))), mem := [] }) ∧ bcase (1 + (↑(cntT (Browser.dcs (navX b t o))) : Int) != 1 + (↑(cntT (Browser.dcs (navX b t o))) : Int)) (false = false ∧ Value.bool false = Value.bool true) ((FnCon Try.prog 13 [(true, (dasBrowser b))] [(true, dasBrowser b)]) ∧ (FnCon Try.prog 14 [(true, (dasOrigin o))] [(true, dasOrigin o)] ∧ ((FnCon Try.prog 24 [(true, (dasBrowser b)), (false, [dI (t)]), (true, (dasOrigin o))] [(true, dasBrowser (navX b t o)), (false, [dB ((navB b t o))])]) ∧ ((FnCon Try.prog 16 [(true, [dI ((navX b t o).Store.Vendor), dI ((navX b t o).Store.Serial), dI ((navX b t o).Store.Seed), dI ((navX b t o).Store.Counter), Da.row 59 6 (navX b t o).Tabs.length fun i j => (dasTab ((navX b t o).Tabs.getD i zTab)).getD j (Da.val undef), dI ((navX b t o).Asked)]), (true, [dI ((navX b t o).Store.Vendor), dI ((navX b t o).Store.Serial), dI ((navX b t o).Store.Seed), dI ((navX b t o).Store.Counter), Da.row 59 6 (navX b t o).Tabs.length fun i j => (dasTab ((navX b t o).Tabs.getD i zTab)).getD j (Da.val undef), dI ((navX b t o).Asked)])] [(false, [dB (true)])]) ∧ (false = false ∧ bcase (!navB b t o == navB b t o) (false = false ∧ Value.bool false = Value.bool true) ((Cust Try.prog (fun w => w = W) 320016 (opOf (Try.f6.body.getD Code.skip) 31 2) [AV.one (Sc.val (Value.func (Fn.func 18) { toList := [] } { toList := [] })), AV.agg [Sc.val (vI (navX b t o).Store.Vendor), Sc.val (vI (navX b t o).Store.Serial), Sc.val (vI (navX b t o).Store.Seed), Sc.val (vI (navX b t o).Store.Counter), Sc.own 110032, Sc.val (vI (navX b t o).Asked)], AV.one (Sc.val (vI 1))] [Ob.abs (OwnAt W.heap.1.length (mk (TabsD (navX b t o).Tabs) 1))] { need := [], val := AV.one (Sc.val (vI (1 + (↑(cntT (Browser.dcs (navX b t o))) : Int)))), mem := [] }) ∧ bcase (1 + (↑(cntT (Browser.dcs (navX b t o))) : Int) != 1 + (↑(cntT (Browser.dcs (navX b t o))) : Int)) (false = false ∧ Value.bool false = Value.bool true) (false = false ∧ Value.bool true = Value.bool true))))))))))))))))))))))))) = (awp Try.prog (navE W b t o) (noLoops) (Try.f6.body.getD .skip) ⟨[.agg [.val (.int .i64 (b).Store.Vendor), .val (.int .i64 (b).Store.Serial), .val (.int .i64 (b).Store.Seed), .val (.int .i64 (b).Store.Counter), .old (rowR 59 6 dasTab zTab b.Tabs), .val (.int .i64 (b).Asked)], .one (.val (.int .i64 t)), .agg [.val (.bool o.Secure), .val (.string o.Host), .val (.int .i64 o.Port)]] ++ List.replicate (Try.f6.ntmps - ([.agg [.val (.int .i64 (b).Store.Vendor), .val (.int .i64 (b).Store.Serial), .val (.int .i64 (b).Store.Seed), .val (.int .i64 (b).Store.Counter), .old (rowR 59 6 dasTab zTab b.Tabs), .val (.int .i64 (b).Asked)], .one (.val (.int .i64 t)), .agg [.val (.bool o.Secure), .val (.string o.Host), .val (.int .i64 o.Port)]] : List AV).length) (.one (.val undef)), fun _ => .un⟩ (retK Try.prog Try.f6.results.toList [bV true])) := by kernel_rfl
  rw [← hh_]
  clear hh_
  refine ⟨?g0, bcase_intro (fun h1 => ⟨rfl, rfl⟩) (fun h1 => ⟨?g2, bcase_intro (fun h3 => ⟨rfl, rfl⟩) (fun h3 => ⟨?g4, ?g5, ?g6, ?g7, ?g8, ?g9, ?g10, rfl, bcase_intro (fun h11 => ⟨rfl, congrArg _ ?g12⟩) (fun h11 => ⟨?g13, ?g14, ?g15, ?g16, ?g17, rfl, bcase_intro (fun h18 => ⟨rfl, congrArg _ ?g19⟩) (fun h18 => ⟨?g20, ?g21, bcase_intro (fun h22 => ⟨rfl, congrArg _ ?g23⟩) (fun h22 => ⟨?g24, ?g25, ?g26, ?g27, rfl, bcase_intro (fun h28 => ⟨rfl, congrArg _ ?g29⟩) (fun h28 => ⟨?g30, bcase_intro (fun h31 => ⟨rfl, congrArg _ ?g32⟩) (fun h31 => ⟨rfl, rfl⟩)⟩)⟩)⟩)⟩)⟩)⟩)⟩
  case g0 => exact conSzB b 1048576 hbo (by omega) (by omega)
  all_goals
    obtain ⟨hwb, hsb⟩ := szB_ok h1
    have q1 := Fx.Browser.wt b
    have q2 := Fx.cntTb_Browser b
    have q4 := Fx.Browser.wt (navX b t o)
    have q5 := Fx.cntTb_Browser (navX b t o)
    have q7 := nav_wt b t o
    have q8 := Fx.Origin.wt o
    have q9 := tb_len (n := 1048576) (l := b.Tabs) (by omega)
  case g2 => exact conSzO o _ hoo (by omega) (by omega)
  all_goals
    obtain ⟨hwo, hso⟩ := szO_ok h3
  case g4 | g7 | g13 | g24 => exact conToB b (by omega)
  case g5 | g8 | g25 => exact conToO o (by omega)
  case g6 => exact C16s.conNav b t o (by omega) (by omega)
  case g9 | g26 => exact C16l.conNav b t o (by omega) (by omega)
  case g10 | g17 | g27 => exact conEqB (navX b t o) (by omega)
  case g14 => exact conEqB b (by omega)
  case g15 => exact cust_mark (a := b) rfl rfl rfl (fun _ h => h) (by omega) (by omega) (by omega)
  case g16 => exact decide_eq_false (by omega)
  case g20 => exact cust_mark (a := navX b t o) rfl rfl rfl (fun _ h => h) (by omega) (by omega) (by omega)
  case g21 | g30 => exact cust_held (a := navX b t o) rfl rfl rfl (by omega) (by omega) (by omega)
  case g12 => simp at h11
  case g19 => simp at h18
  case g23 => simp at h22
  case g29 => simp at h28
  case g32 => simp at h31
noncomputable def opnE (W : World) (b : Fx.Browser) (o p : Fx.Origin) : Orc := ⟨fun d _ _ => match d with | some 20 => some [iV (szB b 1048576)] | some 25 => some [iV (szO o (szB b 1048576))] | some 30 => some [iV (szO p (szO o (szB b 1048576)))] | some 35 => some [(true, dasBrowser b)] | some 37 => some [(true, dasOrigin o)] | some 39 => some [(true, dasOrigin p)] | some 40 => some [(true, dasBrowser (openX b o p)), bV (openB b o p)] | some 44 => some [(true, dasBrowser b)] | some 48 => some [(true, dasOrigin o)] | some 50 => some [(true, dasOrigin p)] | some 51 => some [(true, dasBrowser (openX b o p)), bV (openB b o p)] | some 56 => some [bV true] | some 65 => some [(true, dasBrowser b)] | some 66 => some [bV true] | some 76 => some [bV true] | some 97 => some [(true, dasBrowser b)] | some 99 => some [(true, dasOrigin o)] | some 101 => some [(true, dasOrigin p)] | some 102 => some [(true, dasBrowser (openX b o p)), bV (openB b o p)] | some 107 => some [bV true] | _ => none, fun id vs os => match id with | 200016 => (match vs with | [_, .agg [_, _, _, _, .own q, _], _] => some ⟨[], .one (.val (.int .i64 (1 + cntT (b).dcs))), [(q, .abs (OwnAt W.heap.size (mk (TabsD (b).Tabs) 1)))]⟩ | _ => none) | 240016 => (match vs with | [_, .agg [_, _, _, _, .own q, _], _] => some ⟨[], .one (.val (.int .i64 (1 + cntT ((openX b o p)).dcs))), [(q, .abs (OwnAt W.heap.size (mk (TabsD ((openX b o p)).Tabs) 1)))]⟩ | _ => none) | 260016 => some ⟨[], .one (.val (.int .i64 (1 + cntT ((openX b o p)).dcs))), []⟩ | 350016 => some ⟨[], .one (.val (.int .i64 (1 + cntT ((openX b o p)).dcs))), []⟩ | _ => none, fun w => w = W⟩
theorem wpOpen (W : World) (b : Fx.Browser) (o p : Fx.Origin) (hbo : b.ok) (hoo : o.ok) (hpo : p.ok) : awp Try.prog (opnE W b o p) (noLoops) (Try.f3.body.getD .skip) ⟨[.agg [.val (.int .i64 (b).Store.Vendor), .val (.int .i64 (b).Store.Serial), .val (.int .i64 (b).Store.Seed), .val (.int .i64 (b).Store.Counter), .old (rowR 59 6 dasTab zTab b.Tabs), .val (.int .i64 (b).Asked)], .agg [.val (.bool o.Secure), .val (.string o.Host), .val (.int .i64 o.Port)], .agg [.val (.bool p.Secure), .val (.string p.Host), .val (.int .i64 p.Port)]] ++ List.replicate (Try.f3.ntmps - ([.agg [.val (.int .i64 (b).Store.Vendor), .val (.int .i64 (b).Store.Serial), .val (.int .i64 (b).Store.Seed), .val (.int .i64 (b).Store.Counter), .old (rowR 59 6 dasTab zTab b.Tabs), .val (.int .i64 (b).Asked)], .agg [.val (.bool o.Secure), .val (.string o.Host), .val (.int .i64 o.Port)], .agg [.val (.bool p.Secure), .val (.string p.Host), .val (.int .i64 p.Port)]] : List AV).length) (.one (.val undef)), fun _ => .un⟩ (retK Try.prog Try.f3.results.toList [bV true]) := by
  have hh_ : ((FnCon Try.prog 10 [(true, (dasBrowser b)), (false, [dI (1048576)])] [(false, [dI ((szB b 1048576))])]) ∧ bcase (decide (szB b 1048576 < 0)) (false = false ∧ Value.bool true = Value.bool true) (FnCon Try.prog 11 [(true, (dasOrigin o)), (false, [dI ((szB b 1048576))])] [(false, [dI ((szO o (szB b 1048576)))])] ∧ bcase (decide (szO o (szB b 1048576) < 0)) (false = false ∧ Value.bool true = Value.bool true) (FnCon Try.prog 11 [(true, (dasOrigin p)), (false, [dI ((szO o (szB b 1048576)))])] [(false, [dI ((szO p (szO o (szB b 1048576))))])] ∧ bcase (decide (szO p (szO o (szB b 1048576)) < 0)) (false = false ∧ Value.bool true = Value.bool true) ((FnCon Try.prog 13 [(true, (dasBrowser b))] [(true, dasBrowser b)]) ∧ (FnCon Try.prog 14 [(true, (dasOrigin o))] [(true, dasOrigin o)] ∧ (FnCon Try.prog 14 [(true, (dasOrigin p))] [(true, dasOrigin p)] ∧ ((FnCon Try.prog 12 [(true, (dasBrowser b)), (true, (dasOrigin o)), (true, (dasOrigin p))] [(true, dasBrowser (openX b o p)), (false, [dB ((openB b o p))])]) ∧ ((FnCon Try.prog 13 [(true, (dasBrowser b))] [(true, dasBrowser b)]) ∧ (FnCon Try.prog 14 [(true, (dasOrigin o))] [(true, dasOrigin o)] ∧ (FnCon Try.prog 14 [(true, (dasOrigin p))] [(true, dasOrigin p)] ∧ ((FnCon Try.prog 15 [(true, (dasBrowser b)), (true, (dasOrigin o)), (true, (dasOrigin p))] [(true, dasBrowser (openX b o p)), (false, [dB ((openB b o p))])]) ∧ ((FnCon Try.prog 16 [(true, [dI ((openX b o p).Store.Vendor), dI ((openX b o p).Store.Serial), dI ((openX b o p).Store.Seed), dI ((openX b o p).Store.Counter), Da.row 59 6 (openX b o p).Tabs.length fun i j => (dasTab ((openX b o p).Tabs.getD i zTab)).getD j (Da.val undef), dI ((openX b o p).Asked)]), (true, [dI ((openX b o p).Store.Vendor), dI ((openX b o p).Store.Serial), dI ((openX b o p).Store.Seed), dI ((openX b o p).Store.Counter), Da.row 59 6 (openX b o p).Tabs.length fun i j => (dasTab ((openX b o p).Tabs.getD i zTab)).getD j (Da.val undef), dI ((openX b o p).Asked)])] [(false, [dB (true)])]) ∧ (false = false ∧ bcase (!openB b o p == openB b o p) (false = false ∧ Value.bool false = Value.bool true) ((FnCon Try.prog 13 [(true, (dasBrowser b))] [(true, dasBrowser b)]) ∧ ((FnCon Try.prog 16 [(true, (dasBrowser b)), (true, (dasBrowser b))] [(false, [dB (true)])]) ∧ ((Cust Try.prog (fun w => w = W) 200016 (opOf (Try.f3.body.getD Code.skip) 19 2) [AV.one (Sc.val (Value.func (Fn.func 17) { toList := [] } { toList := [] })), AV.agg [Sc.val (vI b.Store.Vendor), Sc.val (vI b.Store.Serial), Sc.val (vI b.Store.Seed), Sc.val (vI b.Store.Counter), Sc.own 130008, Sc.val (vI b.Asked)], AV.one (Sc.val (vI 1))] [Ob.own (rowR 59 6 dasTab zTab b.Tabs)] { need := [], val := AV.one (Sc.val (vI (1 + (↑(cntT b.dcs) : Int)))), mem := [(130008, Ob.abs (OwnAt W.heap.1.length (mk (TabsD b.Tabs) 1)))] }) ∧ (decide (1 + (↑(cntT b.dcs) : Int) < 0) = false ∧ ((FnCon Try.prog 16 [(true, [dI ((openX b o p).Store.Vendor), dI ((openX b o p).Store.Serial), dI ((openX b o p).Store.Seed), dI ((openX b o p).Store.Counter), Da.row 59 6 (openX b o p).Tabs.length fun i j => (dasTab ((openX b o p).Tabs.getD i zTab)).getD j (Da.val undef), dI ((openX b o p).Asked)]), (true, [dI ((openX b o p).Store.Vendor), dI ((openX b o p).Store.Serial), dI ((openX b o p).Store.Seed), dI ((openX b o p).Store.Counter), Da.row 59 6 (openX b o p).Tabs.length fun i j => (dasTab ((openX b o p).Tabs.getD i zTab)).getD j (Da.val undef), dI ((openX b o p).Asked)])] [(false, [dB (true)])]) ∧ (false = false ∧ bcase (!openB b o p == openB b o p) (false = false ∧ Value.bool false = Value.bool true) ((Cust Try.prog (fun w => w = W) 240016 (opOf (Try.f3.body.getD Code.skip) 23 2) [AV.one (Sc.val (Value.func (Fn.func 17) { toList := [] } { toList := [] })), AV.agg [Sc.val (vI (openX b o p).Store.Vendor), Sc.val (vI (openX b o p).Store.Serial), Sc.val (vI (openX b o p).Store.Seed), Sc.val (vI (openX b o p).Store.Counter), Sc.own 140040, Sc.val (vI (openX b o p).Asked)], AV.one (Sc.val (vI 1))] [Ob.own (Da.row 59 6 (openX b o p).Tabs.length fun i j => (dasTab ((openX b o p).Tabs.getD i zTab)).getD j (Da.val undef))] { need := [], val := AV.one (Sc.val (vI (1 + (↑(cntT (Browser.dcs (openX b o p))) : Int)))), mem := [(140040, Ob.abs (OwnAt W.heap.1.length (mk (TabsD (openX b o p).Tabs) 1)))] }) ∧ ((Cust Try.prog (fun w => w = W) 260016 (opOf (Try.f3.body.getD Code.skip) 25 2) [AV.one (Sc.val (Value.func (Fn.func 18) { toList := [] } { toList := [] })), AV.agg [Sc.val (vI (openX b o p).Store.Vendor), Sc.val (vI (openX b o p).Store.Serial), Sc.val (vI (openX b o p).Store.Seed), Sc.val (vI (openX b o p).Store.Counter), Sc.own 140040, Sc.val (vI (openX b o p).Asked)], AV.one (Sc.val (vI 1))] [Ob.abs (OwnAt W.heap.1.length (mk (TabsD (openX b o p).Tabs) 1))] { need := [], val := AV.one (Sc.val (vI (1 + (↑(cntT (Browser.dcs (openX b o p))) : Int)))), mem := [] }) ∧ bcase (1 + (↑(cntT (Browser.dcs (openX b o p))) : Int) != 1 + (↑(cntT (Browser.dcs (openX b o p))) : Int)) (false = false ∧ Value.bool false = Value.bool true) ((FnCon Try.prog 13 [(true, (dasBrowser b))] [(true, dasBrowser b)]) ∧ (FnCon Try.prog 14 [(true, (dasOrigin o))] [(true, dasOrigin o)] ∧ (FnCon Try.prog 14 [(true, (dasOrigin p))] [(true, dasOrigin p)] ∧ ((FnCon Try.prog 15 [(true, (dasBrowser b)), (true, (dasOrigin o)), (true, (dasOrigin p))] [(true, dasBrowser (openX b o p)), (false, [dB ((openB b o p))])]) ∧ ((FnCon Try.prog 16 [(true, [dI ((openX b o p).Store.Vendor), dI ((openX b o p).Store.Serial), dI ((openX b o p).Store.Seed), dI ((openX b o p).Store.Counter), Da.row 59 6 (openX b o p).Tabs.length fun i j => (dasTab ((openX b o p).Tabs.getD i zTab)).getD j (Da.val undef), dI ((openX b o p).Asked)]), (true, [dI ((openX b o p).Store.Vendor), dI ((openX b o p).Store.Serial), dI ((openX b o p).Store.Seed), dI ((openX b o p).Store.Counter), Da.row 59 6 (openX b o p).Tabs.length fun i j => (dasTab ((openX b o p).Tabs.getD i zTab)).getD j (Da.val undef), dI ((openX b o p).Asked)])] [(false, [dB (true)])]) ∧ (false = false ∧ bcase (!openB b o p == openB b o p) (false = false ∧ Value.bool false = Value.bool true) ((Cust Try.prog (fun w => w = W) 350016 (opOf (Try.f3.body.getD Code.skip) 34 2) [AV.one (Sc.val (Value.func (Fn.func 18) { toList := [] } { toList := [] })), AV.agg [Sc.val (vI (openX b o p).Store.Vendor), Sc.val (vI (openX b o p).Store.Serial), Sc.val (vI (openX b o p).Store.Seed), Sc.val (vI (openX b o p).Store.Counter), Sc.own 140040, Sc.val (vI (openX b o p).Asked)], AV.one (Sc.val (vI 1))] [Ob.abs (OwnAt W.heap.1.length (mk (TabsD (openX b o p).Tabs) 1))] { need := [], val := AV.one (Sc.val (vI (1 + (↑(cntT (Browser.dcs (openX b o p))) : Int)))), mem := [] }) ∧ bcase (1 + (↑(cntT (Browser.dcs (openX b o p))) : Int) != 1 + (↑(cntT (Browser.dcs (openX b o p))) : Int)) (false = false ∧ Value.bool false = Value.bool true) (false = false ∧ Value.bool true = Value.bool true))))))))))))))))))))))))))))) = (awp Try.prog (opnE W b o p) (noLoops) (Try.f3.body.getD .skip) ⟨[.agg [.val (.int .i64 (b).Store.Vendor), .val (.int .i64 (b).Store.Serial), .val (.int .i64 (b).Store.Seed), .val (.int .i64 (b).Store.Counter), .old (rowR 59 6 dasTab zTab b.Tabs), .val (.int .i64 (b).Asked)], .agg [.val (.bool o.Secure), .val (.string o.Host), .val (.int .i64 o.Port)], .agg [.val (.bool p.Secure), .val (.string p.Host), .val (.int .i64 p.Port)]] ++ List.replicate (Try.f3.ntmps - ([.agg [.val (.int .i64 (b).Store.Vendor), .val (.int .i64 (b).Store.Serial), .val (.int .i64 (b).Store.Seed), .val (.int .i64 (b).Store.Counter), .old (rowR 59 6 dasTab zTab b.Tabs), .val (.int .i64 (b).Asked)], .agg [.val (.bool o.Secure), .val (.string o.Host), .val (.int .i64 o.Port)], .agg [.val (.bool p.Secure), .val (.string p.Host), .val (.int .i64 p.Port)]] : List AV).length) (.one (.val undef)), fun _ => .un⟩ (retK Try.prog Try.f3.results.toList [bV true])) := by kernel_rfl
  rw [← hh_]
  clear hh_
  refine ⟨?g0, bcase_intro (fun h1 => ⟨rfl, rfl⟩) (fun h1 => ⟨?g2, bcase_intro (fun h3 => ⟨rfl, rfl⟩) (fun h3 => ⟨?g4, bcase_intro (fun h5 => ⟨rfl, rfl⟩) (fun h5 => ⟨?g6, ?g7, ?g8, ?g9, ?g10, ?g11, ?g12, ?g13, ?g14, rfl, bcase_intro (fun h15 => ⟨rfl, congrArg _ ?g16⟩) (fun h15 => ⟨?g17, ?g18, ?g19, ?g20, ?g21, rfl, bcase_intro (fun h22 => ⟨rfl, congrArg _ ?g23⟩) (fun h22 => ⟨?g24, ?g25, bcase_intro (fun h26 => ⟨rfl, congrArg _ ?g27⟩) (fun h26 => ⟨?g28, ?g29, ?g30, ?g31, ?g32, rfl, bcase_intro (fun h33 => ⟨rfl, congrArg _ ?g34⟩) (fun h33 => ⟨?g35, bcase_intro (fun h36 => ⟨rfl, congrArg _ ?g37⟩) (fun h36 => ⟨rfl, rfl⟩)⟩)⟩)⟩)⟩)⟩)⟩)⟩)⟩
  case g0 => exact conSzB b 1048576 hbo (by omega) (by omega)
  all_goals
    obtain ⟨hwb, hsb⟩ := szB_ok h1
    have q1 := Fx.Browser.wt b
    have q2 := Fx.cntTb_Browser b
    have q4 := Fx.Browser.wt (openX b o p)
    have q5 := Fx.cntTb_Browser (openX b o p)
    have q7 := open_wt b o p
    have q8 := Fx.Origin.wt o
    have qp := Fx.Origin.wt p
    have q9 := tb_len (n := 1048576) (l := b.Tabs) (by omega)
  case g2 => exact conSzO o _ hoo (by omega) (by omega)
  all_goals
    obtain ⟨hwo, hso⟩ := szO_ok h3
  case g4 => exact conSzO p _ hpo (by omega) (by omega)
  all_goals
    obtain ⟨hwp, hsp⟩ := szO_ok h5
  case g6 | g10 | g17 | g28 => exact conToB b (by omega)
  case g7 | g11 | g29 => exact conToO o (by omega)
  case g8 | g12 | g30 => exact conToO p (by omega)
  case g9 => exact C16s.conOpen b o p (by omega) (by omega) (by omega)
  case g13 | g31 => exact C16l.conOpen b o p (by omega) (by omega) (by omega)
  case g14 | g21 | g32 => exact conEqB (openX b o p) (by omega)
  case g18 => exact conEqB b (by omega)
  case g19 => exact cust_mark (a := b) rfl rfl rfl (fun _ h => h) (by omega) (by omega) (by omega)
  case g20 => exact decide_eq_false (by omega)
  case g24 => exact cust_mark (a := openX b o p) rfl rfl rfl (fun _ h => h) (by omega) (by omega) (by omega)
  case g25 | g35 => exact cust_held (a := openX b o p) rfl rfl rfl (by omega) (by omega) (by omega)
  case g16 => simp at h15
  case g23 => simp at h22
  case g27 => simp at h26
  case g34 => simp at h33
  case g37 => simp at h36
end Go.Proofs.Ytogoppknimpkbaa.L16x
