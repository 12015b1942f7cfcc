import Derived.Test.YtoedfeacpllkeaaC17x
import Derived.Test.YtoedfeacpllkeaaE25
namespace Go.Proofs.Ytoedfeacpllkeaa.L17x
open Go.ChangeShapes Go.WideShapes Go.ChangeAt Go.RowKit
open S0 S1 S9 Dm Fx M26 C17x E0 E1 E2 E3 E4 E7 E10 E15 E16 E17 E18 E19 E20 E21 E22 E24 E25 Das
set_option linter.unusedVariables false
set_option linter.unusedSimpArgs false
set_option maxRecDepth 100000
set_option maxHeartbeats 4000000
attribute [local irreducible] M26.mrgX
def szU (b : Fx.Bundle) (k : Int) : Int := if (wtL b.dcs : Int) ≤ k then k - wtL b.dcs else -1
theorem szU_ok {b : Fx.Bundle} {k : Int} (h : decide (szU b k < 0) = false) : (wtL b.dcs : Int) ≤ k ∧ szU b k = k - wtL b.dcs := by
  have h := of_decide_eq_false h
  unfold szU at *
  by_cases hc : (wtL b.dcs : Int) ≤ k
  · rw [if_pos hc]; exact ⟨hc, rfl⟩
  · rw [if_neg hc] at h; omega
theorem conSzU (b : Fx.Bundle) (k : Int) (ho : b.ok) (h0 : 0 ≤ k) (h1 : k ≤ 1048576) : FnCon Try.prog 26 [(true, dasBundle b), iV k] [iV (szU b k)] :=
  con_of_plain (con_enters Try.func26 (by kernel_rfl) (by kernel_rfl)) rfl fun w v0 k0 => by
    obtain ⟨us, v2, rfl, k2, k3⟩ := of_aggA (dasBundle_dc b) k0
    obtain ⟨v3, rfl, k4⟩ := of_valA k3
    obtain rfl := of_nil k4
    exact Fx.szBundle w b us k k2 ho h0 h1
theorem conToU (b : Fx.Bundle) (hw : wtL b.dcs ≤ 4294967296) : FnCon Try.prog 28 [(true, dasBundle b)] [(true, dasBundle b)] :=
  con_of_made (con_enters Try.func28 (by kernel_rfl) (by kernel_rfl)) (us := []) rfl (dasBundle_dc b) fun w v0 k0 => by
    obtain ⟨us, v2, rfl, k2, k3⟩ := of_aggA (dasBundle_dc b) k0
    obtain rfl := of_nil k3
    exact (Fx.toBundle w b us k2 hw).mono fun _ _ h => h
theorem conEqU (b : Fx.Bundle) (hw : wtL b.dcs ≤ 4294967296) : FnCon Try.prog 29 [(true, dasBundle b), (true, dasBundle b)] [bV true] :=
  con_of_plain (con_enters Try.func29 (by kernel_rfl) (by kernel_rfl)) rfl fun w v0 k0 => by
    obtain ⟨us, v2, rfl, k2, k3⟩ := of_aggA (dasBundle_dc b) k0
    obtain ⟨vs, v4, rfl, k4, k5⟩ := of_aggA (dasBundle_dc b) k3
    obtain rfl := of_nil k5
    exact Fx.eqBundle w b us vs k2 k4 hw
section
variable {old : World → Prop} {W : World} {id q : Nat} {o : Oper} {c : Call} {y : AV} {a : Fx.Bundle} {k : Int}
theorem cust_mark (ho : o.op = .call c) (hc : c.callee = .value (.func 31)) (hy : AvIds y = []) (hW : ∀ w, old w → w = W) (hw : wtL a.dcs ≤ 4294967296) (hk0 : 0 ≤ k) (hk1 : k + cntT a.dcs ≤ 1099511627776) :
    Cust Try.prog old id o [y, .agg [.own q], .one (.val (.int .i64 k))] [.own (rowR 38 4 dasEntry zEntry (a).Entries)] ⟨[], .one (.val (.int .i64 (k + cntT a.dcs))), [(q, .abs (OwnAt W.heap.size (mk (EntrysD a.Entries) k)))]⟩ :=
  cust_call (hlen := by rw [List.flatMap_cons, hy]; rfl) ho hc (con_enters Try.func31 (by kernel_rfl) (by kernel_rfl)) fun W0 obs ρ w args hold hm hv hos hun hne => by
    obtain rfl := hW _ hold
    obtain ⟨v1, s1, rfl, ⟨cs, rfl, u5, t5, rfl, k5, rfl⟩, v2, s2, rfl, rfl, rfl⟩ := hv
    have hq : obs q = .own (rowR 38 4 dasEntry zEntry (a).Entries) := by rw [List.flatMap_cons, hy] at hos; simpa [AvIds, ScIds] using hos
    obtain ⟨r, bs, hρ, hown⟩ := own_of hm hq
    obtain rfl := own_val (W0 := W0) k5 hρ
    rw [rowR_dc 38 zEntry Entry.len dasEntry_dc] at hown
    have hL : OwnsL w W0.heap.size a.dcs [u5] bs := by
      unfold Bundle.dcs
      simp only [OwnsL]
      exact ⟨_, _, bs, [], rfl, hown, ⟨rfl, rfl⟩, by simp⟩
    refine (Fx.markBundle w W0.heap.size a _ bs k hL (hm.nodup _ _ hρ) hw hk0 hk1).mono ?_
    rintro e w' ⟨rfl, hO, hT⟩
    rw [mkT_Bundle] at hO
    simp only [OwnsL] at hO
    obtain ⟨_, _, b5, c5, e5, h5, ⟨e7, rfl⟩, eb⟩ := hO
    injection e5 with e5 e8
    subst e5
    have eb : bs = b5 := by simpa using eb
    subst eb
    exact ⟨_, rfl, post_turn hm hρ hT (ob_abs ⟨h5⟩ (fun b hb => ⟨(hm.in_ hρ b hb).1, Nat.lt_of_lt_of_le (hm.in_ hρ b hb).2 hT.2.2.2.1⟩) (OwnAt.firm _ _)) (fun _ _ => rfl)⟩
theorem cust_held (ho : o.op = .call c) (hc : c.callee = .value (.func 32)) (hy : AvIds y = []) (hw : wtL a.dcs ≤ 4294967296) (hk0 : 0 ≤ k) (hk1 : k + cntT a.dcs ≤ 1099511627776) :
    Cust Try.prog old id o [y, .agg [.own q], .one (.val (.int .i64 k))] [.abs (OwnAt W.heap.size (mk (EntrysD a.Entries) k))] ⟨[], .one (.val (.int .i64 (k + cntT a.dcs))), []⟩ :=
  cust_call (hlen := by rw [List.flatMap_cons, hy]; rfl) ho hc (con_enters Try.func32 (by kernel_rfl) (by kernel_rfl)) fun W0 obs ρ w args hold hm hv hos hun hne => by
    obtain ⟨v1, s1, rfl, ⟨cs, rfl, u5, t5, rfl, k5, rfl⟩, v2, s2, rfl, rfl, rfl⟩ := hv
    have hq : obs q = .abs (OwnAt W.heap.size (mk (EntrysD a.Entries) k)) := by rw [List.flatMap_cons, hy] at hos; simpa [AvIds, ScIds] using hos
    obtain ⟨r, bs, hρ, hφ, _⟩ := abs_of hm hq
    obtain rfl := own_val (W0 := W0) k5 hρ
    have hR : RdsL w w.heap.size (mkT a.dcs k) [u5] := by
      rw [mkT_Bundle]
      simp only [RdsL]
      exact ⟨_, _, rfl, owns_rds _ _ _ hφ.is, rfl⟩
    refine (Fx.heldBundle w a _ k hR hw hk0 hk1).mono ?_
    rintro e w' ⟨rfl, hb⟩
    exact ⟨_, rfl, post_same hm hb rfl⟩
end
theorem bu_wt (b : Fx.Bundle) : wtL b.dcs = b.Entries.length := by
  have := Fx.Bundle.wt b
  have := en_wt b.Entries
  omega
noncomputable def mrgE (W : World) (a b : Fx.Bundle) : Orc := ⟨fun d _ _ => match d with | some 19 => some [iV (szU a 1048576)] | some 24 => some [iV (szU b (szU a 1048576))] | some 29 => some [(true, dasBundle a)] | some 31 => some [(true, dasBundle b)] | some 32 => some [(true, dasBundle (mrgY a b)), bV (mrgB a.Entries b.Entries)] | some 36 => some [(true, dasBundle a)] | some 38 => some [(true, dasBundle b)] | some 42 => some [(true, dasBundle (mrgY a b)), bV (mrgB a.Entries b.Entries)] | some 47 => some [bV true] | some 56 => some [(true, dasBundle a)] | some 57 => some [bV true] | some 61 => some [(true, dasBundle b)] | some 62 => some [bV true] | some 75 => some [bV true] | some 96 => some [(true, dasBundle a)] | some 98 => some [(true, dasBundle b)] | some 99 => some [(true, dasBundle (mrgY a b)), bV (mrgB a.Entries b.Entries)] | some 104 => some [bV true] | _ => none, fun id vs os => match id with | 200016 => (match vs with | [_, .agg [.own q], .one (.val (.int _ k))] => some ⟨[], .one (.val (.int .i64 (k + cntT (a).dcs))), [(q, .abs (OwnAt W.heap.size (mk (EntrysD (a).Entries) k)))]⟩ | _ => none) | 210016 => (match vs with | [_, .agg [.own q], .one (.val (.int _ k))] => some ⟨[], .one (.val (.int .i64 (k + cntT (b).dcs))), [(q, .abs (OwnAt W.heap.size (mk (EntrysD (b).Entries) k)))]⟩ | _ => none) | 250016 => (match vs with | [_, .agg [.own q], .one (.val (.int _ k))] => some ⟨[], .one (.val (.int .i64 (k + cntT ((mrgY a b)).dcs))), [(q, .abs (OwnAt W.heap.size (mk (EntrysD ((mrgY a b)).Entries) k)))]⟩ | _ => none) | 270016 => (match vs with | [_, _, .one (.val (.int _ k))] => some ⟨[], .one (.val (.int .i64 (k + cntT ((mrgY a b)).dcs))), []⟩ | _ => none) | 360016 => (match vs with | [_, _, .one (.val (.int _ k))] => some ⟨[], .one (.val (.int .i64 (k + cntT ((mrgY a b)).dcs))), []⟩ | _ => none) | _ => none, fun w => w = W⟩
theorem wpMrg (W : World) (a b : Fx.Bundle) (hao : a.ok) (hbo : b.ok) : awp Try.prog (mrgE W a b) (noLoops) (Try.f9.body.getD .skip) ⟨[.agg [.old (rowR 38 4 dasEntry zEntry (a).Entries)], .agg [.old (rowR 38 4 dasEntry zEntry (b).Entries)]] ++ List.replicate (Try.f9.ntmps - ([.agg [.old (rowR 38 4 dasEntry zEntry (a).Entries)], .agg [.old (rowR 38 4 dasEntry zEntry (b).Entries)]] : List AV).length) (.one (.val undef)), fun _ => .un⟩ (retK Try.prog Try.f9.results.toList [bV true]) := by
  have hh_ : ((FnCon Try.prog 26 [(true, [rowR 38 4 dasEntry zEntry a.1]), (false, [dI (1048576)])] [(false, [dI ((szU a 1048576))])]) ∧ bcase (decide (szU a 1048576 < 0)) (false = false ∧ Value.bool true = Value.bool true) ((FnCon Try.prog 26 [(true, [rowR 38 4 dasEntry zEntry b.1]), (false, [dI ((szU a 1048576))])] [(false, [dI ((szU b (szU a 1048576)))])]) ∧ bcase (decide (szU b (szU a 1048576) < 0)) (false = false ∧ Value.bool true = Value.bool true) ((FnCon Try.prog 28 [(true, [rowR 38 4 dasEntry zEntry a.1])] [(true, dasBundle a)]) ∧ ((FnCon Try.prog 28 [(true, [rowR 38 4 dasEntry zEntry b.1])] [(true, dasBundle b)]) ∧ ((FnCon Try.prog 33 [(true, [rowR 38 4 dasEntry zEntry a.1]), (true, [rowR 38 4 dasEntry zEntry b.1])] [(true, dasBundle (mrgY a b)), (false, [dB ((mrgB a.1 b.1))])]) ∧ ((FnCon Try.prog 28 [(true, [rowR 38 4 dasEntry zEntry a.1])] [(true, dasBundle a)]) ∧ ((FnCon Try.prog 28 [(true, [rowR 38 4 dasEntry zEntry b.1])] [(true, dasBundle b)]) ∧ ((FnCon Try.prog 15 [(true, [rowR 38 4 dasEntry zEntry a.1]), (true, [rowR 38 4 dasEntry zEntry b.1])] [(true, dasBundle (mrgY a b)), (false, [dB ((mrgB a.1 b.1))])]) ∧ ((FnCon Try.prog 29 [(true, [Da.row 38 4 (mrgX a.1 b.1).length fun i j => (dasEntry ((mrgX a.1 b.1).getD i zEntry)).getD j (Da.val undef)]), (true, [Da.row 38 4 (mrgX a.1 b.1).length fun i j => (dasEntry ((mrgX a.1 b.1).getD i zEntry)).getD j (Da.val undef)])] [(false, [dB (true)])]) ∧ (false = false ∧ bcase (!mrgB a.1 b.1 == mrgB a.1 b.1) (false = false ∧ Value.bool false = Value.bool true) ((FnCon Try.prog 28 [(true, [rowR 38 4 dasEntry zEntry a.1])] [(true, dasBundle a)]) ∧ ((FnCon Try.prog 29 [(true, [rowR 38 4 dasEntry zEntry a.1]), (true, [rowR 38 4 dasEntry zEntry a.1])] [(false, [dB (true)])]) ∧ ((FnCon Try.prog 28 [(true, [rowR 38 4 dasEntry zEntry b.1])] [(true, dasBundle b)]) ∧ ((FnCon Try.prog 29 [(true, [rowR 38 4 dasEntry zEntry b.1]), (true, [rowR 38 4 dasEntry zEntry b.1])] [(false, [dB (true)])]) ∧ ((Cust Try.prog (fun w => w = W) 200016 (opOf (Try.f9.body.getD Code.skip) 19 2) [AV.one (Sc.val (Value.func (Fn.func 31) { toList := [] } { toList := [] })), AV.agg [Sc.own 100008], AV.one (Sc.val (vI 1))] [Ob.own (rowR 38 4 dasEntry zEntry a.1)] { need := [], val := AV.one (Sc.val (vI (1 + (↑(cntT a.dcs) : Int)))), mem := [(100008, Ob.abs (OwnAt W.heap.1.length (mk (Dc.row 38 4 a.1.length (List.map (fun x => [Dc.val (vI x.1), Dc.val (vI x.2), Dc.val (vI x.3), Dc.val (Value.bool x.4)]) a.1).flatten) 1)))] }) ∧ ((Cust Try.prog (fun w => w = W) 210016 (opOf (Try.f9.body.getD Code.skip) 20 2) [AV.one (Sc.val (Value.func (Fn.func 31) { toList := [] } { toList := [] })), AV.agg [Sc.own 110008], AV.one (Sc.val (vI (1 + (↑(cntT a.dcs) : Int))))] [Ob.own (rowR 38 4 dasEntry zEntry b.1)] { need := [], val := AV.one (Sc.val (vI (1 + (↑(cntT a.dcs) : Int) + (↑(cntT b.dcs) : Int)))), mem := [(110008, Ob.abs (OwnAt W.heap.1.length (mk (Dc.row 38 4 b.1.length (List.map (fun x => [Dc.val (vI x.1), Dc.val (vI x.2), Dc.val (vI x.3), Dc.val (Value.bool x.4)]) b.1).flatten) (1 + (↑(cntT a.dcs) : Int)))))] }) ∧ (decide (1 + (↑(cntT a.dcs) : Int) + (↑(cntT b.dcs) : Int) < 0) = false ∧ ((FnCon Try.prog 29 [(true, [Da.row 38 4 (mrgX a.1 b.1).length fun i j => (dasEntry ((mrgX a.1 b.1).getD i zEntry)).getD j (Da.val undef)]), (true, [Da.row 38 4 (mrgX a.1 b.1).length fun i j => (dasEntry ((mrgX a.1 b.1).getD i zEntry)).getD j (Da.val undef)])] [(false, [dB (true)])]) ∧ (false = false ∧ bcase (!mrgB a.1 b.1 == mrgB a.1 b.1) (false = false ∧ Value.bool false = Value.bool true) ((Cust Try.prog (fun w => w = W) 250016 (opOf (Try.f9.body.getD Code.skip) 24 2) [AV.one (Sc.val (Value.func (Fn.func 31) { toList := [] } { toList := [] })), AV.agg [Sc.own 120016], AV.one (Sc.val (vI 1))] [Ob.own (Da.row 38 4 (mrgX a.1 b.1).length fun i j => (dasEntry ((mrgX a.1 b.1).getD i zEntry)).getD j (Da.val undef))] { need := [], val := AV.one (Sc.val (vI (1 + (↑(cntT (mrgY a b).dcs) : Int)))), mem := [(120016, Ob.abs (OwnAt W.heap.1.length (mk (Dc.row 38 4 (mrgX a.1 b.1).length (List.map (fun x => [Dc.val (vI x.1), Dc.val (vI x.2), Dc.val (vI x.3), Dc.val (Value.bool x.4)]) (mrgX a.1 b.1)).flatten) 1)))] }) ∧ ((Cust Try.prog (fun w => w = W) 270016 (opOf (Try.f9.body.getD Code.skip) 26 2) [AV.one (Sc.val (Value.func (Fn.func 32) { toList := [] } { toList := [] })), AV.agg [Sc.own 120016], AV.one (Sc.val (vI 1))] [Ob.abs (OwnAt W.heap.1.length (mk (Dc.row 38 4 (mrgX a.1 b.1).length (List.map (fun x => [Dc.val (vI x.1), Dc.val (vI x.2), Dc.val (vI x.3), Dc.val (Value.bool x.4)]) (mrgX a.1 b.1)).flatten) 1))] { need := [], val := AV.one (Sc.val (vI (1 + (↑(cntT (mrgY a b).dcs) : Int)))), mem := [] }) ∧ bcase (1 + (↑(cntT (mrgY a b).dcs) : Int) != 1 + (↑(cntT (mrgY a b).dcs) : Int)) (false = false ∧ Value.bool false = Value.bool true) ((FnCon Try.prog 28 [(true, [rowR 38 4 dasEntry zEntry a.1])] [(true, dasBundle a)]) ∧ ((FnCon Try.prog 28 [(true, [rowR 38 4 dasEntry zEntry b.1])] [(true, dasBundle b)]) ∧ ((FnCon Try.prog 15 [(true, [rowR 38 4 dasEntry zEntry a.1]), (true, [rowR 38 4 dasEntry zEntry b.1])] [(true, dasBundle (mrgY a b)), (false, [dB ((mrgB a.1 b.1))])]) ∧ ((FnCon Try.prog 29 [(true, [Da.row 38 4 (mrgX a.1 b.1).length fun i j => (dasEntry ((mrgX a.1 b.1).getD i zEntry)).getD j (Da.val undef)]), (true, [Da.row 38 4 (mrgX a.1 b.1).length fun i j => (dasEntry ((mrgX a.1 b.1).getD i zEntry)).getD j (Da.val undef)])] [(false, [dB (true)])]) ∧ (false = false ∧ bcase (!mrgB a.1 b.1 == mrgB a.1 b.1) (false = false ∧ Value.bool false = Value.bool true) ((Cust Try.prog (fun w => w = W) 360016 (opOf (Try.f9.body.getD Code.skip) 35 2) [AV.one (Sc.val (Value.func (Fn.func 32) { toList := [] } { toList := [] })), AV.agg [Sc.own 120016], AV.one (Sc.val (vI 1))] [Ob.abs (OwnAt W.heap.1.length (mk (Dc.row 38 4 (mrgX a.1 b.1).length (List.map (fun x => [Dc.val (vI x.1), Dc.val (vI x.2), Dc.val (vI x.3), Dc.val (Value.bool x.4)]) (mrgX a.1 b.1)).flatten) 1))] { need := [], val := AV.one (Sc.val (vI (1 + (↑(cntT (mrgY a b).dcs) : Int)))), mem := [] }) ∧ bcase (1 + (↑(cntT (mrgY a b).dcs) : Int) != 1 + (↑(cntT (mrgY a b).dcs) : Int)) (false = false ∧ Value.bool false = Value.bool true) (false = false ∧ Value.bool true = Value.bool true)))))))))))))))))))))))))))) = (awp Try.prog (mrgE W a b) (noLoops) (Try.f9.body.getD .skip) ⟨[.agg [.old (rowR 38 4 dasEntry zEntry (a).Entries)], .agg [.old (rowR 38 4 dasEntry zEntry (b).Entries)]] ++ List.replicate (Try.f9.ntmps - ([.agg [.old (rowR 38 4 dasEntry zEntry (a).Entries)], .agg [.old (rowR 38 4 dasEntry zEntry (b).Entries)]] : List AV).length) (.one (.val undef)), fun _ => .un⟩ (retK Try.prog Try.f9.results.toList [bV true])) := by kernel_rfl
  rw [← hh_]
  clear hh_
  refine ⟨?g0, bcase_intro (fun h1 => ⟨rfl, rfl⟩) (fun h1 => ⟨?g2, bcase_intro (fun h3 => ⟨rfl, rfl⟩) (fun h3 => ⟨?g4, ?g5, ?g6, ?g7, ?g8, ?g9, ?g10, rfl, bcase_intro (fun h11 => ⟨rfl, congrArg _ ?g12⟩) (fun h11 => ⟨?g13, ?g14, ?g15, ?g16, ?g17, ?g18, ?g19, ?g20, rfl, bcase_intro (fun h21 => ⟨rfl, congrArg _ ?g22⟩) (fun h21 => ⟨?g23, ?g24, bcase_intro (fun h25 => ⟨rfl, congrArg _ ?g26⟩) (fun h25 => ⟨?g27, ?g28, ?g29, ?g30, rfl, bcase_intro (fun h31 => ⟨rfl, congrArg _ ?g32⟩) (fun h31 => ⟨?g33, bcase_intro (fun h34 => ⟨rfl, congrArg _ ?g35⟩) (fun h34 => ⟨rfl, rfl⟩)⟩)⟩)⟩)⟩)⟩)⟩)⟩
  case g0 => exact conSzU a 1048576 hao (by omega) (by omega)
  all_goals
    obtain ⟨hwa, hsa⟩ := szU_ok h1
    have qa := bu_wt a
    have qb := bu_wt b
    have qm := bu_wt (mrgY a b)
    have ca := Fx.cntTb_Bundle a
    have cb := Fx.cntTb_Bundle b
    have cm := Fx.cntTb_Bundle (mrgY a b)
    have ql := mrg_len a b
    have ea := en_wt a.Entries
    have eb := en_wt b.Entries
    have em := en_wt (mrgY a b).Entries
  case g2 => exact conSzU b _ hbo (by omega) (by omega)
  all_goals obtain ⟨hwb, hsb⟩ := szU_ok h3
  case g4 | g7 | g13 | g27 => exact conToU a (by omega)
  case g5 | g8 | g15 | g28 => exact conToU b (by omega)
  case g6 => exact C17s.conMrg a.Entries b.Entries (by omega) (by omega)
  case g9 | g29 => exact C17k.conMrg a.Entries b.Entries (by omega) (by omega)
  case g10 | g20 | g30 => exact conEqU (mrgY a b) (by omega)
  case g14 => exact conEqU a (by omega)
  case g16 => exact conEqU b (by omega)
  case g17 => exact cust_mark (a := a) rfl rfl rfl (fun _ h => h) (by omega) (by omega) (by omega)
  case g18 => exact cust_mark (a := b) rfl rfl rfl (fun _ h => h) (by omega) (by omega) (by omega)
  case g19 => exact decide_eq_false (by omega)
  case g23 => exact cust_mark (a := mrgY a b) rfl rfl rfl (fun _ h => h) (by omega) (by omega) (by omega)
  case g24 | g33 => exact cust_held (a := mrgY a b) rfl rfl rfl (by omega) (by omega) (by omega)
  case g12 => simp at h11
  case g22 => simp at h21
  case g26 => simp at h25
  case g32 => simp at h31
  case g35 => simp at h34
end Go.Proofs.Ytoedfeacpllkeaa.L17x
