import Derived.Test.YtoedfeacpllkeaaDr3
import Derived.Test.YtoedfeacpllkeaaE30
import Derived.Test.YtoedfeacpllkeaaC17s
namespace Go.Proofs.Ytoedfeacpllkeaa.Dr
open Go.ChangeShapes Go.WideShapes Go.ChangeAt Go.RowKit
open S0 S1 S9 Dm Fx M26 E0 E1 E2 E3 E4 E7 E9e E10 E15 E16 E17 E18 E19 E20 E22 E23 E30 Das
set_option linter.unusedVariables false
set_option linter.unusedSimpArgs false
set_option maxRecDepth 100000
set_option maxHeartbeats 4000000
def stepL (xs : List Int) (l : List En) (s : Cu) : List En := match belV xs 3 (belS xs 3 (belS xs 4 s)) == 0 with
  | true => delX l (belV xs 4 s) (belV xs 3 (belS xs 4 s))
  | false => putX l (belV xs 4 s) (belV xs 3 (belS xs 4 s))
def stepS (xs : List Int) (s : Cu) : Cu := belS xs 3 (belS xs 3 (belS xs 4 s))
theorem stepS_ok {xs : List Int} {s : Cu} (k : OkC xs s) : OkC xs (stepS xs s) := belS_ok (belS_ok (belS_ok k))
theorem stepL_t {xs : List Int} {l : List En} {s : Cu} (h : (belV xs 3 (belS xs 3 (belS xs 4 s)) == 0) = true) : stepL xs l s = delX l (belV xs 4 s) (belV xs 3 (belS xs 4 s)) := by unfold stepL; rw [h]
theorem stepL_f {xs : List Int} {l : List En} {s : Cu} (h : (belV xs 3 (belS xs 3 (belS xs 4 s)) == 0) = false) : stepL xs l s = putX l (belV xs 4 s) (belV xs 3 (belS xs 4 s)) := by unfold stepL; rw [h]
theorem lnStep (xs : List Int) (l : List En) (s : Cu) (k : OkC xs s) (hnl : l.length ≤ 1000) : E30.RowCon Try.prog 42 71 (cur xs s) (rowR 38 4 dasEntry zEntry l) ([(true, [rowR 38 4 dasEntry zEntry (stepL xs l s)])]) (cur xs (stepS xs s)) := by
  refine E30.row_go (p := fun R => ((Cust Try.prog (fun x => True) 20008 (opOf (Try.f42.body.getD Code.skip) 1 1) [AV.one (Sc.val (Value.func (Fn.func 41) { toList := [] } { toList := [] })), AV.one (Sc.ptr 1 0), AV.one (Sc.val (vI 4))] [Ob.var 71 (cur xs s)] { need := [], val := AV.one (Sc.val (vI (belV xs 4 s))), mem := [(1, Ob.var 71 (cur xs (belS xs 4 s)))] }) ∧ ((Cust Try.prog (fun x => True) 30008 (opOf (Try.f42.body.getD Code.skip) 2 1) [AV.one (Sc.val (Value.func (Fn.func 41) { toList := [] } { toList := [] })), AV.one (Sc.ptr 1 0), AV.one (Sc.val (vI 3))] [Ob.var 71 (cur xs (belS xs 4 s))] { need := [], val := AV.one (Sc.val (vI (belV xs 3 (belS xs 4 s)))), mem := [(1, Ob.var 71 (cur xs (belS xs 3 (belS xs 4 s))))] }) ∧ ((Cust Try.prog (fun x => True) 40008 (opOf (Try.f42.body.getD Code.skip) 3 1) [AV.one (Sc.val (Value.func (Fn.func 62) { toList := [] } { toList := [] })), AV.one (Sc.ptr 1 0), AV.one (Sc.val (vI 3))] [Ob.var 71 (cur xs (belS xs 3 (belS xs 4 s)))] { need := [], val := AV.one (Sc.val (Value.bool (belV xs 3 (belS xs 3 (belS xs 4 s)) == 0))), mem := [(1, Ob.var 71 (cur xs (belS xs 3 (belS xs 3 (belS xs 4 s)))))] }) ∧ bcase (belV xs 3 (belS xs 3 (belS xs 4 s)) == 0) ((FnCon Try.prog 21 [(true, [rowR 38 4 dasEntry zEntry l]), (false, [dI ((belV xs 4 s))]), (false, [dI ((belV xs 3 (belS xs 4 s)))])] [(true, [Da.row 38 4 (delX l (belV xs 4 s) (belV xs 3 (belS xs 4 s))).length fun i j => (dasEntry ((delX l (belV xs 4 s) (belV xs 3 (belS xs 4 s))).getD i zEntry)).getD j (Da.val undef)]), (false, [dB ((delB l (belV xs 4 s) (belV xs 3 (belS xs 4 s))))])]) ∧ ((true = true ∧ (DaEq (Da.row 38 4 (delX l (belV xs 4 s) (belV xs 3 (belS xs 4 s))).length fun i j => (dasEntry ((delX l (belV xs 4 s) (belV xs 3 (belS xs 4 s))).getD i zEntry)).getD j (Da.val undef)) (Da.row 38 4 (stepL xs l s).length fun i j => (dasEntry ((stepL xs l s).getD i zEntry)).getD j (Da.val undef)))) ∧ ((71 = 71 ∧ ((Sc.old (Da.row 5 1 xs.length fun i x => Da.val (Value.int IntKind.u8 (xs.getD i 0))) = Sc.old (Da.row 5 1 xs.length fun i x => Da.val (Value.int IntKind.u8 (xs.getD i 0)))) ∧ (vI (belS xs 3 (belS xs 3 (belS xs 4 s))).i = vI (stepS xs s).i ∧ vI (belS xs 3 (belS xs 3 (belS xs 4 s))).h = vI (stepS xs s).h))) ∧ R = R))) ((FnCon Try.prog 25 [(true, [rowR 38 4 dasEntry zEntry l]), (false, [dI ((belV xs 4 s))]), (false, [dI ((belV xs 3 (belS xs 4 s)))])] [(true, [Da.row 38 4 (putX l (belV xs 4 s) (belV xs 3 (belS xs 4 s))).length fun i j => (dasEntry ((putX l (belV xs 4 s) (belV xs 3 (belS xs 4 s))).getD i zEntry)).getD j (Da.val undef)]), (false, [dB ((putB l (belV xs 4 s) (belV xs 3 (belS xs 4 s))))])]) ∧ ((true = true ∧ (DaEq (Da.row 38 4 (putX l (belV xs 4 s) (belV xs 3 (belS xs 4 s))).length fun i j => (dasEntry ((putX l (belV xs 4 s) (belV xs 3 (belS xs 4 s))).getD i zEntry)).getD j (Da.val undef)) (Da.row 38 4 (stepL xs l s).length fun i j => (dasEntry ((stepL xs l s).getD i zEntry)).getD j (Da.val undef)))) ∧ ((71 = 71 ∧ ((Sc.old (Da.row 5 1 xs.length fun i x => Da.val (Value.int IntKind.u8 (xs.getD i 0))) = Sc.old (Da.row 5 1 xs.length fun i x => Da.val (Value.int IntKind.u8 (xs.getD i 0)))) ∧ (vI (belS xs 3 (belS xs 3 (belS xs 4 s))).i = vI (stepS xs s).i ∧ vI (belS xs 3 (belS xs 3 (belS xs 4 s))).h = vI (stepS xs s).h))) ∧ R = R))))))) (⟨fun d _ _ => match d with | some 17 => some [(true, [rowR 38 4 dasEntry zEntry (delX l (belV xs 4 s) (belV xs 3 (belS xs 4 s)))]), bV (delB l (belV xs 4 s) (belV xs 3 (belS xs 4 s)))] | some 25 => some [(true, [rowR 38 4 dasEntry zEntry (putX l (belV xs 4 s) (belV xs 3 (belS xs 4 s)))]), bV (putB l (belV xs 4 s) (belV xs 3 (belS xs 4 s)))] | _ => none, fun id vs os => match id with | 20008 => (match os with | .var _ [_, .val (.int _ i), .val (.int _ h)] :: _ => some ⟨[], .one (.val (.int .i64 (belV xs 4 ⟨i, h⟩))), [(1, .var 71 (cur xs (belS xs 4 ⟨i, h⟩)))]⟩ | _ => none) | 30008 => (match os with | .var _ [_, .val (.int _ i), .val (.int _ h)] :: _ => some ⟨[], .one (.val (.int .i64 (belV xs 3 ⟨i, h⟩))), [(1, .var 71 (cur xs (belS xs 3 ⟨i, h⟩)))]⟩ | _ => none) | 40008 => (match os with | .var _ [_, .val (.int _ i), .val (.int _ h)] :: _ => some ⟨[], .one (.val (.bool (belV xs 3 ⟨i, h⟩ == 0))), [(1, .var 71 (cur xs (belS xs 3 ⟨i, h⟩)))]⟩ | _ => none) | _ => none, fun _ => True⟩) (noLoops) Try.func42 (by kernel_rfl) (by kernel_rfl) (by kernel_rfl) (fun _ => trivial) rfl (by kernel_rfl) ?_
  intro R hR
  refine ⟨?g0, ?g1, ?g2, bcase_intro (fun h3 => ⟨?g4, ⟨rfl, ?g5⟩, ⟨rfl, rfl, congrArg _ ?g6, congrArg _ ?g7⟩, rfl⟩) (fun h3 => ⟨?g8, ⟨rfl, ?g9⟩, ⟨rfl, rfl, congrArg _ ?g10, congrArg _ ?g11⟩, rfl⟩)⟩
  case g0 => exact cust_lent rfl rfl rfl rfl rfl rfl rfl rfl (lnB xs _ _ (by with_reducible repeat first | exact k | exact v.2.ok | exact start_ok hx | apply belS_ok) (by omega)) rfl (by omega)
  case g1 => exact cust_lent rfl rfl rfl rfl rfl rfl rfl rfl (lnB xs _ _ (by with_reducible repeat first | exact k | exact v.2.ok | exact start_ok hx | apply belS_ok) (by omega)) rfl (by omega)
  case g2 => exact cust_lent rfl rfl rfl rfl rfl rfl rfl rfl (lnOnce xs _ _ (by with_reducible repeat first | exact k | exact v.2.ok | exact start_ok hx | apply belS_ok) (by omega)) rfl (by omega)
  case g4 => exact C17s.conDel l _ _ (by omega)
  case g8 => exact C17s.conPut l _ _ (by omega)
  case g5 => exact row_to row_self (stepL_t h3).symm
  case g9 => exact row_to row_self (stepL_f h3).symm
  all_goals rfl
/-- What a drawn bundle keeps. -/
structure LdB (l : List En) (m : Int) : Prop where
  vb : vbu l = true
  st : ∀ x ∈ l, x.Site < m
theorem LdB.len {l : List En} {m : Int} (h : LdB l m) : l.length ≤ 20 := (vbu_is h.vb).2.2
theorem LdB.up {l : List En} {m m' : Int} (h : LdB l m) (hm : m ≤ m') : LdB l m' := ⟨h.vb, fun x hx => by have := h.st x hx; omega⟩
theorem LdB.nil (m : Int) : LdB [] m := ⟨by decide, fun x hx => by cases hx⟩
theorem LdB.put {l : List En} {m s h : Int} (k : LdB l m) (hs : s < m) : LdB (putX l s h) m := by
  cases e : putB l s h with
  | false => rw [putX_f e]; exact k
  | true =>
    rw [putX_t e]
    unfold putB at e
    rw [Bool.and_eq_true, Bool.and_eq_true] at e
    refine ⟨e.2.2, fun x hx => ?_⟩
    rcases mem_setE hx with rfl | hx
    · exact hs
    · exact k.st x hx
theorem LdB.del {l : List En} {m s h : Int} (k : LdB l m) (hs : s < m) : LdB (delX l s h) m := by
  cases e : delB l s h with
  | false => rw [delX_f e]; exact k
  | true =>
    have hd : delAt l s h = false := by
      unfold delB at e
      rw [Bool.and_eq_true, Bool.and_eq_true] at e
      simpa using e.2.1
    obtain ⟨c1, c2⟩ := chg_del hd
    have hv : vbu (delX l s h) = true := by
      rw [← c2, mrgX_t (c1.trans e)]
      have := c1.trans e
      unfold mrgB at this
      rw [Bool.and_eq_true, Bool.and_eq_true] at this
      exact this.2.2
    refine ⟨hv, fun x hx => ?_⟩
    rw [delX_t e] at hx
    rcases mem_setE hx with rfl | hx
    · exact hs
    · exact k.st x hx
theorem LdB.step {xs : List Int} {l : List En} {s : Cu} (k : LdB l 4) : LdB (stepL xs l s) 4 := by
  have hb := belV_bd xs (n := 4) s (by omega)
  cases e : (belV xs 3 (belS xs 3 (belS xs 4 s)) == 0) with
  | true => rw [stepL_t e]; exact k.del hb.2
  | false => rw [stepL_f e]; exact k.put hb.2
theorem put_app {l : List En} {x : Int} (k : LdB l x) (h0 : 0 ≤ x) (h1 : x ≤ 1000) (hl : l.length < 20) : putX l x 0 = l ++ [⟨x, 0, 1, false⟩] ∧ LdB (l ++ [⟨x, 0, 1, false⟩]) (x + 1) := by
  have hno : fndE l x 0 = none := fndE_none fun j hj => by
    rw [isE_not]
    have := k.st (l.getD j zEntry) (by rw [getD_lt hj]; exact List.getElem_mem hj)
    omega
  obtain ⟨hd, hv⟩ := at_none hno
  have hx : nxtE l x 0 false = ⟨x, 0, 1, false⟩ := by unfold nxtE; rw [hv]; rfl
  have hc : cntE l x 0 = l.length := cntE_is (fun j hj => by
    rw [ltE_iff]
    have := k.st (l.getD j zEntry) (by rw [getD_lt hj]; exact List.getElem_mem hj)
    omega) (Nat.le_refl _) (fun h => absurd h (Nat.lt_irrefl _))
  have hs : setE l (nxtE l x 0 false) = l ++ [⟨x, 0, 1, false⟩] := by
    rw [hx, setE_none (x := ⟨x, 0, 1, false⟩) hno, hc]
    unfold insE
    simp
  obtain ⟨ha, hk, _⟩ := vbu_is k.vb
  have hvb : vbu (l ++ [(⟨x, 0, 1, false⟩ : En)]) = true := vbu_of (List.pairwise_append.2 ⟨ha, List.pairwise_singleton _ _, fun a ha b hb => by
      obtain rfl := List.mem_singleton.1 hb
      rw [lt2_iff]
      have := k.st a ha
      exact .inl this⟩) (fun y hy => by
      rcases List.mem_append.1 hy with hy | hy
      · exact hk y hy
      · obtain rfl := List.mem_singleton.1 hy
        exact okE_of ⟨⟨h0, show x ≤ 2147483646 by omega⟩, ⟨show (0 : Int) ≤ 0 by decide, show (0 : Int) ≤ 1000000 by decide⟩, ⟨show (1 : Int) ≤ 1 by decide, show (1 : Int) ≤ 1000000 by decide⟩⟩) (by rw [List.length_append]; show l.length + 1 ≤ 20; omega)
  have hb : putB l x 0 = true := by
    unfold putB
    rw [hd, k.vb, hs, hvb]; rfl
  refine ⟨by rw [putX_t hb, hs], hvb, fun y hy => ?_⟩
  rcases List.mem_append.1 hy with hy | hy
  · have := k.st y hy; omega
  · obtain rfl := List.mem_singleton.1 hy
    show x < x + 1
    omega
structure BS where
  n : Nat
  l : List En
  s : Cu
def passB (xs : List Int) (y : BS) : BS := ⟨y.n - 1, stepL xs y.l y.s, stepS xs y.s⟩
def runB (xs : List Int) : Nat → BS → BS
  | 0, y => y
  | k + 1, y => runB xs k (passB xs y)
def bs0 (xs : List Int) (s : Cu) : BS := ⟨(([0, 2, 5, 9] : List Int).getD (belV xs 4 s).toNat 0).toNat, [], belS xs 4 s⟩
def bs1 (xs : List Int) (s : Cu) : BS := runB xs (bs0 xs s).n (bs0 xs s)
def fillL : Nat → Int → List En → List En
  | 0, i, l => l
  | k + 1, i, l => fillL k (i + 1) (l ++ [⟨10 + i, 0, 1, false⟩])
def bun1 (xs : List Int) (s : Cu) : List En := fillL (20 - (bs1 xs s).l.length) 0 (bs1 xs s).l
def bun (xs : List Int) (s : Cu) : List En := match belV xs 8 (bs1 xs s).s == 0 with | true => bun1 xs s | false => (bs1 xs s).l
def bunS (xs : List Int) (s : Cu) : Cu := belS xs 8 (bs1 xs s).s
structure BuI (xs : List Int) (R v : BS) : Prop where
  ok : OkC xs v.s
  n9 : v.n ≤ 9
  kp : LdB v.l 4
  run : runB xs v.n v = R
theorem BuI.step {xs : List Int} {R v : BS} (h : BuI xs R v) (hn : 0 < v.n) : BuI xs R (passB xs v) := by
  have h1 := h.n9
  refine ⟨stepS_ok h.ok, by show v.n - 1 ≤ 9; omega, h.kp.step, ?_⟩
  have hr := h.run
  obtain ⟨m, hm⟩ : ∃ m, v.n = m + 1 := ⟨v.n - 1, by omega⟩
  rw [hm] at hr
  show runB xs (v.n - 1) _ = R
  rw [hm, Nat.add_sub_cancel]
  exact hr
theorem bs0_n (xs : List Int) (s : Cu) : (bs0 xs s).n ≤ 9 ∧ 0 ≤ ([0, 2, 5, 9] : List Int).getD (belV xs 4 s).toNat 0 := by
  have h : ∀ k : Nat, 0 ≤ ([0, 2, 5, 9] : List Int).getD k 0 ∧ ([0, 2, 5, 9] : List Int).getD k 0 ≤ 9 := fun k => by
    match k with
    | 0 | 1 | 2 | 3 => exact ⟨by simp, by simp⟩
    | k + 4 => exact ⟨by simp, by simp⟩
  have := h (belV xs 4 s).toNat
  refine ⟨?_, this.1⟩
  show (([0, 2, 5, 9] : List Int).getD (belV xs 4 s).toNat 0).toNat ≤ 9
  omega
theorem bs0_is {xs : List Int} {s : Cu} (k : OkC xs s) : BuI xs (bs1 xs s) (bs0 xs s) := ⟨belS_ok k, (bs0_n xs s).1, LdB.nil 4, rfl⟩
theorem BuI.all {xs : List Int} {R : BS} : ∀ (n : Nat) (v : BS), v.n = n → BuI xs R v → OkC xs R.s ∧ LdB R.l 4
  | 0, v, e, h => by
    have hr := h.run
    rw [e] at hr
    obtain rfl : v = R := hr
    exact ⟨h.ok, h.kp⟩
  | n + 1, v, e, h => BuI.all n (passB xs v) (by show v.n - 1 = n; omega) (h.step (by omega))
theorem bs1_is {xs : List Int} {s : Cu} (k : OkC xs s) : OkC xs (bs1 xs s).s ∧ LdB (bs1 xs s).l 4 := BuI.all _ _ rfl (bs0_is k)
structure FiI (F : List En) (v : Int × List En) : Prop where
  kp : LdB v.2 (10 + v.1)
  i0 : 0 ≤ v.1
  i1 : v.1 ≤ v.2.length
  run : fillL (20 - v.2.length) v.1 v.2 = F
def passF (v : Int × List En) : Int × List En := (v.1 + 1, v.2 ++ [⟨10 + v.1, 0, 1, false⟩])
theorem FiI.step {F : List En} {v : Int × List En} (h : FiI F v) (hn : v.2.length < 20) : FiI F (passF v) ∧ putX v.2 (10 + v.1) 0 = (passF v).2 := by
  have h0 := h.i0
  have h1 := h.i1
  obtain ⟨k1, k2⟩ := put_app h.kp (by omega) (by omega) hn
  refine ⟨⟨by show LdB _ (10 + (v.1 + 1)); rw [show 10 + (v.1 + 1) = 10 + v.1 + 1 by omega]; exact k2, by show 0 ≤ v.1 + 1; omega, ?_, ?_⟩, k1⟩
  · show v.1 + 1 ≤ ((v.2 ++ [(⟨10 + v.1, 0, 1, false⟩ : En)]).length : Int)
    rw [List.length_append]
    simp
    omega
  · have hr := h.run
    obtain ⟨m, hm⟩ : ∃ m, 20 - v.2.length = m + 1 := ⟨20 - v.2.length - 1, by omega⟩
    rw [hm] at hr
    show fillL (20 - (v.2 ++ [(⟨10 + v.1, 0, 1, false⟩ : En)]).length) _ _ = F
    rw [List.length_append, show 20 - (v.2.length + [(⟨10 + v.1, 0, 1, false⟩ : En)].length) = m by simp; omega]
    exact hr
theorem fi0 {xs : List Int} {s : Cu} (k : OkC xs s) : FiI (bun1 xs s) (0, (bs1 xs s).l) := ⟨(bs1_is k).2.up (show (4 : Int) ≤ 10 + 0 by decide), Int.le_refl _, Int.natCast_nonneg _, rfl⟩
theorem FiI.all {F : List En} : ∀ (n : Nat) (v : Int × List En), 20 - v.2.length = n → FiI F v → LdB F 30
  | 0, v, e, h => by
    have hr := h.run
    rw [e] at hr
    obtain rfl : v.2 = F := hr
    have := h.kp.len
    have := h.i1
    exact h.kp.up (by omega)
  | n + 1, v, e, h => FiI.all n (passF v) (by show 20 - (v.2 ++ [(⟨10 + v.1, 0, 1, false⟩ : En)]).length = n; rw [List.length_append]; simp; omega) (h.step (by omega)).1
theorem bun_is {xs : List Int} {s : Cu} (k : OkC xs s) : LdB (bun xs s) 30 := by
  unfold bun
  split
  · exact FiI.all _ _ rfl (fi0 k)
  · exact (bs1_is k).2.up (by decide)
theorem bunS_ok {xs : List Int} {s : Cu} (k : OkC xs s) : OkC xs (bunS xs s) := belS_ok (bs1_is k).1
abbrev BuX (xs : List Int) (R : BS) : Type := { v : BS // BuI xs R v }
abbrev FiX (F : List En) : Type := { v : Int × List En // FiI F v }
def keepB (qs : List Nat) (obs : Nat → Ob) : List (Nat × Ob) := qs.map fun q => (q, obs q)
def buLp (xs : List Int) (s : Cu) : Loops := fun r _ => match r with
  | 3 => some ⟨BuX xs (bs1 xs s), fun v sl => only [0, 2, 3, 4] 0 (sl.set 4 (.one (.val (vI v.1.n)))), fun v obs => (1, .var 71 (cur xs v.1.s)) :: keepB [2, 10000] obs ++ [(20008, .var 26 [.own 7]), (7, .own (rowR 38 4 dasEntry zEntry v.1.l))], fun v => v.1.n⟩
  | 8 => some ⟨FiX (bun1 xs s), fun v sl => only [0, 2, 3, 5] 0 (sl.set 5 (.one (.val (vI v.1.1)))), fun v obs => keepB [1, 2, 10000] obs ++ [(20008, .var 26 [.own 8]), (8, .own (rowR 38 4 dasEntry zEntry v.1.2))], fun v => 20 - v.1.2.length⟩
  | _ => none
theorem cust_newBu {old : World → Prop} {id : Nat} {o : Oper} (ho : o.op = .build 26 #[]) :
    Cust Try.prog old id o [] [] ⟨[], .agg [.own id], [(id, .own (rowR 38 4 dasEntry zEntry ([] : List En)))]⟩ :=
  cust_val fun W0 obs ρ a w hold hm hv hos hun hne => by
    refine ⟨.agg #[.slice none 0 0], w, ?_, ?_⟩
    · have hb : Program.built Try.prog 26 [] = some #[.slice none 0 0] := by kernel_rfl
      unfold execOp
      rw [ho]
      have hq : (#[] : Array (Nat × Operand)).map (fun (i, x) => (i, a.eval x)) = #[] := by simp
      simp only [hq, Sem.run_bind, run_build w 26 #[] _ hb, Result.andThen_ok]
      rfl
    · have hnil : Owns w W0.heap.size (rowR 38 4 dasEntry zEntry ([] : List En)).dc (.slice none 0 0) [] := by
        rw [rowR_dc 38 zEntry Entry.len dasEntry_dc]
        simp only [Owns]
        exact ⟨[], [], Ow.At.of (World.ownsRow_nil _ _ _ _), ⟨rfl, rfl⟩, rfl⟩
      obtain ⟨ρ', h1, h2, h3⟩ := post_new (l := []) hm (hun id (Nat.le_refl _) (by omega)) (Below.refl _ _) (v := .slice none 0 0) (bs := []) rfl (by simp) (by simp) (ob_own hnil)
      exact ⟨ρ', h1, h2, [.slice none 0 0], rfl, _, _, rfl, h3, rfl⟩
theorem lnBu (xs : List Int) (s : Cu) (k : OkC xs s) : E22.LentCon Try.prog 69 71 (cur xs s) ([]) ([(true, [rowR 38 4 dasEntry zEntry (bun xs s)])]) (cur xs (bunS xs s)) := by
  refine E22.lent_go (p := fun R => ((Cust Try.prog (fun x => True) 20000 (opOf (Try.f69.body.getD Code.skip) 1 0) [] [] { need := [], val := AV.agg [Sc.own 20000], mem := [(20000, Ob.own (Da.row 38 4 0 fun i j => (dasEntry ([].getD i zEntry)).getD j (Da.val undef)))] }) ∧ ((Cust Try.prog (fun x => True) 30016 (opOf (Try.f69.body.getD Code.skip) 2 2) [AV.one (Sc.val (Value.func (Fn.func 70) { toList := [] } { toList := [] })), AV.one (Sc.ptr 1 0), AV.one (Sc.own 30008)] [Ob.var 71 (cur xs s), Ob.own (Da.row 3 1 4 fun i j => Da.val ([vI 0, vI 2, vI 5, vI 9].getD (i * 1 + j) undef))] { need := [], val := AV.one (Sc.val (vI ([0, 2, 5, 9].getD (belV xs 4 s).toNat 0))), mem := [(1, Ob.var 71 (cur xs (belS xs 4 s)))] }) ∧ ((∃ x0 : BuX xs (bs1 xs s), (((some 1 = some 1 ∧ 0 = 0) ∧ ((some 10000 = some 10000 ∧ 0 = 0) ∧ ((some 20008 = some 20008 ∧ 0 = 0) ∧ (vI ([0, 2, 5, 9].getD (belV xs 4 s).toNat 0) = vI (↑x0.1.n : Int) ∧ True)))) ∧ ((71 = 71 ∧ ((DaEq (Da.row 5 1 xs.length fun i x => Da.val (Value.int IntKind.u8 (xs.getD i 0))) (Da.row 5 1 xs.length fun i x => Da.val (Value.int IntKind.u8 (xs.getD i 0)))) ∧ (vI (belS xs 4 s).i = vI x0.1.s.i ∧ vI (belS xs 4 s).h = vI x0.1.s.h))) ∧ (AbsLe R R ∧ ((26 = 26 ∧ Value.slice none 0 0 = Value.slice none 0 0) ∧ ((26 = 26 ∧ some 20000 = some 20000) ∧ ((DaEq (Da.row 38 4 0 fun i j => (dasEntry ([].getD i zEntry)).getD j (Da.val undef)) (rowR 38 4 dasEntry zEntry x0.1.l)) ∧ True))))))) ∧ (∀ v : BuX xs (bs1 xs s), bcase (decide ((↑v.1.n : Int) > 0)) ((Cust Try.prog (fun x => True) 60016 (opOf (Try.f69.body.getD Code.skip) 5 2) [AV.one (Sc.val (Value.func (Fn.func 42) { toList := [] } { toList := [] })), AV.one (Sc.ptr 1 0), AV.agg [Sc.own 7]] [Ob.var 71 (cur xs v.1.s), Ob.own (rowR 38 4 dasEntry zEntry v.1.l)] { need := [], val := AV.agg [Sc.own 60016], mem := [(7, Ob.gone), (1, Ob.var 71 (cur xs (stepS xs v.1.s))), (60016, Ob.own (Da.row 38 4 (stepL xs (C17s.unE v.1.l.length fun i j => (dasEntry (v.1.l.getD i zEntry)).getD j (Da.val undef)) v.1.s).length fun i j => (dasEntry ((stepL xs (C17s.unE v.1.l.length fun i j => (dasEntry (v.1.l.getD i zEntry)).getD j (Da.val undef)) v.1.s).getD i zEntry)).getD j (Da.val undef)))] }) ∧ (∃ v' : BuX xs (bs1 xs s), (v'.val.1 < v.val.1 ∧ (((some 1 = some 1 ∧ 0 = 0) ∧ ((some 10000 = some 10000 ∧ 0 = 0) ∧ ((some 20008 = some 20008 ∧ 0 = 0) ∧ (vI (IntKind.i64.wrap ((↑v.1.n : Int) - 1)) = vI (↑v'.1.n : Int) ∧ True)))) ∧ ((71 = 71 ∧ ((DaEq (Da.row 5 1 xs.length fun i x => Da.val (Value.int IntKind.u8 (xs.getD i 0))) (Da.row 5 1 xs.length fun i x => Da.val (Value.int IntKind.u8 (xs.getD i 0)))) ∧ (vI (stepS xs v.1.s).i = vI v'.1.s.i ∧ vI (stepS xs v.1.s).h = vI v'.1.s.h))) ∧ (AbsLe R R ∧ ((26 = 26 ∧ Value.slice none 0 0 = Value.slice none 0 0) ∧ ((26 = 26 ∧ some 60016 = some 60016) ∧ ((DaEq (Da.row 38 4 (stepL xs (C17s.unE v.1.l.length fun i j => (dasEntry (v.1.l.getD i zEntry)).getD j (Da.val undef)) v.1.s).length fun i j => (dasEntry ((stepL xs (C17s.unE v.1.l.length fun i j => (dasEntry (v.1.l.getD i zEntry)).getD j (Da.val undef)) v.1.s).getD i zEntry)).getD j (Da.val undef)) (rowR 38 4 dasEntry zEntry v'.1.l)) ∧ True))))))))) ((Cust Try.prog (fun x => True) 70008 (opOf (Try.f69.body.getD Code.skip) 6 1) [AV.one (Sc.val (Value.func (Fn.func 62) { toList := [] } { toList := [] })), AV.one (Sc.ptr 1 0), AV.one (Sc.val (vI 8))] [Ob.var 71 (cur xs v.1.s)] { need := [], val := AV.one (Sc.val (Value.bool (belV xs 8 v.1.s == 0))), mem := [(1, Ob.var 71 (cur xs (belS xs 8 v.1.s)))] }) ∧ bcase (belV xs 8 v.1.s == 0) ((∃ x0 : FiX (bun1 xs s), (((some 1 = some 1 ∧ 0 = 0) ∧ ((some 10000 = some 10000 ∧ 0 = 0) ∧ ((some 20008 = some 20008 ∧ 0 = 0) ∧ (vI 0 = vI x0.val.1 ∧ True)))) ∧ ((71 = 71 ∧ ((DaEq (Da.row 5 1 xs.length fun i x => Da.val (Value.int IntKind.u8 (xs.getD i 0))) (Da.row 5 1 xs.length fun i x => Da.val (Value.int IntKind.u8 (xs.getD i 0)))) ∧ (vI (belS xs 8 v.1.s).i = vI (belS xs 8 v.1.s).i ∧ vI (belS xs 8 v.1.s).h = vI (belS xs 8 v.1.s).h))) ∧ (AbsLe R R ∧ ((26 = 26 ∧ Value.slice none 0 0 = Value.slice none 0 0) ∧ ((26 = 26 ∧ some 7 = some 7) ∧ ((DaEq (rowR 38 4 dasEntry zEntry v.1.l) (rowR 38 4 dasEntry zEntry x0.val.2)) ∧ True))))))) ∧ (∀ u : FiX (bun1 xs s), bcase (decide ((↑u.val.2.length : Int) < 20)) ((FnCon Try.prog 25 [(true, [rowR 38 4 dasEntry zEntry u.val.2]), (false, [dI ((IntKind.i64.wrap (10 + u.val.1)))]), (false, [dI (0)])] [(true, [Da.row 38 4 (putX (C17s.unE u.val.2.length fun i j => (dasEntry (u.val.2.getD i zEntry)).getD j (Da.val undef)) (IntKind.i64.wrap (10 + u.val.1)) 0).length fun i j => (dasEntry ((putX (C17s.unE u.val.2.length fun i j => (dasEntry (u.val.2.getD i zEntry)).getD j (Da.val undef)) (IntKind.i64.wrap (10 + u.val.1)) 0).getD i zEntry)).getD j (Da.val undef)]), (false, [dB ((putB (C17s.unE u.val.2.length fun i j => (dasEntry (u.val.2.getD i zEntry)).getD j (Da.val undef)) (IntKind.i64.wrap (10 + u.val.1)) 0))])]) ∧ (∃ u' : FiX (bun1 xs s), (Nat.sub 20 u'.val.2.length < Nat.sub 20 u.val.2.length ∧ (((some 1 = some 1 ∧ 0 = 0) ∧ ((some 10000 = some 10000 ∧ 0 = 0) ∧ ((some 20008 = some 20008 ∧ 0 = 0) ∧ (vI (IntKind.i64.wrap (u.val.1 + 1)) = vI u'.val.1 ∧ True)))) ∧ ((71 = 71 ∧ ((DaEq (Da.row 5 1 xs.length fun i x => Da.val (Value.int IntKind.u8 (xs.getD i 0))) (Da.row 5 1 xs.length fun i x => Da.val (Value.int IntKind.u8 (xs.getD i 0)))) ∧ (vI (belS xs 8 v.1.s).i = vI (belS xs 8 v.1.s).i ∧ vI (belS xs 8 v.1.s).h = vI (belS xs 8 v.1.s).h))) ∧ (AbsLe R R ∧ ((26 = 26 ∧ Value.slice none 0 0 = Value.slice none 0 0) ∧ ((26 = 26 ∧ some 110024 = some 110024) ∧ ((DaEq (Da.row 38 4 (putX (C17s.unE u.val.2.length fun i j => (dasEntry (u.val.2.getD i zEntry)).getD j (Da.val undef)) (IntKind.i64.wrap (10 + u.val.1)) 0).length fun i j => (dasEntry ((putX (C17s.unE u.val.2.length fun i j => (dasEntry (u.val.2.getD i zEntry)).getD j (Da.val undef)) (IntKind.i64.wrap (10 + u.val.1)) 0).getD i zEntry)).getD j (Da.val undef)) (rowR 38 4 dasEntry zEntry u'.val.2)) ∧ True))))))))) ((true = true ∧ (DaEq (rowR 38 4 dasEntry zEntry u.val.2) (Da.row 38 4 (bun xs s).length fun i j => (dasEntry ((bun xs s).getD i zEntry)).getD j (Da.val undef)))) ∧ ((71 = 71 ∧ ((Sc.old (Da.row 5 1 xs.length fun i x => Da.val (Value.int IntKind.u8 (xs.getD i 0))) = Sc.old (Da.row 5 1 xs.length fun i x => Da.val (Value.int IntKind.u8 (xs.getD i 0)))) ∧ (vI (belS xs 8 v.1.s).i = vI (bunS xs s).i ∧ vI (belS xs 8 v.1.s).h = vI (bunS xs s).h))) ∧ R = R)))) ((true = true ∧ (DaEq (rowR 38 4 dasEntry zEntry v.1.l) (Da.row 38 4 (bun xs s).length fun i j => (dasEntry ((bun xs s).getD i zEntry)).getD j (Da.val undef)))) ∧ ((71 = 71 ∧ ((Sc.old (Da.row 5 1 xs.length fun i x => Da.val (Value.int IntKind.u8 (xs.getD i 0))) = Sc.old (Da.row 5 1 xs.length fun i x => Da.val (Value.int IntKind.u8 (xs.getD i 0)))) ∧ (vI (belS xs 8 v.1.s).i = vI (bunS xs s).i ∧ vI (belS xs 8 v.1.s).h = vI (bunS xs s).h))) ∧ R = R)))))))) (⟨fun d _ a => match d, a with | some 29, [(_, [.row _ _ m el]), (_, [.val (.int _ x)]), _] => some [(true, [rowR 38 4 dasEntry zEntry (putX (C17s.unE m el) x 0)]), bV (putB (C17s.unE m el) x 0)] | _, _ => none, fun id vs os => match id with | 30016 => (match os with | .var _ [_, .val (.int _ i), .val (.int _ h)] :: _ => some ⟨[], .one (.val (.int .i64 (([0, 2, 5, 9] : List Int).getD (belV xs 4 ⟨i, h⟩).toNat 0))), [(1, .var 71 (cur xs (belS xs 4 ⟨i, h⟩)))]⟩ | _ => none) | 70008 => (match os with | .var _ [_, .val (.int _ i), .val (.int _ h)] :: _ => some ⟨[], .one (.val (.bool (belV xs 8 ⟨i, h⟩ == 0))), [(1, .var 71 (cur xs (belS xs 8 ⟨i, h⟩)))]⟩ | _ => none) | 20000 => some ⟨[], .agg [.own 20000], [(20000, .own (rowR 38 4 dasEntry zEntry ([] : List En)))]⟩ | 60016 => ((match vs, os with | [_, _, .agg [.own r]], .var _ [_, .val (.int _ i), .val (.int _ h)] :: .own (.row _ _ m el) :: _ => some ⟨[], .agg [.own 60016], [(r, .gone), (1, .var 71 (cur xs (stepS xs ⟨i, h⟩))), (60016, .own (rowR 38 4 dasEntry zEntry (stepL xs (C17s.unE m el) ⟨i, h⟩)))]⟩ | _, _ => none)) | _ => none, fun _ => True⟩) (buLp xs s) Try.func69 (by kernel_rfl) (by kernel_rfl) (by kernel_rfl) (fun _ => trivial) rfl (by kernel_rfl) ?_
  intro R hR
  refine ⟨?g0, ?g1, ⟨⟨bs0 xs s, bs0_is k⟩, ⟨⟨⟨rfl, rfl⟩, ⟨rfl, rfl⟩, ⟨rfl, rfl⟩, congrArg _ ?g3, trivial⟩, ⟨rfl, DaEq.refl _, congrArg _ ?g4, congrArg _ ?g5⟩, ?g6, ⟨rfl, rfl⟩, ⟨rfl, rfl⟩, ?g7, trivial⟩⟩, fun v => bcase_intro (fun h8 => ⟨?g9, ⟨⟨passB xs v.1, v.2.step ?wa⟩, ⟨?g11, ⟨⟨rfl, rfl⟩, ⟨rfl, rfl⟩, ⟨rfl, rfl⟩, congrArg _ ?g12, trivial⟩, ⟨rfl, DaEq.refl _, congrArg _ ?g13, congrArg _ ?g14⟩, ?g15, ⟨rfl, rfl⟩, ⟨rfl, rfl⟩, ?g16, trivial⟩⟩⟩) (fun h8 => ⟨?g17, bcase_intro (fun h18 => ⟨⟨⟨(0, v.1.l), ?wf⟩, ⟨⟨⟨rfl, rfl⟩, ⟨rfl, rfl⟩, ⟨rfl, rfl⟩, congrArg _ ?g20, trivial⟩, ⟨rfl, DaEq.refl _, rfl, rfl⟩, ?g21, ⟨rfl, rfl⟩, ⟨rfl, rfl⟩, ?g22, trivial⟩⟩, fun u => bcase_intro (fun h23 => ⟨?g24, ⟨⟨passF u.1, (u.2.step ?wg).1⟩, ⟨?g26, ⟨⟨rfl, rfl⟩, ⟨rfl, rfl⟩, ⟨rfl, rfl⟩, congrArg _ ?g27, trivial⟩, ⟨rfl, DaEq.refl _, rfl, rfl⟩, ?g28, ⟨rfl, rfl⟩, ⟨rfl, rfl⟩, ?g29, trivial⟩⟩⟩) (fun h23 => ⟨⟨rfl, ?g30⟩, ⟨rfl, rfl, congrArg _ ?g31, congrArg _ ?g32⟩, rfl⟩)⟩) (fun h18 => ⟨⟨rfl, ?g33⟩, ⟨rfl, rfl, congrArg _ ?g34, congrArg _ ?g35⟩, rfl⟩)⟩)⟩
  case g0 => exact cust_newBu rfl
  case g1 => exact cust_intL rfl rfl rfl rfl rfl (fun _ _ => elm) rfl (by decide) (by decide) (by with_reducible repeat first | exact k | exact v.2.ok | exact start_ok hx | apply belS_ok)
  case g9 => simp only [C17s.unE_self]; exact cust_row rfl rfl rfl rfl rfl rfl rfl (lnStep xs v.1.l v.1.s v.2.ok (by have := v.2.kp.len; omega)) rfl (by omega)
  case g17 => exact cust_lent rfl rfl rfl rfl rfl rfl rfl rfl (lnOnce xs _ _ (by with_reducible repeat first | exact k | exact v.2.ok | exact start_ok hx | apply belS_ok) (by omega)) rfl (by omega)
  case g3 => exact (Int.toNat_of_nonneg (bs0_n xs s).2).symm
  case g4 | g5 | g13 | g14 | g20 => rfl
  case g6 | g15 | g21 | g28 => exact hR
  case g7 => exact row_to row_self rfl
  case g16 => simp only [C17s.unE_self]; exact row_to row_self rfl
  case g22 => exact DaEq.refl _
  case wa | g11 | g12 =>
    have h8 := of_decide_eq_true h8
    have hn := v.2.n9
    first
      | omega
      | (show (passB xs v.1).n < v.1.n; show v.1.n - 1 < v.1.n; omega)
      | (show IntKind.i64.wrap ((v.1.n : Int) - 1) = ((v.1.n - 1 : Nat) : Int); rw [IntWalk.i64_in _ (by omega)]; omega)
  all_goals have h8 := of_decide_eq_false h8
  all_goals have hv : v.1 = bs1 xs s := (by have hr := v.2.run; rw [show v.1.n = 0 by omega] at hr; exact hr)
  case wf => rw [hv]; exact fi0 k
  case g33 => exact row_to row_self (by rw [hv] at h18 ⊢; unfold bun; rw [h18])
  case g31 | g32 | g34 | g35 => rw [hv]; rfl
  all_goals have i0 := u.2.i0
  all_goals have i1 := u.2.i1
  all_goals have il := u.2.kp.len
  case g30 =>
    have h23 := of_decide_eq_false h23
    have hr := u.2.run
    rw [show 20 - u.val.2.length = 0 by omega] at hr
    exact row_to row_self (by rw [hv] at h18; unfold bun; rw [h18]; exact hr)
  all_goals have h23 := of_decide_eq_true h23
  case wg => omega
  all_goals have hp := u.2.step (by omega)
  case g24 =>
    simp only [C17s.unE_self]
    exact C17s.conPut _ _ _ (by omega)
  case g26 => show 20 - (u.val.2 ++ [(⟨10 + u.val.1, 0, 1, false⟩ : En)]).length < 20 - u.val.2.length; rw [List.length_append]; simp; omega
  case g27 => exact IntWalk.i64_in _ (by omega)
  case g29 =>
    simp only [C17s.unE_self]
    rw [IntWalk.i64_in (10 + u.val.1) (by omega)]
    exact row_to row_self hp.2
def addE (xs : List Int) (s : Cu) : En := ⟨([-1, 0, 99, 2147483646, 2147483647] : List Int).getD (belV xs 5 s).toNat 0, ([-1, 0, 1000001] : List Int).getD (belV xs 3 (belS xs 5 s)).toNat 0, ([0, 1, 1000001] : List Int).getD (belV xs 3 (belS xs 3 (belS xs 5 s))).toNat 0, false⟩
def topV (x : En) : En := { x with Version := 1000000 }
def anyB (xs : List Int) (s : Cu) : List En := match belV xs 8 (bunS xs s) == 0 with
  | true => bun xs s ++ [addE xs (belS xs 8 (bunS xs s))]
  | false => (match belV xs 8 (bunS xs s) == 1 with | true => (bun xs s).set 0 (topV ((bun xs s).getD 0 zEntry)) | false => bun xs s)
def anyS (xs : List Int) (s : Cu) : Cu := match belV xs 8 (bunS xs s) == 0 with
  | true => belS xs 3 (belS xs 3 (belS xs 5 (belS xs 8 (bunS xs s))))
  | false => belS xs 8 (bunS xs s)
theorem anyS_ok {xs : List Int} {s : Cu} (k : OkC xs s) : OkC xs (anyS xs s) := by
  unfold anyS
  split
  · exact belS_ok (belS_ok (belS_ok (belS_ok (bunS_ok k))))
  · exact belS_ok (bunS_ok k)
theorem okLst {l : List Int} (h : ∀ x ∈ l, -9223372036854775808 ≤ x ∧ x ≤ 9223372036854775807) (k : Nat) : -9223372036854775808 ≤ l.getD k 0 ∧ l.getD k 0 ≤ 9223372036854775807 := by
  rw [List.getD_eq_getElem?_getD]
  rcases Nat.lt_or_ge k l.length with hk | hk
  · rw [List.getElem?_eq_getElem hk]; exact h _ (List.getElem_mem hk)
  · rw [List.getElem?_eq_none hk]; exact ⟨by decide, by decide⟩
theorem anyB_is {xs : List Int} {s : Cu} (k : OkC xs s) : (anyB xs s).length ≤ 21 ∧ ∀ x ∈ anyB xs s, Entry.ok x := by
  have h := bun_is k
  have hl := h.len
  have he := (vbu_is h.vb).2.1
  have hk : ∀ x ∈ bun xs s, Entry.ok x := fun x hx => by
    have := okE_ok (he x hx)
    exact ⟨by omega, by omega, by omega, trivial⟩
  unfold anyB
  split
  · refine ⟨by rw [List.length_append]; show (bun xs s).length + 1 ≤ 21; omega, fun x hx => ?_⟩
    rcases List.mem_append.1 hx with hx | hx
    · exact hk x hx
    · obtain rfl := List.mem_singleton.1 hx
      refine ⟨okLst (fun x hx => ?_) _, okLst (fun x hx => ?_) _, okLst (fun x hx => ?_) _, trivial⟩ <;> (simp only [List.mem_cons, List.not_mem_nil, or_false] at hx; omega)
  · split
    · refine ⟨by rw [List.length_set]; omega, fun x hx => ?_⟩
      rcases List.mem_or_eq_of_mem_set hx with hx | rfl
      · exact hk x hx
      · rcases Nat.lt_or_ge 0 (bun xs s).length with h0 | h0
        · have := hk ((bun xs s).getD 0 zEntry) (by rw [getD_lt h0]; exact List.getElem_mem h0)
          exact ⟨this.Site, this.Handle, show -9223372036854775808 ≤ (1000000 : Int) ∧ (1000000 : Int) ≤ 9223372036854775807 by decide, trivial⟩
        · rw [List.length_eq_zero_iff.1 (Nat.le_zero.1 h0)] at hx
          cases hx
    · exact ⟨by omega, hk⟩
theorem lnAny (xs : List Int) (s : Cu) (k : OkC xs s) : E22.LentCon Try.prog 65 71 (cur xs s) ([]) ([(true, [rowR 38 4 dasEntry zEntry (anyB xs s)])]) (cur xs (anyS xs s)) := by
  refine E22.lent_go (p := fun R => ((Cust Try.prog (fun x => True) 20008 (opOf (Try.f65.body.getD Code.skip) 1 1) [AV.one (Sc.val (Value.func (Fn.func 69) { toList := [] } { toList := [] })), AV.one (Sc.ptr 1 0)] [Ob.var 71 (cur xs s)] { need := [], val := AV.agg [Sc.own 20008], mem := [(1, Ob.var 71 (cur xs (bunS xs s))), (20008, Ob.own (Da.row 38 4 (bun xs s).length fun i j => (dasEntry ((bun xs s).getD i zEntry)).getD j (Da.val undef)))] }) ∧ ((Cust Try.prog (fun x => True) 30008 (opOf (Try.f65.body.getD Code.skip) 2 1) [AV.one (Sc.val (Value.func (Fn.func 41) { toList := [] } { toList := [] })), AV.one (Sc.ptr 1 0), AV.one (Sc.val (vI 8))] [Ob.var 71 (cur xs (bunS xs s))] { need := [], val := AV.one (Sc.val (vI (belV xs 8 (bunS xs s)))), mem := [(1, Ob.var 71 (cur xs (belS xs 8 (bunS xs s))))] }) ∧ bcase (belV xs 8 (bunS xs s) == 0) ((Cust Try.prog (fun x => True) 50032 (opOf (Try.f65.body.getD Code.skip) 4 4) [AV.one (Sc.val (Value.func (Fn.func 70) { toList := [] } { toList := [] })), AV.one (Sc.ptr 1 0), AV.one (Sc.own 50024)] [Ob.var 71 (cur xs (belS xs 8 (bunS xs s))), Ob.own (Da.row 3 1 5 fun i j => Da.val ([vI (-1), vI 0, vI 99, vI 2147483646, vI 2147483647].getD (i * 1 + j) undef))] { need := [], val := AV.one (Sc.val (vI ([-1, 0, 99, 2147483646, 2147483647].getD (belV xs 5 (belS xs 8 (bunS xs s))).toNat 0))), mem := [(1, Ob.var 71 (cur xs (belS xs 5 (belS xs 8 (bunS xs s)))))] }) ∧ ((Cust Try.prog (fun x => True) 50056 (opOf (Try.f65.body.getD Code.skip) 4 7) [AV.one (Sc.val (Value.func (Fn.func 70) { toList := [] } { toList := [] })), AV.one (Sc.ptr 1 0), AV.one (Sc.own 50048)] [Ob.var 71 (cur xs (belS xs 5 (belS xs 8 (bunS xs s)))), Ob.own (Da.row 3 1 3 fun i j => Da.val ([vI (-1), vI 0, vI 1000001].getD (i * 1 + j) undef))] { need := [], val := AV.one (Sc.val (vI ([-1, 0, 1000001].getD (belV xs 3 (belS xs 5 (belS xs 8 (bunS xs s)))).toNat 0))), mem := [(1, Ob.var 71 (cur xs (belS xs 3 (belS xs 5 (belS xs 8 (bunS xs s))))))] }) ∧ ((Cust Try.prog (fun x => True) 50080 (opOf (Try.f65.body.getD Code.skip) 4 10) [AV.one (Sc.val (Value.func (Fn.func 70) { toList := [] } { toList := [] })), AV.one (Sc.ptr 1 0), AV.one (Sc.own 50072)] [Ob.var 71 (cur xs (belS xs 3 (belS xs 5 (belS xs 8 (bunS xs s))))), Ob.own (Da.row 3 1 3 fun i j => Da.val ([vI 0, vI 1, vI 1000001].getD (i * 1 + j) undef))] { need := [], val := AV.one (Sc.val (vI ([0, 1, 1000001].getD (belV xs 3 (belS xs 3 (belS xs 5 (belS xs 8 (bunS xs s))))).toNat 0))), mem := [(1, Ob.var 71 (cur xs (belS xs 3 (belS xs 3 (belS xs 5 (belS xs 8 (bunS xs s)))))))] }) ∧ ((E9.PlainEl 1 4 fun i j => Da.val ([vI ([-1, 0, 99, 2147483646, 2147483647].getD (belV xs 5 (belS xs 8 (bunS xs s))).toNat 0), vI ([-1, 0, 1000001].getD (belV xs 3 (belS xs 5 (belS xs 8 (bunS xs s)))).toNat 0), vI ([0, 1, 1000001].getD (belV xs 3 (belS xs 3 (belS xs 5 (belS xs 8 (bunS xs s))))).toNat 0), Value.bool false].getD (i * 4 + j) undef)) ∧ ((bun xs s).length + 1 ≤ 1000000000000 ∧ (((bun xs s).length + 1) * 32 ≤ 140737488355328 ∧ ((true = true ∧ (DaEq
  (Da.row 38 4 ((bun xs s).length + 1) fun i j =>
    match i.succ.ble (bun xs s).length with
    | true => (dasEntry ((bun xs s).getD i zEntry)).getD j (Da.val undef)
    | false => Da.val ([vI ([-1, 0, 99, 2147483646, 2147483647].getD (belV xs 5 (belS xs 8 (bunS xs s))).toNat 0), vI ([-1, 0, 1000001].getD (belV xs 3 (belS xs 5 (belS xs 8 (bunS xs s)))).toNat 0), vI ([0, 1, 1000001].getD (belV xs 3 (belS xs 3 (belS xs 5 (belS xs 8 (bunS xs s))))).toNat 0), Value.bool false].getD ((i - (bun xs s).length) * 4 + j) undef))
  (Da.row 38 4 (anyB xs s).length fun i j => (dasEntry ((anyB xs s).getD i zEntry)).getD j (Da.val undef)))) ∧ ((71 = 71 ∧ ((Sc.old (Da.row 5 1 xs.length fun i x => Da.val (Value.int IntKind.u8 (xs.getD i 0))) = Sc.old (Da.row 5 1 xs.length fun i x => Da.val (Value.int IntKind.u8 (xs.getD i 0)))) ∧ (vI (belS xs 3 (belS xs 3 (belS xs 5 (belS xs 8 (bunS xs s))))).i = vI (anyS xs s).i ∧ vI (belS xs 3 (belS xs 3 (belS xs 5 (belS xs 8 (bunS xs s))))).h = vI (anyS xs s).h))) ∧ R = R)))))))) (bcase (belV xs 8 (bunS xs s) == 1) (bcase (decide ((↑(bun xs s).length : Int) > 0)) ((Int.NonNeg 0 ∧ 0 < (↑(bun xs s).length : Int)) ∧ ((true = true ∧ (DaEq
  (Da.row 38 4 (bun xs s).length fun a b =>
    match
      match a.beq 0 with
      | false => false
      | true => b.beq 2 with
    | true => dI (1000000)
    | false => (dasEntry ((bun xs s).getD a zEntry)).getD b (Da.val undef))
  (Da.row 38 4 (anyB xs s).length fun i j => (dasEntry ((anyB xs s).getD i zEntry)).getD j (Da.val undef)))) ∧ ((71 = 71 ∧ ((Sc.old (Da.row 5 1 xs.length fun i x => Da.val (Value.int IntKind.u8 (xs.getD i 0))) = Sc.old (Da.row 5 1 xs.length fun i x => Da.val (Value.int IntKind.u8 (xs.getD i 0)))) ∧ (vI (belS xs 8 (bunS xs s)).i = vI (anyS xs s).i ∧ vI (belS xs 8 (bunS xs s)).h = vI (anyS xs s).h))) ∧ R = R))) ((true = true ∧ (DaEq (Da.row 38 4 (bun xs s).length fun i j => (dasEntry ((bun xs s).getD i zEntry)).getD j (Da.val undef)) (Da.row 38 4 (anyB xs s).length fun i j => (dasEntry ((anyB xs s).getD i zEntry)).getD j (Da.val undef)))) ∧ ((71 = 71 ∧ ((Sc.old (Da.row 5 1 xs.length fun i x => Da.val (Value.int IntKind.u8 (xs.getD i 0))) = Sc.old (Da.row 5 1 xs.length fun i x => Da.val (Value.int IntKind.u8 (xs.getD i 0)))) ∧ (vI (belS xs 8 (bunS xs s)).i = vI (anyS xs s).i ∧ vI (belS xs 8 (bunS xs s)).h = vI (anyS xs s).h))) ∧ R = R))) ((true = true ∧ (DaEq (Da.row 38 4 (bun xs s).length fun i j => (dasEntry ((bun xs s).getD i zEntry)).getD j (Da.val undef)) (Da.row 38 4 (anyB xs s).length fun i j => (dasEntry ((anyB xs s).getD i zEntry)).getD j (Da.val undef)))) ∧ ((71 = 71 ∧ ((Sc.old (Da.row 5 1 xs.length fun i x => Da.val (Value.int IntKind.u8 (xs.getD i 0))) = Sc.old (Da.row 5 1 xs.length fun i x => Da.val (Value.int IntKind.u8 (xs.getD i 0)))) ∧ (vI (belS xs 8 (bunS xs s)).i = vI (anyS xs s).i ∧ vI (belS xs 8 (bunS xs s)).h = vI (anyS xs s).h))) ∧ R = R)))))) (⟨fun _ _ _ => none, fun id vs os => match id with | 30008 => (match os with | .var _ [_, .val (.int _ i), .val (.int _ h)] :: _ => some ⟨[], .one (.val (.int .i64 (belV xs 8 ⟨i, h⟩))), [(1, .var 71 (cur xs (belS xs 8 ⟨i, h⟩)))]⟩ | _ => none) | 50032 => (match os with | .var _ [_, .val (.int _ i), .val (.int _ h)] :: _ => some ⟨[], .one (.val (.int .i64 (([-1, 0, 99, 2147483646, 2147483647] : List Int).getD (belV xs 5 ⟨i, h⟩).toNat 0))), [(1, .var 71 (cur xs (belS xs 5 ⟨i, h⟩)))]⟩ | _ => none) | 50056 => (match os with | .var _ [_, .val (.int _ i), .val (.int _ h)] :: _ => some ⟨[], .one (.val (.int .i64 (([-1, 0, 1000001] : List Int).getD (belV xs 3 ⟨i, h⟩).toNat 0))), [(1, .var 71 (cur xs (belS xs 3 ⟨i, h⟩)))]⟩ | _ => none) | 50080 => (match os with | .var _ [_, .val (.int _ i), .val (.int _ h)] :: _ => some ⟨[], .one (.val (.int .i64 (([0, 1, 1000001] : List Int).getD (belV xs 3 ⟨i, h⟩).toNat 0))), [(1, .var 71 (cur xs (belS xs 3 ⟨i, h⟩)))]⟩ | _ => none) | 20008 => ((match os with | .var _ [_, .val (.int _ i), .val (.int _ h)] :: _ => some ⟨[], .agg [.own 20008], [(1, .var 71 (cur xs (bunS xs ⟨i, h⟩))), (20008, .own (rowR 38 4 dasEntry zEntry (bun xs ⟨i, h⟩)))]⟩ | _ => none)) | _ => none, fun _ => True⟩) (noLoops) Try.func65 (by kernel_rfl) (by kernel_rfl) (by kernel_rfl) (fun _ => trivial) rfl (by kernel_rfl) ?_
  intro R hR
  refine ⟨?g0, ?g1, bcase_intro (fun h2 => ⟨?g3, ?g4, ?g5, ?g6, ?g7, ?g8, ⟨rfl, ?g9⟩, ⟨rfl, rfl, congrArg _ ?g10, congrArg _ ?g11⟩, rfl⟩) (fun h2 => bcase_intro (fun h12 => bcase_intro (fun h13 => ⟨⟨?g14, ?g15⟩, ⟨rfl, ?g16⟩, ⟨rfl, rfl, congrArg _ ?g17, congrArg _ ?g18⟩, rfl⟩) (fun h13 => ⟨⟨rfl, ?g19⟩, ⟨rfl, rfl, congrArg _ ?g20, congrArg _ ?g21⟩, rfl⟩)) (fun h12 => ⟨⟨rfl, ?g22⟩, ⟨rfl, rfl, congrArg _ ?g23, congrArg _ ?g24⟩, rfl⟩))⟩
  case g0 => exact cust_lent rfl rfl rfl rfl rfl rfl rfl rfl (lnBu xs s k) rfl (by omega)
  case g1 => exact cust_lent rfl rfl rfl rfl rfl rfl rfl rfl (lnB xs _ _ (by with_reducible repeat first | exact k | exact v.2.ok | exact start_ok hx | apply belS_ok | apply bunS_ok) (by omega)) rfl (by omega)
  case g3 => exact cust_intL rfl rfl rfl rfl rfl (fun _ _ => elm) rfl (by decide) (by decide) (by with_reducible repeat first | exact k | exact v.2.ok | exact start_ok hx | apply belS_ok | apply bunS_ok)
  case g4 => exact cust_intL rfl rfl rfl rfl rfl (fun _ _ => elm) rfl (by decide) (by decide) (by with_reducible repeat first | exact k | exact v.2.ok | exact start_ok hx | apply belS_ok | apply bunS_ok)
  case g5 => exact cust_intL rfl rfl rfl rfl rfl (fun _ _ => elm) rfl (by decide) (by decide) (by with_reducible repeat first | exact k | exact v.2.ok | exact start_ok hx | apply belS_ok | apply bunS_ok)
  case g6 =>
    intro i hi j hj
    obtain rfl : i = 0 := by omega
    match j, hj with
    | 0, _ | 1, _ | 2, _ | 3, _ => rfl
    | j + 4, hj => omega
  case g7 | g8 => have := (bun_is k).len; omega
  case g9 => exact row_to (row_app row_self (row_one (x := addE xs (belS xs 8 (bunS xs s))) (fun j hj => by
      match j, hj with
      | 0, _ | 1, _ | 2, _ | 3, _ => rfl
      | j + 4, hj => omega))) (by unfold anyB; rw [h2])
  case g10 | g11 => unfold anyS; rw [h2]
  case g17 | g18 | g20 | g21 | g23 | g24 => unfold anyS; rw [h2]
  case g14 => exact Int.NonNeg.mk 0
  case g15 => exact of_decide_eq_true h13
  case g16 => exact row_to (row_set (f := 2) (d := .val (.int .i64 1000000)) (y := topV ((bun xs s).getD 0 zEntry)) row_self (fun j hj => by
      match j, hj with
      | 0, _ | 1, _ | 2, _ | 3, _ => rfl
      | j + 4, hj => omega)) (by unfold anyB; rw [h2, h12])
  case g19 => exact row_to row_self (by
      have h13 := of_decide_eq_false h13
      unfold anyB
      rw [h2, h12, show bun xs s = [] from List.length_eq_zero_iff.1 (by omega)]
      rfl)
  case g22 => exact row_to row_self (by unfold anyB; rw [h2, h12])
def dL (xs : List Int) : List En := anyB xs (start xs)
def dS (xs : List Int) : Int := IntKind.i64.wrap (belV xs 6 (anyS xs (start xs)) - 1)
def dH (xs : List Int) : Int := IntKind.i64.wrap (belV xs 5 (belS xs 6 (anyS xs (start xs))) - 1)
theorem conFndD (xs : List Int) (hx : xs.length ≤ 140737488351232) : FnCon Try.prog 48 ([(false, [numR 5 .u8 xs])]) ([(true, [rowR 38 4 dasEntry zEntry (dL xs)]), iV (dS xs), iV (dH xs)]) := by
  refine fn_go (p := ((Cust Try.prog (fun x => True) 20008 (opOf (Try.f48.body.getD Code.skip) 1 1) [AV.one (Sc.val (Value.func (Fn.func 40) { toList := [] } { toList := [] })), AV.one (Sc.old (Da.row 5 1 xs.length fun i x => Da.val (Value.int IntKind.u8 (xs.getD i 0))))] [] { need := [], val := AV.one (Sc.ptr 20008 0), mem := [(20008, Ob.var 71 (cur xs (start xs)))] }) ∧ ((Cust Try.prog (fun x => True) 30008 (opOf (Try.f48.body.getD Code.skip) 2 1) [AV.one (Sc.val (Value.func (Fn.func 65) { toList := [] } { toList := [] })), AV.one (Sc.ptr 20008 0)] [Ob.var 71 (cur xs (start xs))] { need := [], val := AV.agg [Sc.own 30008], mem := [(20008, Ob.var 71 (cur xs (anyS xs (start xs)))), (30008, Ob.own (Da.row 38 4 (anyB xs (start xs)).length fun i j => (dasEntry ((anyB xs (start xs)).getD i zEntry)).getD j (Da.val undef)))] }) ∧ ((Cust Try.prog (fun x => True) 40008 (opOf (Try.f48.body.getD Code.skip) 3 1) [AV.one (Sc.val (Value.func (Fn.func 41) { toList := [] } { toList := [] })), AV.one (Sc.ptr 20008 0), AV.one (Sc.val (vI 6))] [Ob.var 71 (cur xs (anyS xs (start xs)))] { need := [], val := AV.one (Sc.val (vI (belV xs 6 (anyS xs (start xs))))), mem := [(20008, Ob.var 71 (cur xs (belS xs 6 (anyS xs (start xs)))))] }) ∧ ((Cust Try.prog (fun x => True) 50024 (opOf (Try.f48.body.getD Code.skip) 4 3) [AV.one (Sc.val (Value.func (Fn.func 41) { toList := [] } { toList := [] })), AV.one (Sc.ptr 20008 0), AV.one (Sc.val (vI 5))] [Ob.var 71 (cur xs (belS xs 6 (anyS xs (start xs))))] { need := [], val := AV.one (Sc.val (vI (belV xs 5 (belS xs 6 (anyS xs (start xs)))))), mem := [(20008, Ob.var 71 (cur xs (belS xs 5 (belS xs 6 (anyS xs (start xs))))))] }) ∧ ((true = true ∧ (DaEq (Da.row 38 4 (anyB xs (start xs)).length fun i j => (dasEntry ((anyB xs (start xs)).getD i zEntry)).getD j (Da.val undef)) (Da.row 38 4 (dL xs).length fun i j => (dasEntry ((dL xs).getD i zEntry)).getD j (Da.val undef)))) ∧ ((false = false ∧ vI (IntKind.i64.wrap (belV xs 6 (anyS xs (start xs)) - 1)) = vI (dS xs)) ∧ (false = false ∧ vI (IntKind.i64.wrap (belV xs 5 (belS xs 6 (anyS xs (start xs))) - 1)) = vI (dH xs))))))))) (⟨fun _ _ _ => none, fun id vs os => match id with | 20008 => some ⟨[], .one (.ptr 20008 0), [(20008, .var 71 (cur xs (start xs)))]⟩ | 30008 => ((match os with | .var _ [_, .val (.int _ i), .val (.int _ h)] :: _ => some ⟨[], .agg [.own 30008], [(20008, .var 71 (cur xs (anyS xs ⟨i, h⟩))), (30008, .own (rowR 38 4 dasEntry zEntry (anyB xs ⟨i, h⟩)))]⟩ | _ => none)) | 40008 => (match os with | .var _ [_, .val (.int _ i), .val (.int _ h)] :: _ => some ⟨[], .one (.val (.int .i64 (belV xs 6 ⟨i, h⟩))), [(20008, .var 71 (cur xs (belS xs 6 ⟨i, h⟩)))]⟩ | _ => none) | 50024 => (match os with | .var _ [_, .val (.int _ i), .val (.int _ h)] :: _ => some ⟨[], .one (.val (.int .i64 (belV xs 5 ⟨i, h⟩))), [(20008, .var 71 (cur xs (belS xs 5 ⟨i, h⟩)))]⟩ | _ => none) | _ => none, fun _ => True⟩) (noLoops) Try.func48 (by kernel_rfl) (by kernel_rfl) (by kernel_rfl) (fun _ => trivial) (by kernel_rfl) ?_
  refine ⟨?g0, ?g1, ?g2, ?g3, ⟨rfl, ?g4⟩, ⟨rfl, congrArg _ ?g5⟩, rfl, congrArg _ ?g6⟩
  case g0 => exact cust_new rfl rfl rfl rfl rfl (nwStart xs hx)
  case g1 => exact cust_lent rfl rfl rfl rfl rfl rfl rfl rfl (lnAny xs _ (start_ok hx)) rfl (by omega)
  case g2 => exact cust_lent rfl rfl rfl rfl rfl rfl rfl rfl (lnB xs _ _ (by with_reducible repeat first | exact start_ok hx | apply belS_ok | apply anyS_ok) (by omega)) rfl (by omega)
  case g3 => exact cust_lent rfl rfl rfl rfl rfl rfl rfl rfl (lnB xs _ _ (by with_reducible repeat first | exact start_ok hx | apply belS_ok | apply anyS_ok) (by omega)) rfl (by omega)
  case g4 => exact row_to row_self rfl
  all_goals rfl
theorem conDelD (xs : List Int) (hx : xs.length ≤ 140737488351232) : FnCon Try.prog 19 ([(false, [numR 5 .u8 xs])]) ([(true, [rowR 38 4 dasEntry zEntry (dL xs)]), iV (dS xs), iV (dH xs)]) := by
  refine fn_go (p := ((FnCon Try.prog 48 [(false, [Da.row 5 1 xs.length fun i x => Da.val (Value.int IntKind.u8 (xs.getD i 0))])] [(true, [Da.row 38 4 (dL xs).length fun i j => (dasEntry ((dL xs).getD i zEntry)).getD j (Da.val undef)]), (false, [dI ((dS xs))]), (false, [dI ((dH xs))])]) ∧ ((true = true ∧ (DaEq (Da.row 38 4 (dL xs).length fun i j => (dasEntry ((dL xs).getD i zEntry)).getD j (Da.val undef)) (Da.row 38 4 (dL xs).length fun i j => (dasEntry ((dL xs).getD i zEntry)).getD j (Da.val undef)))) ∧ ((false = false ∧ vI (dS xs) = vI (dS xs)) ∧ (false = false ∧ vI (dH xs) = vI (dH xs)))))) (callsBy (fun d _ _ => match d with | some 6 => some [(true, [rowR 38 4 dasEntry zEntry (dL xs)]), iV (dS xs), iV (dH xs)] | _ => none)) (noLoops) Try.func19 (by kernel_rfl) (by kernel_rfl) (by kernel_rfl) (fun _ => trivial) (by kernel_rfl) ?_
  refine ⟨?g0, ⟨rfl, DaEq.refl _⟩, ⟨rfl, rfl⟩, rfl, rfl⟩
  case g0 => exact conFndD xs hx
end Go.Proofs.Ytoedfeacpllkeaa.Dr
