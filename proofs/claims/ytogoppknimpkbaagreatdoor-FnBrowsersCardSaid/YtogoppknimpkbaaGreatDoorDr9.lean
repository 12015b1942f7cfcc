import Derived.Test.YtogoppknimpkbaaGreatDoorDr4
import Derived.Test.YtogoppknimpkbaaGreatDoorC16s
import Derived.Test.YtogoppknimpkbaaGreatDoorM13b
namespace Go.Proofs.YtogoppknimpkbaaGreatDoor.Dr
open Go.ChangeShapes Go.WideShapes Go.ChangeAt Go.RowKit
open S0 S1 S9 Dm Fx M3 M8 M12 M13 M24 E0 E1 E2 E3 E4 E7 E9e E10 E15 E16 E17 E18 E19 E20 E22 E23 Das
set_option linter.unusedVariables false
set_option linter.unusedSimpArgs false
set_option maxRecDepth 100000
set_option maxHeartbeats 4000000
def uI : Da → Int
  | .val (.int _ x) => x
  | _ => 0
def uB : Da → Bool
  | .val (.bool b) => b
  | _ => false
def uS : Da → ByteArray
  | .val (.string b) => b
  | _ => ⟨#[]⟩
def unT (n : Nat) (el : Nat → Nat → Da) : List Fx.Tab := (List.range n).map fun i => ⟨⟨uB (el i 0), uS (el i 1), uI (el i 2)⟩, ⟨uB (el i 3), uS (el i 4), uI (el i 5)⟩⟩
theorem unT_of {n : Nat} {el : Nat → Nat → Da} {xs : List Fx.Tab} (h : RowOf 6 dasTab zTab n el xs) : unT n el = xs := by
  obtain ⟨h1, h2⟩ := h
  unfold unT
  apply List.ext_getElem (by simp [h1])
  intro i hi hj
  have e := fun j hj => h2 i (by omega) j hj
  have hg : xs.getD i zTab = xs[i] := by simp [List.getD_eq_getElem?_getD, List.getElem?_eq_getElem hj]
  rw [List.getElem_map, List.getElem_range, e 0 (by omega), e 1 (by omega), e 2 (by omega), e 3 (by omega), e 4 (by omega), e 5 (by omega), hg]
  generalize xs[i] = x
  obtain ⟨⟨_, _, _⟩, ⟨_, _, _⟩⟩ := x
  simp [dasTab, uB, uS, uI]
theorem unT_self (l : List Fx.Tab) : unT l.length (fun i j => (dasTab (l.getD i zTab)).getD j (Da.val undef)) = l := unT_of row_self
def keepB (qs : List Nat) (obs : Nat → Ob) : List (Nat × Ob) := qs.map fun q => (q, obs q)
structure BS where
  n : Nat
  b : Fx.Browser
  s : Cu
def pass16 (xs : List Int) (y : BS) : BS := match belV xs 3 (originS xs y.s) == 0 with
  | true => ⟨y.n - 1, openX y.b (origin0 xs y.s) (origin0 xs (belS xs 3 (originS xs y.s))), originS xs (belS xs 3 (originS xs y.s))⟩
  | false => ⟨y.n - 1, openX y.b (origin0 xs y.s) (origin0 xs y.s), belS xs 3 (originS xs y.s)⟩
def run16 (xs : List Int) : Nat → BS → BS
  | 0, y => y
  | k + 1, y => run16 xs k (pass16 xs y)
def bs0 (xs : List Int) (s : Cu) : BS := ⟨(([1, 2, 3, 8, 0] : List Int).getD (belV xs 5 (belS xs 5 (storeAnyS xs s))).toNat 0).toNat, ⟨storeAny0 xs s, [], belV xs 5 (storeAnyS xs s)⟩, belS xs 5 (belS xs 5 (storeAnyS xs s))⟩
def bro (xs : List Int) (s : Cu) : BS := run16 xs (bs0 xs s).n (bs0 xs s)
def bro0 (xs : List Int) (s : Cu) : Fx.Browser := (bro xs s).b
def broS (xs : List Int) (s : Cu) : Cu := (bro xs s).s
theorem list_size {l : List ByteArray} {n : Nat} (h : ∀ x ∈ l, x.size ≤ n) (k : Nat) : (l.getD k ⟨#[]⟩).size ≤ n := by
  rw [List.getD_eq_getElem?_getD]
  rcases Nat.lt_or_ge k l.length with hk | hk
  · rw [List.getElem?_eq_getElem hk]; exact h _ (List.getElem_mem hk)
  · rw [List.getElem?_eq_none hk]; exact Nat.zero_le _
theorem host_size (xs : List Int) (s : Cu) : (host0 xs s).size ≤ 100 := by
  unfold host0
  refine list_size (fun x hx => ?_) _
  simp only [List.mem_cons, List.not_mem_nil, or_false] at hx
  rcases hx with rfl | rfl | rfl | rfl | rfl | rfl | rfl | rfl | rfl <;> decide
theorem hostAny_sz (xs : List Int) (s : Cu) : (hostAny0 xs s).size ≤ 100 := by
  unfold hostAny0
  split
  · refine list_size (fun x hx => ?_) _
    simp only [List.mem_cons, List.not_mem_nil, or_false] at hx
    rcases hx with rfl | rfl | rfl | rfl | rfl | rfl | rfl | rfl | rfl | rfl <;> decide
  · exact host_size _ _
theorem origin_size (xs : List Int) (s : Cu) : (origin0 xs s).Host.size ≤ 100 := by
  unfold origin0
  split <;> exact host_size _ _
theorem wr16 (x : Int) : -9223372036854775808 ≤ IntKind.i64.wrap x ∧ IntKind.i64.wrap x ≤ 9223372036854775807 := by rw [IntKind.wrap_i64]; omega
theorem bel64 (xs : List Int) (n : Int) (s : Cu) (h0 : 0 < n) (h1 : n ≤ 9223372036854775807) : -9223372036854775808 ≤ belV xs n s ∧ belV xs n s ≤ 9223372036854775807 := by
  have := belV_bd xs s h0
  omega
theorem lst64 {l : List Int} (h : ∀ x ∈ l, -9223372036854775808 ≤ x ∧ x ≤ 9223372036854775807) (k : Nat) : -9223372036854775808 ≤ l.getD k 0 ∧ l.getD k 0 ≤ 9223372036854775807 := by
  rw [List.getD_eq_getElem?_getD]
  rcases Nat.lt_or_ge k l.length with hk | hk
  · rw [List.getElem?_eq_getElem hk]; exact h _ (List.getElem_mem hk)
  · rw [List.getElem?_eq_none hk]; exact ⟨by decide, by decide⟩
theorem key64 (xs : List Int) (s : Cu) : -9223372036854775808 ≤ key0 xs s ∧ key0 xs s ≤ 9223372036854775807 := by
  unfold key0
  split
  · exact lst64 (fun x hx => by simp only [List.mem_cons, List.not_mem_nil, or_false] at hx; omega) _
  · exact wr16 _
theorem store_ok (xs : List Int) (s : Cu) : (store0 xs s).ok := by
  unfold store0
  exact ⟨wr16 _, bel64 _ _ _ (by decide) (by decide), wr16 _, bel64 _ _ _ (by decide) (by decide)⟩
theorem storeAny_ok (xs : List Int) (s : Cu) : (storeAny0 xs s).ok := by
  have h := store_ok xs s
  unfold storeAny0
  split
  · exact ⟨lst64 (fun x hx => by simp only [List.mem_cons, List.not_mem_nil, or_false] at hx; omega) _, h.Serial, h.Seed, h.Counter⟩
  · split
    · exact ⟨h.Vendor, lst64 (fun x hx => by simp only [List.mem_cons, List.not_mem_nil, or_false] at hx; omega) _, h.Seed, h.Counter⟩
    · split
      · exact ⟨h.Vendor, h.Serial, key64 _ _, h.Counter⟩
      · split
        · exact ⟨h.Vendor, h.Serial, h.Seed, lst64 (fun x hx => by simp only [List.mem_cons, List.not_mem_nil, or_false] at hx; omega) _⟩
        · exact ⟨h.Vendor, h.Serial, h.Seed, h.Counter⟩
/-- What a drawn browser keeps. -/
structure BrK (b : Fx.Browser) : Prop where
  st : b.Store.ok
  host : ∀ t ∈ b.Tabs, t.Origin.Host.size ≤ 100 ∧ t.Top.Host.size ≤ 100
  asd : -9223372036854775808 ≤ b.Asked ∧ b.Asked ≤ 9223372036854775807
theorem BrK.open {b : Fx.Browser} (h : BrK b) {o p : Fx.Origin} (ho : o.Host.size ≤ 100) (hp : p.Host.size ≤ 100) : BrK (openX b o p) ∧ (openX b o p).Tabs.length ≤ b.Tabs.length + 1 := by
  cases e : openB b o p with
  | false => rw [openX_f e]; exact ⟨h, Nat.le_succ _⟩
  | true =>
    rw [openX_t e]
    refine ⟨⟨h.st, fun t ht => ?_, h.asd⟩, by simp⟩
    rcases List.mem_append.1 ht with ht | ht
    · exact h.host t ht
    · obtain rfl := List.mem_singleton.1 ht
      exact ⟨ho, hp⟩
theorem BrK.at {b : Fx.Browser} (h : BrK b) (k : Nat) : (b.Tabs.getD k zTab).Origin.Host.size ≤ 100 ∧ (b.Tabs.getD k zTab).Top.Host.size ≤ 100 := by
  rw [List.getD_eq_getElem?_getD]
  rcases Nat.lt_or_ge k b.Tabs.length with hk | hk
  · rw [List.getElem?_eq_getElem hk]; exact h.host _ (List.getElem_mem hk)
  · rw [List.getElem?_eq_none hk]; decide
structure BrI (xs : List Int) (R v : BS) : Prop where
  ok : OkC xs v.s
  n8 : v.n ≤ 8
  l8 : v.b.Tabs.length + v.n ≤ 8
  kp : BrK v.b
  run : run16 xs v.n v = R
theorem pass16_t {xs : List Int} {y : BS} (e : (belV xs 3 (originS xs y.s) == 0) = true) : pass16 xs y = ⟨y.n - 1, openX y.b (origin0 xs y.s) (origin0 xs (belS xs 3 (originS xs y.s))), originS xs (belS xs 3 (originS xs y.s))⟩ := by unfold pass16; rw [e]
theorem pass16_f {xs : List Int} {y : BS} (e : (belV xs 3 (originS xs y.s) == 0) = false) : pass16 xs y = ⟨y.n - 1, openX y.b (origin0 xs y.s) (origin0 xs y.s), belS xs 3 (originS xs y.s)⟩ := by unfold pass16; rw [e]
theorem pass16_is {xs : List Int} {y : BS} (k : OkC xs y.s) (h : BrK y.b) : (pass16 xs y).n = y.n - 1 ∧ OkC xs (pass16 xs y).s ∧ BrK (pass16 xs y).b ∧ (pass16 xs y).b.Tabs.length ≤ y.b.Tabs.length + 1 := by
  cases e : (belV xs 3 (originS xs y.s) == 0) with
  | true => rw [pass16_t e]; exact ⟨rfl, originS_ok (belS_ok (originS_ok k)), h.open (origin_size _ _) (origin_size _ _)⟩
  | false => rw [pass16_f e]; exact ⟨rfl, belS_ok (originS_ok k), h.open (origin_size _ _) (origin_size _ _)⟩
theorem BrI.step {xs : List Int} {R v : BS} (h : BrI xs R v) (hn : 0 < v.n) : BrI xs R (pass16 xs v) := by
  obtain ⟨k0, k1, k2, k3⟩ := pass16_is h.ok h.kp
  have h1 := h.n8
  have h2 := h.l8
  refine ⟨k1, by omega, by omega, k2, ?_⟩
  have hr := h.run
  obtain ⟨m, hm⟩ : ∃ m, v.n = m + 1 := ⟨v.n - 1, by omega⟩
  rw [hm] at hr k0
  rw [k0, Nat.add_sub_cancel]
  exact hr
theorem bs0_n (xs : List Int) (s : Cu) : (bs0 xs s).n ≤ 8 ∧ 0 ≤ ([1, 2, 3, 8, 0] : List Int).getD (belV xs 5 (belS xs 5 (storeAnyS xs s))).toNat 0 := by
  have h : ∀ k : Nat, 0 ≤ ([1, 2, 3, 8, 0] : List Int).getD k 0 ∧ ([1, 2, 3, 8, 0] : List Int).getD k 0 ≤ 8 := fun k => by
    match k with
    | 0 | 1 | 2 | 3 | 4 => exact ⟨by simp, by simp⟩
    | k + 5 => exact ⟨by simp, by simp⟩
  have := h (belV xs 5 (belS xs 5 (storeAnyS xs s))).toNat
  refine ⟨?_, this.1⟩
  show (([1, 2, 3, 8, 0] : List Int).getD (belV xs 5 (belS xs 5 (storeAnyS xs s))).toNat 0).toNat ≤ 8
  omega
theorem bs0_is {xs : List Int} {s : Cu} (k : OkC xs s) : BrI xs (bro xs s) (bs0 xs s) :=
  ⟨belS_ok (belS_ok (storeAnyS_ok k)), (bs0_n xs s).1, by show 0 + (bs0 xs s).n ≤ 8; have := (bs0_n xs s).1; omega, ⟨storeAny_ok xs s, (fun t h => by cases h), bel64 _ _ _ (by decide) (by decide)⟩, rfl⟩
theorem BrI.all {xs : List Int} {R : BS} : ∀ (n : Nat) (v : BS), v.n = n → BrI xs R v → OkC xs R.s ∧ BrK R.b ∧ R.b.Tabs.length ≤ 8
  | 0, v, e, h => by
    have hr := h.run
    rw [e] at hr
    obtain rfl : v = R := hr
    exact ⟨h.ok, h.kp, by have := h.l8; omega⟩
  | n + 1, v, e, h => by
    obtain ⟨k0, -⟩ := pass16_is h.ok h.kp
    exact BrI.all n (pass16 xs v) (by omega) (h.step (by omega))
theorem broS_ok {xs : List Int} {s : Cu} (k : OkC xs s) : OkC xs (broS xs s) := (BrI.all _ _ rfl (bs0_is k)).1
theorem bro0_is {xs : List Int} {s : Cu} (k : OkC xs s) : BrK (bro0 xs s) ∧ (bro0 xs s).Tabs.length ≤ 8 := (BrI.all _ _ rfl (bs0_is k)).2
abbrev BrX (xs : List Int) (R : BS) : Type := { v : BS // BrI xs R v }
def brLp (xs : List Int) (R : BS) : Loops := fun r _ => match r with
  | 3 => some ⟨BrX xs R, fun v sl => only [0, 2, 3, 4] 0 (sl.set 4 (.one (.val (vI v.1.n)))), fun v obs => (1, .var 92 (cur xs v.1.s)) :: keepB [2, 10000] obs ++ [(20040, .var 28 [.val (.int .i64 (v.1.b).Store.Vendor), .val (.int .i64 (v.1.b).Store.Serial), .val (.int .i64 (v.1.b).Store.Seed), .val (.int .i64 (v.1.b).Store.Counter), .own 7, .val (.int .i64 (v.1.b).Asked)]), (7, .own (rowR 62 6 dasTab zTab v.1.b.Tabs))], fun v => v.1.n⟩
  | _ => none
def broCall : Option Tmp → FuncId → List Grp → Option (List Grp) := fun d _ a => match d, a with
  | some 30, [(_, [.val (.int _ v), .val (.int _ n), .val (.int _ k), .val (.int _ c), .row _ _ m el, .val (.int _ q)]), (_, [.val (.bool x1), .val (.string y1), .val (.int _ z1)]), (_, [.val (.bool x2), .val (.string y2), .val (.int _ z2)])] => some [(true, dasBrowser (openX ⟨⟨v, n, k, c⟩, unT m el, q⟩ ⟨x1, y1, z1⟩ ⟨x2, y2, z2⟩)), bV (openB ⟨⟨v, n, k, c⟩, unT m el, q⟩ ⟨x1, y1, z1⟩ ⟨x2, y2, z2⟩)]
  | _, _ => none
theorem cust_newB {old : World → Prop} {id : Nat} {o : Oper} {x y : Operand} {v n k c m : Int} (ho : o.op = .build 28 #[(0, x), (2, y)]) :
    Cust Tryz.prog old id o [.agg [.val (.int .i64 v), .val (.int .i64 n), .val (.int .i64 k), .val (.int .i64 c)], .one (.val (.int .i64 m))] [] ⟨[], .agg [.val (.int .i64 v), .val (.int .i64 n), .val (.int .i64 k), .val (.int .i64 c), .own id, .val (.int .i64 m)], [(id, .own (rowR 62 6 dasTab zTab ([] : List Fx.Tab)))]⟩ :=
  cust_val fun W0 obs ρ a w hold hm hv hos hun hne => by
    have hops : o.op.operands.toList = [x, y] := by rw [ho]; simp [Op.operands]
    rw [hops] at hv
    have e := vs_plain (us := [.agg #[.int .i64 v, .int .i64 n, .int .i64 k, .int .i64 c], .int .i64 m]) rfl hv
    have e1 : a.eval x = .agg #[.int .i64 v, .int .i64 n, .int .i64 k, .int .i64 c] := (List.cons.inj e).1
    have e2 : a.eval y = .int .i64 m := (List.cons.inj (List.cons.inj e).2).1
    refine ⟨.agg #[.int .i64 v, .int .i64 n, .int .i64 k, .int .i64 c, .slice none 0 0, .int .i64 m], w, ?_, ?_⟩
    · have hb : Program.built Tryz.prog 28 [(0, .agg #[.int .i64 v, .int .i64 n, .int .i64 k, .int .i64 c]), (2, .int .i64 m)] = some #[.int .i64 v, .int .i64 n, .int .i64 k, .int .i64 c, .slice none 0 0, .int .i64 m] := by kernel_rfl
      unfold execOp
      rw [ho]
      have hq : (#[(0, x), (2, y)].map fun (i, x) => (i, a.eval x)) = #[(0, .agg #[.int .i64 v, .int .i64 n, .int .i64 k, .int .i64 c]), (2, .int .i64 m)] := by simp [e1, e2]
      simp only [hq, Sem.run_bind, run_build w 28 #[(0, .agg #[.int .i64 v, .int .i64 n, .int .i64 k, .int .i64 c]), (2, .int .i64 m)] _ hb, Result.andThen_ok]
      rfl
    · have hnil : Owns w W0.heap.size (rowR 62 6 dasTab zTab ([] : List Fx.Tab)).dc (.slice none 0 0) [] := by
        rw [rowR_dc 62 zTab Tab.len dasTab_dc]
        simp only [Owns]
        exact ⟨[], [], Ow.At.of (World.ownsRow_nil _ _ _ _), ⟨rfl, rfl⟩, rfl⟩
      obtain ⟨ρ', h1, h2, h3⟩ := post_new (l := []) hm (hun id (Nat.le_refl _) (by omega)) (Below.refl _ _) (v := .slice none 0 0) (bs := []) rfl (by simp) (by simp) (ob_own hnil)
      exact ⟨ρ', h1, h2, _, rfl, _, _, rfl, rfl, _, _, rfl, rfl, _, _, rfl, rfl, _, _, rfl, rfl, _, _, rfl, h3, _, _, rfl, rfl, rfl⟩
theorem lnBro (xs : List Int) (s : Cu) (k : OkC xs s) : E22.LentCon Tryz.prog 52 92 (cur xs s) ([]) ([(true, dasBrowser (bro0 xs s))]) (cur xs (broS xs s)) := by
  refine E22.lent_go (p := fun R => ((Cust Tryz.prog (fun x => True) 20008 (opOf (Tryz.f52.body.getD Code.skip) 1 1) [AV.one (Sc.val (Value.func (Fn.func 84) { toList := [] } { toList := [] })), AV.one (Sc.ptr 1 0)] [Ob.var 92 (cur xs s)] { need := [], val := AV.agg [Sc.val (vI (storeAny0 xs s).Vendor), Sc.val (vI (storeAny0 xs s).Serial), Sc.val (vI (storeAny0 xs s).Seed), Sc.val (vI (storeAny0 xs s).Counter)], mem := [(1, Ob.var 92 (cur xs (storeAnyS xs s)))] }) ∧ ((Cust Tryz.prog (fun x => True) 20024 (opOf (Tryz.f52.body.getD Code.skip) 1 3) [AV.one (Sc.val (Value.func (Fn.func 24) { toList := [] } { toList := [] })), AV.one (Sc.ptr 1 0), AV.one (Sc.val (vI 5))] [Ob.var 92 (cur xs (storeAnyS xs s))] { need := [], val := AV.one (Sc.val (vI (belV xs 5 (storeAnyS xs s)))), mem := [(1, Ob.var 92 (cur xs (belS xs 5 (storeAnyS xs s))))] }) ∧ ((Cust Tryz.prog (fun x => True) 20032 (opOf (Tryz.f52.body.getD Code.skip) 1 4) [AV.agg [Sc.val (vI (storeAny0 xs s).Vendor), Sc.val (vI (storeAny0 xs s).Serial), Sc.val (vI (storeAny0 xs s).Seed), Sc.val (vI (storeAny0 xs s).Counter)], AV.one (Sc.val (vI (belV xs 5 (storeAnyS xs s))))] [] { need := [], val := AV.agg [Sc.val (vI (storeAny0 xs s).Vendor), Sc.val (vI (storeAny0 xs s).Serial), Sc.val (vI (storeAny0 xs s).Seed), Sc.val (vI (storeAny0 xs s).Counter), Sc.own 20032, Sc.val (vI (belV xs 5 (storeAnyS xs s)))], mem := [(20032, Ob.own (Da.row 62 6 0 fun i j => (dasTab ([].getD i zTab)).getD j (Da.val undef)))] }) ∧ ((Cust Tryz.prog (fun x => True) 30016 (opOf (Tryz.f52.body.getD Code.skip) 2 2) [AV.one (Sc.val (Value.func (Fn.func 85) { toList := [] } { toList := [] })), AV.one (Sc.ptr 1 0), AV.one (Sc.own 30008)] [Ob.var 92 (cur xs (belS xs 5 (storeAnyS xs s))), Ob.own (Da.row 3 1 5 fun i j => Da.val ([vI 1, vI 2, vI 3, vI 8, vI 0].getD (i * 1 + j) undef))] { need := [], val := AV.one (Sc.val (vI ([1, 2, 3, 8, 0].getD (belV xs 5 (belS xs 5 (storeAnyS xs s))).toNat 0))), mem := [(1, Ob.var 92 (cur xs (belS xs 5 (belS xs 5 (storeAnyS xs s)))))] }) ∧ ((∃ x0 : BrX xs (bro xs s), (((some 1 = some 1 ∧ 0 = 0) ∧ ((some 10000 = some 10000 ∧ 0 = 0) ∧ ((some 20040 = some 20040 ∧ 0 = 0) ∧ (vI ([1, 2, 3, 8, 0].getD (belV xs 5 (belS xs 5 (storeAnyS xs s))).toNat 0) = vI (↑x0.1.n : Int) ∧ True)))) ∧ ((92 = 92 ∧ ((DaEq (Da.row 5 1 xs.length fun i x => Da.val (Value.int IntKind.u8 (xs.getD i 0))) (Da.row 5 1 xs.length fun i x => Da.val (Value.int IntKind.u8 (xs.getD i 0)))) ∧ (vI (belS xs 5 (belS xs 5 (storeAnyS xs s))).i = vI x0.1.s.i ∧ vI (belS xs 5 (belS xs 5 (storeAnyS xs s))).h = vI x0.1.s.h))) ∧ (AbsLe R R ∧ ((28 = 28 ∧ (vI 0 = vI 0 ∧ (vI 0 = vI 0 ∧ (vI 0 = vI 0 ∧ (vI 0 = vI 0 ∧ (Value.slice none 0 0 = Value.slice none 0 0 ∧ vI 0 = vI 0)))))) ∧ ((28 = 28 ∧ (vI (storeAny0 xs s).Vendor = vI x0.1.b.Store.Vendor ∧ (vI (storeAny0 xs s).Serial = vI x0.1.b.Store.Serial ∧ (vI (storeAny0 xs s).Seed = vI x0.1.b.Store.Seed ∧ (vI (storeAny0 xs s).Counter = vI x0.1.b.Store.Counter ∧ (some 20032 = some 20032 ∧ vI (belV xs 5 (storeAnyS xs s)) = vI x0.1.b.Asked)))))) ∧ ((DaEq (Da.row 62 6 0 fun i j => (dasTab ([].getD i zTab)).getD j (Da.val undef)) (rowR 62 6 dasTab zTab x0.1.b.Tabs)) ∧ True))))))) ∧ (∀ v : BrX xs (bro xs s), bcase (decide ((↑v.1.n : Int) > 0)) ((Cust Tryz.prog (fun x => True) 60008 (opOf (Tryz.f52.body.getD Code.skip) 5 1) [AV.one (Sc.val (Value.func (Fn.func 86) { toList := [] } { toList := [] })), AV.one (Sc.ptr 1 0)] [Ob.var 92 (cur xs v.1.s)] { need := [], val := AV.agg [Sc.val (Value.bool (origin0 xs v.1.s).Secure), Sc.val (Value.string (origin0 xs v.1.s).Host), Sc.val (vI (origin0 xs v.1.s).Port)], mem := [(1, Ob.var 92 (cur xs (originS xs v.1.s)))] }) ∧ ((Cust Tryz.prog (fun x => True) 80008 (opOf (Tryz.f52.body.getD Code.skip) 7 1) [AV.one (Sc.val (Value.func (Fn.func 25) { toList := [] } { toList := [] })), AV.one (Sc.ptr 1 0), AV.one (Sc.val (vI 3))] [Ob.var 92 (cur xs (originS xs v.1.s))] { need := [], val := AV.one (Sc.val (Value.bool (belV xs 3 (originS xs v.1.s) == 0))), mem := [(1, Ob.var 92 (cur xs (belS xs 3 (originS xs v.1.s))))] }) ∧ bcase (belV xs 3 (originS xs v.1.s) == 0) ((Cust Tryz.prog (fun x => True) 90008 (opOf (Tryz.f52.body.getD Code.skip) 8 1) [AV.one (Sc.val (Value.func (Fn.func 86) { toList := [] } { toList := [] })), AV.one (Sc.ptr 1 0)] [Ob.var 92 (cur xs (belS xs 3 (originS xs v.1.s)))] { need := [], val := AV.agg [Sc.val (Value.bool (origin0 xs (belS xs 3 (originS xs v.1.s))).Secure), Sc.val (Value.string (origin0 xs (belS xs 3 (originS xs v.1.s))).Host), Sc.val (vI (origin0 xs (belS xs 3 (originS xs v.1.s))).Port)], mem := [(1, Ob.var 92 (cur xs (originS xs (belS xs 3 (originS xs v.1.s)))))] }) ∧ ((FnCon Tryz.prog 87 [(true, [dI (v.1.b.Store.Vendor), dI (v.1.b.Store.Serial), dI (v.1.b.Store.Seed), dI (v.1.b.Store.Counter), rowR 62 6 dasTab zTab v.1.b.Tabs, dI (v.1.b.Asked)]), (true, (dasOrigin (origin0 xs v.1.s))), (true, [dB ((origin0 xs (belS xs 3 (originS xs v.1.s))).Secure), dS ((origin0 xs (belS xs 3 (originS xs v.1.s))).Host), dI ((origin0 xs (belS xs 3 (originS xs v.1.s))).Port)])] [(true, dasBrowser (openX { Store := { Vendor := v.1.b.Store.Vendor, Serial := v.1.b.Store.Serial, Seed := v.1.b.Store.Seed, Counter := v.1.b.Store.Counter }, Tabs := unT v.1.b.Tabs.length fun i j => (dasTab (v.1.b.Tabs.getD i zTab)).getD j (Da.val undef), Asked := v.1.b.Asked } { Secure := (origin0 xs v.1.s).Secure, Host := (origin0 xs v.1.s).Host, Port := (origin0 xs v.1.s).Port } { Secure := (origin0 xs (belS xs 3 (originS xs v.1.s))).Secure, Host := (origin0 xs (belS xs 3 (originS xs v.1.s))).Host, Port := (origin0 xs (belS xs 3 (originS xs v.1.s))).Port })), (false, [dB ((openB { Store := { Vendor := v.1.b.Store.Vendor, Serial := v.1.b.Store.Serial, Seed := v.1.b.Store.Seed, Counter := v.1.b.Store.Counter }, Tabs := unT v.1.b.Tabs.length fun i j => (dasTab (v.1.b.Tabs.getD i zTab)).getD j (Da.val undef), Asked := v.1.b.Asked } { Secure := (origin0 xs v.1.s).Secure, Host := (origin0 xs v.1.s).Host, Port := (origin0 xs v.1.s).Port } { Secure := (origin0 xs (belS xs 3 (originS xs v.1.s))).Secure, Host := (origin0 xs (belS xs 3 (originS xs v.1.s))).Host, Port := (origin0 xs (belS xs 3 (originS xs v.1.s))).Port }))])]) ∧ (∃ v' : BrX xs (bro xs s), (v'.val.1 < v.val.1 ∧ (((some 1 = some 1 ∧ 0 = 0) ∧ ((some 10000 = some 10000 ∧ 0 = 0) ∧ ((some 20040 = some 20040 ∧ 0 = 0) ∧ (vI (IntKind.i64.wrap ((↑v.1.n : Int) - 1)) = vI (↑v'.1.n : Int) ∧ True)))) ∧ ((92 = 92 ∧ ((DaEq (Da.row 5 1 xs.length fun i x => Da.val (Value.int IntKind.u8 (xs.getD i 0))) (Da.row 5 1 xs.length fun i x => Da.val (Value.int IntKind.u8 (xs.getD i 0)))) ∧ (vI (originS xs (belS xs 3 (originS xs v.1.s))).i = vI v'.1.s.i ∧ vI (originS xs (belS xs 3 (originS xs v.1.s))).h = vI v'.1.s.h))) ∧ (AbsLe R R ∧ ((28 = 28 ∧ (vI 0 = vI 0 ∧ (vI 0 = vI 0 ∧ (vI 0 = vI 0 ∧ (vI 0 = vI 0 ∧ (Value.slice none 0 0 = Value.slice none 0 0 ∧ vI 0 = vI 0)))))) ∧ ((28 = 28 ∧ ((vI (openX { Store := { Vendor := v.1.b.Store.Vendor, Serial := v.1.b.Store.Serial, Seed := v.1.b.Store.Seed, Counter := v.1.b.Store.Counter }, Tabs := unT v.1.b.Tabs.length fun i j => (dasTab (v.1.b.Tabs.getD i zTab)).getD j (Da.val undef), Asked := v.1.b.Asked } { Secure := (origin0 xs v.1.s).Secure, Host := (origin0 xs v.1.s).Host, Port := (origin0 xs v.1.s).Port } { Secure := (origin0 xs (belS xs 3 (originS xs v.1.s))).Secure, Host := (origin0 xs (belS xs 3 (originS xs v.1.s))).Host, Port := (origin0 xs (belS xs 3 (originS xs v.1.s))).Port }).Store.Vendor = vI v'.1.b.Store.Vendor) ∧ ((vI (openX { Store := { Vendor := v.1.b.Store.Vendor, Serial := v.1.b.Store.Serial, Seed := v.1.b.Store.Seed, Counter := v.1.b.Store.Counter }, Tabs := unT v.1.b.Tabs.length fun i j => (dasTab (v.1.b.Tabs.getD i zTab)).getD j (Da.val undef), Asked := v.1.b.Asked } { Secure := (origin0 xs v.1.s).Secure, Host := (origin0 xs v.1.s).Host, Port := (origin0 xs v.1.s).Port } { Secure := (origin0 xs (belS xs 3 (originS xs v.1.s))).Secure, Host := (origin0 xs (belS xs 3 (originS xs v.1.s))).Host, Port := (origin0 xs (belS xs 3 (originS xs v.1.s))).Port }).Store.Serial = vI v'.1.b.Store.Serial) ∧ ((vI (openX { Store := { Vendor := v.1.b.Store.Vendor, Serial := v.1.b.Store.Serial, Seed := v.1.b.Store.Seed, Counter := v.1.b.Store.Counter }, Tabs := unT v.1.b.Tabs.length fun i j => (dasTab (v.1.b.Tabs.getD i zTab)).getD j (Da.val undef), Asked := v.1.b.Asked } { Secure := (origin0 xs v.1.s).Secure, Host := (origin0 xs v.1.s).Host, Port := (origin0 xs v.1.s).Port } { Secure := (origin0 xs (belS xs 3 (originS xs v.1.s))).Secure, Host := (origin0 xs (belS xs 3 (originS xs v.1.s))).Host, Port := (origin0 xs (belS xs 3 (originS xs v.1.s))).Port }).Store.Seed = vI v'.1.b.Store.Seed) ∧ ((vI (openX { Store := { Vendor := v.1.b.Store.Vendor, Serial := v.1.b.Store.Serial, Seed := v.1.b.Store.Seed, Counter := v.1.b.Store.Counter }, Tabs := unT v.1.b.Tabs.length fun i j => (dasTab (v.1.b.Tabs.getD i zTab)).getD j (Da.val undef), Asked := v.1.b.Asked } { Secure := (origin0 xs v.1.s).Secure, Host := (origin0 xs v.1.s).Host, Port := (origin0 xs v.1.s).Port } { Secure := (origin0 xs (belS xs 3 (originS xs v.1.s))).Secure, Host := (origin0 xs (belS xs 3 (originS xs v.1.s))).Host, Port := (origin0 xs (belS xs 3 (originS xs v.1.s))).Port }).Store.Counter = vI v'.1.b.Store.Counter) ∧ (some 100024 = some 100024 ∧ (vI (openX { Store := { Vendor := v.1.b.Store.Vendor, Serial := v.1.b.Store.Serial, Seed := v.1.b.Store.Seed, Counter := v.1.b.Store.Counter }, Tabs := unT v.1.b.Tabs.length fun i j => (dasTab (v.1.b.Tabs.getD i zTab)).getD j (Da.val undef), Asked := v.1.b.Asked } { Secure := (origin0 xs v.1.s).Secure, Host := (origin0 xs v.1.s).Host, Port := (origin0 xs v.1.s).Port } { Secure := (origin0 xs (belS xs 3 (originS xs v.1.s))).Secure, Host := (origin0 xs (belS xs 3 (originS xs v.1.s))).Host, Port := (origin0 xs (belS xs 3 (originS xs v.1.s))).Port }).Asked = vI v'.1.b.Asked))))))) ∧ ((DaEq (Da.row 62 6 (openX { Store := { Vendor := v.1.b.Store.Vendor, Serial := v.1.b.Store.Serial, Seed := v.1.b.Store.Seed, Counter := v.1.b.Store.Counter }, Tabs := unT v.1.b.Tabs.length fun i j => (dasTab (v.1.b.Tabs.getD i zTab)).getD j (Da.val undef), Asked := v.1.b.Asked } { Secure := (origin0 xs v.1.s).Secure, Host := (origin0 xs v.1.s).Host, Port := (origin0 xs v.1.s).Port } { Secure := (origin0 xs (belS xs 3 (originS xs v.1.s))).Secure, Host := (origin0 xs (belS xs 3 (originS xs v.1.s))).Host, Port := (origin0 xs (belS xs 3 (originS xs v.1.s))).Port }).Tabs.length fun i j => (dasTab ((openX { Store := { Vendor := v.1.b.Store.Vendor, Serial := v.1.b.Store.Serial, Seed := v.1.b.Store.Seed, Counter := v.1.b.Store.Counter }, Tabs := unT v.1.b.Tabs.length fun i j => (dasTab (v.1.b.Tabs.getD i zTab)).getD j (Da.val undef), Asked := v.1.b.Asked } { Secure := (origin0 xs v.1.s).Secure, Host := (origin0 xs v.1.s).Host, Port := (origin0 xs v.1.s).Port } { Secure := (origin0 xs (belS xs 3 (originS xs v.1.s))).Secure, Host := (origin0 xs (belS xs 3 (originS xs v.1.s))).Host, Port := (origin0 xs (belS xs 3 (originS xs v.1.s))).Port }).Tabs.getD i zTab)).getD j (Da.val undef)) (rowR 62 6 dasTab zTab v'.1.b.Tabs)) ∧ True)))))))))) ((FnCon Tryz.prog 87 [(true, [dI (v.1.b.Store.Vendor), dI (v.1.b.Store.Serial), dI (v.1.b.Store.Seed), dI (v.1.b.Store.Counter), rowR 62 6 dasTab zTab v.1.b.Tabs, dI (v.1.b.Asked)]), (true, (dasOrigin (origin0 xs v.1.s))), (true, (dasOrigin (origin0 xs v.1.s)))] [(true, dasBrowser (openX { Store := { Vendor := v.1.b.Store.Vendor, Serial := v.1.b.Store.Serial, Seed := v.1.b.Store.Seed, Counter := v.1.b.Store.Counter }, Tabs := unT v.1.b.Tabs.length fun i j => (dasTab (v.1.b.Tabs.getD i zTab)).getD j (Da.val undef), Asked := v.1.b.Asked } { Secure := (origin0 xs v.1.s).Secure, Host := (origin0 xs v.1.s).Host, Port := (origin0 xs v.1.s).Port } { Secure := (origin0 xs v.1.s).Secure, Host := (origin0 xs v.1.s).Host, Port := (origin0 xs v.1.s).Port })), (false, [dB ((openB { Store := { Vendor := v.1.b.Store.Vendor, Serial := v.1.b.Store.Serial, Seed := v.1.b.Store.Seed, Counter := v.1.b.Store.Counter }, Tabs := unT v.1.b.Tabs.length fun i j => (dasTab (v.1.b.Tabs.getD i zTab)).getD j (Da.val undef), Asked := v.1.b.Asked } { Secure := (origin0 xs v.1.s).Secure, Host := (origin0 xs v.1.s).Host, Port := (origin0 xs v.1.s).Port } { Secure := (origin0 xs v.1.s).Secure, Host := (origin0 xs v.1.s).Host, Port := (origin0 xs v.1.s).Port }))])]) ∧ (∃ v' : BrX xs (bro xs s), (v'.val.1 < v.val.1 ∧ (((some 1 = some 1 ∧ 0 = 0) ∧ ((some 10000 = some 10000 ∧ 0 = 0) ∧ ((some 20040 = some 20040 ∧ 0 = 0) ∧ (vI (IntKind.i64.wrap ((↑v.1.n : Int) - 1)) = vI (↑v'.1.n : Int) ∧ True)))) ∧ ((92 = 92 ∧ ((DaEq (Da.row 5 1 xs.length fun i x => Da.val (Value.int IntKind.u8 (xs.getD i 0))) (Da.row 5 1 xs.length fun i x => Da.val (Value.int IntKind.u8 (xs.getD i 0)))) ∧ (vI (belS xs 3 (originS xs v.1.s)).i = vI v'.1.s.i ∧ vI (belS xs 3 (originS xs v.1.s)).h = vI v'.1.s.h))) ∧ (AbsLe R R ∧ ((28 = 28 ∧ (vI 0 = vI 0 ∧ (vI 0 = vI 0 ∧ (vI 0 = vI 0 ∧ (vI 0 = vI 0 ∧ (Value.slice none 0 0 = Value.slice none 0 0 ∧ vI 0 = vI 0)))))) ∧ ((28 = 28 ∧ ((vI (openX { Store := { Vendor := v.1.b.Store.Vendor, Serial := v.1.b.Store.Serial, Seed := v.1.b.Store.Seed, Counter := v.1.b.Store.Counter }, Tabs := unT v.1.b.Tabs.length fun i j => (dasTab (v.1.b.Tabs.getD i zTab)).getD j (Da.val undef), Asked := v.1.b.Asked } { Secure := (origin0 xs v.1.s).Secure, Host := (origin0 xs v.1.s).Host, Port := (origin0 xs v.1.s).Port } { Secure := (origin0 xs v.1.s).Secure, Host := (origin0 xs v.1.s).Host, Port := (origin0 xs v.1.s).Port }).Store.Vendor = vI v'.1.b.Store.Vendor) ∧ ((vI (openX { Store := { Vendor := v.1.b.Store.Vendor, Serial := v.1.b.Store.Serial, Seed := v.1.b.Store.Seed, Counter := v.1.b.Store.Counter }, Tabs := unT v.1.b.Tabs.length fun i j => (dasTab (v.1.b.Tabs.getD i zTab)).getD j (Da.val undef), Asked := v.1.b.Asked } { Secure := (origin0 xs v.1.s).Secure, Host := (origin0 xs v.1.s).Host, Port := (origin0 xs v.1.s).Port } { Secure := (origin0 xs v.1.s).Secure, Host := (origin0 xs v.1.s).Host, Port := (origin0 xs v.1.s).Port }).Store.Serial = vI v'.1.b.Store.Serial) ∧ ((vI (openX { Store := { Vendor := v.1.b.Store.Vendor, Serial := v.1.b.Store.Serial, Seed := v.1.b.Store.Seed, Counter := v.1.b.Store.Counter }, Tabs := unT v.1.b.Tabs.length fun i j => (dasTab (v.1.b.Tabs.getD i zTab)).getD j (Da.val undef), Asked := v.1.b.Asked } { Secure := (origin0 xs v.1.s).Secure, Host := (origin0 xs v.1.s).Host, Port := (origin0 xs v.1.s).Port } { Secure := (origin0 xs v.1.s).Secure, Host := (origin0 xs v.1.s).Host, Port := (origin0 xs v.1.s).Port }).Store.Seed = vI v'.1.b.Store.Seed) ∧ ((vI (openX { Store := { Vendor := v.1.b.Store.Vendor, Serial := v.1.b.Store.Serial, Seed := v.1.b.Store.Seed, Counter := v.1.b.Store.Counter }, Tabs := unT v.1.b.Tabs.length fun i j => (dasTab (v.1.b.Tabs.getD i zTab)).getD j (Da.val undef), Asked := v.1.b.Asked } { Secure := (origin0 xs v.1.s).Secure, Host := (origin0 xs v.1.s).Host, Port := (origin0 xs v.1.s).Port } { Secure := (origin0 xs v.1.s).Secure, Host := (origin0 xs v.1.s).Host, Port := (origin0 xs v.1.s).Port }).Store.Counter = vI v'.1.b.Store.Counter) ∧ (some 100024 = some 100024 ∧ (vI (openX { Store := { Vendor := v.1.b.Store.Vendor, Serial := v.1.b.Store.Serial, Seed := v.1.b.Store.Seed, Counter := v.1.b.Store.Counter }, Tabs := unT v.1.b.Tabs.length fun i j => (dasTab (v.1.b.Tabs.getD i zTab)).getD j (Da.val undef), Asked := v.1.b.Asked } { Secure := (origin0 xs v.1.s).Secure, Host := (origin0 xs v.1.s).Host, Port := (origin0 xs v.1.s).Port } { Secure := (origin0 xs v.1.s).Secure, Host := (origin0 xs v.1.s).Host, Port := (origin0 xs v.1.s).Port }).Asked = vI v'.1.b.Asked))))))) ∧ ((DaEq (Da.row 62 6 (openX { Store := { Vendor := v.1.b.Store.Vendor, Serial := v.1.b.Store.Serial, Seed := v.1.b.Store.Seed, Counter := v.1.b.Store.Counter }, Tabs := unT v.1.b.Tabs.length fun i j => (dasTab (v.1.b.Tabs.getD i zTab)).getD j (Da.val undef), Asked := v.1.b.Asked } { Secure := (origin0 xs v.1.s).Secure, Host := (origin0 xs v.1.s).Host, Port := (origin0 xs v.1.s).Port } { Secure := (origin0 xs v.1.s).Secure, Host := (origin0 xs v.1.s).Host, Port := (origin0 xs v.1.s).Port }).Tabs.length fun i j => (dasTab ((openX { Store := { Vendor := v.1.b.Store.Vendor, Serial := v.1.b.Store.Serial, Seed := v.1.b.Store.Seed, Counter := v.1.b.Store.Counter }, Tabs := unT v.1.b.Tabs.length fun i j => (dasTab (v.1.b.Tabs.getD i zTab)).getD j (Da.val undef), Asked := v.1.b.Asked } { Secure := (origin0 xs v.1.s).Secure, Host := (origin0 xs v.1.s).Host, Port := (origin0 xs v.1.s).Port } { Secure := (origin0 xs v.1.s).Secure, Host := (origin0 xs v.1.s).Host, Port := (origin0 xs v.1.s).Port }).Tabs.getD i zTab)).getD j (Da.val undef)) (rowR 62 6 dasTab zTab v'.1.b.Tabs)) ∧ True))))))))))) ((true = true ∧ (vI v.1.b.Store.Vendor = vI (bro0 xs s).Store.Vendor ∧ (vI v.1.b.Store.Serial = vI (bro0 xs s).Store.Serial ∧ (vI v.1.b.Store.Seed = vI (bro0 xs s).Store.Seed ∧ (vI v.1.b.Store.Counter = vI (bro0 xs s).Store.Counter ∧ ((DaEq (rowR 62 6 dasTab zTab v.1.b.Tabs) (Da.row 62 6 (bro0 xs s).Tabs.length fun i j => (dasTab ((bro0 xs s).Tabs.getD i zTab)).getD j (Da.val undef))) ∧ vI v.1.b.Asked = vI (bro0 xs s).Asked)))))) ∧ ((92 = 92 ∧ ((Sc.old (Da.row 5 1 xs.length fun i x => Da.val (Value.int IntKind.u8 (xs.getD i 0))) = Sc.old (Da.row 5 1 xs.length fun i x => Da.val (Value.int IntKind.u8 (xs.getD i 0)))) ∧ (vI v.1.s.i = vI (broS xs s).i ∧ vI v.1.s.h = vI (broS xs s).h))) ∧ R = R))))))))) (⟨broCall, fun id vs os => match id with | 20008 => (match os with | .var _ [_, .val (.int _ i), .val (.int _ h)] :: _ => some ⟨[], E7.resAV (E7.grpNew 20008 [(true, dasKeyStore (storeAny0 xs ⟨i, h⟩))]).1, (1, .var 92 (cur xs (storeAnyS xs ⟨i, h⟩))) :: (E7.grpNew 20008 [(true, dasKeyStore (storeAny0 xs ⟨i, h⟩))]).2.1⟩ | _ => none) | 20024 => (match os with | .var _ [_, .val (.int _ i), .val (.int _ h)] :: _ => some ⟨[], .one (.val (.int .i64 (belV xs 5 ⟨i, h⟩))), [(1, .var 92 (cur xs (belS xs 5 ⟨i, h⟩)))]⟩ | _ => none) | 30016 => (match os with | .var _ [_, .val (.int _ i), .val (.int _ h)] :: _ => some ⟨[], .one (.val (.int .i64 (([1, 2, 3, 8, 0] : List Int).getD (belV xs 5 ⟨i, h⟩).toNat 0))), [(1, .var 92 (cur xs (belS xs 5 ⟨i, h⟩)))]⟩ | _ => none) | 60008 => (match os with | .var _ [_, .val (.int _ i), .val (.int _ h)] :: _ => some ⟨[], E7.resAV (E7.grpNew 60008 [(true, dasOrigin (origin0 xs ⟨i, h⟩))]).1, (1, .var 92 (cur xs (originS xs ⟨i, h⟩))) :: (E7.grpNew 60008 [(true, dasOrigin (origin0 xs ⟨i, h⟩))]).2.1⟩ | _ => none) | 80008 => (match os with | .var _ [_, .val (.int _ i), .val (.int _ h)] :: _ => some ⟨[], .one (.val (.bool (belV xs 3 ⟨i, h⟩ == 0))), [(1, .var 92 (cur xs (belS xs 3 ⟨i, h⟩)))]⟩ | _ => none) | 90008 => (match os with | .var _ [_, .val (.int _ i), .val (.int _ h)] :: _ => some ⟨[], E7.resAV (E7.grpNew 90008 [(true, dasOrigin (origin0 xs ⟨i, h⟩))]).1, (1, .var 92 (cur xs (originS xs ⟨i, h⟩))) :: (E7.grpNew 90008 [(true, dasOrigin (origin0 xs ⟨i, h⟩))]).2.1⟩ | _ => none) | 20032 => ((match vs with | [.agg [.val (.int _ v), .val (.int _ n), .val (.int _ k), .val (.int _ c)], .one (.val (.int _ m))] => some ⟨[], .agg [.val (.int .i64 v), .val (.int .i64 n), .val (.int .i64 k), .val (.int .i64 c), .own 20032, .val (.int .i64 m)], [(20032, .own (rowR 62 6 dasTab zTab ([] : List Fx.Tab)))]⟩ | _ => none)) | _ => none, fun _ => True⟩) (brLp xs (bro xs s)) Tryz.func52 (by kernel_rfl) (by kernel_rfl) (by kernel_rfl) (fun _ => trivial) rfl (by kernel_rfl) ?_
  intro R hR
  refine ⟨?g0, ?g1, ?g2, ?g3, ⟨⟨bs0 xs s, bs0_is k⟩, ⟨⟨⟨rfl, rfl⟩, ⟨rfl, rfl⟩, ⟨rfl, rfl⟩, congrArg _ ?g5, trivial⟩, ⟨rfl, DaEq.refl _, congrArg _ ?g6, congrArg _ ?g7⟩, ?g8, ⟨rfl, rfl, rfl, rfl, rfl, rfl, rfl⟩, ⟨rfl, congrArg _ ?g9, congrArg _ ?g10, congrArg _ ?g11, congrArg _ ?g12, rfl, congrArg _ ?g13⟩, ?g14, trivial⟩⟩, fun v => bcase_intro (fun h15 => ⟨?g16, ?g17, bcase_intro (fun h18 => ⟨?g19, ?g20, ⟨⟨pass16 xs v.1, BrI.step v.2 ?wa⟩, ⟨?g22, ⟨⟨rfl, rfl⟩, ⟨rfl, rfl⟩, ⟨rfl, rfl⟩, congrArg _ ?g23, trivial⟩, ⟨rfl, DaEq.refl _, congrArg _ ?g24, congrArg _ ?g25⟩, ?g26, ⟨rfl, rfl, rfl, rfl, rfl, rfl, rfl⟩, ⟨rfl, congrArg _ ?g27, congrArg _ ?g28, congrArg _ ?g29, congrArg _ ?g30, rfl, congrArg _ ?g31⟩, ?g32, trivial⟩⟩⟩) (fun h18 => ⟨?g33, ⟨⟨pass16 xs v.1, BrI.step v.2 ?wb⟩, ⟨?g35, ⟨⟨rfl, rfl⟩, ⟨rfl, rfl⟩, ⟨rfl, rfl⟩, congrArg _ ?g36, trivial⟩, ⟨rfl, DaEq.refl _, congrArg _ ?g37, congrArg _ ?g38⟩, ?g39, ⟨rfl, rfl, rfl, rfl, rfl, rfl, rfl⟩, ⟨rfl, congrArg _ ?g40, congrArg _ ?g41, congrArg _ ?g42, congrArg _ ?g43, rfl, congrArg _ ?g44⟩, ?g45, trivial⟩⟩⟩)⟩) (fun h15 => ⟨⟨rfl, congrArg _ ?g46, congrArg _ ?g47, congrArg _ ?g48, congrArg _ ?g49, ?g50, congrArg _ ?g51⟩, ⟨rfl, rfl, congrArg _ ?g52, congrArg _ ?g53⟩, rfl⟩)⟩
  case g0 => exact cust_lent rfl rfl rfl rfl rfl rfl rfl rfl (lnStoreAny xs _ (by with_reducible repeat first | exact k | exact v.2.ok | apply belS_ok | apply storeAnyS_ok | apply originS_ok | apply hostAnyS_ok | apply broS_ok)) rfl (by omega)
  case g1 => exact cust_lent rfl rfl rfl rfl rfl rfl rfl rfl (lnB xs _ _ (by with_reducible repeat first | exact k | exact v.2.ok | apply belS_ok | apply storeAnyS_ok | apply originS_ok | apply hostAnyS_ok | apply broS_ok) (by omega)) rfl (by omega)
  case g2 => exact cust_newB rfl
  case g3 => exact cust_intL rfl rfl rfl rfl rfl (fun _ _ => elm) rfl (by decide) (by decide) (by with_reducible repeat first | exact k | exact v.2.ok | apply belS_ok | apply storeAnyS_ok | apply originS_ok | apply hostAnyS_ok | apply broS_ok)
  case g16 => exact cust_lent rfl rfl rfl rfl rfl rfl rfl rfl (lnOrigin xs _ (by with_reducible repeat first | exact k | exact v.2.ok | apply belS_ok | apply storeAnyS_ok | apply originS_ok | apply hostAnyS_ok | apply broS_ok)) rfl (by omega)
  case g17 => exact cust_lent rfl rfl rfl rfl rfl rfl rfl rfl (lnOnce xs _ _ (by with_reducible repeat first | exact k | exact v.2.ok | apply belS_ok | apply storeAnyS_ok | apply originS_ok | apply hostAnyS_ok | apply broS_ok) (by omega)) rfl (by omega)
  case g19 => exact cust_lent rfl rfl rfl rfl rfl rfl rfl rfl (lnOrigin xs _ (by with_reducible repeat first | exact k | exact v.2.ok | apply belS_ok | apply storeAnyS_ok | apply originS_ok | apply hostAnyS_ok | apply broS_ok)) rfl (by omega)
  case g5 => exact (Int.toNat_of_nonneg (bs0_n xs s).2).symm
  case g6 | g7 | g9 | g10 | g11 | g12 | g13 => rfl
  case g8 | g26 | g39 => exact hR
  case g14 => exact row_to row_self rfl
  all_goals have hI := v.2
  all_goals have hn8 := hI.n8
  all_goals have hl8 := hI.l8
  case g46 | g47 | g48 | g49 | g50 | g51 | g52 | g53 =>
    have h15 := of_decide_eq_false h15
    have h0 : v.1.n = 0 := by omega
    have hr := hI.run
    rw [h0] at hr
    have hr : v.1 = bro xs s := hr
    first
      | exact congrArg (fun y : BS => y.b.Store.Vendor) hr
      | exact congrArg (fun y : BS => y.b.Store.Serial) hr
      | exact congrArg (fun y : BS => y.b.Store.Seed) hr
      | exact congrArg (fun y : BS => y.b.Store.Counter) hr
      | exact congrArg (fun y : BS => y.b.Asked) hr
      | exact congrArg (fun y : BS => y.s.i) hr
      | exact congrArg (fun y : BS => y.s.h) hr
      | exact row_to row_self (congrArg (fun y : BS => y.b.Tabs) hr)
  all_goals have h15 := of_decide_eq_true h15
  all_goals try simp only [unT_self]
  case g20 | g33 => exact C16s.conOpen v.1.b _ _ (by omega) (by have := origin_size xs v.1.s; omega) (by first | (have := origin_size xs v.1.s; omega) | (have := origin_size xs (belS xs 3 (originS xs v.1.s)); omega))
  all_goals have hpn := (pass16_is hI.ok hI.kp).1
  case g22 | g35 => show (pass16 xs v.1).n < v.1.n; omega
  case g23 | g36 => show IntKind.i64.wrap ((v.1.n : Int) - 1) = ((pass16 xs v.1).n : Int); rw [IntWalk.i64_in _ (by omega), hpn]; omega
  case wa | wb => omega
  all_goals
    first
      | have eP := pass16_t h18
      | have eP := pass16_f h18
    first
      | exact (congrArg (fun y : BS => y.b.Store.Vendor) eP).symm
      | exact (congrArg (fun y : BS => y.b.Store.Serial) eP).symm
      | exact (congrArg (fun y : BS => y.b.Store.Seed) eP).symm
      | exact (congrArg (fun y : BS => y.b.Store.Counter) eP).symm
      | exact (congrArg (fun y : BS => y.b.Asked) eP).symm
      | exact (congrArg (fun y : BS => y.s.i) eP).symm
      | exact (congrArg (fun y : BS => y.s.h) eP).symm
      | exact row_to row_self (congrArg (fun y : BS => y.b.Tabs) eP).symm
def askN (xs : List Int) : Int := IntKind.i64.wrap (((bro0 xs (start xs)).Tabs.length : Int) + 2)
def askK (xs : List Int) : Int := IntKind.i64.wrap (belV xs (askN xs) (broS xs (start xs)) - 1)
def askS1 (xs : List Int) : Cu := belS xs (askN xs) (broS xs (start xs))
def askZ (xs : List Int) : ByteArray := match inT (askK xs) 0 (IntKind.i64.wrap (((bro0 xs (start xs)).Tabs.length : Int) - 1)) with
  | true => (match belV xs 3 (askS1 xs) == 0 with
    | true => hostAny0 xs (belS xs 3 (askS1 xs))
    | false => str (reg (bts (tabAt (bro0 xs (start xs)) (askK xs)).Origin.Host)))
  | false => hostAny0 xs (askS1 xs)
theorem askZ_1 {xs : List Int} (h : inT (askK xs) 0 (IntKind.i64.wrap (((bro0 xs (start xs)).Tabs.length : Int) - 1)) = true) (h2 : (belV xs 3 (askS1 xs) == 0) = false) : askZ xs = str (reg (bts (tabAt (bro0 xs (start xs)) (askK xs)).Origin.Host)) := by unfold askZ; rw [h, h2]
theorem askZ_2 {xs : List Int} (h : inT (askK xs) 0 (IntKind.i64.wrap (((bro0 xs (start xs)).Tabs.length : Int) - 1)) = true) (h2 : (belV xs 3 (askS1 xs) == 0) = true) : askZ xs = hostAny0 xs (belS xs 3 (askS1 xs)) := by unfold askZ; rw [h, h2]
theorem askZ_3 {xs : List Int} (h : inT (askK xs) 0 (IntKind.i64.wrap (((bro0 xs (start xs)).Tabs.length : Int) - 1)) = false) : askZ xs = hostAny0 xs (askS1 xs) := by unfold askZ; rw [h]
theorem conReg (z : ByteArray) (h : z.size ≤ 4294967296) : FnCon Tryz.prog 53 [sV z] [sV (str (reg (bts z)))] :=
  con_of_plain (con_enters Tryz.func53 (by kernel_rfl) (by kernel_rfl)) rfl fun w v0 k0 => by
    obtain ⟨v1, rfl, k1⟩ := of_valA k0
    obtain rfl := of_nil k1
    exact C9b.specReg w z h
def canCall : Option Tmp → FuncId → List Grp → Option (List Grp) := fun d _ a => match a with
  | [(_, [.val (.int _ n)]), (_, [.val (.int _ lo)]), (_, [.val (.int _ hi)])] => some [bV (inT n lo hi)]
  | [(_, [.val (.string z)])] => some [sV (str (reg (bts z)))]
  | _ => none
theorem conCan (xs : List Int) (hx : xs.length ≤ 140737488351232) : FnCon Tryz.prog 22 ([(false, [numR 5 .u8 xs])]) ([(true, dasBrowser (bro0 xs (start xs))), iV (askK xs), sV (askZ xs)]) := by
  refine fn_go (p := ((Cust Tryz.prog (fun x => True) 20008 (opOf (Tryz.f22.body.getD Code.skip) 1 1) [AV.one (Sc.val (Value.func (Fn.func 23) { toList := [] } { toList := [] })), AV.one (Sc.old (Da.row 5 1 xs.length fun i x => Da.val (Value.int IntKind.u8 (xs.getD i 0))))] [] { need := [], val := AV.one (Sc.ptr 20008 0), mem := [(20008, Ob.var 92 (cur xs (start xs)))] }) ∧ ((Cust Tryz.prog (fun x => True) 30008 (opOf (Tryz.f22.body.getD Code.skip) 2 1) [AV.one (Sc.val (Value.func (Fn.func 52) { toList := [] } { toList := [] })), AV.one (Sc.ptr 20008 0)] [Ob.var 92 (cur xs (start xs))] { need := [], val := AV.agg [Sc.val (vI (bro0 xs (start xs)).Store.Vendor), Sc.val (vI (bro0 xs (start xs)).Store.Serial), Sc.val (vI (bro0 xs (start xs)).Store.Seed), Sc.val (vI (bro0 xs (start xs)).Store.Counter), Sc.own 30008, Sc.val (vI (bro0 xs (start xs)).Asked)], mem := [(20008, Ob.var 92 (cur xs (broS xs (start xs)))), (30008, Ob.own (Da.row 62 6 (bro0 xs (start xs)).Tabs.length fun i j => (dasTab ((bro0 xs (start xs)).Tabs.getD i zTab)).getD j (Da.val undef)))] }) ∧ ((Cust Tryz.prog (fun x => True) 40040 (opOf (Tryz.f22.body.getD Code.skip) 3 5) [AV.one (Sc.val (Value.func (Fn.func 24) { toList := [] } { toList := [] })), AV.one (Sc.ptr 20008 0), AV.one (Sc.val (vI (IntKind.i64.wrap ((↑(bro0 xs (start xs)).Tabs.length : Int) + 2))))] [Ob.var 92 (cur xs (broS xs (start xs)))] { need := [], val := AV.one (Sc.val (vI (belV xs (IntKind.i64.wrap ((↑(bro0 xs (start xs)).Tabs.length : Int) + 2)) (broS xs (start xs))))), mem := [(20008, Ob.var 92 (cur xs (belS xs (IntKind.i64.wrap ((↑(bro0 xs (start xs)).Tabs.length : Int) + 2)) (broS xs (start xs)))))] }) ∧ bcase (inT (IntKind.i64.wrap (belV xs (IntKind.i64.wrap ((↑(bro0 xs (start xs)).Tabs.length : Int) + 2)) (broS xs (start xs)) - 1)) 0 (IntKind.i64.wrap ((↑(bro0 xs (start xs)).Tabs.length : Int) - 1))) (FnCon Tryz.prog 31 [(false, [dI ((IntKind.i64.wrap (belV xs (IntKind.i64.wrap ((↑(bro0 xs (start xs)).Tabs.length : Int) + 2)) (broS xs (start xs)) - 1)))]), (false, [dI (0)]), (false, [dI ((IntKind.i64.wrap ((↑(bro0 xs (start xs)).Tabs.length : Int) - 1)))])] [(false, [dB ((inT (IntKind.i64.wrap (belV xs (IntKind.i64.wrap ((↑(bro0 xs (start xs)).Tabs.length : Int) + 2)) (broS xs (start xs)) - 1)) 0 (IntKind.i64.wrap ((↑(bro0 xs (start xs)).Tabs.length : Int) - 1))))])] ∧ (inT (IntKind.i64.wrap (belV xs (IntKind.i64.wrap ((↑(bro0 xs (start xs)).Tabs.length : Int) + 2)) (broS xs (start xs)) - 1)) 0 (IntKind.i64.wrap ((↑(bro0 xs (start xs)).Tabs.length : Int) - 1)) = true ∧ ((Cust Tryz.prog (fun x => True) 50064 (opOf (Tryz.f22.body.getD Code.skip) 4 8) [AV.one (Sc.val (Value.func (Fn.func 25) { toList := [] } { toList := [] })), AV.one (Sc.ptr 20008 0), AV.one (Sc.val (vI 3))] [Ob.var 92 (cur xs (belS xs (IntKind.i64.wrap ((↑(bro0 xs (start xs)).Tabs.length : Int) + 2)) (broS xs (start xs))))] { need := [], val := AV.one (Sc.val (Value.bool (belV xs 3 (belS xs (IntKind.i64.wrap ((↑(bro0 xs (start xs)).Tabs.length : Int) + 2)) (broS xs (start xs))) == 0))), mem := [(20008, Ob.var 92 (cur xs (belS xs 3 (belS xs (IntKind.i64.wrap ((↑(bro0 xs (start xs)).Tabs.length : Int) + 2)) (broS xs (start xs))))))] }) ∧ bcase (!belV xs 3 (belS xs (IntKind.i64.wrap ((↑(bro0 xs (start xs)).Tabs.length : Int) + 2)) (broS xs (start xs))) == 0) ((0 ≤ IntKind.i64.wrap (belV xs (IntKind.i64.wrap ((↑(bro0 xs (start xs)).Tabs.length : Int) + 2)) (broS xs (start xs)) - 1) ∧ IntKind.i64.wrap (belV xs (IntKind.i64.wrap ((↑(bro0 xs (start xs)).Tabs.length : Int) + 2)) (broS xs (start xs)) - 1) < (↑(bro0 xs (start xs)).Tabs.length : Int)) ∧ (FnCon Tryz.prog 53 [(false, [dS (((bro0 xs (start xs)).Tabs.getD (IntKind.i64.wrap (belV xs (IntKind.i64.wrap ((↑(bro0 xs (start xs)).Tabs.length : Int) + 2)) (broS xs (start xs)) - 1)).toNat zTab).Origin.Host)])] [(false, [dS ((str (reg (bts ((bro0 xs (start xs)).Tabs.getD (IntKind.i64.wrap (belV xs (IntKind.i64.wrap ((↑(bro0 xs (start xs)).Tabs.length : Int) + 2)) (broS xs (start xs)) - 1)).toNat zTab).Origin.Host))))])] ∧ ((true = true ∧ (vI (bro0 xs (start xs)).Store.Vendor = vI (bro0 xs (start xs)).Store.Vendor ∧ (vI (bro0 xs (start xs)).Store.Serial = vI (bro0 xs (start xs)).Store.Serial ∧ (vI (bro0 xs (start xs)).Store.Seed = vI (bro0 xs (start xs)).Store.Seed ∧ (vI (bro0 xs (start xs)).Store.Counter = vI (bro0 xs (start xs)).Store.Counter ∧ ((DaEq (Da.row 62 6 (bro0 xs (start xs)).Tabs.length fun i j => (dasTab ((bro0 xs (start xs)).Tabs.getD i zTab)).getD j (Da.val undef)) (Da.row 62 6 (bro0 xs (start xs)).Tabs.length fun i j => (dasTab ((bro0 xs (start xs)).Tabs.getD i zTab)).getD j (Da.val undef))) ∧ vI (bro0 xs (start xs)).Asked = vI (bro0 xs (start xs)).Asked)))))) ∧ ((false = false ∧ vI (IntKind.i64.wrap (belV xs (IntKind.i64.wrap ((↑(bro0 xs (start xs)).Tabs.length : Int) + 2)) (broS xs (start xs)) - 1)) = vI (askK xs)) ∧ (false = false ∧ Value.string (str (reg (bts ((bro0 xs (start xs)).Tabs.getD (IntKind.i64.wrap (belV xs (IntKind.i64.wrap ((↑(bro0 xs (start xs)).Tabs.length : Int) + 2)) (broS xs (start xs)) - 1)).toNat zTab).Origin.Host))) = Value.string (askZ xs)))))) ((Cust Tryz.prog (fun x => True) 70024 (opOf (Tryz.f22.body.getD Code.skip) 6 3) [AV.one (Sc.val (Value.func (Fn.func 54) { toList := [] } { toList := [] })), AV.one (Sc.ptr 20008 0)] [Ob.var 92 (cur xs (belS xs 3 (belS xs (IntKind.i64.wrap ((↑(bro0 xs (start xs)).Tabs.length : Int) + 2)) (broS xs (start xs)))))] { need := [], val := AV.one (Sc.val (Value.string (hostAny0 xs (belS xs 3 (belS xs (IntKind.i64.wrap ((↑(bro0 xs (start xs)).Tabs.length : Int) + 2)) (broS xs (start xs))))))), mem := [(20008, Ob.var 92 (cur xs (hostAnyS xs (belS xs 3 (belS xs (IntKind.i64.wrap ((↑(bro0 xs (start xs)).Tabs.length : Int) + 2)) (broS xs (start xs)))))))] }) ∧ ((true = true ∧ (vI (bro0 xs (start xs)).Store.Vendor = vI (bro0 xs (start xs)).Store.Vendor ∧ (vI (bro0 xs (start xs)).Store.Serial = vI (bro0 xs (start xs)).Store.Serial ∧ (vI (bro0 xs (start xs)).Store.Seed = vI (bro0 xs (start xs)).Store.Seed ∧ (vI (bro0 xs (start xs)).Store.Counter = vI (bro0 xs (start xs)).Store.Counter ∧ ((DaEq (Da.row 62 6 (bro0 xs (start xs)).Tabs.length fun i j => (dasTab ((bro0 xs (start xs)).Tabs.getD i zTab)).getD j (Da.val undef)) (Da.row 62 6 (bro0 xs (start xs)).Tabs.length fun i j => (dasTab ((bro0 xs (start xs)).Tabs.getD i zTab)).getD j (Da.val undef))) ∧ vI (bro0 xs (start xs)).Asked = vI (bro0 xs (start xs)).Asked)))))) ∧ ((false = false ∧ vI (IntKind.i64.wrap (belV xs (IntKind.i64.wrap ((↑(bro0 xs (start xs)).Tabs.length : Int) + 2)) (broS xs (start xs)) - 1)) = vI (askK xs)) ∧ (false = false ∧ Value.string (hostAny0 xs (belS xs 3 (belS xs (IntKind.i64.wrap ((↑(bro0 xs (start xs)).Tabs.length : Int) + 2)) (broS xs (start xs))))) = Value.string (askZ xs)))))))) (FnCon Tryz.prog 31 [(false, [dI ((IntKind.i64.wrap (belV xs (IntKind.i64.wrap ((↑(bro0 xs (start xs)).Tabs.length : Int) + 2)) (broS xs (start xs)) - 1)))]), (false, [dI (0)]), (false, [dI ((IntKind.i64.wrap ((↑(bro0 xs (start xs)).Tabs.length : Int) - 1)))])] [(false, [dB ((inT (IntKind.i64.wrap (belV xs (IntKind.i64.wrap ((↑(bro0 xs (start xs)).Tabs.length : Int) + 2)) (broS xs (start xs)) - 1)) 0 (IntKind.i64.wrap ((↑(bro0 xs (start xs)).Tabs.length : Int) - 1))))])] ∧ (inT (IntKind.i64.wrap (belV xs (IntKind.i64.wrap ((↑(bro0 xs (start xs)).Tabs.length : Int) + 2)) (broS xs (start xs)) - 1)) 0 (IntKind.i64.wrap ((↑(bro0 xs (start xs)).Tabs.length : Int) - 1)) = false ∧ ((Cust Tryz.prog (fun x => True) 70024 (opOf (Tryz.f22.body.getD Code.skip) 6 3) [AV.one (Sc.val (Value.func (Fn.func 54) { toList := [] } { toList := [] })), AV.one (Sc.ptr 20008 0)] [Ob.var 92 (cur xs (belS xs (IntKind.i64.wrap ((↑(bro0 xs (start xs)).Tabs.length : Int) + 2)) (broS xs (start xs))))] { need := [], val := AV.one (Sc.val (Value.string (hostAny0 xs (belS xs (IntKind.i64.wrap ((↑(bro0 xs (start xs)).Tabs.length : Int) + 2)) (broS xs (start xs)))))), mem := [(20008, Ob.var 92 (cur xs (hostAnyS xs (belS xs (IntKind.i64.wrap ((↑(bro0 xs (start xs)).Tabs.length : Int) + 2)) (broS xs (start xs))))))] }) ∧ ((true = true ∧ (vI (bro0 xs (start xs)).Store.Vendor = vI (bro0 xs (start xs)).Store.Vendor ∧ (vI (bro0 xs (start xs)).Store.Serial = vI (bro0 xs (start xs)).Store.Serial ∧ (vI (bro0 xs (start xs)).Store.Seed = vI (bro0 xs (start xs)).Store.Seed ∧ (vI (bro0 xs (start xs)).Store.Counter = vI (bro0 xs (start xs)).Store.Counter ∧ ((DaEq (Da.row 62 6 (bro0 xs (start xs)).Tabs.length fun i j => (dasTab ((bro0 xs (start xs)).Tabs.getD i zTab)).getD j (Da.val undef)) (Da.row 62 6 (bro0 xs (start xs)).Tabs.length fun i j => (dasTab ((bro0 xs (start xs)).Tabs.getD i zTab)).getD j (Da.val undef))) ∧ vI (bro0 xs (start xs)).Asked = vI (bro0 xs (start xs)).Asked)))))) ∧ ((false = false ∧ vI (IntKind.i64.wrap (belV xs (IntKind.i64.wrap ((↑(bro0 xs (start xs)).Tabs.length : Int) + 2)) (broS xs (start xs)) - 1)) = vI (askK xs)) ∧ (false = false ∧ Value.string (hostAny0 xs (belS xs (IntKind.i64.wrap ((↑(bro0 xs (start xs)).Tabs.length : Int) + 2)) (broS xs (start xs)))) = Value.string (askZ xs))))))))))) (⟨canCall, fun id vs os => match id with | 20008 => some ⟨[], .one (.ptr 20008 0), [(20008, .var 92 (cur xs (start xs)))]⟩ | 30008 => (match os with | .var _ [_, .val (.int _ i), .val (.int _ h)] :: _ => some ⟨[], E7.resAV (E7.grpNew 30008 [(true, dasBrowser (bro0 xs ⟨i, h⟩))]).1, (20008, .var 92 (cur xs (broS xs ⟨i, h⟩))) :: (E7.grpNew 30008 [(true, dasBrowser (bro0 xs ⟨i, h⟩))]).2.1⟩ | _ => none) | 50064 => (match os with | .var _ [_, .val (.int _ i), .val (.int _ h)] :: _ => some ⟨[], .one (.val (.bool (belV xs 3 ⟨i, h⟩ == 0))), [(20008, .var 92 (cur xs (belS xs 3 ⟨i, h⟩)))]⟩ | _ => none) | 70024 => (match os with | .var _ [_, .val (.int _ i), .val (.int _ h)] :: _ => some ⟨[], E7.resAV (E7.grpNew 70024 [sV (hostAny0 xs ⟨i, h⟩)]).1, (20008, .var 92 (cur xs (hostAnyS xs ⟨i, h⟩))) :: (E7.grpNew 70024 [sV (hostAny0 xs ⟨i, h⟩)]).2.1⟩ | _ => none) | 40040 => ((match vs, os with | [_, _, .one (.val (.int _ n))], .var _ [_, .val (.int _ i), .val (.int _ h)] :: _ => some ⟨[], .one (.val (.int .i64 (belV xs n ⟨i, h⟩))), [(20008, .var 92 (cur xs (belS xs n ⟨i, h⟩)))]⟩ | _, _ => none)) | _ => none, fun _ => True⟩) (noLoops) Tryz.func22 (by kernel_rfl) (by kernel_rfl) (by kernel_rfl) (fun _ => trivial) (by kernel_rfl) ?_
  refine ⟨?g0, ?g1, ?g2, bcase_intro (fun h3 => ⟨?g4, h3, ?g5, bcase_intro (fun h6 => ⟨⟨?g7, ?g8⟩, ?g9, ⟨rfl, rfl, rfl, rfl, rfl, DaEq.refl _, rfl⟩, ⟨rfl, congrArg _ ?g10⟩, rfl, congrArg _ ?g11⟩) (fun h6 => ⟨?g12, ⟨rfl, rfl, rfl, rfl, rfl, DaEq.refl _, rfl⟩, ⟨rfl, congrArg _ ?g13⟩, rfl, congrArg _ ?g14⟩)⟩) (fun h3 => ⟨?g15, h3, ?g16, ⟨rfl, rfl, rfl, rfl, rfl, DaEq.refl _, rfl⟩, ⟨rfl, congrArg _ ?g17⟩, rfl, congrArg _ ?g18⟩)⟩
  case g0 => exact cust_new rfl rfl rfl rfl rfl (nwStart xs hx)
  case g1 => exact cust_lent rfl rfl rfl rfl rfl rfl rfl rfl (lnBro xs _ (by with_reducible repeat first | exact start_ok hx | apply belS_ok | apply storeAnyS_ok | apply originS_ok | apply hostAnyS_ok | apply broS_ok)) rfl (by omega)
  case g2 => first | exact cust_lent rfl rfl rfl rfl rfl rfl rfl rfl (lnB xs (askN xs) _ (broS_ok (start_ok hx)) (wr16 _).2) rfl (by omega) | exact cust_lent rfl rfl rfl rfl rfl rfl rfl rfl (lnB xs _ _ (by with_reducible repeat first | exact start_ok hx | apply belS_ok | apply storeAnyS_ok | apply originS_ok | apply hostAnyS_ok | apply broS_ok) (by omega)) rfl (by omega)
  case g5 => exact cust_lent rfl rfl rfl rfl rfl rfl rfl rfl (lnOnce xs _ _ (by with_reducible repeat first | exact start_ok hx | apply belS_ok | apply storeAnyS_ok | apply originS_ok | apply hostAnyS_ok | apply broS_ok) (by omega)) rfl (by omega)
  case g12 => exact cust_lent rfl rfl rfl rfl rfl rfl rfl rfl (lnHostAny xs _ (by with_reducible repeat first | exact start_ok hx | apply belS_ok | apply storeAnyS_ok | apply originS_ok | apply hostAnyS_ok | apply broS_ok)) rfl (by omega)
  case g16 => exact cust_lent rfl rfl rfl rfl rfl rfl rfl rfl (lnHostAny xs _ (by with_reducible repeat first | exact start_ok hx | apply belS_ok | apply storeAnyS_ok | apply originS_ok | apply hostAnyS_ok | apply broS_ok)) rfl (by omega)
  case g4 | g15 => exact C16s.conIn _ _ _
  case g10 | g13 | g17 => rfl
  case g9 => exact conReg _ (by have := ((bro0_is (start_ok hx)).1.at (askK xs).toNat).1; exact Nat.le_trans this (by decide))
  case g7 | g8 =>
    have hl := (bro0_is (start_ok hx)).2
    have h3 := inT_ok h3
    rw [IntWalk.i64_in (((bro0 xs (start xs)).Tabs.length : Int) - 1) (by omega)] at h3
    omega
  case g11 => exact (askZ_1 h3 (by simpa [askS1, askN] using h6)).symm
  case g14 => exact (askZ_2 h3 (by simpa [askS1, askN] using h6)).symm
  case g18 => exact (askZ_3 h3).symm
def askC (xs : List Int) : Bool := !(belV xs 4 (belS xs 99 (belS xs 4 (start xs))) == 0)
/-- What is drawn for AskAssertion. -/
theorem ask_is {xs : List Int} (hx : xs.length ≤ 140737488351232) : BrK (bro0 xs (start xs)) ∧ (bro0 xs (start xs)).Tabs.length ≤ 8 ∧ (-9223372036854775808 ≤ askK xs ∧ askK xs ≤ 9223372036854775807) ∧ (askZ xs).size ≤ 141 := by
  obtain ⟨h1, h2⟩ := bro0_is (start_ok hx)
  refine ⟨h1, h2, wr16 _, ?_⟩
  unfold askZ
  split
  · split
    · exact Nat.le_trans (hostAny_sz _ _) (by decide)
    · have h3 := (h1.at (askK xs).toNat).1
      rw [← bts_len, bts_str]
      refine Nat.le_trans (M13b.reg_size _) ?_
      rw [bts_len]
      exact Nat.add_le_add_right h3 41
  · exact Nat.le_trans (hostAny_sz _ _) (by decide)
theorem conAskD (xs : List Int) (hx : xs.length ≤ 140737488351232) : FnCon Tryz.prog 6 ([(false, [numR 5 .u8 xs])]) ([(true, dasBrowser (bro0 xs (start xs))), iV (askK xs), sV (askZ xs), iV (belV xs 4 (start xs)), iV (belV xs 99 (belS xs 4 (start xs))), bV (askC xs)]) := by
  refine fn_go (p := ((FnCon Tryz.prog 22 [(false, [Da.row 5 1 xs.length fun i x => Da.val (Value.int IntKind.u8 (xs.getD i 0))])] [(true, dasBrowser (bro0 xs (start xs))), (false, [dI ((askK xs))]), (false, [dS ((askZ xs))])]) ∧ ((Cust Tryz.prog (fun x => True) 30008 (opOf (Tryz.f6.body.getD Code.skip) 2 1) [AV.one (Sc.val (Value.func (Fn.func 23) { toList := [] } { toList := [] })), AV.one (Sc.old (Da.row 5 1 xs.length fun i x => Da.val (Value.int IntKind.u8 (xs.getD i 0))))] [] { need := [], val := AV.one (Sc.ptr 30008 0), mem := [(30008, Ob.var 92 (cur xs (start xs)))] }) ∧ ((Cust Tryz.prog (fun x => True) 40008 (opOf (Tryz.f6.body.getD Code.skip) 3 1) [AV.one (Sc.val (Value.func (Fn.func 24) { toList := [] } { toList := [] })), AV.one (Sc.ptr 30008 0), AV.one (Sc.val (vI 4))] [Ob.var 92 (cur xs (start xs))] { need := [], val := AV.one (Sc.val (vI (belV xs 4 (start xs)))), mem := [(30008, Ob.var 92 (cur xs (belS xs 4 (start xs))))] }) ∧ ((Cust Tryz.prog (fun x => True) 50008 (opOf (Tryz.f6.body.getD Code.skip) 4 1) [AV.one (Sc.val (Value.func (Fn.func 24) { toList := [] } { toList := [] })), AV.one (Sc.ptr 30008 0), AV.one (Sc.val (vI 99))] [Ob.var 92 (cur xs (belS xs 4 (start xs)))] { need := [], val := AV.one (Sc.val (vI (belV xs 99 (belS xs 4 (start xs))))), mem := [(30008, Ob.var 92 (cur xs (belS xs 99 (belS xs 4 (start xs)))))] }) ∧ ((Cust Tryz.prog (fun x => True) 60048 (opOf (Tryz.f6.body.getD Code.skip) 5 6) [AV.one (Sc.val (Value.func (Fn.func 25) { toList := [] } { toList := [] })), AV.one (Sc.ptr 30008 0), AV.one (Sc.val (vI 4))] [Ob.var 92 (cur xs (belS xs 99 (belS xs 4 (start xs))))] { need := [], val := AV.one (Sc.val (Value.bool (belV xs 4 (belS xs 99 (belS xs 4 (start xs))) == 0))), mem := [(30008, Ob.var 92 (cur xs (belS xs 4 (belS xs 99 (belS xs 4 (start xs))))))] }) ∧ ((true = true ∧ (vI (bro0 xs (start xs)).Store.Vendor = vI (bro0 xs (start xs)).Store.Vendor ∧ (vI (bro0 xs (start xs)).Store.Serial = vI (bro0 xs (start xs)).Store.Serial ∧ (vI (bro0 xs (start xs)).Store.Seed = vI (bro0 xs (start xs)).Store.Seed ∧ (vI (bro0 xs (start xs)).Store.Counter = vI (bro0 xs (start xs)).Store.Counter ∧ ((DaEq (Da.row 62 6 (bro0 xs (start xs)).Tabs.length fun i j => (dasTab ((bro0 xs (start xs)).Tabs.getD i zTab)).getD j (Da.val undef)) (Da.row 62 6 (bro0 xs (start xs)).Tabs.length fun i j => (dasTab ((bro0 xs (start xs)).Tabs.getD i zTab)).getD j (Da.val undef))) ∧ vI (bro0 xs (start xs)).Asked = vI (bro0 xs (start xs)).Asked)))))) ∧ ((false = false ∧ vI (askK xs) = vI (askK xs)) ∧ ((false = false ∧ Value.string (askZ xs) = Value.string (askZ xs)) ∧ ((false = false ∧ vI (belV xs 4 (start xs)) = vI (belV xs 4 (start xs))) ∧ ((false = false ∧ vI (belV xs 99 (belS xs 4 (start xs))) = vI (belV xs 99 (belS xs 4 (start xs)))) ∧ (false = false ∧ (Value.bool !belV xs 4 (belS xs 99 (belS xs 4 (start xs))) == 0) = Value.bool (askC xs))))))))))))) (⟨fun d _ _ => match d with | some 16 => some [(true, dasBrowser (bro0 xs (start xs))), iV (askK xs), sV (askZ xs)] | _ => none, fun id vs os => match id with | 30008 => some ⟨[], .one (.ptr 30008 0), [(30008, .var 92 (cur xs (start xs)))]⟩ | 40008 => (match os with | .var _ [_, .val (.int _ i), .val (.int _ h)] :: _ => some ⟨[], .one (.val (.int .i64 (belV xs 4 ⟨i, h⟩))), [(30008, .var 92 (cur xs (belS xs 4 ⟨i, h⟩)))]⟩ | _ => none) | 50008 => (match os with | .var _ [_, .val (.int _ i), .val (.int _ h)] :: _ => some ⟨[], .one (.val (.int .i64 (belV xs 99 ⟨i, h⟩))), [(30008, .var 92 (cur xs (belS xs 99 ⟨i, h⟩)))]⟩ | _ => none) | 60048 => (match os with | .var _ [_, .val (.int _ i), .val (.int _ h)] :: _ => some ⟨[], .one (.val (.bool (belV xs 4 ⟨i, h⟩ == 0))), [(30008, .var 92 (cur xs (belS xs 4 ⟨i, h⟩)))]⟩ | _ => none) | _ => none, fun _ => True⟩) (noLoops) Tryz.func6 (by kernel_rfl) (by kernel_rfl) (by kernel_rfl) (fun _ => trivial) (by kernel_rfl) ?_
  refine ⟨(conCan xs hx), ?g1, ?g2, ?g3, ?g4, ⟨rfl, rfl, rfl, rfl, rfl, DaEq.refl _, rfl⟩, ⟨rfl, rfl⟩, ⟨rfl, rfl⟩, ⟨rfl, rfl⟩, ⟨rfl, rfl⟩, rfl, congrArg _ ?g5⟩
  case g1 => exact cust_new rfl rfl rfl rfl rfl (nwStart xs hx)
  case g2 => first | exact cust_lent rfl rfl rfl rfl rfl rfl rfl rfl (lnB xs (askN xs) _ (broS_ok (start_ok hx)) (wr16 _).2) rfl (by omega) | exact cust_lent rfl rfl rfl rfl rfl rfl rfl rfl (lnB xs _ _ (by with_reducible repeat first | exact start_ok hx | apply belS_ok | apply storeAnyS_ok | apply originS_ok | apply hostAnyS_ok | apply broS_ok) (by omega)) rfl (by omega)
  case g3 => first | exact cust_lent rfl rfl rfl rfl rfl rfl rfl rfl (lnB xs (askN xs) _ (broS_ok (start_ok hx)) (wr16 _).2) rfl (by omega) | exact cust_lent rfl rfl rfl rfl rfl rfl rfl rfl (lnB xs _ _ (by with_reducible repeat first | exact start_ok hx | apply belS_ok | apply storeAnyS_ok | apply originS_ok | apply hostAnyS_ok | apply broS_ok) (by omega)) rfl (by omega)
  case g4 => exact cust_lent rfl rfl rfl rfl rfl rfl rfl rfl (lnOnce xs _ _ (by with_reducible repeat first | exact start_ok hx | apply belS_ok | apply storeAnyS_ok | apply originS_ok | apply hostAnyS_ok | apply broS_ok) (by omega)) rfl (by omega)
  case g5 => rfl
end Go.Proofs.YtogoppknimpkbaaGreatDoor.Dr
