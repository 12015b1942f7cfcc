import Derived.Test.YtialhhdhpjjkaaaGreatDoorBa
import Derived.Test.YtialhhdhpjjkaaaGreatDoorCards
import Derived.Test.YtialhhdhpjjkaaaGreatDoorTie
import Derived.Lay
import Derived.LaidHandle
import Derived.MakeChecks
import Derived.Test.YtialhhdhpjjkaaaGreatDoorLa
import Derived.Test.YtialhhdhpjjkaaaGreatDoorBb
import Derived.Test.YtialhhdhpjjkaaaGreatDoorYAssertion
import Derived.Test.YtialhhdhpjjkaaaGreatDoorC13
import Derived.Test.YtialhhdhpjjkaaaGreatDoorC13i
/-
  laws.FnExactCheckAssertion returns true at every argument, and leaves what came in as it was: the program's CheckAssertion answers as the model's (strings of more than 1048576 bytes are passed over by the law itself). Conditions: the library's package-level variables math/bits.deBruijn32tab, math/bits.deBruijn64tab, internal/strconv.uint64pow10, errors.errorType, strconv.ErrRange, strconv.ErrSyntax hold when the call begins what the program's text lays there (the card ties them to that text).
-/
namespace Go.Proofs.YtialhhdhpjjkaaaGreatDoor.fnExactCheckAssertion
open Go.ChangeShapes Go.WideShapes Go.ChangeAt Go.RowKit
set_option linter.unusedVariables false

open S0 S9 Dm in
set_option maxHeartbeats 8000000 in
set_option maxRecDepth 100000 in
theorem walk (a0 : Int) (u0 : (Lit.int .i64 a0).wf = true) (v1 : Value) (s2 : ByteArray) (hs2 : s2.size ≤ maxLen) (a3 : Int) (u3 : (Lit.int .i64 a3).wf = true) (a4 : Int) (u4 : (Lit.int .i64 a4).wf = true) (W : World) {H : Type} {enc : TypeId × Value → H} {b1 : Nat} {d1 : DataW H} {p1 : List MemPlace} (hv1 : Value.okWide Tryz.prog W .any b1 23 v1) (ht1 : DataW.Trod enc Tryz.prog W 0 (fun _ => true) true 23 v1 d1 p1) (hL : laidMetH Tryz.prog Rows.fnExactCheckAssertionRow.laid W) :
    Calls Tryz.prog 3 #[.int .i64 a0, v1, .string s2, .int .i64 a3, .int .i64 a4] W fun e w' => e = .returned (.bool true) ∧ Below W.heap.size W w' := by
  have ht : La.Pow W := La.pow_of rfl hL
  have he : As.Er W := As.er_of rfl rfl rfl hL
  clear hL
  have hu0 := M1.i64_wf u0
  clear u0
  obtain ⟨vs1, x1, rfl, hr1, ho1⟩ := Fx.argAssertion hv1 ht1
  clear ht1 hv1
  obtain rfl := Fx.Assertion.rds hr1
  have H1 := Lib.hid hr1
  clear hr1
  have hwx1 := Nat.le_of_eq (Fx.Assertion.wt x1)
  have hwy1 := Nat.le_of_eq (Fx.Assertion.wt x1).symm
  have hu3 := M1.i64_wf u3
  clear u3
  have hu4 := M1.i64_wf u4
  clear u4
  have HB : Below W.heap.size W W := Below.refl _ _
  by_cases big2 : 1048576 < s2.size
  · go_enter Tryz.func3, Tryz.ntmps3
    go_wp2
    go_ret
    exact ⟨rfl, (Below.refl _ _).alloc (Nat.le_refl _) _⟩
  obtain ⟨q0, hq0⟩ : ∃ x, x = W.alloc (.cells #[.string (x1).Site, .string (x1).Origin, .int .i64 (x1).Challenge, .int .i64 (x1).Handle, .bool (x1).Present, .int .i64 (x1).Counter, .int .i64 (x1).Signature] 23) := ⟨_, rfl⟩
  have o_p1 := Fx.var_owns W 23 7 [.string (x1).Site, .string (x1).Origin, .int .i64 (x1).Challenge, .int .i64 (x1).Handle, .bool (x1).Present, .int .i64 (x1).Counter, .int .i64 (x1).Signature] rfl
  have n_p1 : [W.heap.size].Nodup := by simp
  have bq0 : Below W.heap.size W q0 := hq0 ▸ (Below.refl _ _).alloc (Nat.le_refl _) _
  rw [← hq0] at o_p1
  have sq0 : q0.heap.size = W.heap.size + 1 := by rw [hq0]; simp
  replace HB := HB.trans (bq0.mono HB.size)
  have i_p1 := Fx.made_in o_p1
  go_enter Tryz.func3, Tryz.ntmps3
  go_wp2_with fail
  rw [← hq0]
  (with_reducible refine (Fx.szAssertion _ x1 _ (1048576) (rdsL_on H1.out HB) ho1 (by omega) (by omega)).mono ?_); rintro e w1 ⟨rfl, b1⟩
  replace o_p1 := owns_below o_p1 b1
  replace HB := HB.trans (b1.mono HB.size)
  by_cases big1 : (wtL (Fx.Assertion.dcs x1) : Int) ≤ 1048576
  rotate_left
  · rw [if_neg big1]
    go_wp2
    go_ret
    exact ⟨rfl, HB⟩
  rw [if_pos big1]
  have d_p1_0 : w1.cell? ⟨W.heap.size, 0, none⟩ = some (.string (x1).Site) := Fx.var_load o_p1 n_p1 0 _ rfl
  have d_p1_1 : w1.cell? ⟨W.heap.size, 1, none⟩ = some (.string (x1).Origin) := Fx.var_load o_p1 n_p1 1 _ rfl
  have d_p1_2 : w1.cell? ⟨W.heap.size, 2, none⟩ = some (.int .i64 (x1).Challenge) := Fx.var_load o_p1 n_p1 2 _ rfl
  have d_p1_3 : w1.cell? ⟨W.heap.size, 3, none⟩ = some (.int .i64 (x1).Handle) := Fx.var_load o_p1 n_p1 3 _ rfl
  have d_p1_4 : w1.cell? ⟨W.heap.size, 4, none⟩ = some (.bool (x1).Present) := Fx.var_load o_p1 n_p1 4 _ rfl
  have d_p1_5 : w1.cell? ⟨W.heap.size, 5, none⟩ = some (.int .i64 (x1).Counter) := Fx.var_load o_p1 n_p1 5 _ rfl
  have d_p1_6 : w1.cell? ⟨W.heap.size, 6, none⟩ = some (.int .i64 (x1).Signature) := Fx.var_load o_p1 n_p1 6 _ rfl
  have e_p1 : W.heap.size < w1.heap.size := Fx.var_lt o_p1
  go_wp2_with fail
  (with_reducible refine (Fx.toAssertion _ x1 _ (rdsL_on H1.out HB) (by omega)).mono ?_); rintro e w2 ⟨v_cw1, s_cw1, rfl, o_cw1, n_cw1, b2⟩
  clear d_p1_0 d_p1_1 d_p1_2 d_p1_3 d_p1_4 d_p1_5 d_p1_6 e_p1
  replace o_p1 := owns_below o_p1 b2
  replace HB := HB.trans (b2.mono HB.size)
  have i_cw1 := Fx.madeL_in o_cw1
  obtain ⟨rfl, -⟩ := Fx.Assertion.owns o_cw1
  go_wp2_with fail
  (with_reducible refine (C13.specChk _ a0 x1 s2 a3 a4 _ (ownsL_rds _ _ _ o_cw1) ho1 (by omega) (by omega) (by omega) ).mono ?_); rintro e w3 ⟨rfl, b3⟩
  replace o_p1 := owns_below o_p1 b3
  replace o_cw1 := ownsL_below o_cw1 b3
  replace HB := HB.trans (b3.mono HB.size)
  clear o_cw1 i_cw1 n_cw1
  have d_p1_0 : w3.cell? ⟨W.heap.size, 0, none⟩ = some (.string (x1).Site) := Fx.var_load o_p1 n_p1 0 _ rfl
  have d_p1_1 : w3.cell? ⟨W.heap.size, 1, none⟩ = some (.string (x1).Origin) := Fx.var_load o_p1 n_p1 1 _ rfl
  have d_p1_2 : w3.cell? ⟨W.heap.size, 2, none⟩ = some (.int .i64 (x1).Challenge) := Fx.var_load o_p1 n_p1 2 _ rfl
  have d_p1_3 : w3.cell? ⟨W.heap.size, 3, none⟩ = some (.int .i64 (x1).Handle) := Fx.var_load o_p1 n_p1 3 _ rfl
  have d_p1_4 : w3.cell? ⟨W.heap.size, 4, none⟩ = some (.bool (x1).Present) := Fx.var_load o_p1 n_p1 4 _ rfl
  have d_p1_5 : w3.cell? ⟨W.heap.size, 5, none⟩ = some (.int .i64 (x1).Counter) := Fx.var_load o_p1 n_p1 5 _ rfl
  have d_p1_6 : w3.cell? ⟨W.heap.size, 6, none⟩ = some (.int .i64 (x1).Signature) := Fx.var_load o_p1 n_p1 6 _ rfl
  have e_p1 : W.heap.size < w3.heap.size := Fx.var_lt o_p1
  go_wp2_with fail
  (with_reducible refine (Fx.toAssertion _ x1 _ (rdsL_on H1.out HB) (by omega)).mono ?_); rintro e w4 ⟨v_cg1, s_cg1, rfl, o_cg1, n_cg1, b4⟩
  clear d_p1_0 d_p1_1 d_p1_2 d_p1_3 d_p1_4 d_p1_5 d_p1_6 e_p1
  replace o_p1 := owns_below o_p1 b4
  replace HB := HB.trans (b4.mono HB.size)
  have i_cg1 := Fx.madeL_in o_cg1
  obtain ⟨rfl, -⟩ := Fx.Assertion.owns o_cg1
  go_wp2_with fail
  (with_reducible refine (C13i.implChk _ a0 x1 s2 a3 a4 _ (ownsL_rds _ _ _ o_cg1) ho1 (by omega) (by omega) (by omega) (by omega) (by omega) (ht.stays HB) (he.stays HB)).mono ?_); rintro e w5 ⟨rfl, b5⟩
  replace o_p1 := owns_below o_p1 b5
  replace o_cg1 := ownsL_below o_cg1 b5
  replace HB := HB.trans (b5.mono HB.size)
  clear o_cg1 i_cg1 n_cg1
  go_wp2
  go_ret
  exact ⟨rfl, HB⟩

set_option maxRecDepth 100000 in
theorem contract (H : Type) (enc : TypeId × Value → H) (W : World) (base : Nat) (args : Array Value) (ds gs : List (DataW H)) (before : List MemPlace)
    (hval : ∀ (j : Nat) t v, Tryz.f3.params[j]? = some t → args[j]? = some v → Value.okWide Tryz.prog W .any base t v)
    (hW : DataW.Whole enc Tryz.prog Tryz.f3.params.toList Rows.fnExactCheckAssertionSpec.vars false W args.toList ds gs before) (hL : laidMetH Tryz.prog Rows.fnExactCheckAssertionRow.laid W) :
    Calls Tryz.prog 3 args W fun e W' => ∃ v, e = .returned v ∧ Rows.fnExactCheckAssertionSpec.post enc Tryz.prog Tryz.f3 false true false false W args v W' := by
  have hW' := hW
  obtain ⟨p, q, hA0, hV, rfl, hfz, hnd⟩ := hW
  have hA : DataW.TrodAll enc Tryz.prog W 0 (fun _ => true) true Tryz.f3.params.toList args.toList ds p := hA0
  rw [Tryz.params3] at hA hval
  obtain ⟨v0, vs0, d0, ds0, p0, q0, hargs, rfl, rfl, h0, r0⟩ := trodAll_cons hA
  obtain ⟨v1, vs1, d1, ds1, p1, q1, rfl, rfl, rfl, h1, r1⟩ := trodAll_cons r0
  obtain ⟨v2, vs2, d2, ds2, p2, q2, rfl, rfl, rfl, h2, r2⟩ := trodAll_cons r1
  obtain ⟨v3, vs3, d3, ds3, p3, q3, rfl, rfl, rfl, h3, r3⟩ := trodAll_cons r2
  obtain ⟨v4, vs4, d4, ds4, p4, q4, rfl, rfl, rfl, h4, r4⟩ := trodAll_cons r3
  obtain ⟨rfl, rfl, rfl⟩ := trodAll_nil r4
  obtain rfl : args = #[v0, v1, v2, v3, v4] := by cases args; simp_all
  obtain ⟨rfl, rfl⟩ := trodVars_none hV
  obtain ⟨a0, rfl, rfl, rfl, w0⟩ := open_int Tryz.underlying3 (hval 0 3 v0 rfl rfl) h0
  obtain ⟨s2, rfl, rfl, rfl, hs2⟩ := ChangeMaps.open_string Tryz.underlying9 (hval 2 9 v2 rfl rfl) h2
  obtain ⟨a3, rfl, rfl, rfl, w3⟩ := open_int Tryz.underlying3 (hval 3 3 v3 rfl rfl) h3
  obtain ⟨a4, rfl, rfl, rfl, w4⟩ := open_int Tryz.underlying3 (hval 4 3 v4 rfl rfl) h4
  clear hA0
  refine Fr.closeLaw rfl (by kernel_rfl) (by rw [Tryz.params3]; decide) hW' rfl ?_
  exact walk a0 w0 v1 s2 hs2 a3 w3 a4 w4 W (hval 1 23 v1 rfl rfl) h1 hL

noncomputable def handW (os : Os) : World := { World.holding Tryz.prog os ⟨#[], #[], []⟩ with heap := (World.holding Tryz.prog os ⟨#[], #[], []⟩).heap.modify 0 fun | .cells _ t fr => .cells #[.iface 151 (.agg #[typeHandle Tryz.prog 79])] t fr | x => x }
noncomputable def laidW (os : Os) : World := (handW os).layVars Tryz.prog (Rows.fnExactCheckAssertionRow.laid.filter fun x => x.2.handleName?.isNone)
theorem laidW_os (os : Os) : (laidW os).os = os := (World.layVars_os _ _ _).trans rfl
theorem met_on {P : Program} {w0 : World} {l : List (String × DataW Unit)} (args : Array Value) (hf : w0.layFits P l [] = true) (hi : w0.layIfaces P l (w0.layVars P l) = true) : laidMet P l ((w0.layVars P l).forCall (fun _ _ => 0) ⟨#[], args, []⟩).memory := by
  have all : (l.filter fun x => (l.map (·.1)).contains x.1) = l := List.filter_eq_self.2 fun x hx => by simp only [List.contains_iff_mem]; exact List.mem_map_of_mem hx
  have none : (l.filter fun x => !(l.map (·.1)).contains x.1) = [] := List.filter_eq_nil_iff.2 fun x hx => by simp only [Bool.not_eq_true, Bool.not_eq_false', List.contains_iff_mem]; exact List.mem_map_of_mem hx
  have k : laidMet P l (w0.layVars P l) := laidMet_layVars (l.map (·.1)) [] (by rw [all]) (by rw [all]; exact hf) (by rw [all]; exact hi) (by rw [none]; exact LaidIn.none)
  exact k.of_heap (by simp [World.memory, World.forCall, Input.heap])
theorem laid_met (os : Os) : laidMetH Tryz.prog Rows.fnExactCheckAssertionRow.laid ((laidW os).forCall (fun _ _ => 0) ⟨#[], #[.int .i64 0, .agg #[.string ⟨#[]⟩, .string ⟨#[]⟩, .int .i64 0, .int .i64 0, .bool false, .int .i64 0, .int .i64 0], .string ⟨#[]⟩, .int .i64 0, .int .i64 0], []⟩).memory := by
  exact laidMetH_of_parts (met_on _ (by kernel_rfl) (by kernel_rfl)) (by kernel_rfl)
set_option maxRecDepth 100000 in
theorem reads (os : Os) {H : Type} (enc : TypeId × Value → H) : ∃ places, DataW.whole enc Tryz.prog ((laidW os).forCall (fun _ _ => 0) ⟨#[], #[.int .i64 0, .agg #[.string ⟨#[]⟩, .string ⟨#[]⟩, .int .i64 0, .int .i64 0, .bool false, .int .i64 0, .int .i64 0], .string ⟨#[]⟩, .int .i64 0, .int .i64 0], []⟩).memory Tryz.f3.params.toList Rows.fnExactCheckAssertionSpec.vars false (#[.int .i64 0, .agg #[.string ⟨#[]⟩, .string ⟨#[]⟩, .int .i64 0, .int .i64 0, .bool false, .int .i64 0, .int .i64 0], .string ⟨#[]⟩, .int .i64 0, .int .i64 0] : Array Value).toList 8 = some ([.lit (.int .i64 0), .agg [.lit (.string []), .lit (.string []), .lit (.int .i64 0), .lit (.int .i64 0), .lit (.bool false), .lit (.int .i64 0), .lit (.int .i64 0)], .lit (.string []), .lit (.int .i64 0), .lit (.int .i64 0)], [], places) :=
  ⟨[], by kernel_rfl⟩
set_option maxRecDepth 100000 in
theorem lifted (os : Os) (started : os.Started) (H : Type) (enc : TypeId × Value → H) (F : Stop.Interp) :
    ReturnsInHanded {} Tryz.checked os 3 .any ((OpenSpec.ofChange Rows.fnExactCheckAssertionSpec).preRow enc Tryz.prog Tryz.f3 Rows.fnExactCheckAssertionRow.domain false Rows.fnExactCheckAssertionRow.laid) (((OpenSpec.ofChange Rows.fnExactCheckAssertionSpec).at F).post enc Tryz.prog Tryz.f3 false true false false) := by
  obtain ⟨places, hx⟩ := reads os enc
  refine returnsInHanded_of_row (C := Tryz.checked) (s := OpenSpec.ofChange Rows.fnExactCheckAssertionSpec) Fr.own started (by kernel_rfl) Tryz.func3
    (witness_row_atRef (enc := enc) (C := Tryz.checked) false (laidW os) #[.int .i64 0, .agg #[.string ⟨#[]⟩, .string ⟨#[]⟩, .int .i64 0, .int .i64 0, .bool false, .int .i64 0, .int .i64 0], .string ⟨#[]⟩, .int .i64 0, .int .i64 0] (laidW_os os) (by kernel_rfl) (by kernel_rfl) (by kernel_rfl)
      (OpenSpec.preRow_of_cond 8 hx (by kernel_rfl) (fun k hk => by cases hk) (by kernel_rfl) (laid_met os))) ?_
  intro W base args ds gs before hval hW _ hcond _ hL _ _
  exact contract H enc W base args ds gs before hval hW hL
set_option maxRecDepth 100000 in
theorem said : Rows.FnExactCheckAssertionSaid :=
  OpenClaim.holds_of_cond 3 Tryz.f3 rfl rfl rfl rfl rfl rfl rfl ⟨rfl, rfl, rfl, rfl, rfl⟩ rfl rfl rfl rfl rfl (by kernel_rfl) Tryz.func3 (by kernel_rfl)
    (of_decide_eq_true (by kernel_rfl)) (by unfold Func.isWrapper; first | (rw [if_pos (by decide +kernel)]; kernel_rfl) | (rw [if_neg (by decide +kernel)]; exact ⟨rfl, rfl⟩))
    (fun os started H enc _ F => by rw [OpenClaim.pre_eq_preRow]; exact lifted os started H enc F)
theorem plain (f : FuncId) (fn : Func) (hf : Tryz.pinned.checked.prog.funcNamed "loop.example/g00581/laws.FnExactCheckAssertion" = some f) (hfn : Tryz.pinned.checked.prog.funcs[f]? = some fn) :
    true = Tryz.pinned.checked.prog.looks [] ∧ ∀ (j : Nat) t, fn.params[j]? = some t → Tryz.pinned.checked.prog.wantsStandIn t = false := by
  obtain rfl : f = 3 := Option.some.inj ((show Tryz.prog.funcNamed "loop.example/g00581/laws.FnExactCheckAssertion" = some 3 by kernel_rfl).symm.trans hf) |>.symm
  obtain rfl : fn = Tryz.f3 := (Option.some.inj (Tryz.func3.symm.trans hfn)).symm
  refine ⟨by kernel_rfl, fun j t ht => ?_⟩
  rw [Tryz.params3] at ht
  have hall : ([3, 23, 9, 3, 3] : List TypeId).all (fun t => !Tryz.prog.wantsStandIn t) = true := by kernel_rfl
  have hm : t ∈ ([3, 23, 9, 3, 3] : List TypeId) := List.mem_of_getElem? (i := j) (by rw [← List.getElem?_toArray]; exact ht)
  have := List.all_eq_true.1 hall t hm
  exact (by simpa using this : Tryz.prog.wantsStandIn t = false)
theorem proved : Rows.FnExactCheckAssertionCardSaid :=
  Claim7.holds_tied_plain_at .later [] _ _ _ _ said (fun _ h => by cases h) (by kernel_rfl) (fun _ h => by cases h) fnExactCheckAssertion_row_tie rfl ⟨rfl, rfl⟩ (by kernel_rfl) rfl plain (by kernel_rfl)
#print axioms proved
end Go.Proofs.YtialhhdhpjjkaaaGreatDoor.fnExactCheckAssertion
