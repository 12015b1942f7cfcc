/-
  laws.FnExactOpenTab returns true at every argument, and leaves what came in as it was: the program's OpenTab answers as the model's (slices and strings of more than 1048576 elements are passed over by the law itself). Conditions: none.
-/
import Derived.Test.YtogoppknimpkbaaBa
import Derived.Stop.Joined
import Derived.Test.YtogoppknimpkbaaBb
import Derived.Test.YtogoppknimpkbaaYBrowser
import Derived.Test.YtogoppknimpkbaaL16x
namespace Go.Proofs.Ytogoppknimpkbaa.fnExactOpenTab
open Go.ChangeShapes Go.WideShapes Go.ChangeAt Go.RowKit
set_option linter.unusedVariables false

open S0 S1 S9 Dm in
set_option maxRecDepth 100000 in
theorem cell_sh {W : World} {b0 n c : Nat} {A : Option Addr} (h : Cell.okWide Try.prog W .any b0 24 (.slice A n c)) : Sh A n c := by
  have h2 := h
  simp only [Try.underlying24, Cell.okWide, Cell.ok] at h2
  cases A with
  | none =>
    cases n with
    | zero =>
      cases c with
      | zero => exact ⟨Nat.le_refl _, fun _ => ⟨rfl, rfl⟩, fun a e => by cases e⟩
      | succ c => exact False.elim h2
    | succ n => exact False.elim h2
  | some a => exact ⟨h2.1, fun e => (by cases e), fun b e => by cases e; exact h2.2.2.2.1⟩
open S0 S1 S9 Dm in
set_option maxRecDepth 100000 in
theorem bro_sh {W : World} {b0 n c : Nat} {A : Option Addr} {x1 x2 x3 x4 x6 : Value} (h : Value.okWide Try.prog W .any b0 26 (.agg #[x1, x2, x3, x4, .slice A n c, x6])) : Sh A n c := by
  simp only [Value.okWide, Try.underlying26] at h
  obtain ⟨cs, e, hs, ts, ht, hn, hc⟩ := h
  injection e with e
  subst e
  have ht2 : Try.prog.cellTypes Try.prog.depth 26 = some [3, 3, 3, 3, 24, 3] := by kernel_rfl
  rw [ht2] at ht
  injection ht with ht
  subst ht
  obtain ⟨u, h1, h2⟩ := hc 4 _ rfl
  injection h1 with h1
  subst h1
  exact cell_sh h2
open S0 S1 S9 Dm Fx E0 E1 E18 E20 Das in
set_option maxHeartbeats 4000000 in
set_option maxRecDepth 100000 in
theorem walk (v0 : Value) (v1 : Value) (v2 : Value) (W : World) {H : Type} {enc : TypeId × Value → H} {b0 : Nat} {d0 : DataW H} {p0 : List MemPlace} (hv0 : Value.okWide Try.prog W .any b0 26 v0) (ht0 : DataW.Trod enc Try.prog W 0 (fun _ => true) true 26 v0 d0 p0) {b1 : Nat} {d1 : DataW H} {p1 : List MemPlace} (hv1 : Value.okWide Try.prog W .any b1 28 v1) (ht1 : DataW.Trod enc Try.prog W 0 (fun _ => true) true 28 v1 d1 p1) {b2 : Nat} {d2 : DataW H} {p2 : List MemPlace} (hv2 : Value.okWide Try.prog W .any b2 28 v2) (ht2 : DataW.Trod enc Try.prog W 0 (fun _ => true) true 28 v2 d2 p2) :
    Calls Try.prog 3 #[v0, v1, v2] W fun e w' => e = .returned (.bool true) ∧ Below W.heap.size W w' := by
  obtain ⟨vs0, x0, rfl, hr0, ho0⟩ := Fx.argBrowser hv0 ht0
  obtain ⟨A0, c0, rfl, hr⟩ := Fx.Browser.rds hr0
  have hsh := bro_sh hv0
  clear ht0 hv0 hr0
  obtain ⟨vs1, x1, rfl, hr1, ho1⟩ := Fx.argOrigin hv1 ht1
  clear ht1 hv1
  obtain rfl := Fx.Origin.rds hr1
  obtain ⟨vs2, x2, rfl, hr2, ho2⟩ := Fx.argOrigin hv2 ht2
  clear ht2 hv2
  obtain rfl := Fx.Origin.rds hr2
  have hS : Shs W W.heap.size (rowR 59 6 dasTab zTab x0.Tabs).dc (.slice A0 x0.Tabs.length c0) := by
    rw [rowR_dc 59 zTab Tab.len dasTab_dc]
    refine shs_row (fun d hd => ?_) hr hsh
    obtain ⟨y, _, hy⟩ := List.mem_flatMap.1 hd
    unfold Tab.dcs at hy
    simp only [List.mem_cons, List.not_mem_nil, or_false] at hy
    rcases hy with rfl | rfl | rfl | rfl | rfl | rfl <;> exact ⟨_, rfl⟩
  refine law_go (L16x.opnE W x0 x1 x2) noLoops Try.func3 (by kernel_rfl) (by kernel_rfl) (L16x.wpOpen W x0 x1 x2 ho0 ho1 ho2) (vs := [.agg [Value.int .i64 x0.Store.Vendor, .int .i64 x0.Store.Serial, .int .i64 x0.Store.Seed, .int .i64 x0.Store.Counter, .slice A0 x0.Tabs.length c0, .int .i64 x0.Asked].toArray, .agg [Value.bool x1.Secure, .string x1.Host, .int .i64 x1.Port].toArray, .agg [Value.bool x2.Secure, .string x2.Host, .int .i64 x2.Port].toArray]) rfl rfl fun i av hi => ?_
  match i, hi with
  | 0, hi => cases hi; exact ⟨_, rfl, _, rfl, _, _, rfl, rfl, _, _, rfl, rfl, _, _, rfl, rfl, _, _, rfl, rfl, _, _, rfl, hS, _, _, rfl, rfl, rfl⟩
  | 1, hi => cases hi; exact ⟨_, rfl, _, rfl, _, _, rfl, rfl, _, _, rfl, rfl, _, _, rfl, rfl, rfl⟩
  | 2, hi => cases hi; exact ⟨_, rfl, _, rfl, _, _, rfl, rfl, _, _, rfl, rfl, _, _, rfl, rfl, rfl⟩
  | i + 3, hi => cases hi

set_option maxRecDepth 100000 in
theorem contract (H : Type) (enc : TypeId × Value → H) (W : World) (base : Nat) (args : Array Value) (ds gs : List (DataW H)) (before : List MemPlace)
    (hval : ∀ (j : Nat) t v, Try.f3.params[j]? = some t → args[j]? = some v → Value.okWide Try.prog W .any base t v)
    (hW : DataW.Whole enc Try.prog Try.f3.params.toList Rows.fnExactOpenTabSpec.vars false W args.toList ds gs before) :
    Calls Try.prog 3 args W fun e W' => ∃ v, e = .returned v ∧ Rows.fnExactOpenTabSpec.post enc Try.prog Try.f3 false true false false W args v W' := by
  have hW' := hW
  obtain ⟨p, q, hA0, hV, rfl, hfz, hnd⟩ := hW
  have hA : DataW.TrodAll enc Try.prog W 0 (fun _ => true) true Try.f3.params.toList args.toList ds p := hA0
  rw [Try.params3] at hA hval
  obtain ⟨v0, vs0, d0, ds0, p0, q0, hargs, rfl, rfl, h0, r0⟩ := trodAll_cons hA
  obtain ⟨v1, vs1, d1, ds1, p1, q1, rfl, rfl, rfl, h1, r1⟩ := trodAll_cons r0
  obtain ⟨v2, vs2, d2, ds2, p2, q2, rfl, rfl, rfl, h2, r2⟩ := trodAll_cons r1
  obtain ⟨rfl, rfl, rfl⟩ := trodAll_nil r2
  obtain rfl : args = #[v0, v1, v2] := by cases args; simp_all
  obtain ⟨rfl, rfl⟩ := trodVars_none hV
  clear hA0
  refine Fr.closeLaw rfl (by kernel_rfl) (by rw [Try.params3]; decide) hW' rfl ?_
  exact walk v0 v1 v2 W (hval 0 26 v0 rfl rfl) h0 (hval 1 28 v1 rfl rfl) h1 (hval 2 28 v2 rfl rfl) h2

set_option maxRecDepth 100000 in
theorem reads (os : Os) {H : Type} (enc : TypeId × Value → H) : ∃ places, DataW.whole enc Try.prog ((World.holding Try.prog os ⟨#[], #[], []⟩).forCall (fun _ _ => 0) ⟨#[], #[.agg #[.int .i64 0, .int .i64 0, .int .i64 0, .int .i64 0, .slice none 0 0, .int .i64 0], .agg #[.bool false, .string ⟨#[]⟩, .int .i64 0], .agg #[.bool false, .string ⟨#[]⟩, .int .i64 0]], []⟩).memory Try.f3.params.toList Rows.fnExactOpenTabSpec.vars false (#[.agg #[.int .i64 0, .int .i64 0, .int .i64 0, .int .i64 0, .slice none 0 0, .int .i64 0], .agg #[.bool false, .string ⟨#[]⟩, .int .i64 0], .agg #[.bool false, .string ⟨#[]⟩, .int .i64 0]] : Array Value).toList 8 = some ([.agg [.agg [.lit (.int .i64 0), .lit (.int .i64 0), .lit (.int .i64 0), .lit (.int .i64 0)], .nil, .lit (.int .i64 0)], .agg [.lit (.bool false), .lit (.string []), .lit (.int .i64 0)], .agg [.lit (.bool false), .lit (.string []), .lit (.int .i64 0)]], [], places) :=
  ⟨[], by kernel_rfl⟩
set_option maxRecDepth 100000 in
theorem lifted (os : Os) (started : os.Started) (H : Type) (enc : TypeId × Value → H) (F : Stop.Interp) :
    ReturnsInHanded {} Try.checked os 3 .any ((OpenSpec.ofChange Rows.fnExactOpenTabSpec).preRow enc Try.prog Try.f3 Rows.fnExactOpenTabRow.domain false Rows.fnExactOpenTabRow.laid) (((OpenSpec.ofChange Rows.fnExactOpenTabSpec).at F).post enc Try.prog Try.f3 false true false false) := by
  obtain ⟨places, hx⟩ := reads os enc
  refine returnsInHanded_of_row (C := Try.checked) (s := OpenSpec.ofChange Rows.fnExactOpenTabSpec) Fr.own started (by kernel_rfl) Try.func3
    (witness_row_atRef (enc := enc) (C := Try.checked) false (World.holding Try.prog os ⟨#[], #[], []⟩) #[.agg #[.int .i64 0, .int .i64 0, .int .i64 0, .int .i64 0, .slice none 0 0, .int .i64 0], .agg #[.bool false, .string ⟨#[]⟩, .int .i64 0], .agg #[.bool false, .string ⟨#[]⟩, .int .i64 0]] rfl (by kernel_rfl) (by kernel_rfl) (by kernel_rfl)
      (OpenSpec.preRow_of_cond 8 hx (by kernel_rfl) (fun k hk => by cases hk) (by kernel_rfl) (laidMetH_nil _ _))) ?_
  intro W base args ds gs before hval hW _ hcond _ hL _ _
  exact contract H enc W base args ds gs before hval hW
set_option maxRecDepth 100000 in
theorem said : Rows.FnExactOpenTabSaid :=
  OpenClaim.holds_of_cond 3 Try.f3 rfl rfl rfl rfl rfl rfl rfl ⟨rfl, rfl, rfl, rfl, rfl⟩ rfl rfl rfl rfl rfl (by kernel_rfl) Try.func3 (by kernel_rfl)
    (of_decide_eq_true (by kernel_rfl)) (by unfold Func.isWrapper; first | (rw [if_pos (by decide +kernel)]; kernel_rfl) | (rw [if_neg (by decide +kernel)]; exact ⟨rfl, rfl⟩))
    (fun os started H enc _ F => by rw [OpenClaim.pre_eq_preRow]; exact lifted os started H enc F)
theorem proved : Rows.FnExactOpenTabSaid := said
#print axioms proved
end Go.Proofs.Ytogoppknimpkbaa.fnExactOpenTab
