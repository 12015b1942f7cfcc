/-
  laws.FnExactMergeBundles returns true at every argument, and leaves what came in as it was: the program's MergeBundles answers as the model's (slices and strings of more than 1048576 elements are passed over by the law itself). Conditions: none.
-/
import Derived.Test.YtoedfeacpllkeaaFr
import Derived.Stop.Joined
import Derived.Test.YtoedfeacpllkeaaDg
import Derived.Test.YtoedfeacpllkeaaSo
import Derived.Test.YtoedfeacpllkeaaM1
import Derived.Test.YtoedfeacpllkeaaYBundle
import Derived.Test.YtoedfeacpllkeaaL17x
namespace Go.Proofs.Ytoedfeacpllkeaa.fnExactMergeBundles
open Go.ChangeShapes Go.WideShapes Go.ChangeAt Go.RowKit
set_option linter.unusedVariables false

open S0 S1 S9 Dm in
set_option maxRecDepth 100000 in
theorem cell_sh {W : World} {b0 n c : Nat} {A : Option Addr} (h : Cell.okWide Try.prog W .any b0 40 (.slice A n c)) : Sh A n c := by
  have h2 := h
  simp only [Try.underlying40, Cell.okWide, Cell.ok] at h2
  cases A with
  | none =>
    cases n with
    | zero =>
      cases c with
      | zero => exact ⟨Nat.le_refl _, fun _ => ⟨rfl, rfl⟩, fun a e => by cases e⟩
      | succ c => exact False.elim h2
    | succ n => exact False.elim h2
  | some a => exact ⟨h2.1, fun e => (by cases e), fun b e => by cases e; exact h2.2.2.2.1⟩
open S0 S1 S9 Dm in
set_option maxRecDepth 100000 in
theorem bun_sh {W : World} {b0 n c : Nat} {A : Option Addr} (h : Value.okWide Try.prog W .any b0 42 (.agg #[.slice A n c])) : Sh A n c := by
  simp only [Value.okWide, Try.underlying42] at h
  obtain ⟨cs, e, hs, ts, ht, hn, hc⟩ := h
  injection e with e
  subst e
  have ht2 : Try.prog.cellTypes Try.prog.depth 42 = some [40] := by kernel_rfl
  rw [ht2] at ht
  injection ht with ht
  subst ht
  obtain ⟨u, h1, h2⟩ := hc 0 _ rfl
  injection h1 with h1
  subst h1
  exact cell_sh h2
open S0 S1 S9 Dm Fx E0 E1 E18 Das in
theorem row_sh {W : World} {l : List Fx.Entry} {A : Option Addr} {c : Nat} (hr : Rds W W.heap.size (EntrysD l) (.slice A l.length c)) (hsh : Sh A l.length c) : Shs W W.heap.size (rowR 38 4 dasEntry zEntry l).dc (.slice A l.length c) := by
  rw [rowR_dc 38 zEntry Entry.len dasEntry_dc]
  refine shs_row (fun d hd => ?_) hr hsh
  obtain ⟨y, _, hy⟩ := List.mem_flatMap.1 hd
  unfold Entry.dcs at hy
  simp only [List.mem_cons, List.not_mem_nil, or_false] at hy
  rcases hy with rfl | rfl | rfl | rfl <;> exact ⟨_, rfl⟩
open S0 S1 S9 Dm Fx E0 E1 E18 E20 Das in
set_option maxHeartbeats 4000000 in
set_option maxRecDepth 100000 in
theorem walk (v0 : Value) (v1 : Value) (W : World) {H : Type} {enc : TypeId × Value → H} {b0 : Nat} {d0 : DataW H} {p0 : List MemPlace} (hv0 : Value.okWide Try.prog W .any b0 42 v0) (ht0 : DataW.Trod enc Try.prog W 0 (fun _ => true) true 42 v0 d0 p0) {b1 : Nat} {d1 : DataW H} {p1 : List MemPlace} (hv1 : Value.okWide Try.prog W .any b1 42 v1) (ht1 : DataW.Trod enc Try.prog W 0 (fun _ => true) true 42 v1 d1 p1) :
    Calls Try.prog 9 #[v0, v1] W fun e w' => e = .returned (.bool true) ∧ Below W.heap.size W w' := by
  obtain ⟨vs0, x0, rfl, hr0, ho0⟩ := Fx.argBundle hv0 ht0
  obtain ⟨A0, c0, rfl, hra⟩ := Fx.Bundle.rds hr0
  have hsa := bun_sh hv0
  clear ht0 hv0 hr0
  obtain ⟨vs1, x1, rfl, hr1, ho1⟩ := Fx.argBundle hv1 ht1
  obtain ⟨A1, c1, rfl, hrb⟩ := Fx.Bundle.rds hr1
  have hsb := bun_sh hv1
  clear ht1 hv1 hr1
  have hSa := row_sh hra hsa
  have hSb := row_sh hrb hsb
  refine law_go (L17x.mrgE W x0 x1) noLoops Try.func9 (by kernel_rfl) (by kernel_rfl) (L17x.wpMrg W x0 x1 ho0 ho1) (vs := [.agg [Value.slice A0 x0.Entries.length c0].toArray, .agg [Value.slice A1 x1.Entries.length c1].toArray]) rfl rfl fun i av hi => ?_
  match i, hi with
  | 0, hi => cases hi; exact ⟨_, rfl, _, rfl, _, _, rfl, hSa, rfl⟩
  | 1, hi => cases hi; exact ⟨_, rfl, _, rfl, _, _, rfl, hSb, rfl⟩
  | i + 2, hi => cases hi

set_option maxRecDepth 100000 in
theorem contract (H : Type) (enc : TypeId × Value → H) (W : World) (base : Nat) (args : Array Value) (ds gs : List (DataW H)) (before : List MemPlace)
    (hval : ∀ (j : Nat) t v, Try.f9.params[j]? = some t → args[j]? = some v → Value.okWide Try.prog W .any base t v)
    (hW : DataW.Whole enc Try.prog Try.f9.params.toList Rows.fnExactMergeBundlesSpec.vars false W args.toList ds gs before) :
    Calls Try.prog 9 args W fun e W' => ∃ v, e = .returned v ∧ Rows.fnExactMergeBundlesSpec.post enc Try.prog Try.f9 false true false false W args v W' := by
  have hW' := hW
  obtain ⟨p, q, hA0, hV, rfl, hfz, hnd⟩ := hW
  have hA : DataW.TrodAll enc Try.prog W 0 (fun _ => true) true Try.f9.params.toList args.toList ds p := hA0
  rw [Try.params9] at hA hval
  obtain ⟨v0, vs0, d0, ds0, p0, q0, hargs, rfl, rfl, h0, r0⟩ := trodAll_cons hA
  obtain ⟨v1, vs1, d1, ds1, p1, q1, rfl, rfl, rfl, h1, r1⟩ := trodAll_cons r0
  obtain ⟨rfl, rfl, rfl⟩ := trodAll_nil r1
  obtain rfl : args = #[v0, v1] := by cases args; simp_all
  obtain ⟨rfl, rfl⟩ := trodVars_none hV
  clear hA0
  refine Fr.closeLaw rfl (by kernel_rfl) (by rw [Try.params9]; decide) hW' rfl ?_
  exact walk v0 v1 W (hval 0 42 v0 rfl rfl) h0 (hval 1 42 v1 rfl rfl) h1

set_option maxRecDepth 100000 in
theorem reads (os : Os) {H : Type} (enc : TypeId × Value → H) : ∃ places, DataW.whole enc Try.prog ((World.holding Try.prog os ⟨#[], #[], []⟩).forCall (fun _ _ => 0) ⟨#[], #[.agg #[.slice none 0 0], .agg #[.slice none 0 0]], []⟩).memory Try.f9.params.toList Rows.fnExactMergeBundlesSpec.vars false (#[.agg #[.slice none 0 0], .agg #[.slice none 0 0]] : Array Value).toList 8 = some ([.agg [.nil], .agg [.nil]], [], places) :=
  ⟨[], by kernel_rfl⟩
set_option maxRecDepth 100000 in
theorem lifted (os : Os) (started : os.Started) (H : Type) (enc : TypeId × Value → H) (F : Stop.Interp) :
    ReturnsInHanded {} Try.checked os 9 .any ((OpenSpec.ofChange Rows.fnExactMergeBundlesSpec).preRow enc Try.prog Try.f9 Rows.fnExactMergeBundlesRow.domain false Rows.fnExactMergeBundlesRow.laid) (((OpenSpec.ofChange Rows.fnExactMergeBundlesSpec).at F).post enc Try.prog Try.f9 false true false false) := by
  obtain ⟨places, hx⟩ := reads os enc
  refine returnsInHanded_of_row (C := Try.checked) (s := OpenSpec.ofChange Rows.fnExactMergeBundlesSpec) Fr.own started (by kernel_rfl) Try.func9
    (witness_row_atRef (enc := enc) (C := Try.checked) false (World.holding Try.prog os ⟨#[], #[], []⟩) #[.agg #[.slice none 0 0], .agg #[.slice none 0 0]] rfl (by kernel_rfl) (by kernel_rfl) (by kernel_rfl)
      (OpenSpec.preRow_of_cond 8 hx (by kernel_rfl) (fun k hk => by cases hk) (by kernel_rfl) (laidMetH_nil _ _))) ?_
  intro W base args ds gs before hval hW _ hcond _ hL _ _
  exact contract H enc W base args ds gs before hval hW
set_option maxRecDepth 100000 in
theorem said : Rows.FnExactMergeBundlesSaid :=
  OpenClaim.holds_of_cond 9 Try.f9 rfl rfl rfl rfl rfl rfl rfl ⟨rfl, rfl, rfl, rfl, rfl⟩ rfl rfl rfl rfl rfl (by kernel_rfl) Try.func9 (by kernel_rfl)
    (of_decide_eq_true (by kernel_rfl)) (by unfold Func.isWrapper; first | (rw [if_pos (by decide +kernel)]; kernel_rfl) | (rw [if_neg (by decide +kernel)]; exact ⟨rfl, rfl⟩))
    (fun os started H enc _ F => by rw [OpenClaim.pre_eq_preRow]; exact lifted os started H enc F)
theorem proved : Rows.FnExactMergeBundlesSaid := said
#print axioms proved
end Go.Proofs.Ytoedfeacpllkeaa.fnExactMergeBundles
