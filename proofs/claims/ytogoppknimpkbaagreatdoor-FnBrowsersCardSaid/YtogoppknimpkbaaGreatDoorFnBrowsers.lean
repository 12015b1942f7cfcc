import Derived.Test.YtogoppknimpkbaaGreatDoorBa
import Derived.Test.YtogoppknimpkbaaGreatDoorCards
import Derived.Test.YtogoppknimpkbaaGreatDoorTie
import Derived.Lay
import Derived.LaidHandle
import Derived.MakeChecks
import Derived.Test.YtogoppknimpkbaaGreatDoorLa
import Derived.Test.YtogoppknimpkbaaGreatDoorL16b
/-
  laws.FnBrowsers returns true at every code, and leaves it as it was: a page gets an assertion only for its own site, with consent, and not from within a foreign page. Conditions: the library's package-level variables math/bits.deBruijn32tab, math/bits.deBruijn64tab, internal/strconv.uint64pow10 hold when the call begins what the program's text lays there (the card ties them to that text).
-/
namespace Go.Proofs.YtogoppknimpkbaaGreatDoor.fnBrowsers
open Go.ChangeShapes Go.WideShapes Go.ChangeAt Go.RowKit
set_option linter.unusedVariables false

open S0 S1 S9 Dm in
set_option maxRecDepth 100000 in
theorem code_sh {W : World} {b0 n c : Nat} {A : Option Addr} (hval : Value.okWide Tryz.prog W .any b0 22 (.slice A n c)) : Sh A n c := by
  have h2 := hval
  simp only [Value.okWide, Tryz.underlying22, Cell.okWide, Cell.ok] at h2
  cases A with
  | none =>
    cases n with
    | zero =>
      cases c with
      | zero => exact ⟨Nat.le_refl _, fun _ => ⟨rfl, rfl⟩, fun a e => by cases e⟩
      | succ c => exact False.elim h2
    | succ n => exact False.elim h2
  | some a => exact ⟨h2.1, fun e => (by cases e), fun b e => by cases e; exact h2.2.2.2.1⟩
open S0 S1 S9 Dm E0 in
theorem shsL_ints (w : World) (hi : Nat) (kd : IntKind) : ∀ xs : List Int, ShsL w hi (xs.map fun x => Dc.val (.int kd x)) (ints kd xs)
  | [] => by simp [ShsL, ints]
  | x :: xs => by
    have ih := shsL_ints w hi kd xs
    unfold ints at *
    simp only [List.map_cons, ShsL, Shs]
    exact ⟨_, _, rfl, rfl, ih⟩
open S0 S1 S9 Dm E0 E1 E18 E20 in
set_option maxRecDepth 100000 in
theorem walk (v0 : Value) (W : World) {H : Type} {enc : TypeId × Value → H} {b0 : Nat} {d0 : DataW H} {p0 : List MemPlace} (hv0 : Value.okWide Tryz.prog W .any b0 22 v0) (ht0 : DataW.Trod enc Tryz.prog W 0 (fun _ => true) true 22 v0 d0 p0) (hL : laidMetH Tryz.prog Rows.fnBrowsersRow.laid W) :
    Calls Tryz.prog 3 #[v0] W fun e w' => e = .returned (.bool true) ∧ Below W.heap.size W w' := by
  have ht : La.Pow W := La.pow_of rfl hL
  clear hL
  obtain ⟨A0, n0, c0, xs0, rfl, hr0, hm0, hx0⟩ := So.bytes hv0 ht0
  have hsh := code_sh hv0
  unfold maxLen at hm0
  by_cases hl : 1048576 < n0
  · clear hv0 ht0 hr0
    go_enter Tryz.func3, Tryz.ntmps3
    go_wp2_with fail
    (with_reducible refine (Cd.big_yes A0 n0 c0 _ (by omega) hl).mono ?_); rintro e w0 ⟨rfl, rfl⟩
    go_wp2
    go_ret
    exact ⟨rfl, Below.refl _ _⟩
  · have hn := hr0.1
    rw [ints_len] at hn
    obtain rfl : n0 = xs0.length := by omega
    have hS : Shs W W.heap.size (numR 5 .u8 xs0).dc (.slice A0 xs0.length c0) := by
      rw [numR_dc]
      unfold flatD
      simp only [Shs]
      exact ⟨A0, c0, _, rfl, hr0, shsL_ints _ _ _ _, hsh⟩
    obtain ⟨hb, hl2, hK, hZ⟩ := Dr.ask_is (xs := xs0) (by omega)
    have h4 := Dr.belV_bd xs0 (n := 4) (Dr.start xs0) (by omega)
    have h9 := Dr.belV_bd xs0 (n := 99) (Dr.belS xs0 4 (Dr.start xs0)) (by omega)
    exact L16b.law W xs0 (by omega) ht _ _ _ _ _ _ hb hl2 hZ (by omega) (by omega) (by omega) (by omega) (Dr.conAskD xs0 (by omega)) _ hS

set_option maxRecDepth 100000 in
theorem contract (H : Type) (enc : TypeId × Value → H) (W : World) (base : Nat) (args : Array Value) (ds gs : List (DataW H)) (before : List MemPlace)
    (hval : ∀ (j : Nat) t v, Tryz.f3.params[j]? = some t → args[j]? = some v → Value.okWide Tryz.prog W .any base t v)
    (hW : DataW.Whole enc Tryz.prog Tryz.f3.params.toList Rows.fnBrowsersSpec.vars false W args.toList ds gs before) (hL : laidMetH Tryz.prog Rows.fnBrowsersRow.laid W) :
    Calls Tryz.prog 3 args W fun e W' => ∃ v, e = .returned v ∧ Rows.fnBrowsersSpec.post enc Tryz.prog Tryz.f3 false true false false W args v W' := by
  have hW' := hW
  obtain ⟨p, q, hA0, hV, rfl, hfz, hnd⟩ := hW
  have hA : DataW.TrodAll enc Tryz.prog W 0 (fun _ => true) true Tryz.f3.params.toList args.toList ds p := hA0
  rw [Tryz.params3] at hA hval
  obtain ⟨v0, vs0, d0, ds0, p0, q0, hargs, rfl, rfl, h0, r0⟩ := trodAll_cons hA
  obtain ⟨rfl, rfl, rfl⟩ := trodAll_nil r0
  obtain rfl : args = #[v0] := by cases args; simp_all
  obtain ⟨rfl, rfl⟩ := trodVars_none hV
  clear hA0
  refine Fr.closeLaw rfl (by kernel_rfl) (by rw [Tryz.params3]; decide) hW' rfl ?_
  exact walk v0 W (hval 0 22 v0 rfl rfl) h0 hL

theorem laid_met (os : Os) : laidMetH Tryz.prog Rows.fnBrowsersRow.laid ((World.laidAll Tryz.prog os Rows.fnBrowsersRow.laid).forCall (fun _ _ => 0) ⟨#[], #[.slice none 0 0], []⟩).memory := by
  rw [MakeChecks.laidMetH_plain _ _ _ (by kernel_rfl)]; exact laidMet_laidAll _ (by kernel_rfl) (by kernel_rfl)
set_option maxRecDepth 100000 in
theorem reads (os : Os) {H : Type} (enc : TypeId × Value → H) : ∃ places, DataW.whole enc Tryz.prog ((World.laidAll Tryz.prog os Rows.fnBrowsersRow.laid).forCall (fun _ _ => 0) ⟨#[], #[.slice none 0 0], []⟩).memory Tryz.f3.params.toList Rows.fnBrowsersSpec.vars false (#[.slice none 0 0] : Array Value).toList 8 = some ([.nil], [], places) :=
  ⟨[], by kernel_rfl⟩
set_option maxRecDepth 100000 in
theorem lifted (os : Os) (started : os.Started) (H : Type) (enc : TypeId × Value → H) (F : Stop.Interp) :
    ReturnsInHanded {} Tryz.checked os 3 .any ((OpenSpec.ofChange Rows.fnBrowsersSpec).preRow enc Tryz.prog Tryz.f3 Rows.fnBrowsersRow.domain false Rows.fnBrowsersRow.laid) (((OpenSpec.ofChange Rows.fnBrowsersSpec).at F).post enc Tryz.prog Tryz.f3 false true false false) := by
  obtain ⟨places, hx⟩ := reads os enc
  refine returnsInHanded_of_row (C := Tryz.checked) (s := OpenSpec.ofChange Rows.fnBrowsersSpec) Fr.own started (by kernel_rfl) Tryz.func3
    (witness_row_atRef (enc := enc) (C := Tryz.checked) false (World.laidAll Tryz.prog os Rows.fnBrowsersRow.laid) #[.slice none 0 0] (World.laidAll_os _ _ _) (by kernel_rfl) (by kernel_rfl) (by kernel_rfl)
      (OpenSpec.preRow_of_cond 8 hx (by kernel_rfl) (fun k hk => by cases hk) (by kernel_rfl) (laid_met os))) ?_
  intro W base args ds gs before hval hW _ hcond _ hL _ _
  exact contract H enc W base args ds gs before hval hW hL
set_option maxRecDepth 100000 in
theorem said : Rows.FnBrowsersSaid :=
  OpenClaim.holds_of_cond 3 Tryz.f3 rfl rfl rfl rfl rfl rfl rfl ⟨rfl, rfl, rfl, rfl, rfl⟩ rfl rfl rfl rfl rfl (by kernel_rfl) Tryz.func3 (by kernel_rfl)
    (of_decide_eq_true (by kernel_rfl)) (by unfold Func.isWrapper; first | (rw [if_pos (by decide +kernel)]; kernel_rfl) | (rw [if_neg (by decide +kernel)]; exact ⟨rfl, rfl⟩))
    (fun os started H enc _ F => by rw [OpenClaim.pre_eq_preRow]; exact lifted os started H enc F)
theorem plain (f : FuncId) (fn : Func) (hf : Tryz.pinned.checked.prog.funcNamed "loop.example/g00581/laws.FnBrowsers" = some f) (hfn : Tryz.pinned.checked.prog.funcs[f]? = some fn) :
    false = Tryz.pinned.checked.prog.looks [] ∧ ∀ (j : Nat) t, fn.params[j]? = some t → Tryz.pinned.checked.prog.wantsStandIn t = false := by
  obtain rfl : f = 3 := Option.some.inj ((show Tryz.prog.funcNamed "loop.example/g00581/laws.FnBrowsers" = some 3 by kernel_rfl).symm.trans hf) |>.symm
  obtain rfl : fn = Tryz.f3 := (Option.some.inj (Tryz.func3.symm.trans hfn)).symm
  refine ⟨by kernel_rfl, fun j t ht => ?_⟩
  rw [Tryz.params3] at ht
  have hall : ([22] : List TypeId).all (fun t => !Tryz.prog.wantsStandIn t) = true := by kernel_rfl
  have hm : t ∈ ([22] : List TypeId) := by have := Array.mem_of_getElem? ht; simpa using this
  have := List.all_eq_true.1 hall t hm
  exact (by simpa using this : Tryz.prog.wantsStandIn t = false)
theorem proved : Rows.FnBrowsersCardSaid :=
  Claim7.holds_tied_plain_at .later [] _ _ _ _ said (fun _ h => by cases h) (by kernel_rfl) (fun _ h => by cases h) fnBrowsers_row_tie rfl ⟨rfl, rfl⟩ (by kernel_rfl) rfl plain (by kernel_rfl)
#print axioms proved
end Go.Proofs.YtogoppknimpkbaaGreatDoor.fnBrowsers
