import Derived.Test.YtmhjjocmnmeapaaGreatDoorBa
import Derived.Test.YtmhjjocmnmeapaaGreatDoorCards
import Derived.Test.YtmhjjocmnmeapaaGreatDoorTie
import Derived.Lay
import Derived.LaidHandle
import Derived.MakeChecks
import Derived.Test.YtmhjjocmnmeapaaGreatDoorLa
import Derived.Test.YtmhjjocmnmeapaaGreatDoorL15a
import Derived.Test.YtmhjjocmnmeapaaGreatDoorAs
/-
  laws.FnAccounts returns true at every code, and leaves it as it was: a cut credential never signs in again, a cloned one is cut, and the minimum never decreases. Conditions: the library's package-level variables math/bits.deBruijn32tab, math/bits.deBruijn64tab, internal/strconv.uint64pow10, errors.errorType, strconv.ErrRange, strconv.ErrSyntax hold when the call begins what the program's text lays there (the card ties them to that text).
-/
namespace Go.Proofs.YtmhjjocmnmeapaaGreatDoor.fnAccounts
open Go.ChangeShapes Go.WideShapes Go.ChangeAt Go.RowKit
set_option linter.unusedVariables false

open S0 S1 S9 Dm in
set_option maxRecDepth 100000 in
theorem code_sh {W : World} {b0 n c : Nat} {A : Option Addr} (hval : Value.okWide Tryz.prog W .any b0 22 (.slice A n c)) : Sh A n c := by
  have h2 := hval
  simp only [Value.okWide, Tryz.underlying22, Cell.okWide, Cell.ok] at h2
  cases A with
  | none =>
    cases n with
    | zero =>
      cases c with
      | zero => exact ⟨Nat.le_refl _, fun _ => ⟨rfl, rfl⟩, fun a e => by cases e⟩
      | succ c => exact False.elim h2
    | succ n => exact False.elim h2
  | some a => exact ⟨h2.1, fun e => (by cases e), fun b e => by cases e; exact h2.2.2.2.1⟩
open S0 S1 S9 Dm E0 in
theorem shsL_ints (w : World) (hi : Nat) (kd : IntKind) : ∀ xs : List Int, ShsL w hi (xs.map fun x => Dc.val (.int kd x)) (ints kd xs)
  | [] => by simp [ShsL, ints]
  | x :: xs => by
    have ih := shsL_ints w hi kd xs
    unfold ints at *
    simp only [List.map_cons, ShsL, Shs]
    exact ⟨_, _, rfl, rfl, ih⟩
open S0 S1 S9 Dm E0 E1 E18 E20 in
set_option maxRecDepth 100000 in
theorem walk (v0 : Value) (W : World) {H : Type} {enc : TypeId × Value → H} {b0 : Nat} {d0 : DataW H} {p0 : List MemPlace} (hv0 : Value.okWide Tryz.prog W .any b0 22 v0) (ht0 : DataW.Trod enc Tryz.prog W 0 (fun _ => true) true 22 v0 d0 p0) (hL : laidMetH Tryz.prog Rows.fnAccountsRow.laid W) :
    Calls Tryz.prog 3 #[v0] W fun e w' => e = .returned (.bool true) ∧ Below W.heap.size W w' := by
  have ht : La.Pow W := La.pow_of rfl hL
  have he : As.Er W := As.er_of rfl rfl rfl hL
  clear hL
  obtain ⟨A0, n0, c0, xs0, rfl, hr0, hm0, hx0⟩ := So.bytes hv0 ht0
  have hsh := code_sh hv0
  unfold maxLen at hm0
  by_cases hl : 1048576 < n0
  · clear hv0 ht0 hr0
    go_enter Tryz.func3, Tryz.ntmps3
    go_wp2_with fail
    (with_reducible refine (Cd.big_yes A0 n0 c0 _ (by omega) hl).mono ?_); rintro e w0 ⟨rfl, rfl⟩
    go_wp2
    go_ret
    exact ⟨rfl, Below.refl _ _⟩
  · have hn := hr0.1
    rw [ints_len] at hn
    obtain rfl : n0 = xs0.length := by omega
    have hS : Shs W W.heap.size (numR 5 .u8 xs0).dc (.slice A0 xs0.length c0) := by
      rw [numR_dc]
      unfold flatD
      simp only [Shs]
      exact ⟨A0, c0, _, rfl, hr0, shsL_ints _ _ _ _, hsh⟩
    refine law_go (L15a.acC W xs0) noLoops Tryz.func3 (by kernel_rfl) (by kernel_rfl) (L15a.wpLaw W xs0 (by omega) ht he) (vs := [.slice A0 xs0.length c0]) rfl rfl fun i av hi => ?_
    match i, hi with
    | 0, hi => cases hi; exact ⟨_, rfl, hS⟩
    | i + 1, hi => cases hi

set_option maxRecDepth 100000 in
theorem contract (H : Type) (enc : TypeId × Value → H) (W : World) (base : Nat) (args : Array Value) (ds gs : List (DataW H)) (before : List MemPlace)
    (hval : ∀ (j : Nat) t v, Tryz.f3.params[j]? = some t → args[j]? = some v → Value.okWide Tryz.prog W .any base t v)
    (hW : DataW.Whole enc Tryz.prog Tryz.f3.params.toList Rows.fnAccountsSpec.vars false W args.toList ds gs before) (hL : laidMetH Tryz.prog Rows.fnAccountsRow.laid W) :
    Calls Tryz.prog 3 args W fun e W' => ∃ v, e = .returned v ∧ Rows.fnAccountsSpec.post enc Tryz.prog Tryz.f3 false true false false W args v W' := by
  have hW' := hW
  obtain ⟨p, q, hA0, hV, rfl, hfz, hnd⟩ := hW
  have hA : DataW.TrodAll enc Tryz.prog W 0 (fun _ => true) true Tryz.f3.params.toList args.toList ds p := hA0
  rw [Tryz.params3] at hA hval
  obtain ⟨v0, vs0, d0, ds0, p0, q0, hargs, rfl, rfl, h0, r0⟩ := trodAll_cons hA
  obtain ⟨rfl, rfl, rfl⟩ := trodAll_nil r0
  obtain rfl : args = #[v0] := by cases args; simp_all
  obtain ⟨rfl, rfl⟩ := trodVars_none hV
  clear hA0
  refine Fr.closeLaw rfl (by kernel_rfl) (by rw [Tryz.params3]; decide) hW' rfl ?_
  exact walk v0 W (hval 0 22 v0 rfl rfl) h0 hL

noncomputable def handW (os : Os) : World := { World.holding Tryz.prog os ⟨#[], #[], []⟩ with heap := (World.holding Tryz.prog os ⟨#[], #[], []⟩).heap.modify 0 fun | .cells _ t fr => .cells #[.iface 129 (.agg #[typeHandle Tryz.prog 91])] t fr | x => x }
noncomputable def laidW (os : Os) : World := (handW os).layVars Tryz.prog (Rows.fnAccountsRow.laid.filter fun x => x.2.handleName?.isNone)
theorem laidW_os (os : Os) : (laidW os).os = os := (World.layVars_os _ _ _).trans rfl
theorem met_on {P : Program} {w0 : World} {l : List (String × DataW Unit)} (args : Array Value) (hf : w0.layFits P l [] = true) (hi : w0.layIfaces P l (w0.layVars P l) = true) : laidMet P l ((w0.layVars P l).forCall (fun _ _ => 0) ⟨#[], args, []⟩).memory := by
  have all : (l.filter fun x => (l.map (·.1)).contains x.1) = l := List.filter_eq_self.2 fun x hx => by simp only [List.contains_iff_mem]; exact List.mem_map_of_mem hx
  have none : (l.filter fun x => !(l.map (·.1)).contains x.1) = [] := List.filter_eq_nil_iff.2 fun x hx => by simp only [Bool.not_eq_true, Bool.not_eq_false', List.contains_iff_mem]; exact List.mem_map_of_mem hx
  have k : laidMet P l (w0.layVars P l) := laidMet_layVars (l.map (·.1)) [] (by rw [all]) (by rw [all]; exact hf) (by rw [all]; exact hi) (by rw [none]; exact LaidIn.none)
  exact k.of_heap (by simp [World.memory, World.forCall, Input.heap])
theorem laid_met (os : Os) : laidMetH Tryz.prog Rows.fnAccountsRow.laid ((laidW os).forCall (fun _ _ => 0) ⟨#[], #[.slice none 0 0], []⟩).memory := by
  exact laidMetH_of_parts (met_on _ (by kernel_rfl) (by kernel_rfl)) (by kernel_rfl)
set_option maxRecDepth 100000 in
theorem reads (os : Os) {H : Type} (enc : TypeId × Value → H) : ∃ places, DataW.whole enc Tryz.prog ((laidW os).forCall (fun _ _ => 0) ⟨#[], #[.slice none 0 0], []⟩).memory Tryz.f3.params.toList Rows.fnAccountsSpec.vars false (#[.slice none 0 0] : Array Value).toList 8 = some ([.nil], [], places) :=
  ⟨[], by kernel_rfl⟩
set_option maxRecDepth 100000 in
theorem lifted (os : Os) (started : os.Started) (H : Type) (enc : TypeId × Value → H) (F : Stop.Interp) :
    ReturnsInHanded {} Tryz.checked os 3 .any ((OpenSpec.ofChange Rows.fnAccountsSpec).preRow enc Tryz.prog Tryz.f3 Rows.fnAccountsRow.domain false Rows.fnAccountsRow.laid) (((OpenSpec.ofChange Rows.fnAccountsSpec).at F).post enc Tryz.prog Tryz.f3 false true false false) := by
  obtain ⟨places, hx⟩ := reads os enc
  refine returnsInHanded_of_row (C := Tryz.checked) (s := OpenSpec.ofChange Rows.fnAccountsSpec) Fr.own started (by kernel_rfl) Tryz.func3
    (witness_row_atRef (enc := enc) (C := Tryz.checked) false (laidW os) #[.slice none 0 0] (laidW_os os) (by kernel_rfl) (by kernel_rfl) (by kernel_rfl)
      (OpenSpec.preRow_of_cond 8 hx (by kernel_rfl) (fun k hk => by cases hk) (by kernel_rfl) (laid_met os))) ?_
  intro W base args ds gs before hval hW _ hcond _ hL _ _
  exact contract H enc W base args ds gs before hval hW hL
set_option maxRecDepth 100000 in
theorem said : Rows.FnAccountsSaid :=
  OpenClaim.holds_of_cond 3 Tryz.f3 rfl rfl rfl rfl rfl rfl rfl ⟨rfl, rfl, rfl, rfl, rfl⟩ rfl rfl rfl rfl rfl (by kernel_rfl) Tryz.func3 (by kernel_rfl)
    (of_decide_eq_true (by kernel_rfl)) (by unfold Func.isWrapper; first | (rw [if_pos (by decide +kernel)]; kernel_rfl) | (rw [if_neg (by decide +kernel)]; exact ⟨rfl, rfl⟩))
    (fun os started H enc _ F => by rw [OpenClaim.pre_eq_preRow]; exact lifted os started H enc F)
theorem plain (f : FuncId) (fn : Func) (hf : Tryz.pinned.checked.prog.funcNamed "loop.example/g00581/laws.FnAccounts" = some f) (hfn : Tryz.pinned.checked.prog.funcs[f]? = some fn) :
    true = Tryz.pinned.checked.prog.looks [] ∧ ∀ (j : Nat) t, fn.params[j]? = some t → Tryz.pinned.checked.prog.wantsStandIn t = false := by
  obtain rfl : f = 3 := Option.some.inj ((show Tryz.prog.funcNamed "loop.example/g00581/laws.FnAccounts" = some 3 by kernel_rfl).symm.trans hf) |>.symm
  obtain rfl : fn = Tryz.f3 := (Option.some.inj (Tryz.func3.symm.trans hfn)).symm
  refine ⟨by kernel_rfl, fun j t ht => ?_⟩
  rw [Tryz.params3] at ht
  have hall : ([22] : List TypeId).all (fun t => !Tryz.prog.wantsStandIn t) = true := by kernel_rfl
  have hm : t ∈ ([22] : List TypeId) := by have := Array.mem_of_getElem? ht; simpa using this
  have := List.all_eq_true.1 hall t hm
  exact (by simpa using this : Tryz.prog.wantsStandIn t = false)
theorem proved : Rows.FnAccountsCardSaid :=
  Claim7.holds_tied_plain_at .later [] _ _ _ _ said (fun _ h => by cases h) (by kernel_rfl) (fun _ h => by cases h) fnAccounts_row_tie rfl ⟨rfl, rfl⟩ (by kernel_rfl) rfl plain (by kernel_rfl)
#print axioms proved
end Go.Proofs.YtmhjjocmnmeapaaGreatDoor.fnAccounts
