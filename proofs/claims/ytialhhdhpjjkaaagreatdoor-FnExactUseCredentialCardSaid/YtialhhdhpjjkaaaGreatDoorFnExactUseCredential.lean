import Derived.Test.YtialhhdhpjjkaaaGreatDoorBa
import Derived.Test.YtialhhdhpjjkaaaGreatDoorCards
import Derived.Test.YtialhhdhpjjkaaaGreatDoorTie
import Derived.Lay
import Derived.LaidHandle
import Derived.MakeChecks
import Derived.Test.YtialhhdhpjjkaaaGreatDoorLa
import Derived.Test.YtialhhdhpjjkaaaGreatDoorBb
import Derived.Test.YtialhhdhpjjkaaaGreatDoorAs
import Derived.Test.YtialhhdhpjjkaaaGreatDoorYAccount
import Derived.Test.YtialhhdhpjjkaaaGreatDoorYAssertion
import Derived.Test.YtialhhdhpjjkaaaGreatDoorL14u
/-
  laws.FnExactUseCredential returns true at every argument, and leaves what came in as it was: the program's UseCredential answers as the model's (slices of more than 1048576 elements are passed over by the law itself). Conditions: the library's package-level variables math/bits.deBruijn32tab, math/bits.deBruijn64tab, internal/strconv.uint64pow10, errors.errorType, strconv.ErrRange, strconv.ErrSyntax hold when the call begins what the program's text lays there (the card ties them to that text).
-/
namespace Go.Proofs.YtialhhdhpjjkaaaGreatDoor.fnExactUseCredential
open Go.ChangeShapes Go.WideShapes Go.ChangeAt Go.RowKit
set_option linter.unusedVariables false

open S0 S1 S9 Dm in
set_option maxRecDepth 100000 in
theorem cell_sh {W : World} {b0 n c : Nat} {A : Option Addr} (h : Cell.okWide Tryz.prog W .any b0 29 (.slice A n c)) : Sh A n c := by
  have h2 := h
  simp only [Tryz.underlying29, Cell.okWide, Cell.ok] at h2
  cases A with
  | none =>
    cases n with
    | zero =>
      cases c with
      | zero => exact ⟨Nat.le_refl _, fun _ => ⟨rfl, rfl⟩, fun a e => by cases e⟩
      | succ c => exact False.elim h2
    | succ n => exact False.elim h2
  | some a => exact ⟨h2.1, fun e => (by cases e), fun b e => by cases e; exact h2.2.2.2.1⟩
open S0 S1 S9 Dm in
set_option maxRecDepth 100000 in
theorem acc_sh {W : World} {b0 n c : Nat} {A : Option Addr} {x y : Value} (h : Value.okWide Tryz.prog W .any b0 31 (.agg #[x, y, .slice A n c])) : Sh A n c := by
  simp only [Value.okWide, Tryz.underlying31] at h
  obtain ⟨cs, e, hs, ts, ht, hn, hc⟩ := h
  injection e with e
  subst e
  have ht2 : Tryz.prog.cellTypes Tryz.prog.depth 31 = some [3, 3, 29] := by kernel_rfl
  rw [ht2] at ht
  injection ht with ht
  subst ht
  obtain ⟨u, h1, h2⟩ := hc 2 _ rfl
  injection h1 with h1
  subst h1
  exact cell_sh h2
open S0 S1 S9 Dm Fx E0 E1 E18 E20 Das in
set_option maxHeartbeats 4000000 in
set_option maxRecDepth 100000 in
theorem walk (v0 : Value) (v1 : Value) (s2 : ByteArray) (hs2 : s2.size ≤ maxLen) (a3 : Int) (u3 : (Lit.int .i64 a3).wf = true) (W : World) {H : Type} {enc : TypeId × Value → H} {b0 : Nat} {d0 : DataW H} {p0 : List MemPlace} (hv0 : Value.okWide Tryz.prog W .any b0 31 v0) (ht0 : DataW.Trod enc Tryz.prog W 0 (fun _ => true) true 31 v0 d0 p0) {b1 : Nat} {d1 : DataW H} {p1 : List MemPlace} (hv1 : Value.okWide Tryz.prog W .any b1 23 v1) (ht1 : DataW.Trod enc Tryz.prog W 0 (fun _ => true) true 23 v1 d1 p1) (hL : laidMetH Tryz.prog Rows.fnExactUseCredentialRow.laid W) :
    Calls Tryz.prog 4 #[v0, v1, .string s2, .int .i64 a3] W fun e w' => e = .returned (.bool true) ∧ Below W.heap.size W w' := by
  have ht : La.Pow W := La.pow_of rfl hL
  have he : As.Er W := As.er_of rfl rfl rfl hL
  clear hL
  obtain ⟨vs0, x0, rfl, hr0, ho0⟩ := Fx.argAccount hv0 ht0
  obtain ⟨A0, c0, rfl, hr⟩ := Fx.Account.rds hr0
  have hsh := acc_sh hv0
  clear ht0 hv0 hr0
  obtain ⟨vs1, x1, rfl, hr1, ho1⟩ := Fx.argAssertion hv1 ht1
  clear ht1 hv1
  obtain rfl := Fx.Assertion.rds hr1
  unfold maxLen at hs2
  have hS : Shs W W.heap.size (rowR 86 4 dasCredential zCredential x0.Credentials).dc (.slice A0 x0.Credentials.length c0) := by
    rw [rowR_dc 86 zCredential Credential.len dasCredential_dc]
    refine shs_row (fun d hd => ?_) hr hsh
    obtain ⟨y, _, hy⟩ := List.mem_flatMap.1 hd
    unfold Credential.dcs at hy
    simp only [List.mem_cons, List.not_mem_nil, or_false] at hy
    rcases hy with rfl | rfl | rfl | rfl <;> exact ⟨_, rfl⟩
  refine law_go (L14u.exC W x0 x1 s2 a3) noLoops Tryz.func4 (by kernel_rfl) (by kernel_rfl) (L14u.wpLaw W x0 x1 s2 a3 ho0 ho1 (by omega) ht he) (vs := [.agg [Value.int .i64 x0.Id, .int .i64 x0.Minimum, .slice A0 x0.Credentials.length c0].toArray, .agg [Value.string x1.Site, .string x1.Origin, .int .i64 x1.Challenge, .int .i64 x1.Handle, .bool x1.Present, .int .i64 x1.Counter, .int .i64 x1.Signature].toArray, .string s2, .int .i64 a3]) rfl rfl fun i av hi => ?_
  match i, hi with
  | 0, hi => cases hi; exact ⟨_, rfl, _, rfl, _, _, rfl, rfl, _, _, rfl, rfl, _, _, rfl, hS, rfl⟩
  | 1, hi => cases hi; exact ⟨_, rfl, _, rfl, _, _, rfl, rfl, _, _, rfl, rfl, _, _, rfl, rfl, _, _, rfl, rfl, _, _, rfl, rfl, _, _, rfl, rfl, _, _, rfl, rfl, rfl⟩
  | 2, hi => cases hi; exact ⟨_, rfl, rfl⟩
  | 3, hi => cases hi; exact ⟨_, rfl, rfl⟩
  | i + 4, hi => cases hi

set_option maxRecDepth 100000 in
theorem contract (H : Type) (enc : TypeId × Value → H) (W : World) (base : Nat) (args : Array Value) (ds gs : List (DataW H)) (before : List MemPlace)
    (hval : ∀ (j : Nat) t v, Tryz.f4.params[j]? = some t → args[j]? = some v → Value.okWide Tryz.prog W .any base t v)
    (hW : DataW.Whole enc Tryz.prog Tryz.f4.params.toList Rows.fnExactUseCredentialSpec.vars false W args.toList ds gs before) (hL : laidMetH Tryz.prog Rows.fnExactUseCredentialRow.laid W) :
    Calls Tryz.prog 4 args W fun e W' => ∃ v, e = .returned v ∧ Rows.fnExactUseCredentialSpec.post enc Tryz.prog Tryz.f4 false true false false W args v W' := by
  have hW' := hW
  obtain ⟨p, q, hA0, hV, rfl, hfz, hnd⟩ := hW
  have hA : DataW.TrodAll enc Tryz.prog W 0 (fun _ => true) true Tryz.f4.params.toList args.toList ds p := hA0
  rw [Tryz.params4] at hA hval
  obtain ⟨v0, vs0, d0, ds0, p0, q0, hargs, rfl, rfl, h0, r0⟩ := trodAll_cons hA
  obtain ⟨v1, vs1, d1, ds1, p1, q1, rfl, rfl, rfl, h1, r1⟩ := trodAll_cons r0
  obtain ⟨v2, vs2, d2, ds2, p2, q2, rfl, rfl, rfl, h2, r2⟩ := trodAll_cons r1
  obtain ⟨v3, vs3, d3, ds3, p3, q3, rfl, rfl, rfl, h3, r3⟩ := trodAll_cons r2
  obtain ⟨rfl, rfl, rfl⟩ := trodAll_nil r3
  obtain rfl : args = #[v0, v1, v2, v3] := by cases args; simp_all
  obtain ⟨rfl, rfl⟩ := trodVars_none hV
  obtain ⟨s2, rfl, rfl, rfl, hs2⟩ := ChangeMaps.open_string Tryz.underlying9 (hval 2 9 v2 rfl rfl) h2
  obtain ⟨a3, rfl, rfl, rfl, w3⟩ := open_int Tryz.underlying3 (hval 3 3 v3 rfl rfl) h3
  clear hA0
  refine Fr.closeLaw rfl (by kernel_rfl) (by rw [Tryz.params4]; decide) hW' rfl ?_
  exact walk v0 v1 s2 hs2 a3 w3 W (hval 0 31 v0 rfl rfl) h0 (hval 1 23 v1 rfl rfl) h1 hL

noncomputable def handW (os : Os) : World := { World.holding Tryz.prog os ⟨#[], #[], []⟩ with heap := (World.holding Tryz.prog os ⟨#[], #[], []⟩).heap.modify 0 fun | .cells _ t fr => .cells #[.iface 151 (.agg #[typeHandle Tryz.prog 79])] t fr | x => x }
noncomputable def laidW (os : Os) : World := (handW os).layVars Tryz.prog (Rows.fnExactUseCredentialRow.laid.filter fun x => x.2.handleName?.isNone)
theorem laidW_os (os : Os) : (laidW os).os = os := (World.layVars_os _ _ _).trans rfl
theorem met_on {P : Program} {w0 : World} {l : List (String × DataW Unit)} (args : Array Value) (hf : w0.layFits P l [] = true) (hi : w0.layIfaces P l (w0.layVars P l) = true) : laidMet P l ((w0.layVars P l).forCall (fun _ _ => 0) ⟨#[], args, []⟩).memory := by
  have all : (l.filter fun x => (l.map (·.1)).contains x.1) = l := List.filter_eq_self.2 fun x hx => by simp only [List.contains_iff_mem]; exact List.mem_map_of_mem hx
  have none : (l.filter fun x => !(l.map (·.1)).contains x.1) = [] := List.filter_eq_nil_iff.2 fun x hx => by simp only [Bool.not_eq_true, Bool.not_eq_false', List.contains_iff_mem]; exact List.mem_map_of_mem hx
  have k : laidMet P l (w0.layVars P l) := laidMet_layVars (l.map (·.1)) [] (by rw [all]) (by rw [all]; exact hf) (by rw [all]; exact hi) (by rw [none]; exact LaidIn.none)
  exact k.of_heap (by simp [World.memory, World.forCall, Input.heap])
theorem laid_met (os : Os) : laidMetH Tryz.prog Rows.fnExactUseCredentialRow.laid ((laidW os).forCall (fun _ _ => 0) ⟨#[], #[.agg #[.int .i64 0, .int .i64 0, .slice none 0 0], .agg #[.string ⟨#[]⟩, .string ⟨#[]⟩, .int .i64 0, .int .i64 0, .bool false, .int .i64 0, .int .i64 0], .string ⟨#[]⟩, .int .i64 0], []⟩).memory := by
  exact laidMetH_of_parts (met_on _ (by kernel_rfl) (by kernel_rfl)) (by kernel_rfl)
set_option maxRecDepth 100000 in
theorem reads (os : Os) {H : Type} (enc : TypeId × Value → H) : ∃ places, DataW.whole enc Tryz.prog ((laidW os).forCall (fun _ _ => 0) ⟨#[], #[.agg #[.int .i64 0, .int .i64 0, .slice none 0 0], .agg #[.string ⟨#[]⟩, .string ⟨#[]⟩, .int .i64 0, .int .i64 0, .bool false, .int .i64 0, .int .i64 0], .string ⟨#[]⟩, .int .i64 0], []⟩).memory Tryz.f4.params.toList Rows.fnExactUseCredentialSpec.vars false (#[.agg #[.int .i64 0, .int .i64 0, .slice none 0 0], .agg #[.string ⟨#[]⟩, .string ⟨#[]⟩, .int .i64 0, .int .i64 0, .bool false, .int .i64 0, .int .i64 0], .string ⟨#[]⟩, .int .i64 0] : Array Value).toList 8 = some ([.agg [.lit (.int .i64 0), .lit (.int .i64 0), .nil], .agg [.lit (.string []), .lit (.string []), .lit (.int .i64 0), .lit (.int .i64 0), .lit (.bool false), .lit (.int .i64 0), .lit (.int .i64 0)], .lit (.string []), .lit (.int .i64 0)], [], places) :=
  ⟨[], by kernel_rfl⟩
set_option maxRecDepth 100000 in
theorem lifted (os : Os) (started : os.Started) (H : Type) (enc : TypeId × Value → H) (F : Stop.Interp) :
    ReturnsInHanded {} Tryz.checked os 4 .any ((OpenSpec.ofChange Rows.fnExactUseCredentialSpec).preRow enc Tryz.prog Tryz.f4 Rows.fnExactUseCredentialRow.domain false Rows.fnExactUseCredentialRow.laid) (((OpenSpec.ofChange Rows.fnExactUseCredentialSpec).at F).post enc Tryz.prog Tryz.f4 false true false false) := by
  obtain ⟨places, hx⟩ := reads os enc
  refine returnsInHanded_of_row (C := Tryz.checked) (s := OpenSpec.ofChange Rows.fnExactUseCredentialSpec) Fr.own started (by kernel_rfl) Tryz.func4
    (witness_row_atRef (enc := enc) (C := Tryz.checked) false (laidW os) #[.agg #[.int .i64 0, .int .i64 0, .slice none 0 0], .agg #[.string ⟨#[]⟩, .string ⟨#[]⟩, .int .i64 0, .int .i64 0, .bool false, .int .i64 0, .int .i64 0], .string ⟨#[]⟩, .int .i64 0] (laidW_os os) (by kernel_rfl) (by kernel_rfl) (by kernel_rfl)
      (OpenSpec.preRow_of_cond 8 hx (by kernel_rfl) (fun k hk => by cases hk) (by kernel_rfl) (laid_met os))) ?_
  intro W base args ds gs before hval hW _ hcond _ hL _ _
  exact contract H enc W base args ds gs before hval hW hL
set_option maxRecDepth 100000 in
theorem said : Rows.FnExactUseCredentialSaid :=
  OpenClaim.holds_of_cond 4 Tryz.f4 rfl rfl rfl rfl rfl rfl rfl ⟨rfl, rfl, rfl, rfl, rfl⟩ rfl rfl rfl rfl rfl (by kernel_rfl) Tryz.func4 (by kernel_rfl)
    (of_decide_eq_true (by kernel_rfl)) (by unfold Func.isWrapper; first | (rw [if_pos (by decide +kernel)]; kernel_rfl) | (rw [if_neg (by decide +kernel)]; exact ⟨rfl, rfl⟩))
    (fun os started H enc _ F => by rw [OpenClaim.pre_eq_preRow]; exact lifted os started H enc F)
theorem plain (f : FuncId) (fn : Func) (hf : Tryz.pinned.checked.prog.funcNamed "loop.example/g00581/laws.FnExactUseCredential" = some f) (hfn : Tryz.pinned.checked.prog.funcs[f]? = some fn) :
    true = Tryz.pinned.checked.prog.looks [] ∧ ∀ (j : Nat) t, fn.params[j]? = some t → Tryz.pinned.checked.prog.wantsStandIn t = false := by
  obtain rfl : f = 4 := Option.some.inj ((show Tryz.prog.funcNamed "loop.example/g00581/laws.FnExactUseCredential" = some 4 by kernel_rfl).symm.trans hf) |>.symm
  obtain rfl : fn = Tryz.f4 := (Option.some.inj (Tryz.func4.symm.trans hfn)).symm
  refine ⟨by kernel_rfl, fun j t ht => ?_⟩
  rw [Tryz.params4] at ht
  have hall : ([31, 23, 9, 3] : List TypeId).all (fun t => !Tryz.prog.wantsStandIn t) = true := by kernel_rfl
  have hm : t ∈ ([31, 23, 9, 3] : List TypeId) := List.mem_of_getElem? (i := j) (by rw [← List.getElem?_toArray]; exact ht)
  have := List.all_eq_true.1 hall t hm
  exact (by simpa using this : Tryz.prog.wantsStandIn t = false)
theorem proved : Rows.FnExactUseCredentialCardSaid :=
  Claim7.holds_tied_plain_at .later [] _ _ _ _ said (fun _ h => by cases h) (by kernel_rfl) (fun _ h => by cases h) fnExactUseCredential_row_tie rfl ⟨rfl, rfl⟩ (by kernel_rfl) rfl plain (by kernel_rfl)
#print axioms proved
end Go.Proofs.YtialhhdhpjjkaaaGreatDoor.fnExactUseCredential
