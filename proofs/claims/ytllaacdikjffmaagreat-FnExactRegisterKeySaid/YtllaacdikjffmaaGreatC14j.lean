import Derived.Test.YtllaacdikjffmaaGreatC14i
import Derived.Test.YtllaacdikjffmaaGreatMb
namespace Go.Proofs.YtllaacdikjffmaaGreat.C14j
open Go.ChangeShapes Go.WideShapes Go.ChangeAt Go.RowKit
open S0 S1 S9 Dm Fx M8 M18 E0 E1 E2 E3 E4 E7 E10 E15 E16 E17 E18 E19 E20 E21 E22 E24 Das Mb C14i
set_option linter.unusedVariables false
set_option linter.unusedSimpArgs false
set_option maxRecDepth 100000
abbrev cellsA (i m : Int) (l : List Cr) : List Sc := [.val (.int .i64 i), .val (.int .i64 m), .old (rowR 81 4 dasCredential zCredential (l))]
def NextT (W : World) (i m : Int) (l : List Cr) (k : Nat) (_ : List Int) : Value → List Nat → World → Prop := BoundAt W 88 52 (cellsA i m (l.drop k))
abbrev nextV (B : Nat) : Value := .func (.func 88) #[.pointer (some ⟨B, 0, none⟩)] #[]
theorem NextT.one {W : World} {i m : Int} {l : List Cr} {k : Nat} {ps : List Int} {B : Nat} (bs : List Nat) (w : World) (h : NextT W i m l k ps (nextV B) bs w) : bs = [B] := by
  obtain ⟨b, e, rfl⟩ := BoundAt.one h
  cases e; rfl
def low (l : List Cr) : Nat → Int
  | 0 => 0
  | k + 1 => (l.getD k zCredential).Handle + 1
def pubs (l : List Cr) : Nat → List Int
  | 0 => []
  | k + 1 => (l.getD k zCredential).Public :: pubs l k
def nth (l : List Cr) (k : Nat) : Cr := l.getD k zCredential
def more (l : List Cr) (k : Nat) : Bool := decide (k < l.length)
theorem nth_drop (l : List Cr) (k : Nat) : (l.drop k).getD 0 zCredential = nth l k := by
  unfold nth
  rw [List.getD_eq_getElem?_getD, List.getD_eq_getElem?_getD, List.getElem?_drop, Nat.add_zero]
theorem more_drop (l : List Cr) (k : Nat) : decide (0 < (l.drop k).length) = more l k := by
  unfold more
  rw [List.length_drop]
  exact decide_eq_decide.2 (by omega)
theorem pubs_len (l : List Cr) : ∀ k, (pubs l k).length = k
  | 0 => rfl
  | k + 1 => congrArg (· + 1) (pubs_len l k)
theorem pubs_any (l : List Cr) (p : Int) : ∀ k, ((pubs l k).any fun z => z == p) = true ↔ ∃ j, j < k ∧ (l.getD j zCredential).Public = p
  | 0 => by simp [pubs]
  | k + 1 => by
    unfold pubs
    rw [List.any_cons, Bool.or_eq_true, pubs_any l p k]
    constructor
    · rintro (h | ⟨j, hj, h⟩)
      · exact ⟨k, by omega, by simpa using h⟩
      · exact ⟨j, by omega, h⟩
    · rintro ⟨j, hj, h⟩
      by_cases e : j = k
      · subst e; exact .inl (by simpa using h)
      · exact .inr ⟨j, by omega, h⟩
theorem low_le {l : List Cr} {k : Nat} (h : Seen l k) : 0 ≤ low l k := by
  cases k with
  | zero => exact Int.le_refl 0
  | succ k => have := (h k (by omega)).handle; show 0 ≤ (l.getD k zCredential).Handle + 1; omega
theorem low_good {l : List Cr} {k : Nat} (h : M18.Good l k) : low l k ≤ (nth l k).Handle := by
  cases k with
  | zero => exact h.handle.1
  | succ k => have := h.rises (by omega); rw [Nat.add_sub_cancel] at this; show (l.getD k zCredential).Handle + 1 ≤ (l.getD (k + 1) zCredential).Handle; omega
/-- What the test of a credential tells. -/
theorem good_of {l : List Cr} {k : Nat} (hs : Seen l k) (h1 : inB (nth l k).Handle (low l k) 1000000 = true) (h2 : inB (nth l k).Counter 0 1000000 = true) (h3 : prv (nth l k).Public ≠ 0) (h4 : ((pubs l k).any fun z => z == (nth l k).Public) = false) : M18.Good l k := by
  have h1 := inB_ok h1
  have h0 := low_le hs
  refine ⟨⟨?_, h1.2⟩, fun hk => ?_, h3, inB_ok h2, fun j hj e => ?_⟩
  · have : low l k ≤ (l.getD k zCredential).Handle := h1.1
    omega
  · obtain ⟨k, rfl⟩ : ∃ k', k = k' + 1 := ⟨k - 1, by omega⟩
    have : (l.getD k zCredential).Handle + 1 ≤ (l.getD (k + 1) zCredential).Handle := h1.1
    rw [Nat.add_sub_cancel]
    omega
  · have h5 := (pubs_any l (nth l k).Public k).2 ⟨j, hj, e⟩
    rw [h4] at h5
    cases h5
theorem lnAt (l : List Cr) (k : Nat) (i m : Int) (hn : l.length ≤ 16000000) : LentCon Tryz.prog 88 52 (cellsA i m (l.drop k)) [] [(true, dasCredential (nth l k)), bV (more l k)] (cellsA i m (l.drop (k + 1))) := by
  have K := lnNext (l.drop k) i m (by rw [List.length_drop]; omega)
  rw [nth_drop, more_drop, List.drop_drop] at K
  exact K
theorem cust_nx {W : World} {i m : Int} {l : List Cr} {k q id : Nat} {ps : List Int} {o : Oper} {c : Call} {x : Operand} (ho : o.op = .call c) (hc : c.callee = .value x) (ha : c.args = #[]) (hn : l.length ≤ 16000000) :
    Cust Tryz.prog (fun w => w = W) id o [.one (.own q)] [.tab k ps (NextT W i m l)] ⟨[], .tup [(true, [.val (.int .i64 (nth l k).Handle), .val (.int .i64 (nth l k).Public), .val (.int .i64 (nth l k).Counter), .val (.bool (nth l k).Cut)]), (false, [.val (.bool (more l k))])], [(q, .tab (k + 1) [] (NextT W i m l))]⟩ :=
  cust_bcall (us := [.agg #[.int .i64 (nth l k).Handle, .int .i64 (nth l k).Public, .int .i64 (nth l k).Counter, .bool (nth l k).Cut], .bool (more l k)]) ho hc ha rfl rfl (lnAt l k i m hn) rfl rfl rfl rfl
abbrev AreX (l : List Cr) : Type := { k : Nat // k ≤ l.length ∧ Seen l k }
def areL (W : World) (i m : Int) (l : List Cr) : Loops := fun r _ => match r with
  | 4 => some ⟨AreX l, fun v sl => only [0, 2, 3, 4, 5, 6] 0 (((sl.set 6 (.one (.val (.bool (more l v.1))))).set 5 (.one (.ptr 78 0))).set 3 (.one (.val (vI (low l v.1))))), fun v obs => [(1, .tab (v.1 + 1) [] (NextT W i m l)), (2, obs 2), (30000, .tab 0 (pubs l v.1) SetT), (78, .var 81 [.val (.int .i64 (nth l v.1).Handle), .val (.int .i64 (nth l v.1).Public), .val (.int .i64 (nth l v.1).Counter), .val (.bool (nth l v.1).Cut)])], fun v => l.length - v.1⟩
  | _ => none
noncomputable def areC (W : World) (i m : Int) (l : List Cr) : Orc := ⟨fun d _ a => match d with | some 33 => (match a with | [(_, [.val (.int _ n)])] => some [iV (prv n)] | _ => none) | _ => (match a with | [(_, [.val (.int _ n)]), (_, [.val (.int _ lo)]), (_, [.val (.int _ hi)])] => some [bV (inB n lo hi)] | _ => none), fun id vs os => match id with
  | 30000 => some ⟨[], .one (.own 30000), [(30000, .tab 0 [] SetT)]⟩
  | 40008 => (match os with | [.tab k _ _] => some ⟨[], .tup [(true, [.val (.int .i64 (nth l k).Handle), .val (.int .i64 (nth l k).Public), .val (.int .i64 (nth l k).Counter), .val (.bool (nth l k).Cut)]), (false, [.val (.bool (more l k))])], [(1, .tab (k + 1) [] (NextT W i m l))]⟩ | _ => none)
  | 60008 => (match os with | [.tab k _ _] => some ⟨[], .tup [(true, [.val (.int .i64 (nth l k).Handle), .val (.int .i64 (nth l k).Public), .val (.int .i64 (nth l k).Counter), .val (.bool (nth l k).Cut)]), (false, [.val (.bool (more l k))])], [(1, .tab (k + 1) [] (NextT W i m l))]⟩ | _ => none)
  | 70168 => (match vs, os with | [_, .one (.val (.int _ p))], [.tab _ ps _] => some ⟨[], .one (.val (.bool (ps.any fun z => z == p))), []⟩ | _, _ => none)
  | 100024 => (match vs, os with | [.one (.own q), .one (.val (.int _ p)), _], [.tab _ ps _] => some ⟨[], .no, [(q, .tab 0 (p :: ps) SetT)]⟩ | _, _ => none)
  | _ => none, fun w => w = W⟩
theorem wpAre (W : World) (i m : Int) (l : List Cr) (B : Nat) (hn : l.length ≤ 16000000) (ho : ∀ x ∈ l, Credential.ok x) (R : Value → List Nat → World → Prop) (hR : AbsLe R R) : awp Tryz.prog (areC W i m l) (areL W i m l) (Tryz.f87.body.getD .skip) ⟨[.one (.own 1)] ++ List.replicate (Tryz.f87.ntmps - ([.one (.own 1)] : List AV).length) (.one (.val undef)), absV 0 [] (NextT W i m l) R⟩ (retF Tryz.prog Tryz.f87.results.toList [bV (okCs l)] (nextV B) B R) := by
  have hh_ : ((Cust Tryz.prog (fun w => w = W) 30000 (opOf (Tryz.f87.body.getD Code.skip) 2 0) [] [] { need := [], val := AV.one (Sc.own 30000), mem := [(30000, Ob.tab 0 [] SetT)] }) ∧ ((Cust Tryz.prog (fun w => w = W) 40008 (opOf (Tryz.f87.body.getD Code.skip) 3 1) [AV.one (Sc.own 1)] [Ob.tab 0 [] (NextT W i m l)] { need := [], val := AV.tup [(true, [Sc.val (vI (nth l 0).Handle), Sc.val (vI (nth l 0).Public), Sc.val (vI (nth l 0).Counter), Sc.val (Value.bool (nth l 0).Cut)]), (false, [Sc.val (Value.bool (more l 0))])], mem := [(1, Ob.tab 1 [] (NextT W i m l))] }) ∧ ((∃ x0 : AreX l, ((some 1 = some 1 ∧ (Value.bool false = Value.bool false ∧ (vI 0 = vI (low l x0.1) ∧ (some 30000 = some 30000 ∧ ((some 40040 = some 40040 ∧ 0 = 0) ∧ (Value.bool (more l 0) = Value.bool (more l x0.1) ∧ True)))))) ∧ (TabLe 1 (x0.1 + 1) [] [] (NextT W i m l) (NextT W i m l) ∧ (AbsLe R R ∧ (TabLe 0 0 [] (pubs l x0.1) SetT SetT ∧ ((81 = 81 ∧ (vI (nth l 0).Handle = vI (nth l x0.1).Handle ∧ (vI (nth l 0).Public = vI (nth l x0.1).Public ∧ (vI (nth l 0).Counter = vI (nth l x0.1).Counter ∧ Value.bool (nth l 0).Cut = Value.bool (nth l x0.1).Cut)))) ∧ True)))))) ∧ (∀ v : AreX l, bcase (more l v.1) (bcase (!inB (nth l v.1).Handle (low l v.1) 1000000) (FnCon Tryz.prog 69 [(false, [dI ((nth l v.1).Handle)]), (false, [dI ((low l v.1))]), (false, [dI (1000000)])] [(false, [dB ((inB (nth l v.1).Handle (low l v.1) 1000000))])] ∧ ((!inB (nth l v.1).Handle (low l v.1) 1000000) = true ∧ (true = true ∧ (true = true ∧ ((false = false ∧ Value.bool false = Value.bool (okCs l)) ∧ ((∀ bs : List Nat, (∀ w : World, NextT W i m l (v.1 + 1) [] (nextV B) bs w → bs = [B])) ∧ R = R)))))) (bcase (!inB (nth l v.1).Counter 0 1000000) (FnCon Tryz.prog 69 [(false, [dI ((nth l v.1).Handle)]), (false, [dI ((low l v.1))]), (false, [dI (1000000)])] [(false, [dB ((inB (nth l v.1).Handle (low l v.1) 1000000))])] ∧ ((!inB (nth l v.1).Handle (low l v.1) 1000000) = false ∧ (FnCon Tryz.prog 69 [(false, [dI ((nth l v.1).Counter)]), (false, [dI (0)]), (false, [dI (1000000)])] [(false, [dB ((inB (nth l v.1).Counter 0 1000000))])] ∧ ((!inB (nth l v.1).Counter 0 1000000) = true ∧ (true = true ∧ ((false = false ∧ Value.bool false = Value.bool (okCs l)) ∧ ((∀ bs : List Nat, (∀ w : World, NextT W i m l (v.1 + 1) [] (nextV B) bs w → bs = [B])) ∧ R = R))))))) (bcase (prv (nth l v.1).Public == 0) (FnCon Tryz.prog 69 [(false, [dI ((nth l v.1).Handle)]), (false, [dI ((low l v.1))]), (false, [dI (1000000)])] [(false, [dB ((inB (nth l v.1).Handle (low l v.1) 1000000))])] ∧ ((!inB (nth l v.1).Handle (low l v.1) 1000000) = false ∧ (FnCon Tryz.prog 69 [(false, [dI ((nth l v.1).Counter)]), (false, [dI (0)]), (false, [dI (1000000)])] [(false, [dB ((inB (nth l v.1).Counter 0 1000000))])] ∧ ((!inB (nth l v.1).Counter 0 1000000) = false ∧ (FnCon Tryz.prog 101 [(false, [dI ((nth l v.1).Public)])] [(false, [dI ((prv (nth l v.1).Public))])] ∧ ((prv (nth l v.1).Public == 0) = true ∧ ((false = false ∧ Value.bool false = Value.bool (okCs l)) ∧ ((∀ bs : List Nat, (∀ w : World, NextT W i m l (v.1 + 1) [] (nextV B) bs w → bs = [B])) ∧ R = R)))))))) (FnCon Tryz.prog 69 [(false, [dI ((nth l v.1).Handle)]), (false, [dI ((low l v.1))]), (false, [dI (1000000)])] [(false, [dB ((inB (nth l v.1).Handle (low l v.1) 1000000))])] ∧ ((!inB (nth l v.1).Handle (low l v.1) 1000000) = false ∧ (FnCon Tryz.prog 69 [(false, [dI ((nth l v.1).Counter)]), (false, [dI (0)]), (false, [dI (1000000)])] [(false, [dB ((inB (nth l v.1).Counter 0 1000000))])] ∧ ((!inB (nth l v.1).Counter 0 1000000) = false ∧ (FnCon Tryz.prog 101 [(false, [dI ((nth l v.1).Public)])] [(false, [dI ((prv (nth l v.1).Public))])] ∧ ((prv (nth l v.1).Public == 0) = false ∧ ((Cust Tryz.prog (fun w => w = W) 70168 (opOf (Tryz.f87.body.getD Code.skip) 6 21) [AV.one (Sc.own 30000), AV.one (Sc.val (vI (nth l v.1).Public))] [Ob.tab 0 (pubs l v.1) SetT] { need := [], val := AV.one (Sc.val (Value.bool ((pubs l v.1).any fun z => z == (nth l v.1).Public))), mem := [] }) ∧ bcase ((pubs l v.1).any fun z => z == (nth l v.1).Public) ((false = false ∧ Value.bool false = Value.bool (okCs l)) ∧ ((∀ bs : List Nat, (∀ w : World, NextT W i m l (v.1 + 1) [] (nextV B) bs w → bs = [B])) ∧ R = R)) ((Cust Tryz.prog (fun w => w = W) 100024 (opOf (Tryz.f87.body.getD Code.skip) 9 3) [AV.one (Sc.own 30000), AV.one (Sc.val (vI (nth l v.1).Public)), AV.one (Sc.val (Value.bool true))] [Ob.tab 0 (pubs l v.1) SetT] { need := [], val := AV.no, mem := [(30000, Ob.tab 0 ((nth l v.1).Public :: pubs l v.1) SetT)] }) ∧ ((Cust Tryz.prog (fun w => w = W) 60008 (opOf (Tryz.f87.body.getD Code.skip) 5 1) [AV.one (Sc.own 1)] [Ob.tab (v.1 + 1) [] (NextT W i m l)] { need := [], val := AV.tup [(true, [Sc.val (vI (nth l (v.1 + 1)).Handle), Sc.val (vI (nth l (v.1 + 1)).Public), Sc.val (vI (nth l (v.1 + 1)).Counter), Sc.val (Value.bool (nth l (v.1 + 1)).Cut)]), (false, [Sc.val (Value.bool (more l (v.1 + 1)))])], mem := [(1, Ob.tab (v.1 + 1 + 1) [] (NextT W i m l))] }) ∧ (∃ v' : AreX l, (l.length.sub v'.1 < l.length.sub v.1 ∧ ((some 1 = some 1 ∧ (Value.bool false = Value.bool false ∧ (vI (IntKind.i64.wrap ((nth l v.1).Handle + 1)) = vI (low l v'.1) ∧ (some 30000 = some 30000 ∧ ((some 120000 = some 120000 ∧ 0 = 0) ∧ (Value.bool (more l (v.1 + 1)) = Value.bool (more l v'.1) ∧ True)))))) ∧ (TabLe (v.1 + 1 + 1) (v'.1 + 1) [] [] (NextT W i m l) (NextT W i m l) ∧ (AbsLe R R ∧ (TabLe 0 0 ((nth l v.1).Public :: pubs l v.1) (pubs l v'.1) SetT SetT ∧ ((81 = 81 ∧ (vI (nth l (v.1 + 1)).Handle = vI (nth l v'.1).Handle ∧ (vI (nth l (v.1 + 1)).Public = vI (nth l v'.1).Public ∧ (vI (nth l (v.1 + 1)).Counter = vI (nth l v'.1).Counter ∧ Value.bool (nth l (v.1 + 1)).Cut = Value.bool (nth l v'.1).Cut)))) ∧ True))))))))))))))))))) ((false = false ∧ Value.bool true = Value.bool (okCs l)) ∧ ((∀ bs : List Nat, (∀ w : World, NextT W i m l (v.1 + 1) [] (nextV B) bs w → bs = [B])) ∧ R = R)))))) = (awp Tryz.prog (areC W i m l) (areL W i m l) (Tryz.f87.body.getD .skip) ⟨[.one (.own 1)] ++ List.replicate (Tryz.f87.ntmps - ([.one (.own 1)] : List AV).length) (.one (.val undef)), absV 0 [] (NextT W i m l) R⟩ (retF Tryz.prog Tryz.f87.results.toList [bV (okCs l)] (nextV B) B R)) := by kernel_rfl
  rw [← hh_]
  clear hh_
  refine ⟨?g0, ?g1, ⟨⟨0, Nat.zero_le _, Seen.zero _⟩, ⟨⟨rfl, rfl, congrArg _ ?g3, rfl, ⟨rfl, rfl⟩, congrArg _ ?g4, trivial⟩, ?g5, ?g6, ?g7, ⟨rfl, congrArg _ ?g8, congrArg _ ?g9, congrArg _ ?g10, congrArg _ ?g11⟩, trivial⟩⟩, fun v => bcase_intro (fun h12 => bcase_intro (fun h13 => ⟨(conIn _ _ _), h13, rfl, rfl, ⟨rfl, congrArg _ ?g15⟩, fun bs => fun w => fun _ => ?g16, rfl⟩) (fun h13 => bcase_intro (fun h17 => ⟨(conIn _ _ _), h13, (conIn _ _ _), h17, rfl, ⟨rfl, congrArg _ ?g20⟩, fun bs => fun w => fun _ => ?g21, rfl⟩) (fun h17 => bcase_intro (fun h22 => ⟨(conIn _ _ _), h13, (conIn _ _ _), h17, ?g25, h22, ⟨rfl, congrArg _ ?g26⟩, fun bs => fun w => fun _ => ?g27, rfl⟩) (fun h22 => ⟨(conIn _ _ _), h13, (conIn _ _ _), h17, ?g30, h22, ?g31, bcase_intro (fun h32 => ⟨⟨rfl, congrArg _ ?g33⟩, fun bs => fun w => fun _ => ?g34, rfl⟩) (fun h32 => ⟨?g35, ?g36, ⟨⟨v.1 + 1, ?wa, ?wb⟩, ⟨?g38, ⟨rfl, rfl, congrArg _ ?g39, rfl, ⟨rfl, rfl⟩, congrArg _ ?g40, trivial⟩, ?g41, ?g42, ?g43, ⟨rfl, congrArg _ ?g44, congrArg _ ?g45, congrArg _ ?g46, congrArg _ ?g47⟩, trivial⟩⟩⟩)⟩)))) (fun h12 => ⟨⟨rfl, congrArg _ ?g48⟩, fun bs => fun w => fun _ => ?g49, rfl⟩)⟩
  case g0 => exact cust_make rfl
  case g1 => exact cust_nx rfl rfl rfl hn
  case g5 | g7 | g41 | g43 => exact ⟨rfl, rfl, rfl⟩
  case g3 | g4 | g8 | g9 | g10 | g11 => rfl
  case g6 | g42 => exact hR
  case g16 | g21 | g27 | g34 | g49 => exact NextT.one _ _ (by assumption)
  case g48 =>
    have h12 := of_decide_eq_false h12
    exact (okCs_t (by have : v.1 = l.length := by have := v.2.1; omega
                      rw [← this]; exact v.2.2)).symm
  all_goals
    have hl : v.1 < l.length := of_decide_eq_true h12
    have hm : nth l v.1 ∈ l := by unfold nth; rw [List.getD_eq_getElem?_getD, List.getElem?_eq_getElem hl]; exact List.getElem_mem hl
    have hpub := (ho _ hm).Public
  case g15 => exact (okCs_f hl fun g => by rw [inB_t ⟨low_good g, g.handle.2⟩] at h13; cases h13).symm
  case g20 => exact (okCs_f hl fun g => by rw [show inB (nth l v.1).Counter 0 1000000 = true from inB_t g.counter] at h17; cases h17).symm
  case g25 | g30 => exact conPrv _ hpub.1 hpub.2
  case g26 => exact (okCs_f hl fun g => g.key (by simpa [nth] using h22)).symm
  case g31 => exact cust_has rfl hpub.1 hpub.2 rfl
  case g33 =>
    obtain ⟨j, hj, e⟩ := (pubs_any l _ _).1 h32
    exact (okCs_f hl fun g => g.once j hj e).symm
  case g35 => exact cust_put rfl hpub.1 hpub.2 (by rw [pubs_len]; omega)
  case g36 => exact cust_nx rfl rfl rfl hn
  all_goals
    have hg : M18.Good l v.1 := good_of v.2.2 (by simpa using h13) (by simpa using h17) (by simpa using h22) h32
  case g38 => show l.length - (v.1 + 1) < l.length - v.1; omega
  case g39 => show IntKind.i64.wrap ((nth l v.1).Handle + 1) = (nth l v.1).Handle + 1; rw [IntWalk.i64_in _ (by have := hg.handle; unfold nth; omega)]
  case g40 | g44 | g45 | g46 | g47 => rfl
  case wa => exact hl
  case wb => exact v.2.2.next hg
end Go.Proofs.YtllaacdikjffmaaGreat.C14j
