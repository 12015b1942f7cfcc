import Derived.Test.YtllaacdikjffmaaGreatC14k
namespace Go.Proofs.YtllaacdikjffmaaGreat.C14l
open Go.ChangeShapes Go.WideShapes Go.ChangeAt Go.RowKit
open S0 S1 S9 Dm Fx M8 M18 E0 E1 E2 E3 E4 E7 E10 E15 E16 E17 E18 E19 E20 E21 E22 E24 Das In C14i C14j C14k
set_option linter.unusedVariables false
set_option linter.unusedSimpArgs false
set_option maxRecDepth 100000
section
variable {old : World → Prop} {id q r : Nat} {o : Oper} {c : Call} {y : AV} {a : Fx.Account} {d : Da} {h m : Int}
end
/-- A row's own cells as values. -/
def one (x : Cr) : List Value := [.int .i64 x.Handle, .int .i64 x.Public, .int .i64 x.Counter, .bool x.Cut]
def many (l : List Cr) : List Value := l.flatMap one
theorem many_len (l : List Cr) : (many l).length = l.length * 4 := by
  unfold many
  induction l with
  | nil => rfl
  | cons x l ih => rw [List.flatMap_cons, List.length_append, ih, List.length_cons]; simp [one]; omega
theorem many_app (l k : List Cr) : many (l ++ k) = many l ++ many k := by unfold many; rw [List.flatMap_append]
theorem many_take (l : List Cr) (k : Nat) : (many l).take (k * 4) = many (l.take k) := by
  rcases Nat.lt_or_ge k l.length with h | h
  · have e : many l = many (l.take k) ++ many (l.drop k) := by rw [← many_app, List.take_append_drop]
    rw [e, List.take_append_of_le_length (by rw [many_len, List.length_take]; omega), List.take_of_length_le (by rw [many_len, List.length_take]; omega)]
  · rw [List.take_of_length_le h, List.take_of_length_le (by rw [many_len]; omega)]
theorem many_drop (l : List Cr) (k : Nat) : (many l).drop (k * 4) = many (l.drop k) := by
  rcases Nat.lt_or_ge k l.length with h | h
  · have e : many l = many (l.take k) ++ many (l.drop k) := by rw [← many_app, List.take_append_drop]
    rw [e, List.drop_append_of_le_length (by rw [many_len, List.length_take]; omega), List.drop_of_length_le (by rw [many_len, List.length_take]; omega), List.nil_append]
  · rw [List.drop_of_length_le h, List.drop_of_length_le (by rw [many_len]; omega)]; rfl
theorem many_one (l : List Cr) : ∀ u ∈ many l, u.oneCell' = true := by
  intro u hu
  unfold many at hu
  obtain ⟨x, _, hx⟩ := List.mem_flatMap.1 hu
  unfold one at hx
  simp only [List.mem_cons, List.not_mem_nil, or_false] at hx
  rcases hx with rfl | rfl | rfl | rfl <;> rfl
theorem many_dc : ∀ l : List Cr, l.flatMap Credential.dcs = (many l).map Dc.val
  | [] => rfl
  | x :: l => by
    rw [List.flatMap_cons, many_dc l]
    unfold many
    rw [List.flatMap_cons, List.map_append]
    rfl
theorem row_dc (l : List Cr) : (rowR 81 4 dasCredential zCredential l).dc = .row 81 4 l.length ((many l).map Dc.val) := by
  rw [rowR_dc 81 zCredential Credential.len dasCredential_dc, many_dc]
theorem own_at {w : World} {lo : Nat} {l : List Cr} {v : Value} {bs : List Nat} (h : Owns w lo (rowR 81 4 dasCredential zCredential l).dc v bs) : Ow.At w lo 81 4 v l.length (many l) ∧ bs = v.ownBlock.toList := by
  rw [row_dc] at h
  simp only [Owns] at h
  obtain ⟨vs, b2, hat, hl, rfl⟩ := h
  obtain rfl := vals_of hl
  have hb : ∀ {us vs : List Value} {bs : List Nat}, OwnsL w lo (us.map Dc.val) vs bs → bs = [] := by
    intro us
    induction us with
    | nil => intro vs bs h; simp only [List.map_nil, OwnsL] at h; exact h.2
    | cons u us ih =>
      intro vs bs h
      simp only [List.map_cons, OwnsL, Owns] at h
      obtain ⟨v, vs', b1, b2, _, ⟨_, rfl⟩, h2, rfl⟩ := h
      rw [ih h2]
  rw [hb hl, List.append_nil]
  exact ⟨hat, rfl⟩
theorem at_own2 {w : World} {lo : Nat} {l : List Cr} {v : Value} (h : Ow.At w lo 81 4 v l.length (many l)) : Owns w lo (rowR 81 4 dasCredential zCredential l).dc v v.ownBlock.toList := by
  rw [row_dc]
  simp only [Owns]
  exact ⟨_, [], h, vals_own w lo _, by simp⟩
theorem ins_many (l : List Cr) (k : Nat) (h p : Int) : (many l).take (k * 4) ++ one ⟨h, p, 0, false⟩ ++ (many l).drop (k * 4) = many (insK l k h p) := by
  unfold insK
  rw [many_app, many_app, many_take, many_drop]
  rfl
/-- slices.Insert of one credential. -/
theorem cust_insert {old : World → Prop} {id q1 q2 : Nat} {o : Oper} {c : Call} {y : AV} {l : List Cr} {k : Nat} {h p : Int} {d1 d2 : Da} (ho : o.op = .call c) (hc : c.callee = .value (.func 58)) (hy : AvIds y = []) (h1 : DaEq d1 (rowR 81 4 dasCredential zCredential l)) (h2 : DaEq d2 (rowR 81 4 dasCredential zCredential [(⟨h, p, 0, false⟩ : Cr)])) (hk : k ≤ l.length) (hn : l.length ≤ 16000000) (hne : q1 ≠ q2) :
    Cust Tryz.prog old id o [y, .one (.own q1), .one (.val (.int .i64 k)), .one (.own q2)] [.own d1, .own d2] ⟨[], .one (.own id), [(q1, .gone), (id, .own (rowR 81 4 dasCredential zCredential (insK l k h p)))]⟩ :=
  cust_call (hlen := by rw [List.flatMap_cons, hy]; rfl) ho hc (con_enters Tryz.func58 (by kernel_rfl) (by kernel_rfl)) fun W0 obs ρ w args hold hm hv hos hun hn2 => by
    obtain ⟨v1, s1, rfl, k1, v2, s2, rfl, k2, v3, s3, rfl, k3, k4⟩ := hv
    obtain rfl : s3 = [] := k4
    obtain rfl : v2 = _ := k2
    have hos2 : obs q1 = .own d1 ∧ obs q2 = .own d2 := by rw [List.flatMap_cons, hy] at hos; simpa [AvIds, ScIds] using hos
    obtain ⟨r1, bs1, hρ1, hown1⟩ := own_of hm hos2.1
    obtain ⟨r2, bs2, hρ2, hown2⟩ := own_of hm hos2.2
    obtain rfl := own_val (W0 := W0) k1 hρ1
    obtain rfl := own_val (W0 := W0) k3 hρ2
    rw [h1.dc] at hown1
    rw [h2.dc] at hown2
    obtain ⟨hat1, e1⟩ := own_at hown1
    obtain ⟨hat2, e2⟩ := own_at hown2
    have hd := hm.apart q1 q2 _ _ hne hρ1 hρ2
    refine (insert_c w W0.heap.size W0.heap.size l.length k v1 v3 (many l) (one ⟨h, p, 0, false⟩) hat1 hat2 (fun b hb hb2 => hd b (by rw [e1, hb]; simp) (by rw [e2, hb2]; simp)) (many_one l) (many_one [⟨h, p, 0, false⟩]) hk hn hm.below.size).mono ?_
    rintro e w' ⟨g, off, cap, rfl, hat, hg, hw⟩
    rw [ins_many, ← insK_len h p hk] at hat
    refine ⟨_, rfl, ?_⟩
    rw [← insK_len h p hk]
    refine post_move (bs' := [g]) hm hρ1 (hun id (Nat.le_refl _) (by omega)) (by rw [e1]; exact turned_grown hg) rfl (fun b hb => ?_) (by simp) (ob_own (by have := at_own2 hat; exact this))
    obtain rfl := List.mem_singleton.1 hb
    rcases hw with hw | hw
    · exact .inl (by rw [e1, hw]; simp)
    · exact .inr hw
noncomputable def addCi (a : Fx.Account) (h p : Int) : Orc := ⟨fun d _ _ => match d with | some 13 => some [(false, [rowR 81 4 dasCredential zCredential a.Credentials])] | some 25 => some [(false, [rowR 81 4 dasCredential zCredential a.Credentials])] | some 19 => some [iV (atB a.Credentials h), bV (foundB a.Credentials h)] | some 34 => some [bV (vac (addK a (atB a.Credentials h) h p))] | _ => none, fun id vs _ => match id with
  | 50064 => (match vs with | [_, .one (.own q), _, _] => some ⟨[], .one (.own 50064), [(q, .gone), (50064, .own (rowR 81 4 dasCredential zCredential (insK a.Credentials (atB a.Credentials h) h p)))]⟩ | _ => none)
  | _ => none, fun _ => True⟩
theorem atB_le (l : List Cr) (h : Int) : atB l h ≤ l.length := (bsr_le (Nat.le_refl _) (Nat.zero_le _)).2
theorem atB_cnt {l : List Cr} {h : Int} (hs : Seen l l.length) : atB l h = cnt l h := bsr_at (Nat.le_refl _) (Nat.zero_le _) (cnt_le l h) fun m _ hm => by
  have hc := cnt_le l h
  unfold lessAt
  rw [decide_eq_true_iff]
  constructor
  · intro e
    rcases Nat.lt_or_ge m (cnt l h) with k | k
    · exact k
    · have hg := cnt_ge (l := l) (h := h) (by omega)
      rcases Nat.lt_or_ge (cnt l h) m with k2 | k2
      · have := hs.lt k2 hm; omega
      · obtain rfl : cnt l h = m := by omega
        exact absurd e hg
  · exact cnt_lt
theorem addB_eq {a : Fx.Account} {h p : Int} : vac (addK a (atB a.Credentials h) h p) = addB a h p := by
  unfold addB
  cases e : vac a with
  | false =>
    cases e2 : vac (addK a (atB a.Credentials h) h p) with
    | false => rfl
    | true => have := ins_vac (atB_le _ _) e2; rw [e] at this; cases this
  | true => rw [atB_cnt (vac_ok e).2.2.2]; rfl
theorem addX_e {a : Fx.Account} {h p : Int} (e : addB a h p = true) : addX a h p = addK a (atB a.Credentials h) h p := by
  rw [addX_t e]
  unfold addB at e
  rw [Bool.and_eq_true] at e
  rw [atB_cnt (vac_ok e.1).2.2.2]
theorem ins_ok {l : List Cr} {k : Nat} {h p : Int} (ho : ∀ x ∈ l, Credential.ok x) (hx : Credential.ok ⟨h, p, 0, false⟩) : ∀ x ∈ insK l k h p, Credential.ok x := by
  intro x hm
  unfold insK at hm
  rw [List.mem_append, List.mem_append] at hm
  rcases hm with (hm | hm) | hm
  · exact ho x (List.mem_of_mem_take hm)
  · rw [List.mem_singleton.1 hm]; exact hx
  · exact ho x (List.mem_of_mem_drop hm)
theorem conAdd (a : Fx.Account) (h p : Int) (hn : a.Credentials.length ≤ 15000000) (ho : ∀ x ∈ a.Credentials, Credential.ok x) (h0 : -9223372036854775808 ≤ h) (h1 : h ≤ 9223372036854775807) (p0 : -9223372036854775808 ≤ p) (p1 : p ≤ 9223372036854775807) : FnCon Tryz.prog 26 ([(true, dasAccount a), iV h, iV p]) ([(true, dasAccount (addX a h p)), bV (addB a h p)]) := by
  refine fn_go (p := ((FnCon Tryz.prog 50 [(false, [rowR 81 4 dasCredential zCredential a.Credentials])] [(false, [rowR 81 4 dasCredential zCredential a.Credentials])]) ∧ ((FnCon Tryz.prog 55 [(false, [rowR 81 4 dasCredential zCredential a.Credentials]), (false, [dI (h)]), (false, [Da.val (Value.func (Fn.func 56) { toList := [] } { toList := [] })])] [(false, [dI ((↑(atB a.Credentials h) : Int))]), (false, [dB ((foundB a.Credentials h))])]) ∧ ((FnCon Tryz.prog 50 [(false, [rowR 81 4 dasCredential zCredential a.Credentials])] [(false, [rowR 81 4 dasCredential zCredential a.Credentials])]) ∧ ((Cust Tryz.prog (fun x => True) 50064 (opOf (Tryz.f26.body.getD Code.skip) 4 8) [AV.one (Sc.val (Value.func (Fn.func 58) { toList := [] } { toList := [] })), AV.one (Sc.own 50016), AV.one (Sc.val (vI (↑(atB a.Credentials h) : Int))), AV.one (Sc.own 50056)] [Ob.own (rowR 81 4 dasCredential zCredential a.Credentials), Ob.own (Da.row 81 4 1 fun i j => Da.val ([vI h, vI p, vI 0, Value.bool false].getD (i * 4 + j) undef))] { need := [], val := AV.one (Sc.own 50064), mem := [(50016, Ob.gone), (50064, Ob.own (Da.row 81 4 (insK a.Credentials (atB a.Credentials h) h p).length fun i j => (dasCredential ((insK a.Credentials (atB a.Credentials h) h p).getD i zCredential)).getD j (Da.val undef)))] }) ∧ ((FnCon Tryz.prog 59 [(true, [dI (a.Id), dI (a.Minimum), Da.row 81 4 (insK a.Credentials (atB a.Credentials h) h p).length fun i j => (dasCredential ((insK a.Credentials (atB a.Credentials h) h p).getD i zCredential)).getD j (Da.val undef)])] [(false, [dB ((vac (addK a (atB a.Credentials h) h p)))])]) ∧ bcase (!vac (addK a (atB a.Credentials h) h p)) ((true = true ∧ (vI a.Id = vI (addX a h p).Id ∧ (vI a.Minimum = vI (addX a h p).Minimum ∧ (DaEq (rowR 81 4 dasCredential zCredential a.Credentials) (Da.row 81 4 (addX a h p).Credentials.length fun i j => (dasCredential ((addX a h p).Credentials.getD i zCredential)).getD j (Da.val undef)))))) ∧ (false = false ∧ Value.bool false = Value.bool (addB a h p))) ((true = true ∧ (vI a.Id = vI (addX a h p).Id ∧ (vI a.Minimum = vI (addX a h p).Minimum ∧ (DaEq (Da.row 81 4 (insK a.Credentials (atB a.Credentials h) h p).length fun i j => (dasCredential ((insK a.Credentials (atB a.Credentials h) h p).getD i zCredential)).getD j (Da.val undef)) (Da.row 81 4 (addX a h p).Credentials.length fun i j => (dasCredential ((addX a h p).Credentials.getD i zCredential)).getD j (Da.val undef)))))) ∧ (false = false ∧ Value.bool true = Value.bool (addB a h p))))))))) (addCi a h p) (noLoops) Tryz.func26 (by kernel_rfl) (by kernel_rfl) (by kernel_rfl) (fun _ => trivial) (by kernel_rfl) ?_
  refine ⟨(conCopy _ (by omega)), (conBs _ _ (by omega)), (conCopy _ (by omega)), ?g3, ?g4, bcase_intro (fun h5 => ⟨⟨rfl, congrArg _ ?g6, congrArg _ ?g7, ?g8⟩, rfl, congrArg _ ?g9⟩) (fun h5 => ⟨⟨rfl, congrArg _ ?g10, congrArg _ ?g11, ?g12⟩, rfl, congrArg _ ?g13⟩)⟩
  case g3 =>
    refine cust_insert (h := h) (p := p) rfl rfl rfl (DaEq.refl _) (row_to (row_one fun j hj => ?_) rfl) (atB_le _ _) (by omega) (by decide)
    match j, hj with
    | 0, _ => rfl
    | 1, _ => rfl
    | 2, _ => rfl
    | 3, _ => rfl
  case g4 => exact con_at (conVac (addK a (atB a.Credentials h) h p) (by show (insK a.Credentials (atB a.Credentials h) h p).length ≤ _; rw [insK_len h p (atB_le _ _)]; omega) (ins_ok ho ⟨⟨h0, h1⟩, ⟨p0, p1⟩, ⟨by show (-9223372036854775808 : Int) ≤ 0; decide, by show (0 : Int) ≤ 9223372036854775807; decide⟩, trivial⟩)) rfl rfl
  all_goals rw [addB_eq] at h5
  case g6 | g7 => rw [addX_f (by simpa using h5)]
  case g8 => rw [addX_f (by simpa using h5)]; exact row_to row_self rfl
  case g9 => simpa using h5
  case g10 | g11 => rw [addX_e (by simpa using h5)]; rfl
  case g12 => rw [addX_e (by simpa using h5)]; exact row_to row_self rfl
  case g13 => simpa using h5
end Go.Proofs.YtllaacdikjffmaaGreat.C14l
