import Derived.Test.YtmhjjocmnmeapaaGreatDoorC14k
namespace Go.Proofs.YtmhjjocmnmeapaaGreatDoor.C14l
open Go.ChangeShapes Go.WideShapes Go.ChangeAt Go.RowKit
open S0 S1 S9 Dm Fx M8 M18 E0 E1 E2 E3 E4 E7 E10 E15 E16 E17 E18 E19 E20 E21 E22 E24 Das C14i C14j C14k
set_option linter.unusedVariables false
set_option linter.unusedSimpArgs false
set_option maxRecDepth 100000
theorem acc_c (w : World) (a : Fx.Account) (m : Int) (B : Nat) (A : Option Addr) (c : Nat) (hn : a.Credentials.length ≤ 16000000) (ho : ∀ x ∈ a.Credentials, Credential.ok x) (h : AtA a B A c w) : Calls Tryz.prog 31 #[.pointer (some ⟨B, 0, none⟩), .int .i64 m] w (Gives (.bool (raiB a m)) w) :=
  law_go (accC a B A c) noLoops Tryz.func31 (by kernel_rfl) (by kernel_rfl) (wpAcc a m B A c hn ho) h rfl (args_of (us := [.pointer (some ⟨B, 0, none⟩), .int .i64 m]))
theorem uncut_c (w : World) (a : Fx.Account) (h : Int) (B g off c : Nat) (hn : a.Credentials.length ≤ 16000000) (ho : ∀ x ∈ a.Credentials, Credential.ok x) (hat : AtA a B (some ⟨g, off, none⟩) c w) : Calls Tryz.prog 23 #[.pointer (some ⟨B, 0, none⟩), .int .i64 h] w (Gives (.tuple #[unPtr a h g off, .bool (cutB a h)]) w) :=
  law_goP (us := [unPtr a h g off, .bool (cutB a h)]) (uncuC a h B (some ⟨g, off, none⟩) c) noLoops Tryz.func23 (by kernel_rfl) (by kernel_rfl) rfl (wpUncut a h B g off c hn ho) hat rfl (args_of (us := [.pointer (some ⟨B, 0, none⟩), .int .i64 h]))
theorem uncut_0 (w : World) (a : Fx.Account) (h : Int) (B : Nat) (A : Option Addr) (c : Nat) (he : a.Credentials = []) (hn : a.Credentials.length ≤ 16000000) (ho : ∀ x ∈ a.Credentials, Credential.ok x) (hat : AtA a B A c w) : Calls Tryz.prog 23 #[.pointer (some ⟨B, 0, none⟩), .int .i64 h] w (Gives (.tuple #[.pointer none, .bool false]) w) :=
  law_goP (us := [.pointer none, .bool false]) (uncuC0 a B A c) noLoops Tryz.func23 (by kernel_rfl) (by kernel_rfl) rfl (wpUncut0 a h B A c he hn ho) hat rfl (args_of (us := [.pointer (some ⟨B, 0, none⟩), .int .i64 h]))
section
variable {old : World → Prop} {id q r : Nat} {o : Oper} {c : Call} {y : AV} {a : Fx.Account} {d : Da} {h m : Int}
/-- What a call finds at the account's variable: an own row in it. -/
theorem at_own {obs : Nat → Ob} {ρ : Roots} {W0 w : World} {vs : List AV} (ho : o.op = .call c) (hvs : vs.flatMap AvIds = [q]) (hm : Mem W0 obs ρ w) (hos : named o.op obs vs = [.var 26 [.val (.int .i64 a.Id), .val (.int .i64 a.Minimum), .own r], .own d]) (hd : DaEq d (rowR 49 4 dasCredential zCredential a.Credentials)) :
    ∃ b A cp bs, ρ q = some (.pointer (some ⟨b, 0, none⟩), [b]) ∧ ρ r = some (.slice A a.Credentials.length cp, bs) ∧ AtA a b A cp w ∧ (0 < a.Credentials.length → ∃ g off, A = some ⟨g, off, none⟩) := by
  unfold named near at hos
  rw [ho, hvs] at hos
  have hos : obs q :: ([q].flatMap fun q => ObIds (obs q)).map obs = [.var 26 [.val (.int .i64 a.Id), .val (.int .i64 a.Minimum), .own r], .own d] := hos
  obtain ⟨hq, hos⟩ := List.cons.inj hos
  have hos : ((ObIds (obs q) ++ []).map obs) = [.own d] := hos
  rw [hq] at hos
  have hr : obs r = .own d := (List.cons.inj (show obs r :: [] = [.own d] from hos)).1
  obtain ⟨b, us, hρ, hlo, hcell, hcs⟩ := var_of hm hq
  obtain ⟨v1, s1, rfl, k1, v2, s2, rfl, k2, v3, s3, rfl, k3, k4⟩ := hcs
  have k1 : v1 = _ := k1
  have k2 : v2 = _ := k2
  have k4 : s3 = [] := k4
  subst k1 k2 k4
  obtain ⟨r', bs, hρr, hown⟩ := own_of hm hr
  obtain rfl := own_val (W0 := W0) k3 hρr
  rw [hd.dc] at hown
  have hown2 := hown
  simp only [Da.dc, Owns] at hown2
  obtain ⟨vs, b2, hat, _, _⟩ := hown2
  obtain ⟨A, cp, rfl⟩ := hat.nil_form
  refine ⟨b, A, cp, bs, hρ, hρr, ⟨hcell, owns_shs _ _ _ hown⟩, fun hn => ?_⟩
  obtain ⟨g, off, cap, e, _⟩ := hat.form hn
  injection e with e1
  exact ⟨g, off, e1⟩
theorem cust_acc (ho : o.op = .call c) (hc : c.callee = .value (.func 31)) (hy : AvIds y = []) (hd : DaEq d (rowR 49 4 dasCredential zCredential a.Credentials)) (hn : a.Credentials.length ≤ 16000000) (hok : ∀ x ∈ a.Credentials, Credential.ok x) :
    Cust Tryz.prog old id o [y, .one (.ptr q 0), .one (.val (.int .i64 m))] [.var 26 [.val (.int .i64 a.Id), .val (.int .i64 a.Minimum), .own r], .own d] ⟨[], .one (.val (.bool (raiB a m))), []⟩ :=
  cust_call2 ho hc (con_enters Tryz.func31 (by kernel_rfl) (by kernel_rfl)) fun W0 obs ρ w args hold hm hv hos hun hne => by
    obtain ⟨b, A, cp, bs, hρ, hρr, hat, -⟩ := at_own ho (by rw [List.flatMap_cons, hy]; rfl) hm hos hd
    obtain ⟨v1, s1, rfl, k1, v2, s2, rfl, k2, k3⟩ := hv
    obtain rfl : s2 = [] := k3
    obtain rfl : v2 = _ := k2
    obtain rfl := ptr_of (W0 := W0) k1 hρ
    refine (acc_c w a m b A cp hn hok hat).mono ?_
    rintro e w' ⟨rfl, hb⟩
    exact ⟨_, rfl, post_same hm hb rfl⟩
/-- .. with a row that came in. -/
theorem cust_accO (ho : o.op = .call c) (hc : c.callee = .value (.func 31)) (hy : AvIds y = []) (hn : a.Credentials.length ≤ 16000000) (hok : ∀ x ∈ a.Credentials, Credential.ok x) :
    Cust Tryz.prog old id o [y, .one (.ptr q 0), .one (.val (.int .i64 m))] [.var 26 [.val (.int .i64 a.Id), .val (.int .i64 a.Minimum), .old (rowR 49 4 dasCredential zCredential a.Credentials)]] ⟨[], .one (.val (.bool (raiB a m))), []⟩ :=
  cust_call (hlen := by rw [List.flatMap_cons, hy]; rfl) ho hc (con_enters Tryz.func31 (by kernel_rfl) (by kernel_rfl)) fun W0 obs ρ w args hold hm hv hos hun hne => by
    have hq : obs q = .var 26 [.val (.int .i64 a.Id), .val (.int .i64 a.Minimum), .old (rowR 49 4 dasCredential zCredential a.Credentials)] := by rw [List.flatMap_cons, hy] at hos; simpa [AvIds, ScIds] using hos
    obtain ⟨b, us, hρ, hlo, hcell, hcs⟩ := var_of hm hq
    obtain ⟨v1, s1, rfl, k1, v2, s2, rfl, k2, v3, s3, rfl, k3, k4⟩ := hcs
    have k1 : v1 = _ := k1
    have k2 : v2 = _ := k2
    have k4 : s3 = [] := k4
    subst k1 k2 k4
    have k3 : Shs W0 W0.heap.size (rowR 49 4 dasCredential zCredential a.Credentials).dc v3 := k3
    have hk := k3
    simp only [Da.dc, Shs] at hk
    obtain ⟨A, cp, vs, rfl, _⟩ := hk
    obtain ⟨u1, t1, rfl, j1, u2, t2, rfl, j2, j3⟩ := hv
    obtain rfl : t2 = [] := j3
    obtain rfl : u2 = _ := j2
    obtain rfl := ptr_of (W0 := W0) j1 hρ
    refine (acc_c w a m b A cp hn hok ⟨hcell, shs_on k3 hm.below⟩).mono ?_
    rintro e w' ⟨rfl, hb⟩
    exact ⟨_, rfl, post_same hm hb rfl⟩
theorem cust_uncutF (ho : o.op = .call c) (hc : c.callee = .value (.func 23)) (hy : AvIds y = []) (hd : DaEq d (rowR 49 4 dasCredential zCredential a.Credentials)) (hn : a.Credentials.length ≤ 16000000) (hok : ∀ x ∈ a.Credentials, Credential.ok x) (hcut : cutB a h = false) :
    Cust Tryz.prog old id o [y, .one (.ptr q 0), .one (.val (.int .i64 h))] [.var 26 [.val (.int .i64 a.Id), .val (.int .i64 a.Minimum), .own r], .own d] ⟨[], .tup [(false, [.val (.pointer none)]), (false, [.val (.bool false)])], []⟩ :=
  cust_call2 ho hc (con_enters Tryz.func23 (by kernel_rfl) (by kernel_rfl)) fun W0 obs ρ w args hold hm hv hos hun hne => by
    obtain ⟨b, A, cp, bs, hρ, hρr, hat, hA⟩ := at_own ho (by rw [List.flatMap_cons, hy]; rfl) hm hos hd
    obtain ⟨v1, s1, rfl, k1, v2, s2, rfl, k2, k3⟩ := hv
    obtain rfl : s2 = [] := k3
    obtain rfl : v2 = _ := k2
    obtain rfl := ptr_of (W0 := W0) k1 hρ
    have hC : Calls Tryz.prog 23 #[.pointer (some ⟨b, 0, none⟩), .int .i64 h] w (Gives (.tuple #[.pointer none, .bool false]) w) := by
      rcases Nat.eq_zero_or_pos a.Credentials.length with h0 | h0
      · exact uncut_0 w a h b A cp (List.eq_nil_of_length_eq_zero h0) hn hok hat
      · obtain ⟨g, off, rfl⟩ := hA h0
        have := uncut_c w a h b g off cp hn hok hat
        unfold unPtr at this
        rw [hcut] at this
        exact this
    refine hC.mono ?_
    rintro e w' ⟨rfl, hb⟩
    exact ⟨_, rfl, post_same hm hb (ofV_ok (.tuple #[.pointer none, .bool false]))⟩
theorem cust_uncutT (ho : o.op = .call c) (hc : c.callee = .value (.func 23)) (hy : AvIds y = []) (hd : DaEq d (rowR 49 4 dasCredential zCredential a.Credentials)) (hn : a.Credentials.length ≤ 16000000) (hok : ∀ x ∈ a.Credentials, Credential.ok x) (hcut : cutB a h = true) :
    Cust Tryz.prog old id o [y, .one (.ptr q 0), .one (.val (.int .i64 h))] [.var 26 [.val (.int .i64 a.Id), .val (.int .i64 a.Minimum), .own r], .own d] ⟨[], .tup [(false, [.elo r 4 (findC a.Credentials h).toNat 0]), (false, [.val (.bool true)])], []⟩ :=
  cust_call2 ho hc (con_enters Tryz.func23 (by kernel_rfl) (by kernel_rfl)) fun W0 obs ρ w args hold hm hv hos hun hne => by
    obtain ⟨b, A, cp, bs, hρ, hρr, hat, hA⟩ := at_own ho (by rw [List.flatMap_cons, hy]; rfl) hm hos hd
    obtain ⟨v1, s1, rfl, k1, v2, s2, rfl, k2, k3⟩ := hv
    obtain rfl : s2 = [] := k3
    obtain rfl : v2 = _ := k2
    obtain rfl := ptr_of (W0 := W0) k1 hρ
    have hf : ¬ findC a.Credentials h < 0 := fun e => by rw [cutB_n e] at hcut; cases hcut
    obtain ⟨k, hk1, hk2, hk3⟩ := pos_of hf
    obtain ⟨g, off, rfl⟩ := hA (by omega)
    have hC := uncut_c w a h b g off cp hn hok hat
    unfold unPtr at hC
    rw [hcut] at hC
    refine hC.mono ?_
    rintro e w' ⟨rfl, hb⟩
    refine ⟨_, rfl, post_same hm hb ⟨_, rfl, _, _, rfl, ?_, _, _, rfl, ?_, rfl⟩⟩
    · unfold GrpOK
      rw [if_neg (by simp)]
      exact ⟨_, _, rfl, ⟨g, off, _, _, bs, hρr, by omega, rfl⟩, rfl⟩
    · unfold GrpOK
      rw [if_neg (by simp)]
      exact cs_vals [_]
end
/-- A row's own cells as values. -/
def one (x : Cr) : List Value := [.int .i64 x.Handle, .int .i64 x.Public, .int .i64 x.Counter, .bool x.Cut]
noncomputable def raiCi (a : Fx.Account) (m : Int) : Orc := ⟨fun d _ _ => match d with | some 8 => some [(false, [rowR 49 4 dasCredential zCredential a.Credentials])] | _ => none, fun id vs _ => match id with
  | 30008 => some ⟨[], .one (.val (.bool (raiB a m))), []⟩
  | _ => none, fun _ => True⟩
noncomputable def allCi (W : World) (a : Fx.Account) (m : Int) : Orc := ⟨fun _ _ _ => none, fun id vs _ => match id with
  | 20008 => some ⟨[], .one (.val (.bool (raiB a m))), []⟩
  | 20048 => (match vs with | [.one (.ptr q _)] => some ⟨[], .one (.own 20048), [(q, .gone), (20048, .tab 0 [] (NextT W a.Id a.Minimum a.Credentials))]⟩ | _ => none)
  | 20056 => (match vs with | [_, .one (.own q)] => some ⟨[], .one (.val (.bool (open_ a.Credentials))), [(q, .gone)]⟩ | _ => none)
  | _ => none, fun w => w = W⟩
noncomputable def cutCi (a : Fx.Account) (h : Int) (t : Bool) : Orc := ⟨fun d _ _ => match d with | some 10 => some [(false, [rowR 49 4 dasCredential zCredential a.Credentials])] | _ => none, fun id vs os => match id with
  | 30008 => (match t with
    | true => (match os with | [.var _ [_, _, .own r], _] => some ⟨[], .tup [(false, [.elo r 4 (findC a.Credentials h).toNat 0]), (false, [.val (.bool true)])], []⟩ | _ => none)
    | false => some ⟨[], .tup [(false, [.val (.pointer none)]), (false, [.val (.bool false)])], []⟩)
  | _ => none, fun _ => True⟩
theorem ins_ok {l : List Cr} {k : Nat} {h p : Int} (ho : ∀ x ∈ l, Credential.ok x) (hx : Credential.ok ⟨h, p, 0, false⟩) : ∀ x ∈ insK l k h p, Credential.ok x := by
  intro x hm
  unfold insK at hm
  rw [List.mem_append, List.mem_append] at hm
  rcases hm with (hm | hm) | hm
  · exact ho x (List.mem_of_mem_take hm)
  · rw [List.mem_singleton.1 hm]; exact hx
  · exact ho x (List.mem_of_mem_drop hm)
theorem conRai (a : Fx.Account) (m : Int) (hn : a.Credentials.length ≤ 16000000) (ho : ∀ x ∈ a.Credentials, Credential.ok x) : FnCon Tryz.prog 11 ([(true, dasAccount a), iV m]) ([(true, dasAccount (raiX a m)), bV (raiB a m)]) := by
  refine fn_go (p := ((FnCon Tryz.prog 22 [(false, [rowR 49 4 dasCredential zCredential a.Credentials])] [(false, [rowR 49 4 dasCredential zCredential a.Credentials])]) ∧ ((Cust Tryz.prog (fun x => True) 30008 (opOf (Tryz.f11.body.getD Code.skip) 2 1) [AV.one (Sc.val (Value.func (Fn.func 31) { toList := [] } { toList := [] })), AV.one (Sc.ptr 10000 0), AV.one (Sc.val (vI m))] [Ob.var 26 [Sc.val (vI a.Id), Sc.val (vI a.Minimum), Sc.own 20016], Ob.own (rowR 49 4 dasCredential zCredential a.Credentials)] { need := [], val := AV.one (Sc.val (Value.bool (raiB a m))), mem := [] }) ∧ bcase (!raiB a m) ((true = true ∧ (vI a.Id = vI (raiX a m).Id ∧ (vI a.Minimum = vI (raiX a m).Minimum ∧ (DaEq (rowR 49 4 dasCredential zCredential a.Credentials) (Da.row 49 4 (raiX a m).Credentials.length fun i j => (dasCredential ((raiX a m).Credentials.getD i zCredential)).getD j (Da.val undef)))))) ∧ (false = false ∧ Value.bool false = Value.bool (raiB a m))) ((true = true ∧ (vI a.Id = vI (raiX a m).Id ∧ (vI m = vI (raiX a m).Minimum ∧ (DaEq (rowR 49 4 dasCredential zCredential a.Credentials) (Da.row 49 4 (raiX a m).Credentials.length fun i j => (dasCredential ((raiX a m).Credentials.getD i zCredential)).getD j (Da.val undef)))))) ∧ (false = false ∧ Value.bool true = Value.bool (raiB a m)))))) (raiCi a m) (noLoops) Tryz.func11 (by kernel_rfl) (by kernel_rfl) (by kernel_rfl) (fun _ => trivial) (by kernel_rfl) ?_
  refine ⟨(conCopy _ hn), ?g1, bcase_intro (fun h2 => ⟨⟨rfl, congrArg _ ?g3, congrArg _ ?g4, ?g5⟩, rfl, congrArg _ ?g6⟩) (fun h2 => ⟨⟨rfl, congrArg _ ?g7, congrArg _ ?g8, ?g9⟩, rfl, congrArg _ ?g10⟩)⟩
  case g1 => exact cust_acc rfl rfl rfl (DaEq.refl _) hn ho
  case g3 | g4 => rw [raiX_f (by simpa using h2)]
  case g5 => rw [raiX_f (by simpa using h2)]; exact row_to row_self rfl
  case g6 => simpa using h2
  case g7 | g8 => rw [raiX_t (by simpa using h2)]
  case g9 => rw [raiX_t (by simpa using h2)]; exact row_to row_self rfl
  case g10 => simpa using h2
theorem conAll (a : Fx.Account) (m : Int) (hn : a.Credentials.length ≤ 16000000) (ho : ∀ x ∈ a.Credentials, Credential.ok x) : FnCon Tryz.prog 12 ([(true, dasAccount a), iV m]) ([bV (allB a m)]) := by
  refine E24.fn_goW (p := fun W => bcase (raiB a m) (bcase (m != 3) ((Cust Tryz.prog (fun w => w = W) 20008 (opOf (Tryz.f12.body.getD Code.skip) 1 1) [AV.one (Sc.val (Value.func (Fn.func 31) { toList := [] } { toList := [] })), AV.one (Sc.ptr 10000 0), AV.one (Sc.val (vI m))] [Ob.var 26 [Sc.val (vI a.Id), Sc.val (vI a.Minimum), Sc.old (rowR 49 4 dasCredential zCredential a.Credentials)]] { need := [], val := AV.one (Sc.val (Value.bool (raiB a m))), mem := [] }) ∧ (raiB a m = true ∧ ((m != 3) = true ∧ (false = false ∧ Value.bool true = Value.bool (allB a m))))) ((Cust Tryz.prog (fun w => w = W) 20008 (opOf (Tryz.f12.body.getD Code.skip) 1 1) [AV.one (Sc.val (Value.func (Fn.func 31) { toList := [] } { toList := [] })), AV.one (Sc.ptr 10000 0), AV.one (Sc.val (vI m))] [Ob.var 26 [Sc.val (vI a.Id), Sc.val (vI a.Minimum), Sc.old (rowR 49 4 dasCredential zCredential a.Credentials)]] { need := [], val := AV.one (Sc.val (Value.bool (raiB a m))), mem := [] }) ∧ (raiB a m = true ∧ ((m != 3) = false ∧ ((Cust Tryz.prog (fun w => w = W) 20048 (opOf (Tryz.f12.body.getD Code.skip) 1 6) [AV.one (Sc.ptr 10000 0)] [Ob.var 26 [Sc.val (vI a.Id), Sc.val (vI a.Minimum), Sc.old (rowR 49 4 dasCredential zCredential a.Credentials)]] { need := [], val := AV.one (Sc.own 20048), mem := [(10000, Ob.gone), (20048, Ob.tab 0 [] (NextT W a.Id a.Minimum a.Credentials))] }) ∧ ((Cust Tryz.prog (fun w => w = W) 20056 (opOf (Tryz.f12.body.getD Code.skip) 1 7) [AV.one (Sc.val (Value.func (Fn.func 32) { toList := [] } { toList := [] })), AV.one (Sc.own 20048)] [Ob.tab 0 [] (NextT W a.Id a.Minimum a.Credentials)] { need := [], val := AV.one (Sc.val (Value.bool (open_ a.Credentials))), mem := [(20048, Ob.gone)] }) ∧ (false = false ∧ Value.bool (open_ a.Credentials) = Value.bool (allB a m)))))))) ((Cust Tryz.prog (fun w => w = W) 20008 (opOf (Tryz.f12.body.getD Code.skip) 1 1) [AV.one (Sc.val (Value.func (Fn.func 31) { toList := [] } { toList := [] })), AV.one (Sc.ptr 10000 0), AV.one (Sc.val (vI m))] [Ob.var 26 [Sc.val (vI a.Id), Sc.val (vI a.Minimum), Sc.old (rowR 49 4 dasCredential zCredential a.Credentials)]] { need := [], val := AV.one (Sc.val (Value.bool (raiB a m))), mem := [] }) ∧ (raiB a m = false ∧ (false = false ∧ Value.bool false = Value.bool (allB a m))))) (fun W => allCi W a m) (noLoops) Tryz.func12 (by kernel_rfl) (by kernel_rfl) (by kernel_rfl) (fun _ => rfl) (by kernel_rfl) ?_
  intro W
  refine bcase_intro (fun h0 => bcase_intro (fun h1 => ⟨?g2, h0, h1, rfl, congrArg _ ?g3⟩) (fun h1 => ⟨?g4, h0, h1, ?g5, ?g6, rfl, congrArg _ ?g7⟩)) (fun h0 => ⟨?g8, h0, rfl, congrArg _ ?g9⟩)
  case g2 | g4 | g8 => exact cust_accO rfl rfl rfl hn ho
  case g5 => exact cust_bound rfl rfl rfl
  case g6 => exact cust_bfun (u := .bool (open_ a.Credentials)) rfl rfl (con_enters Tryz.func32 (by kernel_rfl) (by kernel_rfl)) rfl (cs := cellsA a.Id a.Minimum a.Credentials) rfl rfl rfl fun w n b hat => unc_c w n b _ _ _ hn hat
  case g3 => unfold allB; rw [h0, beq_eq_false_iff_ne.2 (bne_iff_ne.1 h1)]; simp
  case g7 => unfold allB; rw [h0, beq_iff_eq.2 (bne_eq_false_iff_eq.1 h1)]; simp
  case g9 => unfold allB; rw [h0]; rfl
theorem conCutT (a : Fx.Account) (h : Int) (hn : a.Credentials.length ≤ 16000000) (ho : ∀ x ∈ a.Credentials, Credential.ok x) (hb : cutB a h = true) : FnCon Tryz.prog 10 ([(true, dasAccount a), iV h]) ([(true, dasAccount (cutX a h)), bV (cutB a h)]) := by
  refine fn_go (p := ((FnCon Tryz.prog 22 [(false, [rowR 49 4 dasCredential zCredential a.Credentials])] [(false, [rowR 49 4 dasCredential zCredential a.Credentials])]) ∧ ((Cust Tryz.prog (fun x => True) 30008 (opOf (Tryz.f10.body.getD Code.skip) 2 1) [AV.one (Sc.val (Value.func (Fn.func 23) { toList := [] } { toList := [] })), AV.one (Sc.ptr 10000 0), AV.one (Sc.val (vI h))] [Ob.var 26 [Sc.val (vI a.Id), Sc.val (vI a.Minimum), Sc.own 20016], Ob.own (rowR 49 4 dasCredential zCredential a.Credentials)] { need := [], val := AV.tup [(false, [Sc.elo 20016 4 (findC a.Credentials h).toNat 0]), (false, [Sc.val (Value.bool true)])], mem := [] }) ∧ ((true = true ∧ (vI a.Id = vI (cutX a h).Id ∧ (vI a.Minimum = vI (cutX a h).Minimum ∧ (DaEq
  (Da.row 49 4 a.Credentials.length fun a_1 b =>
    match
      match a_1.beq (findC a.Credentials h).toNat with
      | false => false
      | true => b.beq 3 with
    | true => dB (true)
    | false => (dasCredential (a.Credentials.getD a_1 zCredential)).getD b (Da.val undef))
  (Da.row 49 4 (cutX a h).Credentials.length fun i j => (dasCredential ((cutX a h).Credentials.getD i zCredential)).getD j (Da.val undef)))))) ∧ (false = false ∧ Value.bool true = Value.bool (cutB a h)))))) (cutCi a h true) (noLoops) Tryz.func10 (by kernel_rfl) (by kernel_rfl) (by kernel_rfl) (fun _ => trivial) (by kernel_rfl) ?_
  refine ⟨(conCopy _ hn), ?g1, ⟨rfl, congrArg _ ?g2, congrArg _ ?g3, ?g4⟩, rfl, congrArg _ ?g5⟩
  case g1 => exact cust_uncutT rfl rfl rfl (DaEq.refl _) hn ho hb
  case g2 | g3 => rw [cutX_t hb]
  case g4 =>
    rw [cutX_t hb]
    refine row_to (row_set (f := 3) row_self fun j hj => ?_) rfl
    match j, hj with
    | 0, _ => rfl
    | 1, _ => rfl
    | 2, _ => rfl
    | 3, _ => rfl
  case g5 => exact hb.symm
theorem conCutF (a : Fx.Account) (h : Int) (hn : a.Credentials.length ≤ 16000000) (ho : ∀ x ∈ a.Credentials, Credential.ok x) (hb : cutB a h = false) : FnCon Tryz.prog 10 ([(true, dasAccount a), iV h]) ([(true, dasAccount (cutX a h)), bV (cutB a h)]) := by
  refine fn_go (p := ((FnCon Tryz.prog 22 [(false, [rowR 49 4 dasCredential zCredential a.Credentials])] [(false, [rowR 49 4 dasCredential zCredential a.Credentials])]) ∧ ((Cust Tryz.prog (fun x => True) 30008 (opOf (Tryz.f10.body.getD Code.skip) 2 1) [AV.one (Sc.val (Value.func (Fn.func 23) { toList := [] } { toList := [] })), AV.one (Sc.ptr 10000 0), AV.one (Sc.val (vI h))] [Ob.var 26 [Sc.val (vI a.Id), Sc.val (vI a.Minimum), Sc.own 20016], Ob.own (rowR 49 4 dasCredential zCredential a.Credentials)] { need := [], val := AV.tup [(false, [Sc.val (Value.pointer none)]), (false, [Sc.val (Value.bool false)])], mem := [] }) ∧ ((true = true ∧ (vI a.Id = vI (cutX a h).Id ∧ (vI a.Minimum = vI (cutX a h).Minimum ∧ (DaEq (rowR 49 4 dasCredential zCredential a.Credentials) (Da.row 49 4 (cutX a h).Credentials.length fun i j => (dasCredential ((cutX a h).Credentials.getD i zCredential)).getD j (Da.val undef)))))) ∧ (false = false ∧ Value.bool false = Value.bool (cutB a h)))))) (cutCi a h false) (noLoops) Tryz.func10 (by kernel_rfl) (by kernel_rfl) (by kernel_rfl) (fun _ => trivial) (by kernel_rfl) ?_
  refine ⟨(conCopy _ hn), ?g1, ⟨rfl, congrArg _ ?g2, congrArg _ ?g3, ?g4⟩, rfl, congrArg _ ?g5⟩
  case g1 => exact cust_uncutF rfl rfl rfl (DaEq.refl _) hn ho hb
  case g2 | g3 => rw [cutX_f hb]
  case g4 => rw [cutX_f hb]; exact row_to row_self rfl
  case g5 => exact hb.symm
theorem conCut (a : Fx.Account) (h : Int) (hn : a.Credentials.length ≤ 16000000) (ho : ∀ x ∈ a.Credentials, Credential.ok x) : FnCon Tryz.prog 10 [(true, dasAccount a), iV h] [(true, dasAccount (cutX a h)), bV (cutB a h)] := by
  cases hb : cutB a h with
  | true => have := conCutT a h hn ho hb; rw [hb] at this; exact this
  | false => have := conCutF a h hn ho hb; rw [hb] at this; exact this
end Go.Proofs.YtmhjjocmnmeapaaGreatDoor.C14l
