import Derived.Test.YtialhhdhpjjkaaaGreatDoorC14k
namespace Go.Proofs.YtialhhdhpjjkaaaGreatDoor.C14l
open Go.ChangeShapes Go.WideShapes Go.ChangeAt Go.RowKit
open S0 S1 S9 Dm Fx M8 M18 E0 E1 E2 E3 E4 E7 E10 E15 E16 E17 E18 E19 E20 E21 E22 E24 Das C14i C14j C14k
set_option linter.unusedVariables false
set_option linter.unusedSimpArgs false
set_option maxRecDepth 100000
theorem uncut_c (w : World) (a : Fx.Account) (h : Int) (B g off c : Nat) (hn : a.Credentials.length ≤ 16000000) (ho : ∀ x ∈ a.Credentials, Credential.ok x) (hat : AtA a B (some ⟨g, off, none⟩) c w) : Calls Tryz.prog 55 #[.pointer (some ⟨B, 0, none⟩), .int .i64 h] w (Gives (.tuple #[unPtr a h g off, .bool (cutB a h)]) w) :=
  law_goP (us := [unPtr a h g off, .bool (cutB a h)]) (uncuC a h B (some ⟨g, off, none⟩) c) noLoops Tryz.func55 (by kernel_rfl) (by kernel_rfl) rfl (wpUncut a h B g off c hn ho) hat rfl (args_of (us := [.pointer (some ⟨B, 0, none⟩), .int .i64 h]))
theorem uncut_0 (w : World) (a : Fx.Account) (h : Int) (B : Nat) (A : Option Addr) (c : Nat) (he : a.Credentials = []) (hn : a.Credentials.length ≤ 16000000) (ho : ∀ x ∈ a.Credentials, Credential.ok x) (hat : AtA a B A c w) : Calls Tryz.prog 55 #[.pointer (some ⟨B, 0, none⟩), .int .i64 h] w (Gives (.tuple #[.pointer none, .bool false]) w) :=
  law_goP (us := [.pointer none, .bool false]) (uncuC0 a B A c) noLoops Tryz.func55 (by kernel_rfl) (by kernel_rfl) rfl (wpUncut0 a h B A c he hn ho) hat rfl (args_of (us := [.pointer (some ⟨B, 0, none⟩), .int .i64 h]))
section
variable {old : World → Prop} {id q r : Nat} {o : Oper} {c : Call} {y : AV} {a : Fx.Account} {d : Da} {h m : Int}
/-- What a call finds at the account's variable: an own row in it. -/
theorem at_own {obs : Nat → Ob} {ρ : Roots} {W0 w : World} {vs : List AV} (ho : o.op = .call c) (hvs : vs.flatMap AvIds = [q]) (hm : Mem W0 obs ρ w) (hos : named o.op obs vs = [.var 35 [.val (.int .i64 a.Id), .val (.int .i64 a.Minimum), .own r], .own d]) (hd : DaEq d (rowR 86 4 dasCredential zCredential a.Credentials)) :
    ∃ b A cp bs, ρ q = some (.pointer (some ⟨b, 0, none⟩), [b]) ∧ ρ r = some (.slice A a.Credentials.length cp, bs) ∧ AtA a b A cp w ∧ (0 < a.Credentials.length → ∃ g off, A = some ⟨g, off, none⟩) := by
  unfold named near at hos
  rw [ho, hvs] at hos
  have hos : obs q :: ([q].flatMap fun q => ObIds (obs q)).map obs = [.var 35 [.val (.int .i64 a.Id), .val (.int .i64 a.Minimum), .own r], .own d] := hos
  obtain ⟨hq, hos⟩ := List.cons.inj hos
  have hos : ((ObIds (obs q) ++ []).map obs) = [.own d] := hos
  rw [hq] at hos
  have hr : obs r = .own d := (List.cons.inj (show obs r :: [] = [.own d] from hos)).1
  obtain ⟨b, us, hρ, hlo, hcell, hcs⟩ := var_of hm hq
  obtain ⟨v1, s1, rfl, k1, v2, s2, rfl, k2, v3, s3, rfl, k3, k4⟩ := hcs
  have k1 : v1 = _ := k1
  have k2 : v2 = _ := k2
  have k4 : s3 = [] := k4
  subst k1 k2 k4
  obtain ⟨r', bs, hρr, hown⟩ := own_of hm hr
  obtain rfl := own_val (W0 := W0) k3 hρr
  rw [hd.dc] at hown
  have hown2 := hown
  simp only [Da.dc, Owns] at hown2
  obtain ⟨vs, b2, hat, _, _⟩ := hown2
  obtain ⟨A, cp, rfl⟩ := hat.nil_form
  refine ⟨b, A, cp, bs, hρ, hρr, ⟨hcell, owns_shs _ _ _ hown⟩, fun hn => ?_⟩
  obtain ⟨g, off, cap, e, _⟩ := hat.form hn
  injection e with e1
  exact ⟨g, off, e1⟩
theorem cust_uncutF (ho : o.op = .call c) (hc : c.callee = .value (.func 55)) (hy : AvIds y = []) (hd : DaEq d (rowR 86 4 dasCredential zCredential a.Credentials)) (hn : a.Credentials.length ≤ 16000000) (hok : ∀ x ∈ a.Credentials, Credential.ok x) (hcut : cutB a h = false) :
    Cust Tryz.prog old id o [y, .one (.ptr q 0), .one (.val (.int .i64 h))] [.var 35 [.val (.int .i64 a.Id), .val (.int .i64 a.Minimum), .own r], .own d] ⟨[], .tup [(false, [.val (.pointer none)]), (false, [.val (.bool false)])], []⟩ :=
  cust_call2 ho hc (con_enters Tryz.func55 (by kernel_rfl) (by kernel_rfl)) fun W0 obs ρ w args hold hm hv hos hun hne => by
    obtain ⟨b, A, cp, bs, hρ, hρr, hat, hA⟩ := at_own ho (by rw [List.flatMap_cons, hy]; rfl) hm hos hd
    obtain ⟨v1, s1, rfl, k1, v2, s2, rfl, k2, k3⟩ := hv
    obtain rfl : s2 = [] := k3
    obtain rfl : v2 = _ := k2
    obtain rfl := ptr_of (W0 := W0) k1 hρ
    have hC : Calls Tryz.prog 55 #[.pointer (some ⟨b, 0, none⟩), .int .i64 h] w (Gives (.tuple #[.pointer none, .bool false]) w) := by
      rcases Nat.eq_zero_or_pos a.Credentials.length with h0 | h0
      · exact uncut_0 w a h b A cp (List.eq_nil_of_length_eq_zero h0) hn hok hat
      · obtain ⟨g, off, rfl⟩ := hA h0
        have := uncut_c w a h b g off cp hn hok hat
        unfold unPtr at this
        rw [hcut] at this
        exact this
    refine hC.mono ?_
    rintro e w' ⟨rfl, hb⟩
    exact ⟨_, rfl, post_same hm hb (ofV_ok (.tuple #[.pointer none, .bool false]))⟩
theorem cust_uncutT (ho : o.op = .call c) (hc : c.callee = .value (.func 55)) (hy : AvIds y = []) (hd : DaEq d (rowR 86 4 dasCredential zCredential a.Credentials)) (hn : a.Credentials.length ≤ 16000000) (hok : ∀ x ∈ a.Credentials, Credential.ok x) (hcut : cutB a h = true) :
    Cust Tryz.prog old id o [y, .one (.ptr q 0), .one (.val (.int .i64 h))] [.var 35 [.val (.int .i64 a.Id), .val (.int .i64 a.Minimum), .own r], .own d] ⟨[], .tup [(false, [.elo r 4 (findC a.Credentials h).toNat 0]), (false, [.val (.bool true)])], []⟩ :=
  cust_call2 ho hc (con_enters Tryz.func55 (by kernel_rfl) (by kernel_rfl)) fun W0 obs ρ w args hold hm hv hos hun hne => by
    obtain ⟨b, A, cp, bs, hρ, hρr, hat, hA⟩ := at_own ho (by rw [List.flatMap_cons, hy]; rfl) hm hos hd
    obtain ⟨v1, s1, rfl, k1, v2, s2, rfl, k2, k3⟩ := hv
    obtain rfl : s2 = [] := k3
    obtain rfl : v2 = _ := k2
    obtain rfl := ptr_of (W0 := W0) k1 hρ
    have hf : ¬ findC a.Credentials h < 0 := fun e => by rw [cutB_n e] at hcut; cases hcut
    obtain ⟨k, hk1, hk2, hk3⟩ := pos_of hf
    obtain ⟨g, off, rfl⟩ := hA (by omega)
    have hC := uncut_c w a h b g off cp hn hok hat
    unfold unPtr at hC
    rw [hcut] at hC
    refine hC.mono ?_
    rintro e w' ⟨rfl, hb⟩
    refine ⟨_, rfl, post_same hm hb ⟨_, rfl, _, _, rfl, ?_, _, _, rfl, ?_, rfl⟩⟩
    · unfold GrpOK
      rw [if_neg (by simp)]
      exact ⟨_, _, rfl, ⟨g, off, _, _, bs, hρr, by omega, rfl⟩, rfl⟩
    · unfold GrpOK
      rw [if_neg (by simp)]
      exact cs_vals [_]
end
/-- A row's own cells as values. -/
def one (x : Cr) : List Value := [.int .i64 x.Handle, .int .i64 x.Public, .int .i64 x.Counter, .bool x.Cut]
end Go.Proofs.YtialhhdhpjjkaaaGreatDoor.C14l
