import Derived.Test.YtckplhmielckeaaC14k
namespace Go.Proofs.Ytckplhmielckeaa.C14l
open Go.ChangeShapes Go.WideShapes Go.ChangeAt Go.RowKit
open S0 S1 S9 Dm Fx M8 M18 E0 E1 E2 E3 E4 E7 E10 E15 E16 E17 E18 E19 E20 E21 E22 E24 Das In C14i C14j C14k
set_option linter.unusedVariables false
set_option linter.unusedSimpArgs false
set_option maxRecDepth 100000
section
variable {old : World → Prop} {id q r : Nat} {o : Oper} {c : Call} {y : AV} {a : Fx.Account} {d : Da} {h m : Int}
/-- What a call finds at the account's variable: an own row in it. -/
theorem at_own {obs : Nat → Ob} {ρ : Roots} {W0 w : World} {vs : List AV} (ho : o.op = .call c) (hvs : vs.flatMap AvIds = [q]) (hm : Mem W0 obs ρ w) (hos : named o.op obs vs = [.var 63 [.val (.int .i64 a.Id), .val (.int .i64 a.Minimum), .own r], .own d]) (hd : DaEq d (rowR 89 4 dasCredential zCredential a.Credentials)) :
    ∃ b A cp bs, ρ q = some (.pointer (some ⟨b, 0, none⟩), [b]) ∧ ρ r = some (.slice A a.Credentials.length cp, bs) ∧ AtA a b A cp w ∧ (0 < a.Credentials.length → ∃ g off, A = some ⟨g, off, none⟩) := by
  unfold named near at hos
  rw [ho, hvs] at hos
  have hos : obs q :: ([q].flatMap fun q => ObIds (obs q)).map obs = [.var 63 [.val (.int .i64 a.Id), .val (.int .i64 a.Minimum), .own r], .own d] := hos
  obtain ⟨hq, hos⟩ := List.cons.inj hos
  have hos : ((ObIds (obs q) ++ []).map obs) = [.own d] := hos
  rw [hq] at hos
  have hr : obs r = .own d := (List.cons.inj (show obs r :: [] = [.own d] from hos)).1
  obtain ⟨b, us, hρ, hlo, hcell, hcs⟩ := var_of hm hq
  obtain ⟨v1, s1, rfl, k1, v2, s2, rfl, k2, v3, s3, rfl, k3, k4⟩ := hcs
  have k1 : v1 = _ := k1
  have k2 : v2 = _ := k2
  have k4 : s3 = [] := k4
  subst k1 k2 k4
  obtain ⟨r', bs, hρr, hown⟩ := own_of hm hr
  obtain rfl := own_val (W0 := W0) k3 hρr
  rw [hd.dc] at hown
  have hown2 := hown
  simp only [Da.dc, Owns] at hown2
  obtain ⟨vs, b2, hat, _, _⟩ := hown2
  obtain ⟨A, cp, rfl⟩ := hat.nil_form
  refine ⟨b, A, cp, bs, hρ, hρr, ⟨hcell, owns_shs _ _ _ hown⟩, fun hn => ?_⟩
  obtain ⟨g, off, cap, e, _⟩ := hat.form hn
  injection e with e1
  exact ⟨g, off, e1⟩
end
/-- A row's own cells as values. -/
def one (x : Cr) : List Value := [.int .i64 x.Handle, .int .i64 x.Public, .int .i64 x.Counter, .bool x.Cut]
def many (l : List Cr) : List Value := l.flatMap one
theorem many_len (l : List Cr) : (many l).length = l.length * 4 := by
  unfold many
  induction l with
  | nil => rfl
  | cons x l ih => rw [List.flatMap_cons, List.length_append, ih, List.length_cons]; simp [one]; omega
theorem many_app (l k : List Cr) : many (l ++ k) = many l ++ many k := by unfold many; rw [List.flatMap_append]
theorem many_take (l : List Cr) (k : Nat) : (many l).take (k * 4) = many (l.take k) := by
  rcases Nat.lt_or_ge k l.length with h | h
  · have e : many l = many (l.take k) ++ many (l.drop k) := by rw [← many_app, List.take_append_drop]
    rw [e, List.take_append_of_le_length (by rw [many_len, List.length_take]; omega), List.take_of_length_le (by rw [many_len, List.length_take]; omega)]
  · rw [List.take_of_length_le h, List.take_of_length_le (by rw [many_len]; omega)]
theorem many_drop (l : List Cr) (k : Nat) : (many l).drop (k * 4) = many (l.drop k) := by
  rcases Nat.lt_or_ge k l.length with h | h
  · have e : many l = many (l.take k) ++ many (l.drop k) := by rw [← many_app, List.take_append_drop]
    rw [e, List.drop_append_of_le_length (by rw [many_len, List.length_take]; omega), List.drop_of_length_le (by rw [many_len, List.length_take]; omega), List.nil_append]
  · rw [List.drop_of_length_le h, List.drop_of_length_le (by rw [many_len]; omega)]; rfl
theorem many_one (l : List Cr) : ∀ u ∈ many l, u.oneCell' = true := by
  intro u hu
  unfold many at hu
  obtain ⟨x, _, hx⟩ := List.mem_flatMap.1 hu
  unfold one at hx
  simp only [List.mem_cons, List.not_mem_nil, or_false] at hx
  rcases hx with rfl | rfl | rfl | rfl <;> rfl
theorem many_dc : ∀ l : List Cr, l.flatMap Credential.dcs = (many l).map Dc.val
  | [] => rfl
  | x :: l => by
    rw [List.flatMap_cons, many_dc l]
    unfold many
    rw [List.flatMap_cons, List.map_append]
    rfl
theorem row_dc (l : List Cr) : (rowR 89 4 dasCredential zCredential l).dc = .row 89 4 l.length ((many l).map Dc.val) := by
  rw [rowR_dc 89 zCredential Credential.len dasCredential_dc, many_dc]
theorem own_at {w : World} {lo : Nat} {l : List Cr} {v : Value} {bs : List Nat} (h : Owns w lo (rowR 89 4 dasCredential zCredential l).dc v bs) : Ow.At w lo 89 4 v l.length (many l) ∧ bs = v.ownBlock.toList := by
  rw [row_dc] at h
  simp only [Owns] at h
  obtain ⟨vs, b2, hat, hl, rfl⟩ := h
  obtain rfl := vals_of hl
  have hb : ∀ {us vs : List Value} {bs : List Nat}, OwnsL w lo (us.map Dc.val) vs bs → bs = [] := by
    intro us
    induction us with
    | nil => intro vs bs h; simp only [List.map_nil, OwnsL] at h; exact h.2
    | cons u us ih =>
      intro vs bs h
      simp only [List.map_cons, OwnsL, Owns] at h
      obtain ⟨v, vs', b1, b2, _, ⟨_, rfl⟩, h2, rfl⟩ := h
      rw [ih h2]
  rw [hb hl, List.append_nil]
  exact ⟨hat, rfl⟩
theorem at_own2 {w : World} {lo : Nat} {l : List Cr} {v : Value} (h : Ow.At w lo 89 4 v l.length (many l)) : Owns w lo (rowR 89 4 dasCredential zCredential l).dc v v.ownBlock.toList := by
  rw [row_dc]
  simp only [Owns]
  exact ⟨_, [], h, vals_own w lo _, by simp⟩
theorem ins_many (l : List Cr) (k : Nat) (h p : Int) : (many l).take (k * 4) ++ one ⟨h, p, 0, false⟩ ++ (many l).drop (k * 4) = many (insK l k h p) := by
  unfold insK
  rw [many_app, many_app, many_take, many_drop]
  rfl
noncomputable def raiCi (a : Fx.Account) (m : Int) : Orc := ⟨fun d _ _ => match d with | some 8 => some [(false, [rowR 89 4 dasCredential zCredential a.Credentials])] | _ => none, fun id vs _ => match id with
  | 30008 => some ⟨[], .one (.val (.bool (raiB a m))), []⟩
  | _ => none, fun _ => True⟩
noncomputable def allCi (W : World) (a : Fx.Account) (m : Int) : Orc := ⟨fun _ _ _ => none, fun id vs _ => match id with
  | 20008 => some ⟨[], .one (.val (.bool (raiB a m))), []⟩
  | 20048 => (match vs with | [.one (.ptr q _)] => some ⟨[], .one (.own 20048), [(q, .gone), (20048, .tab 0 [] (NextT W a.Id a.Minimum a.Credentials))]⟩ | _ => none)
  | 20056 => (match vs with | [_, .one (.own q)] => some ⟨[], .one (.val (.bool (open_ a.Credentials))), [(q, .gone)]⟩ | _ => none)
  | _ => none, fun w => w = W⟩
noncomputable def cutCi (a : Fx.Account) (h : Int) (t : Bool) : Orc := ⟨fun d _ _ => match d with | some 10 => some [(false, [rowR 89 4 dasCredential zCredential a.Credentials])] | _ => none, fun id vs os => match id with
  | 30008 => (match t with
    | true => (match os with | [.var _ [_, _, .own r], _] => some ⟨[], .tup [(false, [.elo r 4 (findC a.Credentials h).toNat 0]), (false, [.val (.bool true)])], []⟩ | _ => none)
    | false => some ⟨[], .tup [(false, [.val (.pointer none)]), (false, [.val (.bool false)])], []⟩)
  | _ => none, fun _ => True⟩
theorem ins_ok {l : List Cr} {k : Nat} {h p : Int} (ho : ∀ x ∈ l, Credential.ok x) (hx : Credential.ok ⟨h, p, 0, false⟩) : ∀ x ∈ insK l k h p, Credential.ok x := by
  intro x hm
  unfold insK at hm
  rw [List.mem_append, List.mem_append] at hm
  rcases hm with (hm | hm) | hm
  · exact ho x (List.mem_of_mem_take hm)
  · rw [List.mem_singleton.1 hm]; exact hx
  · exact ho x (List.mem_of_mem_drop hm)
end Go.Proofs.Ytckplhmielckeaa.C14l
