import Derived.Test.YtllaacdikjffmaaGreatC15w
import Derived.Test.YtllaacdikjffmaaGreatC15v
import Derived.Test.YtllaacdikjffmaaGreatC14l
import Derived.Test.YtllaacdikjffmaaGreatE32
namespace Go.Proofs.YtllaacdikjffmaaGreat.C15r
open Go.ChangeShapes Go.WideShapes Go.ChangeAt Go.RowKit
open S0 S1 S9 Dm Fx M8 M12 M13 M18 M21 M22 C3 E0 E1 E2 E3 E4 E7 E9 E10 E15 E16 E17 E18 E19 E20 E21 E22 E24 E26 E32 Das C14k C15i C15u C15w
set_option linter.unusedVariables false
set_option linter.unusedSimpArgs false
set_option maxRecDepth 100000
noncomputable def rgC (W : World) (s : Fx.Site) (i h p : Int) (e : Eff) : Orc := ⟨fun d f a => match f with
  | 24 => some [(true, dasSite s)]
  | 26 => some [(true, dasAccount (addX (accAt s i) h p)), bV (addB (accAt s i) h p)]
  | _ => none, fun id vs os => match id with
  | 30008 => some e
  | 60024 => some ⟨[], .agg [.val (.int .i64 (accAt s i).Id), .val (.int .i64 (accAt s i).Minimum), .own 60024], [(20008, .abs (HoleD W.heap.size 52 3 s.Accounts.length (fun i j => (dasAccount (s.Accounts.getD i zAccount)).getD j (.val undef)) (findA s.Accounts i).toNat 2)), (60024, .own (rowR 81 4 dasCredential zCredential (accAt s i).Credentials))]⟩
  | 60088 => (match vs, os with | [_, .agg [.val (.int _ x), .val (.int _ m), .own r]], [_, .own d] => some ⟨[], .one (.val undef), [(r, .gone), (20008, .own (.row 52 3 s.Accounts.length (putRow (fun i j => (dasAccount (s.Accounts.getD i zAccount)).getD j (.val undef)) (findA s.Accounts i).toNat [.val (.int .i64 x), .val (.int .i64 m), d])))]⟩ | _, _ => none)
  | _ => none, fun w => w = W⟩
theorem cust_putK {W : World} {id q r n k : Nat} {o : Oper} {x y : Operand} {i m : Int} {el : Nat → Nat → Da} {d : Da} (ho : o.op = .store 52 x y) (hqr : q ≠ r) (hone : ∀ u, d = .val u → u.oneCell' = true) :
    Cust Tryz.prog (fun w => w = W) id o [.one (.elo q 3 k 0), .agg [.val (.int .i64 i), .val (.int .i64 m), .own r]] [.abs (HoleD W.heap.size 52 3 n el k 2), .own d] ⟨[], .one (.val undef), [(r, .gone), (q, .own (.row 52 3 n (putRow el k [.val (.int .i64 i), .val (.int .i64 m), d])))]⟩ :=
  cust_putH (P := Tryz.prog) (f := 2) (cs := [.val (.int .i64 i), .val (.int .i64 m), .own r]) (ds := [.val (.int .i64 i), .val (.int .i64 m), d]) (os := [.own d]) ho (by kernel_rfl) rfl (by decide) (fun obs h => by
    have hr : obs r = .own d := by simpa [ScIds] using h
    refine ⟨rfl, rfl, ?_⟩
    show match obs r with | .own d' => DaEq d' d | _ => False
    rw [hr]
    exact DaEq.refl _) (by simp [csOwn]) (by simpa [csOwn] using hqr) (by simpa [ScIds] using hqr) rfl (fun u hu => by
    simp only [List.mem_cons, List.not_mem_nil, or_false, Da.val.injEq] at hu
    rcases hu with rfl | rfl | h
    · rfl
    · rfl
    · exact hone u h.symm)
theorem conRegF (s : Fx.Site) (i h p : Int) (hn : s.Accounts.length ≤ 16000000) (hc : ∀ a ∈ s.Accounts, a.Credentials.length ≤ 15000000) (hk : ∀ a ∈ s.Accounts, ∀ x ∈ a.Credentials, Credential.ok x) (hb : s.Book.Open.length ≤ 16000000) (hl : s.Logins.length ≤ 16000000) (hz : s.Name.size ≤ 4294967296) (h0 : -9223372036854775808 ≤ h) (h1 : h ≤ 9223372036854775807) (p0 : -9223372036854775808 ≤ p) (p1 : p ≤ 9223372036854775807) (hf : fndB s i = false) : FnCon Tryz.prog 8 ([(true, dasSite s), iV i, iV h, iV p]) ([(true, dasSite s), bV false]) := by
  refine E24.fn_goW (p := fun W => ((FnCon Tryz.prog 24 [(true, (dasSite s))] [(true, dasSite s)]) ∧ ((Cust Tryz.prog (fun w => w = W) 30008 (opOf (Tryz.f8.body.getD Code.skip) 2 1) [AV.one (Sc.val (Value.func (Fn.func 25) { toList := [] } { toList := [] })), AV.one (Sc.ptr 10000 0), AV.one (Sc.val (vI i))] [Ob.var 35 [Sc.val (Value.string s.Name), Sc.own 20008, Sc.val (vI s.Book.Seed), Sc.val (vI s.Book.Next), Sc.own 20009, Sc.own 20010], Ob.own (rowR 52 3 dasAccount zAccount s.Accounts), Ob.own (rowR 67 3 dasChallenge zChallenge s.Book.Open), Ob.own (numR 3 .i64 s.Logins)] { need := [], val := AV.tup [(false, [Sc.val (Value.pointer none)]), (false, [Sc.val (Value.bool false)])], mem := [] }) ∧ ((true = true ∧ (Value.string s.Name = Value.string s.Name ∧ ((DaEq (rowR 52 3 dasAccount zAccount s.Accounts) (rowR 52 3 dasAccount zAccount s.Accounts)) ∧ (vI s.Book.Seed = vI s.Book.Seed ∧ (vI s.Book.Next = vI s.Book.Next ∧ ((DaEq (rowR 67 3 dasChallenge zChallenge s.Book.Open) (rowR 67 3 dasChallenge zChallenge s.Book.Open)) ∧ (DaEq (numR 3 .i64 s.Logins) (numR 3 .i64 s.Logins)))))))) ∧ (false = false ∧ Value.bool false = Value.bool false))))) (fun W => rgC W s i h p ⟨[], .tup [(false, [.val (.pointer none)]), (false, [.val (.bool false)])], []⟩) (noLoops) Tryz.func8 (by kernel_rfl) (by kernel_rfl) (by kernel_rfl) (fun _ => rfl) (by kernel_rfl) ?_
  intro W
  refine ⟨?g0, ?g1, ⟨rfl, rfl, DaEq.refl _, rfl, rfl, DaEq.refl _, DaEq.refl _⟩, rfl, rfl⟩
  all_goals have hc' : ∀ a ∈ s.Accounts, a.Credentials.length ≤ 16000000 := fun a ha => by have := hc a ha; omega
  case g0 => exact conCopyS s hn hc' hb hl
  case g1 => exact cust_accountF rfl rfl rfl (DaEq.refl _) (DaEq.refl _) (DaEq.refl _) hn hc' hk hb hz hf
theorem conRegT (s : Fx.Site) (i h p : Int) (hn : s.Accounts.length ≤ 16000000) (hc : ∀ a ∈ s.Accounts, a.Credentials.length ≤ 15000000) (hk : ∀ a ∈ s.Accounts, ∀ x ∈ a.Credentials, Credential.ok x) (hb : s.Book.Open.length ≤ 16000000) (hl : s.Logins.length ≤ 16000000) (hz : s.Name.size ≤ 4294967296) (h0 : -9223372036854775808 ≤ h) (h1 : h ≤ 9223372036854775807) (p0 : -9223372036854775808 ≤ p) (p1 : p ≤ 9223372036854775807) (hf : fndB s i = true) : FnCon Tryz.prog 8 ([(true, dasSite s), iV i, iV h, iV p]) ([(true, dasSite (regX s i h p)), bV (regB s i h p)]) := by
  refine E24.fn_goW (p := fun W => ((FnCon Tryz.prog 24 [(true, (dasSite s))] [(true, dasSite s)]) ∧ ((Cust Tryz.prog (fun w => w = W) 30008 (opOf (Tryz.f8.body.getD Code.skip) 2 1) [AV.one (Sc.val (Value.func (Fn.func 25) { toList := [] } { toList := [] })), AV.one (Sc.ptr 10000 0), AV.one (Sc.val (vI i))] [Ob.var 35 [Sc.val (Value.string s.Name), Sc.own 20008, Sc.val (vI s.Book.Seed), Sc.val (vI s.Book.Next), Sc.own 20009, Sc.own 20010], Ob.own (rowR 52 3 dasAccount zAccount s.Accounts), Ob.own (rowR 67 3 dasChallenge zChallenge s.Book.Open), Ob.own (numR 3 .i64 s.Logins)] { need := [], val := AV.tup [(false, [Sc.elo 20008 3 (findA s.Accounts i).toNat 0]), (false, [Sc.val (Value.bool true)])], mem := [] }) ∧ ((Cust Tryz.prog (fun w => w = W) 60024 (opOf (Tryz.f8.body.getD Code.skip) 5 3) [AV.one (Sc.elo 20008 3 (findA s.Accounts i).toNat 0)] [Ob.own (rowR 52 3 dasAccount zAccount s.Accounts)] { need := [], val := AV.agg [Sc.val (vI (accAt s i).Id), Sc.val (vI (accAt s i).Minimum), Sc.own 60024], mem := [(20008, Ob.abs (HoleD W.heap.1.length 52 3 s.Accounts.length (fun i j => (dasAccount (s.Accounts.getD i zAccount)).getD j (Da.val undef)) (findA s.Accounts i).toNat 2)), (60024, Ob.own (Da.row 81 4 (accAt s i).Credentials.length fun i_1 j => (dasCredential ((accAt s i).Credentials.getD i_1 zCredential)).getD j (Da.val undef)))] }) ∧ ((FnCon Tryz.prog 26 [(true, [dI ((accAt s i).Id), dI ((accAt s i).Minimum), Da.row 81 4 (accAt s i).Credentials.length fun i_1 j => (dasCredential ((accAt s i).Credentials.getD i_1 zCredential)).getD j (Da.val undef)]), (false, [dI (h)]), (false, [dI (p)])] [(true, dasAccount (addX (accAt s i) h p)), (false, [dB ((addB (accAt s i) h p))])]) ∧ ((Cust Tryz.prog (fun w => w = W) 60088 (opOf (Tryz.f8.body.getD Code.skip) 5 11) [AV.one (Sc.elo 20008 3 (findA s.Accounts i).toNat 0), AV.agg [Sc.val (vI (addX (accAt s i) h p).Id), Sc.val (vI (addX (accAt s i) h p).Minimum), Sc.own 60048]] [Ob.abs (HoleD W.heap.1.length 52 3 s.Accounts.length (fun i j => (dasAccount (s.Accounts.getD i zAccount)).getD j (Da.val undef)) (findA s.Accounts i).toNat 2), Ob.own (Da.row 81 4 (addX (accAt s i) h p).Credentials.length fun i_1 j => (dasCredential ((addX (accAt s i) h p).Credentials.getD i_1 zCredential)).getD j (Da.val undef))]
  { need := [], val := AV.one (Sc.val undef),
    mem :=
      [(60048, Ob.gone),
        (20008,
          Ob.own
            (Da.row 52 3 s.Accounts.length fun a b =>
              match a.beq (findA s.Accounts i).toNat with
              | true => [dI ((addX (accAt s i) h p).Id), dI ((addX (accAt s i) h p).Minimum), Da.row 81 4 (addX (accAt s i) h p).Credentials.length fun i_1 j => (dasCredential ((addX (accAt s i) h p).Credentials.getD i_1 zCredential)).getD j (Da.val undef)].getD b (Da.val undef)
              | false => (dasAccount (s.Accounts.getD a zAccount)).getD b (Da.val undef)))] }) ∧ ((true = true ∧ (Value.string s.Name = Value.string (regX s i h p).Name ∧ ((DaEq
  (Da.row 52 3 s.Accounts.length fun a b =>
    match a.beq (findA s.Accounts i).toNat with
    | true => [dI ((addX (accAt s i) h p).Id), dI ((addX (accAt s i) h p).Minimum), Da.row 81 4 (addX (accAt s i) h p).Credentials.length fun i_1 j => (dasCredential ((addX (accAt s i) h p).Credentials.getD i_1 zCredential)).getD j (Da.val undef)].getD b (Da.val undef)
    | false => (dasAccount (s.Accounts.getD a zAccount)).getD b (Da.val undef))
  (Da.row 52 3 (regX s i h p).Accounts.length fun i_1 j => (dasAccount ((regX s i h p).Accounts.getD i_1 zAccount)).getD j (Da.val undef))) ∧ (vI s.Book.Seed = vI (regX s i h p).Book.Seed ∧ (vI s.Book.Next = vI (regX s i h p).Book.Next ∧ ((DaEq (rowR 67 3 dasChallenge zChallenge s.Book.Open) (Da.row 67 3 (regX s i h p).Book.Open.length fun i_1 j => (dasChallenge ((regX s i h p).Book.Open.getD i_1 zChallenge)).getD j (Da.val undef))) ∧ (DaEq (numR 3 .i64 s.Logins) (Da.row 3 1 (regX s i h p).Logins.length fun i_1 x => dI (((regX s i h p).Logins.getD i_1 0)))))))))) ∧ (false = false ∧ Value.bool (addB (accAt s i) h p) = Value.bool (regB s i h p))))))))) (fun W => rgC W s i h p ⟨[], .tup [(false, [.elo 20008 3 (findA s.Accounts i).toNat 0]), (false, [.val (.bool true)])], []⟩) (noLoops) Tryz.func8 (by kernel_rfl) (by kernel_rfl) (by kernel_rfl) (fun _ => rfl) (by kernel_rfl) ?_
  intro W
  refine ⟨?g0, ?g1, ?g2, ?g3, ?g4, ⟨rfl, congrArg _ ?g5, ?g6, congrArg _ ?g7, congrArg _ ?g8, ?g9, ?g10⟩, rfl, congrArg _ ?g11⟩
  all_goals
    have hc' : ∀ a ∈ s.Accounts, a.Credentials.length ≤ 16000000 := fun a ha => by have := hc a ha; omega
    obtain ⟨e1, e2⟩ := reg_t hf h p
    obtain ⟨_, k, hkf, hkl⟩ := fnd_t hf
    have hmem : accAt s i ∈ s.Accounts := by
      unfold accAt
      rw [hkf, Int.toNat_natCast, List.getD_eq_getElem?_getD, List.getElem?_eq_getElem hkl]
      exact List.getElem_mem hkl
  case g0 => exact conCopyS s hn hc' hb hl
  case g1 => exact cust_accountT rfl rfl rfl (DaEq.refl _) (DaEq.refl _) (DaEq.refl _) hn hc' hk hb hz hf
  case g2 => exact cust_take3 rfl (by kernel_rfl) (by kernel_rfl) (by rw [hkf, Int.toNat_natCast]; exact hkl) rfl rfl rfl
  case g3 => exact C14l.conAdd (accAt s i) h p (by have := hc _ hmem; omega) (hk _ hmem) h0 h1 p0 p1
  case g4 => exact cust_putK rfl (by decide) (fun u hu => by cases hu)
  case g11 => exact e2.symm
  case g6 =>
    rw [e1]
    exact row_to (C15v.row_put (by rw [hkf, Int.toNat_natCast]; exact hkl) (fun j hj => by
      match j, hj with
      | 0, _ | 1, _ | 2, _ => rfl
      | j + 3, hj => omega)) rfl
  all_goals (rw [e1] <;> first | rfl | exact DaEq.refl _)
theorem conReg (s : Fx.Site) (i h p : Int) (hn : s.Accounts.length ≤ 16000000) (hc : ∀ a ∈ s.Accounts, a.Credentials.length ≤ 15000000) (hk : ∀ a ∈ s.Accounts, ∀ x ∈ a.Credentials, Credential.ok x) (hb : s.Book.Open.length ≤ 16000000) (hl : s.Logins.length ≤ 16000000) (hz : s.Name.size ≤ 4294967296) (h0 : -9223372036854775808 ≤ h) (h1 : h ≤ 9223372036854775807) (p0 : -9223372036854775808 ≤ p) (p1 : p ≤ 9223372036854775807) : FnCon Tryz.prog 8 [(true, dasSite s), iV i, iV h, iV p] [(true, dasSite (regX s i h p)), bV (regB s i h p)] := by
  cases hf : fndB s i with
  | true => exact conRegT s i h p hn hc hk hb hl hz h0 h1 p0 p1 hf
  | false =>
    obtain ⟨e1, e2⟩ := reg_f hf h p
    rw [e1, e2]
    exact conRegF s i h p hn hc hk hb hl hz h0 h1 p0 p1 hf
end Go.Proofs.YtllaacdikjffmaaGreat.C15r
