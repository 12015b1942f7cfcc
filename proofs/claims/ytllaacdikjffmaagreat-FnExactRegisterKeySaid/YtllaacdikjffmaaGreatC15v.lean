import Derived.Test.YtllaacdikjffmaaGreatC15t
import Derived.Test.YtllaacdikjffmaaGreatM22
import Derived.Test.YtllaacdikjffmaaGreatC12d
import Derived.Test.YtllaacdikjffmaaGreatC12t
import Derived.Test.YtllaacdikjffmaaGreatAp
import Derived.Deep.DeepCutAuto
namespace Go.Proofs.YtllaacdikjffmaaGreat.C15v
open Go.ChangeShapes Go.WideShapes Go.ChangeAt Go.RowKit
open S0 S1 S9 Dm Fx M8 M12 M13 M18 M21 M22 C3 E0 E1 E2 E3 E7 E9 E10 E15 E16 E17 E18 E19 E20 E26 Das C15s C15t
set_option linter.unusedVariables false
set_option linter.unusedSimpArgs false
set_option maxRecDepth 100000
theorem cust_putA {old : World → Prop} {id q r n k : Nat} {o : Oper} {x y : Operand} {i m : Int} {el : Nat → Nat → Da} {d : Da} (ho : o.op = .store 52 x y) (hqr : q ≠ r) (hone : ∀ u, d = .val u → u.oneCell' = true) :
    Cust Tryz.prog old id o [.one (.elo q 3 k 0), .agg [.val (.int .i64 i), .val (.int .i64 m), .own r]] [.own (.row 52 3 n el), .own d] ⟨[], .one (.val undef), [(r, .gone), (q, .own (.row 52 3 n (putRow el k [.val (.int .i64 i), .val (.int .i64 m), d])))]⟩ :=
  cust_put (P := Tryz.prog) (cs := [.val (.int .i64 i), .val (.int .i64 m), .own r]) (ds := [.val (.int .i64 i), .val (.int .i64 m), d]) (os := [.own d]) ho (by kernel_rfl) rfl (by decide) (fun obs h => by
    have hr : obs r = .own d := by simpa [ScIds] using h
    refine ⟨rfl, rfl, ?_⟩
    show match obs r with | .own d' => DaEq d' d | _ => False
    rw [hr]
    exact DaEq.refl _) (by simp [csOwn]) (by simpa [csOwn] using hqr) rfl (fun u hu => by
    simp only [List.mem_cons, List.not_mem_nil, or_false, Da.val.injEq] at hu
    rcases hu with rfl | rfl | h
    · rfl
    · rfl
    · exact hone u h.symm)
theorem row_put {l : List Ac} {k : Nat} {y : Ac} {ds : List Da} (hk : k < l.length) (h : ∀ j, j < 3 → ds.getD j (.val undef) = (dasAccount y).getD j (.val undef)) : RowOf 3 dasAccount zAccount l.length (putRow (fun i j => (dasAccount (l.getD i zAccount)).getD j (.val undef)) k ds) (l.set k y) :=
  ⟨by rw [List.length_set], fun a ha j hj => by
    unfold putRow
    by_cases e : a = k
    · subst e
      rw [Nat.beq_refl]
      show ds.getD j (.val undef) = _
      have e2 : (l.set a y).getD a zAccount = y := by rw [List.getD_eq_getElem?_getD, List.getElem?_set_self ha]; rfl
      rw [h j hj, e2]
    · have hb : Nat.beq a k = false := by
        cases hb : Nat.beq a k with
        | false => rfl
        | true => exact absurd (Nat.eq_of_beq_eq_true hb) e
      rw [hb]
      show (dasAccount (l.getD a zAccount)).getD j (.val undef) = _
      have e2 : (l.set k y).getD a zAccount = l.getD a zAccount := by rw [List.getD_eq_getElem?_getD, List.getElem?_set_ne (fun h => e h.symm), List.getD_eq_getElem?_getD]
      rw [e2]⟩
noncomputable def rgC (s : Fx.Site) (i h p : Int) : Orc := ⟨fun d f a => match f with
  | 17 => some [(true, dasSite s)]
  | 18 => some [iV (findA s.Accounts i)]
  | 19 => some [bV (vsi s)]
  | 20 => some [(true, dasAccount (addX (accAt s i) h p)), bV (addB (accAt s i) h p)]
  | _ => none, fun id vs os => match id with
  | 70040 => (match vs, os with | [.one (.elo q _ k _), .agg [.val (.int _ i), .val (.int _ m), .own r]], [.own (.row _ _ n el), .own d] => some ⟨[], .one (.val undef), [(r, .gone), (q, .own (.row 52 3 n (putRow el k [.val (.int .i64 i), .val (.int .i64 m), d])))]⟩ | _, _ => none)
  | _ => none, fun _ => True⟩
theorem conReg (s : Fx.Site) (i h p : Int) (hn : s.Accounts.length ≤ 16000000) (hc : ∀ a ∈ s.Accounts, a.Credentials.length ≤ 15000000) (hb : s.Book.Open.length ≤ 16000000) (hl : s.Logins.length ≤ 16000000) (hz : s.Name.size ≤ 4294967296) : FnCon Tryz.prog 6 ([(true, dasSite s), iV i, iV h, iV p]) ([(true, dasSite (regX s i h p)), bV (regB s i h p)]) := by
  refine fn_go (p := ((FnCon Tryz.prog 17 [(true, (dasSite s))] [(true, dasSite s)]) ∧ ((FnCon Tryz.prog 18 [(true, (dasSite s)), (false, [dI (i)])] [(false, [dI ((findA s.Accounts i))])]) ∧ bcase (!vsi s) ((FnCon Tryz.prog 19 [(true, (dasSite s))] [(false, [dB ((vsi s))])]) ∧ ((!vsi s) = true ∧ ((true = true ∧ (Value.string s.Name = Value.string (regX s i h p).Name ∧ ((DaEq (rowR 52 3 dasAccount zAccount s.Accounts) (Da.row 52 3 (regX s i h p).Accounts.length fun i_1 j => (dasAccount ((regX s i h p).Accounts.getD i_1 zAccount)).getD j (Da.val undef))) ∧ (vI s.Book.Seed = vI (regX s i h p).Book.Seed ∧ (vI s.Book.Next = vI (regX s i h p).Book.Next ∧ ((DaEq (rowR 67 3 dasChallenge zChallenge s.Book.Open) (Da.row 67 3 (regX s i h p).Book.Open.length fun i_1 j => (dasChallenge ((regX s i h p).Book.Open.getD i_1 zChallenge)).getD j (Da.val undef))) ∧ (DaEq (numR 3 .i64 s.Logins) (Da.row 3 1 (regX s i h p).Logins.length fun i_1 x => dI (((regX s i h p).Logins.getD i_1 0)))))))))) ∧ (false = false ∧ Value.bool false = Value.bool (regB s i h p))))) ((FnCon Tryz.prog 19 [(true, (dasSite s))] [(false, [dB ((vsi s))])]) ∧ ((!vsi s) = false ∧ bcase (decide (findA s.Accounts i < 0)) ((true = true ∧ (Value.string s.Name = Value.string (regX s i h p).Name ∧ ((DaEq (rowR 52 3 dasAccount zAccount s.Accounts) (Da.row 52 3 (regX s i h p).Accounts.length fun i_1 j => (dasAccount ((regX s i h p).Accounts.getD i_1 zAccount)).getD j (Da.val undef))) ∧ (vI s.Book.Seed = vI (regX s i h p).Book.Seed ∧ (vI s.Book.Next = vI (regX s i h p).Book.Next ∧ ((DaEq (rowR 67 3 dasChallenge zChallenge s.Book.Open) (Da.row 67 3 (regX s i h p).Book.Open.length fun i_1 j => (dasChallenge ((regX s i h p).Book.Open.getD i_1 zChallenge)).getD j (Da.val undef))) ∧ (DaEq (numR 3 .i64 s.Logins) (Da.row 3 1 (regX s i h p).Logins.length fun i_1 x => dI (((regX s i h p).Logins.getD i_1 0)))))))))) ∧ (false = false ∧ Value.bool false = Value.bool (regB s i h p))) ((0 ≤ findA s.Accounts i ∧ findA s.Accounts i < (↑s.Accounts.length : Int)) ∧ ((FnCon Tryz.prog 20 [(true, [dI ((s.Accounts.getD (findA s.Accounts i).toNat zAccount).Id), dI ((s.Accounts.getD (findA s.Accounts i).toNat zAccount).Minimum), Da.row 81 4 (s.Accounts.getD (findA s.Accounts i).toNat zAccount).Credentials.length fun i_1 j => (dasCredential ((s.Accounts.getD (findA s.Accounts i).toNat zAccount).Credentials.getD i_1 zCredential)).getD j (Da.val undef)]), (false, [dI (h)]), (false, [dI (p)])] [(true, dasAccount (addX (accAt s i) h p)), (false, [dB ((addB (accAt s i) h p))])]) ∧ ((0 ≤ findA s.Accounts i ∧ findA s.Accounts i < (↑s.Accounts.length : Int)) ∧ ((Cust Tryz.prog (fun x => True) 70040 (opOf (Tryz.f6.body.getD Code.skip) 6 5) [AV.one (Sc.elo 20008 3 (findA s.Accounts i).toNat 0), AV.agg [Sc.val (vI (addX (accAt s i) h p).Id), Sc.val (vI (addX (accAt s i) h p).Minimum), Sc.own 60056]] [Ob.own (rowR 52 3 dasAccount zAccount s.Accounts), Ob.own (Da.row 81 4 (addX (accAt s i) h p).Credentials.length fun i_1 j => (dasCredential ((addX (accAt s i) h p).Credentials.getD i_1 zCredential)).getD j (Da.val undef))]
  { need := [], val := AV.one (Sc.val undef),
    mem :=
      [(60056, Ob.gone),
        (20008,
          Ob.own
            (Da.row 52 3 s.Accounts.length fun a b =>
              match a.beq (findA s.Accounts i).toNat with
              | true => [dI ((addX (accAt s i) h p).Id), dI ((addX (accAt s i) h p).Minimum), Da.row 81 4 (addX (accAt s i) h p).Credentials.length fun i_1 j => (dasCredential ((addX (accAt s i) h p).Credentials.getD i_1 zCredential)).getD j (Da.val undef)].getD b (Da.val undef)
              | false => (dasAccount (s.Accounts.getD a zAccount)).getD b (Da.val undef)))] }) ∧ ((true = true ∧ (Value.string s.Name = Value.string (regX s i h p).Name ∧ ((DaEq
  (Da.row 52 3 s.Accounts.length fun a b =>
    match a.beq (findA s.Accounts i).toNat with
    | true => [dI ((addX (accAt s i) h p).Id), dI ((addX (accAt s i) h p).Minimum), Da.row 81 4 (addX (accAt s i) h p).Credentials.length fun i_1 j => (dasCredential ((addX (accAt s i) h p).Credentials.getD i_1 zCredential)).getD j (Da.val undef)].getD b (Da.val undef)
    | false => (dasAccount (s.Accounts.getD a zAccount)).getD b (Da.val undef))
  (Da.row 52 3 (regX s i h p).Accounts.length fun i_1 j => (dasAccount ((regX s i h p).Accounts.getD i_1 zAccount)).getD j (Da.val undef))) ∧ (vI s.Book.Seed = vI (regX s i h p).Book.Seed ∧ (vI s.Book.Next = vI (regX s i h p).Book.Next ∧ ((DaEq (rowR 67 3 dasChallenge zChallenge s.Book.Open) (Da.row 67 3 (regX s i h p).Book.Open.length fun i_1 j => (dasChallenge ((regX s i h p).Book.Open.getD i_1 zChallenge)).getD j (Da.val undef))) ∧ (DaEq (numR 3 .i64 s.Logins) (Da.row 3 1 (regX s i h p).Logins.length fun i_1 x => dI (((regX s i h p).Logins.getD i_1 0)))))))))) ∧ (false = false ∧ Value.bool (addB (accAt s i) h p) = Value.bool (regB s i h p)))))))))))) (rgC s i h p) (noLoops) Tryz.func6 (by kernel_rfl) (by kernel_rfl) (by kernel_rfl) (fun _ => trivial) (by kernel_rfl) ?_
  refine ⟨?g0, ?g1, bcase_intro (fun h2 => ⟨?g3, h2, ⟨rfl, congrArg _ ?g4, ?g5, congrArg _ ?g6, congrArg _ ?g7, ?g8, ?g9⟩, rfl, congrArg _ ?g10⟩) (fun h2 => ⟨?g11, h2, bcase_intro (fun h12 => ⟨⟨rfl, congrArg _ ?g13, ?g14, congrArg _ ?g15, congrArg _ ?g16, ?g17, ?g18⟩, rfl, congrArg _ ?g19⟩) (fun h12 => ⟨⟨?g20, ?g21⟩, ?g22, ⟨?g23, ?g24⟩, ?g25, ⟨rfl, congrArg _ ?g26, ?g27, congrArg _ ?g28, congrArg _ ?g29, ?g30, ?g31⟩, rfl, congrArg _ ?g32⟩)⟩)⟩
  all_goals have hc' : ∀ a ∈ s.Accounts, a.Credentials.length ≤ 16000000 := fun a ha => by have := hc a ha; omega
  case g0 => exact C15t.conCopy s hn hc' hb hl
  case g1 => exact C15s.conFnd s i hn
  case g3 | g11 => exact C15s.conVsi s hn hc' hb hz
  case g4 | g5 | g6 | g7 | g8 | g9 | g10 =>
    have e := fnd_f1 (i := i) (show vsi s = false by simpa using h2)
    obtain ⟨e1, e2⟩ := reg_f e h p
    first
      | exact e2.symm
      | (rw [e1] <;> first | rfl | exact DaEq.refl _)
  case g13 | g14 | g15 | g16 | g17 | g18 | g19 =>
    have e := fnd_f2 (of_decide_eq_true h12)
    obtain ⟨e1, e2⟩ := reg_f e h p
    first
      | exact e2.symm
      | (rw [e1] <;> first | rfl | exact DaEq.refl _)
  all_goals
    have h12 := of_decide_eq_false h12
    have hv : vsi s = true := by simpa using h2
    obtain ⟨e1, e2⟩ := reg_t (fnd_y hv h12) h p
    obtain ⟨_, k, hk, hkl⟩ := fnd_t (fnd_y hv h12)
  case g20 | g23 => omega
  case g21 | g24 => omega
  case g22 => exact C14s.conAdd (accAt s i) h p (by
      unfold accAt
      rw [hk, Int.toNat_natCast, List.getD_eq_getElem?_getD, List.getElem?_eq_getElem hkl]
      exact hc _ (List.getElem_mem hkl))
  case g25 => exact cust_putA rfl (by decide) (fun u hu => by cases hu)
  case g32 => exact e2.symm
  case g27 =>
    rw [e1]
    exact row_to (row_put (by rw [hk, Int.toNat_natCast]; exact hkl) (fun j hj => by
      match j, hj with
      | 0, _ | 1, _ | 2, _ => rfl
      | j + 3, hj => omega)) rfl
  all_goals (rw [e1] <;> first | rfl | exact DaEq.refl _)
end Go.Proofs.YtllaacdikjffmaaGreat.C15v
