import Derived.Test.YtllaacdikjffmaaGreatM21
import Derived.Test.YtllaacdikjffmaaGreatC14s
import Derived.Test.YtllaacdikjffmaaGreatC12t
import Derived.Test.YtllaacdikjffmaaGreatBc
import Derived.Test.YtllaacdikjffmaaGreatBa
namespace Go.Proofs.YtllaacdikjffmaaGreat.C15s
open Go.ChangeShapes Go.WideShapes Go.ChangeAt Go.RowKit
open S0 S1 S9 Dm Fx M8 M12 M13 M18 M21 C3 E0 E1 E2 E3 E7 E10 E15 E16 E17 E18 E19 Das
set_option linter.unusedVariables false
set_option linter.unusedSimpArgs false
set_option maxRecDepth 100000
def keepO (qs : List Nat) (obs : Nat → Ob) : List (Nat × Ob) := qs.map fun q => (q, obs q)
/-- A row's data as a list. -/
def unI : Da → Int
  | .val (.int _ x) => x
  | _ => 0
def unB : Da → Bool
  | .val (.bool b) => b
  | _ => false
def unC (n : Nat) (el : Nat → Nat → Da) : List Fx.Credential := (List.range n).map fun i => ⟨unI (el i 0), unI (el i 1), unI (el i 2), unB (el i 3)⟩
theorem unC_of {n : Nat} {el : Nat → Nat → Da} {xs : List Fx.Credential} (h : RowOf 4 dasCredential zCredential n el xs) : unC n el = xs := by
  obtain ⟨h1, h2⟩ := h
  unfold unC
  apply List.ext_getElem (by simp [h1])
  intro i hi hj
  have e := fun j hj => h2 i (by omega) j hj
  have hg : xs.getD i zCredential = xs[i] := by simp [List.getD_eq_getElem?_getD, List.getElem?_eq_getElem hj]
  rw [List.getElem_map, List.getElem_range, e 0 (by omega), e 1 (by omega), e 2 (by omega), e 3 (by omega), hg]
  generalize xs[i] = x
  cases x
  rfl
theorem unC_self (l : List Fx.Credential) : unC l.length (fun i j => (dasCredential (l.getD i zCredential)).getD j (Da.val undef)) = l := unC_of row_self
noncomputable def vacD (i m : Int) (n : Nat) (el : Nat → Nat → Da) : Bool := vac ⟨i, m, unC n el⟩
theorem vacD_is (a : Ac) : vacD a.Id a.Minimum a.Credentials.length (fun i j => (dasCredential (a.Credentials.getD i zCredential)).getD j (Da.val undef)) = vac a := by unfold vacD; rw [unC_self]
theorem vals_owns {w : World} {lo : Nat} : ∀ (us : List Value), OwnsL w lo (us.map Dc.val) us []
  | [] => by simp only [List.map_nil, OwnsL]; exact ⟨trivial, trivial⟩
  | u :: us => by simp only [List.map_cons, OwnsL, Owns]; exact ⟨u, us, [], [], rfl, ⟨rfl, rfl⟩, vals_owns us, rfl⟩
abbrev strR (l : List (List UInt8)) : Da := .row 9 1 l.length (fun i _ => .val (.string (str (l.getD i []))))
theorem strR_dc (l : List (List UInt8)) : (strR l).dc = .row 9 1 l.length ((C9.strs l).map Dc.val) := by
  unfold strR
  simp only [Da.dc]
  congr 1
  apply List.ext_getElem (by simp [C9.strs])
  intro i h1 h2
  have hi : i < l.length := by simpa using h1
  simp [C9.strs, str, List.getElem?_eq_getElem hi]
theorem conLabs (z : ByteArray) (hz : z.size ≤ 4294967296) : FnCon Tryz.prog 75 [sV z] [(false, [strR (split (bts z))])] :=
  con_of_madeD (us := []) (con_enters Tryz.func75 (by kernel_rfl) (by kernel_rfl)) rfl (strR_dc _) fun w v0 k0 => by
    obtain ⟨v1, rfl, k1⟩ := of_valA k0
    obtain rfl := of_nil k1
    refine (C9.specLabs z w hz).mono ?_
    rintro e w' ⟨A, c, rfl, ho, hb⟩
    exact ⟨_, _, rfl, by simp only [Owns]; exact ⟨_, [], Ow.At.of ho, vals_owns _, rfl⟩, by cases A <;> simp [Value.ownBlock], hb⟩
theorem conHost (z : ByteArray) (hz : z.size ≤ 4294967296) : FnCon Tryz.prog 74 [sV z] [bV (host (bts z))] :=
  con_of_plain (con_enters Tryz.func74 (by kernel_rfl) (by kernel_rfl)) rfl fun w v0 k0 => by
    obtain ⟨v1, rfl, k1⟩ := of_valA k0
    obtain rfl := of_nil k1
    exact C9.specHost z w hz
theorem conKey (k : Int) : FnCon Tryz.prog 76 [iV k] [bV (isKey k)] :=
  con_of_plain (con_enters Tryz.func76 (by kernel_rfl) (by kernel_rfl)) rfl fun w v0 k0 => by
    obtain ⟨v1, rfl, k1⟩ := of_valA k0
    obtain rfl := of_nil k1
    exact C3.specValidB w k
abbrev VsX (l : List Ac) : Type := { i : Nat // i ≤ l.length ∧ SeenA l i }
def vsL (l : List Ac) : Loops := fun r _ => match r with
  | 2 => some ⟨VsX l, fun v sl => only [1, 2, 3] 0 (sl.set 3 (.one (.val (vI v.1)))), fun _ obs => keepO [10000] obs, fun v => l.length - v.1⟩
  | _ => none
abbrev FnX (l : List Ac) (h : Int) : Type := { i : Nat // i ≤ l.length ∧ ∀ j, j < i → (l.getD j zAccount).Id ≠ h }
def fnL (l : List Ac) (h : Int) : Loops := fun r _ => match r with
  | 2 => some ⟨FnX l h, fun v sl => only [1, 2, 4, 5] 0 (sl.set 5 (.one (.val (vI v.1)))), fun _ obs => keepO [10000] obs, fun v => l.length - v.1⟩
  | _ => none
noncomputable def vsC (s : Fx.Site) : Orc := callsBy fun d f a => match f with
  | 44 => (match a with | [(_, [.val (.int _ i), .val (.int _ m), .row _ _ n el])] => some [bV (vacD i m n el)] | _ => none)
  | 45 => some [(true, dasSite (newX s.Name s.Book.Seed))]
  | 46 => some [bV (C12b.vbk s.Book)]
  | _ => none
theorem conNew (z : ByteArray) (k : Int) (hz : z.size ≤ 4294967296) : FnCon Tryz.prog 45 ([sV z, iV k]) ([(true, dasSite (newX z k))]) := by
  refine fn_go (p := bcase (!host (bts z)) (FnCon Tryz.prog 74 [(false, [dS (z)])] [(false, [dB ((host (bts z)))])] ∧ ((!host (bts z)) = true ∧ (true = true ∧ (true = true ∧ (Value.string { data := { toList := [] } } = Value.string (newX z k).Name ∧ ((Value.slice none 0 0 = Value.slice none 0 0 ∧ (newX z k).Accounts.length = 0) ∧ (vI 0 = vI (newX z k).Book.Seed ∧ (vI 0 = vI (newX z k).Book.Next ∧ ((Value.slice none 0 0 = Value.slice none 0 0 ∧ (newX z k).Book.Open.length = 0) ∧ (Value.slice none 0 0 = Value.slice none 0 0 ∧ (newX z k).Logins.length = 0)))))))))) (bcase (decide ((↑(split (bts z)).length : Int) < 2)) (FnCon Tryz.prog 74 [(false, [dS (z)])] [(false, [dB ((host (bts z)))])] ∧ ((!host (bts z)) = false ∧ (FnCon Tryz.prog 75 [(false, [dS (z)])] [(false, [strR (split (bts z))])] ∧ (decide ((↑(split (bts z)).length : Int) < 2) = true ∧ (true = true ∧ (Value.string { data := { toList := [] } } = Value.string (newX z k).Name ∧ ((Value.slice none 0 0 = Value.slice none 0 0 ∧ (newX z k).Accounts.length = 0) ∧ (vI 0 = vI (newX z k).Book.Seed ∧ (vI 0 = vI (newX z k).Book.Next ∧ ((Value.slice none 0 0 = Value.slice none 0 0 ∧ (newX z k).Book.Open.length = 0) ∧ (Value.slice none 0 0 = Value.slice none 0 0 ∧ (newX z k).Logins.length = 0))))))))))) (FnCon Tryz.prog 74 [(false, [dS (z)])] [(false, [dB ((host (bts z)))])] ∧ ((!host (bts z)) = false ∧ (FnCon Tryz.prog 75 [(false, [dS (z)])] [(false, [strR (split (bts z))])] ∧ (decide ((↑(split (bts z)).length : Int) < 2) = false ∧ (FnCon Tryz.prog 76 [(false, [dI (k)])] [(false, [dB ((isKey k))])] ∧ bcase (!isKey k) (true = true ∧ (Value.string { data := { toList := [] } } = Value.string (newX z k).Name ∧ ((Value.slice none 0 0 = Value.slice none 0 0 ∧ (newX z k).Accounts.length = 0) ∧ (vI 0 = vI (newX z k).Book.Seed ∧ (vI 0 = vI (newX z k).Book.Next ∧ ((Value.slice none 0 0 = Value.slice none 0 0 ∧ (newX z k).Book.Open.length = 0) ∧ (Value.slice none 0 0 = Value.slice none 0 0 ∧ (newX z k).Logins.length = 0))))))) (true = true ∧ (Value.string z = Value.string (newX z k).Name ∧ ((Value.slice none 0 0 = Value.slice none 0 0 ∧ (newX z k).Accounts.length = 0) ∧ (vI k = vI (newX z k).Book.Seed ∧ (vI 0 = vI (newX z k).Book.Next ∧ ((Value.slice none 0 0 = Value.slice none 0 0 ∧ (newX z k).Book.Open.length = 0) ∧ (Value.slice none 0 0 = Value.slice none 0 0 ∧ (newX z k).Logins.length = 0)))))))))))))) (callsBy fun d f a => match f with | 74 => some [bV (host (bts z))] | 75 => some [(false, [strR (split (bts z))])] | 76 => some [bV (isKey k)] | _ => none) (noLoops) Tryz.func45 (by kernel_rfl) (by kernel_rfl) (by kernel_rfl) (fun _ => trivial) (by kernel_rfl) ?_
  refine bcase_intro (fun h0 => ⟨(conHost z hz), h0, rfl, rfl, congrArg _ ?g2, ⟨rfl, ?g3⟩, congrArg _ ?g4, congrArg _ ?g5, ⟨rfl, ?g6⟩, rfl, ?g7⟩) (fun h0 => bcase_intro (fun h8 => ⟨(conHost z hz), h0, (conLabs z hz), h8, rfl, congrArg _ ?g11, ⟨rfl, ?g12⟩, congrArg _ ?g13, congrArg _ ?g14, ⟨rfl, ?g15⟩, rfl, ?g16⟩) (fun h8 => ⟨(conHost z hz), h0, (conLabs z hz), h8, (conKey k), bcase_intro (fun h20 => ⟨rfl, congrArg _ ?g21, ⟨rfl, ?g22⟩, congrArg _ ?g23, congrArg _ ?g24, ⟨rfl, ?g25⟩, rfl, ?g26⟩) (fun h20 => ⟨rfl, congrArg _ ?g27, ⟨rfl, ?g28⟩, congrArg _ ?g29, congrArg _ ?g30, ⟨rfl, ?g31⟩, rfl, ?g32⟩)⟩))
  case g2 | g3 | g4 | g5 | g6 | g7 => rw [newX_f (acp_f1 (by simpa using h0))] <;> rfl
  case g11 | g12 | g13 | g14 | g15 | g16 => rw [newX_f (acp_f2 (by have := of_decide_eq_true h8; omega))] <;> rfl
  case g21 | g22 | g23 | g24 | g25 | g26 => rw [newX_f (acp_f3 (by simpa using h20))] <;> rfl
  case g27 | g28 | g29 | g30 | g31 | g32 => rw [newX_t (acp_t (by simpa using h0) (by have := of_decide_eq_false h8; omega) (by simpa using h20))] <;> rfl
theorem conFnd (s : Fx.Site) (h : Int) (hn : s.Accounts.length ≤ 16000000) : FnCon Tryz.prog 18 ([(true, dasSite s), iV h]) ([iV (findA s.Accounts h)]) := by
  refine fn_go (p := ((∃ x0 : FnX s.Accounts h, ((vI h = vI h ∧ ((some 10000 = some 10000 ∧ 0 = 0) ∧ (vI 0 = vI 0 ∧ (vI 0 = vI (↑x0.1 : Int) ∧ True)))) ∧ ((35 = 35 ∧ (Value.string s.Name = Value.string s.Name ∧ ((DaEq (rowR 52 3 dasAccount zAccount s.Accounts) (rowR 52 3 dasAccount zAccount s.Accounts)) ∧ (vI s.Book.Seed = vI s.Book.Seed ∧ (vI s.Book.Next = vI s.Book.Next ∧ ((DaEq (rowR 67 3 dasChallenge zChallenge s.Book.Open) (rowR 67 3 dasChallenge zChallenge s.Book.Open)) ∧ (DaEq (numR 3 .i64 s.Logins) (numR 3 .i64 s.Logins)))))))) ∧ True))) ∧ (∀ v : FnX s.Accounts h, bcase (decide ((↑v.1 : Int) < (↑s.Accounts.length : Int))) ((0 ≤ (↑v.1 : Int) ∧ (↑v.1 : Int) < (↑s.Accounts.length : Int)) ∧ bcase ((s.Accounts.getD (↑v.1 : Int).toNat zAccount).Id == h) (false = false ∧ vI (↑v.1 : Int) = vI (findA s.Accounts h)) (∃ v' : FnX s.Accounts h, (s.Accounts.length.sub v'.1 < s.Accounts.length.sub v.1 ∧ ((vI h = vI h ∧ ((some 10000 = some 10000 ∧ 0 = 0) ∧ (vI 0 = vI 0 ∧ (vI (IntKind.i64.wrap ((↑v.1 : Int) + 1)) = vI (↑v'.1 : Int) ∧ True)))) ∧ ((35 = 35 ∧ (Value.string s.Name = Value.string s.Name ∧ ((DaEq (rowR 52 3 dasAccount zAccount s.Accounts) (rowR 52 3 dasAccount zAccount s.Accounts)) ∧ (vI s.Book.Seed = vI s.Book.Seed ∧ (vI s.Book.Next = vI s.Book.Next ∧ ((DaEq (rowR 67 3 dasChallenge zChallenge s.Book.Open) (rowR 67 3 dasChallenge zChallenge s.Book.Open)) ∧ (DaEq (numR 3 .i64 s.Logins) (numR 3 .i64 s.Logins)))))))) ∧ True))))) (false = false ∧ vI (-1) = vI (findA s.Accounts h))))) (noCalls) (fnL s.Accounts h) Tryz.func18 (by kernel_rfl) (by kernel_rfl) (by kernel_rfl) (fun _ => trivial) (by kernel_rfl) ?_
  refine ⟨⟨⟨0, Nat.zero_le _, fun j h => absurd h (Nat.not_lt_zero _)⟩, ⟨⟨rfl, ⟨rfl, rfl⟩, rfl, congrArg _ ?g1, trivial⟩, ⟨rfl, rfl, DaEq.refl _, rfl, rfl, DaEq.refl _, DaEq.refl _⟩, trivial⟩⟩, fun v => bcase_intro (fun h2 => ⟨⟨?g3, ?g4⟩, bcase_intro (fun h5 => ⟨rfl, congrArg _ ?g6⟩) (fun h5 => ⟨⟨v.1 + 1, ?wa, ?wb⟩, ⟨?g8, ⟨rfl, ⟨rfl, rfl⟩, rfl, congrArg _ ?g9, trivial⟩, ⟨rfl, rfl, DaEq.refl _, rfl, rfl, DaEq.refl _, DaEq.refl _⟩, trivial⟩⟩)⟩) (fun h2 => ⟨rfl, congrArg _ ?g10⟩)⟩
  case g1 => rfl
  case g10 =>
    have h2 := of_decide_eq_false h2
    exact (findA_no fun j hj => v.2.2 j (by omega)).symm
  all_goals have h2 := of_decide_eq_true h2
  case g3 | g4 => omega
  all_goals simp only [Int.toNat_natCast] at h5
  case g6 => exact (findA_at (by omega) v.2.2 (by simpa using h5)).symm
  case wa => omega
  case wb =>
    intro j hj
    rcases Nat.lt_or_ge j v.1 with h | h
    · exact v.2.2 j h
    · obtain rfl : j = v.1 := by omega
      simpa using h5
  case g8 => show s.Accounts.length - (v.1 + 1) < s.Accounts.length - v.1; omega
  case g9 => show IntKind.i64.wrap ((v.1 : Int) + 1) = ((v.1 + 1 : Nat) : Int); rw [IntWalk.i64_in _ (by omega)]; rfl
theorem conVsi (s : Fx.Site) (hn : s.Accounts.length ≤ 16000000) (hc : ∀ a ∈ s.Accounts, a.Credentials.length ≤ 16000000) (hb : s.Book.Open.length ≤ 16000000) (hz : s.Name.size ≤ 4294967296) : FnCon Tryz.prog 19 ([(true, dasSite s)]) ([bV (vsi s)]) := by
  refine fn_go (p := ((∃ x0 : VsX s.Accounts, (((some 10000 = some 10000 ∧ 0 = 0) ∧ (Value.bool false = Value.bool false ∧ (vI 0 = vI (↑x0.1 : Int) ∧ True))) ∧ ((35 = 35 ∧ (Value.string s.Name = Value.string s.Name ∧ ((DaEq (rowR 52 3 dasAccount zAccount s.Accounts) (rowR 52 3 dasAccount zAccount s.Accounts)) ∧ (vI s.Book.Seed = vI s.Book.Seed ∧ (vI s.Book.Next = vI s.Book.Next ∧ ((DaEq (rowR 67 3 dasChallenge zChallenge s.Book.Open) (rowR 67 3 dasChallenge zChallenge s.Book.Open)) ∧ (DaEq (numR 3 .i64 s.Logins) (numR 3 .i64 s.Logins)))))))) ∧ True))) ∧ (∀ v : VsX s.Accounts, bcase (decide ((↑v.1 : Int) < (↑s.Accounts.length : Int))) (bcase (!vacD (s.Accounts.getD (↑v.1 : Int).toNat zAccount).Id (s.Accounts.getD (↑v.1 : Int).toNat zAccount).Minimum (s.Accounts.getD (↑v.1 : Int).toNat zAccount).Credentials.length fun i j => (dasCredential ((s.Accounts.getD (↑v.1 : Int).toNat zAccount).Credentials.getD i zCredential)).getD j (Da.val undef)) ((0 ≤ (↑v.1 : Int) ∧ (↑v.1 : Int) < (↑s.Accounts.length : Int)) ∧ ((FnCon Tryz.prog 44 [(true, [dI ((s.Accounts.getD (↑v.1 : Int).toNat zAccount).Id), dI ((s.Accounts.getD (↑v.1 : Int).toNat zAccount).Minimum), Da.row 81 4 (s.Accounts.getD (↑v.1 : Int).toNat zAccount).Credentials.length fun i j => (dasCredential ((s.Accounts.getD (↑v.1 : Int).toNat zAccount).Credentials.getD i zCredential)).getD j (Da.val undef)])] [(false, [dB ((vacD (s.Accounts.getD (↑v.1 : Int).toNat zAccount).Id (s.Accounts.getD (↑v.1 : Int).toNat zAccount).Minimum (s.Accounts.getD (↑v.1 : Int).toNat zAccount).Credentials.length fun i j => (dasCredential ((s.Accounts.getD (↑v.1 : Int).toNat zAccount).Credentials.getD i zCredential)).getD j (Da.val undef)))])]) ∧ (((!vacD (s.Accounts.getD (↑v.1 : Int).toNat zAccount).Id (s.Accounts.getD (↑v.1 : Int).toNat zAccount).Minimum (s.Accounts.getD (↑v.1 : Int).toNat zAccount).Credentials.length fun i j => (dasCredential ((s.Accounts.getD (↑v.1 : Int).toNat zAccount).Credentials.getD i zCredential)).getD j (Da.val undef)) = true) ∧ (false = false ∧ Value.bool false = Value.bool (vsi s))))) (bcase (decide ((↑v.1 : Int) > 0)) ((0 ≤ (↑v.1 : Int) ∧ (↑v.1 : Int) < (↑s.Accounts.length : Int)) ∧ ((FnCon Tryz.prog 44 [(true, [dI ((s.Accounts.getD (↑v.1 : Int).toNat zAccount).Id), dI ((s.Accounts.getD (↑v.1 : Int).toNat zAccount).Minimum), Da.row 81 4 (s.Accounts.getD (↑v.1 : Int).toNat zAccount).Credentials.length fun i j => (dasCredential ((s.Accounts.getD (↑v.1 : Int).toNat zAccount).Credentials.getD i zCredential)).getD j (Da.val undef)])] [(false, [dB ((vacD (s.Accounts.getD (↑v.1 : Int).toNat zAccount).Id (s.Accounts.getD (↑v.1 : Int).toNat zAccount).Minimum (s.Accounts.getD (↑v.1 : Int).toNat zAccount).Credentials.length fun i j => (dasCredential ((s.Accounts.getD (↑v.1 : Int).toNat zAccount).Credentials.getD i zCredential)).getD j (Da.val undef)))])]) ∧ (((!vacD (s.Accounts.getD (↑v.1 : Int).toNat zAccount).Id (s.Accounts.getD (↑v.1 : Int).toNat zAccount).Minimum (s.Accounts.getD (↑v.1 : Int).toNat zAccount).Credentials.length fun i j => (dasCredential ((s.Accounts.getD (↑v.1 : Int).toNat zAccount).Credentials.getD i zCredential)).getD j (Da.val undef)) = false) ∧ (decide ((↑v.1 : Int) > 0) = true ∧ ((0 ≤ IntKind.i64.wrap ((↑v.1 : Int) - 1) ∧ IntKind.i64.wrap ((↑v.1 : Int) - 1) < (↑s.Accounts.length : Int)) ∧ ((0 ≤ (↑v.1 : Int) ∧ (↑v.1 : Int) < (↑s.Accounts.length : Int)) ∧ bcase (decide ((s.Accounts.getD (IntKind.i64.wrap ((↑v.1 : Int) - 1)).toNat zAccount).Id ≥ (s.Accounts.getD (↑v.1 : Int).toNat zAccount).Id)) (false = false ∧ Value.bool false = Value.bool (vsi s)) (∃ v' : VsX s.Accounts, (s.Accounts.length.sub v'.1 < s.Accounts.length.sub v.1 ∧ (((some 10000 = some 10000 ∧ 0 = 0) ∧ (Value.bool false = Value.bool false ∧ (vI (IntKind.i64.wrap ((↑v.1 : Int) + 1)) = vI (↑v'.1 : Int) ∧ True))) ∧ ((35 = 35 ∧ (Value.string s.Name = Value.string s.Name ∧ ((DaEq (rowR 52 3 dasAccount zAccount s.Accounts) (rowR 52 3 dasAccount zAccount s.Accounts)) ∧ (vI s.Book.Seed = vI s.Book.Seed ∧ (vI s.Book.Next = vI s.Book.Next ∧ ((DaEq (rowR 67 3 dasChallenge zChallenge s.Book.Open) (rowR 67 3 dasChallenge zChallenge s.Book.Open)) ∧ (DaEq (numR 3 .i64 s.Logins) (numR 3 .i64 s.Logins)))))))) ∧ True)))))))))) ((0 ≤ (↑v.1 : Int) ∧ (↑v.1 : Int) < (↑s.Accounts.length : Int)) ∧ ((FnCon Tryz.prog 44 [(true, [dI ((s.Accounts.getD (↑v.1 : Int).toNat zAccount).Id), dI ((s.Accounts.getD (↑v.1 : Int).toNat zAccount).Minimum), Da.row 81 4 (s.Accounts.getD (↑v.1 : Int).toNat zAccount).Credentials.length fun i j => (dasCredential ((s.Accounts.getD (↑v.1 : Int).toNat zAccount).Credentials.getD i zCredential)).getD j (Da.val undef)])] [(false, [dB ((vacD (s.Accounts.getD (↑v.1 : Int).toNat zAccount).Id (s.Accounts.getD (↑v.1 : Int).toNat zAccount).Minimum (s.Accounts.getD (↑v.1 : Int).toNat zAccount).Credentials.length fun i j => (dasCredential ((s.Accounts.getD (↑v.1 : Int).toNat zAccount).Credentials.getD i zCredential)).getD j (Da.val undef)))])]) ∧ (((!vacD (s.Accounts.getD (↑v.1 : Int).toNat zAccount).Id (s.Accounts.getD (↑v.1 : Int).toNat zAccount).Minimum (s.Accounts.getD (↑v.1 : Int).toNat zAccount).Credentials.length fun i j => (dasCredential ((s.Accounts.getD (↑v.1 : Int).toNat zAccount).Credentials.getD i zCredential)).getD j (Da.val undef)) = false) ∧ (decide ((↑v.1 : Int) > 0) = false ∧ (∃ v' : VsX s.Accounts, (s.Accounts.length.sub v'.1 < s.Accounts.length.sub v.1 ∧ (((some 10000 = some 10000 ∧ 0 = 0) ∧ (Value.bool false = Value.bool false ∧ (vI (IntKind.i64.wrap ((↑v.1 : Int) + 1)) = vI (↑v'.1 : Int) ∧ True))) ∧ ((35 = 35 ∧ (Value.string s.Name = Value.string s.Name ∧ ((DaEq (rowR 52 3 dasAccount zAccount s.Accounts) (rowR 52 3 dasAccount zAccount s.Accounts)) ∧ (vI s.Book.Seed = vI s.Book.Seed ∧ (vI s.Book.Next = vI s.Book.Next ∧ ((DaEq (rowR 67 3 dasChallenge zChallenge s.Book.Open) (rowR 67 3 dasChallenge zChallenge s.Book.Open)) ∧ (DaEq (numR 3 .i64 s.Logins) (numR 3 .i64 s.Logins)))))))) ∧ True)))))))))) (bcase (!(newX s.Name s.Book.Seed).Name.toList == []) (bcase (decide ((↑s.Accounts.length : Int) ≤ 8)) (FnCon Tryz.prog 45 [(false, [dS (s.Name)]), (false, [dI (s.Book.Seed)])] [(true, dasSite (newX s.Name s.Book.Seed))] ∧ ((!(newX s.Name s.Book.Seed).Name.toList == []) = true ∧ (decide ((↑s.Accounts.length : Int) ≤ 8) = true ∧ ((FnCon Tryz.prog 46 [(true, [dI (s.Book.Seed), dI (s.Book.Next), rowR 67 3 dasChallenge zChallenge s.Book.Open])] [(false, [dB ((C12b.vbk s.Book))])]) ∧ (false = false ∧ Value.bool (C12b.vbk s.Book) = Value.bool (vsi s)))))) (FnCon Tryz.prog 45 [(false, [dS (s.Name)]), (false, [dI (s.Book.Seed)])] [(true, dasSite (newX s.Name s.Book.Seed))] ∧ ((!(newX s.Name s.Book.Seed).Name.toList == []) = true ∧ (decide ((↑s.Accounts.length : Int) ≤ 8) = false ∧ (false = false ∧ Value.bool false = Value.bool (vsi s)))))) (FnCon Tryz.prog 45 [(false, [dS (s.Name)]), (false, [dI (s.Book.Seed)])] [(true, dasSite (newX s.Name s.Book.Seed))] ∧ ((!(newX s.Name s.Book.Seed).Name.toList == []) = false ∧ (false = false ∧ (false = false ∧ Value.bool false = Value.bool (vsi s))))))))) (vsC s) (vsL s.Accounts) Tryz.func19 (by kernel_rfl) (by kernel_rfl) (by kernel_rfl) (fun _ => trivial) (by kernel_rfl) ?_
  refine ⟨⟨⟨0, Nat.zero_le _, SeenA.zero _⟩, ⟨⟨⟨rfl, rfl⟩, rfl, congrArg _ ?g1, trivial⟩, ⟨rfl, rfl, DaEq.refl _, rfl, rfl, DaEq.refl _, DaEq.refl _⟩, trivial⟩⟩, fun v => bcase_intro (fun h2 => bcase_intro (fun h3 => ⟨⟨?g4, ?g5⟩, ?g6, h3, rfl, congrArg _ ?g7⟩) (fun h3 => bcase_intro (fun h8 => ⟨⟨?g9, ?g10⟩, ?g11, h3, h8, ⟨?g12, ?g13⟩, ⟨?g14, ?g15⟩, bcase_intro (fun h16 => ⟨rfl, congrArg _ ?g17⟩) (fun h16 => ⟨⟨v.1 + 1, ?wa, ?wb⟩, ⟨?g19, ⟨⟨rfl, rfl⟩, rfl, congrArg _ ?g20, trivial⟩, ⟨rfl, rfl, DaEq.refl _, rfl, rfl, DaEq.refl _, DaEq.refl _⟩, trivial⟩⟩)⟩) (fun h8 => ⟨⟨?g21, ?g22⟩, ?g23, h3, h8, ⟨⟨v.1 + 1, ?wc, ?wd⟩, ⟨?g25, ⟨⟨rfl, rfl⟩, rfl, congrArg _ ?g26, trivial⟩, ⟨rfl, rfl, DaEq.refl _, rfl, rfl, DaEq.refl _, DaEq.refl _⟩, trivial⟩⟩⟩))) (fun h2 => bcase_intro (fun h27 => bcase_intro (fun h28 => ⟨(conNew _ _ hz), h27, h28, (T12s.conVbk _ hb), rfl, congrArg _ ?g31⟩) (fun h28 => ⟨(conNew _ _ hz), h27, h28, rfl, congrArg _ ?g33⟩)) (fun h27 => ⟨(conNew _ _ hz), h27, rfl, rfl, congrArg _ ?g35⟩))⟩
  case g1 => rfl
  case g6 | g11 | g23 =>
    have h := C14s.conVac (s.Accounts.getD (v.1 : Int).toNat zAccount) (cr_le hc _)
    rw [← vacD_is] at h
    exact h
  case g31 =>
    have h2 := of_decide_eq_false h2
    rw [new_name] at h27
    have he : v.1 = s.Accounts.length := by
      have := v.2.1
      omega
    have hs : okAs s.Accounts = true := okAs_t (by rw [← he]; exact v.2.2)
    have h28 := of_decide_eq_true h28
    unfold vsi vas
    rw [show acpB s.Name s.Book.Seed = true by simpa using h27, hs, decide_eq_true (by omega)]
    rfl
  case g33 =>
    have h28 := of_decide_eq_false h28
    unfold vsi vas
    rw [decide_eq_false (show ¬ s.Accounts.length ≤ 8 by omega)]
    simp
  case g35 =>
    rw [new_name] at h27
    unfold vsi
    rw [show acpB s.Name s.Book.Seed = false by simpa using h27]
    rfl
  all_goals
    have hl : v.1 < s.Accounts.length := by have := of_decide_eq_true h2; omega
    have htn : (↑v.1 : Int).toNat = v.1 := Int.toNat_natCast _
    rw [vacD_is, htn] at h3
  case g4 | g5 | g9 | g10 | g14 | g15 | g21 | g22 => omega
  case g12 | g13 => have h8 := of_decide_eq_true h8; rw [IntWalk.i64_in _ (by omega)]; omega
  case g7 =>
    unfold vsi vas
    rw [okAs_f hl fun g => by have := g.vac; rw [this] at h3; cases h3]
    simp
  case g17 =>
    have h8 := of_decide_eq_true h8
    have h16 := of_decide_eq_true h16
    rw [IntWalk.i64_in _ (by omega), htn, show ((↑v.1 : Int) - 1).toNat = v.1 - 1 by omega] at h16
    unfold vsi vas
    rw [okAs_f hl fun g => by have := g.up (by omega); omega]
    simp
  case g19 | g25 => show s.Accounts.length - (v.1 + 1) < s.Accounts.length - v.1; omega
  case g20 | g26 => show IntKind.i64.wrap ((v.1 : Int) + 1) = ((v.1 + 1 : Nat) : Int); rw [IntWalk.i64_in _ (by omega)]; rfl
  case wa | wc => omega
  case wb =>
    have h8 := of_decide_eq_true h8
    have h16 := of_decide_eq_false h16
    rw [IntWalk.i64_in _ (by omega), htn, show ((↑v.1 : Int) - 1).toNat = v.1 - 1 by omega] at h16
    exact v.2.2.next ⟨by simpa using h3, fun _ => by omega⟩
  case wd =>
    have h8 := of_decide_eq_false h8
    exact v.2.2.next ⟨by simpa using h3, fun _ => by omega⟩
end Go.Proofs.YtllaacdikjffmaaGreat.C15s
