import Derived.Test.YtpfjfnlefeocnaaDr7
import Derived.Test.YtpfjfnlefeocnaaC14l
namespace Go.Proofs.Ytpfjfnlefeocnaa.L14
open Go.ChangeShapes Go.WideShapes Go.ChangeAt Go.RowKit
open S0 S1 S9 Dm Fx M8 M18 C14l E0 E1 E2 E3 E4 E7 E10 E15 E16 E17 E18 E19 E20 E22 E23 Das Dr
set_option linter.unusedVariables false
set_option linter.unusedSimpArgs false
set_option maxRecDepth 100000
set_option maxHeartbeats 4000000
def okL (l : List Cr) : Prop := ∀ x ∈ l, Credential.ok x
theorem z_ok : Credential.ok zCredential := ⟨by decide, by decide, by decide, trivial⟩
theorem okL.at {l : List Cr} (h : okL l) (k : Nat) : Credential.ok (l.getD k zCredential) := by
  rw [List.getD_eq_getElem?_getD]
  rcases Nat.lt_or_ge k l.length with hk | hk
  · rw [List.getElem?_eq_getElem hk]; exact h _ (List.getElem_mem hk)
  · rw [List.getElem?_eq_none hk]; exact z_ok
theorem okL.set {l : List Cr} (h : okL l) (k : Nat) {y : Cr} (hy : Credential.ok y) : okL (l.set k y) := fun x hx => by
  rcases List.mem_or_eq_of_mem_set hx with h1 | rfl
  · exact h x h1
  · exact hy
theorem okL.cut {a : Fx.Account} (h : okL a.Credentials) (k : Int) : okL (cutX a k).Credentials := by
  cases e : cutB a k with
  | false => rw [cutX_f e]; exact h
  | true => rw [cutX_t e]; exact okL.set h _ ⟨(h.at _).Handle, (h.at _).Public, (h.at _).Counter, trivial⟩
theorem okL.add {a : Fx.Account} (h : okL a.Credentials) {k p : Int} (hk : -9223372036854775808 ≤ k ∧ k ≤ 9223372036854775807) (hp : -9223372036854775808 ≤ p ∧ p ≤ 9223372036854775807) : okL (addX a k p).Credentials := by
  cases e : addB a k p with
  | false => rw [addX_f e]; exact h
  | true => rw [add_cr e]; exact ins_ok h ⟨hk, hp, ⟨by show (-9223372036854775808 : Int) ≤ 0; decide, by show (0 : Int) ≤ 9223372036854775807; decide⟩, trivial⟩
theorem pub_bd (k : Int) : -9223372036854775808 ≤ pub k ∧ pub k ≤ 9223372036854775807 := by have := pub_in k; omega
theorem bel_bd (xs : List Int) (n : Int) (s : Cu) (h0 : 0 < n) (h1 : n ≤ 100000) : -9223372036854775808 ≤ belV xs n s ∧ belV xs n s ≤ 9223372036854775807 := by have := belV_bd xs (n := n) s h0; omega
theorem okL.pass {xs : List Int} {z : ByteArray} {y : AS} (h : okL y.a.Credentials) : okL (pass xs z y).a.Credentials := by
  have h1 : okL (passA xs z y).a.Credentials := by
    cases e : addB y.a (passH xs y) (passP xs z y) with
    | false => rw [passA_f e]; exact h
    | true =>
      rw [passA_t e]
      have h2 : okL (addX y.a (passH xs y) (passP xs z y)).Credentials := okL.add h (stH_bd _ _ _) (pub_bd _)
      exact okL.set h2 _ ⟨(h2.at _).Handle, (h2.at _).Public, bel_bd xs 5 _ (by decide) (by decide), trivial⟩
  cases e : (belV xs 5 (passA xs z y).s == 0) with
  | true => rw [pass_t e]; exact okL.cut h1 _
  | false => rw [pass_f e]; exact h1
theorem okL.run {xs : List Int} {z : ByteArray} : ∀ {n : Nat} {y : AS}, okL y.a.Credentials → okL (runA xs z n y).a.Credentials
  | 0, _, h => h
  | n + 1, y, h => okL.run (n := n) (okL.pass h)
theorem okL.acc (xs : List Int) (z : ByteArray) (s : Cu) : okL (accA xs z s).Credentials := okL.run (n := (as0 xs s).n) (y := as0 xs s) (fun x hx => by cases hx)
theorem lit_bd {l : List Int} (h : ∀ x ∈ l, -9223372036854775808 ≤ x ∧ x ≤ 9223372036854775807) (k : Nat) : -9223372036854775808 ≤ l.getD k 0 ∧ l.getD k 0 ≤ 9223372036854775807 := by
  rw [List.getD_eq_getElem?_getD]
  rcases Nat.lt_or_ge k l.length with hk | hk
  · rw [List.getElem?_eq_getElem hk]; exact h _ (List.getElem_mem hk)
  · rw [List.getElem?_eq_none hk]; decide
theorem okL.any (xs : List Int) (s : Cu) : okL (anA xs s).Credentials := by
  have h := okL.acc xs BANK s
  unfold anA
  split
  · exact h
  · split
    · exact h
    · split
      · intro x hx
        rcases List.mem_append.1 hx with h1 | h1
        · exact h x h1
        · rw [List.mem_singleton.1 h1]
          exact ⟨wr_bd _, lit_bd (by decide) _, lit_bd (by decide) _, trivial⟩
      · exact h
theorem an_len {xs : List Int} {s : Cu} (k : OkC xs s) : (anA xs s).Credentials.length ≤ 4 := by
  have h := (acc_len (z := BANK) k).1
  unfold anA
  split
  · show (accA xs BANK s).Credentials.length ≤ 4; omega
  · split
    · show (accA xs BANK s).Credentials.length ≤ 4; omega
    · split
      · show ((accA xs BANK s).Credentials ++ [anC xs s]).length ≤ 4; rw [List.length_append]; simp; omega
      · omega
theorem drA_ok (xs : List Int) : okL (drA xs).Credentials := okL.any _ _
theorem drA_len {xs : List Int} (hx : xs.length ≤ 1048576) : (drA xs).Credentials.length ≤ 4 := an_len (start_ok (by omega))
theorem drH_bd (xs : List Int) : -9223372036854775808 ≤ drH xs ∧ drH xs ≤ 9223372036854775807 := lit_bd (by decide) _
theorem drP_bd (xs : List Int) : -9223372036854775808 ≤ drP xs ∧ drP xs ≤ 9223372036854775807 := by
  unfold drP
  split
  · split
    · exact ((drA_ok xs).at 0).Public
    · exact pub_bd _
  · exact pub_bd _
theorem tmod_bd (x : Int) : -9223372036854775808 ≤ x.tmod 999 ∧ x.tmod 999 ≤ 9223372036854775807 := by
  have h := Int.natAbs_tmod x 999
  have h2 : x.natAbs % (999 : Int).natAbs < 999 := Nat.mod_lt _ (by decide)
  omega
theorem conBig (xs : List Int) (hx : xs.length ≤ 1048576) : FnCon Try.prog 11 ([(false, [numR 5 .u8 xs])]) ([bV false]) := by
  refine fn_go (p := (false = false ∧ Value.bool (decide ((↑xs.length : Int) > 1048576)) = Value.bool false)) (noCalls) (noLoops) Try.func11 (by kernel_rfl) (by kernel_rfl) (by kernel_rfl) (fun _ => trivial) (by kernel_rfl) ?_
  refine ⟨rfl, congrArg _ ?g0⟩
  case g0 => exact decide_eq_false (by omega)
theorem conT (xs : List Int) (hx : xs.length ≤ 1048576) (e : addB (drA xs) (drH xs) (drP xs) = true) : FnCon Try.prog 3 ([(false, [numR 5 .u8 xs])]) ([bV true]) := by
  refine fn_go (p := ((FnCon Try.prog 11 [(false, [Da.row 5 1 xs.length fun i x => Da.val (Value.int IntKind.u8 (xs.getD i 0))])] [(false, [dB (false)])]) ∧ ((FnCon Try.prog 12 [(false, [Da.row 5 1 xs.length fun i x => Da.val (Value.int IntKind.u8 (xs.getD i 0))])] [(true, dasAccount (drA xs)), (false, [dI ((drH xs))]), (false, [dI ((drP xs))])]) ∧ ((FnCon Try.prog 13 [(true, [dI ((drA xs).Id), dI ((drA xs).Minimum), Da.row 35 4 (drA xs).Credentials.length fun i j => (dasCredential ((drA xs).Credentials.getD i zCredential)).getD j (Da.val undef)]), (false, [dI ((drH xs))]), (false, [dI ((drP xs))])] [(true, dasAccount (addX (drA xs) (drH xs) (drP xs))), (false, [dB (true)])]) ∧ ((FnCon Try.prog 14 [(true, [dI ((drA xs).Id), dI ((drA xs).Minimum), Da.row 35 4 (drA xs).Credentials.length fun i j => (dasCredential ((drA xs).Credentials.getD i zCredential)).getD j (Da.val undef)]), (false, [dI ((drH xs))]), (false, [dI ((drP xs))])] [(true, dasAccount (addX (drA xs) (drH xs) (drP xs))), (false, [dB (true)])]) ∧ ((FnCon Try.prog 16 [(true, [dI ((addX (drA xs) (drH xs) (drP xs)).Id), dI ((addX (drA xs) (drH xs) (drP xs)).Minimum), Da.row 35 4 (addX (drA xs) (drH xs) (drP xs)).Credentials.length fun i j => (dasCredential ((addX (drA xs) (drH xs) (drP xs)).Credentials.getD i zCredential)).getD j (Da.val undef)]), (false, [dI ((drH xs))])] [(false, [dI ((findC (addX (drA xs) (drH xs) (drP xs)).Credentials (drH xs)))])]) ∧ ((FnCon Try.prog 13 [(true, [dI ((addX (drA xs) (drH xs) (drP xs)).Id), dI ((addX (drA xs) (drH xs) (drP xs)).Minimum), Da.row 35 4 (addX (drA xs) (drH xs) (drP xs)).Credentials.length fun i j => (dasCredential ((addX (drA xs) (drH xs) (drP xs)).Credentials.getD i zCredential)).getD j (Da.val undef)]), (false, [dI ((drH xs))]), (false, [dI (5)])] [(true, dasAccount (addX (addX (drA xs) (drH xs) (drP xs)) (drH xs) 5)), (false, [dB (false)])]) ∧ ((¬ (999 : Int) = 0) ∧ ((FnCon Try.prog 13 [(true, [dI ((addX (drA xs) (drH xs) (drP xs)).Id), dI ((addX (drA xs) (drH xs) (drP xs)).Minimum), Da.row 35 4 (addX (drA xs) (drH xs) (drP xs)).Credentials.length fun i j => (dasCredential ((addX (drA xs) (drH xs) (drP xs)).Credentials.getD i zCredential)).getD j (Da.val undef)]), (false, [dI (((IntKind.i64.wrap (drH xs + 1)).tmod 999))]), (false, [dI ((drP xs))])] [(true, dasAccount (addX (addX (drA xs) (drH xs) (drP xs)) ((IntKind.i64.wrap (drH xs + 1)).tmod 999) (drP xs))), (false, [dB (false)])]) ∧ ((FnCon Try.prog 17 [(true, [dI ((addX (drA xs) (drH xs) (drP xs)).Id), dI ((addX (drA xs) (drH xs) (drP xs)).Minimum), Da.row 35 4 (addX (drA xs) (drH xs) (drP xs)).Credentials.length fun i j => (dasCredential ((addX (drA xs) (drH xs) (drP xs)).Credentials.getD i zCredential)).getD j (Da.val undef)]), (false, [dI ((drH xs))])] [(true, dasAccount (cutX (addX (drA xs) (drH xs) (drP xs)) (drH xs))), (false, [dB (true)])]) ∧ ((FnCon Try.prog 17 [(true, [dI ((cutX (addX (drA xs) (drH xs) (drP xs)) (drH xs)).Id), dI ((cutX (addX (drA xs) (drH xs) (drP xs)) (drH xs)).Minimum), Da.row 35 4 (cutX (addX (drA xs) (drH xs) (drP xs)) (drH xs)).Credentials.length fun i j => (dasCredential ((cutX (addX (drA xs) (drH xs) (drP xs)) (drH xs)).Credentials.getD i zCredential)).getD j (Da.val undef)]), (false, [dI ((drH xs))])] [(true, dasAccount (cutX (cutX (addX (drA xs) (drH xs) (drP xs)) (drH xs)) (drH xs))), (false, [dB (false)])]) ∧ bcase (decide (findC (addX (drA xs) (drH xs) (drP xs)).Credentials (drH xs) ≥ 0)) (bcase (((addX (drA xs) (drH xs) (drP xs)).Credentials.getD (findC (addX (drA xs) (drH xs) (drP xs)).Credentials (drH xs)).toNat zCredential).Public == drP xs) (bcase (!((addX (drA xs) (drH xs) (drP xs)).Credentials.getD (findC (addX (drA xs) (drH xs) (drP xs)).Credentials (drH xs)).toNat zCredential).Cut) (bcase ((↑(addX (drA xs) (drH xs) (drP xs)).Credentials.length : Int) == IntKind.i64.wrap ((↑(drA xs).Credentials.length : Int) + 1)) (decide (findC (addX (drA xs) (drH xs) (drP xs)).Credentials (drH xs) ≥ 0) = true ∧ ((0 ≤ findC (addX (drA xs) (drH xs) (drP xs)).Credentials (drH xs) ∧ findC (addX (drA xs) (drH xs) (drP xs)).Credentials (drH xs) < (↑(addX (drA xs) (drH xs) (drP xs)).Credentials.length : Int)) ∧ ((((addX (drA xs) (drH xs) (drP xs)).Credentials.getD (findC (addX (drA xs) (drH xs) (drP xs)).Credentials (drH xs)).toNat zCredential).Public == drP xs) = true ∧ ((0 ≤ findC (addX (drA xs) (drH xs) (drP xs)).Credentials (drH xs) ∧ findC (addX (drA xs) (drH xs) (drP xs)).Credentials (drH xs) < (↑(addX (drA xs) (drH xs) (drP xs)).Credentials.length : Int)) ∧ ((!((addX (drA xs) (drH xs) (drP xs)).Credentials.getD (findC (addX (drA xs) (drH xs) (drP xs)).Credentials (drH xs)).toNat zCredential).Cut) = true ∧ (((↑(addX (drA xs) (drH xs) (drP xs)).Credentials.length : Int) == IntKind.i64.wrap ((↑(drA xs).Credentials.length : Int) + 1)) = true ∧ (true = true ∧ (true = true ∧ (true = true ∧ (true = true ∧ ((FnCon Try.prog 18 [(true, [dI ((cutX (addX (drA xs) (drH xs) (drP xs)) (drH xs)).Id), dI ((cutX (addX (drA xs) (drH xs) (drP xs)) (drH xs)).Minimum), Da.row 35 4 (cutX (addX (drA xs) (drH xs) (drP xs)) (drH xs)).Credentials.length fun i j => (dasCredential ((cutX (addX (drA xs) (drH xs) (drP xs)) (drH xs)).Credentials.getD i zCredential)).getD j (Da.val undef)])] [(false, [dB (true)])]) ∧ (false = false ∧ Value.bool true = Value.bool true)))))))))))) (decide (findC (addX (drA xs) (drH xs) (drP xs)).Credentials (drH xs) ≥ 0) = true ∧ ((0 ≤ findC (addX (drA xs) (drH xs) (drP xs)).Credentials (drH xs) ∧ findC (addX (drA xs) (drH xs) (drP xs)).Credentials (drH xs) < (↑(addX (drA xs) (drH xs) (drP xs)).Credentials.length : Int)) ∧ ((((addX (drA xs) (drH xs) (drP xs)).Credentials.getD (findC (addX (drA xs) (drH xs) (drP xs)).Credentials (drH xs)).toNat zCredential).Public == drP xs) = true ∧ ((0 ≤ findC (addX (drA xs) (drH xs) (drP xs)).Credentials (drH xs) ∧ findC (addX (drA xs) (drH xs) (drP xs)).Credentials (drH xs) < (↑(addX (drA xs) (drH xs) (drP xs)).Credentials.length : Int)) ∧ ((!((addX (drA xs) (drH xs) (drP xs)).Credentials.getD (findC (addX (drA xs) (drH xs) (drP xs)).Credentials (drH xs)).toNat zCredential).Cut) = true ∧ (((↑(addX (drA xs) (drH xs) (drP xs)).Credentials.length : Int) == IntKind.i64.wrap ((↑(drA xs).Credentials.length : Int) + 1)) = false ∧ (false = false ∧ (false = false ∧ (false = false ∧ (false = false ∧ (false = false ∧ Value.bool false = Value.bool true)))))))))))) (decide (findC (addX (drA xs) (drH xs) (drP xs)).Credentials (drH xs) ≥ 0) = true ∧ ((0 ≤ findC (addX (drA xs) (drH xs) (drP xs)).Credentials (drH xs) ∧ findC (addX (drA xs) (drH xs) (drP xs)).Credentials (drH xs) < (↑(addX (drA xs) (drH xs) (drP xs)).Credentials.length : Int)) ∧ ((((addX (drA xs) (drH xs) (drP xs)).Credentials.getD (findC (addX (drA xs) (drH xs) (drP xs)).Credentials (drH xs)).toNat zCredential).Public == drP xs) = true ∧ ((0 ≤ findC (addX (drA xs) (drH xs) (drP xs)).Credentials (drH xs) ∧ findC (addX (drA xs) (drH xs) (drP xs)).Credentials (drH xs) < (↑(addX (drA xs) (drH xs) (drP xs)).Credentials.length : Int)) ∧ ((!((addX (drA xs) (drH xs) (drP xs)).Credentials.getD (findC (addX (drA xs) (drH xs) (drP xs)).Credentials (drH xs)).toNat zCredential).Cut) = false ∧ (false = false ∧ (false = false ∧ (false = false ∧ (false = false ∧ (false = false ∧ (false = false ∧ Value.bool false = Value.bool true)))))))))))) (decide (findC (addX (drA xs) (drH xs) (drP xs)).Credentials (drH xs) ≥ 0) = true ∧ ((0 ≤ findC (addX (drA xs) (drH xs) (drP xs)).Credentials (drH xs) ∧ findC (addX (drA xs) (drH xs) (drP xs)).Credentials (drH xs) < (↑(addX (drA xs) (drH xs) (drP xs)).Credentials.length : Int)) ∧ ((((addX (drA xs) (drH xs) (drP xs)).Credentials.getD (findC (addX (drA xs) (drH xs) (drP xs)).Credentials (drH xs)).toNat zCredential).Public == drP xs) = false ∧ (false = false ∧ (false = false ∧ (false = false ∧ (false = false ∧ (false = false ∧ (false = false ∧ (false = false ∧ Value.bool false = Value.bool true))))))))))) (decide (findC (addX (drA xs) (drH xs) (drP xs)).Credentials (drH xs) ≥ 0) = false ∧ (false = false ∧ (false = false ∧ (false = false ∧ (false = false ∧ (false = false ∧ (false = false ∧ (false = false ∧ (false = false ∧ Value.bool false = Value.bool true)))))))))))))))))))) (callsBy fun d _ _ => match d with | some 20 => some [bV false] | some 23 => some [(true, dasAccount (drA xs)), iV (drH xs), iV (drP xs)] | some 31 => some [(true, dasAccount (addX (drA xs) (drH xs) (drP xs))), bV true] | some 38 => some [(true, dasAccount (addX (drA xs) (drH xs) (drP xs))), bV true] | some 48 => some [bV true] | some 51 => some [iV (findC (addX (drA xs) (drH xs) (drP xs)).Credentials (drH xs))] | some 55 => some [(true, dasAccount (addX (addX (drA xs) (drH xs) (drP xs)) (drH xs) 5)), bV false] | some 64 => some [(true, dasAccount (addX (addX (drA xs) (drH xs) (drP xs)) ((IntKind.i64.wrap ((drH xs) + 1)).tmod 999) (drP xs))), bV false] | some 70 => some [(true, dasAccount (cutX (addX (drA xs) (drH xs) (drP xs)) (drH xs))), bV true] | some 76 => some [(true, dasAccount (cutX (cutX (addX (drA xs) (drH xs) (drP xs)) (drH xs)) (drH xs))), bV false] | some 127 => some [bV true] | _ => none) (noLoops) Try.func3 (by kernel_rfl) (by kernel_rfl) (by kernel_rfl) (fun _ => trivial) (by kernel_rfl) ?_
  refine ⟨?g0, ?g1, ?g2, ?g3, ?g4, ?g5, (by decide), ?g7, ?g8, ?g9, bcase_intro (fun h10 => bcase_intro (fun h11 => bcase_intro (fun h12 => bcase_intro (fun h13 => ⟨h10, ⟨?g14, ?g15⟩, h11, ⟨?g16, ?g17⟩, h12, h13, rfl, rfl, rfl, rfl, ?g18, rfl, rfl⟩) (fun h13 => ⟨h10, ⟨?g19, ?g20⟩, h11, ⟨?g21, ?g22⟩, h12, h13, rfl, rfl, rfl, rfl, rfl, congrArg _ ?g23⟩)) (fun h12 => ⟨h10, ⟨?g24, ?g25⟩, h11, ⟨?g26, ?g27⟩, h12, rfl, rfl, rfl, rfl, rfl, rfl, congrArg _ ?g28⟩)) (fun h11 => ⟨h10, ⟨?g29, ?g30⟩, h11, rfl, rfl, rfl, rfl, rfl, rfl, rfl, congrArg _ ?g31⟩)) (fun h10 => ⟨h10, rfl, rfl, rfl, rfl, rfl, rfl, rfl, rfl, congrArg _ ?g32⟩)⟩
  all_goals
    have hda := drA_len hx
    have hoa := drA_ok xs
    have hH := drH_bd xs
    have hP := drP_bd xs
    have hob := okL.add (a := drA xs) hoa hH hP
  case g0 => exact conBig xs hx
  case g1 => exact conDrAdd xs (by omega)
  case g2 => have := C14l.conAdd (drA xs) (drH xs) (drP xs) (by omega) hoa hH.1 hH.2 hP.1 hP.2; rw [e] at this; exact this
  case g3 => have := C14s.conAdd (drA xs) (drH xs) (drP xs) (by omega); rw [e] at this; exact this
  all_goals
    have hfa := find_add e
    have hla := len_add e
    have hat := add_at e
    have hck := cnt_le (drA xs).Credentials (drH xs)
  case g4 => exact C14k.conFnd (addX (drA xs) (drH xs) (drP xs)) (drH xs) (by omega)
  case g5 => have := C14l.conAdd (addX (drA xs) (drH xs) (drP xs)) (drH xs) 5 (by omega) hob hH.1 hH.2 (by decide) (by decide); rw [add_twice e 5] at this; exact this
  case g7 => have := C14l.conAdd (addX (drA xs) (drH xs) (drP xs)) ((IntKind.i64.wrap ((drH xs) + 1)).tmod 999) (drP xs) (by omega) hob (tmod_bd _).1 (tmod_bd _).2 hP.1 hP.2; rw [add_same e] at this; exact this
  case g8 => have := C14l.conCut (addX (drA xs) (drH xs) (drP xs)) (drH xs) (by omega) hob; rw [cut_add e] at this; exact this
  case g9 => have := C14l.conCut (cutX (addX (drA xs) (drH xs) (drP xs)) (drH xs)) (drH xs) (by have := cut_lenL (addX (drA xs) (drH xs) (drP xs)) (drH xs); omega) (okL.cut hob _); rw [cut_more (cut_add e)] at this; exact this
  case g18 => have := C14k.conVac (cutX (addX (drA xs) (drH xs) (drP xs)) (drH xs)) (by have := cut_lenL (addX (drA xs) (drH xs) (drP xs)) (drH xs); omega) (okL.cut hob _); rw [vac_cut (vac_add e)] at this; exact this
  case g14 | g15 | g16 | g17 | g19 | g20 | g21 | g22 | g24 | g25 | g26 | g27 | g29 | g30 => omega
  all_goals exfalso
  case g23 =>
    rw [hla, IntWalk.i64_in _ (by omega)] at h13
    simp at h13
  case g28 =>
    rw [hfa, Int.toNat_natCast, hat] at h12
    simp at h12
  case g31 =>
    rw [hfa, Int.toNat_natCast, hat] at h11
    simp at h11
  case g32 =>
    have := of_decide_eq_false h10
    omega
theorem conF (xs : List Int) (hx : xs.length ≤ 1048576) (e : addB (drA xs) (drH xs) (drP xs) = false) : FnCon Try.prog 3 ([(false, [numR 5 .u8 xs])]) ([bV true]) := by
  refine fn_go (p := ((FnCon Try.prog 11 [(false, [Da.row 5 1 xs.length fun i x => Da.val (Value.int IntKind.u8 (xs.getD i 0))])] [(false, [dB (false)])]) ∧ ((FnCon Try.prog 12 [(false, [Da.row 5 1 xs.length fun i x => Da.val (Value.int IntKind.u8 (xs.getD i 0))])] [(true, dasAccount (drA xs)), (false, [dI ((drH xs))]), (false, [dI ((drP xs))])]) ∧ ((FnCon Try.prog 13 [(true, [dI ((drA xs).Id), dI ((drA xs).Minimum), Da.row 35 4 (drA xs).Credentials.length fun i j => (dasCredential ((drA xs).Credentials.getD i zCredential)).getD j (Da.val undef)]), (false, [dI ((drH xs))]), (false, [dI ((drP xs))])] [(true, dasAccount (addX (drA xs) (drH xs) (drP xs))), (false, [dB (false)])]) ∧ ((FnCon Try.prog 14 [(true, [dI ((drA xs).Id), dI ((drA xs).Minimum), Da.row 35 4 (drA xs).Credentials.length fun i j => (dasCredential ((drA xs).Credentials.getD i zCredential)).getD j (Da.val undef)]), (false, [dI ((drH xs))]), (false, [dI ((drP xs))])] [(true, dasAccount (addX (drA xs) (drH xs) (drP xs))), (false, [dB (false)])]) ∧ ((FnCon Try.prog 15 [(true, [dI ((addX (drA xs) (drH xs) (drP xs)).Id), dI ((addX (drA xs) (drH xs) (drP xs)).Minimum), Da.row 35 4 (addX (drA xs) (drH xs) (drP xs)).Credentials.length fun i j => (dasCredential ((addX (drA xs) (drH xs) (drP xs)).Credentials.getD i zCredential)).getD j (Da.val undef)]), (true, [dI ((drA xs).Id), dI ((drA xs).Minimum), Da.row 35 4 (drA xs).Credentials.length fun i j => (dasCredential ((drA xs).Credentials.getD i zCredential)).getD j (Da.val undef)])] [(false, [dB (true)])]) ∧ (false = false ∧ Value.bool true = Value.bool true))))))) (callsBy fun d _ _ => match d with | some 20 => some [bV false] | some 23 => some [(true, dasAccount (drA xs)), iV (drH xs), iV (drP xs)] | some 31 => some [(true, dasAccount (addX (drA xs) (drH xs) (drP xs))), bV false] | some 38 => some [(true, dasAccount (addX (drA xs) (drH xs) (drP xs))), bV false] | some 48 => some [bV true] | some 51 => some [iV (findC (addX (drA xs) (drH xs) (drP xs)).Credentials (drH xs))] | some 55 => some [(true, dasAccount (addX (addX (drA xs) (drH xs) (drP xs)) (drH xs) 5)), bV false] | some 64 => some [(true, dasAccount (addX (addX (drA xs) (drH xs) (drP xs)) ((IntKind.i64.wrap ((drH xs) + 1)).tmod 999) (drP xs))), bV false] | some 70 => some [(true, dasAccount (cutX (addX (drA xs) (drH xs) (drP xs)) (drH xs))), bV true] | some 76 => some [(true, dasAccount (cutX (cutX (addX (drA xs) (drH xs) (drP xs)) (drH xs)) (drH xs))), bV false] | some 127 => some [bV true] | _ => none) (noLoops) Try.func3 (by kernel_rfl) (by kernel_rfl) (by kernel_rfl) (fun _ => trivial) (by kernel_rfl) ?_
  refine ⟨?g0, ?g1, ?g2, ?g3, ?g4, rfl, rfl⟩
  all_goals
    have hda := drA_len hx
    have hoa := drA_ok xs
    have hH := drH_bd xs
    have hP := drP_bd xs
    have hob := okL.add (a := drA xs) hoa hH hP
  case g0 => exact conBig xs hx
  case g1 => exact conDrAdd xs (by omega)
  case g2 => have := C14l.conAdd (drA xs) (drH xs) (drP xs) (by omega) hoa hH.1 hH.2 hP.1 hP.2; rw [e] at this; exact this
  case g3 => have := C14s.conAdd (drA xs) (drH xs) (drP xs) (by omega); rw [e] at this; exact this
  case g4 => have := C14i.conEql (addX (drA xs) (drH xs) (drP xs)) (drA xs) (by rw [addX_f e]; omega) (by omega); rw [addX_f e, eqlA_rfl] at this; rw [addX_f e]; exact this
theorem conLaw (xs : List Int) (hx : xs.length ≤ 1048576) : FnCon Try.prog 3 [(false, [numR 5 .u8 xs])] [bV true] := by
  cases e : addB (drA xs) (drH xs) (drP xs) with
  | true => exact conT xs hx e
  | false => exact conF xs hx e
end Go.Proofs.Ytpfjfnlefeocnaa.L14
