import Derived.Test.YtogoppknimpkbaaGreatDoorBd
import Derived.Test.YtogoppknimpkbaaGreatDoorBc
import Derived.Test.YtogoppknimpkbaaGreatDoorDa14
namespace Go.Proofs.YtogoppknimpkbaaGreatDoor.C9v
open Go.ChangeShapes Go.WideShapes Go.ChangeAt Go.RowKit
open S0 S1 S9 Dm Fx M12 M13 C9 E0 E1 E2 E3 E4 E7 E10 E15 E16 E17 E18 E19 E20 Das
set_option linter.unusedVariables false
set_option linter.unusedSimpArgs false
set_option maxRecDepth 100000
theorem sOrg (o : Fx.Origin) (h : o.Host.size ≤ 4294967296) : FnCon Tryz.prog 63 [(true, dasOrigin o)] [bV (orgB o)] :=
  con_of_plain (con_enters Tryz.func63 (by kernel_rfl) (by kernel_rfl)) rfl fun w v0 k0 => by
    obtain ⟨us, v1, rfl, hr, k1⟩ := of_aggA (dasOrigin_dc o) k0
    obtain rfl := of_nil k1
    exact C9b.specOrg w o us hr h
theorem sReg (z : ByteArray) (h : z.size ≤ 4294967296) : FnCon Tryz.prog 53 [sV z] [sV (str (reg (bts z)))] :=
  con_of_plain (con_enters Tryz.func53 (by kernel_rfl) (by kernel_rfl)) rfl fun w v0 k0 => by
    obtain ⟨v1, rfl, k1⟩ := of_valA k0
    obtain rfl := of_nil k1
    exact C9b.specReg w z h
theorem iOrg (o : Fx.Origin) (h : o.Host.size ≤ 4294967296) : FnCon Tryz.prog 41 [(true, dasOrigin o)] [bV (orgB o)] :=
  con_of_plain (con_enters Tryz.func41 (by kernel_rfl) (by kernel_rfl)) rfl fun w v0 k0 => by
    obtain ⟨us, v1, rfl, hr, k1⟩ := of_aggA (dasOrigin_dc o) k0
    obtain rfl := of_nil k1
    exact C9i.implOrg w o us hr h
theorem iReg (z : ByteArray) (h : z.size ≤ 4294967296) : FnCon Tryz.prog 97 [sV z] [sV (str (reg (bts z)))] :=
  con_of_plain (con_enters Tryz.func97 (by kernel_rfl) (by kernel_rfl)) rfl fun w v0 k0 => by
    obtain ⟨v1, rfl, k1⟩ := of_valA k0
    obtain rfl := of_nil k1
    exact C9i.implReg w z h
theorem ba_beq (a b : ByteArray) : (a == b) = decide (a = b) := by
  obtain ⟨x⟩ := a
  obtain ⟨y⟩ := b
  by_cases h : x = y
  · subst h
    rw [decide_eq_true rfl]
    show (x == x) = true
    simp
  · rw [decide_eq_false (fun e => h (by injection e))]
    show (x == y) = false
    simpa using h
theorem str_beq (a b : List UInt8) : (str a == str b) = (a == b) := by
  rw [ba_beq]
  by_cases h : a = b
  · subst h; simp
  · rw [decide_eq_false (fun e => h (by have := congrArg bts e; rwa [bts_str, bts_str] at this))]
    exact (beq_eq_false_iff_ne.2 h).symm
noncomputable def smC (x y : Fx.Origin) : Orc := callsBy fun d _ a => match a with
  | [(_, [.val (.bool s), .val (.string h), .val (.int _ p)])] => some [bV (orgB ⟨s, h, p⟩)]
  | [(_, [.val (.string z)])] => some [sV (str (reg (bts z)))]
  | _ => none
theorem conSameS (x y : Fx.Origin) (hx : x.Host.size ≤ 4294967296) (hy : y.Host.size ≤ 4294967296) : FnCon Tryz.prog 33 ([(true, dasOrigin x), (true, dasOrigin y)]) ([bV (sameO x y)]) := by
  refine fn_go (p := bcase (orgB { Secure := x.Secure, Host := x.Host, Port := x.Port }) (bcase (orgB { Secure := y.Secure, Host := y.Host, Port := y.Port }) (bcase (x.Secure == y.Secure) (FnCon Tryz.prog 63 [(true, (dasOrigin x))] [(false, [dB ((orgB { Secure := x.Secure, Host := x.Host, Port := x.Port }))])] ∧ (orgB { Secure := x.Secure, Host := x.Host, Port := x.Port } = true ∧ (FnCon Tryz.prog 63 [(true, (dasOrigin y))] [(false, [dB ((orgB { Secure := y.Secure, Host := y.Host, Port := y.Port }))])] ∧ (orgB { Secure := y.Secure, Host := y.Host, Port := y.Port } = true ∧ ((x.Secure == y.Secure) = true ∧ (FnCon Tryz.prog 53 [(false, [dS (x.Host)])] [(false, [dS ((str (reg (bts x.Host))))])] ∧ (FnCon Tryz.prog 53 [(false, [dS (y.Host)])] [(false, [dS ((str (reg (bts y.Host))))])] ∧ (false = false ∧ Value.bool ((str (reg (bts x.Host))).toList == (str (reg (bts y.Host))).toList) = Value.bool (sameO x y))))))))) (FnCon Tryz.prog 63 [(true, (dasOrigin x))] [(false, [dB ((orgB { Secure := x.Secure, Host := x.Host, Port := x.Port }))])] ∧ (orgB { Secure := x.Secure, Host := x.Host, Port := x.Port } = true ∧ (FnCon Tryz.prog 63 [(true, (dasOrigin y))] [(false, [dB ((orgB { Secure := y.Secure, Host := y.Host, Port := y.Port }))])] ∧ (orgB { Secure := y.Secure, Host := y.Host, Port := y.Port } = true ∧ ((x.Secure == y.Secure) = false ∧ (false = false ∧ Value.bool false = Value.bool (sameO x y)))))))) (FnCon Tryz.prog 63 [(true, (dasOrigin x))] [(false, [dB ((orgB { Secure := x.Secure, Host := x.Host, Port := x.Port }))])] ∧ (orgB { Secure := x.Secure, Host := x.Host, Port := x.Port } = true ∧ (FnCon Tryz.prog 63 [(true, (dasOrigin y))] [(false, [dB ((orgB { Secure := y.Secure, Host := y.Host, Port := y.Port }))])] ∧ (orgB { Secure := y.Secure, Host := y.Host, Port := y.Port } = false ∧ (false = false ∧ (false = false ∧ Value.bool false = Value.bool (sameO x y)))))))) (FnCon Tryz.prog 63 [(true, (dasOrigin x))] [(false, [dB ((orgB { Secure := x.Secure, Host := x.Host, Port := x.Port }))])] ∧ (orgB { Secure := x.Secure, Host := x.Host, Port := x.Port } = false ∧ (false = false ∧ (false = false ∧ (false = false ∧ Value.bool false = Value.bool (sameO x y))))))) (smC x y) (noLoops) Tryz.func33 (by kernel_rfl) (by kernel_rfl) (by kernel_rfl) (fun _ => trivial) (by kernel_rfl) ?_
  refine bcase_intro (fun h0 => bcase_intro (fun h1 => bcase_intro (fun h2 => ⟨?g3, h0, ?g4, h1, h2, ?g5, ?g6, rfl, congrArg _ ?g7⟩) (fun h2 => ⟨?g8, h0, ?g9, h1, h2, rfl, congrArg _ ?g10⟩)) (fun h1 => ⟨?g11, h0, ?g12, h1, rfl, rfl, congrArg _ ?g13⟩)) (fun h0 => ⟨?g14, h0, rfl, rfl, rfl, congrArg _ ?g15⟩)
  case g3 | g8 | g11 | g14 => exact sOrg x hx
  case g4 | g9 | g12 => exact sOrg y hy
  case g5 => exact sReg _ hx
  case g6 => exact sReg _ hy
  case g7 =>
    rw [toList_bts, toList_bts, bts_str, bts_str]
    unfold sameO
    rw [show orgB x = true from h0, show orgB y = true from h1, h2]
    rfl
  case g10 =>
    unfold sameO
    rw [show orgB x = true from h0, show orgB y = true from h1, h2]
    rfl
  case g13 =>
    unfold sameO
    rw [show orgB x = true from h0, show orgB y = false from h1]
    rfl
  case g15 =>
    unfold sameO
    rw [show orgB x = false from h0]
    rfl
theorem conSameI (x y : Fx.Origin) (hx : x.Host.size ≤ 4294967296) (hy : y.Host.size ≤ 4294967296) : FnCon Tryz.prog 62 ([(true, dasOrigin x), (true, dasOrigin y)]) ([bV (sameO x y)]) := by
  refine fn_go (p := bcase (orgB { Secure := x.Secure, Host := x.Host, Port := x.Port }) (bcase (orgB { Secure := y.Secure, Host := y.Host, Port := y.Port }) (bcase (x.Secure == y.Secure) (FnCon Tryz.prog 41 [(true, (dasOrigin x))] [(false, [dB ((orgB { Secure := x.Secure, Host := x.Host, Port := x.Port }))])] ∧ (orgB { Secure := x.Secure, Host := x.Host, Port := x.Port } = true ∧ (FnCon Tryz.prog 41 [(true, (dasOrigin y))] [(false, [dB ((orgB { Secure := y.Secure, Host := y.Host, Port := y.Port }))])] ∧ (orgB { Secure := y.Secure, Host := y.Host, Port := y.Port } = true ∧ ((x.Secure == y.Secure) = true ∧ (FnCon Tryz.prog 97 [(false, [dS (x.Host)])] [(false, [dS ((str (reg (bts x.Host))))])] ∧ (FnCon Tryz.prog 97 [(false, [dS (y.Host)])] [(false, [dS ((str (reg (bts y.Host))))])] ∧ (false = false ∧ Value.bool ((str (reg (bts x.Host))).toList == (str (reg (bts y.Host))).toList) = Value.bool (sameO x y))))))))) (FnCon Tryz.prog 41 [(true, (dasOrigin x))] [(false, [dB ((orgB { Secure := x.Secure, Host := x.Host, Port := x.Port }))])] ∧ (orgB { Secure := x.Secure, Host := x.Host, Port := x.Port } = true ∧ (FnCon Tryz.prog 41 [(true, (dasOrigin y))] [(false, [dB ((orgB { Secure := y.Secure, Host := y.Host, Port := y.Port }))])] ∧ (orgB { Secure := y.Secure, Host := y.Host, Port := y.Port } = true ∧ ((x.Secure == y.Secure) = false ∧ (false = false ∧ Value.bool false = Value.bool (sameO x y)))))))) (FnCon Tryz.prog 41 [(true, (dasOrigin x))] [(false, [dB ((orgB { Secure := x.Secure, Host := x.Host, Port := x.Port }))])] ∧ (orgB { Secure := x.Secure, Host := x.Host, Port := x.Port } = true ∧ (FnCon Tryz.prog 41 [(true, (dasOrigin y))] [(false, [dB ((orgB { Secure := y.Secure, Host := y.Host, Port := y.Port }))])] ∧ (orgB { Secure := y.Secure, Host := y.Host, Port := y.Port } = false ∧ (false = false ∧ (false = false ∧ Value.bool false = Value.bool (sameO x y)))))))) (FnCon Tryz.prog 41 [(true, (dasOrigin x))] [(false, [dB ((orgB { Secure := x.Secure, Host := x.Host, Port := x.Port }))])] ∧ (orgB { Secure := x.Secure, Host := x.Host, Port := x.Port } = false ∧ (false = false ∧ (false = false ∧ (false = false ∧ Value.bool false = Value.bool (sameO x y))))))) (smC x y) (noLoops) Tryz.func62 (by kernel_rfl) (by kernel_rfl) (by kernel_rfl) (fun _ => trivial) (by kernel_rfl) ?_
  refine bcase_intro (fun h0 => bcase_intro (fun h1 => bcase_intro (fun h2 => ⟨?g3, h0, ?g4, h1, h2, ?g5, ?g6, rfl, congrArg _ ?g7⟩) (fun h2 => ⟨?g8, h0, ?g9, h1, h2, rfl, congrArg _ ?g10⟩)) (fun h1 => ⟨?g11, h0, ?g12, h1, rfl, rfl, congrArg _ ?g13⟩)) (fun h0 => ⟨?g14, h0, rfl, rfl, rfl, congrArg _ ?g15⟩)
  case g3 | g8 | g11 | g14 => exact iOrg x hx
  case g4 | g9 | g12 => exact iOrg y hy
  case g5 => exact iReg _ hx
  case g6 => exact iReg _ hy
  case g7 =>
    rw [toList_bts, toList_bts, bts_str, bts_str]
    unfold sameO
    rw [show orgB x = true from h0, show orgB y = true from h1, h2]
    rfl
  case g10 =>
    unfold sameO
    rw [show orgB x = true from h0, show orgB y = true from h1, h2]
    rfl
  case g13 =>
    unfold sameO
    rw [show orgB x = true from h0, show orgB y = false from h1]
    rfl
  case g15 =>
    unfold sameO
    rw [show orgB x = false from h0]
    rfl
theorem or_shs (w : World) (hi : Nat) (x : Fx.Origin) {us : List Value} (h : RdsL w hi x.dcs us) : E0.ShsL w hi x.dcs us :=
  E0.shsL_vals (fun d hd => by
    simp only [Origin.dcs, List.mem_cons, List.not_mem_nil, or_false] at hd
    rcases hd with rfl | rfl | rfl <;> exact ⟨_, rfl⟩) h
theorem implSameM (w : World) (x y : Fx.Origin) (us vs : List Value) (h : RdsL w w.heap.size x.dcs us) (h2 : RdsL w w.heap.size y.dcs vs) (hx : x.Host.size ≤ 4294967296) (hy : y.Host.size ≤ 4294967296) :
    Calls Tryz.prog 62 #[.agg us.toArray, .agg vs.toArray] w (Gives (.bool (sameO x y)) w) :=
  con_plain (conSameI x y hx hy) (us := [.bool (sameO x y)]) rfl (arg_agg (dasOrigin_dc x) (or_shs w _ x h) (arg_agg (dasOrigin_dc y) (or_shs w _ y h2) arg_nil))
end Go.Proofs.YtogoppknimpkbaaGreatDoor.C9v
