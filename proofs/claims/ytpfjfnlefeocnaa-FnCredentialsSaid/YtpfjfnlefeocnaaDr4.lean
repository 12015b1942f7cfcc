import Derived.Test.YtpfjfnlefeocnaaDr3
import Derived.Test.YtpfjfnlefeocnaaDa14
namespace Go.Proofs.Ytpfjfnlefeocnaa.Dr
open Go.ChangeShapes Go.WideShapes Go.ChangeAt Go.RowKit
open S0 S1 S9 Dm Fx E0 E1 E2 E3 E4 E7 E10 E15 E16 E17 E18 E19 E20 E22 E23 Das
set_option linter.unusedVariables false
set_option linter.unusedSimpArgs false
set_option maxRecDepth 100000
set_option maxHeartbeats 4000000
def store0 (xs : List Int) (s : Cu) : Fx.KeyStore := { Vendor := IntKind.i64.wrap (1 + belV xs 3 s), Serial := belV xs 20 (belS xs 3 s), Seed := IntKind.i64.wrap (1 + belV xs 9999 (belS xs 20 (belS xs 3 s))), Counter := belV xs 50 (belS xs 9999 (belS xs 20 (belS xs 3 s))) }
def storeS (xs : List Int) (s : Cu) : Cu := (belS xs 50 (belS xs 9999 (belS xs 20 (belS xs 3 s))))
theorem storeS_ok {xs : List Int} {s : Cu} (k : OkC xs s) : OkC xs (storeS xs s) := by
  unfold storeS
  all_goals (try dsimp only)
  all_goals (repeat first | exact k | apply belS_ok)
theorem lnStore (xs : List Int) (s : Cu) (k : OkC xs s) : E22.LentCon Try.prog 71 76 (cur xs s) ([]) ([(true, dasKeyStore (store0 xs s))]) (cur xs (storeS xs s)) := by
  refine E22.lent_go (p := fun R => ((Cust Try.prog (fun x => True) 20008 (opOf (Try.f71.body.getD Code.skip) 1 1) [AV.one (Sc.val (Value.func (Fn.func 62) { toList := [] } { toList := [] })), AV.one (Sc.ptr 1 0), AV.one (Sc.val (vI 3))] [Ob.var 76 (cur xs s)] { need := [], val := AV.one (Sc.val (vI (belV xs 3 s))), mem := [(1, Ob.var 76 (cur xs (belS xs 3 s)))] }) ∧ ((Cust Try.prog (fun x => True) 20032 (opOf (Try.f71.body.getD Code.skip) 1 4) [AV.one (Sc.val (Value.func (Fn.func 62) { toList := [] } { toList := [] })), AV.one (Sc.ptr 1 0), AV.one (Sc.val (vI 20))] [Ob.var 76 (cur xs (belS xs 3 s))] { need := [], val := AV.one (Sc.val (vI (belV xs 20 (belS xs 3 s)))), mem := [(1, Ob.var 76 (cur xs (belS xs 20 (belS xs 3 s))))] }) ∧ ((Cust Try.prog (fun x => True) 20048 (opOf (Try.f71.body.getD Code.skip) 1 6) [AV.one (Sc.val (Value.func (Fn.func 62) { toList := [] } { toList := [] })), AV.one (Sc.ptr 1 0), AV.one (Sc.val (vI 9999))] [Ob.var 76 (cur xs (belS xs 20 (belS xs 3 s)))] { need := [], val := AV.one (Sc.val (vI (belV xs 9999 (belS xs 20 (belS xs 3 s))))), mem := [(1, Ob.var 76 (cur xs (belS xs 9999 (belS xs 20 (belS xs 3 s)))))] }) ∧ ((Cust Try.prog (fun x => True) 20072 (opOf (Try.f71.body.getD Code.skip) 1 9) [AV.one (Sc.val (Value.func (Fn.func 62) { toList := [] } { toList := [] })), AV.one (Sc.ptr 1 0), AV.one (Sc.val (vI 50))] [Ob.var 76 (cur xs (belS xs 9999 (belS xs 20 (belS xs 3 s))))] { need := [], val := AV.one (Sc.val (vI (belV xs 50 (belS xs 9999 (belS xs 20 (belS xs 3 s)))))), mem := [(1, Ob.var 76 (cur xs (belS xs 50 (belS xs 9999 (belS xs 20 (belS xs 3 s))))))] }) ∧ ((true = true ∧ (vI (IntKind.i64.wrap (1 + belV xs 3 s)) = vI (store0 xs s).Vendor ∧ (vI (belV xs 20 (belS xs 3 s)) = vI (store0 xs s).Serial ∧ (vI (IntKind.i64.wrap (1 + belV xs 9999 (belS xs 20 (belS xs 3 s)))) = vI (store0 xs s).Seed ∧ vI (belV xs 50 (belS xs 9999 (belS xs 20 (belS xs 3 s)))) = vI (store0 xs s).Counter)))) ∧ ((76 = 76 ∧ ((Sc.old (Da.row 5 1 xs.length fun i x => Da.val (Value.int IntKind.u8 (xs.getD i 0))) = Sc.old (Da.row 5 1 xs.length fun i x => Da.val (Value.int IntKind.u8 (xs.getD i 0)))) ∧ (vI (belS xs 50 (belS xs 9999 (belS xs 20 (belS xs 3 s)))).i = vI (storeS xs s).i ∧ vI (belS xs 50 (belS xs 9999 (belS xs 20 (belS xs 3 s)))).h = vI (storeS xs s).h))) ∧ R = R))))))) (⟨fun _ _ _ => none, fun id vs os => match id with | 20008 => (match os with | .var _ [_, .val (.int _ i), .val (.int _ h)] :: _ => some ⟨[], .one (.val (.int .i64 (belV xs 3 ⟨i, h⟩))), [(1, .var 76 (cur xs (belS xs 3 ⟨i, h⟩)))]⟩ | _ => none) | 20032 => (match os with | .var _ [_, .val (.int _ i), .val (.int _ h)] :: _ => some ⟨[], .one (.val (.int .i64 (belV xs 20 ⟨i, h⟩))), [(1, .var 76 (cur xs (belS xs 20 ⟨i, h⟩)))]⟩ | _ => none) | 20048 => (match os with | .var _ [_, .val (.int _ i), .val (.int _ h)] :: _ => some ⟨[], .one (.val (.int .i64 (belV xs 9999 ⟨i, h⟩))), [(1, .var 76 (cur xs (belS xs 9999 ⟨i, h⟩)))]⟩ | _ => none) | 20072 => (match os with | .var _ [_, .val (.int _ i), .val (.int _ h)] :: _ => some ⟨[], .one (.val (.int .i64 (belV xs 50 ⟨i, h⟩))), [(1, .var 76 (cur xs (belS xs 50 ⟨i, h⟩)))]⟩ | _ => none) | _ => none, fun _ => True⟩) (noLoops) Try.func71 (by kernel_rfl) (by kernel_rfl) (by kernel_rfl) (fun _ => trivial) rfl (by kernel_rfl) ?_
  intro R hR
  refine ⟨?g0, ?g1, ?g2, ?g3, ⟨rfl, congrArg _ ?g4, congrArg _ ?g5, congrArg _ ?g6, congrArg _ ?g7⟩, ⟨rfl, rfl, congrArg _ ?g8, congrArg _ ?g9⟩, rfl⟩
  case g0 => exact cust_lent rfl rfl rfl rfl rfl rfl rfl rfl (lnB xs _ _ (by with_reducible repeat first | exact k | apply belS_ok) (by omega)) rfl (by omega)
  case g1 => exact cust_lent rfl rfl rfl rfl rfl rfl rfl rfl (lnB xs _ _ (by with_reducible repeat first | exact k | apply belS_ok) (by omega)) rfl (by omega)
  case g2 => exact cust_lent rfl rfl rfl rfl rfl rfl rfl rfl (lnB xs _ _ (by with_reducible repeat first | exact k | apply belS_ok) (by omega)) rfl (by omega)
  case g3 => exact cust_lent rfl rfl rfl rfl rfl rfl rfl rfl (lnB xs _ _ (by with_reducible repeat first | exact k | apply belS_ok) (by omega)) rfl (by omega)
  all_goals rfl
def key0 (xs : List Int) (s : Cu) : Int := match belV xs 10 s == 0 with | true => ([0, -1, 1, 2147483646, 2147483647].getD (belV xs 5 (belS xs 10 s)).toNat 0) | false => (IntKind.i64.wrap (1 + belV xs 99999 (belS xs 10 s)))
def keyS (xs : List Int) (s : Cu) : Cu := match belV xs 10 s == 0 with | true => ((belS xs 5 (belS xs 10 s))) | false => ((belS xs 99999 (belS xs 10 s)))
theorem keyS_ok {xs : List Int} {s : Cu} (k : OkC xs s) : OkC xs (keyS xs s) := by
  unfold keyS
  all_goals (try cases (belV xs 10 s == 0))
  all_goals (try dsimp only)
  all_goals (repeat first | exact k | apply belS_ok | apply storeS_ok)
theorem lnKey (xs : List Int) (s : Cu) (k : OkC xs s) : E22.LentCon Try.prog 36 76 (cur xs s) ([]) ([iV (key0 xs s)]) (cur xs (keyS xs s)) := by
  refine E22.lent_go (p := fun R => ((Cust Try.prog (fun x => True) 20008 (opOf (Try.f36.body.getD Code.skip) 1 1) [AV.one (Sc.val (Value.func (Fn.func 37) { toList := [] } { toList := [] })), AV.one (Sc.ptr 1 0), AV.one (Sc.val (vI 10))] [Ob.var 76 (cur xs s)] { need := [], val := AV.one (Sc.val (Value.bool (belV xs 10 s == 0))), mem := [(1, Ob.var 76 (cur xs (belS xs 10 s)))] }) ∧ bcase (belV xs 10 s == 0) ((Cust Try.prog (fun x => True) 30016 (opOf (Try.f36.body.getD Code.skip) 2 2) [AV.one (Sc.val (Value.func (Fn.func 34) { toList := [] } { toList := [] })), AV.one (Sc.ptr 1 0), AV.one (Sc.own 30008)] [Ob.var 76 (cur xs (belS xs 10 s)), Ob.own (Da.row 3 1 5 fun i j => Da.val ([vI 0, vI (-1), vI 1, vI 2147483646, vI 2147483647].getD (i * 1 + j) undef))] { need := [], val := AV.one (Sc.val (vI ([0, -1, 1, 2147483646, 2147483647].getD (belV xs 5 (belS xs 10 s)).toNat 0))), mem := [(1, Ob.var 76 (cur xs (belS xs 5 (belS xs 10 s))))] }) ∧ ((false = false ∧ vI ([0, -1, 1, 2147483646, 2147483647].getD (belV xs 5 (belS xs 10 s)).toNat 0) = vI (key0 xs s)) ∧ ((76 = 76 ∧ ((Sc.old (Da.row 5 1 xs.length fun i x => Da.val (Value.int IntKind.u8 (xs.getD i 0))) = Sc.old (Da.row 5 1 xs.length fun i x => Da.val (Value.int IntKind.u8 (xs.getD i 0)))) ∧ (vI (belS xs 5 (belS xs 10 s)).i = vI (keyS xs s).i ∧ vI (belS xs 5 (belS xs 10 s)).h = vI (keyS xs s).h))) ∧ R = R))) ((Cust Try.prog (fun x => True) 40008 (opOf (Try.f36.body.getD Code.skip) 3 1) [AV.one (Sc.val (Value.func (Fn.func 62) { toList := [] } { toList := [] })), AV.one (Sc.ptr 1 0), AV.one (Sc.val (vI 99999))] [Ob.var 76 (cur xs (belS xs 10 s))] { need := [], val := AV.one (Sc.val (vI (belV xs 99999 (belS xs 10 s)))), mem := [(1, Ob.var 76 (cur xs (belS xs 99999 (belS xs 10 s))))] }) ∧ ((false = false ∧ vI (IntKind.i64.wrap (1 + belV xs 99999 (belS xs 10 s))) = vI (key0 xs s)) ∧ ((76 = 76 ∧ ((Sc.old (Da.row 5 1 xs.length fun i x => Da.val (Value.int IntKind.u8 (xs.getD i 0))) = Sc.old (Da.row 5 1 xs.length fun i x => Da.val (Value.int IntKind.u8 (xs.getD i 0)))) ∧ (vI (belS xs 99999 (belS xs 10 s)).i = vI (keyS xs s).i ∧ vI (belS xs 99999 (belS xs 10 s)).h = vI (keyS xs s).h))) ∧ R = R))))) (⟨fun _ _ _ => none, fun id vs os => match id with | 20008 => (match os with | .var _ [_, .val (.int _ i), .val (.int _ h)] :: _ => some ⟨[], .one (.val (.bool (belV xs 10 ⟨i, h⟩ == 0))), [(1, .var 76 (cur xs (belS xs 10 ⟨i, h⟩)))]⟩ | _ => none) | 30016 => (match os with | .var _ [_, .val (.int _ i), .val (.int _ h)] :: _ => some ⟨[], .one (.val (.int .i64 (([0, -1, 1, 2147483646, 2147483647] : List Int).getD (belV xs 5 ⟨i, h⟩).toNat 0))), [(1, .var 76 (cur xs (belS xs 5 ⟨i, h⟩)))]⟩ | _ => none) | 40008 => (match os with | .var _ [_, .val (.int _ i), .val (.int _ h)] :: _ => some ⟨[], .one (.val (.int .i64 (belV xs 99999 ⟨i, h⟩))), [(1, .var 76 (cur xs (belS xs 99999 ⟨i, h⟩)))]⟩ | _ => none) | _ => none, fun _ => True⟩) (noLoops) Try.func36 (by kernel_rfl) (by kernel_rfl) (by kernel_rfl) (fun _ => trivial) rfl (by kernel_rfl) ?_
  intro R hR
  refine ⟨?g0, bcase_intro (fun h1 => ⟨?g2, ⟨rfl, congrArg _ ?g3⟩, ⟨rfl, rfl, congrArg _ ?g4, congrArg _ ?g5⟩, rfl⟩) (fun h1 => ⟨?g6, ⟨rfl, congrArg _ ?g7⟩, ⟨rfl, rfl, congrArg _ ?g8, congrArg _ ?g9⟩, rfl⟩)⟩
  case g0 => exact cust_lent rfl rfl rfl rfl rfl rfl rfl rfl (lnOnce xs _ _ (by with_reducible repeat first | exact k | apply belS_ok | apply storeS_ok) (by omega)) rfl (by omega)
  case g2 => exact cust_intL rfl rfl rfl rfl rfl (fun _ _ => elm) rfl (by decide) (by decide) (by with_reducible repeat first | exact k | apply belS_ok | apply storeS_ok)
  case g6 => exact cust_lent rfl rfl rfl rfl rfl rfl rfl rfl (lnB xs _ _ (by with_reducible repeat first | exact k | apply belS_ok | apply storeS_ok) (by omega)) rfl (by omega)
  all_goals first | rfl | (first | unfold key0 | unfold keyS)
  all_goals (try simp only [*])
def site0 (xs : List Int) (s : Cu) : ByteArray := match belV xs 3 s == 0 with | true => ({ data := { toList := [98, 97, 110, 107, 46, 99, 111, 109] } }) | false => (match belV xs 3 s == 1 with | true => ({ data := { toList := [115, 104, 111, 112, 46, 111, 114, 103] } }) | false => ({ data := { toList := [98, 97, 110, 107, 46, 99, 111, 109] } }))
def siteS (xs : List Int) (s : Cu) : Cu := match belV xs 3 s == 0 with | true => ((belS xs 3 s)) | false => (match belV xs 3 s == 1 with | true => ((belS xs 3 s)) | false => ((belS xs 3 s)))
theorem siteS_ok {xs : List Int} {s : Cu} (k : OkC xs s) : OkC xs (siteS xs s) := by
  unfold siteS
  all_goals (try cases (belV xs 3 s == 0))
  all_goals (try cases (belV xs 3 s == 1))
  all_goals (try dsimp only)
  all_goals (repeat first | exact k | apply belS_ok | apply storeS_ok | apply keyS_ok)
def host0 (xs : List Int) (s : Cu) : ByteArray := [{ data := { toList := [98, 97, 110, 107, 46, 99, 111, 109] } }, { data := { toList := [119, 119, 119, 46, 98, 97, 110, 107, 46, 99, 111, 109] } }, { data := { toList := [98, 97, 110, 107, 46, 99, 111, 109, 46, 101, 118, 105, 108, 46, 110, 101, 116] } }, { data := { toList := [101, 118, 105, 108, 98, 97, 110, 107, 46, 99, 111, 109] } }, { data := { toList := [115, 104, 111, 112, 46, 111, 114, 103] } }, { data := { toList := [97, 46, 98, 46, 115, 104, 111, 112, 46, 111, 114, 103] } }, { data := { toList := [99, 111, 109] } }, { data := { toList := [108, 111, 99, 97, 108, 104, 111, 115, 116] } }, { data := { toList := [120, 45, 121, 46, 105, 111] } }].getD (belV xs 9 s).toNat { data := { toList := [] } }
def hostS (xs : List Int) (s : Cu) : Cu := (belS xs 9 s)
theorem hostS_ok {xs : List Int} {s : Cu} (k : OkC xs s) : OkC xs (hostS xs s) := by
  unfold hostS
  all_goals (try dsimp only)
  all_goals (repeat first | exact k | apply belS_ok | apply storeS_ok | apply keyS_ok | apply siteS_ok)
def hostAny0 (xs : List Int) (s : Cu) : ByteArray := match belV xs 4 s == 0 with | true => ([{ data := { toList := [] } }, { data := { toList := [46] } }, { data := { toList := [97, 46, 46, 98] } }, { data := { toList := [45, 97, 46, 99, 111, 109] } }, { data := { toList := [97, 45, 46, 99, 111, 109] } }, { data := { toList := [65, 46, 99, 111, 109] } }, { data := { toList := [97, 95, 98, 46, 99, 111, 109] } }, { data := { toList := [97, 98, 99, 100, 101, 102, 103, 104, 105, 106, 107, 108, 109, 110, 111, 112, 113, 114, 115, 116, 117, 46, 99, 111, 109] } }, { data := { toList := [97, 98, 99, 100, 101, 102, 103, 104, 105, 106, 107, 108, 109, 110, 111, 112, 113, 114, 115, 116, 46, 97, 98, 99, 100, 101, 102, 103, 104, 105, 106, 107, 108, 109, 110, 111, 112, 113, 114, 115, 116, 46, 97, 98, 99, 100, 101, 102, 103, 104, 105, 106, 107, 108, 109, 110, 111, 112, 113, 114] } }, { data := { toList := [97, 98, 99, 100, 101, 102, 103, 104, 105, 106, 107, 108, 109, 110, 111, 112, 113, 114, 115, 116, 46, 97, 98, 99, 100, 101, 102, 103, 104, 105, 106, 107, 108, 109, 110, 111, 112, 113, 114, 115, 116, 46, 97, 98, 99, 100, 101, 102, 103, 104, 105, 106, 107, 108, 109, 110, 111, 112, 113, 114, 115] } }].getD (belV xs 10 (belS xs 4 s)).toNat { data := { toList := [] } }) | false => (host0 xs (belS xs 4 s))
def hostAnyS (xs : List Int) (s : Cu) : Cu := match belV xs 4 s == 0 with | true => ((belS xs 10 (belS xs 4 s))) | false => ((hostS xs (belS xs 4 s)))
theorem hostAnyS_ok {xs : List Int} {s : Cu} (k : OkC xs s) : OkC xs (hostAnyS xs s) := by
  unfold hostAnyS
  all_goals (try cases (belV xs 4 s == 0))
  all_goals (try dsimp only)
  all_goals (repeat first | exact k | apply belS_ok | apply storeS_ok | apply keyS_ok | apply siteS_ok | apply hostS_ok)
def originS (xs : List Int) (s : Cu) : Cu := match !!belV xs 4 s == 0 with | true => ((hostS xs (belS xs 4 s))) | false => ((hostS xs (belS xs 4 s)))
theorem originS_ok {xs : List Int} {s : Cu} (k : OkC xs s) : OkC xs (originS xs s) := by
  unfold originS
  all_goals (try cases (!!belV xs 4 s == 0))
  all_goals (try dsimp only)
  all_goals (repeat first | exact k | apply belS_ok | apply storeS_ok | apply keyS_ok | apply siteS_ok | apply hostS_ok | apply hostAnyS_ok)
def originAnyS (xs : List Int) (s : Cu) : Cu := match belV xs 6 (originS xs s) == 0 with | true => ((hostAnyS xs (belS xs 6 (originS xs s)))) | false => (match belV xs 6 (originS xs s) == 1 with | true => ((belS xs 8 (belS xs 6 (originS xs s)))) | false => ((belS xs 6 (originS xs s))))
theorem originAnyS_ok {xs : List Int} {s : Cu} (k : OkC xs s) : OkC xs (originAnyS xs s) := by
  unfold originAnyS
  all_goals (try cases (belV xs 6 (originS xs s) == 0))
  all_goals (try cases (belV xs 6 (originS xs s) == 1))
  all_goals (try dsimp only)
  all_goals (repeat first | exact k | apply belS_ok | apply storeS_ok | apply keyS_ok | apply siteS_ok | apply hostS_ok | apply hostAnyS_ok | apply originS_ok)
def storeAny0 (xs : List Int) (s : Cu) : Fx.KeyStore := match belV xs 12 (storeS xs s) == 0 with | true => ({ Vendor := [0, 9, 10].getD (belV xs 3 (belS xs 12 (storeS xs s))).toNat 0, Serial := (store0 xs s).Serial, Seed := (store0 xs s).Seed, Counter := (store0 xs s).Counter }) | false => (match belV xs 12 (storeS xs s) == 1 with | true => ({ Vendor := (store0 xs s).Vendor, Serial := [-1, 1000000, 1000001].getD (belV xs 3 (belS xs 12 (storeS xs s))).toNat 0, Seed := (store0 xs s).Seed, Counter := (store0 xs s).Counter }) | false => (match belV xs 12 (storeS xs s) == 2 with | true => ({ Vendor := (store0 xs s).Vendor, Serial := (store0 xs s).Serial, Seed := key0 xs (belS xs 12 (storeS xs s)), Counter := (store0 xs s).Counter }) | false => (match belV xs 12 (storeS xs s) == 3 with | true => ({ Vendor := (store0 xs s).Vendor, Serial := (store0 xs s).Serial, Seed := (store0 xs s).Seed, Counter := [-1, 999999, 1000000, 1000001].getD (belV xs 4 (belS xs 12 (storeS xs s))).toNat 0 }) | false => ({ Vendor := (store0 xs s).Vendor, Serial := (store0 xs s).Serial, Seed := (store0 xs s).Seed, Counter := (store0 xs s).Counter }))))
def storeAnyS (xs : List Int) (s : Cu) : Cu := match belV xs 12 (storeS xs s) == 0 with | true => ((belS xs 3 (belS xs 12 (storeS xs s)))) | false => (match belV xs 12 (storeS xs s) == 1 with | true => ((belS xs 3 (belS xs 12 (storeS xs s)))) | false => (match belV xs 12 (storeS xs s) == 2 with | true => ((keyS xs (belS xs 12 (storeS xs s)))) | false => (match belV xs 12 (storeS xs s) == 3 with | true => ((belS xs 4 (belS xs 12 (storeS xs s)))) | false => ((belS xs 12 (storeS xs s))))))
theorem storeAnyS_ok {xs : List Int} {s : Cu} (k : OkC xs s) : OkC xs (storeAnyS xs s) := by
  unfold storeAnyS
  all_goals (try cases (belV xs 12 (storeS xs s) == 0))
  all_goals (try cases (belV xs 12 (storeS xs s) == 1))
  all_goals (try cases (belV xs 12 (storeS xs s) == 2))
  all_goals (try cases (belV xs 12 (storeS xs s) == 3))
  all_goals (try dsimp only)
  all_goals (repeat first | exact k | apply belS_ok | apply storeS_ok | apply keyS_ok | apply siteS_ok | apply hostS_ok | apply hostAnyS_ok | apply originS_ok | apply originAnyS_ok)
end Go.Proofs.Ytpfjfnlefeocnaa.Dr
