import Derived.Test.YtogoppknimpkbaaGreatDoorM24
import Derived.Test.YtogoppknimpkbaaGreatDoorC16c
import Derived.Test.YtogoppknimpkbaaGreatDoorBb
import Derived.Test.YtogoppknimpkbaaGreatDoorBa
import Derived.Test.YtogoppknimpkbaaGreatDoorEa
import Derived.Shelf.Spec.SlicesInsertGrow
import Derived.Lib.AppendZerosOnto
namespace Go.Proofs.YtogoppknimpkbaaGreatDoor.C16k
open Go.ChangeShapes Go.WideShapes Go.ChangeAt Go.RowKit
open S0 S1 S9 Dm Fx M3 M8 M12 M13 C9 C10 M24 C16c E0 E1 E2 E3 E4 E7 E10 E15 E16 E17 E18 E19 E20 E21 E22 E24 Das
set_option linter.unusedVariables false
set_option linter.unusedSimpArgs false
set_option maxRecDepth 100000
theorem plainT (f : Nat → Tb) (n : Nat) : E9.PlainEl n 6 (fun i j => (dasTab (f i)).getD j (.val undef)) := plain_row (das := dasTab) (k := 6) (fun _ => rfl) (fun _ => rfl) f n
def keepO (qs : List Nat) (obs : Nat → Ob) : List (Nat × Ob) := qs.map fun q => (q, obs q)
theorem conIn (n lo hi : Int) : FnCon Tryz.prog 60 ([iV n, iV lo, iV hi]) ([bV (inT n lo hi)]) := by
  refine fn_go (p := bcase (decide (lo ≤ n)) (decide (lo ≤ n) = true ∧ (false = false ∧ Value.bool (decide (n ≤ hi)) = Value.bool (inT n lo hi))) (decide (lo ≤ n) = false ∧ (false = false ∧ Value.bool false = Value.bool (inT n lo hi)))) (noCalls) (noLoops) Tryz.func60 (by kernel_rfl) (by kernel_rfl) (by kernel_rfl) (fun _ => trivial) (by kernel_rfl) ?_
  refine bcase_intro (fun h0 => ⟨h0, rfl, congrArg _ ?g1⟩) (fun h0 => ⟨h0, rfl, congrArg _ ?g2⟩)
  case g1 => unfold inT; rw [show decide (lo ≤ n) = true from h0, Bool.true_and]
  case g2 => unfold inT; rw [show decide (lo ≤ n) = false from h0, Bool.false_and]
theorem conCopy (l : List Tb) (hn : l.length ≤ 16000000) : FnCon Tryz.prog 26 ([(false, [rowR 62 6 dasTab zTab l])]) ([(false, [rowR 62 6 dasTab zTab l])]) := by
  refine fn_go (p := ((E9.PlainEl l.length 6 fun i j => (dasTab (l.getD i zTab)).getD j (Da.val undef)) ∧ (0 + l.length ≤ 1000000000000 ∧ ((0 + l.length) * 64 ≤ 140737488355328 ∧ (false = false ∧ (DaEq (Da.row 62 6 (0 + l.length) fun i j => (dasTab (l.getD (i - 0) zTab)).getD j (Da.val undef)) (rowR 62 6 dasTab zTab l))))))) (noCalls) (noLoops) Tryz.func26 (by kernel_rfl) (by kernel_rfl) (by kernel_rfl) (fun _ => trivial) (by kernel_rfl) ?_
  refine ⟨?g0, ?g1, ?g2, rfl, ?g3⟩
  case g0 => exact plainT _ _
  case g3 => exact row_to (row_app row_nil row_self) (by simp)
  all_goals omega

/-- A browser's variable at block B, as it lies in a world. -/
structure AtB (b : Fx.Browser) (B : Nat) (A : Option Addr) (c : Nat) (w : World) : Prop where
  blk : w.heap[B]? = some (.cells #[.int .i64 b.Store.Vendor, .int .i64 b.Store.Serial, .int .i64 b.Store.Seed, .int .i64 b.Store.Counter, .slice A b.Tabs.length c, .int .i64 b.Asked] 28 (0, 0))
theorem AtB.cells {b : Fx.Browser} {B : Nat} {A : Option Addr} {c : Nat} {w : World} (h : AtB b B A c w) : B < w.heap.size ∧ ∀ j v, [Value.int .i64 b.Store.Vendor, .int .i64 b.Store.Serial, .int .i64 b.Store.Seed, .int .i64 b.Store.Counter, .slice A b.Tabs.length c, .int .i64 b.Asked][j]? = some v → w.cell? ⟨B, 0 + j, none⟩ = some v :=
  ⟨(Array.getElem?_eq_some_iff.1 h.blk).1, fun j v hj => by rw [Nat.zero_add, cell_of_row w B j _ _ _ h.blk]; simpa using hj⟩
/-- A tab's cells at an address of a world. -/
structure AtT (x : Tb) (g o : Nat) (w : World) : Prop where
  cells : g < w.heap.size ∧ ∀ j v, [Value.bool x.Origin.Secure, .string x.Origin.Host, .int .i64 x.Origin.Port, .bool x.Top.Secure, .string x.Top.Host, .int .i64 x.Top.Port][j]? = some v → w.cell? ⟨g, o + j, none⟩ = some v
theorem tab_at {l : List Tb} {g off c : Nat} {w : World} (hh : Shs w w.heap.size (rowR 62 6 dasTab zTab l).dc (.slice (some ⟨g, off, none⟩) l.length c)) {k : Nat} (hk : k < l.length) : AtT (l.getD k zTab) g (off + (k * 6 + 0)) w := by
  simp only [Da.dc, Shs] at hh
  obtain ⟨A, c', vs, e, hr, hl, _⟩ := hh
  injection e with e1 _ _
  subst e1
  obtain ⟨b, o2, e2, hlt, hc⟩ := hr.2 (by omega)
  injection e2 with e2
  injection e2 with e3 e4 _
  subst e3 e4
  refine ⟨hlt, fun j v hj => ?_⟩
  obtain ⟨h1, h2⟩ := rdsL_get hl
  have hj6 : j < 6 := by
    have := (List.getElem?_eq_some_iff.1 hj).1
    simpa using this
  have hq : ((List.range (l.length * 6)).map fun q => ((dasTab (l.getD (q / 6) zTab)).getD (q % 6) (.val undef)).dc)[k * 6 + j]? = some (.val v) := by
    rw [List.getElem?_map, List.getElem?_range (by omega), Option.map_some, show (k * 6 + j) / 6 = k by omega, show (k * 6 + j) % 6 = j by omega]
    match j, hj with
    | 0, hj | 1, hj | 2, hj | 3, hj | 4, hj | 5, hj => cases hj; simp [dasTab, Da.dc]
  obtain ⟨v', hv, hs⟩ := h2 _ _ hq
  simp only [Shs] at hs
  rw [show off + (k * 6 + 0) + j = off + (k * 6 + j) by omega, hc _ (by omega), hv, hs]
noncomputable def tabC (b : Fx.Browser) (t : Int) (B : Nat) (A : Option Addr) (c : Nat) (m : Bool) : Orc := ⟨fun d ag _ => match d with | some 13 => some [bV m] | _ => none, fun id vs _ => match id with
  | 20032 => some ⟨[], .one (.val (.slice A b.Tabs.length c)), []⟩
  | 20056 => some ⟨[], .one (.val (.bool m)), []⟩
  | 40024 => some ⟨[], .one (.val (.slice A b.Tabs.length c)), []⟩
  | _ => none, AtB b B A c⟩
noncomputable def tabV (b : Fx.Browser) (t : Int) (g off : Nat) : Value := match isTab b t with | true => .pointer (some ⟨g, off + (t.toNat * 6 + 0), none⟩) | false => .pointer none
noncomputable def canT (x : Tb) (z : ByteArray) (g o : Nat) : Orc := ⟨fun d ag _ => none, fun id vs _ => match id with
  | 20024 => some ⟨[], .agg [.val (.bool x.Origin.Secure), .val (.string x.Origin.Host), .val (.int .i64 x.Origin.Port)], []⟩
  | 20040 => some ⟨[], .one (.val (.bool (mayO x.Origin (bts z)))), []⟩
  | 20080 => some ⟨[], .agg [.val (.bool x.Origin.Secure), .val (.string x.Origin.Host), .val (.int .i64 x.Origin.Port)], []⟩
  | 20112 => some ⟨[], .agg [.val (.bool x.Top.Secure), .val (.string x.Top.Host), .val (.int .i64 x.Top.Port)], []⟩
  | 20120 => some ⟨[], .one (.val (.bool (sameO x.Origin x.Top))), []⟩
  | _ => none, AtT x g o⟩
theorem wpTab (b : Fx.Browser) (t : Int) (B g off c : Nat) (hn : b.Tabs.length ≤ 16000000) : awp Tryz.prog (tabC b t B (some ⟨g, off, none⟩) c (isTab b t)) (noLoops) (Tryz.f29.body.getD .skip) ⟨[.one (.val (.pointer (some ⟨B, 0, none⟩))), .one (.val (.int .i64 t))] ++ List.replicate (Tryz.f29.ntmps - ([.one (.val (.pointer (some ⟨B, 0, none⟩))), .one (.val (.int .i64 t))] : List AV).length) (.one (.val undef)), fun _ => .un⟩ (retK Tryz.prog Tryz.f29.results.toList [(false, [.val (tabV b t g off)]), bV (isTab b t)]) := by
  have hh_ : (Cust Tryz.prog (AtB b B (some { block := g, off := off }) c) 20032 (opOf (Tryz.f29.body.getD Code.skip) 1 4) [AV.one (Sc.val (Value.pointer (some { block := B, off := 4 })))] [] { need := [], val := AV.one (Sc.val (Value.slice (some { block := g, off := off }) b.Tabs.length c)), mem := [] } ∧ (FnCon Tryz.prog 60 [(false, [dI (t)]), (false, [dI (0)]), (false, [dI ((IntKind.i64.wrap ((↑b.Tabs.length : Int) - 1)))])] [(false, [dB ((isTab b t))])] ∧ bcase (!isTab b t) ((false = false ∧ Value.pointer none = tabV b t g off) ∧ (false = false ∧ Value.bool false = Value.bool (isTab b t))) (Cust Tryz.prog (AtB b B (some { block := g, off := off }) c) 40024 (opOf (Tryz.f29.body.getD Code.skip) 3 3) [AV.one (Sc.val (Value.pointer (some { block := B, off := 4 })))] [] { need := [], val := AV.one (Sc.val (Value.slice (some { block := g, off := off }) b.Tabs.length c)), mem := [] } ∧ ((0 ≤ t ∧ t < (↑b.Tabs.length : Int)) ∧ ((false = false ∧ Value.pointer (some { block := g, off := off + (t.toNat * 6 + 0) }) = tabV b t g off) ∧ (false = false ∧ Value.bool true = Value.bool (isTab b t))))))) = (awp Tryz.prog (tabC b t B (some ⟨g, off, none⟩) c (isTab b t)) (noLoops) (Tryz.f29.body.getD .skip) ⟨[.one (.val (.pointer (some ⟨B, 0, none⟩))), .one (.val (.int .i64 t))] ++ List.replicate (Tryz.f29.ntmps - ([.one (.val (.pointer (some ⟨B, 0, none⟩))), .one (.val (.int .i64 t))] : List AV).length) (.one (.val undef)), fun _ => .un⟩ (retK Tryz.prog Tryz.f29.results.toList [(false, [.val (tabV b t g off)]), bV (isTab b t)])) := by kernel_rfl
  rw [← hh_]
  clear hh_
  refine ⟨?g0, ?g1, bcase_intro (fun h2 => ⟨⟨rfl, ?g3⟩, rfl, congrArg _ ?g4⟩) (fun h2 => ⟨?g5, ⟨?g6, ?g7⟩, ⟨rfl, ?g8⟩, rfl, congrArg _ ?g9⟩)⟩
  case g0 | g5 => exact cust_loadP (r := false) (us := [.slice (some ⟨g, off, none⟩) b.Tabs.length c]) rfl (by kernel_rfl) (by kernel_rfl) (fun _ => rfl) (fun W hW => ⟨(AtB.cells hW).1, fun j v hj => by
      match j, hj with
      | 0, hj => cases hj; exact (AtB.cells hW).2 4 _ rfl⟩) rfl
  case g1 =>
    have := conIn t 0 (IntKind.i64.wrap ((b.Tabs.length : Int) - 1))
    rw [IntWalk.i64_in _ (by omega)] at this ⊢
    exact this
  case g3 | g4 =>
    have e : isTab b t = false := by simpa using h2
    first | exact e.symm | (unfold tabV; rw [e])
  all_goals have e : isTab b t = true := by simpa using h2
  case g6 | g7 => have := isTab_lt e; omega
  all_goals first | exact e.symm | (unfold tabV; rw [e])
theorem wpTab0 (b : Fx.Browser) (t : Int) (B : Nat) (A : Option Addr) (c : Nat) (he : b.Tabs = []) : awp Tryz.prog (tabC b t B A c false) (noLoops) (Tryz.f29.body.getD .skip) ⟨[.one (.val (.pointer (some ⟨B, 0, none⟩))), .one (.val (.int .i64 t))] ++ List.replicate (Tryz.f29.ntmps - ([.one (.val (.pointer (some ⟨B, 0, none⟩))), .one (.val (.int .i64 t))] : List AV).length) (.one (.val undef)), fun _ => .un⟩ (retK Tryz.prog Tryz.f29.results.toList [(false, [.val (.pointer none)]), bV false]) := by
  have hh_ : (Cust Tryz.prog (AtB b B A c) 20032 (opOf (Tryz.f29.body.getD Code.skip) 1 4) [AV.one (Sc.val (Value.pointer (some { block := B, off := 4 })))] [] { need := [], val := AV.one (Sc.val (Value.slice A b.Tabs.length c)), mem := [] } ∧ (FnCon Tryz.prog 60 [(false, [dI (t)]), (false, [dI (0)]), (false, [dI ((IntKind.i64.wrap ((↑b.Tabs.length : Int) - 1)))])] [(false, [dB (false)])] ∧ ((false = false ∧ Value.pointer none = Value.pointer none) ∧ (false = false ∧ Value.bool false = Value.bool false)))) = (awp Tryz.prog (tabC b t B A c false) (noLoops) (Tryz.f29.body.getD .skip) ⟨[.one (.val (.pointer (some ⟨B, 0, none⟩))), .one (.val (.int .i64 t))] ++ List.replicate (Tryz.f29.ntmps - ([.one (.val (.pointer (some ⟨B, 0, none⟩))), .one (.val (.int .i64 t))] : List AV).length) (.one (.val undef)), fun _ => .un⟩ (retK Tryz.prog Tryz.f29.results.toList [(false, [.val (.pointer none)]), bV false])) := by kernel_rfl
  rw [← hh_]
  clear hh_
  refine ⟨?g0, ?g1, ⟨rfl, rfl⟩, rfl, rfl⟩
  case g0 => exact cust_loadP (r := false) (us := [.slice A b.Tabs.length c]) rfl (by kernel_rfl) (by kernel_rfl) (fun _ => rfl) (fun W hW => ⟨(AtB.cells hW).1, fun j v hj => by
      match j, hj with
      | 0, hj => cases hj; exact (AtB.cells hW).2 4 _ rfl⟩) rfl
  case g1 =>
    have := conIn t 0 (IntKind.i64.wrap ((b.Tabs.length : Int) - 1))
    rw [inT_f (by rw [he, IntWalk.i64_in _ (by simp)]; simp; omega)] at this
    exact this
theorem wpCan (x : Tb) (z : ByteArray) (g o : Nat) (h1 : x.Origin.Host.size ≤ 4294967296) (h2 : x.Top.Host.size ≤ 4294967296) (hz : z.size ≤ 4294967296) : awp Tryz.prog (canT x z g o) (noLoops) (Tryz.f30.body.getD .skip) ⟨[.one (.val (.pointer (some ⟨g, o, none⟩))), .one (.val (.string z))] ++ List.replicate (Tryz.f30.ntmps - ([.one (.val (.pointer (some ⟨g, o, none⟩))), .one (.val (.string z))] : List AV).length) (.one (.val undef)), fun _ => .un⟩ (retK Tryz.prog Tryz.f30.results.toList [bV (mayT x z)]) := by
  have hh_ : bcase (mayO x.Origin (bts z)) (Cust Tryz.prog (AtT x g o) 20024 (opOf (Tryz.f30.body.getD Code.skip) 1 3) [AV.one (Sc.val (Value.pointer (some { block := g, off := o + 0 })))] [] { need := [], val := AV.agg [Sc.val (Value.bool x.Origin.Secure), Sc.val (Value.string x.Origin.Host), Sc.val (vI x.Origin.Port)], mem := [] } ∧ (Cust Tryz.prog (AtT x g o) 20040 (opOf (Tryz.f30.body.getD Code.skip) 1 5) [AV.one (Sc.val (Value.func (Fn.func 61) { toList := [] } { toList := [] })), AV.agg [Sc.val (Value.bool x.Origin.Secure), Sc.val (Value.string x.Origin.Host), Sc.val (vI x.Origin.Port)], AV.one (Sc.val (Value.string z))] [] { need := [], val := AV.one (Sc.val (Value.bool (mayO x.Origin (bts z)))), mem := [] } ∧ (mayO x.Origin (bts z) = true ∧ (Cust Tryz.prog (AtT x g o) 20080 (opOf (Tryz.f30.body.getD Code.skip) 1 10) [AV.one (Sc.val (Value.pointer (some { block := g, off := o + 0 })))] [] { need := [], val := AV.agg [Sc.val (Value.bool x.Origin.Secure), Sc.val (Value.string x.Origin.Host), Sc.val (vI x.Origin.Port)], mem := [] } ∧ (Cust Tryz.prog (AtT x g o) 20112 (opOf (Tryz.f30.body.getD Code.skip) 1 14) [AV.one (Sc.val (Value.pointer (some { block := g, off := o + 3 })))] [] { need := [], val := AV.agg [Sc.val (Value.bool x.Top.Secure), Sc.val (Value.string x.Top.Host), Sc.val (vI x.Top.Port)], mem := [] } ∧ (Cust Tryz.prog (AtT x g o) 20120 (opOf (Tryz.f30.body.getD Code.skip) 1 15) [AV.one (Sc.val (Value.func (Fn.func 62) { toList := [] } { toList := [] })), AV.agg [Sc.val (Value.bool x.Origin.Secure), Sc.val (Value.string x.Origin.Host), Sc.val (vI x.Origin.Port)], AV.agg [Sc.val (Value.bool x.Top.Secure), Sc.val (Value.string x.Top.Host), Sc.val (vI x.Top.Port)]] [] { need := [], val := AV.one (Sc.val (Value.bool (sameO x.Origin x.Top))), mem := [] } ∧ (false = false ∧ Value.bool (sameO x.Origin x.Top) = Value.bool (mayT x z)))))))) (Cust Tryz.prog (AtT x g o) 20024 (opOf (Tryz.f30.body.getD Code.skip) 1 3) [AV.one (Sc.val (Value.pointer (some { block := g, off := o + 0 })))] [] { need := [], val := AV.agg [Sc.val (Value.bool x.Origin.Secure), Sc.val (Value.string x.Origin.Host), Sc.val (vI x.Origin.Port)], mem := [] } ∧ (Cust Tryz.prog (AtT x g o) 20040 (opOf (Tryz.f30.body.getD Code.skip) 1 5) [AV.one (Sc.val (Value.func (Fn.func 61) { toList := [] } { toList := [] })), AV.agg [Sc.val (Value.bool x.Origin.Secure), Sc.val (Value.string x.Origin.Host), Sc.val (vI x.Origin.Port)], AV.one (Sc.val (Value.string z))] [] { need := [], val := AV.one (Sc.val (Value.bool (mayO x.Origin (bts z)))), mem := [] } ∧ (mayO x.Origin (bts z) = false ∧ (false = false ∧ Value.bool false = Value.bool (mayT x z))))) = (awp Tryz.prog (canT x z g o) (noLoops) (Tryz.f30.body.getD .skip) ⟨[.one (.val (.pointer (some ⟨g, o, none⟩))), .one (.val (.string z))] ++ List.replicate (Tryz.f30.ntmps - ([.one (.val (.pointer (some ⟨g, o, none⟩))), .one (.val (.string z))] : List AV).length) (.one (.val undef)), fun _ => .un⟩ (retK Tryz.prog Tryz.f30.results.toList [bV (mayT x z)])) := by kernel_rfl
  rw [← hh_]
  clear hh_
  refine bcase_intro (fun h0 => ⟨?g1, ?g2, h0, ?g3, ?g4, ?g5, rfl, congrArg _ ?g6⟩) (fun h0 => ⟨?g7, ?g8, h0, rfl, congrArg _ ?g9⟩)
  case g1 | g3 | g7 => exact cust_loadP (r := true) (us := [.bool x.Origin.Secure, .string x.Origin.Host, .int .i64 x.Origin.Port]) rfl (by kernel_rfl) (by kernel_rfl) (fun h => by cases h) (fun W hW => ⟨hW.cells.1, fun j v hj => by
      match j, hj with
      | 0, hj => cases hj; exact hW.cells.2 0 _ rfl
      | 1, hj => cases hj; exact hW.cells.2 1 _ rfl
      | 2, hj => cases hj; exact hW.cells.2 2 _ rfl⟩) rfl
  case g4 => exact cust_loadP (r := true) (us := [.bool x.Top.Secure, .string x.Top.Host, .int .i64 x.Top.Port]) rfl (by kernel_rfl) (by kernel_rfl) (fun h => by cases h) (fun W hW => ⟨hW.cells.1, fun j v hj => by
      match j, hj with
      | 0, hj => cases hj; exact hW.cells.2 3 _ rfl
      | 1, hj => cases hj; exact hW.cells.2 4 _ rfl
      | 2, hj => cases hj; exact hW.cells.2 5 _ rfl⟩) rfl
  case g2 | g8 => exact cust_plain (us := [.agg #[.bool x.Origin.Secure, .string x.Origin.Host, .int .i64 x.Origin.Port], .string z]) (u := .bool (mayO x.Origin (bts z))) rfl rfl (con_enters Tryz.func61 (by kernel_rfl) (by kernel_rfl)) rfl rfl fun W0 w hold hb => C9i.implMayM w x.Origin z [.bool x.Origin.Secure, .string x.Origin.Host, .int .i64 x.Origin.Port] Origin.mkR h1 hz
  case g5 => exact cust_plain (us := [.agg #[.bool x.Origin.Secure, .string x.Origin.Host, .int .i64 x.Origin.Port], .agg #[.bool x.Top.Secure, .string x.Top.Host, .int .i64 x.Top.Port]]) (u := .bool (sameO x.Origin x.Top)) rfl rfl (con_enters Tryz.func62 (by kernel_rfl) (by kernel_rfl)) rfl rfl fun W0 w hold hb => C9v.implSameM w x.Origin x.Top [.bool x.Origin.Secure, .string x.Origin.Host, .int .i64 x.Origin.Port] [.bool x.Top.Secure, .string x.Top.Host, .int .i64 x.Top.Port] Origin.mkR Origin.mkR h1 h2
  case g6 => unfold mayT; rw [h0]; rfl
  case g9 => unfold mayT; rw [h0]; rfl
end Go.Proofs.YtogoppknimpkbaaGreatDoor.C16k
