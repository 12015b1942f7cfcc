import Derived.Test.YtllaacdikjffmaaGreatC15u
import Derived.Test.YtllaacdikjffmaaGreatM22
import Derived.Test.YtllaacdikjffmaaGreatC12d
import Derived.Test.YtllaacdikjffmaaGreatC12t
import Derived.Test.YtllaacdikjffmaaGreatAp
import Derived.Deep.DeepCutAuto
import Derived.Test.YtllaacdikjffmaaGreatT12i
import Derived.Test.YtllaacdikjffmaaGreatC12c
import Derived.Test.YtllaacdikjffmaaGreatEa
import Derived.Deep.RegionLaw
import Derived.Test.YtllaacdikjffmaaGreatC12f
namespace Go.Proofs.YtllaacdikjffmaaGreat.C15w
open Go.ChangeShapes Go.WideShapes Go.ChangeAt Go.RowKit
open S0 S1 S9 Dm Fx M8 M12 M13 M18 M21 M22 C3 E0 E1 E2 E3 E4 E7 E9 E10 E15 E16 E17 E18 E19 E20 E21 E22 E24 E26 Das C14k C15i C15u
set_option linter.unusedVariables false
set_option linter.unusedSimpArgs false
set_option maxRecDepth 100000
structure AtS (s : Fx.Site) (B : Nat) (A : Option Addr) (c : Nat) (x4 x5 : Value) (w : World) : Prop where
  blk : w.heap[B]? = some (.cells #[.string s.Name, .slice A s.Accounts.length c, .int .i64 s.Book.Seed, .int .i64 s.Book.Next, x4, x5] 35 (0, 0))
  sh : ShsL w w.heap.size s.dcs [.string s.Name, .slice A s.Accounts.length c, .int .i64 s.Book.Seed, .int .i64 s.Book.Next, x4, x5]
theorem AtS.cells {s : Fx.Site} {B c : Nat} {A : Option Addr} {x4 x5 : Value} {w : World} (h : AtS s B A c x4 x5 w) : B < w.heap.size ∧ ∀ j v, [Value.string s.Name, .slice A s.Accounts.length c, .int .i64 s.Book.Seed, .int .i64 s.Book.Next, x4, x5][j]? = some v → w.cell? ⟨B, 0 + j, none⟩ = some v :=
  ⟨(Array.getElem?_eq_some_iff.1 h.blk).1, fun j v hj => by rw [Nat.zero_add, cell_of_row w B j _ _ _ h.blk]; simpa using hj⟩
theorem AtS.shs {s : Fx.Site} {B c : Nat} {A : Option Addr} {x4 x5 : Value} {W w : World} (h : AtS s B A c x4 x5 W) (hb : Below W.heap.size W w) : ShsL w w.heap.size s.dcs [.string s.Name, .slice A s.Accounts.length c, .int .i64 s.Book.Seed, .int .i64 s.Book.Next, x4, x5] := shsL_on (w := W) h.sh hb
theorem wpF1 (s : Fx.Site) (i : Int) (B c : Nat) (x4 x5 : Value) (A : Option Addr) (hv : vsi s = false) (hn : s.Accounts.length ≤ 16000000) (hc : ∀ a ∈ s.Accounts, a.Credentials.length ≤ 16000000) (hk : ∀ a ∈ s.Accounts, ∀ x ∈ a.Credentials, Credential.ok x) (hb : s.Book.Open.length ≤ 16000000) (hz : s.Name.size ≤ 4294967296) : awp Tryz.prog (⟨fun _ _ _ => none, fun id vs _ => match id with | 20016 => some ⟨[], .agg [.val (.string s.Name), .val (.slice A s.Accounts.length c), .val (.int .i64 s.Book.Seed), .val (.int .i64 s.Book.Next), .val (x4), .val (x5)], []⟩ | 20032 => some ⟨[], .one (.val (.int .i64 (findA s.Accounts i))), []⟩ | 30016 => some ⟨[], .agg [.val (.string s.Name), .val (.slice A s.Accounts.length c), .val (.int .i64 s.Book.Seed), .val (.int .i64 s.Book.Next), .val (x4), .val (x5)], []⟩ | 30024 => some ⟨[], .one (.val (.bool false)), []⟩ | 50024 => some ⟨[], .one (.val (.slice A s.Accounts.length c)), []⟩ | _ => none, AtS s B A c x4 x5⟩) (noLoops) (Tryz.f25.body.getD .skip) ⟨[.one (.val (.pointer (some ⟨B, 0, none⟩))), .one (.val (.int .i64 i))] ++ List.replicate (Tryz.f25.ntmps - ([.one (.val (.pointer (some ⟨B, 0, none⟩))), .one (.val (.int .i64 i))] : List AV).length) (.one (.val undef)), fun _ => .un⟩ (retK Tryz.prog Tryz.f25.results.toList [(false, [.val (.pointer none)]), bV false]) := by
  have hh_ : (Cust Tryz.prog (AtS s B A c x4 x5) 20016 (opOf (Tryz.f25.body.getD Code.skip) 1 2) [AV.one (Sc.val (Value.pointer (some { block := B, off := 0 })))] [] { need := [], val := AV.agg [Sc.val (Value.string s.Name), Sc.val (Value.slice A s.Accounts.length c), Sc.val (vI s.Book.Seed), Sc.val (vI s.Book.Next), Sc.val x4, Sc.val x5], mem := [] } ∧ (Cust Tryz.prog (AtS s B A c x4 x5) 20032 (opOf (Tryz.f25.body.getD Code.skip) 1 4) [AV.one (Sc.val (Value.func (Fn.func 53) { toList := [] } { toList := [] })), AV.agg [Sc.val (Value.string s.Name), Sc.val (Value.slice A s.Accounts.length c), Sc.val (vI s.Book.Seed), Sc.val (vI s.Book.Next), Sc.val x4, Sc.val x5], AV.one (Sc.val (vI i))] [] { need := [], val := AV.one (Sc.val (vI (findA s.Accounts i))), mem := [] } ∧ (Cust Tryz.prog (AtS s B A c x4 x5) 30016 (opOf (Tryz.f25.body.getD Code.skip) 2 2) [AV.one (Sc.val (Value.pointer (some { block := B, off := 0 })))] [] { need := [], val := AV.agg [Sc.val (Value.string s.Name), Sc.val (Value.slice A s.Accounts.length c), Sc.val (vI s.Book.Seed), Sc.val (vI s.Book.Next), Sc.val x4, Sc.val x5], mem := [] } ∧ (Cust Tryz.prog (AtS s B A c x4 x5) 30024 (opOf (Tryz.f25.body.getD Code.skip) 2 3) [AV.one (Sc.val (Value.func (Fn.func 54) { toList := [] } { toList := [] })), AV.agg [Sc.val (Value.string s.Name), Sc.val (Value.slice A s.Accounts.length c), Sc.val (vI s.Book.Seed), Sc.val (vI s.Book.Next), Sc.val x4, Sc.val x5]] [] { need := [], val := AV.one (Sc.val (Value.bool false)), mem := [] } ∧ (true = true ∧ ((false = false ∧ Value.pointer none = Value.pointer none) ∧ (false = false ∧ Value.bool false = Value.bool false))))))) = (awp Tryz.prog (⟨fun _ _ _ => none, fun id vs _ => match id with | 20016 => some ⟨[], .agg [.val (.string s.Name), .val (.slice A s.Accounts.length c), .val (.int .i64 s.Book.Seed), .val (.int .i64 s.Book.Next), .val (x4), .val (x5)], []⟩ | 20032 => some ⟨[], .one (.val (.int .i64 (findA s.Accounts i))), []⟩ | 30016 => some ⟨[], .agg [.val (.string s.Name), .val (.slice A s.Accounts.length c), .val (.int .i64 s.Book.Seed), .val (.int .i64 s.Book.Next), .val (x4), .val (x5)], []⟩ | 30024 => some ⟨[], .one (.val (.bool false)), []⟩ | 50024 => some ⟨[], .one (.val (.slice A s.Accounts.length c)), []⟩ | _ => none, AtS s B A c x4 x5⟩) (noLoops) (Tryz.f25.body.getD .skip) ⟨[.one (.val (.pointer (some ⟨B, 0, none⟩))), .one (.val (.int .i64 i))] ++ List.replicate (Tryz.f25.ntmps - ([.one (.val (.pointer (some ⟨B, 0, none⟩))), .one (.val (.int .i64 i))] : List AV).length) (.one (.val undef)), fun _ => .un⟩ (retK Tryz.prog Tryz.f25.results.toList [(false, [.val (.pointer none)]), bV false])) := by kernel_rfl
  rw [← hh_]
  clear hh_
  refine ⟨?g0, ?g1, ?g2, ?g3, rfl, ⟨rfl, rfl⟩, rfl, rfl⟩
  case g0 | g2 => exact cust_loadP (r := true) (us := [.string s.Name, .slice A s.Accounts.length c, .int .i64 s.Book.Seed, .int .i64 s.Book.Next, x4, x5]) rfl (by kernel_rfl) (by kernel_rfl) (fun h => by cases h) (fun W hW => AtS.cells hW) rfl
  case g1 => exact cust_plain (us := [.agg #[.string s.Name, .slice A s.Accounts.length c, .int .i64 s.Book.Seed, .int .i64 s.Book.Next, x4, x5], .int .i64 i]) (u := .int .i64 (findA s.Accounts i)) rfl rfl (con_enters Tryz.func53 (by kernel_rfl) (by kernel_rfl)) rfl rfl fun W0 w hold hb => (by
      have := con_plain (conFnd s i hn) (us := [.int .i64 (findA s.Accounts i)]) rfl (arg_agg (dasSite_dc s) (AtS.shs hold hb) (arg_val arg_nil))
      exact this)
  case g3 => exact cust_plain (us := [.agg #[.string s.Name, .slice A s.Accounts.length c, .int .i64 s.Book.Seed, .int .i64 s.Book.Next, x4, x5]]) (u := .bool false) rfl rfl (con_enters Tryz.func54 (by kernel_rfl) (by kernel_rfl)) rfl rfl fun W0 w hold hb2 => (by
      have := con_plain (conVsi s hn hc hk hb hz) (us := [.bool (vsi s)]) rfl (arg_agg (dasSite_dc s) (AtS.shs hold hb2) arg_nil)
      rw [hv] at this
      exact this)
theorem wpF2 (s : Fx.Site) (i : Int) (B c : Nat) (x4 x5 : Value) (A : Option Addr) (hv : vsi s = true) (hf : findA s.Accounts i = -1) (hn : s.Accounts.length ≤ 16000000) (hc : ∀ a ∈ s.Accounts, a.Credentials.length ≤ 16000000) (hk : ∀ a ∈ s.Accounts, ∀ x ∈ a.Credentials, Credential.ok x) (hb : s.Book.Open.length ≤ 16000000) (hz : s.Name.size ≤ 4294967296) : awp Tryz.prog (⟨fun _ _ _ => none, fun id vs _ => match id with | 20016 => some ⟨[], .agg [.val (.string s.Name), .val (.slice A s.Accounts.length c), .val (.int .i64 s.Book.Seed), .val (.int .i64 s.Book.Next), .val (x4), .val (x5)], []⟩ | 20032 => some ⟨[], .one (.val (.int .i64 (-1))), []⟩ | 30016 => some ⟨[], .agg [.val (.string s.Name), .val (.slice A s.Accounts.length c), .val (.int .i64 s.Book.Seed), .val (.int .i64 s.Book.Next), .val (x4), .val (x5)], []⟩ | 30024 => some ⟨[], .one (.val (.bool true)), []⟩ | 50024 => some ⟨[], .one (.val (.slice A s.Accounts.length c)), []⟩ | _ => none, AtS s B A c x4 x5⟩) (noLoops) (Tryz.f25.body.getD .skip) ⟨[.one (.val (.pointer (some ⟨B, 0, none⟩))), .one (.val (.int .i64 i))] ++ List.replicate (Tryz.f25.ntmps - ([.one (.val (.pointer (some ⟨B, 0, none⟩))), .one (.val (.int .i64 i))] : List AV).length) (.one (.val undef)), fun _ => .un⟩ (retK Tryz.prog Tryz.f25.results.toList [(false, [.val (.pointer none)]), bV false]) := by
  have hh_ : (Cust Tryz.prog (AtS s B A c x4 x5) 20016 (opOf (Tryz.f25.body.getD Code.skip) 1 2) [AV.one (Sc.val (Value.pointer (some { block := B, off := 0 })))] [] { need := [], val := AV.agg [Sc.val (Value.string s.Name), Sc.val (Value.slice A s.Accounts.length c), Sc.val (vI s.Book.Seed), Sc.val (vI s.Book.Next), Sc.val x4, Sc.val x5], mem := [] } ∧ (Cust Tryz.prog (AtS s B A c x4 x5) 20032 (opOf (Tryz.f25.body.getD Code.skip) 1 4) [AV.one (Sc.val (Value.func (Fn.func 53) { toList := [] } { toList := [] })), AV.agg [Sc.val (Value.string s.Name), Sc.val (Value.slice A s.Accounts.length c), Sc.val (vI s.Book.Seed), Sc.val (vI s.Book.Next), Sc.val x4, Sc.val x5], AV.one (Sc.val (vI i))] [] { need := [], val := AV.one (Sc.val (vI (-1))), mem := [] } ∧ (Cust Tryz.prog (AtS s B A c x4 x5) 30016 (opOf (Tryz.f25.body.getD Code.skip) 2 2) [AV.one (Sc.val (Value.pointer (some { block := B, off := 0 })))] [] { need := [], val := AV.agg [Sc.val (Value.string s.Name), Sc.val (Value.slice A s.Accounts.length c), Sc.val (vI s.Book.Seed), Sc.val (vI s.Book.Next), Sc.val x4, Sc.val x5], mem := [] } ∧ (Cust Tryz.prog (AtS s B A c x4 x5) 30024 (opOf (Tryz.f25.body.getD Code.skip) 2 3) [AV.one (Sc.val (Value.func (Fn.func 54) { toList := [] } { toList := [] })), AV.agg [Sc.val (Value.string s.Name), Sc.val (Value.slice A s.Accounts.length c), Sc.val (vI s.Book.Seed), Sc.val (vI s.Book.Next), Sc.val x4, Sc.val x5]] [] { need := [], val := AV.one (Sc.val (Value.bool true)), mem := [] } ∧ (false = false ∧ ((false = false ∧ Value.pointer none = Value.pointer none) ∧ (false = false ∧ Value.bool false = Value.bool false))))))) = (awp Tryz.prog (⟨fun _ _ _ => none, fun id vs _ => match id with | 20016 => some ⟨[], .agg [.val (.string s.Name), .val (.slice A s.Accounts.length c), .val (.int .i64 s.Book.Seed), .val (.int .i64 s.Book.Next), .val (x4), .val (x5)], []⟩ | 20032 => some ⟨[], .one (.val (.int .i64 (-1))), []⟩ | 30016 => some ⟨[], .agg [.val (.string s.Name), .val (.slice A s.Accounts.length c), .val (.int .i64 s.Book.Seed), .val (.int .i64 s.Book.Next), .val (x4), .val (x5)], []⟩ | 30024 => some ⟨[], .one (.val (.bool true)), []⟩ | 50024 => some ⟨[], .one (.val (.slice A s.Accounts.length c)), []⟩ | _ => none, AtS s B A c x4 x5⟩) (noLoops) (Tryz.f25.body.getD .skip) ⟨[.one (.val (.pointer (some ⟨B, 0, none⟩))), .one (.val (.int .i64 i))] ++ List.replicate (Tryz.f25.ntmps - ([.one (.val (.pointer (some ⟨B, 0, none⟩))), .one (.val (.int .i64 i))] : List AV).length) (.one (.val undef)), fun _ => .un⟩ (retK Tryz.prog Tryz.f25.results.toList [(false, [.val (.pointer none)]), bV false])) := by kernel_rfl
  rw [← hh_]
  clear hh_
  refine ⟨?g0, ?g1, ?g2, ?g3, rfl, ⟨rfl, rfl⟩, rfl, rfl⟩
  case g0 | g2 => exact cust_loadP (r := true) (us := [.string s.Name, .slice A s.Accounts.length c, .int .i64 s.Book.Seed, .int .i64 s.Book.Next, x4, x5]) rfl (by kernel_rfl) (by kernel_rfl) (fun h => by cases h) (fun W hW => AtS.cells hW) rfl
  case g1 => exact cust_plain (us := [.agg #[.string s.Name, .slice A s.Accounts.length c, .int .i64 s.Book.Seed, .int .i64 s.Book.Next, x4, x5], .int .i64 i]) (u := .int .i64 (-1)) rfl rfl (con_enters Tryz.func53 (by kernel_rfl) (by kernel_rfl)) rfl rfl fun W0 w hold hb => (by
      have := con_plain (conFnd s i hn) (us := [.int .i64 (findA s.Accounts i)]) rfl (arg_agg (dasSite_dc s) (AtS.shs hold hb) (arg_val arg_nil))
      rw [hf] at this
      exact this)
  case g3 => exact cust_plain (us := [.agg #[.string s.Name, .slice A s.Accounts.length c, .int .i64 s.Book.Seed, .int .i64 s.Book.Next, x4, x5]]) (u := .bool true) rfl rfl (con_enters Tryz.func54 (by kernel_rfl) (by kernel_rfl)) rfl rfl fun W0 w hold hb2 => (by
      have := con_plain (conVsi s hn hc hk hb hz) (us := [.bool (vsi s)]) rfl (arg_agg (dasSite_dc s) (AtS.shs hold hb2) arg_nil)
      rw [hv] at this
      exact this)
theorem wpT (s : Fx.Site) (i : Int) (B c : Nat) (x4 x5 : Value) (g off k : Nat) (hv : vsi s = true) (hf : findA s.Accounts i = (k : Int)) (hkl : k < s.Accounts.length) (hn : s.Accounts.length ≤ 16000000) (hc : ∀ a ∈ s.Accounts, a.Credentials.length ≤ 16000000) (hk : ∀ a ∈ s.Accounts, ∀ x ∈ a.Credentials, Credential.ok x) (hb : s.Book.Open.length ≤ 16000000) (hz : s.Name.size ≤ 4294967296) : awp Tryz.prog (⟨fun _ _ _ => none, fun id vs _ => match id with | 20016 => some ⟨[], .agg [.val (.string s.Name), .val (.slice (some ⟨g, off, none⟩) s.Accounts.length c), .val (.int .i64 s.Book.Seed), .val (.int .i64 s.Book.Next), .val (x4), .val (x5)], []⟩ | 20032 => some ⟨[], .one (.val (.int .i64 ((k : Int)))), []⟩ | 30016 => some ⟨[], .agg [.val (.string s.Name), .val (.slice (some ⟨g, off, none⟩) s.Accounts.length c), .val (.int .i64 s.Book.Seed), .val (.int .i64 s.Book.Next), .val (x4), .val (x5)], []⟩ | 30024 => some ⟨[], .one (.val (.bool true)), []⟩ | 50024 => some ⟨[], .one (.val (.slice (some ⟨g, off, none⟩) s.Accounts.length c)), []⟩ | _ => none, AtS s B (some ⟨g, off, none⟩) c x4 x5⟩) (noLoops) (Tryz.f25.body.getD .skip) ⟨[.one (.val (.pointer (some ⟨B, 0, none⟩))), .one (.val (.int .i64 i))] ++ List.replicate (Tryz.f25.ntmps - ([.one (.val (.pointer (some ⟨B, 0, none⟩))), .one (.val (.int .i64 i))] : List AV).length) (.one (.val undef)), fun _ => .un⟩ (retK Tryz.prog Tryz.f25.results.toList [(false, [.val (.pointer (some ⟨g, off + (k * 3 + 0), none⟩))]), bV true]) := by
  have hh_ : (Cust Tryz.prog (AtS s B (some { block := g, off := off }) c x4 x5) 20016 (opOf (Tryz.f25.body.getD Code.skip) 1 2) [AV.one (Sc.val (Value.pointer (some { block := B, off := 0 })))] [] { need := [], val := AV.agg [Sc.val (Value.string s.Name), Sc.val (Value.slice (some { block := g, off := off }) s.Accounts.length c), Sc.val (vI s.Book.Seed), Sc.val (vI s.Book.Next), Sc.val x4, Sc.val x5], mem := [] } ∧ (Cust Tryz.prog (AtS s B (some { block := g, off := off }) c x4 x5) 20032 (opOf (Tryz.f25.body.getD Code.skip) 1 4) [AV.one (Sc.val (Value.func (Fn.func 53) { toList := [] } { toList := [] })), AV.agg [Sc.val (Value.string s.Name), Sc.val (Value.slice (some { block := g, off := off }) s.Accounts.length c), Sc.val (vI s.Book.Seed), Sc.val (vI s.Book.Next), Sc.val x4, Sc.val x5], AV.one (Sc.val (vI i))] [] { need := [], val := AV.one (Sc.val (vI (↑k : Int))), mem := [] } ∧ (Cust Tryz.prog (AtS s B (some { block := g, off := off }) c x4 x5) 30016 (opOf (Tryz.f25.body.getD Code.skip) 2 2) [AV.one (Sc.val (Value.pointer (some { block := B, off := 0 })))] [] { need := [], val := AV.agg [Sc.val (Value.string s.Name), Sc.val (Value.slice (some { block := g, off := off }) s.Accounts.length c), Sc.val (vI s.Book.Seed), Sc.val (vI s.Book.Next), Sc.val x4, Sc.val x5], mem := [] } ∧ (Cust Tryz.prog (AtS s B (some { block := g, off := off }) c x4 x5) 30024 (opOf (Tryz.f25.body.getD Code.skip) 2 3) [AV.one (Sc.val (Value.func (Fn.func 54) { toList := [] } { toList := [] })), AV.agg [Sc.val (Value.string s.Name), Sc.val (Value.slice (some { block := g, off := off }) s.Accounts.length c), Sc.val (vI s.Book.Seed), Sc.val (vI s.Book.Next), Sc.val x4, Sc.val x5]] [] { need := [], val := AV.one (Sc.val (Value.bool true)), mem := [] } ∧ (false = false ∧ (Cust Tryz.prog (AtS s B (some { block := g, off := off }) c x4 x5) 50024 (opOf (Tryz.f25.body.getD Code.skip) 4 3) [AV.one (Sc.val (Value.pointer (some { block := B, off := 1 })))] [] { need := [], val := AV.one (Sc.val (Value.slice (some { block := g, off := off }) s.Accounts.length c)), mem := [] } ∧ ((0 ≤ (↑k : Int) ∧ (↑k : Int) < (↑s.Accounts.length : Int)) ∧ ((false = false ∧ Value.pointer (some { block := g, off := off + ((↑k : Int).toNat * 3 + 0) }) = Value.pointer (some { block := g, off := off + (k * 3 + 0) })) ∧ (false = false ∧ Value.bool true = Value.bool true))))))))) = (awp Tryz.prog (⟨fun _ _ _ => none, fun id vs _ => match id with | 20016 => some ⟨[], .agg [.val (.string s.Name), .val (.slice (some ⟨g, off, none⟩) s.Accounts.length c), .val (.int .i64 s.Book.Seed), .val (.int .i64 s.Book.Next), .val (x4), .val (x5)], []⟩ | 20032 => some ⟨[], .one (.val (.int .i64 ((k : Int)))), []⟩ | 30016 => some ⟨[], .agg [.val (.string s.Name), .val (.slice (some ⟨g, off, none⟩) s.Accounts.length c), .val (.int .i64 s.Book.Seed), .val (.int .i64 s.Book.Next), .val (x4), .val (x5)], []⟩ | 30024 => some ⟨[], .one (.val (.bool true)), []⟩ | 50024 => some ⟨[], .one (.val (.slice (some ⟨g, off, none⟩) s.Accounts.length c)), []⟩ | _ => none, AtS s B (some ⟨g, off, none⟩) c x4 x5⟩) (noLoops) (Tryz.f25.body.getD .skip) ⟨[.one (.val (.pointer (some ⟨B, 0, none⟩))), .one (.val (.int .i64 i))] ++ List.replicate (Tryz.f25.ntmps - ([.one (.val (.pointer (some ⟨B, 0, none⟩))), .one (.val (.int .i64 i))] : List AV).length) (.one (.val undef)), fun _ => .un⟩ (retK Tryz.prog Tryz.f25.results.toList [(false, [.val (.pointer (some ⟨g, off + (k * 3 + 0), none⟩))]), bV true])) := by kernel_rfl
  rw [← hh_]
  clear hh_
  refine ⟨?g0, ?g1, ?g2, ?g3, rfl, ?g4, ⟨?g5, ?g6⟩, ⟨rfl, ?g7⟩, rfl, rfl⟩
  case g0 | g2 => exact cust_loadP (r := true) (us := [.string s.Name, .slice (some ⟨g, off, none⟩) s.Accounts.length c, .int .i64 s.Book.Seed, .int .i64 s.Book.Next, x4, x5]) rfl (by kernel_rfl) (by kernel_rfl) (fun h => by cases h) (fun W hW => AtS.cells hW) rfl
  case g1 => exact cust_plain (us := [.agg #[.string s.Name, .slice (some ⟨g, off, none⟩) s.Accounts.length c, .int .i64 s.Book.Seed, .int .i64 s.Book.Next, x4, x5], .int .i64 i]) (u := .int .i64 ((k : Int))) rfl rfl (con_enters Tryz.func53 (by kernel_rfl) (by kernel_rfl)) rfl rfl fun W0 w hold hb => (by
      have := con_plain (conFnd s i hn) (us := [.int .i64 (findA s.Accounts i)]) rfl (arg_agg (dasSite_dc s) (AtS.shs hold hb) (arg_val arg_nil))
      rw [hf] at this
      exact this)
  case g3 => exact cust_plain (us := [.agg #[.string s.Name, .slice (some ⟨g, off, none⟩) s.Accounts.length c, .int .i64 s.Book.Seed, .int .i64 s.Book.Next, x4, x5]]) (u := .bool true) rfl rfl (con_enters Tryz.func54 (by kernel_rfl) (by kernel_rfl)) rfl rfl fun W0 w hold hb2 => (by
      have := con_plain (conVsi s hn hc hk hb hz) (us := [.bool (vsi s)]) rfl (arg_agg (dasSite_dc s) (AtS.shs hold hb2) arg_nil)
      rw [hv] at this
      exact this)
  case g4 => exact cust_loadP (r := false) (us := [.slice (some ⟨g, off, none⟩) s.Accounts.length c]) rfl (by kernel_rfl) (by kernel_rfl) (fun _ => rfl) (fun W hW => ⟨(AtS.cells hW).1, fun j v hj => by
      match j, hj with
      | 0, hj => cases hj; exact (AtS.cells hW).2 1 _ rfl⟩) rfl
  case g5 => omega
  case g6 => omega
  case g7 => rfl
theorem neg_one {l : List Ac} {i : Int} (h : findA l i < 0) : findA l i = -1 := by
  unfold findA at *
  split at h
  · omega
  · rfl
theorem account_f (w : World) (s : Fx.Site) (i : Int) (B : Nat) (A : Option Addr) (c : Nat) (x4 x5 : Value) (h : fndB s i = false) (hn : s.Accounts.length ≤ 16000000) (hc : ∀ a ∈ s.Accounts, a.Credentials.length ≤ 16000000) (hk : ∀ a ∈ s.Accounts, ∀ x ∈ a.Credentials, Credential.ok x) (hb : s.Book.Open.length ≤ 16000000) (hz : s.Name.size ≤ 4294967296) (hat : AtS s B A c x4 x5 w) : Calls Tryz.prog 25 #[.pointer (some ⟨B, 0, none⟩), .int .i64 i] w (Gives (.tuple #[.pointer none, .bool false]) w) := by
  cases hv : vsi s with
  | false => exact law_goP (us := [.pointer none, .bool false]) _ noLoops Tryz.func25 (by kernel_rfl) (by kernel_rfl) rfl (wpF1 s i B c x4 x5 A hv hn hc hk hb hz) hat rfl (args_of (us := [.pointer (some ⟨B, 0, none⟩), .int .i64 i]))
  | true =>
    have hf : findA s.Accounts i < 0 := by
      unfold fndB at h
      rw [hv] at h
      simpa using h
    exact law_goP (us := [.pointer none, .bool false]) _ noLoops Tryz.func25 (by kernel_rfl) (by kernel_rfl) rfl (wpF2 s i B c x4 x5 A hv (neg_one hf) hn hc hk hb hz) hat rfl (args_of (us := [.pointer (some ⟨B, 0, none⟩), .int .i64 i]))
theorem account_t (w : World) (s : Fx.Site) (i : Int) (B g off k c : Nat) (x4 x5 : Value) (h : fndB s i = true) (hf : findA s.Accounts i = (k : Int)) (hkl : k < s.Accounts.length) (hn : s.Accounts.length ≤ 16000000) (hc : ∀ a ∈ s.Accounts, a.Credentials.length ≤ 16000000) (hk : ∀ a ∈ s.Accounts, ∀ x ∈ a.Credentials, Credential.ok x) (hb : s.Book.Open.length ≤ 16000000) (hz : s.Name.size ≤ 4294967296) (hat : AtS s B (some ⟨g, off, none⟩) c x4 x5 w) : Calls Tryz.prog 25 #[.pointer (some ⟨B, 0, none⟩), .int .i64 i] w (Gives (.tuple #[.pointer (some ⟨g, off + (k * 3 + 0), none⟩), .bool true]) w) :=
  law_goP (us := [.pointer (some ⟨g, off + (k * 3 + 0), none⟩), .bool true]) _ noLoops Tryz.func25 (by kernel_rfl) (by kernel_rfl) rfl (wpT s i B c x4 x5 g off k (fnd_t h).1 hf hkl hn hc hk hb hz) hat rfl (args_of (us := [.pointer (some ⟨B, 0, none⟩), .int .i64 i]))
section
variable {old : World → Prop} {id q r1 r2 r3 : Nat} {o : Oper} {c : Call} {y : AV} {s : Fx.Site} {d1 d2 d3 : Da} {i : Int}
/-- What a call finds at the site's variable: rows of one's own in it. -/
theorem at_site {obs : Nat → Ob} {ρ : Roots} {W0 w : World} {vs : List AV} (ho : o.op = .call c) (hvs : vs.flatMap AvIds = [q]) (hm : Mem W0 obs ρ w) (hos : named o.op obs vs = [.var 35 [.val (.string s.Name), .own r1, .val (.int .i64 s.Book.Seed), .val (.int .i64 s.Book.Next), .own r2, .own r3], .own d1, .own d2, .own d3]) (h1 : DaEq d1 (rowR 52 3 dasAccount zAccount s.Accounts)) (h2 : DaEq d2 (rowR 67 3 dasChallenge zChallenge s.Book.Open)) (h3 : DaEq d3 (numR 3 .i64 s.Logins)) :
    ∃ b A cp x4 x5 bs, ρ q = some (.pointer (some ⟨b, 0, none⟩), [b]) ∧ ρ r1 = some (.slice A s.Accounts.length cp, bs) ∧ AtS s b A cp x4 x5 w ∧ (0 < s.Accounts.length → ∃ g off, A = some ⟨g, off, none⟩) := by
  unfold named near at hos
  rw [ho, hvs] at hos
  have hos : obs q :: ([q].flatMap fun q => ObIds (obs q)).map obs = [.var 35 [.val (.string s.Name), .own r1, .val (.int .i64 s.Book.Seed), .val (.int .i64 s.Book.Next), .own r2, .own r3], .own d1, .own d2, .own d3] := hos
  obtain ⟨hq, hos⟩ := List.cons.inj hos
  have hos : ((ObIds (obs q) ++ []).map obs) = [.own d1, .own d2, .own d3] := hos
  rw [hq] at hos
  have hos : [obs r1, obs r2, obs r3] = [.own d1, .own d2, .own d3] := hos
  have hr1 := (List.cons.inj hos).1
  have hr2 := (List.cons.inj (List.cons.inj hos).2).1
  have hr3 := (List.cons.inj (List.cons.inj (List.cons.inj hos).2).2).1
  obtain ⟨b, us, hρ, hlo, hcell, hcs⟩ := var_of hm hq
  obtain ⟨v1, s1, rfl, k1, v2, s2, rfl, k2, v3, s3, rfl, k3, v4, s4, rfl, k4, v5, s5, rfl, k5, v6, s6, rfl, k6, k7⟩ := hcs
  have k1 : v1 = _ := k1
  have k3 : v3 = _ := k3
  have k4 : v4 = _ := k4
  have k7 : s6 = [] := k7
  subst k1 k3 k4 k7
  obtain ⟨a1, bs1, e1, o1⟩ := own_of hm hr1
  obtain ⟨a2, bs2, e2, o2⟩ := own_of hm hr2
  obtain ⟨a3, bs3, e3, o3⟩ := own_of hm hr3
  obtain rfl := own_val (W0 := W0) k2 e1
  obtain rfl := own_val (W0 := W0) k5 e2
  obtain rfl := own_val (W0 := W0) k6 e3
  rw [h1.dc] at o1
  rw [h2.dc] at o2
  rw [h3.dc] at o3
  have hown2 := o1
  simp only [Da.dc, Owns] at hown2
  obtain ⟨vs, b2, hat, _, _⟩ := hown2
  obtain ⟨A, cp, rfl⟩ := hat.nil_form
  refine ⟨b, A, cp, _, _, bs1, hρ, e1, ⟨hcell, ?_⟩, fun hn => ?_⟩
  · rw [← dasSite_dc s]
    simp only [dasSite, List.map_cons, List.map_nil, ShsL]
    exact ⟨_, _, rfl, by show Shs _ _ (.val _) _; simp only [Shs], _, _, rfl, owns_shs _ _ _ o1, _, _, rfl, by show Shs _ _ (.val _) _; simp only [Shs], _, _, rfl, by show Shs _ _ (.val _) _; simp only [Shs], _, _, rfl, owns_shs _ _ _ o2, _, _, rfl, owns_shs _ _ _ o3, rfl⟩
  · obtain ⟨g, off, cap, e, _⟩ := hat.form hn
    injection e with e1
    exact ⟨g, off, e1⟩
theorem cust_accountF (ho : o.op = .call c) (hc2 : c.callee = .value (.func 25)) (hy : AvIds y = []) (h1 : DaEq d1 (rowR 52 3 dasAccount zAccount s.Accounts)) (h2 : DaEq d2 (rowR 67 3 dasChallenge zChallenge s.Book.Open)) (h3 : DaEq d3 (numR 3 .i64 s.Logins)) (hn : s.Accounts.length ≤ 16000000) (hc : ∀ a ∈ s.Accounts, a.Credentials.length ≤ 16000000) (hk : ∀ a ∈ s.Accounts, ∀ x ∈ a.Credentials, Credential.ok x) (hb : s.Book.Open.length ≤ 16000000) (hz : s.Name.size ≤ 4294967296) (hf : fndB s i = false) :
    Cust Tryz.prog old id o [y, .one (.ptr q 0), .one (.val (.int .i64 i))] [.var 35 [.val (.string s.Name), .own r1, .val (.int .i64 s.Book.Seed), .val (.int .i64 s.Book.Next), .own r2, .own r3], .own d1, .own d2, .own d3] ⟨[], .tup [(false, [.val (.pointer none)]), (false, [.val (.bool false)])], []⟩ :=
  cust_call2 ho hc2 (con_enters Tryz.func25 (by kernel_rfl) (by kernel_rfl)) fun W0 obs ρ w args hold hm hv hos hun hne => by
    obtain ⟨b, A, cp, x4, x5, bs, hρ, hρr, hat, hA⟩ := at_site ho (by rw [List.flatMap_cons, hy]; rfl) hm hos h1 h2 h3
    obtain ⟨v1, s1, rfl, k1, v2, s2, rfl, k2, k3⟩ := hv
    obtain rfl : s2 = [] := k3
    obtain rfl : v2 = _ := k2
    obtain rfl := ptr_of (W0 := W0) k1 hρ
    refine (account_f w s i b A cp x4 x5 hf hn hc hk hb hz hat).mono ?_
    rintro e w' ⟨rfl, hb⟩
    exact ⟨_, rfl, post_same hm hb (ofV_ok (.tuple #[.pointer none, .bool false]))⟩
theorem cust_accountT (ho : o.op = .call c) (hc2 : c.callee = .value (.func 25)) (hy : AvIds y = []) (h1 : DaEq d1 (rowR 52 3 dasAccount zAccount s.Accounts)) (h2 : DaEq d2 (rowR 67 3 dasChallenge zChallenge s.Book.Open)) (h3 : DaEq d3 (numR 3 .i64 s.Logins)) (hn : s.Accounts.length ≤ 16000000) (hc : ∀ a ∈ s.Accounts, a.Credentials.length ≤ 16000000) (hk : ∀ a ∈ s.Accounts, ∀ x ∈ a.Credentials, Credential.ok x) (hb : s.Book.Open.length ≤ 16000000) (hz : s.Name.size ≤ 4294967296) (hf : fndB s i = true) :
    Cust Tryz.prog old id o [y, .one (.ptr q 0), .one (.val (.int .i64 i))] [.var 35 [.val (.string s.Name), .own r1, .val (.int .i64 s.Book.Seed), .val (.int .i64 s.Book.Next), .own r2, .own r3], .own d1, .own d2, .own d3] ⟨[], .tup [(false, [.elo r1 3 (findA s.Accounts i).toNat 0]), (false, [.val (.bool true)])], []⟩ :=
  cust_call2 ho hc2 (con_enters Tryz.func25 (by kernel_rfl) (by kernel_rfl)) fun W0 obs ρ w args hold hm hv hos hun hne => by
    obtain ⟨b, A, cp, x4, x5, bs, hρ, hρr, hat, hA⟩ := at_site ho (by rw [List.flatMap_cons, hy]; rfl) hm hos h1 h2 h3
    obtain ⟨v1, s1, rfl, k1, v2, s2, rfl, k2, k3⟩ := hv
    obtain rfl : s2 = [] := k3
    obtain rfl : v2 = _ := k2
    obtain rfl := ptr_of (W0 := W0) k1 hρ
    obtain ⟨_, k, hkf, hkl⟩ := fnd_t hf
    obtain ⟨g, off, rfl⟩ := hA (by omega)
    refine (account_t w s i b g off k cp x4 x5 hf hkf hkl hn hc hk hb hz hat).mono ?_
    rintro e w' ⟨rfl, hb⟩
    refine ⟨_, rfl, post_same hm hb ⟨_, rfl, _, _, rfl, ?_, _, _, rfl, ?_, rfl⟩⟩
    · unfold GrpOK
      rw [if_neg (by simp)]
      refine ⟨_, _, rfl, ⟨g, off, _, _, bs, hρr, ?_, ?_⟩, rfl⟩
      · rw [hkf, Int.toNat_natCast]; exact hkl
      · rw [hkf, Int.toNat_natCast]
    · unfold GrpOK
      rw [if_neg (by simp)]
      exact cs_vals [_]
end
end Go.Proofs.YtllaacdikjffmaaGreat.C15w
