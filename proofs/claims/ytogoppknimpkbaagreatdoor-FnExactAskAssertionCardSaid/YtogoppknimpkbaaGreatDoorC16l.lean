import Derived.Test.YtogoppknimpkbaaGreatDoorC16k
import Derived.Test.YtogoppknimpkbaaGreatDoorC16s
namespace Go.Proofs.YtogoppknimpkbaaGreatDoor.C16l
open Go.ChangeShapes Go.WideShapes Go.ChangeAt Go.RowKit
open S0 S1 S9 Dm Fx M3 M8 M12 M13 C9 C10 M24 C16c C16k E0 E1 E2 E3 E4 E7 E10 E15 E16 E17 E18 E19 E20 E21 E22 E24 E26 E28 Das
set_option linter.unusedVariables false
set_option linter.unusedSimpArgs false
set_option maxRecDepth 100000

theorem tab_c (w : World) (b : Fx.Browser) (t : Int) (B g off c : Nat) (hn : b.Tabs.length ≤ 16000000) (hat : AtB b B (some ⟨g, off, none⟩) c w) : Calls Tryz.prog 29 #[.pointer (some ⟨B, 0, none⟩), .int .i64 t] w (Gives (.tuple #[tabV b t g off, .bool (isTab b t)]) w) :=
  law_goP (us := [tabV b t g off, .bool (isTab b t)]) (tabC b t B (some ⟨g, off, none⟩) c (isTab b t)) noLoops Tryz.func29 (by kernel_rfl) (by kernel_rfl) rfl (wpTab b t B g off c hn) hat rfl (args_of (us := [.pointer (some ⟨B, 0, none⟩), .int .i64 t]))
theorem tab_0 (w : World) (b : Fx.Browser) (t : Int) (B : Nat) (A : Option Addr) (c : Nat) (he : b.Tabs = []) (hat : AtB b B A c w) : Calls Tryz.prog 29 #[.pointer (some ⟨B, 0, none⟩), .int .i64 t] w (Gives (.tuple #[.pointer none, .bool false]) w) :=
  law_goP (us := [.pointer none, .bool false]) (tabC b t B A c false) noLoops Tryz.func29 (by kernel_rfl) (by kernel_rfl) rfl (wpTab0 b t B A c he) hat rfl (args_of (us := [.pointer (some ⟨B, 0, none⟩), .int .i64 t]))
theorem tabV_t {b : Fx.Browser} {t : Int} {g off : Nat} (h : isTab b t = true) : tabV b t g off = .pointer (some ⟨g, off + (t.toNat * 6 + 0), none⟩) := by unfold tabV; rw [h]
theorem tabV_f {b : Fx.Browser} {t : Int} {g off : Nat} (h : isTab b t = false) : tabV b t g off = .pointer none := by unfold tabV; rw [h]
theorem tab_no (w : World) (b : Fx.Browser) (t : Int) (B : Nat) (A : Option Addr) (c : Nat) (hn : b.Tabs.length ≤ 16000000) (hA : 0 < b.Tabs.length → ∃ g off, A = some ⟨g, off, none⟩) (hi : isTab b t = false) (hat : AtB b B A c w) : Calls Tryz.prog 29 #[.pointer (some ⟨B, 0, none⟩), .int .i64 t] w (Gives (.tuple #[.pointer none, .bool false]) w) := by
  rcases Nat.eq_zero_or_pos b.Tabs.length with h0 | h0
  · exact tab_0 w b t B A c (List.eq_nil_of_length_eq_zero h0) hat
  · obtain ⟨g, off, rfl⟩ := hA h0
    have := tab_c w b t B g off c hn hat
    rw [tabV_f hi, hi] at this
    exact this
theorem tab_yes (w : World) (b : Fx.Browser) (t : Int) (B g off c : Nat) (hn : b.Tabs.length ≤ 16000000) (hi : isTab b t = true) (hat : AtB b B (some ⟨g, off, none⟩) c w) : Calls Tryz.prog 29 #[.pointer (some ⟨B, 0, none⟩), .int .i64 t] w (Gives (.tuple #[.pointer (some ⟨g, off + (t.toNat * 6 + 0), none⟩), .bool true]) w) := by
  have := tab_c w b t B g off c hn hat
  rw [tabV_t hi, hi] at this
  exact this
theorem can_c (w : World) (x : Tb) (z : ByteArray) (g o : Nat) (h1 : x.Origin.Host.size ≤ 4294967296) (h2 : x.Top.Host.size ≤ 4294967296) (hz : z.size ≤ 4294967296) (h : AtT x g o w) : Calls Tryz.prog 30 #[.pointer (some ⟨g, o, none⟩), .string z] w (Gives (.bool (mayT x z)) w) :=
  law_go (canT x z g o) noLoops Tryz.func30 (by kernel_rfl) (by kernel_rfl) (wpCan x z g o h1 h2 hz) h rfl (args_of (us := [.pointer (some ⟨g, o, none⟩), .string z]))
theorem AtB.on {b : Fx.Browser} {B : Nat} {A : Option Addr} {c : Nat} {W w : World} (h : AtB b B A c W) (hb : Below W.heap.size W w) : AtB b B A c w := ⟨(hb.block B (Array.getElem?_eq_some_iff.1 h.blk).1).trans h.blk⟩
theorem ask_no (w : World) (b : Fx.Browser) (t : Int) (z : ByteArray) (k : Bool) (B : Nat) (A : Option Addr) (c : Nat) (hn : b.Tabs.length ≤ 16000000) (hs : short b) (hz : z.size ≤ 4294967296) (hat : AtB b B A c w) (hrow : Shs w w.heap.size (rowR 62 6 dasTab zTab b.Tabs).dc (.slice A b.Tabs.length c)) (hA : 0 < b.Tabs.length → ∃ g off, A = some ⟨g, off, none⟩) (hf : canB b t z = false) :
    Calls Tryz.prog 27 #[.pointer (some ⟨B, 0, none⟩), .int .i64 t, .string z, .bool k] w (Gives (.tuple #[.pointer none, .bool false]) w) := by
  cases hi : isTab b t with
  | false =>
    have HT := Lib.hid (tab_no w b t B A c hn hA hi hat)
    clear hi hf hA hrow hat
    go_enter Tryz.func27, Tryz.ntmps27
    go_wp2_with fail
    (refine HT.out.mono ?_); rintro e w1 ⟨rfl, b1⟩
    go_wp2
    go_ret2
    exact ⟨rfl, b1⟩
  | true =>
    obtain ⟨g, off, rfl⟩ := hA (by have := (isTab_lt hi).2; omega)
    have HT := Lib.hid (tab_yes w b t B g off c hn hi hat)
    have hm : mayT (tabAt b t) z = false := by unfold canB at hf; rw [hi] at hf; exact hf
    have HC := Lib.hid (fun (wx : World) (hb : Below w.heap.size w wx) => show Calls Tryz.prog 30 #[.pointer (some ⟨g, off + (t.toNat * 6 + 0), none⟩), .string z] wx (Gives (.bool false) wx) from hm ▸ can_c wx (tabAt b t) z g _ (short_at hs _).1 (short_at hs _).2 hz (tab_at (shs_on hrow hb) (isTab_lt hi).2))
    generalize (some ⟨g, off + (t.toNat * 6 + 0), none⟩ : Option Addr) = PT at HT HC
    clear hi hf hA hrow hat hm
    go_enter Tryz.func27, Tryz.ntmps27
    go_wp2_with fail
    (refine HT.out.mono ?_); rintro e w1 ⟨rfl, b1⟩
    go_wp2_with fail
    (refine (HC.out _ b1).mono ?_); rintro e w2 ⟨rfl, b2⟩
    go_wp2
    go_ret2
    exact ⟨rfl, b1.trans (b2.mono b1.size)⟩
theorem ask_yes (w : World) (b : Fx.Browser) (t : Int) (z : ByteArray) (k : Bool) (B g off c : Nat) (hn : b.Tabs.length ≤ 16000000) (hs : short b) (hz : z.size ≤ 4294967296) (hat : AtB b B (some ⟨g, off, none⟩) c w) (hrow : Shs w w.heap.size (rowR 62 6 dasTab zTab b.Tabs).dc (.slice (some ⟨g, off, none⟩) b.Tabs.length c)) (hf : canB b t z = true) :
    Calls Tryz.prog 27 #[.pointer (some ⟨B, 0, none⟩), .int .i64 t, .string z, .bool k] w fun e w' => e = .returned (.tuple #[.pointer (some ⟨g, off + (t.toNat * 6 + 0), none⟩), .bool k]) ∧ AtB (M24.ask b) B (some ⟨g, off, none⟩) c w' ∧ w.grownBy w' (some B) := by
  have hi := canB_is hf
  have HT := Lib.hid (tab_yes w b t B g off c hn hi hat)
  have hm : mayT (tabAt b t) z = true := by unfold canB at hf; rw [hi] at hf; exact hf
  have HC := Lib.hid (fun (wx : World) (hb : Below w.heap.size w wx) => show Calls Tryz.prog 30 #[.pointer (some ⟨g, off + (t.toNat * 6 + 0), none⟩), .string z] wx (Gives (.bool true) wx) from hm ▸ can_c wx (tabAt b t) z g _ (short_at hs _).1 (short_at hs _).2 hz (tab_at (shs_on hrow hb) (isTab_lt hi).2))
  have HS : ∀ wx : World, Below w.heap.size w wx → wx.cell? ⟨B, 5, none⟩ = some (.int .i64 b.Asked) ∧ wx.frozen? ⟨B, 5, none⟩ = false ∧ B < wx.heap.size ∧ wx.heap[B]? = some (.cells #[.int .i64 b.Store.Vendor, .int .i64 b.Store.Serial, .int .i64 b.Store.Seed, .int .i64 b.Store.Counter, .slice (some ⟨g, off, none⟩) b.Tabs.length c, .int .i64 b.Asked] 28 (0, 0)) := fun wx hb => by
    have h := (AtB.on hat hb).blk
    refine ⟨by rw [cell_of_row wx B 5 _ _ _ h]; rfl, by simp [World.frozen?, h], (Array.getElem?_eq_some_iff.1 h).1, h⟩
  have HS := Lib.hid HS
  generalize hPT : (some ⟨g, off + (t.toNat * 6 + 0), none⟩ : Option Addr) = PT at HT HC ⊢
  clear hi hf hrow hat hm
  go_enter Tryz.func27, Tryz.ntmps27
  go_wp2_with fail
  (refine HT.out.mono ?_); rintro e w1 ⟨rfl, b1⟩
  go_wp2_with fail
  (refine (HC.out _ b1).mono ?_); rintro e w2 ⟨rfl, b2⟩
  have b3 := b1.trans (b2.mono b1.size)
  obtain ⟨c5, f5, hlt, hblk⟩ := HS.out w2 b3
  clear HS HT HC b1 b2
  go_wp2
  go_ret2
  refine ⟨rfl, ⟨?_⟩, ?_⟩
  · show _ = some (Obj.cells (#[.int .i64 b.Store.Vendor, .int .i64 b.Store.Serial, .int .i64 b.Store.Seed, .int .i64 b.Store.Counter, .slice (some ⟨g, off, none⟩) b.Tabs.length c, .int .i64 b.Asked].set! 5 (.int .i64 (IntKind.i64.wrap (b.Asked + 1)))) 28 (0, 0))
    simp [World.setCell, Array.getElem?_modify, hblk]
    exact (IntWalk.i64_left _).symm
  · exact C0.grown_trans (⟨b3.os, b3.tape, b3.output, b3.size, fun k hk _ => b3.block k hk⟩) (C0.grown_set _ _ _ _)
section
variable {old : World → Prop} {id q r : Nat} {o : Oper} {c : Call} {y : AV} {b : Fx.Browser} {d : Da} {t : Int} {z : ByteArray} {k : Bool}
/-- What a call finds at the browser's variable: an own row in it. -/
theorem at_own {obs : Nat → Ob} {ρ : Roots} {W0 w : World} {vs : List AV} (ho : o.op = .call c) (hvs : vs.flatMap AvIds = [q]) (hm : Mem W0 obs ρ w) (hos : named o.op obs vs = [.var 28 [.val (.int .i64 b.Store.Vendor), .val (.int .i64 b.Store.Serial), .val (.int .i64 b.Store.Seed), .val (.int .i64 b.Store.Counter), .own r, .val (.int .i64 b.Asked)], .own d]) (hd : DaEq d (rowR 62 6 dasTab zTab b.Tabs)) :
    ∃ B A cp bs, ρ q = some (.pointer (some ⟨B, 0, none⟩), [B]) ∧ W0.heap.size ≤ B ∧ ρ r = some (.slice A b.Tabs.length cp, bs) ∧ AtB b B A cp w ∧ Shs w w.heap.size (rowR 62 6 dasTab zTab b.Tabs).dc (.slice A b.Tabs.length cp) ∧ (0 < b.Tabs.length → ∃ g off, A = some ⟨g, off, none⟩) ∧ obs q = .var 28 [.val (.int .i64 b.Store.Vendor), .val (.int .i64 b.Store.Serial), .val (.int .i64 b.Store.Seed), .val (.int .i64 b.Store.Counter), .own r, .val (.int .i64 b.Asked)] := by
  unfold named near at hos
  rw [ho, hvs] at hos
  have hos : obs q :: ([q].flatMap fun q => ObIds (obs q)).map obs = [.var 28 [.val (.int .i64 b.Store.Vendor), .val (.int .i64 b.Store.Serial), .val (.int .i64 b.Store.Seed), .val (.int .i64 b.Store.Counter), .own r, .val (.int .i64 b.Asked)], .own d] := hos
  obtain ⟨hq, hos⟩ := List.cons.inj hos
  have hos : ((ObIds (obs q) ++ []).map obs) = [.own d] := hos
  rw [hq] at hos
  have hr : obs r = .own d := (List.cons.inj (show obs r :: [] = [.own d] from hos)).1
  obtain ⟨B, us, hρ, hlo, hcell, hcs⟩ := var_of hm hq
  obtain ⟨v1, s1, rfl, k1, v2, s2, rfl, k2, v3, s3, rfl, k3, v4, s4, rfl, k4, v5, s5, rfl, k5, v6, s6, rfl, k6, k7⟩ := hcs
  have k1 : v1 = _ := k1
  have k2 : v2 = _ := k2
  have k3 : v3 = _ := k3
  have k4 : v4 = _ := k4
  have k6 : v6 = _ := k6
  have k7 : s6 = [] := k7
  subst k1 k2 k3 k4 k6 k7
  obtain ⟨r', bs, hρr, hown⟩ := own_of hm hr
  obtain rfl := own_val (W0 := W0) k5 hρr
  rw [hd.dc] at hown
  have hown2 := hown
  simp only [Da.dc, Owns] at hown2
  obtain ⟨vs, b2, hat, _, _⟩ := hown2
  obtain ⟨A, cp, rfl⟩ := hat.nil_form
  refine ⟨B, A, cp, bs, hρ, hlo, hρr, ⟨hcell⟩, owns_shs _ _ _ hown, fun hn => ?_, hq⟩
  obtain ⟨g, off, cap, e, _⟩ := hat.form hn
  injection e with e1
  exact ⟨g, off, e1⟩
theorem cust_tabF (ho : o.op = .call c) (hc : c.callee = .value (.func 29)) (hy : AvIds y = []) (hd : DaEq d (rowR 62 6 dasTab zTab b.Tabs)) (hn : b.Tabs.length ≤ 16000000) (hi : isTab b t = false) :
    Cust Tryz.prog old id o [y, .one (.ptr q 0), .one (.val (.int .i64 t))] [.var 28 [.val (.int .i64 b.Store.Vendor), .val (.int .i64 b.Store.Serial), .val (.int .i64 b.Store.Seed), .val (.int .i64 b.Store.Counter), .own r, .val (.int .i64 b.Asked)], .own d] ⟨[], .tup [(false, [.val (.pointer none)]), (false, [.val (.bool false)])], []⟩ :=
  cust_call2 ho hc (con_enters Tryz.func29 (by kernel_rfl) (by kernel_rfl)) fun W0 obs ρ w args hold hm hv hos hun hne => by
    obtain ⟨B, A, cp, bs, hρ, hlo, hρr, hat, hrow, hA, -⟩ := at_own ho (by rw [List.flatMap_cons, hy]; rfl) hm hos hd
    obtain ⟨v1, s1, rfl, k1, v2, s2, rfl, k2, k3⟩ := hv
    obtain rfl : s2 = [] := k3
    obtain rfl : v2 = _ := k2
    obtain rfl := ptr_of (W0 := W0) k1 hρ
    refine (tab_no w b t B A cp hn hA hi hat).mono ?_
    rintro e w' ⟨rfl, hb⟩
    exact ⟨_, rfl, post_same hm hb (ofV_ok (.tuple #[.pointer none, .bool false]))⟩
theorem cust_tabT (ho : o.op = .call c) (hc : c.callee = .value (.func 29)) (hy : AvIds y = []) (hd : DaEq d (rowR 62 6 dasTab zTab b.Tabs)) (hn : b.Tabs.length ≤ 16000000) (hi : isTab b t = true) :
    Cust Tryz.prog old id o [y, .one (.ptr q 0), .one (.val (.int .i64 t))] [.var 28 [.val (.int .i64 b.Store.Vendor), .val (.int .i64 b.Store.Serial), .val (.int .i64 b.Store.Seed), .val (.int .i64 b.Store.Counter), .own r, .val (.int .i64 b.Asked)], .own d] ⟨[], .tup [(false, [.elo r 6 t.toNat 0]), (false, [.val (.bool true)])], []⟩ :=
  cust_call2 ho hc (con_enters Tryz.func29 (by kernel_rfl) (by kernel_rfl)) fun W0 obs ρ w args hold hm hv hos hun hne => by
    obtain ⟨B, A, cp, bs, hρ, hlo, hρr, hat, hrow, hA, -⟩ := at_own ho (by rw [List.flatMap_cons, hy]; rfl) hm hos hd
    obtain ⟨v1, s1, rfl, k1, v2, s2, rfl, k2, k3⟩ := hv
    obtain rfl : s2 = [] := k3
    obtain rfl : v2 = _ := k2
    obtain rfl := ptr_of (W0 := W0) k1 hρ
    have hlt := isTab_lt hi
    obtain ⟨g, off, rfl⟩ := hA (by omega)
    refine (tab_yes w b t B g off cp hn hi hat).mono ?_
    rintro e w' ⟨rfl, hb⟩
    refine ⟨_, rfl, post_same hm hb ⟨_, rfl, _, _, rfl, ?_, _, _, rfl, ?_, rfl⟩⟩
    · unfold GrpOK
      rw [if_neg (by simp)]
      exact ⟨_, _, rfl, ⟨g, off, _, _, bs, hρr, hlt.2, rfl⟩, rfl⟩
    · unfold GrpOK
      rw [if_neg (by simp)]
      exact cs_vals [_]
theorem cust_askF (ho : o.op = .call c) (hc : c.callee = .value (.func 27)) (hy : AvIds y = []) (hd : DaEq d (rowR 62 6 dasTab zTab b.Tabs)) (hn : b.Tabs.length ≤ 16000000) (hs : short b) (hz : z.size ≤ 4294967296) (hf : canB b t z = false) :
    Cust Tryz.prog old id o [y, .one (.ptr q 0), .one (.val (.int .i64 t)), .one (.val (.string z)), .one (.val (.bool k))] [.var 28 [.val (.int .i64 b.Store.Vendor), .val (.int .i64 b.Store.Serial), .val (.int .i64 b.Store.Seed), .val (.int .i64 b.Store.Counter), .own r, .val (.int .i64 b.Asked)], .own d] ⟨[], .tup [(false, [.val (.pointer none)]), (false, [.val (.bool false)])], []⟩ :=
  cust_call2 ho hc (con_enters Tryz.func27 (by kernel_rfl) (by kernel_rfl)) fun W0 obs ρ w args hold hm hv hos hun hne => by
    obtain ⟨B, A, cp, bs, hρ, hlo, hρr, hat, hrow, hA, -⟩ := at_own ho (by rw [List.flatMap_cons, hy]; rfl) hm hos hd
    obtain ⟨v1, s1, rfl, k1, v2, s2, rfl, k2, v3, s3, rfl, k3, v4, s4, rfl, k4, k5⟩ := hv
    obtain rfl : s4 = [] := k5
    obtain rfl : v2 = _ := k2
    obtain rfl : v3 = _ := k3
    obtain rfl : v4 = _ := k4
    obtain rfl := ptr_of (W0 := W0) k1 hρ
    refine (ask_no w b t z k B A cp hn hs hz hat hrow hA hf).mono ?_
    rintro e w' ⟨rfl, hb⟩
    exact ⟨_, rfl, post_same hm hb (ofV_ok (.tuple #[.pointer none, .bool false]))⟩
theorem cust_askT (ho : o.op = .call c) (hc : c.callee = .value (.func 27)) (hy : AvIds y = []) (hd : DaEq d (rowR 62 6 dasTab zTab b.Tabs)) (hn : b.Tabs.length ≤ 16000000) (hs : short b) (hz : z.size ≤ 4294967296) (hf : canB b t z = true) :
    Cust Tryz.prog old id o [y, .one (.ptr q 0), .one (.val (.int .i64 t)), .one (.val (.string z)), .one (.val (.bool k))] [.var 28 [.val (.int .i64 b.Store.Vendor), .val (.int .i64 b.Store.Serial), .val (.int .i64 b.Store.Seed), .val (.int .i64 b.Store.Counter), .own r, .val (.int .i64 b.Asked)], .own d] ⟨[], .tup [(false, [.elo r 6 t.toNat 0]), (false, [.val (.bool k)])], [(q, .var 28 [.val (.int .i64 (M24.ask b).Store.Vendor), .val (.int .i64 (M24.ask b).Store.Serial), .val (.int .i64 (M24.ask b).Store.Seed), .val (.int .i64 (M24.ask b).Store.Counter), .own r, .val (.int .i64 (M24.ask b).Asked)])]⟩ :=
  cust_call2 ho hc (con_enters Tryz.func27 (by kernel_rfl) (by kernel_rfl)) fun W0 obs ρ w args hold hm hv hos hun hne => by
    obtain ⟨B, A, cp, bs, hρ, hlo, hρr, hat, hrow, hA, hq⟩ := at_own ho (by rw [List.flatMap_cons, hy]; rfl) hm hos hd
    obtain ⟨v1, s1, rfl, k1, v2, s2, rfl, k2, v3, s3, rfl, k3, v4, s4, rfl, k4, k5⟩ := hv
    obtain rfl : s4 = [] := k5
    obtain rfl : v2 = _ := k2
    obtain rfl : v3 = _ := k3
    obtain rfl : v4 = _ := k4
    obtain rfl := ptr_of (W0 := W0) k1 hρ
    have hlt := isTab_lt (canB_is hf)
    obtain ⟨g, off, rfl⟩ := hA (by omega)
    refine (ask_yes w b t z k B g off cp hn hs hz hat hrow hf).mono ?_
    rintro e w' ⟨rfl, hat', hgr⟩
    have hne : r ≠ q := fun e => by subst e; rw [hρ] at hρr; cases hρr
    have hr1 : ∀ p, ρ q = some p → p.1 = .pointer (some ⟨B, 0, none⟩) := fun p hp => by rw [hρ] at hp; cases hp; rfl
    have hρ' : upd ρ q (some (.pointer (some ⟨B, 0, none⟩), [B])) r = some (.slice (some ⟨g, off, none⟩) b.Tabs.length cp, bs) := by rw [upd_ne _ _ hne]; exact hρr
    refine ⟨_, rfl, _, Le.upd ρ q _ [B] hr1, hm.turn (cs := [B]) hr1 (grown_turned1 hgr) (fun b' hb => by obtain rfl := List.mem_singleton.1 hb; exact hlo) (fun q' p hne hp b' hb hb2 => hm.apart q' q p _ hne hp hρ b' hb hb2) (fun b' hb => .inl hb) (by simp)
      ⟨B, _, upd_same _ _ _, hlo, hat'.blk, _, _, rfl, rfl, _, _, rfl, rfl, _, _, rfl, rfl, _, _, rfl, rfl, _, _, rfl, ⟨rfl, bs, hρ'⟩, _, _, rfl, rfl, rfl⟩, ⟨_, rfl, _, _, rfl, ?_, _, _, rfl, ?_, rfl⟩⟩
    · unfold GrpOK
      rw [if_neg (by simp)]
      exact ⟨_, _, rfl, ⟨g, off, _, _, bs, hρ', hlt.2, rfl⟩, rfl⟩
    · unfold GrpOK
      rw [if_neg (by simp)]
      exact cs_vals [_]
end
noncomputable def opnC (b : Fx.Browser) (o p : Fx.Origin) : Orc := callsBy fun d _ _ => match d with | some 10 => some [(false, [rowR 62 6 dasTab zTab b.Tabs])] | some 13 => some [bV (orgB o)] | some 17 => some [bV (orgB p)] | _ => none
/-- An origin stored in an element of a row of one's own. -/
def navE (o : Fx.Origin) (vs : List AV) (os : List Ob) : Option Eff := match vs with
  | .one (.elo q k i f) :: _ => (match os with
    | .own (.row E _ n el) :: _ => some ⟨[], .one (.val undef), [(q, .own (.row E k n (putAt el i f [.val (.bool o.Secure), .val (.string o.Host), .val (.int .i64 o.Port)])))]⟩
    | _ => none)
  | _ => none
noncomputable def navC (b : Fx.Browser) (t : Int) (o : Fx.Origin) (m : Bool) : Orc := ⟨fun d _ _ => match d with | some 12 => some [(false, [rowR 62 6 dasTab zTab b.Tabs])] | some 23 => some [bV (orgB o)] | _ => none, fun id vs os => match id with
  | 30008 => (match m with
    | true => some ⟨[], .tup [(false, [.elo 20016 6 t.toNat 0]), (false, [.val (.bool true)])], []⟩
    | false => some ⟨[], .tup [(false, [.val (.pointer none)]), (false, [.val (.bool false)])], []⟩)
  | 70032 => navE o vs os
  | 80032 => navE o vs os
  | _ => none, fun _ => True⟩
noncomputable def regC (b : Fx.Browser) (t : Int) (z : ByteArray) (k : Int) (c : Bool) (m : Bool) : Orc := ⟨fun d _ _ => match d with | some 17 => some [(false, [rowR 62 6 dasTab zTab b.Tabs])] | some 31 => some [bV (vst b.Store)] | some 40 => some [iV (pubS b.Store z k)] | _ => none, fun id vs os => match id with
  | 30024 => (match m with
    | true => some ⟨[], .tup [(false, [.elo 20016 6 t.toNat 0]), (false, [.val (.bool c)])], [(10000, .var 28 [.val (.int .i64 (M24.ask b).Store.Vendor), .val (.int .i64 (M24.ask b).Store.Serial), .val (.int .i64 (M24.ask b).Store.Seed), .val (.int .i64 (M24.ask b).Store.Counter), .own 20016, .val (.int .i64 (M24.ask b).Asked)])]⟩
    | false => some ⟨[], .tup [(false, [.val (.pointer none)]), (false, [.val (.bool false)])], []⟩)
  | _ => none, fun _ => True⟩
abbrev EqlX (l m : List Tb) : Type := { i : Nat // i ≤ l.length ∧ l.length = m.length ∧ ∀ j, j < i → l.getD j zTab = m.getD j zTab }
def eqlL (l m : List Tb) : Loops := fun r _ => match r with
  | 4 => some ⟨EqlX l m, fun v sl => only [0, 1, 4, 12, 13] 0 (sl.set 13 (.one (.val (vI v.1)))), fun _ _ => [], fun v => l.length - v.1⟩
  | _ => none
open Classical in
noncomputable def eqlT (l m : List Tb) : Bool := decide (l = m)
open Classical in
theorem eqlT_t {l m : List Tb} (h : l = m) : eqlT l m = true := by unfold eqlT; exact decide_eq_true h
open Classical in
theorem eqlT_f {l m : List Tb} (h : l ≠ m) : eqlT l m = false := by unfold eqlT; exact decide_eq_false h
open Classical in
theorem eqlT_ok {l m : List Tb} (h : eqlT l m = true) : l = m := by unfold eqlT at h; exact of_decide_eq_true h
open Classical in
theorem eqlT_n {l m : List Tb} (h : eqlT l m = false) : l ≠ m := by unfold eqlT at h; exact of_decide_eq_false h
theorem st_of {x y : Fx.KeyStore} (h : (match x.Vendor == y.Vendor with | false => false | true => match x.Serial == y.Serial with | false => false | true => match x.Seed == y.Seed with | false => false | true => match x.Counter == y.Counter with | false => false | true => true) = true) : x = y := C16s.st_of (congrArg (fun c : Bool => match c with | true => false | false => true) h)
/-- The tabs lie in a world. -/
structure RowAt (b : Fx.Browser) (A : Option Addr) (cp : Nat) (w : World) : Prop where
  row : Shs w w.heap.size (rowR 62 6 dasTab zTab b.Tabs).dc (.slice A b.Tabs.length cp)
theorem at_val {b : Fx.Browser} {A : Option Addr} {cp : Nat} {W0 : World} {obs : Nat → Ob} {ρ : Roots} {w : World} {q : Nat} (hm : Mem W0 obs ρ w) (hq : obs q = .var 28 [.val (.int .i64 b.Store.Vendor), .val (.int .i64 b.Store.Serial), .val (.int .i64 b.Store.Seed), .val (.int .i64 b.Store.Counter), .val (.slice A b.Tabs.length cp), .val (.int .i64 b.Asked)]) : ∃ B, ρ q = some (.pointer (some ⟨B, 0, none⟩), [B]) ∧ AtB b B A cp w := by
  obtain ⟨B, us, hρ, hlo, hcell, hcs⟩ := var_of hm hq
  obtain ⟨v1, s1, rfl, k1, v2, s2, rfl, k2, v3, s3, rfl, k3, v4, s4, rfl, k4, v5, s5, rfl, k5, v6, s6, rfl, k6, k7⟩ := hcs
  have k1 : v1 = _ := k1
  have k2 : v2 = _ := k2
  have k3 : v3 = _ := k3
  have k4 : v4 = _ := k4
  have k5 : v5 = _ := k5
  have k6 : v6 = _ := k6
  have k7 : s6 = [] := k7
  subst k1 k2 k3 k4 k5 k6 k7
  exact ⟨B, hρ, ⟨hcell⟩⟩
theorem cust_tabPT {old : World → Prop} {id q : Nat} {o : Oper} {c : Call} {y : AV} {b : Fx.Browser} {t : Int} {g off cp : Nat} (ho : o.op = .call c) (hc : c.callee = .value (.func 29)) (hy : AvIds y = []) (hn : b.Tabs.length ≤ 16000000) (hi : isTab b t = true) :
    Cust Tryz.prog old id o [y, .one (.ptr q 0), .one (.val (.int .i64 t))] [.var 28 [.val (.int .i64 b.Store.Vendor), .val (.int .i64 b.Store.Serial), .val (.int .i64 b.Store.Seed), .val (.int .i64 b.Store.Counter), .val (.slice (some ⟨g, off, none⟩) b.Tabs.length cp), .val (.int .i64 b.Asked)]] ⟨[], .tup [(false, [.val (.pointer (some ⟨g, off + (t.toNat * 6 + 0), none⟩))]), (false, [.val (.bool true)])], []⟩ :=
  cust_call (hlen := by rw [List.flatMap_cons, hy]; rfl) ho hc (con_enters Tryz.func29 (by kernel_rfl) (by kernel_rfl)) fun W0 obs ρ w args hold hm hv hos hun hne => by
    obtain ⟨B, hρ, hat⟩ := at_val hm (show obs q = .var 28 [.val (.int .i64 b.Store.Vendor), .val (.int .i64 b.Store.Serial), .val (.int .i64 b.Store.Seed), .val (.int .i64 b.Store.Counter), .val (.slice (some ⟨g, off, none⟩) b.Tabs.length cp), .val (.int .i64 b.Asked)] by rw [List.flatMap_cons, hy] at hos; simpa [AvIds, ScIds] using hos)
    obtain ⟨v1, s1, rfl, k1, v2, s2, rfl, k2, k3⟩ := hv
    obtain rfl : s2 = [] := k3
    obtain rfl : v2 = _ := k2
    obtain rfl := ptr_of (W0 := W0) k1 hρ
    refine (tab_yes w b t B g off cp hn hi hat).mono ?_
    rintro e w' ⟨rfl, hb⟩
    exact ⟨_, rfl, post_same hm hb (ofV_ok (.tuple #[.pointer (some ⟨g, off + (t.toNat * 6 + 0), none⟩), .bool true]))⟩
theorem cust_tabPF {old : World → Prop} {id q : Nat} {o : Oper} {c : Call} {y : AV} {b : Fx.Browser} {t : Int} {A : Option Addr} {cp : Nat} (ho : o.op = .call c) (hc : c.callee = .value (.func 29)) (hy : AvIds y = []) (hn : b.Tabs.length ≤ 16000000) (hA : 0 < b.Tabs.length → ∃ g off, A = some ⟨g, off, none⟩) (hi : isTab b t = false) :
    Cust Tryz.prog old id o [y, .one (.ptr q 0), .one (.val (.int .i64 t))] [.var 28 [.val (.int .i64 b.Store.Vendor), .val (.int .i64 b.Store.Serial), .val (.int .i64 b.Store.Seed), .val (.int .i64 b.Store.Counter), .val (.slice A b.Tabs.length cp), .val (.int .i64 b.Asked)]] ⟨[], .tup [(false, [.val (.pointer none)]), (false, [.val (.bool false)])], []⟩ :=
  cust_call (hlen := by rw [List.flatMap_cons, hy]; rfl) ho hc (con_enters Tryz.func29 (by kernel_rfl) (by kernel_rfl)) fun W0 obs ρ w args hold hm hv hos hun hne => by
    obtain ⟨B, hρ, hat⟩ := at_val hm (show obs q = .var 28 [.val (.int .i64 b.Store.Vendor), .val (.int .i64 b.Store.Serial), .val (.int .i64 b.Store.Seed), .val (.int .i64 b.Store.Counter), .val (.slice A b.Tabs.length cp), .val (.int .i64 b.Asked)] by rw [List.flatMap_cons, hy] at hos; simpa [AvIds, ScIds] using hos)
    obtain ⟨v1, s1, rfl, k1, v2, s2, rfl, k2, k3⟩ := hv
    obtain rfl : s2 = [] := k3
    obtain rfl : v2 = _ := k2
    obtain rfl := ptr_of (W0 := W0) k1 hρ
    refine (tab_no w b t B A cp hn hA hi hat).mono ?_
    rintro e w' ⟨rfl, hb⟩
    exact ⟨_, rfl, post_same hm hb (ofV_ok (.tuple #[.pointer none, .bool false]))⟩
noncomputable def canC (b : Fx.Browser) (t : Int) (z : ByteArray) (A : Option Addr) (cp g off : Nat) (m : Bool) : Orc := ⟨fun _ _ _ => none, fun id vs os => match id with
  | 20008 => (match m with
    | true => some ⟨[], .tup [(false, [.val (.pointer (some ⟨g, off + (t.toNat * 6 + 0), none⟩))]), (false, [.val (.bool true)])], []⟩
    | false => some ⟨[], .tup [(false, [.val (.pointer none)]), (false, [.val (.bool false)])], []⟩)
  | 30032 => some ⟨[], .one (.val (.bool (mayT (tabAt b t) z))), []⟩
  | _ => none, RowAt b A cp⟩
theorem conNavT (b : Fx.Browser) (t : Int) (o : Fx.Origin) (hn : b.Tabs.length ≤ 16000000) (h1_ : o.Host.size ≤ 4294967296) (hi : isTab b t = true) : FnCon Tryz.prog 13 ([(true, dasBrowser b), iV t, (true, dasOrigin o)]) ([(true, dasBrowser (navX b t o)), bV (navB b t o)]) := by
  refine fn_go (p := ((FnCon Tryz.prog 26 [(false, [rowR 62 6 dasTab zTab b.Tabs])] [(false, [rowR 62 6 dasTab zTab b.Tabs])]) ∧ ((Cust Tryz.prog (fun x => True) 30008 (opOf (Tryz.f13.body.getD Code.skip) 2 1) [AV.one (Sc.val (Value.func (Fn.func 29) { toList := [] } { toList := [] })), AV.one (Sc.ptr 10000 0), AV.one (Sc.val (vI t))] [Ob.var 28 [Sc.val (vI b.Store.Vendor), Sc.val (vI b.Store.Serial), Sc.val (vI b.Store.Seed), Sc.val (vI b.Store.Counter), Sc.own 20016, Sc.val (vI b.Asked)], Ob.own (rowR 62 6 dasTab zTab b.Tabs)] { need := [], val := AV.tup [(false, [Sc.elo 20016 6 t.toNat 0]), (false, [Sc.val (Value.bool true)])], mem := [] }) ∧ (false = false ∧ (FnCon Tryz.prog 41 [(true, (dasOrigin o))] [(false, [dB ((orgB o))])] ∧ bcase (!orgB o) ((true = true ∧ (vI b.Store.Vendor = vI (navX b t o).Store.Vendor ∧ (vI b.Store.Serial = vI (navX b t o).Store.Serial ∧ (vI b.Store.Seed = vI (navX b t o).Store.Seed ∧ (vI b.Store.Counter = vI (navX b t o).Store.Counter ∧ ((DaEq (rowR 62 6 dasTab zTab b.Tabs) (Da.row 62 6 (navX b t o).Tabs.length fun i j => (dasTab ((navX b t o).Tabs.getD i zTab)).getD j (Da.val undef))) ∧ vI b.Asked = vI (navX b t o).Asked)))))) ∧ (false = false ∧ Value.bool false = Value.bool (navB b t o))) (bcase (match (b.Tabs.getD t.toNat zTab).Top.Secure == (b.Tabs.getD t.toNat zTab).Origin.Secure with
| false => false
| true =>
  match (b.Tabs.getD t.toNat zTab).Top.Host == (b.Tabs.getD t.toNat zTab).Origin.Host with
  | false => false
  | true =>
    match (b.Tabs.getD t.toNat zTab).Top.Port == (b.Tabs.getD t.toNat zTab).Origin.Port with
    | false => false
    | true => true) ((Cust Tryz.prog (fun x => True) 70032 (opOf (Tryz.f13.body.getD Code.skip) 6 4) [AV.one (Sc.elo 20016 6 t.toNat 3), AV.agg [Sc.val (Value.bool o.Secure), Sc.val (Value.string o.Host), Sc.val (vI o.Port)]] [Ob.own (rowR 62 6 dasTab zTab b.Tabs)]
  { need := [], val := AV.one (Sc.val undef),
    mem :=
      [(20016,
          Ob.own
            (Da.row 62 6 b.Tabs.length fun a b_1 =>
              match a.beq t.toNat with
              | true =>
                match Nat.ble 3 b_1 with
                | true =>
                  match (3 + (dasOrigin o).length).ble b_1 with
                  | true => (dasTab (b.Tabs.getD a zTab)).getD b_1 (Da.val undef)
                  | false => (dasOrigin o).getD (b_1 - 3) (Da.val undef)
                | false => (dasTab (b.Tabs.getD a zTab)).getD b_1 (Da.val undef)
              | false => (dasTab (b.Tabs.getD a zTab)).getD b_1 (Da.val undef)))] }) ∧ ((Cust Tryz.prog (fun x => True) 80032 (opOf (Tryz.f13.body.getD Code.skip) 7 4) [AV.one (Sc.elo 20016 6 t.toNat 0), AV.agg [Sc.val (Value.bool o.Secure), Sc.val (Value.string o.Host), Sc.val (vI o.Port)]]
  [Ob.own
      (Da.row 62 6 b.Tabs.length fun a b_1 =>
        match a.beq t.toNat with
        | true =>
          match Nat.ble 3 b_1 with
          | true =>
            match (3 + (dasOrigin o).length).ble b_1 with
            | true => (dasTab (b.Tabs.getD a zTab)).getD b_1 (Da.val undef)
            | false => (dasOrigin o).getD (b_1 - 3) (Da.val undef)
          | false => (dasTab (b.Tabs.getD a zTab)).getD b_1 (Da.val undef)
        | false => (dasTab (b.Tabs.getD a zTab)).getD b_1 (Da.val undef))]
  { need := [], val := AV.one (Sc.val undef),
    mem :=
      [(20016,
          Ob.own
            (Da.row 62 6 b.Tabs.length fun a b_1 =>
              match a.beq t.toNat with
              | true =>
                match (0 + (dasOrigin o).length).ble b_1 with
                | true =>
                  match a.beq t.toNat with
                  | true =>
                    match Nat.ble 3 b_1 with
                    | true =>
                      match (3 + (dasOrigin o).length).ble b_1 with
                      | true => (dasTab (b.Tabs.getD a zTab)).getD b_1 (Da.val undef)
                      | false => (dasOrigin o).getD (b_1 - 3) (Da.val undef)
                    | false => (dasTab (b.Tabs.getD a zTab)).getD b_1 (Da.val undef)
                  | false => (dasTab (b.Tabs.getD a zTab)).getD b_1 (Da.val undef)
                | false => (dasOrigin o).getD (b_1 - 0) (Da.val undef)
              | false =>
                match a.beq t.toNat with
                | true =>
                  match Nat.ble 3 b_1 with
                  | true =>
                    match (3 + (dasOrigin o).length).ble b_1 with
                    | true => (dasTab (b.Tabs.getD a zTab)).getD b_1 (Da.val undef)
                    | false => (dasOrigin o).getD (b_1 - 3) (Da.val undef)
                  | false => (dasTab (b.Tabs.getD a zTab)).getD b_1 (Da.val undef)
                | false => (dasTab (b.Tabs.getD a zTab)).getD b_1 (Da.val undef)))] }) ∧ ((true = true ∧ (vI b.Store.Vendor = vI (navX b t o).Store.Vendor ∧ (vI b.Store.Serial = vI (navX b t o).Store.Serial ∧ (vI b.Store.Seed = vI (navX b t o).Store.Seed ∧ (vI b.Store.Counter = vI (navX b t o).Store.Counter ∧ ((DaEq
  (Da.row 62 6 b.Tabs.length fun a b_1 =>
    match a.beq t.toNat with
    | true =>
      match (0 + (dasOrigin o).length).ble b_1 with
      | true =>
        match a.beq t.toNat with
        | true =>
          match Nat.ble 3 b_1 with
          | true =>
            match (3 + (dasOrigin o).length).ble b_1 with
            | true => (dasTab (b.Tabs.getD a zTab)).getD b_1 (Da.val undef)
            | false => (dasOrigin o).getD (b_1 - 3) (Da.val undef)
          | false => (dasTab (b.Tabs.getD a zTab)).getD b_1 (Da.val undef)
        | false => (dasTab (b.Tabs.getD a zTab)).getD b_1 (Da.val undef)
      | false => (dasOrigin o).getD (b_1 - 0) (Da.val undef)
    | false =>
      match a.beq t.toNat with
      | true =>
        match Nat.ble 3 b_1 with
        | true =>
          match (3 + (dasOrigin o).length).ble b_1 with
          | true => (dasTab (b.Tabs.getD a zTab)).getD b_1 (Da.val undef)
          | false => (dasOrigin o).getD (b_1 - 3) (Da.val undef)
        | false => (dasTab (b.Tabs.getD a zTab)).getD b_1 (Da.val undef)
      | false => (dasTab (b.Tabs.getD a zTab)).getD b_1 (Da.val undef))
  (Da.row 62 6 (navX b t o).Tabs.length fun i j => (dasTab ((navX b t o).Tabs.getD i zTab)).getD j (Da.val undef))) ∧ vI b.Asked = vI (navX b t o).Asked)))))) ∧ (false = false ∧ Value.bool true = Value.bool (navB b t o))))) ((Cust Tryz.prog (fun x => True) 80032 (opOf (Tryz.f13.body.getD Code.skip) 7 4) [AV.one (Sc.elo 20016 6 t.toNat 0), AV.agg [Sc.val (Value.bool o.Secure), Sc.val (Value.string o.Host), Sc.val (vI o.Port)]] [Ob.own (rowR 62 6 dasTab zTab b.Tabs)]
  { need := [], val := AV.one (Sc.val undef),
    mem :=
      [(20016,
          Ob.own
            (Da.row 62 6 b.Tabs.length fun a b_1 =>
              match a.beq t.toNat with
              | true =>
                match (0 + (dasOrigin o).length).ble b_1 with
                | true => (dasTab (b.Tabs.getD a zTab)).getD b_1 (Da.val undef)
                | false => (dasOrigin o).getD (b_1 - 0) (Da.val undef)
              | false => (dasTab (b.Tabs.getD a zTab)).getD b_1 (Da.val undef)))] }) ∧ ((true = true ∧ (vI b.Store.Vendor = vI (navX b t o).Store.Vendor ∧ (vI b.Store.Serial = vI (navX b t o).Store.Serial ∧ (vI b.Store.Seed = vI (navX b t o).Store.Seed ∧ (vI b.Store.Counter = vI (navX b t o).Store.Counter ∧ ((DaEq
  (Da.row 62 6 b.Tabs.length fun a b_1 =>
    match a.beq t.toNat with
    | true =>
      match (0 + (dasOrigin o).length).ble b_1 with
      | true => (dasTab (b.Tabs.getD a zTab)).getD b_1 (Da.val undef)
      | false => (dasOrigin o).getD (b_1 - 0) (Da.val undef)
    | false => (dasTab (b.Tabs.getD a zTab)).getD b_1 (Da.val undef))
  (Da.row 62 6 (navX b t o).Tabs.length fun i j => (dasTab ((navX b t o).Tabs.getD i zTab)).getD j (Da.val undef))) ∧ vI b.Asked = vI (navX b t o).Asked)))))) ∧ (false = false ∧ Value.bool true = Value.bool (navB b t o)))))))))) (navC b t o true) (noLoops) Tryz.func13 (by kernel_rfl) (by kernel_rfl) (by kernel_rfl) (fun _ => trivial) (by kernel_rfl) ?_
  refine ⟨(conCopy b.Tabs (by omega)), ?g1, rfl, (iOrg _ h1_), bcase_intro (fun h3 => ⟨⟨rfl, congrArg _ ?g4, congrArg _ ?g5, congrArg _ ?g6, congrArg _ ?g7, ?g8, congrArg _ ?g9⟩, rfl, congrArg _ ?g10⟩) (fun h3 => bcase_intro (fun h11 => ⟨?g12, ?g13, ⟨rfl, congrArg _ ?g14, congrArg _ ?g15, congrArg _ ?g16, congrArg _ ?g17, ?g18, congrArg _ ?g19⟩, rfl, congrArg _ ?g20⟩) (fun h11 => ⟨?g21, ⟨rfl, congrArg _ ?g22, congrArg _ ?g23, congrArg _ ?g24, congrArg _ ?g25, ?g26, congrArg _ ?g27⟩, rfl, congrArg _ ?g28⟩))⟩
  case g1 => exact cust_tabT rfl rfl rfl (DaEq.refl _) hn hi
  all_goals have hlt := isTab_lt hi
  case g4 | g5 | g6 | g7 | g9 | g10 =>
    have e := navB_f2 (b := b) (t := t) (show orgB o = false by simpa using h3)
    first | exact e.symm | rw [navX_f e]
  case g8 =>
    have e := navB_f2 (b := b) (t := t) (show orgB o = false by simpa using h3)
    exact row_to row_self (by rw [navX_f e])
  all_goals have e := navB_t hi (show orgB o = true by simpa using h3)
  case g12 | g13 | g21 => exact C16s.put_org rfl (by kernel_rfl) (by decide)
  case g18 =>
    refine row_to (row_putAt (i := t.toNat) (f := 0) (ds := dasOrigin o) (y := navT (tabAt b t) o) (row_putAt (i := t.toNat) (f := 3) (ds := dasOrigin o) (y := ⟨(tabAt b t).Origin, o⟩) row_self fun j hj => ?_) fun j hj => ?_) (by rw [navX_t e]; exact List.set_set ..)
    · exact C16s.put_top _ _ _ j hj
    · rw [C16s.nav_eq (x := tabAt b t) (C16s.org_of h11)]
      exact C16s.put_own ⟨(tabAt b t).Origin, o⟩ _ _ _ j hj (by rw [List.getD_eq_getElem?_getD, List.getElem?_set_self (by omega)]; rfl)
  case g26 =>
    refine row_to (row_putAt (i := t.toNat) (f := 0) (ds := dasOrigin o) (y := navT (tabAt b t) o) row_self fun j hj => ?_) (by rw [navX_t e])
    rw [C16s.nav_ne (x := tabAt b t) (C16s.org_not h11)]
    exact C16s.put_own (tabAt b t) _ _ _ j hj rfl
  all_goals first | exact e.symm | rw [navX_t e]
theorem conNavF (b : Fx.Browser) (t : Int) (o : Fx.Origin) (hn : b.Tabs.length ≤ 16000000) (h1_ : o.Host.size ≤ 4294967296) (hi : isTab b t = false) : FnCon Tryz.prog 13 ([(true, dasBrowser b), iV t, (true, dasOrigin o)]) ([(true, dasBrowser (navX b t o)), bV (navB b t o)]) := by
  refine fn_go (p := ((FnCon Tryz.prog 26 [(false, [rowR 62 6 dasTab zTab b.Tabs])] [(false, [rowR 62 6 dasTab zTab b.Tabs])]) ∧ ((Cust Tryz.prog (fun x => True) 30008 (opOf (Tryz.f13.body.getD Code.skip) 2 1) [AV.one (Sc.val (Value.func (Fn.func 29) { toList := [] } { toList := [] })), AV.one (Sc.ptr 10000 0), AV.one (Sc.val (vI t))] [Ob.var 28 [Sc.val (vI b.Store.Vendor), Sc.val (vI b.Store.Serial), Sc.val (vI b.Store.Seed), Sc.val (vI b.Store.Counter), Sc.own 20016, Sc.val (vI b.Asked)], Ob.own (rowR 62 6 dasTab zTab b.Tabs)] { need := [], val := AV.tup [(false, [Sc.val (Value.pointer none)]), (false, [Sc.val (Value.bool false)])], mem := [] }) ∧ (true = true ∧ ((true = true ∧ (vI b.Store.Vendor = vI (navX b t o).Store.Vendor ∧ (vI b.Store.Serial = vI (navX b t o).Store.Serial ∧ (vI b.Store.Seed = vI (navX b t o).Store.Seed ∧ (vI b.Store.Counter = vI (navX b t o).Store.Counter ∧ ((DaEq (rowR 62 6 dasTab zTab b.Tabs) (Da.row 62 6 (navX b t o).Tabs.length fun i j => (dasTab ((navX b t o).Tabs.getD i zTab)).getD j (Da.val undef))) ∧ vI b.Asked = vI (navX b t o).Asked)))))) ∧ (false = false ∧ Value.bool false = Value.bool (navB b t o))))))) (navC b t o false) (noLoops) Tryz.func13 (by kernel_rfl) (by kernel_rfl) (by kernel_rfl) (fun _ => trivial) (by kernel_rfl) ?_
  refine ⟨(conCopy b.Tabs (by omega)), ?g1, rfl, ⟨rfl, congrArg _ ?g2, congrArg _ ?g3, congrArg _ ?g4, congrArg _ ?g5, ?g6, congrArg _ ?g7⟩, rfl, congrArg _ ?g8⟩
  case g1 => exact cust_tabF rfl rfl rfl (DaEq.refl _) hn hi
  all_goals have e := navB_f1 (o := o) hi
  case g6 => exact row_to row_self (by rw [navX_f e])
  all_goals first | exact e.symm | rw [navX_f e]
theorem conRegT (b : Fx.Browser) (t : Int) (z : ByteArray) (k : Int) (c : Bool) (hn : b.Tabs.length ≤ 16000000) (hs : short b) (hz : z.size ≤ 16000000) (hst : b.Store.ok) (k0 : -9223372036854775808 ≤ k) (k1 : k ≤ 9223372036854775807) (hi : canB b t z = true) : FnCon Tryz.prog 12 ([(true, dasBrowser b), iV t, sV z, iV k, bV c]) ([(true, dasBrowser (regX b t z)), iV (regP b t z k c), bV (regB b t z c)]) := by
  refine fn_go (p := ((FnCon Tryz.prog 26 [(false, [rowR 62 6 dasTab zTab b.Tabs])] [(false, [rowR 62 6 dasTab zTab b.Tabs])]) ∧ ((Cust Tryz.prog (fun x => True) 30024 (opOf (Tryz.f12.body.getD Code.skip) 2 3) [AV.one (Sc.val (Value.func (Fn.func 27) { toList := [] } { toList := [] })), AV.one (Sc.ptr 10000 0), AV.one (Sc.val (vI t)), AV.one (Sc.val (Value.string z)), AV.one (Sc.val (Value.bool c))] [Ob.var 28 [Sc.val (vI b.Store.Vendor), Sc.val (vI b.Store.Serial), Sc.val (vI b.Store.Seed), Sc.val (vI b.Store.Counter), Sc.own 20016, Sc.val (vI b.Asked)], Ob.own (rowR 62 6 dasTab zTab b.Tabs)] { need := [], val := AV.tup [(false, [Sc.elo 20016 6 t.toNat 0]), (false, [Sc.val (Value.bool c)])], mem := [(10000, Ob.var 28 [Sc.val (vI (M24.ask b).Store.Vendor), Sc.val (vI (M24.ask b).Store.Serial), Sc.val (vI (M24.ask b).Store.Seed), Sc.val (vI (M24.ask b).Store.Counter), Sc.own 20016, Sc.val (vI (M24.ask b).Asked)])] }) ∧ bcase (!c) ((!c) = true ∧ ((true = true ∧ (vI (M24.ask b).Store.Vendor = vI (regX b t z).Store.Vendor ∧ (vI (M24.ask b).Store.Serial = vI (regX b t z).Store.Serial ∧ (vI (M24.ask b).Store.Seed = vI (regX b t z).Store.Seed ∧ (vI (M24.ask b).Store.Counter = vI (regX b t z).Store.Counter ∧ ((DaEq (rowR 62 6 dasTab zTab b.Tabs) (Da.row 62 6 (regX b t z).Tabs.length fun i j => (dasTab ((regX b t z).Tabs.getD i zTab)).getD j (Da.val undef))) ∧ vI (M24.ask b).Asked = vI (regX b t z).Asked)))))) ∧ ((false = false ∧ vI 0 = vI (regP b t z k c)) ∧ (false = false ∧ Value.bool false = Value.bool (regB b t z c))))) ((!c) = false ∧ (FnCon Tryz.prog 39 [(true, [dI ((M24.ask b).Store.Vendor), dI ((M24.ask b).Store.Serial), dI ((M24.ask b).Store.Seed), dI ((M24.ask b).Store.Counter)])] [(false, [dB ((vst b.Store))])] ∧ bcase (!vst b.Store) ((true = true ∧ (vI (M24.ask b).Store.Vendor = vI (regX b t z).Store.Vendor ∧ (vI (M24.ask b).Store.Serial = vI (regX b t z).Store.Serial ∧ (vI (M24.ask b).Store.Seed = vI (regX b t z).Store.Seed ∧ (vI (M24.ask b).Store.Counter = vI (regX b t z).Store.Counter ∧ ((DaEq (rowR 62 6 dasTab zTab b.Tabs) (Da.row 62 6 (regX b t z).Tabs.length fun i j => (dasTab ((regX b t z).Tabs.getD i zTab)).getD j (Da.val undef))) ∧ vI (M24.ask b).Asked = vI (regX b t z).Asked)))))) ∧ ((false = false ∧ vI 0 = vI (regP b t z k c)) ∧ (false = false ∧ Value.bool false = Value.bool (regB b t z c)))) (FnCon Tryz.prog 40 [(true, [dI ((M24.ask b).Store.Vendor), dI ((M24.ask b).Store.Serial), dI ((M24.ask b).Store.Seed), dI ((M24.ask b).Store.Counter)]), (false, [dS (z)]), (false, [dI (k)])] [(false, [dI ((pubS b.Store z k))])] ∧ ((true = true ∧ (vI (M24.ask b).Store.Vendor = vI (regX b t z).Store.Vendor ∧ (vI (M24.ask b).Store.Serial = vI (regX b t z).Store.Serial ∧ (vI (M24.ask b).Store.Seed = vI (regX b t z).Store.Seed ∧ (vI (M24.ask b).Store.Counter = vI (regX b t z).Store.Counter ∧ ((DaEq (rowR 62 6 dasTab zTab b.Tabs) (Da.row 62 6 (regX b t z).Tabs.length fun i j => (dasTab ((regX b t z).Tabs.getD i zTab)).getD j (Da.val undef))) ∧ vI (M24.ask b).Asked = vI (regX b t z).Asked)))))) ∧ ((false = false ∧ vI (pubS b.Store z k) = vI (regP b t z k c)) ∧ (false = false ∧ Value.bool true = Value.bool (regB b t z c)))))))))) (regC b t z k c true) (noLoops) Tryz.func12 (by kernel_rfl) (by kernel_rfl) (by kernel_rfl) (fun _ => trivial) (by kernel_rfl) ?_
  refine ⟨(conCopy b.Tabs (by omega)), ?g1, bcase_intro (fun h2 => ⟨h2, ⟨rfl, congrArg _ ?g3, congrArg _ ?g4, congrArg _ ?g5, congrArg _ ?g6, ?g7, congrArg _ ?g8⟩, ⟨rfl, congrArg _ ?g9⟩, rfl, congrArg _ ?g10⟩) (fun h2 => ⟨h2, (iVst b.Store), bcase_intro (fun h12 => ⟨⟨rfl, congrArg _ ?g13, congrArg _ ?g14, congrArg _ ?g15, congrArg _ ?g16, ?g17, congrArg _ ?g18⟩, ⟨rfl, congrArg _ ?g19⟩, rfl, congrArg _ ?g20⟩) (fun h12 => ⟨(iPub b.Store z k hst hz k0 k1), ⟨rfl, congrArg _ ?g22, congrArg _ ?g23, congrArg _ ?g24, congrArg _ ?g25, ?g26, congrArg _ ?g27⟩, ⟨rfl, congrArg _ ?g28⟩, rfl, congrArg _ ?g29⟩)⟩)⟩
  case g1 => exact cust_askT rfl rfl rfl (DaEq.refl _) hn hs (by omega) hi
  case g7 | g17 | g26 => exact row_to row_self (by rw [regX_t hi]; rfl)
  case g3 | g4 | g5 | g6 | g8 | g13 | g14 | g15 | g16 | g18 | g22 | g23 | g24 | g25 | g27 => rw [regX_t hi]
  case g9 | g10 =>
    have e := regB_f2 (b := b) (t := t) (z := z) (show c = false by simpa using h2)
    first | exact e.symm | rw [regP_f e]
  case g19 | g20 =>
    have e := regB_f3 (t := t) (z := z) (c := c) (show vst b.Store = false by simpa using h12)
    first | exact e.symm | rw [regP_f e]
  case g28 | g29 =>
    have e := regB_t hi (show c = true by simpa using h2) (show vst b.Store = true by simpa using h12)
    first | exact e.symm | rw [regP_t e]
theorem conRegF (b : Fx.Browser) (t : Int) (z : ByteArray) (k : Int) (c : Bool) (hn : b.Tabs.length ≤ 16000000) (hs : short b) (hz : z.size ≤ 16000000) (hi : canB b t z = false) : FnCon Tryz.prog 12 ([(true, dasBrowser b), iV t, sV z, iV k, bV c]) ([(true, dasBrowser (regX b t z)), iV (regP b t z k c), bV (regB b t z c)]) := by
  refine fn_go (p := ((FnCon Tryz.prog 26 [(false, [rowR 62 6 dasTab zTab b.Tabs])] [(false, [rowR 62 6 dasTab zTab b.Tabs])]) ∧ ((Cust Tryz.prog (fun x => True) 30024 (opOf (Tryz.f12.body.getD Code.skip) 2 3) [AV.one (Sc.val (Value.func (Fn.func 27) { toList := [] } { toList := [] })), AV.one (Sc.ptr 10000 0), AV.one (Sc.val (vI t)), AV.one (Sc.val (Value.string z)), AV.one (Sc.val (Value.bool c))] [Ob.var 28 [Sc.val (vI b.Store.Vendor), Sc.val (vI b.Store.Serial), Sc.val (vI b.Store.Seed), Sc.val (vI b.Store.Counter), Sc.own 20016, Sc.val (vI b.Asked)], Ob.own (rowR 62 6 dasTab zTab b.Tabs)] { need := [], val := AV.tup [(false, [Sc.val (Value.pointer none)]), (false, [Sc.val (Value.bool false)])], mem := [] }) ∧ (true = true ∧ ((true = true ∧ (vI b.Store.Vendor = vI (regX b t z).Store.Vendor ∧ (vI b.Store.Serial = vI (regX b t z).Store.Serial ∧ (vI b.Store.Seed = vI (regX b t z).Store.Seed ∧ (vI b.Store.Counter = vI (regX b t z).Store.Counter ∧ ((DaEq (rowR 62 6 dasTab zTab b.Tabs) (Da.row 62 6 (regX b t z).Tabs.length fun i j => (dasTab ((regX b t z).Tabs.getD i zTab)).getD j (Da.val undef))) ∧ vI b.Asked = vI (regX b t z).Asked)))))) ∧ ((false = false ∧ vI 0 = vI (regP b t z k c)) ∧ (false = false ∧ Value.bool false = Value.bool (regB b t z c)))))))) (regC b t z k c false) (noLoops) Tryz.func12 (by kernel_rfl) (by kernel_rfl) (by kernel_rfl) (fun _ => trivial) (by kernel_rfl) ?_
  refine ⟨(conCopy b.Tabs (by omega)), ?g1, rfl, ⟨rfl, congrArg _ ?g2, congrArg _ ?g3, congrArg _ ?g4, congrArg _ ?g5, ?g6, congrArg _ ?g7⟩, ⟨rfl, congrArg _ ?g8⟩, rfl, congrArg _ ?g9⟩
  case g1 => exact cust_askF rfl rfl rfl (DaEq.refl _) hn hs (by omega) hi
  case g6 => exact row_to row_self (by rw [regX_f hi])
  case g8 | g9 =>
    have e := regB_f1 (c := c) hi
    first | exact e.symm | rw [regP_f e]
  all_goals rw [regX_f hi]
theorem conEqlS (l m : List Tb) (hn : l.length ≤ 16000000) (hm : m.length ≤ 16000000) : FnCon Tryz.prog 42 ([(false, [rowR 62 6 dasTab zTab l]), (false, [rowR 62 6 dasTab zTab m])]) ([bV (eqlT l m)]) := by
  refine fn_go (p := bcase ((↑l.length : Int) != (↑m.length : Int)) (false = false ∧ Value.bool false = Value.bool (eqlT l m)) ((∃ x0 : EqlX l m, (((DaEq (rowR 62 6 dasTab zTab l) (rowR 62 6 dasTab zTab l)) ∧ ((DaEq (rowR 62 6 dasTab zTab m) (rowR 62 6 dasTab zTab m)) ∧ (Value.bool false = Value.bool false ∧ (vI (↑l.length : Int) = vI (↑l.length : Int) ∧ (vI 0 = vI (↑x0.1 : Int) ∧ True))))) ∧ True)) ∧ (∀ v : EqlX l m, bcase (decide ((↑v.1 : Int) < (↑l.length : Int))) ((0 ≤ (↑v.1 : Int) ∧ (↑v.1 : Int) < (↑l.length : Int)) ∧ ((0 ≤ (↑v.1 : Int) ∧ (↑v.1 : Int) < (↑m.length : Int)) ∧ bcase (match
  match
    match (l.getD (↑v.1 : Int).toNat zTab).Origin.Secure == (m.getD (↑v.1 : Int).toNat zTab).Origin.Secure with
    | false => false
    | true =>
      match (l.getD (↑v.1 : Int).toNat zTab).Origin.Host == (m.getD (↑v.1 : Int).toNat zTab).Origin.Host with
      | false => false
      | true =>
        match (l.getD (↑v.1 : Int).toNat zTab).Origin.Port == (m.getD (↑v.1 : Int).toNat zTab).Origin.Port with
        | false => false
        | true => true with
  | false => false
  | true =>
    match
      match (l.getD (↑v.1 : Int).toNat zTab).Top.Secure == (m.getD (↑v.1 : Int).toNat zTab).Top.Secure with
      | false => false
      | true =>
        match (l.getD (↑v.1 : Int).toNat zTab).Top.Host == (m.getD (↑v.1 : Int).toNat zTab).Top.Host with
        | false => false
        | true =>
          match (l.getD (↑v.1 : Int).toNat zTab).Top.Port == (m.getD (↑v.1 : Int).toNat zTab).Top.Port with
          | false => false
          | true => true with
    | false => false
    | true => true with
| true => false
| false => true) (false = false ∧ Value.bool false = Value.bool (eqlT l m)) (∃ v' : EqlX l m, (l.length.sub v'.1 < l.length.sub v.1 ∧ (((DaEq (rowR 62 6 dasTab zTab l) (rowR 62 6 dasTab zTab l)) ∧ ((DaEq (rowR 62 6 dasTab zTab m) (rowR 62 6 dasTab zTab m)) ∧ (Value.bool false = Value.bool false ∧ (vI (↑l.length : Int) = vI (↑l.length : Int) ∧ (vI (IntKind.i64.wrap ((↑v.1 : Int) + 1)) = vI (↑v'.1 : Int) ∧ True))))) ∧ True))))) (false = false ∧ Value.bool true = Value.bool (eqlT l m))))) (noCalls) (eqlL l m) Tryz.func42 (by kernel_rfl) (by kernel_rfl) (by kernel_rfl) (fun _ => trivial) (by kernel_rfl) ?_
  refine bcase_intro (fun h0 => ⟨rfl, congrArg _ ?g1⟩) (fun h0 => ⟨⟨⟨0, Nat.zero_le _, (by have := bne_eq_false_iff_eq.1 h0; omega), fun j h => absurd h (Nat.not_lt_zero _)⟩, ⟨⟨DaEq.refl _, DaEq.refl _, rfl, rfl, congrArg _ ?g3, trivial⟩, trivial⟩⟩, fun v => bcase_intro (fun h4 => ⟨⟨?g5, ?g6⟩, ⟨?g7, ?g8⟩, bcase_intro (fun h9 => ⟨rfl, congrArg _ ?g10⟩) (fun h9 => ⟨⟨v.1 + 1, ?wa, v.2.2.1, ?wb⟩, ⟨?g12, ⟨DaEq.refl _, DaEq.refl _, rfl, rfl, congrArg _ ?g13, trivial⟩, trivial⟩⟩)⟩) (fun h4 => ⟨rfl, congrArg _ ?g14⟩)⟩)
  case g1 => exact (eqlT_f fun e => by rw [e] at h0; simp at h0).symm
  case g3 => rfl
  all_goals have hlen := v.2.2.1
  case g14 =>
    have h4 := of_decide_eq_false h4
    exact (eqlT_t (list_ext hlen fun j hj => v.2.2.2 j (by omega))).symm
  all_goals have h4 := of_decide_eq_true h4
  case g5 | g6 | g7 | g8 => omega
  case wa => omega
  case g12 => show l.length - (v.1 + 1) < l.length - v.1; omega
  case g13 => show IntKind.i64.wrap ((v.1 : Int) + 1) = ((v.1 + 1 : Nat) : Int); rw [IntWalk.i64_in _ (by omega)]; rfl
  all_goals simp only [Int.toNat_natCast] at h9
  case g10 => exact (eqlT_f fun e => C16s.tab_not h9 (list_at e _)).symm
  case wb =>
    intro j hj
    rcases Nat.lt_or_ge j v.1 with h | h
    · exact v.2.2.2 j h
    · obtain rfl : j = v.1 := by omega
      exact C16s.tab_of h9
theorem conEql (a b : Fx.Browser) (hn : a.Tabs.length ≤ 16000000) (hm : b.Tabs.length ≤ 16000000) : FnCon Tryz.prog 14 ([(true, dasBrowser a), (true, dasBrowser b)]) ([bV (eqlB a b)]) := by
  refine fn_go (p := bcase (match a.Store.Vendor == b.Store.Vendor with
| false => false
| true =>
  match a.Store.Serial == b.Store.Serial with
  | false => false
  | true =>
    match a.Store.Seed == b.Store.Seed with
    | false => false
    | true =>
      match a.Store.Counter == b.Store.Counter with
      | false => false
      | true => true) (bcase (eqlT a.Tabs b.Tabs) (((match a.Store.Vendor == b.Store.Vendor with
  | false => false
  | true =>
    match a.Store.Serial == b.Store.Serial with
    | false => false
    | true =>
      match a.Store.Seed == b.Store.Seed with
      | false => false
      | true =>
        match a.Store.Counter == b.Store.Counter with
        | false => false
        | true => true) =
  true) ∧ ((FnCon Tryz.prog 42 [(false, [rowR 62 6 dasTab zTab a.Tabs]), (false, [rowR 62 6 dasTab zTab b.Tabs])] [(false, [dB ((eqlT a.Tabs b.Tabs))])]) ∧ (eqlT a.Tabs b.Tabs = true ∧ (false = false ∧ Value.bool (a.Asked == b.Asked) = Value.bool (eqlB a b))))) (((match a.Store.Vendor == b.Store.Vendor with
  | false => false
  | true =>
    match a.Store.Serial == b.Store.Serial with
    | false => false
    | true =>
      match a.Store.Seed == b.Store.Seed with
      | false => false
      | true =>
        match a.Store.Counter == b.Store.Counter with
        | false => false
        | true => true) =
  true) ∧ ((FnCon Tryz.prog 42 [(false, [rowR 62 6 dasTab zTab a.Tabs]), (false, [rowR 62 6 dasTab zTab b.Tabs])] [(false, [dB ((eqlT a.Tabs b.Tabs))])]) ∧ (eqlT a.Tabs b.Tabs = false ∧ (false = false ∧ Value.bool false = Value.bool (eqlB a b)))))) (((match a.Store.Vendor == b.Store.Vendor with
  | false => false
  | true =>
    match a.Store.Serial == b.Store.Serial with
    | false => false
    | true =>
      match a.Store.Seed == b.Store.Seed with
      | false => false
      | true =>
        match a.Store.Counter == b.Store.Counter with
        | false => false
        | true => true) =
  false) ∧ (false = false ∧ (false = false ∧ Value.bool false = Value.bool (eqlB a b))))) (callsBy fun _ _ _ => some [bV (eqlT a.Tabs b.Tabs)]) (noLoops) Tryz.func14 (by kernel_rfl) (by kernel_rfl) (by kernel_rfl) (fun _ => trivial) (by kernel_rfl) ?_
  refine bcase_intro (fun h0 => bcase_intro (fun h1 => ⟨h0, (conEqlS _ _ hn hm), h1, rfl, congrArg _ ?g3⟩) (fun h1 => ⟨h0, (conEqlS _ _ hn hm), h1, rfl, congrArg _ ?g5⟩)) (fun h0 => ⟨h0, rfl, rfl, congrArg _ ?g6⟩)
  case g3 =>
    have e1 := st_of h0
    have e2 := eqlT_ok h1
    cases e3 : a.Asked == b.Asked with
    | true => exact (eqlB_t e1 e2 (eq_of_beq e3)).symm
    | false => exact (eqlB_a (beq_eq_false_iff_ne.1 e3)).symm
  case g5 => exact (eqlB_l (eqlT_n h1)).symm
  case g6 => exact (eqlB_s fun e => by rw [e] at h0; simp at h0).symm
theorem wpCanT (b : Fx.Browser) (t : Int) (z : ByteArray) (g off cp : Nat) (hn : b.Tabs.length ≤ 16000000) (hs : short b) (hz : z.size ≤ 4294967296) (hi : isTab b t = true) : awp Tryz.prog (canC b t z (some ⟨g, off, none⟩) cp g off true) (noLoops) (Tryz.f8.body.getD .skip) ⟨[.agg [.val (.int .i64 b.Store.Vendor), .val (.int .i64 b.Store.Serial), .val (.int .i64 b.Store.Seed), .val (.int .i64 b.Store.Counter), .val (.slice (some ⟨g, off, none⟩) b.Tabs.length cp), .val (.int .i64 b.Asked)], .one (.val (.int .i64 t)), .one (.val (.string z))] ++ List.replicate (Tryz.f8.ntmps - ([.agg [.val (.int .i64 b.Store.Vendor), .val (.int .i64 b.Store.Serial), .val (.int .i64 b.Store.Seed), .val (.int .i64 b.Store.Counter), .val (.slice (some ⟨g, off, none⟩) b.Tabs.length cp), .val (.int .i64 b.Asked)], .one (.val (.int .i64 t)), .one (.val (.string z))] : List AV).length) (.one (.val undef)), fun _ => .un⟩ (retK Tryz.prog Tryz.f8.results.toList [bV (canB b t z)]) := by
  have hh_ : (Cust Tryz.prog (RowAt b (some { block := g, off := off }) cp) 20008 (opOf (Tryz.f8.body.getD Code.skip) 1 1) [AV.one (Sc.val (Value.func (Fn.func 29) { toList := [] } { toList := [] })), AV.one (Sc.ptr 10000 0), AV.one (Sc.val (vI t))] [Ob.var 28 [Sc.val (vI b.Store.Vendor), Sc.val (vI b.Store.Serial), Sc.val (vI b.Store.Seed), Sc.val (vI b.Store.Counter), Sc.val (Value.slice (some { block := g, off := off }) b.Tabs.length cp), Sc.val (vI b.Asked)]] { need := [], val := AV.tup [(false, [Sc.val (Value.pointer (some { block := g, off := off + (t.toNat * 6 + 0) }))]), (false, [Sc.val (Value.bool true)])], mem := [] } ∧ (true = true ∧ (Cust Tryz.prog (RowAt b (some { block := g, off := off }) cp) 30032 (opOf (Tryz.f8.body.getD Code.skip) 2 4) [AV.one (Sc.val (Value.func (Fn.func 30) { toList := [] } { toList := [] })), AV.one (Sc.val (Value.pointer (some { block := g, off := off + (t.toNat * 6 + 0) }))), AV.one (Sc.val (Value.string z))] [] { need := [], val := AV.one (Sc.val (Value.bool (mayT (tabAt b t) z))), mem := [] } ∧ (false = false ∧ Value.bool (mayT (tabAt b t) z) = Value.bool (canB b t z))))) = (awp Tryz.prog (canC b t z (some ⟨g, off, none⟩) cp g off true) (noLoops) (Tryz.f8.body.getD .skip) ⟨[.agg [.val (.int .i64 b.Store.Vendor), .val (.int .i64 b.Store.Serial), .val (.int .i64 b.Store.Seed), .val (.int .i64 b.Store.Counter), .val (.slice (some ⟨g, off, none⟩) b.Tabs.length cp), .val (.int .i64 b.Asked)], .one (.val (.int .i64 t)), .one (.val (.string z))] ++ List.replicate (Tryz.f8.ntmps - ([.agg [.val (.int .i64 b.Store.Vendor), .val (.int .i64 b.Store.Serial), .val (.int .i64 b.Store.Seed), .val (.int .i64 b.Store.Counter), .val (.slice (some ⟨g, off, none⟩) b.Tabs.length cp), .val (.int .i64 b.Asked)], .one (.val (.int .i64 t)), .one (.val (.string z))] : List AV).length) (.one (.val undef)), fun _ => .un⟩ (retK Tryz.prog Tryz.f8.results.toList [bV (canB b t z)])) := by kernel_rfl
  rw [← hh_]
  clear hh_
  refine ⟨?g0, rfl, ?g1, rfl, congrArg _ ?g2⟩
  case g0 => exact cust_tabPT rfl rfl rfl hn hi
  case g1 => exact cust_plain (us := [.pointer (some ⟨g, off + (t.toNat * 6 + 0), none⟩), .string z]) (u := .bool (mayT (tabAt b t) z)) rfl rfl (con_enters Tryz.func30 (by kernel_rfl) (by kernel_rfl)) rfl rfl fun W0 w hold hb => can_c w (tabAt b t) z g _ (short_at hs _).1 (short_at hs _).2 hz (tab_at (shs_on hold.row hb) (isTab_lt hi).2)
  case g2 => unfold canB; rw [hi]; rfl
theorem wpCanF (b : Fx.Browser) (t : Int) (z : ByteArray) (A : Option Addr) (cp : Nat) (hn : b.Tabs.length ≤ 16000000) (hA : 0 < b.Tabs.length → ∃ g off, A = some ⟨g, off, none⟩) (hi : isTab b t = false) : awp Tryz.prog (canC b t z A cp 0 0 false) (noLoops) (Tryz.f8.body.getD .skip) ⟨[.agg [.val (.int .i64 b.Store.Vendor), .val (.int .i64 b.Store.Serial), .val (.int .i64 b.Store.Seed), .val (.int .i64 b.Store.Counter), .val (.slice A b.Tabs.length cp), .val (.int .i64 b.Asked)], .one (.val (.int .i64 t)), .one (.val (.string z))] ++ List.replicate (Tryz.f8.ntmps - ([.agg [.val (.int .i64 b.Store.Vendor), .val (.int .i64 b.Store.Serial), .val (.int .i64 b.Store.Seed), .val (.int .i64 b.Store.Counter), .val (.slice A b.Tabs.length cp), .val (.int .i64 b.Asked)], .one (.val (.int .i64 t)), .one (.val (.string z))] : List AV).length) (.one (.val undef)), fun _ => .un⟩ (retK Tryz.prog Tryz.f8.results.toList [bV (canB b t z)]) := by
  have hh_ : (Cust Tryz.prog (RowAt b A cp) 20008 (opOf (Tryz.f8.body.getD Code.skip) 1 1) [AV.one (Sc.val (Value.func (Fn.func 29) { toList := [] } { toList := [] })), AV.one (Sc.ptr 10000 0), AV.one (Sc.val (vI t))] [Ob.var 28 [Sc.val (vI b.Store.Vendor), Sc.val (vI b.Store.Serial), Sc.val (vI b.Store.Seed), Sc.val (vI b.Store.Counter), Sc.val (Value.slice A b.Tabs.length cp), Sc.val (vI b.Asked)]] { need := [], val := AV.tup [(false, [Sc.val (Value.pointer none)]), (false, [Sc.val (Value.bool false)])], mem := [] } ∧ (false = false ∧ (false = false ∧ Value.bool false = Value.bool (canB b t z)))) = (awp Tryz.prog (canC b t z A cp 0 0 false) (noLoops) (Tryz.f8.body.getD .skip) ⟨[.agg [.val (.int .i64 b.Store.Vendor), .val (.int .i64 b.Store.Serial), .val (.int .i64 b.Store.Seed), .val (.int .i64 b.Store.Counter), .val (.slice A b.Tabs.length cp), .val (.int .i64 b.Asked)], .one (.val (.int .i64 t)), .one (.val (.string z))] ++ List.replicate (Tryz.f8.ntmps - ([.agg [.val (.int .i64 b.Store.Vendor), .val (.int .i64 b.Store.Serial), .val (.int .i64 b.Store.Seed), .val (.int .i64 b.Store.Counter), .val (.slice A b.Tabs.length cp), .val (.int .i64 b.Asked)], .one (.val (.int .i64 t)), .one (.val (.string z))] : List AV).length) (.one (.val undef)), fun _ => .un⟩ (retK Tryz.prog Tryz.f8.results.toList [bV (canB b t z)])) := by kernel_rfl
  rw [← hh_]
  clear hh_
  refine ⟨?g0, rfl, rfl, congrArg _ ?g1⟩
  case g0 => exact cust_tabPF rfl rfl rfl hn hA hi
  case g1 => exact (canB_i hi).symm
theorem conCan (b : Fx.Browser) (t : Int) (z : ByteArray) (hn : b.Tabs.length ≤ 16000000) (hs : short b) (hz : z.size ≤ 4294967296) : FnCon Tryz.prog 8 [(true, dasBrowser b), iV t, sV z] [bV (canB b t z)] :=
  con_of_plain (con_enters Tryz.func8 (by kernel_rfl) (by kernel_rfl)) rfl fun w v0 k0 => by
    obtain ⟨v, v1, rfl, h1, k1⟩ := k0
    rw [if_pos rfl] at h1
    obtain ⟨us, rfl, h3⟩ := h1
    obtain ⟨v2, rfl, k2⟩ := of_valA k1
    obtain ⟨v3, rfl, k3⟩ := of_valA k2
    obtain rfl := of_nil k3
    simp only [dasBrowser, List.map_cons, List.map_nil, ShsL] at h3
    obtain ⟨u1, t1, rfl, e1, u2, t2, rfl, e2, u3, t3, rfl, e3, u4, t4, rfl, e4, u5, t5, rfl, e5, u6, t6, rfl, e6, rfl⟩ := h3
    have e1 : u1 = .int .i64 b.Store.Vendor := by have := e1; simp only [Da.dc, dI, Shs] at this; exact this
    have e2 : u2 = .int .i64 b.Store.Serial := by have := e2; simp only [Da.dc, dI, Shs] at this; exact this
    have e3 : u3 = .int .i64 b.Store.Seed := by have := e3; simp only [Da.dc, dI, Shs] at this; exact this
    have e4 : u4 = .int .i64 b.Store.Counter := by have := e4; simp only [Da.dc, dI, Shs] at this; exact this
    have e6 : u6 = .int .i64 b.Asked := by have := e6; simp only [Da.dc, dI, Shs] at this; exact this
    subst e1 e2 e3 e4 e6
    have hh := e5
    simp only [Da.dc, Shs] at hh
    obtain ⟨A, cp, xs, rfl, hr, _⟩ := hh
    have hA : 0 < b.Tabs.length → ∃ g off, A = some ⟨g, off, none⟩ := fun h => by
      obtain ⟨g, off, e, _⟩ := hr.2 h
      exact ⟨g, off, e⟩
    cases hi : isTab b t with
    | false => exact law_go (canC b t z A cp 0 0 false) noLoops Tryz.func8 (by kernel_rfl) (by kernel_rfl) (wpCanF b t z A cp hn hA hi) ⟨e5⟩ rfl (args_of (us := [.agg #[.int .i64 b.Store.Vendor, .int .i64 b.Store.Serial, .int .i64 b.Store.Seed, .int .i64 b.Store.Counter, .slice A b.Tabs.length cp, .int .i64 b.Asked], .int .i64 t, .string z]))
    | true =>
      obtain ⟨g, off, rfl⟩ := hA (by have := (isTab_lt hi).2; omega)
      exact law_go (canC b t z (some ⟨g, off, none⟩) cp g off true) noLoops Tryz.func8 (by kernel_rfl) (by kernel_rfl) (wpCanT b t z g off cp hn hs hz hi) ⟨e5⟩ rfl (args_of (us := [.agg #[.int .i64 b.Store.Vendor, .int .i64 b.Store.Serial, .int .i64 b.Store.Seed, .int .i64 b.Store.Counter, .slice (some ⟨g, off, none⟩) b.Tabs.length cp, .int .i64 b.Asked], .int .i64 t, .string z]))
theorem conNav (b : Fx.Browser) (t : Int) (o : Fx.Origin) (hn : b.Tabs.length ≤ 16000000) (h1_ : o.Host.size ≤ 4294967296) : FnCon Tryz.prog 13 [(true, dasBrowser b), iV t, (true, dasOrigin o)] [(true, dasBrowser (navX b t o)), bV (navB b t o)] := by
  cases hi : isTab b t with
  | true => exact conNavT b t o hn h1_ hi
  | false => exact conNavF b t o hn h1_ hi
theorem conReg (b : Fx.Browser) (t : Int) (z : ByteArray) (k : Int) (c : Bool) (hn : b.Tabs.length ≤ 16000000) (hs : short b) (hz : z.size ≤ 16000000) (hst : b.Store.ok) (k0 : -9223372036854775808 ≤ k) (k1 : k ≤ 9223372036854775807) : FnCon Tryz.prog 12 [(true, dasBrowser b), iV t, sV z, iV k, bV c] [(true, dasBrowser (regX b t z)), iV (regP b t z k c), bV (regB b t z c)] := by
  cases hi : canB b t z with
  | true => exact conRegT b t z k c hn hs hz hst k0 k1 hi
  | false => exact conRegF b t z k c hn hs hz hi
end Go.Proofs.YtogoppknimpkbaaGreatDoor.C16l
