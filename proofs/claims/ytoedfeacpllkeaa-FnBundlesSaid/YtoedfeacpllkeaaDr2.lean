/-
  The model's draws over E: one of a list that is written out.
-/
import Derived.Test.YtoedfeacpllkeaaDr
namespace Go.Proofs.Ytoedfeacpllkeaa.Dr
open Go.ChangeShapes Go.WideShapes Go.ChangeAt Go.RowKit
open S0 S1 S9 E0 E1 E2 E3 E4 E7 E10 E15 E16 E17 E18 E19 E20 E21 E22
set_option linter.unusedVariables false
set_option linter.unusedSimpArgs false
set_option maxRecDepth 100000
set_option maxHeartbeats 400000
theorem intC (w : World) (n B : Nat) (xs : List Int) (s : Cu) (hat : LentAt w n B 71 (cur xs s)) {A : Option Addr} {m c : Nat} {us : List Value} (hr : Rd w w.heap.size 1 A m us) (hB : ∀ a, A = some a → a.block ≠ B) (hm : 0 < m) (hm2 : m ≤ 1000) (k : OkC xs s) {u : Value} (hu : us.getD (belV xs m s).toNat undef = u) (hone : u.oneCell' = true) :
    Calls Try.prog 70 #[ptrB B, .slice A m c] w fun e w' => e = .returned u ∧ LentAt w' n B 71 (cur xs (belS xs m s)) ∧ w.grownBy w' (some B) := by
  have K := Lib.hid ((lnB xs m s k (by omega)).calls w n B hat)
  have hlt := hat.lt
  clear hat k
  have hb := belV_bd xs (n := m) s (by omega)
  obtain ⟨r, hr0⟩ : ∃ r, r = belV xs m s := ⟨_, rfl⟩
  obtain ⟨s', hs'⟩ : ∃ s', s' = belS xs m s := ⟨_, rfl⟩
  rw [← hr0] at hb hu
  rw [← hs']
  obtain ⟨q, hq⟩ : ∃ q : Nat, r = q := ⟨_, (Int.toNat_of_nonneg hb.1).symm⟩
  have hqm : q < m := by omega
  obtain ⟨g, off, rfl, hg, hc⟩ := hr.2 hm
  have hu2 : us[q]? = some u := by
    have hl := hr.1
    rw [hq, Int.toNat_natCast, List.getD_eq_getElem?_getD, List.getElem?_eq_getElem (by omega)] at hu
    rw [List.getElem?_eq_getElem (by omega)]
    exact congrArg some hu
  have hcell := hc q (by omega)
  rw [hu2] at hcell
  have hgB := hB _ rfl
  clear hc hr hu hB
  rw [← hr0, ← hs'] at K
  have HN := Lib.hid (show (0 : Int) ≤ q ∧ (q : Int) < m by omega)
  clear hb hr0 hs'
  rw [hq] at K
  go_enter Try.func70, Try.ntmps70
  go_wp2_with fail
  refine K.out.mono ?_
  rintro e w' ⟨vs, bs, he, hres, _, hat', hgr⟩
  obtain rfl := one_of_res hres
  obtain rfl : e = .returned (.int .i64 q) := he
  have hcell' : w'.cell? ⟨g, off + q, none⟩ = some u := by
    rw [World.cell?_of_block (w := w) (a := ⟨g, off + q, none⟩) (hgr.block g hg (fun e => hgB (by injection e)))]
    exact hcell
  obtain ⟨hn0, hn1⟩ := HN.out
  clear K hcell hres
  go_wp2
  go_ret
  exact ⟨rfl, hat', hgr⟩
/-- .. in a run: a list that is written out. -/
theorem cust_int {old : World → Prop} {id q r m : Nat} {o : Oper} {vs : List AV} {os : List Ob} {c : Call} {x : AV} {el : Nat → Nat → Da} {us : List Value} {u : Value} {xs : List Int} {s : Cu} {av : AV} {l : List Prop} (ho : o.op = .call c) (hc : c.callee = .value (.func 70)) (hvs : vs = [x, .one (.ptr q 0), .one (.own r)]) (hx : AvIds x = [])
    (hos : os = [.var 71 (cur xs s), .own (.row 3 1 m el)]) (hl : us.length = m) (he : ∀ i, i < m → el i 0 = .val (us.getD i undef)) (hm : 0 < m) (hm2 : m ≤ 1000) (k : OkC xs s) (hu : us.getD (belV xs m s).toNat undef = u) (hone : u.oneCell' = true) (hav : ofV u = av) :
    Cust Try.prog old id o vs os ⟨l, av, [(q, .var 71 (cur xs (belS xs m s)))]⟩ :=
  cust_call (hlen := by subst hvs hos; rw [List.flatMap_cons, hx]; rfl) ho hc (con_enters Try.func70 (by kernel_rfl) (by kernel_rfl)) fun W0 obs ρ w args hold hm0 hargs hobs hun hn => by
    subst hvs hos
    obtain ⟨v, zs, rfl, hv, has⟩ := hargs
    obtain ⟨v2, zs2, rfl, hv2, has⟩ := has
    obtain rfl := has
    have hobs2 : obs q = .var 71 (cur xs s) ∧ obs r = .own (.row 3 1 m el) := by
      rw [List.flatMap_cons, hx, List.nil_append] at hobs
      have h1 := List.cons.inj hobs
      exact ⟨h1.1, (List.cons.inj h1.2).1⟩
    obtain ⟨hq, hr⟩ := hobs2
    obtain ⟨bk, hρ, hlo, hat⟩ := lent_of hm0 hq rfl
    obtain rfl : v = .pointer (some ⟨bk, 0, none⟩) := ptr_of (W0 := W0) hv hρ
    obtain ⟨rv, bs, hρr, hown⟩ := own_of hm0 hr
    obtain rfl : v2 = rv := own_val hv2 hρr
    obtain ⟨A, cap, rfl, hrd, hblk⟩ := rd_own hl he hown
    refine (intC w W0.heap.size bk xs s hat hrd (fun a ha e => ?_) hm hm2 k hu hone).mono ?_
    · have hne : q ≠ r := fun e => by rw [e, hr] at hq; cases hq
      exact hm0.apart q r _ _ hne hρ hρr bk (by simp) (e ▸ hblk a ha)
    · rintro e w' ⟨rfl, hat', hgr⟩
      exact ⟨_, rfl, post_lent hm0 hρ hlo hat' hgr rfl fun ρ' _ => hav ▸ ofV_ok u⟩
theorem elm {us : List Value} {i : Nat} : Da.val (us.getD (i * 1 + 0) undef) = Da.val (us.getD i undef) := by rw [Nat.mul_one, Nat.add_zero]
theorem cust_intL {old : World → Prop} {id q r m : Nat} {o : Oper} {vs : List AV} {os : List Ob} {c : Call} {x : AV} {el : Nat → Nat → Da} {ys : List Int} {xs : List Int} {s : Cu} {l : List Prop} (ho : o.op = .call c) (hc : c.callee = .value (.func 70)) (hvs : vs = [x, .one (.ptr q 0), .one (.own r)]) (hx : AvIds x = [])
    (hos : os = [.var 71 (cur xs s), .own (.row 3 1 m el)]) (he : ∀ i, i < m → el i 0 = .val ((ys.map (Value.int .i64)).getD i undef)) (hl : ys.length = m) (hm : 0 < m) (hm2 : m ≤ 1000) (k : OkC xs s) :
    Cust Try.prog old id o vs os ⟨l, .one (.val ((Value.int .i64) (ys.getD (belV xs m s).toNat 0))), [(q, .var 71 (cur xs (belS xs m s)))]⟩ :=
  cust_int (us := ys.map (Value.int .i64)) (u := (Value.int .i64) (ys.getD (belV xs m s).toNat 0)) ho hc hvs hx hos (by rw [List.length_map]; exact hl) he hm hm2 k (by
    have hb := belV_bd xs (n := m) s (by omega)
    rw [List.getD_eq_getElem?_getD, List.getD_eq_getElem?_getD, List.getElem?_map, List.getElem?_eq_getElem (by omega)]
    rfl) rfl rfl
end Go.Proofs.Ytoedfeacpllkeaa.Dr
