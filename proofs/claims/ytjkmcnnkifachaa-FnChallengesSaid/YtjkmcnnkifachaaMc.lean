/-
  Operations on a map of challenges, in the symbolic run.
-/
import Derived.Test.YtjkmcnnkifachaaMp
import Derived.Test.YtjkmcnnkifachaaDas
namespace Go.Proofs.Ytjkmcnnkifachaa.Mc
open Go.ChangeShapes Go.WideShapes Go.ChangeAt Go.RowKit
open S0 S1 S9 Dm Fx C12 E0 E1 E2 E3 E4 E7 E10 E15 E18 E19 E20 Das Mp
set_option linter.unusedVariables false
set_option linter.unusedSimpArgs false
set_option maxRecDepth 100000
section
variable {old : World → Prop} {id q m : Nat} {o : Oper} {l l2 : List Fx.Challenge} {t : TypeId}
theorem lies_in {w : World} {b n : Nat} (h : Lies w b n l) : b < w.heap.size := h.lt
theorem vals3 {ρ : Roots} {W0 : World} {a b c : Int} {v : Value} (h : AvOK ρ W0 (.agg [.val (.int .i64 a), .val (.int .i64 b), .val (.int .i64 c)]) v) : v = valC ⟨a, b, c⟩ := by
  obtain ⟨vs, rfl, v1, s1, rfl, h1, v2, s2, rfl, h2, v3, s3, rfl, h3, h4⟩ := h
  have h1 : v1 = _ := h1
  have h2 : v2 = _ := h2
  have h3 : v3 = _ := h3
  have h4 : s3 = [] := h4
  rw [h1, h2, h3, h4]; rfl
theorem cells3 {ρ : Roots} {W0 : World} (x : Fx.Challenge) : CsOK ρ W0 [.val (.int .i64 x.Id), .val (.int .i64 x.Account), .val (.int .i64 x.Until)] [.int .i64 x.Id, .int .i64 x.Account, .int .i64 x.Until] := cs_vals [.int .i64 x.Id, .int .i64 x.Account, .int .i64 x.Until]
theorem cust_makeMap (ho : o.op = .makeMap t none) : Cust Try.prog old id o [] [] ⟨[], .one (.own id), [(id, .abs (MapIs 0 []))]⟩ :=
  cust_val fun W0 obs ρ a w hold hm hv hos hun hn => by
    refine ⟨.map (some w.heap.size), w.alloc (.map #[] 0), ?_, post_new (bs := [w.heap.size]) hm (hun id (Nat.le_refl _) (by omega)) ((Below.refl _ _).alloc (Nat.le_refl _) _) rfl (fun b hb => by simp at hb; omega) (by simp) (ob_abs ⟨_, 0, rfl, rfl, Nat.le_refl _, World.ownsMap_made w _ _ _⟩ (fun b hb => by simp at hb; have := hm.below.size; simp; omega) (MapIs.firm _ _))⟩
    have hr := run_makeMap (P := Try.prog)
    unfold execOp
    rw [ho]
    simp [hr, Result.andThen]
theorem cust_update {x y z : Operand} {c : Fx.Challenge} (ho : o.op = .mapUpdate 60 x y z) (hi0 : -9223372036854775808 ≤ c.Id) (hi1 : c.Id ≤ 9223372036854775807) (hl : l2 = l ++ [c]) (ha : Asc l2) (hm : m ≤ 16777216) {m2 : Nat} (h2 : m2 = m + 1) :
    Cust Try.prog old id o [.one (.own q), .one (.val (.int .i64 c.Id)), .agg [.val (.int .i64 c.Id), .val (.int .i64 c.Account), .val (.int .i64 c.Until)]] [.abs (MapIs m l)] ⟨[], .no, [(q, .abs (MapIs m2 l2))]⟩ :=
  cust_skip fun W0 obs ρ a w hold hmm hv hos hun hn => by
    have hops : o.op.operands.toList = [x, y, z] := by rw [ho]; rfl
    rw [hops] at hv
    obtain ⟨v1, s1, e1, k1, v2, s2, e2, k2, v3, s3, e3, k3, k4⟩ := hv
    subst e2 e3
    obtain ⟨ex, ey, ez, -⟩ : a.eval x = v1 ∧ a.eval y = v2 ∧ a.eval z = v3 ∧ True := by simp at e1; exact ⟨e1.1, e1.2.1, e1.2.2.1, trivial⟩
    have hq : obs q = .abs (MapIs m l) := by simpa [AvIds, ScIds] using hos
    obtain ⟨r, bs, hr, hφ, hnd⟩ := abs_of hmm hq
    have h1 := own_val k1 hr
    have h3 := vals3 k3
    have h2' : v2 = .int .i64 c.Id := k2
    obtain ⟨b, n, rfl, rfl, hnm, hown⟩ := hφ.is
    obtain ⟨w', hrun, hown', hg⟩ := hown.update keyI Try.underlying60 (by unfold maxLen; omega) (key_at hi0 hi1) (rC_mk c)
    rw [put_last (hl ▸ ha), ← hl] at hown'
    refine ⟨w', ?_, post_turn hmm hr (turned_grown hg) (ob_abs ⟨b, n + 1, rfl, rfl, by omega, hown'⟩ (fun b' hb' => ?_) (MapIs.firm _ _)) (fun _ _ => trivial)⟩
    · unfold execOp
      rw [ho]
      simp only [ex, ey, ez, h1, h2', h3]
      simp [hrun, Result.andThen]
    · have := hmm.in_ hr b' hb'
      have := hg.size
      omega
theorem look_at (l : List Fx.Challenge) (i : Int) : (mapD l).atKey (kl i) (dcC zChallenge) = dcC ((l.find? (fun x => x.Id == i)).getD zChallenge) := by
  rw [at_map]
  cases l.find? (fun x => x.Id == i) <;> rfl
theorem zeroC (w : World) : (zeroValue 30).run Try.prog w = .ok (valC zChallenge) w := Try.zeroValue30 w
theorem cust_lookOk {x y : Operand} {i : Int} (ho : o.op = .lookup 60 x y true) (hi0 : -9223372036854775808 ≤ i) (hi1 : i ≤ 9223372036854775807) {c : Fx.Challenge} (hc : c = (l.find? (fun x => x.Id == i)).getD zChallenge) {k : Bool} (hk : k = l.any (fun x => x.Id == i)) :
    Cust Try.prog old id o [.one (.own q), .one (.val (.int .i64 i))] [.abs (MapIs m l)] ⟨[], .tup [(true, [.val (.int .i64 c.Id), .val (.int .i64 c.Account), .val (.int .i64 c.Until)]), (false, [.val (.bool k)])], []⟩ :=
  cust_val fun W0 obs ρ a w hold hmm hv hos hun hn => by
    have hops : o.op.operands.toList = [x, y] := by rw [ho]; rfl
    rw [hops] at hv
    obtain ⟨v1, s1, e1, k1, v2, s2, e2, k2, k4⟩ := hv
    subst e2
    obtain ⟨ex, ey, -⟩ : a.eval x = v1 ∧ a.eval y = v2 ∧ True := by simp at e1; exact ⟨e1.1, e1.2.1, trivial⟩
    have hq : obs q = .abs (MapIs m l) := by simpa [AvIds, ScIds] using hos
    obtain ⟨r, bs, hr, hφ, hnd⟩ := abs_of hmm hq
    have h1 := own_val k1 hr
    have h2 : v2 = .int .i64 i := k2
    obtain ⟨b, n, rfl, rfl, hnm, hown⟩ := hφ.is
    obtain ⟨v, ps, hrun, hR⟩ := hown.look_ok keyI Try.underlying60 (zeroC w) (rC_mk zChallenge) (key_at hi0 hi1)
    rw [look_at, ← hc] at hR
    rw [has_map, ← hk] at hrun
    obtain ⟨c', rfl, e⟩ := rC_inv hR
    injection e with e _
    obtain rfl := dcC_inj e
    refine ⟨_, w, ?_, post_same hmm (Below.refl _ _) ⟨[valC c, .bool k], rfl, _, _, rfl, ?_, _, _, rfl, ?_, rfl⟩⟩
    · unfold execOp
      rw [ho]
      simp only [ex, ey, h1, h2]
      simp [hrun, Result.andThen]
    · unfold GrpOK
      rw [if_pos rfl]
      exact ⟨_, rfl, cells3 c⟩
    · unfold GrpOK
      rw [if_neg (by simp)]
      exact cs_vals [_]
theorem cust_delete {x y : Operand} {i : Int} {c : Call} (ho : o.op = .call c) (hc : c.callee = .builtin .delete) (ha : c.args = #[x, y]) (ht : c.argTypes = #[60, 3]) (hi0 : -9223372036854775808 ≤ i) (hi1 : i ≤ 9223372036854775807) (hl : l2 = l.filter fun x => !(x.Id == i)) :
    Cust Try.prog old id o [.one (.own q), .one (.val (.int .i64 i))] [.abs (MapIs m l)] ⟨[], .no, [(q, .abs (MapIs m l2))]⟩ :=
  cust_val fun W0 obs ρ a w hold hmm hv hos hun hn => by
    have hops : o.op.operands.toList = [x, y] := by rw [ho]; simp [Op.operands, Call.operands, hc, ha]
    rw [hops] at hv
    obtain ⟨v1, s1, e1, k1, v2, s2, e2, k2, k4⟩ := hv
    subst e2
    obtain ⟨ex, ey, -⟩ : a.eval x = v1 ∧ a.eval y = v2 ∧ True := by simp at e1; exact ⟨e1.1, e1.2.1, trivial⟩
    have hq : obs q = .abs (MapIs m l) := by simpa [AvIds, ScIds] using hos
    obtain ⟨r, bs, hr, hφ, hnd⟩ := abs_of hmm hq
    have h1 := own_val k1 hr
    have h2 : v2 = .int .i64 i := k2
    obtain ⟨b, n, rfl, rfl, hnm, hown⟩ := hφ.is
    obtain ⟨w', hrun, hown', hg⟩ := hown.drop keyI Try.underlying60 (key_at hi0 hi1) o.type
    rw [del_map, ← hl] at hown'
    refine ⟨.tuple #[], w', ?_, post_turn hmm hr (turned_grown hg.grown) (ob_abs ⟨b, n, rfl, rfl, hnm, hown'⟩ (fun b' hb' => ?_) (MapIs.firm _ _)) (fun _ _ => trivial)⟩
    · unfold execOp
      rw [ho]
      simp only [resolve, hc, ha, ht]
      simp [invoke, builtin, ex, ey, h1, h2, hrun, Result.andThen]
    · have := hmm.in_ hr b' hb'
      have := hg.grown.size
      omega
end
end Go.Proofs.Ytjkmcnnkifachaa.Mc
