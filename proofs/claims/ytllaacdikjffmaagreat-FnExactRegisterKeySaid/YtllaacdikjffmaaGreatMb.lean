import Derived.Test.YtllaacdikjffmaaGreatEb
import Derived.Test.YtllaacdikjffmaaGreatBa
import Derived.Maps.OwnSet
/-
  A map from int to bool as a set of numbers: made, put into, asked, in the symbolic run.
-/
namespace Go.Proofs.YtllaacdikjffmaaGreat.Mb
open Go.ChangeShapes Go.WideShapes Go.ChangeAt Go.RowKit
open Go.Maps (Keyed)
open S0 S1 S9 E0 E1 E2 E3 E4 E7 E10 E15 E18 E20
set_option linter.unusedVariables false
set_option linter.unusedSimpArgs false
set_option maxRecDepth 100000
def rB : Value → Option (DataW Nat × List MemPlace)
  | .bool b => some (.lit (.bool b), [])
  | _ => none
theorem rB_inv {v : Value} {z : DataW Nat × List MemPlace} (h : rB v = some z) : ∃ b, v = .bool b ∧ z = (.lit (.bool b), []) := by
  cases v <;> first | (cases h; done) | (cases h; exact ⟨_, rfl, rfl⟩)
abbrev kl (i : Int) : Lit := .int .i64 i
/-- The newest stands first. -/
def setD : List Int → DataW Nat
  | [] => .map []
  | p :: ps => (setD ps).put (kl p) (.lit (.bool true))
theorem setD_map : ∀ ps : List Int, Maps.IsMap (setD ps)
  | [] => Maps.isMap_empty
  | p :: ps => by
    obtain ⟨es, e⟩ := setD_map ps
    unfold setD
    rw [e]
    exact ⟨_, rfl⟩
theorem kl_key (p : Int) : WideAt.IsKeyLit (kl p) := by simp [WideAt.IsKeyLit]
theorem kl_inj {p q : Int} (h : kl p = kl q) : p = q := by injection h
theorem at_set (q : Int) : ∀ ps : List Int, (setD ps).atKey (kl q) (.lit (.bool false)) = .lit (.bool (ps.any fun p => p == q))
  | [] => rfl
  | p :: ps => by
    show ((setD ps).put (kl p) (.lit (.bool true))).atKey (kl q) _ = _
    rw [List.any_cons]
    by_cases h : p = q
    · subst h
      rw [Maps.atKey_put_same (setD_map ps) (kl_key p)]
      simp
    · rw [Maps.atKey_put_other (fun e => h (kl_inj e).symm), at_set q ps]
      simp [h]
theorem keyI : Keyed Tryz.prog 3 := Maps.int_keyed Tryz.underlying3
theorem key_at {i : Int} (h0 : -9223372036854775808 ≤ i) (h1 : i ≤ 9223372036854775807) : keyOf Tryz.prog 3 (.int .i64 i) = some (kl i) := Maps.keyOf_int_mk Tryz.underlying3 (WalkArith.wf_i64 ⟨h0, h1⟩)
structure SetIs (ps : List Int) (v : Value) (bs : List Nat) (w : World) : Prop where
  is : ∃ b n, v = .map (some b) ∧ bs = [b] ∧ n ≤ ps.length ∧ w.ownsMap Tryz.prog 3 rB b n (setD ps)
theorem SetIs.firm {ps : List Int} (v : Value) (bs : List Nat) (w1 w2 : World) (hk : ∀ b, b ∈ bs → w2.heap[b]? = w1.heap[b]?) (h : SetIs ps v bs w1) : SetIs ps v bs w2 := by
  obtain ⟨b, n, rfl, rfl, hn, es, clock, hb, r⟩ := h.is
  exact ⟨b, n, rfl, rfl, hn, es, clock, (hk b (by simp)).trans hb, r⟩
/-- The set as a thing told by a list. -/
structure SetT (k : Nat) (ps : List Int) (v : Value) (bs : List Nat) (w : World) : Prop where
  is : SetIs ps v bs w
theorem SetT.firm {k : Nat} {ps : List Int} (v : Value) (bs : List Nat) (w1 w2 : World) (hk : ∀ b, b ∈ bs → w2.heap[b]? = w1.heap[b]?) (h : SetT k ps v bs w1) : SetT k ps v bs w2 := ⟨SetIs.firm v bs w1 w2 hk h.is⟩
section
variable {old : World → Prop} {id q : Nat} {o : Oper} {ps : List Int} {t : TypeId}
theorem cust_make (ho : o.op = .makeMap t none) : Cust Tryz.prog old id o [] [] ⟨[], .one (.own id), [(id, .tab 0 [] SetT)]⟩ :=
  cust_val fun W0 obs ρ a w hold hm hv hos hun hn => by
    refine ⟨.map (some w.heap.size), w.alloc (.map #[] 0), ?_, post_new (bs := [w.heap.size]) hm (hun id (Nat.le_refl _) (by omega)) ((Below.refl _ _).alloc (Nat.le_refl _) _) rfl (fun b hb => by simp at hb; omega) (by simp) (ob_tab ⟨⟨_, 0, rfl, rfl, Nat.le_refl _, World.ownsMap_made w _ _ _⟩⟩ (fun b hb => by simp at hb; have := hm.below.size; simp; omega) (SetT.firm _ _))⟩
    have hr := run_makeMap (P := Tryz.prog)
    unfold execOp
    rw [ho]
    simp [hr, Result.andThen]
theorem cust_put {x y z : Operand} {p : Int} (ho : o.op = .mapUpdate 123 x y z) (hi0 : -9223372036854775808 ≤ p) (hi1 : p ≤ 9223372036854775807) (hm : ps.length ≤ 16777216) :
    Cust Tryz.prog old id o [.one (.own q), .one (.val (.int .i64 p)), .one (.val (.bool true))] [.tab 0 ps SetT] ⟨[], .no, [(q, .tab 0 (p :: ps) SetT)]⟩ :=
  cust_skip fun W0 obs ρ a w hold hmm hv hos hun hn => by
    have hops : o.op.operands.toList = [x, y, z] := by rw [ho]; rfl
    rw [hops] at hv
    obtain ⟨v1, s1, e1, k1, v2, s2, e2, k2, v3, s3, e3, k3, k4⟩ := hv
    subst e2 e3
    obtain ⟨ex, ey, ez, -⟩ : a.eval x = v1 ∧ a.eval y = v2 ∧ a.eval z = v3 ∧ True := by simp at e1; exact ⟨e1.1, e1.2.1, e1.2.2.1, trivial⟩
    have hq : obs q = .tab 0 ps SetT := by simpa [AvIds, ScIds] using hos
    obtain ⟨r, bs, hr, hφ, hnd⟩ := tab_of hmm hq
    have hφ : SetIs ps r bs w := hφ.is
    have h1 := own_val k1 hr
    have h3 : v3 = .bool true := k3
    have h2' : v2 = .int .i64 p := k2
    obtain ⟨b, n, rfl, rfl, hnm, hown⟩ := hφ.is
    obtain ⟨w', hrun, hown', hg⟩ := hown.update keyI Tryz.underlying123 (by unfold maxLen; omega) (key_at hi0 hi1) (show rB (.bool true) = some (.lit (.bool true), []) from rfl)
    refine ⟨w', ?_, post_turn hmm hr (turned_grown hg) (ob_tab ⟨⟨b, n + 1, rfl, rfl, by rw [List.length_cons]; omega, hown'⟩⟩ (fun b' hb' => ?_) (SetT.firm _ _)) (fun _ _ => trivial)⟩
    · unfold execOp
      rw [ho]
      simp only [ex, ey, ez, h1, h2', h3]
      simp [hrun, Result.andThen]
    · have := hmm.in_ hr b' hb'
      have := hg.size
      omega
theorem cust_has {x y : Operand} {p : Int} (ho : o.op = .lookup 123 x y false) (hi0 : -9223372036854775808 ≤ p) (hi1 : p ≤ 9223372036854775807) {k : Bool} (hk : k = ps.any fun z => z == p) :
    Cust Tryz.prog old id o [.one (.own q), .one (.val (.int .i64 p))] [.tab 0 ps SetT] ⟨[], .one (.val (.bool k)), []⟩ :=
  cust_val fun W0 obs ρ a w hold hmm hv hos hun hn => by
    have hops : o.op.operands.toList = [x, y] := by rw [ho]; rfl
    rw [hops] at hv
    obtain ⟨v1, s1, e1, k1, v2, s2, e2, k2, k4⟩ := hv
    subst e2
    obtain ⟨ex, ey, -⟩ : a.eval x = v1 ∧ a.eval y = v2 ∧ True := by simp at e1; exact ⟨e1.1, e1.2.1, trivial⟩
    have hq : obs q = .tab 0 ps SetT := by simpa [AvIds, ScIds] using hos
    obtain ⟨r, bs, hr, hφ, hnd⟩ := tab_of hmm hq
    have hφ : SetIs ps r bs w := hφ.is
    have h1 := own_val k1 hr
    have h2 : v2 = .int .i64 p := k2
    obtain ⟨b, n, rfl, rfl, hnm, hown⟩ := hφ.is
    obtain ⟨v, qs, hrun, hR⟩ := hown.lookup keyI Tryz.underlying123 (Tryz.zeroValue4 w) (show rB (.bool false) = some (.lit (.bool false), []) from rfl) (key_at hi0 hi1)
    rw [at_set, ← hk] at hR
    obtain ⟨b', rfl, e⟩ := rB_inv hR
    injection e with e _
    injection e with e
    injection e with e
    subst e
    refine ⟨_, w, ?_, post_same hmm (Below.refl _ _) rfl⟩
    unfold execOp
    rw [ho]
    simp only [ex, ey, h1, h2]
    simp [hrun, Result.andThen]
end
end Go.Proofs.YtllaacdikjffmaaGreat.Mb
