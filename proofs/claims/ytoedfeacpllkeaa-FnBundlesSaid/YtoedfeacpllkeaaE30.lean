/-
  A symbolic run: a function that gets a variable by its address and a struct of one row, which it may use up: its contract, its run, its call (the row's object passes away).
-/
import Derived.Test.YtoedfeacpllkeaaE26
namespace Go.Proofs.Ytoedfeacpllkeaa.E30
open Go.ChangeShapes Go.WideShapes Go.ChangeAt Go.RowKit
open S0 S1 S9 E0 E1 E2 E3 E4 E5 E6 E7 E8 E9 E10 E11 E12 E15 E16 E17 E18 E20 E21 E22
set_option linter.unusedVariables false
set_option maxRecDepth 100000
def othersR (w : World) (n B : Nat) (bs : List Nat) : List Nat := (others w n B).filter fun b => !bs.contains b
structure RestR (w : World) (n B : Nat) (b0 : List Nat) (v : Value) (bs : List Nat) (w' : World) : Prop where
  is : bs = othersR w n B b0 ∧ ∀ b, b ∈ bs → w'.heap[b]? = w.heap[b]?
def rowV (T : TypeId) (cs : List Sc) (d : Da) (R : Value → List Nat → World → Prop) : Nat → Ob := upd (upd (upd (fun _ => .un) 1 (.var T cs)) 2 (.abs R)) 3 (.own d)
def roots3 (w : World) (n B : Nat) (v : Value) (bs : List Nat) : Roots := upd (upd (upd (fun _ => none) 1 (some (ptrB B, [B]))) 2 (some (undef, othersR w n B bs))) 3 (some (v, bs))
/-- What a function gives that gets a variable by its address and a struct of one row, which it may use up. -/
structure RowCon (P : Program) (f : FuncId) (T : TypeId) (cs : List Sc) (d : Da) (rs : List Grp) (cs' : List Sc) : Prop where
  enters : ∀ args w, (callFunc f args).run P w = .ok (.enter f args) w
  calls : ∀ w n B v bs, LentAt w n B T cs → v.oneCell' = true → Owns w n d.dc v bs → bs.Nodup → B ∉ bs → Calls P f #[ptrB B, .agg #[v]] w fun e w' => ∃ vs ds, e = .returned (retV vs) ∧ ResOK w' n rs vs ds ∧ ds.Nodup ∧ (∀ b, b ∈ ds → b ≠ B ∧ (b ∈ bs ∨ w.heap.size ≤ b)) ∧ LentAt w' n B T cs' ∧
    Below n (trunc w n) w' ∧ ∀ k, k < w.heap.size → k ∉ B :: bs → w'.heap[k]? = w.heap[k]?
section
variable {P : Program} {w w' : World} {n B : Nat} {T : TypeId} {cs cs' : List Sc} {d : Da} {v : Value} {bs : List Nat}
theorem mem_othersR {b : Nat} : b ∈ othersR w n B bs ↔ b < w.heap.size ∧ n ≤ b ∧ b ≠ B ∧ b ∉ bs := by
  unfold othersR
  rw [List.mem_filter, mem_others]
  simp [and_assoc]
theorem RestR.firm (b0 : List Nat) (v : Value) (bs : List Nat) (w1 w2 : World) (hk : ∀ b, b ∈ bs → w2.heap[b]? = w1.heap[b]?) (h : RestR w n B b0 v bs w1) : RestR w n B b0 v bs w2 :=
  ⟨h.is.1, fun b hb => (hk b hb).trans (h.is.2 b hb)⟩
theorem rowV_start (h : LentAt w n B T cs) (ho : Owns w n d.dc v bs) (hnd : bs.Nodup) (hB : B ∉ bs) : Mem (trunc w n) (rowV T cs d (RestR w n B bs)) (roots3 w n B v bs) w := by
  have hBl := h.lt
  have hn := h.lo
  have hs := trunc_size (w := w) (n := n) (by omega)
  have three : ∀ (q : Nat) (p : Value × List Nat), roots3 w n B v bs q = some p → (q = 1 ∧ p = (ptrB B, [B])) ∨ (q = 2 ∧ p = (undef, othersR w n B bs)) ∨ (q = 3 ∧ p = (v, bs)) := fun q p hq => by
    unfold roots3 at hq
    by_cases e3 : q = 3
    · subst e3; rw [upd_same] at hq; exact .inr (.inr ⟨rfl, by simpa using hq.symm⟩)
    · rw [upd_ne _ _ e3] at hq
      by_cases e2 : q = 2
      · subst e2; rw [upd_same] at hq; exact .inr (.inl ⟨rfl, by simpa using hq.symm⟩)
      · rw [upd_ne _ _ e2] at hq
        by_cases e1 : q = 1
        · subst e1; rw [upd_same] at hq; exact .inl ⟨rfl, by simpa using hq.symm⟩
        · rw [upd_ne _ _ e1] at hq; cases hq
  have r1 : roots3 w n B v bs 1 = some (ptrB B, [B]) := by unfold roots3; rw [upd_ne _ _ (by decide), upd_ne _ _ (by decide), upd_same]
  have r2 : roots3 w n B v bs 2 = some (undef, othersR w n B bs) := by unfold roots3; rw [upd_ne _ _ (by decide), upd_same]
  have r3 : roots3 w n B v bs 3 = some (v, bs) := by unfold roots3; rw [upd_same]
  refine ⟨trunc_below (by omega), fun q => ?_, fun q q' p p' hne hq hq' b hb hb' => ?_, fun q p hq => ?_⟩
  · by_cases e3 : q = 3
    · subst e3
      show ObOK _ _ _ 3 (rowV T cs d (RestR w n B bs) 3)
      unfold rowV
      rw [upd_same]
      exact ⟨v, bs, r3, by rw [hs]; exact ho⟩
    · by_cases e2 : q = 2
      · subst e2
        show ObOK _ _ _ 2 (rowV T cs d (RestR w n B bs) 2)
        unfold rowV
        rw [upd_ne _ _ (by decide), upd_same]
        refine ⟨undef, othersR w n B bs, r2, ⟨rfl, fun b _ => rfl⟩, fun b hb => ?_, RestR.firm bs _ _⟩
        rw [hs]
        have := mem_othersR.1 hb
        omega
      · by_cases e1 : q = 1
        · subst e1
          show ObOK _ _ _ 1 (rowV T cs d (RestR w n B bs) 1)
          unfold rowV
          rw [upd_ne _ _ (by decide), upd_ne _ _ (by decide), upd_same]
          obtain ⟨vs, h1, h2⟩ := h.is
          exact ⟨B, vs, r1, by rw [hs]; exact hn, h1, cs_le (fun o v bs hk => by cases hk) h2⟩
        · show ObOK _ _ _ q (rowV T cs d (RestR w n B bs) q)
          unfold rowV
          rw [upd_ne _ _ e3, upd_ne _ _ e2, upd_ne _ _ e1]
          show roots3 w n B v bs q = none
          unfold roots3
          rw [upd_ne _ _ e3, upd_ne _ _ e2, upd_ne _ _ e1]
  · rcases three q p hq with ⟨rfl, rfl⟩ | ⟨rfl, rfl⟩ | ⟨rfl, rfl⟩ <;> rcases three q' p' hq' with ⟨rfl, rfl⟩ | ⟨rfl, rfl⟩ | ⟨rfl, rfl⟩
    · exact hne rfl
    · simp at hb
      subst hb
      exact (mem_othersR.1 hb').2.2.1 rfl
    · simp at hb
      subst hb
      exact hB hb'
    · simp at hb'
      subst hb'
      exact (mem_othersR.1 hb).2.2.1 rfl
    · exact hne rfl
    · exact (mem_othersR.1 hb).2.2.2 hb'
    · simp at hb'
      subst hb'
      exact hB hb
    · exact (mem_othersR.1 hb').2.2.2 hb
    · exact hne rfl
  · rcases three q p hq with ⟨rfl, rfl⟩ | ⟨rfl, rfl⟩ | ⟨rfl, rfl⟩
    · simp
    · exact (List.nodup_range.filter _).filter _
    · exact hnd
theorem rowV_end {obs : Nat → Ob} {ρ : Roots} (h : LentAt w n B T cs) (hm : Mem (trunc w n) obs ρ w') (hl : Low (roots3 w n B v bs) ρ) (h1 : obs 1 = .var T cs') (h2 : obs 2 = .abs (RestR w n B bs)) (hf : flatCs cs' = true) :
    LentAt w' n B T cs' ∧ Below n (trunc w n) w' ∧ (∀ k, k < w.heap.size → k ∉ B :: bs → w'.heap[k]? = w.heap[k]?) ∧ ∀ (q : Nat) (p : Value × List Nat), q ≠ 1 → q ≠ 2 → ρ q = some p → ∀ b, b ∈ p.2 → b ≠ B ∧ (b ∈ bs ∨ w.heap.size ≤ b) := by
  have hB := h.lt
  have hn := h.lo
  have hs := trunc_size (w := w) (n := n) (by omega)
  obtain ⟨b, vs, hρ1, hlo, hcell, hcs⟩ := var_of hm h1
  obtain ⟨bs', hr⟩ := hl 1 (by omega) (ptrB B) [B] (by unfold roots3; rw [upd_ne _ _ (by decide), upd_ne _ _ (by decide), upd_same])
  rw [hρ1] at hr
  obtain rfl : b = B := by
    injection hr with hr
    injection hr with hr _
    injection hr with hr
    injection hr with hr
    injection hr
  obtain ⟨u, ds, hρ2, hR, _⟩ := abs_of hm h2
  have hds := hR.is.1
  subst hds
  have hbel := hm.below
  have hbw : b < w'.heap.size := (hm.in_ hρ1 b (by simp)).2
  have hsz : n ≤ w'.heap.size := by have := hbel.size; rwa [hs] at this
  have hlow : ∀ k, k < n → w'.heap[k]? = w.heap[k]? := fun k hk => by
    have h3 := hbel.block k (by rw [hs]; exact hk)
    have h4 := (trunc_below (w := w) (n := n) (by omega)).block k (by rw [hs]; exact hk)
    exact h3.trans h4.symm
  have hs' := trunc_size (w := w') (n := n) hsz
  refine ⟨⟨hn, hbw, vs, hcell, cs_flat (fun k hk => ?_) (by rw [hs, hs']; exact Nat.le_refl _) hf hcs⟩, by rw [hs] at hbel; exact hbel, fun k hk hne => ?_, fun q p hq1 hq2 hp b2 hb => ?_⟩
  · rw [hs] at hk
    have h3 := (trunc_below (w := w') (n := n) hsz).block k (by rw [hs']; exact hk)
    have h4 := (trunc_below (w := w) (n := n) (by omega)).block k (by rw [hs]; exact hk)
    exact h3.symm.trans ((hlow k hk).trans h4)
  · rcases Nat.lt_or_ge k n with h | h
    · exact hlow k h
    · exact hR.is.2 k (mem_othersR.2 ⟨hk, h, fun e => hne (by simp [e]), fun e => hne (by simp [e])⟩)
  · have hbne : b2 ≠ b := fun e => hm.apart q 1 p _ hq1 hp hρ1 b2 hb (by simp [e])
    refine ⟨hbne, ?_⟩
    rcases Nat.lt_or_ge b2 w.heap.size with h | h
    · have hlo := (hm.in_ hp b2 hb).1
      rw [hs] at hlo
      by_cases e : b2 ∈ bs
      · exact .inl e
      · exact absurd (mem_othersR.2 ⟨h, hlo, hbne, e⟩) (hm.apart q 2 p _ hq2 hp hρ2 b2 hb)
    · exact .inr h
/-- The contract of such a function, off its code. -/
theorem row_ok {f : FuncId} {fn : Func} {c : Code} {rs : List Grp} (C : Orc) (L : Loops) (hf : P.funcs[f]? = some fn) (hb : fn.body = some c) (hname : (fn.name == "runtime.NumGoroutine") = false) (hm : P.follows .mixedOrders = true) (hC : ∀ w, C.old w) (hfl : flatCs cs' = true)
    (h : ∀ R : Value → List Nat → World → Prop, AbsLe R R → awp P C L c ⟨([.one (.ptr 1 0), .agg [.own 3]] : List AV) ++ List.replicate (fn.ntmps - ([.one (.ptr 1 0), .agg [.own 3]] : List AV).length) (.one (.val undef)), rowV T cs d R⟩ (retL P fn.results.toList rs T cs' R)) : RowCon P f T cs d rs cs' where
  enters args w := by
    have h1 : fn.name ≠ "runtime.NumGoroutine" := by simpa using hname
    simp [callFunc, hf, h1, hb, mark]
  calls w n B v bs hat hone ho hnd hB := by
    have hs := trunc_size (w := w) (n := n) (by have := hat.lo; have := hat.lt; omega)
    refine (go_from (W0 := trunc w n) C L hf hb hm (h (RestR w n B bs) ⟨fun _ _ _ h => h, RestR.firm bs⟩) (hC _) (rowV_start hat ho hnd hB) (vs := [ptrB B, .agg #[v]]) rfl (fun i av hi => ?_)
      (R := fun vs w' => ∃ ds, ResOK w' n rs vs ds ∧ ds.Nodup ∧ (∀ b, b ∈ ds → b ≠ B ∧ (b ∈ bs ∨ w.heap.size ≤ b)) ∧ LentAt w' n B T cs' ∧ Below n (trunc w n) w' ∧ ∀ k, k < w.heap.size → k ∉ B :: bs → w'.heap[k]? = w.heap[k]?) fun e s ρ' a' w' hk hlow hs' => ?_).mono fun e w' ⟨vs, h1, ds, h2⟩ => ⟨vs, ds, h1, h2⟩
    · match i, hi with
      | 0, hi =>
        obtain rfl : AV.one (.ptr 1 0) = av := by simpa using hi
        exact ⟨ptrB B, rfl, B, [B], by unfold roots3; rw [upd_ne _ _ (by decide), upd_ne _ _ (by decide), upd_same], rfl⟩
      | 1, hi =>
        obtain rfl : AV.agg [.own 3] = av := by simpa using hi
        exact ⟨.agg #[v], rfl, [v], rfl, v, [], rfl, ⟨hone, bs, by unfold roots3; rw [upd_same]⟩, rfl⟩
      | i + 2, hi => simp at hi
    · obtain ⟨hk, ho1, ho2⟩ := hk
      have ho1 : s.obs 1 = .var T cs' := by
        split at ho1
        · next T' ds hd => rw [hd, ho1.1, scsEq_ok ho1.2]
        · cases ho1
      have ho2 : s.obs 2 = .abs (RestR w n B bs) := by
        split at ho2
        · next φ hd => rw [hd, ho2]
        · cases ho2
      obtain ⟨e1, e2, e3, e4⟩ := rowV_end hat hs'.mem hlow ho1 ho2 hfl
      have fin : (match resCells P s fn.results.toList with | some gs => (match nodupB (grpOwn gs) with | true => grpsRes s.obs gs rs | false => False) | none => False) →
          ∃ gs, resCells P s fn.results.toList = some gs ∧ ∀ us, TsOK ρ' (trunc w n) gs us → ∃ ds, ResOK w' n rs us ds ∧ ds.Nodup ∧ (∀ b, b ∈ ds → b ≠ B ∧ (b ∈ bs ∨ w.heap.size ≤ b)) ∧ LentAt w' n B T cs' ∧ Below n (trunc w n) w' ∧ ∀ k, k < w.heap.size → k ∉ B :: bs → w'.heap[k]? = w.heap[k]? := fun hk => by
        split at hk
        · next gs hg =>
          split at hk
          · next hnd =>
            refine ⟨gs, hg, fun us h2 => ⟨_, by have := grps_res hs'.mem hk h2; rwa [hs] at this, bsOf_nodup hs'.mem (nodupB_ok hnd), fun b hb => ?_, e1, e2, e3⟩⟩
            obtain ⟨q, p, hq, hp, hb⟩ := bsOf_in hb
            obtain ⟨d, hd⟩ := grpOwn_own hk q hq
            exact e4 q p (fun e => by rw [e, ho1] at hd; cases hd) (fun e => by rw [e, ho2] at hd; cases hd) hp b hb
          · cases hk
        · cases hk
      cases e with
      | ret => exact ⟨.inl rfl, fin hk⟩
      | normal => exact ⟨.inr rfl, fin hk⟩
      | _ => exact False.elim hk
theorem row_go {f : FuncId} {fn : Func} {rs : List Grp} {p : (Value → List Nat → World → Prop) → Prop} (C : Orc) (L : Loops) (hf : P.funcs[f]? = some fn) (hb : fn.body = some (fn.body.getD .skip)) (hname : (fn.name == "runtime.NumGoroutine") = false) (hm : P.follows .mixedOrders = true) (hC : ∀ w, C.old w) (hfl : flatCs cs' = true)
    (he : p = fun R => awp P C L (fn.body.getD .skip) ⟨([.one (.ptr 1 0), .agg [.own 3]] : List AV) ++ List.replicate (fn.ntmps - ([.one (.ptr 1 0), .agg [.own 3]] : List AV).length) (.one (.val undef)), rowV T cs d R⟩ (retL P fn.results.toList rs T cs' R)) (hp : ∀ R, AbsLe R R → p R) : RowCon P f T cs d rs cs' :=
  row_ok C L hf hb hname hm hC hfl fun R hR => by have := hp R hR; rw [he] at this; exact this
/-- Two objects at once: one is turned, one passes away. -/
theorem mem_moved {W0 : World} {obs : Nat → Ob} {ρ : Roots} (h : Mem W0 obs ρ w) {q r : Nat} {rv : Value} {ob : Ob} (hb : Below W0.heap.size W0 w') (hρq : ρ q = some (ptrB B, [B])) (hρr : ρ r = some (rv, bs)) (hne : q ≠ r) (hk : ∀ k, k < w.heap.size → k ∉ B :: bs → w'.heap[k]? = w.heap[k]?)
    (ho : ObOK (upd ρ r (some (rv, []))) W0 w' q ob) : Mem W0 (upd (upd obs r .gone) q ob) (upd ρ r (some (rv, []))) w' where
  below := hb
  all x := by
    have hle : Le ρ (upd ρ r (some (rv, []))) := Le.upd ρ r rv [] (fun p hp => by rw [hρr] at hp; cases hp; rfl)
    by_cases e1 : x = q
    · subst e1
      rw [upd_same]; exact ho
    · rw [upd_ne _ _ e1]
      by_cases e2 : x = r
      · subst e2
        rw [upd_same]
        exact ⟨rv, upd_same _ _ _⟩
      · rw [upd_ne _ _ e2]
        refine ob_keep hle (upd_ne _ _ e2) (h.all x) (fun p hp b hb => hk b (h.in_ hp b hb).2 (fun hx => ?_))
        rcases List.mem_cons.1 hx with rfl | hx
        · exact h.apart x q p _ e1 hp hρq b hb (by simp)
        · exact h.apart x r p _ e2 hp hρr b hb hx
  apart x x' p p' hne' h1 h2 b hb1 hb2 := by
    have one : ∀ (x : Nat) (p : Value × List Nat), upd ρ r (some (rv, [])) x = some p → (ρ x = some p) ∨ (x = r ∧ p = (rv, [])) := fun x p hx => by
      by_cases e : x = r
      · subst e; rw [upd_same] at hx; exact .inr ⟨rfl, by simpa using hx.symm⟩
      · rw [upd_ne _ _ e] at hx; exact .inl hx
    rcases one x p h1 with k1 | ⟨_, rfl⟩
    · rcases one x' p' h2 with k2 | ⟨_, rfl⟩
      · exact h.apart x x' p p' hne' k1 k2 b hb1 hb2
      · cases hb2
    · cases hb1
  nodup x p hx := by
    by_cases e : x = r
    · subst e
      rw [upd_same] at hx
      obtain rfl : (rv, []) = p := by simpa using hx
      exact List.nodup_nil
    · rw [upd_ne _ _ e] at hx
      exact h.nodup x p hx
theorem res_in {lo : Nat} : ∀ {rs : List Grp} {us : List Value} {bs : List Nat}, ResOK w' lo rs us bs → ∀ b, b ∈ bs → b < w'.heap.size
  | [], us, bs, hr, b, hb => by obtain ⟨_, rfl⟩ := hr; cases hb
  | p :: rs, us, bs, hr, b, hb => by
    obtain ⟨v, vs', xs, b1, b2, _, _, h1, h2, rfl⟩ := hr
    rcases List.mem_append.1 hb with hb | hb
    · exact (ownsL_in _ _ _ h1 b hb).2
    · exact res_in h2 b hb
/-- The call of such a function in a run. -/
theorem cust_row {old : World → Prop} {id q r : Nat} {o : Oper} {vs : List AV} {os : List Ob} {c : Call} {f : FuncId} {x : AV} {rs : List Grp} {gs : List (Bool × List Sc)} {m : List (Nat × Ob)} {k : Nat} {l : List Prop} (ho : o.op = .call c) (hc : c.callee = .value (.func f))
    (hvs : vs = [x, .one (.ptr q 0), .agg [.own r]]) (hx : AvIds x = []) (hos : os = [.var T cs, .own d]) (hfl : flatCs cs = true) (hfl' : flatCs cs' = true) (K : RowCon P f T cs d rs cs') (hg : grpNew id rs = (gs, m, k)) (hk : k ≤ id + 8) :
    Cust P old id o vs os ⟨l, resAV gs, (r, .gone) :: (q, .var T cs') :: m⟩ :=
  cust_call (hlen := by subst hvs hos; rw [List.flatMap_cons, hx]; rfl) ho hc K.enters fun W0 obs ρ w args hold hm0 hargs hobs hun hn => by
    subst hvs hos
    obtain ⟨v, zs, rfl, hv, has⟩ := hargs
    obtain ⟨v2, zs2, rfl, ⟨v3, rfl, rv', zs3, rfl, hv3, hz3⟩, has⟩ := has
    obtain rfl := hz3
    obtain rfl := has
    have hobs2 : obs q = .var T cs ∧ obs r = .own d := by
      rw [List.flatMap_cons, hx, List.nil_append] at hobs
      have h1 := List.cons.inj hobs
      exact ⟨h1.1, (List.cons.inj h1.2).1⟩
    obtain ⟨hq, hr⟩ := hobs2
    obtain ⟨b, hρ, hlo, hat⟩ := lent_of hm0 hq hfl
    obtain rfl : v = .pointer (some ⟨b, 0, none⟩) := ptr_of (W0 := W0) hv hρ
    obtain ⟨rv, bs, hρr, hown⟩ := own_of hm0 hr
    have hone := hv3.1
    obtain rfl : rv' = rv := own_val (W0 := W0) hv3 hρr
    have hne : q ≠ r := fun e => by rw [e, hr] at hq; cases hq
    have hbel := hm0.below
    have hts := trunc_size (w := w) (n := W0.heap.size) hbel.size
    refine (K.calls w W0.heap.size b rv' bs hat hone hown (hm0.nodup r _ hρr) (fun hb => hm0.apart q r _ _ hne hρ hρr b (by simp) hb)).mono ?_
    rintro e w' ⟨rs', ds, rfl, hres, hnd, hds, hat', hbw, hkeep⟩
    refine ⟨_, rfl, ?_⟩
    obtain ⟨ws', hcell', hcs'⟩ := hat'.is
    have hsz : W0.heap.size ≤ w'.heap.size := by have := hbw.size; rwa [hts] at this
    have hts' := trunc_size (w := w') (n := W0.heap.size) hsz
    have hlow : ∀ k, k < W0.heap.size → w'.heap[k]? = W0.heap[k]? := fun k hk => by
      have h1 := hbw.block k hk
      have h2 := (trunc_below (w := w) (n := W0.heap.size) hbel.size).block k (by rw [hts]; exact hk)
      exact h1.trans (h2.symm.trans (hbel.block k hk))
    have hbw' : Below W0.heap.size W0 w' := ⟨hbw.os.trans hbel.os, hbw.tape.trans hbel.tape, hbw.output.trans hbel.output, hsz, hlow⟩
    have hrr : ∀ p, ρ r = some p → p.1 = rv' := fun p hp => by rw [hρr] at hp; cases hp; rfl
    have hle := Le.upd ρ r rv' [] hrr
    have hm1 : Mem W0 (upd (upd obs r .gone) q (.var T cs')) (upd ρ r (some (rv', []))) w' :=
      mem_moved hm0 hbw' hρ hρr hne hkeep ⟨b, ws', by rw [upd_ne _ _ hne]; exact hρ, hlo, hcell', cs_flat (W := trunc w' W0.heap.size) (fun k hk => by
          rw [hts'] at hk
          have h3 := (trunc_below (w := w') (n := W0.heap.size) hsz).block k (by rw [hts']; exact hk)
          exact (hlow k hk).symm.trans h3) (by rw [hts']; exact Nat.le_refl _) hfl' hcs'⟩
    have hqid : ∀ k', id ≤ k' → k' < id + 8 → upd (upd obs r .gone) q (.var T cs') k' = .un := fun k' h5 h6 => by
      have := hun k' h5 h6
      rw [upd_ne _ _ (fun e => by subst e; rw [hq] at this; cases this), upd_ne _ _ (fun e => by subst e; rw [hr] at this; cases this)]
      exact this
    obtain ⟨ρ', h1, h2, h3⟩ := new_grps (w := w') (lo := W0.heap.size) (Nat.le_refl _) rs id (upd (upd obs r .gone) q (.var T cs')) _ rs' ds hm1 hres hnd (fun q' p hp b' hb1 hb2 => by
      obtain ⟨h6, h7⟩ := hds b' hb2
      by_cases e : q' = r
      · subst e
        rw [upd_same] at hp
        cases hp
        cases hb1
      · rw [upd_ne _ _ e] at hp
        have h5 := (hm0.in_ hp b' hb1).2
        rcases h7 with h7 | h7
        · exact hm0.apart q' r p _ e hp hρr b' hb1 h7
        · omega) (fun k' h5 h6 => hqid k' h5 (by rw [hg] at h6; exact Nat.lt_of_lt_of_le h6 hk))
    rw [hg] at h2 h3
    exact ⟨ρ', hle.trans h1, h2, ret_ok h3⟩
end
end Go.Proofs.Ytoedfeacpllkeaa.E30
