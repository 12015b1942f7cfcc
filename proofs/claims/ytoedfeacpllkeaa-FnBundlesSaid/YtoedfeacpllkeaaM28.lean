/-
  Merging is commutative, associative and idempotent: by what stands at each place.
-/
import Derived.Test.YtoedfeacpllkeaaM27
namespace Go.Proofs.Ytoedfeacpllkeaa.M28
open S0 S1 S9 Dm Fx Das E18 M26 M27
set_option linter.unusedVariables false
def lk (l : List En) (s h : Int) : Option En := l.find? (isE s h)
theorem asc_uni {l : List En} (ha : Asc l) {x y : En} (hx : x ∈ l) (hy : y ∈ l) (h1 : x.Site = y.Site) (h2 : x.Handle = y.Handle) : x = y := by
  obtain ⟨i, hi, rfl⟩ := mem_at hx
  obtain ⟨j, hj, rfl⟩ := mem_at hy
  rw [asc_same ha hi hj h1 h2]
theorem lk_iff {l : List En} (ha : Asc l) {s h : Int} {y : En} : lk l s h = some y ↔ y ∈ l ∧ isE s h y = true := by
  unfold lk
  constructor
  · intro e
    exact ⟨List.mem_of_find?_eq_some e, List.find?_some e⟩
  · rintro ⟨h1, h2⟩
    cases e : l.find? (isE s h) with
    | none => exact absurd h2 (List.find?_eq_none.1 e y h1)
    | some z =>
      have h3 := List.mem_of_find?_eq_some e
      have h4 := List.find?_some e
      rw [isE_iff] at h2 h4
      rw [asc_uni ha h3 h1 (by omega) (by omega)]
theorem lk_none {l : List En} {s h : Int} (e : ∀ y ∈ l, isE s h y = false) : lk l s h = none := List.find?_eq_none.2 fun y hy => by rw [e y hy]; decide
def pk (x y : En) : En := match newE y x with | true => y | false => x
def jn : Option En → Option En → Option En
  | none, y => y
  | some x, none => some x
  | some x, some y => some (pk x y)
theorem jn_none (o : Option En) : jn o none = o := by cases o <;> rfl
def wg (x : En) : Int := 2 * x.Version + (match x.Deleted with | true => 1 | false => 0)
def Pl (s h : Int) (o : Option En) : Prop := ∀ x, o = some x → x.Site = s ∧ x.Handle = h
theorem wg_eq {x y : En} (h1 : x.Site = y.Site) (h2 : x.Handle = y.Handle) (h3 : wg x = wg y) : x = y := by
  obtain ⟨s, h, v, d⟩ := x
  obtain ⟨s', h', v', d'⟩ := y
  simp only at h1 h2
  subst h1 h2
  unfold wg at h3
  cases d <;> cases d' <;> simp at h3 <;> first | omega | (have : v = v' := by omega) <;> (subst this; rfl)
theorem pk_w {x y : En} (h1 : x.Site = y.Site) (h2 : x.Handle = y.Handle) : pk x y = if wg x < wg y then y else x := by
  by_cases e : wg x = wg y
  · rw [wg_eq h1 h2 e, if_neg (by omega)]
    unfold pk
    split <;> rfl
  · have hn : newE y x = decide (wg x < wg y) := by
      obtain ⟨s, h, v, d⟩ := x
      obtain ⟨s', h', v', d'⟩ := y
      unfold wg newE at *
      rw [Bool.eq_iff_iff]
      cases d <;> cases d' <;> simp at * <;> omega
    unfold pk
    rw [hn]
    by_cases hlt : wg x < wg y
    · rw [if_pos hlt, decide_eq_true hlt]
    · rw [if_neg hlt, decide_eq_false hlt]
theorem pk_pl {x y : En} {s h : Int} (h1 : x.Site = s ∧ x.Handle = h) (h2 : y.Site = s ∧ y.Handle = h) : (pk x y).Site = s ∧ (pk x y).Handle = h := by
  unfold pk
  split
  · exact h2
  · exact h1
theorem jn_pl {s h : Int} {a b : Option En} (h1 : Pl s h a) (h2 : Pl s h b) : Pl s h (jn a b) := fun x e => by
  cases a with
  | none => exact h2 x e
  | some y =>
    cases b with
    | none => exact h1 x e
    | some z =>
      obtain rfl : pk y z = x := by simpa [jn] using e
      exact pk_pl (h1 y rfl) (h2 z rfl)
theorem jn_comm {s h : Int} {a b : Option En} (h1 : Pl s h a) (h2 : Pl s h b) : jn a b = jn b a := by
  cases a with
  | none => rw [jn_none]; rfl
  | some x =>
    cases b with
    | none => rfl
    | some y =>
      obtain ⟨a1, a2⟩ := h1 x rfl
      obtain ⟨b1, b2⟩ := h2 y rfl
      show some (pk x y) = some (pk y x)
      rw [pk_w (by omega) (by omega), pk_w (by omega) (by omega)]
      by_cases e : wg x = wg y
      · rw [wg_eq (x := x) (y := y) (by omega) (by omega) e]
      · congr 1
        by_cases hlt : wg x < wg y
        · rw [if_pos hlt, if_neg (by omega)]
        · rw [if_neg hlt, if_pos (by omega)]
theorem jn_assoc {s h : Int} {a b c : Option En} (h1 : Pl s h a) (h2 : Pl s h b) (h3 : Pl s h c) : jn (jn a b) c = jn a (jn b c) := by
  cases a with
  | none => rfl
  | some x =>
    cases b with
    | none => rfl
    | some y =>
      cases c with
      | none => rfl
      | some z =>
        obtain ⟨a1, a2⟩ := h1 x rfl
        obtain ⟨b1, b2⟩ := h2 y rfl
        obtain ⟨c1, c2⟩ := h3 z rfl
        have p1 := pk_pl (h1 x rfl) (h2 y rfl)
        have p2 := pk_pl (h2 y rfl) (h3 z rfl)
        show some (pk (pk x y) z) = some (pk x (pk y z))
        congr 1
        rw [pk_w (x := pk x y) (y := z) (by omega) (by omega), pk_w (x := x) (y := pk y z) (by omega) (by omega), pk_w (x := x) (y := y) (by omega) (by omega), pk_w (x := y) (y := z) (by omega) (by omega)]
        by_cases e1 : wg x < wg y
        · rw [if_pos e1]
          by_cases e2 : wg y < wg z
          · rw [if_pos e2, if_pos (by omega)]
          · rw [if_neg e2, if_pos (by omega)]
        · rw [if_neg e1]
          by_cases e2 : wg y < wg z
          · rw [if_pos e2]
          · rw [if_neg e2, if_neg e1, if_neg (by omega)]
theorem lk_pl {l : List En} {s h : Int} : Pl s h (lk l s h) := fun x e => isE_iff.1 (List.find?_some e)
theorem opt_ext {a b : Option En} (h : ∀ y, a = some y ↔ b = some y) : a = b := by
  cases a with
  | none =>
    cases b with
    | none => rfl
    | some y => exact absurd ((h y).2 rfl) (by simp)
  | some x => exact ((h x).1 rfl).symm
theorem lk_stp {l : List En} (ha : Asc l) (x : En) (s h : Int) : lk (stpE l x) s h = match isE s h x with | true => jn (lk l s h) (some x) | false => lk l s h := by
  have hs := asc_stpE ha x
  cases hf : fndE l x.Site x.Handle with
  | none =>
    have hno := fndE_no hf
    have e : stpE l x = insE l (cntE l x.Site x.Handle) x := by rw [stpE_none hf, setE_none hf]
    have hm : ∀ y, y ∈ stpE l x ↔ y = x ∨ y ∈ l := fun y => by
      rw [e]
      unfold insE
      rw [List.mem_append, List.mem_cons]
      have : y ∈ l ↔ y ∈ l.take (cntE l x.Site x.Handle) ∨ y ∈ l.drop (cntE l x.Site x.Handle) := by rw [← List.mem_append, List.take_append_drop]
      rw [this]
      constructor
      · rintro (h | h | h)
        · exact .inr (.inl h)
        · exact .inl h
        · exact .inr (.inr h)
      · rintro (h | h | h)
        · exact .inr (.inl h)
        · exact .inl h
        · exact .inr (.inr h)
    have hn : ∀ y ∈ l, ¬ (y.Site = x.Site ∧ y.Handle = x.Handle) := fun y hy => by
      obtain ⟨j, hj, rfl⟩ := mem_at hy
      exact isE_not.1 (hno j hj)
    refine opt_ext fun y => ?_
    rw [lk_iff hs, hm]
    cases hx : isE s h x with
    | true =>
      obtain ⟨x1, x2⟩ := isE_iff.1 hx
      simp only []
      rw [lk_none (fun y hy => isE_not.2 (by have := hn y hy; rw [x1, x2] at this; exact this))]
      show _ ↔ some x = some y
      constructor
      · rintro ⟨rfl | hy, h2⟩
        · rfl
        · have := hn y hy
          rw [isE_iff] at h2
          omega
      · intro h2
        obtain rfl := Option.some.inj h2
        exact ⟨.inl rfl, hx⟩
    | false =>
      simp only []
      rw [lk_iff ha]
      constructor
      · rintro ⟨rfl | hy, h2⟩
        · rw [hx] at h2; cases h2
        · exact ⟨hy, h2⟩
      · rintro ⟨hy, h2⟩
        exact ⟨.inr hy, h2⟩
  | some k =>
    obtain ⟨hk, k1, k2, _⟩ := fndE_at hf
    have hkm : l.getD k zEntry ∈ l := by rw [getD_lt hk]; exact List.getElem_mem hk
    cases hn : newE x (l.getD k zEntry) with
    | false =>
      have e : stpE l x = l := stpE_f hf hn
      rw [e]
      cases hx : isE s h x with
      | true =>
        obtain ⟨x1, x2⟩ := isE_iff.1 hx
        have hl : lk l s h = some (l.getD k zEntry) := (lk_iff ha).2 ⟨hkm, isE_iff.2 ⟨by omega, by omega⟩⟩
        rw [hl]
        show _ = some (pk _ _)
        unfold pk
        rw [hn]
      | false => rfl
    | true =>
      have e : stpE l x = l.set k x := by rw [stpE_t hf hn, setE_some hf]
      have hxm : x ∈ l.set k x := List.mem_set hk x
      rw [e] at hs
      rw [e]
      cases hx : isE s h x with
      | true =>
        obtain ⟨x1, x2⟩ := isE_iff.1 hx
        have hl : lk l s h = some (l.getD k zEntry) := (lk_iff ha).2 ⟨hkm, isE_iff.2 ⟨by omega, by omega⟩⟩
        rw [hl, (lk_iff hs).2 ⟨hxm, hx⟩]
        show _ = some (pk _ _)
        unfold pk
        rw [hn]
      | false =>
        refine opt_ext fun y => ?_
        rw [lk_iff hs, lk_iff ha]
        constructor
        · rintro ⟨h1, h2⟩
          rcases List.mem_or_eq_of_mem_set h1 with h1 | rfl
          · exact ⟨h1, h2⟩
          · rw [hx] at h2; cases h2
        · rintro ⟨h1, h2⟩
          obtain ⟨j, hj, rfl⟩ := mem_at h1
          have hjk : j ≠ k := fun e => by
            subst e
            rw [isE_iff] at h2
            rw [isE_not] at hx
            omega
          refine ⟨?_, h2⟩
          have hg : (l.set k x).getD j zEntry = l.getD j zEntry := by rw [getD_set hk, if_neg hjk]
          rw [← hg, getD_lt (by rw [List.length_set]; exact hj)]
          exact List.getElem_mem _
theorem lk_mrg : ∀ {b a : List En}, Asc a → Asc b → ∀ s h : Int, lk (mrgL a b) s h = jn (lk a s h) (lk b s h)
  | [], a, ha, _, s, h => by rw [show lk [] s h = none from rfl, jn_none]; rfl
  | x :: b, a, ha, hb, s, h => by
    obtain ⟨hb1, hb2⟩ := List.pairwise_cons.1 hb
    show lk (mrgL (stpE a x) b) s h = _
    rw [lk_mrg (asc_stpE ha x) hb2, lk_stp ha]
    cases hx : isE s h x with
    | true =>
      have h1 : lk (x :: b) s h = some x := by unfold lk; rw [List.find?_cons, hx]
      have h2 : lk b s h = none := lk_none fun y hy => by
        rw [isE_not]
        have := lt2_iff.1 (hb1 y hy)
        rw [isE_iff] at hx
        omega
      simp only []
      rw [h1, h2, jn_none]
    | false =>
      have h1 : lk (x :: b) s h = lk b s h := by unfold lk; rw [List.find?_cons, hx]
      simp only []
      rw [h1]
theorem asc_ext : ∀ {a b : List En}, Asc a → Asc b → (∀ y, y ∈ a ↔ y ∈ b) → a = b
  | [], [], _, _, _ => rfl
  | [], y :: b, _, _, h => absurd ((h y).2 (by simp)) (by simp)
  | x :: a, [], _, _, h => absurd ((h x).1 (by simp)) (by simp)
  | x :: a, y :: b, ha, hb, h => by
    obtain ⟨a1, a2⟩ := List.pairwise_cons.1 ha
    obtain ⟨b1, b2⟩ := List.pairwise_cons.1 hb
    have hxy : x = y := by
      rcases List.mem_cons.1 ((h x).1 (by simp)) with h1 | h1
      · exact h1
      · rcases List.mem_cons.1 ((h y).2 (by simp)) with h2 | h2
        · exact h2.symm
        · have h3 := lt2_iff.1 (b1 x h1)
          have h4 := lt2_iff.1 (a1 y h2)
          omega
    subst hxy
    congr 1
    refine asc_ext a2 b2 fun z => ⟨fun hz => ?_, fun hz => ?_⟩
    · rcases List.mem_cons.1 ((h z).1 (by simp [hz])) with rfl | h1
      · have := lt2_iff.1 (a1 z hz); omega
      · exact h1
    · rcases List.mem_cons.1 ((h z).2 (by simp [hz])) with rfl | h1
      · have := lt2_iff.1 (b1 z hz); omega
      · exact h1
theorem lk_ext {a b : List En} (ha : Asc a) (hb : Asc b) (h : ∀ s i : Int, lk a s i = lk b s i) : a = b :=
  asc_ext ha hb fun y => by
    have h1 := lk_iff ha (s := y.Site) (h := y.Handle) (y := y)
    have h2 := lk_iff hb (s := y.Site) (h := y.Handle) (y := y)
    have hy : isE y.Site y.Handle y = true := isE_iff.2 ⟨rfl, rfl⟩
    rw [h] at h1
    constructor
    · intro k; exact (h2.1 (h1.2 ⟨k, hy⟩)).1
    · intro k; exact (h1.1 (h2.2 ⟨k, hy⟩)).1
theorem mrg_comm {a b : List En} (ha : Asc a) (hb : Asc b) : mrgL a b = mrgL b a :=
  lk_ext (asc_mrgL b ha) (asc_mrgL a hb) fun s h => by rw [lk_mrg ha hb, lk_mrg hb ha, jn_comm lk_pl lk_pl]
theorem mrg_assoc {a b c : List En} (ha : Asc a) (hb : Asc b) (hc : Asc c) : mrgL (mrgL a b) c = mrgL a (mrgL b c) :=
  lk_ext (asc_mrgL c (asc_mrgL b ha)) (asc_mrgL (mrgL b c) ha) fun s h => by rw [lk_mrg (asc_mrgL b ha) hc, lk_mrg ha hb, lk_mrg ha (asc_mrgL c hb), lk_mrg hb hc, jn_assoc lk_pl lk_pl lk_pl]
theorem mrg_idem {a : List En} (ha : Asc a) : mrgL a a = a := mrg_same fun x hx => stp_mem ha hx
/-- Few places: what is drawn. -/
structure Few (l : List En) : Prop where
  vb : vbu l = true
  pl : ∀ x ∈ l, x.Site ≤ 3 ∧ x.Handle ≤ 2
theorem few_len {l : List En} (ha : Asc l) (h0 : ∀ x ∈ l, 0 ≤ x.Site ∧ 0 ≤ x.Handle) (h : ∀ x ∈ l, x.Site ≤ 3 ∧ x.Handle ≤ 2) : l.length ≤ 12 := by
  have hm : ∀ i, i < l.length → l.getD i zEntry ∈ l := fun i hi => by rw [getD_lt hi]; exact List.getElem_mem hi
  have key : ∀ i, i < l.length → (i : Int) ≤ 3 * (l.getD i zEntry).Site + (l.getD i zEntry).Handle := by
    intro i
    induction i with
    | zero => intro hi; have := h0 _ (hm 0 hi); omega
    | succ i ih =>
      intro hi
      have h1 := ih (by omega)
      have h2 : lt2 (l.getD i zEntry) (l.getD (i + 1) zEntry) := asc_at ha (Nat.lt_succ_self i) hi
      have h2 := lt2_iff.1 h2
      have h3 := h _ (hm i (by omega))
      have h4 := h0 _ (hm (i + 1) hi)
      omega
  rcases Nat.lt_or_ge 12 l.length with hl | hl
  · have h1 := key 12 hl
    have h2 := h _ (hm 12 hl)
    omega
  · exact hl
theorem mem_mrg {a b : List En} (ha : Asc a) (hb : Asc b) {x : En} (h : x ∈ mrgL a b) : x ∈ a ∨ x ∈ b := by
  have hx : isE x.Site x.Handle x = true := isE_iff.2 ⟨rfl, rfl⟩
  have h1 := (lk_iff (asc_mrgL b ha) (s := x.Site) (h := x.Handle)).2 ⟨h, hx⟩
  rw [lk_mrg ha hb] at h1
  cases ea : lk a x.Site x.Handle with
  | none => rw [ea] at h1; exact .inr ((lk_iff hb).1 h1).1
  | some y =>
    rw [ea] at h1
    cases eb : lk b x.Site x.Handle with
    | none =>
      rw [eb] at h1
      obtain rfl := Option.some.inj h1
      exact .inl ((lk_iff ha).1 ea).1
    | some z =>
      rw [eb] at h1
      obtain rfl : pk y z = x := Option.some.inj h1
      have m1 := ((lk_iff ha).1 ea).1
      have m2 := ((lk_iff hb).1 eb).1
      unfold pk at *
      split at *
      · exact .inr m2
      · exact .inl m1
theorem Few.asc {l : List En} (h : Few l) : Asc l := (vbu_is h.vb).1
theorem Few.mrg {a b : List En} (h1 : Few a) (h2 : Few b) : Few (mrgL a b) ∧ mrgB a b = true ∧ mrgX a b = mrgL a b := by
  have hm : ∀ x ∈ mrgL a b, okE x = true ∧ (x.Site ≤ 3 ∧ x.Handle ≤ 2) := fun x hx => by
    rcases mem_mrg h1.asc h2.asc hx with h | h
    · exact ⟨(vbu_is h1.vb).2.1 x h, h1.pl x h⟩
    · exact ⟨(vbu_is h2.vb).2.1 x h, h2.pl x h⟩
  have hs := asc_mrgL b h1.asc
  have hl := few_len hs (fun x hx => by have := okE_ok (hm x hx).1; omega) (fun x hx => (hm x hx).2)
  have hv : vbu (mrgL a b) = true := vbu_of hs (fun x hx => (hm x hx).1) (by omega)
  have hb := mrgB_t h1.vb h2.vb hv
  exact ⟨⟨hv, fun x hx => (hm x hx).2⟩, hb, mrgX_t hb⟩
theorem Few.nil : Few [] := ⟨by decide, fun x h => by cases h⟩
theorem Few.put {l : List En} {s h : Int} (k : Few l) (hs : s ≤ 3) (hh : h ≤ 2) : Few (putX l s h) := by
  cases e : putB l s h with
  | false => rw [putX_f e]; exact k
  | true =>
    rw [putX_t e]
    unfold putB at e
    rw [Bool.and_eq_true, Bool.and_eq_true] at e
    refine ⟨e.2.2, fun x hx => ?_⟩
    rcases mem_setE hx with rfl | hx
    · exact ⟨hs, hh⟩
    · exact k.pl x hx
theorem Few.del {l : List En} {s h : Int} (k : Few l) (hs : s ≤ 3) (hh : h ≤ 2) : Few (delX l s h) := by
  cases e : delB l s h with
  | false => rw [delX_f e]; exact k
  | true =>
    obtain ⟨j, c⟩ := cut_of e
    refine ⟨c.vb', fun x hx => ?_⟩
    rw [delX_t e] at hx
    rcases mem_setE hx with rfl | hx
    · exact ⟨hs, hh⟩
    · exact k.pl x hx
theorem inc_of {x a : List En} (h1 : Few x) (h2 : Few a) (h : mrgL x a = x) : incB x a = true := by
  obtain ⟨_, e1, e2⟩ := h1.mrg h2
  unfold incB
  rw [e1, e2, h, eqlE_t rfl]
  rfl
theorem mrg_left {a b : List En} (ha : Asc a) (hb : Asc b) : mrgL (mrgL a b) a = mrgL a b := by
  rw [mrg_comm (asc_mrgL b ha) ha, ← mrg_assoc ha ha hb, mrg_idem ha]
theorem mrg_right {a b : List En} (ha : Asc a) (hb : Asc b) : mrgL (mrgL a b) b = mrgL a b := by
  rw [mrg_assoc ha hb hb, mrg_idem hb]
end Go.Proofs.Ytoedfeacpllkeaa.M28
