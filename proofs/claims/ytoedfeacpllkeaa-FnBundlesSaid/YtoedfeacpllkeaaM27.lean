/-
  What merging says of a bundle and a later one.
-/
import Derived.Test.YtoedfeacpllkeaaM26
namespace Go.Proofs.Ytoedfeacpllkeaa.M27
open S0 S1 S9 Dm Fx Das E18 M26
set_option linter.unusedVariables false
theorem asc_same {a : List En} (ha : Asc a) {i j : Nat} (hi : i < a.length) (hj : j < a.length) (h1 : (a.getD i zEntry).Site = (a.getD j zEntry).Site) (h2 : (a.getD i zEntry).Handle = (a.getD j zEntry).Handle) : i = j := by
  rcases Nat.lt_trichotomy i j with h | h | h
  · have := lt2_iff.1 (asc_at ha h hj); omega
  · exact h
  · have := lt2_iff.1 (asc_at ha h hi); omega
theorem fnd_mem {a : List En} (ha : Asc a) {j : Nat} (hj : j < a.length) : fndE a (a.getD j zEntry).Site (a.getD j zEntry).Handle = some j :=
  fndE_some hj (isE_iff.2 ⟨rfl, rfl⟩) fun i hi => by
    rw [isE_not]
    rintro ⟨h1, h2⟩
    have := asc_same ha (by omega) hj h1 h2
    omega
theorem set_self {a : List En} {k : Nat} (hk : k < a.length) : a.set k (a.getD k zEntry) = a := by
  rw [getD_lt hk]
  exact List.set_getElem_self hk
/-- What a bundle has already, it takes in without a change. -/
theorem stp_at {a : List En} (ha : Asc a) {j : Nat} (hj : j < a.length) : stpE a (a.getD j zEntry) = a := by
  have e := fnd_mem ha hj
  unfold stpE
  rw [e]
  simp only []
  split
  · exact set_self hj
  · rfl
theorem mem_at {a : List En} {x : En} (h : x ∈ a) : ∃ j, j < a.length ∧ a.getD j zEntry = x := by
  obtain ⟨j, hj, e⟩ := List.getElem_of_mem h
  exact ⟨j, hj, by rw [getD_lt hj]; exact e⟩
theorem stp_mem {a : List En} (ha : Asc a) {x : En} (h : x ∈ a) : stpE a x = a := by
  obtain ⟨j, hj, rfl⟩ := mem_at h
  exact stp_at ha hj
theorem mrg_same : ∀ {b a : List En}, (∀ x ∈ b, stpE a x = a) → mrgL a b = a
  | [], a, _ => rfl
  | x :: b, a, h => by
    show mrgL (stpE a x) b = a
    rw [h x (by simp)]
    exact mrg_same fun y hy => h y (by simp [hy])
theorem mrg_to {l l' : List En} {e : En} (he : stpE l e = l') : ∀ {b : List En}, (∀ y ∈ b, y = e ∨ stpE l y = l) → (∀ y ∈ b, stpE l' y = l') → e ∈ b → mrgL l b = l'
  | [], _, _, h => by cases h
  | y :: b, h1, h2, h3 => by
    show mrgL (stpE l y) b = l'
    rcases h1 y (by simp) with rfl | hy
    · rw [he]
      exact mrg_same fun z hz => h2 z (by simp [hz])
    · rw [hy]
      rcases List.mem_cons.1 h3 with rfl | h3
      · have hl : l' = l := by rw [← he]; exact hy
        subst hl
        exact mrg_same fun z hz => h2 z (by simp [hz])
      · exact mrg_to he (fun z hz => h1 z (by simp [hz])) (fun z hz => h2 z (by simp [hz])) h3
theorem getD_set {l : List En} {k j : Nat} {e : En} (hk : k < l.length) : (l.set k e).getD j zEntry = if j = k then e else l.getD j zEntry := by
  rw [List.getD_eq_getElem?_getD, List.getElem?_set]
  by_cases h : k = j
  · subst h
    rw [if_pos rfl, if_pos hk, if_pos rfl]; rfl
  · rw [if_neg h, if_neg (fun h' => h h'.symm), List.getD_eq_getElem?_getD]
/-- An entry of a valid bundle is told anew. -/
structure Newer (l : List En) (k : Nat) (e : En) : Prop where
  asc : Asc l
  asc' : Asc (l.set k e)
  hk : k < l.length
  site : (l.getD k zEntry).Site = e.Site
  handle : (l.getD k zEntry).Handle = e.Handle
  ver : (l.getD k zEntry).Version < e.Version
section
variable {l : List En} {k : Nat} {e : En}
theorem Newer.fnd (h : Newer l k e) : fndE l e.Site e.Handle = some k := by
  have := fnd_mem h.asc h.hk
  rw [h.site, h.handle] at this
  exact this
theorem Newer.at_ (h : Newer l k e) : (l.set k e).getD k zEntry = e := by rw [getD_set h.hk, if_pos rfl]
theorem Newer.fnd' (h : Newer l k e) : fndE (l.set k e) e.Site e.Handle = some k := by
  have := fnd_mem h.asc' (j := k) (by rw [List.length_set]; exact h.hk)
  rw [h.at_] at this
  exact this
/-- The elder one takes in the later one, and becomes it. -/
theorem Newer.merge (h : Newer l k e) : mrgL l (l.set k e) = l.set k e := by
  have hmem : e ∈ l.set k e := List.mem_set h.hk e
  have hn : newE e (l.getD k zEntry) = true := by unfold newE; rw [decide_eq_true h.ver]; rfl
  have hs : stpE l e = l.set k e := by rw [stpE_t h.fnd hn, setE_some h.fnd]
  refine mrg_to hs (fun y hy => ?_) (fun y hy => stp_mem h.asc' hy) hmem
  rcases List.mem_or_eq_of_mem_set hy with hy | hy
  · exact .inr (stp_mem h.asc hy)
  · exact .inl hy
/-- The later one takes in the elder one, and stays. -/
theorem Newer.back (h : Newer l k e) : mrgL (l.set k e) l = l.set k e := mrg_same fun x hx => by
  obtain ⟨j, hj, rfl⟩ := mem_at hx
  by_cases hjk : j = k
  · subst hjk
    refine stpE_f (k := j) (by rw [h.site, h.handle]; exact h.fnd') ?_
    rw [h.at_]
    unfold newE
    have := h.ver
    rw [decide_eq_false (by omega), decide_eq_false (by omega)]
    rfl
  · have hg : (l.set k e).getD j zEntry = l.getD j zEntry := by rw [getD_set h.hk, if_neg hjk]
    rw [← hg]
    exact stp_at h.asc' (by rw [List.length_set]; exact hj)
end
theorem act_set : ∀ {l : List En} {k : Nat} {e : En}, k < l.length → (l.getD k zEntry).Deleted = false → e.Deleted = true → (actE (l.set k e)).length + 1 = (actE l).length
  | [], k, e, hk, _, _ => absurd hk (Nat.not_lt_zero _)
  | x :: l, 0, e, hk, h1, h2 => by
    have h1 : x.Deleted = false := h1
    simp [actE, h1, h2]
  | x :: l, k + 1, e, hk, h1, h2 => by
    have ih := act_set (l := l) (k := k) (e := e) (by simpa using hk) (by simpa using h1) h2
    unfold actE at *
    rw [List.set_cons_succ, List.filter_cons, List.filter_cons]
    split
    · rw [List.length_cons, List.length_cons, ih]
    · exact ih
/-- What deleting an entry gives. -/
structure Cut (l : List En) (s h : Int) (k : Nat) : Prop where
  fnd : fndE l s h = some k
  newer : Newer l k (nxtE l s h true)
  is : delX l s h = l.set k (nxtE l s h true)
  vb : vbu l = true
  vb' : vbu (delX l s h) = true
  alive : (l.getD k zEntry).Deleted = false
  ver : (l.getD k zEntry).Version < 1000000
  fnd' : fndE (delX l s h) s h = some k
  at_ : (delX l s h).getD k zEntry = nxtE l s h true
  nv : (nxtE l s h true).Version = (l.getD k zEntry).Version + 1
theorem cut_of {l : List En} {s h : Int} (e : delB l s h = true) : ∃ k, Cut l s h k := by
  have e0 := e
  unfold delB at e
  rw [Bool.and_eq_true, Bool.and_eq_true] at e
  obtain ⟨hv, hd, hm⟩ := e
  have hd : delAt l s h = false := by simpa using hd
  have hm : verAt l s h ≠ 1000000 := by simpa using hm
  cases hf : fndE l s h with
  | none => rw [(at_none hf).1] at hd; cases hd
  | some k =>
    obtain ⟨ha, hb⟩ := at_some hf
    rw [ha] at hd
    rw [hb] at hm
    obtain ⟨hk, hs, hh, _⟩ := fndE_at hf
    obtain ⟨h1, h2, h3⟩ := vbu_is hv
    have hok := okE_ok (h2 _ (by rw [getD_lt hk]; exact List.getElem_mem hk) : okE (l.getD k zEntry) = true)
    have hnv : (nxtE l s h true).Version = (l.getD k zEntry).Version + 1 := by
      show IntKind.i64.wrap (verAt l s h + 1) = _
      rw [hb, IntWalk.i64_in _ (by omega)]
    have hx : delX l s h = l.set k (nxtE l s h true) := by rw [delX_t e0]; exact setE_some (x := nxtE l s h true) hf
    have hvb : vbu (delX l s h) = true := by
      rw [delX_t e0]
      refine set_ok (x := nxtE l s h true) hf hv (okE_of ⟨?_, ?_, ?_⟩)
      · show 0 ≤ s ∧ s ≤ _; omega
      · show 0 ≤ h ∧ h ≤ _; omega
      · rw [hnv]; omega
    have hN : Newer l k (nxtE l s h true) := ⟨h1, hx ▸ (vbu_is hvb).1, hk, hs, hh, by rw [hnv]; omega⟩
    exact ⟨k, hf, hN, hx, hv, hvb, hd, by omega, by rw [hx]; exact hN.fnd', by rw [hx]; exact hN.at_, hnv⟩
section
variable {l : List En} {s h : Int} {k : Nat}
theorem Cut.merge (c : Cut l s h k) : mrgX l (delX l s h) = delX l s h ∧ mrgB l (delX l s h) = true := by
  have hm : mrgL l (delX l s h) = delX l s h := by rw [c.is]; exact c.newer.merge
  have hb : mrgB l (delX l s h) = true := mrgB_t c.vb c.vb' (by rw [hm]; exact c.vb')
  exact ⟨by rw [mrgX_t hb, hm], hb⟩
theorem Cut.act (c : Cut l s h k) : (actE (delX l s h)).length + 1 = (actE l).length := by
  rw [c.is]
  exact act_set c.newer.hk c.alive rfl
end
/-- .. and putting it back. -/
theorem put_back {D : List En} {s h : Int} {k : Nat} (hf : fndE D s h = some k) (hvb : vbu D = true) (hp : putB D s h = true) : mrgX (putX D s h) D = putX D s h ∧ mrgB (putX D s h) D = true := by
  have hset : putX D s h = D.set k (nxtE D s h false) := by rw [putX_t hp]; exact setE_some (x := nxtE D s h false) hf
  have hv2 : vbu (putX D s h) = true := by
    rw [putX_t hp]
    unfold putB at hp
    rw [Bool.and_eq_true, Bool.and_eq_true] at hp
    exact hp.2.2
  obtain ⟨hk, hs, hh, _⟩ := fndE_at hf
  have hver : (nxtE D s h false).Version = (D.getD k zEntry).Version + 1 := by
    show IntKind.i64.wrap (verAt D s h + 1) = _
    have hok := okE_ok ((vbu_is hvb).2.1 _ (by rw [getD_lt hk]; exact List.getElem_mem hk) : okE (D.getD k zEntry) = true)
    rw [(at_some hf).2, IntWalk.i64_in _ (by omega)]
  have hN : Newer D k (nxtE D s h false) := ⟨(vbu_is hvb).1, hset ▸ (vbu_is hv2).1, hk, hs, hh, by rw [hver]; omega⟩
  have hm : mrgL (putX D s h) D = putX D s h := by rw [hset]; exact hN.back
  have hb : mrgB (putX D s h) D = true := mrgB_t hv2 hvb (by rw [hm]; exact hv2)
  exact ⟨by rw [mrgX_t hb, hm], hb⟩
end Go.Proofs.Ytoedfeacpllkeaa.M27
