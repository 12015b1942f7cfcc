/-
  A symbolic run: some fields of an element of a row of one's own stored anew.
-/
import Derived.Test.YtoedfeacpllkeaaE26
namespace Go.Proofs.Ytoedfeacpllkeaa.E28
open Go.ChangeShapes Go.WideShapes Go.ChangeAt Go.RowKit
open S0 S1 S9 Dm E0 E1 E2 E3 E4 E5 E7 E8 E9 E9e E10 E15 E16 E17 E18 E19 E20 E26
set_option linter.unusedVariables false
set_option linter.unusedSimpArgs false
set_option maxRecDepth 100000
section
variable {P : Program} {W0 : World} {s : St} {ρ : Roots} {a : Act} {w w' : World} {obs : Nat → Ob} {o : Oper} {old : World → Prop} {id q r : Nat}
/-- Element i's fields from f on are these. -/
def putAt (el : Nat → Nat → Da) (i f : Nat) (ds : List Da) : Nat → Nat → Da := fun a b => match Nat.beq a i with | true => (match Nat.ble f b with | true => (match Nat.ble (f + ds.length) b with | true => el a b | false => ds.getD (b - f) (.val undef)) | false => el a b) | false => el a b
theorem putAt_if {el : Nat → Nat → Da} {i f a b : Nat} {ds : List Da} : putAt el i f ds a b = if a = i ∧ f ≤ b ∧ b < f + ds.length then ds.getD (b - f) (.val undef) else el a b := by
  unfold putAt
  by_cases h1 : a = i
  · rw [show Nat.beq a i = true from by simpa using h1]
    by_cases h2 : f ≤ b
    · rw [show Nat.ble f b = true from by simpa using h2]
      by_cases h3 : f + ds.length ≤ b
      · rw [show Nat.ble (f + ds.length) b = true from by simpa using h3, if_neg (by omega)]
      · rw [show Nat.ble (f + ds.length) b = false from by simpa [Bool.eq_false_iff] using h3, if_pos (by omega)]
    · rw [show Nat.ble f b = false from by simpa [Bool.eq_false_iff] using h2, if_neg (by omega)]
  · rw [show Nat.beq a i = false from by simpa [Bool.eq_false_iff] using h1, if_neg (by omega)]
theorem putAt_flat {n k i f m : Nat} {el : Nat → Nat → Da} {ds : List Da} (hk : ds.length = m) (hi : i < n) (hf : f + m ≤ k) : flat n k (putAt el i f ds) = (flat n k el).take (i * k + f) ++ ds.map Da.dc ++ (flat n k el).drop (i * k + f + m) := by
  have hik : i * k + k ≤ n * k := by have := Nat.mul_le_mul_right k (show i + 1 ≤ n from hi); rw [Nat.add_mul, Nat.one_mul] at this; exact this
  have hlen : ∀ f, (flat n k f).length = n * k := fun f => by unfold flat; simp
  have hget : ∀ f : Nat → Nat → Da, ∀ p, p < n * k → (flat n k f)[p]? = some (f (p / k) (p % k)).dc := fun f p hp => by unfold flat; rw [List.getElem?_map, List.getElem?_range hp]; rfl
  have key : ∀ p, p < n * k → ((p / k = i ∧ f ≤ p % k ∧ p % k < f + m) ↔ (i * k + f ≤ p ∧ p < i * k + f + m)) ∧ (p / k = i → p % k = p - i * k) := fun p hp => by
    have h0 : 0 < k := by
      rcases Nat.eq_zero_or_pos k with h0 | h0
      · subst h0; simp at hp
      · exact h0
    have h4 := Nat.div_add_mod p k
    have h5 := Nat.mod_lt p h0
    refine ⟨⟨fun ⟨e, h1, h2⟩ => ?_, fun ⟨h1, h2⟩ => ?_⟩, fun e => ?_⟩
    · rw [e, Nat.mul_comm] at h4; omega
    · have hq : p / k = i := by
        rw [Nat.div_eq_iff (by omega)]
        rw [Nat.mul_comm] at *
        constructor <;> omega
      rw [hq, Nat.mul_comm] at h4
      exact ⟨hq, by omega, by omega⟩
    · rw [e, Nat.mul_comm] at h4; omega
  refine List.ext_getElem? ?_
  intro p
  rw [List.append_assoc, List.getElem?_append, List.length_take, hlen, show min (i * k + f) (n * k) = i * k + f by omega]
  by_cases h1 : p < i * k + f
  · rw [if_pos h1, List.getElem?_take_of_lt h1, hget _ p (by omega), hget _ p (by omega), putAt_if, if_neg (by rw [hk]; intro e; have := ((key p (by omega)).1.1 e).1; omega)]
  · rw [if_neg h1, List.getElem?_append, List.length_map, hk]
    by_cases h2 : p - (i * k + f) < m
    · rw [if_pos h2, hget _ p (by omega), List.getElem?_map, List.getElem?_eq_getElem (by omega)]
      have hc := (key p (by omega)).1.2 ⟨by omega, by omega⟩
      have he := (key p (by omega)).2 hc.1
      rw [putAt_if, if_pos (by rw [hk]; exact hc), he, show p - i * k - f = p - (i * k + f) by omega]
      simp [List.getD_eq_getElem?_getD, List.getElem?_eq_getElem (show p - (i * k + f) < ds.length by omega)]
    · rw [if_neg h2, List.getElem?_drop, show i * k + f + m + (p - (i * k + f) - m) = p by omega]
      by_cases h3 : p < n * k
      · rw [hget _ p h3, hget _ p h3, putAt_if, if_neg (by rw [hk]; intro e; have := ((key p h3).1.1 e).2; omega)]
      · rw [List.getElem?_eq_none (by rw [hlen]; omega), List.getElem?_eq_none (by rw [hlen]; omega)]
theorem cust_putF {t E : TypeId} {x y : Operand} {k n i f m : Nat} {el : Nat → Nat → Da} {cs : List Sc} {ds : List Da} {os : List Ob} (ho : o.op = .store t x y) (hk : size? P t = some m) (hcl : cs.length = m) (hk0 : 0 < m) (hfm : f + m ≤ k)
    (hcs : ∀ obs : Nat → Ob, (cs.flatMap ScIds).map obs = os → csRes obs cs ds) (hnd : (csOwn cs).Nodup) (hq : q ∉ csOwn cs) (hlen : os.length = (cs.flatMap ScIds).length) (hone : ∀ u, Da.val u ∈ ds → u.oneCell' = true) :
    Cust P old id o [.one (.elo q k i f), .agg cs] (.own (.row E k n el) :: os) ⟨[], .one (.val undef), goneO (csOwn cs) ++ [(q, .own (.row E k n (putAt el i f ds)))]⟩ where
  goes W0 s ρ a w hold h hvs hos hun hn := by
    have hnm := named_one hos (by simp [List.flatMap_cons, AvIds, ScIds, hlen])
    simp only [List.flatMap_cons, List.flatMap_nil, AvIds, ScIds, List.append_nil, List.cons_append, List.nil_append, List.map_cons, List.cons.injEq] at hnm
    obtain ⟨oq, hnm⟩ := hnm
    have hr := hcs s.obs hnm
    rw [ho] at hvs
    simp only [Op.operands, List.map_cons, List.map_nil, List.cons.injEq, and_true] at hvs
    have hx := ev_ok h x
    have hy := ev_ok h y
    rw [hvs.1] at hx
    rw [hvs.2] at hy
    obtain ⟨b, off, n', c, bs, hρ, hi, hxe⟩ := hx
    obtain ⟨us, hye, hcok⟩ := hy
    obtain ⟨r', bs', hρ', hown⟩ := own_of h.mem oq
    rw [hρ] at hρ'
    cases hρ'
    simp only [Da.dc, Owns] at hown
    obtain ⟨vs, b2, hat, hol, hbs⟩ := hown
    have hn : n' = n := by obtain ⟨A, c', e5⟩ := hat.nil_form; injection e5
    subst hn
    have hol : OwnsL w W0.heap.size (flat n' k el) vs b2 := hol
    have hlenf : (flat n' k el).length = n' * k := by unfold flat; simp
    have hik : i * k + f + m ≤ n' * k := by have := Nat.mul_le_mul_right k (show i + 1 ≤ n' from hi); rw [Nat.add_mul, Nat.one_mul] at this; omega
    have hvl : vs.length = n' * k := hat.1
    have hnew := cs_res h.mem hr hcok
    have hul : us.length = m := by rw [ownsL_len hnew, List.length_map, ← csRes_len hr, hcl]
    have hdl : ds.length = m := by rw [← csRes_len hr, hcl]
    -- the cells apart
    have e0 : flat n' k el = (flat n' k el).take (i * k + f) ++ (((flat n' k el).drop (i * k + f)).take m ++ (flat n' k el).drop (i * k + f + m)) := by
      rw [show (flat n' k el).drop (i * k + f + m) = ((flat n' k el).drop (i * k + f)).drop m by rw [List.drop_drop], List.take_append_drop, List.take_append_drop]
    rw [e0] at hol
    obtain ⟨v1, v23, c1, c23, rfl, ho1, ho23, rfl⟩ := ownsL_split hol
    obtain ⟨v2, v3, c2, c3, rfl, ho2, ho3, rfl⟩ := ownsL_split ho23
    have l1 : v1.length = i * k + f := by rw [ownsL_len ho1, List.length_take, hlenf]; omega
    have l2 : v2.length = m := by rw [ownsL_len ho2, List.length_take, List.length_drop, hlenf]; omega
    have hset : setL (v1 ++ (v2 ++ v3)) (i * k + f) us = v1 ++ us ++ v3 := by
      rw [setL_is us _ _ (by rw [hvl, hul]; exact hik), hul, List.take_left' l1, ← List.append_assoc v1 v2 v3, List.drop_left' (by rw [List.length_append, l1, l2])]
    have hat2 := at_cells us _ (i * k + f) w hat
    rw [hset] at hat2
    have hgb : b ∈ bs := by rw [hbs]; simp [Value.ownBlock]
    have hturn : Turned w (w.setCells b (off + (i * k + f)) us) [b] := turned_cells b us _ w
    have hndb := h.mem.nodup _ _ hρ
    simp only at hndb
    rw [hbs] at hndb
    simp only [Value.ownBlock, Option.toList_some, List.singleton_append, List.nodup_cons, List.mem_append, not_or] at hndb
    obtain ⟨⟨g1, g2, g3⟩, hndc⟩ := hndb
    obtain ⟨m1, m23, m4⟩ := List.nodup_append.1 hndc
    obtain ⟨m2, m3, m5⟩ := List.nodup_append.1 m23
    have hbl := bsOf_nodup h.mem hnd
    have hap : ∀ x, x ∈ bs → x ∉ bsOf ρ (csOwn cs) := fun x hx hx2 => by
      obtain ⟨q', p', k1, k2, k3⟩ := bsOf_in hx2
      exact h.mem.apart q q' _ p' (fun e => hq (by rw [e]; exact k1)) hρ k2 x hx k3
    have hin1 : ∀ x, x ∈ c1 → x ∈ bs := fun x hx => by rw [hbs]; simp [hx]
    have hin3 : ∀ x, x ∈ c3 → x ∈ bs := fun x hx => by rw [hbs]; simp [hx]
    obtain ⟨ρ', e1, e2, e3⟩ := take_over (w' := w.setCells b (off + (i * k + f)) us) (id := q) h.mem (own_roots h.mem hr) hq (v := .slice (some ⟨b, off, none⟩) n' c) (bs' := b :: (c1 ++ bsOf ρ (csOwn cs) ++ c3)) (fun p hp => by rw [hρ] at hp; cases hp; rfl) (turned_more hturn (fun x hx => by obtain rfl := List.mem_singleton.1 hx; exact mem_bsOf (by simp) hρ hgb)) (fun x hx => .inl (by
        rcases List.mem_cons.1 hx with rfl | hx
        · exact mem_bsOf (by simp) hρ hgb
        · rcases List.mem_append.1 hx with hx | hx
          · rcases List.mem_append.1 hx with hx | hx
            · exact mem_bsOf (by simp) hρ (hin1 x hx)
            · exact bsOf_sub (fun y hy => by simp [hy]) x hx
          · exact mem_bsOf (by simp) hρ (hin3 x hx)))
      (List.nodup_cons.2 ⟨fun hx => by
        rcases List.mem_append.1 hx with hx | hx
        · rcases List.mem_append.1 hx with hx | hx
          · exact g1 hx
          · exact hap b hgb hx
        · exact g3 hx, List.nodup_append.2 ⟨List.nodup_append.2 ⟨m1, hbl, fun x hx y hy e => by subst e; exact hap x (hin1 x hx) hy⟩, m3, fun x hx y hy e => by
        subst e
        rcases List.mem_append.1 hx with hx | hx
        · exact m4 x hx x (List.mem_append_right _ hy) rfl
        · exact hap x (hin3 x hy) hx⟩⟩)
      (ob := .own (.row E k n' (putAt el i f ds))) (ob_own (by
        show Owns _ _ (.row E k n' (flat n' k (putAt el i f ds))) _ _
        rw [putAt_flat hdl hi hfm]
        simp only [Owns]
        refine ⟨v1 ++ us ++ v3, c1 ++ bsOf ρ (csOwn cs) ++ c3, hat2, E9.ownsL_app (E9.ownsL_app (ownsL_turned ho1 hturn (fun x hx hb => by obtain rfl := List.mem_singleton.1 hb; exact g1 hx)) (ownsL_turned hnew hturn (fun x hx hb => by obtain rfl := List.mem_singleton.1 hb; exact hap x hgb hx))) (ownsL_turned ho3 hturn (fun x hx hb => by obtain rfl := List.mem_singleton.1 hb; exact g3 hx)), by simp [Value.ownBlock]⟩))
    have h1u : ∀ v, v ∈ us → v.oneCell' = true := ownsL_one (fun u hu => by
      obtain ⟨d, hd, e⟩ := List.mem_map.1 hu
      cases d with
      | val u' => simp only [Da.dc, Dc.val.injEq] at e; subst e; exact hone _ hd
      | row _ _ _ _ => simp [Da.dc] at e) hnew
    refine goes_skip (w' := w.setCells b (off + (i * k + f)) us) ?_ ⟨ρ', e1, e2, rfl⟩
    have hst := run_storeCells_cells (P := P) b (off + (i * k + f)) us 0 w (fun j hj => by
      rw [hul] at hj
      have := hat.cellAt (i * k + f + j) (by omega)
      rw [Nat.add_zero, show off + (i * k + f) + j = off + (i * k + f + j) by omega, this]
      rw [List.getElem?_eq_getElem (by rw [hvl]; omega)]; rfl) (fun j hj => hat.frozenAt _) h1u
    rw [Nat.add_zero] at hst
    have hinf : ∃ inf, P.info? t = some inf ∧ inf.size = m := by
      unfold size? at hk
      cases hinf : P.info? t with
      | none => rw [hinf] at hk; cases hk
      | some inf => rw [hinf] at hk; exact ⟨inf, rfl, by simpa using hk⟩
    obtain ⟨inf, hinf, hsz⟩ := hinf
    have hpc : P.cellsOf t = m := by unfold Program.cellsOf; rw [hinf]; exact hsz
    have hrun : (Instr.storeAt t (.pointer (some ⟨b, off + (i * k + f), none⟩)) (.agg us.toArray)).run P w = .ok () (w.setCells b (off + (i * k + f)) us) := by
      have hcz : (Value.agg us.toArray).cells = us.toArray := rfl
      simp only [Instr.storeAt, Instr.sureAddr, Sem.run_bind, Sem.run_pure, Result.andThen_ok, storeVar, run_sizeOf (P := P) (w := w) hinf]
      rw [hpc, hcz, if_neg (by simp [hul])]
      exact hst
    unfold execOp
    rw [ho]
    simp only [hxe, hye, Sem.run_bind, hrun, Result.andThen_ok]
    rfl
end
theorem row_putAt {α : Type} {k n : Nat} {das : α → List Da} {z : α} {el : Nat → Nat → Da} {xs : List α} {i f : Nat} {ds : List Da} {y : α} (h : RowOf k das z n el xs) (he : ∀ j, j < k → (das y).getD j (.val undef) = putAt (fun _ j => (das (xs.getD i z)).getD j (.val undef)) i f ds i j) : RowOf k das z n (putAt el i f ds) (xs.set i y) := by
  obtain ⟨h1, h2⟩ := h
  refine ⟨by rw [List.length_set]; exact h1, fun a ha j hj => ?_⟩
  by_cases e : a = i
  · subst e
    have hg : (xs.set a y).getD a z = y := by rw [List.getD_eq_getElem?_getD, List.getElem?_set_self (by omega)]; rfl
    rw [hg, he j hj, putAt_if, putAt_if]
    split
    · rfl
    · exact h2 a ha j hj
  · have hg : (xs.set i y).getD a z = xs.getD a z := by rw [List.getD_eq_getElem?_getD, List.getElem?_set_ne (fun h => e h.symm), List.getD_eq_getElem?_getD]
    rw [hg, putAt_if, if_neg (fun h => e h.1)]
    exact h2 a ha j hj
/-- Some plain fields stored. -/
theorem cust_putV {P : Program} {o : Oper} {old : World → Prop} {id q : Nat} {t E : TypeId} {x y : Operand} {k n i f m : Nat} {el : Nat → Nat → Da} {us : List Value} (ho : o.op = .store t x y) (hk : size? P t = some m) (hcl : us.length = m) (hk0 : 0 < m) (hfm : f + m ≤ k) (hone : ∀ u ∈ us, u.oneCell' = true) :
    Cust P old id o [.one (.elo q k i f), .agg (us.map Sc.val)] [.own (.row E k n el)] ⟨[], .one (.val undef), [(q, .own (.row E k n (putAt el i f (us.map Da.val))))]⟩ := by
  have hown : csOwn (us.map Sc.val) = [] := by
    clear hcl hone
    induction us with
    | nil => rfl
    | cons u us ih => exact ih
  have hids : (us.map Sc.val).flatMap ScIds = [] := by
    clear hcl hone hown
    induction us with
    | nil => rfl
    | cons u us ih => rw [List.map_cons, List.flatMap_cons, ih]; rfl
  have h := cust_putF (P := P) (old := old) (id := id) (q := q) (E := E) (n := n) (i := i) (el := el) (cs := us.map Sc.val) (ds := us.map Da.val) (os := []) ho hk (by rw [List.length_map]; exact hcl) hk0 hfm (fun obs _ => by
    clear hcl hone hown hids
    induction us with
    | nil => trivial
    | cons u us ih =>
      cases us with
      | nil => exact rfl
      | cons u2 us2 => exact ⟨rfl, ih (by simp [List.flatMap_cons, ScIds])⟩) (by rw [hown]; exact List.nodup_nil) (by rw [hown]; simp) (by rw [hids]; rfl) (fun u hu => by
    obtain ⟨u', h1, h2⟩ := List.mem_map.1 hu
    cases h2
    exact hone _ h1)
  rw [hown] at h
  exact h

end Go.Proofs.Ytoedfeacpllkeaa.E28
