import Derived.Test.YtllaacdikjffmaaGreatEb
/-
  A symbolic run: rows of things that have rows of their own: a literal of one, one row appended to another, an element stored anew.
-/
namespace Go.Proofs.YtllaacdikjffmaaGreat.E26
open Go.ChangeShapes Go.WideShapes Go.ChangeAt Go.RowKit
open S0 S1 S9 Dm E0 E1 E2 E3 E4 E5 E7 E8 E9 E9e E10 E15 E16 E17 E18 E19 E20
set_option linter.unusedVariables false
set_option linter.unusedSimpArgs false
set_option maxRecDepth 100000
section
variable {P : Program} {W0 : World} {s : St} {ρ : Roots} {a : Act} {w w' : World} {obs : Nat → Ob} {o : Oper} {old : World → Prop} {id q r : Nat}
def goneO (ids : List Nat) : List (Nat × Ob) := ids.map fun q => (q, .gone)
/-- Objects pass away, their blocks are free. -/
theorem free_all : ∀ (ids : List Nat) (obs : Nat → Ob) (ρ : Roots), Mem W0 obs ρ w → (∀ q, q ∈ ids → ∃ p, ρ q = some p) →
    ∃ ρ', Le ρ ρ' ∧ Mem W0 (app obs (goneO ids)) ρ' w ∧ (∀ q, q ∉ ids → ρ' q = ρ q) ∧ (∀ q p, q ∈ ids → ρ' q = some p → p.2 = [])
  | [], obs, ρ, hm, _ => ⟨ρ, Le.refl _, hm, fun _ _ => rfl, fun q p h => by cases h⟩
  | q :: ids, obs, ρ, hm, h => by
    obtain ⟨p, hp⟩ := h q (by simp)
    have hr : ∀ p', ρ q = some p' → p'.1 = p.1 := fun p' hp' => by rw [hp] at hp'; cases hp'; rfl
    have hm1 : Mem W0 (upd obs q .gone) (upd ρ q (some (p.1, []))) w := hm.turn (cs := []) hr (turned_refl w _) (fun b hb => by cases hb) (fun _ _ _ _ _ _ hb => by cases hb) (fun b hb => by cases hb) (by simp) ⟨_, upd_same _ _ _⟩
    obtain ⟨ρ', h1, h2, h3, h4⟩ := free_all ids _ _ hm1 (fun q' hq' => by
      by_cases e : q' = q
      · subst e; exact ⟨_, upd_same _ _ _⟩
      · rw [upd_ne _ _ e]; exact h q' (by simp [hq']))
    refine ⟨ρ', (Le.upd ρ q p.1 [] hr).trans h1, h2, fun q' hq' => ?_, fun q' p' hq' hp' => ?_⟩
    · simp only [List.mem_cons, not_or] at hq'
      rw [h3 q' hq'.2, upd_ne _ _ hq'.1]
    · by_cases e : q' ∈ ids
      · exact h4 q' p' e hp'
      · rw [h3 q' e] at hp'
        obtain rfl : q' = q := by simpa [e] using hq'
        rw [upd_same] at hp'
        cases hp'; rfl
/-- Objects pass into another, that begins or stands already. -/
theorem take_over (h : Mem W0 obs ρ w) {ids : List Nat} (hids : ∀ q, q ∈ ids → ∃ p, ρ q = some p) (hni : id ∉ ids) {v : Value} {bs' : List Nat} (hr : ∀ p, ρ id = some p → p.1 = v) (ht : Turned w w' (bsOf ρ (id :: ids)))
    (hn : ∀ b, b ∈ bs' → b ∈ bsOf ρ (id :: ids) ∨ w.heap.size ≤ b) (hd : bs'.Nodup) {ob : Ob} (hob : ∀ ρ' : Roots, ρ' id = some (v, bs') → ObOK ρ' W0 w' id ob) :
    ∃ ρ', Le ρ ρ' ∧ Mem W0 (app obs (goneO ids ++ [(id, ob)])) ρ' w' ∧ ρ' id = some (v, bs') := by
  obtain ⟨ρ1, h1, h2, h3, h4⟩ := free_all ids obs ρ h hids
  have hr1 : ∀ p, ρ1 id = some p → p.1 = v := fun p hp => hr p (by rw [← h3 id hni]; exact hp)
  refine ⟨_, h1.trans (Le.upd ρ1 id v bs' hr1), ?_, upd_same _ _ _⟩
  rw [app_app]
  show Mem W0 (upd (app obs (goneO ids)) id ob) _ w'
  refine h2.turn hr1 ht (fun b hb => ?_) (fun q p hne hp b hb hb2 => ?_) hn hd (hob _ (upd_same _ _ _))
  · obtain ⟨q', p', _, k2, k3⟩ := bsOf_in hb
    exact (h.in_ k2 b k3).1
  · by_cases e : q ∈ ids
    · rw [h4 q p e hp] at hb; cases hb
    · rw [h3 q e] at hp
      obtain ⟨q', p', k1, k2, k3⟩ := bsOf_in hb2
      have hqq : q ≠ q' := fun e2 => by
        subst e2
        rcases List.mem_cons.1 k1 with k1 | k1
        · exact hne k1
        · exact e k1
      exact h.apart q q' p p' hqq hp k2 b hb k3
theorem mem_bsOf {p : Value × List Nat} {l : List Nat} {b : Nat} (hq : q ∈ l) (hp : ρ q = some p) (hb : b ∈ p.2) : b ∈ bsOf ρ l := by
  induction l with
  | nil => cases hq
  | cons x l ih =>
    show b ∈ (match ρ x with | some p => p.2 | none => []) ++ bsOf ρ l
    rcases List.mem_cons.1 hq with rfl | hq
    · rw [hp]; exact List.mem_append_left _ hb
    · exact List.mem_append_right _ (ih hq)
theorem bsOf_sub {l m : List Nat} (h : ∀ x, x ∈ l → x ∈ m) : ∀ b, b ∈ bsOf ρ l → b ∈ bsOf ρ m := fun b hb => by
  obtain ⟨q, p, h1, h2, h3⟩ := bsOf_in hb
  exact mem_bsOf (h q h1) h2 h3
/-- The objects of a struct's cells. -/
theorem own_cells : ∀ {cs : List Sc} {ds : List Da}, csRes obs cs ds → ∀ q, q ∈ csOwn cs → ∃ d, obs q = .own d
  | [], _, _, q, hq => by cases hq
  | c :: cs, [], h, q, hq => by cases cs <;> cases h
  | c :: cs, d :: ds, h, q, hq => by
    obtain ⟨h1, h2⟩ := csRes_cons h
    have ih := own_cells h2 q
    cases c with
    | own x =>
      rcases List.mem_cons.1 (show q ∈ x :: csOwn cs from hq) with rfl | hq
      · have h3 : match obs q with | .own d' => DaEq d' d | _ => False := by cases d <;> exact h1
        split at h3
        · next d' e => exact ⟨d', e⟩
        · cases h3
      · exact ih hq
    | _ => exact ih hq
theorem own_roots (hm : Mem W0 obs ρ w) {cs : List Sc} {ds : List Da} (h : csRes obs cs ds) : ∀ q, q ∈ csOwn cs → ∃ p, ρ q = some p := fun q hq => by
  obtain ⟨d, e⟩ := own_cells h q hq
  obtain ⟨r, bs, h1, _⟩ := own_of hm e
  exact ⟨_, h1⟩
theorem un_not (hm : Mem W0 obs ρ w) (hid : obs id = .un) {cs : List Sc} {ds : List Da} (h : csRes obs cs ds) : id ∉ csOwn cs := fun hq => by
  obtain ⟨d, e⟩ := own_cells h id hq
  rw [hid] at e; cases e
theorem un_none (hm : Mem W0 obs ρ w) (hid : obs id = .un) : ρ id = none := by have := hm.all id; rw [hid] at this; exact this
/-- The literal of one element. -/
def oneEl (ds : List Da) : Nat → Nat → Da := fun _ j => ds.getD j (.val undef)
theorem one_flat {ds : List Da} : flat 1 ds.length (oneEl ds) = ds.map Da.dc := by
  unfold flat oneEl
  rw [Nat.one_mul]
  apply List.ext_getElem (by simp)
  intro i h1 h2
  have hi : i < ds.length := by simpa using h2
  simp [Nat.mod_eq_of_lt hi, List.getElem?_eq_getElem hi]
theorem csRes_len : ∀ {cs : List Sc} {ds : List Da}, csRes obs cs ds → cs.length = ds.length
  | [], [], _ => rfl
  | [], _ :: _, h => by cases h
  | c :: cs, [], h => by cases cs <;> cases h
  | c :: cs, d :: ds, h => by rw [List.length_cons, List.length_cons, csRes_len (csRes_cons h).2]
theorem cust_lit {t E : TypeId} {x : Operand} {it : TypeInfo} {z : Value} {cs : List Sc} {ds : List Da} {os : List Ob} (ho : o.op = .buildSlice t 1 #[(0, x)]) (hu : P.underlying t = some (.slice E)) (hi : P.info? E = some it) (hz : it.zero = some z) (hzl : z.cells.toList.length = it.size)
    (h1 : 1 ≤ it.size) (h2 : it.size ≤ 1000) (hone : cs.all Sc.isOne = true) (hf : fillS (fun i => some (i * it.size, it.size)) ((List.range (1 * it.size)).map fun q => .val (z.cells.toList.getD (q % it.size) undef)) [(0, cs)] = some cs)
    (hcs : ∀ obs : Nat → Ob, (cs.flatMap ScIds).map obs = os → csRes obs cs ds) (hnd : (csOwn cs).Nodup) (hlen : os.length = (cs.flatMap ScIds).length) :
    Cust P old id o [.agg cs] os ⟨[], .one (.own id), goneO (csOwn cs) ++ [(id, .own (.row E it.size 1 (oneEl ds)))]⟩ where
  goes W0 s ρ a w hold h hvs hos hun hn := by
    have hnm : (([AV.agg cs] : List AV).flatMap AvIds).map s.obs = os := named_one hos (by rw [List.flatMap_cons, List.flatMap_nil, List.append_nil]; exact hlen)
    rw [List.flatMap_cons, List.flatMap_nil, List.append_nil] at hnm
    have hr := hcs s.obs hnm
    have hid := hun id (Nat.le_refl _) (by omega)
    have hx : St.ev s x = .agg cs := by
      rw [ho] at hvs
      simpa [Op.operands] using hvs
    have hps : partsC (St.ev s) [(0, x)] = some [(0, cs)] := by
      unfold partsC
      rw [hx]
      simp [partsC, AV.cells, hone]
    have hsl : it.size = ds.length := by
      have := csRes_len hr
      unfold fillS at hf
      simp only [Nat.zero_mul, Nat.zero_add] at hf
      split at hf
      · next hb =>
        rw [Bool.and_eq_true] at hb
        have := Nat.eq_of_beq_eq_true hb.1
        omega
      · cases hf
    have hsz : z.cells.size = it.size := by rw [← Array.length_toList]; exact hzl
    obtain ⟨C0, hC0⟩ : ∃ C0 : Array Value, C0 = (Array.range (1 * it.size)).map (z.cells[· % z.cells.size]!) := ⟨_, rfl⟩
    have hC : C0.toList = (List.range (1 * it.size)).map fun q => z.cells.toList.getD (q % it.size) undef := by
      rw [hC0, Array.toList_map, Array.toList_range]
      apply List.map_congr_left
      intro q hq
      have hlt : q % it.size < z.cells.size := by rw [hsz]; exact Nat.mod_lt _ (by omega)
      rw [hsz, getElem!_pos z.cells _ hlt]
      simp [List.getD_eq_getElem?_getD, hlt]
    obtain ⟨arr, k1, k2⟩ := fill_ok h (arr := C0) hps (by rw [hC]; have := cs_vals (ρ := ρ) (W0 := W0) ((List.range (1 * it.size)).map fun q => z.cells.toList.getD (q % it.size) undef); rw [List.map_map] at this; exact this) hf
    have hown := cs_res h.mem hr k2
    have hbl := bsOf_nodup h.mem hnd
    have hni := un_not h.mem hid hr
    have hnone := un_none h.mem hid
    have hasz : arr.size = it.size := by
      rw [← Array.length_toList, ownsL_len hown, List.length_map]; exact hsl.symm
    have hbw : Below w.heap.size w (w.alloc (.cells arr E)) := (Below.refl _ _).alloc (Nat.le_refl _) _
    have hin := ownsL_in _ _ _ hown
    obtain ⟨ρ', e1, e2, e3⟩ := take_over (w' := w.alloc (.cells arr E)) (id := id) h.mem (own_roots h.mem hr) hni (v := .slice (some ⟨w.heap.size, 0, none⟩) 1 1) (bs' := w.heap.size :: bsOf ρ (csOwn cs)) (fun p hp => by rw [hnone] at hp; cases hp) (turned_below hbw) (fun b hb => by
        rcases List.mem_cons.1 hb with rfl | hb
        · exact .inr (Nat.le_refl _)
        · exact .inl (bsOf_sub (fun x hx => by simp [hx]) b hb)) (List.nodup_cons.2 ⟨fun hb => by have := (hin _ hb).2; omega, hbl⟩)
      (ob := .own (.row E it.size 1 (oneEl ds))) (ob_own (by
        show Owns _ _ (.row E it.size 1 (flat 1 it.size (oneEl ds))) _ _
        rw [hsl, one_flat]
        simp only [Owns]
        refine ⟨arr.toList, bsOf ρ (csOwn cs), ⟨by rw [Array.length_toList, hasz, Nat.one_mul, hsl], .inr ⟨w.heap.size, 0, 1, arr, rfl, h.mem.below.size, heap_alloc_last w _, Nat.le_refl _, by decide, by rw [hasz, hsl]; omega, ?_, fun _ => rfl⟩⟩, ownsL_keep _ _ _ hown (fun b hb => hbw.block b (hin b hb).2), rfl⟩
        rw [List.drop_zero, Nat.one_mul, ← hsl, ← hasz, ← Array.length_toList, List.take_length]))
    refine goes_value (v := .slice (some ⟨w.heap.size, 0, none⟩) 1 1) (w' := w.alloc (.cells arr E)) ?_ ⟨ρ', e1, e2, rfl, _, e3⟩
    unfold execOp
    rw [ho]
    have hzv : (zeroValue E).run P w = .ok z w := by simp [zeroValue, typeInfo, hi, hz]
    have hfill : Instr.fill (fun i => some (i * it.size, it.size)) C0 ((#[((0 : Nat), x)]).map fun (i, x) => (i, a.eval x)).toList = some arr := by simpa using k1
    have hsz2 : P.cellsOf E = it.size := by unfold Program.cellsOf; rw [hi]; rfl
    simp only [Instr.buildSlice, Sem.run_bind, run_underlying hu w, Result.andThen_ok, run_sizeOf (P := P) (w := w) hi, hsz2]
    rw [if_neg (by omega), if_neg (by omega)]
    simp only [Sem.run_bind, hzv, Sem.run_pure, Result.andThen_ok]
    rw [← hC0, hfill]
    rfl
/-- Cells' plain values are of one cell each. -/
def OneEl (m k : Nat) (el : Nat → Nat → Da) : Prop := ∀ i, i < m → ∀ j, j < k → ∀ u, el i j = .val u → u.oneCell' = true
theorem ownsL_one : ∀ {ds : List Dc} {vs : List Value} {bs : List Nat} {lo : Nat}, (∀ u, Dc.val u ∈ ds → u.oneCell' = true) → OwnsL w lo ds vs bs → ∀ v, v ∈ vs → v.oneCell' = true
  | [], vs, bs, lo, _, h, v, hv => by simp only [OwnsL] at h; rw [h.1] at hv; cases hv
  | d :: ds, vs, bs, lo, hu, h, v, hv => by
    simp only [OwnsL] at h
    obtain ⟨x, vs', b1, b2, rfl, h1, h2, rfl⟩ := h
    rcases List.mem_cons.1 hv with rfl | hv
    · cases d with
      | val u => simp only [Owns] at h1; rw [h1.1]; exact hu u (by simp)
      | row E sz n cs => exact owns_one h1
    · exact ownsL_one (fun u hm => hu u (List.mem_cons_of_mem _ hm)) h2 v hv
theorem flat_one {m k : Nat} {el : Nat → Nat → Da} (hk : 0 < k) (h : OneEl m k el) : ∀ u, Dc.val u ∈ flat m k el → u.oneCell' = true := fun u hu => by
  unfold flat at hu
  obtain ⟨q, hq, e⟩ := List.mem_map.1 hu
  have hq := List.mem_range.1 hq
  have h1 := h (q / k) (by rw [Nat.div_lt_iff_lt_mul hk]; exact hq) (q % k) (Nat.mod_lt _ hk)
  cases e2 : el (q / k) (q % k) with
  | val u' => rw [e2] at e; simp only [Da.dc, Dc.val.injEq] at e; subst e; exact h1 _ e2
  | row _ _ _ _ => rw [e2] at e; simp [Da.dc] at e
theorem app_core {t ty E : TypeId} {i : TypeInfo} {z : Value} {n m : Nat} {el el2 : Nat → Nat → Da} {v u : Value} {bs br : List Nat} {ids : List Nat} {l : List Prop} (hm : Mem W0 obs ρ w) (hid : obs id = .un) (hids : ∀ q, q ∈ ids → ∃ p, ρ q = some p) (hni : id ∉ ids) (hbs : ∀ b, b ∈ bs ++ br → b ∈ bsOf ρ ids) (hnd : (bs ++ br).Nodup)
    (hox : Owns w W0.heap.size (.row E i.size n (flat n i.size el)) v bs) (hoy : Owns w W0.heap.size (.row E i.size m (flat m i.size el2)) u br) (hu : P.underlying t = some (.slice E)) (hi : P.info? E = some i) (hz : i.zero = some z) (hzs : z.cells.size = i.size) (h1 : 1 ≤ i.size) (hone : OneEl m i.size el2)
    (hn1 : n + m ≤ 1000000000000) (hn2 : (n + m) * i.bytes ≤ 140737488355328) :
    ∃ v' w', (Builtin.append_ #[t, t] ty #[v, u]).run P w = .ok v' w' ∧ EffPost W0 obs ρ ⟨l, .one (.own id), goneO ids ++ [(id, .own (.row E i.size (n + m) (appEl n el el2)))]⟩ v' w' := by
  have hnone := un_none hm hid
  have hflat2 : (Da.row E i.size (n + m) (appEl n el el2)).dc = .row E i.size (n + m) (flat n i.size el ++ flat m i.size el2) := by rw [← flat_app (by omega)]; rfl
  have hsub : ∀ b, b ∈ bs ++ br → b ∈ bsOf ρ (id :: ids) := fun b hb => bsOf_sub (fun x hx => by simp [hx]) b (hbs b hb)
  have hox2 := hox
  have hoy2 := hoy
  simp only [Owns] at hox2 hoy2
  obtain ⟨vs, b2, hat, hol, eb⟩ := hox2
  obtain ⟨news, c2, hat2, hol2, ec⟩ := hoy2
  obtain ⟨n1, n2, n3⟩ := List.nodup_append.1 hnd
  obtain ⟨A, cc, rfl⟩ := hat2.nil_form
  have hrd := hat2.rd
  have h1n := ownsL_one (flat_one (by omega) hone) hol2
  rcases Nat.eq_zero_or_pos m with hm0 | hm0
  · subst hm0
    have hz1 : v.oneCell' = true := owns_one hox
    obtain ⟨ρ', e1, e2, e3⟩ := take_over (w' := w) (id := id) hm hids hni (v := v) (bs' := bs) (fun p hp => by rw [hnone] at hp; cases hp) (turned_refl w _) (fun b hb => .inl (hsub b (List.mem_append_left _ hb))) n1 (ob := .own (.row E i.size (n + 0) (appEl n el el2))) (ob_own (by
      rw [hflat2, show flat 0 i.size el2 = [] by simp [flat], List.append_nil]
      exact hox))
    exact ⟨v, w, app_zero (P := P) hu hi hat A cc, ρ', e1, e2, hz1, _, e3⟩
  · obtain ⟨b, off, hA, hbh, hcell⟩ := hrd.2 hm0
    subst hA
    obtain ⟨g, goff, cap, w', hrun, hat3, hgr, hg, hgl⟩ := Ow.run_app (P := P) w W0.heap.size t ty E i z i.size i.bytes hu hi hz rfl rfl hzs (by omega) v n vs hat ⟨b, off, none⟩ m cc news hrd.1 (fun j u hj => by
      have hlt : j < m * i.size := by rw [← hrd.1]; exact (List.getElem?_eq_some_iff.1 hj).1
      rw [add_off, hcell j hlt]; exact hj) h1n hm0 (by unfold maxLen; omega) hn2 hm.below.size w.heap.size rfl
    have hturn : Turned w w' v.ownBlock.toList := turned_grown hgr
    have hvb : ∀ b, b ∈ v.ownBlock.toList → b ∈ bs := fun b hb => by rw [eb]; exact List.mem_append_left _ hb
    have hd1 : ∀ b, b ∈ b2 → b ∉ v.ownBlock.toList := fun b hb hb3 => by
      rw [eb] at n1
      exact (List.nodup_append.1 n1).2.2 b hb3 b hb rfl
    have hc2 : ∀ b, b ∈ c2 → b ∈ br := fun b hb => by rw [ec]; exact List.mem_append_right _ hb
    have hd2 : ∀ b, b ∈ c2 → b ∉ v.ownBlock.toList := fun b hb hb3 => n3 b (hvb b hb3) b (hc2 b hb) rfl
    have hb2n : b2.Nodup := by rw [eb] at n1; exact (List.nodup_append.1 n1).2.1
    have hc2n : c2.Nodup := by rw [ec] at n2; exact (List.nodup_append.1 n2).2.1
    have hb2s : ∀ b, b ∈ b2 → b ∈ bs := fun b hb => by rw [eb]; exact List.mem_append_right _ hb
    have hgn : g ∉ b2 ++ c2 := fun hb => by
      rcases hg with hg | hg
      · have hgv : g ∈ v.ownBlock.toList := by rw [hg]; simp
        rcases List.mem_append.1 hb with hb | hb
        · exact hd1 g hb hgv
        · exact hd2 g hb hgv
      · rcases List.mem_append.1 hb with hb | hb
        · have := (ownsL_in _ _ _ hol g hb).2; omega
        · have := (ownsL_in _ _ _ hol2 g hb).2; omega
    obtain ⟨ρ', e1, e2, e3⟩ := take_over (w' := w') (id := id) hm hids hni (v := .slice (some ⟨g, goff, none⟩) (n + m) cap) (bs' := g :: (b2 ++ c2)) (fun p hp => by rw [hnone] at hp; cases hp) (turned_more hturn (fun b hb => hsub b (List.mem_append_left _ (hvb b hb)))) (fun b hb => by
        rcases List.mem_cons.1 hb with rfl | hb
        · rcases hg with hg | hg
          · exact .inl (hsub _ (List.mem_append_left _ (hvb _ (by rw [hg]; simp))))
          · exact .inr (by omega)
        · rcases List.mem_append.1 hb with hb | hb
          · exact .inl (hsub b (List.mem_append_left _ (hb2s b hb)))
          · exact .inl (hsub b (List.mem_append_right _ (hc2 b hb))))
      (List.nodup_cons.2 ⟨hgn, List.nodup_append.2 ⟨hb2n, hc2n, fun x hx y hy e => n3 x (hb2s x hx) y (hc2 y hy) e⟩⟩) (ob := .own (.row E i.size (n + m) (appEl n el el2))) (ob_own (by
        rw [hflat2]
        simp only [Owns]
        exact ⟨vs ++ news, b2 ++ c2, hat3, E9.ownsL_app (ownsL_turned hol hturn hd1) (ownsL_turned hol2 hturn hd2), rfl⟩))
    exact ⟨_, w', hrun, ρ', e1, e2, rfl, _, e3⟩
theorem exec_app {c : Call} {t : TypeId} {x y : Operand} {v u v' : Value} (ho : o.op = .call c) (hc : c.callee = .builtin .append) (ha : c.args = #[x, y]) (ht : c.argTypes = #[t, t]) (hx : a.eval x = v) (hy : a.eval y = u) (hr : (Builtin.append_ #[t, t] o.type #[v, u]).run P w = .ok v' w') : (execOp a.eval o).run P w = .ok (.value v') w' := by
  unfold execOp
  simp only [ho, resolve, hc, ha, ht, invoke, builtin, Sem.run_bind, Sem.run_pure, Result.andThen_ok, List.map_toArray, List.map_cons, List.map_nil, hx, hy, hr]
theorem app_ops {c : Call} {x y : Operand} (ho : o.op = .call c) (hc : c.callee = .builtin .append) (ha : c.args = #[x, y]) : o.op.operands.toList = [x, y] := by
  rw [ho]; simp [Op.operands, Call.operands, hc, ha]
theorem cust_app {c : Call} {t E : TypeId} {x y : Operand} {i : TypeInfo} {z : Value} {n m : Nat} {el el2 : Nat → Nat → Da} (ho : o.op = .call c) (hc : c.callee = .builtin .append) (ha : c.args = #[x, y]) (ht : c.argTypes = #[t, t]) (hu : P.underlying t = some (.slice E)) (hi : P.info? E = some i) (hz : i.zero = some z) (hzs : z.cells.size = i.size) (h1 : 1 ≤ i.size) (hqr : q ≠ r) (hone : OneEl m i.size el2) :
    Cust P old id o [.one (.own q), .one (.own r)] [.own (.row E i.size n el), .own (.row E i.size m el2)] ⟨[n + m ≤ 1000000000000, (n + m) * i.bytes ≤ 140737488355328], .one (.own id), goneO [q, r] ++ [(id, .own (.row E i.size (n + m) (appEl n el el2)))]⟩ where
  goes W0 s ρ a w hold h hvs hos hun hn := by
    have hnm := named_one hos rfl
    simp only [List.flatMap_cons, List.flatMap_nil, AvIds, ScIds, List.append_nil, List.cons_append, List.nil_append, List.map_cons, List.map_nil, List.cons.injEq, and_true] at hnm
    obtain ⟨oq, or_⟩ := hnm
    rw [app_ops ho hc ha] at hvs
    simp only [List.map_cons, List.map_nil, List.cons.injEq, and_true] at hvs
    have hx := ev_ok h x
    have hy := ev_ok h y
    rw [hvs.1] at hx
    rw [hvs.2] at hy
    obtain ⟨_, bq, hρq⟩ := hx
    obtain ⟨_, br, hρr⟩ := hy
    obtain ⟨rq, bq', hρq', hown⟩ := own_of h.mem oq
    rw [hρq] at hρq'
    cases hρq'
    obtain ⟨rr, br', hρr', hown2⟩ := own_of h.mem or_
    rw [hρr] at hρr'
    cases hρr'
    have hid := hun id (Nat.le_refl _) (by omega)
    have hni : id ∉ [q, r] := fun hm => by
      have hnone := un_none h.mem hid
      rcases List.mem_cons.1 hm with rfl | hm
      · rw [hnone] at hρq; cases hρq
      · obtain rfl := List.mem_singleton.1 hm
        rw [hnone] at hρr; cases hρr
    obtain ⟨hn1, hn2⟩ := hn
    obtain ⟨v', w', hr, hp⟩ := app_core (P := P) (t := t) (ty := o.type) (l := [n + m ≤ 1000000000000, (n + m) * i.bytes ≤ 140737488355328]) h.mem hid (ids := [q, r]) (fun x hx => by
      rcases List.mem_cons.1 hx with rfl | hx
      · exact ⟨_, hρq⟩
      · obtain rfl := List.mem_singleton.1 hx; exact ⟨_, hρr⟩) hni (fun b hb => by
      rcases List.mem_append.1 hb with hb | hb
      · exact mem_bsOf (by simp) hρq hb
      · exact mem_bsOf (by simp) hρr hb) (List.nodup_append.2 ⟨h.mem.nodup _ _ hρq, h.mem.nodup _ _ hρr, fun x hx y hy e => by subst e; exact h.mem.apart q r _ _ hqr hρq hρr x hx hy⟩) hown hown2 hu hi hz hzs h1 hone hn1 hn2
    exact goes_value (exec_app ho hc ha ht rfl rfl hr) hp
/-- Element i is ds now. -/
def putRow (el : Nat → Nat → Da) (i : Nat) (ds : List Da) : Nat → Nat → Da := fun a b => match Nat.beq a i with | true => ds.getD b (.val undef) | false => el a b
theorem ownsL_split {lo : Nat} : ∀ {ds es : List Dc} {vs : List Value} {bs : List Nat}, OwnsL w lo (ds ++ es) vs bs → ∃ v1 v2 b1 b2, vs = v1 ++ v2 ∧ OwnsL w lo ds v1 b1 ∧ OwnsL w lo es v2 b2 ∧ bs = b1 ++ b2
  | [], es, vs, bs, h => ⟨[], vs, [], bs, rfl, by simp [OwnsL], h, rfl⟩
  | d :: ds, es, vs, bs, h => by
    simp only [List.cons_append, OwnsL] at h
    obtain ⟨v, vs', c1, c2, rfl, h1, h2, rfl⟩ := h
    obtain ⟨v1, v2, b1, b2, rfl, k1, k2, rfl⟩ := ownsL_split h2
    exact ⟨v :: v1, v2, c1 ++ b1, b2, rfl, by simp only [OwnsL]; exact ⟨v, v1, c1, b1, rfl, h1, k1, rfl⟩, k2, by rw [List.append_assoc]⟩
def setL : List Value → Nat → List Value → List Value
  | xs, _, [] => xs
  | xs, j, u :: us => setL (xs.set j u) (j + 1) us
theorem setL_is : ∀ (us xs : List Value) (j : Nat), j + us.length ≤ xs.length → setL xs j us = xs.take j ++ us ++ xs.drop (j + us.length)
  | [], xs, j, _ => by simp [setL]
  | u :: us, xs, j, h => by
    simp only [List.length_cons] at h
    unfold setL
    rw [setL_is us (xs.set j u) (j + 1) (by rw [List.length_set]; omega)]
    have hj : j < xs.length := by omega
    rw [List.set_eq_take_append_cons_drop, if_pos hj]
    have hl : (xs.take j).length = j := by rw [List.length_take]; omega
    rw [List.take_append, List.drop_append, hl, show j + 1 - j = 1 by omega, show j + 1 + us.length - j = us.length + 1 by omega]
    rw [List.take_of_length_le (by omega : (xs.take j).length ≤ j + 1), List.drop_eq_nil_of_le (by omega : (xs.take j).length ≤ j + 1 + us.length)]
    simp only [List.take_succ_cons, List.take_zero, List.drop_succ_cons, List.drop_drop, List.nil_append, List.append_assoc, List.cons_append, List.length_cons]
    rw [show j + 1 + us.length = j + (us.length + 1) by omega]
theorem at_cells {base g off n cap size : Nat} {e : TypeId} : ∀ (us xs : List Value) (j : Nat) (w : World), Ow.At w base e size (.slice (some ⟨g, off, none⟩) n cap) n xs → Ow.At (w.setCells g (off + j) us) base e size (.slice (some ⟨g, off, none⟩) n cap) n (setL xs j us)
  | [], xs, j, w, h => h
  | u :: us, xs, j, w, h => at_cells us (xs.set j u) (j + 1) _ (h.stored j u).1
theorem put_flat {n k i : Nat} {el : Nat → Nat → Da} {ds : List Da} (hk : ds.length = k) (hi : i < n) : flat n k (putRow el i ds) = (flat n k el).take (i * k) ++ ds.map Da.dc ++ (flat n k el).drop (i * k + k) := by
  have hik : i * k + k ≤ n * k := by have := Nat.mul_le_mul_right k (show i + 1 ≤ n from hi); rw [Nat.add_mul, Nat.one_mul] at this; exact this
  have hlen : ∀ f, (flat n k f).length = n * k := fun f => by unfold flat; simp
  apply List.ext_getElem?
  intro p
  rw [List.append_assoc, List.getElem?_append, List.length_take, hlen, show min (i * k) (n * k) = i * k by omega]
  have hget : ∀ f : Nat → Nat → Da, ∀ p, p < n * k → (flat n k f)[p]? = some (f (p / k) (p % k)).dc := fun f p hp => by unfold flat; rw [List.getElem?_map, List.getElem?_range hp]; rfl
  by_cases h1 : p < i * k
  · rw [if_pos h1, List.getElem?_take_of_lt h1, hget _ p (by omega), hget _ p (by omega)]
    have hne : Nat.beq (p / k) i = false := by
      cases hb : Nat.beq (p / k) i with
      | false => rfl
      | true =>
        have := Nat.eq_of_beq_eq_true hb
        have := Nat.div_mul_le_self p k
        subst i
        omega
    unfold putRow
    rw [hne]
  · rw [if_neg h1, List.getElem?_append, List.length_map, hk]
    by_cases h2 : p - i * k < k
    · rw [if_pos h2, hget _ p (by omega), List.getElem?_map, List.getElem?_eq_getElem (by omega)]
      have hq : p / k = i := by
        rw [Nat.div_eq_iff (by omega)]
        rw [Nat.mul_comm] at *
        constructor <;> omega
      have hr : p % k = p - i * k := by
        have := Nat.div_add_mod p k
        rw [hq, Nat.mul_comm] at this
        omega
      unfold putRow
      rw [hq, Nat.beq_refl, hr]
      simp [List.getD_eq_getElem?_getD, List.getElem?_eq_getElem (show p - i * k < ds.length by omega)]
    · rw [if_neg h2, List.getElem?_drop, show i * k + k + (p - i * k - k) = p by omega]
      by_cases h3 : p < n * k
      · rw [hget _ p h3, hget _ p h3]
        have hne : Nat.beq (p / k) i = false := by
          cases hb : Nat.beq (p / k) i with
          | false => rfl
          | true =>
            have e := Nat.eq_of_beq_eq_true hb
            have h4 := Nat.div_add_mod p k
            have h5 := Nat.mod_lt p (show 0 < k by
              rcases Nat.eq_zero_or_pos k with h0 | h0
              · subst h0; simp at h3
              · exact h0)
            rw [e, Nat.mul_comm] at h4
            omega
        unfold putRow
        rw [hne]
      · rw [List.getElem?_eq_none (by rw [hlen]; omega), List.getElem?_eq_none (by rw [hlen]; omega)]
theorem cust_put {t E : TypeId} {x y : Operand} {k n i : Nat} {el : Nat → Nat → Da} {cs : List Sc} {ds : List Da} {os : List Ob} (ho : o.op = .store t x y) (hk : size? P t = some k) (hcl : cs.length = k) (hk0 : 0 < k)
    (hcs : ∀ obs : Nat → Ob, (cs.flatMap ScIds).map obs = os → csRes obs cs ds) (hnd : (csOwn cs).Nodup) (hq : q ∉ csOwn cs) (hlen : os.length = (cs.flatMap ScIds).length) (hone : ∀ u, Da.val u ∈ ds → u.oneCell' = true) :
    Cust P old id o [.one (.elo q k i 0), .agg cs] (.own (.row E k n el) :: os) ⟨[], .one (.val undef), goneO (csOwn cs) ++ [(q, .own (.row E k n (putRow el i ds)))]⟩ where
  goes W0 s ρ a w hold h hvs hos hun hn := by
    have hnm := named_one hos (by simp [List.flatMap_cons, AvIds, ScIds, hlen])
    simp only [List.flatMap_cons, List.flatMap_nil, AvIds, ScIds, List.append_nil, List.cons_append, List.nil_append, List.map_cons, List.cons.injEq] at hnm
    obtain ⟨oq, hnm⟩ := hnm
    have hr := hcs s.obs hnm
    rw [ho] at hvs
    simp only [Op.operands, List.map_cons, List.map_nil, List.cons.injEq, and_true] at hvs
    have hx := ev_ok h x
    have hy := ev_ok h y
    rw [hvs.1] at hx
    rw [hvs.2] at hy
    obtain ⟨b, off, n', c, bs, hρ, hi, hxe⟩ := hx
    obtain ⟨us, hye, hcok⟩ := hy
    rw [Nat.add_zero] at hxe
    obtain ⟨r', bs', hρ', hown⟩ := own_of h.mem oq
    rw [hρ] at hρ'
    cases hρ'
    simp only [Da.dc, Owns] at hown
    obtain ⟨vs, b2, hat, hol, hbs⟩ := hown
    have hn : n' = n := by obtain ⟨A, c', e5⟩ := hat.nil_form; injection e5
    subst hn
    have hol : OwnsL w W0.heap.size (flat n' k el) vs b2 := hol
    have hlenf : (flat n' k el).length = n' * k := by unfold flat; simp
    have hik : i * k + k ≤ n' * k := by have := Nat.mul_le_mul_right k (show i + 1 ≤ n' from hi); rw [Nat.add_mul, Nat.one_mul] at this; exact this
    have hvl : vs.length = n' * k := hat.1
    have hnew := cs_res h.mem hr hcok
    have hul : us.length = k := by rw [ownsL_len hnew, List.length_map, ← csRes_len hr, hcl]
    have hdl : ds.length = k := by rw [← csRes_len hr, hcl]
    -- the cells apart
    have e0 : flat n' k el = (flat n' k el).take (i * k) ++ (((flat n' k el).drop (i * k)).take k ++ (flat n' k el).drop (i * k + k)) := by
      rw [← List.drop_drop, List.take_append_drop, List.take_append_drop]
    rw [e0] at hol
    obtain ⟨v1, v23, c1, c23, rfl, ho1, ho23, rfl⟩ := ownsL_split hol
    obtain ⟨v2, v3, c2, c3, rfl, ho2, ho3, rfl⟩ := ownsL_split ho23
    have l1 : v1.length = i * k := by rw [ownsL_len ho1, List.length_take, hlenf]; omega
    have l2 : v2.length = k := by rw [ownsL_len ho2, List.length_take, List.length_drop, hlenf]; omega
    have hset : setL (v1 ++ (v2 ++ v3)) (i * k) us = v1 ++ us ++ v3 := by
      rw [setL_is us _ _ (by rw [hvl, hul]; exact hik), hul, List.take_left' l1, ← List.append_assoc v1 v2 v3, List.drop_left' (by rw [List.length_append, l1, l2])]
    have hat2 := at_cells us _ (i * k) w hat
    rw [hset] at hat2
    have hgb : b ∈ bs := by rw [hbs]; simp [Value.ownBlock]
    have hturn : Turned w (w.setCells b (off + i * k) us) [b] := turned_cells b us _ w
    have hndb := h.mem.nodup _ _ hρ
    simp only at hndb
    rw [hbs] at hndb
    simp only [Value.ownBlock, Option.toList_some, List.singleton_append, List.nodup_cons, List.mem_append, not_or] at hndb
    obtain ⟨⟨g1, g2, g3⟩, hndc⟩ := hndb
    obtain ⟨m1, m23, m4⟩ := List.nodup_append.1 hndc
    obtain ⟨m2, m3, m5⟩ := List.nodup_append.1 m23
    have hbl := bsOf_nodup h.mem hnd
    have hap : ∀ x, x ∈ bs → x ∉ bsOf ρ (csOwn cs) := fun x hx hx2 => by
      obtain ⟨q', p', k1, k2, k3⟩ := bsOf_in hx2
      exact h.mem.apart q q' _ p' (fun e => hq (by rw [e]; exact k1)) hρ k2 x hx k3
    have hin1 : ∀ x, x ∈ c1 → x ∈ bs := fun x hx => by rw [hbs]; simp [hx]
    have hin3 : ∀ x, x ∈ c3 → x ∈ bs := fun x hx => by rw [hbs]; simp [hx]
    obtain ⟨ρ', e1, e2, e3⟩ := take_over (w' := w.setCells b (off + i * k) us) (id := q) h.mem (own_roots h.mem hr) hq (v := .slice (some ⟨b, off, none⟩) n' c) (bs' := b :: (c1 ++ bsOf ρ (csOwn cs) ++ c3)) (fun p hp => by rw [hρ] at hp; cases hp; rfl) (turned_more hturn (fun x hx => by obtain rfl := List.mem_singleton.1 hx; exact mem_bsOf (by simp) hρ hgb)) (fun x hx => .inl (by
        rcases List.mem_cons.1 hx with rfl | hx
        · exact mem_bsOf (by simp) hρ hgb
        · rcases List.mem_append.1 hx with hx | hx
          · rcases List.mem_append.1 hx with hx | hx
            · exact mem_bsOf (by simp) hρ (hin1 x hx)
            · exact bsOf_sub (fun y hy => by simp [hy]) x hx
          · exact mem_bsOf (by simp) hρ (hin3 x hx)))
      (List.nodup_cons.2 ⟨fun hx => by
        rcases List.mem_append.1 hx with hx | hx
        · rcases List.mem_append.1 hx with hx | hx
          · exact g1 hx
          · exact hap b hgb hx
        · exact g3 hx, List.nodup_append.2 ⟨List.nodup_append.2 ⟨m1, hbl, fun x hx y hy e => by subst e; exact hap x (hin1 x hx) hy⟩, m3, fun x hx y hy e => by
        subst e
        rcases List.mem_append.1 hx with hx | hx
        · exact m4 x hx x (List.mem_append_right _ hy) rfl
        · exact hap x (hin3 x hy) hx⟩⟩)
      (ob := .own (.row E k n' (putRow el i ds))) (ob_own (by
        show Owns _ _ (.row E k n' (flat n' k (putRow el i ds))) _ _
        rw [put_flat hdl hi]
        simp only [Owns]
        refine ⟨v1 ++ us ++ v3, c1 ++ bsOf ρ (csOwn cs) ++ c3, hat2, E9.ownsL_app (E9.ownsL_app (ownsL_turned ho1 hturn (fun x hx hb => by obtain rfl := List.mem_singleton.1 hb; exact g1 hx)) (ownsL_turned hnew hturn (fun x hx hb => by obtain rfl := List.mem_singleton.1 hb; exact hap x hgb hx))) (ownsL_turned ho3 hturn (fun x hx hb => by obtain rfl := List.mem_singleton.1 hb; exact g3 hx)), by simp [Value.ownBlock]⟩))
    have h1u : ∀ v, v ∈ us → v.oneCell' = true := ownsL_one (fun u hu => by
      obtain ⟨d, hd, e⟩ := List.mem_map.1 hu
      cases d with
      | val u' => simp only [Da.dc, Dc.val.injEq] at e; subst e; exact hone _ hd
      | row _ _ _ _ => simp [Da.dc] at e) hnew
    refine goes_skip (w' := w.setCells b (off + i * k) us) ?_ ⟨ρ', e1, e2, rfl⟩
    have hst := run_storeCells_cells (P := P) b (off + i * k) us 0 w (fun j hj => by
      rw [hul] at hj
      have := hat.cellAt (i * k + j) (by omega)
      rw [Nat.add_zero, show off + i * k + j = off + (i * k + j) by omega, this]
      rw [List.getElem?_eq_getElem (by rw [hvl]; omega)]; rfl) (fun j hj => hat.frozenAt _) h1u
    rw [Nat.add_zero] at hst
    have hinf : ∃ inf, P.info? t = some inf ∧ inf.size = k := by
      unfold size? at hk
      cases hinf : P.info? t with
      | none => rw [hinf] at hk; cases hk
      | some inf => rw [hinf] at hk; exact ⟨inf, rfl, by simpa using hk⟩
    obtain ⟨inf, hinf, hsz⟩ := hinf
    have hpc : P.cellsOf t = k := by unfold Program.cellsOf; rw [hinf]; exact hsz
    have hrun : (Instr.storeAt t (.pointer (some ⟨b, off + i * k, none⟩)) (.agg us.toArray)).run P w = .ok () (w.setCells b (off + i * k) us) := by
      have hcz : (Value.agg us.toArray).cells = us.toArray := rfl
      simp only [Instr.storeAt, Instr.sureAddr, Sem.run_bind, Sem.run_pure, Result.andThen_ok, storeVar, run_sizeOf (P := P) (w := w) hinf]
      rw [hpc, hcz, if_neg (by simp [hul])]
      exact hst
    unfold execOp
    rw [ho]
    simp only [hxe, hye, Sem.run_bind, hrun, Result.andThen_ok]
    rfl
end
end Go.Proofs.YtllaacdikjffmaaGreat.E26
