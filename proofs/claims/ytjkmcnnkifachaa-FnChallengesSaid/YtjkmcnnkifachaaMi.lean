/-
  Chapter 12's map of challenges: contracts of the program's helpers, and what the symbolic run makes of them.
-/
import Derived.Test.YtjkmcnnkifachaaT12j
import Derived.Test.YtjkmcnnkifachaaMq
import Derived.Test.YtjkmcnnkifachaaC12f
namespace Go.Proofs.Ytjkmcnnkifachaa.Mi
open Go.ChangeShapes Go.WideShapes Go.ChangeAt Go.RowKit
open S0 S1 S9 Dm Fx M3 C3 C12 C12b C12c C12d C12e C12f E0 E1 E2 E3 E4 E7 E10 E15 E16 E17 E18 E19 E20 Das Mp Mc Mk Mr Mq T12i T12j
set_option linter.unusedVariables false
set_option linter.unusedSimpArgs false
set_option maxRecDepth 100000
def dropI (l : List Fx.Challenge) (i : Int) : List Fx.Challenge := l.filter fun x => !(x.Id == i)
def keepT (l : List Fx.Challenge) (t : Int) : List Fx.Challenge := l.filter fun x => decide (t ≤ x.Until)
def hasI (l : List Fx.Challenge) (i : Int) : Bool := l.any fun x => x.Id == i
theorem asc_of : ∀ {l : List Fx.Challenge}, (∀ (j : Nat) (x y : Fx.Challenge), l[j]? = some x → l[j + 1]? = some y → x.Id < y.Id) → Asc l
  | [], _ => List.Pairwise.nil
  | [x], _ => List.pairwise_singleton _ _
  | x :: y :: l, h => by
    have ih : Asc (y :: l) := asc_of fun j u v h1 h2 => h (j + 1) u v (by simpa using h1) (by simpa using h2)
    have hxy := h 0 x y rfl rfl
    refine List.pairwise_cons.2 ⟨fun z hz => ?_, ih⟩
    rcases List.mem_cons.1 hz with rfl | hz
    · exact hxy
    · have := (List.pairwise_cons.1 ih).1 z hz
      omega
theorem vbk_asc {b : Fx.ChallengeBook} (h : vbk b = true) : Asc b.Open ∧ inI b.Open ∧ b.Open.length ≤ 16 ∧ 0 ≤ b.Next ∧ b.Next ≤ 1000000 := by
  obtain ⟨h1, h2, h3⟩ := vbk_parts h
  unfold vbk at h
  rw [Bool.and_eq_true, Bool.and_eq_true] at h
  have ho := okB_ok h.1.1
  refine ⟨asc_of ho.2, fun x hx => ?_, h3, h1, h2⟩
  have := (ho.1 x hx).1
  rw [IntWalk.i64_in _ (by omega)] at this
  omega
theorem drop_at {l : List Fx.Challenge} (h : Asc l) {i : Int} {k : Nat} (hk : posC l i = some k) : l.take k ++ l.drop (k + 1) = dropI l i := by
  unfold posC at hk
  induction l generalizing k with
  | nil => cases hk
  | cons x l ih =>
    have h' := List.pairwise_cons.1 h
    by_cases hx : x.Id = i
    · rw [List.findIdx?_cons, if_pos (by simpa using hx)] at hk
      cases hk
      unfold dropI
      rw [List.filter_cons_of_neg (by simpa using hx), List.filter_eq_self.2 (fun y hy => by have := h'.1 y hy; simp; omega)]
      rfl
    · rw [List.findIdx?_cons, if_neg (by simpa using hx)] at hk
      cases hf : l.findIdx? (fun x => x.Id == i) with
      | none => rw [hf] at hk; cases hk
      | some j =>
        rw [hf] at hk
        cases hk
        unfold dropI
        rw [List.filter_cons_of_pos (by simpa using hx)]
        show x :: (l.take j ++ l.drop (j + 1)) = _
        rw [ih h'.2 hf]
        rfl
theorem fnd_pos {l : List Fx.Challenge} {i : Int} {k : Nat} (hk : posC l i = some k) : l[k]? = some (fnd l i) := by
  unfold posC at hk
  obtain ⟨h1, h2, h3⟩ := List.findIdx?_eq_some_iff_getElem.1 hk
  unfold fnd
  rw [List.getElem?_eq_getElem h1, show l.find? (fun y => y.Id == i) = some l[k] from (List.find?_eq_some_iff_getElem.2 ⟨h2, k, h1, rfl, fun j hj => by simpa using h3 j hj⟩)]
  rfl
theorem has_some {l : List Fx.Challenge} {i : Int} (h : hasI l i = true) : ∃ k, posC l i = some k := by
  unfold hasI at h
  unfold posC
  cases e : l.findIdx? (fun x => x.Id == i) with
  | some k => exact ⟨k, rfl⟩
  | none =>
    rw [List.findIdx?_eq_none_iff] at e
    obtain ⟨x, hx, hi⟩ := List.any_eq_true.1 h
    rw [e x hx] at hi
    cases hi
theorem has_none {l : List Fx.Challenge} {i : Int} (h : hasI l i = false) : posC l i = none := by
  unfold hasI at h
  unfold posC
  rw [List.findIdx?_eq_none_iff]
  intro x hx
  have := List.any_eq_false.1 h x hx
  simpa using this
theorem row_shs {w : World} {hi n c : Nat} {A : Option Addr} {l : List Fx.Challenge} (h : Shs w hi (rowR 30 3 dasChallenge zChallenge l).dc (.slice A n c)) : Shs w hi (rowR 30 3 dasChallenge zChallenge l).dc (.slice A n c) := h
theorem arg_one {ρ : Roots} {W0 w : World} {d : Da} {v : Value} (hm : Below W0.heap.size W0 w) (h : Shs W0 W0.heap.size d.dc v) : Shs w w.heap.size d.dc v := shs_on h hm
theorem byId_c (w : World) (v : Value) (l : List Fx.Challenge) (hn : l.length ≤ 16000000) (ha : Asc l) (hw : inI l) (h : Shs w w.heap.size (rowR 30 3 dasChallenge zChallenge l).dc v) :
    Calls Try.prog 42 #[v] w fun e w' => ∃ r bs, e = .returned r ∧ MapIs l.length l r bs w' ∧ (∀ b, b ∈ bs → w.heap.size ≤ b ∧ b < w'.heap.size) ∧ bs.Nodup ∧ Below w.heap.size w w' :=
  (go_ok (byC l) (byL l) Try.func42 (by kernel_rfl) (by kernel_rfl) (wpById l hn ha hw) (vs := [v]) trivial rfl (fun i av hi => by
    match i, hi with
    | 0, hi => cases hi; exact ⟨v, rfl, h⟩
    | i + 1, hi => cases hi) (R := fun us w' => ∃ r bs, us = [r] ∧ MapIs l.length l r bs w' ∧ (∀ b, b ∈ bs → w.heap.size ≤ b ∧ b < w'.heap.size) ∧ bs.Nodup ∧ Below w.heap.size w w') fun e s ρ a w' hk hs => retA_ok hk hs).mono fun e w' ⟨us, h1, r, bs, h2, h3⟩ => ⟨r, bs, by rw [h1, h2]; rfl, h3⟩
theorem ret_one {fn : Func} {g : List Grp} {w : World} {e : Exit} {s : St} {ρ : Roots} {a : Act} {w' : World} (hk : retK Try.prog fn.results.toList g e s) (hs : Sat w s ρ a w') : (e = .ret ∨ e = .normal) ∧ ∃ gs, resCells Try.prog s fn.results.toList = some gs ∧ ∀ us, TsOK ρ w gs us → ∃ bs, ResOK w' w.heap.size g us bs ∧ bs.Nodup ∧ Below w.heap.size w w' := by
  have fin : (match resCells Try.prog s fn.results.toList with | some gs => (match nodupB (grpOwn gs) with | true => grpsRes s.obs gs g | false => False) | none => False) →
      ∃ gs, resCells Try.prog s fn.results.toList = some gs ∧ ∀ us, TsOK ρ w gs us → ∃ bs, ResOK w' w.heap.size g us bs ∧ bs.Nodup ∧ Below w.heap.size w w' := fun hk => by
    split at hk
    · next gs hg =>
      split at hk
      · next hnd => exact ⟨gs, hg, fun us h2 => ⟨_, grps_res hs.mem hk h2, bsOf_nodup hs.mem (nodupB_ok hnd), hs.mem.below⟩⟩
      · cases hk
    · cases hk
  cases e with
  | ret => exact ⟨.inl rfl, fin hk⟩
  | normal => exact ⟨.inr rfl, fin hk⟩
  | _ => cases hk
theorem inOrder_c (w : World) (b n : Nat) (l : List Fx.Challenge) (hn : l.length ≤ 16000000) (ha : Asc l) (hw : inI l) (h : Lies w b n l) :
    Calls Try.prog 43 #[.map (some b)] w fun e w' => ∃ v bs, e = .returned v ∧ Owns w' w.heap.size (rowR 30 3 dasChallenge zChallenge l).dc v bs ∧ bs.Nodup ∧ Below w.heap.size w w' :=
  (go_ok (inC l b n) (inL l) Try.func43 (by kernel_rfl) (by kernel_rfl) (wpIn l b n hn ha hw) (vs := [.map (some b)]) h rfl (fun i av hi => by
    match i, hi with
    | 0, hi => cases hi; exact ⟨_, rfl, rfl⟩
    | i + 1, hi => cases hi) (R := fun us w' => ∃ bs, ResOK w' w.heap.size [(false, [rowR 30 3 dasChallenge zChallenge l])] us bs ∧ bs.Nodup ∧ Below w.heap.size w w') fun e s ρ a w' hk hs => ret_one hk hs).mono fun e w' ⟨us, h1, bs, h2, h3⟩ => by
      obtain ⟨v, vs', us', b1, b2, rfl, hv, ho, ⟨rfl, rfl⟩, rfl⟩ := h2
      rw [if_neg (by simp)] at hv
      subst hv
      simp only [List.map_cons, List.map_nil, OwnsL] at ho
      obtain ⟨u, us2, c1, c2, e1, h4, ⟨rfl, rfl⟩, rfl⟩ := ho
      injection e1 with e1 _
      subst e1
      rw [List.append_nil, List.append_nil] at h3
      exact ⟨v, c1, h1, h4, h3⟩
theorem index_c (w : World) (v : Value) (l : List Fx.Challenge) (i : Int) (bx : Nat) (hn : l.length ≤ 16000000) (h : Shs w w.heap.size (rowR 30 3 dasChallenge zChallenge l).dc v) (hx : w.cell? ⟨bx, 0, none⟩ = some (.int .i64 i)) :
    Calls Try.prog 46 #[v, .func (.func 47) #[] #[.pointer (some ⟨bx, 0, none⟩)]] w (Gives (.int .i64 (findC l i)) w) :=
  (go_ok (ixC i bx) (ixL l i) Try.func46 (by kernel_rfl) (by kernel_rfl) (wpIx l i bx hn) (vs := [v, .func (.func 47) #[] #[.pointer (some ⟨bx, 0, none⟩)]]) hx rfl (fun j av hi => by
    match j, hi with
    | 0, hi => cases hi; exact ⟨v, rfl, h⟩
    | 1, hi => cases hi; exact ⟨_, rfl, rfl⟩
    | j + 2, hi => cases hi) (R := fun us w' => ∃ bs, ResOK w' w.heap.size [iV (findC l i)] us bs ∧ bs.Nodup ∧ Below w.heap.size w w') fun e s ρ a w' hk hs => ret_one hk hs).mono fun e w' ⟨us, h1, bs, h2, h3⟩ => by
      obtain ⟨rfl, rfl⟩ := plainGs_ok (us := [.int .i64 (findC l i)]) rfl h2
      exact ⟨h1, h3.2⟩
structure BoundI (g : Nat) (i : Int) (v : Value) (bs : List Nat) (w : World) : Prop where
  is : ∃ b T, v = .func (.func g) #[] #[.pointer (some ⟨b, 0, none⟩)] ∧ bs = [b] ∧ w.heap[b]? = some (.cells #[.int .i64 i] T (0, 0))
theorem BoundI.firm {g : Nat} {i : Int} (v : Value) (bs : List Nat) (w1 w2 : World) (hk : ∀ b, b ∈ bs → w2.heap[b]? = w1.heap[b]?) (h : BoundI g i v bs w1) : BoundI g i v bs w2 := by
  obtain ⟨b, T, rfl, rfl, hb⟩ := h.is
  exact ⟨b, T, rfl, rfl, (hk b (by simp)).trans hb⟩
theorem cust_makeFunc {old : World → Prop} {id q g : Nat} {o : Oper} {x : Operand} {T : TypeId} {i : Int} (ho : o.op = .makeFunc (.func g) #[] #[x]) :
    Cust Try.prog old id o [.one (.ptr q 0)] [.var T [.val (.int .i64 i)]] ⟨[], .one (.own id), [(q, .gone), (id, .abs (BoundI g i))]⟩ :=
  cust_val fun W0 obs ρ a w hold hm hv hos hun hn => by
    have hops : o.op.operands.toList = [x] := by rw [ho]; simp [Op.operands]
    rw [hops] at hv
    obtain ⟨v1, s1, e1, k1, k2⟩ := hv
    obtain ⟨ex, -⟩ : a.eval x = v1 ∧ True := by simp at e1; exact ⟨e1.1, trivial⟩
    have hq : obs q = .var T [.val (.int .i64 i)] := by simpa [AvIds, ScIds] using hos
    obtain ⟨b, vs, hr, hb1, hb2, hc⟩ := var_of hm hq
    have hv1 := ptr_of (W0 := W0) k1 hr
    obtain rfl := plain_cs (us := [.int .i64 i]) rfl hc
    have hin := hm.in_ hr
    refine ⟨.func (.func g) #[] #[.pointer (some ⟨b, 0, none⟩)], w, ?_, post_move (bs' := [b]) hm hr (hun id (Nat.le_refl _) (by omega)) (turned_refl w _) rfl (fun b hb => .inl hb) (by simp) (ob_abs ⟨b, T, rfl, rfl, hb2⟩ (fun b' hb' => hin b' hb') (BoundI.firm _ _))⟩
    unfold execOp
    rw [ho]
    simp [Instr.makeFunc, ex, hv1, Result.andThen]
theorem cust_byId {old : World → Prop} {id q : Nat} {o : Oper} {c : Call} {u : AV} {l : List Fx.Challenge} {d : Da} (ho : o.op = .call c) (hc : c.callee = .value (.func 42)) (hd : d.dc = (rowR 30 3 dasChallenge zChallenge l).dc) (hu : AvIds u = []) (hn : l.length ≤ 16000000) (ha : Asc l) (hw : inI l) :
    Cust Try.prog old id o [u, .one (.own q)] [.own d] ⟨[], .one (.own id), [(id, .abs (MapIs l.length l))]⟩ := by
  refine cust_call ho hc (con_enters Try.func42 (by kernel_rfl) (by kernel_rfl)) fun W0 obs ρ w args hold hm hv hos hun hn2 => ?_
  obtain ⟨v1, s1, rfl, k1, k2⟩ := hv
  obtain rfl : s1 = [] := k2
  have hq : obs q = .own d := by rw [List.flatMap_cons, hu] at hos; simpa [AvIds, ScIds] using hos
  obtain ⟨r, bs, hr, hown⟩ := own_of hm hq
  have h1 := own_val k1 hr
  rw [hd] at hown
  refine (byId_c w v1 l hn ha hw (h1 ▸ owns_shs _ _ _ hown)).mono ?_
  rintro e w' ⟨r2, bs2, rfl, hM, hin, hnd, hb⟩
  exact ⟨r2, rfl, post_new hm (hun id (Nat.le_refl _) (by omega)) hb (by obtain ⟨b, n, rfl, _⟩ := hM.is; rfl) (fun b hb => (hin b hb).1) hnd (ob_abs hM (fun b hb => ⟨Nat.le_trans hm.below.size (hin b hb).1, (hin b hb).2⟩) (MapIs.firm _ _))⟩
theorem cust_inOrder {old : World → Prop} {id q m : Nat} {o : Oper} {c : Call} {u : AV} {l : List Fx.Challenge} (ho : o.op = .call c) (hc : c.callee = .value (.func 43)) (hu : AvIds u = []) (hn : l.length ≤ 16000000) (ha : Asc l) (hw : inI l) {d : Da} (hd : d = rowR 30 3 dasChallenge zChallenge l) :
    Cust Try.prog old id o [u, .one (.own q)] [.abs (MapIs m l)] ⟨[], .one (.own id), [(id, .own d)]⟩ := by
  subst hd
  refine cust_call ho hc (con_enters Try.func43 (by kernel_rfl) (by kernel_rfl)) fun W0 obs ρ w args hold hm hv hos hun hn2 => ?_
  obtain ⟨v1, s1, rfl, k1, k2⟩ := hv
  obtain rfl : s1 = [] := k2
  have hq : obs q = .abs (MapIs m l) := by rw [List.flatMap_cons, hu] at hos; simpa [AvIds, ScIds] using hos
  obtain ⟨r, bs, hr, hφ, hnd⟩ := abs_of hm hq
  have h1 := own_val k1 hr
  obtain ⟨b, n, rfl, rfl, hnm, hown⟩ := hφ.is
  obtain rfl : v1 = _ := h1
  refine (inOrder_c w b n l hn ha hw hown).mono ?_
  rintro e w' ⟨v, bs2, rfl, ho, hnd2, hb⟩
  have hin := owns_in _ _ _ ho
  exact ⟨v, rfl, post_new hm (hun id (Nat.le_refl _) (by omega)) hb (owns_one ho) (fun b hb => (hin b hb).1) hnd2 (ob_own (owns_base hm.below.size _ _ _ ho))⟩
theorem cust_index {old : World → Prop} {id q : Nat} {o : Oper} {c : Call} {u : AV} {l : List Fx.Challenge} {i : Int} {d : Da} (ho : o.op = .call c) (hc : c.callee = .value (.func 46)) (hd : d.dc = (rowR 30 3 dasChallenge zChallenge l).dc) (hu : AvIds u = []) (hn : l.length ≤ 16000000) :
    Cust Try.prog old id o [u, .one (.old d), .one (.own q)] [.abs (BoundI 47 i)] ⟨[], .one (.val (.int .i64 (findC l i))), []⟩ := by
  refine cust_call ho hc (con_enters Try.func46 (by kernel_rfl) (by kernel_rfl)) fun W0 obs ρ w args hold hm hv hos hun hn2 => ?_
  obtain ⟨v1, s1, rfl, k1, v2, s2, rfl, k2, k3⟩ := hv
  obtain rfl : s2 = [] := k3
  have hq : obs q = .abs (BoundI 47 i) := by rw [List.flatMap_cons, hu] at hos; simpa [AvIds, ScIds] using hos
  obtain ⟨r, bs, hr, hφ, hnd⟩ := abs_of hm hq
  have h2 := own_val k2 hr
  obtain ⟨bx, T, rfl, rfl, hbx⟩ := hφ.is
  obtain rfl : v2 = _ := h2
  have k1 : Shs W0 W0.heap.size d.dc v1 := k1
  rw [hd] at k1
  refine (index_c w v1 l i bx hn (shs_on k1 hm.below) (by simp [World.cell?, hbx])).mono ?_
  rintro e w' ⟨rfl, hb⟩
  exact ⟨_, rfl, post_same hm hb rfl⟩
theorem cust_deleteFunc {old : World → Prop} {id q p m : Nat} {o : Oper} {c : Call} {u : AV} {l : List Fx.Challenge} {t : Int} (ho : o.op = .call c) (hc : c.callee = .value (.func 44)) (hu : AvIds u = []) (hqp : p ≠ q) :
    Cust Try.prog old id o [u, .one (.own q), .one (.own p)] [.abs (MapIs m l), .abs (BoundI 45 t)] ⟨[], .no, [(q, .abs (MapIs m (keepT l t)))]⟩ := by
  refine cust_call ho hc (con_enters Try.func44 (by kernel_rfl) (by kernel_rfl)) fun W0 obs ρ w args hold hm hv hos hun hn2 => ?_
  obtain ⟨v1, s1, rfl, k1, v2, s2, rfl, k2, k3⟩ := hv
  obtain rfl : s2 = [] := k3
  have hos2 : obs q = .abs (MapIs m l) ∧ obs p = .abs (BoundI 45 t) := by rw [List.flatMap_cons, hu] at hos; simpa [AvIds, ScIds] using hos
  obtain ⟨r, bs, hr, hφ, hnd⟩ := abs_of hm hos2.1
  obtain ⟨r2, bs2, hr2, hφ2, hnd2⟩ := abs_of hm hos2.2
  have h1 := own_val k1 hr
  have h2 := own_val k2 hr2
  obtain ⟨b, n, rfl, rfl, hnm, hown⟩ := hφ.is
  obtain ⟨bx, T, rfl, rfl, hbx⟩ := hφ2.is
  obtain rfl : v1 = _ := h1
  obtain rfl : v2 = _ := h2
  have hne : bx ≠ b := fun e => hm.apart p q _ _ hqp hr2 hr bx (by simp) (by simp [e])
  refine (deleteFunc_c b n bx l t w hown (by simp [World.cell?, hbx]) hne).mono ?_
  rintro e w' ⟨rfl, hown', hg⟩
  refine ⟨_, rfl, post_turn hm hr (turned_grown hg) (ob_abs ⟨b, n, rfl, rfl, hnm, hown'⟩ (fun b' hb' => ?_) (MapIs.firm _ _)) (fun _ _ => trivial)⟩
  have := hm.in_ hr b' hb'
  have := hg.size
  omega
theorem cust_delete1 {old : World → Prop} {id q : Nat} {o : Oper} {c : Call} {u : AV} {l : List Fx.Challenge} {d d2 : Da} (ho : o.op = .call c) (hc : c.callee = .value (.func 38)) (hu : AvIds u = []) (hd : d.dc = (rowR 30 3 dasChallenge zChallenge l).dc) (hd2 : d2 = rowR 30 3 dasChallenge zChallenge (l.drop 1)) (h2 : 2 ≤ l.length) (hn : l.length ≤ 16000000) :
    Cust Try.prog old id o [u, .one (.own q), .one (.val (.int .i64 0)), .one (.val (.int .i64 1))] [.own d] ⟨[], .one (.own id), [(q, .gone), (id, .own d2)]⟩ := by
  subst hd2
  refine cust_call ho hc (con_enters Try.func38 (by kernel_rfl) (by kernel_rfl)) fun W0 obs ρ w args hold hm hv hos hun hn2 => ?_
  obtain ⟨v1, s1, rfl, k1, v2, s2, rfl, k2, v3, s3, rfl, k3, k4⟩ := hv
  obtain rfl : s3 = [] := k4
  obtain rfl : v2 = .int .i64 0 := k2
  obtain rfl : v3 = .int .i64 1 := k3
  have hq : obs q = .own d := by rw [List.flatMap_cons, hu] at hos; simpa [AvIds, ScIds] using hos
  obtain ⟨r, bs, hr, hown⟩ := own_of hm hq
  have h1 := own_val k1 hr
  rw [hd, rowR_dc 30 zChallenge Fx.Challenge.len dasChallenge_dc] at hown
  have hat := many_owns hown
  obtain ⟨g, off, cap, rfl, hg1, hg2⟩ := hat.form (by omega)
  obtain rfl : v1 = _ := h1
  have hbs : bs = [g] := own_block hown
  subst hbs
  obtain ⟨m, hm1⟩ : ∃ m, l.length = m + 1 := ⟨l.length - 1, by omega⟩
  rw [hm1] at hat ⊢
  refine (delete_c w W0.heap.size g off cap m (many l) hat (many_one l) (by omega) (by omega)).mono ?_
  rintro e w' ⟨rfl, hat', hg'⟩
  have hl1 : (l.drop 1).length = m := by rw [List.length_drop]; omega
  rw [show (many l).drop 3 = many (l.drop 1) from (many_drop l 1).symm, ← hl1] at hat'
  have ho2 := owns_manyA hat'
  rw [← rowR_dc 30 zChallenge Fx.Challenge.len dasChallenge_dc] at ho2
  refine ⟨_, rfl, ?_⟩
  rw [← hl1]
  exact post_move hm hr (hun id (Nat.le_refl _) (by omega)) (turned_grown hg') rfl (fun b hb => .inl hb) (by simp) (ob_own ho2)
def fndC (b : Fx.ChallengeBook) (i : Int) : Orc := ⟨fun _ _ _ => none, fun id vs _ => match id with
  | 20016 => (match vs with | [.one (.ptr q _)] => some ⟨[], .one (.own 20016), [(q, .gone), (20016, .abs (BoundI 47 i))]⟩ | _ => none)
  | 20024 => some ⟨[], .one (.val (vI (findC b.Open i))), []⟩
  | _ => none, fun _ => True⟩
noncomputable def takC (b : Fx.ChallengeBook) (i : Int) : Orc := ⟨fun d _ _ => match d with | some 15 => some [(false, [rowR 30 3 dasChallenge zChallenge b.Open])] | some 18 => some [bV (vbk b)] | _ => none, fun id vs _ => match id with
  | 50016 => some ⟨[], .one (.own 50016), [(50016, .abs (MapIs b.Open.length b.Open))]⟩
  | 60016 => some ⟨[], .tup [(true, [.val (vI (fnd b.Open i).Id), .val (vI (fnd b.Open i).Account), .val (vI (fnd b.Open i).Until)]), (false, [.val (.bool (hasI b.Open i))])], []⟩
  | 90016 => (match vs with | .one (.own q) :: _ => some ⟨[], .no, [(q, .abs (MapIs b.Open.length (dropI b.Open i)))]⟩ | _ => none)
  | 100008 => some ⟨[], .one (.own 100008), [(100008, .own (rowR 30 3 dasChallenge zChallenge (dropI b.Open i)))]⟩
  | _ => none, fun _ => True⟩
noncomputable def expC (b : Fx.ChallengeBook) (t : Int) : Orc := ⟨fun d _ _ => match d with | some 8 => some [(false, [rowR 30 3 dasChallenge zChallenge b.Open])] | some 11 => some [bV (vbk b)] | _ => none, fun id vs _ => match id with
  | 50016 => some ⟨[], .one (.own 50016), [(50016, .abs (MapIs b.Open.length b.Open))]⟩
  | 60008 => (match vs with | [.one (.ptr q _)] => some ⟨[], .one (.own 60008), [(q, .gone), (60008, .abs (BoundI 45 t))]⟩ | _ => none)
  | 60016 => (match vs with | _ :: .one (.own q) :: _ => some ⟨[], .no, [(q, .abs (MapIs b.Open.length (keepT b.Open t)))]⟩ | _ => none)
  | 70008 => some ⟨[], .one (.own 70008), [(70008, .own (rowR 30 3 dasChallenge zChallenge (keepT b.Open t)))]⟩
  | _ => none, fun _ => True⟩
noncomputable def issO (b : Fx.ChallengeBook) (a t : Int) : Orc := ⟨fun d _ _ => match d with | some 12 => some [(false, [rowR 30 3 dasChallenge zChallenge b.Open])] | some 15 => some [bV (vbk b)] | some 24 => some [bV (inB a 0 1000000)] | some 29 => some [bV (inB t 0 1000000)] | _ => none, fun id vs _ => match id with
  | 60016 => (match vs with | _ :: .one (.own q) :: _ => some ⟨[], .one (.own 60016), [(q, .gone), (60016, .own (rowR 30 3 dasChallenge zChallenge (b.Open.drop 1)))]⟩ | _ => none)
  | _ => none, fun _ => True⟩
end Go.Proofs.Ytjkmcnnkifachaa.Mi
