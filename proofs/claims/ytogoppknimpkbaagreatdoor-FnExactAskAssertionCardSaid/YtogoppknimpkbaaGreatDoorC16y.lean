import Derived.Test.YtogoppknimpkbaaGreatDoorC16a
import Derived.Test.YtogoppknimpkbaaGreatDoorYBrowser
import Derived.Test.YtogoppknimpkbaaGreatDoorYAssertion
/-
  AskAssertion in the words of its exact law.
-/
namespace Go.Proofs.YtogoppknimpkbaaGreatDoor.C16y
open Go.ChangeShapes Go.WideShapes Go.ChangeAt Go.RowKit
open S0 S1 S9 Dm Fx M3 M8 M12 M13 C10 C13b M24 C16a E0 E1 E7 E15 E16 E17 E18 E20 Das
set_option linter.unusedVariables false
set_option maxRecDepth 100000
theorem tb_len {l : List Fx.Tab} {n : Nat} (h : Dm.wt (TabsD l) ≤ n) : l.length ≤ n := by rw [wt_Tabs] at h; omega
theorem tb_in : ∀ {l : List Fx.Tab} {t : Fx.Tab}, t ∈ l → t.Origin.Host.size + t.Top.Host.size ≤ wtL (l.flatMap Tab.dcs)
  | [], _, h => by cases h
  | x :: l, t, h => by
    rw [List.flatMap_cons, Dm.wtL_app, Tab.wt]
    rcases List.mem_cons.1 h with rfl | h
    · omega
    · have := tb_in h
      omega
theorem tb_short {b : Fx.Browser} (h : Dm.wt (TabsD b.Tabs) ≤ 15000000) : short b := fun t ht => by
  rw [wt_Tabs] at h
  have := tb_in ht
  omega
theorem tb_at {b : Fx.Browser} (h : Dm.wt (TabsD b.Tabs) ≤ 15000000) (t : Int) : (tabAt b t).Origin.Host.size ≤ 15000000 := by
  unfold tabAt
  rw [wt_Tabs] at h
  rw [List.getD_eq_getElem?_getD]
  rcases Nat.lt_or_ge t.toNat b.Tabs.length with hk | hk
  · rw [List.getElem?_eq_getElem hk]
    have := tb_in (List.getElem_mem hk)
    simp only [Option.getD_some]
    omega
  · rw [List.getElem?_eq_none hk]
    exact Nat.zero_le _
theorem ask_wt (b : Fx.Browser) (t : Int) (z : ByteArray) (c : Bool) : Dm.wt (TabsD (askX b t z c).Tabs) ≤ Dm.wt (TabsD b.Tabs) := by
  unfold askX
  cases canB b t z with
  | false => exact Nat.le_refl _
  | true => cases c <;> exact Nat.le_refl _
theorem ask_size (b : Fx.Browser) (t : Int) (z : ByteArray) (k ch : Int) (c : Bool) : (askO b t z k ch c).Site.size ≤ z.size ∧ (askO b t z k ch c).Origin.size ≤ 100 := by
  unfold askO
  cases canB b t z && c with
  | false => exact ⟨Nat.zero_le _, Nat.zero_le _⟩
  | true =>
    show (mkA _ _ _ _ _ _).Site.size ≤ _ ∧ (mkA _ _ _ _ _ _).Origin.size ≤ _
    have h := fmt_size (tabAt b t).Origin
    unfold mkA
    split
    · exact ⟨Nat.le_refl _, h⟩
    · exact ⟨Nat.zero_le _, Nat.zero_le _⟩
theorem two_res {w' : World} {lo : Nat} {ds es : List Da} {dcs ecs : List Dc} {rs : List Grp} {us xs : List Value} {bs : List Nat} (hp : plainGs rs = some us) (e1 : ds.map Da.dc = dcs) (e2 : es.map Da.dc = ecs) (h : ResOK w' lo ((true, ds) :: (true, es) :: rs) xs bs) (hnd : bs.Nodup) :
    ∃ u1 b1 u2 b2, xs = .agg u1.toArray :: .agg u2.toArray :: us ∧ OwnsL w' lo dcs u1 b1 ∧ OwnsL w' lo ecs u2 b2 ∧ b1.Nodup ∧ b2.Nodup ∧ ∀ b, b ∈ b1 → b ∉ b2 := by
  obtain ⟨v, vs, ys, b1, b2, rfl, h1, h2, ⟨v', vs', zs, b3, b4, rfl, h3, h4, h5, rfl⟩, rfl⟩ := h
  obtain ⟨rfl, rfl⟩ := plainGs_ok hp h5
  rw [if_pos rfl] at h1 h3
  subst h1 h3
  rw [List.append_nil] at hnd
  obtain ⟨n1, n2, n3⟩ := List.nodup_append.1 hnd
  exact ⟨ys, b1, zs, b3, rfl, by rw [← e1]; exact h2, by rw [← e2]; exact h4, n1, n2, fun b h1 h2 => n3 b h1 b h2 rfl⟩
section
variable (w : World) (b : Fx.Browser) (us : List Value) (h : ShsL w w.heap.size b.dcs us) (h1 : Dm.wt (TabsD b.Tabs) ≤ 15000000) (t : Int) (z : ByteArray) (k ch : Int) (c : Bool) (hz : z.size ≤ 15000000) (hst : b.Store.ok) (k0 : -9223372036854775808 ≤ k) (k1 : k ≤ 9223372036854775807) (c0 : -9223372036854775808 ≤ ch) (c1 : ch ≤ 9223372036854775807)
include h h1 hz hst k0 k1 c0 c1
theorem specAsk : Calls Tryz.prog 16 #[.agg us.toArray, .int .i64 t, .string z, .int .i64 k, .int .i64 ch, .bool c] w (MadeLLx (askX b t z c).dcs (askO b t z k ch c).dcs (fun us vs => .tuple #[.agg us.toArray, .agg vs.toArray, .bool (askB b t z c)]) w) :=
  ((conAskS b t z k ch c (by have := tb_len h1; omega) (tb_short h1) hz (tb_at h1 t) hst k0 k1 c0 c1).calls w _ (arg_agg (dasBrowser_dc b) h (arg_val (arg_val (arg_val (arg_val (arg_val arg_nil))))))).mono fun e w' ⟨xs, bs, h1, h2, h3, h4⟩ => by
    obtain ⟨u1, b1, u2, b2, rfl, p1, p2, p3, p4, p5⟩ := two_res (us := [.bool (askB b t z c)]) rfl (dasBrowser_dc _) (dasAssertion_dc _) h2 h3
    exact ⟨u1, b1, u2, b2, h1, p1, p2, p3, p4, p5, h4⟩
theorem implAskR (ht : La.Pow w) : Calls Tryz.prog 7 #[.agg us.toArray, .int .i64 t, .string z, .int .i64 k, .int .i64 ch, .bool c] w fun e w' => ∃ us bs, e = .returned (retV us) ∧ ResOK w' w.heap.size [(true, dasBrowser (askX b t z c)), (true, dasAssertion (askO b t z k ch c)), bV (askB b t z c)] us bs ∧ bs.Nodup ∧ Below w.heap.size w w' := by
  have h3 := h
  rw [← dasBrowser_dc b] at h3
  simp only [dasBrowser, List.map_cons, List.map_nil, ShsL] at h3
  obtain ⟨v1, _, rfl, e1, v2, _, rfl, e2, v3, _, rfl, e3, v4, _, rfl, e4, v5, _, rfl, e5, v6, _, rfl, e6, rfl⟩ := h3
  simp only [Da.dc, Shs] at e1 e2 e3 e4 e6
  subst e1 e2 e3 e4 e6
  have hv : ∀ (i : Nat) (av : AV), ([.agg [.val (.int .i64 b.Store.Vendor), .val (.int .i64 b.Store.Serial), .val (.int .i64 b.Store.Seed), .val (.int .i64 b.Store.Counter), .old (rowR 62 6 dasTab zTab b.Tabs), .val (.int .i64 b.Asked)], .one (.val (.int .i64 t)), .one (.val (.string z)), .one (.val (.int .i64 k)), .one (.val (.int .i64 ch)), .one (.val (.bool c))] : List AV)[i]? = some av → ∃ v, [Value.agg [Value.int .i64 b.Store.Vendor, .int .i64 b.Store.Serial, .int .i64 b.Store.Seed, .int .i64 b.Store.Counter, v5, .int .i64 b.Asked].toArray, .int .i64 t, .string z, .int .i64 k, .int .i64 ch, .bool c][i]? = some v ∧ AvOK (fun _ => none) w av v := fun i av hi => by
    match i, hi with
    | 0, hi => cases hi; exact ⟨_, rfl, _, rfl, _, _, rfl, rfl, _, _, rfl, rfl, _, _, rfl, rfl, _, _, rfl, rfl, _, _, rfl, e5, _, _, rfl, rfl, rfl⟩
    | 1, hi => cases hi; exact ⟨_, rfl, rfl⟩
    | 2, hi => cases hi; exact ⟨_, rfl, rfl⟩
    | 3, hi => cases hi; exact ⟨_, rfl, rfl⟩
    | 4, hi => cases hi; exact ⟨_, rfl, rfl⟩
    | 5, hi => cases hi; exact ⟨_, rfl, rfl⟩
    | i + 6, hi => cases hi
  have fin : ∀ {C : Orc}, awp Tryz.prog C E18.noLoops (Tryz.f7.body.getD .skip) ⟨([.agg [.val (.int .i64 b.Store.Vendor), .val (.int .i64 b.Store.Serial), .val (.int .i64 b.Store.Seed), .val (.int .i64 b.Store.Counter), .old (rowR 62 6 dasTab zTab b.Tabs), .val (.int .i64 b.Asked)], .one (.val (.int .i64 t)), .one (.val (.string z)), .one (.val (.int .i64 k)), .one (.val (.int .i64 ch)), .one (.val (.bool c))] : List AV) ++ List.replicate (Tryz.f7.ntmps - ([.agg [.val (.int .i64 b.Store.Vendor), .val (.int .i64 b.Store.Serial), .val (.int .i64 b.Store.Seed), .val (.int .i64 b.Store.Counter), .old (rowR 62 6 dasTab zTab b.Tabs), .val (.int .i64 b.Asked)], .one (.val (.int .i64 t)), .one (.val (.string z)), .one (.val (.int .i64 k)), .one (.val (.int .i64 ch)), .one (.val (.bool c))] : List AV).length) (.one (.val undef)), fun _ => .un⟩ (retK Tryz.prog Tryz.f7.results.toList [(true, dasBrowser (askX b t z c)), (true, dasAssertion (askO b t z k ch c)), bV (askB b t z c)]) → C.old w →
      Calls Tryz.prog 7 #[.agg [Value.int .i64 b.Store.Vendor, .int .i64 b.Store.Serial, .int .i64 b.Store.Seed, .int .i64 b.Store.Counter, v5, .int .i64 b.Asked].toArray, .int .i64 t, .string z, .int .i64 k, .int .i64 ch, .bool c] w fun e w' => ∃ us bs, e = .returned (retV us) ∧ ResOK w' w.heap.size [(true, dasBrowser (askX b t z c)), (true, dasAssertion (askO b t z k ch c)), bV (askB b t z c)] us bs ∧ bs.Nodup ∧ Below w.heap.size w w' := fun {C} hw hC =>
    (go_ok C E18.noLoops Tryz.func7 (by kernel_rfl) (by kernel_rfl) hw hC rfl hv (R := fun us w' => ∃ bs, ResOK w' w.heap.size [(true, dasBrowser (askX b t z c)), (true, dasAssertion (askO b t z k ch c)), bV (askB b t z c)] us bs ∧ bs.Nodup ∧ Below w.heap.size w w') fun e s ρ a w' hk hs => retK_ok hk hs).mono fun e w' ⟨xs, h1, bs, h2, h3, h4⟩ => by
      exact ⟨xs, bs, h1, h2, h3, h4⟩
  cases hb : canB b t z with
  | true => exact fin (wpAskT (fun W => W = w) (fun W h => by subst h; exact ht) b t z k ch c (by have := tb_len h1; omega) (tb_short h1) hz (tb_at h1 t) hst k0 k1 c0 c1 hb) rfl
  | false => exact fin (wpAskF (fun W => W = w) b t z k ch c (by have := tb_len h1; omega) (tb_short h1) hz (tb_at h1 t) hst k0 k1 c0 c1 hb) rfl
theorem implAsk (ht : La.Pow w) : Calls Tryz.prog 7 #[.agg us.toArray, .int .i64 t, .string z, .int .i64 k, .int .i64 ch, .bool c] w (MadeLLx (askX b t z c).dcs (askO b t z k ch c).dcs (fun us vs => .tuple #[.agg us.toArray, .agg vs.toArray, .bool (askB b t z c)]) w) :=
  (implAskR w b us h h1 t z k ch c hz hst k0 k1 c0 c1 ht).mono fun e w' ⟨xs, bs, h1, h2, h3, h4⟩ => by
    obtain ⟨u1, b1, u2, b2, rfl, p1, p2, p3, p4, p5⟩ := two_res (us := [.bool (askB b t z c)]) rfl (dasBrowser_dc _) (dasAssertion_dc _) h2 h3
    exact ⟨u1, b1, u2, b2, h1, p1, p2, p3, p4, p5, h4⟩
end
end Go.Proofs.YtogoppknimpkbaaGreatDoor.C16y
