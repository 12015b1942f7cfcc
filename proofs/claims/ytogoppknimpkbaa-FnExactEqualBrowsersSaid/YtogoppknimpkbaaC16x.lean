/-
  Chapter 16 in the words of the exact laws.
-/
import Derived.Test.YtogoppknimpkbaaC16s
import Derived.Test.YtogoppknimpkbaaC16l
import Derived.Test.YtogoppknimpkbaaYBrowser
namespace Go.Proofs.Ytogoppknimpkbaa.C16x
open Go.ChangeShapes Go.WideShapes Go.ChangeAt Go.RowKit
open S0 S1 S9 Dm Fx M3 M8 M12 M13 C10 M24 E0 E18 Das
set_option linter.unusedVariables false
theorem alc {w : World} {ob : Obj} {b o : Nat} {v : Value} (hb : b < w.heap.size) (h : w.cell? ⟨b, o, none⟩ = some v) : (w.alloc ob).cell? ⟨b, o, none⟩ = some v :=
  (World.cell?_of_block ((World.grownBy_alloc w ob none).block b hb (by simp))).trans h
theorem tb_len {l : List Fx.Tab} {n : Nat} (h : Dm.wt (TabsD l) ≤ n) : l.length ≤ n := by rw [wt_Tabs] at h; omega
theorem tb_in : ∀ {l : List Fx.Tab} {t : Fx.Tab}, t ∈ l → t.Origin.Host.size + t.Top.Host.size ≤ wtL (l.flatMap Tab.dcs)
  | [], _, h => by cases h
  | x :: l, t, h => by
    rw [List.flatMap_cons, Dm.wtL_app, Tab.wt]
    rcases List.mem_cons.1 h with rfl | h
    · omega
    · have := tb_in h
      omega
theorem tb_short {b : Fx.Browser} (h : Dm.wt (TabsD b.Tabs) ≤ 15000000) : short b := fun t ht => by
  rw [wt_Tabs] at h
  have := tb_in ht
  omega
theorem tb_at (b : Fx.Browser) (k : Nat) : (b.Tabs.getD k zTab).Top.Host.size ≤ Dm.wt (TabsD b.Tabs) := by
  rw [wt_Tabs, List.getD_eq_getElem?_getD]
  rcases Nat.lt_or_ge k b.Tabs.length with hk | hk
  · rw [List.getElem?_eq_getElem hk]
    have := tb_in (List.getElem_mem hk)
    simp only [Option.getD_some]
    omega
  · rw [List.getElem?_eq_none hk]
    exact Nat.zero_le _
theorem wt_app (l m : List Fx.Tab) : Dm.wt (TabsD (l ++ m)) = Dm.wt (TabsD l) + Dm.wt (TabsD m) := by
  rw [wt_Tabs, wt_Tabs, wt_Tabs, List.flatMap_append, Dm.wtL_app, List.length_append]
  omega
theorem wt_one (o p : Fx.Origin) : Dm.wt (TabsD [⟨o, p⟩]) = 1 + (o.Host.size + p.Host.size) := by
  rw [wt_Tabs, List.flatMap_cons, List.flatMap_nil, List.append_nil, Tab.wt]
  rfl
theorem wt_set (y : Fx.Tab) : ∀ (l : List Fx.Tab) (k : Nat), Dm.wt (TabsD (l.set k y)) ≤ Dm.wt (TabsD l) + (y.Origin.Host.size + y.Top.Host.size)
  | [], k => by simp
  | x :: l, 0 => by
    rw [List.set_cons_zero, wt_Tabs, wt_Tabs, List.flatMap_cons, List.flatMap_cons, Dm.wtL_app, Dm.wtL_app, Tab.wt, Tab.wt, List.length_cons, List.length_cons]
    omega
  | x :: l, k + 1 => by
    have h := wt_set y l k
    rw [wt_Tabs, wt_Tabs] at h
    rw [List.set_cons_succ, wt_Tabs, wt_Tabs, List.flatMap_cons, List.flatMap_cons, Dm.wtL_app, Dm.wtL_app, List.length_cons, List.length_cons]
    omega
theorem open_wt (b : Fx.Browser) (o p : Fx.Origin) : Dm.wt (TabsD (openX b o p).Tabs) ≤ Dm.wt (TabsD b.Tabs) + (1 + (o.Host.size + p.Host.size)) := by
  cases e : openB b o p with
  | false => rw [openX_f e]; omega
  | true =>
    rw [openX_t e]
    show Dm.wt (TabsD (b.Tabs ++ [⟨o, p⟩])) ≤ _
    rw [wt_app, wt_one]
    omega
open Classical in
theorem nav_wt (b : Fx.Browser) (t : Int) (o : Fx.Origin) : Dm.wt (TabsD (navX b t o).Tabs) ≤ 2 * Dm.wt (TabsD b.Tabs) + 2 * o.Host.size := by
  cases e : navB b t o with
  | false => rw [navX_f e]; omega
  | true =>
    rw [navX_t e]
    have h := wt_set (navT (tabAt b t) o) b.Tabs t.toNat
    have h2 := tb_at b t.toNat
    have h3 : (navT (tabAt b t) o).Origin.Host.size + (navT (tabAt b t) o).Top.Host.size ≤ 2 * o.Host.size + (tabAt b t).Top.Host.size := by
      unfold navT
      split <;> simp only <;> omega
    have h4 : (tabAt b t).Top.Host.size ≤ Dm.wt (TabsD b.Tabs) := h2
    show Dm.wt (TabsD (b.Tabs.set t.toNat (navT (tabAt b t) o))) ≤ _
    omega
theorem reg_wt (b : Fx.Browser) (t : Int) (z : ByteArray) : Dm.wt (TabsD (regX b t z).Tabs) ≤ Dm.wt (TabsD b.Tabs) := by
  cases e : canB b t z with
  | false => rw [regX_f e]; omega
  | true => rw [regX_t e]; exact Nat.le_refl _
section
variable (w : World) (b c : Fx.Browser) (us vs : List Value) (h : ShsL w w.heap.size b.dcs us) (h2 : ShsL w w.heap.size c.dcs vs) (h1 : Dm.wt (TabsD b.Tabs) ≤ 15000000)
include h h1
theorem specOpen (o p : Fx.Origin) (xs ys : List Value) (ho : ShsL w w.heap.size o.dcs xs) (hp : ShsL w w.heap.size p.dcs ys) (o1 : o.Host.size ≤ 4294967296) (p1 : p.Host.size ≤ 4294967296) : Calls Try.prog 12 #[.agg us.toArray, .agg xs.toArray, .agg ys.toArray] w (MadeLx (openX b o p).dcs (fun vs => .tuple #[.agg vs.toArray, .bool (openB b o p)]) w) :=
  con_made (C16s.conOpen b o p (tb_len h1) o1 p1) (us := [.bool (openB b o p)]) rfl (dasBrowser_dc _) (arg_agg (dasBrowser_dc b) h (arg_agg (dasOrigin_dc o) ho (arg_agg (dasOrigin_dc p) hp arg_nil)))
theorem specCan (t : Int) (z : ByteArray) (hz : z.size ≤ 4294967296) : Calls Try.prog 19 #[.agg us.toArray, .int .i64 t, .string z] w (Gives (.bool (canB b t z)) w) :=
  con_plain (C16s.conCan b t z (by have := tb_len h1; omega) (tb_short h1) hz) (us := [.bool (canB b t z)]) rfl (arg_agg (dasBrowser_dc b) h (arg_val (arg_val arg_nil)))
theorem specNav (t : Int) (o : Fx.Origin) (xs : List Value) (ho : ShsL w w.heap.size o.dcs xs) (o1 : o.Host.size ≤ 4294967296) : Calls Try.prog 23 #[.agg us.toArray, .int .i64 t, .agg xs.toArray] w (MadeLx (navX b t o).dcs (fun vs => .tuple #[.agg vs.toArray, .bool (navB b t o)]) w) :=
  con_made (C16s.conNav b t o (by have := tb_len h1; omega) o1) (us := [.bool (navB b t o)]) rfl (dasBrowser_dc _) (arg_agg (dasBrowser_dc b) h (arg_val (arg_agg (dasOrigin_dc o) ho arg_nil)))
theorem specReg (t : Int) (z : ByteArray) (k : Int) (a : Bool) (hz : z.size ≤ 16000000) (hst : b.Store.ok) (k0 : -9223372036854775808 ≤ k) (k1 : k ≤ 9223372036854775807) : Calls Try.prog 21 #[.agg us.toArray, .int .i64 t, .string z, .int .i64 k, .bool a] w (MadeLx (regX b t z).dcs (fun vs => .tuple #[.agg vs.toArray, .int .i64 (regP b t z k a), .bool (regB b t z a)]) w) :=
  con_made (C16s.conReg b t z k a (by have := tb_len h1; omega) (tb_short h1) hz hst k0 k1) (us := [.int .i64 (regP b t z k a), .bool (regB b t z a)]) rfl (dasBrowser_dc _) (arg_agg (dasBrowser_dc b) h (arg_val (arg_val (arg_val (arg_val arg_nil)))))
theorem implOpen (o p : Fx.Origin) (xs ys : List Value) (ho : ShsL w w.heap.size o.dcs xs) (hp : ShsL w w.heap.size p.dcs ys) (o1 : o.Host.size ≤ 4294967296) (p1 : p.Host.size ≤ 4294967296) : Calls Try.prog 15 #[.agg us.toArray, .agg xs.toArray, .agg ys.toArray] w (MadeLx (openX b o p).dcs (fun vs => .tuple #[.agg vs.toArray, .bool (openB b o p)]) w) :=
  con_made (C16l.conOpen b o p (tb_len h1) o1 p1) (us := [.bool (openB b o p)]) rfl (dasBrowser_dc _) (arg_agg (dasBrowser_dc b) h (arg_agg (dasOrigin_dc o) ho (arg_agg (dasOrigin_dc p) hp arg_nil)))
theorem implCan (t : Int) (z : ByteArray) (hz : z.size ≤ 4294967296) : Calls Try.prog 20 #[.agg us.toArray, .int .i64 t, .string z] w (Gives (.bool (canB b t z)) w) :=
  con_plain (C16l.conCan b t z (by have := tb_len h1; omega) (tb_short h1) hz) (us := [.bool (canB b t z)]) rfl (arg_agg (dasBrowser_dc b) h (arg_val (arg_val arg_nil)))
theorem implNav (t : Int) (o : Fx.Origin) (xs : List Value) (ho : ShsL w w.heap.size o.dcs xs) (o1 : o.Host.size ≤ 4294967296) : Calls Try.prog 24 #[.agg us.toArray, .int .i64 t, .agg xs.toArray] w (MadeLx (navX b t o).dcs (fun vs => .tuple #[.agg vs.toArray, .bool (navB b t o)]) w) :=
  con_made (C16l.conNav b t o (by have := tb_len h1; omega) o1) (us := [.bool (navB b t o)]) rfl (dasBrowser_dc _) (arg_agg (dasBrowser_dc b) h (arg_val (arg_agg (dasOrigin_dc o) ho arg_nil)))
theorem implReg (t : Int) (z : ByteArray) (k : Int) (a : Bool) (hz : z.size ≤ 16000000) (hst : b.Store.ok) (k0 : -9223372036854775808 ≤ k) (k1 : k ≤ 9223372036854775807) : Calls Try.prog 22 #[.agg us.toArray, .int .i64 t, .string z, .int .i64 k, .bool a] w (MadeLx (regX b t z).dcs (fun vs => .tuple #[.agg vs.toArray, .int .i64 (regP b t z k a), .bool (regB b t z a)]) w) :=
  con_made (C16l.conReg b t z k a (by have := tb_len h1; omega) (tb_short h1) hz hst k0 k1) (us := [.int .i64 (regP b t z k a), .bool (regB b t z a)]) rfl (dasBrowser_dc _) (arg_agg (dasBrowser_dc b) h (arg_val (arg_val (arg_val (arg_val arg_nil)))))
variable (h3 : Dm.wt (TabsD c.Tabs) ≤ 15000000)
include h2 h3
theorem specEql : Calls Try.prog 25 #[.agg us.toArray, .agg vs.toArray] w (Gives (.bool (eqlB b c)) w) :=
  con_plain (C16s.conEql b c (by have := tb_len h1; omega) (by have := tb_len h3; omega)) (us := [.bool (eqlB b c)]) rfl (arg_agg (dasBrowser_dc b) h (arg_agg (dasBrowser_dc c) h2 arg_nil))
theorem implEql : Calls Try.prog 26 #[.agg us.toArray, .agg vs.toArray] w (Gives (.bool (eqlB b c)) w) :=
  con_plain (C16l.conEql b c (by have := tb_len h1; omega) (by have := tb_len h3; omega)) (us := [.bool (eqlB b c)]) rfl (arg_agg (dasBrowser_dc b) h (arg_agg (dasBrowser_dc c) h2 arg_nil))
end
end Go.Proofs.Ytogoppknimpkbaa.C16x
