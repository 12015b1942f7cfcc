import Derived.Test.YtogoppknimpkbaaGreatDoorBc
import Derived.Test.YtogoppknimpkbaaGreatDoorC10
import Derived.Test.YtogoppknimpkbaaGreatDoorDa16
/-
  What chapter 16 says of browsers, in plain words.
-/
namespace Go.Proofs.YtogoppknimpkbaaGreatDoor.M24
open S0 S1 S9 Dm Fx M3 M8 C3 M12 M13 C10 Das
set_option linter.unusedVariables false
abbrev Tb := Fx.Tab
abbrev Br := Fx.Browser
/-- Every host in the browser is short. -/
def short (b : Br) : Prop := ∀ t ∈ b.Tabs, t.Origin.Host.size ≤ 4294967296 ∧ t.Top.Host.size ≤ 4294967296
theorem short_at {b : Br} (h : short b) (k : Nat) : (b.Tabs.getD k zTab).Origin.Host.size ≤ 4294967296 ∧ (b.Tabs.getD k zTab).Top.Host.size ≤ 4294967296 := by
  rw [List.getD_eq_getElem?_getD]
  rcases Nat.lt_or_ge k b.Tabs.length with hk | hk
  · rw [List.getElem?_eq_getElem hk]; exact h _ (List.getElem_mem hk)
  · rw [List.getElem?_eq_none hk]; decide
def inT (n lo hi : Int) : Bool := decide (lo ≤ n) && decide (n ≤ hi)
theorem inT_ok {n lo hi : Int} (h : inT n lo hi = true) : lo ≤ n ∧ n ≤ hi := by unfold inT at h; simpa using h
theorem inT_f {n lo hi : Int} (h : ¬ (lo ≤ n ∧ n ≤ hi)) : inT n lo hi = false := by cases e : inT n lo hi with | false => rfl | true => exact absurd (inT_ok e) h
def isTab (b : Br) (t : Int) : Bool := inT t 0 ((b.Tabs.length : Int) - 1)
def tabAt (b : Br) (t : Int) : Tb := b.Tabs.getD t.toNat zTab
theorem isTab_lt {b : Br} {t : Int} (h : isTab b t = true) : 0 ≤ t ∧ t.toNat < b.Tabs.length := by have := inT_ok h; omega
def mayT (x : Tb) (z : ByteArray) : Bool := mayO x.Origin (bts z) && sameO x.Origin x.Top
def canB (b : Br) (t : Int) (z : ByteArray) : Bool := isTab b t && mayT (tabAt b t) z
theorem canB_i {b : Br} {t : Int} {z : ByteArray} (h : isTab b t = false) : canB b t z = false := by unfold canB; rw [h]; rfl
theorem canB_m {b : Br} {t : Int} {z : ByteArray} (h : mayO (tabAt b t).Origin (bts z) = false) : canB b t z = false := by unfold canB mayT; rw [h]; simp
theorem canB_is {b : Br} {t : Int} {z : ByteArray} (h : canB b t z = true) : isTab b t = true := by
  cases e : isTab b t with
  | true => rfl
  | false => rw [canB_i e] at h; cases h
def openB (b : Br) (o p : Fx.Origin) : Bool := orgB o && (orgB p && decide (b.Tabs.length < 8))
def openX (b : Br) (o p : Fx.Origin) : Br := match openB b o p with | true => ⟨b.Store, b.Tabs ++ [⟨o, p⟩], b.Asked⟩ | false => b
theorem openX_t {b : Br} {o p : Fx.Origin} (h : openB b o p = true) : openX b o p = ⟨b.Store, b.Tabs ++ [⟨o, p⟩], b.Asked⟩ := by unfold openX; rw [h]
theorem openX_f {b : Br} {o p : Fx.Origin} (h : openB b o p = false) : openX b o p = b := by unfold openX; rw [h]
theorem openB_t {b : Br} {o p : Fx.Origin} (h1 : orgB o = true) (h2 : orgB p = true) (h3 : b.Tabs.length < 8) : openB b o p = true := by unfold openB; rw [h1, h2, decide_eq_true h3]; rfl
theorem openB_f1 {b : Br} {o p : Fx.Origin} (h : orgB o = false) : openB b o p = false := by unfold openB; rw [h]; rfl
theorem openB_f2 {b : Br} {o p : Fx.Origin} (h : orgB p = false) : openB b o p = false := by unfold openB; rw [h]; simp
theorem openB_f3 {b : Br} {o p : Fx.Origin} (h : ¬ b.Tabs.length < 8) : openB b o p = false := by unfold openB; rw [decide_eq_false h]; simp
open Classical in
noncomputable def navT (x : Tb) (o : Fx.Origin) : Tb := ⟨o, if x.Top = x.Origin then o else x.Top⟩
def navB (b : Br) (t : Int) (o : Fx.Origin) : Bool := isTab b t && orgB o
noncomputable def navX (b : Br) (t : Int) (o : Fx.Origin) : Br := match navB b t o with | true => ⟨b.Store, b.Tabs.set t.toNat (navT (tabAt b t) o), b.Asked⟩ | false => b
theorem navX_t {b : Br} {t : Int} {o : Fx.Origin} (h : navB b t o = true) : navX b t o = ⟨b.Store, b.Tabs.set t.toNat (navT (tabAt b t) o), b.Asked⟩ := by unfold navX; rw [h]
theorem navX_f {b : Br} {t : Int} {o : Fx.Origin} (h : navB b t o = false) : navX b t o = b := by unfold navX; rw [h]
theorem navB_f1 {b : Br} {t : Int} {o : Fx.Origin} (h : isTab b t = false) : navB b t o = false := by unfold navB; rw [h]; rfl
theorem navB_f2 {b : Br} {t : Int} {o : Fx.Origin} (h : orgB o = false) : navB b t o = false := by unfold navB; rw [h]; simp
theorem navB_t {b : Br} {t : Int} {o : Fx.Origin} (h1 : isTab b t = true) (h2 : orgB o = true) : navB b t o = true := by unfold navB; rw [h1, h2]; rfl
/-- One more question. -/
def ask (b : Br) : Br := ⟨b.Store, b.Tabs, IntKind.i64.wrap (b.Asked + 1)⟩
def regX (b : Br) (t : Int) (z : ByteArray) : Br := match canB b t z with | true => ask b | false => b
theorem regX_t {b : Br} {t : Int} {z : ByteArray} (h : canB b t z = true) : regX b t z = ask b := by unfold regX; rw [h]
theorem regX_f {b : Br} {t : Int} {z : ByteArray} (h : canB b t z = false) : regX b t z = b := by unfold regX; rw [h]
def regB (b : Br) (t : Int) (z : ByteArray) (c : Bool) : Bool := canB b t z && (c && vst b.Store)
noncomputable def regP (b : Br) (t : Int) (z : ByteArray) (k : Int) (c : Bool) : Int := match regB b t z c with | true => pubS b.Store z k | false => 0
theorem regB_f1 {b : Br} {t : Int} {z : ByteArray} {c : Bool} (h : canB b t z = false) : regB b t z c = false := by unfold regB; rw [h]; rfl
theorem regB_f2 {b : Br} {t : Int} {z : ByteArray} {c : Bool} (h : c = false) : regB b t z c = false := by unfold regB; rw [h]; simp
theorem regB_f3 {b : Br} {t : Int} {z : ByteArray} {c : Bool} (h : vst b.Store = false) : regB b t z c = false := by unfold regB; rw [h]; simp
theorem regB_t {b : Br} {t : Int} {z : ByteArray} {c : Bool} (h1 : canB b t z = true) (h2 : c = true) (h3 : vst b.Store = true) : regB b t z c = true := by unfold regB; rw [h1, h2, h3]; rfl
theorem regP_t {b : Br} {t : Int} {z : ByteArray} {k : Int} {c : Bool} (h : regB b t z c = true) : regP b t z k c = pubS b.Store z k := by unfold regP; rw [h]
theorem regP_f {b : Br} {t : Int} {z : ByteArray} {k : Int} {c : Bool} (h : regB b t z c = false) : regP b t z k c = 0 := by unfold regP; rw [h]
open Classical in
noncomputable def eqlB (a b : Br) : Bool := decide (a = b)
open Classical in
theorem eqlB_t {a b : Br} (h1 : a.Store = b.Store) (h2 : a.Tabs = b.Tabs) (h3 : a.Asked = b.Asked) : eqlB a b = true := by
  unfold eqlB
  obtain ⟨s, l, n⟩ := a
  obtain ⟨s', l', n'⟩ := b
  exact decide_eq_true (by rw [show s = s' from h1, show l = l' from h2, show n = n' from h3])
open Classical in
theorem eqlB_s {a b : Br} (h : a.Store ≠ b.Store) : eqlB a b = false := by unfold eqlB; exact decide_eq_false fun e => h (by rw [e])
open Classical in
theorem eqlB_l {a b : Br} (h : a.Tabs ≠ b.Tabs) : eqlB a b = false := by unfold eqlB; exact decide_eq_false fun e => h (by rw [e])
open Classical in
theorem eqlB_a {a b : Br} (h : a.Asked ≠ b.Asked) : eqlB a b = false := by unfold eqlB; exact decide_eq_false fun e => h (by rw [e])
theorem list_ext {l m : List Tb} (hn : l.length = m.length) (h : ∀ j, j < l.length → l.getD j zTab = m.getD j zTab) : l = m := by
  refine List.ext_getElem hn fun j h1 h2 => ?_
  have := h j h1
  rw [List.getD_eq_getElem?_getD, List.getD_eq_getElem?_getD, List.getElem?_eq_getElem h1, List.getElem?_eq_getElem h2] at this
  exact this
theorem list_at {l m : List Tb} (e : l = m) (j : Nat) : l.getD j zTab = m.getD j zTab := by rw [e]
end Go.Proofs.YtogoppknimpkbaaGreatDoor.M24
