import Derived.Test.YtogoppknimpkbaaGreatDoorC16a
import Derived.Test.YtogoppknimpkbaaGreatDoorM17
/-
  What FnBrowsers says, in plain words.
-/
namespace Go.Proofs.YtogoppknimpkbaaGreatDoor.M25
open S0 S1 S9 Dm Fx M3 M8 C3 M12 M13 C10 C13b M24 C16a
set_option linter.unusedVariables false
def evil : Fx.Origin := ⟨true, ⟨#[101, 118, 105, 108, 46, 110, 101, 116]⟩, 443⟩
def bank : ByteArray := ⟨#[98, 97, 110, 107, 46, 99, 111, 109]⟩
theorem evil_no : mayO evil (bts bank) = false := by decide +kernel
theorem ask_ok {b : Fx.Browser} {t : Int} {z : ByteArray} {c : Bool} (h : askB b t z c = true) : canB b t z = true ∧ c = true ∧ mkB b.Store (tabAt b t).Origin z = true := by
  unfold askB at h
  simp only [Bool.and_eq_true] at h
  exact ⟨h.1, h.2.1, h.2.2⟩
theorem ask_chk {b : Fx.Browser} {t : Int} {z : ByteArray} {k ch : Int} {c : Bool} (h : askB b t z c = true) : C13.chkA (pubS b.Store z k) (askO b t z k ch c) z ch b.Store.Counter = 0 ∧ (askX b t z c).Store.Counter = IntKind.i64.wrap (b.Store.Counter + 1) := by
  obtain ⟨h1, h2, h3⟩ := ask_ok h
  obtain ⟨e1, e2, e3⟩ := ask_5 (k := k) (ch := ch) h1 h2 h3
  have hs : signB b.Store = true := by unfold mkB at h3; exact (Bool.and_eq_true_iff.1 h3).2
  have hx : signX b.Store = ⟨b.Store.Vendor, b.Store.Serial, b.Store.Seed, b.Store.Counter + 1⟩ := by unfold signX; rw [if_pos hs]
  have hv : 0 ≤ b.Store.Counter ∧ b.Store.Counter ≤ 1000000 := by
    unfold signB vst at hs
    simp only [Bool.and_eq_true, decide_eq_true_eq] at hs
    exact hs.1.2
  rw [e1, e2]
  constructor
  · have hm : mkA b.Store (tabAt b t).Origin z k ch true = ⟨z, str (fmtO (tabAt b t).Origin), ch, k, true, b.Store.Counter + 1, signV b.Store z k (C13m.msg (a0 (tabAt b t).Origin z k ch true))⟩ := by
      unfold mkA
      rw [if_pos h3, hx]
    rw [hm]
    have := (M17.made k ch h3).yes (ctr := b.Store.Counter)
    rw [this]
    exact if_pos (by show b.Store.Counter < b.Store.Counter + 1; omega)
  · show (mkS b.Store (tabAt b t).Origin z).Counter = _
    unfold mkS
    rw [if_pos h3, hx, IntWalk.i64_in _ (by omega)]
theorem ask_asked {b : Fx.Browser} {t : Int} {z : ByteArray} {c : Bool} (h : canB b t z = false) : (askX b t z c).Asked = b.Asked := by
  rw [(ask_1 (k := 0) (ch := 0) h).1]
theorem ask_not {b : Fx.Browser} {t : Int} {z : ByteArray} {c : Bool} (h : canB b t z = false) : askB b t z c = false := (ask_1 (k := 0) (ch := 0) h).2.2
theorem ask_reg {b : Fx.Browser} {t : Int} {z : ByteArray} {c : Bool} (h : askB b t z c = true) : regB b t z c = true := by
  obtain ⟨h1, h2, h3⟩ := ask_ok h
  refine regB_t h1 h2 ?_
  unfold mkB at h3
  have h4 := (Bool.and_eq_true_iff.1 h3).2
  unfold signB at h4
  exact (Bool.and_eq_true_iff.1 h4).1
theorem reg_ok {b : Fx.Browser} {t : Int} {z : ByteArray} {c : Bool} (h : regB b t z c = true) : canB b t z = true ∧ c = true := by
  unfold regB at h
  simp only [Bool.and_eq_true] at h
  exact ⟨h.1, h.2.1⟩
theorem reg_store (b : Fx.Browser) (t : Int) (z : ByteArray) : (regX b t z).Store = b.Store := by
  cases e : canB b t z with
  | false => rw [regX_f e]
  | true => rw [regX_t e]; rfl
theorem nav_can {b : Fx.Browser} {t : Int} (h : navB b t evil = true) : canB (navX b t evil) t bank = false := by
  have hi : isTab b t = true := by unfold navB at h; exact (Bool.and_eq_true_iff.1 h).1
  have hl := isTab_lt hi
  refine canB_m ?_
  have e : (tabAt (navX b t evil) t).Origin = evil := by
    rw [navX_t h]
    unfold tabAt
    show ((b.Tabs.set t.toNat (navT (tabAt b t) evil)).getD t.toNat _).Origin = evil
    rw [List.getD_eq_getElem?_getD, List.getElem?_set_self hl.2]
    rfl
  rw [e]
  exact evil_no
theorem eql_self (b : Fx.Browser) : eqlB b b = true := eqlB_t rfl rfl rfl
end Go.Proofs.YtogoppknimpkbaaGreatDoor.M25
