import Derived.Test.YtllaacdikjffmaaGreatM22
import Derived.Test.YtllaacdikjffmaaGreatC12e
/-
  What chapter 15 says of logins begun, in plain words.
-/
namespace Go.Proofs.YtllaacdikjffmaaGreat.M23
open S0 S1 S9 Dm Fx M3 M8 C3 M12 M13 M18 M21 M22 Das
set_option linter.unusedVariables false
noncomputable def begB (s : Fx.Site) (i t : Int) : Bool := fndB s i && C12e.issOk s.Book i t
noncomputable def begX (s : Fx.Site) (i t : Int) : Fx.Site := match begB s i t with | true => ⟨s.Name, s.Accounts, C12e.issX s.Book i t, s.Logins⟩ | false => s
noncomputable def begI (s : Fx.Site) (i t : Int) : Int := match begB s i t with | true => (C12e.issC s.Book i t).Id | false => 0
noncomputable def begV (s : Fx.Site) (i t : Int) : Int := match begB s i t with | true => C12.cval (C12e.issX s.Book i t) (C12e.issC s.Book i t).Id | false => 0
theorem beg_t {s : Fx.Site} {i t : Int} (e : begB s i t = true) : begX s i t = ⟨s.Name, s.Accounts, C12e.issX s.Book i t, s.Logins⟩ ∧ begI s i t = (C12e.issC s.Book i t).Id ∧ begV s i t = C12.cval (C12e.issX s.Book i t) (C12e.issC s.Book i t).Id := by
  unfold begX begI begV; rw [e]; exact ⟨rfl, rfl, rfl⟩
theorem beg_f {s : Fx.Site} {i t : Int} (e : begB s i t = false) : begX s i t = s ∧ begI s i t = 0 ∧ begV s i t = 0 := by
  unfold begX begI begV; rw [e]; exact ⟨rfl, rfl, rfl⟩
theorem beg_f1 {s : Fx.Site} {i t : Int} (h : fndB s i = false) : begB s i t = false := by unfold begB; rw [h]; rfl
theorem beg_f2 {s : Fx.Site} {i t : Int} (h : C12e.issOk s.Book i t = false) : begB s i t = false := by unfold begB; rw [h]; simp
theorem beg_y {s : Fx.Site} {i t : Int} (h1 : fndB s i = true) (h2 : C12e.issOk s.Book i t = true) : begB s i t = true := by unfold begB; rw [h1, h2]; rfl
/-- A book that has issued a challenge is in range, and so is the challenge. -/
theorem iss_okB {b : Fx.ChallengeBook} (hb : b.ok) {a t : Int} (e : C12e.issOk b a t = true) : (C12e.issX b a t).ok ∧ (-9223372036854775808 ≤ (C12e.issC b a t).Id ∧ (C12e.issC b a t).Id ≤ 9223372036854775807) := by
  obtain ⟨e1, e2⟩ := C12e.issX_t e
  unfold C12e.issOk at e
  simp only [Bool.and_eq_true, decide_eq_true_eq] at e
  obtain ⟨⟨⟨hv, -⟩, ha⟩, ht⟩ := e
  obtain ⟨h0, h1, hl⟩ := C12e.vbk_parts hv
  rw [e1, e2]
  refine ⟨⟨hb.Seed, by show -9223372036854775808 ≤ b.Next + 1 ∧ b.Next + 1 ≤ 9223372036854775807; omega, ?_, fun x hx => ?_⟩, by show -9223372036854775808 ≤ b.Next ∧ b.Next ≤ 9223372036854775807; omega⟩
  · show (b.Open.drop (b.Open.length - 15) ++ [_]).length ≤ maxLen
    rw [List.length_append, List.length_drop]
    unfold maxLen
    simp only [List.length_cons, List.length_nil]
    omega
  · rcases List.mem_append.1 hx with h | h
    · exact hb.Open x (List.mem_of_mem_drop h)
    · rw [List.mem_singleton.1 h]
      exact ⟨by show -9223372036854775808 ≤ b.Next ∧ b.Next ≤ 9223372036854775807; omega, by show -9223372036854775808 ≤ a ∧ a ≤ 9223372036854775807; omega, by show -9223372036854775808 ≤ t + 5 ∧ t + 5 ≤ 9223372036854775807; omega⟩
end Go.Proofs.YtllaacdikjffmaaGreat.M23
