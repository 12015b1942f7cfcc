/-
  Contracts of chapter 9's origins, of the program.
-/
import Derived.Test.YtckplhmielckeaaC9b
import Derived.Test.YtckplhmielckeaaC9h
import Derived.Test.YtckplhmielckeaaC9j
import Derived.Test.YtckplhmielckeaaC9k
import Derived.Test.YtckplhmielckeaaSx
import Derived.Deep.RegionHeld3
import Derived.Deep.RegionLaw
namespace Go.Proofs.Ytckplhmielckeaa.C9i
open Go.ChangeShapes Go.WideShapes Go.ChangeAt Go.RowKit
open S0 S9 Dm Fx M12 M13 C9
set_option linter.unusedVariables false
set_option linter.unusedSimpArgs false
theorem implHost (s : ByteArray) (w : World) (hs : s.size ≤ 4294967296) : Calls Try.prog 90 #[.string s] w (Gives (.bool (host (bts s))) w) := C9j.implHost s w hs
theorem two_labels {s : List UInt8} : decide (2 ≤ (split s).length) = decide ((46 : UInt8) ∈ s) := by
  rw [decide_eq_decide]
  induction s with
  | nil => simp [split]
  | cons c cs ih =>
    by_cases hc : c = 46
    · subst hc
      rw [split_at]
      have := List.length_pos_iff.2 (split_ne cs)
      simp
      omega
    · cases hs : split cs with
      | nil => exact absurd hs (split_ne cs)
      | cons x xs =>
        rw [hs] at ih
        rw [split_off hc hs]
        simp only [List.length_cons] at ih ⊢
        rw [ih]
        simp only [List.mem_cons]
        exact ⟨fun h => Or.inr h, fun h => by rcases h with h | h; exact absurd h.symm hc; exact h⟩
set_option maxHeartbeats 3200000 in
set_option maxRecDepth 100000 in
theorem implSiteN (s : ByteArray) (w : World) (hs : s.size ≤ 4294967296) : Calls Try.prog 64 #[.string s] w (Gives (.bool (host (bts s) && decide (2 ≤ (split (bts s)).length))) w) := by
  rw [two_labels]
  cases hh : host (bts s) with
  | false =>
    have HH := Lib.hid (fun wx : World => show Calls Try.prog 90 #[.string s] wx (Gives (.bool false) wx) from hh ▸ implHost s wx hs)
    rw [Bool.false_and]
    clear hh
    go_enter Try.func64, Try.ntmps64
    go_wp2_with fail
    (refine (HH.out _).mono ?_); rintro e w3 ⟨rfl, b3⟩
    go_wp2
    go_ret
    exact ⟨rfl, b3⟩
  | true =>
    have HH := Lib.hid (fun wx : World => show Calls Try.prog 90 #[.string s] wx (Gives (.bool true) wx) from hh ▸ implHost s wx hs)
    obtain ⟨m, hm⟩ : ∃ m, m = decide ((46 : UInt8) ∈ s.data.toList) := ⟨_, rfl⟩
    have HLS := Lib.hid (fun wx : World => show Calls Try.prog 91 #[.string s, .string ⟨#[46]⟩] wx fun e w' => e = .returned (.bool m) ∧ w' = wx from hm ▸ Sx.hasByte s 46 wx)
    rw [Bool.true_and, show decide ((46 : UInt8) ∈ bts s) = m from hm.symm]
    clear hh hm
    go_enter Try.func64, Try.ntmps64
    go_wp2_with fail
    (refine (HH.out _).mono ?_); rintro e w3 ⟨rfl, b3⟩
    go_wp2_with fail
    (refine (HLS.out _).mono ?_); rintro e w4 ⟨rfl, rfl⟩
    go_wp2
    go_ret
    exact ⟨rfl, b3⟩
end Go.Proofs.Ytckplhmielckeaa.C9i
