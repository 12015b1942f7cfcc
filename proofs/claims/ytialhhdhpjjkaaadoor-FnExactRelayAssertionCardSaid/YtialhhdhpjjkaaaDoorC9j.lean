/-
  Contracts of chapter 9's hosts and origins, of the program.
-/
import Derived.Test.YtialhhdhpjjkaaaDoorC9b
import Derived.Test.YtialhhdhpjjkaaaDoorC9h
import Derived.Test.YtialhhdhpjjkaaaDoorM13i
import Derived.Deep.RegionHeld3
import Derived.Deep.RegionLaw
namespace Go.Proofs.YtialhhdhpjjkaaaDoor.C9j
open Go.ChangeShapes Go.WideShapes Go.ChangeAt Go.RowKit
open S0 S9 Dm Fx M12 M13 C9
set_option linter.unusedVariables false
set_option linter.unusedSimpArgs false
theorem implHost (s : ByteArray) (w : World) (hs : s.size ≤ 4294967296) : Calls Tryd.prog 47 #[.string s] w (Gives (.bool (host (bts s))) w) := C9h.implHost s w hs
set_option maxHeartbeats 1600000 in
set_option maxRecDepth 100000 in
theorem implOrg (w : World) (x : Fx.Origin) (vs : List Value) (h : RdsL w w.heap.size x.dcs vs) (hs : x.Host.size ≤ 4294967296) : Calls Tryd.prog 32 #[.agg vs.toArray] w (Gives (.bool (orgB x)) w) := by
  obtain rfl := Origin.rds h
  obtain ⟨r, hr⟩ : ∃ r, r = orgB x := ⟨_, rfl⟩
  rw [← hr]
  have HR := Lib.hid hr
  clear hr h
  have b0 : Below w.heap.size w (w.alloc (.cells #[.bool x.Secure, .string x.Host, .int .i64 x.Port] 33)) := (Below.refl _ _).alloc (Nat.le_refl _) _
  have HH := Lib.hid (show Calls Tryd.prog 47 #[.string x.Host] (w.alloc (.cells #[.bool x.Secure, .string x.Host, .int .i64 x.Port] 33)) (Gives (.bool (host (bts x.Host))) (w.alloc (.cells #[.bool x.Secure, .string x.Host, .int .i64 x.Port] 33))) from implHost x.Host _ hs)
  cases hh : host (bts x.Host) with
  | false =>
    obtain rfl : r = false := by rw [HR.out]; unfold orgB; rw [hh]; rfl
    rw [hh] at HH
    go_enter Tryd.func32, Tryd.ntmps32
    go_wp2_with fail
    (refine HH.out.mono ?_); rintro e w2 ⟨rfl, b2⟩
    go_wp2
    go_ret
    exact ⟨rfl, b0.trans (b2.mono b0.size)⟩
  | true =>
    rw [hh] at HH
    have hp2 : r = (decide (1 ≤ x.Port) && decide (x.Port ≤ 65535)) := by rw [HR.out]; unfold orgB; rw [hh]; rfl
    clear HR hh
    go_enter Tryd.func32, Tryd.ntmps32
    go_wp2_with fail
    (refine HH.out.mono ?_); rintro e w2 ⟨rfl, b2⟩
    have c2 : w2.cell? ⟨w.heap.size, 2, none⟩ = some (.int .i64 x.Port) := (b2.cell (p := ⟨w.heap.size, 2, none⟩) (by simp)).trans (by exact cell_of_row _ _ 2 _ 33 (0, 0) (heap_alloc_last w _))
    by_cases hp : 1 ≤ x.Port ∧ x.Port ≤ 65535
    · obtain rfl : r = true := by rw [hp2, decide_eq_true hp.1, decide_eq_true hp.2]; rfl
      clear hp2
      go_wp2_with fail
      (with_reducible refine (C1.implIn_t _ 1 65535 _ hp.1 hp.2).mono ?_); rintro e w3 ⟨rfl, rfl⟩
      go_wp2
      go_ret
      exact ⟨rfl, b0.trans (b2.mono b0.size)⟩
    · obtain rfl : r = false := by
        rw [hp2]
        by_cases h1 : 1 ≤ x.Port
        · rw [decide_eq_true h1, decide_eq_false (by omega)]; rfl
        · rw [decide_eq_false h1]; rfl
      clear hp2
      go_wp2_with fail
      (with_reducible refine (C1.implIn_f _ 1 65535 _ (by omega)).mono ?_); rintro e w3 ⟨rfl, rfl⟩
      go_wp2
      go_ret
      exact ⟨rfl, b0.trans (b2.mono b0.size)⟩
set_option maxRecDepth 100000 in
theorem implSiteH (w : World) (s : ByteArray) (hs : s.size ≤ 16000000) : Calls Tryd.prog 36 #[.string s] w (Gives (.int .i64 (M3.derive 173 (C3b.sbytes s))) w) := by
  go_enter Tryd.func36, Tryd.ntmps36
  go_wp2_with fail
  (with_reducible refine (C3b.implDerive _ 173 s (by omega) (by omega) (by omega)).mono ?_); rintro e w2 ⟨rfl, b2⟩
  go_wp2
  go_ret
  exact ⟨rfl, b2⟩
end Go.Proofs.YtialhhdhpjjkaaaDoor.C9j
