/-
  Contracts of chapter 8's functions over boxes, of the model: EqualBoxes.
-/
import Derived.Test.YtaodpiikpojikaaC8
import Derived.Test.YtaodpiikpojikaaS2
namespace Go.Proofs.Ytaodpiikpojikaa.C8e
open Go.ChangeShapes Go.WideShapes Go.ChangeAt Go.RowKit Go.Deep
open S0 S1 S9 S10 Ty Dm Bx Fx C3 M3 M8 M10
set_option linter.unusedVariables false
theorem bytes_inj : ∀ (xs ys : List Int), (∀ x ∈ xs, 0 ≤ x ∧ x ≤ 255) → (∀ x ∈ ys, 0 ≤ x ∧ x ≤ 255) → (xs.map fun n => UInt8.ofNat n.toNat) = (ys.map fun n => UInt8.ofNat n.toNat) → xs = ys
  | [], [], _, _, _ => rfl
  | [], y :: ys, _, _, h => by simp at h
  | x :: xs, [], _, _, h => by simp at h
  | x :: xs, y :: ys, hx, hy, h => by
    simp only [List.map_cons, List.cons.injEq] at h
    obtain ⟨h1, h2⟩ := h
    have a := hx x (by simp)
    have b := hy y (by simp)
    have e := congrArg UInt8.toNat h1
    simp at e
    have e2 : x = y := by omega
    rw [e2, bytes_inj xs ys (fun z hz => hx z (by simp [hz])) (fun z hz => hy z (by simp [hz])) h2]
theorem same_bytes {xs ys : List Int} (hx : ∀ x ∈ xs, 0 ≤ x ∧ x ≤ 255) (hy : ∀ x ∈ ys, 0 ≤ x ∧ x ≤ 255) : ((strOfNums xs).toList == (strOfNums ys).toList) = decide (xs = ys) := by
  by_cases h : xs = ys
  · subst h; simp
  · rw [decide_eq_false h]
    refine beq_eq_false_iff_ne.2 (fun e => h (bytes_inj xs ys hx hy ?_))
    have e2 : (strOfNums xs).data = (strOfNums ys).data := by simpa [ByteArray.toList_eq] using e
    exact congrArg Array.toList e2
set_option maxHeartbeats 4000000 in
set_option maxRecDepth 100000 in
theorem specEql (w : World) (a b : Box) (us vs : List Value) (h : RdsL w w.heap.size a.dcs us) (h2 : RdsL w w.heap.size b.dcs vs) (ho : a.ok) (ho2 : b.ok) :
    Calls Try.prog 45 #[.agg us.toArray, .agg vs.toArray] w (Gives (.bool (eqlB a b)) w) := by
  obtain ⟨A, c, rfl, hr⟩ := Box.rds h
  obtain ⟨B, d, rfl, hs⟩ := Box.rds h2
  have bw : Below w.heap.size w ((w.alloc (.cells #[.int .i64 a.to, .int .i64 a.eph, .slice A a.data.length c, .int .i64 a.mac] 26)).alloc (.cells #[.int .i64 b.to, .int .i64 b.eph, .slice B b.data.length d, .int .i64 b.mac] 26)) := ((Below.refl _ _).alloc (Nat.le_refl _) _).alloc (by simp) _
  have HR := Lib.hid (hr.on bw)
  have HS := Lib.hid (hs.on bw)
  have HE := Lib.hid (same_bytes ho.data ho2.data)
  clear h h2 hr hs ho ho2
  have fin : eqlB a b = ((a.to == b.to) && ((a.eph == b.eph) && ((a.mac == b.mac) && decide (a.data = b.data)))) := by
    unfold eqlB
    by_cases h1 : a.to = b.to <;> by_cases h2 : a.eph = b.eph <;> by_cases h3 : a.mac = b.mac <;> by_cases h4 : a.data = b.data <;> simp [h1, h2, h3, h4]
  have HF := Lib.hid fin
  clear fin
  cases c1 : (a.to == b.to) with
  | false =>
    have HX := Lib.hid (show eqlB a b = false by rw [HF.out, c1]; rfl)
    go_enter Try.func45, Try.ntmps45
    go_wp2
    go_ret
    exact ⟨by rw [HX.out]; rfl, bw⟩
  | true =>
    cases c2 : (a.eph == b.eph) with
    | false =>
      have HX := Lib.hid (show eqlB a b = false by rw [HF.out, c1, c2]; rfl)
      go_enter Try.func45, Try.ntmps45
      go_wp2
      go_ret
      exact ⟨by rw [HX.out]; rfl, bw⟩
    | true =>
      cases c3 : (a.mac == b.mac) with
      | false =>
        have HX := Lib.hid (show eqlB a b = false by rw [HF.out, c1, c2, c3]; rfl)
        go_enter Try.func45, Try.ntmps45
        go_wp2
        go_ret
        exact ⟨by rw [HX.out]; rfl, bw⟩
      | true =>
        have HX := Lib.hid (show eqlB a b = decide (a.data = b.data) by rw [HF.out, c1, c2, c3]; rfl)
        go_enter Try.func45, Try.ntmps45
        go_wp2_with fail
        (with_reducible refine (S2.specEqualBytes _ A B a.data.length b.data.length c d a.data b.data HR.out HS.out).mono ?_); rintro e w2 ⟨rfl, b2⟩
        rw [HE.out, ← HX.out]
        go_wp2
        go_ret
        exact ⟨rfl, bw.trans (b2.mono bw.size)⟩
end Go.Proofs.Ytaodpiikpojikaa.C8e
