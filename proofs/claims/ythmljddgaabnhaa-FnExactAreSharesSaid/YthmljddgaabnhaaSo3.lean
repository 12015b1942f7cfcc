/-
  How a slice of shares that came in is opened.
-/
import Derived.Test.YthmljddgaabnhaaS3
import Derived.Deep.SlicePairs
import Derived.ChangeSame
namespace Go.Proofs.Ythmljddgaabnhaa.So3
open Go.ChangeShapes Go.WideShapes Go.ChangeAt Go.RowKit Go.Deep
open S0 S3
set_option linter.unusedVariables false
theorem spot_none {w : World} {a : Addr} {v : Value} (h : w.cell? (a.add 0) = some v) : a.spot = none := by
  cases a with
  | mk b o s =>
    cases s with
    | none => rfl
    | some s =>
      exfalso
      unfold Addr.add at h
      rw [if_pos rfl] at h
      simp only [World.cell?] at h
      split at h
      · simp at h
      · simp at h
theorem add_eq {a : Addr} (h : a.spot = none) (k : Nat) : a.add k = ⟨a.block, a.off + k, none⟩ := by
  cases a with
  | mk b o s =>
    obtain rfl : s = none := h
    unfold Addr.add
    split
    · next h0 => subst h0; rfl
    · rfl
theorem block_lt {w : World} {a : Addr} {v : Value} (h : w.cell? a = some v) : a.block < w.heap.size := by
  by_cases hb : a.block < w.heap.size
  · exact hb
  · have e : w.heap[a.block]? = none := by rw [Array.getElem?_eq_none (by omega)]
    simp [World.cell?, e] at h
/-- A list out of its pairs. -/
def flat (f : Nat → Int) : Nat → List Int
  | 0 => []
  | n + 1 => flat f n ++ [f n]
theorem flat_len (f : Nat → Int) (n : Nat) : (flat f n).length = n := by
  induction n with
  | zero => rfl
  | succ n ih => simp [flat, ih]
theorem flat_get (f : Nat → Int) (n j : Nat) (h : j < n) : (flat f n).getD j 0 = f j := by
  induction n with
  | zero => omega
  | succ n ih =>
    unfold flat
    by_cases hj : j < n
    · rw [List.getD_eq_getElem?_getD, List.getElem?_append_left (by rw [flat_len]; omega), ← List.getD_eq_getElem?_getD]; exact ih hj
    · obtain rfl : j = n := by omega
      rw [List.getD_eq_getElem?_getD, List.getElem?_append_right (by rw [flat_len]; omega), flat_len]
      simp
theorem flat_mem (f : Nat → Int) (P : Int → Prop) (n : Nat) (h : ∀ j, j < n → P (f j)) : ∀ x ∈ flat f n, P x := by
  induction n with
  | zero => intro x hx; cases hx
  | succ n ih =>
    intro x hx
    unfold flat at hx
    rcases List.mem_append.1 hx with hx | hx
    · exact ih (fun j hj => h j (by omega)) x hx
    · obtain rfl : x = f n := by simpa using hx
      exact h n (by omega)
theorem cells_share : Try.prog.cellsOf 60 = 2 := by kernel_rfl
theorem cells_int : Try.prog.cellsOf 3 = 1 := by kernel_rfl
theorem shares {H : Type} {enc : TypeId × Value → H} {W : World} {b0 : Nat} {v : Value} {d : DataW H} {ps : List MemPlace}
    (hval : Value.okWide Try.prog W .any b0 44 v) (h : DataW.Trod enc Try.prog W 0 (fun _ => true) true 44 v d ps) :
    ∃ (A : Option Addr) (n c : Nat) (xs : List Int), v = .slice A n c ∧ Rd W W.heap.size 2 A n (ints .i64 xs) ∧ n ≤ maxLen ∧ ∀ x ∈ xs, (Lit.int .i64 x).wf = true := by
  obtain ⟨a1, len, cap, rfl⟩ := okWide_slice Try.underlying44 hval
  obtain ⟨fuel, hf⟩ := h
  have hs := Try.underlying60
  rcases open_slice_pairs Try.underlying44 hs cells_share rfl rfl cells_int cells_int hf with ⟨hcs, _⟩ | ⟨a, len', cap', m, n', V0, V1, D0, D1, P0, P1, hcs, _, hl, hm, hmm, _, hall⟩
  · simp [Value.cells] at hcs
    obtain ⟨rfl, rfl, rfl⟩ := hcs
    exact ⟨none, 0, 0, [], rfl, Rd.nil, Nat.zero_le _, fun x hx => by cases hx⟩
  · simp [Value.cells] at hcs
    obtain ⟨rfl, rfl, rfl⟩ := hcs
    simp only [if_true] at hmm
    subst hmm
    have each : ∀ j, ∃ x : Int, j < len * 2 → W.cell? (a.add j) = some (.int .i64 x) ∧ (Lit.int .i64 x).wf = true := by
      intro j
      by_cases hj : j < len * 2
      · obtain ⟨c0, c1, t0, t1⟩ := hall (j / 2) (by omega)
        obtain ⟨x, e0, _, w0⟩ := DataW.trod_int Try.underlying3 t0
        obtain ⟨y, e1, _, w1⟩ := DataW.trod_int Try.underlying3 t1
        injection e0 with e0
        injection e1 with e1
        rw [e0] at c0
        rw [e1] at c1
        have hp : j = j / 2 * 2 ∨ j = j / 2 * 2 + 1 := by omega
        rcases hp with hp | hp
        · exact ⟨x, fun _ => ⟨by rw [hp]; exact c0, w0⟩⟩
        · exact ⟨y, fun _ => ⟨by rw [hp]; exact c1, w1⟩⟩
      · exact ⟨0, fun h => absurd h hj⟩
    let f : Nat → Int := fun j => Classical.choose (each j)
    have hf2 : ∀ j, j < len * 2 → W.cell? (a.add j) = some (.int .i64 (f j)) ∧ (Lit.int .i64 (f j)).wf = true := fun j hj => Classical.choose_spec (each j) hj
    refine ⟨some a, len, _, flat f (len * 2), rfl, ⟨by rw [ints_len, flat_len], fun hn => ?_⟩, by omega, flat_mem f _ _ (fun j hj => (hf2 j hj).2)⟩
    have h0 := (hf2 0 (by omega)).1
    have hsp := spot_none h0
    refine ⟨a.block, a.off, by cases a; simp_all, ?_, fun j hj => ?_⟩
    · rw [add_eq hsp] at h0
      exact block_lt (a := ⟨a.block, a.off + 0, none⟩) h0
    · have hc := (hf2 j hj).1
      rw [add_eq hsp] at hc
      rw [hc, ints_get .i64 _ j (by rw [flat_len]; exact hj), flat_get f _ j hj]
end Go.Proofs.Ythmljddgaabnhaa.So3
