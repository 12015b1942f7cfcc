/-
  The shapes of data with memory in it, and how an argument of such a shape is opened: what came in reads as a datum of its shape.
-/
import Derived.Test.YtoedfeacpllkeaaS9
import Derived.Deep.Slices
import Derived.ChangeArms
namespace Go.Proofs.Ytoedfeacpllkeaa.Ty
open Go.ChangeShapes Go.WideShapes Go.ChangeAt Go.RowKit Go.Deep
open S0 S1 S9
set_option linter.unusedVariables false
/-- A shape: a number, a bool, a string, a slice (E: its elements' type as it came in; D: the type that the datum names), a struct's fields in order. -/
inductive Ty
  | int (kd : IntKind)
  | bool
  | str
  | slice (E D : TypeId) (e : Ty)
  | done
  | cons (f r : Ty)
/-- How many cells. -/
def Ty.size : Ty → Nat
  | .int _ => 1
  | .bool => 1
  | .str => 1
  | .slice _ _ _ => 1
  | .done => 0
  | .cons f r => f.size + r.size
mutual
/-- Type t of the program has the shape. -/
def fits (P : Program) : Ty → TypeId → Bool
  | .int kd, t => match P.underlying t with | some (.int k) => decide (k = kd) | _ => false
  | .bool, t => match P.underlying t with | some .bool => true | _ => false
  | .str, t => match P.underlying t with | some .string => true | _ => false
  | .slice E D e, t => (match P.underlying t with | some (.slice u) => decide (u = E) | _ => false) && decide (P.cellsOf E = e.size) && decide (0 < e.size) && fits P e E
  | .done, t => false
  | .cons f r, t => match P.underlying t with | some (.struct fs) => decide (P.cellsOf t = f.size + r.size) && (match fs.toList with | [] => false | g :: gs => decide (g.offset = 0) && decide (P.cellsOf g.type = f.size) && fits P f g.type && fitsF P r gs f.size) | _ => false
/-- .. fields from an offset on. -/
def fitsF (P : Program) : Ty → List Field → Nat → Bool
  | .done, fs, _ => fs.isEmpty
  | .cons f r, fs, off => match fs with | [] => false | g :: gs => decide (g.offset = off) && decide (P.cellsOf g.type = f.size) && fits P f g.type && fitsF P r gs (off + f.size)
  | .int _, _, _ => false
  | .bool, _, _ => false
  | .str, _, _ => false
  | .slice _ _ _, _, _ => false
end
/-- n pieces, each with Q. -/
def Pieces (Q : List Dc → Prop) : Nat → List Dc → Prop
  | 0, cs => cs = []
  | n + 1, cs => ∃ a b, cs = a ++ b ∧ Q a ∧ Pieces Q n b
/-- The data of a shape. -/
def Is : Ty → List Dc → Prop
  | .int kd, ds => ∃ x, ds = [.val (.int kd x)] ∧ (Lit.int kd x).wf = true
  | .bool, ds => ∃ b, ds = [.val (.bool b)]
  | .str, ds => ∃ s : ByteArray, ds = [.val (.string s)] ∧ s.size ≤ maxLen
  | .slice E D e, ds => ∃ n cs, ds = [.row D e.size n cs] ∧ n ≤ maxLen ∧ Pieces (Is e) n cs
  | .done, ds => ds = []
  | .cons f r, ds => ∃ a b, ds = a ++ b ∧ Is f a ∧ Is r b
theorem pieces_len {Q : List Dc → Prop} {k : Nat} (h : ∀ a, Q a → a.length = k) : ∀ (n : Nat) (cs : List Dc), Pieces Q n cs → cs.length = n * k
  | 0, cs, e => by simp only [Pieces] at e; simp [e]
  | n + 1, cs, e => by
    simp only [Pieces] at e
    obtain ⟨a, b, rfl, ha, hb⟩ := e
    rw [List.length_append, h a ha, pieces_len h n b hb, Nat.add_mul]; omega
theorem is_len : ∀ (ty : Ty) (ds : List Dc), Is ty ds → ds.length = ty.size
  | .int kd, ds, h => by simp only [Is] at h; obtain ⟨x, rfl, _⟩ := h; rfl
  | .bool, ds, h => by simp only [Is] at h; obtain ⟨x, rfl⟩ := h; rfl
  | .str, ds, h => by simp only [Is] at h; obtain ⟨x, rfl, _⟩ := h; rfl
  | .slice E D e, ds, h => by simp only [Is] at h; obtain ⟨n, cs, rfl, _⟩ := h; rfl
  | .done, ds, h => by simp only [Is] at h; subst h; rfl
  | .cons f r, ds, h => by
    simp only [Is] at h
    obtain ⟨a, b, rfl, ha, hb⟩ := h
    rw [List.length_append, is_len f a ha, is_len r b hb]; rfl
theorem rdsL_app {w : World} {hi : Nat} : ∀ {ds es : List Dc} {us vs : List Value}, RdsL w hi ds us → RdsL w hi es vs → RdsL w hi (ds ++ es) (us ++ vs)
  | [], es, us, vs, h, k => by simp only [RdsL] at h; subst h; exact k
  | d :: ds, es, us, vs, h, k => by
    simp only [RdsL] at h
    obtain ⟨u, us', rfl, h1, h2⟩ := h
    simp only [List.cons_append, RdsL]
    exact ⟨u, us' ++ vs, rfl, h1, rdsL_app h2 k⟩
theorem rdsL_len {w : World} {hi : Nat} : ∀ {ds : List Dc} {vs : List Value}, RdsL w hi ds vs → vs.length = ds.length
  | [], vs, h => by simp only [RdsL] at h; simp [h]
  | d :: ds, vs, h => by
    simp only [RdsL] at h
    obtain ⟨v, vs', rfl, _, h2⟩ := h
    simp [rdsL_len h2]
section
variable {H : Type} {enc : TypeId × Value → H} {P : Program} {w : World} {base : Nat} {spare : Nat → Bool} {held : Bool}
theorem spot_none {a : Addr} {v : Value} (h : w.cell? (a.add 0) = some v) : a.spot = none := by
  cases a with
  | mk b o s =>
    cases s with
    | none => rfl
    | some s =>
      exfalso
      unfold Addr.add at h
      rw [if_pos rfl] at h
      simp only [World.cell?] at h
      split at h
      · simp at h
      · simp at h
theorem add_eq {a : Addr} (h : a.spot = none) (k : Nat) : a.add k = ⟨a.block, a.off + k, none⟩ := by
  cases a with
  | mk b o s =>
    obtain rfl : s = none := h
    unfold Addr.add
    split
    · next h0 => subst h0; rfl
    · rfl
theorem block_lt {a : Addr} {v : Value} (h : w.cell? a = some v) : a.block < w.heap.size := by
  by_cases hb : a.block < w.heap.size
  · exact hb
  · have e : w.heap[a.block]? = none := by rw [Array.getElem?_eq_none (by omega)]
    simp [World.cell?, e] at h
/-- n pieces of the memory, each read. -/
theorem pieces_of (k : Nat) (a : Addr) (Q : List Dc → Prop) (hi : Nat) : ∀ (n : Nat), (∀ i, i < n → ∃ cs ds, cs.length = k ∧ (∀ j, j < k → w.cell? (a.add (i * k + j)) = cs[j]?) ∧ Q ds ∧ RdsL w hi ds cs) →
    ∃ vs ds, vs.length = n * k ∧ (∀ j, j < n * k → w.cell? (a.add j) = vs[j]?) ∧ Pieces Q n ds ∧ RdsL w hi ds vs := by
  intro n h
  -- from the end: pieces p .. n
  have back : ∀ m, m ≤ n → ∃ vs ds, vs.length = m * k ∧ (∀ j, j < m * k → w.cell? (a.add ((n - m) * k + j)) = vs[j]?) ∧ Pieces Q m ds ∧ RdsL w hi ds vs := by
    intro m
    induction m with
    | zero => intro _; exact ⟨[], [], by simp, fun j hj => by omega, by simp [Pieces], by simp [RdsL]⟩
    | succ m ih =>
      intro hm
      obtain ⟨vs, ds, h1, h2, h3, h4⟩ := ih (by omega)
      obtain ⟨cs, es, g1, g2, g3, g4⟩ := h (n - (m + 1)) (by omega)
      refine ⟨cs ++ vs, es ++ ds, by rw [List.length_append, g1, h1, Nat.add_mul]; omega, fun j hj => ?_, ?_, rdsL_app g4 h4⟩
      · by_cases hjk : j < k
        · rw [List.getElem?_append_left (by omega)]
          exact g2 j hjk
        · rw [List.getElem?_append_right (by omega), g1]
          have e : (n - (m + 1)) * k + j = (n - m) * k + (j - k) := by
            have : n - m = n - (m + 1) + 1 := by omega
            rw [this, Nat.add_mul]; omega
          rw [e]
          exact h2 (j - k) (by rw [Nat.add_mul] at hj; omega)
      · simp only [Pieces]; exact ⟨es, ds, rfl, g3, h3⟩
  obtain ⟨vs, ds, h1, h2, h3, h4⟩ := back n (Nat.le_refl _)
  exact ⟨vs, ds, h1, fun j hj => by have := h2 j hj; simpa using this, h3, h4⟩
theorem get_fields {α : Type} {l : List α} {f : α} {r : List α} {k : Nat} (h : l.drop k = f :: r) : l[k]? = some f ∧ l.drop (k + 1) = r := by
  have e := List.getElem?_drop (xs := l) (i := k) (j := 0)
  rw [h] at e
  refine ⟨by simpa using e.symm, ?_⟩
  have e2 := List.drop_drop (i := 1) (j := k) (l := l)
  rw [h] at e2
  simpa using e2.symm
mutual
theorem opened : ∀ (ty : Ty) (t : TypeId), fits P ty t = true → ∀ (fuel : Nat) (cs : List Value) (x : DataW H × List MemPlace), DataW.trod enc P w base spare held fuel t cs = some x → ∃ ds, Is ty ds ∧ RdsL w w.heap.size ds cs
  | .int kd, t, hf, fuel, cs, x, h => by
    simp only [fits] at hf
    split at hf
    · next k hu =>
      obtain rfl : k = kd := of_decide_eq_true hf
      obtain ⟨a, rfl, _, hw⟩ := DataW.trod_int hu h
      exact ⟨_, by simp only [Is]; exact ⟨a, rfl, hw⟩, by simp [RdsL, Rds]⟩
    · cases hf
  | .bool, t, hf, fuel, cs, x, h => by
    simp only [fits] at hf
    split at hf
    · next hu =>
      obtain ⟨b, rfl, _⟩ := DataW.trod_bool hu h
      exact ⟨_, by simp only [Is]; exact ⟨b, rfl⟩, by simp [RdsL, Rds]⟩
    · cases hf
  | .str, t, hf, fuel, cs, x, h => by
    simp only [fits] at hf
    split at hf
    · next hu =>
      obtain ⟨s, rfl, _, hs⟩ := DataW.trod_string hu h
      exact ⟨_, by simp only [Is]; exact ⟨s, rfl, hs⟩, by simp [RdsL, Rds]⟩
    · cases hf
  | .slice E D e, t, hf, fuel, cs, x, h => by
    simp only [fits, Bool.and_eq_true, decide_eq_true_eq] at hf
    obtain ⟨⟨⟨hu, hc⟩, hs⟩, he⟩ := hf
    split at hu
    · next u hu2 =>
      obtain rfl : u = E := of_decide_eq_true hu
      rcases open_slice hu2 h with ⟨rfl, _⟩ | ⟨a, len, cap, m, n, Dm, Pl, rfl, _, hl, hm, hmm, _, hall⟩
      · exact ⟨[.row D e.size 0 []], by simp only [Is]; exact ⟨0, [], rfl, by omega, by simp [Pieces]⟩, by simp only [RdsL, Rds]; exact ⟨_, [], rfl, ⟨none, 0, [], rfl, Rd.nil, rfl⟩, rfl⟩⟩
      · have hlm : len ≤ m := by rw [hmm]; split <;> omega
        obtain ⟨vs, ds, h1, h2, h3, h4⟩ := pieces_of (w := w) e.size a (Is e) w.heap.size len (fun i hi => by
          obtain ⟨cs', g1, g2⟩ := hall i (by omega)
          rw [hc] at g1
          obtain ⟨_, hlen, hcell⟩ := World.cells?_some g1
          obtain ⟨ds, k1, k2⟩ := opened e u he n cs' _ g2
          exact ⟨cs', ds, hlen, fun j hj => by rw [← add_add]; exact hcell j hj, k1, k2⟩)
        refine ⟨[.row D e.size len ds], by simp only [Is]; exact ⟨len, ds, rfl, by omega, h3⟩, ?_⟩
        simp only [RdsL, Rds]
        refine ⟨_, [], rfl, ⟨some a, cap, vs, rfl, ⟨h1, fun hn => ?_⟩, h4⟩, rfl⟩
        have hp : 0 < len * e.size := Nat.mul_pos hn hs
        have h0 := h2 0 hp
        rw [List.getElem?_eq_getElem (by omega)] at h0
        have hsp := spot_none h0
        refine ⟨a.block, a.off, by cases a; simp_all, ?_, fun j hj => ?_⟩
        · rw [add_eq hsp] at h0
          exact block_lt (a := ⟨a.block, a.off + 0, none⟩) h0
        · rw [← h2 j hj, add_eq hsp]
    · cases hu
  | .done, t, hf, fuel, cs, x, h => by simp [fits] at hf
  | .cons f r, t, hf, fuel, cs, x, h => by
    simp only [fits] at hf
    split at hf
    · next fs hu =>
      simp only [Bool.and_eq_true, decide_eq_true_eq] at hf
      obtain ⟨hc, hf⟩ := hf
      obtain ⟨xs, n, _, _, hlen, _, hall⟩ := DataW.trod_struct hu h
      split at hf
      · cases hf
      · next g gs hg =>
        simp only [Bool.and_eq_true, decide_eq_true_eq] at hf
        obtain ⟨⟨⟨h1, h2⟩, h3⟩, h4⟩ := hf
        have hall2 : ∀ (i : Nat) (g : Field), fs.toList[i]? = some g → ∃ y, DataW.trod enc P w base spare held n g.type ((cs.drop g.offset).take (P.cellsOf g.type)) = some y := by
          intro i g hi
          have hi2 : fs[i]? = some g := by simpa using hi
          have hxl : i < xs.length := by
            have := (Array.getElem?_eq_some_iff.1 hi2).1
            omega
          exact ⟨xs[i], by rw [hall i g hi2, List.getElem?_eq_getElem hxl]⟩
        obtain ⟨y, hy⟩ := hall2 0 g (by rw [hg]; rfl)
        rw [h1, h2] at hy
        obtain ⟨a, ka, ra⟩ := opened f g.type h3 n _ y hy
        obtain ⟨b, kb, rb⟩ := openedF r gs f.size h4 n cs (fs.toList) 1 (by rw [hg]; rfl) (by rw [hlen, hc]) hall2
        refine ⟨a ++ b, by simp only [Is]; exact ⟨a, b, rfl, ka, kb⟩, ?_⟩
        have e : cs = (cs.drop 0).take f.size ++ cs.drop f.size := by simp
        rw [e]
        exact rdsL_app ra rb
    · cases hf
theorem openedF : ∀ (ty : Ty) (gs : List Field) (off : Nat), fitsF P ty gs off = true → ∀ (n : Nat) (cs : List Value) (fs : List Field) (k : Nat), fs.drop k = gs → cs.length = off + ty.size →
    (∀ (i : Nat) (g : Field), fs[i]? = some g → ∃ y : DataW H × List MemPlace, DataW.trod enc P w base spare held n g.type ((cs.drop g.offset).take (P.cellsOf g.type)) = some y) → ∃ ds, Is ty ds ∧ RdsL w w.heap.size ds (cs.drop off)
  | .done, gs, off, hf, n, cs, fs, k, hd, hl, hall => by
    refine ⟨[], by simp [Is], ?_⟩
    have : cs.drop off = [] := List.drop_eq_nil_of_le (by simp [Ty.size] at hl; omega)
    rw [this]
    simp [RdsL]
  | .cons f r, gs, off, hf, n, cs, fs, k, hd, hl, hall => by
    simp only [fitsF] at hf
    split at hf
    · cases hf
    · next g gs2 =>
      simp only [Bool.and_eq_true, decide_eq_true_eq] at hf
      obtain ⟨⟨⟨h1, h2⟩, h3⟩, h4⟩ := hf
      obtain ⟨hk, hk2⟩ := get_fields hd
      obtain ⟨y, hy⟩ := hall k g hk
      rw [h1, h2] at hy
      obtain ⟨a, ka, ra⟩ := opened f g.type h3 n _ y hy
      obtain ⟨b, kb, rb⟩ := openedF r gs2 (off + f.size) h4 n cs fs (k + 1) hk2 (by simp only [Ty.size] at hl; omega) hall
      refine ⟨a ++ b, by simp only [Is]; exact ⟨a, b, rfl, ka, kb⟩, ?_⟩
      have e : cs.drop off = (cs.drop off).take f.size ++ cs.drop (off + f.size) := by
        rw [← List.drop_drop, List.take_append_drop]
      rw [e]
      exact rdsL_app ra rb
  | .int _, gs, off, hf, n, cs, fs, k, hd, hl, hall => by simp [fitsF] at hf
  | .bool, gs, off, hf, n, cs, fs, k, hd, hl, hall => by simp [fitsF] at hf
  | .str, gs, off, hf, n, cs, fs, k, hd, hl, hall => by simp [fitsF] at hf
  | .slice _ _ _, gs, off, hf, n, cs, fs, k, hd, hl, hall => by simp [fitsF] at hf
end
end
/-- A list of things, each with its cells, out of the pieces. -/
theorem of_pieces {α : Type} {Q : List Dc → Prop} (f : α → List Dc) (ok : α → Prop) (h : ∀ ds, Q ds → ∃ x, ds = f x ∧ ok x) : ∀ (n : Nat) (cs : List Dc), Pieces Q n cs → ∃ l : List α, cs = l.flatMap f ∧ l.length = n ∧ ∀ x ∈ l, ok x
  | 0, cs, e => by simp only [Pieces] at e; exact ⟨[], by simp [e], rfl, fun x hx => by cases hx⟩
  | n + 1, cs, e => by
    simp only [Pieces] at e
    obtain ⟨a, b, rfl, ha, hb⟩ := e
    obtain ⟨x, rfl, hx⟩ := h a ha
    obtain ⟨l, rfl, hl, hok⟩ := of_pieces f ok h n b hb
    exact ⟨x :: l, by simp, by simp [hl], fun y hy => by
      rcases List.mem_cons.1 hy with rfl | hy
      · exact hx
      · exact hok y hy⟩
end Go.Proofs.Ytoedfeacpllkeaa.Ty
