/-
  Boxes as things of their own: their cells, how they are opened, and the laws' own functions over slices of them.
-/
import Derived.Test.YtaodpiikpojikaaDg
import Derived.Test.YtaodpiikpojikaaS10
import Derived.Test.YtaodpiikpojikaaSo
namespace Go.Proofs.Ytaodpiikpojikaa.Bx
open Go.ChangeShapes Go.WideShapes Go.ChangeAt Go.RowKit Go.Deep
open S0 S1 S9 S10 Ty Dm
set_option linter.unusedVariables false
structure Box where
  to : Int
  eph : Int
  data : List Int
  mac : Int
def Box.dcs (b : Box) : List Dc := [.val (.int .i64 b.to), .val (.int .i64 b.eph), flatD 5 .u8 1 b.data.length b.data, .val (.int .i64 b.mac)]
theorem Box.len (b : Box) : b.dcs.length = 4 := rfl
structure Box.ok (b : Box) : Prop where
  to : -9223372036854775808 ≤ b.to ∧ b.to ≤ 9223372036854775807
  eph : -9223372036854775808 ≤ b.eph ∧ b.eph ≤ 9223372036854775807
  dlen : b.data.length ≤ maxLen
  data : ∀ x ∈ b.data, 0 ≤ x ∧ x ≤ 255
  mac : -9223372036854775808 ≤ b.mac ∧ b.mac ≤ 9223372036854775807
def tyBytes : Ty := .slice 5 5 (.int .u8)
def tyBox : Ty := .cons (.int .i64) (.cons (.int .i64) (.cons tyBytes (.cons (.int .i64) .done)))
set_option maxRecDepth 100000 in
theorem fitBox : fits Try.prog tyBox 44 = true := by kernel_rfl
set_option maxRecDepth 100000 in
theorem Box.is {ds : List Dc} (h : Is tyBox ds) : ∃ b : Box, ds = b.dcs ∧ b.ok := by
  unfold tyBox at h
  simp only [Is] at h
  obtain ⟨_, _, rfl, ⟨x0, rfl, h0⟩, _, _, rfl, ⟨x1, rfl, h1⟩, _, _, rfl, h2, _, _, rfl, ⟨x3, rfl, h3⟩, rfl⟩ := h
  obtain ⟨x2, rfl, l2, h2⟩ := is_flat h2
  exact ⟨⟨x0, x1, x2, x3⟩, rfl, ⟨M1.i64_wf h0, M1.i64_wf h1, l2, fun x hx => So.okI_u8 (h2 x hx), M1.i64_wf h3⟩⟩
/-- A slice of boxes. -/
def boxesD (l : List Box) : Dc := .row 26 4 l.length (l.flatMap Box.dcs)
set_option maxRecDepth 100000 in
def tyBoxs : Ty := .slice 44 26 tyBox
theorem isBoxs {ds : List Dc} (h : Is tyBoxs ds) : ∃ l : List Box, ds = [boxesD l] ∧ l.length ≤ maxLen ∧ ∀ b ∈ l, b.ok := by
  unfold tyBoxs at h
  simp only [Is] at h
  obtain ⟨n, cs, rfl, hn, hp⟩ := h
  obtain ⟨l, rfl, rfl, ho⟩ := of_pieces Box.dcs Box.ok (fun ds hd => Box.is hd) n cs hp
  exact ⟨l, rfl, hn, ho⟩
theorem fitBoxes : fits Try.prog (.slice 44 26 tyBox) 55 = true := by kernel_rfl
set_option maxRecDepth 100000 in
theorem boxes {H : Type} {enc : TypeId × Value → H} {W : World} {b0 : Nat} {v : Value} {d : DataW H} {ps : List MemPlace}
    (hval : Value.okWide Try.prog W .any b0 55 v) (h : DataW.Trod enc Try.prog W 0 (fun _ => true) true 55 v d ps) :
    ∃ l : List Box, Rds W W.heap.size (boxesD l) v ∧ l.length ≤ maxLen ∧ ∀ b ∈ l, b.ok := by
  obtain ⟨n, cs, h1, h2, h3⟩ := arg_slice fitBoxes hval h
  obtain ⟨l, rfl, rfl, ho⟩ := of_pieces Box.dcs Box.ok (fun ds hd => Box.is hd) n cs h2
  exact ⟨l, h3, h1, ho⟩
set_option maxRecDepth 100000 in
theorem box {H : Type} {enc : TypeId × Value → H} {W : World} {b0 : Nat} {v : Value} {d : DataW H} {ps : List MemPlace}
    (hval : Value.okWide Try.prog W .any b0 44 v) (h : DataW.Trod enc Try.prog W 0 (fun _ => true) true 44 v d ps) :
    ∃ (vs : List Value) (b : Box), v = .agg vs.toArray ∧ RdsL W W.heap.size b.dcs vs ∧ b.ok := by
  obtain ⟨vs, ds, rfl, h1, h2⟩ := arg_struct fitBox hval h
  obtain ⟨b, rfl, ho⟩ := Box.is h1
  exact ⟨vs, b, rfl, h2, ho⟩
/-- The values of a box's cells. -/
theorem Box.rds {w : World} {hi : Nat} {b : Box} {vs : List Value} (h : RdsL w hi b.dcs vs) : ∃ A c, vs = [.int .i64 b.to, .int .i64 b.eph, .slice A b.data.length c, .int .i64 b.mac] ∧ Rd w hi 1 A b.data.length (ints .u8 b.data) := by
  unfold Box.dcs at h
  simp only [RdsL] at h
  obtain ⟨_, _, rfl, h0, _, _, rfl, h1, _, _, rfl, h2, _, _, rfl, h3, rfl⟩ := h
  obtain ⟨A, c, rfl, hr⟩ := rds_flat h2
  rw [rds_val h0, rds_val h1, rds_val h3]
  exact ⟨A, c, rfl, hr⟩
theorem Box.owns {w : World} {lo : Nat} {b : Box} {vs : List Value} {bs : List Nat} (h : OwnsL w lo b.dcs vs bs) : ∃ A c, vs = [.int .i64 b.to, .int .i64 b.eph, .slice A b.data.length c, .int .i64 b.mac] ∧ w.ownsRow lo 5 1 (.slice A b.data.length c) b.data.length (ints .u8 b.data) ∧ bs = (Value.slice A b.data.length c).ownBlock.toList := by
  unfold Box.dcs at h
  simp only [OwnsL] at h
  obtain ⟨_, _, _, _, rfl, h0, ⟨_, _, _, _, rfl, h1, ⟨_, _, _, _, rfl, h2, ⟨_, _, _, _, rfl, h3, ⟨rfl, rfl⟩, rfl⟩, rfl⟩, rfl⟩, rfl⟩ := h
  obtain ⟨h2, e2⟩ := flat_owns h2
  obtain ⟨A, c, rfl⟩ := own_nil_form h2
  obtain ⟨rfl, rfl⟩ := owns_val h0
  obtain ⟨rfl, rfl⟩ := owns_val h1
  obtain ⟨rfl, rfl⟩ := owns_val h3
  exact ⟨A, c, rfl, h2, by rw [e2]; simp⟩
theorem Box.made {w : World} {lo : Nat} {b : Box} {A : Option Addr} {c : Nat} (h : w.ownsRow lo 5 1 (.slice A b.data.length c) b.data.length (ints .u8 b.data)) :
    OwnsL w lo b.dcs [.int .i64 b.to, .int .i64 b.eph, .slice A b.data.length c, .int .i64 b.mac] (Value.slice A b.data.length c).ownBlock.toList := by
  unfold Box.dcs
  simp only [OwnsL]
  exact ⟨_, _, [], _, rfl, by simp [Owns], ⟨_, _, [], _, rfl, by simp [Owns], ⟨_, _, _, [], rfl, owns_flat h, ⟨_, _, [], [], rfl, by simp [Owns], ⟨rfl, rfl⟩, rfl⟩, (List.append_nil _).symm⟩, rfl⟩, rfl⟩
theorem toBox (w : World) (vs : List Value) (b : Box) (h : RdsL w w.heap.size b.dcs vs) (hn : b.data.length ≤ 4294967296) : Calls Try.prog 31 #[.agg vs.toArray] w (MadeL b.dcs w) := by
  obtain ⟨A, c, rfl, hr⟩ := Box.rds h
  refine (S10.toBox w b.to b.eph b.mac A b.data.length c b.data hr hn).mono ?_
  rintro e w' ⟨A', c', rfl, ho, hb⟩
  exact ⟨_, _, rfl, Box.made ho, nodup_own _, hb⟩
theorem eqBox (w : World) (us vs : List Value) (b : Box) (h : RdsL w w.heap.size b.dcs us) (h2 : RdsL w w.heap.size b.dcs vs) (hn : b.data.length ≤ 4294967296) : Calls Try.prog 22 #[.agg us.toArray, .agg vs.toArray] w (Gives (.bool true) w) := by
  obtain ⟨A, c, rfl, hr⟩ := Box.rds h
  obtain ⟨B, d, rfl, hr2⟩ := Box.rds h2
  exact S10.eqBox w b.to b.eph b.mac A B b.data.length c d b.data hr hr2 hn
end Go.Proofs.Ytaodpiikpojikaa.Bx
