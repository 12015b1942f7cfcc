/-
  Boxes of chapter 8 in plain numbers.
-/
import Derived.Test.YtaodpiikpojikaaM8
import Derived.Test.YtaodpiikpojikaaBs
namespace Go.Proofs.Ytaodpiikpojikaa.M10
open M3 M8 Bx Go.RowKit
set_option linter.unusedVariables false
def bkey (k e : Int) : Int := der k [163, e]
theorem bkey_key (k e : Int) : key (bkey k e) := der_key _ _
def bmac (k : Int) (b : Box) : Int := khash k ([167, b.to, b.eph] ++ b2i b.data)
def sealOk (p e : Int) (xs : List Int) : Bool := decide (key p ∧ key e ∧ xs.length ≤ 200)
/-- The box that is sealed. -/
def sealed (p e : Int) (xs : List Int) : Box :=
  ⟨p, e, encL (bkey (prv p) e) xs, bmac (bkey (prv p) e) ⟨p, e, encL (bkey (prv p) e) xs, 0⟩⟩
def zeroB : Box := ⟨0, 0, [], 0⟩
def sealB (p e : Int) (xs : List Int) : Box := if sealOk p e xs then sealed p e xs else zeroB
theorem bmac_mac (k t e m m2 : Int) (d : List Int) : bmac k ⟨t, e, d, m⟩ = bmac k ⟨t, e, d, m2⟩ := rfl
def openOk (k : Int) (b : Box) : Bool := decide (key k ∧ b.to = pub k ∧ key b.eph ∧ b.data.length ≤ 200 ∧ b.mac = bmac (bkey k b.eph) b)
def openB (k : Int) (b : Box) : List Int := if openOk k b then decL (bkey k b.eph) b.data else []
/-- The boxes for the keys from the i-th on. -/
def sealsOk (e : Int) (xs : List Int) : List Int → Nat → Bool
  | [], _ => true
  | p :: ps, i => sealOk p (wrap64 (e + i)) xs && sealsOk e xs ps (i + 1)
def sealsB (e : Int) (xs : List Int) : List Int → Nat → List Box
  | [], _ => []
  | p :: ps, i => sealed p (wrap64 (e + i)) xs :: sealsB e xs ps (i + 1)
def seals (ps : List Int) (e : Int) (xs : List Int) : List Box := if sealsOk e xs ps 0 then sealsB e xs ps 0 else []
def findOk (k : Int) : List Box → Bool
  | [] => false
  | b :: l => openOk k b || findOk k l
def findB (k : Int) : List Box → List Int
  | [] => []
  | b :: l => if openOk k b then openB k b else findB k l
def eqlB (a b : Box) : Bool := decide (a.to = b.to ∧ a.eph = b.eph ∧ a.mac = b.mac ∧ a.data = b.data)
theorem enc_ok (k : Int) (xs : List Int) : ∀ x ∈ encL k xs, 0 ≤ x ∧ x ≤ 255 := ciph_ok _ _
theorem dec_ok (k : Int) (xs : List Int) : ∀ x ∈ decL k xs, 0 ≤ x ∧ x ≤ 255 := ciph_ok _ _
theorem enc_len (k : Int) (xs : List Int) : (encL k xs).length = xs.length := ciph_len _ _
theorem dec_len (k : Int) (xs : List Int) : (decL k xs).length = xs.length := ciph_len _ _
theorem seal_len (p e : Int) (xs : List Int) : (sealB p e xs).data.length ≤ 200 := by
  unfold sealB
  split
  · next h =>
    have := (of_decide_eq_true h).2.2
    show (encL _ xs).length ≤ 200
    rw [enc_len]; exact this
  · exact Nat.zero_le _
theorem sealsB_len (e : Int) (xs : List Int) : ∀ (ps : List Int) (i : Nat), (sealsB e xs ps i).length = ps.length
  | [], _ => rfl
  | p :: ps, i => by simp [sealsB, sealsB_len e xs ps]
theorem sealsOk_len (e : Int) (xs : List Int) : ∀ (ps : List Int) (i : Nat), sealsOk e xs ps i = true → ps ≠ [] → xs.length ≤ 200
  | [], _, _, h => absurd rfl h
  | p :: ps, i, h, _ => by
    simp only [sealsOk, Bool.and_eq_true] at h
    exact (of_decide_eq_true h.1).2.2
theorem open_len (k : Int) (b : Box) : (openB k b).length ≤ 200 := by
  unfold openB
  split
  · next h =>
    have := (of_decide_eq_true h).2.2.2.1
    rw [dec_len]; exact this
  · exact Nat.zero_le _
theorem find_len (k : Int) : ∀ l : List Box, (findB k l).length ≤ 200
  | [] => Nat.zero_le _
  | b :: l => by
    unfold findB
    split
    · exact open_len k b
    · exact find_len k l
theorem wtL_sealsB (e : Int) (xs : List Int) : ∀ (ps : List Int) (i : Nat), Dm.wtL ((sealsB e xs ps i).flatMap Box.dcs) = ps.length * xs.length
  | [], _ => by simp [sealsB, Dm.wtL]
  | p :: ps, i => by
    have h : Dm.wtL (sealed p (wrap64 (e + i)) xs).dcs = xs.length := by
      unfold Box.dcs
      simp only [Dm.wtL, Dm.wt, Dm.wt_flat]
      show 0 + (0 + ((encL _ xs).length + (0 + 0))) = _
      rw [enc_len]; omega
    rw [sealsB, List.flatMap_cons, Dm.wtL_app, wtL_sealsB e xs ps, h, List.length_cons, Nat.add_mul]; omega
theorem seals_wt (ps : List Int) (e : Int) (xs : List Int) (h : ps.length ≤ 1048576) : Dm.wt (boxesD (seals ps e xs)) ≤ 210763776 := by
  rw [Bs.wt_boxes]
  unfold seals
  split
  · next ho =>
    rw [sealsB_len, wtL_sealsB]
    by_cases hp : ps = []
    · subst hp; simp
    · have h2 := sealsOk_len e xs ps 0 ho hp
      have h3 : ps.length * xs.length ≤ 1048576 * 200 := Nat.mul_le_mul h h2
      omega
  · simp [Dm.wtL]
end Go.Proofs.Ytaodpiikpojikaa.M10
