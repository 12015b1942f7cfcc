/-
  What boxes promise, in plain numbers: a box is opened by its addressee, by nobody else, and not once a byte of it is changed.
-/
import Derived.Test.YtaodpiikpojikaaM10
namespace Go.Proofs.Ytaodpiikpojikaa.M11
open M3 M8 M10 Bx Go.RowKit
set_option linter.unusedVariables false
theorem pub_inj {k k2 : Int} (h : key k) (h2 : key k2) (e : pub k = pub k2) : k = k2 := by rw [← prv_pub h, ← prv_pub h2, e]
theorem sealed_to (p e : Int) (xs : List Int) : (sealed p e xs).to = p := by unfold sealed; rfl
theorem sealed_eph (p e : Int) (xs : List Int) : (sealed p e xs).eph = e := by unfold sealed; rfl
theorem sealed_data (p e : Int) (xs : List Int) : (sealed p e xs).data = encL (bkey (prv p) e) xs := by unfold sealed; rfl
theorem sealed_mac (p e : Int) (xs : List Int) : (sealed p e xs).mac = khash (bkey (prv p) e) ([167, p, e] ++ b2i (encL (bkey (prv p) e) xs)) := by unfold sealed bmac; rfl
theorem bmac_is (k : Int) (b : Box) : bmac k b = khash k ([167, b.to, b.eph] ++ b2i b.data) := rfl
theorem openOk_is (k : Int) (b : Box) : openOk k b = true ↔ (key k ∧ b.to = pub k ∧ key b.eph ∧ b.data.length ≤ 200 ∧ b.mac = bmac (bkey k b.eph) b) := by unfold openOk; exact decide_eq_true_iff
theorem open_own {k e : Int} {xs : List Int} (hk : key k) (he : key e) (hl : xs.length ≤ 200) (hx : ∀ x ∈ xs, 0 ≤ x ∧ x ≤ 255) : openOk k (sealed (pub k) e xs) = true ∧ openB k (sealed (pub k) e xs) = xs := by
  have hp := prv_pub hk
  have h1 : openOk k (sealed (pub k) e xs) = true := by
    rw [openOk_is, bmac_is, sealed_to, sealed_eph, sealed_data, sealed_mac, hp]
    exact ⟨hk, Eq.refl _, he, by rw [enc_len]; exact hl, Eq.refl _⟩
  refine ⟨h1, ?_⟩
  unfold openB
  rw [if_pos h1, sealed_eph, sealed_data, hp]
  exact dec_enc _ _ hx
/-- Nobody else opens it. -/
theorem open_other {k k2 : Int} {b : Box} (hk : key k) (hne : key k2 → k2 ≠ k) (hto : b.to = pub k) : openOk k2 b = false := by
  cases ho : openOk k2 b with
  | false => rfl
  | true =>
    obtain ⟨h1, h2, _⟩ := (openOk_is k2 b).1 ho
    exact absurd (pub_inj h1 hk (by rw [← h2, hto])) (hne h1)
/-- A box in which one byte was changed is opened by nobody. -/
theorem open_changed {k e : Int} {xs : List Int} {i : Nat} {y : Int} (hk : key k) (hi : i < xs.length) (hy : y ≠ (encL (bkey (prv (pub k)) e) xs).getD i 0) (y0 : 0 ≤ y) (y1 : y ≤ 255) :
    openOk k ⟨pub k, e, (encL (bkey (prv (pub k)) e) xs).set i y, (sealed (pub k) e xs).mac⟩ = false := by
  cases ho : openOk k ⟨pub k, e, (encL (bkey (prv (pub k)) e) xs).set i y, (sealed (pub k) e xs).mac⟩ with
  | false => rfl
  | true =>
  exfalso
  have hm := ((openOk_is _ _).1 ho).2.2.2.2
  clear ho
  have hp := prv_pub hk
  rw [bmac_is, sealed_mac] at hm
  simp only at hm
  rw [hp] at hm hy
  obtain ⟨d, hd⟩ : ∃ d, d = encL (bkey k e) xs := ⟨_, rfl⟩
  have hdl : d.length = xs.length := by rw [hd, enc_len]
  have hin := enc_ok (bkey k e) xs
  rw [← hd] at hm hin hy
  have e1 : ([167, pub k, e] ++ b2i (d.set i y)) = ([167, pub k, e] ++ b2i d).set (4 + i) y := by
    unfold b2i
    rw [List.length_set]
    have e4 : 4 + i = i + 1 + 1 + 1 + 1 := by omega
    rw [e4]
    rfl
  rw [e1] at hm
  have hlen : 4 + i < ([167, pub k, e] ++ b2i d).length := by simp [b2i]; omega
  have hget : ([167, pub k, e] ++ b2i d).getD (4 + i) 0 = d.getD i 0 := by
    unfold b2i
    have e4 : 4 + i = i + 1 + 1 + 1 + 1 := by omega
    rw [e4]
    rfl
  refine khash_set (bkey k e) ([167, pub k, e] ++ b2i d) (4 + i) y hlen ?_ hm.symm
  rw [hget]
  have hz : 0 ≤ d.getD i 0 ∧ d.getD i 0 ≤ 255 := by
    rw [List.getD_eq_getElem?_getD, List.getElem?_eq_getElem (by omega)]
    exact hin _ (List.getElem_mem _)
  omega
theorem seal_ok {p e : Int} {xs : List Int} (hp : key p) (he : key e) (hl : xs.length ≤ 200) : sealOk p e xs = true ∧ sealB p e xs = sealed p e xs := by
  have h : sealOk p e xs = true := decide_eq_true ⟨hp, he, hl⟩
  exact ⟨h, by unfold sealB; rw [if_pos h]⟩
theorem wrap_small {x : Int} (h0 : -9223372036854775808 ≤ x) (h1 : x ≤ 9223372036854775807) : wrap64 x = x := by unfold wrap64; omega
/-- Two boxes, for two keys. -/
theorem seals_two {p q e : Int} {xs : List Int} (hp : key p) (hq : key q) (he : key e) (he2 : key (e + 1)) (hl : xs.length ≤ 200) : sealsOk e xs [p, q] 0 = true ∧ seals [p, q] e xs = [sealed p e xs, sealed q (e + 1) xs] := by
  have a := he.1
  have b := he.2
  have w0 : wrap64 (e + ((0 : Nat) : Int)) = e := by rw [wrap_small (by omega) (by omega)]; omega
  have w1 : wrap64 (e + ((0 + 1 : Nat) : Int)) = e + 1 := by rw [wrap_small (by omega) (by omega)]; omega
  have h : sealsOk e xs [p, q] 0 = true := by
    simp only [sealsOk]
    rw [w0, w1, (seal_ok hp he hl).1, (seal_ok hq he2 hl).1]; rfl
  refine ⟨h, ?_⟩
  unfold seals
  rw [if_pos h]
  simp only [sealsB]
  rw [w0, w1]
theorem find_second {k : Int} {b c : Box} (hb : openOk k b = false) (hc : openOk k c = true) : findOk k [b, c] = true ∧ findB k [b, c] = openB k c := by simp [findOk, findB, hb, hc]
theorem find_none {k : Int} {b c : Box} (hb : openOk k b = false) (hc : openOk k c = false) : findOk k [b, c] = false ∧ findB k [b, c] = [] := by simp [findOk, findB, hb, hc]
theorem eql_self (b : Box) : eqlB b b = true := by simp [eqlB]
theorem eql_data {b c : Box} (h : b.data ≠ c.data) : eqlB b c = false := by simp [eqlB, h]
end Go.Proofs.Ytaodpiikpojikaa.M11
