/-
  Attestations, in plain numbers: what is accepted, what is not.
-/
import Derived.Test.YtpeagjpcdoegoaaM8
import Derived.Test.YtpeagjpcdoegoaaC11
import Derived.Test.YtpeagjpcdoegoaaC11b
namespace Go.Proofs.Ytpeagjpcdoegoaa.M15
open Go.ChangeShapes Go.WideShapes Go.ChangeAt Go.RowKit
open M3 M8 C3 C6 C10 C11 C11b
set_option linter.unusedVariables false
set_option maxRecDepth 100000
/-- A keyed hash, linear in its key. -/
def lstep (p : Int × Int) (v : Int) : Int × Int := (p.1 * 1000003, p.2 * 1000003 + v % 2147483647 + 13)
def klin (xs : List Int) : Int × Int := ((xs.foldl lstep (1, 11 * 1000003 + 13)).1 * 1000003 + 1, (xs.foldl lstep (1, 11 * 1000003 + 13)).2 * 1000003 + 13)
theorem lin_step {d a b k v : Int} (h : d % 2147483647 = (a * k + b) % 2147483647) : hstep d v % 2147483647 = (a * 1000003 * k + (b * 1000003 + v % 2147483647 + 13)) % 2147483647 := by
  have e : a * 1000003 * k = a * k * 1000003 := by rw [Int.mul_assoc, Int.mul_comm 1000003 k, ← Int.mul_assoc]
  rw [e]
  generalize a * k = X at *
  unfold hstep
  omega
theorem lin_all (k : Int) : ∀ (xs : List Int) (d : Int) (p : Int × Int), d % 2147483647 = (p.1 * k + p.2) % 2147483647 → hfrom d xs % 2147483647 = ((xs.foldl lstep p).1 * k + (xs.foldl lstep p).2) % 2147483647
  | [], d, p, h => h
  | x :: xs, d, p, h => lin_all k xs (hstep d x) (lstep p x) (lin_step h)
theorem khash_lin (k : Int) (xs : List Int) : khash k xs = ((klin xs).1 * k + (klin xs).2) % 2147483647 := by
  have h0 : hfrom 11 [k] % 2147483647 = ((1 : Int) * k + (11 * 1000003 + 13)) % 2147483647 := by
    show hstep 11 k % 2147483647 = _
    unfold hstep
    omega
  have h1 := lin_all k xs _ (1, 11 * 1000003 + 13) h0
  have hin := khash_in k xs
  have e : khash k xs = hstep (hfrom (hfrom 11 [k]) xs) k := khash_eq k xs
  unfold klin
  generalize (xs.foldl lstep (1, 11 * 1000003 + 13)) = p at *
  have e2 : khash k xs = (hfrom (hfrom 11 [k]) xs * 1000003 + k % 2147483647 + 13) % 2147483647 := e
  rw [e2]
  show _ = ((p.1 * 1000003 + 1) * k + (p.2 * 1000003 + 13)) % 2147483647
  have e3 : (p.1 * 1000003 + 1) * k = p.1 * k * 1000003 + k := by rw [Int.add_mul, Int.one_mul, Int.mul_assoc, Int.mul_comm 1000003 k, ← Int.mul_assoc]
  rw [e3]
  generalize p.1 * k = X at *
  generalize hfrom (hfrom 11 [k]) xs = Y at *
  omega
/-- The key's factor: of the list's length alone. -/
theorem klin_one : ∀ (xs : List Int) (p : Int × Int), (xs.foldl lstep p).1 = p.1 * 1000003 ^ xs.length
  | [], p => by simp
  | x :: xs, p => by
    show (xs.foldl lstep (lstep p x)).1 = _
    rw [klin_one xs (lstep p x), List.length_cons, Int.pow_succ]
    show p.1 * 1000003 * 1000003 ^ xs.length = _
    rw [Int.mul_assoc, Int.mul_comm 1000003 (1000003 ^ xs.length)]
def fac (n : Nat) : Int := 1 * 1000003 ^ n * 1000003 + 1
theorem klin_fac (xs : List Int) : (klin xs).1 = fac xs.length := by
  unfold klin fac
  show (xs.foldl lstep (1, 11 * 1000003 + 13)).1 * 1000003 + 1 = _
  rw [klin_one]
/-- Different keys, different hashes. -/
theorem khash_key {k k' : Int} {xs : List Int} {Di : Int} (hi : fac xs.length * Di % 2147483647 = 1) (h0 : 0 ≤ k ∧ k ≤ 2147483646) (h1 : 0 ≤ k' ∧ k' ≤ 2147483646) (h : khash k xs = khash k' xs) : k = k' := by
  rw [khash_lin, khash_lin, klin_fac] at h
  obtain ⟨u, hu⟩ : ∃ u, fac xs.length * Di = 1 + 2147483647 * u := ⟨fac xs.length * Di / 2147483647, by omega⟩
  generalize fac xs.length = D at *
  generalize (klin xs).2 = B at *
  obtain ⟨v, hv⟩ : ∃ v, D * k - D * k' = 2147483647 * v := ⟨(D * k - D * k') / 2147483647, by omega⟩
  have e : (D * k - D * k') * Di = k - k' + 2147483647 * (u * k - u * k') := by
    rw [Int.sub_mul, Int.mul_right_comm, Int.mul_right_comm D k', hu, Int.add_mul, Int.add_mul, Int.one_mul, Int.one_mul, Int.mul_sub, Int.mul_assoc, Int.mul_assoc]
    omega
  rw [hv, Int.mul_assoc] at e
  omega
/-- Derived keys of keys that are t apart. -/
theorem der_ne {k k' : Int} {l : List Int} (h : (fac (1 + l.length) * (k - k')) % 2147483647 ≠ 0 ∧ (fac (1 + l.length) * (k - k')) % 2147483647 ≠ 1 ∧ (fac (1 + l.length) * (k - k')) % 2147483647 ≠ 2147483646) : der k l ≠ der k' l := by
  intro e
  have i1 := khash_in k ([151] ++ l)
  have i2 := khash_in k' ([151] ++ l)
  have e1 := khash_lin k ([151] ++ l)
  have e2 := khash_lin k' ([151] ++ l)
  have hl : (([151] : List Int) ++ l).length = 1 + l.length := by rw [List.length_append]; rfl
  rw [klin_fac, hl] at e1 e2
  unfold inP at i1 i2
  unfold der at e
  rw [Int.mul_sub] at h
  generalize khash k ([151] ++ l) = h1 at *
  generalize khash k' ([151] ++ l) = h2 at *
  generalize (klin ([151] ++ l)).2 = B at *
  generalize fac (1 + l.length) * k = X at *
  generalize fac (1 + l.length) * k' = Y at *
  split at e <;> split at e <;> omega
theorem vsg_sgn {k : Int} (hk : key k) (m : List Int) : vsg (pub k) m (sgn k m) = true := by
  unfold vsg
  rw [if_pos (pub_key hk), prv_pub hk]
  simp
theorem vsg_ne {k : Int} (hk : key k) (m : List Int) {s : Int} (h : sgn k m ≠ s) : vsg (pub k) m s = false := by
  unfold vsg
  rw [if_pos (pub_key hk), prv_pub hk]
  simpa using h
/-- The law's numbers. -/
structure Nums (M V S K : Int) : Prop where
  M : 1 ≤ M ∧ M ≤ 256
  V : 1 ≤ V ∧ V ≤ 9
  S : 0 ≤ S ∧ S ≤ 255
  K : 1 ≤ K ∧ K ≤ 256
def sto (V S K : Int) : Fx.KeyStore := ⟨V, S, K, 0⟩
theorem vst_sto {M V S K : Int} (h : Nums M V S K) : vst (sto V S K) = true := by
  obtain ⟨h1, h2, h3, h4⟩ := h
  unfold vst sto
  simp only [Bool.and_eq_true, decide_eq_true_eq]
  refine ⟨⟨⟨by omega, by omega⟩, ?_⟩, by omega⟩
  unfold isKey
  simp
  omega
theorem vl_nil {M : Int} (h : 1 ≤ M ∧ M ≤ 2147483646) : vlB ⟨M, []⟩ = true := by
  unfold vlB
  rw [ascB_t (fun j hj => by simp at hj), Bool.true_and]
  unfold isKey
  simp
  omega
theorem vl_one {M c : Int} (h : 1 ≤ M ∧ M ≤ 2147483646) : vlB ⟨M, [c]⟩ = true := by
  unfold vlB
  rw [ascB_t (fun j hj => by simp at hj), Bool.true_and]
  unfold isKey
  simp
  omega
theorem rng_ok {V S : Int} (h1 : 1 ≤ V ∧ V ≤ 9) (h2 : 0 ≤ S ∧ S ≤ 1000000) : rngB V S = true := by
  unfold rngB
  rw [decide_eq_true h1, decide_eq_true h2]
  rfl
theorem rev_nil {M V S : Int} : revB ⟨M, []⟩ V S = false := rfl
theorem code_is {V S : Int} (h1 : 1 ≤ V ∧ V ≤ 9) (h2 : 0 ≤ S ∧ S ≤ 1000000) : rcode V S = V * 10000000 + S := by
  unfold rcode wrap64
  omega
theorem rev_one {M V S : Int} (h1 : 1 ≤ V ∧ V ≤ 9) (h2 : 0 ≤ S ∧ S ≤ 1000000) : revB ⟨M, [V * 10000000 + S]⟩ V S = true := by
  unfold revB
  rw [code_is h1 h2]
  simp
theorem rvk_nil {M V S : Int} (hm : 1 ≤ M ∧ M ≤ 2147483646) (h1 : 1 ≤ V ∧ V ≤ 9) (h2 : 0 ≤ S ∧ S ≤ 1000000) : rvkB ⟨M, []⟩ V S = true ∧ rvkX ⟨M, []⟩ V S = ⟨M, [V * 10000000 + S]⟩ := by
  have h : rvkB ⟨M, []⟩ V S = true := by unfold rvkB; rw [vl_nil hm, rng_ok h1 h2, rev_nil]; rfl
  exact ⟨h, by unfold rvkX; rw [h]; rfl⟩
theorem rvk_one {M V S : Int} (h1 : 1 ≤ V ∧ V ≤ 9) (h2 : 0 ≤ S ∧ S ≤ 1000000) : rvkB ⟨M, [V * 10000000 + S]⟩ V S = false ∧ rvkX ⟨M, [V * 10000000 + S]⟩ V S = ⟨M, [V * 10000000 + S]⟩ := by
  have h : rvkB ⟨M, [V * 10000000 + S]⟩ V S = false := by unfold rvkB; rw [rev_one h1 h2]; simp
  exact ⟨h, by unfold rvkX; rw [h]; rfl⟩
theorem msg_set {k v s d y : Int} (i : Nat) (hi : i < 6) (hy : y % 2147483647 ≠ ([139, 4, 193, v, s, d] : List Int).getD i 0 % 2147483647) : khash k (([139, 4, 193, v, s, d] : List Int).set i y) ≠ khash k [139, 4, 193, v, s, d] :=
  khash_set k [139, 4, 193, v, s, d] i y hi hy
theorem far_seeds : ∀ n ∈ List.range 257, (fac 2 * (7777 - (n : Int))) % 2147483647 ≠ 0 ∧ (fac 2 * (7777 - (n : Int))) % 2147483647 ≠ 1 ∧ (fac 2 * (7777 - (n : Int))) % 2147483647 ≠ 2147483646 := by decide +kernel
theorem facts {M V S K D D' sg : Int} (h : Nums M V S K) (hD : D = pub (devP (sto V S K))) (hD' : D' = pub (devP ⟨1, 0, 7777, 0⟩)) (hs : sg = sgn (vpr M V) (amsg V S D)) :
    chkB ⟨M, []⟩ ⟨V, S, D, sg⟩ = true ∧ chkB ⟨M, []⟩ ⟨V, S + 1, D, sg⟩ = false ∧ chkB ⟨M, []⟩ ⟨V, S, D', sg⟩ = false ∧ chkB ⟨M, [V * 10000000 + S]⟩ ⟨V, S, D, sg⟩ = false ∧ chkB ⟨M + 1, []⟩ ⟨V, S, D, sg⟩ = false := by
  obtain ⟨h1, h2, h3, h4⟩ := h
  have hk : key (vpr M V) := der_key _ _
  have hk2 : key (vpr (M + 1) V) := der_key _ _
  have hsg : sg = khash (vpr M V) [139, 4, 193, V, S, D] := by rw [hs]; unfold sgn; rw [if_pos hk]; rfl
  refine ⟨?_, ?_, ?_, ?_, ?_⟩
  · unfold chkB
    show (vlB ⟨M, []⟩ && rngB V S && !revB ⟨M, []⟩ V S && vsg (pub (vpr M V)) (amsg V S D) sg) = true
    rw [vl_nil ⟨by omega, by omega⟩, rng_ok h2 ⟨by omega, by omega⟩, rev_nil, hs, vsg_sgn hk]
    rfl
  · unfold chkB
    show (_ && _ && _ && vsg (pub (vpr M V)) (amsg V (S + 1) D) sg) = false
    rw [vsg_ne hk, Bool.and_false]
    rw [hsg]
    unfold sgn
    rw [if_pos hk]
    exact msg_set 4 (by omega) (by show (S + 1) % _ ≠ S % _; omega)
  · unfold chkB
    show (_ && _ && _ && vsg (pub (vpr M V)) (amsg V S D') sg) = false
    rw [vsg_ne hk, Bool.and_false]
    rw [hsg]
    unfold sgn
    rw [if_pos hk]
    refine msg_set 5 (by omega) ?_
    show D' % _ ≠ D % _
    have r1 := pub_in (devP (sto V S K))
    have r2 := pub_in (devP ⟨1, 0, 7777, 0⟩)
    have hne : D' ≠ D := by
      intro e
      rw [hD, hD'] at e
      have j1 : key (devP (sto V S K)) := der_key _ _
      have j2 : key (devP ⟨1, 0, 7777, 0⟩) := der_key _ _
      have e2 := congrArg prv e
      rw [prv_pub j1, prv_pub j2] at e2
      refine der_ne (k := 7777) (k' := K) (l := [181]) ?_ e2
      show (fac 2 * (7777 - K)) % _ ≠ 0 ∧ (fac 2 * (7777 - K)) % _ ≠ 1 ∧ (fac 2 * (7777 - K)) % _ ≠ 2147483646
      obtain ⟨n, rfl⟩ : ∃ n : Nat, K = n := ⟨K.toNat, by omega⟩
      exact far_seeds n (List.mem_range.2 (by omega))
    omega
  · unfold chkB
    show (_ && _ && !revB ⟨M, [V * 10000000 + S]⟩ V S && _) = false
    rw [rev_one h2 ⟨by omega, by omega⟩]
    simp
  · unfold chkB
    show (_ && _ && _ && vsg (pub (vpr (M + 1) V)) (amsg V S D) sg) = false
    rw [vsg_ne hk2, Bool.and_false]
    rw [hsg]
    unfold sgn
    rw [if_pos hk2]
    intro e
    have e2 := khash_key (Di := 1457146277) (xs := [139, 4, 193, V, S, D]) (show fac 6 * 1457146277 % 2147483647 = 1 by decide +kernel) ⟨by have := hk2.1; omega, hk2.2⟩ ⟨by have := hk.1; omega, hk.2⟩ e
    refine der_ne (k := M + 1) (k' := M) (l := [191, V]) ?_ e2
    show (fac 3 * (M + 1 - M)) % _ ≠ 0 ∧ (fac 3 * (M + 1 - M)) % _ ≠ 1 ∧ (fac 3 * (M + 1 - M)) % _ ≠ 2147483646
    rw [show M + 1 - M = 1 by omega]
    decide +kernel
end Go.Proofs.Ytpeagjpcdoegoaa.M15
