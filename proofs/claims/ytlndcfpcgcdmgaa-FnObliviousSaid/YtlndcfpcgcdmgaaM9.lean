/-
  Oblivious evaluation in plain numbers: a quorum of evaluations is a power by the secret; a blinded element fits every input.
-/
import Derived.Test.YtlndcfpcgcdmgaaC7
import Derived.Test.YtlndcfpcgcdmgaaM7
namespace Go.Proofs.Ytlndcfpcgcdmgaa.M9
open M4 M5 C4d C5 C5b C5d C7 M6 M7
set_option linter.unusedVariables false
theorem ml_one {g : Int} (h : isEl g) (a : Int) : ml 1 (pw g a) = pw g a := by
  have e : pw g 0 = 1 := by rw [pw_t 0 h]; exact pm_zero _ _ (by omega)
  have := pw_add h 0 a
  rw [e, Int.zero_add] at this
  exact this
theorem bln_t {l x b : Int} (h : b % 1019 ≠ 0) : bln l x b = pw (hg l x) b := by unfold bln; rw [if_neg h]
theorem fin_t {c b : Int} (h : b % 1019 ≠ 0) : fin c b = pw c (inv (b % 1019)) := by unfold fin; rw [if_neg h]
theorem bln_el {l x b : Int} (h : b % 1019 ≠ 0) : isEl (bln l x b) := by rw [bln_t h]; exact pw_el _ (hg_el l x)
theorem bln_ne {l x b : Int} (h : b % 1019 ≠ 0) : bln l x b ≠ 1 := by rw [bln_t h]; exact pw_ne (hg_el l x) (hg_ne l x) b h
theorem evs_t {v e : Int} (he : isEl e) (h1 : e ≠ 1) (h0 : 0 ≤ v) (hv : v ≤ 1018) : evs v e = pw e v := by unfold evs; rw [if_pos ⟨he, h1, h0, hv⟩]
theorem fin_bln {l x b s : Int} (h : b % 1019 ≠ 0) : fin (pw (bln l x b) s) b = dir s l x := by
  have he := hg_el l x
  have hr : (inv (b % 1019) * b) % 1019 = 1 := by
    have := inv_mul (b % 1019) (by omega) (by omega)
    rw [Int.mul_comm, Int.mul_emod] at this
    rw [Int.mul_emod, ← this, Int.emod_emod]
  rw [fin_t h, bln_t h, pw_pw he, pw_pw he]
  unfold dir
  refine pw_congr ?_
  rw [Int.mul_comm b s, Int.mul_assoc, Int.mul_comm b, Int.mul_emod, hr, Int.mul_one, Int.emod_emod]
/-- Three evaluations of shares k + 1 .. k + 3 put together. -/
theorem cmb3 {e : Int} (he : isEl e) (h1 : e ≠ 1) (k : Nat) (hk : k + 3 ≤ 7) (g : Int → Int) (hg : ∀ x, 0 ≤ g x ∧ g x ≤ 1018) :
    cmbV (rng k 3) ((rng k 3).map fun x => evs (g x) e) 3 = pw e (dot ((rng k 3).map g) (ws k 3 0)) := by
  have r : rng k 3 = [((k + 1 + 0 : Nat) : Int), ((k + 1 + 1 : Nat) : Int), ((k + 1 + 2 : Nat) : Int)] := rfl
  have hl : lws (rng k 3) 0 3 = ws k 3 0 := lws_rng hk 0
  have w : ws k 3 0 = [lw (rng k 3) ((0 : Nat) : Int) 0, lw (rng k 3) ((1 : Nat) : Int) 0, lw (rng k 3) ((2 : Nat) : Int) 0] := by rw [← hl]; rfl
  rw [w]
  have v : ∀ x, evs (g x) e = pw e (g x) := fun x => evs_t he h1 (hg x).1 (hg x).2
  simp only [cmbV]
  generalize lw (rng k 3) ((0 : Nat) : Int) 0 = a
  generalize lw (rng k 3) ((1 : Nat) : Int) 0 = b
  generalize lw (rng k 3) ((2 : Nat) : Int) 0 = c
  rw [r]
  show ml (ml (ml 1 (pw (evs (g ((k + 1 + 0 : Nat) : Int)) e) a)) (pw (evs (g ((k + 1 + 1 : Nat) : Int)) e) b)) (pw (evs (g ((k + 1 + 2 : Nat) : Int)) e) c) = pw e (g ((k + 1 + 0 : Nat) : Int) * a + (g ((k + 1 + 1 : Nat) : Int) * b + (g ((k + 1 + 2 : Nat) : Int) * c + 0)))
  rw [v, v, v, pw_pw he, pw_pw he, pw_pw he, ml_one he, pw_add he, pw_add he]
  congr 1
  omega
/-- A quorum yields the power by the secret. -/
theorem quorum3 {e : Int} (he : isEl e) (h1 : e ≠ 1) (k : Nat) (hk : k + 3 ≤ 7) (s : Int) (cs : List Int) (hc : cs.length = 2) :
    cmbV (rng k 3) ((rng k 3).map fun x => evs (poly s cs x) e) 3 = pw e s := by
  rw [cmb3 he h1 k hk (poly s cs) (fun x => poly_in s cs x)]
  have q := quorum k 3 0 (by omega) hk (by omega) cs (by omega) (by omega) s
  have z : poly s cs ((0 : Nat) : Int) = s % 1019 := poly_zero s cs
  rw [z] at q
  exact pw_congr q
theorem cmb_ok {e : Int} (he : isEl e) (h1 : e ≠ 1) (k : Nat) (hk : k + 3 ≤ 7) (s : Int) (cs : List Int) : cmbOK (rng k 3) ((rng k 3).map fun x => evs (poly s cs x) e) 3 3 := by
  refine ⟨rfl, by omega, fun j hj => ?_, rng_apart hk⟩
  rw [rng_get k 3 j hj]
  refine ⟨by omega, by omega, ?_⟩
  have e2 : ((rng k 3).map fun x => evs (poly s cs x) e).getD j 0 = evs (poly s cs ((rng k 3).getD j 0)) e := by
    rw [List.getD_eq_getElem?_getD, List.getElem?_map, List.getD_eq_getElem?_getD, List.getElem?_eq_getElem (by rw [rng_len]; exact hj)]; rfl
  rw [e2, evs_t he h1 (poly_in _ _ _).1 (poly_in _ _ _).2]
  exact pw_el _ he
/-- The blinding that explains an element. -/
theorem explain {l x y b : Int} (hb : b % 1019 ≠ 0) : 1 ≤ lg (hg l y) (bln l x b) ∧ lg (hg l y) (bln l x b) ≤ 1018 ∧ bln l y (lg (hg l y) (bln l x b)) = bln l x b := by
  have hx := hx_in l x
  have hy := hx_in l y
  have hi := inv_mul (C4d.hx l y) hy.1 (by omega)
  -- the element as a power of the other base
  have e1 : bln l x b = pw (hg l y) (inv (C4d.hx l y) * (C4d.hx l x * b)) := by
    rw [bln_t hb]
    unfold hg
    rw [pw_pw el_four, pw_pw el_four]
    refine pw_congr ?_
    have h2 : C4d.hx l y * (inv (C4d.hx l y) * (C4d.hx l x * b)) % 1019 = C4d.hx l x * b % 1019 := by rw [← Int.mul_assoc, Int.mul_emod, hi, Int.one_mul, Int.emod_emod]
    exact h2.symm
  have hl : lg (hg l y) (bln l x b) = (inv (C4d.hx l y) * (C4d.hx l x * b)) % 1019 := by rw [e1]; exact pw_log (hg_el l y) (hg_ne l y) _
  have hne : (inv (C4d.hx l y) * (C4d.hx l x * b)) % 1019 ≠ 0 := by
    intro h0
    refine bln_ne (l := l) (x := x) hb ?_
    rw [e1]
    have e : pw (hg l y) 0 = 1 := by rw [pw_t 0 (hg_el l y)]; exact pm_zero _ _ (by omega)
    rw [← e]
    exact pw_congr (by rw [h0]; rfl)
  rw [hl]
  refine ⟨by omega, by omega, ?_⟩
  rw [bln_t (by rw [Int.emod_emod]; exact hne), pw_mod, ← e1]
theorem ex_t {e l x : Int} (h : 1 ≤ lg (hg l x) e) : exV e l x = lg (hg l x) e ∧ exB e l x = true := by
  have h2 : ¬ lg (hg l x) e < 1 := by omega
  unfold exV exB
  rw [if_neg h2, decide_eq_false h2]
  exact ⟨rfl, rfl⟩
end Go.Proofs.Ytlndcfpcgcdmgaa.M9
