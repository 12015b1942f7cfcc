/-
  Contracts of chapter 6's keys and signatures, of the program: PublicKey, PrivateKey (a map of one entry keyed by a struct), VerifySignature, DeriveKey.
-/
import Derived.Test.YtpfjfnlefeocnaaC6
import Derived.Test.YtpfjfnlefeocnaaM1
import Derived.Maps.Own
import Derived.DeepKeys4
namespace Go.Proofs.Ytpfjfnlefeocnaa.C6i
open Go.ChangeShapes Go.WideShapes Go.ChangeAt Go.RowKit
open Go.Maps (Keyed)
open S0 S1 C3 M3 M4 M8 C6
set_option linter.unusedVariables false
set_option maxRecDepth 100000
set_option maxRecDepth 100000 in
theorem implPub0 (k : Int) (w : World) : Calls Try.prog 75 #[.int .i64 k] w fun e w' => e = .returned (.int .i64 (pub k)) ∧ w = w' := by
  by_cases h : key k
  · have HP := Lib.hid (show pub k = k * 48271 % 2147483647 by unfold pub; rw [if_pos h])
    have HK := Lib.hid (isKey_t h)
    have h0 := h.1
    have h1 := h.2
    clear h
    go_enter Try.func75, Try.ntmps75
    go_wp2_with fail
    (with_reducible refine (implValid _ k).mono ?_); rintro e w2 ⟨rfl, rfl⟩
    rw [HK.out]
    go_wp2
    go_ret
    exact ⟨by rw [HP.out]; rfl, rfl⟩
  · have HP := Lib.hid (pub_f h)
    have HK := Lib.hid (isKey_f h)
    clear h
    go_enter Try.func75, Try.ntmps75
    go_wp2_with fail
    (with_reducible refine (implValid _ k).mono ?_); rintro e w2 ⟨rfl, rfl⟩
    rw [HK.out]
    go_wp2
    go_ret
    exact ⟨by rw [HP.out]; rfl, rfl⟩
theorem wide : (match Try.prog.underlying 94 with | some (.array _ _) | some (.struct _) => true | _ => false) = true := by rw [Try.underlying94]
theorem laidOut : laidOutB Try.prog = true := by kernel_rfl
theorem rowK : (94 : TypeId) < Try.prog.types.size := of_decide_eq_true (by kernel_rfl)
theorem law : Keyed Try.prog 94 := Keyed.of_law (deep_law_laid laidOut (m := 2) (by omega) rowK (by kernel_rfl) wide)
theorem keyType : Try.prog.keyType 94 = true := by kernel_rfl
theorem cellsK : Try.prog.cellsOf 94 = 1 := by kernel_rfl
theorem cellsI : Try.prog.cellsOf 3 = 1 := by kernel_rfl
/-- What a key reads as. -/
def keyLit (q : Int) : Lit := .string (keyBytes [.int .i64 q])
theorem sizeS : ∃ n, Try.prog.types.size + 1 = n + 1 + 1 := by
  have h : (0 : Nat) < Try.prog.types.size := Nat.lt_of_le_of_lt (Nat.zero_le _) rowK
  generalize Try.prog.types.size = s at h
  exact ⟨s - 1, by omega⟩
set_option maxRecDepth 100000 in
theorem key_is (q : Int) (h0 : -9223372036854775808 ≤ q) (h1 : q ≤ 9223372036854775807) : keyOf Try.prog 94 (.agg #[.int .i64 q]) = some (keyLit q) := by
  have hw := WalkArith.wf_i64 ⟨h0, h1⟩
  have hf : (Value.agg #[.int .i64 q]).formed Try.prog 94 = true := by simp [Value.formed, Try.underlying94, cellsK]
  obtain ⟨n, hn⟩ := sizeS
  have h1 : Try.prog.keyLits (n + 1) 3 [.int .i64 q] = some [.int .i64 q] := by
    unfold Program.keyLits
    rw [Try.underlying3]
    exact if_pos ⟨rfl, hw⟩
  have h2 : Try.prog.keyLits (n + 1 + 1) 94 [.int .i64 q] = some [.int .i64 q] := by
    rw [Program.keyLits.eq_def]
    simp only [Try.underlying94]
    rw [if_pos ⟨by rw [cellsK]; rfl, by simp⟩]
    simp only [List.mapM_cons, List.mapM_nil, cellsI, List.drop_zero, List.take_succ_cons, List.take_nil, h1]
    rfl
  unfold keyOf keyLit
  rw [Try.underlying94]
  have h3 : (Try.prog.keyType 94 && (Value.agg #[.int .i64 q]).formed Try.prog 94) = true := by rw [keyType, hf]; rfl
  show (if (Try.prog.keyType 94 && (Value.agg #[.int .i64 q]).formed Try.prog 94) = true then (Try.prog.keyLits (Try.prog.types.size + 1) 94 [.int .i64 q]).map fun ls => Lit.string (keyBytes ls) else none) = _
  rw [if_pos h3, hn, h2]
  rfl
/-- A store into a new map. -/
theorem ins (w : World) (b : Nat) (q c : Int) (h0 : -9223372036854775808 ≤ q) (h1 : q ≤ 9223372036854775807) (hb : w.heap[b]? = some (.map #[] 0)) :
    (Instr.mapUpdate 95 (.map (some b)) (.agg #[.int .i64 q]) (.int .i64 c)).run Try.prog w = .ok () (ChangeMaps.setBlock w b (.map #[⟨.agg #[.int .i64 q], .int .i64 c, 0⟩] 1)) := by
  have hk := key_is q h0 h1
  have hn : (Instr.findKey 94 (.agg #[.int .i64 q]) []).run Try.prog w = .ok none w := by
    rcases law.find w hk [] (by simp) with ⟨h, _⟩ | ⟨j, e, _, h, _⟩
    · exact h
    · simp at h
  simp [Instr.mapUpdate, run_underlying Try.underlying95, MapKept.run_getObj_map hb, law.check w false hk, hn, MapKept.run_setObj_map _ hb, Result.andThen, ChangeMaps.setBlock]
/-- A look-up in a map of one entry. -/
theorem look (w : World) (b : Nat) (q c u : Int) (h0 : -9223372036854775808 ≤ q) (h1 : q ≤ 9223372036854775807) (u0 : -9223372036854775808 ≤ u) (u1 : u ≤ 9223372036854775807) (hb : w.heap[b]? = some (.map #[⟨.agg #[.int .i64 q], .int .i64 c, 0⟩] 1)) :
    (Instr.lookup 95 (.map (some b)) (.agg #[.int .i64 u]) false).run Try.prog w = .ok (.int .i64 (if q = u then c else 0)) w := by
  have hk := key_is q h0 h1
  have hu := key_is u u0 u1
  have hf := law.find w hu [⟨.agg #[.int .i64 q], .int .i64 c, 0⟩] (fun e he => by obtain rfl : e = ⟨.agg #[.int .i64 q], .int .i64 c, 0⟩ := List.mem_singleton.1 he; exact ⟨_, hk⟩)
  rcases hf with ⟨h, hne⟩ | ⟨j, e, h, hj, he⟩
  · have : q ≠ u := by
      intro e
      subst e
      exact hne ⟨.agg #[.int .i64 q], .int .i64 c, 0⟩ (List.mem_singleton.2 rfl) rfl
    rw [if_neg this]
    simp [Instr.lookup, run_underlying Try.underlying95, MapKept.run_getObj_map hb, law.check w _ hu, h, Result.andThen]
  · have hj0 : e = ⟨.agg #[.int .i64 q], .int .i64 c, 0⟩ := by
      cases j with
      | zero => simpa using hj.symm
      | succ j => simp at hj
    subst hj0
    have : q = u := by simpa using he
    rw [if_pos this]
    simp [Instr.lookup, run_underlying Try.underlying95, MapKept.run_getObj_map hb, law.check w _ hu, h, Result.andThen]
theorem set_there {w : World} {b : Nat} {o o' : Obj} (h : w.heap[b]? = some o) : (ChangeMaps.setBlock w b o').heap[b]? = some o' := by
  obtain ⟨hl, _⟩ := Array.getElem?_eq_some_iff.1 h
  simp [ChangeMaps.setBlock, hl]
theorem set_below (w : World) (o o' : Obj) : Below w.heap.size w (ChangeMaps.setBlock (w.alloc o) w.heap.size o') := by
  have h := (Below.refl w.heap.size w).alloc (Nat.le_refl _) o
  refine ⟨h.os, h.tape, h.output, by simp [ChangeMaps.setBlock], fun k hk => ?_⟩
  rw [← h.block k hk]
  simp [ChangeMaps.setBlock, show ¬ w.heap.size = k by omega]
/-- The private key that is kept under a public one. -/
theorem kept_is (u c : Int) (u0 : -9223372036854775808 ≤ u) (u1 : u ≤ 9223372036854775807) (h : c = (wrap64 (u * 1899818559)).tmod 2147483647) : (if pub c = u then c else 0) = prv u := by
  by_cases hu : key u
  · have hp : prv u = u * 1899818559 % 2147483647 := by unfold prv; rw [if_pos hu]
    have a0 := hu.1
    have a1 := hu.2
    have hw : wrap64 (u * 1899818559) = u * 1899818559 := (show wrap64 (u * 1899818559) = u * 1899818559 by unfold wrap64; omega)
    rw [hw, Int.tmod_eq_emod_of_nonneg (by omega), ← hp] at h
    rw [h, pub_prv hu, if_pos rfl]
  · rw [prv_f hu]
    by_cases hc : key c
    · rw [if_neg (fun e => hu (by rw [← e]; exact pub_key hc))]
    · rw [pub_f hc]
      by_cases h0 : (0 : Int) = u
      · rw [if_pos h0, h, ← h0]
        have e : wrap64 (0 * 1899818559) = 0 := by unfold wrap64; omega
        rw [e]
        rfl
      · rw [if_neg h0]
theorem cand_in (x : Int) : -2147483646 ≤ x.tmod 2147483647 ∧ x.tmod 2147483647 ≤ 2147483646 := by
  have h1 := M1.tmod_lt x 2147483647 (by omega)
  have h2 := M1.lt_tmod x 2147483647 (by omega)
  omega
set_option maxHeartbeats 1000000 in
set_option maxRecDepth 100000 in
theorem implPrv (u : Int) (w : World) (u0 : -9223372036854775808 ≤ u) (u1 : u ≤ 9223372036854775807) : Calls Try.prog 67 #[.int .i64 u] w (Gives (.int .i64 (prv u)) w) := by
  obtain ⟨c, hc⟩ : ∃ c, c = (wrap64 (u * 1899818559)).tmod 2147483647 := ⟨_, rfl⟩
  have hk := kept_is u c u0 u1 hc
  have hci := cand_in (wrap64 (u * 1899818559))
  rw [← hc] at hci
  obtain ⟨c0, c1⟩ := hci
  have HK := Lib.hid hk
  obtain ⟨q, hq⟩ : ∃ q, q = pub c := ⟨_, rfl⟩
  have hqi := pub_in c
  rw [← hq] at hk hqi
  have hb : (w.alloc (.map #[] 0)).heap[w.heap.size]? = some (.map #[] 0) := (MapKept.heap_alloc w (.map #[] 0)).1
  have hins := ins (w.alloc (.map #[] 0)) w.heap.size q c (by omega) (by omega) hb
  have hlook := look _ _ q c u (by omega) (by omega) u0 u1 (set_there (o' := .map #[⟨.agg #[.int .i64 q], .int .i64 c, 0⟩] 1) hb)
  rw [hk] at hlook
  have HB := set_below w (.map #[] 0) (.map #[⟨.agg #[.int .i64 q], .int .i64 c, 0⟩] 1)
  have hmm := run_makeMap (P := Try.prog)
  have HC := Lib.hid hc
  have HQ := Lib.hid hq
  clear hc hk hq hqi hb
  go_enter Try.func67, Try.ntmps67
  go_wp2_with fail
  rw [← HC.out]
  (with_reducible refine (implPub0 c _).mono ?_); rintro e w2 ⟨rfl, rfl⟩
  rw [← HQ.out]
  go_wp2
  go_ret
  exact ⟨rfl, HB⟩
theorem implPub (k : Int) (w : World) : Calls Try.prog 75 #[.int .i64 k] w (Gives (.int .i64 (pub k)) w) := (implPub0 k w).mono (by rintro e w2 ⟨rfl, rfl⟩; exact ⟨rfl, Below.refl _ _⟩)
theorem specPub (k : Int) (w : World) : Calls Try.prog 35 #[.int .i64 k] w (Gives (.int .i64 (pub k)) w) := (C6.specPub k w).mono (by rintro e w2 ⟨rfl, rfl⟩; exact ⟨rfl, Below.refl _ _⟩)
theorem specPrv (u : Int) (w : World) : Calls Try.prog 54 #[.int .i64 u] w (Gives (.int .i64 (prv u)) w) := (C6.specPrv u w).mono (by rintro e w2 ⟨rfl, rfl⟩; exact ⟨rfl, Below.refl _ _⟩)
end Go.Proofs.Ytpfjfnlefeocnaa.C6i
