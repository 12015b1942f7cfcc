import Derived.Test.YtllaacdikjffmaaGreatBa
import Derived.Test.YtllaacdikjffmaaGreatYOrigin
import Derived.Lib.ItoaNum
import Derived.Lib.ItoaLen
import Derived.Lib.Strings
import Derived.Test.YtllaacdikjffmaaGreatChecked
import Derived.WalkKit
import Derived.ProofKit
import Derived.OpenShut
import Derived.Below
import Derived.Lib.Hide
import Derived.Laws.IdiomStrings
import Derived.Lib.AtoiTie
import Derived.Lib.Atoi
import Derived.Lib.AtoiAll
import Derived.BigQuiet
/-
  Hosts, in plain lists of bytes: labels, what is split at dots.
-/
namespace Go.Proofs.YtllaacdikjffmaaGreat.M12
set_option linter.unusedVariables false
/-- A character of a label. -/
def okc (c : UInt8) : Bool := (decide (97 ≤ c.toNat) && decide (c.toNat ≤ 122)) || (decide (48 ≤ c.toNat) && decide (c.toNat ≤ 57)) || c.toNat == 45
def lab (s : List UInt8) : Bool := s.all okc && (decide (1 ≤ s.length) && decide (s.length ≤ 20)) && s.head? != some 45 && s.getLast? != some 45
/-- What stands between the dots. -/
def split : List UInt8 → List (List UInt8)
  | [] => [[]]
  | c :: cs => if c = 46 then [] :: split cs else match split cs with
    | [] => [[c]]
    | x :: xs => (c :: x) :: xs
theorem split_at (cs : List UInt8) : split (46 :: cs) = [] :: split cs := by simp [split]
theorem split_off {c : UInt8} {cs x : List UInt8} {xs : List (List UInt8)} (hc : c ≠ 46) (h : split cs = x :: xs) : split (c :: cs) = (c :: x) :: xs := by simp [split, hc, h]
theorem split_ne (s : List UInt8) : split s ≠ [] := by
  cases s with
  | nil => simp [split]
  | cons c cs =>
    unfold split
    split
    · simp
    · split <;> simp
/-- Characters ahead of what is split. -/
def glue (p : List UInt8) : List (List UInt8) → List (List UInt8)
  | [] => [p]
  | x :: xs => (p ++ x) :: xs
theorem split_glue (p s : List UInt8) (h : ∀ c ∈ p, c ≠ 46) : split (p ++ s) = glue p (split s) := by
  induction p with
  | nil => cases hs : split s with
    | nil => exact absurd hs (split_ne s)
    | cons x xs => simp [glue, hs]
  | cons c p ih =>
    have ih := ih (fun c hc => h c (List.mem_cons_of_mem _ hc))
    have hc := h c (List.mem_cons_self ..)
    cases hs : split s with
    | nil => exact absurd hs (split_ne s)
    | cons x xs =>
      rw [hs] at ih
      exact split_off hc ih
theorem split_dot (p s : List UInt8) (h : ∀ c ∈ p, c ≠ 46) : split (p ++ 46 :: s) = p :: split s := by
  rw [split_glue p _ h, split_at]
  simp [glue]
theorem split_last (p : List UInt8) (h : ∀ c ∈ p, c ≠ 46) : split p = [p] := by
  have := split_glue p [] h
  simpa [split, glue] using this
def host (s : List UInt8) : Bool := (split s).all lab && decide (s.length ≤ 60)
/-- The labels that stand whole in front of position i, and where the current one begins. -/
structure Cut (s : List UInt8) (i f : Nat) (outs : List (List UInt8)) : Prop where
  le : f ≤ i
  il : i ≤ s.length
  eq : split s = outs ++ split (s.drop f)
  no : ∀ c ∈ (s.drop f).take (i - f), c ≠ 46
theorem Cut.start (s : List UInt8) : Cut s 0 0 [] := ⟨Nat.le_refl _, Nat.zero_le _, by simp, by simp⟩
theorem Cut.char {s : List UInt8} {i f : Nat} {outs : List (List UInt8)} (h : Cut s i f outs) (hi : i < s.length) (hc : s[i] ≠ 46) : Cut s (i + 1) f outs := by
  refine ⟨by have := h.le; omega, hi, h.eq, fun c hm => ?_⟩
  have hl := h.le
  have e : (s.drop f).take (i + 1 - f) = (s.drop f).take (i - f) ++ [s[i]] := by
    rw [show i + 1 - f = (i - f) + 1 by omega, List.take_succ_eq_append_getElem (by rw [List.length_drop]; omega)]
    congr 2
    rw [List.getElem_drop]
    congr 1
    omega
  rw [e] at hm
  rcases List.mem_append.1 hm with hm | hm
  · exact h.no c hm
  · obtain rfl : c = s[i] := by simpa using hm
    exact hc
theorem Cut.dot {s : List UInt8} {i f : Nat} {outs : List (List UInt8)} (h : Cut s i f outs) (hi : i < s.length) (hc : s[i] = 46) : Cut s (i + 1) (i + 1) (outs ++ [(s.drop f).take (i - f)]) := by
  refine ⟨Nat.le_refl _, hi, ?_, by simp⟩
  have hl := h.le
  have e : s.drop f = (s.drop f).take (i - f) ++ 46 :: s.drop (i + 1) := by
    have h1 : (s.drop f).drop (i - f) = s[i] :: s.drop (i + 1) := by
      rw [List.drop_drop, show f + (i - f) = i by omega, List.drop_eq_getElem_cons hi]
    rw [hc] at h1
    rw [← h1, List.take_append_drop]
  rw [h.eq, e, split_dot _ _ h.no, List.append_assoc, ← e]
  rfl
theorem Cut.done {s : List UInt8} {f : Nat} {outs : List (List UInt8)} (h : Cut s s.length f outs) : split s = outs ++ [s.drop f] := by
  have hn := h.no
  have e : (s.drop f).take (s.length - f) = s.drop f := by rw [List.take_of_length_le]; simp
  rw [e] at hn
  rw [h.eq, split_last _ hn]
end Go.Proofs.YtllaacdikjffmaaGreat.M12

/-
  Origins, in plain lists of bytes: their texts, the last two labels of a host, who may use a site's keys.
-/
namespace Go.Proofs.YtllaacdikjffmaaGreat.M13
open M12
set_option linter.unusedVariables false
def bts (s : ByteArray) : List UInt8 := s.data.toList
def str (l : List UInt8) : ByteArray := ⟨l.toArray⟩
theorem toList_bts (s : ByteArray) : s.toList = bts s := Lib.toList_data s
def reg (s : List UInt8) : List UInt8 := if host s then (if (split s).length < 2 then s else (split s).getD ((split s).length - 2) [] ++ 46 :: (split s).getD ((split s).length - 1) []) else []
end Go.Proofs.YtllaacdikjffmaaGreat.M13

/-
  Contracts of chapter 9's hosts, of the model.
-/
namespace Go.Proofs.YtllaacdikjffmaaGreat.C9
open Go.ChangeShapes Go.WideShapes Go.ChangeAt Go.RowKit
open S0 M12
set_option linter.unusedVariables false
theorem data_len (s : ByteArray) : s.data.toList.length = s.size := Array.length_toList
theorem data_get (s : ByteArray) (k : Nat) (hk : k < s.size) : s.data.toList[k]'(by rw [data_len]; exact hk) = s[k] := rfl
/-- What a character is to the walk. -/
theorem okc_cases (c : UInt8) : (okc c = true ∧ ((97 ≤ c.toNat ∧ c.toNat ≤ 122) ∨ (48 ≤ c.toNat ∧ c.toNat ≤ 57) ∨ c.toNat = 45)) ∨ (okc c = false ∧ (c.toNat < 45 ∨ (45 < c.toNat ∧ c.toNat < 48) ∨ (57 < c.toNat ∧ c.toNat < 97) ∨ 122 < c.toNat)) := by
  by_cases h : okc c = true
  · refine Or.inl ⟨h, ?_⟩
    unfold okc at h
    simp only [Bool.or_eq_true, Bool.and_eq_true, decide_eq_true_eq, beq_iff_eq] at h
    omega
  · refine Or.inr ⟨by simpa using h, ?_⟩
    unfold okc at h
    simp only [Bool.or_eq_true, Bool.and_eq_true, decide_eq_true_eq, beq_iff_eq] at h
    omega
theorem all_okc {s : ByteArray} (h : ∀ j (h : j < s.size), okc s[j] = true) : s.data.toList.all okc = true := by
  rw [List.all_eq_true]
  intro c hc
  obtain ⟨j, hj, rfl⟩ := List.getElem_of_mem hc
  exact h j (by rw [← data_len]; exact hj)
theorem not_okc {s : ByteArray} {k : Nat} (hk : k < s.size) (h : okc s[k] = false) : s.data.toList.all okc = false := by
  rw [← Bool.not_eq_true, List.all_eq_true]
  intro hc
  have := hc s[k] (by rw [← data_get s k hk]; exact List.getElem_mem _)
  rw [h] at this
  cases this
/-- What a label is, by its ends. -/
theorem lab_of {s : ByteArray} (h : s.data.toList.all okc = true) (h1 : 1 ≤ s.size) (h2 : s.size ≤ 20) : lab s.data.toList = ((s[0]'(by omega)).toNat != 45 && (s[s.size - 1]'(by omega)).toNat != 45) := by
  have hl := data_len s
  have e1 : s.data.toList.head? = some (s[0]'(by omega)) := by
    rw [List.head?_eq_getElem?, List.getElem?_eq_getElem (by omega)]
    exact congrArg some (data_get s 0 (by omega))
  have e2 : s.data.toList.getLast? = some (s[s.size - 1]'(by omega)) := by
    rw [List.getLast?_eq_getElem?, List.getElem?_eq_getElem (by omega)]
    congr 1
  have e3 : ∀ c : UInt8, (some c != some 45) = (c.toNat != 45) := by
    intro c
    show (!(some c == some 45)) = !(c.toNat == 45)
    congr 1
    rw [Bool.eq_iff_iff]
    simp only [beq_iff_eq, Option.some.injEq]
    exact ⟨fun h => by rw [h]; rfl, fun h => by rw [← UInt8.toNat_inj]; exact h⟩
  unfold lab
  rw [h, e1, e2, e3, e3, decide_eq_true (by omega), decide_eq_true (by omega)]
  simp
theorem lab_no {s : ByteArray} (h : s.data.toList.all okc = false ∨ s.size = 0 ∨ 20 < s.size) : lab s.data.toList = false := by
  have hl := data_len s
  unfold lab
  rcases h with h | h | h
  · rw [h]; rfl
  · rw [decide_eq_false (show ¬ 1 ≤ s.data.toList.length by omega)]; simp
  · rw [decide_eq_false (show ¬ s.data.toList.length ≤ 20 by omega)]; simp
set_option maxHeartbeats 1600000 in
set_option maxRecDepth 100000 in
theorem specLab (s : ByteArray) (w : World) (hs : s.size ≤ 4294967296) : Calls Tryz.prog 96 #[.string s] w fun e w' => e = .returned (.bool (lab s.data.toList)) ∧ w = w' := by
  obtain ⟨r, hr⟩ : ∃ r, r = lab s.data.toList := ⟨_, rfl⟩
  rw [← hr]
  have HR := Lib.hid hr
  clear hr
  go_enter Tryz.func96, Tryz.ntmps96
  go_wp2
  go_loop [3] (fun i => ∃ k : Nat, k ≤ s.size ∧ i = .int .i64 k ∧ ∀ j (h : j < s.size), j < k → okc s[j] = true) (fun i => s.size - (intOf i).toNat)
  case atStart => exact ⟨0, by omega, rfl, fun _ _ h => by omega⟩
  case round =>
    obtain ⟨k, hk, rfl, hG⟩ := hrel
    have HG := Lib.hid hG
    clear hG
    by_cases hlt : k < s.size
    · rcases okc_cases s[k] with ⟨ho, hc⟩ | ⟨ho, hc⟩
      · have HN := Lib.hid (show ∀ j (h : j < s.size), j < k + 1 → okc s[j] = true from fun j h hj => by
          by_cases hjk : j < k
          · exact HG.out j h hjk
          · obtain rfl : j = k := by omega
            exact ho)
        clear ho
        rcases hc with hc | hc | hc
        all_goals
          go_wp2
          go_round
          case rel => exact ⟨k + 1, by omega, by go_num, HN.out⟩
          case measure => simp [intOf]; omega
      · obtain rfl : r = false := by rw [HR.out]; exact lab_no (Or.inl (not_okc hlt ho))
        clear ho
        have hne : ((s[k].toNat : Int) == 45) = false := by simp; omega
        rcases hc with hc | hc | hc | hc
        · go_wp2
          go_ret
          exact ⟨rfl, rfl⟩
        · go_wp2
          go_ret
          exact ⟨rfl, rfl⟩
        · have h5 : decide ((s[k].toNat : Int) ≤ 57) = false := by simp; omega
          go_wp2
          go_ret
          exact ⟨rfl, rfl⟩
        · have h5 : decide ((s[k].toNat : Int) ≤ 57) = false := by simp; omega
          have h6 : decide ((s[k].toNat : Int) ≤ 122) = false := by simp; omega
          go_wp2
          go_ret
          exact ⟨rfl, rfl⟩
    · obtain rfl : k = s.size := by omega
      have hA := all_okc (fun j h => HG.out j h h)
      have HA := Lib.hid hA
      clear hA
      by_cases hb : 1 ≤ s.size ∧ s.size ≤ 20
      · have HL := Lib.hid (HR.out.trans (lab_of HA.out hb.1 hb.2))
        clear HR
        go_wp2_with fail
        (with_reducible refine (C1.specIn_t _ 1 20 _ (by omega) (by omega)).mono ?_); rintro e w1 ⟨rfl, rfl⟩
        obtain ⟨b1, b2⟩ := hb
        have hi : 0 < s.size := by omega
        have hi2 : s.size - 1 < s.size := by omega
        by_cases h0 : s[0].toNat = 45
        · obtain rfl : r = false := by rw [HL.out]; simp [h0]
          clear HL
          go_wp2
          go_ret
          exact ⟨rfl, rfl⟩
        · by_cases h9 : s[s.size - 1].toNat = 45
          · obtain rfl : r = false := by rw [HL.out]; simp [h9]
            clear HL
            have e0 : ((s[0].toNat : Int) == 45) = false := by simp; omega
            go_wp2
            go_ret
            exact ⟨rfl, rfl⟩
          · obtain rfl : r = true := by rw [HL.out]; simp [h0, h9]
            clear HL
            have e0 : ((s[0].toNat : Int) == 45) = false := by simp; omega
            have e9 : ((s[s.size - 1].toNat : Int) == 45) = false := by simp; omega
            have hv : ((s[0].toNat : Int) != 45 && (s[s.size - 1].toNat : Int) != 45) = true := by simp [bne, e0, e9]
            go_wp2
            go_ret
            exact ⟨by rw [← hv]; rfl, rfl⟩
      · obtain rfl : r = false := by rw [HR.out]; exact lab_no (by omega)
        go_wp2_with fail
        (with_reducible refine (C1.specIn_f _ 1 20 _ (by omega)).mono ?_); rintro e w1 ⟨rfl, rfl⟩
        go_wp2
        go_ret
        exact ⟨rfl, rfl⟩
/-- A row of strings. -/
def strs (ls : List (List UInt8)) : List Value := ls.map fun l => .string ⟨l.toArray⟩
theorem strs_len (ls : List (List UInt8)) : (strs ls).length = ls.length := by simp [strs]
theorem strs_get {ls : List (List UInt8)} {k : Nat} {l : List UInt8} (h : ls[k]? = some l) : (strs ls)[k]? = some (.string ⟨l.toArray⟩) := by simp [strs, h]
theorem extract_is (s : ByteArray) (f k : Nat) (h : f ≤ k) (hk : k ≤ s.size) : s.extract f k = ⟨((s.data.toList.drop f).take (k - f)).toArray⟩ := by
  apply ByteArray.ext
  apply Array.ext'
  simp [ByteArray.data_extract]
theorem cut_len {s : List UInt8} {i f : Nat} {outs : List (List UInt8)} (h : (split s).length ≤ s.length + 1) (hc : Cut s i f outs) : outs.length ≤ s.length := by
  rw [hc.eq, List.length_append] at h
  have := List.length_pos_iff.2 (split_ne (s.drop f))
  omega
theorem split_len (s : List UInt8) : (split s).length ≤ s.length + 1 := by
  induction s with
  | nil => simp [split]
  | cons c cs ih =>
    by_cases hc : c = 46
    · subst hc; rw [split_at]; simp; omega
    · cases hs : split cs with
      | nil => exact absurd hs (split_ne cs)
      | cons x xs =>
        rw [hs] at ih
        rw [split_off hc hs]
        simp only [List.length_cons] at ih ⊢
        omega
theorem str_info : (Tryz.prog.info? 9).map (fun i => (i.zero, i.size, i.bytes)) = some (some (.string ⟨#[]⟩), 1, 16) := by kernel_rfl
theorem appS (w : World) {ops : Array Oper} {rest : List Oper} {o : Oper} {a : Act} {Q : Exit → Act → World → Prop} (hgd : o.guard = none) (s x : Operand)
    (ho : o.op = .call { callee := .builtin .append, args := #[s, x], argTypes := #[103, 103] }) (base : Nat) (v : Value) (n : Nat) (xs : List Value) (hs : a.eval s = v) (hown : w.ownsRow base 9 1 v n xs)
    (B : Nat) (A : Option Addr) (m c : Nat) (news : List Value) (hx : a.eval x = .slice A m c) (hr : Rd w B 1 A m news) (h1 : ∀ u ∈ news, u.oneCell' = true) (h63 : n + m ≤ 8796093022208) (hbase : base ≤ w.heap.size)
    (h : ∀ v' w', w'.ownsRow base 9 1 v' (n + m) (xs ++ news) → w.grownBy w' v.ownBlock → wpList Tryz.prog ops Q rest (a.put o.dst v') w') : wpList Tryz.prog ops Q (o :: rest) a w := by
  obtain ⟨i0, hi, hz0, hz1, hz2⟩ := info_parts str_info
  exact wpList_app w hgd s x 103 ho base 9 i0 (.string ⟨#[]⟩) 1 16 Tryz.underlying103 hi hz0 hz1 hz2 rfl (by decide) v n xs hs hown B A m c news hx hr h1 (by unfold maxLen; omega) (by omega) hbase h
/-- Where the loop stands. -/
def At (s : ByteArray) (w : World) (v fv iv : Value) (wr : World) : Prop :=
  (∃ (k f : Nat) (outs : List (List UInt8)), k ≤ s.size ∧ iv = .int .i64 k ∧ fv = .int .i64 f ∧ Cut s.data.toList k f outs ∧ wr.ownsRow w.heap.size 9 1 v outs.length (strs outs) ∧ Below w.heap.size w wr)
  ∨ (iv = .int .i64 ((s.size : Int) + 1) ∧ (∃ f : Nat, fv = .int .i64 f) ∧ wr.ownsRow w.heap.size 9 1 v (split s.data.toList).length (strs (split s.data.toList)) ∧ Below w.heap.size w wr)
set_option maxHeartbeats 1600000 in
set_option maxRecDepth 100000 in
theorem specLabs (s : ByteArray) (w : World) (hs : s.size ≤ 4294967296) : Calls Tryz.prog 75 #[.string s] w (MadeS 9 1 (split s.data.toList).length (strs (split s.data.toList)) w) := by
  have HSL := Lib.hid (split_len s.data.toList)
  have HDL := Lib.hid (data_len s)
  have h0 : (w.alloc (.cells #[] 9)).ownsRow w.heap.size 9 1 (.slice (some ⟨w.heap.size, 0, none⟩) 0 0) 0 (strs []) := own_lit w #[] 0 w.heap.size 9 (Nat.le_refl _) rfl (Nat.zero_le _)
  have HZ := Lib.hid (show At s w (.slice (some ⟨w.heap.size, 0, none⟩) 0 0) (.int .i64 0) (.int .i64 0) (w.alloc (.cells #[] 9)) from Or.inl ⟨0, 0, [], by omega, rfl, rfl, Cut.start _, h0, (Below.refl _ _).alloc (Nat.le_refl _) _⟩)
  clear h0
  go_enter Tryz.func75, Tryz.ntmps75
  go_wp2
  go_loopw [3, 4, 5] (fun v fv iv wr => At s w v fv iv wr) (fun _ _ i _ => s.size + 1 - (intOf i).toNat)
  case atStart => exact HZ.out
  case round =>
    rcases hrel with ⟨k, f, outs, hk, rfl, rfl, hC, ho, hb⟩ | ⟨rfl, ⟨f, rfl⟩, ho, hb⟩
    · have hol := cut_len HSL.out hC
      rw [HDL.out] at hol
      have hfk := hC.le
      have HC := Lib.hid hC
      have HO := Lib.hid ho
      have hws := hb.size
      obtain ⟨A, c, rfl⟩ := own_nil_form ho
      clear hC ho HZ
      by_cases hlt : k < s.size
      · have hkd : k < s.data.toList.length := by rw [HDL.out]; exact hlt
        have hkn : ((k : Int) == s.size) = false := by simp; omega
        by_cases hd : s[k].toNat = 46
        · have hd1 : s.data.toList[k] = 46 := by rw [data_get s k hlt, ← UInt8.toNat_inj]; exact hd
          have HN := Lib.hid (HC.out.dot hkd hd1)
          have HE := Lib.hid (extract_is s f k hfk hk)
          clear hd1
          go_wp2_with (at_builtin; refine appS _ rfl _ _ rfl w.heap.size _ _ _ rfl (HO.out.alloc _) _ _ 1 1 [.string (s.extract f k)] rfl (rd_one _ _ _) (fun u hu => by obtain rfl := List.mem_singleton.1 hu; rfl) (by omega) (by simp; omega) ?_; intro v2 w2 ho2 hg2)
          obtain ⟨A2, c2, rfl⟩ := own_nil_form ho2
          have hb2 := below_grown hg2 (show w.heap.size ≤ (wr.alloc _).heap.size by simp; omega) (fun j hj => (HO.out.lt j hj).1)
          have HB := Lib.hid ((hb.alloc hws _).trans hb2)
          have HO2 := Lib.hid (show w2.ownsRow w.heap.size 9 1 (.slice A2 (outs.length + 1) c2) (outs ++ [(s.data.toList.drop f).take (k - f)]).length (strs (outs ++ [(s.data.toList.drop f).take (k - f)])) by
            rw [List.length_append]
            simp only [strs, List.map_append, List.map_cons, List.map_nil] at ho2 ⊢
            rw [← HE.out]
            exact ho2)
          clear ho2 hg2 hb2
          go_roundw
          case rel => exact Or.inl ⟨k + 1, k + 1, _, by omega, by go_num, by go_num, HN.out, HO2.out, HB.out⟩
          case measure => simp [intOf]; omega
        · have hd1 : s.data.toList[k] ≠ 46 := by rw [data_get s k hlt]; intro e; exact hd (by rw [e]; rfl)
          have HN := Lib.hid (HC.out.char hkd hd1)
          have hne : ((s[k].toNat : Int) == 46) = false := by simp; omega
          clear hd1
          go_wp2
          go_roundw
          case rel => exact Or.inl ⟨k + 1, f, outs, by omega, by go_num, rfl, HN.out, HO.out, hb⟩
          case measure => simp [intOf]; omega
      · obtain rfl : k = s.size := by omega
        have hkn : ((s.size : Int) == s.size) = true := by simp
        have HN := Lib.hid (show split s.data.toList = outs ++ [s.data.toList.drop f] by have h := HC.out; rw [← HDL.out] at h; exact h.done)
        have HE := Lib.hid (show s.extract f s.size = ⟨(s.data.toList.drop f).toArray⟩ by rw [extract_is s f s.size hfk (Nat.le_refl _), List.take_of_length_le]; rw [List.length_drop, HDL.out]; omega)
        go_wp2_with (at_builtin; refine appS _ rfl _ _ rfl w.heap.size _ _ _ rfl (HO.out.alloc _) _ _ 1 1 [.string (s.extract f s.size)] rfl (rd_one _ _ _) (fun u hu => by obtain rfl := List.mem_singleton.1 hu; rfl) (by omega) (by simp; omega) ?_; intro v2 w2 ho2 hg2)
        obtain ⟨A2, c2, rfl⟩ := own_nil_form ho2
        have hb2 := below_grown hg2 (show w.heap.size ≤ (wr.alloc _).heap.size by simp; omega) (fun j hj => (HO.out.lt j hj).1)
        have HB := Lib.hid ((hb.alloc hws _).trans hb2)
        have HO2 := Lib.hid (show w2.ownsRow w.heap.size 9 1 (.slice A2 (outs.length + 1) c2) (split s.data.toList).length (strs (split s.data.toList)) by
          rw [HN.out, List.length_append]
          simp only [strs, List.map_append, List.map_cons, List.map_nil] at ho2 ⊢
          rw [← HE.out]
          exact ho2)
        clear ho2 hg2 hb2
        go_roundw
        case rel => exact Or.inr ⟨by go_num, ⟨s.size + 1, by go_num⟩, HO2.out, HB.out⟩
        case measure => simp [intOf]
    · have hd : decide ((s.size : Int) + 1 ≤ s.size) = false := by simp; omega
      have HO := Lib.hid ho
      obtain ⟨A, c, rfl⟩ := own_nil_form ho
      clear HZ ho
      go_wp2
      go_ret
      exact ⟨A, c, rfl, HO.out, hb⟩
/-- A string of a row, read. -/
theorem strs_at {w : World} {hi n : Nat} {A : Option Addr} {ls : List (List UInt8)} (h : Rd w hi 1 A n (strs ls)) {k : Nat} {l : List UInt8} (hk : ls[k]? = some l) :
    ∃ b off, A = some ⟨b, off, none⟩ ∧ b < hi ∧ w.cell? ⟨b, off + k, none⟩ = some (.string ⟨l.toArray⟩) := by
  have hlen : ls.length = n := by have := h.len1; rw [strs_len] at this; exact this
  have hkl : k < ls.length := (List.getElem?_eq_some_iff.1 hk).1
  obtain ⟨b, off, e, hb, hc⟩ := h.2 (by omega)
  exact ⟨b, off, e, hb, by rw [hc k (by omega)]; exact strs_get hk⟩
theorem split_sum (s : List UInt8) : ∀ x ∈ split s, x.length ≤ s.length := by
  induction s with
  | nil => intro x hx; simp [split] at hx; simp [hx]
  | cons c cs ih =>
    intro x hx
    by_cases hc : c = 46
    · subst hc
      rw [split_at] at hx
      rcases List.mem_cons.1 hx with rfl | hx
      · simp
      · have := ih x hx; simp; omega
    · cases hs : split cs with
      | nil => exact absurd hs (split_ne cs)
      | cons y ys =>
        rw [split_off hc hs] at hx
        rcases List.mem_cons.1 hx with rfl | hx
        · have := ih y (by rw [hs]; exact List.mem_cons_self ..); simp; omega
        · have := ih x (by rw [hs]; exact List.mem_cons_of_mem _ hx); simp; omega
set_option maxHeartbeats 1600000 in
set_option maxRecDepth 100000 in
theorem specHost (s : ByteArray) (w : World) (hs : s.size ≤ 4294967296) : Calls Tryz.prog 74 #[.string s] w (Gives (.bool (host s.data.toList)) w) := by
  obtain ⟨r, hr⟩ : ∃ r, r = host s.data.toList := ⟨_, rfl⟩
  rw [← hr]
  have HR := Lib.hid hr
  have HSS := Lib.hid (split_sum s.data.toList)
  have HDL := Lib.hid (data_len s)
  have hsl := split_len s.data.toList
  rw [HDL.out] at hsl
  clear hr
  go_enter Tryz.func74, Tryz.ntmps74
  go_wp2_with fail
  (with_reducible refine (specLabs s _ hs).mono ?_); rintro e w1 ⟨A, c, rfl, ho, hb⟩
  obtain ⟨ls, hls⟩ : ∃ ls, ls = split s.data.toList := ⟨_, rfl⟩
  rw [← hls] at ho hsl HSS ⊢
  have HLS := Lib.hid hls
  have RR := Lib.hid (Rd.own ho)
  obtain ⟨n, hn⟩ : ∃ n, n = ls.length := ⟨_, rfl⟩
  rw [← hn] at RR hsl ⊢
  have HN := Lib.hid hn
  clear ho hls hn
  have hwb := hb.size
  go_wp2
  go_loop [4] (fun i => ∃ k : Nat, k ≤ n ∧ i = .int .i64 k ∧ ∀ x ∈ ls.take k, lab x = true) (fun i => n - (intOf i).toNat)
  case atStart => exact ⟨0, by omega, rfl, fun x hx => by simp at hx⟩
  case round =>
    obtain ⟨k, hk, rfl, hG⟩ := hrel
    have HG := Lib.hid hG
    clear hG
    by_cases hlt : k < n
    · have hkl : k < ls.length := by rw [← HN.out]; exact hlt
      obtain ⟨b, off, rfl, hbl, hcell⟩ := strs_at RR.out (List.getElem?_eq_getElem hkl)
      have hsz : (⟨ls[k].toArray⟩ : ByteArray).size ≤ 4294967296 := by
        have := HSS.out ls[k] (List.getElem_mem _)
        rw [HDL.out] at this
        have e : (⟨ls[k].toArray⟩ : ByteArray).size = ls[k].length := by simp [ByteArray.size]
        omega
      have HL := Lib.hid (specLab ⟨ls[k].toArray⟩ w1 hsz)
      have e : (⟨ls[k].toArray⟩ : ByteArray).data.toList = ls[k] := by simp
      rw [e] at HL
      clear e hsz
      cases hlb : lab ls[k] with
      | true =>
        rw [hlb] at HL
        have HX := Lib.hid (show ∀ x ∈ ls.take (k + 1), lab x = true from fun x hx => by
          rw [List.take_succ_eq_append_getElem hkl] at hx
          rcases List.mem_append.1 hx with hx | hx
          · exact HG.out x hx
          · obtain rfl := List.mem_singleton.1 hx; exact hlb)
        clear hlb
        go_wp2_with fail
        (refine HL.out.mono ?_); rintro e w2 ⟨rfl, rfl⟩
        go_wp2
        go_round
        case rel => exact ⟨k + 1, by omega, by go_num, HX.out⟩
        case measure => simp [intOf]; omega
      | false =>
        rw [hlb] at HL
        obtain rfl : r = false := by
          rw [HR.out]
          unfold host
          have : (split s.data.toList).all lab = false := by
            rw [← Bool.not_eq_true, List.all_eq_true, ← HLS.out]
            intro h
            rw [h ls[k] (List.getElem_mem _)] at hlb
            cases hlb
          rw [this]; rfl
        clear hlb
        go_wp2_with fail
        (refine HL.out.mono ?_); rintro e w2 ⟨rfl, rfl⟩
        go_wp2
        go_ret
        exact ⟨rfl, hb⟩
    · obtain rfl : k = n := by omega
      obtain rfl : r = decide ((s.size : Int) ≤ 60) := by
        rw [HR.out]
        unfold host
        have h1 := HG.out
        rw [HN.out, List.take_length] at h1
        have : (split s.data.toList).all lab = true := by rw [List.all_eq_true, ← HLS.out]; exact h1
        rw [this, HDL.out]
        simp
        omega
      clear HR
      have hd : decide (k < k) = false := by simp
      go_wp2
      go_ret
      exact ⟨rfl, hb⟩
end Go.Proofs.YtllaacdikjffmaaGreat.C9

/-
  A host told character by character, and the last two labels of one, in plain lists of bytes.
-/
namespace Go.Proofs.YtllaacdikjffmaaGreat.M12i
open M12
set_option linter.unusedVariables false
def alnum (c : UInt8) : Bool := (decide (97 ≤ c.toNat) && decide (c.toNat ≤ 122)) || (decide (48 ≤ c.toNat) && decide (c.toNat ≤ 57))
theorem okc_alnum (c : UInt8) : okc c = (alnum c || c.toNat == 45) := rfl
theorem okc_ne {c : UInt8} (h : okc c = true) : c ≠ 46 := by intro e; subst e; exact absurd h (by decide)
theorem alnum_of {c : UInt8} (h : okc c = true) : alnum c = (some c != some 45) := by
  rw [okc_alnum] at h
  by_cases hc : c = 45
  · subst hc; rfl
  · have h5 : (c.toNat == 45) = false := by
      rw [beq_eq_false_iff_ne]; intro e; exact hc (by rw [← UInt8.toNat_inj]; exact e)
    rw [h5, Bool.or_false] at h
    rw [h]
    have : (some c == some 45) = false := by rw [beq_eq_false_iff_ne]; simpa using hc
    rw [bne, this]; rfl
/-- May the character stand behind the one before it? -/
def mayB (c p : UInt8) : Bool := if c = 46 then alnum p else if c = 45 then !(p == 46) else alnum c
def scan : UInt8 → Nat → List UInt8 → Bool
  | p, _, [] => alnum p
  | p, n, c :: cs => mayB c p && decide ((if c = 46 then 0 else n + 1) ≤ 20) && scan c (if c = 46 then 0 else n + 1) cs
/-- The last character of the label so far; a dot where there is none. -/
def lastc (l : List UInt8) : UInt8 := l.getLast?.getD 46
theorem lab_end {l : List UInt8} (ha : l.all okc = true) (hl : l.length ≤ 20) (hh : l.head? ≠ some 45) : lab l = alnum (lastc l) := by
  rcases List.eq_nil_or_concat l with rfl | ⟨l', c, rfl⟩
  · rfl
  · rw [List.concat_eq_append] at *
    have hc : okc c = true := List.all_eq_true.1 ha c (by simp)
    have e1 : lastc (l' ++ [c]) = c := by simp [lastc]
    rw [e1, alnum_of hc]
    unfold lab
    have e2 : ((l' ++ [c]).head? != some 45) = true := by rw [bne, Bool.not_eq_true', beq_eq_false_iff_ne]; exact hh
    have e3 : (l' ++ [c]).getLast? = some c := by simp
    rw [ha, e2, e3, decide_eq_true (by simp), decide_eq_true hl]
    rfl
theorem lab_f1 {l x : List UInt8} {c : UInt8} (h : okc c = false) : lab (l ++ c :: x) = false := by
  have : (l ++ c :: x).all okc = false := by
    rw [← Bool.not_eq_true, List.all_eq_true]
    intro k
    rw [k c (by simp)] at h; cases h
  unfold lab; rw [this]; rfl
theorem lab_f2 {l : List UInt8} (h : 20 < l.length) : lab l = false := by
  unfold lab; rw [decide_eq_false (show ¬ l.length ≤ 20 by omega)]; simp
theorem lab_f3 {x : List UInt8} : lab (45 :: x) = false := by
  unfold lab; simp
theorem last_dot {l : List UInt8} (ha : l.all okc = true) (h : lastc l = 46) : l = [] := by
  rcases List.eq_nil_or_concat l with rfl | ⟨l', c, rfl⟩
  · rfl
  · rw [List.concat_eq_append] at *
    have hc : okc c = true := List.all_eq_true.1 ha c (by simp)
    have e1 : lastc (l' ++ [c]) = c := by simp [lastc]
    rw [e1] at h
    exact absurd h (okc_ne hc)
theorem scan_is (s : List UInt8) : ∀ l : List UInt8, l.all okc = true → l.length ≤ 20 → l.head? ≠ some 45 → scan (lastc l) l.length s = (glue l (split s)).all lab := by
  induction s with
  | nil =>
    intro l ha hl hh
    show alnum (lastc l) = _
    simp [split, glue, lab_end ha hl hh]
  | cons c cs ih =>
    intro l ha hl hh
    by_cases hc : c = 46
    · subst hc
      have h0 := ih [] rfl (Nat.zero_le _) (by simp)
      have e0 : glue [] (split cs) = split cs := by
        cases hs : split cs with
        | nil => exact absurd hs (split_ne cs)
        | cons x xs => rfl
      rw [e0] at h0
      have h1 : scan 46 0 cs = (split cs).all lab := h0
      rw [split_at]
      show (alnum (lastc l) && true && scan 46 0 cs) = (lab (l ++ []) && (split cs).all lab)
      rw [h1, List.append_nil, lab_end ha hl hh, Bool.and_true]
    · cases hs : split cs with
      | nil => exact absurd hs (split_ne cs)
      | cons x xs =>
        rw [split_off hc hs]
        have eu : scan (lastc l) l.length (c :: cs) = (mayB c (lastc l) && decide (l.length + 1 ≤ 20) && scan c (l.length + 1) cs) := by
          show (mayB c (lastc l) && decide ((if c = 46 then 0 else l.length + 1) ≤ 20) && scan c (if c = 46 then 0 else l.length + 1) cs) = _
          rw [if_neg hc]
        rw [eu]
        show _ = (lab (l ++ c :: x) && xs.all lab)
        have em : mayB c (lastc l) = if c = 45 then !(lastc l == 46) else alnum c := by unfold mayB; rw [if_neg hc]
        cases hm : mayB c (lastc l) with
        | false =>
          rw [hm] at em
          have : lab (l ++ c :: x) = false := by
            by_cases h5 : c = 45
            · rw [if_pos h5] at em
              have : lastc l = 46 := by simpa using em
              rw [last_dot ha this, h5]
              exact lab_f3
            · rw [if_neg h5] at em
              refine lab_f1 ?_
              rw [okc_alnum, ← em, Bool.false_or, beq_eq_false_iff_ne]
              intro e; exact h5 (by rw [← UInt8.toNat_inj]; exact e)
          rw [this]; rfl
        | true =>
          by_cases hl2 : l.length + 1 ≤ 20
          · have hok : okc c = true := by
              by_cases h5 : c = 45
              · rw [h5]; rfl
              · rw [hm, if_neg h5] at em
                rw [okc_alnum, ← em]; rfl
            have h1 := ih (l ++ [c]) (by rw [List.all_append, ha]; simp [hok]) (by simpa using hl2) (by
              cases l with
              | nil =>
                intro e
                have e : c = 45 := by simpa using e
                rw [hm, if_pos e] at em
                exact absurd em (by decide)
              | cons a l => simpa using hh)
            have e1 : lastc (l ++ [c]) = c := by simp [lastc]
            have e2 : (l ++ [c]).length = l.length + 1 := by simp
            rw [e1, e2, hs] at h1
            rw [h1, decide_eq_true hl2]
            show (true && true && (lab (l ++ [c] ++ x) && xs.all lab)) = _
            rw [List.append_assoc]; rfl
          · rw [decide_eq_false hl2, lab_f2 (by simp; omega)]; rfl
theorem scan_host (s : List UInt8) (h : s.length ≤ 60) : scan 46 0 s = host s := by
  have h0 := scan_is s [] rfl (Nat.zero_le _) (by simp)
  have e0 : glue [] (split s) = split s := by
    cases hs : split s with
    | nil => exact absurd hs (split_ne s)
    | cons x xs => rfl
  rw [e0] at h0
  unfold host
  rw [decide_eq_true h, Bool.and_true]
  exact h0
theorem host_long (s : List UInt8) (h : 60 < s.length) : host s = false := by
  unfold host
  rw [decide_eq_false (by omega), Bool.and_false]
theorem scan_off {p c : UInt8} {n : Nat} {cs : List UInt8} (h : mayB c p = false) : scan p n (c :: cs) = false := by
  show (mayB c p && _ && _) = false
  rw [h]; rfl
theorem scan_long {p c : UInt8} {n : Nat} {cs : List UInt8} (hc : c ≠ 46) (h : 20 < n + 1) : scan p n (c :: cs) = false := by
  show (mayB c p && decide ((if c = 46 then 0 else n + 1) ≤ 20) && _) = false
  rw [if_neg hc, decide_eq_false (by omega), Bool.and_false]; rfl
theorem scan_char {p c : UInt8} {n : Nat} {cs : List UInt8} (hc : c ≠ 46) (hm : mayB c p = true) (h : n + 1 ≤ 20) : scan p n (c :: cs) = scan c (n + 1) cs := by
  show (mayB c p && decide ((if c = 46 then 0 else n + 1) ≤ 20) && scan c (if c = 46 then 0 else n + 1) cs) = _
  rw [if_neg hc, decide_eq_true h, hm]; rfl
theorem scan_dot {p c : UInt8} {n : Nat} {cs : List UInt8} (hc : c = 46) (hm : mayB c p = true) : scan p n (c :: cs) = scan c 0 cs := by
  show (mayB c p && decide ((if c = 46 then 0 else n + 1) ≤ 20) && scan c (if c = 46 then 0 else n + 1) cs) = _
  rw [if_pos hc, hm]; rfl
/-- The same over numbers. -/
def alnumI (x : Int) : Bool := (decide (97 ≤ x) && decide (x ≤ 122)) || (decide (48 ≤ x) && decide (x ≤ 57))
def mayI (x p : Int) : Bool := if x = 46 then alnumI p else if x = 45 then !(p == 46) else alnumI x
theorem alnumI_is (c : UInt8) : alnumI c.toNat = alnum c := by
  have h1 : decide ((97 : Int) ≤ (c.toNat : Int)) = decide (97 ≤ c.toNat) := by rw [decide_eq_decide]; omega
  have h2 : decide ((c.toNat : Int) ≤ 122) = decide (c.toNat ≤ 122) := by rw [decide_eq_decide]; omega
  have h3 : decide ((48 : Int) ≤ (c.toNat : Int)) = decide (48 ≤ c.toNat) := by rw [decide_eq_decide]; omega
  have h4 : decide ((c.toNat : Int) ≤ 57) = decide (c.toNat ≤ 57) := by rw [decide_eq_decide]; omega
  unfold alnumI alnum
  rw [h1, h2, h3, h4]
theorem mayI_is (c p : UInt8) : mayI c.toNat p.toNat = mayB c p := by
  have e : ∀ (c : UInt8) (k : Nat) (hk : k < 256), ((c.toNat : Int) = (k : Int)) ↔ c = UInt8.ofNat k := by
    intro c k hk
    rw [← UInt8.toNat_inj]
    have : (UInt8.ofNat k).toNat = k := by simp; omega
    rw [this]
    omega
  unfold mayI mayB
  rw [alnumI_is, alnumI_is]
  have e6 : (c.toNat : Int) = 46 ↔ c = 46 := e c 46 (by decide)
  have e5 : (c.toNat : Int) = 45 ↔ c = 45 := e c 45 (by decide)
  have ep := e p 46 (by decide)
  have eb : ((p.toNat : Int) == 46) = (p == 46) := by
    rw [Bool.eq_iff_iff, beq_iff_eq, beq_iff_eq]; exact ep
  rw [eb]
  by_cases h6 : c = 46
  · rw [if_pos h6, if_pos (e6.2 h6)]
  · rw [if_neg h6, if_neg (fun h => h6 (e6.1 h))]
    by_cases h5 : c = 45
    · rw [if_pos h5, if_pos (e5.2 h5)]
    · rw [if_neg h5, if_neg (fun h => h5 (e5.1 h))]
theorem mayB_high {c p : UInt8} (h : 128 ≤ c.toNat) : mayB c p = false := by
  have e : ∀ k : UInt8, k.toNat < 128 → c ≠ k := by intro k hk e; subst e; omega
  unfold mayB
  rw [if_neg (e 46 (by decide)), if_neg (e 45 (by decide))]
  unfold alnum
  rw [decide_eq_false (show ¬ c.toNat ≤ 122 by omega), decide_eq_false (show ¬ c.toNat ≤ 57 by omega)]
  simp
theorem mayI_high {x p : Int} (h : 128 ≤ x) : mayI x p = false := by
  unfold mayI
  rw [if_neg (by omega), if_neg (by omega)]
  unfold alnumI
  rw [decide_eq_false (show ¬ x ≤ 122 by omega), decide_eq_false (show ¬ x ≤ 57 by omega)]
  simp
end Go.Proofs.YtllaacdikjffmaaGreat.M12i

/-
  The last two labels of a host, found by one walk over its characters, in plain lists of bytes.
-/
namespace Go.Proofs.YtllaacdikjffmaaGreat.M13i
open M12 M13
set_option linter.unusedVariables false
/-- Where the last two labels begin, of what stands in front of position k. -/
structure RegAt (s : List UInt8) (k b f : Nat) (outs : List (List UInt8)) : Prop where
  cut : Cut s k f outs
  at_ : (outs = [] ∧ b = 0 ∧ f = 0) ∨ ∃ os p, outs = os ++ [p] ∧ b + p.length + 1 = f ∧ s.drop b = p ++ 46 :: s.drop f
theorem RegAt.le {s : List UInt8} {k b f : Nat} {outs : List (List UInt8)} (h : RegAt s k b f outs) : b ≤ k ∧ f ≤ k := by
  have hl := h.cut.le
  rcases h.at_ with ⟨_, h1, _⟩ | ⟨os, p, _, h1, _⟩ <;> omega
theorem RegAt.done {s : List UInt8} {b f : Nat} {outs : List (List UInt8)} (h : RegAt s s.length b f outs) (hh : host s = true) : reg s = s.drop b := by
  have e := h.cut.done
  unfold reg
  rw [if_pos hh, e]
  rcases h.at_ with ⟨rfl, rfl, rfl⟩ | ⟨os, p, rfl, h1, h2⟩
  · simp
  · rw [if_neg (by simp), h2]
    have e1 : (os ++ [p] ++ [s.drop f]).length = os.length + 2 := by simp
    rw [e1, show os.length + 2 - 2 = os.length by omega, show os.length + 2 - 1 = os.length + 1 by omega]
    congr 1
    · rw [List.getD_eq_getElem?_getD, List.append_assoc, List.getElem?_append_right (Nat.le_refl _)]; simp
    · congr 1
      rw [List.getD_eq_getElem?_getD, List.getElem?_append_right (by simp)]; simp
end Go.Proofs.YtllaacdikjffmaaGreat.M13i
