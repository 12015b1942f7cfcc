import Derived.Test.YtialhhdhpjjkaaaGreatDoorM12
/-
  A host told character by character, and the last two labels of one, in plain lists of bytes.
-/
namespace Go.Proofs.YtialhhdhpjjkaaaGreatDoor.M12i
open M12
set_option linter.unusedVariables false
def alnum (c : UInt8) : Bool := (decide (97 ≤ c.toNat) && decide (c.toNat ≤ 122)) || (decide (48 ≤ c.toNat) && decide (c.toNat ≤ 57))
theorem okc_alnum (c : UInt8) : okc c = (alnum c || c.toNat == 45) := rfl
theorem okc_ne {c : UInt8} (h : okc c = true) : c ≠ 46 := by intro e; subst e; exact absurd h (by decide)
theorem alnum_of {c : UInt8} (h : okc c = true) : alnum c = (some c != some 45) := by
  rw [okc_alnum] at h
  by_cases hc : c = 45
  · subst hc; rfl
  · have h5 : (c.toNat == 45) = false := by
      rw [beq_eq_false_iff_ne]; intro e; exact hc (by rw [← UInt8.toNat_inj]; exact e)
    rw [h5, Bool.or_false] at h
    rw [h]
    have : (some c == some 45) = false := by rw [beq_eq_false_iff_ne]; simpa using hc
    rw [bne, this]; rfl
/-- May the character stand behind the one before it? -/
def mayB (c p : UInt8) : Bool := if c = 46 then alnum p else if c = 45 then !(p == 46) else alnum c
def scan : UInt8 → Nat → List UInt8 → Bool
  | p, _, [] => alnum p
  | p, n, c :: cs => mayB c p && decide ((if c = 46 then 0 else n + 1) ≤ 20) && scan c (if c = 46 then 0 else n + 1) cs
/-- The last character of the label so far; a dot where there is none. -/
def lastc (l : List UInt8) : UInt8 := l.getLast?.getD 46
theorem lab_end {l : List UInt8} (ha : l.all okc = true) (hl : l.length ≤ 20) (hh : l.head? ≠ some 45) : lab l = alnum (lastc l) := by
  rcases List.eq_nil_or_concat l with rfl | ⟨l', c, rfl⟩
  · rfl
  · rw [List.concat_eq_append] at *
    have hc : okc c = true := List.all_eq_true.1 ha c (by simp)
    have e1 : lastc (l' ++ [c]) = c := by simp [lastc]
    rw [e1, alnum_of hc]
    unfold lab
    have e2 : ((l' ++ [c]).head? != some 45) = true := by rw [bne, Bool.not_eq_true', beq_eq_false_iff_ne]; exact hh
    have e3 : (l' ++ [c]).getLast? = some c := by simp
    rw [ha, e2, e3, decide_eq_true (by simp), decide_eq_true hl]
    rfl
theorem lab_f1 {l x : List UInt8} {c : UInt8} (h : okc c = false) : lab (l ++ c :: x) = false := by
  have : (l ++ c :: x).all okc = false := by
    rw [← Bool.not_eq_true, List.all_eq_true]
    intro k
    rw [k c (by simp)] at h; cases h
  unfold lab; rw [this]; rfl
theorem lab_f2 {l : List UInt8} (h : 20 < l.length) : lab l = false := by
  unfold lab; rw [decide_eq_false (show ¬ l.length ≤ 20 by omega)]; simp
theorem lab_f3 {x : List UInt8} : lab (45 :: x) = false := by
  unfold lab; simp
theorem last_dot {l : List UInt8} (ha : l.all okc = true) (h : lastc l = 46) : l = [] := by
  rcases List.eq_nil_or_concat l with rfl | ⟨l', c, rfl⟩
  · rfl
  · rw [List.concat_eq_append] at *
    have hc : okc c = true := List.all_eq_true.1 ha c (by simp)
    have e1 : lastc (l' ++ [c]) = c := by simp [lastc]
    rw [e1] at h
    exact absurd h (okc_ne hc)
theorem scan_is (s : List UInt8) : ∀ l : List UInt8, l.all okc = true → l.length ≤ 20 → l.head? ≠ some 45 → scan (lastc l) l.length s = (glue l (split s)).all lab := by
  induction s with
  | nil =>
    intro l ha hl hh
    show alnum (lastc l) = _
    simp [split, glue, lab_end ha hl hh]
  | cons c cs ih =>
    intro l ha hl hh
    by_cases hc : c = 46
    · subst hc
      have h0 := ih [] rfl (Nat.zero_le _) (by simp)
      have e0 : glue [] (split cs) = split cs := by
        cases hs : split cs with
        | nil => exact absurd hs (split_ne cs)
        | cons x xs => rfl
      rw [e0] at h0
      have h1 : scan 46 0 cs = (split cs).all lab := h0
      rw [split_at]
      show (alnum (lastc l) && true && scan 46 0 cs) = (lab (l ++ []) && (split cs).all lab)
      rw [h1, List.append_nil, lab_end ha hl hh, Bool.and_true]
    · cases hs : split cs with
      | nil => exact absurd hs (split_ne cs)
      | cons x xs =>
        rw [split_off hc hs]
        have eu : scan (lastc l) l.length (c :: cs) = (mayB c (lastc l) && decide (l.length + 1 ≤ 20) && scan c (l.length + 1) cs) := by
          show (mayB c (lastc l) && decide ((if c = 46 then 0 else l.length + 1) ≤ 20) && scan c (if c = 46 then 0 else l.length + 1) cs) = _
          rw [if_neg hc]
        rw [eu]
        show _ = (lab (l ++ c :: x) && xs.all lab)
        have em : mayB c (lastc l) = if c = 45 then !(lastc l == 46) else alnum c := by unfold mayB; rw [if_neg hc]
        cases hm : mayB c (lastc l) with
        | false =>
          rw [hm] at em
          have : lab (l ++ c :: x) = false := by
            by_cases h5 : c = 45
            · rw [if_pos h5] at em
              have : lastc l = 46 := by simpa using em
              rw [last_dot ha this, h5]
              exact lab_f3
            · rw [if_neg h5] at em
              refine lab_f1 ?_
              rw [okc_alnum, ← em, Bool.false_or, beq_eq_false_iff_ne]
              intro e; exact h5 (by rw [← UInt8.toNat_inj]; exact e)
          rw [this]; rfl
        | true =>
          by_cases hl2 : l.length + 1 ≤ 20
          · have hok : okc c = true := by
              by_cases h5 : c = 45
              · rw [h5]; rfl
              · rw [hm, if_neg h5] at em
                rw [okc_alnum, ← em]; rfl
            have h1 := ih (l ++ [c]) (by rw [List.all_append, ha]; simp [hok]) (by simpa using hl2) (by
              cases l with
              | nil =>
                intro e
                have e : c = 45 := by simpa using e
                rw [hm, if_pos e] at em
                exact absurd em (by decide)
              | cons a l => simpa using hh)
            have e1 : lastc (l ++ [c]) = c := by simp [lastc]
            have e2 : (l ++ [c]).length = l.length + 1 := by simp
            rw [e1, e2, hs] at h1
            rw [h1, decide_eq_true hl2]
            show (true && true && (lab (l ++ [c] ++ x) && xs.all lab)) = _
            rw [List.append_assoc]; rfl
          · rw [decide_eq_false hl2, lab_f2 (by simp; omega)]; rfl
theorem scan_host (s : List UInt8) (h : s.length ≤ 60) : scan 46 0 s = host s := by
  have h0 := scan_is s [] rfl (Nat.zero_le _) (by simp)
  have e0 : glue [] (split s) = split s := by
    cases hs : split s with
    | nil => exact absurd hs (split_ne s)
    | cons x xs => rfl
  rw [e0] at h0
  unfold host
  rw [decide_eq_true h, Bool.and_true]
  exact h0
theorem host_long (s : List UInt8) (h : 60 < s.length) : host s = false := by
  unfold host
  rw [decide_eq_false (by omega), Bool.and_false]
theorem scan_off {p c : UInt8} {n : Nat} {cs : List UInt8} (h : mayB c p = false) : scan p n (c :: cs) = false := by
  show (mayB c p && _ && _) = false
  rw [h]; rfl
theorem scan_long {p c : UInt8} {n : Nat} {cs : List UInt8} (hc : c ≠ 46) (h : 20 < n + 1) : scan p n (c :: cs) = false := by
  show (mayB c p && decide ((if c = 46 then 0 else n + 1) ≤ 20) && _) = false
  rw [if_neg hc, decide_eq_false (by omega), Bool.and_false]; rfl
theorem scan_char {p c : UInt8} {n : Nat} {cs : List UInt8} (hc : c ≠ 46) (hm : mayB c p = true) (h : n + 1 ≤ 20) : scan p n (c :: cs) = scan c (n + 1) cs := by
  show (mayB c p && decide ((if c = 46 then 0 else n + 1) ≤ 20) && scan c (if c = 46 then 0 else n + 1) cs) = _
  rw [if_neg hc, decide_eq_true h, hm]; rfl
theorem scan_dot {p c : UInt8} {n : Nat} {cs : List UInt8} (hc : c = 46) (hm : mayB c p = true) : scan p n (c :: cs) = scan c 0 cs := by
  show (mayB c p && decide ((if c = 46 then 0 else n + 1) ≤ 20) && scan c (if c = 46 then 0 else n + 1) cs) = _
  rw [if_pos hc, hm]; rfl
/-- The same over numbers. -/
def alnumI (x : Int) : Bool := (decide (97 ≤ x) && decide (x ≤ 122)) || (decide (48 ≤ x) && decide (x ≤ 57))
def mayI (x p : Int) : Bool := if x = 46 then alnumI p else if x = 45 then !(p == 46) else alnumI x
theorem alnumI_is (c : UInt8) : alnumI c.toNat = alnum c := by
  have h1 : decide ((97 : Int) ≤ (c.toNat : Int)) = decide (97 ≤ c.toNat) := by rw [decide_eq_decide]; omega
  have h2 : decide ((c.toNat : Int) ≤ 122) = decide (c.toNat ≤ 122) := by rw [decide_eq_decide]; omega
  have h3 : decide ((48 : Int) ≤ (c.toNat : Int)) = decide (48 ≤ c.toNat) := by rw [decide_eq_decide]; omega
  have h4 : decide ((c.toNat : Int) ≤ 57) = decide (c.toNat ≤ 57) := by rw [decide_eq_decide]; omega
  unfold alnumI alnum
  rw [h1, h2, h3, h4]
theorem mayI_is (c p : UInt8) : mayI c.toNat p.toNat = mayB c p := by
  have e : ∀ (c : UInt8) (k : Nat) (hk : k < 256), ((c.toNat : Int) = (k : Int)) ↔ c = UInt8.ofNat k := by
    intro c k hk
    rw [← UInt8.toNat_inj]
    have : (UInt8.ofNat k).toNat = k := by simp; omega
    rw [this]
    omega
  unfold mayI mayB
  rw [alnumI_is, alnumI_is]
  have e6 : (c.toNat : Int) = 46 ↔ c = 46 := e c 46 (by decide)
  have e5 : (c.toNat : Int) = 45 ↔ c = 45 := e c 45 (by decide)
  have ep := e p 46 (by decide)
  have eb : ((p.toNat : Int) == 46) = (p == 46) := by
    rw [Bool.eq_iff_iff, beq_iff_eq, beq_iff_eq]; exact ep
  rw [eb]
  by_cases h6 : c = 46
  · rw [if_pos h6, if_pos (e6.2 h6)]
  · rw [if_neg h6, if_neg (fun h => h6 (e6.1 h))]
    by_cases h5 : c = 45
    · rw [if_pos h5, if_pos (e5.2 h5)]
    · rw [if_neg h5, if_neg (fun h => h5 (e5.1 h))]
theorem mayB_high {c p : UInt8} (h : 128 ≤ c.toNat) : mayB c p = false := by
  have e : ∀ k : UInt8, k.toNat < 128 → c ≠ k := by intro k hk e; subst e; omega
  unfold mayB
  rw [if_neg (e 46 (by decide)), if_neg (e 45 (by decide))]
  unfold alnum
  rw [decide_eq_false (show ¬ c.toNat ≤ 122 by omega), decide_eq_false (show ¬ c.toNat ≤ 57 by omega)]
  simp
theorem mayI_high {x p : Int} (h : 128 ≤ x) : mayI x p = false := by
  unfold mayI
  rw [if_neg (by omega), if_neg (by omega)]
  unfold alnumI
  rw [decide_eq_false (show ¬ x ≤ 122 by omega), decide_eq_false (show ¬ x ≤ 57 by omega)]
  simp
end Go.Proofs.YtialhhdhpjjkaaaGreatDoor.M12i
