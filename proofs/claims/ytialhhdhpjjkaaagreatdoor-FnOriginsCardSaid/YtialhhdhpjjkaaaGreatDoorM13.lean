import Derived.Test.YtialhhdhpjjkaaaGreatDoorM12
import Derived.Test.YtialhhdhpjjkaaaGreatDoorYOrigin
import Derived.Lib.ItoaNum
import Derived.Lib.ItoaLen
import Derived.Lib.Strings
import Derived.Test.YtialhhdhpjjkaaaGreatDoorC1P
/-
  Origins, in plain lists of bytes: their texts, the last two labels of a host, who may use a site's keys.
-/
namespace Go.Proofs.YtialhhdhpjjkaaaGreatDoor.M13
open M12
set_option linter.unusedVariables false
def bts (s : ByteArray) : List UInt8 := s.data.toList
def str (l : List UInt8) : ByteArray := ⟨l.toArray⟩
theorem bts_str (l : List UInt8) : bts (str l) = l := by simp [bts, str]
theorem str_bts (s : ByteArray) : str (bts s) = s := by cases s; simp [bts, str]
theorem bts_len (s : ByteArray) : (bts s).length = s.size := Array.length_toList
theorem str_size (l : List UInt8) : (str l).size = l.length := by rw [← bts_len, bts_str]
theorem str_toList (l : List UInt8) : (str l).toList = l := by rw [Lib.toList_data]; exact bts_str l
theorem toList_bts (s : ByteArray) : s.toList = bts s := Lib.toList_data s
theorem bts_app (a b : ByteArray) : bts (a ++ b) = bts a ++ bts b := by simp [bts, ByteArray.data_append]
theorem bts_inj {a b : ByteArray} (h : bts a = bts b) : a = b := by rw [← str_bts a, h, str_bts]
def orgB (o : Fx.Origin) : Bool := host (bts o.Host) && (decide (1 ≤ o.Port) && decide (o.Port ≤ 65535))
def pre (s : Bool) : List UInt8 := if s then [104, 116, 116, 112, 115, 58, 47, 47] else [104, 116, 116, 112, 58, 47, 47]
def usual (s : Bool) : Int := if s then 443 else 80
def fmtO (o : Fx.Origin) : List UInt8 := if orgB o then pre o.Secure ++ bts o.Host ++ (if o.Port = usual o.Secure then [] else 58 :: Lib.itoa o.Port) else []
def reg (s : List UInt8) : List UInt8 := if host s then (if (split s).length < 2 then s else (split s).getD ((split s).length - 2) [] ++ 46 :: (split s).getD ((split s).length - 1) []) else []
def sameO (a b : Fx.Origin) : Bool := orgB a && orgB b && (a.Secure == b.Secure) && (reg (bts a.Host) == reg (bts b.Host))
def mayO (o : Fx.Origin) (s : List UInt8) : Bool := orgB o && o.Secure && host s && decide (2 ≤ (split s).length) && (bts o.Host == s || (46 :: s).isSuffixOf (bts o.Host))
theorem orgB_parts {o : Fx.Origin} (h : orgB o = true) : host (bts o.Host) = true ∧ 1 ≤ o.Port ∧ o.Port ≤ 65535 := by
  unfold orgB at h
  simp only [Bool.and_eq_true, decide_eq_true_eq] at h
  exact ⟨h.1, h.2.1, h.2.2⟩
theorem host_len {s : List UInt8} (h : host s = true) : s.length ≤ 60 := by
  unfold host at h
  simp only [Bool.and_eq_true, decide_eq_true_eq] at h
  exact h.2
theorem lab_all {s : List UInt8} (h : lab s = true) : s.all okc = true ∧ 1 ≤ s.length := by
  unfold lab at h
  simp only [Bool.and_eq_true, decide_eq_true_eq] at h
  exact ⟨h.1.1.1, h.1.1.2.1⟩
/-- The characters of a host: those of labels, and dots. -/
theorem split_chars (s : List UInt8) (h : ∀ x ∈ split s, ∀ c ∈ x, okc c = true) : ∀ c ∈ s, okc c = true ∨ c = 46 := by
  induction s with
  | nil => intro c hc; cases hc
  | cons a s ih =>
    intro c hc
    by_cases ha : a = 46
    · subst ha
      rw [split_at] at h
      rcases List.mem_cons.1 hc with rfl | hc
      · exact Or.inr rfl
      · exact ih (fun x hx => h x (List.mem_cons_of_mem _ hx)) c hc
    · cases hs : split s with
      | nil => exact absurd hs (split_ne s)
      | cons y ys =>
        rw [split_off ha hs] at h
        rcases List.mem_cons.1 hc with rfl | hc
        · exact Or.inl (h (c :: y) (List.mem_cons_self ..) c (List.mem_cons_self ..))
        · refine ih (fun x hx d hd => ?_) c hc
          rw [hs] at hx
          rcases List.mem_cons.1 hx with rfl | hx
          · exact h _ (List.mem_cons_self ..) d (List.mem_cons_of_mem _ hd)
          · exact h x (List.mem_cons_of_mem _ hx) d hd
theorem host_chars {s : List UInt8} (h : host s = true) : ∀ c ∈ s, c ≠ 58 := by
  unfold host at h
  simp only [Bool.and_eq_true, List.all_eq_true] at h
  intro c hc
  rcases split_chars s (fun x hx d hd => List.all_eq_true.1 (lab_all (h.1 x hx)).1 d hd) c hc with h1 | h1
  · intro e; subst e; exact absurd h1 (by decide)
  · intro e; subst e; exact absurd h1 (by decide)
theorem host_ne {s : List UInt8} (h : host s = true) : s ≠ [] := by
  intro e
  subst e
  exact absurd h (by decide)
/-- The first colon of a text: where it stands. -/
theorem colon_at {a b : List UInt8} (h : ∀ c ∈ a, c ≠ 58) (x y : List UInt8) (hx : ∀ c ∈ x, c ≠ 58) (e : a ++ 58 :: b = x ++ 58 :: y) : a = x ∧ b = y := by
  induction a generalizing x with
  | nil => cases x with
    | nil => simp at e; exact ⟨rfl, e⟩
    | cons d x =>
      simp only [List.nil_append, List.cons_append] at e
      injection e with e1 _
      exact absurd e1.symm (hx d (List.mem_cons_self ..))
  | cons c a ih => cases x with
    | nil =>
      simp only [List.nil_append, List.cons_append] at e
      injection e with e1 _
      exact absurd e1 (h c (List.mem_cons_self ..))
    | cons d x =>
      simp only [List.cons_append] at e
      injection e with e1 e2
      obtain ⟨h1, h2⟩ := ih (fun c hc => h c (List.mem_cons_of_mem _ hc)) x (fun c hc => hx c (List.mem_cons_of_mem _ hc)) e2
      exact ⟨by rw [e1, h1], h2⟩
theorem fmtO_t {o : Fx.Origin} (h : orgB o = true) : fmtO o = pre o.Secure ++ bts o.Host ++ (if o.Port = usual o.Secure then [] else 58 :: Lib.itoa o.Port) := by unfold fmtO; rw [if_pos h]
theorem fmtO_f {o : Fx.Origin} (h : orgB o = false) : fmtO o = [] := by unfold fmtO; rw [if_neg (by rw [h]; simp)]
/-- When a text ends with a dot and another text. -/
theorem suffix_at {h s : List UInt8} {n : Nat} (hn : n + s.length = h.length) (h0 : 0 < n) : (46 :: s).isSuffixOf h = ((h.drop n == s) && (h.getD (n - 1) 0 == 46)) := by
  rw [Bool.eq_iff_iff]
  simp only [List.isSuffixOf_iff_suffix, Bool.and_eq_true, beq_iff_eq]
  have hd : h.drop (n - 1) = h.getD (n - 1) 0 :: h.drop n := by
    have hl : n - 1 < h.length := by omega
    rw [List.drop_eq_getElem_cons hl, List.getD_eq_getElem?_getD, List.getElem?_eq_getElem hl]
    congr 2
    omega
  constructor
  · rintro ⟨p, hp⟩
    have hpl : p.length = n - 1 := by
      have := congrArg List.length hp
      rw [List.length_append, List.length_cons] at this
      omega
    have : h.drop (n - 1) = 46 :: s := by rw [← hp, ← hpl, List.drop_left]
    rw [hd] at this
    injection this with h1 h2
    exact ⟨h2, h1⟩
  · rintro ⟨h1, h2⟩
    rw [h1, h2] at hd
    exact ⟨h.take (n - 1), by rw [← hd, List.take_append_drop]⟩
theorem suffix_short {h s : List UInt8} (hn : h.length ≤ s.length) : (46 :: s).isSuffixOf h = false := by
  rw [← Bool.not_eq_true, List.isSuffixOf_iff_suffix]
  intro hs
  have := hs.length_le
  simp at this
  omega
theorem itoa_inj {a b : Int} (a0 : 0 ≤ a) (b0 : 0 ≤ b) (h : Lib.itoa a = Lib.itoa b) : a = b := by
  have ea := C1P.itoa_nat a.toNat
  have eb := C1P.itoa_nat b.toNat
  rw [show ((a.toNat : Nat) : Int) = a by omega] at ea
  rw [show ((b.toNat : Nat) : Int) = b by omega] at eb
  rw [ea, eb] at h
  have := C1P.digits_inj h
  omega
/-- The host and what follows: a text tells them. -/
theorem tail_inj {a b : List UInt8} {p q : Int} {u : Int} (ha : ∀ c ∈ a, c ≠ 58) (hb : ∀ c ∈ b, c ≠ 58) (p0 : 0 ≤ p) (q0 : 0 ≤ q)
    (h : a ++ (if p = u then [] else 58 :: Lib.itoa p) = b ++ (if q = u then [] else 58 :: Lib.itoa q)) : a = b ∧ p = q := by
  by_cases h1 : p = u
  · by_cases h2 : q = u
    · rw [if_pos h1, if_pos h2, List.append_nil, List.append_nil] at h
      exact ⟨h, h1.trans h2.symm⟩
    · rw [if_pos h1, if_neg h2, List.append_nil] at h
      exact absurd rfl (ha 58 (by rw [h]; simp))
  · by_cases h2 : q = u
    · rw [if_neg h1, if_pos h2, List.append_nil] at h
      exact absurd rfl (hb 58 (by rw [← h]; simp))
    · rw [if_neg h1, if_neg h2] at h
      obtain ⟨e1, e2⟩ := colon_at ha b _ hb h
      exact ⟨e1, itoa_inj p0 q0 e2⟩
/-- The text of an origin tells it. -/
theorem fmtO_inj {o o' : Fx.Origin} (h : orgB o = true) (h' : orgB o' = true) (e : fmtO o = fmtO o') : o = o' := by
  obtain ⟨a1, a2, a3⟩ := orgB_parts h
  obtain ⟨b1, b2, b3⟩ := orgB_parts h'
  rw [fmtO_t h, fmtO_t h', List.append_assoc, List.append_assoc] at e
  have hs : o.Secure = o'.Secure := by
    cases hs1 : o.Secure <;> cases hs2 : o'.Secure
    · rfl
    · rw [hs1, hs2] at e
      simp [pre] at e
    · rw [hs1, hs2] at e
      simp [pre] at e
    · rfl
  rw [hs] at e
  have e2 := List.append_cancel_left e
  obtain ⟨k1, k2⟩ := tail_inj (host_chars a1) (host_chars b1) (by omega) (by omega) e2
  cases o
  cases o'
  simp only at hs k1 k2
  rw [hs, k2, bts_inj k1]
open Classical in
/-- What ParseOrigin gives. -/
noncomputable def poB (s : List UInt8) : Bool := decide (∃ o : Fx.Origin, orgB o = true ∧ fmtO o = s)
open Classical in
noncomputable def poO (s : List UInt8) : Fx.Origin := if h : ∃ o : Fx.Origin, orgB o = true ∧ fmtO o = s then h.choose else ⟨false, ⟨#[]⟩, 0⟩
open Classical in
theorem po_t {s : List UInt8} {o : Fx.Origin} (h : orgB o = true) (e : fmtO o = s) : poB s = true ∧ poO s = o := by
  have hx : ∃ o : Fx.Origin, orgB o = true ∧ fmtO o = s := ⟨o, h, e⟩
  refine ⟨decide_eq_true hx, ?_⟩
  unfold poO
  rw [dif_pos hx]
  obtain ⟨k1, k2⟩ := hx.choose_spec
  exact fmtO_inj k1 h (k2.trans e.symm)
open Classical in
theorem po_f {s : List UInt8} (h : ∀ o : Fx.Origin, orgB o = true → fmtO o ≠ s) : poB s = false ∧ poO s = ⟨false, ⟨#[]⟩, 0⟩ := by
  have hx : ¬ ∃ o : Fx.Origin, orgB o = true ∧ fmtO o = s := fun ⟨o, k1, k2⟩ => h o k1 k2
  exact ⟨decide_eq_false hx, by unfold poO; rw [dif_neg hx]⟩
theorem fmtO_eq {s : List UInt8} {o : Fx.Origin} (h : orgB o = true) (e : fmtO o = s) : s = pre o.Secure ++ (bts o.Host ++ (if o.Port = usual o.Secure then [] else 58 :: Lib.itoa o.Port)) := by
  rw [← e, fmtO_t h, List.append_assoc]
/-- Two beginnings of origins. -/
theorem pre_inj {a b : Bool} {x y : List UInt8} (h : pre a ++ x = pre b ++ y) : a = b ∧ x = y := by
  cases a <;> cases b
  · exact ⟨rfl, List.append_cancel_left h⟩
  · simp [pre] at h
  · simp [pre] at h
  · exact ⟨rfl, List.append_cancel_left h⟩
/-- A text without an origin's beginning is none's. -/
theorem po_none {s : List UInt8} (h : ∀ (b : Bool) (x : List UInt8), x ≠ [] → s ≠ pre b ++ x) : ∀ o : Fx.Origin, orgB o = true → fmtO o ≠ s := by
  intro o ho e
  refine h o.Secure _ ?_ (fmtO_eq ho e)
  intro e2
  exact host_ne (orgB_parts ho).1 (List.append_eq_nil_iff.1 e2).1
/-- The one origin that a text without a port can be of. -/
theorem po_plain {s rest : List UInt8} {sec : Bool} (hp : s = pre sec ++ rest) (hn : ∀ c ∈ rest, c ≠ 58) : ∀ o : Fx.Origin, orgB o = true → fmtO o = s → o = ⟨sec, str rest, usual sec⟩ := by
  intro o ho e
  obtain ⟨h1, h2⟩ := pre_inj ((fmtO_eq ho e).symm.trans hp)
  by_cases hu : o.Port = usual o.Secure
  · rw [if_pos hu, List.append_nil] at h2
    cases o
    simp only at h1 h2 hu
    rw [h1] at hu
    rw [h1, hu, ← h2, str_bts]
  · rw [if_neg hu] at h2
    exact absurd rfl (hn 58 (by rw [← h2]; simp))
/-- What a text with a colon can be of. -/
theorem po_colon {s a b : List UInt8} {sec : Bool} (hp : s = pre sec ++ (a ++ 58 :: b)) (ha : ∀ c ∈ a, c ≠ 58) : ∀ o : Fx.Origin, orgB o = true → fmtO o = s → o.Secure = sec ∧ o.Host = str a ∧ Lib.itoa o.Port = b := by
  intro o ho e
  obtain ⟨h1, h2⟩ := pre_inj ((fmtO_eq ho e).symm.trans hp)
  by_cases hu : o.Port = usual o.Secure
  · rw [if_pos hu, List.append_nil] at h2
    exact absurd rfl (host_chars (orgB_parts ho).1 58 (by rw [h2]; simp))
  · rw [if_neg hu] at h2
    obtain ⟨e1, e2⟩ := colon_at (host_chars (orgB_parts ho).1) a b ha h2
    exact ⟨h1, by rw [← e1, str_bts], e2⟩
/-- .. and with a number behind it. -/
theorem po_port {s a : List UInt8} {n : Nat} {sec : Bool} (hp : s = pre sec ++ (a ++ 58 :: Lib.decDigits n)) (ha : ∀ c ∈ a, c ≠ 58) : ∀ o : Fx.Origin, orgB o = true → fmtO o = s → o = ⟨sec, str a, n⟩ := by
  intro o ho e
  obtain ⟨h1, h2, h3⟩ := po_colon hp ha o ho e
  obtain ⟨-, p0, p1⟩ := orgB_parts ho
  have := itoa_inj (a := o.Port) (b := n) (by omega) (by omega) (by rw [h3, C1P.itoa_nat])
  cases o
  simp only at h1 h2 this
  rw [h1, h2, this]
theorem po_noport {s a b : List UInt8} {sec : Bool} (hp : s = pre sec ++ (a ++ 58 :: b)) (ha : ∀ c ∈ a, c ≠ 58) (hb : C1P.No (str b)) : ∀ o : Fx.Origin, orgB o = true → fmtO o ≠ s := by
  intro o ho e
  obtain ⟨h1, h2, h3⟩ := po_colon hp ha o ho e
  obtain ⟨-, p0, p1⟩ := orgB_parts ho
  have := C1P.itoa_nat o.Port.toNat
  rw [show ((o.Port.toNat : Nat) : Int) = o.Port by omega, h3] at this
  exact hb o.Port.toNat (by omega) (by rw [this]; rfl)
/-- What a walk finds that knows the one origin that it can be. -/
theorem po_c {s : List UInt8} {c : Fx.Origin} (hu : ∀ o : Fx.Origin, orgB o = true → fmtO o = s → o = c) : (orgB c = true ∧ fmtO c = s ∧ poB s = true ∧ poO s = c) ∨ ((orgB c = false ∨ fmtO c ≠ s) ∧ poB s = false ∧ poO s = ⟨false, ⟨#[]⟩, 0⟩) := by
  by_cases h : orgB c = true ∧ fmtO c = s
  · exact Or.inl ⟨h.1, h.2, po_t h.1 h.2⟩
  · refine Or.inr ⟨?_, po_f (fun o ho e => h ?_)⟩
    · by_cases h1 : orgB c = true
      · exact Or.inr (fun e => h ⟨h1, e⟩)
      · exact Or.inl (by simpa using h1)
    · rw [← hu o ho e]; exact ⟨ho, e⟩
theorem po_size (s : List UInt8) : (poO s).Host.size ≤ 60 := by
  by_cases h : ∃ o : Fx.Origin, orgB o = true ∧ fmtO o = s
  · obtain ⟨o, ho, e⟩ := h
    rw [(po_t ho e).2, ← bts_len]
    exact host_len (orgB_parts ho).1
  · rw [(po_f (s := s) (fun o ho e => h ⟨o, ho, e⟩)).2]
    exact Nat.zero_le _
theorem po_org (s : List UInt8) : orgB (poO s) = poB s ∧ (poB s = true → fmtO (poO s) = s) := by
  by_cases h : ∃ o : Fx.Origin, orgB o = true ∧ fmtO o = s
  · obtain ⟨o, ho, e⟩ := h
    obtain ⟨e1, e2⟩ := po_t ho e
    rw [e1, e2]
    exact ⟨ho, fun _ => e⟩
  · obtain ⟨e1, e2⟩ := po_f (s := s) (fun o ho e => h ⟨o, ho, e⟩)
    rw [e1, e2]
    exact ⟨rfl, fun h => by cases h⟩
theorem po_fmt (o : Fx.Origin) : poB (fmtO o) = orgB o ∧ (orgB o = true → poO (fmtO o) = o) := by
  cases ho : orgB o with
  | true =>
    obtain ⟨e1, e2⟩ := po_t ho rfl
    exact ⟨e1, fun _ => e2⟩
  | false =>
    refine ⟨?_, fun h => by cases h⟩
    rw [fmtO_f ho]
    exact (po_f (po_none (fun b x hx e => by cases b <;> simp [pre] at e))).1
theorem fmtO_size (o : Fx.Origin) : (fmtO o).length ≤ 100 := by
  cases ho : orgB o with
  | false => rw [fmtO_f ho]; simp
  | true =>
    obtain ⟨h1, h2, h3⟩ := orgB_parts ho
    have h4 := host_len h1
    have hi : (Lib.itoa o.Port).length ≤ 13 := by
      have h := C1P.itoa_nat o.Port.toNat
      rw [show ((o.Port.toNat : Nat) : Int) = o.Port by omega] at h
      rw [h]
      exact M1P.digits_len13 _ (by omega)
    rw [fmtO_t ho]
    have hp : (pre o.Secure).length ≤ 8 := by cases o.Secure <;> simp [pre]
    by_cases hu : o.Port = usual o.Secure
    · rw [if_pos hu, List.length_append, List.length_append, List.length_nil]; omega
    · rw [if_neg hu, List.length_append, List.length_append, List.length_cons]; omega
end Go.Proofs.YtialhhdhpjjkaaaGreatDoor.M13
