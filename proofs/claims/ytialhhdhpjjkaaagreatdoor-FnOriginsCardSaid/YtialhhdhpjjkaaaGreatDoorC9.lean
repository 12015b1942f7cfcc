import Derived.Test.YtialhhdhpjjkaaaGreatDoorBa
import Derived.Test.YtialhhdhpjjkaaaGreatDoorM12
import Derived.BigQuiet
/-
  Contracts of chapter 9's hosts, of the model.
-/
namespace Go.Proofs.YtialhhdhpjjkaaaGreatDoor.C9
open Go.ChangeShapes Go.WideShapes Go.ChangeAt Go.RowKit
open S0 M12
set_option linter.unusedVariables false
theorem data_len (s : ByteArray) : s.data.toList.length = s.size := Array.length_toList
theorem data_get (s : ByteArray) (k : Nat) (hk : k < s.size) : s.data.toList[k]'(by rw [data_len]; exact hk) = s[k] := rfl
/-- What a character is to the walk. -/
theorem okc_cases (c : UInt8) : (okc c = true ∧ ((97 ≤ c.toNat ∧ c.toNat ≤ 122) ∨ (48 ≤ c.toNat ∧ c.toNat ≤ 57) ∨ c.toNat = 45)) ∨ (okc c = false ∧ (c.toNat < 45 ∨ (45 < c.toNat ∧ c.toNat < 48) ∨ (57 < c.toNat ∧ c.toNat < 97) ∨ 122 < c.toNat)) := by
  by_cases h : okc c = true
  · refine Or.inl ⟨h, ?_⟩
    unfold okc at h
    simp only [Bool.or_eq_true, Bool.and_eq_true, decide_eq_true_eq, beq_iff_eq] at h
    omega
  · refine Or.inr ⟨by simpa using h, ?_⟩
    unfold okc at h
    simp only [Bool.or_eq_true, Bool.and_eq_true, decide_eq_true_eq, beq_iff_eq] at h
    omega
theorem okc_lt {c : UInt8} (h : okc c = true) : c.toNat ≤ 122 ∧ c ≠ 46 ∧ c ≠ 58 := by
  unfold okc at h
  simp only [Bool.or_eq_true, Bool.and_eq_true, decide_eq_true_eq, beq_iff_eq] at h
  refine ⟨by omega, fun e => ?_, fun e => ?_⟩ <;> (subst e; simp at h)
theorem all_okc {s : ByteArray} (h : ∀ j (h : j < s.size), okc s[j] = true) : s.data.toList.all okc = true := by
  rw [List.all_eq_true]
  intro c hc
  obtain ⟨j, hj, rfl⟩ := List.getElem_of_mem hc
  exact h j (by rw [← data_len]; exact hj)
theorem not_okc {s : ByteArray} {k : Nat} (hk : k < s.size) (h : okc s[k] = false) : s.data.toList.all okc = false := by
  rw [← Bool.not_eq_true, List.all_eq_true]
  intro hc
  have := hc s[k] (by rw [← data_get s k hk]; exact List.getElem_mem _)
  rw [h] at this
  cases this
/-- What a label is, by its ends. -/
theorem lab_of {s : ByteArray} (h : s.data.toList.all okc = true) (h1 : 1 ≤ s.size) (h2 : s.size ≤ 20) : lab s.data.toList = ((s[0]'(by omega)).toNat != 45 && (s[s.size - 1]'(by omega)).toNat != 45) := by
  have hl := data_len s
  have e1 : s.data.toList.head? = some (s[0]'(by omega)) := by
    rw [List.head?_eq_getElem?, List.getElem?_eq_getElem (by omega)]
    exact congrArg some (data_get s 0 (by omega))
  have e2 : s.data.toList.getLast? = some (s[s.size - 1]'(by omega)) := by
    rw [List.getLast?_eq_getElem?, List.getElem?_eq_getElem (by omega)]
    congr 1
  have e3 : ∀ c : UInt8, (some c != some 45) = (c.toNat != 45) := by
    intro c
    show (!(some c == some 45)) = !(c.toNat == 45)
    congr 1
    rw [Bool.eq_iff_iff]
    simp only [beq_iff_eq, Option.some.injEq]
    exact ⟨fun h => by rw [h]; rfl, fun h => by rw [← UInt8.toNat_inj]; exact h⟩
  unfold lab
  rw [h, e1, e2, e3, e3, decide_eq_true (by omega), decide_eq_true (by omega)]
  simp
theorem lab_no {s : ByteArray} (h : s.data.toList.all okc = false ∨ s.size = 0 ∨ 20 < s.size) : lab s.data.toList = false := by
  have hl := data_len s
  unfold lab
  rcases h with h | h | h
  · rw [h]; rfl
  · rw [decide_eq_false (show ¬ 1 ≤ s.data.toList.length by omega)]; simp
  · rw [decide_eq_false (show ¬ s.data.toList.length ≤ 20 by omega)]; simp
set_option maxHeartbeats 1600000 in
set_option maxRecDepth 100000 in
theorem specLab (s : ByteArray) (w : World) (hs : s.size ≤ 4294967296) : Calls Tryz.prog 108 #[.string s] w fun e w' => e = .returned (.bool (lab s.data.toList)) ∧ w = w' := by
  obtain ⟨r, hr⟩ : ∃ r, r = lab s.data.toList := ⟨_, rfl⟩
  rw [← hr]
  have HR := Lib.hid hr
  clear hr
  go_enter Tryz.func108, Tryz.ntmps108
  go_wp2
  go_loop [3] (fun i => ∃ k : Nat, k ≤ s.size ∧ i = .int .i64 k ∧ ∀ j (h : j < s.size), j < k → okc s[j] = true) (fun i => s.size - (intOf i).toNat)
  case atStart => exact ⟨0, by omega, rfl, fun _ _ h => by omega⟩
  case round =>
    obtain ⟨k, hk, rfl, hG⟩ := hrel
    have HG := Lib.hid hG
    clear hG
    by_cases hlt : k < s.size
    · rcases okc_cases s[k] with ⟨ho, hc⟩ | ⟨ho, hc⟩
      · have HN := Lib.hid (show ∀ j (h : j < s.size), j < k + 1 → okc s[j] = true from fun j h hj => by
          by_cases hjk : j < k
          · exact HG.out j h hjk
          · obtain rfl : j = k := by omega
            exact ho)
        clear ho
        rcases hc with hc | hc | hc
        all_goals
          go_wp2
          go_round
          case rel => exact ⟨k + 1, by omega, by go_num, HN.out⟩
          case measure => simp [intOf]; omega
      · obtain rfl : r = false := by rw [HR.out]; exact lab_no (Or.inl (not_okc hlt ho))
        clear ho
        have hne : ((s[k].toNat : Int) == 45) = false := by simp; omega
        rcases hc with hc | hc | hc | hc
        · go_wp2
          go_ret
          exact ⟨rfl, rfl⟩
        · go_wp2
          go_ret
          exact ⟨rfl, rfl⟩
        · have h5 : decide ((s[k].toNat : Int) ≤ 57) = false := by simp; omega
          go_wp2
          go_ret
          exact ⟨rfl, rfl⟩
        · have h5 : decide ((s[k].toNat : Int) ≤ 57) = false := by simp; omega
          have h6 : decide ((s[k].toNat : Int) ≤ 122) = false := by simp; omega
          go_wp2
          go_ret
          exact ⟨rfl, rfl⟩
    · obtain rfl : k = s.size := by omega
      have hA := all_okc (fun j h => HG.out j h h)
      have HA := Lib.hid hA
      clear hA
      by_cases hb : 1 ≤ s.size ∧ s.size ≤ 20
      · have HL := Lib.hid (HR.out.trans (lab_of HA.out hb.1 hb.2))
        clear HR
        go_wp2_with fail
        (with_reducible refine (C1.specIn_t _ 1 20 _ (by omega) (by omega)).mono ?_); rintro e w1 ⟨rfl, rfl⟩
        obtain ⟨b1, b2⟩ := hb
        have hi : 0 < s.size := by omega
        have hi2 : s.size - 1 < s.size := by omega
        by_cases h0 : s[0].toNat = 45
        · obtain rfl : r = false := by rw [HL.out]; simp [h0]
          clear HL
          go_wp2
          go_ret
          exact ⟨rfl, rfl⟩
        · by_cases h9 : s[s.size - 1].toNat = 45
          · obtain rfl : r = false := by rw [HL.out]; simp [h9]
            clear HL
            have e0 : ((s[0].toNat : Int) == 45) = false := by simp; omega
            go_wp2
            go_ret
            exact ⟨rfl, rfl⟩
          · obtain rfl : r = true := by rw [HL.out]; simp [h0, h9]
            clear HL
            have e0 : ((s[0].toNat : Int) == 45) = false := by simp; omega
            have e9 : ((s[s.size - 1].toNat : Int) == 45) = false := by simp; omega
            have hv : ((s[0].toNat : Int) != 45 && (s[s.size - 1].toNat : Int) != 45) = true := by simp [bne, e0, e9]
            go_wp2
            go_ret
            exact ⟨by rw [← hv]; rfl, rfl⟩
      · obtain rfl : r = false := by rw [HR.out]; exact lab_no (by omega)
        go_wp2_with fail
        (with_reducible refine (C1.specIn_f _ 1 20 _ (by omega)).mono ?_); rintro e w1 ⟨rfl, rfl⟩
        go_wp2
        go_ret
        exact ⟨rfl, rfl⟩
/-- A row of strings. -/
def strs (ls : List (List UInt8)) : List Value := ls.map fun l => .string ⟨l.toArray⟩
theorem strs_len (ls : List (List UInt8)) : (strs ls).length = ls.length := by simp [strs]
theorem strs_get {ls : List (List UInt8)} {k : Nat} {l : List UInt8} (h : ls[k]? = some l) : (strs ls)[k]? = some (.string ⟨l.toArray⟩) := by simp [strs, h]
theorem extract_is (s : ByteArray) (f k : Nat) (h : f ≤ k) (hk : k ≤ s.size) : s.extract f k = ⟨((s.data.toList.drop f).take (k - f)).toArray⟩ := by
  apply ByteArray.ext
  apply Array.ext'
  simp [ByteArray.data_extract]
theorem cut_len {s : List UInt8} {i f : Nat} {outs : List (List UInt8)} (h : (split s).length ≤ s.length + 1) (hc : Cut s i f outs) : outs.length ≤ s.length := by
  rw [hc.eq, List.length_append] at h
  have := List.length_pos_iff.2 (split_ne (s.drop f))
  omega
theorem split_len (s : List UInt8) : (split s).length ≤ s.length + 1 := by
  induction s with
  | nil => simp [split]
  | cons c cs ih =>
    by_cases hc : c = 46
    · subst hc; rw [split_at]; simp; omega
    · cases hs : split cs with
      | nil => exact absurd hs (split_ne cs)
      | cons x xs =>
        rw [hs] at ih
        rw [split_off hc hs]
        simp only [List.length_cons] at ih ⊢
        omega
theorem str_info : (Tryz.prog.info? 9).map (fun i => (i.zero, i.size, i.bytes)) = some (some (.string ⟨#[]⟩), 1, 16) := by kernel_rfl
theorem appS (w : World) {ops : Array Oper} {rest : List Oper} {o : Oper} {a : Act} {Q : Exit → Act → World → Prop} (hgd : o.guard = none) (s x : Operand)
    (ho : o.op = .call { callee := .builtin .append, args := #[s, x], argTypes := #[107, 107] }) (base : Nat) (v : Value) (n : Nat) (xs : List Value) (hs : a.eval s = v) (hown : w.ownsRow base 9 1 v n xs)
    (B : Nat) (A : Option Addr) (m c : Nat) (news : List Value) (hx : a.eval x = .slice A m c) (hr : Rd w B 1 A m news) (h1 : ∀ u ∈ news, u.oneCell' = true) (h63 : n + m ≤ 8796093022208) (hbase : base ≤ w.heap.size)
    (h : ∀ v' w', w'.ownsRow base 9 1 v' (n + m) (xs ++ news) → w.grownBy w' v.ownBlock → wpList Tryz.prog ops Q rest (a.put o.dst v') w') : wpList Tryz.prog ops Q (o :: rest) a w := by
  obtain ⟨i0, hi, hz0, hz1, hz2⟩ := info_parts str_info
  exact wpList_app w hgd s x 107 ho base 9 i0 (.string ⟨#[]⟩) 1 16 Tryz.underlying107 hi hz0 hz1 hz2 rfl (by decide) v n xs hs hown B A m c news hx hr h1 (by unfold maxLen; omega) (by omega) hbase h
/-- Where the loop stands. -/
def At (s : ByteArray) (w : World) (v fv iv : Value) (wr : World) : Prop :=
  (∃ (k f : Nat) (outs : List (List UInt8)), k ≤ s.size ∧ iv = .int .i64 k ∧ fv = .int .i64 f ∧ Cut s.data.toList k f outs ∧ wr.ownsRow w.heap.size 9 1 v outs.length (strs outs) ∧ Below w.heap.size w wr)
  ∨ (iv = .int .i64 ((s.size : Int) + 1) ∧ (∃ f : Nat, fv = .int .i64 f) ∧ wr.ownsRow w.heap.size 9 1 v (split s.data.toList).length (strs (split s.data.toList)) ∧ Below w.heap.size w wr)
set_option maxHeartbeats 1600000 in
set_option maxRecDepth 100000 in
theorem specLabs (s : ByteArray) (w : World) (hs : s.size ≤ 4294967296) : Calls Tryz.prog 76 #[.string s] w (MadeS 9 1 (split s.data.toList).length (strs (split s.data.toList)) w) := by
  have HSL := Lib.hid (split_len s.data.toList)
  have HDL := Lib.hid (data_len s)
  have h0 : (w.alloc (.cells #[] 9)).ownsRow w.heap.size 9 1 (.slice (some ⟨w.heap.size, 0, none⟩) 0 0) 0 (strs []) := own_lit w #[] 0 w.heap.size 9 (Nat.le_refl _) rfl (Nat.zero_le _)
  have HZ := Lib.hid (show At s w (.slice (some ⟨w.heap.size, 0, none⟩) 0 0) (.int .i64 0) (.int .i64 0) (w.alloc (.cells #[] 9)) from Or.inl ⟨0, 0, [], by omega, rfl, rfl, Cut.start _, h0, (Below.refl _ _).alloc (Nat.le_refl _) _⟩)
  clear h0
  go_enter Tryz.func76, Tryz.ntmps76
  go_wp2
  go_loopw [3, 4, 5] (fun v fv iv wr => At s w v fv iv wr) (fun _ _ i _ => s.size + 1 - (intOf i).toNat)
  case atStart => exact HZ.out
  case round =>
    rcases hrel with ⟨k, f, outs, hk, rfl, rfl, hC, ho, hb⟩ | ⟨rfl, ⟨f, rfl⟩, ho, hb⟩
    · have hol := cut_len HSL.out hC
      rw [HDL.out] at hol
      have hfk := hC.le
      have HC := Lib.hid hC
      have HO := Lib.hid ho
      have hws := hb.size
      obtain ⟨A, c, rfl⟩ := own_nil_form ho
      clear hC ho HZ
      by_cases hlt : k < s.size
      · have hkd : k < s.data.toList.length := by rw [HDL.out]; exact hlt
        have hkn : ((k : Int) == s.size) = false := by simp; omega
        by_cases hd : s[k].toNat = 46
        · have hd1 : s.data.toList[k] = 46 := by rw [data_get s k hlt, ← UInt8.toNat_inj]; exact hd
          have HN := Lib.hid (HC.out.dot hkd hd1)
          have HE := Lib.hid (extract_is s f k hfk hk)
          clear hd1
          go_wp2_with (at_builtin; refine appS _ rfl _ _ rfl w.heap.size _ _ _ rfl (HO.out.alloc _) _ _ 1 1 [.string (s.extract f k)] rfl (rd_one _ _ _) (fun u hu => by obtain rfl := List.mem_singleton.1 hu; rfl) (by omega) (by simp; omega) ?_; intro v2 w2 ho2 hg2)
          obtain ⟨A2, c2, rfl⟩ := own_nil_form ho2
          have hb2 := below_grown hg2 (show w.heap.size ≤ (wr.alloc _).heap.size by simp; omega) (fun j hj => (HO.out.lt j hj).1)
          have HB := Lib.hid ((hb.alloc hws _).trans hb2)
          have HO2 := Lib.hid (show w2.ownsRow w.heap.size 9 1 (.slice A2 (outs.length + 1) c2) (outs ++ [(s.data.toList.drop f).take (k - f)]).length (strs (outs ++ [(s.data.toList.drop f).take (k - f)])) by
            rw [List.length_append]
            simp only [strs, List.map_append, List.map_cons, List.map_nil] at ho2 ⊢
            rw [← HE.out]
            exact ho2)
          clear ho2 hg2 hb2
          go_roundw
          case rel => exact Or.inl ⟨k + 1, k + 1, _, by omega, by go_num, by go_num, HN.out, HO2.out, HB.out⟩
          case measure => simp [intOf]; omega
        · have hd1 : s.data.toList[k] ≠ 46 := by rw [data_get s k hlt]; intro e; exact hd (by rw [e]; rfl)
          have HN := Lib.hid (HC.out.char hkd hd1)
          have hne : ((s[k].toNat : Int) == 46) = false := by simp; omega
          clear hd1
          go_wp2
          go_roundw
          case rel => exact Or.inl ⟨k + 1, f, outs, by omega, by go_num, rfl, HN.out, HO.out, hb⟩
          case measure => simp [intOf]; omega
      · obtain rfl : k = s.size := by omega
        have hkn : ((s.size : Int) == s.size) = true := by simp
        have HN := Lib.hid (show split s.data.toList = outs ++ [s.data.toList.drop f] by have h := HC.out; rw [← HDL.out] at h; exact h.done)
        have HE := Lib.hid (show s.extract f s.size = ⟨(s.data.toList.drop f).toArray⟩ by rw [extract_is s f s.size hfk (Nat.le_refl _), List.take_of_length_le]; rw [List.length_drop, HDL.out]; omega)
        go_wp2_with (at_builtin; refine appS _ rfl _ _ rfl w.heap.size _ _ _ rfl (HO.out.alloc _) _ _ 1 1 [.string (s.extract f s.size)] rfl (rd_one _ _ _) (fun u hu => by obtain rfl := List.mem_singleton.1 hu; rfl) (by omega) (by simp; omega) ?_; intro v2 w2 ho2 hg2)
        obtain ⟨A2, c2, rfl⟩ := own_nil_form ho2
        have hb2 := below_grown hg2 (show w.heap.size ≤ (wr.alloc _).heap.size by simp; omega) (fun j hj => (HO.out.lt j hj).1)
        have HB := Lib.hid ((hb.alloc hws _).trans hb2)
        have HO2 := Lib.hid (show w2.ownsRow w.heap.size 9 1 (.slice A2 (outs.length + 1) c2) (split s.data.toList).length (strs (split s.data.toList)) by
          rw [HN.out, List.length_append]
          simp only [strs, List.map_append, List.map_cons, List.map_nil] at ho2 ⊢
          rw [← HE.out]
          exact ho2)
        clear ho2 hg2 hb2
        go_roundw
        case rel => exact Or.inr ⟨by go_num, ⟨s.size + 1, by go_num⟩, HO2.out, HB.out⟩
        case measure => simp [intOf]
    · have hd : decide ((s.size : Int) + 1 ≤ s.size) = false := by simp; omega
      have HO := Lib.hid ho
      obtain ⟨A, c, rfl⟩ := own_nil_form ho
      clear HZ ho
      go_wp2
      go_ret
      exact ⟨A, c, rfl, HO.out, hb⟩
/-- A string of a row, read. -/
theorem strs_at {w : World} {hi n : Nat} {A : Option Addr} {ls : List (List UInt8)} (h : Rd w hi 1 A n (strs ls)) {k : Nat} {l : List UInt8} (hk : ls[k]? = some l) :
    ∃ b off, A = some ⟨b, off, none⟩ ∧ b < hi ∧ w.cell? ⟨b, off + k, none⟩ = some (.string ⟨l.toArray⟩) := by
  have hlen : ls.length = n := by have := h.len1; rw [strs_len] at this; exact this
  have hkl : k < ls.length := (List.getElem?_eq_some_iff.1 hk).1
  obtain ⟨b, off, e, hb, hc⟩ := h.2 (by omega)
  exact ⟨b, off, e, hb, by rw [hc k (by omega)]; exact strs_get hk⟩
theorem split_sum (s : List UInt8) : ∀ x ∈ split s, x.length ≤ s.length := by
  induction s with
  | nil => intro x hx; simp [split] at hx; simp [hx]
  | cons c cs ih =>
    intro x hx
    by_cases hc : c = 46
    · subst hc
      rw [split_at] at hx
      rcases List.mem_cons.1 hx with rfl | hx
      · simp
      · have := ih x hx; simp; omega
    · cases hs : split cs with
      | nil => exact absurd hs (split_ne cs)
      | cons y ys =>
        rw [split_off hc hs] at hx
        rcases List.mem_cons.1 hx with rfl | hx
        · have := ih y (by rw [hs]; exact List.mem_cons_self ..); simp; omega
        · have := ih x (by rw [hs]; exact List.mem_cons_of_mem _ hx); simp; omega
set_option maxHeartbeats 1600000 in
set_option maxRecDepth 100000 in
theorem specHost (s : ByteArray) (w : World) (hs : s.size ≤ 4294967296) : Calls Tryz.prog 71 #[.string s] w (Gives (.bool (host s.data.toList)) w) := by
  obtain ⟨r, hr⟩ : ∃ r, r = host s.data.toList := ⟨_, rfl⟩
  rw [← hr]
  have HR := Lib.hid hr
  have HSS := Lib.hid (split_sum s.data.toList)
  have HDL := Lib.hid (data_len s)
  have hsl := split_len s.data.toList
  rw [HDL.out] at hsl
  clear hr
  go_enter Tryz.func71, Tryz.ntmps71
  go_wp2_with fail
  (with_reducible refine (specLabs s _ hs).mono ?_); rintro e w1 ⟨A, c, rfl, ho, hb⟩
  obtain ⟨ls, hls⟩ : ∃ ls, ls = split s.data.toList := ⟨_, rfl⟩
  rw [← hls] at ho hsl HSS ⊢
  have HLS := Lib.hid hls
  have RR := Lib.hid (Rd.own ho)
  obtain ⟨n, hn⟩ : ∃ n, n = ls.length := ⟨_, rfl⟩
  rw [← hn] at RR hsl ⊢
  have HN := Lib.hid hn
  clear ho hls hn
  have hwb := hb.size
  go_wp2
  go_loop [4] (fun i => ∃ k : Nat, k ≤ n ∧ i = .int .i64 k ∧ ∀ x ∈ ls.take k, lab x = true) (fun i => n - (intOf i).toNat)
  case atStart => exact ⟨0, by omega, rfl, fun x hx => by simp at hx⟩
  case round =>
    obtain ⟨k, hk, rfl, hG⟩ := hrel
    have HG := Lib.hid hG
    clear hG
    by_cases hlt : k < n
    · have hkl : k < ls.length := by rw [← HN.out]; exact hlt
      obtain ⟨b, off, rfl, hbl, hcell⟩ := strs_at RR.out (List.getElem?_eq_getElem hkl)
      have hsz : (⟨ls[k].toArray⟩ : ByteArray).size ≤ 4294967296 := by
        have := HSS.out ls[k] (List.getElem_mem _)
        rw [HDL.out] at this
        have e : (⟨ls[k].toArray⟩ : ByteArray).size = ls[k].length := by simp [ByteArray.size]
        omega
      have HL := Lib.hid (specLab ⟨ls[k].toArray⟩ w1 hsz)
      have e : (⟨ls[k].toArray⟩ : ByteArray).data.toList = ls[k] := by simp
      rw [e] at HL
      clear e hsz
      cases hlb : lab ls[k] with
      | true =>
        rw [hlb] at HL
        have HX := Lib.hid (show ∀ x ∈ ls.take (k + 1), lab x = true from fun x hx => by
          rw [List.take_succ_eq_append_getElem hkl] at hx
          rcases List.mem_append.1 hx with hx | hx
          · exact HG.out x hx
          · obtain rfl := List.mem_singleton.1 hx; exact hlb)
        clear hlb
        go_wp2_with fail
        (refine HL.out.mono ?_); rintro e w2 ⟨rfl, rfl⟩
        go_wp2
        go_round
        case rel => exact ⟨k + 1, by omega, by go_num, HX.out⟩
        case measure => simp [intOf]; omega
      | false =>
        rw [hlb] at HL
        obtain rfl : r = false := by
          rw [HR.out]
          unfold host
          have : (split s.data.toList).all lab = false := by
            rw [← Bool.not_eq_true, List.all_eq_true, ← HLS.out]
            intro h
            rw [h ls[k] (List.getElem_mem _)] at hlb
            cases hlb
          rw [this]; rfl
        clear hlb
        go_wp2_with fail
        (refine HL.out.mono ?_); rintro e w2 ⟨rfl, rfl⟩
        go_wp2
        go_ret
        exact ⟨rfl, hb⟩
    · obtain rfl : k = n := by omega
      obtain rfl : r = decide ((s.size : Int) ≤ 60) := by
        rw [HR.out]
        unfold host
        have h1 := HG.out
        rw [HN.out, List.take_length] at h1
        have : (split s.data.toList).all lab = true := by rw [List.all_eq_true, ← HLS.out]; exact h1
        rw [this, HDL.out]
        simp
        omega
      clear HR
      have hd : decide (k < k) = false := by simp
      go_wp2
      go_ret
      exact ⟨rfl, hb⟩
end Go.Proofs.YtialhhdhpjjkaaaGreatDoor.C9
