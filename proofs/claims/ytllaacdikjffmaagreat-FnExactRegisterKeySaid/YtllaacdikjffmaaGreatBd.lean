import Derived.Test.YtllaacdikjffmaaGreatBa
import Derived.Test.YtllaacdikjffmaaGreatBc
import Derived.BigQuiet
import Derived.Test.YtllaacdikjffmaaGreatChecked
import Derived.WalkKit
import Derived.ProofKit
import Derived.OpenShut
import Derived.Below
import Derived.Lib.Hide
import Derived.Lib.ItoaNum
import Derived.Lib.ItoaLen
import Derived.Laws.IdiomStrings
import Derived.Lib.Strings
import Derived.Lib.AtoiTie
import Derived.Lib.Atoi
import Derived.Lib.AtoiAll
import Derived.Deep.RegionHeld3
import Derived.Deep.RegionLaw
import Derived.ChangeAt
import Derived.Lib.Walk
import Derived.Lib.Slices
import Derived.Lib.Bytealg
import Derived.Laws.Strings3
import Derived.BigCall
/-
  Contracts of chapter 9's hosts, of the program: a range over runes.
-/
namespace Go.Proofs.YtllaacdikjffmaaGreat.C9h
open Go.ChangeShapes Go.WideShapes Go.ChangeAt Go.RowKit
open S0 M12 M12i C9
set_option linter.unusedVariables false
set_option maxHeartbeats 1600000 in
set_option maxRecDepth 100000 in
theorem implAlnum (x : Int) (w : World) (h0 : 0 ≤ x) (h1 : x ≤ 2147483647) : Calls Tryz.prog 111 #[.int .i32 x] w fun e w' => e = .returned (.bool (alnumI x)) ∧ w' = w := by
  obtain ⟨r, hr⟩ : ∃ r, r = alnumI x := ⟨_, rfl⟩
  rw [← hr]
  have HR := Lib.hid hr
  clear hr
  by_cases a : x < 48
  · obtain rfl : r = false := by rw [HR.out]; unfold alnumI; rw [decide_eq_false (show ¬ 97 ≤ x by omega), decide_eq_false (show ¬ 48 ≤ x by omega)]; rfl
    clear HR
    go_enter Tryz.func111, Tryz.ntmps111
    go_wp2
    go_ret
    exact ⟨rfl, rfl⟩
  by_cases b : x ≤ 57
  · obtain rfl : r = true := by rw [HR.out]; unfold alnumI; rw [decide_eq_true (show 48 ≤ x by omega), decide_eq_true (show x ≤ 57 by omega)]; simp
    clear HR
    go_enter Tryz.func111, Tryz.ntmps111
    go_wp2
    go_ret
    exact ⟨rfl, rfl⟩
  by_cases c : x < 97
  · obtain rfl : r = false := by rw [HR.out]; unfold alnumI; rw [decide_eq_false (show ¬ 97 ≤ x by omega), decide_eq_false (show ¬ x ≤ 57 by omega)]; simp
    clear HR
    go_enter Tryz.func111, Tryz.ntmps111
    go_wp2
    go_ret
    exact ⟨rfl, rfl⟩
  by_cases d : x ≤ 122
  · obtain rfl : r = true := by rw [HR.out]; unfold alnumI; rw [decide_eq_true (show 97 ≤ x by omega), decide_eq_true (show x ≤ 122 by omega)]; simp
    clear HR
    go_enter Tryz.func111, Tryz.ntmps111
    go_wp2
    go_ret
    exact ⟨rfl, rfl⟩
  · obtain rfl : r = false := by rw [HR.out]; unfold alnumI; rw [decide_eq_false (show ¬ x ≤ 122 by omega), decide_eq_false (show ¬ x ≤ 57 by omega)]; simp
    clear HR
    go_enter Tryz.func111, Tryz.ntmps111
    go_wp2
    go_ret
    exact ⟨rfl, rfl⟩
set_option maxHeartbeats 1600000 in
set_option maxRecDepth 100000 in
theorem implMayF (x p : Int) (w : World) (h0 : 0 ≤ x) (h1 : x ≤ 2147483647) (k0 : 0 ≤ p) (k1 : p ≤ 2147483647) : Calls Tryz.prog 109 #[.int .i32 x, .int .i32 p] w fun e w' => e = .returned (.bool (mayI x p)) ∧ w' = w := by
  by_cases a : x = 46
  · subst a
    have HR := Lib.hid (show mayI 46 p = alnumI p from rfl)
    go_enter Tryz.func109, Tryz.ntmps109
    go_wp2_with (go_at_call 111; (with_reducible refine (implAlnum p _ k0 k1).mono ?_); rintro e w' ⟨rfl, rfl⟩)
    go_ret
    exact ⟨by rw [HR.out]; rfl, rfl⟩
  by_cases b : x = 45
  · subst b
    have HR := Lib.hid (show mayI 45 p = !(p == 46) from rfl)
    go_enter Tryz.func109, Tryz.ntmps109
    go_wp2_with fail
    go_ret
    exact ⟨by rw [HR.out]; rfl, rfl⟩
  · have HR := Lib.hid (show mayI x p = alnumI x by unfold mayI; rw [if_neg a, if_neg b])
    have a2 : (x == 46) = false := by simpa using a
    have b2 : (x == 45) = false := by simpa using b
    go_enter Tryz.func109, Tryz.ntmps109
    go_wp2_with (go_at_call 111; (with_reducible refine (implAlnum x _ h0 h1).mono ?_); rintro e w' ⟨rfl, rfl⟩)
    go_ret
    exact ⟨by rw [HR.out]; rfl, rfl⟩
theorem byte_eq (c : UInt8) (k : Nat) (hk : k < 256) : ((c.toNat : Int) == (k : Int)) = decide (c = UInt8.ofNat k) := by
  rw [Bool.eq_iff_iff]
  simp only [beq_iff_eq, decide_eq_true_eq]
  rw [← UInt8.toNat_inj]
  have : (UInt8.ofNat k).toNat = k := by simp; omega
  rw [this]
  omega
theorem drop_at (s : ByteArray) (k : Nat) (h : k < s.size) : s.data.toList.drop k = s[k] :: s.data.toList.drop (k + 1) := by
  rw [List.drop_eq_getElem_cons (by rw [data_len]; exact h)]
  rfl
theorem below_iter (w : World) (s : ByteArray) (k : Nat) : Below w.heap.size w (w.iter s k) := (Below.refl _ _).alloc (Nat.le_refl _) _
set_option maxHeartbeats 1600000 in
set_option maxRecDepth 100000 in
theorem implHost (s : ByteArray) (w : World) (hs : s.size ≤ 4294967296) : Calls Tryz.prog 105 #[.string s] w (Gives (.bool (host s.data.toList)) w) := by
  obtain ⟨r, hr⟩ : ∃ r, r = host s.data.toList := ⟨_, rfl⟩
  rw [← hr]
  have HR := Lib.hid hr
  have HDL := Lib.hid (data_len s)
  clear hr
  by_cases hb : 60 < s.size
  · obtain rfl : r = false := by rw [HR.out]; exact host_long _ (by rw [HDL.out]; exact hb)
    clear HR
    go_enter Tryz.func105, Tryz.ntmps105
    go_wp2
    go_ret
    exact ⟨rfl, Below.refl _ _⟩
  · have HS := Lib.hid (HR.out.trans (scan_host _ (by rw [HDL.out]; omega)).symm)
    clear HR
    go_enter Tryz.func105, Tryz.ntmps105
    go_wp2
    go_loopw [3, 4] (fun p n wr => ∃ (k : Nat) (pc : UInt8) (m : Nat), k ≤ s.size ∧ p = .int .i32 pc.toNat ∧ n = .int .i64 m ∧ m ≤ 20 ∧ wr = w.iter s k ∧ scan pc m (s.data.toList.drop k) = r) (fun _ _ wr => s.size - wr.iterPos w.heap.size)
    case atStart => exact ⟨0, 46, 0, by omega, rfl, rfl, by omega, rfl, HS.out.symm⟩
    case round =>
      obtain ⟨k, pc, m, hk, rfl, rfl, hm, rfl, hsc⟩ := hrel
      have HSC := Lib.hid hsc
      have hpl : pc.toNat < 256 := pc.toNat_lt
      clear hsc HS
      by_cases hlt : k < s.size
      · have HD := Lib.hid (drop_at s k hlt)
        have hcl : s[k].toNat < 256 := s[k].toNat_lt
        by_cases ha : s[k].toNat < 128
        · have hnx := fun ty => run_next_ascii (P := Tryz.prog) w s k ty hlt ha
          have HM := Lib.hid (fun wx : World => show Calls Tryz.prog 109 #[.int .i32 s[k].toNat, .int .i32 pc.toNat] wx fun e w' => e = .returned (.bool (mayB s[k] pc)) ∧ w' = wx from mayI_is s[k] pc ▸ implMayF s[k].toNat pc.toNat wx (by omega) (by omega) (by omega) (by omega))
          cases hmb : mayB s[k] pc with
          | false =>
            rw [hmb] at HM
            obtain rfl : r = false := by rw [← HSC.out, HD.out]; exact scan_off hmb
            clear HSC HD hmb
            go_wp2_with (go_at_call 109; (refine (HM.out _).mono ?_); rintro e w' ⟨rfl, rfl⟩)
            go_ret
            exact ⟨rfl, below_iter _ _ _⟩
          | true =>
            rw [hmb] at HM
            by_cases h6 : s[k] = 46
            · have HN := Lib.hid (show scan s[k] 0 (s.data.toList.drop (k + 1)) = r by rw [← HSC.out, HD.out]; exact (scan_dot h6 hmb).symm)
              have hb6 : ((s[k].toNat : Int) == 46) = true := (byte_eq s[k] 46 (by decide)).trans (decide_eq_true h6)
              clear HSC HD hmb h6
              go_wp2_with (go_at_call 109; (refine (HM.out _).mono ?_); rintro e w' ⟨rfl, rfl⟩)
              go_roundw
              case rel => exact ⟨k + 1, s[k], 0, by omega, rfl, rfl, by omega, rfl, HN.out⟩
              case measure => simp; omega
            · have hb6 : ((s[k].toNat : Int) == 46) = false := (byte_eq s[k] 46 (by decide)).trans (decide_eq_false h6)
              by_cases hl : m + 1 ≤ 20
              · have HN := Lib.hid (show scan s[k] (m + 1) (s.data.toList.drop (k + 1)) = r by rw [← HSC.out, HD.out]; exact (scan_char h6 hmb hl).symm)
                clear HSC HD hmb h6
                go_wp2_with (go_at_call 109; (refine (HM.out _).mono ?_); rintro e w' ⟨rfl, rfl⟩)
                go_roundw
                case rel => exact ⟨k + 1, s[k], m + 1, by omega, rfl, by go_num, by omega, rfl, HN.out⟩
                case measure => simp; omega
              · obtain rfl : r = false := by rw [← HSC.out, HD.out]; exact scan_long h6 (by omega)
                clear HSC HD hmb h6
                go_wp2_with (go_at_call 109; (refine (HM.out _).mono ?_); rintro e w' ⟨rfl, rfl⟩)
                go_ret
                exact ⟨rfl, below_iter _ _ _⟩
        · have hnx := fun ty => run_next_any (P := Tryz.prog) w s k ty hlt
          have hdh := (decode_high s k hlt (by omega)).1
          have hdl := decode_le s k
          obtain rfl : r = false := by rw [← HSC.out, HD.out]; exact scan_off (mayB_high (by omega))
          obtain ⟨u, hu⟩ : ∃ u, u = (Utf8.decode s k).1 := ⟨_, rfl⟩
          obtain ⟨d, hd⟩ : ∃ d, d = (Utf8.decode s k).2 := ⟨_, rfl⟩
          rw [← hu] at hdh hdl
          rw [← hu, ← hd] at hnx
          have HM := Lib.hid (fun wx : World => show Calls Tryz.prog 109 #[.int .i32 u, .int .i32 pc.toNat] wx fun e w' => e = .returned (.bool false) ∧ w' = wx from mayI_high (x := u) (p := pc.toNat) (by omega) ▸ implMayF u pc.toNat wx (by omega) (by omega) (by omega) (by omega))
          clear HSC HD hu hd
          go_wp2_with (go_at_call 109; (refine (HM.out _).mono ?_); rintro e w' ⟨rfl, rfl⟩)
          go_ret
          exact ⟨rfl, below_iter _ _ _⟩
      · obtain rfl : k = s.size := by omega
        have hnx := fun ty => run_next_end (P := Tryz.prog) w s s.size ty hlt
        have HE := Lib.hid (show alnum pc = r by rw [← HSC.out, List.drop_of_length_le (by rw [HDL.out]; exact Nat.le_refl _)]; rfl)
        have HM := Lib.hid (fun wx : World => show Calls Tryz.prog 109 #[.int .i32 46, .int .i32 pc.toNat] wx fun e w' => e = .returned (.bool r) ∧ w' = wx from by
          have h := implMayF 46 pc.toNat wx (by omega) (by omega) (by omega) (by omega)
          rw [show mayI 46 pc.toNat = alnumI pc.toNat from rfl, alnumI_is, HE.out] at h
          exact h)
        clear HSC HE
        go_wp2_with (go_at_call 109; (refine (HM.out _).mono ?_); rintro e w' ⟨rfl, rfl⟩)
        go_ret
        exact ⟨rfl, below_iter _ _ _⟩
end Go.Proofs.YtllaacdikjffmaaGreat.C9h

/-
  Contracts of chapter 9's hosts and origins, of the program.
-/
namespace Go.Proofs.YtllaacdikjffmaaGreat.C9j
open Go.ChangeShapes Go.WideShapes Go.ChangeAt Go.RowKit
open S0 S9 Dm Fx M12 M13 C9
set_option linter.unusedVariables false
set_option linter.unusedSimpArgs false
theorem implHost (s : ByteArray) (w : World) (hs : s.size ≤ 4294967296) : Calls Tryz.prog 105 #[.string s] w (Gives (.bool (host (bts s))) w) := C9h.implHost s w hs
end Go.Proofs.YtllaacdikjffmaaGreat.C9j

/-
  What the program asks of Go's strings: a beginning, an end, one byte looked for, a text cut there.
-/
namespace Go.Proofs.YtllaacdikjffmaaGreat.Sx
open Go.ChangeShapes Go.WideShapes Go.ChangeAt Go.RowKit
set_option linter.unusedVariables false
/-- Where a byte first stands. -/
theorem idx_at (l : List UInt8) (c : UInt8) : (Lib.indexByte l c = -1 ∧ ∀ x ∈ l, x ≠ c) ∨ ∃ a b, l = a ++ c :: b ∧ (∀ x ∈ a, x ≠ c) ∧ Lib.indexByte l c = a.length := by
  induction l with
  | nil => exact Or.inl ⟨rfl, by simp⟩
  | cons d l ih =>
    by_cases h : d = c
    · subst h
      exact Or.inr ⟨[], l, rfl, by simp, by simp [Lib.indexByte]⟩
    · have hb : (d == c) = false := by simpa using h
      rcases ih with ⟨h1, h2⟩ | ⟨a, b, h1, h2, h3⟩
      · refine Or.inl ⟨by simp [Lib.indexByte, hb, h1], ?_⟩
        intro x hx
        rcases List.mem_cons.1 hx with rfl | hx
        · exact h
        · exact h2 x hx
      · refine Or.inr ⟨d :: a, b, by rw [h1]; rfl, ?_, ?_⟩
        · intro x hx
          rcases List.mem_cons.1 hx with rfl | hx
          · exact h
          · exact h2 x hx
        · have hn : ((a.length : Int) == -1) = false := by rw [beq_eq_false_iff_ne]; omega
          simp [Lib.indexByte, hb, h3, hn]
theorem idx_mem (l : List UInt8) (c : UInt8) : decide (0 ≤ Lib.indexByte l c) = decide (c ∈ l) := by
  rw [decide_eq_decide]
  rcases idx_at l c with ⟨h1, h2⟩ | ⟨a, b, h1, h2, h3⟩
  · rw [h1]
    exact ⟨fun h => by omega, fun h => absurd rfl (h2 c h)⟩
  · rw [h3, h1]
    exact ⟨fun _ => by simp, fun _ => by omega⟩
set_option maxHeartbeats 1000000 in
set_option maxRecDepth 100000 in
theorem idxByte (s : ByteArray) (c : Int) (w : World) : Calls Tryz.prog 113 #[.string s, .int .u8 c] w fun e w' => e = .returned (.int .i64 (Lib.indexByte s.data.toList c.toNat.toUInt8)) ∧ w' = w := by
  go_enter Tryz.func113, Tryz.ntmps113
  go_wp2
  rw [run_callFunc_extern Tryz.func117 (by kernel_rfl) (by kernel_rfl) (by kernel_rfl) (e := Extern.BytealgIndexByte.indexByte) (by kernel_rfl), Lib.run_indexByteString]
  simp only [Result.andThen]
  rw [Oper.upon_value]
  go_wp2
  go_ret
  exact ⟨rfl, rfl⟩
set_option maxHeartbeats 2000000 in
set_option maxRecDepth 100000 in
theorem idxOne (s : ByteArray) (c : UInt8) (w : World) : Calls Tryz.prog 112 #[.string s, .string ⟨#[c]⟩] w fun e w' => e = .returned (.int .i64 (Lib.indexByte s.data.toList c)) ∧ w' = w := by
  go_enter Tryz.func112, Tryz.ntmps112
  go_wp2_with (go_at_call 113; refine (idxByte _ _ _).mono ?_; rintro e w' ⟨rfl, rfl⟩)
  · have h : ([c] == s.toList) = true := by assumption
    go_ret
    refine ⟨?_, rfl⟩
    have e : s.data.toList = [c] := by rw [← Lib.toList_data]; exact (beq_iff_eq.1 h).symm
    rw [e]
    simp [Lib.indexByte]
  · go_ret
    exact ⟨rfl, rfl⟩
set_option maxRecDepth 100000 in
theorem idxStr (s : ByteArray) (c : UInt8) (w : World) : Calls Tryz.prog 110 #[.string s, .string ⟨#[c]⟩] w fun e w' => e = .returned (.int .i64 (Lib.indexByte s.data.toList c)) ∧ w' = w := by
  go_enter Tryz.func110, Tryz.ntmps110
  go_wp2_with (go_at_call 112; refine (idxOne _ _ _).mono ?_; rintro e w' ⟨rfl, rfl⟩)
  go_ret
  exact ⟨rfl, rfl⟩
set_option maxRecDepth 100000 in
theorem hasByte (s : ByteArray) (c : UInt8) (w : World) : Calls Tryz.prog 106 #[.string s, .string ⟨#[c]⟩] w fun e w' => e = .returned (.bool (decide (c ∈ s.data.toList))) ∧ w' = w := by
  rw [← idx_mem]
  go_enter Tryz.func106, Tryz.ntmps106
  go_wp2_with (go_at_call 110; refine (idxStr _ _ _).mono ?_; rintro e w' ⟨rfl, rfl⟩)
  go_ret
  exact ⟨rfl, rfl⟩
end Go.Proofs.YtllaacdikjffmaaGreat.Sx

/-
  Contracts of chapter 9's origins, of the program.
-/
namespace Go.Proofs.YtllaacdikjffmaaGreat.C9i
open Go.ChangeShapes Go.WideShapes Go.ChangeAt Go.RowKit
open S0 S9 Dm Fx M12 M13 C9
set_option linter.unusedVariables false
set_option linter.unusedSimpArgs false
theorem implHost (s : ByteArray) (w : World) (hs : s.size ≤ 4294967296) : Calls Tryz.prog 105 #[.string s] w (Gives (.bool (host (bts s))) w) := C9j.implHost s w hs
theorem two_labels {s : List UInt8} : decide (2 ≤ (split s).length) = decide ((46 : UInt8) ∈ s) := by
  rw [decide_eq_decide]
  induction s with
  | nil => simp [split]
  | cons c cs ih =>
    by_cases hc : c = 46
    · subst hc
      rw [split_at]
      have := List.length_pos_iff.2 (split_ne cs)
      simp
      omega
    · cases hs : split cs with
      | nil => exact absurd hs (split_ne cs)
      | cons x xs =>
        rw [hs] at ih
        rw [split_off hc hs]
        simp only [List.length_cons] at ih ⊢
        rw [ih]
        simp only [List.mem_cons]
        exact ⟨fun h => Or.inr h, fun h => by rcases h with h | h; exact absurd h.symm hc; exact h⟩
set_option maxHeartbeats 3200000 in
set_option maxRecDepth 100000 in
theorem implSiteN (s : ByteArray) (w : World) (hs : s.size ≤ 4294967296) : Calls Tryz.prog 98 #[.string s] w (Gives (.bool (host (bts s) && decide (2 ≤ (split (bts s)).length))) w) := by
  rw [two_labels]
  cases hh : host (bts s) with
  | false =>
    have HH := Lib.hid (fun wx : World => show Calls Tryz.prog 105 #[.string s] wx (Gives (.bool false) wx) from hh ▸ implHost s wx hs)
    rw [Bool.false_and]
    clear hh
    go_enter Tryz.func98, Tryz.ntmps98
    go_wp2_with fail
    (refine (HH.out _).mono ?_); rintro e w3 ⟨rfl, b3⟩
    go_wp2
    go_ret
    exact ⟨rfl, b3⟩
  | true =>
    have HH := Lib.hid (fun wx : World => show Calls Tryz.prog 105 #[.string s] wx (Gives (.bool true) wx) from hh ▸ implHost s wx hs)
    obtain ⟨m, hm⟩ : ∃ m, m = decide ((46 : UInt8) ∈ s.data.toList) := ⟨_, rfl⟩
    have HLS := Lib.hid (fun wx : World => show Calls Tryz.prog 106 #[.string s, .string ⟨#[46]⟩] wx fun e w' => e = .returned (.bool m) ∧ w' = wx from hm ▸ Sx.hasByte s 46 wx)
    rw [Bool.true_and, show decide ((46 : UInt8) ∈ bts s) = m from hm.symm]
    clear hh hm
    go_enter Tryz.func98, Tryz.ntmps98
    go_wp2_with fail
    (refine (HH.out _).mono ?_); rintro e w3 ⟨rfl, b3⟩
    go_wp2_with fail
    (refine (HLS.out _).mono ?_); rintro e w4 ⟨rfl, rfl⟩
    go_wp2
    go_ret
    exact ⟨rfl, b3⟩
end Go.Proofs.YtllaacdikjffmaaGreat.C9i
