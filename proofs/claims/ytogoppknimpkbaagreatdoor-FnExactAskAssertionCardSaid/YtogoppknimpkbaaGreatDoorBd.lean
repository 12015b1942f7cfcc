import Derived.Test.YtogoppknimpkbaaGreatDoorBa
import Derived.Test.YtogoppknimpkbaaGreatDoorBc
import Derived.BigQuiet
import Derived.Deep.RegionHeld3
import Derived.Deep.RegionLaw
import Derived.ChangeAt
import Derived.WalkKit
import Derived.Below
import Derived.Lib.Hide
import Derived.Lib.Walk
import Derived.Lib.Strings
import Derived.Lib.Slices
import Derived.Lib.Bytealg
import Derived.Laws.Strings3
import Derived.BigCall
import Derived.Test.YtogoppknimpkbaaGreatDoorBb
/-
  Contracts of chapter 9's hosts, of the program: a range over runes.
-/
namespace Go.Proofs.YtogoppknimpkbaaGreatDoor.C9h
open Go.ChangeShapes Go.WideShapes Go.ChangeAt Go.RowKit
open S0 M12 M12i C9
set_option linter.unusedVariables false
set_option maxHeartbeats 1600000 in
set_option maxRecDepth 100000 in
theorem implAlnum (x : Int) (w : World) (h0 : 0 ≤ x) (h1 : x ≤ 2147483647) : Calls Tryz.prog 121 #[.int .i32 x] w fun e w' => e = .returned (.bool (alnumI x)) ∧ w' = w := by
  obtain ⟨r, hr⟩ : ∃ r, r = alnumI x := ⟨_, rfl⟩
  rw [← hr]
  have HR := Lib.hid hr
  clear hr
  by_cases a : x < 48
  · obtain rfl : r = false := by rw [HR.out]; unfold alnumI; rw [decide_eq_false (show ¬ 97 ≤ x by omega), decide_eq_false (show ¬ 48 ≤ x by omega)]; rfl
    clear HR
    go_enter Tryz.func121, Tryz.ntmps121
    go_wp2
    go_ret
    exact ⟨rfl, rfl⟩
  by_cases b : x ≤ 57
  · obtain rfl : r = true := by rw [HR.out]; unfold alnumI; rw [decide_eq_true (show 48 ≤ x by omega), decide_eq_true (show x ≤ 57 by omega)]; simp
    clear HR
    go_enter Tryz.func121, Tryz.ntmps121
    go_wp2
    go_ret
    exact ⟨rfl, rfl⟩
  by_cases c : x < 97
  · obtain rfl : r = false := by rw [HR.out]; unfold alnumI; rw [decide_eq_false (show ¬ 97 ≤ x by omega), decide_eq_false (show ¬ x ≤ 57 by omega)]; simp
    clear HR
    go_enter Tryz.func121, Tryz.ntmps121
    go_wp2
    go_ret
    exact ⟨rfl, rfl⟩
  by_cases d : x ≤ 122
  · obtain rfl : r = true := by rw [HR.out]; unfold alnumI; rw [decide_eq_true (show 97 ≤ x by omega), decide_eq_true (show x ≤ 122 by omega)]; simp
    clear HR
    go_enter Tryz.func121, Tryz.ntmps121
    go_wp2
    go_ret
    exact ⟨rfl, rfl⟩
  · obtain rfl : r = false := by rw [HR.out]; unfold alnumI; rw [decide_eq_false (show ¬ x ≤ 122 by omega), decide_eq_false (show ¬ x ≤ 57 by omega)]; simp
    clear HR
    go_enter Tryz.func121, Tryz.ntmps121
    go_wp2
    go_ret
    exact ⟨rfl, rfl⟩
set_option maxHeartbeats 1600000 in
set_option maxRecDepth 100000 in
theorem implMayF (x p : Int) (w : World) (h0 : 0 ≤ x) (h1 : x ≤ 2147483647) (k0 : 0 ≤ p) (k1 : p ≤ 2147483647) : Calls Tryz.prog 105 #[.int .i32 x, .int .i32 p] w fun e w' => e = .returned (.bool (mayI x p)) ∧ w' = w := by
  by_cases a : x = 46
  · subst a
    have HR := Lib.hid (show mayI 46 p = alnumI p from rfl)
    go_enter Tryz.func105, Tryz.ntmps105
    go_wp2_with (go_at_call 121; (with_reducible refine (implAlnum p _ k0 k1).mono ?_); rintro e w' ⟨rfl, rfl⟩)
    go_ret
    exact ⟨by rw [HR.out]; rfl, rfl⟩
  by_cases b : x = 45
  · subst b
    have HR := Lib.hid (show mayI 45 p = !(p == 46) from rfl)
    go_enter Tryz.func105, Tryz.ntmps105
    go_wp2_with fail
    go_ret
    exact ⟨by rw [HR.out]; rfl, rfl⟩
  · have HR := Lib.hid (show mayI x p = alnumI x by unfold mayI; rw [if_neg a, if_neg b])
    have a2 : (x == 46) = false := by simpa using a
    have b2 : (x == 45) = false := by simpa using b
    go_enter Tryz.func105, Tryz.ntmps105
    go_wp2_with (go_at_call 121; (with_reducible refine (implAlnum x _ h0 h1).mono ?_); rintro e w' ⟨rfl, rfl⟩)
    go_ret
    exact ⟨by rw [HR.out]; rfl, rfl⟩
theorem byte_eq (c : UInt8) (k : Nat) (hk : k < 256) : ((c.toNat : Int) == (k : Int)) = decide (c = UInt8.ofNat k) := by
  rw [Bool.eq_iff_iff]
  simp only [beq_iff_eq, decide_eq_true_eq]
  rw [← UInt8.toNat_inj]
  have : (UInt8.ofNat k).toNat = k := by simp; omega
  rw [this]
  omega
theorem drop_at (s : ByteArray) (k : Nat) (h : k < s.size) : s.data.toList.drop k = s[k] :: s.data.toList.drop (k + 1) := by
  rw [List.drop_eq_getElem_cons (by rw [data_len]; exact h)]
  rfl
theorem below_iter (w : World) (s : ByteArray) (k : Nat) : Below w.heap.size w (w.iter s k) := (Below.refl _ _).alloc (Nat.le_refl _) _
set_option maxHeartbeats 1600000 in
set_option maxRecDepth 100000 in
theorem implHost (s : ByteArray) (w : World) (hs : s.size ≤ 4294967296) : Calls Tryz.prog 78 #[.string s] w (Gives (.bool (host s.data.toList)) w) := by
  obtain ⟨r, hr⟩ : ∃ r, r = host s.data.toList := ⟨_, rfl⟩
  rw [← hr]
  have HR := Lib.hid hr
  have HDL := Lib.hid (data_len s)
  clear hr
  by_cases hb : 60 < s.size
  · obtain rfl : r = false := by rw [HR.out]; exact host_long _ (by rw [HDL.out]; exact hb)
    clear HR
    go_enter Tryz.func78, Tryz.ntmps78
    go_wp2
    go_ret
    exact ⟨rfl, Below.refl _ _⟩
  · have HS := Lib.hid (HR.out.trans (scan_host _ (by rw [HDL.out]; omega)).symm)
    clear HR
    go_enter Tryz.func78, Tryz.ntmps78
    go_wp2
    go_loopw [3, 4] (fun p n wr => ∃ (k : Nat) (pc : UInt8) (m : Nat), k ≤ s.size ∧ p = .int .i32 pc.toNat ∧ n = .int .i64 m ∧ m ≤ 20 ∧ wr = w.iter s k ∧ scan pc m (s.data.toList.drop k) = r) (fun _ _ wr => s.size - wr.iterPos w.heap.size)
    case atStart => exact ⟨0, 46, 0, by omega, rfl, rfl, by omega, rfl, HS.out.symm⟩
    case round =>
      obtain ⟨k, pc, m, hk, rfl, rfl, hm, rfl, hsc⟩ := hrel
      have HSC := Lib.hid hsc
      have hpl : pc.toNat < 256 := pc.toNat_lt
      clear hsc HS
      by_cases hlt : k < s.size
      · have HD := Lib.hid (drop_at s k hlt)
        have hcl : s[k].toNat < 256 := s[k].toNat_lt
        by_cases ha : s[k].toNat < 128
        · have hnx := fun ty => run_next_ascii (P := Tryz.prog) w s k ty hlt ha
          have HM := Lib.hid (fun wx : World => show Calls Tryz.prog 105 #[.int .i32 s[k].toNat, .int .i32 pc.toNat] wx fun e w' => e = .returned (.bool (mayB s[k] pc)) ∧ w' = wx from mayI_is s[k] pc ▸ implMayF s[k].toNat pc.toNat wx (by omega) (by omega) (by omega) (by omega))
          cases hmb : mayB s[k] pc with
          | false =>
            rw [hmb] at HM
            obtain rfl : r = false := by rw [← HSC.out, HD.out]; exact scan_off hmb
            clear HSC HD hmb
            go_wp2_with (go_at_call 105; (refine (HM.out _).mono ?_); rintro e w' ⟨rfl, rfl⟩)
            go_ret
            exact ⟨rfl, below_iter _ _ _⟩
          | true =>
            rw [hmb] at HM
            by_cases h6 : s[k] = 46
            · have HN := Lib.hid (show scan s[k] 0 (s.data.toList.drop (k + 1)) = r by rw [← HSC.out, HD.out]; exact (scan_dot h6 hmb).symm)
              have hb6 : ((s[k].toNat : Int) == 46) = true := (byte_eq s[k] 46 (by decide)).trans (decide_eq_true h6)
              clear HSC HD hmb h6
              go_wp2_with (go_at_call 105; (refine (HM.out _).mono ?_); rintro e w' ⟨rfl, rfl⟩)
              go_roundw
              case rel => exact ⟨k + 1, s[k], 0, by omega, rfl, rfl, by omega, rfl, HN.out⟩
              case measure => simp; omega
            · have hb6 : ((s[k].toNat : Int) == 46) = false := (byte_eq s[k] 46 (by decide)).trans (decide_eq_false h6)
              by_cases hl : m + 1 ≤ 20
              · have HN := Lib.hid (show scan s[k] (m + 1) (s.data.toList.drop (k + 1)) = r by rw [← HSC.out, HD.out]; exact (scan_char h6 hmb hl).symm)
                clear HSC HD hmb h6
                go_wp2_with (go_at_call 105; (refine (HM.out _).mono ?_); rintro e w' ⟨rfl, rfl⟩)
                go_roundw
                case rel => exact ⟨k + 1, s[k], m + 1, by omega, rfl, by go_num, by omega, rfl, HN.out⟩
                case measure => simp; omega
              · obtain rfl : r = false := by rw [← HSC.out, HD.out]; exact scan_long h6 (by omega)
                clear HSC HD hmb h6
                go_wp2_with (go_at_call 105; (refine (HM.out _).mono ?_); rintro e w' ⟨rfl, rfl⟩)
                go_ret
                exact ⟨rfl, below_iter _ _ _⟩
        · have hnx := fun ty => run_next_any (P := Tryz.prog) w s k ty hlt
          have hdh := (decode_high s k hlt (by omega)).1
          have hdl := decode_le s k
          obtain rfl : r = false := by rw [← HSC.out, HD.out]; exact scan_off (mayB_high (by omega))
          obtain ⟨u, hu⟩ : ∃ u, u = (Utf8.decode s k).1 := ⟨_, rfl⟩
          obtain ⟨d, hd⟩ : ∃ d, d = (Utf8.decode s k).2 := ⟨_, rfl⟩
          rw [← hu] at hdh hdl
          rw [← hu, ← hd] at hnx
          have HM := Lib.hid (fun wx : World => show Calls Tryz.prog 105 #[.int .i32 u, .int .i32 pc.toNat] wx fun e w' => e = .returned (.bool false) ∧ w' = wx from mayI_high (x := u) (p := pc.toNat) (by omega) ▸ implMayF u pc.toNat wx (by omega) (by omega) (by omega) (by omega))
          clear HSC HD hu hd
          go_wp2_with (go_at_call 105; (refine (HM.out _).mono ?_); rintro e w' ⟨rfl, rfl⟩)
          go_ret
          exact ⟨rfl, below_iter _ _ _⟩
      · obtain rfl : k = s.size := by omega
        have hnx := fun ty => run_next_end (P := Tryz.prog) w s s.size ty hlt
        have HE := Lib.hid (show alnum pc = r by rw [← HSC.out, List.drop_of_length_le (by rw [HDL.out]; exact Nat.le_refl _)]; rfl)
        have HM := Lib.hid (fun wx : World => show Calls Tryz.prog 105 #[.int .i32 46, .int .i32 pc.toNat] wx fun e w' => e = .returned (.bool r) ∧ w' = wx from by
          have h := implMayF 46 pc.toNat wx (by omega) (by omega) (by omega) (by omega)
          rw [show mayI 46 pc.toNat = alnumI pc.toNat from rfl, alnumI_is, HE.out] at h
          exact h)
        clear HSC HE
        go_wp2_with (go_at_call 105; (refine (HM.out _).mono ?_); rintro e w' ⟨rfl, rfl⟩)
        go_ret
        exact ⟨rfl, below_iter _ _ _⟩
end Go.Proofs.YtogoppknimpkbaaGreatDoor.C9h

/-
  Contracts of chapter 9's hosts and origins, of the program.
-/
namespace Go.Proofs.YtogoppknimpkbaaGreatDoor.C9j
open Go.ChangeShapes Go.WideShapes Go.ChangeAt Go.RowKit
open S0 S9 Dm Fx M12 M13 C9
set_option linter.unusedVariables false
set_option linter.unusedSimpArgs false
theorem implHost (s : ByteArray) (w : World) (hs : s.size ≤ 4294967296) : Calls Tryz.prog 78 #[.string s] w (Gives (.bool (host (bts s))) w) := C9h.implHost s w hs
set_option maxHeartbeats 1600000 in
set_option maxRecDepth 100000 in
theorem implOrg (w : World) (x : Fx.Origin) (vs : List Value) (h : RdsL w w.heap.size x.dcs vs) (hs : x.Host.size ≤ 4294967296) : Calls Tryz.prog 41 #[.agg vs.toArray] w (Gives (.bool (orgB x)) w) := by
  obtain rfl := Origin.rds h
  obtain ⟨r, hr⟩ : ∃ r, r = orgB x := ⟨_, rfl⟩
  rw [← hr]
  have HR := Lib.hid hr
  clear hr h
  have b0 : Below w.heap.size w (w.alloc (.cells #[.bool x.Secure, .string x.Host, .int .i64 x.Port] 43)) := (Below.refl _ _).alloc (Nat.le_refl _) _
  have HH := Lib.hid (show Calls Tryz.prog 78 #[.string x.Host] (w.alloc (.cells #[.bool x.Secure, .string x.Host, .int .i64 x.Port] 43)) (Gives (.bool (host (bts x.Host))) (w.alloc (.cells #[.bool x.Secure, .string x.Host, .int .i64 x.Port] 43))) from implHost x.Host _ hs)
  cases hh : host (bts x.Host) with
  | false =>
    obtain rfl : r = false := by rw [HR.out]; unfold orgB; rw [hh]; rfl
    rw [hh] at HH
    go_enter Tryz.func41, Tryz.ntmps41
    go_wp2_with fail
    (refine HH.out.mono ?_); rintro e w2 ⟨rfl, b2⟩
    go_wp2
    go_ret
    exact ⟨rfl, b0.trans (b2.mono b0.size)⟩
  | true =>
    rw [hh] at HH
    have hp2 : r = (decide (1 ≤ x.Port) && decide (x.Port ≤ 65535)) := by rw [HR.out]; unfold orgB; rw [hh]; rfl
    clear HR hh
    go_enter Tryz.func41, Tryz.ntmps41
    go_wp2_with fail
    (refine HH.out.mono ?_); rintro e w2 ⟨rfl, b2⟩
    have c2 : w2.cell? ⟨w.heap.size, 2, none⟩ = some (.int .i64 x.Port) := (b2.cell (p := ⟨w.heap.size, 2, none⟩) (by simp)).trans (by exact cell_of_row _ _ 2 _ 43 (0, 0) (heap_alloc_last w _))
    by_cases hp : 1 ≤ x.Port ∧ x.Port ≤ 65535
    · obtain rfl : r = true := by rw [hp2, decide_eq_true hp.1, decide_eq_true hp.2]; rfl
      clear hp2
      go_wp2_with fail
      (with_reducible refine (C1.implIn_t _ 1 65535 _ hp.1 hp.2).mono ?_); rintro e w3 ⟨rfl, rfl⟩
      go_wp2
      go_ret
      exact ⟨rfl, b0.trans (b2.mono b0.size)⟩
    · obtain rfl : r = false := by
        rw [hp2]
        by_cases h1 : 1 ≤ x.Port
        · rw [decide_eq_true h1, decide_eq_false (by omega)]; rfl
        · rw [decide_eq_false h1]; rfl
      clear hp2
      go_wp2_with fail
      (with_reducible refine (C1.implIn_f _ 1 65535 _ (by omega)).mono ?_); rintro e w3 ⟨rfl, rfl⟩
      go_wp2
      go_ret
      exact ⟨rfl, b0.trans (b2.mono b0.size)⟩
theorem below_it {w wr : World} {s : ByteArray} {k : Nat} (h : Below w.heap.size w wr) : Below w.heap.size w (wr.iter s k) := h.alloc h.size _
theorem cut_from (s : ByteArray) (b : Nat) (h : b ≤ s.size) : str ((bts s).drop b) = s.extract b s.size := by
  rw [extract_is s b s.size h (Nat.le_refl _)]
  show str _ = str _
  congr 1
  rw [List.take_of_length_le]
  · rfl
  · rw [List.length_drop]; have := bts_len s; show (bts s).length - b ≤ _; omega
theorem host_ascii {s : ByteArray} (h : host (bts s) = true) : ∀ k (hk : k < s.size), s[k].toNat < 128 := by
  intro k hk
  have hc := split_chars (bts s) (fun x hx d hd => by
    unfold host at h
    simp only [Bool.and_eq_true, List.all_eq_true] at h
    exact List.all_eq_true.1 (lab_all (h.1 x hx)).1 d hd) s[k] (by
      show s[k] ∈ s.data.toList
      rw [← data_get s k hk]; exact List.getElem_mem _)
  rcases hc with h1 | h1
  · have := (okc_lt h1).1; omega
  · rw [h1]; decide
set_option maxHeartbeats 1600000 in
set_option maxRecDepth 100000 in
theorem implReg (w : World) (s : ByteArray) (hs : s.size ≤ 4294967296) : Calls Tryz.prog 97 #[.string s] w (Gives (.string (str (reg (bts s)))) w) := by
  have HH := Lib.hid (show Calls Tryz.prog 78 #[.string s] w (Gives (.bool (host (bts s))) w) from implHost s w hs)
  cases hh : host (bts s) with
  | false =>
    have HF := Lib.hid (show str (reg (bts s)) = ⟨#[]⟩ by rw [C9b.reg_f hh]; rfl)
    rw [hh] at HH
    go_enter Tryz.func97, Tryz.ntmps97
    go_wp2_with fail
    (refine HH.out.mono ?_); rintro e w2 ⟨rfl, b2⟩
    go_wp2
    go_ret
    exact ⟨by rw [HF.out]; rfl, b2⟩
  | true =>
    rw [hh] at HH
    have HA := Lib.hid (host_ascii hh)
    have HL := Lib.hid (bts_len s)
    have HI := Lib.hid hh
    clear hh
    obtain ⟨R, hR⟩ : ∃ R, R = str (reg (bts s)) := ⟨_, rfl⟩
    rw [← hR]
    have HR := Lib.hid hR
    clear hR
    go_enter Tryz.func97, Tryz.ntmps97
    go_wp2_with fail
    (refine HH.out.mono ?_); rintro e w2 ⟨rfl, b2⟩
    go_wp2
    go_loopw [3, 4] (fun p q wr => ∃ (k b f : Nat) (outs : List (List UInt8)), k ≤ s.size ∧ p = .int .i64 b ∧ q = .int .i64 f ∧ wr = w2.iter s k ∧ M13i.RegAt (bts s) k b f outs) (fun _ _ wr => s.size - wr.iterPos w2.heap.size)
    case atStart => exact ⟨0, 0, 0, [], by omega, rfl, rfl, rfl, M13i.RegAt.start _⟩
    case round =>
      obtain ⟨k, b, f, outs, hk, rfl, rfl, rfl, hG⟩ := hrel
      have hle := hG.le
      have HG := Lib.hid hG
      clear hG
      by_cases hlt : k < s.size
      · have ha := HA.out k hlt
        have hnx := fun ty => run_next_ascii (P := Tryz.prog) w2 s k ty hlt ha
        have hkl : k < (bts s).length := by rw [HL.out]; exact hlt
        by_cases h6 : s[k] = 46
        · have HN := Lib.hid (HG.out.dot hkl (show (bts s)[k]'hkl = 46 from (data_get s k hlt).trans h6))
          have hb6 : ((s[k].toNat : Int) == 46) = true := by rw [h6]; rfl
          clear h6 HG
          go_wp2
          go_roundw
          case rel => exact ⟨k + 1, f, k + 1, _, by omega, rfl, by go_num, rfl, HN.out⟩
          case measure => simp; omega
        · have HN := Lib.hid (HG.out.char hkl (show (bts s)[k]'hkl ≠ 46 from fun e => h6 ((data_get s k hlt).symm.trans e)))
          have hb6 : ((s[k].toNat : Int) == 46) = false := by
            rw [beq_eq_false_iff_ne]
            intro e
            apply h6
            rw [← UInt8.toNat_inj]
            show s[k].toNat = 46
            omega
          clear h6 HG
          go_wp2
          go_roundw
          case rel => exact ⟨k + 1, b, f, _, by omega, rfl, rfl, rfl, HN.out⟩
          case measure => simp; omega
      · obtain rfl : k = s.size := by omega
        have hnx := fun ty => run_next_end (P := Tryz.prog) w2 s s.size ty hlt
        have HV := Lib.hid (show R = s.extract b s.size by
          have h := HG.out
          rw [← HL.out] at h
          rw [HR.out, h.done HI.out, cut_from s b hle.1])
        clear HR
        go_wp2
        go_ret
        exact ⟨by rw [HV.out]; rfl, below_it b2⟩
set_option maxHeartbeats 6400000 in
set_option maxRecDepth 100000 in
theorem implSameM (w : World) (x y : Fx.Origin) (us vs : List Value) (h : RdsL w w.heap.size x.dcs us) (h2 : RdsL w w.heap.size y.dcs vs) (hx : x.Host.size ≤ 4294967296) (hy : y.Host.size ≤ 4294967296) :
    Calls Tryz.prog 62 #[.agg us.toArray, .agg vs.toArray] w (Gives (.bool (sameO x y)) w) := by
  obtain rfl := Origin.rds h
  obtain rfl := Origin.rds h2
  clear h h2
  obtain ⟨w1, hw1⟩ : ∃ z, z = w.alloc (.cells #[.bool x.Secure, .string x.Host, .int .i64 x.Port] 43) := ⟨_, rfl⟩
  obtain ⟨w2, hw2⟩ : ∃ z, z = w1.alloc (.cells #[.bool y.Secure, .string y.Host, .int .i64 y.Port] 43) := ⟨_, rfl⟩
  have s1 : w1.heap.size = w.heap.size + 1 := by rw [hw1]; simp
  have op := Fx.var_owns w 43 3 [.bool x.Secure, .string x.Host, .int .i64 x.Port] rfl
  have oz := Fx.var_owns w1 43 3 [.bool y.Secure, .string y.Host, .int .i64 y.Port] rfl
  have b01 : Below w.heap.size w w1 := hw1 ▸ (Below.refl _ _).alloc (Nat.le_refl _) _
  have b12 : Below w1.heap.size w1 w2 := hw2 ▸ (Below.refl _ _).alloc (Nat.le_refl _) _
  rw [← hw1] at op
  rw [← hw2, s1] at oz
  replace op := owns_below op b12
  have HB : Below w.heap.size w w2 := b01.trans (b12.mono b01.size)
  have l2 : w.heap.size + 1 < w2.heap.size := Fx.var_lt oz
  have HF := Lib.hid (show ∀ wx, Below w2.heap.size w2 wx → wx.cell? ⟨w.heap.size, 0, none⟩ = some (.bool x.Secure) ∧ wx.cell? ⟨w.heap.size, 1, none⟩ = some (.string x.Host) ∧ wx.cell? ⟨w.heap.size, 2, none⟩ = some (.int .i64 x.Port) ∧ wx.cell? ⟨w.heap.size + 1, 0, none⟩ = some (.bool y.Secure) ∧ wx.cell? ⟨w.heap.size + 1, 1, none⟩ = some (.string y.Host) ∧ wx.cell? ⟨w.heap.size + 1, 2, none⟩ = some (.int .i64 y.Port) from fun wx hb =>
    ⟨Fx.var_load (owns_below op hb) (by simp) 0 _ rfl, Fx.var_load (owns_below op hb) (by simp) 1 _ rfl, Fx.var_load (owns_below op hb) (by simp) 2 _ rfl, Fx.var_load (owns_below oz hb) (by simp) 0 _ rfl, Fx.var_load (owns_below oz hb) (by simp) 1 _ rfl, Fx.var_load (owns_below oz hb) (by simp) 2 _ rfl⟩)
  clear op oz b01 b12
  obtain ⟨r, hr⟩ : ∃ r, r = sameO x y := ⟨_, rfl⟩
  rw [← hr]
  have HR := Lib.hid hr
  clear hr
  have L1 : w.heap.size + 1 < w2.drew.heap.size := l2
  have BB : Below w2.heap.size w2 w2.drew := drewN_below w2 1 _
  cases ha : orgB x with
  | false =>
    have HA := Lib.hid (fun wx : World => show Calls Tryz.prog 41 #[.agg ([.bool x.Secure, .string x.Host, .int .i64 x.Port] : List Value).toArray] wx (Gives (.bool false) wx) from ha ▸ implOrg wx x _ Origin.mkR hx)
    obtain rfl : r = false := by rw [HR.out]; unfold sameO; rw [ha]; rfl
    clear ha HR
    go_enter Tryz.func62, Tryz.ntmps62
    go_wp2_with fail
    rw [← hw1, ← hw2]
    clear hw1 hw2 s1
    refine wp_region_held_drew (S := (fun wx => wx.cell? ⟨w.heap.size, 0, none⟩ = some (.bool x.Secure) ∧ wx.cell? ⟨w.heap.size, 1, none⟩ = some (.string x.Host) ∧ wx.cell? ⟨w.heap.size, 2, none⟩ = some (.int .i64 x.Port) ∧ wx.cell? ⟨w.heap.size + 1, 0, none⟩ = some (.bool y.Secure) ∧ wx.cell? ⟨w.heap.size + 1, 1, none⟩ = some (.string y.Host) ∧ wx.cell? ⟨w.heap.size + 1, 2, none⟩ = some (.int .i64 y.Port))) (by kernel_rfl) ?_ (fun hHeld => ?_)
    · exact HF.out _ BB
    refine wpAnyH_take (i := 0) (oi := ?oia_0) (v := ?va_0) ?hia_0 (by kernel_rfl) (by kernel_rfl) (by kernel_rfl) ?hQa_0 (Or.inl ⟨?hwa_0, ?hya_0⟩) (by assumption) ?_
    case hia_0 => simp only [List.getElem?_toArray, List.getElem?_cons_zero]; rfl
    case hQa_0 => exact fun _ _ _ h => h
    case hwa_0 => rfl
    case hya_0 => intro w hSw; (try dsimp only at hSw); (first | (go_simp; done) | (go_simp; with_reducible rfl))
    try simp only [Act.put, List.setIfInBounds_toArray, List.set_cons_zero, List.set_cons_succ]
    refine wpAnyH_ready (rs := [1]) (by kernel_rfl) (by simp) ?_
    refine AllReadyH.cons (o := ?oia_1) ?hia_1 (fun K hK => ?_) AllReadyH.nil
    case hia_1 => simp only [List.getElem?_toArray, List.getElem?_cons_succ, List.getElem?_cons_zero]; rfl
    go_simp
    go_at_call 41
    (with_reducible refine (HA.out _).mono ?_)
    rintro e w3 ⟨rfl, bq⟩
    replace BB : Below w2.heap.size w2 w3 := BB.trans (bq.mono BB.size)
    clear bq
    refine hK.out _ _ ?_ (fun hHeld => ?_)
    · exact HF.out _ BB
    clear hK K
    try simp only [Act.put, List.setIfInBounds_toArray, List.set_cons_zero, List.set_cons_succ]
    refine wpAnyH_take (i := 2) (oi := ?oia_2) (v := ?va_2) ?hia_2 (by kernel_rfl) (by kernel_rfl) (by kernel_rfl) ?hQa_2 (Or.inl ⟨?hwa_2, ?hya_2⟩) (by assumption) ?_
    case hia_2 => simp only [List.getElem?_toArray, List.getElem?_cons_succ, List.getElem?_cons_zero]; rfl
    case hQa_2 => exact fun _ _ _ h => h
    case hwa_2 => rfl
    case hya_2 => intro w hSw; (try dsimp only at hSw); (first | (go_simp; done) | (go_simp; with_reducible rfl))
    try simp only [Act.put, List.setIfInBounds_toArray, List.set_cons_zero, List.set_cons_succ]
    refine wpAnyH_take (i := 3) (oi := ?oia_3) (v := undef) ?hia_3 (by kernel_rfl) (by kernel_rfl) (by kernel_rfl) ?hQa_3 (Or.inr ⟨?hwa_3, rfl⟩) (by assumption) ?_
    case hia_3 => simp only [List.getElem?_toArray, List.getElem?_cons_succ, List.getElem?_cons_zero]; rfl
    case hQa_3 => exact fun _ _ _ h => h
    case hwa_3 => rfl
    try simp only [Act.put, List.setIfInBounds_toArray, List.set_cons_zero, List.set_cons_succ]
    refine wpAnyH_take (i := 4) (oi := ?oia_4) (v := undef) ?hia_4 (by kernel_rfl) (by kernel_rfl) (by kernel_rfl) ?hQa_4 (Or.inr ⟨?hwa_4, rfl⟩) (by assumption) ?_
    case hia_4 => simp only [List.getElem?_toArray, List.getElem?_cons_succ, List.getElem?_cons_zero]; rfl
    case hQa_4 => exact fun _ _ _ h => h
    case hwa_4 => rfl
    try simp only [Act.put, List.setIfInBounds_toArray, List.set_cons_zero, List.set_cons_succ]
    refine wpAnyH_take (i := 5) (oi := ?oia_5) (v := ?va_5) ?hia_5 (by kernel_rfl) (by kernel_rfl) (by kernel_rfl) ?hQa_5 (Or.inl ⟨?hwa_5, ?hya_5⟩) (by assumption) ?_
    case hia_5 => simp only [List.getElem?_toArray, List.getElem?_cons_succ, List.getElem?_cons_zero]; rfl
    case hQa_5 => exact fun _ _ _ h => h
    case hwa_5 => rfl
    case hya_5 => intro w hSw; (try dsimp only at hSw); (first | (go_simp; done) | (go_simp; with_reducible rfl))
    try simp only [Act.put, List.setIfInBounds_toArray, List.set_cons_zero, List.set_cons_succ]
    refine wpAnyH_take (i := 6) (oi := ?oia_6) (v := ?va_6) ?hia_6 (by kernel_rfl) (by kernel_rfl) (by kernel_rfl) ?hQa_6 (Or.inl ⟨?hwa_6, ?hya_6⟩) (by assumption) ?_
    case hia_6 => simp only [List.getElem?_toArray, List.getElem?_cons_succ, List.getElem?_cons_zero]; rfl
    case hQa_6 => exact fun _ _ _ h => h
    case hwa_6 => rfl
    case hya_6 => intro w hSw; (try dsimp only at hSw); (first | (go_simp; done) | (go_simp; with_reducible rfl))
    try simp only [Act.put, List.setIfInBounds_toArray, List.set_cons_zero, List.set_cons_succ]
    refine wpAnyH_take (i := 7) (oi := ?oia_7) (v := undef) ?hia_7 (by kernel_rfl) (by kernel_rfl) (by kernel_rfl) ?hQa_7 (Or.inr ⟨?hwa_7, rfl⟩) (by assumption) ?_
    case hia_7 => simp only [List.getElem?_toArray, List.getElem?_cons_succ, List.getElem?_cons_zero]; rfl
    case hQa_7 => exact fun _ _ _ h => h
    case hwa_7 => rfl
    try simp only [Act.put, List.setIfInBounds_toArray, List.set_cons_zero, List.set_cons_succ]
    refine wpAnyH_take (i := 8) (oi := ?oia_8) (v := undef) ?hia_8 (by kernel_rfl) (by kernel_rfl) (by kernel_rfl) ?hQa_8 (Or.inr ⟨?hwa_8, rfl⟩) (by assumption) ?_
    case hia_8 => simp only [List.getElem?_toArray, List.getElem?_cons_succ, List.getElem?_cons_zero]; rfl
    case hQa_8 => exact fun _ _ _ h => h
    case hwa_8 => rfl
    try simp only [Act.put, List.setIfInBounds_toArray, List.set_cons_zero, List.set_cons_succ]
    refine wpAnyH_take (i := 9) (oi := ?oia_9) (v := undef) ?hia_9 (by kernel_rfl) (by kernel_rfl) (by kernel_rfl) ?hQa_9 (Or.inr ⟨?hwa_9, rfl⟩) (by assumption) ?_
    case hia_9 => simp only [List.getElem?_toArray, List.getElem?_cons_succ, List.getElem?_cons_zero]; rfl
    case hQa_9 => exact fun _ _ _ h => h
    case hwa_9 => rfl
    try simp only [Act.put, List.setIfInBounds_toArray, List.set_cons_zero, List.set_cons_succ]
    refine wpAnyH_take (i := 10) (oi := ?oia_10) (v := undef) ?hia_10 (by kernel_rfl) (by kernel_rfl) (by kernel_rfl) ?hQa_10 (Or.inr ⟨?hwa_10, rfl⟩) (by assumption) ?_
    case hia_10 => simp only [List.getElem?_toArray, List.getElem?_cons_succ, List.getElem?_cons_zero]; rfl
    case hQa_10 => exact fun _ _ _ h => h
    case hwa_10 => rfl
    try simp only [Act.put, List.setIfInBounds_toArray, List.set_cons_zero, List.set_cons_succ]
    refine wpAnyH_take (i := 11) (oi := ?oia_11) (v := undef) ?hia_11 (by kernel_rfl) (by kernel_rfl) (by kernel_rfl) ?hQa_11 (Or.inr ⟨?hwa_11, rfl⟩) (by assumption) ?_
    case hia_11 => simp only [List.getElem?_toArray, List.getElem?_cons_succ, List.getElem?_cons_zero]; rfl
    case hQa_11 => exact fun _ _ _ h => h
    case hwa_11 => rfl
    try simp only [Act.put, List.setIfInBounds_toArray, List.set_cons_zero, List.set_cons_succ]
    refine wpAnyH_take (i := 12) (oi := ?oia_12) (v := ?va_12) ?hia_12 (by kernel_rfl) (by kernel_rfl) (by kernel_rfl) ?hQa_12 (Or.inl ⟨?hwa_12, ?hya_12⟩) (by assumption) ?_
    case hia_12 => simp only [List.getElem?_toArray, List.getElem?_cons_succ, List.getElem?_cons_zero]; rfl
    case hQa_12 => exact fun _ _ _ h => h
    case hwa_12 => rfl
    case hya_12 => intro w hSw; (try dsimp only at hSw); (first | (go_simp; done) | (go_simp; with_reducible rfl))
    try simp only [Act.put, List.setIfInBounds_toArray, List.set_cons_zero, List.set_cons_succ]
    refine wpAnyH_take (i := 13) (oi := ?oia_13) (v := ?va_13) ?hia_13 (by kernel_rfl) (by kernel_rfl) (by kernel_rfl) ?hQa_13 (Or.inl ⟨?hwa_13, ?hya_13⟩) (by assumption) ?_
    case hia_13 => simp only [List.getElem?_toArray, List.getElem?_cons_succ, List.getElem?_cons_zero]; rfl
    case hQa_13 => exact fun _ _ _ h => h
    case hwa_13 => rfl
    case hya_13 => intro w hSw; (try dsimp only at hSw); (first | (go_simp; done) | (go_simp; with_reducible rfl))
    try simp only [Act.put, List.setIfInBounds_toArray, List.set_cons_zero, List.set_cons_succ]
    refine wpAnyH_take (i := 14) (oi := ?oia_14) (v := undef) ?hia_14 (by kernel_rfl) (by kernel_rfl) (by kernel_rfl) ?hQa_14 (Or.inr ⟨?hwa_14, rfl⟩) (by assumption) ?_
    case hia_14 => simp only [List.getElem?_toArray, List.getElem?_cons_succ, List.getElem?_cons_zero]; rfl
    case hQa_14 => exact fun _ _ _ h => h
    case hwa_14 => rfl
    try simp only [Act.put, List.setIfInBounds_toArray, List.set_cons_zero, List.set_cons_succ]
    refine wpAnyH_take (i := 15) (oi := ?oia_15) (v := undef) ?hia_15 (by kernel_rfl) (by kernel_rfl) (by kernel_rfl) ?hQa_15 (Or.inr ⟨?hwa_15, rfl⟩) (by assumption) ?_
    case hia_15 => simp only [List.getElem?_toArray, List.getElem?_cons_succ, List.getElem?_cons_zero]; rfl
    case hQa_15 => exact fun _ _ _ h => h
    case hwa_15 => rfl
    try simp only [Act.put, List.setIfInBounds_toArray, List.set_cons_zero, List.set_cons_succ]
    refine wpAnyH_take (i := 16) (oi := ?oia_16) (v := undef) ?hia_16 (by kernel_rfl) (by kernel_rfl) (by kernel_rfl) ?hQa_16 (Or.inr ⟨?hwa_16, rfl⟩) (by assumption) ?_
    case hia_16 => simp only [List.getElem?_toArray, List.getElem?_cons_succ, List.getElem?_cons_zero]; rfl
    case hQa_16 => exact fun _ _ _ h => h
    case hwa_16 => rfl
    try simp only [Act.put, List.setIfInBounds_toArray, List.set_cons_zero, List.set_cons_succ]
    refine wpAnyH_take (i := 17) (oi := ?oia_17) (v := undef) ?hia_17 (by kernel_rfl) (by kernel_rfl) (by kernel_rfl) ?hQa_17 (Or.inr ⟨?hwa_17, rfl⟩) (by assumption) ?_
    case hia_17 => simp only [List.getElem?_toArray, List.getElem?_cons_succ, List.getElem?_cons_zero]; rfl
    case hQa_17 => exact fun _ _ _ h => h
    case hwa_17 => rfl
    try simp only [Act.put, List.setIfInBounds_toArray, List.set_cons_zero, List.set_cons_succ]
    refine wpAnyH_take (i := 18) (oi := ?oia_18) (v := undef) ?hia_18 (by kernel_rfl) (by kernel_rfl) (by kernel_rfl) ?hQa_18 (Or.inr ⟨?hwa_18, rfl⟩) (by assumption) ?_
    case hia_18 => simp only [List.getElem?_toArray, List.getElem?_cons_succ, List.getElem?_cons_zero]; rfl
    case hQa_18 => exact fun _ _ _ h => h
    case hwa_18 => rfl
    try simp only [Act.put, List.setIfInBounds_toArray, List.set_cons_zero, List.set_cons_succ]
    refine wpAnyH_take (i := 19) (oi := ?oia_19) (v := undef) ?hia_19 (by kernel_rfl) (by kernel_rfl) (by kernel_rfl) ?hQa_19 (Or.inr ⟨?hwa_19, rfl⟩) (by assumption) ?_
    case hia_19 => simp only [List.getElem?_toArray, List.getElem?_cons_succ, List.getElem?_cons_zero]; rfl
    case hQa_19 => exact fun _ _ _ h => h
    case hwa_19 => rfl
    try simp only [Act.put, List.setIfInBounds_toArray, List.set_cons_zero, List.set_cons_succ]
    refine wpAnyH_take (i := 20) (oi := ?oia_20) (v := undef) ?hia_20 (by kernel_rfl) (by kernel_rfl) (by kernel_rfl) ?hQa_20 (Or.inr ⟨?hwa_20, rfl⟩) (by assumption) ?_
    case hia_20 => simp only [List.getElem?_toArray, List.getElem?_cons_succ, List.getElem?_cons_zero]; rfl
    case hQa_20 => exact fun _ _ _ h => h
    case hwa_20 => rfl
    try simp only [Act.put, List.setIfInBounds_toArray, List.set_cons_zero, List.set_cons_succ]
    refine wpAnyH_take (i := 21) (oi := ?oia_21) (v := ?va_21) ?hia_21 (by kernel_rfl) (by kernel_rfl) (by kernel_rfl) ?hQa_21 (Or.inl ⟨?hwa_21, ?hya_21⟩) (by assumption) ?_
    case hia_21 => simp only [List.getElem?_toArray, List.getElem?_cons_succ, List.getElem?_cons_zero]; rfl
    case hQa_21 => exact fun _ _ _ h => h
    case hwa_21 => rfl
    case hya_21 => intro w hSw; (try dsimp only at hSw); (first | (go_simp; done) | (go_simp; with_reducible rfl))
    try simp only [Act.put, List.setIfInBounds_toArray, List.set_cons_zero, List.set_cons_succ]
    refine wpAnyH_take (i := 22) (oi := ?oia_22) (v := ?va_22) ?hia_22 (by kernel_rfl) (by kernel_rfl) (by kernel_rfl) ?hQa_22 (Or.inl ⟨?hwa_22, ?hya_22⟩) (by assumption) ?_
    case hia_22 => simp only [List.getElem?_toArray, List.getElem?_cons_succ, List.getElem?_cons_zero]; rfl
    case hQa_22 => exact fun _ _ _ h => h
    case hwa_22 => rfl
    case hya_22 => intro w hSw; (try dsimp only at hSw); (first | (go_simp; done) | (go_simp; with_reducible rfl))
    try simp only [Act.put, List.setIfInBounds_toArray, List.set_cons_zero, List.set_cons_succ]
    refine wpAnyH_done (by kernel_rfl) ?_ _
    go_wp2
    go_ret
    exact ⟨rfl, HB.trans (BB.mono HB.size)⟩
  | true =>
    have HA := Lib.hid (fun wx : World => show Calls Tryz.prog 41 #[.agg ([.bool x.Secure, .string x.Host, .int .i64 x.Port] : List Value).toArray] wx (Gives (.bool true) wx) from ha ▸ implOrg wx x _ Origin.mkR hx)
    cases hb : orgB y with
    | false =>
      have HC := Lib.hid (fun wx : World => show Calls Tryz.prog 41 #[.agg ([.bool y.Secure, .string y.Host, .int .i64 y.Port] : List Value).toArray] wx (Gives (.bool false) wx) from hb ▸ implOrg wx y _ Origin.mkR hy)
      obtain rfl : r = false := by rw [HR.out]; unfold sameO; rw [ha, hb]; rfl
      clear ha hb HR
      go_enter Tryz.func62, Tryz.ntmps62
      go_wp2_with fail
      rw [← hw1, ← hw2]
      clear hw1 hw2 s1
      refine wp_region_held_drew (S := (fun wx => wx.cell? ⟨w.heap.size, 0, none⟩ = some (.bool x.Secure) ∧ wx.cell? ⟨w.heap.size, 1, none⟩ = some (.string x.Host) ∧ wx.cell? ⟨w.heap.size, 2, none⟩ = some (.int .i64 x.Port) ∧ wx.cell? ⟨w.heap.size + 1, 0, none⟩ = some (.bool y.Secure) ∧ wx.cell? ⟨w.heap.size + 1, 1, none⟩ = some (.string y.Host) ∧ wx.cell? ⟨w.heap.size + 1, 2, none⟩ = some (.int .i64 y.Port))) (by kernel_rfl) ?_ (fun hHeld => ?_)
      · exact HF.out _ BB
      refine wpAnyH_take (i := 0) (oi := ?oib_0) (v := ?vb_0) ?hib_0 (by kernel_rfl) (by kernel_rfl) (by kernel_rfl) ?hQb_0 (Or.inl ⟨?hwb_0, ?hyb_0⟩) (by assumption) ?_
      case hib_0 => simp only [List.getElem?_toArray, List.getElem?_cons_zero]; rfl
      case hQb_0 => exact fun _ _ _ h => h
      case hwb_0 => rfl
      case hyb_0 => intro w hSw; (try dsimp only at hSw); (first | (go_simp; done) | (go_simp; with_reducible rfl))
      try simp only [Act.put, List.setIfInBounds_toArray, List.set_cons_zero, List.set_cons_succ]
      refine wpAnyH_ready (rs := [1]) (by kernel_rfl) (by simp) ?_
      refine AllReadyH.cons (o := ?oib_1) ?hib_1 (fun K hK => ?_) AllReadyH.nil
      case hib_1 => simp only [List.getElem?_toArray, List.getElem?_cons_succ, List.getElem?_cons_zero]; rfl
      go_simp
      go_at_call 41
      (with_reducible refine (HA.out _).mono ?_)
      rintro e w3 ⟨rfl, bq⟩
      replace BB : Below w2.heap.size w2 w3 := BB.trans (bq.mono BB.size)
      clear bq
      refine hK.out _ _ ?_ (fun hHeld => ?_)
      · exact HF.out _ BB
      clear hK K
      try simp only [Act.put, List.setIfInBounds_toArray, List.set_cons_zero, List.set_cons_succ]
      refine wpAnyH_take (i := 2) (oi := ?oib_2) (v := ?vb_2) ?hib_2 (by kernel_rfl) (by kernel_rfl) (by kernel_rfl) ?hQb_2 (Or.inl ⟨?hwb_2, ?hyb_2⟩) (by assumption) ?_
      case hib_2 => simp only [List.getElem?_toArray, List.getElem?_cons_succ, List.getElem?_cons_zero]; rfl
      case hQb_2 => exact fun _ _ _ h => h
      case hwb_2 => rfl
      case hyb_2 => intro w hSw; (try dsimp only at hSw); (first | (go_simp; done) | (go_simp; with_reducible rfl))
      try simp only [Act.put, List.setIfInBounds_toArray, List.set_cons_zero, List.set_cons_succ]
      refine wpAnyH_take (i := 3) (oi := ?oib_3) (v := ?vb_3) ?hib_3 (by kernel_rfl) (by kernel_rfl) (by kernel_rfl) ?hQb_3 (Or.inl ⟨?hwb_3, ?hyb_3⟩) (by assumption) ?_
      case hib_3 => simp only [List.getElem?_toArray, List.getElem?_cons_succ, List.getElem?_cons_zero]; rfl
      case hQb_3 => exact fun _ _ _ h => h
      case hwb_3 => rfl
      case hyb_3 => intro w hSw; (try dsimp only at hSw); (first | (go_simp; done) | (go_simp; with_reducible rfl))
      try simp only [Act.put, List.setIfInBounds_toArray, List.set_cons_zero, List.set_cons_succ]
      refine wpAnyH_ready (rs := [4]) (by kernel_rfl) (by simp) ?_
      refine AllReadyH.cons (o := ?oib_4) ?hib_4 (fun K hK => ?_) AllReadyH.nil
      case hib_4 => simp only [List.getElem?_toArray, List.getElem?_cons_succ, List.getElem?_cons_zero]; rfl
      go_simp
      go_at_call 41
      (with_reducible refine (HC.out _).mono ?_)
      rintro e w4 ⟨rfl, bq⟩
      replace BB : Below w2.heap.size w2 w4 := BB.trans (bq.mono BB.size)
      clear bq
      refine hK.out _ _ ?_ (fun hHeld => ?_)
      · exact HF.out _ BB
      clear hK K
      try simp only [Act.put, List.setIfInBounds_toArray, List.set_cons_zero, List.set_cons_succ]
      refine wpAnyH_take (i := 5) (oi := ?oib_5) (v := ?vb_5) ?hib_5 (by kernel_rfl) (by kernel_rfl) (by kernel_rfl) ?hQb_5 (Or.inl ⟨?hwb_5, ?hyb_5⟩) (by assumption) ?_
      case hib_5 => simp only [List.getElem?_toArray, List.getElem?_cons_succ, List.getElem?_cons_zero]; rfl
      case hQb_5 => exact fun _ _ _ h => h
      case hwb_5 => rfl
      case hyb_5 => intro w hSw; (try dsimp only at hSw); (first | (go_simp; done) | (go_simp; with_reducible rfl))
      try simp only [Act.put, List.setIfInBounds_toArray, List.set_cons_zero, List.set_cons_succ]
      refine wpAnyH_take (i := 6) (oi := ?oib_6) (v := ?vb_6) ?hib_6 (by kernel_rfl) (by kernel_rfl) (by kernel_rfl) ?hQb_6 (Or.inl ⟨?hwb_6, ?hyb_6⟩) (by assumption) ?_
      case hib_6 => simp only [List.getElem?_toArray, List.getElem?_cons_succ, List.getElem?_cons_zero]; rfl
      case hQb_6 => exact fun _ _ _ h => h
      case hwb_6 => rfl
      case hyb_6 => intro w hSw; (try dsimp only at hSw); (first | (go_simp; done) | (go_simp; with_reducible rfl))
      try simp only [Act.put, List.setIfInBounds_toArray, List.set_cons_zero, List.set_cons_succ]
      refine wpAnyH_take (i := 7) (oi := ?oib_7) (v := undef) ?hib_7 (by kernel_rfl) (by kernel_rfl) (by kernel_rfl) ?hQb_7 (Or.inr ⟨?hwb_7, rfl⟩) (by assumption) ?_
      case hib_7 => simp only [List.getElem?_toArray, List.getElem?_cons_succ, List.getElem?_cons_zero]; rfl
      case hQb_7 => exact fun _ _ _ h => h
      case hwb_7 => rfl
      try simp only [Act.put, List.setIfInBounds_toArray, List.set_cons_zero, List.set_cons_succ]
      refine wpAnyH_take (i := 8) (oi := ?oib_8) (v := undef) ?hib_8 (by kernel_rfl) (by kernel_rfl) (by kernel_rfl) ?hQb_8 (Or.inr ⟨?hwb_8, rfl⟩) (by assumption) ?_
      case hib_8 => simp only [List.getElem?_toArray, List.getElem?_cons_succ, List.getElem?_cons_zero]; rfl
      case hQb_8 => exact fun _ _ _ h => h
      case hwb_8 => rfl
      try simp only [Act.put, List.setIfInBounds_toArray, List.set_cons_zero, List.set_cons_succ]
      refine wpAnyH_take (i := 9) (oi := ?oib_9) (v := undef) ?hib_9 (by kernel_rfl) (by kernel_rfl) (by kernel_rfl) ?hQb_9 (Or.inr ⟨?hwb_9, rfl⟩) (by assumption) ?_
      case hib_9 => simp only [List.getElem?_toArray, List.getElem?_cons_succ, List.getElem?_cons_zero]; rfl
      case hQb_9 => exact fun _ _ _ h => h
      case hwb_9 => rfl
      try simp only [Act.put, List.setIfInBounds_toArray, List.set_cons_zero, List.set_cons_succ]
      refine wpAnyH_take (i := 10) (oi := ?oib_10) (v := undef) ?hib_10 (by kernel_rfl) (by kernel_rfl) (by kernel_rfl) ?hQb_10 (Or.inr ⟨?hwb_10, rfl⟩) (by assumption) ?_
      case hib_10 => simp only [List.getElem?_toArray, List.getElem?_cons_succ, List.getElem?_cons_zero]; rfl
      case hQb_10 => exact fun _ _ _ h => h
      case hwb_10 => rfl
      try simp only [Act.put, List.setIfInBounds_toArray, List.set_cons_zero, List.set_cons_succ]
      refine wpAnyH_take (i := 11) (oi := ?oib_11) (v := undef) ?hib_11 (by kernel_rfl) (by kernel_rfl) (by kernel_rfl) ?hQb_11 (Or.inr ⟨?hwb_11, rfl⟩) (by assumption) ?_
      case hib_11 => simp only [List.getElem?_toArray, List.getElem?_cons_succ, List.getElem?_cons_zero]; rfl
      case hQb_11 => exact fun _ _ _ h => h
      case hwb_11 => rfl
      try simp only [Act.put, List.setIfInBounds_toArray, List.set_cons_zero, List.set_cons_succ]
      refine wpAnyH_take (i := 12) (oi := ?oib_12) (v := ?vb_12) ?hib_12 (by kernel_rfl) (by kernel_rfl) (by kernel_rfl) ?hQb_12 (Or.inl ⟨?hwb_12, ?hyb_12⟩) (by assumption) ?_
      case hib_12 => simp only [List.getElem?_toArray, List.getElem?_cons_succ, List.getElem?_cons_zero]; rfl
      case hQb_12 => exact fun _ _ _ h => h
      case hwb_12 => rfl
      case hyb_12 => intro w hSw; (try dsimp only at hSw); (first | (go_simp; done) | (go_simp; with_reducible rfl))
      try simp only [Act.put, List.setIfInBounds_toArray, List.set_cons_zero, List.set_cons_succ]
      refine wpAnyH_take (i := 13) (oi := ?oib_13) (v := ?vb_13) ?hib_13 (by kernel_rfl) (by kernel_rfl) (by kernel_rfl) ?hQb_13 (Or.inl ⟨?hwb_13, ?hyb_13⟩) (by assumption) ?_
      case hib_13 => simp only [List.getElem?_toArray, List.getElem?_cons_succ, List.getElem?_cons_zero]; rfl
      case hQb_13 => exact fun _ _ _ h => h
      case hwb_13 => rfl
      case hyb_13 => intro w hSw; (try dsimp only at hSw); (first | (go_simp; done) | (go_simp; with_reducible rfl))
      try simp only [Act.put, List.setIfInBounds_toArray, List.set_cons_zero, List.set_cons_succ]
      refine wpAnyH_take (i := 14) (oi := ?oib_14) (v := undef) ?hib_14 (by kernel_rfl) (by kernel_rfl) (by kernel_rfl) ?hQb_14 (Or.inr ⟨?hwb_14, rfl⟩) (by assumption) ?_
      case hib_14 => simp only [List.getElem?_toArray, List.getElem?_cons_succ, List.getElem?_cons_zero]; rfl
      case hQb_14 => exact fun _ _ _ h => h
      case hwb_14 => rfl
      try simp only [Act.put, List.setIfInBounds_toArray, List.set_cons_zero, List.set_cons_succ]
      refine wpAnyH_take (i := 15) (oi := ?oib_15) (v := undef) ?hib_15 (by kernel_rfl) (by kernel_rfl) (by kernel_rfl) ?hQb_15 (Or.inr ⟨?hwb_15, rfl⟩) (by assumption) ?_
      case hib_15 => simp only [List.getElem?_toArray, List.getElem?_cons_succ, List.getElem?_cons_zero]; rfl
      case hQb_15 => exact fun _ _ _ h => h
      case hwb_15 => rfl
      try simp only [Act.put, List.setIfInBounds_toArray, List.set_cons_zero, List.set_cons_succ]
      refine wpAnyH_take (i := 16) (oi := ?oib_16) (v := undef) ?hib_16 (by kernel_rfl) (by kernel_rfl) (by kernel_rfl) ?hQb_16 (Or.inr ⟨?hwb_16, rfl⟩) (by assumption) ?_
      case hib_16 => simp only [List.getElem?_toArray, List.getElem?_cons_succ, List.getElem?_cons_zero]; rfl
      case hQb_16 => exact fun _ _ _ h => h
      case hwb_16 => rfl
      try simp only [Act.put, List.setIfInBounds_toArray, List.set_cons_zero, List.set_cons_succ]
      refine wpAnyH_take (i := 17) (oi := ?oib_17) (v := undef) ?hib_17 (by kernel_rfl) (by kernel_rfl) (by kernel_rfl) ?hQb_17 (Or.inr ⟨?hwb_17, rfl⟩) (by assumption) ?_
      case hib_17 => simp only [List.getElem?_toArray, List.getElem?_cons_succ, List.getElem?_cons_zero]; rfl
      case hQb_17 => exact fun _ _ _ h => h
      case hwb_17 => rfl
      try simp only [Act.put, List.setIfInBounds_toArray, List.set_cons_zero, List.set_cons_succ]
      refine wpAnyH_take (i := 18) (oi := ?oib_18) (v := undef) ?hib_18 (by kernel_rfl) (by kernel_rfl) (by kernel_rfl) ?hQb_18 (Or.inr ⟨?hwb_18, rfl⟩) (by assumption) ?_
      case hib_18 => simp only [List.getElem?_toArray, List.getElem?_cons_succ, List.getElem?_cons_zero]; rfl
      case hQb_18 => exact fun _ _ _ h => h
      case hwb_18 => rfl
      try simp only [Act.put, List.setIfInBounds_toArray, List.set_cons_zero, List.set_cons_succ]
      refine wpAnyH_take (i := 19) (oi := ?oib_19) (v := undef) ?hib_19 (by kernel_rfl) (by kernel_rfl) (by kernel_rfl) ?hQb_19 (Or.inr ⟨?hwb_19, rfl⟩) (by assumption) ?_
      case hib_19 => simp only [List.getElem?_toArray, List.getElem?_cons_succ, List.getElem?_cons_zero]; rfl
      case hQb_19 => exact fun _ _ _ h => h
      case hwb_19 => rfl
      try simp only [Act.put, List.setIfInBounds_toArray, List.set_cons_zero, List.set_cons_succ]
      refine wpAnyH_take (i := 20) (oi := ?oib_20) (v := undef) ?hib_20 (by kernel_rfl) (by kernel_rfl) (by kernel_rfl) ?hQb_20 (Or.inr ⟨?hwb_20, rfl⟩) (by assumption) ?_
      case hib_20 => simp only [List.getElem?_toArray, List.getElem?_cons_succ, List.getElem?_cons_zero]; rfl
      case hQb_20 => exact fun _ _ _ h => h
      case hwb_20 => rfl
      try simp only [Act.put, List.setIfInBounds_toArray, List.set_cons_zero, List.set_cons_succ]
      refine wpAnyH_take (i := 21) (oi := ?oib_21) (v := ?vb_21) ?hib_21 (by kernel_rfl) (by kernel_rfl) (by kernel_rfl) ?hQb_21 (Or.inl ⟨?hwb_21, ?hyb_21⟩) (by assumption) ?_
      case hib_21 => simp only [List.getElem?_toArray, List.getElem?_cons_succ, List.getElem?_cons_zero]; rfl
      case hQb_21 => exact fun _ _ _ h => h
      case hwb_21 => rfl
      case hyb_21 => intro w hSw; (try dsimp only at hSw); (first | (go_simp; done) | (go_simp; with_reducible rfl))
      try simp only [Act.put, List.setIfInBounds_toArray, List.set_cons_zero, List.set_cons_succ]
      refine wpAnyH_take (i := 22) (oi := ?oib_22) (v := ?vb_22) ?hib_22 (by kernel_rfl) (by kernel_rfl) (by kernel_rfl) ?hQb_22 (Or.inl ⟨?hwb_22, ?hyb_22⟩) (by assumption) ?_
      case hib_22 => simp only [List.getElem?_toArray, List.getElem?_cons_succ, List.getElem?_cons_zero]; rfl
      case hQb_22 => exact fun _ _ _ h => h
      case hwb_22 => rfl
      case hyb_22 => intro w hSw; (try dsimp only at hSw); (first | (go_simp; done) | (go_simp; with_reducible rfl))
      try simp only [Act.put, List.setIfInBounds_toArray, List.set_cons_zero, List.set_cons_succ]
      refine wpAnyH_done (by kernel_rfl) ?_ _
      go_wp2
      go_ret
      exact ⟨rfl, HB.trans (BB.mono HB.size)⟩
    | true =>
      have HC := Lib.hid (fun wx : World => show Calls Tryz.prog 41 #[.agg ([.bool y.Secure, .string y.Host, .int .i64 y.Port] : List Value).toArray] wx (Gives (.bool true) wx) from hb ▸ implOrg wx y _ Origin.mkR hy)
      by_cases hs : x.Secure = y.Secure
      · have hse : (x.Secure == y.Secure) = true := by simpa using hs
        have HV := Lib.hid (show r = ((str (reg (bts x.Host))).toList == (str (reg (bts y.Host))).toList) by rw [str_toList, str_toList, HR.out]; unfold sameO; rw [ha, hb]; simp [hs])
        clear ha hb HR hs
        go_enter Tryz.func62, Tryz.ntmps62
        go_wp2_with fail
        rw [← hw1, ← hw2]
        clear hw1 hw2 s1
        refine wp_region_held_drew (S := (fun wx => wx.cell? ⟨w.heap.size, 0, none⟩ = some (.bool x.Secure) ∧ wx.cell? ⟨w.heap.size, 1, none⟩ = some (.string x.Host) ∧ wx.cell? ⟨w.heap.size, 2, none⟩ = some (.int .i64 x.Port) ∧ wx.cell? ⟨w.heap.size + 1, 0, none⟩ = some (.bool y.Secure) ∧ wx.cell? ⟨w.heap.size + 1, 1, none⟩ = some (.string y.Host) ∧ wx.cell? ⟨w.heap.size + 1, 2, none⟩ = some (.int .i64 y.Port))) (by kernel_rfl) ?_ (fun hHeld => ?_)
        · exact HF.out _ BB
        refine wpAnyH_take (i := 0) (oi := ?oic_0) (v := ?vc_0) ?hic_0 (by kernel_rfl) (by kernel_rfl) (by kernel_rfl) ?hQc_0 (Or.inl ⟨?hwc_0, ?hyc_0⟩) (by assumption) ?_
        case hic_0 => simp only [List.getElem?_toArray, List.getElem?_cons_zero]; rfl
        case hQc_0 => exact fun _ _ _ h => h
        case hwc_0 => rfl
        case hyc_0 => intro w hSw; (try dsimp only at hSw); (first | (go_simp; done) | (go_simp; with_reducible rfl))
        try simp only [Act.put, List.setIfInBounds_toArray, List.set_cons_zero, List.set_cons_succ]
        refine wpAnyH_ready (rs := [1]) (by kernel_rfl) (by simp) ?_
        refine AllReadyH.cons (o := ?oic_1) ?hic_1 (fun K hK => ?_) AllReadyH.nil
        case hic_1 => simp only [List.getElem?_toArray, List.getElem?_cons_succ, List.getElem?_cons_zero]; rfl
        go_simp
        go_at_call 41
        (with_reducible refine (HA.out _).mono ?_)
        rintro e w3 ⟨rfl, bq⟩
        replace BB : Below w2.heap.size w2 w3 := BB.trans (bq.mono BB.size)
        clear bq
        refine hK.out _ _ ?_ (fun hHeld => ?_)
        · exact HF.out _ BB
        clear hK K
        try simp only [Act.put, List.setIfInBounds_toArray, List.set_cons_zero, List.set_cons_succ]
        refine wpAnyH_take (i := 2) (oi := ?oic_2) (v := ?vc_2) ?hic_2 (by kernel_rfl) (by kernel_rfl) (by kernel_rfl) ?hQc_2 (Or.inl ⟨?hwc_2, ?hyc_2⟩) (by assumption) ?_
        case hic_2 => simp only [List.getElem?_toArray, List.getElem?_cons_succ, List.getElem?_cons_zero]; rfl
        case hQc_2 => exact fun _ _ _ h => h
        case hwc_2 => rfl
        case hyc_2 => intro w hSw; (try dsimp only at hSw); (first | (go_simp; done) | (go_simp; with_reducible rfl))
        try simp only [Act.put, List.setIfInBounds_toArray, List.set_cons_zero, List.set_cons_succ]
        refine wpAnyH_take (i := 3) (oi := ?oic_3) (v := ?vc_3) ?hic_3 (by kernel_rfl) (by kernel_rfl) (by kernel_rfl) ?hQc_3 (Or.inl ⟨?hwc_3, ?hyc_3⟩) (by assumption) ?_
        case hic_3 => simp only [List.getElem?_toArray, List.getElem?_cons_succ, List.getElem?_cons_zero]; rfl
        case hQc_3 => exact fun _ _ _ h => h
        case hwc_3 => rfl
        case hyc_3 => intro w hSw; (try dsimp only at hSw); (first | (go_simp; done) | (go_simp; with_reducible rfl))
        try simp only [Act.put, List.setIfInBounds_toArray, List.set_cons_zero, List.set_cons_succ]
        refine wpAnyH_ready (rs := [4]) (by kernel_rfl) (by simp) ?_
        refine AllReadyH.cons (o := ?oic_4) ?hic_4 (fun K hK => ?_) AllReadyH.nil
        case hic_4 => simp only [List.getElem?_toArray, List.getElem?_cons_succ, List.getElem?_cons_zero]; rfl
        go_simp
        go_at_call 41
        (with_reducible refine (HC.out _).mono ?_)
        rintro e w4 ⟨rfl, bq⟩
        replace BB : Below w2.heap.size w2 w4 := BB.trans (bq.mono BB.size)
        clear bq
        refine hK.out _ _ ?_ (fun hHeld => ?_)
        · exact HF.out _ BB
        clear hK K
        try simp only [Act.put, List.setIfInBounds_toArray, List.set_cons_zero, List.set_cons_succ]
        refine wpAnyH_take (i := 5) (oi := ?oic_5) (v := ?vc_5) ?hic_5 (by kernel_rfl) (by kernel_rfl) (by kernel_rfl) ?hQc_5 (Or.inl ⟨?hwc_5, ?hyc_5⟩) (by assumption) ?_
        case hic_5 => simp only [List.getElem?_toArray, List.getElem?_cons_succ, List.getElem?_cons_zero]; rfl
        case hQc_5 => exact fun _ _ _ h => h
        case hwc_5 => rfl
        case hyc_5 => intro w hSw; (try dsimp only at hSw); (first | (go_simp; done) | (go_simp; with_reducible rfl))
        try simp only [Act.put, List.setIfInBounds_toArray, List.set_cons_zero, List.set_cons_succ]
        refine wpAnyH_take (i := 6) (oi := ?oic_6) (v := ?vc_6) ?hic_6 (by kernel_rfl) (by kernel_rfl) (by kernel_rfl) ?hQc_6 (Or.inl ⟨?hwc_6, ?hyc_6⟩) (by assumption) ?_
        case hic_6 => simp only [List.getElem?_toArray, List.getElem?_cons_succ, List.getElem?_cons_zero]; rfl
        case hQc_6 => exact fun _ _ _ h => h
        case hwc_6 => rfl
        case hyc_6 => intro w hSw; (try dsimp only at hSw); (first | (go_simp; done) | (go_simp; with_reducible rfl))
        try simp only [Act.put, List.setIfInBounds_toArray, List.set_cons_zero, List.set_cons_succ]
        refine wpAnyH_take (i := 7) (oi := ?oic_7) (v := ?vc_7) ?hic_7 (by kernel_rfl) (by kernel_rfl) (by kernel_rfl) ?hQc_7 (Or.inl ⟨?hwc_7, ?hyc_7⟩) (by assumption) ?_
        case hic_7 => simp only [List.getElem?_toArray, List.getElem?_cons_succ, List.getElem?_cons_zero]; rfl
        case hQc_7 => exact fun _ _ _ h => h
        case hwc_7 => rfl
        case hyc_7 => intro w hSw; (try dsimp only at hSw); (first | (go_simp; done) | (go_simp; with_reducible rfl))
        try simp only [Act.put, List.setIfInBounds_toArray, List.set_cons_zero, List.set_cons_succ]
        refine wpAnyH_take (i := 8) (oi := ?oic_8) (v := ?vc_8) ?hic_8 (by kernel_rfl) (by kernel_rfl) (by kernel_rfl) ?hQc_8 (Or.inl ⟨?hwc_8, ?hyc_8⟩) (by assumption) ?_
        case hic_8 => simp only [List.getElem?_toArray, List.getElem?_cons_succ, List.getElem?_cons_zero]; rfl
        case hQc_8 => exact fun _ _ _ h => h
        case hwc_8 => rfl
        case hyc_8 => intro w hSw; (try dsimp only at hSw); (first | (go_simp; done) | (go_simp; with_reducible rfl))
        try simp only [Act.put, List.setIfInBounds_toArray, List.set_cons_zero, List.set_cons_succ]
        refine wpAnyH_take (i := 9) (oi := ?oic_9) (v := ?vc_9) ?hic_9 (by kernel_rfl) (by kernel_rfl) (by kernel_rfl) ?hQc_9 (Or.inl ⟨?hwc_9, ?hyc_9⟩) (by assumption) ?_
        case hic_9 => simp only [List.getElem?_toArray, List.getElem?_cons_succ, List.getElem?_cons_zero]; rfl
        case hQc_9 => exact fun _ _ _ h => h
        case hwc_9 => rfl
        case hyc_9 => intro w hSw; (try dsimp only at hSw); (first | (go_simp; done) | (go_simp; with_reducible rfl))
        try simp only [Act.put, List.setIfInBounds_toArray, List.set_cons_zero, List.set_cons_succ]
        refine wpAnyH_take (i := 10) (oi := ?oic_10) (v := ?vc_10) ?hic_10 (by kernel_rfl) (by kernel_rfl) (by kernel_rfl) ?hQc_10 (Or.inl ⟨?hwc_10, ?hyc_10⟩) (by assumption) ?_
        case hic_10 => simp only [List.getElem?_toArray, List.getElem?_cons_succ, List.getElem?_cons_zero]; rfl
        case hQc_10 => exact fun _ _ _ h => h
        case hwc_10 => rfl
        case hyc_10 => intro w hSw; (try dsimp only at hSw); (first | (go_simp; done) | (go_simp; with_reducible rfl))
        try simp only [Act.put, List.setIfInBounds_toArray, List.set_cons_zero, List.set_cons_succ]
        refine wpAnyH_take (i := 11) (oi := ?oic_11) (v := ?vc_11) ?hic_11 (by kernel_rfl) (by kernel_rfl) (by kernel_rfl) ?hQc_11 (Or.inl ⟨?hwc_11, ?hyc_11⟩) (by assumption) ?_
        case hic_11 => simp only [List.getElem?_toArray, List.getElem?_cons_succ, List.getElem?_cons_zero]; rfl
        case hQc_11 => exact fun _ _ _ h => h
        case hwc_11 => rfl
        case hyc_11 => intro w hSw; (try dsimp only at hSw); (first | (go_simp; done) | (go_simp; with_reducible rfl))
        try simp only [Act.put, List.setIfInBounds_toArray, List.set_cons_zero, List.set_cons_succ]
        refine wpAnyH_take (i := 12) (oi := ?oic_12) (v := ?vc_12) ?hic_12 (by kernel_rfl) (by kernel_rfl) (by kernel_rfl) ?hQc_12 (Or.inl ⟨?hwc_12, ?hyc_12⟩) (by assumption) ?_
        case hic_12 => simp only [List.getElem?_toArray, List.getElem?_cons_succ, List.getElem?_cons_zero]; rfl
        case hQc_12 => exact fun _ _ _ h => h
        case hwc_12 => rfl
        case hyc_12 => intro w hSw; (try dsimp only at hSw); (first | (go_simp; done) | (go_simp; with_reducible rfl))
        try simp only [Act.put, List.setIfInBounds_toArray, List.set_cons_zero, List.set_cons_succ]
        refine wpAnyH_take (i := 13) (oi := ?oic_13) (v := ?vc_13) ?hic_13 (by kernel_rfl) (by kernel_rfl) (by kernel_rfl) ?hQc_13 (Or.inl ⟨?hwc_13, ?hyc_13⟩) (by assumption) ?_
        case hic_13 => simp only [List.getElem?_toArray, List.getElem?_cons_succ, List.getElem?_cons_zero]; rfl
        case hQc_13 => exact fun _ _ _ h => h
        case hwc_13 => rfl
        case hyc_13 => intro w hSw; (try dsimp only at hSw); (first | (go_simp; done) | (go_simp; with_reducible rfl))
        try simp only [Act.put, List.setIfInBounds_toArray, List.set_cons_zero, List.set_cons_succ]
        refine wpAnyH_take (i := 14) (oi := ?oic_14) (v := ?vc_14) ?hic_14 (by kernel_rfl) (by kernel_rfl) (by kernel_rfl) ?hQc_14 (Or.inl ⟨?hwc_14, ?hyc_14⟩) (by assumption) ?_
        case hic_14 => simp only [List.getElem?_toArray, List.getElem?_cons_succ, List.getElem?_cons_zero]; rfl
        case hQc_14 => exact fun _ _ _ h => h
        case hwc_14 => rfl
        case hyc_14 => intro w hSw; (try dsimp only at hSw); (first | (go_simp; done) | (go_simp; with_reducible rfl))
        try simp only [Act.put, List.setIfInBounds_toArray, List.set_cons_zero, List.set_cons_succ]
        refine wpAnyH_take (i := 15) (oi := ?oic_15) (v := ?vc_15) ?hic_15 (by kernel_rfl) (by kernel_rfl) (by kernel_rfl) ?hQc_15 (Or.inl ⟨?hwc_15, ?hyc_15⟩) (by assumption) ?_
        case hic_15 => simp only [List.getElem?_toArray, List.getElem?_cons_succ, List.getElem?_cons_zero]; rfl
        case hQc_15 => exact fun _ _ _ h => h
        case hwc_15 => rfl
        case hyc_15 => intro w hSw; (try dsimp only at hSw); (first | (go_simp; done) | (go_simp; with_reducible rfl))
        try simp only [Act.put, List.setIfInBounds_toArray, List.set_cons_zero, List.set_cons_succ]
        refine wpAnyH_take (i := 17) (oi := ?oic_17) (v := ?vc_17) ?hic_17 (by kernel_rfl) (by kernel_rfl) (by kernel_rfl) ?hQc_17 (Or.inl ⟨?hwc_17, ?hyc_17⟩) (by assumption) ?_
        case hic_17 => simp only [List.getElem?_toArray, List.getElem?_cons_succ, List.getElem?_cons_zero]; rfl
        case hQc_17 => exact fun _ _ _ h => h
        case hwc_17 => rfl
        case hyc_17 => intro w hSw; (try dsimp only at hSw); (first | (go_simp; done) | (go_simp; with_reducible rfl))
        try simp only [Act.put, List.setIfInBounds_toArray, List.set_cons_zero, List.set_cons_succ]
        refine wpAnyH_take (i := 18) (oi := ?oic_18) (v := ?vc_18) ?hic_18 (by kernel_rfl) (by kernel_rfl) (by kernel_rfl) ?hQc_18 (Or.inl ⟨?hwc_18, ?hyc_18⟩) (by assumption) ?_
        case hic_18 => simp only [List.getElem?_toArray, List.getElem?_cons_succ, List.getElem?_cons_zero]; rfl
        case hQc_18 => exact fun _ _ _ h => h
        case hwc_18 => rfl
        case hyc_18 => intro w hSw; (try dsimp only at hSw); (first | (go_simp; done) | (go_simp; with_reducible rfl))
        try simp only [Act.put, List.setIfInBounds_toArray, List.set_cons_zero, List.set_cons_succ]
        refine wpAnyH_ready (rs := [16]) (by kernel_rfl) (by simp) ?_
        refine AllReadyH.cons (o := ?oic_16) ?hic_16 (fun K hK => ?_) AllReadyH.nil
        case hic_16 => simp only [List.getElem?_toArray, List.getElem?_cons_succ, List.getElem?_cons_zero]; rfl
        go_simp
        go_at_call 97
        (with_reducible refine (implReg _ x.Host hx).mono ?_)
        rintro e w5 ⟨rfl, bq⟩
        replace BB : Below w2.heap.size w2 w5 := BB.trans (bq.mono BB.size)
        clear bq
        refine hK.out _ _ ?_ (fun hHeld => ?_)
        · exact HF.out _ BB
        clear hK K
        try simp only [Act.put, List.setIfInBounds_toArray, List.set_cons_zero, List.set_cons_succ]
        refine wpAnyH_ready (rs := [19]) (by kernel_rfl) (by simp) ?_
        refine AllReadyH.cons (o := ?oic_19) ?hic_19 (fun K hK => ?_) AllReadyH.nil
        case hic_19 => simp only [List.getElem?_toArray, List.getElem?_cons_succ, List.getElem?_cons_zero]; rfl
        go_simp
        go_at_call 97
        (with_reducible refine (implReg _ y.Host hy).mono ?_)
        rintro e w6 ⟨rfl, bq⟩
        replace BB : Below w2.heap.size w2 w6 := BB.trans (bq.mono BB.size)
        clear bq
        refine hK.out _ _ ?_ (fun hHeld => ?_)
        · exact HF.out _ BB
        clear hK K
        try simp only [Act.put, List.setIfInBounds_toArray, List.set_cons_zero, List.set_cons_succ]
        refine wpAnyH_take (i := 20) (oi := ?oic_20) (v := ?vc_20) ?hic_20 (by kernel_rfl) (by kernel_rfl) (by kernel_rfl) ?hQc_20 (Or.inl ⟨?hwc_20, ?hyc_20⟩) (by assumption) ?_
        case hic_20 => simp only [List.getElem?_toArray, List.getElem?_cons_succ, List.getElem?_cons_zero]; rfl
        case hQc_20 => exact fun _ _ _ h => h
        case hwc_20 => rfl
        case hyc_20 => intro w hSw; (try dsimp only at hSw); (first | (go_simp; done) | (go_simp; with_reducible rfl))
        try simp only [Act.put, List.setIfInBounds_toArray, List.set_cons_zero, List.set_cons_succ]
        refine wpAnyH_take (i := 21) (oi := ?oic_21) (v := ?vc_21) ?hic_21 (by kernel_rfl) (by kernel_rfl) (by kernel_rfl) ?hQc_21 (Or.inl ⟨?hwc_21, ?hyc_21⟩) (by assumption) ?_
        case hic_21 => simp only [List.getElem?_toArray, List.getElem?_cons_succ, List.getElem?_cons_zero]; rfl
        case hQc_21 => exact fun _ _ _ h => h
        case hwc_21 => rfl
        case hyc_21 => intro w hSw; (try dsimp only at hSw); (first | (go_simp; done) | (go_simp; with_reducible rfl))
        try simp only [Act.put, List.setIfInBounds_toArray, List.set_cons_zero, List.set_cons_succ]
        refine wpAnyH_take (i := 22) (oi := ?oic_22) (v := ?vc_22) ?hic_22 (by kernel_rfl) (by kernel_rfl) (by kernel_rfl) ?hQc_22 (Or.inl ⟨?hwc_22, ?hyc_22⟩) (by assumption) ?_
        case hic_22 => simp only [List.getElem?_toArray, List.getElem?_cons_succ, List.getElem?_cons_zero]; rfl
        case hQc_22 => exact fun _ _ _ h => h
        case hwc_22 => rfl
        case hyc_22 => intro w hSw; (try dsimp only at hSw); (first | (go_simp; done) | (go_simp; with_reducible rfl))
        try simp only [Act.put, List.setIfInBounds_toArray, List.set_cons_zero, List.set_cons_succ]
        refine wpAnyH_done (by kernel_rfl) ?_ _
        go_wp2
        go_ret
        exact ⟨by rw [HV.out]; rfl, HB.trans (BB.mono HB.size)⟩
      · obtain rfl : r = false := by rw [HR.out]; unfold sameO; rw [ha, hb]; simp [hs]
        have hse : (x.Secure == y.Secure) = false := by simpa using hs
        clear ha hb HR hs
        go_enter Tryz.func62, Tryz.ntmps62
        go_wp2_with fail
        rw [← hw1, ← hw2]
        clear hw1 hw2 s1
        refine wp_region_held_drew (S := (fun wx => wx.cell? ⟨w.heap.size, 0, none⟩ = some (.bool x.Secure) ∧ wx.cell? ⟨w.heap.size, 1, none⟩ = some (.string x.Host) ∧ wx.cell? ⟨w.heap.size, 2, none⟩ = some (.int .i64 x.Port) ∧ wx.cell? ⟨w.heap.size + 1, 0, none⟩ = some (.bool y.Secure) ∧ wx.cell? ⟨w.heap.size + 1, 1, none⟩ = some (.string y.Host) ∧ wx.cell? ⟨w.heap.size + 1, 2, none⟩ = some (.int .i64 y.Port))) (by kernel_rfl) ?_ (fun hHeld => ?_)
        · exact HF.out _ BB
        refine wpAnyH_take (i := 0) (oi := ?oid_0) (v := ?vd_0) ?hid_0 (by kernel_rfl) (by kernel_rfl) (by kernel_rfl) ?hQd_0 (Or.inl ⟨?hwd_0, ?hyd_0⟩) (by assumption) ?_
        case hid_0 => simp only [List.getElem?_toArray, List.getElem?_cons_zero]; rfl
        case hQd_0 => exact fun _ _ _ h => h
        case hwd_0 => rfl
        case hyd_0 => intro w hSw; (try dsimp only at hSw); (first | (go_simp; done) | (go_simp; with_reducible rfl))
        try simp only [Act.put, List.setIfInBounds_toArray, List.set_cons_zero, List.set_cons_succ]
        refine wpAnyH_ready (rs := [1]) (by kernel_rfl) (by simp) ?_
        refine AllReadyH.cons (o := ?oid_1) ?hid_1 (fun K hK => ?_) AllReadyH.nil
        case hid_1 => simp only [List.getElem?_toArray, List.getElem?_cons_succ, List.getElem?_cons_zero]; rfl
        go_simp
        go_at_call 41
        (with_reducible refine (HA.out _).mono ?_)
        rintro e w3 ⟨rfl, bq⟩
        replace BB : Below w2.heap.size w2 w3 := BB.trans (bq.mono BB.size)
        clear bq
        refine hK.out _ _ ?_ (fun hHeld => ?_)
        · exact HF.out _ BB
        clear hK K
        try simp only [Act.put, List.setIfInBounds_toArray, List.set_cons_zero, List.set_cons_succ]
        refine wpAnyH_take (i := 2) (oi := ?oid_2) (v := ?vd_2) ?hid_2 (by kernel_rfl) (by kernel_rfl) (by kernel_rfl) ?hQd_2 (Or.inl ⟨?hwd_2, ?hyd_2⟩) (by assumption) ?_
        case hid_2 => simp only [List.getElem?_toArray, List.getElem?_cons_succ, List.getElem?_cons_zero]; rfl
        case hQd_2 => exact fun _ _ _ h => h
        case hwd_2 => rfl
        case hyd_2 => intro w hSw; (try dsimp only at hSw); (first | (go_simp; done) | (go_simp; with_reducible rfl))
        try simp only [Act.put, List.setIfInBounds_toArray, List.set_cons_zero, List.set_cons_succ]
        refine wpAnyH_take (i := 3) (oi := ?oid_3) (v := ?vd_3) ?hid_3 (by kernel_rfl) (by kernel_rfl) (by kernel_rfl) ?hQd_3 (Or.inl ⟨?hwd_3, ?hyd_3⟩) (by assumption) ?_
        case hid_3 => simp only [List.getElem?_toArray, List.getElem?_cons_succ, List.getElem?_cons_zero]; rfl
        case hQd_3 => exact fun _ _ _ h => h
        case hwd_3 => rfl
        case hyd_3 => intro w hSw; (try dsimp only at hSw); (first | (go_simp; done) | (go_simp; with_reducible rfl))
        try simp only [Act.put, List.setIfInBounds_toArray, List.set_cons_zero, List.set_cons_succ]
        refine wpAnyH_ready (rs := [4]) (by kernel_rfl) (by simp) ?_
        refine AllReadyH.cons (o := ?oid_4) ?hid_4 (fun K hK => ?_) AllReadyH.nil
        case hid_4 => simp only [List.getElem?_toArray, List.getElem?_cons_succ, List.getElem?_cons_zero]; rfl
        go_simp
        go_at_call 41
        (with_reducible refine (HC.out _).mono ?_)
        rintro e w4 ⟨rfl, bq⟩
        replace BB : Below w2.heap.size w2 w4 := BB.trans (bq.mono BB.size)
        clear bq
        refine hK.out _ _ ?_ (fun hHeld => ?_)
        · exact HF.out _ BB
        clear hK K
        try simp only [Act.put, List.setIfInBounds_toArray, List.set_cons_zero, List.set_cons_succ]
        refine wpAnyH_take (i := 5) (oi := ?oid_5) (v := ?vd_5) ?hid_5 (by kernel_rfl) (by kernel_rfl) (by kernel_rfl) ?hQd_5 (Or.inl ⟨?hwd_5, ?hyd_5⟩) (by assumption) ?_
        case hid_5 => simp only [List.getElem?_toArray, List.getElem?_cons_succ, List.getElem?_cons_zero]; rfl
        case hQd_5 => exact fun _ _ _ h => h
        case hwd_5 => rfl
        case hyd_5 => intro w hSw; (try dsimp only at hSw); (first | (go_simp; done) | (go_simp; with_reducible rfl))
        try simp only [Act.put, List.setIfInBounds_toArray, List.set_cons_zero, List.set_cons_succ]
        refine wpAnyH_take (i := 6) (oi := ?oid_6) (v := ?vd_6) ?hid_6 (by kernel_rfl) (by kernel_rfl) (by kernel_rfl) ?hQd_6 (Or.inl ⟨?hwd_6, ?hyd_6⟩) (by assumption) ?_
        case hid_6 => simp only [List.getElem?_toArray, List.getElem?_cons_succ, List.getElem?_cons_zero]; rfl
        case hQd_6 => exact fun _ _ _ h => h
        case hwd_6 => rfl
        case hyd_6 => intro w hSw; (try dsimp only at hSw); (first | (go_simp; done) | (go_simp; with_reducible rfl))
        try simp only [Act.put, List.setIfInBounds_toArray, List.set_cons_zero, List.set_cons_succ]
        refine wpAnyH_take (i := 7) (oi := ?oid_7) (v := ?vd_7) ?hid_7 (by kernel_rfl) (by kernel_rfl) (by kernel_rfl) ?hQd_7 (Or.inl ⟨?hwd_7, ?hyd_7⟩) (by assumption) ?_
        case hid_7 => simp only [List.getElem?_toArray, List.getElem?_cons_succ, List.getElem?_cons_zero]; rfl
        case hQd_7 => exact fun _ _ _ h => h
        case hwd_7 => rfl
        case hyd_7 => intro w hSw; (try dsimp only at hSw); (first | (go_simp; done) | (go_simp; with_reducible rfl))
        try simp only [Act.put, List.setIfInBounds_toArray, List.set_cons_zero, List.set_cons_succ]
        refine wpAnyH_take (i := 8) (oi := ?oid_8) (v := ?vd_8) ?hid_8 (by kernel_rfl) (by kernel_rfl) (by kernel_rfl) ?hQd_8 (Or.inl ⟨?hwd_8, ?hyd_8⟩) (by assumption) ?_
        case hid_8 => simp only [List.getElem?_toArray, List.getElem?_cons_succ, List.getElem?_cons_zero]; rfl
        case hQd_8 => exact fun _ _ _ h => h
        case hwd_8 => rfl
        case hyd_8 => intro w hSw; (try dsimp only at hSw); (first | (go_simp; done) | (go_simp; with_reducible rfl))
        try simp only [Act.put, List.setIfInBounds_toArray, List.set_cons_zero, List.set_cons_succ]
        refine wpAnyH_take (i := 9) (oi := ?oid_9) (v := ?vd_9) ?hid_9 (by kernel_rfl) (by kernel_rfl) (by kernel_rfl) ?hQd_9 (Or.inl ⟨?hwd_9, ?hyd_9⟩) (by assumption) ?_
        case hid_9 => simp only [List.getElem?_toArray, List.getElem?_cons_succ, List.getElem?_cons_zero]; rfl
        case hQd_9 => exact fun _ _ _ h => h
        case hwd_9 => rfl
        case hyd_9 => intro w hSw; (try dsimp only at hSw); (first | (go_simp; done) | (go_simp; with_reducible rfl))
        try simp only [Act.put, List.setIfInBounds_toArray, List.set_cons_zero, List.set_cons_succ]
        refine wpAnyH_take (i := 10) (oi := ?oid_10) (v := ?vd_10) ?hid_10 (by kernel_rfl) (by kernel_rfl) (by kernel_rfl) ?hQd_10 (Or.inl ⟨?hwd_10, ?hyd_10⟩) (by assumption) ?_
        case hid_10 => simp only [List.getElem?_toArray, List.getElem?_cons_succ, List.getElem?_cons_zero]; rfl
        case hQd_10 => exact fun _ _ _ h => h
        case hwd_10 => rfl
        case hyd_10 => intro w hSw; (try dsimp only at hSw); (first | (go_simp; done) | (go_simp; with_reducible rfl))
        try simp only [Act.put, List.setIfInBounds_toArray, List.set_cons_zero, List.set_cons_succ]
        refine wpAnyH_take (i := 11) (oi := ?oid_11) (v := ?vd_11) ?hid_11 (by kernel_rfl) (by kernel_rfl) (by kernel_rfl) ?hQd_11 (Or.inl ⟨?hwd_11, ?hyd_11⟩) (by assumption) ?_
        case hid_11 => simp only [List.getElem?_toArray, List.getElem?_cons_succ, List.getElem?_cons_zero]; rfl
        case hQd_11 => exact fun _ _ _ h => h
        case hwd_11 => rfl
        case hyd_11 => intro w hSw; (try dsimp only at hSw); (first | (go_simp; done) | (go_simp; with_reducible rfl))
        try simp only [Act.put, List.setIfInBounds_toArray, List.set_cons_zero, List.set_cons_succ]
        refine wpAnyH_take (i := 12) (oi := ?oid_12) (v := ?vd_12) ?hid_12 (by kernel_rfl) (by kernel_rfl) (by kernel_rfl) ?hQd_12 (Or.inl ⟨?hwd_12, ?hyd_12⟩) (by assumption) ?_
        case hid_12 => simp only [List.getElem?_toArray, List.getElem?_cons_succ, List.getElem?_cons_zero]; rfl
        case hQd_12 => exact fun _ _ _ h => h
        case hwd_12 => rfl
        case hyd_12 => intro w hSw; (try dsimp only at hSw); (first | (go_simp; done) | (go_simp; with_reducible rfl))
        try simp only [Act.put, List.setIfInBounds_toArray, List.set_cons_zero, List.set_cons_succ]
        refine wpAnyH_take (i := 13) (oi := ?oid_13) (v := ?vd_13) ?hid_13 (by kernel_rfl) (by kernel_rfl) (by kernel_rfl) ?hQd_13 (Or.inl ⟨?hwd_13, ?hyd_13⟩) (by assumption) ?_
        case hid_13 => simp only [List.getElem?_toArray, List.getElem?_cons_succ, List.getElem?_cons_zero]; rfl
        case hQd_13 => exact fun _ _ _ h => h
        case hwd_13 => rfl
        case hyd_13 => intro w hSw; (try dsimp only at hSw); (first | (go_simp; done) | (go_simp; with_reducible rfl))
        try simp only [Act.put, List.setIfInBounds_toArray, List.set_cons_zero, List.set_cons_succ]
        refine wpAnyH_take (i := 14) (oi := ?oid_14) (v := undef) ?hid_14 (by kernel_rfl) (by kernel_rfl) (by kernel_rfl) ?hQd_14 (Or.inr ⟨?hwd_14, rfl⟩) (by assumption) ?_
        case hid_14 => simp only [List.getElem?_toArray, List.getElem?_cons_succ, List.getElem?_cons_zero]; rfl
        case hQd_14 => exact fun _ _ _ h => h
        case hwd_14 => rfl
        try simp only [Act.put, List.setIfInBounds_toArray, List.set_cons_zero, List.set_cons_succ]
        refine wpAnyH_take (i := 15) (oi := ?oid_15) (v := undef) ?hid_15 (by kernel_rfl) (by kernel_rfl) (by kernel_rfl) ?hQd_15 (Or.inr ⟨?hwd_15, rfl⟩) (by assumption) ?_
        case hid_15 => simp only [List.getElem?_toArray, List.getElem?_cons_succ, List.getElem?_cons_zero]; rfl
        case hQd_15 => exact fun _ _ _ h => h
        case hwd_15 => rfl
        try simp only [Act.put, List.setIfInBounds_toArray, List.set_cons_zero, List.set_cons_succ]
        refine wpAnyH_take (i := 16) (oi := ?oid_16) (v := undef) ?hid_16 (by kernel_rfl) (by kernel_rfl) (by kernel_rfl) ?hQd_16 (Or.inr ⟨?hwd_16, rfl⟩) (by assumption) ?_
        case hid_16 => simp only [List.getElem?_toArray, List.getElem?_cons_succ, List.getElem?_cons_zero]; rfl
        case hQd_16 => exact fun _ _ _ h => h
        case hwd_16 => rfl
        try simp only [Act.put, List.setIfInBounds_toArray, List.set_cons_zero, List.set_cons_succ]
        refine wpAnyH_take (i := 17) (oi := ?oid_17) (v := undef) ?hid_17 (by kernel_rfl) (by kernel_rfl) (by kernel_rfl) ?hQd_17 (Or.inr ⟨?hwd_17, rfl⟩) (by assumption) ?_
        case hid_17 => simp only [List.getElem?_toArray, List.getElem?_cons_succ, List.getElem?_cons_zero]; rfl
        case hQd_17 => exact fun _ _ _ h => h
        case hwd_17 => rfl
        try simp only [Act.put, List.setIfInBounds_toArray, List.set_cons_zero, List.set_cons_succ]
        refine wpAnyH_take (i := 18) (oi := ?oid_18) (v := undef) ?hid_18 (by kernel_rfl) (by kernel_rfl) (by kernel_rfl) ?hQd_18 (Or.inr ⟨?hwd_18, rfl⟩) (by assumption) ?_
        case hid_18 => simp only [List.getElem?_toArray, List.getElem?_cons_succ, List.getElem?_cons_zero]; rfl
        case hQd_18 => exact fun _ _ _ h => h
        case hwd_18 => rfl
        try simp only [Act.put, List.setIfInBounds_toArray, List.set_cons_zero, List.set_cons_succ]
        refine wpAnyH_take (i := 19) (oi := ?oid_19) (v := undef) ?hid_19 (by kernel_rfl) (by kernel_rfl) (by kernel_rfl) ?hQd_19 (Or.inr ⟨?hwd_19, rfl⟩) (by assumption) ?_
        case hid_19 => simp only [List.getElem?_toArray, List.getElem?_cons_succ, List.getElem?_cons_zero]; rfl
        case hQd_19 => exact fun _ _ _ h => h
        case hwd_19 => rfl
        try simp only [Act.put, List.setIfInBounds_toArray, List.set_cons_zero, List.set_cons_succ]
        refine wpAnyH_take (i := 20) (oi := ?oid_20) (v := undef) ?hid_20 (by kernel_rfl) (by kernel_rfl) (by kernel_rfl) ?hQd_20 (Or.inr ⟨?hwd_20, rfl⟩) (by assumption) ?_
        case hid_20 => simp only [List.getElem?_toArray, List.getElem?_cons_succ, List.getElem?_cons_zero]; rfl
        case hQd_20 => exact fun _ _ _ h => h
        case hwd_20 => rfl
        try simp only [Act.put, List.setIfInBounds_toArray, List.set_cons_zero, List.set_cons_succ]
        refine wpAnyH_take (i := 21) (oi := ?oid_21) (v := ?vd_21) ?hid_21 (by kernel_rfl) (by kernel_rfl) (by kernel_rfl) ?hQd_21 (Or.inl ⟨?hwd_21, ?hyd_21⟩) (by assumption) ?_
        case hid_21 => simp only [List.getElem?_toArray, List.getElem?_cons_succ, List.getElem?_cons_zero]; rfl
        case hQd_21 => exact fun _ _ _ h => h
        case hwd_21 => rfl
        case hyd_21 => intro w hSw; (try dsimp only at hSw); (first | (go_simp; done) | (go_simp; with_reducible rfl))
        try simp only [Act.put, List.setIfInBounds_toArray, List.set_cons_zero, List.set_cons_succ]
        refine wpAnyH_take (i := 22) (oi := ?oid_22) (v := ?vd_22) ?hid_22 (by kernel_rfl) (by kernel_rfl) (by kernel_rfl) ?hQd_22 (Or.inl ⟨?hwd_22, ?hyd_22⟩) (by assumption) ?_
        case hid_22 => simp only [List.getElem?_toArray, List.getElem?_cons_succ, List.getElem?_cons_zero]; rfl
        case hQd_22 => exact fun _ _ _ h => h
        case hwd_22 => rfl
        case hyd_22 => intro w hSw; (try dsimp only at hSw); (first | (go_simp; done) | (go_simp; with_reducible rfl))
        try simp only [Act.put, List.setIfInBounds_toArray, List.set_cons_zero, List.set_cons_succ]
        refine wpAnyH_done (by kernel_rfl) ?_ _
        go_wp2
        go_ret
        exact ⟨rfl, HB.trans (BB.mono HB.size)⟩
set_option maxRecDepth 100000 in
theorem implSiteH (w : World) (s : ByteArray) (hs : s.size ≤ 16000000) : Calls Tryz.prog 93 #[.string s] w (Gives (.int .i64 (M3.derive 173 (C3b.sbytes s))) w) := by
  go_enter Tryz.func93, Tryz.ntmps93
  go_wp2_with fail
  (with_reducible refine (C3b.implDerive _ 173 s (by omega) (by omega) (by omega)).mono ?_); rintro e w2 ⟨rfl, b2⟩
  go_wp2
  go_ret
  exact ⟨rfl, b2⟩
end Go.Proofs.YtogoppknimpkbaaGreatDoor.C9j

/-
  What the program asks of Go's strings: a beginning, an end, one byte looked for, a text cut there.
-/
namespace Go.Proofs.YtogoppknimpkbaaGreatDoor.Sx
open Go.ChangeShapes Go.WideShapes Go.ChangeAt Go.RowKit
set_option linter.unusedVariables false
/-- Where a byte first stands. -/
theorem idx_at (l : List UInt8) (c : UInt8) : (Lib.indexByte l c = -1 ∧ ∀ x ∈ l, x ≠ c) ∨ ∃ a b, l = a ++ c :: b ∧ (∀ x ∈ a, x ≠ c) ∧ Lib.indexByte l c = a.length := by
  induction l with
  | nil => exact Or.inl ⟨rfl, by simp⟩
  | cons d l ih =>
    by_cases h : d = c
    · subst h
      exact Or.inr ⟨[], l, rfl, by simp, by simp [Lib.indexByte]⟩
    · have hb : (d == c) = false := by simpa using h
      rcases ih with ⟨h1, h2⟩ | ⟨a, b, h1, h2, h3⟩
      · refine Or.inl ⟨by simp [Lib.indexByte, hb, h1], ?_⟩
        intro x hx
        rcases List.mem_cons.1 hx with rfl | hx
        · exact h
        · exact h2 x hx
      · refine Or.inr ⟨d :: a, b, by rw [h1]; rfl, ?_, ?_⟩
        · intro x hx
          rcases List.mem_cons.1 hx with rfl | hx
          · exact h
          · exact h2 x hx
        · have hn : ((a.length : Int) == -1) = false := by rw [beq_eq_false_iff_ne]; omega
          simp [Lib.indexByte, hb, h3, hn]
theorem idx_mem (l : List UInt8) (c : UInt8) : decide (0 ≤ Lib.indexByte l c) = decide (c ∈ l) := by
  rw [decide_eq_decide]
  rcases idx_at l c with ⟨h1, h2⟩ | ⟨a, b, h1, h2, h3⟩
  · rw [h1]
    exact ⟨fun h => by omega, fun h => absurd rfl (h2 c h)⟩
  · rw [h3, h1]
    exact ⟨fun _ => by simp, fun _ => by omega⟩
set_option maxHeartbeats 1000000 in
set_option maxRecDepth 100000 in
theorem idxByte (s : ByteArray) (c : Int) (w : World) : Calls Tryz.prog 136 #[.string s, .int .u8 c] w fun e w' => e = .returned (.int .i64 (Lib.indexByte s.data.toList c.toNat.toUInt8)) ∧ w' = w := by
  go_enter Tryz.func136, Tryz.ntmps136
  go_wp2
  rw [run_callFunc_extern Tryz.func145 (by kernel_rfl) (by kernel_rfl) (by kernel_rfl) (e := Extern.BytealgIndexByte.indexByte) (by kernel_rfl), Lib.run_indexByteString]
  simp only [Result.andThen]
  rw [Oper.upon_value]
  go_wp2
  go_ret
  exact ⟨rfl, rfl⟩
set_option maxHeartbeats 2000000 in
set_option maxRecDepth 100000 in
theorem idxOne (s : ByteArray) (c : UInt8) (w : World) : Calls Tryz.prog 131 #[.string s, .string ⟨#[c]⟩] w fun e w' => e = .returned (.int .i64 (Lib.indexByte s.data.toList c)) ∧ w' = w := by
  go_enter Tryz.func131, Tryz.ntmps131
  go_wp2_with (go_at_call 136; refine (idxByte _ _ _).mono ?_; rintro e w' ⟨rfl, rfl⟩)
  · have h : ([c] == s.toList) = true := by assumption
    go_ret
    refine ⟨?_, rfl⟩
    have e : s.data.toList = [c] := by rw [← Lib.toList_data]; exact (beq_iff_eq.1 h).symm
    rw [e]
    simp [Lib.indexByte]
  · go_ret
    exact ⟨rfl, rfl⟩
set_option maxRecDepth 100000 in
theorem idxStr (s : ByteArray) (c : UInt8) (w : World) : Calls Tryz.prog 126 #[.string s, .string ⟨#[c]⟩] w fun e w' => e = .returned (.int .i64 (Lib.indexByte s.data.toList c)) ∧ w' = w := by
  go_enter Tryz.func126, Tryz.ntmps126
  go_wp2_with (go_at_call 131; refine (idxOne _ _ _).mono ?_; rintro e w' ⟨rfl, rfl⟩)
  go_ret
  exact ⟨rfl, rfl⟩
set_option maxRecDepth 100000 in
theorem hasByte (s : ByteArray) (c : UInt8) (w : World) : Calls Tryz.prog 118 #[.string s, .string ⟨#[c]⟩] w fun e w' => e = .returned (.bool (decide (c ∈ s.data.toList))) ∧ w' = w := by
  rw [← idx_mem]
  go_enter Tryz.func118, Tryz.ntmps118
  go_wp2_with (go_at_call 126; refine (idxStr _ _ _).mono ?_; rintro e w' ⟨rfl, rfl⟩)
  go_ret
  exact ⟨rfl, rfl⟩
set_option maxHeartbeats 1000000 in
set_option maxRecDepth 100000 in
theorem sufIn (s p : ByteArray) (w : World) (hs : s.size ≤ 9223372036854775807) : Calls Tryz.prog 119 #[.string s, .string p] w fun e w' => e = .returned (.bool (p.data.toList.isSuffixOf s.data.toList)) ∧ w' = w := by
  have HV := Lib.hid (Lib.hasSuffix_raw s p)
  rw [show p.data.toList.isSuffixOf s.data.toList = Lib.hasSuffix s.data.toList p.data.toList from rfl, ← Lib.hasSuffix_raw]
  have hlo : p.size ≤ s.size → ((s.size : Int) - (p.size : Int) + 9223372036854775808) % 18446744073709551616 - 9223372036854775808 = ((s.size - p.size : Nat) : Int) := fun _ => by omega
  go_enter Tryz.func119, Tryz.ntmps119
  go_wp2
  · have h : p.size ≤ s.size := by assumption
    go_ret
    refine ⟨?_, rfl⟩
    show Ending.returned (Value.bool ((s.extract (s.size - p.size) s.size).toList == p.toList)) = _
    simp [h]
  · have h : ¬ p.size ≤ s.size := by assumption
    go_ret
    refine ⟨?_, rfl⟩
    show Ending.returned (Value.bool false) = _
    simp [h]
set_option maxRecDepth 100000 in
theorem sufOf (s p : ByteArray) (w : World) (hs : s.size ≤ 9223372036854775807) : Calls Tryz.prog 96 #[.string s, .string p] w fun e w' => e = .returned (.bool (p.data.toList.isSuffixOf s.data.toList)) ∧ w' = w := by
  go_enter Tryz.func96, Tryz.ntmps96
  go_wp2_with (go_at_call 119; refine (sufIn _ _ _ hs).mono ?_; rintro e w' ⟨rfl, rfl⟩)
  go_ret
  exact ⟨rfl, rfl⟩
end Go.Proofs.YtogoppknimpkbaaGreatDoor.Sx

/-
  Contracts of chapter 9's texts of origins, of the program.
-/
namespace Go.Proofs.YtogoppknimpkbaaGreatDoor.C9k
open Go.ChangeShapes Go.WideShapes Go.ChangeAt Go.RowKit
open S0 S9 Dm Fx M12 M13 C9
set_option linter.unusedVariables false
set_option linter.unusedSimpArgs false
set_option maxRecDepth 100000 in
theorem implSch (b : Bool) (w : World) : Calls Tryz.prog 90 #[.bool b] w fun e w' => e = .returned (.tuple #[.string (str (pre b)), .int .i64 (usual b)]) ∧ w' = w := by
  cases b with
  | true =>
    go_enter Tryz.func90, Tryz.ntmps90
    go_wp2
    go_ret2
    exact ⟨rfl, rfl⟩
  | false =>
    go_enter Tryz.func90, Tryz.ntmps90
    go_wp2
    go_ret2
    exact ⟨rfl, rfl⟩
theorem implSchT (w : World) : Calls Tryz.prog 90 #[.bool true] w fun e w' => e = .returned (.tuple #[.string ⟨#[104, 116, 116, 112, 115, 58, 47, 47]⟩, .int .i64 443]) ∧ w' = w := implSch true w
theorem implSchF (w : World) : Calls Tryz.prog 90 #[.bool false] w fun e w' => e = .returned (.tuple #[.string ⟨#[104, 116, 116, 112, 58, 47, 47]⟩, .int .i64 80]) ∧ w' = w := implSch false w
set_option maxHeartbeats 3200000 in
set_option maxRecDepth 100000 in
theorem implFmtO (w : World) (x : Fx.Origin) (vs : List Value) (h : RdsL w w.heap.size x.dcs vs) (hs : x.Host.size ≤ 4294967296) (ht : La.Pow w) : Calls Tryz.prog 57 #[.agg vs.toArray] w (Gives (.string (str (fmtO x))) w) := by
  obtain rfl := Origin.rds h
  obtain ⟨w1, hw1⟩ : ∃ y, y = w.alloc (.cells #[.bool x.Secure, .string x.Host, .int .i64 x.Port] 43) := ⟨_, rfl⟩
  have b0 : Below w.heap.size w w1 := hw1 ▸ (Below.refl _ _).alloc (Nat.le_refl _) _
  have op := Fx.var_owns w 43 3 [.bool x.Secure, .string x.Host, .int .i64 x.Port] rfl
  rw [← hw1] at op
  have HR1 := Lib.hid (rdsL_on h b0)
  clear h
  cases ho : orgB x with
  | false =>
    have HF := Lib.hid (show str (fmtO x) = ⟨#[]⟩ by rw [fmtO_f ho]; rfl)
    have HO := Lib.hid (show Calls Tryz.prog 41 #[.agg [.bool x.Secure, .string x.Host, .int .i64 x.Port].toArray] w1 (Gives (.bool false) w1) from ho ▸ C9j.implOrg w1 x _ HR1.out hs)
    clear ho
    go_enter Tryz.func57, Tryz.ntmps57
    go_wp2_with fail
    rw [← hw1]
    (refine HO.out.mono ?_); rintro e w2 ⟨rfl, b2⟩
    go_wp2
    go_ret
    exact ⟨by rw [HF.out]; rfl, b0.trans (b2.mono b0.size)⟩
  | true =>
    obtain ⟨hh, hp0, hp1⟩ := orgB_parts ho
    have hh60 := host_len hh
    rw [bts_len] at hh60
    have HO := Lib.hid (show Calls Tryz.prog 41 #[.agg [.bool x.Secure, .string x.Host, .int .i64 x.Port].toArray] w1 (Gives (.bool true) w1) from ho ▸ C9j.implOrg w1 x _ HR1.out hs)
    have HT := Lib.hid (fmtO_t ho)
    have his := C9b.itoa_size x.Port hp0 hp1
    clear ho hh
    go_enter Tryz.func57, Tryz.ntmps57
    go_wp2_with fail
    rw [← hw1]
    (refine HO.out.mono ?_); rintro e w2 ⟨rfl, b2⟩
    have op2 := owns_below op b2
    have c0 : w2.cell? ⟨w.heap.size, 0, none⟩ = some (.bool x.Secure) := Fx.var_load op2 (by simp) 0 _ rfl
    have c1 : w2.cell? ⟨w.heap.size, 1, none⟩ = some (.string x.Host) := Fx.var_load op2 (by simp) 1 _ rfl
    have c2 : w2.cell? ⟨w.heap.size, 2, none⟩ = some (.int .i64 x.Port) := Fx.var_load op2 (by simp) 2 _ rfl
    have HB := Lib.hid (b0.trans (b2.mono b0.size))
    have HT2 := Lib.hid (show La.Pow w2.drew from (ht.stays HB.out).stays (drewN_below w2 1 _))
    have lp := Fx.var_lt op2
    clear op op2 b2 HO HR1 hw1 b0
    cases hsec : x.Secure with
    | true =>
      rw [hsec] at c0
      have HS := Lib.hid (implSchT w2)
      by_cases hu : x.Port = 443
      · have hub : (x.Port == 443) = true := by simpa using hu
        have HV := Lib.hid (show str (fmtO x) = ⟨#[104, 116, 116, 112, 115, 58, 47, 47]⟩ ++ x.Host by
          apply bts_inj
          rw [bts_str, HT.out, hsec, hu, bts_app]
          simp [usual, pre]
          rfl)
        go_wp2_with fail
        (refine HS.out.mono ?_); rintro e w9 ⟨rfl, rfl⟩
        go_wp2
        go_ret
        exact ⟨by rw [HV.out]; rfl, HB.out⟩
      · have hub : (x.Port == 443) = false := by simpa using hu
        have HV := Lib.hid (show str (fmtO x) = ⟨#[104, 116, 116, 112, 115, 58, 47, 47]⟩ ++ x.Host ++ ⟨#[58]⟩ ++ ⟨(Lib.itoa x.Port).toArray⟩ by
          apply bts_inj
          rw [bts_str, HT.out, hsec, bts_app, bts_app, bts_app, if_neg (by simpa [usual] using hu)]
          simp [pre, bts])
        have n1 : ¬ 9223372036854775807 < 8 + x.Host.size := by omega
        have n2 : ¬ 9223372036854775807 < 8 + x.Host.size + 1 := by omega
        have n3 : ¬ 9223372036854775807 < 8 + x.Host.size + 1 + (Lib.itoa x.Port).length := by omega
        go_wp2_with fail
        (refine HS.out.mono ?_); rintro e w9 ⟨rfl, rfl⟩
        go_wp2_with fail
        go_region_held3 (fun wx => wx.cell? ⟨w.heap.size, 1, none⟩ = some (.string x.Host) ∧ wx.cell? ⟨w.heap.size, 2, none⟩ = some (.int .i64 x.Port)) (first | exact ⟨c1, c2⟩ | exact ⟨k1, k2⟩) (first | (go_at_call 91; (with_reducible refine (C1F.implFmt x.Port _ (by omega) (by omega) HT2.out).mono ?_); rintro e w3 ⟨rfl, b3⟩; replace b3 : Below w9.heap.size w9 w3 := (drewN_below w9 1 _).trans b3; have k1 := (b3.cell (p := ⟨w.heap.size, 1, none⟩) lp).trans c1; have k2 := (b3.cell (p := ⟨w.heap.size, 2, none⟩) lp).trans c2))
        have HB3 := HB.out.trans (b3.mono HB.out.size)
        go_wp2
        go_ret
        exact ⟨by rw [HV.out]; rfl, HB3⟩
    | false =>
      rw [hsec] at c0
      have HS := Lib.hid (implSchF w2)
      by_cases hu : x.Port = 80
      · have hub : (x.Port == 80) = true := by simpa using hu
        have HV := Lib.hid (show str (fmtO x) = ⟨#[104, 116, 116, 112, 58, 47, 47]⟩ ++ x.Host by
          apply bts_inj
          rw [bts_str, HT.out, hsec, hu, bts_app]
          simp [usual, pre]
          rfl)
        go_wp2_with fail
        (refine HS.out.mono ?_); rintro e w9 ⟨rfl, rfl⟩
        go_wp2
        go_ret
        exact ⟨by rw [HV.out]; rfl, HB.out⟩
      · have hub : (x.Port == 80) = false := by simpa using hu
        have HV := Lib.hid (show str (fmtO x) = ⟨#[104, 116, 116, 112, 58, 47, 47]⟩ ++ x.Host ++ ⟨#[58]⟩ ++ ⟨(Lib.itoa x.Port).toArray⟩ by
          apply bts_inj
          rw [bts_str, HT.out, hsec, bts_app, bts_app, bts_app, if_neg (by simpa [usual] using hu)]
          simp [pre, bts])
        have n1 : ¬ 9223372036854775807 < 7 + x.Host.size := by omega
        have n2 : ¬ 9223372036854775807 < 7 + x.Host.size + 1 := by omega
        have n3 : ¬ 9223372036854775807 < 7 + x.Host.size + 1 + (Lib.itoa x.Port).length := by omega
        go_wp2_with fail
        (refine HS.out.mono ?_); rintro e w9 ⟨rfl, rfl⟩
        go_wp2_with fail
        go_region_held3 (fun wx => wx.cell? ⟨w.heap.size, 1, none⟩ = some (.string x.Host) ∧ wx.cell? ⟨w.heap.size, 2, none⟩ = some (.int .i64 x.Port)) (first | exact ⟨c1, c2⟩ | exact ⟨k1, k2⟩) (first | (go_at_call 91; (with_reducible refine (C1F.implFmt x.Port _ (by omega) (by omega) HT2.out).mono ?_); rintro e w3 ⟨rfl, b3⟩; replace b3 : Below w9.heap.size w9 w3 := (drewN_below w9 1 _).trans b3; have k1 := (b3.cell (p := ⟨w.heap.size, 1, none⟩) lp).trans c1; have k2 := (b3.cell (p := ⟨w.heap.size, 2, none⟩) lp).trans c2))
        have HB3 := HB.out.trans (b3.mono HB.out.size)
        go_wp2
        go_ret
        exact ⟨by rw [HV.out]; rfl, HB3⟩
end Go.Proofs.YtogoppknimpkbaaGreatDoor.C9k

/-
  Contracts of chapter 9's origins, of the program.
-/
namespace Go.Proofs.YtogoppknimpkbaaGreatDoor.C9i
open Go.ChangeShapes Go.WideShapes Go.ChangeAt Go.RowKit
open S0 S9 Dm Fx M12 M13 C9
set_option linter.unusedVariables false
set_option linter.unusedSimpArgs false
theorem implHost (s : ByteArray) (w : World) (hs : s.size ≤ 4294967296) : Calls Tryz.prog 78 #[.string s] w (Gives (.bool (host (bts s))) w) := C9j.implHost s w hs
theorem implOrg (w : World) (x : Fx.Origin) (vs : List Value) (h : RdsL w w.heap.size x.dcs vs) (hs : x.Host.size ≤ 4294967296) : Calls Tryz.prog 41 #[.agg vs.toArray] w (Gives (.bool (orgB x)) w) := C9j.implOrg w x vs h hs
theorem implReg (w : World) (s : ByteArray) (hs : s.size ≤ 4294967296) : Calls Tryz.prog 97 #[.string s] w (Gives (.string (str (reg (bts s)))) w) := C9j.implReg w s hs
theorem implSameM (w : World) (x y : Fx.Origin) (us vs : List Value) (h : RdsL w w.heap.size x.dcs us) (h2 : RdsL w w.heap.size y.dcs vs) (hx : x.Host.size ≤ 4294967296) (hy : y.Host.size ≤ 4294967296) :
    Calls Tryz.prog 62 #[.agg us.toArray, .agg vs.toArray] w (Gives (.bool (sameO x y)) w) := C9j.implSameM w x y us vs h h2 hx hy
theorem implSiteH (w : World) (s : ByteArray) (hs : s.size ≤ 16000000) : Calls Tryz.prog 93 #[.string s] w (Gives (.int .i64 (M3.derive 173 (C3b.sbytes s))) w) := C9j.implSiteH w s hs
theorem two_labels {s : List UInt8} : decide (2 ≤ (split s).length) = decide ((46 : UInt8) ∈ s) := by
  rw [decide_eq_decide]
  induction s with
  | nil => simp [split]
  | cons c cs ih =>
    by_cases hc : c = 46
    · subst hc
      rw [split_at]
      have := List.length_pos_iff.2 (split_ne cs)
      simp
      omega
    · cases hs : split cs with
      | nil => exact absurd hs (split_ne cs)
      | cons x xs =>
        rw [hs] at ih
        rw [split_off hc hs]
        simp only [List.length_cons] at ih ⊢
        rw [ih]
        simp only [List.mem_cons]
        exact ⟨fun h => Or.inr h, fun h => by rcases h with h | h; exact absurd h.symm hc; exact h⟩
set_option maxHeartbeats 3200000 in
set_option maxRecDepth 100000 in
theorem implSiteN (s : ByteArray) (w : World) (hs : s.size ≤ 4294967296) : Calls Tryz.prog 95 #[.string s] w (Gives (.bool (host (bts s) && decide (2 ≤ (split (bts s)).length))) w) := by
  rw [two_labels]
  cases hh : host (bts s) with
  | false =>
    have HH := Lib.hid (fun wx : World => show Calls Tryz.prog 78 #[.string s] wx (Gives (.bool false) wx) from hh ▸ implHost s wx hs)
    rw [Bool.false_and]
    clear hh
    go_enter Tryz.func95, Tryz.ntmps95
    go_wp2_with fail
    (refine (HH.out _).mono ?_); rintro e w3 ⟨rfl, b3⟩
    go_wp2
    go_ret
    exact ⟨rfl, b3⟩
  | true =>
    have HH := Lib.hid (fun wx : World => show Calls Tryz.prog 78 #[.string s] wx (Gives (.bool true) wx) from hh ▸ implHost s wx hs)
    obtain ⟨m, hm⟩ : ∃ m, m = decide ((46 : UInt8) ∈ s.data.toList) := ⟨_, rfl⟩
    have HLS := Lib.hid (fun wx : World => show Calls Tryz.prog 118 #[.string s, .string ⟨#[46]⟩] wx fun e w' => e = .returned (.bool m) ∧ w' = wx from hm ▸ Sx.hasByte s 46 wx)
    rw [Bool.true_and, show decide ((46 : UInt8) ∈ bts s) = m from hm.symm]
    clear hh hm
    go_enter Tryz.func95, Tryz.ntmps95
    go_wp2_with fail
    (refine (HH.out _).mono ?_); rintro e w3 ⟨rfl, b3⟩
    go_wp2_with fail
    (refine (HLS.out _).mono ?_); rintro e w4 ⟨rfl, rfl⟩
    go_wp2
    go_ret
    exact ⟨rfl, b3⟩
set_option maxHeartbeats 3200000 in
set_option maxRecDepth 100000 in
theorem implMayM (w : World) (x : Fx.Origin) (s : ByteArray) (us : List Value) (h : RdsL w w.heap.size x.dcs us) (hx : x.Host.size ≤ 4294967296) (hs : s.size ≤ 4294967296) :
    Calls Tryz.prog 61 #[.agg us.toArray, .string s] w (Gives (.bool (mayO x (bts s))) w) := by
  obtain rfl := Origin.rds h
  clear h
  obtain ⟨w1, hw1⟩ : ∃ z, z = w.alloc (.cells #[.bool x.Secure, .string x.Host, .int .i64 x.Port] 43) := ⟨_, rfl⟩
  have op := Fx.var_owns w 43 3 [.bool x.Secure, .string x.Host, .int .i64 x.Port] rfl
  have HB : Below w.heap.size w w1 := hw1 ▸ (Below.refl _ _).alloc (Nat.le_refl _) _
  rw [← hw1] at op
  have l1 : w.heap.size < w1.heap.size := Fx.var_lt op
  have HF := Lib.hid (show ∀ wx, Below w1.heap.size w1 wx → wx.cell? ⟨w.heap.size, 0, none⟩ = some (.bool x.Secure) ∧ wx.cell? ⟨w.heap.size, 1, none⟩ = some (.string x.Host) from fun wx hb =>
    ⟨Fx.var_load (owns_below op hb) (by simp) 0 _ rfl, Fx.var_load (owns_below op hb) (by simp) 1 _ rfl⟩)
  clear op
  obtain ⟨r, hr⟩ : ∃ r, r = mayO x (bts s) := ⟨_, rfl⟩
  rw [← hr]
  have HR := Lib.hid hr
  clear hr
  cases ha : orgB x with
  | false =>
    have HA := Lib.hid (fun wx : World => show Calls Tryz.prog 41 #[.agg ([.bool x.Secure, .string x.Host, .int .i64 x.Port] : List Value).toArray] wx (Gives (.bool false) wx) from ha ▸ implOrg wx x _ Origin.mkR hx)
    obtain rfl : r = false := by rw [HR.out]; unfold mayO; rw [ha]; rfl
    clear ha HR
    go_enter Tryz.func61, Tryz.ntmps61
    go_wp2_with fail
    rw [← hw1]
    (refine (HA.out _).mono ?_); rintro e w2 ⟨rfl, b2⟩
    go_wp2
    go_ret
    exact ⟨rfl, HB.trans (b2.mono HB.size)⟩
  | true =>
    have HA := Lib.hid (fun wx : World => show Calls Tryz.prog 41 #[.agg ([.bool x.Secure, .string x.Host, .int .i64 x.Port] : List Value).toArray] wx (Gives (.bool true) wx) from ha ▸ implOrg wx x _ Origin.mkR hx)
    have hh60 := host_len (orgB_parts ha).1
    rw [bts_len] at hh60
    go_enter Tryz.func61, Tryz.ntmps61
    go_wp2_with fail
    rw [← hw1]
    (refine (HA.out _).mono ?_); rintro e w2 ⟨rfl, b2⟩
    obtain ⟨c0, c1⟩ := HF.out w2 b2
    have lp2 : w.heap.size < w2.heap.size := Nat.lt_of_lt_of_le l1 b2.size
    cases hsec : x.Secure with
    | false =>
      rw [hsec] at c0
      obtain rfl : r = false := by rw [HR.out]; unfold mayO; rw [ha, hsec]; rfl
      clear ha HR HA hw1
      go_wp2
      go_ret
      exact ⟨rfl, HB.trans (b2.mono HB.size)⟩
    | true =>
      rw [hsec] at c0
      obtain ⟨m, hm⟩ : ∃ m, m = (host (bts s) && decide (2 ≤ (split (bts s)).length)) := ⟨_, rfl⟩
      have HH := Lib.hid (fun wx : World => show Calls Tryz.prog 95 #[.string s] wx (Gives (.bool m) wx) from hm ▸ implSiteN s wx hs)
      have HR2 := Lib.hid (show r = (m && (bts x.Host == bts s || (46 :: bts s).isSuffixOf (bts x.Host))) by rw [HR.out]; unfold mayO; rw [ha, hsec, hm]; simp [bts, Bool.and_assoc])
      have HZ := Lib.hid (show m = true → s.size ≤ 4294967295 from fun hmt => by
        rw [hmt] at hm
        have h1 := host_len (Bool.and_eq_true_iff.1 hm.symm).1
        rw [bts_len] at h1
        omega)
      clear ha HR HA hw1 hm
      go_wp2_with fail
      (refine (HH.out _).mono ?_); rintro e w3 ⟨rfl, b3⟩
      have b34 := b2.trans (b3.mono b2.size)
      have HB4 := HB.trans (b34.mono HB.size)
      obtain ⟨k0, k1⟩ := HF.out w3 b34
      have lp4 : w.heap.size < w3.heap.size := Nat.lt_of_lt_of_le l1 b34.size
      clear b2 b3 c0 c1 HF HH
      cases m with
      | false =>
        obtain rfl : r = false := by rw [HR2.out]; rfl
        clear HR2 HZ
        go_wp2
        go_ret
        exact ⟨rfl, HB4⟩
      | true =>
        have hs60 := HZ.out rfl
        have HV := Lib.hid (show r = (bts x.Host == bts s || (46 :: bts s).isSuffixOf (bts x.Host)) by rw [HR2.out]; rfl)
        clear HR2 HZ
        by_cases he : bts x.Host = bts s
        · obtain rfl : r = true := by rw [HV.out, he]; simp
          have heb : (x.Host.toList == s.toList) = true := by rw [toList_bts, toList_bts, he]; simp
          clear HV he
          go_wp2
          go_ret
          exact ⟨rfl, HB4⟩
        · have heb : (x.Host.toList == s.toList) = false := by rw [toList_bts, toList_bts]; simpa using he
          have heb2 : (bts x.Host == bts s) = false := by simpa using he
          have hfin : r = (bts (⟨#[46]⟩ ++ s)).isSuffixOf (bts x.Host) := by
            rw [HV.out, heb2, Bool.false_or, bts_app]; rfl
          have HS := Lib.hid (fun wx : World => show Calls Tryz.prog 96 #[.string x.Host, .string (⟨#[46]⟩ ++ s)] wx fun e w' => e = .returned (.bool r) ∧ w' = wx from by
            have h := Sx.sufOf x.Host (⟨#[46]⟩ ++ s) wx (by omega)
            rw [show (⟨#[46]⟩ ++ s : ByteArray).data.toList.isSuffixOf x.Host.data.toList = r from hfin.symm] at h
            exact h)
          have n1 : ¬ 9223372036854775807 < 1 + s.size := by omega
          clear HV he hfin heb2
          go_wp2_with fail
          (refine (HS.out _).mono ?_); rintro e w5 ⟨rfl, rfl⟩
          go_wp2
          go_ret
          exact ⟨rfl, HB4⟩
theorem implMay (w : World) (x : Fx.Origin) (s : ByteArray) (us : List Value) (h : RdsL w w.heap.size x.dcs us) (hx : x.Host.size ≤ 4294967296) (hs : s.size ≤ 4294967296) :
    Calls Tryz.prog 56 #[.agg us.toArray, .string s] w (Gives (.bool (mayO x (bts s))) w) := by
  obtain rfl := Origin.rds h
  clear h
  have HS := Lib.hid (fun wx : World => show Calls Tryz.prog 61 #[.agg #[.bool x.Secure, .string x.Host, .int .i64 x.Port], .string s] wx (Gives (.bool (mayO x (bts s))) wx) from implMayM wx x s [.bool x.Secure, .string x.Host, .int .i64 x.Port] Origin.mkR hx hs)
  obtain ⟨w1, hw1⟩ : ∃ z, z = w.alloc (.cells #[.bool x.Secure, .string x.Host, .int .i64 x.Port] 43) := ⟨_, rfl⟩
  have op := Fx.var_owns w 43 3 [.bool x.Secure, .string x.Host, .int .i64 x.Port] rfl
  have HB : Below w.heap.size w w1 := hw1 ▸ (Below.refl _ _).alloc (Nat.le_refl _) _
  rw [← hw1] at op
  have l1 : w.heap.size < w1.heap.size := Fx.var_lt op
  have a0 := Fx.var_load op (by simp) 0 _ rfl
  have a1 := Fx.var_load op (by simp) 1 _ rfl
  have a2 := Fx.var_load op (by simp) 2 _ rfl
  clear op
  go_enter Tryz.func56, Tryz.ntmps56
  go_wp2_with fail
  rw [← hw1]
  clear hw1
  go_wp2_with fail
  (refine (HS.out _).mono ?_); rintro e w3 ⟨rfl, b3⟩
  go_wp2
  go_ret
  exact ⟨rfl, HB.trans (b3.mono HB.size)⟩
theorem implFmtO (w : World) (x : Fx.Origin) (vs : List Value) (h : RdsL w w.heap.size x.dcs vs) (hs : x.Host.size ≤ 4294967296) (ht : La.Pow w) : Calls Tryz.prog 57 #[.agg vs.toArray] w (Gives (.string (str (fmtO x))) w) := C9k.implFmtO w x vs h hs ht
end Go.Proofs.YtogoppknimpkbaaGreatDoor.C9i

/-
  Contract of chapter 9's ParseOrigin, of the model.
-/
namespace Go.Proofs.YtogoppknimpkbaaGreatDoor.C9c
open Go.ChangeShapes Go.WideShapes Go.ChangeAt Go.RowKit
open S0 S9 Dm Fx M12 M13 C9
set_option linter.unusedVariables false
set_option linter.unusedSimpArgs false
set_option maxRecDepth 100000
/-- A text cut at a place. -/
theorem cut_pre {s : ByteArray} {k : Nat} (h : k ≤ s.size) {p : ByteArray} (hp : s.extract 0 k = p) : bts s = bts p ++ bts (s.extract k s.size) := by
  rw [← hp, extract_is s 0 k (Nat.zero_le _) h, extract_is s k s.size h (Nat.le_refl _)]
  show bts s = bts (str _) ++ bts (str _)
  rw [bts_str, bts_str, List.drop_zero, Nat.sub_zero, List.take_of_length_le (l := List.drop k s.data.toList) (by rw [List.length_drop, data_len]; exact Nat.le_refl _)]
  exact (List.take_append_drop k _).symm
theorem cut_one {s : ByteArray} {k : Nat} (h : k < s.size) : bts (s.extract k s.size) = s[k] :: bts (s.extract (k + 1) s.size) := by
  rw [extract_is s k s.size (by omega) (Nat.le_refl _), extract_is s (k + 1) s.size h (Nat.le_refl _)]
  show bts (str _) = _ :: bts (str _)
  rw [bts_str, bts_str, List.take_of_length_le (by rw [List.length_drop, data_len]; exact Nat.le_refl _), List.take_of_length_le (by rw [List.length_drop, data_len]; exact Nat.le_refl _), List.drop_eq_getElem_cons (by rw [data_len]; exact h)]
  rfl
theorem byte58 (c : UInt8) : ((c.toNat : Int) == 58) = decide (c = 58) := by
  rw [Bool.eq_iff_iff]
  simp only [beq_iff_eq, decide_eq_true_eq]
  refine ⟨fun e => ?_, fun e => by rw [e]; rfl⟩
  rw [← UInt8.toNat_inj]
  show c.toNat = 58
  omega
/-- A text with its first colon. -/
theorem colon_cut {s : ByteArray} {k : Nat} (h : k < s.size) (e : s[k] = 58) : bts s = bts (s.extract 0 k) ++ 58 :: bts (s.extract (k + 1) s.size) := by
  rw [cut_pre (Nat.le_of_lt h) rfl, cut_one h, e]
theorem before {s : ByteArray} {k : Nat} (hk : k ≤ s.size) (h : ∀ j (hj : j < s.size), j < k → s[j] ≠ 58) : ∀ c ∈ bts (s.extract 0 k), c ≠ 58 := by
  intro c hc
  rw [extract_is s 0 k (Nat.zero_le _) hk] at hc
  have hc2 : c ∈ (s.data.toList).take k := by
    have : bts ⟨((s.data.toList.drop 0).take (k - 0)).toArray⟩ = (s.data.toList).take k := by
      show bts (str _) = _
      rw [bts_str, List.drop_zero, Nat.sub_zero]
    rw [this] at hc
    exact hc
  obtain ⟨j, hj, rfl⟩ := List.getElem_of_mem hc2
  rw [List.length_take, data_len] at hj
  rw [List.getElem_take]
  exact h j (by omega) (by omega)
theorem made_po {w wf : World} (x : Fx.Origin) (b : Bool) (HB : Below w.heap.size w wf) : MadeLx x.dcs (fun vs => .tuple #[.agg vs.toArray, .bool b]) w (.returned (.tuple #[.agg #[.bool x.Secure, .string x.Host, .int .i64 x.Port], .bool b])) wf :=
  ⟨_, [], rfl, Origin.mkO, by simp, HB⟩
set_option maxHeartbeats 16000000 in
theorem specPo (w : World) (s : ByteArray) (hs : s.size ≤ 4294967296) : Calls Tryz.prog 34 #[.string s] w (MadeLx (poO (bts s)).dcs (fun vs => .tuple #[.agg vs.toArray, .bool (poB (bts s))]) w) := by
  obtain ⟨B, hB⟩ : ∃ B, B = poB (bts s) := ⟨_, rfl⟩
  obtain ⟨X, hX⟩ : ∃ X, X = poO (bts s) := ⟨_, rfl⟩
  rw [← hB, ← hX]
  have HQ := Lib.hid (And.intro hB hX)
  clear hB hX
  obtain ⟨w0, hw0⟩ : ∃ y, y = w.alloc (.cells #[.bool false, .string ⟨#[]⟩, .int .i64 0] 43) := ⟨_, rfl⟩
  have o_r := var_owns w 43 3 [.bool false, .string ⟨#[]⟩, .int .i64 0] rfl
  have s0 : w0.heap.size = w.heap.size + 1 := by rw [hw0]; simp
  have HB0 : Below w.heap.size w w0 := hw0 ▸ (Below.refl _ _).alloc (Nat.le_refl _) _
  rw [← hw0] at o_r
  by_cases hA : 8 < s.size ∧ s.extract 0 8 = ⟨#[104, 116, 116, 112, 115, 58, 47, 47]⟩
  · have hA1 : ((s.extract 0 8).toList == [104, 116, 116, 112, 115, 58, 47, 47]) = true := by rw [hA.2, toList_bts]; rfl
    have hA2 := hA.1
    obtain ⟨r, hr⟩ : ∃ r, r = s.extract 8 s.size := ⟨_, rfl⟩
    have hp : bts s = pre true ++ bts r := by rw [hr]; exact cut_pre (by omega) hA.2
    have HP := Lib.hid hp
    have hrs : r.size ≤ s.size := by rw [hr, ByteArray.size_extract]; omega
    clear hp
    obtain ⟨w1, hw1⟩ : ∃ y, y = w0.alloc (.cells #[.bool true, .string r, .int .i64 443] 43) := ⟨_, rfl⟩
    have o_o := var_owns w0 43 3 [.bool true, .string r, .int .i64 443] rfl
    rw [← hw1, s0] at o_o
    have b1 : Below w0.heap.size w0 w1 := hw1 ▸ (Below.refl _ _).alloc (Nat.le_refl _) _
    replace o_r := owns_below o_r b1
    have HB := HB0.trans (b1.mono HB0.size)
    clear b1 HB0
    clear hA
    go_enter Tryz.func34, Tryz.ntmps34
    go_wp2_with fail
    rw [← hr, ← hw0, ← hw1]
    clear hr hw0 hw1
    go_loop [6] (fun i => ∃ k : Nat, k ≤ r.size ∧ i = .int .i64 k ∧ ∀ j (hj : j < r.size), j < k → r[j] ≠ 58) (fun i => r.size - (intOf i).toNat)
    case atStart => exact ⟨0, by omega, rfl, fun _ _ h => by omega⟩
    case round =>
      obtain ⟨k, hk, rfl, hG⟩ := hrel
      have HG := Lib.hid hG
      clear hG
      by_cases hlt : k < r.size
      · by_cases hc : r[k] = 58
        · have hcb : ((r[k].toNat : Int) == 58) = true := by rw [byte58, hc]; rfl
          have hk1 : (r.extract (k + 1) r.size).size ≤ r.size := by rw [ByteArray.size_extract]; omega
          have hk0 : (r.extract 0 k).size ≤ r.size := by rw [ByteArray.size_extract]; omega
          have HC := Lib.hid (show bts s = pre true ++ (bts (r.extract 0 k) ++ 58 :: bts (r.extract (k + 1) r.size)) by rw [← colon_cut hlt hc]; exact HP.out)
          have HD := Lib.hid (before hk HG.out)
          clear hc HP HG
          rcases C1P.yes_or_no (r.extract (k + 1) r.size) with ⟨n, hY⟩ | hN
          · have HU := Lib.hid (show ∀ o : Fx.Origin, orgB o = true → fmtO o = bts s → o = ⟨true, r.extract 0 k, (n : Int)⟩ from fun o h1 h2 => by
              have h3 : bts s = pre true ++ (bts (r.extract 0 k) ++ 58 :: Lib.decDigits n) := by rw [HC.out, hY.2]; show pre true ++ (bts (r.extract 0 k) ++ 58 :: bts (str (Lib.decDigits n))) = _; rw [bts_str]
              rw [po_port h3 HD.out o h1 h2, str_bts])
            have HY := Lib.hid (fun wx : World => C1P.specYes (r.extract (k + 1) r.size) n hY wx)
            have hn : (n : Int) ≤ 1000000000000 := by have := hY.1; omega
            clear hY HC HD
            go_wp2_with fail
            (refine (HY.out _).mono ?_); rintro e w2 ⟨rfl, b2⟩
            replace o_o := owns_below o_o b2
            replace o_r := owns_below o_r b2
            replace HB := HB.trans (b2.mono HB.size)
            have o_oc0 : w2.cell? ⟨(w.heap.size + 1), 0, none⟩ = some (.bool true) := var_load o_o (by simp) 0 _ rfl
            have o_of0 : w2.frozen? ⟨(w.heap.size + 1), 0, none⟩ = false := var_frozen o_o (by simp) 0 _ rfl
            have o_oc1 : w2.cell? ⟨(w.heap.size + 1), 1, none⟩ = some (.string r) := var_load o_o (by simp) 1 _ rfl
            have o_of1 : w2.frozen? ⟨(w.heap.size + 1), 1, none⟩ = false := var_frozen o_o (by simp) 1 _ rfl
            have o_oc2 : w2.cell? ⟨(w.heap.size + 1), 2, none⟩ = some (.int .i64 443) := var_load o_o (by simp) 2 _ rfl
            have o_of2 : w2.frozen? ⟨(w.heap.size + 1), 2, none⟩ = false := var_frozen o_o (by simp) 2 _ rfl
            have o_ol := var_lt o_o
            go_wp2_with fail
            clear o_oc0 o_of0 o_oc1 o_of1 o_oc2 o_of2 o_ol
            obtain ⟨w3, hnew⟩ : ∃ y, y = w2.setCell ⟨(w.heap.size + 1), 1, none⟩ (.string (r.extract 0 k)) := ⟨_, rfl⟩
            obtain ⟨o_o2, t2⟩ := var_some [.string (r.extract 0 k)] 1 _ _ o_o (by simp)
            rw [show setAll w2 (w.heap.size + 1) 1 [.string (r.extract 0 k)] = w3 from hnew.symm] at o_o2 t2
            replace o_o : Owns w3 _ (varD 43 3 [.bool true, .string (r.extract 0 k), .int .i64 443]) _ _ := o_o2
            clear o_o2
            replace o_r := owns_turned o_r t2 (fun b hb hb2 => by simp at hb hb2; omega)
            replace HB := below_turned HB t2 (fun b hb => by simp at hb; omega)
            rw [← hnew]
            clear hnew t2
            obtain ⟨w4, hnew⟩ : ∃ y, y = w3.setCell ⟨(w.heap.size + 1), 2, none⟩ (.int .i64 (n : Int)) := ⟨_, rfl⟩
            obtain ⟨o_o2, t2⟩ := var_some [.int .i64 (n : Int)] 2 _ _ o_o (by simp)
            rw [show setAll w3 (w.heap.size + 1) 2 [.int .i64 (n : Int)] = w4 from hnew.symm] at o_o2 t2
            replace o_o : Owns w4 _ (varD 43 3 [.bool true, .string (r.extract 0 k), .int .i64 (n : Int)]) _ _ := o_o2
            clear o_o2
            replace o_r := owns_turned o_r t2 (fun b hb hb2 => by simp at hb hb2; omega)
            replace HB := below_turned HB t2 (fun b hb => by simp at hb; omega)
            rw [← hnew]
            clear hnew t2
            rcases po_c HU.out with ⟨k1, k2, k3, k4⟩ | ⟨k1, k3, k4⟩
            · obtain ⟨rfl, rfl⟩ : B = true ∧ X = (⟨true, (r.extract 0 k), (n : Int)⟩ : Fx.Origin) := ⟨HQ.out.1.trans k3, HQ.out.2.trans k4⟩
              clear k3 k4 HQ
              have HO := Lib.hid (fun wx : World => show Calls Tryz.prog 63 #[.agg #[.bool true, .string (r.extract 0 k), .int .i64 (n : Int)]] wx (Gives (.bool true) wx) from by have h9 := C9b.specOrg wx (⟨true, (r.extract 0 k), (n : Int)⟩ : Fx.Origin) _ Origin.mkR (show (r.extract 0 k).size ≤ 4294967296 by omega); rw [k1] at h9; exact h9)
              have HT := Lib.hid (fun wx : World => show Calls Tryz.prog 67 #[.agg #[.bool true, .string (r.extract 0 k), .int .i64 (n : Int)]] wx (Gives (.string s) wx) from by have h9 := C9b.specFmtO wx (⟨true, (r.extract 0 k), (n : Int)⟩ : Fx.Origin) _ Origin.mkR (show (r.extract 0 k).size ≤ 4294967296 by omega); rw [show str (fmtO (⟨true, (r.extract 0 k), (n : Int)⟩ : Fx.Origin)) = s by rw [k2, str_bts]] at h9; exact h9)
              clear k1 k2
              (refine (HO.out _).mono ?_); rintro e w7 ⟨rfl, b7⟩
              replace o_o := owns_below o_o b7
              replace o_r := owns_below o_r b7
              replace HB := HB.trans (b7.mono HB.size)
              have o_oc0 : w7.cell? ⟨(w.heap.size + 1), 0, none⟩ = some (.bool true) := var_load o_o (by simp) 0 _ rfl
              have o_of0 : w7.frozen? ⟨(w.heap.size + 1), 0, none⟩ = false := var_frozen o_o (by simp) 0 _ rfl
              have o_oc1 : w7.cell? ⟨(w.heap.size + 1), 1, none⟩ = some (.string (r.extract 0 k)) := var_load o_o (by simp) 1 _ rfl
              have o_of1 : w7.frozen? ⟨(w.heap.size + 1), 1, none⟩ = false := var_frozen o_o (by simp) 1 _ rfl
              have o_oc2 : w7.cell? ⟨(w.heap.size + 1), 2, none⟩ = some (.int .i64 (n : Int)) := var_load o_o (by simp) 2 _ rfl
              have o_of2 : w7.frozen? ⟨(w.heap.size + 1), 2, none⟩ = false := var_frozen o_o (by simp) 2 _ rfl
              have o_ol := var_lt o_o
              go_wp2_with fail
              (refine (HT.out _).mono ?_); rintro e w8 ⟨rfl, b8⟩
              clear o_oc0 o_of0 o_oc1 o_of1 o_oc2 o_of2 o_ol
              replace o_o := owns_below o_o b8
              replace o_r := owns_below o_r b8
              replace HB := HB.trans (b8.mono HB.size)
              have o_rc0 : w8.cell? ⟨w.heap.size, 0, none⟩ = some (.bool false) := var_load o_r (by simp) 0 _ rfl
              have o_rf0 : w8.frozen? ⟨w.heap.size, 0, none⟩ = false := var_frozen o_r (by simp) 0 _ rfl
              have o_rc1 : w8.cell? ⟨w.heap.size, 1, none⟩ = some (.string ⟨#[]⟩) := var_load o_r (by simp) 1 _ rfl
              have o_rf1 : w8.frozen? ⟨w.heap.size, 1, none⟩ = false := var_frozen o_r (by simp) 1 _ rfl
              have o_rc2 : w8.cell? ⟨w.heap.size, 2, none⟩ = some (.int .i64 0) := var_load o_r (by simp) 2 _ rfl
              have o_rf2 : w8.frozen? ⟨w.heap.size, 2, none⟩ = false := var_frozen o_r (by simp) 2 _ rfl
              have o_rl := var_lt o_r
              have o_oc0 : w8.cell? ⟨(w.heap.size + 1), 0, none⟩ = some (.bool true) := var_load o_o (by simp) 0 _ rfl
              have o_of0 : w8.frozen? ⟨(w.heap.size + 1), 0, none⟩ = false := var_frozen o_o (by simp) 0 _ rfl
              have o_oc1 : w8.cell? ⟨(w.heap.size + 1), 1, none⟩ = some (.string (r.extract 0 k)) := var_load o_o (by simp) 1 _ rfl
              have o_of1 : w8.frozen? ⟨(w.heap.size + 1), 1, none⟩ = false := var_frozen o_o (by simp) 1 _ rfl
              have o_oc2 : w8.cell? ⟨(w.heap.size + 1), 2, none⟩ = some (.int .i64 (n : Int)) := var_load o_o (by simp) 2 _ rfl
              have o_of2 : w8.frozen? ⟨(w.heap.size + 1), 2, none⟩ = false := var_frozen o_o (by simp) 2 _ rfl
              have o_ol := var_lt o_o
              go_wp2
              obtain ⟨wf, hf⟩ : ∃ y, y = (((w8.setCell ⟨w.heap.size, 0, none⟩ (.bool true)).setCell ⟨w.heap.size, 1, none⟩ (.string (r.extract 0 k))).setCell ⟨w.heap.size, 2, none⟩ (.int .i64 (n : Int))) := ⟨_, rfl⟩
              obtain ⟨o_r2, t2⟩ := var_some [.bool true, .string (r.extract 0 k), .int .i64 (n : Int)] 0 _ _ o_r (by simp)
              rw [show setAll w8 w.heap.size 0 [.bool true, .string (r.extract 0 k), .int .i64 (n : Int)] = wf from hf.symm] at o_r2 t2
              have HF := below_turned HB t2 (fun b hb => by simp at hb; omega)
              clear o_rc0 o_rf0 o_rc1 o_rf1 o_rc2 o_rf2 o_rl
              have o_r2c0 : wf.cell? ⟨w.heap.size, 0, none⟩ = some (.bool true) := var_load o_r2 (by simp) 0 _ rfl
              have o_r2c1 : wf.cell? ⟨w.heap.size, 1, none⟩ = some (.string (r.extract 0 k)) := var_load o_r2 (by simp) 1 _ rfl
              have o_r2c2 : wf.cell? ⟨w.heap.size, 2, none⟩ = some (.int .i64 (n : Int)) := var_load o_r2 (by simp) 2 _ rfl
              have o_r2l := var_lt o_r2
              rw [← hf]
              exact bodyPost_ret (v := .tuple #[.agg #[.bool true, .string (r.extract 0 k), .int .i64 (n : Int)], .bool true]) (by simp [results, Tryz.results34, go_sem, o_r2c0, o_r2c1, o_r2c2]) rfl (made_po ⟨true, (r.extract 0 k), (n : Int)⟩ true HF)
            · obtain ⟨rfl, rfl⟩ : B = false ∧ X = ⟨false, ⟨#[]⟩, 0⟩ := ⟨HQ.out.1.trans k3, HQ.out.2.trans k4⟩
              clear k3 k4 HQ
              cases k5 : orgB (⟨true, (r.extract 0 k), (n : Int)⟩ : Fx.Origin) with
              | false =>
                have HO := Lib.hid (fun wx : World => show Calls Tryz.prog 63 #[.agg #[.bool true, .string (r.extract 0 k), .int .i64 (n : Int)]] wx (Gives (.bool false) wx) from by have h9 := C9b.specOrg wx (⟨true, (r.extract 0 k), (n : Int)⟩ : Fx.Origin) _ Origin.mkR (show (r.extract 0 k).size ≤ 4294967296 by omega); rw [k5] at h9; exact h9)
                clear k1 k5
                (refine (HO.out _).mono ?_); rintro e w7 ⟨rfl, b7⟩
                replace o_o := owns_below o_o b7
                replace o_r := owns_below o_r b7
                replace HB := HB.trans (b7.mono HB.size)
                have o_rc0 : w7.cell? ⟨w.heap.size, 0, none⟩ = some (.bool false) := var_load o_r (by simp) 0 _ rfl
                have o_rf0 : w7.frozen? ⟨w.heap.size, 0, none⟩ = false := var_frozen o_r (by simp) 0 _ rfl
                have o_rc1 : w7.cell? ⟨w.heap.size, 1, none⟩ = some (.string ⟨#[]⟩) := var_load o_r (by simp) 1 _ rfl
                have o_rf1 : w7.frozen? ⟨w.heap.size, 1, none⟩ = false := var_frozen o_r (by simp) 1 _ rfl
                have o_rc2 : w7.cell? ⟨w.heap.size, 2, none⟩ = some (.int .i64 0) := var_load o_r (by simp) 2 _ rfl
                have o_rf2 : w7.frozen? ⟨w.heap.size, 2, none⟩ = false := var_frozen o_r (by simp) 2 _ rfl
                have o_rl := var_lt o_r
                go_wp2
                obtain ⟨wf, hf⟩ : ∃ y, y = (((w7.setCell ⟨w.heap.size, 0, none⟩ (.bool false)).setCell ⟨w.heap.size, 1, none⟩ (.string ⟨#[]⟩)).setCell ⟨w.heap.size, 2, none⟩ (.int .i64 0)) := ⟨_, rfl⟩
                obtain ⟨o_r2, t2⟩ := var_some [.bool false, .string ⟨#[]⟩, .int .i64 0] 0 _ _ o_r (by simp)
                rw [show setAll w7 w.heap.size 0 [.bool false, .string ⟨#[]⟩, .int .i64 0] = wf from hf.symm] at o_r2 t2
                have HF := below_turned HB t2 (fun b hb => by simp at hb; omega)
                clear o_rc0 o_rf0 o_rc1 o_rf1 o_rc2 o_rf2 o_rl
                have o_r2c0 : wf.cell? ⟨w.heap.size, 0, none⟩ = some (.bool false) := var_load o_r2 (by simp) 0 _ rfl
                have o_r2c1 : wf.cell? ⟨w.heap.size, 1, none⟩ = some (.string ⟨#[]⟩) := var_load o_r2 (by simp) 1 _ rfl
                have o_r2c2 : wf.cell? ⟨w.heap.size, 2, none⟩ = some (.int .i64 0) := var_load o_r2 (by simp) 2 _ rfl
                have o_r2l := var_lt o_r2
                rw [← hf]
                exact bodyPost_ret (v := .tuple #[.agg #[.bool false, .string ⟨#[]⟩, .int .i64 0], .bool false]) (by simp [results, Tryz.results34, go_sem, o_r2c0, o_r2c1, o_r2c2]) rfl (made_po ⟨false, ⟨#[]⟩, 0⟩ false HF)
              | true =>
                have HO := Lib.hid (fun wx : World => show Calls Tryz.prog 63 #[.agg #[.bool true, .string (r.extract 0 k), .int .i64 (n : Int)]] wx (Gives (.bool true) wx) from by have h9 := C9b.specOrg wx (⟨true, (r.extract 0 k), (n : Int)⟩ : Fx.Origin) _ Origin.mkR (show (r.extract 0 k).size ≤ 4294967296 by omega); rw [k5] at h9; exact h9)
                obtain ⟨t, ht⟩ : ∃ t, t = str (fmtO (⟨true, (r.extract 0 k), (n : Int)⟩ : Fx.Origin)) := ⟨_, rfl⟩
                have HT := Lib.hid (fun wx : World => show Calls Tryz.prog 67 #[.agg #[.bool true, .string (r.extract 0 k), .int .i64 (n : Int)]] wx (Gives (.string t) wx) from by have h9 := C9b.specFmtO wx (⟨true, (r.extract 0 k), (n : Int)⟩ : Fx.Origin) _ Origin.mkR (show (r.extract 0 k).size ≤ 4294967296 by omega); rw [← ht] at h9; exact h9)
                have hne : (t.toList == s.toList) = false := by
                  rcases k1 with k1 | k1
                  · rw [k5] at k1; cases k1
                  · rw [toList_bts, toList_bts, ht, bts_str]; simpa using k1
                clear k1 k5 ht
                (refine (HO.out _).mono ?_); rintro e w7 ⟨rfl, b7⟩
                replace o_o := owns_below o_o b7
                replace o_r := owns_below o_r b7
                replace HB := HB.trans (b7.mono HB.size)
                have o_oc0 : w7.cell? ⟨(w.heap.size + 1), 0, none⟩ = some (.bool true) := var_load o_o (by simp) 0 _ rfl
                have o_of0 : w7.frozen? ⟨(w.heap.size + 1), 0, none⟩ = false := var_frozen o_o (by simp) 0 _ rfl
                have o_oc1 : w7.cell? ⟨(w.heap.size + 1), 1, none⟩ = some (.string (r.extract 0 k)) := var_load o_o (by simp) 1 _ rfl
                have o_of1 : w7.frozen? ⟨(w.heap.size + 1), 1, none⟩ = false := var_frozen o_o (by simp) 1 _ rfl
                have o_oc2 : w7.cell? ⟨(w.heap.size + 1), 2, none⟩ = some (.int .i64 (n : Int)) := var_load o_o (by simp) 2 _ rfl
                have o_of2 : w7.frozen? ⟨(w.heap.size + 1), 2, none⟩ = false := var_frozen o_o (by simp) 2 _ rfl
                have o_ol := var_lt o_o
                go_wp2_with fail
                (refine (HT.out _).mono ?_); rintro e w8 ⟨rfl, b8⟩
                clear o_oc0 o_of0 o_oc1 o_of1 o_oc2 o_of2 o_ol
                replace o_o := owns_below o_o b8
                replace o_r := owns_below o_r b8
                replace HB := HB.trans (b8.mono HB.size)
                have o_rc0 : w8.cell? ⟨w.heap.size, 0, none⟩ = some (.bool false) := var_load o_r (by simp) 0 _ rfl
                have o_rf0 : w8.frozen? ⟨w.heap.size, 0, none⟩ = false := var_frozen o_r (by simp) 0 _ rfl
                have o_rc1 : w8.cell? ⟨w.heap.size, 1, none⟩ = some (.string ⟨#[]⟩) := var_load o_r (by simp) 1 _ rfl
                have o_rf1 : w8.frozen? ⟨w.heap.size, 1, none⟩ = false := var_frozen o_r (by simp) 1 _ rfl
                have o_rc2 : w8.cell? ⟨w.heap.size, 2, none⟩ = some (.int .i64 0) := var_load o_r (by simp) 2 _ rfl
                have o_rf2 : w8.frozen? ⟨w.heap.size, 2, none⟩ = false := var_frozen o_r (by simp) 2 _ rfl
                have o_rl := var_lt o_r
                go_wp2
                obtain ⟨wf, hf⟩ : ∃ y, y = (((w8.setCell ⟨w.heap.size, 0, none⟩ (.bool false)).setCell ⟨w.heap.size, 1, none⟩ (.string ⟨#[]⟩)).setCell ⟨w.heap.size, 2, none⟩ (.int .i64 0)) := ⟨_, rfl⟩
                obtain ⟨o_r2, t2⟩ := var_some [.bool false, .string ⟨#[]⟩, .int .i64 0] 0 _ _ o_r (by simp)
                rw [show setAll w8 w.heap.size 0 [.bool false, .string ⟨#[]⟩, .int .i64 0] = wf from hf.symm] at o_r2 t2
                have HF := below_turned HB t2 (fun b hb => by simp at hb; omega)
                clear o_rc0 o_rf0 o_rc1 o_rf1 o_rc2 o_rf2 o_rl
                have o_r2c0 : wf.cell? ⟨w.heap.size, 0, none⟩ = some (.bool false) := var_load o_r2 (by simp) 0 _ rfl
                have o_r2c1 : wf.cell? ⟨w.heap.size, 1, none⟩ = some (.string ⟨#[]⟩) := var_load o_r2 (by simp) 1 _ rfl
                have o_r2c2 : wf.cell? ⟨w.heap.size, 2, none⟩ = some (.int .i64 0) := var_load o_r2 (by simp) 2 _ rfl
                have o_r2l := var_lt o_r2
                rw [← hf]
                exact bodyPost_ret (v := .tuple #[.agg #[.bool false, .string ⟨#[]⟩, .int .i64 0], .bool false]) (by simp [results, Tryz.results34, go_sem, o_r2c0, o_r2c1, o_r2c2]) rfl (made_po ⟨false, ⟨#[]⟩, 0⟩ false HF)
          · obtain ⟨rfl, rfl⟩ : B = false ∧ X = ⟨false, ⟨#[]⟩, 0⟩ := by
              have h4 := po_f (po_noport HC.out HD.out (by rw [str_bts]; exact hN))
              exact ⟨HQ.out.1.trans h4.1, HQ.out.2.trans h4.2⟩
            have HY := Lib.hid (fun wx : World => C1P.specNo (r.extract (k + 1) r.size) hN wx (by omega))
            clear hN HC HD HQ
            go_wp2_with fail
            (refine (HY.out _).mono ?_); rintro e w2 ⟨rfl, b2⟩
            replace o_r := owns_below o_r b2
            replace HB := HB.trans (b2.mono HB.size)
            have o_rc0 : w2.cell? ⟨w.heap.size, 0, none⟩ = some (.bool false) := var_load o_r (by simp) 0 _ rfl
            have o_rf0 : w2.frozen? ⟨w.heap.size, 0, none⟩ = false := var_frozen o_r (by simp) 0 _ rfl
            have o_rc1 : w2.cell? ⟨w.heap.size, 1, none⟩ = some (.string ⟨#[]⟩) := var_load o_r (by simp) 1 _ rfl
            have o_rf1 : w2.frozen? ⟨w.heap.size, 1, none⟩ = false := var_frozen o_r (by simp) 1 _ rfl
            have o_rc2 : w2.cell? ⟨w.heap.size, 2, none⟩ = some (.int .i64 0) := var_load o_r (by simp) 2 _ rfl
            have o_rf2 : w2.frozen? ⟨w.heap.size, 2, none⟩ = false := var_frozen o_r (by simp) 2 _ rfl
            have o_rl := var_lt o_r
            go_wp2
            obtain ⟨wf, hf⟩ : ∃ y, y = (((w2.setCell ⟨w.heap.size, 0, none⟩ (.bool false)).setCell ⟨w.heap.size, 1, none⟩ (.string ⟨#[]⟩)).setCell ⟨w.heap.size, 2, none⟩ (.int .i64 0)) := ⟨_, rfl⟩
            obtain ⟨o_r2, t2⟩ := var_some [.bool false, .string ⟨#[]⟩, .int .i64 0] 0 _ _ o_r (by simp)
            rw [show setAll w2 w.heap.size 0 [.bool false, .string ⟨#[]⟩, .int .i64 0] = wf from hf.symm] at o_r2 t2
            have HF := below_turned HB t2 (fun b hb => by simp at hb; omega)
            clear o_rc0 o_rf0 o_rc1 o_rf1 o_rc2 o_rf2 o_rl
            have o_r2c0 : wf.cell? ⟨w.heap.size, 0, none⟩ = some (.bool false) := var_load o_r2 (by simp) 0 _ rfl
            have o_r2c1 : wf.cell? ⟨w.heap.size, 1, none⟩ = some (.string ⟨#[]⟩) := var_load o_r2 (by simp) 1 _ rfl
            have o_r2c2 : wf.cell? ⟨w.heap.size, 2, none⟩ = some (.int .i64 0) := var_load o_r2 (by simp) 2 _ rfl
            have o_r2l := var_lt o_r2
            rw [← hf]
            exact bodyPost_ret (v := .tuple #[.agg #[.bool false, .string ⟨#[]⟩, .int .i64 0], .bool false]) (by simp [results, Tryz.results34, go_sem, o_r2c0, o_r2c1, o_r2c2]) rfl (made_po ⟨false, ⟨#[]⟩, 0⟩ false HF)
        · have hcb : ((r[k].toNat : Int) == 58) = false := by rw [byte58]; simpa using hc
          go_wp2
          go_round
          case rel =>
            refine ⟨k + 1, by omega, by go_num, fun j hj hjk => ?_⟩
            by_cases h : j < k
            · exact HG.out j hj h
            · obtain rfl : j = k := by omega
              exact hc
          case measure => simp [intOf]; omega
      · obtain rfl : k = r.size := by omega
        have HU := Lib.hid (show ∀ o : Fx.Origin, orgB o = true → fmtO o = bts s → o = ⟨true, r, (443 : Int)⟩ from fun o h1 h2 => by
          have h3 := before (Nat.le_refl r.size) HG.out
          rw [show r.extract 0 r.size = r from ByteArray.extract_zero_size] at h3
          rw [po_plain HP.out h3 o h1 h2, str_bts]; rfl)
        clear HG HP
        have o_oc0 : w1.cell? ⟨(w.heap.size + 1), 0, none⟩ = some (.bool true) := var_load o_o (by simp) 0 _ rfl
        have o_of0 : w1.frozen? ⟨(w.heap.size + 1), 0, none⟩ = false := var_frozen o_o (by simp) 0 _ rfl
        have o_oc1 : w1.cell? ⟨(w.heap.size + 1), 1, none⟩ = some (.string r) := var_load o_o (by simp) 1 _ rfl
        have o_of1 : w1.frozen? ⟨(w.heap.size + 1), 1, none⟩ = false := var_frozen o_o (by simp) 1 _ rfl
        have o_oc2 : w1.cell? ⟨(w.heap.size + 1), 2, none⟩ = some (.int .i64 443) := var_load o_o (by simp) 2 _ rfl
        have o_of2 : w1.frozen? ⟨(w.heap.size + 1), 2, none⟩ = false := var_frozen o_o (by simp) 2 _ rfl
        have o_ol := var_lt o_o
        go_wp2_with fail
        clear o_oc0 o_of0 o_oc1 o_of1 o_oc2 o_of2 o_ol
        rcases po_c HU.out with ⟨k1, k2, k3, k4⟩ | ⟨k1, k3, k4⟩
        · obtain ⟨rfl, rfl⟩ : B = true ∧ X = (⟨true, r, 443⟩ : Fx.Origin) := ⟨HQ.out.1.trans k3, HQ.out.2.trans k4⟩
          clear k3 k4 HQ
          have HO := Lib.hid (fun wx : World => show Calls Tryz.prog 63 #[.agg #[.bool true, .string r, .int .i64 443]] wx (Gives (.bool true) wx) from by have h9 := C9b.specOrg wx (⟨true, r, 443⟩ : Fx.Origin) _ Origin.mkR (show r.size ≤ 4294967296 by omega); rw [k1] at h9; exact h9)
          have HT := Lib.hid (fun wx : World => show Calls Tryz.prog 67 #[.agg #[.bool true, .string r, .int .i64 443]] wx (Gives (.string s) wx) from by have h9 := C9b.specFmtO wx (⟨true, r, 443⟩ : Fx.Origin) _ Origin.mkR (show r.size ≤ 4294967296 by omega); rw [show str (fmtO (⟨true, r, 443⟩ : Fx.Origin)) = s by rw [k2, str_bts]] at h9; exact h9)
          clear k1 k2
          (refine (HO.out _).mono ?_); rintro e w7 ⟨rfl, b7⟩
          replace o_o := owns_below o_o b7
          replace o_r := owns_below o_r b7
          replace HB := HB.trans (b7.mono HB.size)
          have o_oc0 : w7.cell? ⟨(w.heap.size + 1), 0, none⟩ = some (.bool true) := var_load o_o (by simp) 0 _ rfl
          have o_of0 : w7.frozen? ⟨(w.heap.size + 1), 0, none⟩ = false := var_frozen o_o (by simp) 0 _ rfl
          have o_oc1 : w7.cell? ⟨(w.heap.size + 1), 1, none⟩ = some (.string r) := var_load o_o (by simp) 1 _ rfl
          have o_of1 : w7.frozen? ⟨(w.heap.size + 1), 1, none⟩ = false := var_frozen o_o (by simp) 1 _ rfl
          have o_oc2 : w7.cell? ⟨(w.heap.size + 1), 2, none⟩ = some (.int .i64 443) := var_load o_o (by simp) 2 _ rfl
          have o_of2 : w7.frozen? ⟨(w.heap.size + 1), 2, none⟩ = false := var_frozen o_o (by simp) 2 _ rfl
          have o_ol := var_lt o_o
          go_wp2_with fail
          (refine (HT.out _).mono ?_); rintro e w8 ⟨rfl, b8⟩
          clear o_oc0 o_of0 o_oc1 o_of1 o_oc2 o_of2 o_ol
          replace o_o := owns_below o_o b8
          replace o_r := owns_below o_r b8
          replace HB := HB.trans (b8.mono HB.size)
          have o_rc0 : w8.cell? ⟨w.heap.size, 0, none⟩ = some (.bool false) := var_load o_r (by simp) 0 _ rfl
          have o_rf0 : w8.frozen? ⟨w.heap.size, 0, none⟩ = false := var_frozen o_r (by simp) 0 _ rfl
          have o_rc1 : w8.cell? ⟨w.heap.size, 1, none⟩ = some (.string ⟨#[]⟩) := var_load o_r (by simp) 1 _ rfl
          have o_rf1 : w8.frozen? ⟨w.heap.size, 1, none⟩ = false := var_frozen o_r (by simp) 1 _ rfl
          have o_rc2 : w8.cell? ⟨w.heap.size, 2, none⟩ = some (.int .i64 0) := var_load o_r (by simp) 2 _ rfl
          have o_rf2 : w8.frozen? ⟨w.heap.size, 2, none⟩ = false := var_frozen o_r (by simp) 2 _ rfl
          have o_rl := var_lt o_r
          have o_oc0 : w8.cell? ⟨(w.heap.size + 1), 0, none⟩ = some (.bool true) := var_load o_o (by simp) 0 _ rfl
          have o_of0 : w8.frozen? ⟨(w.heap.size + 1), 0, none⟩ = false := var_frozen o_o (by simp) 0 _ rfl
          have o_oc1 : w8.cell? ⟨(w.heap.size + 1), 1, none⟩ = some (.string r) := var_load o_o (by simp) 1 _ rfl
          have o_of1 : w8.frozen? ⟨(w.heap.size + 1), 1, none⟩ = false := var_frozen o_o (by simp) 1 _ rfl
          have o_oc2 : w8.cell? ⟨(w.heap.size + 1), 2, none⟩ = some (.int .i64 443) := var_load o_o (by simp) 2 _ rfl
          have o_of2 : w8.frozen? ⟨(w.heap.size + 1), 2, none⟩ = false := var_frozen o_o (by simp) 2 _ rfl
          have o_ol := var_lt o_o
          go_wp2
          obtain ⟨wf, hf⟩ : ∃ y, y = (((w8.setCell ⟨w.heap.size, 0, none⟩ (.bool true)).setCell ⟨w.heap.size, 1, none⟩ (.string r)).setCell ⟨w.heap.size, 2, none⟩ (.int .i64 443)) := ⟨_, rfl⟩
          obtain ⟨o_r2, t2⟩ := var_some [.bool true, .string r, .int .i64 443] 0 _ _ o_r (by simp)
          rw [show setAll w8 w.heap.size 0 [.bool true, .string r, .int .i64 443] = wf from hf.symm] at o_r2 t2
          have HF := below_turned HB t2 (fun b hb => by simp at hb; omega)
          clear o_rc0 o_rf0 o_rc1 o_rf1 o_rc2 o_rf2 o_rl
          have o_r2c0 : wf.cell? ⟨w.heap.size, 0, none⟩ = some (.bool true) := var_load o_r2 (by simp) 0 _ rfl
          have o_r2c1 : wf.cell? ⟨w.heap.size, 1, none⟩ = some (.string r) := var_load o_r2 (by simp) 1 _ rfl
          have o_r2c2 : wf.cell? ⟨w.heap.size, 2, none⟩ = some (.int .i64 443) := var_load o_r2 (by simp) 2 _ rfl
          have o_r2l := var_lt o_r2
          rw [← hf]
          exact bodyPost_ret (v := .tuple #[.agg #[.bool true, .string r, .int .i64 443], .bool true]) (by simp [results, Tryz.results34, go_sem, o_r2c0, o_r2c1, o_r2c2]) rfl (made_po ⟨true, r, 443⟩ true HF)
        · obtain ⟨rfl, rfl⟩ : B = false ∧ X = ⟨false, ⟨#[]⟩, 0⟩ := ⟨HQ.out.1.trans k3, HQ.out.2.trans k4⟩
          clear k3 k4 HQ
          cases k5 : orgB (⟨true, r, 443⟩ : Fx.Origin) with
          | false =>
            have HO := Lib.hid (fun wx : World => show Calls Tryz.prog 63 #[.agg #[.bool true, .string r, .int .i64 443]] wx (Gives (.bool false) wx) from by have h9 := C9b.specOrg wx (⟨true, r, 443⟩ : Fx.Origin) _ Origin.mkR (show r.size ≤ 4294967296 by omega); rw [k5] at h9; exact h9)
            clear k1 k5
            (refine (HO.out _).mono ?_); rintro e w7 ⟨rfl, b7⟩
            replace o_o := owns_below o_o b7
            replace o_r := owns_below o_r b7
            replace HB := HB.trans (b7.mono HB.size)
            have o_rc0 : w7.cell? ⟨w.heap.size, 0, none⟩ = some (.bool false) := var_load o_r (by simp) 0 _ rfl
            have o_rf0 : w7.frozen? ⟨w.heap.size, 0, none⟩ = false := var_frozen o_r (by simp) 0 _ rfl
            have o_rc1 : w7.cell? ⟨w.heap.size, 1, none⟩ = some (.string ⟨#[]⟩) := var_load o_r (by simp) 1 _ rfl
            have o_rf1 : w7.frozen? ⟨w.heap.size, 1, none⟩ = false := var_frozen o_r (by simp) 1 _ rfl
            have o_rc2 : w7.cell? ⟨w.heap.size, 2, none⟩ = some (.int .i64 0) := var_load o_r (by simp) 2 _ rfl
            have o_rf2 : w7.frozen? ⟨w.heap.size, 2, none⟩ = false := var_frozen o_r (by simp) 2 _ rfl
            have o_rl := var_lt o_r
            go_wp2
            obtain ⟨wf, hf⟩ : ∃ y, y = (((w7.setCell ⟨w.heap.size, 0, none⟩ (.bool false)).setCell ⟨w.heap.size, 1, none⟩ (.string ⟨#[]⟩)).setCell ⟨w.heap.size, 2, none⟩ (.int .i64 0)) := ⟨_, rfl⟩
            obtain ⟨o_r2, t2⟩ := var_some [.bool false, .string ⟨#[]⟩, .int .i64 0] 0 _ _ o_r (by simp)
            rw [show setAll w7 w.heap.size 0 [.bool false, .string ⟨#[]⟩, .int .i64 0] = wf from hf.symm] at o_r2 t2
            have HF := below_turned HB t2 (fun b hb => by simp at hb; omega)
            clear o_rc0 o_rf0 o_rc1 o_rf1 o_rc2 o_rf2 o_rl
            have o_r2c0 : wf.cell? ⟨w.heap.size, 0, none⟩ = some (.bool false) := var_load o_r2 (by simp) 0 _ rfl
            have o_r2c1 : wf.cell? ⟨w.heap.size, 1, none⟩ = some (.string ⟨#[]⟩) := var_load o_r2 (by simp) 1 _ rfl
            have o_r2c2 : wf.cell? ⟨w.heap.size, 2, none⟩ = some (.int .i64 0) := var_load o_r2 (by simp) 2 _ rfl
            have o_r2l := var_lt o_r2
            rw [← hf]
            exact bodyPost_ret (v := .tuple #[.agg #[.bool false, .string ⟨#[]⟩, .int .i64 0], .bool false]) (by simp [results, Tryz.results34, go_sem, o_r2c0, o_r2c1, o_r2c2]) rfl (made_po ⟨false, ⟨#[]⟩, 0⟩ false HF)
          | true =>
            have HO := Lib.hid (fun wx : World => show Calls Tryz.prog 63 #[.agg #[.bool true, .string r, .int .i64 443]] wx (Gives (.bool true) wx) from by have h9 := C9b.specOrg wx (⟨true, r, 443⟩ : Fx.Origin) _ Origin.mkR (show r.size ≤ 4294967296 by omega); rw [k5] at h9; exact h9)
            obtain ⟨t, ht⟩ : ∃ t, t = str (fmtO (⟨true, r, 443⟩ : Fx.Origin)) := ⟨_, rfl⟩
            have HT := Lib.hid (fun wx : World => show Calls Tryz.prog 67 #[.agg #[.bool true, .string r, .int .i64 443]] wx (Gives (.string t) wx) from by have h9 := C9b.specFmtO wx (⟨true, r, 443⟩ : Fx.Origin) _ Origin.mkR (show r.size ≤ 4294967296 by omega); rw [← ht] at h9; exact h9)
            have hne : (t.toList == s.toList) = false := by
              rcases k1 with k1 | k1
              · rw [k5] at k1; cases k1
              · rw [toList_bts, toList_bts, ht, bts_str]; simpa using k1
            clear k1 k5 ht
            (refine (HO.out _).mono ?_); rintro e w7 ⟨rfl, b7⟩
            replace o_o := owns_below o_o b7
            replace o_r := owns_below o_r b7
            replace HB := HB.trans (b7.mono HB.size)
            have o_oc0 : w7.cell? ⟨(w.heap.size + 1), 0, none⟩ = some (.bool true) := var_load o_o (by simp) 0 _ rfl
            have o_of0 : w7.frozen? ⟨(w.heap.size + 1), 0, none⟩ = false := var_frozen o_o (by simp) 0 _ rfl
            have o_oc1 : w7.cell? ⟨(w.heap.size + 1), 1, none⟩ = some (.string r) := var_load o_o (by simp) 1 _ rfl
            have o_of1 : w7.frozen? ⟨(w.heap.size + 1), 1, none⟩ = false := var_frozen o_o (by simp) 1 _ rfl
            have o_oc2 : w7.cell? ⟨(w.heap.size + 1), 2, none⟩ = some (.int .i64 443) := var_load o_o (by simp) 2 _ rfl
            have o_of2 : w7.frozen? ⟨(w.heap.size + 1), 2, none⟩ = false := var_frozen o_o (by simp) 2 _ rfl
            have o_ol := var_lt o_o
            go_wp2_with fail
            (refine (HT.out _).mono ?_); rintro e w8 ⟨rfl, b8⟩
            clear o_oc0 o_of0 o_oc1 o_of1 o_oc2 o_of2 o_ol
            replace o_o := owns_below o_o b8
            replace o_r := owns_below o_r b8
            replace HB := HB.trans (b8.mono HB.size)
            have o_rc0 : w8.cell? ⟨w.heap.size, 0, none⟩ = some (.bool false) := var_load o_r (by simp) 0 _ rfl
            have o_rf0 : w8.frozen? ⟨w.heap.size, 0, none⟩ = false := var_frozen o_r (by simp) 0 _ rfl
            have o_rc1 : w8.cell? ⟨w.heap.size, 1, none⟩ = some (.string ⟨#[]⟩) := var_load o_r (by simp) 1 _ rfl
            have o_rf1 : w8.frozen? ⟨w.heap.size, 1, none⟩ = false := var_frozen o_r (by simp) 1 _ rfl
            have o_rc2 : w8.cell? ⟨w.heap.size, 2, none⟩ = some (.int .i64 0) := var_load o_r (by simp) 2 _ rfl
            have o_rf2 : w8.frozen? ⟨w.heap.size, 2, none⟩ = false := var_frozen o_r (by simp) 2 _ rfl
            have o_rl := var_lt o_r
            go_wp2
            obtain ⟨wf, hf⟩ : ∃ y, y = (((w8.setCell ⟨w.heap.size, 0, none⟩ (.bool false)).setCell ⟨w.heap.size, 1, none⟩ (.string ⟨#[]⟩)).setCell ⟨w.heap.size, 2, none⟩ (.int .i64 0)) := ⟨_, rfl⟩
            obtain ⟨o_r2, t2⟩ := var_some [.bool false, .string ⟨#[]⟩, .int .i64 0] 0 _ _ o_r (by simp)
            rw [show setAll w8 w.heap.size 0 [.bool false, .string ⟨#[]⟩, .int .i64 0] = wf from hf.symm] at o_r2 t2
            have HF := below_turned HB t2 (fun b hb => by simp at hb; omega)
            clear o_rc0 o_rf0 o_rc1 o_rf1 o_rc2 o_rf2 o_rl
            have o_r2c0 : wf.cell? ⟨w.heap.size, 0, none⟩ = some (.bool false) := var_load o_r2 (by simp) 0 _ rfl
            have o_r2c1 : wf.cell? ⟨w.heap.size, 1, none⟩ = some (.string ⟨#[]⟩) := var_load o_r2 (by simp) 1 _ rfl
            have o_r2c2 : wf.cell? ⟨w.heap.size, 2, none⟩ = some (.int .i64 0) := var_load o_r2 (by simp) 2 _ rfl
            have o_r2l := var_lt o_r2
            rw [← hf]
            exact bodyPost_ret (v := .tuple #[.agg #[.bool false, .string ⟨#[]⟩, .int .i64 0], .bool false]) (by simp [results, Tryz.results34, go_sem, o_r2c0, o_r2c1, o_r2c2]) rfl (made_po ⟨false, ⟨#[]⟩, 0⟩ false HF)
  · by_cases hZ : 7 < s.size ∧ s.extract 0 7 = ⟨#[104, 116, 116, 112, 58, 47, 47]⟩
    · have hB1 : ((s.extract 0 7).toList == [104, 116, 116, 112, 58, 47, 47]) = true := by rw [hZ.2, toList_bts]; rfl
      have hA2 := hZ.1
      obtain ⟨r, hr⟩ : ∃ r, r = s.extract 7 s.size := ⟨_, rfl⟩
      have hp : bts s = pre false ++ bts r := by rw [hr]; exact cut_pre (by omega) hZ.2
      have HP := Lib.hid hp
      have hrs : r.size ≤ s.size := by rw [hr, ByteArray.size_extract]; omega
      clear hp
      obtain ⟨w1, hw1⟩ : ∃ y, y = w0.alloc (.cells #[.bool false, .string r, .int .i64 80] 43) := ⟨_, rfl⟩
      have o_o := var_owns w0 43 3 [.bool false, .string r, .int .i64 80] rfl
      rw [← hw1, s0] at o_o
      have b1 : Below w0.heap.size w0 w1 := hw1 ▸ (Below.refl _ _).alloc (Nat.le_refl _) _
      replace o_r := owns_below o_r b1
      have HB := HB0.trans (b1.mono HB0.size)
      clear b1 HB0
      clear hZ
      by_cases h8 : 8 < s.size
      · have hA1 : ((s.extract 0 8).toList == [104, 116, 116, 112, 115, 58, 47, 47]) = false := by rw [beq_eq_false_iff_ne]; intro e; exact hA ⟨h8, bts_inj (by rw [← toList_bts, e]; rfl)⟩
        clear hA
        go_enter Tryz.func34, Tryz.ntmps34
        go_wp2_with fail
        rw [← hr, ← hw0, ← hw1]
        clear hr hw0 hw1
        go_loop [6] (fun i => ∃ k : Nat, k ≤ r.size ∧ i = .int .i64 k ∧ ∀ j (hj : j < r.size), j < k → r[j] ≠ 58) (fun i => r.size - (intOf i).toNat)
        case atStart => exact ⟨0, by omega, rfl, fun _ _ h => by omega⟩
        case round =>
          obtain ⟨k, hk, rfl, hG⟩ := hrel
          have HG := Lib.hid hG
          clear hG
          by_cases hlt : k < r.size
          · by_cases hc : r[k] = 58
            · have hcb : ((r[k].toNat : Int) == 58) = true := by rw [byte58, hc]; rfl
              have hk1 : (r.extract (k + 1) r.size).size ≤ r.size := by rw [ByteArray.size_extract]; omega
              have hk0 : (r.extract 0 k).size ≤ r.size := by rw [ByteArray.size_extract]; omega
              have HC := Lib.hid (show bts s = pre false ++ (bts (r.extract 0 k) ++ 58 :: bts (r.extract (k + 1) r.size)) by rw [← colon_cut hlt hc]; exact HP.out)
              have HD := Lib.hid (before hk HG.out)
              clear hc HP HG
              rcases C1P.yes_or_no (r.extract (k + 1) r.size) with ⟨n, hY⟩ | hN
              · have HU := Lib.hid (show ∀ o : Fx.Origin, orgB o = true → fmtO o = bts s → o = ⟨false, r.extract 0 k, (n : Int)⟩ from fun o h1 h2 => by
                  have h3 : bts s = pre false ++ (bts (r.extract 0 k) ++ 58 :: Lib.decDigits n) := by rw [HC.out, hY.2]; show pre false ++ (bts (r.extract 0 k) ++ 58 :: bts (str (Lib.decDigits n))) = _; rw [bts_str]
                  rw [po_port h3 HD.out o h1 h2, str_bts])
                have HY := Lib.hid (fun wx : World => C1P.specYes (r.extract (k + 1) r.size) n hY wx)
                have hn : (n : Int) ≤ 1000000000000 := by have := hY.1; omega
                clear hY HC HD
                go_wp2_with fail
                (refine (HY.out _).mono ?_); rintro e w2 ⟨rfl, b2⟩
                replace o_o := owns_below o_o b2
                replace o_r := owns_below o_r b2
                replace HB := HB.trans (b2.mono HB.size)
                have o_oc0 : w2.cell? ⟨(w.heap.size + 1), 0, none⟩ = some (.bool false) := var_load o_o (by simp) 0 _ rfl
                have o_of0 : w2.frozen? ⟨(w.heap.size + 1), 0, none⟩ = false := var_frozen o_o (by simp) 0 _ rfl
                have o_oc1 : w2.cell? ⟨(w.heap.size + 1), 1, none⟩ = some (.string r) := var_load o_o (by simp) 1 _ rfl
                have o_of1 : w2.frozen? ⟨(w.heap.size + 1), 1, none⟩ = false := var_frozen o_o (by simp) 1 _ rfl
                have o_oc2 : w2.cell? ⟨(w.heap.size + 1), 2, none⟩ = some (.int .i64 80) := var_load o_o (by simp) 2 _ rfl
                have o_of2 : w2.frozen? ⟨(w.heap.size + 1), 2, none⟩ = false := var_frozen o_o (by simp) 2 _ rfl
                have o_ol := var_lt o_o
                go_wp2_with fail
                clear o_oc0 o_of0 o_oc1 o_of1 o_oc2 o_of2 o_ol
                obtain ⟨w3, hnew⟩ : ∃ y, y = w2.setCell ⟨(w.heap.size + 1), 1, none⟩ (.string (r.extract 0 k)) := ⟨_, rfl⟩
                obtain ⟨o_o2, t2⟩ := var_some [.string (r.extract 0 k)] 1 _ _ o_o (by simp)
                rw [show setAll w2 (w.heap.size + 1) 1 [.string (r.extract 0 k)] = w3 from hnew.symm] at o_o2 t2
                replace o_o : Owns w3 _ (varD 43 3 [.bool false, .string (r.extract 0 k), .int .i64 80]) _ _ := o_o2
                clear o_o2
                replace o_r := owns_turned o_r t2 (fun b hb hb2 => by simp at hb hb2; omega)
                replace HB := below_turned HB t2 (fun b hb => by simp at hb; omega)
                rw [← hnew]
                clear hnew t2
                obtain ⟨w4, hnew⟩ : ∃ y, y = w3.setCell ⟨(w.heap.size + 1), 2, none⟩ (.int .i64 (n : Int)) := ⟨_, rfl⟩
                obtain ⟨o_o2, t2⟩ := var_some [.int .i64 (n : Int)] 2 _ _ o_o (by simp)
                rw [show setAll w3 (w.heap.size + 1) 2 [.int .i64 (n : Int)] = w4 from hnew.symm] at o_o2 t2
                replace o_o : Owns w4 _ (varD 43 3 [.bool false, .string (r.extract 0 k), .int .i64 (n : Int)]) _ _ := o_o2
                clear o_o2
                replace o_r := owns_turned o_r t2 (fun b hb hb2 => by simp at hb hb2; omega)
                replace HB := below_turned HB t2 (fun b hb => by simp at hb; omega)
                rw [← hnew]
                clear hnew t2
                rcases po_c HU.out with ⟨k1, k2, k3, k4⟩ | ⟨k1, k3, k4⟩
                · obtain ⟨rfl, rfl⟩ : B = true ∧ X = (⟨false, (r.extract 0 k), (n : Int)⟩ : Fx.Origin) := ⟨HQ.out.1.trans k3, HQ.out.2.trans k4⟩
                  clear k3 k4 HQ
                  have HO := Lib.hid (fun wx : World => show Calls Tryz.prog 63 #[.agg #[.bool false, .string (r.extract 0 k), .int .i64 (n : Int)]] wx (Gives (.bool true) wx) from by have h9 := C9b.specOrg wx (⟨false, (r.extract 0 k), (n : Int)⟩ : Fx.Origin) _ Origin.mkR (show (r.extract 0 k).size ≤ 4294967296 by omega); rw [k1] at h9; exact h9)
                  have HT := Lib.hid (fun wx : World => show Calls Tryz.prog 67 #[.agg #[.bool false, .string (r.extract 0 k), .int .i64 (n : Int)]] wx (Gives (.string s) wx) from by have h9 := C9b.specFmtO wx (⟨false, (r.extract 0 k), (n : Int)⟩ : Fx.Origin) _ Origin.mkR (show (r.extract 0 k).size ≤ 4294967296 by omega); rw [show str (fmtO (⟨false, (r.extract 0 k), (n : Int)⟩ : Fx.Origin)) = s by rw [k2, str_bts]] at h9; exact h9)
                  clear k1 k2
                  (refine (HO.out _).mono ?_); rintro e w7 ⟨rfl, b7⟩
                  replace o_o := owns_below o_o b7
                  replace o_r := owns_below o_r b7
                  replace HB := HB.trans (b7.mono HB.size)
                  have o_oc0 : w7.cell? ⟨(w.heap.size + 1), 0, none⟩ = some (.bool false) := var_load o_o (by simp) 0 _ rfl
                  have o_of0 : w7.frozen? ⟨(w.heap.size + 1), 0, none⟩ = false := var_frozen o_o (by simp) 0 _ rfl
                  have o_oc1 : w7.cell? ⟨(w.heap.size + 1), 1, none⟩ = some (.string (r.extract 0 k)) := var_load o_o (by simp) 1 _ rfl
                  have o_of1 : w7.frozen? ⟨(w.heap.size + 1), 1, none⟩ = false := var_frozen o_o (by simp) 1 _ rfl
                  have o_oc2 : w7.cell? ⟨(w.heap.size + 1), 2, none⟩ = some (.int .i64 (n : Int)) := var_load o_o (by simp) 2 _ rfl
                  have o_of2 : w7.frozen? ⟨(w.heap.size + 1), 2, none⟩ = false := var_frozen o_o (by simp) 2 _ rfl
                  have o_ol := var_lt o_o
                  go_wp2_with fail
                  (refine (HT.out _).mono ?_); rintro e w8 ⟨rfl, b8⟩
                  clear o_oc0 o_of0 o_oc1 o_of1 o_oc2 o_of2 o_ol
                  replace o_o := owns_below o_o b8
                  replace o_r := owns_below o_r b8
                  replace HB := HB.trans (b8.mono HB.size)
                  have o_rc0 : w8.cell? ⟨w.heap.size, 0, none⟩ = some (.bool false) := var_load o_r (by simp) 0 _ rfl
                  have o_rf0 : w8.frozen? ⟨w.heap.size, 0, none⟩ = false := var_frozen o_r (by simp) 0 _ rfl
                  have o_rc1 : w8.cell? ⟨w.heap.size, 1, none⟩ = some (.string ⟨#[]⟩) := var_load o_r (by simp) 1 _ rfl
                  have o_rf1 : w8.frozen? ⟨w.heap.size, 1, none⟩ = false := var_frozen o_r (by simp) 1 _ rfl
                  have o_rc2 : w8.cell? ⟨w.heap.size, 2, none⟩ = some (.int .i64 0) := var_load o_r (by simp) 2 _ rfl
                  have o_rf2 : w8.frozen? ⟨w.heap.size, 2, none⟩ = false := var_frozen o_r (by simp) 2 _ rfl
                  have o_rl := var_lt o_r
                  have o_oc0 : w8.cell? ⟨(w.heap.size + 1), 0, none⟩ = some (.bool false) := var_load o_o (by simp) 0 _ rfl
                  have o_of0 : w8.frozen? ⟨(w.heap.size + 1), 0, none⟩ = false := var_frozen o_o (by simp) 0 _ rfl
                  have o_oc1 : w8.cell? ⟨(w.heap.size + 1), 1, none⟩ = some (.string (r.extract 0 k)) := var_load o_o (by simp) 1 _ rfl
                  have o_of1 : w8.frozen? ⟨(w.heap.size + 1), 1, none⟩ = false := var_frozen o_o (by simp) 1 _ rfl
                  have o_oc2 : w8.cell? ⟨(w.heap.size + 1), 2, none⟩ = some (.int .i64 (n : Int)) := var_load o_o (by simp) 2 _ rfl
                  have o_of2 : w8.frozen? ⟨(w.heap.size + 1), 2, none⟩ = false := var_frozen o_o (by simp) 2 _ rfl
                  have o_ol := var_lt o_o
                  go_wp2
                  obtain ⟨wf, hf⟩ : ∃ y, y = (((w8.setCell ⟨w.heap.size, 0, none⟩ (.bool false)).setCell ⟨w.heap.size, 1, none⟩ (.string (r.extract 0 k))).setCell ⟨w.heap.size, 2, none⟩ (.int .i64 (n : Int))) := ⟨_, rfl⟩
                  obtain ⟨o_r2, t2⟩ := var_some [.bool false, .string (r.extract 0 k), .int .i64 (n : Int)] 0 _ _ o_r (by simp)
                  rw [show setAll w8 w.heap.size 0 [.bool false, .string (r.extract 0 k), .int .i64 (n : Int)] = wf from hf.symm] at o_r2 t2
                  have HF := below_turned HB t2 (fun b hb => by simp at hb; omega)
                  clear o_rc0 o_rf0 o_rc1 o_rf1 o_rc2 o_rf2 o_rl
                  have o_r2c0 : wf.cell? ⟨w.heap.size, 0, none⟩ = some (.bool false) := var_load o_r2 (by simp) 0 _ rfl
                  have o_r2c1 : wf.cell? ⟨w.heap.size, 1, none⟩ = some (.string (r.extract 0 k)) := var_load o_r2 (by simp) 1 _ rfl
                  have o_r2c2 : wf.cell? ⟨w.heap.size, 2, none⟩ = some (.int .i64 (n : Int)) := var_load o_r2 (by simp) 2 _ rfl
                  have o_r2l := var_lt o_r2
                  rw [← hf]
                  exact bodyPost_ret (v := .tuple #[.agg #[.bool false, .string (r.extract 0 k), .int .i64 (n : Int)], .bool true]) (by simp [results, Tryz.results34, go_sem, o_r2c0, o_r2c1, o_r2c2]) rfl (made_po ⟨false, (r.extract 0 k), (n : Int)⟩ true HF)
                · obtain ⟨rfl, rfl⟩ : B = false ∧ X = ⟨false, ⟨#[]⟩, 0⟩ := ⟨HQ.out.1.trans k3, HQ.out.2.trans k4⟩
                  clear k3 k4 HQ
                  cases k5 : orgB (⟨false, (r.extract 0 k), (n : Int)⟩ : Fx.Origin) with
                  | false =>
                    have HO := Lib.hid (fun wx : World => show Calls Tryz.prog 63 #[.agg #[.bool false, .string (r.extract 0 k), .int .i64 (n : Int)]] wx (Gives (.bool false) wx) from by have h9 := C9b.specOrg wx (⟨false, (r.extract 0 k), (n : Int)⟩ : Fx.Origin) _ Origin.mkR (show (r.extract 0 k).size ≤ 4294967296 by omega); rw [k5] at h9; exact h9)
                    clear k1 k5
                    (refine (HO.out _).mono ?_); rintro e w7 ⟨rfl, b7⟩
                    replace o_o := owns_below o_o b7
                    replace o_r := owns_below o_r b7
                    replace HB := HB.trans (b7.mono HB.size)
                    have o_rc0 : w7.cell? ⟨w.heap.size, 0, none⟩ = some (.bool false) := var_load o_r (by simp) 0 _ rfl
                    have o_rf0 : w7.frozen? ⟨w.heap.size, 0, none⟩ = false := var_frozen o_r (by simp) 0 _ rfl
                    have o_rc1 : w7.cell? ⟨w.heap.size, 1, none⟩ = some (.string ⟨#[]⟩) := var_load o_r (by simp) 1 _ rfl
                    have o_rf1 : w7.frozen? ⟨w.heap.size, 1, none⟩ = false := var_frozen o_r (by simp) 1 _ rfl
                    have o_rc2 : w7.cell? ⟨w.heap.size, 2, none⟩ = some (.int .i64 0) := var_load o_r (by simp) 2 _ rfl
                    have o_rf2 : w7.frozen? ⟨w.heap.size, 2, none⟩ = false := var_frozen o_r (by simp) 2 _ rfl
                    have o_rl := var_lt o_r
                    go_wp2
                    obtain ⟨wf, hf⟩ : ∃ y, y = (((w7.setCell ⟨w.heap.size, 0, none⟩ (.bool false)).setCell ⟨w.heap.size, 1, none⟩ (.string ⟨#[]⟩)).setCell ⟨w.heap.size, 2, none⟩ (.int .i64 0)) := ⟨_, rfl⟩
                    obtain ⟨o_r2, t2⟩ := var_some [.bool false, .string ⟨#[]⟩, .int .i64 0] 0 _ _ o_r (by simp)
                    rw [show setAll w7 w.heap.size 0 [.bool false, .string ⟨#[]⟩, .int .i64 0] = wf from hf.symm] at o_r2 t2
                    have HF := below_turned HB t2 (fun b hb => by simp at hb; omega)
                    clear o_rc0 o_rf0 o_rc1 o_rf1 o_rc2 o_rf2 o_rl
                    have o_r2c0 : wf.cell? ⟨w.heap.size, 0, none⟩ = some (.bool false) := var_load o_r2 (by simp) 0 _ rfl
                    have o_r2c1 : wf.cell? ⟨w.heap.size, 1, none⟩ = some (.string ⟨#[]⟩) := var_load o_r2 (by simp) 1 _ rfl
                    have o_r2c2 : wf.cell? ⟨w.heap.size, 2, none⟩ = some (.int .i64 0) := var_load o_r2 (by simp) 2 _ rfl
                    have o_r2l := var_lt o_r2
                    rw [← hf]
                    exact bodyPost_ret (v := .tuple #[.agg #[.bool false, .string ⟨#[]⟩, .int .i64 0], .bool false]) (by simp [results, Tryz.results34, go_sem, o_r2c0, o_r2c1, o_r2c2]) rfl (made_po ⟨false, ⟨#[]⟩, 0⟩ false HF)
                  | true =>
                    have HO := Lib.hid (fun wx : World => show Calls Tryz.prog 63 #[.agg #[.bool false, .string (r.extract 0 k), .int .i64 (n : Int)]] wx (Gives (.bool true) wx) from by have h9 := C9b.specOrg wx (⟨false, (r.extract 0 k), (n : Int)⟩ : Fx.Origin) _ Origin.mkR (show (r.extract 0 k).size ≤ 4294967296 by omega); rw [k5] at h9; exact h9)
                    obtain ⟨t, ht⟩ : ∃ t, t = str (fmtO (⟨false, (r.extract 0 k), (n : Int)⟩ : Fx.Origin)) := ⟨_, rfl⟩
                    have HT := Lib.hid (fun wx : World => show Calls Tryz.prog 67 #[.agg #[.bool false, .string (r.extract 0 k), .int .i64 (n : Int)]] wx (Gives (.string t) wx) from by have h9 := C9b.specFmtO wx (⟨false, (r.extract 0 k), (n : Int)⟩ : Fx.Origin) _ Origin.mkR (show (r.extract 0 k).size ≤ 4294967296 by omega); rw [← ht] at h9; exact h9)
                    have hne : (t.toList == s.toList) = false := by
                      rcases k1 with k1 | k1
                      · rw [k5] at k1; cases k1
                      · rw [toList_bts, toList_bts, ht, bts_str]; simpa using k1
                    clear k1 k5 ht
                    (refine (HO.out _).mono ?_); rintro e w7 ⟨rfl, b7⟩
                    replace o_o := owns_below o_o b7
                    replace o_r := owns_below o_r b7
                    replace HB := HB.trans (b7.mono HB.size)
                    have o_oc0 : w7.cell? ⟨(w.heap.size + 1), 0, none⟩ = some (.bool false) := var_load o_o (by simp) 0 _ rfl
                    have o_of0 : w7.frozen? ⟨(w.heap.size + 1), 0, none⟩ = false := var_frozen o_o (by simp) 0 _ rfl
                    have o_oc1 : w7.cell? ⟨(w.heap.size + 1), 1, none⟩ = some (.string (r.extract 0 k)) := var_load o_o (by simp) 1 _ rfl
                    have o_of1 : w7.frozen? ⟨(w.heap.size + 1), 1, none⟩ = false := var_frozen o_o (by simp) 1 _ rfl
                    have o_oc2 : w7.cell? ⟨(w.heap.size + 1), 2, none⟩ = some (.int .i64 (n : Int)) := var_load o_o (by simp) 2 _ rfl
                    have o_of2 : w7.frozen? ⟨(w.heap.size + 1), 2, none⟩ = false := var_frozen o_o (by simp) 2 _ rfl
                    have o_ol := var_lt o_o
                    go_wp2_with fail
                    (refine (HT.out _).mono ?_); rintro e w8 ⟨rfl, b8⟩
                    clear o_oc0 o_of0 o_oc1 o_of1 o_oc2 o_of2 o_ol
                    replace o_o := owns_below o_o b8
                    replace o_r := owns_below o_r b8
                    replace HB := HB.trans (b8.mono HB.size)
                    have o_rc0 : w8.cell? ⟨w.heap.size, 0, none⟩ = some (.bool false) := var_load o_r (by simp) 0 _ rfl
                    have o_rf0 : w8.frozen? ⟨w.heap.size, 0, none⟩ = false := var_frozen o_r (by simp) 0 _ rfl
                    have o_rc1 : w8.cell? ⟨w.heap.size, 1, none⟩ = some (.string ⟨#[]⟩) := var_load o_r (by simp) 1 _ rfl
                    have o_rf1 : w8.frozen? ⟨w.heap.size, 1, none⟩ = false := var_frozen o_r (by simp) 1 _ rfl
                    have o_rc2 : w8.cell? ⟨w.heap.size, 2, none⟩ = some (.int .i64 0) := var_load o_r (by simp) 2 _ rfl
                    have o_rf2 : w8.frozen? ⟨w.heap.size, 2, none⟩ = false := var_frozen o_r (by simp) 2 _ rfl
                    have o_rl := var_lt o_r
                    go_wp2
                    obtain ⟨wf, hf⟩ : ∃ y, y = (((w8.setCell ⟨w.heap.size, 0, none⟩ (.bool false)).setCell ⟨w.heap.size, 1, none⟩ (.string ⟨#[]⟩)).setCell ⟨w.heap.size, 2, none⟩ (.int .i64 0)) := ⟨_, rfl⟩
                    obtain ⟨o_r2, t2⟩ := var_some [.bool false, .string ⟨#[]⟩, .int .i64 0] 0 _ _ o_r (by simp)
                    rw [show setAll w8 w.heap.size 0 [.bool false, .string ⟨#[]⟩, .int .i64 0] = wf from hf.symm] at o_r2 t2
                    have HF := below_turned HB t2 (fun b hb => by simp at hb; omega)
                    clear o_rc0 o_rf0 o_rc1 o_rf1 o_rc2 o_rf2 o_rl
                    have o_r2c0 : wf.cell? ⟨w.heap.size, 0, none⟩ = some (.bool false) := var_load o_r2 (by simp) 0 _ rfl
                    have o_r2c1 : wf.cell? ⟨w.heap.size, 1, none⟩ = some (.string ⟨#[]⟩) := var_load o_r2 (by simp) 1 _ rfl
                    have o_r2c2 : wf.cell? ⟨w.heap.size, 2, none⟩ = some (.int .i64 0) := var_load o_r2 (by simp) 2 _ rfl
                    have o_r2l := var_lt o_r2
                    rw [← hf]
                    exact bodyPost_ret (v := .tuple #[.agg #[.bool false, .string ⟨#[]⟩, .int .i64 0], .bool false]) (by simp [results, Tryz.results34, go_sem, o_r2c0, o_r2c1, o_r2c2]) rfl (made_po ⟨false, ⟨#[]⟩, 0⟩ false HF)
              · obtain ⟨rfl, rfl⟩ : B = false ∧ X = ⟨false, ⟨#[]⟩, 0⟩ := by
                  have h4 := po_f (po_noport HC.out HD.out (by rw [str_bts]; exact hN))
                  exact ⟨HQ.out.1.trans h4.1, HQ.out.2.trans h4.2⟩
                have HY := Lib.hid (fun wx : World => C1P.specNo (r.extract (k + 1) r.size) hN wx (by omega))
                clear hN HC HD HQ
                go_wp2_with fail
                (refine (HY.out _).mono ?_); rintro e w2 ⟨rfl, b2⟩
                replace o_r := owns_below o_r b2
                replace HB := HB.trans (b2.mono HB.size)
                have o_rc0 : w2.cell? ⟨w.heap.size, 0, none⟩ = some (.bool false) := var_load o_r (by simp) 0 _ rfl
                have o_rf0 : w2.frozen? ⟨w.heap.size, 0, none⟩ = false := var_frozen o_r (by simp) 0 _ rfl
                have o_rc1 : w2.cell? ⟨w.heap.size, 1, none⟩ = some (.string ⟨#[]⟩) := var_load o_r (by simp) 1 _ rfl
                have o_rf1 : w2.frozen? ⟨w.heap.size, 1, none⟩ = false := var_frozen o_r (by simp) 1 _ rfl
                have o_rc2 : w2.cell? ⟨w.heap.size, 2, none⟩ = some (.int .i64 0) := var_load o_r (by simp) 2 _ rfl
                have o_rf2 : w2.frozen? ⟨w.heap.size, 2, none⟩ = false := var_frozen o_r (by simp) 2 _ rfl
                have o_rl := var_lt o_r
                go_wp2
                obtain ⟨wf, hf⟩ : ∃ y, y = (((w2.setCell ⟨w.heap.size, 0, none⟩ (.bool false)).setCell ⟨w.heap.size, 1, none⟩ (.string ⟨#[]⟩)).setCell ⟨w.heap.size, 2, none⟩ (.int .i64 0)) := ⟨_, rfl⟩
                obtain ⟨o_r2, t2⟩ := var_some [.bool false, .string ⟨#[]⟩, .int .i64 0] 0 _ _ o_r (by simp)
                rw [show setAll w2 w.heap.size 0 [.bool false, .string ⟨#[]⟩, .int .i64 0] = wf from hf.symm] at o_r2 t2
                have HF := below_turned HB t2 (fun b hb => by simp at hb; omega)
                clear o_rc0 o_rf0 o_rc1 o_rf1 o_rc2 o_rf2 o_rl
                have o_r2c0 : wf.cell? ⟨w.heap.size, 0, none⟩ = some (.bool false) := var_load o_r2 (by simp) 0 _ rfl
                have o_r2c1 : wf.cell? ⟨w.heap.size, 1, none⟩ = some (.string ⟨#[]⟩) := var_load o_r2 (by simp) 1 _ rfl
                have o_r2c2 : wf.cell? ⟨w.heap.size, 2, none⟩ = some (.int .i64 0) := var_load o_r2 (by simp) 2 _ rfl
                have o_r2l := var_lt o_r2
                rw [← hf]
                exact bodyPost_ret (v := .tuple #[.agg #[.bool false, .string ⟨#[]⟩, .int .i64 0], .bool false]) (by simp [results, Tryz.results34, go_sem, o_r2c0, o_r2c1, o_r2c2]) rfl (made_po ⟨false, ⟨#[]⟩, 0⟩ false HF)
            · have hcb : ((r[k].toNat : Int) == 58) = false := by rw [byte58]; simpa using hc
              go_wp2
              go_round
              case rel =>
                refine ⟨k + 1, by omega, by go_num, fun j hj hjk => ?_⟩
                by_cases h : j < k
                · exact HG.out j hj h
                · obtain rfl : j = k := by omega
                  exact hc
              case measure => simp [intOf]; omega
          · obtain rfl : k = r.size := by omega
            have HU := Lib.hid (show ∀ o : Fx.Origin, orgB o = true → fmtO o = bts s → o = ⟨false, r, (80 : Int)⟩ from fun o h1 h2 => by
              have h3 := before (Nat.le_refl r.size) HG.out
              rw [show r.extract 0 r.size = r from ByteArray.extract_zero_size] at h3
              rw [po_plain HP.out h3 o h1 h2, str_bts]; rfl)
            clear HG HP
            have o_oc0 : w1.cell? ⟨(w.heap.size + 1), 0, none⟩ = some (.bool false) := var_load o_o (by simp) 0 _ rfl
            have o_of0 : w1.frozen? ⟨(w.heap.size + 1), 0, none⟩ = false := var_frozen o_o (by simp) 0 _ rfl
            have o_oc1 : w1.cell? ⟨(w.heap.size + 1), 1, none⟩ = some (.string r) := var_load o_o (by simp) 1 _ rfl
            have o_of1 : w1.frozen? ⟨(w.heap.size + 1), 1, none⟩ = false := var_frozen o_o (by simp) 1 _ rfl
            have o_oc2 : w1.cell? ⟨(w.heap.size + 1), 2, none⟩ = some (.int .i64 80) := var_load o_o (by simp) 2 _ rfl
            have o_of2 : w1.frozen? ⟨(w.heap.size + 1), 2, none⟩ = false := var_frozen o_o (by simp) 2 _ rfl
            have o_ol := var_lt o_o
            go_wp2_with fail
            clear o_oc0 o_of0 o_oc1 o_of1 o_oc2 o_of2 o_ol
            rcases po_c HU.out with ⟨k1, k2, k3, k4⟩ | ⟨k1, k3, k4⟩
            · obtain ⟨rfl, rfl⟩ : B = true ∧ X = (⟨false, r, 80⟩ : Fx.Origin) := ⟨HQ.out.1.trans k3, HQ.out.2.trans k4⟩
              clear k3 k4 HQ
              have HO := Lib.hid (fun wx : World => show Calls Tryz.prog 63 #[.agg #[.bool false, .string r, .int .i64 80]] wx (Gives (.bool true) wx) from by have h9 := C9b.specOrg wx (⟨false, r, 80⟩ : Fx.Origin) _ Origin.mkR (show r.size ≤ 4294967296 by omega); rw [k1] at h9; exact h9)
              have HT := Lib.hid (fun wx : World => show Calls Tryz.prog 67 #[.agg #[.bool false, .string r, .int .i64 80]] wx (Gives (.string s) wx) from by have h9 := C9b.specFmtO wx (⟨false, r, 80⟩ : Fx.Origin) _ Origin.mkR (show r.size ≤ 4294967296 by omega); rw [show str (fmtO (⟨false, r, 80⟩ : Fx.Origin)) = s by rw [k2, str_bts]] at h9; exact h9)
              clear k1 k2
              (refine (HO.out _).mono ?_); rintro e w7 ⟨rfl, b7⟩
              replace o_o := owns_below o_o b7
              replace o_r := owns_below o_r b7
              replace HB := HB.trans (b7.mono HB.size)
              have o_oc0 : w7.cell? ⟨(w.heap.size + 1), 0, none⟩ = some (.bool false) := var_load o_o (by simp) 0 _ rfl
              have o_of0 : w7.frozen? ⟨(w.heap.size + 1), 0, none⟩ = false := var_frozen o_o (by simp) 0 _ rfl
              have o_oc1 : w7.cell? ⟨(w.heap.size + 1), 1, none⟩ = some (.string r) := var_load o_o (by simp) 1 _ rfl
              have o_of1 : w7.frozen? ⟨(w.heap.size + 1), 1, none⟩ = false := var_frozen o_o (by simp) 1 _ rfl
              have o_oc2 : w7.cell? ⟨(w.heap.size + 1), 2, none⟩ = some (.int .i64 80) := var_load o_o (by simp) 2 _ rfl
              have o_of2 : w7.frozen? ⟨(w.heap.size + 1), 2, none⟩ = false := var_frozen o_o (by simp) 2 _ rfl
              have o_ol := var_lt o_o
              go_wp2_with fail
              (refine (HT.out _).mono ?_); rintro e w8 ⟨rfl, b8⟩
              clear o_oc0 o_of0 o_oc1 o_of1 o_oc2 o_of2 o_ol
              replace o_o := owns_below o_o b8
              replace o_r := owns_below o_r b8
              replace HB := HB.trans (b8.mono HB.size)
              have o_rc0 : w8.cell? ⟨w.heap.size, 0, none⟩ = some (.bool false) := var_load o_r (by simp) 0 _ rfl
              have o_rf0 : w8.frozen? ⟨w.heap.size, 0, none⟩ = false := var_frozen o_r (by simp) 0 _ rfl
              have o_rc1 : w8.cell? ⟨w.heap.size, 1, none⟩ = some (.string ⟨#[]⟩) := var_load o_r (by simp) 1 _ rfl
              have o_rf1 : w8.frozen? ⟨w.heap.size, 1, none⟩ = false := var_frozen o_r (by simp) 1 _ rfl
              have o_rc2 : w8.cell? ⟨w.heap.size, 2, none⟩ = some (.int .i64 0) := var_load o_r (by simp) 2 _ rfl
              have o_rf2 : w8.frozen? ⟨w.heap.size, 2, none⟩ = false := var_frozen o_r (by simp) 2 _ rfl
              have o_rl := var_lt o_r
              have o_oc0 : w8.cell? ⟨(w.heap.size + 1), 0, none⟩ = some (.bool false) := var_load o_o (by simp) 0 _ rfl
              have o_of0 : w8.frozen? ⟨(w.heap.size + 1), 0, none⟩ = false := var_frozen o_o (by simp) 0 _ rfl
              have o_oc1 : w8.cell? ⟨(w.heap.size + 1), 1, none⟩ = some (.string r) := var_load o_o (by simp) 1 _ rfl
              have o_of1 : w8.frozen? ⟨(w.heap.size + 1), 1, none⟩ = false := var_frozen o_o (by simp) 1 _ rfl
              have o_oc2 : w8.cell? ⟨(w.heap.size + 1), 2, none⟩ = some (.int .i64 80) := var_load o_o (by simp) 2 _ rfl
              have o_of2 : w8.frozen? ⟨(w.heap.size + 1), 2, none⟩ = false := var_frozen o_o (by simp) 2 _ rfl
              have o_ol := var_lt o_o
              go_wp2
              obtain ⟨wf, hf⟩ : ∃ y, y = (((w8.setCell ⟨w.heap.size, 0, none⟩ (.bool false)).setCell ⟨w.heap.size, 1, none⟩ (.string r)).setCell ⟨w.heap.size, 2, none⟩ (.int .i64 80)) := ⟨_, rfl⟩
              obtain ⟨o_r2, t2⟩ := var_some [.bool false, .string r, .int .i64 80] 0 _ _ o_r (by simp)
              rw [show setAll w8 w.heap.size 0 [.bool false, .string r, .int .i64 80] = wf from hf.symm] at o_r2 t2
              have HF := below_turned HB t2 (fun b hb => by simp at hb; omega)
              clear o_rc0 o_rf0 o_rc1 o_rf1 o_rc2 o_rf2 o_rl
              have o_r2c0 : wf.cell? ⟨w.heap.size, 0, none⟩ = some (.bool false) := var_load o_r2 (by simp) 0 _ rfl
              have o_r2c1 : wf.cell? ⟨w.heap.size, 1, none⟩ = some (.string r) := var_load o_r2 (by simp) 1 _ rfl
              have o_r2c2 : wf.cell? ⟨w.heap.size, 2, none⟩ = some (.int .i64 80) := var_load o_r2 (by simp) 2 _ rfl
              have o_r2l := var_lt o_r2
              rw [← hf]
              exact bodyPost_ret (v := .tuple #[.agg #[.bool false, .string r, .int .i64 80], .bool true]) (by simp [results, Tryz.results34, go_sem, o_r2c0, o_r2c1, o_r2c2]) rfl (made_po ⟨false, r, 80⟩ true HF)
            · obtain ⟨rfl, rfl⟩ : B = false ∧ X = ⟨false, ⟨#[]⟩, 0⟩ := ⟨HQ.out.1.trans k3, HQ.out.2.trans k4⟩
              clear k3 k4 HQ
              cases k5 : orgB (⟨false, r, 80⟩ : Fx.Origin) with
              | false =>
                have HO := Lib.hid (fun wx : World => show Calls Tryz.prog 63 #[.agg #[.bool false, .string r, .int .i64 80]] wx (Gives (.bool false) wx) from by have h9 := C9b.specOrg wx (⟨false, r, 80⟩ : Fx.Origin) _ Origin.mkR (show r.size ≤ 4294967296 by omega); rw [k5] at h9; exact h9)
                clear k1 k5
                (refine (HO.out _).mono ?_); rintro e w7 ⟨rfl, b7⟩
                replace o_o := owns_below o_o b7
                replace o_r := owns_below o_r b7
                replace HB := HB.trans (b7.mono HB.size)
                have o_rc0 : w7.cell? ⟨w.heap.size, 0, none⟩ = some (.bool false) := var_load o_r (by simp) 0 _ rfl
                have o_rf0 : w7.frozen? ⟨w.heap.size, 0, none⟩ = false := var_frozen o_r (by simp) 0 _ rfl
                have o_rc1 : w7.cell? ⟨w.heap.size, 1, none⟩ = some (.string ⟨#[]⟩) := var_load o_r (by simp) 1 _ rfl
                have o_rf1 : w7.frozen? ⟨w.heap.size, 1, none⟩ = false := var_frozen o_r (by simp) 1 _ rfl
                have o_rc2 : w7.cell? ⟨w.heap.size, 2, none⟩ = some (.int .i64 0) := var_load o_r (by simp) 2 _ rfl
                have o_rf2 : w7.frozen? ⟨w.heap.size, 2, none⟩ = false := var_frozen o_r (by simp) 2 _ rfl
                have o_rl := var_lt o_r
                go_wp2
                obtain ⟨wf, hf⟩ : ∃ y, y = (((w7.setCell ⟨w.heap.size, 0, none⟩ (.bool false)).setCell ⟨w.heap.size, 1, none⟩ (.string ⟨#[]⟩)).setCell ⟨w.heap.size, 2, none⟩ (.int .i64 0)) := ⟨_, rfl⟩
                obtain ⟨o_r2, t2⟩ := var_some [.bool false, .string ⟨#[]⟩, .int .i64 0] 0 _ _ o_r (by simp)
                rw [show setAll w7 w.heap.size 0 [.bool false, .string ⟨#[]⟩, .int .i64 0] = wf from hf.symm] at o_r2 t2
                have HF := below_turned HB t2 (fun b hb => by simp at hb; omega)
                clear o_rc0 o_rf0 o_rc1 o_rf1 o_rc2 o_rf2 o_rl
                have o_r2c0 : wf.cell? ⟨w.heap.size, 0, none⟩ = some (.bool false) := var_load o_r2 (by simp) 0 _ rfl
                have o_r2c1 : wf.cell? ⟨w.heap.size, 1, none⟩ = some (.string ⟨#[]⟩) := var_load o_r2 (by simp) 1 _ rfl
                have o_r2c2 : wf.cell? ⟨w.heap.size, 2, none⟩ = some (.int .i64 0) := var_load o_r2 (by simp) 2 _ rfl
                have o_r2l := var_lt o_r2
                rw [← hf]
                exact bodyPost_ret (v := .tuple #[.agg #[.bool false, .string ⟨#[]⟩, .int .i64 0], .bool false]) (by simp [results, Tryz.results34, go_sem, o_r2c0, o_r2c1, o_r2c2]) rfl (made_po ⟨false, ⟨#[]⟩, 0⟩ false HF)
              | true =>
                have HO := Lib.hid (fun wx : World => show Calls Tryz.prog 63 #[.agg #[.bool false, .string r, .int .i64 80]] wx (Gives (.bool true) wx) from by have h9 := C9b.specOrg wx (⟨false, r, 80⟩ : Fx.Origin) _ Origin.mkR (show r.size ≤ 4294967296 by omega); rw [k5] at h9; exact h9)
                obtain ⟨t, ht⟩ : ∃ t, t = str (fmtO (⟨false, r, 80⟩ : Fx.Origin)) := ⟨_, rfl⟩
                have HT := Lib.hid (fun wx : World => show Calls Tryz.prog 67 #[.agg #[.bool false, .string r, .int .i64 80]] wx (Gives (.string t) wx) from by have h9 := C9b.specFmtO wx (⟨false, r, 80⟩ : Fx.Origin) _ Origin.mkR (show r.size ≤ 4294967296 by omega); rw [← ht] at h9; exact h9)
                have hne : (t.toList == s.toList) = false := by
                  rcases k1 with k1 | k1
                  · rw [k5] at k1; cases k1
                  · rw [toList_bts, toList_bts, ht, bts_str]; simpa using k1
                clear k1 k5 ht
                (refine (HO.out _).mono ?_); rintro e w7 ⟨rfl, b7⟩
                replace o_o := owns_below o_o b7
                replace o_r := owns_below o_r b7
                replace HB := HB.trans (b7.mono HB.size)
                have o_oc0 : w7.cell? ⟨(w.heap.size + 1), 0, none⟩ = some (.bool false) := var_load o_o (by simp) 0 _ rfl
                have o_of0 : w7.frozen? ⟨(w.heap.size + 1), 0, none⟩ = false := var_frozen o_o (by simp) 0 _ rfl
                have o_oc1 : w7.cell? ⟨(w.heap.size + 1), 1, none⟩ = some (.string r) := var_load o_o (by simp) 1 _ rfl
                have o_of1 : w7.frozen? ⟨(w.heap.size + 1), 1, none⟩ = false := var_frozen o_o (by simp) 1 _ rfl
                have o_oc2 : w7.cell? ⟨(w.heap.size + 1), 2, none⟩ = some (.int .i64 80) := var_load o_o (by simp) 2 _ rfl
                have o_of2 : w7.frozen? ⟨(w.heap.size + 1), 2, none⟩ = false := var_frozen o_o (by simp) 2 _ rfl
                have o_ol := var_lt o_o
                go_wp2_with fail
                (refine (HT.out _).mono ?_); rintro e w8 ⟨rfl, b8⟩
                clear o_oc0 o_of0 o_oc1 o_of1 o_oc2 o_of2 o_ol
                replace o_o := owns_below o_o b8
                replace o_r := owns_below o_r b8
                replace HB := HB.trans (b8.mono HB.size)
                have o_rc0 : w8.cell? ⟨w.heap.size, 0, none⟩ = some (.bool false) := var_load o_r (by simp) 0 _ rfl
                have o_rf0 : w8.frozen? ⟨w.heap.size, 0, none⟩ = false := var_frozen o_r (by simp) 0 _ rfl
                have o_rc1 : w8.cell? ⟨w.heap.size, 1, none⟩ = some (.string ⟨#[]⟩) := var_load o_r (by simp) 1 _ rfl
                have o_rf1 : w8.frozen? ⟨w.heap.size, 1, none⟩ = false := var_frozen o_r (by simp) 1 _ rfl
                have o_rc2 : w8.cell? ⟨w.heap.size, 2, none⟩ = some (.int .i64 0) := var_load o_r (by simp) 2 _ rfl
                have o_rf2 : w8.frozen? ⟨w.heap.size, 2, none⟩ = false := var_frozen o_r (by simp) 2 _ rfl
                have o_rl := var_lt o_r
                go_wp2
                obtain ⟨wf, hf⟩ : ∃ y, y = (((w8.setCell ⟨w.heap.size, 0, none⟩ (.bool false)).setCell ⟨w.heap.size, 1, none⟩ (.string ⟨#[]⟩)).setCell ⟨w.heap.size, 2, none⟩ (.int .i64 0)) := ⟨_, rfl⟩
                obtain ⟨o_r2, t2⟩ := var_some [.bool false, .string ⟨#[]⟩, .int .i64 0] 0 _ _ o_r (by simp)
                rw [show setAll w8 w.heap.size 0 [.bool false, .string ⟨#[]⟩, .int .i64 0] = wf from hf.symm] at o_r2 t2
                have HF := below_turned HB t2 (fun b hb => by simp at hb; omega)
                clear o_rc0 o_rf0 o_rc1 o_rf1 o_rc2 o_rf2 o_rl
                have o_r2c0 : wf.cell? ⟨w.heap.size, 0, none⟩ = some (.bool false) := var_load o_r2 (by simp) 0 _ rfl
                have o_r2c1 : wf.cell? ⟨w.heap.size, 1, none⟩ = some (.string ⟨#[]⟩) := var_load o_r2 (by simp) 1 _ rfl
                have o_r2c2 : wf.cell? ⟨w.heap.size, 2, none⟩ = some (.int .i64 0) := var_load o_r2 (by simp) 2 _ rfl
                have o_r2l := var_lt o_r2
                rw [← hf]
                exact bodyPost_ret (v := .tuple #[.agg #[.bool false, .string ⟨#[]⟩, .int .i64 0], .bool false]) (by simp [results, Tryz.results34, go_sem, o_r2c0, o_r2c1, o_r2c2]) rfl (made_po ⟨false, ⟨#[]⟩, 0⟩ false HF)
      · clear hA
        go_enter Tryz.func34, Tryz.ntmps34
        go_wp2_with fail
        rw [← hr, ← hw0, ← hw1]
        clear hr hw0 hw1
        go_loop [6] (fun i => ∃ k : Nat, k ≤ r.size ∧ i = .int .i64 k ∧ ∀ j (hj : j < r.size), j < k → r[j] ≠ 58) (fun i => r.size - (intOf i).toNat)
        case atStart => exact ⟨0, by omega, rfl, fun _ _ h => by omega⟩
        case round =>
          obtain ⟨k, hk, rfl, hG⟩ := hrel
          have HG := Lib.hid hG
          clear hG
          by_cases hlt : k < r.size
          · by_cases hc : r[k] = 58
            · have hcb : ((r[k].toNat : Int) == 58) = true := by rw [byte58, hc]; rfl
              have hk1 : (r.extract (k + 1) r.size).size ≤ r.size := by rw [ByteArray.size_extract]; omega
              have hk0 : (r.extract 0 k).size ≤ r.size := by rw [ByteArray.size_extract]; omega
              have HC := Lib.hid (show bts s = pre false ++ (bts (r.extract 0 k) ++ 58 :: bts (r.extract (k + 1) r.size)) by rw [← colon_cut hlt hc]; exact HP.out)
              have HD := Lib.hid (before hk HG.out)
              clear hc HP HG
              rcases C1P.yes_or_no (r.extract (k + 1) r.size) with ⟨n, hY⟩ | hN
              · have HU := Lib.hid (show ∀ o : Fx.Origin, orgB o = true → fmtO o = bts s → o = ⟨false, r.extract 0 k, (n : Int)⟩ from fun o h1 h2 => by
                  have h3 : bts s = pre false ++ (bts (r.extract 0 k) ++ 58 :: Lib.decDigits n) := by rw [HC.out, hY.2]; show pre false ++ (bts (r.extract 0 k) ++ 58 :: bts (str (Lib.decDigits n))) = _; rw [bts_str]
                  rw [po_port h3 HD.out o h1 h2, str_bts])
                have HY := Lib.hid (fun wx : World => C1P.specYes (r.extract (k + 1) r.size) n hY wx)
                have hn : (n : Int) ≤ 1000000000000 := by have := hY.1; omega
                clear hY HC HD
                go_wp2_with fail
                (refine (HY.out _).mono ?_); rintro e w2 ⟨rfl, b2⟩
                replace o_o := owns_below o_o b2
                replace o_r := owns_below o_r b2
                replace HB := HB.trans (b2.mono HB.size)
                have o_oc0 : w2.cell? ⟨(w.heap.size + 1), 0, none⟩ = some (.bool false) := var_load o_o (by simp) 0 _ rfl
                have o_of0 : w2.frozen? ⟨(w.heap.size + 1), 0, none⟩ = false := var_frozen o_o (by simp) 0 _ rfl
                have o_oc1 : w2.cell? ⟨(w.heap.size + 1), 1, none⟩ = some (.string r) := var_load o_o (by simp) 1 _ rfl
                have o_of1 : w2.frozen? ⟨(w.heap.size + 1), 1, none⟩ = false := var_frozen o_o (by simp) 1 _ rfl
                have o_oc2 : w2.cell? ⟨(w.heap.size + 1), 2, none⟩ = some (.int .i64 80) := var_load o_o (by simp) 2 _ rfl
                have o_of2 : w2.frozen? ⟨(w.heap.size + 1), 2, none⟩ = false := var_frozen o_o (by simp) 2 _ rfl
                have o_ol := var_lt o_o
                go_wp2_with fail
                clear o_oc0 o_of0 o_oc1 o_of1 o_oc2 o_of2 o_ol
                obtain ⟨w3, hnew⟩ : ∃ y, y = w2.setCell ⟨(w.heap.size + 1), 1, none⟩ (.string (r.extract 0 k)) := ⟨_, rfl⟩
                obtain ⟨o_o2, t2⟩ := var_some [.string (r.extract 0 k)] 1 _ _ o_o (by simp)
                rw [show setAll w2 (w.heap.size + 1) 1 [.string (r.extract 0 k)] = w3 from hnew.symm] at o_o2 t2
                replace o_o : Owns w3 _ (varD 43 3 [.bool false, .string (r.extract 0 k), .int .i64 80]) _ _ := o_o2
                clear o_o2
                replace o_r := owns_turned o_r t2 (fun b hb hb2 => by simp at hb hb2; omega)
                replace HB := below_turned HB t2 (fun b hb => by simp at hb; omega)
                rw [← hnew]
                clear hnew t2
                obtain ⟨w4, hnew⟩ : ∃ y, y = w3.setCell ⟨(w.heap.size + 1), 2, none⟩ (.int .i64 (n : Int)) := ⟨_, rfl⟩
                obtain ⟨o_o2, t2⟩ := var_some [.int .i64 (n : Int)] 2 _ _ o_o (by simp)
                rw [show setAll w3 (w.heap.size + 1) 2 [.int .i64 (n : Int)] = w4 from hnew.symm] at o_o2 t2
                replace o_o : Owns w4 _ (varD 43 3 [.bool false, .string (r.extract 0 k), .int .i64 (n : Int)]) _ _ := o_o2
                clear o_o2
                replace o_r := owns_turned o_r t2 (fun b hb hb2 => by simp at hb hb2; omega)
                replace HB := below_turned HB t2 (fun b hb => by simp at hb; omega)
                rw [← hnew]
                clear hnew t2
                rcases po_c HU.out with ⟨k1, k2, k3, k4⟩ | ⟨k1, k3, k4⟩
                · obtain ⟨rfl, rfl⟩ : B = true ∧ X = (⟨false, (r.extract 0 k), (n : Int)⟩ : Fx.Origin) := ⟨HQ.out.1.trans k3, HQ.out.2.trans k4⟩
                  clear k3 k4 HQ
                  have HO := Lib.hid (fun wx : World => show Calls Tryz.prog 63 #[.agg #[.bool false, .string (r.extract 0 k), .int .i64 (n : Int)]] wx (Gives (.bool true) wx) from by have h9 := C9b.specOrg wx (⟨false, (r.extract 0 k), (n : Int)⟩ : Fx.Origin) _ Origin.mkR (show (r.extract 0 k).size ≤ 4294967296 by omega); rw [k1] at h9; exact h9)
                  have HT := Lib.hid (fun wx : World => show Calls Tryz.prog 67 #[.agg #[.bool false, .string (r.extract 0 k), .int .i64 (n : Int)]] wx (Gives (.string s) wx) from by have h9 := C9b.specFmtO wx (⟨false, (r.extract 0 k), (n : Int)⟩ : Fx.Origin) _ Origin.mkR (show (r.extract 0 k).size ≤ 4294967296 by omega); rw [show str (fmtO (⟨false, (r.extract 0 k), (n : Int)⟩ : Fx.Origin)) = s by rw [k2, str_bts]] at h9; exact h9)
                  clear k1 k2
                  (refine (HO.out _).mono ?_); rintro e w7 ⟨rfl, b7⟩
                  replace o_o := owns_below o_o b7
                  replace o_r := owns_below o_r b7
                  replace HB := HB.trans (b7.mono HB.size)
                  have o_oc0 : w7.cell? ⟨(w.heap.size + 1), 0, none⟩ = some (.bool false) := var_load o_o (by simp) 0 _ rfl
                  have o_of0 : w7.frozen? ⟨(w.heap.size + 1), 0, none⟩ = false := var_frozen o_o (by simp) 0 _ rfl
                  have o_oc1 : w7.cell? ⟨(w.heap.size + 1), 1, none⟩ = some (.string (r.extract 0 k)) := var_load o_o (by simp) 1 _ rfl
                  have o_of1 : w7.frozen? ⟨(w.heap.size + 1), 1, none⟩ = false := var_frozen o_o (by simp) 1 _ rfl
                  have o_oc2 : w7.cell? ⟨(w.heap.size + 1), 2, none⟩ = some (.int .i64 (n : Int)) := var_load o_o (by simp) 2 _ rfl
                  have o_of2 : w7.frozen? ⟨(w.heap.size + 1), 2, none⟩ = false := var_frozen o_o (by simp) 2 _ rfl
                  have o_ol := var_lt o_o
                  go_wp2_with fail
                  (refine (HT.out _).mono ?_); rintro e w8 ⟨rfl, b8⟩
                  clear o_oc0 o_of0 o_oc1 o_of1 o_oc2 o_of2 o_ol
                  replace o_o := owns_below o_o b8
                  replace o_r := owns_below o_r b8
                  replace HB := HB.trans (b8.mono HB.size)
                  have o_rc0 : w8.cell? ⟨w.heap.size, 0, none⟩ = some (.bool false) := var_load o_r (by simp) 0 _ rfl
                  have o_rf0 : w8.frozen? ⟨w.heap.size, 0, none⟩ = false := var_frozen o_r (by simp) 0 _ rfl
                  have o_rc1 : w8.cell? ⟨w.heap.size, 1, none⟩ = some (.string ⟨#[]⟩) := var_load o_r (by simp) 1 _ rfl
                  have o_rf1 : w8.frozen? ⟨w.heap.size, 1, none⟩ = false := var_frozen o_r (by simp) 1 _ rfl
                  have o_rc2 : w8.cell? ⟨w.heap.size, 2, none⟩ = some (.int .i64 0) := var_load o_r (by simp) 2 _ rfl
                  have o_rf2 : w8.frozen? ⟨w.heap.size, 2, none⟩ = false := var_frozen o_r (by simp) 2 _ rfl
                  have o_rl := var_lt o_r
                  have o_oc0 : w8.cell? ⟨(w.heap.size + 1), 0, none⟩ = some (.bool false) := var_load o_o (by simp) 0 _ rfl
                  have o_of0 : w8.frozen? ⟨(w.heap.size + 1), 0, none⟩ = false := var_frozen o_o (by simp) 0 _ rfl
                  have o_oc1 : w8.cell? ⟨(w.heap.size + 1), 1, none⟩ = some (.string (r.extract 0 k)) := var_load o_o (by simp) 1 _ rfl
                  have o_of1 : w8.frozen? ⟨(w.heap.size + 1), 1, none⟩ = false := var_frozen o_o (by simp) 1 _ rfl
                  have o_oc2 : w8.cell? ⟨(w.heap.size + 1), 2, none⟩ = some (.int .i64 (n : Int)) := var_load o_o (by simp) 2 _ rfl
                  have o_of2 : w8.frozen? ⟨(w.heap.size + 1), 2, none⟩ = false := var_frozen o_o (by simp) 2 _ rfl
                  have o_ol := var_lt o_o
                  go_wp2
                  obtain ⟨wf, hf⟩ : ∃ y, y = (((w8.setCell ⟨w.heap.size, 0, none⟩ (.bool false)).setCell ⟨w.heap.size, 1, none⟩ (.string (r.extract 0 k))).setCell ⟨w.heap.size, 2, none⟩ (.int .i64 (n : Int))) := ⟨_, rfl⟩
                  obtain ⟨o_r2, t2⟩ := var_some [.bool false, .string (r.extract 0 k), .int .i64 (n : Int)] 0 _ _ o_r (by simp)
                  rw [show setAll w8 w.heap.size 0 [.bool false, .string (r.extract 0 k), .int .i64 (n : Int)] = wf from hf.symm] at o_r2 t2
                  have HF := below_turned HB t2 (fun b hb => by simp at hb; omega)
                  clear o_rc0 o_rf0 o_rc1 o_rf1 o_rc2 o_rf2 o_rl
                  have o_r2c0 : wf.cell? ⟨w.heap.size, 0, none⟩ = some (.bool false) := var_load o_r2 (by simp) 0 _ rfl
                  have o_r2c1 : wf.cell? ⟨w.heap.size, 1, none⟩ = some (.string (r.extract 0 k)) := var_load o_r2 (by simp) 1 _ rfl
                  have o_r2c2 : wf.cell? ⟨w.heap.size, 2, none⟩ = some (.int .i64 (n : Int)) := var_load o_r2 (by simp) 2 _ rfl
                  have o_r2l := var_lt o_r2
                  rw [← hf]
                  exact bodyPost_ret (v := .tuple #[.agg #[.bool false, .string (r.extract 0 k), .int .i64 (n : Int)], .bool true]) (by simp [results, Tryz.results34, go_sem, o_r2c0, o_r2c1, o_r2c2]) rfl (made_po ⟨false, (r.extract 0 k), (n : Int)⟩ true HF)
                · obtain ⟨rfl, rfl⟩ : B = false ∧ X = ⟨false, ⟨#[]⟩, 0⟩ := ⟨HQ.out.1.trans k3, HQ.out.2.trans k4⟩
                  clear k3 k4 HQ
                  cases k5 : orgB (⟨false, (r.extract 0 k), (n : Int)⟩ : Fx.Origin) with
                  | false =>
                    have HO := Lib.hid (fun wx : World => show Calls Tryz.prog 63 #[.agg #[.bool false, .string (r.extract 0 k), .int .i64 (n : Int)]] wx (Gives (.bool false) wx) from by have h9 := C9b.specOrg wx (⟨false, (r.extract 0 k), (n : Int)⟩ : Fx.Origin) _ Origin.mkR (show (r.extract 0 k).size ≤ 4294967296 by omega); rw [k5] at h9; exact h9)
                    clear k1 k5
                    (refine (HO.out _).mono ?_); rintro e w7 ⟨rfl, b7⟩
                    replace o_o := owns_below o_o b7
                    replace o_r := owns_below o_r b7
                    replace HB := HB.trans (b7.mono HB.size)
                    have o_rc0 : w7.cell? ⟨w.heap.size, 0, none⟩ = some (.bool false) := var_load o_r (by simp) 0 _ rfl
                    have o_rf0 : w7.frozen? ⟨w.heap.size, 0, none⟩ = false := var_frozen o_r (by simp) 0 _ rfl
                    have o_rc1 : w7.cell? ⟨w.heap.size, 1, none⟩ = some (.string ⟨#[]⟩) := var_load o_r (by simp) 1 _ rfl
                    have o_rf1 : w7.frozen? ⟨w.heap.size, 1, none⟩ = false := var_frozen o_r (by simp) 1 _ rfl
                    have o_rc2 : w7.cell? ⟨w.heap.size, 2, none⟩ = some (.int .i64 0) := var_load o_r (by simp) 2 _ rfl
                    have o_rf2 : w7.frozen? ⟨w.heap.size, 2, none⟩ = false := var_frozen o_r (by simp) 2 _ rfl
                    have o_rl := var_lt o_r
                    go_wp2
                    obtain ⟨wf, hf⟩ : ∃ y, y = (((w7.setCell ⟨w.heap.size, 0, none⟩ (.bool false)).setCell ⟨w.heap.size, 1, none⟩ (.string ⟨#[]⟩)).setCell ⟨w.heap.size, 2, none⟩ (.int .i64 0)) := ⟨_, rfl⟩
                    obtain ⟨o_r2, t2⟩ := var_some [.bool false, .string ⟨#[]⟩, .int .i64 0] 0 _ _ o_r (by simp)
                    rw [show setAll w7 w.heap.size 0 [.bool false, .string ⟨#[]⟩, .int .i64 0] = wf from hf.symm] at o_r2 t2
                    have HF := below_turned HB t2 (fun b hb => by simp at hb; omega)
                    clear o_rc0 o_rf0 o_rc1 o_rf1 o_rc2 o_rf2 o_rl
                    have o_r2c0 : wf.cell? ⟨w.heap.size, 0, none⟩ = some (.bool false) := var_load o_r2 (by simp) 0 _ rfl
                    have o_r2c1 : wf.cell? ⟨w.heap.size, 1, none⟩ = some (.string ⟨#[]⟩) := var_load o_r2 (by simp) 1 _ rfl
                    have o_r2c2 : wf.cell? ⟨w.heap.size, 2, none⟩ = some (.int .i64 0) := var_load o_r2 (by simp) 2 _ rfl
                    have o_r2l := var_lt o_r2
                    rw [← hf]
                    exact bodyPost_ret (v := .tuple #[.agg #[.bool false, .string ⟨#[]⟩, .int .i64 0], .bool false]) (by simp [results, Tryz.results34, go_sem, o_r2c0, o_r2c1, o_r2c2]) rfl (made_po ⟨false, ⟨#[]⟩, 0⟩ false HF)
                  | true =>
                    have HO := Lib.hid (fun wx : World => show Calls Tryz.prog 63 #[.agg #[.bool false, .string (r.extract 0 k), .int .i64 (n : Int)]] wx (Gives (.bool true) wx) from by have h9 := C9b.specOrg wx (⟨false, (r.extract 0 k), (n : Int)⟩ : Fx.Origin) _ Origin.mkR (show (r.extract 0 k).size ≤ 4294967296 by omega); rw [k5] at h9; exact h9)
                    obtain ⟨t, ht⟩ : ∃ t, t = str (fmtO (⟨false, (r.extract 0 k), (n : Int)⟩ : Fx.Origin)) := ⟨_, rfl⟩
                    have HT := Lib.hid (fun wx : World => show Calls Tryz.prog 67 #[.agg #[.bool false, .string (r.extract 0 k), .int .i64 (n : Int)]] wx (Gives (.string t) wx) from by have h9 := C9b.specFmtO wx (⟨false, (r.extract 0 k), (n : Int)⟩ : Fx.Origin) _ Origin.mkR (show (r.extract 0 k).size ≤ 4294967296 by omega); rw [← ht] at h9; exact h9)
                    have hne : (t.toList == s.toList) = false := by
                      rcases k1 with k1 | k1
                      · rw [k5] at k1; cases k1
                      · rw [toList_bts, toList_bts, ht, bts_str]; simpa using k1
                    clear k1 k5 ht
                    (refine (HO.out _).mono ?_); rintro e w7 ⟨rfl, b7⟩
                    replace o_o := owns_below o_o b7
                    replace o_r := owns_below o_r b7
                    replace HB := HB.trans (b7.mono HB.size)
                    have o_oc0 : w7.cell? ⟨(w.heap.size + 1), 0, none⟩ = some (.bool false) := var_load o_o (by simp) 0 _ rfl
                    have o_of0 : w7.frozen? ⟨(w.heap.size + 1), 0, none⟩ = false := var_frozen o_o (by simp) 0 _ rfl
                    have o_oc1 : w7.cell? ⟨(w.heap.size + 1), 1, none⟩ = some (.string (r.extract 0 k)) := var_load o_o (by simp) 1 _ rfl
                    have o_of1 : w7.frozen? ⟨(w.heap.size + 1), 1, none⟩ = false := var_frozen o_o (by simp) 1 _ rfl
                    have o_oc2 : w7.cell? ⟨(w.heap.size + 1), 2, none⟩ = some (.int .i64 (n : Int)) := var_load o_o (by simp) 2 _ rfl
                    have o_of2 : w7.frozen? ⟨(w.heap.size + 1), 2, none⟩ = false := var_frozen o_o (by simp) 2 _ rfl
                    have o_ol := var_lt o_o
                    go_wp2_with fail
                    (refine (HT.out _).mono ?_); rintro e w8 ⟨rfl, b8⟩
                    clear o_oc0 o_of0 o_oc1 o_of1 o_oc2 o_of2 o_ol
                    replace o_o := owns_below o_o b8
                    replace o_r := owns_below o_r b8
                    replace HB := HB.trans (b8.mono HB.size)
                    have o_rc0 : w8.cell? ⟨w.heap.size, 0, none⟩ = some (.bool false) := var_load o_r (by simp) 0 _ rfl
                    have o_rf0 : w8.frozen? ⟨w.heap.size, 0, none⟩ = false := var_frozen o_r (by simp) 0 _ rfl
                    have o_rc1 : w8.cell? ⟨w.heap.size, 1, none⟩ = some (.string ⟨#[]⟩) := var_load o_r (by simp) 1 _ rfl
                    have o_rf1 : w8.frozen? ⟨w.heap.size, 1, none⟩ = false := var_frozen o_r (by simp) 1 _ rfl
                    have o_rc2 : w8.cell? ⟨w.heap.size, 2, none⟩ = some (.int .i64 0) := var_load o_r (by simp) 2 _ rfl
                    have o_rf2 : w8.frozen? ⟨w.heap.size, 2, none⟩ = false := var_frozen o_r (by simp) 2 _ rfl
                    have o_rl := var_lt o_r
                    go_wp2
                    obtain ⟨wf, hf⟩ : ∃ y, y = (((w8.setCell ⟨w.heap.size, 0, none⟩ (.bool false)).setCell ⟨w.heap.size, 1, none⟩ (.string ⟨#[]⟩)).setCell ⟨w.heap.size, 2, none⟩ (.int .i64 0)) := ⟨_, rfl⟩
                    obtain ⟨o_r2, t2⟩ := var_some [.bool false, .string ⟨#[]⟩, .int .i64 0] 0 _ _ o_r (by simp)
                    rw [show setAll w8 w.heap.size 0 [.bool false, .string ⟨#[]⟩, .int .i64 0] = wf from hf.symm] at o_r2 t2
                    have HF := below_turned HB t2 (fun b hb => by simp at hb; omega)
                    clear o_rc0 o_rf0 o_rc1 o_rf1 o_rc2 o_rf2 o_rl
                    have o_r2c0 : wf.cell? ⟨w.heap.size, 0, none⟩ = some (.bool false) := var_load o_r2 (by simp) 0 _ rfl
                    have o_r2c1 : wf.cell? ⟨w.heap.size, 1, none⟩ = some (.string ⟨#[]⟩) := var_load o_r2 (by simp) 1 _ rfl
                    have o_r2c2 : wf.cell? ⟨w.heap.size, 2, none⟩ = some (.int .i64 0) := var_load o_r2 (by simp) 2 _ rfl
                    have o_r2l := var_lt o_r2
                    rw [← hf]
                    exact bodyPost_ret (v := .tuple #[.agg #[.bool false, .string ⟨#[]⟩, .int .i64 0], .bool false]) (by simp [results, Tryz.results34, go_sem, o_r2c0, o_r2c1, o_r2c2]) rfl (made_po ⟨false, ⟨#[]⟩, 0⟩ false HF)
              · obtain ⟨rfl, rfl⟩ : B = false ∧ X = ⟨false, ⟨#[]⟩, 0⟩ := by
                  have h4 := po_f (po_noport HC.out HD.out (by rw [str_bts]; exact hN))
                  exact ⟨HQ.out.1.trans h4.1, HQ.out.2.trans h4.2⟩
                have HY := Lib.hid (fun wx : World => C1P.specNo (r.extract (k + 1) r.size) hN wx (by omega))
                clear hN HC HD HQ
                go_wp2_with fail
                (refine (HY.out _).mono ?_); rintro e w2 ⟨rfl, b2⟩
                replace o_r := owns_below o_r b2
                replace HB := HB.trans (b2.mono HB.size)
                have o_rc0 : w2.cell? ⟨w.heap.size, 0, none⟩ = some (.bool false) := var_load o_r (by simp) 0 _ rfl
                have o_rf0 : w2.frozen? ⟨w.heap.size, 0, none⟩ = false := var_frozen o_r (by simp) 0 _ rfl
                have o_rc1 : w2.cell? ⟨w.heap.size, 1, none⟩ = some (.string ⟨#[]⟩) := var_load o_r (by simp) 1 _ rfl
                have o_rf1 : w2.frozen? ⟨w.heap.size, 1, none⟩ = false := var_frozen o_r (by simp) 1 _ rfl
                have o_rc2 : w2.cell? ⟨w.heap.size, 2, none⟩ = some (.int .i64 0) := var_load o_r (by simp) 2 _ rfl
                have o_rf2 : w2.frozen? ⟨w.heap.size, 2, none⟩ = false := var_frozen o_r (by simp) 2 _ rfl
                have o_rl := var_lt o_r
                go_wp2
                obtain ⟨wf, hf⟩ : ∃ y, y = (((w2.setCell ⟨w.heap.size, 0, none⟩ (.bool false)).setCell ⟨w.heap.size, 1, none⟩ (.string ⟨#[]⟩)).setCell ⟨w.heap.size, 2, none⟩ (.int .i64 0)) := ⟨_, rfl⟩
                obtain ⟨o_r2, t2⟩ := var_some [.bool false, .string ⟨#[]⟩, .int .i64 0] 0 _ _ o_r (by simp)
                rw [show setAll w2 w.heap.size 0 [.bool false, .string ⟨#[]⟩, .int .i64 0] = wf from hf.symm] at o_r2 t2
                have HF := below_turned HB t2 (fun b hb => by simp at hb; omega)
                clear o_rc0 o_rf0 o_rc1 o_rf1 o_rc2 o_rf2 o_rl
                have o_r2c0 : wf.cell? ⟨w.heap.size, 0, none⟩ = some (.bool false) := var_load o_r2 (by simp) 0 _ rfl
                have o_r2c1 : wf.cell? ⟨w.heap.size, 1, none⟩ = some (.string ⟨#[]⟩) := var_load o_r2 (by simp) 1 _ rfl
                have o_r2c2 : wf.cell? ⟨w.heap.size, 2, none⟩ = some (.int .i64 0) := var_load o_r2 (by simp) 2 _ rfl
                have o_r2l := var_lt o_r2
                rw [← hf]
                exact bodyPost_ret (v := .tuple #[.agg #[.bool false, .string ⟨#[]⟩, .int .i64 0], .bool false]) (by simp [results, Tryz.results34, go_sem, o_r2c0, o_r2c1, o_r2c2]) rfl (made_po ⟨false, ⟨#[]⟩, 0⟩ false HF)
            · have hcb : ((r[k].toNat : Int) == 58) = false := by rw [byte58]; simpa using hc
              go_wp2
              go_round
              case rel =>
                refine ⟨k + 1, by omega, by go_num, fun j hj hjk => ?_⟩
                by_cases h : j < k
                · exact HG.out j hj h
                · obtain rfl : j = k := by omega
                  exact hc
              case measure => simp [intOf]; omega
          · obtain rfl : k = r.size := by omega
            have HU := Lib.hid (show ∀ o : Fx.Origin, orgB o = true → fmtO o = bts s → o = ⟨false, r, (80 : Int)⟩ from fun o h1 h2 => by
              have h3 := before (Nat.le_refl r.size) HG.out
              rw [show r.extract 0 r.size = r from ByteArray.extract_zero_size] at h3
              rw [po_plain HP.out h3 o h1 h2, str_bts]; rfl)
            clear HG HP
            have o_oc0 : w1.cell? ⟨(w.heap.size + 1), 0, none⟩ = some (.bool false) := var_load o_o (by simp) 0 _ rfl
            have o_of0 : w1.frozen? ⟨(w.heap.size + 1), 0, none⟩ = false := var_frozen o_o (by simp) 0 _ rfl
            have o_oc1 : w1.cell? ⟨(w.heap.size + 1), 1, none⟩ = some (.string r) := var_load o_o (by simp) 1 _ rfl
            have o_of1 : w1.frozen? ⟨(w.heap.size + 1), 1, none⟩ = false := var_frozen o_o (by simp) 1 _ rfl
            have o_oc2 : w1.cell? ⟨(w.heap.size + 1), 2, none⟩ = some (.int .i64 80) := var_load o_o (by simp) 2 _ rfl
            have o_of2 : w1.frozen? ⟨(w.heap.size + 1), 2, none⟩ = false := var_frozen o_o (by simp) 2 _ rfl
            have o_ol := var_lt o_o
            go_wp2_with fail
            clear o_oc0 o_of0 o_oc1 o_of1 o_oc2 o_of2 o_ol
            rcases po_c HU.out with ⟨k1, k2, k3, k4⟩ | ⟨k1, k3, k4⟩
            · obtain ⟨rfl, rfl⟩ : B = true ∧ X = (⟨false, r, 80⟩ : Fx.Origin) := ⟨HQ.out.1.trans k3, HQ.out.2.trans k4⟩
              clear k3 k4 HQ
              have HO := Lib.hid (fun wx : World => show Calls Tryz.prog 63 #[.agg #[.bool false, .string r, .int .i64 80]] wx (Gives (.bool true) wx) from by have h9 := C9b.specOrg wx (⟨false, r, 80⟩ : Fx.Origin) _ Origin.mkR (show r.size ≤ 4294967296 by omega); rw [k1] at h9; exact h9)
              have HT := Lib.hid (fun wx : World => show Calls Tryz.prog 67 #[.agg #[.bool false, .string r, .int .i64 80]] wx (Gives (.string s) wx) from by have h9 := C9b.specFmtO wx (⟨false, r, 80⟩ : Fx.Origin) _ Origin.mkR (show r.size ≤ 4294967296 by omega); rw [show str (fmtO (⟨false, r, 80⟩ : Fx.Origin)) = s by rw [k2, str_bts]] at h9; exact h9)
              clear k1 k2
              (refine (HO.out _).mono ?_); rintro e w7 ⟨rfl, b7⟩
              replace o_o := owns_below o_o b7
              replace o_r := owns_below o_r b7
              replace HB := HB.trans (b7.mono HB.size)
              have o_oc0 : w7.cell? ⟨(w.heap.size + 1), 0, none⟩ = some (.bool false) := var_load o_o (by simp) 0 _ rfl
              have o_of0 : w7.frozen? ⟨(w.heap.size + 1), 0, none⟩ = false := var_frozen o_o (by simp) 0 _ rfl
              have o_oc1 : w7.cell? ⟨(w.heap.size + 1), 1, none⟩ = some (.string r) := var_load o_o (by simp) 1 _ rfl
              have o_of1 : w7.frozen? ⟨(w.heap.size + 1), 1, none⟩ = false := var_frozen o_o (by simp) 1 _ rfl
              have o_oc2 : w7.cell? ⟨(w.heap.size + 1), 2, none⟩ = some (.int .i64 80) := var_load o_o (by simp) 2 _ rfl
              have o_of2 : w7.frozen? ⟨(w.heap.size + 1), 2, none⟩ = false := var_frozen o_o (by simp) 2 _ rfl
              have o_ol := var_lt o_o
              go_wp2_with fail
              (refine (HT.out _).mono ?_); rintro e w8 ⟨rfl, b8⟩
              clear o_oc0 o_of0 o_oc1 o_of1 o_oc2 o_of2 o_ol
              replace o_o := owns_below o_o b8
              replace o_r := owns_below o_r b8
              replace HB := HB.trans (b8.mono HB.size)
              have o_rc0 : w8.cell? ⟨w.heap.size, 0, none⟩ = some (.bool false) := var_load o_r (by simp) 0 _ rfl
              have o_rf0 : w8.frozen? ⟨w.heap.size, 0, none⟩ = false := var_frozen o_r (by simp) 0 _ rfl
              have o_rc1 : w8.cell? ⟨w.heap.size, 1, none⟩ = some (.string ⟨#[]⟩) := var_load o_r (by simp) 1 _ rfl
              have o_rf1 : w8.frozen? ⟨w.heap.size, 1, none⟩ = false := var_frozen o_r (by simp) 1 _ rfl
              have o_rc2 : w8.cell? ⟨w.heap.size, 2, none⟩ = some (.int .i64 0) := var_load o_r (by simp) 2 _ rfl
              have o_rf2 : w8.frozen? ⟨w.heap.size, 2, none⟩ = false := var_frozen o_r (by simp) 2 _ rfl
              have o_rl := var_lt o_r
              have o_oc0 : w8.cell? ⟨(w.heap.size + 1), 0, none⟩ = some (.bool false) := var_load o_o (by simp) 0 _ rfl
              have o_of0 : w8.frozen? ⟨(w.heap.size + 1), 0, none⟩ = false := var_frozen o_o (by simp) 0 _ rfl
              have o_oc1 : w8.cell? ⟨(w.heap.size + 1), 1, none⟩ = some (.string r) := var_load o_o (by simp) 1 _ rfl
              have o_of1 : w8.frozen? ⟨(w.heap.size + 1), 1, none⟩ = false := var_frozen o_o (by simp) 1 _ rfl
              have o_oc2 : w8.cell? ⟨(w.heap.size + 1), 2, none⟩ = some (.int .i64 80) := var_load o_o (by simp) 2 _ rfl
              have o_of2 : w8.frozen? ⟨(w.heap.size + 1), 2, none⟩ = false := var_frozen o_o (by simp) 2 _ rfl
              have o_ol := var_lt o_o
              go_wp2
              obtain ⟨wf, hf⟩ : ∃ y, y = (((w8.setCell ⟨w.heap.size, 0, none⟩ (.bool false)).setCell ⟨w.heap.size, 1, none⟩ (.string r)).setCell ⟨w.heap.size, 2, none⟩ (.int .i64 80)) := ⟨_, rfl⟩
              obtain ⟨o_r2, t2⟩ := var_some [.bool false, .string r, .int .i64 80] 0 _ _ o_r (by simp)
              rw [show setAll w8 w.heap.size 0 [.bool false, .string r, .int .i64 80] = wf from hf.symm] at o_r2 t2
              have HF := below_turned HB t2 (fun b hb => by simp at hb; omega)
              clear o_rc0 o_rf0 o_rc1 o_rf1 o_rc2 o_rf2 o_rl
              have o_r2c0 : wf.cell? ⟨w.heap.size, 0, none⟩ = some (.bool false) := var_load o_r2 (by simp) 0 _ rfl
              have o_r2c1 : wf.cell? ⟨w.heap.size, 1, none⟩ = some (.string r) := var_load o_r2 (by simp) 1 _ rfl
              have o_r2c2 : wf.cell? ⟨w.heap.size, 2, none⟩ = some (.int .i64 80) := var_load o_r2 (by simp) 2 _ rfl
              have o_r2l := var_lt o_r2
              rw [← hf]
              exact bodyPost_ret (v := .tuple #[.agg #[.bool false, .string r, .int .i64 80], .bool true]) (by simp [results, Tryz.results34, go_sem, o_r2c0, o_r2c1, o_r2c2]) rfl (made_po ⟨false, r, 80⟩ true HF)
            · obtain ⟨rfl, rfl⟩ : B = false ∧ X = ⟨false, ⟨#[]⟩, 0⟩ := ⟨HQ.out.1.trans k3, HQ.out.2.trans k4⟩
              clear k3 k4 HQ
              cases k5 : orgB (⟨false, r, 80⟩ : Fx.Origin) with
              | false =>
                have HO := Lib.hid (fun wx : World => show Calls Tryz.prog 63 #[.agg #[.bool false, .string r, .int .i64 80]] wx (Gives (.bool false) wx) from by have h9 := C9b.specOrg wx (⟨false, r, 80⟩ : Fx.Origin) _ Origin.mkR (show r.size ≤ 4294967296 by omega); rw [k5] at h9; exact h9)
                clear k1 k5
                (refine (HO.out _).mono ?_); rintro e w7 ⟨rfl, b7⟩
                replace o_o := owns_below o_o b7
                replace o_r := owns_below o_r b7
                replace HB := HB.trans (b7.mono HB.size)
                have o_rc0 : w7.cell? ⟨w.heap.size, 0, none⟩ = some (.bool false) := var_load o_r (by simp) 0 _ rfl
                have o_rf0 : w7.frozen? ⟨w.heap.size, 0, none⟩ = false := var_frozen o_r (by simp) 0 _ rfl
                have o_rc1 : w7.cell? ⟨w.heap.size, 1, none⟩ = some (.string ⟨#[]⟩) := var_load o_r (by simp) 1 _ rfl
                have o_rf1 : w7.frozen? ⟨w.heap.size, 1, none⟩ = false := var_frozen o_r (by simp) 1 _ rfl
                have o_rc2 : w7.cell? ⟨w.heap.size, 2, none⟩ = some (.int .i64 0) := var_load o_r (by simp) 2 _ rfl
                have o_rf2 : w7.frozen? ⟨w.heap.size, 2, none⟩ = false := var_frozen o_r (by simp) 2 _ rfl
                have o_rl := var_lt o_r
                go_wp2
                obtain ⟨wf, hf⟩ : ∃ y, y = (((w7.setCell ⟨w.heap.size, 0, none⟩ (.bool false)).setCell ⟨w.heap.size, 1, none⟩ (.string ⟨#[]⟩)).setCell ⟨w.heap.size, 2, none⟩ (.int .i64 0)) := ⟨_, rfl⟩
                obtain ⟨o_r2, t2⟩ := var_some [.bool false, .string ⟨#[]⟩, .int .i64 0] 0 _ _ o_r (by simp)
                rw [show setAll w7 w.heap.size 0 [.bool false, .string ⟨#[]⟩, .int .i64 0] = wf from hf.symm] at o_r2 t2
                have HF := below_turned HB t2 (fun b hb => by simp at hb; omega)
                clear o_rc0 o_rf0 o_rc1 o_rf1 o_rc2 o_rf2 o_rl
                have o_r2c0 : wf.cell? ⟨w.heap.size, 0, none⟩ = some (.bool false) := var_load o_r2 (by simp) 0 _ rfl
                have o_r2c1 : wf.cell? ⟨w.heap.size, 1, none⟩ = some (.string ⟨#[]⟩) := var_load o_r2 (by simp) 1 _ rfl
                have o_r2c2 : wf.cell? ⟨w.heap.size, 2, none⟩ = some (.int .i64 0) := var_load o_r2 (by simp) 2 _ rfl
                have o_r2l := var_lt o_r2
                rw [← hf]
                exact bodyPost_ret (v := .tuple #[.agg #[.bool false, .string ⟨#[]⟩, .int .i64 0], .bool false]) (by simp [results, Tryz.results34, go_sem, o_r2c0, o_r2c1, o_r2c2]) rfl (made_po ⟨false, ⟨#[]⟩, 0⟩ false HF)
              | true =>
                have HO := Lib.hid (fun wx : World => show Calls Tryz.prog 63 #[.agg #[.bool false, .string r, .int .i64 80]] wx (Gives (.bool true) wx) from by have h9 := C9b.specOrg wx (⟨false, r, 80⟩ : Fx.Origin) _ Origin.mkR (show r.size ≤ 4294967296 by omega); rw [k5] at h9; exact h9)
                obtain ⟨t, ht⟩ : ∃ t, t = str (fmtO (⟨false, r, 80⟩ : Fx.Origin)) := ⟨_, rfl⟩
                have HT := Lib.hid (fun wx : World => show Calls Tryz.prog 67 #[.agg #[.bool false, .string r, .int .i64 80]] wx (Gives (.string t) wx) from by have h9 := C9b.specFmtO wx (⟨false, r, 80⟩ : Fx.Origin) _ Origin.mkR (show r.size ≤ 4294967296 by omega); rw [← ht] at h9; exact h9)
                have hne : (t.toList == s.toList) = false := by
                  rcases k1 with k1 | k1
                  · rw [k5] at k1; cases k1
                  · rw [toList_bts, toList_bts, ht, bts_str]; simpa using k1
                clear k1 k5 ht
                (refine (HO.out _).mono ?_); rintro e w7 ⟨rfl, b7⟩
                replace o_o := owns_below o_o b7
                replace o_r := owns_below o_r b7
                replace HB := HB.trans (b7.mono HB.size)
                have o_oc0 : w7.cell? ⟨(w.heap.size + 1), 0, none⟩ = some (.bool false) := var_load o_o (by simp) 0 _ rfl
                have o_of0 : w7.frozen? ⟨(w.heap.size + 1), 0, none⟩ = false := var_frozen o_o (by simp) 0 _ rfl
                have o_oc1 : w7.cell? ⟨(w.heap.size + 1), 1, none⟩ = some (.string r) := var_load o_o (by simp) 1 _ rfl
                have o_of1 : w7.frozen? ⟨(w.heap.size + 1), 1, none⟩ = false := var_frozen o_o (by simp) 1 _ rfl
                have o_oc2 : w7.cell? ⟨(w.heap.size + 1), 2, none⟩ = some (.int .i64 80) := var_load o_o (by simp) 2 _ rfl
                have o_of2 : w7.frozen? ⟨(w.heap.size + 1), 2, none⟩ = false := var_frozen o_o (by simp) 2 _ rfl
                have o_ol := var_lt o_o
                go_wp2_with fail
                (refine (HT.out _).mono ?_); rintro e w8 ⟨rfl, b8⟩
                clear o_oc0 o_of0 o_oc1 o_of1 o_oc2 o_of2 o_ol
                replace o_o := owns_below o_o b8
                replace o_r := owns_below o_r b8
                replace HB := HB.trans (b8.mono HB.size)
                have o_rc0 : w8.cell? ⟨w.heap.size, 0, none⟩ = some (.bool false) := var_load o_r (by simp) 0 _ rfl
                have o_rf0 : w8.frozen? ⟨w.heap.size, 0, none⟩ = false := var_frozen o_r (by simp) 0 _ rfl
                have o_rc1 : w8.cell? ⟨w.heap.size, 1, none⟩ = some (.string ⟨#[]⟩) := var_load o_r (by simp) 1 _ rfl
                have o_rf1 : w8.frozen? ⟨w.heap.size, 1, none⟩ = false := var_frozen o_r (by simp) 1 _ rfl
                have o_rc2 : w8.cell? ⟨w.heap.size, 2, none⟩ = some (.int .i64 0) := var_load o_r (by simp) 2 _ rfl
                have o_rf2 : w8.frozen? ⟨w.heap.size, 2, none⟩ = false := var_frozen o_r (by simp) 2 _ rfl
                have o_rl := var_lt o_r
                go_wp2
                obtain ⟨wf, hf⟩ : ∃ y, y = (((w8.setCell ⟨w.heap.size, 0, none⟩ (.bool false)).setCell ⟨w.heap.size, 1, none⟩ (.string ⟨#[]⟩)).setCell ⟨w.heap.size, 2, none⟩ (.int .i64 0)) := ⟨_, rfl⟩
                obtain ⟨o_r2, t2⟩ := var_some [.bool false, .string ⟨#[]⟩, .int .i64 0] 0 _ _ o_r (by simp)
                rw [show setAll w8 w.heap.size 0 [.bool false, .string ⟨#[]⟩, .int .i64 0] = wf from hf.symm] at o_r2 t2
                have HF := below_turned HB t2 (fun b hb => by simp at hb; omega)
                clear o_rc0 o_rf0 o_rc1 o_rf1 o_rc2 o_rf2 o_rl
                have o_r2c0 : wf.cell? ⟨w.heap.size, 0, none⟩ = some (.bool false) := var_load o_r2 (by simp) 0 _ rfl
                have o_r2c1 : wf.cell? ⟨w.heap.size, 1, none⟩ = some (.string ⟨#[]⟩) := var_load o_r2 (by simp) 1 _ rfl
                have o_r2c2 : wf.cell? ⟨w.heap.size, 2, none⟩ = some (.int .i64 0) := var_load o_r2 (by simp) 2 _ rfl
                have o_r2l := var_lt o_r2
                rw [← hf]
                exact bodyPost_ret (v := .tuple #[.agg #[.bool false, .string ⟨#[]⟩, .int .i64 0], .bool false]) (by simp [results, Tryz.results34, go_sem, o_r2c0, o_r2c1, o_r2c2]) rfl (made_po ⟨false, ⟨#[]⟩, 0⟩ false HF)
    · have HN := Lib.hid (po_f (po_none (s := bts s) (fun b x hx e => by
        have hl : s.size = (bts s).length := (bts_len s).symm
        have hx1 : 1 ≤ x.length := List.length_pos_iff.2 hx
        cases b with
        | true =>
          rw [e, List.length_append] at hl
          simp only [pre, if_true, List.length_cons, List.length_nil] at hl
          refine hA ⟨by omega, ?_⟩
          rw [extract_is s 0 8 (Nat.zero_le _) (by omega)]
          show str (List.take 8 (bts s)) = _
          rw [e]; rfl
        | false =>
          rw [e, List.length_append] at hl
          simp only [pre, Bool.false_eq_true, if_false, List.length_cons, List.length_nil] at hl
          refine hZ ⟨by omega, ?_⟩
          rw [extract_is s 0 7 (Nat.zero_le _) (by omega)]
          show str (List.take 7 (bts s)) = _
          rw [e]; rfl)))
      obtain ⟨rfl, rfl⟩ : B = false ∧ X = ⟨false, ⟨#[]⟩, 0⟩ := ⟨HQ.out.1.trans HN.out.1, HQ.out.2.trans HN.out.2⟩
      clear HQ HN
      obtain ⟨w1, hw1⟩ : ∃ y, y = w0.alloc (.cells #[.bool false, .string ⟨#[]⟩, .int .i64 0] 43) := ⟨_, rfl⟩
      have o_o := var_owns w0 43 3 [.bool false, .string ⟨#[]⟩, .int .i64 0] rfl
      rw [← hw1, s0] at o_o
      have b1 : Below w0.heap.size w0 w1 := hw1 ▸ (Below.refl _ _).alloc (Nat.le_refl _) _
      replace o_r := owns_below o_r b1
      have HB := HB0.trans (b1.mono HB0.size)
      clear b1 HB0
      have HO := Lib.hid (fun wx : World => show Calls Tryz.prog 63 #[.agg #[.bool false, .string ⟨#[]⟩, .int .i64 0]] wx (Gives (.bool false) wx) from C9b.specOrg wx ⟨false, ⟨#[]⟩, 0⟩ _ Origin.mkR (Nat.zero_le _))
      by_cases h8 : 8 < s.size
      · have hA1 : ((s.extract 0 8).toList == [104, 116, 116, 112, 115, 58, 47, 47]) = false := by rw [beq_eq_false_iff_ne]; intro e; exact hA ⟨h8, bts_inj (by rw [← toList_bts, e]; rfl)⟩
        have hB1 : ((s.extract 0 7).toList == [104, 116, 116, 112, 58, 47, 47]) = false := by rw [beq_eq_false_iff_ne]; intro e; exact hZ ⟨by omega, bts_inj (by rw [← toList_bts, e]; rfl)⟩
        clear hA hZ
        go_enter Tryz.func34, Tryz.ntmps34
        go_wp2_with fail
        rw [← hw0, ← hw1]
        clear hw0 hw1
        go_loop [6] (fun i => i = .int .i64 0) (fun _ => 0)
        case atStart => rfl
        case round =>
          obtain rfl := hrel
          have o_oc0 : w1.cell? ⟨(w.heap.size + 1), 0, none⟩ = some (.bool false) := var_load o_o (by simp) 0 _ rfl
          have o_of0 : w1.frozen? ⟨(w.heap.size + 1), 0, none⟩ = false := var_frozen o_o (by simp) 0 _ rfl
          have o_oc1 : w1.cell? ⟨(w.heap.size + 1), 1, none⟩ = some (.string ⟨#[]⟩) := var_load o_o (by simp) 1 _ rfl
          have o_of1 : w1.frozen? ⟨(w.heap.size + 1), 1, none⟩ = false := var_frozen o_o (by simp) 1 _ rfl
          have o_oc2 : w1.cell? ⟨(w.heap.size + 1), 2, none⟩ = some (.int .i64 0) := var_load o_o (by simp) 2 _ rfl
          have o_of2 : w1.frozen? ⟨(w.heap.size + 1), 2, none⟩ = false := var_frozen o_o (by simp) 2 _ rfl
          have o_ol := var_lt o_o
          go_wp2_with fail
          (refine (HO.out _).mono ?_); rintro e w7 ⟨rfl, b7⟩
          clear o_oc0 o_of0 o_oc1 o_of1 o_oc2 o_of2 o_ol
          replace o_r := owns_below o_r b7
          replace HB := HB.trans (b7.mono HB.size)
          have o_rc0 : w7.cell? ⟨w.heap.size, 0, none⟩ = some (.bool false) := var_load o_r (by simp) 0 _ rfl
          have o_rf0 : w7.frozen? ⟨w.heap.size, 0, none⟩ = false := var_frozen o_r (by simp) 0 _ rfl
          have o_rc1 : w7.cell? ⟨w.heap.size, 1, none⟩ = some (.string ⟨#[]⟩) := var_load o_r (by simp) 1 _ rfl
          have o_rf1 : w7.frozen? ⟨w.heap.size, 1, none⟩ = false := var_frozen o_r (by simp) 1 _ rfl
          have o_rc2 : w7.cell? ⟨w.heap.size, 2, none⟩ = some (.int .i64 0) := var_load o_r (by simp) 2 _ rfl
          have o_rf2 : w7.frozen? ⟨w.heap.size, 2, none⟩ = false := var_frozen o_r (by simp) 2 _ rfl
          have o_rl := var_lt o_r
          go_wp2
          obtain ⟨wf, hf⟩ : ∃ y, y = (((w7.setCell ⟨w.heap.size, 0, none⟩ (.bool false)).setCell ⟨w.heap.size, 1, none⟩ (.string ⟨#[]⟩)).setCell ⟨w.heap.size, 2, none⟩ (.int .i64 0)) := ⟨_, rfl⟩
          obtain ⟨o_r2, t2⟩ := var_some [.bool false, .string ⟨#[]⟩, .int .i64 0] 0 _ _ o_r (by simp)
          rw [show setAll w7 w.heap.size 0 [.bool false, .string ⟨#[]⟩, .int .i64 0] = wf from hf.symm] at o_r2 t2
          have HF := below_turned HB t2 (fun b hb => by simp at hb; omega)
          clear o_rc0 o_rf0 o_rc1 o_rf1 o_rc2 o_rf2 o_rl
          have o_r2c0 : wf.cell? ⟨w.heap.size, 0, none⟩ = some (.bool false) := var_load o_r2 (by simp) 0 _ rfl
          have o_r2c1 : wf.cell? ⟨w.heap.size, 1, none⟩ = some (.string ⟨#[]⟩) := var_load o_r2 (by simp) 1 _ rfl
          have o_r2c2 : wf.cell? ⟨w.heap.size, 2, none⟩ = some (.int .i64 0) := var_load o_r2 (by simp) 2 _ rfl
          have o_r2l := var_lt o_r2
          rw [← hf]
          exact bodyPost_ret (v := .tuple #[.agg #[.bool false, .string ⟨#[]⟩, .int .i64 0], .bool false]) (by simp [results, Tryz.results34, go_sem, o_r2c0, o_r2c1, o_r2c2]) rfl (made_po ⟨false, ⟨#[]⟩, 0⟩ false HF)
      · by_cases h7 : 7 < s.size
        · have hB1 : ((s.extract 0 7).toList == [104, 116, 116, 112, 58, 47, 47]) = false := by rw [beq_eq_false_iff_ne]; intro e; exact hZ ⟨h7, bts_inj (by rw [← toList_bts, e]; rfl)⟩
          clear hA hZ
          go_enter Tryz.func34, Tryz.ntmps34
          go_wp2_with fail
          rw [← hw0, ← hw1]
          clear hw0 hw1
          go_loop [6] (fun i => i = .int .i64 0) (fun _ => 0)
          case atStart => rfl
          case round =>
            obtain rfl := hrel
            have o_oc0 : w1.cell? ⟨(w.heap.size + 1), 0, none⟩ = some (.bool false) := var_load o_o (by simp) 0 _ rfl
            have o_of0 : w1.frozen? ⟨(w.heap.size + 1), 0, none⟩ = false := var_frozen o_o (by simp) 0 _ rfl
            have o_oc1 : w1.cell? ⟨(w.heap.size + 1), 1, none⟩ = some (.string ⟨#[]⟩) := var_load o_o (by simp) 1 _ rfl
            have o_of1 : w1.frozen? ⟨(w.heap.size + 1), 1, none⟩ = false := var_frozen o_o (by simp) 1 _ rfl
            have o_oc2 : w1.cell? ⟨(w.heap.size + 1), 2, none⟩ = some (.int .i64 0) := var_load o_o (by simp) 2 _ rfl
            have o_of2 : w1.frozen? ⟨(w.heap.size + 1), 2, none⟩ = false := var_frozen o_o (by simp) 2 _ rfl
            have o_ol := var_lt o_o
            go_wp2_with fail
            (refine (HO.out _).mono ?_); rintro e w7 ⟨rfl, b7⟩
            clear o_oc0 o_of0 o_oc1 o_of1 o_oc2 o_of2 o_ol
            replace o_r := owns_below o_r b7
            replace HB := HB.trans (b7.mono HB.size)
            have o_rc0 : w7.cell? ⟨w.heap.size, 0, none⟩ = some (.bool false) := var_load o_r (by simp) 0 _ rfl
            have o_rf0 : w7.frozen? ⟨w.heap.size, 0, none⟩ = false := var_frozen o_r (by simp) 0 _ rfl
            have o_rc1 : w7.cell? ⟨w.heap.size, 1, none⟩ = some (.string ⟨#[]⟩) := var_load o_r (by simp) 1 _ rfl
            have o_rf1 : w7.frozen? ⟨w.heap.size, 1, none⟩ = false := var_frozen o_r (by simp) 1 _ rfl
            have o_rc2 : w7.cell? ⟨w.heap.size, 2, none⟩ = some (.int .i64 0) := var_load o_r (by simp) 2 _ rfl
            have o_rf2 : w7.frozen? ⟨w.heap.size, 2, none⟩ = false := var_frozen o_r (by simp) 2 _ rfl
            have o_rl := var_lt o_r
            go_wp2
            obtain ⟨wf, hf⟩ : ∃ y, y = (((w7.setCell ⟨w.heap.size, 0, none⟩ (.bool false)).setCell ⟨w.heap.size, 1, none⟩ (.string ⟨#[]⟩)).setCell ⟨w.heap.size, 2, none⟩ (.int .i64 0)) := ⟨_, rfl⟩
            obtain ⟨o_r2, t2⟩ := var_some [.bool false, .string ⟨#[]⟩, .int .i64 0] 0 _ _ o_r (by simp)
            rw [show setAll w7 w.heap.size 0 [.bool false, .string ⟨#[]⟩, .int .i64 0] = wf from hf.symm] at o_r2 t2
            have HF := below_turned HB t2 (fun b hb => by simp at hb; omega)
            clear o_rc0 o_rf0 o_rc1 o_rf1 o_rc2 o_rf2 o_rl
            have o_r2c0 : wf.cell? ⟨w.heap.size, 0, none⟩ = some (.bool false) := var_load o_r2 (by simp) 0 _ rfl
            have o_r2c1 : wf.cell? ⟨w.heap.size, 1, none⟩ = some (.string ⟨#[]⟩) := var_load o_r2 (by simp) 1 _ rfl
            have o_r2c2 : wf.cell? ⟨w.heap.size, 2, none⟩ = some (.int .i64 0) := var_load o_r2 (by simp) 2 _ rfl
            have o_r2l := var_lt o_r2
            rw [← hf]
            exact bodyPost_ret (v := .tuple #[.agg #[.bool false, .string ⟨#[]⟩, .int .i64 0], .bool false]) (by simp [results, Tryz.results34, go_sem, o_r2c0, o_r2c1, o_r2c2]) rfl (made_po ⟨false, ⟨#[]⟩, 0⟩ false HF)
        · have h70 : True := trivial
          clear hA hZ
          go_enter Tryz.func34, Tryz.ntmps34
          go_wp2_with fail
          rw [← hw0, ← hw1]
          clear hw0 hw1
          go_loop [6] (fun i => i = .int .i64 0) (fun _ => 0)
          case atStart => rfl
          case round =>
            obtain rfl := hrel
            have o_oc0 : w1.cell? ⟨(w.heap.size + 1), 0, none⟩ = some (.bool false) := var_load o_o (by simp) 0 _ rfl
            have o_of0 : w1.frozen? ⟨(w.heap.size + 1), 0, none⟩ = false := var_frozen o_o (by simp) 0 _ rfl
            have o_oc1 : w1.cell? ⟨(w.heap.size + 1), 1, none⟩ = some (.string ⟨#[]⟩) := var_load o_o (by simp) 1 _ rfl
            have o_of1 : w1.frozen? ⟨(w.heap.size + 1), 1, none⟩ = false := var_frozen o_o (by simp) 1 _ rfl
            have o_oc2 : w1.cell? ⟨(w.heap.size + 1), 2, none⟩ = some (.int .i64 0) := var_load o_o (by simp) 2 _ rfl
            have o_of2 : w1.frozen? ⟨(w.heap.size + 1), 2, none⟩ = false := var_frozen o_o (by simp) 2 _ rfl
            have o_ol := var_lt o_o
            go_wp2_with fail
            (refine (HO.out _).mono ?_); rintro e w7 ⟨rfl, b7⟩
            clear o_oc0 o_of0 o_oc1 o_of1 o_oc2 o_of2 o_ol
            replace o_r := owns_below o_r b7
            replace HB := HB.trans (b7.mono HB.size)
            have o_rc0 : w7.cell? ⟨w.heap.size, 0, none⟩ = some (.bool false) := var_load o_r (by simp) 0 _ rfl
            have o_rf0 : w7.frozen? ⟨w.heap.size, 0, none⟩ = false := var_frozen o_r (by simp) 0 _ rfl
            have o_rc1 : w7.cell? ⟨w.heap.size, 1, none⟩ = some (.string ⟨#[]⟩) := var_load o_r (by simp) 1 _ rfl
            have o_rf1 : w7.frozen? ⟨w.heap.size, 1, none⟩ = false := var_frozen o_r (by simp) 1 _ rfl
            have o_rc2 : w7.cell? ⟨w.heap.size, 2, none⟩ = some (.int .i64 0) := var_load o_r (by simp) 2 _ rfl
            have o_rf2 : w7.frozen? ⟨w.heap.size, 2, none⟩ = false := var_frozen o_r (by simp) 2 _ rfl
            have o_rl := var_lt o_r
            go_wp2
            obtain ⟨wf, hf⟩ : ∃ y, y = (((w7.setCell ⟨w.heap.size, 0, none⟩ (.bool false)).setCell ⟨w.heap.size, 1, none⟩ (.string ⟨#[]⟩)).setCell ⟨w.heap.size, 2, none⟩ (.int .i64 0)) := ⟨_, rfl⟩
            obtain ⟨o_r2, t2⟩ := var_some [.bool false, .string ⟨#[]⟩, .int .i64 0] 0 _ _ o_r (by simp)
            rw [show setAll w7 w.heap.size 0 [.bool false, .string ⟨#[]⟩, .int .i64 0] = wf from hf.symm] at o_r2 t2
            have HF := below_turned HB t2 (fun b hb => by simp at hb; omega)
            clear o_rc0 o_rf0 o_rc1 o_rf1 o_rc2 o_rf2 o_rl
            have o_r2c0 : wf.cell? ⟨w.heap.size, 0, none⟩ = some (.bool false) := var_load o_r2 (by simp) 0 _ rfl
            have o_r2c1 : wf.cell? ⟨w.heap.size, 1, none⟩ = some (.string ⟨#[]⟩) := var_load o_r2 (by simp) 1 _ rfl
            have o_r2c2 : wf.cell? ⟨w.heap.size, 2, none⟩ = some (.int .i64 0) := var_load o_r2 (by simp) 2 _ rfl
            have o_r2l := var_lt o_r2
            rw [← hf]
            exact bodyPost_ret (v := .tuple #[.agg #[.bool false, .string ⟨#[]⟩, .int .i64 0], .bool false]) (by simp [results, Tryz.results34, go_sem, o_r2c0, o_r2c1, o_r2c2]) rfl (made_po ⟨false, ⟨#[]⟩, 0⟩ false HF)
end Go.Proofs.YtogoppknimpkbaaGreatDoor.C9c
