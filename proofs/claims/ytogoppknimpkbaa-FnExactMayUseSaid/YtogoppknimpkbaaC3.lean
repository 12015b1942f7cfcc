/-
  Contracts of chapter 3's hash, of the program and of the model: Hash, KeyedHash, IsValidKey, BytesToInts, DeriveFromString.
-/
import Derived.Test.YtogoppknimpkbaaS2
import Derived.Test.YtogoppknimpkbaaC1
import Derived.Test.YtogoppknimpkbaaM3
import Derived.Test.YtogoppknimpkbaaSo
import Derived.Test.YtogoppknimpkbaaC2
namespace Go.Proofs.Ytogoppknimpkbaa.C3
open Go.ChangeShapes Go.WideShapes Go.ChangeAt Go.RowKit
open S0 S1 M3
set_option linter.unusedVariables false
def okInts (xs : List Int) : Prop := ∀ x ∈ xs, -9223372036854775808 ≤ x ∧ x ≤ 9223372036854775807
theorem okInts.get {xs : List Int} (h : okInts xs) (k : Nat) : -9223372036854775808 ≤ xs.getD k 0 ∧ xs.getD k 0 ≤ 9223372036854775807 := by
  rw [List.getD_eq_getElem?_getD]
  cases e : xs[k]? with
  | none => simp
  | some x => exact h x (List.mem_of_getElem? e)
theorem okInts.app {xs ys : List Int} (h : okInts xs) (h2 : okInts ys) : okInts (xs ++ ys) := by
  intro z hz
  rcases List.mem_append.1 hz with hz | hz
  · exact h z hz
  · exact h2 z hz
theorem okInts.one {x : Int} (h0 : -9223372036854775808 ≤ x) (h1 : x ≤ 9223372036854775807) : okInts [x] := by
  intro z hz
  obtain rfl : z = x := by simpa using hz
  exact ⟨h0, h1⟩
theorem okInts.nil : okInts [] := fun _ h => by cases h
theorem okInts.bytes {xs : List Int} (h : ∀ x ∈ xs, 0 ≤ x ∧ x ≤ 255) : okInts xs := fun x hx => by have := h x hx; omega
/-- Behind k values. -/
def Fold (d0 : Int) (xs : List Int) (k : Nat) (v : Value) (w wr : World) : Prop := ∃ d : Int, v = .int .i64 d ∧ inP d ∧ d = hfrom d0 (xs.take k) ∧ Below w.heap.size w wr
theorem Fold.next {d0 d : Int} {xs : List Int} {k : Nat} {w wr : World} {x d' : Int} (e : d = hfrom d0 (xs.take k)) (hk : k < xs.length) (hx : x = xs.getD k 0) (hd : inP d) (h' : d' = (d * 1000003 + x % 2147483647 + 13) % 2147483647) (hb : Below w.heap.size w wr) : Fold d0 xs (k + 1) (.int .i64 d') w wr := by
  have h2 : d' = hstep d x := h'
  exact ⟨d', rfl, by rw [h2]; exact hstep_in d x, by rw [hfrom_take d0 xs k hk, ← e, ← hx, h2], hb⟩
set_option maxHeartbeats 800000 in
set_option maxRecDepth 100000 in
theorem fold (w : World) (A : Option Addr) (n c : Nat) (xs : List Int) (d0 : Int) (hd0 : inP d0) (hr : Rd w w.heap.size 1 A n (ints .i64 xs)) (hx : okInts xs) (hn : n ≤ 4294967296) :
    Calls Try.prog 92 #[.int .i64 d0, .slice A n c] w (Gives (.int .i64 (hfrom d0 xs)) w) := by
  have hl : xs.length = n := by have := hr.len1; rw [ints_len] at this; exact this
  have HR := Lib.hid hr
  have HL := Lib.hid hl
  have HX := Lib.hid hx
  have HF : Fold d0 xs 0 (.int .i64 d0) w w := ⟨d0, rfl, hd0, rfl, Below.refl _ _⟩
  clear hr hl hx hd0
  go_enter Try.func92, Try.ntmps92
  go_wp2
  go_loopw [0, 9] (fun v i wr => ∃ k : Nat, k ≤ n ∧ i = .int .i64 k ∧ Fold d0 xs k v w wr) (fun _ i _ => n - (intOf i).toNat)
  case atStart => exact ⟨0, by omega, rfl, HF⟩
  case round =>
    obtain ⟨k, hk, rfl, d, rfl, hd, he, hb⟩ := hrel
    have HE := Lib.hid he
    clear he
    by_cases hlt : k < n
    · obtain ⟨b, off, rfl, hbl, hcell⟩ := (HR.out.below hb).at_ hlt
      obtain ⟨x0, x1⟩ := HX.out.get k
      obtain ⟨x, hxx⟩ : ∃ x, x = xs.getD k 0 := ⟨_, rfl⟩
      rw [← hxx] at hcell x0 x1
      have HXX := Lib.hid hxx
      clear hxx
      have HD := Lib.hid hd
      unfold inP at hd
      obtain ⟨hd0, hd1⟩ := hd
      have hm := M1.emod_lt x 2147483647 (by omega)
      go_wp2_with (go_at_call 97; (with_reducible refine (C1.implMod_in _ _ _ x0 x1 (by omega) (by omega)).mono ?_); rintro e w' ⟨rfl, rfl⟩)
      go_roundw
      case rel => exact ⟨k + 1, by omega, by go_num, Fold.next HE.out (by have := HL.out; omega) HXX.out HD.out rfl hb⟩
      case measure => simp [intOf]; omega
    · have hd' : decide (k < n) = false := by simp; omega
      have hkn : k = n := by omega
      have HK := Lib.hid hkn
      clear hkn
      go_wp2
      go_ret
      have e : xs.take k = xs := by rw [HK.out, ← HL.out, List.take_length]
      exact ⟨by rw [HE.out, e]; rfl, hb⟩
set_option maxHeartbeats 800000 in
set_option maxRecDepth 100000 in
theorem specHash (w : World) (A : Option Addr) (n c : Nat) (xs : List Int) (hr : Rd w w.heap.size 1 A n (ints .i64 xs)) (hx : okInts xs) (hn : n ≤ 4294967296) :
    Calls Try.prog 89 #[.slice A n c] w (Gives (.int .i64 (hash xs)) w) := by
  have hl : xs.length = n := by have := hr.len1; rw [ints_len] at this; exact this
  have HR := Lib.hid hr
  have HL := Lib.hid hl
  have HX := Lib.hid hx
  have HF : Fold 11 xs 0 (.int .i64 11) w w := ⟨11, rfl, by unfold inP; omega, rfl, Below.refl _ _⟩
  clear hr hl hx
  go_enter Try.func89, Try.ntmps89
  go_wp2
  go_loopw [3, 4] (fun v i wr => ∃ k : Nat, k ≤ n ∧ i = .int .i64 k ∧ Fold 11 xs k v w wr) (fun _ i _ => n - (intOf i).toNat)
  case atStart => exact ⟨0, by omega, rfl, HF⟩
  case round =>
    obtain ⟨k, hk, rfl, d, rfl, hd, he, hb⟩ := hrel
    have HE := Lib.hid he
    clear he
    by_cases hlt : k < n
    · obtain ⟨b, off, rfl, hbl, hcell⟩ := (HR.out.below hb).at_ hlt
      obtain ⟨x0, x1⟩ := HX.out.get k
      obtain ⟨x, hxx⟩ : ∃ x, x = xs.getD k 0 := ⟨_, rfl⟩
      rw [← hxx] at hcell x0 x1
      have HXX := Lib.hid hxx
      clear hxx
      have HD := Lib.hid hd
      unfold inP at hd
      obtain ⟨hd0, hd1⟩ := hd
      have hm := M1.emod_lt x 2147483647 (by omega)
      go_wp2_with (go_at_call 95; (with_reducible refine (C1.specMod_in _ _ _ x0 x1 (by omega) (by omega)).mono ?_); rintro e w' ⟨rfl, rfl⟩)
      go_roundw
      case rel => exact ⟨k + 1, by omega, by go_num, Fold.next HE.out (by have := HL.out; omega) HXX.out HD.out rfl hb⟩
      case measure => simp [intOf]; omega
    · have hd' : decide (k < n) = false := by simp; omega
      have hkn : k = n := by omega
      have HK := Lib.hid hkn
      clear hkn
      go_wp2
      go_ret
      have e : xs.take k = xs := by rw [HK.out, ← HL.out, List.take_length]
      exact ⟨by rw [HE.out, e]; rfl, hb⟩
theorem below_al {w w' : World} {o : Obj} (h : Below (w.alloc o).heap.size (w.alloc o) w') : Below w.heap.size w w' :=
  ((Below.refl _ _).alloc (Nat.le_refl _) o).trans (h.mono (by simp))
set_option maxHeartbeats 800000 in
theorem implKeyed (w : World) (A : Option Addr) (n c : Nat) (xs : List Int) (k : Int) (hk0 : -9223372036854775808 ≤ k) (hk1 : k ≤ 9223372036854775807) (hr : Rd w w.heap.size 1 A n (ints .i64 xs)) (hx : okInts xs) (hn : n ≤ 4294967296) :
    Calls Try.prog 86 #[.int .i64 k, .slice A n c] w (Gives (.int .i64 (khash k xs)) w) := by
  rw [khash_eq]
  have hk := okInts.one hk0 hk1
  have h1 : inP (hfrom 11 [k]) := hfrom_in _ _ (by unfold inP; omega)
  have h2 : inP (hfrom (hfrom 11 [k]) xs) := hfrom_in _ _ h1
  go_enter Try.func86, Try.ntmps86
  go_wp2_with fail
  (with_reducible refine (fold _ _ 1 1 [k] 11 (by unfold inP; omega) (rd_one w (.int .i64 k) 3) hk (by omega)).mono ?_); rintro e w1 ⟨rfl, hb1⟩
  replace hb1 := below_al hb1
  go_wp2_with fail
  (with_reducible refine (fold _ _ _ _ xs _ h1 (hr.on hb1) hx hn).mono ?_); rintro e w2 ⟨rfl, hb2⟩
  go_wp2_with fail
  (with_reducible refine (fold _ _ 1 1 [k] _ h2 (rd_one w2 (.int .i64 k) 3) hk (by omega)).mono ?_); rintro e w3 ⟨rfl, hb3⟩
  replace hb3 := below_al hb3
  go_wp2
  go_ret
  exact ⟨rfl, (hb1.trans (hb2.mono hb1.size)).trans (hb3.mono (Nat.le_trans hb1.size hb2.size))⟩
set_option maxHeartbeats 800000 in
theorem specKeyed (w : World) (A : Option Addr) (n c : Nat) (xs : List Int) (k : Int) (hk0 : -9223372036854775808 ≤ k) (hk1 : k ≤ 9223372036854775807) (hr : Rd w w.heap.size 1 A n (ints .i64 xs)) (hx : okInts xs) (hn : n ≤ 16777216) :
    Calls Try.prog 83 #[.int .i64 k, .slice A n c] w (Gives (.int .i64 (khash k xs)) w) := by
  have hk := okInts.one hk0 hk1
  have hall := (hk.app hx).app hk
  have HR := Lib.hid hr
  have ho0 := own_lit w #[.int .i64 k] 1 w.heap.size 3 (Nat.le_refl _) rfl (by unfold maxLen; omega)
  have b0 : Below w.heap.size w (w.alloc (.cells #[.int .i64 k] 3)) := (Below.refl _ _).alloc (Nat.le_refl _) _
  clear hr
  go_enter Try.func83, Try.ntmps83
  go_wp2_with (at_builtin; first | (refine appI _ rfl _ _ rfl w.heap.size _ _ _ rfl ho0 _ A n c _ rfl (HR.out.on b0) (ints_one _ _) (by omega) b0.size ?_; intro v1 w1 ho1 hg1; have hz1 : w.heap.size ≤ w1.heap.size := Nat.le_trans b0.size hg1.size) | (refine appI _ rfl _ _ rfl w.heap.size _ _ _ rfl (ho1.alloc _) _ _ 1 1 [.int .i64 k] rfl (rd_one _ _ _) (one_int .i64 _) (by omega) (by simp; omega) ?_; intro v2 w2 ho2 hg2; obtain ⟨A2, c2, rfl⟩ := own_nil_form ho2))
  have hb1 : Below w.heap.size w w1 := b0.grown hg1 b0.size (fun k hk => (ho0.lt k hk).1)
  have hb2 : Below w.heap.size w w2 := (hb1.alloc hb1.size _).grown hg2 (by simpa using Nat.le_succ_of_le hb1.size) (fun k hk => (ho1.lt k hk).1)
  have e2 : (#[Value.int .i64 k].toList ++ ints .i64 xs) ++ [.int .i64 k] = ints .i64 ([k] ++ xs ++ [k]) := by simp [ints]
  rw [e2] at ho2
  go_wp2_with fail
  (with_reducible refine (specHash _ _ _ _ ([k] ++ xs ++ [k]) (Rd.own ho2) hall (by omega)).mono ?_); rintro e w3 ⟨rfl, hb3⟩
  go_wp2
  go_ret
  exact ⟨rfl, hb2.trans (hb3.mono hb2.size)⟩
def isKey (k : Int) : Bool := decide (1 ≤ k ∧ k ≤ 2147483646)
theorem implValid (w : World) (k : Int) : Calls Try.prog 66 #[.int .i64 k] w fun e w' => e = .returned (.bool (isKey k)) ∧ w = w' := by
  by_cases h : 1 ≤ k ∧ k ≤ 2147483646
  · have e : isKey k = true := by unfold isKey; exact decide_eq_true h
    rw [e]
    obtain ⟨h1, h2⟩ := h
    go_enter Try.func66, Try.ntmps66
    go_wp2_with (go_at_call 59; (with_reducible refine (C1.implIn_t _ _ _ _ (by omega) (by omega)).mono ?_); rintro e w' ⟨rfl, rfl⟩)
    go_ret
    exact ⟨rfl, rfl⟩
  · have e : isKey k = false := by unfold isKey; exact decide_eq_false h
    rw [e]
    have h2 : k < 1 ∨ 2147483646 < k := by omega
    clear h
    go_enter Try.func66, Try.ntmps66
    go_wp2_with (go_at_call 59; (with_reducible refine (C1.implIn_f _ _ _ _ h2).mono ?_); rintro e w' ⟨rfl, rfl⟩)
    go_ret
    exact ⟨rfl, rfl⟩
theorem implValidB (w : World) (k : Int) : Calls Try.prog 66 #[.int .i64 k] w (Gives (.bool (isKey k)) w) :=
  (implValid w k).mono fun _ _ ⟨he, hw⟩ => ⟨he, hw ▸ Below.refl _ _⟩
theorem specValid (w : World) (k : Int) : Calls Try.prog 62 #[.int .i64 k] w fun e w' => e = .returned (.bool (isKey k)) ∧ w = w' := by
  by_cases h : 1 ≤ k ∧ k ≤ 2147483646
  · have e : isKey k = true := by unfold isKey; exact decide_eq_true h
    rw [e]
    obtain ⟨h1, h2⟩ := h
    go_enter Try.func62, Try.ntmps62
    go_wp2_with (go_at_call 42; (with_reducible refine (C1.specIn_t _ _ _ _ (by omega) (by omega)).mono ?_); rintro e w' ⟨rfl, rfl⟩)
    go_ret
    exact ⟨rfl, rfl⟩
  · have e : isKey k = false := by unfold isKey; exact decide_eq_false h
    rw [e]
    have h2 : k < 1 ∨ 2147483646 < k := by omega
    clear h
    go_enter Try.func62, Try.ntmps62
    go_wp2_with (go_at_call 42; (with_reducible refine (C1.specIn_f _ _ _ _ h2).mono ?_); rintro e w' ⟨rfl, rfl⟩)
    go_ret
    exact ⟨rfl, rfl⟩
theorem specValidB (w : World) (k : Int) : Calls Try.prog 62 #[.int .i64 k] w (Gives (.bool (isKey k)) w) :=
  (specValid w k).mono fun _ _ ⟨he, hw⟩ => ⟨he, hw ▸ Below.refl _ _⟩
theorem fromHash (x : Int) (w : World) : Calls Try.prog 85 #[.int .i64 x] w fun e w' => e = .returned (.int .i64 (if 1 > x then 1 else x)) ∧ Below w.heap.size w w' := by
  obtain ⟨v, hv⟩ : ∃ v, v = (if 1 > x then 1 else x) := ⟨_, rfl⟩
  rw [← hv]
  have HV := Lib.hid hv
  clear hv
  go_enter Try.func85, Try.ntmps85
  go_wp2_with fail
  (with_reducible refine (C1.implMaxB _ _ _).mono ?_); rintro e w3 ⟨he, hg3⟩
  rw [← HV.out] at he
  subst he
  go_wp2
  go_ret
  exact ⟨rfl, hg3⟩
end Go.Proofs.Ytogoppknimpkbaa.C3
