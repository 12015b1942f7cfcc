/-
  Contracts of chapter 3's cipher: the key stream as a closure, Encrypt and Decrypt, of the program.
-/
import Derived.Test.YtaodpiikpojikaaC3
namespace Go.Proofs.Ytaodpiikpojikaa.C3c
open Go.ChangeShapes Go.WideShapes Go.ChangeAt Go.RowKit
open S0 S1 M3 C3
set_option linter.unusedVariables false
theorem stream (w : World) (B i : Nat) (k : Int) (hk0 : -9223372036854775808 ≤ k) (hk1 : k ≤ 9223372036854775807) (hi : i ≤ 4294967296) (hc : w.cell? ⟨B, 0, none⟩ = some (.int .i64 k)) :
    Calls Try.prog 77 #[.int .i64 i, .pointer (some ⟨B, 0, none⟩)] w (Gives (.int .u8 (ks k i)) w) := by
  have hin := khash_in k [(i : Int)]
  have hks : ks k i = khash k [(i : Int)] % 256 := rfl
  have HKS := Lib.hid hks
  clear hks
  have hok : okInts [(i : Int)] := okInts.one (by omega) (by omega)
  go_enter Try.func77, Try.ntmps77
  go_wp2_with fail
  (with_reducible refine (implKeyed _ _ 1 1 [(i : Int)] k hk0 hk1 (rd_one w (.int .i64 i) 3) hok (by omega)).mono ?_); rintro e w1 ⟨rfl, hb1⟩
  replace hb1 := below_al hb1
  unfold inP at hin
  obtain ⟨z, hz⟩ : ∃ z, z = khash k [(i : Int)] := ⟨_, rfl⟩
  rw [← hz] at hin ⊢
  obtain ⟨hin0, hin1⟩ := hin
  have HZ := Lib.hid hz
  clear hz
  go_wp2
  go_ret
  refine ⟨?_, hb1⟩
  rw [HKS.out, ← HZ.out]
  rfl
def ns (k : Int) (i : Nat) : Int := -ks k i % 256
theorem negStream (w : World) (D B i : Nat) (k : Int) (hk0 : -9223372036854775808 ≤ k) (hk1 : k ≤ 9223372036854775807) (hi : i ≤ 4294967296) (hc : w.cell? ⟨B, 0, none⟩ = some (.int .i64 k)) (hd : w.cell? ⟨D, 0, none⟩ = some (.func (.func 77) #[] #[.pointer (some ⟨B, 0, none⟩)])) :
    Calls Try.prog 69 #[.int .i64 i, .pointer (some ⟨D, 0, none⟩)] w (Gives (.int .u8 (ns k i)) w) := by
  have hks := ks_in k i
  go_enter Try.func69, Try.ntmps69
  go_wp2_with (go_at_call 77; (with_reducible refine (stream _ B i k hk0 hk1 hi hc).mono ?_); rintro e w1 ⟨rfl, hb1⟩)
  go_ret
  exact ⟨rfl, hb1⟩
/-- What a call of the stream gives, in every world behind w. -/
def StreamIs (F : FuncId) (a : Value) (g : Nat → Int) (n : Nat) (w : World) : Prop := ∀ (wr : World) (i : Nat), i < n → Below w.heap.size w wr → Calls Try.prog F #[.int .i64 i, a] wr (Gives (.int .u8 (g i)) wr)
set_option maxHeartbeats 800000 in
set_option maxRecDepth 100000 in
theorem addEnc (w : World) (A : Option Addr) (n c D : Nat) (xs : List Int) (g : Nat → Int) (hr : Rd w w.heap.size 1 A n (ints .u8 xs)) (hx : ∀ x ∈ xs, 0 ≤ x ∧ x ≤ 255) (hg : ∀ i, 0 ≤ g i ∧ g i ≤ 255) (hn : n ≤ 16777216)
    (hs : StreamIs 77 (.pointer (some ⟨D, 0, none⟩)) g n w) :
    Calls Try.prog 66 #[.slice A n c, .func (.func 77) #[] #[.pointer (some ⟨D, 0, none⟩)]] w (MadeS 5 1 n (ints .u8 (ciph g xs)) w) := by
  obtain ⟨i0, hi, hz0, hz1, hz2⟩ := info_parts u8_info
  have hl : xs.length = n := by have := hr.len1; rw [ints_len] at this; exact this
  have HR := Lib.hid hr
  have HL := Lib.hid hl
  have HX := Lib.hid hx
  have HG := Lib.hid hg
  have HC := Lib.hid (show (ciph g xs).length = n by rw [ciph_len]; exact hl)
  clear hr hl hx hg
  go_enter Try.func66, Try.ntmps66
  go_wp2_with (at_make; refine wpList_make_full _ rfl _ _ 22 rfl w.heap.size 5 i0 (.int .u8 0) 1 Try.underlying22 hi hz0 hz1 _ _ _ _ n rfl rfl rfl rfl (by rw [hz2]; omega) (by unfold maxLen; omega) (Nat.le_refl _) ?_; intro w1 hown hgrow)
  have HF : Filled 5 .u8 w n (ciph g xs) 0 w1 := ⟨by rw [half_zero, ← made_ints]; exact hown, below_grown hgrow (Nat.le_refl _) (fun _ h => by cases h)⟩
  clear hown hgrow
  go_loopw [13] (fun i wr => ∃ k : Nat, k ≤ n ∧ i = .int .i64 k ∧ Filled 5 .u8 w n (ciph g xs) k wr) (fun i _ => n - (intOf i).toNat)
  case atStart => exact ⟨0, by omega, rfl, HF⟩
  case round =>
    obtain ⟨k, hk, rfl, HF⟩ := hrel
    by_cases hlt : k < n
    · obtain ⟨b, off, rfl, hb, hcell⟩ := (HR.out.below HF.2).at_ hlt
      obtain ⟨h0, h1⟩ := C2.u8_get HX.out k
      obtain ⟨g0, g1⟩ := HG.out k
      have hcall := hs wr k hlt HF.2
      have HCX := Lib.hid (ciph_get g xs k (by have := HL.out; omega))
      obtain ⟨x, hxx⟩ : ∃ x, x = xs.getD k 0 := ⟨_, rfl⟩
      rw [← hxx] at hcell h0 h1
      have HXX := Lib.hid hxx
      clear hxx
      have HCALL := Lib.hid hcall
      clear hcall
      go_wp2_with (go_at_call 77; refine HCALL.out.mono ?_; rintro e w2 ⟨rfl, hb2⟩; have HF2 : Filled 5 .u8 w n (ciph g xs) k w2 := ⟨own_below HF.1 hb2, HF.2.trans (hb2.mono HF.2.size)⟩; obtain ⟨hgl, hbase, hold, hfr⟩ := stored_at HF2.1 k hlt)
      go_roundw
      case rel =>
        refine ⟨k + 1, by omega, by go_num, ?_, ?_⟩
        · have h2 := (HF2.1.stored k (.int .u8 ((ciph g xs).getD k 0))).1
          rw [ints_put, half_set (ciph g xs) k n HC.out hlt, HCX.out, ← HXX.out] at h2
          simpa using h2
        · exact HF2.2.setCell (Nat.le_refl _) _
      case measure => simp [intOf]; omega
    · have hkn : k = n := by omega
      have H2 : Filled 5 .u8 w n (ciph g xs) n wr := by have := HF; rw [hkn] at this; exact this
      have hd : decide (k < n) = false := by simp; omega
      clear HF hkn
      go_wp2
      go_ret
      exact ⟨_, _, rfl, by have := H2.1; rw [half_all (ciph g xs) n HC.out] at this; exact this, H2.2⟩
set_option maxHeartbeats 800000 in
set_option maxRecDepth 100000 in
theorem addDec (w : World) (A : Option Addr) (n c D : Nat) (xs : List Int) (g : Nat → Int) (hr : Rd w w.heap.size 1 A n (ints .u8 xs)) (hx : ∀ x ∈ xs, 0 ≤ x ∧ x ≤ 255) (hg : ∀ i, 0 ≤ g i ∧ g i ≤ 255) (hn : n ≤ 16777216)
    (hs : StreamIs 69 (.pointer (some ⟨D, 0, none⟩)) g n w) :
    Calls Try.prog 66 #[.slice A n c, .func (.func 69) #[] #[.pointer (some ⟨D, 0, none⟩)]] w (MadeS 5 1 n (ints .u8 (ciph g xs)) w) := by
  obtain ⟨i0, hi, hz0, hz1, hz2⟩ := info_parts u8_info
  have hl : xs.length = n := by have := hr.len1; rw [ints_len] at this; exact this
  have HR := Lib.hid hr
  have HL := Lib.hid hl
  have HX := Lib.hid hx
  have HG := Lib.hid hg
  have HC := Lib.hid (show (ciph g xs).length = n by rw [ciph_len]; exact hl)
  clear hr hl hx hg
  go_enter Try.func66, Try.ntmps66
  go_wp2_with (at_make; refine wpList_make_full _ rfl _ _ 22 rfl w.heap.size 5 i0 (.int .u8 0) 1 Try.underlying22 hi hz0 hz1 _ _ _ _ n rfl rfl rfl rfl (by rw [hz2]; omega) (by unfold maxLen; omega) (Nat.le_refl _) ?_; intro w1 hown hgrow)
  have HF : Filled 5 .u8 w n (ciph g xs) 0 w1 := ⟨by rw [half_zero, ← made_ints]; exact hown, below_grown hgrow (Nat.le_refl _) (fun _ h => by cases h)⟩
  clear hown hgrow
  go_loopw [13] (fun i wr => ∃ k : Nat, k ≤ n ∧ i = .int .i64 k ∧ Filled 5 .u8 w n (ciph g xs) k wr) (fun i _ => n - (intOf i).toNat)
  case atStart => exact ⟨0, by omega, rfl, HF⟩
  case round =>
    obtain ⟨k, hk, rfl, HF⟩ := hrel
    by_cases hlt : k < n
    · obtain ⟨b, off, rfl, hb, hcell⟩ := (HR.out.below HF.2).at_ hlt
      obtain ⟨h0, h1⟩ := C2.u8_get HX.out k
      obtain ⟨g0, g1⟩ := HG.out k
      have hcall := hs wr k hlt HF.2
      have HCX := Lib.hid (ciph_get g xs k (by have := HL.out; omega))
      obtain ⟨x, hxx⟩ : ∃ x, x = xs.getD k 0 := ⟨_, rfl⟩
      rw [← hxx] at hcell h0 h1
      have HXX := Lib.hid hxx
      clear hxx
      have HCALL := Lib.hid hcall
      clear hcall
      go_wp2_with (go_at_call 69; refine HCALL.out.mono ?_; rintro e w2 ⟨rfl, hb2⟩; have HF2 : Filled 5 .u8 w n (ciph g xs) k w2 := ⟨own_below HF.1 hb2, HF.2.trans (hb2.mono HF.2.size)⟩; obtain ⟨hgl, hbase, hold, hfr⟩ := stored_at HF2.1 k hlt)
      go_roundw
      case rel =>
        refine ⟨k + 1, by omega, by go_num, ?_, ?_⟩
        · have h2 := (HF2.1.stored k (.int .u8 ((ciph g xs).getD k 0))).1
          rw [ints_put, half_set (ciph g xs) k n HC.out hlt, HCX.out, ← HXX.out] at h2
          simpa using h2
        · exact HF2.2.setCell (Nat.le_refl _) _
      case measure => simp [intOf]; omega
    · have hkn : k = n := by omega
      have H2 : Filled 5 .u8 w n (ciph g xs) n wr := by have := HF; rw [hkn] at this; exact this
      have hd : decide (k < n) = false := by simp; omega
      clear HF hkn
      go_wp2
      go_ret
      exact ⟨_, _, rfl, by have := H2.1; rw [half_all (ciph g xs) n HC.out] at this; exact this, H2.2⟩
theorem keyStream (w : World) (k : Int) : Calls Try.prog 67 #[.int .i64 k] w fun e w' => e = .returned (.func (.func 77) #[] #[.pointer (some ⟨w.heap.size, 0, none⟩)]) ∧ w' = w.alloc (.cells #[.int .i64 k] 3) := by
  go_enter Try.func67, Try.ntmps67
  go_wp2
  go_ret
  exact ⟨rfl, rfl⟩
theorem cell_new (w : World) (v : Value) (t : TypeId) : (w.alloc (.cells #[v] t)).cell? ⟨w.heap.size, 0, none⟩ = some v := by
  have e : (w.alloc (.cells #[v] t)).heap[w.heap.size]? = some (.cells #[v] t) := (MapKept.heap_alloc w _).1
  simp only [World.cell?, e]
  rfl
set_option maxHeartbeats 800000 in
theorem implEncrypt (w : World) (k : Int) (A : Option Addr) (n c : Nat) (xs : List Int) (hk0 : -9223372036854775808 ≤ k) (hk1 : k ≤ 9223372036854775807) (hr : Rd w w.heap.size 1 A n (ints .u8 xs)) (hx : ∀ x ∈ xs, 0 ≤ x ∧ x ≤ 255) (hn : n ≤ 16777216) :
    Calls Try.prog 49 #[.int .i64 k, .slice A n c] w (MadeS 5 1 n (ints .u8 (encL k xs)) w) := by
  have HX := Lib.hid (show ∀ x ∈ xs, 0 ≤ x ∧ x ≤ 255 from hx)
  have HG := Lib.hid (show ∀ i, 0 ≤ ks k i ∧ ks k i ≤ 255 from ks_in k)
  have HR := Lib.hid hr
  have b1 : Below w.heap.size w (w.alloc (.cells #[.int .i64 k] 3)) := (Below.refl _ _).alloc (Nat.le_refl _) _
  have HS : StreamIs 77 (.pointer (some ⟨w.heap.size, 0, none⟩)) (ks k) n (w.alloc (.cells #[.int .i64 k] 3)) := fun wr i hi hb =>
    stream wr w.heap.size i k hk0 hk1 (by omega) (by rw [hb.cell (p := ⟨w.heap.size, 0, none⟩) (by simp)]; exact cell_new w _ _)
  clear hr hx
  go_enter Try.func49, Try.ntmps49
  go_wp2_with fail
  (with_reducible refine (keyStream _ k).mono ?_); rintro e w1 ⟨rfl, rfl⟩
  go_wp2_with fail
  (with_reducible refine (addEnc _ _ _ _ _ xs _ (HR.out.on b1) HX.out HG.out hn HS).mono ?_); rintro e w2 ⟨A2, c2, rfl, ho2, hb2⟩
  go_wp2
  go_ret
  exact ⟨A2, c2, rfl, own_base ho2 b1.size, b1.trans (hb2.mono b1.size)⟩
theorem ciph_ns (k : Int) (xs : List Int) : ciph (ns k) xs = decL k xs := by
  unfold decL ciph ns
  refine List.map_congr_left fun i _ => ?_
  show _ = (xs.getD i 0 + -ks k i) % 256
  omega
theorem ns_in (k : Int) (i : Nat) : 0 ≤ ns k i ∧ ns k i ≤ 255 := by unfold ns; omega
set_option maxHeartbeats 800000 in
theorem implDecrypt (w : World) (k : Int) (A : Option Addr) (n c : Nat) (xs : List Int) (hk0 : -9223372036854775808 ≤ k) (hk1 : k ≤ 9223372036854775807) (hr : Rd w w.heap.size 1 A n (ints .u8 xs)) (hx : ∀ x ∈ xs, 0 ≤ x ∧ x ≤ 255) (hn : n ≤ 16777216) :
    Calls Try.prog 52 #[.int .i64 k, .slice A n c] w (MadeS 5 1 n (ints .u8 (decL k xs)) w) := by
  rw [← ciph_ns]
  have HX := Lib.hid (show ∀ x ∈ xs, 0 ≤ x ∧ x ≤ 255 from hx)
  have HG := Lib.hid (show ∀ i, 0 ≤ ns k i ∧ ns k i ≤ 255 from ns_in k)
  have HR := Lib.hid hr
  have b1 : Below w.heap.size w (w.alloc (.cells #[.int .i64 k] 3)) := (Below.refl _ _).alloc (Nat.le_refl _) _
  have hsf : ∀ (a : Addr) (m : Mode) (fn : Fn) (fs cs : Array Value) (w : World), (store a (.func fn fs cs) m).run Try.prog w = stored Try.prog w a (.func fn fs cs) m := fun a m fn fs cs w => run_store Try.prog w a _ m rfl
  have b2 : Below w.heap.size w ((w.alloc (.cells #[.int .i64 k] 3)).alloc (.cells #[.func (.func 77) #[] #[.pointer (some ⟨w.heap.size, 0, none⟩)]] 70)) := b1.alloc b1.size _
  have HS : StreamIs 69 (.pointer (some ⟨w.heap.size + 1, 0, none⟩)) (ns k) n ((w.alloc (.cells #[.int .i64 k] 3)).alloc (.cells #[.func (.func 77) #[] #[.pointer (some ⟨w.heap.size, 0, none⟩)]] 70)) := fun wr i hi hb =>
    negStream wr (w.heap.size + 1) w.heap.size i k hk0 hk1 (by omega)
      (by rw [hb.cell (p := ⟨w.heap.size, 0, none⟩) (by simp; omega), ((Below.refl _ _).alloc (Nat.le_refl _) _).cell (p := ⟨w.heap.size, 0, none⟩) (by simp)]; exact cell_new w _ _)
      (by rw [hb.cell (p := ⟨w.heap.size + 1, 0, none⟩) (by simp)]; simp)
  clear hr hx
  go_enter Try.func52, Try.ntmps52
  go_wp2_with fail
  (with_reducible refine (keyStream _ k).mono ?_); rintro e w1 ⟨rfl, rfl⟩
  go_wp2_with fail
  (with_reducible refine (addDec _ _ _ _ _ xs _ (HR.out.on b2) HX.out HG.out hn HS).mono ?_); rintro e w2 ⟨A2, c2, rfl, ho2, hb2⟩
  go_wp2
  go_ret
  exact ⟨A2, c2, rfl, own_base ho2 b2.size, b2.trans (hb2.mono b2.size)⟩
end Go.Proofs.Ytaodpiikpojikaa.C3c
