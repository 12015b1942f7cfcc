/-
  Contracts of the model's cipher: Encrypt and Decrypt.
-/
import Derived.Test.YtaodpiikpojikaaC3
import Derived.Deep.RegionHeld3
import Derived.Deep.AppendLies
namespace Go.Proofs.Ytaodpiikpojikaa.C3d
open Go.ChangeShapes Go.WideShapes Go.ChangeAt Go.RowKit
open S0 S1 M3 C3
set_option linter.unusedVariables false
/-- append of one byte, as a step of a region that draws its order. -/
theorem stepB (w : World) {ops : Array Oper} {o : Oper} {a : Act} {K : Act → World → Prop} {Q : Exit → Act → World → Prop} {E : Prop} (hgd : o.guard = none) (s x : Operand)
    (ho : o.op = .call { callee := .builtin .append, args := #[s, x], argTypes := #[22, 22] }) (base : Nat) (v : Value) (n : Nat) (xs : List Value) (hs : a.eval s = v) (hown : w.ownsRow base 5 1 v n xs)
    (B c : Nat) (y : Int) (hx : a.eval x = .slice (some ⟨B, 0, none⟩) 1 c) (hc : w.cell? ⟨B, 0, none⟩ = some (.int .u8 y)) (h63 : n + 1 ≤ 17592186044416) (hbase : base ≤ w.heap.size)
    (h : ∀ v' w', w'.ownsRow base 5 1 v' (n + 1) (xs ++ [.int .u8 y]) → w.grownBy w' v.ownBlock → K (a.put o.dst v') w') :
    if Region.wanted o (yielded ops a.tmps) = true then Oper.wp Try.prog o a w K Q else E := by
  obtain ⟨i0, hi, hz0, hz1, hz2⟩ := info_parts u8_info
  refine step_append_lies w hgd s x 22 ho base 5 i0 (.int .u8 0) 1 1 Try.underlying22 hi hz0 hz1 hz2 rfl (by decide) v n xs hs hown ⟨B, 0, none⟩ 1 c [.int .u8 y] hx rfl (fun j u hu => ?_) (one_int .u8 y) (by omega) (by unfold maxLen; omega) (by omega) hbase _ rfl (fun g cap w' h1 h2 _ _ => h _ _ h1 h2)
  have hj : j = 0 := by
    rcases Nat.eq_zero_or_pos j with h0 | h0
    · exact h0
    · rw [List.getElem?_eq_none (by simp; omega)] at hu; cases hu
  subst hj
  have hu' : Value.int .u8 y = u := by simpa using hu
  subst hu'
  exact hc
theorem cell_al {w : World} {b j : Nat} {v : Value} {o : Obj} (hb : b < w.heap.size) (h : w.cell? ⟨b, j, none⟩ = some v) : (w.alloc o).drew.cell? ⟨b, j, none⟩ = some v := by
  have e : (w.alloc o).drew.heap[b]? = w.heap[b]? := Below.heap_alloc w o b hb
  rw [World.cell?_of_block (a := ⟨b, j, none⟩) e]
  exact h
theorem below_drew (w : World) (B : Nat) : Below B w w.drew := ⟨rfl, rfl, rfl, Nat.le_refl _, fun _ _ => rfl⟩
/-- The keyed hash of one number, its list made just now. -/
theorem keyedAt (w : World) (s : Int) (k : Nat) (z : Int) (hz : z = khash s [(k : Int)]) (hk0 : -9223372036854775808 ≤ s) (hk1 : s ≤ 9223372036854775807) (hk : okInts [(k : Int)]) :
    Calls Try.prog 59 #[.int .i64 s, .slice (some ⟨w.heap.size, 0, none⟩) 1 1] (w.alloc (.cells #[.int .i64 k] 3)).drew fun e w' => e = .returned (.int .i64 z) ∧ Below w.heap.size w w' := by
  subst hz
  refine (specKeyed (w.alloc (.cells #[.int .i64 k] 3)).drew _ 1 1 [(k : Int)] s hk0 hk1 ((rd_one w (.int .i64 k) 3).below (below_drew _ _)) hk (by omega)).mono fun e w' h => ⟨h.1, ?_⟩
  have hb0 : Below w.heap.size w (w.alloc (.cells #[.int .i64 k] 3)).drew := ((Below.refl _ _).alloc (Nat.le_refl _) _).trans (below_drew _ _)
  exact hb0.trans (h.2.mono hb0.size)
theorem cell_nw (w : World) (v : Value) (t : TypeId) : (w.alloc (.cells #[v] t)).cell? ⟨w.heap.size, 0, none⟩ = some v := by
  have e : (w.alloc (.cells #[v] t)).heap[w.heap.size]? = some (.cells #[v] t) := (MapKept.heap_alloc w _).1
  simp only [World.cell?, e]
  rfl
theorem cell_al2 {w : World} {b j : Nat} {v : Value} {o : Obj} (hb : b < w.heap.size) (h : w.cell? ⟨b, j, none⟩ = some v) : (w.alloc o).cell? ⟨b, j, none⟩ = some v := cell_al (o := o) hb h
/-- What lies below a row stays where the row grows. -/
theorem cell_gr {w w2 w3 : World} {E n b j : Nat} {v u : Value} {xs : List Value} {o : Obj} (h : w2.ownsRow w.heap.size E 1 v n xs) (hb : b < w.heap.size) (hb2 : b < w2.heap.size) (hg : (w2.alloc o).grownBy w3 v.ownBlock) (hc : w2.cell? ⟨b, j, none⟩ = some u) : w3.cell? ⟨b, j, none⟩ = some u := by
  have e : w3.heap[b]? = (w2.alloc o).heap[b]? := hg.block b (by simp; omega) (fun e => by have := (h.lt b e.symm).1; omega)
  rw [World.cell?_of_block (a := ⟨b, j, none⟩) e]
  exact cell_al2 hb2 hc
/-- Behind k bytes. -/
def Ciph (w : World) (g : Nat → Int) (xs : List Int) (k : Nat) (v : Value) (wr : World) : Prop :=
  wr.ownsRow w.heap.size 5 1 v k (ints .u8 ((ciph g xs).take k)) ∧ Below w.heap.size w wr
theorem wrapE (x z : Int) (h0 : 0 ≤ x) (h1 : x ≤ 255) (hz : 0 ≤ z) : IntKind.u8.wrap ((IntKind.i64.wrap (IntKind.i64.wrap x + z.tmod 256)).tmod 256) = (x + z % 256) % 256 := by
  have e1 : z.tmod 256 = z % 256 := Int.tmod_eq_emod_of_nonneg hz
  have e2 : IntKind.i64.wrap x = x := by rw [IntKind.wrap_i64]; omega
  have e3 : IntKind.i64.wrap (x + z % 256) = x + z % 256 := by rw [IntKind.wrap_i64]; omega
  rw [e1, e2, e3, Int.tmod_eq_emod_of_nonneg (by omega), IntKind.wrap_u8]
  omega
theorem Ciph.next {w w2 w3 wr : World} {g : Nat → Int} {xs : List Int} {k : Nat} {v v3 : Value} {o : Obj} {y : Int} (h : Ciph w g xs k v wr) (hb2 : Below wr.heap.size wr w2)
    (ho : w2.ownsRow w.heap.size 5 1 v k (ints .u8 ((ciph g xs).take k))) (ho3 : w3.ownsRow w.heap.size 5 1 v3 (k + 1) (ints .u8 ((ciph g xs).take k) ++ [.int .u8 y])) (hg : (w2.alloc o).grownBy w3 v.ownBlock)
    (ht : (ciph g xs).take (k + 1) = (ciph g xs).take k ++ [y]) : Ciph w g xs (k + 1) v3 w3 := by
  have hb := h.2.trans (hb2.mono h.2.size)
  refine ⟨?_, (hb.alloc hb.size o).grown hg (by have := hb.size; simp; omega) (fun j hj => (ho.lt j hj).1)⟩
  rw [ht, ← ints_app]
  exact ho3
theorem Ciph.all {w wr : World} {g : Nat → Int} {xs : List Int} {n : Nat} {v : Value} (h : Ciph w g xs n v wr) (hl : xs.length = n) : wr.ownsRow w.heap.size 5 1 v n (ints .u8 (ciph g xs)) ∧ Below w.heap.size w wr := by
  have e : (ciph g xs).take n = ciph g xs := by rw [← hl, ← ciph_len g xs, List.take_length]
  have := h
  unfold Ciph at this
  rw [e] at this
  exact this
set_option maxHeartbeats 1600000 in
set_option maxRecDepth 100000 in
theorem specEncrypt (w : World) (s : Int) (A : Option Addr) (n c : Nat) (xs : List Int) (hk0 : -9223372036854775808 ≤ s) (hk1 : s ≤ 9223372036854775807) (hr : Rd w w.heap.size 1 A n (ints .u8 xs)) (hx : ∀ x ∈ xs, 0 ≤ x ∧ x ≤ 255) (hn : n ≤ 16777216) :
    Calls Try.prog 55 #[.int .i64 s, .slice A n c] w (MadeS 5 1 n (ints .u8 (encL s xs)) w) := by
  have hl : xs.length = n := by have := hr.len1; rw [ints_len] at this; exact this
  have HR := Lib.hid hr
  have HL := Lib.hid hl
  have HX := Lib.hid hx
  have HE : Ciph w (ks s) xs 0 (.slice (some ⟨w.heap.size, 0, none⟩) 0 0) (w.alloc (.cells #[] 5)) := ⟨by simpa [ints] using own_lit w #[] 0 _ 5 (Nat.le_refl _) rfl (Nat.zero_le _), (Below.refl _ _).alloc (Nat.le_refl _) _⟩
  clear hr hl hx
  go_enter Try.func55, Try.ntmps55
  go_wp2
  go_loopw [5, 6] (fun v i wr => ∃ k : Nat, k ≤ n ∧ i = .int .i64 k ∧ Ciph w (ks s) xs k v wr) (fun _ i _ => n - (intOf i).toNat)
  case atStart => exact ⟨0, by omega, rfl, HE⟩
  case round =>
    obtain ⟨k, hk, rfl, hE⟩ := hrel
    obtain ⟨A1, c1, rfl⟩ := own_nil_form hE.1
    by_cases hlt : k < n
    · obtain ⟨b, off, rfl, hb, hcell⟩ := (HR.out.below hE.2).at_ hlt
      obtain ⟨h0, h1⟩ := C2.u8_get HX.out k
      have hE1 := Lib.hid hE.1
      have hE2 := hE.2.size
      have hin := khash_in s [(k : Int)]
      unfold inP at hin
      obtain ⟨hin0, hin1⟩ := hin
      have hok : okInts [(k : Int)] := okInts.one (by omega) (by omega)
      have HCX := Lib.hid (ciph_take (ks s) xs k (by have := HL.out; omega))
      obtain ⟨x, hxx⟩ : ∃ x, x = xs.getD k 0 := ⟨_, rfl⟩
      rw [← hxx] at hcell h0 h1
      have HXX := Lib.hid hxx
      clear hxx
      obtain ⟨z, hz⟩ : ∃ z, z = khash s [(k : Int)] := ⟨_, rfl⟩
      have HZ := Lib.hid hz
      rw [← hz] at hin0 hin1
      clear hz
      have hbw : b < wr.heap.size := by omega
      have hz0 : (0 : Int) ≤ z % 256 := by omega
      have hz1 : z % 256 ≤ 255 := by omega
      go_wp2_with fail
      go_region_held3 (fun wx => wx.cell? ⟨b, off + k, none⟩ = some (.int .u8 x)) (first | exact hcell | exact cell_al hbw hcell | exact hcell2 | exact cell_al2 hbw2 hcell2 | exact hcell3) (first | (go_at_call 59; refine (keyedAt wr s k z HZ.out hk0 hk1 hok).mono ?_; rintro e w2 ⟨rfl, hb2⟩; have hcell2 : w2.cell? ⟨b, off + k, none⟩ = some (.int .u8 x) := (hb2.cell (p := ⟨b, off + k, none⟩) hbw).trans hcell; have hbw2 : b < w2.heap.size := Nat.lt_of_lt_of_le hbw hb2.size; have ho2 := Lib.hid (own_below hE1.out hb2); have hz2 : w.heap.size ≤ w2.heap.size := Nat.le_trans hE2 hb2.size) | (refine stepB _ rfl (.tmp 14) (.tmp 28) rfl w.heap.size (.slice A1 k c1) k _ (by simp [Act.eval]) (ho2.out.alloc _) w2.heap.size 1 _ (by simp [Act.eval]) (cell_nw w2 _ _) (by omega) (by simp; omega) ?_; intro v3 w3 ho3 hg3; have hcell3 : w3.cell? ⟨b, off + k, none⟩ = some (.int .u8 x) := cell_gr ho2.out hb hbw2 hg3 hcell2))
      go_wp2
      go_roundw
      case rel => exact ⟨k + 1, by omega, by go_num, Ciph.next hE hb2 ho2.out ho3 hg3 (by rw [HCX.out, wrapE x z h0 h1 hin0, HXX.out, HZ.out]; rfl)⟩
      case measure => simp [intOf]; omega
    · have hd : decide (k < n) = false := by simp; omega
      have hkn : k = n := by omega
      have HK := Lib.hid hkn
      clear hkn
      go_wp2
      go_ret
      have hkn := HK.out
      subst hkn
      exact ⟨A1, c1, rfl, hE.all HL.out⟩
theorem wrap_lo (x : Int) : -9223372036854775808 ≤ IntKind.i64.wrap x := by rw [IntKind.wrap_i64]; omega
theorem wrap_hi (x : Int) : IntKind.i64.wrap x ≤ 9223372036854775807 := by rw [IntKind.wrap_i64]; omega
theorem wrapD (x z : Int) (h0 : 0 ≤ x) (h1 : x ≤ 255) (hz : 0 ≤ z) : IntKind.u8.wrap (IntKind.i64.wrap (IntKind.i64.wrap x - z.tmod 256) % 256) = (x + -(z % 256)) % 256 := by
  have e1 : z.tmod 256 = z % 256 := Int.tmod_eq_emod_of_nonneg hz
  have e2 : IntKind.i64.wrap x = x := by rw [IntKind.wrap_i64]; omega
  have e3 : IntKind.i64.wrap (x - z % 256) = x - z % 256 := by rw [IntKind.wrap_i64]; omega
  rw [e1, e2, e3, IntKind.wrap_u8]
  omega
set_option maxHeartbeats 1600000 in
set_option maxRecDepth 100000 in
theorem specDecrypt (w : World) (s : Int) (A : Option Addr) (n c : Nat) (xs : List Int) (hk0 : -9223372036854775808 ≤ s) (hk1 : s ≤ 9223372036854775807) (hr : Rd w w.heap.size 1 A n (ints .u8 xs)) (hx : ∀ x ∈ xs, 0 ≤ x ∧ x ≤ 255) (hn : n ≤ 16777216) :
    Calls Try.prog 63 #[.int .i64 s, .slice A n c] w (MadeS 5 1 n (ints .u8 (decL s xs)) w) := by
  have hl : xs.length = n := by have := hr.len1; rw [ints_len] at this; exact this
  have HR := Lib.hid hr
  have HL := Lib.hid hl
  have HX := Lib.hid hx
  have HE : Ciph w (fun i => - ks s i) xs 0 (.slice (some ⟨w.heap.size, 0, none⟩) 0 0) (w.alloc (.cells #[] 5)) := ⟨by simpa [ints] using own_lit w #[] 0 _ 5 (Nat.le_refl _) rfl (Nat.zero_le _), (Below.refl _ _).alloc (Nat.le_refl _) _⟩
  clear hr hl hx
  go_enter Try.func63, Try.ntmps63
  go_wp2
  go_loopw [5, 6] (fun v i wr => ∃ k : Nat, k ≤ n ∧ i = .int .i64 k ∧ Ciph w (fun i => - ks s i) xs k v wr) (fun _ i _ => n - (intOf i).toNat)
  case atStart => exact ⟨0, by omega, rfl, HE⟩
  case round =>
    obtain ⟨k, hk, rfl, hE⟩ := hrel
    obtain ⟨A1, c1, rfl⟩ := own_nil_form hE.1
    by_cases hlt : k < n
    · obtain ⟨b, off, rfl, hb, hcell⟩ := (HR.out.below hE.2).at_ hlt
      obtain ⟨h0, h1⟩ := C2.u8_get HX.out k
      have hE1 := Lib.hid hE.1
      have hE2 := hE.2.size
      have hin := khash_in s [(k : Int)]
      unfold inP at hin
      obtain ⟨hin0, hin1⟩ := hin
      have hok : okInts [(k : Int)] := okInts.one (by omega) (by omega)
      have HCX := Lib.hid (ciph_take (fun i => - ks s i) xs k (by have := HL.out; omega))
      obtain ⟨x, hxx⟩ : ∃ x, x = xs.getD k 0 := ⟨_, rfl⟩
      rw [← hxx] at hcell h0 h1
      have HXX := Lib.hid hxx
      clear hxx
      obtain ⟨z, hz⟩ : ∃ z, z = khash s [(k : Int)] := ⟨_, rfl⟩
      have HZ := Lib.hid hz
      rw [← hz] at hin0 hin1
      clear hz
      have hbw : b < wr.heap.size := by omega
      have hz0 : (0 : Int) ≤ z % 256 := by omega
      have hz1 : z % 256 ≤ 255 := by omega
      go_wp2_with fail
      go_region_held3 (fun wx => wx.cell? ⟨b, off + k, none⟩ = some (.int .u8 x)) (first | exact hcell | exact cell_al hbw hcell | exact hcell2 | exact cell_al2 hbw2 hcell2 | exact hcell3) (first | (go_at_call 59; refine (keyedAt wr s k z HZ.out hk0 hk1 hok).mono ?_; rintro e w2 ⟨rfl, hb2⟩; have hcell2 : w2.cell? ⟨b, off + k, none⟩ = some (.int .u8 x) := (hb2.cell (p := ⟨b, off + k, none⟩) hbw).trans hcell; have hbw2 : b < w2.heap.size := Nat.lt_of_lt_of_le hbw hb2.size; have ho2 := Lib.hid (own_below hE1.out hb2); have hz2 : w.heap.size ≤ w2.heap.size := Nat.le_trans hE2 hb2.size) | (go_at_call 76; refine (C1.specMod_in _ 256 _ (wrap_lo _) (wrap_hi _) (by omega) (by omega)).mono ?_; rintro e w4 ⟨rfl, rfl⟩) | (refine stepB _ rfl (.tmp 14) (.tmp 28) rfl w.heap.size (.slice A1 k c1) k _ (by simp [Act.eval]) (ho2.out.alloc _) w2.heap.size 1 _ (by simp [Act.eval]) (cell_nw w2 _ _) (by omega) (by simp; omega) ?_; intro v3 w3 ho3 hg3; have hcell3 : w3.cell? ⟨b, off + k, none⟩ = some (.int .u8 x) := cell_gr ho2.out hb hbw2 hg3 hcell2))
      go_wp2
      go_roundw
      case rel => exact ⟨k + 1, by omega, by go_num, Ciph.next hE hb2 ho2.out ho3 hg3 (by rw [HCX.out, wrapD x z h0 h1 hin0, HXX.out, HZ.out]; rfl)⟩
      case measure => simp [intOf]; omega
    · have hd : decide (k < n) = false := by simp; omega
      have hkn : k = n := by omega
      have HK := Lib.hid hkn
      clear hkn
      go_wp2
      go_ret
      have hkn := HK.out
      subst hkn
      exact ⟨A1, c1, rfl, hE.all HL.out⟩
end Go.Proofs.Ytaodpiikpojikaa.C3d
