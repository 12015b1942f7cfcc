import Derived.Test.YtialhhdhpjjkaaaGreatDoorBa
import Derived.Test.YtialhhdhpjjkaaaGreatDoorCards
import Derived.Test.YtialhhdhpjjkaaaGreatDoorTie
import Derived.Lay
import Derived.LaidHandle
import Derived.MakeChecks
import Derived.Test.YtialhhdhpjjkaaaGreatDoorLa
import Derived.Test.YtialhhdhpjjkaaaGreatDoorBb
import Derived.Test.YtialhhdhpjjkaaaGreatDoorD13
import Derived.Test.YtialhhdhpjjkaaaGreatDoorM17
import Derived.Test.YtialhhdhpjjkaaaGreatDoorC13i
import Derived.Test.YtialhhdhpjjkaaaGreatDoorL13
import Derived.Deep.RegionHeld3
import Derived.IntWalk
import Derived.Deep.DeepCutAuto
/-
  laws.FnAssertions returns true at every code, and leaves it as it was: an assertion is accepted for its site, challenge and key only, and not twice. Conditions: the library's package-level variables math/bits.deBruijn32tab, math/bits.deBruijn64tab, internal/strconv.uint64pow10, errors.errorType, strconv.ErrRange, strconv.ErrSyntax hold when the call begins what the program's text lays there (the card ties them to that text).
-/
namespace Go.Proofs.YtialhhdhpjjkaaaGreatDoor.fnAssertions
open Go.ChangeShapes Go.WideShapes Go.ChangeAt Go.RowKit
set_option linter.unusedVariables false

open S0 S1 S9 Dm Fx M3 M8 M12 M13 C3 C6 C9 C10 C13m C13 C13b D10 D13 M17
set_option linter.unusedSimpArgs false
theorem sg_in (x : Fx.KeyStore) (z : ByteArray) (h : Int) (m : List Int) : 0 ≤ signV x z h m ∧ signV x z h m ≤ 2147483646 := by
  unfold signV
  split
  · exact sgn_in _ _
  · omega
set_option maxHeartbeats 16000000 in
set_option maxRecDepth 100000 in
theorem walkSmall (A0 : Option Addr) (n0 c0 : Nat) (hl : ¬ 1048576 < n0) (W : World) (xs0 : List Int) (hr0 : Rd W W.heap.size 1 A0 n0 (ints .u8 xs0)) (hx0 : ∀ x ∈ xs0, 0 ≤ x ∧ x ≤ 255) (ht : La.Pow W) (he : As.Er W) :
    Calls Tryz.prog 6 #[.slice A0 n0 c0] W fun e w' => e = .returned (.bool true) ∧ Below W.heap.size W w' := by
  have HB := Below.refl W.heap.size W
  have ab := L0.atv_bd xs0 0 hx0
  have bb := L0.atv_bd xs0 1 hx0
  have cb := L0.atv_bd xs0 2 hx0
  obtain ⟨a, ha⟩ : ∃ a, a = L0.atv xs0 0 := ⟨_, rfl⟩
  rw [← ha] at ab
  have KA0 := Lib.hid (fun (wx : World) (hB9 : Below W.heap.size W wx) => show Calls Tryz.prog 35 #[.slice A0 n0 c0, .int .i64 0] wx (fun e w' => e = .returned (.int .i64 a) ∧ wx = w') from by rw [ha]; exact L0.at_is wx A0 n0 c0 xs0 0 0 (by rfl) (hr0.on hB9) hx0 (by omega) (by omega))
  obtain ⟨b, hb⟩ : ∃ b, b = L0.atv xs0 1 := ⟨_, rfl⟩
  rw [← hb] at bb
  have KA1 := Lib.hid (fun (wx : World) (hB9 : Below W.heap.size W wx) => show Calls Tryz.prog 35 #[.slice A0 n0 c0, .int .i64 1] wx (fun e w' => e = .returned (.int .i64 b) ∧ wx = w') from by rw [hb]; exact L0.at_is wx A0 n0 c0 xs0 1 1 (by rfl) (hr0.on hB9) hx0 (by omega) (by omega))
  obtain ⟨c, hc⟩ : ∃ c, c = L0.atv xs0 2 := ⟨_, rfl⟩
  rw [← hc] at cb
  have KA2 := Lib.hid (fun (wx : World) (hB9 : Below W.heap.size W wx) => show Calls Tryz.prog 35 #[.slice A0 n0 c0, .int .i64 2] wx (fun e w' => e = .returned (.int .i64 c) ∧ wx = w') from by rw [hc]; exact L0.at_is wx A0 n0 c0 xs0 2 2 (by rfl) (hr0.on hB9) hx0 (by omega) (by omega))
  clear ha hb hc
  obtain ⟨ab0, ab1⟩ := ab
  obtain ⟨bb0, bb1⟩ := bb
  obtain ⟨cb0, cb1⟩ := cb
  have hm : mayO (⟨true, ⟨#[119, 119, 119, 46, 98, 97, 110, 107, 46, 99, 111, 109]⟩, 443⟩ : Fx.Origin) (bts ⟨#[98, 97, 110, 107, 46, 99, 111, 109]⟩) = true := by decide +kernel
  have hb : mkB (⟨1, 2, 1 + a, b⟩ : Fx.KeyStore) (⟨true, ⟨#[119, 119, 119, 46, 98, 97, 110, 107, 46, 99, 111, 109]⟩, 443⟩ : Fx.Origin) ⟨#[98, 97, 110, 107, 46, 99, 111, 109]⟩ = true := by unfold mkB; rw [hm]; unfold signB vst; rw [isKey_t (show key (1 + a) from ⟨by omega, by omega⟩), decide_eq_true (show 1 ≤ (1 : Int) ∧ (1 : Int) ≤ 9 by omega), decide_eq_true (show 0 ≤ (2 : Int) ∧ (2 : Int) ≤ 1000000 by omega), decide_eq_true (show 0 ≤ b ∧ b ≤ 1000000 by omega), decide_eq_false (show ¬ b = 1000000 by omega)]; rfl
  obtain ⟨r, hr⟩ : ∃ r, r = (⟨⟨#[98, 97, 110, 107, 46, 99, 111, 109]⟩, str (fmtO (⟨true, ⟨#[119, 119, 119, 46, 98, 97, 110, 107, 46, 99, 111, 109]⟩, 443⟩ : Fx.Origin)), c, 3, true, b + 1, signV (⟨1, 2, 1 + a, b⟩ : Fx.KeyStore) ⟨#[98, 97, 110, 107, 46, 99, 111, 109]⟩ 3 (msg (a0 (⟨true, ⟨#[119, 119, 119, 46, 98, 97, 110, 107, 46, 99, 111, 109]⟩, 443⟩ : Fx.Origin) ⟨#[98, 97, 110, 107, 46, 99, 111, 109]⟩ 3 c true))⟩ : Fx.Assertion) := ⟨_, rfl⟩
  have M := made 3 c hb
  dsimp only at M
  rw [← hr] at M
  have hro : r.ok := by rw [hr]; have := fmt_size (⟨true, ⟨#[119, 119, 119, 46, 98, 97, 110, 107, 46, 99, 111, 109]⟩, 443⟩ : Fx.Origin); have h9 := sg_in (⟨1, 2, 1 + a, b⟩ : Fx.KeyStore) ⟨#[98, 97, 110, 107, 46, 99, 111, 109]⟩ 3 (msg (a0 (⟨true, ⟨#[119, 119, 119, 46, 98, 97, 110, 107, 46, 99, 111, 109]⟩, 443⟩ : Fx.Origin) ⟨#[98, 97, 110, 107, 46, 99, 111, 109]⟩ 3 c true)); have hz : (⟨#[98, 97, 110, 107, 46, 99, 111, 109]⟩ : ByteArray).size = 8 := rfl; exact ⟨by dsimp only; unfold maxLen; omega, by dsimp only; unfold maxLen; omega, by dsimp only; omega, by dsimp only; omega, trivial, by dsimp only; omega, by dsimp only; omega⟩
  have hro2 : r.Origin = str (fmtO (⟨true, ⟨#[119, 119, 119, 46, 98, 97, 110, 107, 46, 99, 111, 109]⟩, 443⟩ : Fx.Origin)) := M.org
  clear hr
  have hct : r.Counter = b + 1 := M.ctr
  have hso : r.Origin.size ≤ 100 := by rw [M.org]; exact fmt_size _
  have hsz : r.Site.size ≤ 100 := by rw [M.good.site]; decide
  have hbz : (⟨#[98, 97, 110, 107, 46, 99, 111, 109]⟩ : ByteArray).size ≤ 100 := by decide
  have hsz2 : (⟨#[115, 104, 111, 112, 46, 111, 114, 103]⟩ : ByteArray).size ≤ 100 := by decide
  have hx : ((⟨1, 2, 1 + a, b⟩ : Fx.KeyStore) : Fx.KeyStore).ok := ⟨by dsimp only; omega, by dsimp only; omega, by dsimp only; omega, by dsimp only; omega⟩
  have hy : (⟨1, 2, 1 + a, b + 1⟩ : Fx.KeyStore).ok := ⟨by dsimp only; omega, by dsimp only; omega, by dsimp only; omega, by dsimp only; omega⟩
  have KMk := Lib.hid (fun (wx : World) (hp : La.Pow wx) => show Calls Tryz.prog 36 #[.agg #[.int .i64 1, .int .i64 2, .int .i64 (1 + a), .int .i64 b], .agg #[.bool true, .string ⟨#[119, 119, 119, 46, 98, 97, 110, 107, 46, 99, 111, 109]⟩, .int .i64 443], .string ⟨#[98, 97, 110, 107, 46, 99, 111, 109]⟩, .int .i64 3, .int .i64 c, .bool true] wx (Gives (.tuple #[.agg #[.int .i64 1, .int .i64 2, .int .i64 (1 + a), .int .i64 (b + 1)], .agg #[.string r.Site, .string r.Origin, .int .i64 r.Challenge, .int .i64 r.Handle, .bool r.Present, .int .i64 r.Counter, .int .i64 r.Signature], .bool true]) wx) from by have h9 := C13i.implMake wx (⟨1, 2, 1 + a, b⟩ : Fx.KeyStore) (⟨true, ⟨#[119, 119, 119, 46, 98, 97, 110, 107, 46, 99, 111, 109]⟩, 443⟩ : Fx.Origin) ⟨#[98, 97, 110, 107, 46, 99, 111, 109]⟩ 3 c true _ _ (KeyStore.mkR (w := wx) (hi := wx.heap.size)) (Origin.mkR (w := wx) (hi := wx.heap.size)) hx (by omega) (by decide) (by omega) (by omega) (by omega) (by omega) hp; unfold C13b.mkV at h9; rw [M.s, M.a, hb] at h9; exact h9)
  obtain ⟨p, hp⟩ : ∃ p, p = pubS (⟨1, 2, 1 + a, b⟩ : Fx.KeyStore) ⟨#[98, 97, 110, 107, 46, 99, 111, 109]⟩ 3 := ⟨_, rfl⟩
  obtain ⟨p4, hp4⟩ : ∃ p4, p4 = pubS (⟨1, 2, 1 + a, b + 1⟩ : Fx.KeyStore) ⟨#[98, 97, 110, 107, 46, 99, 111, 109]⟩ 4 := ⟨_, rfl⟩
  have hpi : -9223372036854775808 ≤ p ∧ p ≤ 9223372036854775807 := by rw [hp]; have := pub_in (prvS (⟨1, 2, 1 + a, b⟩ : Fx.KeyStore) ⟨#[98, 97, 110, 107, 46, 99, 111, 109]⟩ 3); unfold pubS; omega
  have hpi4 : -9223372036854775808 ≤ p4 ∧ p4 ≤ 9223372036854775807 := by rw [hp4]; have := pub_in (prvS (⟨1, 2, 1 + a, b + 1⟩ : Fx.KeyStore) ⟨#[98, 97, 110, 107, 46, 99, 111, 109]⟩ 4); unfold pubS; omega
  have KP := Lib.hid (fun wx : World => show Calls Tryz.prog 37 #[.agg #[.int .i64 1, .int .i64 2, .int .i64 (1 + a), .int .i64 b], .string ⟨#[98, 97, 110, 107, 46, 99, 111, 109]⟩, .int .i64 3] wx (Gives (.int .i64 p) wx) from by rw [hp]; exact specPubS wx (⟨1, 2, 1 + a, b⟩ : Fx.KeyStore) ⟨#[98, 97, 110, 107, 46, 99, 111, 109]⟩ 3 _ (st_rds wx _ (⟨1, 2, 1 + a, b⟩ : Fx.KeyStore)) hx (by omega) (by omega) (by omega))
  have KP4 := Lib.hid (fun wx : World => show Calls Tryz.prog 37 #[.agg #[.int .i64 1, .int .i64 2, .int .i64 (1 + a), .int .i64 (b + 1)], .string ⟨#[98, 97, 110, 107, 46, 99, 111, 109]⟩, .int .i64 4] wx (Gives (.int .i64 p4) wx) from by rw [hp4]; exact specPubS wx (⟨1, 2, 1 + a, b + 1⟩ : Fx.KeyStore) ⟨#[98, 97, 110, 107, 46, 99, 111, 109]⟩ 4 _ (st_rds wx _ _) hy (by omega) (by omega) (by omega))
  have K1 := Lib.hid (fun (wx : World) (hw : La.Pow wx) (hq : As.Er wx) => show Calls Tryz.prog 11 #[.int .i64 p, .agg #[.string r.Site, .string r.Origin, .int .i64 r.Challenge, .int .i64 r.Handle, .bool r.Present, .int .i64 r.Counter, .int .i64 r.Signature], .string ⟨#[98, 97, 110, 107, 46, 99, 111, 109]⟩, .int .i64 c, .int .i64 b] wx (Gives (.int .i64 0) wx) from by have h9 := C13i.implChk wx p r ⟨#[98, 97, 110, 107, 46, 99, 111, 109]⟩ (c) (b) _ (as_rds wx _ r) hro (by first | omega | (dsimp only; omega)) (by first | omega | (dsimp only; omega) | (dsimp only; decide)) (by omega) (by omega) (by omega) hw hq; rw [show chkA p r ⟨#[98, 97, 110, 107, 46, 99, 111, 109]⟩ (c) (b) = 0 from (by rw [hp, M.yes, if_pos (by omega)])] at h9; exact h9)
  have K3 := Lib.hid (fun (wx : World) (hw : La.Pow wx) (hq : As.Er wx) => show Calls Tryz.prog 11 #[.int .i64 p, .agg #[.string r.Site, .string r.Origin, .int .i64 r.Challenge, .int .i64 r.Handle, .bool r.Present, .int .i64 r.Counter, .int .i64 r.Signature], .string ⟨#[98, 97, 110, 107, 46, 99, 111, 109]⟩, .int .i64 (c + 1), .int .i64 b] wx (Gives (.int .i64 3) wx) from by have h9 := C13i.implChk wx p r ⟨#[98, 97, 110, 107, 46, 99, 111, 109]⟩ (c + 1) (b) _ (as_rds wx _ r) hro (by first | omega | (dsimp only; omega)) (by first | omega | (dsimp only; omega) | (dsimp only; decide)) (by omega) (by omega) (by omega) hw hq; rw [show chkA p r ⟨#[98, 97, 110, 107, 46, 99, 111, 109]⟩ (c + 1) (b) = 3 from (chk_chal M.good (by rw [M.cha]; omega))] at h9; exact h9)
  have K4 := Lib.hid (fun (wx : World) (hw : La.Pow wx) (hq : As.Er wx) => show Calls Tryz.prog 11 #[.int .i64 p, .agg #[.string r.Site, .string r.Origin, .int .i64 r.Challenge, .int .i64 r.Handle, .bool r.Present, .int .i64 r.Counter, .int .i64 r.Signature], .string ⟨#[115, 104, 111, 112, 46, 111, 114, 103]⟩, .int .i64 c, .int .i64 b] wx (Gives (.int .i64 1) wx) from by have h9 := C13i.implChk wx p r ⟨#[115, 104, 111, 112, 46, 111, 114, 103]⟩ (c) (b) _ (as_rds wx _ r) hro (by first | omega | (dsimp only; omega)) (by first | omega | (dsimp only; omega) | (dsimp only; decide)) (by omega) (by omega) (by omega) hw hq; rw [show chkA p r ⟨#[115, 104, 111, 112, 46, 111, 114, 103]⟩ (c) (b) = 1 from (chk_site (by rw [M.good.site]; decide))] at h9; exact h9)
  have K5 := Lib.hid (fun (wx : World) (hw : La.Pow wx) (hq : As.Er wx) => show Calls Tryz.prog 11 #[.int .i64 p, .agg #[.string r.Site, .string r.Origin, .int .i64 r.Challenge, .int .i64 r.Handle, .bool r.Present, .int .i64 r.Counter, .int .i64 r.Signature], .string ⟨#[98, 97, 110, 107, 46, 99, 111, 109]⟩, .int .i64 c, .int .i64 r.Counter] wx (Gives (.int .i64 4) wx) from by have h9 := C13i.implChk wx p r ⟨#[98, 97, 110, 107, 46, 99, 111, 109]⟩ (c) (r.Counter) _ (as_rds wx _ r) hro (by first | omega | (dsimp only; omega)) (by first | omega | (dsimp only; omega) | (dsimp only; decide)) (by omega) (by omega) (by omega) hw hq; rw [show chkA p r ⟨#[98, 97, 110, 107, 46, 99, 111, 109]⟩ (c) (r.Counter) = 4 from (by rw [hp, M.yes, if_neg (by omega)])] at h9; exact h9)
  have K6 := Lib.hid (fun (wx : World) (hw : La.Pow wx) (hq : As.Er wx) => show Calls Tryz.prog 11 #[.int .i64 p, .agg #[.string r.Site, .string r.Origin, .int .i64 r.Challenge, .int .i64 r.Handle, .bool false, .int .i64 r.Counter, .int .i64 r.Signature], .string ⟨#[98, 97, 110, 107, 46, 99, 111, 109]⟩, .int .i64 c, .int .i64 b] wx (Gives (.int .i64 2) wx) from by have h9 := C13i.implChk wx p (⟨r.Site, r.Origin, r.Challenge, r.Handle, false, r.Counter, r.Signature⟩ : Fx.Assertion) ⟨#[98, 97, 110, 107, 46, 99, 111, 109]⟩ (c) (b) _ (as_rds wx _ (⟨r.Site, r.Origin, r.Challenge, r.Handle, false, r.Counter, r.Signature⟩ : Fx.Assertion)) ⟨hro.Site, hro.Origin, hro.Challenge, hro.Handle, trivial, hro.Counter, hro.Signature⟩ (by first | omega | (dsimp only; omega)) (by first | omega | (dsimp only; omega) | (dsimp only; decide)) (by omega) (by omega) (by omega) hw hq; rw [show chkA p (⟨r.Site, r.Origin, r.Challenge, r.Handle, false, r.Counter, r.Signature⟩ : Fx.Assertion) ⟨#[98, 97, 110, 107, 46, 99, 111, 109]⟩ (c) (b) = 2 from (chk_pres M.good.site M.good.org M.good.may rfl)] at h9; exact h9)
  have hl7 : bts ⟨#[104, 116, 116, 112, 115, 58, 47, 47, 98, 97, 110, 107, 46, 99, 111, 109]⟩ = fmtO ⟨true, ⟨#[98, 97, 110, 107, 46, 99, 111, 109]⟩, 443⟩ := by decide +kernel
  have ho7 : mayO ⟨true, ⟨#[98, 97, 110, 107, 46, 99, 111, 109]⟩, 443⟩ (bts ⟨#[98, 97, 110, 107, 46, 99, 111, 109]⟩) = true := by decide +kernel
  have hg7 : M17.Good (⟨r.Site, ⟨#[104, 116, 116, 112, 115, 58, 47, 47, 98, 97, 110, 107, 46, 99, 111, 109]⟩, r.Challenge, r.Handle, r.Present, r.Counter, r.Signature⟩ : Fx.Assertion) ⟨#[98, 97, 110, 107, 46, 99, 111, 109]⟩ := ⟨M.good.site, by dsimp only; rw [hl7, (po_fmt _).1]; exact may_org ho7, by dsimp only; rw [hl7, (po_fmt _).2 (may_org ho7)]; exact ho7, M.good.pres⟩
  have hd7 : derive 211 (C3b.sbytes ⟨#[104, 116, 116, 112, 115, 58, 47, 47, 98, 97, 110, 107, 46, 99, 111, 109]⟩) ≠ derive 211 (C3b.sbytes r.Origin) := by rw [hro2]; decide +kernel
  have hn7 := M.org_no (f := (⟨r.Site, ⟨#[104, 116, 116, 112, 115, 58, 47, 47, 98, 97, 110, 107, 46, 99, 111, 109]⟩, r.Challenge, r.Handle, r.Present, r.Counter, r.Signature⟩ : Fx.Assertion)) rfl rfl rfl rfl rfl rfl (by dsimp only; exact hd7)
  have K7 := Lib.hid (fun (wx : World) (hw : La.Pow wx) (hq : As.Er wx) => show Calls Tryz.prog 11 #[.int .i64 p, .agg #[.string r.Site, .string ⟨#[104, 116, 116, 112, 115, 58, 47, 47, 98, 97, 110, 107, 46, 99, 111, 109]⟩, .int .i64 r.Challenge, .int .i64 r.Handle, .bool r.Present, .int .i64 r.Counter, .int .i64 r.Signature], .string ⟨#[98, 97, 110, 107, 46, 99, 111, 109]⟩, .int .i64 c, .int .i64 b] wx (Gives (.int .i64 5) wx) from by have h9 := C13i.implChk wx p (⟨r.Site, ⟨#[104, 116, 116, 112, 115, 58, 47, 47, 98, 97, 110, 107, 46, 99, 111, 109]⟩, r.Challenge, r.Handle, r.Present, r.Counter, r.Signature⟩ : Fx.Assertion) ⟨#[98, 97, 110, 107, 46, 99, 111, 109]⟩ (c) (b) _ (as_rds wx _ (⟨r.Site, ⟨#[104, 116, 116, 112, 115, 58, 47, 47, 98, 97, 110, 107, 46, 99, 111, 109]⟩, r.Challenge, r.Handle, r.Present, r.Counter, r.Signature⟩ : Fx.Assertion)) ⟨hro.Site, by dsimp only; unfold maxLen; decide, hro.Challenge, hro.Handle, trivial, hro.Counter, hro.Signature⟩ (by first | omega | (dsimp only; omega)) (by first | omega | (dsimp only; omega) | (dsimp only; decide)) (by omega) (by omega) (by omega) hw hq; rw [show chkA p (⟨r.Site, ⟨#[104, 116, 116, 112, 115, 58, 47, 47, 98, 97, 110, 107, 46, 99, 111, 109]⟩, r.Challenge, r.Handle, r.Present, r.Counter, r.Signature⟩ : Fx.Assertion) ⟨#[98, 97, 110, 107, 46, 99, 111, 109]⟩ (c) (b) = 5 from (chk_sig hg7 M.cha (by rw [hp]; exact hn7))] at h9; exact h9)
  have hg8 : M17.Good (⟨r.Site, r.Origin, r.Challenge, r.Handle, r.Present, r.Counter + 1, r.Signature⟩ : Fx.Assertion) ⟨#[98, 97, 110, 107, 46, 99, 111, 109]⟩ := ⟨M.good.site, M.good.org, M.good.may, M.good.pres⟩
  have hn8 := M.ctr_no (f := (⟨r.Site, r.Origin, r.Challenge, r.Handle, r.Present, r.Counter + 1, r.Signature⟩ : Fx.Assertion)) rfl rfl rfl (by omega) (by omega)
  have K8 := Lib.hid (fun (wx : World) (hw : La.Pow wx) (hq : As.Er wx) => show Calls Tryz.prog 11 #[.int .i64 p, .agg #[.string r.Site, .string r.Origin, .int .i64 r.Challenge, .int .i64 r.Handle, .bool r.Present, .int .i64 (r.Counter + 1), .int .i64 r.Signature], .string ⟨#[98, 97, 110, 107, 46, 99, 111, 109]⟩, .int .i64 c, .int .i64 b] wx (Gives (.int .i64 5) wx) from by have h9 := C13i.implChk wx p (⟨r.Site, r.Origin, r.Challenge, r.Handle, r.Present, r.Counter + 1, r.Signature⟩ : Fx.Assertion) ⟨#[98, 97, 110, 107, 46, 99, 111, 109]⟩ (c) (b) _ (as_rds wx _ (⟨r.Site, r.Origin, r.Challenge, r.Handle, r.Present, r.Counter + 1, r.Signature⟩ : Fx.Assertion)) ⟨hro.Site, hro.Origin, hro.Challenge, hro.Handle, trivial, by dsimp only; omega, hro.Signature⟩ (by first | omega | (dsimp only; omega)) (by first | omega | (dsimp only; omega) | (dsimp only; decide)) (by omega) (by omega) (by omega) hw hq; rw [show chkA p (⟨r.Site, r.Origin, r.Challenge, r.Handle, r.Present, r.Counter + 1, r.Signature⟩ : Fx.Assertion) ⟨#[98, 97, 110, 107, 46, 99, 111, 109]⟩ (c) (b) = 5 from (chk_sig hg8 M.cha (by rw [hp]; exact hn8))] at h9; exact h9)
  have hk9 : prvS (⟨1, 2, 1 + a, b + 1⟩ : Fx.KeyStore) ⟨#[98, 97, 110, 107, 46, 99, 111, 109]⟩ 4 ≠ prvS (⟨1, 2, 1 + a, b⟩ : Fx.KeyStore) ⟨#[98, 97, 110, 107, 46, 99, 111, 109]⟩ 3 := two_keys ab0 ab1
  have K9 := Lib.hid (fun (wx : World) (hw : La.Pow wx) (hq : As.Er wx) => show Calls Tryz.prog 11 #[.int .i64 p4, .agg #[.string r.Site, .string r.Origin, .int .i64 r.Challenge, .int .i64 r.Handle, .bool r.Present, .int .i64 r.Counter, .int .i64 r.Signature], .string ⟨#[98, 97, 110, 107, 46, 99, 111, 109]⟩, .int .i64 c, .int .i64 b] wx (Gives (.int .i64 5) wx) from by have h9 := C13i.implChk wx p4 r ⟨#[98, 97, 110, 107, 46, 99, 111, 109]⟩ (c) (b) _ (as_rds wx _ r) hro (by first | omega | (dsimp only; omega)) (by first | omega | (dsimp only; omega) | (dsimp only; decide)) (by omega) (by omega) (by omega) hw hq; rw [show chkA p4 r ⟨#[98, 97, 110, 107, 46, 99, 111, 109]⟩ (c) (b) = 5 from (chk_sig M.good M.cha (by rw [hp4]; exact M.key_no hk9))] at h9; exact h9)
  have hwb : IntKind.i64.wrap (b + 1) = b + 1 := IntWalk.i64_in _ (by omega)
  have hwc : IntKind.i64.wrap (c + 1) = c + 1 := IntWalk.i64_in _ (by omega)
  have hr0c : 0 ≤ r.Counter := by omega
  have hr1c : r.Counter ≤ 1000 := by omega
  have KI := Lib.hid (fun wx : World => show Calls Tryz.prog 38 #[.agg #[.string r.Site, .string r.Origin, .int .i64 r.Challenge, .int .i64 r.Handle, .bool r.Present, .int .i64 r.Counter, .int .i64 r.Signature], .int .i64 r.Counter] wx (Gives (.bool true) wx) from by have h9 := C13i.implClone wx r r.Counter _ (as_rds wx _ r); rw [decide_eq_true (Int.le_refl _)] at h9; exact h9)
  have KN := Lib.hid (fun wx : World => show Calls Tryz.prog 39 #[.int .i64 4] wx (Gives (.string ⟨#[99, 111, 117, 110, 116, 101, 114]⟩) wx) from C13i.implName wx 4)
  clear M hb hm hro hro2 hct hp hp4 hl7 ho7 hg7 hd7 hn7 hg8 hn8 hk9 hx hy hr0 hx0 hpi hpi4
  have hwa : IntKind.i64.wrap (1 + a) = 1 + a := IntWalk.i64_in _ (by omega)
  have hwr : IntKind.i64.wrap (r.Counter + 1) = r.Counter + 1 := IntWalk.i64_in _ (by omega)
  refine E20.law_go (L13.assC W a b c p p4 r) E18.noLoops Tryz.func6 (by kernel_rfl) (by kernel_rfl) (L13.wpAss A0 n0 c0 W a b c p p4 r hwa hwb hwc hwr (fun wx hb => (Cd.big_no A0 n0 c0 wx hl).mono fun e w' ⟨h1, h2⟩ => ⟨h1, h2 ▸ Below.refl _ _⟩) (fun wx hb => (KA0.out wx hb).mono fun e w' ⟨h1, h2⟩ => ⟨h1, h2 ▸ Below.refl _ _⟩) (fun wx hb => (KA1.out wx hb).mono fun e w' ⟨h1, h2⟩ => ⟨h1, h2 ▸ Below.refl _ _⟩) (fun wx hb => (KA2.out wx hb).mono fun e w' ⟨h1, h2⟩ => ⟨h1, h2 ▸ Below.refl _ _⟩) (fun wx hb => KMk.out wx (ht.stays hb)) (fun wx hb => KP.out wx) (fun wx hb => KP4.out wx) (fun wx hb => K1.out wx (ht.stays hb) (he.stays hb)) (fun wx hb => K3.out wx (ht.stays hb) (he.stays hb)) (fun wx hb => K4.out wx (ht.stays hb) (he.stays hb)) (fun wx hb => K5.out wx (ht.stays hb) (he.stays hb)) (fun wx hb => K6.out wx (ht.stays hb) (he.stays hb)) (fun wx hb => K7.out wx (ht.stays hb) (he.stays hb)) (fun wx hb => K8.out wx (ht.stays hb) (he.stays hb)) (fun wx hb => K9.out wx (ht.stays hb) (he.stays hb)) (fun wx hb => KI.out wx) (fun wx hb => KN.out wx)) (vs := [.slice A0 n0 c0]) rfl rfl (fun i av hi => ?_)
  match i, hi with
  | 0, hi => cases hi; exact ⟨_, rfl, rfl⟩
  | i + 1, hi => cases hi
set_option maxRecDepth 100000 in
theorem walk (v0 : Value) (W : World) {H : Type} {enc : TypeId × Value → H} {b0 : Nat} {d0 : DataW H} {p0 : List MemPlace} (hv0 : Value.okWide Tryz.prog W .any b0 42 v0) (ht0 : DataW.Trod enc Tryz.prog W 0 (fun _ => true) true 42 v0 d0 p0) (hL : laidMetH Tryz.prog Rows.fnAssertionsRow.laid W) :
    Calls Tryz.prog 6 #[v0] W fun e w' => e = .returned (.bool true) ∧ Below W.heap.size W w' := by
  have ht : La.Pow W := La.pow_of rfl hL
  have he : As.Er W := As.er_of rfl rfl rfl hL
  clear hL
  obtain ⟨A0, n0, c0, xs0, rfl, hr0, hm0, hx0⟩ := So.bytes hv0 ht0
  unfold maxLen at hm0
  by_cases hl : 1048576 < n0
  · clear hv0 ht0 hr0
    go_enter Tryz.func6, Tryz.ntmps6
    go_wp2_with fail
    (with_reducible refine (Cd.big_yes A0 n0 c0 _ (by omega) hl).mono ?_); rintro e w0 ⟨rfl, rfl⟩
    go_wp2
    go_ret
    exact ⟨rfl, Below.refl _ _⟩
  · exact walkSmall A0 n0 c0 hl W xs0 hr0 (fun x h => So.okI_u8 (hx0 x h)) ht he

set_option maxRecDepth 100000 in
theorem contract (H : Type) (enc : TypeId × Value → H) (W : World) (base : Nat) (args : Array Value) (ds gs : List (DataW H)) (before : List MemPlace)
    (hval : ∀ (j : Nat) t v, Tryz.f6.params[j]? = some t → args[j]? = some v → Value.okWide Tryz.prog W .any base t v)
    (hW : DataW.Whole enc Tryz.prog Tryz.f6.params.toList Rows.fnAssertionsSpec.vars false W args.toList ds gs before) (hL : laidMetH Tryz.prog Rows.fnAssertionsRow.laid W) :
    Calls Tryz.prog 6 args W fun e W' => ∃ v, e = .returned v ∧ Rows.fnAssertionsSpec.post enc Tryz.prog Tryz.f6 false true false false W args v W' := by
  have hW' := hW
  obtain ⟨p, q, hA0, hV, rfl, hfz, hnd⟩ := hW
  have hA : DataW.TrodAll enc Tryz.prog W 0 (fun _ => true) true Tryz.f6.params.toList args.toList ds p := hA0
  rw [Tryz.params6] at hA hval
  obtain ⟨v0, vs0, d0, ds0, p0, q0, hargs, rfl, rfl, h0, r0⟩ := trodAll_cons hA
  obtain ⟨rfl, rfl, rfl⟩ := trodAll_nil r0
  obtain rfl : args = #[v0] := by cases args; simp_all
  obtain ⟨rfl, rfl⟩ := trodVars_none hV
  clear hA0
  refine Fr.closeLaw rfl (by kernel_rfl) (by rw [Tryz.params6]; decide) hW' rfl ?_
  exact walk v0 W (hval 0 42 v0 rfl rfl) h0 hL

noncomputable def handW (os : Os) : World := { World.holding Tryz.prog os ⟨#[], #[], []⟩ with heap := (World.holding Tryz.prog os ⟨#[], #[], []⟩).heap.modify 0 fun | .cells _ t fr => .cells #[.iface 151 (.agg #[typeHandle Tryz.prog 79])] t fr | x => x }
noncomputable def laidW (os : Os) : World := (handW os).layVars Tryz.prog (Rows.fnAssertionsRow.laid.filter fun x => x.2.handleName?.isNone)
theorem laidW_os (os : Os) : (laidW os).os = os := (World.layVars_os _ _ _).trans rfl
theorem met_on {P : Program} {w0 : World} {l : List (String × DataW Unit)} (args : Array Value) (hf : w0.layFits P l [] = true) (hi : w0.layIfaces P l (w0.layVars P l) = true) : laidMet P l ((w0.layVars P l).forCall (fun _ _ => 0) ⟨#[], args, []⟩).memory := by
  have all : (l.filter fun x => (l.map (·.1)).contains x.1) = l := List.filter_eq_self.2 fun x hx => by simp only [List.contains_iff_mem]; exact List.mem_map_of_mem hx
  have none : (l.filter fun x => !(l.map (·.1)).contains x.1) = [] := List.filter_eq_nil_iff.2 fun x hx => by simp only [Bool.not_eq_true, Bool.not_eq_false', List.contains_iff_mem]; exact List.mem_map_of_mem hx
  have k : laidMet P l (w0.layVars P l) := laidMet_layVars (l.map (·.1)) [] (by rw [all]) (by rw [all]; exact hf) (by rw [all]; exact hi) (by rw [none]; exact LaidIn.none)
  exact k.of_heap (by simp [World.memory, World.forCall, Input.heap])
theorem laid_met (os : Os) : laidMetH Tryz.prog Rows.fnAssertionsRow.laid ((laidW os).forCall (fun _ _ => 0) ⟨#[], #[.slice none 0 0], []⟩).memory := by
  exact laidMetH_of_parts (met_on _ (by kernel_rfl) (by kernel_rfl)) (by kernel_rfl)
set_option maxRecDepth 100000 in
theorem reads (os : Os) {H : Type} (enc : TypeId × Value → H) : ∃ places, DataW.whole enc Tryz.prog ((laidW os).forCall (fun _ _ => 0) ⟨#[], #[.slice none 0 0], []⟩).memory Tryz.f6.params.toList Rows.fnAssertionsSpec.vars false (#[.slice none 0 0] : Array Value).toList 8 = some ([.nil], [], places) :=
  ⟨[], by kernel_rfl⟩
set_option maxRecDepth 100000 in
theorem lifted (os : Os) (started : os.Started) (H : Type) (enc : TypeId × Value → H) (F : Stop.Interp) :
    ReturnsInHanded {} Tryz.checked os 6 .any ((OpenSpec.ofChange Rows.fnAssertionsSpec).preRow enc Tryz.prog Tryz.f6 Rows.fnAssertionsRow.domain false Rows.fnAssertionsRow.laid) (((OpenSpec.ofChange Rows.fnAssertionsSpec).at F).post enc Tryz.prog Tryz.f6 false true false false) := by
  obtain ⟨places, hx⟩ := reads os enc
  refine returnsInHanded_of_row (C := Tryz.checked) (s := OpenSpec.ofChange Rows.fnAssertionsSpec) Fr.own started (by kernel_rfl) Tryz.func6
    (witness_row_atRef (enc := enc) (C := Tryz.checked) false (laidW os) #[.slice none 0 0] (laidW_os os) (by kernel_rfl) (by kernel_rfl) (by kernel_rfl)
      (OpenSpec.preRow_of_cond 8 hx (by kernel_rfl) (fun k hk => by cases hk) (by kernel_rfl) (laid_met os))) ?_
  intro W base args ds gs before hval hW _ hcond _ hL _ _
  exact contract H enc W base args ds gs before hval hW hL
set_option maxRecDepth 100000 in
theorem said : Rows.FnAssertionsSaid :=
  OpenClaim.holds_of_cond 6 Tryz.f6 rfl rfl rfl rfl rfl rfl rfl ⟨rfl, rfl, rfl, rfl, rfl⟩ rfl rfl rfl rfl rfl (by kernel_rfl) Tryz.func6 (by kernel_rfl)
    (of_decide_eq_true (by kernel_rfl)) (by unfold Func.isWrapper; first | (rw [if_pos (by decide +kernel)]; kernel_rfl) | (rw [if_neg (by decide +kernel)]; exact ⟨rfl, rfl⟩))
    (fun os started H enc _ F => by rw [OpenClaim.pre_eq_preRow]; exact lifted os started H enc F)
theorem plain (f : FuncId) (fn : Func) (hf : Tryz.pinned.checked.prog.funcNamed "loop.example/g00581/laws.FnAssertions" = some f) (hfn : Tryz.pinned.checked.prog.funcs[f]? = some fn) :
    true = Tryz.pinned.checked.prog.looks [] ∧ ∀ (j : Nat) t, fn.params[j]? = some t → Tryz.pinned.checked.prog.wantsStandIn t = false := by
  obtain rfl : f = 6 := Option.some.inj ((show Tryz.prog.funcNamed "loop.example/g00581/laws.FnAssertions" = some 6 by kernel_rfl).symm.trans hf) |>.symm
  obtain rfl : fn = Tryz.f6 := (Option.some.inj (Tryz.func6.symm.trans hfn)).symm
  refine ⟨by kernel_rfl, fun j t ht => ?_⟩
  rw [Tryz.params6] at ht
  have hall : ([42] : List TypeId).all (fun t => !Tryz.prog.wantsStandIn t) = true := by kernel_rfl
  have hm : t ∈ ([42] : List TypeId) := by have := Array.mem_of_getElem? ht; simpa using this
  have := List.all_eq_true.1 hall t hm
  exact (by simpa using this : Tryz.prog.wantsStandIn t = false)
theorem proved : Rows.FnAssertionsCardSaid :=
  Claim7.holds_tied_plain_at .later [] _ _ _ _ said (fun _ h => by cases h) (by kernel_rfl) (fun _ h => by cases h) fnAssertions_row_tie rfl ⟨rfl, rfl⟩ (by kernel_rfl) rfl plain (by kernel_rfl)
#print axioms proved
end Go.Proofs.YtialhhdhpjjkaaaGreatDoor.fnAssertions
