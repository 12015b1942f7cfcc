import Derived.Test.YtialhhdhpjjkaaaGreatDoorC13b
import Derived.Test.YtialhhdhpjjkaaaGreatDoorC13
import Derived.Test.YtialhhdhpjjkaaaGreatDoorD13
import Derived.Test.YtialhhdhpjjkaaaGreatDoorM14
/-
  Assertions: a made one is accepted, and one that was changed is not (the signature's hash depends on each value, and on the key).
-/
namespace Go.Proofs.YtialhhdhpjjkaaaGreatDoor.M17
open Go.ChangeShapes Go.WideShapes Go.ChangeAt Go.RowKit
open S0 S1 S9 Dm Fx M3 M8 M12 M13 C3 C6 C9 C10 C13m C13 C13b D10 D13
set_option linter.unusedVariables false
set_option maxRecDepth 100000
theorem vsg_val {k : Int} (m : List Int) (s : Int) (hk : key k) : vsg (pub k) m s = (sgn k m == s) := by
  unfold vsg
  rw [if_pos (pub_key hk), prv_pub hk]
theorem vsg_self {k : Int} (m : List Int) (hk : key k) : vsg (pub k) m (sgn k m) = true := by rw [vsg_val m _ hk]; simp
theorem sgn_set {k : Int} {m : List Int} {i : Nat} {y : Int} (hk : key k) (hi : i < m.length) (hy : y % 2147483647 ≠ m.getD i 0 % 2147483647) : sgn k (m.set i y) ≠ sgn k m := by
  unfold sgn
  rw [if_pos hk, if_pos hk, List.length_set]
  have h := khash_set k ([139, (m.length : Int)] ++ m) (i + 2) y (by simp; omega) (by simpa using hy)
  simpa using h
theorem chk_ne {p ch ctr : Int} {a : Fx.Assertion} {z : ByteArray} (hs : vsg p (msg a ++ [a.Counter]) a.Signature = false) : chkA p a z ch ctr ≠ 0 := by
  unfold chkA
  rw [hs]
  repeat' split
  all_goals first | omega | simp_all
structure Good (a : Fx.Assertion) (z : ByteArray) : Prop where
  site : a.Site = z
  org : poB (bts a.Origin) = true
  may : mayO (poO (bts a.Origin)) (bts z) = true
  pres : a.Present = true
theorem chk_sig {p ch ctr : Int} {a : Fx.Assertion} {z : ByteArray} (g : Good a z) (hc : a.Challenge = ch) (hs : vsg p (msg a ++ [a.Counter]) a.Signature = false) : chkA p a z ch ctr = 5 := by
  unfold chkA
  rw [if_pos g.site, if_pos g.org, if_pos g.may, if_pos g.pres, if_pos hc, if_neg (by rw [hs]; simp)]
theorem chk_yes {p ch ctr : Int} {a : Fx.Assertion} {z : ByteArray} (g : Good a z) (hc : a.Challenge = ch) (hs : vsg p (msg a ++ [a.Counter]) a.Signature = true) : chkA p a z ch ctr = if ctr < a.Counter then 0 else 4 := by
  unfold chkA
  rw [if_pos g.site, if_pos g.org, if_pos g.may, if_pos g.pres, if_pos hc, if_pos hs]
theorem chk_chal {p ch ctr : Int} {a : Fx.Assertion} {z : ByteArray} (g : Good a z) (hc : a.Challenge ≠ ch) : chkA p a z ch ctr = 3 := by
  unfold chkA
  rw [if_pos g.site, if_pos g.org, if_pos g.may, if_pos g.pres, if_neg hc]
theorem chk_site {p ch ctr : Int} {a : Fx.Assertion} {z : ByteArray} (hz : a.Site ≠ z) : chkA p a z ch ctr = 1 := by
  unfold chkA
  rw [if_neg hz]
theorem chk_pres {p ch ctr : Int} {a : Fx.Assertion} {z : ByteArray} (h1 : a.Site = z) (h2 : poB (bts a.Origin) = true) (h3 : mayO (poO (bts a.Origin)) (bts z) = true) (h4 : a.Present = false) : chkA p a z ch ctr = 2 := by
  unfold chkA
  rw [if_pos h1, if_pos h2, if_pos h3, if_neg (by rw [h4]; simp)]
theorem may_org {o : Fx.Origin} {s : List UInt8} (h : mayO o s = true) : orgB o = true := by
  unfold mayO at h
  simp only [Bool.and_eq_true] at h
  exact h.1.1.1.1
theorem org_of {o : Fx.Origin} {z : ByteArray} (h : mayO o (bts z) = true) : poB (bts (str (fmtO o))) = true ∧ poO (bts (str (fmtO o))) = o := by
  rw [bts_str]
  have h1 := may_org h
  exact ⟨by rw [(po_fmt o).1, h1], (po_fmt o).2 h1⟩
/-- What making an assertion gives, where it may be made. -/
structure MadeA (x : Fx.KeyStore) (o : Fx.Origin) (z : ByteArray) (k ch : Int) (r : Fx.Assertion) : Prop where
  s : mkS x o z = ⟨x.Vendor, x.Serial, x.Seed, x.Counter + 1⟩
  a : mkA x o z k ch true = r
  good : Good r z
  cha : r.Challenge = ch
  org : r.Origin = str (fmtO o)
  ctr : r.Counter = x.Counter + 1
  han : r.Handle = k
  sig : r.Signature = sgn (prvS x z k) (msg r ++ [r.Counter])
theorem made {x : Fx.KeyStore} {o : Fx.Origin} {z : ByteArray} (k ch : Int) (hb : mkB x o z = true) : MadeA x o z k ch ⟨z, str (fmtO o), ch, k, true, x.Counter + 1, signV x z k (msg (a0 o z k ch true))⟩ := by
  have h0 := hb
  unfold mkB at h0
  simp only [Bool.and_eq_true] at h0
  have hx : signX x = ⟨x.Vendor, x.Serial, x.Seed, x.Counter + 1⟩ := by unfold signX; rw [if_pos h0.2]
  have ho := org_of h0.1
  exact { s := by unfold mkS; rw [if_pos hb, hx], a := by unfold mkA; rw [if_pos hb, hx], good := ⟨rfl, ho.1, by dsimp only; rw [ho.2]; exact h0.1, rfl⟩, cha := rfl, org := rfl, ctr := rfl, han := rfl,
          sig := by dsimp only; unfold signV; rw [if_pos h0.2]; rfl }
theorem prv_is {x : Fx.KeyStore} {z : ByteArray} {k : Int} : key (prvS x z k) := der_key _ _
/-- A made assertion is accepted. -/
theorem MadeA.yes {x : Fx.KeyStore} {o : Fx.Origin} {z : ByteArray} {k ch ctr : Int} {r : Fx.Assertion} (h : MadeA x o z k ch r) : chkA (pubS x z k) r z ch ctr = if ctr < r.Counter then 0 else 4 :=
  chk_yes h.good h.cha (by unfold pubS; rw [h.sig]; exact vsg_self _ prv_is)
/-- With another origin signed it is not. -/
theorem MadeA.org_no {x : Fx.KeyStore} {o : Fx.Origin} {z : ByteArray} {k ch : Int} {r f : Fx.Assertion} (h : MadeA x o z k ch r) (h1 : f.Site = r.Site) (h2 : f.Challenge = r.Challenge) (h3 : f.Handle = r.Handle) (h4 : f.Present = r.Present) (hc : f.Counter = r.Counter) (hs : f.Signature = r.Signature)
    (hd : derive 211 (C3b.sbytes f.Origin) ≠ derive 211 (C3b.sbytes r.Origin)) : vsg (pubS x z k) (msg f ++ [f.Counter]) f.Signature = false := by
  have hm : msg f = (msg r).set 2 (derive 211 (C3b.sbytes f.Origin)) := by
    unfold msg
    rw [h1, h2, h3, h4]
    simp only [List.set_cons_succ, List.set_cons_zero]
  unfold pubS
  rw [vsg_val _ _ prv_is, hs, h.sig, hc, hm]
  have e : (msg r).set 2 (derive 211 (C3b.sbytes f.Origin)) ++ [r.Counter] = (msg r ++ [r.Counter]).set 2 (derive 211 (C3b.sbytes f.Origin)) := by
    rw [List.set_append_left _ _ (by rw [msg_len]; omega)]
  rw [e]
  have h1 := derive_valid 211 (C3b.sbytes f.Origin)
  have h2 := derive_valid 211 (C3b.sbytes r.Origin)
  have g : (msg r ++ [r.Counter]).getD 2 0 = derive 211 (C3b.sbytes r.Origin) := rfl
  have := sgn_set (k := prvS x z k) (m := msg r ++ [r.Counter]) (i := 2) (y := derive 211 (C3b.sbytes f.Origin)) prv_is (by simp [msg_len]) (by rw [g]; omega)
  simpa using this
/-- With another counter signed it is not. -/
theorem MadeA.ctr_no {x : Fx.KeyStore} {o : Fx.Origin} {z : ByteArray} {k ch : Int} {r f : Fx.Assertion} (h : MadeA x o z k ch r) (hm : msg f = msg r) (hs : f.Signature = r.Signature) (hc : f.Counter = r.Counter + 1) (h0 : 0 ≤ r.Counter) (h1 : r.Counter ≤ 1000001) :
    vsg (pubS x z k) (msg f ++ [f.Counter]) f.Signature = false := by
  unfold pubS
  rw [vsg_val _ _ prv_is, hs, h.sig, hc, hm]
  have e : msg r ++ [r.Counter + 1] = (msg r ++ [r.Counter]).set 6 (r.Counter + 1) := by
    rw [List.set_append_right _ _ (by rw [msg_len]; omega), msg_len]
    rfl
  rw [e]
  have g : (msg r ++ [r.Counter]).getD 6 0 = r.Counter := rfl
  have := sgn_set (k := prvS x z k) (m := msg r ++ [r.Counter]) (i := 6) (y := r.Counter + 1) prv_is (by simp [msg_len]) (by rw [g]; omega)
  simpa using this
/-- Signatures of two keys differ. -/
def lin9 : Int := (M14.klin [0, 0, 0, 0, 0, 0, 0, 0, 0]).1
theorem lin_len : ∀ (xs ys : List Int) (p q : Int × Int), xs.length = ys.length → p.1 = q.1 → (xs.foldl M14.lstep p).1 = (ys.foldl M14.lstep q).1
  | [], [], p, q, _, h => h
  | x :: xs, y :: ys, p, q, hl, h => lin_len xs ys _ _ (by simpa using hl) (by unfold M14.lstep; rw [h])
  | [], _ :: _, _, _, hl, _ => by simp at hl
  | _ :: _, [], _, _, hl, _ => by simp at hl
theorem klin9 (xs : List Int) (h : xs.length = 9) : (M14.klin xs).1 = lin9 := by
  unfold lin9 M14.klin
  dsimp only
  rw [lin_len xs [0, 0, 0, 0, 0, 0, 0, 0, 0] _ _ h rfl]
def inv9 : Int := 76755781
theorem inv9_ok : lin9 * inv9 % 2147483647 = 1 := by decide +kernel
theorem sgn_key {k l : Int} {m : List Int} (hk : key k) (hl : key l) (hm : m.length = 7) (hne : k ≠ l) : sgn k m ≠ sgn l m := by
  unfold sgn
  rw [if_pos hk, if_pos hl]
  intro e
  rw [M14.khash_lin, M14.khash_lin, klin9 _ (by simp [hm])] at e
  have hk0 := hk.1
  have hk1 := hk.2
  have hl0 := hl.1
  have hl1 := hl.2
  have h1 := M14.one_key inv9_ok (by omega) hk1 (by omega) (by omega) e
  have h2 := M14.one_key inv9_ok (k := l) (E := (M14.klin ([139, (m.length : Int)] ++ m)).2) (t := (lin9 * l + (M14.klin ([139, (m.length : Int)] ++ m)).2) % 2147483647) (by omega) hl1 (by omega) (by omega) rfl
  omega
theorem MadeA.key_no {x y : Fx.KeyStore} {o : Fx.Origin} {z : ByteArray} {k l ch : Int} {r : Fx.Assertion} (h : MadeA x o z k ch r) (hne : prvS y z l ≠ prvS x z k) : vsg (pubS y z l) (msg r ++ [r.Counter]) r.Signature = false := by
  unfold pubS
  rw [vsg_val _ _ prv_is, h.sig]
  have := sgn_key (k := prvS y z l) (l := prvS x z k) (m := msg r ++ [r.Counter]) prv_is prv_is (by simp [msg_len]) hne
  simpa using this
def bankS : ByteArray := ⟨#[98, 97, 110, 107, 46, 99, 111, 109]⟩
theorem two_handles : ((List.range 256).all fun a => der (1 + (a : Int)) [179, H1.siteH bankS, 4] != der (1 + (a : Int)) [179, H1.siteH bankS, 3]) = true := by decide +kernel
theorem two_keys {a : Int} (h0 : 0 ≤ a) (h1 : a ≤ 255) : der (1 + a) [179, C10.siteH bankS, 4] ≠ der (1 + a) [179, C10.siteH bankS, 3] := by
  have h := List.all_eq_true.1 two_handles a.toNat (List.mem_range.2 (by omega))
  rw [show ((a.toNat : Nat) : Int) = a by omega] at h
  have h2 : ¬ der (1 + a) [179, H1.siteH bankS, 4] = der (1 + a) [179, H1.siteH bankS, 3] := by simpa using h
  exact h2
def aLit : ByteArray := ⟨#[104, 116, 116, 112, 115, 58, 47, 47, 97, 46]⟩
def apartO (o : Fx.Origin) (z : ByteArray) : Bool := !mayO o (bts z) || (derive 211 (C3b.sbytes (aLit ++ z)) != derive 211 (C3b.sbytes (str (fmtO o))))
set_option maxHeartbeats 4000000 in
theorem all_apart : (sites.all fun z => (hosts ++ odd).all fun h => ports.all fun p => [true, false].all fun s => apartO ⟨s, h, p⟩ z) = true := by decide +kernel
theorem apart {o : Fx.Origin} {z : ByteArray} (ho : okP o) (hz : z ∈ sites) (hm : mayO o (bts z) = true) : derive 211 (C3b.sbytes (⟨#[104, 116, 116, 112, 115, 58, 47, 47, 97, 46]⟩ ++ z)) ≠ derive 211 (C3b.sbytes (str (fmtO o))) := by
  rw [show (⟨#[104, 116, 116, 112, 115, 58, 47, 47, 97, 46]⟩ : ByteArray) = aLit from rfl]
  have h := all_apart
  rw [List.all_eq_true] at h
  have h := List.all_eq_true.1 (h z hz) o.Host (List.mem_append.2 ho.1)
  have h := List.all_eq_true.1 (List.all_eq_true.1 h o.Port ho.2) o.Secure (by cases o.Secure <;> simp)
  have h : apartO o z = true := h
  unfold apartO at h
  rw [hm] at h
  simpa using h
end Go.Proofs.YtialhhdhpjjkaaaGreatDoor.M17
