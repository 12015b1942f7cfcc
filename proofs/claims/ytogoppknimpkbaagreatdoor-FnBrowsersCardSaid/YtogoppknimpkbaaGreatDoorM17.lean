import Derived.Test.YtogoppknimpkbaaGreatDoorC13b
import Derived.Test.YtogoppknimpkbaaGreatDoorC13
import Derived.Test.YtogoppknimpkbaaGreatDoorD13
import Derived.Test.YtogoppknimpkbaaGreatDoorM14
/-
  Assertions: a made one is accepted, and one that was changed is not (the signature's hash depends on each value, and on the key).
-/
namespace Go.Proofs.YtogoppknimpkbaaGreatDoor.M17
open Go.ChangeShapes Go.WideShapes Go.ChangeAt Go.RowKit
open S0 S1 S9 Dm Fx M3 M8 M12 M13 C3 C6 C9 C10 C13m C13 C13b D10 D13
set_option linter.unusedVariables false
set_option maxRecDepth 100000
theorem vsg_val {k : Int} (m : List Int) (s : Int) (hk : key k) : vsg (pub k) m s = (sgn k m == s) := by
  unfold vsg
  rw [if_pos (pub_key hk), prv_pub hk]
theorem vsg_self {k : Int} (m : List Int) (hk : key k) : vsg (pub k) m (sgn k m) = true := by rw [vsg_val m _ hk]; simp
structure Good (a : Fx.Assertion) (z : ByteArray) : Prop where
  site : a.Site = z
  org : poB (bts a.Origin) = true
  may : mayO (poO (bts a.Origin)) (bts z) = true
  pres : a.Present = true
theorem chk_yes {p ch ctr : Int} {a : Fx.Assertion} {z : ByteArray} (g : Good a z) (hc : a.Challenge = ch) (hs : vsg p (msg a ++ [a.Counter]) a.Signature = true) : chkA p a z ch ctr = if ctr < a.Counter then 0 else 4 := by
  unfold chkA
  rw [if_pos g.site, if_pos g.org, if_pos g.may, if_pos g.pres, if_pos hc, if_pos hs]
theorem may_org {o : Fx.Origin} {s : List UInt8} (h : mayO o s = true) : orgB o = true := by
  unfold mayO at h
  simp only [Bool.and_eq_true] at h
  exact h.1.1.1.1
theorem org_of {o : Fx.Origin} {z : ByteArray} (h : mayO o (bts z) = true) : poB (bts (str (fmtO o))) = true ∧ poO (bts (str (fmtO o))) = o := by
  rw [bts_str]
  have h1 := may_org h
  exact ⟨by rw [(po_fmt o).1, h1], (po_fmt o).2 h1⟩
/-- What making an assertion gives, where it may be made. -/
structure MadeA (x : Fx.KeyStore) (o : Fx.Origin) (z : ByteArray) (k ch : Int) (r : Fx.Assertion) : Prop where
  s : mkS x o z = ⟨x.Vendor, x.Serial, x.Seed, x.Counter + 1⟩
  a : mkA x o z k ch true = r
  good : Good r z
  cha : r.Challenge = ch
  org : r.Origin = str (fmtO o)
  ctr : r.Counter = x.Counter + 1
  han : r.Handle = k
  sig : r.Signature = sgn (prvS x z k) (msg r ++ [r.Counter])
theorem made {x : Fx.KeyStore} {o : Fx.Origin} {z : ByteArray} (k ch : Int) (hb : mkB x o z = true) : MadeA x o z k ch ⟨z, str (fmtO o), ch, k, true, x.Counter + 1, signV x z k (msg (a0 o z k ch true))⟩ := by
  have h0 := hb
  unfold mkB at h0
  simp only [Bool.and_eq_true] at h0
  have hx : signX x = ⟨x.Vendor, x.Serial, x.Seed, x.Counter + 1⟩ := by unfold signX; rw [if_pos h0.2]
  have ho := org_of h0.1
  exact { s := by unfold mkS; rw [if_pos hb, hx], a := by unfold mkA; rw [if_pos hb, hx], good := ⟨rfl, ho.1, by dsimp only; rw [ho.2]; exact h0.1, rfl⟩, cha := rfl, org := rfl, ctr := rfl, han := rfl,
          sig := by dsimp only; unfold signV; rw [if_pos h0.2]; rfl }
theorem prv_is {x : Fx.KeyStore} {z : ByteArray} {k : Int} : key (prvS x z k) := der_key _ _
/-- A made assertion is accepted. -/
theorem MadeA.yes {x : Fx.KeyStore} {o : Fx.Origin} {z : ByteArray} {k ch ctr : Int} {r : Fx.Assertion} (h : MadeA x o z k ch r) : chkA (pubS x z k) r z ch ctr = if ctr < r.Counter then 0 else 4 :=
  chk_yes h.good h.cha (by unfold pubS; rw [h.sig]; exact vsg_self _ prv_is)
def aLit : ByteArray := ⟨#[104, 116, 116, 112, 115, 58, 47, 47, 97, 46]⟩
def apartO (o : Fx.Origin) (z : ByteArray) : Bool := !mayO o (bts z) || (derive 211 (C3b.sbytes (aLit ++ z)) != derive 211 (C3b.sbytes (str (fmtO o))))
set_option maxHeartbeats 4000000 in
theorem all_apart : (sites.all fun z => (hosts ++ odd).all fun h => ports.all fun p => [true, false].all fun s => apartO ⟨s, h, p⟩ z) = true := by decide +kernel
theorem apart {o : Fx.Origin} {z : ByteArray} (ho : okP o) (hz : z ∈ sites) (hm : mayO o (bts z) = true) : derive 211 (C3b.sbytes (⟨#[104, 116, 116, 112, 115, 58, 47, 47, 97, 46]⟩ ++ z)) ≠ derive 211 (C3b.sbytes (str (fmtO o))) := by
  rw [show (⟨#[104, 116, 116, 112, 115, 58, 47, 47, 97, 46]⟩ : ByteArray) = aLit from rfl]
  have h := all_apart
  rw [List.all_eq_true] at h
  have h := List.all_eq_true.1 (h z hz) o.Host (List.mem_append.2 ho.1)
  have h := List.all_eq_true.1 (List.all_eq_true.1 h o.Port ho.2) o.Secure (by cases o.Secure <;> simp)
  have h : apartO o z = true := h
  unfold apartO at h
  rw [hm] at h
  simpa using h
end Go.Proofs.YtogoppknimpkbaaGreatDoor.M17
