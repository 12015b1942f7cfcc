/-
  Contracts of the functions of elder chapters that chapter 16 calls, as a run takes them.
-/
import Derived.Test.YtogoppknimpkbaaM24
import Derived.Test.YtogoppknimpkbaaC9b
import Derived.Test.YtogoppknimpkbaaC9i
import Derived.Test.YtogoppknimpkbaaC10i
namespace Go.Proofs.Ytogoppknimpkbaa.C16c
open Go.ChangeShapes Go.WideShapes Go.ChangeAt Go.RowKit
open S0 S1 S9 Dm Fx M3 M8 M12 M13 C9 C10 M24 E0 E1 E2 E3 E4 E7 E10 E15 E16 E17 E18 E19 E20 Das
set_option linter.unusedVariables false
set_option linter.unusedSimpArgs false
set_option maxRecDepth 100000
theorem sOrg (o : Fx.Origin) (h : o.Host.size ≤ 4294967296) : FnCon Try.prog 33 [(true, dasOrigin o)] [bV (orgB o)] :=
  con_of_plain (con_enters Try.func33 (by kernel_rfl) (by kernel_rfl)) rfl fun w v0 k0 => by
    obtain ⟨us, v1, rfl, hr, k1⟩ := of_aggA (dasOrigin_dc o) k0
    obtain rfl := of_nil k1
    exact C9b.specOrg w o us hr h
theorem sSame (o q : Fx.Origin) (h1 : o.Host.size ≤ 4294967296) (h2 : q.Host.size ≤ 4294967296) : FnCon Try.prog 27 [(true, dasOrigin o), (true, dasOrigin q)] [bV (sameO o q)] :=
  con_of_plain (con_enters Try.func27 (by kernel_rfl) (by kernel_rfl)) rfl fun w v0 k0 => by
    obtain ⟨us, v1, rfl, hr, k1⟩ := of_aggA (dasOrigin_dc o) k0
    obtain ⟨vs, v2, rfl, hr2, k2⟩ := of_aggA (dasOrigin_dc q) k1
    obtain rfl := of_nil k2
    exact C9b.specSame w o q us vs hr hr2 h1 h2
theorem sMay (o : Fx.Origin) (z : ByteArray) (h1 : o.Host.size ≤ 4294967296) (h2 : z.size ≤ 4294967296) : FnCon Try.prog 29 [(true, dasOrigin o), sV z] [bV (mayO o (bts z))] :=
  con_of_plain (con_enters Try.func29 (by kernel_rfl) (by kernel_rfl)) rfl fun w v0 k0 => by
    obtain ⟨us, v1, rfl, hr, k1⟩ := of_aggA (dasOrigin_dc o) k0
    obtain ⟨v2, rfl, k2⟩ := of_valA k1
    obtain rfl := of_nil k2
    exact C9b.specMay w o z us hr h1 h2
theorem sVst (x : Fx.KeyStore) : FnCon Try.prog 45 [(true, dasKeyStore x)] [bV (vst x)] :=
  con_of_plain (con_enters Try.func45 (by kernel_rfl) (by kernel_rfl)) rfl fun w v0 k0 => by
    obtain ⟨us, v1, rfl, hr, k1⟩ := of_aggA (dasKeyStore_dc x) k0
    obtain rfl := of_nil k1
    exact C10.specVst w x us hr
theorem sPub (x : Fx.KeyStore) (z : ByteArray) (k : Int) (ho : x.ok) (hs : z.size ≤ 16000000) (k0 : -9223372036854775808 ≤ k) (k1 : k ≤ 9223372036854775807) : FnCon Try.prog 46 [(true, dasKeyStore x), sV z, iV k] [iV (pubS x z k)] :=
  con_of_plain (con_enters Try.func46 (by kernel_rfl) (by kernel_rfl)) rfl fun w v0 h0 => by
    obtain ⟨us, v1, rfl, hr, h1⟩ := of_aggA (dasKeyStore_dc x) h0
    obtain ⟨v2, rfl, h2⟩ := of_valA h1
    obtain ⟨v3, rfl, h3⟩ := of_valA h2
    obtain rfl := of_nil h3
    exact C10.specPubS w x z k us hr ho hs k0 k1
theorem iOrg (o : Fx.Origin) (h : o.Host.size ≤ 4294967296) : FnCon Try.prog 37 [(true, dasOrigin o)] [bV (orgB o)] :=
  con_of_plain (con_enters Try.func37 (by kernel_rfl) (by kernel_rfl)) rfl fun w v0 k0 => by
    obtain ⟨us, v1, rfl, hr, k1⟩ := of_aggA (dasOrigin_dc o) k0
    obtain rfl := of_nil k1
    exact C9i.implOrg w o us hr h
theorem iSame (o q : Fx.Origin) (h1 : o.Host.size ≤ 4294967296) (h2 : q.Host.size ≤ 4294967296) : FnCon Try.prog 28 [(true, dasOrigin o), (true, dasOrigin q)] [bV (sameO o q)] :=
  con_of_plain (con_enters Try.func28 (by kernel_rfl) (by kernel_rfl)) rfl fun w v0 k0 => by
    obtain ⟨us, v1, rfl, hr, k1⟩ := of_aggA (dasOrigin_dc o) k0
    obtain ⟨vs, v2, rfl, hr2, k2⟩ := of_aggA (dasOrigin_dc q) k1
    obtain rfl := of_nil k2
    exact C9i.implSame w o q us vs hr hr2 h1 h2
theorem iMay (o : Fx.Origin) (z : ByteArray) (h1 : o.Host.size ≤ 4294967296) (h2 : z.size ≤ 4294967296) : FnCon Try.prog 30 [(true, dasOrigin o), sV z] [bV (mayO o (bts z))] :=
  con_of_plain (con_enters Try.func30 (by kernel_rfl) (by kernel_rfl)) rfl fun w v0 k0 => by
    obtain ⟨us, v1, rfl, hr, k1⟩ := of_aggA (dasOrigin_dc o) k0
    obtain ⟨v2, rfl, k2⟩ := of_valA k1
    obtain rfl := of_nil k2
    exact C9i.implMay w o z us hr h1 h2
theorem iVst (x : Fx.KeyStore) : FnCon Try.prog 48 [(true, dasKeyStore x)] [bV (vst x)] :=
  con_of_plain (con_enters Try.func48 (by kernel_rfl) (by kernel_rfl)) rfl fun w v0 k0 => by
    obtain ⟨us, v1, rfl, hr, k1⟩ := of_aggA (dasKeyStore_dc x) k0
    obtain rfl := of_nil k1
    exact C10i.implVst w x us hr
theorem iPub (x : Fx.KeyStore) (z : ByteArray) (k : Int) (ho : x.ok) (hs : z.size ≤ 16000000) (k0 : -9223372036854775808 ≤ k) (k1 : k ≤ 9223372036854775807) : FnCon Try.prog 49 [(true, dasKeyStore x), sV z, iV k] [iV (pubS x z k)] :=
  con_of_plain (con_enters Try.func49 (by kernel_rfl) (by kernel_rfl)) rfl fun w v0 h0 => by
    obtain ⟨us, v1, rfl, hr, h1⟩ := of_aggA (dasKeyStore_dc x) h0
    obtain ⟨v2, rfl, h2⟩ := of_valA h1
    obtain ⟨v3, rfl, h3⟩ := of_valA h2
    obtain rfl := of_nil h3
    exact C10i.implPubS w x z k us hr ho hs k0 k1
end Go.Proofs.Ytogoppknimpkbaa.C16c
