import Derived.Test.YtogoppknimpkbaaGreatDoorM24
import Derived.Test.YtogoppknimpkbaaGreatDoorBc
import Derived.Test.YtogoppknimpkbaaGreatDoorBd
import Derived.Test.YtogoppknimpkbaaGreatDoorC9v
import Derived.Test.YtogoppknimpkbaaGreatDoorC10i
/-
  Contracts of the functions of elder chapters that chapter 16 calls, as a run takes them.
-/
namespace Go.Proofs.YtogoppknimpkbaaGreatDoor.C16c
open Go.ChangeShapes Go.WideShapes Go.ChangeAt Go.RowKit
open S0 S1 S9 Dm Fx M3 M8 M12 M13 C9 C10 M24 E0 E1 E2 E3 E4 E7 E10 E15 E16 E17 E18 E19 E20 Das
set_option linter.unusedVariables false
set_option linter.unusedSimpArgs false
set_option maxRecDepth 100000
theorem sOrg (o : Fx.Origin) (h : o.Host.size ≤ 4294967296) : FnCon Tryz.prog 63 [(true, dasOrigin o)] [bV (orgB o)] :=
  con_of_plain (con_enters Tryz.func63 (by kernel_rfl) (by kernel_rfl)) rfl fun w v0 k0 => by
    obtain ⟨us, v1, rfl, hr, k1⟩ := of_aggA (dasOrigin_dc o) k0
    obtain rfl := of_nil k1
    exact C9b.specOrg w o us hr h
theorem sSame (o q : Fx.Origin) (h1 : o.Host.size ≤ 4294967296) (h2 : q.Host.size ≤ 4294967296) : FnCon Tryz.prog 33 [(true, dasOrigin o), (true, dasOrigin q)] [bV (sameO o q)] := C9v.conSameS o q h1 h2
theorem sMay (o : Fx.Origin) (z : ByteArray) (h1 : o.Host.size ≤ 4294967296) (h2 : z.size ≤ 4294967296) : FnCon Tryz.prog 32 [(true, dasOrigin o), sV z] [bV (mayO o (bts z))] :=
  con_of_plain (con_enters Tryz.func32 (by kernel_rfl) (by kernel_rfl)) rfl fun w v0 k0 => by
    obtain ⟨us, v1, rfl, hr, k1⟩ := of_aggA (dasOrigin_dc o) k0
    obtain ⟨v2, rfl, k2⟩ := of_valA k1
    obtain rfl := of_nil k2
    exact C9b.specMay w o z us hr h1 h2
theorem sPub (x : Fx.KeyStore) (z : ByteArray) (k : Int) (ho : x.ok) (hs : z.size ≤ 16000000) (k0 : -9223372036854775808 ≤ k) (k1 : k ≤ 9223372036854775807) : FnCon Tryz.prog 11 [(true, dasKeyStore x), sV z, iV k] [iV (pubS x z k)] :=
  con_of_plain (con_enters Tryz.func11 (by kernel_rfl) (by kernel_rfl)) rfl fun w v0 h0 => by
    obtain ⟨us, v1, rfl, hr, h1⟩ := of_aggA (dasKeyStore_dc x) h0
    obtain ⟨v2, rfl, h2⟩ := of_valA h1
    obtain ⟨v3, rfl, h3⟩ := of_valA h2
    obtain rfl := of_nil h3
    exact C10.specPubS w x z k us hr ho hs k0 k1
theorem iOrg (o : Fx.Origin) (h : o.Host.size ≤ 4294967296) : FnCon Tryz.prog 41 [(true, dasOrigin o)] [bV (orgB o)] :=
  con_of_plain (con_enters Tryz.func41 (by kernel_rfl) (by kernel_rfl)) rfl fun w v0 k0 => by
    obtain ⟨us, v1, rfl, hr, k1⟩ := of_aggA (dasOrigin_dc o) k0
    obtain rfl := of_nil k1
    exact C9i.implOrg w o us hr h
theorem iVst (x : Fx.KeyStore) : FnCon Tryz.prog 39 [(true, dasKeyStore x)] [bV (vst x)] :=
  con_of_plain (con_enters Tryz.func39 (by kernel_rfl) (by kernel_rfl)) rfl fun w v0 k0 => by
    obtain ⟨us, v1, rfl, hr, k1⟩ := of_aggA (dasKeyStore_dc x) k0
    obtain rfl := of_nil k1
    exact C10i.implVst w x us hr
theorem iPub (x : Fx.KeyStore) (z : ByteArray) (k : Int) (ho : x.ok) (hs : z.size ≤ 16000000) (k0 : -9223372036854775808 ≤ k) (k1 : k ≤ 9223372036854775807) : FnCon Tryz.prog 40 [(true, dasKeyStore x), sV z, iV k] [iV (pubS x z k)] :=
  con_of_plain (con_enters Tryz.func40 (by kernel_rfl) (by kernel_rfl)) rfl fun w v0 h0 => by
    obtain ⟨us, v1, rfl, hr, h1⟩ := of_aggA (dasKeyStore_dc x) h0
    obtain ⟨v2, rfl, h2⟩ := of_valA h1
    obtain ⟨v3, rfl, h3⟩ := of_valA h2
    obtain rfl := of_nil h3
    exact C10i.implPubS w x z k us hr ho hs k0 k1
end Go.Proofs.YtogoppknimpkbaaGreatDoor.C16c
