import Derived.Test.YtmhjjocmnmeapaaGreatDoorC14u
import Derived.Test.YtmhjjocmnmeapaaGreatDoorE25
import Derived.Test.YtmhjjocmnmeapaaGreatDoorYAssertion
/-
  UseCredential called in a run that knows the tables laid at its start.
-/
namespace Go.Proofs.YtmhjjocmnmeapaaGreatDoor.Cu14
open Go.ChangeShapes Go.WideShapes Go.ChangeAt Go.RowKit
open S0 S1 S9 Dm Fx M8 M18 M19 C13 E0 E1 E2 E3 E4 E7 E10 E15 E16 E17 E18 E19 E20 E21 E22 E24 E25 Das C14u
set_option linter.unusedVariables false
set_option linter.unusedSimpArgs false
set_option maxRecDepth 100000
set_option maxHeartbeats 4000000
section
variable {old : World → Prop} {W : World} {id q : Nat} {o : Oper} {c : Call} {y : AV} {a : Fx.Account} {k : Int}
theorem cust_use {x : Fx.Assertion} {z : ByteArray} {n : Int} {gs : List (Bool × List Sc)} {m : List (Nat × Ob)} {kk : Nat} (ho : o.op = .call c) (hc : c.callee = .value (.func 6)) (hy : AvIds y = []) (hW : ∀ w, old w → w = W) (hn : a.Credentials.length ≤ 16000000) (hx : x.ok) (hs : x.Site.size ≤ 16000000) (hs2 : x.Origin.size ≤ 16000000) (hz : z.size ≤ 16000000) (hok : ∀ y ∈ a.Credentials, Credential.ok y) (ht : La.Pow W) (he : As.Er W)
    (hg : grpNew id [(true, dasAccount (useX a x z n)), iV (useR a x z n)] = (gs, m, kk)) (hkk : kk ≤ id + 8) :
    Cust Tryz.prog old id o [y, .agg [.val (.int .i64 (a).Id), .val (.int .i64 (a).Minimum), .own q], .agg [.val (.string x.Site), .val (.string x.Origin), .val (.int .i64 x.Challenge), .val (.int .i64 x.Handle), .val (.bool x.Present), .val (.int .i64 x.Counter), .val (.int .i64 x.Signature)], .one (.val (.string z)), .one (.val (.int .i64 n))] [.own (rowR 49 4 dasCredential zCredential a.Credentials)] ⟨[], resAV gs, m⟩ :=
  cust_on (ags := [(true, dasAccount a), (true, dasAssertion x), (false, [.val (.string z)]), iV n]) ho hc (con_enters Tryz.func6 (by kernel_rfl) (by kernel_rfl)) (fun obs hob => by
    have hq : obs q = .own (rowR 49 4 dasCredential zCredential a.Credentials) := by
      have h2 := named_one hob (by rw [List.flatMap_cons, hy]; rfl)
      rw [List.flatMap_cons, hy] at h2
      simpa [AvIds, ScIds] using h2
    show avsDa obs [.agg [.val (.int .i64 (a).Id), .val (.int .i64 (a).Minimum), .own q], .agg [.val (.string x.Site), .val (.string x.Origin), .val (.int .i64 x.Challenge), .val (.int .i64 x.Handle), .val (.bool x.Present), .val (.int .i64 x.Counter), .val (.int .i64 x.Signature)], .one (.val (.string z)), .one (.val (.int .i64 n))] = _
    simp [avsDa, avDa, csDa, scDa, hq, dasAccount, dasAssertion]) hg hkk fun W0 w hold hb args hargs => by
    obtain rfl := hW _ hold
    obtain ⟨us, v1, rfl, h1, k1⟩ := arg_open (dasAccount_dc a) hargs
    obtain ⟨vs, v2, rfl, h2, k2⟩ := of_aggA (dasAssertion_dc x) k1
    obtain ⟨v3, rfl, k3⟩ := of_valA k2
    obtain ⟨v4, rfl, k4⟩ := of_valA k3
    obtain rfl := of_nil k4
    exact (implUse w a x z n us vs h1 h2 hn hx hs hs2 hz hok (ht.stays hb) (he.stays hb)).mono fun _ _ h => made_res (us := [.int .i64 (useR a x z n)]) rfl (dasAccount_dc _) h
end
end Go.Proofs.YtmhjjocmnmeapaaGreatDoor.Cu14
