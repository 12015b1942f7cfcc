import Derived.Test.YtogoppknimpkbaaGreatDoorBb
import Derived.Test.YtogoppknimpkbaaGreatDoorMt
import Derived.Test.YtogoppknimpkbaaGreatDoorYOrigin
/-
  Tab: a struct of the laws as a thing of its own, and the laws' own functions over it.
-/
set_option linter.unusedVariables false
namespace Go.Proofs.YtogoppknimpkbaaGreatDoor.Fx
open Go.ChangeShapes Go.WideShapes Go.ChangeAt Go.RowKit Go.Deep
open S0 S1 S9 S10 Ty Dm Bx
structure Tab where
  Origin : Fx.Origin
  Top : Fx.Origin
def Tab.dcs (x : Tab) : List Dc := [.val (.bool x.Origin.Secure), .val (.string x.Origin.Host), .val (.int .i64 x.Origin.Port), .val (.bool x.Top.Secure), .val (.string x.Top.Host), .val (.int .i64 x.Top.Port)]
theorem Tab.len (x : Tab) : x.dcs.length = 6 := rfl
structure Tab.ok (x : Tab) : Prop where
  Origin : x.Origin.ok
  Top : x.Top.ok
def tyTab : Ty := .cons tyOrigin (.cons tyOrigin (.done))
set_option maxRecDepth 100000 in
theorem Tab.is {ds : List Dc} (h : Is tyTab ds) : ∃ x : Tab, ds = x.dcs ∧ x.ok := by
  unfold tyTab at h
  simp only [Is] at h
  obtain ⟨_, _, rfl, h0, ⟨_, _, rfl, h1, rfl⟩⟩ := h
  obtain ⟨x0, rfl, hh0⟩ := Fx.Origin.is h0
  obtain ⟨x1, rfl, hh1⟩ := Fx.Origin.is h1
  exact ⟨⟨x0, x1⟩, rfl, ⟨hh0, hh1⟩⟩
def TabsD (l : List Tab) : Dc := .row 62 6 l.length (l.flatMap Tab.dcs)
def tyTabs : Ty := .slice 111 62 tyTab
set_option maxRecDepth 100000 in
theorem isTabs {ds : List Dc} (h : Is tyTabs ds) : ∃ l : List Tab, ds = [TabsD l] ∧ l.length ≤ maxLen ∧ ∀ x ∈ l, x.ok := by
  unfold tyTabs at h
  simp only [Is] at h
  obtain ⟨n, cs, rfl, hn, hp⟩ := h
  obtain ⟨l, rfl, rfl, ho⟩ := of_pieces Tab.dcs Tab.ok (fun ds hd => Tab.is hd) n cs hp
  exact ⟨l, rfl, hn, ho⟩
theorem Tab.rds {w : World} {hi : Nat} {x : Tab} {vs : List Go.Value} (h : RdsL w hi x.dcs vs) : vs = [.bool x.Origin.Secure, .string x.Origin.Host, .int .i64 x.Origin.Port, .bool x.Top.Secure, .string x.Top.Host, .int .i64 x.Top.Port] := by
  unfold Tab.dcs at h
  simp only [RdsL] at h
  obtain ⟨_, _, rfl, h0, ⟨_, _, rfl, h1, ⟨_, _, rfl, h2, ⟨_, _, rfl, h3, ⟨_, _, rfl, h4, ⟨_, _, rfl, h5, rfl⟩⟩⟩⟩⟩⟩ := h
  obtain rfl := rds_val h0
  obtain rfl := rds_val h1
  obtain rfl := rds_val h2
  obtain rfl := rds_val h3
  obtain rfl := rds_val h4
  obtain rfl := rds_val h5
  exact rfl
theorem Tab.mkR {w : World} {hi : Nat} {x : Tab}   : RdsL w hi x.dcs [.bool x.Origin.Secure, .string x.Origin.Host, .int .i64 x.Origin.Port, .bool x.Top.Secure, .string x.Top.Host, .int .i64 x.Top.Port] := by
  unfold Tab.dcs
  simp only [RdsL]
  exact ⟨_, _, rfl, by simp [Rds], ⟨_, _, rfl, by simp [Rds], ⟨_, _, rfl, by simp [Rds], ⟨_, _, rfl, by simp [Rds], ⟨_, _, rfl, by simp [Rds], ⟨_, _, rfl, by simp [Rds], rfl⟩⟩⟩⟩⟩⟩
theorem Tab.owns {w : World} {lo : Nat} {x : Tab} {vs : List Go.Value} {bs : List Nat} (h : OwnsL w lo x.dcs vs bs) : vs = [.bool x.Origin.Secure, .string x.Origin.Host, .int .i64 x.Origin.Port, .bool x.Top.Secure, .string x.Top.Host, .int .i64 x.Top.Port] ∧ bs = [] := by
  unfold Tab.dcs at h
  simp only [OwnsL] at h
  obtain ⟨_, _, _, _, rfl, h0, ⟨_, _, _, _, rfl, h1, ⟨_, _, _, _, rfl, h2, ⟨_, _, _, _, rfl, h3, ⟨_, _, _, _, rfl, h4, ⟨_, _, _, _, rfl, h5, ⟨rfl, rfl⟩, rfl⟩, rfl⟩, rfl⟩, rfl⟩, rfl⟩, rfl⟩ := h
  obtain ⟨rfl, rfl⟩ := owns_val h0
  obtain ⟨rfl, rfl⟩ := owns_val h1
  obtain ⟨rfl, rfl⟩ := owns_val h2
  obtain ⟨rfl, rfl⟩ := owns_val h3
  obtain ⟨rfl, rfl⟩ := owns_val h4
  obtain ⟨rfl, rfl⟩ := owns_val h5
  exact ⟨rfl, by simp⟩
theorem Tab.wt (x : Tab) : wtL x.dcs = x.Origin.Host.size + x.Top.Host.size := by
  unfold Tab.dcs
  simp only [wtL]
  simp only [wt_int, wt_bool, wt_str]
  first | done | omega
set_option maxRecDepth 100000 in
theorem Tab_info : (Tryz.prog.info? 62).map (fun i => (i.zero, i.size, i.bytes)) = some (some (.agg #[.bool false, .string ⟨#[]⟩, .int .i64 0, .bool false, .string ⟨#[]⟩, .int .i64 0]), 6, 64) := by kernel_rfl
theorem wt_Tabs (l : List Tab) : Dm.wt (TabsD l) = l.length + wtL (l.flatMap Tab.dcs) := by unfold TabsD; simp only [Dm.wt]
theorem cntL_Tab (x : Tab) : cntL x.dcs = 6 := by
  unfold Tab.dcs
  simp only [cntL, cnt_plain]
  first | done | omega
theorem cntb_Tab (x : Tab) : cntL x.dcs ≤ 64 + 64 * wtL x.dcs := by
  rw [cntL_Tab, Tab.wt]
  omega
theorem cnt_Tabs (l : List Tab) : cnt (TabsD l) ≤ 64 * Dm.wt (TabsD l) := by
  rw [wt_Tabs]
  unfold TabsD
  simp only [cnt]
  exact cnt_flatMap Tab.dcs cntb_Tab l
end Go.Proofs.YtogoppknimpkbaaGreatDoor.Fx
