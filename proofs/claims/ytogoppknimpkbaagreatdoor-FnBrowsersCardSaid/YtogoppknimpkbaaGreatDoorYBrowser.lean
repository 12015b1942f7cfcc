import Derived.Test.YtogoppknimpkbaaGreatDoorBb
import Derived.Test.YtogoppknimpkbaaGreatDoorYKeyStore
import Derived.Test.YtogoppknimpkbaaGreatDoorYTab
/-
  Browser: a struct of the laws as a thing of its own, and the laws' own functions over it.
-/
set_option linter.unusedVariables false
namespace Go.Proofs.YtogoppknimpkbaaGreatDoor.Fx
open Go.ChangeShapes Go.WideShapes Go.ChangeAt Go.RowKit Go.Deep
open S0 S1 S9 S10 Ty Dm Bx
structure Browser where
  Store : Fx.KeyStore
  Tabs : List Fx.Tab
  Asked : Int
def Browser.dcs (x : Browser) : List Dc := [.val (.int .i64 x.Store.Vendor), .val (.int .i64 x.Store.Serial), .val (.int .i64 x.Store.Seed), .val (.int .i64 x.Store.Counter), TabsD x.Tabs, .val (.int .i64 x.Asked)]
theorem Browser.len (x : Browser) : x.dcs.length = 6 := rfl
structure Browser.ok (x : Browser) : Prop where
  Store : x.Store.ok
  Tabs_n : x.Tabs.length ≤ maxLen
  Tabs : ∀ y ∈ x.Tabs, y.ok
  Asked : -9223372036854775808 ≤ x.Asked ∧ x.Asked ≤ 9223372036854775807
def tyBrowser : Ty := .cons tyKeyStore (.cons tyTabs (.cons (.int .i64) (.done)))
set_option maxRecDepth 100000 in
theorem Browser.is {ds : List Dc} (h : Is tyBrowser ds) : ∃ x : Browser, ds = x.dcs ∧ x.ok := by
  unfold tyBrowser at h
  simp only [Is] at h
  obtain ⟨_, _, rfl, h0, ⟨_, _, rfl, h1, ⟨_, _, rfl, ⟨x2, rfl, h2⟩, rfl⟩⟩⟩ := h
  obtain ⟨x0, rfl, hh0⟩ := Fx.KeyStore.is h0
  obtain ⟨x1, rfl, l1, h1⟩ := isTabs h1
  exact ⟨⟨x0, x1, x2⟩, rfl, ⟨hh0, l1, h1, M1.i64_wf h2⟩⟩
theorem Browser.rds {w : World} {hi : Nat} {x : Browser} {vs : List Go.Value} (h : RdsL w hi x.dcs vs) : ∃ (A_Tabs : Option Addr) (c_Tabs : Nat), vs = [.int .i64 x.Store.Vendor, .int .i64 x.Store.Serial, .int .i64 x.Store.Seed, .int .i64 x.Store.Counter, .slice A_Tabs x.Tabs.length c_Tabs, .int .i64 x.Asked] ∧ Rds w hi (TabsD x.Tabs) (.slice A_Tabs x.Tabs.length c_Tabs) := by
  unfold Browser.dcs at h
  simp only [RdsL] at h
  obtain ⟨_, _, rfl, h0, ⟨_, _, rfl, h1, ⟨_, _, rfl, h2, ⟨_, _, rfl, h3, ⟨_, _, rfl, h4, ⟨_, _, rfl, h5, rfl⟩⟩⟩⟩⟩⟩ := h
  obtain ⟨A4, c4, rfl⟩ := rds_slice h4
  obtain rfl := rds_val h0
  obtain rfl := rds_val h1
  obtain rfl := rds_val h2
  obtain rfl := rds_val h3
  obtain rfl := rds_val h5
  exact ⟨A4, c4, rfl, h4⟩
theorem Browser.mkR {w : World} {hi : Nat} {x : Browser} {A_Tabs : Option Addr} {c_Tabs : Nat} (h_Tabs : Rds w hi (TabsD x.Tabs) (.slice A_Tabs x.Tabs.length c_Tabs)) : RdsL w hi x.dcs [.int .i64 x.Store.Vendor, .int .i64 x.Store.Serial, .int .i64 x.Store.Seed, .int .i64 x.Store.Counter, .slice A_Tabs x.Tabs.length c_Tabs, .int .i64 x.Asked] := by
  unfold Browser.dcs
  simp only [RdsL]
  exact ⟨_, _, rfl, by simp [Rds], ⟨_, _, rfl, by simp [Rds], ⟨_, _, rfl, by simp [Rds], ⟨_, _, rfl, by simp [Rds], ⟨_, _, rfl, h_Tabs, ⟨_, _, rfl, by simp [Rds], rfl⟩⟩⟩⟩⟩⟩
theorem Browser.owns {w : World} {lo : Nat} {x : Browser} {vs : List Go.Value} {bs : List Nat} (h : OwnsL w lo x.dcs vs bs) : ∃ (A_Tabs : Option Addr) (c_Tabs : Nat) (b_Tabs : List Nat), vs = [.int .i64 x.Store.Vendor, .int .i64 x.Store.Serial, .int .i64 x.Store.Seed, .int .i64 x.Store.Counter, .slice A_Tabs x.Tabs.length c_Tabs, .int .i64 x.Asked] ∧ Owns w lo (TabsD x.Tabs) (.slice A_Tabs x.Tabs.length c_Tabs) b_Tabs ∧ bs = b_Tabs := by
  unfold Browser.dcs at h
  simp only [OwnsL] at h
  obtain ⟨_, _, _, _, rfl, h0, ⟨_, _, _, _, rfl, h1, ⟨_, _, _, _, rfl, h2, ⟨_, _, _, _, rfl, h3, ⟨_, _, _, _, rfl, h4, ⟨_, _, _, _, rfl, h5, ⟨rfl, rfl⟩, rfl⟩, rfl⟩, rfl⟩, rfl⟩, rfl⟩, rfl⟩ := h
  obtain ⟨rfl, rfl⟩ := owns_val h0
  obtain ⟨rfl, rfl⟩ := owns_val h1
  obtain ⟨rfl, rfl⟩ := owns_val h2
  obtain ⟨rfl, rfl⟩ := owns_val h3
  obtain ⟨A4, c4, rfl⟩ := owns_slice h4
  obtain ⟨rfl, rfl⟩ := owns_val h5
  exact ⟨A4, c4, _, rfl, h4, by simp⟩
theorem Browser.wt (x : Browser) : wtL x.dcs = Dm.wt (TabsD x.Tabs) := by
  unfold Browser.dcs
  simp only [wtL]
  simp only [wt_int]
  first | done | omega
theorem mkT_Browser (x : Browser) (k : Int) : mkT x.dcs k = [.val (.int .i64 x.Store.Vendor), .val (.int .i64 x.Store.Serial), .val (.int .i64 x.Store.Seed), .val (.int .i64 x.Store.Counter), mk (TabsD x.Tabs) (k), .val (.int .i64 x.Asked)] := by
  unfold Browser.dcs
  rw [mkT_val, mkT_val, mkT_val, mkT_val, mkT_of (d := TabsD x.Tabs) trivial, mkT_val]
  rfl
theorem cntT_Browser (x : Browser) : cntT x.dcs = cnt (TabsD x.Tabs) := by
  unfold Browser.dcs
  rw [cntT_val, cntT_val, cntT_val, cntT_val, cntT_of (d := TabsD x.Tabs) trivial, cntT_val]
  simp only [cntT, Nat.add_zero]
theorem cntTb_Browser (x : Browser) : cntT x.dcs ≤ 64 * wtL x.dcs := by
  rw [cntT_Browser, Browser.wt]
  have h_Tabs := cnt_Tabs (x.Tabs)
  have k_Store := Fx.KeyStore.wt x.Store
  omega
end Go.Proofs.YtogoppknimpkbaaGreatDoor.Fx
