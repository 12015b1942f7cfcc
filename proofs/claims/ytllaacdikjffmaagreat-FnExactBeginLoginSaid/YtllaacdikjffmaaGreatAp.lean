import Derived.Test.YtllaacdikjffmaaGreatBb
import Derived.Deep.AppendLies
/-
  An append of one element with memory in it onto a row of the call's own.
-/
namespace Go.Proofs.YtllaacdikjffmaaGreat.Ap
open Go.ChangeShapes Go.WideShapes Go.ChangeAt Go.RowKit Go.Deep
open S0 S1 S9 S10 Ty Dm Bx
set_option linter.unusedVariables false
theorem app_made {w w' : World} {base lo2 E size n g off cap : Nat} {cs ds : List Dc} {v : Value} {vs us : List Value} {b1 b2 : List Nat} (hl : OwnsL w base cs vs b1) (hnd : (v.ownBlock.toList ++ b1).Nodup) (hv : ∀ k, v.ownBlock = some k → k < w.heap.size)
    (hds : OwnsL w lo2 ds us b2) (n2 : b2.Nodup) (hdis : ∀ x, x ∈ v.ownBlock.toList ++ b1 → x ∉ b2) (hlo : base ≤ lo2) (ho : Ow.At w' base E size (.slice (some ⟨g, off, none⟩) (n + 1) cap) (n + 1) (vs ++ us)) (hg : w.grownBy w' v.ownBlock) (hat : v.ownBlock = some g ∨ g = w.heap.size) :
    Owns w' base (.row E size (n + 1) (cs ++ ds)) (.slice (some ⟨g, off, none⟩) (n + 1) cap) ([g] ++ (b1 ++ b2)) ∧ ([g] ++ (b1 ++ b2)).Nodup := by
  obtain ⟨n0, n1, n3⟩ := List.nodup_append.1 hnd
  have ht := turned_grown hg
  have h1 := ownsL_turned hl ht (fun b hb hb2 => n3 b hb2 b hb rfl)
  have h2 := ownsL_turned hds ht (fun b hb hb2 => hdis b (List.mem_append_left _ hb2) hb)
  refine ⟨by simp only [Owns]; exact ⟨_, _, ho, ownsL_app h1 (ownsL_base hlo _ _ _ h2), by simp [Value.ownBlock]⟩, ?_⟩
  refine List.nodup_append.2 ⟨by simp, List.nodup_append.2 ⟨n1, n2, fun a ha b hb e => hdis a (List.mem_append_right _ ha) (e ▸ hb)⟩, fun a ha b hb e => ?_⟩
  subst e
  obtain rfl : a = g := by simpa using ha
  rcases hat with hat | hat
  · have hm : a ∈ v.ownBlock.toList := by rw [hat]; simp
    rcases List.mem_append.1 hb with hb | hb
    · exact n3 a hm a hb rfl
    · exact hdis a (List.mem_append_left _ hm) hb
  · rcases List.mem_append.1 hb with hb | hb
    · have := (ownsL_in _ _ _ hl _ hb).2; omega
    · have := (ownsL_in _ _ _ hds _ hb).2; omega
theorem wp_app_one {P : Program} (w : World) {o : Oper} {a : Act} {K : Act → World → Prop} {Q : Exit → Act → World → Prop} (s x : Operand) (t : TypeId)
    (ho : o.op = .call { callee := .builtin .append, args := #[s, x], argTypes := #[t, t] }) (base : Nat) (e : TypeId) (i : TypeInfo) (z : Value) (size bytes : Nat) (ht : P.underlying t = some (.slice e)) (hi : P.info? e = some i) (hz : i.zero = some z)
    (hsize : i.size = size) (hby : i.bytes = bytes) (hzs : z.cells.size = size) (hsz : 0 < size) (v : Value) (n : Nat) (cs : List Dc) (bs : List Nat) (hs : a.eval s = v) (hown : Owns w base (.row e size n cs) v bs) (hnd : bs.Nodup)
    (B c : Nat) (us : List Value) (hx : a.eval x = .slice (some ⟨B, 0, none⟩) 1 c) (hl : us.length = size) (hnews : ∀ j u, us[j]? = some u → w.cell? ⟨B, j, none⟩ = some u) (h1 : ∀ u ∈ us, u.oneCell' = true)
    (lo2 : Nat) (ds : List Dc) (b2 : List Nat) (hds : OwnsL w lo2 ds us b2) (n2 : b2.Nodup) (hdis : ∀ y, y ∈ bs → y ∉ b2) (hlo : base ≤ lo2) (h63 : n + 1 ≤ maxLen) (hbytes : (n + 1) * bytes ≤ 140737488355328) (hbase : base ≤ w.heap.size)
    (h : ∀ v' bs' w', Owns w' base (.row e size (n + 1) (cs ++ ds)) v' bs' → bs'.Nodup → Turned w w' v.ownBlock.toList → (∀ y, y ∈ bs' → y ∈ bs ∨ y ∈ b2 ∨ y = w.heap.size) → K (a.put o.dst v') w') : o.wp P a w K Q := by
  obtain ⟨vs, b1, hr, hcs, rfl⟩ := owns_row hown
  refine Ow.wp_app w s x t ho base e i z size bytes ht hi hz hsize hby hzs hsz v n vs hs hr ⟨B, 0, none⟩ 1 c us hx (by omega) (fun j u hu => ?_) h1 (by omega) h63 hbytes hbase _ rfl (fun g off cap w' h2 h3 h4 h5 => ?_)
  · have e1 : (⟨B, 0, none⟩ : Addr).add j = ⟨B, j, none⟩ := by
      unfold Addr.add
      split
      · next h0 => subst h0; rfl
      · simp
    rw [e1]; exact hnews j u hu
  · obtain ⟨k1, k2⟩ := app_made hcs hnd (fun k hk => (hr.lt k hk).2) hds n2 hdis hlo h2 h3 h4
    refine h _ _ w' k1 k2 (turned_grown h3) (fun y hy => ?_)
    rcases List.mem_append.1 hy with hy | hy
    · obtain rfl : y = g := by simpa using hy
      rcases h4 with h4 | h4
      · exact .inl (List.mem_append_left _ (by rw [h4]; simp))
      · exact .inr (.inr h4)
    · rcases List.mem_append.1 hy with hy | hy
      · exact .inl (List.mem_append_right _ hy)
      · exact .inr (.inl hy)
theorem wpList_app_one {P : Program} (w : World) {ops : Array Oper} {rest : List Oper} {o : Oper} {a : Act} {Q : Exit → Act → World → Prop} (hgd : o.guard = none) (s x : Operand) (t : TypeId)
    (ho : o.op = .call { callee := .builtin .append, args := #[s, x], argTypes := #[t, t] }) (base : Nat) (e : TypeId) (i : TypeInfo) (z : Value) (size bytes : Nat) (ht : P.underlying t = some (.slice e)) (hi : P.info? e = some i) (hz : i.zero = some z)
    (hsize : i.size = size) (hby : i.bytes = bytes) (hzs : z.cells.size = size) (hsz : 0 < size) (v : Value) (n : Nat) (cs : List Dc) (bs : List Nat) (hs : a.eval s = v) (hown : Owns w base (.row e size n cs) v bs) (hnd : bs.Nodup)
    (B c : Nat) (us : List Value) (hx : a.eval x = .slice (some ⟨B, 0, none⟩) 1 c) (hl : us.length = size) (hnews : ∀ j u, us[j]? = some u → w.cell? ⟨B, j, none⟩ = some u) (h1 : ∀ u ∈ us, u.oneCell' = true)
    (lo2 : Nat) (ds : List Dc) (b2 : List Nat) (hds : OwnsL w lo2 ds us b2) (n2 : b2.Nodup) (hdis : ∀ y, y ∈ bs → y ∉ b2) (hlo : base ≤ lo2) (h63 : n + 1 ≤ maxLen) (hbytes : (n + 1) * bytes ≤ 140737488355328) (hbase : base ≤ w.heap.size)
    (h : ∀ v' bs' w', Owns w' base (.row e size (n + 1) (cs ++ ds)) v' bs' → bs'.Nodup → Turned w w' v.ownBlock.toList → (∀ y, y ∈ bs' → y ∈ bs ∨ y ∈ b2 ∨ y = w.heap.size) → wpList P ops Q rest (a.put o.dst v') w') : wpList P ops Q (o :: rest) a w :=
  wpList_plain hgd fun _ hK => wp_app_one w s x t ho base e i z size bytes ht hi hz hsize hby hzs hsz v n cs bs hs hown hnd B c us hx hl hnews h1 lo2 ds b2 hds n2 hdis hlo h63 hbytes hbase fun v' bs' w' k1 k2 k3 k4 => hK _ _ (h v' bs' w' k1 k2 k3 k4)
/-- What is known of a slice's elements. -/
structure El (P : Program) (t e : TypeId) (size bytes : Nat) : Prop where
  all : ∃ i z, P.underlying t = some (.slice e) ∧ P.info? e = some i ∧ i.zero = some z ∧ i.size = size ∧ i.bytes = bytes ∧ z.cells.size = size
  pos : 0 < size
  few : bytes ≤ 4096
section
variable {P : Program} {α : Type} {f : α → List Dc} {t e : TypeId} {size bytes : Nat}
end
end Go.Proofs.YtllaacdikjffmaaGreat.Ap
