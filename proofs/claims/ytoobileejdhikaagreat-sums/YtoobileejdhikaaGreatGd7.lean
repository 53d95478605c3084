/-
  Frames and bytes that came in, opened.
-/
import Derived.Test.YtoobileejdhikaaGreatGd3
import Derived.Deep.Matrix
import Derived.OpenShut
namespace Go.Proofs.YtoobileejdhikaaGreat
open Go.RowKit Go.ChangeShapes Go.WideShapes

theorem frames_open {H : Type} {enc : TypeId × Value → H} {W : World} {base : Nat} {held : Bool} {fuel : Nat} {fa : Option Addr} {len cap : Nat} {x : DataW H × List MemPlace}
    (h : DataW.trod enc Tryz.prog W base (fun _ => true) held fuel 36 (Value.cells (.slice fa len cap)).toList = some x) :
    ∃ b off A L C Z, (0 < len → fa = some ⟨b, off, none⟩) ∧ FrAt W b off len A L C Z ∧ len ≤ 9223372036854775807 := by
  rcases Deep.open_int_rows (k := .u8) Tryz.underlying36 Tryz.underlying22 Tryz.underlying5 (by kernel_rfl) (by kernel_rfl) h with ⟨hcs, _⟩ | ⟨a, l, c, A, L, C, Z, hcs, _, hl, hm, _, hr⟩
  · simp [Value.cells] at hcs
    obtain ⟨rfl, rfl, rfl⟩ := hcs
    exact ⟨0, 0, fun _ => none, fun _ => 0, fun _ => 0, fun _ => [], fun h => by omega, ⟨fun r h => by omega, fun r h => by omega, fun r h => by omega, fun r h => by omega, fun r h => by omega, fun r h => by omega, fun r h => by omega⟩, by omega⟩
  · simp [Value.cells] at hcs
    obtain ⟨rfl, rfl, rfl⟩ := hcs
    obtain ⟨b, off, sp⟩ := a
    have hlm : len ≤ 9223372036854775807 := by unfold maxLen at hm; omega
    by_cases h0 : 0 < len
    · have hsp : sp = none := by have := World.cell?_spot (hr 0 (by omega)).1; simpa [Addr.add] using this
      subst hsp
      refine ⟨b, off, A, L, C, Z, fun _ => rfl, ⟨fun r h => ?_, fun r h => (hr r (by omega)).2.1, fun r h => by have := (hr r (by omega)).2.2.1; unfold maxLen at this; omega, fun r h => (hr r (by omega)).2.2.2.1, fun r h n hn => ?_, fun r h => (hr r (by omega)).2.2.2.2.2.1, fun r h a ha j hj => ((hr r (by omega)).2.2.2.2.2.2 a ha).2 j hj⟩, hlm⟩
      · have := (hr r (by omega)).1; rw [addr_add] at this; exact this
      · have := range_u8 (zs := [n]) (fun m hm => by simp at hm; subst hm; exact (hr r (by omega)).2.2.2.2.1 _ hn) 0; simpa using this
    · exact ⟨0, 0, fun _ => none, fun _ => 0, fun _ => 0, fun _ => [], fun h => by omega, ⟨fun r h => by omega, fun r h => by omega, fun r h => by omega, fun r h => by omega, fun r h => by omega, fun r h => by omega, fun r h => by omega⟩, by omega⟩
/-- Bytes that came in: nil, or a row of cells, the first of them its elements. -/
def BytesIn (w : World) (a : Option Addr) (len cap : Nat) (zs : List Int) : Prop :=
  (a = none ∧ len = 0 ∧ cap = 0 ∧ zs = []) ∨ ∃ b off, (0 < cap → a = some ⟨b, off, none⟩) ∧ a ≠ none ∧ len ≤ cap ∧ cap ≤ 9223372036854775807 ∧ zs.length = cap ∧ (∀ i, i < cap → w.cell? ⟨b, off + i, none⟩ = some (.int .u8 (zs.getD i 0))) ∧ ∀ n ∈ zs, 0 ≤ n ∧ n ≤ 255
theorem bytes_open {H : Type} {enc : TypeId × Value → H} {W : World} {base : Nat} {held : Bool} {fuel : Nat} {fa : Option Addr} {len cap : Nat} {x : DataW H × List MemPlace}
    (h : DataW.trod enc Tryz.prog W base (fun _ => true) held fuel 22 (Value.cells (.slice fa len cap)).toList = some x) : ∃ zs, BytesIn W fa len cap zs := by
  rcases open_ints Tryz.underlying22 Tryz.underlying5 (by kernel_rfl) h with ⟨hcs, _⟩ | ⟨a, l, c, zs, hcs, _, hl, hm, hz, _, hcell, hwz⟩
  · simp [Value.cells] at hcs
    obtain ⟨rfl, rfl, rfl⟩ := hcs
    exact ⟨[], .inl ⟨rfl, rfl, rfl, rfl⟩⟩
  · simp [Value.cells] at hcs
    obtain ⟨rfl, rfl, rfl⟩ := hcs
    have hz' : zs.length = cap := by simpa using hz
    have hb : ∀ n ∈ zs, 0 ≤ n ∧ n ≤ 255 := fun n hn => by
      have := range_u8 (zs := [n]) (fun m hm => by simp at hm; subst hm; exact hwz _ hn) 0
      simpa using this
    obtain ⟨b, off, sp⟩ := a
    refine ⟨zs, .inr ⟨b, off, fun h0 => ?_, by simp, hl, by unfold maxLen at hm; omega, hz', fun i hi => ?_, hb⟩⟩
    · have hsp : sp = none := by have := World.cell?_spot (hcell 0 (by omega)); simpa [Addr.add] using this
      subst hsp; rfl
    · have h1 := hcell i (by omega)
      have hsp : sp = none := by have := World.cell?_spot (hcell 0 (by omega)); simpa [Addr.add] using this
      subst hsp
      rw [addr_add] at h1
      exact h1
end Go.Proofs.YtoobileejdhikaaGreat
