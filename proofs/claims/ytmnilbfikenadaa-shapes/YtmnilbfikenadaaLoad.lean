/-
  The program's Load: the answer of any code, as far as its shape goes.
-/
import Derived.Test.YtmnilbfikenadaaLoad1
namespace Go.Proofs.Ytmnilbfikenadaa
open Go.RowKit

set_option maxRecDepth 100000 in
set_option maxHeartbeats 1000000 in
theorem lookShape_len (a : Option Addr) (len cap : Nat) (w : World) (hm : len ≤ 9223372036854775807) (h : len = 0 ∨ ¬ len % 8 = 0 ∨ 64 < len / 8) :
    Calls Try.prog 12 #[.slice a len cap] w fun e w' => e = .panicked (thrown 1 0) ∧ w' = w := by
  go_enter Try.func12, Try.ntmps12
  go_wp2_with fail
  refine (length_bad _ _ _ _ hm h).mono ?_
  rintro e w' ⟨rfl, rfl⟩
  exact ⟨rfl, rfl, rfl⟩

/-- The three results of Load lie in the first three blocks that it makes. -/
structure Door (w W : World) : Prop where
  c0 : W.cell? ⟨w.heap.size, 0, none⟩ = some (.pointer none)
  c1 : W.cell? ⟨w.heap.size + 1, 0, none⟩ = some (.int .i64 0)
  c2 : W.cell? ⟨w.heap.size + 1 + 1, 0, none⟩ = some (.int .i64 0)
  z0 : W.frozen? ⟨w.heap.size, 0, none⟩ = false
  z1 : W.frozen? ⟨w.heap.size + 1, 0, none⟩ = false
  z2 : W.frozen? ⟨w.heap.size + 1 + 1, 0, none⟩ = false
  size : w.heap.size + 1 + 1 < W.heap.size
  bel : Below w.heap.size w W

theorem door_new (w : World) : Door w (((w.alloc (Obj.cells #[Value.pointer none] 23)).alloc (Obj.cells #[Value.int IntKind.i64 0] 24)).alloc (Obj.cells #[Value.int IntKind.i64 0] 3)) := by
  refine ⟨by simp [go_sem], by simp [go_sem], by simp [go_sem], by simp [go_sem], by simp [go_sem], by simp [go_sem], by simp, ?_⟩
  exact (((Below.refl _ _).alloc (Nat.le_refl _) _).alloc (by simp) _).alloc (by simp; omega) _
theorem Door.later {w W W' : World} (h : Door w W) (hb : Below W.heap.size W W') : Door w W' := by
  have hs := h.size
  refine ⟨?_, ?_, ?_, ?_, ?_, ?_, Nat.lt_of_lt_of_le hs hb.size, h.bel.trans (hb.mono (by omega))⟩
  · rw [hb.cell (by show w.heap.size < _; omega)]; exact h.c0
  · rw [hb.cell (by show w.heap.size + 1 < _; omega)]; exact h.c1
  · rw [hb.cell (by exact hs)]; exact h.c2
  · rw [hb.frozen (by show w.heap.size < _; omega)]; exact h.z0
  · rw [hb.frozen (by show w.heap.size + 1 < _; omega)]; exact h.z1
  · rw [hb.frozen (by exact hs)]; exact h.z2

/-- What Load answers. -/
def LoadEnd (B : Nat → Int) (n : Nat) (e : Ending) : Prop :=
  ((∀ j, j < n → badP B n j = false) ∧ ∃ p, e = .returned (.tuple #[.pointer (some p), .int .i64 0, .int .i64 0])) ∨
  (∃ i, i < n ∧ badP B n i = true ∧ (∀ j, j < i → badP B n j = false) ∧ e = .returned (.tuple #[.pointer none, .int .i64 2, .int .i64 i]))

set_option maxRecDepth 100000 in
set_option maxHeartbeats 1000000 in
theorem load_any (B : Nat → Int) (b off len cap n : Nat) (w : World) (hl : len = 8 * n) (hn1 : 1 ≤ n) (hn2 : n ≤ 64) (hcap : len ≤ cap) (hm : cap ≤ 9223372036854775807)
    (hc : ∀ i, i < len → w.cell? ⟨b, off + i, none⟩ = some (.int .u8 (B i))) (hB : ∀ i, 0 ≤ B i ∧ B i ≤ 255) :
    Calls Try.prog 5 #[.slice (some ⟨b, off, none⟩) len cap] w fun e w' => LoadEnd B n e ∧ Below w.heap.size w w' := by
  have hmf : ∀ (fn : Fn) (first cap : Array Value) (w : World), (Instr.makeFunc fn first cap).run Try.prog w = .ok (.func fn first cap) w := fun _ _ _ _ => rfl
  have hbl : b < w.heap.size := lt_of_cell (by simpa using hc 0 (by omega))
  have HC := hide' hc
  have HL := hide' hl
  clear hc hl
  go_enter_defers Try.func5, Try.ntmps5
  go_wp2_with fail
  generalize hW : ((w.alloc (Obj.cells #[Value.pointer none] 23)).alloc (Obj.cells #[Value.int IntKind.i64 0] 24)).alloc (Obj.cells #[Value.int IntKind.i64 0] 3) = W3
  have P3 : Door w W3 := by subst hW; exact door_new w
  clear hW
  refine (lookShape_any B b off len cap n W3 HL.out hn1 hn2 hcap hm (fun i hi => by rw [P3.bel.cell (by exact hbl)]; exact HC.out i hi) hB).mono ?_
  rintro e w4 ⟨he, hb4⟩
  have P4 : Door w w4 := P3.later hb4
  clear P3 hb4 HC
  obtain ⟨k0, k1, k2, z0, z1, z2, hs, hbel⟩ := P4
  have a0 : ∀ o, (w4.alloc o).cell? ⟨w.heap.size, 0, none⟩ = some (.pointer none) := fun o => by rw [World.cell?_alloc_past _ _ _ (by omega)]; exact k0
  have a1 : ∀ o, (w4.alloc o).cell? ⟨w.heap.size + 1, 0, none⟩ = some (.int .i64 0) := fun o => by rw [World.cell?_alloc_past _ _ _ (by omega)]; exact k1
  have a2 : ∀ o, (w4.alloc o).cell? ⟨w.heap.size + 1 + 1, 0, none⟩ = some (.int .i64 0) := fun o => by rw [World.cell?_alloc_past _ _ _ (by omega)]; exact k2
  have b0 : ∀ o, (w4.alloc o).frozen? ⟨w.heap.size, 0, none⟩ = false := fun o => by rw [World.frozen?_alloc_past _ _ _ (by omega)]; exact z0
  have b1 : ∀ o, (w4.alloc o).frozen? ⟨w.heap.size + 1, 0, none⟩ = false := fun o => by rw [World.frozen?_alloc_past _ _ _ (by omega)]; exact z1
  have b2 : ∀ o, (w4.alloc o).frozen? ⟨w.heap.size + 1 + 1, 0, none⟩ = false := fun o => by rw [World.frozen?_alloc_past _ _ _ (by omega)]; exact z2
  rcases he with ⟨hall, rfl⟩ | ⟨i, hi, hbad, hgood, rfl⟩
  · have HG := hide' hall
    clear hall
    go_wp2
    refine leaves_cons (f := 11) (args := #[.pointer (some ⟨w.heap.size, 0, none⟩), .pointer (some ⟨w.heap.size + 1, 0, none⟩), .pointer (some ⟨w.heap.size + 1 + 1, 0, none⟩)]) (by simp) (by simp [go_sem]) ?_
    refine (catch_idle _ _ _ _).mono ?_
    rintro e u' w5 ⟨rfl, rfl, rfl⟩
    simp [Leaves, settle, results, Try.results5, go_sem, a0, a1, a2]
    exact ⟨.inl ⟨HG.out, _, rfl⟩, (((hbel.alloc hbel.size _).setCell (by exact Nat.le_refl _) _).setCell (by exact Nat.le_succ _) _).setCell (by show w.heap.size ≤ w.heap.size + 1 + 1; omega) _⟩
  · have HG := hide' hgood
    have HB := hide' hbad
    clear hgood hbad
    go_simp
    refine leaves_cons (f := 11) (args := #[.pointer (some ⟨w.heap.size, 0, none⟩), .pointer (some ⟨w.heap.size + 1, 0, none⟩), .pointer (some ⟨w.heap.size + 1 + 1, 0, none⟩)]) (by simp) (by simp [go_sem]) ?_
    refine (catch_panicking w.heap.size 2 i [] w4 none 0 0 hs k0 k1 k2 z0 z1 z2).mono ?_
    rintro e u' w5 ⟨rfl, rfl, d0, d1, d2, hb5⟩
    simp [Leaves, settle, results, Try.results5, go_sem, d0, d1, d2]
    exact ⟨.inr ⟨i, hi, HB.out, HG.out, rfl⟩, hbel.trans hb5⟩

set_option maxRecDepth 100000 in
set_option maxHeartbeats 1000000 in
theorem load_len (a : Option Addr) (len cap : Nat) (w : World) (hm : len ≤ 9223372036854775807) (h : len = 0 ∨ ¬ len % 8 = 0 ∨ 64 < len / 8) :
    Calls Try.prog 5 #[.slice a len cap] w fun e w' => e = .returned (.tuple #[.pointer none, .int .i64 1, .int .i64 0]) ∧ Below w.heap.size w w' := by
  have hmf : ∀ (fn : Fn) (first cap : Array Value) (w : World), (Instr.makeFunc fn first cap).run Try.prog w = .ok (.func fn first cap) w := fun _ _ _ _ => rfl
  have HH := hide' h
  clear h
  go_enter_defers Try.func5, Try.ntmps5
  go_wp2_with fail
  generalize hW : ((w.alloc (Obj.cells #[Value.pointer none] 23)).alloc (Obj.cells #[Value.int IntKind.i64 0] 24)).alloc (Obj.cells #[Value.int IntKind.i64 0] 3) = W3
  have P3 : Door w W3 := by subst hW; exact door_new w
  clear hW
  refine (lookShape_len a len cap W3 hm HH.out).mono ?_
  rintro e w4 ⟨rfl, hw4⟩
  obtain rfl : W3 = w4 := hw4.symm
  obtain ⟨k0, k1, k2, z0, z1, z2, hs, hbel⟩ := P3
  go_simp
  refine leaves_cons (f := 11) (args := #[.pointer (some ⟨w.heap.size, 0, none⟩), .pointer (some ⟨w.heap.size + 1, 0, none⟩), .pointer (some ⟨w.heap.size + 1 + 1, 0, none⟩)]) (by simp) (by simp [go_sem]) ?_
  refine (catch_panicking w.heap.size 1 0 [] W3 none 0 0 hs k0 k1 k2 z0 z1 z2).mono ?_
  rintro e u' w5 ⟨rfl, rfl, d0, d1, d2, hb5⟩
  simp [Leaves, settle, results, Try.results5, go_sem, d0, d1, d2]
  exact hbel.trans hb5
end Go.Proofs.Ytmnilbfikenadaa
