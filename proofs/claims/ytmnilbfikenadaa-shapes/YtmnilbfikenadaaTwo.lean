/-
  The statement Shapes: its first code, which must be let in.
-/
import Derived.Test.YtmnilbfikenadaaLoad
namespace Go.Proofs.Ytmnilbfikenadaa
open Go.RowKit

def twoL : List Int := [129, 0, 0, 0, 2, 0, 0, 0, 41, 0, 0, 0, 0, 0, 0, 0]
def twoA : Array Value := #[.int .u8 129, .int .u8 0, .int .u8 0, .int .u8 0, .int .u8 2, .int .u8 0, .int .u8 0, .int .u8 0, .int .u8 41, .int .u8 0, .int .u8 0, .int .u8 0, .int .u8 0, .int .u8 0, .int .u8 0, .int .u8 0]
def twoB (i : Nat) : Int := twoL.getD i 0

set_option maxRecDepth 100000 in
set_option maxHeartbeats 400000 in
theorem two_any (w : World) :
    Calls Try.prog 6 #[] w fun e w' => e = .returned (.slice (some ⟨w.heap.size, 0, none⟩) 16 16) ∧ w' = w.alloc (.cells twoA 5) := by
  go_enter Try.func6, Try.ntmps6
  go_wp2
  go_ret
  exact ⟨rfl, rfl⟩

theorem two_good (j : Nat) (h : j < 2) : badP twoB 2 j = false := by
  match j, h with
  | 0, _ => decide +kernel
  | 1, _ => decide +kernel

theorem two_bytes (i : Nat) : 0 ≤ twoB i ∧ twoB i ≤ 255 := by
  by_cases h : i < 16
  · have : ∀ k : Fin 16, 0 ≤ twoB k.1 ∧ twoB k.1 ≤ 255 := by decide +kernel
    exact this ⟨i, h⟩
  · have : twoB i = 0 := by
      unfold twoB
      rw [List.getD_eq_getElem?_getD, List.getElem?_eq_none (by simp [twoL]; omega)]; rfl
    rw [this]; omega

theorem two_cells (w : World) (i : Nat) (h : i < 16) : (w.alloc (.cells twoA 5)).cell? ⟨w.heap.size, 0 + i, none⟩ = some (.int .u8 (twoB i)) := by
  rw [cell_of_row _ w.heap.size (0 + i) twoA 5 (0, 0) (heap_alloc_new w _)]
  match i, h with
  | 0, _ => rfl
  | 1, _ => rfl
  | 2, _ => rfl
  | 3, _ => rfl
  | 4, _ => rfl
  | 5, _ => rfl
  | 6, _ => rfl
  | 7, _ => rfl
  | 8, _ => rfl
  | 9, _ => rfl
  | 10, _ => rfl
  | 11, _ => rfl
  | 12, _ => rfl
  | 13, _ => rfl
  | 14, _ => rfl
  | 15, _ => rfl
  | k + 16, h => omega

theorem load_two (w : World) :
    Calls Try.prog 5 #[.slice (some ⟨w.heap.size, 0, none⟩) 16 16] (w.alloc (.cells twoA 5)) fun e w' => (∃ p, e = .returned (.tuple #[.pointer (some p), .int .i64 0, .int .i64 0])) ∧ Below w.heap.size w w' := by
  refine (load_any twoB w.heap.size 0 16 16 2 (w.alloc (.cells twoA 5)) (by omega) (by omega) (by omega) (by omega) (by omega) (fun i hi => two_cells w i hi) two_bytes).mono ?_
  rintro e w' ⟨h, hb⟩
  refine ⟨?_, ((Below.refl _ _).alloc (Nat.le_refl _) _).trans (hb.mono (by simp))⟩
  rcases h with ⟨_, h⟩ | ⟨i, hi, hbad, _⟩
  · exact h
  · rw [two_good i hi] at hbad; exact absurd hbad (by simp)
end Go.Proofs.Ytmnilbfikenadaa
