/-
  The law's calls: code that is plain, with First, Last and Shrink; the law's World when it is new; the script.
-/
import Derived.Test.YtoobileejdhikaaGreatGg4
namespace Go.Proofs.YtoobileejdhikaaGreat
set_option maxRecDepth 100000
set_option maxHeartbeats 4000000
open Go.RowKit
attribute [local go_sem ↓] Go.wp_at_zero Go.wp_at_succ

def fclL : List Int := [40, 0, 0, 0, 2, 0, 0, 0, 1, 3, 0, 0, 0, 0, 0, 0, 40, 0, 0, 0, 3, 0, 0, 0, 1, 4, 0, 0, 0, 0, 0, 0, 130, 3, 0, 0, 1, 0, 0, 0, 33, 67, 2, 0, 0, 0, 0, 0, 129, 1, 0, 0, 1, 0, 0, 0, 40, 0, 0, 0, 1, 0, 0, 0, 129, 0, 0, 0, 2, 0, 0, 0, 41, 0, 0, 0, 0, 0, 0, 0]
def fclA : Array Value := #[.int .u8 40, .int .u8 0, .int .u8 0, .int .u8 0, .int .u8 2, .int .u8 0, .int .u8 0, .int .u8 0, .int .u8 1, .int .u8 3, .int .u8 0, .int .u8 0, .int .u8 0, .int .u8 0, .int .u8 0, .int .u8 0, .int .u8 40, .int .u8 0, .int .u8 0, .int .u8 0, .int .u8 3, .int .u8 0, .int .u8 0, .int .u8 0, .int .u8 1, .int .u8 4, .int .u8 0, .int .u8 0, .int .u8 0, .int .u8 0, .int .u8 0, .int .u8 0, .int .u8 130, .int .u8 3, .int .u8 0, .int .u8 0, .int .u8 1, .int .u8 0, .int .u8 0, .int .u8 0, .int .u8 33, .int .u8 67, .int .u8 2, .int .u8 0, .int .u8 0, .int .u8 0, .int .u8 0, .int .u8 0, .int .u8 129, .int .u8 1, .int .u8 0, .int .u8 0, .int .u8 1, .int .u8 0, .int .u8 0, .int .u8 0, .int .u8 40, .int .u8 0, .int .u8 0, .int .u8 0, .int .u8 1, .int .u8 0, .int .u8 0, .int .u8 0, .int .u8 129, .int .u8 0, .int .u8 0, .int .u8 0, .int .u8 2, .int .u8 0, .int .u8 0, .int .u8 0, .int .u8 41, .int .u8 0, .int .u8 0, .int .u8 0, .int .u8 0, .int .u8 0, .int .u8 0, .int .u8 0]
def fclB (i : Nat) : Int := fclL.getD i 0

theorem calls_any (w : World) :
  Calls Tryz.prog 41 #[] w fun e w' => e = .returned (.slice (some ⟨w.heap.size, 0, none⟩) 80 80) ∧ w' = w.alloc (.cells fclA 5) := by
 go_enter Tryz.func41, Tryz.ntmps41
 go_wp2
 go_ret
 exact ⟨rfl, rfl⟩
theorem calls_good (j : Nat) (h : j < 10) : badP fclB 10 j = false := by
 match j, h with
 | 0, _ => decide +kernel
 | 1, _ => decide +kernel
 | 2, _ => decide +kernel
 | 3, _ => decide +kernel
 | 4, _ => decide +kernel
 | 5, _ => decide +kernel
 | 6, _ => decide +kernel
 | 7, _ => decide +kernel
 | 8, _ => decide +kernel
 | 9, _ => decide +kernel
 | k + 10, h => omega
theorem calls_bytes (i : Nat) : 0 ≤ fclB i ∧ fclB i ≤ 255 := by
 by_cases h : i < 80
 ·have : ∀ k : Fin 80, 0 ≤ fclB k.1 ∧ fclB k.1 ≤ 255 := by decide +kernel
  exact this ⟨i, h⟩
 ·have : fclB i = 0 := by
   unfold fclB
   rw [List.getD_eq_getElem?_getD, List.getElem?_eq_none (by simp [fclL]; omega)]; rfl
  rw [this]; omega
theorem fclA_at (i : Nat) (h : i < 80) : fclA[i]? = some (.int .u8 (fclB i)) := by
 match i, h with
 | 0, _ => rfl
 | 1, _ => rfl
 | 2, _ => rfl
 | 3, _ => rfl
 | 4, _ => rfl
 | 5, _ => rfl
 | 6, _ => rfl
 | 7, _ => rfl
 | 8, _ => rfl
 | 9, _ => rfl
 | 10, _ => rfl
 | 11, _ => rfl
 | 12, _ => rfl
 | 13, _ => rfl
 | 14, _ => rfl
 | 15, _ => rfl
 | 16, _ => rfl
 | 17, _ => rfl
 | 18, _ => rfl
 | 19, _ => rfl
 | 20, _ => rfl
 | 21, _ => rfl
 | 22, _ => rfl
 | 23, _ => rfl
 | 24, _ => rfl
 | 25, _ => rfl
 | 26, _ => rfl
 | 27, _ => rfl
 | 28, _ => rfl
 | 29, _ => rfl
 | 30, _ => rfl
 | 31, _ => rfl
 | 32, _ => rfl
 | 33, _ => rfl
 | 34, _ => rfl
 | 35, _ => rfl
 | 36, _ => rfl
 | 37, _ => rfl
 | 38, _ => rfl
 | 39, _ => rfl
 | 40, _ => rfl
 | 41, _ => rfl
 | 42, _ => rfl
 | 43, _ => rfl
 | 44, _ => rfl
 | 45, _ => rfl
 | 46, _ => rfl
 | 47, _ => rfl
 | 48, _ => rfl
 | 49, _ => rfl
 | 50, _ => rfl
 | 51, _ => rfl
 | 52, _ => rfl
 | 53, _ => rfl
 | 54, _ => rfl
 | 55, _ => rfl
 | 56, _ => rfl
 | 57, _ => rfl
 | 58, _ => rfl
 | 59, _ => rfl
 | 60, _ => rfl
 | 61, _ => rfl
 | 62, _ => rfl
 | 63, _ => rfl
 | 64, _ => rfl
 | 65, _ => rfl
 | 66, _ => rfl
 | 67, _ => rfl
 | 68, _ => rfl
 | 69, _ => rfl
 | 70, _ => rfl
 | 71, _ => rfl
 | 72, _ => rfl
 | 73, _ => rfl
 | 74, _ => rfl
 | 75, _ => rfl
 | 76, _ => rfl
 | 77, _ => rfl
 | 78, _ => rfl
 | 79, _ => rfl
 | k + 80, h => omega
theorem calls_cells (w : World) (i : Nat) (h : i < 80) : (w.alloc (.cells fclA 5)).cell? ⟨w.heap.size, 0 + i, none⟩ = some (.int .u8 (fclB i)) := by
 rw [cell_of_row _ w.heap.size (0 + i) fclA 5 (0, 0) (heap_alloc_new w _), Nat.zero_add]; exact fclA_at i h
theorem calls_safe : safeP (piOf fclB) 10 = none := by kernel_rfl
theorem calls_let : LetIn fclB 10 := ⟨fun j hj => by rw [← bad_eq fclB calls_bytes 10 j hj]; exact calls_good j hj, calls_safe⟩
theorem BAt.new {W : World} {pw : Nat} {v : Value} (base : Nat) (h : W.heap[pw]? = some (.cells #[v, .slice none 0 0, .slice none 0 0] 41)) : BAt base W pw (.slice none 0 0) (.slice none 0 0) [] :=
 ⟨by rw [cell_of_row W pw 1 _ _ _ h]; rfl, by rw [cell_of_row W pw 2 _ _ _ h]; rfl, fun o => frozen_of_row W pw o _ _ h, lt_of_block h, World.ownsRow_nil _ _ _ _, World.ownsRow_nil _ _ _ _, rfl, (fun g hg => by simp [Value.ownBlock] at hg), (fun g hg => by simp [Value.ownBlock] at hg), fun e he => by simp at he⟩
theorem LWAt.new (w : World) : LWAt w.heap.size (w.alloc (.cells #[.slice none 0 0, .slice none 0 0, .slice none 0 0] 41)) w.heap.size (.slice none 0 0) [] (.slice none 0 0) (.slice none 0 0) [] :=
 ⟨WAt.new w, BAt.new _ (heap_alloc_new w _), fun g hg => by simp [Value.ownBlock] at hg, fun d hd => by simp at hd, fun e he => by simp at he⟩
structure ScriptIn (W : World) (sa : Option Addr) (slen : Nat) (sb so : Nat) (K E : Nat → Int) (A : Nat → Option Addr) (L C : Nat → Nat) (Z : Nat → Nat → Int) : Prop where
 mx : slen ≤ 1048576
 a : 0 < slen → sa = some ⟨sb, so, none⟩
 k : ∀ r, r < slen → W.cell? ⟨sb, so + r * 3, none⟩ = some (.int .i64 (K r))
 e : ∀ r, r < slen → W.cell? ⟨sb, so + r * 3 + 1, none⟩ = some (.int .i64 (E r))
 b : ∀ r, r < slen → W.cell? ⟨sb, so + r * 3 + 2, none⟩ = some (.slice (A r) (L r) (C r))
 row : ∀ r, r < slen → BytesIn W (A r) (L r) (C r) (Z r) ∧ L r ≤ 140737488355328
 ei : ∀ r, r < slen → -9223372036854775808 ≤ E r ∧ E r ≤ 9223372036854775807
theorem two_in (w : World) : BytesIn (w.alloc (.cells twoA 5)) (some ⟨w.heap.size, 0, none⟩) 16 16 twoB :=
 ⟨(fun h => by cases h), Nat.le_refl _, by omega, ⟨w.heap.size, 0, fun _ => rfl, fun i hi => two_cells w i hi⟩, two_bytes⟩
theorem calls_in (w : World) : BytesIn (w.alloc (.cells fclA 5)) (some ⟨w.heap.size, 0, none⟩) 80 80 fclB :=
 ⟨(fun h => by cases h), Nat.le_refl _, by omega, ⟨w.heap.size, 0, fun _ => rfl, fun i hi => calls_cells w i hi⟩, calls_bytes⟩
end Go.Proofs.YtoobileejdhikaaGreat
