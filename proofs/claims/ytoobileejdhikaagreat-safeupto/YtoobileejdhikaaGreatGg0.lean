/-
  Code whose shape is right, read off its bytes: the program's instructions and the document's are the same.
  The document's instructions in memory, by the bytes.
-/
import Derived.Test.YtoobileejdhikaaGreatGc1
import Derived.Test.YtoobileejdhikaaGreatGc3
import Derived.Test.YtoobileejdhikaaGreatGa0
import Derived.Test.YtoobileejdhikaaGreatGe1
import Derived.Test.YtoobileejdhikaaGreatGf3
import Derived.Test.YtoobileejdhikaaGreatGc7
namespace Go.Proofs.YtoobileejdhikaaGreat
open Go.RowKit

def riOf (B : Nat → Int) (i : Nat) : RI := ⟨B (8 * i) % 128, decide (128 ≤ B (8 * i)), (B (8 * i + 1) % 16).toNat, (B (8 * i + 1) / 16).toNat, oOf B i, nOf B i⟩
theorem same_of (B : Nat → Int) (hB : ∀ i, 0 ≤ B i ∧ B i ≤ 255) (i : Nat) : SameI (piOf B i) (riOf B i) := by
 have h0 := hB (8 * i)
 refine ⟨?_, ?_, rfl, rfl, rfl, rfl⟩
 ·show B (8 * i) % 128 = (((B (8 * i)).toNat % 128 : Nat) : Int); omega
 ·show decide (128 ≤ B (8 * i)) = decide (128 ≤ (B (8 * i)).toNat)
  by_cases e : 128 ≤ B (8 * i)
  ·rw [decide_eq_true e, decide_eq_true (by omega)]
  ·rw [decide_eq_false e, decide_eq_false (by omega)]
theorem row_facts {op : Int} {imm : Bool} {d s o n : Int} (h : rowB op imm d s o n = true) :
  d ≤ 7 ∧ s ≤ 7 ∧ ((1 ≤ op ∧ op ≤ 11) ∨ (20 ≤ op ∧ op ≤ 27) ∨ (30 ≤ op ∧ op ≤ 36) ∨ op = 40 ∨ op = 41) ∧ (30 ≤ op → op ≤ 36 → 0 ≤ o) ∧ (op = 40 → 1 ≤ n ∧ n ≤ 3) ∧ (imm = true → (1 ≤ op ∧ op ≤ 11) ∨ (31 ≤ op ∧ op ≤ 36)) := by
 unfold rowB at h
 simp only at h
 cases imm
 ·split at h
  ·rename_i q; simp [withinB] at h q; refine ⟨by omega, by omega, .inl q, fun _ _ => by omega, fun _ => by omega, fun e => by cases e⟩
  split at h
  ·rename_i q; simp [withinB] at h q; refine ⟨by omega, by omega, .inr (.inl (by omega)), fun _ _ => by omega, fun _ => by omega, fun e => by cases e⟩
  split at h
  ·rename_i q; simp [withinB] at h q; refine ⟨by omega, by omega, .inr (.inl (by omega)), fun _ _ => by omega, fun _ => by omega, fun e => by cases e⟩
  split at h
  ·rename_i q; simp at h q; refine ⟨by omega, by omega, .inr (.inr (.inl (by omega))), fun _ _ => by omega, fun _ => by omega, fun e => by cases e⟩
  split at h
  ·rename_i q; simp [withinB] at h q; refine ⟨by omega, by omega, .inr (.inr (.inl (by omega))), fun _ _ => by omega, fun _ => by omega, fun e => by cases e⟩
  split at h
  ·rename_i q; simp [withinB] at h q; refine ⟨by omega, by omega, .inr (.inr (.inr (.inl (by omega)))), fun _ _ => by omega, fun _ => by omega, fun e => by cases e⟩
  split at h
  ·rename_i q; simp at h q; refine ⟨by omega, by omega, .inr (.inr (.inr (.inr (by omega)))), fun _ _ => by omega, fun _ => by omega, fun e => by cases e⟩
  ·cases h
 ·split at h
  ·rename_i q; simp [withinB] at h q; refine ⟨by omega, by omega, .inl q, fun _ _ => by omega, fun _ => by omega, fun _ => .inl q⟩
  split at h
  ·simp at h
  split at h
  ·simp at h
  split at h
  ·simp at h
  split at h
  ·rename_i q; simp [withinB] at h q; refine ⟨by omega, by omega, .inr (.inr (.inl (by omega))), fun _ _ => by omega, fun _ => by omega, fun _ => .inr (by omega)⟩
  split at h
  ·simp at h
  split at h
  ·simp at h
  ·cases h
theorem code_same {B : Nat → Int} {n : Nat} (hB : ∀ i, 0 ≤ B i ∧ B i ≤ 255) (hn1 : 1 ≤ n) (hn2 : n ≤ 64) (h : ∀ j, j < n → bad B n j = false) :
  SameC (piOf B) (riOf B) n ∧ (∀ k, k < n → opTab (piOf B k).op = true) := by
 have hf : ∀ i, i < n → rowB (B (8 * i) % 128) (decide (128 ≤ B (8 * i))) (B (8 * i + 1) % 16) (B (8 * i + 1) / 16) (oOf B i) (nOf B i) = true ∧ (30 ≤ B (8 * i) % 128 → B (8 * i) % 128 ≤ 36 → (i : Int) + 1 + oOf B i < n) ∧ (B (8 * i) % 128 ≠ 41 → i + 1 < n) := fun i hi => by
  have q := h i hi
  unfold bad at q
  simp only [Bool.or_eq_false_iff, Bool.not_eq_false'] at q
  refine ⟨q.1.1, fun h1 h2 => ?_, fun h41 => ?_⟩
  ·have q2 := q.1.2
   unfold goesAt at q2
   rw [show withinB (B (8 * i) % 128) 30 36 = true from by simp [withinB]; omega, Bool.true_and] at q2
   have := of_decide_eq_false q2
   omega
  ·have q3 := q.2
   unfold lastAt at q3
   rw [show (B (8 * i) % 128 != 41) = true from by simpa using h41, Bool.and_true] at q3
   have : ¬ ((i : Int) = (n : Int) - 1) := by simpa using q3
   omega
 refine ⟨⟨⟨hn1, hn2, fun i hi => ?_, fun i hi => ?_, fun i _ => oOf_bd B hB i, fun i hi => (row_facts (hf i hi).1).2.2.1, fun i hi h1 h2 => ⟨(row_facts (hf i hi).1).2.2.2.1 h1 h2, (hf i hi).2.1 h1 h2⟩, fun i hi h40 => (row_facts (hf i hi).1).2.2.2.2.1 h40, fun i hi h41 => (hf i hi).2.2 h41⟩, fun k _ => same_of B hB k⟩, fun k hk => ?_⟩
 ·have := (row_facts (hf i hi).1).1
  show (B (8 * i + 1) % 16).toNat < 8; omega
 ·have := (row_facts (hf i hi).1).2.1
  show (B (8 * i + 1) / 16).toNat < 8; omega
 ·have q := row_facts (hf k hk).1
  have h0 := hB (8 * k)
  show opTab (B (8 * k)).toNat = true
  simp only [opTab, List.contains_cons, List.contains_nil, Bool.or_eq_true, beq_iff_eq, Bool.or_false]
  have q1 := q.2.2.1
  by_cases e : 128 ≤ B (8 * k)
  ·have q2 := q.2.2.2.2.2 (decide_eq_true e)
   omega
  ·omega
end Go.Proofs.YtoobileejdhikaaGreat

namespace Go.Proofs.YtoobileejdhikaaGreat
open Go.RowKit

theorem lat_of {w : World} {g n : Nat} {B : Nat → Int} (hB : ∀ i, 0 ≤ B i ∧ B i ≤ 255) (h : ∀ i j, i < n → j < 6 → w.cell? ⟨g, i * 6 + j, none⟩ = (refAt B i)[j]?) (hlt : g < w.heap.size) : LAt w g (riOf B) n := by
 refine ⟨fun i hi => ?_, fun i hi => ?_, fun i hi => ?_, fun i hi => ?_, fun i hi => ?_, fun i hi => ?_, hlt⟩
 ·rw [show i * 6 = i * 6 + 0 from rfl, h i 0 hi (by omega)]; rfl
 ·rw [h i 1 hi (by omega)]; rfl
 ·rw [h i 2 hi (by omega)]
  have h1 := hB (8 * i + 1)
  show some (Value.int .i64 (B (8 * i + 1) % 16)) = some (.int .i64 (((B (8 * i + 1) % 16).toNat : Nat) : Int))
  rw [Int.toNat_of_nonneg (by omega)]
 ·rw [h i 3 hi (by omega)]
  have h1 := hB (8 * i + 1)
  show some (Value.int .i64 (B (8 * i + 1) / 16)) = some (.int .i64 (((B (8 * i + 1) / 16).toNat : Nat) : Int))
  rw [Int.toNat_of_nonneg (by omega)]
 ·rw [h i 4 hi (by omega)]; rfl
 ·rw [h i 5 hi (by omega)]; rfl
theorem num_bd (B : Nat → Int) (hB : ∀ i, 0 ≤ B i ∧ B i ≤ 255) (i : Nat) : -2147483648 ≤ (riOf B i).num ∧ (riOf B i).num ≤ 2147483647 := nOf_bd B hB i
end Go.Proofs.YtoobileejdhikaaGreat
