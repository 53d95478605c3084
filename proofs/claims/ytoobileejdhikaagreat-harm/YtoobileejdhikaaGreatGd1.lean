/-
  The statement Harm: its pieces of code; each but the first is of a right shape and not let in; the first is let in. By reckoning, over all places.
-/
import Derived.Test.YtoobileejdhikaaGreatGd0
namespace Go.Proofs.YtoobileejdhikaaGreat
open Go.RowKit

def ldB (K : Int) : List Int := insB 22 4 1 K 0
def outB (n : Int) : List Int := insB 129 0 0 0 n ++ insB 41 0 0 0 0
/-- The code that is let in. -/
def harmF (K : Int) : List Int := testB (K + 4) 3 ++ ldB K ++ outB 1 ++ outB 0
/-- The code that is not. -/
def harmC (j : Nat) (K : Int) : List Int := match j with
  | 0 => ldB K ++ outB 1
  | 1 => testB (K + 3) 3 ++ ldB K ++ outB 1 ++ outB 0
  | 2 => testB (K + 4) 3 ++ insB 22 4 1 (K + 1) 0 ++ outB 1 ++ outB 0
  | 3 => testB (K + 4) 3 ++ insB 22 4 1 (-1) 0 ++ outB 1 ++ outB 0
  | 4 => testB (K + 4) 0 ++ ldB K ++ outB 1
  | 5 => testB (K + 4) 2 ++ insB 22 4 5 K 0 ++ outB 1
  | 6 => testB (K + 4) 3 ++ ldB K ++ outB 4 ++ outB 0
  | 7 => testB (K + 4) 3 ++ ldB K ++ outB (-1) ++ outB 0
  | 8 => testB (K + 4) 2 ++ ldB K ++ insB 129 0 0 0 1 ++ insB 41 0 0 0 0
  | 9 => insB 1 0 1 0 0 ++ insB 41 0 0 0 0
  | 10 => insB 20 4 2 (-1) 0 ++ outB 1
  | 11 => insB 23 4 7 (-7) 0 ++ outB 1
  | 12 => insB 20 4 7 (-33) 0 ++ outB 1
  | 13 => insB 27 7 1 (-8) 0 ++ outB 1
  | 14 => insB 2 1 7 0 0 ++ outB 1
  | 15 => insB 132 1 0 0 1 ++ outB 1
  | 16 => insB 130 1 0 0 1001 ++ outB 1
  | 17 => insB 159 1 0 0 5 ++ outB 1
  | 18 => insB 31 1 7 0 0 ++ outB 1
  | 19 => insB 31 1 5 0 0 ++ outB 1
  | 20 => insB 40 0 0 0 1 ++ outB 1
  | _ => testB (K + 4) 5 ++ insB 129 1 0 0 1 ++ insB 40 0 0 0 1 ++ ldB K ++ outB 1 ++ outB 0
/-- Bytes, whole instructions, of a right shape. -/
def shapeOk (xs : List Int) (n : Nat) : Bool := xs.all (fun x => decide (0 ≤ x) && decide (x ≤ 255)) && (xs.length == 8 * n) && (List.range n).all (fun j => !badP (lb xs) n j)
def unsafeB (xs : List Int) (n : Nat) : Bool := (safeP (piOf (lb xs)) n).isSome
def letB (xs : List Int) (n : Nat) : Bool := (safeP (piOf (lb xs)) n).isNone
def harmN (j : Nat) : Nat := (harmC j 0).length / 8
def harmB (K j : Nat) : Bool := shapeOk (harmC j (K : Int)) (harmN j) && unsafeB (harmC j (K : Int)) (harmN j)
set_option maxRecDepth 100000 in
theorem harm_a : (List.range 60).all (fun K => [0, 1, 2, 3, 4, 5, 6, 7, 8, 21].all (fun j => harmB K j)) = true := by kernel_rfl
set_option maxRecDepth 100000 in
theorem harm_b : [9, 10, 11, 12, 13, 14, 15, 16, 17, 18, 19, 20].all (fun j => harmB 0 j) = true := by kernel_rfl
set_option maxRecDepth 100000 in
theorem harm_c : (List.range 60).all (fun K => shapeOk (harmF (K : Int)) 8 && letB (harmF (K : Int)) 8) = true := by kernel_rfl
theorem harmB_any (K j : Nat) (hK : K < 60) (hj : j < 22) : harmB K j = true := by
  have ha := List.all_eq_true.1 (List.all_eq_true.1 harm_a K (List.mem_range.2 hK))
  have hb := List.all_eq_true.1 harm_b
  have e : ∀ j, 9 ≤ j → j ≤ 20 → harmB K j = harmB 0 j := fun j h1 h2 => by
    rcases (show j = 9 ∨ j = 10 ∨ j = 11 ∨ j = 12 ∨ j = 13 ∨ j = 14 ∨ j = 15 ∨ j = 16 ∨ j = 17 ∨ j = 18 ∨ j = 19 ∨ j = 20 from by omega) with rfl | rfl | rfl | rfl | rfl | rfl | rfl | rfl | rfl | rfl | rfl | rfl
    all_goals rfl
  by_cases h : 9 ≤ j ∧ j ≤ 20
  · rw [e j h.1 h.2]
    refine hb j ?_
    simp only [List.mem_cons, List.not_mem_nil, or_false]; omega
  · refine ha j ?_
    simp only [List.mem_cons, List.not_mem_nil, or_false]; omega
/-- What is reckoned of a piece of code. -/
structure CodeIs (xs : List Int) (n : Nat) : Prop where
  by1 : ∀ x ∈ xs, 0 ≤ x ∧ x ≤ 255
  len : xs.length = 8 * n
  good : ∀ j, j < n → badP (lb xs) n j = false
theorem shapeOk_is {xs : List Int} {n : Nat} (h : shapeOk xs n = true) : CodeIs xs n := by
  simp only [shapeOk, Bool.and_eq_true, List.all_eq_true, decide_eq_true_eq, beq_iff_eq, List.mem_range, Bool.not_eq_true'] at h
  exact ⟨h.1.1, h.1.2, h.2⟩
theorem harmN_bd : ∀ j : Fin 22, 1 ≤ harmN j.1 ∧ harmN j.1 ≤ 64 := by decide +kernel
theorem harm_code (K j : Nat) (hK : K < 60) (hj : j < 22) : CodeIs (harmC j (K : Int)) (harmN j) ∧ ∃ k, safeP (piOf (lb (harmC j (K : Int)))) (harmN j) = some k := by
  have h := harmB_any K j hK hj
  simp only [harmB, Bool.and_eq_true] at h
  exact ⟨shapeOk_is h.1, Option.isSome_iff_exists.1 h.2⟩
theorem harm_let (K : Nat) (hK : K < 60) : CodeIs (harmF (K : Int)) 8 ∧ safeP (piOf (lb (harmF (K : Int)))) 8 = none := by
  have h := List.all_eq_true.1 harm_c K (List.mem_range.2 hK)
  simp only [Bool.and_eq_true] at h
  exact ⟨shapeOk_is h.1, Option.isNone_iff_eq_none.1 h.2⟩
end Go.Proofs.YtoobileejdhikaaGreat
