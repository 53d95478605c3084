/-
  Plain: the program's look at an instruction and the document's table say the same.
-/
import Derived.Test.YtmnilbfikenadaaLen
import Derived.Test.YtmnilbfikenadaaRowB
namespace Go.Proofs.Ytmnilbfikenadaa
open Go.RowKit

/-- Wrong, as the program finds it, and as the document says it; x: the operation's byte; b: how many instructions stand behind. -/
def wrongP (x : Nat) (d s o n b : Int) : Bool := !(fitV (opF x) d s o n b && !lastB x b)
def wrongR (x : Nat) (d s o n b : Int) : Bool :=
  !rowB ((x : Int) % 128) (decide (128 ≤ (x : Int))) d s o n || (withinB ((x : Int) % 128) 30 36 && decide (b ≤ o)) || ((b == 0) && ((x : Int) % 128 != 41))

theorem wrong_40 (x : Nat) (d s o n b : Int) (h1 : 1 ≤ x) (h2 : x ≤ 11) (_d0 : 0 ≤ d) (_s0 : 0 ≤ s) (_b0 : 0 ≤ b) : wrongP x d s o n b = wrongR x d s o n b := by
  have e : opF x = 40 := by
    simp [opF, btw]
    (repeat' split) <;> omega
  have m : (x : Int) % 128 = (x : Int) := by omega
  have i : decide (128 ≤ (x : Int)) = false := by simp; omega
  unfold wrongP wrongR
  rw [e, m, i]
  unfold rowB fitV lastB withinB
  rw [Bool.eq_iff_iff]
  simp [fWork]
  (repeat (first | rw [if_pos (by omega)] | rw [if_neg (by omega)]))
  omega

theorem wrong_41 (x : Nat) (d s o n b : Int) (h1 : 129 ≤ x) (h2 : x ≤ 139) (_d0 : 0 ≤ d) (_s0 : 0 ≤ s) (_b0 : 0 ≤ b) : wrongP x d s o n b = wrongR x d s o n b := by
  have e : opF x = 41 := by
    simp [opF, btw]
    (repeat' split) <;> omega
  have m : (x : Int) % 128 = (x : Int) - 128 := by omega
  have i : decide (128 ≤ (x : Int)) = true := by simp; omega
  unfold wrongP wrongR
  rw [e, m, i]
  unfold rowB fitV lastB withinB
  rw [Bool.eq_iff_iff]
  simp [fWorkNum]
  (repeat (first | rw [if_pos (by omega)] | rw [if_neg (by omega)]))
  omega

theorem wrong_42 (x : Nat) (d s o n b : Int) (h1 : 20 ≤ x) (h2 : x ≤ 23) (_d0 : 0 ≤ d) (_s0 : 0 ≤ s) (_b0 : 0 ≤ b) : wrongP x d s o n b = wrongR x d s o n b := by
  have e : opF x = 42 := by
    simp [opF, btw]
    (repeat' split) <;> omega
  have m : (x : Int) % 128 = (x : Int) := by omega
  have i : decide (128 ≤ (x : Int)) = false := by simp; omega
  unfold wrongP wrongR
  rw [e, m, i]
  unfold rowB fitV lastB withinB
  rw [Bool.eq_iff_iff]
  simp [fLoad]
  (repeat (first | rw [if_pos (by omega)] | rw [if_neg (by omega)]))
  omega

theorem wrong_43 (x : Nat) (d s o n b : Int) (h1 : 24 ≤ x) (h2 : x ≤ 27) (_d0 : 0 ≤ d) (_s0 : 0 ≤ s) (_b0 : 0 ≤ b) : wrongP x d s o n b = wrongR x d s o n b := by
  have e : opF x = 43 := by
    simp [opF, btw]
    (repeat' split) <;> omega
  have m : (x : Int) % 128 = (x : Int) := by omega
  have i : decide (128 ≤ (x : Int)) = false := by simp; omega
  unfold wrongP wrongR
  rw [e, m, i]
  unfold rowB fitV lastB withinB
  rw [Bool.eq_iff_iff]
  simp [fStore]
  (repeat (first | rw [if_pos (by omega)] | rw [if_neg (by omega)]))
  omega

theorem wrong_44 (x : Nat) (d s o n b : Int) (h1 : 30 ≤ x) (h2 : x ≤ 30) (_d0 : 0 ≤ d) (_s0 : 0 ≤ s) (_b0 : 0 ≤ b) : wrongP x d s o n b = wrongR x d s o n b := by
  have e : opF x = 44 := by
    simp [opF, btw]
    (repeat' split) <;> omega
  have m : (x : Int) % 128 = (x : Int) := by omega
  have i : decide (128 ≤ (x : Int)) = false := by simp; omega
  unfold wrongP wrongR
  rw [e, m, i]
  unfold rowB fitV lastB withinB
  rw [Bool.eq_iff_iff]
  simp [fJump, leapB]
  (repeat (first | rw [if_pos (by omega)] | rw [if_neg (by omega)]))
  omega

theorem wrong_45 (x : Nat) (d s o n b : Int) (h1 : 31 ≤ x) (h2 : x ≤ 36) (_d0 : 0 ≤ d) (_s0 : 0 ≤ s) (_b0 : 0 ≤ b) : wrongP x d s o n b = wrongR x d s o n b := by
  have e : opF x = 45 := by
    simp [opF, btw]
    (repeat' split) <;> omega
  have m : (x : Int) % 128 = (x : Int) := by omega
  have i : decide (128 ≤ (x : Int)) = false := by simp; omega
  unfold wrongP wrongR
  rw [e, m, i]
  unfold rowB fitV lastB withinB
  rw [Bool.eq_iff_iff]
  simp [fCompare, leapB]
  (repeat (first | rw [if_pos (by omega)] | rw [if_neg (by omega)]))
  omega

theorem wrong_46 (x : Nat) (d s o n b : Int) (h1 : 159 ≤ x) (h2 : x ≤ 164) (_d0 : 0 ≤ d) (_s0 : 0 ≤ s) (_b0 : 0 ≤ b) : wrongP x d s o n b = wrongR x d s o n b := by
  have e : opF x = 46 := by
    simp [opF, btw]
    (repeat' split) <;> omega
  have m : (x : Int) % 128 = (x : Int) - 128 := by omega
  have i : decide (128 ≤ (x : Int)) = true := by simp; omega
  unfold wrongP wrongR
  rw [e, m, i]
  unfold rowB fitV lastB withinB
  rw [Bool.eq_iff_iff]
  simp [fCompareNum, leapB]
  (repeat (first | rw [if_pos (by omega)] | rw [if_neg (by omega)]))
  omega

theorem wrong_47 (x : Nat) (d s o n b : Int) (h1 : 40 ≤ x) (h2 : x ≤ 40) (_d0 : 0 ≤ d) (_s0 : 0 ≤ s) (_b0 : 0 ≤ b) : wrongP x d s o n b = wrongR x d s o n b := by
  have e : opF x = 47 := by
    simp [opF, btw]
    (repeat' split) <;> omega
  have m : (x : Int) % 128 = (x : Int) := by omega
  have i : decide (128 ≤ (x : Int)) = false := by simp; omega
  unfold wrongP wrongR
  rw [e, m, i]
  unfold rowB fitV lastB withinB
  rw [Bool.eq_iff_iff]
  simp [fCall]
  (repeat (first | rw [if_pos (by omega)] | rw [if_neg (by omega)]))
  omega

theorem wrong_48 (x : Nat) (d s o n b : Int) (h1 : 41 ≤ x) (h2 : x ≤ 41) (_d0 : 0 ≤ d) (_s0 : 0 ≤ s) (_b0 : 0 ≤ b) : wrongP x d s o n b = wrongR x d s o n b := by
  have e : opF x = 48 := by
    simp [opF, btw]
    (repeat' split) <;> omega
  have m : (x : Int) % 128 = (x : Int) := by omega
  have i : decide (128 ≤ (x : Int)) = false := by simp; omega
  unfold wrongP wrongR
  rw [e, m, i]
  unfold rowB fitV lastB withinB
  rw [Bool.eq_iff_iff]
  simp [fExit]
  (repeat (first | rw [if_pos (by omega)] | rw [if_neg (by omega)]))
  omega

theorem wrong_none (x : Nat) (d s o n b : Int) (hx : x < 256) (h : opF x = 0) (_s0 : 0 ≤ s) : wrongP x d s o n b = wrongR x d s o n b := by
  have hn : ¬ (1 ≤ x ∧ x ≤ 11) ∧ ¬ (129 ≤ x ∧ x ≤ 139) ∧ ¬ (20 ≤ x ∧ x ≤ 23) ∧ ¬ (24 ≤ x ∧ x ≤ 27) ∧ ¬ (30 ≤ x ∧ x ≤ 30) ∧ ¬ (31 ≤ x ∧ x ≤ 36) ∧ ¬ (159 ≤ x ∧ x ≤ 164) ∧ ¬ (40 ≤ x ∧ x ≤ 40) ∧ ¬ (41 ≤ x ∧ x ≤ 41) := by
    refine ⟨?_, ?_, ?_, ?_, ?_, ?_, ?_, ?_, ?_⟩ <;> intro hh <;> simp [opF, btw] at h <;> revert h <;> (repeat' split) <;> omega
  unfold wrongP
  rw [h]
  have e1 : fitV 0 d s o n b = false := by simp [fitV]
  rw [e1]
  have e2 : rowB ((x : Int) % 128) (decide (128 ≤ (x : Int))) d s o n = false := by
    rw [Bool.eq_false_iff]
    intro hr
    unfold rowB withinB at hr
    by_cases hi : (128 : Int) ≤ x
    · simp [hi] at hr
      split at hr
      · omega
      · omega
    · simp [hi] at hr
      (repeat' split at hr) <;> omega
  unfold wrongR
  rw [e2]
  simp

theorem wrong_eq (x : Nat) (d s o n b : Int) (hx : x < 256) (d0 : 0 ≤ d) (s0 : 0 ≤ s) (b0 : 0 ≤ b) : wrongP x d s o n b = wrongR x d s o n b := by
  by_cases h1 : 1 ≤ x ∧ x ≤ 11
  · exact wrong_40 x d s o n b h1.1 h1.2 d0 s0 b0
  by_cases h2 : 129 ≤ x ∧ x ≤ 139
  · exact wrong_41 x d s o n b h2.1 h2.2 d0 s0 b0
  by_cases h3 : 20 ≤ x ∧ x ≤ 23
  · exact wrong_42 x d s o n b h3.1 h3.2 d0 s0 b0
  by_cases h4 : 24 ≤ x ∧ x ≤ 27
  · exact wrong_43 x d s o n b h4.1 h4.2 d0 s0 b0
  by_cases h5 : 30 ≤ x ∧ x ≤ 30
  · exact wrong_44 x d s o n b h5.1 h5.2 d0 s0 b0
  by_cases h6 : 31 ≤ x ∧ x ≤ 36
  · exact wrong_45 x d s o n b h6.1 h6.2 d0 s0 b0
  by_cases h7 : 159 ≤ x ∧ x ≤ 164
  · exact wrong_46 x d s o n b h7.1 h7.2 d0 s0 b0
  by_cases h8 : 40 ≤ x ∧ x ≤ 40
  · exact wrong_47 x d s o n b h8.1 h8.2 d0 s0 b0
  by_cases h9 : 41 ≤ x ∧ x ≤ 41
  · exact wrong_48 x d s o n b h9.1 h9.2 d0 s0 b0
  refine wrong_none x d s o n b hx ?_ s0
  simp [opF, btw]
  (repeat' split) <;> omega
end Go.Proofs.Ytmnilbfikenadaa
