/-
  Plain: the program's answer of any code, as far as its shape goes, is the document's.
-/
import Derived.Test.YtmnilbfikenadaaWrg
import Derived.Test.YtmnilbfikenadaaRefS
import Derived.Test.YtmnilbfikenadaaLoad
namespace Go.Proofs.Ytmnilbfikenadaa
open Go.RowKit

theorem bad_eq (B : Nat → Int) (hB : ∀ i, 0 ≤ B i ∧ B i ≤ 255) (n i : Nat) (hi : i < n) : badP B n i = bad B n i := by
  obtain ⟨x, hx⟩ := Int.eq_ofNat_of_zero_le (hB (8 * i)).1
  have hxlt : x < 256 := by have := (hB (8 * i)).2; omega
  have hd := hB (8 * i + 1)
  have h := wrong_eq x (B (8 * i + 1) % 16) (B (8 * i + 1) / 16) (oOf B i) (nOf B i) ((n : Int) - 1 - i) hxlt (by omega) (by omega) (by omega)
  have h1 : badP B n i = wrongP x (B (8 * i + 1) % 16) (B (8 * i + 1) / 16) (oOf B i) (nOf B i) ((n : Int) - 1 - i) := by
    unfold badP wrongP; rw [hx]; rfl
  have h2 : bad B n i = wrongR x (B (8 * i + 1) % 16) (B (8 * i + 1) / 16) (oOf B i) (nOf B i) ((n : Int) - 1 - i) := by
    unfold bad wrongR rowAt goesAt lastAt
    rw [hx]
    have e1 : decide ((n : Int) ≤ i + 1 + oOf B i) = decide ((n : Int) - 1 - i ≤ oOf B i) := by
      by_cases h : (n : Int) ≤ i + 1 + oOf B i
      · rw [decide_eq_true h, decide_eq_true (by omega)]
      · rw [decide_eq_false h, decide_eq_false (by omega)]
    have e2 : ((i : Int) == (n : Int) - 1) = ((n : Int) - 1 - i == 0) := by
      rw [Bool.eq_iff_iff]; simp; omega
    rw [e1, e2]
  rw [h1, h2, h]

/-- Both sides' answers of code of n instructions: one and the same. -/
theorem same (B : Nat → Int) (hB : ∀ i, 0 ≤ B i ∧ B i ≤ 255) (n : Nat) (e : Ending) (er at1 : Int) (h1 : LoadEnd B n e) (h2 : Out B n er at1) :
    (er = 0 ∧ at1 = 0 ∧ ∃ p, e = .returned (.tuple #[.pointer (some p), .int .i64 0, .int .i64 0])) ∨ (∃ i : Nat, er = 2 ∧ at1 = i ∧ e = .returned (.tuple #[.pointer none, .int .i64 2, .int .i64 i])) := by
  rcases h1 with ⟨ha, hp⟩ | ⟨i, hi, hb, hg, he⟩
  · rcases h2 with ⟨j, hj, hbj, _⟩ | ⟨_, h3, h4⟩
    · rw [← bad_eq B hB n j hj, ha j hj] at hbj; exact absurd hbj (by simp)
    · exact .inl ⟨h3, h4, hp⟩
  · rcases h2 with ⟨j, hj, hbj, hgj, h3, h4⟩ | ⟨hg2, _⟩
    · have : i = j := by
        by_cases h : i < j
        · have := hgj i h; rw [← bad_eq B hB n i hi, hb] at this; exact absurd this (by simp)
        · by_cases h' : j < i
          · have := hg j h'; rw [bad_eq B hB n j hj, hbj] at this; exact absurd this (by simp)
          · omega
      subst this
      exact .inr ⟨i, h3, h4, he⟩
    · have := hg2 i hi; rw [← bad_eq B hB n i hi, hb] at this; exact absurd this (by simp)
end Go.Proofs.Ytmnilbfikenadaa
