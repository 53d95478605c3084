/-
  The program's look at one instruction, whatever its operation; and at the length of code.
-/
import Derived.Test.YtmnilbfikenadaaIns
namespace Go.Proofs.Ytmnilbfikenadaa
open Go.RowKit

/-- Whether the fields fit the row of the function f of the table. -/
def fitV (f : Nat) (d s o n b : Int) : Bool :=
  if f = 40 then fWork d s o n else if f = 41 then fWorkNum d s o else if f = 42 then fLoad d s n else if f = 43 then fStore d s n else if f = 44 then fJump d s o n b
  else if f = 45 then fCompare d s o n b else if f = 46 then fCompareNum d s o b else if f = 47 then fCall d s o n else if f = 48 then fExit d s o n else false

theorem opF_cases (i : Nat) : opF i = 0 ∨ opF i = 40 ∨ opF i = 41 ∨ opF i = 42 ∨ opF i = 43 ∨ opF i = 44 ∨ opF i = 45 ∨ opF i = 46 ∨ opF i = 47 ∨ opF i = 48 := by
  unfold opF
  repeat' split
  all_goals simp

theorem instr_any (i : Nat) (op d s o n at1 b : Int) (w : World) (h1 : -32768 ≤ o) (h2 : o ≤ 32767) :
    Calls Try.prog 31 #[.agg #[fnV (opF i)], .agg #[.int .u8 op, .int .u8 d, .int .u8 s, .int .i16 o, .int .i32 n], .int .i64 at1, .int .i64 b] w fun e w' => e = insEnd (fitV (opF i) d s o n b) op b at1 ∧ Below w.heap.size w w' := by
  rcases opF_cases i with h | h | h | h | h | h | h | h | h | h <;> rw [h]
  · exact instr_none op d s o n at1 b w
  · exact instr_40 op d s o n at1 b w
  · exact instr_41 op d s o n at1 b w
  · exact instr_42 op d s o n at1 b w
  · exact instr_43 op d s o n at1 b w
  · exact instr_44 op d s o n at1 b w h1 h2
  · exact instr_45 op d s o n at1 b w h1 h2
  · exact instr_46 op d s o n at1 b w h1 h2
  · exact instr_47 op d s o n at1 b w
  · exact instr_48 op d s o n at1 b w

set_option maxHeartbeats 400000 in
theorem length_ok (a : Option Addr) (len cap n : Nat) (w : World) (hl : len = 8 * n) (hn1 : 1 ≤ n) (hn2 : n ≤ 64) :
    Calls Try.prog 28 #[.slice a len cap] w fun e w' => e = .returned (.tuple #[]) ∧ w' = w := by
  have q0 : ((len : Int) == 0) = false := by simp; omega
  have q1 : ((len : Int) % 8 != 0) = false := by simp; omega
  have q2 : ((64 : Int) < (len : Int) / 8) = False := by simp; omega
  have q3 : (len : Int) ≤ 512 := by omega
  clear hl
  go_enter Try.func28, Try.ntmps28
  go_wp2
  go_end0
  exact ⟨rfl, rfl⟩

set_option maxHeartbeats 400000 in
theorem length_bad (a : Option Addr) (len cap : Nat) (w : World) (hm : len ≤ 9223372036854775807) (h : len = 0 ∨ ¬ len % 8 = 0 ∨ 64 < len / 8) :
    Calls Try.prog 28 #[.slice a len cap] w fun e w' => e = .panicked (thrown 1 0) ∧ w' = w := by
  by_cases h1 : len = 0
  · subst h1
    go_enter Try.func28, Try.ntmps28
    go_wp2_with (go_at_call 39; refine (giveUp_any _ _ _).mono ?_; rintro e w' ⟨rfl, rfl⟩)
    exact ⟨rfl, rfl, rfl⟩
  · have q0 : ((len : Int) == 0) = false := by simp; omega
    by_cases h2 : len % 8 = 0
    · have q1 : ((len : Int) % 8 != 0) = false := by simp; omega
      have q2 : (64 : Int) < (len : Int) / 8 := by omega
      go_enter Try.func28, Try.ntmps28
      go_wp2_with (go_at_call 39; refine (giveUp_any _ _ _).mono ?_; rintro e w' ⟨rfl, rfl⟩)
      exact ⟨rfl, rfl, rfl⟩
    · have q1 : ((len : Int) % 8 != 0) = true := by simp; omega
      go_enter Try.func28, Try.ntmps28
      go_wp2_with (go_at_call 39; refine (giveUp_any _ _ _).mono ?_; rintro e w' ⟨rfl, rfl⟩)
      exact ⟨rfl, rfl, rfl⟩
end Go.Proofs.Ytmnilbfikenadaa
