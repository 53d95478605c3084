/-
  The document's answer, signed: of a number of 16 or 32 bits, its highest one a sign.
-/
import Derived.Test.YtmnilbfikenadaaLeaf
namespace Go.Proofs.Ytmnilbfikenadaa
open Go.RowKit

def p2 : Nat → Int
  | 0 => 1
  | k + 1 => 2 * p2 k
theorem p2_pos (k : Nat) : 1 ≤ p2 k := by
  induction k with
  | zero => simp [p2]
  | succ k ih => simp only [p2]; omega
theorem p2_mono (k m : Nat) : p2 k ≤ p2 (k + m) := by
  induction m with
  | zero => simp
  | succ m ih => have := p2_pos (k + m); show p2 k ≤ 2 * p2 (k + m); omega
theorem p2_31 {k : Nat} (h : k ≤ 31) : p2 k ≤ 2147483648 := by
  have h2 : p2 (k + (31 - k)) = 2147483648 := by rw [show k + (31 - k) = 31 from by omega]; decide
  have := p2_mono k (31 - k); omega
def sgn (half n : Int) : Int := if half ≤ n then n - 2 * half else n

set_option maxHeartbeats 400000 in
theorem signed_any (n : Int) (b : Nat) (w : World) (h0 : 0 ≤ n) (h1 : n ≤ 4294967295) (hb1 : 1 ≤ b) (hb : b ≤ 32) :
    Calls Try.prog 32 #[.int .i64 n, .int .i64 b] w fun e w' => e = .returned (.int .i64 (sgn (p2 (b - 1)) n)) ∧ w' = w := by
  go_enter Try.func32, Try.ntmps32
  go_wp2
  go_loop [5, 6] (fun t i => ∃ k : Nat, 1 ≤ k ∧ k ≤ b ∧ i = .int .i64 k ∧ t = .int .i64 (p2 (k - 1))) (fun _ i => b - (intOf i).toNat)
  case atStart => exact ⟨1, by omega, by omega, rfl, rfl⟩
  case round =>
    obtain ⟨k, hk1, hk2, rfl, rfl⟩ := hrel
    have hp := p2_pos (k - 1)
    have hq := p2_31 (k := k - 1) (by omega)
    by_cases hlt : k < b
    · go_wp2
      go_round
      case rel => exact ⟨k + 1, by omega, by omega, by go_num, by rw [show k + 1 - 1 = (k - 1) + 1 from by omega]; rfl⟩
      case measure => simp [intOf]; omega
    · have hkb : k = b := by omega
      subst hkb
      go_wp2
      all_goals go_ret
      · have h : p2 (k - 1) ≤ n := by assumption
        exact ⟨ret_int (by simp [sgn, h]), rfl⟩
      · have h : n < p2 (k - 1) := by assumption
        exact ⟨ret_int (by simp [sgn]; omega), rfl⟩
end Go.Proofs.Ytmnilbfikenadaa
