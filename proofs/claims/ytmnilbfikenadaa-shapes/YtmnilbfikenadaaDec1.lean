/-
  The program's decodeOne: the instruction in eight bytes.
-/
import Derived.Test.YtmnilbfikenadaaMath
import Derived.Test.YtmnilbfikenadaaRead
namespace Go.Proofs.Ytmnilbfikenadaa
open Go.RowKit

theorem off_eq (z2 z3 : Int) (l2 : 0 ≤ z2) (u2 : z2 ≤ 255) (l3 : 0 ≤ z3) (u3 : z3 ≤ 255) : IntKind.i16.wrap (bits .or .u16 z2 (z3 * 256)) = rOff z2 z3 := by
  obtain ⟨a, rfl⟩ := Int.eq_ofNat_of_zero_le l2
  obtain ⟨b, rfl⟩ := Int.eq_ofNat_of_zero_le l3
  rw [or_u16 a b (by omega) (by omega), wrap_i16_sgn _ (by omega) (by omega)]
  rfl
theorem num_eq (z4 z5 z6 z7 : Int) (l4 : 0 ≤ z4) (u4 : z4 ≤ 255) (l5 : 0 ≤ z5) (u5 : z5 ≤ 255) (l6 : 0 ≤ z6) (u6 : z6 ≤ 255) (l7 : 0 ≤ z7) (u7 : z7 ≤ 255) :
    wrap32 (bits .or .u32 (bits .or .u32 (bits .or .u32 z4 (z5 * 256)) (z6 * 65536)) (z7 * 16777216)) = rNum z4 z5 z6 z7 := by
  obtain ⟨a, rfl⟩ := Int.eq_ofNat_of_zero_le l4
  obtain ⟨b, rfl⟩ := Int.eq_ofNat_of_zero_le l5
  obtain ⟨c, rfl⟩ := Int.eq_ofNat_of_zero_le l6
  obtain ⟨d, rfl⟩ := Int.eq_ofNat_of_zero_le l7
  have h1 : bits .or .u32 (a : Int) ((b : Int) * 256) = ((a + 256 * b : Nat) : Int) := by
    have := or_u32 8 a b (by omega) (by omega); rw [show ((2 ^ 8 : Nat) : Int) = 256 from rfl] at this; rw [this]; omega
  have h2 : bits .or .u32 ((a + 256 * b : Nat) : Int) ((c : Int) * 65536) = ((a + 256 * b + 65536 * c : Nat) : Int) := by
    have := or_u32 16 (a + 256 * b) c (by omega) (by omega); rw [show ((2 ^ 16 : Nat) : Int) = 65536 from rfl] at this; rw [this]; omega
  have h3 : bits .or .u32 ((a + 256 * b + 65536 * c : Nat) : Int) ((d : Int) * 16777216) = ((a + 256 * b + 65536 * c + 16777216 * d : Nat) : Int) := by
    have := or_u32 24 (a + 256 * b + 65536 * c) d (by omega) (by omega); rw [show ((2 ^ 24 : Nat) : Int) = 16777216 from rfl] at this; rw [this]; omega
  rw [h1, h2, h3, wrap_i32_sgn _ (by omega) (by omega)]
  unfold rNum
  congr 1
  omega

set_option maxRecDepth 100000 in
set_option maxHeartbeats 1000000 in
theorem decodeOne_any (z0 z1 z2 z3 z4 z5 z6 z7 : Int) (w : World) 
    (_l0 : 0 ≤ z0) (_u0 : z0 ≤ 255) (l1 : 0 ≤ z1) (u1 : z1 ≤ 255) (l2 : 0 ≤ z2) (u2 : z2 ≤ 255) (l3 : 0 ≤ z3) (u3 : z3 ≤ 255)
    (l4 : 0 ≤ z4) (u4 : z4 ≤ 255) (l5 : 0 ≤ z5) (u5 : z5 ≤ 255) (l6 : 0 ≤ z6) (u6 : z6 ≤ 255) (l7 : 0 ≤ z7) (u7 : z7 ≤ 255) :
    Calls Try.prog 49 #[.agg #[.int .u8 z0, .int .u8 z1, .int .u8 z2, .int .u8 z3, .int .u8 z4, .int .u8 z5, .int .u8 z6, .int .u8 z7]] w fun e w' => e = .returned (insV z0 (z1 % 16) (z1 / 16) (rOff z2 z3) (rNum z4 z5 z6 z7)) ∧ Below w.heap.size w w' := by
  go_enter Try.func49, Try.ntmps49
  go_wp2
  have ho := off_eq z2 z3 l2 u2 l3 u3
  have hn := num_eq z4 z5 z6 z7 l4 u4 l5 u5 l6 u6 l7 u7
  exact bodyPost_ret (v := insV z0 (z1 % 16) (z1 / 16) (rOff z2 z3) (rNum z4 z5 z6 z7)) (by simp [results, Try.results49, go_sem, insV, ho, hn]) rfl
    ⟨rfl, ((Below.refl _ _).alloc (Nat.le_refl _) _).alloc (by simp) _⟩
end Go.Proofs.Ytmnilbfikenadaa
