/-
  Plain facts on bits: parts that do not overlap, put together by 'or', are their sum.
-/
import Derived.Test.YtmnilbfikenadaaSgn
namespace Go.Proofs.Ytmnilbfikenadaa
open Go.RowKit

theorem or_u16 (a b : Nat) (ha : a < 256) (hb : b < 256) : bits .or .u16 (a : Int) ((b : Int) * 256) = (a : Int) + 256 * b := by
  have e : ((b : Int) * 256) = ((b * 256 : Nat) : Int) := by simp
  rw [e]
  show IntKind.u16.wrap ((BitVec.ofInt 16 (a : Int) ||| BitVec.ofInt 16 ((b * 256 : Nat) : Int)).toNat : Int) = _
  simp only [BitVec.ofInt_natCast, BitVec.toNat_or, BitVec.toNat_ofNat]
  have h1 : a % 2 ^ 16 = a := Nat.mod_eq_of_lt (by omega)
  have h2 : (b * 256) % 2 ^ 16 = b * 256 := Nat.mod_eq_of_lt (by omega)
  rw [h1, h2]
  have h3 : a ||| b * 256 = 2 ^ 8 * b + a := by
    rw [Nat.two_pow_add_eq_or_of_lt (i := 8) (by omega) b, Nat.or_comm, Nat.mul_comm]
  rw [h3]
  simp only [IntKind.wrap, IntKind.bits, IntKind.signed]
  simp
  omega

theorem wrap_u32_nat (m : Nat) (h : m < 4294967296) : IntKind.u32.wrap (m : Int) = m := by
  simp only [IntKind.wrap, IntKind.bits, IntKind.signed, Bool.false_and, Bool.false_eq_true, if_false]
  omega
theorem or_u32 (i a b : Nat) (ha : a < 2 ^ i) (hs : 2 ^ i * b + a < 4294967296) : bits .or .u32 (a : Int) ((b : Int) * (2 ^ i : Nat)) = (a : Int) + (2 ^ i : Nat) * b := by
  have e : ((b : Int) * (2 ^ i : Nat)) = ((b * 2 ^ i : Nat) : Int) := by simp
  rw [e]
  show IntKind.u32.wrap ((BitVec.ofInt 32 (a : Int) ||| BitVec.ofInt 32 ((b * 2 ^ i : Nat) : Int)).toNat : Int) = _
  simp only [BitVec.ofInt_natCast, BitVec.toNat_or, BitVec.toNat_ofNat]
  have h1 : a % 2 ^ 32 = a := Nat.mod_eq_of_lt (by omega)
  have h2 : (b * 2 ^ i) % 2 ^ 32 = b * 2 ^ i := Nat.mod_eq_of_lt (by rw [Nat.mul_comm]; omega)
  rw [h1, h2]
  have h3 : a ||| b * 2 ^ i = 2 ^ i * b + a := by
    rw [Nat.two_pow_add_eq_or_of_lt (i := i) ha b, Nat.or_comm, Nat.mul_comm]
  rw [h3]
  rw [wrap_u32_nat _ hs]
  simp only [Int.natCast_add, Int.natCast_mul]; omega

theorem wrap_i16_sgn (n : Int) (h0 : 0 ≤ n) (h1 : n < 65536) : IntKind.i16.wrap n = sgn (p2 15) n := by
  have : p2 15 = 32768 := by decide
  rw [this]
  simp only [IntKind.wrap, IntKind.bits, IntKind.signed, sgn]
  simp only [Bool.true_and, decide_eq_true_eq, ge_iff_le]
  rw [Int.emod_eq_of_lt h0 (by simpa using h1)]
  simp
theorem wrap_i32_sgn (n : Int) (h0 : 0 ≤ n) (h1 : n < 4294967296) : wrap32 n = sgn (p2 31) n := by
  have : p2 31 = 2147483648 := by decide
  rw [this]
  unfold wrap32 sgn
  split <;> omega
end Go.Proofs.Ytmnilbfikenadaa
