/-
  The document's answer, signed: of a number of 16 or 32 bits, its highest one a sign.
  Plain facts on bits: parts that do not overlap, put together by 'or', are their sum.
  The document's answer, Read: the instruction in eight bytes.
  The program's decodeOne: the instruction in eight bytes.
  What the two sides make of code: the cells of the instructions, one behind the other; and small facts on memory that a call owns.
  The program's Decode: code taken apart.
-/
import Derived.Test.YtoobileejdhikaaGreatGa0
import Derived.Deep.RegionHeld3
import Derived.Deep.DrawnRows
import Derived.Deep.AppendLies
namespace Go.Proofs.YtoobileejdhikaaGreat
set_option maxHeartbeats 400000
open Go.RowKit

def p2 : Nat → Int
 | 0 => 1
 | k + 1 => 2 * p2 k
theorem p2_pos (k : Nat) : 1 ≤ p2 k := by
 induction k with
 | zero => simp [p2]
 | succ k ih => simp only [p2]; omega
theorem p2_mono (k m : Nat) : p2 k ≤ p2 (k + m) := by
 induction m with
 | zero => simp
 | succ m ih => have := p2_pos (k + m); show p2 k ≤ 2 * p2 (k + m); omega
theorem p2_31 {k : Nat} (h : k ≤ 31) : p2 k ≤ 2147483648 := by
 have h2 : p2 (k + (31 - k)) = 2147483648 := by rw [show k + (31 - k) = 31 from by omega]; decide
 have := p2_mono k (31 - k); omega
def sgn (half n : Int) : Int := if half ≤ n then n - 2 * half else n

theorem signed_any (n : Int) (b : Nat) (w : World) (h0 : 0 ≤ n) (h1 : n ≤ 4294967295) (hb1 : 1 ≤ b) (hb : b ≤ 32) :
  Calls Tryz.prog 65 #[.int .i64 n, .int .i64 b] w fun e w' => e = .returned (.int .i64 (sgn (p2 (b - 1)) n)) ∧ w' = w := by
 go_enter Tryz.func65, Tryz.ntmps65
 go_wp2
 go_loop [5, 6] (fun t i => ∃ k : Nat, 1 ≤ k ∧ k ≤ b ∧ i = .int .i64 k ∧ t = .int .i64 (p2 (k - 1))) (fun _ i => b - (intOf i).toNat)
 case atStart => exact ⟨1, by omega, by omega, rfl, rfl⟩
 case round =>
  obtain ⟨k, hk1, hk2, rfl, rfl⟩ := hrel
  have hp := p2_pos (k - 1)
  have hq := p2_31 (k := k - 1) (by omega)
  by_cases hlt : k < b
  ·go_wp2
   go_round
   case rel => exact ⟨k + 1, by omega, by omega, by go_num, by rw [show k + 1 - 1 = (k - 1) + 1 from by omega]; rfl⟩
   case measure => simp [intOf]; omega
  ·have hkb : k = b := by omega
   subst hkb
   go_wp2
   all_goals go_ret
   ·have h : p2 (k - 1) ≤ n := by assumption
    exact ⟨ret_int (by simp [sgn, h]), rfl⟩
   ·have h : n < p2 (k - 1) := by assumption
    exact ⟨ret_int (by simp [sgn]; omega), rfl⟩
end Go.Proofs.YtoobileejdhikaaGreat

namespace Go.Proofs.YtoobileejdhikaaGreat
open Go.RowKit

theorem or_u16 (a b : Nat) (ha : a < 256) (hb : b < 256) : bits .or .u16 (a : Int) ((b : Int) * 256) = (a : Int) + 256 * b := by
 have e : ((b : Int) * 256) = ((b * 256 : Nat) : Int) := by simp
 rw [e]
 show IntKind.u16.wrap ((BitVec.ofInt 16 (a : Int) ||| BitVec.ofInt 16 ((b * 256 : Nat) : Int)).toNat : Int) = _
 simp only [BitVec.ofInt_natCast, BitVec.toNat_or, BitVec.toNat_ofNat]
 have h1 : a % 2 ^ 16 = a := Nat.mod_eq_of_lt (by omega)
 have h2 : (b * 256) % 2 ^ 16 = b * 256 := Nat.mod_eq_of_lt (by omega)
 rw [h1, h2]
 have h3 : a ||| b * 256 = 2 ^ 8 * b + a := by
  rw [Nat.two_pow_add_eq_or_of_lt (i := 8) (by omega) b, Nat.or_comm, Nat.mul_comm]
 rw [h3]
 simp only [IntKind.wrap, IntKind.bits, IntKind.signed]
 simp
 omega

theorem wrap_u32_nat (m : Nat) (h : m < 4294967296) : IntKind.u32.wrap (m : Int) = m := by
 simp only [IntKind.wrap, IntKind.bits, IntKind.signed, Bool.false_and, Bool.false_eq_true, if_false]
 omega
theorem or_u32 (i a b : Nat) (ha : a < 2 ^ i) (hs : 2 ^ i * b + a < 4294967296) : bits .or .u32 (a : Int) ((b : Int) * (2 ^ i : Nat)) = (a : Int) + (2 ^ i : Nat) * b := by
 have e : ((b : Int) * (2 ^ i : Nat)) = ((b * 2 ^ i : Nat) : Int) := by simp
 rw [e]
 show IntKind.u32.wrap ((BitVec.ofInt 32 (a : Int) ||| BitVec.ofInt 32 ((b * 2 ^ i : Nat) : Int)).toNat : Int) = _
 simp only [BitVec.ofInt_natCast, BitVec.toNat_or, BitVec.toNat_ofNat]
 have h1 : a % 2 ^ 32 = a := Nat.mod_eq_of_lt (by omega)
 have h2 : (b * 2 ^ i) % 2 ^ 32 = b * 2 ^ i := Nat.mod_eq_of_lt (by rw [Nat.mul_comm]; omega)
 rw [h1, h2]
 have h3 : a ||| b * 2 ^ i = 2 ^ i * b + a := by
  rw [Nat.two_pow_add_eq_or_of_lt (i := i) ha b, Nat.or_comm, Nat.mul_comm]
 rw [h3]
 rw [wrap_u32_nat _ hs]
 simp only [Int.natCast_add, Int.natCast_mul]; omega

theorem wrap_i16_sgn (n : Int) (h0 : 0 ≤ n) (h1 : n < 65536) : IntKind.i16.wrap n = sgn (p2 15) n := by
 have : p2 15 = 32768 := by decide
 rw [this]
 simp only [IntKind.wrap, IntKind.bits, IntKind.signed, sgn]
 simp only [Bool.true_and, decide_eq_true_eq, ge_iff_le]
 rw [Int.emod_eq_of_lt h0 (by simpa using h1)]
 simp
theorem wrap_i32_sgn (n : Int) (h0 : 0 ≤ n) (h1 : n < 4294967296) : wrap32 n = sgn (p2 31) n := by
 have : p2 31 = 2147483648 := by decide
 rw [this]
 unfold wrap32 sgn
 split <;> omega
end Go.Proofs.YtoobileejdhikaaGreat

namespace Go.Proofs.YtoobileejdhikaaGreat
set_option maxHeartbeats 1000000
open Go.RowKit
attribute [local go_sem ↓] Go.wp_at_zero Go.wp_at_succ

def rOff (z2 z3 : Int) : Int := sgn (p2 15) (z2 + 256 * z3)
def rNum (z4 z5 z6 z7 : Int) : Int := sgn (p2 31) (z4 + 256 * (z5 + 256 * (z6 + 256 * z7)))
def refC (z0 z1 o n : Int) : Array Value := #[.int .i64 (z0 % 128), .bool (decide (128 ≤ z0)), .int .i64 (z1 % 16), .int .i64 (z1 / 16), .int .i64 o, .int .i64 n]

theorem wrapz (z : Int) (h0 : 0 ≤ z) (h1 : z ≤ 8589934592) : IntKind.i64.wrap z = z := by
 rw [IntKind.wrap_i64]; omega
theorem lt_of_cell {w : World} {b o : Nat} {v : Value} (h : w.cell? ⟨b, o, none⟩ = some v) : b < w.heap.size := by
 exact block_lt_of_cell h

theorem read_any (bb off cap : Nat) (z0 z1 z2 z3 z4 z5 z6 z7 : Int) (w : World)
  (_hcap : 8 ≤ cap) 
  (c0 : w.cell? ⟨bb, off, none⟩ = some (.int .u8 z0)) (c1 : w.cell? ⟨bb, off + 1, none⟩ = some (.int .u8 z1))
  (c2 : w.cell? ⟨bb, off + 2, none⟩ = some (.int .u8 z2)) (c3 : w.cell? ⟨bb, off + 3, none⟩ = some (.int .u8 z3))
  (c4 : w.cell? ⟨bb, off + 4, none⟩ = some (.int .u8 z4)) (c5 : w.cell? ⟨bb, off + 5, none⟩ = some (.int .u8 z5))
  (c6 : w.cell? ⟨bb, off + 6, none⟩ = some (.int .u8 z6)) (c7 : w.cell? ⟨bb, off + 7, none⟩ = some (.int .u8 z7))
  (l0 : 0 ≤ z0) (u0 : z0 ≤ 255) (l1 : 0 ≤ z1) (u1 : z1 ≤ 255) (l2 : 0 ≤ z2) (u2 : z2 ≤ 255) (l3 : 0 ≤ z3) (u3 : z3 ≤ 255)
  (l4 : 0 ≤ z4) (u4 : z4 ≤ 255) (l5 : 0 ≤ z5) (u5 : z5 ≤ 255) (l6 : 0 ≤ z6) (u6 : z6 ≤ 255) (l7 : 0 ≤ z7) (u7 : z7 ≤ 255) :
  Calls Tryz.prog 38 #[.slice (some ⟨bb, off, none⟩) 8 cap] w fun e w' => e = .returned (.agg (refC z0 z1 (rOff z2 z3) (rNum z4 z5 z6 z7))) ∧ Below w.heap.size w w' := by
 have n0 := World.new_ne w _ c0
 have n2 : bb < w.heap.size := lt_of_cell c0
 have k0 := wrapz z0 l0 (by omega)
 have k1 := wrapz z1 l1 (by omega)
 have k2 := wrapz z2 l2 (by omega)
 have k3 := wrapz z3 l3 (by omega)
 have k4 := wrapz z4 l4 (by omega)
 have k5 := wrapz z5 l5 (by omega)
 have k6 := wrapz z6 l6 (by omega)
 have k7 := wrapz z7 l7 (by omega)
 have t0 : z0.tmod 128 = z0 % 128 := Int.tmod_eq_emod_of_nonneg l0
 have t1 : z1.tmod 16 = z1 % 16 := Int.tmod_eq_emod_of_nonneg l1
 have t2 : z1.tdiv 16 = z1 / 16 := Int.tdiv_eq_ediv_of_nonneg l1
 have t3 := wrapz (z1 / 16) (by omega) (by omega)
 have a1 := wrapz (256 * z3) (by omega) (by omega)
 have a2 := wrapz (z2 + 256 * z3) (by omega) (by omega)
 have a3 := wrapz (256 * z7) (by omega) (by omega)
 have a4 := wrapz (z6 + 256 * z7) (by omega) (by omega)
 have a5 := wrapz (256 * (z6 + 256 * z7)) (by omega) (by omega)
 have a6 := wrapz (z5 + 256 * (z6 + 256 * z7)) (by omega) (by omega)
 have a7 := wrapz (256 * (z5 + 256 * (z6 + 256 * z7))) (by omega) (by omega)
 have a8 := wrapz (z4 + 256 * (z5 + 256 * (z6 + 256 * z7))) (by omega) (by omega)
 go_enter Tryz.func38, Tryz.ntmps38
 go_wp2
 go_region_held3 (fun w' => w'.cell? ⟨bb, off, none⟩ = some (.int .u8 z0) ∧ w'.cell? ⟨bb, off + 1, none⟩ = some (.int .u8 z1)) (go_keep) (fail)
 all_goals go_wp2
 go_region_held3 (fun w' => w'.cell? ⟨bb, off + 2, none⟩ = some (.int .u8 z2) ∧ w'.cell? ⟨bb, off + 3, none⟩ = some (.int .u8 z3)) (go_keep) ((go_at_call 65; refine (signed_any _ 16 _ (by omega) (by omega) (by omega) (by omega)).mono ?_; rintro e w' ⟨rfl, rfl⟩))
 all_goals go_wp2
 go_region_held3 (fun w' => w'.cell? ⟨bb, off + 4, none⟩ = some (.int .u8 z4) ∧ w'.cell? ⟨bb, off + 5, none⟩ = some (.int .u8 z5) ∧ w'.cell? ⟨bb, off + 6, none⟩ = some (.int .u8 z6) ∧ w'.cell? ⟨bb, off + 7, none⟩ = some (.int .u8 z7)) (go_keep) ((go_at_call 65; refine (signed_any _ 32 _ (by omega) (by omega) (by omega) (by omega)).mono ?_; rintro e w' ⟨rfl, rfl⟩))
 all_goals go_wp2
 exact bodyPost_ret (v := .agg (refC z0 z1 (rOff z2 z3) (rNum z4 z5 z6 z7))) (by simp [results, Tryz.results38, go_sem, refC, rOff, rNum]) rfl
  ⟨rfl, (((((Below.refl _ _).alloc (Nat.le_refl _) _).alloc (by simp) _).drew).drew).drew⟩
end Go.Proofs.YtoobileejdhikaaGreat

namespace Go.Proofs.YtoobileejdhikaaGreat
set_option maxRecDepth 100000
set_option maxHeartbeats 1000000
open Go.RowKit

theorem off_eq (z2 z3 : Int) (l2 : 0 ≤ z2) (u2 : z2 ≤ 255) (l3 : 0 ≤ z3) (u3 : z3 ≤ 255) : IntKind.i16.wrap (bits .or .u16 z2 (z3 * 256)) = rOff z2 z3 := by
 obtain ⟨a, rfl⟩ := Int.eq_ofNat_of_zero_le l2
 obtain ⟨b, rfl⟩ := Int.eq_ofNat_of_zero_le l3
 rw [or_u16 a b (by omega) (by omega), wrap_i16_sgn _ (by omega) (by omega)]
 rfl
theorem num_eq (z4 z5 z6 z7 : Int) (l4 : 0 ≤ z4) (u4 : z4 ≤ 255) (l5 : 0 ≤ z5) (u5 : z5 ≤ 255) (l6 : 0 ≤ z6) (u6 : z6 ≤ 255) (l7 : 0 ≤ z7) (u7 : z7 ≤ 255) :
  wrap32 (bits .or .u32 (bits .or .u32 (bits .or .u32 z4 (z5 * 256)) (z6 * 65536)) (z7 * 16777216)) = rNum z4 z5 z6 z7 := by
 obtain ⟨a, rfl⟩ := Int.eq_ofNat_of_zero_le l4
 obtain ⟨b, rfl⟩ := Int.eq_ofNat_of_zero_le l5
 obtain ⟨c, rfl⟩ := Int.eq_ofNat_of_zero_le l6
 obtain ⟨d, rfl⟩ := Int.eq_ofNat_of_zero_le l7
 have h1 : bits .or .u32 (a : Int) ((b : Int) * 256) = ((a + 256 * b : Nat) : Int) := by
  have := or_u32 8 a b (by omega) (by omega); rw [show ((2 ^ 8 : Nat) : Int) = 256 from rfl] at this; rw [this]; omega
 have h2 : bits .or .u32 ((a + 256 * b : Nat) : Int) ((c : Int) * 65536) = ((a + 256 * b + 65536 * c : Nat) : Int) := by
  have := or_u32 16 (a + 256 * b) c (by omega) (by omega); rw [show ((2 ^ 16 : Nat) : Int) = 65536 from rfl] at this; rw [this]; omega
 have h3 : bits .or .u32 ((a + 256 * b + 65536 * c : Nat) : Int) ((d : Int) * 16777216) = ((a + 256 * b + 65536 * c + 16777216 * d : Nat) : Int) := by
  have := or_u32 24 (a + 256 * b + 65536 * c) d (by omega) (by omega); rw [show ((2 ^ 24 : Nat) : Int) = 16777216 from rfl] at this; rw [this]; omega
 rw [h1, h2, h3, wrap_i32_sgn _ (by omega) (by omega)]
 unfold rNum
 congr 1
 omega

theorem decodeOne_any (z0 z1 z2 z3 z4 z5 z6 z7 : Int) (w : World) 
  (_l0 : 0 ≤ z0) (_u0 : z0 ≤ 255) (l1 : 0 ≤ z1) (u1 : z1 ≤ 255) (l2 : 0 ≤ z2) (u2 : z2 ≤ 255) (l3 : 0 ≤ z3) (u3 : z3 ≤ 255)
  (l4 : 0 ≤ z4) (u4 : z4 ≤ 255) (l5 : 0 ≤ z5) (u5 : z5 ≤ 255) (l6 : 0 ≤ z6) (u6 : z6 ≤ 255) (l7 : 0 ≤ z7) (u7 : z7 ≤ 255) :
  Calls Tryz.prog 79 #[.agg #[.int .u8 z0, .int .u8 z1, .int .u8 z2, .int .u8 z3, .int .u8 z4, .int .u8 z5, .int .u8 z6, .int .u8 z7]] w fun e w' => e = .returned (insV z0 (z1 % 16) (z1 / 16) (rOff z2 z3) (rNum z4 z5 z6 z7)) ∧ Below w.heap.size w w' := by
 go_enter Tryz.func79, Tryz.ntmps79
 go_wp2
 have ho := off_eq z2 z3 l2 u2 l3 u3
 have hn := num_eq z4 z5 z6 z7 l4 u4 l5 u5 l6 u6 l7 u7
 exact bodyPost_ret (v := insV z0 (z1 % 16) (z1 / 16) (rOff z2 z3) (rNum z4 z5 z6 z7)) (by simp [results, Tryz.results79, go_sem, insV, ho, hn]) rfl
  ⟨rfl, ((Below.refl _ _).alloc (Nat.le_refl _) _).alloc (by simp) _⟩
end Go.Proofs.YtoobileejdhikaaGreat

namespace Go.Proofs.YtoobileejdhikaaGreat
open Go.RowKit

def oOf (B : Nat → Int) (i : Nat) : Int := rOff (B (8 * i + 2)) (B (8 * i + 3))
def nOf (B : Nat → Int) (i : Nat) : Int := rNum (B (8 * i + 4)) (B (8 * i + 5)) (B (8 * i + 6)) (B (8 * i + 7))
def refAt (B : Nat → Int) (i : Nat) : Array Value := refC (B (8 * i)) (B (8 * i + 1)) (oOf B i) (nOf B i)
def refL (B : Nat → Int) : Nat → List Value
 | 0 => []
 | k + 1 => refL B k ++ (refAt B k).toList
def insAt (B : Nat → Int) (i : Nat) : Array Value := #[.int .u8 (B (8 * i)), .int .u8 (B (8 * i + 1) % 16), .int .u8 (B (8 * i + 1) / 16), .int .i16 (oOf B i), .int .i32 (nOf B i)]
def insL (B : Nat → Int) : Nat → List Value
 | 0 => []
 | k + 1 => insL B k ++ (insAt B k).toList

theorem refL_len (B : Nat → Int) (k : Nat) : (refL B k).length = 6 * k := by
 induction k with
 | zero => rfl
 | succ k ih => simp only [refL, List.length_append, ih]; show 6 * k + 6 = _; omega
theorem insL_len (B : Nat → Int) (k : Nat) : (insL B k).length = 5 * k := by
 induction k with
 | zero => rfl
 | succ k ih => simp only [insL, List.length_append, ih]; show 5 * k + 5 = _; omega
theorem refL_at (B : Nat → Int) (n i j : Nat) (hi : i < n) (hj : j < 6) : (refL B n)[6 * i + j]? = (refAt B i)[j]? := by
 induction n with
 | zero => omega
 | succ n ih =>
  simp only [refL]
  by_cases h : i < n
  ·rw [List.getElem?_append_left (by rw [refL_len]; omega)]; exact ih h
  ·have : i = n := by omega
   subst this
   rw [List.getElem?_append_right (by rw [refL_len]; omega), refL_len, show 6 * i + j - 6 * i = j from by omega]
   simp
theorem insL_at (B : Nat → Int) (n i j : Nat) (hi : i < n) (hj : j < 5) : (insL B n)[5 * i + j]? = (insAt B i)[j]? := by
 induction n with
 | zero => omega
 | succ n ih =>
  simp only [insL]
  by_cases h : i < n
  ·rw [List.getElem?_append_left (by rw [insL_len]; omega)]; exact ih h
  ·have : i = n := by omega
   subst this
   rw [List.getElem?_append_right (by rw [insL_len]; omega), insL_len, show 5 * i + j - 5 * i = j from by omega]
   simp

theorem ownsRow_below {w w1 : World} {base : Nat} {e : TypeId} {size : Nat} {v : Value} {n : Nat} {xs : List Value} (h : w.ownsRow base e size v n xs) (hb : Below w.heap.size w w1) :
  w1.ownsRow base e size v n xs := by
 obtain ⟨hl, h⟩ := h
 refine ⟨hl, ?_⟩
 rcases h with h | ⟨g, cap, cur, h1, h2, h3, h4⟩
 ·exact .inl h
 ·exact .inr ⟨g, cap, cur, h1, h2, by rw [hb.block g (lt_of_block h3)]; exact h3, h4⟩
theorem own_base {w : World} {base : Nat} {e : TypeId} {size : Nat} {v : Value} {n : Nat} {xs : List Value} (h : w.ownsRow base e size v n xs) (k : Nat) (hk : v.ownBlock = some k) : base ≤ k := (h.lt k hk).1

theorem round_app {w wr w1 w2 : World} {e : TypeId} {size : Nat} {v : Value} {n : Nat} {xs : List Value} {o : Obj}
  (hown : wr.ownsRow w.heap.size e size v n xs) (hbw : Below w.heap.size w wr) (hb : Below wr.heap.size wr w1)
  (hg : (w1.alloc o).grownBy w2 v.ownBlock) : Below w.heap.size w w2 := by
 have h1 : Below w.heap.size w w1 := hbw.trans (hb.mono hbw.size)
 have h2 := h1.alloc (Nat.le_trans hbw.size hb.size) o
 exact h2.grown hg (by have := hbw.size; have := hb.size; simp; omega) (fun k hk => own_base hown k hk)
end Go.Proofs.YtoobileejdhikaaGreat

namespace Go.Proofs.YtoobileejdhikaaGreat
set_option maxRecDepth 100000
set_option maxHeartbeats 1000000
open Go.RowKit

theorem hide' {p : Prop} (h : p) : Hid p := h
theorem Tryz.info82 : (Tryz.prog.info? 121).map (fun i => (i.zero, i.size, i.bytes)) = some (some (.agg #[.int .u8 0, .int .u8 0, .int .u8 0, .int .i16 0, .int .i32 0]), 5, 12) := by kernel_rfl

theorem decode_any (B : Nat → Int) (b off len cap n : Nat) (w : World) (hl : len = 8 * n) (hn1 : 1 ≤ n) (hn2 : n ≤ 64) (hcap : len ≤ cap) (_hm : cap ≤ 9223372036854775807)
  (hc : ∀ i, i < len → w.cell? ⟨b, off + i, none⟩ = some (.int .u8 (B i))) (hB : ∀ i, 0 ≤ B i ∧ B i ≤ 255) :
  Calls Tryz.prog 58 #[.slice (some ⟨b, off, none⟩) len cap] w fun e w' => ∃ v, e = .returned v ∧ w'.ownsRow w.heap.size 121 5 v n (insL B n) ∧ Below w.heap.size w w' := by
 obtain ⟨i0, hi, hz0, hz1, hz2⟩ := info_parts Tryz.info82
 have HL : Hid (len = 8 * n) := hl
 have hbl : b < w.heap.size := lt_of_cell (by simpa using hc 0 (by omega))
 have q1 : (len : Int) / 8 = (n : Int) := by omega
 have q5 : (len : Int) ≤ 512 := by omega
 clear hl
 go_enter Tryz.func58, Tryz.ntmps58
 go_wp2_with (refine wpList_make_own _ rfl _ _ 69 rfl w.heap.size 121 i0 _ 5 Tryz.underlying69 hi hz0 hz1 .i64 .i64 _ n rfl rfl rfl (by rw [hz2]; omega) (by unfold maxLen; omega) (Nat.le_refl _) ?_; intro w1 hown1 hg1)
 go_loopw [0, 3] (fun cd v wr => ∃ k : Nat, k ≤ n ∧ (∃ a c, cd = .slice a (len - 8 * k) c ∧ (k < n → a = some ⟨b, off + 8 * k, none⟩ ∧ c = cap - 8 * k)) ∧ wr.ownsRow w.heap.size 121 5 v k (insL B k) ∧ Below w.heap.size w wr)
  (fun cd _ _ => match cd with | .slice _ l _ => l | _ => 0)
 case atStart => exact ⟨0, Nat.zero_le _, ⟨_, _, rfl, fun _ => ⟨rfl, rfl⟩⟩, hown1, (Below.refl _ _).grown hg1 (Nat.le_refl _) (fun k hk => by simp at hk)⟩
 case round =>
  obtain ⟨k, hk, ⟨a, c, rfl, hac⟩, hown, hbw⟩ := hrel
  clear hown1 hg1
  by_cases hlt : k < n
  ·obtain ⟨rfl, rfl⟩ := hac hlt
   have q7 : (8 : Int) ≤ ((len - 8 * k : Nat) : Int) := by have := HL.out; omega
   have har : ∀ wx, Sem.run Tryz.prog (Instr.arrayAt 149 (.slice (some ⟨b, off + 8 * k, none⟩) (len - 8 * k) (cap - 8 * k))) wx = .ok (.pointer (some ⟨b, off + 8 * k, none⟩)) wx := fun wx => run_arrayAt wx 149 5 8 _ _ _ Tryz.underlying149 (by omega)
   have hcr : ∀ j, j < 8 → wr.cell? ⟨b, off + 8 * k + j, none⟩ = some (.int .u8 (B (8 * k + j))) := fun j hj => by rw [hbw.cell (by exact hbl), Nat.add_assoc]; exact hc _ (by have := HL.out; omega)
   have d0 : wr.cell? ⟨b, off + 8 * k, none⟩ = some (.int .u8 (B (8 * k))) := hcr 0 (by omega)
   have d1 := hcr 1 (by omega)
   have d2 := hcr 2 (by omega)
   have d3 := hcr 3 (by omega)
   have d4 := hcr 4 (by omega)
   have d5 := hcr 5 (by omega)
   have d6 := hcr 6 (by omega)
   have d7 := hcr 7 (by omega)
   have q8 : (8 : Int) ≤ ((cap - 8 * k : Nat) : Int) := by have := HL.out; omega
   clear hcr hac
   go_wp2_with fail
   refine (decodeOne_any _ _ _ _ _ _ _ _ _ (hB _).1 (hB _).2 (hB _).1 (hB _).2 (hB _).1 (hB _).2 (hB _).1 (hB _).2 (hB _).1 (hB _).2 (hB _).1 (hB _).2 (hB _).1 (hB _).2 (hB _).1 (hB _).2).mono ?_
   rintro e w1 ⟨rfl, hb1⟩
   unfold insV
   have hown1 := ownsRow_below hown hb1
   clear d0 d1 d2 d3 d4 d5 d6 d7 har
   go_wp2_with (at_builtin; refine wpList_append_lies _ rfl _ _ 69 rfl w.heap.size 121 i0 _ 5 12 Tryz.underlying69 hi hz0 hz1 hz2 rfl (by omega) _ k (insL B k) rfl (hown1.alloc _) ⟨w1.heap.size, 0, none⟩ 1 1 (insAt B k).toList rfl rfl ?c1 ?c2 (by omega) ?c3 ?c4 ?c5 (w1.heap.size + 1) (by simp) ?_)
   case c1 => exact World.news_of_block (heap_alloc_new w1 _)
   case c2 => intro u hu; simp [insAt] at hu; rcases hu with rfl | rfl | rfl | rfl | rfl <;> rfl
   case c3 => unfold maxLen; omega
   case c4 => omega
   case c5 => have := hbw.size; have := hb1.size; simp; omega
   intro g cap' w2 hown2 hgrow hat hlt2
   have hbw2 := round_app hown hbw hb1 hgrow
   clear hown1 hgrow hat hlt2 hb1 hown hbw
   go_wp2
   refine ⟨⟨k + 1, by omega, ⟨_, _, by rw [show len - 8 * (k + 1) = len - 8 * k - 8 from by omega], fun h => ?_⟩, hown2, hbw2⟩, by show len - 8 * k - 8 < len - 8 * k; omega⟩
   have := HL.out
   rw [if_neg (by omega), show off + 8 * (k + 1) = off + 8 * k + 8 from by omega]
   exact ⟨rfl, by omega⟩
  ·have hkn : k = n := by omega
   subst hkn
   have q9 : ((len - 8 * k : Nat) : Int) < 8 := by have := HL.out; omega
   go_wp2
   go_ret
   exact ⟨_, rfl, hown, hbw⟩
end Go.Proofs.YtoobileejdhikaaGreat
