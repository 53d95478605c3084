/-
  The document's machine: what comes of two numbers of 64 bits.
  The document's machine in memory: registers, stack, frame, fault; and what writes to it turn.
-/
import Derived.Test.YtoobileejdhikaaGreatGc0
namespace Go.Proofs.YtoobileejdhikaaGreat
set_option maxRecDepth 100000
set_option maxHeartbeats 2000000
open Go.RowKit

def w64 (n : Int) : Int := IntKind.u64.wrap n
theorem w64_eq (n : Int) : w64 n = n % 18446744073709551616 := by
 simp only [w64, IntKind.wrap, IntKind.bits, IntKind.signed, Bool.false_and, Bool.false_eq_true, if_false]
 rfl
theorem half_w (x : Int) (h0 : 0 ≤ x) (h1 : x < 18446744073709551616) : IntKind.u64.wrap (x.tdiv 2) = x / 2 := by
 rw [Int.tdiv_eq_ediv_of_nonneg h0]; show w64 _ = _; rw [w64_eq]; omega
theorem p2_63 {k : Nat} (h : k ≤ 63) : p2 k ≤ 9223372036854775808 := by
 have h2 : p2 (k + (63 - k)) = 9223372036854775808 := by rw [show k + (63 - k) = 63 from by omega]; decide
 have := p2_mono k (63 - k); omega
theorem w64_p2 {k : Nat} (h : k < 63) : w64 (2 * p2 k) = p2 (k + 1) := by
 have h1 := p2_63 (k := k + 1) (by omega)
 have h2 := p2_pos (k + 1)
 rw [w64_eq]; show 2 * p2 k % _ = 2 * p2 k
 have : p2 (k + 1) = 2 * p2 k := rfl
 omega

theorem power_any (n : Nat) (w : World) (hn : n ≤ 63) :
  Calls Tryz.prog 147 #[.int .u64 n] w fun e w' => e = .returned (.int .u64 (p2 n)) ∧ w' = w := by
 go_enter Tryz.func147, Tryz.ntmps147
 go_wp2
 go_loop [3, 4] (fun t i => ∃ k : Nat, k ≤ n ∧ i = .int .u64 k ∧ t = .int .u64 (p2 k)) (fun _ i => n - (intOf i).toNat)
 case atStart => exact ⟨0, by omega, rfl, rfl⟩
 case round =>
  obtain ⟨k, hk, rfl, rfl⟩ := hrel
  have hp := p2_pos k
  by_cases hlt : k < n
  ·have HW : Hid (w64 (2 * p2 k) = p2 (k + 1)) := w64_p2 (by omega)
   go_wp2
   go_round
   case rel => exact ⟨k + 1, by omega, by go_num, congrArg (Value.int .u64) HW.out⟩
   case measure => simp [intOf]; omega
  ·have hkn : k = n := by omega
   subst hkn
   go_wp2
   go_ret
   exact ⟨rfl, rfl⟩

def bitOne (op s : Int) : Bool := (op == 7 && s == 2) || (op == 8 && decide (0 < s)) || (op == 9 && s == 1)
def bitR (op : Int) : Nat → Int → Int → Int → Int → Int
 | 0, _, _, _, out => out
 | k + 1, a, b, p, out => bitR op k (a / 2) (b / 2) (w64 (2 * p)) (if bitOne op (a % 2 + b % 2) then w64 (out + p) else out)

theorem bitwise_7 (a b : Int) (w : World) (ha : 0 ≤ a) (hb : 0 ≤ b) (ha2 : a < 18446744073709551616) (hb2 : b < 18446744073709551616) :
  Calls Tryz.prog 148 #[.int .i64 7, .int .u64 a, .int .u64 b] w fun e w' => e = .returned (.int .u64 (bitR 7 64 a b 1 0)) ∧ w' = w := by
 have HZ : Hid (a < 18446744073709551616 ∧ b < 18446744073709551616) := ⟨ha2, hb2⟩
 clear ha2 hb2
 go_enter Tryz.func148, Tryz.ntmps148
 go_wp2
 go_loop [1, 2, 7, 8, 9] (fun sa sb so sp i => ∃ (k : Nat) (x y p out : Int), k ≤ 64 ∧ i = .int .i64 k ∧ sa = .int .u64 x ∧ sb = .int .u64 y ∧ sp = .int .u64 p ∧ so = .int .u64 out ∧ 0 ≤ x ∧ 0 ≤ y ∧ x ≤ a ∧ y ≤ b ∧ Hid (bitR 7 (64 - k) x y p out = bitR 7 64 a b 1 0)) (fun _ _ _ _ i => 64 - (intOf i).toNat)
 case atStart => exact ⟨0, a, b, 1, 0, by omega, rfl, rfl, rfl, rfl, rfl, ha, hb, Int.le_refl _, Int.le_refl _, rfl⟩
 case round =>
  obtain ⟨k, x, y, p, out, hk, rfl, rfl, rfl, rfl, rfl, hx, hy, hxa, hyb, HR⟩ := hrel
  by_cases hlt : k < 64
  ·have HR2 : Hid (bitR 7 (64 - (k + 1)) (x / 2) (y / 2) (w64 (2 * p)) (if bitOne 7 (x % 2 + y % 2) then w64 (out + p) else out) = bitR 7 64 a b 1 0) := by
    have h := HR.out
    rw [show 64 - k = (64 - (k + 1)) + 1 from by omega] at h
    exact h
   have HV : Hid (IntKind.u64.wrap (x.tdiv 2) = x / 2 ∧ IntKind.u64.wrap (y.tdiv 2) = y / 2) := by
    have := HZ.out
    exact ⟨half_w x hx (by omega), half_w y hy (by omega)⟩
   clear HR
   rcases (show (x % 2 = 0 ∨ x % 2 = 1) from by omega) with e1 | e1 <;> rcases (show (y % 2 = 0 ∨ y % 2 = 1) from by omega) with e2 | e2
   all_goals
    go_wp2
    go_round
    case rel =>
     refine ⟨k + 1, x / 2, y / 2, w64 (2 * p), _, by omega, by go_num, ?_, ?_, rfl, rfl, by omega, by omega, by omega, by omega, ?_⟩
     ·exact congrArg (Value.int .u64) HV.out.1
     ·exact congrArg (Value.int .u64) HV.out.2
     ·have h := HR2.out
      rw [e1, e2] at h
      exact h
    case measure => simp [intOf]; omega
  ·have hk2 : k = 64 := by omega
   subst hk2
   go_wp2
   go_ret
   exact ⟨ret_int HR.out, rfl⟩

theorem bitwise_8 (a b : Int) (w : World) (ha : 0 ≤ a) (hb : 0 ≤ b) (ha2 : a < 18446744073709551616) (hb2 : b < 18446744073709551616) :
  Calls Tryz.prog 148 #[.int .i64 8, .int .u64 a, .int .u64 b] w fun e w' => e = .returned (.int .u64 (bitR 8 64 a b 1 0)) ∧ w' = w := by
 have HZ : Hid (a < 18446744073709551616 ∧ b < 18446744073709551616) := ⟨ha2, hb2⟩
 clear ha2 hb2
 go_enter Tryz.func148, Tryz.ntmps148
 go_wp2
 go_loop [1, 2, 7, 8, 9] (fun sa sb so sp i => ∃ (k : Nat) (x y p out : Int), k ≤ 64 ∧ i = .int .i64 k ∧ sa = .int .u64 x ∧ sb = .int .u64 y ∧ sp = .int .u64 p ∧ so = .int .u64 out ∧ 0 ≤ x ∧ 0 ≤ y ∧ x ≤ a ∧ y ≤ b ∧ Hid (bitR 8 (64 - k) x y p out = bitR 8 64 a b 1 0)) (fun _ _ _ _ i => 64 - (intOf i).toNat)
 case atStart => exact ⟨0, a, b, 1, 0, by omega, rfl, rfl, rfl, rfl, rfl, ha, hb, Int.le_refl _, Int.le_refl _, rfl⟩
 case round =>
  obtain ⟨k, x, y, p, out, hk, rfl, rfl, rfl, rfl, rfl, hx, hy, hxa, hyb, HR⟩ := hrel
  by_cases hlt : k < 64
  ·have HR2 : Hid (bitR 8 (64 - (k + 1)) (x / 2) (y / 2) (w64 (2 * p)) (if bitOne 8 (x % 2 + y % 2) then w64 (out + p) else out) = bitR 8 64 a b 1 0) := by
    have h := HR.out
    rw [show 64 - k = (64 - (k + 1)) + 1 from by omega] at h
    exact h
   have HV : Hid (IntKind.u64.wrap (x.tdiv 2) = x / 2 ∧ IntKind.u64.wrap (y.tdiv 2) = y / 2) := by
    have := HZ.out
    exact ⟨half_w x hx (by omega), half_w y hy (by omega)⟩
   clear HR
   rcases (show (x % 2 = 0 ∨ x % 2 = 1) from by omega) with e1 | e1 <;> rcases (show (y % 2 = 0 ∨ y % 2 = 1) from by omega) with e2 | e2
   all_goals
    go_wp2
    go_round
    case rel =>
     refine ⟨k + 1, x / 2, y / 2, w64 (2 * p), _, by omega, by go_num, ?_, ?_, rfl, rfl, by omega, by omega, by omega, by omega, ?_⟩
     ·exact congrArg (Value.int .u64) HV.out.1
     ·exact congrArg (Value.int .u64) HV.out.2
     ·have h := HR2.out
      rw [e1, e2] at h
      exact h
    case measure => simp [intOf]; omega
  ·have hk2 : k = 64 := by omega
   subst hk2
   go_wp2
   go_ret
   exact ⟨ret_int HR.out, rfl⟩

theorem bitwise_9 (a b : Int) (w : World) (ha : 0 ≤ a) (hb : 0 ≤ b) (ha2 : a < 18446744073709551616) (hb2 : b < 18446744073709551616) :
  Calls Tryz.prog 148 #[.int .i64 9, .int .u64 a, .int .u64 b] w fun e w' => e = .returned (.int .u64 (bitR 9 64 a b 1 0)) ∧ w' = w := by
 have HZ : Hid (a < 18446744073709551616 ∧ b < 18446744073709551616) := ⟨ha2, hb2⟩
 clear ha2 hb2
 go_enter Tryz.func148, Tryz.ntmps148
 go_wp2
 go_loop [1, 2, 7, 8, 9] (fun sa sb so sp i => ∃ (k : Nat) (x y p out : Int), k ≤ 64 ∧ i = .int .i64 k ∧ sa = .int .u64 x ∧ sb = .int .u64 y ∧ sp = .int .u64 p ∧ so = .int .u64 out ∧ 0 ≤ x ∧ 0 ≤ y ∧ x ≤ a ∧ y ≤ b ∧ Hid (bitR 9 (64 - k) x y p out = bitR 9 64 a b 1 0)) (fun _ _ _ _ i => 64 - (intOf i).toNat)
 case atStart => exact ⟨0, a, b, 1, 0, by omega, rfl, rfl, rfl, rfl, rfl, ha, hb, Int.le_refl _, Int.le_refl _, rfl⟩
 case round =>
  obtain ⟨k, x, y, p, out, hk, rfl, rfl, rfl, rfl, rfl, hx, hy, hxa, hyb, HR⟩ := hrel
  by_cases hlt : k < 64
  ·have HR2 : Hid (bitR 9 (64 - (k + 1)) (x / 2) (y / 2) (w64 (2 * p)) (if bitOne 9 (x % 2 + y % 2) then w64 (out + p) else out) = bitR 9 64 a b 1 0) := by
    have h := HR.out
    rw [show 64 - k = (64 - (k + 1)) + 1 from by omega] at h
    exact h
   have HV : Hid (IntKind.u64.wrap (x.tdiv 2) = x / 2 ∧ IntKind.u64.wrap (y.tdiv 2) = y / 2) := by
    have := HZ.out
    exact ⟨half_w x hx (by omega), half_w y hy (by omega)⟩
   clear HR
   rcases (show (x % 2 = 0 ∨ x % 2 = 1) from by omega) with e1 | e1 <;> rcases (show (y % 2 = 0 ∨ y % 2 = 1) from by omega) with e2 | e2
   all_goals
    go_wp2
    go_round
    case rel =>
     refine ⟨k + 1, x / 2, y / 2, w64 (2 * p), _, by omega, by go_num, ?_, ?_, rfl, rfl, by omega, by omega, by omega, by omega, ?_⟩
     ·exact congrArg (Value.int .u64) HV.out.1
     ·exact congrArg (Value.int .u64) HV.out.2
     ·have h := HR2.out
      rw [e1, e2] at h
      exact h
    case measure => simp [intOf]; omega
  ·have hk2 : k = 64 := by omega
   subst hk2
   go_wp2
   go_ret
   exact ⟨ret_int HR.out, rfl⟩

def numR (op a b : Int) : Int :=
 if op = 2 then w64 (a + b) else if op = 3 then w64 (a - b) else if op = 4 then w64 (a * b)
 else if op = 5 then (if b = 0 then 0 else w64 (a.tdiv b))
 else if op = 6 then (if b = 0 then a else w64 (a - w64 (w64 (a.tdiv b) * b)))
 else if op = 10 then w64 (a * p2 (b % 64).toNat) else if op = 11 then w64 (a.tdiv (p2 (b % 64).toNat))
 else bitR op 64 a b 1 0

theorem numbers_any (op a b : Int) (w : World) (h1 : 2 ≤ op) (h2 : op ≤ 11) (ha : 0 ≤ a) (hb : 0 ≤ b) (ha2 : a < 18446744073709551616) (hb2 : b < 18446744073709551616) :
  Calls Tryz.prog 72 #[.int .i64 op, .int .u64 a, .int .u64 b] w fun e w' => e = .returned (.int .u64 (numR op a b)) ∧ w' = w := by
 have HZ : Hid (a < 18446744073709551616 ∧ b < 18446744073709551616) := ⟨ha2, hb2⟩
 clear ha2 hb2
 obtain ⟨n, hn⟩ := Int.eq_ofNat_of_zero_le (show 0 ≤ b % 64 from by omega)
 have hn2 : n ≤ 63 := by omega
 have HN : Hid (b % 64 = (n : Int)) := hn
 have ht : b.tmod 64 = (n : Int) := by rw [Int.tmod_eq_emod_of_nonneg hb]; exact hn
 have hp : ¬ p2 n = 0 := by have := p2_pos n; omega
 clear hn
 rcases (show op = 2 ∨ op = 3 ∨ op = 4 ∨ op = 5 ∨ op = 6 ∨ op = 7 ∨ op = 8 ∨ op = 9 ∨ op = 10 ∨ op = 11 from by omega) with rfl | rfl | rfl | rfl | rfl | rfl | rfl | rfl | rfl | rfl
 case _ => 
  go_enter Tryz.func72, Tryz.ntmps72
  go_wp2
  go_ret
  exact ⟨rfl, rfl⟩
 case _ => 
  go_enter Tryz.func72, Tryz.ntmps72
  go_wp2
  go_ret
  exact ⟨rfl, rfl⟩
 case _ => 
  go_enter Tryz.func72, Tryz.ntmps72
  go_wp2
  go_ret
  exact ⟨rfl, rfl⟩
 case _ => 
  by_cases h0 : b = 0
  ·subst h0
   go_enter Tryz.func72, Tryz.ntmps72
   go_wp2
   go_ret
   exact ⟨ret_int (by simp [numR]), rfl⟩
  ·have h0b : (b == 0) = false := by simpa using h0
   go_enter Tryz.func72, Tryz.ntmps72
   go_wp2
   go_ret
   exact ⟨ret_int (by simp [numR, h0, w64]), rfl⟩
 case _ => 
  by_cases h0 : b = 0
  ·subst h0
   go_enter Tryz.func72, Tryz.ntmps72
   go_wp2
   go_ret
   exact ⟨ret_int (by simp [numR]), rfl⟩
  ·have h0b : (b == 0) = false := by simpa using h0
   go_enter Tryz.func72, Tryz.ntmps72
   go_wp2
   go_ret
   exact ⟨ret_int (by simp [numR, h0, w64]), rfl⟩
 case _ => 
  go_enter Tryz.func72, Tryz.ntmps72
  go_wp2_with (go_at_call 148; refine (bitwise_7 _ _ _ ha hb HZ.out.1 HZ.out.2).mono ?_; rintro e w' ⟨rfl, rfl⟩)
  go_ret
  exact ⟨ret_int (by simp [numR]), rfl⟩
 case _ => 
  go_enter Tryz.func72, Tryz.ntmps72
  go_wp2_with (go_at_call 148; refine (bitwise_8 _ _ _ ha hb HZ.out.1 HZ.out.2).mono ?_; rintro e w' ⟨rfl, rfl⟩)
  go_ret
  exact ⟨ret_int (by simp [numR]), rfl⟩
 case _ => 
  go_enter Tryz.func72, Tryz.ntmps72
  go_wp2_with (go_at_call 148; refine (bitwise_9 _ _ _ ha hb HZ.out.1 HZ.out.2).mono ?_; rintro e w' ⟨rfl, rfl⟩)
  go_ret
  exact ⟨ret_int (by simp [numR]), rfl⟩
 case _ => 
  go_enter Tryz.func72, Tryz.ntmps72
  go_wp2_with (go_at_call 147; refine (power_any n _ hn2).mono ?_; rintro e w' ⟨rfl, rfl⟩)
  go_ret
  exact ⟨ret_int (by simp [numR, HN.out, w64]), rfl⟩
 case _ => 
  go_enter Tryz.func72, Tryz.ntmps72
  go_wp2_with (go_at_call 147; refine (power_any n _ hn2).mono ?_; rintro e w' ⟨rfl, rfl⟩)
  go_ret
  exact ⟨ret_int (by simp [numR, HN.out, w64]), rfl⟩
end Go.Proofs.YtoobileejdhikaaGreat

namespace Go.Proofs.YtoobileejdhikaaGreat
open Go.RowKit

structure V where
 kind : Int
 bits : Int
 place : Int
structure Mac where
 regs : Nat → V
 stack : Nat → Int
 frame : List Int
 fault : Bool

def nV (n : Int) : V := ⟨1, n, 0⟩
def vNone : V := ⟨0, 0, 0⟩
def V.val (v : V) : Value := .agg #[.int .i64 v.kind, .int .u64 v.bits, .int .i64 v.place]
def Mac.may (m : Mac) (ok : Bool) : Mac := if ok then m else { m with fault := true }
def Mac.setReg (m : Mac) (d : Nat) (v : V) : Mac := { m with regs := fun i => if i = d then v else m.regs i }

structure Tch (p g : Nat) (w w' : World) : Prop where
 os : w'.os = w.os
 tape : w'.tape = w.tape
 output : w'.output = w.output
 size : w.heap.size ≤ w'.heap.size
 block : ∀ k, k < w.heap.size → k ≠ p → k ≠ g → w'.heap[k]? = w.heap[k]?

theorem Tch.refl (p g : Nat) (w : World) : Tch p g w w := ⟨rfl, rfl, rfl, Nat.le_refl _, fun _ _ _ _ => rfl⟩
theorem Tch.trans {p g : Nat} {a b c : World} (h : Tch p g a b) (k : Tch p g b c) : Tch p g a c :=
 ⟨k.os.trans h.os, k.tape.trans h.tape, k.output.trans h.output, Nat.le_trans h.size k.size,
  fun i hi h1 h2 => (k.block i (Nat.lt_of_lt_of_le hi h.size) h1 h2).trans (h.block i hi h1 h2)⟩
theorem Tch.of_below {p g : Nat} {w w' : World} (h : Below w.heap.size w w') : Tch p g w w' :=
 ⟨h.os, h.tape, h.output, h.size, fun i hi _ _ => h.block i hi⟩
theorem Tch.setCell {p g : Nat} {a w : World} (h : Tch p g a w) {q : Addr} (hq : q.block = p ∨ q.block = g ∨ a.heap.size ≤ q.block) (u : Value) : Tch p g a (w.setCell q u) := by
 have hb := (Below.refl 0 w).setCell (p := q) (Nat.zero_le _) u
 refine ⟨hb.os.trans h.os, hb.tape.trans h.tape, hb.output.trans h.output, Nat.le_trans h.size hb.size, fun i hi h1 h2 => ?_⟩
 rw [heap_setCell_other w q i u (by rcases hq with e | e | e <;> omega)]
 exact h.block i hi h1 h2
theorem Tch.alloc {p g : Nat} {a w : World} (h : Tch p g a w) (o : Obj) : Tch p g a (w.alloc o) :=
 h.trans (Tch.of_below ((Below.refl _ _).alloc (Nat.le_refl _) o))
theorem Tch.drew {p g : Nat} {a w : World} (h : Tch p g a w) : Tch p g a w.drew := ⟨h.os, h.tape, h.output, h.size, h.block⟩
theorem Tch.below {p g B : Nat} {w w' : World} (h : Tch p g w w') (hp : B ≤ p) (hg : B ≤ g) (hB : B ≤ w.heap.size) : Below B w w' :=
 ⟨h.os, h.tape, h.output, h.size, fun i hi => h.block i (by omega) (by omega) (by omega)⟩
theorem Tch.cell {p g : Nat} {w w' : World} (h : Tch p g w w') {k o : Nat} (hk : k < w.heap.size) (h1 : k ≠ p) (h2 : k ≠ g) : w'.cell? ⟨k, o, none⟩ = w.cell? ⟨k, o, none⟩ := by
 have e := h.block k hk h1 h2
 simp [World.cell?, e]
theorem Tch.frozen {p g : Nat} {w w' : World} (h : Tch p g w w') {k o : Nat} (hk : k < w.heap.size) (h1 : k ≠ p) (h2 : k ≠ g) : w'.frozen? ⟨k, o, none⟩ = w.frozen? ⟨k, o, none⟩ := by
 exact World.frozen?_of_block (h.block k hk h1 h2)

structure MacAt (w : World) (p g s cap : Nat) (m : Mac) : Prop where
 k : ∀ d, d < 8 → w.cell? ⟨p, d * 3, none⟩ = some (.int .i64 (m.regs d).kind)
 b : ∀ d, d < 8 → w.cell? ⟨p, d * 3 + 1, none⟩ = some (.int .u64 (m.regs d).bits)
 pl : ∀ d, d < 8 → w.cell? ⟨p, d * 3 + 2, none⟩ = some (.int .i64 (m.regs d).place)
 st : ∀ i, i < 32 → w.cell? ⟨p, 24 + i, none⟩ = some (.int .u8 (m.stack i))
 fr : ∃ a, w.cell? ⟨p, 56, none⟩ = some (.slice a m.frame.length cap) ∧ (0 < m.frame.length → a = some ⟨g, s, none⟩)
 fl : w.cell? ⟨p, 57, none⟩ = some (.bool m.fault)
 fz : ∀ o, w.frozen? ⟨p, o, none⟩ = false
 fc : ∀ i, i < m.frame.length → w.cell? ⟨g, s + i, none⟩ = some (.int .u8 (m.frame.getD i 0))
 fg : ∀ i, i < m.frame.length → w.frozen? ⟨g, s + i, none⟩ = false
 ne : 0 < m.frame.length → p ≠ g
 cp : m.frame.length ≤ cap ∧ cap ≤ 9223372036854775807
 lp : p < w.heap.size
 lg : g < w.heap.size

theorem MacAt.same {w w' : World} {p g s cap : Nat} {m : Mac} (h : MacAt w p g s cap m) (hp : w'.heap[p]? = w.heap[p]?) (hg : w'.heap[g]? = w.heap[g]?) (hs : w.heap.size ≤ w'.heap.size) : MacAt w' p g s cap m := by
 have cp : ∀ o, w'.cell? ⟨p, o, none⟩ = w.cell? ⟨p, o, none⟩ := fun o => by simp [World.cell?, hp]
 have cg : ∀ o, w'.cell? ⟨g, o, none⟩ = w.cell? ⟨g, o, none⟩ := fun o => by simp [World.cell?, hg]
 have zp : ∀ o, w'.frozen? ⟨p, o, none⟩ = w.frozen? ⟨p, o, none⟩ := fun o => World.frozen?_of_block hp
 have zg : ∀ o, w'.frozen? ⟨g, o, none⟩ = w.frozen? ⟨g, o, none⟩ := fun o => World.frozen?_of_block hg
 exact ⟨fun d hd => (cp _).trans (h.k d hd), fun d hd => (cp _).trans (h.b d hd), fun d hd => (cp _).trans (h.pl d hd), fun i hi => (cp _).trans (h.st i hi),
  by obtain ⟨a, h1, h2⟩ := h.fr; exact ⟨a, (cp _).trans h1, h2⟩, (cp _).trans h.fl, fun o => (zp o).trans (h.fz o), fun i hi => (cg _).trans (h.fc i hi), fun i hi => (zg _).trans (h.fg i hi), h.ne, h.cp, Nat.lt_of_lt_of_le h.lp hs, Nat.lt_of_lt_of_le h.lg hs⟩
theorem MacAt.later {w w' : World} {p g s cap : Nat} {m : Mac} (h : MacAt w p g s cap m) (hb : Below w.heap.size w w') : MacAt w' p g s cap m :=
 h.same (hb.block p h.lp) (hb.block g h.lg) hb.size
theorem MacAt.setOther {w : World} {p g s cap : Nat} {m : Mac} (h : MacAt w p g s cap m) {q : Addr} (h1 : q.block ≠ p) (h2 : q.block ≠ g) (u : Value) : MacAt (w.setCell q u) p g s cap m :=
 h.same (heap_setCell_other w q p u (Ne.symm h1)) (heap_setCell_other w q g u (Ne.symm h2)) ((Below.refl 0 w).setCell (p := q) (Nat.zero_le _) u).size

theorem MacAt.alloc {w : World} {p g s cap : Nat} {m : Mac} (h : MacAt w p g s cap m) (o : Obj) : MacAt (w.alloc o) p g s cap m :=
 h.later ((Below.refl _ _).alloc (Nat.le_refl _) o)
theorem MacAt.drew {w : World} {p g s cap : Nat} {m : Mac} (h : MacAt w p g s cap m) : MacAt w.drew p g s cap m :=
 h.later (Below.refl _ _).drew

theorem MacAt.setAway {w : World} {p g s cap : Nat} {m : Mac} (h : MacAt w p g s cap m) {b o : Nat} (h1 : b ≠ p) (h2 : b ≠ g) (u : Value) : MacAt (w.setCell ⟨b, o, none⟩ u) p g s cap m :=
 h.setOther (q := ⟨b, o, none⟩) h1 h2 u
theorem Tch.setP {p g : Nat} {a w : World} (h : Tch p g a w) (o : Nat) (u : Value) : Tch p g a (w.setCell ⟨p, o, none⟩ u) := h.setCell (q := ⟨p, o, none⟩) (.inl rfl) u
theorem Tch.setG {p g : Nat} {a w : World} (h : Tch p g a w) (o : Nat) (u : Value) : Tch p g a (w.setCell ⟨g, o, none⟩ u) := h.setCell (q := ⟨g, o, none⟩) (.inr (.inl rfl)) u
theorem Tch.setNew {p g : Nat} {a w : World} (h : Tch p g a w) {b : Nat} (hb : a.heap.size ≤ b) (o : Nat) (u : Value) : Tch p g a (w.setCell ⟨b, o, none⟩ u) := h.setCell (q := ⟨b, o, none⟩) (.inr (.inr hb)) u

theorem cell_set_same {w : World} {p o : Nat} {v u : Value} (h : w.cell? ⟨p, o, none⟩ = some v) : (w.setCell ⟨p, o, none⟩ u).cell? ⟨p, o, none⟩ = some u :=
 World.cell?_setCell_same w ⟨p, o, none⟩ u h
theorem cell_set_off {w : World} {p o o' : Nat} {u : Value} (h : o' ≠ o) : (w.setCell ⟨p, o, none⟩ u).cell? ⟨p, o', none⟩ = w.cell? ⟨p, o', none⟩ :=
 World.cell?_setCell_other w ⟨p, o, none⟩ ⟨p, o', none⟩ u (fun e => h (congrArg Addr.off e).symm)
theorem cell_set_blk {w : World} {p q o o' : Nat} {u : Value} (h : q ≠ p) : (w.setCell ⟨p, o, none⟩ u).cell? ⟨q, o', none⟩ = w.cell? ⟨q, o', none⟩ :=
 World.cell?_setCell_other w ⟨p, o, none⟩ ⟨q, o', none⟩ u (fun e => h (congrArg Addr.block e).symm)
theorem size_setCell (w : World) (q : Addr) (u : Value) : (w.setCell q u).heap.size = w.heap.size := by simp

theorem MacAt.setFault {w : World} {p g s cap : Nat} {m : Mac} (h : MacAt w p g s cap m) : MacAt (w.setCell ⟨p, 57, none⟩ (.bool true)) p g s cap { m with fault := true } :=
 ⟨fun d hd => by rw [cell_set_off (by omega)]; exact h.k d hd, fun d hd => by rw [cell_set_off (by omega)]; exact h.b d hd, fun d hd => by rw [cell_set_off (by omega)]; exact h.pl d hd,
  fun i hi => by rw [cell_set_off (by omega)]; exact h.st i hi, by obtain ⟨a, h1, h2⟩ := h.fr; exact ⟨a, by rw [cell_set_off (by omega)]; exact h1, h2⟩, cell_set_same h.fl,
  fun o => by rw [World.frozen?_setCell]; exact h.fz o, fun i hi => by rw [cell_set_blk (Ne.symm (h.ne (by have hi' : i < m.frame.length := hi; omega)))]; exact h.fc i hi, fun i hi => by rw [World.frozen?_setCell]; exact h.fg i hi, h.ne, h.cp, by rw [size_setCell]; exact h.lp, by rw [size_setCell]; exact h.lg⟩

theorem MacAt.setRegs {w : World} {p g s cap : Nat} {m : Mac} (h : MacAt w p g s cap m) (d : Nat) (hd : d < 8) (v : V) :
  MacAt (((w.setCell ⟨p, d * 3, none⟩ (.int .i64 v.kind)).setCell ⟨p, d * 3 + 1, none⟩ (.int .u64 v.bits)).setCell ⟨p, d * 3 + 2, none⟩ (.int .i64 v.place)) p g s cap (m.setReg d v) := by
 refine ⟨fun i hi => ?_, fun i hi => ?_, fun i hi => ?_, fun i hi => ?_, ?_, ?_, fun o => ?_, fun i hi => ?_, fun i hi => ?_, h.ne, h.cp, ?_, ?_⟩
 ·rw [cell_set_off (by omega), cell_set_off (by omega)]
  by_cases e : i = d
  ·subst e; rw [cell_set_same (h.k i hi)]; simp [Mac.setReg]
  ·rw [cell_set_off (by omega), h.k i hi]; simp [Mac.setReg, e]
 ·rw [cell_set_off (by omega)]
  by_cases e : i = d
  ·subst e; rw [cell_set_same (v := .int .u64 (m.regs i).bits) (by rw [cell_set_off (by omega)]; exact h.b i hi)]; simp [Mac.setReg]
  ·rw [cell_set_off (by omega), cell_set_off (by omega), h.b i hi]; simp [Mac.setReg, e]
 ·by_cases e : i = d
  ·subst e; rw [cell_set_same (v := .int .i64 (m.regs i).place) (by rw [cell_set_off (by omega), cell_set_off (by omega)]; exact h.pl i hi)]; simp [Mac.setReg]
  ·rw [cell_set_off (by omega), cell_set_off (by omega), cell_set_off (by omega), h.pl i hi]; simp [Mac.setReg, e]
 ·rw [cell_set_off (by omega), cell_set_off (by omega), cell_set_off (by omega)]; exact h.st i hi
 ·obtain ⟨a, h1, h2⟩ := h.fr
  exact ⟨a, by rw [cell_set_off (by omega), cell_set_off (by omega), cell_set_off (by omega)]; exact h1, h2⟩
 ·rw [cell_set_off (by omega), cell_set_off (by omega), cell_set_off (by omega)]; exact h.fl
 ·rw [World.frozen?_setCell, World.frozen?_setCell, World.frozen?_setCell]; exact h.fz o
 ·have hn := Ne.symm (h.ne (by have hi' : i < m.frame.length := hi; omega))
  rw [cell_set_blk hn, cell_set_blk hn, cell_set_blk hn]; exact h.fc i hi
 ·rw [World.frozen?_setCell, World.frozen?_setCell, World.frozen?_setCell]; exact h.fg i hi
 ·rw [size_setCell, size_setCell, size_setCell]; exact h.lp
 ·rw [size_setCell, size_setCell, size_setCell]; exact h.lg

theorem MacAt.setStack {w : World} {p g s cap : Nat} {m : Mac} (h : MacAt w p g s cap m) (j : Nat) (hj : j < 32) (c : Int) :
  MacAt (w.setCell ⟨p, 24 + j, none⟩ (.int .u8 c)) p g s cap { m with stack := fun i => if i = j then c else m.stack i } := by
 refine ⟨fun i hi => ?_, fun i hi => ?_, fun i hi => ?_, fun i hi => ?_, ?_, ?_, fun o => ?_, fun i hi => ?_, fun i hi => ?_, h.ne, h.cp, ?_, ?_⟩
 ·rw [cell_set_off (by omega)]; exact h.k i hi
 ·rw [cell_set_off (by omega)]; exact h.b i hi
 ·rw [cell_set_off (by omega)]; exact h.pl i hi
 ·by_cases e : i = j
  ·subst e; rw [cell_set_same (h.st i hi)]; simp
  ·rw [cell_set_off (by omega), h.st i hi]; simp [e]
 ·obtain ⟨a, h1, h2⟩ := h.fr
  exact ⟨a, by rw [cell_set_off (by omega)]; exact h1, h2⟩
 ·rw [cell_set_off (by omega)]; exact h.fl
 ·rw [World.frozen?_setCell]; exact h.fz o
 ·rw [cell_set_blk (Ne.symm (h.ne (by have hi' : i < m.frame.length := hi; omega)))]; exact h.fc i hi
 ·rw [World.frozen?_setCell]; exact h.fg i hi
 ·rw [size_setCell]; exact h.lp
 ·rw [size_setCell]; exact h.lg

theorem MacAt.setFrame {w : World} {p g s cap : Nat} {m : Mac} (h : MacAt w p g s cap m) (j : Nat) (hj : j < m.frame.length) (c : Int) :
  MacAt (w.setCell ⟨g, s + j, none⟩ (.int .u8 c)) p g s cap { m with frame := m.frame.set j c } := by
 have hne := h.ne (by omega)
 refine ⟨fun i hi => ?_, fun i hi => ?_, fun i hi => ?_, fun i hi => ?_, ?_, ?_, fun o => ?_, fun i hi => ?_, fun i hi => ?_, fun _ => hne, by simpa using h.cp, ?_, ?_⟩
 ·rw [cell_set_blk hne]; exact h.k i hi
 ·rw [cell_set_blk hne]; exact h.b i hi
 ·rw [cell_set_blk hne]; exact h.pl i hi
 ·rw [cell_set_blk hne]; exact h.st i hi
 ·obtain ⟨a, h1, h2⟩ := h.fr
  exact ⟨a, by rw [cell_set_blk hne]; simpa using h1, by simpa using h2⟩
 ·rw [cell_set_blk hne]; exact h.fl
 ·rw [World.frozen?_setCell]; exact h.fz o
 ·simp only [List.length_set] at hi
  by_cases e : i = j
  ·subst e; rw [cell_set_same (h.fc i hi)]; simp [hi]
  ·rw [cell_set_off (by omega), h.fc i hi]; simp [List.getElem?_set_ne (Ne.symm e)]
 ·simp only [List.length_set] at hi
  rw [World.frozen?_setCell]; exact h.fg i hi
 ·rw [size_setCell]; exact h.lp
 ·rw [size_setCell]; exact h.lg
end Go.Proofs.YtoobileejdhikaaGreat
