/-
  Contracts of the small functions of the program and of the document's answer: each returns what its text says and leaves memory as it was, but for a box of its own.
-/
import Derived.Test.YtoobileejdhikaaGreatProg
import Derived.WalkKit
import Derived.WalkSpells
import Derived.WalkLawsBesides
namespace Go.Proofs.YtoobileejdhikaaGreat
open Go.RowKit

def withinB (n l h : Int) : Bool := decide (l ≤ n) && decide (n ≤ h)
def leapB (off b : Int) : Bool := decide (0 ≤ off) && decide (off < b)

theorem ret_bool {a b : Bool} (h : a = b) : Ending.returned (.bool a) = .returned (.bool b) := by rw [h]
theorem ret_int {k : IntKind} {a b : Int} (h : a = b) : Ending.returned (.int k a) = .returned (.int k b) := by rw [h]

set_option maxHeartbeats 400000 in
theorem within_any (n l h : Int) (w : World) :
    Calls Tryz.prog 40 #[.int .i64 n, .int .i64 l, .int .i64 h] w fun e w' => e = .returned (.bool (withinB n l h)) ∧ w' = w := by
  go_enter Tryz.func40, Tryz.ntmps40
  go_wp2
  all_goals go_ret
  · have hl : l ≤ n := by assumption
    exact ⟨ret_bool (by simp [withinB, hl]), rfl⟩
  · have hl : n < l := by assumption
    exact ⟨ret_bool (by simp [withinB]; omega), rfl⟩

set_option maxHeartbeats 400000 in
theorem num_any (n : Int) (w : World) :
    Calls Tryz.prog 15 #[.int .i64 n] w fun e w' => e = .returned (.int .i64 n) ∧ w' = w := by
  go_enter Tryz.func15, Tryz.ntmps15
  go_wp2
  go_ret
  exact ⟨rfl, rfl⟩

set_option maxHeartbeats 400000 in
theorem leap_any (off b : Int) (w : World) (h1 : -32768 ≤ off) (h2 : off ≤ 32767) :
    Calls Tryz.prog 169 #[.int .i16 off, .int .i64 b] w fun e w' => e = .returned (.bool (leapB off b)) ∧ w' = w := by
  go_enter Tryz.func169, Tryz.ntmps169
  go_wp2
  all_goals go_ret
  · have hl : 0 ≤ off := by assumption
    exact ⟨ret_bool (by simp [leapB, hl]), rfl⟩
  · have hl : off < 0 := by assumption
    exact ⟨ret_bool (by simp [leapB]; omega), rfl⟩

/-- An instruction, as the program takes it apart. -/
def insV (op d s o n : Int) : Value := .agg #[.int .u8 op, .int .u8 d, .int .u8 s, .int .i16 o, .int .i32 n]

def fWork (d s o n : Int) : Bool := decide (d ≤ 6) && decide (s ≤ 7) && (o == 0) && (n == 0)
def fWorkNum (d s o : Int) : Bool := decide (d ≤ 6) && (s == 0) && (o == 0)
def fLoad (d s n : Int) : Bool := decide (d ≤ 6) && decide (s ≤ 7) && (n == 0)
def fStore (d s n : Int) : Bool := decide (d ≤ 7) && decide (s ≤ 7) && (n == 0)
def fJump (d s o n b : Int) : Bool := (d == 0) && (s == 0) && (n == 0) && leapB o b
def fCompare (d s o n b : Int) : Bool := decide (d ≤ 7) && decide (s ≤ 7) && (n == 0) && leapB o b
def fCompareNum (d s o b : Int) : Bool := decide (d ≤ 7) && (s == 0) && leapB o b
def fCall (d s o n : Int) : Bool := (d == 0) && (s == 0) && (o == 0) && decide (1 ≤ n) && decide (n ≤ 3)
def fExit (d s o n : Int) : Bool := (d == 0) && (s == 0) && (o == 0) && (n == 0)

set_option maxHeartbeats 400000 in
theorem fitsWork_any (op d s o n b : Int) (w : World) :
    Calls Tryz.prog 80 #[insV op d s o n, .int .i64 b] w fun e w' => e = .returned (.bool (fWork d s o n)) ∧ w' = w.alloc (.cells #[.int .u8 op, .int .u8 d, .int .u8 s, .int .i16 o, .int .i32 n] 121) := by
  unfold insV
  go_enter Tryz.func80, Tryz.ntmps80
  go_wp2
  all_goals go_ret
  all_goals (subst_vars; refine ⟨ret_bool ?_, rfl⟩; first | (simp_all [fWork]; done) | (simp_all [fWork]; omega))

set_option maxHeartbeats 400000 in
theorem fitsWorkNum_any (op d s o n b : Int) (w : World) :
    Calls Tryz.prog 105 #[insV op d s o n, .int .i64 b] w fun e w' => e = .returned (.bool (fWorkNum d s o)) ∧ w' = w.alloc (.cells #[.int .u8 op, .int .u8 d, .int .u8 s, .int .i16 o, .int .i32 n] 121) := by
  unfold insV
  go_enter Tryz.func105, Tryz.ntmps105
  go_wp2
  all_goals go_ret
  all_goals (subst_vars; refine ⟨ret_bool ?_, rfl⟩; first | (simp_all [fWorkNum]; done) | (simp_all [fWorkNum]; omega))

set_option maxHeartbeats 400000 in
theorem fitsLoad_any (op d s o n b : Int) (w : World) :
    Calls Tryz.prog 106 #[insV op d s o n, .int .i64 b] w fun e w' => e = .returned (.bool (fLoad d s n)) ∧ w' = w.alloc (.cells #[.int .u8 op, .int .u8 d, .int .u8 s, .int .i16 o, .int .i32 n] 121) := by
  unfold insV
  go_enter Tryz.func106, Tryz.ntmps106
  go_wp2
  all_goals go_ret
  all_goals (subst_vars; refine ⟨ret_bool ?_, rfl⟩; first | (simp_all [fLoad]; done) | (simp_all [fLoad]; omega))

set_option maxHeartbeats 400000 in
theorem fitsStore_any (op d s o n b : Int) (w : World) :
    Calls Tryz.prog 109 #[insV op d s o n, .int .i64 b] w fun e w' => e = .returned (.bool (fStore d s n)) ∧ w' = w.alloc (.cells #[.int .u8 op, .int .u8 d, .int .u8 s, .int .i16 o, .int .i32 n] 121) := by
  unfold insV
  go_enter Tryz.func109, Tryz.ntmps109
  go_wp2
  all_goals go_ret
  all_goals (subst_vars; refine ⟨ret_bool ?_, rfl⟩; first | (simp_all [fStore]; done) | (simp_all [fStore]; omega))

set_option maxHeartbeats 400000 in
theorem fitsJump_any (op d s o n b : Int) (w : World) (h1 : -32768 ≤ o) (h2 : o ≤ 32767) :
    Calls Tryz.prog 112 #[insV op d s o n, .int .i64 b] w fun e w' => e = .returned (.bool (fJump d s o n b)) ∧ w' = w.alloc (.cells #[.int .u8 op, .int .u8 d, .int .u8 s, .int .i16 o, .int .i32 n] 121) := by
  unfold insV
  go_enter Tryz.func112, Tryz.ntmps112
  go_wp2_with (go_at_call 169; refine (leap_any _ _ _ (by omega) (by omega)).mono ?_; rintro e w' ⟨rfl, rfl⟩)
  all_goals go_ret
  all_goals (subst_vars; refine ⟨ret_bool ?_, rfl⟩; first | (simp_all [fJump]; done) | (simp_all [fJump]; omega))

set_option maxHeartbeats 400000 in
theorem fitsCompare_any (op d s o n b : Int) (w : World) (h1 : -32768 ≤ o) (h2 : o ≤ 32767) :
    Calls Tryz.prog 115 #[insV op d s o n, .int .i64 b] w fun e w' => e = .returned (.bool (fCompare d s o n b)) ∧ w' = w.alloc (.cells #[.int .u8 op, .int .u8 d, .int .u8 s, .int .i16 o, .int .i32 n] 121) := by
  unfold insV
  go_enter Tryz.func115, Tryz.ntmps115
  go_wp2_with (go_at_call 169; refine (leap_any _ _ _ (by omega) (by omega)).mono ?_; rintro e w' ⟨rfl, rfl⟩)
  all_goals go_ret
  all_goals (subst_vars; refine ⟨ret_bool ?_, rfl⟩; first | (simp_all [fCompare]; done) | (simp_all [fCompare]; omega))

set_option maxHeartbeats 400000 in
theorem fitsCompareNum_any (op d s o n b : Int) (w : World) (h1 : -32768 ≤ o) (h2 : o ≤ 32767) :
    Calls Tryz.prog 130 #[insV op d s o n, .int .i64 b] w fun e w' => e = .returned (.bool (fCompareNum d s o b)) ∧ w' = w.alloc (.cells #[.int .u8 op, .int .u8 d, .int .u8 s, .int .i16 o, .int .i32 n] 121) := by
  unfold insV
  go_enter Tryz.func130, Tryz.ntmps130
  go_wp2_with (go_at_call 169; refine (leap_any _ _ _ (by omega) (by omega)).mono ?_; rintro e w' ⟨rfl, rfl⟩)
  all_goals go_ret
  all_goals (subst_vars; refine ⟨ret_bool ?_, rfl⟩; first | (simp_all [fCompareNum]; done) | (simp_all [fCompareNum]; omega))

set_option maxHeartbeats 400000 in
theorem fitsCall_any (op d s o n b : Int) (w : World) :
    Calls Tryz.prog 131 #[insV op d s o n, .int .i64 b] w fun e w' => e = .returned (.bool (fCall d s o n)) ∧ w' = w.alloc (.cells #[.int .u8 op, .int .u8 d, .int .u8 s, .int .i16 o, .int .i32 n] 121) := by
  unfold insV
  go_enter Tryz.func131, Tryz.ntmps131
  go_wp2
  all_goals go_ret
  all_goals (subst_vars; refine ⟨ret_bool ?_, rfl⟩; first | (simp_all [fCall]; done) | (simp_all [fCall]; omega))

set_option maxHeartbeats 400000 in
theorem fitsExit_any (op d s o n b : Int) (w : World) :
    Calls Tryz.prog 134 #[insV op d s o n, .int .i64 b] w fun e w' => e = .returned (.bool (fExit d s o n)) ∧ w' = w.alloc (.cells #[.int .u8 op, .int .u8 d, .int .u8 s, .int .i16 o, .int .i32 n] 121) := by
  unfold insV
  go_enter Tryz.func134, Tryz.ntmps134
  go_wp2
  all_goals go_ret
  all_goals (subst_vars; refine ⟨ret_bool ?_, rfl⟩; first | (simp_all [fExit]; done) | (simp_all [fExit]; omega))

end Go.Proofs.YtoobileejdhikaaGreat
