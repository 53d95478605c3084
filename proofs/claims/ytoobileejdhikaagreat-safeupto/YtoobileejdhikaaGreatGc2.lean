/-
  The document's answer, Row: whether an instruction is one of the table's.
  The document's answer, Row: whether an instruction is one of the table's: the walk.
  The document's answer, Row: whether an instruction is one of the table's: the walk.
-/
import Derived.Test.YtoobileejdhikaaGreatGa0
import Derived.Deep.DeepCutAuto
namespace Go.Proofs.YtoobileejdhikaaGreat
open Go.RowKit

def insC (op : Int) (imm : Bool) (d s o n : Int) : Array Value := #[.int .i64 op, .bool imm, .int .i64 d, .int .i64 s, .int .i64 o, .int .i64 n]

def rowB (op : Int) (imm : Bool) (d s o n : Int) : Bool :=
 let src := if imm then s == 0 else withinB s 0 7
 let num := (n == 0) || imm
 let none := (d == 0) && (s == 0)
 if withinB op 1 11 then withinB d 0 6 && src && (o == 0) && num
 else if withinB op 20 23 then withinB d 0 6 && src && !imm && (n == 0)
 else if withinB op 24 27 then withinB d 0 7 && src && !imm && (n == 0)
 else if op == 30 then none && !imm && decide (0 ≤ o) && (n == 0)
 else if withinB op 31 36 then withinB d 0 7 && src && decide (0 ≤ o) && num
 else if op == 40 then none && !imm && (o == 0) && withinB n 1 3
 else if op == 41 then none && !imm && (o == 0) && (n == 0)
 else false

end Go.Proofs.YtoobileejdhikaaGreat

namespace Go.Proofs.YtoobileejdhikaaGreat
set_option maxRecDepth 100000
set_option maxHeartbeats 2000000
open Go.RowKit

theorem row_false (op : Int) (d s o n : Int) (w : World) :
  Calls Tryz.prog 39 #[.agg (insC op false d s o n)] w fun e w' => e = .returned (.bool (rowB op false d s o n)) ∧ w' = w.alloc (.cells (insC op false d s o n) 74) := by
 unfold insC
 go_enter Tryz.func39, Tryz.ntmps39
 go_upto_region 6 with (go_at_call 40; refine (within_any _ _ _ _).mono ?_; rintro e w' ⟨rfl, rfl⟩)
 go_cut [6] (fun s6 w' => s6 = .bool ((d == 0) && (s == 0)) ∧ w' = w.alloc (.cells #[.int .i64 op, .bool false, .int .i64 d, .int .i64 s, .int .i64 o, .int .i64 n] 74))
 case first =>
  cases hd : (d == 0)
  all_goals (go_wp2; go_meet; case rel => exact ⟨congrArg Value.bool (by simp [hd]), rfl⟩)
 case rest =>
  obtain ⟨rfl, rfl⟩ := hcut
  go_upto_region 7 with fail
  go_cut [7] (fun s7 w' => s7 = .bool ((n == 0) || false) ∧ w' = w.alloc (.cells #[.int .i64 op, .bool false, .int .i64 d, .int .i64 s, .int .i64 o, .int .i64 n] 74))
  case first =>
   cases hn : (n == 0)
   all_goals (go_wp2; go_meet; case rel => exact ⟨congrArg Value.bool (by simp [hn]), rfl⟩)
  case rest =>
   obtain ⟨rfl, rfl⟩ := hcut
   go_wp2_with (go_at_call 40; refine (within_any _ _ _ _).mono ?_; rintro e w' ⟨rfl, rfl⟩)
   all_goals go_ret
   all_goals refine ⟨ret_bool ?_, ?_⟩
   all_goals first | rfl | (simp [rowB, *]; done) | (simp_all [rowB]; done) | (simp_all [rowB]; omega)

end Go.Proofs.YtoobileejdhikaaGreat

namespace Go.Proofs.YtoobileejdhikaaGreat
set_option maxRecDepth 100000
set_option maxHeartbeats 2000000
open Go.RowKit

theorem row_true (op : Int) (d s o n : Int) (w : World) :
  Calls Tryz.prog 39 #[.agg (insC op true d s o n)] w fun e w' => e = .returned (.bool (rowB op true d s o n)) ∧ w' = w.alloc (.cells (insC op true d s o n) 74) := by
 unfold insC
 go_enter Tryz.func39, Tryz.ntmps39
 go_upto_region 6 with (go_at_call 40; refine (within_any _ _ _ _).mono ?_; rintro e w' ⟨rfl, rfl⟩)
 go_cut [6] (fun s6 w' => s6 = .bool ((d == 0) && (s == 0)) ∧ w' = w.alloc (.cells #[.int .i64 op, .bool true, .int .i64 d, .int .i64 s, .int .i64 o, .int .i64 n] 74))
 case first =>
  cases hd : (d == 0)
  all_goals (go_wp2; go_meet; case rel => exact ⟨congrArg Value.bool (by simp [hd]), rfl⟩)
 case rest =>
  obtain ⟨rfl, rfl⟩ := hcut
  go_upto_region 7 with fail
  go_cut [7] (fun s7 w' => s7 = .bool ((n == 0) || true) ∧ w' = w.alloc (.cells #[.int .i64 op, .bool true, .int .i64 d, .int .i64 s, .int .i64 o, .int .i64 n] 74))
  case first =>
   cases hn : (n == 0)
   all_goals (go_wp2; go_meet; case rel => exact ⟨congrArg Value.bool (by simp [hn]), rfl⟩)
  case rest =>
   obtain ⟨rfl, rfl⟩ := hcut
   go_wp2_with (go_at_call 40; refine (within_any _ _ _ _).mono ?_; rintro e w' ⟨rfl, rfl⟩)
   all_goals go_ret
   all_goals refine ⟨ret_bool ?_, ?_⟩
   all_goals first | rfl | (simp [rowB, *]; done) | (simp_all [rowB]; done) | (simp_all [rowB]; omega)

end Go.Proofs.YtoobileejdhikaaGreat
