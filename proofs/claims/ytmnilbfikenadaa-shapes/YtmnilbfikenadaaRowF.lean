/-
  The document's answer, Row: whether an instruction is one of the table's: the walk.
-/
import Derived.Test.YtmnilbfikenadaaRowB
import Derived.Deep.DeepCutAuto
namespace Go.Proofs.Ytmnilbfikenadaa
open Go.RowKit

set_option maxRecDepth 100000 in
set_option maxHeartbeats 2000000 in
theorem row_false (op : Int) (d s o n : Int) (w : World) :
    Calls Try.prog 14 #[.agg (insC op false d s o n)] w fun e w' => e = .returned (.bool (rowB op false d s o n)) ∧ w' = w.alloc (.cells (insC op false d s o n) 50) := by
  unfold insC
  go_enter Try.func14, Try.ntmps14
  go_upto_region 6 with (go_at_call 15; refine (within_any _ _ _ _).mono ?_; rintro e w' ⟨rfl, rfl⟩)
  go_cut [6] (fun s6 w' => s6 = .bool ((d == 0) && (s == 0)) ∧ w' = w.alloc (.cells #[.int .i64 op, .bool false, .int .i64 d, .int .i64 s, .int .i64 o, .int .i64 n] 50))
  case first =>
    cases hd : (d == 0)
    all_goals (go_wp2; go_meet; case rel => exact ⟨congrArg Value.bool (by simp [hd]), rfl⟩)
  case rest =>
    obtain ⟨rfl, rfl⟩ := hcut
    go_upto_region 7 with fail
    go_cut [7] (fun s7 w' => s7 = .bool ((n == 0) || false) ∧ w' = w.alloc (.cells #[.int .i64 op, .bool false, .int .i64 d, .int .i64 s, .int .i64 o, .int .i64 n] 50))
    case first =>
      cases hn : (n == 0)
      all_goals (go_wp2; go_meet; case rel => exact ⟨congrArg Value.bool (by simp [hn]), rfl⟩)
    case rest =>
      obtain ⟨rfl, rfl⟩ := hcut
      go_wp2_with (go_at_call 15; refine (within_any _ _ _ _).mono ?_; rintro e w' ⟨rfl, rfl⟩)
      all_goals go_ret
      all_goals refine ⟨ret_bool ?_, ?_⟩
      all_goals first | rfl | (simp [rowB, *]; done) | (simp_all [rowB]; done) | (simp_all [rowB]; omega)

end Go.Proofs.Ytmnilbfikenadaa
