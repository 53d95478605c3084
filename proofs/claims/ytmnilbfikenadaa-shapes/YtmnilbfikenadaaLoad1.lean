/-
  The program's deferred function literal of Load: what was thrown becomes the answer.
-/
import Derived.Test.YtmnilbfikenadaaLkS
import Derived.Defers
import Derived.Recover
namespace Go.Proofs.Ytmnilbfikenadaa
open Go.RowKit

theorem assert_wrong (er at1 : Int) (w : World) : Sem.run Try.prog (Instr.typeAssert (.iface 45 (.agg #[.int .i64 er, .int .i64 at1])) 20 45 true) w = .ok (.tuple #[.agg #[.int .i64 er, .int .i64 at1], .bool true]) w := by kernel_rfl

set_option maxRecDepth 100000 in
set_option maxHeartbeats 1000000 in
theorem catch_idle (p0 p1 p2 : Addr) (w : World) :
    CallsD Try.prog 11 #[.pointer (some p0), .pointer (some p1), .pointer (some p2)] .returning w fun e u' w' => e = .returned (.tuple #[]) ∧ u' = .returning ∧ w' = w := by
  refine callsD_of_wpS Try.func11 rfl fun c₀ cs hu => ?_
  apply wpS_seq
  apply wpS_region
  simp [wpOpsS, go_sem, recoverD, hu, Try.ntmps11, Exit.thenS]
  refine wpS_of_wp ?_
  go_wp2
  cases c₀
  simp_all [bodyPostS, results, Try.results11]

set_option maxRecDepth 100000 in
set_option maxHeartbeats 1000000 in
theorem catch_panicking (H : Nat) (er at1 : Int) (older : List PanicEntry) (w : World) (v0 : Option Addr) (x1 x2 : Int) (hH : H + 1 + 1 < w.heap.size)
    (c0 : w.cell? ⟨H, 0, none⟩ = some (.pointer v0)) (c1 : w.cell? ⟨H + 1, 0, none⟩ = some (.int .i64 x1)) (c2 : w.cell? ⟨H + 1 + 1, 0, none⟩ = some (.int .i64 x2))
    (z0 : w.frozen? ⟨H, 0, none⟩ = false) (z1 : w.frozen? ⟨H + 1, 0, none⟩ = false) (z2 : w.frozen? ⟨H + 1 + 1, 0, none⟩ = false) :
    CallsD Try.prog 11 #[.pointer (some ⟨H, 0, none⟩), .pointer (some ⟨H + 1, 0, none⟩), .pointer (some ⟨H + 1 + 1, 0, none⟩)] (.panicking ({ v := .iface 45 (.agg #[.int .i64 er, .int .i64 at1]), recovered := false } :: older)) w fun e u' w' =>
      e = .returned (.tuple #[]) ∧ u' = .panicking ({ v := .iface 45 (.agg #[.int .i64 er, .int .i64 at1]), recovered := true } :: older) ∧
      w'.cell? ⟨H, 0, none⟩ = some (.pointer none) ∧ w'.cell? ⟨H + 1, 0, none⟩ = some (.int .i64 er) ∧ w'.cell? ⟨H + 1 + 1, 0, none⟩ = some (.int .i64 at1) ∧ Below H w w' := by
  refine callsD_of_wpS Try.func11 rfl fun c₀ cs hu => ?_
  apply wpS_seq
  apply wpS_region
  simp [wpOpsS, go_sem, recoverD, hu, Try.ntmps11, Exit.thenS]
  rw [show (#[Value.pointer (some { block := H, off := 0 }), Value.pointer (some { block := H + 1, off := 0 }), Value.pointer (some { block := H + 1 + 1, off := 0 })] ++
          ((Array.replicate 12 undef).setIfInBounds 3 (Value.iface 45 (Value.agg #[Value.int IntKind.i64 er, Value.int IntKind.i64 at1])))) =
      #[Value.pointer (some { block := H, off := 0 }), Value.pointer (some { block := H + 1, off := 0 }), Value.pointer (some { block := H + 1 + 1, off := 0 }), undef, undef, undef,
        (Value.iface 45 (Value.agg #[Value.int IntKind.i64 er, Value.int IntKind.i64 at1])), undef, undef, undef, undef, undef, undef, undef, undef] from rfl]
  have ta := assert_wrong er at1
  refine wpS_of_wp ?_
  have a0 : ∀ o, (w.alloc o).cell? ⟨H, 0, none⟩ = some (.pointer v0) := fun o => by rw [World.cell?_alloc_past _ _ _ (by show H < _; omega)]; exact c0
  have a1 : ∀ o, (w.alloc o).cell? ⟨H + 1, 0, none⟩ = some (.int .i64 x1) := fun o => by rw [World.cell?_alloc_past _ _ _ (by show H + 1 < _; omega)]; exact c1
  have a2 : ∀ o, (w.alloc o).cell? ⟨H + 1 + 1, 0, none⟩ = some (.int .i64 x2) := fun o => by rw [World.cell?_alloc_past _ _ _ (by show H + 1 + 1 < _; omega)]; exact c2
  have b0 : ∀ o, (w.alloc o).frozen? ⟨H, 0, none⟩ = false := fun o => by rw [World.frozen?_alloc_past _ _ _ (by show H < _; omega)]; exact z0
  have b1 : ∀ o, (w.alloc o).frozen? ⟨H + 1, 0, none⟩ = false := fun o => by rw [World.frozen?_alloc_past _ _ _ (by show H + 1 < _; omega)]; exact z1
  have b2 : ∀ o, (w.alloc o).frozen? ⟨H + 1 + 1, 0, none⟩ = false := fun o => by rw [World.frozen?_alloc_past _ _ _ (by show H + 1 + 1 < _; omega)]; exact z2
  have n0 : ¬ H = w.heap.size := by omega
  have n1 : ¬ H + 1 = w.heap.size := by omega
  have n2 : ¬ H + 1 + 1 = w.heap.size := by omega
  have m0 : ¬ w.heap.size = H := by omega
  have m1 : ¬ w.heap.size = H + 1 := by omega
  have m2 : ¬ w.heap.size = H + 1 + 1 := by omega
  go_wp2
  go_region_held3 (fun w' => w'.cell? ⟨w.heap.size, 0, none⟩ = some (.int .i64 er) ∧ w'.cell? ⟨w.heap.size, 1, none⟩ = some (.int .i64 at1)) (go_keep) (fail)
  all_goals go_wp2
  have bel : ∀ o, Below H w ((((w.alloc o).setCell ⟨H, 0, none⟩ (.pointer none)).setCell ⟨H + 1, 0, none⟩ (.int .i64 er)).setCell ⟨H + 1 + 1, 0, none⟩ (.int .i64 at1)).drew := fun o =>
    (((((Below.refl H w).alloc (by omega) o).setCell (by exact Nat.le_refl _) _).setCell (by exact Nat.le_succ _) _).setCell (by show H ≤ H + 1 + 1; omega) _).drew
  cases c₀
  simp [bodyPostS, results, Try.results11, go_sem, a0, a1, a2, bel]
end Go.Proofs.Ytmnilbfikenadaa
