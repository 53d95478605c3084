/-
  The document's answer, Read: the instruction in eight bytes.
-/
import Derived.Test.YtmnilbfikenadaaSgn
import Derived.Deep.RegionHeld3
import Derived.Deep.DrawnRows
namespace Go.Proofs.Ytmnilbfikenadaa
open Go.RowKit
attribute [local go_sem ↓] Go.wp_at_zero Go.wp_at_succ

/-- An instruction, as the document's answer has it: the operation without 128, whether with it, registers, OFF, NUM. -/
def rOff (z2 z3 : Int) : Int := sgn (p2 15) (z2 + 256 * z3)
def rNum (z4 z5 z6 z7 : Int) : Int := sgn (p2 31) (z4 + 256 * (z5 + 256 * (z6 + 256 * z7)))
def refC (z0 z1 o n : Int) : Array Value := #[.int .i64 (z0 % 128), .bool (decide (128 ≤ z0)), .int .i64 (z1 % 16), .int .i64 (z1 / 16), .int .i64 o, .int .i64 n]

theorem wrapz (z : Int) (h0 : 0 ≤ z) (h1 : z ≤ 8589934592) : IntKind.i64.wrap z = z := by
  rw [IntKind.wrap_i64]; omega
theorem lt_of_cell {w : World} {b o : Nat} {v : Value} (h : w.cell? ⟨b, o, none⟩ = some v) : b < w.heap.size := by
  exact block_lt_of_cell h

set_option maxHeartbeats 1000000 in
theorem read_any (bb off cap : Nat) (z0 z1 z2 z3 z4 z5 z6 z7 : Int) (w : World)
    (_hcap : 8 ≤ cap) 
    (c0 : w.cell? ⟨bb, off, none⟩ = some (.int .u8 z0)) (c1 : w.cell? ⟨bb, off + 1, none⟩ = some (.int .u8 z1))
    (c2 : w.cell? ⟨bb, off + 2, none⟩ = some (.int .u8 z2)) (c3 : w.cell? ⟨bb, off + 3, none⟩ = some (.int .u8 z3))
    (c4 : w.cell? ⟨bb, off + 4, none⟩ = some (.int .u8 z4)) (c5 : w.cell? ⟨bb, off + 5, none⟩ = some (.int .u8 z5))
    (c6 : w.cell? ⟨bb, off + 6, none⟩ = some (.int .u8 z6)) (c7 : w.cell? ⟨bb, off + 7, none⟩ = some (.int .u8 z7))
    (l0 : 0 ≤ z0) (u0 : z0 ≤ 255) (l1 : 0 ≤ z1) (u1 : z1 ≤ 255) (l2 : 0 ≤ z2) (u2 : z2 ≤ 255) (l3 : 0 ≤ z3) (u3 : z3 ≤ 255)
    (l4 : 0 ≤ z4) (u4 : z4 ≤ 255) (l5 : 0 ≤ z5) (u5 : z5 ≤ 255) (l6 : 0 ≤ z6) (u6 : z6 ≤ 255) (l7 : 0 ≤ z7) (u7 : z7 ≤ 255) :
    Calls Try.prog 13 #[.slice (some ⟨bb, off, none⟩) 8 cap] w fun e w' => e = .returned (.agg (refC z0 z1 (rOff z2 z3) (rNum z4 z5 z6 z7))) ∧ Below w.heap.size w w' := by
  have n0 := World.new_ne w _ c0
  have n2 : bb < w.heap.size := lt_of_cell c0
  have k0 := wrapz z0 l0 (by omega)
  have k1 := wrapz z1 l1 (by omega)
  have k2 := wrapz z2 l2 (by omega)
  have k3 := wrapz z3 l3 (by omega)
  have k4 := wrapz z4 l4 (by omega)
  have k5 := wrapz z5 l5 (by omega)
  have k6 := wrapz z6 l6 (by omega)
  have k7 := wrapz z7 l7 (by omega)
  have t0 : z0.tmod 128 = z0 % 128 := Int.tmod_eq_emod_of_nonneg l0
  have t1 : z1.tmod 16 = z1 % 16 := Int.tmod_eq_emod_of_nonneg l1
  have t2 : z1.tdiv 16 = z1 / 16 := Int.tdiv_eq_ediv_of_nonneg l1
  have t3 := wrapz (z1 / 16) (by omega) (by omega)
  have a1 := wrapz (256 * z3) (by omega) (by omega)
  have a2 := wrapz (z2 + 256 * z3) (by omega) (by omega)
  have a3 := wrapz (256 * z7) (by omega) (by omega)
  have a4 := wrapz (z6 + 256 * z7) (by omega) (by omega)
  have a5 := wrapz (256 * (z6 + 256 * z7)) (by omega) (by omega)
  have a6 := wrapz (z5 + 256 * (z6 + 256 * z7)) (by omega) (by omega)
  have a7 := wrapz (256 * (z5 + 256 * (z6 + 256 * z7))) (by omega) (by omega)
  have a8 := wrapz (z4 + 256 * (z5 + 256 * (z6 + 256 * z7))) (by omega) (by omega)
  go_enter Try.func13, Try.ntmps13
  go_wp2
  go_region_held3 (fun w' => w'.cell? ⟨bb, off, none⟩ = some (.int .u8 z0) ∧ w'.cell? ⟨bb, off + 1, none⟩ = some (.int .u8 z1)) (go_keep) (fail)
  all_goals go_wp2
  go_region_held3 (fun w' => w'.cell? ⟨bb, off + 2, none⟩ = some (.int .u8 z2) ∧ w'.cell? ⟨bb, off + 3, none⟩ = some (.int .u8 z3)) (go_keep) ((go_at_call 32; refine (signed_any _ 16 _ (by omega) (by omega) (by omega) (by omega)).mono ?_; rintro e w' ⟨rfl, rfl⟩))
  all_goals go_wp2
  go_region_held3 (fun w' => w'.cell? ⟨bb, off + 4, none⟩ = some (.int .u8 z4) ∧ w'.cell? ⟨bb, off + 5, none⟩ = some (.int .u8 z5) ∧ w'.cell? ⟨bb, off + 6, none⟩ = some (.int .u8 z6) ∧ w'.cell? ⟨bb, off + 7, none⟩ = some (.int .u8 z7)) (go_keep) ((go_at_call 32; refine (signed_any _ 32 _ (by omega) (by omega) (by omega) (by omega)).mono ?_; rintro e w' ⟨rfl, rfl⟩))
  all_goals go_wp2
  exact bodyPost_ret (v := .agg (refC z0 z1 (rOff z2 z3) (rNum z4 z5 z6 z7))) (by simp [results, Try.results13, go_sem, refC, rOff, rNum]) rfl
    ⟨rfl, (((((Below.refl _ _).alloc (Nat.le_refl _) _).alloc (by simp) _).drew).drew).drew⟩
end Go.Proofs.Ytmnilbfikenadaa
