/-
  The program's places: steps, moved, apart; NumbersOf; which register is second.
  The program's Reach: are all bytes shown to lie in the frame, or in the stack?
-/
import Derived.Test.YtoobileejdhikaaGreatGa3
namespace Go.Proofs.YtoobileejdhikaaGreat
set_option maxRecDepth 100000
set_option maxHeartbeats 1000000
open Go.RowKit

theorem bel4 (w : World) (A B C D : Obj) : Below w.heap.size w ((((w.alloc A).alloc B).alloc C).alloc D) := (bel3 w A B C).alloc (by simp; omega) _
theorem bel5 (w : World) (A B C D E : Obj) : Below w.heap.size w (((((w.alloc A).alloc B).alloc C).alloc D).alloc E) := (bel4 w A B C D).alloc (by simp; omega) _

theorem steps_ok (s : KS) (l m : Int) (w : World) (h1 : wrap64 l ≤ wrap64 m) (h2 : -2000 ≤ wrap64 l) (h3 : wrap64 m ≤ 2000) :
  Calls Tryz.prog 188 #[.agg s.cells, .agg #[.int .u64 l, .int .u64 m]] w fun e w' => e = .returned (.agg #[.int .i64 (wrap64 l), .int .i64 (wrap64 m)]) ∧ Below w.heap.size w w' := by
 go_enter Tryz.func188, Tryz.ntmps188
 go_wp2_with fail
 go_region_held3 (fun w' => w'.cell? ⟨w.heap.size + 1, 0, none⟩ = some (.int .u64 l) ∧ w'.cell? ⟨w.heap.size + 1, 1, none⟩ = some (.int .u64 m)) (go_keep) (fail)
 all_goals go_wp2
 exact bodyPost_ret (v := .agg #[.int .i64 (wrap64 l), .int .i64 (wrap64 m)]) (by simp [results, Tryz.results188, go_sem]) rfl ⟨rfl, (bel3 _ _ _ _).drew⟩

theorem steps_no (s : KS) (l m : Int) (w : World) (h : ¬ (wrap64 l ≤ wrap64 m ∧ -2000 ≤ wrap64 l ∧ wrap64 m ≤ 2000)) :
  Calls Tryz.prog 188 #[.agg s.cells, .agg #[.int .u64 l, .int .u64 m]] w fun e w' => e = .panicked (thrown 3 s.at1) ∧ Below w.heap.size w w' := by
 by_cases h1 : wrap64 m < wrap64 l
 ·have d1 : decide (wrap64 m < wrap64 l) = true := by simpa using h1
  clear h
  go_enter Tryz.func188, Tryz.ntmps188
  go_wp2_with fail
  go_region_held3 (fun w' => w'.cell? ⟨w.heap.size + 1, 0, none⟩ = some (.int .u64 l) ∧ w'.cell? ⟨w.heap.size + 1, 1, none⟩ = some (.int .u64 m)) (go_keep) (fail)
  all_goals go_wp2_with (first | (refine wpK_load rfl _ rfl w.heap.size rfl s (by with_reducible (repeat (first | exact KAt.new w s | refine KAt.alloc ?_ _ | refine KAt.drew ?_))) ?_) | (go_at_call 185; refine (harm_any s _).mono ?_; rintro e w9 ⟨rfl, hb9⟩))
  exact ⟨rfl, rfl, ((bel3 w _ _ _).drew).trans (hb9.mono (by show w.heap.size ≤ (((w.alloc _).alloc _).alloc _).heap.size; simp; omega))⟩
 have d1 : decide (wrap64 m < wrap64 l) = false := by simp; omega
 by_cases h2 : wrap64 l < -2000
 ·have d2 : decide (wrap64 l < -2000) = true := by simpa using h2
  clear h
  go_enter Tryz.func188, Tryz.ntmps188
  go_wp2_with fail
  go_region_held3 (fun w' => w'.cell? ⟨w.heap.size + 1, 0, none⟩ = some (.int .u64 l) ∧ w'.cell? ⟨w.heap.size + 1, 1, none⟩ = some (.int .u64 m)) (go_keep) (fail)
  all_goals go_wp2_with (first | (refine wpK_load rfl _ rfl w.heap.size rfl s (by with_reducible (repeat (first | exact KAt.new w s | refine KAt.alloc ?_ _ | refine KAt.drew ?_))) ?_) | (go_at_call 185; refine (harm_any s _).mono ?_; rintro e w9 ⟨rfl, hb9⟩))
  exact ⟨rfl, rfl, ((bel3 w _ _ _).drew).trans (hb9.mono (by show w.heap.size ≤ (((w.alloc _).alloc _).alloc _).heap.size; simp; omega))⟩
 have d2 : decide (wrap64 l < -2000) = false := by simp; omega
 have h3 : 2000 < wrap64 m := by omega
 ·have d3 : decide (2000 < wrap64 m) = true := by simpa using h3
  clear h
  go_enter Tryz.func188, Tryz.ntmps188
  go_wp2_with fail
  go_region_held3 (fun w' => w'.cell? ⟨w.heap.size + 1, 0, none⟩ = some (.int .u64 l) ∧ w'.cell? ⟨w.heap.size + 1, 1, none⟩ = some (.int .u64 m)) (go_keep) (fail)
  all_goals go_wp2_with (first | (refine wpK_load rfl _ rfl w.heap.size rfl s (by with_reducible (repeat (first | exact KAt.new w s | refine KAt.alloc ?_ _ | refine KAt.drew ?_))) ?_) | (go_at_call 185; refine (harm_any s _).mono ?_; rintro e w9 ⟨rfl, hb9⟩))
  exact ⟨rfl, rfl, ((bel3 w _ _ _).drew).trans (hb9.mono (by show w.heap.size ≤ (((w.alloc _).alloc _).alloc _).heap.size; simp; omega))⟩

theorem moved_ok (s : KS) (k a b c d bl bm : Int) (e1 : Bool) (w : World) (_b1 : -1000 ≤ c) (_b2 : c ≤ 1000) (_b3 : -1000 ≤ d) (_b4 : d ≤ 1000) (_b5 : -2000 ≤ bl) (_b6 : bl ≤ 2000) (_b7 : -2000 ≤ bm) (_b8 : bm ≤ 2000) (h1 : -1000 ≤ c + bl) (h2 : d + bm ≤ 1000) :
  Calls Tryz.prog 187 #[.agg s.cells, .agg #[.int .u8 k, .int .u64 a, .int .u64 b, .int .i64 c, .int .i64 d, .bool e1], .agg #[.int .i64 bl, .int .i64 bm]] w fun e w' => e = .returned (.agg #[.int .u8 k, .int .u64 0, .int .u64 0, .int .i64 (c + bl), .int .i64 (d + bm), .bool false]) ∧ Below w.heap.size w w' := by
 go_enter Tryz.func187, Tryz.ntmps187
 go_wp2
 exact bodyPost_ret (v := .agg #[.int .u8 k, .int .u64 0, .int .u64 0, .int .i64 (c + bl), .int .i64 (d + bm), .bool false]) (by simp [results, Tryz.results187, go_sem]) rfl ⟨rfl, bel5 _ _ _ _ _ _⟩

theorem moved_no (s : KS) (k a b c d bl bm : Int) (e1 : Bool) (w : World) (_b1 : -1000 ≤ c) (_b2 : c ≤ 1000) (_b3 : -1000 ≤ d) (_b4 : d ≤ 1000) (_b5 : -2000 ≤ bl) (_b6 : bl ≤ 2000) (_b7 : -2000 ≤ bm) (_b8 : bm ≤ 2000) (h : ¬ (-1000 ≤ c + bl ∧ d + bm ≤ 1000)) :
  Calls Tryz.prog 187 #[.agg s.cells, .agg #[.int .u8 k, .int .u64 a, .int .u64 b, .int .i64 c, .int .i64 d, .bool e1], .agg #[.int .i64 bl, .int .i64 bm]] w fun e w' => e = .panicked (thrown 3 s.at1) ∧ Below w.heap.size w w' := by
 by_cases h1 : c + bl < -1000
 ·have d1 : decide (c + bl < -1000) = true := by simpa using h1
  clear h
  go_enter Tryz.func187, Tryz.ntmps187
  go_wp2_with (first | (refine wpK_load rfl _ rfl w.heap.size rfl s (by with_reducible (repeat (first | exact KAt.new w s | refine KAt.alloc ?_ _ | refine KAt.drew ?_))) ?_) | (go_at_call 185; refine (harm_any s _).mono ?_; rintro e w9 ⟨rfl, hb9⟩))
  exact ⟨rfl, rfl, (bel5 w _ _ _ _ _).trans (hb9.mono (by simp; omega))⟩
 have d1 : decide (c + bl < -1000) = false := by simp; omega
 have h3 : 1000 < d + bm := by omega
 ·have d3 : decide (1000 < d + bm) = true := by simpa using h3
  clear h
  go_enter Tryz.func187, Tryz.ntmps187
  go_wp2_with (first | (refine wpK_load rfl _ rfl w.heap.size rfl s (by with_reducible (repeat (first | exact KAt.new w s | refine KAt.alloc ?_ _ | refine KAt.drew ?_))) ?_) | (go_at_call 185; refine (harm_any s _).mono ?_; rintro e w9 ⟨rfl, hb9⟩))
  exact ⟨rfl, rfl, (bel5 w _ _ _ _ _).trans (hb9.mono (by simp; omega))⟩

theorem apart_any (a b c d : Int) (w : World) (_b1 : -1000 ≤ a) (_b2 : a ≤ 1000) (_b3 : -1000 ≤ b) (_b4 : b ≤ 1000) (_b5 : -1000 ≤ c) (_b6 : c ≤ 1000) (_b7 : -1000 ≤ d) (_b8 : d ≤ 1000) :
  Calls Tryz.prog 190 #[.agg #[.int .i64 a, .int .i64 b], .agg #[.int .i64 c, .int .i64 d]] w fun e w' => e = .returned (.agg #[.int .u64 (if a - d < 0 ∧ 0 ≤ b - c then 0 else IntKind.u64.wrap (a - d)), .int .u64 (if a - d < 0 ∧ 0 ≤ b - c then 18446744073709551615 else IntKind.u64.wrap (b - c))]) ∧ Below w.heap.size w w' := by
 by_cases h1 : a - d < 0
 ·by_cases h2 : 0 ≤ b - c
  ·rw [if_pos ⟨h1, h2⟩, if_pos ⟨h1, h2⟩]
   have d1 : decide (a - d < 0) = true := by simpa using h1
   have d2 : decide (0 ≤ b - c) = true := by simpa using h2
   go_enter Tryz.func190, Tryz.ntmps190
   go_wp2_with fail
   go_region_held3 (fun w' => w'.cell? ⟨w.heap.size, 0, none⟩ = some (.int .i64 a) ∧ w'.cell? ⟨w.heap.size, 1, none⟩ = some (.int .i64 b) ∧ w'.cell? ⟨w.heap.size + 1, 0, none⟩ = some (.int .i64 c) ∧ w'.cell? ⟨w.heap.size + 1, 1, none⟩ = some (.int .i64 d)) (go_keep) (fail)
   all_goals go_wp2_with (go_at_call 191; refine (anyNumber_any _).mono ?_; rintro e w1 ⟨rfl, rfl⟩)
   exact bodyPost_ret (v := .agg #[.int .u64 (0), .int .u64 (18446744073709551615)]) (by simp [results, Tryz.results190, go_sem]) rfl ⟨rfl, (bel3 _ _ _ _).drew.alloc (by show w.heap.size ≤ (((w.alloc _).alloc _).alloc _).heap.size; simp; omega) _⟩

  ·rw [if_neg (by omega), if_neg (by omega)]
   have d1 : decide (a - d < 0) = true := by simpa using h1
   have d2 : decide (0 ≤ b - c) = false := by simp; omega
   go_enter Tryz.func190, Tryz.ntmps190
   go_wp2_with fail
   go_region_held3 (fun w' => w'.cell? ⟨w.heap.size, 0, none⟩ = some (.int .i64 a) ∧ w'.cell? ⟨w.heap.size, 1, none⟩ = some (.int .i64 b) ∧ w'.cell? ⟨w.heap.size + 1, 0, none⟩ = some (.int .i64 c) ∧ w'.cell? ⟨w.heap.size + 1, 1, none⟩ = some (.int .i64 d)) (go_keep) (fail)
   all_goals go_wp2_with (go_at_call 191; refine (anyNumber_any _).mono ?_; rintro e w1 ⟨rfl, rfl⟩)
   exact bodyPost_ret (v := .agg #[.int .u64 (IntKind.u64.wrap (a - d)), .int .u64 (IntKind.u64.wrap (b - c))]) (by simp [results, Tryz.results190, go_sem]) rfl ⟨rfl, (bel3 _ _ _ _).drew⟩

 ·rw [if_neg (by omega), if_neg (by omega)]
  have d1 : decide (a - d < 0) = false := by simp; omega
  rw [show IntKind.u64.wrap (a - d) = a - d from by rw [wrapU]; omega]
  go_enter Tryz.func190, Tryz.ntmps190
  go_wp2_with fail
  go_region_held3 (fun w' => w'.cell? ⟨w.heap.size, 0, none⟩ = some (.int .i64 a) ∧ w'.cell? ⟨w.heap.size, 1, none⟩ = some (.int .i64 b) ∧ w'.cell? ⟨w.heap.size + 1, 0, none⟩ = some (.int .i64 c) ∧ w'.cell? ⟨w.heap.size + 1, 1, none⟩ = some (.int .i64 d)) (go_keep) (fail)
  all_goals go_wp2_with (go_at_call 191; refine (anyNumber_any _).mono ?_; rintro e w1 ⟨rfl, rfl⟩)
  exact bodyPost_ret (v := .agg #[.int .u64 (a - d), .int .u64 (IntKind.u64.wrap (b - c))]) (by simp [results, Tryz.results190, go_sem]) rfl ⟨rfl, (bel3 _ _ _ _).drew⟩

theorem numbersOf_any (z : Nat) (w : World) (hz : z = 1 ∨ z = 2 ∨ z = 4 ∨ z = 8) :
  Calls Tryz.prog 163 #[.int .i64 z] w fun e w' => e = .returned (.agg #[.int .u64 0, .int .u64 (2 ^ (8 * z) - 1)]) ∧ Below w.heap.size w w' := by
 have hf := fieldSp
 rcases hz with rfl | rfl | rfl | rfl
 all_goals
  go_enter Tryz.func163, Tryz.ntmps163
  go_wp2_with (go_at_call 191; refine (anyNumber_any _).mono ?_; rintro e w1 ⟨rfl, rfl⟩)
 all_goals first
  | exact bodyPost_ret (v := .agg #[.int .u64 0, .int .u64 255]) (by simp [results, Tryz.results163, go_sem]) rfl ⟨rfl, ((Below.refl _ _).alloc (Nat.le_refl _) _).alloc (by simp) _⟩
  | exact bodyPost_ret (v := .agg #[.int .u64 0, .int .u64 65535]) (by simp [results, Tryz.results163, go_sem]) rfl ⟨rfl, ((Below.refl _ _).alloc (Nat.le_refl _) _).alloc (by simp) _⟩
  | exact bodyPost_ret (v := .agg #[.int .u64 0, .int .u64 4294967295]) (by simp [results, Tryz.results163, go_sem]) rfl ⟨rfl, ((Below.refl _ _).alloc (Nat.le_refl _) _).alloc (by simp) _⟩
  | exact bodyPost_ret (v := .agg #[.int .u64 0, .int .u64 18446744073709551615]) (by simp [results, Tryz.results163, go_sem]) rfl ⟨rfl, ((Below.refl _ _).alloc (Nat.le_refl _) _).alloc (by simp) _⟩

def secR (op : Int) (src : Nat) : Nat := if 128 ≤ op then 8 else src

theorem isecond_any (op d : Int) (src : Nat) (o n : Int) (w : World) :
  Calls Tryz.prog 151 #[.agg #[.int .u8 op, .int .u8 d, .int .u8 src, .int .i16 o, .int .i32 n]] w fun e w' => e = .returned (.int .u8 (secR op src)) ∧ Below w.heap.size w w' := by
 by_cases h : 128 ≤ op
 ·rw [show secR op src = 8 from if_pos h]
  go_enter Tryz.func151, Tryz.ntmps151
  go_wp2
  go_ret
  exact ⟨rfl, (Below.refl _ _).alloc (Nat.le_refl _) _⟩
 ·rw [show secR op src = src from if_neg h]
  have h' : op < 128 := by omega
  go_enter Tryz.func151, Tryz.ntmps151
  go_wp2
  go_ret
  exact ⟨rfl, (Below.refl _ _).alloc (Nat.le_refl _) _⟩
end Go.Proofs.YtoobileejdhikaaGreat

namespace Go.Proofs.YtoobileejdhikaaGreat
set_option maxRecDepth 100000
set_option maxHeartbeats 1000000
open Go.RowKit

def reachB (v : KV) (frame off : Int) (size : Nat) : Bool :=
 (v.kind == 2 && decide (0 ≤ v.pl + off) && decide (v.pm + off + size ≤ frame)) || (v.kind == 3 && decide (-32 ≤ v.pl + off) && decide (v.pm + off + size ≤ 0))

theorem reach_no0 (s : KS) (r : Nat) (off : Int) (size : Nat) (w : World) (hr : r < 9) (h0 : (s.v r).kind = 0) :
  Calls Tryz.prog 162 #[.agg s.cells, .int .u8 r, .int .i16 off, .int .i64 size] w fun e w' => e = .panicked (thrown 3 s.at1) ∧ Below w.heap.size w w' := by
 go_enter Tryz.func162, Tryz.ntmps162
 go_wp2_with (first | refine wpK_load rfl _ rfl w.heap.size rfl s (by with_reducible exact KAt.new w s) ?_ | (go_at_call 150; refine (read_no s r _ hr h0).mono ?_; rintro e w1 ⟨rfl, hb1⟩))
 exact ⟨rfl, rfl, ((Below.refl _ _).alloc (Nat.le_refl _) _).trans (hb1.mono (by simp))⟩

theorem reach_any (s : KS) (r : Nat) (off : Int) (size : Nat) (w : World) (hr : r < 9) (h0 : (s.v r).kind ≠ 0) (_o1 : -32768 ≤ off) (_o2 : off ≤ 32767) (_z : size ≤ 8) (_b1 : -1000 ≤ (s.v r).pl) (_b2 : (s.v r).pl ≤ 1000) (_b3 : -1000 ≤ (s.v r).pm) (_b4 : (s.v r).pm ≤ 1000) :
  Calls Tryz.prog 162 #[.agg s.cells, .int .u8 r, .int .i16 off, .int .i64 size] w fun e w' => e = (if reachB (s.v r) s.frame off size then .returned (.tuple #[]) else .panicked (thrown 3 s.at1)) ∧ Below w.heap.size w w' := by
 have CR := fun w => read_ok s r w hr h0
 have H0 := hideK h0
 clear h0
 unfold KV.arr at CR
 generalize s.v r = v at *
 obtain ⟨k, a, b, c, d, e1⟩ := v
 simp only at *
 by_cases hk2 : k = 2
 ·subst hk2
  have j3 : ((2 : Int) == 3) = false := rfl
  by_cases p1 : 0 ≤ c + off
  ·have g1 : decide (0 ≤ c + off) = true := by simpa using p1
   by_cases p2 : d + off + size ≤ s.frame
   ·have g2 : decide (d + off + size ≤ s.frame) = true := by simpa using p2
    rw [if_pos (by simp [reachB, *]; try omega)]
    go_enter Tryz.func162, Tryz.ntmps162
    go_wp2_with (first | refine wpK_load rfl _ rfl w.heap.size rfl s (by first | with_reducible exact KAt.new w s | exact (k1.alloc _).drew) ?_ | (go_at_call 150; refine (CR _).mono ?_; rintro e w1 ⟨rfl, hb1⟩; have k1 := (KAt.new w s).keep hb1; have f1 := (fun X => cellAlloc X k1.frame); have n1 : ¬ w1.heap.size = w.heap.size := Nat.ne_of_gt k1.lt; have hB1 : Below w.heap.size w w1 := ((Below.refl _ _).alloc (Nat.le_refl _) _).trans (hb1.mono (by simp))) | (go_at_call 185; refine (harm_any s _).mono ?_; rintro e w9 ⟨rfl, hb9⟩))
    go_region_held3 (fun w' => w'.cell? ⟨w1.heap.size, 3, none⟩ = some (.int .i64 c) ∧ w'.cell? ⟨w1.heap.size, 4, none⟩ = some (.int .i64 d)) (go_keep) (fail)
    all_goals go_wp2_with (first | refine wpK_load rfl _ rfl w.heap.size rfl s (by first | with_reducible exact KAt.new w s | exact (k1.alloc _).drew) ?_ | (go_at_call 150; refine (CR _).mono ?_; rintro e w1 ⟨rfl, hb1⟩; have k1 := (KAt.new w s).keep hb1; have f1 := (fun X => cellAlloc X k1.frame); have n1 : ¬ w1.heap.size = w.heap.size := Nat.ne_of_gt k1.lt; have hB1 : Below w.heap.size w w1 := ((Below.refl _ _).alloc (Nat.le_refl _) _).trans (hb1.mono (by simp))) | (go_at_call 185; refine (harm_any s _).mono ?_; rintro e w9 ⟨rfl, hb9⟩))
    go_end0
    exact ⟨rfl, (hB1.alloc hB1.size _).drew⟩
   ·have g2 : decide (d + off + size ≤ s.frame) = false := by simpa using p2
    rw [if_neg (by simp [reachB, *]; try omega)]
    go_enter Tryz.func162, Tryz.ntmps162
    go_wp2_with (first | refine wpK_load rfl _ rfl w.heap.size rfl s (by first | with_reducible exact KAt.new w s | exact (k1.alloc _).drew) ?_ | (go_at_call 150; refine (CR _).mono ?_; rintro e w1 ⟨rfl, hb1⟩; have k1 := (KAt.new w s).keep hb1; have f1 := (fun X => cellAlloc X k1.frame); have n1 : ¬ w1.heap.size = w.heap.size := Nat.ne_of_gt k1.lt; have hB1 : Below w.heap.size w w1 := ((Below.refl _ _).alloc (Nat.le_refl _) _).trans (hb1.mono (by simp))) | (go_at_call 185; refine (harm_any s _).mono ?_; rintro e w9 ⟨rfl, hb9⟩))
    go_region_held3 (fun w' => w'.cell? ⟨w1.heap.size, 3, none⟩ = some (.int .i64 c) ∧ w'.cell? ⟨w1.heap.size, 4, none⟩ = some (.int .i64 d)) (go_keep) (fail)
    all_goals go_wp2_with (first | refine wpK_load rfl _ rfl w.heap.size rfl s (by first | with_reducible exact KAt.new w s | exact (k1.alloc _).drew) ?_ | (go_at_call 150; refine (CR _).mono ?_; rintro e w1 ⟨rfl, hb1⟩; have k1 := (KAt.new w s).keep hb1; have f1 := (fun X => cellAlloc X k1.frame); have n1 : ¬ w1.heap.size = w.heap.size := Nat.ne_of_gt k1.lt; have hB1 : Below w.heap.size w w1 := ((Below.refl _ _).alloc (Nat.le_refl _) _).trans (hb1.mono (by simp))) | (go_at_call 185; refine (harm_any s _).mono ?_; rintro e w9 ⟨rfl, hb9⟩))
    exact ⟨rfl, rfl, ((hB1.alloc hB1.size _).drew).trans (hb9.mono (by have := hB1.size; show w.heap.size ≤ (w1.alloc _).heap.size; simp; omega))⟩
  ·have g1 : decide (0 ≤ c + off) = false := by simpa using p1
   rw [if_neg (by simp [reachB, *]; try omega)]
   go_enter Tryz.func162, Tryz.ntmps162
   go_wp2_with (first | refine wpK_load rfl _ rfl w.heap.size rfl s (by first | with_reducible exact KAt.new w s | exact (k1.alloc _).drew) ?_ | (go_at_call 150; refine (CR _).mono ?_; rintro e w1 ⟨rfl, hb1⟩; have k1 := (KAt.new w s).keep hb1; have f1 := (fun X => cellAlloc X k1.frame); have n1 : ¬ w1.heap.size = w.heap.size := Nat.ne_of_gt k1.lt; have hB1 : Below w.heap.size w w1 := ((Below.refl _ _).alloc (Nat.le_refl _) _).trans (hb1.mono (by simp))) | (go_at_call 185; refine (harm_any s _).mono ?_; rintro e w9 ⟨rfl, hb9⟩))
   go_region_held3 (fun w' => w'.cell? ⟨w1.heap.size, 3, none⟩ = some (.int .i64 c) ∧ w'.cell? ⟨w1.heap.size, 4, none⟩ = some (.int .i64 d)) (go_keep) (fail)
   all_goals go_wp2_with (first | refine wpK_load rfl _ rfl w.heap.size rfl s (by first | with_reducible exact KAt.new w s | exact (k1.alloc _).drew) ?_ | (go_at_call 150; refine (CR _).mono ?_; rintro e w1 ⟨rfl, hb1⟩; have k1 := (KAt.new w s).keep hb1; have f1 := (fun X => cellAlloc X k1.frame); have n1 : ¬ w1.heap.size = w.heap.size := Nat.ne_of_gt k1.lt; have hB1 : Below w.heap.size w w1 := ((Below.refl _ _).alloc (Nat.le_refl _) _).trans (hb1.mono (by simp))) | (go_at_call 185; refine (harm_any s _).mono ?_; rintro e w9 ⟨rfl, hb9⟩))
   exact ⟨rfl, rfl, ((hB1.alloc hB1.size _).drew).trans (hb9.mono (by have := hB1.size; show w.heap.size ≤ (w1.alloc _).heap.size; simp; omega))⟩
 by_cases hk3 : k = 3
 ·subst hk3
  have j3 : ((3 : Int) == 2) = false := rfl
  by_cases p1 : -32 ≤ c + off
  ·have g1 : decide (-32 ≤ c + off) = true := by simpa using p1
   by_cases p2 : d + off + size ≤ 0
   ·have g2 : decide (d + off + size ≤ 0) = true := by simpa using p2
    rw [if_pos (by simp [reachB, *]; try omega)]
    go_enter Tryz.func162, Tryz.ntmps162
    go_wp2_with (first | refine wpK_load rfl _ rfl w.heap.size rfl s (by first | with_reducible exact KAt.new w s | exact (k1.alloc _).drew) ?_ | (go_at_call 150; refine (CR _).mono ?_; rintro e w1 ⟨rfl, hb1⟩; have k1 := (KAt.new w s).keep hb1; have f1 := (fun X => cellAlloc X k1.frame); have n1 : ¬ w1.heap.size = w.heap.size := Nat.ne_of_gt k1.lt; have hB1 : Below w.heap.size w w1 := ((Below.refl _ _).alloc (Nat.le_refl _) _).trans (hb1.mono (by simp))) | (go_at_call 185; refine (harm_any s _).mono ?_; rintro e w9 ⟨rfl, hb9⟩))
    go_region_held3 (fun w' => w'.cell? ⟨w1.heap.size, 3, none⟩ = some (.int .i64 c) ∧ w'.cell? ⟨w1.heap.size, 4, none⟩ = some (.int .i64 d)) (go_keep) (fail)
    all_goals go_wp2_with (first | refine wpK_load rfl _ rfl w.heap.size rfl s (by first | with_reducible exact KAt.new w s | exact (k1.alloc _).drew) ?_ | (go_at_call 150; refine (CR _).mono ?_; rintro e w1 ⟨rfl, hb1⟩; have k1 := (KAt.new w s).keep hb1; have f1 := (fun X => cellAlloc X k1.frame); have n1 : ¬ w1.heap.size = w.heap.size := Nat.ne_of_gt k1.lt; have hB1 : Below w.heap.size w w1 := ((Below.refl _ _).alloc (Nat.le_refl _) _).trans (hb1.mono (by simp))) | (go_at_call 185; refine (harm_any s _).mono ?_; rintro e w9 ⟨rfl, hb9⟩))
    go_end0
    exact ⟨rfl, (hB1.alloc hB1.size _).drew⟩
   ·have g2 : decide (d + off + size ≤ 0) = false := by simpa using p2
    rw [if_neg (by simp [reachB, *]; try omega)]
    go_enter Tryz.func162, Tryz.ntmps162
    go_wp2_with (first | refine wpK_load rfl _ rfl w.heap.size rfl s (by first | with_reducible exact KAt.new w s | exact (k1.alloc _).drew) ?_ | (go_at_call 150; refine (CR _).mono ?_; rintro e w1 ⟨rfl, hb1⟩; have k1 := (KAt.new w s).keep hb1; have f1 := (fun X => cellAlloc X k1.frame); have n1 : ¬ w1.heap.size = w.heap.size := Nat.ne_of_gt k1.lt; have hB1 : Below w.heap.size w w1 := ((Below.refl _ _).alloc (Nat.le_refl _) _).trans (hb1.mono (by simp))) | (go_at_call 185; refine (harm_any s _).mono ?_; rintro e w9 ⟨rfl, hb9⟩))
    go_region_held3 (fun w' => w'.cell? ⟨w1.heap.size, 3, none⟩ = some (.int .i64 c) ∧ w'.cell? ⟨w1.heap.size, 4, none⟩ = some (.int .i64 d)) (go_keep) (fail)
    all_goals go_wp2_with (first | refine wpK_load rfl _ rfl w.heap.size rfl s (by first | with_reducible exact KAt.new w s | exact (k1.alloc _).drew) ?_ | (go_at_call 150; refine (CR _).mono ?_; rintro e w1 ⟨rfl, hb1⟩; have k1 := (KAt.new w s).keep hb1; have f1 := (fun X => cellAlloc X k1.frame); have n1 : ¬ w1.heap.size = w.heap.size := Nat.ne_of_gt k1.lt; have hB1 : Below w.heap.size w w1 := ((Below.refl _ _).alloc (Nat.le_refl _) _).trans (hb1.mono (by simp))) | (go_at_call 185; refine (harm_any s _).mono ?_; rintro e w9 ⟨rfl, hb9⟩))
    exact ⟨rfl, rfl, ((hB1.alloc hB1.size _).drew).trans (hb9.mono (by have := hB1.size; show w.heap.size ≤ (w1.alloc _).heap.size; simp; omega))⟩
  ·have g1 : decide (-32 ≤ c + off) = false := by simpa using p1
   rw [if_neg (by simp [reachB, *]; try omega)]
   go_enter Tryz.func162, Tryz.ntmps162
   go_wp2_with (first | refine wpK_load rfl _ rfl w.heap.size rfl s (by first | with_reducible exact KAt.new w s | exact (k1.alloc _).drew) ?_ | (go_at_call 150; refine (CR _).mono ?_; rintro e w1 ⟨rfl, hb1⟩; have k1 := (KAt.new w s).keep hb1; have f1 := (fun X => cellAlloc X k1.frame); have n1 : ¬ w1.heap.size = w.heap.size := Nat.ne_of_gt k1.lt; have hB1 : Below w.heap.size w w1 := ((Below.refl _ _).alloc (Nat.le_refl _) _).trans (hb1.mono (by simp))) | (go_at_call 185; refine (harm_any s _).mono ?_; rintro e w9 ⟨rfl, hb9⟩))
   go_region_held3 (fun w' => w'.cell? ⟨w1.heap.size, 3, none⟩ = some (.int .i64 c) ∧ w'.cell? ⟨w1.heap.size, 4, none⟩ = some (.int .i64 d)) (go_keep) (fail)
   all_goals go_wp2_with (first | refine wpK_load rfl _ rfl w.heap.size rfl s (by first | with_reducible exact KAt.new w s | exact (k1.alloc _).drew) ?_ | (go_at_call 150; refine (CR _).mono ?_; rintro e w1 ⟨rfl, hb1⟩; have k1 := (KAt.new w s).keep hb1; have f1 := (fun X => cellAlloc X k1.frame); have n1 : ¬ w1.heap.size = w.heap.size := Nat.ne_of_gt k1.lt; have hB1 : Below w.heap.size w w1 := ((Below.refl _ _).alloc (Nat.le_refl _) _).trans (hb1.mono (by simp))) | (go_at_call 185; refine (harm_any s _).mono ?_; rintro e w9 ⟨rfl, hb9⟩))
   exact ⟨rfl, rfl, ((hB1.alloc hB1.size _).drew).trans (hb9.mono (by have := hB1.size; show w.heap.size ≤ (w1.alloc _).heap.size; simp; omega))⟩
 have j2 : (k == 2) = false := by simpa using hk2
 have j3 : (k == 3) = false := by simpa using hk3
 rw [if_neg (by simp [reachB, *]; try omega)]
 go_enter Tryz.func162, Tryz.ntmps162
 go_wp2_with (first | refine wpK_load rfl _ rfl w.heap.size rfl s (by first | with_reducible exact KAt.new w s | exact (k1.alloc _).drew) ?_ | (go_at_call 150; refine (CR _).mono ?_; rintro e w1 ⟨rfl, hb1⟩; have k1 := (KAt.new w s).keep hb1; have f1 := (fun X => cellAlloc X k1.frame); have n1 : ¬ w1.heap.size = w.heap.size := Nat.ne_of_gt k1.lt; have hB1 : Below w.heap.size w w1 := ((Below.refl _ _).alloc (Nat.le_refl _) _).trans (hb1.mono (by simp))) | (go_at_call 185; refine (harm_any s _).mono ?_; rintro e w9 ⟨rfl, hb9⟩))
 go_region_held3 (fun w' => w'.cell? ⟨w1.heap.size, 3, none⟩ = some (.int .i64 c) ∧ w'.cell? ⟨w1.heap.size, 4, none⟩ = some (.int .i64 d)) (go_keep) (fail)
 all_goals go_wp2_with (first | refine wpK_load rfl _ rfl w.heap.size rfl s (by first | with_reducible exact KAt.new w s | exact (k1.alloc _).drew) ?_ | (go_at_call 150; refine (CR _).mono ?_; rintro e w1 ⟨rfl, hb1⟩; have k1 := (KAt.new w s).keep hb1; have f1 := (fun X => cellAlloc X k1.frame); have n1 : ¬ w1.heap.size = w.heap.size := Nat.ne_of_gt k1.lt; have hB1 : Below w.heap.size w w1 := ((Below.refl _ _).alloc (Nat.le_refl _) _).trans (hb1.mono (by simp))) | (go_at_call 185; refine (harm_any s _).mono ?_; rintro e w9 ⟨rfl, hb9⟩))
 exact ⟨rfl, rfl, ((hB1.alloc hB1.size _).drew).trans (hb9.mono (by have := hB1.size; show w.heap.size ≤ (w1.alloc _).heap.size; simp; omega))⟩
end Go.Proofs.YtoobileejdhikaaGreat
