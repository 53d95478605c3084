/-
  The program's machine: what comes of two numbers, how they stand to each other; Mov, Jump, Exit, Call carried out.
  What carries out an instruction: Mov, the operations on two numbers, Load, Store, Jump, the comparisons, Call, Exit.
  What carries out an instruction: Load, Store, the comparisons.
-/
import Derived.Test.YtoobileejdhikaaGreatGc5
import Derived.Test.YtoobileejdhikaaGreatGa5
import Derived.Test.YtoobileejdhikaaGreatGa4
import Derived.Test.YtoobileejdhikaaGreatGa0
namespace Go.Proofs.YtoobileejdhikaaGreat
set_option maxRecDepth 100000
set_option maxHeartbeats 400000
open Go.RowKit
attribute [local go_sem ↓] Go.wp_at_zero Go.wp_at_succ

def wkR (op : Nat) (a b : Int) : Int :=
 if op = 2 then w64 (a + b) else if op = 3 then w64 (a - b) else if op = 4 then w64 (a * b)
 else if op = 5 then (if b = 0 then 0 else a / b) else if op = 6 then (if b = 0 then a else a % b)
 else if op = 7 then bits .and .u64 a b else if op = 8 then bits .or .u64 a b else if op = 9 then bits .xor .u64 a b
 else if op = 10 then w64 (a * 2 ^ (b % 64).toNat) else a / 2 ^ (b % 64).toNat
def cpR (op : Nat) (a b : Int) : Bool :=
 if op = 31 then a == b else if op = 32 then a != b else if op = 33 then decide (b < a) else if op = 34 then decide (b ≤ a) else if op = 35 then decide (a < b) else decide (a ≤ b)

theorem mAdd_any (a b : Int) (w : World) :
  Calls Tryz.prog 85 #[.int .u64 a, .int .u64 b] w fun e w' => e = .returned (.int .u64 (wkR 2 a b)) ∧ w = w' := by
 go_enter Tryz.func85, Tryz.ntmps85
 go_wp2
 go_ret
 exact ⟨rfl, rfl⟩

theorem mSub_any (a b : Int) (w : World) :
  Calls Tryz.prog 87 #[.int .u64 a, .int .u64 b] w fun e w' => e = .returned (.int .u64 (wkR 3 a b)) ∧ w = w' := by
 go_enter Tryz.func87, Tryz.ntmps87
 go_wp2
 go_ret
 exact ⟨rfl, rfl⟩

theorem mMul_any (a b : Int) (w : World) :
  Calls Tryz.prog 90 #[.int .u64 a, .int .u64 b] w fun e w' => e = .returned (.int .u64 (wkR 4 a b)) ∧ w = w' := by
 go_enter Tryz.func90, Tryz.ntmps90
 go_wp2
 go_ret
 exact ⟨rfl, rfl⟩

theorem mAnd_any (a b : Int) (w : World) :
  Calls Tryz.prog 96 #[.int .u64 a, .int .u64 b] w fun e w' => e = .returned (.int .u64 (wkR 7 a b)) ∧ w = w' := by
 go_enter Tryz.func96, Tryz.ntmps96
 go_wp2
 go_ret
 exact ⟨rfl, rfl⟩

theorem mOr_any (a b : Int) (w : World) :
  Calls Tryz.prog 98 #[.int .u64 a, .int .u64 b] w fun e w' => e = .returned (.int .u64 (wkR 8 a b)) ∧ w = w' := by
 go_enter Tryz.func98, Tryz.ntmps98
 go_wp2
 go_ret
 exact ⟨rfl, rfl⟩

theorem mXor_any (a b : Int) (w : World) :
  Calls Tryz.prog 100 #[.int .u64 a, .int .u64 b] w fun e w' => e = .returned (.int .u64 (wkR 9 a b)) ∧ w = w' := by
 go_enter Tryz.func100, Tryz.ntmps100
 go_wp2
 go_ret
 exact ⟨rfl, rfl⟩

theorem mDiv_any (a b : Int) (w : World) (a0 : 0 ≤ a) (a1 : a < 18446744073709551616) (b0 : 0 ≤ b) (b1 : b < 18446744073709551616) :
  Calls Tryz.prog 92 #[.int .u64 a, .int .u64 b] w fun e w' => e = .returned (.int .u64 (wkR 5 a b)) ∧ w = w' := by
 have HB := hideX (And.intro a1 b1)
 clear a1 b1
 by_cases hb : b = 0
 ·subst hb
  go_enter Tryz.func92, Tryz.ntmps92
  go_wp2
  go_ret
  exact ⟨rfl, rfl⟩
 ·have hb' : (b == 0) = false := by simpa using hb
  go_enter Tryz.func92, Tryz.ntmps92
  go_wp2
  go_ret
  exact ⟨ret_int (by simp only [wkR, hb, if_false]; simp; rw [Int.tdiv_eq_ediv_of_nonneg a0]; have h1 := Int.ediv_nonneg a0 b0; have h2 := Int.ediv_le_self b a0; have := HB.out; show w64 _ = _; rw [w64_eq]; omega), rfl⟩

theorem mMod_any (a b : Int) (w : World) (a0 : 0 ≤ a) (a1 : a < 18446744073709551616) (b0 : 0 ≤ b) (b1 : b < 18446744073709551616) :
  Calls Tryz.prog 94 #[.int .u64 a, .int .u64 b] w fun e w' => e = .returned (.int .u64 (wkR 6 a b)) ∧ w = w' := by
 have HB := hideX (And.intro a1 b1)
 clear a1 b1
 by_cases hb : b = 0
 ·subst hb
  go_enter Tryz.func94, Tryz.ntmps94
  go_wp2
  go_ret
  exact ⟨rfl, rfl⟩
 ·have hb' : (b == 0) = false := by simpa using hb
  go_enter Tryz.func94, Tryz.ntmps94
  go_wp2
  go_ret
  exact ⟨ret_int (by simp [wkR, hb]), rfl⟩

theorem mShl_any (a b : Int) (w : World) (_a0 : 0 ≤ a) (a1 : a < 18446744073709551616) (b0 : 0 ≤ b) (b1 : b < 18446744073709551616) :
  Calls Tryz.prog 102 #[.int .u64 a, .int .u64 b] w fun e w' => e = .returned (.int .u64 (wkR 10 a b)) ∧ w = w' := by
 have a63 := and63 b b0 b1
 have c0 : (0 : Int) ≤ b % 64 := by omega
 have c1 : b % 64 < 64 := by omega
 have HB := hideX (And.intro a1 b1)
 clear a1 b1 b0
 go_enter Tryz.func102, Tryz.ntmps102
 go_wp2
 go_ret
 exact ⟨rfl, rfl⟩

theorem mShr_any (a b : Int) (w : World) (_a0 : 0 ≤ a) (a1 : a < 18446744073709551616) (b0 : 0 ≤ b) (b1 : b < 18446744073709551616) :
  Calls Tryz.prog 104 #[.int .u64 a, .int .u64 b] w fun e w' => e = .returned (.int .u64 (wkR 11 a b)) ∧ w = w' := by
 have a63 := and63 b b0 b1
 have c0 : (0 : Int) ≤ b % 64 := by omega
 have c1 : b % 64 < 64 := by omega
 have HB := hideX (And.intro a1 b1)
 clear a1 b1 b0
 go_enter Tryz.func104, Tryz.ntmps104
 go_wp2
 go_ret
 exact ⟨rfl, rfl⟩

theorem mEqual_any (a b : Int) (w : World) :
  Calls Tryz.prog 120 #[.int .u64 a, .int .u64 b] w fun e w' => e = .returned (.bool (cpR 31 a b)) ∧ w = w' := by
 go_enter Tryz.func120, Tryz.ntmps120
 go_wp2
 go_ret
 exact ⟨rfl, rfl⟩

theorem mNotEqual_any (a b : Int) (w : World) :
  Calls Tryz.prog 121 #[.int .u64 a, .int .u64 b] w fun e w' => e = .returned (.bool (cpR 32 a b)) ∧ w = w' := by
 go_enter Tryz.func121, Tryz.ntmps121
 go_wp2
 go_ret
 exact ⟨rfl, rfl⟩

theorem mGreater_any (a b : Int) (w : World) :
  Calls Tryz.prog 124 #[.int .u64 a, .int .u64 b] w fun e w' => e = .returned (.bool (cpR 33 a b)) ∧ w = w' := by
 go_enter Tryz.func124, Tryz.ntmps124
 go_wp2
 go_ret
 exact ⟨rfl, rfl⟩

theorem mNotLess_any (a b : Int) (w : World) :
  Calls Tryz.prog 127 #[.int .u64 a, .int .u64 b] w fun e w' => e = .returned (.bool (cpR 34 a b)) ∧ w = w' := by
 go_enter Tryz.func127, Tryz.ntmps127
 go_wp2
 go_ret
 exact ⟨rfl, rfl⟩

theorem mLess_any (a b : Int) (w : World) :
  Calls Tryz.prog 128 #[.int .u64 a, .int .u64 b] w fun e w' => e = .returned (.bool (cpR 35 a b)) ∧ w = w' := by
 go_enter Tryz.func128, Tryz.ntmps128
 go_wp2
 go_ret
 exact ⟨rfl, rfl⟩

theorem mNotGreater_any (a b : Int) (w : World) :
  Calls Tryz.prog 129 #[.int .u64 a, .int .u64 b] w fun e w' => e = .returned (.bool (cpR 36 a b)) ∧ w = w' := by
 go_enter Tryz.func129, Tryz.ntmps129
 go_wp2
 go_ret
 exact ⟨rfl, rfl⟩
end Go.Proofs.YtoobileejdhikaaGreat

namespace Go.Proofs.YtoobileejdhikaaGreat
set_option maxRecDepth 100000
set_option maxHeartbeats 1000000
open Go.RowKit
attribute [local go_sem ↓] Go.wp_at_zero Go.wp_at_succ

theorem doJump_any (op d c o n : Int) (g : Nat) (s : MS) (w : World) (h : XAt w g s) (o1 : -32768 ≤ o) (o2 : o ≤ 32767) :
  Calls Tryz.prog 114 #[.agg #[.int .u8 op, .int .u8 d, .int .u8 c, .int .i16 o, .int .i32 n], .pointer (some ⟨g, 0, none⟩)] w fun e w' => e = .returned (.int .i64 o) ∧ XAt w' g s ∧ Tch g g w w' := by
 have HX := hideX h
 clear h
 go_enter Tryz.func114, Tryz.ntmps114
 go_wp2
 go_ret
 exact ⟨rfl, HX.out.alloc _, (Tch.refl _ _ _).alloc _⟩

theorem doExit_any (op d c o n : Int) (g : Nat) (s : MS) (w : World) (h : XAt w g s) :
  Calls Tryz.prog 136 #[.agg #[.int .u8 op, .int .u8 d, .int .u8 c, .int .i16 o, .int .i32 n], .pointer (some ⟨g, 0, none⟩)] w fun e w' => e = .returned (.int .i64 64) ∧ XAt w' g s ∧ Tch g g w w' := by
 have HX := hideX h
 clear h
 go_enter Tryz.func136, Tryz.ntmps136
 go_wp2
 go_ret
 exact ⟨rfl, HX.out.alloc _, (Tch.refl _ _ _).alloc _⟩

def MS.call (s : MS) (n : Int) : MS := if n = 2 then s.setV 0 s.f else if n = 3 then s.setV 0 s.l else s.shrink

theorem doCall_any (op d c o n : Int) (g : Nat) (s : MS) (w : World) (h : XAt w g s) (h0 : 0 ≤ s.f) (h1 : s.f ≤ s.l) (h2 : s.l ≤ 2000) (h3 : 0 ≤ s.v 1) :
  Calls Tryz.prog 133 #[.agg #[.int .u8 op, .int .u8 d, .int .u8 c, .int .i16 o, .int .i32 n], .pointer (some ⟨g, 0, none⟩)] w fun e w' => e = .returned (.int .i64 0) ∧ XAt w' g (s.call n) ∧ Tch g g w w' := by
 have C := fun wx (hx : XAt wx g s) => xshrink_any g s wx hx h0 h1 h2 h3
 have HX := hideX h
 clear h h0 h1 h2 h3
 by_cases n2 : n = 2
 ·subst n2
  go_enter Tryz.func133, Tryz.ntmps133
  go_wp2_with (go_at_call 177; refine (xfirst_any g s _ (HX.out.alloc _)).mono ?_; rintro e w' ⟨rfl, hx, ht⟩)
  go_ret
  exact ⟨rfl, hx, ((Tch.refl _ _ _).alloc _).trans ht⟩
 ·have q2 : (n == 2) = false := by simpa using n2
  by_cases n3 : n = 3
  ·subst n3
   go_enter Tryz.func133, Tryz.ntmps133
   go_wp2_with (go_at_call 178; refine (xlast_any g s _ (HX.out.alloc _)).mono ?_; rintro e w' ⟨rfl, hx, ht⟩)
   go_ret
   exact ⟨rfl, hx, ((Tch.refl _ _ _).alloc _).trans ht⟩
  ·have q3 : (n == 3) = false := by simpa using n3
   have HE : Hid (s.call n = s.shrink) := by show _ = _; simp [MS.call, n2, n3]
   rw [HE.out]
   clear HE
   go_enter Tryz.func133, Tryz.ntmps133
   go_wp2_with (go_at_call 179; refine (C _ (HX.out.alloc _)).mono ?_; rintro e w' ⟨rfl, hx, ht⟩)
   go_ret
   exact ⟨rfl, hx, ((Tch.refl _ _ _).alloc _).trans ht⟩


theorem doMov_any (op : Int) (d c : Nat) (o n : Int) (g : Nat) (s : MS) (w : World) (h : XAt w g s) (hd : d < 9) (hc : secR op c < 9) :
  Calls Tryz.prog 82 #[.agg #[.int .u8 op, .int .u8 d, .int .u8 c, .int .i16 o, .int .i32 n], .pointer (some ⟨g, 0, none⟩)] w fun e w' => e = .returned (.int .i64 0) ∧ XAt w' g (s.setV d (s.v (secR op c))) ∧ Tch g g w w' := by
 have C := fun wx => isecond_any op d c o n wx
 generalize secR op c = r at hc C ⊢
 have lt := h.lt
 have ng : ¬ w.heap.size = g := by omega
 have d0 : (0 : Int) ≤ d := by omega
 have d1 : (d : Int) < 9 := by omega
 have r0 : (0 : Int) ≤ r := by omega
 have r1 : (r : Int) < 9 := by omega
 have HX := hideX h
 clear h
 go_enter Tryz.func82, Tryz.ntmps82
 go_wp2
 generalize hW : w.alloc (Obj.cells #[Value.int IntKind.u8 op, Value.int IntKind.u8 d, Value.int IntKind.u8 c, Value.int IntKind.i16 o, Value.int IntKind.i32 n] 121) = W0
 have b0 : W0.cell? ⟨w.heap.size, 0, none⟩ = some (.int .u8 op) := by subst hW; simp [go_sem]
 have b1 : W0.cell? ⟨w.heap.size, 1, none⟩ = some (.int .u8 d) := by subst hW; simp [go_sem]
 have b2 : W0.cell? ⟨w.heap.size, 2, none⟩ = some (.int .u8 c) := by subst hW; simp [go_sem]
 have b3 : W0.cell? ⟨w.heap.size, 3, none⟩ = some (.int .i16 o) := by subst hW; simp [go_sem]
 have b4 : W0.cell? ⟨w.heap.size, 4, none⟩ = some (.int .i32 n) := by subst hW; simp [go_sem]
 have x0 : XAt W0 g s := by subst hW; exact HX.out.alloc _
 have t0 : Tch g g w W0 := by subst hW; exact (Tch.refl _ _ _).alloc _
 clear hW
 refine wp_region_noPanic ?_
 refine wp_region_held_drew (S := fun w' => w'.cell? ⟨w.heap.size, 0, none⟩ = some (.int .u8 op) ∧ w'.cell? ⟨w.heap.size, 1, none⟩ = some (.int .u8 d) ∧ w'.cell? ⟨w.heap.size, 2, none⟩ = some (.int .u8 c) ∧ w'.cell? ⟨w.heap.size, 3, none⟩ = some (.int .i16 o) ∧ w'.cell? ⟨w.heap.size, 4, none⟩ = some (.int .i32 n)) (by kernel_rfl) ⟨b0, b1, b2, b3, b4⟩ (fun hHeld => ?_)
 have x0 := x0.drew
 have t0 := t0.drew
 refine tkH 0 ?_
 try simp only [Act.put]
 refine tkH 1 ?_
 try simp only [Act.put]
 refine tkH 2 ?_
 try simp only [Act.put]
 refine tkH 3 ?_
 try simp only [Act.put]
 refine tkH 4 ?_
 try simp only [Act.put]
 refine tkH 6 ?_
 try simp only [Act.put]
 refine tkH 7 ?_
 try simp only [Act.put]
 refine tkH 10 ?_
 try simp only [Act.put]
 refine tkH 11 ?_
 try simp only [Act.put]
 refine rdH 5 (fun K hK => ?_)
 go_simp
 refine (C _).mono ?_
 rintro e W1 ⟨rfl, hb⟩
 have x1 := x0.later hb
 have t1 := t0.trans (Tch.of_below hb)
 go_wp2_with fail
 refine hK.out _ _ ?_ (fun hHeld => ?_)
 ·exact ⟨cellKeep hb hHeld.1, cellKeep hb hHeld.2.1, cellKeep hb hHeld.2.2.1, cellKeep hb hHeld.2.2.2.1, cellKeep hb hHeld.2.2.2.2⟩
 clear hK K
 try simp only [Act.put]
 clear hb
 refine tkH 8 ?_
 try simp only [Act.put]
 refine rdH 9 (fun K hK => ?_)
 have cR := x1.v r hc
 go_simp
 clear cR
 refine hK.out _ _ ?_ (fun hHeld => ?_)
 ·exact hHeld
 clear hK K
 try simp only [Act.put]
 refine tkH 12 ?_
 try simp only [Act.put]
 refine rdH 13 (fun K hK => ?_)
 have cD := x1.v d hd
 have zD := x1.z d
 go_simp
 clear cD zD
 have xE := x1.setV d hd (s.v r)
 have tE := t1.setP d (.int .u64 (s.v r))
 refine hK.out _ _ ?_ (fun hHeld => ?_)
 ·exact ⟨(cell_set_blk (by omega)).trans hHeld.1, (cell_set_blk (by omega)).trans hHeld.2.1, (cell_set_blk (by omega)).trans hHeld.2.2.1, (cell_set_blk (by omega)).trans hHeld.2.2.2.1, (cell_set_blk (by omega)).trans hHeld.2.2.2.2⟩
 clear hK K
 try simp only [Act.put]
 refine wpAnyH_done (by kernel_rfl) ?_ _
 refine NoPanic.normal ?_
 go_wp2
 go_ret
 exact ⟨rfl, xE, tE⟩

theorem doWork1_any (op : Int) (d c : Nat) (o n : Int) (g P F : Nat) (f : Int → Int → Int) (s : MS) (w : World) (h : XAt w g s) (hd : d < 9) (hc : secR op c < 9) (hE : ∀ x y w, Sem.run Tryz.prog (callFunc F #[x, y]) w = .ok (.enter F #[x, y]) w) (hP : w.cell? ⟨P, 0, none⟩ = some (.func (.func F) #[] #[])) (hP2 : P ≠ g)
  (C2 : ∀ wx, Calls Tryz.prog F #[.int .u64 (s.v d), .int .u64 (s.v (secR op c))] wx fun e w' => e = .returned (.int .u64 (f (s.v d) (s.v (secR op c)))) ∧ wx = w') :
  Calls Tryz.prog 154 #[.agg #[.int .u8 op, .int .u8 d, .int .u8 c, .int .i16 o, .int .i32 n], .pointer (some ⟨g, 0, none⟩), .pointer (some ⟨P, 0, none⟩)] w fun e w' => e = .returned (.int .i64 0) ∧ XAt w' g (s.setV d (f (s.v d) (s.v (secR op c)))) ∧ Tch g g w w' := by
 have C := fun wx => isecond_any op d c o n wx
 generalize secR op c = r at hc C C2 ⊢
 have lt := h.lt
 have ng : ¬ w.heap.size = g := by omega
 have d0 : (0 : Int) ≤ d := by omega
 have d1 : (d : Int) < 9 := by omega
 have r0 : (0 : Int) ≤ r := by omega
 have r1 : (r : Int) < 9 := by omega
 have HX := hideX h
 clear h
 have np : P ≠ g := hP2
 go_enter Tryz.func154, Tryz.ntmps154
 go_wp2
 generalize hW : w.alloc (Obj.cells #[Value.int IntKind.u8 op, Value.int IntKind.u8 d, Value.int IntKind.u8 c, Value.int IntKind.i16 o, Value.int IntKind.i32 n] 121) = W0
 have b0 : W0.cell? ⟨w.heap.size, 0, none⟩ = some (.int .u8 op) := by subst hW; simp [go_sem]
 have b1 : W0.cell? ⟨w.heap.size, 1, none⟩ = some (.int .u8 d) := by subst hW; simp [go_sem]
 have b2 : W0.cell? ⟨w.heap.size, 2, none⟩ = some (.int .u8 c) := by subst hW; simp [go_sem]
 have b3 : W0.cell? ⟨w.heap.size, 3, none⟩ = some (.int .i16 o) := by subst hW; simp [go_sem]
 have b4 : W0.cell? ⟨w.heap.size, 4, none⟩ = some (.int .i32 n) := by subst hW; simp [go_sem]
 have x0 : XAt W0 g s := by subst hW; exact HX.out.alloc _
 have t0 : Tch g g w W0 := by subst hW; exact (Tch.refl _ _ _).alloc _
 have bP : W0.cell? ⟨P, 0, none⟩ = some (.func (.func F) #[] #[]) := by subst hW; exact cellKeep ((Below.refl _ _).alloc (Nat.le_refl _) _) hP
 clear hW
 refine wp_region_noPanic ?_
 refine wp_region_held_drew (S := fun w' => w'.cell? ⟨w.heap.size, 0, none⟩ = some (.int .u8 op) ∧ w'.cell? ⟨w.heap.size, 1, none⟩ = some (.int .u8 d) ∧ w'.cell? ⟨w.heap.size, 2, none⟩ = some (.int .u8 c) ∧ w'.cell? ⟨w.heap.size, 3, none⟩ = some (.int .i16 o) ∧ w'.cell? ⟨w.heap.size, 4, none⟩ = some (.int .i32 n) ∧ w'.cell? ⟨P, 0, none⟩ = some (.func (.func F) #[] #[])) (by kernel_rfl) ⟨b0, b1, b2, b3, b4, bP⟩ (fun hHeld => ?_)
 have x0 := x0.drew
 have t0 := t0.drew
 refine tkH 0 ?_
 try simp only [Act.put]
 refine tkH 1 ?_
 try simp only [Act.put]
 refine tkH 2 ?_
 try simp only [Act.put]
 refine tkH 3 ?_
 try simp only [Act.put]
 refine tkH 4 ?_
 try simp only [Act.put]
 refine tkH 5 ?_
 try simp only [Act.put]
 refine tkH 6 ?_
 try simp only [Act.put]
 refine tkH 7 ?_
 try simp only [Act.put]
 refine tkH 8 ?_
 try simp only [Act.put]
 refine tkH 9 ?_
 try simp only [Act.put]
 refine tkH 11 ?_
 try simp only [Act.put]
 refine tkH 12 ?_
 try simp only [Act.put]
 refine tkH 14 ?_
 try simp only [Act.put]
 refine tkH 15 ?_
 try simp only [Act.put]
 refine tkH 19 ?_
 try simp only [Act.put]
 refine tkH 20 ?_
 try simp only [Act.put]
 refine wpAnyH_ready (rs := [10, 13]) (by kernel_rfl) (by simp) ?_
 refine AllReadyH.cons rfl (fun K hK => ?_) ?_
 ·have cR := x0.v d hd
  go_simp
  clear cR
  refine hK.out _ _ ?_ (fun hHeld => ?_)
  ·exact hHeld
  clear hK K
  try simp only [Act.put]
  refine rdH 13 (fun K hK => ?_)
  go_simp
  refine (C _).mono ?_
  rintro e W1 ⟨rfl, hb⟩
  have x1 := x0.later hb
  have t1 := t0.trans (Tch.of_below hb)
  go_wp2_with fail
  refine hK.out _ _ ?_ (fun hHeld => ?_)
  ·exact ⟨cellKeep hb hHeld.1, cellKeep hb hHeld.2.1, cellKeep hb hHeld.2.2.1, cellKeep hb hHeld.2.2.2.1, cellKeep hb hHeld.2.2.2.2.1, cellKeep hb hHeld.2.2.2.2.2⟩
  clear hK K
  try simp only [Act.put]
  clear hb
  refine tkH 16 ?_
  try simp only [Act.put]
  refine rdH 17 (fun K hK => ?_)
  have cR := x1.v r hc
  go_simp
  clear cR
  refine hK.out _ _ ?_ (fun hHeld => ?_)
  ·exact hHeld
  clear hK K
  try simp only [Act.put]
  refine rdH 18 (fun K hK => ?_)
  go_simp
  refine (C2 _).mono ?_
  rintro e WX ⟨rfl, rfl⟩
  go_wp2_with fail
  refine hK.out _ _ ?_ (fun hHeld => ?_)
  ·exact hHeld
  clear hK K
  try simp only [Act.put]
  refine tkH 21 ?_
  try simp only [Act.put]
  refine rdH 22 (fun K hK => ?_)
  have cD := x1.v d hd
  have zD := x1.z d
  go_simp
  clear cD zD
  have xE := x1.setV d hd (f (s.v d) (s.v r))
  have tE := t1.setP d (.int .u64 (f (s.v d) (s.v r)))
  refine hK.out _ _ ?_ (fun hHeld => ?_)
  ·exact ⟨(cell_set_blk (by omega)).trans hHeld.1, (cell_set_blk (by omega)).trans hHeld.2.1, (cell_set_blk (by omega)).trans hHeld.2.2.1, (cell_set_blk (by omega)).trans hHeld.2.2.2.1, (cell_set_blk (by omega)).trans hHeld.2.2.2.2.1, (cell_set_blk (by omega)).trans hHeld.2.2.2.2.2⟩
  clear hK K
  try simp only [Act.put]
  refine wpAnyH_done (by kernel_rfl) ?_ _
  refine NoPanic.normal ?_
  go_wp2
  go_ret
  exact ⟨rfl, xE, tE⟩
 refine AllReadyH.cons rfl (fun K hK => ?_) AllReadyH.nil
 ·go_simp
  refine (C _).mono ?_
  rintro e W1 ⟨rfl, hb⟩
  have x1 := x0.later hb
  have t1 := t0.trans (Tch.of_below hb)
  go_wp2_with fail
  refine hK.out _ _ ?_ (fun hHeld => ?_)
  ·exact ⟨cellKeep hb hHeld.1, cellKeep hb hHeld.2.1, cellKeep hb hHeld.2.2.1, cellKeep hb hHeld.2.2.2.1, cellKeep hb hHeld.2.2.2.2.1, cellKeep hb hHeld.2.2.2.2.2⟩
  clear hK K
  try simp only [Act.put]
  clear hb
  refine tkH 16 ?_
  try simp only [Act.put]
  refine wpAnyH_ready (rs := [10, 17]) (by kernel_rfl) (by simp) ?_
  refine AllReadyH.cons rfl (fun K hK => ?_) ?_
  ·have cR := x1.v d hd
   go_simp
   clear cR
   refine hK.out _ _ ?_ (fun hHeld => ?_)
   ·exact hHeld
   clear hK K
   try simp only [Act.put]
   refine rdH 17 (fun K hK => ?_)
   have cR := x1.v r hc
   go_simp
   clear cR
   refine hK.out _ _ ?_ (fun hHeld => ?_)
   ·exact hHeld
   clear hK K
   try simp only [Act.put]
   refine rdH 18 (fun K hK => ?_)
   go_simp
   refine (C2 _).mono ?_
   rintro e WX ⟨rfl, rfl⟩
   go_wp2_with fail
   refine hK.out _ _ ?_ (fun hHeld => ?_)
   ·exact hHeld
   clear hK K
   try simp only [Act.put]
   refine tkH 21 ?_
   try simp only [Act.put]
   refine rdH 22 (fun K hK => ?_)
   have cD := x1.v d hd
   have zD := x1.z d
   go_simp
   clear cD zD
   have xE := x1.setV d hd (f (s.v d) (s.v r))
   have tE := t1.setP d (.int .u64 (f (s.v d) (s.v r)))
   refine hK.out _ _ ?_ (fun hHeld => ?_)
   ·exact ⟨(cell_set_blk (by omega)).trans hHeld.1, (cell_set_blk (by omega)).trans hHeld.2.1, (cell_set_blk (by omega)).trans hHeld.2.2.1, (cell_set_blk (by omega)).trans hHeld.2.2.2.1, (cell_set_blk (by omega)).trans hHeld.2.2.2.2.1, (cell_set_blk (by omega)).trans hHeld.2.2.2.2.2⟩
   clear hK K
   try simp only [Act.put]
   refine wpAnyH_done (by kernel_rfl) ?_ _
   refine NoPanic.normal ?_
   go_wp2
   go_ret
   exact ⟨rfl, xE, tE⟩
  refine AllReadyH.cons rfl (fun K hK => ?_) AllReadyH.nil
  ·have cR := x1.v r hc
   go_simp
   clear cR
   refine hK.out _ _ ?_ (fun hHeld => ?_)
   ·exact hHeld
   clear hK K
   try simp only [Act.put]
   refine rdH 10 (fun K hK => ?_)
   have cR := x1.v d hd
   go_simp
   clear cR
   refine hK.out _ _ ?_ (fun hHeld => ?_)
   ·exact hHeld
   clear hK K
   try simp only [Act.put]
   refine rdH 18 (fun K hK => ?_)
   go_simp
   refine (C2 _).mono ?_
   rintro e WX ⟨rfl, rfl⟩
   go_wp2_with fail
   refine hK.out _ _ ?_ (fun hHeld => ?_)
   ·exact hHeld
   clear hK K
   try simp only [Act.put]
   refine tkH 21 ?_
   try simp only [Act.put]
   refine rdH 22 (fun K hK => ?_)
   have cD := x1.v d hd
   have zD := x1.z d
   go_simp
   clear cD zD
   have xE := x1.setV d hd (f (s.v d) (s.v r))
   have tE := t1.setP d (.int .u64 (f (s.v d) (s.v r)))
   refine hK.out _ _ ?_ (fun hHeld => ?_)
   ·exact ⟨(cell_set_blk (by omega)).trans hHeld.1, (cell_set_blk (by omega)).trans hHeld.2.1, (cell_set_blk (by omega)).trans hHeld.2.2.1, (cell_set_blk (by omega)).trans hHeld.2.2.2.1, (cell_set_blk (by omega)).trans hHeld.2.2.2.2.1, (cell_set_blk (by omega)).trans hHeld.2.2.2.2.2⟩
   clear hK K
   try simp only [Act.put]
   refine wpAnyH_done (by kernel_rfl) ?_ _
   refine NoPanic.normal ?_
   go_wp2
   go_ret
   exact ⟨rfl, xE, tE⟩
end Go.Proofs.YtoobileejdhikaaGreat

namespace Go.Proofs.YtoobileejdhikaaGreat
set_option maxRecDepth 100000
set_option maxHeartbeats 1000000
open Go.RowKit
attribute [local go_sem ↓] Go.wp_at_zero Go.wp_at_succ

theorem doLoad1_any (op : Int) (d c : Nat) (o n : Int) (g P F k : Nat) (s : MS) (w : World) (h : XAt w g s) (hd : d < 9) (hc : c < 9) (q1 : 0 ≤ s.v c) (o1 : -32768 ≤ o) (o2 : o ≤ 32767) (hF : s.v c + o - 1000 = F) (hk : F + k ≤ 96) (hk1 : 1 ≤ k) (hk8 : k ≤ 8) (hm : ∀ i, 0 ≤ s.m i ∧ s.m i ≤ 255) (hP : w.cell? ⟨P, 0, none⟩ = some (.int .i64 k)) (hP2 : P ≠ g) :
  Calls Tryz.prog 164 #[.agg #[.int .u8 op, .int .u8 d, .int .u8 c, .int .i16 o, .int .i32 n], .pointer (some ⟨g, 0, none⟩), .pointer (some ⟨P, 0, none⟩)] w fun e w' => e = .returned (.int .i64 0) ∧ XAt w' g (s.setV d (s.ld F k)) ∧ Tch g g w w' := by
 have CL := fun wx (hx : XAt wx g s) => xload_any g c F k o s wx hx hc q1 o1 o2 hF hk hk1 hk8 hm
 clear hF hm
 have lt := h.lt
 have ng : ¬ w.heap.size = g := by omega
 have d0 : (0 : Int) ≤ d := by omega
 have d1 : (d : Int) < 9 := by omega
 have HX := hideX h
 clear h
 go_enter Tryz.func164, Tryz.ntmps164
 go_wp2
 generalize hW : w.alloc (Obj.cells #[Value.int IntKind.u8 op, Value.int IntKind.u8 d, Value.int IntKind.u8 c, Value.int IntKind.i16 o, Value.int IntKind.i32 n] 121) = W0
 have b0 : W0.cell? ⟨w.heap.size, 0, none⟩ = some (.int .u8 op) := by subst hW; simp [go_sem]
 have b1 : W0.cell? ⟨w.heap.size, 1, none⟩ = some (.int .u8 d) := by subst hW; simp [go_sem]
 have b2 : W0.cell? ⟨w.heap.size, 2, none⟩ = some (.int .u8 c) := by subst hW; simp [go_sem]
 have b3 : W0.cell? ⟨w.heap.size, 3, none⟩ = some (.int .i16 o) := by subst hW; simp [go_sem]
 have b4 : W0.cell? ⟨w.heap.size, 4, none⟩ = some (.int .i32 n) := by subst hW; simp [go_sem]
 have x0 : XAt W0 g s := by subst hW; exact HX.out.alloc _
 have t0 : Tch g g w W0 := by subst hW; exact (Tch.refl _ _ _).alloc _
 have bP : W0.cell? ⟨P, 0, none⟩ = some (.int .i64 k) := by subst hW; exact cellKeep ((Below.refl _ _).alloc (Nat.le_refl _) _) hP
 clear hW
 refine wp_region_noPanic ?_
 refine wp_region_held_drew (S := fun w' => w'.cell? ⟨w.heap.size, 0, none⟩ = some (.int .u8 op) ∧ w'.cell? ⟨w.heap.size, 1, none⟩ = some (.int .u8 d) ∧ w'.cell? ⟨w.heap.size, 2, none⟩ = some (.int .u8 c) ∧ w'.cell? ⟨w.heap.size, 3, none⟩ = some (.int .i16 o) ∧ w'.cell? ⟨w.heap.size, 4, none⟩ = some (.int .i32 n) ∧ w'.cell? ⟨P, 0, none⟩ = some (.int .i64 k)) (by kernel_rfl) ⟨b0, b1, b2, b3, b4, bP⟩ (fun hHeld => ?_)
 have x0 := x0.drew
 have t0 := t0.drew
 refine tkH 0 ?_
 try simp only [Act.put]
 refine tkH 1 ?_
 try simp only [Act.put]
 refine tkH 2 ?_
 try simp only [Act.put]
 refine tkH 3 ?_
 try simp only [Act.put]
 refine tkH 4 ?_
 try simp only [Act.put]
 refine tkH 5 ?_
 try simp only [Act.put]
 refine tkH 6 ?_
 try simp only [Act.put]
 refine tkH 7 ?_
 try simp only [Act.put]
 refine tkH 8 ?_
 try simp only [Act.put]
 refine tkH 10 ?_
 try simp only [Act.put]
 refine tkH 11 ?_
 try simp only [Act.put]
 refine rdH 9 (fun K hK => ?_)
 go_simp
 refine (CL _ x0).mono ?_
 rintro e WX ⟨rfl, rfl⟩
 go_wp2_with fail
 refine hK.out _ _ ?_ (fun hHeld => ?_)
 ·exact hHeld
 clear hK K
 try simp only [Act.put]
 refine tkH 12 ?_
 try simp only [Act.put]
 refine rdH 13 (fun K hK => ?_)
 have cD := x0.v d hd
 have zD := x0.z d
 go_simp
 clear cD zD
 have xE := x0.setV d hd (s.ld F k)
 have tE := t0.setP d (.int .u64 (s.ld F k))
 refine hK.out _ _ ?_ (fun hHeld => ?_)
 ·exact ⟨(cell_set_blk (by omega)).trans hHeld.1, (cell_set_blk (by omega)).trans hHeld.2.1, (cell_set_blk (by omega)).trans hHeld.2.2.1, (cell_set_blk (by omega)).trans hHeld.2.2.2.1, (cell_set_blk (by omega)).trans hHeld.2.2.2.2.1, (cell_set_blk (by omega)).trans hHeld.2.2.2.2.2⟩
 clear hK K
 try simp only [Act.put]
 refine wpAnyH_done (by kernel_rfl) ?_ _
 refine NoPanic.normal ?_
 go_wp2
 go_ret
 exact ⟨rfl, xE, tE⟩

theorem doStore1_any (op : Int) (d c : Nat) (o n : Int) (g P F k : Nat) (s : MS) (w : World) (h : XAt w g s) (hd : d < 9) (hc : c < 9) (q1 : 0 ≤ s.v d) (o1 : -32768 ≤ o) (o2 : o ≤ 32767) (hF : s.v d + o - 1000 = F) (hk : F + k ≤ 96) (hk1 : 1 ≤ k) (hk8 : k ≤ 8) (hP : w.cell? ⟨P, 0, none⟩ = some (.int .i64 k)) (hP2 : P ≠ g) :
  Calls Tryz.prog 167 #[.agg #[.int .u8 op, .int .u8 d, .int .u8 c, .int .i16 o, .int .i32 n], .pointer (some ⟨g, 0, none⟩), .pointer (some ⟨P, 0, none⟩)] w fun e w' => e = .returned (.int .i64 0) ∧ XAt w' g (s.st F k (s.v c)) ∧ Tch g g w w' := by
 have CL := fun wx (hx : XAt wx g s) => xstore_any g d F k o (s.v c) s wx hx hd q1 o1 o2 hF hk hk1 hk8
 clear hF
 have lt := h.lt
 have ng : ¬ w.heap.size = g := by omega
 have d0 : (0 : Int) ≤ d := by omega
 have d1 : (d : Int) < 9 := by omega
 have HX := hideX h
 clear h
 have c0 : (0 : Int) ≤ c := by omega
 have c1 : (c : Int) < 9 := by omega
 go_enter Tryz.func167, Tryz.ntmps167
 go_wp2
 generalize hW : w.alloc (Obj.cells #[Value.int IntKind.u8 op, Value.int IntKind.u8 d, Value.int IntKind.u8 c, Value.int IntKind.i16 o, Value.int IntKind.i32 n] 121) = W0
 have b0 : W0.cell? ⟨w.heap.size, 0, none⟩ = some (.int .u8 op) := by subst hW; simp [go_sem]
 have b1 : W0.cell? ⟨w.heap.size, 1, none⟩ = some (.int .u8 d) := by subst hW; simp [go_sem]
 have b2 : W0.cell? ⟨w.heap.size, 2, none⟩ = some (.int .u8 c) := by subst hW; simp [go_sem]
 have b3 : W0.cell? ⟨w.heap.size, 3, none⟩ = some (.int .i16 o) := by subst hW; simp [go_sem]
 have b4 : W0.cell? ⟨w.heap.size, 4, none⟩ = some (.int .i32 n) := by subst hW; simp [go_sem]
 have x0 : XAt W0 g s := by subst hW; exact HX.out.alloc _
 have t0 : Tch g g w W0 := by subst hW; exact (Tch.refl _ _ _).alloc _
 have bP : W0.cell? ⟨P, 0, none⟩ = some (.int .i64 k) := by subst hW; exact cellKeep ((Below.refl _ _).alloc (Nat.le_refl _) _) hP
 clear hW
 refine wp_region_noPanic ?_
 refine wp_region_held_drew (S := fun w' => w'.cell? ⟨w.heap.size, 0, none⟩ = some (.int .u8 op) ∧ w'.cell? ⟨w.heap.size, 1, none⟩ = some (.int .u8 d) ∧ w'.cell? ⟨w.heap.size, 2, none⟩ = some (.int .u8 c) ∧ w'.cell? ⟨w.heap.size, 3, none⟩ = some (.int .i16 o) ∧ w'.cell? ⟨w.heap.size, 4, none⟩ = some (.int .i32 n) ∧ w'.cell? ⟨P, 0, none⟩ = some (.int .i64 k)) (by kernel_rfl) ⟨b0, b1, b2, b3, b4, bP⟩ (fun hHeld => ?_)
 have x0 := x0.drew
 have t0 := t0.drew
 refine tkH 0 ?_
 try simp only [Act.put]
 refine tkH 1 ?_
 try simp only [Act.put]
 refine tkH 2 ?_
 try simp only [Act.put]
 refine tkH 3 ?_
 try simp only [Act.put]
 refine tkH 4 ?_
 try simp only [Act.put]
 refine tkH 5 ?_
 try simp only [Act.put]
 refine tkH 6 ?_
 try simp only [Act.put]
 refine tkH 7 ?_
 try simp only [Act.put]
 refine tkH 8 ?_
 try simp only [Act.put]
 refine tkH 9 ?_
 try simp only [Act.put]
 refine tkH 10 ?_
 try simp only [Act.put]
 refine tkH 11 ?_
 try simp only [Act.put]
 refine rdH 12 (fun K hK => ?_)
 have cR := x0.v c hc
 go_simp
 clear cR
 refine hK.out _ _ ?_ (fun hHeld => ?_)
 ·exact hHeld
 clear hK K
 try simp only [Act.put]
 refine rdH 13 (fun K hK => ?_)
 go_simp
 refine (CL _ x0).mono ?_
 rintro e WX ⟨rfl, xE, ht⟩
 have tE := t0.trans ht
 have lB : w.heap.size < W0.heap.size := block_lt_of_cell hHeld.1
 have lP : P < W0.heap.size := block_lt_of_cell hHeld.2.2.2.2.2
 go_wp2_with fail
 refine hK.out _ _ ?_ (fun hHeld => ?_)
 ·exact ⟨(ht.cell lB (by omega) (by omega)).trans hHeld.1, (ht.cell lB (by omega) (by omega)).trans hHeld.2.1, (ht.cell lB (by omega) (by omega)).trans hHeld.2.2.1, (ht.cell lB (by omega) (by omega)).trans hHeld.2.2.2.1, (ht.cell lB (by omega) (by omega)).trans hHeld.2.2.2.2.1, (ht.cell lP (by omega) (by omega)).trans hHeld.2.2.2.2.2⟩
 clear hK K
 try simp only [Act.put]
 refine wpAnyH_done (by kernel_rfl) ?_ _
 refine NoPanic.normal ?_
 go_wp2
 go_ret
 exact ⟨rfl, xE, tE⟩

theorem doCompare1_any (op : Int) (d c : Nat) (o n : Int) (g P F : Nat) (bb : Bool) (s : MS) (w : World) (h : XAt w g s) (hd : d < 9) (hc : secR op c < 9) (o1 : -32768 ≤ o) (o2 : o ≤ 32767) (hE : ∀ x y w, Sem.run Tryz.prog (callFunc F #[x, y]) w = .ok (.enter F #[x, y]) w) (hP : w.cell? ⟨P, 0, none⟩ = some (.func (.func F) #[] #[]))
  (C2 : ∀ wx, Calls Tryz.prog F #[.int .u64 (s.v d), .int .u64 (s.v (secR op c))] wx fun e w' => e = .returned (.bool bb) ∧ wx = w') :
  Calls Tryz.prog 172 #[.agg #[.int .u8 op, .int .u8 d, .int .u8 c, .int .i16 o, .int .i32 n], .pointer (some ⟨g, 0, none⟩), .pointer (some ⟨P, 0, none⟩)] w fun e w' => e = .returned (.int .i64 (if bb then o else 0)) ∧ XAt w' g s ∧ Tch g g w w' := by
 have C := fun wx => isecond_any op d c o n wx
 generalize secR op c = r at hc C C2 ⊢
 have lt := h.lt
 have ng : ¬ w.heap.size = g := by omega
 have d0 : (0 : Int) ≤ d := by omega
 have d1 : (d : Int) < 9 := by omega
 have r0 : (0 : Int) ≤ r := by omega
 have r1 : (r : Int) < 9 := by omega
 have HX := hideX h
 clear h
 cases bb
 ·go_enter Tryz.func172, Tryz.ntmps172
  go_wp2
  generalize hW : w.alloc (Obj.cells #[Value.int IntKind.u8 op, Value.int IntKind.u8 d, Value.int IntKind.u8 c, Value.int IntKind.i16 o, Value.int IntKind.i32 n] 121) = W0
  have b0 : W0.cell? ⟨w.heap.size, 0, none⟩ = some (.int .u8 op) := by subst hW; simp [go_sem]
  have b1 : W0.cell? ⟨w.heap.size, 1, none⟩ = some (.int .u8 d) := by subst hW; simp [go_sem]
  have b2 : W0.cell? ⟨w.heap.size, 2, none⟩ = some (.int .u8 c) := by subst hW; simp [go_sem]
  have b3 : W0.cell? ⟨w.heap.size, 3, none⟩ = some (.int .i16 o) := by subst hW; simp [go_sem]
  have b4 : W0.cell? ⟨w.heap.size, 4, none⟩ = some (.int .i32 n) := by subst hW; simp [go_sem]
  have x0 : XAt W0 g s := by subst hW; exact HX.out.alloc _
  have t0 : Tch g g w W0 := by subst hW; exact (Tch.refl _ _ _).alloc _
  have bP : W0.cell? ⟨P, 0, none⟩ = some (.func (.func F) #[] #[]) := by subst hW; exact cellKeep ((Below.refl _ _).alloc (Nat.le_refl _) _) hP
  clear hW
  refine wp_region_noPanic ?_
  refine wp_region_held_drew (S := fun w' => w'.cell? ⟨w.heap.size, 0, none⟩ = some (.int .u8 op) ∧ w'.cell? ⟨w.heap.size, 1, none⟩ = some (.int .u8 d) ∧ w'.cell? ⟨w.heap.size, 2, none⟩ = some (.int .u8 c) ∧ w'.cell? ⟨w.heap.size, 3, none⟩ = some (.int .i16 o) ∧ w'.cell? ⟨w.heap.size, 4, none⟩ = some (.int .i32 n) ∧ w'.cell? ⟨P, 0, none⟩ = some (.func (.func F) #[] #[]) ∧ w'.cell? ⟨g, d, none⟩ = some (.int .u64 (s.v d)) ∧ w'.cell? ⟨g, r, none⟩ = some (.int .u64 (s.v r))) (by kernel_rfl) ⟨b0, b1, b2, b3, b4, bP, x0.v d hd, x0.v r hc⟩ (fun hHeld => ?_)
  have x0 := x0.drew
  have t0 := t0.drew
  refine tkH 0 ?_
  try simp only [Act.put]
  refine tkH 1 ?_
  try simp only [Act.put]
  refine tkH 2 ?_
  try simp only [Act.put]
  refine tkH 3 ?_
  try simp only [Act.put]
  refine tkH 4 ?_
  try simp only [Act.put]
  refine tkH 5 ?_
  try simp only [Act.put]
  refine tkH 6 ?_
  try simp only [Act.put]
  refine tkH 7 ?_
  try simp only [Act.put]
  refine tkH 8 ?_
  try simp only [Act.put]
  refine tkH 9 ?_
  try simp only [Act.put]
  refine tkH 11 ?_
  try simp only [Act.put]
  refine tkH 12 ?_
  try simp only [Act.put]
  refine rdH 10 (fun K hK => ?_)
  go_simp
  refine (C _).mono ?_
  rintro e W1 ⟨rfl, hb⟩
  have x1 := x0.later hb
  have t1 := t0.trans (Tch.of_below hb)
  go_wp2_with fail
  refine hK.out _ _ ?_ (fun hHeld => ?_)
  ·exact ⟨cellKeep hb hHeld.1, cellKeep hb hHeld.2.1, cellKeep hb hHeld.2.2.1, cellKeep hb hHeld.2.2.2.1, cellKeep hb hHeld.2.2.2.2.1, cellKeep hb hHeld.2.2.2.2.2.1, cellKeep hb hHeld.2.2.2.2.2.2.1, cellKeep hb hHeld.2.2.2.2.2.2.2⟩
  clear hK K
  try simp only [Act.put]
  clear hb
  refine tkH 13 ?_
  try simp only [Act.put]
  refine tkH 14 ?_
  try simp only [Act.put]
  refine rdH 15 (fun K hK => ?_)
  go_simp
  refine (C2 _).mono ?_
  rintro e WX ⟨rfl, rfl⟩
  go_wp2_with fail
  refine hK.out _ _ ?_ (fun hHeld => ?_)
  ·exact hHeld
  clear hK K
  try simp only [Act.put]
  refine wpAnyH_done (by kernel_rfl) ?_ _
  refine NoPanic.normal ?_
  have k3 := hHeld.2.2.2.1
  clear hHeld
  go_wp2
  go_ret
  exact ⟨rfl, x1, t1⟩
 ·go_enter Tryz.func172, Tryz.ntmps172
  go_wp2
  generalize hW : w.alloc (Obj.cells #[Value.int IntKind.u8 op, Value.int IntKind.u8 d, Value.int IntKind.u8 c, Value.int IntKind.i16 o, Value.int IntKind.i32 n] 121) = W0
  have b0 : W0.cell? ⟨w.heap.size, 0, none⟩ = some (.int .u8 op) := by subst hW; simp [go_sem]
  have b1 : W0.cell? ⟨w.heap.size, 1, none⟩ = some (.int .u8 d) := by subst hW; simp [go_sem]
  have b2 : W0.cell? ⟨w.heap.size, 2, none⟩ = some (.int .u8 c) := by subst hW; simp [go_sem]
  have b3 : W0.cell? ⟨w.heap.size, 3, none⟩ = some (.int .i16 o) := by subst hW; simp [go_sem]
  have b4 : W0.cell? ⟨w.heap.size, 4, none⟩ = some (.int .i32 n) := by subst hW; simp [go_sem]
  have x0 : XAt W0 g s := by subst hW; exact HX.out.alloc _
  have t0 : Tch g g w W0 := by subst hW; exact (Tch.refl _ _ _).alloc _
  have bP : W0.cell? ⟨P, 0, none⟩ = some (.func (.func F) #[] #[]) := by subst hW; exact cellKeep ((Below.refl _ _).alloc (Nat.le_refl _) _) hP
  clear hW
  refine wp_region_noPanic ?_
  refine wp_region_held_drew (S := fun w' => w'.cell? ⟨w.heap.size, 0, none⟩ = some (.int .u8 op) ∧ w'.cell? ⟨w.heap.size, 1, none⟩ = some (.int .u8 d) ∧ w'.cell? ⟨w.heap.size, 2, none⟩ = some (.int .u8 c) ∧ w'.cell? ⟨w.heap.size, 3, none⟩ = some (.int .i16 o) ∧ w'.cell? ⟨w.heap.size, 4, none⟩ = some (.int .i32 n) ∧ w'.cell? ⟨P, 0, none⟩ = some (.func (.func F) #[] #[]) ∧ w'.cell? ⟨g, d, none⟩ = some (.int .u64 (s.v d)) ∧ w'.cell? ⟨g, r, none⟩ = some (.int .u64 (s.v r))) (by kernel_rfl) ⟨b0, b1, b2, b3, b4, bP, x0.v d hd, x0.v r hc⟩ (fun hHeld => ?_)
  have x0 := x0.drew
  have t0 := t0.drew
  refine tkH 0 ?_
  try simp only [Act.put]
  refine tkH 1 ?_
  try simp only [Act.put]
  refine tkH 2 ?_
  try simp only [Act.put]
  refine tkH 3 ?_
  try simp only [Act.put]
  refine tkH 4 ?_
  try simp only [Act.put]
  refine tkH 5 ?_
  try simp only [Act.put]
  refine tkH 6 ?_
  try simp only [Act.put]
  refine tkH 7 ?_
  try simp only [Act.put]
  refine tkH 8 ?_
  try simp only [Act.put]
  refine tkH 9 ?_
  try simp only [Act.put]
  refine tkH 11 ?_
  try simp only [Act.put]
  refine tkH 12 ?_
  try simp only [Act.put]
  refine rdH 10 (fun K hK => ?_)
  go_simp
  refine (C _).mono ?_
  rintro e W1 ⟨rfl, hb⟩
  have x1 := x0.later hb
  have t1 := t0.trans (Tch.of_below hb)
  go_wp2_with fail
  refine hK.out _ _ ?_ (fun hHeld => ?_)
  ·exact ⟨cellKeep hb hHeld.1, cellKeep hb hHeld.2.1, cellKeep hb hHeld.2.2.1, cellKeep hb hHeld.2.2.2.1, cellKeep hb hHeld.2.2.2.2.1, cellKeep hb hHeld.2.2.2.2.2.1, cellKeep hb hHeld.2.2.2.2.2.2.1, cellKeep hb hHeld.2.2.2.2.2.2.2⟩
  clear hK K
  try simp only [Act.put]
  clear hb
  refine tkH 13 ?_
  try simp only [Act.put]
  refine tkH 14 ?_
  try simp only [Act.put]
  refine rdH 15 (fun K hK => ?_)
  go_simp
  refine (C2 _).mono ?_
  rintro e WX ⟨rfl, rfl⟩
  go_wp2_with fail
  refine hK.out _ _ ?_ (fun hHeld => ?_)
  ·exact hHeld
  clear hK K
  try simp only [Act.put]
  refine wpAnyH_done (by kernel_rfl) ?_ _
  refine NoPanic.normal ?_
  have k3 := hHeld.2.2.2.1
  clear hHeld
  go_wp2
  go_ret
  exact ⟨rfl, x1, t1⟩
end Go.Proofs.YtoobileejdhikaaGreat
