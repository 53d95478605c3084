/-
  The program's Ahead.
  The program's states of knowledge: Ahead, SetFirst, SetLast, Alike, ReadNumber, Verdict.
-/
import Derived.Test.YtoobileejdhikaaGreatGa0
import Derived.Test.YtoobileejdhikaaGreatGa2
namespace Go.Proofs.YtoobileejdhikaaGreat
set_option maxRecDepth 100000
set_option maxHeartbeats 1000000
open Go.RowKit

theorem KS.put_at (s : KS) (a : Int) : s.cells.setIfInBounds 1 (.int .i64 a) = { s with at1 := a : KS }.cells := by rw [KS.cells_eq, KS.cells_eq]; kernel_rfl
theorem KS.put_frame (s : KS) (a : Int) : s.cells.setIfInBounds 56 (.int .i64 a) = { s with frame := a : KS }.cells := by rw [KS.cells_eq, KS.cells_eq]; kernel_rfl

theorem onlyU_bel (l : Int) (w : World) :
  Calls Tryz.prog 141 #[.int .u64 l] w fun e w' => e = .returned (.agg #[.int .u64 l, .int .u64 l]) ∧ Below w.heap.size w w' :=
 (onlyU_any l w).mono fun _ _ ⟨h1, h2⟩ => ⟨h1, by rw [h2]; exact (Below.refl _ _).alloc (Nat.le_refl _) _⟩
def numW (n : Int) : Int := IntKind.u64.wrap (IntKind.i64.wrap n)
def KS.toAt (s : KS) (a : Int) : KS := { s with at1 := a }
def KS.ahead (s : KS) (a n : Int) : KS := (s.toAt a).set 8 (numV (numW n) (numW n))
theorem ahead_any (s : KS) (a n : Int) (w : World) (_h1 : -2147483648 ≤ n) (_h2 : n ≤ 2147483647) :
  Calls Tryz.prog 61 #[.agg s.cells, .int .i64 a, .int .i32 n] w fun e w' => e = .returned (.agg (s.ahead a n).cells) ∧ Below w.heap.size w w' := by
 have hz := zeroK
 have h1 := at_at1 s
 go_enter Tryz.func61, Tryz.ntmps61
 go_wp2_with fail
 rw [KS.put_at, show ({ s with at1 := a : KS }) = s.toAt a from rfl]
 generalize hW : ((w.alloc (Obj.cells (s.toAt a).cells 117)).alloc (Obj.cells KS.zero.cells 117)) = W0
 have hs0 : KAt W0 (w.heap.size) (s.toAt a) := by subst hW; first | with_reducible exact KAt.new _ _ | with_reducible exact KAt.alloc (KAt.new _ _) _ | with_reducible exact KAt.alloc (KAt.alloc (KAt.new _ _) _) _ | with_reducible exact KAt.alloc (KAt.alloc (KAt.alloc (KAt.new _ _) _) _) _ | exact KAt.top (by simp) | exact KAt.alloc (KAt.top (by simp)) _
 have kr0_0 : KAt W0 (w.heap.size + 1) KS.zero := by subst hW; first | with_reducible exact KAt.new _ _ | with_reducible exact KAt.alloc (KAt.new _ _) _ | with_reducible exact KAt.alloc (KAt.alloc (KAt.new _ _) _) _ | with_reducible exact KAt.alloc (KAt.alloc (KAt.alloc (KAt.new _ _) _) _) _ | exact KAt.top (by simp) | exact KAt.alloc (KAt.top (by simp)) _
 have hB0 : Below w.heap.size w W0 := by subst hW; first | exact (Below.refl _ _).alloc (Nat.le_refl _) _ | exact ((Below.refl _ _).alloc (Nat.le_refl _) _).alloc (by simp) _ | exact (((Below.refl _ _).alloc (Nat.le_refl _) _).alloc (by simp) _).alloc (by simp; omega) _ | exact ((((Below.refl _ _).alloc (Nat.le_refl _) _).alloc (by simp) _).alloc (by simp; omega) _).alloc (by simp; omega) _
 clear hW
 refine wp_region_noPanic ?_
 refine wp_region_held_drew (S := fun w' => KAt w' (w.heap.size) (s.toAt a)) (by kernel_rfl) (hs0.drew) (fun hHeld => ?_)
 have kr0_0 := kr0_0.drew
 have hB0 := hB0.drew
 refine tkY 0 rfl (yieldsK (by rfl) _ rfl (w.heap.size) rfl (s.toAt a) (fun w h => h)) ?_
 try simp only [Act.put]
 refine tkH 1 ?_
 try simp only [Act.put]
 refine tkH 2 ?_
 try simp only [Act.put]
 refine tkH 3 ?_
 try simp only [Act.put]
 refine rdH 4 (fun K hK => ?_)
 go_simp
 refine (onlyU_bel _ _).mono ?_
 rintro e W1 ⟨rfl, hb1⟩
 have hS1 : (fun w' => KAt w' (w.heap.size) (s.toAt a)) W1 := hHeld.keep hb1
 have kr1_0 := kr0_0.keep hb1
 have hB1 : Below w.heap.size w W1 := hB0.trans (hb1.mono hB0.size)
 go_wp2_with fail
 refine hK.out _ _ ?_ (fun hHeld => ?_)
 ·exact hS1
 clear hK K
 try simp only [Act.put]
 refine rdH 5 (fun K hK => ?_)
 go_simp
 refine (setNumber_any (s.toAt a) 8 _ _ _ (by omega)).mono ?_
 rintro e W2 ⟨rfl, hb2⟩
 have hS2 : (fun w' => KAt w' (w.heap.size) (s.toAt a)) W2 := hHeld.keep hb2
 have kr2_0 := kr1_0.keep hb2
 have hB2 : Below w.heap.size w W2 := hB1.trans (hb2.mono hB1.size)
 go_wp2_with fail
 refine hK.out _ _ ?_ (fun hHeld => ?_)
 ·exact hS2
 clear hK K
 try simp only [Act.put]
 refine rdH 6 (fun K hK => ?_)
 refine wpO_storeK _ _ rfl (w.heap.size + 1) rfl ((s.toAt a).set 8 (numV (numW n) (numW n))) rfl KS.zero kr2_0 ?_
 refine hK.out _ _ ?_ (fun hHeld => ?_)
 ·exact hHeld.rowAway (by omega) _
 clear hK K
 try simp only [Act.put]
 have kr3_0 := kr2_0.over ((s.toAt a).set 8 (numV (numW n) (numW n)))
 have hB3 := below_setRowK hB2 (g := w.heap.size + 1) (by omega) ((s.toAt a).set 8 (numV (numW n) (numW n))).cells
 refine wpAnyH_done (by kernel_rfl) ?_ _
 refine NoPanic.normal ?_
 go_wp2_with fail
 exact bodyPost_ret (v := .agg (s.ahead a n).cells) (resK Tryz.results61 _ _ (w.heap.size + 1) (s.ahead a n) rfl kr3_0) rfl ⟨rfl, hB3⟩
end Go.Proofs.YtoobileejdhikaaGreat

namespace Go.Proofs.YtoobileejdhikaaGreat
set_option maxRecDepth 100000
set_option maxHeartbeats 1000000
open Go.RowKit

theorem fieldK (k a b c d : Int) (e : Bool) (w : World) : Sem.run Tryz.prog (Instr.field 114 (.agg #[.int .u8 k, .int .u64 a, .int .u64 b, .int .i64 c, .int .i64 d, .bool e]) 0) w = .ok (.int .u8 k) w := by kernel_rfl
theorem fieldSp (a b : Int) (w : World) : Sem.run Tryz.prog (Instr.field 110 (.agg #[.int .u64 a, .int .u64 b]) 1) w = .ok (.int .u64 b) w := by kernel_rfl
theorem cellPast {W w1 : World} {g j : Nat} {v : Value} (hb : Below W.heap.size W w1) (h : W.cell? ⟨g, j, none⟩ = some v) (X : Obj) : (w1.alloc X).cell? ⟨g, j, none⟩ = some v := cellAlloc X (cellKeep hb h)
theorem frozenPast {W w1 : World} {g : Nat} (hb : Below W.heap.size W w1) (hlt : g < W.heap.size) (h : ∀ j, W.frozen? ⟨g, j, none⟩ = false) (X : Obj) (j : Nat) : (w1.alloc X).frozen? ⟨g, j, none⟩ = false := by
 rw [World.frozen?_alloc_past _ _ _ (by exact Nat.lt_of_lt_of_le hlt hb.size), hb.frozen (by exact hlt)]; exact h j
def firstV : KV := ⟨2, 0, 0, 0, 0, false⟩
def endV : KV := ⟨2, 0, 0, 0, 64, true⟩
def stackV : KV := ⟨3, 0, 0, 0, 0, false⟩

theorem SetFirst_any (s : KS) (w : World) :
  Calls Tryz.prog 174 #[.agg s.cells] w fun e w' => e = .returned (.agg (s.set 0 firstV).cells) ∧ Below w.heap.size w w' := by
 have hz := zeroK
 go_enter Tryz.func174, Tryz.ntmps174
 go_wp2_with fail
 generalize hW : ((w.alloc (Obj.cells s.cells 117)).alloc (Obj.cells KS.zero.cells 117)) = W0
 have hs0 : KAt W0 (w.heap.size) s := by subst hW; first | with_reducible exact KAt.new _ _ | with_reducible exact KAt.alloc (KAt.new _ _) _ | with_reducible exact KAt.alloc (KAt.alloc (KAt.new _ _) _) _ | with_reducible exact KAt.alloc (KAt.alloc (KAt.alloc (KAt.new _ _) _) _) _ | exact KAt.top (by simp) | exact KAt.alloc (KAt.top (by simp)) _
 have kr0_0 : KAt W0 (w.heap.size + 1) KS.zero := by subst hW; first | with_reducible exact KAt.new _ _ | with_reducible exact KAt.alloc (KAt.new _ _) _ | with_reducible exact KAt.alloc (KAt.alloc (KAt.new _ _) _) _ | with_reducible exact KAt.alloc (KAt.alloc (KAt.alloc (KAt.new _ _) _) _) _ | exact KAt.top (by simp) | exact KAt.alloc (KAt.top (by simp)) _
 have hB0 : Below w.heap.size w W0 := by subst hW; first | exact (Below.refl _ _).alloc (Nat.le_refl _) _ | exact ((Below.refl _ _).alloc (Nat.le_refl _) _).alloc (by simp) _ | exact (((Below.refl _ _).alloc (Nat.le_refl _) _).alloc (by simp) _).alloc (by simp; omega) _ | exact ((((Below.refl _ _).alloc (Nat.le_refl _) _).alloc (by simp) _).alloc (by simp; omega) _).alloc (by simp; omega) _
 clear hW
 refine wp_region_noPanic ?_
 refine wp_region_held_drew (S := fun w' => KAt w' (w.heap.size) s) (by kernel_rfl) (hs0.drew) (fun hHeld => ?_)
 have kr0_0 := kr0_0.drew
 have hB0 := hB0.drew
 refine tkY 0 rfl (yieldsK (by rfl) _ rfl (w.heap.size) rfl s (fun w h => h)) ?_
 try simp only [Act.put]
 refine rdH 1 (fun K hK => ?_)
 go_simp
 refine (firstPlace_any _).mono ?_
 rintro e W1 ⟨rfl, hb1⟩
 have hS1 : (fun w' => KAt w' (w.heap.size) s) W1 := hHeld.keep hb1
 have kr1_0 := kr0_0.keep hb1
 have hB1 : Below w.heap.size w W1 := hB0.trans (hb1.mono hB0.size)
 go_wp2_with fail
 refine hK.out _ _ ?_ (fun hHeld => ?_)
 ·exact hS1
 clear hK K
 try simp only [Act.put]
 refine rdH 2 (fun K hK => ?_)
 go_simp
 refine (set_any s 0 firstV _ (by omega)).mono ?_
 rintro e W2 ⟨rfl, hb2⟩
 have hS2 : (fun w' => KAt w' (w.heap.size) s) W2 := hHeld.keep hb2
 have kr2_0 := kr1_0.keep hb2
 have hB2 : Below w.heap.size w W2 := hB1.trans (hb2.mono hB1.size)
 go_wp2_with fail
 refine hK.out _ _ ?_ (fun hHeld => ?_)
 ·exact hS2
 clear hK K
 try simp only [Act.put]
 refine rdH 3 (fun K hK => ?_)
 refine wpO_storeK _ _ rfl (w.heap.size + 1) rfl (s.set 0 firstV) rfl KS.zero kr2_0 ?_
 refine hK.out _ _ ?_ (fun hHeld => ?_)
 ·exact hHeld.rowAway (by omega) _
 clear hK K
 try simp only [Act.put]
 have kr3_0 := kr2_0.over (s.set 0 firstV)
 have hB3 := below_setRowK hB2 (g := w.heap.size + 1) (by omega) (s.set 0 firstV).cells
 refine wpAnyH_done (by kernel_rfl) ?_ _
 refine NoPanic.normal ?_
 go_wp2_with fail
 exact bodyPost_ret (v := .agg (s.set 0 firstV).cells) (resK Tryz.results174 _ _ (w.heap.size + 1) (s.set 0 firstV) rfl kr3_0) rfl ⟨rfl, hB3⟩

theorem SetLast_any (s : KS) (w : World) :
  Calls Tryz.prog 175 #[.agg s.cells] w fun e w' => e = .returned (.agg (s.set 0 endV).cells) ∧ Below w.heap.size w w' := by
 have hz := zeroK
 go_enter Tryz.func175, Tryz.ntmps175
 go_wp2_with fail
 generalize hW : ((w.alloc (Obj.cells s.cells 117)).alloc (Obj.cells KS.zero.cells 117)) = W0
 have hs0 : KAt W0 (w.heap.size) s := by subst hW; first | with_reducible exact KAt.new _ _ | with_reducible exact KAt.alloc (KAt.new _ _) _ | with_reducible exact KAt.alloc (KAt.alloc (KAt.new _ _) _) _ | with_reducible exact KAt.alloc (KAt.alloc (KAt.alloc (KAt.new _ _) _) _) _ | exact KAt.top (by simp) | exact KAt.alloc (KAt.top (by simp)) _
 have kr0_0 : KAt W0 (w.heap.size + 1) KS.zero := by subst hW; first | with_reducible exact KAt.new _ _ | with_reducible exact KAt.alloc (KAt.new _ _) _ | with_reducible exact KAt.alloc (KAt.alloc (KAt.new _ _) _) _ | with_reducible exact KAt.alloc (KAt.alloc (KAt.alloc (KAt.new _ _) _) _) _ | exact KAt.top (by simp) | exact KAt.alloc (KAt.top (by simp)) _
 have hB0 : Below w.heap.size w W0 := by subst hW; first | exact (Below.refl _ _).alloc (Nat.le_refl _) _ | exact ((Below.refl _ _).alloc (Nat.le_refl _) _).alloc (by simp) _ | exact (((Below.refl _ _).alloc (Nat.le_refl _) _).alloc (by simp) _).alloc (by simp; omega) _ | exact ((((Below.refl _ _).alloc (Nat.le_refl _) _).alloc (by simp) _).alloc (by simp; omega) _).alloc (by simp; omega) _
 clear hW
 refine wp_region_noPanic ?_
 refine wp_region_held_drew (S := fun w' => KAt w' (w.heap.size) s) (by kernel_rfl) (hs0.drew) (fun hHeld => ?_)
 have kr0_0 := kr0_0.drew
 have hB0 := hB0.drew
 refine tkY 0 rfl (yieldsK (by rfl) _ rfl (w.heap.size) rfl s (fun w h => h)) ?_
 try simp only [Act.put]
 refine rdH 1 (fun K hK => ?_)
 go_simp
 refine (endPlace_any _).mono ?_
 rintro e W1 ⟨rfl, hb1⟩
 have hS1 : (fun w' => KAt w' (w.heap.size) s) W1 := hHeld.keep hb1
 have kr1_0 := kr0_0.keep hb1
 have hB1 : Below w.heap.size w W1 := hB0.trans (hb1.mono hB0.size)
 go_wp2_with fail
 refine hK.out _ _ ?_ (fun hHeld => ?_)
 ·exact hS1
 clear hK K
 try simp only [Act.put]
 refine rdH 2 (fun K hK => ?_)
 go_simp
 refine (set_any s 0 endV _ (by omega)).mono ?_
 rintro e W2 ⟨rfl, hb2⟩
 have hS2 : (fun w' => KAt w' (w.heap.size) s) W2 := hHeld.keep hb2
 have kr2_0 := kr1_0.keep hb2
 have hB2 : Below w.heap.size w W2 := hB1.trans (hb2.mono hB1.size)
 go_wp2_with fail
 refine hK.out _ _ ?_ (fun hHeld => ?_)
 ·exact hS2
 clear hK K
 try simp only [Act.put]
 refine rdH 3 (fun K hK => ?_)
 refine wpO_storeK _ _ rfl (w.heap.size + 1) rfl (s.set 0 endV) rfl KS.zero kr2_0 ?_
 refine hK.out _ _ ?_ (fun hHeld => ?_)
 ·exact hHeld.rowAway (by omega) _
 clear hK K
 try simp only [Act.put]
 have kr3_0 := kr2_0.over (s.set 0 endV)
 have hB3 := below_setRowK hB2 (g := w.heap.size + 1) (by omega) (s.set 0 endV).cells
 refine wpAnyH_done (by kernel_rfl) ?_ _
 refine NoPanic.normal ?_
 go_wp2_with fail
 exact bodyPost_ret (v := .agg (s.set 0 endV).cells) (resK Tryz.results175 _ _ (w.heap.size + 1) (s.set 0 endV) rfl kr3_0) rfl ⟨rfl, hB3⟩

theorem alike_any (s : KS) (a b : Nat) (w : World) (ha : a < 9) (hb : b < 9) :
  Calls Tryz.prog 171 #[.agg s.cells, .int .u8 a, .int .u8 b] w fun e w' => e = (if (s.v a).kind ≠ 0 ∧ (s.v b).kind ≠ 0 ∧ (s.v a).kind = (s.v b).kind then .returned (.tuple #[]) else .panicked (thrown 3 s.at1)) ∧ Below w.heap.size w w' := by
 have hfk := fieldK
 by_cases h1 : (s.v a).kind = 0
 ·rw [if_neg (by simp [h1])]
  go_enter Tryz.func171, Tryz.ntmps171
  go_wp2_with fail
  generalize hW : (w.alloc (Obj.cells s.cells 117)) = W0
  have hs0 : KAt W0 (w.heap.size) s := by subst hW; first | with_reducible exact KAt.new _ _ | with_reducible exact KAt.alloc (KAt.new _ _) _ | with_reducible exact KAt.alloc (KAt.alloc (KAt.new _ _) _) _ | with_reducible exact KAt.alloc (KAt.alloc (KAt.alloc (KAt.new _ _) _) _) _ | exact KAt.top (by simp) | exact KAt.alloc (KAt.top (by simp)) _
  have hB0 : Below w.heap.size w W0 := by subst hW; first | exact (Below.refl _ _).alloc (Nat.le_refl _) _ | exact ((Below.refl _ _).alloc (Nat.le_refl _) _).alloc (by simp) _ | exact (((Below.refl _ _).alloc (Nat.le_refl _) _).alloc (by simp) _).alloc (by simp; omega) _ | exact ((((Below.refl _ _).alloc (Nat.le_refl _) _).alloc (by simp) _).alloc (by simp; omega) _).alloc (by simp; omega) _
  clear hW
  skip
  refine wp_region_held_drew (S := fun w' => KAt w' (w.heap.size) s) (by kernel_rfl) (hs0.drew) (fun hHeld => ?_)
  have hB0 := hB0.drew
  refine tkY 0 rfl (yieldsK (by rfl) _ rfl (w.heap.size) rfl s (fun w h => h)) ?_
  try simp only [Act.put]
  refine tkH 1 ?_
  try simp only [Act.put]
  refine tkY 4 rfl (yieldsK (by rfl) _ rfl (w.heap.size) rfl s (fun w h => h)) ?_
  try simp only [Act.put]
  refine tkH 5 ?_
  try simp only [Act.put]
  refine rdH 2 (fun K hK => ?_)
  go_simp
  refine (read_no s a _ ha h1).mono ?_
  rintro e WX ⟨rfl, hbX⟩
  go_simp
  exact ⟨rfl, rfl, hB0.trans (hbX.mono hB0.size)⟩
 by_cases h2 : (s.v b).kind = 0
 ·rw [if_neg (by simp [h2])]
  go_enter Tryz.func171, Tryz.ntmps171
  go_wp2_with fail
  generalize hW : (w.alloc (Obj.cells s.cells 117)) = W0
  have hs0 : KAt W0 (w.heap.size) s := by subst hW; first | with_reducible exact KAt.new _ _ | with_reducible exact KAt.alloc (KAt.new _ _) _ | with_reducible exact KAt.alloc (KAt.alloc (KAt.new _ _) _) _ | with_reducible exact KAt.alloc (KAt.alloc (KAt.alloc (KAt.new _ _) _) _) _ | exact KAt.top (by simp) | exact KAt.alloc (KAt.top (by simp)) _
  have hB0 : Below w.heap.size w W0 := by subst hW; first | exact (Below.refl _ _).alloc (Nat.le_refl _) _ | exact ((Below.refl _ _).alloc (Nat.le_refl _) _).alloc (by simp) _ | exact (((Below.refl _ _).alloc (Nat.le_refl _) _).alloc (by simp) _).alloc (by simp; omega) _ | exact ((((Below.refl _ _).alloc (Nat.le_refl _) _).alloc (by simp) _).alloc (by simp; omega) _).alloc (by simp; omega) _
  clear hW
  skip
  refine wp_region_held_drew (S := fun w' => KAt w' (w.heap.size) s) (by kernel_rfl) (hs0.drew) (fun hHeld => ?_)
  have hB0 := hB0.drew
  refine tkY 0 rfl (yieldsK (by rfl) _ rfl (w.heap.size) rfl s (fun w h => h)) ?_
  try simp only [Act.put]
  refine tkH 1 ?_
  try simp only [Act.put]
  refine tkY 4 rfl (yieldsK (by rfl) _ rfl (w.heap.size) rfl s (fun w h => h)) ?_
  try simp only [Act.put]
  refine tkH 5 ?_
  try simp only [Act.put]
  refine rdH 2 (fun K hK => ?_)
  go_simp
  refine (read_ok s a _ ha h1).mono ?_
  rintro e W1 ⟨rfl, hb1⟩
  have hS1 : (fun w' => KAt w' (w.heap.size) s) W1 := hHeld.keep hb1
  have hB1 : Below w.heap.size w W1 := hB0.trans (hb1.mono hB0.size)
  unfold KV.arr
  go_wp2_with fail
  refine hK.out _ _ ?_ (fun hHeld => ?_)
  ·exact hS1
  clear hK K
  try simp only [Act.put]
  refine tkH 3 ?_
  try simp only [Act.put]
  refine rdH 6 (fun K hK => ?_)
  go_simp
  refine (read_no s b _ hb h2).mono ?_
  rintro e WX ⟨rfl, hbX⟩
  go_simp
  exact ⟨rfl, rfl, hB1.trans (hbX.mono hB1.size)⟩
 by_cases h3 : (s.v a).kind = (s.v b).kind
 ·rw [if_pos ⟨h1, h2, h3⟩]
  have h3' : ((s.v a).kind != (s.v b).kind) = false := by simpa using h3
  have H3 := hideK h3
  clear h3
  go_enter Tryz.func171, Tryz.ntmps171
  go_wp2_with fail
  generalize hW : (w.alloc (Obj.cells s.cells 117)) = W0
  have hs0 : KAt W0 (w.heap.size) s := by subst hW; first | with_reducible exact KAt.new _ _ | with_reducible exact KAt.alloc (KAt.new _ _) _ | with_reducible exact KAt.alloc (KAt.alloc (KAt.new _ _) _) _ | with_reducible exact KAt.alloc (KAt.alloc (KAt.alloc (KAt.new _ _) _) _) _ | exact KAt.top (by simp) | exact KAt.alloc (KAt.top (by simp)) _
  have hB0 : Below w.heap.size w W0 := by subst hW; first | exact (Below.refl _ _).alloc (Nat.le_refl _) _ | exact ((Below.refl _ _).alloc (Nat.le_refl _) _).alloc (by simp) _ | exact (((Below.refl _ _).alloc (Nat.le_refl _) _).alloc (by simp) _).alloc (by simp; omega) _ | exact ((((Below.refl _ _).alloc (Nat.le_refl _) _).alloc (by simp) _).alloc (by simp; omega) _).alloc (by simp; omega) _
  clear hW
  skip
  refine wp_region_held_drew (S := fun w' => KAt w' (w.heap.size) s) (by kernel_rfl) (hs0.drew) (fun hHeld => ?_)
  have hB0 := hB0.drew
  refine tkY 0 rfl (yieldsK (by rfl) _ rfl (w.heap.size) rfl s (fun w h => h)) ?_
  try simp only [Act.put]
  refine tkH 1 ?_
  try simp only [Act.put]
  refine tkY 4 rfl (yieldsK (by rfl) _ rfl (w.heap.size) rfl s (fun w h => h)) ?_
  try simp only [Act.put]
  refine tkH 5 ?_
  try simp only [Act.put]
  refine rdH 2 (fun K hK => ?_)
  go_simp
  refine (read_ok s a _ ha h1).mono ?_
  rintro e W1 ⟨rfl, hb1⟩
  have hS1 : (fun w' => KAt w' (w.heap.size) s) W1 := hHeld.keep hb1
  have hB1 : Below w.heap.size w W1 := hB0.trans (hb1.mono hB0.size)
  unfold KV.arr
  go_wp2_with fail
  refine hK.out _ _ ?_ (fun hHeld => ?_)
  ·exact hS1
  clear hK K
  try simp only [Act.put]
  refine tkH 3 ?_
  try simp only [Act.put]
  refine rdH 6 (fun K hK => ?_)
  go_simp
  refine (read_ok s b _ hb h2).mono ?_
  rintro e W2 ⟨rfl, hb2⟩
  have hS2 : (fun w' => KAt w' (w.heap.size) s) W2 := hHeld.keep hb2
  have hB2 : Below w.heap.size w W2 := hB1.trans (hb2.mono hB1.size)
  unfold KV.arr
  go_wp2_with fail
  refine hK.out _ _ ?_ (fun hHeld => ?_)
  ·exact hS2
  clear hK K
  try simp only [Act.put]
  refine tkH 7 ?_
  try simp only [Act.put]
  refine tkH 8 ?_
  try simp only [Act.put]
  refine wpAnyH_done (by kernel_rfl) ?_ _
  go_wp2_with fail
  go_end0
  exact ⟨rfl, hB2⟩
 ·rw [if_neg (by simp [h3])]
  have h3' : ((s.v a).kind != (s.v b).kind) = true := by simpa using h3
  have H3 := hideK h3
  clear h3
  go_enter Tryz.func171, Tryz.ntmps171
  go_wp2_with fail
  generalize hW : (w.alloc (Obj.cells s.cells 117)) = W0
  have hs0 : KAt W0 (w.heap.size) s := by subst hW; first | with_reducible exact KAt.new _ _ | with_reducible exact KAt.alloc (KAt.new _ _) _ | with_reducible exact KAt.alloc (KAt.alloc (KAt.new _ _) _) _ | with_reducible exact KAt.alloc (KAt.alloc (KAt.alloc (KAt.new _ _) _) _) _ | exact KAt.top (by simp) | exact KAt.alloc (KAt.top (by simp)) _
  have hB0 : Below w.heap.size w W0 := by subst hW; first | exact (Below.refl _ _).alloc (Nat.le_refl _) _ | exact ((Below.refl _ _).alloc (Nat.le_refl _) _).alloc (by simp) _ | exact (((Below.refl _ _).alloc (Nat.le_refl _) _).alloc (by simp) _).alloc (by simp; omega) _ | exact ((((Below.refl _ _).alloc (Nat.le_refl _) _).alloc (by simp) _).alloc (by simp; omega) _).alloc (by simp; omega) _
  clear hW
  skip
  refine wp_region_held_drew (S := fun w' => KAt w' (w.heap.size) s) (by kernel_rfl) (hs0.drew) (fun hHeld => ?_)
  have hB0 := hB0.drew
  refine tkY 0 rfl (yieldsK (by rfl) _ rfl (w.heap.size) rfl s (fun w h => h)) ?_
  try simp only [Act.put]
  refine tkH 1 ?_
  try simp only [Act.put]
  refine tkY 4 rfl (yieldsK (by rfl) _ rfl (w.heap.size) rfl s (fun w h => h)) ?_
  try simp only [Act.put]
  refine tkH 5 ?_
  try simp only [Act.put]
  refine rdH 2 (fun K hK => ?_)
  go_simp
  refine (read_ok s a _ ha h1).mono ?_
  rintro e W1 ⟨rfl, hb1⟩
  have hS1 : (fun w' => KAt w' (w.heap.size) s) W1 := hHeld.keep hb1
  have hB1 : Below w.heap.size w W1 := hB0.trans (hb1.mono hB0.size)
  unfold KV.arr
  go_wp2_with fail
  refine hK.out _ _ ?_ (fun hHeld => ?_)
  ·exact hS1
  clear hK K
  try simp only [Act.put]
  refine tkH 3 ?_
  try simp only [Act.put]
  refine rdH 6 (fun K hK => ?_)
  go_simp
  refine (read_ok s b _ hb h2).mono ?_
  rintro e W2 ⟨rfl, hb2⟩
  have hS2 : (fun w' => KAt w' (w.heap.size) s) W2 := hHeld.keep hb2
  have hB2 : Below w.heap.size w W2 := hB1.trans (hb2.mono hB1.size)
  unfold KV.arr
  go_wp2_with fail
  refine hK.out _ _ ?_ (fun hHeld => ?_)
  ·exact hS2
  clear hK K
  try simp only [Act.put]
  refine tkH 7 ?_
  try simp only [Act.put]
  refine tkH 8 ?_
  try simp only [Act.put]
  refine wpAnyH_done (by kernel_rfl) ?_ _
  go_wp2_with (first | refine wpK_load rfl _ rfl w.heap.size rfl s hHeld ?_ | (go_at_call 185; refine (harm_any s _).mono ?_; rintro e w9 ⟨rfl, hb9⟩))
  exact ⟨rfl, rfl, hB2.trans (hb9.mono hB2.size)⟩

theorem readNumber_any (s : KS) (r : Nat) (w : World) (hr : r < 9) :
  Calls Tryz.prog 157 #[.agg s.cells, .int .u8 r] w fun e w' => e = (if (s.v r).kind = 1 then .returned (.agg #[.int .u64 (s.v r).nl, .int .u64 (s.v r).nm]) else .panicked (thrown 3 s.at1)) ∧ Below w.heap.size w w' := by
 by_cases h0 : (s.v r).kind = 0
 ·rw [if_neg (by rw [h0]; decide)]
  go_enter Tryz.func157, Tryz.ntmps157
  go_wp2_with (first | refine wpK_load rfl _ rfl w.heap.size rfl s ?hK ?_ | (go_at_call 150; refine (read_no s r _ hr h0).mono ?_; rintro e w1 ⟨rfl, hb1⟩))
  case hK => with_reducible exact KAt.alloc (KAt.new w s) _
  exact ⟨rfl, rfl, (((Below.refl _ _).alloc (Nat.le_refl _) _).alloc (by simp) _).trans (hb1.mono (by simp; omega))⟩
 by_cases h1 : (s.v r).kind = 1
 ·rw [if_pos h1]
  have h1' : ((s.v r).kind != 1) = false := by simpa using h1
  have H1 := hideK h1
  clear h1
  go_enter Tryz.func157, Tryz.ntmps157
  go_wp2_with (first | refine wpK_load rfl _ rfl w.heap.size rfl s ?hK ?_ | (go_at_call 150; refine (read_ok s r _ hr h0).mono ?_; rintro e w1 ⟨rfl, hb1⟩; unfold KV.arr; have c0 := cellPast hb1 (g := w.heap.size + 1) (j := 0) (v := .int .u64 0) (by simp [go_sem]); have c1 := cellPast hb1 (g := w.heap.size + 1) (j := 1) (v := .int .u64 0) (by simp [go_sem]); have z0 := frozenPast hb1 (g := w.heap.size + 1) (by simp) (fun j => by simp [go_sem]); have n1 : ¬ w1.heap.size = w.heap.size + 1 := Nat.ne_of_gt (block_lt_of_cell (cellKeep hb1 (g := w.heap.size + 1) (j := 0) (v := .int .u64 0) (by simp [go_sem])))))
  case hK => with_reducible exact KAt.alloc (KAt.new w s) _
  have hB1 : Below w.heap.size w w1 := (((Below.refl _ _).alloc (Nat.le_refl _) _).alloc (by simp) _).trans (hb1.mono (by simp; omega))
  exact bodyPost_ret (v := .agg #[.int .u64 (s.v r).nl, .int .u64 (s.v r).nm]) (by simp [results, Tryz.results157, go_sem, c0, c1]) rfl ⟨rfl, ((hB1.alloc hB1.size _).setCell (by simp) _).setCell (by simp) _⟩
 ·rw [if_neg h1]
  have h1' : ((s.v r).kind != 1) = true := by simpa using h1
  have H1 := hideK h1
  clear h1
  go_enter Tryz.func157, Tryz.ntmps157
  go_wp2_with (first | (refine wpK_load rfl _ rfl w.heap.size rfl s (by first | exact kA1 _ | with_reducible exact KAt.alloc (KAt.new w s) _) ?_) | (go_at_call 150; refine (read_ok s r _ hr h0).mono ?_; rintro e w1 ⟨rfl, hb1⟩; unfold KV.arr; have hB1 : Below w.heap.size w w1 := (((Below.refl _ _).alloc (Nat.le_refl _) _).alloc (by simp) _).trans (hb1.mono (by simp; omega)); have kA1 : ∀ A, KAt (w1.alloc A) w.heap.size s := (fun A => ((KAt.alloc (KAt.new w s) _).keep hb1).alloc A)) | (go_at_call 185; refine (harm_any s _).mono ?_; rintro e w9 ⟨rfl, hb9⟩))
  exact ⟨rfl, rfl, (hB1.alloc hB1.size _).trans (hb9.mono (by have := hB1.size; simp; omega))⟩

theorem verdict_any (s : KS) (w : World) :
  Calls Tryz.prog 180 #[.agg s.cells] w fun e w' => e = (if (s.v 0).kind = 1 ∧ (s.v 0).nm ≤ 3 then .returned (.tuple #[]) else .panicked (thrown 3 s.at1)) ∧ Below w.heap.size w w' := by
 have hfs := fieldSp
 by_cases h1 : (s.v 0).kind = 1
 ·have C := fun w => readNumber_any s 0 w (by omega)
  simp only [if_pos h1] at C
  by_cases h2 : (s.v 0).nm ≤ 3
  ·rw [if_pos ⟨h1, h2⟩]
   have H1 := hideK h1
   clear h1
   go_enter Tryz.func180, Tryz.ntmps180
   go_wp2_with (first | refine wpK_load rfl _ rfl w.heap.size rfl s (by with_reducible exact KAt.new w s) ?_ | (go_at_call 157; refine (C _).mono ?_; rintro e w1 ⟨rfl, hb1⟩))
   go_end0
   exact ⟨rfl, ((Below.refl _ _).alloc (Nat.le_refl _) _).trans (hb1.mono (by simp))⟩
  ·rw [if_neg (by simp [h2])]
   have H1 := hideK h1
   clear h1
   have h2' : 3 < (s.v 0).nm := by omega
   clear h2
   go_enter Tryz.func180, Tryz.ntmps180
   go_wp2_with (first | refine wpK_load rfl _ rfl w.heap.size rfl s (by first | exact kA1 | with_reducible exact KAt.new w s) ?_ | (go_at_call 157; refine (C _).mono ?_; rintro e w1 ⟨rfl, hb1⟩; have kA1 : KAt w1 w.heap.size s := (KAt.new w s).keep hb1) | (go_at_call 185; refine (harm_any s _).mono ?_; rintro e w9 ⟨rfl, hb9⟩))
   exact ⟨rfl, rfl, (((Below.refl _ _).alloc (Nat.le_refl _) _).trans (hb1.mono (by simp))).trans (hb9.mono (by have := hb1.size; simp at this; omega))⟩
 ·rw [if_neg (by simp [h1])]
  have C := fun w => readNumber_any s 0 w (by omega)
  simp only [if_neg h1] at C
  have H1 := hideK h1
  clear h1
  go_enter Tryz.func180, Tryz.ntmps180
  go_wp2_with (first | refine wpK_load rfl _ rfl w.heap.size rfl s (by with_reducible exact KAt.new w s) ?_ | (go_at_call 157; refine (C _).mono ?_; rintro e w1 ⟨rfl, hb1⟩))
  exact ⟨rfl, rfl, ((Below.refl _ _).alloc (Nat.le_refl _) _).trans (hb1.mono (by simp))⟩
end Go.Proofs.YtoobileejdhikaaGreat
