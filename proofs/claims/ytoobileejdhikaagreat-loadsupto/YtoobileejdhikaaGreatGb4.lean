/-
  The program looks at an instruction: Load, Store, comparisons.
-/
import Derived.Test.YtoobileejdhikaaGreatGa0
import Derived.Test.YtoobileejdhikaaGreatGb3
import Derived.Test.YtoobileejdhikaaGreatGa5
namespace Go.Proofs.YtoobileejdhikaaGreat
set_option maxRecDepth 100000
set_option maxHeartbeats 2000000
open Go.RowKit
theorem reach_all (s : KS) (r : Nat) (off : Int) (size : Nat) (w : World) (hr : r < 9) (hs : s.Ok) (o1 : -32768 ≤ off) (o2 : off ≤ 32767) (z : size ≤ 8) :
  Calls Tryz.prog 162 #[.agg s.cells, .int .u8 r, .int .i16 off, .int .i64 size] w fun e w' => e = (if (s.v r).kind ≠ 0 ∧ reachB (s.v r) s.frame off size = true then .returned (.tuple #[]) else .panicked (thrown 3 s.at1)) ∧ Below w.heap.size w w' := by
 have ok := hs.v r hr
 by_cases h0 : (s.v r).kind = 0
 ·rw [if_neg (by simp [h0])]; exact reach_no0 s r off size w hr h0
 ·have := reach_any s r off size w hr h0 o1 o2 z ok.pl0 ok.pl1 ok.pm0 ok.pm1
  cases hb : reachB (s.v r) s.frame off size
  ·rw [hb] at this; rw [if_neg (by simp)]; simpa using this
  ·rw [hb] at this; rw [if_pos ⟨h0, rfl⟩]; simpa using this
def loadL (s : KS) (d c : Nat) (of : Int) (z : Nat) : Option (KS × KS) := if (s.v c).kind ≠ 0 ∧ reachB (s.v c) s.frame of z = true then some (s.set d (numV 0 (2 ^ (8 * z) - 1)), KS.zero) else none
def storeL (s : KS) (d c : Nat) (of : Int) (z : Nat) : Option (KS × KS) := if (s.v d).kind ≠ 0 ∧ reachB (s.v d) s.frame of z = true then (if (s.v c).kind = 1 then some (s, KS.zero) else none) else none
def cmpL (s : KS) (d r : Nat) (P J : KS) : Option (KS × KS) := if (s.v d).kind ≠ 0 ∧ (s.v r).kind ≠ 0 ∧ (s.v d).kind = (s.v r).kind then some (P, J) else none

theorem lookLoad1_any (s : KS) (op of n : Int) (d c : Nat) (P : Nat) (w : World) (z : Nat) (hz4 : z = 1 ∨ z = 2 ∨ z = 4 ∨ z = 8) (hP : w.cell? ⟨P, 0, none⟩ = some (.int .i64 z)) (hd : d < 9) (hc : c < 9) (hs : s.Ok) (o1 : -32768 ≤ of) (o2 : of ≤ 32767) :
  Calls Tryz.prog 161 #[.agg #[.int .u8 op, .int .u8 d, .int .u8 c, .int .i16 of, .int .i32 n], .agg s.cells, .pointer (some ⟨P, 0, none⟩)] w fun e w' => e = lkEnd (loadL s d c of z) s.at1 ∧ Below w.heap.size w w' := by
 have hz := zeroK
 have C := fun w => reach_all s c of z w hc hs o1 o2 (by omega)
 by_cases hv : (s.v c).kind ≠ 0 ∧ reachB (s.v c) s.frame of z = true
 ·have E : loadL s d c of z = some ((s.set d (numV 0 (2 ^ (8 * z) - 1))), KS.zero) := if_pos hv
  simp only [if_pos hv] at C
  clear hv
  go_enter Tryz.func161, Tryz.ntmps161
  go_upto_region 1 with fail
  have lP : P < w.heap.size := block_lt_of_cell hP
  generalize hW : ((((w.alloc (Obj.cells #[Value.int IntKind.u8 op, Value.int IntKind.u8 d, Value.int IntKind.u8 c, Value.int IntKind.i16 of, Value.int IntKind.i32 n] 121)).alloc (Obj.cells s.cells 117)).alloc (Obj.cells KS.zero.cells 117)).alloc (Obj.cells KS.zero.cells 117)) = W0
  have hs0 : KAt W0 (w.heap.size + 1) s := by subst hW; exact KAt.alloc (KAt.alloc (KAt.top (by simp <;> omega)) _) _
  have hs1 : W0.cell? ⟨w.heap.size, 0, none⟩ = some (.int .u8 op) := by subst hW; simp [go_sem]
  have hs2 : W0.cell? ⟨w.heap.size, 1, none⟩ = some (.int .u8 d) := by subst hW; simp [go_sem]
  have hs3 : W0.cell? ⟨w.heap.size, 2, none⟩ = some (.int .u8 c) := by subst hW; simp [go_sem]
  have hs4 : W0.cell? ⟨w.heap.size, 3, none⟩ = some (.int .i16 of) := by subst hW; simp [go_sem]
  have hs5 : W0.cell? ⟨w.heap.size, 4, none⟩ = some (.int .i32 n) := by subst hW; simp [go_sem]
  have hs6 : W0.cell? ⟨P, 0, none⟩ = some (.int .i64 z) := by subst hW; exact cellAlloc _ (cellAlloc _ (cellAlloc _ (cellAlloc _ hP)))
  have kr0_0 : KAt W0 (w.heap.size + 1 + 1) KS.zero := by subst hW; exact KAt.alloc (KAt.top (by simp <;> omega)) _
  have kr0_1 : KAt W0 (w.heap.size + 1 + 1 + 1) KS.zero := by subst hW; exact KAt.top (by simp <;> omega)
  have hB0 : Below w.heap.size w W0 := by subst hW; exact bel4 _ _ _ _ _
  clear hW
  go_wp2_with (first | refine wpK_load rfl _ rfl (w.heap.size + 1) rfl s hs0 ?_ | (go_at_call 162; refine (C _).mono ?_; rintro e W1 ⟨rfl, hb1⟩; have hs0 := hs0.keep hb1; have hs1 := cellKeep hb1 hs1; have hs2 := cellKeep hb1 hs2; have hs3 := cellKeep hb1 hs3; have hs4 := cellKeep hb1 hs4; have hs5 := cellKeep hb1 hs5; have hs6 := cellKeep hb1 hs6; have kr0_0 := kr0_0.keep hb1; have kr0_1 := kr0_1.keep hb1; have hB0 := hB0.trans (hb1.mono hB0.size)))
  skip
  refine wp_region_held_drew (S := fun w' => KAt w' (w.heap.size + 1) s ∧ w'.cell? ⟨w.heap.size, 0, none⟩ = some (.int .u8 op) ∧ w'.cell? ⟨w.heap.size, 1, none⟩ = some (.int .u8 d) ∧ w'.cell? ⟨w.heap.size, 2, none⟩ = some (.int .u8 c) ∧ w'.cell? ⟨w.heap.size, 3, none⟩ = some (.int .i16 of) ∧ w'.cell? ⟨w.heap.size, 4, none⟩ = some (.int .i32 n) ∧ w'.cell? ⟨P, 0, none⟩ = some (.int .i64 z)) (by kernel_rfl) (⟨hs0.drew, hs1, hs2, hs3, hs4, hs5, hs6⟩) (fun hHeld => ?_)
  have kr0_0 := kr0_0.drew
  have kr0_1 := kr0_1.drew
  have hB0 := hB0.drew
  refine tkY 0 rfl (yieldsK (by rfl) _ rfl (w.heap.size + 1) rfl s (fun w h => h.1)) ?_
  try simp only [Act.put]
  refine tkH 1 ?_
  try simp only [Act.put]
  refine tkH 2 ?_
  try simp only [Act.put]
  refine tkH 3 ?_
  try simp only [Act.put]
  refine rdH 4 (fun K hK => ?_)
  go_simp
  refine (numbersOf_any z _ hz4).mono ?_
  rintro e W1 ⟨rfl, hb1⟩
  have hS1 : (fun w' => KAt w' (w.heap.size + 1) s ∧ w'.cell? ⟨w.heap.size, 0, none⟩ = some (.int .u8 op) ∧ w'.cell? ⟨w.heap.size, 1, none⟩ = some (.int .u8 d) ∧ w'.cell? ⟨w.heap.size, 2, none⟩ = some (.int .u8 c) ∧ w'.cell? ⟨w.heap.size, 3, none⟩ = some (.int .i16 of) ∧ w'.cell? ⟨w.heap.size, 4, none⟩ = some (.int .i32 n) ∧ w'.cell? ⟨P, 0, none⟩ = some (.int .i64 z)) W1 := ⟨hHeld.1.keep hb1, cellKeep hb1 hHeld.2.1, cellKeep hb1 hHeld.2.2.1, cellKeep hb1 hHeld.2.2.2.1, cellKeep hb1 hHeld.2.2.2.2.1, cellKeep hb1 hHeld.2.2.2.2.2.1, cellKeep hb1 hHeld.2.2.2.2.2.2⟩
  have kr1_0 := kr0_0.keep hb1
  have kr1_1 := kr0_1.keep hb1
  have hB1 : Below w.heap.size w W1 := hB0.trans (hb1.mono hB0.size)
  go_wp2_with fail
  refine hK.out _ _ ?_ (fun hHeld => ?_)
  ·exact hS1
  clear hK K
  try simp only [Act.put]
  refine rdH 5 (fun K hK => ?_)
  go_simp
  refine (setNumber_any s d _ _ _ hd).mono ?_
  rintro e W2 ⟨rfl, hb2⟩
  have hS2 : (fun w' => KAt w' (w.heap.size + 1) s ∧ w'.cell? ⟨w.heap.size, 0, none⟩ = some (.int .u8 op) ∧ w'.cell? ⟨w.heap.size, 1, none⟩ = some (.int .u8 d) ∧ w'.cell? ⟨w.heap.size, 2, none⟩ = some (.int .u8 c) ∧ w'.cell? ⟨w.heap.size, 3, none⟩ = some (.int .i16 of) ∧ w'.cell? ⟨w.heap.size, 4, none⟩ = some (.int .i32 n) ∧ w'.cell? ⟨P, 0, none⟩ = some (.int .i64 z)) W2 := ⟨hHeld.1.keep hb2, cellKeep hb2 hHeld.2.1, cellKeep hb2 hHeld.2.2.1, cellKeep hb2 hHeld.2.2.2.1, cellKeep hb2 hHeld.2.2.2.2.1, cellKeep hb2 hHeld.2.2.2.2.2.1, cellKeep hb2 hHeld.2.2.2.2.2.2⟩
  have kr2_0 := kr1_0.keep hb2
  have kr2_1 := kr1_1.keep hb2
  have hB2 : Below w.heap.size w W2 := hB1.trans (hb2.mono hB1.size)
  go_wp2_with fail
  refine hK.out _ _ ?_ (fun hHeld => ?_)
  ·exact hS2
  clear hK K
  try simp only [Act.put]
  refine rdH 6 (fun K hK => ?_)
  go_simp
  refine (nowhere_any _).mono ?_
  rintro e W3 ⟨rfl, hb3⟩
  have hS3 : (fun w' => KAt w' (w.heap.size + 1) s ∧ w'.cell? ⟨w.heap.size, 0, none⟩ = some (.int .u8 op) ∧ w'.cell? ⟨w.heap.size, 1, none⟩ = some (.int .u8 d) ∧ w'.cell? ⟨w.heap.size, 2, none⟩ = some (.int .u8 c) ∧ w'.cell? ⟨w.heap.size, 3, none⟩ = some (.int .i16 of) ∧ w'.cell? ⟨w.heap.size, 4, none⟩ = some (.int .i32 n) ∧ w'.cell? ⟨P, 0, none⟩ = some (.int .i64 z)) W3 := ⟨hHeld.1.keep hb3, cellKeep hb3 hHeld.2.1, cellKeep hb3 hHeld.2.2.1, cellKeep hb3 hHeld.2.2.2.1, cellKeep hb3 hHeld.2.2.2.2.1, cellKeep hb3 hHeld.2.2.2.2.2.1, cellKeep hb3 hHeld.2.2.2.2.2.2⟩
  have kr3_0 := kr2_0.keep hb3
  have kr3_1 := kr2_1.keep hb3
  have hB3 : Below w.heap.size w W3 := hB2.trans (hb3.mono hB2.size)
  go_wp2_with fail
  refine hK.out _ _ ?_ (fun hHeld => ?_)
  ·exact hS3
  clear hK K
  try simp only [Act.put]
  refine rdH 7 (fun K hK => ?_)
  refine wpO_storeK _ _ rfl (w.heap.size + 1 + 1) rfl (s.set d (numV 0 (2 ^ (8 * z) - 1))) rfl KS.zero kr3_0 ?_
  refine hK.out _ _ ?_ (fun hHeld => ?_)
  ·exact ⟨hHeld.1.rowAway (by omega) _, cellRow (by omega) hHeld.2.1, cellRow (by omega) hHeld.2.2.1, cellRow (by omega) hHeld.2.2.2.1, cellRow (by omega) hHeld.2.2.2.2.1, cellRow (by omega) hHeld.2.2.2.2.2.1, cellRow (by omega) hHeld.2.2.2.2.2.2⟩
  clear hK K
  try simp only [Act.put]
  have kr4_0 := kr3_0.over (s.set d (numV 0 (2 ^ (8 * z) - 1)))
  have kr4_1 := kr3_1.rowAway (by omega) (s.set d (numV 0 (2 ^ (8 * z) - 1))).cells (b := w.heap.size + 1 + 1)
  have hB4 := below_setRowK hB3 (g := w.heap.size + 1 + 1) (by omega) (s.set d (numV 0 (2 ^ (8 * z) - 1))).cells
  refine rdH 8 (fun K hK => ?_)
  refine wpO_storeK _ _ rfl (w.heap.size + 1 + 1 + 1) rfl KS.zero rfl KS.zero kr4_1 ?_
  refine hK.out _ _ ?_ (fun hHeld => ?_)
  ·exact ⟨hHeld.1.rowAway (by omega) _, cellRow (by omega) hHeld.2.1, cellRow (by omega) hHeld.2.2.1, cellRow (by omega) hHeld.2.2.2.1, cellRow (by omega) hHeld.2.2.2.2.1, cellRow (by omega) hHeld.2.2.2.2.2.1, cellRow (by omega) hHeld.2.2.2.2.2.2⟩
  clear hK K
  try simp only [Act.put]
  have kr5_0 := kr4_0.rowAway (by omega) KS.zero.cells (b := w.heap.size + 1 + 1 + 1)
  have kr5_1 := kr4_1.over KS.zero
  have hB5 := below_setRowK hB4 (g := w.heap.size + 1 + 1 + 1) (by omega) KS.zero.cells
  refine wpAnyH_done (by kernel_rfl) ?_ _
  go_wp2_with fail
  exact bodyPost_ret (v := .tuple #[.agg (s.set d (numV 0 (2 ^ (8 * z) - 1))).cells, .agg KS.zero.cells]) (resK2 Tryz.results161 _ _ (w.heap.size + 1 + 1) (w.heap.size + 1 + 1 + 1) (s.set d (numV 0 (2 ^ (8 * z) - 1))) KS.zero rfl rfl kr5_0 kr5_1) rfl ⟨by first | (rw [E]; rfl) | rfl, hB5⟩
 ·have E : loadL s d c of z = none := if_neg hv
  simp only [if_neg hv] at C
  clear hv
  go_enter Tryz.func161, Tryz.ntmps161
  go_upto_region 1 with fail
  have lP : P < w.heap.size := block_lt_of_cell hP
  generalize hW : ((((w.alloc (Obj.cells #[Value.int IntKind.u8 op, Value.int IntKind.u8 d, Value.int IntKind.u8 c, Value.int IntKind.i16 of, Value.int IntKind.i32 n] 121)).alloc (Obj.cells s.cells 117)).alloc (Obj.cells KS.zero.cells 117)).alloc (Obj.cells KS.zero.cells 117)) = W0
  have hs0 : KAt W0 (w.heap.size + 1) s := by subst hW; exact KAt.alloc (KAt.alloc (KAt.top (by simp <;> omega)) _) _
  have hs1 : W0.cell? ⟨w.heap.size, 0, none⟩ = some (.int .u8 op) := by subst hW; simp [go_sem]
  have hs2 : W0.cell? ⟨w.heap.size, 1, none⟩ = some (.int .u8 d) := by subst hW; simp [go_sem]
  have hs3 : W0.cell? ⟨w.heap.size, 2, none⟩ = some (.int .u8 c) := by subst hW; simp [go_sem]
  have hs4 : W0.cell? ⟨w.heap.size, 3, none⟩ = some (.int .i16 of) := by subst hW; simp [go_sem]
  have hs5 : W0.cell? ⟨w.heap.size, 4, none⟩ = some (.int .i32 n) := by subst hW; simp [go_sem]
  have hs6 : W0.cell? ⟨P, 0, none⟩ = some (.int .i64 z) := by subst hW; exact cellAlloc _ (cellAlloc _ (cellAlloc _ (cellAlloc _ hP)))
  have kr0_0 : KAt W0 (w.heap.size + 1 + 1) KS.zero := by subst hW; exact KAt.alloc (KAt.top (by simp <;> omega)) _
  have kr0_1 : KAt W0 (w.heap.size + 1 + 1 + 1) KS.zero := by subst hW; exact KAt.top (by simp <;> omega)
  have hB0 : Below w.heap.size w W0 := by subst hW; exact bel4 _ _ _ _ _
  clear hW
  go_wp2_with (first | refine wpK_load rfl _ rfl (w.heap.size + 1) rfl s hs0 ?_ | (go_at_call 162; refine (C _).mono ?_; rintro e W1 ⟨rfl, hb1⟩))
  exact ⟨rfl, by first | (rw [E]; rfl) | rfl, hB0.trans (hb1.mono hB0.size)⟩

theorem lookStore1_any (s : KS) (op of n : Int) (d c : Nat) (P : Nat) (w : World) (z : Nat) (hz8 : z ≤ 8) (hP : w.cell? ⟨P, 0, none⟩ = some (.int .i64 z)) (hd : d < 9) (hc : c < 9) (hs : s.Ok) (o1 : -32768 ≤ of) (o2 : of ≤ 32767) :
  Calls Tryz.prog 166 #[.agg #[.int .u8 op, .int .u8 d, .int .u8 c, .int .i16 of, .int .i32 n], .agg s.cells, .pointer (some ⟨P, 0, none⟩)] w fun e w' => e = lkEnd (storeL s d c of z) s.at1 ∧ Below w.heap.size w w' := by
 have hz := zeroK
 have C := fun w => reach_all s d of z w hd hs o1 o2 hz8
 have CN := fun w => readNumber_any s c w hc
 by_cases hv : (s.v d).kind ≠ 0 ∧ reachB (s.v d) s.frame of z = true
 ·simp only [if_pos hv] at C
  by_cases hn : (s.v c).kind = 1
  ·have E : storeL s d c of z = some (s, KS.zero) := by unfold storeL; rw [if_pos hv, if_pos hn]
   simp only [if_pos hn] at CN
   clear hv hn
   go_enter Tryz.func166, Tryz.ntmps166
   go_upto_region 1 with fail
   have lP : P < w.heap.size := block_lt_of_cell hP
   generalize hW : ((((w.alloc (Obj.cells #[Value.int IntKind.u8 op, Value.int IntKind.u8 d, Value.int IntKind.u8 c, Value.int IntKind.i16 of, Value.int IntKind.i32 n] 121)).alloc (Obj.cells s.cells 117)).alloc (Obj.cells KS.zero.cells 117)).alloc (Obj.cells KS.zero.cells 117)) = W0
   have hs0 : KAt W0 (w.heap.size + 1) s := by subst hW; exact KAt.alloc (KAt.alloc (KAt.top (by simp <;> omega)) _) _
   have hs1 : W0.cell? ⟨w.heap.size, 0, none⟩ = some (.int .u8 op) := by subst hW; simp [go_sem]
   have hs2 : W0.cell? ⟨w.heap.size, 1, none⟩ = some (.int .u8 d) := by subst hW; simp [go_sem]
   have hs3 : W0.cell? ⟨w.heap.size, 2, none⟩ = some (.int .u8 c) := by subst hW; simp [go_sem]
   have hs4 : W0.cell? ⟨w.heap.size, 3, none⟩ = some (.int .i16 of) := by subst hW; simp [go_sem]
   have hs5 : W0.cell? ⟨w.heap.size, 4, none⟩ = some (.int .i32 n) := by subst hW; simp [go_sem]
   have hs6 : W0.cell? ⟨P, 0, none⟩ = some (.int .i64 z) := by subst hW; exact cellAlloc _ (cellAlloc _ (cellAlloc _ (cellAlloc _ hP)))
   have kr0_0 : KAt W0 (w.heap.size + 1 + 1) KS.zero := by subst hW; exact KAt.alloc (KAt.top (by simp <;> omega)) _
   have kr0_1 : KAt W0 (w.heap.size + 1 + 1 + 1) KS.zero := by subst hW; exact KAt.top (by simp <;> omega)
   have hB0 : Below w.heap.size w W0 := by subst hW; exact bel4 _ _ _ _ _
   clear hW
   go_wp2_with (first | refine wpK_load rfl _ rfl (w.heap.size + 1) rfl s hs0 ?_ | (go_at_call 162; refine (C _).mono ?_; rintro e W1 ⟨rfl, hb1⟩; have hs0 := hs0.keep hb1; have hs1 := cellKeep hb1 hs1; have hs2 := cellKeep hb1 hs2; have hs3 := cellKeep hb1 hs3; have hs4 := cellKeep hb1 hs4; have hs5 := cellKeep hb1 hs5; have hs6 := cellKeep hb1 hs6; have kr0_0 := kr0_0.keep hb1; have kr0_1 := kr0_1.keep hb1; have hB0 := hB0.trans (hb1.mono hB0.size)) | (go_at_call 157; refine (CN _).mono ?_; rintro e W2 ⟨rfl, hb2⟩; have hs0 := hs0.keep hb2; have hs1 := cellKeep hb2 hs1; have hs2 := cellKeep hb2 hs2; have hs3 := cellKeep hb2 hs3; have hs4 := cellKeep hb2 hs4; have hs5 := cellKeep hb2 hs5; have hs6 := cellKeep hb2 hs6; have kr0_0 := kr0_0.keep hb2; have kr0_1 := kr0_1.keep hb2; have hB0 := hB0.trans (hb2.mono hB0.size)))
   skip
   refine wp_region_held_drew (S := fun w' => KAt w' (w.heap.size + 1) s ∧ w'.cell? ⟨w.heap.size, 0, none⟩ = some (.int .u8 op) ∧ w'.cell? ⟨w.heap.size, 1, none⟩ = some (.int .u8 d) ∧ w'.cell? ⟨w.heap.size, 2, none⟩ = some (.int .u8 c) ∧ w'.cell? ⟨w.heap.size, 3, none⟩ = some (.int .i16 of) ∧ w'.cell? ⟨w.heap.size, 4, none⟩ = some (.int .i32 n) ∧ w'.cell? ⟨P, 0, none⟩ = some (.int .i64 z)) (by kernel_rfl) (⟨hs0.drew, hs1, hs2, hs3, hs4, hs5, hs6⟩) (fun hHeld => ?_)
   have kr0_0 := kr0_0.drew
   have kr0_1 := kr0_1.drew
   have hB0 := hB0.drew
   refine tkY 0 rfl (yieldsK (by rfl) _ rfl (w.heap.size + 1) rfl s (fun w h => h.1)) ?_
   try simp only [Act.put]
   refine rdH 1 (fun K hK => ?_)
   go_simp
   refine (nowhere_any _).mono ?_
   rintro e W1 ⟨rfl, hb1⟩
   have hS1 : (fun w' => KAt w' (w.heap.size + 1) s ∧ w'.cell? ⟨w.heap.size, 0, none⟩ = some (.int .u8 op) ∧ w'.cell? ⟨w.heap.size, 1, none⟩ = some (.int .u8 d) ∧ w'.cell? ⟨w.heap.size, 2, none⟩ = some (.int .u8 c) ∧ w'.cell? ⟨w.heap.size, 3, none⟩ = some (.int .i16 of) ∧ w'.cell? ⟨w.heap.size, 4, none⟩ = some (.int .i32 n) ∧ w'.cell? ⟨P, 0, none⟩ = some (.int .i64 z)) W1 := ⟨hHeld.1.keep hb1, cellKeep hb1 hHeld.2.1, cellKeep hb1 hHeld.2.2.1, cellKeep hb1 hHeld.2.2.2.1, cellKeep hb1 hHeld.2.2.2.2.1, cellKeep hb1 hHeld.2.2.2.2.2.1, cellKeep hb1 hHeld.2.2.2.2.2.2⟩
   have kr1_0 := kr0_0.keep hb1
   have kr1_1 := kr0_1.keep hb1
   have hB1 : Below w.heap.size w W1 := hB0.trans (hb1.mono hB0.size)
   go_wp2_with fail
   refine hK.out _ _ ?_ (fun hHeld => ?_)
   ·exact hS1
   clear hK K
   try simp only [Act.put]
   refine rdH 2 (fun K hK => ?_)
   refine wpO_storeK _ _ rfl (w.heap.size + 1 + 1) rfl s rfl KS.zero kr1_0 ?_
   refine hK.out _ _ ?_ (fun hHeld => ?_)
   ·exact ⟨hHeld.1.rowAway (by omega) _, cellRow (by omega) hHeld.2.1, cellRow (by omega) hHeld.2.2.1, cellRow (by omega) hHeld.2.2.2.1, cellRow (by omega) hHeld.2.2.2.2.1, cellRow (by omega) hHeld.2.2.2.2.2.1, cellRow (by omega) hHeld.2.2.2.2.2.2⟩
   clear hK K
   try simp only [Act.put]
   have kr2_0 := kr1_0.over s
   have kr2_1 := kr1_1.rowAway (by omega) s.cells (b := w.heap.size + 1 + 1)
   have hB2 := below_setRowK hB1 (g := w.heap.size + 1 + 1) (by omega) s.cells
   refine rdH 3 (fun K hK => ?_)
   refine wpO_storeK _ _ rfl (w.heap.size + 1 + 1 + 1) rfl KS.zero rfl KS.zero kr2_1 ?_
   refine hK.out _ _ ?_ (fun hHeld => ?_)
   ·exact ⟨hHeld.1.rowAway (by omega) _, cellRow (by omega) hHeld.2.1, cellRow (by omega) hHeld.2.2.1, cellRow (by omega) hHeld.2.2.2.1, cellRow (by omega) hHeld.2.2.2.2.1, cellRow (by omega) hHeld.2.2.2.2.2.1, cellRow (by omega) hHeld.2.2.2.2.2.2⟩
   clear hK K
   try simp only [Act.put]
   have kr3_0 := kr2_0.rowAway (by omega) KS.zero.cells (b := w.heap.size + 1 + 1 + 1)
   have kr3_1 := kr2_1.over KS.zero
   have hB3 := below_setRowK hB2 (g := w.heap.size + 1 + 1 + 1) (by omega) KS.zero.cells
   refine wpAnyH_done (by kernel_rfl) ?_ _
   go_wp2_with fail
   exact bodyPost_ret (v := .tuple #[.agg s.cells, .agg KS.zero.cells]) (resK2 Tryz.results166 _ _ (w.heap.size + 1 + 1) (w.heap.size + 1 + 1 + 1) s KS.zero rfl rfl kr3_0 kr3_1) rfl ⟨by first | (rw [E]; rfl) | rfl, hB3⟩
  ·have E : storeL s d c of z = none := by unfold storeL; rw [if_pos hv, if_neg hn]
   simp only [if_neg hn] at CN
   clear hv hn
   go_enter Tryz.func166, Tryz.ntmps166
   go_upto_region 1 with fail
   have lP : P < w.heap.size := block_lt_of_cell hP
   generalize hW : ((((w.alloc (Obj.cells #[Value.int IntKind.u8 op, Value.int IntKind.u8 d, Value.int IntKind.u8 c, Value.int IntKind.i16 of, Value.int IntKind.i32 n] 121)).alloc (Obj.cells s.cells 117)).alloc (Obj.cells KS.zero.cells 117)).alloc (Obj.cells KS.zero.cells 117)) = W0
   have hs0 : KAt W0 (w.heap.size + 1) s := by subst hW; exact KAt.alloc (KAt.alloc (KAt.top (by simp <;> omega)) _) _
   have hs1 : W0.cell? ⟨w.heap.size, 0, none⟩ = some (.int .u8 op) := by subst hW; simp [go_sem]
   have hs2 : W0.cell? ⟨w.heap.size, 1, none⟩ = some (.int .u8 d) := by subst hW; simp [go_sem]
   have hs3 : W0.cell? ⟨w.heap.size, 2, none⟩ = some (.int .u8 c) := by subst hW; simp [go_sem]
   have hs4 : W0.cell? ⟨w.heap.size, 3, none⟩ = some (.int .i16 of) := by subst hW; simp [go_sem]
   have hs5 : W0.cell? ⟨w.heap.size, 4, none⟩ = some (.int .i32 n) := by subst hW; simp [go_sem]
   have hs6 : W0.cell? ⟨P, 0, none⟩ = some (.int .i64 z) := by subst hW; exact cellAlloc _ (cellAlloc _ (cellAlloc _ (cellAlloc _ hP)))
   have kr0_0 : KAt W0 (w.heap.size + 1 + 1) KS.zero := by subst hW; exact KAt.alloc (KAt.top (by simp <;> omega)) _
   have kr0_1 : KAt W0 (w.heap.size + 1 + 1 + 1) KS.zero := by subst hW; exact KAt.top (by simp <;> omega)
   have hB0 : Below w.heap.size w W0 := by subst hW; exact bel4 _ _ _ _ _
   clear hW
   go_wp2_with (first | refine wpK_load rfl _ rfl (w.heap.size + 1) rfl s hs0 ?_ | (go_at_call 162; refine (C _).mono ?_; rintro e W1 ⟨rfl, hb1⟩; have hs0 := hs0.keep hb1; have hs1 := cellKeep hb1 hs1; have hs2 := cellKeep hb1 hs2; have hs3 := cellKeep hb1 hs3; have hs4 := cellKeep hb1 hs4; have hs5 := cellKeep hb1 hs5; have hs6 := cellKeep hb1 hs6; have kr0_0 := kr0_0.keep hb1; have kr0_1 := kr0_1.keep hb1; have hB0 := hB0.trans (hb1.mono hB0.size)) | (go_at_call 157; refine (CN _).mono ?_; rintro e W2 ⟨rfl, hb2⟩))
   exact ⟨rfl, by first | (rw [E]; rfl) | rfl, hB0.trans (hb2.mono hB0.size)⟩
 ·have E : storeL s d c of z = none := if_neg hv
  simp only [if_neg hv] at C
  clear hv
  go_enter Tryz.func166, Tryz.ntmps166
  go_upto_region 1 with fail
  have lP : P < w.heap.size := block_lt_of_cell hP
  generalize hW : ((((w.alloc (Obj.cells #[Value.int IntKind.u8 op, Value.int IntKind.u8 d, Value.int IntKind.u8 c, Value.int IntKind.i16 of, Value.int IntKind.i32 n] 121)).alloc (Obj.cells s.cells 117)).alloc (Obj.cells KS.zero.cells 117)).alloc (Obj.cells KS.zero.cells 117)) = W0
  have hs0 : KAt W0 (w.heap.size + 1) s := by subst hW; exact KAt.alloc (KAt.alloc (KAt.top (by simp <;> omega)) _) _
  have hs1 : W0.cell? ⟨w.heap.size, 0, none⟩ = some (.int .u8 op) := by subst hW; simp [go_sem]
  have hs2 : W0.cell? ⟨w.heap.size, 1, none⟩ = some (.int .u8 d) := by subst hW; simp [go_sem]
  have hs3 : W0.cell? ⟨w.heap.size, 2, none⟩ = some (.int .u8 c) := by subst hW; simp [go_sem]
  have hs4 : W0.cell? ⟨w.heap.size, 3, none⟩ = some (.int .i16 of) := by subst hW; simp [go_sem]
  have hs5 : W0.cell? ⟨w.heap.size, 4, none⟩ = some (.int .i32 n) := by subst hW; simp [go_sem]
  have hs6 : W0.cell? ⟨P, 0, none⟩ = some (.int .i64 z) := by subst hW; exact cellAlloc _ (cellAlloc _ (cellAlloc _ (cellAlloc _ hP)))
  have kr0_0 : KAt W0 (w.heap.size + 1 + 1) KS.zero := by subst hW; exact KAt.alloc (KAt.top (by simp <;> omega)) _
  have kr0_1 : KAt W0 (w.heap.size + 1 + 1 + 1) KS.zero := by subst hW; exact KAt.top (by simp <;> omega)
  have hB0 : Below w.heap.size w W0 := by subst hW; exact bel4 _ _ _ _ _
  clear hW
  go_wp2_with (first | refine wpK_load rfl _ rfl (w.heap.size + 1) rfl s hs0 ?_ | (go_at_call 162; refine (C _).mono ?_; rintro e W1 ⟨rfl, hb1⟩))
  exact ⟨rfl, by first | (rw [E]; rfl) | rfl, hB0.trans (hb1.mono hB0.size)⟩

theorem lookCompare1_any (s : KS) (op of n : Int) (d c : Nat) (P P2 : Nat) (w : World) (FP FJ : Nat) (A B : KS) (eP : ∀ x y z w, Sem.run Tryz.prog (callFunc FP #[x, y, z]) w = .ok (.enter FP #[x, y, z]) w) (eJ : ∀ x y z w, Sem.run Tryz.prog (callFunc FJ #[x, y, z]) w = .ok (.enter FJ #[x, y, z]) w) (hP : w.cell? ⟨P, 0, none⟩ = some (.func (.func FP) #[] #[])) (hP2 : w.cell? ⟨P2, 0, none⟩ = some (.func (.func FJ) #[] #[])) (hd : d < 9) (hc : secR op c < 9) (RP0 : ∀ w, (s.v d).kind = (s.v (secR op c)).kind → Calls Tryz.prog FP #[.agg s.cells, .int .u8 d, .int .u8 (secR op c)] w fun e w' => e = .returned (.agg A.cells) ∧ Below w.heap.size w w') (RJ0 : ∀ w, (s.v d).kind = (s.v (secR op c)).kind → Calls Tryz.prog FJ #[.agg s.cells, .int .u8 d, .int .u8 (secR op c)] w fun e w' => e = .returned (.agg B.cells) ∧ Below w.heap.size w w') :
  Calls Tryz.prog 170 #[.agg #[.int .u8 op, .int .u8 d, .int .u8 c, .int .i16 of, .int .i32 n], .agg s.cells, .pointer (some ⟨P, 0, none⟩), .pointer (some ⟨P2, 0, none⟩)] w fun e w' => e = lkEnd (cmpL s d (secR op c) A B) s.at1 ∧ Below w.heap.size w w' := by
 have hz := zeroK
 have CA := fun w => alike_any s d (secR op c) w hd hc
 by_cases hv : (s.v d).kind ≠ 0 ∧ (s.v (secR op c)).kind ≠ 0 ∧ (s.v d).kind = (s.v (secR op c)).kind
 ·have E : cmpL s d (secR op c) A B = some (A, B) := if_pos hv
  simp only [if_pos hv] at CA
  have RP := fun w => RP0 w hv.2.2
  have RJ := fun w => RJ0 w hv.2.2
  clear hv RP0 RJ0
  go_enter Tryz.func170, Tryz.ntmps170
  go_wp2_with fail
  have lP : P < w.heap.size := block_lt_of_cell hP
  have lP2 : P2 < w.heap.size := block_lt_of_cell hP2
  generalize hW : ((((w.alloc (Obj.cells #[Value.int IntKind.u8 op, Value.int IntKind.u8 d, Value.int IntKind.u8 c, Value.int IntKind.i16 of, Value.int IntKind.i32 n] 121)).alloc (Obj.cells s.cells 117)).alloc (Obj.cells KS.zero.cells 117)).alloc (Obj.cells KS.zero.cells 117)) = W0
  have hs0 : KAt W0 (w.heap.size + 1) s := by subst hW; exact KAt.alloc (KAt.alloc (KAt.top (by simp <;> omega)) _) _
  have hs1 : W0.cell? ⟨w.heap.size, 0, none⟩ = some (.int .u8 op) := by subst hW; simp [go_sem]
  have hs2 : W0.cell? ⟨w.heap.size, 1, none⟩ = some (.int .u8 d) := by subst hW; simp [go_sem]
  have hs3 : W0.cell? ⟨w.heap.size, 2, none⟩ = some (.int .u8 c) := by subst hW; simp [go_sem]
  have hs4 : W0.cell? ⟨w.heap.size, 3, none⟩ = some (.int .i16 of) := by subst hW; simp [go_sem]
  have hs5 : W0.cell? ⟨w.heap.size, 4, none⟩ = some (.int .i32 n) := by subst hW; simp [go_sem]
  have hs6 : W0.cell? ⟨P, 0, none⟩ = some (.func (.func FP) #[] #[]) := by subst hW; exact cellAlloc _ (cellAlloc _ (cellAlloc _ (cellAlloc _ hP)))
  have hs7 : W0.cell? ⟨P2, 0, none⟩ = some (.func (.func FJ) #[] #[]) := by subst hW; exact cellAlloc _ (cellAlloc _ (cellAlloc _ (cellAlloc _ hP2)))
  have kr0_0 : KAt W0 (w.heap.size + 1 + 1) KS.zero := by subst hW; exact KAt.alloc (KAt.top (by simp <;> omega)) _
  have kr0_1 : KAt W0 (w.heap.size + 1 + 1 + 1) KS.zero := by subst hW; exact KAt.top (by simp <;> omega)
  have hB0 : Below w.heap.size w W0 := by subst hW; exact bel4 _ _ _ _ _
  clear hW
  skip
  refine wp_region_held_drew (S := fun w' => KAt w' (w.heap.size + 1) s ∧ w'.cell? ⟨w.heap.size, 0, none⟩ = some (.int .u8 op) ∧ w'.cell? ⟨w.heap.size, 1, none⟩ = some (.int .u8 d) ∧ w'.cell? ⟨w.heap.size, 2, none⟩ = some (.int .u8 c) ∧ w'.cell? ⟨w.heap.size, 3, none⟩ = some (.int .i16 of) ∧ w'.cell? ⟨w.heap.size, 4, none⟩ = some (.int .i32 n) ∧ w'.cell? ⟨P, 0, none⟩ = some (.func (.func FP) #[] #[]) ∧ w'.cell? ⟨P2, 0, none⟩ = some (.func (.func FJ) #[] #[])) (by kernel_rfl) (⟨hs0.drew, hs1, hs2, hs3, hs4, hs5, hs6, hs7⟩) (fun hHeld => ?_)
  have kr0_0 := kr0_0.drew
  have kr0_1 := kr0_1.drew
  have hB0 := hB0.drew
  refine tkY 0 rfl (yieldsK (by rfl) _ rfl (w.heap.size + 1) rfl s (fun w h => h.1)) ?_
  try simp only [Act.put]
  refine tkH 1 ?_
  try simp only [Act.put]
  refine tkH 2 ?_
  try simp only [Act.put]
  refine tkH 3 ?_
  try simp only [Act.put]
  refine rdH 4 (fun K hK => ?_)
  go_simp
  refine (isecond_any op d c of n _).mono ?_
  rintro e W1 ⟨rfl, hb1⟩
  have hS1 : (fun w' => KAt w' (w.heap.size + 1) s ∧ w'.cell? ⟨w.heap.size, 0, none⟩ = some (.int .u8 op) ∧ w'.cell? ⟨w.heap.size, 1, none⟩ = some (.int .u8 d) ∧ w'.cell? ⟨w.heap.size, 2, none⟩ = some (.int .u8 c) ∧ w'.cell? ⟨w.heap.size, 3, none⟩ = some (.int .i16 of) ∧ w'.cell? ⟨w.heap.size, 4, none⟩ = some (.int .i32 n) ∧ w'.cell? ⟨P, 0, none⟩ = some (.func (.func FP) #[] #[]) ∧ w'.cell? ⟨P2, 0, none⟩ = some (.func (.func FJ) #[] #[])) W1 := ⟨hHeld.1.keep hb1, cellKeep hb1 hHeld.2.1, cellKeep hb1 hHeld.2.2.1, cellKeep hb1 hHeld.2.2.2.1, cellKeep hb1 hHeld.2.2.2.2.1, cellKeep hb1 hHeld.2.2.2.2.2.1, cellKeep hb1 hHeld.2.2.2.2.2.2.1, cellKeep hb1 hHeld.2.2.2.2.2.2.2⟩
  have kr1_0 := kr0_0.keep hb1
  have kr1_1 := kr0_1.keep hb1
  have hB1 : Below w.heap.size w W1 := hB0.trans (hb1.mono hB0.size)
  go_wp2_with fail
  refine hK.out _ _ ?_ (fun hHeld => ?_)
  ·exact hS1
  clear hK K
  try simp only [Act.put]
  refine rdH 5 (fun K hK => ?_)
  go_simp
  refine (CA _).mono ?_
  rintro e W2 ⟨rfl, hb2⟩
  have hS2 : (fun w' => KAt w' (w.heap.size + 1) s ∧ w'.cell? ⟨w.heap.size, 0, none⟩ = some (.int .u8 op) ∧ w'.cell? ⟨w.heap.size, 1, none⟩ = some (.int .u8 d) ∧ w'.cell? ⟨w.heap.size, 2, none⟩ = some (.int .u8 c) ∧ w'.cell? ⟨w.heap.size, 3, none⟩ = some (.int .i16 of) ∧ w'.cell? ⟨w.heap.size, 4, none⟩ = some (.int .i32 n) ∧ w'.cell? ⟨P, 0, none⟩ = some (.func (.func FP) #[] #[]) ∧ w'.cell? ⟨P2, 0, none⟩ = some (.func (.func FJ) #[] #[])) W2 := ⟨hHeld.1.keep hb2, cellKeep hb2 hHeld.2.1, cellKeep hb2 hHeld.2.2.1, cellKeep hb2 hHeld.2.2.2.1, cellKeep hb2 hHeld.2.2.2.2.1, cellKeep hb2 hHeld.2.2.2.2.2.1, cellKeep hb2 hHeld.2.2.2.2.2.2.1, cellKeep hb2 hHeld.2.2.2.2.2.2.2⟩
  have kr2_0 := kr1_0.keep hb2
  have kr2_1 := kr1_1.keep hb2
  have hB2 : Below w.heap.size w W2 := hB1.trans (hb2.mono hB1.size)
  go_wp2_with fail
  refine hK.out _ _ ?_ (fun hHeld => ?_)
  ·exact hS2
  clear hK K
  try simp only [Act.put]
  refine wpAnyH_done (by kernel_rfl) ?_ _
  go_wp2_with fail
  have hs0 := hHeld.1
  have hs1 := hHeld.2.1
  have hs2 := hHeld.2.2.1
  have hs3 := hHeld.2.2.2.1
  have hs4 := hHeld.2.2.2.2.1
  have hs5 := hHeld.2.2.2.2.2.1
  have hs6 := hHeld.2.2.2.2.2.2.1
  have hs7 := hHeld.2.2.2.2.2.2.2
  have kr0_0 := kr2_0
  have kr0_1 := kr2_1
  have hB0 := hB2
  clear hHeld
  skip
  refine wp_region_held_drew (S := fun w' => KAt w' (w.heap.size + 1) s ∧ w'.cell? ⟨w.heap.size, 0, none⟩ = some (.int .u8 op) ∧ w'.cell? ⟨w.heap.size, 1, none⟩ = some (.int .u8 d) ∧ w'.cell? ⟨w.heap.size, 2, none⟩ = some (.int .u8 c) ∧ w'.cell? ⟨w.heap.size, 3, none⟩ = some (.int .i16 of) ∧ w'.cell? ⟨w.heap.size, 4, none⟩ = some (.int .i32 n) ∧ w'.cell? ⟨P, 0, none⟩ = some (.func (.func FP) #[] #[]) ∧ w'.cell? ⟨P2, 0, none⟩ = some (.func (.func FJ) #[] #[])) (by kernel_rfl) (⟨hs0.drew, hs1, hs2, hs3, hs4, hs5, hs6, hs7⟩) (fun hHeld => ?_)
  have kr0_0 := kr0_0.drew
  have kr0_1 := kr0_1.drew
  have hB0 := hB0.drew
  refine tkH 0 ?_
  try simp only [Act.put]
  refine tkY 1 rfl (yieldsK (by rfl) _ rfl (w.heap.size + 1) rfl s (fun w h => h.1)) ?_
  try simp only [Act.put]
  refine tkH 2 ?_
  try simp only [Act.put]
  refine tkH 3 ?_
  try simp only [Act.put]
  refine tkH 4 ?_
  try simp only [Act.put]
  refine tkH 7 ?_
  try simp only [Act.put]
  refine tkY 8 rfl (yieldsK (by rfl) _ rfl (w.heap.size + 1) rfl s (fun w h => h.1)) ?_
  try simp only [Act.put]
  refine tkH 9 ?_
  try simp only [Act.put]
  refine tkH 10 ?_
  try simp only [Act.put]
  refine tkH 11 ?_
  try simp only [Act.put]
  refine rdH 5 (fun K hK => ?_)
  go_simp
  refine (isecond_any op d c of n _).mono ?_
  rintro e W1 ⟨rfl, hb1⟩
  have hS1 : (fun w' => KAt w' (w.heap.size + 1) s ∧ w'.cell? ⟨w.heap.size, 0, none⟩ = some (.int .u8 op) ∧ w'.cell? ⟨w.heap.size, 1, none⟩ = some (.int .u8 d) ∧ w'.cell? ⟨w.heap.size, 2, none⟩ = some (.int .u8 c) ∧ w'.cell? ⟨w.heap.size, 3, none⟩ = some (.int .i16 of) ∧ w'.cell? ⟨w.heap.size, 4, none⟩ = some (.int .i32 n) ∧ w'.cell? ⟨P, 0, none⟩ = some (.func (.func FP) #[] #[]) ∧ w'.cell? ⟨P2, 0, none⟩ = some (.func (.func FJ) #[] #[])) W1 := ⟨hHeld.1.keep hb1, cellKeep hb1 hHeld.2.1, cellKeep hb1 hHeld.2.2.1, cellKeep hb1 hHeld.2.2.2.1, cellKeep hb1 hHeld.2.2.2.2.1, cellKeep hb1 hHeld.2.2.2.2.2.1, cellKeep hb1 hHeld.2.2.2.2.2.2.1, cellKeep hb1 hHeld.2.2.2.2.2.2.2⟩
  have kr1_0 := kr0_0.keep hb1
  have kr1_1 := kr0_1.keep hb1
  have hB1 : Below w.heap.size w W1 := hB0.trans (hb1.mono hB0.size)
  go_wp2_with fail
  refine hK.out _ _ ?_ (fun hHeld => ?_)
  ·exact hS1
  clear hK K
  try simp only [Act.put]
  refine rdH 6 (fun K hK => ?_)
  go_simp
  refine (RP _).mono ?_
  rintro e W2 ⟨rfl, hb2⟩
  have hS2 : (fun w' => KAt w' (w.heap.size + 1) s ∧ w'.cell? ⟨w.heap.size, 0, none⟩ = some (.int .u8 op) ∧ w'.cell? ⟨w.heap.size, 1, none⟩ = some (.int .u8 d) ∧ w'.cell? ⟨w.heap.size, 2, none⟩ = some (.int .u8 c) ∧ w'.cell? ⟨w.heap.size, 3, none⟩ = some (.int .i16 of) ∧ w'.cell? ⟨w.heap.size, 4, none⟩ = some (.int .i32 n) ∧ w'.cell? ⟨P, 0, none⟩ = some (.func (.func FP) #[] #[]) ∧ w'.cell? ⟨P2, 0, none⟩ = some (.func (.func FJ) #[] #[])) W2 := ⟨hHeld.1.keep hb2, cellKeep hb2 hHeld.2.1, cellKeep hb2 hHeld.2.2.1, cellKeep hb2 hHeld.2.2.2.1, cellKeep hb2 hHeld.2.2.2.2.1, cellKeep hb2 hHeld.2.2.2.2.2.1, cellKeep hb2 hHeld.2.2.2.2.2.2.1, cellKeep hb2 hHeld.2.2.2.2.2.2.2⟩
  have kr2_0 := kr1_0.keep hb2
  have kr2_1 := kr1_1.keep hb2
  have hB2 : Below w.heap.size w W2 := hB1.trans (hb2.mono hB1.size)
  go_wp2_with fail
  refine hK.out _ _ ?_ (fun hHeld => ?_)
  ·exact hS2
  clear hK K
  try simp only [Act.put]
  refine rdH 12 (fun K hK => ?_)
  go_simp
  refine (isecond_any op d c of n _).mono ?_
  rintro e W3 ⟨rfl, hb3⟩
  have hS3 : (fun w' => KAt w' (w.heap.size + 1) s ∧ w'.cell? ⟨w.heap.size, 0, none⟩ = some (.int .u8 op) ∧ w'.cell? ⟨w.heap.size, 1, none⟩ = some (.int .u8 d) ∧ w'.cell? ⟨w.heap.size, 2, none⟩ = some (.int .u8 c) ∧ w'.cell? ⟨w.heap.size, 3, none⟩ = some (.int .i16 of) ∧ w'.cell? ⟨w.heap.size, 4, none⟩ = some (.int .i32 n) ∧ w'.cell? ⟨P, 0, none⟩ = some (.func (.func FP) #[] #[]) ∧ w'.cell? ⟨P2, 0, none⟩ = some (.func (.func FJ) #[] #[])) W3 := ⟨hHeld.1.keep hb3, cellKeep hb3 hHeld.2.1, cellKeep hb3 hHeld.2.2.1, cellKeep hb3 hHeld.2.2.2.1, cellKeep hb3 hHeld.2.2.2.2.1, cellKeep hb3 hHeld.2.2.2.2.2.1, cellKeep hb3 hHeld.2.2.2.2.2.2.1, cellKeep hb3 hHeld.2.2.2.2.2.2.2⟩
  have kr3_0 := kr2_0.keep hb3
  have kr3_1 := kr2_1.keep hb3
  have hB3 : Below w.heap.size w W3 := hB2.trans (hb3.mono hB2.size)
  go_wp2_with fail
  refine hK.out _ _ ?_ (fun hHeld => ?_)
  ·exact hS3
  clear hK K
  try simp only [Act.put]
  refine rdH 13 (fun K hK => ?_)
  go_simp
  refine (RJ _).mono ?_
  rintro e W4 ⟨rfl, hb4⟩
  have hS4 : (fun w' => KAt w' (w.heap.size + 1) s ∧ w'.cell? ⟨w.heap.size, 0, none⟩ = some (.int .u8 op) ∧ w'.cell? ⟨w.heap.size, 1, none⟩ = some (.int .u8 d) ∧ w'.cell? ⟨w.heap.size, 2, none⟩ = some (.int .u8 c) ∧ w'.cell? ⟨w.heap.size, 3, none⟩ = some (.int .i16 of) ∧ w'.cell? ⟨w.heap.size, 4, none⟩ = some (.int .i32 n) ∧ w'.cell? ⟨P, 0, none⟩ = some (.func (.func FP) #[] #[]) ∧ w'.cell? ⟨P2, 0, none⟩ = some (.func (.func FJ) #[] #[])) W4 := ⟨hHeld.1.keep hb4, cellKeep hb4 hHeld.2.1, cellKeep hb4 hHeld.2.2.1, cellKeep hb4 hHeld.2.2.2.1, cellKeep hb4 hHeld.2.2.2.2.1, cellKeep hb4 hHeld.2.2.2.2.2.1, cellKeep hb4 hHeld.2.2.2.2.2.2.1, cellKeep hb4 hHeld.2.2.2.2.2.2.2⟩
  have kr4_0 := kr3_0.keep hb4
  have kr4_1 := kr3_1.keep hb4
  have hB4 : Below w.heap.size w W4 := hB3.trans (hb4.mono hB3.size)
  go_wp2_with fail
  refine hK.out _ _ ?_ (fun hHeld => ?_)
  ·exact hS4
  clear hK K
  try simp only [Act.put]
  refine rdH 14 (fun K hK => ?_)
  refine wpO_storeK _ _ rfl (w.heap.size + 1 + 1) rfl A rfl KS.zero kr4_0 ?_
  refine hK.out _ _ ?_ (fun hHeld => ?_)
  ·exact ⟨hHeld.1.rowAway (by omega) _, cellRow (by omega) hHeld.2.1, cellRow (by omega) hHeld.2.2.1, cellRow (by omega) hHeld.2.2.2.1, cellRow (by omega) hHeld.2.2.2.2.1, cellRow (by omega) hHeld.2.2.2.2.2.1, cellRow (by omega) hHeld.2.2.2.2.2.2.1, cellRow (by omega) hHeld.2.2.2.2.2.2.2⟩
  clear hK K
  try simp only [Act.put]
  have kr5_0 := kr4_0.over A
  have kr5_1 := kr4_1.rowAway (by omega) A.cells (b := w.heap.size + 1 + 1)
  have hB5 := below_setRowK hB4 (g := w.heap.size + 1 + 1) (by omega) A.cells
  refine rdH 15 (fun K hK => ?_)
  refine wpO_storeK _ _ rfl (w.heap.size + 1 + 1 + 1) rfl B rfl KS.zero kr5_1 ?_
  refine hK.out _ _ ?_ (fun hHeld => ?_)
  ·exact ⟨hHeld.1.rowAway (by omega) _, cellRow (by omega) hHeld.2.1, cellRow (by omega) hHeld.2.2.1, cellRow (by omega) hHeld.2.2.2.1, cellRow (by omega) hHeld.2.2.2.2.1, cellRow (by omega) hHeld.2.2.2.2.2.1, cellRow (by omega) hHeld.2.2.2.2.2.2.1, cellRow (by omega) hHeld.2.2.2.2.2.2.2⟩
  clear hK K
  try simp only [Act.put]
  have kr6_0 := kr5_0.rowAway (by omega) B.cells (b := w.heap.size + 1 + 1 + 1)
  have kr6_1 := kr5_1.over B
  have hB6 := below_setRowK hB5 (g := w.heap.size + 1 + 1 + 1) (by omega) B.cells
  refine wpAnyH_done (by kernel_rfl) ?_ _
  go_wp2_with fail
  exact bodyPost_ret (v := .tuple #[.agg A.cells, .agg B.cells]) (resK2 Tryz.results170 _ _ (w.heap.size + 1 + 1) (w.heap.size + 1 + 1 + 1) A B rfl rfl kr6_0 kr6_1) rfl ⟨by first | (rw [E]; rfl) | rfl, hB6⟩
 ·have E : cmpL s d (secR op c) A B = none := if_neg hv
  simp only [if_neg hv] at CA
  clear hv RP0 RJ0
  go_enter Tryz.func170, Tryz.ntmps170
  go_wp2_with fail
  have lP : P < w.heap.size := block_lt_of_cell hP
  have lP2 : P2 < w.heap.size := block_lt_of_cell hP2
  generalize hW : ((((w.alloc (Obj.cells #[Value.int IntKind.u8 op, Value.int IntKind.u8 d, Value.int IntKind.u8 c, Value.int IntKind.i16 of, Value.int IntKind.i32 n] 121)).alloc (Obj.cells s.cells 117)).alloc (Obj.cells KS.zero.cells 117)).alloc (Obj.cells KS.zero.cells 117)) = W0
  have hs0 : KAt W0 (w.heap.size + 1) s := by subst hW; exact KAt.alloc (KAt.alloc (KAt.top (by simp <;> omega)) _) _
  have hs1 : W0.cell? ⟨w.heap.size, 0, none⟩ = some (.int .u8 op) := by subst hW; simp [go_sem]
  have hs2 : W0.cell? ⟨w.heap.size, 1, none⟩ = some (.int .u8 d) := by subst hW; simp [go_sem]
  have hs3 : W0.cell? ⟨w.heap.size, 2, none⟩ = some (.int .u8 c) := by subst hW; simp [go_sem]
  have hs4 : W0.cell? ⟨w.heap.size, 3, none⟩ = some (.int .i16 of) := by subst hW; simp [go_sem]
  have hs5 : W0.cell? ⟨w.heap.size, 4, none⟩ = some (.int .i32 n) := by subst hW; simp [go_sem]
  have hs6 : W0.cell? ⟨P, 0, none⟩ = some (.func (.func FP) #[] #[]) := by subst hW; exact cellAlloc _ (cellAlloc _ (cellAlloc _ (cellAlloc _ hP)))
  have hs7 : W0.cell? ⟨P2, 0, none⟩ = some (.func (.func FJ) #[] #[]) := by subst hW; exact cellAlloc _ (cellAlloc _ (cellAlloc _ (cellAlloc _ hP2)))
  have kr0_0 : KAt W0 (w.heap.size + 1 + 1) KS.zero := by subst hW; exact KAt.alloc (KAt.top (by simp <;> omega)) _
  have kr0_1 : KAt W0 (w.heap.size + 1 + 1 + 1) KS.zero := by subst hW; exact KAt.top (by simp <;> omega)
  have hB0 : Below w.heap.size w W0 := by subst hW; exact bel4 _ _ _ _ _
  clear hW
  skip
  refine wp_region_held_drew (S := fun w' => KAt w' (w.heap.size + 1) s ∧ w'.cell? ⟨w.heap.size, 0, none⟩ = some (.int .u8 op) ∧ w'.cell? ⟨w.heap.size, 1, none⟩ = some (.int .u8 d) ∧ w'.cell? ⟨w.heap.size, 2, none⟩ = some (.int .u8 c) ∧ w'.cell? ⟨w.heap.size, 3, none⟩ = some (.int .i16 of) ∧ w'.cell? ⟨w.heap.size, 4, none⟩ = some (.int .i32 n) ∧ w'.cell? ⟨P, 0, none⟩ = some (.func (.func FP) #[] #[]) ∧ w'.cell? ⟨P2, 0, none⟩ = some (.func (.func FJ) #[] #[])) (by kernel_rfl) (⟨hs0.drew, hs1, hs2, hs3, hs4, hs5, hs6, hs7⟩) (fun hHeld => ?_)
  have kr0_0 := kr0_0.drew
  have kr0_1 := kr0_1.drew
  have hB0 := hB0.drew
  refine tkY 0 rfl (yieldsK (by rfl) _ rfl (w.heap.size + 1) rfl s (fun w h => h.1)) ?_
  try simp only [Act.put]
  refine tkH 1 ?_
  try simp only [Act.put]
  refine tkH 2 ?_
  try simp only [Act.put]
  refine tkH 3 ?_
  try simp only [Act.put]
  refine rdH 4 (fun K hK => ?_)
  go_simp
  refine (isecond_any op d c of n _).mono ?_
  rintro e W1 ⟨rfl, hb1⟩
  have hS1 : (fun w' => KAt w' (w.heap.size + 1) s ∧ w'.cell? ⟨w.heap.size, 0, none⟩ = some (.int .u8 op) ∧ w'.cell? ⟨w.heap.size, 1, none⟩ = some (.int .u8 d) ∧ w'.cell? ⟨w.heap.size, 2, none⟩ = some (.int .u8 c) ∧ w'.cell? ⟨w.heap.size, 3, none⟩ = some (.int .i16 of) ∧ w'.cell? ⟨w.heap.size, 4, none⟩ = some (.int .i32 n) ∧ w'.cell? ⟨P, 0, none⟩ = some (.func (.func FP) #[] #[]) ∧ w'.cell? ⟨P2, 0, none⟩ = some (.func (.func FJ) #[] #[])) W1 := ⟨hHeld.1.keep hb1, cellKeep hb1 hHeld.2.1, cellKeep hb1 hHeld.2.2.1, cellKeep hb1 hHeld.2.2.2.1, cellKeep hb1 hHeld.2.2.2.2.1, cellKeep hb1 hHeld.2.2.2.2.2.1, cellKeep hb1 hHeld.2.2.2.2.2.2.1, cellKeep hb1 hHeld.2.2.2.2.2.2.2⟩
  have kr1_0 := kr0_0.keep hb1
  have kr1_1 := kr0_1.keep hb1
  have hB1 : Below w.heap.size w W1 := hB0.trans (hb1.mono hB0.size)
  go_wp2_with fail
  refine hK.out _ _ ?_ (fun hHeld => ?_)
  ·exact hS1
  clear hK K
  try simp only [Act.put]
  refine rdH 5 (fun K hK => ?_)
  go_simp
  refine (CA _).mono ?_
  rintro e WX ⟨rfl, hbX⟩
  go_simp
  exact ⟨rfl, by first | (rw [E]; rfl) | rfl, hB1.trans (hbX.mono hB1.size)⟩
end Go.Proofs.YtoobileejdhikaaGreat
