/-
  The program's Sum of two values that are known.
-/
import Derived.Test.YtoobileejdhikaaGreatGa0
import Derived.Test.YtoobileejdhikaaGreatGa9
namespace Go.Proofs.YtoobileejdhikaaGreat
set_option maxRecDepth 100000
set_option maxHeartbeats 4000000
open Go.RowKit
attribute [local go_sem ↓] Go.wp_at_zero Go.wp_at_succ

theorem resV {fn : Func} {p : Tmp} (h : fn.results = #[.cell p 114]) (tmps : Array Value) (w : World) (g : Nat) (v : KV) (hp : tmps.getD p undef = .pointer (some ⟨g, 0, none⟩)) (hg : VAt w g v) :
  (results fn tmps).run Tryz.prog w = .ok (.agg v.arr) w :=
 results_cell_row h tmps w g _ _ _ _ hp hg.row Tryz.underlying114 rfl (infoV v)
def kEnd (o : Option KV) (at1 : Int) : Ending := match o with
 | some v => .returned (.agg v.arr)
 | none => .panicked (thrown 3 at1)
def numAdd (a b : KV) : KV := numV (ordL ((a.nl + b.nl) / 18446744073709551616 == (a.nm + b.nm) / 18446744073709551616) ((a.nl + b.nl) % 18446744073709551616)) (ordM ((a.nl + b.nl) / 18446744073709551616 == (a.nm + b.nm) / 18446744073709551616) ((a.nm + b.nm) % 18446744073709551616))
def movedK (p : KV) (bl bm : Int) : Option KV := if -1000 ≤ p.pl + bl ∧ p.pm + bm ≤ 1000 then some ⟨p.kind, 0, 0, p.pl + bl, p.pm + bm, false⟩ else none
abbrev stepsOk (n : KV) : Prop := wrap64 n.nl ≤ wrap64 n.nm ∧ -2000 ≤ wrap64 n.nl ∧ wrap64 n.nm ≤ 2000
def sumK (a b : KV) : Option KV :=
 if a.kind = 1 then (if b.kind = 1 then some (numAdd a b) else if stepsOk a then movedK b (wrap64 a.nl) (wrap64 a.nm) else none)
 else if b.kind = 1 then (if stepsOk b then movedK a (wrap64 b.nl) (wrap64 b.nm) else none) else none

theorem Sum_any (s : KS) (a b : Nat) (w : World) (ha : a < 9) (hb : b < 9) (ka : (s.v a).kind ≠ 0) (kb : (s.v b).kind ≠ 0) (oa : (s.v a).Ok) (ob : (s.v b).Ok) :
  Calls Tryz.prog 153 #[.agg s.cells, .int .u8 a, .int .u8 b] w fun e w' => e = kEnd (sumK (s.v a) (s.v b)) s.at1 ∧ Below w.heap.size w w' := by
 go_enter Tryz.func153, Tryz.ntmps153
 go_wp2_with fail
 generalize hW : ((w.alloc (Obj.cells s.cells 117)).alloc (Obj.cells #[.int .u8 0, .int .u64 0, .int .u64 0, .int .i64 0, .int .i64 0, .bool false] 114)) = W0
 have k0 : KAt W0 w.heap.size s := by subst hW; with_reducible exact KAt.alloc (KAt.new _ _) _
 have kR : VAt W0 (w.heap.size + 1) kNone := by subst hW; exact ⟨heap_alloc2_new _ _ _⟩
 have hB : Below w.heap.size w W0 := by subst hW; exact ((Below.refl _ _).alloc (Nat.le_refl _) _).alloc (by simp) _
 clear hW
 go_cut [7, 8] (fun p7 p8 wx => ∃ PA PB : Nat, p7 = .pointer (some ⟨PA, 0, none⟩) ∧ p8 = .pointer (some ⟨PB, 0, none⟩) ∧ KAt wx w.heap.size s ∧ VAt wx (w.heap.size + 1) kNone ∧ VAt wx PA (s.v a) ∧ VAt wx PB (s.v b) ∧ PA ≠ w.heap.size + 1 ∧ PB ≠ w.heap.size + 1 ∧ Below w.heap.size w wx)
 case first =>
  refine wp_region_held_drew (S := fun w' => KAt w' w.heap.size s) (by kernel_rfl) k0.drew (fun hHeld => ?_)
  have kR := kR.drew
  have hB := hB.drew
  refine tkY 0 rfl (yieldsK (by rfl) _ rfl (w.heap.size) rfl s (fun w h => h)) ?_
  try simp only [Act.put]
  refine tkH 1 ?_
  try simp only [Act.put]
  refine tkY 3 rfl (yieldsK (by rfl) _ rfl (w.heap.size) rfl s (fun w h => h)) ?_
  try simp only [Act.put]
  refine tkH 4 ?_
  try simp only [Act.put]
  iterate 6 (all_goals ((first | refine rdH3 2 6 7 (fun K hK => ?_) (fun K hK => ?_) (fun K hK => ?_) | refine rdH3 5 6 7 (fun K hK => ?_) (fun K hK => ?_) (fun K hK => ?_) | refine rdH2 2 6 (fun K hK => ?_) (fun K hK => ?_) | refine rdH2 2 7 (fun K hK => ?_) (fun K hK => ?_) | refine rdH2 5 6 (fun K hK => ?_) (fun K hK => ?_) | refine rdH2 5 7 (fun K hK => ?_) (fun K hK => ?_) | refine rdH2 6 7 (fun K hK => ?_) (fun K hK => ?_) | refine rdH1 2 (fun K hK => ?_) | refine rdH1 5 (fun K hK => ?_) | refine rdH1 6 (fun K hK => ?_) | refine rdH1 7 (fun K hK => ?_) | refine rdH1 8 (fun K hK => ?_) | refine rdH1 9 (fun K hK => ?_)) <;> (first | (refine wpO_storeV _ _ rfl PA rfl (s.v a) rfl _ kA ?_; refine hK.out _ _ (hHeld.rowAway nPAG _) (fun hHeld => ?_); clear hK K; (try simp only [Act.put]); have kR := kR.rowAway nPAR (s.v a).arr; have kB := kB.rowAway nAB (s.v a).arr; have kA := kA.over (s.v a); have hB := below_setRowK hB lPA (s.v a).arr) | (refine wpO_storeV _ _ rfl PB rfl (s.v b) rfl _ kB ?_; refine hK.out _ _ (hHeld.rowAway nPBG _) (fun hHeld => ?_); clear hK K; (try simp only [Act.put]); have kR := kR.rowAway nPBR (s.v b).arr; have kA := kA.rowAway (Ne.symm nAB) (s.v b).arr; have kB := kB.over (s.v b); have hB := below_setRowK hB lPB (s.v b).arr) | (refine wpO_allocVd 7 rfl rfl (fun _ PA kA hP hbX => ?_); have hRlt := kR.lt; (try have hQlt := kB.lt); have hN := hHeld.keep hbX; have kR := kR.keep hbX; have hB := hB.trans (hbX.mono hB.size); (try have kB := kB.keep hbX); have nPAG : PA ≠ w.heap.size := (by have := hHeld.lt; omega); have nPAR : PA ≠ w.heap.size + 1 := (by have := hRlt; omega); have lPA : w.heap.size ≤ PA := (by have := hHeld.lt; omega); (try have nAB : PA ≠ PB := (by omega)); refine hK.out _ _ hN (fun hHeld => ?_); clear hK K; (try simp only [Act.put]); clear hN hbX hP) | (refine wpO_allocVd 8 rfl rfl (fun _ PB kB hP hbX => ?_); have hRlt := kR.lt; (try have hQlt := kA.lt); have hN := hHeld.keep hbX; have kR := kR.keep hbX; have hB := hB.trans (hbX.mono hB.size); (try have kA := kA.keep hbX); have nPBG : PB ≠ w.heap.size := (by have := hHeld.lt; omega); have nPBR : PB ≠ w.heap.size + 1 := (by have := hRlt; omega); have lPB : w.heap.size ≤ PB := (by have := hHeld.lt; omega); (try have nAB : PA ≠ PB := (by omega)); refine hK.out _ _ hN (fun hHeld => ?_); clear hK K; (try simp only [Act.put]); clear hN hbX hP) | (go_simp; (with_reducible show Calls _ _ #[_, .int .u8 (a : Nat)] _ _); refine (read_ok s a _ ha ka).mono ?_; rintro e W2 ⟨rfl, hbX⟩; have hN := hHeld.keep hbX; have kR := kR.keep hbX; have hB := hB.trans (hbX.mono hB.size); (try have kA := kA.keep hbX); (try have kB := kB.keep hbX); go_wp2_with fail; refine hK.out _ _ hN (fun hHeld => ?_); clear hK K; (try simp only [Act.put]); clear hN hbX) | (go_simp; (with_reducible show Calls _ _ #[_, .int .u8 (b : Nat)] _ _); refine (read_ok s b _ hb kb).mono ?_; rintro e W2 ⟨rfl, hbX⟩; have hN := hHeld.keep hbX; have kR := kR.keep hbX; have hB := hB.trans (hbX.mono hB.size); (try have kA := kA.keep hbX); (try have kB := kB.keep hbX); go_wp2_with fail; refine hK.out _ _ hN (fun hHeld => ?_); clear hK K; (try simp only [Act.put]); clear hN hbX))))
  all_goals (refine wpAnyH_done (by kernel_rfl) ?_ _; go_wp2_with fail; go_meet; case rel => exact ⟨PA, PB, rfl, rfl, hHeld, kR, kA, kB, nPAR, nPBR, hB⟩)
 case rest =>
  obtain ⟨PA, PB, rfl, rfl, k4, kR, kA, kB, nAR, nBR, hB⟩ := hcut
  have xa0 := kA.c0
  have xa1 := kA.c1
  have xa2 := kA.c2
  have xa3 := kA.c3
  have xa4 := kA.c4
  have xa5 := kA.c5
  have xb0 := kB.c0
  have xb1 := kB.c1
  have xb2 := kB.c2
  have xb3 := kB.c3
  have xb4 := kB.c4
  have xb5 := kB.c5
  have y4 := kR
  by_cases na : (s.v a).kind = 1
  ·have naq : ((s.v a).kind == 1) = true := by simpa using na
   by_cases nb : (s.v b).kind = 1
   ·have nbq : ((s.v b).kind == 1) = true := by simpa using nb
    have E : sumK (s.v a) (s.v b) = some (numAdd (s.v a) (s.v b)) := by simp [sumK, na, nb]
    have NA := hideK na
    have NB := hideK nb
    clear na nb
    go_wp2_with (first | (go_at_call 186; refine (kAdd_any _ _ _ _ _ oa.nl0 oa.nm0 ob.nl0 ob.nm0 oa.nl1 oa.nm1 ob.nl1 ob.nm1).mono ?_; rintro e W5 ⟨rfl, hbX⟩; have kR5 := kR.keep hbX; have hB5 := hB.trans (hbX.mono hB.size)) | (go_at_call 182; refine (numberIn_any _ _ _).mono ?_; rintro e W6 ⟨rfl, hbX⟩; have kR6 := kR5.keep hbX; have hB6 := hB5.trans (hbX.mono hB5.size); have y0 := kR6.c0; have y1 := kR6.c1; have y2 := kR6.c2; have y3 := kR6.c3; have y4 := kR6.c4; have y5 := kR6.c5; have yz := kR6.fz))
    exact bodyPost_ret (v := .agg #[.int .u8 1, .int .u64 (ordL (((s.v a).nl + (s.v b).nl) / 18446744073709551616 == ((s.v a).nm + (s.v b).nm) / 18446744073709551616) (((s.v a).nl + (s.v b).nl) % 18446744073709551616)), .int .u64 (ordM (((s.v a).nl + (s.v b).nl) / 18446744073709551616 == ((s.v a).nm + (s.v b).nm) / 18446744073709551616) (((s.v a).nm + (s.v b).nm) % 18446744073709551616)), .int .i64 0, .int .i64 0, .bool false]) (by simp [results, Tryz.results153, go_sem, y0, y1, y2, y3, y4, y5, kNone]) rfl ⟨by rw [E]; rfl, ((((((hB6.setCell (by simp) _).setCell (by simp) _).setCell (by simp) _).setCell (by simp) _).setCell (by simp) _).setCell (by simp) _)⟩
   ·have nbq : ((s.v b).kind == 1) = false := by simpa using nb
    by_cases hst : stepsOk (s.v a)
    ·obtain ⟨h1, h2, h3⟩ := hst
     have HST : stepsOk (s.v a) := ⟨h1, h2, h3⟩
     by_cases hmv : -1000 ≤ (s.v b).pl + wrap64 (s.v a).nl ∧ (s.v b).pm + wrap64 (s.v a).nm ≤ 1000
     ·have E : sumK (s.v a) (s.v b) = some ⟨(s.v b).kind, 0, 0, (s.v b).pl + wrap64 (s.v a).nl, (s.v b).pm + wrap64 (s.v a).nm, false⟩ := by simp [sumK, na, nb, HST, movedK, hmv]
      obtain ⟨m1, m2⟩ := hmv
      have HS := hideK HST
      have NA := hideK na
      have NB := hideK nb
      clear HST na nb
      go_wp2_with fail
      refine wp_region_held_drew (S := fun w' => KAt w' w.heap.size s ∧ VAt w' PB (s.v b) ∧ VAt w' PA (s.v a)) (by kernel_rfl) ⟨k4.drew, kB.drew, kA.drew⟩ (fun hHeld => ?_)
      have kR := kR.drew
      have hB := hB.drew
      refine tkY 0 rfl (yieldsK (by rfl) _ rfl (w.heap.size) rfl s (fun w h => h.1)) ?_
      try simp only [Act.put]
      refine wpAnyH_take (i := 1) (v := ?_) rfl (by kernel_rfl) (by kernel_rfl) (by kernel_rfl) (fun _ _ _ h => h) (Or.inl ⟨by rfl, ?_⟩) (by assumption) ?_
      rotate_left
      ·intro wS hSw; (try dsimp only at hSw); have e0 := hSw.2.1.c0; have e1 := hSw.2.1.c1; have e2 := hSw.2.1.c2; have e3 := hSw.2.1.c3; have e4 := hSw.2.1.c4; have e5 := hSw.2.1.c5; go_simp; (first | done | with_reducible rfl)
      try simp only [Act.put]
      refine tkY 2 rfl (yieldsK (by rfl) _ rfl (w.heap.size) rfl s (fun w h => h.1)) ?_
      try simp only [Act.put]
      refine tkH 3 ?_
      try simp only [Act.put]
      refine wpAnyH_take (i := 4) (v := ?_) rfl (by kernel_rfl) (by kernel_rfl) (by kernel_rfl) (fun _ _ _ h => h) (Or.inl ⟨by rfl, ?_⟩) (by assumption) ?_
      rotate_left
      ·intro wS hSw; (try dsimp only at hSw); have e1 := hSw.2.2.c1; have e2 := hSw.2.2.c2; go_simp; (first | done | with_reducible rfl)
      try simp only [Act.put]
      refine rdH 5 (fun K hK => ?_)
      go_simp
      refine (steps_ok s _ _ _ h1 h2 h3).mono ?_
      rintro e W5 ⟨rfl, hbX⟩
      have hN : KAt W5 w.heap.size s ∧ VAt W5 PB (s.v b) ∧ VAt W5 PA (s.v a) := ⟨hHeld.1.keep hbX, hHeld.2.1.keep hbX, hHeld.2.2.keep hbX⟩
      have kR := kR.keep hbX
      have hB := hB.trans (hbX.mono hB.size)
      go_wp2_with fail
      refine hK.out _ _ ?_ (fun hHeld => ?_)
      ·exact hN
      clear hK K
      try simp only [Act.put]
      refine rdH 6 (fun K hK => ?_)
      go_simp
      refine (moved_ok s _ _ _ _ _ _ _ _ _ ob.pl0 ob.pl1 ob.pm0 ob.pm1 (by omega) (by omega) (by omega) (by omega) m1 m2).mono ?_
      rintro e W6 ⟨rfl, hbX⟩
      have hN : KAt W6 w.heap.size s ∧ VAt W6 PB (s.v b) ∧ VAt W6 PA (s.v a) := ⟨hHeld.1.keep hbX, hHeld.2.1.keep hbX, hHeld.2.2.keep hbX⟩
      have kR := kR.keep hbX
      have hB := hB.trans (hbX.mono hB.size)
      go_wp2_with fail
      refine hK.out _ _ ?_ (fun hHeld => ?_)
      ·exact hN
      clear hK K
      try simp only [Act.put]
      refine rdH 7 (fun K hK => ?_)
      refine wpO_storeV _ _ rfl (w.heap.size + 1) rfl (⟨(s.v b).kind, 0, 0, (s.v b).pl + wrap64 (s.v a).nl, (s.v b).pm + wrap64 (s.v a).nm, false⟩ : KV) rfl _ kR ?_
      have kE := kR.over (⟨(s.v b).kind, 0, 0, (s.v b).pl + wrap64 (s.v a).nl, (s.v b).pm + wrap64 (s.v a).nm, false⟩ : KV)
      have bE := below_setRowK hB (g := w.heap.size + 1) (by omega) (⟨(s.v b).kind, 0, 0, (s.v b).pl + wrap64 (s.v a).nl, (s.v b).pm + wrap64 (s.v a).nm, false⟩ : KV).arr
      refine hK.out _ _ ?_ (fun hHeld => ?_)
      ·exact ⟨hHeld.1.rowAway (by omega) _, hHeld.2.1.rowAway (Ne.symm nBR) _, hHeld.2.2.rowAway (Ne.symm nAR) _⟩
      clear hK K
      try simp only [Act.put]
      refine wpAnyH_done (by kernel_rfl) ?_ _
      go_wp2_with fail
      exact bodyPost_ret (v := .agg (⟨(s.v b).kind, 0, 0, (s.v b).pl + wrap64 (s.v a).nl, (s.v b).pm + wrap64 (s.v a).nm, false⟩ : KV).arr) (resV Tryz.results153 _ _ (w.heap.size + 1) (⟨(s.v b).kind, 0, 0, (s.v b).pl + wrap64 (s.v a).nl, (s.v b).pm + wrap64 (s.v a).nm, false⟩ : KV) rfl kE) rfl ⟨by rw [E]; rfl, bE⟩
     ·have E : sumK (s.v a) (s.v b) = none := by simp [sumK, na, nb, HST, movedK]; omega
      have HS := hideK HST
      have NA := hideK na
      have NB := hideK nb
      clear HST na nb
      go_wp2_with fail
      refine wp_region_held_drew (S := fun w' => KAt w' w.heap.size s ∧ VAt w' PB (s.v b) ∧ VAt w' PA (s.v a)) (by kernel_rfl) ⟨k4.drew, kB.drew, kA.drew⟩ (fun hHeld => ?_)
      have kR := kR.drew
      have hB := hB.drew
      refine tkY 0 rfl (yieldsK (by rfl) _ rfl (w.heap.size) rfl s (fun w h => h.1)) ?_
      try simp only [Act.put]
      refine wpAnyH_take (i := 1) (v := ?_) rfl (by kernel_rfl) (by kernel_rfl) (by kernel_rfl) (fun _ _ _ h => h) (Or.inl ⟨by rfl, ?_⟩) (by assumption) ?_
      rotate_left
      ·intro wS hSw; (try dsimp only at hSw); have e0 := hSw.2.1.c0; have e1 := hSw.2.1.c1; have e2 := hSw.2.1.c2; have e3 := hSw.2.1.c3; have e4 := hSw.2.1.c4; have e5 := hSw.2.1.c5; go_simp; (first | done | with_reducible rfl)
      try simp only [Act.put]
      refine tkY 2 rfl (yieldsK (by rfl) _ rfl (w.heap.size) rfl s (fun w h => h.1)) ?_
      try simp only [Act.put]
      refine tkH 3 ?_
      try simp only [Act.put]
      refine wpAnyH_take (i := 4) (v := ?_) rfl (by kernel_rfl) (by kernel_rfl) (by kernel_rfl) (fun _ _ _ h => h) (Or.inl ⟨by rfl, ?_⟩) (by assumption) ?_
      rotate_left
      ·intro wS hSw; (try dsimp only at hSw); have e1 := hSw.2.2.c1; have e2 := hSw.2.2.c2; go_simp; (first | done | with_reducible rfl)
      try simp only [Act.put]
      refine rdH 5 (fun K hK => ?_)
      go_simp
      refine (steps_ok s _ _ _ h1 h2 h3).mono ?_
      rintro e W5 ⟨rfl, hbX⟩
      have hN : KAt W5 w.heap.size s ∧ VAt W5 PB (s.v b) ∧ VAt W5 PA (s.v a) := ⟨hHeld.1.keep hbX, hHeld.2.1.keep hbX, hHeld.2.2.keep hbX⟩
      have kR := kR.keep hbX
      have hB := hB.trans (hbX.mono hB.size)
      go_wp2_with fail
      refine hK.out _ _ ?_ (fun hHeld => ?_)
      ·exact hN
      clear hK K
      try simp only [Act.put]
      refine rdH 6 (fun K hK => ?_)
      go_simp
      refine (moved_no s _ _ _ _ _ _ _ _ _ ob.pl0 ob.pl1 ob.pm0 ob.pm1 (by omega) (by omega) (by omega) (by omega) hmv).mono ?_
      rintro e WX ⟨rfl, hbX⟩
      go_simp
      exact ⟨rfl, by rw [E]; rfl, hB.trans (hbX.mono hB.size)⟩
    ·have E : sumK (s.v a) (s.v b) = none := by simp [sumK, na, nb, hst]
     have NA := hideK na
     have NB := hideK nb
     clear na nb
     go_wp2_with fail
     refine wp_region_held_drew (S := fun w' => KAt w' w.heap.size s ∧ VAt w' PB (s.v b) ∧ VAt w' PA (s.v a)) (by kernel_rfl) ⟨k4.drew, kB.drew, kA.drew⟩ (fun hHeld => ?_)
     have kR := kR.drew
     have hB := hB.drew
     refine tkY 0 rfl (yieldsK (by rfl) _ rfl (w.heap.size) rfl s (fun w h => h.1)) ?_
     try simp only [Act.put]
     refine wpAnyH_take (i := 1) (v := ?_) rfl (by kernel_rfl) (by kernel_rfl) (by kernel_rfl) (fun _ _ _ h => h) (Or.inl ⟨by rfl, ?_⟩) (by assumption) ?_
     rotate_left
     ·intro wS hSw; (try dsimp only at hSw); have e0 := hSw.2.1.c0; have e1 := hSw.2.1.c1; have e2 := hSw.2.1.c2; have e3 := hSw.2.1.c3; have e4 := hSw.2.1.c4; have e5 := hSw.2.1.c5; go_simp; (first | done | with_reducible rfl)
     try simp only [Act.put]
     refine tkY 2 rfl (yieldsK (by rfl) _ rfl (w.heap.size) rfl s (fun w h => h.1)) ?_
     try simp only [Act.put]
     refine tkH 3 ?_
     try simp only [Act.put]
     refine wpAnyH_take (i := 4) (v := ?_) rfl (by kernel_rfl) (by kernel_rfl) (by kernel_rfl) (fun _ _ _ h => h) (Or.inl ⟨by rfl, ?_⟩) (by assumption) ?_
     rotate_left
     ·intro wS hSw; (try dsimp only at hSw); have e1 := hSw.2.2.c1; have e2 := hSw.2.2.c2; go_simp; (first | done | with_reducible rfl)
     try simp only [Act.put]
     refine rdH 5 (fun K hK => ?_)
     go_simp
     refine (steps_no s _ _ _ hst).mono ?_
     rintro e WX ⟨rfl, hbX⟩
     go_simp
     exact ⟨rfl, by rw [E]; rfl, hB.trans (hbX.mono hB.size)⟩
  ·have naq : ((s.v a).kind == 1) = false := by simpa using na
   by_cases nb : (s.v b).kind = 1
   ·have nbq : ((s.v b).kind == 1) = true := by simpa using nb
    by_cases hst : stepsOk (s.v b)
    ·obtain ⟨h1, h2, h3⟩ := hst
     have HST : stepsOk (s.v b) := ⟨h1, h2, h3⟩
     by_cases hmv : -1000 ≤ (s.v a).pl + wrap64 (s.v b).nl ∧ (s.v a).pm + wrap64 (s.v b).nm ≤ 1000
     ·have E : sumK (s.v a) (s.v b) = some ⟨(s.v a).kind, 0, 0, (s.v a).pl + wrap64 (s.v b).nl, (s.v a).pm + wrap64 (s.v b).nm, false⟩ := by simp [sumK, na, nb, HST, movedK, hmv]
      obtain ⟨m1, m2⟩ := hmv
      have HS := hideK HST
      have NA := hideK na
      have NB := hideK nb
      clear HST na nb
      go_wp2_with fail
      refine wp_region_held_drew (S := fun w' => KAt w' w.heap.size s ∧ VAt w' PA (s.v a) ∧ VAt w' PB (s.v b)) (by kernel_rfl) ⟨k4.drew, kA.drew, kB.drew⟩ (fun hHeld => ?_)
      have kR := kR.drew
      have hB := hB.drew
      refine tkY 0 rfl (yieldsK (by rfl) _ rfl (w.heap.size) rfl s (fun w h => h.1)) ?_
      try simp only [Act.put]
      refine wpAnyH_take (i := 1) (v := ?_) rfl (by kernel_rfl) (by kernel_rfl) (by kernel_rfl) (fun _ _ _ h => h) (Or.inl ⟨by rfl, ?_⟩) (by assumption) ?_
      rotate_left
      ·intro wS hSw; (try dsimp only at hSw); have e0 := hSw.2.1.c0; have e1 := hSw.2.1.c1; have e2 := hSw.2.1.c2; have e3 := hSw.2.1.c3; have e4 := hSw.2.1.c4; have e5 := hSw.2.1.c5; go_simp; (first | done | with_reducible rfl)
      try simp only [Act.put]
      refine tkY 2 rfl (yieldsK (by rfl) _ rfl (w.heap.size) rfl s (fun w h => h.1)) ?_
      try simp only [Act.put]
      refine tkH 3 ?_
      try simp only [Act.put]
      refine wpAnyH_take (i := 4) (v := ?_) rfl (by kernel_rfl) (by kernel_rfl) (by kernel_rfl) (fun _ _ _ h => h) (Or.inl ⟨by rfl, ?_⟩) (by assumption) ?_
      rotate_left
      ·intro wS hSw; (try dsimp only at hSw); have e1 := hSw.2.2.c1; have e2 := hSw.2.2.c2; go_simp; (first | done | with_reducible rfl)
      try simp only [Act.put]
      refine rdH 5 (fun K hK => ?_)
      go_simp
      refine (steps_ok s _ _ _ h1 h2 h3).mono ?_
      rintro e W5 ⟨rfl, hbX⟩
      have hN : KAt W5 w.heap.size s ∧ VAt W5 PA (s.v a) ∧ VAt W5 PB (s.v b) := ⟨hHeld.1.keep hbX, hHeld.2.1.keep hbX, hHeld.2.2.keep hbX⟩
      have kR := kR.keep hbX
      have hB := hB.trans (hbX.mono hB.size)
      go_wp2_with fail
      refine hK.out _ _ ?_ (fun hHeld => ?_)
      ·exact hN
      clear hK K
      try simp only [Act.put]
      refine rdH 6 (fun K hK => ?_)
      go_simp
      refine (moved_ok s _ _ _ _ _ _ _ _ _ oa.pl0 oa.pl1 oa.pm0 oa.pm1 (by omega) (by omega) (by omega) (by omega) m1 m2).mono ?_
      rintro e W6 ⟨rfl, hbX⟩
      have hN : KAt W6 w.heap.size s ∧ VAt W6 PA (s.v a) ∧ VAt W6 PB (s.v b) := ⟨hHeld.1.keep hbX, hHeld.2.1.keep hbX, hHeld.2.2.keep hbX⟩
      have kR := kR.keep hbX
      have hB := hB.trans (hbX.mono hB.size)
      go_wp2_with fail
      refine hK.out _ _ ?_ (fun hHeld => ?_)
      ·exact hN
      clear hK K
      try simp only [Act.put]
      refine rdH 7 (fun K hK => ?_)
      refine wpO_storeV _ _ rfl (w.heap.size + 1) rfl (⟨(s.v a).kind, 0, 0, (s.v a).pl + wrap64 (s.v b).nl, (s.v a).pm + wrap64 (s.v b).nm, false⟩ : KV) rfl _ kR ?_
      have kE := kR.over (⟨(s.v a).kind, 0, 0, (s.v a).pl + wrap64 (s.v b).nl, (s.v a).pm + wrap64 (s.v b).nm, false⟩ : KV)
      have bE := below_setRowK hB (g := w.heap.size + 1) (by omega) (⟨(s.v a).kind, 0, 0, (s.v a).pl + wrap64 (s.v b).nl, (s.v a).pm + wrap64 (s.v b).nm, false⟩ : KV).arr
      refine hK.out _ _ ?_ (fun hHeld => ?_)
      ·exact ⟨hHeld.1.rowAway (by omega) _, hHeld.2.1.rowAway (Ne.symm nAR) _, hHeld.2.2.rowAway (Ne.symm nBR) _⟩
      clear hK K
      try simp only [Act.put]
      refine wpAnyH_done (by kernel_rfl) ?_ _
      go_wp2_with fail
      exact bodyPost_ret (v := .agg (⟨(s.v a).kind, 0, 0, (s.v a).pl + wrap64 (s.v b).nl, (s.v a).pm + wrap64 (s.v b).nm, false⟩ : KV).arr) (resV Tryz.results153 _ _ (w.heap.size + 1) (⟨(s.v a).kind, 0, 0, (s.v a).pl + wrap64 (s.v b).nl, (s.v a).pm + wrap64 (s.v b).nm, false⟩ : KV) rfl kE) rfl ⟨by rw [E]; rfl, bE⟩
     ·have E : sumK (s.v a) (s.v b) = none := by simp [sumK, na, nb, HST, movedK]; omega
      have HS := hideK HST
      have NA := hideK na
      have NB := hideK nb
      clear HST na nb
      go_wp2_with fail
      refine wp_region_held_drew (S := fun w' => KAt w' w.heap.size s ∧ VAt w' PA (s.v a) ∧ VAt w' PB (s.v b)) (by kernel_rfl) ⟨k4.drew, kA.drew, kB.drew⟩ (fun hHeld => ?_)
      have kR := kR.drew
      have hB := hB.drew
      refine tkY 0 rfl (yieldsK (by rfl) _ rfl (w.heap.size) rfl s (fun w h => h.1)) ?_
      try simp only [Act.put]
      refine wpAnyH_take (i := 1) (v := ?_) rfl (by kernel_rfl) (by kernel_rfl) (by kernel_rfl) (fun _ _ _ h => h) (Or.inl ⟨by rfl, ?_⟩) (by assumption) ?_
      rotate_left
      ·intro wS hSw; (try dsimp only at hSw); have e0 := hSw.2.1.c0; have e1 := hSw.2.1.c1; have e2 := hSw.2.1.c2; have e3 := hSw.2.1.c3; have e4 := hSw.2.1.c4; have e5 := hSw.2.1.c5; go_simp; (first | done | with_reducible rfl)
      try simp only [Act.put]
      refine tkY 2 rfl (yieldsK (by rfl) _ rfl (w.heap.size) rfl s (fun w h => h.1)) ?_
      try simp only [Act.put]
      refine tkH 3 ?_
      try simp only [Act.put]
      refine wpAnyH_take (i := 4) (v := ?_) rfl (by kernel_rfl) (by kernel_rfl) (by kernel_rfl) (fun _ _ _ h => h) (Or.inl ⟨by rfl, ?_⟩) (by assumption) ?_
      rotate_left
      ·intro wS hSw; (try dsimp only at hSw); have e1 := hSw.2.2.c1; have e2 := hSw.2.2.c2; go_simp; (first | done | with_reducible rfl)
      try simp only [Act.put]
      refine rdH 5 (fun K hK => ?_)
      go_simp
      refine (steps_ok s _ _ _ h1 h2 h3).mono ?_
      rintro e W5 ⟨rfl, hbX⟩
      have hN : KAt W5 w.heap.size s ∧ VAt W5 PA (s.v a) ∧ VAt W5 PB (s.v b) := ⟨hHeld.1.keep hbX, hHeld.2.1.keep hbX, hHeld.2.2.keep hbX⟩
      have kR := kR.keep hbX
      have hB := hB.trans (hbX.mono hB.size)
      go_wp2_with fail
      refine hK.out _ _ ?_ (fun hHeld => ?_)
      ·exact hN
      clear hK K
      try simp only [Act.put]
      refine rdH 6 (fun K hK => ?_)
      go_simp
      refine (moved_no s _ _ _ _ _ _ _ _ _ oa.pl0 oa.pl1 oa.pm0 oa.pm1 (by omega) (by omega) (by omega) (by omega) hmv).mono ?_
      rintro e WX ⟨rfl, hbX⟩
      go_simp
      exact ⟨rfl, by rw [E]; rfl, hB.trans (hbX.mono hB.size)⟩
    ·have E : sumK (s.v a) (s.v b) = none := by simp [sumK, na, nb, hst]
     have NA := hideK na
     have NB := hideK nb
     clear na nb
     go_wp2_with fail
     refine wp_region_held_drew (S := fun w' => KAt w' w.heap.size s ∧ VAt w' PA (s.v a) ∧ VAt w' PB (s.v b)) (by kernel_rfl) ⟨k4.drew, kA.drew, kB.drew⟩ (fun hHeld => ?_)
     have kR := kR.drew
     have hB := hB.drew
     refine tkY 0 rfl (yieldsK (by rfl) _ rfl (w.heap.size) rfl s (fun w h => h.1)) ?_
     try simp only [Act.put]
     refine wpAnyH_take (i := 1) (v := ?_) rfl (by kernel_rfl) (by kernel_rfl) (by kernel_rfl) (fun _ _ _ h => h) (Or.inl ⟨by rfl, ?_⟩) (by assumption) ?_
     rotate_left
     ·intro wS hSw; (try dsimp only at hSw); have e0 := hSw.2.1.c0; have e1 := hSw.2.1.c1; have e2 := hSw.2.1.c2; have e3 := hSw.2.1.c3; have e4 := hSw.2.1.c4; have e5 := hSw.2.1.c5; go_simp; (first | done | with_reducible rfl)
     try simp only [Act.put]
     refine tkY 2 rfl (yieldsK (by rfl) _ rfl (w.heap.size) rfl s (fun w h => h.1)) ?_
     try simp only [Act.put]
     refine tkH 3 ?_
     try simp only [Act.put]
     refine wpAnyH_take (i := 4) (v := ?_) rfl (by kernel_rfl) (by kernel_rfl) (by kernel_rfl) (fun _ _ _ h => h) (Or.inl ⟨by rfl, ?_⟩) (by assumption) ?_
     rotate_left
     ·intro wS hSw; (try dsimp only at hSw); have e1 := hSw.2.2.c1; have e2 := hSw.2.2.c2; go_simp; (first | done | with_reducible rfl)
     try simp only [Act.put]
     refine rdH 5 (fun K hK => ?_)
     go_simp
     refine (steps_no s _ _ _ hst).mono ?_
     rintro e WX ⟨rfl, hbX⟩
     go_simp
     exact ⟨rfl, by rw [E]; rfl, hB.trans (hbX.mono hB.size)⟩
   ·have nbq : ((s.v b).kind == 1) = false := by simpa using nb
    have E : sumK (s.v a) (s.v b) = none := by simp [sumK, na, nb]
    have NA := hideK na
    have NB := hideK nb
    clear na nb
    go_wp2_with (first | (refine wpK_load rfl _ rfl w.heap.size rfl s (by first | exact k4 | exact k4.drew) ?_) | (go_at_call 185; refine (harm_any s _).mono ?_; rintro e W9 ⟨rfl, hb9⟩))
    exact ⟨rfl, by rw [E]; rfl, hB.trans (hb9.mono hB.size)⟩
end Go.Proofs.YtoobileejdhikaaGreat
