/-
  The program's Difference of two values that are known.
-/
import Derived.Test.YtoobileejdhikaaGreatGa0
import Derived.Test.YtoobileejdhikaaGreatGb0
namespace Go.Proofs.YtoobileejdhikaaGreat
set_option maxRecDepth 100000
set_option maxHeartbeats 4000000
open Go.RowKit
attribute [local go_sem ↓] Go.wp_at_zero Go.wp_at_succ

theorem VAt.alloc {w : World} {g : Nat} {v : KV} (h : VAt w g v) (o : Obj) : VAt (w.alloc o) g v := ⟨(heap_alloc_old w o h.lt).trans h.row⟩
def numSub (a b : KV) : KV := numV (ordL (bor a.nl b.nm == bor a.nm b.nl) ((a.nl - b.nm) % 18446744073709551616)) (ordM (bor a.nl b.nm == bor a.nm b.nl) ((a.nm - b.nl) % 18446744073709551616))
def apartL (a b : KV) : Int := if a.pl - b.pm < 0 ∧ 0 ≤ a.pm - b.pl then 0 else IntKind.u64.wrap (a.pl - b.pm)
def apartM (a b : KV) : Int := if a.pl - b.pm < 0 ∧ 0 ≤ a.pm - b.pl then 18446744073709551615 else IntKind.u64.wrap (a.pm - b.pl)
def differenceK (a b : KV) : Option KV :=
 if b.kind = 1 then (if a.kind = 1 then some (numSub a b) else if stepsOk b then movedK a (-wrap64 b.nm) (-wrap64 b.nl) else none)
 else if a.kind = b.kind then some (numV (apartL a b) (apartM a b)) else none

theorem apartK_any (x y : KV) (w : World) (_b1 : -1000 ≤ x.pl) (_b2 : x.pl ≤ 1000) (_b3 : -1000 ≤ x.pm) (_b4 : x.pm ≤ 1000) (_b5 : -1000 ≤ y.pl) (_b6 : y.pl ≤ 1000) (_b7 : -1000 ≤ y.pm) (_b8 : y.pm ≤ 1000) :
  Calls Tryz.prog 190 #[.agg #[.int .i64 x.pl, .int .i64 x.pm], .agg #[.int .i64 y.pl, .int .i64 y.pm]] w fun e w' => e = .returned (.agg #[.int .u64 (apartL x y), .int .u64 (apartM x y)]) ∧ Below w.heap.size w w' := by
 unfold apartL apartM
 exact apart_any x.pl x.pm y.pl y.pm w _b1 _b2 _b3 _b4 _b5 _b6 _b7 _b8

theorem Difference_any (s : KS) (a b : Nat) (w : World) (ha : a < 9) (hb : b < 9) (ka : (s.v a).kind ≠ 0) (kb : (s.v b).kind ≠ 0) (oa : (s.v a).Ok) (ob : (s.v b).Ok) :
  Calls Tryz.prog 155 #[.agg s.cells, .int .u8 a, .int .u8 b] w fun e w' => e = kEnd (differenceK (s.v a) (s.v b)) s.at1 ∧ Below w.heap.size w w' := by
 go_enter Tryz.func155, Tryz.ntmps155
 go_wp2_with fail
 generalize hW : ((w.alloc (Obj.cells s.cells 117)).alloc (Obj.cells #[.int .u8 0, .int .u64 0, .int .u64 0, .int .i64 0, .int .i64 0, .bool false] 114)) = W0
 have k0 : KAt W0 w.heap.size s := by subst hW; with_reducible exact KAt.alloc (KAt.new _ _) _
 have kR : VAt W0 (w.heap.size + 1) kNone := by subst hW; exact ⟨heap_alloc2_new _ _ _⟩
 have hB : Below w.heap.size w W0 := by subst hW; exact ((Below.refl _ _).alloc (Nat.le_refl _) _).alloc (by simp) _
 clear hW
 go_cut [7, 8] (fun p7 p8 wx => ∃ PA PB : Nat, p7 = .pointer (some ⟨PA, 0, none⟩) ∧ p8 = .pointer (some ⟨PB, 0, none⟩) ∧ KAt wx w.heap.size s ∧ VAt wx (w.heap.size + 1) kNone ∧ VAt wx PA (s.v a) ∧ VAt wx PB (s.v b) ∧ PA ≠ w.heap.size + 1 ∧ PB ≠ w.heap.size + 1 ∧ Below w.heap.size w wx)
 case first =>
  refine wp_region_held_drew (S := fun w' => KAt w' w.heap.size s) (by kernel_rfl) k0.drew (fun hHeld => ?_)
  have kR := kR.drew
  have hB := hB.drew
  refine tkY 0 rfl (yieldsK (by rfl) _ rfl (w.heap.size) rfl s (fun w h => h)) ?_
  try simp only [Act.put]
  refine tkH 1 ?_
  try simp only [Act.put]
  refine tkY 3 rfl (yieldsK (by rfl) _ rfl (w.heap.size) rfl s (fun w h => h)) ?_
  try simp only [Act.put]
  refine tkH 4 ?_
  try simp only [Act.put]
  iterate 6 (all_goals ((first | refine rdH3 2 6 7 (fun K hK => ?_) (fun K hK => ?_) (fun K hK => ?_) | refine rdH3 5 6 7 (fun K hK => ?_) (fun K hK => ?_) (fun K hK => ?_) | refine rdH2 2 6 (fun K hK => ?_) (fun K hK => ?_) | refine rdH2 2 7 (fun K hK => ?_) (fun K hK => ?_) | refine rdH2 5 6 (fun K hK => ?_) (fun K hK => ?_) | refine rdH2 5 7 (fun K hK => ?_) (fun K hK => ?_) | refine rdH2 6 7 (fun K hK => ?_) (fun K hK => ?_) | refine rdH1 2 (fun K hK => ?_) | refine rdH1 5 (fun K hK => ?_) | refine rdH1 6 (fun K hK => ?_) | refine rdH1 7 (fun K hK => ?_) | refine rdH1 8 (fun K hK => ?_) | refine rdH1 9 (fun K hK => ?_)) <;> (first | (refine wpO_storeV _ _ rfl PA rfl (s.v a) rfl _ kA ?_; refine hK.out _ _ (hHeld.rowAway nPAG _) (fun hHeld => ?_); clear hK K; (try simp only [Act.put]); have kR := kR.rowAway nPAR (s.v a).arr; have kB := kB.rowAway nAB (s.v a).arr; have kA := kA.over (s.v a); have hB := below_setRowK hB lPA (s.v a).arr) | (refine wpO_storeV _ _ rfl PB rfl (s.v b) rfl _ kB ?_; refine hK.out _ _ (hHeld.rowAway nPBG _) (fun hHeld => ?_); clear hK K; (try simp only [Act.put]); have kR := kR.rowAway nPBR (s.v b).arr; have kA := kA.rowAway (Ne.symm nAB) (s.v b).arr; have kB := kB.over (s.v b); have hB := below_setRowK hB lPB (s.v b).arr) | (refine wpO_allocVd 7 rfl rfl (fun _ PA kA hP hbX => ?_); have hRlt := kR.lt; (try have hQlt := kB.lt); have hN := hHeld.keep hbX; have kR := kR.keep hbX; have hB := hB.trans (hbX.mono hB.size); (try have kB := kB.keep hbX); have nPAG : PA ≠ w.heap.size := (by have := hHeld.lt; omega); have nPAR : PA ≠ w.heap.size + 1 := (by have := hRlt; omega); have lPA : w.heap.size ≤ PA := (by have := hHeld.lt; omega); (try have nAB : PA ≠ PB := (by omega)); refine hK.out _ _ hN (fun hHeld => ?_); clear hK K; (try simp only [Act.put]); clear hN hbX hP) | (refine wpO_allocVd 8 rfl rfl (fun _ PB kB hP hbX => ?_); have hRlt := kR.lt; (try have hQlt := kA.lt); have hN := hHeld.keep hbX; have kR := kR.keep hbX; have hB := hB.trans (hbX.mono hB.size); (try have kA := kA.keep hbX); have nPBG : PB ≠ w.heap.size := (by have := hHeld.lt; omega); have nPBR : PB ≠ w.heap.size + 1 := (by have := hRlt; omega); have lPB : w.heap.size ≤ PB := (by have := hHeld.lt; omega); (try have nAB : PA ≠ PB := (by omega)); refine hK.out _ _ hN (fun hHeld => ?_); clear hK K; (try simp only [Act.put]); clear hN hbX hP) | (go_simp; (with_reducible show Calls _ _ #[_, .int .u8 (a : Nat)] _ _); refine (read_ok s a _ ha ka).mono ?_; rintro e W2 ⟨rfl, hbX⟩; have hN := hHeld.keep hbX; have kR := kR.keep hbX; have hB := hB.trans (hbX.mono hB.size); (try have kA := kA.keep hbX); (try have kB := kB.keep hbX); go_wp2_with fail; refine hK.out _ _ hN (fun hHeld => ?_); clear hK K; (try simp only [Act.put]); clear hN hbX) | (go_simp; (with_reducible show Calls _ _ #[_, .int .u8 (b : Nat)] _ _); refine (read_ok s b _ hb kb).mono ?_; rintro e W2 ⟨rfl, hbX⟩; have hN := hHeld.keep hbX; have kR := kR.keep hbX; have hB := hB.trans (hbX.mono hB.size); (try have kA := kA.keep hbX); (try have kB := kB.keep hbX); go_wp2_with fail; refine hK.out _ _ hN (fun hHeld => ?_); clear hK K; (try simp only [Act.put]); clear hN hbX))))
  all_goals (refine wpAnyH_done (by kernel_rfl) ?_ _; go_wp2_with fail; go_meet; case rel => exact ⟨PA, PB, rfl, rfl, hHeld, kR, kA, kB, nPAR, nPBR, hB⟩)
 case rest =>
  obtain ⟨PA, PB, rfl, rfl, k4, kR, kA, kB, nAR, nBR, hB⟩ := hcut
  have xa0 := kA.c0
  have xa1 := kA.c1
  have xa2 := kA.c2
  have xa3 := kA.c3
  have xa4 := kA.c4
  have xa5 := kA.c5
  have xb0 := kB.c0
  have xb1 := kB.c1
  have xb2 := kB.c2
  have xb3 := kB.c3
  have xb4 := kB.c4
  have xb5 := kB.c5
  have y4 := kR
  by_cases nb : (s.v b).kind = 1
  ·have nbq : ((s.v b).kind == 1) = true := by simpa using nb
   by_cases na : (s.v a).kind = 1
   ·have naq : ((s.v a).kind == 1) = true := by simpa using na
    have E : differenceK (s.v a) (s.v b) = some (numSub (s.v a) (s.v b)) := by simp [differenceK, na, nb]
    have NA := hideK na
    have NB := hideK nb
    clear na nb
    go_wp2_with (first | (go_at_call 189; refine (kSub_any _ _ _ _ _ oa.nl0 oa.nm0 ob.nl0 ob.nm0 oa.nl1 oa.nm1 ob.nl1 ob.nm1).mono ?_; rintro e W5 ⟨rfl, hbX⟩; have kR5 := kR.keep hbX; have hB5 := hB.trans (hbX.mono hB.size)) | (go_at_call 182; refine (numberIn_any _ _ _).mono ?_; rintro e W6 ⟨rfl, hbX⟩; have kR6 := kR5.keep hbX; have hB6 := hB5.trans (hbX.mono hB5.size); have y0 := kR6.c0; have y1 := kR6.c1; have y2 := kR6.c2; have y3 := kR6.c3; have y4 := kR6.c4; have y5 := kR6.c5; have yz := kR6.fz))
    exact bodyPost_ret (v := .agg #[.int .u8 1, .int .u64 (ordL (bor (s.v a).nl (s.v b).nm == bor (s.v a).nm (s.v b).nl) (((s.v a).nl - (s.v b).nm) % 18446744073709551616)), .int .u64 (ordM (bor (s.v a).nl (s.v b).nm == bor (s.v a).nm (s.v b).nl) (((s.v a).nm - (s.v b).nl) % 18446744073709551616)), .int .i64 0, .int .i64 0, .bool false]) (by simp [results, Tryz.results155, go_sem, y0, y1, y2, y3, y4, y5, kNone]) rfl ⟨by rw [E]; rfl, ((((((hB6.setCell (by simp) _).setCell (by simp) _).setCell (by simp) _).setCell (by simp) _).setCell (by simp) _).setCell (by simp) _)⟩
   ·have naq : ((s.v a).kind == 1) = false := by simpa using na
    by_cases hst : stepsOk (s.v b)
    ·obtain ⟨h1, h2, h3⟩ := hst
     have HST : stepsOk (s.v b) := ⟨h1, h2, h3⟩
     by_cases hmv : -1000 ≤ (s.v a).pl + -wrap64 (s.v b).nm ∧ (s.v a).pm + -wrap64 (s.v b).nl ≤ 1000
     ·have E : differenceK (s.v a) (s.v b) = some ⟨(s.v a).kind, 0, 0, (s.v a).pl + -wrap64 (s.v b).nm, (s.v a).pm + -wrap64 (s.v b).nl, false⟩ := by simp [differenceK, na, nb, HST, movedK, hmv]
      obtain ⟨m1, m2⟩ := hmv
      have HS := hideK HST
      clear HST
      have NA := hideK na
      have NB := hideK nb
      clear na nb
      go_wp2_with (first | (refine wpK_load rfl _ rfl w.heap.size rfl s (by first | exact k4 | exact k5.alloc _) ?_) | (go_at_call 188; refine (steps_ok s _ _ _ h1 h2 h3).mono ?_; rintro e W5 ⟨rfl, hbX⟩; have k5 := k4.keep hbX; have kA5 := kA.keep hbX; have kR5 := kR.keep hbX; have hB5 := hB.trans (hbX.mono hB.size); have c0 := (fun X => cellAlloc X kA5.c0); have c1 := (fun X => cellAlloc X kA5.c1); have c2 := (fun X => cellAlloc X kA5.c2); have c3 := (fun X => cellAlloc X kA5.c3); have c4 := (fun X => cellAlloc X kA5.c4); have c5 := (fun X => cellAlloc X kA5.c5); have nP : ¬ W5.heap.size = PA := Nat.ne_of_gt kA5.lt; have nR : ¬ W5.heap.size = w.heap.size + 1 := Nat.ne_of_gt kR5.lt) | (go_at_call 187; refine (moved_ok s _ _ _ _ _ _ _ _ _ oa.pl0 oa.pl1 oa.pm0 oa.pm1 (by omega) (by omega) (by omega) (by omega) m1 m2).mono ?_; rintro e W7 ⟨rfl, hbY⟩; have kR7 := (kR5.alloc _).keep hbY; have hB6 := hB5.alloc hB5.size (spI (wrap64 (s.v b).nl) (wrap64 (s.v b).nm)); have hB7 := hB6.trans (hbY.mono hB6.size); have y0 := kR7.c0; have y1 := kR7.c1; have y2 := kR7.c2; have y3 := kR7.c3; have y4 := kR7.c4; have y5 := kR7.c5; have yz := kR7.fz))
      exact bodyPost_ret (v := .agg #[.int .u8 (s.v a).kind, .int .u64 0, .int .u64 0, .int .i64 ((s.v a).pl + -wrap64 (s.v b).nm), .int .i64 ((s.v a).pm + -wrap64 (s.v b).nl), .bool false]) (by simp [results, Tryz.results155, go_sem, y0, y1, y2, y3, y4, y5, kNone]) rfl ⟨by rw [E]; rfl, ((((((hB7.setCell (by simp) _).setCell (by simp) _).setCell (by simp) _).setCell (by simp) _).setCell (by simp) _).setCell (by simp) _)⟩
     ·have E : differenceK (s.v a) (s.v b) = none := by simp [differenceK, na, nb, HST, movedK]; omega
      have HS := hideK HST
      clear HST
      have NA := hideK na
      have NB := hideK nb
      clear na nb
      go_wp2_with (first | (refine wpK_load rfl _ rfl w.heap.size rfl s (by first | exact k4 | exact k5.alloc _) ?_) | (go_at_call 188; refine (steps_ok s _ _ _ h1 h2 h3).mono ?_; rintro e W5 ⟨rfl, hbX⟩; have k5 := k4.keep hbX; have kA5 := kA.keep hbX; have kR5 := kR.keep hbX; have hB5 := hB.trans (hbX.mono hB.size); have c0 := (fun X => cellAlloc X kA5.c0); have c1 := (fun X => cellAlloc X kA5.c1); have c2 := (fun X => cellAlloc X kA5.c2); have c3 := (fun X => cellAlloc X kA5.c3); have c4 := (fun X => cellAlloc X kA5.c4); have c5 := (fun X => cellAlloc X kA5.c5); have nP : ¬ W5.heap.size = PA := Nat.ne_of_gt kA5.lt; have nR : ¬ W5.heap.size = w.heap.size + 1 := Nat.ne_of_gt kR5.lt) | (go_at_call 187; refine (moved_no s _ _ _ _ _ _ _ _ _ oa.pl0 oa.pl1 oa.pm0 oa.pm1 (by omega) (by omega) (by omega) (by omega) hmv).mono ?_; rintro e W7 ⟨rfl, hbY⟩; have hB6 := hB5.alloc hB5.size (spI (wrap64 (s.v b).nl) (wrap64 (s.v b).nm))))
      exact ⟨rfl, by rw [E]; rfl, hB6.trans (hbY.mono hB6.size)⟩
    ·have E : differenceK (s.v a) (s.v b) = none := by simp [differenceK, na, nb, hst]
     have NA := hideK na
     have NB := hideK nb
     clear na nb
     go_wp2_with (first | (refine wpK_load rfl _ rfl w.heap.size rfl s (by first | exact k4 | exact k5.alloc _) ?_) | (go_at_call 188; refine (steps_no s _ _ _ hst).mono ?_; rintro e W5 ⟨rfl, hbX⟩))
     exact ⟨rfl, by rw [E]; rfl, hB.trans (hbX.mono hB.size)⟩
  ·have nbq : ((s.v b).kind == 1) = false := by simpa using nb
   by_cases ne : (s.v a).kind = (s.v b).kind
   ·have E : differenceK (s.v a) (s.v b) = some (numV (apartL (s.v a) (s.v b)) (apartM (s.v a) (s.v b))) := by simp [differenceK, nb, ne]
    have neq : ((s.v a).kind == (s.v b).kind) = true := by simpa using ne
    have naq : ((s.v a).kind == 1) = false := by rw [ne]; exact nbq
    have NE := hideK ne
    have NB := hideK nb
    clear ne nb
    go_wp2_with (first | (go_at_call 190; refine (apartK_any (s.v a) (s.v b) _ oa.pl0 oa.pl1 oa.pm0 oa.pm1 ob.pl0 ob.pl1 ob.pm0 ob.pm1).mono ?_; rintro e W5 ⟨rfl, hbX⟩; have kR5 := kR.keep hbX; have hB5 := hB.trans (hbX.mono hB.size)) | (go_at_call 182; refine (numberIn_any _ _ _).mono ?_; rintro e W6 ⟨rfl, hbX⟩; have kR6 := kR5.keep hbX; have hB6 := hB5.trans (hbX.mono hB5.size); have y0 := kR6.c0; have y1 := kR6.c1; have y2 := kR6.c2; have y3 := kR6.c3; have y4 := kR6.c4; have y5 := kR6.c5; have yz := kR6.fz))
    exact bodyPost_ret (v := .agg #[.int .u8 1, .int .u64 (apartL (s.v a) (s.v b)), .int .u64 (apartM (s.v a) (s.v b)), .int .i64 0, .int .i64 0, .bool false]) (by simp [results, Tryz.results155, go_sem, y0, y1, y2, y3, y4, y5, kNone]) rfl ⟨by rw [E]; rfl, ((((((hB6.setCell (by simp) _).setCell (by simp) _).setCell (by simp) _).setCell (by simp) _).setCell (by simp) _).setCell (by simp) _)⟩
   ·have E : differenceK (s.v a) (s.v b) = none := by simp [differenceK, nb, ne]
    have neq : ((s.v a).kind == (s.v b).kind) = false := by simpa using ne
    have NE := hideK ne
    have NB := hideK nb
    clear ne nb
    by_cases na : (s.v a).kind = 1
    ·have naq : ((s.v a).kind == 1) = true := by simpa using na
     have NA := hideK na
     clear na
     go_wp2_with (first | (refine wpK_load rfl _ rfl w.heap.size rfl s (by first | exact k4 | exact k4.drew) ?_) | (go_at_call 185; refine (harm_any s _).mono ?_; rintro e W9 ⟨rfl, hb9⟩))
     exact ⟨rfl, by rw [E]; rfl, hB.trans (hb9.mono hB.size)⟩
    ·have naq : ((s.v a).kind == 1) = false := by simpa using na
     have NA := hideK na
     clear na
     go_wp2_with (first | (refine wpK_load rfl _ rfl w.heap.size rfl s (by first | exact k4 | exact k4.drew) ?_) | (go_at_call 185; refine (harm_any s _).mono ?_; rintro e W9 ⟨rfl, hb9⟩))
     exact ⟨rfl, by rw [E]; rfl, hB.trans (hb9.mono hB.size)⟩
end Go.Proofs.YtoobileejdhikaaGreat
