/-
  The program looks at an instruction: operations on two numbers.
-/
import Derived.Test.YtoobileejdhikaaGreatGa0
import Derived.Test.YtoobileejdhikaaGreatGb3
namespace Go.Proofs.YtoobileejdhikaaGreat
set_option maxRecDepth 100000
set_option maxHeartbeats 2000000
open Go.RowKit
attribute [local go_sem ↓] Go.wp_at_zero Go.wp_at_succ

structure UAt (w : World) (g : Nat) (l m : Int) : Prop where
 row : w.heap[g]? = some (.cells #[.int .u64 l, .int .u64 m] 110)
theorem UAt.lt {w : World} {g : Nat} {l m : Int} (h : UAt w g l m) : g < w.heap.size := (Array.getElem?_eq_some_iff.1 h.row).1
theorem UAt.keep {W w1 : World} {g : Nat} {l m : Int} (h : UAt W g l m) (hb : Below W.heap.size W w1) : UAt w1 g l m := ⟨(hb.block g h.lt).trans h.row⟩
theorem UAt.over {w : World} {g : Nat} {l m : Int} (h : UAt w g l m) (l' m' : Int) : UAt (w.setRow g #[.int .u64 l', .int .u64 m']) g l' m' := ⟨setRow_heap w g _ _ _ _ h.row⟩
theorem UAt.c0 {w : World} {g : Nat} {l m : Int} (h : UAt w g l m) : w.cell? ⟨g, 0, none⟩ = some (.int .u64 l) := by rw [cell_of_row w g _ _ _ _ h.row]; rfl
theorem UAt.c1 {w : World} {g : Nat} {l m : Int} (h : UAt w g l m) : w.cell? ⟨g, 1, none⟩ = some (.int .u64 m) := by rw [cell_of_row w g _ _ _ _ h.row]; rfl
theorem zeroU (w : World) : Sem.run Tryz.prog (zeroValue 110) w = .ok (.agg #[.int .u64 0, .int .u64 0]) w := by kernel_rfl
theorem infoU : (Tryz.prog.info? 110).map (·.size) = some 2 := by kernel_rfl
theorem wpO_allocU {o : Oper} {a : Act} {w : World} {K : Act → World → Prop} {Q : Exit → Act → World → Prop} (ho : o.op = .alloc 110)
  (h : ∀ (W' : World) (P : Nat), UAt W' P 0 0 → P = w.heap.size → Below w.heap.size w W' → K (a.put o.dst (.pointer (some ⟨P, 0, none⟩))) W') : o.wp Tryz.prog a w K Q := by
 have hz := zeroU
 unfold Oper.wp execOp
 simp only [ho]
 have := h (w.alloc (.cells #[.int .u64 0, .int .u64 0] 110)) w.heap.size ⟨heap_alloc_new w _⟩ rfl ((Below.refl _ _).alloc (Nat.le_refl _) _)
 simp [go_sem, hz]
 exact this
theorem wpO_storeU {o : Oper} {a : Act} {w : World} {K : Act → World → Prop} {Q : Exit → Act → World → Prop} (x y : Operand) (ho : o.op = .store 110 x y)
  (g : Nat) (hx : a.eval x = .pointer (some ⟨g, 0, none⟩)) (l' m' : Int) (hy : a.eval y = .agg #[.int .u64 l', .int .u64 m']) (l m : Int) (hg : UAt w g l m)
  (h : K (a.put o.dst undef) (w.setRow g #[.int .u64 l', .int .u64 m'])) : o.wp Tryz.prog a w K Q :=
 wp_store_row _ x y ho g _ hx hy _ _ hg.row infoU rfl (by simp [Value.oneCell']) h
def numL (s : KS) (d r : Nat) (l m : Int) : Option (KS × KS) := if (s.v d).kind = 1 ∧ (s.v r).kind = 1 then some (s.set d (numV l m), KS.zero) else none

theorem lookNumbers1_any (s : KS) (op of n : Int) (d c : Nat) (P : Nat) (w : World) (F : Nat) (fl fm : Int) (eF : ∀ x y w, Sem.run Tryz.prog (callFunc F #[x, y]) w = .ok (.enter F #[x, y]) w) (hP : w.cell? ⟨P, 0, none⟩ = some (.func (.func F) #[] #[])) (hd : d < 9) (hc : secR op c < 9) (CF0 : (s.v d).kind = 1 → (s.v (secR op c)).kind = 1 → ∀ w, Calls Tryz.prog F #[.agg #[.int .u64 (s.v d).nl, .int .u64 (s.v d).nm], .agg #[.int .u64 (s.v (secR op c)).nl, .int .u64 (s.v (secR op c)).nm]] w fun e w' => e = .returned (.agg #[.int .u64 fl, .int .u64 fm]) ∧ Below w.heap.size w w') :
  Calls Tryz.prog 156 #[.agg #[.int .u8 op, .int .u8 d, .int .u8 c, .int .i16 of, .int .i32 n], .agg s.cells, .pointer (some ⟨P, 0, none⟩)] w fun e w' => e = lkEnd (numL s d (secR op c) fl fm) s.at1 ∧ Below w.heap.size w w' := by
 have hz := zeroK
 have C1 := fun w => readNumber_any s d w hd
 have C2 := fun w => readNumber_any s (secR op c) w hc
 by_cases h1 : (s.v d).kind = 1
 ·simp only [if_pos h1] at C1
  by_cases h2 : (s.v (secR op c)).kind = 1
  ·simp only [if_pos h2] at C2
   have E : numL s d (secR op c) fl fm = some (s.set d (numV fl fm), KS.zero) := if_pos ⟨h1, h2⟩
   have CF := CF0 h1 h2
   clear h1 h2 CF0
   go_enter Tryz.func156, Tryz.ntmps156
   go_wp2_with fail
   have lP : P < w.heap.size := block_lt_of_cell hP
   generalize hW : ((((w.alloc (Obj.cells #[Value.int IntKind.u8 op, Value.int IntKind.u8 d, Value.int IntKind.u8 c, Value.int IntKind.i16 of, Value.int IntKind.i32 n] 121)).alloc (Obj.cells s.cells 117)).alloc (Obj.cells KS.zero.cells 117)).alloc (Obj.cells KS.zero.cells 117)) = W0
   have hs0 : KAt W0 (w.heap.size + 1) s := by subst hW; exact KAt.alloc (KAt.alloc (KAt.top (by simp <;> omega)) _) _
   have hs1 : W0.cell? ⟨w.heap.size, 0, none⟩ = some (.int .u8 op) := by subst hW; simp [go_sem]
   have hs2 : W0.cell? ⟨w.heap.size, 1, none⟩ = some (.int .u8 d) := by subst hW; simp [go_sem]
   have hs3 : W0.cell? ⟨w.heap.size, 2, none⟩ = some (.int .u8 c) := by subst hW; simp [go_sem]
   have hs4 : W0.cell? ⟨w.heap.size, 3, none⟩ = some (.int .i16 of) := by subst hW; simp [go_sem]
   have hs5 : W0.cell? ⟨w.heap.size, 4, none⟩ = some (.int .i32 n) := by subst hW; simp [go_sem]
   have hs6 : W0.cell? ⟨P, 0, none⟩ = some (.func (.func F) #[] #[]) := by subst hW; exact cellAlloc _ (cellAlloc _ (cellAlloc _ (cellAlloc _ hP)))
   have kr0_0 : KAt W0 (w.heap.size + 1 + 1) KS.zero := by subst hW; exact KAt.alloc (KAt.top (by simp <;> omega)) _
   have kr0_1 : KAt W0 (w.heap.size + 1 + 1 + 1) KS.zero := by subst hW; exact KAt.top (by simp <;> omega)
   have hB0 : Below w.heap.size w W0 := by subst hW; exact bel4 _ _ _ _ _
   clear hW
   have kr1 := kr0_0
   have kr2 := kr0_1
   have hB := hB0
   clear kr0_0 kr0_1 hB0
   go_cut [7] (fun p7 wx => ∃ PU : Nat, p7 = .pointer (some ⟨PU, 0, none⟩) ∧ KAt wx (w.heap.size + 1) s ∧ wx.cell? ⟨w.heap.size, 0, none⟩ = some (.int .u8 op) ∧ wx.cell? ⟨w.heap.size, 1, none⟩ = some (.int .u8 d) ∧ wx.cell? ⟨w.heap.size, 2, none⟩ = some (.int .u8 c) ∧ wx.cell? ⟨w.heap.size, 3, none⟩ = some (.int .i16 of) ∧ wx.cell? ⟨w.heap.size, 4, none⟩ = some (.int .i32 n) ∧ KAt wx (w.heap.size + 1 + 1) KS.zero ∧ KAt wx (w.heap.size + 1 + 1 + 1) KS.zero ∧ UAt wx PU fl fm ∧ Below w.heap.size w wx)
   case first =>
    have KP1 : Hid (∀ wa wb : World, (fun w' => KAt w' (w.heap.size + 1) s ∧ w'.cell? ⟨w.heap.size, 0, none⟩ = some (.int .u8 op) ∧ w'.cell? ⟨w.heap.size, 1, none⟩ = some (.int .u8 d) ∧ w'.cell? ⟨w.heap.size, 2, none⟩ = some (.int .u8 c) ∧ w'.cell? ⟨w.heap.size, 3, none⟩ = some (.int .i16 of) ∧ w'.cell? ⟨w.heap.size, 4, none⟩ = some (.int .i32 n) ∧ w'.cell? ⟨P, 0, none⟩ = some (.func (.func F) #[] #[])) wa → Below wa.heap.size wa wb → (fun w' => KAt w' (w.heap.size + 1) s ∧ w'.cell? ⟨w.heap.size, 0, none⟩ = some (.int .u8 op) ∧ w'.cell? ⟨w.heap.size, 1, none⟩ = some (.int .u8 d) ∧ w'.cell? ⟨w.heap.size, 2, none⟩ = some (.int .u8 c) ∧ w'.cell? ⟨w.heap.size, 3, none⟩ = some (.int .i16 of) ∧ w'.cell? ⟨w.heap.size, 4, none⟩ = some (.int .i32 n) ∧ w'.cell? ⟨P, 0, none⟩ = some (.func (.func F) #[] #[])) wb) := fun wa wb hHeld hbX => ⟨hHeld.1.keep hbX, cellKeep hbX hHeld.2.1, cellKeep hbX hHeld.2.2.1, cellKeep hbX hHeld.2.2.2.1, cellKeep hbX hHeld.2.2.2.2.1, cellKeep hbX hHeld.2.2.2.2.2.1, cellKeep hbX hHeld.2.2.2.2.2.2⟩
    refine wp_region_held_drew (S := fun w' => KAt w' (w.heap.size + 1) s ∧ w'.cell? ⟨w.heap.size, 0, none⟩ = some (.int .u8 op) ∧ w'.cell? ⟨w.heap.size, 1, none⟩ = some (.int .u8 d) ∧ w'.cell? ⟨w.heap.size, 2, none⟩ = some (.int .u8 c) ∧ w'.cell? ⟨w.heap.size, 3, none⟩ = some (.int .i16 of) ∧ w'.cell? ⟨w.heap.size, 4, none⟩ = some (.int .i32 n) ∧ w'.cell? ⟨P, 0, none⟩ = some (.func (.func F) #[] #[])) (by kernel_rfl) ⟨hs0.drew, hs1, hs2, hs3, hs4, hs5, hs6⟩ (fun hHeld => ?_)
    have kr1 := kr1.drew
    have kr2 := kr2.drew
    have hB := hB.drew
    refine tkH 0 ?_
    try simp only [Act.put]
    refine tkY 1 rfl (yieldsK (by rfl) _ rfl (w.heap.size + 1) rfl s (fun w h => h.1)) ?_
    try simp only [Act.put]
    refine tkH 2 ?_
    try simp only [Act.put]
    refine tkH 3 ?_
    try simp only [Act.put]
    refine tkY 5 rfl (yieldsK (by rfl) _ rfl (w.heap.size + 1) rfl s (fun w h => h.1)) ?_
    try simp only [Act.put]
    refine tkH 6 ?_
    try simp only [Act.put]
    refine wpAnyH_ready (rs := [4, 10]) (by kernel_rfl) (by simp) ?_
    refine AllReadyH.cons rfl (fun K hK => ?_) ?_
    ·go_simp
     refine (C1 _).mono ?_
     rintro e W4 ⟨rfl, hbX⟩
     have hN := KP1.out _ W4 hHeld hbX
     have kr1 := kr1.keep hbX
     have kr2 := kr2.keep hbX
     have hB := hB.trans (hbX.mono hB.size)
     go_wp2_with fail
     refine hK.out _ _ ?_ (fun hHeld => ?_)
     ·exact hN
     clear hK K
     try simp only [Act.put]
     clear hN hbX
     refine wpAnyH_ready (rs := [7, 10]) (by kernel_rfl) (by simp) ?_
     refine AllReadyH.cons rfl (fun K hK => ?_) ?_
     ·go_simp
      refine (isecond_any op d c of n _).mono ?_
      rintro e W7 ⟨rfl, hbX⟩
      have hN := KP1.out _ W7 hHeld hbX
      have kr1 := kr1.keep hbX
      have kr2 := kr2.keep hbX
      have hB := hB.trans (hbX.mono hB.size)
      go_wp2_with fail
      refine hK.out _ _ ?_ (fun hHeld => ?_)
      ·exact hN
      clear hK K
      try simp only [Act.put]
      clear hN hbX
      refine wpAnyH_ready (rs := [8, 10]) (by kernel_rfl) (by simp) ?_
      refine AllReadyH.cons rfl (fun K hK => ?_) ?_
      ·go_simp
       refine (C2 _).mono ?_
       rintro e W8 ⟨rfl, hbX⟩
       have hN := KP1.out _ W8 hHeld hbX
       have kr1 := kr1.keep hbX
       have kr2 := kr2.keep hbX
       have hB := hB.trans (hbX.mono hB.size)
       go_wp2_with fail
       refine hK.out _ _ ?_ (fun hHeld => ?_)
       ·exact hN
       clear hK K
       try simp only [Act.put]
       clear hN hbX
       refine wpAnyH_ready (rs := [9, 10]) (by kernel_rfl) (by simp) ?_
       refine AllReadyH.cons rfl (fun K hK => ?_) ?_
       ·go_simp
        refine (CF _).mono ?_
        rintro e W9 ⟨rfl, hbX⟩
        have hN := KP1.out _ W9 hHeld hbX
        have kr1 := kr1.keep hbX
        have kr2 := kr2.keep hbX
        have hB := hB.trans (hbX.mono hB.size)
        go_wp2_with fail
        refine hK.out _ _ ?_ (fun hHeld => ?_)
        ·exact hN
        clear hK K
        try simp only [Act.put]
        clear hN hbX
        refine rdH 10 (fun K hK => ?_)
        refine wpO_allocU rfl (fun WU PU kU hPU hbX => ?_)
        show K (Act.put _ (some 7) (.pointer (some ⟨PU, 0, none⟩))) _
        have hN := KP1.out _ WU hHeld hbX
        have lU1 := kr2.lt
        have lPU : w.heap.size + 1 + 1 + 1 < PU := by omega
        clear hPU lU1
        have kr1 := kr1.keep hbX
        have kr2 := kr2.keep hbX
        have hB := hB.trans (hbX.mono hB.size)
        refine hK.out _ _ ?_ (fun hHeld => ?_)
        ·exact hN
        clear hK K
        try simp only [Act.put]
        clear hN hbX
        refine rdH 11 (fun K hK => ?_)
        refine wpO_storeU _ _ rfl PU rfl fl fm rfl _ _ kU ?_
        refine hK.out _ _ ?_ (fun hHeld => ?_)
        ·exact ⟨hHeld.1.rowAway (by omega) _, cellRow (by omega) hHeld.2.1, cellRow (by omega) hHeld.2.2.1, cellRow (by omega) hHeld.2.2.2.1, cellRow (by omega) hHeld.2.2.2.2.1, cellRow (by omega) hHeld.2.2.2.2.2.1, cellRow (by omega) hHeld.2.2.2.2.2.2⟩
        clear hK K
        try simp only [Act.put]
        have kr1 := kr1.rowAway (b := PU) (by omega) #[.int .u64 fl, .int .u64 fm]
        have kr2 := kr2.rowAway (b := PU) (by omega) #[.int .u64 fl, .int .u64 fm]
        have kU := kU.over fl fm
        have hB := below_setRowK hB (g := PU) (by omega) #[.int .u64 fl, .int .u64 fm]
        refine wpAnyH_done (by kernel_rfl) ?_ _
        go_wp2_with fail
        go_meet
        case rel => exact ⟨PU, rfl, hHeld.1, hHeld.2.1, hHeld.2.2.1, hHeld.2.2.2.1, hHeld.2.2.2.2.1, hHeld.2.2.2.2.2.1, kr1, kr2, kU, hB⟩
       refine AllReadyH.cons rfl (fun K hK => ?_) AllReadyH.nil
       refine wpO_allocU rfl (fun WU PU kU hPU hbX => ?_)
       show K (Act.put _ (some 7) (.pointer (some ⟨PU, 0, none⟩))) _
       have hN := KP1.out _ WU hHeld hbX
       have lU1 := kr2.lt
       have lPU : w.heap.size + 1 + 1 + 1 < PU := by omega
       clear hPU lU1
       have kr1 := kr1.keep hbX
       have kr2 := kr2.keep hbX
       have hB := hB.trans (hbX.mono hB.size)
       refine hK.out _ _ ?_ (fun hHeld => ?_)
       ·exact hN
       clear hK K
       try simp only [Act.put]
       clear hN hbX
       refine rdH 9 (fun K hK => ?_)
       go_simp
       refine (CF _).mono ?_
       rintro e W9 ⟨rfl, hbX⟩
       have hN := KP1.out _ W9 hHeld hbX
       have kr1 := kr1.keep hbX
       have kr2 := kr2.keep hbX
       have hB := hB.trans (hbX.mono hB.size)
       have kU := kU.keep hbX
       go_wp2_with fail
       refine hK.out _ _ ?_ (fun hHeld => ?_)
       ·exact hN
       clear hK K
       try simp only [Act.put]
       clear hN hbX
       refine rdH 11 (fun K hK => ?_)
       refine wpO_storeU _ _ rfl PU rfl fl fm rfl _ _ kU ?_
       refine hK.out _ _ ?_ (fun hHeld => ?_)
       ·exact ⟨hHeld.1.rowAway (by omega) _, cellRow (by omega) hHeld.2.1, cellRow (by omega) hHeld.2.2.1, cellRow (by omega) hHeld.2.2.2.1, cellRow (by omega) hHeld.2.2.2.2.1, cellRow (by omega) hHeld.2.2.2.2.2.1, cellRow (by omega) hHeld.2.2.2.2.2.2⟩
       clear hK K
       try simp only [Act.put]
       have kr1 := kr1.rowAway (b := PU) (by omega) #[.int .u64 fl, .int .u64 fm]
       have kr2 := kr2.rowAway (b := PU) (by omega) #[.int .u64 fl, .int .u64 fm]
       have kU := kU.over fl fm
       have hB := below_setRowK hB (g := PU) (by omega) #[.int .u64 fl, .int .u64 fm]
       refine wpAnyH_done (by kernel_rfl) ?_ _
       go_wp2_with fail
       go_meet
       case rel => exact ⟨PU, rfl, hHeld.1, hHeld.2.1, hHeld.2.2.1, hHeld.2.2.2.1, hHeld.2.2.2.2.1, hHeld.2.2.2.2.2.1, kr1, kr2, kU, hB⟩
      refine AllReadyH.cons rfl (fun K hK => ?_) AllReadyH.nil
      refine wpO_allocU rfl (fun WU PU kU hPU hbX => ?_)
      show K (Act.put _ (some 7) (.pointer (some ⟨PU, 0, none⟩))) _
      have hN := KP1.out _ WU hHeld hbX
      have lU1 := kr2.lt
      have lPU : w.heap.size + 1 + 1 + 1 < PU := by omega
      clear hPU lU1
      have kr1 := kr1.keep hbX
      have kr2 := kr2.keep hbX
      have hB := hB.trans (hbX.mono hB.size)
      refine hK.out _ _ ?_ (fun hHeld => ?_)
      ·exact hN
      clear hK K
      try simp only [Act.put]
      clear hN hbX
      refine rdH 8 (fun K hK => ?_)
      go_simp
      refine (C2 _).mono ?_
      rintro e W8 ⟨rfl, hbX⟩
      have hN := KP1.out _ W8 hHeld hbX
      have kr1 := kr1.keep hbX
      have kr2 := kr2.keep hbX
      have hB := hB.trans (hbX.mono hB.size)
      have kU := kU.keep hbX
      go_wp2_with fail
      refine hK.out _ _ ?_ (fun hHeld => ?_)
      ·exact hN
      clear hK K
      try simp only [Act.put]
      clear hN hbX
      refine rdH 9 (fun K hK => ?_)
      go_simp
      refine (CF _).mono ?_
      rintro e W9 ⟨rfl, hbX⟩
      have hN := KP1.out _ W9 hHeld hbX
      have kr1 := kr1.keep hbX
      have kr2 := kr2.keep hbX
      have hB := hB.trans (hbX.mono hB.size)
      have kU := kU.keep hbX
      go_wp2_with fail
      refine hK.out _ _ ?_ (fun hHeld => ?_)
      ·exact hN
      clear hK K
      try simp only [Act.put]
      clear hN hbX
      refine rdH 11 (fun K hK => ?_)
      refine wpO_storeU _ _ rfl PU rfl fl fm rfl _ _ kU ?_
      refine hK.out _ _ ?_ (fun hHeld => ?_)
      ·exact ⟨hHeld.1.rowAway (by omega) _, cellRow (by omega) hHeld.2.1, cellRow (by omega) hHeld.2.2.1, cellRow (by omega) hHeld.2.2.2.1, cellRow (by omega) hHeld.2.2.2.2.1, cellRow (by omega) hHeld.2.2.2.2.2.1, cellRow (by omega) hHeld.2.2.2.2.2.2⟩
      clear hK K
      try simp only [Act.put]
      have kr1 := kr1.rowAway (b := PU) (by omega) #[.int .u64 fl, .int .u64 fm]
      have kr2 := kr2.rowAway (b := PU) (by omega) #[.int .u64 fl, .int .u64 fm]
      have kU := kU.over fl fm
      have hB := below_setRowK hB (g := PU) (by omega) #[.int .u64 fl, .int .u64 fm]
      refine wpAnyH_done (by kernel_rfl) ?_ _
      go_wp2_with fail
      go_meet
      case rel => exact ⟨PU, rfl, hHeld.1, hHeld.2.1, hHeld.2.2.1, hHeld.2.2.2.1, hHeld.2.2.2.2.1, hHeld.2.2.2.2.2.1, kr1, kr2, kU, hB⟩
     refine AllReadyH.cons rfl (fun K hK => ?_) AllReadyH.nil
     refine wpO_allocU rfl (fun WU PU kU hPU hbX => ?_)
     show K (Act.put _ (some 7) (.pointer (some ⟨PU, 0, none⟩))) _
     have hN := KP1.out _ WU hHeld hbX
     have lU1 := kr2.lt
     have lPU : w.heap.size + 1 + 1 + 1 < PU := by omega
     clear hPU lU1
     have kr1 := kr1.keep hbX
     have kr2 := kr2.keep hbX
     have hB := hB.trans (hbX.mono hB.size)
     refine hK.out _ _ ?_ (fun hHeld => ?_)
     ·exact hN
     clear hK K
     try simp only [Act.put]
     clear hN hbX
     refine rdH 7 (fun K hK => ?_)
     go_simp
     refine (isecond_any op d c of n _).mono ?_
     rintro e W7 ⟨rfl, hbX⟩
     have hN := KP1.out _ W7 hHeld hbX
     have kr1 := kr1.keep hbX
     have kr2 := kr2.keep hbX
     have hB := hB.trans (hbX.mono hB.size)
     have kU := kU.keep hbX
     go_wp2_with fail
     refine hK.out _ _ ?_ (fun hHeld => ?_)
     ·exact hN
     clear hK K
     try simp only [Act.put]
     clear hN hbX
     refine rdH 8 (fun K hK => ?_)
     go_simp
     refine (C2 _).mono ?_
     rintro e W8 ⟨rfl, hbX⟩
     have hN := KP1.out _ W8 hHeld hbX
     have kr1 := kr1.keep hbX
     have kr2 := kr2.keep hbX
     have hB := hB.trans (hbX.mono hB.size)
     have kU := kU.keep hbX
     go_wp2_with fail
     refine hK.out _ _ ?_ (fun hHeld => ?_)
     ·exact hN
     clear hK K
     try simp only [Act.put]
     clear hN hbX
     refine rdH 9 (fun K hK => ?_)
     go_simp
     refine (CF _).mono ?_
     rintro e W9 ⟨rfl, hbX⟩
     have hN := KP1.out _ W9 hHeld hbX
     have kr1 := kr1.keep hbX
     have kr2 := kr2.keep hbX
     have hB := hB.trans (hbX.mono hB.size)
     have kU := kU.keep hbX
     go_wp2_with fail
     refine hK.out _ _ ?_ (fun hHeld => ?_)
     ·exact hN
     clear hK K
     try simp only [Act.put]
     clear hN hbX
     refine rdH 11 (fun K hK => ?_)
     refine wpO_storeU _ _ rfl PU rfl fl fm rfl _ _ kU ?_
     refine hK.out _ _ ?_ (fun hHeld => ?_)
     ·exact ⟨hHeld.1.rowAway (by omega) _, cellRow (by omega) hHeld.2.1, cellRow (by omega) hHeld.2.2.1, cellRow (by omega) hHeld.2.2.2.1, cellRow (by omega) hHeld.2.2.2.2.1, cellRow (by omega) hHeld.2.2.2.2.2.1, cellRow (by omega) hHeld.2.2.2.2.2.2⟩
     clear hK K
     try simp only [Act.put]
     have kr1 := kr1.rowAway (b := PU) (by omega) #[.int .u64 fl, .int .u64 fm]
     have kr2 := kr2.rowAway (b := PU) (by omega) #[.int .u64 fl, .int .u64 fm]
     have kU := kU.over fl fm
     have hB := below_setRowK hB (g := PU) (by omega) #[.int .u64 fl, .int .u64 fm]
     refine wpAnyH_done (by kernel_rfl) ?_ _
     go_wp2_with fail
     go_meet
     case rel => exact ⟨PU, rfl, hHeld.1, hHeld.2.1, hHeld.2.2.1, hHeld.2.2.2.1, hHeld.2.2.2.2.1, hHeld.2.2.2.2.2.1, kr1, kr2, kU, hB⟩
    refine AllReadyH.cons rfl (fun K hK => ?_) AllReadyH.nil
    refine wpO_allocU rfl (fun WU PU kU hPU hbX => ?_)
    show K (Act.put _ (some 7) (.pointer (some ⟨PU, 0, none⟩))) _
    have hN := KP1.out _ WU hHeld hbX
    have lU1 := kr2.lt
    have lPU : w.heap.size + 1 + 1 + 1 < PU := by omega
    clear hPU lU1
    have kr1 := kr1.keep hbX
    have kr2 := kr2.keep hbX
    have hB := hB.trans (hbX.mono hB.size)
    refine hK.out _ _ ?_ (fun hHeld => ?_)
    ·exact hN
    clear hK K
    try simp only [Act.put]
    clear hN hbX
    refine rdH 4 (fun K hK => ?_)
    go_simp
    refine (C1 _).mono ?_
    rintro e W4 ⟨rfl, hbX⟩
    have hN := KP1.out _ W4 hHeld hbX
    have kr1 := kr1.keep hbX
    have kr2 := kr2.keep hbX
    have hB := hB.trans (hbX.mono hB.size)
    have kU := kU.keep hbX
    go_wp2_with fail
    refine hK.out _ _ ?_ (fun hHeld => ?_)
    ·exact hN
    clear hK K
    try simp only [Act.put]
    clear hN hbX
    refine rdH 7 (fun K hK => ?_)
    go_simp
    refine (isecond_any op d c of n _).mono ?_
    rintro e W7 ⟨rfl, hbX⟩
    have hN := KP1.out _ W7 hHeld hbX
    have kr1 := kr1.keep hbX
    have kr2 := kr2.keep hbX
    have hB := hB.trans (hbX.mono hB.size)
    have kU := kU.keep hbX
    go_wp2_with fail
    refine hK.out _ _ ?_ (fun hHeld => ?_)
    ·exact hN
    clear hK K
    try simp only [Act.put]
    clear hN hbX
    refine rdH 8 (fun K hK => ?_)
    go_simp
    refine (C2 _).mono ?_
    rintro e W8 ⟨rfl, hbX⟩
    have hN := KP1.out _ W8 hHeld hbX
    have kr1 := kr1.keep hbX
    have kr2 := kr2.keep hbX
    have hB := hB.trans (hbX.mono hB.size)
    have kU := kU.keep hbX
    go_wp2_with fail
    refine hK.out _ _ ?_ (fun hHeld => ?_)
    ·exact hN
    clear hK K
    try simp only [Act.put]
    clear hN hbX
    refine rdH 9 (fun K hK => ?_)
    go_simp
    refine (CF _).mono ?_
    rintro e W9 ⟨rfl, hbX⟩
    have hN := KP1.out _ W9 hHeld hbX
    have kr1 := kr1.keep hbX
    have kr2 := kr2.keep hbX
    have hB := hB.trans (hbX.mono hB.size)
    have kU := kU.keep hbX
    go_wp2_with fail
    refine hK.out _ _ ?_ (fun hHeld => ?_)
    ·exact hN
    clear hK K
    try simp only [Act.put]
    clear hN hbX
    refine rdH 11 (fun K hK => ?_)
    refine wpO_storeU _ _ rfl PU rfl fl fm rfl _ _ kU ?_
    refine hK.out _ _ ?_ (fun hHeld => ?_)
    ·exact ⟨hHeld.1.rowAway (by omega) _, cellRow (by omega) hHeld.2.1, cellRow (by omega) hHeld.2.2.1, cellRow (by omega) hHeld.2.2.2.1, cellRow (by omega) hHeld.2.2.2.2.1, cellRow (by omega) hHeld.2.2.2.2.2.1, cellRow (by omega) hHeld.2.2.2.2.2.2⟩
    clear hK K
    try simp only [Act.put]
    have kr1 := kr1.rowAway (b := PU) (by omega) #[.int .u64 fl, .int .u64 fm]
    have kr2 := kr2.rowAway (b := PU) (by omega) #[.int .u64 fl, .int .u64 fm]
    have kU := kU.over fl fm
    have hB := below_setRowK hB (g := PU) (by omega) #[.int .u64 fl, .int .u64 fm]
    refine wpAnyH_done (by kernel_rfl) ?_ _
    go_wp2_with fail
    go_meet
    case rel => exact ⟨PU, rfl, hHeld.1, hHeld.2.1, hHeld.2.2.1, hHeld.2.2.2.1, hHeld.2.2.2.2.1, hHeld.2.2.2.2.2.1, kr1, kr2, kU, hB⟩
   case rest =>
    obtain ⟨PU, rfl, hs0, hs1, hs2, hs3, hs4, hs5, p0, q0, kU, hB0⟩ := hcut
    have u0 := kU.c0
    have u1 := kU.c1
    go_wp2_with (first | refine wpK_load rfl _ rfl (w.heap.size + 1) rfl s hs0 ?_ | (go_at_call 140; refine (setNumber_any s d fl fm _ hd).mono ?_; rintro e W1 ⟨rfl, hb1⟩; have p1 := p0.keep hb1; have q1 := q0.keep hb1; have hB1 : Below w.heap.size w W1 := hB0.trans (hb1.mono hB0.size)) | (go_at_call 152; refine (nowhere_any _).mono ?_; rintro e W2 ⟨rfl, hb2⟩; have p2 := p1.keep hb2; have q2 := q1.keep hb2; have hB2 : Below w.heap.size w W2 := hB1.trans (hb2.mono hB1.size)) | refine wpK_store rfl _ _ rfl (w.heap.size + 1 + 1) rfl (s.set d (numV fl fm)) rfl KS.zero p2 ?_ | refine wpK_store rfl _ _ rfl (w.heap.size + 1 + 1 + 1) rfl KS.zero rfl KS.zero (KAt.rowAway q2 (by omega) _) ?_)
    exact bodyPost_ret (v := .tuple #[.agg (s.set d (numV fl fm)).cells, .agg KS.zero.cells]) (resK2 Tryz.results156 _ _ (w.heap.size + 1 + 1) (w.heap.size + 1 + 1 + 1) (s.set d (numV fl fm)) KS.zero rfl rfl (KAt.rowAway (KAt.over p2 _) (by omega) _) (KAt.over (KAt.rowAway q2 (by omega) _) _)) rfl ⟨by first | (rw [E]; rfl) | rfl, below_setRowK (below_setRowK hB2 (by omega) _) (by omega) _⟩
  ·simp only [if_neg h2] at C2
   have E : numL s d (secR op c) fl fm = none := if_neg (by simp [h2])
   clear h1 h2 CF0
   go_enter Tryz.func156, Tryz.ntmps156
   go_wp2_with fail
   have lP : P < w.heap.size := block_lt_of_cell hP
   generalize hW : ((((w.alloc (Obj.cells #[Value.int IntKind.u8 op, Value.int IntKind.u8 d, Value.int IntKind.u8 c, Value.int IntKind.i16 of, Value.int IntKind.i32 n] 121)).alloc (Obj.cells s.cells 117)).alloc (Obj.cells KS.zero.cells 117)).alloc (Obj.cells KS.zero.cells 117)) = W0
   have hs0 : KAt W0 (w.heap.size + 1) s := by subst hW; exact KAt.alloc (KAt.alloc (KAt.top (by simp <;> omega)) _) _
   have hs1 : W0.cell? ⟨w.heap.size, 0, none⟩ = some (.int .u8 op) := by subst hW; simp [go_sem]
   have hs2 : W0.cell? ⟨w.heap.size, 1, none⟩ = some (.int .u8 d) := by subst hW; simp [go_sem]
   have hs3 : W0.cell? ⟨w.heap.size, 2, none⟩ = some (.int .u8 c) := by subst hW; simp [go_sem]
   have hs4 : W0.cell? ⟨w.heap.size, 3, none⟩ = some (.int .i16 of) := by subst hW; simp [go_sem]
   have hs5 : W0.cell? ⟨w.heap.size, 4, none⟩ = some (.int .i32 n) := by subst hW; simp [go_sem]
   have hs6 : W0.cell? ⟨P, 0, none⟩ = some (.func (.func F) #[] #[]) := by subst hW; exact cellAlloc _ (cellAlloc _ (cellAlloc _ (cellAlloc _ hP)))
   have kr0_0 : KAt W0 (w.heap.size + 1 + 1) KS.zero := by subst hW; exact KAt.alloc (KAt.top (by simp <;> omega)) _
   have kr0_1 : KAt W0 (w.heap.size + 1 + 1 + 1) KS.zero := by subst hW; exact KAt.top (by simp <;> omega)
   have hB0 : Below w.heap.size w W0 := by subst hW; exact bel4 _ _ _ _ _
   clear hW
   have kr1 := kr0_0
   have kr2 := kr0_1
   have hB := hB0
   clear kr0_0 kr0_1 hB0
   have KP2 : Hid (∀ wa wb : World, (fun w' => KAt w' (w.heap.size + 1) s ∧ w'.cell? ⟨w.heap.size, 0, none⟩ = some (.int .u8 op) ∧ w'.cell? ⟨w.heap.size, 1, none⟩ = some (.int .u8 d) ∧ w'.cell? ⟨w.heap.size, 2, none⟩ = some (.int .u8 c) ∧ w'.cell? ⟨w.heap.size, 3, none⟩ = some (.int .i16 of) ∧ w'.cell? ⟨w.heap.size, 4, none⟩ = some (.int .i32 n) ∧ w'.cell? ⟨P, 0, none⟩ = some (.func (.func F) #[] #[])) wa → Below wa.heap.size wa wb → (fun w' => KAt w' (w.heap.size + 1) s ∧ w'.cell? ⟨w.heap.size, 0, none⟩ = some (.int .u8 op) ∧ w'.cell? ⟨w.heap.size, 1, none⟩ = some (.int .u8 d) ∧ w'.cell? ⟨w.heap.size, 2, none⟩ = some (.int .u8 c) ∧ w'.cell? ⟨w.heap.size, 3, none⟩ = some (.int .i16 of) ∧ w'.cell? ⟨w.heap.size, 4, none⟩ = some (.int .i32 n) ∧ w'.cell? ⟨P, 0, none⟩ = some (.func (.func F) #[] #[])) wb) := fun wa wb hHeld hbX => ⟨hHeld.1.keep hbX, cellKeep hbX hHeld.2.1, cellKeep hbX hHeld.2.2.1, cellKeep hbX hHeld.2.2.2.1, cellKeep hbX hHeld.2.2.2.2.1, cellKeep hbX hHeld.2.2.2.2.2.1, cellKeep hbX hHeld.2.2.2.2.2.2⟩
   refine wp_region_held_drew (S := fun w' => KAt w' (w.heap.size + 1) s ∧ w'.cell? ⟨w.heap.size, 0, none⟩ = some (.int .u8 op) ∧ w'.cell? ⟨w.heap.size, 1, none⟩ = some (.int .u8 d) ∧ w'.cell? ⟨w.heap.size, 2, none⟩ = some (.int .u8 c) ∧ w'.cell? ⟨w.heap.size, 3, none⟩ = some (.int .i16 of) ∧ w'.cell? ⟨w.heap.size, 4, none⟩ = some (.int .i32 n) ∧ w'.cell? ⟨P, 0, none⟩ = some (.func (.func F) #[] #[])) (by kernel_rfl) ⟨hs0.drew, hs1, hs2, hs3, hs4, hs5, hs6⟩ (fun hHeld => ?_)
   have kr1 := kr1.drew
   have kr2 := kr2.drew
   have hB := hB.drew
   refine tkH 0 ?_
   try simp only [Act.put]
   refine tkY 1 rfl (yieldsK (by rfl) _ rfl (w.heap.size + 1) rfl s (fun w h => h.1)) ?_
   try simp only [Act.put]
   refine tkH 2 ?_
   try simp only [Act.put]
   refine tkH 3 ?_
   try simp only [Act.put]
   refine tkY 5 rfl (yieldsK (by rfl) _ rfl (w.heap.size + 1) rfl s (fun w h => h.1)) ?_
   try simp only [Act.put]
   refine tkH 6 ?_
   try simp only [Act.put]
   refine wpAnyH_ready (rs := [4, 10]) (by kernel_rfl) (by simp) ?_
   refine AllReadyH.cons rfl (fun K hK => ?_) ?_
   ·go_simp
    refine (C1 _).mono ?_
    rintro e W4 ⟨rfl, hbX⟩
    have hN := KP2.out _ W4 hHeld hbX
    have kr1 := kr1.keep hbX
    have kr2 := kr2.keep hbX
    have hB := hB.trans (hbX.mono hB.size)
    go_wp2_with fail
    refine hK.out _ _ ?_ (fun hHeld => ?_)
    ·exact hN
    clear hK K
    try simp only [Act.put]
    clear hN hbX
    refine wpAnyH_ready (rs := [7, 10]) (by kernel_rfl) (by simp) ?_
    refine AllReadyH.cons rfl (fun K hK => ?_) ?_
    ·go_simp
     refine (isecond_any op d c of n _).mono ?_
     rintro e W7 ⟨rfl, hbX⟩
     have hN := KP2.out _ W7 hHeld hbX
     have kr1 := kr1.keep hbX
     have kr2 := kr2.keep hbX
     have hB := hB.trans (hbX.mono hB.size)
     go_wp2_with fail
     refine hK.out _ _ ?_ (fun hHeld => ?_)
     ·exact hN
     clear hK K
     try simp only [Act.put]
     clear hN hbX
     refine wpAnyH_ready (rs := [8, 10]) (by kernel_rfl) (by simp) ?_
     refine AllReadyH.cons rfl (fun K hK => ?_) ?_
     ·go_simp
      refine (C2 _).mono ?_
      rintro e WX ⟨rfl, hbX⟩
      go_simp
      exact ⟨rfl, by first | (rw [E]; rfl) | rfl, hB.trans (hbX.mono hB.size)⟩
     refine AllReadyH.cons rfl (fun K hK => ?_) AllReadyH.nil
     refine wpO_allocU rfl (fun WU PU kU hPU hbX => ?_)
     show K (Act.put _ (some 7) (.pointer (some ⟨PU, 0, none⟩))) _
     have hN := KP2.out _ WU hHeld hbX
     have lU1 := kr2.lt
     have lPU : w.heap.size + 1 + 1 + 1 < PU := by omega
     clear hPU lU1
     have kr1 := kr1.keep hbX
     have kr2 := kr2.keep hbX
     have hB := hB.trans (hbX.mono hB.size)
     refine hK.out _ _ ?_ (fun hHeld => ?_)
     ·exact hN
     clear hK K
     try simp only [Act.put]
     clear hN hbX
     refine rdH 8 (fun K hK => ?_)
     go_simp
     refine (C2 _).mono ?_
     rintro e WX ⟨rfl, hbX⟩
     go_simp
     exact ⟨rfl, by first | (rw [E]; rfl) | rfl, hB.trans (hbX.mono hB.size)⟩
    refine AllReadyH.cons rfl (fun K hK => ?_) AllReadyH.nil
    refine wpO_allocU rfl (fun WU PU kU hPU hbX => ?_)
    show K (Act.put _ (some 7) (.pointer (some ⟨PU, 0, none⟩))) _
    have hN := KP2.out _ WU hHeld hbX
    have lU1 := kr2.lt
    have lPU : w.heap.size + 1 + 1 + 1 < PU := by omega
    clear hPU lU1
    have kr1 := kr1.keep hbX
    have kr2 := kr2.keep hbX
    have hB := hB.trans (hbX.mono hB.size)
    refine hK.out _ _ ?_ (fun hHeld => ?_)
    ·exact hN
    clear hK K
    try simp only [Act.put]
    clear hN hbX
    refine rdH 7 (fun K hK => ?_)
    go_simp
    refine (isecond_any op d c of n _).mono ?_
    rintro e W7 ⟨rfl, hbX⟩
    have hN := KP2.out _ W7 hHeld hbX
    have kr1 := kr1.keep hbX
    have kr2 := kr2.keep hbX
    have hB := hB.trans (hbX.mono hB.size)
    have kU := kU.keep hbX
    go_wp2_with fail
    refine hK.out _ _ ?_ (fun hHeld => ?_)
    ·exact hN
    clear hK K
    try simp only [Act.put]
    clear hN hbX
    refine rdH 8 (fun K hK => ?_)
    go_simp
    refine (C2 _).mono ?_
    rintro e WX ⟨rfl, hbX⟩
    go_simp
    exact ⟨rfl, by first | (rw [E]; rfl) | rfl, hB.trans (hbX.mono hB.size)⟩
   refine AllReadyH.cons rfl (fun K hK => ?_) AllReadyH.nil
   refine wpO_allocU rfl (fun WU PU kU hPU hbX => ?_)
   show K (Act.put _ (some 7) (.pointer (some ⟨PU, 0, none⟩))) _
   have hN := KP2.out _ WU hHeld hbX
   have lU1 := kr2.lt
   have lPU : w.heap.size + 1 + 1 + 1 < PU := by omega
   clear hPU lU1
   have kr1 := kr1.keep hbX
   have kr2 := kr2.keep hbX
   have hB := hB.trans (hbX.mono hB.size)
   refine hK.out _ _ ?_ (fun hHeld => ?_)
   ·exact hN
   clear hK K
   try simp only [Act.put]
   clear hN hbX
   refine rdH 4 (fun K hK => ?_)
   go_simp
   refine (C1 _).mono ?_
   rintro e W4 ⟨rfl, hbX⟩
   have hN := KP2.out _ W4 hHeld hbX
   have kr1 := kr1.keep hbX
   have kr2 := kr2.keep hbX
   have hB := hB.trans (hbX.mono hB.size)
   have kU := kU.keep hbX
   go_wp2_with fail
   refine hK.out _ _ ?_ (fun hHeld => ?_)
   ·exact hN
   clear hK K
   try simp only [Act.put]
   clear hN hbX
   refine rdH 7 (fun K hK => ?_)
   go_simp
   refine (isecond_any op d c of n _).mono ?_
   rintro e W7 ⟨rfl, hbX⟩
   have hN := KP2.out _ W7 hHeld hbX
   have kr1 := kr1.keep hbX
   have kr2 := kr2.keep hbX
   have hB := hB.trans (hbX.mono hB.size)
   have kU := kU.keep hbX
   go_wp2_with fail
   refine hK.out _ _ ?_ (fun hHeld => ?_)
   ·exact hN
   clear hK K
   try simp only [Act.put]
   clear hN hbX
   refine rdH 8 (fun K hK => ?_)
   go_simp
   refine (C2 _).mono ?_
   rintro e WX ⟨rfl, hbX⟩
   go_simp
   exact ⟨rfl, by first | (rw [E]; rfl) | rfl, hB.trans (hbX.mono hB.size)⟩
 ·simp only [if_neg h1] at C1
  have E : numL s d (secR op c) fl fm = none := if_neg (by simp [h1])
  clear h1 CF0
  go_enter Tryz.func156, Tryz.ntmps156
  go_wp2_with fail
  have lP : P < w.heap.size := block_lt_of_cell hP
  generalize hW : ((((w.alloc (Obj.cells #[Value.int IntKind.u8 op, Value.int IntKind.u8 d, Value.int IntKind.u8 c, Value.int IntKind.i16 of, Value.int IntKind.i32 n] 121)).alloc (Obj.cells s.cells 117)).alloc (Obj.cells KS.zero.cells 117)).alloc (Obj.cells KS.zero.cells 117)) = W0
  have hs0 : KAt W0 (w.heap.size + 1) s := by subst hW; exact KAt.alloc (KAt.alloc (KAt.top (by simp <;> omega)) _) _
  have hs1 : W0.cell? ⟨w.heap.size, 0, none⟩ = some (.int .u8 op) := by subst hW; simp [go_sem]
  have hs2 : W0.cell? ⟨w.heap.size, 1, none⟩ = some (.int .u8 d) := by subst hW; simp [go_sem]
  have hs3 : W0.cell? ⟨w.heap.size, 2, none⟩ = some (.int .u8 c) := by subst hW; simp [go_sem]
  have hs4 : W0.cell? ⟨w.heap.size, 3, none⟩ = some (.int .i16 of) := by subst hW; simp [go_sem]
  have hs5 : W0.cell? ⟨w.heap.size, 4, none⟩ = some (.int .i32 n) := by subst hW; simp [go_sem]
  have hs6 : W0.cell? ⟨P, 0, none⟩ = some (.func (.func F) #[] #[]) := by subst hW; exact cellAlloc _ (cellAlloc _ (cellAlloc _ (cellAlloc _ hP)))
  have kr0_0 : KAt W0 (w.heap.size + 1 + 1) KS.zero := by subst hW; exact KAt.alloc (KAt.top (by simp <;> omega)) _
  have kr0_1 : KAt W0 (w.heap.size + 1 + 1 + 1) KS.zero := by subst hW; exact KAt.top (by simp <;> omega)
  have hB0 : Below w.heap.size w W0 := by subst hW; exact bel4 _ _ _ _ _
  clear hW
  have kr1 := kr0_0
  have kr2 := kr0_1
  have hB := hB0
  clear kr0_0 kr0_1 hB0
  have KP3 : Hid (∀ wa wb : World, (fun w' => KAt w' (w.heap.size + 1) s ∧ w'.cell? ⟨w.heap.size, 0, none⟩ = some (.int .u8 op) ∧ w'.cell? ⟨w.heap.size, 1, none⟩ = some (.int .u8 d) ∧ w'.cell? ⟨w.heap.size, 2, none⟩ = some (.int .u8 c) ∧ w'.cell? ⟨w.heap.size, 3, none⟩ = some (.int .i16 of) ∧ w'.cell? ⟨w.heap.size, 4, none⟩ = some (.int .i32 n) ∧ w'.cell? ⟨P, 0, none⟩ = some (.func (.func F) #[] #[])) wa → Below wa.heap.size wa wb → (fun w' => KAt w' (w.heap.size + 1) s ∧ w'.cell? ⟨w.heap.size, 0, none⟩ = some (.int .u8 op) ∧ w'.cell? ⟨w.heap.size, 1, none⟩ = some (.int .u8 d) ∧ w'.cell? ⟨w.heap.size, 2, none⟩ = some (.int .u8 c) ∧ w'.cell? ⟨w.heap.size, 3, none⟩ = some (.int .i16 of) ∧ w'.cell? ⟨w.heap.size, 4, none⟩ = some (.int .i32 n) ∧ w'.cell? ⟨P, 0, none⟩ = some (.func (.func F) #[] #[])) wb) := fun wa wb hHeld hbX => ⟨hHeld.1.keep hbX, cellKeep hbX hHeld.2.1, cellKeep hbX hHeld.2.2.1, cellKeep hbX hHeld.2.2.2.1, cellKeep hbX hHeld.2.2.2.2.1, cellKeep hbX hHeld.2.2.2.2.2.1, cellKeep hbX hHeld.2.2.2.2.2.2⟩
  refine wp_region_held_drew (S := fun w' => KAt w' (w.heap.size + 1) s ∧ w'.cell? ⟨w.heap.size, 0, none⟩ = some (.int .u8 op) ∧ w'.cell? ⟨w.heap.size, 1, none⟩ = some (.int .u8 d) ∧ w'.cell? ⟨w.heap.size, 2, none⟩ = some (.int .u8 c) ∧ w'.cell? ⟨w.heap.size, 3, none⟩ = some (.int .i16 of) ∧ w'.cell? ⟨w.heap.size, 4, none⟩ = some (.int .i32 n) ∧ w'.cell? ⟨P, 0, none⟩ = some (.func (.func F) #[] #[])) (by kernel_rfl) ⟨hs0.drew, hs1, hs2, hs3, hs4, hs5, hs6⟩ (fun hHeld => ?_)
  have kr1 := kr1.drew
  have kr2 := kr2.drew
  have hB := hB.drew
  refine tkH 0 ?_
  try simp only [Act.put]
  refine tkY 1 rfl (yieldsK (by rfl) _ rfl (w.heap.size + 1) rfl s (fun w h => h.1)) ?_
  try simp only [Act.put]
  refine tkH 2 ?_
  try simp only [Act.put]
  refine tkH 3 ?_
  try simp only [Act.put]
  refine tkY 5 rfl (yieldsK (by rfl) _ rfl (w.heap.size + 1) rfl s (fun w h => h.1)) ?_
  try simp only [Act.put]
  refine tkH 6 ?_
  try simp only [Act.put]
  refine wpAnyH_ready (rs := [4, 10]) (by kernel_rfl) (by simp) ?_
  refine AllReadyH.cons rfl (fun K hK => ?_) ?_
  ·go_simp
   refine (C1 _).mono ?_
   rintro e WX ⟨rfl, hbX⟩
   go_simp
   exact ⟨rfl, by first | (rw [E]; rfl) | rfl, hB.trans (hbX.mono hB.size)⟩
  refine AllReadyH.cons rfl (fun K hK => ?_) AllReadyH.nil
  refine wpO_allocU rfl (fun WU PU kU hPU hbX => ?_)
  show K (Act.put _ (some 7) (.pointer (some ⟨PU, 0, none⟩))) _
  have hN := KP3.out _ WU hHeld hbX
  have lU1 := kr2.lt
  have lPU : w.heap.size + 1 + 1 + 1 < PU := by omega
  clear hPU lU1
  have kr1 := kr1.keep hbX
  have kr2 := kr2.keep hbX
  have hB := hB.trans (hbX.mono hB.size)
  refine hK.out _ _ ?_ (fun hHeld => ?_)
  ·exact hN
  clear hK K
  try simp only [Act.put]
  clear hN hbX
  refine rdH 4 (fun K hK => ?_)
  go_simp
  refine (C1 _).mono ?_
  rintro e WX ⟨rfl, hbX⟩
  go_simp
  exact ⟨rfl, by first | (rw [E]; rfl) | rfl, hB.trans (hbX.mono hB.size)⟩
end Go.Proofs.YtoobileejdhikaaGreat
