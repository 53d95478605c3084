/-
  The law's plays, of all kinds.
 The law All.
-/
import Derived.Test.YtoobileejdhikaaGreatGg6
namespace Go.Proofs.YtoobileejdhikaaGreat
set_option maxRecDepth 100000
set_option maxHeartbeats 8000000
open Go.RowKit
attribute [local go_sem ↓] Go.wp_at_zero Go.wp_at_succ

theorem plays_three (sa : Option Addr) (slen scap sb so : Nat) (K E : Nat → Int) (A : Nat → Option Addr) (L C : Nat → Nat) (Z : Nat → Nat → Int) (W : World) (h : ScriptIn W sa slen sb so K E A L C Z) :
  Calls Tryz.prog 17 #[.slice sa slen scap, .int .i64 3] W fun e W' => e = .returned (.bool true) ∧ Below W.heap.size W W' := by
 have HS := hideM h
 have hmx := h.mx
 clear h
 go_enter Tryz.func17, Tryz.ntmps17
 go_wp2_with fail
 refine (two_any _).mono ?_
 rintro e w1 ⟨rfl, rfl⟩
 have hw0 := LWAt.new W
 have hb0 := below_alloc W (.cells #[.slice none 0 0, .slice none 0 0, .slice none 0 0] 41)
 have hs0 : (W.alloc (.cells #[.slice none 0 0, .slice none 0 0, .slice none 0 0] 41)).heap.size = W.heap.size + 1 := by simp
 generalize W.alloc (.cells #[.slice none 0 0, .slice none 0 0, .slice none 0 0] 41) = w0 at hw0 hb0 hs0 ⊢
 have HB1 : Hid (Below W.heap.size W (w0.alloc (.cells twoA 5))) := hb0.trans ((below_alloc _ _).mono (by omega))
 have HW1 := hideM (hw0.later (below_alloc w0 (.cells twoA 5)))
 have HC1 := two_in w0
 rw [hs0] at HC1
 have HC1 := hideM HC1
 clear hw0 hb0
 go_wp2_with fail
 refine (lw_loads W.heap.size W.heap.size _ _ _ [] [] (some ⟨W.heap.size + 1, 0, none⟩) 16 16 twoB _ HW1.out (Nat.le_refl _) HB1.out.size (by simp) (by omega) HC1.out).mono ?_
 rintro e w2 ⟨rfl, hb2, v2, ds2, hw2, ⟨_, hno⟩ | hl2⟩
 ·exact absurd two_let (hno 2 rfl (by omega) (by omega))
 have HB2 := hideM (HB1.out.trans hb2)
 obtain ⟨g2, cap2, rfl, _, _, _, _, _⟩ := hw2.w.slice (by intro e; rw [e] at hl2; simp at hl2)
 rw [show ds2.length = 1 from hl2] at hw2
 have c2 := hw2.w.c
 have HW2 := hideM hw2
 have HL2 : Hid (ds2.length = 1) := hl2
 clear hw2 hb2 HW1 HB1 HC1 hs0 hl2
 go_wp2_with fail
 refine (calls_any _).mono ?_
 rintro e w3 ⟨rfl, rfl⟩
 have HW3 := hideM (HW2.out.later (below_alloc w2 (.cells fclA 5)))
 have HB3 : Hid (Below W.heap.size W (w2.alloc (.cells fclA 5))) := HB2.out.trans ((below_alloc _ _).mono HB2.out.size)
 have HC3 := hideM (calls_in w2)
 clear c2
 go_wp2_with fail
 refine (lw_loads W.heap.size W.heap.size _ _ _ ds2 [] (some ⟨w2.heap.size, 0, none⟩) 80 80 fclB _ HW3.out (Nat.le_refl _) HB3.out.size (by rw [HL2.out]; omega) (by omega) HC3.out).mono ?_
 rintro e w4 ⟨rfl, hb4, v4, ds4, hw4, ⟨_, hno⟩ | hl4⟩
 ·exact absurd calls_let (hno 10 rfl (by omega) (by omega))
 have HB4 := hideM (HB3.out.trans hb4)
 rw [HL2.out] at hl4
 obtain ⟨g4, cap4, rfl, _, _, _, _, _⟩ := hw4.w.slice (by intro e; rw [e] at hl4; simp at hl4)
 rw [show ds4.length = 2 from hl4] at hw4
 have c4 := hw4.w.c
 have HW4 := hideM hw4
 have HL4 : Hid (ds4.length = 2) := hl4
 clear hw4 hb4 HW2 HW3 HB2 HB3 HC3 hl4
 go_wp2_with fail
 refine (shrinks_any w4).mono ?_
 rintro e w5 ⟨rfl, hb5⟩
 have HW5 := hideM (HW4.out.later hb5)
 have HB5 := hideM (HB4.out.trans (hb5.mono HB4.out.size))
 clear c4 hb5 HW4 HB4
 go_wp2_with fail
 go_loopw [6, 7, 8] (fun _ s7 _ wr => ∃ (i : Nat) (v vb vk : Value) (ds : List PD) (es : List ES), i ≤ slen ∧ s7 = .int .i64 i ∧ Hid (2 ≤ ds.length ∧ ds.length ≤ 2 + i ∧ es.length ≤ 4 * i ∧ LWAt W.heap.size wr W.heap.size v ds vb vk es ∧ Below W.heap.size W wr)) (fun _ s _ _ => slen - (intOf s).toNat)
 case atStart => exact ⟨0, _, _, _, ds4, [], by omega, rfl, ⟨by rw [HL4.out]; omega, by rw [HL4.out]; omega, by simp, HW5.out, HB5.out⟩⟩
 case round =>
  clear HW5 HB5 HL4 HL2
  obtain ⟨i, v, vb, vk, ds, es, hin, rfl, HR⟩ := hrel
  by_cases hlt : i < slen
  ·have hlt2 : (i : Int) < (slen : Int) := by omega
   have i0 : (0 : Int) ≤ (i : Int) := by omega
   have hsa := HS.out.a (by omega)
   subst hsa
   have hsb : sb < W.heap.size := lt_of_cell (HS.out.k i hlt)
   have HBr : Hid (Below W.heap.size W wr) := HR.out.2.2.2.2
   have k0 : wr.cell? ⟨sb, so + i * 3, none⟩ = some (.int .i64 (K i)) := (HBr.out.cell (p := ⟨sb, so + i * 3, none⟩) hsb).trans (HS.out.k i hlt)
   have k1 : wr.cell? ⟨sb, so + i * 3 + 1, none⟩ = some (.int .i64 (E i)) := (HBr.out.cell (p := ⟨sb, so + i * 3 + 1, none⟩) hsb).trans (HS.out.e i hlt)
   have k2 : wr.cell? ⟨sb, so + i * 3 + 2, none⟩ = some (.slice (A i) (L i) (C i)) := (HBr.out.cell (p := ⟨sb, so + i * 3 + 2, none⟩) hsb).trans (HS.out.b i hlt)
   have HBy := hideM ((HS.out.row i hlt).1.later HBr.out (Nat.le_refl _))
   have hLi := (HS.out.row i hlt).2
   have hEi := HS.out.ei i hlt
   have HI : Hid (i < slen) := hlt
   have HN : Hid (2 ≤ ds.length ∧ ds.length ≤ 2 + i ∧ es.length ≤ 4 * i) := ⟨HR.out.1, HR.out.2.1, HR.out.2.2.1⟩
   have HW : Hid (LWAt W.heap.size wr W.heap.size v ds vb vk es) := HR.out.2.2.2.1
   clear HR
   generalize K i = ki at k0
   generalize E i = ei at k1 hEi
   generalize A i = ai at k2 HBy
   generalize L i = li at k2 HBy hLi
   generalize C i = ci at k2 HBy
   by_cases hk2 : 3 < ki
   ·go_wp2_with fail
    go_roundw
    case rel => exact ⟨i + 1, v, vb, vk, ds, es, (by have := HI.out; omega), by go_num, (by have := HN.out; exact ⟨by omega, by omega, by omega, HW.out, HBr.out⟩)⟩
    case measure => have := HI.out; simp [intOf]; omega
   ·by_cases hk1 : ki = 1
    ·subst hk1
     go_wp2_with fail
     refine (step_load W.heap.size W.heap.size v vb vk ds es ei ai li ci _ wr HW.out (Nat.le_refl _) HBr.out.size (by have := HN.out; omega) hLi HBy.out).mono ?_
     rintro e w6 ⟨rfl, hb6, v6, ds6, hL6, hx1, hx2⟩
     have HL6 := hideM hL6
     have HB6 := hideM (HBr.out.trans hb6)
     have HX6 : Hid (2 ≤ ds6.length ∧ ds6.length ≤ 2 + (i + 1) ∧ es.length ≤ 4 * (i + 1) ∧ es.length ≤ 4000000000) := by have := HN.out; exact ⟨by omega, by omega, by omega, by omega⟩
     clear hL6 hb6 hx1 hx2
     go_wp2_with fail
     refine (wlooks_any W.heap.size W.heap.size _ _ _ w6 HL6.out.b (by have := HX6.out; omega) HL6.out.sm).mono ?_
     rintro e w7 ⟨rfl, hb7⟩
     have HL7 := hideM (HL6.out.later hb7)
     have HB7 := hideM (HB6.out.trans (hb7.mono HB6.out.size))
     clear hb7
     go_wp2_with fail
     go_roundw
     case rel => exact ⟨i + 1, _, _, _, _, _, (by have := HI.out; omega), by go_num, (by have := HX6.out; exact ⟨by omega, by omega, by omega, HL7.out, HB7.out⟩)⟩
     case measure => have := HI.out; simp [intOf]; omega
    ·by_cases hk3 : ki = 3
     ·subst hk3
      go_wp2_with fail
      refine (step_run W.heap.size W.heap.size v vb vk ds es ei ai li ci _ wr HW.out (Nat.le_refl _) HBr.out.size (by have := HN.out; omega) (by have := HN.out; omega) (by have := HN.out; omega) hEi.1 hEi.2 hLi HBy.out).mono ?_
      rintro e w6 ⟨rfl, hb6, vb6, vk6, es6, hL6, hx1, hx2⟩
      have HL6 := hideM hL6
      have HB6 := hideM (HBr.out.trans hb6)
      have HX6 : Hid (2 ≤ ds.length ∧ ds.length ≤ 2 + (i + 1) ∧ es6.length ≤ 4 * (i + 1) ∧ es6.length ≤ 4000000000) := by have := HN.out; exact ⟨by omega, by omega, by omega, by omega⟩
      clear hL6 hb6 hx1 hx2
      go_wp2_with fail
      refine (wlooks_any W.heap.size W.heap.size _ _ _ w6 HL6.out.b (by have := HX6.out; omega) HL6.out.sm).mono ?_
      rintro e w7 ⟨rfl, hb7⟩
      have HL7 := hideM (HL6.out.later hb7)
      have HB7 := hideM (HB6.out.trans (hb7.mono HB6.out.size))
      clear hb7
      go_wp2_with fail
      go_roundw
      case rel => exact ⟨i + 1, _, _, _, _, _, (by have := HI.out; omega), by go_num, (by have := HX6.out; exact ⟨by omega, by omega, by omega, HL7.out, HB7.out⟩)⟩
      case measure => have := HI.out; simp [intOf]; omega
     ·go_wp2_with fail
      refine (step_code W.heap.size W.heap.size v vb vk ds es ki ei ai li ci wr HW.out (Nat.le_refl _) HBr.out.size (by have := HN.out; omega) (by have := HN.out; omega) (by have := HN.out; omega) hEi.1 hEi.2 hk1 hk3).mono ?_
      rintro e w6 ⟨rfl, hb6, vb6, vk6, es6, hL6, hx1, hx2⟩
      have HL6 := hideM hL6
      have HB6 := hideM (HBr.out.trans hb6)
      have HX6 : Hid (2 ≤ ds.length ∧ ds.length ≤ 2 + (i + 1) ∧ es6.length ≤ 4 * (i + 1) ∧ es6.length ≤ 4000000000) := by have := HN.out; exact ⟨by omega, by omega, by omega, by omega⟩
      clear hL6 hb6 hx1 hx2
      go_wp2_with fail
      refine (wlooks_any W.heap.size W.heap.size _ _ _ w6 HL6.out.b (by have := HX6.out; omega) HL6.out.sm).mono ?_
      rintro e w7 ⟨rfl, hb7⟩
      have HL7 := hideM (HL6.out.later hb7)
      have HB7 := hideM (HB6.out.trans (hb7.mono HB6.out.size))
      clear hb7
      go_wp2_with fail
      go_roundw
      case rel => exact ⟨i + 1, _, _, _, _, _, (by have := HI.out; omega), by go_num, (by have := HX6.out; exact ⟨by omega, by omega, by omega, HL7.out, HB7.out⟩)⟩
      case measure => have := HI.out; simp [intOf]; omega
  ·have hii : i = slen := by omega
   subst hii
   go_wp2_with fail
   go_ret
   exact ⟨rfl, HR.out.2.2.2.2⟩

theorem lawAll_any (sa : Option Addr) (slen scap sb so : Nat) (K E : Nat → Int) (A : Nat → Option Addr) (L C : Nat → Nat) (Z : Nat → Nat → Int) (W : World) (h : ScriptIn W sa slen sb so K E A L C Z) :
  Calls Tryz.prog 7 #[.slice sa slen scap] W fun e W' => e = .returned (.bool true) ∧ Below W.heap.size W W' := by
 have HP := hideM (plays_three sa slen scap sb so K E A L C Z W h)
 clear h
 go_enter Tryz.func7, Tryz.ntmps7
 go_wp2_with fail
 refine HP.out.mono ?_
 rintro e w1 ⟨rfl, hb⟩
 have HB := hideM hb
 clear hb
 go_wp2_with fail
 go_ret
 exact ⟨rfl, HB.out⟩
end Go.Proofs.YtoobileejdhikaaGreat
