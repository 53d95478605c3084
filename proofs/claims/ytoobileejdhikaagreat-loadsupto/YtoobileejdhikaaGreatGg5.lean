/-
  The law's calls: code that is plain, with First, Last and Shrink; the law's World when it is new; the script.
  The law's plays, of the kinds Load and Code.
  The law Loads.
-/
import Derived.Test.YtoobileejdhikaaGreatGg4
namespace Go.Proofs.YtoobileejdhikaaGreat
set_option maxRecDepth 100000
set_option maxHeartbeats 4000000
open Go.RowKit
attribute [local go_sem ↓] Go.wp_at_zero Go.wp_at_succ

def fclL : List Int := [40, 0, 0, 0, 2, 0, 0, 0, 1, 3, 0, 0, 0, 0, 0, 0, 40, 0, 0, 0, 3, 0, 0, 0, 1, 4, 0, 0, 0, 0, 0, 0, 130, 3, 0, 0, 1, 0, 0, 0, 33, 67, 2, 0, 0, 0, 0, 0, 129, 1, 0, 0, 1, 0, 0, 0, 40, 0, 0, 0, 1, 0, 0, 0, 129, 0, 0, 0, 2, 0, 0, 0, 41, 0, 0, 0, 0, 0, 0, 0]
def fclA : Array Value := #[.int .u8 40, .int .u8 0, .int .u8 0, .int .u8 0, .int .u8 2, .int .u8 0, .int .u8 0, .int .u8 0, .int .u8 1, .int .u8 3, .int .u8 0, .int .u8 0, .int .u8 0, .int .u8 0, .int .u8 0, .int .u8 0, .int .u8 40, .int .u8 0, .int .u8 0, .int .u8 0, .int .u8 3, .int .u8 0, .int .u8 0, .int .u8 0, .int .u8 1, .int .u8 4, .int .u8 0, .int .u8 0, .int .u8 0, .int .u8 0, .int .u8 0, .int .u8 0, .int .u8 130, .int .u8 3, .int .u8 0, .int .u8 0, .int .u8 1, .int .u8 0, .int .u8 0, .int .u8 0, .int .u8 33, .int .u8 67, .int .u8 2, .int .u8 0, .int .u8 0, .int .u8 0, .int .u8 0, .int .u8 0, .int .u8 129, .int .u8 1, .int .u8 0, .int .u8 0, .int .u8 1, .int .u8 0, .int .u8 0, .int .u8 0, .int .u8 40, .int .u8 0, .int .u8 0, .int .u8 0, .int .u8 1, .int .u8 0, .int .u8 0, .int .u8 0, .int .u8 129, .int .u8 0, .int .u8 0, .int .u8 0, .int .u8 2, .int .u8 0, .int .u8 0, .int .u8 0, .int .u8 41, .int .u8 0, .int .u8 0, .int .u8 0, .int .u8 0, .int .u8 0, .int .u8 0, .int .u8 0]
def fclB (i : Nat) : Int := fclL.getD i 0

theorem calls_any (w : World) :
  Calls Tryz.prog 41 #[] w fun e w' => e = .returned (.slice (some ⟨w.heap.size, 0, none⟩) 80 80) ∧ w' = w.alloc (.cells fclA 5) := by
 go_enter Tryz.func41, Tryz.ntmps41
 go_wp2
 go_ret
 exact ⟨rfl, rfl⟩
theorem calls_good (j : Nat) (h : j < 10) : badP fclB 10 j = false := by
 match j, h with
 | 0, _ => decide +kernel
 | 1, _ => decide +kernel
 | 2, _ => decide +kernel
 | 3, _ => decide +kernel
 | 4, _ => decide +kernel
 | 5, _ => decide +kernel
 | 6, _ => decide +kernel
 | 7, _ => decide +kernel
 | 8, _ => decide +kernel
 | 9, _ => decide +kernel
 | k + 10, h => omega
theorem calls_bytes (i : Nat) : 0 ≤ fclB i ∧ fclB i ≤ 255 := by
 by_cases h : i < 80
 ·have : ∀ k : Fin 80, 0 ≤ fclB k.1 ∧ fclB k.1 ≤ 255 := by decide +kernel
  exact this ⟨i, h⟩
 ·have : fclB i = 0 := by
   unfold fclB
   rw [List.getD_eq_getElem?_getD, List.getElem?_eq_none (by simp [fclL]; omega)]; rfl
  rw [this]; omega
theorem fclA_at (i : Nat) (h : i < 80) : fclA[i]? = some (.int .u8 (fclB i)) := by
 match i, h with
 | 0, _ => rfl
 | 1, _ => rfl
 | 2, _ => rfl
 | 3, _ => rfl
 | 4, _ => rfl
 | 5, _ => rfl
 | 6, _ => rfl
 | 7, _ => rfl
 | 8, _ => rfl
 | 9, _ => rfl
 | 10, _ => rfl
 | 11, _ => rfl
 | 12, _ => rfl
 | 13, _ => rfl
 | 14, _ => rfl
 | 15, _ => rfl
 | 16, _ => rfl
 | 17, _ => rfl
 | 18, _ => rfl
 | 19, _ => rfl
 | 20, _ => rfl
 | 21, _ => rfl
 | 22, _ => rfl
 | 23, _ => rfl
 | 24, _ => rfl
 | 25, _ => rfl
 | 26, _ => rfl
 | 27, _ => rfl
 | 28, _ => rfl
 | 29, _ => rfl
 | 30, _ => rfl
 | 31, _ => rfl
 | 32, _ => rfl
 | 33, _ => rfl
 | 34, _ => rfl
 | 35, _ => rfl
 | 36, _ => rfl
 | 37, _ => rfl
 | 38, _ => rfl
 | 39, _ => rfl
 | 40, _ => rfl
 | 41, _ => rfl
 | 42, _ => rfl
 | 43, _ => rfl
 | 44, _ => rfl
 | 45, _ => rfl
 | 46, _ => rfl
 | 47, _ => rfl
 | 48, _ => rfl
 | 49, _ => rfl
 | 50, _ => rfl
 | 51, _ => rfl
 | 52, _ => rfl
 | 53, _ => rfl
 | 54, _ => rfl
 | 55, _ => rfl
 | 56, _ => rfl
 | 57, _ => rfl
 | 58, _ => rfl
 | 59, _ => rfl
 | 60, _ => rfl
 | 61, _ => rfl
 | 62, _ => rfl
 | 63, _ => rfl
 | 64, _ => rfl
 | 65, _ => rfl
 | 66, _ => rfl
 | 67, _ => rfl
 | 68, _ => rfl
 | 69, _ => rfl
 | 70, _ => rfl
 | 71, _ => rfl
 | 72, _ => rfl
 | 73, _ => rfl
 | 74, _ => rfl
 | 75, _ => rfl
 | 76, _ => rfl
 | 77, _ => rfl
 | 78, _ => rfl
 | 79, _ => rfl
 | k + 80, h => omega
theorem calls_cells (w : World) (i : Nat) (h : i < 80) : (w.alloc (.cells fclA 5)).cell? ⟨w.heap.size, 0 + i, none⟩ = some (.int .u8 (fclB i)) := by
 rw [cell_of_row _ w.heap.size (0 + i) fclA 5 (0, 0) (heap_alloc_new w _), Nat.zero_add]; exact fclA_at i h
theorem calls_safe : safeP (piOf fclB) 10 = none := by kernel_rfl
theorem calls_let : LetIn fclB 10 := ⟨fun j hj => by rw [← bad_eq fclB calls_bytes 10 j hj]; exact calls_good j hj, calls_safe⟩
theorem BAt.new {W : World} {pw : Nat} {v : Value} (base : Nat) (h : W.heap[pw]? = some (.cells #[v, .slice none 0 0, .slice none 0 0] 41)) : BAt base W pw (.slice none 0 0) (.slice none 0 0) [] :=
 ⟨by rw [cell_of_row W pw 1 _ _ _ h]; rfl, by rw [cell_of_row W pw 2 _ _ _ h]; rfl, fun o => frozen_of_row W pw o _ _ h, lt_of_block h, World.ownsRow_nil _ _ _ _, World.ownsRow_nil _ _ _ _, rfl, (fun g hg => by simp [Value.ownBlock] at hg), (fun g hg => by simp [Value.ownBlock] at hg), fun e he => by simp at he⟩
theorem LWAt.new (w : World) : LWAt w.heap.size (w.alloc (.cells #[.slice none 0 0, .slice none 0 0, .slice none 0 0] 41)) w.heap.size (.slice none 0 0) [] (.slice none 0 0) (.slice none 0 0) [] :=
 ⟨WAt.new w, BAt.new _ (heap_alloc_new w _), fun g hg => by simp [Value.ownBlock] at hg, fun d hd => by simp at hd, fun e he => by simp at he⟩
structure ScriptIn (W : World) (sa : Option Addr) (slen : Nat) (sb so : Nat) (K E : Nat → Int) (A : Nat → Option Addr) (L C : Nat → Nat) (Z : Nat → Nat → Int) : Prop where
 mx : slen ≤ 1048576
 a : 0 < slen → sa = some ⟨sb, so, none⟩
 k : ∀ r, r < slen → W.cell? ⟨sb, so + r * 3, none⟩ = some (.int .i64 (K r))
 e : ∀ r, r < slen → W.cell? ⟨sb, so + r * 3 + 1, none⟩ = some (.int .i64 (E r))
 b : ∀ r, r < slen → W.cell? ⟨sb, so + r * 3 + 2, none⟩ = some (.slice (A r) (L r) (C r))
 row : ∀ r, r < slen → BytesIn W (A r) (L r) (C r) (Z r) ∧ L r ≤ 140737488355328
 ei : ∀ r, r < slen → -9223372036854775808 ≤ E r ∧ E r ≤ 9223372036854775807
theorem two_in (w : World) : BytesIn (w.alloc (.cells twoA 5)) (some ⟨w.heap.size, 0, none⟩) 16 16 twoB :=
 ⟨(fun h => by cases h), Nat.le_refl _, by omega, ⟨w.heap.size, 0, fun _ => rfl, fun i hi => two_cells w i hi⟩, two_bytes⟩
theorem calls_in (w : World) : BytesIn (w.alloc (.cells fclA 5)) (some ⟨w.heap.size, 0, none⟩) 80 80 fclB :=
 ⟨(fun h => by cases h), Nat.le_refl _, by omega, ⟨w.heap.size, 0, fun _ => rfl, fun i hi => calls_cells w i hi⟩, calls_bytes⟩
end Go.Proofs.YtoobileejdhikaaGreat

namespace Go.Proofs.YtoobileejdhikaaGreat
set_option maxRecDepth 100000
set_option maxHeartbeats 8000000
open Go.RowKit
attribute [local go_sem ↓] Go.wp_at_zero Go.wp_at_succ

theorem plays_two (sa : Option Addr) (slen scap sb so : Nat) (K E : Nat → Int) (A : Nat → Option Addr) (L C : Nat → Nat) (Z : Nat → Nat → Int) (W : World) (h : ScriptIn W sa slen sb so K E A L C Z) :
  Calls Tryz.prog 17 #[.slice sa slen scap, .int .i64 2] W fun e W' => e = .returned (.bool true) ∧ Below W.heap.size W W' := by
 have HS := hideM h
 have hmx := h.mx
 clear h
 go_enter Tryz.func17, Tryz.ntmps17
 go_wp2_with fail
 refine (two_any _).mono ?_
 rintro e w1 ⟨rfl, rfl⟩
 have hw0 := LWAt.new W
 have hb0 := below_alloc W (.cells #[.slice none 0 0, .slice none 0 0, .slice none 0 0] 41)
 have hs0 : (W.alloc (.cells #[.slice none 0 0, .slice none 0 0, .slice none 0 0] 41)).heap.size = W.heap.size + 1 := by simp
 generalize W.alloc (.cells #[.slice none 0 0, .slice none 0 0, .slice none 0 0] 41) = w0 at hw0 hb0 hs0 ⊢
 have HB1 : Hid (Below W.heap.size W (w0.alloc (.cells twoA 5))) := hb0.trans ((below_alloc _ _).mono (by omega))
 have HW1 := hideM (hw0.later (below_alloc w0 (.cells twoA 5)))
 have HC1 := two_in w0
 rw [hs0] at HC1
 have HC1 := hideM HC1
 clear hw0 hb0
 go_wp2_with fail
 refine (lw_loads W.heap.size W.heap.size _ _ _ [] [] (some ⟨W.heap.size + 1, 0, none⟩) 16 16 twoB _ HW1.out (Nat.le_refl _) HB1.out.size (by simp) (by omega) HC1.out).mono ?_
 rintro e w2 ⟨rfl, hb2, v2, ds2, hw2, ⟨_, hno⟩ | hl2⟩
 ·exact absurd two_let (hno 2 rfl (by omega) (by omega))
 have HB2 := hideM (HB1.out.trans hb2)
 obtain ⟨g2, cap2, rfl, _, _, _, _, _⟩ := hw2.w.slice (by intro e; rw [e] at hl2; simp at hl2)
 rw [show ds2.length = 1 from hl2] at hw2
 have c2 := hw2.w.c
 have HW2 := hideM hw2
 have HL2 : Hid (ds2.length = 1) := hl2
 clear hw2 hb2 HW1 HB1 HC1 hs0 hl2
 go_wp2_with fail
 refine (calls_any _).mono ?_
 rintro e w3 ⟨rfl, rfl⟩
 have HW3 := hideM (HW2.out.later (below_alloc w2 (.cells fclA 5)))
 have HB3 : Hid (Below W.heap.size W (w2.alloc (.cells fclA 5))) := HB2.out.trans ((below_alloc _ _).mono HB2.out.size)
 have HC3 := hideM (calls_in w2)
 clear c2
 go_wp2_with fail
 refine (lw_loads W.heap.size W.heap.size _ _ _ ds2 [] (some ⟨w2.heap.size, 0, none⟩) 80 80 fclB _ HW3.out (Nat.le_refl _) HB3.out.size (by rw [HL2.out]; omega) (by omega) HC3.out).mono ?_
 rintro e w4 ⟨rfl, hb4, v4, ds4, hw4, ⟨_, hno⟩ | hl4⟩
 ·exact absurd calls_let (hno 10 rfl (by omega) (by omega))
 have HB4 := hideM (HB3.out.trans hb4)
 rw [HL2.out] at hl4
 obtain ⟨g4, cap4, rfl, _, _, _, _, _⟩ := hw4.w.slice (by intro e; rw [e] at hl4; simp at hl4)
 rw [show ds4.length = 2 from hl4] at hw4
 have c4 := hw4.w.c
 have HW4 := hideM hw4
 have HL4 : Hid (ds4.length = 2) := hl4
 clear hw4 hb4 HW2 HW3 HB2 HB3 HC3 hl4
 go_wp2_with fail
 go_loopw [6, 7, 8] (fun _ s7 _ wr => ∃ (i : Nat) (v vb vk : Value) (ds : List PD) (es : List ES), i ≤ slen ∧ s7 = .int .i64 i ∧ Hid (2 ≤ ds.length ∧ ds.length ≤ 2 + i ∧ es.length ≤ 4 * i ∧ LWAt W.heap.size wr W.heap.size v ds vb vk es ∧ Below W.heap.size W wr)) (fun _ s _ _ => slen - (intOf s).toNat)
 case atStart => exact ⟨0, _, _, _, ds4, [], by omega, rfl, ⟨by rw [HL4.out]; omega, by rw [HL4.out]; omega, by simp, HW4.out, HB4.out⟩⟩
 case round =>
  clear HW4 HB4 HL4 HL2 c4
  obtain ⟨i, v, vb, vk, ds, es, hin, rfl, HR⟩ := hrel
  by_cases hlt : i < slen
  ·have hlt2 : (i : Int) < (slen : Int) := by omega
   have i0 : (0 : Int) ≤ (i : Int) := by omega
   have hsa := HS.out.a (by omega)
   subst hsa
   have hsb : sb < W.heap.size := lt_of_cell (HS.out.k i hlt)
   have HBr : Hid (Below W.heap.size W wr) := HR.out.2.2.2.2
   have k0 : wr.cell? ⟨sb, so + i * 3, none⟩ = some (.int .i64 (K i)) := (HBr.out.cell (p := ⟨sb, so + i * 3, none⟩) hsb).trans (HS.out.k i hlt)
   have k1 : wr.cell? ⟨sb, so + i * 3 + 1, none⟩ = some (.int .i64 (E i)) := (HBr.out.cell (p := ⟨sb, so + i * 3 + 1, none⟩) hsb).trans (HS.out.e i hlt)
   have k2 : wr.cell? ⟨sb, so + i * 3 + 2, none⟩ = some (.slice (A i) (L i) (C i)) := (HBr.out.cell (p := ⟨sb, so + i * 3 + 2, none⟩) hsb).trans (HS.out.b i hlt)
   have HBy := hideM ((HS.out.row i hlt).1.later HBr.out (Nat.le_refl _))
   have hLi := (HS.out.row i hlt).2
   have hEi := HS.out.ei i hlt
   have HI : Hid (i < slen) := hlt
   have HN : Hid (2 ≤ ds.length ∧ ds.length ≤ 2 + i ∧ es.length ≤ 4 * i) := ⟨HR.out.1, HR.out.2.1, HR.out.2.2.1⟩
   have HW : Hid (LWAt W.heap.size wr W.heap.size v ds vb vk es) := HR.out.2.2.2.1
   clear HR
   generalize K i = ki at k0
   generalize E i = ei at k1 hEi
   generalize A i = ai at k2 HBy
   generalize L i = li at k2 HBy hLi
   generalize C i = ci at k2 HBy
   by_cases hk2 : 2 < ki
   ·go_wp2_with fail
    go_roundw
    case rel => exact ⟨i + 1, v, vb, vk, ds, es, (by have := HI.out; omega), by go_num, (by have := HN.out; exact ⟨by omega, by omega, by omega, HW.out, HBr.out⟩)⟩
    case measure => have := HI.out; simp [intOf]; omega
   ·by_cases hk1 : ki = 1
    ·subst hk1
     go_wp2_with fail
     refine (step_load W.heap.size W.heap.size v vb vk ds es ei ai li ci _ wr HW.out (Nat.le_refl _) HBr.out.size (by have := HN.out; omega) hLi HBy.out).mono ?_
     rintro e w6 ⟨rfl, hb6, v6, ds6, hL6, hx1, hx2⟩
     have HL6 := hideM hL6
     have HB6 := hideM (HBr.out.trans hb6)
     have HX6 : Hid (2 ≤ ds6.length ∧ ds6.length ≤ 2 + (i + 1) ∧ es.length ≤ 4 * (i + 1) ∧ es.length ≤ 4000000000) := by have := HN.out; exact ⟨by omega, by omega, by omega, by omega⟩
     clear hL6 hb6 hx1 hx2
     go_wp2_with fail
     refine (wlooks_any W.heap.size W.heap.size _ _ _ w6 HL6.out.b (by have := HX6.out; omega) HL6.out.sm).mono ?_
     rintro e w7 ⟨rfl, hb7⟩
     have HL7 := hideM (HL6.out.later hb7)
     have HB7 := hideM (HB6.out.trans (hb7.mono HB6.out.size))
     clear hb7
     go_wp2_with fail
     go_roundw
     case rel => exact ⟨i + 1, _, _, _, _, _, (by have := HI.out; omega), by go_num, (by have := HX6.out; exact ⟨by omega, by omega, by omega, HL7.out, HB7.out⟩)⟩
     case measure => have := HI.out; simp [intOf]; omega
    ·go_wp2_with fail
     refine (step_code W.heap.size W.heap.size v vb vk ds es ki ei ai li ci wr HW.out (Nat.le_refl _) HBr.out.size (by have := HN.out; omega) (by have := HN.out; omega) (by have := HN.out; omega) hEi.1 hEi.2 hk1 (by omega)).mono ?_
     rintro e w6 ⟨rfl, hb6, vb6, vk6, es6, hL6, hx1, hx2⟩
     have HL6 := hideM hL6
     have HB6 := hideM (HBr.out.trans hb6)
     have HX6 : Hid (2 ≤ ds.length ∧ ds.length ≤ 2 + (i + 1) ∧ es6.length ≤ 4 * (i + 1) ∧ es6.length ≤ 4000000000) := by have := HN.out; exact ⟨by omega, by omega, by omega, by omega⟩
     clear hL6 hb6 hx1 hx2
     go_wp2_with fail
     refine (wlooks_any W.heap.size W.heap.size _ _ _ w6 HL6.out.b (by have := HX6.out; omega) HL6.out.sm).mono ?_
     rintro e w7 ⟨rfl, hb7⟩
     have HL7 := hideM (HL6.out.later hb7)
     have HB7 := hideM (HB6.out.trans (hb7.mono HB6.out.size))
     clear hb7
     go_wp2_with fail
     go_roundw
     case rel => exact ⟨i + 1, _, _, _, _, _, (by have := HI.out; omega), by go_num, (by have := HX6.out; exact ⟨by omega, by omega, by omega, HL7.out, HB7.out⟩)⟩
     case measure => have := HI.out; simp [intOf]; omega
  ·have hii : i = slen := by omega
   subst hii
   go_wp2_with fail
   go_ret
   exact ⟨rfl, HR.out.2.2.2.2⟩
end Go.Proofs.YtoobileejdhikaaGreat

namespace Go.Proofs.YtoobileejdhikaaGreat
set_option maxRecDepth 100000
set_option maxHeartbeats 4000000
open Go.RowKit
attribute [local go_sem ↓] Go.wp_at_zero Go.wp_at_succ

theorem lawLoads_any (sa : Option Addr) (slen scap sb so : Nat) (K E : Nat → Int) (A : Nat → Option Addr) (L C : Nat → Nat) (Z : Nat → Nat → Int) (W : World) (h : ScriptIn W sa slen sb so K E A L C Z) :
  Calls Tryz.prog 4 #[.slice sa slen scap] W fun e W' => e = .returned (.bool true) ∧ Below W.heap.size W W' := by
 have HP := hideM (plays_two sa slen scap sb so K E A L C Z W h)
 clear h
 go_enter Tryz.func4, Tryz.ntmps4
 go_wp2_with fail
 refine HP.out.mono ?_
 rintro e w1 ⟨rfl, hb⟩
 have HB := hideM hb
 clear hb
 go_wp2_with fail
 go_ret
 exact ⟨rfl, HB.out⟩
end Go.Proofs.YtoobileejdhikaaGreat
