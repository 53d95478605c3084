/-
  The law Safe.
-/
import Derived.Test.YtoobileejdhikaaGreatGg6
namespace Go.Proofs.YtoobileejdhikaaGreat
set_option maxRecDepth 100000
set_option maxHeartbeats 8000000
open Go.RowKit
attribute [local go_sem ↓] Go.wp_at_zero Go.wp_at_succ

structure FrIn (W : World) (fa : Option Addr) (flen : Nat) (fb fo : Nat) (A : Nat → Option Addr) (L C : Nat → Nat) (Z : Nat → Nat → Int) : Prop where
 mx : flen ≤ 1048576
 a : 0 < flen → fa = some ⟨fb, fo, none⟩
 c : ∀ r, r < flen → W.cell? ⟨fb, fo + r, none⟩ = some (.slice (A r) (L r) (C r))
 row : ∀ r, r < flen → BytesIn W (A r) (L r) (C r) (Z r) ∧ L r ≤ 140737488355328
theorem list_two {l : List PD} (h : l.length = 2) : ∃ a b, l = [a, b] := by
 match l, h with
 | [a, b], _ => exact ⟨a, b, rfl⟩
theorem nil_in (W : World) : BytesIn W none 0 0 (fun _ => 0) := ⟨fun _ => ⟨rfl, rfl⟩, Nat.le_refl _, by omega, ⟨0, 0, fun h => by omega, fun i hi => by omega⟩, fun _ => by omega⟩

theorem lawSafe_any (a0 : Option Addr) (len0 cap0 : Nat) (B : Nat → Int) (fa : Option Addr) (flen fcap fb fo : Nat) (A : Nat → Option Addr) (L C : Nat → Nat) (Z : Nat → Nat → Int) (W : World) (hm0 : len0 ≤ 140737488355328) (h0 : BytesIn W a0 len0 cap0 B)
  (hF : FrIn W fa flen fb fo A L C Z) :
  Calls Tryz.prog 6 #[.slice a0 len0 cap0, .slice fa flen fcap] W fun e W' => e = .returned (.bool true) ∧ Below W.heap.size W W' := by
 have H0 := hideM h0
 have HF := hideM hF
 have hmx := hF.mx
 clear h0 hF
 go_enter Tryz.func6, Tryz.ntmps6
 go_wp2_with fail
 refine (two_any _).mono ?_
 rintro e w1 ⟨rfl, rfl⟩
 have hw0 := LWAt.new W
 have hb0 := below_alloc W (.cells #[.slice none 0 0, .slice none 0 0, .slice none 0 0] 41)
 have hs0 : (W.alloc (.cells #[.slice none 0 0, .slice none 0 0, .slice none 0 0] 41)).heap.size = W.heap.size + 1 := by simp
 generalize W.alloc (.cells #[.slice none 0 0, .slice none 0 0, .slice none 0 0] 41) = w0 at hw0 hb0 hs0 ⊢
 have HB1 : Hid (Below W.heap.size W (w0.alloc (.cells twoA 5))) := hb0.trans ((below_alloc _ _).mono (by omega))
 have HW1 := hideM (hw0.later (below_alloc w0 (.cells twoA 5)))
 have HC1 := two_in w0
 rw [hs0] at HC1
 have HC1 := hideM HC1
 clear hw0 hb0
 go_wp2_with fail
 refine (lw_loads W.heap.size W.heap.size _ _ _ [] [] (some ⟨W.heap.size + 1, 0, none⟩) 16 16 twoB _ HW1.out (Nat.le_refl _) HB1.out.size (by simp) (by omega) HC1.out).mono ?_
 rintro e w2 ⟨rfl, hb2, v2, ds2, hw2, ⟨_, hno⟩ | hl2⟩
 ·exact absurd two_let (hno 2 rfl (by omega) (by omega))
 have HB2 := hideM (HB1.out.trans hb2)
 obtain ⟨g2, cap2, rfl, _, _, hp2, _, hcl⟩ := hw2.w.slice (by intro e; rw [e] at hl2; simp at hl2)
 obtain ⟨d, rfl⟩ := List.length_eq_one_iff.1 (show ds2.length = 1 from hl2)
 have q0 : w2.cell? ⟨g2, 0, none⟩ = some (.pointer (some ⟨d.f, 0, none⟩)) := hcl 0 (by simp)
 have q1 : w2.cell? ⟨g2, 1, none⟩ = some (.slice (some ⟨d.cb, 0, none⟩) d.len d.cc) := hcl 1 (by simp)
 have q2 : w2.cell? ⟨g2, 2, none⟩ = some (.slice (some ⟨d.lb, 0, none⟩) d.n d.lc) := hcl 2 (by simp)
 simp only [List.length_singleton] at hw2
 have c2 := hw2.w.c
 have HW2 := hideM hw2
 clear hw2 hb2 hl2 hcl HW1 HB1 HC1 hs0
 go_wp2_with fail
 refine (runs_all W.heap.size W.heap.size _ _ _ [d] [] d none 0 0 _ w2 HW2.out (Nat.le_refl _) HB2.out.size (by simp) (by simp) (nil_in w2) (by omega)).mono ?_
 rintro e w3 ⟨rfl, hb3, vb3, vk3, es3, hw3, _, hl3⟩
 have HB3 := hideM (HB2.out.trans hb3)
 have HW3 := hideM hw3
 have HL3 := hideM (show es3.length ≤ 4 by simpa using hl3)
 clear q0 q1 q2 c2 HW2 HB2 hb3 hw3 hl3
 go_wp2_with fail
 refine (shrinks_any w3).mono ?_
 rintro e w4 ⟨rfl, hb4⟩
 have HW4 := hideM (HW3.out.later hb4)
 have HB4 := hideM (HB3.out.trans (hb4.mono HB3.out.size))
 clear hb4 HW3 HB3
 go_wp2_with fail
 refine (lw_loads W.heap.size W.heap.size _ _ _ [d] es3 a0 len0 cap0 B w4 HW4.out (Nat.le_refl _) HB4.out.size (by simp) hm0 (H0.out.later HB4.out (Nat.le_refl _))).mono ?_
 rintro e w5 ⟨rfl, hb5, v5, ds5, hw5, hend⟩
 have HB5 := hideM (HB4.out.trans hb5)
 clear hb5 HW4 HB4
 rcases hend with ⟨rfl, _⟩ | hl5
 ·obtain ⟨g5, cap5, rfl, _, _, _, _, _⟩ := hw5.w.slice (by simp)
  simp only [List.length_singleton] at hw5
  have HW5 := hideM hw5
  clear hw5
  go_wp2_with fail
  go_loopw [6, 8] (fun s6 s8 wr => s8 = .int .i64 0 ∧ s6 = .bool true ∧ wr = w5) (fun _ _ _ => 0)
  case atStart => exact ⟨rfl, rfl, rfl⟩
  case round =>
   obtain ⟨rfl, rfl, rfl⟩ := hrel
   have c0 := HW5.out.w.c
   by_cases hlt : 0 < flen
   ·have hl2 : (0 : Int) < (flen : Int) := by omega
    go_wp2_with fail
    go_ret
    exact ⟨rfl, HB5.out⟩
   ·have hf0 : flen = 0 := by omega
    subst hf0
    go_wp2_with fail
    go_ret
    exact ⟨rfl, HB5.out⟩
 ·obtain ⟨d1, d2, rfl⟩ := list_two (show ds5.length = 2 from hl5)
  obtain ⟨g3, cap3, rfl, hg3, hg3l, hcp3, hcm3, hcell3⟩ := hw5.w.slice (by simp)
  simp only [List.length_cons, List.length_nil, Nat.zero_add, Nat.reduceAdd] at hw5
  have HW5 := hideM hw5
  clear hw5 hcell3 hl5
  go_wp2_with fail
  go_loopw [6, 8] (fun s6 s8 wr => ∃ (k : Nat) (vb vk : Value) (es : List ES), k ≤ flen ∧ s8 = .int .i64 k ∧ s6 = .bool true ∧ Hid (LWAt W.heap.size wr W.heap.size (.slice (some ⟨g3, 0, none⟩) 2 cap3) [d1, d2] vb vk es ∧ es.length ≤ 4 + 4 * k ∧ Below W.heap.size W wr)) (fun _ s _ => flen - (intOf s).toNat)
  case atStart => exact ⟨0, _, _, _, by omega, rfl, rfl, ⟨HW5.out, HL3.out, HB5.out⟩⟩
  case round =>
   clear HW5 HB5
   obtain ⟨k, vb, vk, es, hk, rfl, rfl, HS⟩ := hrel
   have c0 := HS.out.1.w.c
   by_cases hlt : k < flen
   ·have hlt2 : (k : Int) < (flen : Int) := by omega
    have hk0 : (0 : Int) ≤ (k : Int) := by omega
    have hfa := HF.out.a (by omega)
    subst hfa
    have hfb : fb < W.heap.size := lt_of_cell (HF.out.c k hlt)
    have c1 : wr.cell? ⟨fb, fo + k, none⟩ = some (.slice (A k) (L k) (C k)) := (HS.out.2.2.cell (p := ⟨fb, fo + k, none⟩) hfb).trans (HF.out.c k hlt)
    have c3 : wr.cell? ⟨g3, 3, none⟩ = some (.pointer (some ⟨d2.f, 0, none⟩)) := by
     rw [HS.out.1.w.row.cellAt 3 (by simp)]; rfl
    have c4 : wr.cell? ⟨g3, 4, none⟩ = some (.slice (some ⟨d2.cb, 0, none⟩) d2.len d2.cc) := by
     rw [HS.out.1.w.row.cellAt 4 (by simp)]; rfl
    have c5 : wr.cell? ⟨g3, 5, none⟩ = some (.slice (some ⟨d2.lb, 0, none⟩) d2.n d2.lc) := by
     rw [HS.out.1.w.row.cellAt 5 (by simp)]; rfl
    have hbk := (HF.out.row k hlt).1
    have hlk := (HF.out.row k hlt).2
    have HBk := hideM (hbk.later HS.out.2.2 (Nat.le_refl _))
    clear hbk
    generalize A k = ak at c1 HBk
    generalize L k = lk at c1 HBk hlk
    generalize C k = ck at c1 HBk
    have hg3r : g3 < wr.heap.size := lt_of_cell c5
    have hfbr : fb < wr.heap.size := lt_of_cell c1
    have HKF : Hid (k < flen) := hlt
    go_wp2_with fail
    go_region_held3 (fun w' => w'.cell? ⟨W.heap.size, 0, none⟩ = some (.slice (some ⟨g3, 0, none⟩) 2 cap3) ∧ w'.cell? ⟨g3, 3, none⟩ = some (.pointer (some ⟨d2.f, 0, none⟩)) ∧ w'.cell? ⟨g3, 4, none⟩ = some (.slice (some ⟨d2.cb, 0, none⟩) d2.len d2.cc) ∧ w'.cell? ⟨g3, 5, none⟩ = some (.slice (some ⟨d2.lb, 0, none⟩) d2.n d2.lc) ∧ w'.cell? ⟨fb, fo + k, none⟩ = some (.slice ak lk ck)) (go_keep) ((go_at_call 20; refine (runs_all W.heap.size W.heap.size _ vb vk [d1, d2] es d2 ak lk ck (Z k) _ (HS.out.1.later (Below.refl wr.heap.size wr).drew) (Nat.le_refl _) (Nat.le_trans HS.out.2.2.size (Below.refl wr.heap.size wr).drew.size) (by have := HS.out.2.1; omega) (by simp) (HBk.out.later (k := wr.heap.size) (Below.refl _ _).drew (Nat.le_refl _)) hlk).mono ?_; rintro e wB ⟨rfl, belB, vbB, vkB, esB, hwB, _, hlB⟩; have q0 := hwB.w.c; have q3 : wB.cell? ⟨g3, 3, none⟩ = some (.pointer (some ⟨d2.f, 0, none⟩)) := (hwB.w.row.cellAt 3 (by simp)).trans rfl; have q4 : wB.cell? ⟨g3, 4, none⟩ = some (.slice (some ⟨d2.cb, 0, none⟩) d2.len d2.cc) := (hwB.w.row.cellAt 4 (by simp)).trans rfl; have q5 : wB.cell? ⟨g3, 5, none⟩ = some (.slice (some ⟨d2.lb, 0, none⟩) d2.n d2.lc) := (hwB.w.row.cellAt 5 (by simp)).trans rfl; have bB := ((Below.refl wr.heap.size wr).drew.mono HS.out.2.2.size).trans belB; have q1 := (bB.cell (p := ⟨fb, fo + k, none⟩) hfb).trans c1; have HBB := hideM (HS.out.2.2.trans bB); have HWB := hideM hwB; have HLB := hideM hlB; clear belB bB hwB hlB))
    all_goals go_wp2
    go_roundw
    case rel => exact ⟨k + 1, vbB, vkB, esB, (by have := HKF.out; omega), by go_num, rfl, ⟨HWB.out, (by have := HLB.out; have := HS.out.2.1; omega), HBB.out⟩⟩
    case measure => have := HKF.out; simp [intOf]; omega
   ·have hkk : k = flen := by omega
    subst hkk
    go_wp2_with fail
    go_ret
    exact ⟨rfl, HS.out.2.2⟩
end Go.Proofs.YtoobileejdhikaaGreat
