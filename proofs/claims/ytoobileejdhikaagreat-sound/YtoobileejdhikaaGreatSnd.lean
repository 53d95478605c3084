/-
  The law Sound.
-/
import Derived.Test.YtoobileejdhikaaGreatGg2
import Derived.Test.YtoobileejdhikaaGreatGf4
import Derived.Deep.RegionHeld3
import Derived.Deep.DrawnRows
namespace Go.Proofs.YtoobileejdhikaaGreat
set_option maxRecDepth 100000
set_option maxHeartbeats 8000000
open Go.RowKit
attribute [local go_sem ↓] Go.wp_at_zero Go.wp_at_succ

structure FramesIn (W : World) (fa : Option Addr) (flen : Nat) (fb fo : Nat) (A : Nat → Option Addr) (L C : Nat → Nat) (Z : Nat → Nat → Int) : Prop where
 mx : flen ≤ 9223372036854775807
 a : 0 < flen → fa = some ⟨fb, fo, none⟩
 c : ∀ r, r < flen → W.cell? ⟨fb, fo + r, none⟩ = some (.slice (A r) (L r) (C r))
 row : ∀ r, r < flen → BytesIn W (A r) (L r) (C r) (Z r)

def cutN (n : Nat) : Nat := if 64 < n then 64 else n

theorem run_pd (d : PD) (ak : Option Addr) (lk ck N : Nat) (Zk : Nat → Int) (w : World) (hp : PairAt w d) (ho : d.Ok) (hb : BytesIn w ak lk ck Zk) (hN : N ≤ 64) (hNl : N ≤ lk) :
  Calls Tryz.prog 19 #[.slice (some ⟨d.lb, 0, none⟩) d.n d.lc, .slice ak N ck] w fun e w' => ∃ x v, e = .returned (.tuple #[.bool false, .int .i64 x, v]) ∧ Below w.heap.size w w' := by
 obtain ⟨b, o, h1, h2⟩ := hb.lies
 have hle := hb.le
 have hl : ((List.range N).map Zk).length = N := by simp
 have hg : ∀ i, i < N → ((List.range N).map Zk).getD i 0 = Zk i := fun i hi => by simp [List.getD_eq_getElem?_getD, hi]
 refine (rrun_any (riOf d.B) d.n d.lb d.lc ak b o N ck ((List.range N).map Zk) w (code_same ho.by1 ho.n1 ho.n2 ho.good).1.ok hp.la hl hN (by omega) (fun h => h1 (by omega)) (fun i hi => by rw [hg i hi]; exact h2 i (by omega))).mono ?_
 rintro e w' ⟨v, rfl, _, hbel⟩
 rw [pd_sound ho (by rw [hl]; exact hN) (fun i => by
  by_cases hi : i < N
  ·rw [hg i hi]; have := hb.by1 i; omega
  ·rw [List.getD_eq_getElem?_getD, List.getElem?_eq_none (by rw [hl]; omega)]; exact ⟨by decide, by decide⟩)]
 exact ⟨_, v, rfl, hbel⟩

theorem sound_any (a0 : Option Addr) (len0 cap0 : Nat) (B : Nat → Int) (fa : Option Addr) (flen fcap fb fo : Nat) (A : Nat → Option Addr) (L C : Nat → Nat) (Z : Nat → Nat → Int) (W : World) (hm0 : len0 ≤ 140737488355328) (h0 : BytesIn W a0 len0 cap0 B)
  (hF : FramesIn W fa flen fb fo A L C Z) :
  Calls Tryz.prog 5 #[.slice a0 len0 cap0, .slice fa flen fcap] W fun e W' => e = .returned (.bool true) ∧ Below W.heap.size W W' := by
 have H0 := hideM h0
 have HF := hideM hF
 clear h0 hF
 go_enter Tryz.func5, Tryz.ntmps5
 go_wp2_with fail
 refine (two_any _).mono ?_
 rintro e w1 ⟨rfl, rfl⟩
 have hw0 := WAt.new W
 have hb0 := below_alloc W (.cells #[.slice none 0 0, .slice none 0 0, .slice none 0 0] 41)
 have hs0 : (W.alloc (.cells #[.slice none 0 0, .slice none 0 0, .slice none 0 0] 41)).heap.size = W.heap.size + 1 := by simp
 generalize W.alloc (.cells #[.slice none 0 0, .slice none 0 0, .slice none 0 0] 41) = w0 at hw0 hb0 hs0 ⊢
 have HB1 : Hid (Below W.heap.size W (w0.alloc (.cells twoA 5))) := hb0.trans ((below_alloc _ _).mono (by omega))
 have HW1 := hideM (hw0.later (below_alloc w0 (.cells twoA 5)))
 have HC1 : Hid (∀ i, i < 16 → (w0.alloc (.cells twoA 5)).cell? ⟨W.heap.size + 1, 0 + i, none⟩ = some (.int .u8 (twoB i))) := fun i hi => by rw [← hs0]; exact two_cells w0 i hi
 clear hw0 hb0
 go_wp2_with fail
 refine (loads_any W.heap.size W.heap.size (.slice none 0 0) [] (W.heap.size + 1) 0 16 16 2 twoB _ HW1.out HB1.out.size (by simp) rfl (by omega) (by omega) (by omega) (by omega) HC1.out two_bytes).mono ?_
 rintro e w2 ⟨rfl, ⟨hw2, hno⟩ | ⟨v2, d, hdB, hdn, hw2, hv2⟩, hch⟩
 ·exact absurd two_let hno
 have hb2 : Below W.heap.size W w2 := HB1.out.trans (hch.below (Nat.le_refl _) (fun g hg => by simp [Value.ownBlock] at hg) HB1.out.size)
 obtain ⟨g2, cap2, rfl, hg2, hg2l, _, _, _⟩ := hw2.slice (by simp)
 simp only [List.nil_append, List.length_singleton] at hw2 hv2
 have c0 := hw2.c
 have HW2 := hideM hw2
 have HB2 := hideM hb2
 clear hch hw2 hb2 hv2 HW1 HB1 HC1 hs0
 go_wp2_with fail
 refine (loads_all W.heap.size W.heap.size _ [d] a0 len0 cap0 B w2 HW2.out HB2.out.size (by simp) hm0 (H0.out.later HB2.out (Nat.le_refl _))).mono ?_
 rintro e w3 ⟨rfl, v3, ds3, hw3, hv3, hch3, hend⟩
 have hb3 : Below W.heap.size W w3 := HB2.out.trans (hch3.below (Nat.le_refl _) (fun g hg => own_base HW2.out.row g hg) HB2.out.size)
 have HB3 := hideM hb3
 clear hb3 hch3 hv3 c0 HW2 HB2
 rcases hend with ⟨rfl, _⟩ | ⟨d2, rfl, _⟩
 ·obtain ⟨g3, cap3, rfl, _, _, _, _, _⟩ := hw3.slice (by simp)
  simp only [List.length_singleton] at hw3
  have HW3 := hideM hw3
  clear hw3
  go_wp2_with fail
  go_loopw [6, 7] (fun s6 s7 wr => s7 = .int .i64 0 ∧ s6 = .bool true ∧ wr = w3) (fun _ _ _ => 0)
  case atStart => exact ⟨rfl, rfl, rfl⟩
  case round =>
   obtain ⟨rfl, rfl, rfl⟩ := hrel
   have c0 := HW3.out.c
   by_cases hlt : 0 < flen
   ·have hl2 : (0 : Int) < (flen : Int) := by omega
    go_wp2_with fail
    go_ret
    exact ⟨rfl, HB3.out⟩
   ·have hf0 : flen = 0 := by omega
    subst hf0
    go_wp2_with fail
    go_ret
    exact ⟨rfl, HB3.out⟩
 ·obtain ⟨g3, cap3, rfl, hg3, hg3l, hcp3, hcm3, hcell3⟩ := hw3.slice (by simp)
  simp only [List.singleton_append, List.length_cons, List.length_nil, Nat.zero_add, Nat.reduceAdd] at hw3 hcell3
  have HW3 := hideM hw3
  clear hw3 hcell3
  go_wp2_with fail
  go_loopw [6, 7] (fun s6 s7 wr => ∃ k : Nat, k ≤ flen ∧ s7 = .int .i64 k ∧ s6 = .bool true ∧ Hid (WAt W.heap.size wr W.heap.size (.slice (some ⟨g3, 0, none⟩) 2 cap3) [d, d2] ∧ Below W.heap.size W wr)) (fun _ s _ => flen - (intOf s).toNat)
  case atStart => exact ⟨0, by omega, rfl, rfl, ⟨HW3.out, HB3.out⟩⟩
  case round =>
   clear HW3 HB3
   obtain ⟨k, hk, rfl, rfl, HS⟩ := hrel
   have c0 := HS.out.1.c
   by_cases hlt : k < flen
   ·have hlt2 : (k : Int) < (flen : Int) := by omega
    have hk0 : (0 : Int) ≤ (k : Int) := by omega
    have hkm : (k : Int) < 9223372036854775807 := by have := HF.out.mx; omega
    have hfa := HF.out.a (by omega)
    subst hfa
    have hfb : fb < W.heap.size := lt_of_cell (HF.out.c k hlt)
    have c1 : wr.cell? ⟨fb, fo + k, none⟩ = some (.slice (A k) (L k) (C k)) := (HS.out.2.cell (p := ⟨fb, fo + k, none⟩) hfb).trans (HF.out.c k hlt)
    have c5 : wr.cell? ⟨g3, 5, none⟩ = some (.slice (some ⟨d2.lb, 0, none⟩) d2.n d2.lc) := by
     rw [HS.out.1.row.cellAt 5 (by simp)]; rfl
    have hbk := HF.out.row k hlt
    have hlk := hbk.le
    have HBk := hideM (hbk.later HS.out.2 (Nat.le_refl _))
    have hp2 := HS.out.1.ds d2 (by simp)
    have HP2 := hideM hp2.1
    have HO2 := hideM hp2.2.1
    clear hbk hp2
    generalize A k = ak at c1 HBk
    generalize L k = lk at c1 HBk hlk
    generalize C k = ck at c1 HBk hlk
    have hg3r : g3 < wr.heap.size := lt_of_cell c5
    have hfbr : fb < wr.heap.size := lt_of_cell c1
    have HKF : Hid (k < flen) := hlt
    have i1 : (lk : Int) ≤ (ck : Int) := by omega
    have i3 : (0 : Int) ≤ (lk : Int) := by omega
    by_cases h64 : 64 < lk
    ·have h64b : (64 : Int) < (lk : Int) := by omega
     have i2 : (64 : Int) ≤ (ck : Int) := by omega
     go_wp2_with fail
     go_region_held3 (fun w' => w'.cell? ⟨W.heap.size, 0, none⟩ = some (.slice (some ⟨g3, 0, none⟩) 2 cap3) ∧ w'.cell? ⟨g3, 5, none⟩ = some (.slice (some ⟨d2.lb, 0, none⟩) d2.n d2.lc) ∧ w'.cell? ⟨fb, fo + k, none⟩ = some (.slice ak lk ck)) (go_keep) ((go_at_call 19; refine (run_pd d2 ak lk ck 64 (Z k) _ (HP2.out.later (Below.refl _ _).drew) HO2.out (HBk.out.later (k := wr.heap.size) (Below.refl _ _).drew (Nat.le_refl _)) (by omega) (by omega)).mono ?_; rintro e wB ⟨x, vv, rfl, belB⟩; have bB := (Below.refl wr.heap.size wr).drew.trans belB; have q0 := (World.cell?_of_block (w := wr) (a := ⟨W.heap.size, 0, none⟩) (bB.block _ HS.out.1.lp)).trans c0; have q5 := (World.cell?_of_block (w := wr) (a := ⟨g3, 5, none⟩) (bB.block _ hg3r)).trans c5; have q1 := (World.cell?_of_block (w := wr) (a := ⟨fb, fo + k, none⟩) (bB.block _ hfbr)).trans c1; have HBB := hideM bB; clear belB bB))
     all_goals go_wp2
     go_roundw
     case rel => exact ⟨k + 1, (by have := HKF.out; omega), by go_num, rfl, ⟨HS.out.1.later HBB.out, HS.out.2.trans (HBB.out.mono HS.out.2.size)⟩⟩
     case measure => have := HKF.out; simp [intOf]; omega
    ·have h64b : ¬ (64 : Int) < (lk : Int) := by omega
     go_wp2_with fail
     go_region_held3 (fun w' => w'.cell? ⟨W.heap.size, 0, none⟩ = some (.slice (some ⟨g3, 0, none⟩) 2 cap3) ∧ w'.cell? ⟨g3, 5, none⟩ = some (.slice (some ⟨d2.lb, 0, none⟩) d2.n d2.lc) ∧ w'.cell? ⟨fb, fo + k, none⟩ = some (.slice ak lk ck)) (go_keep) ((go_at_call 19; refine (run_pd d2 ak lk ck lk (Z k) _ (HP2.out.later (Below.refl _ _).drew) HO2.out (HBk.out.later (k := wr.heap.size) (Below.refl _ _).drew (Nat.le_refl _)) (by omega) (by omega)).mono ?_; rintro e wB ⟨x, vv, rfl, belB⟩; have bB := (Below.refl wr.heap.size wr).drew.trans belB; have q0 := (World.cell?_of_block (w := wr) (a := ⟨W.heap.size, 0, none⟩) (bB.block _ HS.out.1.lp)).trans c0; have q5 := (World.cell?_of_block (w := wr) (a := ⟨g3, 5, none⟩) (bB.block _ hg3r)).trans c5; have q1 := (World.cell?_of_block (w := wr) (a := ⟨fb, fo + k, none⟩) (bB.block _ hfbr)).trans c1; have HBB := hideM bB; clear belB bB))
     all_goals go_wp2
     go_roundw
     case rel => exact ⟨k + 1, (by have := HKF.out; omega), by go_num, rfl, ⟨HS.out.1.later HBB.out, HS.out.2.trans (HBB.out.mono HS.out.2.size)⟩⟩
     case measure => have := HKF.out; simp [intOf]; omega
   ·have hkk : k = flen := by omega
    subst hkk
    go_wp2_with fail
    go_ret
    exact ⟨rfl, HS.out.2⟩
end Go.Proofs.YtoobileejdhikaaGreat
