/-
  The law's own helper part: what is handed in of given bytes.
  The law's helper clean: what was handed in stands as it did, and is written over.
  The law's helper given: bytes to hand in, with stains behind them.
-/
import Derived.Test.YtoobileejdhikaaGreatGa0
import Derived.Test.YtoobileejdhikaaGreatGc4
import Derived.Test.YtoobileejdhikaaGreatGc3
import Derived.Test.YtoobileejdhikaaGreatGc5
import Derived.Test.YtoobileejdhikaaGreatGf1
import Derived.Deep.RegionHeld3
import Derived.Deep.DrawnRows
import Derived.Laws.CopyOwn
import Derived.Deep.CutBlock
namespace Go.Proofs.YtoobileejdhikaaGreat
set_option maxHeartbeats 400000
open Go.RowKit

theorem part_eql (a : Option Addr) (l c : Nat) (w : World) : Sem.run Tryz.prog (binOp .eql 22 (.slice a l c) (.slice none 0 0)) w = .ok (.bool a.isNone) w := by
 cases a <;> kernel_rfl

theorem part_nil (all : Value) (w : World) :
  Calls Tryz.prog 45 #[all, .slice none 0 0] w fun e w' => e = .returned (.slice none 0 0) ∧ w = w' := by
 have h := part_eql none 0 0
 go_enter Tryz.func45, Tryz.ntmps45
 go_wp2
 go_ret
 exact ⟨rfl, rfl⟩

theorem part_some (g n c : Nat) (ba : Addr) (bl bc : Nat) (w : World) (h1 : bl ≤ c) :
  Calls Tryz.prog 45 #[.slice (some ⟨g, 0, none⟩) n c, .slice (some ba) bl bc] w fun e w' => e = .returned (.slice (some ⟨g, 0, none⟩) bl c) ∧ w = w' := by
 have h := part_eql (some ba) bl bc
 have i1 : (bl : Int) ≤ (c : Int) := by omega
 go_enter Tryz.func45, Tryz.ntmps45
 go_wp2
 go_ret
 exact ⟨rfl, rfl⟩
end Go.Proofs.YtoobileejdhikaaGreat

namespace Go.Proofs.YtoobileejdhikaaGreat
set_option maxRecDepth 100000
set_option maxHeartbeats 1000000
open Go.RowKit
attribute [local go_sem ↓] Go.wp_at_zero Go.wp_at_succ

theorem clean_ok (g b o bl bc c : Nat) (ba : Option Addr) (B : Nat → Int) (w : World) (h64 : bl ≤ 140737488355328)
  (ha : ∀ i, i < bl → w.cell? ⟨g, i, none⟩ = some (.int .u8 (B i))) (hs : ∀ i, bl ≤ i → i < bl + 8 → w.cell? ⟨g, i, none⟩ = some (.int .u8 77)) (hz : ∀ i, w.frozen? ⟨g, i, none⟩ = false)
  (hb : 0 < bl → ba = some ⟨b, o, none⟩) (hne : 0 < bl → b ≠ g) (hbb : ∀ i, i < bl → w.cell? ⟨b, o + i, none⟩ = some (.int .u8 (B i))) :
  Calls Tryz.prog 46 #[.slice (some ⟨g, 0, none⟩) (bl + 8) c, .slice ba bl bc] w fun e w' => e = .returned (.bool true) ∧ Tch g g w w' := by
 have HA : Hid ((∀ i, i < bl → w.cell? ⟨g, i, none⟩ = some (.int .u8 (B i))) ∧ (∀ i, bl ≤ i → i < bl + 8 → w.cell? ⟨g, i, none⟩ = some (.int .u8 77)) ∧ (∀ i, w.frozen? ⟨g, i, none⟩ = false) ∧ (0 < bl → ba = some ⟨b, o, none⟩) ∧ (0 < bl → b ≠ g) ∧ (∀ i, i < bl → w.cell? ⟨b, o + i, none⟩ = some (.int .u8 (B i)))) := ⟨ha, hs, hz, hb, hne, hbb⟩
 clear ha hs hz hb hne hbb
 go_enter Tryz.func46, Tryz.ntmps46
 go_wp2
 go_loopw [5, 6] (fun k i wr => ∃ j : Nat, j ≤ bl + 8 ∧ i = .int .i64 j ∧ k = .bool true ∧ Hid ((∀ q, j ≤ q → wr.cell? ⟨g, q, none⟩ = w.cell? ⟨g, q, none⟩) ∧ Tch g g w wr ∧ ∀ q, wr.frozen? ⟨g, q, none⟩ = false)) (fun _ i _ => bl + 8 - (intOf i).toNat)
 case atStart => exact ⟨0, Nat.zero_le _, rfl, rfl, ⟨fun _ _ => rfl, Tch.refl _ _ _, HA.out.2.2.1⟩⟩
 case round =>
  obtain ⟨j, hj, rfl, rfl, HR⟩ := hrel
  by_cases h1 : j < bl + 8
  ·have z1 : wr.frozen? ⟨g, j, none⟩ = false := HR.out.2.2 j
   have i1 : (j : Int) < (bl : Int) + 8 := by omega
   by_cases h2 : j < bl
   ·have hba := HA.out.2.2.2.1 (by omega)
    subst hba
    have c1 : wr.cell? ⟨g, j, none⟩ = some (.int .u8 (B j)) := (HR.out.1 j (Nat.le_refl _)).trans (HA.out.1 j h2)
    have c2 : wr.cell? ⟨b, o + j, none⟩ = some (.int .u8 (B j)) := by
     have e := HA.out.2.2.2.2.2 j h2
     have hlt : b < w.heap.size := lt_of_cell e
     rw [HR.out.2.1.cell hlt (HA.out.2.2.2.2.1 (by omega)) (HA.out.2.2.2.2.1 (by omega))]; exact e
    have i2 : (j : Int) < (bl : Int) := by omega
    go_upto_region 6 with fail
    go_region_held3 (fun w' => w'.cell? ⟨g, j, none⟩ = some (.int .u8 (B j)) ∧ w'.cell? ⟨b, o + j, none⟩ = some (.int .u8 (B j))) (first | exact ⟨c1, c2⟩ | go_keep) (fail)
    go_wp2
    go_roundw
    case rel => exact ⟨j + 1, by omega, by go_num, rfl, ⟨fun q hq => by show (wr.setCell ⟨g, j, none⟩ _).cell? ⟨g, q, none⟩ = _; rw [cell_set_off (by omega)]; exact HR.out.1 q (by omega), (HR.out.2.1.setP j _).drew, fun q => by show (wr.setCell ⟨g, j, none⟩ _).frozen? ⟨g, q, none⟩ = _; rw [World.frozen?_setCell]; exact HR.out.2.2 q⟩⟩
    case measure => simp [intOf]; omega
   ·have c1 : wr.cell? ⟨g, j, none⟩ = some (.int .u8 77) := (HR.out.1 j (Nat.le_refl _)).trans (HA.out.2.1 j (by omega) h1)
    have i2 : ¬ (j : Int) < (bl : Int) := by omega
    go_wp2
    go_roundw
    case rel => exact ⟨j + 1, by omega, by go_num, rfl, ⟨fun q hq => by rw [cell_set_off (by omega)]; exact HR.out.1 q (by omega), HR.out.2.1.setP j _, fun q => by rw [World.frozen?_setCell]; exact HR.out.2.2 q⟩⟩
    case measure => simp [intOf]; omega
  ·go_wp2
   go_ret
   exact ⟨rfl, HR.out.2.1⟩
end Go.Proofs.YtoobileejdhikaaGreat

namespace Go.Proofs.YtoobileejdhikaaGreat
set_option maxRecDepth 100000
set_option maxHeartbeats 4000000
open Go.RowKit
attribute [local go_sem ↓] Go.wp_at_zero Go.wp_at_succ

theorem Tryz.infoB : (Tryz.prog.info? 5).map (fun i => (i.zero, i.size, i.bytes)) = some (some (.int .u8 0), 1, 1) := by kernel_rfl
structure GivenAt (W : World) (g bl : Nat) (B : Nat → Int) : Prop where
 c : ∀ i, i < bl → W.cell? ⟨g, i, none⟩ = some (.int .u8 (B i))
 s : ∀ i, bl ≤ i → i < bl + 8 → W.cell? ⟨g, i, none⟩ = some (.int .u8 77)
 z : ∀ i, W.frozen? ⟨g, i, none⟩ = false
 l : g < W.heap.size
def byB (B : Nat → Int) (n : Nat) : List Value := (List.range n).map (fun i => .int .u8 (B i))
theorem byB_len (B : Nat → Int) (n : Nat) : (byB B n).length = n := by simp [byB]
theorem byB_at (B : Nat → Int) (n i : Nat) (h : i < n) : (byB B n)[i]? = some (.int .u8 (B i)) := by simp [byB, h]
theorem byB_of (B : Nat → Int) (n j : Nat) (u : Value) (h : (byB B n)[j]? = some u) : j < n ∧ u = .int .u8 (B j) := by
 have hj : j < n := by have := (List.getElem?_eq_some_iff.1 h).1; rw [byB_len] at this; exact this
 rw [byB_at B n j hj] at h
 exact ⟨hj, (Option.some.inj h).symm⟩

theorem given_any (ba : Option Addr) (b o bl bc : Nat) (B : Nat → Int) (w : World) (hm : bl ≤ 140737488355328) (hb : 0 < bl → ba = some ⟨b, o, none⟩) (hbb : ∀ i, i < bl → w.cell? ⟨b, o + i, none⟩ = some (.int .u8 (B i))) :
  Calls Tryz.prog 44 #[.slice ba bl bc] w fun e w' => ∃ g, e = .returned (.slice (some ⟨g, 0, none⟩) (bl + 8) (bl + 8)) ∧ GivenAt w' g bl B ∧ w.heap.size ≤ g ∧ Below w.heap.size w w' := by
 obtain ⟨i0, hi, hz0, hz1, hz2⟩ := info_parts Tryz.infoB
 have HB : Hid ((0 < bl → ba = some ⟨b, o, none⟩) ∧ (∀ i, i < bl → w.cell? ⟨b, o + i, none⟩ = some (.int .u8 (B i)))) := ⟨hb, hbb⟩
 clear hb hbb
 go_enter Tryz.func44, Tryz.ntmps44
 go_upto_region 2 with (refine wpList_make_full _ rfl _ _ 22 rfl w.heap.size 5 i0 _ 1 Tryz.underlying22 hi hz0 hz1 .i64 .i64 _ _ (bl + 8) rfl rfl (by go_num) (by go_num) (by rw [hz2]; omega) (by unfold maxLen; omega) (Nat.le_refl _) ?_; intro W1 hown hgrow)
 obtain ⟨_, h1 | ⟨g', cap, cur, e, _, hrow, _, _, hs, _⟩⟩ := hown
 ·exact absurd h1.2 (by omega)
 simp only [Value.slice.injEq, Option.some.injEq, Addr.mk.injEq] at e
 obtain ⟨⟨rfl, _⟩, _, rfl⟩ := e
 have hb1 : Below w.heap.size w W1 := (Below.refl _ _).grown hgrow (Nat.le_refl _) (fun k hk => by simp at hk)
 obtain ⟨cu, hcu⟩ : ∃ cu : List Value, cur = cu.toArray := ⟨cur.toList, by simp⟩
 subst hcu
 have hsz : cu.length = bl + 8 := by simpa using hs
 have HSZ := hideM hsz
 have hsrc : 0 < (byB B bl).length → (some (⟨w.heap.size, 0, none⟩ : Addr)) = some ⟨w.heap.size, 0, none⟩ ∧ ∃ ad, ba = some ad ∧ ∀ j v, (byB B bl)[j]? = some v → W1.cell? (ad.add j) = some v := by
  intro h0
  rw [byB_len] at h0
  refine ⟨rfl, ⟨b, o, none⟩, HB.out.1 h0, fun j v hv => ?_⟩
  obtain ⟨hj, rfl⟩ := byB_of B bl j v hv
  have hc := HB.out.2 j hj
  have hlt : b < w.heap.size := lt_of_cell hc
  have e2 := (hb1.cell (p := ⟨b, o + j, none⟩) hlt).trans hc
  by_cases e : j = 0
  ·subst e; simpa [Addr.add] using e2
  ·simpa [Addr.add, e] using e2
 have hone : ∀ v ∈ byB B bl, v.oneCell' = true := fun v hv => by
  simp only [byB, List.mem_map] at hv
  obtain ⟨_, _, rfl⟩ := hv; rfl
 have hmin : (byB B bl).length = Nat.min bl (bl + 8) := by rw [byB_len]; exact (Nat.min_eq_left (by omega)).symm
 have hfit : 0 + (byB B bl).length ≤ cu.length := by rw [byB_len]; omega
 have HSC := hideM hsrc
 have HMN := hideM hmin
 have HFT := hideM hfit
 have HON := hideM hone
 clear hs hsz hgrow hsrc hmin hfit hone
 have HR := hideM hrow
 clear hrow
 go_wp2_with (refine wpList_copy_splice rfl _ _ 22 22 rfl 5 Tryz.underlying22 (by rw [hi]; simp [hz1]) _ _ _ _ _ _ rfl rfl w.heap.size 0 cu 5 HR.out (byB B bl) HMN.out HSC.out HFT.out HON.out w.heap.size w hb1 (Nat.le_refl _) ?_; intro W2 hrow2 hb2)
 have hcell : ∀ i, W2.cell? ⟨w.heap.size, i, none⟩ = (splice cu 0 (byB B bl))[i]? := fun i => by
  rw [cell_of_row W2 _ i _ _ _ hrow2.out]; simp
 have hsp : splice cu 0 (byB B bl) = byB B bl ++ cu.drop bl := by simp [splice, byB_len]
 have hlt : w.heap.size < W2.heap.size := (Array.getElem?_eq_some_iff.1 hrow2.out).1
 have HS : Hid ((∀ i, i < bl → W2.cell? ⟨w.heap.size, i, none⟩ = some (.int .u8 (B i))) ∧ (∀ i, i < bl + 8 → ∃ v, W2.cell? ⟨w.heap.size, i, none⟩ = some v) ∧ (∀ i, W2.frozen? ⟨w.heap.size, i, none⟩ = false) ∧ w.heap.size < W2.heap.size ∧ Below w.heap.size w W2) := by
  refine ⟨fun i hi2 => ?_, fun i hi2 => ?_, fun i => frozen_of_row W2 _ i _ _ hrow2.out, hlt, hb2⟩
  ·rw [hcell, hsp, List.getElem?_append_left (by rw [byB_len]; exact hi2), byB_at B bl i hi2]
  ·rw [hcell, hsp]
   have hl : i < (byB B bl ++ cu.drop bl).length := by rw [List.length_append, byB_len, List.length_drop, HSZ.out]; omega
   exact ⟨_, List.getElem?_eq_getElem hl⟩
 clear hcell hsp hrow2 hb2 hlt HMN HSC HFT HON HR hb1
 go_loopw [4] (fun s4 wr => ∃ k : Nat, k ≤ 8 ∧ s4 = .int .i64 ((bl + k : Nat) : Int) ∧ Hid ((∀ i, i < bl → wr.cell? ⟨w.heap.size, i, none⟩ = some (.int .u8 (B i))) ∧ (∀ i, bl ≤ i → i < bl + k → wr.cell? ⟨w.heap.size, i, none⟩ = some (.int .u8 77)) ∧ (∀ i, i < bl + 8 → ∃ v, wr.cell? ⟨w.heap.size, i, none⟩ = some v) ∧ (∀ i, wr.frozen? ⟨w.heap.size, i, none⟩ = false) ∧ w.heap.size < wr.heap.size ∧ Below w.heap.size w wr)) (fun s _ => bl + 8 - (intOf s).toNat)
 case atStart => exact ⟨0, by omega, rfl, ⟨HS.out.1, fun i h1 h2 => by omega, HS.out.2.1, HS.out.2.2.1, HS.out.2.2.2.1, HS.out.2.2.2.2⟩⟩
 case round =>
  clear HS
  obtain ⟨k, hk, rfl, HS⟩ := hrel
  by_cases hlt : k < 8
  ·have j1 : ((bl + k : Nat) : Int) < (bl : Int) + 8 := by omega
   have j0 : (0 : Int) ≤ ((bl + k : Nat) : Int) := by omega
   obtain ⟨v, hv⟩ := HS.out.2.2.1 (bl + k) (by omega)
   have hz := HS.out.2.2.2.1 (bl + k)
   have HV := hideM hv
   generalize hq : bl + k = q at hv hz j1 j0 ⊢
   have HQ := hideM hq
   clear hq
   go_wp2_with fail
   go_roundw
   case rel =>
    have hqq := HQ.out
    refine ⟨k + 1, by omega, by go_num, ⟨fun i hi2 => ?_, fun i h1 h2 => ?_, fun i h1 => ?_, fun i => ?_, ?_, ?_⟩⟩
    ·rw [cell_set_off (by omega)]; exact HS.out.1 i hi2
    ·by_cases e : i = q
     ·subst e; rw [cell_set_same (v := v) (by rw [← hqq]; exact HV.out)]
     ·rw [cell_set_off (by omega)]; exact HS.out.2.1 i h1 (by omega)
    ·by_cases e : i = q
     ·subst e; exact ⟨_, cell_set_same (v := v) (by rw [← hqq]; exact HV.out)⟩
     ·rw [cell_set_off (by omega)]; exact HS.out.2.2.1 i h1
    ·rw [World.frozen?_setCell]; exact HS.out.2.2.2.1 i
    ·rw [size_setCell]; exact HS.out.2.2.2.2.1
    ·exact HS.out.2.2.2.2.2.setCell (by exact Nat.le_refl _) _
   case measure => have := HQ.out; simp [intOf]; omega
  ·have hk8 : k = 8 := by omega
   subst hk8
   have j1 : ¬ ((bl + 8 : Nat) : Int) < (bl : Int) + 8 := by omega
   go_wp2_with fail
   go_ret
   exact ⟨w.heap.size, rfl, ⟨HS.out.1, HS.out.2.1, HS.out.2.2.2.1, HS.out.2.2.2.2.1⟩, Nat.le_refl _, HS.out.2.2.2.2.2⟩
end Go.Proofs.YtoobileejdhikaaGreat
