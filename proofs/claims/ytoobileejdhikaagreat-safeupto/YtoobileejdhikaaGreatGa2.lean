/-
  The program: what holds of two values.
  The program's states of knowledge: SetNumber, SetFirst, SetLast, Ahead and the small makers of values.
-/
import Derived.Test.YtoobileejdhikaaGreatGa0
import Derived.Test.YtoobileejdhikaaGreatGa1
import Derived.Deep.RegionWith
import Derived.BigQuiet
import Derived.Deep.QuietTactic
namespace Go.Proofs.YtoobileejdhikaaGreat
set_option maxRecDepth 100000
set_option maxHeartbeats 1000000
open Go.RowKit

theorem bel3 (w : World) (A B C : Obj) : Below w.heap.size w (((w.alloc A).alloc B).alloc C) := (((Below.refl _ _).alloc (Nat.le_refl _) _).alloc (by simp) _).alloc (by simp; omega) _

theorem first_bel {w w1 : World} {A B C : Obj} (h : Below (((w.alloc A).alloc B).alloc C).drew.heap.size (((w.alloc A).alloc B).alloc C).drew w1) : Below w.heap.size w w1 :=
 (bel3 w A B C).drew.trans (h.mono (by show w.heap.size ≤ (((w.alloc A).alloc B).alloc C).heap.size; simp; omega))
theorem spanOrU_bel (a b c d : Int) (w : World) :
  Calls Tryz.prog 196 #[.agg #[.int .u64 a, .int .u64 b], .agg #[.int .u64 c, .int .u64 d]] w fun e w' => e = .returned (.agg #[.int .u64 (min a c), .int .u64 (max b d)]) ∧ Below w.heap.size w w' :=
 (spanOrU_any a b c d w).mono fun _ _ ⟨h1, h2⟩ => ⟨h1, by rw [h2]; exact bel3 _ _ _ _⟩
theorem spanOrI_bel (a b c d : Int) (w : World) :
  Calls Tryz.prog 197 #[.agg #[.int .i64 a, .int .i64 b], .agg #[.int .i64 c, .int .i64 d]] w fun e w' => e = .returned (.agg #[.int .i64 (min a c), .int .i64 (max b d)]) ∧ Below w.heap.size w w' :=
 (spanOrI_any a b c d w).mono fun _ _ ⟨h1, h2⟩ => ⟨h1, by rw [h2]; exact bel3 _ _ _ _⟩

def KV.or (v o : KV) : KV := if v.kind = o.kind then ⟨v.kind, min v.nl o.nl, max v.nm o.nm, min v.pl o.pl, max v.pm o.pm, v.e && o.e⟩ else kNone

theorem vOr_any (v o : KV) (w : World) :
  Calls Tryz.prog 183 #[.agg v.arr, .agg o.arr] w fun e w' => e = .returned (.agg (v.or o).arr) ∧ Below w.heap.size w w' := by
 unfold KV.arr
 by_cases hk : v.kind = o.kind
 ·have hk' : (v.kind != o.kind) = false := by simpa using hk
  have hE : v.or o = ⟨v.kind, min v.nl o.nl, max v.nm o.nm, min v.pl o.pl, max v.pm o.pm, v.e && o.e⟩ := by unfold KV.or; rw [if_pos hk]
  rw [hE]
  clear hE hk
  obtain ⟨k1, a, b, c, d, e1⟩ := v
  obtain ⟨k2, a', b', c', d', e2⟩ := o
  simp only at hk' ⊢
  cases e1
  ·go_enter Tryz.func183, Tryz.ntmps183
   go_wp2_with fail
   refine wp_region_noPanic ?_
   refine wp_region_held_drew (S := fun w' => w'.cell? ⟨w.heap.size, 0, none⟩ = some (.int .u8 k1) ∧ w'.cell? ⟨w.heap.size, 1, none⟩ = some (.int .u64 a) ∧ w'.cell? ⟨w.heap.size, 2, none⟩ = some (.int .u64 b) ∧ w'.cell? ⟨w.heap.size, 3, none⟩ = some (.int .i64 c) ∧ w'.cell? ⟨w.heap.size, 4, none⟩ = some (.int .i64 d) ∧ w'.cell? ⟨w.heap.size, 5, none⟩ = some (.bool false) ∧ w'.cell? ⟨w.heap.size + 1, 1, none⟩ = some (.int .u64 a') ∧ w'.cell? ⟨w.heap.size + 1, 2, none⟩ = some (.int .u64 b') ∧ w'.cell? ⟨w.heap.size + 1, 3, none⟩ = some (.int .i64 c') ∧ w'.cell? ⟨w.heap.size + 1, 4, none⟩ = some (.int .i64 d') ∧ w'.cell? ⟨w.heap.size + 1, 5, none⟩ = some (.bool e2)) (by kernel_rfl) ?_ (fun hHeld => ?_)
   ·(try dsimp only); go_keep
   refine tkH 0 ?_
   try simp only [Act.put]
   refine tkH 1 ?_
   try simp only [Act.put]
   refine tkH 2 ?_
   try simp only [Act.put]
   refine tkH 3 ?_
   try simp only [Act.put]
   refine tkH 4 ?_
   try simp only [Act.put]
   refine tkH 5 ?_
   try simp only [Act.put]
   refine tkH 7 ?_
   try simp only [Act.put]
   refine tkH 8 ?_
   try simp only [Act.put]
   refine tkH 9 ?_
   try simp only [Act.put]
   refine tkH 10 ?_
   try simp only [Act.put]
   refine tkH 12 ?_
   try simp only [Act.put]
   refine tkH 13 ?_
   try simp only [Act.put]
   refine rdH 6 (fun K hK => ?_)
   go_simp
   refine (spanOrU_bel _ _ _ _ _).mono ?_
   rintro e w1 ⟨rfl, hbU⟩
   go_wp2_with fail
   refine hK.out _ _ ?_ (fun hHeld => ?_)
   ·(try dsimp only); (first | go_keep | (go_split_ands; refine ⟨?_, ?_, ?_, ?_, ?_, ?_, ?_, ?_, ?_, ?_, ?_⟩ <;> (first | (rw [hbI.cell (by have := hbU.size; simp at this ⊢; omega)]; first | assumption | simp [*]) | (rw [hbU.cell (by first | (simp; done) | (simp; omega))]; first | assumption | simp [*]))))
   clear hK K
   try simp only [Act.put]
   refine rdH 11 (fun K hK => ?_)
   go_simp
   refine (spanOrI_bel _ _ _ _ _).mono ?_
   rintro e w2 ⟨rfl, hbI⟩
   go_wp2_with fail
   refine hK.out _ _ ?_ (fun hHeld => ?_)
   ·(try dsimp only); (first | go_keep | (go_split_ands; refine ⟨?_, ?_, ?_, ?_, ?_, ?_, ?_, ?_, ?_, ?_, ?_⟩ <;> (first | (rw [hbI.cell (by have := hbU.size; simp at this ⊢; omega)]; first | assumption | simp [*]) | (rw [hbU.cell (by first | (simp; done) | (simp; omega))]; first | assumption | simp [*]))))
   clear hK K
   try simp only [Act.put]
   refine rdH 14 (fun K hK => ?_)
   go_simp
   refine hK.out _ _ ?_ (fun hHeld => ?_)
   ·(try dsimp only); (first | go_keep | (go_split_ands; refine ⟨?_, ?_, ?_, ?_, ?_, ?_, ?_, ?_, ?_, ?_, ?_⟩ <;> (first | (rw [hbI.cell (by have := hbU.size; simp at this ⊢; omega)]; first | assumption | simp [*]) | (rw [hbU.cell (by first | (simp; done) | (simp; omega))]; first | assumption | simp [*]))))
   clear hK K
   try simp only [Act.put]
   refine tkY 15 rfl (Or.inr ⟨by rfl, rfl⟩) ?_
   try simp only [Act.put]
   refine tkY 16 rfl (Or.inr ⟨by rfl, rfl⟩) ?_
   try simp only [Act.put]
   have lR : w.heap.size + 1 + 1 < w1.heap.size := by have := hbU.size; simp at this; omega
   have r0 : w2.cell? ⟨w.heap.size + 1 + 1, 0, none⟩ = some (.int .u8 0) := by rw [hbI.cell (by exact lR), hbU.cell (by simp)] <;> simp [go_sem]
   have r1 : w2.cell? ⟨w.heap.size + 1 + 1, 1, none⟩ = some (.int .u64 0) := by rw [hbI.cell (by exact lR), hbU.cell (by simp)] <;> simp [go_sem]
   have r2 : w2.cell? ⟨w.heap.size + 1 + 1, 2, none⟩ = some (.int .u64 0) := by rw [hbI.cell (by exact lR), hbU.cell (by simp)] <;> simp [go_sem]
   have r3 : w2.cell? ⟨w.heap.size + 1 + 1, 3, none⟩ = some (.int .i64 0) := by rw [hbI.cell (by exact lR), hbU.cell (by simp)] <;> simp [go_sem]
   have r4 : w2.cell? ⟨w.heap.size + 1 + 1, 4, none⟩ = some (.int .i64 0) := by rw [hbI.cell (by exact lR), hbU.cell (by simp)] <;> simp [go_sem]
   have r5 : w2.cell? ⟨w.heap.size + 1 + 1, 5, none⟩ = some (.bool false) := by rw [hbI.cell (by exact lR), hbU.cell (by simp)] <;> simp [go_sem]
   have rz : ∀ o, w2.frozen? ⟨w.heap.size + 1 + 1, o, none⟩ = false := fun o => by rw [hbI.frozen (by exact lR), hbU.frozen (by simp)] <;> simp [go_sem]
   have hbA : Below w.heap.size w w2 := (first_bel hbU).trans (hbI.mono (by omega))
   have tS : ∀ (wx : World) (j o : Nat) (u : Value), (wx.setCell ⟨w.heap.size + 1 + 1, j, none⟩ u).cell? ⟨w.heap.size, o, none⟩ = wx.cell? ⟨w.heap.size, o, none⟩ := fun wx j o u => World.cell?_setCell_other wx ⟨w.heap.size + 1 + 1, j, none⟩ ⟨w.heap.size, o, none⟩ u (fun e => by have := congrArg Addr.block e; simp at this; omega)
   have tS1 : ∀ (wx : World) (j o : Nat) (u : Value), (wx.setCell ⟨w.heap.size + 1 + 1, j, none⟩ u).cell? ⟨w.heap.size + 1, o, none⟩ = wx.cell? ⟨w.heap.size + 1, o, none⟩ := fun wx j o u => World.cell?_setCell_other wx ⟨w.heap.size + 1 + 1, j, none⟩ ⟨w.heap.size + 1, o, none⟩ u (fun e => by have := congrArg Addr.block e; simp at this)
   refine rdH 17 (fun K hK => ?_)
   go_simp
   refine hK.out _ _ ?_ (fun hHeld => ?_)
   ·(try dsimp only); (first | go_keep | (go_split_ands; refine ⟨?_, ?_, ?_, ?_, ?_, ?_, ?_, ?_, ?_, ?_, ?_⟩ <;> (first | (rw [hbI.cell (by have := hbU.size; simp at this ⊢; omega)]; first | assumption | simp [*]) | (rw [hbU.cell (by first | (simp; done) | (simp; omega))]; first | assumption | simp [*]))))
   clear hK K
   try simp only [Act.put]
   refine rdH 18 (fun K hK => ?_)
   go_simp
   refine hK.out _ _ ?_ (fun hHeld => ?_)
   ·(try dsimp only); (first | go_keep | (go_split_ands; refine ⟨?_, ?_, ?_, ?_, ?_, ?_, ?_, ?_, ?_, ?_, ?_⟩ <;> (first | (rw [hbI.cell (by have := hbU.size; simp at this ⊢; omega)]; first | assumption | simp [*]) | (rw [hbU.cell (by first | (simp; done) | (simp; omega))]; first | assumption | simp [*]))))
   clear hK K
   try simp only [Act.put]
   refine rdH 19 (fun K hK => ?_)
   go_simp
   refine hK.out _ _ ?_ (fun hHeld => ?_)
   ·(try dsimp only); simp only [tS, tS1]; exact hHeld
   clear hK K
   try simp only [Act.put]
   refine wpAnyH_done (by kernel_rfl) ?_ _
   refine NoPanic.normal ?_
   all_goals go_wp2
   refine bodyPost_ret (v := .agg #[.int .u8 k1, .int .u64 (min a a'), .int .u64 (max b b'), .int .i64 (min c c'), .int .i64 (max d d'), .bool (false && e2)]) (by simp [results, Tryz.results183, go_sem, r0, r1, r2, r3, r4, r5]) rfl ⟨rfl, ?_⟩
   (repeat (first | with_reducible exact hbA | with_reducible refine Below.drew ?_ | with_reducible refine Below.setCell ?_ (by simp; try omega) _ ))
  ·go_enter Tryz.func183, Tryz.ntmps183
   go_wp2_with fail
   refine wp_region_noPanic ?_
   refine wp_region_held_drew (S := fun w' => w'.cell? ⟨w.heap.size, 0, none⟩ = some (.int .u8 k1) ∧ w'.cell? ⟨w.heap.size, 1, none⟩ = some (.int .u64 a) ∧ w'.cell? ⟨w.heap.size, 2, none⟩ = some (.int .u64 b) ∧ w'.cell? ⟨w.heap.size, 3, none⟩ = some (.int .i64 c) ∧ w'.cell? ⟨w.heap.size, 4, none⟩ = some (.int .i64 d) ∧ w'.cell? ⟨w.heap.size, 5, none⟩ = some (.bool true) ∧ w'.cell? ⟨w.heap.size + 1, 1, none⟩ = some (.int .u64 a') ∧ w'.cell? ⟨w.heap.size + 1, 2, none⟩ = some (.int .u64 b') ∧ w'.cell? ⟨w.heap.size + 1, 3, none⟩ = some (.int .i64 c') ∧ w'.cell? ⟨w.heap.size + 1, 4, none⟩ = some (.int .i64 d') ∧ w'.cell? ⟨w.heap.size + 1, 5, none⟩ = some (.bool e2)) (by kernel_rfl) ?_ (fun hHeld => ?_)
   ·(try dsimp only); go_keep
   refine tkH 0 ?_
   try simp only [Act.put]
   refine tkH 1 ?_
   try simp only [Act.put]
   refine tkH 2 ?_
   try simp only [Act.put]
   refine tkH 3 ?_
   try simp only [Act.put]
   refine tkH 4 ?_
   try simp only [Act.put]
   refine tkH 5 ?_
   try simp only [Act.put]
   refine tkH 7 ?_
   try simp only [Act.put]
   refine tkH 8 ?_
   try simp only [Act.put]
   refine tkH 9 ?_
   try simp only [Act.put]
   refine tkH 10 ?_
   try simp only [Act.put]
   refine tkH 12 ?_
   try simp only [Act.put]
   refine tkH 13 ?_
   try simp only [Act.put]
   refine rdH 6 (fun K hK => ?_)
   go_simp
   refine (spanOrU_bel _ _ _ _ _).mono ?_
   rintro e w1 ⟨rfl, hbU⟩
   go_wp2_with fail
   refine hK.out _ _ ?_ (fun hHeld => ?_)
   ·(try dsimp only); (first | go_keep | (go_split_ands; refine ⟨?_, ?_, ?_, ?_, ?_, ?_, ?_, ?_, ?_, ?_, ?_⟩ <;> (first | (rw [hbI.cell (by have := hbU.size; simp at this ⊢; omega)]; first | assumption | simp [*]) | (rw [hbU.cell (by first | (simp; done) | (simp; omega))]; first | assumption | simp [*]))))
   clear hK K
   try simp only [Act.put]
   refine rdH 11 (fun K hK => ?_)
   go_simp
   refine (spanOrI_bel _ _ _ _ _).mono ?_
   rintro e w2 ⟨rfl, hbI⟩
   go_wp2_with fail
   refine hK.out _ _ ?_ (fun hHeld => ?_)
   ·(try dsimp only); (first | go_keep | (go_split_ands; refine ⟨?_, ?_, ?_, ?_, ?_, ?_, ?_, ?_, ?_, ?_, ?_⟩ <;> (first | (rw [hbI.cell (by have := hbU.size; simp at this ⊢; omega)]; first | assumption | simp [*]) | (rw [hbU.cell (by first | (simp; done) | (simp; omega))]; first | assumption | simp [*]))))
   clear hK K
   try simp only [Act.put]
   refine rdH 14 (fun K hK => ?_)
   go_simp
   refine hK.out _ _ ?_ (fun hHeld => ?_)
   ·(try dsimp only); (first | go_keep | (go_split_ands; refine ⟨?_, ?_, ?_, ?_, ?_, ?_, ?_, ?_, ?_, ?_, ?_⟩ <;> (first | (rw [hbI.cell (by have := hbU.size; simp at this ⊢; omega)]; first | assumption | simp [*]) | (rw [hbU.cell (by first | (simp; done) | (simp; omega))]; first | assumption | simp [*]))))
   clear hK K
   try simp only [Act.put]
   refine tkH 15 ?_
   try simp only [Act.put]
   refine tkH 16 ?_
   try simp only [Act.put]
   have lR : w.heap.size + 1 + 1 < w1.heap.size := by have := hbU.size; simp at this; omega
   have r0 : w2.cell? ⟨w.heap.size + 1 + 1, 0, none⟩ = some (.int .u8 0) := by rw [hbI.cell (by exact lR), hbU.cell (by simp)] <;> simp [go_sem]
   have r1 : w2.cell? ⟨w.heap.size + 1 + 1, 1, none⟩ = some (.int .u64 0) := by rw [hbI.cell (by exact lR), hbU.cell (by simp)] <;> simp [go_sem]
   have r2 : w2.cell? ⟨w.heap.size + 1 + 1, 2, none⟩ = some (.int .u64 0) := by rw [hbI.cell (by exact lR), hbU.cell (by simp)] <;> simp [go_sem]
   have r3 : w2.cell? ⟨w.heap.size + 1 + 1, 3, none⟩ = some (.int .i64 0) := by rw [hbI.cell (by exact lR), hbU.cell (by simp)] <;> simp [go_sem]
   have r4 : w2.cell? ⟨w.heap.size + 1 + 1, 4, none⟩ = some (.int .i64 0) := by rw [hbI.cell (by exact lR), hbU.cell (by simp)] <;> simp [go_sem]
   have r5 : w2.cell? ⟨w.heap.size + 1 + 1, 5, none⟩ = some (.bool false) := by rw [hbI.cell (by exact lR), hbU.cell (by simp)] <;> simp [go_sem]
   have rz : ∀ o, w2.frozen? ⟨w.heap.size + 1 + 1, o, none⟩ = false := fun o => by rw [hbI.frozen (by exact lR), hbU.frozen (by simp)] <;> simp [go_sem]
   have hbA : Below w.heap.size w w2 := (first_bel hbU).trans (hbI.mono (by omega))
   have tS : ∀ (wx : World) (j o : Nat) (u : Value), (wx.setCell ⟨w.heap.size + 1 + 1, j, none⟩ u).cell? ⟨w.heap.size, o, none⟩ = wx.cell? ⟨w.heap.size, o, none⟩ := fun wx j o u => World.cell?_setCell_other wx ⟨w.heap.size + 1 + 1, j, none⟩ ⟨w.heap.size, o, none⟩ u (fun e => by have := congrArg Addr.block e; simp at this; omega)
   have tS1 : ∀ (wx : World) (j o : Nat) (u : Value), (wx.setCell ⟨w.heap.size + 1 + 1, j, none⟩ u).cell? ⟨w.heap.size + 1, o, none⟩ = wx.cell? ⟨w.heap.size + 1, o, none⟩ := fun wx j o u => World.cell?_setCell_other wx ⟨w.heap.size + 1 + 1, j, none⟩ ⟨w.heap.size + 1, o, none⟩ u (fun e => by have := congrArg Addr.block e; simp at this)
   refine rdH 17 (fun K hK => ?_)
   go_simp
   refine hK.out _ _ ?_ (fun hHeld => ?_)
   ·(try dsimp only); (first | go_keep | (go_split_ands; refine ⟨?_, ?_, ?_, ?_, ?_, ?_, ?_, ?_, ?_, ?_, ?_⟩ <;> (first | (rw [hbI.cell (by have := hbU.size; simp at this ⊢; omega)]; first | assumption | simp [*]) | (rw [hbU.cell (by first | (simp; done) | (simp; omega))]; first | assumption | simp [*]))))
   clear hK K
   try simp only [Act.put]
   refine rdH 18 (fun K hK => ?_)
   go_simp
   refine hK.out _ _ ?_ (fun hHeld => ?_)
   ·(try dsimp only); (first | go_keep | (go_split_ands; refine ⟨?_, ?_, ?_, ?_, ?_, ?_, ?_, ?_, ?_, ?_, ?_⟩ <;> (first | (rw [hbI.cell (by have := hbU.size; simp at this ⊢; omega)]; first | assumption | simp [*]) | (rw [hbU.cell (by first | (simp; done) | (simp; omega))]; first | assumption | simp [*]))))
   clear hK K
   try simp only [Act.put]
   refine rdH 19 (fun K hK => ?_)
   go_simp
   refine hK.out _ _ ?_ (fun hHeld => ?_)
   ·(try dsimp only); simp only [tS, tS1]; exact hHeld
   clear hK K
   try simp only [Act.put]
   refine wpAnyH_done (by kernel_rfl) ?_ _
   refine NoPanic.normal ?_
   all_goals go_wp2
   refine bodyPost_ret (v := .agg #[.int .u8 k1, .int .u64 (min a a'), .int .u64 (max b b'), .int .i64 (min c c'), .int .i64 (max d d'), .bool (true && e2)]) (by simp [results, Tryz.results183, go_sem, r0, r1, r2, r3, r4, r5]) rfl ⟨rfl, ?_⟩
   (repeat (first | with_reducible exact hbA | with_reducible refine Below.drew ?_ | with_reducible refine Below.setCell ?_ (by simp; try omega) _ ))
 ·have hk' : (v.kind != o.kind) = true := by simpa using hk
  have hE : v.or o = kNone := by unfold KV.or; rw [if_neg hk]
  rw [hE]
  clear hE hk
  go_enter Tryz.func183, Tryz.ntmps183
  go_wp2
  exact bodyPost_ret (v := .agg #[.int .u8 0, .int .u64 0, .int .u64 0, .int .i64 0, .int .i64 0, .bool false]) (by simp [results, Tryz.results183, go_sem]) rfl ⟨rfl, bel3 _ _ _ _⟩
end Go.Proofs.YtoobileejdhikaaGreat

namespace Go.Proofs.YtoobileejdhikaaGreat
set_option maxRecDepth 100000
set_option maxHeartbeats 1000000
open Go.RowKit

theorem KAt.keep {W w1 : World} {g : Nat} {s : KS} (h : KAt W g s) (hb : Below W.heap.size W w1) : KAt w1 g s := h.below hb h.lt
theorem cellKeep {W w1 : World} {g j : Nat} {v : Value} (hb : Below W.heap.size W w1) (h : W.cell? ⟨g, j, none⟩ = some v) : w1.cell? ⟨g, j, none⟩ = some v :=
 (hb.cell (block_lt_of_cell h)).trans h
theorem cellRow {W : World} {g j R : Nat} {v : Value} {cs : Array Value} (hn : R ≠ g) (h : W.cell? ⟨g, j, none⟩ = some v) : (W.setRow R cs).cell? ⟨g, j, none⟩ = some v :=
 (cell_setRow_other W R cs ⟨g, j, none⟩ (Ne.symm hn)).trans h
theorem cellAlloc {W : World} {g j : Nat} {v : Value} (o : Obj) (h : W.cell? ⟨g, j, none⟩ = some v) : (W.alloc o).cell? ⟨g, j, none⟩ = some v :=
 (World.cell?_alloc_past _ _ _ (block_lt_of_cell h)).trans h
theorem yieldsK {ops : Array Oper} {S : World → Prop} {op : Oper} {a : Act} (hw : Region.wanted op (yielded ops a.tmps) = true) (x : Operand) (ho : op.op = .load 117 x)
  (g : Nat) (hx : a.eval x = .pointer (some ⟨g, 0, none⟩)) (s : KS) (hS : ∀ w, S w → KAt w g s) : YieldsIf Tryz.prog ops S op (.agg s.cells) a :=
 .inl ⟨hw, fun w hw' => by
  unfold execOp
  simp only [ho, hx, Instr.loadAt, Instr.sureAddr, Sem.run_bind, Sem.run_pure, Result.andThen_ok, run_loadVar_row w g _ _ s.cells (0, 0) _ (hS w hw').row Tryz.underlying117 rfl (infoKs s)]⟩
theorem wpO_storeK {o : Oper} {a : Act} {w : World} {K : Act → World → Prop} {Q : Exit → Act → World → Prop} (x y : Operand) (ho : o.op = .store 117 x y)
  (g : Nat) (hx : a.eval x = .pointer (some ⟨g, 0, none⟩)) (s' : KS) (hy : a.eval y = .agg s'.cells) (s : KS) (hg : KAt w g s)
  (h : K (a.put o.dst undef) (w.setRow g s'.cells)) : o.wp Tryz.prog a w K Q :=
 wp_store_row _ x y ho g s'.cells hx hy _ s.cells hg.row (infoKs s') (by rw [KS.size, KS.size]) (KS.one s') h

abbrev vBox (v : KV) : Obj := .cells v.arr 114
def numV (l m : Int) : KV := ⟨1, l, m, 0, 0, false⟩

theorem numberIn_any (l m : Int) (w : World) :
  Calls Tryz.prog 182 #[.agg #[.int .u64 l, .int .u64 m]] w fun e w' => e = .returned (.agg #[.int .u8 1, .int .u64 l, .int .u64 m, .int .i64 0, .int .i64 0, .bool false]) ∧ Below w.heap.size w w' := by
 go_enter Tryz.func182, Tryz.ntmps182
 go_wp2
 exact bodyPost_ret (v := .agg #[.int .u8 1, .int .u64 l, .int .u64 m, .int .i64 0, .int .i64 0, .bool false]) (by simp [results, Tryz.results182, go_sem]) rfl ⟨rfl, ((Below.refl _ _).alloc (Nat.le_refl _) _).alloc (by simp) _⟩

theorem onlyU_any (l : Int) (w : World) :
  Calls Tryz.prog 141 #[.int .u64 l] w fun e w' => e = .returned (.agg #[.int .u64 l, .int .u64 l]) ∧ w' = w.alloc (spU l l) := by
 go_enter Tryz.func141, Tryz.ntmps141
 go_wp2
 exact bodyPost_ret (v := .agg #[.int .u64 l, .int .u64 l]) (by simp [results, Tryz.results141, go_sem]) rfl ⟨rfl, rfl⟩

theorem onlyI_any (l : Int) (w : World) :
  Calls Tryz.prog 181 #[.int .i64 l] w fun e w' => e = .returned (.agg #[.int .i64 l, .int .i64 l]) ∧ w' = w.alloc (spI l l) := by
 go_enter Tryz.func181, Tryz.ntmps181
 go_wp2
 exact bodyPost_ret (v := .agg #[.int .i64 l, .int .i64 l]) (by simp [results, Tryz.results181, go_sem]) rfl ⟨rfl, rfl⟩

theorem firstPlace_any (w : World) :
  Calls Tryz.prog 137 #[] w fun e w' => e = .returned (.agg #[.int .u8 2, .int .u64 0, .int .u64 0, .int .i64 0, .int .i64 0, .bool false]) ∧ Below w.heap.size w w' := by
 go_enter Tryz.func137, Tryz.ntmps137
 go_wp2_with (go_at_call 181; refine (onlyI_any _ _).mono ?_; rintro e w1 ⟨rfl, rfl⟩)
 exact bodyPost_ret (v := .agg #[.int .u8 2, .int .u64 0, .int .u64 0, .int .i64 0, .int .i64 0, .bool false]) (by simp [results, Tryz.results137, go_sem]) rfl ⟨rfl, by first | exact (Below.refl _ _).alloc (Nat.le_refl _) _ | exact ((Below.refl _ _).alloc (Nat.le_refl _) _).alloc (by simp) _⟩

theorem endPlace_any (w : World) :
  Calls Tryz.prog 138 #[] w fun e w' => e = .returned (.agg #[.int .u8 2, .int .u64 0, .int .u64 0, .int .i64 0, .int .i64 64, .bool true]) ∧ Below w.heap.size w w' := by
 go_enter Tryz.func138, Tryz.ntmps138
 go_wp2_with (go_at_call 181; refine (onlyI_any _ _).mono ?_; rintro e w1 ⟨rfl, rfl⟩)
 exact bodyPost_ret (v := .agg #[.int .u8 2, .int .u64 0, .int .u64 0, .int .i64 0, .int .i64 64, .bool true]) (by simp [results, Tryz.results138, go_sem]) rfl ⟨rfl, by first | exact (Below.refl _ _).alloc (Nat.le_refl _) _ | exact ((Below.refl _ _).alloc (Nat.le_refl _) _).alloc (by simp) _⟩

theorem stackEnd_any (w : World) :
  Calls Tryz.prog 139 #[] w fun e w' => e = .returned (.agg #[.int .u8 3, .int .u64 0, .int .u64 0, .int .i64 0, .int .i64 0, .bool false]) ∧ Below w.heap.size w w' := by
 go_enter Tryz.func139, Tryz.ntmps139
 go_wp2_with (go_at_call 181; refine (onlyI_any _ _).mono ?_; rintro e w1 ⟨rfl, rfl⟩)
 exact bodyPost_ret (v := .agg #[.int .u8 3, .int .u64 0, .int .u64 0, .int .i64 0, .int .i64 0, .bool false]) (by simp [results, Tryz.results139, go_sem]) rfl ⟨rfl, by first | exact (Below.refl _ _).alloc (Nat.le_refl _) _ | exact ((Below.refl _ _).alloc (Nat.le_refl _) _).alloc (by simp) _⟩

theorem nowhere_any (w : World) :
  Calls Tryz.prog 152 #[] w fun e w' => e = .returned (.agg KS.zero.cells) ∧ Below w.heap.size w w' := by
 have hz := zeroK
 have hbz : Tryz.prog.built 117 [] = some KS.zero.cells := builtZ
 go_enter Tryz.func152, Tryz.ntmps152
 go_wp2_with (first | (refine wpList_build_as rfl 117 _ rfl KS.zero.cells builtZ ?_) | refine wpK_store rfl _ _ rfl w.heap.size rfl KS.zero rfl KS.zero ?hL ?_)
 case hL => exact KAt.new w KS.zero
 exact bodyPost_ret (v := .agg KS.zero.cells) (resK Tryz.results152 _ _ w.heap.size KS.zero rfl (KAt.over (KAt.new w KS.zero) _)) rfl ⟨rfl, below_setRowK ((Below.refl _ _).alloc (Nat.le_refl _) _) (Nat.le_refl _) _⟩

theorem setNumber_any (s : KS) (r : Nat) (l m : Int) (w : World) (hr : r < 9) :
  Calls Tryz.prog 140 #[.agg s.cells, .int .u8 r, .agg #[.int .u64 l, .int .u64 m]] w fun e w' => e = .returned (.agg (s.set r (numV l m)).cells) ∧ Below w.heap.size w w' := by
 have hz := zeroK
 go_enter Tryz.func140, Tryz.ntmps140
 go_wp2_with fail
 generalize hW : (((w.alloc (Obj.cells s.cells 117)).alloc (spU l m)).alloc (Obj.cells KS.zero.cells 117)) = W0
 have hs0 : KAt W0 (w.heap.size) s := by subst hW; first | with_reducible exact KAt.new _ _ | with_reducible exact KAt.alloc (KAt.new _ _) _ | with_reducible exact KAt.alloc (KAt.alloc (KAt.new _ _) _) _ | with_reducible exact KAt.alloc (KAt.alloc (KAt.alloc (KAt.new _ _) _) _) _ | exact KAt.top (by simp) | exact KAt.alloc (KAt.top (by simp)) _
 have hs1 : W0.cell? ⟨w.heap.size + 1, 0, none⟩ = some (.int .u64 l) := by subst hW; simp [go_sem]
 have hs2 : W0.cell? ⟨w.heap.size + 1, 1, none⟩ = some (.int .u64 m) := by subst hW; simp [go_sem]
 have kr0_0 : KAt W0 (w.heap.size + 1 + 1) KS.zero := by subst hW; first | with_reducible exact KAt.new _ _ | with_reducible exact KAt.alloc (KAt.new _ _) _ | with_reducible exact KAt.alloc (KAt.alloc (KAt.new _ _) _) _ | with_reducible exact KAt.alloc (KAt.alloc (KAt.alloc (KAt.new _ _) _) _) _ | exact KAt.top (by simp) | exact KAt.alloc (KAt.top (by simp)) _
 have hB0 : Below w.heap.size w W0 := by subst hW; first | exact (Below.refl _ _).alloc (Nat.le_refl _) _ | exact ((Below.refl _ _).alloc (Nat.le_refl _) _).alloc (by simp) _ | exact (((Below.refl _ _).alloc (Nat.le_refl _) _).alloc (by simp) _).alloc (by simp; omega) _ | exact ((((Below.refl _ _).alloc (Nat.le_refl _) _).alloc (by simp) _).alloc (by simp; omega) _).alloc (by simp; omega) _
 clear hW
 refine wp_region_noPanic ?_
 refine wp_region_held_drew (S := fun w' => KAt w' (w.heap.size) s ∧ w'.cell? ⟨w.heap.size + 1, 0, none⟩ = some (.int .u64 l) ∧ w'.cell? ⟨w.heap.size + 1, 1, none⟩ = some (.int .u64 m)) (by kernel_rfl) (⟨hs0.drew, hs1, hs2⟩) (fun hHeld => ?_)
 have kr0_0 := kr0_0.drew
 have hB0 := hB0.drew
 refine tkY 0 rfl (yieldsK (by rfl) _ rfl (w.heap.size) rfl s (fun w h => h.1)) ?_
 try simp only [Act.put]
 refine tkH 1 ?_
 try simp only [Act.put]
 refine tkH 2 ?_
 try simp only [Act.put]
 refine rdH 3 (fun K hK => ?_)
 go_simp
 refine (numberIn_any l m _).mono ?_
 rintro e W1 ⟨rfl, hb1⟩
 have hS1 : (fun w' => KAt w' (w.heap.size) s ∧ w'.cell? ⟨w.heap.size + 1, 0, none⟩ = some (.int .u64 l) ∧ w'.cell? ⟨w.heap.size + 1, 1, none⟩ = some (.int .u64 m)) W1 := ⟨hHeld.1.keep hb1, cellKeep hb1 hHeld.2.1, cellKeep hb1 hHeld.2.2⟩
 have kr1_0 := kr0_0.keep hb1
 have hB1 : Below w.heap.size w W1 := hB0.trans (hb1.mono hB0.size)
 go_wp2_with fail
 refine hK.out _ _ ?_ (fun hHeld => ?_)
 ·exact hS1
 clear hK K
 try simp only [Act.put]
 refine rdH 4 (fun K hK => ?_)
 go_simp
 refine (set_any s r (numV l m) _ hr).mono ?_
 rintro e W2 ⟨rfl, hb2⟩
 have hS2 : (fun w' => KAt w' (w.heap.size) s ∧ w'.cell? ⟨w.heap.size + 1, 0, none⟩ = some (.int .u64 l) ∧ w'.cell? ⟨w.heap.size + 1, 1, none⟩ = some (.int .u64 m)) W2 := ⟨hHeld.1.keep hb2, cellKeep hb2 hHeld.2.1, cellKeep hb2 hHeld.2.2⟩
 have kr2_0 := kr1_0.keep hb2
 have hB2 : Below w.heap.size w W2 := hB1.trans (hb2.mono hB1.size)
 go_wp2_with fail
 refine hK.out _ _ ?_ (fun hHeld => ?_)
 ·exact hS2
 clear hK K
 try simp only [Act.put]
 refine rdH 5 (fun K hK => ?_)
 refine wpO_storeK _ _ rfl (w.heap.size + 1 + 1) rfl (s.set r (numV l m)) rfl KS.zero kr2_0 ?_
 refine hK.out _ _ ?_ (fun hHeld => ?_)
 ·exact ⟨hHeld.1.rowAway (by omega) _, cellRow (by omega) hHeld.2.1, cellRow (by omega) hHeld.2.2⟩
 clear hK K
 try simp only [Act.put]
 have kr3_0 := kr2_0.over (s.set r (numV l m))
 have hB3 := below_setRowK hB2 (g := w.heap.size + 1 + 1) (by omega) (s.set r (numV l m)).cells
 refine wpAnyH_done (by kernel_rfl) ?_ _
 refine NoPanic.normal ?_
 go_wp2_with fail
 exact bodyPost_ret (v := .agg (s.set r (numV l m)).cells) (resK Tryz.results140 _ _ (w.heap.size + 1 + 1) (s.set r (numV l m)) rfl kr3_0) rfl ⟨rfl, hB3⟩
end Go.Proofs.YtoobileejdhikaaGreat
