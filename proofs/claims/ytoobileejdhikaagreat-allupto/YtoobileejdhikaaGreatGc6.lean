/-
  The program's Load: the answer of any code.
  The statement Shapes: its first code, which must be let in.
-/
import Derived.Test.YtoobileejdhikaaGreatGc1
import Derived.Test.YtoobileejdhikaaGreatGc5
namespace Go.Proofs.YtoobileejdhikaaGreat
set_option maxRecDepth 100000
set_option maxHeartbeats 2000000
open Go.RowKit

theorem lookShape_len (a : Option Addr) (len cap : Nat) (w : World) (hm : len ≤ 9223372036854775807) (h : len = 0 ∨ ¬ len % 8 = 0 ∨ 64 < len / 8) :
  Calls Tryz.prog 36 #[.slice a len cap] w fun e w' => e = .panicked (thrown 1 0) ∧ w' = w := by
 go_enter Tryz.func36, Tryz.ntmps36
 go_wp2_with fail
 refine (length_bad _ _ _ _ hm h).mono ?_
 rintro e w' ⟨rfl, rfl⟩
 exact ⟨rfl, rfl, rfl⟩

structure Door (w W : World) : Prop where
 c0 : W.cell? ⟨w.heap.size, 0, none⟩ = some (.pointer none)
 c1 : W.cell? ⟨w.heap.size + 1, 0, none⟩ = some (.int .i64 0)
 c2 : W.cell? ⟨w.heap.size + 1 + 1, 0, none⟩ = some (.int .i64 0)
 z0 : W.frozen? ⟨w.heap.size, 0, none⟩ = false
 z1 : W.frozen? ⟨w.heap.size + 1, 0, none⟩ = false
 z2 : W.frozen? ⟨w.heap.size + 1 + 1, 0, none⟩ = false
 size : w.heap.size + 1 + 1 < W.heap.size
 bel : Below w.heap.size w W

theorem door_new (w : World) : Door w (((w.alloc (Obj.cells #[Value.pointer none] 23)).alloc (Obj.cells #[Value.int IntKind.i64 0] 24)).alloc (Obj.cells #[Value.int IntKind.i64 0] 3)) := by
 refine ⟨by simp [go_sem], by simp [go_sem], by simp [go_sem], by simp [go_sem], by simp [go_sem], by simp [go_sem], by simp, ?_⟩
 exact (((Below.refl _ _).alloc (Nat.le_refl _) _).alloc (by simp) _).alloc (by simp; omega) _
theorem Door.later {w W W' : World} (h : Door w W) (hb : Below W.heap.size W W') : Door w W' := by
 have hs := h.size
 refine ⟨?_, ?_, ?_, ?_, ?_, ?_, Nat.lt_of_lt_of_le hs hb.size, h.bel.trans (hb.mono (by omega))⟩
 ·rw [hb.cell (by show w.heap.size < _; omega)]; exact h.c0
 ·rw [hb.cell (by show w.heap.size + 1 < _; omega)]; exact h.c1
 ·rw [hb.cell (by exact hs)]; exact h.c2
 ·rw [hb.frozen (by show w.heap.size < _; omega)]; exact h.z0
 ·rw [hb.frozen (by show w.heap.size + 1 < _; omega)]; exact h.z1
 ·rw [hb.frozen (by exact hs)]; exact h.z2

def codeL (B : Nat → Int) (len : Nat) : List Int := (List.range len).map B
theorem codeL_len (B : Nat → Int) (len : Nat) : (codeL B len).length = len := by simp [codeL]
theorem codeL_at (B : Nat → Int) (len j : Nat) (u : Value) (h : (byV (codeL B len))[j]? = some u) : j < len ∧ u = .int .u8 (B j) := by
 have hj : j < len := by have := (List.getElem?_eq_some_iff.1 h).1; rw [byV_len, codeL_len] at this; exact this
 simp only [byV, codeL, List.map_map, List.getElem?_map, List.getElem?_range hj] at h
 exact ⟨hj, by simpa using h.symm⟩
structure FiltAt (W : World) (f g cap : Nat) (xs : List Int) : Prop where
 c : W.cell? ⟨f, 0, none⟩ = some (.slice (some ⟨g, 0, none⟩) xs.length cap)
 le : xs.length ≤ cap
 mx : cap ≤ 9223372036854775807
 xs : ∀ j u, (byV xs)[j]? = some u → W.cell? ⟨g, j, none⟩ = some u
 lf : f < W.heap.size
 lg : g < W.heap.size
theorem FiltAt.same {W W' : World} {f g cap : Nat} {xs : List Int} (h : FiltAt W f g cap xs) (h1 : W'.heap[f]? = W.heap[f]?) (h2 : W'.heap[g]? = W.heap[g]?) (hs : W.heap.size ≤ W'.heap.size) : FiltAt W' f g cap xs := by
 have c1 : ∀ o, W'.cell? ⟨f, o, none⟩ = W.cell? ⟨f, o, none⟩ := fun o => by simp [World.cell?, h1]
 have c2 : ∀ o, W'.cell? ⟨g, o, none⟩ = W.cell? ⟨g, o, none⟩ := fun o => by simp [World.cell?, h2]
 exact ⟨(c1 _).trans h.c, h.le, h.mx, fun j u hj => (c2 _).trans (h.xs j u hj), Nat.lt_of_lt_of_le h.lf hs, Nat.lt_of_lt_of_le h.lg hs⟩
theorem FiltAt.keep {W W' : World} {f g cap : Nat} {xs : List Int} (h : FiltAt W f g cap xs) (hb : Below W.heap.size W W') : FiltAt W' f g cap xs :=
 h.same (hb.block f h.lf) (hb.block g h.lg) hb.size

theorem FiltAt.away {W : World} {f g cap : Nat} {xs : List Int} (h : FiltAt W f g cap xs) {b o : Nat} (h1 : b ≠ f) (h2 : b ≠ g) (u : Value) : FiltAt (W.setCell ⟨b, o, none⟩ u) f g cap xs :=
 h.same (heap_setCell_other W ⟨b, o, none⟩ f u (Ne.symm h1)) (heap_setCell_other W ⟨b, o, none⟩ g u (Ne.symm h2)) ((Below.refl 0 W).setCell (p := ⟨b, o, none⟩) (Nat.zero_le _) u).size
def noFilter (er at1 : Int) : Ending := .returned (.tuple #[.pointer none, .int .i64 er, .int .i64 at1])
def LoadEnd (B : Nat → Int) (n base : Nat) (e : Ending) (W : World) : Prop :=
 (∃ i, i < n ∧ badP B n i = true ∧ (∀ j, j < i → badP B n j = false) ∧ e = noFilter 2 i) ∨
 ((∀ j, j < n → badP B n j = false) ∧ ((∃ k, safeP (piOf B) n = some k ∧ e = noFilter 3 k) ∨
  (safeP (piOf B) n = none ∧ ∃ f g c, e = .returned (.tuple #[.pointer (some ⟨f, 0, none⟩), .int .i64 0, .int .i64 0]) ∧ FiltAt W f g c (codeL B (8 * n)) ∧ base ≤ f ∧ base ≤ g)))

theorem load_any (B : Nat → Int) (b off len cap n : Nat) (w : World) (hl : len = 8 * n) (hn1 : 1 ≤ n) (hn2 : n ≤ 64) (hcap : len ≤ cap) (hm : cap ≤ 9223372036854775807)
  (hc : ∀ i, i < len → w.cell? ⟨b, off + i, none⟩ = some (.int .u8 (B i))) (hB : ∀ i, 0 ≤ B i ∧ B i ≤ 255) :
  Calls Tryz.prog 13 #[.slice (some ⟨b, off, none⟩) len cap] w fun e w' => LoadEnd B n w.heap.size e w' ∧ Below w.heap.size w w' := by
 have hmf : ∀ (fn : Fn) (first cap : Array Value) (w : World), (Instr.makeFunc fn first cap).run Tryz.prog w = .ok (.func fn first cap) w := fun _ _ _ _ => rfl
 have hbl : b < w.heap.size := lt_of_cell (by simpa using hc 0 (by omega))
 have HC := hide' hc
 have HL := hide' hl
 clear hc hl
 go_enter_defers Tryz.func13, Tryz.ntmps13
 go_wp2_with fail
 generalize hW : ((w.alloc (Obj.cells #[Value.pointer none] 23)).alloc (Obj.cells #[Value.int IntKind.i64 0] 24)).alloc (Obj.cells #[Value.int IntKind.i64 0] 3) = W3
 have P3 : Door w W3 := by subst hW; exact door_new w
 clear hW
 refine (lookShape_any B b off len cap n W3 HL.out hn1 hn2 hcap hm (fun i hi => by rw [P3.bel.cell (by exact hbl)]; exact HC.out i hi) hB).mono ?_
 rintro e w4 ⟨he, hb4⟩
 have P4 : Door w w4 := P3.later hb4
 clear P3 hb4
 rcases he with ⟨hall, g, cp, rfl, hcp1, hcp2, hg1, hg2, hcell⟩ | ⟨i, hi, hbad, hgood, rfl⟩
 ·have HG := hide' hall
  clear hall
  have CS := fun (wx : World) (hx : w4 = wx) => safe_any (piOf B) g cp n wx hn1 hn2 hcp1 hcp2 (fun i hi => right_of_good hB hi (HG.out i hi)) (fun i hi => by
   subst hx
   have h0 := (hB (8 * i)).1
   have h1 := (hB (8 * i + 1)).1
   refine ⟨?_, ?_, ?_, ?_, ?_⟩
   ·refine (hcell i 0 hi (by omega)).trans ?_; show some (Value.int .u8 (B (8 * i))) = some (Value.int .u8 ((B (8 * i)).toNat : Int)); rw [Int.toNat_of_nonneg h0]
   ·refine (hcell i 1 hi (by omega)).trans ?_; show some (Value.int .u8 (B (8 * i + 1) % 16)) = some (Value.int .u8 ((B (8 * i + 1) % 16).toNat : Int)); rw [Int.toNat_of_nonneg (by omega)]
   ·refine (hcell i 2 hi (by omega)).trans ?_; show some (Value.int .u8 (B (8 * i + 1) / 16)) = some (Value.int .u8 ((B (8 * i + 1) / 16).toNat : Int)); rw [Int.toNat_of_nonneg (by omega)]
   ·exact hcell i 3 hi (by omega)
   ·exact hcell i 4 hi (by omega))
  have HCS := hide' CS
  clear CS hcell
  go_wp2_with fail
  refine (HCS.out _ rfl).mono ?_
  rintro e w5 ⟨rfl, hb5⟩
  have P5 : Door w w5 := P4.later hb5
  clear P4 hb5 HCS
  cases hs : safeP (piOf B) n with
  | none =>
   simp only [safeEnd]
   have hB5 : BytesAt w5 (some ⟨b, off, none⟩) (codeL B len) := .inr ⟨_, rfl, fun j u hj => by
    obtain ⟨h1, rfl⟩ := codeL_at B len j u hj
    rw [addr_add, P5.bel.cell (by exact hbl)]; exact HC.out j h1⟩
   have HB5 := hide' hB5
   clear hB5 HC
   go_wp2_with fail
   refine (clone_any (some ⟨b, off, none⟩) len cap (codeL B len) w5 (codeL_len _ _) (by have := HL.out; omega) HB5.out (fun h => by cases h)).mono ?_
   rintro e w6 ⟨v, rfl, hown, hb6⟩
   have P6 : Door w w6 := P5.later hb6
   have hs5 := P5.bel.size
   have hz5 := P5.size
   have hz6 := hb6.size
   have hl8 := HL.out
   obtain ⟨gc, cc, rfl, hgc1, hgc2⟩ := hown.form (by omega)
   have hcc : len ≤ cc ∧ cc ≤ 9223372036854775807 := by
    obtain ⟨_, h | ⟨g', cap', cur, h1, h2, h3, h4, h5, h6⟩⟩ := hown
    ·simp at h
    ·simp at h1; unfold maxLen at h5; omega
   have hcells : ∀ j u, (byV (codeL B len))[j]? = some u → w6.cell? ⟨gc, j, none⟩ = some u := fun j u hj => by
    have h := hown.cells (g := gc) rfl j u hj
    rw [addr_add, Nat.zero_add] at h
    exact h
   have HCL := hide' hcells
   clear hcells hown P5 hb6 HB5
   obtain ⟨k0, k1, k2, z0, z1, z2, hsz, hbel⟩ := P6
   have a0 : ∀ o, (w6.alloc o).cell? ⟨w.heap.size, 0, none⟩ = some (.pointer none) := fun o => by rw [World.cell?_alloc_past _ _ _ (by omega)]; exact k0
   have a1 : ∀ o, (w6.alloc o).cell? ⟨w.heap.size + 1, 0, none⟩ = some (.int .i64 0) := fun o => by rw [World.cell?_alloc_past _ _ _ (by omega)]; exact k1
   have a2 : ∀ o, (w6.alloc o).cell? ⟨w.heap.size + 1 + 1, 0, none⟩ = some (.int .i64 0) := fun o => by rw [World.cell?_alloc_past _ _ _ (by omega)]; exact k2
   have b0 : ∀ o, (w6.alloc o).frozen? ⟨w.heap.size, 0, none⟩ = false := fun o => by rw [World.frozen?_alloc_past _ _ _ (by omega)]; exact z0
   have b1 : ∀ o, (w6.alloc o).frozen? ⟨w.heap.size + 1, 0, none⟩ = false := fun o => by rw [World.frozen?_alloc_past _ _ _ (by omega)]; exact z1
   have b2 : ∀ o, (w6.alloc o).frozen? ⟨w.heap.size + 1 + 1, 0, none⟩ = false := fun o => by rw [World.frozen?_alloc_past _ _ _ (by omega)]; exact z2
   go_wp2
   refine leaves_cons (f := 34) (args := #[.pointer (some ⟨w.heap.size, 0, none⟩), .pointer (some ⟨w.heap.size + 1, 0, none⟩), .pointer (some ⟨w.heap.size + 1 + 1, 0, none⟩)]) (by simp) (by simp [go_sem]) ?_
   refine (catch_idle _ _ _ _).mono ?_
   rintro e u' w7 ⟨rfl, rfl, rfl⟩
   simp [Leaves, settle, results, Tryz.results13, go_sem, a0, a1, a2]
   have F0 : FiltAt (w6.alloc (Obj.cells #[Value.slice (some { block := gc, off := 0 }) (8 * n) cc] 72)) w6.heap.size gc cc (codeL B (8 * n)) :=
    ⟨by rw [codeL_len]; simp [go_sem], by rw [codeL_len]; omega, hcc.2, fun j u hj => cellAlloc' _ (HCL.out j u (by rw [hl8]; exact hj)), by simp, by simp; omega⟩
   refine ⟨.inr ⟨HG.out, .inr ⟨hs, _, gc, cc, rfl, ((F0.away (by omega) (by omega) _).away (by omega) (by omega) _).away (by omega) (by omega) _, by omega, by omega⟩⟩, ?_⟩
   exact (((hbel.alloc hbel.size _).setCell (by exact Nat.le_refl _) _).setCell (by exact Nat.le_succ _) _).setCell (by show w.heap.size ≤ w.heap.size + 1 + 1; omega) _
  | some k =>
   simp only [safeEnd]
   obtain ⟨k0, k1, k2, z0, z1, z2, hsz, hbel⟩ := P5
   go_simp
   refine leaves_cons (f := 34) (args := #[.pointer (some ⟨w.heap.size, 0, none⟩), .pointer (some ⟨w.heap.size + 1, 0, none⟩), .pointer (some ⟨w.heap.size + 1 + 1, 0, none⟩)]) (by simp) (by simp [go_sem]) ?_
   refine (catch_panicking w.heap.size 3 k [] w5 none 0 0 hsz k0 k1 k2 z0 z1 z2).mono ?_
   rintro e u' w6 ⟨rfl, rfl, d0, d1, d2, hb6⟩
   simp [Leaves, settle, results, Tryz.results13, go_sem, d0, d1, d2]
   exact ⟨.inr ⟨HG.out, .inl ⟨k, hs, rfl⟩⟩, hbel.trans hb6⟩
 ·have HG := hide' hgood
  have HB := hide' hbad
  clear hgood hbad
  obtain ⟨k0, k1, k2, z0, z1, z2, hsz, hbel⟩ := P4
  go_simp
  refine leaves_cons (f := 34) (args := #[.pointer (some ⟨w.heap.size, 0, none⟩), .pointer (some ⟨w.heap.size + 1, 0, none⟩), .pointer (some ⟨w.heap.size + 1 + 1, 0, none⟩)]) (by simp) (by simp [go_sem]) ?_
  refine (catch_panicking w.heap.size 2 i [] w4 none 0 0 hsz k0 k1 k2 z0 z1 z2).mono ?_
  rintro e u' w5 ⟨rfl, rfl, d0, d1, d2, hb5⟩
  simp [Leaves, settle, results, Tryz.results13, go_sem, d0, d1, d2]
  exact ⟨.inl ⟨i, hi, HB.out, HG.out, rfl⟩, hbel.trans hb5⟩

theorem load_len (a : Option Addr) (len cap : Nat) (w : World) (hm : len ≤ 9223372036854775807) (h : len = 0 ∨ ¬ len % 8 = 0 ∨ 64 < len / 8) :
  Calls Tryz.prog 13 #[.slice a len cap] w fun e w' => e = noFilter 1 0 ∧ Below w.heap.size w w' := by
 have hmf : ∀ (fn : Fn) (first cap : Array Value) (w : World), (Instr.makeFunc fn first cap).run Tryz.prog w = .ok (.func fn first cap) w := fun _ _ _ _ => rfl
 go_enter_defers Tryz.func13, Tryz.ntmps13
 go_wp2_with fail
 generalize hW : ((w.alloc (Obj.cells #[Value.pointer none] 23)).alloc (Obj.cells #[Value.int IntKind.i64 0] 24)).alloc (Obj.cells #[Value.int IntKind.i64 0] 3) = W3
 have P3 : Door w W3 := by subst hW; exact door_new w
 clear hW
 refine (lookShape_len a len cap W3 hm h).mono ?_
 rintro e w4 ⟨rfl, rfl⟩
 obtain ⟨k0, k1, k2, z0, z1, z2, hsz, hbel⟩ := P3
 go_simp
 refine leaves_cons (f := 34) (args := #[.pointer (some ⟨w.heap.size, 0, none⟩), .pointer (some ⟨w.heap.size + 1, 0, none⟩), .pointer (some ⟨w.heap.size + 1 + 1, 0, none⟩)]) (by simp) (by simp [go_sem]) ?_
 refine (catch_panicking w.heap.size 1 0 [] _ none 0 0 hsz k0 k1 k2 z0 z1 z2).mono ?_
 rintro e u' w5 ⟨rfl, rfl, d0, d1, d2, hb5⟩
 simp [Leaves, settle, results, Tryz.results13, go_sem, d0, d1, d2]
 exact ⟨rfl, hbel.trans hb5⟩
end Go.Proofs.YtoobileejdhikaaGreat

namespace Go.Proofs.YtoobileejdhikaaGreat
set_option maxRecDepth 100000
set_option maxHeartbeats 400000
open Go.RowKit

def twoL : List Int := [129, 0, 0, 0, 2, 0, 0, 0, 41, 0, 0, 0, 0, 0, 0, 0]
def twoA : Array Value := #[.int .u8 129, .int .u8 0, .int .u8 0, .int .u8 0, .int .u8 2, .int .u8 0, .int .u8 0, .int .u8 0, .int .u8 41, .int .u8 0, .int .u8 0, .int .u8 0, .int .u8 0, .int .u8 0, .int .u8 0, .int .u8 0]
def twoB (i : Nat) : Int := twoL.getD i 0

theorem two_any (w : World) :
  Calls Tryz.prog 14 #[] w fun e w' => e = .returned (.slice (some ⟨w.heap.size, 0, none⟩) 16 16) ∧ w' = w.alloc (.cells twoA 5) := by
 go_enter Tryz.func14, Tryz.ntmps14
 go_wp2
 go_ret
 exact ⟨rfl, rfl⟩

theorem two_good (j : Nat) (h : j < 2) : badP twoB 2 j = false := by
 match j, h with
 | 0, _ => decide +kernel
 | 1, _ => decide +kernel

theorem two_bytes (i : Nat) : 0 ≤ twoB i ∧ twoB i ≤ 255 := by
 by_cases h : i < 16
 ·have : ∀ k : Fin 16, 0 ≤ twoB k.1 ∧ twoB k.1 ≤ 255 := by decide +kernel
  exact this ⟨i, h⟩
 ·have : twoB i = 0 := by
   unfold twoB
   rw [List.getD_eq_getElem?_getD, List.getElem?_eq_none (by simp [twoL]; omega)]; rfl
  rw [this]; omega

theorem two_cells (w : World) (i : Nat) (h : i < 16) : (w.alloc (.cells twoA 5)).cell? ⟨w.heap.size, 0 + i, none⟩ = some (.int .u8 (twoB i)) := by
 rw [cell_of_row _ w.heap.size (0 + i) twoA 5 (0, 0) (heap_alloc_new w _)]
 match i, h with
 | 0, _ => rfl
 | 1, _ => rfl
 | 2, _ => rfl
 | 3, _ => rfl
 | 4, _ => rfl
 | 5, _ => rfl
 | 6, _ => rfl
 | 7, _ => rfl
 | 8, _ => rfl
 | 9, _ => rfl
 | 10, _ => rfl
 | 11, _ => rfl
 | 12, _ => rfl
 | 13, _ => rfl
 | 14, _ => rfl
 | 15, _ => rfl
 | k + 16, h => omega

theorem two_safe : safeP (piOf twoB) 2 = none := by kernel_rfl
theorem load_two (w : World) :
  Calls Tryz.prog 13 #[.slice (some ⟨w.heap.size, 0, none⟩) 16 16] (w.alloc (.cells twoA 5)) fun e w' => (∃ f g c, e = .returned (.tuple #[.pointer (some ⟨f, 0, none⟩), .int .i64 0, .int .i64 0]) ∧ FiltAt w' f g c (codeL twoB 16) ∧ w.heap.size < f ∧ w.heap.size < g) ∧ Below w.heap.size w w' := by
 refine (load_any twoB w.heap.size 0 16 16 2 (w.alloc (.cells twoA 5)) (by omega) (by omega) (by omega) (by omega) (by omega) (fun i hi => two_cells w i hi) two_bytes).mono ?_
 rintro e w' ⟨h, hb⟩
 refine ⟨?_, ((Below.refl _ _).alloc (Nat.le_refl _) _).trans (hb.mono (by simp))⟩
 rcases h with ⟨i, hi, hbad, _⟩ | ⟨_, ⟨k, hk, _⟩ | ⟨_, f, g, c, he, hf, h1, h2⟩⟩
 ·rw [two_good i hi] at hbad; exact absurd hbad (by simp)
 ·rw [two_safe] at hk; cases hk
 ·exact ⟨f, g, c, he, hf, by simp at h1; omega, by simp at h2; omega⟩
end Go.Proofs.YtoobileejdhikaaGreat
