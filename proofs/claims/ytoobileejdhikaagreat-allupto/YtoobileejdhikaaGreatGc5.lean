/-
  The program's machine in memory; its small functions: Ahead, First, Last, Verdict, Shrink.
  The program's machine: bytes at a place; Load; Store.
  bytes.Clone; the program's machine: Start, Frame.
-/
import Derived.Test.YtoobileejdhikaaGreatGc4
import Derived.Test.YtoobileejdhikaaGreatGa1
import Derived.Deep.RegionHeld3
import Derived.Deep.DrawnRows
import Derived.Laws.AppendOwn
import Derived.Laws.IdiomCopy
namespace Go.Proofs.YtoobileejdhikaaGreat
set_option maxRecDepth 100000
set_option maxHeartbeats 400000
open Go.RowKit
attribute [local go_sem ↓] Go.wp_at_zero Go.wp_at_succ

structure MS where
 v : Nat → Int
 m : Nat → Int
 f : Int
 l : Int
def MS.setV (s : MS) (r : Nat) (x : Int) : MS := { s with v := fun i => if i = r then x else s.v i }
def MS.setM (s : MS) (j : Nat) (c : Int) : MS := { s with m := fun i => if i = j then c else s.m i }
structure XAt (w : World) (g : Nat) (s : MS) : Prop where
 v : ∀ r, r < 9 → w.cell? ⟨g, r, none⟩ = some (.int .u64 (s.v r))
 m : ∀ i, i < 96 → w.cell? ⟨g, 9 + i, none⟩ = some (.int .u8 (s.m i))
 f : w.cell? ⟨g, 105, none⟩ = some (.int .u64 s.f)
 l : w.cell? ⟨g, 106, none⟩ = some (.int .u64 s.l)
 z : ∀ o, w.frozen? ⟨g, o, none⟩ = false
 lt : g < w.heap.size
theorem XAt.same {w w' : World} {g : Nat} {s : MS} (h : XAt w g s) (hg : w'.heap[g]? = w.heap[g]?) (hs : w.heap.size ≤ w'.heap.size) : XAt w' g s := by
 have c : ∀ o, w'.cell? ⟨g, o, none⟩ = w.cell? ⟨g, o, none⟩ := fun o => by simp [World.cell?, hg]
 exact ⟨fun r hr => (c _).trans (h.v r hr), fun i hi => (c _).trans (h.m i hi), (c _).trans h.f, (c _).trans h.l, fun o => (World.frozen?_of_block hg).trans (h.z o), Nat.lt_of_lt_of_le h.lt hs⟩
theorem XAt.later {w w' : World} {g : Nat} {s : MS} (h : XAt w g s) (hb : Below w.heap.size w w') : XAt w' g s := h.same (hb.block g h.lt) hb.size
theorem XAt.alloc {w : World} {g : Nat} {s : MS} (h : XAt w g s) (o : Obj) : XAt (w.alloc o) g s := h.later ((Below.refl _ _).alloc (Nat.le_refl _) o)
theorem XAt.drew {w : World} {g : Nat} {s : MS} (h : XAt w g s) : XAt w.drew g s := h.later (Below.refl _ _).drew
theorem XAt.away {w : World} {g : Nat} {s : MS} (h : XAt w g s) {b o : Nat} (hb : b ≠ g) (u : Value) : XAt (w.setCell ⟨b, o, none⟩ u) g s :=
 h.same (heap_setCell_other w ⟨b, o, none⟩ g u (Ne.symm hb)) ((Below.refl 0 w).setCell (p := ⟨b, o, none⟩) (Nat.zero_le _) u).size
theorem XAt.setV {w : World} {g : Nat} {s : MS} (h : XAt w g s) (r : Nat) (hr : r < 9) (x : Int) : XAt (w.setCell ⟨g, r, none⟩ (.int .u64 x)) g (s.setV r x) := by
 refine ⟨fun i hi => ?_, fun i hi => ?_, ?_, ?_, fun o => ?_, ?_⟩
 ·by_cases e : i = r
  ·subst e; rw [cell_set_same (h.v i hi)]; simp [MS.setV]
  ·rw [cell_set_off e, h.v i hi]; simp [MS.setV, e]
 ·rw [cell_set_off (by omega)]; exact h.m i hi
 ·rw [cell_set_off (by omega)]; exact h.f
 ·rw [cell_set_off (by omega)]; exact h.l
 ·rw [World.frozen?_setCell]; exact h.z o
 ·rw [size_setCell]; exact h.lt
theorem XAt.setM {w : World} {g : Nat} {s : MS} (h : XAt w g s) (j : Nat) (hj : j < 96) (c : Int) : XAt (w.setCell ⟨g, 9 + j, none⟩ (.int .u8 c)) g (s.setM j c) := by
 refine ⟨fun i hi => ?_, fun i hi => ?_, ?_, ?_, fun o => ?_, ?_⟩
 ·rw [cell_set_off (by omega)]; exact h.v i hi
 ·by_cases e : i = j
  ·subst e; rw [cell_set_same (h.m i hi)]; simp [MS.setM]
  ·rw [cell_set_off (by omega), h.m i hi]; simp [MS.setM, e]
 ·rw [cell_set_off (by omega)]; exact h.f
 ·rw [cell_set_off (by omega)]; exact h.l
 ·rw [World.frozen?_setCell]; exact h.z o
 ·rw [size_setCell]; exact h.lt
theorem XAt.setF {w : World} {g : Nat} {s : MS} (h : XAt w g s) (x : Int) : XAt (w.setCell ⟨g, 105, none⟩ (.int .u64 x)) g { s with f := x } := by
 refine ⟨fun i hi => ?_, fun i hi => ?_, ?_, ?_, fun o => ?_, ?_⟩
 ·rw [cell_set_off (by omega)]; exact h.v i hi
 ·rw [cell_set_off (by omega)]; exact h.m i hi
 ·exact cell_set_same h.f
 ·rw [cell_set_off (by omega)]; exact h.l
 ·rw [World.frozen?_setCell]; exact h.z o
 ·rw [size_setCell]; exact h.lt
theorem XAt.tch {w w' : World} {p : Nat} {g : Nat} {s : MS} (h : XAt w g s) (ht : Tch p p w w') (hp : g ≠ p) : XAt w' g s := h.same (ht.block g h.lt hp hp) ht.size

theorem hideX {p : Prop} (h : p) : Hid p := h

theorem xahead_any (g : Nat) (s : MS) (n : Int) (w : World) (h : XAt w g s) (h1 : -2147483648 ≤ n) (h2 : n ≤ 2147483647) :
  Calls Tryz.prog 76 #[.pointer (some ⟨g, 0, none⟩), .int .i32 n] w fun e w' => e = .returned (.tuple #[]) ∧ XAt w' g (s.setV 8 (w64 n)) ∧ Tch g g w w' := by
 have c8 := h.v 8 (by omega)
 have z8 := h.z 8
 go_enter Tryz.func76, Tryz.ntmps76
 go_wp2
 go_end0
 exact ⟨rfl, h.setV 8 (by omega) _, (Tch.refl _ _ _).setP _ _⟩

theorem xfirst_any (g : Nat) (s : MS) (w : World) (h : XAt w g s) :
  Calls Tryz.prog 177 #[.pointer (some ⟨g, 0, none⟩)] w fun e w' => e = .returned (.tuple #[]) ∧ XAt w' g (s.setV 0 s.f) ∧ Tch g g w w' := by
 have c0 := h.v 0 (by omega)
 have z0 := h.z 0
 have cf := h.f
 have HX := hideX h
 clear h
 go_enter Tryz.func177, Tryz.ntmps177
 go_wp2
 go_region_held3 (fun w' => w'.cell? ⟨g, 105, none⟩ = some (.int .u64 s.f)) (first | (refine (cell_set_off (w := w.drew) ?_).trans cf; omega) | (refine (cell_set_off (w := w) ?_).trans cf; omega) | go_keep) (fail)
 all_goals go_wp2
 all_goals go_end0
 all_goals exact ⟨rfl, (HX.out.setV 0 (by omega) _).drew, ((Tch.refl _ _ _).setP _ _).drew⟩

theorem xlast_any (g : Nat) (s : MS) (w : World) (h : XAt w g s) :
  Calls Tryz.prog 178 #[.pointer (some ⟨g, 0, none⟩)] w fun e w' => e = .returned (.tuple #[]) ∧ XAt w' g (s.setV 0 s.l) ∧ Tch g g w w' := by
 have c0 := h.v 0 (by omega)
 have z0 := h.z 0
 have cf := h.l
 have HX := hideX h
 clear h
 go_enter Tryz.func178, Tryz.ntmps178
 go_wp2
 go_region_held3 (fun w' => w'.cell? ⟨g, 106, none⟩ = some (.int .u64 s.l)) (first | (refine (cell_set_off (w := w.drew) ?_).trans cf; omega) | (refine (cell_set_off (w := w) ?_).trans cf; omega) | go_keep) (fail)
 all_goals go_wp2
 all_goals go_end0
 all_goals exact ⟨rfl, (HX.out.setV 0 (by omega) _).drew, ((Tch.refl _ _ _).setP _ _).drew⟩

theorem xverdict_any (g : Nat) (s : MS) (w : World) (h : XAt w g s) (h0 : 0 ≤ s.v 0) (h1 : s.v 0 < 9223372036854775808) :
  Calls Tryz.prog 77 #[.pointer (some ⟨g, 0, none⟩)] w fun e w' => e = .returned (.int .i64 (s.v 0)) ∧ w = w' := by
 have c0 := h.v 0 (by omega)
 clear h
 go_enter Tryz.func77, Tryz.ntmps77
 go_wp2
 go_ret
 exact ⟨rfl, rfl⟩

def MS.shrink (s : MS) : MS := if s.l - s.f < s.v 1 then s.setV 0 1 else ({ s with f := s.f + s.v 1 } : MS).setV 0 0

theorem xshrink_any (g : Nat) (s : MS) (w : World) (h : XAt w g s) (h0 : 0 ≤ s.f) (h1 : s.f ≤ s.l) (h2 : s.l ≤ 2000) (h3 : 0 ≤ s.v 1) :
  Calls Tryz.prog 179 #[.pointer (some ⟨g, 0, none⟩)] w fun e w' => e = .returned (.tuple #[]) ∧ XAt w' g s.shrink ∧ Tch g g w w' := by
 have c0 := h.v 0 (by omega)
 have c1 := h.v 1 (by omega)
 have z0 := h.z 0
 have zf := h.z 105
 have cf := h.f
 have cl := h.l
 have HX := hideX h
 clear h
 by_cases hc : s.l - s.f < s.v 1
 ·have HE : Hid (s.shrink = s.setV 0 1) := if_pos hc
  rw [HE.out]
  clear HE
  go_enter Tryz.func179, Tryz.ntmps179
  go_wp2
  go_region
  all_goals go_wp2
  all_goals refine bodyPost_ret (v := .tuple #[]) (by simp [results, Tryz.results179, go_sem]) rfl ?_
  all_goals exact ⟨rfl, (HX.out.setV 0 (by omega) _).drew, ((Tch.refl _ _ _).setP _ _).drew⟩
 ·have HE : Hid (s.shrink = ({ s with f := s.f + s.v 1 } : MS).setV 0 0) := if_neg hc
  rw [HE.out]
  clear HE
  have hc' : s.v 1 ≤ s.l - s.f := by omega
  go_enter Tryz.func179, Tryz.ntmps179
  go_wp2
  go_region
  all_goals go_wp2
  all_goals go_end0
  all_goals exact ⟨rfl, ((HX.out.setF _).setV 0 (by omega) _).drew, (((Tch.refl _ _ _).setP _ _).setP _ _).drew⟩
end Go.Proofs.YtoobileejdhikaaGreat

namespace Go.Proofs.YtoobileejdhikaaGreat
set_option maxRecDepth 100000
set_option maxHeartbeats 400000
open Go.RowKit
attribute [local go_sem ↓] Go.wp_at_zero Go.wp_at_succ

theorem lenMem : Tryz.prog.arrayLen 171 = 96 := by kernel_rfl
theorem sliceMem (g l h : Nat) (w : World) (h1 : l ≤ h) (h2 : h ≤ 96) (h3 : l < 96) :
  Sem.run Tryz.prog (Instr.sliceAt 171 (.pointer (some ⟨g, 9, none⟩)) (some (.int .i64 (l : Int))) (some (.int .i64 (h : Int))) none) w = .ok (.slice (some ⟨g, 9 + l, none⟩) (h - l) (96 - l)) w := by
 have e := run_sliceAt_array_lh (P := Tryz.prog) w 171 ⟨g, 9, none⟩ Tryz.underlying171 .i64 .i64 (l : Int) (h : Int) (by omega) (by omega) (by rw [lenMem]; omega)
 refine e.trans ?_
 have s1 : Sem.run Tryz.prog (sizeOf (Tryz.prog.elem 171)) w = .ok 1 w := by kernel_rfl
 rw [s1, lenMem]
 show Result.ok (slicedAt _ _ _ _ _) w = _
 rw [slicedAt, if_neg (by simp; omega)]
 simp [Addr.add]

theorem xbytes_any (g r F k : Nat) (off : Int) (s : MS) (w : World) (h : XAt w g s) (hr : r < 9) (q1 : 0 ≤ s.v r) (o1 : -32768 ≤ off) (o2 : off ≤ 32767) (hF : s.v r + off - 1000 = F) (hk : F + k ≤ 96) (hk1 : 1 ≤ k) :
  Calls Tryz.prog 193 #[.pointer (some ⟨g, 0, none⟩), .int .u8 r, .int .i16 off, .int .i64 k] w fun e w' => e = .returned (.slice (some ⟨g, 9 + F, none⟩) k (96 - F)) ∧ w = w' := by
 have cr := h.v r hr
 clear h
 have q2 : s.v r < 40000 := by omega
 have e1 : s.v r + off = F + 1000 := by omega
 have e2 : (F : Int) + 1000 - 1000 = F := by omega
 have e3 : (F : Int) + k ≤ 96 := by omega
 have r0 : (0 : Int) ≤ r := by omega
 have r1 : (r : Int) < 9 := by omega
 clear hF
 have hsl : ∀ wx : World, Sem.run Tryz.prog (Instr.sliceAt 171 (.pointer (some ⟨g, 9, none⟩)) (some (.int .i64 (F : Int))) (some (.int .i64 ((F : Int) + k))) none) wx = .ok (.slice (some ⟨g, 9 + F, none⟩) k (96 - F)) wx := fun wx => by
  have e := sliceMem g F (F + k) wx (by omega) (by omega) (by omega)
  rw [show ((F + k : Nat) : Int) = (F : Int) + k from by omega, show F + k - F = k from by omega] at e
  exact e
 go_enter Tryz.func193, Tryz.ntmps193
 go_wp2
 go_ret
 exact ⟨rfl, rfl⟩

def ldGo (m : Nat → Int) (F : Nat) : Nat → Nat → Int → Int
 | 0, _, n => n
 | k + 1, i, n => ldGo m F k (i + 1) (bits .or .u64 n (IntKind.u64.wrap (m (F + i) * 2 ^ (8 * i))))
def MS.ld (s : MS) (F k : Nat) : Int := ldGo s.m F k 0 0
def stGo (n : Int) (F : Nat) : Nat → Nat → MS → MS
 | 0, _, s => s
 | k + 1, i, s => stGo n F k (i + 1) (s.setM (F + i) (n / 2 ^ (8 * i) % 256))
def MS.st (s : MS) (F k : Nat) (n : Int) : MS := stGo n F k 0 s

theorem xload_any (g r F k : Nat) (off : Int) (s : MS) (w : World) (h : XAt w g s) (hr : r < 9) (q1 : 0 ≤ s.v r) (o1 : -32768 ≤ off) (o2 : off ≤ 32767) (hF : s.v r + off - 1000 = F) (hk : F + k ≤ 96) (hk1 : 1 ≤ k) (hk8 : k ≤ 8) (hm : ∀ i, 0 ≤ s.m i ∧ s.m i ≤ 255) :
  Calls Tryz.prog 165 #[.pointer (some ⟨g, 0, none⟩), .int .u8 r, .int .i16 off, .int .i64 k] w fun e w' => e = .returned (.int .u64 (s.ld F k)) ∧ w = w' := by
 have C := fun wx (hx : XAt wx g s) => xbytes_any g r F k off s wx hx hr q1 o1 o2 hF hk hk1
 have HM := hideX hm
 clear hF hm
 have HX := hideX h
 clear h
 go_enter Tryz.func165, Tryz.ntmps165
 go_wp2_with (go_at_call 193; refine (C _ HX.out).mono ?_; rintro e w' ⟨rfl, rfl⟩)
 go_loop [9, 10, 11, 18] (fun n _ _ i => ∃ (j : Nat) (x : Int), j ≤ k ∧ i = .int .i64 j ∧ n = .int .u64 x ∧ Hid (ldGo s.m F (k - j) j x = s.ld F k)) (fun _ _ _ i => k - (intOf i).toNat)
 case atStart => exact ⟨0, 0, by omega, rfl, rfl, hideX rfl⟩
 case round =>
  obtain ⟨j, x, hj, rfl, rfl, HL⟩ := hrel
  by_cases hlt : j < k
  ·have cm : w.cell? ⟨g, 9 + F + j, none⟩ = some (.int .u8 (s.m (F + j))) := by rw [Nat.add_assoc]; exact HX.out.m (F + j) (by omega)
   have m0 := (HM.out (F + j)).1
   have m1 := (HM.out (F + j)).2
   go_wp2
   go_round
   case rel => exact ⟨j + 1, _, by omega, by go_num, rfl, hideX (by have := HL.out; rw [show k - j = k - (j + 1) + 1 from by omega] at this; exact this)⟩
   case measure => simp [intOf]; omega
  ·have hjk : j = k := by omega
   subst hjk
   have hl := HL.out
   rw [Nat.sub_self] at hl
   go_wp2
   go_ret
   exact ⟨by rw [← hl]; rfl, rfl⟩

theorem xstore_any (g r F k : Nat) (off n : Int) (s : MS) (w : World) (h : XAt w g s) (hr : r < 9) (q1 : 0 ≤ s.v r) (o1 : -32768 ≤ off) (o2 : off ≤ 32767) (hF : s.v r + off - 1000 = F) (hk : F + k ≤ 96) (hk1 : 1 ≤ k) (hk8 : k ≤ 8) :
  Calls Tryz.prog 168 #[.pointer (some ⟨g, 0, none⟩), .int .u8 r, .int .i16 off, .int .i64 k, .int .u64 n] w fun e w' => e = .returned (.tuple #[]) ∧ XAt w' g (s.st F k n) ∧ Tch g g w w' := by
 have C := fun wx (hx : XAt wx g s) => xbytes_any g r F k off s wx hx hr q1 o1 o2 hF hk hk1
 clear hF
 have HX := hideX h
 clear h
 go_enter Tryz.func168, Tryz.ntmps168
 go_wp2_with (go_at_call 193; refine (C _ HX.out).mono ?_; rintro e w' ⟨rfl, rfl⟩)
 go_loopw [11, 19] (fun _ i wr => ∃ (j : Nat) (x : MS), j ≤ k ∧ i = .int .i64 j ∧ Hid (XAt wr g x) ∧ Tch g g w wr ∧ Hid (stGo n F (k - j) j x = s.st F k n)) (fun _ i _ => k - (intOf i).toNat)
 case atStart => exact ⟨0, s, by omega, rfl, HX, Tch.refl _ _ _, hideX rfl⟩
 case round =>
  obtain ⟨j, x, hj, rfl, hx, ht, HL⟩ := hrel
  by_cases hlt : j < k
  ·have cm : wr.cell? ⟨g, 9 + F + j, none⟩ = some (.int .u8 (x.m (F + j))) := by rw [Nat.add_assoc]; exact hx.out.m (F + j) (by omega)
   have cz := hx.out.z (9 + F + j)
   go_wp2
   go_roundw
   case rel => exact ⟨j + 1, _, by omega, by go_num, hideX (by have := hx.out.setM (F + j) (by omega) (n / 2 ^ (8 * j) % 256); rw [← Nat.add_assoc] at this; exact this), ht.setP _ _, hideX (by have := HL.out; rw [show k - j = k - (j + 1) + 1 from by omega] at this; exact this)⟩
   case measure => simp [intOf]; omega
  ·have hjk : j = k := by omega
   subst hjk
   have hl := HL.out
   rw [Nat.sub_self] at hl
   go_wp2
   go_end0
   exact ⟨rfl, by rw [← hl]; exact hx.out, ht⟩
end Go.Proofs.YtoobileejdhikaaGreat

namespace Go.Proofs.YtoobileejdhikaaGreat
set_option maxRecDepth 100000
set_option maxHeartbeats 400000
open Go.RowKit
attribute [local go_sem ↓] Go.wp_at_zero Go.wp_at_succ

theorem infoU8 : (Tryz.prog.info? 5).map (fun i => (i.zero, i.size, i.bytes)) = some (some (.int .u8 0), 1, 1) := by kernel_rfl
theorem info_partsX {P : Program} {t : TypeId} {z : Value} {s b : Nat} (h : (P.info? t).map (fun i => (i.zero, i.size, i.bytes)) = some (some z, s, b)) : ∃ i, P.info? t = some i ∧ i.zero = some z ∧ i.size = s ∧ i.bytes = b := by
 cases hq : P.info? t with
 | none => simp [hq] at h
 | some i => simp [hq] at h; exact ⟨i, rfl, h.1, h.2.1, h.2.2⟩
theorem addr_add (g o j : Nat) : (⟨g, o, none⟩ : Addr).add j = ⟨g, o + j, none⟩ := by
 cases j with
 | zero => rfl
 | succ j => rfl
def byV (xs : List Int) : List Value := xs.map (Value.int .u8)
theorem byV_one (xs : List Int) : ∀ u ∈ byV xs, u.oneCell' = true := fun u hu => by
 obtain ⟨x, _, rfl⟩ := List.mem_map.1 hu; rfl
theorem byV_len (xs : List Int) : (byV xs).length = xs.length := by simp [byV]
def BytesAt (w : World) (a : Option Addr) (xs : List Int) : Prop := xs = [] ∨ ∃ ad, a = some ad ∧ ∀ j u, (byV xs)[j]? = some u → w.cell? (ad.add j) = some u

theorem cellAlloc' {W : World} {a : Addr} {v : Value} (o : Obj) (h : W.cell? a = some v) : (W.alloc o).cell? a = some v := by
 rw [World.cell?_alloc_lt _ _ _ (World.block_lt_of_cell? W a h)]; exact h

theorem clone_any (a : Option Addr) (n c : Nat) (xs : List Int) (w : World) (hx : xs.length = n) (hn : n ≤ 140737488355328) (hc : BytesAt w a xs) (ha : a = none → n = 0 ∧ c = 0) :
  Calls Tryz.prog 37 #[.slice a n c] w fun e w' => ∃ v, e = .returned v ∧ w'.ownsRow w.heap.size 5 1 v n (byV xs) ∧ Below w.heap.size w w' := by
 obtain ⟨i0, hi, hz0, hz1, hz2⟩ := info_partsX infoU8
 cases a with
 | none =>
  obtain ⟨rfl, rfl⟩ := ha rfl
  have hxs : xs = [] := List.eq_nil_of_length_eq_zero hx
  subst hxs
  have hq : ∀ w, Sem.run Tryz.prog (binOp .eql 22 (.slice none 0 0) (.slice none 0 0)) w = .ok (.bool true) w := fun w => by kernel_rfl
  go_enter Tryz.func37, Tryz.ntmps37
  go_wp2
  go_ret
  exact ⟨_, rfl, World.ownsRow_nil _ _ _ _, Below.refl _ _⟩
 | some ad =>
  have hq : ∀ w, Sem.run Tryz.prog (binOp .eql 22 (.slice (some ad) n c) (.slice none 0 0)) w = .ok (.bool false) w := fun w => by kernel_rfl
  have hnews : ∀ j u, (byV xs)[j]? = some u → w.cell? (ad.add j) = some u := fun j u hj => by
   rcases hc with rfl | ⟨ad', e, h⟩
   ·simp [byV] at hj
   ·cases e; exact h j u hj
  clear hc ha
  have HN := hideX hnews
  clear hnews
  go_enter Tryz.func37, Tryz.ntmps37
  go_wp2_with (refine wpList_append_own _ rfl _ _ 22 rfl w.heap.size 5 i0 _ 1 1 Tryz.underlying22 hi hz0 hz1 hz2 rfl (by omega) (.slice (some ⟨w.heap.size, 0, none⟩) 0 0) 0 [] rfl ?hown ad n c (byV xs) rfl ?hl ?hnews (byV_one xs) ?h63 ?hby ?hbase ?_; rotate_left 6; intro v1 w1 hown hgrow hiff)
  case hown => exact World.ownsRow_made w #[] 0 (Nat.le_refl _) (by unfold maxLen; omega) rfl
  case hl => rw [byV_len]; omega
  case hnews => exact fun j u hj => cellAlloc' _ (HN.out j u hj)
  case h63 => unfold maxLen; omega
  case hby => omega
  case hbase => simp
  go_ret
  refine ⟨_, rfl, ?_, ((Below.refl _ _).alloc (Nat.le_refl _) _).grown hgrow (by simp) (fun k hk => by simp [Value.ownBlock] at hk; omega)⟩
  rw [Nat.zero_add, List.nil_append] at hown
  exact hown

theorem below_setCells {B : Nat} {a : World} {g : Nat} (hg : B ≤ g) : ∀ (cs : List Value) (o : Nat) {w : World}, Below B a w → Below B a (w.setCells g o cs)
 | [], _, _, h => h
 | _ :: cs, o, _, h => below_setCells hg cs (o + 1) (h.setCell (p := ⟨g, o, none⟩) hg _)
def startA (x : Int) : Array Value := (List.replicate 9 (Value.int .u64 0) ++ (List.replicate 96 (Value.int .u8 0) ++ [Value.int .u64 1032, Value.int .u64 x])).toArray
def startM (xs : List Int) : MS :=
 { v := fun i => if i = 1 then 1032 else if i = 2 then 1032 + xs.length else if i = 7 then 1032 else 0, m := fun i => if 32 ≤ i then xs.getD (i - 32) 0 else 0, f := 1032, l := 1032 + xs.length }
theorem startA_at (w : World) (x : Int) : XAt (w.alloc (.cells (startA x) 173)) w.heap.size { v := fun _ => 0, m := fun _ => 0, f := 1032, l := x } := by
 have c : ∀ o, (w.alloc (.cells (startA x) 173)).cell? ⟨w.heap.size, o, none⟩ = (startA x)[o]? := fun o => cell_of_row _ _ _ _ _ _ (heap_alloc_new w _)
 refine ⟨fun r hr => ?_, fun i hi => ?_, ?_, ?_, fun o => World.frozen?_alloc_new _ _ _ _, by simp⟩
 ·rw [c, startA, List.getElem?_toArray, List.getElem?_append_left (by rw [List.length_replicate]; exact hr), List.getElem?_replicate, if_pos hr]
 ·rw [c, startA, List.getElem?_toArray, List.getElem?_append_right (by rw [List.length_replicate]; omega), List.length_replicate, List.getElem?_append_left (by rw [List.length_replicate]; omega), List.getElem?_replicate, if_pos (by omega)]
 ·rw [c]; rfl
 ·rw [c]; rfl
theorem copied_m {w : World} {g : Nat} {s : MS} (h : XAt w g s) (ys : List Int) : ∀ (k : Nat), k + ys.length ≤ 96 → XAt (w.setCells g (9 + k) (byV ys)) g { s with m := fun i => if k ≤ i ∧ i < k + ys.length then ys.getD (i - k) 0 else s.m i } := by
 induction ys generalizing w s with
 | nil => intro k _; simp only [byV, List.map_nil, World.setCells]; refine ⟨h.v, fun i hi => ?_, h.f, h.l, h.z, h.lt⟩; rw [h.m i hi]; simp; omega
 | cons y ys ih =>
  intro k hk
  simp only [List.length_cons] at hk
  have h1 := ih (h.setM k (by omega) y) (k + 1) (by omega)
  rw [← Nat.add_assoc] at h1
  refine ⟨h1.v, fun i hi => ?_, h1.f, h1.l, h1.z, h1.lt⟩
  refine (h1.m i hi).trans ?_
  simp only [MS.setM, List.length_cons]
  by_cases e : i = k
  ·subst e; rw [if_neg (by omega), if_pos rfl, if_pos (by omega), Nat.sub_self]; rfl
  ·by_cases e2 : k + 1 ≤ i ∧ i < k + 1 + ys.length
   ·rw [if_pos e2, if_pos (by omega), show i - k = (i - (k + 1)) + 1 from by omega]; rfl
   ·rw [if_neg e2, if_neg e, if_neg (by omega)]

theorem sliceTail (g : Nat) (w : World) :
  Sem.run Tryz.prog (Instr.sliceAt 171 (.pointer (some ⟨g, 9, none⟩)) (some (.int .i64 32)) none none) w = .ok (.slice (some ⟨g, 41, none⟩) 64 64) w := by kernel_rfl
theorem xstart_any (a : Option Addr) (n c : Nat) (xs : List Int) (w : World) (hx : xs.length = n) (hn : n ≤ 64) (hc : BytesAt w a xs) :
  Calls Tryz.prog 75 #[.slice a n c] w fun e w' => ∃ g, e = .returned (.pointer (some ⟨g, 0, none⟩)) ∧ w.heap.size ≤ g ∧ XAt w' g (startM xs) ∧ Below w.heap.size w w' := by
 have hsl := sliceTail w.heap.size
 have x1 := startA_at w (1032 + n)
 have hcp : Sem.run Tryz.prog (Builtin.copy_ #[22, 22] 3 #[.slice (some ⟨w.heap.size, 41, none⟩) 64 64, .slice a n c]) (w.alloc (.cells (startA (1032 + n)) 173)) = .ok (.int .i64 n) ((w.alloc (.cells (startA (1032 + n)) 173)).setCells w.heap.size 41 (byV xs)) := by
  rcases hc with rfl | ⟨ad, rfl, hc⟩
  ·simp only [List.length_nil] at hx
   subst hx
   exact run_copy_none _ _ _ _ _ _ _ _ _ _ _ Tryz.underlying22 (by kernel_rfl) (by simp)
  ·have e := run_copy_cells (P := Tryz.prog) (w.alloc (.cells (startA (1032 + n)) 173)) 22 22 3 5 w.heap.size 41 64 64 ad n c (byV xs) Tryz.underlying22 (by kernel_rfl) (by rw [byV_len, hx]; exact (Nat.min_eq_left hn).symm) (fun j v hj => cellAlloc' _ (hc j v hj)) (fun j hj => by rw [byV_len] at hj; rw [show 41 + j = 9 + (32 + j) from by omega, x1.m (32 + j) (by omega)]; rfl) (fun j _ => x1.z _) (byV_one xs)
   rw [e, byV_len, hx]
   rfl
 have x2 := copied_m x1 xs 32 (by omega)
 rw [show 9 + 32 = 41 from rfl] at x2
 have b2 : Below w.heap.size w ((w.alloc (.cells (startA (1032 + n)) 173)).setCells w.heap.size 41 (byV xs)) := below_setCells (Nat.le_refl _) _ _ ((Below.refl _ _).alloc (Nat.le_refl _) _)
 have hS : startM xs = (((({ v := fun _ => 0, m := fun i => if 32 ≤ i ∧ i < 32 + xs.length then xs.getD (i - 32) 0 else 0, f := 1032, l := 1032 + n } : MS).setV 1 1032).setV 2 (1032 + n)).setV 7 1032) := by
  simp only [startM, MS.setV, MS.mk.injEq, hx, and_true]
  refine ⟨funext fun i => ?_, funext fun i => ?_⟩
  ·by_cases e7 : i = 7
   ·subst e7; rfl
   ·by_cases e2 : i = 2
    ·subst e2; rfl
    ·by_cases e1 : i = 1
     ·subst e1; rfl
     ·simp [e1, e2, e7]
  ·by_cases h1 : 32 ≤ i
   ·rw [if_pos h1]
    by_cases h2 : i < 32 + n
    ·rw [if_pos ⟨h1, h2⟩]
    ·rw [if_neg (by omega)]; simp [List.getElem?_eq_none (show xs.length ≤ i - 32 from by omega)]
   ·rw [if_neg h1, if_neg (by omega)]
 rw [hS]
 clear hS hc
 generalize hW : (w.alloc (.cells (startA (1032 + n)) 173)).setCells w.heap.size 41 (byV xs) = W2 at hcp x2 b2
 clear hW x1
 have HX := hideX x2
 have c1 := x2.v 1 (by omega)
 have c2 := x2.v 2 (by omega)
 have c7 := x2.v 7 (by omega)
 have cf := x2.f
 have cl := x2.l
 have z1 := x2.z 1
 have z2 := x2.z 2
 have z7 := x2.z 7
 clear x2
 dsimp only at c1 c2 c7 cf cl
 go_enter Tryz.func75, Tryz.ntmps75
 go_wp2_with (first | (refine wpList_build_as rfl 173 _ rfl (startA (1032 + n)) (by kernel_rfl) ?_) | fail)
 go_region_held3 (fun w' => w'.cell? ⟨w.heap.size, 105, none⟩ = some (.int .u64 1032)) (first | (refine (cell_set_off (w := W2.drew) ?_).trans cf; omega) | (refine (cell_set_off (w := W2) ?_).trans cf; omega) | go_keep) (fail)
 all_goals go_wp2
 have x3 := (HX.out.setV 1 (by omega) 1032).drew
 have b3 : Below w.heap.size w (W2.setCell ⟨w.heap.size, 1, none⟩ (.int .u64 1032)).drew := (b2.setCell (p := ⟨w.heap.size, 1, none⟩) (Nat.le_refl _) _).drew
 generalize hW3 : (W2.setCell ⟨w.heap.size, 1, none⟩ (.int .u64 1032)).drew = W3 at x3 b3 ⊢
 clear hW3 c1 c2 c7 cf cl z1 z2 z7 HX
 have c2 := x3.v 2 (by omega)
 have c7 := x3.v 7 (by omega)
 have z7 := x3.z 7
 have cl := x3.l
 have z2 := x3.z 2
 have HX := hideX x3
 clear x3
 simp only [MS.setV] at c2 cl c7
 go_region_held3 (fun w' => w'.cell? ⟨w.heap.size, 106, none⟩ = some (.int .u64 (1032 + n))) (first | (refine (cell_set_off (w := W3.drew) ?_).trans cl; omega) | (refine (cell_set_off (w := W3) ?_).trans cl; omega) | go_keep) (fail)
 all_goals go_wp2
 go_ret
 exact ⟨_, rfl, Nat.le_refl _, ((HX.out.setV 2 (by omega) (1032 + n)).setV 7 (by omega) 1032).drew, ((b3.setCell (p := ⟨w.heap.size, 2, none⟩) (Nat.le_refl _) _).setCell (p := ⟨w.heap.size, 7, none⟩) (Nat.le_refl _) _).drew⟩

theorem cellKeep' {B : Nat} {W w1 : World} {g : Nat} {o : Nat} {v : Value} (hb : Below B W w1) (hg : g < B) (h : W.cell? ((⟨g, o, none⟩ : Addr)) = some v) : w1.cell? ⟨g, o, none⟩ = some v := (hb.cell (by exact hg)).trans h
def MS.left (s : MS) : List Int := (List.range (s.l - s.f).toNat).map fun i => s.m ((s.f - 1000).toNat + i)

theorem sliceMem0 (g : Nat) (w : World) :
  Sem.run Tryz.prog (Instr.sliceAt 171 (.pointer (some ⟨g, 9, none⟩)) (some (.int .u64 96)) (some (.int .u64 96)) none) w = .ok (.slice (some ⟨g, 9, none⟩) 0 0) w := by kernel_rfl
theorem sliceMemU (g l h : Nat) (w : World) (h1 : l ≤ h) (h2 : h ≤ 96) :
  Sem.run Tryz.prog (Instr.sliceAt 171 (.pointer (some ⟨g, 9, none⟩)) (some (.int .u64 (l : Int))) (some (.int .u64 (h : Int))) none) w = .ok (.slice (some ⟨g, if l = 96 then 9 else 9 + l, none⟩) (h - l) (96 - l)) w := by
 have e := run_sliceAt_array_lh (P := Tryz.prog) w 171 ⟨g, 9, none⟩ Tryz.underlying171 .u64 .u64 (l : Int) (h : Int) (by omega) (by omega) (by rw [lenMem]; omega)
 refine e.trans ?_
 have s1 : Sem.run Tryz.prog (sizeOf (Tryz.prog.elem 171)) w = .ok 1 w := by kernel_rfl
 rw [s1, lenMem]
 show Result.ok (slicedAt _ _ _ _ _) w = _
 rw [slicedAt]
 by_cases hl : l = 96
 ·subst hl; simp
 ·rw [if_neg (by simp; omega), if_neg hl]; simp [Addr.add]

theorem xframe_any (g : Nat) (s : MS) (w : World) (h : XAt w g s) (F L : Nat) (hf : s.f = F + 1000) (hl : s.l = L + 1000) (h1 : F ≤ L) (h2 : L ≤ 96) :
  Calls Tryz.prog 78 #[.pointer (some ⟨g, 0, none⟩)] w fun e w' => ∃ v, e = .returned v ∧ w'.ownsRow w.heap.size 5 1 v (L - F) (byV s.left) ∧ Below w.heap.size w w' := by
 have hlen : s.left.length = L - F := by simp [MS.left, hf, hl]; omega
 have hB : BytesAt w (some ⟨g, if F = 96 then 9 else 9 + F, none⟩) s.left := by
  by_cases e : F = 96
  ·exact .inl (List.eq_nil_of_length_eq_zero (by omega))
  ·rw [if_neg e]
   refine .inr ⟨_, rfl, fun j u hj => ?_⟩
   have hj' : j < L - F := by have := (List.getElem?_eq_some_iff.1 hj).1; rw [byV_len, hlen] at this; exact this
   have e2 : (byV s.left)[j]? = some (.int .u8 (s.m (F + j))) := by
    simp only [byV, MS.left, List.map_map, List.getElem?_map, hf, hl]
    rw [List.getElem?_range (by omega), show ((F : Int) + 1000 - 1000).toNat = F from by omega]
    rfl
   rw [e2] at hj
   cases hj
   have := h.m (F + j) (by omega)
   rw [← Nat.add_assoc] at this
   rw [addr_add]; exact this
 have cf := h.f
 have cl := h.l
 rw [hf] at cf
 rw [hl] at cl
 have hsl := fun wx => sliceMemU g F L wx h1 h2
 have lt := h.lt
 clear h hf hl
 have HB := hideX hB
 clear hB
 have C := fun wx (hb : Below w.heap.size w wx) => clone_any (some ⟨g, if F = 96 then 9 else 9 + F, none⟩) (L - F) (96 - F) s.left wx hlen (by omega) (by
  rcases HB.out with e | ⟨ad, e, h⟩
  ·exact .inl e
  ·cases e
   exact .inr ⟨_, rfl, fun j u hj => by have h2 := h j u hj; rw [addr_add] at h2 ⊢; exact cellKeep' hb lt h2⟩) (fun e => by cases e)
 generalize (if F = 96 then 9 else 9 + F) = q at hsl C
 have e1 : IntKind.u64.wrap (F : Int) = F := by show w64 _ = _; rw [w64_eq]; omega
 have e2 : IntKind.u64.wrap (L : Int) = L := by show w64 _ = _; rw [w64_eq]; omega
 go_enter Tryz.func78, Tryz.ntmps78
 go_wp2
 go_region_held3 (fun w' => w'.cell? ⟨g, 105, none⟩ = some (.int .u64 ((F : Int) + 1000)) ∧ w'.cell? ⟨g, 106, none⟩ = some (.int .u64 ((L : Int) + 1000))) (first | go_keep | (refine ⟨?_, ?_⟩ <;> exact cellKeep' hbc lt (by assumption))) ((go_at_call 37; refine (C _ (Below.refl _ _).drew).mono ?_; rintro e wc ⟨v, rfl, hown, hbc⟩))
 all_goals go_wp2
 all_goals go_ret
 exact ⟨_, rfl, hown, (Below.refl _ _).drew.trans hbc⟩
end Go.Proofs.YtoobileejdhikaaGreat
