/-
  What the program knows ahead of an instruction, and what follows from it, as plain functions; and how it lies in memory.
  The program's states of knowledge: harm, Read, Set and kin.
  The program's states of knowledge: harm, Read and the small functions.
  The program's spans and values: the small functions.
-/
import Derived.Test.YtoobileejdhikaaGreatGa0
import Derived.Deep.MidRow
import Derived.Deep.WholeRow
import Derived.Laws.Rows
import Derived.Deep.RegionHeld3
import Derived.Deep.DrawnRows
namespace Go.Proofs.YtoobileejdhikaaGreat
open Go.RowKit

structure KV where
 kind : Int
 nl : Int
 nm : Int
 pl : Int
 pm : Int
 e : Bool
structure KS where
 reached : Bool
 at1 : Int
 v : Nat → KV
 frame : Int
def kNone : KV := ⟨0, 0, 0, 0, 0, false⟩
def KS.zero : KS := ⟨false, 0, fun _ => kNone, 0⟩
def KV.cells (v : KV) : List Value := [.int .u8 v.kind, .int .u64 v.nl, .int .u64 v.nm, .int .i64 v.pl, .int .i64 v.pm, .bool v.e]
def KV.arr (v : KV) : Array Value := #[.int .u8 v.kind, .int .u64 v.nl, .int .u64 v.nm, .int .i64 v.pl, .int .i64 v.pm, .bool v.e]
def KS.list (s : KS) : List Value :=
 (.bool s.reached) :: (.int .i64 s.at1) :: ((s.v 0).cells ++ ((s.v 1).cells ++ ((s.v 2).cells ++ ((s.v 3).cells ++ ((s.v 4).cells ++ ((s.v 5).cells ++ ((s.v 6).cells ++ ((s.v 7).cells ++ ((s.v 8).cells ++ [.int .i64 s.frame])))))))))
def KS.cells0 (s : KS) : Array Value := s.list.toArray
def KS.cellsW (s : KS) (n : Nat) : Array Value := if _h : n = 0 then s.cells0 else KS.cellsW s (n / 2)
def KS.cells (s : KS) : Array Value := KS.cellsW s 0
theorem KS.cells_eq (s : KS) : s.cells = s.cells0 := by unfold KS.cells; rw [KS.cellsW]; simp
theorem KS.size (s : KS) : s.cells.size = 57 := by rw [KS.cells_eq]; rfl
theorem KS.length (s : KS) : s.list.length = 57 := rfl
theorem KS.one (s : KS) : s.cells.all (·.oneCell') = true := by
 rw [KS.cells_eq]; simp [KS.cells0, KS.list, KV.cells, Value.oneCell']

def KV.cell (v : KV) (j : Nat) : Value := v.cells.getD j (.bool false)
theorem KS.at_v (s : KS) (r j : Nat) (hr : r < 9) (hj : j < 6) : s.cells[2 + r * 6 + j]? = some ((s.v r).cell j) := by
 rw [KS.cells_eq]
 match r, hr with
 | 0, _ => match j, hj with
  | 0, _ => rfl | 1, _ => rfl | 2, _ => rfl | 3, _ => rfl | 4, _ => rfl | 5, _ => rfl
 | 1, _ => match j, hj with
  | 0, _ => rfl | 1, _ => rfl | 2, _ => rfl | 3, _ => rfl | 4, _ => rfl | 5, _ => rfl
 | 2, _ => match j, hj with
  | 0, _ => rfl | 1, _ => rfl | 2, _ => rfl | 3, _ => rfl | 4, _ => rfl | 5, _ => rfl
 | 3, _ => match j, hj with
  | 0, _ => rfl | 1, _ => rfl | 2, _ => rfl | 3, _ => rfl | 4, _ => rfl | 5, _ => rfl
 | 4, _ => match j, hj with
  | 0, _ => rfl | 1, _ => rfl | 2, _ => rfl | 3, _ => rfl | 4, _ => rfl | 5, _ => rfl
 | 5, _ => match j, hj with
  | 0, _ => rfl | 1, _ => rfl | 2, _ => rfl | 3, _ => rfl | 4, _ => rfl | 5, _ => rfl
 | 6, _ => match j, hj with
  | 0, _ => rfl | 1, _ => rfl | 2, _ => rfl | 3, _ => rfl | 4, _ => rfl | 5, _ => rfl
 | 7, _ => match j, hj with
  | 0, _ => rfl | 1, _ => rfl | 2, _ => rfl | 3, _ => rfl | 4, _ => rfl | 5, _ => rfl
 | 8, _ => match j, hj with
  | 0, _ => rfl | 1, _ => rfl | 2, _ => rfl | 3, _ => rfl | 4, _ => rfl | 5, _ => rfl

def KS.set (s : KS) (r : Nat) (v : KV) : KS := { s with v := fun i => if i = r then v else s.v i }
def putV (A : Array Value) (o : Nat) (v : KV) : Array Value :=
 (((((A.setIfInBounds o (.int .u8 v.kind)).setIfInBounds (o + 1) (.int .u64 v.nl)).setIfInBounds (o + 2) (.int .u64 v.nm)).setIfInBounds (o + 3) (.int .i64 v.pl)).setIfInBounds (o + 4) (.int .i64 v.pm)).setIfInBounds (o + 5) (.bool v.e)
theorem KS.put0 (s : KS) (v : KV) : putV s.cells 2 v = (s.set 0 v).cells := by rw [KS.cells_eq, KS.cells_eq]; kernel_rfl
theorem KS.put1 (s : KS) (v : KV) : putV s.cells 8 v = (s.set 1 v).cells := by rw [KS.cells_eq, KS.cells_eq]; kernel_rfl
theorem KS.put2 (s : KS) (v : KV) : putV s.cells 14 v = (s.set 2 v).cells := by rw [KS.cells_eq, KS.cells_eq]; kernel_rfl
theorem KS.put3 (s : KS) (v : KV) : putV s.cells 20 v = (s.set 3 v).cells := by rw [KS.cells_eq, KS.cells_eq]; kernel_rfl
theorem KS.put4 (s : KS) (v : KV) : putV s.cells 26 v = (s.set 4 v).cells := by rw [KS.cells_eq, KS.cells_eq]; kernel_rfl
theorem KS.put5 (s : KS) (v : KV) : putV s.cells 32 v = (s.set 5 v).cells := by rw [KS.cells_eq, KS.cells_eq]; kernel_rfl
theorem KS.put6 (s : KS) (v : KV) : putV s.cells 38 v = (s.set 6 v).cells := by rw [KS.cells_eq, KS.cells_eq]; kernel_rfl
theorem KS.put7 (s : KS) (v : KV) : putV s.cells 44 v = (s.set 7 v).cells := by rw [KS.cells_eq, KS.cells_eq]; kernel_rfl
theorem KS.put8 (s : KS) (v : KV) : putV s.cells 50 v = (s.set 8 v).cells := by rw [KS.cells_eq, KS.cells_eq]; kernel_rfl
theorem KS.put_set (s : KS) (r : Nat) (hr : r < 9) (v : KV) : putV s.cells (2 + r * 6) v = (s.set r v).cells := by
 match r, hr with
 | 0, _ => exact s.put0 v
 | 1, _ => exact s.put1 v
 | 2, _ => exact s.put2 v
 | 3, _ => exact s.put3 v
 | 4, _ => exact s.put4 v
 | 5, _ => exact s.put5 v
 | 6, _ => exact s.put6 v
 | 7, _ => exact s.put7 v
 | 8, _ => exact s.put8 v

theorem wpList_build_as {P : Program} {ops : Array Oper} {rest : List Oper} {o : Oper} {a : Act} {w : World} {Q : Exit → Act → World → Prop} (hg : o.guard = none) (t : TypeId) (parts : Array (Nat × Operand)) (ho : o.op = .build t parts)
  (cells : Array Value) (hf : P.built t (parts.map fun (i, x) => (i, a.eval x)).toList = some cells)
  (h : wpList P ops Q rest (a.put o.dst (.agg cells)) w) : wpList P ops Q (o :: rest) a w :=
 wpList_build hg t parts ho (by rw [hf]; rfl) (by rw [hf]; exact h)
structure KAt (w : World) (g : Nat) (s : KS) : Prop where
 row : w.heap[g]? = some (.cells s.cells 117)
theorem KAt.lt {w : World} {g : Nat} {s : KS} (h : KAt w g s) : g < w.heap.size := (Array.getElem?_eq_some_iff.1 h.row).1
theorem KAt.c {w : World} {g : Nat} {s : KS} (h : KAt w g s) (r j : Nat) (hr : r < 9) (hj : j < 6) : w.cell? ⟨g, 2 + r * 6 + j, none⟩ = some ((s.v r).cell j) := by
 rw [cell_of_row w g _ s.cells _ _ h.row]; exact s.at_v r j hr hj
theorem KAt.reached {w : World} {g : Nat} {s : KS} (h : KAt w g s) : w.cell? ⟨g, 0, none⟩ = some (.bool s.reached) := by
 rw [cell_of_row w g _ s.cells _ _ h.row, KS.cells_eq]; rfl
theorem KAt.at1 {w : World} {g : Nat} {s : KS} (h : KAt w g s) : w.cell? ⟨g, 1, none⟩ = some (.int .i64 s.at1) := by
 rw [cell_of_row w g _ s.cells _ _ h.row, KS.cells_eq]; rfl
theorem KAt.frame {w : World} {g : Nat} {s : KS} (h : KAt w g s) : w.cell? ⟨g, 56, none⟩ = some (.int .i64 s.frame) := by
 rw [cell_of_row w g _ s.cells _ _ h.row, KS.cells_eq]; rfl
theorem KAt.fz {w : World} {g : Nat} {s : KS} (h : KAt w g s) (o : Nat) : w.frozen? ⟨g, o, none⟩ = false := frozen_of_row w g o _ _ h.row
theorem KAt.below {w w' : World} {g : Nat} {s : KS} {B : Nat} (h : KAt w g s) (hb : Below B w w') (hg : g < B) : KAt w' g s := ⟨(hb.block g hg).trans h.row⟩
theorem KAt.alloc {w : World} {g : Nat} {s : KS} (h : KAt w g s) (o : Obj) : KAt (w.alloc o) g s := ⟨(heap_alloc_old w o h.lt).trans h.row⟩
theorem KAt.drew {w : World} {g : Nat} {s : KS} (h : KAt w g s) : KAt w.drew g s := ⟨h.row⟩
theorem KAt.new (w : World) (s : KS) : KAt (w.alloc (.cells s.cells 117)) w.heap.size s := ⟨heap_alloc_new w _⟩
theorem KAt.setAway {w : World} {g : Nat} {s : KS} (h : KAt w g s) {b o : Nat} (hb : b ≠ g) (u : Value) : KAt (w.setCell ⟨b, o, none⟩ u) g s :=
 ⟨(heap_setCell_other w ⟨b, o, none⟩ g u (Ne.symm hb)).trans h.row⟩
theorem KAt.rowAway {w : World} {g : Nat} {s : KS} (h : KAt w g s) {b : Nat} (hb : b ≠ g) (cs : Array Value) : KAt (w.setRow b cs) g s :=
 ⟨(setRow_other w b g cs (Ne.symm hb)).trans h.row⟩
theorem KAt.put {w : World} {g : Nat} {s : KS} (h : KAt w g s) (r : Nat) (hr : r < 9) (v : KV) :
  KAt ((((((w.setCell ⟨g, 2 + r * 6, none⟩ (.int .u8 v.kind)).setCell ⟨g, 2 + r * 6 + 1, none⟩ (.int .u64 v.nl)).setCell ⟨g, 2 + r * 6 + 2, none⟩ (.int .u64 v.nm)).setCell ⟨g, 2 + r * 6 + 3, none⟩ (.int .i64 v.pl)).setCell ⟨g, 2 + r * 6 + 4, none⟩ (.int .i64 v.pm)).setCell ⟨g, 2 + r * 6 + 5, none⟩ (.bool v.e)) g (s.set r v) := by
 refine ⟨?_⟩
 rw [← s.put_set r hr v]
 exact heap_setCell_same _ _ _ _ _ _ (heap_setCell_same _ _ _ _ _ _ (heap_setCell_same _ _ _ _ _ _ (heap_setCell_same _ _ _ _ _ _ (heap_setCell_same _ _ _ _ _ _ (heap_setCell_same _ _ _ _ _ _ h.row)))))
theorem KAt.over {w : World} {g : Nat} {s : KS} (h : KAt w g s) (s' : KS) : KAt (w.setRow g s'.cells) g s' := ⟨setRow_heap w g _ _ _ _ h.row⟩

theorem zeroK (w : World) : Sem.run Tryz.prog (zeroValue 117) w = .ok (.agg KS.zero.cells) w := by rw [KS.cells_eq]; kernel_rfl
theorem builtZ : Tryz.prog.built 117 [] = some KS.zero.cells := by rw [KS.cells_eq]; kernel_rfl
theorem infoK : (Tryz.prog.info? 117).map (·.size) = some 57 := by kernel_rfl
theorem resK {fn : Func} {p : Tmp} (h : fn.results = #[.cell p 117]) (tmps : Array Value) (w : World) (g : Nat) (s : KS) (hp : tmps.getD p undef = .pointer (some ⟨g, 0, none⟩)) (hg : KAt w g s) :
  (results fn tmps).run Tryz.prog w = .ok (.agg s.cells) w :=
 results_cell_row h tmps w g _ _ _ _ hp hg.row Tryz.underlying117 rfl (by rw [KS.size]; exact infoK)
theorem infoKs (s : KS) : (Tryz.prog.info? 117).map (·.size) = some s.cells.size := by rw [KS.size]; exact infoK
theorem wpK_load {ops : Array Oper} {rest : List Oper} {o : Oper} {a : Act} {w : World} {Q : Exit → Act → World → Prop} (hgd : o.guard = none) (x : Operand) (ho : o.op = .load 117 x)
  (g : Nat) (hx : a.eval x = .pointer (some ⟨g, 0, none⟩)) (s : KS) (hg : KAt w g s)
  (h : wpList Tryz.prog ops Q rest (a.put o.dst (.agg s.cells)) w) : wpList Tryz.prog ops Q (o :: rest) a w :=
 wpList_load_row hgd _ x ho g hx _ s.cells (0, 0) _ hg.row Tryz.underlying117 rfl (infoKs s) h
theorem wpK_store {ops : Array Oper} {rest : List Oper} {o : Oper} {a : Act} {w : World} {Q : Exit → Act → World → Prop} (hgd : o.guard = none) (x y : Operand) (ho : o.op = .store 117 x y)
  (g : Nat) (hx : a.eval x = .pointer (some ⟨g, 0, none⟩)) (s' : KS) (hy : a.eval y = .agg s'.cells) (s : KS) (hg : KAt w g s)
  (h : wpList Tryz.prog ops Q rest (a.put o.dst undef) (w.setRow g s'.cells)) : wpList Tryz.prog ops Q (o :: rest) a w :=
 wpList_store_row hgd _ x y ho g s'.cells hx hy _ s.cells hg.row (infoKs s') (by rw [KS.size, KS.size]) (KS.one s') h
theorem KAt.newPut (w : World) (s : KS) (r : Nat) (hr : r < 9) (v : KV) :
  KAt (w.alloc (.cells ((((((s.cells.setIfInBounds (2 + r * 6) (.int .u8 v.kind)).setIfInBounds (2 + r * 6 + 1) (.int .u64 v.nl)).setIfInBounds (2 + r * 6 + 2) (.int .u64 v.nm)).setIfInBounds (2 + r * 6 + 3) (.int .i64 v.pl)).setIfInBounds (2 + r * 6 + 4) (.int .i64 v.pm)).setIfInBounds (2 + r * 6 + 5) (.bool v.e)) 117)) w.heap.size (s.set r v) := by
 refine ⟨?_⟩
 rw [← s.put_set r hr v]
 exact heap_alloc_new w _
theorem below_setRowK {B : Nat} {a w : World} (h : Below B a w) {g : Nat} (hg : B ≤ g) (cs : Array Value) : Below B a (w.setRow g cs) :=
 ⟨by rw [World.setRow]; exact h.os, by rw [World.setRow]; exact h.tape, by rw [World.setRow]; exact h.output, by have := h.size; simp [World.setRow]; omega, fun k hk => by rw [setRow_other w g k cs (by omega)]; exact h.block k hk⟩
theorem KAt.top {w : World} {s : KS} {n : Nat} (h : n = w.heap.size) : KAt (w.alloc (.cells s.cells 117)) n s := by subst h; exact KAt.new w s
end Go.Proofs.YtoobileejdhikaaGreat

namespace Go.Proofs.YtoobileejdhikaaGreat
set_option maxRecDepth 100000
set_option maxHeartbeats 1000000
open Go.RowKit

theorem hideK {p : Prop} (h : p) : Hid p := h

theorem set_any (s : KS) (r : Nat) (v : KV) (w : World) (hr : r < 9) :
  Calls Tryz.prog 149 #[.agg s.cells, .int .u8 r, .agg v.arr] w fun e w' => e = .returned (.agg (s.set r v).cells) ∧ Below w.heap.size w w' := by
 have hz := zeroK
 have i1 : (0 : Int) ≤ (r : Int) := by omega
 have i2 : (r : Int) < 9 := by omega
 have a0 : s.cells[2 + r * 6]? = some (.int .u8 (s.v r).kind) := s.at_v r 0 hr (by omega)
 have a1 : s.cells[2 + r * 6 + 1]? = some (.int .u64 (s.v r).nl) := s.at_v r 1 hr (by omega)
 have a2 : s.cells[2 + r * 6 + 2]? = some (.int .u64 (s.v r).nm) := s.at_v r 2 hr (by omega)
 have a3 : s.cells[2 + r * 6 + 3]? = some (.int .i64 (s.v r).pl) := s.at_v r 3 hr (by omega)
 have a4 : s.cells[2 + r * 6 + 4]? = some (.int .i64 (s.v r).pm) := s.at_v r 4 hr (by omega)
 have a5 : s.cells[2 + r * 6 + 5]? = some (.bool (s.v r).e) := s.at_v r 5 hr (by omega)
 unfold KV.arr
 go_enter Tryz.func149, Tryz.ntmps149
 go_wp2_with (first | refine wpK_load rfl _ rfl w.heap.size rfl (s.set r v) ?hK ?_ | refine wpK_store rfl _ _ rfl (w.heap.size + 1 + 1) rfl (s.set r v) rfl KS.zero ?hL ?_)
 case hK => with_reducible exact KAt.alloc (KAt.alloc (KAt.newPut w s r hr v) _) _
 case hL => exact KAt.top (by simp)
 exact bodyPost_ret (v := .agg (s.set r v).cells) (resK Tryz.results149 _ _ (w.heap.size + 1 + 1) (s.set r v) rfl (KAt.over (s := KS.zero) (KAt.top (by simp)) _)) rfl
  ⟨rfl, below_setRowK ((((Below.refl _ _).alloc (Nat.le_refl _) _).alloc (by simp) _).alloc (by simp; omega) _) (by omega) _⟩
end Go.Proofs.YtoobileejdhikaaGreat

namespace Go.Proofs.YtoobileejdhikaaGreat
set_option maxRecDepth 100000
set_option maxHeartbeats 1000000
open Go.RowKit

def thrown (er at1 : Int) : List PanicEntry := [{ v := .iface 67 (.agg #[.int .i64 er, .int .i64 at1]), recovered := false }]

theorem at_at1 (s : KS) : s.cells[1]? = some (.int .i64 s.at1) := by have := (KAt.new (default : World) s).at1; rwa [cell_of_row _ _ _ s.cells _ _ (KAt.new (default : World) s).row] at this
theorem at_reached (s : KS) : s.cells[0]? = some (.bool s.reached) := by have := (KAt.new (default : World) s).reached; rwa [cell_of_row _ _ _ s.cells _ _ (KAt.new (default : World) s).row] at this
theorem at_frame (s : KS) : s.cells[56]? = some (.int .i64 s.frame) := by have := (KAt.new (default : World) s).frame; rwa [cell_of_row _ _ _ s.cells _ _ (KAt.new (default : World) s).row] at this

theorem harm_any (s : KS) (w : World) :
  Calls Tryz.prog 185 #[.agg s.cells] w fun e w' => e = .returned (.agg #[.int .i64 3, .int .i64 s.at1]) ∧ Below w.heap.size w w' := by
 have h1 := at_at1 s
 go_enter Tryz.func185, Tryz.ntmps185
 go_wp2
 exact bodyPost_ret (v := .agg #[.int .i64 3, .int .i64 s.at1]) (by simp [results, Tryz.results185, go_sem]) rfl ⟨rfl, ((Below.refl _ _).alloc (Nat.le_refl _) _).alloc (by simp) _⟩

theorem read_ok (s : KS) (r : Nat) (w : World) (hr : r < 9) (hk : (s.v r).kind ≠ 0) :
  Calls Tryz.prog 150 #[.agg s.cells, .int .u8 r] w fun e w' => e = .returned (.agg (s.v r).arr) ∧ Below w.heap.size w w' := by
 have i1 : (0 : Int) ≤ (r : Int) := by omega
 have i2 : (r : Int) < 9 := by omega
 have a0 : s.cells[2 + r * 6]? = some (.int .u8 (s.v r).kind) := s.at_v r 0 hr (by omega)
 have a1 : s.cells[2 + r * 6 + 1]? = some (.int .u64 (s.v r).nl) := s.at_v r 1 hr (by omega)
 have a2 : s.cells[2 + r * 6 + 2]? = some (.int .u64 (s.v r).nm) := s.at_v r 2 hr (by omega)
 have a3 : s.cells[2 + r * 6 + 3]? = some (.int .i64 (s.v r).pl) := s.at_v r 3 hr (by omega)
 have a4 : s.cells[2 + r * 6 + 4]? = some (.int .i64 (s.v r).pm) := s.at_v r 4 hr (by omega)
 have a5 : s.cells[2 + r * 6 + 5]? = some (.bool (s.v r).e) := s.at_v r 5 hr (by omega)
 unfold KV.arr
 generalize s.v r = v at *
 have hk' : (v.kind == 0) = false := by simpa using hk
 go_enter Tryz.func150, Tryz.ntmps150
 go_wp2
 exact bodyPost_ret (v := .agg #[.int .u8 v.kind, .int .u64 v.nl, .int .u64 v.nm, .int .i64 v.pl, .int .i64 v.pm, .bool v.e]) (by simp [results, Tryz.results150, go_sem]) rfl ⟨rfl, (((Below.refl _ _).alloc (Nat.le_refl _) _).alloc (by simp) _).alloc (by simp; omega) _⟩

theorem read_no (s : KS) (r : Nat) (w : World) (hr : r < 9) (hk : (s.v r).kind = 0) :
  Calls Tryz.prog 150 #[.agg s.cells, .int .u8 r] w fun e w' => e = .panicked (thrown 3 s.at1) ∧ Below w.heap.size w w' := by
 have i1 : (0 : Int) ≤ (r : Int) := by omega
 have i2 : (r : Int) < 9 := by omega
 have a0 : s.cells[2 + r * 6]? = some (.int .u8 0) := by rw [← hk]; exact s.at_v r 0 hr (by omega)
 have a1 : s.cells[2 + r * 6 + 1]? = some (.int .u64 (s.v r).nl) := s.at_v r 1 hr (by omega)
 have a2 : s.cells[2 + r * 6 + 2]? = some (.int .u64 (s.v r).nm) := s.at_v r 2 hr (by omega)
 have a3 : s.cells[2 + r * 6 + 3]? = some (.int .i64 (s.v r).pl) := s.at_v r 3 hr (by omega)
 have a4 : s.cells[2 + r * 6 + 4]? = some (.int .i64 (s.v r).pm) := s.at_v r 4 hr (by omega)
 have a5 : s.cells[2 + r * 6 + 5]? = some (.bool (s.v r).e) := s.at_v r 5 hr (by omega)
 clear hk
 generalize s.v r = v at *
 go_enter Tryz.func150, Tryz.ntmps150
 go_wp2_with (first | refine wpK_load rfl _ rfl w.heap.size rfl s ?hK ?_ | (go_at_call 185; refine (harm_any s _).mono ?_; rintro e w1 ⟨rfl, hb1⟩))
 case hK => with_reducible exact KAt.alloc (KAt.alloc (KAt.new w s) _) _
 exact ⟨rfl, rfl, ((((Below.refl _ _).alloc (Nat.le_refl _) _).alloc (by simp) _).alloc (by simp; omega) _).trans (hb1.mono (by simp; omega))⟩
end Go.Proofs.YtoobileejdhikaaGreat

namespace Go.Proofs.YtoobileejdhikaaGreat
set_option maxHeartbeats 2000000
open Go.RowKit

abbrev spU (l m : Int) : Obj := .cells #[.int .u64 l, .int .u64 m] 110
abbrev spI (l m : Int) : Obj := .cells #[.int .i64 l, .int .i64 m] 112
theorem wrapU (n : Int) : IntKind.u64.wrap n = n % 18446744073709551616 := by
 simp only [IntKind.wrap, IntKind.bits, IntKind.signed, Bool.false_and, Bool.false_eq_true, if_false]
 rfl

theorem anyNumber_any (w : World) :
  Calls Tryz.prog 191 #[] w fun e w' => e = .returned (.agg #[.int .u64 0, .int .u64 18446744073709551615]) ∧ w' = w.alloc (spU 0 18446744073709551615) := by
 go_enter Tryz.func191, Tryz.ntmps191
 go_wp2
 exact bodyPost_ret (v := .agg #[.int .u64 0, .int .u64 18446744073709551615]) (by simp [results, Tryz.results191, go_sem]) rfl ⟨rfl, rfl⟩

theorem inOrder_yes (l m : Int) (w : World) :
  Calls Tryz.prog 159 #[.int .u64 l, .int .u64 m, .bool true] w fun e w' => e = .returned (.agg #[.int .u64 l, .int .u64 m]) ∧ w' = w.alloc (spU l m) := by
 go_enter Tryz.func159, Tryz.ntmps159
 go_wp2
 exact bodyPost_ret (v := .agg #[.int .u64 l, .int .u64 m]) (by simp [results, Tryz.results159, go_sem]) rfl ⟨rfl, rfl⟩

theorem inOrder_no (l m : Int) (w : World) :
  Calls Tryz.prog 159 #[.int .u64 l, .int .u64 m, .bool false] w fun e w' => e = .returned (.agg #[.int .u64 0, .int .u64 18446744073709551615]) ∧ w' = (w.alloc (spU 0 18446744073709551615)).alloc (spU 0 18446744073709551615) := by
 go_enter Tryz.func159, Tryz.ntmps159
 go_wp2_with (go_at_call 191; refine (anyNumber_any _).mono ?_; rintro e w1 ⟨rfl, rfl⟩)
 exact bodyPost_ret (v := .agg #[.int .u64 0, .int .u64 18446744073709551615]) (by simp [results, Tryz.results159, go_sem]) rfl ⟨rfl, rfl⟩

theorem spanOrU_any (a b c d : Int) (w : World) :
  Calls Tryz.prog 196 #[.agg #[.int .u64 a, .int .u64 b], .agg #[.int .u64 c, .int .u64 d]] w fun e w' => e = .returned (.agg #[.int .u64 (min a c), .int .u64 (max b d)]) ∧ w' = ((w.alloc (spU a b)).alloc (spU c d)).alloc (spU (min a c) (max b d)) := by
 go_enter Tryz.func196, Tryz.ntmps196
 go_wp2
 ·rw [show min a c = c from by omega, show max b d = d from by omega]; exact bodyPost_ret (v := .agg #[.int .u64 c, .int .u64 d]) (by simp [results, Tryz.results196, go_sem]) rfl ⟨rfl, rfl⟩
 ·rw [show min a c = c from by omega, show max b d = b from by omega]; exact bodyPost_ret (v := .agg #[.int .u64 c, .int .u64 b]) (by simp [results, Tryz.results196, go_sem]) rfl ⟨rfl, rfl⟩
 ·rw [show min a c = a from by omega, show max b d = d from by omega]; exact bodyPost_ret (v := .agg #[.int .u64 a, .int .u64 d]) (by simp [results, Tryz.results196, go_sem]) rfl ⟨rfl, rfl⟩
 ·rw [show min a c = a from by omega, show max b d = b from by omega]; exact bodyPost_ret (v := .agg #[.int .u64 a, .int .u64 b]) (by simp [results, Tryz.results196, go_sem]) rfl ⟨rfl, rfl⟩

theorem belowU_far (a b c d g : Int) (w : World) (_ha0 : 0 ≤ a) (_ha1 : a < 18446744073709551616) (_hb0 : 0 ≤ b) (_hb1 : b < 18446744073709551616) (_hc0 : 0 ≤ c) (_hc1 : c < 18446744073709551616) (_hd0 : 0 ≤ d) (_hd1 : d < 18446744073709551616) (_hg0 : 0 ≤ g) (_hg1 : g < 18446744073709551616) (h : d < a) :
  Calls Tryz.prog 194 #[.agg #[.int .u64 a, .int .u64 b], .agg #[.int .u64 c, .int .u64 d], .int .u64 g] w fun e w' => e = .returned (.tuple #[.agg #[.int .u64 a, .int .u64 b], .agg #[.int .u64 c, .int .u64 d], .bool false]) ∧ Below w.heap.size w w' := by
 have d1 : decide (d < a) = true := by simpa using h
 go_enter Tryz.func194, Tryz.ntmps194
 go_wp2
 go_region_held3 (fun w' => w'.cell? ⟨w.heap.size, 0, none⟩ = some (.int .u64 a) ∧ w'.cell? ⟨w.heap.size, 1, none⟩ = some (.int .u64 b) ∧ w'.cell? ⟨w.heap.size + 1, 0, none⟩ = some (.int .u64 c) ∧ w'.cell? ⟨w.heap.size + 1, 1, none⟩ = some (.int .u64 d)) (go_keep) (fail)
 all_goals go_wp2
 exact bodyPost_ret (v := .tuple #[.agg #[.int .u64 a, .int .u64 b], .agg #[.int .u64 c, .int .u64 d], .bool false]) (by simp [results, Tryz.results194, go_sem]) rfl ⟨rfl, (((((Below.refl _ _).alloc (Nat.le_refl _) _).alloc (by simp) _).alloc (by simp; omega) _).alloc (by simp; omega) _).drew⟩

theorem belowU_no (a b c d g : Int) (w : World) (_ha0 : 0 ≤ a) (_ha1 : a < 18446744073709551616) (_hb0 : 0 ≤ b) (_hb1 : b < 18446744073709551616) (_hc0 : 0 ≤ c) (_hc1 : c < 18446744073709551616) (_hd0 : 0 ≤ d) (_hd1 : d < 18446744073709551616) (_hg0 : 0 ≤ g) (_hg1 : g < 18446744073709551616) (h0 : a ≤ d) (h : d - a < g) :
  Calls Tryz.prog 194 #[.agg #[.int .u64 a, .int .u64 b], .agg #[.int .u64 c, .int .u64 d], .int .u64 g] w fun e w' => e = .returned (.tuple #[.agg #[.int .u64 a, .int .u64 b], .agg #[.int .u64 c, .int .u64 d], .bool false]) ∧ Below w.heap.size w w' := by
 have d1 : decide (d < a) = false := by simp; omega
 have q5100 : IntKind.u64.wrap (d - a) = d - a := by rw [wrapU]; omega
 have d2 : decide (d - a < g) = true := by simpa using h
 go_enter Tryz.func194, Tryz.ntmps194
 go_wp2
 go_region_held3 (fun w' => w'.cell? ⟨w.heap.size, 0, none⟩ = some (.int .u64 a) ∧ w'.cell? ⟨w.heap.size, 1, none⟩ = some (.int .u64 b) ∧ w'.cell? ⟨w.heap.size + 1, 0, none⟩ = some (.int .u64 c) ∧ w'.cell? ⟨w.heap.size + 1, 1, none⟩ = some (.int .u64 d)) (go_keep) (fail)
 all_goals go_wp2
 exact bodyPost_ret (v := .tuple #[.agg #[.int .u64 a, .int .u64 b], .agg #[.int .u64 c, .int .u64 d], .bool false]) (by simp [results, Tryz.results194, go_sem]) rfl ⟨rfl, (((((Below.refl _ _).alloc (Nat.le_refl _) _).alloc (by simp) _).alloc (by simp; omega) _).alloc (by simp; omega) _).drew⟩

theorem belowU_yes (a b c d g : Int) (w : World) (_ha0 : 0 ≤ a) (_ha1 : a < 18446744073709551616) (_hb0 : 0 ≤ b) (_hb1 : b < 18446744073709551616) (_hc0 : 0 ≤ c) (_hc1 : c < 18446744073709551616) (_hd0 : 0 ≤ d) (_hd1 : d < 18446744073709551616) (_hg0 : 0 ≤ g) (_hg1 : g < 18446744073709551616) (h0 : a ≤ d) (h : g ≤ d - a) :
  Calls Tryz.prog 194 #[.agg #[.int .u64 a, .int .u64 b], .agg #[.int .u64 c, .int .u64 d], .int .u64 g] w fun e w' => e = .returned (.tuple #[.agg #[.int .u64 a, .int .u64 (min b (d - g))], .agg #[.int .u64 (max c (a + g)), .int .u64 d], .bool true]) ∧ Below w.heap.size w w' := by
 have d1 : decide (d < a) = false := by simp; omega
 have q5100 : IntKind.u64.wrap (d - a) = d - a := by rw [wrapU]; omega
 have q5100 : IntKind.u64.wrap (d - g) = d - g := by rw [wrapU]; omega
 have q597 : IntKind.u64.wrap (a + g) = a + g := by rw [wrapU]; omega
 have d2 : decide (d - a < g) = false := by simp; omega
 have bel : ∀ A B C D : Obj, Below w.heap.size w ((((w.alloc A).alloc B).alloc C).alloc D).drew := fun _ _ _ _ => (((((Below.refl _ _).alloc (Nat.le_refl _) _).alloc (by simp) _).alloc (by simp; omega) _).alloc (by simp; omega) _).drew
 obtain ⟨x, hx⟩ : ∃ x, x = min b (d - g) := ⟨_, rfl⟩
 obtain ⟨y, hy⟩ : ∃ y, y = max c (a + g) := ⟨_, rfl⟩
 rw [← hx, ← hy]
 have HX := hideK hx
 have HY := hideK hy
 clear hx hy
 go_enter Tryz.func194, Tryz.ntmps194
 go_wp2
 ·obtain rfl : d - g = x := by have := HX.out; omega
  obtain rfl : a + g = y := by have := HY.out; omega
  go_region_held3 (fun w' => w'.cell? ⟨w.heap.size, 0, none⟩ = some (.int .u64 a) ∧ w'.cell? ⟨w.heap.size, 1, none⟩ = some (.int .u64 (d - g)) ∧ w'.cell? ⟨w.heap.size + 1, 0, none⟩ = some (.int .u64 (a + g)) ∧ w'.cell? ⟨w.heap.size + 1, 1, none⟩ = some (.int .u64 d)) (go_keep) (fail)
  all_goals go_wp2
  exact bodyPost_ret (v := .tuple #[.agg #[.int .u64 a, .int .u64 (d - g)], .agg #[.int .u64 (a + g), .int .u64 d], .bool true]) (by simp [results, Tryz.results194, go_sem]) rfl ⟨rfl, bel _ _ _ _⟩
 ·obtain rfl : d - g = x := by have := HX.out; omega
  obtain rfl : c = y := by have := HY.out; omega
  go_region_held3 (fun w' => w'.cell? ⟨w.heap.size, 0, none⟩ = some (.int .u64 a) ∧ w'.cell? ⟨w.heap.size, 1, none⟩ = some (.int .u64 (d - g)) ∧ w'.cell? ⟨w.heap.size + 1, 0, none⟩ = some (.int .u64 (c)) ∧ w'.cell? ⟨w.heap.size + 1, 1, none⟩ = some (.int .u64 d)) (go_keep) (fail)
  all_goals go_wp2
  exact bodyPost_ret (v := .tuple #[.agg #[.int .u64 a, .int .u64 (d - g)], .agg #[.int .u64 (c), .int .u64 d], .bool true]) (by simp [results, Tryz.results194, go_sem]) rfl ⟨rfl, bel _ _ _ _⟩
 ·obtain rfl : b = x := by have := HX.out; omega
  obtain rfl : a + g = y := by have := HY.out; omega
  go_region_held3 (fun w' => w'.cell? ⟨w.heap.size, 0, none⟩ = some (.int .u64 a) ∧ w'.cell? ⟨w.heap.size, 1, none⟩ = some (.int .u64 (b)) ∧ w'.cell? ⟨w.heap.size + 1, 0, none⟩ = some (.int .u64 (a + g)) ∧ w'.cell? ⟨w.heap.size + 1, 1, none⟩ = some (.int .u64 d)) (go_keep) (fail)
  all_goals go_wp2
  exact bodyPost_ret (v := .tuple #[.agg #[.int .u64 a, .int .u64 (b)], .agg #[.int .u64 (a + g), .int .u64 d], .bool true]) (by simp [results, Tryz.results194, go_sem]) rfl ⟨rfl, bel _ _ _ _⟩
 ·obtain rfl : b = x := by have := HX.out; omega
  obtain rfl : c = y := by have := HY.out; omega
  go_region_held3 (fun w' => w'.cell? ⟨w.heap.size, 0, none⟩ = some (.int .u64 a) ∧ w'.cell? ⟨w.heap.size, 1, none⟩ = some (.int .u64 (b)) ∧ w'.cell? ⟨w.heap.size + 1, 0, none⟩ = some (.int .u64 (c)) ∧ w'.cell? ⟨w.heap.size + 1, 1, none⟩ = some (.int .u64 d)) (go_keep) (fail)
  all_goals go_wp2
  exact bodyPost_ret (v := .tuple #[.agg #[.int .u64 a, .int .u64 (b)], .agg #[.int .u64 (c), .int .u64 d], .bool true]) (by simp [results, Tryz.results194, go_sem]) rfl ⟨rfl, bel _ _ _ _⟩

theorem spanOrI_any (a b c d : Int) (w : World) :
  Calls Tryz.prog 197 #[.agg #[.int .i64 a, .int .i64 b], .agg #[.int .i64 c, .int .i64 d]] w fun e w' => e = .returned (.agg #[.int .i64 (min a c), .int .i64 (max b d)]) ∧ w' = ((w.alloc (spI a b)).alloc (spI c d)).alloc (spI (min a c) (max b d)) := by
 go_enter Tryz.func197, Tryz.ntmps197
 go_wp2
 ·rw [show min a c = c from by omega, show max b d = d from by omega]; exact bodyPost_ret (v := .agg #[.int .i64 c, .int .i64 d]) (by simp [results, Tryz.results197, go_sem]) rfl ⟨rfl, rfl⟩
 ·rw [show min a c = c from by omega, show max b d = b from by omega]; exact bodyPost_ret (v := .agg #[.int .i64 c, .int .i64 b]) (by simp [results, Tryz.results197, go_sem]) rfl ⟨rfl, rfl⟩
 ·rw [show min a c = a from by omega, show max b d = d from by omega]; exact bodyPost_ret (v := .agg #[.int .i64 a, .int .i64 d]) (by simp [results, Tryz.results197, go_sem]) rfl ⟨rfl, rfl⟩
 ·rw [show min a c = a from by omega, show max b d = b from by omega]; exact bodyPost_ret (v := .agg #[.int .i64 a, .int .i64 b]) (by simp [results, Tryz.results197, go_sem]) rfl ⟨rfl, rfl⟩

theorem belowI_far (a b c d g : Int) (w : World) (_ha0 : -100000 ≤ a) (_ha1 : a ≤ 100000) (_hb0 : -100000 ≤ b) (_hb1 : b ≤ 100000) (_hc0 : -100000 ≤ c) (_hc1 : c ≤ 100000) (_hd0 : -100000 ≤ d) (_hd1 : d ≤ 100000) (_hg0 : -100000 ≤ g) (_hg1 : g ≤ 100000) (h : d < a) :
  Calls Tryz.prog 195 #[.agg #[.int .i64 a, .int .i64 b], .agg #[.int .i64 c, .int .i64 d], .int .i64 g] w fun e w' => e = .returned (.tuple #[.agg #[.int .i64 a, .int .i64 b], .agg #[.int .i64 c, .int .i64 d], .bool false]) ∧ Below w.heap.size w w' := by
 have d1 : decide (d < a) = true := by simpa using h
 go_enter Tryz.func195, Tryz.ntmps195
 go_wp2
 go_region_held3 (fun w' => w'.cell? ⟨w.heap.size, 0, none⟩ = some (.int .i64 a) ∧ w'.cell? ⟨w.heap.size, 1, none⟩ = some (.int .i64 b) ∧ w'.cell? ⟨w.heap.size + 1, 0, none⟩ = some (.int .i64 c) ∧ w'.cell? ⟨w.heap.size + 1, 1, none⟩ = some (.int .i64 d)) (go_keep) (fail)
 all_goals go_wp2
 exact bodyPost_ret (v := .tuple #[.agg #[.int .i64 a, .int .i64 b], .agg #[.int .i64 c, .int .i64 d], .bool false]) (by simp [results, Tryz.results195, go_sem]) rfl ⟨rfl, (((((Below.refl _ _).alloc (Nat.le_refl _) _).alloc (by simp) _).alloc (by simp; omega) _).alloc (by simp; omega) _).drew⟩

theorem belowI_no (a b c d g : Int) (w : World) (_ha0 : -100000 ≤ a) (_ha1 : a ≤ 100000) (_hb0 : -100000 ≤ b) (_hb1 : b ≤ 100000) (_hc0 : -100000 ≤ c) (_hc1 : c ≤ 100000) (_hd0 : -100000 ≤ d) (_hd1 : d ≤ 100000) (_hg0 : -100000 ≤ g) (_hg1 : g ≤ 100000) (h0 : a ≤ d) (h : d - a < g) :
  Calls Tryz.prog 195 #[.agg #[.int .i64 a, .int .i64 b], .agg #[.int .i64 c, .int .i64 d], .int .i64 g] w fun e w' => e = .returned (.tuple #[.agg #[.int .i64 a, .int .i64 b], .agg #[.int .i64 c, .int .i64 d], .bool false]) ∧ Below w.heap.size w w' := by
 have d1 : decide (d < a) = false := by simp; omega
 have d2 : decide (d - a < g) = true := by simpa using h
 go_enter Tryz.func195, Tryz.ntmps195
 go_wp2
 go_region_held3 (fun w' => w'.cell? ⟨w.heap.size, 0, none⟩ = some (.int .i64 a) ∧ w'.cell? ⟨w.heap.size, 1, none⟩ = some (.int .i64 b) ∧ w'.cell? ⟨w.heap.size + 1, 0, none⟩ = some (.int .i64 c) ∧ w'.cell? ⟨w.heap.size + 1, 1, none⟩ = some (.int .i64 d)) (go_keep) (fail)
 all_goals go_wp2
 exact bodyPost_ret (v := .tuple #[.agg #[.int .i64 a, .int .i64 b], .agg #[.int .i64 c, .int .i64 d], .bool false]) (by simp [results, Tryz.results195, go_sem]) rfl ⟨rfl, (((((Below.refl _ _).alloc (Nat.le_refl _) _).alloc (by simp) _).alloc (by simp; omega) _).alloc (by simp; omega) _).drew⟩

theorem belowI_yes (a b c d g : Int) (w : World) (_ha0 : -100000 ≤ a) (_ha1 : a ≤ 100000) (_hb0 : -100000 ≤ b) (_hb1 : b ≤ 100000) (_hc0 : -100000 ≤ c) (_hc1 : c ≤ 100000) (_hd0 : -100000 ≤ d) (_hd1 : d ≤ 100000) (_hg0 : -100000 ≤ g) (_hg1 : g ≤ 100000) (h0 : a ≤ d) (h : g ≤ d - a) (_hg : 0 ≤ g) :
  Calls Tryz.prog 195 #[.agg #[.int .i64 a, .int .i64 b], .agg #[.int .i64 c, .int .i64 d], .int .i64 g] w fun e w' => e = .returned (.tuple #[.agg #[.int .i64 a, .int .i64 (min b (d - g))], .agg #[.int .i64 (max c (a + g)), .int .i64 d], .bool true]) ∧ Below w.heap.size w w' := by
 have d1 : decide (d < a) = false := by simp; omega
 have d2 : decide (d - a < g) = false := by simp; omega
 have bel : ∀ A B C D : Obj, Below w.heap.size w ((((w.alloc A).alloc B).alloc C).alloc D).drew := fun _ _ _ _ => (((((Below.refl _ _).alloc (Nat.le_refl _) _).alloc (by simp) _).alloc (by simp; omega) _).alloc (by simp; omega) _).drew
 obtain ⟨x, hx⟩ : ∃ x, x = min b (d - g) := ⟨_, rfl⟩
 obtain ⟨y, hy⟩ : ∃ y, y = max c (a + g) := ⟨_, rfl⟩
 rw [← hx, ← hy]
 have HX := hideK hx
 have HY := hideK hy
 clear hx hy
 go_enter Tryz.func195, Tryz.ntmps195
 go_wp2
 ·obtain rfl : d - g = x := by have := HX.out; omega
  obtain rfl : a + g = y := by have := HY.out; omega
  go_region_held3 (fun w' => w'.cell? ⟨w.heap.size, 0, none⟩ = some (.int .i64 a) ∧ w'.cell? ⟨w.heap.size, 1, none⟩ = some (.int .i64 (d - g)) ∧ w'.cell? ⟨w.heap.size + 1, 0, none⟩ = some (.int .i64 (a + g)) ∧ w'.cell? ⟨w.heap.size + 1, 1, none⟩ = some (.int .i64 d)) (go_keep) (fail)
  all_goals go_wp2
  exact bodyPost_ret (v := .tuple #[.agg #[.int .i64 a, .int .i64 (d - g)], .agg #[.int .i64 (a + g), .int .i64 d], .bool true]) (by simp [results, Tryz.results195, go_sem]) rfl ⟨rfl, bel _ _ _ _⟩
 ·obtain rfl : d - g = x := by have := HX.out; omega
  obtain rfl : c = y := by have := HY.out; omega
  go_region_held3 (fun w' => w'.cell? ⟨w.heap.size, 0, none⟩ = some (.int .i64 a) ∧ w'.cell? ⟨w.heap.size, 1, none⟩ = some (.int .i64 (d - g)) ∧ w'.cell? ⟨w.heap.size + 1, 0, none⟩ = some (.int .i64 (c)) ∧ w'.cell? ⟨w.heap.size + 1, 1, none⟩ = some (.int .i64 d)) (go_keep) (fail)
  all_goals go_wp2
  exact bodyPost_ret (v := .tuple #[.agg #[.int .i64 a, .int .i64 (d - g)], .agg #[.int .i64 (c), .int .i64 d], .bool true]) (by simp [results, Tryz.results195, go_sem]) rfl ⟨rfl, bel _ _ _ _⟩
 ·obtain rfl : b = x := by have := HX.out; omega
  obtain rfl : a + g = y := by have := HY.out; omega
  go_region_held3 (fun w' => w'.cell? ⟨w.heap.size, 0, none⟩ = some (.int .i64 a) ∧ w'.cell? ⟨w.heap.size, 1, none⟩ = some (.int .i64 (b)) ∧ w'.cell? ⟨w.heap.size + 1, 0, none⟩ = some (.int .i64 (a + g)) ∧ w'.cell? ⟨w.heap.size + 1, 1, none⟩ = some (.int .i64 d)) (go_keep) (fail)
  all_goals go_wp2
  exact bodyPost_ret (v := .tuple #[.agg #[.int .i64 a, .int .i64 (b)], .agg #[.int .i64 (a + g), .int .i64 d], .bool true]) (by simp [results, Tryz.results195, go_sem]) rfl ⟨rfl, bel _ _ _ _⟩
 ·obtain rfl : b = x := by have := HX.out; omega
  obtain rfl : c = y := by have := HY.out; omega
  go_region_held3 (fun w' => w'.cell? ⟨w.heap.size, 0, none⟩ = some (.int .i64 a) ∧ w'.cell? ⟨w.heap.size, 1, none⟩ = some (.int .i64 (b)) ∧ w'.cell? ⟨w.heap.size + 1, 0, none⟩ = some (.int .i64 (c)) ∧ w'.cell? ⟨w.heap.size + 1, 1, none⟩ = some (.int .i64 d)) (go_keep) (fail)
  all_goals go_wp2
  exact bodyPost_ret (v := .tuple #[.agg #[.int .i64 a, .int .i64 (b)], .agg #[.int .i64 (c), .int .i64 d], .bool true]) (by simp [results, Tryz.results195, go_sem]) rfl ⟨rfl, bel _ _ _ _⟩

end Go.Proofs.YtoobileejdhikaaGreat
