/-
  The program's table of operations.
-/
import Derived.Test.YtmnilbfikenadaaLeaf
import Derived.Laws.Tables
namespace Go.Proofs.Ytmnilbfikenadaa
open Go.RowKit

def zeros76 : Array Value := Array.replicate 256 .nilFunc
theorem zero76 (w : World) : Sem.run Try.prog (zeroValue 76) w = .ok (.agg zeros76) w := by kernel_rfl

def btw (a i b : Nat) : Bool := Nat.ble a i && Nat.ble i b
/-- Which function stands for the operation i (0: none). -/
def opF (i : Nat) : Nat :=
  if btw 1 i 11 then 40 else if btw 129 i 139 then 41 else if btw 20 i 23 then 42 else if btw 24 i 27 then 43 else if btw 30 i 30 then 44
  else if btw 31 i 36 then 45 else if btw 159 i 164 then 46 else if btw 40 i 40 then 47 else if btw 41 i 41 then 48 else 0
def fnV (k : Nat) : Value := if Nat.beq k 0 then .nilFunc else .func (.func k) #[] #[]
def tabA : Array Value := ((List.range 256).map fun i => fnV (opF i)).toArray

theorem tabA_at (i : Nat) (h : i < 256) : tabA[i]? = some (fnV (opF i)) := by
  simp [tabA, h]

theorem wpList_build_as {P : Program} {ops : Array Oper} {rest : List Oper} {o : Oper} {a : Act} {w : World} {Q : Exit → Act → World → Prop} (hg : o.guard = none) (t : TypeId) (parts : Array (Nat × Operand)) (ho : o.op = .build t parts)
    (cells : Array Value) (hf : P.built t (parts.map fun (i, x) => (i, a.eval x)).toList = some cells)
    (h : wpList P ops Q rest (a.put o.dst (.agg cells)) w) : wpList P ops Q (o :: rest) a w :=
  wpList_build hg t parts ho (by rw [hf]; rfl) (by rw [hf]; exact h)

theorem below_setRow {B : Nat} {a w : World} (h : Below B a w) {g : Nat} (hg : B ≤ g) (cs : Array Value) : Below B a (w.setRow g cs) :=
  ⟨by rw [World.setRow]; exact h.os, by rw [World.setRow]; exact h.tape, by rw [World.setRow]; exact h.output, by have := h.size; simp [World.setRow]; omega, fun k hk => by rw [setRow_other w g k cs (by omega)]; exact h.block k hk⟩

set_option maxRecDepth 100000 in
set_option maxHeartbeats 1000000 in
theorem table_any (w : World) :
    Calls Try.prog 29 #[] w fun e w' => e = .returned (.agg tabA) ∧ Below w.heap.size w w' := by
  have hz := zero76
  go_enter Try.func29, Try.ntmps29
  go_wp2_with (first | (refine wpList_build_as rfl 76 _ rfl tabA (by kernel_rfl) ?_) | (refine wpList_store_row rfl 76 _ _ rfl w.heap.size tabA rfl rfl 76 zeros76 (heap_alloc_new w _) (by kernel_rfl) (by kernel_rfl) (by kernel_rfl) ?_))
  exact bodyPost_ret (v := .agg tabA) (results_cell_row Try.results29 _ _ w.heap.size 76 tabA (0, 0) _ rfl (setRow_heap _ _ zeros76 tabA 76 (0, 0) (heap_alloc_new w _)) Try.underlying76 rfl (by kernel_rfl)) rfl
    ⟨rfl, below_setRow ((Below.refl _ _).alloc (Nat.le_refl _) _) (Nat.le_refl _) _⟩
end Go.Proofs.Ytmnilbfikenadaa
