/-
  The program's table of operations, with the boxes of its function literals.
-/
import Derived.Test.YtoobileejdhikaaGreatGb4
import Derived.Test.YtoobileejdhikaaGreatGb5
import Derived.Laws.Tables
namespace Go.Proofs.YtoobileejdhikaaGreat
set_option maxRecDepth 100000
set_option maxHeartbeats 8000000
open Go.RowKit

def zeros768 : Array Value := Array.replicate 768 .nilFunc
theorem zeroT (w : World) : Sem.run Tryz.prog (zeroValue 105) w = .ok (.agg zeros768) w := by kernel_rfl
def boxV (k : Nat) : Value := [.func (.func 85) #[] #[], .func (.func 87) #[] #[], .func (.func 89) #[] #[], .func (.func 90) #[] #[], .func (.func 91) #[] #[], .func (.func 92) #[] #[], .func (.func 93) #[] #[], .func (.func 94) #[] #[], .func (.func 95) #[] #[], .func (.func 96) #[] #[], .func (.func 97) #[] #[], .func (.func 98) #[] #[], .func (.func 99) #[] #[], .func (.func 100) #[] #[], .func (.func 101) #[] #[], .func (.func 102) #[] #[], .func (.func 103) #[] #[], .func (.func 104) #[] #[], .func (.func 85) #[] #[], .func (.func 87) #[] #[], .func (.func 89) #[] #[], .func (.func 90) #[] #[], .func (.func 91) #[] #[], .func (.func 92) #[] #[], .func (.func 93) #[] #[], .func (.func 94) #[] #[], .func (.func 95) #[] #[], .func (.func 96) #[] #[], .func (.func 97) #[] #[], .func (.func 98) #[] #[], .func (.func 99) #[] #[], .func (.func 100) #[] #[], .func (.func 101) #[] #[], .func (.func 102) #[] #[], .func (.func 103) #[] #[], .func (.func 104) #[] #[], .int .i64 1, .int .i64 1, .int .i64 2, .int .i64 2, .int .i64 4, .int .i64 4, .int .i64 8, .int .i64 8, .int .i64 1, .int .i64 1, .int .i64 2, .int .i64 2, .int .i64 4, .int .i64 4, .int .i64 8, .int .i64 8, .func (.func 118) #[] #[], .func (.func 117) #[] #[], .func (.func 120) #[] #[], .func (.func 117) #[] #[], .func (.func 118) #[] #[], .func (.func 121) #[] #[], .func (.func 123) #[] #[], .func (.func 122) #[] #[], .func (.func 124) #[] #[], .func (.func 126) #[] #[], .func (.func 125) #[] #[], .func (.func 127) #[] #[], .func (.func 125) #[] #[], .func (.func 126) #[] #[], .func (.func 128) #[] #[], .func (.func 122) #[] #[], .func (.func 123) #[] #[], .func (.func 129) #[] #[], .func (.func 118) #[] #[], .func (.func 117) #[] #[], .func (.func 120) #[] #[], .func (.func 117) #[] #[], .func (.func 118) #[] #[], .func (.func 121) #[] #[], .func (.func 123) #[] #[], .func (.func 122) #[] #[], .func (.func 124) #[] #[], .func (.func 126) #[] #[], .func (.func 125) #[] #[], .func (.func 127) #[] #[], .func (.func 125) #[] #[], .func (.func 126) #[] #[], .func (.func 128) #[] #[], .func (.func 122) #[] #[], .func (.func 123) #[] #[], .func (.func 129) #[] #[]].getD k .nilFunc
def ptr (n : Nat) : Value := .pointer (some ⟨n, 0, none⟩)
def fitAt : Nat → Value
 | 1 => .func (.func 80) #[] #[]
 | 2 => .func (.func 80) #[] #[]
 | 3 => .func (.func 80) #[] #[]
 | 4 => .func (.func 80) #[] #[]
 | 5 => .func (.func 80) #[] #[]
 | 6 => .func (.func 80) #[] #[]
 | 7 => .func (.func 80) #[] #[]
 | 8 => .func (.func 80) #[] #[]
 | 9 => .func (.func 80) #[] #[]
 | 10 => .func (.func 80) #[] #[]
 | 11 => .func (.func 80) #[] #[]
 | 20 => .func (.func 106) #[] #[]
 | 21 => .func (.func 106) #[] #[]
 | 22 => .func (.func 106) #[] #[]
 | 23 => .func (.func 106) #[] #[]
 | 24 => .func (.func 109) #[] #[]
 | 25 => .func (.func 109) #[] #[]
 | 26 => .func (.func 109) #[] #[]
 | 27 => .func (.func 109) #[] #[]
 | 30 => .func (.func 112) #[] #[]
 | 31 => .func (.func 115) #[] #[]
 | 32 => .func (.func 115) #[] #[]
 | 33 => .func (.func 115) #[] #[]
 | 34 => .func (.func 115) #[] #[]
 | 35 => .func (.func 115) #[] #[]
 | 36 => .func (.func 115) #[] #[]
 | 40 => .func (.func 131) #[] #[]
 | 41 => .func (.func 134) #[] #[]
 | 129 => .func (.func 105) #[] #[]
 | 130 => .func (.func 105) #[] #[]
 | 131 => .func (.func 105) #[] #[]
 | 132 => .func (.func 105) #[] #[]
 | 133 => .func (.func 105) #[] #[]
 | 134 => .func (.func 105) #[] #[]
 | 135 => .func (.func 105) #[] #[]
 | 136 => .func (.func 105) #[] #[]
 | 137 => .func (.func 105) #[] #[]
 | 138 => .func (.func 105) #[] #[]
 | 139 => .func (.func 105) #[] #[]
 | 159 => .func (.func 130) #[] #[]
 | 160 => .func (.func 130) #[] #[]
 | 161 => .func (.func 130) #[] #[]
 | 162 => .func (.func 130) #[] #[]
 | 163 => .func (.func 130) #[] #[]
 | 164 => .func (.func 130) #[] #[]
 | _ => .nilFunc
def lookAt (p : Nat → Nat) : Nat → Value
 | 1 => .func (.func 81) #[] #[]
 | 2 => .func (.func 83) #[] #[]
 | 3 => .func (.func 86) #[] #[]
 | 4 => .func (.func 156) #[] #[ptr (p 2)]
 | 5 => .func (.func 156) #[] #[ptr (p 4)]
 | 6 => .func (.func 156) #[] #[ptr (p 6)]
 | 7 => .func (.func 156) #[] #[ptr (p 8)]
 | 8 => .func (.func 156) #[] #[ptr (p 10)]
 | 9 => .func (.func 156) #[] #[ptr (p 12)]
 | 10 => .func (.func 156) #[] #[ptr (p 14)]
 | 11 => .func (.func 156) #[] #[ptr (p 16)]
 | 20 => .func (.func 161) #[] #[ptr (p 36)]
 | 21 => .func (.func 161) #[] #[ptr (p 38)]
 | 22 => .func (.func 161) #[] #[ptr (p 40)]
 | 23 => .func (.func 161) #[] #[ptr (p 42)]
 | 24 => .func (.func 166) #[] #[ptr (p 44)]
 | 25 => .func (.func 166) #[] #[ptr (p 46)]
 | 26 => .func (.func 166) #[] #[ptr (p 48)]
 | 27 => .func (.func 166) #[] #[ptr (p 50)]
 | 30 => .func (.func 113) #[] #[]
 | 31 => .func (.func 170) #[] #[ptr (p 52), ptr (p 53)]
 | 32 => .func (.func 170) #[] #[ptr (p 55), ptr (p 56)]
 | 33 => .func (.func 170) #[] #[ptr (p 58), ptr (p 59)]
 | 34 => .func (.func 170) #[] #[ptr (p 61), ptr (p 62)]
 | 35 => .func (.func 170) #[] #[ptr (p 64), ptr (p 65)]
 | 36 => .func (.func 170) #[] #[ptr (p 67), ptr (p 68)]
 | 40 => .func (.func 132) #[] #[]
 | 41 => .func (.func 135) #[] #[]
 | 129 => .func (.func 81) #[] #[]
 | 130 => .func (.func 83) #[] #[]
 | 131 => .func (.func 86) #[] #[]
 | 132 => .func (.func 156) #[] #[ptr (p 20)]
 | 133 => .func (.func 156) #[] #[ptr (p 22)]
 | 134 => .func (.func 156) #[] #[ptr (p 24)]
 | 135 => .func (.func 156) #[] #[ptr (p 26)]
 | 136 => .func (.func 156) #[] #[ptr (p 28)]
 | 137 => .func (.func 156) #[] #[ptr (p 30)]
 | 138 => .func (.func 156) #[] #[ptr (p 32)]
 | 139 => .func (.func 156) #[] #[ptr (p 34)]
 | 159 => .func (.func 170) #[] #[ptr (p 70), ptr (p 71)]
 | 160 => .func (.func 170) #[] #[ptr (p 73), ptr (p 74)]
 | 161 => .func (.func 170) #[] #[ptr (p 76), ptr (p 77)]
 | 162 => .func (.func 170) #[] #[ptr (p 79), ptr (p 80)]
 | 163 => .func (.func 170) #[] #[ptr (p 82), ptr (p 83)]
 | 164 => .func (.func 170) #[] #[ptr (p 85), ptr (p 86)]
 | _ => .nilFunc
def doAt (p : Nat → Nat) : Nat → Value
 | 1 => .func (.func 82) #[] #[]
 | 2 => .func (.func 154) #[] #[ptr (p 0)]
 | 3 => .func (.func 154) #[] #[ptr (p 1)]
 | 4 => .func (.func 154) #[] #[ptr (p 3)]
 | 5 => .func (.func 154) #[] #[ptr (p 5)]
 | 6 => .func (.func 154) #[] #[ptr (p 7)]
 | 7 => .func (.func 154) #[] #[ptr (p 9)]
 | 8 => .func (.func 154) #[] #[ptr (p 11)]
 | 9 => .func (.func 154) #[] #[ptr (p 13)]
 | 10 => .func (.func 154) #[] #[ptr (p 15)]
 | 11 => .func (.func 154) #[] #[ptr (p 17)]
 | 20 => .func (.func 164) #[] #[ptr (p 37)]
 | 21 => .func (.func 164) #[] #[ptr (p 39)]
 | 22 => .func (.func 164) #[] #[ptr (p 41)]
 | 23 => .func (.func 164) #[] #[ptr (p 43)]
 | 24 => .func (.func 167) #[] #[ptr (p 45)]
 | 25 => .func (.func 167) #[] #[ptr (p 47)]
 | 26 => .func (.func 167) #[] #[ptr (p 49)]
 | 27 => .func (.func 167) #[] #[ptr (p 51)]
 | 30 => .func (.func 114) #[] #[]
 | 31 => .func (.func 172) #[] #[ptr (p 54)]
 | 32 => .func (.func 172) #[] #[ptr (p 57)]
 | 33 => .func (.func 172) #[] #[ptr (p 60)]
 | 34 => .func (.func 172) #[] #[ptr (p 63)]
 | 35 => .func (.func 172) #[] #[ptr (p 66)]
 | 36 => .func (.func 172) #[] #[ptr (p 69)]
 | 40 => .func (.func 133) #[] #[]
 | 41 => .func (.func 136) #[] #[]
 | 129 => .func (.func 82) #[] #[]
 | 130 => .func (.func 154) #[] #[ptr (p 18)]
 | 131 => .func (.func 154) #[] #[ptr (p 19)]
 | 132 => .func (.func 154) #[] #[ptr (p 21)]
 | 133 => .func (.func 154) #[] #[ptr (p 23)]
 | 134 => .func (.func 154) #[] #[ptr (p 25)]
 | 135 => .func (.func 154) #[] #[ptr (p 27)]
 | 136 => .func (.func 154) #[] #[ptr (p 29)]
 | 137 => .func (.func 154) #[] #[ptr (p 31)]
 | 138 => .func (.func 154) #[] #[ptr (p 33)]
 | 139 => .func (.func 154) #[] #[ptr (p 35)]
 | 159 => .func (.func 172) #[] #[ptr (p 72)]
 | 160 => .func (.func 172) #[] #[ptr (p 75)]
 | 161 => .func (.func 172) #[] #[ptr (p 78)]
 | 162 => .func (.func 172) #[] #[ptr (p 81)]
 | 163 => .func (.func 172) #[] #[ptr (p 84)]
 | 164 => .func (.func 172) #[] #[ptr (p 87)]
 | _ => .nilFunc
def tabRows (p : Nat → Nat) : Nat → Nat → List Value
 | 0, _ => []
 | n + 1, i => fitAt i :: lookAt p i :: doAt p i :: tabRows p n (i + 1)
def tabP (p : Nat → Nat) : Array Value := (tabRows p 256 0).toArray

theorem mk_lookNumbers (F : Nat) (w : World) :
  Calls Tryz.prog 88 #[.func (.func F) #[] #[]] w fun e w' => ∃ P : Nat, e = .returned (.func (.func 156) #[] #[ptr P]) ∧ w'.cell? ⟨P, 0, none⟩ = some (.func (.func F) #[] #[]) ∧ w.heap.size ≤ P ∧ Below w.heap.size w w' := by
 have hmf : ∀ (fn : Fn) (first cap : Array Value) (w : World), (Instr.makeFunc fn first cap).run Tryz.prog w = .ok (.func fn first cap) w := fun _ _ _ _ => rfl
 go_enter Tryz.func88, Tryz.ntmps88
 go_wp2
 go_ret
 exact ⟨w.heap.size, rfl, by simp [go_sem], Nat.le_refl _, (Below.refl _ _).alloc (Nat.le_refl _) _⟩

theorem mk_lookLoad (z : Int) (w : World) :
  Calls Tryz.prog 107 #[.int .i64 z] w fun e w' => ∃ P : Nat, e = .returned (.func (.func 161) #[] #[ptr P]) ∧ w'.cell? ⟨P, 0, none⟩ = some (.int .i64 z) ∧ w.heap.size ≤ P ∧ Below w.heap.size w w' := by
 have hmf : ∀ (fn : Fn) (first cap : Array Value) (w : World), (Instr.makeFunc fn first cap).run Tryz.prog w = .ok (.func fn first cap) w := fun _ _ _ _ => rfl
 go_enter Tryz.func107, Tryz.ntmps107
 go_wp2
 go_ret
 exact ⟨w.heap.size, rfl, by simp [go_sem], Nat.le_refl _, (Below.refl _ _).alloc (Nat.le_refl _) _⟩

theorem mk_lookStore (z : Int) (w : World) :
  Calls Tryz.prog 110 #[.int .i64 z] w fun e w' => ∃ P : Nat, e = .returned (.func (.func 166) #[] #[ptr P]) ∧ w'.cell? ⟨P, 0, none⟩ = some (.int .i64 z) ∧ w.heap.size ≤ P ∧ Below w.heap.size w w' := by
 have hmf : ∀ (fn : Fn) (first cap : Array Value) (w : World), (Instr.makeFunc fn first cap).run Tryz.prog w = .ok (.func fn first cap) w := fun _ _ _ _ => rfl
 go_enter Tryz.func110, Tryz.ntmps110
 go_wp2
 go_ret
 exact ⟨w.heap.size, rfl, by simp [go_sem], Nat.le_refl _, (Below.refl _ _).alloc (Nat.le_refl _) _⟩

theorem mk_doWork (F : Nat) (w : World) :
  Calls Tryz.prog 84 #[.func (.func F) #[] #[]] w fun e w' => ∃ P : Nat, e = .returned (.func (.func 154) #[] #[ptr P]) ∧ w'.cell? ⟨P, 0, none⟩ = some (.func (.func F) #[] #[]) ∧ w.heap.size ≤ P ∧ Below w.heap.size w w' := by
 have hmf : ∀ (fn : Fn) (first cap : Array Value) (w : World), (Instr.makeFunc fn first cap).run Tryz.prog w = .ok (.func fn first cap) w := fun _ _ _ _ => rfl
 go_enter Tryz.func84, Tryz.ntmps84
 go_wp2
 go_ret
 exact ⟨w.heap.size, rfl, by simp [go_sem], Nat.le_refl _, (Below.refl _ _).alloc (Nat.le_refl _) _⟩

theorem mk_doCompare (F : Nat) (w : World) :
  Calls Tryz.prog 119 #[.func (.func F) #[] #[]] w fun e w' => ∃ P : Nat, e = .returned (.func (.func 172) #[] #[ptr P]) ∧ w'.cell? ⟨P, 0, none⟩ = some (.func (.func F) #[] #[]) ∧ w.heap.size ≤ P ∧ Below w.heap.size w w' := by
 have hmf : ∀ (fn : Fn) (first cap : Array Value) (w : World), (Instr.makeFunc fn first cap).run Tryz.prog w = .ok (.func fn first cap) w := fun _ _ _ _ => rfl
 go_enter Tryz.func119, Tryz.ntmps119
 go_wp2
 go_ret
 exact ⟨w.heap.size, rfl, by simp [go_sem], Nat.le_refl _, (Below.refl _ _).alloc (Nat.le_refl _) _⟩

theorem mk_doLoad (z : Int) (w : World) :
  Calls Tryz.prog 108 #[.int .i64 z] w fun e w' => ∃ P : Nat, e = .returned (.func (.func 164) #[] #[ptr P]) ∧ w'.cell? ⟨P, 0, none⟩ = some (.int .i64 z) ∧ w.heap.size ≤ P ∧ Below w.heap.size w w' := by
 have hmf : ∀ (fn : Fn) (first cap : Array Value) (w : World), (Instr.makeFunc fn first cap).run Tryz.prog w = .ok (.func fn first cap) w := fun _ _ _ _ => rfl
 go_enter Tryz.func108, Tryz.ntmps108
 go_wp2
 go_ret
 exact ⟨w.heap.size, rfl, by simp [go_sem], Nat.le_refl _, (Below.refl _ _).alloc (Nat.le_refl _) _⟩

theorem mk_doStore (z : Int) (w : World) :
  Calls Tryz.prog 111 #[.int .i64 z] w fun e w' => ∃ P : Nat, e = .returned (.func (.func 167) #[] #[ptr P]) ∧ w'.cell? ⟨P, 0, none⟩ = some (.int .i64 z) ∧ w.heap.size ≤ P ∧ Below w.heap.size w w' := by
 have hmf : ∀ (fn : Fn) (first cap : Array Value) (w : World), (Instr.makeFunc fn first cap).run Tryz.prog w = .ok (.func fn first cap) w := fun _ _ _ _ => rfl
 go_enter Tryz.func111, Tryz.ntmps111
 go_wp2
 go_ret
 exact ⟨w.heap.size, rfl, by simp [go_sem], Nat.le_refl _, (Below.refl _ _).alloc (Nat.le_refl _) _⟩

theorem mk_lookCompare (J P : Nat) (w : World) :
  Calls Tryz.prog 116 #[.func (.func J) #[] #[], .func (.func P) #[] #[]] w fun e w' => ∃ A B : Nat, e = .returned (.func (.func 170) #[] #[ptr A, ptr B]) ∧ w'.cell? ⟨A, 0, none⟩ = some (.func (.func P) #[] #[]) ∧ w'.cell? ⟨B, 0, none⟩ = some (.func (.func J) #[] #[]) ∧ w.heap.size ≤ A ∧ w.heap.size ≤ B ∧ Below w.heap.size w w' := by
 have hmf : ∀ (fn : Fn) (first cap : Array Value) (w : World), (Instr.makeFunc fn first cap).run Tryz.prog w = .ok (.func fn first cap) w := fun _ _ _ _ => rfl
 go_enter Tryz.func116, Tryz.ntmps116
 go_wp2
 go_ret
 exact ⟨w.heap.size + 1, w.heap.size, rfl, by simp [go_sem], by simp [go_sem], by omega, Nat.le_refl _, ((Below.refl _ _).alloc (Nat.le_refl _) _).alloc (by simp) _⟩
theorem below_tab {B : Nat} {a w : World} (h : Below B a w) {g : Nat} (hg : B ≤ g) (cs : Array Value) : Below B a (w.setRow g cs) := below_setRowK h hg cs
def Bx (W : World) (T : Nat) (L : List (Nat × Value)) : Prop := ∀ x ∈ L, W.cell? ⟨x.1, 0, none⟩ = some x.2 ∧ x.1 ≠ T
theorem Bx.keep {W w1 : World} {T : Nat} {L : List (Nat × Value)} (h : Bx W T L) (hb : Below W.heap.size W w1) : Bx w1 T L := fun x hx => ⟨cellKeep hb (h x hx).1, (h x hx).2⟩
theorem Bx.add {W : World} {T : Nat} {L : List (Nat × Value)} (h : Bx W T L) {p : Nat} {v : Value} (hv : W.cell? ⟨p, 0, none⟩ = some v) (hn : p ≠ T) : Bx W T (L ++ [(p, v)]) := fun x hx => by
 rcases List.mem_append.1 hx with h1 | h1
 ·exact h x h1
 ·simp at h1; subst h1; exact ⟨hv, hn⟩
theorem Bx.cast {W : World} {T : Nat} {L L' : List (Nat × Value)} (h : Bx W T L) (e : L = L') : Bx W T L' := e ▸ h
theorem Bx.get {W : World} {T n : Nat} {p : Nat → Nat} (h : Bx W T ((List.range n).map fun k => (p k, boxV k))) (k : Nat) (hk : k < n) (cs : Array Value) : (W.setRow T cs).cell? ⟨p k, 0, none⟩ = some (boxV k) := by
 have hm : (p k, boxV k) ∈ (List.range n).map fun k => (p k, boxV k) := List.mem_map.2 ⟨k, List.mem_range.2 hk, rfl⟩
 exact cellRow (Ne.symm (h _ hm).2) (h _ hm).1
theorem Bx.at {W : World} {T : Nat} {L : List (Nat × Value)} (h : Bx W T L) (k : Nat) (x : Nat × Value) (hk : L[k]? = some x) (cs : Array Value) : (W.setRow T cs).cell? ⟨x.1, 0, none⟩ = some x.2 :=
 cellRow (Ne.symm (h x (List.mem_of_getElem? hk)).2) (h x (List.mem_of_getElem? hk)).1

theorem table_any (w : World) :
  Calls Tryz.prog 59 #[] w fun e w' => ∃ p : Nat → Nat, e = .returned (.agg (tabP p)) ∧ (∀ k, k < 88 → w'.cell? ⟨p k, 0, none⟩ = some (boxV k)) ∧ Below w.heap.size w w' := by
 have hz := zeroT
 go_enter Tryz.func59, Tryz.ntmps59
 go_wp2_with fail
 generalize hW : w.alloc (Obj.cells zeros768 105) = W0
 have kT : W0.heap[w.heap.size]? = some (.cells zeros768 105) := by subst hW; exact heap_alloc_new w _
 have hB0 : Below w.heap.size w W0 := by subst hW; exact (Below.refl _ _).alloc (Nat.le_refl _) _
 have bx0 : Bx W0 w.heap.size [] := fun x hx => by simp at hx
 have lT : w.heap.size < W0.heap.size := (Array.getElem?_eq_some_iff.1 kT).1
 clear hW
 refine (mk_doWork _ _).mono ?_
 rintro e W1 ⟨P0, rfl, hc1, hl1, hb1⟩
 have bx1 := (bx0.keep hb1).add hc1 (by omega)
 have hB1 := hB0.trans (hb1.mono hB0.size)
 have kT := (hb1.block _ lT).trans kT
 have lT := Nat.lt_of_lt_of_le lT hb1.size
 clear bx0 hB0 hb1 hc1 hl1
 go_wp2_with fail
 refine (mk_doWork _ _).mono ?_
 rintro e W2 ⟨P1, rfl, hc1, hl1, hb2⟩
 have bx2 := (bx1.keep hb2).add hc1 (by omega)
 have hB2 := hB1.trans (hb2.mono hB1.size)
 have kT := (hb2.block _ lT).trans kT
 have lT := Nat.lt_of_lt_of_le lT hb2.size
 clear bx1 hB1 hb2 hc1 hl1
 go_wp2_with fail
 refine (mk_lookNumbers _ _).mono ?_
 rintro e W3 ⟨P2, rfl, hc1, hl1, hb3⟩
 have bx3 := (bx2.keep hb3).add hc1 (by omega)
 have hB3 := hB2.trans (hb3.mono hB2.size)
 have kT := (hb3.block _ lT).trans kT
 have lT := Nat.lt_of_lt_of_le lT hb3.size
 clear bx2 hB2 hb3 hc1 hl1
 go_wp2_with fail
 refine (mk_doWork _ _).mono ?_
 rintro e W4 ⟨P3, rfl, hc1, hl1, hb4⟩
 have bx4 := (bx3.keep hb4).add hc1 (by omega)
 have hB4 := hB3.trans (hb4.mono hB3.size)
 have kT := (hb4.block _ lT).trans kT
 have lT := Nat.lt_of_lt_of_le lT hb4.size
 clear bx3 hB3 hb4 hc1 hl1
 go_wp2_with fail
 refine (mk_lookNumbers _ _).mono ?_
 rintro e W5 ⟨P4, rfl, hc1, hl1, hb5⟩
 have bx5 := (bx4.keep hb5).add hc1 (by omega)
 have hB5 := hB4.trans (hb5.mono hB4.size)
 have kT := (hb5.block _ lT).trans kT
 have lT := Nat.lt_of_lt_of_le lT hb5.size
 clear bx4 hB4 hb5 hc1 hl1
 go_wp2_with fail
 refine (mk_doWork _ _).mono ?_
 rintro e W6 ⟨P5, rfl, hc1, hl1, hb6⟩
 have bx6 := (bx5.keep hb6).add hc1 (by omega)
 have hB6 := hB5.trans (hb6.mono hB5.size)
 have kT := (hb6.block _ lT).trans kT
 have lT := Nat.lt_of_lt_of_le lT hb6.size
 clear bx5 hB5 hb6 hc1 hl1
 go_wp2_with fail
 refine (mk_lookNumbers _ _).mono ?_
 rintro e W7 ⟨P6, rfl, hc1, hl1, hb7⟩
 have bx7 := (bx6.keep hb7).add hc1 (by omega)
 have hB7 := hB6.trans (hb7.mono hB6.size)
 have kT := (hb7.block _ lT).trans kT
 have lT := Nat.lt_of_lt_of_le lT hb7.size
 clear bx6 hB6 hb7 hc1 hl1
 go_wp2_with fail
 refine (mk_doWork _ _).mono ?_
 rintro e W8 ⟨P7, rfl, hc1, hl1, hb8⟩
 have bx8 := (bx7.keep hb8).add hc1 (by omega)
 have hB8 := hB7.trans (hb8.mono hB7.size)
 have kT := (hb8.block _ lT).trans kT
 have lT := Nat.lt_of_lt_of_le lT hb8.size
 clear bx7 hB7 hb8 hc1 hl1
 go_wp2_with fail
 refine (mk_lookNumbers _ _).mono ?_
 rintro e W9 ⟨P8, rfl, hc1, hl1, hb9⟩
 have bx9 := (bx8.keep hb9).add hc1 (by omega)
 have hB9 := hB8.trans (hb9.mono hB8.size)
 have kT := (hb9.block _ lT).trans kT
 have lT := Nat.lt_of_lt_of_le lT hb9.size
 clear bx8 hB8 hb9 hc1 hl1
 go_wp2_with fail
 refine (mk_doWork _ _).mono ?_
 rintro e W10 ⟨P9, rfl, hc1, hl1, hb10⟩
 have bx10 := (bx9.keep hb10).add hc1 (by omega)
 have hB10 := hB9.trans (hb10.mono hB9.size)
 have kT := (hb10.block _ lT).trans kT
 have lT := Nat.lt_of_lt_of_le lT hb10.size
 clear bx9 hB9 hb10 hc1 hl1
 go_wp2_with fail
 refine (mk_lookNumbers _ _).mono ?_
 rintro e W11 ⟨P10, rfl, hc1, hl1, hb11⟩
 have bx11 := (bx10.keep hb11).add hc1 (by omega)
 have hB11 := hB10.trans (hb11.mono hB10.size)
 have kT := (hb11.block _ lT).trans kT
 have lT := Nat.lt_of_lt_of_le lT hb11.size
 clear bx10 hB10 hb11 hc1 hl1
 go_wp2_with fail
 refine (mk_doWork _ _).mono ?_
 rintro e W12 ⟨P11, rfl, hc1, hl1, hb12⟩
 have bx12 := (bx11.keep hb12).add hc1 (by omega)
 have hB12 := hB11.trans (hb12.mono hB11.size)
 have kT := (hb12.block _ lT).trans kT
 have lT := Nat.lt_of_lt_of_le lT hb12.size
 clear bx11 hB11 hb12 hc1 hl1
 go_wp2_with fail
 refine (mk_lookNumbers _ _).mono ?_
 rintro e W13 ⟨P12, rfl, hc1, hl1, hb13⟩
 have bx13 := (bx12.keep hb13).add hc1 (by omega)
 have hB13 := hB12.trans (hb13.mono hB12.size)
 have kT := (hb13.block _ lT).trans kT
 have lT := Nat.lt_of_lt_of_le lT hb13.size
 clear bx12 hB12 hb13 hc1 hl1
 go_wp2_with fail
 refine (mk_doWork _ _).mono ?_
 rintro e W14 ⟨P13, rfl, hc1, hl1, hb14⟩
 have bx14 := (bx13.keep hb14).add hc1 (by omega)
 have hB14 := hB13.trans (hb14.mono hB13.size)
 have kT := (hb14.block _ lT).trans kT
 have lT := Nat.lt_of_lt_of_le lT hb14.size
 clear bx13 hB13 hb14 hc1 hl1
 go_wp2_with fail
 refine (mk_lookNumbers _ _).mono ?_
 rintro e W15 ⟨P14, rfl, hc1, hl1, hb15⟩
 have bx15 := (bx14.keep hb15).add hc1 (by omega)
 have hB15 := hB14.trans (hb15.mono hB14.size)
 have kT := (hb15.block _ lT).trans kT
 have lT := Nat.lt_of_lt_of_le lT hb15.size
 clear bx14 hB14 hb15 hc1 hl1
 go_wp2_with fail
 refine (mk_doWork _ _).mono ?_
 rintro e W16 ⟨P15, rfl, hc1, hl1, hb16⟩
 have bx16 := (bx15.keep hb16).add hc1 (by omega)
 have hB16 := hB15.trans (hb16.mono hB15.size)
 have kT := (hb16.block _ lT).trans kT
 have lT := Nat.lt_of_lt_of_le lT hb16.size
 clear bx15 hB15 hb16 hc1 hl1
 go_wp2_with fail
 refine (mk_lookNumbers _ _).mono ?_
 rintro e W17 ⟨P16, rfl, hc1, hl1, hb17⟩
 have bx17 := (bx16.keep hb17).add hc1 (by omega)
 have hB17 := hB16.trans (hb17.mono hB16.size)
 have kT := (hb17.block _ lT).trans kT
 have lT := Nat.lt_of_lt_of_le lT hb17.size
 clear bx16 hB16 hb17 hc1 hl1
 go_wp2_with fail
 refine (mk_doWork _ _).mono ?_
 rintro e W18 ⟨P17, rfl, hc1, hl1, hb18⟩
 have bx18 := (bx17.keep hb18).add hc1 (by omega)
 have hB18 := hB17.trans (hb18.mono hB17.size)
 have kT := (hb18.block _ lT).trans kT
 have lT := Nat.lt_of_lt_of_le lT hb18.size
 clear bx17 hB17 hb18 hc1 hl1
 go_wp2_with fail
 refine (mk_doWork _ _).mono ?_
 rintro e W19 ⟨P18, rfl, hc1, hl1, hb19⟩
 have bx19 := (bx18.keep hb19).add hc1 (by omega)
 have hB19 := hB18.trans (hb19.mono hB18.size)
 have kT := (hb19.block _ lT).trans kT
 have lT := Nat.lt_of_lt_of_le lT hb19.size
 clear bx18 hB18 hb19 hc1 hl1
 go_wp2_with fail
 refine (mk_doWork _ _).mono ?_
 rintro e W20 ⟨P19, rfl, hc1, hl1, hb20⟩
 have bx20 := (bx19.keep hb20).add hc1 (by omega)
 have hB20 := hB19.trans (hb20.mono hB19.size)
 have kT := (hb20.block _ lT).trans kT
 have lT := Nat.lt_of_lt_of_le lT hb20.size
 clear bx19 hB19 hb20 hc1 hl1
 go_wp2_with fail
 refine (mk_lookNumbers _ _).mono ?_
 rintro e W21 ⟨P20, rfl, hc1, hl1, hb21⟩
 have bx21 := (bx20.keep hb21).add hc1 (by omega)
 have hB21 := hB20.trans (hb21.mono hB20.size)
 have kT := (hb21.block _ lT).trans kT
 have lT := Nat.lt_of_lt_of_le lT hb21.size
 clear bx20 hB20 hb21 hc1 hl1
 go_wp2_with fail
 refine (mk_doWork _ _).mono ?_
 rintro e W22 ⟨P21, rfl, hc1, hl1, hb22⟩
 have bx22 := (bx21.keep hb22).add hc1 (by omega)
 have hB22 := hB21.trans (hb22.mono hB21.size)
 have kT := (hb22.block _ lT).trans kT
 have lT := Nat.lt_of_lt_of_le lT hb22.size
 clear bx21 hB21 hb22 hc1 hl1
 go_wp2_with fail
 refine (mk_lookNumbers _ _).mono ?_
 rintro e W23 ⟨P22, rfl, hc1, hl1, hb23⟩
 have bx23 := (bx22.keep hb23).add hc1 (by omega)
 have hB23 := hB22.trans (hb23.mono hB22.size)
 have kT := (hb23.block _ lT).trans kT
 have lT := Nat.lt_of_lt_of_le lT hb23.size
 clear bx22 hB22 hb23 hc1 hl1
 go_wp2_with fail
 refine (mk_doWork _ _).mono ?_
 rintro e W24 ⟨P23, rfl, hc1, hl1, hb24⟩
 have bx24 := (bx23.keep hb24).add hc1 (by omega)
 have hB24 := hB23.trans (hb24.mono hB23.size)
 have kT := (hb24.block _ lT).trans kT
 have lT := Nat.lt_of_lt_of_le lT hb24.size
 clear bx23 hB23 hb24 hc1 hl1
 go_wp2_with fail
 refine (mk_lookNumbers _ _).mono ?_
 rintro e W25 ⟨P24, rfl, hc1, hl1, hb25⟩
 have bx25 := (bx24.keep hb25).add hc1 (by omega)
 have hB25 := hB24.trans (hb25.mono hB24.size)
 have kT := (hb25.block _ lT).trans kT
 have lT := Nat.lt_of_lt_of_le lT hb25.size
 clear bx24 hB24 hb25 hc1 hl1
 go_wp2_with fail
 refine (mk_doWork _ _).mono ?_
 rintro e W26 ⟨P25, rfl, hc1, hl1, hb26⟩
 have bx26 := (bx25.keep hb26).add hc1 (by omega)
 have hB26 := hB25.trans (hb26.mono hB25.size)
 have kT := (hb26.block _ lT).trans kT
 have lT := Nat.lt_of_lt_of_le lT hb26.size
 clear bx25 hB25 hb26 hc1 hl1
 go_wp2_with fail
 refine (mk_lookNumbers _ _).mono ?_
 rintro e W27 ⟨P26, rfl, hc1, hl1, hb27⟩
 have bx27 := (bx26.keep hb27).add hc1 (by omega)
 have hB27 := hB26.trans (hb27.mono hB26.size)
 have kT := (hb27.block _ lT).trans kT
 have lT := Nat.lt_of_lt_of_le lT hb27.size
 clear bx26 hB26 hb27 hc1 hl1
 go_wp2_with fail
 refine (mk_doWork _ _).mono ?_
 rintro e W28 ⟨P27, rfl, hc1, hl1, hb28⟩
 have bx28 := (bx27.keep hb28).add hc1 (by omega)
 have hB28 := hB27.trans (hb28.mono hB27.size)
 have kT := (hb28.block _ lT).trans kT
 have lT := Nat.lt_of_lt_of_le lT hb28.size
 clear bx27 hB27 hb28 hc1 hl1
 go_wp2_with fail
 refine (mk_lookNumbers _ _).mono ?_
 rintro e W29 ⟨P28, rfl, hc1, hl1, hb29⟩
 have bx29 := (bx28.keep hb29).add hc1 (by omega)
 have hB29 := hB28.trans (hb29.mono hB28.size)
 have kT := (hb29.block _ lT).trans kT
 have lT := Nat.lt_of_lt_of_le lT hb29.size
 clear bx28 hB28 hb29 hc1 hl1
 go_wp2_with fail
 refine (mk_doWork _ _).mono ?_
 rintro e W30 ⟨P29, rfl, hc1, hl1, hb30⟩
 have bx30 := (bx29.keep hb30).add hc1 (by omega)
 have hB30 := hB29.trans (hb30.mono hB29.size)
 have kT := (hb30.block _ lT).trans kT
 have lT := Nat.lt_of_lt_of_le lT hb30.size
 clear bx29 hB29 hb30 hc1 hl1
 go_wp2_with fail
 refine (mk_lookNumbers _ _).mono ?_
 rintro e W31 ⟨P30, rfl, hc1, hl1, hb31⟩
 have bx31 := (bx30.keep hb31).add hc1 (by omega)
 have hB31 := hB30.trans (hb31.mono hB30.size)
 have kT := (hb31.block _ lT).trans kT
 have lT := Nat.lt_of_lt_of_le lT hb31.size
 clear bx30 hB30 hb31 hc1 hl1
 go_wp2_with fail
 refine (mk_doWork _ _).mono ?_
 rintro e W32 ⟨P31, rfl, hc1, hl1, hb32⟩
 have bx32 := (bx31.keep hb32).add hc1 (by omega)
 have hB32 := hB31.trans (hb32.mono hB31.size)
 have kT := (hb32.block _ lT).trans kT
 have lT := Nat.lt_of_lt_of_le lT hb32.size
 clear bx31 hB31 hb32 hc1 hl1
 go_wp2_with fail
 refine (mk_lookNumbers _ _).mono ?_
 rintro e W33 ⟨P32, rfl, hc1, hl1, hb33⟩
 have bx33 := (bx32.keep hb33).add hc1 (by omega)
 have hB33 := hB32.trans (hb33.mono hB32.size)
 have kT := (hb33.block _ lT).trans kT
 have lT := Nat.lt_of_lt_of_le lT hb33.size
 clear bx32 hB32 hb33 hc1 hl1
 go_wp2_with fail
 refine (mk_doWork _ _).mono ?_
 rintro e W34 ⟨P33, rfl, hc1, hl1, hb34⟩
 have bx34 := (bx33.keep hb34).add hc1 (by omega)
 have hB34 := hB33.trans (hb34.mono hB33.size)
 have kT := (hb34.block _ lT).trans kT
 have lT := Nat.lt_of_lt_of_le lT hb34.size
 clear bx33 hB33 hb34 hc1 hl1
 go_wp2_with fail
 refine (mk_lookNumbers _ _).mono ?_
 rintro e W35 ⟨P34, rfl, hc1, hl1, hb35⟩
 have bx35 := (bx34.keep hb35).add hc1 (by omega)
 have hB35 := hB34.trans (hb35.mono hB34.size)
 have kT := (hb35.block _ lT).trans kT
 have lT := Nat.lt_of_lt_of_le lT hb35.size
 clear bx34 hB34 hb35 hc1 hl1
 go_wp2_with fail
 refine (mk_doWork _ _).mono ?_
 rintro e W36 ⟨P35, rfl, hc1, hl1, hb36⟩
 have bx36 := (bx35.keep hb36).add hc1 (by omega)
 have hB36 := hB35.trans (hb36.mono hB35.size)
 have kT := (hb36.block _ lT).trans kT
 have lT := Nat.lt_of_lt_of_le lT hb36.size
 clear bx35 hB35 hb36 hc1 hl1
 go_wp2_with fail
 refine (mk_lookLoad _ _).mono ?_
 rintro e W37 ⟨P36, rfl, hc1, hl1, hb37⟩
 have bx37 := (bx36.keep hb37).add hc1 (by omega)
 have hB37 := hB36.trans (hb37.mono hB36.size)
 have kT := (hb37.block _ lT).trans kT
 have lT := Nat.lt_of_lt_of_le lT hb37.size
 clear bx36 hB36 hb37 hc1 hl1
 go_wp2_with fail
 refine (mk_doLoad _ _).mono ?_
 rintro e W38 ⟨P37, rfl, hc1, hl1, hb38⟩
 have bx38 := (bx37.keep hb38).add hc1 (by omega)
 have hB38 := hB37.trans (hb38.mono hB37.size)
 have kT := (hb38.block _ lT).trans kT
 have lT := Nat.lt_of_lt_of_le lT hb38.size
 clear bx37 hB37 hb38 hc1 hl1
 go_wp2_with fail
 refine (mk_lookLoad _ _).mono ?_
 rintro e W39 ⟨P38, rfl, hc1, hl1, hb39⟩
 have bx39 := (bx38.keep hb39).add hc1 (by omega)
 have hB39 := hB38.trans (hb39.mono hB38.size)
 have kT := (hb39.block _ lT).trans kT
 have lT := Nat.lt_of_lt_of_le lT hb39.size
 clear bx38 hB38 hb39 hc1 hl1
 go_wp2_with fail
 refine (mk_doLoad _ _).mono ?_
 rintro e W40 ⟨P39, rfl, hc1, hl1, hb40⟩
 have bx40 := (bx39.keep hb40).add hc1 (by omega)
 have hB40 := hB39.trans (hb40.mono hB39.size)
 have kT := (hb40.block _ lT).trans kT
 have lT := Nat.lt_of_lt_of_le lT hb40.size
 clear bx39 hB39 hb40 hc1 hl1
 go_wp2_with fail
 refine (mk_lookLoad _ _).mono ?_
 rintro e W41 ⟨P40, rfl, hc1, hl1, hb41⟩
 have bx41 := (bx40.keep hb41).add hc1 (by omega)
 have hB41 := hB40.trans (hb41.mono hB40.size)
 have kT := (hb41.block _ lT).trans kT
 have lT := Nat.lt_of_lt_of_le lT hb41.size
 clear bx40 hB40 hb41 hc1 hl1
 go_wp2_with fail
 refine (mk_doLoad _ _).mono ?_
 rintro e W42 ⟨P41, rfl, hc1, hl1, hb42⟩
 have bx42 := (bx41.keep hb42).add hc1 (by omega)
 have hB42 := hB41.trans (hb42.mono hB41.size)
 have kT := (hb42.block _ lT).trans kT
 have lT := Nat.lt_of_lt_of_le lT hb42.size
 clear bx41 hB41 hb42 hc1 hl1
 go_wp2_with fail
 refine (mk_lookLoad _ _).mono ?_
 rintro e W43 ⟨P42, rfl, hc1, hl1, hb43⟩
 have bx43 := (bx42.keep hb43).add hc1 (by omega)
 have hB43 := hB42.trans (hb43.mono hB42.size)
 have kT := (hb43.block _ lT).trans kT
 have lT := Nat.lt_of_lt_of_le lT hb43.size
 clear bx42 hB42 hb43 hc1 hl1
 go_wp2_with fail
 refine (mk_doLoad _ _).mono ?_
 rintro e W44 ⟨P43, rfl, hc1, hl1, hb44⟩
 have bx44 := (bx43.keep hb44).add hc1 (by omega)
 have hB44 := hB43.trans (hb44.mono hB43.size)
 have kT := (hb44.block _ lT).trans kT
 have lT := Nat.lt_of_lt_of_le lT hb44.size
 clear bx43 hB43 hb44 hc1 hl1
 go_wp2_with fail
 refine (mk_lookStore _ _).mono ?_
 rintro e W45 ⟨P44, rfl, hc1, hl1, hb45⟩
 have bx45 := (bx44.keep hb45).add hc1 (by omega)
 have hB45 := hB44.trans (hb45.mono hB44.size)
 have kT := (hb45.block _ lT).trans kT
 have lT := Nat.lt_of_lt_of_le lT hb45.size
 clear bx44 hB44 hb45 hc1 hl1
 go_wp2_with fail
 refine (mk_doStore _ _).mono ?_
 rintro e W46 ⟨P45, rfl, hc1, hl1, hb46⟩
 have bx46 := (bx45.keep hb46).add hc1 (by omega)
 have hB46 := hB45.trans (hb46.mono hB45.size)
 have kT := (hb46.block _ lT).trans kT
 have lT := Nat.lt_of_lt_of_le lT hb46.size
 clear bx45 hB45 hb46 hc1 hl1
 go_wp2_with fail
 refine (mk_lookStore _ _).mono ?_
 rintro e W47 ⟨P46, rfl, hc1, hl1, hb47⟩
 have bx47 := (bx46.keep hb47).add hc1 (by omega)
 have hB47 := hB46.trans (hb47.mono hB46.size)
 have kT := (hb47.block _ lT).trans kT
 have lT := Nat.lt_of_lt_of_le lT hb47.size
 clear bx46 hB46 hb47 hc1 hl1
 go_wp2_with fail
 refine (mk_doStore _ _).mono ?_
 rintro e W48 ⟨P47, rfl, hc1, hl1, hb48⟩
 have bx48 := (bx47.keep hb48).add hc1 (by omega)
 have hB48 := hB47.trans (hb48.mono hB47.size)
 have kT := (hb48.block _ lT).trans kT
 have lT := Nat.lt_of_lt_of_le lT hb48.size
 clear bx47 hB47 hb48 hc1 hl1
 go_wp2_with fail
 refine (mk_lookStore _ _).mono ?_
 rintro e W49 ⟨P48, rfl, hc1, hl1, hb49⟩
 have bx49 := (bx48.keep hb49).add hc1 (by omega)
 have hB49 := hB48.trans (hb49.mono hB48.size)
 have kT := (hb49.block _ lT).trans kT
 have lT := Nat.lt_of_lt_of_le lT hb49.size
 clear bx48 hB48 hb49 hc1 hl1
 go_wp2_with fail
 refine (mk_doStore _ _).mono ?_
 rintro e W50 ⟨P49, rfl, hc1, hl1, hb50⟩
 have bx50 := (bx49.keep hb50).add hc1 (by omega)
 have hB50 := hB49.trans (hb50.mono hB49.size)
 have kT := (hb50.block _ lT).trans kT
 have lT := Nat.lt_of_lt_of_le lT hb50.size
 clear bx49 hB49 hb50 hc1 hl1
 go_wp2_with fail
 refine (mk_lookStore _ _).mono ?_
 rintro e W51 ⟨P50, rfl, hc1, hl1, hb51⟩
 have bx51 := (bx50.keep hb51).add hc1 (by omega)
 have hB51 := hB50.trans (hb51.mono hB50.size)
 have kT := (hb51.block _ lT).trans kT
 have lT := Nat.lt_of_lt_of_le lT hb51.size
 clear bx50 hB50 hb51 hc1 hl1
 go_wp2_with fail
 refine (mk_doStore _ _).mono ?_
 rintro e W52 ⟨P51, rfl, hc1, hl1, hb52⟩
 have bx52 := (bx51.keep hb52).add hc1 (by omega)
 have hB52 := hB51.trans (hb52.mono hB51.size)
 have kT := (hb52.block _ lT).trans kT
 have lT := Nat.lt_of_lt_of_le lT hb52.size
 clear bx51 hB51 hb52 hc1 hl1
 go_wp2_with fail
 refine (mk_lookCompare _ _ _).mono ?_
 rintro e W53 ⟨P52, P53, rfl, hc1, hc2, hl1, hl2, hb53⟩
 have bx53 := ((bx52.keep hb53).add hc1 (by omega)).add hc2 (by omega)
 have hB53 := hB52.trans (hb53.mono hB52.size)
 have kT := (hb53.block _ lT).trans kT
 have lT := Nat.lt_of_lt_of_le lT hb53.size
 clear bx52 hB52 hb53 hc1 hl1 hc2 hl2
 go_wp2_with fail
 refine (mk_doCompare _ _).mono ?_
 rintro e W54 ⟨P54, rfl, hc1, hl1, hb54⟩
 have bx54 := (bx53.keep hb54).add hc1 (by omega)
 have hB54 := hB53.trans (hb54.mono hB53.size)
 have kT := (hb54.block _ lT).trans kT
 have lT := Nat.lt_of_lt_of_le lT hb54.size
 clear bx53 hB53 hb54 hc1 hl1
 go_wp2_with fail
 refine (mk_lookCompare _ _ _).mono ?_
 rintro e W55 ⟨P55, P56, rfl, hc1, hc2, hl1, hl2, hb55⟩
 have bx55 := ((bx54.keep hb55).add hc1 (by omega)).add hc2 (by omega)
 have hB55 := hB54.trans (hb55.mono hB54.size)
 have kT := (hb55.block _ lT).trans kT
 have lT := Nat.lt_of_lt_of_le lT hb55.size
 clear bx54 hB54 hb55 hc1 hl1 hc2 hl2
 go_wp2_with fail
 refine (mk_doCompare _ _).mono ?_
 rintro e W56 ⟨P57, rfl, hc1, hl1, hb56⟩
 have bx56 := (bx55.keep hb56).add hc1 (by omega)
 have hB56 := hB55.trans (hb56.mono hB55.size)
 have kT := (hb56.block _ lT).trans kT
 have lT := Nat.lt_of_lt_of_le lT hb56.size
 clear bx55 hB55 hb56 hc1 hl1
 go_wp2_with fail
 refine (mk_lookCompare _ _ _).mono ?_
 rintro e W57 ⟨P58, P59, rfl, hc1, hc2, hl1, hl2, hb57⟩
 have bx57 := ((bx56.keep hb57).add hc1 (by omega)).add hc2 (by omega)
 have hB57 := hB56.trans (hb57.mono hB56.size)
 have kT := (hb57.block _ lT).trans kT
 have lT := Nat.lt_of_lt_of_le lT hb57.size
 clear bx56 hB56 hb57 hc1 hl1 hc2 hl2
 go_wp2_with fail
 refine (mk_doCompare _ _).mono ?_
 rintro e W58 ⟨P60, rfl, hc1, hl1, hb58⟩
 have bx58 := (bx57.keep hb58).add hc1 (by omega)
 have hB58 := hB57.trans (hb58.mono hB57.size)
 have kT := (hb58.block _ lT).trans kT
 have lT := Nat.lt_of_lt_of_le lT hb58.size
 clear bx57 hB57 hb58 hc1 hl1
 go_wp2_with fail
 refine (mk_lookCompare _ _ _).mono ?_
 rintro e W59 ⟨P61, P62, rfl, hc1, hc2, hl1, hl2, hb59⟩
 have bx59 := ((bx58.keep hb59).add hc1 (by omega)).add hc2 (by omega)
 have hB59 := hB58.trans (hb59.mono hB58.size)
 have kT := (hb59.block _ lT).trans kT
 have lT := Nat.lt_of_lt_of_le lT hb59.size
 clear bx58 hB58 hb59 hc1 hl1 hc2 hl2
 go_wp2_with fail
 refine (mk_doCompare _ _).mono ?_
 rintro e W60 ⟨P63, rfl, hc1, hl1, hb60⟩
 have bx60 := (bx59.keep hb60).add hc1 (by omega)
 have hB60 := hB59.trans (hb60.mono hB59.size)
 have kT := (hb60.block _ lT).trans kT
 have lT := Nat.lt_of_lt_of_le lT hb60.size
 clear bx59 hB59 hb60 hc1 hl1
 go_wp2_with fail
 refine (mk_lookCompare _ _ _).mono ?_
 rintro e W61 ⟨P64, P65, rfl, hc1, hc2, hl1, hl2, hb61⟩
 have bx61 := ((bx60.keep hb61).add hc1 (by omega)).add hc2 (by omega)
 have hB61 := hB60.trans (hb61.mono hB60.size)
 have kT := (hb61.block _ lT).trans kT
 have lT := Nat.lt_of_lt_of_le lT hb61.size
 clear bx60 hB60 hb61 hc1 hl1 hc2 hl2
 go_wp2_with fail
 refine (mk_doCompare _ _).mono ?_
 rintro e W62 ⟨P66, rfl, hc1, hl1, hb62⟩
 have bx62 := (bx61.keep hb62).add hc1 (by omega)
 have hB62 := hB61.trans (hb62.mono hB61.size)
 have kT := (hb62.block _ lT).trans kT
 have lT := Nat.lt_of_lt_of_le lT hb62.size
 clear bx61 hB61 hb62 hc1 hl1
 go_wp2_with fail
 refine (mk_lookCompare _ _ _).mono ?_
 rintro e W63 ⟨P67, P68, rfl, hc1, hc2, hl1, hl2, hb63⟩
 have bx63 := ((bx62.keep hb63).add hc1 (by omega)).add hc2 (by omega)
 have hB63 := hB62.trans (hb63.mono hB62.size)
 have kT := (hb63.block _ lT).trans kT
 have lT := Nat.lt_of_lt_of_le lT hb63.size
 clear bx62 hB62 hb63 hc1 hl1 hc2 hl2
 go_wp2_with fail
 refine (mk_doCompare _ _).mono ?_
 rintro e W64 ⟨P69, rfl, hc1, hl1, hb64⟩
 have bx64 := (bx63.keep hb64).add hc1 (by omega)
 have hB64 := hB63.trans (hb64.mono hB63.size)
 have kT := (hb64.block _ lT).trans kT
 have lT := Nat.lt_of_lt_of_le lT hb64.size
 clear bx63 hB63 hb64 hc1 hl1
 go_wp2_with fail
 refine (mk_lookCompare _ _ _).mono ?_
 rintro e W65 ⟨P70, P71, rfl, hc1, hc2, hl1, hl2, hb65⟩
 have bx65 := ((bx64.keep hb65).add hc1 (by omega)).add hc2 (by omega)
 have hB65 := hB64.trans (hb65.mono hB64.size)
 have kT := (hb65.block _ lT).trans kT
 have lT := Nat.lt_of_lt_of_le lT hb65.size
 clear bx64 hB64 hb65 hc1 hl1 hc2 hl2
 go_wp2_with fail
 refine (mk_doCompare _ _).mono ?_
 rintro e W66 ⟨P72, rfl, hc1, hl1, hb66⟩
 have bx66 := (bx65.keep hb66).add hc1 (by omega)
 have hB66 := hB65.trans (hb66.mono hB65.size)
 have kT := (hb66.block _ lT).trans kT
 have lT := Nat.lt_of_lt_of_le lT hb66.size
 clear bx65 hB65 hb66 hc1 hl1
 go_wp2_with fail
 refine (mk_lookCompare _ _ _).mono ?_
 rintro e W67 ⟨P73, P74, rfl, hc1, hc2, hl1, hl2, hb67⟩
 have bx67 := ((bx66.keep hb67).add hc1 (by omega)).add hc2 (by omega)
 have hB67 := hB66.trans (hb67.mono hB66.size)
 have kT := (hb67.block _ lT).trans kT
 have lT := Nat.lt_of_lt_of_le lT hb67.size
 clear bx66 hB66 hb67 hc1 hl1 hc2 hl2
 go_wp2_with fail
 refine (mk_doCompare _ _).mono ?_
 rintro e W68 ⟨P75, rfl, hc1, hl1, hb68⟩
 have bx68 := (bx67.keep hb68).add hc1 (by omega)
 have hB68 := hB67.trans (hb68.mono hB67.size)
 have kT := (hb68.block _ lT).trans kT
 have lT := Nat.lt_of_lt_of_le lT hb68.size
 clear bx67 hB67 hb68 hc1 hl1
 go_wp2_with fail
 refine (mk_lookCompare _ _ _).mono ?_
 rintro e W69 ⟨P76, P77, rfl, hc1, hc2, hl1, hl2, hb69⟩
 have bx69 := ((bx68.keep hb69).add hc1 (by omega)).add hc2 (by omega)
 have hB69 := hB68.trans (hb69.mono hB68.size)
 have kT := (hb69.block _ lT).trans kT
 have lT := Nat.lt_of_lt_of_le lT hb69.size
 clear bx68 hB68 hb69 hc1 hl1 hc2 hl2
 go_wp2_with fail
 refine (mk_doCompare _ _).mono ?_
 rintro e W70 ⟨P78, rfl, hc1, hl1, hb70⟩
 have bx70 := (bx69.keep hb70).add hc1 (by omega)
 have hB70 := hB69.trans (hb70.mono hB69.size)
 have kT := (hb70.block _ lT).trans kT
 have lT := Nat.lt_of_lt_of_le lT hb70.size
 clear bx69 hB69 hb70 hc1 hl1
 go_wp2_with fail
 refine (mk_lookCompare _ _ _).mono ?_
 rintro e W71 ⟨P79, P80, rfl, hc1, hc2, hl1, hl2, hb71⟩
 have bx71 := ((bx70.keep hb71).add hc1 (by omega)).add hc2 (by omega)
 have hB71 := hB70.trans (hb71.mono hB70.size)
 have kT := (hb71.block _ lT).trans kT
 have lT := Nat.lt_of_lt_of_le lT hb71.size
 clear bx70 hB70 hb71 hc1 hl1 hc2 hl2
 go_wp2_with fail
 refine (mk_doCompare _ _).mono ?_
 rintro e W72 ⟨P81, rfl, hc1, hl1, hb72⟩
 have bx72 := (bx71.keep hb72).add hc1 (by omega)
 have hB72 := hB71.trans (hb72.mono hB71.size)
 have kT := (hb72.block _ lT).trans kT
 have lT := Nat.lt_of_lt_of_le lT hb72.size
 clear bx71 hB71 hb72 hc1 hl1
 go_wp2_with fail
 refine (mk_lookCompare _ _ _).mono ?_
 rintro e W73 ⟨P82, P83, rfl, hc1, hc2, hl1, hl2, hb73⟩
 have bx73 := ((bx72.keep hb73).add hc1 (by omega)).add hc2 (by omega)
 have hB73 := hB72.trans (hb73.mono hB72.size)
 have kT := (hb73.block _ lT).trans kT
 have lT := Nat.lt_of_lt_of_le lT hb73.size
 clear bx72 hB72 hb73 hc1 hl1 hc2 hl2
 go_wp2_with fail
 refine (mk_doCompare _ _).mono ?_
 rintro e W74 ⟨P84, rfl, hc1, hl1, hb74⟩
 have bx74 := (bx73.keep hb74).add hc1 (by omega)
 have hB74 := hB73.trans (hb74.mono hB73.size)
 have kT := (hb74.block _ lT).trans kT
 have lT := Nat.lt_of_lt_of_le lT hb74.size
 clear bx73 hB73 hb74 hc1 hl1
 go_wp2_with fail
 refine (mk_lookCompare _ _ _).mono ?_
 rintro e W75 ⟨P85, P86, rfl, hc1, hc2, hl1, hl2, hb75⟩
 have bx75 := ((bx74.keep hb75).add hc1 (by omega)).add hc2 (by omega)
 have hB75 := hB74.trans (hb75.mono hB74.size)
 have kT := (hb75.block _ lT).trans kT
 have lT := Nat.lt_of_lt_of_le lT hb75.size
 clear bx74 hB74 hb75 hc1 hl1 hc2 hl2
 go_wp2_with fail
 refine (mk_doCompare _ _).mono ?_
 rintro e W76 ⟨P87, rfl, hc1, hl1, hb76⟩
 have bx76 := (bx75.keep hb76).add hc1 (by omega)
 have hB76 := hB75.trans (hb76.mono hB75.size)
 have kT := (hb76.block _ lT).trans kT
 have lT := Nat.lt_of_lt_of_le lT hb76.size
 clear bx75 hB75 hb76 hc1 hl1
 go_wp2_with (first | (refine wpList_build_as rfl 105 _ rfl (tabP fun k => ([P0, P1, P2, P3, P4, P5, P6, P7, P8, P9, P10, P11, P12, P13, P14, P15, P16, P17, P18, P19, P20, P21, P22, P23, P24, P25, P26, P27, P28, P29, P30, P31, P32, P33, P34, P35, P36, P37, P38, P39, P40, P41, P42, P43, P44, P45, P46, P47, P48, P49, P50, P51, P52, P53, P54, P55, P56, P57, P58, P59, P60, P61, P62, P63, P64, P65, P66, P67, P68, P69, P70, P71, P72, P73, P74, P75, P76, P77, P78, P79, P80, P81, P82, P83, P84, P85, P86, P87] : List Nat).getD k 0) (by kernel_rfl) ?_) | (refine wpList_store_row rfl 105 _ _ rfl w.heap.size (tabP fun k => ([P0, P1, P2, P3, P4, P5, P6, P7, P8, P9, P10, P11, P12, P13, P14, P15, P16, P17, P18, P19, P20, P21, P22, P23, P24, P25, P26, P27, P28, P29, P30, P31, P32, P33, P34, P35, P36, P37, P38, P39, P40, P41, P42, P43, P44, P45, P46, P47, P48, P49, P50, P51, P52, P53, P54, P55, P56, P57, P58, P59, P60, P61, P62, P63, P64, P65, P66, P67, P68, P69, P70, P71, P72, P73, P74, P75, P76, P77, P78, P79, P80, P81, P82, P83, P84, P85, P86, P87] : List Nat).getD k 0) rfl rfl 105 zeros768 kT (by kernel_rfl) (by kernel_rfl) (by kernel_rfl) ?_))
 refine bodyPost_ret (v := .agg (tabP fun k => ([P0, P1, P2, P3, P4, P5, P6, P7, P8, P9, P10, P11, P12, P13, P14, P15, P16, P17, P18, P19, P20, P21, P22, P23, P24, P25, P26, P27, P28, P29, P30, P31, P32, P33, P34, P35, P36, P37, P38, P39, P40, P41, P42, P43, P44, P45, P46, P47, P48, P49, P50, P51, P52, P53, P54, P55, P56, P57, P58, P59, P60, P61, P62, P63, P64, P65, P66, P67, P68, P69, P70, P71, P72, P73, P74, P75, P76, P77, P78, P79, P80, P81, P82, P83, P84, P85, P86, P87] : List Nat).getD k 0)) (results_cell_row Tryz.results59 _ _ w.heap.size 105 (tabP fun k => ([P0, P1, P2, P3, P4, P5, P6, P7, P8, P9, P10, P11, P12, P13, P14, P15, P16, P17, P18, P19, P20, P21, P22, P23, P24, P25, P26, P27, P28, P29, P30, P31, P32, P33, P34, P35, P36, P37, P38, P39, P40, P41, P42, P43, P44, P45, P46, P47, P48, P49, P50, P51, P52, P53, P54, P55, P56, P57, P58, P59, P60, P61, P62, P63, P64, P65, P66, P67, P68, P69, P70, P71, P72, P73, P74, P75, P76, P77, P78, P79, P80, P81, P82, P83, P84, P85, P86, P87] : List Nat).getD k 0) (0, 0) _ rfl (setRow_heap _ _ zeros768 _ 105 (0, 0) kT) Tryz.underlying105 rfl (by kernel_rfl)) rfl ⟨_, rfl, ?_, below_tab hB76 (Nat.le_refl _) _⟩
 intro k hk
 exact Bx.get (Bx.cast (L' := (List.range 88).map fun k => (([P0, P1, P2, P3, P4, P5, P6, P7, P8, P9, P10, P11, P12, P13, P14, P15, P16, P17, P18, P19, P20, P21, P22, P23, P24, P25, P26, P27, P28, P29, P30, P31, P32, P33, P34, P35, P36, P37, P38, P39, P40, P41, P42, P43, P44, P45, P46, P47, P48, P49, P50, P51, P52, P53, P54, P55, P56, P57, P58, P59, P60, P61, P62, P63, P64, P65, P66, P67, P68, P69, P70, P71, P72, P73, P74, P75, P76, P77, P78, P79, P80, P81, P82, P83, P84, P85, P86, P87] : List Nat).getD k 0, boxV k)) bx76 (by kernel_rfl)) k hk _
end Go.Proofs.YtoobileejdhikaaGreat
