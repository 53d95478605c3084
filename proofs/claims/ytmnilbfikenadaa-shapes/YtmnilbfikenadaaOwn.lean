/-
  What the two sides make of code: the cells of the instructions, one behind the other; and small facts on memory that a call owns.
-/
import Derived.Test.YtmnilbfikenadaaDec1
import Derived.Deep.AppendLies
namespace Go.Proofs.Ytmnilbfikenadaa
open Go.RowKit

/-- OFF and NUM of the instruction i, of the bytes B. -/
def oOf (B : Nat → Int) (i : Nat) : Int := rOff (B (8 * i + 2)) (B (8 * i + 3))
def nOf (B : Nat → Int) (i : Nat) : Int := rNum (B (8 * i + 4)) (B (8 * i + 5)) (B (8 * i + 6)) (B (8 * i + 7))
/-- The cells of the instruction i, as the document's answer has it; and of the first k. -/
def refAt (B : Nat → Int) (i : Nat) : Array Value := refC (B (8 * i)) (B (8 * i + 1)) (oOf B i) (nOf B i)
def refL (B : Nat → Int) : Nat → List Value
  | 0 => []
  | k + 1 => refL B k ++ (refAt B k).toList
/-- The same, as the program has them. -/
def insAt (B : Nat → Int) (i : Nat) : Array Value := #[.int .u8 (B (8 * i)), .int .u8 (B (8 * i + 1) % 16), .int .u8 (B (8 * i + 1) / 16), .int .i16 (oOf B i), .int .i32 (nOf B i)]
def insL (B : Nat → Int) : Nat → List Value
  | 0 => []
  | k + 1 => insL B k ++ (insAt B k).toList

theorem refL_len (B : Nat → Int) (k : Nat) : (refL B k).length = 6 * k := by
  induction k with
  | zero => rfl
  | succ k ih => simp only [refL, List.length_append, ih]; show 6 * k + 6 = _; omega
theorem insL_len (B : Nat → Int) (k : Nat) : (insL B k).length = 5 * k := by
  induction k with
  | zero => rfl
  | succ k ih => simp only [insL, List.length_append, ih]; show 5 * k + 5 = _; omega
theorem refL_at (B : Nat → Int) (n i j : Nat) (hi : i < n) (hj : j < 6) : (refL B n)[6 * i + j]? = (refAt B i)[j]? := by
  induction n with
  | zero => omega
  | succ n ih =>
    simp only [refL]
    by_cases h : i < n
    · rw [List.getElem?_append_left (by rw [refL_len]; omega)]; exact ih h
    · have : i = n := by omega
      subst this
      rw [List.getElem?_append_right (by rw [refL_len]; omega), refL_len, show 6 * i + j - 6 * i = j from by omega]
      simp
theorem insL_at (B : Nat → Int) (n i j : Nat) (hi : i < n) (hj : j < 5) : (insL B n)[5 * i + j]? = (insAt B i)[j]? := by
  induction n with
  | zero => omega
  | succ n ih =>
    simp only [insL]
    by_cases h : i < n
    · rw [List.getElem?_append_left (by rw [insL_len]; omega)]; exact ih h
    · have : i = n := by omega
      subst this
      rw [List.getElem?_append_right (by rw [insL_len]; omega), insL_len, show 5 * i + j - 5 * i = j from by omega]
      simp

theorem ownsRow_below {w w1 : World} {base : Nat} {e : TypeId} {size : Nat} {v : Value} {n : Nat} {xs : List Value} (h : w.ownsRow base e size v n xs) (hb : Below w.heap.size w w1) :
    w1.ownsRow base e size v n xs := by
  obtain ⟨hl, h⟩ := h
  refine ⟨hl, ?_⟩
  rcases h with h | ⟨g, cap, cur, h1, h2, h3, h4⟩
  · exact .inl h
  · exact .inr ⟨g, cap, cur, h1, h2, by rw [hb.block g (lt_of_block h3)]; exact h3, h4⟩
theorem own_base {w : World} {base : Nat} {e : TypeId} {size : Nat} {v : Value} {n : Nat} {xs : List Value} (h : w.ownsRow base e size v n xs) (k : Nat) (hk : v.ownBlock = some k) : base ≤ k := (h.lt k hk).1

/-- A round that makes one element and appends it. -/
theorem round_app {w wr w1 w2 : World} {e : TypeId} {size : Nat} {v : Value} {n : Nat} {xs : List Value} {o : Obj}
    (hown : wr.ownsRow w.heap.size e size v n xs) (hbw : Below w.heap.size w wr) (hb : Below wr.heap.size wr w1)
    (hg : (w1.alloc o).grownBy w2 v.ownBlock) : Below w.heap.size w w2 := by
  have h1 : Below w.heap.size w w1 := hbw.trans (hb.mono hbw.size)
  have h2 := h1.alloc (Nat.le_trans hbw.size hb.size) o
  exact h2.grown hg (by have := hbw.size; have := hb.size; simp; omega) (fun k hk => own_base hown k hk)
end Go.Proofs.Ytmnilbfikenadaa
