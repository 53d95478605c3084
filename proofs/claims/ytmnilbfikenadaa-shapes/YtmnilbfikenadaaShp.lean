/-
  The statement Shapes: the walk: whatever the code, it answers true.
-/
import Derived.Test.YtmnilbfikenadaaTwo
import Derived.Test.YtmnilbfikenadaaEqv
namespace Go.Proofs.Ytmnilbfikenadaa
open Go.RowKit

theorem num_keep (n : Int) (w : World) : Calls Try.prog 7 #[.int .i64 n] w fun e w' => e = .returned (.int .i64 n) ∧ w = w' :=
  (num_any n w).mono fun _ _ h => ⟨h.1, h.2.symm⟩

set_option maxRecDepth 100000 in
set_option maxHeartbeats 1000000 in
theorem shapes_len (a : Option Addr) (len cap : Nat) (w : World) (hm : len ≤ 9223372036854775807) (h : len = 0 ∨ ¬ len % 8 = 0 ∨ 64 < len / 8) :
    Calls Try.prog 3 #[.slice a len cap] w fun e w' => e = .returned (.bool true) ∧ Below w.heap.size w w' := by
  have HH := hide' h
  clear h
  go_enter Try.func3, Try.ntmps3
  go_wp2_with fail
  refine (two_any _).mono ?_
  rintro e w1 ⟨rfl, rfl⟩
  go_wp2_with fail
  refine (load_two w).mono ?_
  rintro e w2 ⟨⟨p, rfl⟩, hb2⟩
  go_wp2_with (go_at_call 7; refine (num_keep _ _).mono ?_; rintro e w' ⟨rfl, rfl⟩)
  refine (load_len a len cap w2 hm HH.out).mono ?_
  rintro e w3 ⟨rfl, hb3⟩
  go_wp2_with fail
  refine (refShape_len a len cap w3 hm HH.out).mono ?_
  rintro e w4 ⟨rfl, hw4⟩
  obtain rfl : w3 = w4 := hw4.symm
  go_wp2_with (go_at_call 7; refine (num_keep _ _).mono ?_; rintro e w' ⟨rfl, rfl⟩)
  go_ret
  exact ⟨rfl, hb2.trans (hb3.mono hb2.size)⟩

set_option maxRecDepth 100000 in
set_option maxHeartbeats 1000000 in
theorem shapes_any (B : Nat → Int) (b off len cap n : Nat) (w : World) (hl : len = 8 * n) (hn1 : 1 ≤ n) (hn2 : n ≤ 64) (hcap : len ≤ cap) (hm : cap ≤ 9223372036854775807)
    (hc : ∀ i, i < len → w.cell? ⟨b, off + i, none⟩ = some (.int .u8 (B i))) (hB : ∀ i, 0 ≤ B i ∧ B i ≤ 255) :
    Calls Try.prog 3 #[.slice (some ⟨b, off, none⟩) len cap] w fun e w' => e = .returned (.bool true) ∧ Below w.heap.size w w' := by
  have hbl : b < w.heap.size := lt_of_cell (by simpa using hc 0 (by omega))
  have HC := hide' hc
  have HL := hide' hl
  have HB := hide' hB
  clear hc hl hB
  go_enter Try.func3, Try.ntmps3
  go_wp2_with fail
  refine (two_any _).mono ?_
  rintro e w1 ⟨rfl, rfl⟩
  go_wp2_with fail
  refine (load_two w).mono ?_
  rintro e w2 ⟨⟨p, rfl⟩, hb2⟩
  go_wp2_with (go_at_call 7; refine (num_keep _ _).mono ?_; rintro e w' ⟨rfl, rfl⟩)
  have hc2 : ∀ i, i < len → w2.cell? ⟨b, off + i, none⟩ = some (.int .u8 (B i)) := fun i hi => by rw [hb2.cell (by exact hbl)]; exact HC.out i hi
  refine (load_any B b off len cap n w2 HL.out hn1 hn2 hcap hm hc2 HB.out).mono ?_
  rintro e w3 ⟨he, hb3⟩
  have hc3 : ∀ i, i < len → w3.cell? ⟨b, off + i, none⟩ = some (.int .u8 (B i)) := fun i hi => by rw [hb3.cell (by exact Nat.lt_of_lt_of_le hbl hb2.size)]; exact hc2 i hi
  have HC3 := hide' hc3
  have HE := hide' he
  clear hc2 hc3 he
  have hev : ∃ f x y, e = .returned (.tuple #[f, .int .i64 x, .int .i64 y]) := by
    rcases HE.out with ⟨_, p, h⟩ | ⟨i, _, _, _, h⟩
    · exact ⟨_, _, _, h⟩
    · exact ⟨_, _, _, h⟩
  obtain ⟨f, x, y, rfl⟩ := hev
  go_wp2_with fail
  refine (refShape_any B b off len cap n w3 HL.out hn1 hn2 hcap hm HC3.out HB.out).mono ?_
  rintro e w4 ⟨v, er, at1, rfl, ho, hb4⟩
  have hbel : Below w.heap.size w w4 := (hb2.trans (hb3.mono hb2.size)).trans (hb4.mono (Nat.le_trans hb2.size hb3.size))
  rcases same B HB.out n _ er at1 HE.out ho with ⟨rfl, rfl, p', he⟩ | ⟨i, rfl, rfl, he⟩
  · obtain ⟨rfl, rfl, rfl⟩ : f = .pointer (some p') ∧ x = 0 ∧ y = 0 := by simpa using he
    go_wp2_with (go_at_call 7; refine (num_keep _ _).mono ?_; rintro e w' ⟨rfl, rfl⟩)
    go_ret
    exact ⟨rfl, hbel⟩
  · obtain ⟨rfl, rfl, rfl⟩ : f = .pointer none ∧ x = 2 ∧ y = i := by simpa using he
    go_wp2_with (go_at_call 7; refine (num_keep _ _).mono ?_; rintro e w' ⟨rfl, rfl⟩)
    go_ret
    exact ⟨rfl, hbel⟩
end Go.Proofs.Ytmnilbfikenadaa
