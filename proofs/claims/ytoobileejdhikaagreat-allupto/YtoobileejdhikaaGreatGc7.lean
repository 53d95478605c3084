/-
  Plain: the program's look at an instruction and the document's table say the same.
  Plain: the program's answer of any code, as far as its shape goes, is the document's.
  The statement Shapes: the walk: whatever the code, it answers true.
-/
import Derived.Test.YtoobileejdhikaaGreatGb9
import Derived.Test.YtoobileejdhikaaGreatGc2
import Derived.Test.YtoobileejdhikaaGreatGc3
import Derived.Test.YtoobileejdhikaaGreatGc6
namespace Go.Proofs.YtoobileejdhikaaGreat
open Go.RowKit

def wrongP (x : Nat) (d s o n b : Int) : Bool := !(fitP x d s o n b && !lastB x b)
def wrongR (x : Nat) (d s o n b : Int) : Bool :=
 !rowB ((x : Int) % 128) (decide (128 ≤ (x : Int))) d s o n || (withinB ((x : Int) % 128) 30 36 && decide (b ≤ o)) || ((b == 0) && ((x : Int) % 128 != 41))

theorem wrong_40 (x : Nat) (d s o n b : Int) (h1 : 1 ≤ x) (h2 : x ≤ 11) (_d0 : 0 ≤ d) (_s0 : 0 ≤ s) (_b0 : 0 ≤ b) : wrongP x d s o n b = wrongR x d s o n b := by
 have e : fitP x d s o n b = fWork d s o n := by
  rcases (show x = 1 ∨ x = 2 ∨ x = 3 ∨ x = 4 ∨ x = 5 ∨ x = 6 ∨ x = 7 ∨ x = 8 ∨ x = 9 ∨ x = 10 ∨ x = 11 from by omega) with rfl | rfl | rfl | rfl | rfl | rfl | rfl | rfl | rfl | rfl | rfl
  all_goals rfl
 have m : (x : Int) % 128 = (x : Int) := by omega
 have i : decide (128 ≤ (x : Int)) = false := by simp; omega
 unfold wrongP wrongR
 rw [e, m, i]
 unfold rowB lastB withinB
 rw [Bool.eq_iff_iff]
 simp [fWork]
 (repeat (first | rw [if_pos (by omega)] | rw [if_neg (by omega)]))
 omega

theorem wrong_41 (x : Nat) (d s o n b : Int) (h1 : 129 ≤ x) (h2 : x ≤ 139) (_d0 : 0 ≤ d) (_s0 : 0 ≤ s) (_b0 : 0 ≤ b) : wrongP x d s o n b = wrongR x d s o n b := by
 have e : fitP x d s o n b = fWorkNum d s o := by
  rcases (show x = 129 ∨ x = 130 ∨ x = 131 ∨ x = 132 ∨ x = 133 ∨ x = 134 ∨ x = 135 ∨ x = 136 ∨ x = 137 ∨ x = 138 ∨ x = 139 from by omega) with rfl | rfl | rfl | rfl | rfl | rfl | rfl | rfl | rfl | rfl | rfl
  all_goals rfl
 have m : (x : Int) % 128 = (x : Int) - 128 := by omega
 have i : decide (128 ≤ (x : Int)) = true := by simp; omega
 unfold wrongP wrongR
 rw [e, m, i]
 unfold rowB lastB withinB
 rw [Bool.eq_iff_iff]
 simp [fWorkNum]
 (repeat (first | rw [if_pos (by omega)] | rw [if_neg (by omega)]))
 omega

theorem wrong_42 (x : Nat) (d s o n b : Int) (h1 : 20 ≤ x) (h2 : x ≤ 23) (_d0 : 0 ≤ d) (_s0 : 0 ≤ s) (_b0 : 0 ≤ b) : wrongP x d s o n b = wrongR x d s o n b := by
 have e : fitP x d s o n b = fLoad d s n := by
  rcases (show x = 20 ∨ x = 21 ∨ x = 22 ∨ x = 23 from by omega) with rfl | rfl | rfl | rfl
  all_goals rfl
 have m : (x : Int) % 128 = (x : Int) := by omega
 have i : decide (128 ≤ (x : Int)) = false := by simp; omega
 unfold wrongP wrongR
 rw [e, m, i]
 unfold rowB lastB withinB
 rw [Bool.eq_iff_iff]
 simp [fLoad]
 (repeat (first | rw [if_pos (by omega)] | rw [if_neg (by omega)]))
 omega

theorem wrong_43 (x : Nat) (d s o n b : Int) (h1 : 24 ≤ x) (h2 : x ≤ 27) (_d0 : 0 ≤ d) (_s0 : 0 ≤ s) (_b0 : 0 ≤ b) : wrongP x d s o n b = wrongR x d s o n b := by
 have e : fitP x d s o n b = fStore d s n := by
  rcases (show x = 24 ∨ x = 25 ∨ x = 26 ∨ x = 27 from by omega) with rfl | rfl | rfl | rfl
  all_goals rfl
 have m : (x : Int) % 128 = (x : Int) := by omega
 have i : decide (128 ≤ (x : Int)) = false := by simp; omega
 unfold wrongP wrongR
 rw [e, m, i]
 unfold rowB lastB withinB
 rw [Bool.eq_iff_iff]
 simp [fStore]
 (repeat (first | rw [if_pos (by omega)] | rw [if_neg (by omega)]))
 omega

theorem wrong_44 (x : Nat) (d s o n b : Int) (h1 : 30 ≤ x) (h2 : x ≤ 30) (_d0 : 0 ≤ d) (_s0 : 0 ≤ s) (_b0 : 0 ≤ b) : wrongP x d s o n b = wrongR x d s o n b := by
 have e : fitP x d s o n b = fJump d s o n b := by
  rcases (show x = 30 from by omega) with rfl
  all_goals rfl
 have m : (x : Int) % 128 = (x : Int) := by omega
 have i : decide (128 ≤ (x : Int)) = false := by simp; omega
 unfold wrongP wrongR
 rw [e, m, i]
 unfold rowB lastB withinB
 rw [Bool.eq_iff_iff]
 simp [fJump, leapB]
 (repeat (first | rw [if_pos (by omega)] | rw [if_neg (by omega)]))
 omega

theorem wrong_45 (x : Nat) (d s o n b : Int) (h1 : 31 ≤ x) (h2 : x ≤ 36) (_d0 : 0 ≤ d) (_s0 : 0 ≤ s) (_b0 : 0 ≤ b) : wrongP x d s o n b = wrongR x d s o n b := by
 have e : fitP x d s o n b = fCompare d s o n b := by
  rcases (show x = 31 ∨ x = 32 ∨ x = 33 ∨ x = 34 ∨ x = 35 ∨ x = 36 from by omega) with rfl | rfl | rfl | rfl | rfl | rfl
  all_goals rfl
 have m : (x : Int) % 128 = (x : Int) := by omega
 have i : decide (128 ≤ (x : Int)) = false := by simp; omega
 unfold wrongP wrongR
 rw [e, m, i]
 unfold rowB lastB withinB
 rw [Bool.eq_iff_iff]
 simp [fCompare, leapB]
 (repeat (first | rw [if_pos (by omega)] | rw [if_neg (by omega)]))
 omega

theorem wrong_46 (x : Nat) (d s o n b : Int) (h1 : 159 ≤ x) (h2 : x ≤ 164) (_d0 : 0 ≤ d) (_s0 : 0 ≤ s) (_b0 : 0 ≤ b) : wrongP x d s o n b = wrongR x d s o n b := by
 have e : fitP x d s o n b = fCompareNum d s o b := by
  rcases (show x = 159 ∨ x = 160 ∨ x = 161 ∨ x = 162 ∨ x = 163 ∨ x = 164 from by omega) with rfl | rfl | rfl | rfl | rfl | rfl
  all_goals rfl
 have m : (x : Int) % 128 = (x : Int) - 128 := by omega
 have i : decide (128 ≤ (x : Int)) = true := by simp; omega
 unfold wrongP wrongR
 rw [e, m, i]
 unfold rowB lastB withinB
 rw [Bool.eq_iff_iff]
 simp [fCompareNum, leapB]
 (repeat (first | rw [if_pos (by omega)] | rw [if_neg (by omega)]))
 omega

theorem wrong_47 (x : Nat) (d s o n b : Int) (h1 : 40 ≤ x) (h2 : x ≤ 40) (_d0 : 0 ≤ d) (_s0 : 0 ≤ s) (_b0 : 0 ≤ b) : wrongP x d s o n b = wrongR x d s o n b := by
 have e : fitP x d s o n b = fCall d s o n := by
  rcases (show x = 40 from by omega) with rfl
  all_goals rfl
 have m : (x : Int) % 128 = (x : Int) := by omega
 have i : decide (128 ≤ (x : Int)) = false := by simp; omega
 unfold wrongP wrongR
 rw [e, m, i]
 unfold rowB lastB withinB
 rw [Bool.eq_iff_iff]
 simp [fCall]
 (repeat (first | rw [if_pos (by omega)] | rw [if_neg (by omega)]))
 omega

theorem wrong_48 (x : Nat) (d s o n b : Int) (h1 : 41 ≤ x) (h2 : x ≤ 41) (_d0 : 0 ≤ d) (_s0 : 0 ≤ s) (_b0 : 0 ≤ b) : wrongP x d s o n b = wrongR x d s o n b := by
 have e : fitP x d s o n b = fExit d s o n := by
  rcases (show x = 41 from by omega) with rfl
  all_goals rfl
 have m : (x : Int) % 128 = (x : Int) := by omega
 have i : decide (128 ≤ (x : Int)) = false := by simp; omega
 unfold wrongP wrongR
 rw [e, m, i]
 unfold rowB lastB withinB
 rw [Bool.eq_iff_iff]
 simp [fExit]
 (repeat (first | rw [if_pos (by omega)] | rw [if_neg (by omega)]))
 omega

theorem wrong_none (x : Nat) (d s o n b : Int) (hx : x < 256) (hn : ¬ (1 ≤ x ∧ x ≤ 11) ∧ ¬ (129 ≤ x ∧ x ≤ 139) ∧ ¬ (20 ≤ x ∧ x ≤ 23) ∧ ¬ (24 ≤ x ∧ x ≤ 27) ∧ ¬ (30 ≤ x ∧ x ≤ 30) ∧ ¬ (31 ≤ x ∧ x ≤ 36) ∧ ¬ (159 ≤ x ∧ x ≤ 164) ∧ ¬ (40 ≤ x ∧ x ≤ 40) ∧ ¬ (41 ≤ x ∧ x ≤ 41)) (_s0 : 0 ≤ s) : wrongP x d s o n b = wrongR x d s o n b := by
 have h : opIn x = false := by
  cases hq : opIn x
  ·rfl
  ·simp only [opIn, List.contains_cons, List.contains_nil, Bool.or_eq_true, beq_iff_eq, Bool.or_false] at hq
   omega
 unfold wrongP
 rw [fitP_not x hx h]
 have e2 : rowB ((x : Int) % 128) (decide (128 ≤ (x : Int))) d s o n = false := by
  rw [Bool.eq_false_iff]
  intro hr
  unfold rowB withinB at hr
  by_cases hi : (128 : Int) ≤ x
  ·simp [hi] at hr
   split at hr
   ·omega
   ·omega
  ·simp [hi] at hr
   (repeat' split at hr) <;> omega
 unfold wrongR
 rw [e2]
 simp

theorem wrong_eq (x : Nat) (d s o n b : Int) (hx : x < 256) (d0 : 0 ≤ d) (s0 : 0 ≤ s) (b0 : 0 ≤ b) : wrongP x d s o n b = wrongR x d s o n b := by
 by_cases h1 : 1 ≤ x ∧ x ≤ 11
 ·exact wrong_40 x d s o n b h1.1 h1.2 d0 s0 b0
 by_cases h2 : 129 ≤ x ∧ x ≤ 139
 ·exact wrong_41 x d s o n b h2.1 h2.2 d0 s0 b0
 by_cases h3 : 20 ≤ x ∧ x ≤ 23
 ·exact wrong_42 x d s o n b h3.1 h3.2 d0 s0 b0
 by_cases h4 : 24 ≤ x ∧ x ≤ 27
 ·exact wrong_43 x d s o n b h4.1 h4.2 d0 s0 b0
 by_cases h5 : 30 ≤ x ∧ x ≤ 30
 ·exact wrong_44 x d s o n b h5.1 h5.2 d0 s0 b0
 by_cases h6 : 31 ≤ x ∧ x ≤ 36
 ·exact wrong_45 x d s o n b h6.1 h6.2 d0 s0 b0
 by_cases h7 : 159 ≤ x ∧ x ≤ 164
 ·exact wrong_46 x d s o n b h7.1 h7.2 d0 s0 b0
 by_cases h8 : 40 ≤ x ∧ x ≤ 40
 ·exact wrong_47 x d s o n b h8.1 h8.2 d0 s0 b0
 by_cases h9 : 41 ≤ x ∧ x ≤ 41
 ·exact wrong_48 x d s o n b h9.1 h9.2 d0 s0 b0
 exact wrong_none x d s o n b hx ⟨h1, h2, h3, h4, h5, h6, h7, h8, h9⟩ s0
end Go.Proofs.YtoobileejdhikaaGreat

namespace Go.Proofs.YtoobileejdhikaaGreat
open Go.RowKit

theorem bad_eq (B : Nat → Int) (hB : ∀ i, 0 ≤ B i ∧ B i ≤ 255) (n i : Nat) (hi : i < n) : badP B n i = bad B n i := by
 obtain ⟨x, hx⟩ := Int.eq_ofNat_of_zero_le (hB (8 * i)).1
 have hxlt : x < 256 := by have := (hB (8 * i)).2; omega
 have hd := hB (8 * i + 1)
 have h := wrong_eq x (B (8 * i + 1) % 16) (B (8 * i + 1) / 16) (oOf B i) (nOf B i) ((n : Int) - 1 - i) hxlt (by omega) (by omega) (by omega)
 have h1 : badP B n i = wrongP x (B (8 * i + 1) % 16) (B (8 * i + 1) / 16) (oOf B i) (nOf B i) ((n : Int) - 1 - i) := by
  unfold badP wrongP; rw [hx]; rfl
 have h2 : bad B n i = wrongR x (B (8 * i + 1) % 16) (B (8 * i + 1) / 16) (oOf B i) (nOf B i) ((n : Int) - 1 - i) := by
  unfold bad wrongR rowAt goesAt lastAt
  rw [hx]
  have e1 : decide ((n : Int) ≤ i + 1 + oOf B i) = decide ((n : Int) - 1 - i ≤ oOf B i) := by
   by_cases h : (n : Int) ≤ i + 1 + oOf B i
   ·rw [decide_eq_true h, decide_eq_true (by omega)]
   ·rw [decide_eq_false h, decide_eq_false (by omega)]
  have e2 : ((i : Int) == (n : Int) - 1) = ((n : Int) - 1 - i == 0) := by
   rw [Bool.eq_iff_iff]; simp; omega
  rw [e1, e2]
 rw [h1, h2, h]

theorem same (B : Nat → Int) (hB : ∀ i, 0 ≤ B i ∧ B i ≤ 255) (n base : Nat) (e : Ending) (W : World) (er at1 : Int) (h1 : LoadEnd B n base e W) (h2 : Out B n er at1) :
  (er = 0 ∧ at1 = 0 ∧ (∀ j, j < n → badP B n j = false) ∧ ((∃ k, safeP (piOf B) n = some k ∧ e = noFilter 3 k) ∨
   (safeP (piOf B) n = none ∧ ∃ f g c, e = .returned (.tuple #[.pointer (some ⟨f, 0, none⟩), .int .i64 0, .int .i64 0]) ∧ FiltAt W f g c (codeL B (8 * n)) ∧ base ≤ f ∧ base ≤ g))) ∨
  (∃ i : Nat, er = 2 ∧ at1 = i ∧ e = noFilter 2 i) := by
 rcases h1 with ⟨i, hi, hb, hg, he⟩ | ⟨ha, hp⟩
 ·rcases h2 with ⟨j, hj, hbj, hgj, h3, h4⟩ | ⟨hg2, _⟩
  ·have : i = j := by
    by_cases h : i < j
    ·have := hgj i h; rw [← bad_eq B hB n i hi, hb] at this; exact absurd this (by simp)
    ·by_cases h' : j < i
     ·have := hg j h'; rw [bad_eq B hB n j hj, hbj] at this; exact absurd this (by simp)
     ·omega
   subst this
   exact .inr ⟨i, h3, h4, he⟩
  ·have := hg2 i hi; rw [← bad_eq B hB n i hi, hb] at this; exact absurd this (by simp)
 ·rcases h2 with ⟨j, hj, hbj, _⟩ | ⟨_, h3, h4⟩
  ·rw [← bad_eq B hB n j hj, ha j hj] at hbj; exact absurd hbj (by simp)
  ·exact .inl ⟨h3, h4, ha, hp⟩
end Go.Proofs.YtoobileejdhikaaGreat

namespace Go.Proofs.YtoobileejdhikaaGreat
set_option maxRecDepth 100000
set_option maxHeartbeats 1000000
open Go.RowKit

theorem num_keep (n : Int) (w : World) : Calls Tryz.prog 15 #[.int .i64 n] w fun e w' => e = .returned (.int .i64 n) ∧ w = w' :=
 (num_any n w).mono fun _ _ h => ⟨h.1, h.2.symm⟩

theorem shapes_len (a : Option Addr) (len cap : Nat) (w : World) (hm : len ≤ 9223372036854775807) (h : len = 0 ∨ ¬ len % 8 = 0 ∨ 64 < len / 8) :
  Calls Tryz.prog 3 #[.slice a len cap] w fun e w' => e = .returned (.bool true) ∧ Below w.heap.size w w' := by
 have HH := hide' h
 clear h
 go_enter Tryz.func3, Tryz.ntmps3
 go_wp2_with fail
 refine (two_any _).mono ?_
 rintro e w1 ⟨rfl, rfl⟩
 go_wp2_with fail
 refine (load_two w).mono ?_
 rintro e w2 ⟨⟨f2, g2, c2, rfl, _⟩, hb2⟩
 go_wp2_with (go_at_call 15; refine (num_keep _ _).mono ?_; rintro e w' ⟨rfl, rfl⟩)
 refine (load_len a len cap w2 hm HH.out).mono ?_
 rintro e w3 ⟨rfl, hb3⟩
 simp only [noFilter]
 go_wp2_with fail
 refine (refShape_len a len cap w3 hm HH.out).mono ?_
 rintro e w4 ⟨rfl, hw4⟩
 obtain rfl : w3 = w4 := hw4.symm
 go_wp2_with (go_at_call 15; refine (num_keep _ _).mono ?_; rintro e w' ⟨rfl, rfl⟩)
 go_ret
 exact ⟨rfl, hb2.trans (hb3.mono hb2.size)⟩

theorem shapes_any (B : Nat → Int) (b off len cap n : Nat) (w : World) (hl : len = 8 * n) (hn1 : 1 ≤ n) (hn2 : n ≤ 64) (hcap : len ≤ cap) (hm : cap ≤ 9223372036854775807)
  (hc : ∀ i, i < len → w.cell? ⟨b, off + i, none⟩ = some (.int .u8 (B i))) (hB : ∀ i, 0 ≤ B i ∧ B i ≤ 255) :
  Calls Tryz.prog 3 #[.slice (some ⟨b, off, none⟩) len cap] w fun e w' => e = .returned (.bool true) ∧ Below w.heap.size w w' := by
 have hbl : b < w.heap.size := lt_of_cell (by simpa using hc 0 (by omega))
 have HC := hide' hc
 have HL := hide' hl
 have HB := hide' hB
 clear hc hl hB
 go_enter Tryz.func3, Tryz.ntmps3
 go_wp2_with fail
 refine (two_any _).mono ?_
 rintro e w1 ⟨rfl, rfl⟩
 go_wp2_with fail
 refine (load_two w).mono ?_
 rintro e w2 ⟨⟨f2, g2, c2, rfl, _⟩, hb2⟩
 go_wp2_with (go_at_call 15; refine (num_keep _ _).mono ?_; rintro e w' ⟨rfl, rfl⟩)
 have hc2 : ∀ i, i < len → w2.cell? ⟨b, off + i, none⟩ = some (.int .u8 (B i)) := fun i hi => by rw [hb2.cell (by exact hbl)]; exact HC.out i hi
 refine (load_any B b off len cap n w2 HL.out hn1 hn2 hcap hm hc2 HB.out).mono ?_
 rintro e w3 ⟨he, hb3⟩
 have hc3 : ∀ i, i < len → w3.cell? ⟨b, off + i, none⟩ = some (.int .u8 (B i)) := fun i hi => by rw [hb3.cell (by exact Nat.lt_of_lt_of_le hbl hb2.size)]; exact hc2 i hi
 have HC3 := hide' hc3
 have HE := hide' he
 clear hc2 hc3 he
 have hev : ∃ f x y, e = .returned (.tuple #[f, .int .i64 x, .int .i64 y]) := by
  rcases HE.out with ⟨i, _, _, _, h⟩ | ⟨_, ⟨k, _, h⟩ | ⟨_, f, g, c, h, _⟩⟩
  ·exact ⟨_, _, _, h⟩
  ·exact ⟨_, _, _, h⟩
  ·exact ⟨_, _, _, h⟩
 obtain ⟨f, x, y, rfl⟩ := hev
 go_wp2_with fail
 refine (refShape_any B b off len cap n w3 HL.out hn1 hn2 hcap hm HC3.out HB.out).mono ?_
 rintro e w4 ⟨v, er, at1, rfl, ho, hb4⟩
 have hbel : Below w.heap.size w w4 := (hb2.trans (hb3.mono hb2.size)).trans (hb4.mono (Nat.le_trans hb2.size hb3.size))
 rcases same B HB.out n _ _ _ er at1 HE.out ho with ⟨rfl, rfl, _, ⟨k, _, he⟩ | ⟨_, f', g', c', he, _⟩⟩ | ⟨i, rfl, rfl, he⟩
 ·obtain ⟨rfl, rfl, rfl⟩ : f = .pointer none ∧ x = 3 ∧ y = k := by simpa [noFilter] using he
  go_wp2_with (go_at_call 15; refine (num_keep _ _).mono ?_; rintro e w' ⟨rfl, rfl⟩)
  go_ret
  exact ⟨rfl, hbel⟩
 ·obtain ⟨rfl, rfl, rfl⟩ : f = .pointer (some ⟨f', 0, none⟩) ∧ x = 0 ∧ y = 0 := by simpa using he
  go_wp2_with (go_at_call 15; refine (num_keep _ _).mono ?_; rintro e w' ⟨rfl, rfl⟩)
  go_ret
  exact ⟨rfl, hbel⟩
 ·obtain ⟨rfl, rfl, rfl⟩ : f = .pointer none ∧ x = 2 ∧ y = i := by simpa [noFilter] using he
  go_wp2_with (go_at_call 15; refine (num_keep _ _).mono ?_; rintro e w' ⟨rfl, rfl⟩)
  go_ret
  exact ⟨rfl, hbel⟩
end Go.Proofs.YtoobileejdhikaaGreat
