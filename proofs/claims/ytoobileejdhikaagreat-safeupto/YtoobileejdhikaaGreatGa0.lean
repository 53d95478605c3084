/-
  Contracts of the small functions of the program and of the document's answer: each returns what its text says and leaves memory as it was, but for a box of its own.
  The operations of the program's table, by their numbers.
  Moves of a walk through a region that draws its order, in short.
  Moves of a walk through a region that draws its order: two or three operations may come up.
-/
import Derived.Test.YtoobileejdhikaaGreatProg
import Derived.WalkKit
import Derived.WalkSpells
import Derived.WalkLawsBesides
import Derived.Deep.RegionHeld3
namespace Go.Proofs.YtoobileejdhikaaGreat
set_option maxHeartbeats 400000
open Go.RowKit

def withinB (n l h : Int) : Bool := decide (l ≤ n) && decide (n ≤ h)
def leapB (off b : Int) : Bool := decide (0 ≤ off) && decide (off < b)

theorem ret_bool {a b : Bool} (h : a = b) : Ending.returned (.bool a) = .returned (.bool b) := by rw [h]
theorem ret_int {k : IntKind} {a b : Int} (h : a = b) : Ending.returned (.int k a) = .returned (.int k b) := by rw [h]

theorem within_any (n l h : Int) (w : World) :
  Calls Tryz.prog 40 #[.int .i64 n, .int .i64 l, .int .i64 h] w fun e w' => e = .returned (.bool (withinB n l h)) ∧ w' = w := by
 go_enter Tryz.func40, Tryz.ntmps40
 go_wp2
 all_goals go_ret
 ·have hl : l ≤ n := by assumption
  exact ⟨ret_bool (by simp [withinB, hl]), rfl⟩
 ·have hl : n < l := by assumption
  exact ⟨ret_bool (by simp [withinB]; omega), rfl⟩

theorem num_any (n : Int) (w : World) :
  Calls Tryz.prog 15 #[.int .i64 n] w fun e w' => e = .returned (.int .i64 n) ∧ w' = w := by
 go_enter Tryz.func15, Tryz.ntmps15
 go_wp2
 go_ret
 exact ⟨rfl, rfl⟩

theorem leap_any (off b : Int) (w : World) (h1 : -32768 ≤ off) (h2 : off ≤ 32767) :
  Calls Tryz.prog 169 #[.int .i16 off, .int .i64 b] w fun e w' => e = .returned (.bool (leapB off b)) ∧ w' = w := by
 go_enter Tryz.func169, Tryz.ntmps169
 go_wp2
 all_goals go_ret
 ·have hl : 0 ≤ off := by assumption
  exact ⟨ret_bool (by simp [leapB, hl]), rfl⟩
 ·have hl : off < 0 := by assumption
  exact ⟨ret_bool (by simp [leapB]; omega), rfl⟩

def insV (op d s o n : Int) : Value := .agg #[.int .u8 op, .int .u8 d, .int .u8 s, .int .i16 o, .int .i32 n]

def fWork (d s o n : Int) : Bool := decide (d ≤ 6) && decide (s ≤ 7) && (o == 0) && (n == 0)
def fWorkNum (d s o : Int) : Bool := decide (d ≤ 6) && (s == 0) && (o == 0)
def fLoad (d s n : Int) : Bool := decide (d ≤ 6) && decide (s ≤ 7) && (n == 0)
def fStore (d s n : Int) : Bool := decide (d ≤ 7) && decide (s ≤ 7) && (n == 0)
def fJump (d s o n b : Int) : Bool := (d == 0) && (s == 0) && (n == 0) && leapB o b
def fCompare (d s o n b : Int) : Bool := decide (d ≤ 7) && decide (s ≤ 7) && (n == 0) && leapB o b
def fCompareNum (d s o b : Int) : Bool := decide (d ≤ 7) && (s == 0) && leapB o b
def fCall (d s o n : Int) : Bool := (d == 0) && (s == 0) && (o == 0) && decide (1 ≤ n) && decide (n ≤ 3)
def fExit (d s o n : Int) : Bool := (d == 0) && (s == 0) && (o == 0) && (n == 0)

theorem fitsWork_any (op d s o n b : Int) (w : World) :
  Calls Tryz.prog 80 #[insV op d s o n, .int .i64 b] w fun e w' => e = .returned (.bool (fWork d s o n)) ∧ w' = w.alloc (.cells #[.int .u8 op, .int .u8 d, .int .u8 s, .int .i16 o, .int .i32 n] 121) := by
 unfold insV
 go_enter Tryz.func80, Tryz.ntmps80
 go_wp2
 all_goals go_ret
 all_goals (subst_vars; refine ⟨ret_bool ?_, rfl⟩; first | (simp_all [fWork]; done) | (simp_all [fWork]; omega))

theorem fitsWorkNum_any (op d s o n b : Int) (w : World) :
  Calls Tryz.prog 105 #[insV op d s o n, .int .i64 b] w fun e w' => e = .returned (.bool (fWorkNum d s o)) ∧ w' = w.alloc (.cells #[.int .u8 op, .int .u8 d, .int .u8 s, .int .i16 o, .int .i32 n] 121) := by
 unfold insV
 go_enter Tryz.func105, Tryz.ntmps105
 go_wp2
 all_goals go_ret
 all_goals (subst_vars; refine ⟨ret_bool ?_, rfl⟩; first | (simp_all [fWorkNum]; done) | (simp_all [fWorkNum]; omega))

theorem fitsLoad_any (op d s o n b : Int) (w : World) :
  Calls Tryz.prog 106 #[insV op d s o n, .int .i64 b] w fun e w' => e = .returned (.bool (fLoad d s n)) ∧ w' = w.alloc (.cells #[.int .u8 op, .int .u8 d, .int .u8 s, .int .i16 o, .int .i32 n] 121) := by
 unfold insV
 go_enter Tryz.func106, Tryz.ntmps106
 go_wp2
 all_goals go_ret
 all_goals (subst_vars; refine ⟨ret_bool ?_, rfl⟩; first | (simp_all [fLoad]; done) | (simp_all [fLoad]; omega))

theorem fitsStore_any (op d s o n b : Int) (w : World) :
  Calls Tryz.prog 109 #[insV op d s o n, .int .i64 b] w fun e w' => e = .returned (.bool (fStore d s n)) ∧ w' = w.alloc (.cells #[.int .u8 op, .int .u8 d, .int .u8 s, .int .i16 o, .int .i32 n] 121) := by
 unfold insV
 go_enter Tryz.func109, Tryz.ntmps109
 go_wp2
 all_goals go_ret
 all_goals (subst_vars; refine ⟨ret_bool ?_, rfl⟩; first | (simp_all [fStore]; done) | (simp_all [fStore]; omega))

theorem fitsJump_any (op d s o n b : Int) (w : World) (h1 : -32768 ≤ o) (h2 : o ≤ 32767) :
  Calls Tryz.prog 112 #[insV op d s o n, .int .i64 b] w fun e w' => e = .returned (.bool (fJump d s o n b)) ∧ w' = w.alloc (.cells #[.int .u8 op, .int .u8 d, .int .u8 s, .int .i16 o, .int .i32 n] 121) := by
 unfold insV
 go_enter Tryz.func112, Tryz.ntmps112
 go_wp2_with (go_at_call 169; refine (leap_any _ _ _ (by omega) (by omega)).mono ?_; rintro e w' ⟨rfl, rfl⟩)
 all_goals go_ret
 all_goals (subst_vars; refine ⟨ret_bool ?_, rfl⟩; first | (simp_all [fJump]; done) | (simp_all [fJump]; omega))

theorem fitsCompare_any (op d s o n b : Int) (w : World) (h1 : -32768 ≤ o) (h2 : o ≤ 32767) :
  Calls Tryz.prog 115 #[insV op d s o n, .int .i64 b] w fun e w' => e = .returned (.bool (fCompare d s o n b)) ∧ w' = w.alloc (.cells #[.int .u8 op, .int .u8 d, .int .u8 s, .int .i16 o, .int .i32 n] 121) := by
 unfold insV
 go_enter Tryz.func115, Tryz.ntmps115
 go_wp2_with (go_at_call 169; refine (leap_any _ _ _ (by omega) (by omega)).mono ?_; rintro e w' ⟨rfl, rfl⟩)
 all_goals go_ret
 all_goals (subst_vars; refine ⟨ret_bool ?_, rfl⟩; first | (simp_all [fCompare]; done) | (simp_all [fCompare]; omega))

theorem fitsCompareNum_any (op d s o n b : Int) (w : World) (h1 : -32768 ≤ o) (h2 : o ≤ 32767) :
  Calls Tryz.prog 130 #[insV op d s o n, .int .i64 b] w fun e w' => e = .returned (.bool (fCompareNum d s o b)) ∧ w' = w.alloc (.cells #[.int .u8 op, .int .u8 d, .int .u8 s, .int .i16 o, .int .i32 n] 121) := by
 unfold insV
 go_enter Tryz.func130, Tryz.ntmps130
 go_wp2_with (go_at_call 169; refine (leap_any _ _ _ (by omega) (by omega)).mono ?_; rintro e w' ⟨rfl, rfl⟩)
 all_goals go_ret
 all_goals (subst_vars; refine ⟨ret_bool ?_, rfl⟩; first | (simp_all [fCompareNum]; done) | (simp_all [fCompareNum]; omega))

theorem fitsCall_any (op d s o n b : Int) (w : World) :
  Calls Tryz.prog 131 #[insV op d s o n, .int .i64 b] w fun e w' => e = .returned (.bool (fCall d s o n)) ∧ w' = w.alloc (.cells #[.int .u8 op, .int .u8 d, .int .u8 s, .int .i16 o, .int .i32 n] 121) := by
 unfold insV
 go_enter Tryz.func131, Tryz.ntmps131
 go_wp2
 all_goals go_ret
 all_goals (subst_vars; refine ⟨ret_bool ?_, rfl⟩; first | (simp_all [fCall]; done) | (simp_all [fCall]; omega))

theorem fitsExit_any (op d s o n b : Int) (w : World) :
  Calls Tryz.prog 134 #[insV op d s o n, .int .i64 b] w fun e w' => e = .returned (.bool (fExit d s o n)) ∧ w' = w.alloc (.cells #[.int .u8 op, .int .u8 d, .int .u8 s, .int .i16 o, .int .i32 n] 121) := by
 unfold insV
 go_enter Tryz.func134, Tryz.ntmps134
 go_wp2
 all_goals go_ret
 all_goals (subst_vars; refine ⟨ret_bool ?_, rfl⟩; first | (simp_all [fExit]; done) | (simp_all [fExit]; omega))

end Go.Proofs.YtoobileejdhikaaGreat

namespace Go.Proofs.YtoobileejdhikaaGreat
open Go.RowKit

def opTab (op : Nat) : Bool := [1, 2, 3, 4, 5, 6, 7, 8, 9, 10, 11, 20, 21, 22, 23, 24, 25, 26, 27, 30, 31, 32, 33, 34, 35, 36, 40, 41, 129, 130, 131, 132, 133, 134, 135, 136, 137, 138, 139, 159, 160, 161, 162, 163, 164].contains op
theorem opTab_lt {op : Nat} (h : opTab op = true) : op < 256 := by
 simp only [opTab, List.contains_cons, List.contains_nil, Bool.or_eq_true, beq_iff_eq, Bool.or_false] at h
 omega
end Go.Proofs.YtoobileejdhikaaGreat

namespace Go.Proofs.YtoobileejdhikaaGreat
open Go.RowKit

theorem tkH {P : Program} {ops : Array Oper} {Q : Exit → Act → World → Prop} {md : Region.Mode} {S : World → Prop} (i : Nat) {oi : Oper} {v : Value} {fuel : Nat} {listed : Array Bool} {a : Act} {w : World}
  (h : wpAnyH P md ops Q S fuel (listed.setIfInBounds i true) (a.put oi.dst v) w) (hi : ops[i]? = some oi := by rfl) (hs : Region.noSelect ops = true := by kernel_rfl) (hf : Region.free md ops listed i = true := by kernel_rfl)
  (hr : (Region.ready md ops listed).contains i = true := by kernel_rfl) (hQ : ∀ c a w, Q (.panic c) (a.put oi.dst v) w → Q (.panic c) a w := by exact fun _ _ _ h => h)
  (hy : YieldsIf P ops S oi v a := by (refine Or.inl ⟨by rfl, ?_⟩; intro wS hSw; (try dsimp only at hSw); go_simp; (first | done | with_reducible rfl))) (hS : S w := by assumption) : wpAnyH P md ops Q S (fuel + 1) listed a w :=
 wpAnyH_take hi hs hf hr hQ hy hS h
theorem tkY {P : Program} {ops : Array Oper} {Q : Exit → Act → World → Prop} {md : Region.Mode} {S : World → Prop} (i : Nat) {oi : Oper} {v : Value} {fuel : Nat} {listed : Array Bool} {a : Act} {w : World}
  (hi : ops[i]? = some oi) (hy : YieldsIf P ops S oi v a) (h : wpAnyH P md ops Q S fuel (listed.setIfInBounds i true) (a.put oi.dst v) w) (hs : Region.noSelect ops = true := by kernel_rfl) (hf : Region.free md ops listed i = true := by kernel_rfl)
  (hr : (Region.ready md ops listed).contains i = true := by kernel_rfl) (hQ : ∀ c a w, Q (.panic c) (a.put oi.dst v) w → Q (.panic c) a w := by exact fun _ _ _ h => h) (hS : S w := by assumption) : wpAnyH P md ops Q S (fuel + 1) listed a w :=
 wpAnyH_take hi hs hf hr hQ hy hS h
theorem rdH {P : Program} {ops : Array Oper} {Q : Exit → Act → World → Prop} {md : Region.Mode} {S : World → Prop} (i : Nat) {o : Oper} {fuel : Nat} {listed : Array Bool} {a : Act} {w : World}
  (h : ∀ K' : Act → World → Prop, Shut (∀ a w, S w → (S w → wpAnyH P md ops Q S fuel (listed.setIfInBounds i true) a w) → K' a w) → if Region.wanted o (yielded ops a.tmps) = true then Oper.wp P o a w K' Q else K' (a.put o.dst undef) w)
  (ho : ops[i]? = some o := by rfl) (hr : Region.ready md ops listed = [i] := by kernel_rfl) : wpAnyH P md ops Q S (fuel + 1) listed a w :=
 wpAnyH_ready hr (by simp) (AllReadyH.cons ho h AllReadyH.nil)
end Go.Proofs.YtoobileejdhikaaGreat

namespace Go.Proofs.YtoobileejdhikaaGreat
open Go.RowKit
abbrev ReadyAt (P : Program) (md : Region.Mode) (ops : Array Oper) (Q : Exit → Act → World → Prop) (S : World → Prop) (i : Nat) (o : Oper) (fuel : Nat) (listed : Array Bool) (a : Act) (w : World) : Prop :=
 ∀ K' : Act → World → Prop, Shut (∀ a w, S w → (S w → wpAnyH P md ops Q S fuel (listed.setIfInBounds i true) a w) → K' a w) → if Region.wanted o (yielded ops a.tmps) = true then Oper.wp P o a w K' Q else K' (a.put o.dst undef) w
theorem rdH1 {P : Program} {ops : Array Oper} {Q : Exit → Act → World → Prop} {md : Region.Mode} {S : World → Prop} (i : Nat) {o : Oper} {fuel : Nat} {listed : Array Bool} {a : Act} {w : World}
  (h : ReadyAt P md ops Q S i o fuel listed a w) (ho : ops[i]? = some o := by rfl) (hr : Region.ready md ops listed = [i] := by decide +kernel) : wpAnyH P md ops Q S (fuel + 1) listed a w :=
 wpAnyH_ready hr (by simp) (AllReadyH.cons ho h AllReadyH.nil)
theorem rdH2 {P : Program} {ops : Array Oper} {Q : Exit → Act → World → Prop} {md : Region.Mode} {S : World → Prop} (i j : Nat) {o p : Oper} {fuel : Nat} {listed : Array Bool} {a : Act} {w : World}
  (h : ReadyAt P md ops Q S i o fuel listed a w) (k : ReadyAt P md ops Q S j p fuel listed a w)
  (ho : ops[i]? = some o := by rfl) (hp : ops[j]? = some p := by rfl) (hr : Region.ready md ops listed = [i, j] := by decide +kernel) : wpAnyH P md ops Q S (fuel + 1) listed a w :=
 wpAnyH_ready hr (by simp) (AllReadyH.cons ho h (AllReadyH.cons hp k AllReadyH.nil))
theorem rdH3 {P : Program} {ops : Array Oper} {Q : Exit → Act → World → Prop} {md : Region.Mode} {S : World → Prop} (i j l : Nat) {o p q : Oper} {fuel : Nat} {listed : Array Bool} {a : Act} {w : World}
  (h : ReadyAt P md ops Q S i o fuel listed a w) (k : ReadyAt P md ops Q S j p fuel listed a w) (m : ReadyAt P md ops Q S l q fuel listed a w)
  (ho : ops[i]? = some o := by rfl) (hp : ops[j]? = some p := by rfl) (hq : ops[l]? = some q := by rfl) (hr : Region.ready md ops listed = [i, j, l] := by decide +kernel) : wpAnyH P md ops Q S (fuel + 1) listed a w :=
 wpAnyH_ready hr (by simp) (AllReadyH.cons ho h (AllReadyH.cons hp k (AllReadyH.cons hq m AllReadyH.nil)))
end Go.Proofs.YtoobileejdhikaaGreat
