/-
  The look at any instruction whose operation is one of the table's.
  The program's look at the shape of one instruction, and at the length of code.
  The program's look at one instruction, whatever its operation; and at the length of code.
-/
import Derived.Test.YtoobileejdhikaaGreatGb8
namespace Go.Proofs.YtoobileejdhikaaGreat
open Go.RowKit

def opIn (op : Nat) : Bool := [1, 2, 3, 4, 5, 6, 7, 8, 9, 10, 11, 20, 21, 22, 23, 24, 25, 26, 27, 30, 31, 32, 33, 34, 35, 36, 40, 41, 129, 130, 131, 132, 133, 134, 135, 136, 137, 138, 139, 159, 160, 161, 162, 163, 164].contains op
theorem looks_any (p : Nat → Nat) (op d c : Nat) (of n : Int) (s : KS) (W : World) (hbx : ∀ k, k < 88 → W.cell? ⟨p k, 0, none⟩ = some (boxV k)) (hs : s.Ok) (hd : d < 9) (hc : c < 9) (o1 : -32768 ≤ of) (o2 : of ≤ 32767) (h : opIn op = true) : Looks p ⟨op, d, c, of, n⟩ s W := by
 simp only [opIn, List.contains_cons, List.contains_nil, Bool.or_eq_true, beq_iff_eq, Bool.or_false] at h
 rcases h with h | h | h | h | h | h | h | h | h | h | h | h | h | h | h | h | h | h | h | h | h | h | h | h | h | h | h | h | h | h | h | h | h | h | h | h | h | h | h | h | h | h | h | h | h
 ·subst h; exact looks_1 p d c of n s W hbx hs hd hc o1 o2
 ·subst h; exact looks_2 p d c of n s W hbx hs hd hc o1 o2
 ·subst h; exact looks_3 p d c of n s W hbx hs hd hc o1 o2
 ·subst h; exact looks_4 p d c of n s W hbx hs hd hc o1 o2
 ·subst h; exact looks_5 p d c of n s W hbx hs hd hc o1 o2
 ·subst h; exact looks_6 p d c of n s W hbx hs hd hc o1 o2
 ·subst h; exact looks_7 p d c of n s W hbx hs hd hc o1 o2
 ·subst h; exact looks_8 p d c of n s W hbx hs hd hc o1 o2
 ·subst h; exact looks_9 p d c of n s W hbx hs hd hc o1 o2
 ·subst h; exact looks_10 p d c of n s W hbx hs hd hc o1 o2
 ·subst h; exact looks_11 p d c of n s W hbx hs hd hc o1 o2
 ·subst h; exact looks_20 p d c of n s W hbx hs hd hc o1 o2
 ·subst h; exact looks_21 p d c of n s W hbx hs hd hc o1 o2
 ·subst h; exact looks_22 p d c of n s W hbx hs hd hc o1 o2
 ·subst h; exact looks_23 p d c of n s W hbx hs hd hc o1 o2
 ·subst h; exact looks_24 p d c of n s W hbx hs hd hc o1 o2
 ·subst h; exact looks_25 p d c of n s W hbx hs hd hc o1 o2
 ·subst h; exact looks_26 p d c of n s W hbx hs hd hc o1 o2
 ·subst h; exact looks_27 p d c of n s W hbx hs hd hc o1 o2
 ·subst h; exact looks_30 p d c of n s W hbx hs hd hc o1 o2
 ·subst h; exact looks_31 p d c of n s W hbx hs hd hc o1 o2
 ·subst h; exact looks_32 p d c of n s W hbx hs hd hc o1 o2
 ·subst h; exact looks_33 p d c of n s W hbx hs hd hc o1 o2
 ·subst h; exact looks_34 p d c of n s W hbx hs hd hc o1 o2
 ·subst h; exact looks_35 p d c of n s W hbx hs hd hc o1 o2
 ·subst h; exact looks_36 p d c of n s W hbx hs hd hc o1 o2
 ·subst h; exact looks_40 p d c of n s W hbx hs hd hc o1 o2
 ·subst h; exact looks_41 p d c of n s W hbx hs hd hc o1 o2
 ·subst h; exact looks_129 p d c of n s W hbx hs hd hc o1 o2
 ·subst h; exact looks_130 p d c of n s W hbx hs hd hc o1 o2
 ·subst h; exact looks_131 p d c of n s W hbx hs hd hc o1 o2
 ·subst h; exact looks_132 p d c of n s W hbx hs hd hc o1 o2
 ·subst h; exact looks_133 p d c of n s W hbx hs hd hc o1 o2
 ·subst h; exact looks_134 p d c of n s W hbx hs hd hc o1 o2
 ·subst h; exact looks_135 p d c of n s W hbx hs hd hc o1 o2
 ·subst h; exact looks_136 p d c of n s W hbx hs hd hc o1 o2
 ·subst h; exact looks_137 p d c of n s W hbx hs hd hc o1 o2
 ·subst h; exact looks_138 p d c of n s W hbx hs hd hc o1 o2
 ·subst h; exact looks_139 p d c of n s W hbx hs hd hc o1 o2
 ·subst h; exact looks_159 p d c of n s W hbx hs hd hc o1 o2
 ·subst h; exact looks_160 p d c of n s W hbx hs hd hc o1 o2
 ·subst h; exact looks_161 p d c of n s W hbx hs hd hc o1 o2
 ·subst h; exact looks_162 p d c of n s W hbx hs hd hc o1 o2
 ·subst h; exact looks_163 p d c of n s W hbx hs hd hc o1 o2
 ·subst h; exact looks_164 p d c of n s W hbx hs hd hc o1 o2
theorem fitAt_nil (op : Nat) (h : op < 256) : (fitAt op = .nilFunc) ↔ opIn op = false := by
 have hn : ∀ i : Fin 256, (match fitAt i.1 with | .nilFunc => true | _ => false) = !(opIn i.1) := by decide +kernel
 have h1 := hn ⟨op, h⟩
 simp only at h1
 constructor
 ·intro e; rw [e] at h1; simpa using h1.symm
 ·intro e
  rw [e] at h1
  revert h1
  cases fitAt op <;> simp
end Go.Proofs.YtoobileejdhikaaGreat

namespace Go.Proofs.YtoobileejdhikaaGreat
set_option maxRecDepth 100000
set_option maxHeartbeats 1000000
open Go.RowKit

def lastB (op b : Int) : Bool := (b == 0) && (op != 41)
def insEnd (fit : Bool) (op b at1 : Int) : Ending := if fit && !lastB op b then .returned (.tuple #[]) else .panicked (thrown 2 at1)
theorem eq_nn (w : World) : Sem.run Tryz.prog (binOp .eql 100 .nilFunc .nilFunc) w = .ok (.bool true) w := by kernel_rfl
theorem eq_fn (k : Nat) (w : World) : Sem.run Tryz.prog (binOp .eql 100 (.func (.func k) #[] #[]) .nilFunc) w = .ok (.bool false) w := by kernel_rfl

theorem instr_none (L D : Value) (op d s o n at1 b : Int) (w : World) :
  Calls Tryz.prog 64 #[.agg #[.nilFunc, L, D], .agg #[.int .u8 op, .int .u8 d, .int .u8 s, .int .i16 o, .int .i32 n], .int .i64 at1, .int .i64 b] w fun e w' => e = insEnd false op b at1 ∧ Below w.heap.size w w' := by
 have h1 := eq_nn
 go_enter Tryz.func64, Tryz.ntmps64
 go_wp2
 exact ⟨rfl, rfl, ((Below.refl _ _).alloc (Nat.le_refl _) _).alloc (by simp) _⟩

theorem instr_fitsWork (L D : Value) (op d s o n at1 b : Int) (w : World) :
  Calls Tryz.prog 64 #[.agg #[.func (.func 80) #[] #[], L, D], .agg #[.int .u8 op, .int .u8 d, .int .u8 s, .int .i16 o, .int .i32 n], .int .i64 at1, .int .i64 b] w fun e w' => e = insEnd (fWork d s o n) op b at1 ∧ Below w.heap.size w w' := by
 have hq := eq_fn 80
 have bel : ∀ A B C : Obj, Below w.heap.size w (((w.alloc A).alloc B).alloc C) := fun A B C => bel3 w A B C
 have HB := hideK bel
 clear bel
 cases hf : fWork d s o n
 ·go_enter Tryz.func64, Tryz.ntmps64
  go_wp2_with (go_at_call 80; refine (fitsWork_any _ _ _ _ _ _ _).mono ?_; rintro e w' ⟨rfl, rfl⟩)
  exact ⟨rfl, by simp [insEnd, thrown], HB.out _ _ _⟩
 ·cases hb : (b == 0)
  ·go_enter Tryz.func64, Tryz.ntmps64
   go_wp2_with (go_at_call 80; refine (fitsWork_any _ _ _ _ _ _ _).mono ?_; rintro e w' ⟨rfl, rfl⟩)
   go_end0
   exact ⟨by simp [insEnd, lastB, hb], HB.out _ _ _⟩
  ·cases ho : (op != 41)
   ·go_enter Tryz.func64, Tryz.ntmps64
    go_wp2_with (go_at_call 80; refine (fitsWork_any _ _ _ _ _ _ _).mono ?_; rintro e w' ⟨rfl, rfl⟩)
    go_end0
    exact ⟨by simp [insEnd, lastB, ho], HB.out _ _ _⟩
   ·go_enter Tryz.func64, Tryz.ntmps64
    go_wp2_with (go_at_call 80; refine (fitsWork_any _ _ _ _ _ _ _).mono ?_; rintro e w' ⟨rfl, rfl⟩)
    exact ⟨rfl, by simp [insEnd, lastB, thrown, hb, ho], HB.out _ _ _⟩

theorem instr_fitsWorkNum (L D : Value) (op d s o n at1 b : Int) (w : World) :
  Calls Tryz.prog 64 #[.agg #[.func (.func 105) #[] #[], L, D], .agg #[.int .u8 op, .int .u8 d, .int .u8 s, .int .i16 o, .int .i32 n], .int .i64 at1, .int .i64 b] w fun e w' => e = insEnd (fWorkNum d s o) op b at1 ∧ Below w.heap.size w w' := by
 have hq := eq_fn 105
 have bel : ∀ A B C : Obj, Below w.heap.size w (((w.alloc A).alloc B).alloc C) := fun A B C => bel3 w A B C
 have HB := hideK bel
 clear bel
 cases hf : fWorkNum d s o
 ·go_enter Tryz.func64, Tryz.ntmps64
  go_wp2_with (go_at_call 105; refine (fitsWorkNum_any _ _ _ _ _ _ _).mono ?_; rintro e w' ⟨rfl, rfl⟩)
  exact ⟨rfl, by simp [insEnd, thrown], HB.out _ _ _⟩
 ·cases hb : (b == 0)
  ·go_enter Tryz.func64, Tryz.ntmps64
   go_wp2_with (go_at_call 105; refine (fitsWorkNum_any _ _ _ _ _ _ _).mono ?_; rintro e w' ⟨rfl, rfl⟩)
   go_end0
   exact ⟨by simp [insEnd, lastB, hb], HB.out _ _ _⟩
  ·cases ho : (op != 41)
   ·go_enter Tryz.func64, Tryz.ntmps64
    go_wp2_with (go_at_call 105; refine (fitsWorkNum_any _ _ _ _ _ _ _).mono ?_; rintro e w' ⟨rfl, rfl⟩)
    go_end0
    exact ⟨by simp [insEnd, lastB, ho], HB.out _ _ _⟩
   ·go_enter Tryz.func64, Tryz.ntmps64
    go_wp2_with (go_at_call 105; refine (fitsWorkNum_any _ _ _ _ _ _ _).mono ?_; rintro e w' ⟨rfl, rfl⟩)
    exact ⟨rfl, by simp [insEnd, lastB, thrown, hb, ho], HB.out _ _ _⟩

theorem instr_fitsLoad (L D : Value) (op d s o n at1 b : Int) (w : World) :
  Calls Tryz.prog 64 #[.agg #[.func (.func 106) #[] #[], L, D], .agg #[.int .u8 op, .int .u8 d, .int .u8 s, .int .i16 o, .int .i32 n], .int .i64 at1, .int .i64 b] w fun e w' => e = insEnd (fLoad d s n) op b at1 ∧ Below w.heap.size w w' := by
 have hq := eq_fn 106
 have bel : ∀ A B C : Obj, Below w.heap.size w (((w.alloc A).alloc B).alloc C) := fun A B C => bel3 w A B C
 have HB := hideK bel
 clear bel
 cases hf : fLoad d s n
 ·go_enter Tryz.func64, Tryz.ntmps64
  go_wp2_with (go_at_call 106; refine (fitsLoad_any _ _ _ _ _ _ _).mono ?_; rintro e w' ⟨rfl, rfl⟩)
  exact ⟨rfl, by simp [insEnd, thrown], HB.out _ _ _⟩
 ·cases hb : (b == 0)
  ·go_enter Tryz.func64, Tryz.ntmps64
   go_wp2_with (go_at_call 106; refine (fitsLoad_any _ _ _ _ _ _ _).mono ?_; rintro e w' ⟨rfl, rfl⟩)
   go_end0
   exact ⟨by simp [insEnd, lastB, hb], HB.out _ _ _⟩
  ·cases ho : (op != 41)
   ·go_enter Tryz.func64, Tryz.ntmps64
    go_wp2_with (go_at_call 106; refine (fitsLoad_any _ _ _ _ _ _ _).mono ?_; rintro e w' ⟨rfl, rfl⟩)
    go_end0
    exact ⟨by simp [insEnd, lastB, ho], HB.out _ _ _⟩
   ·go_enter Tryz.func64, Tryz.ntmps64
    go_wp2_with (go_at_call 106; refine (fitsLoad_any _ _ _ _ _ _ _).mono ?_; rintro e w' ⟨rfl, rfl⟩)
    exact ⟨rfl, by simp [insEnd, lastB, thrown, hb, ho], HB.out _ _ _⟩

theorem instr_fitsStore (L D : Value) (op d s o n at1 b : Int) (w : World) :
  Calls Tryz.prog 64 #[.agg #[.func (.func 109) #[] #[], L, D], .agg #[.int .u8 op, .int .u8 d, .int .u8 s, .int .i16 o, .int .i32 n], .int .i64 at1, .int .i64 b] w fun e w' => e = insEnd (fStore d s n) op b at1 ∧ Below w.heap.size w w' := by
 have hq := eq_fn 109
 have bel : ∀ A B C : Obj, Below w.heap.size w (((w.alloc A).alloc B).alloc C) := fun A B C => bel3 w A B C
 have HB := hideK bel
 clear bel
 cases hf : fStore d s n
 ·go_enter Tryz.func64, Tryz.ntmps64
  go_wp2_with (go_at_call 109; refine (fitsStore_any _ _ _ _ _ _ _).mono ?_; rintro e w' ⟨rfl, rfl⟩)
  exact ⟨rfl, by simp [insEnd, thrown], HB.out _ _ _⟩
 ·cases hb : (b == 0)
  ·go_enter Tryz.func64, Tryz.ntmps64
   go_wp2_with (go_at_call 109; refine (fitsStore_any _ _ _ _ _ _ _).mono ?_; rintro e w' ⟨rfl, rfl⟩)
   go_end0
   exact ⟨by simp [insEnd, lastB, hb], HB.out _ _ _⟩
  ·cases ho : (op != 41)
   ·go_enter Tryz.func64, Tryz.ntmps64
    go_wp2_with (go_at_call 109; refine (fitsStore_any _ _ _ _ _ _ _).mono ?_; rintro e w' ⟨rfl, rfl⟩)
    go_end0
    exact ⟨by simp [insEnd, lastB, ho], HB.out _ _ _⟩
   ·go_enter Tryz.func64, Tryz.ntmps64
    go_wp2_with (go_at_call 109; refine (fitsStore_any _ _ _ _ _ _ _).mono ?_; rintro e w' ⟨rfl, rfl⟩)
    exact ⟨rfl, by simp [insEnd, lastB, thrown, hb, ho], HB.out _ _ _⟩

theorem instr_fitsJump (L D : Value) (op d s o n at1 b : Int) (w : World) (h1 : -32768 ≤ o) (h2 : o ≤ 32767) :
  Calls Tryz.prog 64 #[.agg #[.func (.func 112) #[] #[], L, D], .agg #[.int .u8 op, .int .u8 d, .int .u8 s, .int .i16 o, .int .i32 n], .int .i64 at1, .int .i64 b] w fun e w' => e = insEnd (fJump d s o n b) op b at1 ∧ Below w.heap.size w w' := by
 have hq := eq_fn 112
 have bel : ∀ A B C : Obj, Below w.heap.size w (((w.alloc A).alloc B).alloc C) := fun A B C => bel3 w A B C
 have HB := hideK bel
 clear bel
 cases hf : fJump d s o n b
 ·go_enter Tryz.func64, Tryz.ntmps64
  go_wp2_with (go_at_call 112; refine (fitsJump_any _ _ _ _ _ _ _ h1 h2).mono ?_; rintro e w' ⟨rfl, rfl⟩)
  exact ⟨rfl, by simp [insEnd, thrown], HB.out _ _ _⟩
 ·cases hb : (b == 0)
  ·go_enter Tryz.func64, Tryz.ntmps64
   go_wp2_with (go_at_call 112; refine (fitsJump_any _ _ _ _ _ _ _ h1 h2).mono ?_; rintro e w' ⟨rfl, rfl⟩)
   go_end0
   exact ⟨by simp [insEnd, lastB, hb], HB.out _ _ _⟩
  ·cases ho : (op != 41)
   ·go_enter Tryz.func64, Tryz.ntmps64
    go_wp2_with (go_at_call 112; refine (fitsJump_any _ _ _ _ _ _ _ h1 h2).mono ?_; rintro e w' ⟨rfl, rfl⟩)
    go_end0
    exact ⟨by simp [insEnd, lastB, ho], HB.out _ _ _⟩
   ·go_enter Tryz.func64, Tryz.ntmps64
    go_wp2_with (go_at_call 112; refine (fitsJump_any _ _ _ _ _ _ _ h1 h2).mono ?_; rintro e w' ⟨rfl, rfl⟩)
    exact ⟨rfl, by simp [insEnd, lastB, thrown, hb, ho], HB.out _ _ _⟩

theorem instr_fitsCompare (L D : Value) (op d s o n at1 b : Int) (w : World) (h1 : -32768 ≤ o) (h2 : o ≤ 32767) :
  Calls Tryz.prog 64 #[.agg #[.func (.func 115) #[] #[], L, D], .agg #[.int .u8 op, .int .u8 d, .int .u8 s, .int .i16 o, .int .i32 n], .int .i64 at1, .int .i64 b] w fun e w' => e = insEnd (fCompare d s o n b) op b at1 ∧ Below w.heap.size w w' := by
 have hq := eq_fn 115
 have bel : ∀ A B C : Obj, Below w.heap.size w (((w.alloc A).alloc B).alloc C) := fun A B C => bel3 w A B C
 have HB := hideK bel
 clear bel
 cases hf : fCompare d s o n b
 ·go_enter Tryz.func64, Tryz.ntmps64
  go_wp2_with (go_at_call 115; refine (fitsCompare_any _ _ _ _ _ _ _ h1 h2).mono ?_; rintro e w' ⟨rfl, rfl⟩)
  exact ⟨rfl, by simp [insEnd, thrown], HB.out _ _ _⟩
 ·cases hb : (b == 0)
  ·go_enter Tryz.func64, Tryz.ntmps64
   go_wp2_with (go_at_call 115; refine (fitsCompare_any _ _ _ _ _ _ _ h1 h2).mono ?_; rintro e w' ⟨rfl, rfl⟩)
   go_end0
   exact ⟨by simp [insEnd, lastB, hb], HB.out _ _ _⟩
  ·cases ho : (op != 41)
   ·go_enter Tryz.func64, Tryz.ntmps64
    go_wp2_with (go_at_call 115; refine (fitsCompare_any _ _ _ _ _ _ _ h1 h2).mono ?_; rintro e w' ⟨rfl, rfl⟩)
    go_end0
    exact ⟨by simp [insEnd, lastB, ho], HB.out _ _ _⟩
   ·go_enter Tryz.func64, Tryz.ntmps64
    go_wp2_with (go_at_call 115; refine (fitsCompare_any _ _ _ _ _ _ _ h1 h2).mono ?_; rintro e w' ⟨rfl, rfl⟩)
    exact ⟨rfl, by simp [insEnd, lastB, thrown, hb, ho], HB.out _ _ _⟩

theorem instr_fitsCompareNum (L D : Value) (op d s o n at1 b : Int) (w : World) (h1 : -32768 ≤ o) (h2 : o ≤ 32767) :
  Calls Tryz.prog 64 #[.agg #[.func (.func 130) #[] #[], L, D], .agg #[.int .u8 op, .int .u8 d, .int .u8 s, .int .i16 o, .int .i32 n], .int .i64 at1, .int .i64 b] w fun e w' => e = insEnd (fCompareNum d s o b) op b at1 ∧ Below w.heap.size w w' := by
 have hq := eq_fn 130
 have bel : ∀ A B C : Obj, Below w.heap.size w (((w.alloc A).alloc B).alloc C) := fun A B C => bel3 w A B C
 have HB := hideK bel
 clear bel
 cases hf : fCompareNum d s o b
 ·go_enter Tryz.func64, Tryz.ntmps64
  go_wp2_with (go_at_call 130; refine (fitsCompareNum_any _ _ _ _ _ _ _ h1 h2).mono ?_; rintro e w' ⟨rfl, rfl⟩)
  exact ⟨rfl, by simp [insEnd, thrown], HB.out _ _ _⟩
 ·cases hb : (b == 0)
  ·go_enter Tryz.func64, Tryz.ntmps64
   go_wp2_with (go_at_call 130; refine (fitsCompareNum_any _ _ _ _ _ _ _ h1 h2).mono ?_; rintro e w' ⟨rfl, rfl⟩)
   go_end0
   exact ⟨by simp [insEnd, lastB, hb], HB.out _ _ _⟩
  ·cases ho : (op != 41)
   ·go_enter Tryz.func64, Tryz.ntmps64
    go_wp2_with (go_at_call 130; refine (fitsCompareNum_any _ _ _ _ _ _ _ h1 h2).mono ?_; rintro e w' ⟨rfl, rfl⟩)
    go_end0
    exact ⟨by simp [insEnd, lastB, ho], HB.out _ _ _⟩
   ·go_enter Tryz.func64, Tryz.ntmps64
    go_wp2_with (go_at_call 130; refine (fitsCompareNum_any _ _ _ _ _ _ _ h1 h2).mono ?_; rintro e w' ⟨rfl, rfl⟩)
    exact ⟨rfl, by simp [insEnd, lastB, thrown, hb, ho], HB.out _ _ _⟩

theorem instr_fitsCall (L D : Value) (op d s o n at1 b : Int) (w : World) :
  Calls Tryz.prog 64 #[.agg #[.func (.func 131) #[] #[], L, D], .agg #[.int .u8 op, .int .u8 d, .int .u8 s, .int .i16 o, .int .i32 n], .int .i64 at1, .int .i64 b] w fun e w' => e = insEnd (fCall d s o n) op b at1 ∧ Below w.heap.size w w' := by
 have hq := eq_fn 131
 have bel : ∀ A B C : Obj, Below w.heap.size w (((w.alloc A).alloc B).alloc C) := fun A B C => bel3 w A B C
 have HB := hideK bel
 clear bel
 cases hf : fCall d s o n
 ·go_enter Tryz.func64, Tryz.ntmps64
  go_wp2_with (go_at_call 131; refine (fitsCall_any _ _ _ _ _ _ _).mono ?_; rintro e w' ⟨rfl, rfl⟩)
  exact ⟨rfl, by simp [insEnd, thrown], HB.out _ _ _⟩
 ·cases hb : (b == 0)
  ·go_enter Tryz.func64, Tryz.ntmps64
   go_wp2_with (go_at_call 131; refine (fitsCall_any _ _ _ _ _ _ _).mono ?_; rintro e w' ⟨rfl, rfl⟩)
   go_end0
   exact ⟨by simp [insEnd, lastB, hb], HB.out _ _ _⟩
  ·cases ho : (op != 41)
   ·go_enter Tryz.func64, Tryz.ntmps64
    go_wp2_with (go_at_call 131; refine (fitsCall_any _ _ _ _ _ _ _).mono ?_; rintro e w' ⟨rfl, rfl⟩)
    go_end0
    exact ⟨by simp [insEnd, lastB, ho], HB.out _ _ _⟩
   ·go_enter Tryz.func64, Tryz.ntmps64
    go_wp2_with (go_at_call 131; refine (fitsCall_any _ _ _ _ _ _ _).mono ?_; rintro e w' ⟨rfl, rfl⟩)
    exact ⟨rfl, by simp [insEnd, lastB, thrown, hb, ho], HB.out _ _ _⟩

theorem instr_fitsExit (L D : Value) (op d s o n at1 b : Int) (w : World) :
  Calls Tryz.prog 64 #[.agg #[.func (.func 134) #[] #[], L, D], .agg #[.int .u8 op, .int .u8 d, .int .u8 s, .int .i16 o, .int .i32 n], .int .i64 at1, .int .i64 b] w fun e w' => e = insEnd (fExit d s o n) op b at1 ∧ Below w.heap.size w w' := by
 have hq := eq_fn 134
 have bel : ∀ A B C : Obj, Below w.heap.size w (((w.alloc A).alloc B).alloc C) := fun A B C => bel3 w A B C
 have HB := hideK bel
 clear bel
 cases hf : fExit d s o n
 ·go_enter Tryz.func64, Tryz.ntmps64
  go_wp2_with (go_at_call 134; refine (fitsExit_any _ _ _ _ _ _ _).mono ?_; rintro e w' ⟨rfl, rfl⟩)
  exact ⟨rfl, by simp [insEnd, thrown], HB.out _ _ _⟩
 ·cases hb : (b == 0)
  ·go_enter Tryz.func64, Tryz.ntmps64
   go_wp2_with (go_at_call 134; refine (fitsExit_any _ _ _ _ _ _ _).mono ?_; rintro e w' ⟨rfl, rfl⟩)
   go_end0
   exact ⟨by simp [insEnd, lastB, hb], HB.out _ _ _⟩
  ·cases ho : (op != 41)
   ·go_enter Tryz.func64, Tryz.ntmps64
    go_wp2_with (go_at_call 134; refine (fitsExit_any _ _ _ _ _ _ _).mono ?_; rintro e w' ⟨rfl, rfl⟩)
    go_end0
    exact ⟨by simp [insEnd, lastB, ho], HB.out _ _ _⟩
   ·go_enter Tryz.func64, Tryz.ntmps64
    go_wp2_with (go_at_call 134; refine (fitsExit_any _ _ _ _ _ _ _).mono ?_; rintro e w' ⟨rfl, rfl⟩)
    exact ⟨rfl, by simp [insEnd, lastB, thrown, hb, ho], HB.out _ _ _⟩
end Go.Proofs.YtoobileejdhikaaGreat

namespace Go.Proofs.YtoobileejdhikaaGreat
set_option maxHeartbeats 400000
open Go.RowKit

def fitP (op : Nat) (d s o n b : Int) : Bool := match op with
 | 1 => fWork d s o n
 | 2 => fWork d s o n
 | 3 => fWork d s o n
 | 4 => fWork d s o n
 | 5 => fWork d s o n
 | 6 => fWork d s o n
 | 7 => fWork d s o n
 | 8 => fWork d s o n
 | 9 => fWork d s o n
 | 10 => fWork d s o n
 | 11 => fWork d s o n
 | 20 => fLoad d s n
 | 21 => fLoad d s n
 | 22 => fLoad d s n
 | 23 => fLoad d s n
 | 24 => fStore d s n
 | 25 => fStore d s n
 | 26 => fStore d s n
 | 27 => fStore d s n
 | 30 => fJump d s o n b
 | 31 => fCompare d s o n b
 | 32 => fCompare d s o n b
 | 33 => fCompare d s o n b
 | 34 => fCompare d s o n b
 | 35 => fCompare d s o n b
 | 36 => fCompare d s o n b
 | 40 => fCall d s o n
 | 41 => fExit d s o n
 | 129 => fWorkNum d s o
 | 130 => fWorkNum d s o
 | 131 => fWorkNum d s o
 | 132 => fWorkNum d s o
 | 133 => fWorkNum d s o
 | 134 => fWorkNum d s o
 | 135 => fWorkNum d s o
 | 136 => fWorkNum d s o
 | 137 => fWorkNum d s o
 | 138 => fWorkNum d s o
 | 139 => fWorkNum d s o
 | 159 => fCompareNum d s o b
 | 160 => fCompareNum d s o b
 | 161 => fCompareNum d s o b
 | 162 => fCompareNum d s o b
 | 163 => fCompareNum d s o b
 | 164 => fCompareNum d s o b
 | _ => false
theorem fitP_not (op : Nat) (h : op < 256) (hn : opIn op = false) (d s o n b : Int) : fitP op d s o n b = false := by
 have key : ∀ i : Fin 256, opIn i.1 = false → (match i.1 with | 1 | 2 | 3 | 4 | 5 | 6 | 7 | 8 | 9 | 10 | 11 | 20 | 21 | 22 | 23 | 24 | 25 | 26 | 27 | 30 | 31 | 32 | 33 | 34 | 35 | 36 | 40 | 41 | 129 | 130 | 131 | 132 | 133 | 134 | 135 | 136 | 137 | 138 | 139 | 159 | 160 | 161 | 162 | 163 | 164 => true | _ => false) = false := by decide +kernel
 have h1 := key ⟨op, h⟩ hn
 dsimp only at h1
 unfold fitP
 split <;> first | rfl | (simp at h1)
theorem instr_any (i : Nat) (hi : i < 256) (L D : Value) (op d s o n at1 b : Int) (w : World) (h1 : -32768 ≤ o) (h2 : o ≤ 32767) :
  Calls Tryz.prog 64 #[.agg #[fitAt i, L, D], .agg #[.int .u8 op, .int .u8 d, .int .u8 s, .int .i16 o, .int .i32 n], .int .i64 at1, .int .i64 b] w fun e w' => e = insEnd (fitP i d s o n b) op b at1 ∧ Below w.heap.size w w' := by
 cases h : opIn i
 ·rw [(fitAt_nil i hi).2 h, fitP_not i hi h]
  exact instr_none L D op d s o n at1 b w
 ·simp only [opIn, List.contains_cons, List.contains_nil, Bool.or_eq_true, beq_iff_eq, Bool.or_false] at h
  rcases h with h | h | h | h | h | h | h | h | h | h | h | h | h | h | h | h | h | h | h | h | h | h | h | h | h | h | h | h | h | h | h | h | h | h | h | h | h | h | h | h | h | h | h | h | h
  ·subst h; exact instr_fitsWork L D op d s o n at1 b w
  ·subst h; exact instr_fitsWork L D op d s o n at1 b w
  ·subst h; exact instr_fitsWork L D op d s o n at1 b w
  ·subst h; exact instr_fitsWork L D op d s o n at1 b w
  ·subst h; exact instr_fitsWork L D op d s o n at1 b w
  ·subst h; exact instr_fitsWork L D op d s o n at1 b w
  ·subst h; exact instr_fitsWork L D op d s o n at1 b w
  ·subst h; exact instr_fitsWork L D op d s o n at1 b w
  ·subst h; exact instr_fitsWork L D op d s o n at1 b w
  ·subst h; exact instr_fitsWork L D op d s o n at1 b w
  ·subst h; exact instr_fitsWork L D op d s o n at1 b w
  ·subst h; exact instr_fitsLoad L D op d s o n at1 b w
  ·subst h; exact instr_fitsLoad L D op d s o n at1 b w
  ·subst h; exact instr_fitsLoad L D op d s o n at1 b w
  ·subst h; exact instr_fitsLoad L D op d s o n at1 b w
  ·subst h; exact instr_fitsStore L D op d s o n at1 b w
  ·subst h; exact instr_fitsStore L D op d s o n at1 b w
  ·subst h; exact instr_fitsStore L D op d s o n at1 b w
  ·subst h; exact instr_fitsStore L D op d s o n at1 b w
  ·subst h; exact instr_fitsJump L D op d s o n at1 b w h1 h2
  ·subst h; exact instr_fitsCompare L D op d s o n at1 b w h1 h2
  ·subst h; exact instr_fitsCompare L D op d s o n at1 b w h1 h2
  ·subst h; exact instr_fitsCompare L D op d s o n at1 b w h1 h2
  ·subst h; exact instr_fitsCompare L D op d s o n at1 b w h1 h2
  ·subst h; exact instr_fitsCompare L D op d s o n at1 b w h1 h2
  ·subst h; exact instr_fitsCompare L D op d s o n at1 b w h1 h2
  ·subst h; exact instr_fitsCall L D op d s o n at1 b w
  ·subst h; exact instr_fitsExit L D op d s o n at1 b w
  ·subst h; exact instr_fitsWorkNum L D op d s o n at1 b w
  ·subst h; exact instr_fitsWorkNum L D op d s o n at1 b w
  ·subst h; exact instr_fitsWorkNum L D op d s o n at1 b w
  ·subst h; exact instr_fitsWorkNum L D op d s o n at1 b w
  ·subst h; exact instr_fitsWorkNum L D op d s o n at1 b w
  ·subst h; exact instr_fitsWorkNum L D op d s o n at1 b w
  ·subst h; exact instr_fitsWorkNum L D op d s o n at1 b w
  ·subst h; exact instr_fitsWorkNum L D op d s o n at1 b w
  ·subst h; exact instr_fitsWorkNum L D op d s o n at1 b w
  ·subst h; exact instr_fitsWorkNum L D op d s o n at1 b w
  ·subst h; exact instr_fitsWorkNum L D op d s o n at1 b w
  ·subst h; exact instr_fitsCompareNum L D op d s o n at1 b w h1 h2
  ·subst h; exact instr_fitsCompareNum L D op d s o n at1 b w h1 h2
  ·subst h; exact instr_fitsCompareNum L D op d s o n at1 b w h1 h2
  ·subst h; exact instr_fitsCompareNum L D op d s o n at1 b w h1 h2
  ·subst h; exact instr_fitsCompareNum L D op d s o n at1 b w h1 h2
  ·subst h; exact instr_fitsCompareNum L D op d s o n at1 b w h1 h2

theorem length_ok (a : Option Addr) (len cap n : Nat) (w : World) (hl : len = 8 * n) (hn1 : 1 ≤ n) (hn2 : n ≤ 64) :
  Calls Tryz.prog 63 #[.slice a len cap] w fun e w' => e = .returned (.tuple #[]) ∧ w' = w := by
 have q0 : ((len : Int) == 0) = false := by simp; omega
 have q1 : ((len : Int) % 8 != 0) = false := by simp; omega
 have q2 : ((64 : Int) < (len : Int) / 8) = False := by simp; omega
 have q3 : (len : Int) ≤ 512 := by omega
 clear hl
 go_enter Tryz.func63, Tryz.ntmps63
 go_wp2
 go_end0
 exact ⟨rfl, rfl⟩

theorem length_bad (a : Option Addr) (len cap : Nat) (w : World) (hm : len ≤ 9223372036854775807) (h : len = 0 ∨ ¬ len % 8 = 0 ∨ 64 < len / 8) :
  Calls Tryz.prog 63 #[.slice a len cap] w fun e w' => e = .panicked (thrown 1 0) ∧ w' = w := by
 by_cases h1 : len = 0
 ·subst h1
  go_enter Tryz.func63, Tryz.ntmps63
  go_wp2
  exact ⟨rfl, rfl, rfl⟩
 ·have q0 : ((len : Int) == 0) = false := by simp; omega
  by_cases h2 : len % 8 = 0
  ·have q1 : ((len : Int) % 8 != 0) = false := by simp; omega
   have q2 : (64 : Int) < (len : Int) / 8 := by omega
   go_enter Tryz.func63, Tryz.ntmps63
   go_wp2
   exact ⟨rfl, rfl, rfl⟩
  ·have q1 : ((len : Int) % 8 != 0) = true := by simp; omega
   go_enter Tryz.func63, Tryz.ntmps63
   go_wp2
   exact ⟨rfl, rfl, rfl⟩
end Go.Proofs.YtoobileejdhikaaGreat
