/-
  The program's look at one instruction: it gives up, or it returns.
-/
import Derived.Test.YtmnilbfikenadaaTab
namespace Go.Proofs.Ytmnilbfikenadaa
open Go.RowKit

/-- What is thrown. -/
def thrown (er at1 : Int) : List PanicEntry := [{ v := .iface 45 (.agg #[.int .i64 er, .int .i64 at1]), recovered := false }]
def lastB (op b : Int) : Bool := (b == 0) && (op != 41)
def insEnd (fit : Bool) (op b at1 : Int) : Ending := if fit && !lastB op b then .returned (.tuple #[]) else .panicked (thrown 2 at1)

theorem hide0 {p : Prop} (h : p) : Hid p := h
theorem eq_nn (w : World) : Sem.run Try.prog (binOp .eql 73 .nilFunc .nilFunc) w = .ok (.bool true) w := by kernel_rfl
theorem eq_fn (k : Nat) (w : World) : Sem.run Try.prog (binOp .eql 73 (.func (.func k) #[] #[]) .nilFunc) w = .ok (.bool false) w := by kernel_rfl

set_option maxRecDepth 100000 in
set_option maxHeartbeats 1000000 in
theorem instr_none (op d s o n at1 b : Int) (w : World) :
    Calls Try.prog 31 #[.agg #[.nilFunc], .agg #[.int .u8 op, .int .u8 d, .int .u8 s, .int .i16 o, .int .i32 n], .int .i64 at1, .int .i64 b] w fun e w' => e = insEnd false op b at1 ∧ Below w.heap.size w w' := by
  have h1 := eq_nn
  go_enter Try.func31, Try.ntmps31
  go_wp2_with (go_at_call 39; refine (giveUp_any _ _ _).mono ?_; rintro e w' ⟨rfl, rfl⟩)
  exact ⟨rfl, rfl, ((Below.refl _ _).alloc (Nat.le_refl _) _).alloc (by simp) _⟩

set_option maxRecDepth 100000 in
set_option maxHeartbeats 1000000 in
theorem instr_40 (op d s o n at1 b : Int) (w : World) :
    Calls Try.prog 31 #[.agg #[.func (.func 40) #[] #[]], .agg #[.int .u8 op, .int .u8 d, .int .u8 s, .int .i16 o, .int .i32 n], .int .i64 at1, .int .i64 b] w fun e w' => e = insEnd (fWork d s o n) op b at1 ∧ Below w.heap.size w w' := by
  have hq := eq_fn 40
  have bel : ∀ A B C : Obj, Below w.heap.size w (((w.alloc A).alloc B).alloc C) := fun A B C => (((Below.refl _ _).alloc (Nat.le_refl _) _).alloc (by simp) _).alloc (by simp; omega) _
  have HB := hide0 bel
  clear bel
  cases hf : fWork d s o n
  · go_enter Try.func31, Try.ntmps31
    go_wp2_with (first | (go_at_call 39; refine (giveUp_any _ _ _).mono ?_; rintro e w' ⟨rfl, rfl⟩) | (go_at_call 40; refine (fitsWork_any _ _ _ _ _ _ _).mono ?_; rintro e w' ⟨rfl, rfl⟩))
    exact ⟨rfl, by simp [insEnd, thrown], HB.out _ _ _⟩
  · cases hb : (b == 0)
    · go_enter Try.func31, Try.ntmps31
      go_wp2_with (first | (go_at_call 39; refine (giveUp_any _ _ _).mono ?_; rintro e w' ⟨rfl, rfl⟩) | (go_at_call 40; refine (fitsWork_any _ _ _ _ _ _ _).mono ?_; rintro e w' ⟨rfl, rfl⟩))
      go_end0
      exact ⟨by simp [insEnd, lastB, hb], HB.out _ _ _⟩
    · cases ho : (op != 41)
      · go_enter Try.func31, Try.ntmps31
        go_wp2_with (first | (go_at_call 39; refine (giveUp_any _ _ _).mono ?_; rintro e w' ⟨rfl, rfl⟩) | (go_at_call 40; refine (fitsWork_any _ _ _ _ _ _ _).mono ?_; rintro e w' ⟨rfl, rfl⟩))
        go_end0
        exact ⟨by simp [insEnd, lastB, ho], HB.out _ _ _⟩
      · go_enter Try.func31, Try.ntmps31
        go_wp2_with (first | (go_at_call 39; refine (giveUp_any _ _ _).mono ?_; rintro e w' ⟨rfl, rfl⟩) | (go_at_call 40; refine (fitsWork_any _ _ _ _ _ _ _).mono ?_; rintro e w' ⟨rfl, rfl⟩))
        exact ⟨rfl, by simp [insEnd, lastB, thrown, hb, ho], HB.out _ _ _⟩

set_option maxRecDepth 100000 in
set_option maxHeartbeats 1000000 in
theorem instr_41 (op d s o n at1 b : Int) (w : World) :
    Calls Try.prog 31 #[.agg #[.func (.func 41) #[] #[]], .agg #[.int .u8 op, .int .u8 d, .int .u8 s, .int .i16 o, .int .i32 n], .int .i64 at1, .int .i64 b] w fun e w' => e = insEnd (fWorkNum d s o) op b at1 ∧ Below w.heap.size w w' := by
  have hq := eq_fn 41
  have bel : ∀ A B C : Obj, Below w.heap.size w (((w.alloc A).alloc B).alloc C) := fun A B C => (((Below.refl _ _).alloc (Nat.le_refl _) _).alloc (by simp) _).alloc (by simp; omega) _
  have HB := hide0 bel
  clear bel
  cases hf : fWorkNum d s o
  · go_enter Try.func31, Try.ntmps31
    go_wp2_with (first | (go_at_call 39; refine (giveUp_any _ _ _).mono ?_; rintro e w' ⟨rfl, rfl⟩) | (go_at_call 41; refine (fitsWorkNum_any _ _ _ _ _ _ _).mono ?_; rintro e w' ⟨rfl, rfl⟩))
    exact ⟨rfl, by simp [insEnd, thrown], HB.out _ _ _⟩
  · cases hb : (b == 0)
    · go_enter Try.func31, Try.ntmps31
      go_wp2_with (first | (go_at_call 39; refine (giveUp_any _ _ _).mono ?_; rintro e w' ⟨rfl, rfl⟩) | (go_at_call 41; refine (fitsWorkNum_any _ _ _ _ _ _ _).mono ?_; rintro e w' ⟨rfl, rfl⟩))
      go_end0
      exact ⟨by simp [insEnd, lastB, hb], HB.out _ _ _⟩
    · cases ho : (op != 41)
      · go_enter Try.func31, Try.ntmps31
        go_wp2_with (first | (go_at_call 39; refine (giveUp_any _ _ _).mono ?_; rintro e w' ⟨rfl, rfl⟩) | (go_at_call 41; refine (fitsWorkNum_any _ _ _ _ _ _ _).mono ?_; rintro e w' ⟨rfl, rfl⟩))
        go_end0
        exact ⟨by simp [insEnd, lastB, ho], HB.out _ _ _⟩
      · go_enter Try.func31, Try.ntmps31
        go_wp2_with (first | (go_at_call 39; refine (giveUp_any _ _ _).mono ?_; rintro e w' ⟨rfl, rfl⟩) | (go_at_call 41; refine (fitsWorkNum_any _ _ _ _ _ _ _).mono ?_; rintro e w' ⟨rfl, rfl⟩))
        exact ⟨rfl, by simp [insEnd, lastB, thrown, hb, ho], HB.out _ _ _⟩

set_option maxRecDepth 100000 in
set_option maxHeartbeats 1000000 in
theorem instr_42 (op d s o n at1 b : Int) (w : World) :
    Calls Try.prog 31 #[.agg #[.func (.func 42) #[] #[]], .agg #[.int .u8 op, .int .u8 d, .int .u8 s, .int .i16 o, .int .i32 n], .int .i64 at1, .int .i64 b] w fun e w' => e = insEnd (fLoad d s n) op b at1 ∧ Below w.heap.size w w' := by
  have hq := eq_fn 42
  have bel : ∀ A B C : Obj, Below w.heap.size w (((w.alloc A).alloc B).alloc C) := fun A B C => (((Below.refl _ _).alloc (Nat.le_refl _) _).alloc (by simp) _).alloc (by simp; omega) _
  have HB := hide0 bel
  clear bel
  cases hf : fLoad d s n
  · go_enter Try.func31, Try.ntmps31
    go_wp2_with (first | (go_at_call 39; refine (giveUp_any _ _ _).mono ?_; rintro e w' ⟨rfl, rfl⟩) | (go_at_call 42; refine (fitsLoad_any _ _ _ _ _ _ _).mono ?_; rintro e w' ⟨rfl, rfl⟩))
    exact ⟨rfl, by simp [insEnd, thrown], HB.out _ _ _⟩
  · cases hb : (b == 0)
    · go_enter Try.func31, Try.ntmps31
      go_wp2_with (first | (go_at_call 39; refine (giveUp_any _ _ _).mono ?_; rintro e w' ⟨rfl, rfl⟩) | (go_at_call 42; refine (fitsLoad_any _ _ _ _ _ _ _).mono ?_; rintro e w' ⟨rfl, rfl⟩))
      go_end0
      exact ⟨by simp [insEnd, lastB, hb], HB.out _ _ _⟩
    · cases ho : (op != 41)
      · go_enter Try.func31, Try.ntmps31
        go_wp2_with (first | (go_at_call 39; refine (giveUp_any _ _ _).mono ?_; rintro e w' ⟨rfl, rfl⟩) | (go_at_call 42; refine (fitsLoad_any _ _ _ _ _ _ _).mono ?_; rintro e w' ⟨rfl, rfl⟩))
        go_end0
        exact ⟨by simp [insEnd, lastB, ho], HB.out _ _ _⟩
      · go_enter Try.func31, Try.ntmps31
        go_wp2_with (first | (go_at_call 39; refine (giveUp_any _ _ _).mono ?_; rintro e w' ⟨rfl, rfl⟩) | (go_at_call 42; refine (fitsLoad_any _ _ _ _ _ _ _).mono ?_; rintro e w' ⟨rfl, rfl⟩))
        exact ⟨rfl, by simp [insEnd, lastB, thrown, hb, ho], HB.out _ _ _⟩

set_option maxRecDepth 100000 in
set_option maxHeartbeats 1000000 in
theorem instr_43 (op d s o n at1 b : Int) (w : World) :
    Calls Try.prog 31 #[.agg #[.func (.func 43) #[] #[]], .agg #[.int .u8 op, .int .u8 d, .int .u8 s, .int .i16 o, .int .i32 n], .int .i64 at1, .int .i64 b] w fun e w' => e = insEnd (fStore d s n) op b at1 ∧ Below w.heap.size w w' := by
  have hq := eq_fn 43
  have bel : ∀ A B C : Obj, Below w.heap.size w (((w.alloc A).alloc B).alloc C) := fun A B C => (((Below.refl _ _).alloc (Nat.le_refl _) _).alloc (by simp) _).alloc (by simp; omega) _
  have HB := hide0 bel
  clear bel
  cases hf : fStore d s n
  · go_enter Try.func31, Try.ntmps31
    go_wp2_with (first | (go_at_call 39; refine (giveUp_any _ _ _).mono ?_; rintro e w' ⟨rfl, rfl⟩) | (go_at_call 43; refine (fitsStore_any _ _ _ _ _ _ _).mono ?_; rintro e w' ⟨rfl, rfl⟩))
    exact ⟨rfl, by simp [insEnd, thrown], HB.out _ _ _⟩
  · cases hb : (b == 0)
    · go_enter Try.func31, Try.ntmps31
      go_wp2_with (first | (go_at_call 39; refine (giveUp_any _ _ _).mono ?_; rintro e w' ⟨rfl, rfl⟩) | (go_at_call 43; refine (fitsStore_any _ _ _ _ _ _ _).mono ?_; rintro e w' ⟨rfl, rfl⟩))
      go_end0
      exact ⟨by simp [insEnd, lastB, hb], HB.out _ _ _⟩
    · cases ho : (op != 41)
      · go_enter Try.func31, Try.ntmps31
        go_wp2_with (first | (go_at_call 39; refine (giveUp_any _ _ _).mono ?_; rintro e w' ⟨rfl, rfl⟩) | (go_at_call 43; refine (fitsStore_any _ _ _ _ _ _ _).mono ?_; rintro e w' ⟨rfl, rfl⟩))
        go_end0
        exact ⟨by simp [insEnd, lastB, ho], HB.out _ _ _⟩
      · go_enter Try.func31, Try.ntmps31
        go_wp2_with (first | (go_at_call 39; refine (giveUp_any _ _ _).mono ?_; rintro e w' ⟨rfl, rfl⟩) | (go_at_call 43; refine (fitsStore_any _ _ _ _ _ _ _).mono ?_; rintro e w' ⟨rfl, rfl⟩))
        exact ⟨rfl, by simp [insEnd, lastB, thrown, hb, ho], HB.out _ _ _⟩

set_option maxRecDepth 100000 in
set_option maxHeartbeats 1000000 in
theorem instr_44 (op d s o n at1 b : Int) (w : World) (h1 : -32768 ≤ o) (h2 : o ≤ 32767) :
    Calls Try.prog 31 #[.agg #[.func (.func 44) #[] #[]], .agg #[.int .u8 op, .int .u8 d, .int .u8 s, .int .i16 o, .int .i32 n], .int .i64 at1, .int .i64 b] w fun e w' => e = insEnd (fJump d s o n b) op b at1 ∧ Below w.heap.size w w' := by
  have hq := eq_fn 44
  have bel : ∀ A B C : Obj, Below w.heap.size w (((w.alloc A).alloc B).alloc C) := fun A B C => (((Below.refl _ _).alloc (Nat.le_refl _) _).alloc (by simp) _).alloc (by simp; omega) _
  have HB := hide0 bel
  clear bel
  cases hf : fJump d s o n b
  · go_enter Try.func31, Try.ntmps31
    go_wp2_with (first | (go_at_call 39; refine (giveUp_any _ _ _).mono ?_; rintro e w' ⟨rfl, rfl⟩) | (go_at_call 44; refine (fitsJump_any _ _ _ _ _ _ _ h1 h2).mono ?_; rintro e w' ⟨rfl, rfl⟩))
    exact ⟨rfl, by simp [insEnd, thrown], HB.out _ _ _⟩
  · cases hb : (b == 0)
    · go_enter Try.func31, Try.ntmps31
      go_wp2_with (first | (go_at_call 39; refine (giveUp_any _ _ _).mono ?_; rintro e w' ⟨rfl, rfl⟩) | (go_at_call 44; refine (fitsJump_any _ _ _ _ _ _ _ h1 h2).mono ?_; rintro e w' ⟨rfl, rfl⟩))
      go_end0
      exact ⟨by simp [insEnd, lastB, hb], HB.out _ _ _⟩
    · cases ho : (op != 41)
      · go_enter Try.func31, Try.ntmps31
        go_wp2_with (first | (go_at_call 39; refine (giveUp_any _ _ _).mono ?_; rintro e w' ⟨rfl, rfl⟩) | (go_at_call 44; refine (fitsJump_any _ _ _ _ _ _ _ h1 h2).mono ?_; rintro e w' ⟨rfl, rfl⟩))
        go_end0
        exact ⟨by simp [insEnd, lastB, ho], HB.out _ _ _⟩
      · go_enter Try.func31, Try.ntmps31
        go_wp2_with (first | (go_at_call 39; refine (giveUp_any _ _ _).mono ?_; rintro e w' ⟨rfl, rfl⟩) | (go_at_call 44; refine (fitsJump_any _ _ _ _ _ _ _ h1 h2).mono ?_; rintro e w' ⟨rfl, rfl⟩))
        exact ⟨rfl, by simp [insEnd, lastB, thrown, hb, ho], HB.out _ _ _⟩

set_option maxRecDepth 100000 in
set_option maxHeartbeats 1000000 in
theorem instr_45 (op d s o n at1 b : Int) (w : World) (h1 : -32768 ≤ o) (h2 : o ≤ 32767) :
    Calls Try.prog 31 #[.agg #[.func (.func 45) #[] #[]], .agg #[.int .u8 op, .int .u8 d, .int .u8 s, .int .i16 o, .int .i32 n], .int .i64 at1, .int .i64 b] w fun e w' => e = insEnd (fCompare d s o n b) op b at1 ∧ Below w.heap.size w w' := by
  have hq := eq_fn 45
  have bel : ∀ A B C : Obj, Below w.heap.size w (((w.alloc A).alloc B).alloc C) := fun A B C => (((Below.refl _ _).alloc (Nat.le_refl _) _).alloc (by simp) _).alloc (by simp; omega) _
  have HB := hide0 bel
  clear bel
  cases hf : fCompare d s o n b
  · go_enter Try.func31, Try.ntmps31
    go_wp2_with (first | (go_at_call 39; refine (giveUp_any _ _ _).mono ?_; rintro e w' ⟨rfl, rfl⟩) | (go_at_call 45; refine (fitsCompare_any _ _ _ _ _ _ _ h1 h2).mono ?_; rintro e w' ⟨rfl, rfl⟩))
    exact ⟨rfl, by simp [insEnd, thrown], HB.out _ _ _⟩
  · cases hb : (b == 0)
    · go_enter Try.func31, Try.ntmps31
      go_wp2_with (first | (go_at_call 39; refine (giveUp_any _ _ _).mono ?_; rintro e w' ⟨rfl, rfl⟩) | (go_at_call 45; refine (fitsCompare_any _ _ _ _ _ _ _ h1 h2).mono ?_; rintro e w' ⟨rfl, rfl⟩))
      go_end0
      exact ⟨by simp [insEnd, lastB, hb], HB.out _ _ _⟩
    · cases ho : (op != 41)
      · go_enter Try.func31, Try.ntmps31
        go_wp2_with (first | (go_at_call 39; refine (giveUp_any _ _ _).mono ?_; rintro e w' ⟨rfl, rfl⟩) | (go_at_call 45; refine (fitsCompare_any _ _ _ _ _ _ _ h1 h2).mono ?_; rintro e w' ⟨rfl, rfl⟩))
        go_end0
        exact ⟨by simp [insEnd, lastB, ho], HB.out _ _ _⟩
      · go_enter Try.func31, Try.ntmps31
        go_wp2_with (first | (go_at_call 39; refine (giveUp_any _ _ _).mono ?_; rintro e w' ⟨rfl, rfl⟩) | (go_at_call 45; refine (fitsCompare_any _ _ _ _ _ _ _ h1 h2).mono ?_; rintro e w' ⟨rfl, rfl⟩))
        exact ⟨rfl, by simp [insEnd, lastB, thrown, hb, ho], HB.out _ _ _⟩

set_option maxRecDepth 100000 in
set_option maxHeartbeats 1000000 in
theorem instr_46 (op d s o n at1 b : Int) (w : World) (h1 : -32768 ≤ o) (h2 : o ≤ 32767) :
    Calls Try.prog 31 #[.agg #[.func (.func 46) #[] #[]], .agg #[.int .u8 op, .int .u8 d, .int .u8 s, .int .i16 o, .int .i32 n], .int .i64 at1, .int .i64 b] w fun e w' => e = insEnd (fCompareNum d s o b) op b at1 ∧ Below w.heap.size w w' := by
  have hq := eq_fn 46
  have bel : ∀ A B C : Obj, Below w.heap.size w (((w.alloc A).alloc B).alloc C) := fun A B C => (((Below.refl _ _).alloc (Nat.le_refl _) _).alloc (by simp) _).alloc (by simp; omega) _
  have HB := hide0 bel
  clear bel
  cases hf : fCompareNum d s o b
  · go_enter Try.func31, Try.ntmps31
    go_wp2_with (first | (go_at_call 39; refine (giveUp_any _ _ _).mono ?_; rintro e w' ⟨rfl, rfl⟩) | (go_at_call 46; refine (fitsCompareNum_any _ _ _ _ _ _ _ h1 h2).mono ?_; rintro e w' ⟨rfl, rfl⟩))
    exact ⟨rfl, by simp [insEnd, thrown], HB.out _ _ _⟩
  · cases hb : (b == 0)
    · go_enter Try.func31, Try.ntmps31
      go_wp2_with (first | (go_at_call 39; refine (giveUp_any _ _ _).mono ?_; rintro e w' ⟨rfl, rfl⟩) | (go_at_call 46; refine (fitsCompareNum_any _ _ _ _ _ _ _ h1 h2).mono ?_; rintro e w' ⟨rfl, rfl⟩))
      go_end0
      exact ⟨by simp [insEnd, lastB, hb], HB.out _ _ _⟩
    · cases ho : (op != 41)
      · go_enter Try.func31, Try.ntmps31
        go_wp2_with (first | (go_at_call 39; refine (giveUp_any _ _ _).mono ?_; rintro e w' ⟨rfl, rfl⟩) | (go_at_call 46; refine (fitsCompareNum_any _ _ _ _ _ _ _ h1 h2).mono ?_; rintro e w' ⟨rfl, rfl⟩))
        go_end0
        exact ⟨by simp [insEnd, lastB, ho], HB.out _ _ _⟩
      · go_enter Try.func31, Try.ntmps31
        go_wp2_with (first | (go_at_call 39; refine (giveUp_any _ _ _).mono ?_; rintro e w' ⟨rfl, rfl⟩) | (go_at_call 46; refine (fitsCompareNum_any _ _ _ _ _ _ _ h1 h2).mono ?_; rintro e w' ⟨rfl, rfl⟩))
        exact ⟨rfl, by simp [insEnd, lastB, thrown, hb, ho], HB.out _ _ _⟩

set_option maxRecDepth 100000 in
set_option maxHeartbeats 1000000 in
theorem instr_47 (op d s o n at1 b : Int) (w : World) :
    Calls Try.prog 31 #[.agg #[.func (.func 47) #[] #[]], .agg #[.int .u8 op, .int .u8 d, .int .u8 s, .int .i16 o, .int .i32 n], .int .i64 at1, .int .i64 b] w fun e w' => e = insEnd (fCall d s o n) op b at1 ∧ Below w.heap.size w w' := by
  have hq := eq_fn 47
  have bel : ∀ A B C : Obj, Below w.heap.size w (((w.alloc A).alloc B).alloc C) := fun A B C => (((Below.refl _ _).alloc (Nat.le_refl _) _).alloc (by simp) _).alloc (by simp; omega) _
  have HB := hide0 bel
  clear bel
  cases hf : fCall d s o n
  · go_enter Try.func31, Try.ntmps31
    go_wp2_with (first | (go_at_call 39; refine (giveUp_any _ _ _).mono ?_; rintro e w' ⟨rfl, rfl⟩) | (go_at_call 47; refine (fitsCall_any _ _ _ _ _ _ _).mono ?_; rintro e w' ⟨rfl, rfl⟩))
    exact ⟨rfl, by simp [insEnd, thrown], HB.out _ _ _⟩
  · cases hb : (b == 0)
    · go_enter Try.func31, Try.ntmps31
      go_wp2_with (first | (go_at_call 39; refine (giveUp_any _ _ _).mono ?_; rintro e w' ⟨rfl, rfl⟩) | (go_at_call 47; refine (fitsCall_any _ _ _ _ _ _ _).mono ?_; rintro e w' ⟨rfl, rfl⟩))
      go_end0
      exact ⟨by simp [insEnd, lastB, hb], HB.out _ _ _⟩
    · cases ho : (op != 41)
      · go_enter Try.func31, Try.ntmps31
        go_wp2_with (first | (go_at_call 39; refine (giveUp_any _ _ _).mono ?_; rintro e w' ⟨rfl, rfl⟩) | (go_at_call 47; refine (fitsCall_any _ _ _ _ _ _ _).mono ?_; rintro e w' ⟨rfl, rfl⟩))
        go_end0
        exact ⟨by simp [insEnd, lastB, ho], HB.out _ _ _⟩
      · go_enter Try.func31, Try.ntmps31
        go_wp2_with (first | (go_at_call 39; refine (giveUp_any _ _ _).mono ?_; rintro e w' ⟨rfl, rfl⟩) | (go_at_call 47; refine (fitsCall_any _ _ _ _ _ _ _).mono ?_; rintro e w' ⟨rfl, rfl⟩))
        exact ⟨rfl, by simp [insEnd, lastB, thrown, hb, ho], HB.out _ _ _⟩

set_option maxRecDepth 100000 in
set_option maxHeartbeats 1000000 in
theorem instr_48 (op d s o n at1 b : Int) (w : World) :
    Calls Try.prog 31 #[.agg #[.func (.func 48) #[] #[]], .agg #[.int .u8 op, .int .u8 d, .int .u8 s, .int .i16 o, .int .i32 n], .int .i64 at1, .int .i64 b] w fun e w' => e = insEnd (fExit d s o n) op b at1 ∧ Below w.heap.size w w' := by
  have hq := eq_fn 48
  have bel : ∀ A B C : Obj, Below w.heap.size w (((w.alloc A).alloc B).alloc C) := fun A B C => (((Below.refl _ _).alloc (Nat.le_refl _) _).alloc (by simp) _).alloc (by simp; omega) _
  have HB := hide0 bel
  clear bel
  cases hf : fExit d s o n
  · go_enter Try.func31, Try.ntmps31
    go_wp2_with (first | (go_at_call 39; refine (giveUp_any _ _ _).mono ?_; rintro e w' ⟨rfl, rfl⟩) | (go_at_call 48; refine (fitsExit_any _ _ _ _ _ _ _).mono ?_; rintro e w' ⟨rfl, rfl⟩))
    exact ⟨rfl, by simp [insEnd, thrown], HB.out _ _ _⟩
  · cases hb : (b == 0)
    · go_enter Try.func31, Try.ntmps31
      go_wp2_with (first | (go_at_call 39; refine (giveUp_any _ _ _).mono ?_; rintro e w' ⟨rfl, rfl⟩) | (go_at_call 48; refine (fitsExit_any _ _ _ _ _ _ _).mono ?_; rintro e w' ⟨rfl, rfl⟩))
      go_end0
      exact ⟨by simp [insEnd, lastB, hb], HB.out _ _ _⟩
    · cases ho : (op != 41)
      · go_enter Try.func31, Try.ntmps31
        go_wp2_with (first | (go_at_call 39; refine (giveUp_any _ _ _).mono ?_; rintro e w' ⟨rfl, rfl⟩) | (go_at_call 48; refine (fitsExit_any _ _ _ _ _ _ _).mono ?_; rintro e w' ⟨rfl, rfl⟩))
        go_end0
        exact ⟨by simp [insEnd, lastB, ho], HB.out _ _ _⟩
      · go_enter Try.func31, Try.ntmps31
        go_wp2_with (first | (go_at_call 39; refine (giveUp_any _ _ _).mono ?_; rintro e w' ⟨rfl, rfl⟩) | (go_at_call 48; refine (fitsExit_any _ _ _ _ _ _ _).mono ?_; rintro e w' ⟨rfl, rfl⟩))
        exact ⟨rfl, by simp [insEnd, lastB, thrown, hb, ho], HB.out _ _ _⟩

end Go.Proofs.Ytmnilbfikenadaa
