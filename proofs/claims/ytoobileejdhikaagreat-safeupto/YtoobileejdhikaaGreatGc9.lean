/-
  The program carries out any instruction of a right shape.
  The program's Out: code is carried out, instruction by instruction.
  The program's Code and Run.
-/
import Derived.Test.YtoobileejdhikaaGreatGc8
import Derived.Test.YtoobileejdhikaaGreatGc5
import Derived.Test.YtoobileejdhikaaGreatGb7
import Derived.Test.YtoobileejdhikaaGreatGa0
import Derived.Test.YtoobileejdhikaaGreatGg4
import Derived.Deep.DeepCutAuto
namespace Go.Proofs.YtoobileejdhikaaGreat
set_option maxRecDepth 100000
set_option maxHeartbeats 400000
open Go.RowKit

structure MOk (s : MS) : Prop where
 v0 : ∀ r, r < 9 → 0 ≤ s.v r
 v1 : ∀ r, r < 9 → s.v r < 18446744073709551616
 m : ∀ i, 0 ≤ s.m i ∧ s.m i ≤ 255
 f0 : 1000 ≤ s.f
 fl : s.f ≤ s.l
 l1 : s.l ≤ 1096
def acc (s : MS) (r : Nat) (of : Int) : Int := s.v r + of - 1000
def accOk (s : MS) (r : Nat) (of : Int) (z : Nat) : Bool := decide (0 ≤ acc s r of) && decide (acc s r of + z ≤ 96)
def doLd (x : PI) (s : MS) (z : Nat) : Option (MS × Int) := if accOk s x.c x.of z then some (s.setV x.d (s.ld (acc s x.c x.of).toNat z), 0) else none
def doSt (x : PI) (s : MS) (z : Nat) : Option (MS × Int) := if accOk s x.d x.of z then some (s.st (acc s x.d x.of).toNat z (s.v x.c), 0) else none
def doWk (k : Nat) (x : PI) (s : MS) : Option (MS × Int) := some (s.setV x.d (wkR k (s.v x.d) (s.v x.r)), 0)
def doCp (k : Nat) (x : PI) (s : MS) : Option (MS × Int) := some (s, if cpR k (s.v x.d) (s.v x.r) then x.of else 0)
def doK (x : PI) (s : MS) : Option (MS × Int) := match x.op with
 | 1 => some (s.setV x.d (s.v x.r), 0)
 | 2 => doWk 2 x s
 | 3 => doWk 3 x s
 | 4 => doWk 4 x s
 | 5 => doWk 5 x s
 | 6 => doWk 6 x s
 | 7 => doWk 7 x s
 | 8 => doWk 8 x s
 | 9 => doWk 9 x s
 | 10 => doWk 10 x s
 | 11 => doWk 11 x s
 | 20 => doLd x s 1
 | 21 => doLd x s 2
 | 22 => doLd x s 4
 | 23 => doLd x s 8
 | 24 => doSt x s 1
 | 25 => doSt x s 2
 | 26 => doSt x s 4
 | 27 => doSt x s 8
 | 30 => some (s, x.of)
 | 31 => doCp 31 x s
 | 32 => doCp 32 x s
 | 33 => doCp 33 x s
 | 34 => doCp 34 x s
 | 35 => doCp 35 x s
 | 36 => doCp 36 x s
 | 40 => some (s.call x.n, 0)
 | 41 => some (s, 64)
 | 129 => some (s.setV x.d (s.v x.r), 0)
 | 130 => doWk 2 x s
 | 131 => doWk 3 x s
 | 132 => doWk 4 x s
 | 133 => doWk 5 x s
 | 134 => doWk 6 x s
 | 135 => doWk 7 x s
 | 136 => doWk 8 x s
 | 137 => doWk 9 x s
 | 138 => doWk 10 x s
 | 139 => doWk 11 x s
 | 159 => doCp 31 x s
 | 160 => doCp 32 x s
 | 161 => doCp 33 x s
 | 162 => doCp 34 x s
 | 163 => doCp 35 x s
 | 164 => doCp 36 x s
 | _ => none
def Does (p : Nat → Nat) (x : PI) (g : Nat) (s : MS) (W : World) : Prop :=
 ∃ (F : Nat) (caps : Array Value), doAt p x.op = .func (.func F) #[] caps ∧ (∀ a b w, Sem.run Tryz.prog (callFunc F (#[a, b] ++ caps)) w = .ok (.enter F (#[a, b] ++ caps)) w) ∧
  ∀ s' ov, doK x s = some (s', ov) → Calls Tryz.prog F (#[x.val, .pointer (some ⟨g, 0, none⟩)] ++ caps) W fun e w' => e = .returned (.int .i64 ov) ∧ XAt w' g s' ∧ Tch g g W w'
theorem enter_mAdd (x y : Value) (w : World) : Sem.run Tryz.prog (callFunc 85 #[x, y]) w = .ok (.enter 85 #[x, y]) w := by kernel_rfl
theorem enter_mSub (x y : Value) (w : World) : Sem.run Tryz.prog (callFunc 87 #[x, y]) w = .ok (.enter 87 #[x, y]) w := by kernel_rfl
theorem enter_mMul (x y : Value) (w : World) : Sem.run Tryz.prog (callFunc 90 #[x, y]) w = .ok (.enter 90 #[x, y]) w := by kernel_rfl
theorem enter_mDiv (x y : Value) (w : World) : Sem.run Tryz.prog (callFunc 92 #[x, y]) w = .ok (.enter 92 #[x, y]) w := by kernel_rfl
theorem enter_mMod (x y : Value) (w : World) : Sem.run Tryz.prog (callFunc 94 #[x, y]) w = .ok (.enter 94 #[x, y]) w := by kernel_rfl
theorem enter_mAnd (x y : Value) (w : World) : Sem.run Tryz.prog (callFunc 96 #[x, y]) w = .ok (.enter 96 #[x, y]) w := by kernel_rfl
theorem enter_mOr (x y : Value) (w : World) : Sem.run Tryz.prog (callFunc 98 #[x, y]) w = .ok (.enter 98 #[x, y]) w := by kernel_rfl
theorem enter_mXor (x y : Value) (w : World) : Sem.run Tryz.prog (callFunc 100 #[x, y]) w = .ok (.enter 100 #[x, y]) w := by kernel_rfl
theorem enter_mShl (x y : Value) (w : World) : Sem.run Tryz.prog (callFunc 102 #[x, y]) w = .ok (.enter 102 #[x, y]) w := by kernel_rfl
theorem enter_mShr (x y : Value) (w : World) : Sem.run Tryz.prog (callFunc 104 #[x, y]) w = .ok (.enter 104 #[x, y]) w := by kernel_rfl
theorem enter_mEqual (x y : Value) (w : World) : Sem.run Tryz.prog (callFunc 120 #[x, y]) w = .ok (.enter 120 #[x, y]) w := by kernel_rfl
theorem enter_mNotEqual (x y : Value) (w : World) : Sem.run Tryz.prog (callFunc 121 #[x, y]) w = .ok (.enter 121 #[x, y]) w := by kernel_rfl
theorem enter_mGreater (x y : Value) (w : World) : Sem.run Tryz.prog (callFunc 124 #[x, y]) w = .ok (.enter 124 #[x, y]) w := by kernel_rfl
theorem enter_mNotLess (x y : Value) (w : World) : Sem.run Tryz.prog (callFunc 127 #[x, y]) w = .ok (.enter 127 #[x, y]) w := by kernel_rfl
theorem enter_mLess (x y : Value) (w : World) : Sem.run Tryz.prog (callFunc 128 #[x, y]) w = .ok (.enter 128 #[x, y]) w := by kernel_rfl
theorem enter_mNotGreater (x y : Value) (w : World) : Sem.run Tryz.prog (callFunc 129 #[x, y]) w = .ok (.enter 129 #[x, y]) w := by kernel_rfl
theorem enter_doMov (a b : Value) (w : World) : Sem.run Tryz.prog (callFunc 82 (#[a, b] ++ #[])) w = .ok (.enter 82 (#[a, b] ++ #[])) w := by kernel_rfl
theorem enter_doJump (a b : Value) (w : World) : Sem.run Tryz.prog (callFunc 114 (#[a, b] ++ #[])) w = .ok (.enter 114 (#[a, b] ++ #[])) w := by kernel_rfl
theorem enter_doCall (a b : Value) (w : World) : Sem.run Tryz.prog (callFunc 133 (#[a, b] ++ #[])) w = .ok (.enter 133 (#[a, b] ++ #[])) w := by kernel_rfl
theorem enter_doExit (a b : Value) (w : World) : Sem.run Tryz.prog (callFunc 136 (#[a, b] ++ #[])) w = .ok (.enter 136 (#[a, b] ++ #[])) w := by kernel_rfl
theorem enter_doWork1 (a b : Value) (c0 : Value) (w : World) : Sem.run Tryz.prog (callFunc 154 (#[a, b] ++ #[c0])) w = .ok (.enter 154 (#[a, b] ++ #[c0])) w := by kernel_rfl
theorem enter_doLoad1 (a b : Value) (c0 : Value) (w : World) : Sem.run Tryz.prog (callFunc 164 (#[a, b] ++ #[c0])) w = .ok (.enter 164 (#[a, b] ++ #[c0])) w := by kernel_rfl
theorem enter_doStore1 (a b : Value) (c0 : Value) (w : World) : Sem.run Tryz.prog (callFunc 167 (#[a, b] ++ #[c0])) w = .ok (.enter 167 (#[a, b] ++ #[c0])) w := by kernel_rfl
theorem enter_doCompare1 (a b : Value) (c0 : Value) (w : World) : Sem.run Tryz.prog (callFunc 172 (#[a, b] ++ #[c0])) w = .ok (.enter 172 (#[a, b] ++ #[c0])) w := by kernel_rfl

theorem does_1 (p : Nat → Nat) (d c : Nat) (of n : Int) (g : Nat) (s : MS) (W : World) (_hbx : ∀ k, k < 88 → W.cell? ⟨p k, 0, none⟩ = some (boxV k)) (_hpg : ∀ k, k < 88 → p k ≠ g) (hx : XAt W g s) (_hm : MOk s) (hd : d < 9) (_hc : c < 9) (_o1 : -32768 ≤ of) (_o2 : of ≤ 32767) : Does p ⟨1, d, c, of, n⟩ g s W := by
 have hr : secR (1 : Nat) c < 9 := by unfold secR; split <;> omega
 refine ⟨82, #[], rfl, fun a b w => enter_doMov a b w, fun s' ov h => ?_⟩
 cases h
 exact doMov_any (1 : Nat) d c of n g s W hx hd hr

theorem does_2 (p : Nat → Nat) (d c : Nat) (of n : Int) (g : Nat) (s : MS) (W : World) (hbx : ∀ k, k < 88 → W.cell? ⟨p k, 0, none⟩ = some (boxV k)) (hpg : ∀ k, k < 88 → p k ≠ g) (hx : XAt W g s) (_hm : MOk s) (hd : d < 9) (_hc : c < 9) (_o1 : -32768 ≤ of) (_o2 : of ≤ 32767) : Does p ⟨2, d, c, of, n⟩ g s W := by
 have hr : secR (2 : Nat) c < 9 := by unfold secR; split <;> omega
 refine ⟨154, #[ptr (p 0)], rfl, fun a b w => enter_doWork1 a b _ w, fun s' ov h => ?_⟩
 cases h
 exact doWork1_any (2 : Nat) d c of n g (p 0) 85 (wkR 2) s W hx hd hr enter_mAdd (hbx 0 (by decide)) (hpg 0 (by decide)) (fun wx => mAdd_any (s.v d) (s.v _) wx)

theorem does_3 (p : Nat → Nat) (d c : Nat) (of n : Int) (g : Nat) (s : MS) (W : World) (hbx : ∀ k, k < 88 → W.cell? ⟨p k, 0, none⟩ = some (boxV k)) (hpg : ∀ k, k < 88 → p k ≠ g) (hx : XAt W g s) (_hm : MOk s) (hd : d < 9) (_hc : c < 9) (_o1 : -32768 ≤ of) (_o2 : of ≤ 32767) : Does p ⟨3, d, c, of, n⟩ g s W := by
 have hr : secR (3 : Nat) c < 9 := by unfold secR; split <;> omega
 refine ⟨154, #[ptr (p 1)], rfl, fun a b w => enter_doWork1 a b _ w, fun s' ov h => ?_⟩
 cases h
 exact doWork1_any (3 : Nat) d c of n g (p 1) 87 (wkR 3) s W hx hd hr enter_mSub (hbx 1 (by decide)) (hpg 1 (by decide)) (fun wx => mSub_any (s.v d) (s.v _) wx)

theorem does_4 (p : Nat → Nat) (d c : Nat) (of n : Int) (g : Nat) (s : MS) (W : World) (hbx : ∀ k, k < 88 → W.cell? ⟨p k, 0, none⟩ = some (boxV k)) (hpg : ∀ k, k < 88 → p k ≠ g) (hx : XAt W g s) (_hm : MOk s) (hd : d < 9) (_hc : c < 9) (_o1 : -32768 ≤ of) (_o2 : of ≤ 32767) : Does p ⟨4, d, c, of, n⟩ g s W := by
 have hr : secR (4 : Nat) c < 9 := by unfold secR; split <;> omega
 refine ⟨154, #[ptr (p 3)], rfl, fun a b w => enter_doWork1 a b _ w, fun s' ov h => ?_⟩
 cases h
 exact doWork1_any (4 : Nat) d c of n g (p 3) 90 (wkR 4) s W hx hd hr enter_mMul (hbx 3 (by decide)) (hpg 3 (by decide)) (fun wx => mMul_any (s.v d) (s.v _) wx)

theorem does_5 (p : Nat → Nat) (d c : Nat) (of n : Int) (g : Nat) (s : MS) (W : World) (hbx : ∀ k, k < 88 → W.cell? ⟨p k, 0, none⟩ = some (boxV k)) (hpg : ∀ k, k < 88 → p k ≠ g) (hx : XAt W g s) (hm : MOk s) (hd : d < 9) (_hc : c < 9) (_o1 : -32768 ≤ of) (_o2 : of ≤ 32767) : Does p ⟨5, d, c, of, n⟩ g s W := by
 have hr : secR (5 : Nat) c < 9 := by unfold secR; split <;> omega
 refine ⟨154, #[ptr (p 5)], rfl, fun a b w => enter_doWork1 a b _ w, fun s' ov h => ?_⟩
 cases h
 exact doWork1_any (5 : Nat) d c of n g (p 5) 92 (wkR 5) s W hx hd hr enter_mDiv (hbx 5 (by decide)) (hpg 5 (by decide)) (fun wx => mDiv_any (s.v d) (s.v _) wx (hm.v0 d hd) (hm.v1 d hd) (hm.v0 _ hr) (hm.v1 _ hr))

theorem does_6 (p : Nat → Nat) (d c : Nat) (of n : Int) (g : Nat) (s : MS) (W : World) (hbx : ∀ k, k < 88 → W.cell? ⟨p k, 0, none⟩ = some (boxV k)) (hpg : ∀ k, k < 88 → p k ≠ g) (hx : XAt W g s) (hm : MOk s) (hd : d < 9) (_hc : c < 9) (_o1 : -32768 ≤ of) (_o2 : of ≤ 32767) : Does p ⟨6, d, c, of, n⟩ g s W := by
 have hr : secR (6 : Nat) c < 9 := by unfold secR; split <;> omega
 refine ⟨154, #[ptr (p 7)], rfl, fun a b w => enter_doWork1 a b _ w, fun s' ov h => ?_⟩
 cases h
 exact doWork1_any (6 : Nat) d c of n g (p 7) 94 (wkR 6) s W hx hd hr enter_mMod (hbx 7 (by decide)) (hpg 7 (by decide)) (fun wx => mMod_any (s.v d) (s.v _) wx (hm.v0 d hd) (hm.v1 d hd) (hm.v0 _ hr) (hm.v1 _ hr))

theorem does_7 (p : Nat → Nat) (d c : Nat) (of n : Int) (g : Nat) (s : MS) (W : World) (hbx : ∀ k, k < 88 → W.cell? ⟨p k, 0, none⟩ = some (boxV k)) (hpg : ∀ k, k < 88 → p k ≠ g) (hx : XAt W g s) (_hm : MOk s) (hd : d < 9) (_hc : c < 9) (_o1 : -32768 ≤ of) (_o2 : of ≤ 32767) : Does p ⟨7, d, c, of, n⟩ g s W := by
 have hr : secR (7 : Nat) c < 9 := by unfold secR; split <;> omega
 refine ⟨154, #[ptr (p 9)], rfl, fun a b w => enter_doWork1 a b _ w, fun s' ov h => ?_⟩
 cases h
 exact doWork1_any (7 : Nat) d c of n g (p 9) 96 (wkR 7) s W hx hd hr enter_mAnd (hbx 9 (by decide)) (hpg 9 (by decide)) (fun wx => mAnd_any (s.v d) (s.v _) wx)

theorem does_8 (p : Nat → Nat) (d c : Nat) (of n : Int) (g : Nat) (s : MS) (W : World) (hbx : ∀ k, k < 88 → W.cell? ⟨p k, 0, none⟩ = some (boxV k)) (hpg : ∀ k, k < 88 → p k ≠ g) (hx : XAt W g s) (_hm : MOk s) (hd : d < 9) (_hc : c < 9) (_o1 : -32768 ≤ of) (_o2 : of ≤ 32767) : Does p ⟨8, d, c, of, n⟩ g s W := by
 have hr : secR (8 : Nat) c < 9 := by unfold secR; split <;> omega
 refine ⟨154, #[ptr (p 11)], rfl, fun a b w => enter_doWork1 a b _ w, fun s' ov h => ?_⟩
 cases h
 exact doWork1_any (8 : Nat) d c of n g (p 11) 98 (wkR 8) s W hx hd hr enter_mOr (hbx 11 (by decide)) (hpg 11 (by decide)) (fun wx => mOr_any (s.v d) (s.v _) wx)

theorem does_9 (p : Nat → Nat) (d c : Nat) (of n : Int) (g : Nat) (s : MS) (W : World) (hbx : ∀ k, k < 88 → W.cell? ⟨p k, 0, none⟩ = some (boxV k)) (hpg : ∀ k, k < 88 → p k ≠ g) (hx : XAt W g s) (_hm : MOk s) (hd : d < 9) (_hc : c < 9) (_o1 : -32768 ≤ of) (_o2 : of ≤ 32767) : Does p ⟨9, d, c, of, n⟩ g s W := by
 have hr : secR (9 : Nat) c < 9 := by unfold secR; split <;> omega
 refine ⟨154, #[ptr (p 13)], rfl, fun a b w => enter_doWork1 a b _ w, fun s' ov h => ?_⟩
 cases h
 exact doWork1_any (9 : Nat) d c of n g (p 13) 100 (wkR 9) s W hx hd hr enter_mXor (hbx 13 (by decide)) (hpg 13 (by decide)) (fun wx => mXor_any (s.v d) (s.v _) wx)

theorem does_10 (p : Nat → Nat) (d c : Nat) (of n : Int) (g : Nat) (s : MS) (W : World) (hbx : ∀ k, k < 88 → W.cell? ⟨p k, 0, none⟩ = some (boxV k)) (hpg : ∀ k, k < 88 → p k ≠ g) (hx : XAt W g s) (hm : MOk s) (hd : d < 9) (_hc : c < 9) (_o1 : -32768 ≤ of) (_o2 : of ≤ 32767) : Does p ⟨10, d, c, of, n⟩ g s W := by
 have hr : secR (10 : Nat) c < 9 := by unfold secR; split <;> omega
 refine ⟨154, #[ptr (p 15)], rfl, fun a b w => enter_doWork1 a b _ w, fun s' ov h => ?_⟩
 cases h
 exact doWork1_any (10 : Nat) d c of n g (p 15) 102 (wkR 10) s W hx hd hr enter_mShl (hbx 15 (by decide)) (hpg 15 (by decide)) (fun wx => mShl_any (s.v d) (s.v _) wx (hm.v0 d hd) (hm.v1 d hd) (hm.v0 _ hr) (hm.v1 _ hr))

theorem does_11 (p : Nat → Nat) (d c : Nat) (of n : Int) (g : Nat) (s : MS) (W : World) (hbx : ∀ k, k < 88 → W.cell? ⟨p k, 0, none⟩ = some (boxV k)) (hpg : ∀ k, k < 88 → p k ≠ g) (hx : XAt W g s) (hm : MOk s) (hd : d < 9) (_hc : c < 9) (_o1 : -32768 ≤ of) (_o2 : of ≤ 32767) : Does p ⟨11, d, c, of, n⟩ g s W := by
 have hr : secR (11 : Nat) c < 9 := by unfold secR; split <;> omega
 refine ⟨154, #[ptr (p 17)], rfl, fun a b w => enter_doWork1 a b _ w, fun s' ov h => ?_⟩
 cases h
 exact doWork1_any (11 : Nat) d c of n g (p 17) 104 (wkR 11) s W hx hd hr enter_mShr (hbx 17 (by decide)) (hpg 17 (by decide)) (fun wx => mShr_any (s.v d) (s.v _) wx (hm.v0 d hd) (hm.v1 d hd) (hm.v0 _ hr) (hm.v1 _ hr))

theorem does_20 (p : Nat → Nat) (d c : Nat) (of n : Int) (g : Nat) (s : MS) (W : World) (hbx : ∀ k, k < 88 → W.cell? ⟨p k, 0, none⟩ = some (boxV k)) (hpg : ∀ k, k < 88 → p k ≠ g) (hx : XAt W g s) (hm : MOk s) (hd : d < 9) (hc : c < 9) (o1 : -32768 ≤ of) (o2 : of ≤ 32767) : Does p ⟨20, d, c, of, n⟩ g s W := by
 refine ⟨164, #[ptr (p 37)], rfl, fun a b w => enter_doLoad1 a b _ w, fun s' ov h => ?_⟩
 change doLd ⟨20, d, c, of, n⟩ s 1 = _ at h
 unfold doLd at h
 split at h
 ·rename_i ha
  cases h
  simp only [accOk, Bool.and_eq_true, decide_eq_true_eq] at ha
  exact doLoad1_any (20 : Nat) d c of n g (p 37) (acc s c of).toNat 1 s W hx hd hc (hm.v0 c hc) o1 o2 (by show acc s c of = _; omega) (by omega) (by decide) (by decide) hm.m (hbx 37 (by decide)) (hpg 37 (by decide))
 ·cases h

theorem does_21 (p : Nat → Nat) (d c : Nat) (of n : Int) (g : Nat) (s : MS) (W : World) (hbx : ∀ k, k < 88 → W.cell? ⟨p k, 0, none⟩ = some (boxV k)) (hpg : ∀ k, k < 88 → p k ≠ g) (hx : XAt W g s) (hm : MOk s) (hd : d < 9) (hc : c < 9) (o1 : -32768 ≤ of) (o2 : of ≤ 32767) : Does p ⟨21, d, c, of, n⟩ g s W := by
 refine ⟨164, #[ptr (p 39)], rfl, fun a b w => enter_doLoad1 a b _ w, fun s' ov h => ?_⟩
 change doLd ⟨21, d, c, of, n⟩ s 2 = _ at h
 unfold doLd at h
 split at h
 ·rename_i ha
  cases h
  simp only [accOk, Bool.and_eq_true, decide_eq_true_eq] at ha
  exact doLoad1_any (21 : Nat) d c of n g (p 39) (acc s c of).toNat 2 s W hx hd hc (hm.v0 c hc) o1 o2 (by show acc s c of = _; omega) (by omega) (by decide) (by decide) hm.m (hbx 39 (by decide)) (hpg 39 (by decide))
 ·cases h

theorem does_22 (p : Nat → Nat) (d c : Nat) (of n : Int) (g : Nat) (s : MS) (W : World) (hbx : ∀ k, k < 88 → W.cell? ⟨p k, 0, none⟩ = some (boxV k)) (hpg : ∀ k, k < 88 → p k ≠ g) (hx : XAt W g s) (hm : MOk s) (hd : d < 9) (hc : c < 9) (o1 : -32768 ≤ of) (o2 : of ≤ 32767) : Does p ⟨22, d, c, of, n⟩ g s W := by
 refine ⟨164, #[ptr (p 41)], rfl, fun a b w => enter_doLoad1 a b _ w, fun s' ov h => ?_⟩
 change doLd ⟨22, d, c, of, n⟩ s 4 = _ at h
 unfold doLd at h
 split at h
 ·rename_i ha
  cases h
  simp only [accOk, Bool.and_eq_true, decide_eq_true_eq] at ha
  exact doLoad1_any (22 : Nat) d c of n g (p 41) (acc s c of).toNat 4 s W hx hd hc (hm.v0 c hc) o1 o2 (by show acc s c of = _; omega) (by omega) (by decide) (by decide) hm.m (hbx 41 (by decide)) (hpg 41 (by decide))
 ·cases h

theorem does_23 (p : Nat → Nat) (d c : Nat) (of n : Int) (g : Nat) (s : MS) (W : World) (hbx : ∀ k, k < 88 → W.cell? ⟨p k, 0, none⟩ = some (boxV k)) (hpg : ∀ k, k < 88 → p k ≠ g) (hx : XAt W g s) (hm : MOk s) (hd : d < 9) (hc : c < 9) (o1 : -32768 ≤ of) (o2 : of ≤ 32767) : Does p ⟨23, d, c, of, n⟩ g s W := by
 refine ⟨164, #[ptr (p 43)], rfl, fun a b w => enter_doLoad1 a b _ w, fun s' ov h => ?_⟩
 change doLd ⟨23, d, c, of, n⟩ s 8 = _ at h
 unfold doLd at h
 split at h
 ·rename_i ha
  cases h
  simp only [accOk, Bool.and_eq_true, decide_eq_true_eq] at ha
  exact doLoad1_any (23 : Nat) d c of n g (p 43) (acc s c of).toNat 8 s W hx hd hc (hm.v0 c hc) o1 o2 (by show acc s c of = _; omega) (by omega) (by decide) (by decide) hm.m (hbx 43 (by decide)) (hpg 43 (by decide))
 ·cases h

theorem does_24 (p : Nat → Nat) (d c : Nat) (of n : Int) (g : Nat) (s : MS) (W : World) (hbx : ∀ k, k < 88 → W.cell? ⟨p k, 0, none⟩ = some (boxV k)) (hpg : ∀ k, k < 88 → p k ≠ g) (hx : XAt W g s) (hm : MOk s) (hd : d < 9) (hc : c < 9) (o1 : -32768 ≤ of) (o2 : of ≤ 32767) : Does p ⟨24, d, c, of, n⟩ g s W := by
 refine ⟨167, #[ptr (p 45)], rfl, fun a b w => enter_doStore1 a b _ w, fun s' ov h => ?_⟩
 change doSt ⟨24, d, c, of, n⟩ s 1 = _ at h
 unfold doSt at h
 split at h
 ·rename_i ha
  cases h
  simp only [accOk, Bool.and_eq_true, decide_eq_true_eq] at ha
  exact doStore1_any (24 : Nat) d c of n g (p 45) (acc s d of).toNat 1 s W hx hd hc (hm.v0 d hd) o1 o2 (by show acc s d of = _; omega) (by omega) (by decide) (by decide) (hbx 45 (by decide)) (hpg 45 (by decide))
 ·cases h

theorem does_25 (p : Nat → Nat) (d c : Nat) (of n : Int) (g : Nat) (s : MS) (W : World) (hbx : ∀ k, k < 88 → W.cell? ⟨p k, 0, none⟩ = some (boxV k)) (hpg : ∀ k, k < 88 → p k ≠ g) (hx : XAt W g s) (hm : MOk s) (hd : d < 9) (hc : c < 9) (o1 : -32768 ≤ of) (o2 : of ≤ 32767) : Does p ⟨25, d, c, of, n⟩ g s W := by
 refine ⟨167, #[ptr (p 47)], rfl, fun a b w => enter_doStore1 a b _ w, fun s' ov h => ?_⟩
 change doSt ⟨25, d, c, of, n⟩ s 2 = _ at h
 unfold doSt at h
 split at h
 ·rename_i ha
  cases h
  simp only [accOk, Bool.and_eq_true, decide_eq_true_eq] at ha
  exact doStore1_any (25 : Nat) d c of n g (p 47) (acc s d of).toNat 2 s W hx hd hc (hm.v0 d hd) o1 o2 (by show acc s d of = _; omega) (by omega) (by decide) (by decide) (hbx 47 (by decide)) (hpg 47 (by decide))
 ·cases h

theorem does_26 (p : Nat → Nat) (d c : Nat) (of n : Int) (g : Nat) (s : MS) (W : World) (hbx : ∀ k, k < 88 → W.cell? ⟨p k, 0, none⟩ = some (boxV k)) (hpg : ∀ k, k < 88 → p k ≠ g) (hx : XAt W g s) (hm : MOk s) (hd : d < 9) (hc : c < 9) (o1 : -32768 ≤ of) (o2 : of ≤ 32767) : Does p ⟨26, d, c, of, n⟩ g s W := by
 refine ⟨167, #[ptr (p 49)], rfl, fun a b w => enter_doStore1 a b _ w, fun s' ov h => ?_⟩
 change doSt ⟨26, d, c, of, n⟩ s 4 = _ at h
 unfold doSt at h
 split at h
 ·rename_i ha
  cases h
  simp only [accOk, Bool.and_eq_true, decide_eq_true_eq] at ha
  exact doStore1_any (26 : Nat) d c of n g (p 49) (acc s d of).toNat 4 s W hx hd hc (hm.v0 d hd) o1 o2 (by show acc s d of = _; omega) (by omega) (by decide) (by decide) (hbx 49 (by decide)) (hpg 49 (by decide))
 ·cases h

theorem does_27 (p : Nat → Nat) (d c : Nat) (of n : Int) (g : Nat) (s : MS) (W : World) (hbx : ∀ k, k < 88 → W.cell? ⟨p k, 0, none⟩ = some (boxV k)) (hpg : ∀ k, k < 88 → p k ≠ g) (hx : XAt W g s) (hm : MOk s) (hd : d < 9) (hc : c < 9) (o1 : -32768 ≤ of) (o2 : of ≤ 32767) : Does p ⟨27, d, c, of, n⟩ g s W := by
 refine ⟨167, #[ptr (p 51)], rfl, fun a b w => enter_doStore1 a b _ w, fun s' ov h => ?_⟩
 change doSt ⟨27, d, c, of, n⟩ s 8 = _ at h
 unfold doSt at h
 split at h
 ·rename_i ha
  cases h
  simp only [accOk, Bool.and_eq_true, decide_eq_true_eq] at ha
  exact doStore1_any (27 : Nat) d c of n g (p 51) (acc s d of).toNat 8 s W hx hd hc (hm.v0 d hd) o1 o2 (by show acc s d of = _; omega) (by omega) (by decide) (by decide) (hbx 51 (by decide)) (hpg 51 (by decide))
 ·cases h

theorem does_30 (p : Nat → Nat) (d c : Nat) (of n : Int) (g : Nat) (s : MS) (W : World) (_hbx : ∀ k, k < 88 → W.cell? ⟨p k, 0, none⟩ = some (boxV k)) (_hpg : ∀ k, k < 88 → p k ≠ g) (hx : XAt W g s) (_hm : MOk s) (_hd : d < 9) (_hc : c < 9) (o1 : -32768 ≤ of) (o2 : of ≤ 32767) : Does p ⟨30, d, c, of, n⟩ g s W := by
 refine ⟨114, #[], rfl, fun a b w => enter_doJump a b w, fun s' ov h => ?_⟩
 cases h
 exact doJump_any (30 : Nat) d c of n g s W hx o1 o2

theorem does_31 (p : Nat → Nat) (d c : Nat) (of n : Int) (g : Nat) (s : MS) (W : World) (hbx : ∀ k, k < 88 → W.cell? ⟨p k, 0, none⟩ = some (boxV k)) (_hpg : ∀ k, k < 88 → p k ≠ g) (hx : XAt W g s) (_hm : MOk s) (hd : d < 9) (_hc : c < 9) (o1 : -32768 ≤ of) (o2 : of ≤ 32767) : Does p ⟨31, d, c, of, n⟩ g s W := by
 have hr : secR (31 : Nat) c < 9 := by unfold secR; split <;> omega
 refine ⟨172, #[ptr (p 54)], rfl, fun a b w => enter_doCompare1 a b _ w, fun s' ov h => ?_⟩
 cases h
 exact doCompare1_any (31 : Nat) d c of n g (p 54) 120 (cpR 31 (s.v d) (s.v (secR (31 : Nat) c))) s W hx hd hr o1 o2 enter_mEqual (hbx 54 (by decide)) (fun wx => mEqual_any (s.v d) (s.v _) wx)

theorem does_32 (p : Nat → Nat) (d c : Nat) (of n : Int) (g : Nat) (s : MS) (W : World) (hbx : ∀ k, k < 88 → W.cell? ⟨p k, 0, none⟩ = some (boxV k)) (_hpg : ∀ k, k < 88 → p k ≠ g) (hx : XAt W g s) (_hm : MOk s) (hd : d < 9) (_hc : c < 9) (o1 : -32768 ≤ of) (o2 : of ≤ 32767) : Does p ⟨32, d, c, of, n⟩ g s W := by
 have hr : secR (32 : Nat) c < 9 := by unfold secR; split <;> omega
 refine ⟨172, #[ptr (p 57)], rfl, fun a b w => enter_doCompare1 a b _ w, fun s' ov h => ?_⟩
 cases h
 exact doCompare1_any (32 : Nat) d c of n g (p 57) 121 (cpR 32 (s.v d) (s.v (secR (32 : Nat) c))) s W hx hd hr o1 o2 enter_mNotEqual (hbx 57 (by decide)) (fun wx => mNotEqual_any (s.v d) (s.v _) wx)

theorem does_33 (p : Nat → Nat) (d c : Nat) (of n : Int) (g : Nat) (s : MS) (W : World) (hbx : ∀ k, k < 88 → W.cell? ⟨p k, 0, none⟩ = some (boxV k)) (_hpg : ∀ k, k < 88 → p k ≠ g) (hx : XAt W g s) (_hm : MOk s) (hd : d < 9) (_hc : c < 9) (o1 : -32768 ≤ of) (o2 : of ≤ 32767) : Does p ⟨33, d, c, of, n⟩ g s W := by
 have hr : secR (33 : Nat) c < 9 := by unfold secR; split <;> omega
 refine ⟨172, #[ptr (p 60)], rfl, fun a b w => enter_doCompare1 a b _ w, fun s' ov h => ?_⟩
 cases h
 exact doCompare1_any (33 : Nat) d c of n g (p 60) 124 (cpR 33 (s.v d) (s.v (secR (33 : Nat) c))) s W hx hd hr o1 o2 enter_mGreater (hbx 60 (by decide)) (fun wx => mGreater_any (s.v d) (s.v _) wx)

theorem does_34 (p : Nat → Nat) (d c : Nat) (of n : Int) (g : Nat) (s : MS) (W : World) (hbx : ∀ k, k < 88 → W.cell? ⟨p k, 0, none⟩ = some (boxV k)) (_hpg : ∀ k, k < 88 → p k ≠ g) (hx : XAt W g s) (_hm : MOk s) (hd : d < 9) (_hc : c < 9) (o1 : -32768 ≤ of) (o2 : of ≤ 32767) : Does p ⟨34, d, c, of, n⟩ g s W := by
 have hr : secR (34 : Nat) c < 9 := by unfold secR; split <;> omega
 refine ⟨172, #[ptr (p 63)], rfl, fun a b w => enter_doCompare1 a b _ w, fun s' ov h => ?_⟩
 cases h
 exact doCompare1_any (34 : Nat) d c of n g (p 63) 127 (cpR 34 (s.v d) (s.v (secR (34 : Nat) c))) s W hx hd hr o1 o2 enter_mNotLess (hbx 63 (by decide)) (fun wx => mNotLess_any (s.v d) (s.v _) wx)

theorem does_35 (p : Nat → Nat) (d c : Nat) (of n : Int) (g : Nat) (s : MS) (W : World) (hbx : ∀ k, k < 88 → W.cell? ⟨p k, 0, none⟩ = some (boxV k)) (_hpg : ∀ k, k < 88 → p k ≠ g) (hx : XAt W g s) (_hm : MOk s) (hd : d < 9) (_hc : c < 9) (o1 : -32768 ≤ of) (o2 : of ≤ 32767) : Does p ⟨35, d, c, of, n⟩ g s W := by
 have hr : secR (35 : Nat) c < 9 := by unfold secR; split <;> omega
 refine ⟨172, #[ptr (p 66)], rfl, fun a b w => enter_doCompare1 a b _ w, fun s' ov h => ?_⟩
 cases h
 exact doCompare1_any (35 : Nat) d c of n g (p 66) 128 (cpR 35 (s.v d) (s.v (secR (35 : Nat) c))) s W hx hd hr o1 o2 enter_mLess (hbx 66 (by decide)) (fun wx => mLess_any (s.v d) (s.v _) wx)

theorem does_36 (p : Nat → Nat) (d c : Nat) (of n : Int) (g : Nat) (s : MS) (W : World) (hbx : ∀ k, k < 88 → W.cell? ⟨p k, 0, none⟩ = some (boxV k)) (_hpg : ∀ k, k < 88 → p k ≠ g) (hx : XAt W g s) (_hm : MOk s) (hd : d < 9) (_hc : c < 9) (o1 : -32768 ≤ of) (o2 : of ≤ 32767) : Does p ⟨36, d, c, of, n⟩ g s W := by
 have hr : secR (36 : Nat) c < 9 := by unfold secR; split <;> omega
 refine ⟨172, #[ptr (p 69)], rfl, fun a b w => enter_doCompare1 a b _ w, fun s' ov h => ?_⟩
 cases h
 exact doCompare1_any (36 : Nat) d c of n g (p 69) 129 (cpR 36 (s.v d) (s.v (secR (36 : Nat) c))) s W hx hd hr o1 o2 enter_mNotGreater (hbx 69 (by decide)) (fun wx => mNotGreater_any (s.v d) (s.v _) wx)

theorem does_40 (p : Nat → Nat) (d c : Nat) (of n : Int) (g : Nat) (s : MS) (W : World) (_hbx : ∀ k, k < 88 → W.cell? ⟨p k, 0, none⟩ = some (boxV k)) (_hpg : ∀ k, k < 88 → p k ≠ g) (hx : XAt W g s) (hm : MOk s) (_hd : d < 9) (_hc : c < 9) (_o1 : -32768 ≤ of) (_o2 : of ≤ 32767) : Does p ⟨40, d, c, of, n⟩ g s W := by
 refine ⟨133, #[], rfl, fun a b w => enter_doCall a b w, fun s' ov h => ?_⟩
 cases h
 exact doCall_any (40 : Nat) d c of n g s W hx (by have := hm.f0; omega) hm.fl (by have := hm.l1; omega) (hm.v0 1 (by omega))

theorem does_41 (p : Nat → Nat) (d c : Nat) (of n : Int) (g : Nat) (s : MS) (W : World) (_hbx : ∀ k, k < 88 → W.cell? ⟨p k, 0, none⟩ = some (boxV k)) (_hpg : ∀ k, k < 88 → p k ≠ g) (hx : XAt W g s) (_hm : MOk s) (_hd : d < 9) (_hc : c < 9) (_o1 : -32768 ≤ of) (_o2 : of ≤ 32767) : Does p ⟨41, d, c, of, n⟩ g s W := by
 refine ⟨136, #[], rfl, fun a b w => enter_doExit a b w, fun s' ov h => ?_⟩
 cases h
 exact doExit_any (41 : Nat) d c of n g s W hx

theorem does_129 (p : Nat → Nat) (d c : Nat) (of n : Int) (g : Nat) (s : MS) (W : World) (_hbx : ∀ k, k < 88 → W.cell? ⟨p k, 0, none⟩ = some (boxV k)) (_hpg : ∀ k, k < 88 → p k ≠ g) (hx : XAt W g s) (_hm : MOk s) (hd : d < 9) (_hc : c < 9) (_o1 : -32768 ≤ of) (_o2 : of ≤ 32767) : Does p ⟨129, d, c, of, n⟩ g s W := by
 have hr : secR (129 : Nat) c < 9 := by unfold secR; split <;> omega
 refine ⟨82, #[], rfl, fun a b w => enter_doMov a b w, fun s' ov h => ?_⟩
 cases h
 exact doMov_any (129 : Nat) d c of n g s W hx hd hr

theorem does_130 (p : Nat → Nat) (d c : Nat) (of n : Int) (g : Nat) (s : MS) (W : World) (hbx : ∀ k, k < 88 → W.cell? ⟨p k, 0, none⟩ = some (boxV k)) (hpg : ∀ k, k < 88 → p k ≠ g) (hx : XAt W g s) (_hm : MOk s) (hd : d < 9) (_hc : c < 9) (_o1 : -32768 ≤ of) (_o2 : of ≤ 32767) : Does p ⟨130, d, c, of, n⟩ g s W := by
 have hr : secR (130 : Nat) c < 9 := by unfold secR; split <;> omega
 refine ⟨154, #[ptr (p 18)], rfl, fun a b w => enter_doWork1 a b _ w, fun s' ov h => ?_⟩
 cases h
 exact doWork1_any (130 : Nat) d c of n g (p 18) 85 (wkR 2) s W hx hd hr enter_mAdd (hbx 18 (by decide)) (hpg 18 (by decide)) (fun wx => mAdd_any (s.v d) (s.v _) wx)

theorem does_131 (p : Nat → Nat) (d c : Nat) (of n : Int) (g : Nat) (s : MS) (W : World) (hbx : ∀ k, k < 88 → W.cell? ⟨p k, 0, none⟩ = some (boxV k)) (hpg : ∀ k, k < 88 → p k ≠ g) (hx : XAt W g s) (_hm : MOk s) (hd : d < 9) (_hc : c < 9) (_o1 : -32768 ≤ of) (_o2 : of ≤ 32767) : Does p ⟨131, d, c, of, n⟩ g s W := by
 have hr : secR (131 : Nat) c < 9 := by unfold secR; split <;> omega
 refine ⟨154, #[ptr (p 19)], rfl, fun a b w => enter_doWork1 a b _ w, fun s' ov h => ?_⟩
 cases h
 exact doWork1_any (131 : Nat) d c of n g (p 19) 87 (wkR 3) s W hx hd hr enter_mSub (hbx 19 (by decide)) (hpg 19 (by decide)) (fun wx => mSub_any (s.v d) (s.v _) wx)

theorem does_132 (p : Nat → Nat) (d c : Nat) (of n : Int) (g : Nat) (s : MS) (W : World) (hbx : ∀ k, k < 88 → W.cell? ⟨p k, 0, none⟩ = some (boxV k)) (hpg : ∀ k, k < 88 → p k ≠ g) (hx : XAt W g s) (_hm : MOk s) (hd : d < 9) (_hc : c < 9) (_o1 : -32768 ≤ of) (_o2 : of ≤ 32767) : Does p ⟨132, d, c, of, n⟩ g s W := by
 have hr : secR (132 : Nat) c < 9 := by unfold secR; split <;> omega
 refine ⟨154, #[ptr (p 21)], rfl, fun a b w => enter_doWork1 a b _ w, fun s' ov h => ?_⟩
 cases h
 exact doWork1_any (132 : Nat) d c of n g (p 21) 90 (wkR 4) s W hx hd hr enter_mMul (hbx 21 (by decide)) (hpg 21 (by decide)) (fun wx => mMul_any (s.v d) (s.v _) wx)

theorem does_133 (p : Nat → Nat) (d c : Nat) (of n : Int) (g : Nat) (s : MS) (W : World) (hbx : ∀ k, k < 88 → W.cell? ⟨p k, 0, none⟩ = some (boxV k)) (hpg : ∀ k, k < 88 → p k ≠ g) (hx : XAt W g s) (hm : MOk s) (hd : d < 9) (_hc : c < 9) (_o1 : -32768 ≤ of) (_o2 : of ≤ 32767) : Does p ⟨133, d, c, of, n⟩ g s W := by
 have hr : secR (133 : Nat) c < 9 := by unfold secR; split <;> omega
 refine ⟨154, #[ptr (p 23)], rfl, fun a b w => enter_doWork1 a b _ w, fun s' ov h => ?_⟩
 cases h
 exact doWork1_any (133 : Nat) d c of n g (p 23) 92 (wkR 5) s W hx hd hr enter_mDiv (hbx 23 (by decide)) (hpg 23 (by decide)) (fun wx => mDiv_any (s.v d) (s.v _) wx (hm.v0 d hd) (hm.v1 d hd) (hm.v0 _ hr) (hm.v1 _ hr))

theorem does_134 (p : Nat → Nat) (d c : Nat) (of n : Int) (g : Nat) (s : MS) (W : World) (hbx : ∀ k, k < 88 → W.cell? ⟨p k, 0, none⟩ = some (boxV k)) (hpg : ∀ k, k < 88 → p k ≠ g) (hx : XAt W g s) (hm : MOk s) (hd : d < 9) (_hc : c < 9) (_o1 : -32768 ≤ of) (_o2 : of ≤ 32767) : Does p ⟨134, d, c, of, n⟩ g s W := by
 have hr : secR (134 : Nat) c < 9 := by unfold secR; split <;> omega
 refine ⟨154, #[ptr (p 25)], rfl, fun a b w => enter_doWork1 a b _ w, fun s' ov h => ?_⟩
 cases h
 exact doWork1_any (134 : Nat) d c of n g (p 25) 94 (wkR 6) s W hx hd hr enter_mMod (hbx 25 (by decide)) (hpg 25 (by decide)) (fun wx => mMod_any (s.v d) (s.v _) wx (hm.v0 d hd) (hm.v1 d hd) (hm.v0 _ hr) (hm.v1 _ hr))

theorem does_135 (p : Nat → Nat) (d c : Nat) (of n : Int) (g : Nat) (s : MS) (W : World) (hbx : ∀ k, k < 88 → W.cell? ⟨p k, 0, none⟩ = some (boxV k)) (hpg : ∀ k, k < 88 → p k ≠ g) (hx : XAt W g s) (_hm : MOk s) (hd : d < 9) (_hc : c < 9) (_o1 : -32768 ≤ of) (_o2 : of ≤ 32767) : Does p ⟨135, d, c, of, n⟩ g s W := by
 have hr : secR (135 : Nat) c < 9 := by unfold secR; split <;> omega
 refine ⟨154, #[ptr (p 27)], rfl, fun a b w => enter_doWork1 a b _ w, fun s' ov h => ?_⟩
 cases h
 exact doWork1_any (135 : Nat) d c of n g (p 27) 96 (wkR 7) s W hx hd hr enter_mAnd (hbx 27 (by decide)) (hpg 27 (by decide)) (fun wx => mAnd_any (s.v d) (s.v _) wx)

theorem does_136 (p : Nat → Nat) (d c : Nat) (of n : Int) (g : Nat) (s : MS) (W : World) (hbx : ∀ k, k < 88 → W.cell? ⟨p k, 0, none⟩ = some (boxV k)) (hpg : ∀ k, k < 88 → p k ≠ g) (hx : XAt W g s) (_hm : MOk s) (hd : d < 9) (_hc : c < 9) (_o1 : -32768 ≤ of) (_o2 : of ≤ 32767) : Does p ⟨136, d, c, of, n⟩ g s W := by
 have hr : secR (136 : Nat) c < 9 := by unfold secR; split <;> omega
 refine ⟨154, #[ptr (p 29)], rfl, fun a b w => enter_doWork1 a b _ w, fun s' ov h => ?_⟩
 cases h
 exact doWork1_any (136 : Nat) d c of n g (p 29) 98 (wkR 8) s W hx hd hr enter_mOr (hbx 29 (by decide)) (hpg 29 (by decide)) (fun wx => mOr_any (s.v d) (s.v _) wx)

theorem does_137 (p : Nat → Nat) (d c : Nat) (of n : Int) (g : Nat) (s : MS) (W : World) (hbx : ∀ k, k < 88 → W.cell? ⟨p k, 0, none⟩ = some (boxV k)) (hpg : ∀ k, k < 88 → p k ≠ g) (hx : XAt W g s) (_hm : MOk s) (hd : d < 9) (_hc : c < 9) (_o1 : -32768 ≤ of) (_o2 : of ≤ 32767) : Does p ⟨137, d, c, of, n⟩ g s W := by
 have hr : secR (137 : Nat) c < 9 := by unfold secR; split <;> omega
 refine ⟨154, #[ptr (p 31)], rfl, fun a b w => enter_doWork1 a b _ w, fun s' ov h => ?_⟩
 cases h
 exact doWork1_any (137 : Nat) d c of n g (p 31) 100 (wkR 9) s W hx hd hr enter_mXor (hbx 31 (by decide)) (hpg 31 (by decide)) (fun wx => mXor_any (s.v d) (s.v _) wx)

theorem does_138 (p : Nat → Nat) (d c : Nat) (of n : Int) (g : Nat) (s : MS) (W : World) (hbx : ∀ k, k < 88 → W.cell? ⟨p k, 0, none⟩ = some (boxV k)) (hpg : ∀ k, k < 88 → p k ≠ g) (hx : XAt W g s) (hm : MOk s) (hd : d < 9) (_hc : c < 9) (_o1 : -32768 ≤ of) (_o2 : of ≤ 32767) : Does p ⟨138, d, c, of, n⟩ g s W := by
 have hr : secR (138 : Nat) c < 9 := by unfold secR; split <;> omega
 refine ⟨154, #[ptr (p 33)], rfl, fun a b w => enter_doWork1 a b _ w, fun s' ov h => ?_⟩
 cases h
 exact doWork1_any (138 : Nat) d c of n g (p 33) 102 (wkR 10) s W hx hd hr enter_mShl (hbx 33 (by decide)) (hpg 33 (by decide)) (fun wx => mShl_any (s.v d) (s.v _) wx (hm.v0 d hd) (hm.v1 d hd) (hm.v0 _ hr) (hm.v1 _ hr))

theorem does_139 (p : Nat → Nat) (d c : Nat) (of n : Int) (g : Nat) (s : MS) (W : World) (hbx : ∀ k, k < 88 → W.cell? ⟨p k, 0, none⟩ = some (boxV k)) (hpg : ∀ k, k < 88 → p k ≠ g) (hx : XAt W g s) (hm : MOk s) (hd : d < 9) (_hc : c < 9) (_o1 : -32768 ≤ of) (_o2 : of ≤ 32767) : Does p ⟨139, d, c, of, n⟩ g s W := by
 have hr : secR (139 : Nat) c < 9 := by unfold secR; split <;> omega
 refine ⟨154, #[ptr (p 35)], rfl, fun a b w => enter_doWork1 a b _ w, fun s' ov h => ?_⟩
 cases h
 exact doWork1_any (139 : Nat) d c of n g (p 35) 104 (wkR 11) s W hx hd hr enter_mShr (hbx 35 (by decide)) (hpg 35 (by decide)) (fun wx => mShr_any (s.v d) (s.v _) wx (hm.v0 d hd) (hm.v1 d hd) (hm.v0 _ hr) (hm.v1 _ hr))

theorem does_159 (p : Nat → Nat) (d c : Nat) (of n : Int) (g : Nat) (s : MS) (W : World) (hbx : ∀ k, k < 88 → W.cell? ⟨p k, 0, none⟩ = some (boxV k)) (_hpg : ∀ k, k < 88 → p k ≠ g) (hx : XAt W g s) (_hm : MOk s) (hd : d < 9) (_hc : c < 9) (o1 : -32768 ≤ of) (o2 : of ≤ 32767) : Does p ⟨159, d, c, of, n⟩ g s W := by
 have hr : secR (159 : Nat) c < 9 := by unfold secR; split <;> omega
 refine ⟨172, #[ptr (p 72)], rfl, fun a b w => enter_doCompare1 a b _ w, fun s' ov h => ?_⟩
 cases h
 exact doCompare1_any (159 : Nat) d c of n g (p 72) 120 (cpR 31 (s.v d) (s.v (secR (159 : Nat) c))) s W hx hd hr o1 o2 enter_mEqual (hbx 72 (by decide)) (fun wx => mEqual_any (s.v d) (s.v _) wx)

theorem does_160 (p : Nat → Nat) (d c : Nat) (of n : Int) (g : Nat) (s : MS) (W : World) (hbx : ∀ k, k < 88 → W.cell? ⟨p k, 0, none⟩ = some (boxV k)) (_hpg : ∀ k, k < 88 → p k ≠ g) (hx : XAt W g s) (_hm : MOk s) (hd : d < 9) (_hc : c < 9) (o1 : -32768 ≤ of) (o2 : of ≤ 32767) : Does p ⟨160, d, c, of, n⟩ g s W := by
 have hr : secR (160 : Nat) c < 9 := by unfold secR; split <;> omega
 refine ⟨172, #[ptr (p 75)], rfl, fun a b w => enter_doCompare1 a b _ w, fun s' ov h => ?_⟩
 cases h
 exact doCompare1_any (160 : Nat) d c of n g (p 75) 121 (cpR 32 (s.v d) (s.v (secR (160 : Nat) c))) s W hx hd hr o1 o2 enter_mNotEqual (hbx 75 (by decide)) (fun wx => mNotEqual_any (s.v d) (s.v _) wx)

theorem does_161 (p : Nat → Nat) (d c : Nat) (of n : Int) (g : Nat) (s : MS) (W : World) (hbx : ∀ k, k < 88 → W.cell? ⟨p k, 0, none⟩ = some (boxV k)) (_hpg : ∀ k, k < 88 → p k ≠ g) (hx : XAt W g s) (_hm : MOk s) (hd : d < 9) (_hc : c < 9) (o1 : -32768 ≤ of) (o2 : of ≤ 32767) : Does p ⟨161, d, c, of, n⟩ g s W := by
 have hr : secR (161 : Nat) c < 9 := by unfold secR; split <;> omega
 refine ⟨172, #[ptr (p 78)], rfl, fun a b w => enter_doCompare1 a b _ w, fun s' ov h => ?_⟩
 cases h
 exact doCompare1_any (161 : Nat) d c of n g (p 78) 124 (cpR 33 (s.v d) (s.v (secR (161 : Nat) c))) s W hx hd hr o1 o2 enter_mGreater (hbx 78 (by decide)) (fun wx => mGreater_any (s.v d) (s.v _) wx)

theorem does_162 (p : Nat → Nat) (d c : Nat) (of n : Int) (g : Nat) (s : MS) (W : World) (hbx : ∀ k, k < 88 → W.cell? ⟨p k, 0, none⟩ = some (boxV k)) (_hpg : ∀ k, k < 88 → p k ≠ g) (hx : XAt W g s) (_hm : MOk s) (hd : d < 9) (_hc : c < 9) (o1 : -32768 ≤ of) (o2 : of ≤ 32767) : Does p ⟨162, d, c, of, n⟩ g s W := by
 have hr : secR (162 : Nat) c < 9 := by unfold secR; split <;> omega
 refine ⟨172, #[ptr (p 81)], rfl, fun a b w => enter_doCompare1 a b _ w, fun s' ov h => ?_⟩
 cases h
 exact doCompare1_any (162 : Nat) d c of n g (p 81) 127 (cpR 34 (s.v d) (s.v (secR (162 : Nat) c))) s W hx hd hr o1 o2 enter_mNotLess (hbx 81 (by decide)) (fun wx => mNotLess_any (s.v d) (s.v _) wx)

theorem does_163 (p : Nat → Nat) (d c : Nat) (of n : Int) (g : Nat) (s : MS) (W : World) (hbx : ∀ k, k < 88 → W.cell? ⟨p k, 0, none⟩ = some (boxV k)) (_hpg : ∀ k, k < 88 → p k ≠ g) (hx : XAt W g s) (_hm : MOk s) (hd : d < 9) (_hc : c < 9) (o1 : -32768 ≤ of) (o2 : of ≤ 32767) : Does p ⟨163, d, c, of, n⟩ g s W := by
 have hr : secR (163 : Nat) c < 9 := by unfold secR; split <;> omega
 refine ⟨172, #[ptr (p 84)], rfl, fun a b w => enter_doCompare1 a b _ w, fun s' ov h => ?_⟩
 cases h
 exact doCompare1_any (163 : Nat) d c of n g (p 84) 128 (cpR 35 (s.v d) (s.v (secR (163 : Nat) c))) s W hx hd hr o1 o2 enter_mLess (hbx 84 (by decide)) (fun wx => mLess_any (s.v d) (s.v _) wx)

theorem does_164 (p : Nat → Nat) (d c : Nat) (of n : Int) (g : Nat) (s : MS) (W : World) (hbx : ∀ k, k < 88 → W.cell? ⟨p k, 0, none⟩ = some (boxV k)) (_hpg : ∀ k, k < 88 → p k ≠ g) (hx : XAt W g s) (_hm : MOk s) (hd : d < 9) (_hc : c < 9) (o1 : -32768 ≤ of) (o2 : of ≤ 32767) : Does p ⟨164, d, c, of, n⟩ g s W := by
 have hr : secR (164 : Nat) c < 9 := by unfold secR; split <;> omega
 refine ⟨172, #[ptr (p 87)], rfl, fun a b w => enter_doCompare1 a b _ w, fun s' ov h => ?_⟩
 cases h
 exact doCompare1_any (164 : Nat) d c of n g (p 87) 129 (cpR 36 (s.v d) (s.v (secR (164 : Nat) c))) s W hx hd hr o1 o2 enter_mNotGreater (hbx 87 (by decide)) (fun wx => mNotGreater_any (s.v d) (s.v _) wx)
theorem does_any (p : Nat → Nat) (op d c : Nat) (of n : Int) (g : Nat) (s : MS) (W : World) (hbx : ∀ k, k < 88 → W.cell? ⟨p k, 0, none⟩ = some (boxV k)) (hpg : ∀ k, k < 88 → p k ≠ g) (hx : XAt W g s) (hm : MOk s) (hd : d < 9) (hc : c < 9) (o1 : -32768 ≤ of) (o2 : of ≤ 32767) (h : [1, 2, 3, 4, 5, 6, 7, 8, 9, 10, 11, 20, 21, 22, 23, 24, 25, 26, 27, 30, 31, 32, 33, 34, 35, 36, 40, 41, 129, 130, 131, 132, 133, 134, 135, 136, 137, 138, 139, 159, 160, 161, 162, 163, 164].contains op = true) : Does p ⟨op, d, c, of, n⟩ g s W := by
 simp only [List.contains_cons, List.contains_nil, Bool.or_eq_true, beq_iff_eq, Bool.or_false] at h
 rcases h with h | h | h | h | h | h | h | h | h | h | h | h | h | h | h | h | h | h | h | h | h | h | h | h | h | h | h | h | h | h | h | h | h | h | h | h | h | h | h | h | h | h | h | h | h
 ·subst h; exact does_1 p d c of n g s W hbx hpg hx hm hd hc o1 o2
 ·subst h; exact does_2 p d c of n g s W hbx hpg hx hm hd hc o1 o2
 ·subst h; exact does_3 p d c of n g s W hbx hpg hx hm hd hc o1 o2
 ·subst h; exact does_4 p d c of n g s W hbx hpg hx hm hd hc o1 o2
 ·subst h; exact does_5 p d c of n g s W hbx hpg hx hm hd hc o1 o2
 ·subst h; exact does_6 p d c of n g s W hbx hpg hx hm hd hc o1 o2
 ·subst h; exact does_7 p d c of n g s W hbx hpg hx hm hd hc o1 o2
 ·subst h; exact does_8 p d c of n g s W hbx hpg hx hm hd hc o1 o2
 ·subst h; exact does_9 p d c of n g s W hbx hpg hx hm hd hc o1 o2
 ·subst h; exact does_10 p d c of n g s W hbx hpg hx hm hd hc o1 o2
 ·subst h; exact does_11 p d c of n g s W hbx hpg hx hm hd hc o1 o2
 ·subst h; exact does_20 p d c of n g s W hbx hpg hx hm hd hc o1 o2
 ·subst h; exact does_21 p d c of n g s W hbx hpg hx hm hd hc o1 o2
 ·subst h; exact does_22 p d c of n g s W hbx hpg hx hm hd hc o1 o2
 ·subst h; exact does_23 p d c of n g s W hbx hpg hx hm hd hc o1 o2
 ·subst h; exact does_24 p d c of n g s W hbx hpg hx hm hd hc o1 o2
 ·subst h; exact does_25 p d c of n g s W hbx hpg hx hm hd hc o1 o2
 ·subst h; exact does_26 p d c of n g s W hbx hpg hx hm hd hc o1 o2
 ·subst h; exact does_27 p d c of n g s W hbx hpg hx hm hd hc o1 o2
 ·subst h; exact does_30 p d c of n g s W hbx hpg hx hm hd hc o1 o2
 ·subst h; exact does_31 p d c of n g s W hbx hpg hx hm hd hc o1 o2
 ·subst h; exact does_32 p d c of n g s W hbx hpg hx hm hd hc o1 o2
 ·subst h; exact does_33 p d c of n g s W hbx hpg hx hm hd hc o1 o2
 ·subst h; exact does_34 p d c of n g s W hbx hpg hx hm hd hc o1 o2
 ·subst h; exact does_35 p d c of n g s W hbx hpg hx hm hd hc o1 o2
 ·subst h; exact does_36 p d c of n g s W hbx hpg hx hm hd hc o1 o2
 ·subst h; exact does_40 p d c of n g s W hbx hpg hx hm hd hc o1 o2
 ·subst h; exact does_41 p d c of n g s W hbx hpg hx hm hd hc o1 o2
 ·subst h; exact does_129 p d c of n g s W hbx hpg hx hm hd hc o1 o2
 ·subst h; exact does_130 p d c of n g s W hbx hpg hx hm hd hc o1 o2
 ·subst h; exact does_131 p d c of n g s W hbx hpg hx hm hd hc o1 o2
 ·subst h; exact does_132 p d c of n g s W hbx hpg hx hm hd hc o1 o2
 ·subst h; exact does_133 p d c of n g s W hbx hpg hx hm hd hc o1 o2
 ·subst h; exact does_134 p d c of n g s W hbx hpg hx hm hd hc o1 o2
 ·subst h; exact does_135 p d c of n g s W hbx hpg hx hm hd hc o1 o2
 ·subst h; exact does_136 p d c of n g s W hbx hpg hx hm hd hc o1 o2
 ·subst h; exact does_137 p d c of n g s W hbx hpg hx hm hd hc o1 o2
 ·subst h; exact does_138 p d c of n g s W hbx hpg hx hm hd hc o1 o2
 ·subst h; exact does_139 p d c of n g s W hbx hpg hx hm hd hc o1 o2
 ·subst h; exact does_159 p d c of n g s W hbx hpg hx hm hd hc o1 o2
 ·subst h; exact does_160 p d c of n g s W hbx hpg hx hm hd hc o1 o2
 ·subst h; exact does_161 p d c of n g s W hbx hpg hx hm hd hc o1 o2
 ·subst h; exact does_162 p d c of n g s W hbx hpg hx hm hd hc o1 o2
 ·subst h; exact does_163 p d c of n g s W hbx hpg hx hm hd hc o1 o2
 ·subst h; exact does_164 p d c of n g s W hbx hpg hx hm hd hc o1 o2
end Go.Proofs.YtoobileejdhikaaGreat

namespace Go.Proofs.YtoobileejdhikaaGreat
set_option maxRecDepth 100000
set_option maxHeartbeats 4000000
open Go.RowKit
attribute [local go_sem ↓] Go.wp_at_zero Go.wp_at_succ

structure PI.Go (x : PI) : Prop where
 op : opTab x.op = true
 d : x.d < 9
 c : x.c < 9
 n1 : -2147483648 ≤ x.n
 n2 : x.n ≤ 2147483647
 o1 : -32768 ≤ x.of
 o2 : x.of ≤ 32767
 j : (x.op = 30 ∨ (31 ≤ x.op ∧ x.op ≤ 36) ∨ (159 ≤ x.op ∧ x.op ≤ 164)) → 0 ≤ x.of
def MS.ahead (s : MS) (n : Int) : MS := s.setV 8 (w64 n)
theorem setV_ok {s : MS} (h : MOk s) (r : Nat) {x : Int} (h0 : 0 ≤ x) (h1 : x < 18446744073709551616) : MOk (s.setV r x) :=
 ⟨fun i hi => by show 0 ≤ (if i = r then x else s.v i); split; exact h0; exact h.v0 i hi, fun i hi => by show (if i = r then x else s.v i) < _; split; exact h1; exact h.v1 i hi, h.m, h.f0, h.fl, h.l1⟩
theorem w64_bd (n : Int) : 0 ≤ w64 n ∧ w64 n < 18446744073709551616 := by rw [w64_eq]; omega
theorem ahead_mok {s : MS} (h : MOk s) (n : Int) : MOk (s.ahead n) := setV_ok h 8 (w64_bd n).1 (w64_bd n).2
theorem bits_bd (o : BinOp) (a b : Int) (h : o = .and ∨ o = .or ∨ o = .xor) : 0 ≤ bits o .u64 a b ∧ bits o .u64 a b < 18446744073709551616 := by
 rcases h with rfl | rfl | rfl
 ·have e : bits .and .u64 a b = w64 ((BitVec.ofInt 64 a &&& BitVec.ofInt 64 b).toNat : Int) := rfl
  rw [e]; exact w64_bd _
 ·have e : bits .or .u64 a b = w64 ((BitVec.ofInt 64 a ||| BitVec.ofInt 64 b).toNat : Int) := rfl
  rw [e]; exact w64_bd _
 ·have e : bits .xor .u64 a b = w64 ((BitVec.ofInt 64 a ^^^ BitVec.ofInt 64 b).toNat : Int) := rfl
  rw [e]; exact w64_bd _
theorem wkR_bd (k : Nat) {a b : Int} (a0 : 0 ≤ a) (a1 : a < 18446744073709551616) (b0 : 0 ≤ b) : 0 ≤ wkR k a b ∧ wkR k a b < 18446744073709551616 := by
 unfold wkR
 split
 ·exact w64_bd _
 split
 ·exact w64_bd _
 split
 ·exact w64_bd _
 split
 ·split
  ·omega
  ·have := Int.ediv_nonneg a0 b0; have := Int.ediv_le_self b a0; omega
 split
 ·split
  ·omega
  ·rename_i hb; have := Int.emod_nonneg a hb; have h3 := Int.mul_nonneg b0 (Int.ediv_nonneg a0 b0); have := Int.emod_def a b; omega
 split
 ·exact bits_bd _ _ _ (.inl rfl)
 split
 ·exact bits_bd _ _ _ (.inr (.inl rfl))
 split
 ·exact bits_bd _ _ _ (.inr (.inr rfl))
 split
 ·exact w64_bd _
 ·have h2 : (0 : Int) ≤ 2 ^ (b % 64).toNat := Int.pow_nonneg (by decide)
  have := Int.ediv_nonneg a0 h2; have := Int.ediv_le_self (2 ^ (b % 64).toNat) a0; omega
theorem ldGo_bd (m : Nat → Int) (F : Nat) : ∀ (k i : Nat) (n : Int), 0 ≤ n → n < 18446744073709551616 → 0 ≤ ldGo m F k i n ∧ ldGo m F k i n < 18446744073709551616
 | 0, _, _, h0, h1 => ⟨h0, h1⟩
 | k + 1, i, _, _, _ => ldGo_bd m F k (i + 1) _ (bits_bd _ _ _ (.inr (.inl rfl))).1 (bits_bd _ _ _ (.inr (.inl rfl))).2
theorem stGo_ok (n : Int) (F : Nat) : ∀ (k i : Nat) (s : MS), MOk s → MOk (stGo n F k i s)
 | 0, _, _, h => h
 | k + 1, i, s, h => stGo_ok n F k (i + 1) _ ⟨h.v0, h.v1, fun j => by show 0 ≤ (if j = F + i then _ else s.m j) ∧ (if j = F + i then _ else s.m j) ≤ 255; split; omega; exact h.m j, h.f0, h.fl, h.l1⟩
theorem call_mok {s : MS} (h : MOk s) (n : Int) : MOk (s.call n) := by
 have hf := h.f0; have hfl := h.fl; have hl := h.l1
 unfold MS.call
 split
 ·exact setV_ok h 0 (by omega) (by omega)
 split
 ·exact setV_ok h 0 (by omega) (by omega)
 unfold MS.shrink
 split
 ·exact setV_ok h 0 (by decide) (by decide)
 ·have h1 := h.v0 1 (by omega)
  have h2 : MOk { s with f := s.f + s.v 1 } := ⟨h.v0, h.v1, h.m, by show 1000 ≤ s.f + s.v 1; omega, by show s.f + s.v 1 ≤ s.l; omega, h.l1⟩
  exact setV_ok h2 0 (by decide) (by decide)
theorem PI.r9 {x : PI} (hc : x.c < 9) : x.r < 9 := by unfold PI.r secR; split <;> omega
theorem doWk_ok {k : Nat} {x : PI} {s s' : MS} {ov : Int} (hd : x.d < 9) (hc : x.c < 9) (h : MOk s) (e : doWk k x s = some (s', ov)) : MOk s' ∧ 0 ≤ ov ∧ ov ≤ 32767 := by
 cases e
 have hb := wkR_bd k (h.v0 x.d hd) (h.v1 x.d hd) (h.v0 x.r (PI.r9 hc))
 exact ⟨setV_ok h _ hb.1 hb.2, by decide, by decide⟩
theorem doCp_ok {k : Nat} {x : PI} {s s' : MS} {ov : Int} (o0 : 0 ≤ x.of) (o2 : x.of ≤ 32767) (h : MOk s) (e : doCp k x s = some (s', ov)) : MOk s' ∧ 0 ≤ ov ∧ ov ≤ 32767 := by
 cases e
 exact ⟨h, by split <;> omega, by split <;> omega⟩
theorem doLd_ok {z : Nat} {x : PI} {s s' : MS} {ov : Int} (h : MOk s) (e : doLd x s z = some (s', ov)) : MOk s' ∧ 0 ≤ ov ∧ ov ≤ 32767 := by
 unfold doLd at e
 split at e
 ·cases e
  have hb := ldGo_bd s.m (acc s x.c x.of).toNat z 0 0 (by decide) (by decide)
  exact ⟨setV_ok h _ hb.1 hb.2, by decide, by decide⟩
 ·cases e
theorem doSt_ok {z : Nat} {x : PI} {s s' : MS} {ov : Int} (h : MOk s) (e : doSt x s z = some (s', ov)) : MOk s' ∧ 0 ≤ ov ∧ ov ≤ 32767 := by
 unfold doSt at e
 split at e
 ·cases e
  exact ⟨stGo_ok _ _ _ _ _ h, by decide, by decide⟩
 ·cases e
theorem doK_ok {x : PI} {s s' : MS} {ov : Int} (hx : x.Go) (h : MOk s) (e : doK x s = some (s', ov)) : MOk s' ∧ 0 ≤ ov ∧ ov ≤ 32767 := by
 obtain ⟨hop, hd, hc, _, _, _, o2, hj⟩ := hx
 obtain ⟨op, d, c, of, n⟩ := x
 dsimp only at hop hj o2
 simp only [opTab, List.contains_cons, List.contains_nil, Bool.or_eq_true, beq_iff_eq, Bool.or_false] at hop
 rcases hop with hq | hq | hq | hq | hq | hq | hq | hq | hq | hq | hq | hq | hq | hq | hq | hq | hq | hq | hq | hq | hq | hq | hq | hq | hq | hq | hq | hq | hq | hq | hq | hq | hq | hq | hq | hq | hq | hq | hq | hq | hq | hq | hq | hq | hq
 ·subst hq; cases e; exact ⟨setV_ok h _ (h.v0 _ (PI.r9 hc)) (h.v1 _ (PI.r9 hc)), by decide, by decide⟩
 ·subst hq; exact doWk_ok hd hc h e
 ·subst hq; exact doWk_ok hd hc h e
 ·subst hq; exact doWk_ok hd hc h e
 ·subst hq; exact doWk_ok hd hc h e
 ·subst hq; exact doWk_ok hd hc h e
 ·subst hq; exact doWk_ok hd hc h e
 ·subst hq; exact doWk_ok hd hc h e
 ·subst hq; exact doWk_ok hd hc h e
 ·subst hq; exact doWk_ok hd hc h e
 ·subst hq; exact doWk_ok hd hc h e
 ·subst hq; exact doLd_ok h e
 ·subst hq; exact doLd_ok h e
 ·subst hq; exact doLd_ok h e
 ·subst hq; exact doLd_ok h e
 ·subst hq; exact doSt_ok h e
 ·subst hq; exact doSt_ok h e
 ·subst hq; exact doSt_ok h e
 ·subst hq; exact doSt_ok h e
 ·subst hq; cases e; exact ⟨h, hj (by simp), o2⟩
 ·subst hq; exact doCp_ok (hj (by simp)) o2 h e
 ·subst hq; exact doCp_ok (hj (by simp)) o2 h e
 ·subst hq; exact doCp_ok (hj (by simp)) o2 h e
 ·subst hq; exact doCp_ok (hj (by simp)) o2 h e
 ·subst hq; exact doCp_ok (hj (by simp)) o2 h e
 ·subst hq; exact doCp_ok (hj (by simp)) o2 h e
 ·subst hq; cases e; exact ⟨call_mok h _, by decide, by decide⟩
 ·subst hq; cases e; exact ⟨h, by decide, by decide⟩
 ·subst hq; cases e; exact ⟨setV_ok h _ (h.v0 _ (PI.r9 hc)) (h.v1 _ (PI.r9 hc)), by decide, by decide⟩
 ·subst hq; exact doWk_ok hd hc h e
 ·subst hq; exact doWk_ok hd hc h e
 ·subst hq; exact doWk_ok hd hc h e
 ·subst hq; exact doWk_ok hd hc h e
 ·subst hq; exact doWk_ok hd hc h e
 ·subst hq; exact doWk_ok hd hc h e
 ·subst hq; exact doWk_ok hd hc h e
 ·subst hq; exact doWk_ok hd hc h e
 ·subst hq; exact doWk_ok hd hc h e
 ·subst hq; exact doWk_ok hd hc h e
 ·subst hq; exact doCp_ok (hj (by simp)) o2 h e
 ·subst hq; exact doCp_ok (hj (by simp)) o2 h e
 ·subst hq; exact doCp_ok (hj (by simp)) o2 h e
 ·subst hq; exact doCp_ok (hj (by simp)) o2 h e
 ·subst hq; exact doCp_ok (hj (by simp)) o2 h e
 ·subst hq; exact doCp_ok (hj (by simp)) o2 h e
def runR (I : Nat → PI) (n : Nat) : Nat → Nat → MS → Option MS
 | 0, _, s => some s
 | f + 1, i, s => if i < n then (match doK (I i) (s.ahead (I i).n) with | none => none | some (s', ov) => runR I n f (i + 1 + ov.toNat) s') else some s
theorem runR_end {I : Nat → PI} {n f i : Nat} {s : MS} (h : ¬ i < n) : runR I n f i s = some s := by
 cases f with
 | zero => rfl
 | succ f => show (if i < n then _ else _) = _; rw [if_neg h]
theorem runR_step {I : Nat → PI} {n f i : Nat} {s e : MS} (h : i < n) (hr : runR I n (f + 1) i s = some e) : ∃ s' ov, doK (I i) (s.ahead (I i).n) = some (s', ov) ∧ runR I n f (i + 1 + ov.toNat) s' = some e := by
 change (if i < n then _ else _) = _ at hr
 rw [if_pos h] at hr
 cases hd : doK (I i) (s.ahead (I i).n) with
 | none => rw [hd] at hr; cases hr
 | some q => obtain ⟨s', ov⟩ := q; rw [hd] at hr; exact ⟨s', ov, rfl, hr⟩
structure EnvX (p : Nat → Nat) (T gl n : Nat) (I : Nat → PI) (W : World) : Prop where
 row : W.heap[T]? = some (.cells (tabP p) 105)
 li : ∀ i, i < n → W.cell? ⟨gl, i * 5, none⟩ = some (.int .u8 (I i).op) ∧ W.cell? ⟨gl, i * 5 + 1, none⟩ = some (.int .u8 (I i).d) ∧ W.cell? ⟨gl, i * 5 + 2, none⟩ = some (.int .u8 (I i).c) ∧ W.cell? ⟨gl, i * 5 + 3, none⟩ = some (.int .i16 (I i).of) ∧ W.cell? ⟨gl, i * 5 + 4, none⟩ = some (.int .i32 (I i).n)
 bx : ∀ k, k < 88 → W.cell? ⟨p k, 0, none⟩ = some (boxV k)
theorem EnvX.tch {p : Nat → Nat} {T gl n : Nat} {I : Nat → PI} {W W' : World} (h : EnvX p T gl n I W) {g : Nat} (hb : Tch g g W W') (h1 : T ≠ g) (h2 : gl ≠ g) (h3 : ∀ k, k < 88 → p k ≠ g) : EnvX p T gl n I W' := by
 have c : ∀ {b o : Nat} {v : Value}, b ≠ g → W.cell? ⟨b, o, none⟩ = some v → W'.cell? ⟨b, o, none⟩ = some v := fun hn hc => (hb.cell (block_lt_of_cell hc) hn hn).trans hc
 exact ⟨(hb.block T (Array.getElem?_eq_some_iff.1 h.row).1 h1 h1).trans h.row, fun i hi => ⟨c h2 (h.li i hi).1, c h2 (h.li i hi).2.1, c h2 (h.li i hi).2.2.1, c h2 (h.li i hi).2.2.2.1, c h2 (h.li i hi).2.2.2.2⟩, fun k hk => c (h3 k hk) (h.bx k hk)⟩
theorem EnvX.keep {p : Nat → Nat} {T gl n : Nat} {I : Nat → PI} {W W' : World} (h : EnvX p T gl n I W) (hb : Below W.heap.size W W') : EnvX p T gl n I W' :=
 ⟨(hb.block T (Array.getElem?_eq_some_iff.1 h.row).1).trans h.row, fun i hi => ⟨cellKeep hb (h.li i hi).1, cellKeep hb (h.li i hi).2.1, cellKeep hb (h.li i hi).2.2.1, cellKeep hb (h.li i hi).2.2.2.1, cellKeep hb (h.li i hi).2.2.2.2⟩, fun k hk => cellKeep hb (h.bx k hk)⟩
theorem cell_later' {B : Nat} {W w1 : World} {a : Addr} {v : Value} (hb : Below B W w1) (hB : B = W.heap.size) (h : W.cell? a = some v) : w1.cell? a = some v := by
 subst hB
 exact cell_later hb h
theorem ownsRow_base {w : World} {b b' : Nat} {e : TypeId} {s : Nat} {v : Value} {n : Nat} {xs : List Value} (hb : b ≤ b') (h : w.ownsRow b' e s v n xs) : w.ownsRow b e s v n xs := by
 obtain ⟨h1, h2 | ⟨g, cap, cur, a1, a2, a3⟩⟩ := h
 ·exact ⟨h1, .inl h2⟩
 ·exact ⟨h1, .inr ⟨g, cap, cur, a1, Nat.le_trans hb a2, a3⟩⟩

theorem out_any (I : Nat → PI) (gl cp n : Nat) (a : Option Addr) (ln c : Nat) (xs : List Int) (w : World) (fin : MS) (Fi La : Nat) (hn1 : 1 ≤ n) (hn2 : n ≤ 64) (hgo : ∀ i, i < n → (I i).Go) (hI : ∀ i, i < n → w.cell? ⟨gl, i * 5, none⟩ = some (.int .u8 (I i).op) ∧ w.cell? ⟨gl, i * 5 + 1, none⟩ = some (.int .u8 (I i).d) ∧ w.cell? ⟨gl, i * 5 + 2, none⟩ = some (.int .u8 (I i).c) ∧ w.cell? ⟨gl, i * 5 + 3, none⟩ = some (.int .i16 (I i).of) ∧ w.cell? ⟨gl, i * 5 + 4, none⟩ = some (.int .i32 (I i).n))
  (hx : xs.length = ln) (hln : ln ≤ 64) (hc : BytesAt w a xs) (hok : MOk (startM xs)) (hrun : runR I n n 0 (startM xs) = some fin) (hv : fin.v 0 < 9223372036854775808) (hfi : fin.f = Fi + 1000) (hla : fin.l = La + 1000) (hfl : Fi ≤ La) (hl96 : La ≤ 96) :
  Calls Tryz.prog 57 #[.slice (some ⟨gl, 0, none⟩) n cp, .slice a ln c] w fun e w' => ∃ v, e = .returned (.tuple #[.int .i64 (fin.v 0), v]) ∧ w'.ownsRow w.heap.size 5 1 v (La - Fi) (byV fin.left) ∧ Below w.heap.size w w' := by
 have HI := hideX hI
 have HG := hideX hgo
 have HR := hideX hrun
 have lgl : gl < w.heap.size := block_lt_of_cell (hI 0 (by omega)).1
 clear hI hgo hrun
 have hzT := zeroT
 go_enter Tryz.func57, Tryz.ntmps57
 go_wp2_with fail
 refine (table_any _).mono ?_
 rintro e w1 ⟨p, rfl, hbx, hb1⟩
 have HBX := hideX hbx
 clear hbx
 go_wp2_with (refine wpList_store_row rfl 105 _ _ rfl w1.heap.size (tabP p) rfl rfl 105 zeros768 (heap_alloc_new w1 _) (by kernel_rfl) (by kernel_rfl) (by kernel_rfl) ?_)
 have hb2 : Below w.heap.size w ((w1.alloc (Obj.cells zeros768 105)).setRow w1.heap.size (tabP p)) := below_setRowK (hb1.alloc hb1.size _) hb1.size _
 have hb12 : Below w1.heap.size w1 ((w1.alloc (Obj.cells zeros768 105)).setRow w1.heap.size (tabP p)) := below_setRowK ((Below.refl _ _).alloc (Nat.le_refl _) _) (Nat.le_refl _) _
 have kT : ((w1.alloc (Obj.cells zeros768 105)).setRow w1.heap.size (tabP p)).heap[w1.heap.size]? = some (.cells (tabP p) 105) := setRow_heap _ _ zeros768 _ _ _ (heap_alloc_new w1 _)
 generalize hW2 : ((w1.alloc (Obj.cells zeros768 105)).setRow w1.heap.size (tabP p)) = W2 at hb2 hb12 kT ⊢
 clear hW2
 have E2 : EnvX p w1.heap.size gl n I W2 := ⟨kT, fun i hi => by have h := HI.out i hi; exact ⟨cellKeep' hb2 lgl h.1, cellKeep' hb2 lgl h.2.1, cellKeep' hb2 lgl h.2.2.1, cellKeep' hb2 lgl h.2.2.2.1, cellKeep' hb2 lgl h.2.2.2.2⟩, fun k hk => cellKeep hb12 (HBX.out k hk)⟩
 have hc2 : BytesAt W2 a xs := by rcases hc with e | ⟨ad, e, h⟩; exact .inl e; exact .inr ⟨ad, e, fun j u hj => cell_later' hb2 rfl (h j u hj)⟩
 refine (xstart_any a ln c xs W2 hx hln hc2).mono ?_
 rintro e W3 ⟨g, rfl, hg, x3, hb3⟩
 have E3 := E2.keep hb3
 have hB3 : Below w.heap.size w W3 := hb2.trans (hb3.mono hb2.size)
 have nT : w1.heap.size ≠ g := by have := (Array.getElem?_eq_some_iff.1 kT).1; omega
 have nG : gl ≠ g := by have := hb2.size; omega
 have nP : ∀ k, k < 88 → p k ≠ g := fun k hk => by have := block_lt_of_cell (E2.bx k hk); dsimp only at this; omega
 have lg : w.heap.size ≤ g := by have := hb2.size; omega
 have HE3 := hideX E3
 have HX3 := hideX x3
 have HNP := hideX nP
 clear E2 E3 x3 nP hc hc2 hb2 hb12 kT hb3 HBX HI hzT
 go_wp2_with fail
 go_loopw [8] (fun i wr => ∃ (k f : Nat) (s : MS), i = .int .i64 k ∧ k ≤ 40000 ∧ n ≤ k + f ∧ Hid (runR I n f k s = some fin) ∧ Hid (MOk s) ∧ Hid (XAt wr g s) ∧ Hid (EnvX p w1.heap.size gl n I wr) ∧ Below w.heap.size w wr ∧ g < wr.heap.size) (fun i _ => n - (intOf i).toNat)
 case atStart => exact ⟨0, n, startM xs, rfl, by omega, by omega, HR, hideX hok, HX3, HE3, hB3, HX3.out.lt⟩
 case round =>
  obtain ⟨k, f, s, rfl, hk4, hkf, HS, HM, HX, HE, hb, lgr⟩ := hrel
  clear HX3 HE3 hB3
  by_cases hlt : k < n
  ·obtain ⟨f, rfl⟩ : ∃ f', f = f' + 1 := ⟨f - 1, by omega⟩
   obtain ⟨s', ov, hdo, hrest⟩ := runR_step hlt HS.out
   have hgo := HG.out k hlt
   have HDO := hideX hdo
   have HREST := hideX hrest
   clear hdo hrest
   have i1 : (0 : Int) ≤ (k : Int) := by omega
   have i2 : (k : Int) < (n : Int) := by omega
   have l0 := (HE.out.li k hlt).1
   have l1 := (HE.out.li k hlt).2.1
   have l2 := (HE.out.li k hlt).2.2.1
   have l3 := (HE.out.li k hlt).2.2.2.1
   have l4 := (HE.out.li k hlt).2.2.2.2
   have gn1 := hgo.n1
   have gn2 := hgo.n2
   have HGo := hideX hgo
   clear hgo
   have CA := fun wx (hx : XAt wx g s) => xahead_any g s (I k).n wx hx gn1 gn2
   go_wp2_with (go_at_call 76; refine (CA _ (HX.out.alloc _)).mono ?_; rintro e V0 ⟨rfl, xV, htV⟩)
   have hbX : Below wr.heap.size wr (wr.alloc (Obj.cells #[Value.int IntKind.u8 (I k).op, Value.int IntKind.u8 (I k).d, Value.int IntKind.u8 (I k).c, Value.int IntKind.i16 (I k).of, Value.int IntKind.i32 (I k).n] 121)) := (Below.refl _ _).alloc (Nat.le_refl _) _
   have b0 : V0.cell? ⟨wr.heap.size, 0, none⟩ = some (.int .u8 (I k).op) := (htV.cell (by simp) (by omega) (by omega)).trans (by simp [go_sem])
   have b1 : V0.cell? ⟨wr.heap.size, 1, none⟩ = some (.int .u8 (I k).d) := (htV.cell (by simp) (by omega) (by omega)).trans (by simp [go_sem])
   have b2 : V0.cell? ⟨wr.heap.size, 2, none⟩ = some (.int .u8 (I k).c) := (htV.cell (by simp) (by omega) (by omega)).trans (by simp [go_sem])
   have b3 : V0.cell? ⟨wr.heap.size, 3, none⟩ = some (.int .i16 (I k).of) := (htV.cell (by simp) (by omega) (by omega)).trans (by simp [go_sem])
   have b4 : V0.cell? ⟨wr.heap.size, 4, none⟩ = some (.int .i32 (I k).n) := (htV.cell (by simp) (by omega) (by omega)).trans (by simp [go_sem])
   have EV : EnvX p w1.heap.size gl n I V0 := (HE.out.keep hbX).tch htV nT nG HNP.out
   have hbV : Below w.heap.size w V0 := (hb.trans (hbX.mono hb.size)).trans (htV.below lg lg (hb.trans (hbX.mono hb.size)).size)
   have mV := ahead_mok HM.out (I k).n
   have lV := xV.lt
   have hDoes : Does p (I k) g (s.ahead (I k).n) V0 := does_any p (I k).op (I k).d (I k).c (I k).of (I k).n g _ V0 EV.bx HNP.out xV mV HGo.out.d HGo.out.c HGo.out.o1 HGo.out.o2 HGo.out.op
   have hop := opTab_lt HGo.out.op
   obtain ⟨F, caps, eD, eEn, _⟩ := hDoes
   have tL : V0.cell? ⟨w1.heap.size, (I k).op * 3 + 2, none⟩ = some (.func (.func F) #[] caps) := by rw [cell_of_row V0 _ _ _ _ _ EV.row, Nat.mul_comm, tabP_do p _ hop, eD]
   have o0 : (0 : Int) ≤ ((I k).op : Int) := by omega
   have o1 : ((I k).op : Int) < 256 := by omega
   obtain ⟨mS, ov0, ov1⟩ := doK_ok HGo.out mV HDO.out
   have lB : wr.heap.size < V0.heap.size := block_lt_of_cell b0
   have nB : wr.heap.size ≠ g := by omega
   have lT : w1.heap.size < V0.heap.size := (Array.getElem?_eq_some_iff.1 EV.row).1
   have HMV := hideX mV
   have HMS := hideX mS
   have HXV := hideX xV
   have HEV := hideX EV
   clear mV mS xV EV hbX htV l0 l1 l2 l3 l4 CA
   refine wp_region_noPanic ?_
   refine wp_region_held_drew (S := fun w' => w'.cell? ⟨wr.heap.size, 0, none⟩ = some (.int .u8 (I k).op) ∧ w'.cell? ⟨wr.heap.size, 1, none⟩ = some (.int .u8 (I k).d) ∧ w'.cell? ⟨wr.heap.size, 2, none⟩ = some (.int .u8 (I k).c) ∧ w'.cell? ⟨wr.heap.size, 3, none⟩ = some (.int .i16 (I k).of) ∧ w'.cell? ⟨wr.heap.size, 4, none⟩ = some (.int .i32 (I k).n) ∧ w'.cell? ⟨w1.heap.size, (I k).op * 3 + 2, none⟩ = some (.func (.func F) #[] caps)) (by kernel_rfl) ⟨b0, b1, b2, b3, b4, tL⟩ (fun hHeld => ?_)
   refine tkH 0 ?_
   try simp only [Act.put]
   refine tkH 1 ?_
   try simp only [Act.put]
   refine tkH 2 ?_
   try simp only [Act.put]
   refine tkH 3 ?_
   try simp only [Act.put]
   refine tkH 4 ?_
   try simp only [Act.put]
   refine tkH 5 ?_
   try simp only [Act.put]
   refine tkH 6 ?_
   try simp only [Act.put]
   refine tkH 7 ?_
   try simp only [Act.put]
   refine rdH 8 (fun K hK => ?_)
   go_simp
   have hD := does_any p (I k).op (I k).d (I k).c (I k).of (I k).n g _ _ (HEV.out.keep (Below.refl _ _).drew).bx HNP.out HXV.out.drew HMV.out HGo.out.d HGo.out.c HGo.out.o1 HGo.out.o2 HGo.out.op
   obtain ⟨F2, caps2, eD2, _, hC⟩ := hD
   change doAt p (I k).op = _ at eD2
   rw [eD] at eD2
   simp only [Value.func.injEq, Fn.func.injEq, true_and] at eD2
   obtain ⟨rfl, rfl⟩ := eD2
   refine (hC s' ov HDO.out).mono ?_
   rintro e WX ⟨rfl, x8, ht8⟩
   have HX8 := hideX x8
   clear x8 hC
   go_wp2_with fail
   refine hK.out _ _ ?_ (fun hHeld => ?_)
   ·exact ⟨(ht8.cell lB nB nB).trans hHeld.1, (ht8.cell lB nB nB).trans hHeld.2.1, (ht8.cell lB nB nB).trans hHeld.2.2.1, (ht8.cell lB nB nB).trans hHeld.2.2.2.1, (ht8.cell lB nB nB).trans hHeld.2.2.2.2.1, (ht8.cell lT nT nT).trans hHeld.2.2.2.2.2⟩
   clear hK K
   try simp only [Act.put]
   obtain ⟨q, rfl⟩ := Int.eq_ofNat_of_zero_le ov0
   have w1a : IntKind.i64.wrap (1 + (q : Int)) = 1 + q := by rw [IntKind.wrap_i64]; omega
   have w2a : IntKind.i64.wrap ((k : Int) + (1 + q)) = (k : Int) + 1 + q := by rw [IntKind.wrap_i64]; omega
   refine tkH 9 ?_
   try simp only [Act.put]
   refine tkH 10 ?_
   try simp only [Act.put]
   refine rdH 11 (fun K hK => ?_)
   go_simp
   refine hK.out _ _ ?_ (fun hHeld => ?_)
   ·exact hHeld
   clear hK K
   try simp only [Act.put]
   refine wpAnyH_done (by kernel_rfl) ?_ _
   refine NoPanic.normal ?_
   have hb8 : Below w.heap.size w WX := hbV.drew.trans (ht8.below lg lg (by exact hbV.size))
   have E8 := (HEV.out.keep (Below.refl _ _).drew).tch ht8 nT nG HNP.out
   have HE8 := hideX E8
   have l8 := HX8.out.lt
   clear E8 ht8 hHeld
   go_wp2
   go_roundw
   case rel => exact ⟨k + 1 + q, f, s', congrArg (Value.int .i64) (by omega), by omega, by omega, by simpa using HREST, HMS, HX8, HE8, hb8, l8⟩
   case measure => simp [intOf]; omega
  ·have he : runR I n f k s = some s := runR_end hlt
   rw [HS.out] at he
   cases he
   have m0 := HM.out.v0 0 (by omega)
   have CV := fun wx (hx : XAt wx g fin) => xverdict_any g fin wx hx m0 hv
   have CF := fun wx (hx : XAt wx g fin) => xframe_any g fin wx hx Fi La hfi hla hfl hl96
   go_wp2_with (first | (go_at_call 77; refine (CV _ HX.out).mono ?_; rintro e w' ⟨rfl, rfl⟩) | (go_at_call 78; refine (CF _ HX.out).mono ?_; rintro e w5 ⟨v, rfl, hown, hb5⟩))
   go_ret2
   exact ⟨v, rfl, ownsRow_base hb.size hown, hb.trans (hb5.mono hb.size)⟩
end Go.Proofs.YtoobileejdhikaaGreat

namespace Go.Proofs.YtoobileejdhikaaGreat
set_option maxRecDepth 100000
set_option maxHeartbeats 400000
open Go.RowKit

theorem jumpG {x : PI} {i n : Nat} (h : x.Right i n) (ho : opTab x.op = true) : x.Go :=
 ⟨ho, h.d, h.c, h.n1, h.n2, h.o1, h.o2, fun hj => (h.jmp (by
  rcases hj with e | ⟨e1, e2⟩ | ⟨e1, e2⟩
  ·rw [e]; rfl
  ·simp [jumps, e1, e2]
  ·simp [jumps, e1, e2])).1⟩
theorem good_in {B : Nat → Int} {n i : Nat} (hB : ∀ i, 0 ≤ B i ∧ B i ≤ 255) (h : badP B n i = false) : opIn (B (8 * i)).toNat = true := by
 have hop : (B (8 * i)).toNat < 256 := by have := hB (8 * i); omega
 unfold badP at h
 simp only [Bool.not_eq_false', Bool.and_eq_true] at h
 cases hq : opIn (B (8 * i)).toNat
 ·have := h.1; rw [fitP_not _ hop hq] at this; cases this
 ·rfl
theorem go_of_good {B : Nat → Int} {n i : Nat} (hB : ∀ i, 0 ≤ B i ∧ B i ≤ 255) (hi : i < n) (h : badP B n i = false) : (piOf B i).Go :=
 jumpG (right_of_good hB hi h) (good_in hB h)
theorem startM_ok {xs : List Int} (hx : ∀ x ∈ xs, 0 ≤ x ∧ x ≤ 255) (hl : xs.length ≤ 64) : MOk (startM xs) := by
 refine ⟨fun r _ => ?_, fun r _ => ?_, fun i => ?_, by show (1000 : Int) ≤ 1032; decide, by show (1032 : Int) ≤ 1032 + xs.length; omega, by show (1032 : Int) + xs.length ≤ 1096; omega⟩
 ·show (0 : Int) ≤ (if r = 1 then 1032 else if r = 2 then 1032 + (xs.length : Int) else if r = 7 then 1032 else 0)
  (repeat' split) <;> omega
 ·show (if r = 1 then (1032 : Int) else if r = 2 then 1032 + (xs.length : Int) else if r = 7 then 1032 else 0) < _
  (repeat' split) <;> omega
 ·show 0 ≤ (if 32 ≤ i then xs.getD (i - 32) 0 else 0) ∧ (if 32 ≤ i then xs.getD (i - 32) 0 else 0) ≤ 255
  split
  ·by_cases h : i - 32 < xs.length
   ·have := hx _ (List.getElem_mem h)
    simpa [List.getElem?_eq_getElem h] using this
   ·simp [List.getElem?_eq_none (Nat.le_of_not_lt h)]
  ·omega
theorem runR_ok {I : Nat → PI} {n : Nat} (hg : ∀ i, i < n → (I i).Go) : ∀ (f i : Nat) (s e : MS), MOk s → runR I n f i s = some e → MOk e
 | 0, _, _, _, h, hr => by cases hr; exact h
 | f + 1, i, s, e, h, hr => by
  by_cases hi : i < n
  ·obtain ⟨s', ov, hd, hr'⟩ := runR_step hi hr
   exact runR_ok hg f _ s' e (doK_ok (hg i hi) (ahead_mok h _) hd).1 hr'
  ·rw [runR_end hi] at hr; cases hr; exact h

theorem run_long (f : Nat) (a : Option Addr) (ln c : Nat) (w : World) (h : 64 < ln) (_hm : ln ≤ 9223372036854775807) :
  Calls Tryz.prog 33 #[.pointer (some ⟨f, 0, none⟩), .slice a ln c] w fun e w' => e = .returned (.tuple #[.int .i64 0, .slice none 0 0, .int .i64 4]) ∧ w = w' := by
 have h1 : (64 : Int) < ln := by omega
 go_enter Tryz.func33, Tryz.ntmps33
 go_wp2
 refine bodyPost_ret (v := .tuple #[.int .i64 0, .slice none 0 0, .int .i64 4]) (by simp [results, Tryz.results33, go_sem]) rfl ?_
 exact ⟨rfl, rfl⟩

theorem run_any (B : Nat → Int) (n f g cap : Nat) (a : Option Addr) (ln c : Nat) (xs : List Int) (w : World) (fin : MS) (hn1 : 1 ≤ n) (hn2 : n ≤ 64) (h : FiltAt w f g cap (codeL B (8 * n))) (hB : ∀ i, 0 ≤ B i ∧ B i ≤ 255)
  (hgood : ∀ j, j < n → badP B n j = false) (hx : xs.length = ln) (hln : ln ≤ 64) (hc : BytesAt w a xs) (hxb : ∀ x ∈ xs, 0 ≤ x ∧ x ≤ 255) (hrun : runR (piOf B) n n 0 (startM xs) = some fin) (hv : fin.v 0 < 9223372036854775808) :
  Calls Tryz.prog 33 #[.pointer (some ⟨f, 0, none⟩), .slice a ln c] w fun e w' => ∃ v, e = .returned (.tuple #[.int .i64 (fin.v 0), v, .int .i64 0]) ∧ w'.ownsRow w.heap.size 5 1 v fin.left.length (byV fin.left) ∧ Below w.heap.size w w' := by
 have hgo : ∀ i, i < n → (piOf B i).Go := fun i hi => go_of_good hB hi (hgood i hi)
 have hok := startM_ok hxb (by omega)
 have hfin := runR_ok hgo n 0 _ fin hok hrun
 have f0 := hfin.f0
 have fl := hfin.fl
 have l1 := hfin.l1
 have hfi : fin.f = ((fin.f - 1000).toNat : Int) + 1000 := by omega
 have hla : fin.l = ((fin.l - 1000).toNat : Int) + 1000 := by omega
 have hlen : fin.left.length = (fin.l - 1000).toNat - (fin.f - 1000).toNat := by simp [MS.left]; omega
 have CD := decode_any B g 0 (8 * n) cap n w rfl hn1 hn2 (by have := h.le; rw [codeL_len] at this; exact this) h.mx (fun i hi => by
  rw [Nat.zero_add]
  refine h.xs i _ ?_
  simp only [byV, codeL, List.map_map, List.getElem?_map, List.getElem?_range hi]; rfl) hB
 have c0 := h.c
 rw [codeL_len] at c0
 have CO := fun (wx : World) (gl cp : Nat) (hb : Below w.heap.size w wx) (hI : ∀ i, i < n → wx.cell? ⟨gl, i * 5, none⟩ = some (.int .u8 (piOf B i).op) ∧ wx.cell? ⟨gl, i * 5 + 1, none⟩ = some (.int .u8 (piOf B i).d) ∧ wx.cell? ⟨gl, i * 5 + 2, none⟩ = some (.int .u8 (piOf B i).c) ∧ wx.cell? ⟨gl, i * 5 + 3, none⟩ = some (.int .i16 (piOf B i).of) ∧ wx.cell? ⟨gl, i * 5 + 4, none⟩ = some (.int .i32 (piOf B i).n)) =>
  out_any (piOf B) gl cp n a ln c xs wx fin _ _ hn1 hn2 hgo hI hx hln (by rcases hc with e | ⟨ad, e, h⟩; exact .inl e; exact .inr ⟨ad, e, fun j u hj => cell_later' hb rfl (h j u hj)⟩) hok hrun hv hfi hla (by omega) (by omega)
 rw [← hlen] at CO
 have HCD := hideX CD
 have HCO := hideX CO
 have q1 : (ln : Int) ≤ 64 := by omega
 clear CD CO h hgood hgo hrun hfi hla hlen f0 fl l1
 go_enter Tryz.func33, Tryz.ntmps33
 go_wp2_with fail
 refine HCD.out.mono ?_
 rintro e w1 ⟨v, rfl, hown, hb1⟩
 obtain ⟨gl, cp, rfl, hg1, hg2⟩ := hown.form (by omega)
 have hcell : ∀ i j, i < n → j < 5 → w1.cell? ⟨gl, i * 5 + j, none⟩ = (insAt B i)[j]? := fun i j h1 h2 => by
  rw [hown.cellAt (i * 5 + j) (by omega), Nat.mul_comm i 5]; exact insL_at B n i j h1 h2
 have hI := fun i (hi : i < n) => (⟨(hcell i 0 hi (by omega)).trans (by show some (Value.int .u8 (B (8 * i))) = some (Value.int .u8 ((B (8 * i)).toNat : Int)); rw [Int.toNat_of_nonneg (hB _).1]),
  (hcell i 1 hi (by omega)).trans (by show some (Value.int .u8 (B (8 * i + 1) % 16)) = some (Value.int .u8 ((B (8 * i + 1) % 16).toNat : Int)); rw [Int.toNat_of_nonneg (by have := (hB (8 * i + 1)).1; omega)]),
  (hcell i 2 hi (by omega)).trans (by show some (Value.int .u8 (B (8 * i + 1) / 16)) = some (Value.int .u8 ((B (8 * i + 1) / 16).toNat : Int)); rw [Int.toNat_of_nonneg (by have := (hB (8 * i + 1)).1; omega)]),
  hcell i 3 hi (by omega), hcell i 4 hi (by omega)⟩ : w1.cell? ⟨gl, i * 5, none⟩ = some (.int .u8 (piOf B i).op) ∧ w1.cell? ⟨gl, i * 5 + 1, none⟩ = some (.int .u8 (piOf B i).d) ∧ w1.cell? ⟨gl, i * 5 + 2, none⟩ = some (.int .u8 (piOf B i).c) ∧ w1.cell? ⟨gl, i * 5 + 3, none⟩ = some (.int .i16 (piOf B i).of) ∧ w1.cell? ⟨gl, i * 5 + 4, none⟩ = some (.int .i32 (piOf B i).n))
 have HI := hideX hI
 clear hI hcell hown HCD
 go_wp2_with fail
 refine (HCO.out w1 gl cp hb1 HI.out).mono ?_
 rintro e w2 ⟨v, rfl, hown, hb2⟩
 go_wp2
 refine bodyPost_ret (v := .tuple #[.int .i64 (fin.v 0), v, .int .i64 0]) (by simp [results, Tryz.results33, go_sem]) rfl ?_
 exact ⟨v, rfl, ownsRow_base hb1.size hown, hb1.trans (hb2.mono hb1.size)⟩
end Go.Proofs.YtoobileejdhikaaGreat
