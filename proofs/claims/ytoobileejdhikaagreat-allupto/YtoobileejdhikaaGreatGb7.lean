/-
  The program's meet: a way is put to those that came to an instruction.
  The program looks at any instruction of a right shape.
  What is known of numbers holds of them: each span that the program reckons holds whatever comes of numbers within the spans that it had.
  What is known stays within its bounds: the look at an instruction of a right shape gives states that are right.
  The look at any instruction of a right shape: what it gives is right, and where it goes on.
  The look at code ahead of time, as a plain function; the list of states as it is made; the table's entries.
-/
import Derived.Test.YtoobileejdhikaaGreatGa0
import Derived.Test.YtoobileejdhikaaGreatGb2
import Derived.Test.YtoobileejdhikaaGreatGb6
import Derived.Test.YtoobileejdhikaaGreatGa4
import Derived.Lib.LazyBuf
import Derived.Deep.Upon
import Derived.OwnWalk
namespace Go.Proofs.YtoobileejdhikaaGreat
set_option maxRecDepth 100000
set_option maxHeartbeats 1000000
open Go.RowKit

structure Tc (g : Nat) (w w' : World) : Prop where
 os : w'.os = w.os
 tape : w'.tape = w.tape
 output : w'.output = w.output
 size : w.heap.size ≤ w'.heap.size
 block : ∀ k, k < w.heap.size → k ≠ g → w'.heap[k]? = w.heap[k]?
theorem Tc.of_below {g : Nat} {w w' : World} (h : Below w.heap.size w w') : Tc g w w' := ⟨h.os, h.tape, h.output, h.size, fun k hk _ => h.block k hk⟩
theorem Tc.trans {g : Nat} {a b c : World} (h : Tc g a b) (k : Tc g b c) : Tc g a c :=
 ⟨k.os.trans h.os, k.tape.trans h.tape, k.output.trans h.output, Nat.le_trans h.size k.size, fun i hi hn => (k.block i (Nat.lt_of_lt_of_le hi h.size) hn).trans (h.block i hi hn)⟩
theorem Tc.below {g B : Nat} {w w' : World} (h : Tc g w w') (hg : B ≤ g) (hB : B ≤ w.heap.size) : Below B w w' := ⟨h.os, h.tape, h.output, h.size, fun k hk => h.block k (by omega) (by omega)⟩
theorem Tc.cell {g : Nat} {w w' : World} (h : Tc g w w') {k j : Nat} {v : Value} (hn : k ≠ g) (hv : w.cell? ⟨k, j, none⟩ = some v) : w'.cell? ⟨k, j, none⟩ = some v := by
 have e := h.block k (block_lt_of_cell hv) hn
 simp only [World.cell?] at hv ⊢
 rw [e]; exact hv
theorem Tc.setCells {g : Nat} {a w : World} (h : Tc g a w) (_ho : g < w.heap.size) (o : Nat) (vs : List Value) : Tc g a (w.setCells g o vs) := by
 have hb := below_setCells (B := 0) (b := g) (Nat.zero_le _) vs o w (Below.refl 0 w)
 exact ⟨hb.os.trans h.os, hb.tape.trans h.tape, hb.output.trans h.output, Nat.le_trans h.size hb.size, fun k hk hn => (World.heap_setCells_other w g o vs (Nat.lt_of_lt_of_le hk h.size) hn).trans (h.block k hk hn)⟩

structure StAt (w : World) (g n : Nat) (st : Nat → KS) : Prop where
 rg : ∀ i, i < n → w.rangeAt g (i * 57) (st i).list
 th : ∀ i, i < n → w.there g (i * 57) 57
 lt : g < w.heap.size
theorem StAt.same {w w' : World} {g n : Nat} {st : Nat → KS} (h : StAt w g n st) (hb : w'.heap[g]? = w.heap[g]?) (hs : w.heap.size ≤ w'.heap.size) : StAt w' g n st := by
 have e : ∀ j, w'.cell? ⟨g, j, none⟩ = w.cell? ⟨g, j, none⟩ := fun j => by simp only [World.cell?]; rw [hb]
 exact ⟨fun i hi j v hv => (e _).trans (h.rg i hi j v hv), fun i hi j hj => ⟨by rw [e]; exact (h.th i hi j hj).1, by rw [World.frozen?_of_block hb]; exact (h.th i hi j hj).2⟩, Nat.lt_of_lt_of_le h.lt hs⟩
theorem StAt.keep {W w1 : World} {g n : Nat} {st : Nat → KS} (h : StAt W g n st) (hb : Below W.heap.size W w1) : StAt w1 g n st := h.same (hb.block g h.lt) hb.size
theorem StAt.alloc {w : World} {g n : Nat} {st : Nat → KS} (h : StAt w g n st) (o : Obj) : StAt (w.alloc o) g n st := h.keep ((Below.refl _ _).alloc (Nat.le_refl _) o)
theorem StAt.drew {w : World} {g n : Nat} {st : Nat → KS} (h : StAt w g n st) : StAt w.drew g n st := h.keep (Below.refl _ _).drew
theorem cells_toList (s : KS) : s.cells.toList = s.list := by rw [KS.cells_eq]; rfl
theorem list_cells (s : KS) : s.list.toArray = s.cells := by rw [KS.cells_eq]; rfl
theorem StAt.put {w : World} {g n : Nat} {st : Nat → KS} (h : StAt w g n st) (i : Nat) (hi : i < n) (s : KS) : StAt (w.setCells g (i * 57) s.cells.toList) g n (fun j => if j = i then s else st j) := by
 rw [cells_toList]
 refine ⟨fun k hk => ?_, fun k hk => World.there_setCells (h.th k hk) g _ _, ?_⟩
 ·by_cases e : k = i
  ·subst e; simp only [if_true]; exact World.rangeAt_setCells_same w g _ _ (h.th k hk)
  ·simp only [e, if_false]
   refine World.rangeAt_setCells_apart (h.rg k hk) g _ _ (.inr ?_)
   rw [KS.length, KS.length]
   have : k < i ∨ i < k := by omega
   rcases this with h1 | h1
   ·left; omega
   ·right; omega
 ·have := (below_setCells (B := 0) (b := g) (Nat.zero_le _) s.list (i * 57) w (Below.refl 0 w)).size
  exact Nat.lt_of_lt_of_le h.lt this
theorem infoKl (s : KS) : (Tryz.prog.info? 117).map (·.size) = some s.list.length := by rw [KS.length]; exact infoK
theorem or_any (s y : KS) (w : World) (f0 : 0 ≤ s.frame) (f1 : s.frame ≤ 64) (f2 : 0 ≤ y.frame) (f3 : y.frame ≤ 64) :
  Calls Tryz.prog 142 #[.agg s.cells, .agg y.cells] w fun e w' => e = .returned (.agg (s.or y).cells) ∧ Below w.heap.size w w' := by
 cases h : s.reached
 ·rw [show s.or y = y from by unfold KS.or; rw [h]; rfl]; exact or_new s y w h
 ·exact or_both s y w h f0 f1 f2 f3
def meetK (st : Nat → KS) (i : Nat) (s : KS) : Nat → KS := if s.reached then (fun j => if j = i then (st i).or s else st j) else st

theorem meet_any (g n : Nat) (st : Nat → KS) (i : Nat) (s : KS) (w : World) (hst : StAt w g n st) (_hn : n ≤ 64) (hi : s.reached = true → i < n) (f0 : 0 ≤ (st i).frame) (f1 : (st i).frame ≤ 64) (f2 : 0 ≤ s.frame) (f3 : s.frame ≤ 64) :
  Calls Tryz.prog 62 #[.slice (some ⟨g, 0, none⟩) n n, .int .i64 i, .agg s.cells] w fun e w' => e = .returned (.tuple #[]) ∧ StAt w' g n (meetK st i s) ∧ Tc g w w' := by
 cases hr : s.reached
 ·have hr0 : s.cells[0]? = some (.bool false) := by rw [← hr]; exact at_reached s
  have E : meetK st i s = st := by unfold meetK; rw [hr]; rfl
  clear hi
  go_enter Tryz.func62, Tryz.ntmps62
  go_wp2
  go_end0
  exact ⟨rfl, by rw [E]; exact hst.alloc _, Tc.of_below ((Below.refl _ _).alloc (Nat.le_refl _) _)⟩
 ·have hr0 : s.cells[0]? = some (.bool true) := by rw [← hr]; exact at_reached s
  have E : meetK st i s = (fun j => if j = i then (st i).or s else st j) := by unfold meetK; rw [hr]; rfl
  have hi := hi hr
  clear hr
  have i1 : (0 : Int) ≤ (i : Int) := by omega
  have i2 : (i : Int) < (n : Int) := by omega
  go_enter Tryz.func62, Tryz.ntmps62
  go_wp2_with fail
  generalize hW : w.alloc (Obj.cells s.cells 117) = W0
  have kS : KAt W0 w.heap.size s := by subst hW; exact KAt.new w s
  have kG : StAt W0 g n st := by subst hW; exact hst.alloc _
  have hT : Tc g w W0 := by subst hW; exact Tc.of_below ((Below.refl _ _).alloc (Nat.le_refl _) _)
  have nG : w.heap.size ≠ g := Nat.ne_of_gt hst.lt
  clear hW
  refine wp_region_noPanic ?_
  refine wp_region_held_drew (S := fun w' => KAt w' w.heap.size s) (by kernel_rfl) kS.drew (fun hHeld => ?_)
  have kG := kG.drew
  have hT : Tc g w W0.drew := hT.trans (Tc.of_below (Below.refl _ _).drew)
  refine tkH 0 ?_
  try simp only [Act.put]
  refine tkH 1 ?_
  try simp only [Act.put]
  refine tkH 2 ?_
  try simp only [Act.put]
  refine tkH 3 ?_
  try simp only [Act.put]
  refine tkY 6 rfl (yieldsK (by rfl) _ rfl (w.heap.size) rfl s (fun w h => h)) ?_
  try simp only [Act.put]
  refine rdH 4 (fun K hK => ?_)
  go_simp
  refine hK.out _ _ ?_ (fun hHeld => ?_)
  ·exact hHeld
  clear hK K
  try simp only [Act.put]
  refine rdH 5 (fun K hK => ?_)
  refine wp_load_mid 117 _ rfl g (i * 57) rfl (st i).list _ (kG.rg i hi) Tryz.underlying117 rfl (infoKl _) ?_
  rw [list_cells]
  show K (Act.put _ (some 13) (.agg (st i).cells)) _
  refine hK.out _ _ ?_ (fun hHeld => ?_)
  ·exact hHeld
  clear hK K
  try simp only [Act.put]
  refine rdH 7 (fun K hK => ?_)
  go_simp
  refine (or_any (st i) s _ f0 f1 f2 f3).mono ?_
  rintro e W1 ⟨rfl, hbX⟩
  have kG := kG.keep hbX
  have hT := hT.trans (Tc.of_below hbX)
  have kS1 := hHeld.keep hbX
  go_wp2_with fail
  refine hK.out _ _ ?_ (fun hHeld => ?_)
  ·exact kS1
  clear hK K
  try simp only [Act.put]
  refine rdH 8 (fun K hK => ?_)
  go_simp
  refine hK.out _ _ ?_ (fun hHeld => ?_)
  ·exact hHeld
  clear hK K
  try simp only [Act.put]
  refine rdH 9 (fun K hK => ?_)
  refine wp_store_mid 117 _ _ rfl g (i * 57) ((st i).or s).cells rfl rfl (by rw [KS.size]; exact kG.th i hi) (infoKs _) (KS.one _) ?_
  have kE := kG.put i hi ((st i).or s)
  have tE := hT.setCells kG.lt (i * 57) ((st i).or s).cells.toList
  have kX : KAt (W1.setCells g (i * 57) ((st i).or s).cells.toList) w.heap.size s := ⟨(World.heap_setCells_other W1 g _ _ hHeld.lt nG).trans hHeld.row⟩
  refine hK.out _ _ ?_ (fun hHeld => ?_)
  ·exact kX
  clear hK K
  try simp only [Act.put]
  refine wpAnyH_done (by kernel_rfl) ?_ _
  refine NoPanic.normal ?_
  go_wp2_with fail
  go_end0
  exact ⟨rfl, by rw [E]; exact kE, tE⟩
end Go.Proofs.YtoobileejdhikaaGreat

namespace Go.Proofs.YtoobileejdhikaaGreat
set_option maxRecDepth 100000
set_option maxHeartbeats 400000
open Go.RowKit

structure PI where
 op : Nat
 d : Nat
 c : Nat
 of : Int
 n : Int
def PI.val (x : PI) : Value := .agg #[.int .u8 x.op, .int .u8 x.d, .int .u8 x.c, .int .i16 x.of, .int .i32 x.n]
theorem or_bd (x y : Int) : 0 ≤ bits .or .u64 x y ∧ bits .or .u64 x y < 18446744073709551616 := by
 have e : bits .or .u64 x y = IntKind.u64.wrap ((BitVec.ofInt 64 x ||| BitVec.ofInt 64 y).toNat : Int) := rfl
 rw [e, wrapU]
 omega
def nMul (a b : KV) : Int × Int := (ordL (mulHi a.nm b.nm == 0) (IntKind.u64.wrap (a.nl * b.nl)), ordM (mulHi a.nm b.nm == 0) (IntKind.u64.wrap (a.nm * b.nm)))
def nDiv (a b : KV) : Int × Int := (if b.nl = 0 then 0 else a.nl / b.nm, if b.nl = 0 then a.nm else a.nm / b.nl)
def nMod (a b : KV) : Int × Int := (0, if b.nl = 0 then a.nm else min a.nm (b.nm - 1))
def nAnd (a b : KV) : Int × Int := (0, min a.nm b.nm)
def nOr (a b : KV) : Int × Int := (maxI a.nl b.nl, allB (bits .or .u64 a.nm b.nm))
def nXor (a b : KV) : Int × Int := (0, allB (bits .or .u64 a.nm b.nm))
def shlOk (a b : KV) : Bool := (b.nl == b.nm) && (IntKind.u64.wrap (a.nm * 2 ^ (b.nl % 64).toNat) / 2 ^ (b.nl % 64).toNat == a.nm)
def nShl (a b : KV) : Int × Int := (ordL (shlOk a b) (IntKind.u64.wrap (a.nl * 2 ^ (b.nl % 64).toNat)), ordM (shlOk a b) (IntKind.u64.wrap (a.nm * 2 ^ (b.nl % 64).toNat)))
def nShr (a b : KV) : Int × Int := (if b.nl = b.nm then a.nl / 2 ^ (b.nl % 64).toNat else 0, if b.nl = b.nm then a.nm / 2 ^ (b.nl % 64).toNat else a.nm)
def PI.r (x : PI) : Nat := secR x.op x.c
def numO (f : KV → KV → Int × Int) (x : PI) (s : KS) : Option (KS × KS) := numL s x.d x.r (f (s.v x.d) (s.v x.r)).1 (f (s.v x.d) (s.v x.r)).2
def cmpO (P J : KS → Nat → Nat → KS) (x : PI) (s : KS) : Option (KS × KS) := cmpL s x.d x.r (P s x.d x.r) (J s x.d x.r)
def lookK (x : PI) (s : KS) : Option (KS × KS) := match x.op with
 | 1 => movL s x.d x.r
 | 2 => addL s x.d x.r
 | 3 => subL s x.d x.r
 | 4 => numO nMul x s
 | 5 => numO nDiv x s
 | 6 => numO nMod x s
 | 7 => numO nAnd x s
 | 8 => numO nOr x s
 | 9 => numO nXor x s
 | 10 => numO nShl x s
 | 11 => numO nShr x s
 | 20 => loadL s x.d x.c x.of 1
 | 21 => loadL s x.d x.c x.of 2
 | 22 => loadL s x.d x.c x.of 4
 | 23 => loadL s x.d x.c x.of 8
 | 24 => storeL s x.d x.c x.of 1
 | 25 => storeL s x.d x.c x.of 2
 | 26 => storeL s x.d x.c x.of 4
 | 27 => storeL s x.d x.c x.of 8
 | 30 => some (KS.zero, s)
 | 31 => cmpO notEqualK equalK x s
 | 32 => cmpO equalK notEqualK x s
 | 33 => cmpO notGreaterK greaterK x s
 | 34 => cmpO lessK notLessK x s
 | 35 => cmpO notLessK lessK x s
 | 36 => cmpO greaterK notGreaterK x s
 | 40 => callL s x.n
 | 41 => exitL s
 | 129 => movL s x.d x.r
 | 130 => addL s x.d x.r
 | 131 => subL s x.d x.r
 | 132 => numO nMul x s
 | 133 => numO nDiv x s
 | 134 => numO nMod x s
 | 135 => numO nAnd x s
 | 136 => numO nOr x s
 | 137 => numO nXor x s
 | 138 => numO nShl x s
 | 139 => numO nShr x s
 | 159 => cmpO notEqualK equalK x s
 | 160 => cmpO equalK notEqualK x s
 | 161 => cmpO notGreaterK greaterK x s
 | 162 => cmpO lessK notLessK x s
 | 163 => cmpO notLessK lessK x s
 | 164 => cmpO greaterK notGreaterK x s
 | _ => none
def Looks (p : Nat → Nat) (x : PI) (s : KS) (W : World) : Prop :=
 ∃ (F : Nat) (caps : Array Value), lookAt p x.op = .func (.func F) #[] caps ∧ (∀ a b w, Sem.run Tryz.prog (callFunc F (#[a, b] ++ caps)) w = .ok (.enter F (#[a, b] ++ caps)) w) ∧
  Calls Tryz.prog F (#[x.val, .agg s.cells] ++ caps) W fun e w' => e = lkEnd (lookK x s) s.at1 ∧ Below W.heap.size W w'
theorem enter_kMul (x y : Value) (w : World) : Sem.run Tryz.prog (callFunc 89 #[x, y]) w = .ok (.enter 89 #[x, y]) w := by kernel_rfl
theorem enter_kDiv (x y : Value) (w : World) : Sem.run Tryz.prog (callFunc 91 #[x, y]) w = .ok (.enter 91 #[x, y]) w := by kernel_rfl
theorem enter_kMod (x y : Value) (w : World) : Sem.run Tryz.prog (callFunc 93 #[x, y]) w = .ok (.enter 93 #[x, y]) w := by kernel_rfl
theorem enter_kAnd (x y : Value) (w : World) : Sem.run Tryz.prog (callFunc 95 #[x, y]) w = .ok (.enter 95 #[x, y]) w := by kernel_rfl
theorem enter_kOr (x y : Value) (w : World) : Sem.run Tryz.prog (callFunc 97 #[x, y]) w = .ok (.enter 97 #[x, y]) w := by kernel_rfl
theorem enter_kXor (x y : Value) (w : World) : Sem.run Tryz.prog (callFunc 99 #[x, y]) w = .ok (.enter 99 #[x, y]) w := by kernel_rfl
theorem enter_kShl (x y : Value) (w : World) : Sem.run Tryz.prog (callFunc 101 #[x, y]) w = .ok (.enter 101 #[x, y]) w := by kernel_rfl
theorem enter_kShr (x y : Value) (w : World) : Sem.run Tryz.prog (callFunc 103 #[x, y]) w = .ok (.enter 103 #[x, y]) w := by kernel_rfl
theorem enter_Equal (x y z : Value) (w : World) : Sem.run Tryz.prog (callFunc 117 #[x, y, z]) w = .ok (.enter 117 #[x, y, z]) w := by kernel_rfl
theorem enter_NotEqual (x y z : Value) (w : World) : Sem.run Tryz.prog (callFunc 118 #[x, y, z]) w = .ok (.enter 118 #[x, y, z]) w := by kernel_rfl
theorem enter_Greater (x y z : Value) (w : World) : Sem.run Tryz.prog (callFunc 122 #[x, y, z]) w = .ok (.enter 122 #[x, y, z]) w := by kernel_rfl
theorem enter_NotGreater (x y z : Value) (w : World) : Sem.run Tryz.prog (callFunc 123 #[x, y, z]) w = .ok (.enter 123 #[x, y, z]) w := by kernel_rfl
theorem enter_Less (x y z : Value) (w : World) : Sem.run Tryz.prog (callFunc 126 #[x, y, z]) w = .ok (.enter 126 #[x, y, z]) w := by kernel_rfl
theorem enter_NotLess (x y z : Value) (w : World) : Sem.run Tryz.prog (callFunc 125 #[x, y, z]) w = .ok (.enter 125 #[x, y, z]) w := by kernel_rfl
theorem enter_lookMov (a b : Value) (w : World) : Sem.run Tryz.prog (callFunc 81 (#[a, b] ++ #[])) w = .ok (.enter 81 (#[a, b] ++ #[])) w := by kernel_rfl
theorem enter_lookAdd (a b : Value) (w : World) : Sem.run Tryz.prog (callFunc 83 (#[a, b] ++ #[])) w = .ok (.enter 83 (#[a, b] ++ #[])) w := by kernel_rfl
theorem enter_lookSub (a b : Value) (w : World) : Sem.run Tryz.prog (callFunc 86 (#[a, b] ++ #[])) w = .ok (.enter 86 (#[a, b] ++ #[])) w := by kernel_rfl
theorem enter_lookJump (a b : Value) (w : World) : Sem.run Tryz.prog (callFunc 113 (#[a, b] ++ #[])) w = .ok (.enter 113 (#[a, b] ++ #[])) w := by kernel_rfl
theorem enter_lookCall (a b : Value) (w : World) : Sem.run Tryz.prog (callFunc 132 (#[a, b] ++ #[])) w = .ok (.enter 132 (#[a, b] ++ #[])) w := by kernel_rfl
theorem enter_lookExit (a b : Value) (w : World) : Sem.run Tryz.prog (callFunc 135 (#[a, b] ++ #[])) w = .ok (.enter 135 (#[a, b] ++ #[])) w := by kernel_rfl
theorem enter_lookNumbers1 (a b : Value) (c0 : Value) (w : World) : Sem.run Tryz.prog (callFunc 156 (#[a, b] ++ #[c0])) w = .ok (.enter 156 (#[a, b] ++ #[c0])) w := by kernel_rfl
theorem enter_lookLoad1 (a b : Value) (c0 : Value) (w : World) : Sem.run Tryz.prog (callFunc 161 (#[a, b] ++ #[c0])) w = .ok (.enter 161 (#[a, b] ++ #[c0])) w := by kernel_rfl
theorem enter_lookStore1 (a b : Value) (c0 : Value) (w : World) : Sem.run Tryz.prog (callFunc 166 (#[a, b] ++ #[c0])) w = .ok (.enter 166 (#[a, b] ++ #[c0])) w := by kernel_rfl
theorem enter_lookCompare1 (a b : Value) (c0 : Value) (c1 : Value) (w : World) : Sem.run Tryz.prog (callFunc 170 (#[a, b] ++ #[c0, c1])) w = .ok (.enter 170 (#[a, b] ++ #[c0, c1])) w := by kernel_rfl

theorem looks_1 (p : Nat → Nat) (d c : Nat) (of n : Int) (s : KS) (W : World) (_hbx : ∀ k, k < 88 → W.cell? ⟨p k, 0, none⟩ = some (boxV k)) (_hs : s.Ok) (_hd : d < 9) (_hc : c < 9) (_o1 : -32768 ≤ of) (_o2 : of ≤ 32767) : Looks p ⟨1, d, c, of, n⟩ s W := by
 have hr : secR 1 c < 9 := by unfold secR; split <;> omega
 exact ⟨81, #[], rfl, fun a b w => enter_lookMov a b w, lookMov_any s 1 of n d c W _hd hr⟩

theorem looks_2 (p : Nat → Nat) (d c : Nat) (of n : Int) (s : KS) (W : World) (_hbx : ∀ k, k < 88 → W.cell? ⟨p k, 0, none⟩ = some (boxV k)) (_hs : s.Ok) (_hd : d < 9) (_hc : c < 9) (_o1 : -32768 ≤ of) (_o2 : of ≤ 32767) : Looks p ⟨2, d, c, of, n⟩ s W := by
 have hr : secR 2 c < 9 := by unfold secR; split <;> omega
 exact ⟨83, #[], rfl, fun a b w => enter_lookAdd a b w, lookAdd_any s 2 of n d c W _hd hr _hs⟩

theorem looks_3 (p : Nat → Nat) (d c : Nat) (of n : Int) (s : KS) (W : World) (_hbx : ∀ k, k < 88 → W.cell? ⟨p k, 0, none⟩ = some (boxV k)) (_hs : s.Ok) (_hd : d < 9) (_hc : c < 9) (_o1 : -32768 ≤ of) (_o2 : of ≤ 32767) : Looks p ⟨3, d, c, of, n⟩ s W := by
 have hr : secR 3 c < 9 := by unfold secR; split <;> omega
 exact ⟨86, #[], rfl, fun a b w => enter_lookSub a b w, lookSub_any s 3 of n d c W _hd hr _hs⟩

theorem looks_4 (p : Nat → Nat) (d c : Nat) (of n : Int) (s : KS) (W : World) (_hbx : ∀ k, k < 88 → W.cell? ⟨p k, 0, none⟩ = some (boxV k)) (_hs : s.Ok) (_hd : d < 9) (_hc : c < 9) (_o1 : -32768 ≤ of) (_o2 : of ≤ 32767) : Looks p ⟨4, d, c, of, n⟩ s W := by
 have hr : secR 4 c < 9 := by unfold secR; split <;> omega
 exact ⟨156, #[ptr (p 2)], rfl, fun a b w => enter_lookNumbers1 a b _ w, lookNumbers1_any s 4 of n d c (p 2) W 89 _ _ enter_kMul (_hbx 2 (by decide)) _hd hr (by have o1 := _hs.v d _hd; have o2 := _hs.v _ hr; exact fun _ _ w => kMul_any _ _ _ _ w o1.nl0 o1.nm0 o2.nl0 o2.nm0 o1.nl1 o1.nm1 o2.nl1 o2.nm1)⟩

theorem looks_5 (p : Nat → Nat) (d c : Nat) (of n : Int) (s : KS) (W : World) (_hbx : ∀ k, k < 88 → W.cell? ⟨p k, 0, none⟩ = some (boxV k)) (_hs : s.Ok) (_hd : d < 9) (_hc : c < 9) (_o1 : -32768 ≤ of) (_o2 : of ≤ 32767) : Looks p ⟨5, d, c, of, n⟩ s W := by
 have hr : secR 5 c < 9 := by unfold secR; split <;> omega
 exact ⟨156, #[ptr (p 4)], rfl, fun a b w => enter_lookNumbers1 a b _ w, lookNumbers1_any s 5 of n d c (p 4) W 91 _ _ enter_kDiv (_hbx 4 (by decide)) _hd hr (by have o1 := _hs.v d _hd; have o2 := _hs.v _ hr; exact fun _ _ w => kDiv_any _ _ _ _ w o1.nl0 o1.nm0 o2.nl0 o2.nm0 o1.nl1 o1.nm1 o2.nl1 o2.nm1 o2.nn)⟩

theorem looks_6 (p : Nat → Nat) (d c : Nat) (of n : Int) (s : KS) (W : World) (_hbx : ∀ k, k < 88 → W.cell? ⟨p k, 0, none⟩ = some (boxV k)) (_hs : s.Ok) (_hd : d < 9) (_hc : c < 9) (_o1 : -32768 ≤ of) (_o2 : of ≤ 32767) : Looks p ⟨6, d, c, of, n⟩ s W := by
 have hr : secR 6 c < 9 := by unfold secR; split <;> omega
 exact ⟨156, #[ptr (p 6)], rfl, fun a b w => enter_lookNumbers1 a b _ w, lookNumbers1_any s 6 of n d c (p 6) W 93 _ _ enter_kMod (_hbx 6 (by decide)) _hd hr (by have o1 := _hs.v d _hd; have o2 := _hs.v _ hr; exact fun _ _ w => kMod_any _ _ _ _ w o1.nl0 o1.nm0 o2.nl0 o2.nm0 o1.nl1 o1.nm1 o2.nl1 o2.nm1 o2.nn)⟩

theorem looks_7 (p : Nat → Nat) (d c : Nat) (of n : Int) (s : KS) (W : World) (_hbx : ∀ k, k < 88 → W.cell? ⟨p k, 0, none⟩ = some (boxV k)) (_hs : s.Ok) (_hd : d < 9) (_hc : c < 9) (_o1 : -32768 ≤ of) (_o2 : of ≤ 32767) : Looks p ⟨7, d, c, of, n⟩ s W := by
 have hr : secR 7 c < 9 := by unfold secR; split <;> omega
 exact ⟨156, #[ptr (p 8)], rfl, fun a b w => enter_lookNumbers1 a b _ w, lookNumbers1_any s 7 of n d c (p 8) W 95 _ _ enter_kAnd (_hbx 8 (by decide)) _hd hr (by have o1 := _hs.v d _hd; have o2 := _hs.v _ hr; exact fun _ _ w => kAnd_any _ _ _ _ w o1.nl0 o1.nm0 o2.nl0 o2.nm0 o1.nl1 o1.nm1 o2.nl1 o2.nm1)⟩

theorem looks_8 (p : Nat → Nat) (d c : Nat) (of n : Int) (s : KS) (W : World) (_hbx : ∀ k, k < 88 → W.cell? ⟨p k, 0, none⟩ = some (boxV k)) (_hs : s.Ok) (_hd : d < 9) (_hc : c < 9) (_o1 : -32768 ≤ of) (_o2 : of ≤ 32767) : Looks p ⟨8, d, c, of, n⟩ s W := by
 have hr : secR 8 c < 9 := by unfold secR; split <;> omega
 exact ⟨156, #[ptr (p 10)], rfl, fun a b w => enter_lookNumbers1 a b _ w, lookNumbers1_any s 8 of n d c (p 10) W 97 _ _ enter_kOr (_hbx 10 (by decide)) _hd hr (by have o1 := _hs.v d _hd; have o2 := _hs.v _ hr; exact fun _ _ w => kOr_any _ _ _ _ w o1.nl0 o1.nm0 o2.nl0 o2.nm0 o1.nl1 o1.nm1 o2.nl1 o2.nm1 (or_bd _ _).1 (or_bd _ _).2)⟩

theorem looks_9 (p : Nat → Nat) (d c : Nat) (of n : Int) (s : KS) (W : World) (_hbx : ∀ k, k < 88 → W.cell? ⟨p k, 0, none⟩ = some (boxV k)) (_hs : s.Ok) (_hd : d < 9) (_hc : c < 9) (_o1 : -32768 ≤ of) (_o2 : of ≤ 32767) : Looks p ⟨9, d, c, of, n⟩ s W := by
 have hr : secR 9 c < 9 := by unfold secR; split <;> omega
 exact ⟨156, #[ptr (p 12)], rfl, fun a b w => enter_lookNumbers1 a b _ w, lookNumbers1_any s 9 of n d c (p 12) W 99 _ _ enter_kXor (_hbx 12 (by decide)) _hd hr (by have o1 := _hs.v d _hd; have o2 := _hs.v _ hr; exact fun _ _ w => kXor_any _ _ _ _ w o1.nl0 o1.nm0 o2.nl0 o2.nm0 o1.nl1 o1.nm1 o2.nl1 o2.nm1 (or_bd _ _).1 (or_bd _ _).2)⟩

theorem looks_10 (p : Nat → Nat) (d c : Nat) (of n : Int) (s : KS) (W : World) (_hbx : ∀ k, k < 88 → W.cell? ⟨p k, 0, none⟩ = some (boxV k)) (_hs : s.Ok) (_hd : d < 9) (_hc : c < 9) (_o1 : -32768 ≤ of) (_o2 : of ≤ 32767) : Looks p ⟨10, d, c, of, n⟩ s W := by
 have hr : secR 10 c < 9 := by unfold secR; split <;> omega
 exact ⟨156, #[ptr (p 14)], rfl, fun a b w => enter_lookNumbers1 a b _ w, lookNumbers1_any s 10 of n d c (p 14) W 101 _ _ enter_kShl (_hbx 14 (by decide)) _hd hr (by have o1 := _hs.v d _hd; have o2 := _hs.v _ hr; exact fun _ _ w => kShl_any _ _ _ _ w o1.nl0 o1.nm0 o2.nl0 o2.nm0 o1.nl1 o1.nm1 o2.nl1 o2.nm1)⟩

theorem looks_11 (p : Nat → Nat) (d c : Nat) (of n : Int) (s : KS) (W : World) (_hbx : ∀ k, k < 88 → W.cell? ⟨p k, 0, none⟩ = some (boxV k)) (_hs : s.Ok) (_hd : d < 9) (_hc : c < 9) (_o1 : -32768 ≤ of) (_o2 : of ≤ 32767) : Looks p ⟨11, d, c, of, n⟩ s W := by
 have hr : secR 11 c < 9 := by unfold secR; split <;> omega
 exact ⟨156, #[ptr (p 16)], rfl, fun a b w => enter_lookNumbers1 a b _ w, lookNumbers1_any s 11 of n d c (p 16) W 103 _ _ enter_kShr (_hbx 16 (by decide)) _hd hr (by have o1 := _hs.v d _hd; have o2 := _hs.v _ hr; exact fun _ _ w => kShr_any _ _ _ _ w o1.nl0 o1.nm0 o2.nl0 o2.nm0 o1.nl1 o1.nm1 o2.nl1 o2.nm1)⟩

theorem looks_20 (p : Nat → Nat) (d c : Nat) (of n : Int) (s : KS) (W : World) (_hbx : ∀ k, k < 88 → W.cell? ⟨p k, 0, none⟩ = some (boxV k)) (_hs : s.Ok) (_hd : d < 9) (_hc : c < 9) (_o1 : -32768 ≤ of) (_o2 : of ≤ 32767) : Looks p ⟨20, d, c, of, n⟩ s W := by
 have hr : secR 20 c < 9 := by unfold secR; split <;> omega
 exact ⟨161, #[ptr (p 36)], rfl, fun a b w => enter_lookLoad1 a b _ w, lookLoad1_any s 20 of n d c (p 36) W 1 (by decide) (_hbx 36 (by decide)) _hd _hc _hs _o1 _o2⟩

theorem looks_21 (p : Nat → Nat) (d c : Nat) (of n : Int) (s : KS) (W : World) (_hbx : ∀ k, k < 88 → W.cell? ⟨p k, 0, none⟩ = some (boxV k)) (_hs : s.Ok) (_hd : d < 9) (_hc : c < 9) (_o1 : -32768 ≤ of) (_o2 : of ≤ 32767) : Looks p ⟨21, d, c, of, n⟩ s W := by
 have hr : secR 21 c < 9 := by unfold secR; split <;> omega
 exact ⟨161, #[ptr (p 38)], rfl, fun a b w => enter_lookLoad1 a b _ w, lookLoad1_any s 21 of n d c (p 38) W 2 (by decide) (_hbx 38 (by decide)) _hd _hc _hs _o1 _o2⟩

theorem looks_22 (p : Nat → Nat) (d c : Nat) (of n : Int) (s : KS) (W : World) (_hbx : ∀ k, k < 88 → W.cell? ⟨p k, 0, none⟩ = some (boxV k)) (_hs : s.Ok) (_hd : d < 9) (_hc : c < 9) (_o1 : -32768 ≤ of) (_o2 : of ≤ 32767) : Looks p ⟨22, d, c, of, n⟩ s W := by
 have hr : secR 22 c < 9 := by unfold secR; split <;> omega
 exact ⟨161, #[ptr (p 40)], rfl, fun a b w => enter_lookLoad1 a b _ w, lookLoad1_any s 22 of n d c (p 40) W 4 (by decide) (_hbx 40 (by decide)) _hd _hc _hs _o1 _o2⟩

theorem looks_23 (p : Nat → Nat) (d c : Nat) (of n : Int) (s : KS) (W : World) (_hbx : ∀ k, k < 88 → W.cell? ⟨p k, 0, none⟩ = some (boxV k)) (_hs : s.Ok) (_hd : d < 9) (_hc : c < 9) (_o1 : -32768 ≤ of) (_o2 : of ≤ 32767) : Looks p ⟨23, d, c, of, n⟩ s W := by
 have hr : secR 23 c < 9 := by unfold secR; split <;> omega
 exact ⟨161, #[ptr (p 42)], rfl, fun a b w => enter_lookLoad1 a b _ w, lookLoad1_any s 23 of n d c (p 42) W 8 (by decide) (_hbx 42 (by decide)) _hd _hc _hs _o1 _o2⟩

theorem looks_24 (p : Nat → Nat) (d c : Nat) (of n : Int) (s : KS) (W : World) (_hbx : ∀ k, k < 88 → W.cell? ⟨p k, 0, none⟩ = some (boxV k)) (_hs : s.Ok) (_hd : d < 9) (_hc : c < 9) (_o1 : -32768 ≤ of) (_o2 : of ≤ 32767) : Looks p ⟨24, d, c, of, n⟩ s W := by
 have hr : secR 24 c < 9 := by unfold secR; split <;> omega
 exact ⟨166, #[ptr (p 44)], rfl, fun a b w => enter_lookStore1 a b _ w, lookStore1_any s 24 of n d c (p 44) W 1 (by decide) (_hbx 44 (by decide)) _hd _hc _hs _o1 _o2⟩

theorem looks_25 (p : Nat → Nat) (d c : Nat) (of n : Int) (s : KS) (W : World) (_hbx : ∀ k, k < 88 → W.cell? ⟨p k, 0, none⟩ = some (boxV k)) (_hs : s.Ok) (_hd : d < 9) (_hc : c < 9) (_o1 : -32768 ≤ of) (_o2 : of ≤ 32767) : Looks p ⟨25, d, c, of, n⟩ s W := by
 have hr : secR 25 c < 9 := by unfold secR; split <;> omega
 exact ⟨166, #[ptr (p 46)], rfl, fun a b w => enter_lookStore1 a b _ w, lookStore1_any s 25 of n d c (p 46) W 2 (by decide) (_hbx 46 (by decide)) _hd _hc _hs _o1 _o2⟩

theorem looks_26 (p : Nat → Nat) (d c : Nat) (of n : Int) (s : KS) (W : World) (_hbx : ∀ k, k < 88 → W.cell? ⟨p k, 0, none⟩ = some (boxV k)) (_hs : s.Ok) (_hd : d < 9) (_hc : c < 9) (_o1 : -32768 ≤ of) (_o2 : of ≤ 32767) : Looks p ⟨26, d, c, of, n⟩ s W := by
 have hr : secR 26 c < 9 := by unfold secR; split <;> omega
 exact ⟨166, #[ptr (p 48)], rfl, fun a b w => enter_lookStore1 a b _ w, lookStore1_any s 26 of n d c (p 48) W 4 (by decide) (_hbx 48 (by decide)) _hd _hc _hs _o1 _o2⟩

theorem looks_27 (p : Nat → Nat) (d c : Nat) (of n : Int) (s : KS) (W : World) (_hbx : ∀ k, k < 88 → W.cell? ⟨p k, 0, none⟩ = some (boxV k)) (_hs : s.Ok) (_hd : d < 9) (_hc : c < 9) (_o1 : -32768 ≤ of) (_o2 : of ≤ 32767) : Looks p ⟨27, d, c, of, n⟩ s W := by
 have hr : secR 27 c < 9 := by unfold secR; split <;> omega
 exact ⟨166, #[ptr (p 50)], rfl, fun a b w => enter_lookStore1 a b _ w, lookStore1_any s 27 of n d c (p 50) W 8 (by decide) (_hbx 50 (by decide)) _hd _hc _hs _o1 _o2⟩

theorem looks_30 (p : Nat → Nat) (d c : Nat) (of n : Int) (s : KS) (W : World) (_hbx : ∀ k, k < 88 → W.cell? ⟨p k, 0, none⟩ = some (boxV k)) (_hs : s.Ok) (_hd : d < 9) (_hc : c < 9) (_o1 : -32768 ≤ of) (_o2 : of ≤ 32767) : Looks p ⟨30, d, c, of, n⟩ s W := by
 have hr : secR 30 c < 9 := by unfold secR; split <;> omega
 exact ⟨113, #[], rfl, fun a b w => enter_lookJump a b w, lookJump_any s 30 of n d c W⟩

theorem looks_31 (p : Nat → Nat) (d c : Nat) (of n : Int) (s : KS) (W : World) (_hbx : ∀ k, k < 88 → W.cell? ⟨p k, 0, none⟩ = some (boxV k)) (_hs : s.Ok) (_hd : d < 9) (_hc : c < 9) (_o1 : -32768 ≤ of) (_o2 : of ≤ 32767) : Looks p ⟨31, d, c, of, n⟩ s W := by
 have hr : secR 31 c < 9 := by unfold secR; split <;> omega
 exact ⟨170, #[ptr (p 52), ptr (p 53)], rfl, fun a b w => enter_lookCompare1 a b _ _ w, lookCompare1_any s 31 of n d c (p 52) (p 53) W 118 117 _ _ enter_NotEqual enter_Equal (_hbx 52 (by decide)) (_hbx 53 (by decide)) _hd hr (fun w _ => NotEqual_any s d _ w) (fun w hk => Equal_any s d _ w _hd hr _hs hk)⟩

theorem looks_32 (p : Nat → Nat) (d c : Nat) (of n : Int) (s : KS) (W : World) (_hbx : ∀ k, k < 88 → W.cell? ⟨p k, 0, none⟩ = some (boxV k)) (_hs : s.Ok) (_hd : d < 9) (_hc : c < 9) (_o1 : -32768 ≤ of) (_o2 : of ≤ 32767) : Looks p ⟨32, d, c, of, n⟩ s W := by
 have hr : secR 32 c < 9 := by unfold secR; split <;> omega
 exact ⟨170, #[ptr (p 55), ptr (p 56)], rfl, fun a b w => enter_lookCompare1 a b _ _ w, lookCompare1_any s 32 of n d c (p 55) (p 56) W 117 118 _ _ enter_Equal enter_NotEqual (_hbx 55 (by decide)) (_hbx 56 (by decide)) _hd hr (fun w hk => Equal_any s d _ w _hd hr _hs hk) (fun w _ => NotEqual_any s d _ w)⟩

theorem looks_33 (p : Nat → Nat) (d c : Nat) (of n : Int) (s : KS) (W : World) (_hbx : ∀ k, k < 88 → W.cell? ⟨p k, 0, none⟩ = some (boxV k)) (_hs : s.Ok) (_hd : d < 9) (_hc : c < 9) (_o1 : -32768 ≤ of) (_o2 : of ≤ 32767) : Looks p ⟨33, d, c, of, n⟩ s W := by
 have hr : secR 33 c < 9 := by unfold secR; split <;> omega
 exact ⟨170, #[ptr (p 58), ptr (p 59)], rfl, fun a b w => enter_lookCompare1 a b _ _ w, lookCompare1_any s 33 of n d c (p 58) (p 59) W 123 122 _ _ enter_NotGreater enter_Greater (_hbx 58 (by decide)) (_hbx 59 (by decide)) _hd hr (fun w hk => NotGreater_any s d _ w _hd hr _hs hk) (fun w hk => Greater_any s d _ w _hd hr _hs hk)⟩

theorem looks_34 (p : Nat → Nat) (d c : Nat) (of n : Int) (s : KS) (W : World) (_hbx : ∀ k, k < 88 → W.cell? ⟨p k, 0, none⟩ = some (boxV k)) (_hs : s.Ok) (_hd : d < 9) (_hc : c < 9) (_o1 : -32768 ≤ of) (_o2 : of ≤ 32767) : Looks p ⟨34, d, c, of, n⟩ s W := by
 have hr : secR 34 c < 9 := by unfold secR; split <;> omega
 exact ⟨170, #[ptr (p 61), ptr (p 62)], rfl, fun a b w => enter_lookCompare1 a b _ _ w, lookCompare1_any s 34 of n d c (p 61) (p 62) W 126 125 _ _ enter_Less enter_NotLess (_hbx 61 (by decide)) (_hbx 62 (by decide)) _hd hr (fun w hk => Less_any s d _ w _hd hr _hs hk) (fun w hk => NotLess_any s d _ w _hd hr _hs hk)⟩

theorem looks_35 (p : Nat → Nat) (d c : Nat) (of n : Int) (s : KS) (W : World) (_hbx : ∀ k, k < 88 → W.cell? ⟨p k, 0, none⟩ = some (boxV k)) (_hs : s.Ok) (_hd : d < 9) (_hc : c < 9) (_o1 : -32768 ≤ of) (_o2 : of ≤ 32767) : Looks p ⟨35, d, c, of, n⟩ s W := by
 have hr : secR 35 c < 9 := by unfold secR; split <;> omega
 exact ⟨170, #[ptr (p 64), ptr (p 65)], rfl, fun a b w => enter_lookCompare1 a b _ _ w, lookCompare1_any s 35 of n d c (p 64) (p 65) W 125 126 _ _ enter_NotLess enter_Less (_hbx 64 (by decide)) (_hbx 65 (by decide)) _hd hr (fun w hk => NotLess_any s d _ w _hd hr _hs hk) (fun w hk => Less_any s d _ w _hd hr _hs hk)⟩

theorem looks_36 (p : Nat → Nat) (d c : Nat) (of n : Int) (s : KS) (W : World) (_hbx : ∀ k, k < 88 → W.cell? ⟨p k, 0, none⟩ = some (boxV k)) (_hs : s.Ok) (_hd : d < 9) (_hc : c < 9) (_o1 : -32768 ≤ of) (_o2 : of ≤ 32767) : Looks p ⟨36, d, c, of, n⟩ s W := by
 have hr : secR 36 c < 9 := by unfold secR; split <;> omega
 exact ⟨170, #[ptr (p 67), ptr (p 68)], rfl, fun a b w => enter_lookCompare1 a b _ _ w, lookCompare1_any s 36 of n d c (p 67) (p 68) W 122 123 _ _ enter_Greater enter_NotGreater (_hbx 67 (by decide)) (_hbx 68 (by decide)) _hd hr (fun w hk => Greater_any s d _ w _hd hr _hs hk) (fun w hk => NotGreater_any s d _ w _hd hr _hs hk)⟩

theorem looks_40 (p : Nat → Nat) (d c : Nat) (of n : Int) (s : KS) (W : World) (_hbx : ∀ k, k < 88 → W.cell? ⟨p k, 0, none⟩ = some (boxV k)) (_hs : s.Ok) (_hd : d < 9) (_hc : c < 9) (_o1 : -32768 ≤ of) (_o2 : of ≤ 32767) : Looks p ⟨40, d, c, of, n⟩ s W := by
 have hr : secR 40 c < 9 := by unfold secR; split <;> omega
 exact ⟨132, #[], rfl, fun a b w => enter_lookCall a b w, lookCall_any s 40 of n d c W⟩

theorem looks_41 (p : Nat → Nat) (d c : Nat) (of n : Int) (s : KS) (W : World) (_hbx : ∀ k, k < 88 → W.cell? ⟨p k, 0, none⟩ = some (boxV k)) (_hs : s.Ok) (_hd : d < 9) (_hc : c < 9) (_o1 : -32768 ≤ of) (_o2 : of ≤ 32767) : Looks p ⟨41, d, c, of, n⟩ s W := by
 have hr : secR 41 c < 9 := by unfold secR; split <;> omega
 exact ⟨135, #[], rfl, fun a b w => enter_lookExit a b w, lookExit_any s 41 of n d c W⟩

theorem looks_129 (p : Nat → Nat) (d c : Nat) (of n : Int) (s : KS) (W : World) (_hbx : ∀ k, k < 88 → W.cell? ⟨p k, 0, none⟩ = some (boxV k)) (_hs : s.Ok) (_hd : d < 9) (_hc : c < 9) (_o1 : -32768 ≤ of) (_o2 : of ≤ 32767) : Looks p ⟨129, d, c, of, n⟩ s W := by
 have hr : secR 129 c < 9 := by unfold secR; split <;> omega
 exact ⟨81, #[], rfl, fun a b w => enter_lookMov a b w, lookMov_any s 129 of n d c W _hd hr⟩

theorem looks_130 (p : Nat → Nat) (d c : Nat) (of n : Int) (s : KS) (W : World) (_hbx : ∀ k, k < 88 → W.cell? ⟨p k, 0, none⟩ = some (boxV k)) (_hs : s.Ok) (_hd : d < 9) (_hc : c < 9) (_o1 : -32768 ≤ of) (_o2 : of ≤ 32767) : Looks p ⟨130, d, c, of, n⟩ s W := by
 have hr : secR 130 c < 9 := by unfold secR; split <;> omega
 exact ⟨83, #[], rfl, fun a b w => enter_lookAdd a b w, lookAdd_any s 130 of n d c W _hd hr _hs⟩

theorem looks_131 (p : Nat → Nat) (d c : Nat) (of n : Int) (s : KS) (W : World) (_hbx : ∀ k, k < 88 → W.cell? ⟨p k, 0, none⟩ = some (boxV k)) (_hs : s.Ok) (_hd : d < 9) (_hc : c < 9) (_o1 : -32768 ≤ of) (_o2 : of ≤ 32767) : Looks p ⟨131, d, c, of, n⟩ s W := by
 have hr : secR 131 c < 9 := by unfold secR; split <;> omega
 exact ⟨86, #[], rfl, fun a b w => enter_lookSub a b w, lookSub_any s 131 of n d c W _hd hr _hs⟩

theorem looks_132 (p : Nat → Nat) (d c : Nat) (of n : Int) (s : KS) (W : World) (_hbx : ∀ k, k < 88 → W.cell? ⟨p k, 0, none⟩ = some (boxV k)) (_hs : s.Ok) (_hd : d < 9) (_hc : c < 9) (_o1 : -32768 ≤ of) (_o2 : of ≤ 32767) : Looks p ⟨132, d, c, of, n⟩ s W := by
 have hr : secR 132 c < 9 := by unfold secR; split <;> omega
 exact ⟨156, #[ptr (p 20)], rfl, fun a b w => enter_lookNumbers1 a b _ w, lookNumbers1_any s 132 of n d c (p 20) W 89 _ _ enter_kMul (_hbx 20 (by decide)) _hd hr (by have o1 := _hs.v d _hd; have o2 := _hs.v _ hr; exact fun _ _ w => kMul_any _ _ _ _ w o1.nl0 o1.nm0 o2.nl0 o2.nm0 o1.nl1 o1.nm1 o2.nl1 o2.nm1)⟩

theorem looks_133 (p : Nat → Nat) (d c : Nat) (of n : Int) (s : KS) (W : World) (_hbx : ∀ k, k < 88 → W.cell? ⟨p k, 0, none⟩ = some (boxV k)) (_hs : s.Ok) (_hd : d < 9) (_hc : c < 9) (_o1 : -32768 ≤ of) (_o2 : of ≤ 32767) : Looks p ⟨133, d, c, of, n⟩ s W := by
 have hr : secR 133 c < 9 := by unfold secR; split <;> omega
 exact ⟨156, #[ptr (p 22)], rfl, fun a b w => enter_lookNumbers1 a b _ w, lookNumbers1_any s 133 of n d c (p 22) W 91 _ _ enter_kDiv (_hbx 22 (by decide)) _hd hr (by have o1 := _hs.v d _hd; have o2 := _hs.v _ hr; exact fun _ _ w => kDiv_any _ _ _ _ w o1.nl0 o1.nm0 o2.nl0 o2.nm0 o1.nl1 o1.nm1 o2.nl1 o2.nm1 o2.nn)⟩

theorem looks_134 (p : Nat → Nat) (d c : Nat) (of n : Int) (s : KS) (W : World) (_hbx : ∀ k, k < 88 → W.cell? ⟨p k, 0, none⟩ = some (boxV k)) (_hs : s.Ok) (_hd : d < 9) (_hc : c < 9) (_o1 : -32768 ≤ of) (_o2 : of ≤ 32767) : Looks p ⟨134, d, c, of, n⟩ s W := by
 have hr : secR 134 c < 9 := by unfold secR; split <;> omega
 exact ⟨156, #[ptr (p 24)], rfl, fun a b w => enter_lookNumbers1 a b _ w, lookNumbers1_any s 134 of n d c (p 24) W 93 _ _ enter_kMod (_hbx 24 (by decide)) _hd hr (by have o1 := _hs.v d _hd; have o2 := _hs.v _ hr; exact fun _ _ w => kMod_any _ _ _ _ w o1.nl0 o1.nm0 o2.nl0 o2.nm0 o1.nl1 o1.nm1 o2.nl1 o2.nm1 o2.nn)⟩

theorem looks_135 (p : Nat → Nat) (d c : Nat) (of n : Int) (s : KS) (W : World) (_hbx : ∀ k, k < 88 → W.cell? ⟨p k, 0, none⟩ = some (boxV k)) (_hs : s.Ok) (_hd : d < 9) (_hc : c < 9) (_o1 : -32768 ≤ of) (_o2 : of ≤ 32767) : Looks p ⟨135, d, c, of, n⟩ s W := by
 have hr : secR 135 c < 9 := by unfold secR; split <;> omega
 exact ⟨156, #[ptr (p 26)], rfl, fun a b w => enter_lookNumbers1 a b _ w, lookNumbers1_any s 135 of n d c (p 26) W 95 _ _ enter_kAnd (_hbx 26 (by decide)) _hd hr (by have o1 := _hs.v d _hd; have o2 := _hs.v _ hr; exact fun _ _ w => kAnd_any _ _ _ _ w o1.nl0 o1.nm0 o2.nl0 o2.nm0 o1.nl1 o1.nm1 o2.nl1 o2.nm1)⟩

theorem looks_136 (p : Nat → Nat) (d c : Nat) (of n : Int) (s : KS) (W : World) (_hbx : ∀ k, k < 88 → W.cell? ⟨p k, 0, none⟩ = some (boxV k)) (_hs : s.Ok) (_hd : d < 9) (_hc : c < 9) (_o1 : -32768 ≤ of) (_o2 : of ≤ 32767) : Looks p ⟨136, d, c, of, n⟩ s W := by
 have hr : secR 136 c < 9 := by unfold secR; split <;> omega
 exact ⟨156, #[ptr (p 28)], rfl, fun a b w => enter_lookNumbers1 a b _ w, lookNumbers1_any s 136 of n d c (p 28) W 97 _ _ enter_kOr (_hbx 28 (by decide)) _hd hr (by have o1 := _hs.v d _hd; have o2 := _hs.v _ hr; exact fun _ _ w => kOr_any _ _ _ _ w o1.nl0 o1.nm0 o2.nl0 o2.nm0 o1.nl1 o1.nm1 o2.nl1 o2.nm1 (or_bd _ _).1 (or_bd _ _).2)⟩

theorem looks_137 (p : Nat → Nat) (d c : Nat) (of n : Int) (s : KS) (W : World) (_hbx : ∀ k, k < 88 → W.cell? ⟨p k, 0, none⟩ = some (boxV k)) (_hs : s.Ok) (_hd : d < 9) (_hc : c < 9) (_o1 : -32768 ≤ of) (_o2 : of ≤ 32767) : Looks p ⟨137, d, c, of, n⟩ s W := by
 have hr : secR 137 c < 9 := by unfold secR; split <;> omega
 exact ⟨156, #[ptr (p 30)], rfl, fun a b w => enter_lookNumbers1 a b _ w, lookNumbers1_any s 137 of n d c (p 30) W 99 _ _ enter_kXor (_hbx 30 (by decide)) _hd hr (by have o1 := _hs.v d _hd; have o2 := _hs.v _ hr; exact fun _ _ w => kXor_any _ _ _ _ w o1.nl0 o1.nm0 o2.nl0 o2.nm0 o1.nl1 o1.nm1 o2.nl1 o2.nm1 (or_bd _ _).1 (or_bd _ _).2)⟩

theorem looks_138 (p : Nat → Nat) (d c : Nat) (of n : Int) (s : KS) (W : World) (_hbx : ∀ k, k < 88 → W.cell? ⟨p k, 0, none⟩ = some (boxV k)) (_hs : s.Ok) (_hd : d < 9) (_hc : c < 9) (_o1 : -32768 ≤ of) (_o2 : of ≤ 32767) : Looks p ⟨138, d, c, of, n⟩ s W := by
 have hr : secR 138 c < 9 := by unfold secR; split <;> omega
 exact ⟨156, #[ptr (p 32)], rfl, fun a b w => enter_lookNumbers1 a b _ w, lookNumbers1_any s 138 of n d c (p 32) W 101 _ _ enter_kShl (_hbx 32 (by decide)) _hd hr (by have o1 := _hs.v d _hd; have o2 := _hs.v _ hr; exact fun _ _ w => kShl_any _ _ _ _ w o1.nl0 o1.nm0 o2.nl0 o2.nm0 o1.nl1 o1.nm1 o2.nl1 o2.nm1)⟩

theorem looks_139 (p : Nat → Nat) (d c : Nat) (of n : Int) (s : KS) (W : World) (_hbx : ∀ k, k < 88 → W.cell? ⟨p k, 0, none⟩ = some (boxV k)) (_hs : s.Ok) (_hd : d < 9) (_hc : c < 9) (_o1 : -32768 ≤ of) (_o2 : of ≤ 32767) : Looks p ⟨139, d, c, of, n⟩ s W := by
 have hr : secR 139 c < 9 := by unfold secR; split <;> omega
 exact ⟨156, #[ptr (p 34)], rfl, fun a b w => enter_lookNumbers1 a b _ w, lookNumbers1_any s 139 of n d c (p 34) W 103 _ _ enter_kShr (_hbx 34 (by decide)) _hd hr (by have o1 := _hs.v d _hd; have o2 := _hs.v _ hr; exact fun _ _ w => kShr_any _ _ _ _ w o1.nl0 o1.nm0 o2.nl0 o2.nm0 o1.nl1 o1.nm1 o2.nl1 o2.nm1)⟩

theorem looks_159 (p : Nat → Nat) (d c : Nat) (of n : Int) (s : KS) (W : World) (_hbx : ∀ k, k < 88 → W.cell? ⟨p k, 0, none⟩ = some (boxV k)) (_hs : s.Ok) (_hd : d < 9) (_hc : c < 9) (_o1 : -32768 ≤ of) (_o2 : of ≤ 32767) : Looks p ⟨159, d, c, of, n⟩ s W := by
 have hr : secR 159 c < 9 := by unfold secR; split <;> omega
 exact ⟨170, #[ptr (p 70), ptr (p 71)], rfl, fun a b w => enter_lookCompare1 a b _ _ w, lookCompare1_any s 159 of n d c (p 70) (p 71) W 118 117 _ _ enter_NotEqual enter_Equal (_hbx 70 (by decide)) (_hbx 71 (by decide)) _hd hr (fun w _ => NotEqual_any s d _ w) (fun w hk => Equal_any s d _ w _hd hr _hs hk)⟩

theorem looks_160 (p : Nat → Nat) (d c : Nat) (of n : Int) (s : KS) (W : World) (_hbx : ∀ k, k < 88 → W.cell? ⟨p k, 0, none⟩ = some (boxV k)) (_hs : s.Ok) (_hd : d < 9) (_hc : c < 9) (_o1 : -32768 ≤ of) (_o2 : of ≤ 32767) : Looks p ⟨160, d, c, of, n⟩ s W := by
 have hr : secR 160 c < 9 := by unfold secR; split <;> omega
 exact ⟨170, #[ptr (p 73), ptr (p 74)], rfl, fun a b w => enter_lookCompare1 a b _ _ w, lookCompare1_any s 160 of n d c (p 73) (p 74) W 117 118 _ _ enter_Equal enter_NotEqual (_hbx 73 (by decide)) (_hbx 74 (by decide)) _hd hr (fun w hk => Equal_any s d _ w _hd hr _hs hk) (fun w _ => NotEqual_any s d _ w)⟩

theorem looks_161 (p : Nat → Nat) (d c : Nat) (of n : Int) (s : KS) (W : World) (_hbx : ∀ k, k < 88 → W.cell? ⟨p k, 0, none⟩ = some (boxV k)) (_hs : s.Ok) (_hd : d < 9) (_hc : c < 9) (_o1 : -32768 ≤ of) (_o2 : of ≤ 32767) : Looks p ⟨161, d, c, of, n⟩ s W := by
 have hr : secR 161 c < 9 := by unfold secR; split <;> omega
 exact ⟨170, #[ptr (p 76), ptr (p 77)], rfl, fun a b w => enter_lookCompare1 a b _ _ w, lookCompare1_any s 161 of n d c (p 76) (p 77) W 123 122 _ _ enter_NotGreater enter_Greater (_hbx 76 (by decide)) (_hbx 77 (by decide)) _hd hr (fun w hk => NotGreater_any s d _ w _hd hr _hs hk) (fun w hk => Greater_any s d _ w _hd hr _hs hk)⟩

theorem looks_162 (p : Nat → Nat) (d c : Nat) (of n : Int) (s : KS) (W : World) (_hbx : ∀ k, k < 88 → W.cell? ⟨p k, 0, none⟩ = some (boxV k)) (_hs : s.Ok) (_hd : d < 9) (_hc : c < 9) (_o1 : -32768 ≤ of) (_o2 : of ≤ 32767) : Looks p ⟨162, d, c, of, n⟩ s W := by
 have hr : secR 162 c < 9 := by unfold secR; split <;> omega
 exact ⟨170, #[ptr (p 79), ptr (p 80)], rfl, fun a b w => enter_lookCompare1 a b _ _ w, lookCompare1_any s 162 of n d c (p 79) (p 80) W 126 125 _ _ enter_Less enter_NotLess (_hbx 79 (by decide)) (_hbx 80 (by decide)) _hd hr (fun w hk => Less_any s d _ w _hd hr _hs hk) (fun w hk => NotLess_any s d _ w _hd hr _hs hk)⟩

theorem looks_163 (p : Nat → Nat) (d c : Nat) (of n : Int) (s : KS) (W : World) (_hbx : ∀ k, k < 88 → W.cell? ⟨p k, 0, none⟩ = some (boxV k)) (_hs : s.Ok) (_hd : d < 9) (_hc : c < 9) (_o1 : -32768 ≤ of) (_o2 : of ≤ 32767) : Looks p ⟨163, d, c, of, n⟩ s W := by
 have hr : secR 163 c < 9 := by unfold secR; split <;> omega
 exact ⟨170, #[ptr (p 82), ptr (p 83)], rfl, fun a b w => enter_lookCompare1 a b _ _ w, lookCompare1_any s 163 of n d c (p 82) (p 83) W 125 126 _ _ enter_NotLess enter_Less (_hbx 82 (by decide)) (_hbx 83 (by decide)) _hd hr (fun w hk => NotLess_any s d _ w _hd hr _hs hk) (fun w hk => Less_any s d _ w _hd hr _hs hk)⟩

theorem looks_164 (p : Nat → Nat) (d c : Nat) (of n : Int) (s : KS) (W : World) (_hbx : ∀ k, k < 88 → W.cell? ⟨p k, 0, none⟩ = some (boxV k)) (_hs : s.Ok) (_hd : d < 9) (_hc : c < 9) (_o1 : -32768 ≤ of) (_o2 : of ≤ 32767) : Looks p ⟨164, d, c, of, n⟩ s W := by
 have hr : secR 164 c < 9 := by unfold secR; split <;> omega
 exact ⟨170, #[ptr (p 85), ptr (p 86)], rfl, fun a b w => enter_lookCompare1 a b _ _ w, lookCompare1_any s 164 of n d c (p 85) (p 86) W 122 123 _ _ enter_Greater enter_NotGreater (_hbx 85 (by decide)) (_hbx 86 (by decide)) _hd hr (fun w hk => Greater_any s d _ w _hd hr _hs hk) (fun w hk => NotGreater_any s d _ w _hd hr _hs hk)⟩
end Go.Proofs.YtoobileejdhikaaGreat

namespace Go.Proofs.YtoobileejdhikaaGreat
open Go.RowKit

def In (v : KV) (x : Int) : Prop := v.nl ≤ x ∧ x ≤ v.nm
structure KV.Num (v : KV) : Prop where
 l0 : 0 ≤ v.nl
 m1 : v.nm < 18446744073709551616
theorem KV.Ok.num {v : KV} (h : v.Ok) : v.Num := ⟨h.nl0, h.nm1⟩
theorem In.nonneg {v : KV} (h : v.Num) {x : Int} (hx : In v x) : 0 ≤ x := Int.le_trans h.l0 hx.1
theorem In.lt {v : KV} (h : v.Num) {x : Int} (hx : In v x) : x < 18446744073709551616 := Int.lt_of_le_of_lt hx.2 h.m1

theorem ord_in {b : Bool} {l m z : Int} (h0 : 0 ≤ z) (h1 : z ≤ 18446744073709551615) (h : b = true → l ≤ z ∧ z ≤ m) : ordL b l ≤ z ∧ z ≤ ordM b m := by
 cases b
 ·exact ⟨h0, h1⟩
 ·exact h rfl

theorem add_in {a b : KV} (ha : a.Num) (hb : b.Num) {x y : Int} (hx : In a x) (hy : In b y) :
  (numAdd a b).nl ≤ (x + y) % 18446744073709551616 ∧ (x + y) % 18446744073709551616 ≤ (numAdd a b).nm := by
 have := ha.l0; have := ha.m1; have := hb.l0; have := hb.m1
 obtain ⟨x1, x2⟩ := hx
 obtain ⟨y1, y2⟩ := hy
 refine ord_in (by omega) (by omega) (fun h => ?_)
 have h := eq_of_beq h
 omega
theorem sub_in {a b : KV} (ha : a.Num) (hb : b.Num) {x y : Int} (hx : In a x) (hy : In b y) :
  (numSub a b).nl ≤ (x - y) % 18446744073709551616 ∧ (x - y) % 18446744073709551616 ≤ (numSub a b).nm := by
 have := ha.l0; have := ha.m1; have := hb.l0; have := hb.m1
 obtain ⟨x1, x2⟩ := hx
 obtain ⟨y1, y2⟩ := hy
 refine ord_in (by omega) (by omega) (fun h => ?_)
 have h := eq_of_beq h
 unfold bor at h
 split at h <;> split at h <;> first | omega | (exfalso; omega)

theorem and32 (b : Int) (h0 : 0 ≤ b) (h1 : b < 18446744073709551616) : bits .and .u64 b 4294967295 = b % 4294967296 := by
 obtain ⟨n, rfl⟩ := Int.eq_ofNat_of_zero_le h0
 show IntKind.u64.wrap ((BitVec.ofInt 64 (n : Int) &&& BitVec.ofInt 64 ((4294967295 : Nat) : Int)).toNat : Int) = _
 simp only [BitVec.ofInt_natCast, BitVec.toNat_and, BitVec.toNat_ofNat]
 rw [Nat.mod_eq_of_lt (by omega), show 4294967295 % 2 ^ 64 = 2 ^ 32 - 1 from by decide, Nat.and_two_pow_sub_one_eq_mod, wrapU]
 omega
theorem mulHi_eq (x y : Int) (hx0 : 0 ≤ x) (hx1 : x < 18446744073709551616) (hy0 : 0 ≤ y) (hy1 : y < 18446744073709551616) : mulHi x y = x * y / 18446744073709551616 := by
 obtain ⟨x1, x0, ex, hx0', hx0'', hx1', hx1''⟩ : ∃ x1 x0 : Int, x = x1 * 4294967296 + x0 ∧ 0 ≤ x0 ∧ x0 < 4294967296 ∧ 0 ≤ x1 ∧ x1 < 4294967296 := ⟨x / 4294967296, x % 4294967296, by omega, by omega, by omega, by omega, by omega⟩
 obtain ⟨y1, y0, ey, hy0', hy0'', hy1', hy1''⟩ : ∃ y1 y0 : Int, y = y1 * 4294967296 + y0 ∧ 0 ≤ y0 ∧ y0 < 4294967296 ∧ 0 ≤ y1 ∧ y1 < 4294967296 := ⟨y / 4294967296, y % 4294967296, by omega, by omega, by omega, by omega, by omega⟩
 have b : ∀ p q : Int, 0 ≤ p → p < 4294967296 → 0 ≤ q → q < 4294967296 → 0 ≤ p * q ∧ p * q ≤ 18446744065119617025 := fun p q h1 h2 h3 h4 =>
  ⟨Int.mul_nonneg h1 h3, by have := Int.mul_le_mul (show p ≤ 4294967295 by omega) (show q ≤ 4294967295 by omega) h3 (by decide); simpa using this⟩
 have b00 := b x0 y0 hx0' hx0'' hy0' hy0''
 have b10 := b x1 y0 hx1' hx1'' hy0' hy0''
 have b01 := b x0 y1 hx0' hx0'' hy1' hy1''
 have b11 := b x1 y1 hx1' hx1'' hy1' hy1''
 have q1 : x / 4294967296 = x1 := by omega
 have q2 : y / 4294967296 = y1 := by omega
 have q3 : x % 4294967296 = x0 := by omega
 have q4 : y % 4294967296 = y0 := by omega
 have e : x * y = x1 * y1 * 18446744073709551616 + (x1 * y0 + x0 * y1) * 4294967296 + x0 * y0 := by
  rw [ex, ey, Int.add_mul, Int.mul_add, Int.mul_add]
  rw [show x1 * 4294967296 * (y1 * 4294967296) = x1 * y1 * 18446744073709551616 from by rw [Int.mul_assoc, Int.mul_left_comm 4294967296, Int.mul_assoc x1 y1]; rfl]
  rw [show x1 * 4294967296 * y0 = x1 * y0 * 4294967296 from by rw [Int.mul_assoc, Int.mul_comm 4294967296, ← Int.mul_assoc]]
  rw [show x0 * (y1 * 4294967296) = x0 * y1 * 4294967296 from by rw [Int.mul_assoc]]
  omega
 rw [e]
 unfold mulHi
 rw [and32 x hx0 hx1, and32 y hy0 hy1, q1, q2, q3, q4]
 generalize x1 * y1 = p11 at b11 ⊢
 generalize x1 * y0 = p10 at b10 ⊢
 generalize x0 * y1 = p01 at b01 ⊢
 generalize x0 * y0 = p00 at b00 ⊢
 simp only [wrapU]
 rw [and32 _ (by omega) (by omega)]
 omega

theorem mul_in {a b : KV} (ha : a.Num) (hb : b.Num) {x y : Int} (hx : In a x) (hy : In b y) :
  (nMul a b).1 ≤ (x * y) % 18446744073709551616 ∧ (x * y) % 18446744073709551616 ≤ (nMul a b).2 := by
 have h1 := ha.l0; have h2 := ha.m1; have h3 := hb.l0; have h4 := hb.m1
 have hx0 := In.nonneg ha hx
 have hy0 := In.nonneg hb hy
 obtain ⟨x1, x2⟩ := hx
 obtain ⟨y1, y2⟩ := hy
 refine ord_in (by omega) (by omega) (fun h => ?_)
 have h := eq_of_beq h
 rw [mulHi_eq _ _ (by omega) (by omega) (by omega) (by omega)] at h
 have m1 : x * y ≤ a.nm * b.nm := Int.mul_le_mul x2 y2 hy0 (by omega)
 have m0 : a.nl * b.nl ≤ x * y := Int.mul_le_mul x1 y1 h3 hx0
 have m2 : 0 ≤ a.nl * b.nl := Int.mul_nonneg h1 h3
 rw [wrapU, wrapU]
 omega
theorem div_in {a b : KV} (ha : a.Num) (hb : b.Num) {x y : Int} (hx : In a x) (hy : In b y) :
  (nDiv a b).1 ≤ (if y = 0 then 0 else x / y) ∧ (if y = 0 then 0 else x / y) ≤ (nDiv a b).2 := by
 have h1 := ha.l0; have h3 := hb.l0
 have hx0 := In.nonneg ha hx
 have hy0 := In.nonneg hb hy
 obtain ⟨x1, x2⟩ := hx
 obtain ⟨y1, y2⟩ := hy
 unfold nDiv
 by_cases hz : b.nl = 0
 ·simp only [hz, if_true]
  split
  ·omega
  ·exact ⟨Int.ediv_nonneg hx0 hy0, Int.le_trans (Int.ediv_le_self _ hx0) x2⟩
 ·simp only [hz, if_false]
  rw [if_neg (by omega)]
  obtain ⟨X, rfl⟩ := Int.eq_ofNat_of_zero_le hx0
  obtain ⟨Y, rfl⟩ := Int.eq_ofNat_of_zero_le hy0
  obtain ⟨p, hp⟩ := Int.eq_ofNat_of_zero_le h1
  obtain ⟨q, hq⟩ := Int.eq_ofNat_of_zero_le h3
  obtain ⟨r, hr⟩ := Int.eq_ofNat_of_zero_le (show 0 ≤ a.nm by omega)
  obtain ⟨t, ht⟩ := Int.eq_ofNat_of_zero_le (show 0 ≤ b.nm by omega)
  rw [hp, hq, hr, ht]
  have e1 : p / t ≤ X / Y := Nat.div_le_div (by omega) (by omega) (by omega)
  have e2 : X / Y ≤ r / q := Nat.div_le_div (by omega) (by omega) (by omega)
  exact ⟨by exact_mod_cast e1, by exact_mod_cast e2⟩
theorem mod_in {a b : KV} (ha : a.Num) (hb : b.Num) {x y : Int} (hx : In a x) (hy : In b y) :
  (nMod a b).1 ≤ (if y = 0 then x else x % y) ∧ (if y = 0 then x else x % y) ≤ (nMod a b).2 := by
 have h3 := hb.l0
 have hx0 := In.nonneg ha hx
 have hy0 := In.nonneg hb hy
 obtain ⟨x1, x2⟩ := hx
 obtain ⟨y1, y2⟩ := hy
 unfold nMod
 have m1 : y ≠ 0 → 0 ≤ x % y ∧ x % y < y ∧ x % y ≤ x := fun h => ⟨Int.emod_nonneg x h, Int.emod_lt_of_pos x (by omega), by have e := Int.emod_def x y; have := Int.mul_nonneg hy0 (Int.ediv_nonneg hx0 hy0); omega⟩
 by_cases hz : b.nl = 0
 ·simp only [hz, if_true]
  split
  ·omega
  ·rename_i h; have := m1 h; omega
 ·simp only [hz, if_false]
  rw [if_neg (by omega)]
  have := m1 (by omega)
  omega
theorem shr_in {a b : KV} (ha : a.Num) {x y : Int} (hx : In a x) (hy : In b y) :
  (nShr a b).1 ≤ x / 2 ^ (y % 64).toNat ∧ x / 2 ^ (y % 64).toNat ≤ (nShr a b).2 := by
 have hx0 := In.nonneg ha hx
 have h1 := ha.l0
 obtain ⟨x1, x2⟩ := hx
 obtain ⟨y1, y2⟩ := hy
 have hp : (0 : Int) < 2 ^ (y % 64).toNat := Int.pow_pos (by decide)
 unfold nShr
 by_cases hz : b.nl = b.nm
 ·have : y = b.nl := by omega
  subst this
  simp only [hz, if_true]
  rw [← hz]
  exact ⟨Int.ediv_le_ediv hp x1, Int.ediv_le_ediv hp x2⟩
 ·simp only [hz, if_false]
  exact ⟨Int.ediv_nonneg hx0 (Int.le_of_lt hp), Int.le_trans (Int.ediv_le_self _ hx0) x2⟩
theorem shl_in {a b : KV} (ha : a.Num) {x y : Int} (hx : In a x) (hy : In b y) :
  (nShl a b).1 ≤ (x * 2 ^ (y % 64).toNat) % 18446744073709551616 ∧ (x * 2 ^ (y % 64).toNat) % 18446744073709551616 ≤ (nShl a b).2 := by
 have hx0 := In.nonneg ha hx
 have h1 := ha.l0
 obtain ⟨x1, x2⟩ := hx
 obtain ⟨y1, y2⟩ := hy
 have hp : (0 : Int) < 2 ^ (y % 64).toNat := Int.pow_pos (by decide)
 refine ord_in (by omega) (by omega) (fun h => ?_)
 unfold shlOk at h
 rw [Bool.and_eq_true] at h
 have hz := eq_of_beq h.1
 have hk := eq_of_beq h.2
 have : y = b.nl := by omega
 subst this
 generalize (2 : Int) ^ (b.nl % 64).toNat = t at *
 rw [wrapU, wrapU] at *
 have k1 : a.nm * t ≤ (a.nm * t) % 18446744073709551616 := by
  have := Int.ediv_mul_le ((a.nm * t) % 18446744073709551616) (Int.ne_of_gt hp)
  rw [hk] at this; exact this
 have m1 : x * t ≤ a.nm * t := Int.mul_le_mul_of_nonneg_right x2 (Int.le_of_lt hp)
 have m0 : a.nl * t ≤ x * t := Int.mul_le_mul_of_nonneg_right x1 (Int.le_of_lt hp)
 have m2 : 0 ≤ a.nl * t := Int.mul_nonneg h1 (Int.le_of_lt hp)
 omega
end Go.Proofs.YtoobileejdhikaaGreat

namespace Go.Proofs.YtoobileejdhikaaGreat
open Go.RowKit

theorem or_nat (m n : Nat) (hm : m < 18446744073709551616) (hn : n < 18446744073709551616) : bits .or .u64 (m : Int) (n : Int) = ((m ||| n : Nat) : Int) := by
 show IntKind.u64.wrap ((BitVec.ofInt 64 (m : Int) ||| BitVec.ofInt 64 (n : Int)).toNat : Int) = _
 simp only [BitVec.ofInt_natCast, BitVec.toNat_or, BitVec.toNat_ofNat]
 rw [Nat.mod_eq_of_lt (by omega), Nat.mod_eq_of_lt (by omega), wrapU]
 have : m ||| n < 2 ^ 64 := Nat.or_lt_two_pow (by omega) (by omega)
 omega
theorem allB_eq (m : Nat) (hm : m < 18446744073709551616) : allB (m : Int) = ((2 ^ lenN m - 1 : Nat) : Int) := by
 unfold allB
 rw [Int.toNat_natCast, wrapU, wrapU]
 have h1 := lenN_64 m hm
 have h2 := Nat.two_pow_pos (lenN m)
 have h3 : 2 ^ lenN m ≤ 2 ^ 64 := Nat.pow_le_pow_right (by decide) h1
 have e : ((2 : Int) ^ lenN m) = ((2 ^ lenN m : Nat) : Int) := by simp
 rw [e]
 omega
theorem nat_of {v : KV} (h : v.Num) (hn : v.nl ≤ v.nm) : ∃ l m : Nat, v.nl = l ∧ v.nm = m ∧ l ≤ m ∧ m < 18446744073709551616 := by
 obtain ⟨l, hl⟩ := Int.eq_ofNat_of_zero_le h.l0
 obtain ⟨m, hm⟩ := Int.eq_ofNat_of_zero_le (show 0 ≤ v.nm from Int.le_trans h.l0 hn)
 have := h.m1
 exact ⟨l, m, hl, hm, by omega, by omega⟩
theorem or_lt_all {m n X Y : Nat} (_hm : m < 18446744073709551616) (_hn : n < 18446744073709551616) (hx : X ≤ m) (hy : Y ≤ n) : X < 2 ^ lenN (m ||| n) ∧ Y < 2 ^ lenN (m ||| n) := by
 have h := lenN_lt (m ||| n)
 have h1 : m ≤ m ||| n := Nat.left_le_or
 have h2 : n ≤ m ||| n := Nat.right_le_or
 omega
theorem or_in {a b : KV} (ha : a.Num) (hb : b.Num) {X Y : Nat} (hx : In a X) (hy : In b Y) : (nOr a b).1 ≤ ((X ||| Y : Nat) : Int) ∧ ((X ||| Y : Nat) : Int) ≤ (nOr a b).2 := by
 obtain ⟨l, m, e1, e2, _, h2⟩ := nat_of ha (Int.le_trans hx.1 hx.2)
 obtain ⟨p, q, e3, e4, _, h4⟩ := nat_of hb (Int.le_trans hy.1 hy.2)
 obtain ⟨x1, x2⟩ := hx
 obtain ⟨y1, y2⟩ := hy
 have b1 := or_lt_all (X := X) (Y := Y) h2 h4 (by omega) (by omega)
 have b2 : X ||| Y < 2 ^ lenN (m ||| q) := Nat.or_lt_two_pow b1.1 b1.2
 have b3 : X ≤ X ||| Y := Nat.left_le_or
 have b4 : Y ≤ X ||| Y := Nat.right_le_or
 have b5 : m ||| q < 2 ^ 64 := Nat.or_lt_two_pow (by omega) (by omega)
 unfold nOr maxI
 simp only [e2, e4, or_nat m q h2 h4]
 rw [allB_eq _ (by omega)]
 refine ⟨?_, by omega⟩
 split <;> omega
theorem xor_in {a b : KV} (ha : a.Num) (hb : b.Num) {X Y : Nat} (hx : In a X) (hy : In b Y) : (nXor a b).1 ≤ ((X ^^^ Y : Nat) : Int) ∧ ((X ^^^ Y : Nat) : Int) ≤ (nXor a b).2 := by
 obtain ⟨l, m, e1, e2, _, h2⟩ := nat_of ha (Int.le_trans hx.1 hx.2)
 obtain ⟨p, q, e3, e4, _, h4⟩ := nat_of hb (Int.le_trans hy.1 hy.2)
 obtain ⟨x1, x2⟩ := hx
 obtain ⟨y1, y2⟩ := hy
 have b1 := or_lt_all (X := X) (Y := Y) h2 h4 (by omega) (by omega)
 have b2 : X ^^^ Y < 2 ^ lenN (m ||| q) := Nat.xor_lt_two_pow b1.1 b1.2
 have b5 : m ||| q < 2 ^ 64 := Nat.or_lt_two_pow (by omega) (by omega)
 unfold nXor
 simp only [e2, e4, or_nat m q h2 h4]
 rw [allB_eq _ (by omega)]
 omega
theorem and_in {a b : KV} {X Y : Nat} (hx : In a X) (hy : In b Y) : (nAnd a b).1 ≤ ((X &&& Y : Nat) : Int) ∧ ((X &&& Y : Nat) : Int) ≤ (nAnd a b).2 := by
 obtain ⟨x1, x2⟩ := hx
 obtain ⟨y1, y2⟩ := hy
 have b3 : X &&& Y ≤ X := Nat.and_le_left
 have b4 : X &&& Y ≤ Y := Nat.and_le_right
 unfold nAnd
 simp only
 omega

theorem numV_ok {l m : Int} (h0 : 0 ≤ l) (h1 : l ≤ m) (h2 : m < 18446744073709551616) : (numV l m).Ok :=
 ⟨(show ((0 : Int) ≤ 1) from by decide), (show ((1 : Int) ≤ 3) from by decide), h0, by show l < _; omega, by show 0 ≤ m; omega, h2, h1, (show ((-1000 : Int) ≤ 0) from by decide), (show ((0 : Int) ≤ 1000) from by decide), (show ((-1000 : Int) ≤ 0) from by decide), (show ((0 : Int) ≤ 1000) from by decide), fun h => by simp [numV] at h, fun h => by simp [numV] at h, Int.le_refl 0⟩
theorem ordL_0 {b : Bool} {l : Int} (h : 0 ≤ l) : 0 ≤ ordL b l := by cases b; exact Int.le_refl 0; exact h
theorem ordM_lt {b : Bool} {m : Int} (h : m < 18446744073709551616) : ordM b m < 18446744073709551616 := by cases b; exact (show ((18446744073709551615 : Int) < 18446744073709551616) from by decide); exact h
theorem in_l {v : KV} (h : v.Ok) : In v v.nl := ⟨Int.le_refl _, h.nn⟩

theorem numAdd_ok {a b : KV} (ha : a.Ok) (hb : b.Ok) : (numAdd a b).Ok := by
 have h := add_in ha.num hb.num (in_l ha) (in_l hb)
 exact numV_ok (ordL_0 (by omega)) (Int.le_trans h.1 h.2) (ordM_lt (by omega))
theorem numSub_ok {a b : KV} (ha : a.Ok) (hb : b.Ok) : (numSub a b).Ok := by
 have h := sub_in ha.num hb.num (in_l ha) (in_l hb)
 exact numV_ok (ordL_0 (by omega)) (Int.le_trans h.1 h.2) (ordM_lt (by omega))
def SpanF (f : KV → KV → Int × Int) : Prop := ∀ a b : KV, a.Ok → b.Ok → 0 ≤ (f a b).1 ∧ (f a b).1 ≤ (f a b).2 ∧ (f a b).2 < 18446744073709551616
theorem sp_mul : SpanF nMul := fun a b ha hb => by
 have h := mul_in ha.num hb.num (in_l ha) (in_l hb)
 exact ⟨ordL_0 (by rw [wrapU]; omega), Int.le_trans h.1 h.2, ordM_lt (by rw [wrapU]; omega)⟩
theorem sp_div : SpanF nDiv := fun a b ha hb => by
 have h := div_in ha.num hb.num (in_l ha) (in_l hb)
 have := ha.nl0; have := ha.nm0; have := ha.nm1; have := hb.nl0; have := hb.nm0
 refine ⟨?_, Int.le_trans h.1 h.2, ?_⟩
 ·unfold nDiv; simp only; split; exact Int.le_refl 0; exact Int.ediv_nonneg (by omega) (by omega)
 ·unfold nDiv; simp only; split; omega; exact Int.lt_of_le_of_lt (Int.ediv_le_self _ (by omega)) (by omega)
theorem sp_mod : SpanF nMod := fun a b ha hb => by
 have h := mod_in ha.num hb.num (in_l ha) (in_l hb)
 have := ha.nm1
 refine ⟨Int.le_refl 0, Int.le_trans h.1 h.2, ?_⟩
 unfold nMod; simp only; split <;> omega
theorem sp_and : SpanF nAnd := fun a b ha hb => by
 have := ha.nm1; have := ha.nm0; have := hb.nm0
 refine ⟨Int.le_refl 0, ?_, ?_⟩ <;> (unfold nAnd; simp only; omega)
theorem sp_xor : SpanF nXor := fun a b ha hb => by
 obtain ⟨l, m, e1, e2, h1, h2⟩ := nat_of ha.num ha.nn
 obtain ⟨p, q, e3, e4, h3, h4⟩ := nat_of hb.num hb.nn
 have b5 : m ||| q < 2 ^ 64 := Nat.or_lt_two_pow (by omega) (by omega)
 have k := lenN_64 (m ||| q) (by omega)
 have k2 : 2 ^ lenN (m ||| q) ≤ 2 ^ 64 := Nat.pow_le_pow_right (by decide) k
 unfold nXor
 simp only [e2, e4, or_nat m q h2 h4]
 rw [allB_eq _ (by omega)]
 omega
theorem sp_or : SpanF nOr := fun a b ha hb => by
 have hx := sp_xor a b ha hb
 obtain ⟨l, m, e1, e2, h1, h2⟩ := nat_of ha.num ha.nn
 obtain ⟨p, q, e3, e4, h3, h4⟩ := nat_of hb.num hb.nn
 have h := or_in ha.num hb.num (X := l) (Y := p) (by rw [← e1]; exact in_l ha) (by rw [← e3]; exact in_l hb)
 refine ⟨?_, Int.le_trans h.1 h.2, hx.2.2⟩
 have := ha.nl0; have := hb.nl0
 unfold nOr maxI; simp only; split <;> omega
theorem sp_shl : SpanF nShl := fun a b ha hb => by
 have h := shl_in ha.num (in_l ha) (in_l hb)
 exact ⟨ordL_0 (by rw [wrapU]; omega), Int.le_trans h.1 h.2, ordM_lt (by rw [wrapU]; omega)⟩
theorem sp_shr : SpanF nShr := fun a b ha hb => by
 have h := shr_in ha.num (in_l ha) (in_l hb)
 have h0 := ha.nl0; have h1 := ha.nm0; have h2 := ha.nm1
 have hp : (0 : Int) < 2 ^ (b.nl % 64).toNat := Int.pow_pos (by decide)
 refine ⟨?_, Int.le_trans h.1 h.2, ?_⟩
 ·unfold nShr; simp only; split; exact Int.ediv_nonneg h0 (Int.le_of_lt hp); exact Int.le_refl 0
 ·unfold nShr; simp only; split; exact Int.lt_of_le_of_lt (Int.ediv_le_self _ h1) h2; exact h2

theorem movedK_ok {p v : KV} (hp : p.Ok) {l m : Int} (hl : l ≤ m) (h : movedK p l m = some v) : v.Ok := by
 unfold movedK at h
 split at h
 ·rename_i hc
  cases h
  have := hp.pp
  exact ⟨hp.k0, hp.k3, Int.le_refl 0, (show ((0 : Int) < 18446744073709551616) from by decide), Int.le_refl 0, (show ((0 : Int) < 18446744073709551616) from by decide), Int.le_refl 0, hc.1, by show p.pl + l ≤ 1000; omega, by show -1000 ≤ p.pm + m; omega, hc.2, fun h => by simp at h, fun h => by simp at h, by show p.pl + l ≤ p.pm + m; omega⟩
 ·cases h
theorem sumO_ok {a b v : KV} (ha : a.Ok) (hb : b.Ok) (h : sumO a b = some v) : v.Ok := by
 unfold sumO at h
 split at h
 ·cases h
 ·unfold sumK at h
  split at h
  ·split at h
   ·cases h; exact numAdd_ok ha hb
   ·split at h
    ·rename_i hs; exact movedK_ok hb hs.1 h
    ·cases h
  ·split at h
   ·split at h
    ·rename_i hs; exact movedK_ok ha hs.1 h
    ·cases h
   ·cases h
theorem diffO_ok {a b v : KV} (ha : a.Ok) (hb : b.Ok) (h : diffO a b = some v) : v.Ok := by
 unfold diffO at h
 split at h
 ·cases h
 ·unfold differenceK at h
  split at h
  ·split at h
   ·cases h; exact numSub_ok ha hb
   ·split at h
    ·rename_i hs; exact movedK_ok ha (by have := hs.1; omega) h
    ·cases h
  ·split at h
   ·cases h
    have := ha.pp; have := hb.pp; have := ha.pl0; have := ha.pm1; have := hb.pl0; have := hb.pm1; have := ha.pl1; have := hb.pl1; have := ha.pm0; have := hb.pm0
    refine numV_ok ?_ ?_ ?_
    ·unfold apartL; split; exact Int.le_refl 0; rw [wrapU]; omega
    ·unfold apartL apartM; split; decide; rw [wrapU, wrapU]; omega
    ·unfold apartM; split; decide; rw [wrapU]; omega
   ·cases h
theorem firstV_ok : firstV.Ok := ⟨by decide, by decide, by decide, by decide, by decide, by decide, by decide, by decide, by decide, by decide, by decide, by decide, by decide, by decide⟩
theorem endV_ok : endV.Ok := ⟨by decide, by decide, by decide, by decide, by decide, by decide, by decide, by decide, by decide, by decide, by decide, by decide, by decide, by decide⟩
theorem stackV_ok : stackV.Ok := ⟨by decide, by decide, by decide, by decide, by decide, by decide, by decide, by decide, by decide, by decide, by decide, by decide, by decide, by decide⟩
theorem start_ok : KS.start.Ok := (((KS.Ok.set (s := KS.one0) ⟨zero_ok.v, zero_ok.f0, zero_ok.f1⟩ 1 firstV_ok).set 2 endV_ok).set 7 stackV_ok)
theorem shrinkK_ok {s : KS} (hs : s.Ok) : (shrinkK s).Ok := by
 have h1 : ({ shrK s 9 with frame := 0 } : KS).Ok := ⟨fun r hr => by show (if r < 9 ∧ shrC s r then kNone else s.v r).Ok; split; exact kNone_ok; exact hs.v r hr, Int.le_refl 0, (show ((0 : Int) ≤ 64) from by decide)⟩
 exact h1.set 0 (numV_ok (by decide) (by decide) (by decide))
theorem KV.or_ok {a b : KV} (ha : a.Ok) (hb : b.Ok) : (a.or b).Ok := by
 unfold KV.or
 split
 ·rename_i hk
  have := ha.nl0; have := ha.nl1; have := ha.nm0; have := ha.nm1; have := ha.nn; have := ha.pl0; have := ha.pl1; have := ha.pm0; have := ha.pm1; have := ha.pp
  have := hb.nl0; have := hb.nl1; have := hb.nm0; have := hb.nm1; have := hb.nn; have := hb.pl0; have := hb.pl1; have := hb.pm0; have := hb.pm1; have := hb.pp
  refine ⟨ha.k0, ha.k3, by show 0 ≤ min a.nl b.nl; omega, by show min a.nl b.nl < _; omega, by show 0 ≤ max a.nm b.nm; omega, by show max a.nm b.nm < _; omega, by show min a.nl b.nl ≤ max a.nm b.nm; omega, by show -1000 ≤ min a.pl b.pl; omega, by show min a.pl b.pl ≤ 1000; omega, by show -1000 ≤ max a.pm b.pm; omega, by show max a.pm b.pm ≤ 1000; omega, fun h => ?_, fun h => ?_, by show min a.pl b.pl ≤ max a.pm b.pm; omega⟩
  ·have h : (a.e && b.e) = true := h
   rw [Bool.and_eq_true] at h
   exact ha.e2 h.1
  ·have h : (a.e && b.e) = true := h
   rw [Bool.and_eq_true] at h
   have := ha.e64 h.1; have := hb.e64 h.2
   show max a.pm b.pm ≤ 64; omega
 ·exact kNone_ok
theorem KS.or_ok {s y : KS} (hs : s.Ok) (hy : y.Ok) : (s.or y).Ok := by
 unfold KS.or
 split
 ·have := hs.f0; have := hs.f1; have := hy.f0; have := hy.f1
  exact ⟨fun r hr => by show (if r < 9 then (s.v r).or (y.v r) else s.v r).Ok; rw [if_pos hr]; exact KV.or_ok (hs.v r hr) (hy.v r hr), by show 0 ≤ min s.frame y.frame; omega, by show min s.frame y.frame ≤ 64; omega⟩
 ·exact hy
theorem numW_bd (n : Int) : numW n = n % 18446744073709551616 := by
 unfold numW
 rw [wrapU]
 simp only [IntKind.wrap, IntKind.bits, IntKind.signed, Bool.true_and, decide_eq_true_eq, ge_iff_le]
 split <;> omega
theorem ahead_ok {s : KS} (hs : s.Ok) (a n : Int) : (s.ahead a n).Ok := by
 have e := numW_bd n
 have h : (s.toAt a).Ok := ⟨hs.v, hs.f0, hs.f1⟩
 exact h.set 8 (numV_ok (by rw [e]; omega) (Int.le_refl _) (by rw [e]; omega))
end Go.Proofs.YtoobileejdhikaaGreat

namespace Go.Proofs.YtoobileejdhikaaGreat
open Go.RowKit

theorem PI.r_lt {x : PI} (hc : x.c < 9) : x.r < 9 := by unfold PI.r secR; split <;> omega
theorem movL_ok {s a b : KS} {d r : Nat} (hs : s.Ok) (hr : r < 9) (h : movL s d r = some (a, b)) : a.Ok ∧ b.Ok := by
 unfold movL at h; split at h
 ·cases h
 ·cases h; exact ⟨hs.set d (hs.v r hr), zero_ok⟩
theorem addL_ok {s a b : KS} {d r : Nat} (hs : s.Ok) (hd : d < 9) (hr : r < 9) (h : addL s d r = some (a, b)) : a.Ok ∧ b.Ok := by
 unfold addL at h
 cases hv : sumO (s.v d) (s.v r) with
 | none => rw [hv] at h; cases h
 | some v => rw [hv] at h; cases h; exact ⟨hs.set d (sumO_ok (hs.v d hd) (hs.v r hr) hv), zero_ok⟩
theorem subL_ok {s a b : KS} {d r : Nat} (hs : s.Ok) (hd : d < 9) (hr : r < 9) (h : subL s d r = some (a, b)) : a.Ok ∧ b.Ok := by
 unfold subL at h
 cases hv : diffO (s.v d) (s.v r) with
 | none => rw [hv] at h; cases h
 | some v => rw [hv] at h; cases h; exact ⟨hs.set d (diffO_ok (hs.v d hd) (hs.v r hr) hv), zero_ok⟩
theorem numO_ok {f : KV → KV → Int × Int} (hf : SpanF f) {x : PI} {s a b : KS} (hs : s.Ok) (hd : x.d < 9) (hr : x.r < 9) (h : numO f x s = some (a, b)) : a.Ok ∧ b.Ok := by
 unfold numO numL at h; split at h
 ·cases h
  have := hf (s.v x.d) (s.v x.r) (hs.v _ hd) (hs.v _ hr)
  exact ⟨hs.set x.d (numV_ok this.1 this.2.1 this.2.2), zero_ok⟩
 ·cases h
theorem loadL_ok {s a b : KS} {d c : Nat} {of : Int} {z : Nat} (hz : z ≤ 8) (hs : s.Ok) (h : loadL s d c of z = some (a, b)) : a.Ok ∧ b.Ok := by
 unfold loadL at h; split at h
 ·cases h
  have h1 : (2 : Int) ^ (8 * z) = ((2 ^ (8 * z) : Nat) : Int) := by simp
  have h2 := Nat.two_pow_pos (8 * z)
  have h3 : 2 ^ (8 * z) ≤ 2 ^ 64 := Nat.pow_le_pow_right (by decide) (by omega)
  exact ⟨hs.set d (numV_ok (by decide) (by rw [h1]; omega) (by rw [h1]; omega)), zero_ok⟩
 ·cases h
theorem storeL_ok {s a b : KS} {d c : Nat} {of : Int} {z : Nat} (hs : s.Ok) (h : storeL s d c of z = some (a, b)) : a.Ok ∧ b.Ok := by
 unfold storeL at h; split at h
 ·split at h
  ·cases h; exact ⟨hs, zero_ok⟩
  ·cases h
 ·cases h
def RelF (f : KS → Nat → Nat → KS) : Prop := ∀ (s : KS) (a b : Nat), s.Ok → a < 9 → b < 9 → (s.v a).kind = (s.v b).kind → (f s a b).Ok
theorem rel_less : RelF lessK := fun _ _ _ hs ha hb hk => apartByK_ok hs ha hb (by decide) (by decide) hk
theorem rel_ng : RelF notGreaterK := fun _ _ _ hs ha hb hk => apartByK_ok hs ha hb (by decide) (by decide) hk
theorem rel_gt : RelF greaterK := fun _ _ _ hs ha hb hk => rel_less _ _ _ hs hb ha hk.symm
theorem rel_nl : RelF notLessK := fun _ _ _ hs ha hb hk => rel_ng _ _ _ hs hb ha hk.symm
theorem rel_eq : RelF equalK := fun _ _ _ hs ha hb hk => rel_nl _ _ _ (rel_ng _ _ _ hs ha hb hk) ha hb (apartByK_kind hk)
theorem rel_ne : RelF notEqualK := fun _ _ _ hs _ _ _ => hs
theorem cmpO_ok {P J : KS → Nat → Nat → KS} (hP : RelF P) (hJ : RelF J) {x : PI} {s a b : KS} (hs : s.Ok) (hd : x.d < 9) (hr : x.r < 9) (h : cmpO P J x s = some (a, b)) : a.Ok ∧ b.Ok := by
 unfold cmpO cmpL at h; split at h
 ·rename_i hk; cases h; exact ⟨hP _ _ _ hs hd hr hk.2.2, hJ _ _ _ hs hd hr hk.2.2⟩
 ·cases h
theorem callL_ok {s a b : KS} {n : Int} (hs : s.Ok) (h : callL s n = some (a, b)) : a.Ok ∧ b.Ok := by
 unfold callL at h
 split at h
 ·cases h; exact ⟨hs.set 0 firstV_ok, zero_ok⟩
 ·split at h
  ·cases h; exact ⟨hs.set 0 endV_ok, zero_ok⟩
  ·split at h
   ·cases h; exact ⟨shrinkK_ok hs, zero_ok⟩
   ·cases h
theorem exitL_eq {s a b : KS} (h : exitL s = some (a, b)) : a = KS.zero ∧ b = KS.zero := by
 unfold exitL at h; split at h
 ·cases h; exact ⟨rfl, rfl⟩
 ·cases h

theorem lookK_ok {x : PI} {s a b : KS} (hs : s.Ok) (hd : x.d < 9) (hc : x.c < 9) (h : lookK x s = some (a, b)) : a.Ok ∧ b.Ok := by
 have hr := PI.r_lt hc
 unfold lookK at h
 split at h
 all_goals first
  | exact movL_ok hs hr h
  | exact addL_ok hs hd hr h
  | exact subL_ok hs hd hr h
  | exact numO_ok sp_mul hs hd hr h
  | exact numO_ok sp_div hs hd hr h
  | exact numO_ok sp_mod hs hd hr h
  | exact numO_ok sp_and hs hd hr h
  | exact numO_ok sp_or hs hd hr h
  | exact numO_ok sp_xor hs hd hr h
  | exact numO_ok sp_shl hs hd hr h
  | exact numO_ok sp_shr hs hd hr h
  | exact loadL_ok (by decide) hs h
  | exact storeL_ok hs h
  | exact cmpO_ok rel_ne rel_eq hs hd hr h
  | exact cmpO_ok rel_eq rel_ne hs hd hr h
  | exact cmpO_ok rel_ng rel_gt hs hd hr h
  | exact cmpO_ok rel_less rel_nl hs hd hr h
  | exact cmpO_ok rel_nl rel_less hs hd hr h
  | exact cmpO_ok rel_gt rel_ng hs hd hr h
  | exact callL_ok hs h
  | (obtain ⟨rfl, rfl⟩ := exitL_eq h; exact ⟨zero_ok, zero_ok⟩)
  | (cases h; exact ⟨zero_ok, hs⟩)
  | cases h
theorem storeL_b {s a b : KS} {d c : Nat} {of : Int} {z : Nat} (h : storeL s d c of z = some (a, b)) : b = KS.zero := by
 unfold storeL at h; split at h
 ·split at h
  ·cases h; rfl
  ·cases h
 ·cases h
theorem callL_b {s a b : KS} {n : Int} (h : callL s n = some (a, b)) : b = KS.zero := by
 unfold callL at h
 split at h
 ·cases h; rfl
 ·split at h
  ·cases h; rfl
  ·split at h
   ·cases h; rfl
   ·cases h
def jumps (op : Nat) : Bool := Nat.beq op 30 || (Nat.ble 31 op && Nat.ble op 36) || (Nat.ble 159 op && Nat.ble op 164)
theorem lookK_b {x : PI} {s a b : KS} (hj : jumps x.op = false) (h : lookK x s = some (a, b)) : b = KS.zero := by
 obtain ⟨op, d, c, of, n⟩ := x
 unfold lookK at h
 simp only at hj h
 split at h
 all_goals first
  | (exfalso; revert hj; decide)
  | (unfold movL at h; split at h <;> cases h <;> rfl)
  | (unfold addL at h; cases hv : sumO (s.v d) (s.v (PI.r ⟨_, d, c, of, n⟩)) <;> rw [hv] at h <;> cases h <;> rfl)
  | (unfold subL at h; cases hv : diffO (s.v d) (s.v (PI.r ⟨_, d, c, of, n⟩)) <;> rw [hv] at h <;> cases h <;> rfl)
  | (unfold numO numL at h; split at h <;> cases h <;> rfl)
  | (unfold loadL at h; split at h <;> cases h <;> rfl)
  | exact storeL_b h
  | exact callL_b h
  | exact (exitL_eq h).2
  | cases h
theorem lookK_exit {x : PI} {s a b : KS} (hx : x.op = 41) (h : lookK x s = some (a, b)) : a = KS.zero := by
 obtain ⟨op, d, c, of, n⟩ := x
 simp only at hx
 subst hx
 exact (exitL_eq h).1
end Go.Proofs.YtoobileejdhikaaGreat

namespace Go.Proofs.YtoobileejdhikaaGreat
open Go.RowKit

def safeR (I : Nat → PI) : Nat → Nat → (Nat → KS) → Option Nat
 | 0, _, _ => none
 | m + 1, i, st =>
  if (st i).reached then
   (match lookK (I i) ((st i).ahead i (I i).n) with
    | none => some i
    | some (a, b) => safeR I m (i + 1) (meetK (meetK st (i + 1) a) (i + 1 + (I i).of.toNat) b))
  else safeR I m (i + 1) st
def st0 : Nat → KS := fun i => if i = 0 then KS.start else KS.zero
def safeP (I : Nat → PI) (n : Nat) : Option Nat := safeR I n 0 st0
theorem safeR_skip {I : Nat → PI} {m i : Nat} {st : Nat → KS} (h : (st i).reached = false) : safeR I (m + 1) i st = safeR I m (i + 1) st := by
 show (if (st i).reached then _ else _) = _; rw [h]; rfl
theorem safeR_none {I : Nat → PI} {m i : Nat} {st : Nat → KS} (h : (st i).reached = true) (hl : lookK (I i) ((st i).ahead i (I i).n) = none) : safeR I (m + 1) i st = some i := by
 show (if (st i).reached then _ else _) = _; rw [h, hl]; rfl
theorem safeR_some {I : Nat → PI} {m i : Nat} {st : Nat → KS} {a b : KS} (h : (st i).reached = true) (hl : lookK (I i) ((st i).ahead i (I i).n) = some (a, b)) :
  safeR I (m + 1) i st = safeR I m (i + 1) (meetK (meetK st (i + 1) a) (i + 1 + (I i).of.toNat) b) := by
 show (if (st i).reached then _ else _) = _; rw [h, hl]; rfl
def StOk (st : Nat → KS) : Prop := ∀ i, (st i).Ok
theorem st0_ok : StOk st0 := fun i => by unfold st0; split; exact start_ok; exact zero_ok
theorem meetK_ok {st : Nat → KS} (h : StOk st) {s : KS} (hs : s.Ok) (i : Nat) : StOk (meetK st i s) := fun j => by
 unfold meetK
 split
 ·show (if j = i then (st i).or s else st j).Ok
  split
  ·exact KS.or_ok (h i) hs
  ·exact h j
 ·exact h j
theorem safeR_lt {I : Nat → PI} : ∀ (m i : Nat) (st : Nat → KS) (k : Nat), safeR I m i st = some k → i ≤ k ∧ k < i + m
 | 0, _, _, _, h => by cases h
 | m + 1, i, st, k, h => by
  cases hr : (st i).reached
  ·rw [safeR_skip hr] at h
   have := safeR_lt m (i + 1) st k h
   omega
  ·cases hl : lookK (I i) ((st i).ahead i (I i).n) with
   | none => rw [safeR_none hr hl] at h; cases h; omega
   | some ab =>
    obtain ⟨a, b⟩ := ab
    rw [safeR_some hr hl] at h
    have := safeR_lt m (i + 1) _ k h
    omega

theorem tabRows_fit (p : Nat → Nat) : ∀ (n i k : Nat), k < n → (tabRows p n i)[3 * k]? = some (fitAt (i + k))
 | 0, _, _, h => by omega
 | n + 1, i, 0, _ => rfl
 | n + 1, i, k + 1, h => by
  show (fitAt i :: lookAt p i :: doAt p i :: tabRows p n (i + 1))[3 * (k + 1)]? = _
  rw [show 3 * (k + 1) = 3 * k + 1 + 1 + 1 from by omega, List.getElem?_cons_succ, List.getElem?_cons_succ, List.getElem?_cons_succ, tabRows_fit p n (i + 1) k (by omega), show i + 1 + k = i + (k + 1) from by omega]
theorem tabRows_look (p : Nat → Nat) : ∀ (n i k : Nat), k < n → (tabRows p n i)[3 * k + 1]? = some (lookAt p (i + k))
 | 0, _, _, h => by omega
 | n + 1, i, 0, _ => rfl
 | n + 1, i, k + 1, h => by
  show (fitAt i :: lookAt p i :: doAt p i :: tabRows p n (i + 1))[3 * (k + 1) + 1]? = _
  rw [show 3 * (k + 1) + 1 = 3 * k + 1 + 1 + 1 + 1 from by omega, List.getElem?_cons_succ, List.getElem?_cons_succ, List.getElem?_cons_succ, tabRows_look p n (i + 1) k (by omega), show i + 1 + k = i + (k + 1) from by omega]
theorem tabRows_do (p : Nat → Nat) : ∀ (n i k : Nat), k < n → (tabRows p n i)[3 * k + 2]? = some (doAt p (i + k))
 | 0, _, _, h => by omega
 | n + 1, i, 0, _ => rfl
 | n + 1, i, k + 1, h => by
  show (fitAt i :: lookAt p i :: doAt p i :: tabRows p n (i + 1))[3 * (k + 1) + 2]? = _
  rw [show 3 * (k + 1) + 2 = 3 * k + 2 + 1 + 1 + 1 from by omega, List.getElem?_cons_succ, List.getElem?_cons_succ, List.getElem?_cons_succ, tabRows_do p n (i + 1) k (by omega), show i + 1 + k = i + (k + 1) from by omega]
theorem tabP_fit (p : Nat → Nat) (k : Nat) (h : k < 256) : (tabP p)[3 * k]? = some (fitAt k) := by
 have := tabRows_fit p 256 0 k h
 rw [Nat.zero_add] at this
 unfold tabP; simpa using this
theorem tabP_look (p : Nat → Nat) (k : Nat) (h : k < 256) : (tabP p)[3 * k + 1]? = some (lookAt p k) := by
 have := tabRows_look p 256 0 k h
 rw [Nat.zero_add] at this
 unfold tabP; simpa using this
theorem tabP_do (p : Nat → Nat) (k : Nat) (h : k < 256) : (tabP p)[3 * k + 2]? = some (doAt p k) := by
 have := tabRows_do p 256 0 k h
 rw [Nat.zero_add] at this
 unfold tabP; simpa using this

theorem StAt.made {w : World} {base g n : Nat} (h : w.ownsRow base 117 57 (.slice (some ⟨g, 0, none⟩) n n) n (madeCells KS.zero.cells (n * 57)).toList) (hn : 0 < n) : StAt w g n (fun _ => KS.zero) := by
 obtain ⟨hl, h1 | ⟨g', cap, cur, e, _, hb, _, _, hs, ht⟩⟩ := h
 ·exact absurd h1.2 (by omega)
 ·simp only [Value.slice.injEq, Option.some.injEq, Addr.mk.injEq] at e
  obtain ⟨⟨rfl, _⟩, _, rfl⟩ := e
  have hc : ∀ k, w.cell? ⟨g, k, none⟩ = cur[k]? := fun k => cell_of_row w g k cur _ _ hb
  have hcur : ∀ i j, i < n → j < 57 → cur[i * 57 + j]? = KS.zero.cells[j]? := fun i j hi hj => by
   have h2 : i * 57 + j < n * 57 := by omega
   have h3 : cur[i * 57 + j]? = (cur.toList.take (n * 57))[i * 57 + j]? := by rw [List.getElem?_take_of_lt h2]; simp
   have h4 : KS.zero.cells.size = 57 := KS.size _
   have h5 : (i * 57 + j) % 57 = j := by omega
   rw [h3, ht]
   simp only [madeCells, Array.toList_map, Array.toList_range, List.getElem?_map, List.getElem?_range h2, Option.map_some, h4, h5]
   rw [getElem!_pos KS.zero.cells j (by omega), Array.getElem?_eq_getElem (by omega)]
  refine ⟨fun i hi j v hv => ?_, fun i hi j hj => ⟨?_, frozen_of_row w g _ cur _ hb⟩, (Array.getElem?_eq_some_iff.1 hb).1⟩
  ·have hj : j < 57 := by have := (List.getElem?_eq_some_iff.1 hv).1; rw [KS.length] at this; exact this
   rw [hc, hcur i j hi hj, cells_list]; exact hv
  ·have h4 : KS.zero.cells.size = 57 := KS.size _
   rw [hc, hcur i j hi hj, Array.getElem?_eq_getElem (by omega)]; rfl
end Go.Proofs.YtoobileejdhikaaGreat
