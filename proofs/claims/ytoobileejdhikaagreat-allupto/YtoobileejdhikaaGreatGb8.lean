/-
  The program's Safe: the look goes through code of a right shape.
-/
import Derived.Test.YtoobileejdhikaaGreatGa0
import Derived.Test.YtoobileejdhikaaGreatGb7
import Derived.Deep.DeepCutAuto
namespace Go.Proofs.YtoobileejdhikaaGreat
set_option maxRecDepth 100000
set_option maxHeartbeats 8000000
open Go.RowKit
attribute [local go_sem ↓] Go.wp_at_zero Go.wp_at_succ

theorem infoState : (Tryz.prog.info? 117).map (fun i => (i.zero, i.size, i.bytes)) = some (some (.agg KS.zero.cells), 57, 456) := by kernel_rfl
theorem wpO_allocK {o : Oper} {a : Act} {w : World} {K : Act → World → Prop} {Q : Exit → Act → World → Prop} (ho : o.op = .alloc 117)
  (h : ∀ (W' : World) (P : Nat), KAt W' P KS.zero → P = w.heap.size → Below w.heap.size w W' → K (a.put o.dst (.pointer (some ⟨P, 0, none⟩))) W') : o.wp Tryz.prog a w K Q := by
 have hz := zeroK
 unfold Oper.wp execOp
 simp only [ho]
 have := h (w.alloc (.cells KS.zero.cells 117)) w.heap.size ⟨heap_alloc_new w _⟩ rfl ((Below.refl _ _).alloc (Nat.le_refl _) _)
 simp [go_sem, hz]
 exact this
theorem wpO_allocKd (d : Nat) {o : Oper} {a : Act} {w : World} {K : Act → World → Prop} {Q : Exit → Act → World → Prop} (ho : o.op = .alloc 117) (hd : o.dst = some d)
  (h : ∀ (W' : World) (P : Nat), KAt W' P KS.zero → P = w.heap.size → Below w.heap.size w W' → K (a.put (some d) (.pointer (some ⟨P, 0, none⟩))) W') : o.wp Tryz.prog a w K Q :=
 wpO_allocK ho (by rw [hd]; exact h)
structure PI.Right (x : PI) (i n : Nat) : Prop where
 op : x.op < 256
 d : x.d < 9
 c : x.c < 9
 n1 : -2147483648 ≤ x.n
 n2 : x.n ≤ 2147483647
 o1 : -32768 ≤ x.of
 o2 : x.of ≤ 32767
 jmp : jumps x.op = true → 0 ≤ x.of ∧ x.of < (n : Int) - 1 - i
 last : x.op ≠ 41 → i + 1 < n
 look : ∀ (p : Nat → Nat) (s : KS) (W : World), (∀ k, k < 88 → W.cell? ⟨p k, 0, none⟩ = some (boxV k)) → s.Ok → Looks p x s W
structure Env (p : Nat → Nat) (T gl n : Nat) (I : Nat → PI) (W : World) : Prop where
 row : W.heap[T]? = some (.cells (tabP p) 105)
 li : ∀ i, i < n → W.cell? ⟨gl, i * 5, none⟩ = some (.int .u8 (I i).op) ∧ W.cell? ⟨gl, i * 5 + 1, none⟩ = some (.int .u8 (I i).d) ∧ W.cell? ⟨gl, i * 5 + 2, none⟩ = some (.int .u8 (I i).c) ∧ W.cell? ⟨gl, i * 5 + 3, none⟩ = some (.int .i16 (I i).of) ∧ W.cell? ⟨gl, i * 5 + 4, none⟩ = some (.int .i32 (I i).n)
 bx : ∀ k, k < 88 → W.cell? ⟨p k, 0, none⟩ = some (boxV k)
theorem Env.keep {p : Nat → Nat} {T gl n : Nat} {I : Nat → PI} {W W' : World} (h : Env p T gl n I W) (hb : Below W.heap.size W W') : Env p T gl n I W' :=
 ⟨(hb.block T (Array.getElem?_eq_some_iff.1 h.row).1).trans h.row, fun i hi => ⟨cellKeep hb (h.li i hi).1, cellKeep hb (h.li i hi).2.1, cellKeep hb (h.li i hi).2.2.1, cellKeep hb (h.li i hi).2.2.2.1, cellKeep hb (h.li i hi).2.2.2.2⟩, fun k hk => cellKeep hb (h.bx k hk)⟩
theorem Env.tc {p : Nat → Nat} {T gl n : Nat} {I : Nat → PI} {W W' : World} (h : Env p T gl n I W) {G : Nat} (hb : Tc G W W') (h1 : T ≠ G) (h2 : gl ≠ G) (h3 : ∀ k, k < 88 → p k ≠ G) : Env p T gl n I W' :=
 ⟨(hb.block T (Array.getElem?_eq_some_iff.1 h.row).1 h1).trans h.row, fun i hi => ⟨hb.cell h2 (h.li i hi).1, hb.cell h2 (h.li i hi).2.1, hb.cell h2 (h.li i hi).2.2.1, hb.cell h2 (h.li i hi).2.2.2.1, hb.cell h2 (h.li i hi).2.2.2.2⟩, fun k hk => hb.cell (h3 k hk) (h.bx k hk)⟩
theorem Looks.use {p : Nat → Nat} {x : PI} {s : KS} {W : World} {F : Nat} {caps : Array Value} (h : Looks p x s W) (e : lookAt p x.op = .func (.func F) #[] caps) :
  Calls Tryz.prog F (#[x.val, .agg s.cells] ++ caps) W fun e w' => e = lkEnd (lookK x s) s.at1 ∧ Below W.heap.size W w' := by
 obtain ⟨F', c', e', _, h⟩ := h
 rw [e] at e'
 simp only [Value.func.injEq, Fn.func.injEq, true_and] at e'
 obtain ⟨rfl, rfl⟩ := e'
 exact h
theorem yieldsSt {ops : Array Oper} {S : World → Prop} {op : Oper} {a : Act} (hw : Region.wanted op (yielded ops a.tmps) = true) (x : Operand) (ho : op.op = .load 117 x)
  (b o : Nat) (hx : a.eval x = .pointer (some ⟨b, o, none⟩)) (s : KS) (hS : ∀ w, S w → w.rangeAt b o s.list) : YieldsIf Tryz.prog ops S op (.agg s.cells) a := by
 have := yieldsIf_load_mid (P := Tryz.prog) (S := S) hw _ x ho b o hx s.list _ hS Tryz.underlying117 rfl (infoKl s)
 rwa [list_cells] at this
theorem meetK_no {st : Nat → KS} {i : Nat} {s : KS} (h : s.reached = false) : meetK st i s = st := by unfold meetK; rw [h]; rfl
theorem StAt.rowAway {w : World} {g n : Nat} {st : Nat → KS} (h : StAt w g n st) {b : Nat} (hb : b ≠ g) (cs : Array Value) : StAt (w.setRow b cs) g n st :=
 h.same (setRow_other w b g cs (Ne.symm hb)) (by simp)
theorem meet_no (a : Option Addr) (n c : Nat) (i : Int) (s : KS) (w : World) (hr : s.reached = false) :
  Calls Tryz.prog 62 #[.slice a n c, .int .i64 i, .agg s.cells] w fun e w' => e = .returned (.tuple #[]) ∧ Below w.heap.size w w' := by
 have hr0 : s.cells[0]? = some (.bool false) := by rw [← hr]; exact at_reached s
 go_enter Tryz.func62, Tryz.ntmps62
 go_wp2
 go_end0
 exact ⟨rfl, (Below.refl _ _).alloc (Nat.le_refl _) _⟩
def safeEnd (r : Option Nat) : Ending := match r with
 | none => .returned (.tuple #[])
 | some i => .panicked (thrown 3 i)

theorem safe_any (I : Nat → PI) (gl cp n : Nat) (w : World) (hn1 : 1 ≤ n) (hn2 : n ≤ 64) (hcp : n ≤ cp) (hcm : cp ≤ 9223372036854775807) (hR : ∀ i, i < n → (I i).Right i n) (hI : ∀ i, i < n → w.cell? ⟨gl, i * 5, none⟩ = some (.int .u8 (I i).op) ∧ w.cell? ⟨gl, i * 5 + 1, none⟩ = some (.int .u8 (I i).d) ∧ w.cell? ⟨gl, i * 5 + 2, none⟩ = some (.int .u8 (I i).c) ∧ w.cell? ⟨gl, i * 5 + 3, none⟩ = some (.int .i16 (I i).of) ∧ w.cell? ⟨gl, i * 5 + 4, none⟩ = some (.int .i32 (I i).n)) :
  Calls Tryz.prog 35 #[.slice (some ⟨gl, 0, none⟩) n cp] w fun e w' => e = safeEnd (safeP I n) ∧ Below w.heap.size w w' := by
 obtain ⟨i0, hi, hz0, hz1, hz2⟩ := info_parts infoState
 have hzT := zeroT
 have HR := hideK hR
 have HI := hideK hI
 have lgl : gl < w.heap.size := block_lt_of_cell (hI 0 (by omega)).1
 clear hR hI
 go_enter Tryz.func35, Tryz.ntmps35
 go_wp2_with fail
 refine (table_any _).mono ?_
 rintro e w1 ⟨p, rfl, hbx, hb1⟩
 have HBX := hideK hbx
 clear hbx
 go_wp2_with (first | (refine wpList_store_row rfl 105 _ _ rfl w1.heap.size (tabP p) rfl rfl 105 zeros768 (heap_alloc_new w1 _) (by kernel_rfl) (by kernel_rfl) (by kernel_rfl) ?_) | (refine wpList_make_full _ rfl _ _ 107 rfl w.heap.size 117 i0 _ 57 Tryz.underlying107 hi hz0 hz1 .i64 .i64 _ _ n rfl rfl rfl rfl (by rw [hz2]; omega) (by unfold maxLen; omega) (by have := hb1.size; simp; omega) ?_; intro W2 hown hgrow; have hb2 : Below w.heap.size w W2 := ((below_setRowK (hb1.alloc hb1.size (Obj.cells zeros768 105)) hb1.size (tabP p))).grown hgrow (by have := hb1.size; simp; omega) (fun k hk => by simp at hk)))
 have eS : ((w1.alloc (Obj.cells zeros768 105)).setRow w1.heap.size (tabP p)).heap.size = w1.heap.size + 1 := by simp
 rw [eS] at hown
 have kG := StAt.made hown (by omega)
 have hb12 : Below w1.heap.size w1 W2 := (below_setRowK ((Below.refl _ _).alloc (Nat.le_refl _) (Obj.cells zeros768 105)) (Nat.le_refl _) (tabP p)).grown hgrow (by rw [eS]; omega) (fun k hk => by simp at hk)
 have kT : W2.heap[w1.heap.size]? = some (.cells (tabP p) 105) := (hgrow.block _ (by rw [eS]; omega) (by simp)).trans (setRow_heap _ _ zeros768 _ _ _ (heap_alloc_new w1 _))
 have E2 : Env p w1.heap.size gl n I W2 := ⟨kT, fun i hi => by have h := HI.out i hi; exact ⟨(hb2.cell (by exact lgl)).trans h.1, (hb2.cell (by exact lgl)).trans h.2.1, (hb2.cell (by exact lgl)).trans h.2.2.1, (hb2.cell (by exact lgl)).trans h.2.2.2.1, (hb2.cell (by exact lgl)).trans h.2.2.2.2⟩, fun k hk => cellKeep hb12 (HBX.out k hk)⟩
 have nP : ∀ k, k < 88 → p k ≠ w1.heap.size + 1 := fun k hk => by have := block_lt_of_cell (HBX.out k hk); simp at this; omega
 have nL : gl ≠ w1.heap.size + 1 := by have := hb1.size; omega
 clear hown hgrow hb12 kT HBX HI hzT eS
 refine (start_any _).mono ?_
 rintro e W3 ⟨rfl, hb3⟩
 have kG := kG.keep hb3
 have E3 := E2.keep hb3
 have hB3 : Below w.heap.size w W3 := hb2.trans (hb3.mono hb2.size)
 clear E2 hb2 hb3
 have HE3 := hideK E3
 have HNP := hideK nP
 clear E3 nP
 go_wp2_with (refine wpList_store_mid rfl 117 _ _ rfl (w1.heap.size + 1) 0 KS.start.cells rfl rfl (by rw [KS.size]; have := kG.th 0 (by omega); simpa using this) (infoKs _) (KS.one _) ?_)
 have kG0 := kG.put 0 (by omega) KS.start
 rw [Nat.zero_mul] at kG0
 have t4 : Tc (w1.heap.size + 1) W3 (W3.setCells (w1.heap.size + 1) 0 KS.start.cells.toList) := (Tc.of_below (Below.refl _ _)).setCells kG.lt 0 _
 generalize hW4 : W3.setCells (w1.heap.size + 1) 0 KS.start.cells.toList = W4 at kG0 t4 ⊢
 clear hW4
 have HE4 := hideK (HE3.out.tc t4 (by omega) nL HNP.out)
 have hB4 : Below w.heap.size w W4 := hB3.trans (t4.below (by have := hb1.size; omega) hB3.size)
 clear t4 kG HE3 hB3
 go_loopw [17] (fun c wr => ∃ (k : Nat) (st : Nat → KS), k ≤ n ∧ c = .int .i64 k ∧ StAt wr (w1.heap.size + 1) n st ∧ StOk st ∧ Hid (safeR I (n - k) k st = safeP I n) ∧ Hid (Env p w1.heap.size gl n I wr) ∧ Below w.heap.size w wr) (fun c _ => n - (intOf c).toNat)
 case atStart => exact ⟨0, st0, by omega, rfl, kG0, st0_ok, hideK rfl, HE4, hB4⟩
 case round =>
  obtain ⟨k, st, hk, rfl, kG, ok, HS, HE, hb⟩ := hrel
  clear kG0 HE4 hB4
  by_cases hlt : k < n
  ·have i1 : (0 : Int) ≤ (k : Int) := by omega
   have i2 : (k : Int) < (n : Int) := by omega
   have hR := HR.out k hlt
   have l0 := (HE.out.li k hlt).1
   have l1 := (HE.out.li k hlt).2.1
   have l2 := (HE.out.li k hlt).2.2.1
   have l3 := (HE.out.li k hlt).2.2.2.1
   have l4 := (HE.out.li k hlt).2.2.2.2
   have r0 : ∀ X, (wr.alloc X).cell? ⟨w1.heap.size + 1, k * 57, none⟩ = some (.bool (st k).reached) := fun X => cellAlloc X (by have := kG.rg k hlt 0 (.bool (st k).reached) rfl; simpa using this)
   have ng : ¬ wr.heap.size = w1.heap.size + 1 := Nat.ne_of_gt kG.lt
   have HKG := hideK kG
   cases hr : (st k).reached
   ·rw [hr] at r0
    have HR2 := hideK hR
    clear hR
    go_wp2
    go_roundw
    case rel => exact ⟨k + 1, st, by omega, by go_num, HKG.out.alloc _, ok, hideK (by have := HS.out; rw [show n - k = n - (k + 1) + 1 from by omega, safeR_skip hr] at this; exact this), hideK (HE.out.keep ((Below.refl _ _).alloc (Nat.le_refl _) _)), hb.alloc hb.size _⟩
    case measure => simp [intOf]; omega
   ·rw [hr] at r0
    go_upto_region 7 with fail
    clear r0
    generalize hV : wr.alloc (Obj.cells #[Value.int IntKind.u8 (I k).op, Value.int IntKind.u8 (I k).d, Value.int IntKind.u8 (I k).c, Value.int IntKind.i16 (I k).of, Value.int IntKind.i32 (I k).n] 121) = V0
    have b0 : V0.cell? ⟨wr.heap.size, 0, none⟩ = some (.int .u8 (I k).op) := by subst hV; simp [go_sem]
    have b1 : V0.cell? ⟨wr.heap.size, 1, none⟩ = some (.int .u8 (I k).d) := by subst hV; simp [go_sem]
    have b2 : V0.cell? ⟨wr.heap.size, 2, none⟩ = some (.int .u8 (I k).c) := by subst hV; simp [go_sem]
    have b3 : V0.cell? ⟨wr.heap.size, 3, none⟩ = some (.int .i16 (I k).of) := by subst hV; simp [go_sem]
    have b4 : V0.cell? ⟨wr.heap.size, 4, none⟩ = some (.int .i32 (I k).n) := by subst hV; simp [go_sem]
    have kV : StAt V0 (w1.heap.size + 1) n st := by subst hV; exact HKG.out.alloc _
    have EV : Env p (w1.heap.size) gl n I V0 := by subst hV; exact HE.out.keep ((Below.refl _ _).alloc (Nat.le_refl _) _)
    have hbV : Below w.heap.size w V0 := by subst hV; exact hb.alloc hb.size _
    have lBX : wr.heap.size < V0.heap.size := block_lt_of_cell b0
    have lTV := (Array.getElem?_eq_some_iff.1 EV.row).1
    have lGV := kV.lt
    clear hV
    have sok := ahead_ok (ok k) k (I k).n
    obtain ⟨F, caps, eL, eEn, _⟩ := hR.look p _ V0 EV.bx sok
    have tL : V0.cell? ⟨w1.heap.size, (I k).op * 3 + 1, none⟩ = some (.func (.func F) #[] caps) := by rw [cell_of_row V0 _ _ _ _ _ EV.row, Nat.mul_comm, tabP_look p _ hR.op, eL]
    have hop := hR.op
    have o0 : (0 : Int) ≤ ((I k).op : Int) := by omega
    have o1 : ((I k).op : Int) < 256 := by omega
    cases hl : lookK (I k) ((st k).ahead k (I k).n) with
    | none =>
     have hP : safeP I n = some k := by have := HS.out; rw [show n - k = n - (k + 1) + 1 from by omega, safeR_none hr hl] at this; exact this.symm
     have kV0 : True := trivial
     refine wp_region_held_drew (S := fun w' => w'.cell? ⟨wr.heap.size, 0, none⟩ = some (.int .u8 (I k).op) ∧ w'.cell? ⟨wr.heap.size, 1, none⟩ = some (.int .u8 (I k).d) ∧ w'.cell? ⟨wr.heap.size, 2, none⟩ = some (.int .u8 (I k).c) ∧ w'.cell? ⟨wr.heap.size, 3, none⟩ = some (.int .i16 (I k).of) ∧ w'.cell? ⟨wr.heap.size, 4, none⟩ = some (.int .i32 (I k).n) ∧ w'.cell? ⟨w1.heap.size, (I k).op * 3 + 1, none⟩ = some (.func (.func F) #[] caps) ∧ StAt w' (w1.heap.size + 1) n st ∧ Below V0.heap.size V0 w') (by kernel_rfl) ⟨b0, b1, b2, b3, b4, tL, kV.drew, (Below.refl _ _).drew⟩ (fun hHeld => ?_)
     refine tkH 0 ?_
     try simp only [Act.put]
     refine tkH 1 ?_
     try simp only [Act.put]
     refine tkH 2 ?_
     try simp only [Act.put]
     refine tkH 3 ?_
     try simp only [Act.put]
     refine tkH 4 ?_
     try simp only [Act.put]
     refine tkH 5 ?_
     try simp only [Act.put]
     refine tkH 6 ?_
     try simp only [Act.put]
     refine tkH 7 ?_
     try simp only [Act.put]
     refine tkH 8 ?_
     try simp only [Act.put]
     go_simp
     refine tkY 9 rfl (yieldsSt (by rfl) _ rfl (w1.heap.size + 1) (k * 57) rfl (st k) (fun w h => (h.2.2.2.2.2.2.1).rg k hlt)) ?_
     try simp only [Act.put]
     refine tkH 10 ?_
     try simp only [Act.put]
     refine tkH 11 ?_
     try simp only [Act.put]
     refine tkH 12 ?_
     try simp only [Act.put]
     go_simp
     iterate 4 (all_goals ((first | refine rdH3 13 18 19 (fun K hK => ?_) (fun K hK => ?_) (fun K hK => ?_) | refine rdH3 14 18 19 (fun K hK => ?_) (fun K hK => ?_) (fun K hK => ?_) | refine rdH2 13 18 (fun K hK => ?_) (fun K hK => ?_) | refine rdH2 13 19 (fun K hK => ?_) (fun K hK => ?_) | refine rdH2 14 18 (fun K hK => ?_) (fun K hK => ?_) | refine rdH2 14 19 (fun K hK => ?_) (fun K hK => ?_) | refine rdH1 13 (fun K hK => ?_) | refine rdH1 14 (fun K hK => ?_)) <;> (first | ((first | refine wpO_allocKd 6 rfl rfl (fun _ PA _ _ hbX => ?_) | refine wpO_allocKd 7 rfl rfl (fun _ PA _ _ hbX => ?_)); refine hK.out _ _ ⟨cellKeep hbX hHeld.1, cellKeep hbX hHeld.2.1, cellKeep hbX hHeld.2.2.1, cellKeep hbX hHeld.2.2.2.1, cellKeep hbX hHeld.2.2.2.2.1, cellKeep hbX hHeld.2.2.2.2.2.1, (hHeld.2.2.2.2.2.2.1).keep hbX, (hHeld.2.2.2.2.2.2.2).trans (hbX.mono (hHeld.2.2.2.2.2.2.2).size)⟩ (fun hHeld => ?_); clear hK K; (try simp only [Act.put]); clear hbX) | (go_simp; (with_reducible show Calls _ 61 _ _ _); refine (ahead_any (st k) k (I k).n _ hR.n1 hR.n2).mono ?_; rintro e W13 ⟨rfl, hbX⟩; (try have kA := kA.keep hbX); (try have kB := kB.keep hbX); go_wp2_with fail; refine hK.out _ _ ⟨cellKeep hbX hHeld.1, cellKeep hbX hHeld.2.1, cellKeep hbX hHeld.2.2.1, cellKeep hbX hHeld.2.2.2.1, cellKeep hbX hHeld.2.2.2.2.1, cellKeep hbX hHeld.2.2.2.2.2.1, (hHeld.2.2.2.2.2.2.1).keep hbX, (hHeld.2.2.2.2.2.2.2).trans (hbX.mono (hHeld.2.2.2.2.2.2.2).size)⟩ (fun hHeld => ?_); clear hK K; (try simp only [Act.put]); clear hbX) | (go_simp; refine (((hR.look p _ _ (EV.keep (Below.mono (hHeld.2.2.2.2.2.2.2) (Nat.le_refl _))).bx sok).use eL)).mono ?_; rintro e WX ⟨he, hbX⟩; rw [hl] at he; simp only [lkEnd] at he; subst he; go_simp; exact ⟨rfl, (by rw [hP]; rfl), (hbV.trans ((hHeld.2.2.2.2.2.2.2).mono hbV.size)).trans (hbX.mono (hbV.trans ((hHeld.2.2.2.2.2.2.2).mono hbV.size)).size)⟩))))
    | some ab =>
     obtain ⟨A, B⟩ := ab
     go_cut [6, 7] (fun p6 p7 wx => ∃ PA PB : Nat, p6 = .pointer (some ⟨PA, 0, none⟩) ∧ p7 = .pointer (some ⟨PB, 0, none⟩) ∧ KAt wx PA A ∧ KAt wx PB B ∧ V0.heap.size ≤ PA ∧ V0.heap.size ≤ PB ∧ StAt wx (w1.heap.size + 1) n st ∧ Below V0.heap.size V0 wx)
     case first =>
      have kV0 : True := trivial
      refine wp_region_held_drew (S := fun w' => w'.cell? ⟨wr.heap.size, 0, none⟩ = some (.int .u8 (I k).op) ∧ w'.cell? ⟨wr.heap.size, 1, none⟩ = some (.int .u8 (I k).d) ∧ w'.cell? ⟨wr.heap.size, 2, none⟩ = some (.int .u8 (I k).c) ∧ w'.cell? ⟨wr.heap.size, 3, none⟩ = some (.int .i16 (I k).of) ∧ w'.cell? ⟨wr.heap.size, 4, none⟩ = some (.int .i32 (I k).n) ∧ w'.cell? ⟨w1.heap.size, (I k).op * 3 + 1, none⟩ = some (.func (.func F) #[] caps) ∧ StAt w' (w1.heap.size + 1) n st ∧ Below V0.heap.size V0 w') (by kernel_rfl) ⟨b0, b1, b2, b3, b4, tL, kV.drew, (Below.refl _ _).drew⟩ (fun hHeld => ?_)
      refine tkH 0 ?_
      try simp only [Act.put]
      refine tkH 1 ?_
      try simp only [Act.put]
      refine tkH 2 ?_
      try simp only [Act.put]
      refine tkH 3 ?_
      try simp only [Act.put]
      refine tkH 4 ?_
      try simp only [Act.put]
      refine tkH 5 ?_
      try simp only [Act.put]
      refine tkH 6 ?_
      try simp only [Act.put]
      refine tkH 7 ?_
      try simp only [Act.put]
      refine tkH 8 ?_
      try simp only [Act.put]
      go_simp
      refine tkY 9 rfl (yieldsSt (by rfl) _ rfl (w1.heap.size + 1) (k * 57) rfl (st k) (fun w h => (h.2.2.2.2.2.2.1).rg k hlt)) ?_
      try simp only [Act.put]
      refine tkH 10 ?_
      try simp only [Act.put]
      refine tkH 11 ?_
      try simp only [Act.put]
      refine tkH 12 ?_
      try simp only [Act.put]
      go_simp
      iterate 6 (all_goals ((first | refine rdH3 13 18 19 (fun K hK => ?_) (fun K hK => ?_) (fun K hK => ?_) | refine rdH3 14 18 19 (fun K hK => ?_) (fun K hK => ?_) (fun K hK => ?_) | refine rdH2 13 18 (fun K hK => ?_) (fun K hK => ?_) | refine rdH2 13 19 (fun K hK => ?_) (fun K hK => ?_) | refine rdH2 14 18 (fun K hK => ?_) (fun K hK => ?_) | refine rdH2 14 19 (fun K hK => ?_) (fun K hK => ?_) | refine rdH2 18 19 (fun K hK => ?_) (fun K hK => ?_) | refine rdH1 13 (fun K hK => ?_) | refine rdH1 14 (fun K hK => ?_) | refine rdH1 18 (fun K hK => ?_) | refine rdH1 19 (fun K hK => ?_) | refine rdH1 20 (fun K hK => ?_) | refine rdH1 21 (fun K hK => ?_)) <;> (first | (refine wpO_storeK _ _ rfl PA rfl A rfl _ kA ?_; refine hK.out _ _ ⟨cellRow (by omega) hHeld.1, cellRow (by omega) hHeld.2.1, cellRow (by omega) hHeld.2.2.1, cellRow (by omega) hHeld.2.2.2.1, cellRow (by omega) hHeld.2.2.2.2.1, cellRow (by omega) hHeld.2.2.2.2.2.1, (hHeld.2.2.2.2.2.2.1).rowAway (by omega) _, below_setRowK (hHeld.2.2.2.2.2.2.2) (by omega) _⟩ (fun hHeld => ?_); clear hK K; (try simp only [Act.put]); have kB := kB.rowAway (b := PA) (by omega) A.cells; have kA := kA.over A) | (refine wpO_storeK _ _ rfl PB rfl B rfl _ kB ?_; refine hK.out _ _ ⟨cellRow (by omega) hHeld.1, cellRow (by omega) hHeld.2.1, cellRow (by omega) hHeld.2.2.1, cellRow (by omega) hHeld.2.2.2.1, cellRow (by omega) hHeld.2.2.2.2.1, cellRow (by omega) hHeld.2.2.2.2.2.1, (hHeld.2.2.2.2.2.2.1).rowAway (by omega) _, below_setRowK (hHeld.2.2.2.2.2.2.2) (by omega) _⟩ (fun hHeld => ?_); clear hK K; (try simp only [Act.put]); have kA := kA.rowAway (b := PB) (by omega) B.cells; have kB := kB.over B) | (refine wpO_allocKd 6 rfl rfl (fun _ PA kA hPU hbX => ?_); have lPA : V0.heap.size ≤ PA := (by have := (hHeld.2.2.2.2.2.2.2).size; omega); (try have lO := kB.lt); (try have nAB : PA ≠ PB := (by omega)); (try clear lO); (try have kB := kB.keep hbX); refine hK.out _ _ ⟨cellKeep hbX hHeld.1, cellKeep hbX hHeld.2.1, cellKeep hbX hHeld.2.2.1, cellKeep hbX hHeld.2.2.2.1, cellKeep hbX hHeld.2.2.2.2.1, cellKeep hbX hHeld.2.2.2.2.2.1, (hHeld.2.2.2.2.2.2.1).keep hbX, (hHeld.2.2.2.2.2.2.2).trans (hbX.mono (hHeld.2.2.2.2.2.2.2).size)⟩ (fun hHeld => ?_); clear hK K; (try simp only [Act.put]); clear hPU hbX) | (refine wpO_allocKd 7 rfl rfl (fun _ PB kB hPU hbX => ?_); have lPB : V0.heap.size ≤ PB := (by have := (hHeld.2.2.2.2.2.2.2).size; omega); (try have lO := kA.lt); (try have nAB : PA ≠ PB := (by omega)); (try clear lO); (try have kA := kA.keep hbX); refine hK.out _ _ ⟨cellKeep hbX hHeld.1, cellKeep hbX hHeld.2.1, cellKeep hbX hHeld.2.2.1, cellKeep hbX hHeld.2.2.2.1, cellKeep hbX hHeld.2.2.2.2.1, cellKeep hbX hHeld.2.2.2.2.2.1, (hHeld.2.2.2.2.2.2.1).keep hbX, (hHeld.2.2.2.2.2.2.2).trans (hbX.mono (hHeld.2.2.2.2.2.2.2).size)⟩ (fun hHeld => ?_); clear hK K; (try simp only [Act.put]); clear hPU hbX) | (go_simp; (with_reducible show Calls _ 61 _ _ _); refine (ahead_any (st k) k (I k).n _ hR.n1 hR.n2).mono ?_; rintro e W13 ⟨rfl, hbX⟩; (try have kA := kA.keep hbX); (try have kB := kB.keep hbX); go_wp2_with fail; refine hK.out _ _ ⟨cellKeep hbX hHeld.1, cellKeep hbX hHeld.2.1, cellKeep hbX hHeld.2.2.1, cellKeep hbX hHeld.2.2.2.1, cellKeep hbX hHeld.2.2.2.2.1, cellKeep hbX hHeld.2.2.2.2.2.1, (hHeld.2.2.2.2.2.2.1).keep hbX, (hHeld.2.2.2.2.2.2.2).trans (hbX.mono (hHeld.2.2.2.2.2.2.2).size)⟩ (fun hHeld => ?_); clear hK K; (try simp only [Act.put]); clear hbX) | (go_simp; refine (((hR.look p _ _ (EV.keep (Below.mono (hHeld.2.2.2.2.2.2.2) (Nat.le_refl _))).bx sok).use eL)).mono ?_; rintro e WX ⟨he, hbX⟩; rw [hl] at he; simp only [lkEnd] at he; subst he; (try have kA := kA.keep hbX); (try have kB := kB.keep hbX); go_wp2_with fail; refine hK.out _ _ ⟨cellKeep hbX hHeld.1, cellKeep hbX hHeld.2.1, cellKeep hbX hHeld.2.2.1, cellKeep hbX hHeld.2.2.2.1, cellKeep hbX hHeld.2.2.2.2.1, cellKeep hbX hHeld.2.2.2.2.2.1, (hHeld.2.2.2.2.2.2.1).keep hbX, (hHeld.2.2.2.2.2.2.2).trans (hbX.mono (hHeld.2.2.2.2.2.2.2).size)⟩ (fun hHeld => ?_); clear hK K; (try simp only [Act.put]); clear hbX; refine tkH 15 ?_; (try simp only [Act.put]); refine tkH 16 ?_; (try simp only [Act.put]); refine tkH 17 ?_; (try simp only [Act.put]); go_simp))))
      all_goals (refine wpAnyH_done (by kernel_rfl) ?_ _; go_wp2_with fail; go_meet; case rel => exact ⟨PA, PB, rfl, rfl, kA, kB, lPA, lPB, hHeld.2.2.2.2.2.2.1, hHeld.2.2.2.2.2.2.2⟩)
     case rest =>
      obtain ⟨PA, PB, rfl, rfl, kA, kB, lPA, lPB, kG1, hb7⟩ := hcut
      have E7 := EV.keep hb7
      have c3 := cellKeep hb7 b3
      have hab := lookK_ok sok hR.d hR.c hl
      have hiA : A.reached = true → k + 1 < n := fun h => hR.last (fun e => by rw [lookK_exit e hl] at h; simp [KS.zero] at h)
      have C1 := fun W (h : StAt W (w1.heap.size + 1) n st) => meet_any (w1.heap.size + 1) n st (k + 1) A W h hn2 hiA (ok _).f0 (ok _).f1 hab.1.f0 hab.1.f1
      have eK : ((k + 1 : Nat) : Int) = (k : Int) + 1 := by omega
      rw [eK] at C1
      have HE7 := hideK E7
      have hB7 : Below w.heap.size w wc := hbV.trans (hb7.mono hbV.size)
      clear E7
      go_wp2_with (refine wpK_load rfl _ rfl PA rfl A kA ?_)
      refine (C1 _ kG1).mono ?_
      rintro e W8 ⟨rfl, kG8, t8⟩
      have kB8 : KAt W8 PB B := ⟨(t8.block PB kB.lt (by omega)).trans kB.row⟩
      have HE8 := hideK (HE7.out.tc t8 (by omega) nL HNP.out)
      have c3 := t8.cell (k := wr.heap.size) (by omega) c3
      have hB8 : Below w.heap.size w W8 := hB7.trans (t8.below (by have := hb1.size; omega) hB7.size)
      clear C1 t8 HE7 hB7 kA kB kG1
      have ok1 := meetK_ok ok hab.1 (k + 1)
      cases hrB : B.reached
      ·go_wp2_with (refine wpK_load rfl _ rfl PB rfl B kB8 ?_)
       refine (meet_no _ _ _ _ B _ hrB).mono ?_
       rintro e W9 ⟨rfl, hb9⟩
       have HE9 := hideK (HE8.out.keep hb9)
       have kG9 := kG8.keep hb9
       have hB9 := hB8.trans (hb9.mono hB8.size)
       go_wp2
       go_roundw
       case rel => exact ⟨k + 1, meetK st (k + 1) A, by omega, by go_num, kG9, ok1, hideK (by have := HS.out; rw [show n - k = n - (k + 1) + 1 from by omega, safeR_some hr hl, meetK_no hrB] at this; exact this), HE9, hB9⟩
       case measure => simp [intOf]; omega
      ·have hj : jumps (I k).op = true := by cases h : jumps (I k).op; (have := lookK_b h hl; rw [this] at hrB; simp [KS.zero] at hrB); rfl
       have hof := hR.jmp hj
       have eO : ((k + 1 + (I k).of.toNat : Nat) : Int) = (k : Int) + 1 + (I k).of := by omega
       have C2 := fun W (h : StAt W (w1.heap.size + 1) n (meetK st (k + 1) A)) => meet_any (w1.heap.size + 1) n (meetK st (k + 1) A) (k + 1 + (I k).of.toNat) B W h hn2 (fun _ => by omega) (ok1 _).f0 (ok1 _).f1 hab.2.f0 hab.2.f1
       rw [eO] at C2
       go_wp2_with (refine wpK_load rfl _ rfl PB rfl B kB8 ?_)
       refine (C2 _ kG8).mono ?_
       rintro e W9 ⟨rfl, kG9, t9⟩
       have HE9 := hideK (HE8.out.tc t9 (by omega) nL HNP.out)
       have hB9 : Below w.heap.size w W9 := hB8.trans (t9.below (by have := hb1.size; omega) hB8.size)
       go_wp2
       go_roundw
       case rel => exact ⟨k + 1, meetK (meetK st (k + 1) A) (k + 1 + (I k).of.toNat) B, by omega, by go_num, kG9, meetK_ok ok1 hab.2 _, hideK (by have := HS.out; rw [show n - k = n - (k + 1) + 1 from by omega, safeR_some hr hl] at this; exact this), HE9, hB9⟩
       case measure => simp [intOf]; omega
  ·have hkn : k = n := by omega
   subst hkn
   have hs := HS.out
   rw [Nat.sub_self] at hs
   go_wp2
   go_end0
   exact ⟨by rw [← hs]; rfl, hb⟩
end Go.Proofs.YtoobileejdhikaaGreat
