/-
  The document's machine: the operations Add to Shr (work).
  The document's machine: so many bytes are read (load).
  The document's machine: so many bytes are written (store).
  The document's machine: does a comparison hold (compares)?
  The document's machine: Shrink, First, Last (call).
  The document's machine, as plain functions: a step, a run; and what holds of the registers as long as it has not faulted.
-/
import Derived.Test.YtoobileejdhikaaGreatGf1
namespace Go.Proofs.YtoobileejdhikaaGreat
set_option maxRecDepth 100000
set_option maxHeartbeats 8000000
open Go.RowKit
attribute [local go_sem ↓] Go.wp_at_zero Go.wp_at_succ

def Mac.work (m : Mac) (x : RI) : Mac × V :=
 let a := m.regs x.dst
 let b := m.second x
 let m1 := m.may ((a.kind != 0) && (b.kind != 0))
 if a.kind = 1 ∧ b.kind = 1 then (m1, nV (numR x.op a.bits b.bits))
 else if x.op = 2 ∧ b.kind = 1 then m1.moved a b 1
 else if x.op = 2 ∧ a.kind = 1 then m1.moved b a 1
 else if x.op = 3 ∧ b.kind = 1 then m1.moved a b (-1)
 else if x.op = 3 ∧ a.kind = b.kind then (m1, nV (w64 (a.place - b.place)))
 else (m1.may false, a)

def vOk (v : V) : Prop := 0 ≤ v.bits ∧ v.bits < 18446744073709551616 ∧ -100000 ≤ v.place ∧ v.place ≤ 100000

structure Box3 (W : World) (b : Nat) (v : V) : Prop where
 ck : W.cell? ⟨b, 0, none⟩ = some (.int .i64 v.kind)
 cb : W.cell? ⟨b, 1, none⟩ = some (.int .u64 v.bits)
 cp : W.cell? ⟨b, 2, none⟩ = some (.int .i64 v.place)
 cz : ∀ o, W.frozen? ⟨b, o, none⟩ = false
 l : b < W.heap.size
structure Box6 (W : World) (b : Nat) (x : RI) : Prop where
 op : W.cell? ⟨b, 0, none⟩ = some (.int .i64 x.op)
 imm : W.cell? ⟨b, 1, none⟩ = some (.bool x.imm)
 dst : W.cell? ⟨b, 2, none⟩ = some (.int .i64 x.dst)
 src : W.cell? ⟨b, 3, none⟩ = some (.int .i64 x.src)
 off : W.cell? ⟨b, 4, none⟩ = some (.int .i64 x.off)
 num : W.cell? ⟨b, 5, none⟩ = some (.int .i64 x.num)
 l : b < W.heap.size
theorem Box3.same {W W' : World} {b : Nat} {v : V} (h : Box3 W b v) (hb : W'.heap[b]? = W.heap[b]?) (hs : W.heap.size ≤ W'.heap.size) : Box3 W' b v := by
 have c : ∀ o, W'.cell? ⟨b, o, none⟩ = W.cell? ⟨b, o, none⟩ := fun o => by simp [World.cell?, hb]
 exact ⟨(c _).trans h.ck, (c _).trans h.cb, (c _).trans h.cp, fun o => (World.frozen?_of_block hb).trans (h.cz o), Nat.lt_of_lt_of_le h.l hs⟩
theorem Box6.same {W W' : World} {b : Nat} {x : RI} (h : Box6 W b x) (hb : W'.heap[b]? = W.heap[b]?) (hs : W.heap.size ≤ W'.heap.size) : Box6 W' b x := by
 have c : ∀ o, W'.cell? ⟨b, o, none⟩ = W.cell? ⟨b, o, none⟩ := fun o => by simp [World.cell?, hb]
 exact ⟨(c _).trans h.op, (c _).trans h.imm, (c _).trans h.dst, (c _).trans h.src, (c _).trans h.off, (c _).trans h.num, Nat.lt_of_lt_of_le h.l hs⟩
theorem Box3.later {W W' : World} {b : Nat} {v : V} (h : Box3 W b v) (hb : Below W.heap.size W W') : Box3 W' b v := h.same (hb.block b h.l) hb.size
theorem Box6.later {W W' : World} {b : Nat} {x : RI} (h : Box6 W b x) (hb : Below W.heap.size W W') : Box6 W' b x := h.same (hb.block b h.l) hb.size
theorem Box3.tch {p g : Nat} {W W' : World} {b : Nat} {v : V} (h : Box3 W b v) (ht : Tch p g W W') (h1 : b ≠ p) (h2 : b ≠ g) : Box3 W' b v := h.same (ht.block b h.l h1 h2) ht.size
theorem Box6.tch {p g : Nat} {W W' : World} {b : Nat} {x : RI} (h : Box6 W b x) (ht : Tch p g W W') (h1 : b ≠ p) (h2 : b ≠ g) : Box6 W' b x := h.same (ht.block b h.l h1 h2) ht.size
theorem Box3.made (W : World) (v : V) : Box3 (W.alloc (.cells #[.int .i64 v.kind, .int .u64 v.bits, .int .i64 v.place] 85)) W.heap.size v :=
 ⟨by simp, by simp, by simp, fun o => World.frozen?_alloc_new _ _ _ _, by simp⟩
theorem Box6.made (W : World) (x : RI) : Box6 (W.alloc (.cells #[.int .i64 x.op, .bool x.imm, .int .i64 x.dst, .int .i64 x.src, .int .i64 x.off, .int .i64 x.num] 74)) W.heap.size x :=
 ⟨by simp, by simp, by simp, by simp, by simp, by simp, by simp⟩
theorem below_alloc (W : World) (o : Obj) : Below W.heap.size W (W.alloc o) := (Below.refl _ _).alloc (Nat.le_refl _) o

theorem work_made (w : World) (x : RI) (va : V) :
  let W := ((w.alloc (.cells #[.int .i64 x.op, .bool x.imm, .int .i64 x.dst, .int .i64 x.src, .int .i64 x.off, .int .i64 x.num] 74)).alloc (.cells #[.int .i64 0, .int .u64 0, .int .i64 0] 85)).alloc (.cells #[.int .i64 va.kind, .int .u64 va.bits, .int .i64 va.place] 85)
  Box6 W.drew w.heap.size x ∧ Box3 W.drew (w.heap.size + 1) vNone ∧ Box3 W.drew (w.heap.size + 1 + 1) va ∧ Below w.heap.size w W.drew := by
 intro W
 have b1 := Box6.made w x
 have b2 := Box3.made (w.alloc (.cells #[.int .i64 x.op, .bool x.imm, .int .i64 x.dst, .int .i64 x.src, .int .i64 x.off, .int .i64 x.num] 74)) vNone
 have b3 := Box3.made ((w.alloc (.cells #[.int .i64 x.op, .bool x.imm, .int .i64 x.dst, .int .i64 x.src, .int .i64 x.off, .int .i64 x.num] 74)).alloc (.cells #[.int .i64 0, .int .u64 0, .int .i64 0] 85)) va
 have s1 : ∀ o : Obj, (w.alloc o).heap.size = w.heap.size + 1 := fun o => by simp
 refine ⟨((b1.later (below_alloc _ _)).later (below_alloc _ _)).later (Below.refl _ _).drew, ?_, ?_, ?_⟩
 ·rw [s1] at b2
  exact (b2.later (below_alloc _ _)).later (Below.refl _ _).drew
 ·rw [show ((w.alloc (.cells #[.int .i64 x.op, .bool x.imm, .int .i64 x.dst, .int .i64 x.src, .int .i64 x.off, .int .i64 x.num] 74)).alloc (.cells #[.int .i64 0, .int .u64 0, .int .i64 0] 85)).heap.size = w.heap.size + 1 + 1 from by simp] at b3
  exact b3.later (Below.refl _ _).drew
 ·exact ((((Below.refl _ _).alloc (Nat.le_refl _) _).alloc (by simp) _).alloc (by simp; omega) _).drew

theorem numbers_keep (op a b : Int) (w : World) (h1 : 2 ≤ op) (h2 : op ≤ 11) (ha : 0 ≤ a) (hb : 0 ≤ b) (ha2 : a < 18446744073709551616) (hb2 : b < 18446744073709551616) :
  Calls Tryz.prog 72 #[.int .i64 op, .int .u64 a, .int .u64 b] w fun e w' => e = .returned (.int .u64 (numR op a b)) ∧ w = w' :=
 (numbers_any op a b w h1 h2 ha hb ha2 hb2).mono fun _ _ h => ⟨h.1, h.2.symm⟩

theorem work_any (p g s cap : Nat) (m : Mac) (x : RI) (w : World) (h : MacAt w p g s cap m) (hd : x.dst < 8) (hs : x.src < 8) (hop1 : 2 ≤ x.op) (hop2 : x.op ≤ 11) (hv : ∀ i, i < 8 → vOk (m.regs i)) :
  Calls Tryz.prog 50 #[.pointer (some ⟨p, 0, none⟩), .agg #[.int .i64 x.op, .bool x.imm, .int .i64 x.dst, .int .i64 x.src, .int .i64 x.off, .int .i64 x.num]] w fun e w' =>
   e = .returned (.agg #[.int .i64 (m.work x).2.kind, .int .u64 (m.work x).2.bits, .int .i64 (m.work x).2.place]) ∧ MacAt w' p g s cap (m.work x).1 ∧ Tch p g w w' := by
 have HM := hideM h
 have hva := hv x.dst hd
 have hvb : vOk (m.second x) := by
  unfold Mac.second
  split
  ·refine ⟨?_, ?_, ?_, ?_⟩ <;> simp only [nV, w64_eq] <;> omega
  ·exact hv x.src hs
 have HVA := hideM hva
 have HVB := hideM hvb
 have HVV := hideM hv
 clear hva hvb hv
 obtain ⟨op, imm, dst, src, off, num⟩ := x
 simp only at hd hs hop1 hop2 HVA
 have k0 := h.k dst hd
 have k1 := h.b dst hd
 have k2 := h.pl dst hd
 have lp := h.lp
 have lg := h.lg
 have hne : ¬ w.heap.size = p := by omega
 have hne1 : ¬ w.heap.size + 1 = p := by omega
 have hne2 : ¬ w.heap.size + 1 + 1 = p := by omega
 have i1 : (0 : Int) ≤ (dst : Int) := by omega
 have i2 : (dst : Int) < 8 := by omega
 clear h
 have HD : Hid (m.regs dst = m.regs dst) := rfl
 generalize hva : m.regs dst = va at k0 k1 k2
 have HVa := hideM hva
 clear hva HD
 have K0 : ∀ A B C : Obj, (((w.alloc A).alloc B).alloc C).cell? ⟨p, dst * 3, none⟩ = some (.int .i64 va.kind) := fun A B C => by
  rw [World.cell?_alloc_past _ _ _ (by simp; omega), World.cell?_alloc_past _ _ _ (by simp; omega), World.cell?_alloc_past _ _ _ (by omega)]; exact k0
 have K1 : ∀ A B C : Obj, (((w.alloc A).alloc B).alloc C).cell? ⟨p, dst * 3 + 1, none⟩ = some (.int .u64 va.bits) := fun A B C => by
  rw [World.cell?_alloc_past _ _ _ (by simp; omega), World.cell?_alloc_past _ _ _ (by simp; omega), World.cell?_alloc_past _ _ _ (by omega)]; exact k1
 have K2 : ∀ A B C : Obj, (((w.alloc A).alloc B).alloc C).cell? ⟨p, dst * 3 + 2, none⟩ = some (.int .i64 va.place) := fun A B C => by
  rw [World.cell?_alloc_past _ _ _ (by simp; omega), World.cell?_alloc_past _ _ _ (by simp; omega), World.cell?_alloc_past _ _ _ (by omega)]; exact k2
 go_enter Tryz.func50, Tryz.ntmps50
 go_wp2
 go_region_held3 (fun w' => w'.cell? ⟨w.heap.size, 2, none⟩ = some (.int .i64 dst) ∧ w'.cell? ⟨p, dst * 3, none⟩ = some (.int .i64 va.kind) ∧ w'.cell? ⟨p, dst * 3 + 1, none⟩ = some (.int .u64 va.bits) ∧ w'.cell? ⟨p, dst * 3 + 2, none⟩ = some (.int .i64 va.place)) (go_keep) (fail)
 all_goals go_wp2_with fail
 have hW := work_made w ⟨op, imm, dst, src, off, num⟩ va
 simp only at hW
 generalize (((w.alloc (Obj.cells #[.int .i64 op, .bool imm, .int .i64 dst, .int .i64 src, .int .i64 off, .int .i64 num] 74)).alloc (Obj.cells #[.int .i64 0, .int .u64 0, .int .i64 0] 85)).alloc
    (Obj.cells #[.int .i64 va.kind, .int .u64 va.bits, .int .i64 va.place] 85)).drew = W3 at hW ⊢
 obtain ⟨x3, r3, a3, bel3⟩ := hW
 have M3 := HM.out.later bel3
 clear K0 K1 K2 k0 k1 k2
 refine (second_any p g s cap m ⟨op, imm, dst, src, off, num⟩ W3 M3 hs).mono ?_
 rintro e w4 ⟨rfl, bel4⟩
 generalize hvb : m.second ⟨op, imm, dst, src, off, num⟩ = vb at HVB ⊢
 have HVb := hideM hvb
 clear hvb
 have x4 := x3.later bel4
 have r4 := r3.later bel4
 have a4 := a3.later bel4
 have M4 := M3.later bel4
 have s4 := bel3.size
 have s5 := bel4.size
 have s6 := a3.l
 go_upto_region 3 with fail
 have b5 := Box3.made w4 vb
 have x5 := x4.later (below_alloc w4 (Obj.cells #[.int .i64 vb.kind, .int .u64 vb.bits, .int .i64 vb.place] 85))
 have r5 := r4.later (below_alloc w4 (Obj.cells #[.int .i64 vb.kind, .int .u64 vb.bits, .int .i64 vb.place] 85))
 have a5 := a4.later (below_alloc w4 (Obj.cells #[.int .i64 vb.kind, .int .u64 vb.bits, .int .i64 vb.place] 85))
 have M5 := M4.later (below_alloc w4 (Obj.cells #[.int .i64 vb.kind, .int .u64 vb.bits, .int .i64 vb.place] 85))
 have t5 : Tch p g w (w4.alloc (Obj.cells #[.int .i64 vb.kind, .int .u64 vb.bits, .int .i64 vb.place] 85)) := ((Tch.of_below bel3).trans (Tch.of_below bel4)).trans (Tch.of_below (below_alloc _ _))
 generalize w4.alloc (Obj.cells #[.int .i64 vb.kind, .int .u64 vb.bits, .int .i64 vb.place] 85) = W5 at b5 x5 r5 a5 M5 t5 ⊢
 have q0 : w.heap.size + 1 + 1 < w4.heap.size := by omega
 generalize w4.heap.size = B4 at b5 q0 ⊢
 clear x3 r3 a3 M3 bel3 x4 r4 a4 M4 bel4 s4 s5 s6
 have a5k := a5.ck
 have b5k := b5.ck
 have HM5 := hideM M5
 have HX5 := hideM x5
 have HR5 := hideM r5
 have HA5 := hideM a5
 have HB5 := hideM b5
 have HT5 := hideM t5
 clear M5 x5 r5 a5 b5 t5
 go_cut [] (fun wc => MacAt wc p g s cap (m.may ((va.kind != 0) && (vb.kind != 0))) ∧ Tch p g W5 wc)
 case first =>
  cases h0 : (va.kind != 0)
  all_goals
   go_wp2_with (go_at_call 49; refine (may_any p g s cap m _ _ HM5.out).mono ?_; rintro e w' ⟨rfl, hm', ht'⟩)
   go_meet
   case rel => exact ⟨by simpa [h0] using hm', ht'⟩
 case rest =>
  obtain ⟨hm6, ht6⟩ := hcut
  clear a5k b5k
  have x6 := HX5.out.tch ht6 (by omega) (by omega)
  have r6 := HR5.out.tch ht6 (by omega) (by omega)
  have a6 := HA5.out.tch ht6 (by omega) (by omega)
  have b6 := HB5.out.tch ht6 (by omega) (by omega)
  have t6 := HT5.out.trans ht6
  clear HX5 HR5 HA5 HB5 HT5 HM5 ht6
  have fx := x6.op
  have fa0 := a6.ck
  have fa1 := a6.cb
  have fa2 := a6.cp
  have fb0 := b6.ck
  have fb1 := b6.cb
  have fb2 := b6.cp
  have fr0 := r6.ck
  have fr1 := r6.cb
  have fr2 := r6.cp
  have fz := r6.cz
  have lr := r6.l
  have HM6 := hideM hm6
  have HR6 := hideM r6
  have HA6 := hideM a6
  have HT6 := hideM t6
  have HW : Hid (m.regs dst = va ∧ m.second ⟨op, imm, dst, src, off, num⟩ = vb) := ⟨HVa.out, HVb.out⟩
  have HVA' : Hid (vOk va) := by have h := HVA.out; rw [HVa.out] at h; exact h
  clear x6 a6 b6 r6 t6 hm6 HVA HVa HVb
  cases A1 : (va.kind == 1)
  ·cases B1 : (vb.kind == 1)
   ·cases O2 : (op == 2)
    ·cases O3 : (op == 3)
     ·have hw : m.work ⟨op, imm, dst, src, off, num⟩ = ((m.may ((va.kind != 0) && (vb.kind != 0))).may false, va) := by
       simp only [Mac.work, HW.out.1, HW.out.2]
       simp [show ¬ op = 2 by simpa using O2, show ¬ op = 3 by simpa using O3, show ¬ vb.kind = 1 by simpa using B1]
      have HWk := hideM hw
      clear hw
      go_wp2_with (go_at_call 49; refine (may_any p g s cap (m.may ((va.kind != 0) && (vb.kind != 0))) false _ HM6.out).mono ?_; rintro e w7 ⟨rfl, hm7, ht7⟩; have g0 := (HR6.out.tch ht7 (by omega) (by omega)).ck; have g1 := (HR6.out.tch ht7 (by omega) (by omega)).cb; have g2 := (HR6.out.tch ht7 (by omega) (by omega)).cp; have gz := (HR6.out.tch ht7 (by omega) (by omega)).cz; have a0 := (HA6.out.tch ht7 (by omega) (by omega)).ck; have a1 := (HA6.out.tch ht7 (by omega) (by omega)).cb; have a2 := (HA6.out.tch ht7 (by omega) (by omega)).cp; have HM7 := hideM hm7; have HT7 := hideM (HT6.out.trans ht7); clear hm7 ht7)
      exact bodyPost_ret (v := .agg #[.int .i64 va.kind, .int .u64 va.bits, .int .i64 va.place]) (by simp [results, Tryz.results50, go_sem, g0, g1, g2]) rfl (by
       rw [HWk.out]
       exact ⟨rfl, by (repeat (first | with_reducible exact HM7.out | with_reducible refine MacAt.alloc ?_ _ | with_reducible refine MacAt.drew ?_ | with_reducible refine MacAt.setFault ?_ | with_reducible refine MacAt.setAway ?_ (by omega) (by omega) _)), by (repeat (first | with_reducible exact HT7.out | with_reducible refine Tch.alloc ?_ _ | with_reducible refine Tch.drew ?_ | with_reducible refine Tch.setP ?_ _ _ | with_reducible refine Tch.setNew ?_ (by omega) _ _))⟩)
     ·cases AB : (va.kind == vb.kind)
      ·have hw : m.work ⟨op, imm, dst, src, off, num⟩ = ((m.may ((va.kind != 0) && (vb.kind != 0))).may false, va) := by
        simp only [Mac.work, HW.out.1, HW.out.2]
        simp [show ¬ op = 2 by simpa using O2, show ¬ vb.kind = 1 by simpa using B1, show ¬ va.kind = vb.kind by simpa using AB]
       have HWk := hideM hw
       clear hw
       go_wp2_with (go_at_call 49; refine (may_any p g s cap (m.may ((va.kind != 0) && (vb.kind != 0))) false _ HM6.out).mono ?_; rintro e w7 ⟨rfl, hm7, ht7⟩; have g0 := (HR6.out.tch ht7 (by omega) (by omega)).ck; have g1 := (HR6.out.tch ht7 (by omega) (by omega)).cb; have g2 := (HR6.out.tch ht7 (by omega) (by omega)).cp; have gz := (HR6.out.tch ht7 (by omega) (by omega)).cz; have a0 := (HA6.out.tch ht7 (by omega) (by omega)).ck; have a1 := (HA6.out.tch ht7 (by omega) (by omega)).cb; have a2 := (HA6.out.tch ht7 (by omega) (by omega)).cp; have HM7 := hideM hm7; have HT7 := hideM (HT6.out.trans ht7); clear hm7 ht7)
       exact bodyPost_ret (v := .agg #[.int .i64 va.kind, .int .u64 va.bits, .int .i64 va.place]) (by simp [results, Tryz.results50, go_sem, g0, g1, g2]) rfl (by
        rw [HWk.out]
        exact ⟨rfl, by (repeat (first | with_reducible exact HM7.out | with_reducible refine MacAt.alloc ?_ _ | with_reducible refine MacAt.drew ?_ | with_reducible refine MacAt.setFault ?_ | with_reducible refine MacAt.setAway ?_ (by omega) (by omega) _)), by (repeat (first | with_reducible exact HT7.out | with_reducible refine Tch.alloc ?_ _ | with_reducible refine Tch.drew ?_ | with_reducible refine Tch.setP ?_ _ _ | with_reducible refine Tch.setNew ?_ (by omega) _ _))⟩)
      ·have hw : m.work ⟨op, imm, dst, src, off, num⟩ = ((m.may ((va.kind != 0) && (vb.kind != 0))), nV (w64 (va.place - vb.place))) := by
        simp only [Mac.work, HW.out.1, HW.out.2]
        simp [show op = 3 by simpa using O3, show ¬ vb.kind = 1 by simpa using B1, show va.kind = vb.kind by simpa using AB]
       have HWk := hideM hw
       clear hw
       have hpa := HVA'.out.2.2
       have hpb := HVB.out.2.2
       go_wp2_with (go_at_call 71; refine (number_any _ _).mono ?_; rintro e w' ⟨rfl, rfl⟩)
       exact bodyPost_ret (v := .agg #[.int .i64 1, .int .u64 (w64 (va.place - vb.place)), .int .i64 0]) (by simp [results, Tryz.results50, go_sem, fr0, fr1, fr2, w64, lr]) rfl (by
        rw [HWk.out]
        exact ⟨rfl, by (repeat (first | with_reducible exact HM6.out | with_reducible refine MacAt.alloc ?_ _ | with_reducible refine MacAt.drew ?_ | with_reducible refine MacAt.setFault ?_ | with_reducible refine MacAt.setAway ?_ (by omega) (by omega) _)), by (repeat (first | with_reducible exact HT6.out | with_reducible refine Tch.alloc ?_ _ | with_reducible refine Tch.drew ?_ | with_reducible refine Tch.setP ?_ _ _ | with_reducible refine Tch.setNew ?_ (by omega) _ _))⟩)
    ·have O3 : (op == 3) = false := by simp at O2; simp; omega
     have hw : m.work ⟨op, imm, dst, src, off, num⟩ = ((m.may ((va.kind != 0) && (vb.kind != 0))).may false, va) := by
      simp only [Mac.work, HW.out.1, HW.out.2]
      simp [show op = 2 by simpa using O2, show ¬ vb.kind = 1 by simpa using B1, show ¬ va.kind = 1 by simpa using A1]
     have HWk := hideM hw
     clear hw
     go_wp2_with (go_at_call 49; refine (may_any p g s cap (m.may ((va.kind != 0) && (vb.kind != 0))) false _ HM6.out).mono ?_; rintro e w7 ⟨rfl, hm7, ht7⟩; have g0 := (HR6.out.tch ht7 (by omega) (by omega)).ck; have g1 := (HR6.out.tch ht7 (by omega) (by omega)).cb; have g2 := (HR6.out.tch ht7 (by omega) (by omega)).cp; have gz := (HR6.out.tch ht7 (by omega) (by omega)).cz; have a0 := (HA6.out.tch ht7 (by omega) (by omega)).ck; have a1 := (HA6.out.tch ht7 (by omega) (by omega)).cb; have a2 := (HA6.out.tch ht7 (by omega) (by omega)).cp; have HM7 := hideM hm7; have HT7 := hideM (HT6.out.trans ht7); clear hm7 ht7)
     exact bodyPost_ret (v := .agg #[.int .i64 va.kind, .int .u64 va.bits, .int .i64 va.place]) (by simp [results, Tryz.results50, go_sem, g0, g1, g2]) rfl (by
      rw [HWk.out]
      exact ⟨rfl, by (repeat (first | with_reducible exact HM7.out | with_reducible refine MacAt.alloc ?_ _ | with_reducible refine MacAt.drew ?_ | with_reducible refine MacAt.setFault ?_ | with_reducible refine MacAt.setAway ?_ (by omega) (by omega) _)), by (repeat (first | with_reducible exact HT7.out | with_reducible refine Tch.alloc ?_ _ | with_reducible refine Tch.drew ?_ | with_reducible refine Tch.setP ?_ _ _ | with_reducible refine Tch.setNew ?_ (by omega) _ _))⟩)
   ·cases O2 : (op == 2)
    ·cases O3 : (op == 3)
     ·have hw : m.work ⟨op, imm, dst, src, off, num⟩ = ((m.may ((va.kind != 0) && (vb.kind != 0))).may false, va) := by
       simp only [Mac.work, HW.out.1, HW.out.2]
       simp [show ¬ op = 2 by simpa using O2, show ¬ op = 3 by simpa using O3, show ¬ va.kind = 1 by simpa using A1]
      have HWk := hideM hw
      clear hw
      go_wp2_with (go_at_call 49; refine (may_any p g s cap (m.may ((va.kind != 0) && (vb.kind != 0))) false _ HM6.out).mono ?_; rintro e w7 ⟨rfl, hm7, ht7⟩; have g0 := (HR6.out.tch ht7 (by omega) (by omega)).ck; have g1 := (HR6.out.tch ht7 (by omega) (by omega)).cb; have g2 := (HR6.out.tch ht7 (by omega) (by omega)).cp; have gz := (HR6.out.tch ht7 (by omega) (by omega)).cz; have a0 := (HA6.out.tch ht7 (by omega) (by omega)).ck; have a1 := (HA6.out.tch ht7 (by omega) (by omega)).cb; have a2 := (HA6.out.tch ht7 (by omega) (by omega)).cp; have HM7 := hideM hm7; have HT7 := hideM (HT6.out.trans ht7); clear hm7 ht7)
      exact bodyPost_ret (v := .agg #[.int .i64 va.kind, .int .u64 va.bits, .int .i64 va.place]) (by simp [results, Tryz.results50, go_sem, g0, g1, g2]) rfl (by
       rw [HWk.out]
       exact ⟨rfl, by (repeat (first | with_reducible exact HM7.out | with_reducible refine MacAt.alloc ?_ _ | with_reducible refine MacAt.drew ?_ | with_reducible refine MacAt.setFault ?_ | with_reducible refine MacAt.setAway ?_ (by omega) (by omega) _)), by (repeat (first | with_reducible exact HT7.out | with_reducible refine Tch.alloc ?_ _ | with_reducible refine Tch.drew ?_ | with_reducible refine Tch.setP ?_ _ _ | with_reducible refine Tch.setNew ?_ (by omega) _ _))⟩)
     ·have hw : m.work ⟨op, imm, dst, src, off, num⟩ = (m.may ((va.kind != 0) && (vb.kind != 0))).moved va vb (-1) := by
       simp only [Mac.work, HW.out.1, HW.out.2]
       simp [show op = 3 by simpa using O3, show vb.kind = 1 by simpa using B1, show ¬ va.kind = 1 by simpa using A1]
      have HWk := hideM hw
      clear hw
      go_wp2_with (go_at_call 73; refine (moved_any p g s cap (m.may ((va.kind != 0) && (vb.kind != 0))) va vb (-1) _ HM6.out HVA'.out.2.2.1 HVA'.out.2.2.2 (.inr rfl)).mono ?_; rintro e w7 ⟨rfl, hm7, ht7⟩; have g0 := (HR6.out.tch ht7 (by omega) (by omega)).ck; have g1 := (HR6.out.tch ht7 (by omega) (by omega)).cb; have g2 := (HR6.out.tch ht7 (by omega) (by omega)).cp; have gz := (HR6.out.tch ht7 (by omega) (by omega)).cz; have HM7 := hideM hm7; have HT7 := hideM (HT6.out.trans ht7); clear hm7 ht7)
      exact bodyPost_ret (v := .agg #[.int .i64 ((m.may ((va.kind != 0) && (vb.kind != 0))).moved va vb (-1)).2.kind, .int .u64 ((m.may ((va.kind != 0) && (vb.kind != 0))).moved va vb (-1)).2.bits, .int .i64 ((m.may ((va.kind != 0) && (vb.kind != 0))).moved va vb (-1)).2.place]) (by simp [results, Tryz.results50, go_sem, g0, g1, g2]) rfl (by
       rw [HWk.out]
       exact ⟨rfl, by (repeat (first | with_reducible exact HM7.out | with_reducible refine MacAt.alloc ?_ _ | with_reducible refine MacAt.drew ?_ | with_reducible refine MacAt.setFault ?_ | with_reducible refine MacAt.setAway ?_ (by omega) (by omega) _)), by (repeat (first | with_reducible exact HT7.out | with_reducible refine Tch.alloc ?_ _ | with_reducible refine Tch.drew ?_ | with_reducible refine Tch.setP ?_ _ _ | with_reducible refine Tch.setNew ?_ (by omega) _ _))⟩)
    ·have hw : m.work ⟨op, imm, dst, src, off, num⟩ = (m.may ((va.kind != 0) && (vb.kind != 0))).moved va vb (1) := by
      simp only [Mac.work, HW.out.1, HW.out.2]
      simp [show op = 2 by simpa using O2, show vb.kind = 1 by simpa using B1, show ¬ va.kind = 1 by simpa using A1]
     have HWk := hideM hw
     clear hw
     go_wp2_with (go_at_call 73; refine (moved_any p g s cap (m.may ((va.kind != 0) && (vb.kind != 0))) va vb (1) _ HM6.out HVA'.out.2.2.1 HVA'.out.2.2.2 (.inl rfl)).mono ?_; rintro e w7 ⟨rfl, hm7, ht7⟩; have g0 := (HR6.out.tch ht7 (by omega) (by omega)).ck; have g1 := (HR6.out.tch ht7 (by omega) (by omega)).cb; have g2 := (HR6.out.tch ht7 (by omega) (by omega)).cp; have gz := (HR6.out.tch ht7 (by omega) (by omega)).cz; have HM7 := hideM hm7; have HT7 := hideM (HT6.out.trans ht7); clear hm7 ht7)
     exact bodyPost_ret (v := .agg #[.int .i64 ((m.may ((va.kind != 0) && (vb.kind != 0))).moved va vb (1)).2.kind, .int .u64 ((m.may ((va.kind != 0) && (vb.kind != 0))).moved va vb (1)).2.bits, .int .i64 ((m.may ((va.kind != 0) && (vb.kind != 0))).moved va vb (1)).2.place]) (by simp [results, Tryz.results50, go_sem, g0, g1, g2]) rfl (by
      rw [HWk.out]
      exact ⟨rfl, by (repeat (first | with_reducible exact HM7.out | with_reducible refine MacAt.alloc ?_ _ | with_reducible refine MacAt.drew ?_ | with_reducible refine MacAt.setFault ?_ | with_reducible refine MacAt.setAway ?_ (by omega) (by omega) _)), by (repeat (first | with_reducible exact HT7.out | with_reducible refine Tch.alloc ?_ _ | with_reducible refine Tch.drew ?_ | with_reducible refine Tch.setP ?_ _ _ | with_reducible refine Tch.setNew ?_ (by omega) _ _))⟩)
  ·cases B1 : (vb.kind == 1)
   ·cases O2 : (op == 2)
    ·cases O3 : (op == 3)
     ·have hw : m.work ⟨op, imm, dst, src, off, num⟩ = ((m.may ((va.kind != 0) && (vb.kind != 0))).may false, va) := by
       simp only [Mac.work, HW.out.1, HW.out.2]
       simp [show ¬ op = 2 by simpa using O2, show ¬ op = 3 by simpa using O3, show ¬ vb.kind = 1 by simpa using B1]
      have HWk := hideM hw
      clear hw
      go_wp2_with (go_at_call 49; refine (may_any p g s cap (m.may ((va.kind != 0) && (vb.kind != 0))) false _ HM6.out).mono ?_; rintro e w7 ⟨rfl, hm7, ht7⟩; have g0 := (HR6.out.tch ht7 (by omega) (by omega)).ck; have g1 := (HR6.out.tch ht7 (by omega) (by omega)).cb; have g2 := (HR6.out.tch ht7 (by omega) (by omega)).cp; have gz := (HR6.out.tch ht7 (by omega) (by omega)).cz; have a0 := (HA6.out.tch ht7 (by omega) (by omega)).ck; have a1 := (HA6.out.tch ht7 (by omega) (by omega)).cb; have a2 := (HA6.out.tch ht7 (by omega) (by omega)).cp; have HM7 := hideM hm7; have HT7 := hideM (HT6.out.trans ht7); clear hm7 ht7)
      exact bodyPost_ret (v := .agg #[.int .i64 va.kind, .int .u64 va.bits, .int .i64 va.place]) (by simp [results, Tryz.results50, go_sem, g0, g1, g2]) rfl (by
       rw [HWk.out]
       exact ⟨rfl, by (repeat (first | with_reducible exact HM7.out | with_reducible refine MacAt.alloc ?_ _ | with_reducible refine MacAt.drew ?_ | with_reducible refine MacAt.setFault ?_ | with_reducible refine MacAt.setAway ?_ (by omega) (by omega) _)), by (repeat (first | with_reducible exact HT7.out | with_reducible refine Tch.alloc ?_ _ | with_reducible refine Tch.drew ?_ | with_reducible refine Tch.setP ?_ _ _ | with_reducible refine Tch.setNew ?_ (by omega) _ _))⟩)
     ·have AB : (va.kind == vb.kind) = false := by simp; simp at A1 B1; omega
      have hw : m.work ⟨op, imm, dst, src, off, num⟩ = ((m.may ((va.kind != 0) && (vb.kind != 0))).may false, va) := by
       simp only [Mac.work, HW.out.1, HW.out.2]
       simp [show ¬ op = 2 by simpa using O2, show ¬ vb.kind = 1 by simpa using B1, show ¬ va.kind = vb.kind by simpa using AB]
      have HWk := hideM hw
      clear hw
      go_wp2_with (go_at_call 49; refine (may_any p g s cap (m.may ((va.kind != 0) && (vb.kind != 0))) false _ HM6.out).mono ?_; rintro e w7 ⟨rfl, hm7, ht7⟩; have g0 := (HR6.out.tch ht7 (by omega) (by omega)).ck; have g1 := (HR6.out.tch ht7 (by omega) (by omega)).cb; have g2 := (HR6.out.tch ht7 (by omega) (by omega)).cp; have gz := (HR6.out.tch ht7 (by omega) (by omega)).cz; have a0 := (HA6.out.tch ht7 (by omega) (by omega)).ck; have a1 := (HA6.out.tch ht7 (by omega) (by omega)).cb; have a2 := (HA6.out.tch ht7 (by omega) (by omega)).cp; have HM7 := hideM hm7; have HT7 := hideM (HT6.out.trans ht7); clear hm7 ht7)
      exact bodyPost_ret (v := .agg #[.int .i64 va.kind, .int .u64 va.bits, .int .i64 va.place]) (by simp [results, Tryz.results50, go_sem, g0, g1, g2]) rfl (by
       rw [HWk.out]
       exact ⟨rfl, by (repeat (first | with_reducible exact HM7.out | with_reducible refine MacAt.alloc ?_ _ | with_reducible refine MacAt.drew ?_ | with_reducible refine MacAt.setFault ?_ | with_reducible refine MacAt.setAway ?_ (by omega) (by omega) _)), by (repeat (first | with_reducible exact HT7.out | with_reducible refine Tch.alloc ?_ _ | with_reducible refine Tch.drew ?_ | with_reducible refine Tch.setP ?_ _ _ | with_reducible refine Tch.setNew ?_ (by omega) _ _))⟩)
    ·have O3 : (op == 3) = false := by simp at O2; simp; omega
     have hw : m.work ⟨op, imm, dst, src, off, num⟩ = (m.may ((va.kind != 0) && (vb.kind != 0))).moved vb va (1) := by
      simp only [Mac.work, HW.out.1, HW.out.2]
      simp [show op = 2 by simpa using O2, show ¬ vb.kind = 1 by simpa using B1, show va.kind = 1 by simpa using A1]
     have HWk := hideM hw
     clear hw
     go_wp2_with (go_at_call 73; refine (moved_any p g s cap (m.may ((va.kind != 0) && (vb.kind != 0))) vb va (1) _ HM6.out HVB.out.2.2.1 HVB.out.2.2.2 (.inl rfl)).mono ?_; rintro e w7 ⟨rfl, hm7, ht7⟩; have g0 := (HR6.out.tch ht7 (by omega) (by omega)).ck; have g1 := (HR6.out.tch ht7 (by omega) (by omega)).cb; have g2 := (HR6.out.tch ht7 (by omega) (by omega)).cp; have gz := (HR6.out.tch ht7 (by omega) (by omega)).cz; have HM7 := hideM hm7; have HT7 := hideM (HT6.out.trans ht7); clear hm7 ht7)
     exact bodyPost_ret (v := .agg #[.int .i64 ((m.may ((va.kind != 0) && (vb.kind != 0))).moved vb va (1)).2.kind, .int .u64 ((m.may ((va.kind != 0) && (vb.kind != 0))).moved vb va (1)).2.bits, .int .i64 ((m.may ((va.kind != 0) && (vb.kind != 0))).moved vb va (1)).2.place]) (by simp [results, Tryz.results50, go_sem, g0, g1, g2]) rfl (by
      rw [HWk.out]
      exact ⟨rfl, by (repeat (first | with_reducible exact HM7.out | with_reducible refine MacAt.alloc ?_ _ | with_reducible refine MacAt.drew ?_ | with_reducible refine MacAt.setFault ?_ | with_reducible refine MacAt.setAway ?_ (by omega) (by omega) _)), by (repeat (first | with_reducible exact HT7.out | with_reducible refine Tch.alloc ?_ _ | with_reducible refine Tch.drew ?_ | with_reducible refine Tch.setP ?_ _ _ | with_reducible refine Tch.setNew ?_ (by omega) _ _))⟩)
   ·have hw : m.work ⟨op, imm, dst, src, off, num⟩ = ((m.may ((va.kind != 0) && (vb.kind != 0))), nV (numR op va.bits vb.bits)) := by
     simp only [Mac.work, HW.out.1, HW.out.2]
     rw [if_pos ⟨by simpa using A1, by simpa using B1⟩]
    have HWk := hideM hw
    clear hw
    go_wp2_with (first | (go_at_call 72; refine (numbers_keep _ _ _ _ hop1 hop2 HVA'.out.1 HVB.out.1 HVA'.out.2.1 HVB.out.2.1).mono ?_; rintro e w' ⟨rfl, rfl⟩) | (go_at_call 71; refine (number_any _ _).mono ?_; rintro e w' ⟨rfl, rfl⟩))
    exact bodyPost_ret (v := .agg #[.int .i64 1, .int .u64 (numR op va.bits vb.bits), .int .i64 0]) (by simp [results, Tryz.results50, go_sem, fr0, fr1, fr2, lr]) rfl (by
     rw [HWk.out]
     exact ⟨rfl, by (repeat (first | with_reducible exact HM6.out | with_reducible refine MacAt.alloc ?_ _ | with_reducible refine MacAt.drew ?_ | with_reducible refine MacAt.setFault ?_ | with_reducible refine MacAt.setAway ?_ (by omega) (by omega) _)), by (repeat (first | with_reducible exact HT6.out | with_reducible refine Tch.alloc ?_ _ | with_reducible refine Tch.drew ?_ | with_reducible refine Tch.setP ?_ _ _ | with_reducible refine Tch.setNew ?_ (by omega) _ _))⟩)
end Go.Proofs.YtoobileejdhikaaGreat

namespace Go.Proofs.YtoobileejdhikaaGreat
set_option maxRecDepth 100000
set_option maxHeartbeats 2000000
open Go.RowKit

def Mac.byteOf (m : Mac) (pv : V) (i : Int) : Int := if pv.kind = 2 then m.frame.getD i.toNat 0 else m.stack i.toNat
def Mac.loadGo (m : Mac) (pv : V) (off : Int) : Nat → Int → Int → Int → Mac × V
 | 0, _, n, _ => (m, nV n)
 | r + 1, i, n, u =>
  if (m.byteAt pv (off + i)).2 then m.loadGo pv off r (i + 1) (w64 (n + w64 (u * w64 (m.byteOf pv (m.byteAt pv (off + i)).1)))) (w64 (256 * u)) else (m.may false, vNone)
def Mac.load (m : Mac) (pv : V) (off : Int) (sz : Nat) : Mac × V := m.loadGo pv off sz 0 0 1

theorem byteAt_frame {m : Mac} {pv : V} {n : Int} (hk : pv.kind = 2) (h : (m.byteAt pv n).2 = true) : ∃ j : Nat, (m.byteAt pv n).1 = j ∧ j < m.frame.length := by
 simp [Mac.byteAt, hk] at h
 refine ⟨(pv.place + n).toNat, ?_, by omega⟩
 simp [Mac.byteAt, hk]; omega
theorem byteAt_stack {m : Mac} {pv : V} {n : Int} (hk : ¬ pv.kind = 2) (h : (m.byteAt pv n).2 = true) : ∃ j : Nat, (m.byteAt pv n).1 = j ∧ j < 32 := by
 simp [Mac.byteAt, hk] at h
 refine ⟨(pv.place + n + 32).toNat, ?_, by omega⟩
 simp [Mac.byteAt, hk]; omega

theorem load_made (w : World) (pv : V) :
  Box3 ((w.alloc (.cells #[.int .i64 pv.kind, .int .u64 pv.bits, .int .i64 pv.place] 85)).alloc (.cells #[.int .i64 0, .int .u64 0, .int .i64 0] 85)) w.heap.size pv ∧
  Box3 ((w.alloc (.cells #[.int .i64 pv.kind, .int .u64 pv.bits, .int .i64 pv.place] 85)).alloc (.cells #[.int .i64 0, .int .u64 0, .int .i64 0] 85)) (w.heap.size + 1) vNone ∧
  Below w.heap.size w ((w.alloc (.cells #[.int .i64 pv.kind, .int .u64 pv.bits, .int .i64 pv.place] 85)).alloc (.cells #[.int .i64 0, .int .u64 0, .int .i64 0] 85)) := by
 have b1 := Box3.made w pv
 have b2 := Box3.made (w.alloc (.cells #[.int .i64 pv.kind, .int .u64 pv.bits, .int .i64 pv.place] 85)) vNone
 rw [show (w.alloc (.cells #[.int .i64 pv.kind, .int .u64 pv.bits, .int .i64 pv.place] 85)).heap.size = w.heap.size + 1 from by simp] at b2
 exact ⟨b1.later (below_alloc _ _), b2, ((Below.refl _ _).alloc (Nat.le_refl _) _).alloc (by simp) _⟩

theorem mload_any (p g s cap : Nat) (m : Mac) (pv : V) (off : Int) (sz : Nat) (w : World) (h : MacAt w p g s cap m) (hv : vOk pv) (ho1 : -40000 ≤ off) (ho2 : off ≤ 40000) (hsz : sz ≤ 8) :
  Calls Tryz.prog 51 #[.pointer (some ⟨p, 0, none⟩), .agg #[.int .i64 pv.kind, .int .u64 pv.bits, .int .i64 pv.place], .int .i64 off, .int .i64 sz] w fun e w' =>
   e = .returned (.agg #[.int .i64 (m.load pv off sz).2.kind, .int .u64 (m.load pv off sz).2.bits, .int .i64 (m.load pv off sz).2.place]) ∧ MacAt w' p g s cap (m.load pv off sz).1 ∧ Tch p g w w' := by
 have HM := hideM h
 have lp := h.lp
 have lg := h.lg
 have HV := hideM hv
 clear h hv
 go_enter Tryz.func51, Tryz.ntmps51
 go_wp2
 obtain ⟨v2, r2, bel2⟩ := load_made w pv
 have M2 := HM.out.later bel2
 have t2 : Tch p g w _ := Tch.of_below bel2
 generalize ((w.alloc (Obj.cells #[.int .i64 pv.kind, .int .u64 pv.bits, .int .i64 pv.place] 85)).alloc (Obj.cells #[.int .i64 0, .int .u64 0, .int .i64 0] 85)) = W2 at v2 r2 M2 t2 ⊢
 clear bel2
 have HS : Hid (MacAt W2 p g s cap m ∧ Box3 W2 w.heap.size pv ∧ Box3 W2 (w.heap.size + 1) vNone ∧ Tch p g w W2) := ⟨M2, v2, r2, t2⟩
 clear M2 v2 r2 t2
 go_loopw [9, 10, 11] (fun sn su i wr => ∃ (k : Nat) (n u : Int), k ≤ sz ∧ i = .int .i64 k ∧ sn = .int .u64 n ∧ su = .int .u64 u ∧ Hid (m.loadGo pv off (sz - k) k n u = m.load pv off sz) ∧ Hid (MacAt wr p g s cap m ∧ Box3 wr w.heap.size pv ∧ Box3 wr (w.heap.size + 1) vNone ∧ Tch p g w wr)) (fun _ _ i _ => sz - (intOf i).toNat)
 case atStart => exact ⟨0, 0, 1, by omega, rfl, rfl, rfl, rfl, HS⟩
 case round =>
  clear HS
  obtain ⟨k, n, u, hk, rfl, rfl, rfl, HL, HS⟩ := hrel
  obtain ⟨hM, hV, hR, hT⟩ := HS.out
  by_cases hlt : k < sz
  ·have f0 := hV.ck
   have f1 := hV.cb
   have f2 := hV.cp
   go_wp2_with fail
   refine (byteAt_any p g s cap m pv (off + k) wr hM (by have := HV.out.2.2.1; omega) (by have := HV.out.2.2.2; omega) (by omega) (by omega)).mono ?_
   rintro e w5 ⟨rfl, bel5⟩
   have hM5 := hM.later bel5
   have hV5 := hV.later bel5
   have hR5 := hR.later bel5
   have hT5 := hT.trans (Tch.of_below bel5)
   clear hM hV hR hT HS f0 f1 f2 bel5
   cases hok : (m.byteAt pv (off + k)).2
   ·have HE : Hid (m.load pv off sz = (m.may false, vNone)) := by
     have h := HL.out
     rw [show sz - k = (sz - (k + 1)) + 1 from by omega, Mac.loadGo, hok] at h
     exact h.symm
    go_wp2_with (go_at_call_of 49 (Value.bool false); refine (may_any p g s cap m false w5 hM5).mono ?_; rintro e w6 ⟨rfl, hm6, ht6⟩; have g0 := (hR5.tch ht6 (by omega) (by omega)).ck; have g1 := (hR5.tch ht6 (by omega) (by omega)).cb; have g2 := (hR5.tch ht6 (by omega) (by omega)).cp; have gz := (hR5.tch ht6 (by omega) (by omega)).cz; have HM6 := hideM hm6; have HT6 := hideM (hT5.trans ht6); clear hm6 ht6)
    exact bodyPost_ret (v := .agg #[.int .i64 0, .int .u64 0, .int .i64 0]) (by simp [results, Tryz.results51, go_sem, g0, g1, g2]) rfl (by
     rw [HE.out]
     exact ⟨rfl, by (repeat (first | with_reducible exact HM6.out | with_reducible refine MacAt.alloc ?_ _ | with_reducible refine MacAt.setAway ?_ (by omega) (by omega) _)), by (repeat (first | with_reducible exact HT6.out | with_reducible refine Tch.alloc ?_ _ | with_reducible refine Tch.setNew ?_ (by omega) _ _))⟩)
   ·have HL2 : Hid (m.loadGo pv off (sz - (k + 1)) ((k + 1 : Nat) : Int) (w64 (n + w64 (u * w64 (m.byteOf pv (m.byteAt pv (off + k)).1)))) (w64 (256 * u)) = m.load pv off sz) := by
     have h := HL.out
     rw [show sz - k = (sz - (k + 1)) + 1 from by omega, Mac.loadGo, hok] at h
     exact h
    have q0 := hV5.ck
    have HM5 := hideM hM5
    have HV5 := hideM hV5
    have HR5 := hideM hR5
    have HT5 := hideM hT5
    cases hkd : (pv.kind == 2)
    ·have hk2 : ¬ pv.kind = 2 := by simpa using hkd
     obtain ⟨j, hj1, hj2⟩ := byteAt_stack hk2 hok
     have c0 := hM5.st j hj2
     have i1 : (j : Int) < 32 := by omega
     have HB : Hid (m.byteOf pv (m.byteAt pv (off + k)).1 = m.stack j) := by
      show _ = _
      rw [hj1]; simp [Mac.byteOf, hk2]
     have hb := HB.out
     rw [hb] at HL2
     clear hM5 hV5 hR5 hT5 hk2 HB hb HL
     go_wp2_with (go_at_call_of 49 (Value.bool true); refine (may_ok _ _).mono ?_; rintro e w' ⟨rfl, rfl⟩)
     go_roundw
     case rel => exact ⟨k + 1, _, _, by omega, by go_num, rfl, rfl, HL2, ⟨HM5.out, HV5.out, HR5.out, HT5.out⟩⟩
     case measure => simp [intOf]; omega
    ·have hk2 : pv.kind = 2 := by simpa using hkd
     obtain ⟨j, hj1, hj2⟩ := byteAt_frame hk2 hok
     have c0 := hM5.fc j hj2
     obtain ⟨a, c1, c2⟩ := hM5.fr
     obtain rfl := c2 (by omega)
     clear c2
     have i1 : (j : Int) < (m.frame.length : Int) := by omega
     have HB : Hid (m.byteOf pv (m.byteAt pv (off + k)).1 = m.frame.getD j 0) := by
      show _ = _
      rw [hj1]; simp [Mac.byteOf, hk2]
     have hb := HB.out
     rw [hb, show m.frame.getD j 0 = m.frame[j] from by simp [hj2]] at HL2
     clear hM5 hV5 hR5 hT5 hk2 HB hb HL
     go_wp2_with (go_at_call_of 49 (Value.bool true); refine (may_ok _ _).mono ?_; rintro e w' ⟨rfl, rfl⟩)
     go_roundw
     case rel => exact ⟨k + 1, _, _, by omega, by go_num, rfl, rfl, HL2, ⟨HM5.out, HV5.out, HR5.out, HT5.out⟩⟩
     case measure => simp [intOf]; omega
  ·have hkn : k = sz := by omega
   subst hkn
   have fr0 := hR.ck
   have fr1 := hR.cb
   have fr2 := hR.cp
   have fz := hR.cz
   have lr := hR.l
   have HE : Hid (m.load pv off k = (m, nV n)) := by
    have h := HL.out
    rw [Nat.sub_self] at h
    exact h.symm
   have HM6 := hideM hM
   have HT6 := hideM hT
   clear hM hV hR hT HS HL
   go_wp2_with (go_at_call 71; refine (number_any _ _).mono ?_; rintro e w' ⟨rfl, rfl⟩)
   exact bodyPost_ret (v := .agg #[.int .i64 1, .int .u64 n, .int .i64 0]) (by simp [results, Tryz.results51, go_sem, fr0, fr1, fr2, lr]) rfl (by
    rw [HE.out]
    exact ⟨rfl, by (repeat (first | with_reducible exact HM6.out | with_reducible refine MacAt.alloc ?_ _ | with_reducible refine MacAt.setAway ?_ (by omega) (by omega) _)), by (repeat (first | with_reducible exact HT6.out | with_reducible refine Tch.alloc ?_ _ | with_reducible refine Tch.setNew ?_ (by omega) _ _))⟩)
end Go.Proofs.YtoobileejdhikaaGreat

namespace Go.Proofs.YtoobileejdhikaaGreat
set_option maxRecDepth 100000
set_option maxHeartbeats 2000000
open Go.RowKit

def Mac.putByte (m : Mac) (pv : V) (i : Int) (c : Int) : Mac :=
 if pv.kind = 2 then { m with frame := m.frame.set i.toNat c } else { m with stack := fun k => if k = i.toNat then c else m.stack k }
def Mac.storeGo (pv : V) (off : Int) : Nat → Mac → Int → Int → Mac
 | 0, m, _, _ => m
 | r + 1, m, i, n =>
  if (m.may (m.byteAt pv (off + i)).2).fault then m.may (m.byteAt pv (off + i)).2
  else Mac.storeGo pv off r (m.putByte pv (m.byteAt pv (off + i)).1 (n % 256)) (i + 1) (n / 256)
def Mac.store (m : Mac) (pv : V) (off : Int) (sz : Nat) (v : V) : Mac := Mac.storeGo pv off sz (m.may (v.kind == 1)) 0 v.bits

theorem store_made (w : World) (pv v : V) :
  Box3 ((w.alloc (.cells #[.int .i64 pv.kind, .int .u64 pv.bits, .int .i64 pv.place] 85)).alloc (.cells #[.int .i64 v.kind, .int .u64 v.bits, .int .i64 v.place] 85)) w.heap.size pv ∧
  Box3 ((w.alloc (.cells #[.int .i64 pv.kind, .int .u64 pv.bits, .int .i64 pv.place] 85)).alloc (.cells #[.int .i64 v.kind, .int .u64 v.bits, .int .i64 v.place] 85)) (w.heap.size + 1) v ∧
  Below w.heap.size w ((w.alloc (.cells #[.int .i64 pv.kind, .int .u64 pv.bits, .int .i64 pv.place] 85)).alloc (.cells #[.int .i64 v.kind, .int .u64 v.bits, .int .i64 v.place] 85)) := by
 have b1 := Box3.made w pv
 have b2 := Box3.made (w.alloc (.cells #[.int .i64 pv.kind, .int .u64 pv.bits, .int .i64 pv.place] 85)) v
 rw [show (w.alloc (.cells #[.int .i64 pv.kind, .int .u64 pv.bits, .int .i64 pv.place] 85)).heap.size = w.heap.size + 1 from by simp] at b2
 exact ⟨b1.later (below_alloc _ _), b2, ((Below.refl _ _).alloc (Nat.le_refl _) _).alloc (by simp) _⟩

theorem quart_w (x : Int) (h0 : 0 ≤ x) (h1 : x < 18446744073709551616) : IntKind.u64.wrap (x.tdiv 256) = x / 256 := by
 rw [Int.tdiv_eq_ediv_of_nonneg h0]; show w64 _ = _; rw [w64_eq]; omega

theorem mstore_any (p g s cap : Nat) (m : Mac) (pv v : V) (off : Int) (sz : Nat) (w : World) (h : MacAt w p g s cap m) (hv : vOk pv) (hv2 : vOk v) (ho1 : -40000 ≤ off) (ho2 : off ≤ 40000) (hsz : sz ≤ 8) :
  Calls Tryz.prog 53 #[.pointer (some ⟨p, 0, none⟩), .agg #[.int .i64 pv.kind, .int .u64 pv.bits, .int .i64 pv.place], .int .i64 off, .int .i64 sz, .agg #[.int .i64 v.kind, .int .u64 v.bits, .int .i64 v.place]] w fun e w' =>
   e = .returned (.tuple #[]) ∧ MacAt w' p g s cap (m.store pv off sz v) ∧ Tch p g w w' := by
 have HM := hideM h
 have lp := h.lp
 have lg := h.lg
 have HV := hideM hv
 have hb0 := hv2.1
 have HV2 := hideM hv2
 clear h hv hv2
 go_enter Tryz.func53, Tryz.ntmps53
 go_wp2_with fail
 obtain ⟨v2, r2, bel2⟩ := store_made w pv v
 have M2 := HM.out.later bel2
 have t2 : Tch p g w _ := Tch.of_below bel2
 generalize ((w.alloc (Obj.cells #[.int .i64 pv.kind, .int .u64 pv.bits, .int .i64 pv.place] 85)).alloc (Obj.cells #[.int .i64 v.kind, .int .u64 v.bits, .int .i64 v.place] 85)) = W2 at v2 r2 M2 t2 ⊢
 clear bel2
 refine (may_any p g s cap m _ W2 M2).mono ?_
 rintro e w3 ⟨rfl, hm3, ht3⟩
 have r3 := (r2.tch ht3 (by omega) (by omega)).cb
 have HS : Hid (MacAt w3 p g s cap (m.may (v.kind == 1)) ∧ Box3 w3 w.heap.size pv ∧ Tch p g w w3) := ⟨hm3, v2.tch ht3 (by omega) (by omega), t2.trans ht3⟩
 clear M2 v2 r2 t2 hm3 ht3
 go_wp2
 go_loopw [10, 11] (fun sn i wr => ∃ (k : Nat) (n : Int) (m' : Mac), k ≤ sz ∧ i = .int .i64 k ∧ sn = .int .u64 n ∧ 0 ≤ n ∧ Hid (n < 18446744073709551616) ∧ Hid (Mac.storeGo pv off (sz - k) m' k n = m.store pv off sz v) ∧ Hid (MacAt wr p g s cap m' ∧ Box3 wr w.heap.size pv ∧ Tch p g w wr)) (fun _ i _ => sz - (intOf i).toNat)
 case atStart => exact ⟨0, v.bits, _, by omega, rfl, rfl, hb0, HV2.out.2.1, rfl, HS⟩
 case round =>
  clear HS r3
  obtain ⟨k, n, m', hk, rfl, rfl, hn0, HN, HL, HS⟩ := hrel
  obtain ⟨hM, hV, hT⟩ := HS.out
  by_cases hlt : k < sz
  ·have f0 := hV.ck
   have f1 := hV.cb
   have f2 := hV.cp
   go_wp2_with fail
   refine (byteAt_any p g s cap m' pv (off + k) wr hM (by have := HV.out.2.2.1; omega) (by have := HV.out.2.2.2; omega) (by omega) (by omega)).mono ?_
   rintro e w5 ⟨rfl, bel5⟩
   have hM5 := hM.later bel5
   have hV5 := hV.later bel5
   have hT5 := hT.trans (Tch.of_below bel5)
   clear hM hV hT HS f0 f1 f2 bel5
   go_wp2_with fail
   refine (may_any p g s cap m' _ w5 hM5).mono ?_
   rintro e w6 ⟨rfl, hM6, ht6⟩
   have hV6 := hV5.tch ht6 (by omega) (by omega)
   have hT6 := hT5.trans ht6
   clear hM5 hV5 hT5 ht6
   have hfl := hM6.fl
   have f0 := hV6.ck
   cases hf : (m'.may (m'.byteAt pv (off + k)).2).fault
   ·have hok : (m'.byteAt pv (off + k)).2 = true := by
     cases hb : (m'.byteAt pv (off + k)).2
     ·rw [hb] at hf; simp [Mac.may] at hf
     ·rfl
    have HL2 : Hid (Mac.storeGo pv off (sz - (k + 1)) (m'.putByte pv (m'.byteAt pv (off + k)).1 (n % 256)) ((k + 1 : Nat) : Int) (n / 256) = m.store pv off sz v) := by
     have h := HL.out
     rw [show sz - k = (sz - (k + 1)) + 1 from by omega, Mac.storeGo, hf] at h
     exact h
    rw [hf] at hfl
    rw [hok] at hM6
    have hM6 : MacAt w6 p g s cap m' := hM6
    have HQ : Hid (IntKind.u64.wrap (n.tdiv 256) = n / 256) := quart_w n hn0 HN.out
    have HM6 := hideM hM6
    have HV6 := hideM hV6
    have HT6 := hideM hT6
    cases hkd : (pv.kind == 2)
    ·have hk2 : ¬ pv.kind = 2 := by simpa using hkd
     obtain ⟨j, hj1, hj2⟩ := byteAt_stack hk2 hok
     have c0 := hM6.st j hj2
     have cz := hM6.fz (24 + j)
     have i1 : (j : Int) < 32 := by omega
     have HB : Hid (m'.putByte pv (m'.byteAt pv (off + k)).1 (n % 256) = { m' with stack := fun i => if i = j then n % 256 else m'.stack i }) := by
      show _ = _
      rw [hj1]; simp [Mac.putByte, hk2]
     rw [HB.out] at HL2
     clear hM6 hV6 hT6 hk2 HB HL hf hok
     go_wp2
     go_roundw
     case rel => exact ⟨k + 1, n / 256, _, by omega, by go_num, congrArg (Value.int .u64) HQ.out, by omega, (by have := HN.out; show n / 256 < _; omega), HL2, ⟨HM6.out.setStack j hj2 _, HV6.out.tch ((Tch.refl p g w6).setP _ _) (by omega) (by omega), HT6.out.setP _ _⟩⟩
     case measure => simp [intOf]; omega
    ·have hk2 : pv.kind = 2 := by simpa using hkd
     obtain ⟨j, hj1, hj2⟩ := byteAt_frame hk2 hok
     have c0 := hM6.fc j hj2
     have cz := hM6.fg j hj2
     obtain ⟨a, c1, c2⟩ := hM6.fr
     obtain rfl := c2 (by omega)
     clear c2
     have i1 : (j : Int) < (m'.frame.length : Int) := by omega
     have HB : Hid (m'.putByte pv (m'.byteAt pv (off + k)).1 (n % 256) = { m' with frame := m'.frame.set j (n % 256) }) := by
      show _ = _
      rw [hj1]; simp [Mac.putByte, hk2]
     rw [HB.out] at HL2
     clear hM6 hV6 hT6 hk2 HB HL hf hok
     go_wp2
     go_roundw
     case rel => exact ⟨k + 1, n / 256, _, by omega, by go_num, congrArg (Value.int .u64) HQ.out, by omega, (by have := HN.out; show n / 256 < _; omega), HL2, ⟨HM6.out.setFrame j hj2 _, HV6.out.tch ((Tch.refl p g w6).setG _ _) (by omega) (by omega), HT6.out.setG _ _⟩⟩
     case measure => simp [intOf]; omega
   ·have HE : Hid (m.store pv off sz v = m'.may (m'.byteAt pv (off + k)).2) := by
     have h := HL.out
     rw [show sz - k = (sz - (k + 1)) + 1 from by omega, Mac.storeGo, hf] at h
     exact h.symm
    rw [hf] at hfl
    have HM6 := hideM hM6
    have HT6 := hideM hT6
    clear hM6 hV6 hT6 HL hf
    go_wp2
    first | go_end0 | refine bodyPost_ret (results_none rfl _ _ _) rfl ?_
    exact ⟨rfl, by rw [HE.out]; exact HM6.out, HT6.out⟩
  ·have hkn : k = sz := by omega
   subst hkn
   have HE : Hid (m.store pv off k v = m') := by
    have h := HL.out
    rw [Nat.sub_self] at h
    exact h.symm
   have HM6 := hideM hM
   have HT6 := hideM hT
   clear hM hV hT HS HL
   go_wp2
   first | go_end0 | refine bodyPost_ret (results_none rfl _ _ _) rfl ?_
   exact ⟨rfl, by rw [HE.out]; exact HM6.out, HT6.out⟩
end Go.Proofs.YtoobileejdhikaaGreat

namespace Go.Proofs.YtoobileejdhikaaGreat
set_option maxRecDepth 100000
set_option maxHeartbeats 4000000
open Go.RowKit
attribute [local go_sem ↓] Go.wp_at_zero Go.wp_at_succ

def lessV (a b : V) : Bool := if a.kind = 1 then decide (a.bits < b.bits) else decide (a.place < b.place)
def sameV (a b : V) : Bool := if a.kind = 1 then a.bits == b.bits else a.place == b.place
def holdsB (op : Int) (less same : Bool) : Bool :=
 if op = 31 then same else if op = 32 then !same else if op = 33 then !less && !same else if op = 34 then !less else if op = 35 then less else less || same
def Mac.compares (m : Mac) (x : RI) : Mac × Bool :=
 (m.may (((m.regs x.dst).kind != 0) && ((m.regs x.dst).kind == (m.second x).kind)), holdsB x.op (lessV (m.regs x.dst) (m.second x)) (sameV (m.regs x.dst) (m.second x)))

theorem cmp_made (w : World) (x : RI) (va : V) :
  Box6 (((w.alloc (.cells #[.int .i64 x.op, .bool x.imm, .int .i64 x.dst, .int .i64 x.src, .int .i64 x.off, .int .i64 x.num] 74)).alloc (.cells #[.int .i64 va.kind, .int .u64 va.bits, .int .i64 va.place] 85)).drew) w.heap.size x ∧
  Box3 (((w.alloc (.cells #[.int .i64 x.op, .bool x.imm, .int .i64 x.dst, .int .i64 x.src, .int .i64 x.off, .int .i64 x.num] 74)).alloc (.cells #[.int .i64 va.kind, .int .u64 va.bits, .int .i64 va.place] 85)).drew) (w.heap.size + 1) va ∧
  Below w.heap.size w (((w.alloc (.cells #[.int .i64 x.op, .bool x.imm, .int .i64 x.dst, .int .i64 x.src, .int .i64 x.off, .int .i64 x.num] 74)).alloc (.cells #[.int .i64 va.kind, .int .u64 va.bits, .int .i64 va.place] 85)).drew) := by
 have b1 := Box6.made w x
 have b2 := Box3.made (w.alloc (.cells #[.int .i64 x.op, .bool x.imm, .int .i64 x.dst, .int .i64 x.src, .int .i64 x.off, .int .i64 x.num] 74)) va
 rw [show (w.alloc (.cells #[.int .i64 x.op, .bool x.imm, .int .i64 x.dst, .int .i64 x.src, .int .i64 x.off, .int .i64 x.num] 74)).heap.size = w.heap.size + 1 from by simp] at b2
 exact ⟨(b1.later (below_alloc _ _)).later (Below.refl _ _).drew, b2.later (Below.refl _ _).drew, (((Below.refl _ _).alloc (Nat.le_refl _) _).alloc (by simp) _).drew⟩

theorem compares_any (p g s cap : Nat) (m : Mac) (x : RI) (w : World) (h : MacAt w p g s cap m) (hd : x.dst < 8) (hs : x.src < 8) (hop1 : 31 ≤ x.op) (hop2 : x.op ≤ 36) :
  Calls Tryz.prog 54 #[.pointer (some ⟨p, 0, none⟩), .agg #[.int .i64 x.op, .bool x.imm, .int .i64 x.dst, .int .i64 x.src, .int .i64 x.off, .int .i64 x.num]] w fun e w' =>
   e = .returned (.bool (m.compares x).2) ∧ MacAt w' p g s cap (m.compares x).1 ∧ Tch p g w w' := by
 have HM := hideM h
 obtain ⟨op, imm, dst, src, off, num⟩ := x
 simp only at hd hs hop1 hop2
 have k0 := h.k dst hd
 have k1 := h.b dst hd
 have k2 := h.pl dst hd
 have lp := h.lp
 have lg := h.lg
 have hne : ¬ w.heap.size = p := by omega
 have hne1 : ¬ w.heap.size + 1 = p := by omega
 have i1 : (0 : Int) ≤ (dst : Int) := by omega
 have i2 : (dst : Int) < 8 := by omega
 clear h
 have hC : m.compares ⟨op, imm, dst, src, off, num⟩ = (m.may (((m.regs dst).kind != 0) && ((m.regs dst).kind == (m.second ⟨op, imm, dst, src, off, num⟩).kind)), holdsB op (lessV (m.regs dst) (m.second ⟨op, imm, dst, src, off, num⟩)) (sameV (m.regs dst) (m.second ⟨op, imm, dst, src, off, num⟩))) := rfl
 rw [hC]
 clear hC
 generalize m.regs dst = va at k0 k1 k2 ⊢
 have K0 : ∀ A B : Obj, ((w.alloc A).alloc B).cell? ⟨p, dst * 3, none⟩ = some (.int .i64 va.kind) := fun A B => by
  rw [World.cell?_alloc_past _ _ _ (by simp; omega), World.cell?_alloc_past _ _ _ (by omega)]; exact k0
 have K1 : ∀ A B : Obj, ((w.alloc A).alloc B).cell? ⟨p, dst * 3 + 1, none⟩ = some (.int .u64 va.bits) := fun A B => by
  rw [World.cell?_alloc_past _ _ _ (by simp; omega), World.cell?_alloc_past _ _ _ (by omega)]; exact k1
 have K2 : ∀ A B : Obj, ((w.alloc A).alloc B).cell? ⟨p, dst * 3 + 2, none⟩ = some (.int .i64 va.place) := fun A B => by
  rw [World.cell?_alloc_past _ _ _ (by simp; omega), World.cell?_alloc_past _ _ _ (by omega)]; exact k2
 go_enter Tryz.func54, Tryz.ntmps54
 go_wp2
 go_region_held3 (fun w' => w'.cell? ⟨w.heap.size, 2, none⟩ = some (.int .i64 dst) ∧ w'.cell? ⟨p, dst * 3, none⟩ = some (.int .i64 va.kind) ∧ w'.cell? ⟨p, dst * 3 + 1, none⟩ = some (.int .u64 va.bits) ∧ w'.cell? ⟨p, dst * 3 + 2, none⟩ = some (.int .i64 va.place)) (go_keep) (fail)
 all_goals go_wp2_with fail
 have hW := cmp_made w ⟨op, imm, dst, src, off, num⟩ va
 simp only at hW
 generalize ((w.alloc (Obj.cells #[.int .i64 op, .bool imm, .int .i64 dst, .int .i64 src, .int .i64 off, .int .i64 num] 74)).alloc
    (Obj.cells #[.int .i64 va.kind, .int .u64 va.bits, .int .i64 va.place] 85)).drew = W3 at hW ⊢
 obtain ⟨x3, a3, bel3⟩ := hW
 have M3 := HM.out.later bel3
 clear K0 K1 K2 k0 k1 k2
 refine (second_any p g s cap m ⟨op, imm, dst, src, off, num⟩ W3 M3 hs).mono ?_
 rintro e w4 ⟨rfl, bel4⟩
 generalize hvb : m.second ⟨op, imm, dst, src, off, num⟩ = vb
 have HVb := hideM hvb
 clear hvb
 have x4 := x3.later bel4
 have a4 := a3.later bel4
 have M4 := M3.later bel4
 have s4 := bel3.size
 have s5 := bel4.size
 have s6 := a3.l
 go_upto_region 3 with fail
 have b5 := Box3.made w4 vb
 have x5 := x4.later (below_alloc w4 (Obj.cells #[.int .i64 vb.kind, .int .u64 vb.bits, .int .i64 vb.place] 85))
 have a5 := a4.later (below_alloc w4 (Obj.cells #[.int .i64 vb.kind, .int .u64 vb.bits, .int .i64 vb.place] 85))
 have M5 := M4.later (below_alloc w4 (Obj.cells #[.int .i64 vb.kind, .int .u64 vb.bits, .int .i64 vb.place] 85))
 have t5 : Tch p g w (w4.alloc (Obj.cells #[.int .i64 vb.kind, .int .u64 vb.bits, .int .i64 vb.place] 85)) := ((Tch.of_below bel3).trans (Tch.of_below bel4)).trans (Tch.of_below (below_alloc _ _))
 generalize w4.alloc (Obj.cells #[.int .i64 vb.kind, .int .u64 vb.bits, .int .i64 vb.place] 85) = W5 at b5 x5 a5 M5 t5 ⊢
 have q0 : w.heap.size + 1 < w4.heap.size := by omega
 generalize w4.heap.size = B4 at b5 q0 ⊢
 clear x3 a3 M3 bel3 x4 a4 M4 bel4 s4 s5 s6
 have a5k := a5.ck
 have b5k := b5.ck
 have HM5 := hideM M5
 have HX5 := hideM x5
 have HA5 := hideM a5
 have HB5 := hideM b5
 have HT5 := hideM t5
 clear M5 x5 a5 b5 t5
 go_cut [] (fun wc => MacAt wc p g s cap (m.may ((va.kind != 0) && (va.kind == vb.kind))) ∧ Tch p g W5 wc)
 case first =>
  cases h0 : (va.kind != 0)
  all_goals
   go_wp2_with (go_at_call 49; refine (may_any p g s cap m _ _ HM5.out).mono ?_; rintro e w' ⟨rfl, hm', ht'⟩)
   go_meet
   case rel => exact ⟨by simpa [h0] using hm', ht'⟩
 case rest =>
  obtain ⟨hm6, ht6⟩ := hcut
  clear a5k b5k
  have x6 := HX5.out.tch ht6 (by omega) (by omega)
  have a6 := HA5.out.tch ht6 (by omega) (by omega)
  have b6 := HB5.out.tch ht6 (by omega) (by omega)
  have HT6 := hideM (HT5.out.trans ht6)
  have HM6 := hideM hm6
  have fx := x6.op
  have fa0 := a6.ck
  have fa1 := a6.cb
  have fa2 := a6.cp
  have fb0 := b6.ck
  have fb1 := b6.cb
  have fb2 := b6.cp
  clear HX5 HA5 HB5 HT5 HM5 ht6 x6 a6 b6 hm6 HM
  cases A1 : (va.kind != 1)
  ·have hA : va.kind = 1 := by simpa using A1
   have HA := hideM hA
   clear hA
   rcases (show op = 31 ∨ op = 32 ∨ op = 33 ∨ op = 34 ∨ op = 35 ∨ op = 36 from by omega) with rfl | rfl | rfl | rfl | rfl | rfl
   all_goals
    go_wp2
    all_goals go_ret
    all_goals exact ⟨ret_bool (by rw [HVb.out]; simp_all [holdsB, lessV, sameV, HA.out]), by rw [HVb.out]; exact HM6.out, HT6.out⟩
  ·have hA : ¬ va.kind = 1 := by simpa using A1
   rcases (show op = 31 ∨ op = 32 ∨ op = 33 ∨ op = 34 ∨ op = 35 ∨ op = 36 from by omega) with rfl | rfl | rfl | rfl | rfl | rfl
   all_goals
    go_wp2
    all_goals go_ret
    all_goals exact ⟨ret_bool (by rw [HVb.out]; simp_all [holdsB, lessV, sameV]), by rw [HVb.out]; exact HM6.out, HT6.out⟩
end Go.Proofs.YtoobileejdhikaaGreat

namespace Go.Proofs.YtoobileejdhikaaGreat
set_option maxRecDepth 100000
set_option maxHeartbeats 2000000
open Go.RowKit
attribute [local go_sem ↓] Go.wp_at_zero Go.wp_at_succ

theorem within_keep (n l h : Int) (w : World) :
  Calls Tryz.prog 40 #[.int .i64 n, .int .i64 l, .int .i64 h] w fun e w' => e = .returned (.bool (withinB n l h)) ∧ w = w' :=
 (within_any n l h w).mono fun _ _ h => ⟨h.1, h.2.symm⟩
def clrB (i : Nat) (v : V) : Bool := withinB (i : Int) 1 3 || (v.kind == 2)
def Mac.clearTo (m : Mac) (k : Nat) : Mac := { m with regs := fun i => if decide (i < k) && clrB i (m.regs i) then vNone else m.regs i }
def Mac.shrink (m : Mac) (n : Int) : Mac := if n ≤ w64 m.frame.length then { m.setReg 0 (nV 0) with frame := m.frame.drop n.toNat } else m
def Mac.call (m : Mac) (n : Int) : Mac :=
 if 1 < n then m.setReg 0 ⟨2, 0, if n = 3 then m.frame.length else 0⟩
 else ((((m.may ((m.regs 1).kind == 1)).clearTo 8).setReg 0 (nV 1))).shrink (m.regs 1).bits

theorem clear_next (m : Mac) (k : Nat) : m.clearTo (k + 1) = if clrB k (m.regs k) then (m.clearTo k).setReg k vNone else m.clearTo k := by
 unfold Mac.clearTo Mac.setReg
 split
 ·rename_i h
  congr 1
  funext i
  by_cases e : i = k
  ·subst e; simp [h]
  ·have : decide (i < k + 1) = decide (i < k) := by by_cases h2 : i < k <;> simp [h2] <;> omega
   simp [e, this]
 ·rename_i h
  congr 1
  funext i
  by_cases e : i = k
  ·subst e; simp [h]
  ·have : decide (i < k + 1) = decide (i < k) := by by_cases h2 : i < k <;> simp [h2] <;> omega
   simp [this]
theorem clear_at (m : Mac) (k : Nat) : (m.clearTo k).regs k = m.regs k := by simp [Mac.clearTo]
theorem clear_zero (m : Mac) : m.clearTo 0 = m := by simp [Mac.clearTo]

theorem MacAt.setSlice {w : World} {p g s cap : Nat} {m : Mac} {a : Option Addr} (h : MacAt w p g s cap m) (hc : w.cell? ⟨p, 56, none⟩ = some (.slice a m.frame.length cap)) (ha : 0 < m.frame.length → a = some ⟨g, s, none⟩) (x : Nat) (hx : x ≤ m.frame.length) :
  MacAt (w.setCell ⟨p, 56, none⟩ (.slice (if cap = x then a else Option.map (fun q => q.add x) a) (m.frame.length - x) (cap - x))) p g (s + x) (cap - x) { m with frame := m.frame.drop x } := by
 have hcp := h.cp
 refine ⟨fun i hi => ?_, fun i hi => ?_, fun i hi => ?_, fun i hi => ?_, ⟨if cap = x then a else Option.map (fun q => q.add x) a, ?_, ?_⟩, ?_, fun o => ?_, fun i hi => ?_, fun i hi => ?_, fun h0 => h.ne (by simp only [List.length_drop] at h0; omega), ?_, ?_, ?_⟩
 ·rw [cell_set_off (by omega)]; exact h.k i hi
 ·rw [cell_set_off (by omega)]; exact h.b i hi
 ·rw [cell_set_off (by omega)]; exact h.pl i hi
 ·rw [cell_set_off (by omega)]; exact h.st i hi
 ·rw [cell_set_same hc]; simp
 ·intro h0
  simp only [List.length_drop] at h0
  rw [if_neg (by omega), ha (by omega)]
  by_cases e : x = 0
  ·subst e; simp [Addr.add]
  ·simp [Addr.add, e]
 ·rw [cell_set_off (by omega)]; exact h.fl
 ·rw [World.frozen?_setCell]; exact h.fz o
 ·simp only [List.length_drop] at hi
  rw [cell_set_blk (Ne.symm (h.ne (by omega))), show s + x + i = s + (x + i) from by omega, h.fc (x + i) (by omega)]
  simp
 ·simp only [List.length_drop] at hi
  rw [World.frozen?_setCell, show s + x + i = s + (x + i) from by omega]; exact h.fg (x + i) (by omega)
 ·simp only [List.length_drop]; omega
 ·rw [size_setCell]; exact h.lp
 ·rw [size_setCell]; exact h.lg

theorem met_reg0 {w wr : World} {p g s cap : Nat} {m : Mac} {v : V} (lp : p < w.heap.size) (lg : g < w.heap.size) (hM : MacAt wr p g s cap m) (hB : Box3 wr w.heap.size v) (hT : Tch p g w wr) (u : V) (o : Obj) :
  MacAt ((((wr.setCell ⟨p, 0, none⟩ (.int .i64 u.kind)).setCell ⟨p, 1, none⟩ (.int .u64 u.bits)).setCell ⟨p, 2, none⟩ (.int .i64 u.place)).alloc o).drew p g s cap (m.setReg 0 u) ∧
  Box3 ((((wr.setCell ⟨p, 0, none⟩ (.int .i64 u.kind)).setCell ⟨p, 1, none⟩ (.int .u64 u.bits)).setCell ⟨p, 2, none⟩ (.int .i64 u.place)).alloc o).drew w.heap.size v ∧
  Tch p g w ((((wr.setCell ⟨p, 0, none⟩ (.int .i64 u.kind)).setCell ⟨p, 1, none⟩ (.int .u64 u.bits)).setCell ⟨p, 2, none⟩ (.int .i64 u.place)).alloc o).drew := by
 have t : Tch p g wr ((((wr.setCell ⟨p, 0, none⟩ (.int .i64 u.kind)).setCell ⟨p, 1, none⟩ (.int .u64 u.bits)).setCell ⟨p, 2, none⟩ (.int .i64 u.place)).alloc o).drew :=
  (((((Tch.refl p g wr).setP _ _).setP _ _).setP _ _).alloc _).drew
 have hm := hM.setRegs 0 (by omega) u
 simp only [Nat.zero_mul, Nat.zero_add] at hm
 exact ⟨(hm.alloc o).drew, hB.tch t (by omega) (by omega), hT.trans t⟩

theorem mcall_place (p g s cap : Nat) (m : Mac) (n : Int) (w : World) (h : MacAt w p g s cap m) (h1 : n = 2 ∨ n = 3) :
  Calls Tryz.prog 55 #[.pointer (some ⟨p, 0, none⟩), .int .i64 n] w fun e w' =>
   e = .returned (.tuple #[]) ∧ MacAt w' p g s cap (m.call n) ∧ Tch p g w w' := by
 have HM := hideM h
 have c0 := h.k 0 (by omega)
 have c1 := h.b 0 (by omega)
 have c2 := h.pl 0 (by omega)
 have z0 := h.fz 0
 have z1 := h.fz 1
 have z2 := h.fz 2
 obtain ⟨a, f56, _⟩ := h.fr
 clear h
 simp only [Nat.zero_mul, Nat.zero_add] at c0 c1 c2
 rcases h1 with rfl | rfl
 ·go_enter Tryz.func55, Tryz.ntmps55
  go_wp2
  first | go_end0 | refine bodyPost_ret (results_none rfl _ _ _) rfl ?_
  have hs := HM.out.setRegs 0 (by omega) ⟨2, 0, 0⟩
  refine ⟨rfl, by simpa [Mac.call] using hs, (((Tch.refl p g w).setP _ _).setP _ _).setP _ _⟩
 ·go_enter Tryz.func55, Tryz.ntmps55
  go_wp2
  first | go_end0 | refine bodyPost_ret (results_none rfl _ _ _) rfl ?_
  have hs := HM.out.setRegs 0 (by omega) ⟨2, 0, m.frame.length⟩
  refine ⟨rfl, by simpa [Mac.call] using hs, (((Tch.refl p g w).setP _ _).setP _ _).setP _ _⟩

theorem mcall_shrink (p g s cap : Nat) (m : Mac) (w : World) (h : MacAt w p g s cap m) (hv : vOk (m.regs 1)) :
  Calls Tryz.prog 55 #[.pointer (some ⟨p, 0, none⟩), .int .i64 1] w fun e w' =>
   e = .returned (.tuple #[]) ∧ (∃ s' cap', MacAt w' p g s' cap' (m.call 1)) ∧ Tch p g w w' := by
 have HM := hideM h
 have lp := h.lp
 have lg := h.lg
 have c0 := h.k 1 (by omega)
 have c1 := h.b 1 (by omega)
 have c2 := h.pl 1 (by omega)
 have HV := hideM hv
 clear h hv
 simp only [Nat.one_mul] at c0 c1 c2
 generalize hv1 : m.regs 1 = v at c0 c1 c2 HV
 have HV1 := hideM hv1
 clear hv1
 go_enter Tryz.func55, Tryz.ntmps55
 go_wp2_with fail
 have b1 := Box3.made w v
 have bel := below_alloc w (Obj.cells #[.int .i64 v.kind, .int .u64 v.bits, .int .i64 v.place] 85)
 have M1 := HM.out.later bel
 have t1 : Tch p g w _ := Tch.of_below bel
 generalize w.alloc (Obj.cells #[.int .i64 v.kind, .int .u64 v.bits, .int .i64 v.place] 85) = W1 at b1 bel M1 t1 ⊢
 clear bel
 refine (may_any p g s cap m _ W1 M1).mono ?_
 rintro e w2 ⟨rfl, hM2, ht2⟩
 have HS : Hid (MacAt w2 p g s cap (m.may (v.kind == 1)) ∧ Box3 w2 w.heap.size v ∧ Tch p g w w2) := ⟨hM2, b1.tch ht2 (by omega) (by omega), t1.trans ht2⟩
 clear b1 M1 t1 hM2 ht2
 generalize hm1 : m.may (v.kind == 1) = m1 at HS
 have HM1 := hideM hm1
 clear hm1
 go_wp2
 go_loopw [6] (fun i wr => ∃ k : Nat, k ≤ 8 ∧ i = .int .i64 k ∧ Hid (MacAt wr p g s cap (m1.clearTo k) ∧ Box3 wr w.heap.size v ∧ Tch p g w wr)) (fun i _ => 8 - (intOf i).toNat)
 case atStart => exact ⟨0, by omega, rfl, by rw [clear_zero]; exact HS⟩
 case round =>
  clear HS c0 c1 c2
  obtain ⟨k, hk, rfl, HS⟩ := hrel
  obtain ⟨hM, hB, hT⟩ := HS.out
  by_cases hlt : k < 8
  ·have k0 := hM.k k hlt
   have k1 := hM.b k hlt
   have k2 := hM.pl k hlt
   have z0 := hM.fz (k * 3)
   have z1 := hM.fz (k * 3 + 1)
   have z2 := hM.fz (k * 3 + 2)
   rw [clear_at] at k0
   clear hM hB hT
   cases hw : withinB (k : Int) 1 3
   ·cases hkd : ((m1.regs k).kind == 2)
    ·go_wp2_with (go_at_call 40; refine (within_keep _ _ _ _).mono ?_; rintro e w' ⟨rfl, rfl⟩)
     go_roundw
     case rel => exact ⟨k + 1, by omega, by go_num, (by
      rw [clear_next, if_neg (by simp [clrB, hw, hkd])]
      exact HS)⟩
     case measure => simp [intOf]; omega
    ·go_wp2_with (go_at_call 40; refine (within_keep _ _ _ _).mono ?_; rintro e w' ⟨rfl, rfl⟩)
     go_roundw
     case rel => exact ⟨k + 1, by omega, by go_num, (by
      obtain ⟨hM, hB, hT⟩ := HS.out
      rw [clear_next, if_pos (by simp [clrB, hkd])]
      exact ⟨hM.setRegs k hlt vNone, hB.tch ((((Tch.refl p g wr).setP _ _).setP _ _).setP _ _) (by omega) (by omega), ((hT.setP _ _).setP _ _).setP _ _⟩)⟩
     case measure => simp [intOf]; omega
   ·go_wp2_with (go_at_call 40; refine (within_keep _ _ _ _).mono ?_; rintro e w' ⟨rfl, rfl⟩)
    go_roundw
    case rel => exact ⟨k + 1, by omega, by go_num, (by
     obtain ⟨hM, hB, hT⟩ := HS.out
     rw [clear_next, if_pos (by simp [clrB, hw])]
     exact ⟨hM.setRegs k hlt vNone, hB.tch ((((Tch.refl p g wr).setP _ _).setP _ _).setP _ _) (by omega) (by omega), ((hT.setP _ _).setP _ _).setP _ _⟩)⟩
    case measure => simp [intOf]; omega
  ·have hk8 : k = 8 := by omega
   subst hk8
   have g0 := hM.k 0 (by omega)
   have g1 := hM.b 0 (by omega)
   have g2 := hM.pl 0 (by omega)
   have hz := hM.fz
   have lpr := hM.lp
   simp only [Nat.zero_mul, Nat.zero_add] at g0 g1 g2
   have a0 : ∀ o, (wr.alloc o).cell? ⟨p, 0, none⟩ = some (.int .i64 ((m1.clearTo 8).regs 0).kind) := fun o => by rw [World.cell?_alloc_past _ _ _ lpr]; exact g0
   have a1 : ∀ o, (wr.alloc o).cell? ⟨p, 1, none⟩ = some (.int .u64 ((m1.clearTo 8).regs 0).bits) := fun o => by rw [World.cell?_alloc_past _ _ _ lpr]; exact g1
   have a2 : ∀ o, (wr.alloc o).cell? ⟨p, 2, none⟩ = some (.int .i64 ((m1.clearTo 8).regs 0).place) := fun o => by rw [World.cell?_alloc_past _ _ _ lpr]; exact g2
   have az : ∀ o i, (wr.alloc o).frozen? ⟨p, i, none⟩ = false := fun o i => by rw [World.frozen?_alloc_past _ _ _ lpr]; exact hz i
   clear hM hB hT
   go_wp2
   go_cut [] (fun wc => MacAt wc p g s cap ((m1.clearTo 8).setReg 0 (nV 1)) ∧ Box3 wc w.heap.size v ∧ Tch p g w wc)
   case first =>
    go_region_with ((go_at_call 71; refine (number_any _ _).mono ?_; rintro e w' ⟨rfl, rfl⟩))
    all_goals go_wp2
    go_meet
    case rel => exact met_reg0 lp lg HS.out.1 HS.out.2.1 HS.out.2.2 (nV 1) _
   case rest =>
    clear a0 a1 a2 az g0 g1 g2 hz lpr HS
    obtain ⟨hM, hB, hT⟩ := hcut
    generalize hm3 : (m1.clearTo 8).setReg 0 (nV 1) = m3 at hM
    have HM3 := hideM hm3
    clear hm3
    have HMc := hideM hM
    have HBc := hideM hB
    have HTc := hideM hT
    have v1 := hB.cb
    obtain ⟨a, f56, hfa⟩ := hM.fr
    have HFA := hideM hfa
    clear hM hB hT hfa
    obtain ⟨bq, hbq⟩ : ∃ bq : Bool, decide (v.bits ≤ w64 m3.frame.length) = bq := ⟨_, rfl⟩
    have HBQ := hideM hbq
    clear hbq
    go_upto_region 13 with fail
    go_cut [67] (fun s67 wd => s67 = .bool bq ∧ wd = wc.drew)
    case first =>
     go_region_held3 (fun w' => w'.cell? ⟨w.heap.size, 1, none⟩ = some (.int .u64 v.bits) ∧ w'.cell? ⟨p, 56, none⟩ = some (.slice a m3.frame.length cap)) (go_keep) (fail)
     all_goals go_wp2
     go_meet
     case rel => exact ⟨congrArg Value.bool HBQ.out, rfl⟩
    case rest =>
     obtain ⟨rfl, rfl⟩ := hcut
     cases bq
     ·go_wp2
      first | go_end0 | refine bodyPost_ret (results_none rfl _ _ _) rfl ?_
      refine ⟨rfl, ⟨s, cap, ?_⟩, HTc.out.drew⟩
      have hc : m.call 1 = m3 := by
       have hle : ¬ v.bits ≤ w64 m3.frame.length := by simpa using HBQ.out
       have hfr : ((m1.clearTo 8).setReg 0 (nV 1)).frame.length = m3.frame.length := by rw [HM3.out]
       unfold Mac.call
       rw [if_neg (by omega), HV1.out, HM1.out, HM3.out]
       unfold Mac.shrink
       rw [if_neg hle]
      rw [hc]
      exact HMc.out.drew
     ·have hle : v.bits ≤ w64 m3.frame.length := by simpa using HBQ.out
      have hcp := HMc.out.cp
      rw [w64_eq] at hle
      obtain ⟨x, hx⟩ := Int.eq_ofNat_of_zero_le HV.out.1
      have hxl : x ≤ m3.frame.length := by omega
      have HX := hideM hx
      rw [hx] at v1
      clear hle hx
      have hxc : x ≤ cap := by omega
      have j1 : (0 : Int) ≤ (x : Int) := by omega
      have j2 : (x : Int) ≤ (m3.frame.length : Int) := by omega
      have j3 : (x : Int) ≤ (cap : Int) := by omega
      have j4 : IntKind.i64.wrap (x : Int) = (x : Int) := by rw [IntKind.wrap_i64]; omega
      have z56 := HMc.out.fz 56
      have e0 : ¬ w.heap.size = p := by omega
      go_upto_region 14 with fail
      go_cut [] (fun wd => wd = (wc.setCell ⟨p, 56, none⟩ (.slice (if cap = x then a else Option.map (fun q => q.add x) a) (m3.frame.length - x) (cap - x))).drew.drew)
      case first =>
       go_region
       all_goals go_wp2
       all_goals (go_meet; case rel => first | rfl | (have hq : cap = x := (by assumption); simp [hq]) | (have hq : ¬ cap = x := (by assumption); simp [hq]))
      case rest =>
       obtain rfl := hcut
       have HS3 : Hid (MacAt (wc.setCell ⟨p, 56, none⟩ (.slice (if cap = x then a else Option.map (fun q => q.add x) a) (m3.frame.length - x) (cap - x))).drew.drew p g (s + x) (cap - x) { m3 with frame := m3.frame.drop x } ∧
         Box3 (wc.setCell ⟨p, 56, none⟩ (.slice (if cap = x then a else Option.map (fun q => q.add x) a) (m3.frame.length - x) (cap - x))).drew.drew w.heap.size v ∧ Tch p g w (wc.setCell ⟨p, 56, none⟩ (.slice (if cap = x then a else Option.map (fun q => q.add x) a) (m3.frame.length - x) (cap - x))).drew.drew) :=
        ⟨((HMc.out.setSlice f56 HFA.out x hxl).drew).drew, HBc.out.tch ((((Tch.refl p g wc).setP _ _).drew).drew) (by omega) (by omega), ((HTc.out.setP _ _).drew).drew⟩
       generalize (wc.setCell ⟨p, 56, none⟩ (.slice (if cap = x then a else Option.map (fun q => q.add x) a) (m3.frame.length - x) (cap - x))).drew.drew = wr2 at HS3 ⊢
       have hM := HS3.out.1
       have g0 := hM.k 0 (by omega)
       have g1 := hM.b 0 (by omega)
       have g2 := hM.pl 0 (by omega)
       have hz := hM.fz
       have lpr := hM.lp
       simp only [Nat.zero_mul, Nat.zero_add] at g0 g1 g2
       have a0 : ∀ o, (wr2.alloc o).cell? ⟨p, 0, none⟩ = some (.int .i64 (m3.regs 0).kind) := fun o => by rw [World.cell?_alloc_past _ _ _ lpr]; exact g0
       have a1 : ∀ o, (wr2.alloc o).cell? ⟨p, 1, none⟩ = some (.int .u64 (m3.regs 0).bits) := fun o => by rw [World.cell?_alloc_past _ _ _ lpr]; exact g1
       have a2 : ∀ o, (wr2.alloc o).cell? ⟨p, 2, none⟩ = some (.int .i64 (m3.regs 0).place) := fun o => by rw [World.cell?_alloc_past _ _ _ lpr]; exact g2
       have az : ∀ o i, (wr2.alloc o).frozen? ⟨p, i, none⟩ = false := fun o i => by rw [World.frozen?_alloc_past _ _ _ lpr]; exact hz i
       clear hM f56 v1 HFA
       go_wp2
       go_region_with ((go_at_call 71; refine (number_any _ _).mono ?_; rintro e w' ⟨rfl, rfl⟩))
       all_goals go_wp2
       first | go_end0 | refine bodyPost_ret (results_none rfl _ _ _) rfl ?_
       obtain ⟨q1, q2, q3⟩ := met_reg0 lp lg HS3.out.1 HS3.out.2.1 HS3.out.2.2 (nV 0) (Obj.cells #[.int .i64 1, .int .u64 0, .int .i64 0] 85)
       refine ⟨rfl, ⟨s + x, cap - x, ?_⟩, q3⟩
       have hc : m.call 1 = Mac.setReg { m3 with frame := m3.frame.drop x } 0 (nV 0) := by
        have hle : v.bits ≤ w64 m3.frame.length := by simpa using HBQ.out
        unfold Mac.call
        rw [if_neg (by omega), HV1.out, HM1.out, HM3.out]
        unfold Mac.shrink
        rw [if_pos hle, HX.out]
        rfl
       rw [hc]
       exact q1
end Go.Proofs.YtoobileejdhikaaGreat

namespace Go.Proofs.YtoobileejdhikaaGreat
open Go.RowKit

def stepR (m : Mac) (x : RI) : Mac × Bool :=
 if x.op = 1 then ((m.may ((m.second x).kind != 0)).setReg x.dst (m.second x), false)
 else if withinB x.op 2 11 then ((m.work x).1.setReg x.dst (m.work x).2, false)
 else if withinB x.op 20 23 then ((m.load (m.regs x.src) x.off (sizeR x.op).toNat).1.setReg x.dst (m.load (m.regs x.src) x.off (sizeR x.op).toNat).2, false)
 else if withinB x.op 24 27 then (m.store (m.regs x.dst) x.off (sizeR x.op).toNat (m.regs x.src), false)
 else if x.op = 30 then (m, true)
 else if withinB x.op 31 36 then m.compares x
 else (m.call x.num, false)
def runGo (L : Nat → RI) : Nat → Mac → Nat → Bool × Int × List Int
 | 0, _, _ => (true, 0, [])
 | f + 1, m, k =>
  if (L k).op = 41 then (if (m.may (((m.regs 0).kind == 1) && decide ((m.regs 0).bits ≤ 3))).fault then (true, 0, []) else (false, (m.regs 0).bits, m.frame))
  else if (stepR m (L k)).1.fault then (true, 0, [])
  else runGo L f (stepR m (L k)).1 (if (stepR m (L k)).2 then k + 1 + (L k).off.toNat else k + 1)
def start (frame : List Int) : Mac :=
 { regs := fun i => if i = 1 then ⟨2, 0, 0⟩ else if i = 2 then ⟨2, 0, frame.length⟩ else if i = 7 then ⟨3, 0, 0⟩ else vNone, stack := fun _ => 0, frame := frame, fault := false }

structure CodeOk (L : Nat → RI) (n : Nat) : Prop where
 pos : 1 ≤ n
 le : n ≤ 64
 dst : ∀ i, i < n → (L i).dst < 8
 src : ∀ i, i < n → (L i).src < 8
 off : ∀ i, i < n → -32768 ≤ (L i).off ∧ (L i).off ≤ 32767
 ops : ∀ i, i < n → (1 ≤ (L i).op ∧ (L i).op ≤ 11) ∨ (20 ≤ (L i).op ∧ (L i).op ≤ 27) ∨ (30 ≤ (L i).op ∧ (L i).op ≤ 36) ∨ (L i).op = 40 ∨ (L i).op = 41
 goes : ∀ i, i < n → 30 ≤ (L i).op → (L i).op ≤ 36 → 0 ≤ (L i).off ∧ (i : Int) + 1 + (L i).off < n
 calls : ∀ i, i < n → (L i).op = 40 → 1 ≤ (L i).num ∧ (L i).num ≤ 3
 last : ∀ i, i < n → (L i).op ≠ 41 → i + 1 < n

def vGood (v : V) : Prop := 0 ≤ v.bits ∧ v.bits < 18446744073709551616 ∧ -1000 ≤ v.place ∧ v.place ≤ 1000
theorem vGood.ok {v : V} (h : vGood v) : vOk v := ⟨h.1, h.2.1, by have := h.2.2.1; omega, by have := h.2.2.2; omega⟩
def MacOk (m : Mac) : Prop := (∀ i, i < 8 → vGood (m.regs i)) ∧ m.fault = false ∧ m.frame.length ≤ 64

theorem w64_rng (n : Int) : 0 ≤ w64 n ∧ w64 n < 18446744073709551616 := by rw [w64_eq]; omega
theorem nV_good {n : Int} (h0 : 0 ≤ n) (h1 : n < 18446744073709551616) : vGood (nV n) := ⟨h0, h1, by simp [nV], by simp [nV]⟩
theorem may_false {m : Mac} {ok : Bool} (h : (m.may ok).fault = false) : ok = true := by
 cases ok
 ·simp [Mac.may] at h
 ·rfl
theorem may_true (m : Mac) : m.may true = m := rfl
theorem may_frame (m : Mac) (ok : Bool) : (m.may ok).frame = m.frame := by cases ok <;> rfl
theorem may_regs (m : Mac) (ok : Bool) : (m.may ok).regs = m.regs := by cases ok <;> rfl
theorem may_stack (m : Mac) (ok : Bool) : (m.may ok).stack = m.stack := by cases ok <;> rfl

theorem bitR_rng (op : Int) (k : Nat) : ∀ a b p out : Int, 0 ≤ out → out < 18446744073709551616 → 0 ≤ bitR op k a b p out ∧ bitR op k a b p out < 18446744073709551616 := by
 induction k with
 | zero => intro a b p out h0 h1; exact ⟨h0, h1⟩
 | succ k ih =>
  intro a b p out h0 h1
  unfold bitR
  refine ih _ _ _ _ ?_ ?_
  ·split
   ·exact (w64_rng _).1
   ·exact h0
  ·split
   ·exact (w64_rng _).2
   ·exact h1
theorem numR_rng (op a b : Int) (ha : 0 ≤ a) (ha2 : a < 18446744073709551616) : 0 ≤ numR op a b ∧ numR op a b < 18446744073709551616 := by
 unfold numR
 repeat' split
 all_goals first | exact w64_rng _ | exact ⟨ha, ha2⟩ | exact bitR_rng _ _ _ _ _ _ (by omega) (by omega) | omega

theorem second_good {m : Mac} (h : MacOk m) (x : RI) (hs : x.src < 8) : vGood (m.second x) := by
 unfold Mac.second
 split
 ·exact nV_good (w64_rng _).1 (w64_rng _).2
 ·exact h.1 _ hs
theorem moved_good {m : Mac} {pv nv : V} {sg : Int} (hp : vGood pv) (hf : (m.moved pv nv sg).1.fault = false) : (m.moved pv nv sg).1 = m ∧ vGood (m.moved pv nv sg).2 := by
 unfold Mac.moved at hf ⊢
 split at hf
 ·rename_i hn
  rw [if_pos hn]
  have h := may_false hf
  have h' := h
  simp [placeB] at h'
  simp only [h, may_true]
  exact ⟨trivial, hp.1, hp.2.1, h'.1, h'.2⟩
 ·exact absurd (may_false hf) (by simp)
theorem may_both {m : Mac} {o : Bool} (h : ((m.may o).may false).fault = false) : False := absurd (may_false h) (by simp)
theorem work_good {m : Mac} (h : MacOk m) (x : RI) (hd : x.dst < 8) (hs : x.src < 8) (hf : (m.work x).1.fault = false) : (m.work x).1 = m ∧ vGood (m.work x).2 := by
 have ha := h.1 _ hd
 have hb := second_good h x hs
 unfold Mac.work at hf ⊢
 simp only at hf ⊢
 have mv : ∀ (o : Bool) (pv nv : V) (sg : Int), vGood pv → ((m.may o).moved pv nv sg).1.fault = false → ((m.may o).moved pv nv sg).1 = m ∧ vGood ((m.may o).moved pv nv sg).2 := fun o pv nv sg hp hq => by
  obtain ⟨e1, e2⟩ := moved_good hp hq
  rw [e1] at hq
  have := may_false hq
  subst this
  exact ⟨e1, e2⟩
 by_cases c1 : (m.regs x.dst).kind = 1 ∧ (m.second x).kind = 1
 ·rw [if_pos c1] at hf ⊢
  exact ⟨by have := may_false hf; rw [this]; rfl, nV_good (numR_rng _ _ _ ha.1 ha.2.1).1 (numR_rng _ _ _ ha.1 ha.2.1).2⟩
 rw [if_neg c1] at hf ⊢
 by_cases c2 : x.op = 2 ∧ (m.second x).kind = 1
 ·rw [if_pos c2] at hf ⊢; exact mv _ _ _ _ ha hf
 rw [if_neg c2] at hf ⊢
 by_cases c3 : x.op = 2 ∧ (m.regs x.dst).kind = 1
 ·rw [if_pos c3] at hf ⊢; exact mv _ _ _ _ hb hf
 rw [if_neg c3] at hf ⊢
 by_cases c4 : x.op = 3 ∧ (m.second x).kind = 1
 ·rw [if_pos c4] at hf ⊢; exact mv _ _ _ _ ha hf
 rw [if_neg c4] at hf ⊢
 by_cases c5 : x.op = 3 ∧ (m.regs x.dst).kind = (m.second x).kind
 ·rw [if_pos c5] at hf ⊢
  exact ⟨by have := may_false hf; rw [this]; rfl, nV_good (w64_rng _).1 (w64_rng _).2⟩
 rw [if_neg c5] at hf
 exact (may_both hf).elim

theorem loadGo_good {m : Mac} (pv : V) (off : Int) (k : Nat) : ∀ i n u : Int, 0 ≤ n → n < 18446744073709551616 → (m.loadGo pv off k i n u).1.fault = false → (m.loadGo pv off k i n u).1 = m ∧ vGood (m.loadGo pv off k i n u).2 := by
 induction k with
 | zero => intro i n u h0 h1 _; exact ⟨rfl, nV_good h0 h1⟩
 | succ k ih =>
  intro i n u h0 h1 hf
  unfold Mac.loadGo at hf ⊢
  by_cases c : (m.byteAt pv (off + i)).2
  ·rw [if_pos c] at hf ⊢; exact ih _ _ _ (w64_rng _).1 (w64_rng _).2 hf
  ·rw [if_neg c] at hf; exact absurd (may_false hf) (by simp)
theorem load_good {m : Mac} (pv : V) (off : Int) (sz : Nat) (hf : (m.load pv off sz).1.fault = false) : (m.load pv off sz).1 = m ∧ vGood (m.load pv off sz).2 :=
 loadGo_good pv off sz 0 0 1 (by omega) (by omega) hf
theorem putByte_regs (m : Mac) (pv : V) (i c : Int) : (m.putByte pv i c).regs = m.regs ∧ (m.putByte pv i c).fault = m.fault ∧ (m.putByte pv i c).frame.length = m.frame.length := by
 unfold Mac.putByte
 split <;> simp
theorem storeGo_good (pv : V) (off : Int) (k : Nat) : ∀ (m : Mac) (i n : Int), (Mac.storeGo pv off k m i n).fault = false → (Mac.storeGo pv off k m i n).regs = m.regs ∧ (Mac.storeGo pv off k m i n).frame.length = m.frame.length := by
 induction k with
 | zero => intro m i n _; exact ⟨rfl, rfl⟩
 | succ k ih =>
  intro m i n hf
  unfold Mac.storeGo at hf ⊢
  by_cases c : (m.may (m.byteAt pv (off + i)).2).fault
  ·rw [if_pos c] at hf; rw [hf] at c; simp at c
  ·rw [if_neg c] at hf ⊢
   obtain ⟨e1, e2⟩ := ih _ _ _ hf
   have := putByte_regs m pv (m.byteAt pv (off + i)).1 (n % 256)
   exact ⟨e1.trans this.1, e2.trans this.2.2⟩
theorem store_good {m : Mac} (pv v : V) (off : Int) (sz : Nat) (hf : (m.store pv off sz v).fault = false) : (m.store pv off sz v).regs = m.regs ∧ (m.store pv off sz v).frame.length = m.frame.length := by
 obtain ⟨e1, e2⟩ := storeGo_good pv off sz (m.may (v.kind == 1)) 0 v.bits hf
 exact ⟨by rw [Mac.store, e1, may_regs], by rw [Mac.store, e2, may_frame]⟩

theorem setReg_good {m : Mac} (h : MacOk m) (d : Nat) (v : V) (hv : vGood v) : MacOk (m.setReg d v) :=
 ⟨fun i hi => by
  show vGood (if i = d then v else m.regs i)
  split
  ·exact hv
  ·exact h.1 i hi, h.2.1, h.2.2⟩
theorem vNone_good : vGood vNone := ⟨by simp [vNone], by simp [vNone], by simp [vNone], by simp [vNone]⟩
theorem call_good {m : Mac} (h : MacOk m) (n : Int) (hf : (m.call n).fault = false) : MacOk (m.call n) := by
 unfold Mac.call at hf ⊢
 by_cases c : 1 < n
 ·rw [if_pos c]
  refine setReg_good h 0 _ ⟨by simp, by simp, ?_, ?_⟩ <;> simp only <;> have := h.2.2 <;> split <;> omega
 ·rw [if_neg c] at hf ⊢
  have hm : ((m.may ((m.regs 1).kind == 1)).clearTo 8).fault = false := by
   have e : (((((m.may ((m.regs 1).kind == 1)).clearTo 8).setReg 0 (nV 1))).shrink (m.regs 1).bits).fault = (m.may ((m.regs 1).kind == 1)).fault := by
    unfold Mac.shrink
    split <;> rfl
   rw [e] at hf; exact hf
  have hm' : (m.may ((m.regs 1).kind == 1)).fault = false := hm
  rw [may_false hm', may_true]
  have h1 : MacOk (m.clearTo 8) := ⟨fun i hi => by
   show vGood (if decide (i < 8) && clrB i (m.regs i) then vNone else m.regs i)
   split
   ·exact vNone_good
   ·exact h.1 i hi, h.2.1, h.2.2⟩
  have h2 := setReg_good h1 0 (nV 1) (nV_good (by omega) (by omega))
  unfold Mac.shrink
  split
  ·have h3 := setReg_good h2 0 (nV 0) (nV_good (by omega) (by omega))
   exact ⟨h3.1, h3.2.1, by show (List.drop _ _).length ≤ 64; rw [List.length_drop]; have := h2.2.2; omega⟩
  ·exact h2
theorem step_good {m : Mac} (h : MacOk m) (x : RI) (hd : x.dst < 8) (hs : x.src < 8) (hf : (stepR m x).1.fault = false) : MacOk (stepR m x).1 := by
 unfold stepR at hf ⊢
 by_cases c1 : x.op = 1
 ·rw [if_pos c1] at hf ⊢
  have hf' : (m.may ((m.second x).kind != 0)).fault = false := hf
  simp only [may_false hf', may_true]
  exact setReg_good h _ _ (second_good h x hs)
 rw [if_neg c1] at hf ⊢
 by_cases c2 : withinB x.op 2 11
 ·rw [if_pos c2] at hf ⊢
  have hf' : (m.work x).1.fault = false := hf
  obtain ⟨e1, e2⟩ := work_good h x hd hs hf'
  simp only [e1]
  exact setReg_good h _ _ e2
 rw [if_neg c2] at hf ⊢
 by_cases c3 : withinB x.op 20 23
 ·rw [if_pos c3] at hf ⊢
  have hf' : (m.load (m.regs x.src) x.off (sizeR x.op).toNat).1.fault = false := hf
  obtain ⟨e1, e2⟩ := load_good _ _ _ hf'
  simp only [e1]
  exact setReg_good h _ _ e2
 rw [if_neg c3] at hf ⊢
 by_cases c4 : withinB x.op 24 27
 ·rw [if_pos c4] at hf ⊢
  obtain ⟨e1, e2⟩ := store_good _ _ _ _ hf
  exact ⟨fun i hi => by show vGood ((m.store _ _ _ _).regs i); rw [e1]; exact h.1 i hi, hf, by show (m.store _ _ _ _).frame.length ≤ 64; rw [e2]; exact h.2.2⟩
 rw [if_neg c4] at hf ⊢
 by_cases c5 : x.op = 30
 ·rw [if_pos c5]; exact h
 rw [if_neg c5] at hf ⊢
 by_cases c6 : withinB x.op 31 36
 ·rw [if_pos c6] at hf ⊢
  have hf' : (m.compares x).1.fault = false := hf
  unfold Mac.compares at hf' ⊢
  simp only [may_false hf', may_true]
  exact h
 rw [if_neg c6] at hf ⊢
 exact call_good h _ hf
end Go.Proofs.YtoobileejdhikaaGreat
