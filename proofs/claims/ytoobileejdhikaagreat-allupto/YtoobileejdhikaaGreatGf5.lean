/-
  The document's look for plain code: from.
  The document's look for plain code: called.
-/
import Derived.Test.YtoobileejdhikaaGreatGf3
import Derived.Deep.RegionHeld3
import Derived.Deep.DrawnRows
namespace Go.Proofs.YtoobileejdhikaaGreat
set_option maxRecDepth 100000
set_option maxHeartbeats 4000000
open Go.RowKit
attribute [local go_sem ↓] Go.wp_at_zero Go.wp_at_succ

def fromB (x : RI) (b : Bool) (j i : Nat) : Bool × Bool :=
 if !b || x.op == 41 then (false, false) else (withinB x.op 30 36 && ((j : Int) + 1 + x.off == i), !(x.op == 30) && (j + 1 == i))
theorem fromP_B (x : RI) (t : PL) (j i : Nat) : fromP x t j i = fromB x t.way j i := rfl

theorem from_any (p lb lcap n i tt : Nat) (L : Nat → RI) (way : Nat → Bool) (sure : Nat → Int) (mov : Nat → Bool) (w : World) (h : LkAt w p lb lcap n L way sure mov) (hi : i < n) (hn : n ≤ 64) (ht : tt ≤ 64) (ho : -32768 ≤ (L i).off ∧ (L i).off ≤ 32767) :
  Calls Tryz.prog 143 #[.pointer (some ⟨p, 0, none⟩), .int .i64 i, .int .i64 tt] w fun e w' => e = .returned (.tuple #[.bool (fromB (L i) (way i) i tt).1, .bool (fromB (L i) (way i) i tt).2]) ∧ Below w.heap.size w w' := by
 have c0 := h.l
 have c1 := h.way i (by omega)
 have f0 := h.la.op i hi
 have f1 := h.la.imm i hi
 have f2 := h.la.dst i hi
 have f3 := h.la.src i hi
 have f4 := h.la.off i hi
 have f5 := h.la.num i hi
 have lp := h.lp
 have ll := h.la.lt
 have n1 : ¬ w.heap.size = p := by omega
 have i1 : (i : Int) < (n : Int) := by omega
 have i2 : (i : Int) < 65 := by omega
 have i0 : (0 : Int) ≤ (i : Int) := by omega
 clear h
 generalize hx : L i = x at f0 f1 f2 f3 f4 f5 ho ⊢
 obtain ⟨op, imm, dst, src, off, num⟩ := x
 simp only at f0 f1 f2 f3 f4 f5 ho
 generalize way i = b at c1 ⊢
 clear hx
 have HI : Hid (i < n ∧ n ≤ 64 ∧ tt ≤ 64) := ⟨hi, hn, ht⟩
 cases b
 ·go_enter Tryz.func143, Tryz.ntmps143
  go_wp2_with fail
  go_ret2
  exact ⟨rfl, below_alloc _ _⟩
 ·cases h41 : (op == 41)
  ·have e1 : fromB ⟨op, imm, dst, src, off, num⟩ true i tt = (withinB op 30 36 && ((i : Int) + 1 + off == tt), !(op == 30) && (i + 1 == tt)) := by
    show (if (!true || op == 41) = true then _ else _) = _
    rw [h41]; rfl
   rw [e1]
   clear e1
   have HB : Hid ((i + 1 == tt) = ((i : Int) + 1 == (tt : Int))) := by
    show _ = _
    by_cases q : i + 1 = tt
    ·rw [beq_iff_eq.2 q]; symm; rw [beq_iff_eq]; omega
    ·rw [beq_eq_false_iff_ne.2 q]; symm; rw [beq_eq_false_iff_ne]; omega
   rw [HB.out]
   by_cases h30 : op = 30
   ·subst h30
    have hw : withinB 30 30 36 = true := rfl
    rw [hw]
    go_enter Tryz.func143, Tryz.ntmps143
    go_wp2_with (go_at_call 40; refine (within_keep _ _ _ _).mono ?_; rintro e w' ⟨rfl, rfl⟩)
    go_ret2
    exact ⟨rfl, by first | exact below_alloc _ _ | exact (below_alloc _ _).drew⟩
   cases hw : withinB op 30 36
   all_goals
    go_enter Tryz.func143, Tryz.ntmps143
    go_wp2_with (go_at_call 40; refine (within_keep _ _ _ _).mono ?_; rintro e w' ⟨rfl, rfl⟩)
    go_ret2
    exact ⟨rfl, by first | exact below_alloc _ _ | exact (below_alloc _ _).drew⟩
  ·have e1 : fromB ⟨op, imm, dst, src, off, num⟩ true i tt = (false, false) := by
    show (if (!true || op == 41) = true then _ else _) = _
    rw [h41]; rfl
   rw [e1]
   clear e1
   go_enter Tryz.func143, Tryz.ntmps143
   go_wp2_with fail
   go_ret2
   exact ⟨rfl, below_alloc _ _⟩
end Go.Proofs.YtoobileejdhikaaGreat

namespace Go.Proofs.YtoobileejdhikaaGreat
set_option maxRecDepth 100000
set_option maxHeartbeats 4000000
open Go.RowKit
attribute [local go_sem ↓] Go.wp_at_zero Go.wp_at_succ

structure Box2 (W : World) (b : Nat) (v : HK) : Prop where
 ck : W.cell? ⟨b, 0, none⟩ = some (.int .i64 v.kind)
 cn : W.cell? ⟨b, 1, none⟩ = some (.int .i64 v.k)
 cz : ∀ o, W.frozen? ⟨b, o, none⟩ = false
 l : b < W.heap.size
theorem Box2.same {W W' : World} {b : Nat} {v : HK} (h : Box2 W b v) (hb : W'.heap[b]? = W.heap[b]?) (hs : W.heap.size ≤ W'.heap.size) : Box2 W' b v := by
 have c : ∀ o, W'.cell? ⟨b, o, none⟩ = W.cell? ⟨b, o, none⟩ := fun o => by simp [World.cell?, hb]
 exact ⟨(c _).trans h.ck, (c _).trans h.cn, fun o => (World.frozen?_of_block hb).trans (h.cz o), Nat.lt_of_lt_of_le h.l hs⟩
theorem Box2.later {W W' : World} {b : Nat} {v : HK} (h : Box2 W b v) (hb : Below W.heap.size W W') : Box2 W' b v := h.same (hb.block b h.l) hb.size
theorem Box2.tch {p g : Nat} {W W' : World} {b : Nat} {v : HK} (h : Box2 W b v) (ht : Tch p g W W') (h1 : b ≠ p) (h2 : b ≠ g) : Box2 W' b v := h.same (ht.block b h.l h1 h2) ht.size
theorem Box2.made (W : World) (v : HK) : Box2 (W.alloc (.cells #[.int .i64 v.kind, .int .i64 v.k] 132)) W.heap.size v :=
 ⟨by simp, by simp, fun o => World.frozen?_alloc_new _ _ _ _, by simp⟩
theorem Box2.zero (W : World) : Box2 (W.alloc (.cells #[.int .i64 0, .int .i64 0] 132)) W.heap.size ⟨0, 0⟩ := Box2.made W ⟨0, 0⟩
theorem Box2.put {W : World} {b : Nat} {v : HK} (h : Box2 W b v) (u : HK) : Box2 ((W.setCell ⟨b, 0, none⟩ (.int .i64 u.kind)).setCell ⟨b, 1, none⟩ (.int .i64 u.k)) b u :=
 ⟨by rw [cell_set_off (by omega)]; exact cell_set_same h.ck, cell_set_same (v := .int .i64 v.k) (by rw [cell_set_off (by omega)]; exact h.cn), fun o => by rw [World.frozen?_setCell, World.frozen?_setCell]; exact h.cz o, by rw [size_setCell, size_setCell]; exact h.l⟩
theorem Box2.alloc {W : World} {b : Nat} {v : HK} (h : Box2 W b v) (o : Obj) : Box2 (W.alloc o) b v := h.later (below_alloc _ _)
theorem LkAt.alloc {w : World} {p lb lcap n : Nat} {L : Nat → RI} {way : Nat → Bool} {sure : Nat → Int} {mov : Nat → Bool} (h : LkAt w p lb lcap n L way sure mov) (o : Obj) : LkAt (w.alloc o) p lb lcap n L way sure mov := h.later (below_alloc _ _)
def AtC (p lb lcap n : Nat) (L : Nat → RI) (way : Nat → Bool) (sure : Nat → Int) (mov : Nat → Bool) (i : Nat) : Prop :=
 ∀ (r : Nat) (w : World), r < 8 → LkAt w p lb lcap n L way sure mov → Calls Tryz.prog 144 #[.pointer (some ⟨p, 0, none⟩), .int .i64 i, .int .i64 r] w fun e w' =>
  e = .returned (.agg #[.int .i64 ((lkP L i).held r).kind, .int .i64 ((lkP L i).held r).k]) ∧ LkAt w' p lb lcap n L way sure mov ∧ Tch p p w w'

theorem called_1 (p lb lcap n i r : Nat) (L : Nat → RI) (way : Nat → Bool) (sure : Nat → Int) (mov : Nat → Bool) (w : World) (h : LkAt w p lb lcap n L way sure mov) (hi : i < n) (m kd kn : Int) (hm : (L i).num = m)
  (hat : ∀ w, LkAt w p lb lcap n L way sure mov → Calls Tryz.prog 144 #[.pointer (some ⟨p, 0, none⟩), .int .i64 i, .int .i64 r] w fun e w' => e = .returned (.agg #[.int .i64 kd, .int .i64 kn]) ∧ LkAt w' p lb lcap n L way sure mov ∧ Tch p p w w') (hr : r = 0) (h1 : m = 1) :
  Calls Tryz.prog 198 #[.pointer (some ⟨p, 0, none⟩), .int .i64 i, .int .i64 r] w fun e w' => e = .returned (.agg #[.int .i64 1, .int .i64 0]) ∧ LkAt w' p lb lcap n L way sure mov ∧ Tch p p w w' := by
 have c0 := h.l
 have f5 := h.la.num i hi
 rw [hm] at f5
 have i1 : (i : Int) < (n : Int) := by omega
 have i0 : (0 : Int) ≤ (i : Int) := by omega
 have lp := h.lp
 have ll := h.la.lt
 have n1 : ¬ w.heap.size = p := by omega
 have n2 : ¬ w.heap.size = lb := by omega
 have HH := hideM h
 have HA := hideM hat
 clear h hat hm hi
 subst hr h1
 go_enter Tryz.func198, Tryz.ntmps198
 go_wp2_with fail
 refine (HA.out _ (HH.out.later (below_alloc _ _))).mono ?_
 rintro e w2 ⟨rfl, h2, t2⟩
 have x2 := (Box2.zero w).tch t2 (by omega) (by omega)
 have HT2 : Hid (Tch p p w w2) := (Tch.of_below (below_alloc _ _)).trans t2
 have k0 := x2.ck
 have k1 := x2.cn
 have z0 := x2.cz 0
 have z1 := x2.cz 1
 have hl := x2.l
 have n3 : ¬ w2.heap.size = w.heap.size := by omega
 have n4 : ¬ w.heap.size = w2.heap.size := by omega
 have HH2 := hideM h2
 have HX2 := hideM x2
 clear h2 t2 HH HA x2
 go_wp2_with (go_at_call 40; refine (within_keep _ _ _ _).mono ?_; rintro e w' ⟨rfl, rfl⟩)
 have HX3 := (HX2.out.put ⟨1, 0⟩).alloc (.cells #[.int .i64 kd, .int .i64 kn] 132)
 have y0 := HX3.ck
 have y1 := HX3.cn
 exact bodyPost_ret (v := .agg #[.int .i64 1, .int .i64 0]) (by simp [results, Tryz.results198, go_sem, y0, y1]) rfl ⟨rfl, ((HH2.out.away n1 n2 _).away n1 n2 _).alloc _, ((HT2.out.setNew (Nat.le_refl _) _ _).setNew (Nat.le_refl _) _ _).alloc _⟩
theorem called_2 (p lb lcap n i r : Nat) (L : Nat → RI) (way : Nat → Bool) (sure : Nat → Int) (mov : Nat → Bool) (w : World) (h : LkAt w p lb lcap n L way sure mov) (hi : i < n) (m kd kn : Int) (hm : (L i).num = m)
  (hat : ∀ w, LkAt w p lb lcap n L way sure mov → Calls Tryz.prog 144 #[.pointer (some ⟨p, 0, none⟩), .int .i64 i, .int .i64 r] w fun e w' => e = .returned (.agg #[.int .i64 kd, .int .i64 kn]) ∧ LkAt w' p lb lcap n L way sure mov ∧ Tch p p w w') (hr : r = 0) (h2 : m = 2) :
  Calls Tryz.prog 198 #[.pointer (some ⟨p, 0, none⟩), .int .i64 i, .int .i64 r] w fun e w' => e = .returned (.agg #[.int .i64 4, .int .i64 0]) ∧ LkAt w' p lb lcap n L way sure mov ∧ Tch p p w w' := by
 have c0 := h.l
 have f5 := h.la.num i hi
 rw [hm] at f5
 have i1 : (i : Int) < (n : Int) := by omega
 have i0 : (0 : Int) ≤ (i : Int) := by omega
 have lp := h.lp
 have ll := h.la.lt
 have n1 : ¬ w.heap.size = p := by omega
 have n2 : ¬ w.heap.size = lb := by omega
 have HH := hideM h
 have HA := hideM hat
 clear h hat hm hi
 subst hr h2
 go_enter Tryz.func198, Tryz.ntmps198
 go_wp2_with fail
 refine (HA.out _ (HH.out.later (below_alloc _ _))).mono ?_
 rintro e w2 ⟨rfl, h2, t2⟩
 have x2 := (Box2.zero w).tch t2 (by omega) (by omega)
 have HT2 : Hid (Tch p p w w2) := (Tch.of_below (below_alloc _ _)).trans t2
 have k0 := x2.ck
 have k1 := x2.cn
 have z0 := x2.cz 0
 have z1 := x2.cz 1
 have hl := x2.l
 have n3 : ¬ w2.heap.size = w.heap.size := by omega
 have n4 : ¬ w.heap.size = w2.heap.size := by omega
 have HH2 := hideM h2
 have HX2 := hideM x2
 clear h2 t2 HH HA x2
 go_wp2_with (go_at_call 40; refine (within_keep _ _ _ _).mono ?_; rintro e w' ⟨rfl, rfl⟩)
 have HX3 := (HX2.out.put ⟨4, 0⟩).alloc (.cells #[.int .i64 kd, .int .i64 kn] 132)
 have y0 := HX3.ck
 have y1 := HX3.cn
 exact bodyPost_ret (v := .agg #[.int .i64 4, .int .i64 0]) (by simp [results, Tryz.results198, go_sem, y0, y1]) rfl ⟨rfl, ((HH2.out.away n1 n2 _).away n1 n2 _).alloc _, ((HT2.out.setNew (Nat.le_refl _) _ _).setNew (Nat.le_refl _) _ _).alloc _⟩
theorem called_3 (p lb lcap n i r : Nat) (L : Nat → RI) (way : Nat → Bool) (sure : Nat → Int) (mov : Nat → Bool) (w : World) (h : LkAt w p lb lcap n L way sure mov) (hi : i < n) (m kd kn : Int) (hm : (L i).num = m)
  (hat : ∀ w, LkAt w p lb lcap n L way sure mov → Calls Tryz.prog 144 #[.pointer (some ⟨p, 0, none⟩), .int .i64 i, .int .i64 r] w fun e w' => e = .returned (.agg #[.int .i64 kd, .int .i64 kn]) ∧ LkAt w' p lb lcap n L way sure mov ∧ Tch p p w w') (hr : r = 0) (h1 : ¬ m = 1) (h2 : ¬ m = 2) :
  Calls Tryz.prog 198 #[.pointer (some ⟨p, 0, none⟩), .int .i64 i, .int .i64 r] w fun e w' => e = .returned (.agg #[.int .i64 6, .int .i64 0]) ∧ LkAt w' p lb lcap n L way sure mov ∧ Tch p p w w' := by
 have c0 := h.l
 have f5 := h.la.num i hi
 rw [hm] at f5
 have i1 : (i : Int) < (n : Int) := by omega
 have i0 : (0 : Int) ≤ (i : Int) := by omega
 have lp := h.lp
 have ll := h.la.lt
 have n1 : ¬ w.heap.size = p := by omega
 have n2 : ¬ w.heap.size = lb := by omega
 have HH := hideM h
 have HA := hideM hat
 clear h hat hm hi
 subst hr
 go_enter Tryz.func198, Tryz.ntmps198
 go_wp2_with fail
 refine (HA.out _ (HH.out.later (below_alloc _ _))).mono ?_
 rintro e w2 ⟨rfl, h2, t2⟩
 have x2 := (Box2.zero w).tch t2 (by omega) (by omega)
 have HT2 : Hid (Tch p p w w2) := (Tch.of_below (below_alloc _ _)).trans t2
 have k0 := x2.ck
 have k1 := x2.cn
 have z0 := x2.cz 0
 have z1 := x2.cz 1
 have hl := x2.l
 have n3 : ¬ w2.heap.size = w.heap.size := by omega
 have n4 : ¬ w.heap.size = w2.heap.size := by omega
 have HH2 := hideM h2
 have HX2 := hideM x2
 clear h2 t2 HH HA x2
 go_wp2_with (go_at_call 40; refine (within_keep _ _ _ _).mono ?_; rintro e w' ⟨rfl, rfl⟩)
 have HX3 := (HX2.out.put ⟨6, 0⟩).alloc (.cells #[.int .i64 kd, .int .i64 kn] 132)
 have y0 := HX3.ck
 have y1 := HX3.cn
 exact bodyPost_ret (v := .agg #[.int .i64 6, .int .i64 0]) (by simp [results, Tryz.results198, go_sem, y0, y1]) rfl ⟨rfl, ((HH2.out.away n1 n2 _).away n1 n2 _).alloc _, ((HT2.out.setNew (Nat.le_refl _) _ _).setNew (Nat.le_refl _) _ _).alloc _⟩
theorem called_4 (p lb lcap n i r : Nat) (L : Nat → RI) (way : Nat → Bool) (sure : Nat → Int) (mov : Nat → Bool) (w : World) (h : LkAt w p lb lcap n L way sure mov) (hi : i < n) (m kd kn : Int) (hm : (L i).num = m)
  (hat : ∀ w, LkAt w p lb lcap n L way sure mov → Calls Tryz.prog 144 #[.pointer (some ⟨p, 0, none⟩), .int .i64 i, .int .i64 r] w fun e w' => e = .returned (.agg #[.int .i64 kd, .int .i64 kn]) ∧ LkAt w' p lb lcap n L way sure mov ∧ Tch p p w w') (hr : ¬ r = 0) (h1 : m = 1) (hw : withinB (r : Int) 1 3 = true) :
  Calls Tryz.prog 198 #[.pointer (some ⟨p, 0, none⟩), .int .i64 i, .int .i64 r] w fun e w' => e = .returned (.agg #[.int .i64 0, .int .i64 0]) ∧ LkAt w' p lb lcap n L way sure mov ∧ Tch p p w w' := by
 have c0 := h.l
 have f5 := h.la.num i hi
 rw [hm] at f5
 have i1 : (i : Int) < (n : Int) := by omega
 have i0 : (0 : Int) ≤ (i : Int) := by omega
 have lp := h.lp
 have ll := h.la.lt
 have n1 : ¬ w.heap.size = p := by omega
 have n2 : ¬ w.heap.size = lb := by omega
 have HH := hideM h
 have HA := hideM hat
 clear h hat hm hi
 subst h1
 go_enter Tryz.func198, Tryz.ntmps198
 go_wp2_with fail
 refine (HA.out _ (HH.out.later (below_alloc _ _))).mono ?_
 rintro e w2 ⟨rfl, h2, t2⟩
 have x2 := (Box2.zero w).tch t2 (by omega) (by omega)
 have HT2 : Hid (Tch p p w w2) := (Tch.of_below (below_alloc _ _)).trans t2
 have k0 := x2.ck
 have k1 := x2.cn
 have z0 := x2.cz 0
 have z1 := x2.cz 1
 have hl := x2.l
 have n3 : ¬ w2.heap.size = w.heap.size := by omega
 have n4 : ¬ w.heap.size = w2.heap.size := by omega
 have HH2 := hideM h2
 have HX2 := hideM x2
 clear h2 t2 HH HA x2
 go_wp2_with (go_at_call 40; refine (within_keep _ _ _ _).mono ?_; rintro e w' ⟨rfl, rfl⟩)
 have HX3 := (HX2.out.put ⟨0, 0⟩).alloc (.cells #[.int .i64 kd, .int .i64 kn] 132)
 have y0 := HX3.ck
 have y1 := HX3.cn
 exact bodyPost_ret (v := .agg #[.int .i64 0, .int .i64 0]) (by simp [results, Tryz.results198, go_sem, y0, y1]) rfl ⟨rfl, ((HH2.out.away n1 n2 _).away n1 n2 _).alloc _, ((HT2.out.setNew (Nat.le_refl _) _ _).setNew (Nat.le_refl _) _ _).alloc _⟩
theorem called_5 (p lb lcap n i r : Nat) (L : Nat → RI) (way : Nat → Bool) (sure : Nat → Int) (mov : Nat → Bool) (w : World) (h : LkAt w p lb lcap n L way sure mov) (hi : i < n) (m kd kn : Int) (hm : (L i).num = m)
  (hat : ∀ w, LkAt w p lb lcap n L way sure mov → Calls Tryz.prog 144 #[.pointer (some ⟨p, 0, none⟩), .int .i64 i, .int .i64 r] w fun e w' => e = .returned (.agg #[.int .i64 kd, .int .i64 kn]) ∧ LkAt w' p lb lcap n L way sure mov ∧ Tch p p w w') (hr : ¬ r = 0) (h1 : m = 1) (hw : withinB (r : Int) 1 3 = false) (hk : kd = 4) :
  Calls Tryz.prog 198 #[.pointer (some ⟨p, 0, none⟩), .int .i64 i, .int .i64 r] w fun e w' => e = .returned (.agg #[.int .i64 0, .int .i64 0]) ∧ LkAt w' p lb lcap n L way sure mov ∧ Tch p p w w' := by
 have c0 := h.l
 have f5 := h.la.num i hi
 rw [hm] at f5
 have i1 : (i : Int) < (n : Int) := by omega
 have i0 : (0 : Int) ≤ (i : Int) := by omega
 have lp := h.lp
 have ll := h.la.lt
 have n1 : ¬ w.heap.size = p := by omega
 have n2 : ¬ w.heap.size = lb := by omega
 have HH := hideM h
 have HA := hideM hat
 clear h hat hm hi
 subst h1 hk
 go_enter Tryz.func198, Tryz.ntmps198
 go_wp2_with fail
 refine (HA.out _ (HH.out.later (below_alloc _ _))).mono ?_
 rintro e w2 ⟨rfl, h2, t2⟩
 have x2 := (Box2.zero w).tch t2 (by omega) (by omega)
 have HT2 : Hid (Tch p p w w2) := (Tch.of_below (below_alloc _ _)).trans t2
 have k0 := x2.ck
 have k1 := x2.cn
 have z0 := x2.cz 0
 have z1 := x2.cz 1
 have hl := x2.l
 have n3 : ¬ w2.heap.size = w.heap.size := by omega
 have n4 : ¬ w.heap.size = w2.heap.size := by omega
 have HH2 := hideM h2
 have HX2 := hideM x2
 clear h2 t2 HH HA x2
 go_wp2_with (go_at_call 40; refine (within_keep _ _ _ _).mono ?_; rintro e w' ⟨rfl, rfl⟩)
 have HX3 := (HX2.out.put ⟨0, 0⟩).alloc (.cells #[.int .i64 4, .int .i64 kn] 132)
 have y0 := HX3.ck
 have y1 := HX3.cn
 exact bodyPost_ret (v := .agg #[.int .i64 0, .int .i64 0]) (by simp [results, Tryz.results198, go_sem, y0, y1]) rfl ⟨rfl, ((HH2.out.away n1 n2 _).away n1 n2 _).alloc _, ((HT2.out.setNew (Nat.le_refl _) _ _).setNew (Nat.le_refl _) _ _).alloc _⟩
theorem called_6 (p lb lcap n i r : Nat) (L : Nat → RI) (way : Nat → Bool) (sure : Nat → Int) (mov : Nat → Bool) (w : World) (h : LkAt w p lb lcap n L way sure mov) (hi : i < n) (m kd kn : Int) (hm : (L i).num = m)
  (hat : ∀ w, LkAt w p lb lcap n L way sure mov → Calls Tryz.prog 144 #[.pointer (some ⟨p, 0, none⟩), .int .i64 i, .int .i64 r] w fun e w' => e = .returned (.agg #[.int .i64 kd, .int .i64 kn]) ∧ LkAt w' p lb lcap n L way sure mov ∧ Tch p p w w') (hr : ¬ r = 0) (h1 : m = 1) (hw : withinB (r : Int) 1 3 = false) (hk : kd = 6) :
  Calls Tryz.prog 198 #[.pointer (some ⟨p, 0, none⟩), .int .i64 i, .int .i64 r] w fun e w' => e = .returned (.agg #[.int .i64 0, .int .i64 0]) ∧ LkAt w' p lb lcap n L way sure mov ∧ Tch p p w w' := by
 have c0 := h.l
 have f5 := h.la.num i hi
 rw [hm] at f5
 have i1 : (i : Int) < (n : Int) := by omega
 have i0 : (0 : Int) ≤ (i : Int) := by omega
 have lp := h.lp
 have ll := h.la.lt
 have n1 : ¬ w.heap.size = p := by omega
 have n2 : ¬ w.heap.size = lb := by omega
 have HH := hideM h
 have HA := hideM hat
 clear h hat hm hi
 subst h1 hk
 go_enter Tryz.func198, Tryz.ntmps198
 go_wp2_with fail
 refine (HA.out _ (HH.out.later (below_alloc _ _))).mono ?_
 rintro e w2 ⟨rfl, h2, t2⟩
 have x2 := (Box2.zero w).tch t2 (by omega) (by omega)
 have HT2 : Hid (Tch p p w w2) := (Tch.of_below (below_alloc _ _)).trans t2
 have k0 := x2.ck
 have k1 := x2.cn
 have z0 := x2.cz 0
 have z1 := x2.cz 1
 have hl := x2.l
 have n3 : ¬ w2.heap.size = w.heap.size := by omega
 have n4 : ¬ w.heap.size = w2.heap.size := by omega
 have HH2 := hideM h2
 have HX2 := hideM x2
 clear h2 t2 HH HA x2
 go_wp2_with (go_at_call 40; refine (within_keep _ _ _ _).mono ?_; rintro e w' ⟨rfl, rfl⟩)
 have HX3 := (HX2.out.put ⟨0, 0⟩).alloc (.cells #[.int .i64 6, .int .i64 kn] 132)
 have y0 := HX3.ck
 have y1 := HX3.cn
 exact bodyPost_ret (v := .agg #[.int .i64 0, .int .i64 0]) (by simp [results, Tryz.results198, go_sem, y0, y1]) rfl ⟨rfl, ((HH2.out.away n1 n2 _).away n1 n2 _).alloc _, ((HT2.out.setNew (Nat.le_refl _) _ _).setNew (Nat.le_refl _) _ _).alloc _⟩
theorem called_7 (p lb lcap n i r : Nat) (L : Nat → RI) (way : Nat → Bool) (sure : Nat → Int) (mov : Nat → Bool) (w : World) (h : LkAt w p lb lcap n L way sure mov) (hi : i < n) (m kd kn : Int) (hm : (L i).num = m)
  (hat : ∀ w, LkAt w p lb lcap n L way sure mov → Calls Tryz.prog 144 #[.pointer (some ⟨p, 0, none⟩), .int .i64 i, .int .i64 r] w fun e w' => e = .returned (.agg #[.int .i64 kd, .int .i64 kn]) ∧ LkAt w' p lb lcap n L way sure mov ∧ Tch p p w w') (hr : ¬ r = 0) (h1 : m = 1) (hw : withinB (r : Int) 1 3 = false) (hk : ¬ kd = 4) (hk2 : ¬ kd = 6) :
  Calls Tryz.prog 198 #[.pointer (some ⟨p, 0, none⟩), .int .i64 i, .int .i64 r] w fun e w' => e = .returned (.agg #[.int .i64 kd, .int .i64 kn]) ∧ LkAt w' p lb lcap n L way sure mov ∧ Tch p p w w' := by
 have c0 := h.l
 have f5 := h.la.num i hi
 rw [hm] at f5
 have i1 : (i : Int) < (n : Int) := by omega
 have i0 : (0 : Int) ≤ (i : Int) := by omega
 have lp := h.lp
 have ll := h.la.lt
 have n1 : ¬ w.heap.size = p := by omega
 have n2 : ¬ w.heap.size = lb := by omega
 have HH := hideM h
 have HA := hideM hat
 clear h hat hm hi
 subst h1
 have q4 : (kd == 4) = false := by simpa using hk
 have q6 : (kd == 6) = false := by simpa using hk2
 go_enter Tryz.func198, Tryz.ntmps198
 go_wp2_with fail
 refine (HA.out _ (HH.out.later (below_alloc _ _))).mono ?_
 rintro e w2 ⟨rfl, h2, t2⟩
 have x2 := (Box2.zero w).tch t2 (by omega) (by omega)
 have HT2 : Hid (Tch p p w w2) := (Tch.of_below (below_alloc _ _)).trans t2
 have k0 := x2.ck
 have k1 := x2.cn
 have z0 := x2.cz 0
 have z1 := x2.cz 1
 have hl := x2.l
 have n3 : ¬ w2.heap.size = w.heap.size := by omega
 have n4 : ¬ w.heap.size = w2.heap.size := by omega
 have HH2 := hideM h2
 have HX2 := hideM x2
 clear h2 t2 HH HA x2
 go_wp2_with (go_at_call 40; refine (within_keep _ _ _ _).mono ?_; rintro e w' ⟨rfl, rfl⟩)
 have HX3 := (HX2.out.put ⟨kd, kn⟩).alloc (.cells #[.int .i64 kd, .int .i64 kn] 132)
 have y0 := HX3.ck
 have y1 := HX3.cn
 exact bodyPost_ret (v := .agg #[.int .i64 kd, .int .i64 kn]) (by simp [results, Tryz.results198, go_sem, y0, y1]) rfl ⟨rfl, ((HH2.out.away n1 n2 _).away n1 n2 _).alloc _, ((HT2.out.setNew (Nat.le_refl _) _ _).setNew (Nat.le_refl _) _ _).alloc _⟩
theorem called_8 (p lb lcap n i r : Nat) (L : Nat → RI) (way : Nat → Bool) (sure : Nat → Int) (mov : Nat → Bool) (w : World) (h : LkAt w p lb lcap n L way sure mov) (hi : i < n) (m kd kn : Int) (hm : (L i).num = m)
  (hat : ∀ w, LkAt w p lb lcap n L way sure mov → Calls Tryz.prog 144 #[.pointer (some ⟨p, 0, none⟩), .int .i64 i, .int .i64 r] w fun e w' => e = .returned (.agg #[.int .i64 kd, .int .i64 kn]) ∧ LkAt w' p lb lcap n L way sure mov ∧ Tch p p w w') (hr : ¬ r = 0) (h1 : ¬ m = 1) :
  Calls Tryz.prog 198 #[.pointer (some ⟨p, 0, none⟩), .int .i64 i, .int .i64 r] w fun e w' => e = .returned (.agg #[.int .i64 kd, .int .i64 kn]) ∧ LkAt w' p lb lcap n L way sure mov ∧ Tch p p w w' := by
 have c0 := h.l
 have f5 := h.la.num i hi
 rw [hm] at f5
 have i1 : (i : Int) < (n : Int) := by omega
 have i0 : (0 : Int) ≤ (i : Int) := by omega
 have lp := h.lp
 have ll := h.la.lt
 have n1 : ¬ w.heap.size = p := by omega
 have n2 : ¬ w.heap.size = lb := by omega
 have HH := hideM h
 have HA := hideM hat
 clear h hat hm hi
 go_enter Tryz.func198, Tryz.ntmps198
 go_wp2_with fail
 refine (HA.out _ (HH.out.later (below_alloc _ _))).mono ?_
 rintro e w2 ⟨rfl, h2, t2⟩
 have x2 := (Box2.zero w).tch t2 (by omega) (by omega)
 have HT2 : Hid (Tch p p w w2) := (Tch.of_below (below_alloc _ _)).trans t2
 have k0 := x2.ck
 have k1 := x2.cn
 have z0 := x2.cz 0
 have z1 := x2.cz 1
 have hl := x2.l
 have n3 : ¬ w2.heap.size = w.heap.size := by omega
 have n4 : ¬ w.heap.size = w2.heap.size := by omega
 have HH2 := hideM h2
 have HX2 := hideM x2
 clear h2 t2 HH HA x2
 go_wp2_with (go_at_call 40; refine (within_keep _ _ _ _).mono ?_; rintro e w' ⟨rfl, rfl⟩)
 have HX3 := (HX2.out.put ⟨kd, kn⟩).alloc (.cells #[.int .i64 kd, .int .i64 kn] 132)
 have y0 := HX3.ck
 have y1 := HX3.cn
 exact bodyPost_ret (v := .agg #[.int .i64 kd, .int .i64 kn]) (by simp [results, Tryz.results198, go_sem, y0, y1]) rfl ⟨rfl, ((HH2.out.away n1 n2 _).away n1 n2 _).alloc _, ((HT2.out.setNew (Nat.le_refl _) _ _).setNew (Nat.le_refl _) _ _).alloc _⟩
theorem called_any (p lb lcap n i r : Nat) (L : Nat → RI) (way : Nat → Bool) (sure : Nat → Int) (mov : Nat → Bool) (w : World) (h : LkAt w p lb lcap n L way sure mov) (hi : i < n) (hr : r < 8) (hat : AtC p lb lcap n L way sure mov i) :
  Calls Tryz.prog 198 #[.pointer (some ⟨p, 0, none⟩), .int .i64 i, .int .i64 r] w fun e w' =>
   e = .returned (.agg #[.int .i64 (calledP (L i) (lkP L i) r).kind, .int .i64 (calledP (L i) (lkP L i) r).k]) ∧ LkAt w' p lb lcap n L way sure mov ∧ Tch p p w w' := by
 have ha := fun w h => hat r w hr h
 unfold calledP
 by_cases h0 : r = 0
 ·by_cases h1 : (L i).num = 1
  ·rw [if_pos ⟨h0, h1⟩]
   exact called_1 p lb lcap n i r L way sure mov w h hi _ _ _ rfl ha h0 h1
  ·rw [if_neg (fun q => h1 q.2)]
   by_cases h2 : (L i).num = 2
   ·rw [if_pos ⟨h0, h2⟩]
    exact called_2 p lb lcap n i r L way sure mov w h hi _ _ _ rfl ha h0 h2
   ·rw [if_neg (fun q => h2 q.2), if_pos h0]
    exact called_3 p lb lcap n i r L way sure mov w h hi _ _ _ rfl ha h0 h1 h2
 ·rw [if_neg (fun q => h0 q.1), if_neg (fun q => h0 q.1), if_neg h0]
  by_cases h1 : (L i).num = 1
  ·cases hw : withinB (r : Int) 1 3
   ·have hw2 : ¬ (1 ≤ r ∧ r ≤ 3) := by simp [withinB] at hw; omega
    by_cases h4 : ((lkP L i).held r).kind = 4
    ·rw [if_pos ⟨h1, .inr (.inl h4)⟩]
     exact called_5 p lb lcap n i r L way sure mov w h hi _ _ _ rfl ha h0 h1 hw h4
    ·by_cases h6 : ((lkP L i).held r).kind = 6
     ·rw [if_pos ⟨h1, .inr (.inr h6)⟩]
      exact called_6 p lb lcap n i r L way sure mov w h hi _ _ _ rfl ha h0 h1 hw h6
     ·rw [if_neg (fun q => by rcases q.2 with q | q | q; exact hw2 q; exact h4 q; exact h6 q)]
      exact called_7 p lb lcap n i r L way sure mov w h hi _ _ _ rfl ha h0 h1 hw h4 h6
   ·have hw2 : 1 ≤ r ∧ r ≤ 3 := by simp [withinB] at hw; omega
    rw [if_pos ⟨h1, .inl hw2⟩]
    exact called_4 p lb lcap n i r L way sure mov w h hi _ _ _ rfl ha h0 h1 hw
  ·rw [if_neg (fun q => h1 q.1)]
   exact called_8 p lb lcap n i r L way sure mov w h hi _ _ _ rfl ha h0 h1
end Go.Proofs.YtoobileejdhikaaGreat
