/-
  The document's look for plain code: sets.
  The document's look for plain code: at.
-/
import Derived.Test.YtoobileejdhikaaGreatGf5
import Derived.Deep.RegionHeld3
import Derived.Deep.DrawnRows
namespace Go.Proofs.YtoobileejdhikaaGreat
set_option maxRecDepth 100000
set_option maxHeartbeats 4000000
open Go.RowKit
attribute [local go_sem ↓] Go.wp_at_zero Go.wp_at_succ

theorem wrap_fit {n : Int} (h1 : -9223372036854775808 ≤ n) (h2 : n ≤ 9223372036854775807) : IntKind.i64.wrap n = n := by rw [IntKind.wrap_i64]; omega
theorem sets_1 (p lb lcap n i r : Nat) (L : Nat → RI) (way : Nat → Bool) (sure : Nat → Int) (mov : Nat → Bool) (w : World) (h : LkAt w p lb lcap n L way sure mov) (hi : i < n) (kd kn : Int) (op : Int) (imm : Bool) (dst src : Nat) (off num : Int) (hx : L i = ⟨op, imm, dst, src, off, num⟩)
  (hat : ∀ w, LkAt w p lb lcap n L way sure mov → Calls Tryz.prog 198 #[.pointer (some ⟨p, 0, none⟩), .int .i64 i, .int .i64 r] w fun e w' => e = .returned (.agg #[.int .i64 kd, .int .i64 kn]) ∧ LkAt w' p lb lcap n L way sure mov ∧ Tch p p w w') (ho : op = 40) :
  Calls Tryz.prog 184 #[.pointer (some ⟨p, 0, none⟩), .int .i64 i, .int .i64 r] w fun e w' => e = .returned (.agg #[.int .i64 kd, .int .i64 kn]) ∧ LkAt w' p lb lcap n L way sure mov ∧ Tch p p w w' := by
 have c0 := h.l
 have f0 := h.la.op i hi
 have f1 := h.la.imm i hi
 have f2 := h.la.dst i hi
 have f3 := h.la.src i hi
 have f4 := h.la.off i hi
 have f5 := h.la.num i hi
 rw [hx] at f0 f1 f2 f3 f4 f5
 simp only at f0 f1 f2 f3 f4 f5
 have i1 : (i : Int) < (n : Int) := by omega
 have i0 : (0 : Int) ≤ (i : Int) := by omega
 have lp := h.lp
 have ll := h.la.lt
 have n1 : ¬ w.heap.size = p := by omega
 have n2 : ¬ w.heap.size = lb := by omega
 have n5 : ¬ w.heap.size + 1 = p := by omega
 have n6 : ¬ w.heap.size + 1 = lb := by omega
 have HH := hideM h
 have HA := hideM hat
 clear h hat hx hi
 subst ho
 go_enter Tryz.func184, Tryz.ntmps184
 go_wp2_with fail
 refine (HA.out _ ((HH.out.alloc _).alloc _)).mono ?_
 rintro e w2 ⟨rfl, h2, t2⟩
 have x2 := ((Box2.zero w).alloc _).tch t2 (by omega) (by omega)
 have b2 := (Box6.made (w.alloc (.cells #[.int .i64 0, .int .i64 0] 132)) ⟨40, imm, dst, src, off, num⟩).tch t2 (by simp; omega) (by simp; omega)
 simp only [World.size_alloc] at b2
 have HT2 : Hid (Tch p p w w2) := (Tch.of_below (((Below.refl _ _).alloc (Nat.le_refl _) _).alloc (by simp) _)).trans t2
 have k0 := x2.ck
 have k1 := x2.cn
 have g0 := b2.op
 have g1 := b2.imm
 have g5 := b2.num
 have z0 := x2.cz 0
 have z1 := x2.cz 1
 have hl := x2.l
 have hl2 := b2.l
 have n3 : ¬ w2.heap.size = w.heap.size := by omega
 have n4 : ¬ w.heap.size = w2.heap.size := by omega
 have n7 : ¬ w2.heap.size = w.heap.size + 1 := by omega
 have n8 : ¬ w.heap.size + 1 = w2.heap.size := by omega
 have HH2 := hideM h2
 have HX2 := hideM x2
 clear h2 t2 HH HA x2 b2
 go_wp2_with fail
 have HX3 := HX2.out.put ⟨kd, kn⟩
 have y0 := HX3.ck
 have y1 := HX3.cn
 exact bodyPost_ret (v := .agg #[.int .i64 kd, .int .i64 kn]) (by simp [results, Tryz.results184, go_sem, y0, y1]) rfl ⟨rfl, (HH2.out.away n1 n2 _).away n1 n2 _, (HT2.out.setNew (Nat.le_refl _) _ _).setNew (Nat.le_refl _) _ _⟩
theorem sets_2 (p lb lcap n i r : Nat) (L : Nat → RI) (way : Nat → Bool) (sure : Nat → Int) (mov : Nat → Bool) (w : World) (h : LkAt w p lb lcap n L way sure mov) (hi : i < n) (kd kn : Int) (op : Int) (imm : Bool) (dst src : Nat) (off num : Int) (hx : L i = ⟨op, imm, dst, src, off, num⟩)
  (hat : ∀ w, LkAt w p lb lcap n L way sure mov → Calls Tryz.prog 144 #[.pointer (some ⟨p, 0, none⟩), .int .i64 i, .int .i64 r] w fun e w' => e = .returned (.agg #[.int .i64 kd, .int .i64 kn]) ∧ LkAt w' p lb lcap n L way sure mov ∧ Tch p p w w') (h4 : ¬ op = 40) (ho : 23 < op) :
  Calls Tryz.prog 184 #[.pointer (some ⟨p, 0, none⟩), .int .i64 i, .int .i64 r] w fun e w' => e = .returned (.agg #[.int .i64 kd, .int .i64 kn]) ∧ LkAt w' p lb lcap n L way sure mov ∧ Tch p p w w' := by
 have c0 := h.l
 have f0 := h.la.op i hi
 have f1 := h.la.imm i hi
 have f2 := h.la.dst i hi
 have f3 := h.la.src i hi
 have f4 := h.la.off i hi
 have f5 := h.la.num i hi
 rw [hx] at f0 f1 f2 f3 f4 f5
 simp only at f0 f1 f2 f3 f4 f5
 have i1 : (i : Int) < (n : Int) := by omega
 have i0 : (0 : Int) ≤ (i : Int) := by omega
 have lp := h.lp
 have ll := h.la.lt
 have n1 : ¬ w.heap.size = p := by omega
 have n2 : ¬ w.heap.size = lb := by omega
 have n5 : ¬ w.heap.size + 1 = p := by omega
 have n6 : ¬ w.heap.size + 1 = lb := by omega
 have HH := hideM h
 have HA := hideM hat
 clear h hat hx hi
 go_enter Tryz.func184, Tryz.ntmps184
 go_wp2_with fail
 refine (HA.out _ ((HH.out.alloc _).alloc _)).mono ?_
 rintro e w2 ⟨rfl, h2, t2⟩
 have x2 := ((Box2.zero w).alloc _).tch t2 (by omega) (by omega)
 have b2 := (Box6.made (w.alloc (.cells #[.int .i64 0, .int .i64 0] 132)) ⟨op, imm, dst, src, off, num⟩).tch t2 (by simp; omega) (by simp; omega)
 simp only [World.size_alloc] at b2
 have HT2 : Hid (Tch p p w w2) := (Tch.of_below (((Below.refl _ _).alloc (Nat.le_refl _) _).alloc (by simp) _)).trans t2
 have k0 := x2.ck
 have k1 := x2.cn
 have g0 := b2.op
 have g1 := b2.imm
 have g5 := b2.num
 have z0 := x2.cz 0
 have z1 := x2.cz 1
 have hl := x2.l
 have hl2 := b2.l
 have n3 : ¬ w2.heap.size = w.heap.size := by omega
 have n4 : ¬ w.heap.size = w2.heap.size := by omega
 have n7 : ¬ w2.heap.size = w.heap.size + 1 := by omega
 have n8 : ¬ w.heap.size + 1 = w2.heap.size := by omega
 have HH2 := hideM h2
 have HX2 := hideM x2
 clear h2 t2 HH HA x2 b2
 go_wp2_with fail
 have HX3 := HX2.out.put ⟨kd, kn⟩
 have y0 := HX3.ck
 have y1 := HX3.cn
 exact bodyPost_ret (v := .agg #[.int .i64 kd, .int .i64 kn]) (by simp [results, Tryz.results184, go_sem, y0, y1]) rfl ⟨rfl, (HH2.out.away n1 n2 _).away n1 n2 _, (HT2.out.setNew (Nat.le_refl _) _ _).setNew (Nat.le_refl _) _ _⟩
theorem sets_3 (p lb lcap n i r : Nat) (L : Nat → RI) (way : Nat → Bool) (sure : Nat → Int) (mov : Nat → Bool) (w : World) (h : LkAt w p lb lcap n L way sure mov) (hi : i < n) (kd kn : Int) (op : Int) (imm : Bool) (dst src : Nat) (off num : Int) (hx : L i = ⟨op, imm, dst, src, off, num⟩)
  (hat : ∀ w, LkAt w p lb lcap n L way sure mov → Calls Tryz.prog 144 #[.pointer (some ⟨p, 0, none⟩), .int .i64 i, .int .i64 r] w fun e w' => e = .returned (.agg #[.int .i64 kd, .int .i64 kn]) ∧ LkAt w' p lb lcap n L way sure mov ∧ Tch p p w w') (ho : ¬ 23 < op) (hd : ¬ dst = r) :
  Calls Tryz.prog 184 #[.pointer (some ⟨p, 0, none⟩), .int .i64 i, .int .i64 r] w fun e w' => e = .returned (.agg #[.int .i64 kd, .int .i64 kn]) ∧ LkAt w' p lb lcap n L way sure mov ∧ Tch p p w w' := by
 have c0 := h.l
 have f0 := h.la.op i hi
 have f1 := h.la.imm i hi
 have f2 := h.la.dst i hi
 have f3 := h.la.src i hi
 have f4 := h.la.off i hi
 have f5 := h.la.num i hi
 rw [hx] at f0 f1 f2 f3 f4 f5
 simp only at f0 f1 f2 f3 f4 f5
 have i1 : (i : Int) < (n : Int) := by omega
 have i0 : (0 : Int) ≤ (i : Int) := by omega
 have lp := h.lp
 have ll := h.la.lt
 have n1 : ¬ w.heap.size = p := by omega
 have n2 : ¬ w.heap.size = lb := by omega
 have n5 : ¬ w.heap.size + 1 = p := by omega
 have n6 : ¬ w.heap.size + 1 = lb := by omega
 have HH := hideM h
 have HA := hideM hat
 clear h hat hx hi
 have hd2 : ¬ (dst : Int) = (r : Int) := by omega
 have h4 : ¬ op = 40 := by omega
 clear hd
 go_enter Tryz.func184, Tryz.ntmps184
 go_wp2_with fail
 refine (HA.out _ ((HH.out.alloc _).alloc _)).mono ?_
 rintro e w2 ⟨rfl, h2, t2⟩
 have x2 := ((Box2.zero w).alloc _).tch t2 (by omega) (by omega)
 have b2 := (Box6.made (w.alloc (.cells #[.int .i64 0, .int .i64 0] 132)) ⟨op, imm, dst, src, off, num⟩).tch t2 (by simp; omega) (by simp; omega)
 simp only [World.size_alloc] at b2
 have HT2 : Hid (Tch p p w w2) := (Tch.of_below (((Below.refl _ _).alloc (Nat.le_refl _) _).alloc (by simp) _)).trans t2
 have k0 := x2.ck
 have k1 := x2.cn
 have g0 := b2.op
 have g1 := b2.imm
 have g5 := b2.num
 have z0 := x2.cz 0
 have z1 := x2.cz 1
 have hl := x2.l
 have hl2 := b2.l
 have n3 : ¬ w2.heap.size = w.heap.size := by omega
 have n4 : ¬ w.heap.size = w2.heap.size := by omega
 have n7 : ¬ w2.heap.size = w.heap.size + 1 := by omega
 have n8 : ¬ w.heap.size + 1 = w2.heap.size := by omega
 have HH2 := hideM h2
 have HX2 := hideM x2
 clear h2 t2 HH HA x2 b2
 go_wp2_with fail
 have HX3 := HX2.out.put ⟨kd, kn⟩
 have y0 := HX3.ck
 have y1 := HX3.cn
 exact bodyPost_ret (v := .agg #[.int .i64 kd, .int .i64 kn]) (by simp [results, Tryz.results184, go_sem, y0, y1]) rfl ⟨rfl, (HH2.out.away n1 n2 _).away n1 n2 _, (HT2.out.setNew (Nat.le_refl _) _ _).setNew (Nat.le_refl _) _ _⟩
theorem sets_4 (p lb lcap n i r : Nat) (L : Nat → RI) (way : Nat → Bool) (sure : Nat → Int) (mov : Nat → Bool) (w : World) (h : LkAt w p lb lcap n L way sure mov) (hi : i < n) (op : Int) (imm : Bool) (dst src : Nat) (off num : Int) (hx : L i = ⟨op, imm, dst, src, off, num⟩)
   (ho : ¬ 23 < op) (hd : dst = r) (h20 : 20 ≤ op) :
  Calls Tryz.prog 184 #[.pointer (some ⟨p, 0, none⟩), .int .i64 i, .int .i64 r] w fun e w' => e = .returned (.agg #[.int .i64 1, .int .i64 0]) ∧ LkAt w' p lb lcap n L way sure mov ∧ Tch p p w w' := by
 have c0 := h.l
 have f0 := h.la.op i hi
 have f1 := h.la.imm i hi
 have f2 := h.la.dst i hi
 have f3 := h.la.src i hi
 have f4 := h.la.off i hi
 have f5 := h.la.num i hi
 rw [hx] at f0 f1 f2 f3 f4 f5
 simp only at f0 f1 f2 f3 f4 f5
 have i1 : (i : Int) < (n : Int) := by omega
 have i0 : (0 : Int) ≤ (i : Int) := by omega
 have lp := h.lp
 have ll := h.la.lt
 have n1 : ¬ w.heap.size = p := by omega
 have n2 : ¬ w.heap.size = lb := by omega
 have n5 : ¬ w.heap.size + 1 = p := by omega
 have n6 : ¬ w.heap.size + 1 = lb := by omega
 have HH := hideM h
 clear h hx hi
 subst hd
 have h4 : ¬ op = 40 := by omega
 go_enter Tryz.func184, Tryz.ntmps184
 go_wp2_with fail
 exact bodyPost_ret (v := .agg #[.int .i64 1, .int .i64 0]) (by simp [results, Tryz.results184, go_sem]) rfl ⟨rfl, (HH.out.alloc _).alloc _, ((Tch.refl p p w).alloc _).alloc _⟩
theorem sets_5 (p lb lcap n i r : Nat) (L : Nat → RI) (way : Nat → Bool) (sure : Nat → Int) (mov : Nat → Bool) (w : World) (h : LkAt w p lb lcap n L way sure mov) (hi : i < n) (op : Int) (imm : Bool) (dst src : Nat) (off num : Int) (hx : L i = ⟨op, imm, dst, src, off, num⟩)
   (ho : op = 1) (hd : dst = r) (him : imm = true) :
  Calls Tryz.prog 184 #[.pointer (some ⟨p, 0, none⟩), .int .i64 i, .int .i64 r] w fun e w' => e = .returned (.agg #[.int .i64 1, .int .i64 0]) ∧ LkAt w' p lb lcap n L way sure mov ∧ Tch p p w w' := by
 have c0 := h.l
 have f0 := h.la.op i hi
 have f1 := h.la.imm i hi
 have f2 := h.la.dst i hi
 have f3 := h.la.src i hi
 have f4 := h.la.off i hi
 have f5 := h.la.num i hi
 rw [hx] at f0 f1 f2 f3 f4 f5
 simp only at f0 f1 f2 f3 f4 f5
 have i1 : (i : Int) < (n : Int) := by omega
 have i0 : (0 : Int) ≤ (i : Int) := by omega
 have lp := h.lp
 have ll := h.la.lt
 have n1 : ¬ w.heap.size = p := by omega
 have n2 : ¬ w.heap.size = lb := by omega
 have n5 : ¬ w.heap.size + 1 = p := by omega
 have n6 : ¬ w.heap.size + 1 = lb := by omega
 have HH := hideM h
 clear h hx hi
 subst hd ho him
 go_enter Tryz.func184, Tryz.ntmps184
 go_wp2_with fail
 exact bodyPost_ret (v := .agg #[.int .i64 1, .int .i64 0]) (by simp [results, Tryz.results184, go_sem]) rfl ⟨rfl, (HH.out.alloc _).alloc _, ((Tch.refl p p w).alloc _).alloc _⟩
theorem sets_6 (p lb lcap n i r : Nat) (L : Nat → RI) (way : Nat → Bool) (sure : Nat → Int) (mov : Nat → Bool) (w : World) (h : LkAt w p lb lcap n L way sure mov) (hi : i < n) (kd kn : Int) (op : Int) (imm : Bool) (dst src : Nat) (off num : Int) (hx : L i = ⟨op, imm, dst, src, off, num⟩)
  (hat : ∀ w, LkAt w p lb lcap n L way sure mov → Calls Tryz.prog 144 #[.pointer (some ⟨p, 0, none⟩), .int .i64 i, .int .i64 src] w fun e w' => e = .returned (.agg #[.int .i64 kd, .int .i64 kn]) ∧ LkAt w' p lb lcap n L way sure mov ∧ Tch p p w w') (ho : op = 1) (hd : dst = r) (him : imm = false) :
  Calls Tryz.prog 184 #[.pointer (some ⟨p, 0, none⟩), .int .i64 i, .int .i64 r] w fun e w' => e = .returned (.agg #[.int .i64 kd, .int .i64 kn]) ∧ LkAt w' p lb lcap n L way sure mov ∧ Tch p p w w' := by
 have c0 := h.l
 have f0 := h.la.op i hi
 have f1 := h.la.imm i hi
 have f2 := h.la.dst i hi
 have f3 := h.la.src i hi
 have f4 := h.la.off i hi
 have f5 := h.la.num i hi
 rw [hx] at f0 f1 f2 f3 f4 f5
 simp only at f0 f1 f2 f3 f4 f5
 have i1 : (i : Int) < (n : Int) := by omega
 have i0 : (0 : Int) ≤ (i : Int) := by omega
 have lp := h.lp
 have ll := h.la.lt
 have n1 : ¬ w.heap.size = p := by omega
 have n2 : ¬ w.heap.size = lb := by omega
 have n5 : ¬ w.heap.size + 1 = p := by omega
 have n6 : ¬ w.heap.size + 1 = lb := by omega
 have HH := hideM h
 have HA := hideM hat
 clear h hat hx hi
 subst hd ho him
 go_enter Tryz.func184, Tryz.ntmps184
 go_wp2_with fail
 refine (HA.out _ ((HH.out.alloc _).alloc _)).mono ?_
 rintro e w2 ⟨rfl, h2, t2⟩
 have x2 := ((Box2.zero w).alloc _).tch t2 (by omega) (by omega)
 have b2 := (Box6.made (w.alloc (.cells #[.int .i64 0, .int .i64 0] 132)) ⟨1, false, dst, src, off, num⟩).tch t2 (by simp; omega) (by simp; omega)
 simp only [World.size_alloc] at b2
 have HT2 : Hid (Tch p p w w2) := (Tch.of_below (((Below.refl _ _).alloc (Nat.le_refl _) _).alloc (by simp) _)).trans t2
 have k0 := x2.ck
 have k1 := x2.cn
 have g0 := b2.op
 have g1 := b2.imm
 have g5 := b2.num
 have z0 := x2.cz 0
 have z1 := x2.cz 1
 have hl := x2.l
 have hl2 := b2.l
 have n3 : ¬ w2.heap.size = w.heap.size := by omega
 have n4 : ¬ w.heap.size = w2.heap.size := by omega
 have n7 : ¬ w2.heap.size = w.heap.size + 1 := by omega
 have n8 : ¬ w.heap.size + 1 = w2.heap.size := by omega
 have HH2 := hideM h2
 have HX2 := hideM x2
 clear h2 t2 HH HA x2 b2
 go_wp2_with fail
 have HX3 := HX2.out.put ⟨kd, kn⟩
 have y0 := HX3.ck
 have y1 := HX3.cn
 exact bodyPost_ret (v := .agg #[.int .i64 kd, .int .i64 kn]) (by simp [results, Tryz.results184, go_sem, y0, y1]) rfl ⟨rfl, (HH2.out.away n1 n2 _).away n1 n2 _, (HT2.out.setNew (Nat.le_refl _) _ _).setNew (Nat.le_refl _) _ _⟩
theorem sets_7 (p lb lcap n i r : Nat) (L : Nat → RI) (way : Nat → Bool) (sure : Nat → Int) (mov : Nat → Bool) (w : World) (h : LkAt w p lb lcap n L way sure mov) (hi : i < n) (kd kn : Int) (op : Int) (imm : Bool) (dst src : Nat) (off num : Int) (hx : L i = ⟨op, imm, dst, src, off, num⟩)
  (hat : ∀ w, LkAt w p lb lcap n L way sure mov → Calls Tryz.prog 144 #[.pointer (some ⟨p, 0, none⟩), .int .i64 i, .int .i64 r] w fun e w' => e = .returned (.agg #[.int .i64 kd, .int .i64 kn]) ∧ LkAt w' p lb lcap n L way sure mov ∧ Tch p p w w') (hd : dst = r) (h3 : op = 3) (hk : kd = 4) (w1 : -9223372036854775808 ≤ kn - num ∧ kn - num ≤ 9223372036854775807) :
  Calls Tryz.prog 184 #[.pointer (some ⟨p, 0, none⟩), .int .i64 i, .int .i64 r] w fun e w' => e = .returned (.agg #[.int .i64 4, .int .i64 (kn - num)]) ∧ LkAt w' p lb lcap n L way sure mov ∧ Tch p p w w' := by
 have c0 := h.l
 have f0 := h.la.op i hi
 have f1 := h.la.imm i hi
 have f2 := h.la.dst i hi
 have f3 := h.la.src i hi
 have f4 := h.la.off i hi
 have f5 := h.la.num i hi
 rw [hx] at f0 f1 f2 f3 f4 f5
 simp only at f0 f1 f2 f3 f4 f5
 have i1 : (i : Int) < (n : Int) := by omega
 have i0 : (0 : Int) ≤ (i : Int) := by omega
 have lp := h.lp
 have ll := h.la.lt
 have n1 : ¬ w.heap.size = p := by omega
 have n2 : ¬ w.heap.size = lb := by omega
 have n5 : ¬ w.heap.size + 1 = p := by omega
 have n6 : ¬ w.heap.size + 1 = lb := by omega
 have HH := hideM h
 have HA := hideM hat
 clear h hat hx hi
 subst hd h3 hk
 go_enter Tryz.func184, Tryz.ntmps184
 go_wp2_with fail
 refine (HA.out _ ((HH.out.alloc _).alloc _)).mono ?_
 rintro e w2 ⟨rfl, h2, t2⟩
 have x2 := ((Box2.zero w).alloc _).tch t2 (by omega) (by omega)
 have b2 := (Box6.made (w.alloc (.cells #[.int .i64 0, .int .i64 0] 132)) ⟨3, imm, dst, src, off, num⟩).tch t2 (by simp; omega) (by simp; omega)
 simp only [World.size_alloc] at b2
 have HT2 : Hid (Tch p p w w2) := (Tch.of_below (((Below.refl _ _).alloc (Nat.le_refl _) _).alloc (by simp) _)).trans t2
 have k0 := x2.ck
 have k1 := x2.cn
 have g0 := b2.op
 have g1 := b2.imm
 have g5 := b2.num
 have z0 := x2.cz 0
 have z1 := x2.cz 1
 have hl := x2.l
 have hl2 := b2.l
 have n3 : ¬ w2.heap.size = w.heap.size := by omega
 have n4 : ¬ w.heap.size = w2.heap.size := by omega
 have n7 : ¬ w2.heap.size = w.heap.size + 1 := by omega
 have n8 : ¬ w.heap.size + 1 = w2.heap.size := by omega
 have HH2 := hideM h2
 have HX2 := hideM x2
 clear h2 t2 HH HA x2 b2
 go_wp2_with fail
 have HX3 := (HX2.out.put ⟨4, (kn - num)⟩).alloc (.cells #[.int .i64 4, .int .i64 kn] 132)
 have y0 := HX3.ck
 have y1 := HX3.cn
 exact bodyPost_ret (v := .agg #[.int .i64 4, .int .i64 (kn - num)]) (by simp [results, Tryz.results184, go_sem, y0, y1]) rfl ⟨rfl, ((HH2.out.away n1 n2 _).away n1 n2 _).alloc _, ((HT2.out.setNew (Nat.le_refl _) _ _).setNew (Nat.le_refl _) _ _).alloc _⟩
theorem sets_8 (p lb lcap n i r : Nat) (L : Nat → RI) (way : Nat → Bool) (sure : Nat → Int) (mov : Nat → Bool) (w : World) (h : LkAt w p lb lcap n L way sure mov) (hi : i < n) (kd kn : Int) (op : Int) (imm : Bool) (dst src : Nat) (off num : Int) (hx : L i = ⟨op, imm, dst, src, off, num⟩)
  (hat : ∀ w, LkAt w p lb lcap n L way sure mov → Calls Tryz.prog 144 #[.pointer (some ⟨p, 0, none⟩), .int .i64 i, .int .i64 r] w fun e w' => e = .returned (.agg #[.int .i64 kd, .int .i64 kn]) ∧ LkAt w' p lb lcap n L way sure mov ∧ Tch p p w w') (hd : dst = r) (h3 : op = 3) (hk : kd = 5) (w1 : -9223372036854775808 ≤ kn - num ∧ kn - num ≤ 9223372036854775807) :
  Calls Tryz.prog 184 #[.pointer (some ⟨p, 0, none⟩), .int .i64 i, .int .i64 r] w fun e w' => e = .returned (.agg #[.int .i64 5, .int .i64 (kn - num)]) ∧ LkAt w' p lb lcap n L way sure mov ∧ Tch p p w w' := by
 have c0 := h.l
 have f0 := h.la.op i hi
 have f1 := h.la.imm i hi
 have f2 := h.la.dst i hi
 have f3 := h.la.src i hi
 have f4 := h.la.off i hi
 have f5 := h.la.num i hi
 rw [hx] at f0 f1 f2 f3 f4 f5
 simp only at f0 f1 f2 f3 f4 f5
 have i1 : (i : Int) < (n : Int) := by omega
 have i0 : (0 : Int) ≤ (i : Int) := by omega
 have lp := h.lp
 have ll := h.la.lt
 have n1 : ¬ w.heap.size = p := by omega
 have n2 : ¬ w.heap.size = lb := by omega
 have n5 : ¬ w.heap.size + 1 = p := by omega
 have n6 : ¬ w.heap.size + 1 = lb := by omega
 have HH := hideM h
 have HA := hideM hat
 clear h hat hx hi
 subst hd h3 hk
 go_enter Tryz.func184, Tryz.ntmps184
 go_wp2_with fail
 refine (HA.out _ ((HH.out.alloc _).alloc _)).mono ?_
 rintro e w2 ⟨rfl, h2, t2⟩
 have x2 := ((Box2.zero w).alloc _).tch t2 (by omega) (by omega)
 have b2 := (Box6.made (w.alloc (.cells #[.int .i64 0, .int .i64 0] 132)) ⟨3, imm, dst, src, off, num⟩).tch t2 (by simp; omega) (by simp; omega)
 simp only [World.size_alloc] at b2
 have HT2 : Hid (Tch p p w w2) := (Tch.of_below (((Below.refl _ _).alloc (Nat.le_refl _) _).alloc (by simp) _)).trans t2
 have k0 := x2.ck
 have k1 := x2.cn
 have g0 := b2.op
 have g1 := b2.imm
 have g5 := b2.num
 have z0 := x2.cz 0
 have z1 := x2.cz 1
 have hl := x2.l
 have hl2 := b2.l
 have n3 : ¬ w2.heap.size = w.heap.size := by omega
 have n4 : ¬ w.heap.size = w2.heap.size := by omega
 have n7 : ¬ w2.heap.size = w.heap.size + 1 := by omega
 have n8 : ¬ w.heap.size + 1 = w2.heap.size := by omega
 have HH2 := hideM h2
 have HX2 := hideM x2
 clear h2 t2 HH HA x2 b2
 go_wp2_with fail
 have HX3 := (HX2.out.put ⟨5, (kn - num)⟩).alloc (.cells #[.int .i64 5, .int .i64 kn] 132)
 have y0 := HX3.ck
 have y1 := HX3.cn
 exact bodyPost_ret (v := .agg #[.int .i64 5, .int .i64 (kn - num)]) (by simp [results, Tryz.results184, go_sem, y0, y1]) rfl ⟨rfl, ((HH2.out.away n1 n2 _).away n1 n2 _).alloc _, ((HT2.out.setNew (Nat.le_refl _) _ _).setNew (Nat.le_refl _) _ _).alloc _⟩
theorem sets_9 (p lb lcap n i r : Nat) (L : Nat → RI) (way : Nat → Bool) (sure : Nat → Int) (mov : Nat → Bool) (w : World) (h : LkAt w p lb lcap n L way sure mov) (hi : i < n) (kd kn : Int) (op : Int) (imm : Bool) (dst src : Nat) (off num : Int) (hx : L i = ⟨op, imm, dst, src, off, num⟩)
  (hat : ∀ w, LkAt w p lb lcap n L way sure mov → Calls Tryz.prog 144 #[.pointer (some ⟨p, 0, none⟩), .int .i64 i, .int .i64 r] w fun e w' => e = .returned (.agg #[.int .i64 kd, .int .i64 kn]) ∧ LkAt w' p lb lcap n L way sure mov ∧ Tch p p w w') (ho : 1 < op) (h20 : op < 20) (hd : dst = r) (h3 : ¬ op = 3) (hk : kd = 4) (w1 : -9223372036854775808 ≤ kn + num ∧ kn + num ≤ 9223372036854775807) :
  Calls Tryz.prog 184 #[.pointer (some ⟨p, 0, none⟩), .int .i64 i, .int .i64 r] w fun e w' => e = .returned (.agg #[.int .i64 4, .int .i64 (kn + num)]) ∧ LkAt w' p lb lcap n L way sure mov ∧ Tch p p w w' := by
 have c0 := h.l
 have f0 := h.la.op i hi
 have f1 := h.la.imm i hi
 have f2 := h.la.dst i hi
 have f3 := h.la.src i hi
 have f4 := h.la.off i hi
 have f5 := h.la.num i hi
 rw [hx] at f0 f1 f2 f3 f4 f5
 simp only at f0 f1 f2 f3 f4 f5
 have i1 : (i : Int) < (n : Int) := by omega
 have i0 : (0 : Int) ≤ (i : Int) := by omega
 have lp := h.lp
 have ll := h.la.lt
 have n1 : ¬ w.heap.size = p := by omega
 have n2 : ¬ w.heap.size = lb := by omega
 have n5 : ¬ w.heap.size + 1 = p := by omega
 have n6 : ¬ w.heap.size + 1 = lb := by omega
 have HH := hideM h
 have HA := hideM hat
 clear h hat hx hi
 subst hd
 have h4 : ¬ op = 40 := by omega
 have h23 : ¬ 23 < op := by omega
 have h1 : ¬ op = 1 := by omega
 have h21 : ¬ 20 ≤ op := by omega
 subst hk
 go_enter Tryz.func184, Tryz.ntmps184
 go_wp2_with fail
 refine (HA.out _ ((HH.out.alloc _).alloc _)).mono ?_
 rintro e w2 ⟨rfl, h2, t2⟩
 have x2 := ((Box2.zero w).alloc _).tch t2 (by omega) (by omega)
 have b2 := (Box6.made (w.alloc (.cells #[.int .i64 0, .int .i64 0] 132)) ⟨op, imm, dst, src, off, num⟩).tch t2 (by simp; omega) (by simp; omega)
 simp only [World.size_alloc] at b2
 have HT2 : Hid (Tch p p w w2) := (Tch.of_below (((Below.refl _ _).alloc (Nat.le_refl _) _).alloc (by simp) _)).trans t2
 have k0 := x2.ck
 have k1 := x2.cn
 have g0 := b2.op
 have g1 := b2.imm
 have g5 := b2.num
 have z0 := x2.cz 0
 have z1 := x2.cz 1
 have hl := x2.l
 have hl2 := b2.l
 have n3 : ¬ w2.heap.size = w.heap.size := by omega
 have n4 : ¬ w.heap.size = w2.heap.size := by omega
 have n7 : ¬ w2.heap.size = w.heap.size + 1 := by omega
 have n8 : ¬ w.heap.size + 1 = w2.heap.size := by omega
 have HH2 := hideM h2
 have HX2 := hideM x2
 clear h2 t2 HH HA x2 b2
 go_wp2_with fail
 have HX3 := (HX2.out.put ⟨4, (kn + num)⟩).alloc (.cells #[.int .i64 4, .int .i64 kn] 132)
 have y0 := HX3.ck
 have y1 := HX3.cn
 exact bodyPost_ret (v := .agg #[.int .i64 4, .int .i64 (kn + num)]) (by simp [results, Tryz.results184, go_sem, y0, y1]) rfl ⟨rfl, ((HH2.out.away n1 n2 _).away n1 n2 _).alloc _, ((HT2.out.setNew (Nat.le_refl _) _ _).setNew (Nat.le_refl _) _ _).alloc _⟩
theorem sets_10 (p lb lcap n i r : Nat) (L : Nat → RI) (way : Nat → Bool) (sure : Nat → Int) (mov : Nat → Bool) (w : World) (h : LkAt w p lb lcap n L way sure mov) (hi : i < n) (kd kn : Int) (op : Int) (imm : Bool) (dst src : Nat) (off num : Int) (hx : L i = ⟨op, imm, dst, src, off, num⟩)
  (hat : ∀ w, LkAt w p lb lcap n L way sure mov → Calls Tryz.prog 144 #[.pointer (some ⟨p, 0, none⟩), .int .i64 i, .int .i64 r] w fun e w' => e = .returned (.agg #[.int .i64 kd, .int .i64 kn]) ∧ LkAt w' p lb lcap n L way sure mov ∧ Tch p p w w') (ho : 1 < op) (h20 : op < 20) (hd : dst = r) (h3 : ¬ op = 3) (hk : kd = 5) (w1 : -9223372036854775808 ≤ kn + num ∧ kn + num ≤ 9223372036854775807) :
  Calls Tryz.prog 184 #[.pointer (some ⟨p, 0, none⟩), .int .i64 i, .int .i64 r] w fun e w' => e = .returned (.agg #[.int .i64 5, .int .i64 (kn + num)]) ∧ LkAt w' p lb lcap n L way sure mov ∧ Tch p p w w' := by
 have c0 := h.l
 have f0 := h.la.op i hi
 have f1 := h.la.imm i hi
 have f2 := h.la.dst i hi
 have f3 := h.la.src i hi
 have f4 := h.la.off i hi
 have f5 := h.la.num i hi
 rw [hx] at f0 f1 f2 f3 f4 f5
 simp only at f0 f1 f2 f3 f4 f5
 have i1 : (i : Int) < (n : Int) := by omega
 have i0 : (0 : Int) ≤ (i : Int) := by omega
 have lp := h.lp
 have ll := h.la.lt
 have n1 : ¬ w.heap.size = p := by omega
 have n2 : ¬ w.heap.size = lb := by omega
 have n5 : ¬ w.heap.size + 1 = p := by omega
 have n6 : ¬ w.heap.size + 1 = lb := by omega
 have HH := hideM h
 have HA := hideM hat
 clear h hat hx hi
 subst hd
 have h4 : ¬ op = 40 := by omega
 have h23 : ¬ 23 < op := by omega
 have h1 : ¬ op = 1 := by omega
 have h21 : ¬ 20 ≤ op := by omega
 subst hk
 go_enter Tryz.func184, Tryz.ntmps184
 go_wp2_with fail
 refine (HA.out _ ((HH.out.alloc _).alloc _)).mono ?_
 rintro e w2 ⟨rfl, h2, t2⟩
 have x2 := ((Box2.zero w).alloc _).tch t2 (by omega) (by omega)
 have b2 := (Box6.made (w.alloc (.cells #[.int .i64 0, .int .i64 0] 132)) ⟨op, imm, dst, src, off, num⟩).tch t2 (by simp; omega) (by simp; omega)
 simp only [World.size_alloc] at b2
 have HT2 : Hid (Tch p p w w2) := (Tch.of_below (((Below.refl _ _).alloc (Nat.le_refl _) _).alloc (by simp) _)).trans t2
 have k0 := x2.ck
 have k1 := x2.cn
 have g0 := b2.op
 have g1 := b2.imm
 have g5 := b2.num
 have z0 := x2.cz 0
 have z1 := x2.cz 1
 have hl := x2.l
 have hl2 := b2.l
 have n3 : ¬ w2.heap.size = w.heap.size := by omega
 have n4 : ¬ w.heap.size = w2.heap.size := by omega
 have n7 : ¬ w2.heap.size = w.heap.size + 1 := by omega
 have n8 : ¬ w.heap.size + 1 = w2.heap.size := by omega
 have HH2 := hideM h2
 have HX2 := hideM x2
 clear h2 t2 HH HA x2 b2
 go_wp2_with fail
 have HX3 := (HX2.out.put ⟨5, (kn + num)⟩).alloc (.cells #[.int .i64 5, .int .i64 kn] 132)
 have y0 := HX3.ck
 have y1 := HX3.cn
 exact bodyPost_ret (v := .agg #[.int .i64 5, .int .i64 (kn + num)]) (by simp [results, Tryz.results184, go_sem, y0, y1]) rfl ⟨rfl, ((HH2.out.away n1 n2 _).away n1 n2 _).alloc _, ((HT2.out.setNew (Nat.le_refl _) _ _).setNew (Nat.le_refl _) _ _).alloc _⟩
theorem sets_11 (p lb lcap n i r : Nat) (L : Nat → RI) (way : Nat → Bool) (sure : Nat → Int) (mov : Nat → Bool) (w : World) (h : LkAt w p lb lcap n L way sure mov) (hi : i < n) (kd kn : Int) (op : Int) (imm : Bool) (dst src : Nat) (off num : Int) (hx : L i = ⟨op, imm, dst, src, off, num⟩)
  (hat : ∀ w, LkAt w p lb lcap n L way sure mov → Calls Tryz.prog 144 #[.pointer (some ⟨p, 0, none⟩), .int .i64 i, .int .i64 r] w fun e w' => e = .returned (.agg #[.int .i64 kd, .int .i64 kn]) ∧ LkAt w' p lb lcap n L way sure mov ∧ Tch p p w w') (ho : 1 < op) (h20 : op < 20) (hd : dst = r) (hk : ¬ kd = 4) (hk2 : ¬ kd = 5) :
  Calls Tryz.prog 184 #[.pointer (some ⟨p, 0, none⟩), .int .i64 i, .int .i64 r] w fun e w' => e = .returned (.agg #[.int .i64 1, .int .i64 0]) ∧ LkAt w' p lb lcap n L way sure mov ∧ Tch p p w w' := by
 have c0 := h.l
 have f0 := h.la.op i hi
 have f1 := h.la.imm i hi
 have f2 := h.la.dst i hi
 have f3 := h.la.src i hi
 have f4 := h.la.off i hi
 have f5 := h.la.num i hi
 rw [hx] at f0 f1 f2 f3 f4 f5
 simp only at f0 f1 f2 f3 f4 f5
 have i1 : (i : Int) < (n : Int) := by omega
 have i0 : (0 : Int) ≤ (i : Int) := by omega
 have lp := h.lp
 have ll := h.la.lt
 have n1 : ¬ w.heap.size = p := by omega
 have n2 : ¬ w.heap.size = lb := by omega
 have n5 : ¬ w.heap.size + 1 = p := by omega
 have n6 : ¬ w.heap.size + 1 = lb := by omega
 have HH := hideM h
 have HA := hideM hat
 clear h hat hx hi
 subst hd
 have h4 : ¬ op = 40 := by omega
 have h23 : ¬ 23 < op := by omega
 have h1 : ¬ op = 1 := by omega
 have h21 : ¬ 20 ≤ op := by omega
 have q4 : (kd == 4) = false := by simpa using hk
 have q5 : (kd == 5) = false := by simpa using hk2
 go_enter Tryz.func184, Tryz.ntmps184
 go_wp2_with fail
 refine (HA.out _ ((HH.out.alloc _).alloc _)).mono ?_
 rintro e w2 ⟨rfl, h2, t2⟩
 have x2 := ((Box2.zero w).alloc _).tch t2 (by omega) (by omega)
 have b2 := (Box6.made (w.alloc (.cells #[.int .i64 0, .int .i64 0] 132)) ⟨op, imm, dst, src, off, num⟩).tch t2 (by simp; omega) (by simp; omega)
 simp only [World.size_alloc] at b2
 have HT2 : Hid (Tch p p w w2) := (Tch.of_below (((Below.refl _ _).alloc (Nat.le_refl _) _).alloc (by simp) _)).trans t2
 have k0 := x2.ck
 have k1 := x2.cn
 have g0 := b2.op
 have g1 := b2.imm
 have g5 := b2.num
 have z0 := x2.cz 0
 have z1 := x2.cz 1
 have hl := x2.l
 have hl2 := b2.l
 have n3 : ¬ w2.heap.size = w.heap.size := by omega
 have n4 : ¬ w.heap.size = w2.heap.size := by omega
 have n7 : ¬ w2.heap.size = w.heap.size + 1 := by omega
 have n8 : ¬ w.heap.size + 1 = w2.heap.size := by omega
 have HH2 := hideM h2
 have HX2 := hideM x2
 clear h2 t2 HH HA x2 b2
 go_wp2_with fail
 have HX3 := (HX2.out.put ⟨1, 0⟩).alloc (.cells #[.int .i64 kd, .int .i64 kn] 132)
 have y0 := HX3.ck
 have y1 := HX3.cn
 exact bodyPost_ret (v := .agg #[.int .i64 1, .int .i64 0]) (by simp [results, Tryz.results184, go_sem, y0, y1]) rfl ⟨rfl, ((HH2.out.away n1 n2 _).away n1 n2 _).alloc _, ((HT2.out.setNew (Nat.le_refl _) _ _).setNew (Nat.le_refl _) _ _).alloc _⟩
theorem sets_any (p lb lcap n i r : Nat) (L : Nat → RI) (way : Nat → Bool) (sure : Nat → Int) (mov : Nat → Bool) (w : World) (h : LkAt w p lb lcap n L way sure mov) (hi : i < n) (hr : r < 8) (hsrc : (L i).src < 8) (hop : 1 ≤ (L i).op) (hn64 : n ≤ 64)
  (hnum : ∀ i, -2147483648 ≤ (L i).num ∧ (L i).num ≤ 2147483647) (hat : AtC p lb lcap n L way sure mov i) :
  Calls Tryz.prog 184 #[.pointer (some ⟨p, 0, none⟩), .int .i64 i, .int .i64 r] w fun e w' =>
   e = .returned (.agg #[.int .i64 (setsP (L i) (lkP L i) r).kind, .int .i64 (setsP (L i) (lkP L i) r).k]) ∧ LkAt w' p lb lcap n L way sure mov ∧ Tch p p w w' := by
 have ha := fun w h => hat r w hr h
 have hx : L i = ⟨(L i).op, (L i).imm, (L i).dst, (L i).src, (L i).off, (L i).num⟩ := rfl
 have hsm := lkP_small L hnum (i + 1) i (by omega) r
 unfold Small at hsm
 have hnu := hnum i
 unfold setsP
 by_cases h40 : (L i).op = 40
 ·rw [if_pos h40]
  exact sets_1 p lb lcap n i r L way sure mov w h hi _ _ _ _ _ _ _ _ hx (fun w h => called_any p lb lcap n i r L way sure mov w h hi hr hat) h40
 rw [if_neg h40]
 by_cases h23 : 23 < (L i).op
 ·rw [if_pos (.inl h23)]
  exact sets_2 p lb lcap n i r L way sure mov w h hi _ _ _ _ _ _ _ _ hx ha h40 h23
 by_cases hd : (L i).dst = r
 ·rw [if_neg (fun q => by rcases q with q | q; exact h23 q; exact q hd)]
  by_cases h20 : 20 ≤ (L i).op
  ·rw [if_pos (.inl h20)]
   exact sets_4 p lb lcap n i r L way sure mov w h hi _ _ _ _ _ _ hx h23 hd h20
  by_cases h1 : (L i).op = 1
  ·cases him : (L i).imm
   ·rw [if_neg (fun q => by rcases q with q | q; exact h20 q; cases q.2), if_pos h1]
    exact sets_6 p lb lcap n i r L way sure mov w h hi _ _ _ _ _ _ _ _ hx (fun w h => hat _ w hsrc h) h1 hd him
   ·rw [if_pos (.inr ⟨h1, rfl⟩)]
    exact sets_5 p lb lcap n i r L way sure mov w h hi _ _ _ _ _ _ hx h1 hd him
  ·rw [if_neg (fun q => by rcases q with q | q; exact h20 q; exact h1 q.1), if_neg h1]
   by_cases h4 : ((lkP L i).held r).kind = 4
   ·rw [if_pos (.inl h4)]
    by_cases h3 : (L i).op = 3
    ·rw [if_pos h3, h4]
     exact sets_7 p lb lcap n i r L way sure mov w h hi _ _ _ _ _ _ _ _ hx ha hd h3 h4 (by constructor <;> omega)
    ·rw [if_neg h3, h4]
     exact sets_9 p lb lcap n i r L way sure mov w h hi _ _ _ _ _ _ _ _ hx ha (by omega) (by omega) hd h3 h4 (by constructor <;> omega)
   by_cases h5 : ((lkP L i).held r).kind = 5
   ·rw [if_pos (.inr h5)]
    by_cases h3 : (L i).op = 3
    ·rw [if_pos h3, h5]
     exact sets_8 p lb lcap n i r L way sure mov w h hi _ _ _ _ _ _ _ _ hx ha hd h3 h5 (by constructor <;> omega)
    ·rw [if_neg h3, h5]
     exact sets_10 p lb lcap n i r L way sure mov w h hi _ _ _ _ _ _ _ _ hx ha (by omega) (by omega) hd h3 h5 (by constructor <;> omega)
   rw [if_neg (fun q => by rcases q with q | q; exact h4 q; exact h5 q)]
   exact sets_11 p lb lcap n i r L way sure mov w h hi _ _ _ _ _ _ _ _ hx ha (by omega) (by omega) hd h4 h5
 ·rw [if_pos (.inr hd)]
  exact sets_3 p lb lcap n i r L way sure mov w h hi _ _ _ _ _ _ _ _ hx ha h23 hd
end Go.Proofs.YtoobileejdhikaaGreat

namespace Go.Proofs.YtoobileejdhikaaGreat
set_option maxRecDepth 100000
set_option maxHeartbeats 4000000
open Go.RowKit
attribute [local go_sem ↓] Go.wp_at_zero Go.wp_at_succ

theorem at_zero (p lb lcap n : Nat) (L : Nat → RI) (way : Nat → Bool) (sure : Nat → Int) (mov : Nat → Bool) : AtC p lb lcap n L way sure mov 0 := by
 intro r w hr h
 rw [lkP_zero]
 show Calls Tryz.prog 144 #[.pointer (some ⟨p, 0, none⟩), .int .i64 0, .int .i64 r] w fun e w' => e = .returned (.agg #[.int .i64 (heldStart r).kind, .int .i64 (heldStart r).k]) ∧ LkAt w' p lb lcap n L way sure mov ∧ Tch p p w w'
 unfold heldStart
 have HH := hideM h
 clear h
 by_cases h1 : r = 1
 ·subst h1
  go_enter Tryz.func144, Tryz.ntmps144
  go_wp2_with fail
  exact bodyPost_ret (v := .agg #[.int .i64 4, .int .i64 0]) (by simp [results, Tryz.results144, go_sem]) rfl ⟨rfl, HH.out.alloc _, (Tch.refl p p w).alloc _⟩
 ·by_cases h2 : r = 2
  ·subst h2
   go_enter Tryz.func144, Tryz.ntmps144
   go_wp2_with fail
   exact bodyPost_ret (v := .agg #[.int .i64 6, .int .i64 0]) (by simp [results, Tryz.results144, go_sem]) rfl ⟨rfl, HH.out.alloc _, (Tch.refl p p w).alloc _⟩
  ·by_cases h7 : r = 7
   ·subst h7
    go_enter Tryz.func144, Tryz.ntmps144
    go_wp2_with fail
    exact bodyPost_ret (v := .agg #[.int .i64 5, .int .i64 0]) (by simp [results, Tryz.results144, go_sem]) rfl ⟨rfl, HH.out.alloc _, (Tch.refl p p w).alloc _⟩
   ·rw [if_neg h1, if_neg h2, if_neg h7]
    have q1 : ¬ (r : Int) = 1 := by omega
    have q2 : ¬ (r : Int) = 2 := by omega
    have q7 : ¬ (r : Int) = 7 := by omega
    go_enter Tryz.func144, Tryz.ntmps144
    go_wp2_with fail
    exact bodyPost_ret (v := .agg #[.int .i64 0, .int .i64 0]) (by simp [results, Tryz.results144, go_sem]) rfl ⟨rfl, HH.out.alloc _, (Tch.refl p p w).alloc _⟩

theorem at_known (p lb lcap n i r : Nat) (L : Nat → RI) (way : Nat → Bool) (sure : Nat → Int) (mov : Nat → Bool) (w : World) (h : LkAt w p lb lcap n L way sure mov) (hi : ¬ i = 0) (hi2 : i < 65) (hr : r < 8) (v : HK)
  (c1 : w.cell? ⟨p, 1 + i * 8 + r, none⟩ = some (.bool true)) (c2 : w.cell? ⟨p, 521 + i * 16 + r * 2, none⟩ = some (.int .i64 v.kind)) (c3 : w.cell? ⟨p, 521 + i * 16 + r * 2 + 1, none⟩ = some (.int .i64 v.k)) :
  Calls Tryz.prog 144 #[.pointer (some ⟨p, 0, none⟩), .int .i64 i, .int .i64 r] w fun e w' => e = .returned (.agg #[.int .i64 v.kind, .int .i64 v.k]) ∧ LkAt w' p lb lcap n L way sure mov ∧ Tch p p w w' := by
 have lp := h.lp
 have n1 : ¬ w.heap.size = p := by omega
 have q0 : ¬ (i : Int) = 0 := by omega
 have q1 : (0 : Int) ≤ (i : Int) := by omega
 have q2 : (i : Int) < 65 := by omega
 have q3 : (0 : Int) ≤ (r : Int) := by omega
 have q4 : (r : Int) < 8 := by omega
 have HH := hideM h
 clear h
 go_enter Tryz.func144, Tryz.ntmps144
 go_wp2_with fail
 exact bodyPost_ret (v := .agg #[.int .i64 v.kind, .int .i64 v.k]) (by simp [results, Tryz.results144, go_sem]) rfl ⟨rfl, HH.out.alloc _, (Tch.refl p p w).alloc _⟩
end Go.Proofs.YtoobileejdhikaaGreat
