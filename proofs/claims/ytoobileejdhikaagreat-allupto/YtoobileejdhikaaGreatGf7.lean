/-
  The document's look for plain code: at, at an instruction that is not the first.
-/
import Derived.Test.YtoobileejdhikaaGreatGf6
import Derived.Deep.RegionHeld3
import Derived.Deep.DrawnRows
namespace Go.Proofs.YtoobileejdhikaaGreat
set_option maxRecDepth 100000
set_option maxHeartbeats 8000000
open Go.RowKit
attribute [local go_sem ↓] Go.wp_at_zero Go.wp_at_succ

theorem Box2.away {W : World} {b : Nat} {v : HK} (h : Box2 W b v) {c o : Nat} (hc : c ≠ b) (u : Value) : Box2 (W.setCell ⟨c, o, none⟩ u) b v :=
 h.same (heap_setCell_other W ⟨c, o, none⟩ b u (Ne.symm hc)) (by rw [size_setCell]; exact Nat.le_refl _)

theorem at_go (p lb lcap n i r : Nat) (L : Nat → RI) (way : Nat → Bool) (sure : Nat → Int) (mov : Nat → Bool) (w : World) (h : LkAt w p lb lcap n L way sure mov) (hi : ¬ i = 0) (hin : i < n) (hr : r < 8) (hL : CodeOk L n)
  (hnum : ∀ i, -2147483648 ≤ (L i).num ∧ (L i).num ≤ 2147483647) (hway : ∀ j, j < i → way j = (lkP L j).way) (hat : ∀ j, j < i → AtC p lb lcap n L way sure mov j) (c1 : w.cell? ⟨p, 1 + i * 8 + r, none⟩ = some (.bool false)) :
  Calls Tryz.prog 144 #[.pointer (some ⟨p, 0, none⟩), .int .i64 i, .int .i64 r] w fun e w' => e = .returned (.agg #[.int .i64 ((lkP L i).held r).kind, .int .i64 ((lkP L i).held r).k]) ∧ LkAt w' p lb lcap n L way sure mov ∧ Tch p p w w' := by
 have lp := h.lp
 have ll := h.la.lt
 have hle := hL.le
 have n1 : ¬ w.heap.size = p := by omega
 have n2 : ¬ w.heap.size = lb := by omega
 have n5 : ¬ w.heap.size + 1 = p := by omega
 have n6 : ¬ w.heap.size + 1 = lb := by omega
 have q0 : ¬ (i : Int) = 0 := by omega
 have qb : ((i : Int) == 0) = false := by simpa using q0
 have q1 : (0 : Int) ≤ (i : Int) := by omega
 have q2 : (i : Int) < 65 := by omega
 have q3 : (0 : Int) ≤ (r : Int) := by omega
 have q4 : (r : Int) < 8 := by omega
 generalize hfo : (fun j => if edge L j i then some (setsP (L j) (lkP L j) r) else none) = f
 have hfin : (lkP L i).held r = heldGo f i := by rw [lkP_held L hi, hfo]
 rw [hfin]
 have HFO := hideM hfo
 have HFI := hideM hfin
 have HH := hideM h
 have HL := hideM hL
 have HN := hideM hnum
 have HW := hideM hway
 have HA := hideM hat
 clear h hL hnum hway hat hfo hfin
 go_enter Tryz.func144, Tryz.ntmps144
 go_wp2_with fail
 have HS : Hid (LkAt ((w.alloc (.cells #[.int .i64 0, .int .i64 0] 132)).alloc (.cells #[.int .i64 (-1), .int .i64 0] 132)) p lb lcap n L way sure mov ∧
   Tch p p w ((w.alloc (.cells #[.int .i64 0, .int .i64 0] 132)).alloc (.cells #[.int .i64 (-1), .int .i64 0] 132)) ∧
   Box2 ((w.alloc (.cells #[.int .i64 0, .int .i64 0] 132)).alloc (.cells #[.int .i64 (-1), .int .i64 0] 132)) w.heap.size ⟨0, 0⟩ ∧
   Box2 ((w.alloc (.cells #[.int .i64 0, .int .i64 0] 132)).alloc (.cells #[.int .i64 (-1), .int .i64 0] 132)) (w.heap.size + 1) (heldGo f 0)) := by
  refine ⟨(HH.out.alloc _).alloc _, ((Tch.refl p p w).alloc _).alloc _, (Box2.zero w).alloc _, ?_⟩
  have := Box2.made (w.alloc (.cells #[.int .i64 0, .int .i64 0] 132)) (heldGo f 0)
  simpa [heldGo] using this
 generalize (w.alloc (.cells #[.int .i64 0, .int .i64 0] 132)).alloc (.cells #[.int .i64 (-1), .int .i64 0] 132) = W1 at HS ⊢
 clear HH c1
 go_loopw [8] (fun s8 wr => ∃ k : Nat, k ≤ i ∧ s8 = .int .i64 k ∧ Hid (LkAt wr p lb lcap n L way sure mov ∧ Tch p p w wr ∧ Box2 wr w.heap.size ⟨0, 0⟩ ∧ Box2 wr (w.heap.size + 1) (heldGo f k))) (fun s _ => i - (intOf s).toNat)
 case atStart => exact ⟨0, by omega, rfl, HS.out⟩
 case round =>
  clear HS
  obtain ⟨k, hk, rfl, HS⟩ := hrel
  by_cases hlt : k < i
  ·have hlt2 : (k : Int) < (i : Int) := by omega
   go_wp2_with fail
   refine (from_any p lb lcap n k i L way sure mov wr HS.out.1 (by omega) (by omega) (by omega) (HL.out.off k (by omega))).mono ?_
   rintro e w2 ⟨rfl, bel2⟩
   have HE : Hid (heldGo f (k + 1) = if (fromB (L k) (way k) k i).1 || (fromB (L k) (way k) k i).2 then meetH (heldGo f k) (setsP (L k) (lkP L k) r) else heldGo f k) := by
    show heldGo f (k + 1) = _
    have e : f k = if (fromB (L k) (way k) k i).1 || (fromB (L k) (way k) k i).2 then some (setsP (L k) (lkP L k) r) else none := by
     rw [← HFO.out, HW.out k hlt]; rfl
    show (match f k with | none => heldGo f k | some h => meetH (heldGo f k) h) = _
    rw [e]
    cases ((fromB (L k) (way k) k i).1 || (fromB (L k) (way k) k i).2) <;> rfl
   have HS2 : Hid (LkAt w2 p lb lcap n L way sure mov ∧ Tch p p w w2 ∧ Box2 w2 w.heap.size ⟨0, 0⟩ ∧ Box2 w2 (w.heap.size + 1) (heldGo f k)) :=
    ⟨HS.out.1.later bel2, HS.out.2.1.trans (Tch.of_below bel2), HS.out.2.2.1.later bel2, HS.out.2.2.2.later bel2⟩
   clear HS bel2
   generalize (fromB (L k) (way k) k i).1 = a at HE ⊢
   generalize (fromB (L k) (way k) k i).2 = b at HE ⊢
   by_cases hab : (a || b) = true
   ·have HE2 : Hid (heldGo f (k + 1) = meetH (heldGo f k) (setsP (L k) (lkP L k) r)) := by
     show _ = _
     rw [HE.out, if_pos hab]
    clear HE
    have hs3 : Hid (k < n ∧ (L k).src < 8 ∧ 1 ≤ (L k).op ∧ n ≤ 64) := ⟨by omega, HL.out.src k (by omega), by have := HL.out.ops k (by omega); omega, hle⟩
    cases a <;> cases b
    ·simp at hab
    all_goals
     go_wp2_with fail
     refine (sets_any p lb lcap n k r L way sure mov w2 HS2.out.1 hs3.out.1 hr hs3.out.2.1 hs3.out.2.2.1 hs3.out.2.2.2 HN.out (HA.out k hlt)).mono ?_
     rintro e w3 ⟨rfl, h3, t3⟩
     have d3 := HS2.out.2.2.1.tch t3 (by omega) (by omega)
     have x3 := HS2.out.2.2.2.tch t3 (by omega) (by omega)
     have HT3 : Hid (Tch p p w w3) := HS2.out.2.1.trans t3
     have HH3 := hideM h3
     have HD3 := hideM d3
     have HX3 := hideM x3
     have k0 := x3.ck
     have k1 := x3.cn
     have z0 := x3.cz 0
     have z1 := x3.cz 1
     have hl := x3.l
     have n7 : ¬ w3.heap.size = w.heap.size + 1 := by omega
     have n8 : ¬ w.heap.size + 1 = w3.heap.size := by omega
     clear h3 d3 x3 t3 HS2
     generalize setsP (L k) (lkP L k) r = v at HE2 ⊢
     generalize heldGo f k = o at k0 k1 HX3 HE2
     obtain ⟨ok, on⟩ := o
     obtain ⟨vk, vn⟩ := v
     simp only at k0 k1
     by_cases ho : 0 ≤ ok
     ·by_cases e1 : vk = ok
      ·by_cases e2 : vn = on
       ·subst e1 e2
        have HE3 : Hid (heldGo f (k + 1) = ⟨vk, vn⟩) := by
         show _ = _
         rw [HE2.out]; unfold meetH; rw [if_neg (fun q => by have := q.2; simp [HK.same] at this)]
        clear HE2
        go_wp2_with fail
        go_roundw
        case rel => exact ⟨k + 1, by omega, by go_num, by rw [HE3.out]; exact ⟨((HH3.out.away n5 n6 _).away n5 n6 _).alloc _, ((HT3.out.setNew (by omega) _ _).setNew (by omega) _ _).alloc _, ((HD3.out.away (by omega) _).away (by omega) _).alloc _, (HX3.out.put ⟨vk, vn⟩).alloc _⟩⟩
        case measure => simp [intOf]; omega
       ·subst e1
        have HE3 : Hid (heldGo f (k + 1) = ⟨7, 0⟩) := by
         show _ = _
         rw [HE2.out]; unfold meetH; rw [if_pos ⟨ho, by simp [HK.same, e2]⟩]
        clear HE2
        go_wp2_with fail
        go_roundw
        case rel => exact ⟨k + 1, by omega, by go_num, by rw [HE3.out]; exact ⟨((HH3.out.away n5 n6 _).away n5 n6 _).alloc _, ((HT3.out.setNew (by omega) _ _).setNew (by omega) _ _).alloc _, ((HD3.out.away (by omega) _).away (by omega) _).alloc _, (HX3.out.put ⟨7, 0⟩).alloc _⟩⟩
        case measure => simp [intOf]; omega
      ·skip
       have HE3 : Hid (heldGo f (k + 1) = ⟨7, 0⟩) := by
        show _ = _
        rw [HE2.out]; unfold meetH; rw [if_pos ⟨ho, by simp [HK.same, e1]⟩]
       clear HE2
       go_wp2_with fail
       go_roundw
       case rel => exact ⟨k + 1, by omega, by go_num, by rw [HE3.out]; exact ⟨((HH3.out.away n5 n6 _).away n5 n6 _).alloc _, ((HT3.out.setNew (by omega) _ _).setNew (by omega) _ _).alloc _, ((HD3.out.away (by omega) _).away (by omega) _).alloc _, (HX3.out.put ⟨7, 0⟩).alloc _⟩⟩
       case measure => simp [intOf]; omega
     ·skip
      have HE3 : Hid (heldGo f (k + 1) = ⟨vk, vn⟩) := by
       show _ = _
       rw [HE2.out]; unfold meetH; rw [if_neg (fun q => ho q.1)]
      clear HE2
      go_wp2_with fail
      go_roundw
      case rel => exact ⟨k + 1, by omega, by go_num, by rw [HE3.out]; exact ⟨((HH3.out.away n5 n6 _).away n5 n6 _).alloc _, ((HT3.out.setNew (by omega) _ _).setNew (by omega) _ _).alloc _, ((HD3.out.away (by omega) _).away (by omega) _).alloc _, (HX3.out.put ⟨vk, vn⟩).alloc _⟩⟩
      case measure => simp [intOf]; omega
   ·have ha : a = false := by cases a <;> simp_all
    have hb : b = false := by cases b <;> simp_all
    subst ha hb
    go_wp2_with fail
    go_roundw
    case rel => exact ⟨k + 1, by omega, by go_num, by rw [HE.out]; exact HS2.out⟩
    case measure => simp [intOf]; omega
  ·have hki : k = i := by omega
   subst hki
   obtain ⟨kn, hd, m1, m2, m3, m4⟩ := HS.out.1.mem.mem
   have g1 := m1 k r (by omega) hr
   have g2 := m2 k r (by omega) hr
   have g3 := m3 k r (by omega) hr
   have z1 := HS.out.1.fz (1 + k * 8 + r)
   have z2 := HS.out.1.fz (521 + k * 16 + r * 2)
   have z3 := HS.out.1.fz (521 + k * 16 + r * 2 + 1)
   have k0 := HS.out.2.2.2.ck
   have k1 := HS.out.2.2.2.cn
   have y0 := HS.out.2.2.1.ck
   have y1 := HS.out.2.2.1.cn
   have x0 := HS.out.2.2.1.cz 0
   have x1 := HS.out.2.2.1.cz 1
   clear m1 m2 m3 m4
   generalize hd k r = b3 at g2 g3
   generalize kn k r = b4 at g1
   clear hd kn
   have e3 : ¬ p = w.heap.size + 1 := by omega
   have e4 : ¬ p = w.heap.size := by omega
   go_wp2_with fail
   go_region_held3 (fun w' => w'.cell? ⟨w.heap.size + 1, 0, none⟩ = some (.int .i64 (heldGo f k).kind) ∧ w'.cell? ⟨w.heap.size + 1, 1, none⟩ = some (.int .i64 (heldGo f k).k)) (go_keep) (fail)
   all_goals go_wp2
   have hb := ((((HS.out.2.2.1.away (c := p) (o := 1 + k * 8 + r) e4 (.bool true)).away (c := p) (o := 521 + k * 16 + r * 2) e4 (.int .i64 (heldGo f k).kind)).away (c := p) (o := 521 + k * 16 + r * 2 + 1) e4 (.int .i64 (heldGo f k).k)).put (heldGo f k)).later (Below.refl _ _).drew
   have t0 := hb.ck
   have t1 := hb.cn
   have hlk := HS.out.1.found k r (by omega) hr (v := heldGo f k) HFI.out.symm
   exact bodyPost_ret (v := .agg #[.int .i64 (heldGo f k).kind, .int .i64 (heldGo f k).k]) (by simp [results, Tryz.results144, go_sem, t0, t1]) rfl
    ⟨rfl, ((hlk.away n1 n2 _).away n1 n2 _).drew, (((((HS.out.2.1.setP _ _).setP _ _).setP _ _).setNew (Nat.le_refl _) _ _).setNew (Nat.le_refl _) _ _).drew⟩

theorem at_any (p lb lcap n : Nat) (L : Nat → RI) (way : Nat → Bool) (sure : Nat → Int) (mov : Nat → Bool) (hL : CodeOk L n) (hnum : ∀ i, -2147483648 ≤ (L i).num ∧ (L i).num ≤ 2147483647) :
  ∀ (b i : Nat), i < b → i < n → (∀ j, j < i → way j = (lkP L j).way) → AtC p lb lcap n L way sure mov i
 | 0, _, h, _, _ => by omega
 | b + 1, i, hb, hin, hway => by
  by_cases hi : i = 0
  ·subst hi; exact at_zero p lb lcap n L way sure mov
  ·intro r w hr h
   have hle := hL.le
   obtain ⟨kn, hd, m1, m2, m3, m4⟩ := h.mem.mem
   have g1 := m1 i r (by omega) hr
   cases hk : kn i r
   ·rw [hk] at g1
    exact at_go p lb lcap n i r L way sure mov w h hi hin hr hL hnum hway (fun j hj => at_any p lb lcap n L way sure mov hL hnum b j (by omega) (by omega) (fun q hq => hway q (by omega))) g1
   ·rw [hk] at g1
    have e := m4 i r (by omega) hr hk
    have := at_known p lb lcap n i r L way sure mov w h hi (by omega) hr (hd i r) g1 (m2 i r (by omega) hr) (m3 i r (by omega) hr)
    rw [e] at this
    exact this
end Go.Proofs.YtoobileejdhikaaGreat
