/-
  The document's look for plain code: single, reach.
  The document's look for plain code: good.
  The document's look for plain code: Plain.
-/
import Derived.Test.YtoobileejdhikaaGreatGf8
import Derived.Deep.QuietTactic
import Derived.BigQuiet
import Derived.Deep.CutBlock
import Derived.Deep.RegionHeld3
import Derived.Deep.DrawnRows
namespace Go.Proofs.YtoobileejdhikaaGreat
set_option maxRecDepth 100000
set_option maxHeartbeats 4000000
open Go.RowKit
attribute [local go_sem ↓] Go.wp_at_zero Go.wp_at_succ

theorem below_drewN {B : Nat} {w W : World} (h : Below B w W) (k : Nat) : Below B w (W.drewN k) := ⟨h.os, h.tape, h.output, h.size, h.block⟩

theorem single_any (kd kn : Int) (w : World) :
  Calls Tryz.prog 145 #[.agg #[.int .i64 kd, .int .i64 kn]] w fun e w' => e = .returned (.bool (single ⟨kd, kn⟩)) ∧ Below w.heap.size w w' := by
 have e1 : single ⟨kd, kn⟩ = ((kd == 1) || (kd == 4) || (kd == 5) || (kd == 6)) := rfl
 rw [e1]
 clear e1
 by_cases h1 : kd = 1
 ·subst h1
  go_enter Tryz.func145, Tryz.ntmps145
  go_wp2_with fail
  go_ret
  exact ⟨rfl, below_alloc _ _⟩
 by_cases h4 : kd = 4
 ·subst h4
  go_enter Tryz.func145, Tryz.ntmps145
  go_wp2_with fail
  go_ret
  exact ⟨rfl, below_alloc _ _⟩
 by_cases h5 : kd = 5
 ·subst h5
  go_enter Tryz.func145, Tryz.ntmps145
  go_wp2_with fail
  go_ret
  exact ⟨rfl, below_alloc _ _⟩
 by_cases h6 : kd = 6
 ·subst h6
  go_enter Tryz.func145, Tryz.ntmps145
  go_wp2_with fail
  go_ret
  exact ⟨rfl, below_alloc _ _⟩
 have q1 : (kd == 1) = false := by simpa using h1
 have q4 : (kd == 4) = false := by simpa using h4
 have q5 : (kd == 5) = false := by simpa using h5
 have q6 : (kd == 6) = false := by simpa using h6
 rw [q1, q4, q5, q6]
 go_enter Tryz.func145, Tryz.ntmps145
 go_wp2_with fail
 go_ret
 exact ⟨rfl, below_alloc _ _⟩

def rreachB (s : Int) (h : HK) (off n : Int) : Bool :=
 if h.kind = 4 then decide (0 ≤ h.k + off) && decide (h.k + off + n ≤ s) else (h.kind == 5) && decide (-32 ≤ h.k + off) && decide (h.k + off + n ≤ 0)
theorem rreachP_B (t : PL) (h : HK) (off n : Int) : reachP t h off n = rreachB t.sure h off n := rfl

theorem rreach_any (p lb lcap n i : Nat) (L : Nat → RI) (way : Nat → Bool) (sure : Nat → Int) (mov : Nat → Bool) (w : World) (h : LkAt w p lb lcap n L way sure mov) (hi : i < 65) (kd kn off z : Int)
  (b1 : -9000000000000000000 ≤ kn ∧ kn ≤ 9000000000000000000) (b2 : -40000 ≤ off ∧ off ≤ 40000) (b3 : 0 ≤ z ∧ z ≤ 8) :
  Calls Tryz.prog 146 #[.pointer (some ⟨p, 0, none⟩), .int .i64 i, .agg #[.int .i64 kd, .int .i64 kn], .int .i64 off, .int .i64 z] w fun e w' => e = .returned (.bool (rreachB (sure i) ⟨kd, kn⟩ off z)) ∧ Below w.heap.size w w' := by
 have c1 := h.sure i hi
 have lp := h.lp
 have n1 : ¬ w.heap.size = p := by omega
 have i0 : (0 : Int) ≤ (i : Int) := by omega
 have i1 : (i : Int) < 65 := by omega
 generalize sure i = s at c1
 clear h
 by_cases h4 : kd = 4
 ·subst h4
  have e1 : rreachB s ⟨4, kn⟩ off z = (decide (0 ≤ kn + off) && decide (kn + off + z ≤ s)) := rfl
  rw [e1]
  clear e1
  by_cases q : 0 ≤ kn + off
  ·have qd : decide (0 ≤ kn + off) = true := decide_eq_true q
   rw [qd]
   go_enter Tryz.func146, Tryz.ntmps146
   go_wp2_with fail
   go_quiet (fail)
   go_wp2
   go_ret
   exact ⟨rfl, below_drewN (below_alloc _ _) _⟩
  ·have qd : decide (0 ≤ kn + off) = false := decide_eq_false q
   rw [qd]
   go_enter Tryz.func146, Tryz.ntmps146
   go_wp2_with fail
   go_quiet (fail)
   go_wp2
   go_ret
   exact ⟨rfl, below_drewN (below_alloc _ _) _⟩
 ·have h4b : (kd == 4) = false := by simpa using h4
  have e1 : rreachB s ⟨kd, kn⟩ off z = ((kd == 5) && decide (-32 ≤ kn + off) && decide (kn + off + z ≤ 0)) := by
   show (if kd = 4 then _ else _) = _
   rw [if_neg h4]
  rw [e1]
  clear e1 c1
  by_cases h5 : kd = 5
  ·subst h5
   by_cases q : -32 ≤ kn + off
   ·have qd : decide (-32 ≤ kn + off) = true := decide_eq_true q
    rw [qd]
    go_enter Tryz.func146, Tryz.ntmps146
    go_wp2_with fail
    go_ret
    exact ⟨rfl, below_alloc _ _⟩
   ·have qd : decide (-32 ≤ kn + off) = false := decide_eq_false q
    rw [qd]
    go_enter Tryz.func146, Tryz.ntmps146
    go_wp2_with fail
    go_ret
    exact ⟨rfl, below_alloc _ _⟩
  ·have h5b : (kd == 5) = false := by simpa using h5
   rw [h5b]
   go_enter Tryz.func146, Tryz.ntmps146
   go_wp2_with fail
   go_ret
   exact ⟨rfl, below_alloc _ _⟩
end Go.Proofs.YtoobileejdhikaaGreat

namespace Go.Proofs.YtoobileejdhikaaGreat
set_option maxRecDepth 1000000
set_option maxHeartbeats 40000000
open Go.RowKit
attribute [local go_sem ↓] Go.wp_at_zero Go.wp_at_succ

theorem good_any (p lb lcap n i : Nat) (L : Nat → RI) (way : Nat → Bool) (sure : Nat → Int) (mov : Nat → Bool) (w : World) (h : LkAt w p lb lcap n L way sure mov) (hL : CodeOk L n) (hnum : ∀ i, -2147483648 ≤ (L i).num ∧ (L i).num ≤ 2147483647) (hi : i < n)
  (hat : AtC p lb lcap n L way sure mov i) (hsu : sure i = (lkP L i).sure) (hmo : mov i = (lkP L i).mov) :
  Calls Tryz.prog 70 #[.pointer (some ⟨p, 0, none⟩), .int .i64 i] w fun e w' => e = .returned (.bool (goodP (L i) (lkP L i))) ∧ LkAt w' p lb lcap n L way sure mov ∧ Tch p p w w' := by
 have c0 := h.l
 have f0 := h.la.op i hi
 have f1 := h.la.imm i hi
 have f2 := h.la.dst i hi
 have f3 := h.la.src i hi
 have f4 := h.la.off i hi
 have f5 := h.la.num i hi
 have lp := h.lp
 have ll := h.la.lt
 have hle := hL.le
 have i1 : (i : Int) < (n : Int) := by omega
 have i0 : (0 : Int) ≤ (i : Int) := by omega
 have i65 : (i : Int) < 65 := by omega
 have n1 : ¬ w.heap.size = p := by omega
 have n2 : ¬ w.heap.size = lb := by omega
 have HC : Hid ((L i).dst < 8 ∧ (L i).src < 8 ∧ (-32768 ≤ (L i).off ∧ (L i).off ≤ 32767) ∧ (-2147483648 ≤ (L i).num ∧ (L i).num ≤ 2147483647)) := ⟨hL.dst i hi, hL.src i hi, hL.off i hi, hnum i⟩
 have hops := hL.ops i hi
 have HSm : Hid (∀ r, -(140000000000 : Int) ≤ ((lkP L i).held r).k ∧ ((lkP L i).held r).k ≤ 140000000000) := by
  intro r
  have hsm := lkP_small L hnum (i + 1) i (by omega) r
  unfold Small at hsm
  constructor <;> omega
 have HH := hideM h
 have HA := hideM hat
 have HSU := hideM hsu
 have HMO := hideM hmo
 clear h hL hnum hat hsu hmo

 generalize hxk : L i = x at f0 f1 f2 f3 f4 f5 HC hops ⊢
 have HXK := hideM hxk
 clear hxk
 obtain ⟨op, imm, dst, src, off, num⟩ := x
 simp only at f0 f1 f2 f3 f4 f5 HC hops
 go_enter Tryz.func70, Tryz.ntmps70
 go_wp2_with fail
 refine (HA.out dst _ HC.out.1 (HH.out.alloc _)).mono ?_
 rintro e w2 ⟨rfl, h2, t2⟩
 have x2 := (Box6.made w ⟨op, imm, dst, src, off, num⟩).tch t2 (by omega) (by omega)
 have HT2 : Hid (Tch p p w w2) := ((Tch.refl p p w).alloc _).trans t2
 have g0 := x2.op
 have g1 := x2.imm
 have g3 := x2.src
 have l2 := x2.l
 have HX2 := hideM x2
 have HH2 := hideM h2
 have m1 : ¬ w2.heap.size = w.heap.size := by omega
 have m2 : ¬ w.heap.size = w2.heap.size := by omega
 have m3 : ¬ w2.heap.size + 1 = w.heap.size := by omega
 have m4 : ¬ w.heap.size = w2.heap.size + 1 := by omega
 clear h2 t2 x2 HH f0 f1 f2 f3 f4 f5 c0
 simp only at g0 g1 g3
 generalize hva : (lkP L i).held dst = va
 have HVA := hideM hva
 clear hva
 go_upto_if 26 with fail
 have HS : Hid (LkAt ((w2.alloc (.cells #[.int .i64 va.kind, .int .i64 va.k] 132)).alloc (.cells #[.int .i64 1, .int .i64 0] 132)) p lb lcap n L way sure mov ∧ Tch p p w ((w2.alloc (.cells #[.int .i64 va.kind, .int .i64 va.k] 132)).alloc (.cells #[.int .i64 1, .int .i64 0] 132)) ∧ Box6 ((w2.alloc (.cells #[.int .i64 va.kind, .int .i64 va.k] 132)).alloc (.cells #[.int .i64 1, .int .i64 0] 132)) w.heap.size ⟨op, imm, dst, src, off, num⟩ ∧
   Box2 ((w2.alloc (.cells #[.int .i64 va.kind, .int .i64 va.k] 132)).alloc (.cells #[.int .i64 1, .int .i64 0] 132)) w2.heap.size va ∧ Box2 ((w2.alloc (.cells #[.int .i64 va.kind, .int .i64 va.k] 132)).alloc (.cells #[.int .i64 1, .int .i64 0] 132)) (w2.heap.size + 1) ⟨1, 0⟩) := by
  refine ⟨(HH2.out.alloc _).alloc _, (HT2.out.alloc _).alloc _, (HX2.out.later (below_alloc _ _)).later (below_alloc _ _), (Box2.made w2 va).alloc _, ?_⟩
  have := Box2.made (w2.alloc (.cells #[.int .i64 va.kind, .int .i64 va.k] 132)) ⟨1, 0⟩
  simpa using this
 generalize (w2.alloc (.cells #[.int .i64 va.kind, .int .i64 va.k] 132)).alloc (.cells #[.int .i64 1, .int .i64 0] 132) = W3 at HS ⊢
 have hb2 : w.heap.size < w2.heap.size := l2
 generalize w2.heap.size = ab at HS m1 m2 m3 m4 hb2 ⊢
 generalize hxb : w.heap.size = xb at HS m1 m2 m3 m4 hb2 n1 n2 ⊢
 have hxp : p < xb := by omega
 have hxw : w.heap.size ≤ xb := by omega
 have HXW := hideM hxw
 clear HH2 HT2 HX2 g0 g1 g3 l2 hxb hxw
 have g0 := HS.out.2.2.1.op
 have g1 := HS.out.2.2.1.imm
 have g3 := HS.out.2.2.1.src
 have k0 := HS.out.2.2.2.2.ck
 have k1 := HS.out.2.2.2.2.cn
 have y0 := HS.out.2.2.2.2.cz 0
 have y1 := HS.out.2.2.2.2.cz 1
 simp only at g0 g1 g3 k0 k1
 go_cut [] from 24 to 31 (fun we => LkAt we p lb lcap n L way sure mov ∧ Tch p p w we ∧ Box6 we xb ⟨op, imm, dst, src, off, num⟩ ∧ Box2 we ab va ∧ Box2 we (ab + 1) (secH ⟨op, imm, dst, src, off, num⟩ (lkP L i)))
 case first =>
  cases imm
  ·go_wp2_with fail
   refine (HA.out src _ HC.out.2.1 HS.out.1).mono ?_
   rintro e w4 ⟨rfl, h4, t4⟩
   have x4 := HS.out.2.2.1.tch t4 (by omega) (by omega)
   have a4 := HS.out.2.2.2.1.tch t4 (by omega) (by omega)
   have b4 := HS.out.2.2.2.2.tch t4 (by omega) (by omega)
   have HT4 : Hid (Tch p p w w4) := HS.out.2.1.trans t4
   have q0 := b4.ck
   have q1 := b4.cn
   have q2 := b4.cz 0
   have q3 := b4.cz 1
   have HH4 := hideM h4
   have HX4 := hideM x4
   have HA4 := hideM a4
   have HB4 := hideM b4
   have lbp : ¬ ab + 1 = lb := by have := HXW.out; omega
   clear h4 x4 a4 b4 t4
   go_wp2_with fail
   go_meet
   case rel =>
    exact ⟨(HH4.out.away (by omega) lbp _).away (by omega) lbp _, (HT4.out.setNew (by have := HXW.out; omega) _ _).setNew (by have := HXW.out; omega) _ _,
     HX4.out.same (by rw [heap_setCell_other _ _ _ _ (by simp; omega), heap_setCell_other _ _ _ _ (by simp; omega)]) (by rw [size_setCell, size_setCell]; exact Nat.le_refl _), (HA4.out.away (by omega) _).away (by omega) _, HB4.out.put ((lkP L i).held src)⟩
  ·go_wp2_with fail
   go_meet
   case rel => exact HS.out
 case rest =>
  clear HS g0 g1 g3 k0 k1 y0 y1
  have HS := hideM hcut
  clear hcut
  have HVB := hideM (rfl : secH ⟨op, imm, dst, src, off, num⟩ (lkP L i) = secH ⟨op, imm, dst, src, off, num⟩ (lkP L i))
  generalize hvb : secH ⟨op, imm, dst, src, off, num⟩ (lkP L i) = vb at HS HVB
  clear HVB
  have HVB := hideM hvb
  have HSB : Hid (-(140000000000 : Int) ≤ vb.k ∧ vb.k ≤ 140000000000) := by
   rw [← hvb]; unfold secH
   split
   ·exact ⟨by decide, by decide⟩
   ·exact HSm.out _
  have HSA : Hid (-(140000000000 : Int) ≤ va.k ∧ va.k ≤ 140000000000) := by rw [← HVA.out]; exact HSm.out _
  clear hvb
  obtain ⟨ak, an⟩ := va
  obtain ⟨bk, bn⟩ := vb
  have g0 := HS.out.2.2.1.op
  have g1 := HS.out.2.2.1.imm
  have g4 := HS.out.2.2.1.off
  have g5 := HS.out.2.2.1.num
  have a0 := HS.out.2.2.2.1.ck
  have a1 := HS.out.2.2.2.1.cn
  have b0 := HS.out.2.2.2.2.ck
  have b1 := HS.out.2.2.2.2.cn
  simp only at g0 g1 g4 g5 a0 a1 b0 b1 HSA HSB
  have HG : Hid (goodP ⟨op, imm, dst, src, off, num⟩ (lkP L i) = (if op = 1 then single ⟨bk, bn⟩
   else if (withinB op 2 3 && imm && ((ak == 4) || (ak == 5))) = true then (if op = 3 then decide (-1000 ≤ an - num) && decide (an - num ≤ 1000) else decide (-1000 ≤ an + num) && decide (an + num ≤ 1000))
   else if withinB op 2 11 then ((ak == 1) && (bk == 1))
   else if withinB op 20 23 then rreachB (sure i) ⟨bk, bn⟩ off (sizeR op)
   else if withinB op 24 27 then (bk == 1) && rreachB (sure i) ⟨ak, an⟩ off (sizeR op)
   else if op = 30 then true
   else if op = 40 then !(num == 1) || (((lkP L i).held 1).kind == 1)
   else if withinB op 31 36 then ((ak == 1) && (bk == 1)) || ((ak == 4) && (bk == 6)) || ((ak == 6) && (bk == 4))
   else (op == 41) && mov i)) := by
   show goodP _ _ = _
   unfold goodP bothP
   rw [HVB.out]
   show (if op = 1 then _ else _) = _
   simp only [HVA.out]
   rw [HSU.out, HMO.out]
   rfl
  go_upto_region 6 with fail
  go_cut [8] from 32 to 39 (fun s8 we => s8 = .bool ((ak == 1) && (bk == 1)) ∧ we = wc)
  case first =>
   by_cases q1 : ak = 1
   ·subst q1
    go_wp2_with fail
    go_meet
    case rel => exact ⟨by simp, rfl⟩
   ·have q1b : (ak == 1) = false := by simpa using q1
    go_wp2_with fail
    go_meet
    case rel => exact ⟨by rw [q1b]; rfl, rfl⟩
  case rest =>
   obtain ⟨rfl, hwd⟩ := hcut
   subst hwd
   obtain ⟨bo, hbo⟩ : ∃ t, ((ak == 1) && (bk == 1)) = t := ⟨_, rfl⟩
   rw [hbo] at HG ⊢
   clear hbo
   rcases hops with hop | hop | hop | hop | hop
   ·skip
    by_cases o1 : op = 1
    ·skip
     subst o1
     have HE : Hid (goodP ⟨1, imm, dst, src, off, num⟩ (lkP L i) = single ⟨bk, bn⟩) := by
      show goodP _ _ = _
      rw [HG.out, if_pos rfl]
     clear HG
     go_wp2_with (go_at_call 145; refine (single_any _ _ _).mono ?_; rintro e w5 ⟨rfl, bel5⟩; have HB5 := hideM bel5; clear bel5)
     go_ret
     exact ⟨by rw [HE.out]; rfl, HS.out.1.later HB5.out, HS.out.2.1.trans (Tch.of_below HB5.out)⟩
    ·skip
     have p1 : (op == 1) = false := by simpa using o1
     by_cases h3 : op ≤ 3
     ·skip
      have e23 : withinB op 2 3 = true := by simp [withinB]; omega
      have e211 : withinB op 2 11 = true := by simp [withinB]; omega
      have e2023 : withinB op 20 23 = false := by simp [withinB]; omega
      have e2427 : withinB op 24 27 = false := by simp [withinB]; omega
      have e3136 : withinB op 31 36 = false := by simp [withinB]; omega
      cases imm
      ·skip
       have HE : Hid (goodP ⟨op, false, dst, src, off, num⟩ (lkP L i) = bo) := by
        show goodP _ _ = _
        rw [HG.out]
        rw [if_neg o1, e23, if_neg (by simp), e211]; rfl
       clear HG
       go_wp2_with (go_at_call 40; refine (within_keep _ _ _ _).mono ?_; rintro e w' ⟨rfl, rfl⟩)
       go_ret
       exact ⟨by rw [HE.out]; rfl, HS.out.1, HS.out.2.1⟩
      ·skip
       by_cases q4 : ak = 4
       ·skip
        subst q4
        have w1 : -9223372036854775808 ≤ an + num ∧ an + num ≤ 9223372036854775807 := by have := HSA.out; have := HC.out.2.2.2; constructor <;> omega
        have w2 : -9223372036854775808 ≤ an - num ∧ an - num ≤ 9223372036854775807 := by have := HSA.out; have := HC.out.2.2.2; constructor <;> omega
        by_cases o3 : op = 3
        ·subst o3
         have HE0 : Hid (goodP ⟨3, true, dst, src, off, num⟩ (lkP L i) = (decide (-1000 ≤ an - num) && decide (an - num ≤ 1000))) := by
          show goodP _ _ = _
          rw [HG.out, if_neg (by omega), e23]
          rfl
         clear HG
         by_cases z1 : -1000 ≤ an - num
         ·skip
          have zd : decide (-1000 ≤ an - num) = true := decide_eq_true z1
          have HE : Hid (goodP ⟨3, true, dst, src, off, num⟩ (lkP L i) = (true && decide (an - num ≤ 1000))) := by
           show goodP _ _ = _
           rw [HE0.out, zd]
          clear HE0
          go_wp2_with (go_at_call 40; refine (within_keep _ _ _ _).mono ?_; rintro e w' ⟨rfl, rfl⟩)
          go_ret
          exact ⟨by rw [HE.out]; rfl, HS.out.1, HS.out.2.1⟩
         ·skip
          have zd : decide (-1000 ≤ an - num) = false := decide_eq_false z1
          have HE : Hid (goodP ⟨3, true, dst, src, off, num⟩ (lkP L i) = (false && decide (an - num ≤ 1000))) := by
           show goodP _ _ = _
           rw [HE0.out, zd]
          clear HE0
          go_wp2_with (go_at_call 40; refine (within_keep _ _ _ _).mono ?_; rintro e w' ⟨rfl, rfl⟩)
          go_ret
          exact ⟨by rw [HE.out]; rfl, HS.out.1, HS.out.2.1⟩
        ·have p3 : (op == 3) = false := by simpa using o3
         have HE0 : Hid (goodP ⟨op, true, dst, src, off, num⟩ (lkP L i) = (decide (-1000 ≤ an + num) && decide (an + num ≤ 1000))) := by
          show goodP _ _ = _
          rw [HG.out, if_neg o1, e23]
          show (if op = 3 then _ else _) = _
          rw [if_neg o3]
         clear HG
         by_cases z1 : -1000 ≤ an + num
         ·skip
          have zd : decide (-1000 ≤ an + num) = true := decide_eq_true z1
          have HE : Hid (goodP ⟨op, true, dst, src, off, num⟩ (lkP L i) = (true && decide (an + num ≤ 1000))) := by
           show goodP _ _ = _
           rw [HE0.out, zd]
          clear HE0
          go_wp2_with (go_at_call 40; refine (within_keep _ _ _ _).mono ?_; rintro e w' ⟨rfl, rfl⟩)
          go_ret
          exact ⟨by rw [HE.out]; rfl, HS.out.1, HS.out.2.1⟩
         ·skip
          have zd : decide (-1000 ≤ an + num) = false := decide_eq_false z1
          have HE : Hid (goodP ⟨op, true, dst, src, off, num⟩ (lkP L i) = (false && decide (an + num ≤ 1000))) := by
           show goodP _ _ = _
           rw [HE0.out, zd]
          clear HE0
          go_wp2_with (go_at_call 40; refine (within_keep _ _ _ _).mono ?_; rintro e w' ⟨rfl, rfl⟩)
          go_ret
          exact ⟨by rw [HE.out]; rfl, HS.out.1, HS.out.2.1⟩
       by_cases q5 : ak = 5
       ·skip
        subst q5
        have w1 : -9223372036854775808 ≤ an + num ∧ an + num ≤ 9223372036854775807 := by have := HSA.out; have := HC.out.2.2.2; constructor <;> omega
        have w2 : -9223372036854775808 ≤ an - num ∧ an - num ≤ 9223372036854775807 := by have := HSA.out; have := HC.out.2.2.2; constructor <;> omega
        by_cases o3 : op = 3
        ·subst o3
         have HE0 : Hid (goodP ⟨3, true, dst, src, off, num⟩ (lkP L i) = (decide (-1000 ≤ an - num) && decide (an - num ≤ 1000))) := by
          show goodP _ _ = _
          rw [HG.out, if_neg (by omega), e23]
          rfl
         clear HG
         by_cases z1 : -1000 ≤ an - num
         ·skip
          have zd : decide (-1000 ≤ an - num) = true := decide_eq_true z1
          have HE : Hid (goodP ⟨3, true, dst, src, off, num⟩ (lkP L i) = (true && decide (an - num ≤ 1000))) := by
           show goodP _ _ = _
           rw [HE0.out, zd]
          clear HE0
          go_wp2_with (go_at_call 40; refine (within_keep _ _ _ _).mono ?_; rintro e w' ⟨rfl, rfl⟩)
          go_ret
          exact ⟨by rw [HE.out]; rfl, HS.out.1, HS.out.2.1⟩
         ·skip
          have zd : decide (-1000 ≤ an - num) = false := decide_eq_false z1
          have HE : Hid (goodP ⟨3, true, dst, src, off, num⟩ (lkP L i) = (false && decide (an - num ≤ 1000))) := by
           show goodP _ _ = _
           rw [HE0.out, zd]
          clear HE0
          go_wp2_with (go_at_call 40; refine (within_keep _ _ _ _).mono ?_; rintro e w' ⟨rfl, rfl⟩)
          go_ret
          exact ⟨by rw [HE.out]; rfl, HS.out.1, HS.out.2.1⟩
        ·have p3 : (op == 3) = false := by simpa using o3
         have HE0 : Hid (goodP ⟨op, true, dst, src, off, num⟩ (lkP L i) = (decide (-1000 ≤ an + num) && decide (an + num ≤ 1000))) := by
          show goodP _ _ = _
          rw [HG.out, if_neg o1, e23]
          show (if op = 3 then _ else _) = _
          rw [if_neg o3]
         clear HG
         by_cases z1 : -1000 ≤ an + num
         ·skip
          have zd : decide (-1000 ≤ an + num) = true := decide_eq_true z1
          have HE : Hid (goodP ⟨op, true, dst, src, off, num⟩ (lkP L i) = (true && decide (an + num ≤ 1000))) := by
           show goodP _ _ = _
           rw [HE0.out, zd]
          clear HE0
          go_wp2_with (go_at_call 40; refine (within_keep _ _ _ _).mono ?_; rintro e w' ⟨rfl, rfl⟩)
          go_ret
          exact ⟨by rw [HE.out]; rfl, HS.out.1, HS.out.2.1⟩
         ·skip
          have zd : decide (-1000 ≤ an + num) = false := decide_eq_false z1
          have HE : Hid (goodP ⟨op, true, dst, src, off, num⟩ (lkP L i) = (false && decide (an + num ≤ 1000))) := by
           show goodP _ _ = _
           rw [HE0.out, zd]
          clear HE0
          go_wp2_with (go_at_call 40; refine (within_keep _ _ _ _).mono ?_; rintro e w' ⟨rfl, rfl⟩)
          go_ret
          exact ⟨by rw [HE.out]; rfl, HS.out.1, HS.out.2.1⟩
       have q4b : (ak == 4) = false := by simpa using q4
       have q5b : (ak == 5) = false := by simpa using q5
       have HE : Hid (goodP ⟨op, true, dst, src, off, num⟩ (lkP L i) = bo) := by
        show goodP _ _ = _
        rw [HG.out]
        rw [if_neg o1, q4b, q5b, e23, if_neg (by simp), e211]; rfl
       clear HG
       go_wp2_with (go_at_call 40; refine (within_keep _ _ _ _).mono ?_; rintro e w' ⟨rfl, rfl⟩)
       go_ret
       exact ⟨by rw [HE.out]; rfl, HS.out.1, HS.out.2.1⟩
     ·skip
      have e23 : withinB op 2 3 = false := by simp [withinB]; omega
      have e211 : withinB op 2 11 = true := by simp [withinB]; omega
      have e2023 : withinB op 20 23 = false := by simp [withinB]; omega
      have e2427 : withinB op 24 27 = false := by simp [withinB]; omega
      have e3136 : withinB op 31 36 = false := by simp [withinB]; omega
      have HE : Hid (goodP ⟨op, imm, dst, src, off, num⟩ (lkP L i) = bo) := by
       show goodP _ _ = _
       rw [HG.out]
       rw [if_neg o1, e23, if_neg (by simp), e211]; rfl
      clear HG
      go_wp2_with (go_at_call 40; refine (within_keep _ _ _ _).mono ?_; rintro e w' ⟨rfl, rfl⟩)
      go_ret
      exact ⟨by rw [HE.out]; rfl, HS.out.1, HS.out.2.1⟩
   ·by_cases h23 : op ≤ 23
    ·skip
     have o1 : ¬ op = 1 := by omega
     have p1 : (op == 1) = false := by simpa using o1
     have hsz : 0 ≤ sizeR op ∧ sizeR op ≤ 8 := by unfold sizeR; (repeat' split) <;> (constructor <;> omega)
     have HOf : Hid (-40000 ≤ off ∧ off ≤ 40000) := by have := HC.out.2.2.1; exact ⟨by omega, by omega⟩
     have e23 : withinB op 2 3 = false := by simp [withinB]; omega
     have e211 : withinB op 2 11 = false := by simp [withinB]; omega
     have e2023 : withinB op 20 23 = true := by simp [withinB]; omega
     have e2427 : withinB op 24 27 = false := by simp [withinB]; omega
     have e3136 : withinB op 31 36 = false := by simp [withinB]; omega
     have HE : Hid (goodP ⟨op, imm, dst, src, off, num⟩ (lkP L i) = rreachB (sure i) ⟨bk, bn⟩ off (sizeR op)) := by
      show goodP _ _ = _
      rw [HG.out]
      rw [if_neg o1, e23, if_neg (by simp), e211, if_neg (by simp), e2023]; rfl
     clear HG
     have HSX : Hid (-9000000000000000000 ≤ bn ∧ bn ≤ 9000000000000000000) := by have := HSB.out; exact ⟨by omega, by omega⟩
     go_wp2_with (go_at_call 40; refine (within_keep _ _ _ _).mono ?_; rintro e w' ⟨rfl, rfl⟩)
     go_region_held3 (fun w' => w'.cell? ⟨xb, 0, none⟩ = some (.int .i64 op) ∧ w'.cell? ⟨xb, 4, none⟩ = some (.int .i64 off) ∧ w'.cell? ⟨ab, 0, none⟩ = some (.int .i64 ak) ∧ w'.cell? ⟨ab, 1, none⟩ = some (.int .i64 an) ∧ w'.cell? ⟨ab + 1, 0, none⟩ = some (.int .i64 bk) ∧ w'.cell? ⟨ab + 1, 1, none⟩ = some (.int .i64 bn)) (go_keep) (first | (go_at_call 52; refine (size_any op _ (by omega) (by omega)).mono ?_; rintro e wA ⟨rfl, belA⟩; have hA := HS.out.1.drew.later belA; have xA := (HS.out.2.2.1.later (Below.refl _ _).drew).later belA; have aA := (HS.out.2.2.2.1.later (Below.refl _ _).drew).later belA; have bA := (HS.out.2.2.2.2.later (Below.refl _ _).drew).later belA; have ga0 := xA.op; have ga4 := xA.off; have aa0 := aA.ck; have aa1 := aA.cn; have ba0 := bA.ck; have ba1 := bA.cn; have HHA := hideM hA; have HXA := hideM xA; have HAA := hideM aA; have HBA := hideM bA; have HTA : Hid (Tch p p w wA) := hideM (HS.out.2.1.drew.trans (Tch.of_below belA)); clear hA xA aA bA belA) | (go_at_call 146; refine (rreach_any p lb lcap n i L way sure mov _ HHA.out (by omega) bk bn off (sizeR op) HSX.out HOf.out hsz).mono ?_; rintro e wB ⟨rfl, belB⟩; have hB := HHA.out.later belB; have xB := HXA.out.later belB; have aB := HAA.out.later belB; have bB := HBA.out.later belB; have gb0 := xB.op; have gb4 := xB.off; have ab0 := aB.ck; have ab1 := aB.cn; have bb0 := bB.ck; have bb1 := bB.cn; have HHB := hideM hB; have HTB : Hid (Tch p p w wB) := hideM (HTA.out.trans (Tch.of_below belB)); clear hB xB aB bB belB))
     all_goals go_wp2
     go_ret
     exact ⟨by rw [HE.out]; rfl, HHB.out, HTB.out⟩
    ·skip
     have o1 : ¬ op = 1 := by omega
     have p1 : (op == 1) = false := by simpa using o1
     have hsz : 0 ≤ sizeR op ∧ sizeR op ≤ 8 := by unfold sizeR; (repeat' split) <;> (constructor <;> omega)
     have HOf : Hid (-40000 ≤ off ∧ off ≤ 40000) := by have := HC.out.2.2.1; exact ⟨by omega, by omega⟩
     have e23 : withinB op 2 3 = false := by simp [withinB]; omega
     have e211 : withinB op 2 11 = false := by simp [withinB]; omega
     have e2023 : withinB op 20 23 = false := by simp [withinB]; omega
     have e2427 : withinB op 24 27 = true := by simp [withinB]; omega
     have e3136 : withinB op 31 36 = false := by simp [withinB]; omega
     have HE : Hid (goodP ⟨op, imm, dst, src, off, num⟩ (lkP L i) = ((bk == 1) && rreachB (sure i) ⟨ak, an⟩ off (sizeR op))) := by
      show goodP _ _ = _
      rw [HG.out]
      rw [if_neg o1, e23, if_neg (by simp), e211, if_neg (by simp), e2023, if_neg (by simp), e2427]; rfl
     clear HG
     have HSX : Hid (-9000000000000000000 ≤ an ∧ an ≤ 9000000000000000000) := by have := HSA.out; exact ⟨by omega, by omega⟩
     by_cases r1 : bk = 1
     ·skip
      subst r1
      go_wp2_with (go_at_call 40; refine (within_keep _ _ _ _).mono ?_; rintro e w' ⟨rfl, rfl⟩)
      go_region_held3 (fun w' => w'.cell? ⟨xb, 0, none⟩ = some (.int .i64 op) ∧ w'.cell? ⟨xb, 4, none⟩ = some (.int .i64 off) ∧ w'.cell? ⟨ab, 0, none⟩ = some (.int .i64 ak) ∧ w'.cell? ⟨ab, 1, none⟩ = some (.int .i64 an) ∧ w'.cell? ⟨ab + 1, 0, none⟩ = some (.int .i64 1) ∧ w'.cell? ⟨ab + 1, 1, none⟩ = some (.int .i64 bn)) (go_keep) (first | (go_at_call 52; refine (size_any op _ (by omega) (by omega)).mono ?_; rintro e wA ⟨rfl, belA⟩; have hA := HS.out.1.drew.later belA; have xA := (HS.out.2.2.1.later (Below.refl _ _).drew).later belA; have aA := (HS.out.2.2.2.1.later (Below.refl _ _).drew).later belA; have bA := (HS.out.2.2.2.2.later (Below.refl _ _).drew).later belA; have ga0 := xA.op; have ga4 := xA.off; have aa0 := aA.ck; have aa1 := aA.cn; have ba0 := bA.ck; have ba1 := bA.cn; have HHA := hideM hA; have HXA := hideM xA; have HAA := hideM aA; have HBA := hideM bA; have HTA : Hid (Tch p p w wA) := hideM (HS.out.2.1.drew.trans (Tch.of_below belA)); clear hA xA aA bA belA) | (go_at_call 146; refine (rreach_any p lb lcap n i L way sure mov _ HHA.out (by omega) ak an off (sizeR op) HSX.out HOf.out hsz).mono ?_; rintro e wB ⟨rfl, belB⟩; have hB := HHA.out.later belB; have xB := HXA.out.later belB; have aB := HAA.out.later belB; have bB := HBA.out.later belB; have gb0 := xB.op; have gb4 := xB.off; have ab0 := aB.ck; have ab1 := aB.cn; have bb0 := bB.ck; have bb1 := bB.cn; have HHB := hideM hB; have HTB : Hid (Tch p p w wB) := hideM (HTA.out.trans (Tch.of_below belB)); clear hB xB aB bB belB))
      all_goals go_wp2
      go_ret
      exact ⟨by rw [HE.out]; rfl, HHB.out, HTB.out⟩
     ·skip
      have r1b : (bk == 1) = false := by simpa using r1
      rw [r1b] at HE
      go_wp2_with (go_at_call 40; refine (within_keep _ _ _ _).mono ?_; rintro e w' ⟨rfl, rfl⟩)
      go_quiet (fail)
      go_wp2
      go_ret
      exact ⟨by rw [HE.out]; rfl, HS.out.1.later (below_drewN (Below.refl _ _) _), HS.out.2.1.trans (Tch.of_below (below_drewN (Below.refl _ _) _))⟩
   ·by_cases o30 : op = 30
    ·skip
     subst o30
     have HE : Hid (goodP ⟨30, imm, dst, src, off, num⟩ (lkP L i) = true) := by
      show goodP _ _ = _
      rw [HG.out]
      rfl
     clear HG
     go_wp2_with (go_at_call 40; refine (within_keep _ _ _ _).mono ?_; rintro e w' ⟨rfl, rfl⟩)
     go_ret
     exact ⟨by rw [HE.out]; rfl, HS.out.1, HS.out.2.1⟩
    ·skip
     have o1 : ¬ op = 1 := by omega
     have p1 : (op == 1) = false := by simpa using o1
     have p30 : (op == 30) = false := by simpa using o30
     have o40 : ¬ op = 40 := by omega
     have p40 : (op == 40) = false := by simpa using o40
     have e23 : withinB op 2 3 = false := by simp [withinB]; omega
     have e211 : withinB op 2 11 = false := by simp [withinB]; omega
     have e2023 : withinB op 20 23 = false := by simp [withinB]; omega
     have e2427 : withinB op 24 27 = false := by simp [withinB]; omega
     have e3136 : withinB op 31 36 = true := by simp [withinB]; omega
     have HE : Hid (goodP ⟨op, imm, dst, src, off, num⟩ (lkP L i) = (bo || ((ak == 4) && (bk == 6)) || ((ak == 6) && (bk == 4)))) := by
      show goodP _ _ = _
      rw [HG.out]
      rw [if_neg o1, e23, if_neg (by simp), e211, if_neg (by simp), e2023, if_neg (by simp), e2427, if_neg (by simp), if_neg o30, if_neg o40, e3136]; rfl
     clear HG
     cases bo
     ·skip
      by_cases q4 : ak = 4
      ·subst q4
       by_cases r6 : bk = 6
       ·subst r6
        go_wp2_with (go_at_call 40; refine (within_keep _ _ _ _).mono ?_; rintro e w' ⟨rfl, rfl⟩)
        go_ret
        exact ⟨by rw [HE.out]; rfl, HS.out.1, HS.out.2.1⟩
       ·have r6b : (bk == 6) = false := by simpa using r6
        rw [r6b] at HE
        go_wp2_with (go_at_call 40; refine (within_keep _ _ _ _).mono ?_; rintro e w' ⟨rfl, rfl⟩)
        go_ret
        exact ⟨by rw [HE.out]; rfl, HS.out.1, HS.out.2.1⟩
      ·have q4b : (ak == 4) = false := by simpa using q4
       rw [q4b] at HE
       by_cases q6 : ak = 6
       ·subst q6
        go_wp2_with (go_at_call 40; refine (within_keep _ _ _ _).mono ?_; rintro e w' ⟨rfl, rfl⟩)
        go_ret
        exact ⟨by rw [HE.out]; simp, HS.out.1, HS.out.2.1⟩
       ·have q6b : (ak == 6) = false := by simpa using q6
        rw [q6b] at HE
        go_wp2_with (go_at_call 40; refine (within_keep _ _ _ _).mono ?_; rintro e w' ⟨rfl, rfl⟩)
        go_ret
        exact ⟨by rw [HE.out]; rfl, HS.out.1, HS.out.2.1⟩
     ·go_wp2_with (go_at_call 40; refine (within_keep _ _ _ _).mono ?_; rintro e w' ⟨rfl, rfl⟩)
      go_ret
      exact ⟨by rw [HE.out]; rfl, HS.out.1, HS.out.2.1⟩
   ·skip
    subst hop
    have HE0 : Hid (goodP ⟨40, imm, dst, src, off, num⟩ (lkP L i) = (!(num == 1) || (((lkP L i).held 1).kind == 1))) := by
     show goodP _ _ = _
     rw [HG.out]
     rfl
    clear HG
    go_wp2_with (go_at_call 40; refine (within_keep _ _ _ _).mono ?_; rintro e w' ⟨rfl, rfl⟩)
    refine (HA.out 1 _ (by omega) HS.out.1).mono ?_
    rintro e w5 ⟨rfl, h5, t5⟩
    have x5 := HS.out.2.2.1.tch t5 (by omega) (by omega)
    have v5 := x5.num
    have l5 := x5.l
    have HT5 : Hid (Tch p p w w5) := HS.out.2.1.trans t5
    have HH5 := hideM h5
    have u1 : ¬ w5.heap.size = xb := by omega
    have u2 : ¬ xb = w5.heap.size := by omega
    clear h5 t5 x5
    simp only at v5
    generalize hv1 : (lkP L i).held 1 = v1 at HE0
    clear hv1
    obtain ⟨rk, rn⟩ := v1
    simp only at HE0
    by_cases m5 : num = 1
    ·subst m5
     go_wp2_with fail
     go_ret
     exact ⟨by rw [HE0.out]; rfl, HH5.out.alloc _, HT5.out.alloc _⟩
    ·have m5b : (num == 1) = false := by simpa using m5
     rw [m5b] at HE0
     go_wp2_with fail
     go_ret
     exact ⟨by rw [HE0.out]; rfl, HH5.out.alloc _, HT5.out.alloc _⟩
   ·skip
    subst hop
    have HE : Hid (goodP ⟨41, imm, dst, src, off, num⟩ (lkP L i) = mov i) := by
     show goodP _ _ = _
     rw [HG.out]
     rfl
    clear HG
    have cm := HS.out.1.mov i (by omega)
    go_wp2_with (go_at_call 40; refine (within_keep _ _ _ _).mono ?_; rintro e w' ⟨rfl, rfl⟩)
    go_ret
    exact ⟨by rw [HE.out]; rfl, HS.out.1, HS.out.2.1⟩
end Go.Proofs.YtoobileejdhikaaGreat

namespace Go.Proofs.YtoobileejdhikaaGreat
set_option maxRecDepth 1000000
set_option maxHeartbeats 40000000
open Go.RowKit
attribute [local go_sem ↓] Go.wp_at_zero Go.wp_at_succ

def lookL (l : Value) : List Value := l :: (List.replicate 520 (.bool false) ++ (List.replicate 1040 (.int .i64 0) ++ (List.replicate 65 (.bool false) ++ (List.replicate 65 (.int .i64 0) ++ List.replicate 65 (.bool false)))))
def lookW (l : Value) (n : Nat) : Array Value := if _h : n = 0 then (lookL l).toArray else lookW l (n / 2)
def lookC (l : Value) : Array Value := lookW l 0
theorem lookC_eq (l : Value) : lookC l = (lookL l).toArray := by unfold lookC; rw [lookW]; simp
theorem lookZ (l : Value) : Tryz.zeroCells138.setIfInBounds 0 l = lookC l := by
 rw [lookC_eq]; kernel_rfl
theorem look_row {l : Value} (w : World) (o : Nat) : (w.alloc (.cells (lookC l) 138)).cell? ⟨w.heap.size, o, none⟩ = (lookL l)[o]? := by
 rw [cell_of_row _ _ o (lookC l) _ _ (heap_alloc_new w _), lookC_eq]; simp
theorem rep_at {v : Value} {k o : Nat} (h : o < k) : (List.replicate k v)[o]? = some v := by rw [List.getElem?_replicate, if_pos h]
theorem look_1 (l : Value) (o : Nat) (h : o < 520) : (lookL l)[o + 1]? = some (.bool false) := by
 unfold lookL
 rw [List.getElem?_cons_succ, List.getElem?_append_left (by simp only [List.length_replicate]; omega), rep_at h]
theorem look_2 (l : Value) (o : Nat) (h : o < 1040) : (lookL l)[o + 521]? = some (.int .i64 0) := by
 unfold lookL
 rw [show o + 521 = (o + 520) + 1 from rfl, List.getElem?_cons_succ, List.getElem?_append_right (by simp only [List.length_replicate]; omega), List.getElem?_append_left (by simp only [List.length_replicate]; omega), rep_at (by simp only [List.length_replicate]; omega)]
theorem look_3 (l : Value) (o : Nat) (h : o < 65) : (lookL l)[o + 1561]? = some (.bool false) := by
 unfold lookL
 rw [show o + 1561 = (o + 1560) + 1 from rfl, List.getElem?_cons_succ, List.getElem?_append_right (by simp only [List.length_replicate]; omega), List.getElem?_append_right (by simp only [List.length_replicate]; omega), List.getElem?_append_left (by simp only [List.length_replicate]; omega), rep_at (by simp only [List.length_replicate]; omega)]
theorem look_4 (l : Value) (o : Nat) (h : o < 65) : (lookL l)[o + 1626]? = some (.int .i64 0) := by
 unfold lookL
 rw [show o + 1626 = (o + 1625) + 1 from rfl, List.getElem?_cons_succ, List.getElem?_append_right (by simp only [List.length_replicate]; omega), List.getElem?_append_right (by simp only [List.length_replicate]; omega), List.getElem?_append_right (by simp only [List.length_replicate]; omega), List.getElem?_append_left (by simp only [List.length_replicate]; omega), rep_at (by simp only [List.length_replicate]; omega)]
theorem look_5 (l : Value) (o : Nat) (h : o < 65) : (lookL l)[o + 1691]? = some (.bool false) := by
 unfold lookL
 rw [show o + 1691 = (o + 1690) + 1 from rfl, List.getElem?_cons_succ, List.getElem?_append_right (by simp only [List.length_replicate]; omega), List.getElem?_append_right (by simp only [List.length_replicate]; omega), List.getElem?_append_right (by simp only [List.length_replicate]; omega), List.getElem?_append_right (by simp only [List.length_replicate]; omega), rep_at (by simp only [List.length_replicate]; omega)]
theorem look_new (w : World) (lb lcap n : Nat) (L : Nat → RI) (h : LAt w lb L n) :
  LkAt (w.alloc (.cells (lookC (.slice (some ⟨lb, 0, none⟩) n lcap)) 138)) w.heap.size lb lcap n L (fun _ => false) (fun _ => 0) (fun _ => false) := by
 have hlt := h.lt
 refine ⟨(look_row w 0).trans rfl, ⟨fun _ _ => false, fun _ _ => ⟨0, 0⟩, fun i r hi hr => ?_, fun i r hi hr => ?_, fun i r hi hr => ?_, fun i r _ _ h => by cases h⟩, fun i hi => ?_, fun i hi => ?_, fun i hi => ?_, fun o => World.frozen?_alloc_new _ _ _ _, by simp, h.later (below_alloc _ _) hlt, by omega⟩
 ·rw [look_row, show 1 + i * 8 + r = (i * 8 + r) + 1 from by omega]; exact look_1 _ _ (by omega)
 ·rw [look_row, show 521 + i * 16 + r * 2 = (i * 16 + r * 2) + 521 from by omega]; exact look_2 _ _ (by omega)
 ·rw [look_row, show 521 + i * 16 + r * 2 + 1 = (i * 16 + r * 2 + 1) + 521 from by omega]; exact look_2 _ _ (by omega)
 ·rw [look_row, show 1561 + i = i + 1561 from by omega]; exact look_3 _ _ hi
 ·rw [look_row, show 1626 + i = i + 1626 from by omega]; exact look_4 _ _ hi
 ·rw [look_row, show 1691 + i = i + 1691 from by omega]; exact look_5 _ _ hi

def plainGo (L : Nat → RI) : Nat → Bool
 | 0 => true
 | k + 1 => plainGo L k && (!(lkP L k).way || goodP (L k) (lkP L k))
theorem plain_all (L : Nat → RI) : ∀ n, plainGo L n = true → ∀ k, k < n → (lkP L k).way = true → goodP (L k) (lkP L k) = true
 | 0, _, k, hk, _ => by omega
 | n + 1, h, k, hk, hw => by
  unfold plainGo at h
  simp only [Bool.and_eq_true] at h
  by_cases e : k = n
  ·subst e
   have h2 := h.2
   rw [hw] at h2
   exact h2
  ·exact plain_all L n h.1 k (by omega) hw
theorem plain_not (L : Nat → RI) : ∀ n k, k < n → (lkP L k).way = true → goodP (L k) (lkP L k) = false → plainGo L n = false := by
 intro n k hk hw hg
 cases e : plainGo L n
 ·rfl
 ·have := plain_all L n e k hk hw
  rw [hg] at this; cases this

theorem plain_any (lb lcap n : Nat) (L : Nat → RI) (w : World) (hLA : LAt w lb L n) (hL : CodeOk L n) (hnum : ∀ i, -2147483648 ≤ (L i).num ∧ (L i).num ≤ 2147483647) :
  Calls Tryz.prog 47 #[.slice (some ⟨lb, 0, none⟩) n lcap] w fun e w' => e = .returned (.bool (plainGo L n)) ∧ Below w.heap.size w w' := by
 have HLA := hideM hLA
 have HL := hideM hL
 have HN := hideM hnum
 have hle := hL.le
 clear hLA hL hnum
 go_enter Tryz.func47, Tryz.ntmps47
 go_wp2_with fail
 have hlk := look_new w lb lcap n L HLA.out
 rw [← lookZ] at hlk
 have HB0 := hideM (below_alloc w (.cells (Tryz.zeroCells138.setIfInBounds 0 (.slice (some ⟨lb, 0, none⟩) n lcap)) 138))
 have HK := hideM hlk
 clear hlk
 generalize w.alloc (.cells (Tryz.zeroCells138.setIfInBounds 0 (.slice (some ⟨lb, 0, none⟩) n lcap)) 138) = W1 at HB0 HK ⊢
 generalize Tryz.zeroCells138.setIfInBounds 0 (.slice (some ⟨lb, 0, none⟩) n lcap) = zz
 refine (ways_any w.heap.size lb lcap n L W1 HK.out HL.out HN.out).mono ?_
 rintro e w2 ⟨rfl, h2, t2⟩
 have HS : Hid (LkAt w2 w.heap.size lb lcap n L (wA L n false) (sA L n 0) (mA L n false) ∧ Below w.heap.size w w2) := ⟨h2, HB0.out.trans (t2.below (Nat.le_refl _) (Nat.le_refl _) HB0.out.size)⟩
 clear h2 t2 HK HB0
 go_wp2_with fail
 go_loopw [4] (fun s4 wr => ∃ k : Nat, k ≤ n ∧ s4 = .int .i64 k ∧ Hid (plainGo L k = true) ∧ Hid (LkAt wr w.heap.size lb lcap n L (wA L n false) (sA L n 0) (mA L n false) ∧ Below w.heap.size w wr)) (fun s _ => n - (intOf s).toNat)
 case atStart => exact ⟨0, by omega, rfl, rfl, HS.out⟩
 case round =>
  clear HS
  obtain ⟨k, hk, rfl, HP, HS⟩ := hrel
  by_cases hlt : k < n
  ·have hlt2 : (k : Int) < (n : Int) := by omega
   have k65 : (k : Int) < 65 := by omega
   have k0 : (0 : Int) ≤ (k : Int) := by omega
   go_wp2_with fail
   refine (good_any w.heap.size lb lcap n k L _ _ _ wr HS.out.1 HL.out HN.out hlt (at_any w.heap.size lb lcap n L _ _ _ HL.out HN.out (k + 1) k (by omega) hlt (fun j hj => by unfold wA; rw [if_pos (by omega)])) (by unfold sA; rw [if_pos hlt]) (by unfold mA; rw [if_pos hlt])).mono ?_
   rintro e w3 ⟨rfl, h3, t3⟩
   have c1 := h3.way k (by omega)
   have ew : wA L n false k = (lkP L k).way := by unfold wA; rw [if_pos hlt]
   rw [ew] at c1
   have HS3 : Hid (LkAt w3 w.heap.size lb lcap n L (wA L n false) (sA L n 0) (mA L n false) ∧ Below w.heap.size w w3) := ⟨h3, HS.out.2.trans (t3.below (Nat.le_refl _) (Nat.le_refl _) HS.out.2.size)⟩
   have HN1 : Hid (∀ a b : Bool, (lkP L k).way = a → goodP (L k) (lkP L k) = b → (!a || b) = true → plainGo L (k + 1) = true) := by
    intro a b ha hb hab
    show (plainGo L k && (!(lkP L k).way || goodP (L k) (lkP L k))) = true
    rw [HP.out, ha, hb, hab]; rfl
   have HN2 : Hid (∀ a b : Bool, (lkP L k).way = a → goodP (L k) (lkP L k) = b → a = true → b = false → plainGo L n = false) := by
    intro a b ha hb ht hf
    exact plain_not L n k hlt (ha.trans ht) (hb.trans hf)
   clear h3 t3 ew HS HP
   generalize hwb : (lkP L k).way = wb at c1 HN1 HN2
   generalize hgb : goodP (L k) (lkP L k) = gb at HN1 HN2 ⊢
   have H1 : Hid ((!wb || gb) = true → plainGo L (k + 1) = true) := fun h => HN1.out wb gb rfl rfl h
   have H2 : Hid (wb = true → gb = false → plainGo L n = false) := fun h1 h2 => HN2.out wb gb rfl rfl h1 h2
   clear HN1 HN2 hwb hgb
   cases wb
   ·go_wp2_with fail
    go_roundw
    case rel => exact ⟨k + 1, by omega, by go_num, H1.out rfl, HS3.out⟩
    case measure => simp [intOf]; omega
   ·cases gb
    ·have H3 : Hid (plainGo L n = false) := H2.out rfl rfl
     clear H2 H1
     go_wp2_with fail
     go_ret
     exact ⟨by rw [H3.out]; rfl, HS3.out.2⟩
    ·go_wp2_with fail
     go_roundw
     case rel => exact ⟨k + 1, by omega, by go_num, H1.out rfl, HS3.out⟩
     case measure => simp [intOf]; omega
  ·have hkn : k = n := by omega
   subst hkn
   go_wp2_with fail
   go_ret
   exact ⟨by rw [HP.out]; rfl, HS.out.2⟩
end Go.Proofs.YtoobileejdhikaaGreat
