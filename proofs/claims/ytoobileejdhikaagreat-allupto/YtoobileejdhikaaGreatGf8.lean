/-
  The document's look for plain code: ways.
-/
import Derived.Test.YtoobileejdhikaaGreatGf7
import Derived.BigRegion
import Derived.Deep.CutBlock
import Derived.Deep.RegionHeld3
import Derived.Deep.DrawnRows
namespace Go.Proofs.YtoobileejdhikaaGreat
set_option maxRecDepth 1000000
set_option maxHeartbeats 40000000
open Go.RowKit
attribute [local go_sem ↓] Go.wp_at_zero Go.wp_at_succ

def wA (L : Nat → RI) (i : Nat) (v : Bool) (q : Nat) : Bool := if q < i then (lkP L q).way else if q = i then v else false
def sA (L : Nat → RI) (i : Nat) (v : Int) (q : Nat) : Int := if q < i then (lkP L q).sure else if q = i then v else 0
def mA (L : Nat → RI) (i : Nat) (v : Bool) (q : Nat) : Bool := if q < i then (lkP L q).mov else if q = i then v else false
theorem LkAt.congr {w : World} {p lb lcap n : Nat} {L : Nat → RI} {way way' : Nat → Bool} {sure sure' : Nat → Int} {mov mov' : Nat → Bool} (h : LkAt w p lb lcap n L way sure mov) (h1 : ∀ q, way q = way' q) (h2 : ∀ q, sure q = sure' q) (h3 : ∀ q, mov q = mov' q) :
  LkAt w p lb lcap n L way' sure' mov' := by
 rw [← funext h1, ← funext h2, ← funext h3]; exact h
theorem LkAt.wayA {w : World} {p lb lcap n i : Nat} {L : Nat → RI} {v : Bool} {sure : Nat → Int} {mov : Nat → Bool} (h : LkAt w p lb lcap n L (wA L i v) sure mov) (hi : i < 65) (b : Bool) : LkAt (w.setCell ⟨p, 1561 + i, none⟩ (.bool b)) p lb lcap n L (wA L i b) sure mov :=
 (h.setWay i hi b).congr (fun q => by unfold wA; by_cases e : q = i; (subst e; rw [if_pos rfl, if_neg (by omega), if_pos rfl]); (rw [if_neg e, if_neg e, if_neg e])) (fun _ => rfl) (fun _ => rfl)
theorem LkAt.sureA {w : World} {p lb lcap n i : Nat} {L : Nat → RI} {v : Int} {way : Nat → Bool} {mov : Nat → Bool} (h : LkAt w p lb lcap n L way (sA L i v) mov) (hi : i < 65) (b : Int) : LkAt (w.setCell ⟨p, 1626 + i, none⟩ (.int .i64 b)) p lb lcap n L way (sA L i b) mov :=
 (h.setSure i hi b).congr (fun _ => rfl) (fun q => by unfold sA; by_cases e : q = i; (subst e; rw [if_pos rfl, if_neg (by omega), if_pos rfl]); (rw [if_neg e, if_neg e, if_neg e])) (fun _ => rfl)
theorem LkAt.movA {w : World} {p lb lcap n i : Nat} {L : Nat → RI} {v : Bool} {way : Nat → Bool} {sure : Nat → Int} (h : LkAt w p lb lcap n L way sure (mA L i v)) (hi : i < 65) (b : Bool) : LkAt (w.setCell ⟨p, 1691 + i, none⟩ (.bool b)) p lb lcap n L way sure (mA L i b) :=
 (h.setMov i hi b).congr (fun _ => rfl) (fun _ => rfl) (fun q => by unfold mA; by_cases e : q = i; (subst e; rw [if_pos rfl, if_neg (by omega), if_pos rfl]); (rw [if_neg e, if_neg e, if_neg e]))
def wayF (L : Nat → RI) (i : Nat) (j : Nat) : Option (Int × Bool) := if edge L j i then some (sureP (L j) (lkP L j) (fromP (L j) (lkP L j) j i).1, movP (L j) (lkP L j)) else none
def eS (e : Option (Int × Bool)) : Int := (e.map (·.1)).getD 0
def eM (e : Option (Int × Bool)) : Bool := (e.map (·.2)).getD false
theorem next_wA (L : Nat → RI) {i : Nat} (hi : i ≠ 0) (q : Nat) : wA L i (sureGo (wayF L i) i).isSome q = wA L (i + 1) false q := by
 have h := (Prod.mk.inj (lkP_sure L hi)).1
 unfold wA
 by_cases e : q = i
 ·subst e; rw [if_neg (by omega), if_pos rfl, if_pos (by omega)]; exact h.symm
 ·repeat' split
  all_goals first | rfl | omega
theorem next_sA (L : Nat → RI) {i : Nat} (hi : i ≠ 0) (q : Nat) : sA L i (eS (sureGo (wayF L i) i)) q = sA L (i + 1) 0 q := by
 have h := (Prod.mk.inj (Prod.mk.inj (lkP_sure L hi)).2).1
 unfold sA
 by_cases e : q = i
 ·subst e; rw [if_neg (by omega), if_pos rfl, if_pos (by omega)]; exact h.symm
 ·repeat' split
  all_goals first | rfl | omega
theorem next_mA (L : Nat → RI) {i : Nat} (hi : i ≠ 0) (q : Nat) : mA L i (eM (sureGo (wayF L i) i)) q = mA L (i + 1) false q := by
 have h := (Prod.mk.inj (Prod.mk.inj (lkP_sure L hi)).2).2
 unfold mA
 by_cases e : q = i
 ·subst e; rw [if_neg (by omega), if_pos rfl, if_pos (by omega)]; exact h.symm
 ·repeat' split
  all_goals first | rfl | omega
def addE (e : Option (Int × Bool)) (s : Int) (m : Bool) : Option (Int × Bool) :=
 match e with
 | none => some (s, m)
 | some (s', m') => some (if s < s' then s else s', m && m')
theorem sureGo_next (L : Nat → RI) (i k : Nat) : sureGo (wayF L i) (k + 1) = if edge L k i then addE (sureGo (wayF L i) k) (sureP (L k) (lkP L k) (fromP (L k) (lkP L k) k i).1) (movP (L k) (lkP L k)) else sureGo (wayF L i) k := by
 show (match wayF L i k with | none => sureGo (wayF L i) k | some (s, m) => match sureGo (wayF L i) k with | none => some (s, m) | some (s', m') => some (if s < s' then s else s', m && m')) = _
 unfold wayF
 cases edge L k i <;> rfl

theorem ways_any (p lb lcap n : Nat) (L : Nat → RI) (w : World) (h : LkAt w p lb lcap n L (fun _ => false) (fun _ => 0) (fun _ => false)) (hL : CodeOk L n) (hnum : ∀ i, -2147483648 ≤ (L i).num ∧ (L i).num ≤ 2147483647) :
  Calls Tryz.prog 69 #[.pointer (some ⟨p, 0, none⟩)] w fun e w' => e = .returned (.tuple #[]) ∧ LkAt w' p lb lcap n L (wA L n false) (sA L n 0) (mA L n false) ∧ Tch p p w w' := by
 have lp := h.lp
 have hle := hL.le
 have hpos := hL.pos
 have y0 := h.way 0 (by omega)
 have yz := h.fz 1561
 have HH := hideM h
 have HL := hideM hL
 have HN := hideM hnum
 clear h hL hnum
 go_enter Tryz.func69, Tryz.ntmps69
 go_wp2_with fail
 have HS : Hid (LkAt (w.setCell ⟨p, 1561, none⟩ (.bool true)) p lb lcap n L (wA L 1 false) (sA L 1 0) (mA L 1 false) ∧ Tch p p w (w.setCell ⟨p, 1561, none⟩ (.bool true))) := by
  refine ⟨(HH.out.setWay 0 (by omega) true).congr (fun q => ?_) (fun q => ?_) (fun q => ?_), (Tch.refl p p w).setP _ _⟩
  ·unfold wA
   by_cases e : q = 0
   ·subst e; rw [lkP_zero]; rfl
   ·rw [if_neg e, if_neg (by omega)]; split <;> rfl
  ·unfold sA
   by_cases e : q = 0
   ·subst e; rw [lkP_zero]; rfl
   ·rw [if_neg (by omega)]; split <;> rfl
  ·unfold mA
   by_cases e : q = 0
   ·subst e; rw [lkP_zero]; rfl
   ·rw [if_neg (by omega)]; split <;> rfl
 generalize w.setCell ⟨p, 1561, none⟩ (.bool true) = W0 at HS ⊢
 clear HH y0 yz
 go_loopw [2] (fun s2 wo => ∃ i : Nat, 1 ≤ i ∧ i ≤ n ∧ s2 = .int .i64 i ∧ Hid (LkAt wo p lb lcap n L (wA L i false) (sA L i 0) (mA L i false) ∧ Tch p p w wo)) (fun s _ => n - (intOf s).toNat)
 case atStart => exact ⟨1, by omega, by omega, rfl, HS.out⟩
 case round =>
  clear HS
  obtain ⟨i, hi1, hin, rfl, HS⟩ := hrel
  have c0 := HS.out.1.l
  by_cases hlt : i < n
  ·have hlt2 : (i : Int) < (n : Int) := by omega
   have j1 : (0 : Int) ≤ (i : Int) := by omega
   have j2 : (i : Int) < 65 := by omega
   go_wp2_with fail
   go_loopw [3, 4] (fun s3 s4 wr => ∃ k : Nat, k ≤ i ∧ s4 = .int .i64 k ∧ s3 = .bool (sureGo (wayF L i) k).isNone ∧
    Hid (LkAt wr p lb lcap n L (wA L i (sureGo (wayF L i) k).isSome) (sA L i (eS (sureGo (wayF L i) k))) (mA L i (eM (sureGo (wayF L i) k))) ∧ Tch p p w wr)) (fun _ s _ => i - (intOf s).toNat)
   case atStart => exact ⟨0, by omega, rfl, rfl, HS.out⟩
   case round =>
    clear HS c0
    obtain ⟨k, hk, rfl, rfl, HS⟩ := hrel
    by_cases hki : k < i
    ·have hki2 : (k : Int) < (i : Int) := by omega
     have HX := hideM (sureGo_next L i k)
     generalize sureGo (wayF L i) k = e at HS HX ⊢
     go_wp2_with fail
     refine (from_any p lb lcap n k i L _ _ _ wr HS.out.1 (by omega) (by omega) (by omega) (HL.out.off k (by omega))).mono ?_
     rintro eg w2 ⟨rfl, bel2⟩
     have hfr : fromB (L k) (wA L i e.isSome k) k i = fromP (L k) (lkP L k) k i := by
      rw [fromP_B]; unfold wA; rw [if_pos hki]
     rw [hfr]
     have HX2 : Hid (sureGo (wayF L i) (k + 1) = if (fromP (L k) (lkP L k) k i).1 || (fromP (L k) (lkP L k) k i).2 then addE e (sureP (L k) (lkP L k) (fromP (L k) (lkP L k) k i).1) (movP (L k) (lkP L k)) else e) := HX.out
     have HS2 : Hid (LkAt w2 p lb lcap n L (wA L i e.isSome) (sA L i (eS e)) (mA L i (eM e)) ∧ Tch p p w w2) := ⟨HS.out.1.later bel2, HS.out.2.trans (Tch.of_below bel2)⟩
     clear HS bel2 HX hfr
     generalize (fromP (L k) (lkP L k) k i).1 = a at HX2 ⊢
     generalize (fromP (L k) (lkP L k) k i).2 = b at HX2 ⊢
     by_cases hab : (a || b) = true
     ·have HX3 : Hid (sureGo (wayF L i) (k + 1) = addE e (sureP (L k) (lkP L k) a) (movP (L k) (lkP L k))) := by
       show _ = _
       rw [HX2.out, if_pos hab]
      clear HX2
      have c0 := HS2.out.1.l
      have c1 := HS2.out.1.way i (by omega)
      have z1 := HS2.out.1.fz (1561 + i)
      go_upto_region 9 with fail
      go_cut [42] from 37 to 42 (fun s42 wc => s42 = .bool false ∧ wc = w2)
      case first =>
       cases a <;> cases b
       ·simp at hab
       all_goals
        go_wp2_with fail
        go_meet
        case rel => exact ⟨rfl, rfl⟩
      case rest =>
       obtain ⟨rfl, rfl⟩ := hcut
       have fL := HS2.out.1.la
       have f0 := fL.op k (by omega)
       have f1 := fL.imm k (by omega)
       have f2 := fL.dst k (by omega)
       have f3 := fL.src k (by omega)
       have f4 := fL.off k (by omega)
       have f5 := fL.num k (by omega)
       have HDS : Hid ((L k).dst < 8 ∧ (L k).src < 8) := ⟨HL.out.dst k (by omega), HL.out.src k (by omega)⟩
       have HAt : Hid (∀ (sr : Nat → Int) (mo : Nat → Bool), AtC p lb lcap n L (wA L i true) sr mo k) := fun sr mo => at_any p lb lcap n L _ _ _ HL.out HN.out (k + 1) k (by omega) (by omega) (fun q hq => by unfold wA; rw [if_pos (by omega)])
       clear fL
       generalize hxk : L k = x at f0 f1 f2 f3 f4 f5 HX3 HDS
       have HXK := hideM hxk
       clear hxk
       obtain ⟨op, imm, dst, src, off, num⟩ := x
       simp only at f0 f1 f2 f3 f4 f5 HDS
       have ki : (k : Int) < (n : Int) := by omega
       have k65 : (k : Int) < 65 := by omega
       have k0 : (0 : Int) ≤ (k : Int) := by omega
       have lpc := HS2.out.1.lp
       have npc : ¬ wc.heap.size = p := by omega
       have HS3 : Hid (LkAt (wc.setCell ⟨p, 1561 + i, none⟩ (.bool true)) p lb lcap n L (wA L i true) (sA L i (eS e)) (mA L i (eM e)) ∧ Tch p p w (wc.setCell ⟨p, 1561 + i, none⟩ (.bool true))) := ⟨HS2.out.1.wayA (by omega) true, HS2.out.2.setP _ _⟩
       go_upto_region 12 with fail
       have HS4 : Hid (LkAt ((wc.setCell ⟨p, 1561 + i, none⟩ (.bool true)).alloc (.cells #[.int .i64 op, .bool imm, .int .i64 dst, .int .i64 src, .int .i64 off, .int .i64 num] 74)) p lb lcap n L (wA L i true) (sA L i (eS e)) (mA L i (eM e)) ∧ Tch p p w ((wc.setCell ⟨p, 1561 + i, none⟩ (.bool true)).alloc (.cells #[.int .i64 op, .bool imm, .int .i64 dst, .int .i64 src, .int .i64 off, .int .i64 num] 74)) ∧ Box6 ((wc.setCell ⟨p, 1561 + i, none⟩ (.bool true)).alloc (.cells #[.int .i64 op, .bool imm, .int .i64 dst, .int .i64 src, .int .i64 off, .int .i64 num] 74)) wc.heap.size ⟨op, imm, dst, src, off, num⟩) :=
        ⟨HS3.out.1.alloc _, HS3.out.2.alloc _, by have := Box6.made (wc.setCell ⟨p, 1561 + i, none⟩ (.bool true)) ⟨op, imm, dst, src, off, num⟩; rw [size_setCell] at this; exact this⟩
       generalize (wc.setCell ⟨p, 1561 + i, none⟩ (.bool true)).alloc (.cells #[.int .i64 op, .bool imm, .int .i64 dst, .int .i64 src, .int .i64 off, .int .i64 num] 74) = W3 at HS4 ⊢
       have hxb : p < wc.heap.size := lpc
       have hwb := HS4.out.2.2.l
       generalize wc.heap.size = xb at HS4 hxb hwb npc ⊢
       have g0 := HS4.out.2.2.op
       have g1 := HS4.out.2.2.imm
       have g2 := HS4.out.2.2.dst
       have g3 := HS4.out.2.2.src
       have g5 := HS4.out.2.2.num
       have gm := HS4.out.1.mov k (by omega)
       have gs := HS4.out.1.sure k (by omega)
       have em : mA L i (eM e) k = (lkP L k).mov := by unfold mA; rw [if_pos hki]
       have es : sA L i (eS e) k = (lkP L k).sure := by unfold sA; rw [if_pos hki]
       rw [em] at gm
       rw [es] at gs
       clear HS2 HS3 c0 c1 z1 f0 f1 f2 f3 f4 f5 em es lpc
       simp only at g0 g1 g2 g3 g5
       generalize hmv : (lkP L k).mov = mv at gm
       generalize hsr : (lkP L k).sure = sr at gs
       have HMV := hideM hmv
       have HSR := hideM hsr
       clear hmv hsr
       go_upto_region 13 with fail
       go_cut [68] from 61 to 68 (fun s68 wd => s68 = .bool (decide (op ≤ 23) && ((dst : Int) == 0)) ∧ wd = W3)
       case first =>
        by_cases h23 : op ≤ 23
        ·have hb : decide (op ≤ 23) = true := decide_eq_true h23
         go_wp2_with fail
         go_meet
         case rel => exact ⟨by rw [hb]; rfl, rfl⟩
        ·have hb : decide (op ≤ 23) = false := decide_eq_false h23
         go_wp2_with fail
         go_meet
         case rel => exact ⟨by rw [hb]; rfl, rfl⟩
       case rest =>
        obtain ⟨rfl, hwd⟩ := hcut
        subst hwd
        obtain ⟨t1, ht1⟩ : ∃ t, (decide (op ≤ 23) && ((dst : Int) == 0)) = t := ⟨_, rfl⟩
        rw [ht1]
        have HT1 := hideM ht1
        clear ht1
        go_upto_if 68 with fail
        go_cut [8] from 69 to 80 (fun s8 we => s8 = .bool (if t1 then ((op == 1) && imm && withinB num 0 3) else mv) ∧ we = wc)
        case first =>
         cases t1
         ·go_wp2_with fail
          go_meet
          case rel => exact ⟨rfl, rfl⟩
         ·by_cases h1 : op = 1
          ·subst h1
           cases imm
           all_goals
            go_wp2_with (go_at_call 40; refine (within_keep _ _ _ _).mono ?_; rintro e w' ⟨rfl, rfl⟩)
            go_meet
            case rel => exact ⟨by first | rfl | simp, rfl⟩
          ·have h1b : (op == 1) = false := by simpa using h1
           go_wp2_with fail
           go_meet
           case rel => exact ⟨by simp [h1], rfl⟩
        case rest =>
         obtain ⟨rfl, hwd⟩ := hcut
         subst hwd
         obtain ⟨mv1, hm1⟩ : ∃ t, (if t1 then ((op == 1) && imm && withinB num 0 3) else mv) = t := ⟨_, rfl⟩
         rw [hm1]
         have HM1 := hideM hm1
         clear hm1
         go_upto_if 89 with fail
         go_cut [8] from 87 to 89 (fun s8 we => s8 = .bool (if op = 40 then false else mv1) ∧ we = wc)
         case first =>
          by_cases h40 : op = 40
          ·subst h40
           go_wp2_with fail
           go_meet
           case rel => exact ⟨rfl, rfl⟩
          ·have h4b : (op == 40) = false := by simpa using h40
           go_wp2_with fail
           go_meet
           case rel => exact ⟨by rw [if_neg h40], rfl⟩
         case rest =>
          obtain ⟨rfl, hwd⟩ := hcut
          subst hwd
          obtain ⟨mv2, hm2⟩ : ∃ t, (if op = 40 then false else mv1) = t := ⟨_, rfl⟩
          rw [hm2]
          have HM2 : Hid (movP ⟨op, imm, dst, src, off, num⟩ (lkP L k) = mv2) := by
           show (if op = 40 then false else if op ≤ 23 ∧ dst = 0 then ((op == 1) && imm && withinB num 0 3) else (lkP L k).mov) = mv2
           rw [← hm2, ← HM1.out, ← HT1.out, HMV.out]
           by_cases q1 : op ≤ 23 <;> by_cases q2 : dst = 0 <;> simp [q1, q2]
          clear hm2 HM1 HT1 HMV
          go_upto_region 18 with fail
          go_cut [97] from 90 to 97 (fun s97 we => s97 = .bool ((op == 40) && (num == 1)) ∧ we = wc)
          case first =>
           by_cases h40 : op = 40
           ·subst h40
            go_wp2_with fail
            go_meet
            case rel => exact ⟨by simp, rfl⟩
           ·have h4b : (op == 40) = false := by simpa using h40
            go_wp2_with fail
            go_meet
            case rel => exact ⟨by rw [h4b]; rfl, rfl⟩
          case rest =>
           obtain ⟨rfl, hwd⟩ := hcut
           subst hwd
           obtain ⟨t3, ht3⟩ : ∃ t, ((op == 40) && (num == 1)) = t := ⟨_, rfl⟩
           rw [ht3]
           have HT3 := hideM ht3
           clear ht3
           go_upto_if 97 with fail
           go_cut [9] from 97 to 97 (fun s9 we => s9 = .int .i64 (if t3 then 0 else sr) ∧ we = wc)
           case first =>
            cases t3
            all_goals
             go_wp2_with fail
             go_meet
             case rel => exact ⟨rfl, rfl⟩
           case rest =>
            obtain ⟨rfl, hwd⟩ := hcut
            subst hwd
            obtain ⟨sr1, hs1⟩ : ∃ t, (if t3 then 0 else sr) = t := ⟨_, rfl⟩
            rw [hs1]
            have HS1 := hideM hs1
            clear hs1
            go_upto_region 20 with fail
            go_cut [109] from 98 to 109 (fun s109 we => s109 = .bool ((op == 33) && !imm && !a) ∧ we = wc)
            case first =>
             by_cases h33 : op = 33
             ·subst h33
              cases imm
              all_goals
               go_wp2_with fail
               go_meet
               case rel => exact ⟨by simp, rfl⟩
             ·have h3b : (op == 33) = false := by simpa using h33
              go_wp2_with fail
              go_meet
              case rel => exact ⟨by rw [h3b]; rfl, rfl⟩
            case rest =>
             obtain ⟨rfl, hwd⟩ := hcut
             subst hwd
             obtain ⟨t4, ht4⟩ : ∃ t, ((op == 33) && !imm && !a) = t := ⟨_, rfl⟩
             rw [ht4]
             have HT4 := hideM ht4
             clear ht4
             obtain ⟨ss, hss⟩ : ∃ t, sureP ⟨op, imm, dst, src, off, num⟩ (lkP L k) a = t := ⟨_, rfl⟩
             have HSS : Hid (ss = if t4 = true ∧ ((lkP L k).held dst).kind = 4 ∧ ((lkP L k).held src).kind = 6 ∧ sr1 < ((lkP L k).held dst).k then ((lkP L k).held dst).k else sr1) := by
              show ss = _
              rw [← hss]
              show (if op = 40 ∧ num = 1 then 0 else if op = 33 ∧ imm = false ∧ a = false ∧ ((lkP L k).held dst).kind = 4 ∧ ((lkP L k).held src).kind = 6 ∧ (lkP L k).sure < ((lkP L k).held dst).k then ((lkP L k).held dst).k else (lkP L k).sure) = _
              rw [HSR.out, ← HS1.out, ← HT3.out, ← HT4.out]
              by_cases q1 : op = 40
              ·have q3 : ¬ op = 33 := by omega
               by_cases q2 : num = 1 <;> simp [q1, q2]
              ·by_cases q3 : op = 33
               ·cases imm <;> cases a <;> simp [q3]
               ·simp [q1, q3]
             rw [hss] at HX3
             rw [HM2.out] at HX3
             clear hss HS1 HT3 HT4 HSR HM2
             go_upto_if 109 with fail
             go_cut [9] from 109 to 135 (fun s9 we => s9 = .int .i64 ss ∧ LkAt we p lb lcap n L (wA L i true) (sA L i (eS e)) (mA L i (eM e)) ∧ Tch p p w we)
             case first =>
              cases t4
              ·go_wp2_with fail
               go_meet
               case rel => exact ⟨by rw [HSS.out]; simp, HS4.out.1, HS4.out.2.1⟩
              ·have HG : Hid (∀ (A B : HK), (lkP L k).held dst = A → (lkP L k).held src = B → ss = if A.kind = 4 ∧ B.kind = 6 ∧ sr1 < A.k then A.k else sr1) := by
                intro A B hA hB
                rw [HSS.out, hA, hB]; simp
               clear HSS
               go_wp2_with fail
               refine (HAt.out _ _ dst _ HDS.out.1 HS4.out.1).mono ?_
               rintro e5 w5 ⟨rfl, h5, t5⟩
               have x5 := HS4.out.2.2.tch t5 (by omega) (by omega)
               have v3 := x5.src
               have l5 := x5.l
               have HT5 : Hid (Tch p p w w5) := HS4.out.2.1.trans t5
               have HH5 := hideM h5
               clear h5 t5 x5 HS4 g0 g1 g2 g3 g5 gm gs
               simp only at v3
               generalize hvp : (lkP L k).held dst = vp at HG
               go_wp2_with fail
               refine (HAt.out _ _ src _ HDS.out.2 (HH5.out.alloc _)).mono ?_
               rintro e6 w6 ⟨rfl, h6, t6⟩
               have x6 := (Box2.made w5 vp).tch t6 (by omega) (by omega)
               have v0 := x6.ck
               have v1 := x6.cn
               have l6 := x6.l
               have HT6 : Hid (Tch p p w w6) := (HT5.out.alloc _).trans t6
               have HH6 := hideM h6
               have n6 : ¬ w6.heap.size = w5.heap.size := by omega
               have n7 : ¬ w5.heap.size = w6.heap.size := by omega
               clear h6 t6 x6 HH5 HT5 v3
               generalize hve : (lkP L k).held src = ve at HG
               have HG2 : Hid (ss = if vp.kind = 4 ∧ ve.kind = 6 ∧ sr1 < vp.k then vp.k else sr1) := HG.out _ _ rfl rfl
               clear HG hvp hve
               obtain ⟨pk, pn⟩ := vp
               obtain ⟨ek, en⟩ := ve
               simp only at v0 v1 HG2
               by_cases q1 : pk = 4
               ·subst q1
                by_cases q2 : ek = 6
                ·subst q2
                 by_cases q3 : sr1 < pn
                 ·have HE : Hid (ss = pn) := by show _ = _; rw [HG2.out, if_pos ⟨rfl, rfl, q3⟩]
                  go_wp2_with fail
                  go_meet
                  case rel => exact ⟨by rw [HE.out], HH6.out.alloc _, HT6.out.alloc _⟩
                 ·have HE : Hid (ss = sr1) := by show _ = _; rw [HG2.out, if_neg (fun q => q3 q.2.2)]
                  go_wp2_with fail
                  go_meet
                  case rel => exact ⟨by rw [HE.out], HH6.out.alloc _, HT6.out.alloc _⟩
                ·have HE : Hid (ss = sr1) := by show _ = _; rw [HG2.out, if_neg (fun q => q2 q.2.1)]
                 have q2b : (ek == 6) = false := by simpa using q2
                 go_wp2_with fail
                 go_meet
                 case rel => exact ⟨by rw [HE.out], HH6.out.alloc _, HT6.out.alloc _⟩
               ·have HE : Hid (ss = sr1) := by show _ = _; rw [HG2.out, if_neg (fun q => q1 q.1)]
                have q1b : (pk == 4) = false := by simpa using q1
                go_wp2_with fail
                go_meet
                case rel => exact ⟨by rw [HE.out], HH6.out.alloc _, HT6.out.alloc _⟩
             case rest =>
              obtain ⟨rfl, hLK, hTK⟩ := hcut
              clear HS4 HAt HDS HXK g0 g1 g2 g3 g5 gm gs HSS
              have d1 := hLK.sure i (by omega)
              have d2 := hLK.mov i (by omega)
              have z1 := hLK.fz (1626 + i)
              have z2 := hLK.fz (1691 + i)
              have es : sA L i (eS e) i = eS e := by unfold sA; rw [if_neg (by omega), if_pos rfl]
              have em : mA L i (eM e) i = eM e := by unfold mA; rw [if_neg (by omega), if_pos rfl]
              rw [es] at d1
              rw [em] at d2
              clear es em
              have r1 : ∀ u v, wc.cell? ⟨p, 1691 + i, none⟩ = some v → (wc.setCell ⟨p, 1626 + i, none⟩ u).cell? ⟨p, 1691 + i, none⟩ = some v := fun u v hv => by rw [cell_set_off (by omega)]; exact hv
              have HQ : Hid (LkAt wc p lb lcap n L (wA L i true) (sA L i (eS e)) (mA L i (eM e)) ∧ Tch p p w wc) := ⟨hLK, hTK⟩
              clear hLK hTK
              cases e with
              | none =>
               cases mv2
               all_goals
                have HY := HX3
                dsimp only [eS, eM, addE, Option.map, Option.getD, Option.isNone] at d1 d2 HQ HY ⊢
                go_wp2_with fail
                go_region
                all_goals go_wp2
                go_roundw
                case rel => exact ⟨k + 1, by omega, by go_num, by rw [HY.out]; rfl, by rw [HY.out]; exact ⟨((HQ.out.1.sureA (by omega) ss).movA (by omega) _).drew, ((HQ.out.2.setP _ _).setP _ _).drew⟩⟩
                case measure => simp [intOf]; omega
              | some sm =>
               obtain ⟨s', m'⟩ := sm
               by_cases q : ss < s'
               ·have HY : Hid (sureGo (wayF L i) (k + 1) = some (ss, mv2 && m')) := by
                 show _ = _
                 rw [HX3.out]; show some (if ss < s' then ss else s', mv2 && m') = _; rw [if_pos q]
                clear HX3
                dsimp only [eS, eM, Option.map, Option.getD, Option.isNone] at d1 d2 HQ ⊢
                cases mv2
                all_goals
                 go_wp2_with fail
                 go_region
                 all_goals go_wp2
                 go_roundw
                 case rel => exact ⟨k + 1, by omega, by go_num, by rw [HY.out]; rfl, by rw [HY.out]; exact ⟨((HQ.out.1.sureA (by omega) ss).movA (by omega) _).drew, ((HQ.out.2.setP _ _).setP _ _).drew⟩⟩
                 case measure => simp [intOf]; omega
               ·have HY : Hid (sureGo (wayF L i) (k + 1) = some (s', mv2 && m')) := by
                 show _ = _
                 rw [HX3.out]; show some (if ss < s' then ss else s', mv2 && m') = _; rw [if_neg q]
                clear HX3
                dsimp only [eS, eM, Option.map, Option.getD, Option.isNone] at d1 d2 HQ ⊢
                cases mv2
                all_goals
                 go_wp2_with fail
                 go_region
                 all_goals go_wp2
                 go_roundw
                 case rel => exact ⟨k + 1, by omega, by go_num, by rw [HY.out]; rfl, by rw [HY.out]; exact ⟨(HQ.out.1.movA (by omega) _).drew, (HQ.out.2.setP _ _).drew⟩⟩
                 case measure => simp [intOf]; omega
     ·have ha : a = false := by cases a <;> simp_all
      have hb : b = false := by cases b <;> simp_all
      subst ha hb
      have HX3 : Hid (sureGo (wayF L i) (k + 1) = e) := HX2.out
      go_wp2_with fail
      go_roundw
      case rel => exact ⟨k + 1, by omega, by go_num, by rw [HX3.out], by rw [HX3.out]; exact HS2.out⟩
      case measure => simp [intOf]; omega
    ·have hkk : k = i := by omega
     subst hkk
     go_wp2_with fail
     go_roundw
     case rel => exact ⟨k + 1, by omega, by omega, by go_num, HS.out.1.congr (next_wA L (by omega)) (next_sA L (by omega)) (next_mA L (by omega)), HS.out.2⟩
     case measure => simp [intOf]; omega
  ·have hii : i = n := by omega
   subst hii
   go_wp2_with fail
   go_end0
   exact ⟨rfl, HS.out⟩
end Go.Proofs.YtoobileejdhikaaGreat
