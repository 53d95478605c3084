/-
  The document's machine, its small methods: number, may, second, moved, byteAt, size.
  The document's machine: a place and a number put to it (moved); where a byte lies (byteAt); how many bytes (size).
  The document's machine: where a byte lies (byteAt); how many bytes (size).
-/
import Derived.Test.YtoobileejdhikaaGreatGc4
import Derived.Deep.RegionHeld3
import Derived.Deep.DrawnRows
import Derived.BigQuiet
import Derived.Deep.RegionWith
import Derived.Deep.DeepCutAuto
import Derived.Deep.QuietTactic
namespace Go.Proofs.YtoobileejdhikaaGreat
set_option maxRecDepth 100000
set_option maxHeartbeats 1000000
open Go.RowKit
attribute [local go_sem ↓] Go.wp_at_zero Go.wp_at_succ

theorem hideM {p : Prop} (h : p) : Hid p := h

theorem number_any (n : Int) (w : World) :
  Calls Tryz.prog 71 #[.int .u64 n] w fun e w' => e = .returned (.agg #[.int .i64 1, .int .u64 n, .int .i64 0]) ∧ w' = w.alloc (.cells #[.int .i64 1, .int .u64 n, .int .i64 0] 85) := by
 go_enter Tryz.func71, Tryz.ntmps71
 go_wp2
 exact bodyPost_ret (v := .agg #[.int .i64 1, .int .u64 n, .int .i64 0]) (by simp [results, Tryz.results71, go_sem]) rfl ⟨rfl, rfl⟩

theorem may_ok (p : Nat) (w : World) :
  Calls Tryz.prog 49 #[.pointer (some ⟨p, 0, none⟩), .bool true] w fun e w' => e = .returned (.tuple #[]) ∧ w = w' := by
 go_enter Tryz.func49, Tryz.ntmps49
 go_wp2
 go_end0
 exact ⟨rfl, rfl⟩

theorem may_not (p : Nat) (b : Bool) (w : World) (h : w.cell? ⟨p, 57, none⟩ = some (.bool b)) (hz : w.frozen? ⟨p, 57, none⟩ = false) :
  Calls Tryz.prog 49 #[.pointer (some ⟨p, 0, none⟩), .bool false] w fun e w' => e = .returned (.tuple #[]) ∧ w' = w.setCell ⟨p, 57, none⟩ (.bool true) := by
 go_enter Tryz.func49, Tryz.ntmps49
 go_wp2
 go_end0
 exact ⟨rfl, rfl⟩

theorem may_any (p g s cap : Nat) (m : Mac) (ok : Bool) (w : World) (h : MacAt w p g s cap m) :
  Calls Tryz.prog 49 #[.pointer (some ⟨p, 0, none⟩), .bool ok] w fun e w' => e = .returned (.tuple #[]) ∧ MacAt w' p g s cap (m.may ok) ∧ Tch p g w w' := by
 cases ok
 ·refine (may_not p m.fault w h.fl (h.fz _)).mono ?_
  rintro e w' ⟨rfl, rfl⟩
  exact ⟨rfl, h.setFault, (Tch.refl p g w).setCell (q := ⟨p, 57, none⟩) (.inl rfl) _⟩
 ·refine (may_ok p w).mono ?_
  rintro e w' ⟨rfl, rfl⟩
  exact ⟨rfl, h, Tch.refl _ _ _⟩

structure RI where
 op : Int
 imm : Bool
 dst : Nat
 src : Nat
 off : Int
 num : Int
def RI.val (x : RI) : Value := .agg #[.int .i64 x.op, .bool x.imm, .int .i64 x.dst, .int .i64 x.src, .int .i64 x.off, .int .i64 x.num]
def Mac.second (m : Mac) (x : RI) : V := if x.imm then nV (w64 x.num) else m.regs x.src

theorem second_any (p g s cap : Nat) (m : Mac) (x : RI) (w : World) (h : MacAt w p g s cap m) (hs : x.src < 8) :
  Calls Tryz.prog 48 #[.pointer (some ⟨p, 0, none⟩), .agg #[.int .i64 x.op, .bool x.imm, .int .i64 x.dst, .int .i64 x.src, .int .i64 x.off, .int .i64 x.num]] w fun e w' => e = .returned (.agg #[.int .i64 (m.second x).kind, .int .u64 (m.second x).bits, .int .i64 (m.second x).place]) ∧ Below w.heap.size w w' := by
 obtain ⟨op, imm, dst, src, off, num⟩ := x
 simp only at hs
 have k0 := h.k src hs
 have k1 := h.b src hs
 have k2 := h.pl src hs
 have lp := h.lp
 have hne : ¬ w.heap.size = p := by omega
 have hne1 : ¬ w.heap.size + 1 = p := by omega
 have i1 : (0 : Int) ≤ (src : Int) := by omega
 have i2 : (src : Int) < 8 := by omega
 clear h
 cases imm
 ·have e1 : Mac.second m ⟨op, false, dst, src, off, num⟩ = m.regs src := rfl
  rw [e1]
  generalize m.regs src = v at k0 k1 k2 ⊢
  clear e1
  go_enter Tryz.func48, Tryz.ntmps48
  go_wp2
  go_region_held3 (fun w' => w'.cell? ⟨w.heap.size, 3, none⟩ = some (.int .i64 src) ∧ w'.cell? ⟨p, src * 3, none⟩ = some (.int .i64 v.kind) ∧ w'.cell? ⟨p, src * 3 + 1, none⟩ = some (.int .u64 v.bits) ∧ w'.cell? ⟨p, src * 3 + 2, none⟩ = some (.int .i64 v.place)) (go_keep) (fail)
  all_goals go_wp2
  exact bodyPost_ret (v := .agg #[.int .i64 v.kind, .int .u64 v.bits, .int .i64 v.place]) (by simp [results, Tryz.results48, go_sem]) rfl
   ⟨rfl, (((Below.refl _ _).alloc (Nat.le_refl _) _).alloc (by simp) _).drew⟩
 ·go_enter Tryz.func48, Tryz.ntmps48
  go_wp2_with (go_at_call 71; refine (number_any _ _).mono ?_; rintro e w' ⟨rfl, rfl⟩)
  exact bodyPost_ret (v := .agg #[.int .i64 1, .int .u64 (w64 num), .int .i64 0]) (by simp [results, Tryz.results48, go_sem, w64]) rfl
   ⟨rfl, (((Below.refl _ _).alloc (Nat.le_refl _) _).alloc (by simp) _).alloc (by simp; omega) _⟩
end Go.Proofs.YtoobileejdhikaaGreat

namespace Go.Proofs.YtoobileejdhikaaGreat
set_option maxRecDepth 100000
set_option maxHeartbeats 1000000
open Go.RowKit
attribute [local go_sem ↓] Go.wp_at_zero Go.wp_at_succ

def nearB (n : Int) : Bool := decide (-2000 ≤ wrap64 n) && decide (wrap64 n ≤ 2000)
def placeB (n : Int) : Bool := decide (-1000 ≤ n) && decide (n ≤ 1000)
def Mac.moved (m : Mac) (pv nv : V) (sign : Int) : Mac × V :=
 if nearB nv.bits then (m.may (placeB (pv.place + sign * wrap64 nv.bits)), { pv with place := pv.place + sign * wrap64 nv.bits }) else (m.may false, pv)

theorem moved_any (p g s cap : Nat) (m : Mac) (pv nv : V) (sign : Int) (w : World) (h : MacAt w p g s cap m) (hp1 : -100000 ≤ pv.place) (hp2 : pv.place ≤ 100000) (hs : sign = 1 ∨ sign = -1) :
  Calls Tryz.prog 73 #[.pointer (some ⟨p, 0, none⟩), .agg #[.int .i64 pv.kind, .int .u64 pv.bits, .int .i64 pv.place], .agg #[.int .i64 nv.kind, .int .u64 nv.bits, .int .i64 nv.place], .int .i64 sign] w fun e w' =>
   e = .returned (.agg #[.int .i64 (m.moved pv nv sign).2.kind, .int .u64 (m.moved pv nv sign).2.bits, .int .i64 (m.moved pv nv sign).2.place]) ∧ MacAt w' p g s cap (m.moved pv nv sign).1 ∧ Tch p g w w' := by
 have f57 := h.fl
 have z57 := h.fz 57
 have lp := h.lp
 have lg := h.lg
 have HM := hideM h
 clear h
 have hne : ¬ w.heap.size = p := by omega
 have hne1 : ¬ w.heap.size + 1 = p := by omega
 have hne2 : ¬ w.heap.size + 1 + 1 = p := by omega
 have HA : Hid (∀ A B C : Obj, (((w.alloc A).alloc B).alloc C).cell? ⟨p, 57, none⟩ = some (.bool m.fault) ∧ (((w.alloc A).alloc B).alloc C).frozen? ⟨p, 57, none⟩ = false) := fun A B C => by
  have hm := HM.out.later ((((Below.refl _ _).alloc (Nat.le_refl _) A).alloc (by simp) B).alloc (by simp; omega) C)
  exact ⟨hm.fl, hm.fz 57⟩
 by_cases n1 : -2000 ≤ wrap64 nv.bits
 ·by_cases n2 : wrap64 nv.bits ≤ 2000
  ·have b1 : decide (wrap64 nv.bits ≤ 2000) = true := by simpa using n2
   have hN : nearB nv.bits = true := by simp [nearB, n1, n2]
   have HE : Hid (m.moved pv nv sign = (m.may (placeB (pv.place + sign * wrap64 nv.bits)), { pv with place := pv.place + sign * wrap64 nv.bits })) := by
    show _ = _
    simp [Mac.moved, hN]
   clear hN
   rw [HE.out]
   clear HE
   rcases hs with rfl | rfl
   ·have ht : pv.place + 1 * wrap64 nv.bits = pv.place + wrap64 nv.bits := by omega
    rw [ht]
    clear ht
    by_cases c1 : -1000 ≤ pv.place + wrap64 nv.bits
    ·by_cases c2 : pv.place + wrap64 nv.bits ≤ 1000
     ·have d2 : decide (pv.place + wrap64 nv.bits ≤ 1000) = true := by simpa using c2
      have hP : placeB (pv.place + wrap64 nv.bits) = true := by simp [placeB, c1, c2]
      rw [hP]
      clear hP
      go_enter Tryz.func73, Tryz.ntmps73
      go_wp2_with (first | (go_at_call_of 49 (Value.bool true); refine (may_ok _ _).mono ?_; rintro e w' ⟨rfl, rfl⟩) | (go_at_call_of 49 (Value.bool false); refine (may_not p m.fault _ (HA.out _ _ _).1 (HA.out _ _ _).2).mono ?_; rintro e w' ⟨rfl, rfl⟩))
      exact bodyPost_ret (v := .agg #[.int .i64 pv.kind, .int .u64 pv.bits, .int .i64 (pv.place + wrap64 nv.bits)]) (by simp [results, Tryz.results73, go_sem]) rfl ⟨rfl, by show MacAt _ _ _ _ _ m; (repeat (first | with_reducible exact HM.out | with_reducible refine MacAt.alloc ?_ _ | with_reducible refine MacAt.drew ?_ | with_reducible refine MacAt.setFault ?_ | with_reducible refine MacAt.setAway ?_ (by omega) (by omega) _)), by (repeat (first | with_reducible exact Tch.refl _ _ _ | with_reducible refine Tch.alloc ?_ _ | with_reducible refine Tch.drew ?_ | with_reducible refine Tch.setP ?_ _ _ | with_reducible refine Tch.setNew ?_ (by omega) _ _))⟩
     ·have d2 : decide (pv.place + wrap64 nv.bits ≤ 1000) = false := by simpa using c2
      have hP : placeB (pv.place + wrap64 nv.bits) = false := by simp [placeB, c1, c2]
      rw [hP]
      clear hP
      go_enter Tryz.func73, Tryz.ntmps73
      go_wp2_with (first | (go_at_call_of 49 (Value.bool true); refine (may_ok _ _).mono ?_; rintro e w' ⟨rfl, rfl⟩) | (go_at_call_of 49 (Value.bool false); refine (may_not p m.fault _ (HA.out _ _ _).1 (HA.out _ _ _).2).mono ?_; rintro e w' ⟨rfl, rfl⟩))
      exact bodyPost_ret (v := .agg #[.int .i64 pv.kind, .int .u64 pv.bits, .int .i64 (pv.place + wrap64 nv.bits)]) (by simp [results, Tryz.results73, go_sem]) rfl ⟨rfl, by show MacAt _ _ _ _ _ { m with fault := true }; (repeat (first | with_reducible exact HM.out | with_reducible refine MacAt.alloc ?_ _ | with_reducible refine MacAt.drew ?_ | with_reducible refine MacAt.setFault ?_ | with_reducible refine MacAt.setAway ?_ (by omega) (by omega) _)), by (repeat (first | with_reducible exact Tch.refl _ _ _ | with_reducible refine Tch.alloc ?_ _ | with_reducible refine Tch.drew ?_ | with_reducible refine Tch.setP ?_ _ _ | with_reducible refine Tch.setNew ?_ (by omega) _ _))⟩
    ·have hP : placeB (pv.place + wrap64 nv.bits) = false := by simp [placeB]; omega
     rw [hP]
     clear hP
     go_enter Tryz.func73, Tryz.ntmps73
     go_wp2_with (first | (go_at_call_of 49 (Value.bool true); refine (may_ok _ _).mono ?_; rintro e w' ⟨rfl, rfl⟩) | (go_at_call_of 49 (Value.bool false); refine (may_not p m.fault _ (HA.out _ _ _).1 (HA.out _ _ _).2).mono ?_; rintro e w' ⟨rfl, rfl⟩))
     exact bodyPost_ret (v := .agg #[.int .i64 pv.kind, .int .u64 pv.bits, .int .i64 (pv.place + wrap64 nv.bits)]) (by simp [results, Tryz.results73, go_sem]) rfl ⟨rfl, by show MacAt _ _ _ _ _ { m with fault := true }; (repeat (first | with_reducible exact HM.out | with_reducible refine MacAt.alloc ?_ _ | with_reducible refine MacAt.drew ?_ | with_reducible refine MacAt.setFault ?_ | with_reducible refine MacAt.setAway ?_ (by omega) (by omega) _)), by (repeat (first | with_reducible exact Tch.refl _ _ _ | with_reducible refine Tch.alloc ?_ _ | with_reducible refine Tch.drew ?_ | with_reducible refine Tch.setP ?_ _ _ | with_reducible refine Tch.setNew ?_ (by omega) _ _))⟩
   ·have ht : pv.place + -1 * wrap64 nv.bits = pv.place + -wrap64 nv.bits := by omega
    rw [ht]
    clear ht
    by_cases c1 : -1000 ≤ pv.place + -wrap64 nv.bits
    ·by_cases c2 : pv.place + -wrap64 nv.bits ≤ 1000
     ·have d2 : decide (pv.place + -wrap64 nv.bits ≤ 1000) = true := by simpa using c2
      have hP : placeB (pv.place + -wrap64 nv.bits) = true := by simp [placeB, c1, c2]
      rw [hP]
      clear hP
      go_enter Tryz.func73, Tryz.ntmps73
      go_wp2_with (first | (go_at_call_of 49 (Value.bool true); refine (may_ok _ _).mono ?_; rintro e w' ⟨rfl, rfl⟩) | (go_at_call_of 49 (Value.bool false); refine (may_not p m.fault _ (HA.out _ _ _).1 (HA.out _ _ _).2).mono ?_; rintro e w' ⟨rfl, rfl⟩))
      exact bodyPost_ret (v := .agg #[.int .i64 pv.kind, .int .u64 pv.bits, .int .i64 (pv.place + -wrap64 nv.bits)]) (by simp [results, Tryz.results73, go_sem]) rfl ⟨rfl, by show MacAt _ _ _ _ _ m; (repeat (first | with_reducible exact HM.out | with_reducible refine MacAt.alloc ?_ _ | with_reducible refine MacAt.drew ?_ | with_reducible refine MacAt.setFault ?_ | with_reducible refine MacAt.setAway ?_ (by omega) (by omega) _)), by (repeat (first | with_reducible exact Tch.refl _ _ _ | with_reducible refine Tch.alloc ?_ _ | with_reducible refine Tch.drew ?_ | with_reducible refine Tch.setP ?_ _ _ | with_reducible refine Tch.setNew ?_ (by omega) _ _))⟩
     ·have d2 : decide (pv.place + -wrap64 nv.bits ≤ 1000) = false := by simpa using c2
      have hP : placeB (pv.place + -wrap64 nv.bits) = false := by simp [placeB, c1, c2]
      rw [hP]
      clear hP
      go_enter Tryz.func73, Tryz.ntmps73
      go_wp2_with (first | (go_at_call_of 49 (Value.bool true); refine (may_ok _ _).mono ?_; rintro e w' ⟨rfl, rfl⟩) | (go_at_call_of 49 (Value.bool false); refine (may_not p m.fault _ (HA.out _ _ _).1 (HA.out _ _ _).2).mono ?_; rintro e w' ⟨rfl, rfl⟩))
      exact bodyPost_ret (v := .agg #[.int .i64 pv.kind, .int .u64 pv.bits, .int .i64 (pv.place + -wrap64 nv.bits)]) (by simp [results, Tryz.results73, go_sem]) rfl ⟨rfl, by show MacAt _ _ _ _ _ { m with fault := true }; (repeat (first | with_reducible exact HM.out | with_reducible refine MacAt.alloc ?_ _ | with_reducible refine MacAt.drew ?_ | with_reducible refine MacAt.setFault ?_ | with_reducible refine MacAt.setAway ?_ (by omega) (by omega) _)), by (repeat (first | with_reducible exact Tch.refl _ _ _ | with_reducible refine Tch.alloc ?_ _ | with_reducible refine Tch.drew ?_ | with_reducible refine Tch.setP ?_ _ _ | with_reducible refine Tch.setNew ?_ (by omega) _ _))⟩
    ·have hP : placeB (pv.place + -wrap64 nv.bits) = false := by simp [placeB]; omega
     rw [hP]
     clear hP
     go_enter Tryz.func73, Tryz.ntmps73
     go_wp2_with (first | (go_at_call_of 49 (Value.bool true); refine (may_ok _ _).mono ?_; rintro e w' ⟨rfl, rfl⟩) | (go_at_call_of 49 (Value.bool false); refine (may_not p m.fault _ (HA.out _ _ _).1 (HA.out _ _ _).2).mono ?_; rintro e w' ⟨rfl, rfl⟩))
     exact bodyPost_ret (v := .agg #[.int .i64 pv.kind, .int .u64 pv.bits, .int .i64 (pv.place + -wrap64 nv.bits)]) (by simp [results, Tryz.results73, go_sem]) rfl ⟨rfl, by show MacAt _ _ _ _ _ { m with fault := true }; (repeat (first | with_reducible exact HM.out | with_reducible refine MacAt.alloc ?_ _ | with_reducible refine MacAt.drew ?_ | with_reducible refine MacAt.setFault ?_ | with_reducible refine MacAt.setAway ?_ (by omega) (by omega) _)), by (repeat (first | with_reducible exact Tch.refl _ _ _ | with_reducible refine Tch.alloc ?_ _ | with_reducible refine Tch.drew ?_ | with_reducible refine Tch.setP ?_ _ _ | with_reducible refine Tch.setNew ?_ (by omega) _ _))⟩
  ·have b1 : decide (wrap64 nv.bits ≤ 2000) = false := by simpa using n2
   have hN : nearB nv.bits = false := by simp [nearB, n2]
   have HE : Hid (m.moved pv nv sign = (m.may false, pv)) := by
    show _ = _
    simp [Mac.moved, hN]
   clear hN
   rw [HE.out]
   clear HE
   go_enter Tryz.func73, Tryz.ntmps73
   go_wp2_with (first | (go_at_call_of 49 (Value.bool true); refine (may_ok _ _).mono ?_; rintro e w' ⟨rfl, rfl⟩) | (go_at_call_of 49 (Value.bool false); refine (may_not p m.fault _ (HA.out _ _ _).1 (HA.out _ _ _).2).mono ?_; rintro e w' ⟨rfl, rfl⟩))
   exact bodyPost_ret (v := .agg #[.int .i64 pv.kind, .int .u64 pv.bits, .int .i64 pv.place]) (by simp [results, Tryz.results73, go_sem]) rfl ⟨rfl, by show MacAt _ _ _ _ _ { m with fault := true }; (repeat (first | with_reducible exact HM.out | with_reducible refine MacAt.alloc ?_ _ | with_reducible refine MacAt.drew ?_ | with_reducible refine MacAt.setFault ?_ | with_reducible refine MacAt.setAway ?_ (by omega) (by omega) _)), by (repeat (first | with_reducible exact Tch.refl _ _ _ | with_reducible refine Tch.alloc ?_ _ | with_reducible refine Tch.drew ?_ | with_reducible refine Tch.setP ?_ _ _ | with_reducible refine Tch.setNew ?_ (by omega) _ _))⟩
 ·have hN : nearB nv.bits = false := by simp [nearB, n1]
  have HE : Hid (m.moved pv nv sign = (m.may false, pv)) := by
   show _ = _
   simp [Mac.moved, hN]
  clear hN
  rw [HE.out]
  clear HE
  go_enter Tryz.func73, Tryz.ntmps73
  go_wp2_with (first | (go_at_call_of 49 (Value.bool true); refine (may_ok _ _).mono ?_; rintro e w' ⟨rfl, rfl⟩) | (go_at_call_of 49 (Value.bool false); refine (may_not p m.fault _ (HA.out _ _ _).1 (HA.out _ _ _).2).mono ?_; rintro e w' ⟨rfl, rfl⟩))
  exact bodyPost_ret (v := .agg #[.int .i64 pv.kind, .int .u64 pv.bits, .int .i64 pv.place]) (by simp [results, Tryz.results73, go_sem]) rfl ⟨rfl, by show MacAt _ _ _ _ _ { m with fault := true }; (repeat (first | with_reducible exact HM.out | with_reducible refine MacAt.alloc ?_ _ | with_reducible refine MacAt.drew ?_ | with_reducible refine MacAt.setFault ?_ | with_reducible refine MacAt.setAway ?_ (by omega) (by omega) _)), by (repeat (first | with_reducible exact Tch.refl _ _ _ | with_reducible refine Tch.alloc ?_ _ | with_reducible refine Tch.drew ?_ | with_reducible refine Tch.setP ?_ _ _ | with_reducible refine Tch.setNew ?_ (by omega) _ _))⟩
end Go.Proofs.YtoobileejdhikaaGreat

namespace Go.Proofs.YtoobileejdhikaaGreat
set_option maxRecDepth 100000
set_option maxHeartbeats 1000000
open Go.RowKit
attribute [local go_sem ↓] Go.wp_at_zero Go.wp_at_succ

def Mac.byteAt (m : Mac) (pv : V) (n : Int) : Int × Bool :=
 if pv.kind = 2 then (pv.place + n, decide (0 ≤ pv.place + n) && decide (pv.place + n < m.frame.length))
 else (pv.place + n + 32, decide (pv.kind = 3) && decide (-32 ≤ pv.place + n) && decide (pv.place + n < 0))

theorem byteAt_any (p g s cap : Nat) (m : Mac) (pv : V) (n : Int) (w : World) (h : MacAt w p g s cap m) (hp1 : -1000000 ≤ pv.place) (hp2 : pv.place ≤ 1000000) (hn1 : -1000000 ≤ n) (hn2 : n ≤ 1000000) :
  Calls Tryz.prog 74 #[.pointer (some ⟨p, 0, none⟩), .agg #[.int .i64 pv.kind, .int .u64 pv.bits, .int .i64 pv.place], .int .i64 n] w fun e w' =>
   e = .returned (.tuple #[.int .i64 (m.byteAt pv n).1, .bool (m.byteAt pv n).2]) ∧ Below w.heap.size w w' := by
 obtain ⟨a, f56, _⟩ := h.fr
 have lp := h.lp
 have hcp := h.cp
 clear h
 have c56 : ∀ o, (w.alloc o).cell? ⟨p, 56, none⟩ = some (.slice a m.frame.length cap) := fun o => by rw [World.cell?_alloc_past _ _ _ lp]; exact f56
 have hne : ¬ w.heap.size = p := by omega
 cases hk : (pv.kind == 2)
 ·have hk' : ¬ pv.kind = 2 := by simpa using hk
  have HE : Hid (m.byteAt pv n = (pv.place + n + 32, decide (pv.kind = 3) && decide (-32 ≤ pv.place + n) && decide (pv.place + n < 0))) := by
   show _ = _
   simp [Mac.byteAt, hk']
  rw [HE.out]
  clear HE
  cases h3 : (pv.kind == 3)
  ·have h3' : ¬ pv.kind = 3 := by simpa using h3
   go_enter Tryz.func74, Tryz.ntmps74
   go_wp2
   go_ret2
   exact ⟨by simp [h3'], (Below.refl _ _).alloc (Nat.le_refl _) _⟩
  ·have h3' : pv.kind = 3 := by simpa using h3
   have H3 := hideM h3'
   clear h3'
   go_enter Tryz.func74, Tryz.ntmps74
   go_wp2
   all_goals go_ret2
   ·exact ⟨by simp [H3.out, *], (Below.refl _ _).alloc (Nat.le_refl _) _⟩
   ·exact ⟨by simp [H3.out]; omega, (Below.refl _ _).alloc (Nat.le_refl _) _⟩
 ·have hk' : pv.kind = 2 := by simpa using hk
  have HE : Hid (m.byteAt pv n = (pv.place + n, decide (0 ≤ pv.place + n) && decide (pv.place + n < m.frame.length))) := by
   show _ = _
   simp [Mac.byteAt, hk']
  rw [HE.out]
  clear HE hk'
  by_cases h0 : 0 ≤ pv.place + n
  ·have b0 : decide (0 ≤ pv.place + n) = true := by simpa using h0
   go_enter Tryz.func74, Tryz.ntmps74
   go_wp2
   go_region_held3 (fun w' => w'.cell? ⟨p, 56, none⟩ = some (.slice a m.frame.length cap)) (go_keep) (fail)
   all_goals go_wp2
   go_ret2
   exact ⟨by simp [h0], ((Below.refl _ _).alloc (Nat.le_refl _) _).drew⟩
  ·have b0 : decide (0 ≤ pv.place + n) = false := by simpa using h0
   go_enter Tryz.func74, Tryz.ntmps74
   go_wp2
   go_region
   all_goals go_wp2
   all_goals go_ret2
   all_goals exact ⟨by simp; omega, ((Below.refl _ _).alloc (Nat.le_refl _) _).drew⟩

def sizeR (op : Int) : Int := if op % 4 = 0 then 1 else if op % 4 = 1 then 2 else if op % 4 = 2 then 4 else 8

theorem size_any (op : Int) (w : World) (h1 : 20 ≤ op) (h2 : op ≤ 27) :
  Calls Tryz.prog 52 #[.int .i64 op] w fun e w' => e = .returned (.int .i64 (sizeR op)) ∧ Below w.heap.size w w' := by
 rcases (show op = 20 ∨ op = 21 ∨ op = 22 ∨ op = 23 ∨ op = 24 ∨ op = 25 ∨ op = 26 ∨ op = 27 from by omega) with rfl | rfl | rfl | rfl | rfl | rfl | rfl | rfl
 all_goals
  go_enter Tryz.func52, Tryz.ntmps52
  go_wp2
  go_ret
  exact ⟨rfl, (Below.refl _ _).alloc (Nat.le_refl _) _⟩
end Go.Proofs.YtoobileejdhikaaGreat
