/-
  The program's Start: what is known ahead of the first instruction.
  The program's relations: Less, NotGreater, Greater, NotLess, Equal, NotEqual.
  The program's Shrink: what is known behind a Call with Shrink.
  The program's Or: what holds of both, where ways come together.
-/
import Derived.Test.YtoobileejdhikaaGreatGb0
import Derived.Test.YtoobileejdhikaaGreatGa8
import Derived.Test.YtoobileejdhikaaGreatGa9
import Derived.Test.YtoobileejdhikaaGreatGa0
namespace Go.Proofs.YtoobileejdhikaaGreat
set_option maxRecDepth 100000
set_option maxHeartbeats 1000000
open Go.RowKit

theorem wpK_storeS {ops : Array Oper} {rest : List Oper} {o : Oper} {a : Act} {w w0 : World} {Q : Exit → Act → World → Prop} (hgd : o.guard = none) (x y : Operand) (ho : o.op = .store 117 x y)
  (g : Nat) (hx : a.eval x = .pointer (some ⟨g, 0, none⟩)) (s' : KS) (hy : a.eval y = .agg s'.cells) (s : KS) (hg : KAt w g s) (R : Nat) (z : KS) (hR : KAt w R z) (hne : g ≠ R) (hB : Below w0.heap.size w0 w) (hgB : w0.heap.size ≤ g)
  (h : ∀ W', KAt W' g s' → KAt W' R z → Below w0.heap.size w0 W' → wpList Tryz.prog ops Q rest (a.put o.dst undef) W') : wpList Tryz.prog ops Q (o :: rest) a w :=
 wpK_store hgd x y ho g hx s' hy s hg (h _ (hg.over s') (hR.rowAway hne _) (below_setRowK hB hgB _))
def KS.one0 : KS := { KS.zero with reached := true }
def KS.start : KS := ((KS.one0.set 1 firstV).set 2 endV).set 7 stackV

theorem start_any (w : World) :
  Calls Tryz.prog 60 #[] w fun e w' => e = .returned (.agg KS.start.cells) ∧ Below w.heap.size w w' := by
 have hz := zeroK
 go_enter Tryz.func60, Tryz.ntmps60
 go_wp2_with (first | (refine wpList_build_as rfl 117 _ rfl KS.one0.cells (by kernel_rfl) ?_) | (refine wpK_storeS (w0 := w) rfl _ _ rfl (w.heap.size + 1) rfl KS.one0 rfl KS.zero (KAt.top (by simp)) w.heap.size KS.zero (KAt.alloc (KAt.new _ _) _) (by omega) (((Below.refl _ _).alloc (Nat.le_refl _) _).alloc (by simp) _) (by omega) (fun W0 k0 z0 hB0 => ?_)))
 refine (firstPlace_any _).mono ?_
 rintro e W1 ⟨rfl, hb1⟩
 have k1 : KAt W1 (w.heap.size + 1) KS.one0 := KAt.keep k0 hb1
 have z1 : KAt W1 w.heap.size KS.zero := KAt.keep z0 hb1
 have hB1 : Below w.heap.size w W1 := Below.trans hB0 (hb1.mono (Below.size hB0))
 have fz1 := k1.fz
 have a1_0 : W1.cell? ⟨w.heap.size + 1, 8, none⟩ = some (.int .u8 0) := k1.c 1 0 (by omega) (by omega)
 have a1_1 : W1.cell? ⟨w.heap.size + 1, 9, none⟩ = some (.int .u64 0) := k1.c 1 1 (by omega) (by omega)
 have a1_2 : W1.cell? ⟨w.heap.size + 1, 10, none⟩ = some (.int .u64 0) := k1.c 1 2 (by omega) (by omega)
 have a1_3 : W1.cell? ⟨w.heap.size + 1, 11, none⟩ = some (.int .i64 0) := k1.c 1 3 (by omega) (by omega)
 have a1_4 : W1.cell? ⟨w.heap.size + 1, 12, none⟩ = some (.int .i64 0) := k1.c 1 4 (by omega) (by omega)
 have a1_5 : W1.cell? ⟨w.heap.size + 1, 13, none⟩ = some (.bool false) := k1.c 1 5 (by omega) (by omega)
 go_wp2_with fail
 refine (endPlace_any _).mono ?_
 rintro e W2 ⟨rfl, hb2⟩
 have k2 : KAt W2 (w.heap.size + 1) (KS.one0.set 1 firstV) := KAt.keep (KAt.put k1 1 (by omega) firstV) hb2
 have z2 : KAt W2 w.heap.size KS.zero := KAt.keep (KAt.setAway (KAt.setAway (KAt.setAway (KAt.setAway (KAt.setAway (KAt.setAway z1 (by omega) _) (by omega) _) (by omega) _) (by omega) _) (by omega) _) (by omega) _) hb2
 have hB2 : Below w.heap.size w W2 := Below.trans (Below.setCell (Below.setCell (Below.setCell (Below.setCell (Below.setCell (Below.setCell hB1 (by simp) _) (by simp) _) (by simp) _) (by simp) _) (by simp) _) (by simp) _) (hb2.mono (Below.size (Below.setCell (Below.setCell (Below.setCell (Below.setCell (Below.setCell (Below.setCell hB1 (by simp) _) (by simp) _) (by simp) _) (by simp) _) (by simp) _) (by simp) _)))
 have fz2 := k2.fz
 have a2_0 : W2.cell? ⟨w.heap.size + 1, 14, none⟩ = some (.int .u8 0) := k2.c 2 0 (by omega) (by omega)
 have a2_1 : W2.cell? ⟨w.heap.size + 1, 15, none⟩ = some (.int .u64 0) := k2.c 2 1 (by omega) (by omega)
 have a2_2 : W2.cell? ⟨w.heap.size + 1, 16, none⟩ = some (.int .u64 0) := k2.c 2 2 (by omega) (by omega)
 have a2_3 : W2.cell? ⟨w.heap.size + 1, 17, none⟩ = some (.int .i64 0) := k2.c 2 3 (by omega) (by omega)
 have a2_4 : W2.cell? ⟨w.heap.size + 1, 18, none⟩ = some (.int .i64 0) := k2.c 2 4 (by omega) (by omega)
 have a2_5 : W2.cell? ⟨w.heap.size + 1, 19, none⟩ = some (.bool false) := k2.c 2 5 (by omega) (by omega)
 go_wp2_with fail
 refine (stackEnd_any _).mono ?_
 rintro e W3 ⟨rfl, hb3⟩
 have k3 : KAt W3 (w.heap.size + 1) ((KS.one0.set 1 firstV).set 2 endV) := KAt.keep (KAt.put k2 2 (by omega) endV) hb3
 have z3 : KAt W3 w.heap.size KS.zero := KAt.keep (KAt.setAway (KAt.setAway (KAt.setAway (KAt.setAway (KAt.setAway (KAt.setAway z2 (by omega) _) (by omega) _) (by omega) _) (by omega) _) (by omega) _) (by omega) _) hb3
 have hB3 : Below w.heap.size w W3 := Below.trans (Below.setCell (Below.setCell (Below.setCell (Below.setCell (Below.setCell (Below.setCell hB2 (by simp) _) (by simp) _) (by simp) _) (by simp) _) (by simp) _) (by simp) _) (hb3.mono (Below.size (Below.setCell (Below.setCell (Below.setCell (Below.setCell (Below.setCell (Below.setCell hB2 (by simp) _) (by simp) _) (by simp) _) (by simp) _) (by simp) _) (by simp) _)))
 have fz3 := k3.fz
 have a7_0 : W3.cell? ⟨w.heap.size + 1, 44, none⟩ = some (.int .u8 0) := k3.c 7 0 (by omega) (by omega)
 have a7_1 : W3.cell? ⟨w.heap.size + 1, 45, none⟩ = some (.int .u64 0) := k3.c 7 1 (by omega) (by omega)
 have a7_2 : W3.cell? ⟨w.heap.size + 1, 46, none⟩ = some (.int .u64 0) := k3.c 7 2 (by omega) (by omega)
 have a7_3 : W3.cell? ⟨w.heap.size + 1, 47, none⟩ = some (.int .i64 0) := k3.c 7 3 (by omega) (by omega)
 have a7_4 : W3.cell? ⟨w.heap.size + 1, 48, none⟩ = some (.int .i64 0) := k3.c 7 4 (by omega) (by omega)
 have a7_5 : W3.cell? ⟨w.heap.size + 1, 49, none⟩ = some (.bool false) := k3.c 7 5 (by omega) (by omega)
 go_wp2_with (first | refine wpK_load rfl _ rfl (w.heap.size + 1) rfl KS.start ?hK ?_ | refine wpK_store rfl _ _ rfl (w.heap.size) rfl KS.start rfl KS.zero ?hL ?_)
 case hK => exact KAt.put k3 7 (by omega) stackV
 case hL => exact (KAt.setAway (KAt.setAway (KAt.setAway (KAt.setAway (KAt.setAway (KAt.setAway z3 (by omega) _) (by omega) _) (by omega) _) (by omega) _) (by omega) _) (by omega) _)
 exact bodyPost_ret (v := .agg KS.start.cells) (resK Tryz.results60 _ _ (w.heap.size) KS.start rfl (KAt.over (KAt.setAway (KAt.setAway (KAt.setAway (KAt.setAway (KAt.setAway (KAt.setAway z3 (by omega) _) (by omega) _) (by omega) _) (by omega) _) (by omega) _) (by omega) _) _)) rfl ⟨rfl, below_setRowK (Below.setCell (Below.setCell (Below.setCell (Below.setCell (Below.setCell (Below.setCell hB3 (by simp) _) (by simp) _) (by simp) _) (by simp) _) (by simp) _) (by simp) _) (by omega) _⟩
end Go.Proofs.YtoobileejdhikaaGreat

namespace Go.Proofs.YtoobileejdhikaaGreat
set_option maxRecDepth 100000
set_option maxHeartbeats 1000000
open Go.RowKit

structure KS.Ok (s : KS) : Prop where
 v : ∀ r, r < 9 → (s.v r).Ok
 f0 : 0 ≤ s.frame
 f1 : s.frame ≤ 64
def frK (s : KS) (A B : KV) (g : Int) : KS := if B.e then { s with frame := max s.frame (A.pl + g) } else s
def apartByK (s : KS) (a b : Nat) (g : Int) : KS :=
 if (s.v a).kind = 1 then
  (if (s.v a).nl ≤ (s.v b).nm ∧ g ≤ (s.v b).nm - (s.v a).nl then
   ((frK s (s.v a) (s.v b) g).set a { s.v a with nm := min (s.v a).nm ((s.v b).nm - g) }).set b { s.v b with nl := max (s.v b).nl ((s.v a).nl + g) } else KS.zero)
 else
  (if (s.v a).pl ≤ (s.v b).pm ∧ g ≤ (s.v b).pm - (s.v a).pl then
   ((frK s (s.v a) (s.v b) g).set a { s.v a with pm := min (s.v a).pm ((s.v b).pm - g) }).set b { s.v b with pl := max (s.v b).pl ((s.v a).pl + g) } else KS.zero)
theorem kNone_ok : kNone.Ok := ⟨by decide, by decide, by decide, by decide, by decide, by decide, by decide, by decide, by decide, by decide, by decide, by decide, by decide, by decide⟩
theorem zero_ok : KS.zero.Ok := ⟨fun _ _ => kNone_ok, by decide, by decide⟩
theorem KS.Ok.set {s : KS} (h : s.Ok) (r : Nat) {v : KV} (hv : v.Ok) : (s.set r v).Ok :=
 ⟨fun i hi => by show (if i = r then v else s.v i).Ok; split; exact hv; exact h.v i hi, h.f0, h.f1⟩
theorem frK_ok {s : KS} (h : s.Ok) {A B : KV} (hA : A.Ok) (hB : B.Ok) (g : Int) (hg : A.pl + g ≤ B.pm) : (frK s A B g).Ok := by
 have := hA.pl0
 unfold frK
 split
 ·rename_i he
  have h1 := hB.e64 he
  have h2 := h.f0
  have h3 := h.f1
  exact ⟨h.v, by show 0 ≤ max s.frame (A.pl + g); omega, by show max s.frame (A.pl + g) ≤ 64; omega⟩
 ·exact h
theorem frK_no {s : KS} {A B : KV} (g : Int) (h : B.e = false) : frK s A B g = s := by unfold frK; rw [h]; rfl
theorem KV.eta_e (v : KV) (b : Bool) (h : v.e = b) : ({ v with e := b } : KV) = v := by cases v; simp at h; simp [h]

theorem apartBy_any (s : KS) (a b : Nat) (g : Int) (w : World) (ha : a < 9) (hb : b < 9) (hs : s.Ok) (hk : (s.v a).kind = (s.v b).kind) (g0 : 0 ≤ g) (g1 : g ≤ 1) :
  Calls Tryz.prog 173 #[.agg s.cells, .int .u8 a, .int .u8 b, .int .i64 g] w fun e w' => e = .returned (.agg (apartByK s a b g).cells) ∧ Below w.heap.size w w' := by
 have oa := hs.v a ha
 have ob := hs.v b hb
 have H : ApH s a b g := ⟨ha, hb, g0, g1, oa.nl0, oa.nl1, oa.nm0, oa.nm1, ob.nl0, ob.nl1, ob.nm0, ob.nm1, oa.pl0, oa.pl1, oa.pm0, oa.pm1, ob.pl0, ob.pl1, ob.pm0, ob.pm1, hs.f0, hs.f1⟩
 by_cases k1 : (s.v a).kind = 1
 ·have he : (s.v b).e = false := by
   cases h : (s.v b).e
   ·rfl
   ·have := ob.e2 h; omega
  by_cases hy : (s.v a).nl ≤ (s.v b).nm ∧ g ≤ (s.v b).nm - (s.v a).nl
  ·have E : apartByK s a b g = ((s.set a { s.v a with nm := min (s.v a).nm ((s.v b).nm - g) }).set b { s.v b with nl := max (s.v b).nl ((s.v a).nl + g), e := false }) := by
    unfold apartByK; rw [if_pos k1, if_pos hy, frK_no g he]; congr 1; cases hb : s.v b; rw [hb] at he; simp at he; simp [he]
   rw [E]
   exact apartByN_yes s a b g w H k1 hy.1 hy.2 he
  ·have E : apartByK s a b g = KS.zero := by unfold apartByK; rw [if_pos k1, if_neg hy]
   rw [E]
   exact apartByN_not s a b g w H k1 hy
 ·by_cases hy : (s.v a).pl ≤ (s.v b).pm ∧ g ≤ (s.v b).pm - (s.v a).pl
  ·cases he : (s.v b).e
   ·have E : apartByK s a b g = ((s.set a { s.v a with pm := min (s.v a).pm ((s.v b).pm - g) }).set b { s.v b with pl := max (s.v b).pl ((s.v a).pl + g), e := false }) := by
     unfold apartByK; rw [if_neg k1, if_pos hy, frK_no g he]; congr 1; cases hb : s.v b; rw [hb] at he; simp at he; simp [he]
    rw [E]
    exact apartByP_yes s a b g w H k1 hy.1 hy.2 he
   ·by_cases hm : s.frame < (s.v a).pl + g
    ·have E : apartByK s a b g = ((({ s with frame := (s.v a).pl + g } : KS).set a { s.v a with pm := min (s.v a).pm ((s.v b).pm - g) }).set b { s.v b with pl := max (s.v b).pl ((s.v a).pl + g), e := true }) := by
      unfold apartByK frK; rw [if_neg k1, if_pos hy, if_pos he, show max s.frame ((s.v a).pl + g) = (s.v a).pl + g from by omega]; congr 1; cases hb : s.v b; rw [hb] at he; simp at he; simp [he]
     rw [E]
     exact apartByP_end1 s a b g w H k1 hy.1 hy.2 he hm
    ·have E : apartByK s a b g = ((({ s with frame := s.frame } : KS).set a { s.v a with pm := min (s.v a).pm ((s.v b).pm - g) }).set b { s.v b with pl := max (s.v b).pl ((s.v a).pl + g), e := true }) := by
      unfold apartByK frK; rw [if_neg k1, if_pos hy, if_pos he, show max s.frame ((s.v a).pl + g) = s.frame from by omega]; congr 1; cases hb : s.v b; rw [hb] at he; simp at he; simp [he]
     rw [E]
     exact apartByP_end2 s a b g w H k1 hy.1 hy.2 he (by omega)
  ·have E : apartByK s a b g = KS.zero := by unfold apartByK; rw [if_neg k1, if_neg hy]
   rw [E]
   exact apartByP_not s a b g w H k1 hy

theorem apartByK_ok {s : KS} (hs : s.Ok) {a b : Nat} (ha : a < 9) (hb : b < 9) {g : Int} (_g0 : 0 ≤ g) (_g1 : g ≤ 1) (hk : (s.v a).kind = (s.v b).kind) : (apartByK s a b g).Ok := by
 have oa := hs.v a ha
 have ob := hs.v b hb
 unfold apartByK
 split
 ·rename_i k1
  split
  ·rename_i hy
   have he : (s.v b).e = false := by
    cases h : (s.v b).e
    ·rfl
    ·have := ob.e2 h; omega
   rw [frK_no g he]
   have := oa.nl0; have := oa.nm0; have := oa.nl1; have := oa.nm1; have := oa.nn; have := ob.nl0; have := ob.nm0; have := ob.nl1; have := ob.nm1; have := ob.nn
   refine (hs.set a ?_).set b ?_
   ·exact ⟨oa.k0, oa.k3, oa.nl0, oa.nl1, by show 0 ≤ min (s.v a).nm ((s.v b).nm - g); omega, by show min (s.v a).nm ((s.v b).nm - g) < _; omega, by show (s.v a).nl ≤ min (s.v a).nm ((s.v b).nm - g); omega, oa.pl0, oa.pl1, oa.pm0, oa.pm1, oa.e2, oa.e64, oa.pp⟩
   ·exact ⟨ob.k0, ob.k3, by show 0 ≤ max (s.v b).nl ((s.v a).nl + g); omega, by show max (s.v b).nl ((s.v a).nl + g) < _; omega, ob.nm0, ob.nm1, by show max (s.v b).nl ((s.v a).nl + g) ≤ (s.v b).nm; omega, ob.pl0, ob.pl1, ob.pm0, ob.pm1, ob.e2, ob.e64, ob.pp⟩
  ·exact zero_ok
 ·split
  ·rename_i hy
   have := oa.pl0; have := oa.pm0; have := oa.pl1; have := oa.pm1; have := ob.pl0; have := ob.pm0; have := ob.pl1; have := ob.pm1
   refine ((frK_ok hs oa ob g (by omega)).set a ?_).set b ?_
   ·refine ⟨oa.k0, oa.k3, oa.nl0, oa.nl1, oa.nm0, oa.nm1, oa.nn, oa.pl0, oa.pl1, by show -1000 ≤ min (s.v a).pm ((s.v b).pm - g); omega, by show min (s.v a).pm ((s.v b).pm - g) ≤ _; omega, oa.e2, fun h => ?_, by have := oa.pp; show (s.v a).pl ≤ min (s.v a).pm ((s.v b).pm - g); omega⟩
    have := oa.e64 h
    show min (s.v a).pm ((s.v b).pm - g) ≤ 64; omega
   ·exact ⟨ob.k0, ob.k3, ob.nl0, ob.nl1, ob.nm0, ob.nm1, ob.nn, by show -1000 ≤ max (s.v b).pl ((s.v a).pl + g); omega, by show max (s.v b).pl ((s.v a).pl + g) ≤ _; omega, ob.pm0, ob.pm1, ob.e2, ob.e64, by have := ob.pp; show max (s.v b).pl ((s.v a).pl + g) ≤ (s.v b).pm; omega⟩
  ·exact zero_ok
theorem apartByK_kind {s : KS} {a b : Nat} {g : Int} (hk : (s.v a).kind = (s.v b).kind) : ((apartByK s a b g).v a).kind = ((apartByK s a b g).v b).kind := by
 unfold apartByK
 have e : ∀ (S : KS) (x y : KV), x.kind = y.kind → (((S.set a x).set b y).v a).kind = (((S.set a x).set b y).v b).kind := fun S x y h => by
  show (if a = b then y else if a = a then x else S.v a).kind = (if b = b then y else _).kind
  simp
  split
  ·rfl
  ·exact h
 split <;> split <;> first | exact e _ _ _ hk | rfl

def lessK (s : KS) (a b : Nat) : KS := apartByK s a b 1
def notGreaterK (s : KS) (a b : Nat) : KS := apartByK s a b 0
def greaterK (s : KS) (a b : Nat) : KS := lessK s b a
def notLessK (s : KS) (a b : Nat) : KS := notGreaterK s b a
def equalK (s : KS) (a b : Nat) : KS := notLessK (notGreaterK s a b) a b
def notEqualK (s : KS) (_ _ : Nat) : KS := s

theorem Less_any (s : KS) (a b : Nat) (w : World) (ha : a < 9) (hb : b < 9) (hs : s.Ok) (hk : (s.v a).kind = (s.v b).kind) :
  Calls Tryz.prog 126 #[.agg s.cells, .int .u8 a, .int .u8 b] w fun e w' => e = .returned (.agg (lessK s a b).cells) ∧ Below w.heap.size w w' := by
 have hz := zeroK
 have C := fun w => apartBy_any s a b 1 w ha hb hs hk (by decide) (by decide)
 go_enter Tryz.func126, Tryz.ntmps126
 go_wp2_with (first | refine wpK_load rfl _ rfl w.heap.size rfl s ?hK ?_ | (go_at_call 173; refine (C _).mono ?_; rintro e w1 ⟨rfl, hb1⟩) | refine wpK_store rfl _ _ rfl (w.heap.size + 1) rfl (apartByK s a b 1) rfl KS.zero ?hL ?_)
 case hK => with_reducible exact KAt.alloc (KAt.new w s) _
 case hL => exact (KAt.keep (s := KS.zero) (KAt.top (by simp)) hb1)
 exact bodyPost_ret (v := .agg (apartByK s a b 1).cells) (resK Tryz.results126 _ _ (w.heap.size + 1) (apartByK s a b 1) rfl (KAt.over (KAt.keep (s := KS.zero) (KAt.top (by simp)) hb1) _)) rfl ⟨rfl, below_setRowK ((((Below.refl _ _).alloc (Nat.le_refl _) _).alloc (by simp) _).trans (hb1.mono (by simp; omega))) (by omega) _⟩

theorem NotGreater_any (s : KS) (a b : Nat) (w : World) (ha : a < 9) (hb : b < 9) (hs : s.Ok) (hk : (s.v a).kind = (s.v b).kind) :
  Calls Tryz.prog 123 #[.agg s.cells, .int .u8 a, .int .u8 b] w fun e w' => e = .returned (.agg (notGreaterK s a b).cells) ∧ Below w.heap.size w w' := by
 have hz := zeroK
 have C := fun w => apartBy_any s a b 0 w ha hb hs hk (by decide) (by decide)
 go_enter Tryz.func123, Tryz.ntmps123
 go_wp2_with (first | refine wpK_load rfl _ rfl w.heap.size rfl s ?hK ?_ | (go_at_call 173; refine (C _).mono ?_; rintro e w1 ⟨rfl, hb1⟩) | refine wpK_store rfl _ _ rfl (w.heap.size + 1) rfl (apartByK s a b 0) rfl KS.zero ?hL ?_)
 case hK => with_reducible exact KAt.alloc (KAt.new w s) _
 case hL => exact (KAt.keep (s := KS.zero) (KAt.top (by simp)) hb1)
 exact bodyPost_ret (v := .agg (apartByK s a b 0).cells) (resK Tryz.results123 _ _ (w.heap.size + 1) (apartByK s a b 0) rfl (KAt.over (KAt.keep (s := KS.zero) (KAt.top (by simp)) hb1) _)) rfl ⟨rfl, below_setRowK ((((Below.refl _ _).alloc (Nat.le_refl _) _).alloc (by simp) _).trans (hb1.mono (by simp; omega))) (by omega) _⟩

theorem Greater_any (s : KS) (a b : Nat) (w : World) (ha : a < 9) (hb : b < 9) (hs : s.Ok) (hk : (s.v a).kind = (s.v b).kind) :
  Calls Tryz.prog 122 #[.agg s.cells, .int .u8 a, .int .u8 b] w fun e w' => e = .returned (.agg (greaterK s a b).cells) ∧ Below w.heap.size w w' := by
 have hz := zeroK
 have C := fun w => Less_any s b a w hb ha hs hk.symm
 go_enter Tryz.func122, Tryz.ntmps122
 go_wp2_with (first | refine wpK_load rfl _ rfl w.heap.size rfl s ?hK ?_ | (go_at_call 126; refine (C _).mono ?_; rintro e w1 ⟨rfl, hb1⟩) | refine wpK_store rfl _ _ rfl (w.heap.size + 1) rfl (lessK s b a) rfl KS.zero ?hL ?_)
 case hK => with_reducible exact KAt.alloc (KAt.new w s) _
 case hL => exact (KAt.keep (s := KS.zero) (KAt.top (by simp)) hb1)
 exact bodyPost_ret (v := .agg (lessK s b a).cells) (resK Tryz.results122 _ _ (w.heap.size + 1) (lessK s b a) rfl (KAt.over (KAt.keep (s := KS.zero) (KAt.top (by simp)) hb1) _)) rfl ⟨rfl, below_setRowK ((((Below.refl _ _).alloc (Nat.le_refl _) _).alloc (by simp) _).trans (hb1.mono (by simp; omega))) (by omega) _⟩

theorem NotLess_any (s : KS) (a b : Nat) (w : World) (ha : a < 9) (hb : b < 9) (hs : s.Ok) (hk : (s.v a).kind = (s.v b).kind) :
  Calls Tryz.prog 125 #[.agg s.cells, .int .u8 a, .int .u8 b] w fun e w' => e = .returned (.agg (notLessK s a b).cells) ∧ Below w.heap.size w w' := by
 have hz := zeroK
 have C := fun w => NotGreater_any s b a w hb ha hs hk.symm
 go_enter Tryz.func125, Tryz.ntmps125
 go_wp2_with (first | refine wpK_load rfl _ rfl w.heap.size rfl s ?hK ?_ | (go_at_call 123; refine (C _).mono ?_; rintro e w1 ⟨rfl, hb1⟩) | refine wpK_store rfl _ _ rfl (w.heap.size + 1) rfl (notGreaterK s b a) rfl KS.zero ?hL ?_)
 case hK => with_reducible exact KAt.alloc (KAt.new w s) _
 case hL => exact (KAt.keep (s := KS.zero) (KAt.top (by simp)) hb1)
 exact bodyPost_ret (v := .agg (notGreaterK s b a).cells) (resK Tryz.results125 _ _ (w.heap.size + 1) (notGreaterK s b a) rfl (KAt.over (KAt.keep (s := KS.zero) (KAt.top (by simp)) hb1) _)) rfl ⟨rfl, below_setRowK ((((Below.refl _ _).alloc (Nat.le_refl _) _).alloc (by simp) _).trans (hb1.mono (by simp; omega))) (by omega) _⟩

theorem NotEqual_any (s : KS) (a b : Nat) (w : World) :
  Calls Tryz.prog 118 #[.agg s.cells, .int .u8 a, .int .u8 b] w fun e w' => e = .returned (.agg s.cells) ∧ Below w.heap.size w w' := by
 have hz := zeroK
 go_enter Tryz.func118, Tryz.ntmps118
 go_wp2_with (first | refine wpK_load rfl _ rfl w.heap.size rfl s ?hK ?_ | refine wpK_store rfl _ _ rfl (w.heap.size + 1) rfl s rfl KS.zero ?hL ?_)
 case hK => with_reducible exact KAt.alloc (KAt.new w s) _
 case hL => exact KAt.top (by simp)
 exact bodyPost_ret (v := .agg s.cells) (resK Tryz.results118 _ _ (w.heap.size + 1) s rfl (KAt.over (s := KS.zero) (KAt.top (by simp)) _)) rfl ⟨rfl, below_setRowK (((Below.refl _ _).alloc (Nat.le_refl _) _).alloc (by simp) _) (by omega) _⟩

theorem Equal_any (s : KS) (a b : Nat) (w : World) (ha : a < 9) (hb : b < 9) (hs : s.Ok) (hk : (s.v a).kind = (s.v b).kind) :
  Calls Tryz.prog 117 #[.agg s.cells, .int .u8 a, .int .u8 b] w fun e w' => e = .returned (.agg (equalK s a b).cells) ∧ Below w.heap.size w w' := by
 have hz := zeroK
 have C := fun w => NotGreater_any s a b w ha hb hs hk
 have D := fun w => NotLess_any (notGreaterK s a b) a b w ha hb (apartByK_ok hs ha hb (by decide) (by decide) hk) (apartByK_kind hk)
 go_enter Tryz.func117, Tryz.ntmps117
 go_wp2_with (first | refine wpK_load rfl _ rfl w.heap.size rfl s ?hK ?_ | (go_at_call 123; refine (C _).mono ?_; rintro e w1 ⟨rfl, hb1⟩) | (go_at_call 125; refine (D _).mono ?_; rintro e w2 ⟨rfl, hb2⟩) | refine wpK_store rfl _ _ rfl (w.heap.size + 1) rfl (notLessK (notGreaterK s a b) a b) rfl KS.zero ?hL ?_)
 case hK => with_reducible exact KAt.alloc (KAt.new w s) _
 case hL => exact (KAt.keep (KAt.keep (s := KS.zero) (KAt.top (by simp)) hb1) hb2)
 have hB1 := (((Below.refl w.heap.size w).alloc (Nat.le_refl _) _).alloc (by simp) _).trans (hb1.mono (by simp; omega))
 exact bodyPost_ret (v := .agg (notLessK (notGreaterK s a b) a b).cells) (resK Tryz.results117 _ _ (w.heap.size + 1) (notLessK (notGreaterK s a b) a b) rfl (KAt.over (KAt.keep (KAt.keep (s := KS.zero) (KAt.top (by simp)) hb1) hb2) _)) rfl ⟨rfl, below_setRowK (hB1.trans (hb2.mono hB1.size)) (by omega) _⟩
end Go.Proofs.YtoobileejdhikaaGreat

namespace Go.Proofs.YtoobileejdhikaaGreat
set_option maxRecDepth 100000
set_option maxHeartbeats 2000000
open Go.RowKit

def KS.vlist (s : KS) : List Value :=
 ((s.v 0).cells ++ ((s.v 1).cells ++ ((s.v 2).cells ++ ((s.v 3).cells ++ ((s.v 4).cells ++ ((s.v 5).cells ++ ((s.v 6).cells ++ ((s.v 7).cells ++ (s.v 8).cells))))))))
def KS.varr0 (s : KS) : Array Value := s.vlist.toArray
def KS.varrW (s : KS) (n : Nat) : Array Value := if _h : n = 0 then s.varr0 else KS.varrW s (n / 2)
def KS.varr (s : KS) : Array Value := KS.varrW s 0
theorem KS.varr_eq (s : KS) : s.varr = s.varr0 := by unfold KS.varr; rw [KS.varrW]; simp
theorem vlist_len (s : KS) : s.vlist.length = 54 := rfl
theorem KS.list_eq (s : KS) : s.list = (.bool s.reached) :: (.int .i64 s.at1) :: (s.vlist ++ [.int .i64 s.frame]) := rfl
theorem cells_list (s : KS) (j : Nat) : s.cells[j]? = s.list[j]? := by rw [KS.cells_eq]; unfold KS.cells0; simp
theorem KAt.range {w : World} {g : Nat} {s : KS} (h : KAt w g s) : w.rangeAt g 2 s.vlist := by
 intro j v hv
 have hj : j < 54 := by have := (List.getElem?_eq_some_iff.1 hv).1; rw [vlist_len] at this; exact this
 rw [cell_of_row w g _ s.cells _ _ h.row, cells_list, KS.list_eq, show 2 + j = j + 1 + 1 from by omega]
 simp only [List.getElem?_cons_succ]
 rw [List.getElem?_append_left (by rw [vlist_len]; exact hj)]
 exact hv
theorem idx0 (s : KS) (w : World) : Sem.run Tryz.prog (Instr.index 115 (.agg s.varr) (.int .i64 0)) w = .ok (.agg (s.v 0).arr) w := by rw [KS.varr_eq]; kernel_rfl
theorem idx1 (s : KS) (w : World) : Sem.run Tryz.prog (Instr.index 115 (.agg s.varr) (.int .i64 1)) w = .ok (.agg (s.v 1).arr) w := by rw [KS.varr_eq]; kernel_rfl
theorem idx2 (s : KS) (w : World) : Sem.run Tryz.prog (Instr.index 115 (.agg s.varr) (.int .i64 2)) w = .ok (.agg (s.v 2).arr) w := by rw [KS.varr_eq]; kernel_rfl
theorem idx3 (s : KS) (w : World) : Sem.run Tryz.prog (Instr.index 115 (.agg s.varr) (.int .i64 3)) w = .ok (.agg (s.v 3).arr) w := by rw [KS.varr_eq]; kernel_rfl
theorem idx4 (s : KS) (w : World) : Sem.run Tryz.prog (Instr.index 115 (.agg s.varr) (.int .i64 4)) w = .ok (.agg (s.v 4).arr) w := by rw [KS.varr_eq]; kernel_rfl
theorem idx5 (s : KS) (w : World) : Sem.run Tryz.prog (Instr.index 115 (.agg s.varr) (.int .i64 5)) w = .ok (.agg (s.v 5).arr) w := by rw [KS.varr_eq]; kernel_rfl
theorem idx6 (s : KS) (w : World) : Sem.run Tryz.prog (Instr.index 115 (.agg s.varr) (.int .i64 6)) w = .ok (.agg (s.v 6).arr) w := by rw [KS.varr_eq]; kernel_rfl
theorem idx7 (s : KS) (w : World) : Sem.run Tryz.prog (Instr.index 115 (.agg s.varr) (.int .i64 7)) w = .ok (.agg (s.v 7).arr) w := by rw [KS.varr_eq]; kernel_rfl
theorem idx8 (s : KS) (w : World) : Sem.run Tryz.prog (Instr.index 115 (.agg s.varr) (.int .i64 8)) w = .ok (.agg (s.v 8).arr) w := by rw [KS.varr_eq]; kernel_rfl
theorem idxK (s : KS) (i : Nat) (h : i < 9) (w : World) : Sem.run Tryz.prog (Instr.index 115 (.agg s.varr) (.int .i64 i)) w = .ok (.agg (s.v i).arr) w := by
 match i, h with
 | 0, _ => exact idx0 s w
 | 1, _ => exact idx1 s w
 | 2, _ => exact idx2 s w
 | 3, _ => exact idx3 s w
 | 4, _ => exact idx4 s w
 | 5, _ => exact idx5 s w
 | 6, _ => exact idx6 s w
 | 7, _ => exact idx7 s w
 | 8, _ => exact idx8 s w
theorem infoA (s : KS) : (Tryz.prog.info? 115).map (·.size) = some s.vlist.length := by rw [vlist_len]; kernel_rfl
theorem wpK_loadV {ops : Array Oper} {rest : List Oper} {o : Oper} {a : Act} {w : World} {Q : Exit → Act → World → Prop} (hgd : o.guard = none) (x : Operand) (ho : o.op = .load 115 x)
  (g : Nat) (hx : a.eval x = .pointer (some ⟨g, 2, none⟩)) (s : KS) (hg : KAt w g s)
  (h : wpList Tryz.prog ops Q rest (a.put o.dst (.agg s.varr)) w) : wpList Tryz.prog ops Q (o :: rest) a w :=
 wpList_load_mid hgd _ x ho g 2 hx s.vlist _ hg.range Tryz.underlying115 rfl (infoA s) (by rw [KS.varr_eq] at h; exact h)

abbrev shrC (s : KS) (j : Nat) : Prop := (s.v j).kind = 2 ∨ (1 ≤ j ∧ j ≤ 3)
def shrK (s : KS) (n : Nat) : KS := { s with v := fun j => if j < n ∧ shrC s j then kNone else s.v j }
def shrinkK (s : KS) : KS := ({ shrK s 9 with frame := 0 } : KS).set 0 (numV 0 1)
theorem shrK_zero (s : KS) : shrK s 0 = s := by unfold shrK; simp
theorem shrK_skip {s : KS} {k : Nat} (h : ¬ shrC s k) : shrK s (k + 1) = shrK s k := by
 unfold shrK
 congr 1
 funext j
 by_cases e : j = k
 ·subst e; simp [h]
 ·have : (j < k + 1) ↔ (j < k) := by omega
  simp [this]
theorem shrK_hit {s : KS} {k : Nat} (h : shrC s k) : (shrK s k).set k kNone = shrK s (k + 1) := by
 unfold shrK KS.set
 congr 1
 funext j
 by_cases e : j = k
 ·subst e; simp [h]
 ·have : (j < k + 1) ↔ (j < k) := by omega
  simp [this, e]
theorem shrK_at (s : KS) (k : Nat) : (shrK s k).v k = s.v k := by unfold shrK; simp

theorem shrink_any (s : KS) (w : World) (h1 : (s.v 1).kind = 1) :
  Calls Tryz.prog 176 #[.agg s.cells] w fun e w' => e = .returned (.agg (shrinkK s).cells) ∧ Below w.heap.size w w' := by
 have hz := zeroK
 have CR := fun w => readNumber_any s 1 w (by omega)
 simp only [if_pos h1] at CR
 clear h1
 go_enter Tryz.func176, Tryz.ntmps176
 go_wp2_with (first | refine wpK_load rfl _ rfl w.heap.size rfl s (by with_reducible exact KAt.alloc (KAt.new w s) _) ?_ | (go_at_call 157; refine (CR _).mono ?_; rintro e w1 ⟨rfl, hb1⟩; have k1 : KAt w1 w.heap.size s := KAt.keep (KAt.alloc (KAt.new w s) _) hb1; have z1 : KAt w1 (w.heap.size + 1) KS.zero := KAt.keep (KAt.top (by simp)) hb1; have hB1 : Below w.heap.size w w1 := (((Below.refl _ _).alloc (Nat.le_refl _) _).alloc (by simp) _).trans (hb1.mono (by simp; omega))) | refine wpK_loadV rfl _ rfl w.heap.size rfl s k1 ?_)
 go_loopw [9] (fun c wr => ∃ k : Nat, k ≤ 9 ∧ c = .int .i64 k ∧ KAt wr w.heap.size (shrK s k) ∧ KAt wr (w.heap.size + 1) KS.zero ∧ Below w.heap.size w wr) (fun c _ => 9 - (intOf c).toNat)
 case atStart => exact ⟨0, by omega, rfl, by rw [shrK_zero]; exact k1, z1, hB1⟩
 case round =>
  obtain ⟨k, hk, rfl, kr, zr, hb⟩ := hrel
  clear k1 z1 hB1 hb1
  by_cases hlt : k < 9
  ·have ix := idxK s k hlt
   unfold KV.arr at ix
   have i1 : (0 : Int) ≤ (k : Int) := by omega
   have i2 : (k : Int) < 9 := by omega
   have ng : ¬ wr.heap.size = w.heap.size := Nat.ne_of_gt kr.lt
   have ng2 : w.heap.size < wr.heap.size := kr.lt
   have nr : ¬ wr.heap.size = w.heap.size + 1 := Nat.ne_of_gt zr.lt
   have fz : ∀ X o, (wr.alloc X).frozen? ⟨w.heap.size, o, none⟩ = false := fun X o => (kr.alloc X).fz o
   have a0 : ∀ X, (wr.alloc X).cell? ⟨w.heap.size, 2 + k * 6, none⟩ = some (.int .u8 (s.v k).kind) := fun X => cellAlloc X (by have := kr.c k 0 hlt (by omega); rw [shrK_at] at this; exact this)
   have a1 : ∀ X, (wr.alloc X).cell? ⟨w.heap.size, 2 + k * 6 + 1, none⟩ = some (.int .u64 (s.v k).nl) := fun X => cellAlloc X (by have := kr.c k 1 hlt (by omega); rw [shrK_at] at this; exact this)
   have a2 : ∀ X, (wr.alloc X).cell? ⟨w.heap.size, 2 + k * 6 + 2, none⟩ = some (.int .u64 (s.v k).nm) := fun X => cellAlloc X (by have := kr.c k 2 hlt (by omega); rw [shrK_at] at this; exact this)
   have a3 : ∀ X, (wr.alloc X).cell? ⟨w.heap.size, 2 + k * 6 + 3, none⟩ = some (.int .i64 (s.v k).pl) := fun X => cellAlloc X (by have := kr.c k 3 hlt (by omega); rw [shrK_at] at this; exact this)
   have a4 : ∀ X, (wr.alloc X).cell? ⟨w.heap.size, 2 + k * 6 + 4, none⟩ = some (.int .i64 (s.v k).pm) := fun X => cellAlloc X (by have := kr.c k 4 hlt (by omega); rw [shrK_at] at this; exact this)
   have a5 : ∀ X, (wr.alloc X).cell? ⟨w.heap.size, 2 + k * 6 + 5, none⟩ = some (.bool (s.v k).e) := fun X => cellAlloc X (by have := kr.c k 5 hlt (by omega); rw [shrK_at] at this; exact this)
   have b0 : wr.cell? ⟨w.heap.size, 2 + k * 6, none⟩ = some (.int .u8 (s.v k).kind) := by have := kr.c k 0 hlt (by omega); rw [shrK_at] at this; exact this
   have b1 : wr.cell? ⟨w.heap.size, 2 + k * 6 + 1, none⟩ = some (.int .u64 (s.v k).nl) := by have := kr.c k 1 hlt (by omega); rw [shrK_at] at this; exact this
   have b2 : wr.cell? ⟨w.heap.size, 2 + k * 6 + 2, none⟩ = some (.int .u64 (s.v k).nm) := by have := kr.c k 2 hlt (by omega); rw [shrK_at] at this; exact this
   have b3 : wr.cell? ⟨w.heap.size, 2 + k * 6 + 3, none⟩ = some (.int .i64 (s.v k).pl) := by have := kr.c k 3 hlt (by omega); rw [shrK_at] at this; exact this
   have b4 : wr.cell? ⟨w.heap.size, 2 + k * 6 + 4, none⟩ = some (.int .i64 (s.v k).pm) := by have := kr.c k 4 hlt (by omega); rw [shrK_at] at this; exact this
   have b5 : wr.cell? ⟨w.heap.size, 2 + k * 6 + 5, none⟩ = some (.bool (s.v k).e) := by have := kr.c k 5 hlt (by omega); rw [shrK_at] at this; exact this
   have fw : ∀ o, wr.frozen? ⟨w.heap.size, o, none⟩ = false := kr.fz
   have HKR := hideK kr
   by_cases c2 : (s.v k).kind = 2
   ·have hc : shrC s k := .inl c2
    have q2 : ((s.v k).kind == 2) = true := by simpa using c2
    have C2 := hideK c2
    clear c2
    go_wp2
    go_roundw
    case rel => exact ⟨k + 1, by omega, by go_num, by rw [← shrK_hit hc]; exact (KAt.put kr k hlt kNone).alloc _, (KAt.alloc (KAt.setAway (KAt.setAway (KAt.setAway (KAt.setAway (KAt.setAway (KAt.setAway zr (by omega) _) (by omega) _) (by omega) _) (by omega) _) (by omega) _) (by omega) _) _), (Below.alloc (Below.setCell (Below.setCell (Below.setCell (Below.setCell (Below.setCell (Below.setCell hb (by simp) _) (by simp) _) (by simp) _) (by simp) _) (by simp) _) (by simp) _) (by have := hb.size; simp; omega) _)⟩
    case measure => simp [intOf]; omega
   ·have q2 : ((s.v k).kind == 2) = false := by simpa using c2
    have C2 := hideK c2
    by_cases c1 : 1 ≤ k
    ·have q1 : decide ((1 : Int) ≤ (k : Int)) = true := by simp; omega
     by_cases c3 : k ≤ 3
     ·have q3 : decide ((k : Int) ≤ 3) = true := by simp; omega
      have hc : shrC s k := .inr ⟨c1, c3⟩
      clear c2
      go_wp2
      go_roundw
      case rel => exact ⟨k + 1, by omega, by go_num, by rw [← shrK_hit hc]; exact (KAt.put kr k hlt kNone).alloc _, (KAt.alloc (KAt.setAway (KAt.setAway (KAt.setAway (KAt.setAway (KAt.setAway (KAt.setAway zr (by omega) _) (by omega) _) (by omega) _) (by omega) _) (by omega) _) (by omega) _) _), (Below.alloc (Below.setCell (Below.setCell (Below.setCell (Below.setCell (Below.setCell (Below.setCell hb (by simp) _) (by simp) _) (by simp) _) (by simp) _) (by simp) _) (by simp) _) (by have := hb.size; simp; omega) _)⟩
      case measure => simp [intOf]; omega
     ·have q3 : decide ((k : Int) ≤ 3) = false := by simp; omega
      have hc : ¬ shrC s k := by unfold shrC; omega
      clear c2
      go_wp2
      go_roundw
      case rel => exact ⟨k + 1, by omega, by go_num, by rw [shrK_skip hc]; exact kr.alloc _, zr.alloc _, hb.alloc hb.size _⟩
      case measure => simp [intOf]; omega
    ·have q1 : decide ((1 : Int) ≤ (k : Int)) = false := by simp; omega
     have hc : ¬ shrC s k := by unfold shrC; omega
     clear c2
     go_wp2
     go_roundw
     case rel => exact ⟨k + 1, by omega, by go_num, by rw [shrK_skip hc]; exact kr.alloc _, zr.alloc _, hb.alloc hb.size _⟩
     case measure => simp [intOf]; omega
  ·have hkn : k = 9 := by omega
   subst hkn
   have fz := kr.fz 56
   have fc := kr.frame
   have C := fun w => setNumber_any ({ shrK s 9 with frame := 0 } : KS) 0 0 1 w (by omega)
   go_wp2_with (first | refine wpK_load rfl _ rfl w.heap.size rfl ({ shrK s 9 with frame := 0 } : KS) (KAt.setFr kr 0) ?_ | (go_at_call 140; refine (C _).mono ?_; rintro e w3 ⟨rfl, hb3⟩) | refine wpK_store rfl _ _ rfl (w.heap.size + 1) rfl (shrinkK s) rfl KS.zero ?hL ?_)
   case hL => exact KAt.keep (KAt.setAway zr (by omega) _) hb3
   exact bodyPost_ret (v := .agg (shrinkK s).cells) (resK Tryz.results176 _ _ (w.heap.size + 1) (shrinkK s) rfl (KAt.over (KAt.keep (KAt.setAway zr (by omega) _) hb3) _)) rfl ⟨rfl, below_setRowK ((hb.setCell (by simp) _).trans (hb3.mono (hb.setCell (p := ⟨w.heap.size, 56, none⟩) (by simp) (.int .i64 0)).size)) (by omega) _⟩
end Go.Proofs.YtoobileejdhikaaGreat

namespace Go.Proofs.YtoobileejdhikaaGreat
set_option maxRecDepth 100000
set_option maxHeartbeats 2000000
open Go.RowKit

theorem shrink_no (s : KS) (w : World) (h1 : ¬ (s.v 1).kind = 1) :
  Calls Tryz.prog 176 #[.agg s.cells] w fun e w' => e = .panicked (thrown 3 s.at1) ∧ Below w.heap.size w w' := by
 have hz := zeroK
 have CR := fun w => readNumber_any s 1 w (by omega)
 simp only [if_neg h1] at CR
 clear h1
 go_enter Tryz.func176, Tryz.ntmps176
 go_wp2_with (first | refine wpK_load rfl _ rfl w.heap.size rfl s (by with_reducible exact KAt.alloc (KAt.new w s) _) ?_ | (go_at_call 157; refine (CR _).mono ?_; rintro e w1 ⟨rfl, hb1⟩))
 exact ⟨rfl, rfl, (((Below.refl _ _).alloc (Nat.le_refl _) _).alloc (by simp) _).trans (hb1.mono (by simp; omega))⟩

theorem VAt.setAway {w : World} {g : Nat} {v : KV} (h : VAt w g v) {b o : Nat} (hb : b ≠ g) (u : Value) : VAt (w.setCell ⟨b, o, none⟩ u) g v :=
 ⟨(heap_setCell_other w ⟨b, o, none⟩ g u (Ne.symm hb)).trans h.row⟩
def orV (s y : KS) (n : Nat) : KS := { s with v := fun j => if j < n then (s.v j).or (y.v j) else s.v j }
def KS.or (s y : KS) : KS := if s.reached then { orV s y 9 with frame := min s.frame y.frame } else y
theorem orV_zero (s y : KS) : orV s y 0 = s := by unfold orV; simp
theorem orV_at (s y : KS) (k : Nat) : (orV s y k).v k = s.v k := by unfold orV; simp
theorem orV_next (s y : KS) (k : Nat) : (orV s y k).set k ((s.v k).or (y.v k)) = orV s y (k + 1) := by
 unfold orV KS.set
 congr 1
 funext j
 by_cases e : j = k
 ·subst e; simp
 ·have : (j < k + 1) ↔ (j < k) := by omega
  simp [this, e]

theorem or_new (s y : KS) (w : World) (hr : s.reached = false) :
  Calls Tryz.prog 142 #[.agg s.cells, .agg y.cells] w fun e w' => e = .returned (.agg y.cells) ∧ Below w.heap.size w w' := by
 have hz := zeroK
 have hr0 : s.cells[0]? = some (.bool false) := by rw [← hr]; exact at_reached s
 go_enter Tryz.func142, Tryz.ntmps142
 go_wp2_with (first | refine wpK_load rfl _ rfl (w.heap.size + 1) rfl y ?hK ?_ | refine wpK_store rfl _ _ rfl (w.heap.size + 1 + 1) rfl y rfl KS.zero ?hL ?_)
 case hK => exact KAt.alloc (KAt.top (by simp)) _
 case hL => exact KAt.top (by simp; try omega)
 exact bodyPost_ret (v := .agg y.cells) (resK Tryz.results142 _ _ (w.heap.size + 1 + 1) y rfl (KAt.over (s := KS.zero) (KAt.top (by simp; try omega)) _)) rfl ⟨rfl, below_setRowK (bel3 _ _ _ _) (by omega) _⟩

theorem or_both (s y : KS) (w : World) (hr : s.reached = true) (_f0 : 0 ≤ s.frame) (_f1 : s.frame ≤ 64) (_f2 : 0 ≤ y.frame) (_f3 : y.frame ≤ 64) :
  Calls Tryz.prog 142 #[.agg s.cells, .agg y.cells] w fun e w' => e = .returned (.agg (s.or y).cells) ∧ Below w.heap.size w w' := by
 have hz := zeroK
 have hr0 : s.cells[0]? = some (.bool true) := by rw [← hr]; exact at_reached s
 have E : s.or y = ({ orV s y 9 with frame := min s.frame y.frame } : KS) := by unfold KS.or; rw [if_pos hr]
 rw [E]
 have HE := hideK E
 clear E hr
 go_enter Tryz.func142, Tryz.ntmps142
 go_wp2_with (first | refine wpK_loadV rfl _ rfl (w.heap.size + 1) rfl y (by exact KAt.alloc (KAt.top (by simp)) _) ?_)
 go_loopw [13] (fun c wr => ∃ k : Nat, k ≤ 9 ∧ c = .int .i64 k ∧ KAt wr w.heap.size (orV s y k) ∧ KAt wr (w.heap.size + 1) y ∧ KAt wr (w.heap.size + 1 + 1) KS.zero ∧ Below w.heap.size w wr) (fun c _ => 9 - (intOf c).toNat)
 case atStart => exact ⟨0, by omega, rfl, by rw [orV_zero]; with_reducible (repeat (first | exact KAt.new _ _ | refine KAt.alloc ?_ _)), KAt.alloc (KAt.top (by simp)) _, KAt.top (by simp; try omega), bel3 _ _ _ _⟩
 case round =>
  obtain ⟨k, hk, rfl, kr, ky, zr, hb⟩ := hrel
  by_cases hlt : k < 9
  ·have ix := idxK y k hlt
   unfold KV.arr at ix
   have i1 : (0 : Int) ≤ (k : Int) := by omega
   have i2 : (k : Int) < 9 := by omega
   have ng2 : w.heap.size < wr.heap.size := kr.lt
   go_wp2_with fail
   have kG : KAt (wr.alloc (Obj.cells (y.v k).arr 114)).drew w.heap.size (orV s y k) := (kr.alloc _).drew
   have e0 : (wr.alloc (Obj.cells (y.v k).arr 114)).drew.cell? ⟨w.heap.size, 2 + k * 6, none⟩ = some (.int .u8 (s.v k).kind) := (by have := (kG).c k 0 hlt (by omega); rw [orV_at] at this; exact this)
   have e1 : (wr.alloc (Obj.cells (y.v k).arr 114)).drew.cell? ⟨w.heap.size, 2 + k * 6 + 1, none⟩ = some (.int .u64 (s.v k).nl) := (by have := (kG).c k 1 hlt (by omega); rw [orV_at] at this; exact this)
   have e2 : (wr.alloc (Obj.cells (y.v k).arr 114)).drew.cell? ⟨w.heap.size, 2 + k * 6 + 2, none⟩ = some (.int .u64 (s.v k).nm) := (by have := (kG).c k 2 hlt (by omega); rw [orV_at] at this; exact this)
   have e3 : (wr.alloc (Obj.cells (y.v k).arr 114)).drew.cell? ⟨w.heap.size, 2 + k * 6 + 3, none⟩ = some (.int .i64 (s.v k).pl) := (by have := (kG).c k 3 hlt (by omega); rw [orV_at] at this; exact this)
   have e4 : (wr.alloc (Obj.cells (y.v k).arr 114)).drew.cell? ⟨w.heap.size, 2 + k * 6 + 4, none⟩ = some (.int .i64 (s.v k).pm) := (by have := (kG).c k 4 hlt (by omega); rw [orV_at] at this; exact this)
   have e5 : (wr.alloc (Obj.cells (y.v k).arr 114)).drew.cell? ⟨w.heap.size, 2 + k * 6 + 5, none⟩ = some (.bool (s.v k).e) := (by have := (kG).c k 5 hlt (by omega); rw [orV_at] at this; exact this)
   unfold KV.arr at e0 e1 e2 e3 e4 e5
   refine wp_region_noPanic ?_
   refine wp_region_held_drew (S := fun w' => VAt w' wr.heap.size (y.v k) ∧ KAt w' (w.heap.size + 1) y ∧ KAt w' (w.heap.size + 1 + 1) KS.zero ∧ Below w.heap.size w w') (by kernel_rfl) ⟨VAt.drew ⟨heap_alloc_new wr _⟩, (ky.alloc _).drew, (zr.alloc _).drew, (hb.alloc hb.size _).drew⟩ (fun hHeld => ?_)
   refine tkH 0 ?_
   try simp only [Act.put]
   refine tkH 1 ?_
   try simp only [Act.put]
   refine tkH 2 ?_
   try simp only [Act.put]
   refine tkH 3 ?_
   try simp only [Act.put]
   refine wpAnyH_take (i := 5) (v := ?_) rfl (by kernel_rfl) (by kernel_rfl) (by kernel_rfl) (fun _ _ _ h => h) (Or.inl ⟨by rfl, ?_⟩) (by assumption) ?_
   rotate_left
   ·intro wS hSw; (try dsimp only at hSw); have e0 := hSw.1.c0; have e1 := hSw.1.c1; have e2 := hSw.1.c2; have e3 := hSw.1.c3; have e4 := hSw.1.c4; have e5 := hSw.1.c5; go_simp; (first | done | with_reducible rfl)
   try simp only [Act.put]
   refine tkH 7 ?_
   try simp only [Act.put]
   refine rdH 4 (fun K hK => ?_)
   go_simp
   refine hK.out _ _ ?_ (fun hHeld => ?_)
   ·exact hHeld
   clear hK K
   try simp only [Act.put]
   refine rdH 6 (fun K hK => ?_)
   go_simp
   refine (vOr_any (s.v k) (y.v k) _).mono ?_
   rintro e W1 ⟨rfl, hbX⟩
   have hN : (fun w' => VAt w' wr.heap.size (y.v k) ∧ KAt w' (w.heap.size + 1) y ∧ KAt w' (w.heap.size + 1 + 1) KS.zero ∧ Below w.heap.size w w') W1 := ⟨hHeld.1.keep hbX, hHeld.2.1.keep hbX, hHeld.2.2.1.keep hbX, hHeld.2.2.2.trans (hbX.mono hHeld.2.2.2.size)⟩
   have kG1 := kG.keep hbX
   go_wp2_with fail
   refine hK.out _ _ ?_ (fun hHeld => ?_)
   ·exact hN
   clear hK K
   try simp only [Act.put]
   unfold KV.arr
   refine rdH 8 (fun K hK => ?_)
   go_simp
   refine hK.out _ _ ?_ (fun hHeld => ?_)
   ·exact hHeld
   clear hK K
   try simp only [Act.put]
   have b0 : W1.cell? ⟨w.heap.size, 2 + k * 6, none⟩ = some (.int .u8 (s.v k).kind) := (by have := (kG1).c k 0 hlt (by omega); rw [orV_at] at this; exact this)
   have b1 : W1.cell? ⟨w.heap.size, 2 + k * 6 + 1, none⟩ = some (.int .u64 (s.v k).nl) := (by have := (kG1).c k 1 hlt (by omega); rw [orV_at] at this; exact this)
   have b2 : W1.cell? ⟨w.heap.size, 2 + k * 6 + 2, none⟩ = some (.int .u64 (s.v k).nm) := (by have := (kG1).c k 2 hlt (by omega); rw [orV_at] at this; exact this)
   have b3 : W1.cell? ⟨w.heap.size, 2 + k * 6 + 3, none⟩ = some (.int .i64 (s.v k).pl) := (by have := (kG1).c k 3 hlt (by omega); rw [orV_at] at this; exact this)
   have b4 : W1.cell? ⟨w.heap.size, 2 + k * 6 + 4, none⟩ = some (.int .i64 (s.v k).pm) := (by have := (kG1).c k 4 hlt (by omega); rw [orV_at] at this; exact this)
   have b5 : W1.cell? ⟨w.heap.size, 2 + k * 6 + 5, none⟩ = some (.bool (s.v k).e) := (by have := (kG1).c k 5 hlt (by omega); rw [orV_at] at this; exact this)
   have fW := kG1.fz
   have hM := KAt.put kG1 k hlt ((s.v k).or (y.v k))
   rw [orV_next] at hM
   have nV : w.heap.size ≠ wr.heap.size := Nat.ne_of_lt kr.lt
   refine rdH 9 (fun K hK => ?_)
   go_simp
   refine hK.out _ _ ?_ (fun hHeld => ?_)
   ·exact ⟨(VAt.setAway (VAt.setAway (VAt.setAway (VAt.setAway (VAt.setAway (VAt.setAway hHeld.1 (by omega) _) (by omega) _) (by omega) _) (by omega) _) (by omega) _) (by omega) _), (KAt.setAway (KAt.setAway (KAt.setAway (KAt.setAway (KAt.setAway (KAt.setAway hHeld.2.1 (by omega) _) (by omega) _) (by omega) _) (by omega) _) (by omega) _) (by omega) _), (KAt.setAway (KAt.setAway (KAt.setAway (KAt.setAway (KAt.setAway (KAt.setAway hHeld.2.2.1 (by omega) _) (by omega) _) (by omega) _) (by omega) _) (by omega) _) (by omega) _), (Below.setCell (Below.setCell (Below.setCell (Below.setCell (Below.setCell (Below.setCell hHeld.2.2.2 (by simp) _) (by simp) _) (by simp) _) (by simp) _) (by simp) _) (by simp) _)⟩
   clear hK K
   try simp only [Act.put]
   refine wpAnyH_done (by kernel_rfl) ?_ _
   refine NoPanic.normal ?_
   go_wp2_with fail
   go_roundw
   case rel => exact ⟨k + 1, by omega, by go_num, hM, hHeld.2.1, hHeld.2.2.1, hHeld.2.2.2⟩
   case measure => simp [intOf]; omega
  ·have hkn : k = 9 := by omega
   subst hkn
   have fz := kr.fz 56
   have fc := kr.frame
   have fy := ky.frame
   have fe : (orV s y 9).frame = s.frame := rfl
   rw [fe] at fc
   by_cases hm : y.frame < s.frame
   ·have E2 : min s.frame y.frame = y.frame := by omega
    go_wp2_with (first | refine wpK_load rfl _ rfl w.heap.size rfl ({ orV s y 9 with frame := y.frame } : KS) (KAt.setFr kr _) ?_ | refine wpK_store rfl _ _ rfl (w.heap.size + 1 + 1) rfl ({ orV s y 9 with frame := y.frame } : KS) rfl KS.zero ?hL ?_)
    case hL => exact KAt.setAway zr (by omega) _
    exact bodyPost_ret (v := .agg ({ orV s y 9 with frame := y.frame } : KS).cells) (resK Tryz.results142 _ _ (w.heap.size + 1 + 1) ({ orV s y 9 with frame := y.frame } : KS) rfl (KAt.over (KAt.setAway zr (by omega) _) _)) rfl ⟨by rw [E2], below_setRowK (hb.setCell (p := ⟨w.heap.size, 56, none⟩) (by simp) (.int .i64 (y.frame))) (by omega) _⟩
   ·have hm' : s.frame ≤ y.frame := by omega
    have E2 : min s.frame y.frame = s.frame := by omega
    clear hm
    go_wp2_with (first | refine wpK_load rfl _ rfl w.heap.size rfl ({ orV s y 9 with frame := s.frame } : KS) (KAt.setFr kr _) ?_ | refine wpK_store rfl _ _ rfl (w.heap.size + 1 + 1) rfl ({ orV s y 9 with frame := s.frame } : KS) rfl KS.zero ?hL ?_)
    case hL => exact KAt.setAway zr (by omega) _
    exact bodyPost_ret (v := .agg ({ orV s y 9 with frame := s.frame } : KS).cells) (resK Tryz.results142 _ _ (w.heap.size + 1 + 1) ({ orV s y 9 with frame := s.frame } : KS) rfl (KAt.over (KAt.setAway zr (by omega) _) _)) rfl ⟨by rw [E2], below_setRowK (hb.setCell (p := ⟨w.heap.size, 56, none⟩) (by simp) (.int .i64 (s.frame))) (by omega) _⟩
end Go.Proofs.YtoobileejdhikaaGreat
