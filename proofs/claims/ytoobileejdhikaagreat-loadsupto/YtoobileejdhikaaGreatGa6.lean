/-
  The program's relations: what is known where one value lies below another (places).
-/
import Derived.Test.YtoobileejdhikaaGreatGa0
import Derived.Test.YtoobileejdhikaaGreatGa3
import Derived.Test.YtoobileejdhikaaGreatGa4
import Derived.Test.YtoobileejdhikaaGreatGa5
namespace Go.Proofs.YtoobileejdhikaaGreat
set_option maxRecDepth 100000
set_option maxHeartbeats 2000000
open Go.RowKit

theorem belowI_not (a b c d g : Int) (w : World) (_ha0 : -100000 ≤ a) (_ha1 : a ≤ 100000) (_hb0 : -100000 ≤ b) (_hb1 : b ≤ 100000) (_hc0 : -100000 ≤ c) (_hc1 : c ≤ 100000) (_hd0 : -100000 ≤ d) (_hd1 : d ≤ 100000) (_hg0 : -100000 ≤ g) (_hg1 : g ≤ 100000) (h : ¬ (a ≤ d ∧ g ≤ d - a)) :
  Calls Tryz.prog 195 #[.agg #[.int .i64 a, .int .i64 b], .agg #[.int .i64 c, .int .i64 d], .int .i64 g] w fun e w' => e = .returned (.tuple #[.agg #[.int .i64 a, .int .i64 b], .agg #[.int .i64 c, .int .i64 d], .bool false]) ∧ Below w.heap.size w w' := by
 by_cases h0 : d < a
 ·exact belowI_far a b c d g w _ha0 _ha1 _hb0 _hb1 _hc0 _hc1 _hd0 _hd1 _hg0 _hg1 h0
 ·exact belowI_no a b c d g w _ha0 _ha1 _hb0 _hb1 _hc0 _hc1 _hd0 _hd1 _hg0 _hg1 (by omega) (by omega)

theorem apartByP_not (s : KS) (a b : Nat) (g : Int) (w : World) (ha : a < 9) (hb : b < 9) (hk : (s.v a).kind ≠ 1) (_g0 : 0 ≤ g) (_g1 : g ≤ 1) (_nanl : 0 ≤ (s.v a).nl) (_manl : (s.v a).nl < 18446744073709551616) (_nanm : 0 ≤ (s.v a).nm) (_manm : (s.v a).nm < 18446744073709551616) (_nbnl : 0 ≤ (s.v b).nl) (_mbnl : (s.v b).nl < 18446744073709551616) (_nbnm : 0 ≤ (s.v b).nm) (_mbnm : (s.v b).nm < 18446744073709551616) (_napl : -1000 ≤ (s.v a).pl) (_mapl : (s.v a).pl ≤ 1000) (_napm : -1000 ≤ (s.v a).pm) (_mapm : (s.v a).pm ≤ 1000) (_nbpl : -1000 ≤ (s.v b).pl) (_mbpl : (s.v b).pl ≤ 1000) (_nbpm : -1000 ≤ (s.v b).pm) (_mbpm : (s.v b).pm ≤ 1000) (_f0 : 0 ≤ s.frame) (_f1 : s.frame ≤ 64) (hy : ¬ ((s.v a).pl ≤ (s.v b).pm ∧ g ≤ (s.v b).pm - (s.v a).pl)) :
  Calls Tryz.prog 173 #[.agg s.cells, .int .u8 a, .int .u8 b, .int .i64 g] w fun e w' => e = .returned (.agg KS.zero.cells) ∧ Below w.heap.size w w' := by
 have hz := zeroK
 have i1 : (0 : Int) ≤ (a : Int) := by omega
 have i2 : (a : Int) < 9 := by omega
 have i3 : (0 : Int) ≤ (b : Int) := by omega
 have i4 : (b : Int) < 9 := by omega
 have hk' : ((s.v a).kind == 1) = false := by simpa using hk
 have HK := hideK hk
 clear hk
 have HY := hideK hy
 clear hy
 have a0 : s.cells[2 + a * 6]? = some (.int .u8 (s.v a).kind) := s.at_v a 0 ha (by omega)
 have a1 : s.cells[2 + a * 6 + 1]? = some (.int .u64 (s.v a).nl) := s.at_v a 1 ha (by omega)
 have a2 : s.cells[2 + a * 6 + 2]? = some (.int .u64 (s.v a).nm) := s.at_v a 2 ha (by omega)
 have a3 : s.cells[2 + a * 6 + 3]? = some (.int .i64 (s.v a).pl) := s.at_v a 3 ha (by omega)
 have a4 : s.cells[2 + a * 6 + 4]? = some (.int .i64 (s.v a).pm) := s.at_v a 4 ha (by omega)
 have a5 : s.cells[2 + a * 6 + 5]? = some (.bool (s.v a).e) := s.at_v a 5 ha (by omega)
 have b0 : s.cells[2 + b * 6]? = some (.int .u8 (s.v b).kind) := s.at_v b 0 hb (by omega)
 have b1 : s.cells[2 + b * 6 + 1]? = some (.int .u64 (s.v b).nl) := s.at_v b 1 hb (by omega)
 have b2 : s.cells[2 + b * 6 + 2]? = some (.int .u64 (s.v b).nm) := s.at_v b 2 hb (by omega)
 have b3 : s.cells[2 + b * 6 + 3]? = some (.int .i64 (s.v b).pl) := s.at_v b 3 hb (by omega)
 have b4 : s.cells[2 + b * 6 + 4]? = some (.int .i64 (s.v b).pm) := s.at_v b 4 hb (by omega)
 have b5 : s.cells[2 + b * 6 + 5]? = some (.bool (s.v b).e) := s.at_v b 5 hb (by omega)
 go_enter Tryz.func173, Tryz.ntmps173
 go_wp2_with fail
 go_region_held3 (fun w' => w'.cell? ⟨w.heap.size, 2 + a * 6, none⟩ = some (.int .u8 (s.v a).kind) ∧ w'.cell? ⟨w.heap.size, 2 + a * 6 + 1, none⟩ = some (.int .u64 (s.v a).nl) ∧ w'.cell? ⟨w.heap.size, 2 + a * 6 + 2, none⟩ = some (.int .u64 (s.v a).nm) ∧ w'.cell? ⟨w.heap.size, 2 + a * 6 + 3, none⟩ = some (.int .i64 (s.v a).pl) ∧ w'.cell? ⟨w.heap.size, 2 + a * 6 + 4, none⟩ = some (.int .i64 (s.v a).pm) ∧ w'.cell? ⟨w.heap.size, 2 + a * 6 + 5, none⟩ = some (.bool (s.v a).e) ∧ w'.cell? ⟨w.heap.size, 2 + b * 6, none⟩ = some (.int .u8 (s.v b).kind) ∧ w'.cell? ⟨w.heap.size, 2 + b * 6 + 1, none⟩ = some (.int .u64 (s.v b).nl) ∧ w'.cell? ⟨w.heap.size, 2 + b * 6 + 2, none⟩ = some (.int .u64 (s.v b).nm) ∧ w'.cell? ⟨w.heap.size, 2 + b * 6 + 3, none⟩ = some (.int .i64 (s.v b).pl) ∧ w'.cell? ⟨w.heap.size, 2 + b * 6 + 4, none⟩ = some (.int .i64 (s.v b).pm) ∧ w'.cell? ⟨w.heap.size, 2 + b * 6 + 5, none⟩ = some (.bool (s.v b).e)) (go_keep) (fail)
 ·go_wp2_with (first | (refine wpList_build_as rfl 117 _ rfl KS.zero.cells builtZ ?_) | (go_at_call 195; refine (belowI_not (s.v a).pl (s.v a).pm (s.v b).pl (s.v b).pm g _ (by omega) (by omega) (by omega) (by omega) (by omega) (by omega) (by omega) (by omega) (by omega) (by omega) HY.out).mono ?_; rintro e w1 ⟨rfl, hb1⟩; have k1 : KAt w1 w.heap.size s := KAt.keep (by with_reducible (repeat (first | exact KAt.new w s | refine KAt.alloc ?_ _ | refine KAt.drew ?_))) hb1; have kz : KAt w1 (w.heap.size + 1) KS.zero := KAt.keep (by (repeat (first | exact KAt.top (by simp) | with_reducible refine KAt.alloc ?_ _ | with_reducible refine KAt.drew ?_))) hb1; have xa0 := cellKeep hb1 (g := w.heap.size + 1 + 1) (j := 0) (v := .int .u8 (s.v a).kind) (by simp [go_sem]); have xa1 := cellKeep hb1 (g := w.heap.size + 1 + 1) (j := 1) (v := .int .u64 (s.v a).nl) (by simp [go_sem]); have xa2 := cellKeep hb1 (g := w.heap.size + 1 + 1) (j := 2) (v := .int .u64 (s.v a).nm) (by simp [go_sem]); have xa3 := cellKeep hb1 (g := w.heap.size + 1 + 1) (j := 3) (v := .int .i64 (s.v a).pl) (by simp [go_sem]); have xa4 := cellKeep hb1 (g := w.heap.size + 1 + 1) (j := 4) (v := .int .i64 (s.v a).pm) (by simp [go_sem]); have xa5 := cellKeep hb1 (g := w.heap.size + 1 + 1) (j := 5) (v := .bool (s.v a).e) (by simp [go_sem]); have za := frozenKeep hb1 (g := w.heap.size + 1 + 1) (by simp) (fun j => by simp [go_sem]); have xb0 := cellKeep hb1 (g := w.heap.size + 1 + 1 + 1) (j := 0) (v := .int .u8 (s.v b).kind) (by simp [go_sem]); have xb1 := cellKeep hb1 (g := w.heap.size + 1 + 1 + 1) (j := 1) (v := .int .u64 (s.v b).nl) (by simp [go_sem]); have xb2 := cellKeep hb1 (g := w.heap.size + 1 + 1 + 1) (j := 2) (v := .int .u64 (s.v b).nm) (by simp [go_sem]); have xb3 := cellKeep hb1 (g := w.heap.size + 1 + 1 + 1) (j := 3) (v := .int .i64 (s.v b).pl) (by simp [go_sem]); have xb4 := cellKeep hb1 (g := w.heap.size + 1 + 1 + 1) (j := 4) (v := .int .i64 (s.v b).pm) (by simp [go_sem]); have xb5 := cellKeep hb1 (g := w.heap.size + 1 + 1 + 1) (j := 5) (v := .bool (s.v b).e) (by simp [go_sem]); have zb := frozenKeep hb1 (g := w.heap.size + 1 + 1 + 1) (by simp) (fun j => by simp [go_sem]); have f1 := k1.frame; have f2 := k1.fz 56; have hB1 : Below w.heap.size w w1 := ((bel4 w _ _ _ _).drew).trans (hb1.mono (by show w.heap.size ≤ ((((w.alloc _).alloc _).alloc _).alloc _).heap.size; simp; omega))) | (refine wpK_store rfl _ _ rfl (w.heap.size + 1) rfl KS.zero rfl KS.zero ?hL ?_))
  case hL => exact ((((kz.setAway (by omega) _).setAway (by omega) _).setAway (by omega) _).setAway (by omega) _)
  exact bodyPost_ret (v := .agg KS.zero.cells) (resK Tryz.results173 _ _ (w.heap.size + 1) KS.zero rfl (KAt.over (s := KS.zero) ((((kz.setAway (by omega) _).setAway (by omega) _).setAway (by omega) _).setAway (by omega) _) _)) rfl ⟨rfl, below_setRowK ((((hB1.setCell (by simp; try omega) _).setCell (by simp; try omega) _).setCell (by simp; try omega) _).setCell (by simp; try omega) _) (by omega) _⟩
 ·go_wp2_with (first | (refine wpList_build_as rfl 117 _ rfl KS.zero.cells builtZ ?_) | (go_at_call 195; refine (belowI_not (s.v a).pl (s.v a).pm (s.v b).pl (s.v b).pm g _ (by omega) (by omega) (by omega) (by omega) (by omega) (by omega) (by omega) (by omega) (by omega) (by omega) HY.out).mono ?_; rintro e w1 ⟨rfl, hb1⟩; have k1 : KAt w1 w.heap.size s := KAt.keep (by with_reducible (repeat (first | exact KAt.new w s | refine KAt.alloc ?_ _ | refine KAt.drew ?_))) hb1; have kz : KAt w1 (w.heap.size + 1) KS.zero := KAt.keep (by (repeat (first | exact KAt.top (by simp) | with_reducible refine KAt.alloc ?_ _ | with_reducible refine KAt.drew ?_))) hb1; have xa0 := cellKeep hb1 (g := w.heap.size + 1 + 1 + 1) (j := 0) (v := .int .u8 (s.v a).kind) (by simp [go_sem]); have xa1 := cellKeep hb1 (g := w.heap.size + 1 + 1 + 1) (j := 1) (v := .int .u64 (s.v a).nl) (by simp [go_sem]); have xa2 := cellKeep hb1 (g := w.heap.size + 1 + 1 + 1) (j := 2) (v := .int .u64 (s.v a).nm) (by simp [go_sem]); have xa3 := cellKeep hb1 (g := w.heap.size + 1 + 1 + 1) (j := 3) (v := .int .i64 (s.v a).pl) (by simp [go_sem]); have xa4 := cellKeep hb1 (g := w.heap.size + 1 + 1 + 1) (j := 4) (v := .int .i64 (s.v a).pm) (by simp [go_sem]); have xa5 := cellKeep hb1 (g := w.heap.size + 1 + 1 + 1) (j := 5) (v := .bool (s.v a).e) (by simp [go_sem]); have za := frozenKeep hb1 (g := w.heap.size + 1 + 1 + 1) (by simp) (fun j => by simp [go_sem]); have xb0 := cellKeep hb1 (g := w.heap.size + 1 + 1) (j := 0) (v := .int .u8 (s.v b).kind) (by simp [go_sem]); have xb1 := cellKeep hb1 (g := w.heap.size + 1 + 1) (j := 1) (v := .int .u64 (s.v b).nl) (by simp [go_sem]); have xb2 := cellKeep hb1 (g := w.heap.size + 1 + 1) (j := 2) (v := .int .u64 (s.v b).nm) (by simp [go_sem]); have xb3 := cellKeep hb1 (g := w.heap.size + 1 + 1) (j := 3) (v := .int .i64 (s.v b).pl) (by simp [go_sem]); have xb4 := cellKeep hb1 (g := w.heap.size + 1 + 1) (j := 4) (v := .int .i64 (s.v b).pm) (by simp [go_sem]); have xb5 := cellKeep hb1 (g := w.heap.size + 1 + 1) (j := 5) (v := .bool (s.v b).e) (by simp [go_sem]); have zb := frozenKeep hb1 (g := w.heap.size + 1 + 1) (by simp) (fun j => by simp [go_sem]); have f1 := k1.frame; have f2 := k1.fz 56; have hB1 : Below w.heap.size w w1 := ((bel4 w _ _ _ _).drew).trans (hb1.mono (by show w.heap.size ≤ ((((w.alloc _).alloc _).alloc _).alloc _).heap.size; simp; omega))) | (refine wpK_store rfl _ _ rfl (w.heap.size + 1) rfl KS.zero rfl KS.zero ?hL ?_))
  case hL => exact ((((kz.setAway (by omega) _).setAway (by omega) _).setAway (by omega) _).setAway (by omega) _)
  exact bodyPost_ret (v := .agg KS.zero.cells) (resK Tryz.results173 _ _ (w.heap.size + 1) KS.zero rfl (KAt.over (s := KS.zero) ((((kz.setAway (by omega) _).setAway (by omega) _).setAway (by omega) _).setAway (by omega) _) _)) rfl ⟨rfl, below_setRowK ((((hB1.setCell (by simp; try omega) _).setCell (by simp; try omega) _).setCell (by simp; try omega) _).setCell (by simp; try omega) _) (by omega) _⟩

theorem apartByP_yes (s : KS) (a b : Nat) (g : Int) (w : World) (ha : a < 9) (hb : b < 9) (hk : (s.v a).kind ≠ 1) (_g0 : 0 ≤ g) (_g1 : g ≤ 1) (_nanl : 0 ≤ (s.v a).nl) (_manl : (s.v a).nl < 18446744073709551616) (_nanm : 0 ≤ (s.v a).nm) (_manm : (s.v a).nm < 18446744073709551616) (_nbnl : 0 ≤ (s.v b).nl) (_mbnl : (s.v b).nl < 18446744073709551616) (_nbnm : 0 ≤ (s.v b).nm) (_mbnm : (s.v b).nm < 18446744073709551616) (_napl : -1000 ≤ (s.v a).pl) (_mapl : (s.v a).pl ≤ 1000) (_napm : -1000 ≤ (s.v a).pm) (_mapm : (s.v a).pm ≤ 1000) (_nbpl : -1000 ≤ (s.v b).pl) (_mbpl : (s.v b).pl ≤ 1000) (_nbpm : -1000 ≤ (s.v b).pm) (_mbpm : (s.v b).pm ≤ 1000) (_f0 : 0 ≤ s.frame) (_f1 : s.frame ≤ 64) (_y1 : (s.v a).pl ≤ (s.v b).pm) (_y2 : g ≤ (s.v b).pm - (s.v a).pl) (he : (s.v b).e = false) :
  Calls Tryz.prog 173 #[.agg s.cells, .int .u8 a, .int .u8 b, .int .i64 g] w fun e w' => e = .returned (.agg ((s.set a ({ s.v a with pm := min (s.v a).pm ((s.v b).pm - g) } : KV)).set b ({ s.v b with pl := max (s.v b).pl ((s.v a).pl + g), e := false } : KV)).cells) ∧ Below w.heap.size w w' := by
 have hz := zeroK
 have i1 : (0 : Int) ≤ (a : Int) := by omega
 have i2 : (a : Int) < 9 := by omega
 have i3 : (0 : Int) ≤ (b : Int) := by omega
 have i4 : (b : Int) < 9 := by omega
 have hk' : ((s.v a).kind == 1) = false := by simpa using hk
 have HK := hideK hk
 clear hk
 have he' : (s.v b).e = false := he
 clear he
 have a0 : s.cells[2 + a * 6]? = some (.int .u8 (s.v a).kind) := s.at_v a 0 ha (by omega)
 have a1 : s.cells[2 + a * 6 + 1]? = some (.int .u64 (s.v a).nl) := s.at_v a 1 ha (by omega)
 have a2 : s.cells[2 + a * 6 + 2]? = some (.int .u64 (s.v a).nm) := s.at_v a 2 ha (by omega)
 have a3 : s.cells[2 + a * 6 + 3]? = some (.int .i64 (s.v a).pl) := s.at_v a 3 ha (by omega)
 have a4 : s.cells[2 + a * 6 + 4]? = some (.int .i64 (s.v a).pm) := s.at_v a 4 ha (by omega)
 have a5 : s.cells[2 + a * 6 + 5]? = some (.bool (s.v a).e) := s.at_v a 5 ha (by omega)
 have b0 : s.cells[2 + b * 6]? = some (.int .u8 (s.v b).kind) := s.at_v b 0 hb (by omega)
 have b1 : s.cells[2 + b * 6 + 1]? = some (.int .u64 (s.v b).nl) := s.at_v b 1 hb (by omega)
 have b2 : s.cells[2 + b * 6 + 2]? = some (.int .u64 (s.v b).nm) := s.at_v b 2 hb (by omega)
 have b3 : s.cells[2 + b * 6 + 3]? = some (.int .i64 (s.v b).pl) := s.at_v b 3 hb (by omega)
 have b4 : s.cells[2 + b * 6 + 4]? = some (.int .i64 (s.v b).pm) := s.at_v b 4 hb (by omega)
 have b5 : s.cells[2 + b * 6 + 5]? = some (.bool (s.v b).e) := s.at_v b 5 hb (by omega)
 go_enter Tryz.func173, Tryz.ntmps173
 go_wp2_with fail
 go_region_held3 (fun w' => w'.cell? ⟨w.heap.size, 2 + a * 6, none⟩ = some (.int .u8 (s.v a).kind) ∧ w'.cell? ⟨w.heap.size, 2 + a * 6 + 1, none⟩ = some (.int .u64 (s.v a).nl) ∧ w'.cell? ⟨w.heap.size, 2 + a * 6 + 2, none⟩ = some (.int .u64 (s.v a).nm) ∧ w'.cell? ⟨w.heap.size, 2 + a * 6 + 3, none⟩ = some (.int .i64 (s.v a).pl) ∧ w'.cell? ⟨w.heap.size, 2 + a * 6 + 4, none⟩ = some (.int .i64 (s.v a).pm) ∧ w'.cell? ⟨w.heap.size, 2 + a * 6 + 5, none⟩ = some (.bool (s.v a).e) ∧ w'.cell? ⟨w.heap.size, 2 + b * 6, none⟩ = some (.int .u8 (s.v b).kind) ∧ w'.cell? ⟨w.heap.size, 2 + b * 6 + 1, none⟩ = some (.int .u64 (s.v b).nl) ∧ w'.cell? ⟨w.heap.size, 2 + b * 6 + 2, none⟩ = some (.int .u64 (s.v b).nm) ∧ w'.cell? ⟨w.heap.size, 2 + b * 6 + 3, none⟩ = some (.int .i64 (s.v b).pl) ∧ w'.cell? ⟨w.heap.size, 2 + b * 6 + 4, none⟩ = some (.int .i64 (s.v b).pm) ∧ w'.cell? ⟨w.heap.size, 2 + b * 6 + 5, none⟩ = some (.bool false)) (go_keep) (fail)
 ·go_wp2_with (go_at_call 195; refine (belowI_yes (s.v a).pl (s.v a).pm (s.v b).pl (s.v b).pm g _ (by omega) (by omega) (by omega) (by omega) (by omega) (by omega) (by omega) (by omega) (by omega) (by omega) (by omega) (by omega) (by omega)).mono ?_; rintro e w1 ⟨rfl, hb1⟩; have k1 : KAt w1 w.heap.size s := KAt.keep (by with_reducible (repeat (first | exact KAt.new w s | refine KAt.alloc ?_ _ | refine KAt.drew ?_))) hb1; have kz : KAt w1 (w.heap.size + 1) KS.zero := KAt.keep (by (repeat (first | exact KAt.top (by simp) | with_reducible refine KAt.alloc ?_ _ | with_reducible refine KAt.drew ?_))) hb1; have xa0 := cellKeep hb1 (g := w.heap.size + 1 + 1) (j := 0) (v := .int .u8 (s.v a).kind) (by simp [go_sem]); have xa1 := cellKeep hb1 (g := w.heap.size + 1 + 1) (j := 1) (v := .int .u64 (s.v a).nl) (by simp [go_sem]); have xa2 := cellKeep hb1 (g := w.heap.size + 1 + 1) (j := 2) (v := .int .u64 (s.v a).nm) (by simp [go_sem]); have xa3 := cellKeep hb1 (g := w.heap.size + 1 + 1) (j := 3) (v := .int .i64 (s.v a).pl) (by simp [go_sem]); have xa4 := cellKeep hb1 (g := w.heap.size + 1 + 1) (j := 4) (v := .int .i64 (s.v a).pm) (by simp [go_sem]); have xa5 := cellKeep hb1 (g := w.heap.size + 1 + 1) (j := 5) (v := .bool (s.v a).e) (by simp [go_sem]); have za := frozenKeep hb1 (g := w.heap.size + 1 + 1) (by simp) (fun j => by simp [go_sem]); have xb0 := cellKeep hb1 (g := w.heap.size + 1 + 1 + 1) (j := 0) (v := .int .u8 (s.v b).kind) (by simp [go_sem]); have xb1 := cellKeep hb1 (g := w.heap.size + 1 + 1 + 1) (j := 1) (v := .int .u64 (s.v b).nl) (by simp [go_sem]); have xb2 := cellKeep hb1 (g := w.heap.size + 1 + 1 + 1) (j := 2) (v := .int .u64 (s.v b).nm) (by simp [go_sem]); have xb3 := cellKeep hb1 (g := w.heap.size + 1 + 1 + 1) (j := 3) (v := .int .i64 (s.v b).pl) (by simp [go_sem]); have xb4 := cellKeep hb1 (g := w.heap.size + 1 + 1 + 1) (j := 4) (v := .int .i64 (s.v b).pm) (by simp [go_sem]); have xb5 := cellKeep hb1 (g := w.heap.size + 1 + 1 + 1) (j := 5) (v := .bool false) (by simp [go_sem]); have zb := frozenKeep hb1 (g := w.heap.size + 1 + 1 + 1) (by simp) (fun j => by simp [go_sem]); have f1 := k1.frame; have f2 := k1.fz 56; have hB1 : Below w.heap.size w w1 := ((bel4 w _ _ _ _).drew).trans (hb1.mono (by show w.heap.size ≤ ((((w.alloc _).alloc _).alloc _).alloc _).heap.size; simp; omega)))
  refine wp_region_noPanic ?_
  refine wp_region_held_drew (S := fun w' => KAt w' (w.heap.size) s ∧ w'.cell? ⟨w.heap.size + 1 + 1, 0, none⟩ = some (.int .u8 (s.v a).kind) ∧ w'.cell? ⟨w.heap.size + 1 + 1, 1, none⟩ = some (.int .u64 (s.v a).nl) ∧ w'.cell? ⟨w.heap.size + 1 + 1, 2, none⟩ = some (.int .u64 (s.v a).nm) ∧ w'.cell? ⟨w.heap.size + 1 + 1, 3, none⟩ = some (.int .i64 (s.v a).pl) ∧ w'.cell? ⟨w.heap.size + 1 + 1, 4, none⟩ = some (.int .i64 (min (s.v a).pm ((s.v b).pm - g))) ∧ w'.cell? ⟨w.heap.size + 1 + 1, 5, none⟩ = some (.bool (s.v a).e) ∧ w'.cell? ⟨w.heap.size + 1 + 1 + 1, 0, none⟩ = some (.int .u8 (s.v b).kind) ∧ w'.cell? ⟨w.heap.size + 1 + 1 + 1, 1, none⟩ = some (.int .u64 (s.v b).nl) ∧ w'.cell? ⟨w.heap.size + 1 + 1 + 1, 2, none⟩ = some (.int .u64 (s.v b).nm) ∧ w'.cell? ⟨w.heap.size + 1 + 1 + 1, 3, none⟩ = some (.int .i64 (max (s.v b).pl ((s.v a).pl + g))) ∧ w'.cell? ⟨w.heap.size + 1 + 1 + 1, 4, none⟩ = some (.int .i64 (s.v b).pm) ∧ w'.cell? ⟨w.heap.size + 1 + 1 + 1, 5, none⟩ = some (.bool false) ∧ (∃ z, KAt w' (w.heap.size + 1) z) ∧ Below w.heap.size w w') (by kernel_rfl) ?hS0 (fun hHeld => ?_)
  case hS0 => exact ⟨by (repeat (first | with_reducible exact k1 | with_reducible refine KAt.setAway ?_ (by omega) _ | with_reducible refine KAt.drew ?_ | refine KAt.setFr ?_ _)), by (simp [go_sem, *]), by (simp [go_sem, *]), by (simp [go_sem, *]), by (simp [go_sem, *]), by (simp [go_sem, *]), by (simp [go_sem, *]), by (simp [go_sem, *]), by (simp [go_sem, *]), by (simp [go_sem, *]), by (simp [go_sem, *]), by (simp [go_sem, *]), by (simp [go_sem, *]), ⟨KS.zero, by (repeat (first | with_reducible exact kz | with_reducible refine KAt.setAway ?_ (by omega) _ | with_reducible refine KAt.drew ?_))⟩, by (repeat (first | with_reducible exact hB1 | with_reducible refine Below.drew ?_ | refine Below.setCell ?_ (by simp; try omega) _))⟩
  refine tkY 0 rfl (yieldsK (by rfl) _ rfl (w.heap.size) rfl s (fun w h => h.1)) ?_
  try simp only [Act.put]
  refine tkH 1 ?_
  try simp only [Act.put]
  refine tkH 2 ?_
  try simp only [Act.put]
  refine tkH 4 ?_
  try simp only [Act.put]
  refine tkH 5 ?_
  try simp only [Act.put]
  refine rdH 3 (fun K hK => ?_)
  go_simp
  refine (set_any s a ({ s.v a with pm := min (s.v a).pm ((s.v b).pm - g) } : KV) _ ha).mono ?_
  rintro e W3 ⟨rfl, hbW⟩
  go_wp2_with fail
  refine hK.out _ _ ?_ (fun hHeld => ?_)
  ·exact ⟨hHeld.1.keep hbW, cellKeep hbW hHeld.2.1, cellKeep hbW hHeld.2.2.1, cellKeep hbW hHeld.2.2.2.1, cellKeep hbW hHeld.2.2.2.2.1, cellKeep hbW hHeld.2.2.2.2.2.1, cellKeep hbW hHeld.2.2.2.2.2.2.1, cellKeep hbW hHeld.2.2.2.2.2.2.2.1, cellKeep hbW hHeld.2.2.2.2.2.2.2.2.1, cellKeep hbW hHeld.2.2.2.2.2.2.2.2.2.1, cellKeep hbW hHeld.2.2.2.2.2.2.2.2.2.2.1, cellKeep hbW hHeld.2.2.2.2.2.2.2.2.2.2.2.1, cellKeep hbW hHeld.2.2.2.2.2.2.2.2.2.2.2.2.1, ⟨_, (hHeld.2.2.2.2.2.2.2.2.2.2.2.2.2.1).choose_spec.keep hbW⟩, (hHeld.2.2.2.2.2.2.2.2.2.2.2.2.2.2).trans (hbW.mono (hHeld.2.2.2.2.2.2.2.2.2.2.2.2.2.2).size)⟩
  clear hK K
  try simp only [Act.put]
  refine rdH 6 (fun K hK => ?_)
  go_simp
  refine (set_any (s.set a ({ s.v a with pm := min (s.v a).pm ((s.v b).pm - g) } : KV)) b ({ s.v b with pl := max (s.v b).pl ((s.v a).pl + g), e := false } : KV) _ hb).mono ?_
  rintro e W6 ⟨rfl, hbW⟩
  go_wp2_with fail
  refine hK.out _ _ ?_ (fun hHeld => ?_)
  ·exact ⟨hHeld.1.keep hbW, cellKeep hbW hHeld.2.1, cellKeep hbW hHeld.2.2.1, cellKeep hbW hHeld.2.2.2.1, cellKeep hbW hHeld.2.2.2.2.1, cellKeep hbW hHeld.2.2.2.2.2.1, cellKeep hbW hHeld.2.2.2.2.2.2.1, cellKeep hbW hHeld.2.2.2.2.2.2.2.1, cellKeep hbW hHeld.2.2.2.2.2.2.2.2.1, cellKeep hbW hHeld.2.2.2.2.2.2.2.2.2.1, cellKeep hbW hHeld.2.2.2.2.2.2.2.2.2.2.1, cellKeep hbW hHeld.2.2.2.2.2.2.2.2.2.2.2.1, cellKeep hbW hHeld.2.2.2.2.2.2.2.2.2.2.2.2.1, ⟨_, (hHeld.2.2.2.2.2.2.2.2.2.2.2.2.2.1).choose_spec.keep hbW⟩, (hHeld.2.2.2.2.2.2.2.2.2.2.2.2.2.2).trans (hbW.mono (hHeld.2.2.2.2.2.2.2.2.2.2.2.2.2.2).size)⟩
  clear hK K
  try simp only [Act.put]
  refine rdH 7 (fun K hK => ?_)
  refine wpO_storeK _ _ rfl (w.heap.size + 1) rfl ((s.set a ({ s.v a with pm := min (s.v a).pm ((s.v b).pm - g) } : KV)).set b ({ s.v b with pl := max (s.v b).pl ((s.v a).pl + g), e := false } : KV)) rfl _ (hHeld.2.2.2.2.2.2.2.2.2.2.2.2.2.1).choose_spec ?_
  have kEnd := (hHeld.2.2.2.2.2.2.2.2.2.2.2.2.2.1).choose_spec.over ((s.set a ({ s.v a with pm := min (s.v a).pm ((s.v b).pm - g) } : KV)).set b ({ s.v b with pl := max (s.v b).pl ((s.v a).pl + g), e := false } : KV))
  have bEnd := below_setRowK (hHeld.2.2.2.2.2.2.2.2.2.2.2.2.2.2) (g := w.heap.size + 1) (by omega) ((s.set a ({ s.v a with pm := min (s.v a).pm ((s.v b).pm - g) } : KV)).set b ({ s.v b with pl := max (s.v b).pl ((s.v a).pl + g), e := false } : KV)).cells
  refine hK.out _ _ ?_ (fun hHeld => ?_)
  ·exact ⟨hHeld.1.rowAway (by omega) _, cellRow (by omega) hHeld.2.1, cellRow (by omega) hHeld.2.2.1, cellRow (by omega) hHeld.2.2.2.1, cellRow (by omega) hHeld.2.2.2.2.1, cellRow (by omega) hHeld.2.2.2.2.2.1, cellRow (by omega) hHeld.2.2.2.2.2.2.1, cellRow (by omega) hHeld.2.2.2.2.2.2.2.1, cellRow (by omega) hHeld.2.2.2.2.2.2.2.2.1, cellRow (by omega) hHeld.2.2.2.2.2.2.2.2.2.1, cellRow (by omega) hHeld.2.2.2.2.2.2.2.2.2.2.1, cellRow (by omega) hHeld.2.2.2.2.2.2.2.2.2.2.2.1, cellRow (by omega) hHeld.2.2.2.2.2.2.2.2.2.2.2.2.1, ⟨_, (hHeld.2.2.2.2.2.2.2.2.2.2.2.2.2.1).choose_spec.over _⟩, below_setRowK (hHeld.2.2.2.2.2.2.2.2.2.2.2.2.2.2) (by omega) _⟩
  clear hK K
  try simp only [Act.put]
  refine wpAnyH_done (by kernel_rfl) ?_ _
  refine NoPanic.normal ?_
  go_wp2_with fail
  exact bodyPost_ret (v := .agg ((s.set a ({ s.v a with pm := min (s.v a).pm ((s.v b).pm - g) } : KV)).set b ({ s.v b with pl := max (s.v b).pl ((s.v a).pl + g), e := false } : KV)).cells) (resK Tryz.results173 _ _ (w.heap.size + 1) ((s.set a ({ s.v a with pm := min (s.v a).pm ((s.v b).pm - g) } : KV)).set b ({ s.v b with pl := max (s.v b).pl ((s.v a).pl + g), e := false } : KV)) rfl kEnd) rfl ⟨rfl, bEnd⟩
 ·go_wp2_with (go_at_call 195; refine (belowI_yes (s.v a).pl (s.v a).pm (s.v b).pl (s.v b).pm g _ (by omega) (by omega) (by omega) (by omega) (by omega) (by omega) (by omega) (by omega) (by omega) (by omega) (by omega) (by omega) (by omega)).mono ?_; rintro e w1 ⟨rfl, hb1⟩; have k1 : KAt w1 w.heap.size s := KAt.keep (by with_reducible (repeat (first | exact KAt.new w s | refine KAt.alloc ?_ _ | refine KAt.drew ?_))) hb1; have kz : KAt w1 (w.heap.size + 1) KS.zero := KAt.keep (by (repeat (first | exact KAt.top (by simp) | with_reducible refine KAt.alloc ?_ _ | with_reducible refine KAt.drew ?_))) hb1; have xa0 := cellKeep hb1 (g := w.heap.size + 1 + 1 + 1) (j := 0) (v := .int .u8 (s.v a).kind) (by simp [go_sem]); have xa1 := cellKeep hb1 (g := w.heap.size + 1 + 1 + 1) (j := 1) (v := .int .u64 (s.v a).nl) (by simp [go_sem]); have xa2 := cellKeep hb1 (g := w.heap.size + 1 + 1 + 1) (j := 2) (v := .int .u64 (s.v a).nm) (by simp [go_sem]); have xa3 := cellKeep hb1 (g := w.heap.size + 1 + 1 + 1) (j := 3) (v := .int .i64 (s.v a).pl) (by simp [go_sem]); have xa4 := cellKeep hb1 (g := w.heap.size + 1 + 1 + 1) (j := 4) (v := .int .i64 (s.v a).pm) (by simp [go_sem]); have xa5 := cellKeep hb1 (g := w.heap.size + 1 + 1 + 1) (j := 5) (v := .bool (s.v a).e) (by simp [go_sem]); have za := frozenKeep hb1 (g := w.heap.size + 1 + 1 + 1) (by simp) (fun j => by simp [go_sem]); have xb0 := cellKeep hb1 (g := w.heap.size + 1 + 1) (j := 0) (v := .int .u8 (s.v b).kind) (by simp [go_sem]); have xb1 := cellKeep hb1 (g := w.heap.size + 1 + 1) (j := 1) (v := .int .u64 (s.v b).nl) (by simp [go_sem]); have xb2 := cellKeep hb1 (g := w.heap.size + 1 + 1) (j := 2) (v := .int .u64 (s.v b).nm) (by simp [go_sem]); have xb3 := cellKeep hb1 (g := w.heap.size + 1 + 1) (j := 3) (v := .int .i64 (s.v b).pl) (by simp [go_sem]); have xb4 := cellKeep hb1 (g := w.heap.size + 1 + 1) (j := 4) (v := .int .i64 (s.v b).pm) (by simp [go_sem]); have xb5 := cellKeep hb1 (g := w.heap.size + 1 + 1) (j := 5) (v := .bool false) (by simp [go_sem]); have zb := frozenKeep hb1 (g := w.heap.size + 1 + 1) (by simp) (fun j => by simp [go_sem]); have f1 := k1.frame; have f2 := k1.fz 56; have hB1 : Below w.heap.size w w1 := ((bel4 w _ _ _ _).drew).trans (hb1.mono (by show w.heap.size ≤ ((((w.alloc _).alloc _).alloc _).alloc _).heap.size; simp; omega)))
  refine wp_region_noPanic ?_
  refine wp_region_held_drew (S := fun w' => KAt w' (w.heap.size) s ∧ w'.cell? ⟨w.heap.size + 1 + 1 + 1, 0, none⟩ = some (.int .u8 (s.v a).kind) ∧ w'.cell? ⟨w.heap.size + 1 + 1 + 1, 1, none⟩ = some (.int .u64 (s.v a).nl) ∧ w'.cell? ⟨w.heap.size + 1 + 1 + 1, 2, none⟩ = some (.int .u64 (s.v a).nm) ∧ w'.cell? ⟨w.heap.size + 1 + 1 + 1, 3, none⟩ = some (.int .i64 (s.v a).pl) ∧ w'.cell? ⟨w.heap.size + 1 + 1 + 1, 4, none⟩ = some (.int .i64 (min (s.v a).pm ((s.v b).pm - g))) ∧ w'.cell? ⟨w.heap.size + 1 + 1 + 1, 5, none⟩ = some (.bool (s.v a).e) ∧ w'.cell? ⟨w.heap.size + 1 + 1, 0, none⟩ = some (.int .u8 (s.v b).kind) ∧ w'.cell? ⟨w.heap.size + 1 + 1, 1, none⟩ = some (.int .u64 (s.v b).nl) ∧ w'.cell? ⟨w.heap.size + 1 + 1, 2, none⟩ = some (.int .u64 (s.v b).nm) ∧ w'.cell? ⟨w.heap.size + 1 + 1, 3, none⟩ = some (.int .i64 (max (s.v b).pl ((s.v a).pl + g))) ∧ w'.cell? ⟨w.heap.size + 1 + 1, 4, none⟩ = some (.int .i64 (s.v b).pm) ∧ w'.cell? ⟨w.heap.size + 1 + 1, 5, none⟩ = some (.bool false) ∧ (∃ z, KAt w' (w.heap.size + 1) z) ∧ Below w.heap.size w w') (by kernel_rfl) ?hS0 (fun hHeld => ?_)
  case hS0 => exact ⟨by (repeat (first | with_reducible exact k1 | with_reducible refine KAt.setAway ?_ (by omega) _ | with_reducible refine KAt.drew ?_ | refine KAt.setFr ?_ _)), by (simp [go_sem, *]), by (simp [go_sem, *]), by (simp [go_sem, *]), by (simp [go_sem, *]), by (simp [go_sem, *]), by (simp [go_sem, *]), by (simp [go_sem, *]), by (simp [go_sem, *]), by (simp [go_sem, *]), by (simp [go_sem, *]), by (simp [go_sem, *]), by (simp [go_sem, *]), ⟨KS.zero, by (repeat (first | with_reducible exact kz | with_reducible refine KAt.setAway ?_ (by omega) _ | with_reducible refine KAt.drew ?_))⟩, by (repeat (first | with_reducible exact hB1 | with_reducible refine Below.drew ?_ | refine Below.setCell ?_ (by simp; try omega) _))⟩
  refine tkY 0 rfl (yieldsK (by rfl) _ rfl (w.heap.size) rfl s (fun w h => h.1)) ?_
  try simp only [Act.put]
  refine tkH 1 ?_
  try simp only [Act.put]
  refine tkH 2 ?_
  try simp only [Act.put]
  refine tkH 4 ?_
  try simp only [Act.put]
  refine tkH 5 ?_
  try simp only [Act.put]
  refine rdH 3 (fun K hK => ?_)
  go_simp
  refine (set_any s a ({ s.v a with pm := min (s.v a).pm ((s.v b).pm - g) } : KV) _ ha).mono ?_
  rintro e W3 ⟨rfl, hbW⟩
  go_wp2_with fail
  refine hK.out _ _ ?_ (fun hHeld => ?_)
  ·exact ⟨hHeld.1.keep hbW, cellKeep hbW hHeld.2.1, cellKeep hbW hHeld.2.2.1, cellKeep hbW hHeld.2.2.2.1, cellKeep hbW hHeld.2.2.2.2.1, cellKeep hbW hHeld.2.2.2.2.2.1, cellKeep hbW hHeld.2.2.2.2.2.2.1, cellKeep hbW hHeld.2.2.2.2.2.2.2.1, cellKeep hbW hHeld.2.2.2.2.2.2.2.2.1, cellKeep hbW hHeld.2.2.2.2.2.2.2.2.2.1, cellKeep hbW hHeld.2.2.2.2.2.2.2.2.2.2.1, cellKeep hbW hHeld.2.2.2.2.2.2.2.2.2.2.2.1, cellKeep hbW hHeld.2.2.2.2.2.2.2.2.2.2.2.2.1, ⟨_, (hHeld.2.2.2.2.2.2.2.2.2.2.2.2.2.1).choose_spec.keep hbW⟩, (hHeld.2.2.2.2.2.2.2.2.2.2.2.2.2.2).trans (hbW.mono (hHeld.2.2.2.2.2.2.2.2.2.2.2.2.2.2).size)⟩
  clear hK K
  try simp only [Act.put]
  refine rdH 6 (fun K hK => ?_)
  go_simp
  refine (set_any (s.set a ({ s.v a with pm := min (s.v a).pm ((s.v b).pm - g) } : KV)) b ({ s.v b with pl := max (s.v b).pl ((s.v a).pl + g), e := false } : KV) _ hb).mono ?_
  rintro e W6 ⟨rfl, hbW⟩
  go_wp2_with fail
  refine hK.out _ _ ?_ (fun hHeld => ?_)
  ·exact ⟨hHeld.1.keep hbW, cellKeep hbW hHeld.2.1, cellKeep hbW hHeld.2.2.1, cellKeep hbW hHeld.2.2.2.1, cellKeep hbW hHeld.2.2.2.2.1, cellKeep hbW hHeld.2.2.2.2.2.1, cellKeep hbW hHeld.2.2.2.2.2.2.1, cellKeep hbW hHeld.2.2.2.2.2.2.2.1, cellKeep hbW hHeld.2.2.2.2.2.2.2.2.1, cellKeep hbW hHeld.2.2.2.2.2.2.2.2.2.1, cellKeep hbW hHeld.2.2.2.2.2.2.2.2.2.2.1, cellKeep hbW hHeld.2.2.2.2.2.2.2.2.2.2.2.1, cellKeep hbW hHeld.2.2.2.2.2.2.2.2.2.2.2.2.1, ⟨_, (hHeld.2.2.2.2.2.2.2.2.2.2.2.2.2.1).choose_spec.keep hbW⟩, (hHeld.2.2.2.2.2.2.2.2.2.2.2.2.2.2).trans (hbW.mono (hHeld.2.2.2.2.2.2.2.2.2.2.2.2.2.2).size)⟩
  clear hK K
  try simp only [Act.put]
  refine rdH 7 (fun K hK => ?_)
  refine wpO_storeK _ _ rfl (w.heap.size + 1) rfl ((s.set a ({ s.v a with pm := min (s.v a).pm ((s.v b).pm - g) } : KV)).set b ({ s.v b with pl := max (s.v b).pl ((s.v a).pl + g), e := false } : KV)) rfl _ (hHeld.2.2.2.2.2.2.2.2.2.2.2.2.2.1).choose_spec ?_
  have kEnd := (hHeld.2.2.2.2.2.2.2.2.2.2.2.2.2.1).choose_spec.over ((s.set a ({ s.v a with pm := min (s.v a).pm ((s.v b).pm - g) } : KV)).set b ({ s.v b with pl := max (s.v b).pl ((s.v a).pl + g), e := false } : KV))
  have bEnd := below_setRowK (hHeld.2.2.2.2.2.2.2.2.2.2.2.2.2.2) (g := w.heap.size + 1) (by omega) ((s.set a ({ s.v a with pm := min (s.v a).pm ((s.v b).pm - g) } : KV)).set b ({ s.v b with pl := max (s.v b).pl ((s.v a).pl + g), e := false } : KV)).cells
  refine hK.out _ _ ?_ (fun hHeld => ?_)
  ·exact ⟨hHeld.1.rowAway (by omega) _, cellRow (by omega) hHeld.2.1, cellRow (by omega) hHeld.2.2.1, cellRow (by omega) hHeld.2.2.2.1, cellRow (by omega) hHeld.2.2.2.2.1, cellRow (by omega) hHeld.2.2.2.2.2.1, cellRow (by omega) hHeld.2.2.2.2.2.2.1, cellRow (by omega) hHeld.2.2.2.2.2.2.2.1, cellRow (by omega) hHeld.2.2.2.2.2.2.2.2.1, cellRow (by omega) hHeld.2.2.2.2.2.2.2.2.2.1, cellRow (by omega) hHeld.2.2.2.2.2.2.2.2.2.2.1, cellRow (by omega) hHeld.2.2.2.2.2.2.2.2.2.2.2.1, cellRow (by omega) hHeld.2.2.2.2.2.2.2.2.2.2.2.2.1, ⟨_, (hHeld.2.2.2.2.2.2.2.2.2.2.2.2.2.1).choose_spec.over _⟩, below_setRowK (hHeld.2.2.2.2.2.2.2.2.2.2.2.2.2.2) (by omega) _⟩
  clear hK K
  try simp only [Act.put]
  refine wpAnyH_done (by kernel_rfl) ?_ _
  refine NoPanic.normal ?_
  go_wp2_with fail
  exact bodyPost_ret (v := .agg ((s.set a ({ s.v a with pm := min (s.v a).pm ((s.v b).pm - g) } : KV)).set b ({ s.v b with pl := max (s.v b).pl ((s.v a).pl + g), e := false } : KV)).cells) (resK Tryz.results173 _ _ (w.heap.size + 1) ((s.set a ({ s.v a with pm := min (s.v a).pm ((s.v b).pm - g) } : KV)).set b ({ s.v b with pl := max (s.v b).pl ((s.v a).pl + g), e := false } : KV)) rfl kEnd) rfl ⟨rfl, bEnd⟩
end Go.Proofs.YtoobileejdhikaaGreat
