/-
  The program's relations: what the walks over them have in common.
  The program's relations: what is known where one value lies below another (places).
  The program's relations: what is known where one value lies below another (numbers).
-/
import Derived.Test.YtoobileejdhikaaGreatGa0
import Derived.Test.YtoobileejdhikaaGreatGa3
import Derived.Test.YtoobileejdhikaaGreatGa4
import Derived.Test.YtoobileejdhikaaGreatGa5
namespace Go.Proofs.YtoobileejdhikaaGreat
open Go.RowKit
structure ApH (s : KS) (a b : Nat) (g : Int) : Prop where
 ha : a < 9
 hb : b < 9
 g0 : 0 ≤ g
 g1 : g ≤ 1
 nanl : 0 ≤ (s.v a).nl
 manl : (s.v a).nl < 18446744073709551616
 nanm : 0 ≤ (s.v a).nm
 manm : (s.v a).nm < 18446744073709551616
 nbnl : 0 ≤ (s.v b).nl
 mbnl : (s.v b).nl < 18446744073709551616
 nbnm : 0 ≤ (s.v b).nm
 mbnm : (s.v b).nm < 18446744073709551616
 napl : -1000 ≤ (s.v a).pl
 mapl : (s.v a).pl ≤ 1000
 napm : -1000 ≤ (s.v a).pm
 mapm : (s.v a).pm ≤ 1000
 nbpl : -1000 ≤ (s.v b).pl
 mbpl : (s.v b).pl ≤ 1000
 nbpm : -1000 ≤ (s.v b).pm
 mbpm : (s.v b).pm ≤ 1000
 f0 : 0 ≤ s.frame
 f1 : s.frame ≤ 64
abbrev V6 (W : World) (g : Nat) (k l m p q : Int) (e : Bool) : Prop := W.cell? ⟨g, 0, none⟩ = some (.int .u8 k) ∧ W.cell? ⟨g, 1, none⟩ = some (.int .u64 l) ∧ W.cell? ⟨g, 2, none⟩ = some (.int .u64 m) ∧ W.cell? ⟨g, 3, none⟩ = some (.int .i64 p) ∧ W.cell? ⟨g, 4, none⟩ = some (.int .i64 q) ∧ W.cell? ⟨g, 5, none⟩ = some (.bool e)
abbrev C6 (W : World) (g r : Nat) (k l m p q : Int) (e : Bool) : Prop := W.cell? ⟨g, 2 + r * 6, none⟩ = some (.int .u8 k) ∧ W.cell? ⟨g, 2 + r * 6 + 1, none⟩ = some (.int .u64 l) ∧ W.cell? ⟨g, 2 + r * 6 + 2, none⟩ = some (.int .u64 m) ∧ W.cell? ⟨g, 2 + r * 6 + 3, none⟩ = some (.int .i64 p) ∧ W.cell? ⟨g, 2 + r * 6 + 4, none⟩ = some (.int .i64 q) ∧ W.cell? ⟨g, 2 + r * 6 + 5, none⟩ = some (.bool e)
theorem V6.keep {W V : World} {g : Nat} {k l m p q : Int} {e : Bool} (h : V6 W g k l m p q e) (hb : Below W.heap.size W V) : V6 V g k l m p q e :=
 ⟨cellKeep hb h.1, cellKeep hb h.2.1, cellKeep hb h.2.2.1, cellKeep hb h.2.2.2.1, cellKeep hb h.2.2.2.2.1, cellKeep hb h.2.2.2.2.2⟩
theorem V6.use {W V : World} (g : Nat) (k l m p q : Int) (e : Bool) {C : Prop} (hb : Below W.heap.size W V) (h : V6 W g k l m p q e) (f : V6 V g k l m p q e → C) : C := f (h.keep hb)
theorem V6.away {W : World} {g : Nat} {k l m p q : Int} {e : Bool} (h : V6 W g k l m p q e) {x : Nat} (hx : x ≠ g) (cs : Array Value) : V6 (W.setRow x cs) g k l m p q e :=
 ⟨cellRow hx h.1, cellRow hx h.2.1, cellRow hx h.2.2.1, cellRow hx h.2.2.2.1, cellRow hx h.2.2.2.2.1, cellRow hx h.2.2.2.2.2⟩
theorem KS.at6 (s : KS) (r : Nat) (hr : r < 9) : s.cells[2 + r * 6]? = some (.int .u8 (s.v r).kind) ∧ s.cells[2 + r * 6 + 1]? = some (.int .u64 (s.v r).nl) ∧ s.cells[2 + r * 6 + 2]? = some (.int .u64 (s.v r).nm) ∧ s.cells[2 + r * 6 + 3]? = some (.int .i64 (s.v r).pl) ∧ s.cells[2 + r * 6 + 4]? = some (.int .i64 (s.v r).pm) ∧ s.cells[2 + r * 6 + 5]? = some (.bool (s.v r).e) :=
 ⟨s.at_v r 0 hr (by omega), s.at_v r 1 hr (by omega), s.at_v r 2 hr (by omega), s.at_v r 3 hr (by omega), s.at_v r 4 hr (by omega), s.at_v r 5 hr (by omega)⟩
theorem retK {fn : Func} {p : Tmp} (h : fn.results = #[.cell p 117]) {A : Act} {w W : World} {x : KS} {g : Nat} (hg : KAt W g x) (hB : Below w.heap.size w W) (hp : A.tmps.getD p undef = .pointer (some ⟨g, 0, none⟩)) (hd : A.defers = []) :
  bodyPost Tryz.prog fn (fun e w' => e = .returned (.agg x.cells) ∧ Below w.heap.size w w') .ret A W := bodyPost_ret (resK h _ _ g x hp hg) hd ⟨rfl, hB⟩
theorem nine {a : Nat} (h : a < 9) : (0 : Int) ≤ (a : Int) ∧ (a : Int) < 9 := by omega
theorem KAt.setFr {w : World} {g : Nat} {s : KS} (h : KAt w g s) (f : Int) : KAt (w.setCell ⟨g, 56, none⟩ (.int .i64 f)) g { s with frame := f } := by
 refine ⟨?_⟩
 rw [← s.put_frame f]
 exact heap_setCell_same _ _ _ _ _ _ h.row
end Go.Proofs.YtoobileejdhikaaGreat

namespace Go.Proofs.YtoobileejdhikaaGreat
set_option maxRecDepth 100000
set_option maxHeartbeats 2000000
open Go.RowKit
theorem belowI_not (a b c d g : Int) (w : World) (_ha0 : -100000 ≤ a) (_ha1 : a ≤ 100000) (_hb0 : -100000 ≤ b) (_hb1 : b ≤ 100000) (_hc0 : -100000 ≤ c) (_hc1 : c ≤ 100000) (_hd0 : -100000 ≤ d) (_hd1 : d ≤ 100000) (_hg0 : -100000 ≤ g) (_hg1 : g ≤ 100000) (h : ¬ (a ≤ d ∧ g ≤ d - a)) :
  Calls Tryz.prog 195 #[.agg #[.int .i64 a, .int .i64 b], .agg #[.int .i64 c, .int .i64 d], .int .i64 g] w fun e w' => e = .returned (.tuple #[.agg #[.int .i64 a, .int .i64 b], .agg #[.int .i64 c, .int .i64 d], .bool false]) ∧ Below w.heap.size w w' := by
 by_cases h0 : d < a
 ·exact belowI_far a b c d g w _ha0 _ha1 _hb0 _hb1 _hc0 _hc1 _hd0 _hd1 _hg0 _hg1 h0
 ·exact belowI_no a b c d g w _ha0 _ha1 _hb0 _hb1 _hc0 _hc1 _hd0 _hd1 _hg0 _hg1 (by omega) (by omega)

theorem apartByP_not (s : KS) (a b : Nat) (g : Int) (w : World) (H : ApH s a b g) (hk : (s.v a).kind ≠ 1) (hy : ¬ ((s.v a).pl ≤ (s.v b).pm ∧ g ≤ (s.v b).pm - (s.v a).pl)) :
  Calls Tryz.prog 173 #[.agg s.cells, .int .u8 a, .int .u8 b, .int .i64 g] w fun e w' => e = .returned (.agg KS.zero.cells) ∧ Below w.heap.size w w' := by
 obtain ⟨ha, hb, _, _, _, _, _, _, _, _, _, _, _, _, _, _, _, _, _, _, _, _⟩ := H
 have hz := zeroK
 obtain ⟨i1, i2⟩ := nine ha
 obtain ⟨i3, i4⟩ := nine hb
 have hk' : ((s.v a).kind == 1) = false := by simpa using hk
 have HK := hideK hk
 clear hk
 have HY := hideK hy
 clear hy
 obtain ⟨a0, a1, a2, a3, a4, a5⟩ := s.at6 a ha
 obtain ⟨b0, b1, b2, b3, b4, b5⟩ := s.at6 b hb
 go_enter Tryz.func173, Tryz.ntmps173
 go_wp2_with fail
 go_region_held3 (fun w' => C6 w' w.heap.size a (s.v a).kind (s.v a).nl (s.v a).nm (s.v a).pl (s.v a).pm (s.v a).e ∧ C6 w' w.heap.size b (s.v b).kind (s.v b).nl (s.v b).nm (s.v b).pl (s.v b).pm (s.v b).e) ((simp only [C6]; go_keep)) (fail)
 all_goals (rename_i hS; clear hS)
 all_goals go_wp2_with (first | (refine wpList_build_as rfl 117 _ rfl KS.zero.cells builtZ ?_) | (go_at_call 195; refine (belowI_not (s.v a).pl (s.v a).pm (s.v b).pl (s.v b).pm g _ (by omega) (by omega) (by omega) (by omega) (by omega) (by omega) (by omega) (by omega) (by omega) (by omega) HY.out).mono ?_; rintro e w1 ⟨rfl, hb1⟩; have k1 : KAt w1 w.heap.size s := KAt.keep (by with_reducible (repeat (first | exact KAt.new w s | refine KAt.alloc ?_ _ | refine KAt.drew ?_))) hb1; have kz : KAt w1 (w.heap.size + 1) KS.zero := KAt.keep (by (repeat (first | exact KAt.top (by simp) | with_reducible refine KAt.alloc ?_ _ | with_reducible refine KAt.drew ?_))) hb1; (first | (refine V6.use (w.heap.size + 1 + 1) (s.v a).kind (s.v a).nl (s.v a).nm (s.v a).pl (s.v a).pm (s.v a).e hb1 ?h ?_; (case h => refine ⟨?_, ?_, ?_, ?_, ?_, ?_⟩ <;> (simp [go_sem]; done)); rintro ⟨_, _, _, _, _, _⟩; refine V6.use (w.heap.size + 1 + 1 + 1) (s.v b).kind (s.v b).nl (s.v b).nm (s.v b).pl (s.v b).pm (s.v b).e hb1 ?h ?_; (case h => refine ⟨?_, ?_, ?_, ?_, ?_, ?_⟩ <;> (simp [go_sem]; done)); rintro ⟨_, _, _, _, _, _⟩) | (refine V6.use (w.heap.size + 1 + 1 + 1) (s.v a).kind (s.v a).nl (s.v a).nm (s.v a).pl (s.v a).pm (s.v a).e hb1 ?h ?_; (case h => refine ⟨?_, ?_, ?_, ?_, ?_, ?_⟩ <;> (simp [go_sem]; done)); rintro ⟨_, _, _, _, _, _⟩; refine V6.use (w.heap.size + 1 + 1) (s.v b).kind (s.v b).nl (s.v b).nm (s.v b).pl (s.v b).pm (s.v b).e hb1 ?h ?_; (case h => refine ⟨?_, ?_, ?_, ?_, ?_, ?_⟩ <;> (simp [go_sem]; done)); rintro ⟨_, _, _, _, _, _⟩)); have za := frozenKeep hb1 (g := w.heap.size + 1 + 1) (by simp) (fun j => by simp [go_sem]); have zb := frozenKeep hb1 (g := w.heap.size + 1 + 1 + 1) (by simp) (fun j => by simp [go_sem]); have f1 := k1.frame; have f2 := k1.fz 56; have hB1 : Below w.heap.size w w1 := ((bel4 w _ _ _ _).drew).trans (hb1.mono (by show w.heap.size ≤ ((((w.alloc _).alloc _).alloc _).alloc _).heap.size; simp; omega))) | (refine wpK_store rfl _ _ rfl (w.heap.size + 1) rfl KS.zero rfl KS.zero ?_ ?_; exact ((((kz.setAway (by omega) _).setAway (by omega) _).setAway (by omega) _).setAway (by omega) _)))
 all_goals exact bodyPost_ret (v := .agg KS.zero.cells) (resK Tryz.results173 _ _ (w.heap.size + 1) KS.zero rfl (KAt.over (s := KS.zero) ((((kz.setAway (by omega) _).setAway (by omega) _).setAway (by omega) _).setAway (by omega) _) _)) rfl ⟨rfl, below_setRowK ((((hB1.setCell (by simp; try omega) _).setCell (by simp; try omega) _).setCell (by simp; try omega) _).setCell (by simp; try omega) _) (by omega) _⟩

theorem apartByP_yes (s : KS) (a b : Nat) (g : Int) (w : World) (H : ApH s a b g) (hk : (s.v a).kind ≠ 1) (_y1 : (s.v a).pl ≤ (s.v b).pm) (_y2 : g ≤ (s.v b).pm - (s.v a).pl) (he : (s.v b).e = false) :
  Calls Tryz.prog 173 #[.agg s.cells, .int .u8 a, .int .u8 b, .int .i64 g] w fun e w' => e = .returned (.agg ((s.set a ({ s.v a with pm := min (s.v a).pm ((s.v b).pm - g) } : KV)).set b ({ s.v b with pl := max (s.v b).pl ((s.v a).pl + g), e := false } : KV)).cells) ∧ Below w.heap.size w w' := by
 obtain ⟨ha, hb, _, _, _, _, _, _, _, _, _, _, _, _, _, _, _, _, _, _, _, _⟩ := H
 have hz := zeroK
 obtain ⟨i1, i2⟩ := nine ha
 obtain ⟨i3, i4⟩ := nine hb
 have hk' : ((s.v a).kind == 1) = false := by simpa using hk
 have HK := hideK hk
 clear hk
 have he' := he
 clear he
 obtain ⟨a0, a1, a2, a3, a4, a5⟩ := s.at6 a ha
 obtain ⟨b0, b1, b2, b3, b4, b5⟩ := s.at6 b hb
 go_enter Tryz.func173, Tryz.ntmps173
 go_wp2_with fail
 go_region_held3 (fun w' => C6 w' w.heap.size a (s.v a).kind (s.v a).nl (s.v a).nm (s.v a).pl (s.v a).pm (s.v a).e ∧ C6 w' w.heap.size b (s.v b).kind (s.v b).nl (s.v b).nm (s.v b).pl (s.v b).pm false) ((simp only [C6]; go_keep)) (fail)
 all_goals (rename_i hS; clear hS)
 all_goals go_wp2_with (go_at_call 195; refine (belowI_yes (s.v a).pl (s.v a).pm (s.v b).pl (s.v b).pm g _ (by omega) (by omega) (by omega) (by omega) (by omega) (by omega) (by omega) (by omega) (by omega) (by omega) (by omega) (by omega) (by omega)).mono ?_; rintro e w1 ⟨rfl, hb1⟩; have k1 : KAt w1 w.heap.size s := KAt.keep (by with_reducible (repeat (first | exact KAt.new w s | refine KAt.alloc ?_ _ | refine KAt.drew ?_))) hb1; have kz : KAt w1 (w.heap.size + 1) KS.zero := KAt.keep (by (repeat (first | exact KAt.top (by simp) | with_reducible refine KAt.alloc ?_ _ | with_reducible refine KAt.drew ?_))) hb1; (first | (refine V6.use (w.heap.size + 1 + 1) (s.v a).kind (s.v a).nl (s.v a).nm (s.v a).pl (s.v a).pm (s.v a).e hb1 ?h ?_; (case h => refine ⟨?_, ?_, ?_, ?_, ?_, ?_⟩ <;> (simp [go_sem]; done)); rintro ⟨_, _, _, _, _, _⟩; refine V6.use (w.heap.size + 1 + 1 + 1) (s.v b).kind (s.v b).nl (s.v b).nm (s.v b).pl (s.v b).pm false hb1 ?h ?_; (case h => refine ⟨?_, ?_, ?_, ?_, ?_, ?_⟩ <;> (simp [go_sem]; done)); rintro ⟨_, _, _, _, _, _⟩) | (refine V6.use (w.heap.size + 1 + 1 + 1) (s.v a).kind (s.v a).nl (s.v a).nm (s.v a).pl (s.v a).pm (s.v a).e hb1 ?h ?_; (case h => refine ⟨?_, ?_, ?_, ?_, ?_, ?_⟩ <;> (simp [go_sem]; done)); rintro ⟨_, _, _, _, _, _⟩; refine V6.use (w.heap.size + 1 + 1) (s.v b).kind (s.v b).nl (s.v b).nm (s.v b).pl (s.v b).pm false hb1 ?h ?_; (case h => refine ⟨?_, ?_, ?_, ?_, ?_, ?_⟩ <;> (simp [go_sem]; done)); rintro ⟨_, _, _, _, _, _⟩)); have za := frozenKeep hb1 (g := w.heap.size + 1 + 1) (by simp) (fun j => by simp [go_sem]); have zb := frozenKeep hb1 (g := w.heap.size + 1 + 1 + 1) (by simp) (fun j => by simp [go_sem]); have f1 := k1.frame; have f2 := k1.fz 56; have hB1 : Below w.heap.size w w1 := ((bel4 w _ _ _ _).drew).trans (hb1.mono (by show w.heap.size ≤ ((((w.alloc _).alloc _).alloc _).alloc _).heap.size; simp; omega)))
 all_goals (refine wp_region_noPanic ?_; (first | (refine wp_region_held_drew (S := fun w' => KAt w' w.heap.size s ∧ V6 w' (w.heap.size + 1 + 1) (s.v a).kind (s.v a).nl (s.v a).nm (s.v a).pl (min (s.v a).pm ((s.v b).pm - g)) (s.v a).e ∧ V6 w' (w.heap.size + 1 + 1 + 1) (s.v b).kind (s.v b).nl (s.v b).nm (max (s.v b).pl ((s.v a).pl + g)) (s.v b).pm false ∧ (∃ z, KAt w' (w.heap.size + 1) z) ∧ Below w.heap.size w w') (by kernel_rfl) ?hS (fun hH => ?_); (case hS => refine ⟨?_, ⟨?_, ?_, ?_, ?_, ?_, ?_⟩, ⟨?_, ?_, ?_, ?_, ?_, ?_⟩, ⟨KS.zero, ?_⟩, ?_⟩ <;> (first | ((repeat (first | with_reducible exact k1 | with_reducible exact kz | with_reducible exact hB1 | with_reducible refine KAt.setAway ?_ (by omega) _ | with_reducible refine KAt.drew ?_ | with_reducible refine Below.drew ?_ | with_reducible refine Below.setCell ?_ (by simp; try omega) _)); done) | (simp [go_sem, *]; done)))) | (refine wp_region_held_drew (S := fun w' => KAt w' w.heap.size s ∧ V6 w' (w.heap.size + 1 + 1 + 1) (s.v a).kind (s.v a).nl (s.v a).nm (s.v a).pl (min (s.v a).pm ((s.v b).pm - g)) (s.v a).e ∧ V6 w' (w.heap.size + 1 + 1) (s.v b).kind (s.v b).nl (s.v b).nm (max (s.v b).pl ((s.v a).pl + g)) (s.v b).pm false ∧ (∃ z, KAt w' (w.heap.size + 1) z) ∧ Below w.heap.size w w') (by kernel_rfl) ?hS (fun hH => ?_); (case hS => refine ⟨?_, ⟨?_, ?_, ?_, ?_, ?_, ?_⟩, ⟨?_, ?_, ?_, ?_, ?_, ?_⟩, ⟨KS.zero, ?_⟩, ?_⟩ <;> (first | ((repeat (first | with_reducible exact k1 | with_reducible exact kz | with_reducible exact hB1 | with_reducible refine KAt.setAway ?_ (by omega) _ | with_reducible refine KAt.drew ?_ | with_reducible refine Below.drew ?_ | with_reducible refine Below.setCell ?_ (by simp; try omega) _)); done) | (simp [go_sem, *]; done))))))
 all_goals (refine tkY 0 rfl (yieldsK (by rfl) _ rfl (w.heap.size) rfl _ (fun w h => h.1)) ?_; (try simp only [Act.put]))
 all_goals (refine tkH 1 ?_; (try simp only [Act.put]))
 all_goals (refine tkH 2 ?_; (try simp only [Act.put]))
 all_goals (refine tkH 4 ?_; (try simp only [Act.put]))
 all_goals (refine tkH 5 ?_; (try simp only [Act.put]))
 iterate 2 (all_goals ((first | refine rdH1 3 (fun K hK => ?_) | refine rdH1 6 (fun K hK => ?_)); go_simp; (first | ((with_reducible show Calls _ _ #[_, .int .u8 (a : Nat), _] _ _); refine (set_any s a { s.v a with pm := min (s.v a).pm ((s.v b).pm - g) } _ ha).mono ?_) | refine (set_any (KS.set s a { s.v a with pm := min (s.v a).pm ((s.v b).pm - g) }) b { s.v b with pl := max (s.v b).pl ((s.v a).pl + g), e := false } _ hb).mono ?_); rintro e W ⟨rfl, hb2⟩; go_wp2_with fail; refine hK.out _ _ ⟨hH.1.keep hb2, hH.2.1.keep hb2, hH.2.2.1.keep hb2, ⟨_, hH.2.2.2.1.choose_spec.keep hb2⟩, hH.2.2.2.2.trans (hb2.mono hH.2.2.2.2.size)⟩ (fun hH => ?_); clear hK K; (try simp only [Act.put])))
 all_goals (refine rdH 7 (fun K hK => ?_); have hZ := hH.2.2.2.1.choose_spec; have hY := hH.2.2.2.2; refine wpO_storeK _ _ rfl (w.heap.size + 1) rfl _ rfl _ hZ ?_; refine hK.out _ _ ⟨hH.1.rowAway (by omega) _, hH.2.1.away (by omega) _, hH.2.2.1.away (by omega) _, ⟨_, hZ.over _⟩, below_setRowK hY (by omega) _⟩ (fun hH => ?_); clear hK K; (try simp only [Act.put]); refine wpAnyH_done (by kernel_rfl) ?_ _; refine NoPanic.normal ?_; go_wp2_with fail; exact retK Tryz.results173 (hZ.over _) (below_setRowK hY (by omega) _) rfl rfl)
end Go.Proofs.YtoobileejdhikaaGreat

namespace Go.Proofs.YtoobileejdhikaaGreat
set_option maxRecDepth 100000
set_option maxHeartbeats 2000000
open Go.RowKit
theorem belowU_not (a b c d g : Int) (w : World) (_ha0 : 0 ≤ a) (_ha1 : a < 18446744073709551616) (_hb0 : 0 ≤ b) (_hb1 : b < 18446744073709551616) (_hc0 : 0 ≤ c) (_hc1 : c < 18446744073709551616) (_hd0 : 0 ≤ d) (_hd1 : d < 18446744073709551616) (_hg0 : 0 ≤ g) (_hg1 : g < 18446744073709551616) (h : ¬ (a ≤ d ∧ g ≤ d - a)) :
  Calls Tryz.prog 194 #[.agg #[.int .u64 a, .int .u64 b], .agg #[.int .u64 c, .int .u64 d], .int .u64 g] w fun e w' => e = .returned (.tuple #[.agg #[.int .u64 a, .int .u64 b], .agg #[.int .u64 c, .int .u64 d], .bool false]) ∧ Below w.heap.size w w' := by
 by_cases h0 : d < a
 ·exact belowU_far a b c d g w _ha0 _ha1 _hb0 _hb1 _hc0 _hc1 _hd0 _hd1 _hg0 _hg1 h0
 ·exact belowU_no a b c d g w _ha0 _ha1 _hb0 _hb1 _hc0 _hc1 _hd0 _hd1 _hg0 _hg1 (by omega) (by omega)

theorem apartByN_not (s : KS) (a b : Nat) (g : Int) (w : World) (H : ApH s a b g) (hk : (s.v a).kind = 1) (hy : ¬ ((s.v a).nl ≤ (s.v b).nm ∧ g ≤ (s.v b).nm - (s.v a).nl)) :
  Calls Tryz.prog 173 #[.agg s.cells, .int .u8 a, .int .u8 b, .int .i64 g] w fun e w' => e = .returned (.agg KS.zero.cells) ∧ Below w.heap.size w w' := by
 obtain ⟨ha, hb, _, _, _, _, _, _, _, _, _, _, _, _, _, _, _, _, _, _, _, _⟩ := H
 have hz := zeroK
 obtain ⟨i1, i2⟩ := nine ha
 obtain ⟨i3, i4⟩ := nine hb
 have hk' : ((s.v a).kind == 1) = true := by simpa using hk
 have HK := hideK hk
 clear hk
 have qg : IntKind.u64.wrap g = g := by rw [wrapU]; omega
 have HY := hideK hy
 clear hy
 obtain ⟨a0, a1, a2, a3, a4, a5⟩ := s.at6 a ha
 obtain ⟨b0, b1, b2, b3, b4, b5⟩ := s.at6 b hb
 go_enter Tryz.func173, Tryz.ntmps173
 go_wp2_with fail
 go_region_held3 (fun w' => C6 w' w.heap.size a (s.v a).kind (s.v a).nl (s.v a).nm (s.v a).pl (s.v a).pm (s.v a).e ∧ C6 w' w.heap.size b (s.v b).kind (s.v b).nl (s.v b).nm (s.v b).pl (s.v b).pm (s.v b).e) ((simp only [C6]; go_keep)) (fail)
 all_goals (rename_i hS; clear hS)
 all_goals go_wp2_with (first | (refine wpList_build_as rfl 117 _ rfl KS.zero.cells builtZ ?_) | (go_at_call 194; refine (belowU_not (s.v a).nl (s.v a).nm (s.v b).nl (s.v b).nm g _ (by omega) (by omega) (by omega) (by omega) (by omega) (by omega) (by omega) (by omega) (by omega) (by omega) HY.out).mono ?_; rintro e w1 ⟨rfl, hb1⟩; have k1 : KAt w1 w.heap.size s := KAt.keep (by with_reducible (repeat (first | exact KAt.new w s | refine KAt.alloc ?_ _ | refine KAt.drew ?_))) hb1; have kz : KAt w1 (w.heap.size + 1) KS.zero := KAt.keep (by (repeat (first | exact KAt.top (by simp) | with_reducible refine KAt.alloc ?_ _ | with_reducible refine KAt.drew ?_))) hb1; (first | (refine V6.use (w.heap.size + 1 + 1) (s.v a).kind (s.v a).nl (s.v a).nm (s.v a).pl (s.v a).pm (s.v a).e hb1 ?h ?_; (case h => refine ⟨?_, ?_, ?_, ?_, ?_, ?_⟩ <;> (simp [go_sem]; done)); rintro ⟨_, _, _, _, _, _⟩; refine V6.use (w.heap.size + 1 + 1 + 1) (s.v b).kind (s.v b).nl (s.v b).nm (s.v b).pl (s.v b).pm (s.v b).e hb1 ?h ?_; (case h => refine ⟨?_, ?_, ?_, ?_, ?_, ?_⟩ <;> (simp [go_sem]; done)); rintro ⟨_, _, _, _, _, _⟩) | (refine V6.use (w.heap.size + 1 + 1 + 1) (s.v a).kind (s.v a).nl (s.v a).nm (s.v a).pl (s.v a).pm (s.v a).e hb1 ?h ?_; (case h => refine ⟨?_, ?_, ?_, ?_, ?_, ?_⟩ <;> (simp [go_sem]; done)); rintro ⟨_, _, _, _, _, _⟩; refine V6.use (w.heap.size + 1 + 1) (s.v b).kind (s.v b).nl (s.v b).nm (s.v b).pl (s.v b).pm (s.v b).e hb1 ?h ?_; (case h => refine ⟨?_, ?_, ?_, ?_, ?_, ?_⟩ <;> (simp [go_sem]; done)); rintro ⟨_, _, _, _, _, _⟩)); have za := frozenKeep hb1 (g := w.heap.size + 1 + 1) (by simp) (fun j => by simp [go_sem]); have zb := frozenKeep hb1 (g := w.heap.size + 1 + 1 + 1) (by simp) (fun j => by simp [go_sem]); have f1 := k1.frame; have f2 := k1.fz 56; have hB1 : Below w.heap.size w w1 := ((bel4 w _ _ _ _).drew).trans (hb1.mono (by show w.heap.size ≤ ((((w.alloc _).alloc _).alloc _).alloc _).heap.size; simp; omega))) | (refine wpK_store rfl _ _ rfl (w.heap.size + 1) rfl KS.zero rfl KS.zero ?_ ?_; exact ((((kz.setAway (by omega) _).setAway (by omega) _).setAway (by omega) _).setAway (by omega) _)))
 all_goals exact bodyPost_ret (v := .agg KS.zero.cells) (resK Tryz.results173 _ _ (w.heap.size + 1) KS.zero rfl (KAt.over (s := KS.zero) ((((kz.setAway (by omega) _).setAway (by omega) _).setAway (by omega) _).setAway (by omega) _) _)) rfl ⟨rfl, below_setRowK ((((hB1.setCell (by simp; try omega) _).setCell (by simp; try omega) _).setCell (by simp; try omega) _).setCell (by simp; try omega) _) (by omega) _⟩

theorem apartByN_yes (s : KS) (a b : Nat) (g : Int) (w : World) (H : ApH s a b g) (hk : (s.v a).kind = 1) (_y1 : (s.v a).nl ≤ (s.v b).nm) (_y2 : g ≤ (s.v b).nm - (s.v a).nl) (he : (s.v b).e = false) :
  Calls Tryz.prog 173 #[.agg s.cells, .int .u8 a, .int .u8 b, .int .i64 g] w fun e w' => e = .returned (.agg ((s.set a ({ s.v a with nm := min (s.v a).nm ((s.v b).nm - g) } : KV)).set b ({ s.v b with nl := max (s.v b).nl ((s.v a).nl + g), e := false } : KV)).cells) ∧ Below w.heap.size w w' := by
 obtain ⟨ha, hb, _, _, _, _, _, _, _, _, _, _, _, _, _, _, _, _, _, _, _, _⟩ := H
 have hz := zeroK
 obtain ⟨i1, i2⟩ := nine ha
 obtain ⟨i3, i4⟩ := nine hb
 have hk' : ((s.v a).kind == 1) = true := by simpa using hk
 have HK := hideK hk
 clear hk
 have qg : IntKind.u64.wrap g = g := by rw [wrapU]; omega
 have he' := he
 clear he
 obtain ⟨a0, a1, a2, a3, a4, a5⟩ := s.at6 a ha
 obtain ⟨b0, b1, b2, b3, b4, b5⟩ := s.at6 b hb
 go_enter Tryz.func173, Tryz.ntmps173
 go_wp2_with fail
 go_region_held3 (fun w' => C6 w' w.heap.size a (s.v a).kind (s.v a).nl (s.v a).nm (s.v a).pl (s.v a).pm (s.v a).e ∧ C6 w' w.heap.size b (s.v b).kind (s.v b).nl (s.v b).nm (s.v b).pl (s.v b).pm false) ((simp only [C6]; go_keep)) (fail)
 all_goals (rename_i hS; clear hS)
 all_goals go_wp2_with (go_at_call 194; refine (belowU_yes (s.v a).nl (s.v a).nm (s.v b).nl (s.v b).nm g _ (by omega) (by omega) (by omega) (by omega) (by omega) (by omega) (by omega) (by omega) (by omega) (by omega) (by omega) (by omega)).mono ?_; rintro e w1 ⟨rfl, hb1⟩; have k1 : KAt w1 w.heap.size s := KAt.keep (by with_reducible (repeat (first | exact KAt.new w s | refine KAt.alloc ?_ _ | refine KAt.drew ?_))) hb1; have kz : KAt w1 (w.heap.size + 1) KS.zero := KAt.keep (by (repeat (first | exact KAt.top (by simp) | with_reducible refine KAt.alloc ?_ _ | with_reducible refine KAt.drew ?_))) hb1; (first | (refine V6.use (w.heap.size + 1 + 1) (s.v a).kind (s.v a).nl (s.v a).nm (s.v a).pl (s.v a).pm (s.v a).e hb1 ?h ?_; (case h => refine ⟨?_, ?_, ?_, ?_, ?_, ?_⟩ <;> (simp [go_sem]; done)); rintro ⟨_, _, _, _, _, _⟩; refine V6.use (w.heap.size + 1 + 1 + 1) (s.v b).kind (s.v b).nl (s.v b).nm (s.v b).pl (s.v b).pm false hb1 ?h ?_; (case h => refine ⟨?_, ?_, ?_, ?_, ?_, ?_⟩ <;> (simp [go_sem]; done)); rintro ⟨_, _, _, _, _, _⟩) | (refine V6.use (w.heap.size + 1 + 1 + 1) (s.v a).kind (s.v a).nl (s.v a).nm (s.v a).pl (s.v a).pm (s.v a).e hb1 ?h ?_; (case h => refine ⟨?_, ?_, ?_, ?_, ?_, ?_⟩ <;> (simp [go_sem]; done)); rintro ⟨_, _, _, _, _, _⟩; refine V6.use (w.heap.size + 1 + 1) (s.v b).kind (s.v b).nl (s.v b).nm (s.v b).pl (s.v b).pm false hb1 ?h ?_; (case h => refine ⟨?_, ?_, ?_, ?_, ?_, ?_⟩ <;> (simp [go_sem]; done)); rintro ⟨_, _, _, _, _, _⟩)); have za := frozenKeep hb1 (g := w.heap.size + 1 + 1) (by simp) (fun j => by simp [go_sem]); have zb := frozenKeep hb1 (g := w.heap.size + 1 + 1 + 1) (by simp) (fun j => by simp [go_sem]); have f1 := k1.frame; have f2 := k1.fz 56; have hB1 : Below w.heap.size w w1 := ((bel4 w _ _ _ _).drew).trans (hb1.mono (by show w.heap.size ≤ ((((w.alloc _).alloc _).alloc _).alloc _).heap.size; simp; omega)))
 all_goals (refine wp_region_noPanic ?_; (first | (refine wp_region_held_drew (S := fun w' => KAt w' w.heap.size s ∧ V6 w' (w.heap.size + 1 + 1) (s.v a).kind (s.v a).nl (min (s.v a).nm ((s.v b).nm - g)) (s.v a).pl (s.v a).pm (s.v a).e ∧ V6 w' (w.heap.size + 1 + 1 + 1) (s.v b).kind (max (s.v b).nl ((s.v a).nl + g)) (s.v b).nm (s.v b).pl (s.v b).pm false ∧ (∃ z, KAt w' (w.heap.size + 1) z) ∧ Below w.heap.size w w') (by kernel_rfl) ?hS (fun hH => ?_); (case hS => refine ⟨?_, ⟨?_, ?_, ?_, ?_, ?_, ?_⟩, ⟨?_, ?_, ?_, ?_, ?_, ?_⟩, ⟨KS.zero, ?_⟩, ?_⟩ <;> (first | ((repeat (first | with_reducible exact k1 | with_reducible exact kz | with_reducible exact hB1 | with_reducible refine KAt.setAway ?_ (by omega) _ | with_reducible refine KAt.drew ?_ | with_reducible refine Below.drew ?_ | with_reducible refine Below.setCell ?_ (by simp; try omega) _)); done) | (simp [go_sem, *]; done)))) | (refine wp_region_held_drew (S := fun w' => KAt w' w.heap.size s ∧ V6 w' (w.heap.size + 1 + 1 + 1) (s.v a).kind (s.v a).nl (min (s.v a).nm ((s.v b).nm - g)) (s.v a).pl (s.v a).pm (s.v a).e ∧ V6 w' (w.heap.size + 1 + 1) (s.v b).kind (max (s.v b).nl ((s.v a).nl + g)) (s.v b).nm (s.v b).pl (s.v b).pm false ∧ (∃ z, KAt w' (w.heap.size + 1) z) ∧ Below w.heap.size w w') (by kernel_rfl) ?hS (fun hH => ?_); (case hS => refine ⟨?_, ⟨?_, ?_, ?_, ?_, ?_, ?_⟩, ⟨?_, ?_, ?_, ?_, ?_, ?_⟩, ⟨KS.zero, ?_⟩, ?_⟩ <;> (first | ((repeat (first | with_reducible exact k1 | with_reducible exact kz | with_reducible exact hB1 | with_reducible refine KAt.setAway ?_ (by omega) _ | with_reducible refine KAt.drew ?_ | with_reducible refine Below.drew ?_ | with_reducible refine Below.setCell ?_ (by simp; try omega) _)); done) | (simp [go_sem, *]; done))))))
 all_goals (refine tkY 0 rfl (yieldsK (by rfl) _ rfl (w.heap.size) rfl _ (fun w h => h.1)) ?_; (try simp only [Act.put]))
 all_goals (refine tkH 1 ?_; (try simp only [Act.put]))
 all_goals (refine tkH 2 ?_; (try simp only [Act.put]))
 all_goals (refine tkH 4 ?_; (try simp only [Act.put]))
 all_goals (refine tkH 5 ?_; (try simp only [Act.put]))
 iterate 2 (all_goals ((first | refine rdH1 3 (fun K hK => ?_) | refine rdH1 6 (fun K hK => ?_)); go_simp; (first | ((with_reducible show Calls _ _ #[_, .int .u8 (a : Nat), _] _ _); refine (set_any s a { s.v a with nm := min (s.v a).nm ((s.v b).nm - g) } _ ha).mono ?_) | refine (set_any (KS.set s a { s.v a with nm := min (s.v a).nm ((s.v b).nm - g) }) b { s.v b with nl := max (s.v b).nl ((s.v a).nl + g), e := false } _ hb).mono ?_); rintro e W ⟨rfl, hb2⟩; go_wp2_with fail; refine hK.out _ _ ⟨hH.1.keep hb2, hH.2.1.keep hb2, hH.2.2.1.keep hb2, ⟨_, hH.2.2.2.1.choose_spec.keep hb2⟩, hH.2.2.2.2.trans (hb2.mono hH.2.2.2.2.size)⟩ (fun hH => ?_); clear hK K; (try simp only [Act.put])))
 all_goals (refine rdH 7 (fun K hK => ?_); have hZ := hH.2.2.2.1.choose_spec; have hY := hH.2.2.2.2; refine wpO_storeK _ _ rfl (w.heap.size + 1) rfl _ rfl _ hZ ?_; refine hK.out _ _ ⟨hH.1.rowAway (by omega) _, hH.2.1.away (by omega) _, hH.2.2.1.away (by omega) _, ⟨_, hZ.over _⟩, below_setRowK hY (by omega) _⟩ (fun hH => ?_); clear hK K; (try simp only [Act.put]); refine wpAnyH_done (by kernel_rfl) ?_ _; refine NoPanic.normal ?_; go_wp2_with fail; exact retK Tryz.results173 (hZ.over _) (below_setRowK hY (by omega) _) rfl rfl)
end Go.Proofs.YtoobileejdhikaaGreat
