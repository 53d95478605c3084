/-
  The statement Harm: the walk.
-/
import Derived.Test.YtoobileejdhikaaGreatGd1
namespace Go.Proofs.YtoobileejdhikaaGreat
open Go.RowKit

set_option maxRecDepth 100000 in
set_option maxHeartbeats 8000000 in
theorem harm_walk (place which : Int) (w : World) (hp0 : -9223372036854775808 ≤ place) (hp1 : place ≤ 9223372036854775807) (hq0 : -9223372036854775808 ≤ which) (hq1 : which ≤ 9223372036854775807) :
    Calls Tryz.prog 8 #[.int .i64 place, .int .i64 which] w fun e w' => e = .returned (.bool true) ∧ Below w.heap.size w w' := by
  go_enter Tryz.func8, Tryz.ntmps8
  go_wp2_with fail
  refine (wpick_any place 60 w hp0 hp1 (by decide) (by decide)).mono ?_
  rintro e w' ⟨rfl, rfl⟩
  obtain ⟨K, hK⟩ := Int.eq_ofNat_of_zero_le (pickR_bd place 60 (by decide)).1
  have hK60 : K < 60 := by have := (pickR_bd place 60 (by decide)).2; omega
  rw [hK]
  clear hK
  go_wp2_with fail
  refine (wins_any 22 4 1 (K : Int) 0 _ (by decide) (by decide) (by decide) (by decide) (by decide) (by decide)).mono ?_
  rintro e W1 ⟨g1, c1, rfl, o1, h1⟩
  have B := h1
  have p1 := hideX (o1.part (by show 0 < 8; decide))
  clear o1 h1
  go_wp2_with fail
  refine (wtest_any ((K : Int) + 4) 3 _).mono ?_
  rintro e W2 ⟨g2, c2, rfl, o2, h2⟩
  replace p1 := hideX (p1.out.later h2)
  replace B := B.trans (h2.mono B.size)
  have p2 := hideX (o2.part (by show 0 < 24; decide))
  clear o2 h2
  go_wp2_with fail
  refine (wout_any 1 _).mono ?_
  rintro e W3 ⟨g3, c3, rfl, o3, h3⟩
  replace p1 := hideX (p1.out.later h3)
  replace p2 := hideX (p2.out.later h3)
  replace B := B.trans (h3.mono B.size)
  have p3 := hideX (o3.part (by show 0 < 16; decide))
  clear o3 h3
  go_wp2_with fail
  refine (wout_any 0 _).mono ?_
  rintro e W4 ⟨g4, c4, rfl, o4, h4⟩
  replace p1 := hideX (p1.out.later h4)
  replace p2 := hideX (p2.out.later h4)
  replace p3 := hideX (p3.out.later h4)
  replace B := B.trans (h4.mono B.size)
  have p4 := hideX (o4.part (by show 0 < 16; decide))
  clear o4 h4
  have hA5 : Below W4.heap.size W4 (W4.alloc (.cells #[Value.slice (some ⟨g2, 0, none⟩) 24 c2, Value.slice (some ⟨g1, 0, none⟩) 8 c1, Value.slice (some ⟨g3, 0, none⟩) 16 c3, Value.slice (some ⟨g4, 0, none⟩) 16 c4] 22)) := (Below.refl _ _).alloc (Nat.le_refl _) _
  have C5 := fun (wx : World) (hx : wx = (W4.alloc (.cells #[Value.slice (some ⟨g2, 0, none⟩) 24 c2, Value.slice (some ⟨g1, 0, none⟩) 8 c1, Value.slice (some ⟨g3, 0, none⟩) 16 c3, Value.slice (some ⟨g4, 0, none⟩) 16 c4] 22))) => wcode_any W4.heap.size 4 4 (fun i => [Value.slice (some ⟨g2, 0, none⟩) 24 c2, Value.slice (some ⟨g1, 0, none⟩) 8 c1, Value.slice (some ⟨g3, 0, none⟩) 16 c3, Value.slice (some ⟨g4, 0, none⟩) 16 c4].getD i .nilFunc) (fun i => [testB ((K : Int) + 4) 3, insB 22 4 1 (K : Int) 0, (insB 129 0 0 0 1 ++ insB 41 0 0 0 0), (insB 129 0 0 0 0 ++ insB 41 0 0 0 0)].getD i []) wx (by decide) (fun i hi => by match i, hi with | 0, _ => exact (by decide : 24 ≤ 100) | 1, _ => exact (by decide : 8 ≤ 100) | 2, _ => exact (by decide : 16 ≤ 100) | 3, _ => exact (by decide : 16 ≤ 100)) (fun i hi => by subst hx; match i, hi with | 0, _ => simp [go_sem] | 1, _ => simp [go_sem] | 2, _ => simp [go_sem] | 3, _ => simp [go_sem]) (fun i hi => by subst hx; match i, hi with | 0, _ => exact p2.out.later hA5 | 1, _ => exact p1.out.later hA5 | 2, _ => exact p3.out.later hA5 | 3, _ => exact p4.out.later hA5) 64 rfl (by decide)
  go_wp2_with fail
  refine (C5 _ rfl).mono ?_
  rintro e W5 ⟨g5, c5, rfl, o5, h5⟩
  replace h5 := hA5.trans (h5.mono hA5.size)
  replace p1 := hideX (p1.out.later h5)
  replace B := B.trans (h5.mono B.size)
  replace o5 := hideX o5
  clear C5 hA5 p2 p3 p4
  obtain ⟨hc1, hs1⟩ := harm_let K hK60
  have oF : Bys W5 _ _ (harmF (K : Int)) := o5.out
  have CL := wlet_any W5 hc1.len (by decide) (by decide) hc1.by1 oF hc1.good hs1
  have HCL := hideX CL
  clear CL oF o5 hc1 hs1
  go_wp2_with fail
  refine HCL.out.mono ?_
  rintro e W6 ⟨ff, gg, cc, rfl, _, _, _, h6⟩
  replace p1 := hideX (p1.out.later h6)
  replace B := B.trans (h6.mono B.size)
  clear h6 HCL
  go_wp2_with fail
  refine (wout_any 1 _).mono ?_
  rintro e W7 ⟨g7, c7, rfl, o7, h7⟩
  replace p1 := hideX (p1.out.later h7)
  replace B := B.trans (h7.mono B.size)
  have p7 := hideX (o7.part (by show 0 < 16; decide))
  clear o7 h7
  have hA8 : Below W7.heap.size W7 (W7.alloc (.cells #[Value.slice (some ⟨g1, 0, none⟩) 8 c1, Value.slice (some ⟨g7, 0, none⟩) 16 c7] 22)) := (Below.refl _ _).alloc (Nat.le_refl _) _
  have C8 := fun (wx : World) (hx : wx = (W7.alloc (.cells #[Value.slice (some ⟨g1, 0, none⟩) 8 c1, Value.slice (some ⟨g7, 0, none⟩) 16 c7] 22))) => wcode_any W7.heap.size 2 2 (fun i => [Value.slice (some ⟨g1, 0, none⟩) 8 c1, Value.slice (some ⟨g7, 0, none⟩) 16 c7].getD i .nilFunc) (fun i => [insB 22 4 1 (K : Int) 0, (insB 129 0 0 0 1 ++ insB 41 0 0 0 0)].getD i []) wx (by decide) (fun i hi => by match i, hi with | 0, _ => exact (by decide : 8 ≤ 100) | 1, _ => exact (by decide : 16 ≤ 100)) (fun i hi => by subst hx; match i, hi with | 0, _ => simp [go_sem] | 1, _ => simp [go_sem]) (fun i hi => by subst hx; match i, hi with | 0, _ => exact p1.out.later hA8 | 1, _ => exact p7.out.later hA8) 24 rfl (by decide)
  go_wp2_with fail
  refine (C8 _ rfl).mono ?_
  rintro e W8 ⟨g8, c8, rfl, o8, h8⟩
  replace h8 := hA8.trans (h8.mono hA8.size)
  replace p1 := hideX (p1.out.later h8)
  replace B := B.trans (h8.mono B.size)
  replace o8 := hideX o8
  clear C8 hA8 p7
  have bc := Below.refl W8.heap.size W8
  go_wp2_with fail
  refine (wtest_any ((K : Int) + 3) 3 _).mono ?_
  rintro e W9 ⟨g9, c9, rfl, o9, h9⟩
  replace p1 := hideX (p1.out.later h9)
  replace bc := bc.trans (h9.mono bc.size)
  replace B := B.trans (h9.mono B.size)
  have p9 := hideX (o9.part (by show 0 < 24; decide))
  clear o9 h9
  go_wp2_with fail
  refine (wout_any 1 _).mono ?_
  rintro e W10 ⟨g10, c10, rfl, o10, h10⟩
  replace p1 := hideX (p1.out.later h10)
  replace p9 := hideX (p9.out.later h10)
  replace bc := bc.trans (h10.mono bc.size)
  replace B := B.trans (h10.mono B.size)
  have p10 := hideX (o10.part (by show 0 < 16; decide))
  clear o10 h10
  go_wp2_with fail
  refine (wout_any 0 _).mono ?_
  rintro e W11 ⟨g11, c11, rfl, o11, h11⟩
  replace p1 := hideX (p1.out.later h11)
  replace p9 := hideX (p9.out.later h11)
  replace p10 := hideX (p10.out.later h11)
  replace bc := bc.trans (h11.mono bc.size)
  replace B := B.trans (h11.mono B.size)
  have p11 := hideX (o11.part (by show 0 < 16; decide))
  clear o11 h11
  have hA12 : Below W11.heap.size W11 (W11.alloc (.cells #[Value.slice (some ⟨g9, 0, none⟩) 24 c9, Value.slice (some ⟨g1, 0, none⟩) 8 c1, Value.slice (some ⟨g10, 0, none⟩) 16 c10, Value.slice (some ⟨g11, 0, none⟩) 16 c11] 22)) := (Below.refl _ _).alloc (Nat.le_refl _) _
  have C12 := fun (wx : World) (hx : wx = (W11.alloc (.cells #[Value.slice (some ⟨g9, 0, none⟩) 24 c9, Value.slice (some ⟨g1, 0, none⟩) 8 c1, Value.slice (some ⟨g10, 0, none⟩) 16 c10, Value.slice (some ⟨g11, 0, none⟩) 16 c11] 22))) => wcode_any W11.heap.size 4 4 (fun i => [Value.slice (some ⟨g9, 0, none⟩) 24 c9, Value.slice (some ⟨g1, 0, none⟩) 8 c1, Value.slice (some ⟨g10, 0, none⟩) 16 c10, Value.slice (some ⟨g11, 0, none⟩) 16 c11].getD i .nilFunc) (fun i => [testB ((K : Int) + 3) 3, insB 22 4 1 (K : Int) 0, (insB 129 0 0 0 1 ++ insB 41 0 0 0 0), (insB 129 0 0 0 0 ++ insB 41 0 0 0 0)].getD i []) wx (by decide) (fun i hi => by match i, hi with | 0, _ => exact (by decide : 24 ≤ 100) | 1, _ => exact (by decide : 8 ≤ 100) | 2, _ => exact (by decide : 16 ≤ 100) | 3, _ => exact (by decide : 16 ≤ 100)) (fun i hi => by subst hx; match i, hi with | 0, _ => simp [go_sem] | 1, _ => simp [go_sem] | 2, _ => simp [go_sem] | 3, _ => simp [go_sem]) (fun i hi => by subst hx; match i, hi with | 0, _ => exact p9.out.later hA12 | 1, _ => exact p1.out.later hA12 | 2, _ => exact p10.out.later hA12 | 3, _ => exact p11.out.later hA12) 64 rfl (by decide)
  go_wp2_with fail
  refine (C12 _ rfl).mono ?_
  rintro e W12 ⟨g12, c12, rfl, o12, h12⟩
  replace h12 := hA12.trans (h12.mono hA12.size)
  replace p1 := hideX (p1.out.later h12)
  replace bc := bc.trans (h12.mono bc.size)
  replace B := B.trans (h12.mono B.size)
  replace o12 := hideX o12
  clear C12 hA12 p9 p10 p11
  have D0 := hideX bc
  clear bc
  have bc := Below.refl W12.heap.size W12
  go_wp2_with fail
  refine (wtest_any ((K : Int) + 4) 3 _).mono ?_
  rintro e W13 ⟨g13, c13, rfl, o13, h13⟩
  replace p1 := hideX (p1.out.later h13)
  replace bc := bc.trans (h13.mono bc.size)
  replace B := B.trans (h13.mono B.size)
  have p13 := hideX (o13.part (by show 0 < 24; decide))
  clear o13 h13
  go_wp2_with fail
  refine (wins_any 22 4 1 ((K : Int) + 1) 0 _ (by decide) (by decide) (by decide) (by decide) (by decide) (by decide)).mono ?_
  rintro e W14 ⟨g14, c14, rfl, o14, h14⟩
  replace p1 := hideX (p1.out.later h14)
  replace p13 := hideX (p13.out.later h14)
  replace bc := bc.trans (h14.mono bc.size)
  replace B := B.trans (h14.mono B.size)
  have p14 := hideX (o14.part (by show 0 < 8; decide))
  clear o14 h14
  go_wp2_with fail
  refine (wout_any 1 _).mono ?_
  rintro e W15 ⟨g15, c15, rfl, o15, h15⟩
  replace p1 := hideX (p1.out.later h15)
  replace p13 := hideX (p13.out.later h15)
  replace p14 := hideX (p14.out.later h15)
  replace bc := bc.trans (h15.mono bc.size)
  replace B := B.trans (h15.mono B.size)
  have p15 := hideX (o15.part (by show 0 < 16; decide))
  clear o15 h15
  go_wp2_with fail
  refine (wout_any 0 _).mono ?_
  rintro e W16 ⟨g16, c16, rfl, o16, h16⟩
  replace p1 := hideX (p1.out.later h16)
  replace p13 := hideX (p13.out.later h16)
  replace p14 := hideX (p14.out.later h16)
  replace p15 := hideX (p15.out.later h16)
  replace bc := bc.trans (h16.mono bc.size)
  replace B := B.trans (h16.mono B.size)
  have p16 := hideX (o16.part (by show 0 < 16; decide))
  clear o16 h16
  have hA17 : Below W16.heap.size W16 (W16.alloc (.cells #[Value.slice (some ⟨g13, 0, none⟩) 24 c13, Value.slice (some ⟨g14, 0, none⟩) 8 c14, Value.slice (some ⟨g15, 0, none⟩) 16 c15, Value.slice (some ⟨g16, 0, none⟩) 16 c16] 22)) := (Below.refl _ _).alloc (Nat.le_refl _) _
  have C17 := fun (wx : World) (hx : wx = (W16.alloc (.cells #[Value.slice (some ⟨g13, 0, none⟩) 24 c13, Value.slice (some ⟨g14, 0, none⟩) 8 c14, Value.slice (some ⟨g15, 0, none⟩) 16 c15, Value.slice (some ⟨g16, 0, none⟩) 16 c16] 22))) => wcode_any W16.heap.size 4 4 (fun i => [Value.slice (some ⟨g13, 0, none⟩) 24 c13, Value.slice (some ⟨g14, 0, none⟩) 8 c14, Value.slice (some ⟨g15, 0, none⟩) 16 c15, Value.slice (some ⟨g16, 0, none⟩) 16 c16].getD i .nilFunc) (fun i => [testB ((K : Int) + 4) 3, insB 22 4 1 ((K : Int) + 1) 0, (insB 129 0 0 0 1 ++ insB 41 0 0 0 0), (insB 129 0 0 0 0 ++ insB 41 0 0 0 0)].getD i []) wx (by decide) (fun i hi => by match i, hi with | 0, _ => exact (by decide : 24 ≤ 100) | 1, _ => exact (by decide : 8 ≤ 100) | 2, _ => exact (by decide : 16 ≤ 100) | 3, _ => exact (by decide : 16 ≤ 100)) (fun i hi => by subst hx; match i, hi with | 0, _ => simp [go_sem] | 1, _ => simp [go_sem] | 2, _ => simp [go_sem] | 3, _ => simp [go_sem]) (fun i hi => by subst hx; match i, hi with | 0, _ => exact p13.out.later hA17 | 1, _ => exact p14.out.later hA17 | 2, _ => exact p15.out.later hA17 | 3, _ => exact p16.out.later hA17) 64 rfl (by decide)
  go_wp2_with fail
  refine (C17 _ rfl).mono ?_
  rintro e W17 ⟨g17, c17, rfl, o17, h17⟩
  replace h17 := hA17.trans (h17.mono hA17.size)
  replace p1 := hideX (p1.out.later h17)
  replace bc := bc.trans (h17.mono bc.size)
  replace B := B.trans (h17.mono B.size)
  replace o17 := hideX o17
  clear C17 hA17 p13 p14 p15 p16
  have D1 := hideX bc
  clear bc
  have bc := Below.refl W17.heap.size W17
  go_wp2_with fail
  refine (wtest_any ((K : Int) + 4) 3 _).mono ?_
  rintro e W18 ⟨g18, c18, rfl, o18, h18⟩
  replace p1 := hideX (p1.out.later h18)
  replace bc := bc.trans (h18.mono bc.size)
  replace B := B.trans (h18.mono B.size)
  have p18 := hideX (o18.part (by show 0 < 24; decide))
  clear o18 h18
  go_wp2_with fail
  refine (wins_any 22 4 1 (-1) 0 _ (by decide) (by decide) (by decide) (by decide) (by decide) (by decide)).mono ?_
  rintro e W19 ⟨g19, c19, rfl, o19, h19⟩
  replace p1 := hideX (p1.out.later h19)
  replace p18 := hideX (p18.out.later h19)
  replace bc := bc.trans (h19.mono bc.size)
  replace B := B.trans (h19.mono B.size)
  have p19 := hideX (o19.part (by show 0 < 8; decide))
  clear o19 h19
  go_wp2_with fail
  refine (wout_any 1 _).mono ?_
  rintro e W20 ⟨g20, c20, rfl, o20, h20⟩
  replace p1 := hideX (p1.out.later h20)
  replace p18 := hideX (p18.out.later h20)
  replace p19 := hideX (p19.out.later h20)
  replace bc := bc.trans (h20.mono bc.size)
  replace B := B.trans (h20.mono B.size)
  have p20 := hideX (o20.part (by show 0 < 16; decide))
  clear o20 h20
  go_wp2_with fail
  refine (wout_any 0 _).mono ?_
  rintro e W21 ⟨g21, c21, rfl, o21, h21⟩
  replace p1 := hideX (p1.out.later h21)
  replace p18 := hideX (p18.out.later h21)
  replace p19 := hideX (p19.out.later h21)
  replace p20 := hideX (p20.out.later h21)
  replace bc := bc.trans (h21.mono bc.size)
  replace B := B.trans (h21.mono B.size)
  have p21 := hideX (o21.part (by show 0 < 16; decide))
  clear o21 h21
  have hA22 : Below W21.heap.size W21 (W21.alloc (.cells #[Value.slice (some ⟨g18, 0, none⟩) 24 c18, Value.slice (some ⟨g19, 0, none⟩) 8 c19, Value.slice (some ⟨g20, 0, none⟩) 16 c20, Value.slice (some ⟨g21, 0, none⟩) 16 c21] 22)) := (Below.refl _ _).alloc (Nat.le_refl _) _
  have C22 := fun (wx : World) (hx : wx = (W21.alloc (.cells #[Value.slice (some ⟨g18, 0, none⟩) 24 c18, Value.slice (some ⟨g19, 0, none⟩) 8 c19, Value.slice (some ⟨g20, 0, none⟩) 16 c20, Value.slice (some ⟨g21, 0, none⟩) 16 c21] 22))) => wcode_any W21.heap.size 4 4 (fun i => [Value.slice (some ⟨g18, 0, none⟩) 24 c18, Value.slice (some ⟨g19, 0, none⟩) 8 c19, Value.slice (some ⟨g20, 0, none⟩) 16 c20, Value.slice (some ⟨g21, 0, none⟩) 16 c21].getD i .nilFunc) (fun i => [testB ((K : Int) + 4) 3, insB 22 4 1 (-1) 0, (insB 129 0 0 0 1 ++ insB 41 0 0 0 0), (insB 129 0 0 0 0 ++ insB 41 0 0 0 0)].getD i []) wx (by decide) (fun i hi => by match i, hi with | 0, _ => exact (by decide : 24 ≤ 100) | 1, _ => exact (by decide : 8 ≤ 100) | 2, _ => exact (by decide : 16 ≤ 100) | 3, _ => exact (by decide : 16 ≤ 100)) (fun i hi => by subst hx; match i, hi with | 0, _ => simp [go_sem] | 1, _ => simp [go_sem] | 2, _ => simp [go_sem] | 3, _ => simp [go_sem]) (fun i hi => by subst hx; match i, hi with | 0, _ => exact p18.out.later hA22 | 1, _ => exact p19.out.later hA22 | 2, _ => exact p20.out.later hA22 | 3, _ => exact p21.out.later hA22) 64 rfl (by decide)
  go_wp2_with fail
  refine (C22 _ rfl).mono ?_
  rintro e W22 ⟨g22, c22, rfl, o22, h22⟩
  replace h22 := hA22.trans (h22.mono hA22.size)
  replace p1 := hideX (p1.out.later h22)
  replace bc := bc.trans (h22.mono bc.size)
  replace B := B.trans (h22.mono B.size)
  replace o22 := hideX o22
  clear C22 hA22 p18 p19 p20 p21
  have D2 := hideX bc
  clear bc
  have bc := Below.refl W22.heap.size W22
  go_wp2_with fail
  refine (wtest_any ((K : Int) + 4) 0 _).mono ?_
  rintro e W23 ⟨g23, c23, rfl, o23, h23⟩
  replace p1 := hideX (p1.out.later h23)
  replace bc := bc.trans (h23.mono bc.size)
  replace B := B.trans (h23.mono B.size)
  have p23 := hideX (o23.part (by show 0 < 24; decide))
  clear o23 h23
  go_wp2_with fail
  refine (wout_any 1 _).mono ?_
  rintro e W24 ⟨g24, c24, rfl, o24, h24⟩
  replace p1 := hideX (p1.out.later h24)
  replace p23 := hideX (p23.out.later h24)
  replace bc := bc.trans (h24.mono bc.size)
  replace B := B.trans (h24.mono B.size)
  have p24 := hideX (o24.part (by show 0 < 16; decide))
  clear o24 h24
  have hA25 : Below W24.heap.size W24 (W24.alloc (.cells #[Value.slice (some ⟨g23, 0, none⟩) 24 c23, Value.slice (some ⟨g1, 0, none⟩) 8 c1, Value.slice (some ⟨g24, 0, none⟩) 16 c24] 22)) := (Below.refl _ _).alloc (Nat.le_refl _) _
  have C25 := fun (wx : World) (hx : wx = (W24.alloc (.cells #[Value.slice (some ⟨g23, 0, none⟩) 24 c23, Value.slice (some ⟨g1, 0, none⟩) 8 c1, Value.slice (some ⟨g24, 0, none⟩) 16 c24] 22))) => wcode_any W24.heap.size 3 3 (fun i => [Value.slice (some ⟨g23, 0, none⟩) 24 c23, Value.slice (some ⟨g1, 0, none⟩) 8 c1, Value.slice (some ⟨g24, 0, none⟩) 16 c24].getD i .nilFunc) (fun i => [testB ((K : Int) + 4) 0, insB 22 4 1 (K : Int) 0, (insB 129 0 0 0 1 ++ insB 41 0 0 0 0)].getD i []) wx (by decide) (fun i hi => by match i, hi with | 0, _ => exact (by decide : 24 ≤ 100) | 1, _ => exact (by decide : 8 ≤ 100) | 2, _ => exact (by decide : 16 ≤ 100)) (fun i hi => by subst hx; match i, hi with | 0, _ => simp [go_sem] | 1, _ => simp [go_sem] | 2, _ => simp [go_sem]) (fun i hi => by subst hx; match i, hi with | 0, _ => exact p23.out.later hA25 | 1, _ => exact p1.out.later hA25 | 2, _ => exact p24.out.later hA25) 48 rfl (by decide)
  go_wp2_with fail
  refine (C25 _ rfl).mono ?_
  rintro e W25 ⟨g25, c25, rfl, o25, h25⟩
  replace h25 := hA25.trans (h25.mono hA25.size)
  replace p1 := hideX (p1.out.later h25)
  replace bc := bc.trans (h25.mono bc.size)
  replace B := B.trans (h25.mono B.size)
  replace o25 := hideX o25
  clear C25 hA25 p23 p24
  have D3 := hideX bc
  clear bc
  have bc := Below.refl W25.heap.size W25
  go_wp2_with fail
  refine (wtest_any ((K : Int) + 4) 2 _).mono ?_
  rintro e W26 ⟨g26, c26, rfl, o26, h26⟩
  replace p1 := hideX (p1.out.later h26)
  replace bc := bc.trans (h26.mono bc.size)
  replace B := B.trans (h26.mono B.size)
  have p26 := hideX (o26.part (by show 0 < 24; decide))
  clear o26 h26
  go_wp2_with fail
  refine (wins_any 22 4 5 (K : Int) 0 _ (by decide) (by decide) (by decide) (by decide) (by decide) (by decide)).mono ?_
  rintro e W27 ⟨g27, c27, rfl, o27, h27⟩
  replace p1 := hideX (p1.out.later h27)
  replace p26 := hideX (p26.out.later h27)
  replace bc := bc.trans (h27.mono bc.size)
  replace B := B.trans (h27.mono B.size)
  have p27 := hideX (o27.part (by show 0 < 8; decide))
  clear o27 h27
  go_wp2_with fail
  refine (wout_any 1 _).mono ?_
  rintro e W28 ⟨g28, c28, rfl, o28, h28⟩
  replace p1 := hideX (p1.out.later h28)
  replace p26 := hideX (p26.out.later h28)
  replace p27 := hideX (p27.out.later h28)
  replace bc := bc.trans (h28.mono bc.size)
  replace B := B.trans (h28.mono B.size)
  have p28 := hideX (o28.part (by show 0 < 16; decide))
  clear o28 h28
  have hA29 : Below W28.heap.size W28 (W28.alloc (.cells #[Value.slice (some ⟨g26, 0, none⟩) 24 c26, Value.slice (some ⟨g27, 0, none⟩) 8 c27, Value.slice (some ⟨g28, 0, none⟩) 16 c28] 22)) := (Below.refl _ _).alloc (Nat.le_refl _) _
  have C29 := fun (wx : World) (hx : wx = (W28.alloc (.cells #[Value.slice (some ⟨g26, 0, none⟩) 24 c26, Value.slice (some ⟨g27, 0, none⟩) 8 c27, Value.slice (some ⟨g28, 0, none⟩) 16 c28] 22))) => wcode_any W28.heap.size 3 3 (fun i => [Value.slice (some ⟨g26, 0, none⟩) 24 c26, Value.slice (some ⟨g27, 0, none⟩) 8 c27, Value.slice (some ⟨g28, 0, none⟩) 16 c28].getD i .nilFunc) (fun i => [testB ((K : Int) + 4) 2, insB 22 4 5 (K : Int) 0, (insB 129 0 0 0 1 ++ insB 41 0 0 0 0)].getD i []) wx (by decide) (fun i hi => by match i, hi with | 0, _ => exact (by decide : 24 ≤ 100) | 1, _ => exact (by decide : 8 ≤ 100) | 2, _ => exact (by decide : 16 ≤ 100)) (fun i hi => by subst hx; match i, hi with | 0, _ => simp [go_sem] | 1, _ => simp [go_sem] | 2, _ => simp [go_sem]) (fun i hi => by subst hx; match i, hi with | 0, _ => exact p26.out.later hA29 | 1, _ => exact p27.out.later hA29 | 2, _ => exact p28.out.later hA29) 48 rfl (by decide)
  go_wp2_with fail
  refine (C29 _ rfl).mono ?_
  rintro e W29 ⟨g29, c29, rfl, o29, h29⟩
  replace h29 := hA29.trans (h29.mono hA29.size)
  replace p1 := hideX (p1.out.later h29)
  replace bc := bc.trans (h29.mono bc.size)
  replace B := B.trans (h29.mono B.size)
  replace o29 := hideX o29
  clear C29 hA29 p26 p27 p28
  have D4 := hideX bc
  clear bc
  have bc := Below.refl W29.heap.size W29
  go_wp2_with fail
  refine (wtest_any ((K : Int) + 4) 3 _).mono ?_
  rintro e W30 ⟨g30, c30, rfl, o30, h30⟩
  replace p1 := hideX (p1.out.later h30)
  replace bc := bc.trans (h30.mono bc.size)
  replace B := B.trans (h30.mono B.size)
  have p30 := hideX (o30.part (by show 0 < 24; decide))
  clear o30 h30
  go_wp2_with fail
  refine (wout_any 4 _).mono ?_
  rintro e W31 ⟨g31, c31, rfl, o31, h31⟩
  replace p1 := hideX (p1.out.later h31)
  replace p30 := hideX (p30.out.later h31)
  replace bc := bc.trans (h31.mono bc.size)
  replace B := B.trans (h31.mono B.size)
  have p31 := hideX (o31.part (by show 0 < 16; decide))
  clear o31 h31
  go_wp2_with fail
  refine (wout_any 0 _).mono ?_
  rintro e W32 ⟨g32, c32, rfl, o32, h32⟩
  replace p1 := hideX (p1.out.later h32)
  replace p30 := hideX (p30.out.later h32)
  replace p31 := hideX (p31.out.later h32)
  replace bc := bc.trans (h32.mono bc.size)
  replace B := B.trans (h32.mono B.size)
  have p32 := hideX (o32.part (by show 0 < 16; decide))
  clear o32 h32
  have hA33 : Below W32.heap.size W32 (W32.alloc (.cells #[Value.slice (some ⟨g30, 0, none⟩) 24 c30, Value.slice (some ⟨g1, 0, none⟩) 8 c1, Value.slice (some ⟨g31, 0, none⟩) 16 c31, Value.slice (some ⟨g32, 0, none⟩) 16 c32] 22)) := (Below.refl _ _).alloc (Nat.le_refl _) _
  have C33 := fun (wx : World) (hx : wx = (W32.alloc (.cells #[Value.slice (some ⟨g30, 0, none⟩) 24 c30, Value.slice (some ⟨g1, 0, none⟩) 8 c1, Value.slice (some ⟨g31, 0, none⟩) 16 c31, Value.slice (some ⟨g32, 0, none⟩) 16 c32] 22))) => wcode_any W32.heap.size 4 4 (fun i => [Value.slice (some ⟨g30, 0, none⟩) 24 c30, Value.slice (some ⟨g1, 0, none⟩) 8 c1, Value.slice (some ⟨g31, 0, none⟩) 16 c31, Value.slice (some ⟨g32, 0, none⟩) 16 c32].getD i .nilFunc) (fun i => [testB ((K : Int) + 4) 3, insB 22 4 1 (K : Int) 0, (insB 129 0 0 0 4 ++ insB 41 0 0 0 0), (insB 129 0 0 0 0 ++ insB 41 0 0 0 0)].getD i []) wx (by decide) (fun i hi => by match i, hi with | 0, _ => exact (by decide : 24 ≤ 100) | 1, _ => exact (by decide : 8 ≤ 100) | 2, _ => exact (by decide : 16 ≤ 100) | 3, _ => exact (by decide : 16 ≤ 100)) (fun i hi => by subst hx; match i, hi with | 0, _ => simp [go_sem] | 1, _ => simp [go_sem] | 2, _ => simp [go_sem] | 3, _ => simp [go_sem]) (fun i hi => by subst hx; match i, hi with | 0, _ => exact p30.out.later hA33 | 1, _ => exact p1.out.later hA33 | 2, _ => exact p31.out.later hA33 | 3, _ => exact p32.out.later hA33) 64 rfl (by decide)
  go_wp2_with fail
  refine (C33 _ rfl).mono ?_
  rintro e W33 ⟨g33, c33, rfl, o33, h33⟩
  replace h33 := hA33.trans (h33.mono hA33.size)
  replace p1 := hideX (p1.out.later h33)
  replace bc := bc.trans (h33.mono bc.size)
  replace B := B.trans (h33.mono B.size)
  replace o33 := hideX o33
  clear C33 hA33 p30 p31 p32
  have D5 := hideX bc
  clear bc
  have bc := Below.refl W33.heap.size W33
  go_wp2_with fail
  refine (wtest_any ((K : Int) + 4) 3 _).mono ?_
  rintro e W34 ⟨g34, c34, rfl, o34, h34⟩
  replace p1 := hideX (p1.out.later h34)
  replace bc := bc.trans (h34.mono bc.size)
  replace B := B.trans (h34.mono B.size)
  have p34 := hideX (o34.part (by show 0 < 24; decide))
  clear o34 h34
  go_wp2_with fail
  refine (wout_any (-1) _).mono ?_
  rintro e W35 ⟨g35, c35, rfl, o35, h35⟩
  replace p1 := hideX (p1.out.later h35)
  replace p34 := hideX (p34.out.later h35)
  replace bc := bc.trans (h35.mono bc.size)
  replace B := B.trans (h35.mono B.size)
  have p35 := hideX (o35.part (by show 0 < 16; decide))
  clear o35 h35
  go_wp2_with fail
  refine (wout_any 0 _).mono ?_
  rintro e W36 ⟨g36, c36, rfl, o36, h36⟩
  replace p1 := hideX (p1.out.later h36)
  replace p34 := hideX (p34.out.later h36)
  replace p35 := hideX (p35.out.later h36)
  replace bc := bc.trans (h36.mono bc.size)
  replace B := B.trans (h36.mono B.size)
  have p36 := hideX (o36.part (by show 0 < 16; decide))
  clear o36 h36
  have hA37 : Below W36.heap.size W36 (W36.alloc (.cells #[Value.slice (some ⟨g34, 0, none⟩) 24 c34, Value.slice (some ⟨g1, 0, none⟩) 8 c1, Value.slice (some ⟨g35, 0, none⟩) 16 c35, Value.slice (some ⟨g36, 0, none⟩) 16 c36] 22)) := (Below.refl _ _).alloc (Nat.le_refl _) _
  have C37 := fun (wx : World) (hx : wx = (W36.alloc (.cells #[Value.slice (some ⟨g34, 0, none⟩) 24 c34, Value.slice (some ⟨g1, 0, none⟩) 8 c1, Value.slice (some ⟨g35, 0, none⟩) 16 c35, Value.slice (some ⟨g36, 0, none⟩) 16 c36] 22))) => wcode_any W36.heap.size 4 4 (fun i => [Value.slice (some ⟨g34, 0, none⟩) 24 c34, Value.slice (some ⟨g1, 0, none⟩) 8 c1, Value.slice (some ⟨g35, 0, none⟩) 16 c35, Value.slice (some ⟨g36, 0, none⟩) 16 c36].getD i .nilFunc) (fun i => [testB ((K : Int) + 4) 3, insB 22 4 1 (K : Int) 0, (insB 129 0 0 0 (-1) ++ insB 41 0 0 0 0), (insB 129 0 0 0 0 ++ insB 41 0 0 0 0)].getD i []) wx (by decide) (fun i hi => by match i, hi with | 0, _ => exact (by decide : 24 ≤ 100) | 1, _ => exact (by decide : 8 ≤ 100) | 2, _ => exact (by decide : 16 ≤ 100) | 3, _ => exact (by decide : 16 ≤ 100)) (fun i hi => by subst hx; match i, hi with | 0, _ => simp [go_sem] | 1, _ => simp [go_sem] | 2, _ => simp [go_sem] | 3, _ => simp [go_sem]) (fun i hi => by subst hx; match i, hi with | 0, _ => exact p34.out.later hA37 | 1, _ => exact p1.out.later hA37 | 2, _ => exact p35.out.later hA37 | 3, _ => exact p36.out.later hA37) 64 rfl (by decide)
  go_wp2_with fail
  refine (C37 _ rfl).mono ?_
  rintro e W37 ⟨g37, c37, rfl, o37, h37⟩
  replace h37 := hA37.trans (h37.mono hA37.size)
  replace p1 := hideX (p1.out.later h37)
  replace bc := bc.trans (h37.mono bc.size)
  replace B := B.trans (h37.mono B.size)
  replace o37 := hideX o37
  clear C37 hA37 p34 p35 p36
  have D6 := hideX bc
  clear bc
  have bc := Below.refl W37.heap.size W37
  go_wp2_with fail
  refine (wtest_any ((K : Int) + 4) 2 _).mono ?_
  rintro e W38 ⟨g38, c38, rfl, o38, h38⟩
  replace p1 := hideX (p1.out.later h38)
  replace bc := bc.trans (h38.mono bc.size)
  replace B := B.trans (h38.mono B.size)
  have p38 := hideX (o38.part (by show 0 < 24; decide))
  clear o38 h38
  go_wp2_with fail
  refine (wmov_any 0 1 _ (by decide) (by decide)).mono ?_
  rintro e W39 ⟨g39, c39, rfl, o39, h39⟩
  replace p1 := hideX (p1.out.later h39)
  replace p38 := hideX (p38.out.later h39)
  replace bc := bc.trans (h39.mono bc.size)
  replace B := B.trans (h39.mono B.size)
  have p39 := hideX (o39.part (by show 0 < 8; decide))
  clear o39 h39
  go_wp2_with fail
  refine (wins_any 41 0 0 0 0 _ (by decide) (by decide) (by decide) (by decide) (by decide) (by decide)).mono ?_
  rintro e W40 ⟨g40, c40, rfl, o40, h40⟩
  replace p1 := hideX (p1.out.later h40)
  replace p38 := hideX (p38.out.later h40)
  replace p39 := hideX (p39.out.later h40)
  replace bc := bc.trans (h40.mono bc.size)
  replace B := B.trans (h40.mono B.size)
  have p40 := hideX (o40.part (by show 0 < 8; decide))
  clear o40 h40
  have hA41 : Below W40.heap.size W40 (W40.alloc (.cells #[Value.slice (some ⟨g38, 0, none⟩) 24 c38, Value.slice (some ⟨g1, 0, none⟩) 8 c1, Value.slice (some ⟨g39, 0, none⟩) 8 c39, Value.slice (some ⟨g40, 0, none⟩) 8 c40] 22)) := (Below.refl _ _).alloc (Nat.le_refl _) _
  have C41 := fun (wx : World) (hx : wx = (W40.alloc (.cells #[Value.slice (some ⟨g38, 0, none⟩) 24 c38, Value.slice (some ⟨g1, 0, none⟩) 8 c1, Value.slice (some ⟨g39, 0, none⟩) 8 c39, Value.slice (some ⟨g40, 0, none⟩) 8 c40] 22))) => wcode_any W40.heap.size 4 4 (fun i => [Value.slice (some ⟨g38, 0, none⟩) 24 c38, Value.slice (some ⟨g1, 0, none⟩) 8 c1, Value.slice (some ⟨g39, 0, none⟩) 8 c39, Value.slice (some ⟨g40, 0, none⟩) 8 c40].getD i .nilFunc) (fun i => [testB ((K : Int) + 4) 2, insB 22 4 1 (K : Int) 0, insB 129 0 0 0 1, insB 41 0 0 0 0].getD i []) wx (by decide) (fun i hi => by match i, hi with | 0, _ => exact (by decide : 24 ≤ 100) | 1, _ => exact (by decide : 8 ≤ 100) | 2, _ => exact (by decide : 8 ≤ 100) | 3, _ => exact (by decide : 8 ≤ 100)) (fun i hi => by subst hx; match i, hi with | 0, _ => simp [go_sem] | 1, _ => simp [go_sem] | 2, _ => simp [go_sem] | 3, _ => simp [go_sem]) (fun i hi => by subst hx; match i, hi with | 0, _ => exact p38.out.later hA41 | 1, _ => exact p1.out.later hA41 | 2, _ => exact p39.out.later hA41 | 3, _ => exact p40.out.later hA41) 48 rfl (by decide)
  go_wp2_with fail
  refine (C41 _ rfl).mono ?_
  rintro e W41 ⟨g41, c41, rfl, o41, h41⟩
  replace h41 := hA41.trans (h41.mono hA41.size)
  replace p1 := hideX (p1.out.later h41)
  replace bc := bc.trans (h41.mono bc.size)
  replace B := B.trans (h41.mono B.size)
  replace o41 := hideX o41
  clear C41 hA41 p38 p39 p40
  have D7 := hideX bc
  clear bc
  have bc := Below.refl W41.heap.size W41
  go_wp2_with fail
  refine (wins_any 1 0 1 0 0 _ (by decide) (by decide) (by decide) (by decide) (by decide) (by decide)).mono ?_
  rintro e W42 ⟨g42, c42, rfl, o42, h42⟩
  replace p1 := hideX (p1.out.later h42)
  replace bc := bc.trans (h42.mono bc.size)
  replace B := B.trans (h42.mono B.size)
  have p42 := hideX (o42.part (by show 0 < 8; decide))
  clear o42 h42
  go_wp2_with fail
  refine (wins_any 41 0 0 0 0 _ (by decide) (by decide) (by decide) (by decide) (by decide) (by decide)).mono ?_
  rintro e W43 ⟨g43, c43, rfl, o43, h43⟩
  replace p1 := hideX (p1.out.later h43)
  replace p42 := hideX (p42.out.later h43)
  replace bc := bc.trans (h43.mono bc.size)
  replace B := B.trans (h43.mono B.size)
  have p43 := hideX (o43.part (by show 0 < 8; decide))
  clear o43 h43
  have hA44 : Below W43.heap.size W43 (W43.alloc (.cells #[Value.slice (some ⟨g42, 0, none⟩) 8 c42, Value.slice (some ⟨g43, 0, none⟩) 8 c43] 22)) := (Below.refl _ _).alloc (Nat.le_refl _) _
  have C44 := fun (wx : World) (hx : wx = (W43.alloc (.cells #[Value.slice (some ⟨g42, 0, none⟩) 8 c42, Value.slice (some ⟨g43, 0, none⟩) 8 c43] 22))) => wcode_any W43.heap.size 2 2 (fun i => [Value.slice (some ⟨g42, 0, none⟩) 8 c42, Value.slice (some ⟨g43, 0, none⟩) 8 c43].getD i .nilFunc) (fun i => [insB 1 0 1 0 0, insB 41 0 0 0 0].getD i []) wx (by decide) (fun i hi => by match i, hi with | 0, _ => exact (by decide : 8 ≤ 100) | 1, _ => exact (by decide : 8 ≤ 100)) (fun i hi => by subst hx; match i, hi with | 0, _ => simp [go_sem] | 1, _ => simp [go_sem]) (fun i hi => by subst hx; match i, hi with | 0, _ => exact p42.out.later hA44 | 1, _ => exact p43.out.later hA44) 16 rfl (by decide)
  go_wp2_with fail
  refine (C44 _ rfl).mono ?_
  rintro e W44 ⟨g44, c44, rfl, o44, h44⟩
  replace h44 := hA44.trans (h44.mono hA44.size)
  replace p1 := hideX (p1.out.later h44)
  replace bc := bc.trans (h44.mono bc.size)
  replace B := B.trans (h44.mono B.size)
  replace o44 := hideX o44
  clear C44 hA44 p42 p43
  have D8 := hideX bc
  clear bc
  have bc := Below.refl W44.heap.size W44
  go_wp2_with fail
  refine (wins_any 20 4 2 (-1) 0 _ (by decide) (by decide) (by decide) (by decide) (by decide) (by decide)).mono ?_
  rintro e W45 ⟨g45, c45, rfl, o45, h45⟩
  replace p1 := hideX (p1.out.later h45)
  replace bc := bc.trans (h45.mono bc.size)
  replace B := B.trans (h45.mono B.size)
  have p45 := hideX (o45.part (by show 0 < 8; decide))
  clear o45 h45
  go_wp2_with fail
  refine (wout_any 1 _).mono ?_
  rintro e W46 ⟨g46, c46, rfl, o46, h46⟩
  replace p1 := hideX (p1.out.later h46)
  replace p45 := hideX (p45.out.later h46)
  replace bc := bc.trans (h46.mono bc.size)
  replace B := B.trans (h46.mono B.size)
  have p46 := hideX (o46.part (by show 0 < 16; decide))
  clear o46 h46
  have hA47 : Below W46.heap.size W46 (W46.alloc (.cells #[Value.slice (some ⟨g45, 0, none⟩) 8 c45, Value.slice (some ⟨g46, 0, none⟩) 16 c46] 22)) := (Below.refl _ _).alloc (Nat.le_refl _) _
  have C47 := fun (wx : World) (hx : wx = (W46.alloc (.cells #[Value.slice (some ⟨g45, 0, none⟩) 8 c45, Value.slice (some ⟨g46, 0, none⟩) 16 c46] 22))) => wcode_any W46.heap.size 2 2 (fun i => [Value.slice (some ⟨g45, 0, none⟩) 8 c45, Value.slice (some ⟨g46, 0, none⟩) 16 c46].getD i .nilFunc) (fun i => [insB 20 4 2 (-1) 0, (insB 129 0 0 0 1 ++ insB 41 0 0 0 0)].getD i []) wx (by decide) (fun i hi => by match i, hi with | 0, _ => exact (by decide : 8 ≤ 100) | 1, _ => exact (by decide : 16 ≤ 100)) (fun i hi => by subst hx; match i, hi with | 0, _ => simp [go_sem] | 1, _ => simp [go_sem]) (fun i hi => by subst hx; match i, hi with | 0, _ => exact p45.out.later hA47 | 1, _ => exact p46.out.later hA47) 24 rfl (by decide)
  go_wp2_with fail
  refine (C47 _ rfl).mono ?_
  rintro e W47 ⟨g47, c47, rfl, o47, h47⟩
  replace h47 := hA47.trans (h47.mono hA47.size)
  replace p1 := hideX (p1.out.later h47)
  replace bc := bc.trans (h47.mono bc.size)
  replace B := B.trans (h47.mono B.size)
  replace o47 := hideX o47
  clear C47 hA47 p45 p46
  have D9 := hideX bc
  clear bc
  have bc := Below.refl W47.heap.size W47
  go_wp2_with fail
  refine (wins_any 23 4 7 (-7) 0 _ (by decide) (by decide) (by decide) (by decide) (by decide) (by decide)).mono ?_
  rintro e W48 ⟨g48, c48, rfl, o48, h48⟩
  replace p1 := hideX (p1.out.later h48)
  replace bc := bc.trans (h48.mono bc.size)
  replace B := B.trans (h48.mono B.size)
  have p48 := hideX (o48.part (by show 0 < 8; decide))
  clear o48 h48
  go_wp2_with fail
  refine (wout_any 1 _).mono ?_
  rintro e W49 ⟨g49, c49, rfl, o49, h49⟩
  replace p1 := hideX (p1.out.later h49)
  replace p48 := hideX (p48.out.later h49)
  replace bc := bc.trans (h49.mono bc.size)
  replace B := B.trans (h49.mono B.size)
  have p49 := hideX (o49.part (by show 0 < 16; decide))
  clear o49 h49
  have hA50 : Below W49.heap.size W49 (W49.alloc (.cells #[Value.slice (some ⟨g48, 0, none⟩) 8 c48, Value.slice (some ⟨g49, 0, none⟩) 16 c49] 22)) := (Below.refl _ _).alloc (Nat.le_refl _) _
  have C50 := fun (wx : World) (hx : wx = (W49.alloc (.cells #[Value.slice (some ⟨g48, 0, none⟩) 8 c48, Value.slice (some ⟨g49, 0, none⟩) 16 c49] 22))) => wcode_any W49.heap.size 2 2 (fun i => [Value.slice (some ⟨g48, 0, none⟩) 8 c48, Value.slice (some ⟨g49, 0, none⟩) 16 c49].getD i .nilFunc) (fun i => [insB 23 4 7 (-7) 0, (insB 129 0 0 0 1 ++ insB 41 0 0 0 0)].getD i []) wx (by decide) (fun i hi => by match i, hi with | 0, _ => exact (by decide : 8 ≤ 100) | 1, _ => exact (by decide : 16 ≤ 100)) (fun i hi => by subst hx; match i, hi with | 0, _ => simp [go_sem] | 1, _ => simp [go_sem]) (fun i hi => by subst hx; match i, hi with | 0, _ => exact p48.out.later hA50 | 1, _ => exact p49.out.later hA50) 24 rfl (by decide)
  go_wp2_with fail
  refine (C50 _ rfl).mono ?_
  rintro e W50 ⟨g50, c50, rfl, o50, h50⟩
  replace h50 := hA50.trans (h50.mono hA50.size)
  replace p1 := hideX (p1.out.later h50)
  replace bc := bc.trans (h50.mono bc.size)
  replace B := B.trans (h50.mono B.size)
  replace o50 := hideX o50
  clear C50 hA50 p48 p49
  have D10 := hideX bc
  clear bc
  have bc := Below.refl W50.heap.size W50
  go_wp2_with fail
  refine (wins_any 20 4 7 (-33) 0 _ (by decide) (by decide) (by decide) (by decide) (by decide) (by decide)).mono ?_
  rintro e W51 ⟨g51, c51, rfl, o51, h51⟩
  replace p1 := hideX (p1.out.later h51)
  replace bc := bc.trans (h51.mono bc.size)
  replace B := B.trans (h51.mono B.size)
  have p51 := hideX (o51.part (by show 0 < 8; decide))
  clear o51 h51
  go_wp2_with fail
  refine (wout_any 1 _).mono ?_
  rintro e W52 ⟨g52, c52, rfl, o52, h52⟩
  replace p1 := hideX (p1.out.later h52)
  replace p51 := hideX (p51.out.later h52)
  replace bc := bc.trans (h52.mono bc.size)
  replace B := B.trans (h52.mono B.size)
  have p52 := hideX (o52.part (by show 0 < 16; decide))
  clear o52 h52
  have hA53 : Below W52.heap.size W52 (W52.alloc (.cells #[Value.slice (some ⟨g51, 0, none⟩) 8 c51, Value.slice (some ⟨g52, 0, none⟩) 16 c52] 22)) := (Below.refl _ _).alloc (Nat.le_refl _) _
  have C53 := fun (wx : World) (hx : wx = (W52.alloc (.cells #[Value.slice (some ⟨g51, 0, none⟩) 8 c51, Value.slice (some ⟨g52, 0, none⟩) 16 c52] 22))) => wcode_any W52.heap.size 2 2 (fun i => [Value.slice (some ⟨g51, 0, none⟩) 8 c51, Value.slice (some ⟨g52, 0, none⟩) 16 c52].getD i .nilFunc) (fun i => [insB 20 4 7 (-33) 0, (insB 129 0 0 0 1 ++ insB 41 0 0 0 0)].getD i []) wx (by decide) (fun i hi => by match i, hi with | 0, _ => exact (by decide : 8 ≤ 100) | 1, _ => exact (by decide : 16 ≤ 100)) (fun i hi => by subst hx; match i, hi with | 0, _ => simp [go_sem] | 1, _ => simp [go_sem]) (fun i hi => by subst hx; match i, hi with | 0, _ => exact p51.out.later hA53 | 1, _ => exact p52.out.later hA53) 24 rfl (by decide)
  go_wp2_with fail
  refine (C53 _ rfl).mono ?_
  rintro e W53 ⟨g53, c53, rfl, o53, h53⟩
  replace h53 := hA53.trans (h53.mono hA53.size)
  replace p1 := hideX (p1.out.later h53)
  replace bc := bc.trans (h53.mono bc.size)
  replace B := B.trans (h53.mono B.size)
  replace o53 := hideX o53
  clear C53 hA53 p51 p52
  have D11 := hideX bc
  clear bc
  have bc := Below.refl W53.heap.size W53
  go_wp2_with fail
  refine (wins_any 27 7 1 (-8) 0 _ (by decide) (by decide) (by decide) (by decide) (by decide) (by decide)).mono ?_
  rintro e W54 ⟨g54, c54, rfl, o54, h54⟩
  replace p1 := hideX (p1.out.later h54)
  replace bc := bc.trans (h54.mono bc.size)
  replace B := B.trans (h54.mono B.size)
  have p54 := hideX (o54.part (by show 0 < 8; decide))
  clear o54 h54
  go_wp2_with fail
  refine (wout_any 1 _).mono ?_
  rintro e W55 ⟨g55, c55, rfl, o55, h55⟩
  replace p1 := hideX (p1.out.later h55)
  replace p54 := hideX (p54.out.later h55)
  replace bc := bc.trans (h55.mono bc.size)
  replace B := B.trans (h55.mono B.size)
  have p55 := hideX (o55.part (by show 0 < 16; decide))
  clear o55 h55
  have hA56 : Below W55.heap.size W55 (W55.alloc (.cells #[Value.slice (some ⟨g54, 0, none⟩) 8 c54, Value.slice (some ⟨g55, 0, none⟩) 16 c55] 22)) := (Below.refl _ _).alloc (Nat.le_refl _) _
  have C56 := fun (wx : World) (hx : wx = (W55.alloc (.cells #[Value.slice (some ⟨g54, 0, none⟩) 8 c54, Value.slice (some ⟨g55, 0, none⟩) 16 c55] 22))) => wcode_any W55.heap.size 2 2 (fun i => [Value.slice (some ⟨g54, 0, none⟩) 8 c54, Value.slice (some ⟨g55, 0, none⟩) 16 c55].getD i .nilFunc) (fun i => [insB 27 7 1 (-8) 0, (insB 129 0 0 0 1 ++ insB 41 0 0 0 0)].getD i []) wx (by decide) (fun i hi => by match i, hi with | 0, _ => exact (by decide : 8 ≤ 100) | 1, _ => exact (by decide : 16 ≤ 100)) (fun i hi => by subst hx; match i, hi with | 0, _ => simp [go_sem] | 1, _ => simp [go_sem]) (fun i hi => by subst hx; match i, hi with | 0, _ => exact p54.out.later hA56 | 1, _ => exact p55.out.later hA56) 24 rfl (by decide)
  go_wp2_with fail
  refine (C56 _ rfl).mono ?_
  rintro e W56 ⟨g56, c56, rfl, o56, h56⟩
  replace h56 := hA56.trans (h56.mono hA56.size)
  replace p1 := hideX (p1.out.later h56)
  replace bc := bc.trans (h56.mono bc.size)
  replace B := B.trans (h56.mono B.size)
  replace o56 := hideX o56
  clear C56 hA56 p54 p55
  have D12 := hideX bc
  clear bc
  have bc := Below.refl W56.heap.size W56
  go_wp2_with fail
  refine (wins_any 2 1 7 0 0 _ (by decide) (by decide) (by decide) (by decide) (by decide) (by decide)).mono ?_
  rintro e W57 ⟨g57, c57, rfl, o57, h57⟩
  replace p1 := hideX (p1.out.later h57)
  replace bc := bc.trans (h57.mono bc.size)
  replace B := B.trans (h57.mono B.size)
  have p57 := hideX (o57.part (by show 0 < 8; decide))
  clear o57 h57
  go_wp2_with fail
  refine (wout_any 1 _).mono ?_
  rintro e W58 ⟨g58, c58, rfl, o58, h58⟩
  replace p1 := hideX (p1.out.later h58)
  replace p57 := hideX (p57.out.later h58)
  replace bc := bc.trans (h58.mono bc.size)
  replace B := B.trans (h58.mono B.size)
  have p58 := hideX (o58.part (by show 0 < 16; decide))
  clear o58 h58
  have hA59 : Below W58.heap.size W58 (W58.alloc (.cells #[Value.slice (some ⟨g57, 0, none⟩) 8 c57, Value.slice (some ⟨g58, 0, none⟩) 16 c58] 22)) := (Below.refl _ _).alloc (Nat.le_refl _) _
  have C59 := fun (wx : World) (hx : wx = (W58.alloc (.cells #[Value.slice (some ⟨g57, 0, none⟩) 8 c57, Value.slice (some ⟨g58, 0, none⟩) 16 c58] 22))) => wcode_any W58.heap.size 2 2 (fun i => [Value.slice (some ⟨g57, 0, none⟩) 8 c57, Value.slice (some ⟨g58, 0, none⟩) 16 c58].getD i .nilFunc) (fun i => [insB 2 1 7 0 0, (insB 129 0 0 0 1 ++ insB 41 0 0 0 0)].getD i []) wx (by decide) (fun i hi => by match i, hi with | 0, _ => exact (by decide : 8 ≤ 100) | 1, _ => exact (by decide : 16 ≤ 100)) (fun i hi => by subst hx; match i, hi with | 0, _ => simp [go_sem] | 1, _ => simp [go_sem]) (fun i hi => by subst hx; match i, hi with | 0, _ => exact p57.out.later hA59 | 1, _ => exact p58.out.later hA59) 24 rfl (by decide)
  go_wp2_with fail
  refine (C59 _ rfl).mono ?_
  rintro e W59 ⟨g59, c59, rfl, o59, h59⟩
  replace h59 := hA59.trans (h59.mono hA59.size)
  replace p1 := hideX (p1.out.later h59)
  replace bc := bc.trans (h59.mono bc.size)
  replace B := B.trans (h59.mono B.size)
  replace o59 := hideX o59
  clear C59 hA59 p57 p58
  have D13 := hideX bc
  clear bc
  have bc := Below.refl W59.heap.size W59
  go_wp2_with fail
  refine (wins_any 132 1 0 0 1 _ (by decide) (by decide) (by decide) (by decide) (by decide) (by decide)).mono ?_
  rintro e W60 ⟨g60, c60, rfl, o60, h60⟩
  replace p1 := hideX (p1.out.later h60)
  replace bc := bc.trans (h60.mono bc.size)
  replace B := B.trans (h60.mono B.size)
  have p60 := hideX (o60.part (by show 0 < 8; decide))
  clear o60 h60
  go_wp2_with fail
  refine (wout_any 1 _).mono ?_
  rintro e W61 ⟨g61, c61, rfl, o61, h61⟩
  replace p1 := hideX (p1.out.later h61)
  replace p60 := hideX (p60.out.later h61)
  replace bc := bc.trans (h61.mono bc.size)
  replace B := B.trans (h61.mono B.size)
  have p61 := hideX (o61.part (by show 0 < 16; decide))
  clear o61 h61
  have hA62 : Below W61.heap.size W61 (W61.alloc (.cells #[Value.slice (some ⟨g60, 0, none⟩) 8 c60, Value.slice (some ⟨g61, 0, none⟩) 16 c61] 22)) := (Below.refl _ _).alloc (Nat.le_refl _) _
  have C62 := fun (wx : World) (hx : wx = (W61.alloc (.cells #[Value.slice (some ⟨g60, 0, none⟩) 8 c60, Value.slice (some ⟨g61, 0, none⟩) 16 c61] 22))) => wcode_any W61.heap.size 2 2 (fun i => [Value.slice (some ⟨g60, 0, none⟩) 8 c60, Value.slice (some ⟨g61, 0, none⟩) 16 c61].getD i .nilFunc) (fun i => [insB 132 1 0 0 1, (insB 129 0 0 0 1 ++ insB 41 0 0 0 0)].getD i []) wx (by decide) (fun i hi => by match i, hi with | 0, _ => exact (by decide : 8 ≤ 100) | 1, _ => exact (by decide : 16 ≤ 100)) (fun i hi => by subst hx; match i, hi with | 0, _ => simp [go_sem] | 1, _ => simp [go_sem]) (fun i hi => by subst hx; match i, hi with | 0, _ => exact p60.out.later hA62 | 1, _ => exact p61.out.later hA62) 24 rfl (by decide)
  go_wp2_with fail
  refine (C62 _ rfl).mono ?_
  rintro e W62 ⟨g62, c62, rfl, o62, h62⟩
  replace h62 := hA62.trans (h62.mono hA62.size)
  replace p1 := hideX (p1.out.later h62)
  replace bc := bc.trans (h62.mono bc.size)
  replace B := B.trans (h62.mono B.size)
  replace o62 := hideX o62
  clear C62 hA62 p60 p61
  have D14 := hideX bc
  clear bc
  have bc := Below.refl W62.heap.size W62
  go_wp2_with fail
  refine (wins_any 130 1 0 0 1001 _ (by decide) (by decide) (by decide) (by decide) (by decide) (by decide)).mono ?_
  rintro e W63 ⟨g63, c63, rfl, o63, h63⟩
  replace p1 := hideX (p1.out.later h63)
  replace bc := bc.trans (h63.mono bc.size)
  replace B := B.trans (h63.mono B.size)
  have p63 := hideX (o63.part (by show 0 < 8; decide))
  clear o63 h63
  go_wp2_with fail
  refine (wout_any 1 _).mono ?_
  rintro e W64 ⟨g64, c64, rfl, o64, h64⟩
  replace p1 := hideX (p1.out.later h64)
  replace p63 := hideX (p63.out.later h64)
  replace bc := bc.trans (h64.mono bc.size)
  replace B := B.trans (h64.mono B.size)
  have p64 := hideX (o64.part (by show 0 < 16; decide))
  clear o64 h64
  have hA65 : Below W64.heap.size W64 (W64.alloc (.cells #[Value.slice (some ⟨g63, 0, none⟩) 8 c63, Value.slice (some ⟨g64, 0, none⟩) 16 c64] 22)) := (Below.refl _ _).alloc (Nat.le_refl _) _
  have C65 := fun (wx : World) (hx : wx = (W64.alloc (.cells #[Value.slice (some ⟨g63, 0, none⟩) 8 c63, Value.slice (some ⟨g64, 0, none⟩) 16 c64] 22))) => wcode_any W64.heap.size 2 2 (fun i => [Value.slice (some ⟨g63, 0, none⟩) 8 c63, Value.slice (some ⟨g64, 0, none⟩) 16 c64].getD i .nilFunc) (fun i => [insB 130 1 0 0 1001, (insB 129 0 0 0 1 ++ insB 41 0 0 0 0)].getD i []) wx (by decide) (fun i hi => by match i, hi with | 0, _ => exact (by decide : 8 ≤ 100) | 1, _ => exact (by decide : 16 ≤ 100)) (fun i hi => by subst hx; match i, hi with | 0, _ => simp [go_sem] | 1, _ => simp [go_sem]) (fun i hi => by subst hx; match i, hi with | 0, _ => exact p63.out.later hA65 | 1, _ => exact p64.out.later hA65) 24 rfl (by decide)
  go_wp2_with fail
  refine (C65 _ rfl).mono ?_
  rintro e W65 ⟨g65, c65, rfl, o65, h65⟩
  replace h65 := hA65.trans (h65.mono hA65.size)
  replace p1 := hideX (p1.out.later h65)
  replace bc := bc.trans (h65.mono bc.size)
  replace B := B.trans (h65.mono B.size)
  replace o65 := hideX o65
  clear C65 hA65 p63 p64
  have D15 := hideX bc
  clear bc
  have bc := Below.refl W65.heap.size W65
  go_wp2_with fail
  refine (wins_any 159 1 0 0 5 _ (by decide) (by decide) (by decide) (by decide) (by decide) (by decide)).mono ?_
  rintro e W66 ⟨g66, c66, rfl, o66, h66⟩
  replace p1 := hideX (p1.out.later h66)
  replace bc := bc.trans (h66.mono bc.size)
  replace B := B.trans (h66.mono B.size)
  have p66 := hideX (o66.part (by show 0 < 8; decide))
  clear o66 h66
  go_wp2_with fail
  refine (wout_any 1 _).mono ?_
  rintro e W67 ⟨g67, c67, rfl, o67, h67⟩
  replace p1 := hideX (p1.out.later h67)
  replace p66 := hideX (p66.out.later h67)
  replace bc := bc.trans (h67.mono bc.size)
  replace B := B.trans (h67.mono B.size)
  have p67 := hideX (o67.part (by show 0 < 16; decide))
  clear o67 h67
  have hA68 : Below W67.heap.size W67 (W67.alloc (.cells #[Value.slice (some ⟨g66, 0, none⟩) 8 c66, Value.slice (some ⟨g67, 0, none⟩) 16 c67] 22)) := (Below.refl _ _).alloc (Nat.le_refl _) _
  have C68 := fun (wx : World) (hx : wx = (W67.alloc (.cells #[Value.slice (some ⟨g66, 0, none⟩) 8 c66, Value.slice (some ⟨g67, 0, none⟩) 16 c67] 22))) => wcode_any W67.heap.size 2 2 (fun i => [Value.slice (some ⟨g66, 0, none⟩) 8 c66, Value.slice (some ⟨g67, 0, none⟩) 16 c67].getD i .nilFunc) (fun i => [insB 159 1 0 0 5, (insB 129 0 0 0 1 ++ insB 41 0 0 0 0)].getD i []) wx (by decide) (fun i hi => by match i, hi with | 0, _ => exact (by decide : 8 ≤ 100) | 1, _ => exact (by decide : 16 ≤ 100)) (fun i hi => by subst hx; match i, hi with | 0, _ => simp [go_sem] | 1, _ => simp [go_sem]) (fun i hi => by subst hx; match i, hi with | 0, _ => exact p66.out.later hA68 | 1, _ => exact p67.out.later hA68) 24 rfl (by decide)
  go_wp2_with fail
  refine (C68 _ rfl).mono ?_
  rintro e W68 ⟨g68, c68, rfl, o68, h68⟩
  replace h68 := hA68.trans (h68.mono hA68.size)
  replace p1 := hideX (p1.out.later h68)
  replace bc := bc.trans (h68.mono bc.size)
  replace B := B.trans (h68.mono B.size)
  replace o68 := hideX o68
  clear C68 hA68 p66 p67
  have D16 := hideX bc
  clear bc
  have bc := Below.refl W68.heap.size W68
  go_wp2_with fail
  refine (wins_any 31 1 7 0 0 _ (by decide) (by decide) (by decide) (by decide) (by decide) (by decide)).mono ?_
  rintro e W69 ⟨g69, c69, rfl, o69, h69⟩
  replace p1 := hideX (p1.out.later h69)
  replace bc := bc.trans (h69.mono bc.size)
  replace B := B.trans (h69.mono B.size)
  have p69 := hideX (o69.part (by show 0 < 8; decide))
  clear o69 h69
  go_wp2_with fail
  refine (wout_any 1 _).mono ?_
  rintro e W70 ⟨g70, c70, rfl, o70, h70⟩
  replace p1 := hideX (p1.out.later h70)
  replace p69 := hideX (p69.out.later h70)
  replace bc := bc.trans (h70.mono bc.size)
  replace B := B.trans (h70.mono B.size)
  have p70 := hideX (o70.part (by show 0 < 16; decide))
  clear o70 h70
  have hA71 : Below W70.heap.size W70 (W70.alloc (.cells #[Value.slice (some ⟨g69, 0, none⟩) 8 c69, Value.slice (some ⟨g70, 0, none⟩) 16 c70] 22)) := (Below.refl _ _).alloc (Nat.le_refl _) _
  have C71 := fun (wx : World) (hx : wx = (W70.alloc (.cells #[Value.slice (some ⟨g69, 0, none⟩) 8 c69, Value.slice (some ⟨g70, 0, none⟩) 16 c70] 22))) => wcode_any W70.heap.size 2 2 (fun i => [Value.slice (some ⟨g69, 0, none⟩) 8 c69, Value.slice (some ⟨g70, 0, none⟩) 16 c70].getD i .nilFunc) (fun i => [insB 31 1 7 0 0, (insB 129 0 0 0 1 ++ insB 41 0 0 0 0)].getD i []) wx (by decide) (fun i hi => by match i, hi with | 0, _ => exact (by decide : 8 ≤ 100) | 1, _ => exact (by decide : 16 ≤ 100)) (fun i hi => by subst hx; match i, hi with | 0, _ => simp [go_sem] | 1, _ => simp [go_sem]) (fun i hi => by subst hx; match i, hi with | 0, _ => exact p69.out.later hA71 | 1, _ => exact p70.out.later hA71) 24 rfl (by decide)
  go_wp2_with fail
  refine (C71 _ rfl).mono ?_
  rintro e W71 ⟨g71, c71, rfl, o71, h71⟩
  replace h71 := hA71.trans (h71.mono hA71.size)
  replace p1 := hideX (p1.out.later h71)
  replace bc := bc.trans (h71.mono bc.size)
  replace B := B.trans (h71.mono B.size)
  replace o71 := hideX o71
  clear C71 hA71 p69 p70
  have D17 := hideX bc
  clear bc
  have bc := Below.refl W71.heap.size W71
  go_wp2_with fail
  refine (wins_any 31 1 5 0 0 _ (by decide) (by decide) (by decide) (by decide) (by decide) (by decide)).mono ?_
  rintro e W72 ⟨g72, c72, rfl, o72, h72⟩
  replace p1 := hideX (p1.out.later h72)
  replace bc := bc.trans (h72.mono bc.size)
  replace B := B.trans (h72.mono B.size)
  have p72 := hideX (o72.part (by show 0 < 8; decide))
  clear o72 h72
  go_wp2_with fail
  refine (wout_any 1 _).mono ?_
  rintro e W73 ⟨g73, c73, rfl, o73, h73⟩
  replace p1 := hideX (p1.out.later h73)
  replace p72 := hideX (p72.out.later h73)
  replace bc := bc.trans (h73.mono bc.size)
  replace B := B.trans (h73.mono B.size)
  have p73 := hideX (o73.part (by show 0 < 16; decide))
  clear o73 h73
  have hA74 : Below W73.heap.size W73 (W73.alloc (.cells #[Value.slice (some ⟨g72, 0, none⟩) 8 c72, Value.slice (some ⟨g73, 0, none⟩) 16 c73] 22)) := (Below.refl _ _).alloc (Nat.le_refl _) _
  have C74 := fun (wx : World) (hx : wx = (W73.alloc (.cells #[Value.slice (some ⟨g72, 0, none⟩) 8 c72, Value.slice (some ⟨g73, 0, none⟩) 16 c73] 22))) => wcode_any W73.heap.size 2 2 (fun i => [Value.slice (some ⟨g72, 0, none⟩) 8 c72, Value.slice (some ⟨g73, 0, none⟩) 16 c73].getD i .nilFunc) (fun i => [insB 31 1 5 0 0, (insB 129 0 0 0 1 ++ insB 41 0 0 0 0)].getD i []) wx (by decide) (fun i hi => by match i, hi with | 0, _ => exact (by decide : 8 ≤ 100) | 1, _ => exact (by decide : 16 ≤ 100)) (fun i hi => by subst hx; match i, hi with | 0, _ => simp [go_sem] | 1, _ => simp [go_sem]) (fun i hi => by subst hx; match i, hi with | 0, _ => exact p72.out.later hA74 | 1, _ => exact p73.out.later hA74) 24 rfl (by decide)
  go_wp2_with fail
  refine (C74 _ rfl).mono ?_
  rintro e W74 ⟨g74, c74, rfl, o74, h74⟩
  replace h74 := hA74.trans (h74.mono hA74.size)
  replace p1 := hideX (p1.out.later h74)
  replace bc := bc.trans (h74.mono bc.size)
  replace B := B.trans (h74.mono B.size)
  replace o74 := hideX o74
  clear C74 hA74 p72 p73
  have D18 := hideX bc
  clear bc
  have bc := Below.refl W74.heap.size W74
  go_wp2_with fail
  refine (wins_any 40 0 0 0 1 _ (by decide) (by decide) (by decide) (by decide) (by decide) (by decide)).mono ?_
  rintro e W75 ⟨g75, c75, rfl, o75, h75⟩
  replace p1 := hideX (p1.out.later h75)
  replace bc := bc.trans (h75.mono bc.size)
  replace B := B.trans (h75.mono B.size)
  have p75 := hideX (o75.part (by show 0 < 8; decide))
  clear o75 h75
  go_wp2_with fail
  refine (wout_any 1 _).mono ?_
  rintro e W76 ⟨g76, c76, rfl, o76, h76⟩
  replace p1 := hideX (p1.out.later h76)
  replace p75 := hideX (p75.out.later h76)
  replace bc := bc.trans (h76.mono bc.size)
  replace B := B.trans (h76.mono B.size)
  have p76 := hideX (o76.part (by show 0 < 16; decide))
  clear o76 h76
  have hA77 : Below W76.heap.size W76 (W76.alloc (.cells #[Value.slice (some ⟨g75, 0, none⟩) 8 c75, Value.slice (some ⟨g76, 0, none⟩) 16 c76] 22)) := (Below.refl _ _).alloc (Nat.le_refl _) _
  have C77 := fun (wx : World) (hx : wx = (W76.alloc (.cells #[Value.slice (some ⟨g75, 0, none⟩) 8 c75, Value.slice (some ⟨g76, 0, none⟩) 16 c76] 22))) => wcode_any W76.heap.size 2 2 (fun i => [Value.slice (some ⟨g75, 0, none⟩) 8 c75, Value.slice (some ⟨g76, 0, none⟩) 16 c76].getD i .nilFunc) (fun i => [insB 40 0 0 0 1, (insB 129 0 0 0 1 ++ insB 41 0 0 0 0)].getD i []) wx (by decide) (fun i hi => by match i, hi with | 0, _ => exact (by decide : 8 ≤ 100) | 1, _ => exact (by decide : 16 ≤ 100)) (fun i hi => by subst hx; match i, hi with | 0, _ => simp [go_sem] | 1, _ => simp [go_sem]) (fun i hi => by subst hx; match i, hi with | 0, _ => exact p75.out.later hA77 | 1, _ => exact p76.out.later hA77) 24 rfl (by decide)
  go_wp2_with fail
  refine (C77 _ rfl).mono ?_
  rintro e W77 ⟨g77, c77, rfl, o77, h77⟩
  replace h77 := hA77.trans (h77.mono hA77.size)
  replace p1 := hideX (p1.out.later h77)
  replace bc := bc.trans (h77.mono bc.size)
  replace B := B.trans (h77.mono B.size)
  replace o77 := hideX o77
  clear C77 hA77 p75 p76
  have D19 := hideX bc
  clear bc
  have bc := Below.refl W77.heap.size W77
  go_wp2_with fail
  refine (wtest_any ((K : Int) + 4) 5 _).mono ?_
  rintro e W78 ⟨g78, c78, rfl, o78, h78⟩
  replace p1 := hideX (p1.out.later h78)
  replace bc := bc.trans (h78.mono bc.size)
  replace B := B.trans (h78.mono B.size)
  have p78 := hideX (o78.part (by show 0 < 24; decide))
  clear o78 h78
  go_wp2_with fail
  refine (wmov_any 1 1 _ (by decide) (by decide)).mono ?_
  rintro e W79 ⟨g79, c79, rfl, o79, h79⟩
  replace p1 := hideX (p1.out.later h79)
  replace p78 := hideX (p78.out.later h79)
  replace bc := bc.trans (h79.mono bc.size)
  replace B := B.trans (h79.mono B.size)
  have p79 := hideX (o79.part (by show 0 < 8; decide))
  clear o79 h79
  go_wp2_with fail
  refine (wins_any 40 0 0 0 1 _ (by decide) (by decide) (by decide) (by decide) (by decide) (by decide)).mono ?_
  rintro e W80 ⟨g80, c80, rfl, o80, h80⟩
  replace p1 := hideX (p1.out.later h80)
  replace p78 := hideX (p78.out.later h80)
  replace p79 := hideX (p79.out.later h80)
  replace bc := bc.trans (h80.mono bc.size)
  replace B := B.trans (h80.mono B.size)
  have p80 := hideX (o80.part (by show 0 < 8; decide))
  clear o80 h80
  go_wp2_with fail
  refine (wout_any 1 _).mono ?_
  rintro e W81 ⟨g81, c81, rfl, o81, h81⟩
  replace p1 := hideX (p1.out.later h81)
  replace p78 := hideX (p78.out.later h81)
  replace p79 := hideX (p79.out.later h81)
  replace p80 := hideX (p80.out.later h81)
  replace bc := bc.trans (h81.mono bc.size)
  replace B := B.trans (h81.mono B.size)
  have p81 := hideX (o81.part (by show 0 < 16; decide))
  clear o81 h81
  go_wp2_with fail
  refine (wout_any 0 _).mono ?_
  rintro e W82 ⟨g82, c82, rfl, o82, h82⟩
  replace p1 := hideX (p1.out.later h82)
  replace p78 := hideX (p78.out.later h82)
  replace p79 := hideX (p79.out.later h82)
  replace p80 := hideX (p80.out.later h82)
  replace p81 := hideX (p81.out.later h82)
  replace bc := bc.trans (h82.mono bc.size)
  replace B := B.trans (h82.mono B.size)
  have p82 := hideX (o82.part (by show 0 < 16; decide))
  clear o82 h82
  have hA83 : Below W82.heap.size W82 (W82.alloc (.cells #[Value.slice (some ⟨g78, 0, none⟩) 24 c78, Value.slice (some ⟨g79, 0, none⟩) 8 c79, Value.slice (some ⟨g80, 0, none⟩) 8 c80, Value.slice (some ⟨g1, 0, none⟩) 8 c1, Value.slice (some ⟨g81, 0, none⟩) 16 c81, Value.slice (some ⟨g82, 0, none⟩) 16 c82] 22)) := (Below.refl _ _).alloc (Nat.le_refl _) _
  have C83 := fun (wx : World) (hx : wx = (W82.alloc (.cells #[Value.slice (some ⟨g78, 0, none⟩) 24 c78, Value.slice (some ⟨g79, 0, none⟩) 8 c79, Value.slice (some ⟨g80, 0, none⟩) 8 c80, Value.slice (some ⟨g1, 0, none⟩) 8 c1, Value.slice (some ⟨g81, 0, none⟩) 16 c81, Value.slice (some ⟨g82, 0, none⟩) 16 c82] 22))) => wcode_any W82.heap.size 6 6 (fun i => [Value.slice (some ⟨g78, 0, none⟩) 24 c78, Value.slice (some ⟨g79, 0, none⟩) 8 c79, Value.slice (some ⟨g80, 0, none⟩) 8 c80, Value.slice (some ⟨g1, 0, none⟩) 8 c1, Value.slice (some ⟨g81, 0, none⟩) 16 c81, Value.slice (some ⟨g82, 0, none⟩) 16 c82].getD i .nilFunc) (fun i => [testB ((K : Int) + 4) 5, insB 129 1 0 0 1, insB 40 0 0 0 1, insB 22 4 1 (K : Int) 0, (insB 129 0 0 0 1 ++ insB 41 0 0 0 0), (insB 129 0 0 0 0 ++ insB 41 0 0 0 0)].getD i []) wx (by decide) (fun i hi => by match i, hi with | 0, _ => exact (by decide : 24 ≤ 100) | 1, _ => exact (by decide : 8 ≤ 100) | 2, _ => exact (by decide : 8 ≤ 100) | 3, _ => exact (by decide : 8 ≤ 100) | 4, _ => exact (by decide : 16 ≤ 100) | 5, _ => exact (by decide : 16 ≤ 100)) (fun i hi => by subst hx; match i, hi with | 0, _ => simp [go_sem] | 1, _ => simp [go_sem] | 2, _ => simp [go_sem] | 3, _ => simp [go_sem] | 4, _ => simp [go_sem] | 5, _ => simp [go_sem]) (fun i hi => by subst hx; match i, hi with | 0, _ => exact p78.out.later hA83 | 1, _ => exact p79.out.later hA83 | 2, _ => exact p80.out.later hA83 | 3, _ => exact p1.out.later hA83 | 4, _ => exact p81.out.later hA83 | 5, _ => exact p82.out.later hA83) 80 rfl (by decide)
  go_wp2_with fail
  refine (C83 _ rfl).mono ?_
  rintro e W83 ⟨g83, c83, rfl, o83, h83⟩
  replace h83 := hA83.trans (h83.mono hA83.size)
  replace p1 := hideX (p1.out.later h83)
  replace bc := bc.trans (h83.mono bc.size)
  replace B := B.trans (h83.mono B.size)
  replace o83 := hideX o83
  clear C83 hA83 p78 p79 p80 p81 p82
  have D20 := hideX bc
  clear bc
  have bc := Below.refl W83.heap.size W83
  clear bc
  have S21 := Below.refl W83.heap.size W83
  have S20 := D20.out.trans (S21.mono D20.out.size)
  have S19 := D19.out.trans (S20.mono D19.out.size)
  have S18 := D18.out.trans (S19.mono D18.out.size)
  have S17 := D17.out.trans (S18.mono D17.out.size)
  have S16 := D16.out.trans (S17.mono D16.out.size)
  have S15 := D15.out.trans (S16.mono D15.out.size)
  have S14 := D14.out.trans (S15.mono D14.out.size)
  have S13 := D13.out.trans (S14.mono D13.out.size)
  have S12 := D12.out.trans (S13.mono D12.out.size)
  have S11 := D11.out.trans (S12.mono D11.out.size)
  have S10 := D10.out.trans (S11.mono D10.out.size)
  have S9 := D9.out.trans (S10.mono D9.out.size)
  have S8 := D8.out.trans (S9.mono D8.out.size)
  have S7 := D7.out.trans (S8.mono D7.out.size)
  have S6 := D6.out.trans (S7.mono D6.out.size)
  have S5 := D5.out.trans (S6.mono D5.out.size)
  have S4 := D4.out.trans (S5.mono D4.out.size)
  have S3 := D3.out.trans (S4.mono D3.out.size)
  have S2 := D2.out.trans (S3.mono D2.out.size)
  have S1 := D1.out.trans (S2.mono D1.out.size)
  have S0 := D0.out.trans (S1.mono D0.out.size)
  have hall : ∀ J, J < 22 → Bys W83 0 (.slice (some ⟨([g8, g12, g17, g22, g25, g29, g33, g37, g41, g44, g47, g50, g53, g56, g59, g62, g65, g68, g71, g74, g77, g83] : List Nat).getD J 0, 0, none⟩) (8 * harmN J) (([c8, c12, c17, c22, c25, c29, c33, c37, c41, c44, c47, c50, c53, c56, c59, c62, c65, c68, c71, c74, c77, c83] : List Nat).getD J 0)) (harmC J (K : Int)) := fun J hJ => by
    match J, hJ with
    | 0, _ => exact (o8.out.later S0).base (Nat.zero_le _)
    | 1, _ => exact (o12.out.later S1).base (Nat.zero_le _)
    | 2, _ => exact (o17.out.later S2).base (Nat.zero_le _)
    | 3, _ => exact (o22.out.later S3).base (Nat.zero_le _)
    | 4, _ => exact (o25.out.later S4).base (Nat.zero_le _)
    | 5, _ => exact (o29.out.later S5).base (Nat.zero_le _)
    | 6, _ => exact (o33.out.later S6).base (Nat.zero_le _)
    | 7, _ => exact (o37.out.later S7).base (Nat.zero_le _)
    | 8, _ => exact (o41.out.later S8).base (Nat.zero_le _)
    | 9, _ => exact (o44.out.later S9).base (Nat.zero_le _)
    | 10, _ => exact (o47.out.later S10).base (Nat.zero_le _)
    | 11, _ => exact (o50.out.later S11).base (Nat.zero_le _)
    | 12, _ => exact (o53.out.later S12).base (Nat.zero_le _)
    | 13, _ => exact (o56.out.later S13).base (Nat.zero_le _)
    | 14, _ => exact (o59.out.later S14).base (Nat.zero_le _)
    | 15, _ => exact (o62.out.later S15).base (Nat.zero_le _)
    | 16, _ => exact (o65.out.later S16).base (Nat.zero_le _)
    | 17, _ => exact (o68.out.later S17).base (Nat.zero_le _)
    | 18, _ => exact (o71.out.later S18).base (Nat.zero_le _)
    | 19, _ => exact (o74.out.later S19).base (Nat.zero_le _)
    | 20, _ => exact (o77.out.later S20).base (Nat.zero_le _)
    | 21, _ => exact (o83.out.later S21).base (Nat.zero_le _)
    | q + 22, hq => exact absurd hq (by omega)
  have hcell : ∀ J, J < 22 → (W83.alloc (.cells #[Value.slice (some ⟨g8, 0, none⟩) 24 c8, Value.slice (some ⟨g12, 0, none⟩) 64 c12, Value.slice (some ⟨g17, 0, none⟩) 64 c17, Value.slice (some ⟨g22, 0, none⟩) 64 c22, Value.slice (some ⟨g25, 0, none⟩) 48 c25, Value.slice (some ⟨g29, 0, none⟩) 48 c29, Value.slice (some ⟨g33, 0, none⟩) 64 c33, Value.slice (some ⟨g37, 0, none⟩) 64 c37, Value.slice (some ⟨g41, 0, none⟩) 48 c41, Value.slice (some ⟨g44, 0, none⟩) 16 c44, Value.slice (some ⟨g47, 0, none⟩) 24 c47, Value.slice (some ⟨g50, 0, none⟩) 24 c50, Value.slice (some ⟨g53, 0, none⟩) 24 c53, Value.slice (some ⟨g56, 0, none⟩) 24 c56, Value.slice (some ⟨g59, 0, none⟩) 24 c59, Value.slice (some ⟨g62, 0, none⟩) 24 c62, Value.slice (some ⟨g65, 0, none⟩) 24 c65, Value.slice (some ⟨g68, 0, none⟩) 24 c68, Value.slice (some ⟨g71, 0, none⟩) 24 c71, Value.slice (some ⟨g74, 0, none⟩) 24 c74, Value.slice (some ⟨g77, 0, none⟩) 24 c77, Value.slice (some ⟨g83, 0, none⟩) 80 c83] 22)).cell? ⟨W83.heap.size, J, none⟩ = some (.slice (some ⟨([g8, g12, g17, g22, g25, g29, g33, g37, g41, g44, g47, g50, g53, g56, g59, g62, g65, g68, g71, g74, g77, g83] : List Nat).getD J 0, 0, none⟩) (8 * harmN J) (([c8, c12, c17, c22, c25, c29, c33, c37, c41, c44, c47, c50, c53, c56, c59, c62, c65, c68, c71, c74, c77, c83] : List Nat).getD J 0)) := fun J hJ => by
    rw [cell_of_row _ W83.heap.size J _ _ _ (heap_alloc_new W83 _)]
    match J, hJ with
    | 0, _ => rfl
    | 1, _ => rfl
    | 2, _ => rfl
    | 3, _ => rfl
    | 4, _ => rfl
    | 5, _ => rfl
    | 6, _ => rfl
    | 7, _ => rfl
    | 8, _ => rfl
    | 9, _ => rfl
    | 10, _ => rfl
    | 11, _ => rfl
    | 12, _ => rfl
    | 13, _ => rfl
    | 14, _ => rfl
    | 15, _ => rfl
    | 16, _ => rfl
    | 17, _ => rfl
    | 18, _ => rfl
    | 19, _ => rfl
    | 20, _ => rfl
    | 21, _ => rfl
    | q + 22, hq => exact absurd hq (by omega)
  have HALL := hideX hall
  have HCELL := hideX hcell
  clear hall hcell p1 S0 S1 S2 S3 S4 S5 S6 S7 S8 S9 S10 S11 S12 S13 S14 S15 S16 S17 S18 S19 S20 S21 D0 D1 D2 D3 D4 D5 D6 D7 D8 D9 D10 D11 D12 D13 D14 D15 D16 D17 D18 D19 D20 o8 o12 o17 o22 o25 o29 o33 o37 o41 o44 o47 o50 o53 o56 o59 o62 o65 o68 o71 o74 o77 o83
  obtain ⟨J, hJ⟩ := Int.eq_ofNat_of_zero_le (pickR_bd which 22 (by decide)).1
  have hJ22 : J < 22 := by have := (pickR_bd which 22 (by decide)).2; omega
  have CP := fun wx => wpick_any which 22 wx hq0 hq1 (by decide) (by decide)
  rw [hJ] at CP
  have HCP := hideX CP
  clear CP hJ
  have cJ := HCELL.out J hJ22
  have HBJ := hideX (HALL.out J hJ22)
  clear HCELL HALL
  obtain ⟨hcj, kk, hkk⟩ := harm_code K J hK60 hJ22
  have hNb := harmN_bd ⟨J, hJ22⟩
  dsimp only at hNb
  have hAl : Below W83.heap.size W83 (W83.alloc (.cells #[Value.slice (some ⟨g8, 0, none⟩) 24 c8, Value.slice (some ⟨g12, 0, none⟩) 64 c12, Value.slice (some ⟨g17, 0, none⟩) 64 c17, Value.slice (some ⟨g22, 0, none⟩) 64 c22, Value.slice (some ⟨g25, 0, none⟩) 48 c25, Value.slice (some ⟨g29, 0, none⟩) 48 c29, Value.slice (some ⟨g33, 0, none⟩) 64 c33, Value.slice (some ⟨g37, 0, none⟩) 64 c37, Value.slice (some ⟨g41, 0, none⟩) 48 c41, Value.slice (some ⟨g44, 0, none⟩) 16 c44, Value.slice (some ⟨g47, 0, none⟩) 24 c47, Value.slice (some ⟨g50, 0, none⟩) 24 c50, Value.slice (some ⟨g53, 0, none⟩) 24 c53, Value.slice (some ⟨g56, 0, none⟩) 24 c56, Value.slice (some ⟨g59, 0, none⟩) 24 c59, Value.slice (some ⟨g62, 0, none⟩) 24 c62, Value.slice (some ⟨g65, 0, none⟩) 24 c65, Value.slice (some ⟨g68, 0, none⟩) 24 c68, Value.slice (some ⟨g71, 0, none⟩) 24 c71, Value.slice (some ⟨g74, 0, none⟩) 24 c74, Value.slice (some ⟨g77, 0, none⟩) 24 c77, Value.slice (some ⟨g83, 0, none⟩) 80 c83] 22)) := (Below.refl _ _).alloc (Nat.le_refl _) _
  replace B := B.trans (hAl.mono B.size)
  replace HBJ := hideX (HBJ.out.later hAl)
  have CL := load_part (W83.alloc (.cells #[Value.slice (some ⟨g8, 0, none⟩) 24 c8, Value.slice (some ⟨g12, 0, none⟩) 64 c12, Value.slice (some ⟨g17, 0, none⟩) 64 c17, Value.slice (some ⟨g22, 0, none⟩) 64 c22, Value.slice (some ⟨g25, 0, none⟩) 48 c25, Value.slice (some ⟨g29, 0, none⟩) 48 c29, Value.slice (some ⟨g33, 0, none⟩) 64 c33, Value.slice (some ⟨g37, 0, none⟩) 64 c37, Value.slice (some ⟨g41, 0, none⟩) 48 c41, Value.slice (some ⟨g44, 0, none⟩) 16 c44, Value.slice (some ⟨g47, 0, none⟩) 24 c47, Value.slice (some ⟨g50, 0, none⟩) 24 c50, Value.slice (some ⟨g53, 0, none⟩) 24 c53, Value.slice (some ⟨g56, 0, none⟩) 24 c56, Value.slice (some ⟨g59, 0, none⟩) 24 c59, Value.slice (some ⟨g62, 0, none⟩) 24 c62, Value.slice (some ⟨g65, 0, none⟩) 24 c65, Value.slice (some ⟨g68, 0, none⟩) 24 c68, Value.slice (some ⟨g71, 0, none⟩) 24 c71, Value.slice (some ⟨g74, 0, none⟩) 24 c74, Value.slice (some ⟨g77, 0, none⟩) 24 c77, Value.slice (some ⟨g83, 0, none⟩) 80 c83] 22)) hcj.len hNb.1 hNb.2 hcj.by1 HBJ.out
  have klt := safeR_lt (I := piOf (lb (harmC J (K : Int)))) (harmN J) 0 st0 kk hkk
  have hgood := hcj.good
  have HG := hideX hgood
  have HKK := hideX hkk
  have HCL := hideX CL
  clear CL hcj HBJ hkk hgood hAl
  generalize harmN J = nJ at cJ HCL HG HKK klt hNb ⊢
  generalize ([g8, g12, g17, g22, g25, g29, g33, g37, g41, g44, g47, g50, g53, g56, g59, g62, g65, g68, g71, g74, g77, g83] : List Nat).getD J 0 = gJ at cJ HCL
  generalize ([c8, c12, c17, c22, c25, c29, c33, c37, c41, c44, c47, c50, c53, c56, c59, c62, c65, c68, c71, c74, c77, c83] : List Nat).getD J 0 = cJJ at cJ HCL
  have j0 : (0 : Int) ≤ (J : Int) := by omega
  have j1 : (J : Int) < 22 := by omega
  go_wp2_with (go_at_call 22; refine (HCP.out _).mono ?_; rintro e w' ⟨rfl, rfl⟩)
  refine HCL.out.mono ?_
  rintro e WL ⟨he, hbL⟩
  have he2 : e = noFilter 3 kk := by
    rcases he with ⟨i, hi, hbad, _⟩ | ⟨_, ⟨k2, hk2, e1⟩ | ⟨hk2, _⟩⟩
    · rw [HG.out i hi] at hbad; cases hbad
    · rw [HKK.out] at hk2; cases hk2; exact e1
    · rw [HKK.out] at hk2; cases hk2
  subst he2
  clear he HCL HG HKK HCP cJ
  simp only [noFilter]
  have r0 : (0 : Int) ≤ (kk : Int) := by omega
  have r1 : (kk : Int) < (nJ : Int) := by omega
  have r2 : ((8 * nJ : Nat) : Int) / 8 = (nJ : Int) := by omega
  go_wp2
  go_ret
  exact ⟨rfl, B.trans (hbL.mono B.size)⟩
end Go.Proofs.YtoobileejdhikaaGreat
