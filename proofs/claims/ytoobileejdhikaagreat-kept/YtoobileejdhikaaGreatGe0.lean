/-
  The statement Kept: the walk.
-/
import Derived.Test.YtoobileejdhikaaGreatGd8
import Derived.Test.YtoobileejdhikaaGreatGd9
import Derived.Test.YtoobileejdhikaaGreatGd7
namespace Go.Proofs.YtoobileejdhikaaGreat
open Go.RowKit

/-- Bytes that may be written. -/
def Rw (W : World) (g n : Nat) : Prop := ∀ t, t < n → ∃ c : Int, W.cell? ⟨g, t, none⟩ = some (.int .u8 c) ∧ W.frozen? ⟨g, t, none⟩ = false
theorem Rw.set {W : World} {g n : Nat} (h : Rw W g n) (i : Nat) (c : Int) : Rw (W.setCell ⟨g, i, none⟩ (.int .u8 c)) g n := fun t ht => by
  obtain ⟨x, h1, h2⟩ := h t ht
  by_cases e : t = i
  · subst e; exact ⟨c, cell_set_same h1, by rw [World.frozen?_setCell]; exact h2⟩
  · exact ⟨x, by rw [cell_set_off e]; exact h1, by rw [World.frozen?_setCell]; exact h2⟩
theorem rw_of_bys {W : World} {b g n c m : Nat} {xs : List Int} (h : Bys W b (.slice (some ⟨g, 0, none⟩) n c) xs) (hm : xs.length = m) : Rw W g m := fun t ht => by
  have := h.cell (i := t) (by omega)
  exact ⟨_, this.1, this.2⟩
theorem bys_same {W W' : World} {b : Nat} {v : Value} {xs : List Int} (h : Bys W b v xs) (hs : ∀ q, v.ownBlock = some q → W'.heap[q]? = W.heap[q]?) : Bys W' b v xs := by
  obtain ⟨h0, h1 | ⟨g, cap, cur, rfl, h2, h3, h4⟩⟩ := h
  · exact ⟨h0, .inl h1⟩
  · exact ⟨h0, .inr ⟨g, cap, cur, rfl, h2, (hs g rfl).trans h3, h4⟩⟩
theorem kcL_pos (a b : Int) : 0 < (cat8 (kcL a b)).length := by rw [cat8_len]; show 0 < 80; decide
theorem kdL_pos (a b : Int) : 0 < (cat8 (kdL a b)).length := by rw [cat8_len]; show 0 < 48; decide
theorem kcL_len (a b : Int) : (cat8 (kcL a b)).length = 80 := by rw [cat8_len]; rfl
theorem keptX_len (xs : List Int) : (keptX xs).length = xs.length := by unfold keptX; split <;> simp
theorem y_form {W : World} {b n : Nat} {v : Value} {xs : List Int} (hn : xs.length = n) (h : Bys W b v xs) : ∃ ly cy, v = .slice ly n cy ∧ (0 < n → ∃ gy, ly = some ⟨gy, 0, none⟩ ∧ b ≤ gy ∧ Rw W gy n) := by
  have h' := h
  obtain ⟨h0, ⟨rfl, h1⟩ | ⟨g, cap, cur, rfl, h2, _⟩⟩ := h'
  · exact ⟨none, 0, by rw [← hn, h1], fun h => by omega⟩
  · exact ⟨_, cap, by rw [hn], fun _ => ⟨g, rfl, h2, rw_of_bys h hn⟩⟩

set_option maxRecDepth 100000 in
set_option maxHeartbeats 4000000 in
theorem kept_pos (one other : Int) (fa : Option Addr) (ln cp : Nat) (xs : List Int) (w : World)
    (hone : -9223372036854775808 ≤ one ∧ one ≤ 9223372036854775807) (hother : -9223372036854775808 ≤ other ∧ other ≤ 9223372036854775807)
    (hlc : ln ≤ cp) (hcm : cp ≤ 9223372036854775807) (hxl : xs.length = cut64 ln) (hxb : ∀ x ∈ xs, 0 ≤ x ∧ x ≤ 255) (hxB : BytesAt w fa xs) (hnil : fa = none → cut64 ln = 0 ∧ cp = 0) (hpos : 0 < cut64 ln) :
    Calls Tryz.prog 12 #[.int .i64 one, .int .i64 other, .slice fa ln cp] w fun e w' => e = .returned (.bool true) ∧ Below w.heap.size w w' := by
  have HXB := hideX hxB
  clear hxB
  go_enter Tryz.func12, Tryz.ntmps12
  go_wp2_with fail
  refine (wpick_any one 4 w hone.1 hone.2 (by decide) (by decide)).mono ?_
  rintro e w' ⟨rfl, rfl⟩
  obtain ⟨a, ha⟩ := Int.eq_ofNat_of_zero_le (pickR_bd one 4 (by decide)).1
  have ha4 : a < 4 := by have := (pickR_bd one 4 (by decide)).2; omega
  rw [ha]
  clear ha
  go_wp2_with fail
  refine (wpick_any other 4 w hother.1 hother.2 (by decide) (by decide)).mono ?_
  rintro e w' ⟨rfl, rfl⟩
  obtain ⟨b, hb⟩ := Int.eq_ofNat_of_zero_le (pickR_bd other 4 (by decide)).1
  have hb4 : b < 4 := by have := (pickR_bd other 4 (by decide)).2; omega
  rw [hb]
  clear hb
  go_wp2_with fail
  refine (wmov_any 4 300 _ (by decide) (by decide)).mono ?_
  rintro e W1 ⟨g1, c1, rfl, o1, h1⟩
  have B := h1
  have p1 := hideX (o1.part (by show 0 < 8; decide))
  clear o1 h1
  go_wp2_with fail
  refine (wins_any 27 7 4 (-8) 0 _ (by decide) (by decide) (by decide) (by decide) (by decide) (by decide)).mono ?_
  rintro e W2 ⟨g2, c2, rfl, o2, h2⟩
  replace p1 := hideX (p1.out.later h2)
  replace B := B.trans (h2.mono B.size)
  have p2 := hideX (o2.part (by show 0 < 8; decide))
  clear o2 h2
  go_wp2_with fail
  refine (wtest_any 1 3 _).mono ?_
  rintro e W3 ⟨g3, c3, rfl, o3, h3⟩
  replace p1 := hideX (p1.out.later h3)
  replace p2 := hideX (p2.out.later h3)
  replace B := B.trans (h3.mono B.size)
  have p3 := hideX (o3.part (by show 0 < 24; decide))
  clear o3 h3
  go_wp2_with fail
  refine (wins_any 24 1 4 0 0 _ (by decide) (by decide) (by decide) (by decide) (by decide) (by decide)).mono ?_
  rintro e W4 ⟨g4, c4, rfl, o4, h4⟩
  replace p1 := hideX (p1.out.later h4)
  replace p2 := hideX (p2.out.later h4)
  replace p3 := hideX (p3.out.later h4)
  replace B := B.trans (h4.mono B.size)
  have p4 := hideX (o4.part (by show 0 < 8; decide))
  clear o4 h4
  go_wp2_with fail
  refine (wout_any (a : Int) _).mono ?_
  rintro e W5 ⟨g5, c5, rfl, o5, h5⟩
  replace p1 := hideX (p1.out.later h5)
  replace p2 := hideX (p2.out.later h5)
  replace p3 := hideX (p3.out.later h5)
  replace p4 := hideX (p4.out.later h5)
  replace B := B.trans (h5.mono B.size)
  have p5 := hideX (o5.part (by show 0 < 16; decide))
  clear o5 h5
  go_wp2_with fail
  refine (wout_any (b : Int) _).mono ?_
  rintro e W6 ⟨g6, c6, rfl, o6, h6⟩
  replace p1 := hideX (p1.out.later h6)
  replace p2 := hideX (p2.out.later h6)
  replace p3 := hideX (p3.out.later h6)
  replace p4 := hideX (p4.out.later h6)
  replace p5 := hideX (p5.out.later h6)
  replace B := B.trans (h6.mono B.size)
  have p6 := hideX (o6.part (by show 0 < 16; decide))
  clear o6 h6
  have hA7 : Below W6.heap.size W6 (W6.alloc (.cells #[Value.slice (some ⟨g1, 0, none⟩) 8 c1, Value.slice (some ⟨g2, 0, none⟩) 8 c2, Value.slice (some ⟨g3, 0, none⟩) 24 c3, Value.slice (some ⟨g4, 0, none⟩) 8 c4, Value.slice (some ⟨g5, 0, none⟩) 16 c5, Value.slice (some ⟨g6, 0, none⟩) 16 c6] 22)) := (Below.refl _ _).alloc (Nat.le_refl _) _
  have C7 := fun (wx : World) (hx : wx = (W6.alloc (.cells #[Value.slice (some ⟨g1, 0, none⟩) 8 c1, Value.slice (some ⟨g2, 0, none⟩) 8 c2, Value.slice (some ⟨g3, 0, none⟩) 24 c3, Value.slice (some ⟨g4, 0, none⟩) 8 c4, Value.slice (some ⟨g5, 0, none⟩) 16 c5, Value.slice (some ⟨g6, 0, none⟩) 16 c6] 22))) => wcode_any W6.heap.size 6 6 (fun i => [Value.slice (some ⟨g1, 0, none⟩) 8 c1, Value.slice (some ⟨g2, 0, none⟩) 8 c2, Value.slice (some ⟨g3, 0, none⟩) 24 c3, Value.slice (some ⟨g4, 0, none⟩) 8 c4, Value.slice (some ⟨g5, 0, none⟩) 16 c5, Value.slice (some ⟨g6, 0, none⟩) 16 c6].getD i .nilFunc) (fun i => [insB 129 4 0 0 300, insB 27 7 4 (-8) 0, testB 1 3, insB 24 1 4 0 0, (insB 129 0 0 0 (a : Int) ++ insB 41 0 0 0 0), (insB 129 0 0 0 (b : Int) ++ insB 41 0 0 0 0)].getD i []) wx (by decide) (fun i hi => by match i, hi with | 0, _ => exact (by decide : 8 ≤ 100) | 1, _ => exact (by decide : 8 ≤ 100) | 2, _ => exact (by decide : 24 ≤ 100) | 3, _ => exact (by decide : 8 ≤ 100) | 4, _ => exact (by decide : 16 ≤ 100) | 5, _ => exact (by decide : 16 ≤ 100)) (fun i hi => by subst hx; match i, hi with | 0, _ => simp [go_sem] | 1, _ => simp [go_sem] | 2, _ => simp [go_sem] | 3, _ => simp [go_sem] | 4, _ => simp [go_sem] | 5, _ => simp [go_sem]) (fun i hi => by subst hx; match i, hi with | 0, _ => exact p1.out.later hA7 | 1, _ => exact p2.out.later hA7 | 2, _ => exact p3.out.later hA7 | 3, _ => exact p4.out.later hA7 | 4, _ => exact p5.out.later hA7 | 5, _ => exact p6.out.later hA7) 80 rfl (by decide)
  have sB7 := B.size
  go_wp2_with fail
  refine (C7 _ rfl).mono ?_
  rintro e W7 ⟨g7, c7, rfl, o7, h7⟩
  replace h7 := hA7.trans (h7.mono hA7.size)
  replace B := B.trans (h7.mono B.size)
  replace o7 := hideX o7
  clear C7 hA7 p1 p2 p3 p4 p5 p6
  have oc0 : Bys W7 _ _ (cat8 (kcL (a : Int) (b : Int))) := o7.out
  obtain ⟨_, _, e7, hg7, hgl7⟩ := oc0.form (kcL_pos _ _)
  simp only [Value.slice.injEq, Option.some.injEq, Addr.mk.injEq, and_true] at e7
  obtain ⟨rfl, e7x, rfl⟩ := e7
  clear e7x
  have oc := hideX oc0
  clear oc0 o7
  go_wp2_with fail
  refine (wins_any 23 4 7 (-8) 0 _ (by decide) (by decide) (by decide) (by decide) (by decide) (by decide)).mono ?_
  rintro e W8 ⟨g8, c8, rfl, o8, h8⟩
  replace oc := hideX (oc.out.later h8)
  replace B := B.trans (h8.mono B.size)
  have p8 := hideX (o8.part (by show 0 < 8; decide))
  clear o8 h8
  go_wp2_with fail
  refine (wins_any 159 4 0 2 0 _ (by decide) (by decide) (by decide) (by decide) (by decide) (by decide)).mono ?_
  rintro e W9 ⟨g9, c9, rfl, o9, h9⟩
  replace p8 := hideX (p8.out.later h9)
  replace oc := hideX (oc.out.later h9)
  replace B := B.trans (h9.mono B.size)
  have p9 := hideX (o9.part (by show 0 < 8; decide))
  clear o9 h9
  go_wp2_with fail
  refine (wout_any (a : Int) _).mono ?_
  rintro e W10 ⟨g10, c10, rfl, o10, h10⟩
  replace p8 := hideX (p8.out.later h10)
  replace p9 := hideX (p9.out.later h10)
  replace oc := hideX (oc.out.later h10)
  replace B := B.trans (h10.mono B.size)
  have p10 := hideX (o10.part (by show 0 < 16; decide))
  clear o10 h10
  go_wp2_with fail
  refine (wout_any (b : Int) _).mono ?_
  rintro e W11 ⟨g11, c11, rfl, o11, h11⟩
  replace p8 := hideX (p8.out.later h11)
  replace p9 := hideX (p9.out.later h11)
  replace p10 := hideX (p10.out.later h11)
  replace oc := hideX (oc.out.later h11)
  replace B := B.trans (h11.mono B.size)
  have p11 := hideX (o11.part (by show 0 < 16; decide))
  clear o11 h11
  have hA12 : Below W11.heap.size W11 (W11.alloc (.cells #[Value.slice (some ⟨g8, 0, none⟩) 8 c8, Value.slice (some ⟨g9, 0, none⟩) 8 c9, Value.slice (some ⟨g10, 0, none⟩) 16 c10, Value.slice (some ⟨g11, 0, none⟩) 16 c11] 22)) := (Below.refl _ _).alloc (Nat.le_refl _) _
  have C12 := fun (wx : World) (hx : wx = (W11.alloc (.cells #[Value.slice (some ⟨g8, 0, none⟩) 8 c8, Value.slice (some ⟨g9, 0, none⟩) 8 c9, Value.slice (some ⟨g10, 0, none⟩) 16 c10, Value.slice (some ⟨g11, 0, none⟩) 16 c11] 22))) => wcode_any W11.heap.size 4 4 (fun i => [Value.slice (some ⟨g8, 0, none⟩) 8 c8, Value.slice (some ⟨g9, 0, none⟩) 8 c9, Value.slice (some ⟨g10, 0, none⟩) 16 c10, Value.slice (some ⟨g11, 0, none⟩) 16 c11].getD i .nilFunc) (fun i => [insB 23 4 7 (-8) 0, insB 159 4 0 2 0, (insB 129 0 0 0 (a : Int) ++ insB 41 0 0 0 0), (insB 129 0 0 0 (b : Int) ++ insB 41 0 0 0 0)].getD i []) wx (by decide) (fun i hi => by match i, hi with | 0, _ => exact (by decide : 8 ≤ 100) | 1, _ => exact (by decide : 8 ≤ 100) | 2, _ => exact (by decide : 16 ≤ 100) | 3, _ => exact (by decide : 16 ≤ 100)) (fun i hi => by subst hx; match i, hi with | 0, _ => simp [go_sem] | 1, _ => simp [go_sem] | 2, _ => simp [go_sem] | 3, _ => simp [go_sem]) (fun i hi => by subst hx; match i, hi with | 0, _ => exact p8.out.later hA12 | 1, _ => exact p9.out.later hA12 | 2, _ => exact p10.out.later hA12 | 3, _ => exact p11.out.later hA12) 48 rfl (by decide)
  have sB12 := B.size
  go_wp2_with fail
  refine (C12 _ rfl).mono ?_
  rintro e W12 ⟨g12, c12, rfl, o12, h12⟩
  replace h12 := hA12.trans (h12.mono hA12.size)
  replace oc := hideX (oc.out.later h12)
  replace B := B.trans (h12.mono B.size)
  replace o12 := hideX o12
  clear C12 hA12 p8 p9 p10 p11
  have od0 : Bys W12 _ _ (cat8 (kdL (a : Int) (b : Int))) := o12.out
  obtain ⟨_, _, e12, hg12, hgl12⟩ := od0.form (kdL_pos _ _)
  simp only [Value.slice.injEq, Option.some.injEq, Addr.mk.injEq, and_true] at e12
  obtain ⟨rfl, e12x, rfl⟩ := e12
  clear e12x
  have od := hideX od0
  clear od0 o12
  obtain ⟨⟨q1, s1⟩, ⟨q2, s2⟩⟩ := kept_code a b ha4 hb4
  have HQ1 := hideX q1
  have HQ2 := hideX q2
  have HS1 := hideX s1
  have HS2 := hideX s2
  clear q1 q2 s1 s2
  have hgc1 : g7 < W12.heap.size := by have := (oc.out.form (kcL_pos _ _)); obtain ⟨_, _, e, _, h⟩ := this; simp only [Value.slice.injEq, Option.some.injEq, Addr.mk.injEq, and_true] at e; obtain ⟨rfl, _⟩ := e; exact h
  have hgc0 : w.heap.size ≤ g7 := by have h1 := hg7; simp at h1; omega
  have pc := hideX (oc.out.part (kcL_pos _ _))
  clear hg7 hgl7 hg12 hgl12 sB7 sB12
  go_wp2_with (refine wpList_app rfl _ _ rfl W12.heap.size (.slice none 0 0) [] (cat8 (kcL (a : Int) (b : Int))) _ rfl (World.ownsRow_nil _ _ _ _) rfl pc.out (by simp [cat8_len, kcL]) (Nat.le_refl _) ?_; intro v3 WA o3 g3)
  have hA := (Below.refl W12.heap.size W12).grown g3 (Nat.le_refl _) (fun q hq => (ownNil hq).elim)
  have sZA := hA.size
  have ow := o3
  rw [List.nil_append] at ow
  obtain ⟨gw, cw, ew, hgw, hlw⟩ := ow.form (kcL_pos _ _)
  rw [kcL_len] at ew
  subst ew
  have HW := hideX ow
  clear o3 g3 ow pc
  replace oc := hideX (oc.out.later hA)
  replace od := hideX (od.out.later hA)
  replace B := B.trans (hA.mono B.size)
  clear hA
  have CL := wlet_any (n := 10) WA HQ1.out.len (by decide) (by decide) HQ1.out.by1 oc.out HQ1.out.good HS1.out
  have HCL := hideX CL
  clear CL
  refine HCL.out.mono ?_
  rintro e WB ⟨f1, g1, c1, rfl, hF1, hf1, hg1, hB1⟩
  have HF1 := hideX hF1
  clear hF1 HCL
  replace HW := hideX (HW.out.later hB1)
  replace oc := hideX (oc.out.later hB1)
  replace od := hideX (od.out.later hB1)
  replace B := B.trans (hB1.mono B.size)
  have CL := wlet_any (n := 6) WB HQ2.out.len (by decide) (by decide) HQ2.out.by1 od.out HQ2.out.good HS2.out
  have HCL := hideX CL
  clear CL
  have sAB := hB1.size
  clear hB1
  go_wp2_with fail
  refine HCL.out.mono ?_
  rintro e WC ⟨f2, g2, c2, rfl, hF2, hf2, hg2, hB2⟩
  have HF2 := hideX hF2
  replace HF1 := hideX (HF1.out.keep hB2)
  replace HW := hideX (HW.out.later hB2)
  clear hF2 HCL
  replace oc := hideX (oc.out.later hB2)
  replace od := hideX (od.out.later hB2)
  replace B := B.trans (hB2.mono B.size)
  have sBC := hB2.size
  have hlwC : gw < WC.heap.size := by omega
  have HN := hideX (show f1 ≠ g7 ∧ g1 ≠ g7 ∧ f2 ≠ g7 ∧ g2 ≠ g7 ∧ gw ≠ g7 by omega)
  have HLW := hideX hlwC
  have HGC := hideX hgc0
  clear hB2 od hlwC hf1 hg1 hf2 hg2 hgw hlw sAB sBC sZA hgc0 hgc1
  have hrw := hideX (rw_of_bys oc.out (kcL_len _ _))
  clear oc
  go_wp2
  go_loopw [14] (fun i wr => ∃ t : Nat, t ≤ 80 ∧ i = .int .i64 t ∧ Hid (Rw wr g7 80) ∧ Hid (Tch g7 g7 WC wr)) (fun i _ => 80 - (intOf i).toNat)
  case atStart => exact ⟨0, by omega, rfl, hrw, hideX (Tch.refl _ _ _)⟩
  case round =>
    obtain ⟨t, ht, rfl, hrt, htc⟩ := hrel
    clear hrw
    by_cases hlt : t < 80
    · obtain ⟨x, d1, d2⟩ := hrt.out t hlt
      have i1 : (t : Int) < 80 := by omega
      go_wp2
      go_roundw
      case rel => exact ⟨t + 1, by omega, by go_num, hideX (hrt.out.set t 99), hideX (htc.out.setP t (.int .u8 99))⟩
      case measure => simp [intOf]; omega
    · have ht8 : t = 80 := by omega
      subst ht8
      have i1 : ¬ (((80 : Nat) : Int) < 80) := by decide
      have hB3 : Below w.heap.size w wr := B.trans (htc.out.below HGC.out HGC.out B.size)
      obtain ⟨n1, n2, n3, n4, n5⟩ := HN.out
      have hlwC := HLW.out
      have HF1b := hideX (HF1.out.same (htc.out.block f1 HF1.out.lf n1 n1) (htc.out.block g1 HF1.out.lg n2 n2) htc.out.size)
      have HF2b := hideX (HF2.out.same (htc.out.block f2 HF2.out.lf n3 n3) (htc.out.block g2 HF2.out.lg n4 n4) htc.out.size)
      have HWb := hideX (bys_same HW.out (fun q hq => by simp [Value.ownBlock] at hq; subst hq; exact htc.out.block gw hlwC n5 n5))
      clear HF1 HF2 HW hrt htc B n1 n2 n3 n4 n5 hlwC HN HLW HGC
      have hxB := HXB.out.later hB3
      have HXB3 := hideX hxB
      clear hxB
      have HCF := hideX (fun wx => framed_any fa ln cp wx hlc hcm)
      change Hid (∀ wx, Calls Tryz.prog 30 #[.slice fa ln cp] wx fun e w' => e = .returned (.slice fa (cut64 ln) cp) ∧ wx = w') at HCF
      have l64 := (cut64_le ln).1
      generalize cut64 ln = lj at *
      have k0 : (0 : Int) < (lj : Int) := by omega
      go_wp2_with (first | (go_at_call 30; refine (HCF.out _).mono ?_; rintro e w' ⟨rfl, rfl⟩) | (refine wpList_appB rfl _ _ rfl wr.heap.size (.slice none 0 0) [] xs fa lj cp rfl (World.ownsRow_nil _ _ _ _) rfl hxl HXB3.out hnil (by simp; omega) (Nat.le_refl _) ?_; intro v5 W5 o5 g5; rw [List.nil_append] at o5; have h5 := (Below.refl wr.heap.size wr).grown g5 (Nat.le_refl _) (fun q hq => (ownNil hq).elim); obtain ⟨g6, c6, rfl, hg6, hl6⟩ := o5.form (by omega); have cK := o5.cell (i := 0) (by omega); obtain ⟨d1, d2⟩ := cK; rw [hxl] at o5; have HO5 := hideX o5; rw [hxl]; clear o5 g5))
      have o6 := HO5.out.set 0 44
      have h6 : Below wr.heap.size wr (W5.setCell ⟨g6, 0, none⟩ (.int .u8 44)) := h5.setCell (p := ⟨g6, 0, none⟩) hg6 _
      generalize hW6 : W5.setCell ⟨g6, 0, none⟩ (.int .u8 44) = W6 at o6 h6 ⊢
      clear hW6 HO5 h5 d1 d2
      have hx6 : keptX xs = xs.set 0 44 := if_pos (by omega)
      have HW6 : Hid (∃ la lc, Value.slice (some ⟨g6, 0, none⟩) lj c6 = .slice la lj lc ∧ BytesAt W6 la (keptX xs)) := by rw [hx6]; exact bys_slice (by simpa using hxl) o6
      clear o6
      have HV : Hid ((if 0 < xs.length then (a : Int) else (b : Int)) = (a : Int)) := if_pos (by omega)
      have hB6 : Below w.heap.size w _ := hB3.trans (h6.mono hB3.size)
      have HF1c := hideX (HF1b.out.keep h6)
      have HF2c := hideX (HF2b.out.keep h6)
      have HWc := hideX (HWb.out.later h6)
      clear HF1b HF2b HWb h6 hB3 HXB3 HCF
      go_loopw [18] (fun i wr => ∃ t : Nat, t ≤ 2 ∧ i = .int .i64 t ∧ Hid (FiltAt wr f1 g1 c1 (cat8 (kcL (a : Int) (b : Int)))) ∧ Hid (FiltAt wr f2 g2 c2 (cat8 (kdL (a : Int) (b : Int)))) ∧ Hid (Bys wr _ (.slice (some ⟨gw, 0, none⟩) 80 cw) (cat8 (kcL (a : Int) (b : Int)))) ∧ Hid (∃ la lc, Value.slice (some ⟨g6, 0, none⟩) lj c6 = .slice la lj lc ∧ BytesAt wr la (keptX xs)) ∧ Below w.heap.size w wr) (fun i _ => 2 - (intOf i).toNat)
      case atStart => exact ⟨0, by omega, rfl, HF1c, HF2c, HWc, HW6, hB6⟩
      case round =>
        obtain ⟨t, ht, rfl, K1, K2, K3, K4, hb⟩ := hrel
        clear HF1c HF2c HWc HW6 hB6
        obtain ⟨wo, hwo⟩ : ∃ x, x = wr := ⟨_, rfl⟩
        subst hwo
        by_cases hlt : t < 2
        · have i1 : (t : Int) < 2 := by omega
          have CC := code_any f1 g1 c1 _ wo K1.out (by rw [HQ1.out.len]; decide)
          have HCC := hideX CC
          clear CC
          go_wp2_with fail
          refine HCC.out.mono ?_
          rintro e W1 ⟨vl, rfl, ol, b1⟩
          have k1 := conv_own ol
          have k2 := conv_own (K3.out.later b1)
          have hol : Bys W1 wo.heap.size vl _ := ol
          obtain ⟨gl, cl, el, hgl1, hgl2⟩ := hol.form (kcL_pos _ _)
          rw [kcL_len] at el
          subst el
          have hrl := hideX (rw_of_bys hol (kcL_len _ _))
          clear ol hol HCC
          have b1s := b1.size
          go_wp2
          go_loopw [20] (fun i wx => ∃ u : Nat, u ≤ 80 ∧ i = .int .i64 u ∧ Hid (Rw wx gl 80) ∧ Hid (Tch gl gl W1 wx)) (fun i _ => 80 - (intOf i).toNat)
          case atStart => exact ⟨0, by omega, rfl, hrl, hideX (Tch.refl _ _ _)⟩
          case round =>
            obtain ⟨u, hu, rfl, hru, htu⟩ := hrel
            obtain ⟨wx, hwx⟩ : ∃ x, x = wr := ⟨_, rfl⟩
            subst hwx
            clear hrl k1 k2
            by_cases hlu : u < 80
            · obtain ⟨x, d1, d2⟩ := hru.out u hlu
              have i2 : (u : Int) < 80 := by omega
              go_wp2
              go_roundw
              case rel => exact ⟨u + 1, by omega, by go_num, hideX (hru.out.set u 98), hideX (htu.out.setP u (.int .u8 98))⟩
              case measure => simp [intOf]; omega
            · have hu8 : u = 80 := by omega
              subst hu8
              have i2 : ¬ (((80 : Nat) : Int) < 80) := by decide
              have b2 : Below wo.heap.size wo wx := b1.trans (htu.out.below hgl1 hgl1 b1s)
              clear hru htu
              obtain ⟨fin, r1, r2, r3⟩ := kc_run (a := (a : Int)) (b := (b : Int)) (by omega) (by omega) (by omega) (by omega) xs
              rw [HV.out] at r2
              have CR := run_any (lb (cat8 (kcL (a : Int) (b : Int)))) 10 f1 g1 c1 fa lj cp xs wx fin (by decide) (by decide) (by rw [show 8 * 10 = (cat8 (kcL (a : Int) (b : Int))).length from HQ1.out.len.symm, lb_code]; exact K1.out.keep b2) (lb_bd HQ1.out.by1) HQ1.out.good hxl l64 (HXB.out.later (hb.trans (b2.mono hb.size))) hxb r1 (by rw [r2]; omega)
              rw [r2, r3] at CR
              have HCR := hideX CR
              clear CR r1 r2 r3
              go_wp2_with fail
              refine HCR.out.mono ?_
              rintro e W3 ⟨vy, rfl, oy, b3⟩
              clear HCR
              have b23 := b2.trans (b3.mono b2.size)
              obtain ⟨la, lc, ewan, hla⟩ := K4.out
              have k3 := conv_own oy
              have k4 := conv_bytes lc (show (keptX xs).length = lj by rw [keptX_len]; exact hxl) (hla.later b23)
              rw [← ewan] at k4
              have hoy : Bys W3 wx.heap.size vy (keptX xs) := oy
              have hky : (keptX xs).length = lj := by rw [keptX_len]; exact hxl
              obtain ⟨ly, cy, rfl, hly⟩ := y_form hky hoy
              have HLY := hideX hly
              clear oy hoy hly hla ewan
              have b23s := b23.size
              have hxs2 := b2.size
              go_wp2
              go_loopw [24] (fun i wz => ∃ u : Nat, u ≤ lj ∧ i = .int .i64 u ∧ Hid (0 < lj → ∃ gy, ly = some ⟨gy, 0, none⟩ ∧ wx.heap.size ≤ gy ∧ Rw wz gy lj) ∧ Hid (Below wx.heap.size W3 wz)) (fun i _ => lj - (intOf i).toNat)
              case atStart => exact ⟨0, by omega, rfl, HLY, hideX (Below.refl _ _)⟩
              case round =>
                obtain ⟨u, hu, rfl, hru, htu⟩ := hrel
                obtain ⟨wz, hwz⟩ : ∃ x, x = wr := ⟨_, rfl⟩
                subst hwz
                clear HLY k3 k4
                by_cases hlu : u < lj
                · obtain ⟨gy, rfl, hgy, hrw⟩ := hru.out (by omega)
                  obtain ⟨x, d1, d2⟩ := hrw u hlu
                  have HRW := hideX hrw
                  clear hrw
                  have i3 : (u : Int) < (lj : Int) := by omega
                  go_wp2
                  go_roundw
                  case rel => exact ⟨u + 1, by omega, by go_num, hideX (fun _ => ⟨gy, rfl, hgy, HRW.out.set u 97⟩), hideX (htu.out.setCell (p := ⟨gy, u, none⟩) hgy _)⟩
                  case measure => simp [intOf]; omega
                · have hul : u = lj := by omega
                  subst hul
                  have b4 : Below wo.heap.size wo wz := b23.trans (htu.out.mono hxs2)
                  clear hru htu
                  obtain ⟨fin, r1, r2, r3⟩ := kd_run (a := (a : Int)) (b := (b : Int)) (by omega) (by omega) (by omega) (by omega) xs
                  have hxz := HXB.out.later (hb.trans (b4.mono hb.size))
                  have CS := says_any (n := 6) f2 g2 c2 fa u cp xs (b : Int) fa u cp xs wz fin HQ2.out.len (by decide) (by decide) (K2.out.keep b4) HQ2.out.by1 HQ2.out.good hxl l64 hxz hxb r1 r2 (by omega) hxl hxz r3
                  have HCS := hideX CS
                  clear CS r1 r2 r3 hxz
                  go_wp2_with fail
                  refine HCS.out.mono ?_
                  rintro e WS ⟨rfl, hS⟩
                  have b5 := b4.trans (hS.mono b4.size)
                  go_wp2
                  go_roundw
                  case rel => exact ⟨t + 1, by omega, by go_num, hideX (K1.out.keep b5), hideX (K2.out.keep b5), hideX (K3.out.later b5), hideX (by obtain ⟨la, lc, e1, e2⟩ := K4.out; exact ⟨la, lc, e1, e2.later b5⟩), hb.trans (b5.mono hb.size)⟩
                  case measure => simp [intOf]; omega
        · have ht2 : t = 2 := by omega
          subst ht2
          go_wp2
          go_ret
          exact ⟨rfl, hb⟩

set_option maxRecDepth 100000 in
set_option maxHeartbeats 4000000 in
theorem kept_zero (one other : Int) (fa : Option Addr) (ln cp : Nat) (xs : List Int) (w : World)
    (hone : -9223372036854775808 ≤ one ∧ one ≤ 9223372036854775807) (hother : -9223372036854775808 ≤ other ∧ other ≤ 9223372036854775807)
    (hlc : ln ≤ cp) (hcm : cp ≤ 9223372036854775807) (hxl : xs.length = cut64 ln) (hxb : ∀ x ∈ xs, 0 ≤ x ∧ x ≤ 255) (hxB : BytesAt w fa xs) (hnil : fa = none → cut64 ln = 0 ∧ cp = 0) (hpos : ¬ 0 < cut64 ln) :
    Calls Tryz.prog 12 #[.int .i64 one, .int .i64 other, .slice fa ln cp] w fun e w' => e = .returned (.bool true) ∧ Below w.heap.size w w' := by
  have HXB := hideX hxB
  clear hxB
  go_enter Tryz.func12, Tryz.ntmps12
  go_wp2_with fail
  refine (wpick_any one 4 w hone.1 hone.2 (by decide) (by decide)).mono ?_
  rintro e w' ⟨rfl, rfl⟩
  obtain ⟨a, ha⟩ := Int.eq_ofNat_of_zero_le (pickR_bd one 4 (by decide)).1
  have ha4 : a < 4 := by have := (pickR_bd one 4 (by decide)).2; omega
  rw [ha]
  clear ha
  go_wp2_with fail
  refine (wpick_any other 4 w hother.1 hother.2 (by decide) (by decide)).mono ?_
  rintro e w' ⟨rfl, rfl⟩
  obtain ⟨b, hb⟩ := Int.eq_ofNat_of_zero_le (pickR_bd other 4 (by decide)).1
  have hb4 : b < 4 := by have := (pickR_bd other 4 (by decide)).2; omega
  rw [hb]
  clear hb
  go_wp2_with fail
  refine (wmov_any 4 300 _ (by decide) (by decide)).mono ?_
  rintro e W1 ⟨g1, c1, rfl, o1, h1⟩
  have B := h1
  have p1 := hideX (o1.part (by show 0 < 8; decide))
  clear o1 h1
  go_wp2_with fail
  refine (wins_any 27 7 4 (-8) 0 _ (by decide) (by decide) (by decide) (by decide) (by decide) (by decide)).mono ?_
  rintro e W2 ⟨g2, c2, rfl, o2, h2⟩
  replace p1 := hideX (p1.out.later h2)
  replace B := B.trans (h2.mono B.size)
  have p2 := hideX (o2.part (by show 0 < 8; decide))
  clear o2 h2
  go_wp2_with fail
  refine (wtest_any 1 3 _).mono ?_
  rintro e W3 ⟨g3, c3, rfl, o3, h3⟩
  replace p1 := hideX (p1.out.later h3)
  replace p2 := hideX (p2.out.later h3)
  replace B := B.trans (h3.mono B.size)
  have p3 := hideX (o3.part (by show 0 < 24; decide))
  clear o3 h3
  go_wp2_with fail
  refine (wins_any 24 1 4 0 0 _ (by decide) (by decide) (by decide) (by decide) (by decide) (by decide)).mono ?_
  rintro e W4 ⟨g4, c4, rfl, o4, h4⟩
  replace p1 := hideX (p1.out.later h4)
  replace p2 := hideX (p2.out.later h4)
  replace p3 := hideX (p3.out.later h4)
  replace B := B.trans (h4.mono B.size)
  have p4 := hideX (o4.part (by show 0 < 8; decide))
  clear o4 h4
  go_wp2_with fail
  refine (wout_any (a : Int) _).mono ?_
  rintro e W5 ⟨g5, c5, rfl, o5, h5⟩
  replace p1 := hideX (p1.out.later h5)
  replace p2 := hideX (p2.out.later h5)
  replace p3 := hideX (p3.out.later h5)
  replace p4 := hideX (p4.out.later h5)
  replace B := B.trans (h5.mono B.size)
  have p5 := hideX (o5.part (by show 0 < 16; decide))
  clear o5 h5
  go_wp2_with fail
  refine (wout_any (b : Int) _).mono ?_
  rintro e W6 ⟨g6, c6, rfl, o6, h6⟩
  replace p1 := hideX (p1.out.later h6)
  replace p2 := hideX (p2.out.later h6)
  replace p3 := hideX (p3.out.later h6)
  replace p4 := hideX (p4.out.later h6)
  replace p5 := hideX (p5.out.later h6)
  replace B := B.trans (h6.mono B.size)
  have p6 := hideX (o6.part (by show 0 < 16; decide))
  clear o6 h6
  have hA7 : Below W6.heap.size W6 (W6.alloc (.cells #[Value.slice (some ⟨g1, 0, none⟩) 8 c1, Value.slice (some ⟨g2, 0, none⟩) 8 c2, Value.slice (some ⟨g3, 0, none⟩) 24 c3, Value.slice (some ⟨g4, 0, none⟩) 8 c4, Value.slice (some ⟨g5, 0, none⟩) 16 c5, Value.slice (some ⟨g6, 0, none⟩) 16 c6] 22)) := (Below.refl _ _).alloc (Nat.le_refl _) _
  have C7 := fun (wx : World) (hx : wx = (W6.alloc (.cells #[Value.slice (some ⟨g1, 0, none⟩) 8 c1, Value.slice (some ⟨g2, 0, none⟩) 8 c2, Value.slice (some ⟨g3, 0, none⟩) 24 c3, Value.slice (some ⟨g4, 0, none⟩) 8 c4, Value.slice (some ⟨g5, 0, none⟩) 16 c5, Value.slice (some ⟨g6, 0, none⟩) 16 c6] 22))) => wcode_any W6.heap.size 6 6 (fun i => [Value.slice (some ⟨g1, 0, none⟩) 8 c1, Value.slice (some ⟨g2, 0, none⟩) 8 c2, Value.slice (some ⟨g3, 0, none⟩) 24 c3, Value.slice (some ⟨g4, 0, none⟩) 8 c4, Value.slice (some ⟨g5, 0, none⟩) 16 c5, Value.slice (some ⟨g6, 0, none⟩) 16 c6].getD i .nilFunc) (fun i => [insB 129 4 0 0 300, insB 27 7 4 (-8) 0, testB 1 3, insB 24 1 4 0 0, (insB 129 0 0 0 (a : Int) ++ insB 41 0 0 0 0), (insB 129 0 0 0 (b : Int) ++ insB 41 0 0 0 0)].getD i []) wx (by decide) (fun i hi => by match i, hi with | 0, _ => exact (by decide : 8 ≤ 100) | 1, _ => exact (by decide : 8 ≤ 100) | 2, _ => exact (by decide : 24 ≤ 100) | 3, _ => exact (by decide : 8 ≤ 100) | 4, _ => exact (by decide : 16 ≤ 100) | 5, _ => exact (by decide : 16 ≤ 100)) (fun i hi => by subst hx; match i, hi with | 0, _ => simp [go_sem] | 1, _ => simp [go_sem] | 2, _ => simp [go_sem] | 3, _ => simp [go_sem] | 4, _ => simp [go_sem] | 5, _ => simp [go_sem]) (fun i hi => by subst hx; match i, hi with | 0, _ => exact p1.out.later hA7 | 1, _ => exact p2.out.later hA7 | 2, _ => exact p3.out.later hA7 | 3, _ => exact p4.out.later hA7 | 4, _ => exact p5.out.later hA7 | 5, _ => exact p6.out.later hA7) 80 rfl (by decide)
  have sB7 := B.size
  go_wp2_with fail
  refine (C7 _ rfl).mono ?_
  rintro e W7 ⟨g7, c7, rfl, o7, h7⟩
  replace h7 := hA7.trans (h7.mono hA7.size)
  replace B := B.trans (h7.mono B.size)
  replace o7 := hideX o7
  clear C7 hA7 p1 p2 p3 p4 p5 p6
  have oc0 : Bys W7 _ _ (cat8 (kcL (a : Int) (b : Int))) := o7.out
  obtain ⟨_, _, e7, hg7, hgl7⟩ := oc0.form (kcL_pos _ _)
  simp only [Value.slice.injEq, Option.some.injEq, Addr.mk.injEq, and_true] at e7
  obtain ⟨rfl, e7x, rfl⟩ := e7
  clear e7x
  have oc := hideX oc0
  clear oc0 o7
  go_wp2_with fail
  refine (wins_any 23 4 7 (-8) 0 _ (by decide) (by decide) (by decide) (by decide) (by decide) (by decide)).mono ?_
  rintro e W8 ⟨g8, c8, rfl, o8, h8⟩
  replace oc := hideX (oc.out.later h8)
  replace B := B.trans (h8.mono B.size)
  have p8 := hideX (o8.part (by show 0 < 8; decide))
  clear o8 h8
  go_wp2_with fail
  refine (wins_any 159 4 0 2 0 _ (by decide) (by decide) (by decide) (by decide) (by decide) (by decide)).mono ?_
  rintro e W9 ⟨g9, c9, rfl, o9, h9⟩
  replace p8 := hideX (p8.out.later h9)
  replace oc := hideX (oc.out.later h9)
  replace B := B.trans (h9.mono B.size)
  have p9 := hideX (o9.part (by show 0 < 8; decide))
  clear o9 h9
  go_wp2_with fail
  refine (wout_any (a : Int) _).mono ?_
  rintro e W10 ⟨g10, c10, rfl, o10, h10⟩
  replace p8 := hideX (p8.out.later h10)
  replace p9 := hideX (p9.out.later h10)
  replace oc := hideX (oc.out.later h10)
  replace B := B.trans (h10.mono B.size)
  have p10 := hideX (o10.part (by show 0 < 16; decide))
  clear o10 h10
  go_wp2_with fail
  refine (wout_any (b : Int) _).mono ?_
  rintro e W11 ⟨g11, c11, rfl, o11, h11⟩
  replace p8 := hideX (p8.out.later h11)
  replace p9 := hideX (p9.out.later h11)
  replace p10 := hideX (p10.out.later h11)
  replace oc := hideX (oc.out.later h11)
  replace B := B.trans (h11.mono B.size)
  have p11 := hideX (o11.part (by show 0 < 16; decide))
  clear o11 h11
  have hA12 : Below W11.heap.size W11 (W11.alloc (.cells #[Value.slice (some ⟨g8, 0, none⟩) 8 c8, Value.slice (some ⟨g9, 0, none⟩) 8 c9, Value.slice (some ⟨g10, 0, none⟩) 16 c10, Value.slice (some ⟨g11, 0, none⟩) 16 c11] 22)) := (Below.refl _ _).alloc (Nat.le_refl _) _
  have C12 := fun (wx : World) (hx : wx = (W11.alloc (.cells #[Value.slice (some ⟨g8, 0, none⟩) 8 c8, Value.slice (some ⟨g9, 0, none⟩) 8 c9, Value.slice (some ⟨g10, 0, none⟩) 16 c10, Value.slice (some ⟨g11, 0, none⟩) 16 c11] 22))) => wcode_any W11.heap.size 4 4 (fun i => [Value.slice (some ⟨g8, 0, none⟩) 8 c8, Value.slice (some ⟨g9, 0, none⟩) 8 c9, Value.slice (some ⟨g10, 0, none⟩) 16 c10, Value.slice (some ⟨g11, 0, none⟩) 16 c11].getD i .nilFunc) (fun i => [insB 23 4 7 (-8) 0, insB 159 4 0 2 0, (insB 129 0 0 0 (a : Int) ++ insB 41 0 0 0 0), (insB 129 0 0 0 (b : Int) ++ insB 41 0 0 0 0)].getD i []) wx (by decide) (fun i hi => by match i, hi with | 0, _ => exact (by decide : 8 ≤ 100) | 1, _ => exact (by decide : 8 ≤ 100) | 2, _ => exact (by decide : 16 ≤ 100) | 3, _ => exact (by decide : 16 ≤ 100)) (fun i hi => by subst hx; match i, hi with | 0, _ => simp [go_sem] | 1, _ => simp [go_sem] | 2, _ => simp [go_sem] | 3, _ => simp [go_sem]) (fun i hi => by subst hx; match i, hi with | 0, _ => exact p8.out.later hA12 | 1, _ => exact p9.out.later hA12 | 2, _ => exact p10.out.later hA12 | 3, _ => exact p11.out.later hA12) 48 rfl (by decide)
  have sB12 := B.size
  go_wp2_with fail
  refine (C12 _ rfl).mono ?_
  rintro e W12 ⟨g12, c12, rfl, o12, h12⟩
  replace h12 := hA12.trans (h12.mono hA12.size)
  replace oc := hideX (oc.out.later h12)
  replace B := B.trans (h12.mono B.size)
  replace o12 := hideX o12
  clear C12 hA12 p8 p9 p10 p11
  have od0 : Bys W12 _ _ (cat8 (kdL (a : Int) (b : Int))) := o12.out
  obtain ⟨_, _, e12, hg12, hgl12⟩ := od0.form (kdL_pos _ _)
  simp only [Value.slice.injEq, Option.some.injEq, Addr.mk.injEq, and_true] at e12
  obtain ⟨rfl, e12x, rfl⟩ := e12
  clear e12x
  have od := hideX od0
  clear od0 o12
  obtain ⟨⟨q1, s1⟩, ⟨q2, s2⟩⟩ := kept_code a b ha4 hb4
  have HQ1 := hideX q1
  have HQ2 := hideX q2
  have HS1 := hideX s1
  have HS2 := hideX s2
  clear q1 q2 s1 s2
  have hgc1 : g7 < W12.heap.size := by have := (oc.out.form (kcL_pos _ _)); obtain ⟨_, _, e, _, h⟩ := this; simp only [Value.slice.injEq, Option.some.injEq, Addr.mk.injEq, and_true] at e; obtain ⟨rfl, _⟩ := e; exact h
  have hgc0 : w.heap.size ≤ g7 := by have h1 := hg7; simp at h1; omega
  have pc := hideX (oc.out.part (kcL_pos _ _))
  clear hg7 hgl7 hg12 hgl12 sB7 sB12
  go_wp2_with (refine wpList_app rfl _ _ rfl W12.heap.size (.slice none 0 0) [] (cat8 (kcL (a : Int) (b : Int))) _ rfl (World.ownsRow_nil _ _ _ _) rfl pc.out (by simp [cat8_len, kcL]) (Nat.le_refl _) ?_; intro v3 WA o3 g3)
  have hA := (Below.refl W12.heap.size W12).grown g3 (Nat.le_refl _) (fun q hq => (ownNil hq).elim)
  have sZA := hA.size
  have ow := o3
  rw [List.nil_append] at ow
  obtain ⟨gw, cw, ew, hgw, hlw⟩ := ow.form (kcL_pos _ _)
  rw [kcL_len] at ew
  subst ew
  have HW := hideX ow
  clear o3 g3 ow pc
  replace oc := hideX (oc.out.later hA)
  replace od := hideX (od.out.later hA)
  replace B := B.trans (hA.mono B.size)
  clear hA
  have CL := wlet_any (n := 10) WA HQ1.out.len (by decide) (by decide) HQ1.out.by1 oc.out HQ1.out.good HS1.out
  have HCL := hideX CL
  clear CL
  refine HCL.out.mono ?_
  rintro e WB ⟨f1, g1, c1, rfl, hF1, hf1, hg1, hB1⟩
  have HF1 := hideX hF1
  clear hF1 HCL
  replace HW := hideX (HW.out.later hB1)
  replace oc := hideX (oc.out.later hB1)
  replace od := hideX (od.out.later hB1)
  replace B := B.trans (hB1.mono B.size)
  have CL := wlet_any (n := 6) WB HQ2.out.len (by decide) (by decide) HQ2.out.by1 od.out HQ2.out.good HS2.out
  have HCL := hideX CL
  clear CL
  have sAB := hB1.size
  clear hB1
  go_wp2_with fail
  refine HCL.out.mono ?_
  rintro e WC ⟨f2, g2, c2, rfl, hF2, hf2, hg2, hB2⟩
  have HF2 := hideX hF2
  replace HF1 := hideX (HF1.out.keep hB2)
  replace HW := hideX (HW.out.later hB2)
  clear hF2 HCL
  replace oc := hideX (oc.out.later hB2)
  replace od := hideX (od.out.later hB2)
  replace B := B.trans (hB2.mono B.size)
  have sBC := hB2.size
  have hlwC : gw < WC.heap.size := by omega
  have HN := hideX (show f1 ≠ g7 ∧ g1 ≠ g7 ∧ f2 ≠ g7 ∧ g2 ≠ g7 ∧ gw ≠ g7 by omega)
  have HLW := hideX hlwC
  have HGC := hideX hgc0
  clear hB2 od hlwC hf1 hg1 hf2 hg2 hgw hlw sAB sBC sZA hgc0 hgc1
  have hrw := hideX (rw_of_bys oc.out (kcL_len _ _))
  clear oc
  go_wp2
  go_loopw [14] (fun i wr => ∃ t : Nat, t ≤ 80 ∧ i = .int .i64 t ∧ Hid (Rw wr g7 80) ∧ Hid (Tch g7 g7 WC wr)) (fun i _ => 80 - (intOf i).toNat)
  case atStart => exact ⟨0, by omega, rfl, hrw, hideX (Tch.refl _ _ _)⟩
  case round =>
    obtain ⟨t, ht, rfl, hrt, htc⟩ := hrel
    clear hrw
    by_cases hlt : t < 80
    · obtain ⟨x, d1, d2⟩ := hrt.out t hlt
      have i1 : (t : Int) < 80 := by omega
      go_wp2
      go_roundw
      case rel => exact ⟨t + 1, by omega, by go_num, hideX (hrt.out.set t 99), hideX (htc.out.setP t (.int .u8 99))⟩
      case measure => simp [intOf]; omega
    · have ht8 : t = 80 := by omega
      subst ht8
      have i1 : ¬ (((80 : Nat) : Int) < 80) := by decide
      have hB3 : Below w.heap.size w wr := B.trans (htc.out.below HGC.out HGC.out B.size)
      obtain ⟨n1, n2, n3, n4, n5⟩ := HN.out
      have hlwC := HLW.out
      have HF1b := hideX (HF1.out.same (htc.out.block f1 HF1.out.lf n1 n1) (htc.out.block g1 HF1.out.lg n2 n2) htc.out.size)
      have HF2b := hideX (HF2.out.same (htc.out.block f2 HF2.out.lf n3 n3) (htc.out.block g2 HF2.out.lg n4 n4) htc.out.size)
      have HWb := hideX (bys_same HW.out (fun q hq => by simp [Value.ownBlock] at hq; subst hq; exact htc.out.block gw hlwC n5 n5))
      clear HF1 HF2 HW hrt htc B n1 n2 n3 n4 n5 hlwC HN HLW HGC
      have hxB := HXB.out.later hB3
      have HXB3 := hideX hxB
      clear hxB
      have HCF := hideX (fun wx => framed_any fa ln cp wx hlc hcm)
      change Hid (∀ wx, Calls Tryz.prog 30 #[.slice fa ln cp] wx fun e w' => e = .returned (.slice fa (cut64 ln) cp) ∧ wx = w') at HCF
      have l64 := (cut64_le ln).1
      generalize cut64 ln = lj at *
      have k0 : (lj : Int) ≤ 0 := by omega
      go_wp2_with (first | (go_at_call 30; refine (HCF.out _).mono ?_; rintro e w' ⟨rfl, rfl⟩) | (refine wpList_appB rfl _ _ rfl wr.heap.size (.slice none 0 0) [] xs fa lj cp rfl (World.ownsRow_nil _ _ _ _) rfl hxl HXB3.out hnil (by simp; omega) (Nat.le_refl _) ?_; intro v5 W5 o5 g5; rw [List.nil_append] at o5; have h5 := (Below.refl wr.heap.size wr).grown g5 (Nat.le_refl _) (fun q hq => (ownNil hq).elim); obtain ⟨la5, lc5, rfl, hla5⟩ : ∃ la lc, v5 = .slice la lj lc ∧ BytesAt W5 la xs := bys_slice hxl o5; have HO5 := hideX hla5; clear o5 g5 hla5))
      have h6 := h5
      have hx6 : keptX xs = xs := if_neg (by omega)
      have HW6 : Hid (∃ la lc, Value.slice la5 lj lc5 = .slice la lj lc ∧ BytesAt W5 la (keptX xs)) := by rw [hx6]; exact ⟨_, _, rfl, HO5.out⟩
      clear HO5 h5
      have HV : Hid ((if 0 < xs.length then (a : Int) else (b : Int)) = (b : Int)) := if_neg (by omega)
      have hB6 : Below w.heap.size w _ := hB3.trans (h6.mono hB3.size)
      have HF1c := hideX (HF1b.out.keep h6)
      have HF2c := hideX (HF2b.out.keep h6)
      have HWc := hideX (HWb.out.later h6)
      clear HF1b HF2b HWb h6 hB3 HXB3 HCF
      go_loopw [18] (fun i wr => ∃ t : Nat, t ≤ 2 ∧ i = .int .i64 t ∧ Hid (FiltAt wr f1 g1 c1 (cat8 (kcL (a : Int) (b : Int)))) ∧ Hid (FiltAt wr f2 g2 c2 (cat8 (kdL (a : Int) (b : Int)))) ∧ Hid (Bys wr _ (.slice (some ⟨gw, 0, none⟩) 80 cw) (cat8 (kcL (a : Int) (b : Int)))) ∧ Hid (∃ la lc, Value.slice la5 lj lc5 = .slice la lj lc ∧ BytesAt wr la (keptX xs)) ∧ Below w.heap.size w wr) (fun i _ => 2 - (intOf i).toNat)
      case atStart => exact ⟨0, by omega, rfl, HF1c, HF2c, HWc, HW6, hB6⟩
      case round =>
        obtain ⟨t, ht, rfl, K1, K2, K3, K4, hb⟩ := hrel
        clear HF1c HF2c HWc HW6 hB6
        obtain ⟨wo, hwo⟩ : ∃ x, x = wr := ⟨_, rfl⟩
        subst hwo
        by_cases hlt : t < 2
        · have i1 : (t : Int) < 2 := by omega
          have CC := code_any f1 g1 c1 _ wo K1.out (by rw [HQ1.out.len]; decide)
          have HCC := hideX CC
          clear CC
          go_wp2_with fail
          refine HCC.out.mono ?_
          rintro e W1 ⟨vl, rfl, ol, b1⟩
          have k1 := conv_own ol
          have k2 := conv_own (K3.out.later b1)
          have hol : Bys W1 wo.heap.size vl _ := ol
          obtain ⟨gl, cl, el, hgl1, hgl2⟩ := hol.form (kcL_pos _ _)
          rw [kcL_len] at el
          subst el
          have hrl := hideX (rw_of_bys hol (kcL_len _ _))
          clear ol hol HCC
          have b1s := b1.size
          go_wp2
          go_loopw [20] (fun i wx => ∃ u : Nat, u ≤ 80 ∧ i = .int .i64 u ∧ Hid (Rw wx gl 80) ∧ Hid (Tch gl gl W1 wx)) (fun i _ => 80 - (intOf i).toNat)
          case atStart => exact ⟨0, by omega, rfl, hrl, hideX (Tch.refl _ _ _)⟩
          case round =>
            obtain ⟨u, hu, rfl, hru, htu⟩ := hrel
            obtain ⟨wx, hwx⟩ : ∃ x, x = wr := ⟨_, rfl⟩
            subst hwx
            clear hrl k1 k2
            by_cases hlu : u < 80
            · obtain ⟨x, d1, d2⟩ := hru.out u hlu
              have i2 : (u : Int) < 80 := by omega
              go_wp2
              go_roundw
              case rel => exact ⟨u + 1, by omega, by go_num, hideX (hru.out.set u 98), hideX (htu.out.setP u (.int .u8 98))⟩
              case measure => simp [intOf]; omega
            · have hu8 : u = 80 := by omega
              subst hu8
              have i2 : ¬ (((80 : Nat) : Int) < 80) := by decide
              have b2 : Below wo.heap.size wo wx := b1.trans (htu.out.below hgl1 hgl1 b1s)
              clear hru htu
              obtain ⟨fin, r1, r2, r3⟩ := kc_run (a := (a : Int)) (b := (b : Int)) (by omega) (by omega) (by omega) (by omega) xs
              rw [HV.out] at r2
              have CR := run_any (lb (cat8 (kcL (a : Int) (b : Int)))) 10 f1 g1 c1 fa lj cp xs wx fin (by decide) (by decide) (by rw [show 8 * 10 = (cat8 (kcL (a : Int) (b : Int))).length from HQ1.out.len.symm, lb_code]; exact K1.out.keep b2) (lb_bd HQ1.out.by1) HQ1.out.good hxl l64 (HXB.out.later (hb.trans (b2.mono hb.size))) hxb r1 (by rw [r2]; omega)
              rw [r2, r3] at CR
              have HCR := hideX CR
              clear CR r1 r2 r3
              go_wp2_with fail
              refine HCR.out.mono ?_
              rintro e W3 ⟨vy, rfl, oy, b3⟩
              clear HCR
              have b23 := b2.trans (b3.mono b2.size)
              obtain ⟨la, lc, ewan, hla⟩ := K4.out
              have k3 := conv_own oy
              have k4 := conv_bytes lc (show (keptX xs).length = lj by rw [keptX_len]; exact hxl) (hla.later b23)
              rw [← ewan] at k4
              have hoy : Bys W3 wx.heap.size vy (keptX xs) := oy
              have hky : (keptX xs).length = lj := by rw [keptX_len]; exact hxl
              obtain ⟨ly, cy, rfl, hly⟩ := y_form hky hoy
              have HLY := hideX hly
              clear oy hoy hly hla ewan
              have b23s := b23.size
              have hxs2 := b2.size
              go_wp2
              go_loopw [24] (fun i wz => ∃ u : Nat, u ≤ lj ∧ i = .int .i64 u ∧ Hid (0 < lj → ∃ gy, ly = some ⟨gy, 0, none⟩ ∧ wx.heap.size ≤ gy ∧ Rw wz gy lj) ∧ Hid (Below wx.heap.size W3 wz)) (fun i _ => lj - (intOf i).toNat)
              case atStart => exact ⟨0, by omega, rfl, HLY, hideX (Below.refl _ _)⟩
              case round =>
                obtain ⟨u, hu, rfl, hru, htu⟩ := hrel
                obtain ⟨wz, hwz⟩ : ∃ x, x = wr := ⟨_, rfl⟩
                subst hwz
                clear HLY k3 k4
                by_cases hlu : u < lj
                · exact absurd hlu (by omega)
                · have hul : u = lj := by omega
                  subst hul
                  have b4 : Below wo.heap.size wo wz := b23.trans (htu.out.mono hxs2)
                  clear hru htu
                  obtain ⟨fin, r1, r2, r3⟩ := kd_run (a := (a : Int)) (b := (b : Int)) (by omega) (by omega) (by omega) (by omega) xs
                  have hxz := HXB.out.later (hb.trans (b4.mono hb.size))
                  have CS := says_any (n := 6) f2 g2 c2 fa u cp xs (b : Int) fa u cp xs wz fin HQ2.out.len (by decide) (by decide) (K2.out.keep b4) HQ2.out.by1 HQ2.out.good hxl l64 hxz hxb r1 r2 (by omega) hxl hxz r3
                  have HCS := hideX CS
                  clear CS r1 r2 r3 hxz
                  go_wp2_with fail
                  refine HCS.out.mono ?_
                  rintro e WS ⟨rfl, hS⟩
                  have b5 := b4.trans (hS.mono b4.size)
                  go_wp2
                  go_roundw
                  case rel => exact ⟨t + 1, by omega, by go_num, hideX (K1.out.keep b5), hideX (K2.out.keep b5), hideX (K3.out.later b5), hideX (by obtain ⟨la, lc, e1, e2⟩ := K4.out; exact ⟨la, lc, e1, e2.later b5⟩), hb.trans (b5.mono hb.size)⟩
                  case measure => simp [intOf]; omega
        · have ht2 : t = 2 := by omega
          subst ht2
          go_wp2
          go_ret
          exact ⟨rfl, hb⟩
theorem kept_walk (one other : Int) (fa : Option Addr) (ln cp : Nat) (zs : List Int) (w : World)
    (hone : -9223372036854775808 ≤ one ∧ one ≤ 9223372036854775807) (hother : -9223372036854775808 ≤ other ∧ other ≤ 9223372036854775807) (hz : BytesIn w fa ln cp zs) :
    Calls Tryz.prog 12 #[.int .i64 one, .int .i64 other, .slice fa ln cp] w fun e w' => e = .returned (.bool true) ∧ Below w.heap.size w w' := by
  have key : ln ≤ cp ∧ cp ≤ 9223372036854775807 ∧ (zs.take (cut64 ln)).length = cut64 ln ∧ (∀ x ∈ zs.take (cut64 ln), 0 ≤ x ∧ x ≤ 255) ∧ BytesAt w fa (zs.take (cut64 ln)) ∧ (fa = none → cut64 ln = 0 ∧ cp = 0) := by
    have hc := (cut64_le ln).2
    rcases hz with ⟨rfl, rfl, rfl, rfl⟩ | ⟨b, off, h1, h2, h3, h4, h5, h6, h7⟩
    · exact ⟨by omega, by omega, by simp [cut64], by simp, .inl (by simp), fun _ => ⟨rfl, rfl⟩⟩
    · refine ⟨h3, h4, by rw [List.length_take]; omega, fun x hx => h7 x (List.mem_of_mem_take hx), ?_, fun e => absurd e h2⟩
      by_cases h0 : cut64 ln = 0
      · exact .inl (by rw [h0]; rfl)
      · refine .inr ⟨_, h1 (by omega), fun j u hj => ?_⟩
        have hjl : j < cut64 ln := by have := (List.getElem?_eq_some_iff.1 hj).1; rw [byV_len, List.length_take] at this; omega
        have e : (byV (zs.take (cut64 ln)))[j]? = some (.int .u8 (zs.getD j 0)) := by
          simp [byV, List.getElem?_take_of_lt hjl, List.getElem?_eq_getElem (show j < zs.length by omega)]
        rw [e] at hj
        cases hj
        rw [addr_add]; exact h6 j (by omega)
  obtain ⟨k1, k2, k3, k4, k5, k6⟩ := key
  by_cases h : 0 < cut64 ln
  · exact kept_pos one other fa ln cp _ w hone hother k1 k2 k3 k4 k5 k6 h
  · exact kept_zero one other fa ln cp _ w hone hother k1 k2 k3 k4 k5 k6 h
end Go.Proofs.YtoobileejdhikaaGreat
