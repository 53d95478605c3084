/-
  The statement Sums: the walk.
  The statement Sums: the walk.
-/
import Derived.Test.YtoobileejdhikaaGreatGd5
import Derived.Test.YtoobileejdhikaaGreatGd3
namespace Go.Proofs.YtoobileejdhikaaGreat
open Go.RowKit

theorem pow256 {a b : Nat} (h : a ≤ b) : (256 : Int) ^ a ≤ 256 ^ b := by
  have e : ∀ n : Nat, (256 : Int) ^ n = ((256 ^ n : Nat) : Int) := fun n => by simp
  rw [e, e]
  exact Int.ofNat_le.2 (Nat.pow_le_pow_right (by decide) h)
set_option maxRecDepth 100000 in
set_option maxHeartbeats 1000000 in
theorem worked_any (k : Nat) (a b : Int) (w : World) (k2 : 2 ≤ k) (k11 : k ≤ 11) (a0 : 0 ≤ a) (a1 : a < 18446744073709551616) (b0 : 0 ≤ b) (b1 : b < 18446744073709551616) :
    Calls Tryz.prog 31 #[.int .i64 (k : Int), .int .u64 a, .int .u64 b] w fun e w' => e = .returned (.int .u64 (wkR k a b)) ∧ w = w' := by
  have c0 : (0 : Int) ≤ b % 64 := by omega
  have c1 : b % 64 < 64 := by omega
  have HB := hideX (And.intro a1 b1)
  clear a1 b1
  by_cases hb : b = 0
  · subst hb
    rcases (show k = 2 ∨ k = 3 ∨ k = 4 ∨ k = 5 ∨ k = 6 ∨ k = 7 ∨ k = 8 ∨ k = 9 ∨ k = 10 ∨ k = 11 from by omega) with rfl | rfl | rfl | rfl | rfl | rfl | rfl | rfl | rfl | rfl
    all_goals
      go_enter Tryz.func31, Tryz.ntmps31
      go_wp2
      go_ret
      exact ⟨by first | rfl | (refine ret_int ?_; simp [wkR]; done) | (refine ret_int ?_; simp [wkR]; rfl), rfl⟩
  · have hb' : (b == 0) = false := by simpa using hb
    have hdv : IntKind.u64.wrap (a.tdiv b) = a / b := by
      rw [Int.tdiv_eq_ediv_of_nonneg a0]; have h1 := Int.ediv_nonneg a0 b0; have h2 := Int.ediv_le_self b a0; have := HB.out; show w64 _ = _; rw [w64_eq]; omega
    have HD := hideX hdv
    clear hdv
    rcases (show k = 2 ∨ k = 3 ∨ k = 4 ∨ k = 5 ∨ k = 6 ∨ k = 7 ∨ k = 8 ∨ k = 9 ∨ k = 10 ∨ k = 11 from by omega) with rfl | rfl | rfl | rfl | rfl | rfl | rfl | rfl | rfl | rfl
    all_goals
      go_enter Tryz.func31, Tryz.ntmps31
      go_wp2
      go_ret
      exact ⟨by first | rfl | (refine ret_int ?_; simp [wkR, hb]; done) | (refine ret_int (HD.out.trans ?_); simp [wkR, hb]), rfl⟩
end Go.Proofs.YtoobileejdhikaaGreat

namespace Go.Proofs.YtoobileejdhikaaGreat
open Go.RowKit

set_option maxRecDepth 100000 in
set_option maxHeartbeats 800000 in
theorem sums_neg (size op n : Int) (fa : Option Addr) (b off len cap : Nat) (A : Nat → Option Addr) (L C : Nat → Nat) (Z : Nat → List Int) (w : World)
    (hsize : -9223372036854775808 ≤ size ∧ size ≤ 9223372036854775807) (hop : -9223372036854775808 ≤ op ∧ op ≤ 9223372036854775807) (hn : -9223372036854775808 ≤ n ∧ n ≤ 9223372036854775807) (hs : n < 0)
    (hfa : 0 < len → fa = some ⟨b, off, none⟩) (hfr : FrAt w b off len A L C Z) (hlen : len ≤ 9223372036854775807) :
    Calls Tryz.prog 10 #[.int .i64 size, .int .i64 op, .int .i64 n, .slice fa len cap] w fun e w' => e = .returned (.bool true) ∧ Below w.heap.size w w' := by
  have HFRS := hideX hfr
  have HFA := hideX hfa
  clear hfr hfa
  go_enter Tryz.func10, Tryz.ntmps10
  go_wp2_with fail
  refine (wpick_any size 4 w hsize.1 hsize.2 (by decide) (by decide)).mono ?_
  rintro e w' ⟨rfl, rfl⟩
  obtain ⟨s, hs⟩ := Int.eq_ofNat_of_zero_le (pickR_bd size 4 (by decide)).1
  have hs4 : s < 4 := by have := (pickR_bd size 4 (by decide)).2; omega
  rw [hs]
  clear hs
  have csz : (w.alloc (.cells #[.int .i64 1, .int .i64 2, .int .i64 4, .int .i64 8] 3)).cell? ⟨w.heap.size, s, none⟩ = some (.int .i64 (szOf (20 + s) : Nat)) := by
    rw [cell_of_row _ w.heap.size s _ _ _ (heap_alloc_new w _)]
    rcases (show s = 0 ∨ s = 1 ∨ s = 2 ∨ s = 3 from by omega) with rfl | rfl | rfl | rfl <;> rfl
  have hszb := sz_bd hs4
  obtain ⟨zn, hzn⟩ : ∃ zn, szOf (20 + s) = zn := ⟨_, rfl⟩
  rw [hzn] at csz hszb
  have s0 : (0 : Int) ≤ (s : Int) := by omega
  have s1 : (s : Int) < 4 := by omega
  have HSZ := hideX hzn
  clear hzn
  go_wp2_with fail
  refine (wpick_any op 10 _ hop.1 hop.2 (by decide) (by decide)).mono ?_
  rintro e wA ⟨rfl, rfl⟩
  obtain ⟨kp, hkp⟩ := Int.eq_ofNat_of_zero_le (pickR_bd op 10 (by decide)).1
  have hkp10 : kp < 10 := by have := (pickR_bd op 10 (by decide)).2; omega
  rw [hkp]
  clear hkp csz
  have BA : Below w.heap.size w (w.alloc (.cells #[.int .i64 1, .int .i64 2, .int .i64 4, .int .i64 8] 3)) := (Below.refl _ _).alloc (Nat.le_refl _) _
  generalize w.alloc (.cells #[.int .i64 1, .int .i64 2, .int .i64 4, .int .i64 8] 3) = WA at BA ⊢
  have B := BA
  clear BA
  go_wp2_with fail
  refine (wpick_any n 2147483648 _ hn.1 hn.2 (by decide) (by decide)).mono ?_
  rintro e wB ⟨rfl, rfl⟩
  have hb0 := (pickR_bd n 2147483648 (by decide)).1
  have hb1 := (pickR_bd n 2147483648 (by decide)).2
  generalize pickR n 2147483648 = b at hb0 hb1 ⊢
  have HKK := hideX (show (2 : Int) + (kp : Int) = ((kp + 2 : Nat) : Int) by omega)
  go_wp2_with fail
  refine (wtest_any (zn : Int) 8 _).mono ?_
  rintro e W1 ⟨g1, c1, rfl, o1, h1⟩
  replace B := B.trans (h1.mono B.size)
  have p1 := hideX (o1.part (by show 0 < 24; decide))
  clear o1 h1
  go_wp2_with fail
  refine (wins_any (20 + (s : Int)) 5 1 0 0 _ (by omega) (by omega) (by decide) (by decide) (by decide) (by decide)).mono ?_
  rintro e W2 ⟨g2, c2, rfl, o2, h2⟩
  replace p1 := hideX (p1.out.later h2)
  replace B := B.trans (h2.mono B.size)
  have p2 := hideX (o2.part (by show 0 < 8; decide))
  clear o2 h2
  go_wp2_with fail
  refine (wins_any (2 + (kp : Int) + 128) 5 0 0 (-b) _ (by omega) (by omega) (by decide) (by decide) (by decide) (by decide)).mono ?_
  rintro e W3 ⟨g3, c3, rfl, o3, h3⟩
  replace p1 := hideX (p1.out.later h3)
  replace p2 := hideX (p2.out.later h3)
  replace B := B.trans (h3.mono B.size)
  have p3 := hideX (o3.part (by show 0 < 8; decide))
  clear o3 h3
  go_wp2_with fail
  refine (wins_any 135 5 0 0 255 _ (by decide) (by decide) (by decide) (by decide) (by decide) (by decide)).mono ?_
  rintro e W4 ⟨g4, c4, rfl, o4, h4⟩
  replace p1 := hideX (p1.out.later h4)
  replace p2 := hideX (p2.out.later h4)
  replace p3 := hideX (p3.out.later h4)
  replace B := B.trans (h4.mono B.size)
  have p4 := hideX (o4.part (by show 0 < 8; decide))
  clear o4 h4
  go_wp2_with fail
  refine (wins_any 161 5 0 2 100 _ (by decide) (by decide) (by decide) (by decide) (by decide) (by decide)).mono ?_
  rintro e W5 ⟨g5, c5, rfl, o5, h5⟩
  replace p1 := hideX (p1.out.later h5)
  replace p2 := hideX (p2.out.later h5)
  replace p3 := hideX (p3.out.later h5)
  replace p4 := hideX (p4.out.later h5)
  replace B := B.trans (h5.mono B.size)
  have p5 := hideX (o5.part (by show 0 < 8; decide))
  clear o5 h5
  go_wp2_with fail
  refine (wout_any 1 _).mono ?_
  rintro e W6 ⟨g6, c6, rfl, o6, h6⟩
  replace p1 := hideX (p1.out.later h6)
  replace p2 := hideX (p2.out.later h6)
  replace p3 := hideX (p3.out.later h6)
  replace p4 := hideX (p4.out.later h6)
  replace p5 := hideX (p5.out.later h6)
  replace B := B.trans (h6.mono B.size)
  have p6 := hideX (o6.part (by show 0 < 16; decide))
  clear o6 h6
  go_wp2_with fail
  refine (wout_any 2 _).mono ?_
  rintro e W7 ⟨g7, c7, rfl, o7, h7⟩
  replace p1 := hideX (p1.out.later h7)
  replace p2 := hideX (p2.out.later h7)
  replace p3 := hideX (p3.out.later h7)
  replace p4 := hideX (p4.out.later h7)
  replace p5 := hideX (p5.out.later h7)
  replace p6 := hideX (p6.out.later h7)
  replace B := B.trans (h7.mono B.size)
  have p7 := hideX (o7.part (by show 0 < 16; decide))
  clear o7 h7
  go_wp2_with fail
  refine (wout_any 3 _).mono ?_
  rintro e W8 ⟨g8, c8, rfl, o8, h8⟩
  replace p1 := hideX (p1.out.later h8)
  replace p2 := hideX (p2.out.later h8)
  replace p3 := hideX (p3.out.later h8)
  replace p4 := hideX (p4.out.later h8)
  replace p5 := hideX (p5.out.later h8)
  replace p6 := hideX (p6.out.later h8)
  replace p7 := hideX (p7.out.later h8)
  replace B := B.trans (h8.mono B.size)
  have p8 := hideX (o8.part (by show 0 < 16; decide))
  clear o8 h8
  have hA9 : Below W8.heap.size W8 (W8.alloc (.cells #[Value.slice (some ⟨g1, 0, none⟩) 24 c1, Value.slice (some ⟨g2, 0, none⟩) 8 c2, Value.slice (some ⟨g3, 0, none⟩) 8 c3, Value.slice (some ⟨g4, 0, none⟩) 8 c4, Value.slice (some ⟨g5, 0, none⟩) 8 c5, Value.slice (some ⟨g6, 0, none⟩) 16 c6, Value.slice (some ⟨g7, 0, none⟩) 16 c7, Value.slice (some ⟨g8, 0, none⟩) 16 c8] 22)) := (Below.refl _ _).alloc (Nat.le_refl _) _
  have C9 := fun (wx : World) (hx : wx = (W8.alloc (.cells #[Value.slice (some ⟨g1, 0, none⟩) 24 c1, Value.slice (some ⟨g2, 0, none⟩) 8 c2, Value.slice (some ⟨g3, 0, none⟩) 8 c3, Value.slice (some ⟨g4, 0, none⟩) 8 c4, Value.slice (some ⟨g5, 0, none⟩) 8 c5, Value.slice (some ⟨g6, 0, none⟩) 16 c6, Value.slice (some ⟨g7, 0, none⟩) 16 c7, Value.slice (some ⟨g8, 0, none⟩) 16 c8] 22))) => wcode_any W8.heap.size 8 8 (fun i => [Value.slice (some ⟨g1, 0, none⟩) 24 c1, Value.slice (some ⟨g2, 0, none⟩) 8 c2, Value.slice (some ⟨g3, 0, none⟩) 8 c3, Value.slice (some ⟨g4, 0, none⟩) 8 c4, Value.slice (some ⟨g5, 0, none⟩) 8 c5, Value.slice (some ⟨g6, 0, none⟩) 16 c6, Value.slice (some ⟨g7, 0, none⟩) 16 c7, Value.slice (some ⟨g8, 0, none⟩) 16 c8].getD i .nilFunc) (fun i => [testB (zn : Int) 8, insB (20 + (s : Int)) 5 1 0 0, insB (2 + (kp : Int) + 128) 5 0 0 (-b), insB 135 5 0 0 255, insB 161 5 0 2 100, (insB 129 0 0 0 1 ++ insB 41 0 0 0 0), (insB 129 0 0 0 2 ++ insB 41 0 0 0 0), (insB 129 0 0 0 3 ++ insB 41 0 0 0 0)].getD i []) wx (by decide) (fun i hi => by match i, hi with | 0, _ => exact (by decide : 24 ≤ 100) | 1, _ => exact (by decide : 8 ≤ 100) | 2, _ => exact (by decide : 8 ≤ 100) | 3, _ => exact (by decide : 8 ≤ 100) | 4, _ => exact (by decide : 8 ≤ 100) | 5, _ => exact (by decide : 16 ≤ 100) | 6, _ => exact (by decide : 16 ≤ 100) | 7, _ => exact (by decide : 16 ≤ 100)) (fun i hi => by subst hx; match i, hi with | 0, _ => simp [go_sem] | 1, _ => simp [go_sem] | 2, _ => simp [go_sem] | 3, _ => simp [go_sem] | 4, _ => simp [go_sem] | 5, _ => simp [go_sem] | 6, _ => simp [go_sem] | 7, _ => simp [go_sem]) (fun i hi => by subst hx; match i, hi with | 0, _ => exact p1.out.later hA9 | 1, _ => exact p2.out.later hA9 | 2, _ => exact p3.out.later hA9 | 3, _ => exact p4.out.later hA9 | 4, _ => exact p5.out.later hA9 | 5, _ => exact p6.out.later hA9 | 6, _ => exact p7.out.later hA9 | 7, _ => exact p8.out.later hA9) 104 rfl (by decide)
  go_wp2_with fail
  refine (C9 _ rfl).mono ?_
  rintro e W9 ⟨g9, c9, rfl, o9, h9⟩
  replace h9 := hA9.trans (h9.mono hA9.size)
  replace B := B.trans (h9.mono B.size)
  replace o9 := hideX o9
  clear C9 hA9 p1 p2 p3 p4 p5 p6 p7 p8
  have hP : SumOk s (kp + 2) (zn : Int) (-b) := ⟨hs4, by rw [HSZ.out], by omega, by omega, by omega, by omega⟩
  obtain ⟨hby, hgood⟩ := cat8_is (sumL s (kp + 2) (zn : Int) (-b)) (sumL_ok hP) (sumL_fit hP)
  have eL : catP (fun i => [testB (zn : Int) 8, insB (20 + (s : Int)) 5 1 0 0, insB (2 + (kp : Int) + 128) 5 0 0 (-b), insB 135 5 0 0 255, insB 161 5 0 2 100, (insB 129 0 0 0 1 ++ insB 41 0 0 0 0), (insB 129 0 0 0 2 ++ insB 41 0 0 0 0), (insB 129 0 0 0 3 ++ insB 41 0 0 0 0)].getD i []) 8 = cat8 (sumL s (kp + 2) (zn : Int) (-b)) := by
    have q1 : ((20 + s : Nat) : Int) = 20 + (s : Int) := by omega
    have q2 : ((kp + 2 + 128 : Nat) : Int) = 2 + (kp : Int) + 128 := by omega
    simp only [cat8, sumL, In5.by8, q1, q2]
    rfl
  have oF := o9.out
  rw [eL] at oF
  change Bys W9 _ _ _ at oF
  have CL := wlet_any (n := 13) W9 (cat8_len _) (by decide) (by decide) hby oF hgood (sum_let hP)
  have HCL := hideX CL
  clear CL oF o9 eL
  go_wp2_with fail
  refine HCL.out.mono ?_
  rintro e W10 ⟨ff, gg, cc, rfl, hF, hfl, hgl, h10⟩
  replace B := B.trans (h10.mono B.size)
  clear h10 HCL
  have HF := hideX hF
  have HGd := hideX hgood
  have HBy := hideX hby
  have HP := hideX hP
  clear hF hgood hby hP
  obtain ⟨fin0, r01, r02, r03⟩ := sum_run HP.out [] (fun x hx => by cases hx)
  rw [sumV, HSZ.out, if_neg (by show ¬ zn ≤ 0; omega)] at r02
  have CN := says_any (n := 13) ff gg cc none 0 0 [] 3 none 0 0 [] W10 fin0 (cat8_len _) (by decide) (by decide) HF.out HBy.out HGd.out rfl (by decide) (.inl rfl) (fun x hx => by cases hx) r01 r02 (by decide) rfl (.inl rfl) r03
  have HCN := hideX CN
  clear CN r01 r02 r03
  go_wp2_with fail
  refine HCN.out.mono ?_
  rintro e WN ⟨rfl, hN1⟩
  replace HF := hideX (HF.out.keep hN1)
  replace B := B.trans (hN1.mono B.size)
  clear HCN hN1 fin0
  go_wp2_with fail
  go_loopw [14, 15] (fun ok i wr => ∃ j : Nat, j ≤ len ∧ i = .int .i64 j ∧ ok = .bool true ∧ Hid (FiltAt wr ff gg cc (cat8 (sumL s (kp + 2) (zn : Int) (-b)))) ∧ Below w.heap.size w wr) (fun _ i _ => len - (intOf i).toNat)
  case atStart => exact ⟨0, by omega, rfl, rfl, HF, B⟩
  case round =>
    obtain ⟨j, hj, rfl, rfl, HFr, hb⟩ := hrel
    clear HF B
    by_cases hlt : j < len
    · obtain rfl := HFA.out (by omega)
      have i1 : (0 : Int) ≤ (j : Int) := by omega
      have i2 : (j : Int) < (len : Int) := by omega
      have hfr := HFRS.out.later hb
      have cj := hfr.c j hlt
      have hxl := hfr.len hlt
      have hxB := hfr.bytes hlt
      have hxb := hfr.bd hlt
      have CFm := fun wx => framed_any (A j) (L j) (C j) wx (hfr.lc j hlt) (hfr.cm j hlt)
      have hcellx := fun q (hq : q < cut64 (L j)) => hfr.cell hlt hq
      obtain ⟨fin, r1, r2, r3⟩ := sum_run HP.out (frX L Z j) hxb
      have CS := fun (v : Int) (hv : fin.v 0 = v) (hv2 : v < 9223372036854775808) => says_any (n := 13) ff gg cc (A j) (cut64 (L j)) (C j) (frX L Z j) v (A j) (cut64 (L j)) (C j) (frX L Z j) wr fin (cat8_len _) (by decide) (by decide) HFr.out HBy.out HGd.out hxl (cut64_le _).1 hxB hxb r1 hv hv2 hxl hxB r3
      rw [HSZ.out] at r2
      have hgb : ∀ t, 0 ≤ (frX L Z j).getD t 0 ∧ (frX L Z j).getD t 0 ≤ 255 := lb_bd hxb
      have HCS := hideX CS
      have HCX := hideX hcellx
      have HR2 := hideX r2
      have HGB := hideX hgb
      clear CS hcellx r1 r2 r3 hfr hxB hxb hgb
      change ∀ wx, Calls Tryz.prog 30 #[.slice (A j) (L j) (C j)] wx fun e w' => e = .returned (.slice (A j) (cut64 (L j)) (C j)) ∧ wx = w' at CFm
      have HCF := hideX CFm
      clear CFm
      have l64 := (cut64_le (L j)).1
      generalize cut64 (L j) = lj at *
      by_cases hk : zn ≤ lj
      · obtain ⟨q, o, hA, _⟩ := HCX.out 0 (by omega)
        have k1 : (zn : Int) ≤ (lj : Int) := by omega
        have hr2 := HR2.out
        rw [sumV, if_pos (by rw [hxl]; exact hk)] at hr2
        have hxc : ∀ t, t < zn → wr.cell? ⟨q, o + t, none⟩ = some (.int .u8 ((frX L Z j).getD t 0)) := fun t ht => by
          obtain ⟨q', o', e1, e2⟩ := HCX.out t (by omega)
          rw [hA] at e1
          cases e1
          exact e2
        have HXC := hideX hxc
        clear hxc
        rw [hA] at cj HCF
        have HS0 := HCS.out
        rw [hA] at HS0
        have HHS := hideX HS0
        clear HS0 HCS HCX HR2
        have HR3 := hideX hr2
        clear hr2
        go_wp2_with (go_at_call 30; refine (HCF.out _).mono ?_; rintro e w' ⟨rfl, rfl⟩)
        go_loop [18, 19] (fun v jj => ∃ t : Nat, t ≤ zn ∧ jj = .int .i64 ((t : Int) - 1) ∧ v = .int .u64 (hN (fun q => (frX L Z j).getD q 0) (zn - t) t)) (fun _ jj => (intOf jj + 1).toNat)
        case atStart => exact ⟨zn, Nat.le_refl _, rfl, by rw [Nat.sub_self]; rfl⟩
        case round =>
          obtain ⟨t, ht, rfl, rfl⟩ := hrel
          have hvb := hN_bd (g := fun q => (frX L Z j).getD q 0) HGB.out (zn - t) t
          by_cases ht0 : 0 < t
          · obtain ⟨u, rfl⟩ : ∃ u, t = u + 1 := ⟨t - 1, by omega⟩
            have e1 : (((u + 1 : Nat) : Int) - 1) = (u : Int) := by omega
            rw [e1]
            have cu := HXC.out u (by omega)
            have gu := HGB.out u
            have hst : hN (fun q => (frX L Z j).getD q 0) (zn - u) u = (frX L Z j).getD u 0 + 256 * hN (fun q => (frX L Z j).getD q 0) (zn - (u + 1)) (u + 1) := by rw [show zn - u = zn - (u + 1) + 1 from by omega]; rfl
            have h7 : (256 : Int) ^ (zn - (u + 1)) ≤ 256 ^ 7 := pow256 (by omega)
            have HST := hideX hst
            clear hst
            generalize hN (fun q => (frX L Z j).getD q 0) (zn - (u + 1)) (u + 1) = y at *
            generalize (frX L Z j).getD u 0 = c at cu gu HST
            have y0 := hvb.1
            have y1 : 256 * y < 18446744073709551616 := by omega
            have y2 : 256 * y + c < 18446744073709551616 := by omega
            clear hvb h7
            go_wp2
            go_round
            case rel => exact ⟨u, by omega, by go_num, by rw [HST.out]; exact congrArg (Value.int .u64) (by omega)⟩
            case measure => simp [intOf]
          · have htz : t = 0 := by omega
            subst htz
            have e1 : (((0 : Nat) : Int) - 1) = -1 := by decide
            rw [e1]
            rw [Nat.sub_zero] at hvb ⊢
            have hr3 := HR3.out
            have h8 : (256 : Int) ^ zn ≤ 256 ^ 8 := pow256 hszb.2
            generalize hN (fun q => (frX L Z j).getD q 0) zn 0 = y at hr3 hvb
            have CW := fun wx => worked_any (kp + 2) y (w64 (-b)) wx (by omega) (by omega) hvb.1 (by omega) (w64_bd _).1 (w64_bd _).2
            have hwb := wkR_bd (kp + 2) (a := y) (b := w64 (-b)) hvb.1 (by omega) (w64_bd (-b)).1
            generalize wkR (kp + 2) y (w64 (-b)) = u at hr3 CW hwb
            rw [← HKK.out] at CW
            have hwn : w64 (-b) = IntKind.u64.wrap (-b) := rfl
            rw [hwn] at CW
            have HCW := hideX CW
            clear CW
            have u0 := hwb.1
            have u1 := hwb.2
            have u2 : (0 : Int) ≤ u % 256 := by omega
            have u3 : u % 256 < 256 := by omega
            by_cases hu : 100 < u % 256
            · rw [if_pos hu] at hr3
              have HS := hideX (HHS.out 2 hr3 (by decide))
              clear HHS
              go_wp2_with (first | (go_at_call 31; refine (HCW.out _).mono ?_; rintro e w' ⟨rfl, rfl⟩) | (go_at_call 29; refine HS.out.mono ?_; rintro e WS ⟨rfl, hS⟩))
              go_roundw
              case rel => exact ⟨j + 1, by omega, by go_num, rfl, hideX (HFr.out.keep hS), hb.trans (hS.mono hb.size)⟩
              case measure => simp [intOf]; omega
            · rw [if_neg hu] at hr3
              have HS := hideX (HHS.out 1 hr3 (by decide))
              clear HHS
              go_wp2_with (first | (go_at_call 31; refine (HCW.out _).mono ?_; rintro e w' ⟨rfl, rfl⟩) | (go_at_call 29; refine HS.out.mono ?_; rintro e WS ⟨rfl, hS⟩))
              go_roundw
              case rel => exact ⟨j + 1, by omega, by go_num, rfl, hideX (HFr.out.keep hS), hb.trans (hS.mono hb.size)⟩
              case measure => simp [intOf]; omega
      · have k1 : (lj : Int) < (zn : Int) := by omega
        have hr2 := HR2.out
        rw [sumV, if_neg (by rw [hxl]; exact hk)] at hr2
        have HS := hideX (HCS.out 3 hr2 (by decide))
        clear HCS HCX HR2 hr2
        go_wp2_with (first | (go_at_call 30; refine (HCF.out _).mono ?_; rintro e w' ⟨rfl, rfl⟩) | (go_at_call 29; refine HS.out.mono ?_; rintro e WS ⟨rfl, hS⟩))
        go_roundw
        case rel => exact ⟨j + 1, by omega, by go_num, rfl, hideX (HFr.out.keep hS), hb.trans (hS.mono hb.size)⟩
        case measure => simp [intOf]; omega
    · have hjl : j = len := by omega
      subst hjl
      go_wp2
      go_ret
      exact ⟨rfl, hb⟩

set_option maxRecDepth 100000 in
set_option maxHeartbeats 800000 in
theorem sums_pos (size op n : Int) (fa : Option Addr) (b off len cap : Nat) (A : Nat → Option Addr) (L C : Nat → Nat) (Z : Nat → List Int) (w : World)
    (hsize : -9223372036854775808 ≤ size ∧ size ≤ 9223372036854775807) (hop : -9223372036854775808 ≤ op ∧ op ≤ 9223372036854775807) (hn : -9223372036854775808 ≤ n ∧ n ≤ 9223372036854775807) (hs : 0 ≤ n)
    (hfa : 0 < len → fa = some ⟨b, off, none⟩) (hfr : FrAt w b off len A L C Z) (hlen : len ≤ 9223372036854775807) :
    Calls Tryz.prog 10 #[.int .i64 size, .int .i64 op, .int .i64 n, .slice fa len cap] w fun e w' => e = .returned (.bool true) ∧ Below w.heap.size w w' := by
  have HFRS := hideX hfr
  have HFA := hideX hfa
  clear hfr hfa
  go_enter Tryz.func10, Tryz.ntmps10
  go_wp2_with fail
  refine (wpick_any size 4 w hsize.1 hsize.2 (by decide) (by decide)).mono ?_
  rintro e w' ⟨rfl, rfl⟩
  obtain ⟨s, hs⟩ := Int.eq_ofNat_of_zero_le (pickR_bd size 4 (by decide)).1
  have hs4 : s < 4 := by have := (pickR_bd size 4 (by decide)).2; omega
  rw [hs]
  clear hs
  have csz : (w.alloc (.cells #[.int .i64 1, .int .i64 2, .int .i64 4, .int .i64 8] 3)).cell? ⟨w.heap.size, s, none⟩ = some (.int .i64 (szOf (20 + s) : Nat)) := by
    rw [cell_of_row _ w.heap.size s _ _ _ (heap_alloc_new w _)]
    rcases (show s = 0 ∨ s = 1 ∨ s = 2 ∨ s = 3 from by omega) with rfl | rfl | rfl | rfl <;> rfl
  have hszb := sz_bd hs4
  obtain ⟨zn, hzn⟩ : ∃ zn, szOf (20 + s) = zn := ⟨_, rfl⟩
  rw [hzn] at csz hszb
  have s0 : (0 : Int) ≤ (s : Int) := by omega
  have s1 : (s : Int) < 4 := by omega
  have HSZ := hideX hzn
  clear hzn
  go_wp2_with fail
  refine (wpick_any op 10 _ hop.1 hop.2 (by decide) (by decide)).mono ?_
  rintro e wA ⟨rfl, rfl⟩
  obtain ⟨kp, hkp⟩ := Int.eq_ofNat_of_zero_le (pickR_bd op 10 (by decide)).1
  have hkp10 : kp < 10 := by have := (pickR_bd op 10 (by decide)).2; omega
  rw [hkp]
  clear hkp csz
  have BA : Below w.heap.size w (w.alloc (.cells #[.int .i64 1, .int .i64 2, .int .i64 4, .int .i64 8] 3)) := (Below.refl _ _).alloc (Nat.le_refl _) _
  generalize w.alloc (.cells #[.int .i64 1, .int .i64 2, .int .i64 4, .int .i64 8] 3) = WA at BA ⊢
  have B := BA
  clear BA
  go_wp2_with fail
  refine (wpick_any n 2147483648 _ hn.1 hn.2 (by decide) (by decide)).mono ?_
  rintro e wB ⟨rfl, rfl⟩
  have hb0 := (pickR_bd n 2147483648 (by decide)).1
  have hb1 := (pickR_bd n 2147483648 (by decide)).2
  generalize pickR n 2147483648 = b at hb0 hb1 ⊢
  have HKK := hideX (show (2 : Int) + (kp : Int) = ((kp + 2 : Nat) : Int) by omega)
  go_wp2_with fail
  refine (wtest_any (zn : Int) 8 _).mono ?_
  rintro e W1 ⟨g1, c1, rfl, o1, h1⟩
  replace B := B.trans (h1.mono B.size)
  have p1 := hideX (o1.part (by show 0 < 24; decide))
  clear o1 h1
  go_wp2_with fail
  refine (wins_any (20 + (s : Int)) 5 1 0 0 _ (by omega) (by omega) (by decide) (by decide) (by decide) (by decide)).mono ?_
  rintro e W2 ⟨g2, c2, rfl, o2, h2⟩
  replace p1 := hideX (p1.out.later h2)
  replace B := B.trans (h2.mono B.size)
  have p2 := hideX (o2.part (by show 0 < 8; decide))
  clear o2 h2
  go_wp2_with fail
  refine (wins_any (2 + (kp : Int) + 128) 5 0 0 b _ (by omega) (by omega) (by decide) (by decide) (by decide) (by decide)).mono ?_
  rintro e W3 ⟨g3, c3, rfl, o3, h3⟩
  replace p1 := hideX (p1.out.later h3)
  replace p2 := hideX (p2.out.later h3)
  replace B := B.trans (h3.mono B.size)
  have p3 := hideX (o3.part (by show 0 < 8; decide))
  clear o3 h3
  go_wp2_with fail
  refine (wins_any 135 5 0 0 255 _ (by decide) (by decide) (by decide) (by decide) (by decide) (by decide)).mono ?_
  rintro e W4 ⟨g4, c4, rfl, o4, h4⟩
  replace p1 := hideX (p1.out.later h4)
  replace p2 := hideX (p2.out.later h4)
  replace p3 := hideX (p3.out.later h4)
  replace B := B.trans (h4.mono B.size)
  have p4 := hideX (o4.part (by show 0 < 8; decide))
  clear o4 h4
  go_wp2_with fail
  refine (wins_any 161 5 0 2 100 _ (by decide) (by decide) (by decide) (by decide) (by decide) (by decide)).mono ?_
  rintro e W5 ⟨g5, c5, rfl, o5, h5⟩
  replace p1 := hideX (p1.out.later h5)
  replace p2 := hideX (p2.out.later h5)
  replace p3 := hideX (p3.out.later h5)
  replace p4 := hideX (p4.out.later h5)
  replace B := B.trans (h5.mono B.size)
  have p5 := hideX (o5.part (by show 0 < 8; decide))
  clear o5 h5
  go_wp2_with fail
  refine (wout_any 1 _).mono ?_
  rintro e W6 ⟨g6, c6, rfl, o6, h6⟩
  replace p1 := hideX (p1.out.later h6)
  replace p2 := hideX (p2.out.later h6)
  replace p3 := hideX (p3.out.later h6)
  replace p4 := hideX (p4.out.later h6)
  replace p5 := hideX (p5.out.later h6)
  replace B := B.trans (h6.mono B.size)
  have p6 := hideX (o6.part (by show 0 < 16; decide))
  clear o6 h6
  go_wp2_with fail
  refine (wout_any 2 _).mono ?_
  rintro e W7 ⟨g7, c7, rfl, o7, h7⟩
  replace p1 := hideX (p1.out.later h7)
  replace p2 := hideX (p2.out.later h7)
  replace p3 := hideX (p3.out.later h7)
  replace p4 := hideX (p4.out.later h7)
  replace p5 := hideX (p5.out.later h7)
  replace p6 := hideX (p6.out.later h7)
  replace B := B.trans (h7.mono B.size)
  have p7 := hideX (o7.part (by show 0 < 16; decide))
  clear o7 h7
  go_wp2_with fail
  refine (wout_any 3 _).mono ?_
  rintro e W8 ⟨g8, c8, rfl, o8, h8⟩
  replace p1 := hideX (p1.out.later h8)
  replace p2 := hideX (p2.out.later h8)
  replace p3 := hideX (p3.out.later h8)
  replace p4 := hideX (p4.out.later h8)
  replace p5 := hideX (p5.out.later h8)
  replace p6 := hideX (p6.out.later h8)
  replace p7 := hideX (p7.out.later h8)
  replace B := B.trans (h8.mono B.size)
  have p8 := hideX (o8.part (by show 0 < 16; decide))
  clear o8 h8
  have hA9 : Below W8.heap.size W8 (W8.alloc (.cells #[Value.slice (some ⟨g1, 0, none⟩) 24 c1, Value.slice (some ⟨g2, 0, none⟩) 8 c2, Value.slice (some ⟨g3, 0, none⟩) 8 c3, Value.slice (some ⟨g4, 0, none⟩) 8 c4, Value.slice (some ⟨g5, 0, none⟩) 8 c5, Value.slice (some ⟨g6, 0, none⟩) 16 c6, Value.slice (some ⟨g7, 0, none⟩) 16 c7, Value.slice (some ⟨g8, 0, none⟩) 16 c8] 22)) := (Below.refl _ _).alloc (Nat.le_refl _) _
  have C9 := fun (wx : World) (hx : wx = (W8.alloc (.cells #[Value.slice (some ⟨g1, 0, none⟩) 24 c1, Value.slice (some ⟨g2, 0, none⟩) 8 c2, Value.slice (some ⟨g3, 0, none⟩) 8 c3, Value.slice (some ⟨g4, 0, none⟩) 8 c4, Value.slice (some ⟨g5, 0, none⟩) 8 c5, Value.slice (some ⟨g6, 0, none⟩) 16 c6, Value.slice (some ⟨g7, 0, none⟩) 16 c7, Value.slice (some ⟨g8, 0, none⟩) 16 c8] 22))) => wcode_any W8.heap.size 8 8 (fun i => [Value.slice (some ⟨g1, 0, none⟩) 24 c1, Value.slice (some ⟨g2, 0, none⟩) 8 c2, Value.slice (some ⟨g3, 0, none⟩) 8 c3, Value.slice (some ⟨g4, 0, none⟩) 8 c4, Value.slice (some ⟨g5, 0, none⟩) 8 c5, Value.slice (some ⟨g6, 0, none⟩) 16 c6, Value.slice (some ⟨g7, 0, none⟩) 16 c7, Value.slice (some ⟨g8, 0, none⟩) 16 c8].getD i .nilFunc) (fun i => [testB (zn : Int) 8, insB (20 + (s : Int)) 5 1 0 0, insB (2 + (kp : Int) + 128) 5 0 0 b, insB 135 5 0 0 255, insB 161 5 0 2 100, (insB 129 0 0 0 1 ++ insB 41 0 0 0 0), (insB 129 0 0 0 2 ++ insB 41 0 0 0 0), (insB 129 0 0 0 3 ++ insB 41 0 0 0 0)].getD i []) wx (by decide) (fun i hi => by match i, hi with | 0, _ => exact (by decide : 24 ≤ 100) | 1, _ => exact (by decide : 8 ≤ 100) | 2, _ => exact (by decide : 8 ≤ 100) | 3, _ => exact (by decide : 8 ≤ 100) | 4, _ => exact (by decide : 8 ≤ 100) | 5, _ => exact (by decide : 16 ≤ 100) | 6, _ => exact (by decide : 16 ≤ 100) | 7, _ => exact (by decide : 16 ≤ 100)) (fun i hi => by subst hx; match i, hi with | 0, _ => simp [go_sem] | 1, _ => simp [go_sem] | 2, _ => simp [go_sem] | 3, _ => simp [go_sem] | 4, _ => simp [go_sem] | 5, _ => simp [go_sem] | 6, _ => simp [go_sem] | 7, _ => simp [go_sem]) (fun i hi => by subst hx; match i, hi with | 0, _ => exact p1.out.later hA9 | 1, _ => exact p2.out.later hA9 | 2, _ => exact p3.out.later hA9 | 3, _ => exact p4.out.later hA9 | 4, _ => exact p5.out.later hA9 | 5, _ => exact p6.out.later hA9 | 6, _ => exact p7.out.later hA9 | 7, _ => exact p8.out.later hA9) 104 rfl (by decide)
  go_wp2_with fail
  refine (C9 _ rfl).mono ?_
  rintro e W9 ⟨g9, c9, rfl, o9, h9⟩
  replace h9 := hA9.trans (h9.mono hA9.size)
  replace B := B.trans (h9.mono B.size)
  replace o9 := hideX o9
  clear C9 hA9 p1 p2 p3 p4 p5 p6 p7 p8
  have hP : SumOk s (kp + 2) (zn : Int) b := ⟨hs4, by rw [HSZ.out], by omega, by omega, by omega, by omega⟩
  obtain ⟨hby, hgood⟩ := cat8_is (sumL s (kp + 2) (zn : Int) b) (sumL_ok hP) (sumL_fit hP)
  have eL : catP (fun i => [testB (zn : Int) 8, insB (20 + (s : Int)) 5 1 0 0, insB (2 + (kp : Int) + 128) 5 0 0 b, insB 135 5 0 0 255, insB 161 5 0 2 100, (insB 129 0 0 0 1 ++ insB 41 0 0 0 0), (insB 129 0 0 0 2 ++ insB 41 0 0 0 0), (insB 129 0 0 0 3 ++ insB 41 0 0 0 0)].getD i []) 8 = cat8 (sumL s (kp + 2) (zn : Int) b) := by
    have q1 : ((20 + s : Nat) : Int) = 20 + (s : Int) := by omega
    have q2 : ((kp + 2 + 128 : Nat) : Int) = 2 + (kp : Int) + 128 := by omega
    simp only [cat8, sumL, In5.by8, q1, q2]
    rfl
  have oF := o9.out
  rw [eL] at oF
  change Bys W9 _ _ _ at oF
  have CL := wlet_any (n := 13) W9 (cat8_len _) (by decide) (by decide) hby oF hgood (sum_let hP)
  have HCL := hideX CL
  clear CL oF o9 eL
  go_wp2_with fail
  refine HCL.out.mono ?_
  rintro e W10 ⟨ff, gg, cc, rfl, hF, hfl, hgl, h10⟩
  replace B := B.trans (h10.mono B.size)
  clear h10 HCL
  have HF := hideX hF
  have HGd := hideX hgood
  have HBy := hideX hby
  have HP := hideX hP
  clear hF hgood hby hP
  obtain ⟨fin0, r01, r02, r03⟩ := sum_run HP.out [] (fun x hx => by cases hx)
  rw [sumV, HSZ.out, if_neg (by show ¬ zn ≤ 0; omega)] at r02
  have CN := says_any (n := 13) ff gg cc none 0 0 [] 3 none 0 0 [] W10 fin0 (cat8_len _) (by decide) (by decide) HF.out HBy.out HGd.out rfl (by decide) (.inl rfl) (fun x hx => by cases hx) r01 r02 (by decide) rfl (.inl rfl) r03
  have HCN := hideX CN
  clear CN r01 r02 r03
  go_wp2_with fail
  refine HCN.out.mono ?_
  rintro e WN ⟨rfl, hN1⟩
  replace HF := hideX (HF.out.keep hN1)
  replace B := B.trans (hN1.mono B.size)
  clear HCN hN1 fin0
  go_wp2_with fail
  go_loopw [14, 15] (fun ok i wr => ∃ j : Nat, j ≤ len ∧ i = .int .i64 j ∧ ok = .bool true ∧ Hid (FiltAt wr ff gg cc (cat8 (sumL s (kp + 2) (zn : Int) b))) ∧ Below w.heap.size w wr) (fun _ i _ => len - (intOf i).toNat)
  case atStart => exact ⟨0, by omega, rfl, rfl, HF, B⟩
  case round =>
    obtain ⟨j, hj, rfl, rfl, HFr, hb⟩ := hrel
    clear HF B
    by_cases hlt : j < len
    · obtain rfl := HFA.out (by omega)
      have i1 : (0 : Int) ≤ (j : Int) := by omega
      have i2 : (j : Int) < (len : Int) := by omega
      have hfr := HFRS.out.later hb
      have cj := hfr.c j hlt
      have hxl := hfr.len hlt
      have hxB := hfr.bytes hlt
      have hxb := hfr.bd hlt
      have CFm := fun wx => framed_any (A j) (L j) (C j) wx (hfr.lc j hlt) (hfr.cm j hlt)
      have hcellx := fun q (hq : q < cut64 (L j)) => hfr.cell hlt hq
      obtain ⟨fin, r1, r2, r3⟩ := sum_run HP.out (frX L Z j) hxb
      have CS := fun (v : Int) (hv : fin.v 0 = v) (hv2 : v < 9223372036854775808) => says_any (n := 13) ff gg cc (A j) (cut64 (L j)) (C j) (frX L Z j) v (A j) (cut64 (L j)) (C j) (frX L Z j) wr fin (cat8_len _) (by decide) (by decide) HFr.out HBy.out HGd.out hxl (cut64_le _).1 hxB hxb r1 hv hv2 hxl hxB r3
      rw [HSZ.out] at r2
      have hgb : ∀ t, 0 ≤ (frX L Z j).getD t 0 ∧ (frX L Z j).getD t 0 ≤ 255 := lb_bd hxb
      have HCS := hideX CS
      have HCX := hideX hcellx
      have HR2 := hideX r2
      have HGB := hideX hgb
      clear CS hcellx r1 r2 r3 hfr hxB hxb hgb
      change ∀ wx, Calls Tryz.prog 30 #[.slice (A j) (L j) (C j)] wx fun e w' => e = .returned (.slice (A j) (cut64 (L j)) (C j)) ∧ wx = w' at CFm
      have HCF := hideX CFm
      clear CFm
      have l64 := (cut64_le (L j)).1
      generalize cut64 (L j) = lj at *
      by_cases hk : zn ≤ lj
      · obtain ⟨q, o, hA, _⟩ := HCX.out 0 (by omega)
        have k1 : (zn : Int) ≤ (lj : Int) := by omega
        have hr2 := HR2.out
        rw [sumV, if_pos (by rw [hxl]; exact hk)] at hr2
        have hxc : ∀ t, t < zn → wr.cell? ⟨q, o + t, none⟩ = some (.int .u8 ((frX L Z j).getD t 0)) := fun t ht => by
          obtain ⟨q', o', e1, e2⟩ := HCX.out t (by omega)
          rw [hA] at e1
          cases e1
          exact e2
        have HXC := hideX hxc
        clear hxc
        rw [hA] at cj HCF
        have HS0 := HCS.out
        rw [hA] at HS0
        have HHS := hideX HS0
        clear HS0 HCS HCX HR2
        have HR3 := hideX hr2
        clear hr2
        go_wp2_with (go_at_call 30; refine (HCF.out _).mono ?_; rintro e w' ⟨rfl, rfl⟩)
        go_loop [18, 19] (fun v jj => ∃ t : Nat, t ≤ zn ∧ jj = .int .i64 ((t : Int) - 1) ∧ v = .int .u64 (hN (fun q => (frX L Z j).getD q 0) (zn - t) t)) (fun _ jj => (intOf jj + 1).toNat)
        case atStart => exact ⟨zn, Nat.le_refl _, rfl, by rw [Nat.sub_self]; rfl⟩
        case round =>
          obtain ⟨t, ht, rfl, rfl⟩ := hrel
          have hvb := hN_bd (g := fun q => (frX L Z j).getD q 0) HGB.out (zn - t) t
          by_cases ht0 : 0 < t
          · obtain ⟨u, rfl⟩ : ∃ u, t = u + 1 := ⟨t - 1, by omega⟩
            have e1 : (((u + 1 : Nat) : Int) - 1) = (u : Int) := by omega
            rw [e1]
            have cu := HXC.out u (by omega)
            have gu := HGB.out u
            have hst : hN (fun q => (frX L Z j).getD q 0) (zn - u) u = (frX L Z j).getD u 0 + 256 * hN (fun q => (frX L Z j).getD q 0) (zn - (u + 1)) (u + 1) := by rw [show zn - u = zn - (u + 1) + 1 from by omega]; rfl
            have h7 : (256 : Int) ^ (zn - (u + 1)) ≤ 256 ^ 7 := pow256 (by omega)
            have HST := hideX hst
            clear hst
            generalize hN (fun q => (frX L Z j).getD q 0) (zn - (u + 1)) (u + 1) = y at *
            generalize (frX L Z j).getD u 0 = c at cu gu HST
            have y0 := hvb.1
            have y1 : 256 * y < 18446744073709551616 := by omega
            have y2 : 256 * y + c < 18446744073709551616 := by omega
            clear hvb h7
            go_wp2
            go_round
            case rel => exact ⟨u, by omega, by go_num, by rw [HST.out]; exact congrArg (Value.int .u64) (by omega)⟩
            case measure => simp [intOf]
          · have htz : t = 0 := by omega
            subst htz
            have e1 : (((0 : Nat) : Int) - 1) = -1 := by decide
            rw [e1]
            rw [Nat.sub_zero] at hvb ⊢
            have hr3 := HR3.out
            have h8 : (256 : Int) ^ zn ≤ 256 ^ 8 := pow256 hszb.2
            generalize hN (fun q => (frX L Z j).getD q 0) zn 0 = y at hr3 hvb
            have CW := fun wx => worked_any (kp + 2) y (w64 b) wx (by omega) (by omega) hvb.1 (by omega) (w64_bd _).1 (w64_bd _).2
            have hwb := wkR_bd (kp + 2) (a := y) (b := w64 b) hvb.1 (by omega) (w64_bd b).1
            generalize wkR (kp + 2) y (w64 b) = u at hr3 CW hwb
            rw [← HKK.out] at CW
            have hwn : w64 b = b := by rw [w64_eq]; omega
            rw [hwn] at CW
            have HCW := hideX CW
            clear CW
            have u0 := hwb.1
            have u1 := hwb.2
            have u2 : (0 : Int) ≤ u % 256 := by omega
            have u3 : u % 256 < 256 := by omega
            by_cases hu : 100 < u % 256
            · rw [if_pos hu] at hr3
              have HS := hideX (HHS.out 2 hr3 (by decide))
              clear HHS
              go_wp2_with (first | (go_at_call 31; refine (HCW.out _).mono ?_; rintro e w' ⟨rfl, rfl⟩) | (go_at_call 29; refine HS.out.mono ?_; rintro e WS ⟨rfl, hS⟩))
              go_roundw
              case rel => exact ⟨j + 1, by omega, by go_num, rfl, hideX (HFr.out.keep hS), hb.trans (hS.mono hb.size)⟩
              case measure => simp [intOf]; omega
            · rw [if_neg hu] at hr3
              have HS := hideX (HHS.out 1 hr3 (by decide))
              clear HHS
              go_wp2_with (first | (go_at_call 31; refine (HCW.out _).mono ?_; rintro e w' ⟨rfl, rfl⟩) | (go_at_call 29; refine HS.out.mono ?_; rintro e WS ⟨rfl, hS⟩))
              go_roundw
              case rel => exact ⟨j + 1, by omega, by go_num, rfl, hideX (HFr.out.keep hS), hb.trans (hS.mono hb.size)⟩
              case measure => simp [intOf]; omega
      · have k1 : (lj : Int) < (zn : Int) := by omega
        have hr2 := HR2.out
        rw [sumV, if_neg (by rw [hxl]; exact hk)] at hr2
        have HS := hideX (HCS.out 3 hr2 (by decide))
        clear HCS HCX HR2 hr2
        go_wp2_with (first | (go_at_call 30; refine (HCF.out _).mono ?_; rintro e w' ⟨rfl, rfl⟩) | (go_at_call 29; refine HS.out.mono ?_; rintro e WS ⟨rfl, hS⟩))
        go_roundw
        case rel => exact ⟨j + 1, by omega, by go_num, rfl, hideX (HFr.out.keep hS), hb.trans (hS.mono hb.size)⟩
        case measure => simp [intOf]; omega
    · have hjl : j = len := by omega
      subst hjl
      go_wp2
      go_ret
      exact ⟨rfl, hb⟩
theorem sums_walk (size op n : Int) (fa : Option Addr) (b off len cap : Nat) (A : Nat → Option Addr) (L C : Nat → Nat) (Z : Nat → List Int) (w : World)
    (hsize : -9223372036854775808 ≤ size ∧ size ≤ 9223372036854775807) (hop : -9223372036854775808 ≤ op ∧ op ≤ 9223372036854775807) (hn : -9223372036854775808 ≤ n ∧ n ≤ 9223372036854775807)
    (hfa : 0 < len → fa = some ⟨b, off, none⟩) (hfr : FrAt w b off len A L C Z) (hlen : len ≤ 9223372036854775807) :
    Calls Tryz.prog 10 #[.int .i64 size, .int .i64 op, .int .i64 n, .slice fa len cap] w fun e w' => e = .returned (.bool true) ∧ Below w.heap.size w w' := by
  by_cases h : n < 0
  · exact sums_neg size op n fa b off len cap A L C Z w hsize hop hn h hfa hfr hlen
  · exact sums_pos size op n fa b off len cap A L C Z w hsize hop hn (by omega) hfa hfr hlen
end Go.Proofs.YtoobileejdhikaaGreat
