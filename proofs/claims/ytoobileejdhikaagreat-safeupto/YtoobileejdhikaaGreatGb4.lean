/-
  The program looks at an instruction: Load, Store, comparisons.
-/
import Derived.Test.YtoobileejdhikaaGreatGa0
import Derived.Test.YtoobileejdhikaaGreatGb3
import Derived.Test.YtoobileejdhikaaGreatGa5
namespace Go.Proofs.YtoobileejdhikaaGreat
set_option maxRecDepth 100000
set_option maxHeartbeats 2000000
open Go.RowKit
theorem reach_all (s : KS) (r : Nat) (off : Int) (size : Nat) (w : World) (hr : r < 9) (hs : s.Ok) (o1 : -32768 ≤ off) (o2 : off ≤ 32767) (z : size ≤ 8) :
  Calls Tryz.prog 162 #[.agg s.cells, .int .u8 r, .int .i16 off, .int .i64 size] w fun e w' => e = (if (s.v r).kind ≠ 0 ∧ reachB (s.v r) s.frame off size = true then .returned (.tuple #[]) else .panicked (thrown 3 s.at1)) ∧ Below w.heap.size w w' := by
 have ok := hs.v r hr
 by_cases h0 : (s.v r).kind = 0
 ·rw [if_neg (by simp [h0])]; exact reach_no0 s r off size w hr h0
 ·have := reach_any s r off size w hr h0 o1 o2 z ok.pl0 ok.pl1 ok.pm0 ok.pm1
  cases hb : reachB (s.v r) s.frame off size
  ·rw [hb] at this; rw [if_neg (by simp)]; simpa using this
  ·rw [hb] at this; rw [if_pos ⟨h0, rfl⟩]; simpa using this
def loadL (s : KS) (d c : Nat) (of : Int) (z : Nat) : Option (KS × KS) := if (s.v c).kind ≠ 0 ∧ reachB (s.v c) s.frame of z = true then some (s.set d (numV 0 (2 ^ (8 * z) - 1)), KS.zero) else none
def storeL (s : KS) (d c : Nat) (of : Int) (z : Nat) : Option (KS × KS) := if (s.v d).kind ≠ 0 ∧ reachB (s.v d) s.frame of z = true then (if (s.v c).kind = 1 then some (s, KS.zero) else none) else none
def cmpL (s : KS) (d r : Nat) (P J : KS) : Option (KS × KS) := if (s.v d).kind ≠ 0 ∧ (s.v r).kind ≠ 0 ∧ (s.v d).kind = (s.v r).kind then some (P, J) else none


theorem lookLoad1_any (s : KS) (op of n : Int) (d c : Nat) (P : Nat) (w : World) (z : Nat) (hz4 : z = 1 ∨ z = 2 ∨ z = 4 ∨ z = 8) (hP : w.cell? ⟨P, 0, none⟩ = some (.int .i64 z)) (hd : d < 9) (hc : c < 9) (so : s.Ok) (o1 : -32768 ≤ of) (o2 : of ≤ 32767) :
  Calls Tryz.prog 161 #[.agg #[.int .u8 op, .int .u8 d, .int .u8 c, .int .i16 of, .int .i32 n], .agg s.cells, .pointer (some ⟨P, 0, none⟩)] w fun e w' => e = lkEnd (loadL s d c of z) s.at1 ∧ Below w.heap.size w w' := by
 have hz := zeroK
 have C := fun w => reach_all s c of z w hc so o1 o2 (by omega)
 have lP : P < w.heap.size := block_lt_of_cell hP
 go_enter Tryz.func161, Tryz.ntmps161
 go_upto_region 1 with fail
 generalize hW : World.alloc _ _ = W0
 obtain ⟨hs, hT⟩ := lkNew hW
 have hx := lkOld hW hP
 clear hW
 by_cases hv : (s.v c).kind ≠ 0 ∧ reachB (s.v c) s.frame of z = true
 ·have E : loadL s d c of z = some ((s.set d (numV 0 (2 ^ (8 * z) - 1))), KS.zero) := if_pos hv
  simp only [if_pos hv] at C
  clear hv
  go_wp2_with (first | refine wpK_load rfl _ rfl (w.heap.size + 1) rfl s hs.1 ?_ | (go_at_call 162; refine (C _).mono ?_; rintro e W1 ⟨rfl, hb⟩; have hs := hs.keep hb; have hx := cellKeep hb hx; have hT := hT.keep hb))
  refine wp_region_held_drew (S := fun W => LkA w.heap.size s op of n d c W ∧ W.cell? ⟨P, 0, none⟩ = some (.int .i64 z)) (by kernel_rfl) ⟨hs.drew, hx⟩ (fun hH => ?_)
  have hT := hT.drew
  refine tkY 0 rfl (yieldsK (by rfl) _ rfl (w.heap.size + 1) rfl s (fun w h => h.1.1)) ?_
  try simp only [Act.put]
  refine tkH 1 ?_
  try simp only [Act.put]
  refine tkH 2 ?_
  try simp only [Act.put]
  refine tkH 3 ?_
  try simp only [Act.put]
  iterate 3 ((first | refine rdH1 4 (fun K hK => ?_) | refine rdH1 5 (fun K hK => ?_) | refine rdH1 6 (fun K hK => ?_)); go_simp; (first | refine (numbersOf_any z _ hz4).mono ?_ | refine (setNumber_any s d _ _ _ hd).mono ?_ | refine (nowhere_any _).mono ?_); rintro e W ⟨rfl, hb⟩; have hT := hT.keep hb; go_wp2_with fail; refine hK.out _ _ (⟨hH.1.keep hb, cellKeep hb hH.2⟩) (fun hH => ?_); clear hK K; (try simp only [Act.put]))
  refine rdH 7 (fun K hK => ?_); refine wpO_storeK _ _ rfl (w.heap.size + 1 + 1) rfl (s.set d (numV 0 (2 ^ (8 * z) - 1))) rfl _ hT.k0 ?_; refine hK.out _ _ (⟨hH.1.away (by omega) _, cellRow (by omega) hH.2⟩) (fun hH => ?_); clear hK K; (try simp only [Act.put]); have hT := hT.st0 (s.set d (numV 0 (2 ^ (8 * z) - 1)))
  refine rdH 8 (fun K hK => ?_); refine wpO_storeK _ _ rfl (w.heap.size + 1 + 1 + 1) rfl KS.zero rfl _ hT.k1 ?_; refine hK.out _ _ (⟨hH.1.away (by omega) _, cellRow (by omega) hH.2⟩) (fun hH => ?_); clear hK K; (try simp only [Act.put]); have hT := hT.st1 KS.zero
  refine wpAnyH_done (by kernel_rfl) ?_ _
  go_wp2_with fail
  exact lkRet Tryz.results161 hT E rfl rfl rfl
 ·have E : loadL s d c of z = none := if_neg hv
  simp only [if_neg hv] at C
  clear hv
  go_wp2_with (first | refine wpK_load rfl _ rfl (w.heap.size + 1) rfl s hs.1 ?_ | (go_at_call 162; refine (C _).mono ?_; rintro e W1 ⟨rfl, hb⟩))
  exact ⟨rfl, by rw [E]; rfl, lkDie hT hb⟩

theorem lookStore1_any (s : KS) (op of n : Int) (d c : Nat) (P : Nat) (w : World) (z : Nat) (hz8 : z ≤ 8) (hP : w.cell? ⟨P, 0, none⟩ = some (.int .i64 z)) (hd : d < 9) (hc : c < 9) (so : s.Ok) (o1 : -32768 ≤ of) (o2 : of ≤ 32767) :
  Calls Tryz.prog 166 #[.agg #[.int .u8 op, .int .u8 d, .int .u8 c, .int .i16 of, .int .i32 n], .agg s.cells, .pointer (some ⟨P, 0, none⟩)] w fun e w' => e = lkEnd (storeL s d c of z) s.at1 ∧ Below w.heap.size w w' := by
 have hz := zeroK
 have C := fun w => reach_all s d of z w hd so o1 o2 hz8
 have CN := fun w => readNumber_any s c w hc
 have lP : P < w.heap.size := block_lt_of_cell hP
 go_enter Tryz.func166, Tryz.ntmps166
 go_upto_region 1 with fail
 generalize hW : World.alloc _ _ = W0
 obtain ⟨hs, hT⟩ := lkNew hW
 have hx := lkOld hW hP
 clear hW
 by_cases hv : (s.v d).kind ≠ 0 ∧ reachB (s.v d) s.frame of z = true
 ·simp only [if_pos hv] at C
  by_cases hn : (s.v c).kind = 1
  ·have E : storeL s d c of z = some (s, KS.zero) := by unfold storeL; rw [if_pos hv, if_pos hn]
   simp only [if_pos hn] at CN
   clear hv hn
   go_wp2_with (first | refine wpK_load rfl _ rfl (w.heap.size + 1) rfl s hs.1 ?_ | (go_at_call 162; refine (C _).mono ?_; rintro e W1 ⟨rfl, hb⟩; have hs := hs.keep hb; have hx := cellKeep hb hx; have hT := hT.keep hb) | (go_at_call 157; refine (CN _).mono ?_; rintro e W2 ⟨rfl, hb⟩; have hs := hs.keep hb; have hx := cellKeep hb hx; have hT := hT.keep hb))
   refine wp_region_held_drew (S := fun W => LkA w.heap.size s op of n d c W ∧ W.cell? ⟨P, 0, none⟩ = some (.int .i64 z)) (by kernel_rfl) ⟨hs.drew, hx⟩ (fun hH => ?_)
   have hT := hT.drew
   refine tkY 0 rfl (yieldsK (by rfl) _ rfl (w.heap.size + 1) rfl s (fun w h => h.1.1)) ?_
   try simp only [Act.put]
   refine rdH 1 (fun K hK => ?_); go_simp; refine (nowhere_any _).mono ?_; rintro e W ⟨rfl, hb⟩; have hT := hT.keep hb; go_wp2_with fail; refine hK.out _ _ (⟨hH.1.keep hb, cellKeep hb hH.2⟩) (fun hH => ?_); clear hK K; (try simp only [Act.put])
   refine rdH 2 (fun K hK => ?_); refine wpO_storeK _ _ rfl (w.heap.size + 1 + 1) rfl s rfl _ hT.k0 ?_; refine hK.out _ _ (⟨hH.1.away (by omega) _, cellRow (by omega) hH.2⟩) (fun hH => ?_); clear hK K; (try simp only [Act.put]); have hT := hT.st0 s
   refine rdH 3 (fun K hK => ?_); refine wpO_storeK _ _ rfl (w.heap.size + 1 + 1 + 1) rfl KS.zero rfl _ hT.k1 ?_; refine hK.out _ _ (⟨hH.1.away (by omega) _, cellRow (by omega) hH.2⟩) (fun hH => ?_); clear hK K; (try simp only [Act.put]); have hT := hT.st1 KS.zero
   refine wpAnyH_done (by kernel_rfl) ?_ _
   go_wp2_with fail
   exact lkRet Tryz.results166 hT E rfl rfl rfl
  ·have E : storeL s d c of z = none := by unfold storeL; rw [if_pos hv, if_neg hn]
   simp only [if_neg hn] at CN
   clear hv hn
   go_wp2_with (first | refine wpK_load rfl _ rfl (w.heap.size + 1) rfl s hs.1 ?_ | (go_at_call 162; refine (C _).mono ?_; rintro e W1 ⟨rfl, hb⟩; have hs := hs.keep hb; have hx := cellKeep hb hx; have hT := hT.keep hb) | (go_at_call 157; refine (CN _).mono ?_; rintro e W2 ⟨rfl, hb⟩))
   exact ⟨rfl, by rw [E]; rfl, lkDie hT hb⟩
 ·have E : storeL s d c of z = none := if_neg hv
  simp only [if_neg hv] at C
  clear hv
  go_wp2_with (first | refine wpK_load rfl _ rfl (w.heap.size + 1) rfl s hs.1 ?_ | (go_at_call 162; refine (C _).mono ?_; rintro e W1 ⟨rfl, hb⟩))
  exact ⟨rfl, by rw [E]; rfl, lkDie hT hb⟩

theorem lookCompare1_any (s : KS) (op of n : Int) (d c : Nat) (P P2 : Nat) (w : World) (FP FJ : Nat) (A B : KS) (eP : ∀ x y z w, Sem.run Tryz.prog (callFunc FP #[x, y, z]) w = .ok (.enter FP #[x, y, z]) w) (eJ : ∀ x y z w, Sem.run Tryz.prog (callFunc FJ #[x, y, z]) w = .ok (.enter FJ #[x, y, z]) w) (hP : w.cell? ⟨P, 0, none⟩ = some (.func (.func FP) #[] #[])) (hP2 : w.cell? ⟨P2, 0, none⟩ = some (.func (.func FJ) #[] #[])) (hd : d < 9) (hc : secR op c < 9) (RP0 : ∀ w, (s.v d).kind = (s.v (secR op c)).kind → Calls Tryz.prog FP #[.agg s.cells, .int .u8 d, .int .u8 (secR op c)] w fun e w' => e = .returned (.agg A.cells) ∧ Below w.heap.size w w') (RJ0 : ∀ w, (s.v d).kind = (s.v (secR op c)).kind → Calls Tryz.prog FJ #[.agg s.cells, .int .u8 d, .int .u8 (secR op c)] w fun e w' => e = .returned (.agg B.cells) ∧ Below w.heap.size w w') :
  Calls Tryz.prog 170 #[.agg #[.int .u8 op, .int .u8 d, .int .u8 c, .int .i16 of, .int .i32 n], .agg s.cells, .pointer (some ⟨P, 0, none⟩), .pointer (some ⟨P2, 0, none⟩)] w fun e w' => e = lkEnd (cmpL s d (secR op c) A B) s.at1 ∧ Below w.heap.size w w' := by
 have hz := zeroK
 have CA := fun w => alike_any s d (secR op c) w hd hc
 have lP : P < w.heap.size := block_lt_of_cell hP
 have lP2 : P2 < w.heap.size := block_lt_of_cell hP2
 go_enter Tryz.func170, Tryz.ntmps170
 go_wp2_with fail
 generalize hW : World.alloc _ _ = W0
 obtain ⟨hs, hT⟩ := lkNew hW
 have hx := lkOld hW hP
 have hy := lkOld hW hP2
 clear hW
 refine wp_region_held_drew (S := fun W => LkA w.heap.size s op of n d c W ∧ W.cell? ⟨P, 0, none⟩ = some (.func (.func FP) #[] #[]) ∧ W.cell? ⟨P2, 0, none⟩ = some (.func (.func FJ) #[] #[])) (by kernel_rfl) ⟨hs.drew, hx, hy⟩ (fun hH => ?_)
 have hT := hT.drew
 refine tkY 0 rfl (yieldsK (by rfl) _ rfl (w.heap.size + 1) rfl s (fun w h => h.1.1)) ?_
 try simp only [Act.put]
 refine tkH 1 ?_
 try simp only [Act.put]
 refine tkH 2 ?_
 try simp only [Act.put]
 refine tkH 3 ?_
 try simp only [Act.put]
 refine rdH 4 (fun K hK => ?_); go_simp; refine (isecond_any op d c of n _).mono ?_; rintro e W ⟨rfl, hb⟩; have hT := hT.keep hb; go_wp2_with fail; refine hK.out _ _ (⟨hH.1.keep hb, cellKeep hb hH.2.1, cellKeep hb hH.2.2⟩) (fun hH => ?_); clear hK K; (try simp only [Act.put])
 by_cases hv : (s.v d).kind ≠ 0 ∧ (s.v (secR op c)).kind ≠ 0 ∧ (s.v d).kind = (s.v (secR op c)).kind
 ·have E : cmpL s d (secR op c) A B = some (A, B) := if_pos hv
  simp only [if_pos hv] at CA
  have RP := fun w => RP0 w hv.2.2
  have RJ := fun w => RJ0 w hv.2.2
  clear hv RP0 RJ0
  refine rdH 5 (fun K hK => ?_); go_simp; refine (CA _).mono ?_; rintro e W ⟨rfl, hb⟩; have hT := hT.keep hb; go_wp2_with fail; refine hK.out _ _ (⟨hH.1.keep hb, cellKeep hb hH.2.1, cellKeep hb hH.2.2⟩) (fun hH => ?_); clear hK K; (try simp only [Act.put])
  refine wpAnyH_done (by kernel_rfl) ?_ _
  go_wp2_with fail
  have hs := hH
  clear hH
  refine wp_region_held_drew (S := fun W => LkA w.heap.size s op of n d c W ∧ W.cell? ⟨P, 0, none⟩ = some (.func (.func FP) #[] #[]) ∧ W.cell? ⟨P2, 0, none⟩ = some (.func (.func FJ) #[] #[])) (by kernel_rfl) ⟨hs.1.drew, hs.2⟩ (fun hH => ?_)
  have hT := hT.drew
  refine tkH 0 ?_
  try simp only [Act.put]
  refine tkY 1 rfl (yieldsK (by rfl) _ rfl (w.heap.size + 1) rfl s (fun w h => h.1.1)) ?_
  try simp only [Act.put]
  refine tkH 2 ?_
  try simp only [Act.put]
  refine tkH 3 ?_
  try simp only [Act.put]
  refine tkH 4 ?_
  try simp only [Act.put]
  refine tkH 7 ?_
  try simp only [Act.put]
  refine tkY 8 rfl (yieldsK (by rfl) _ rfl (w.heap.size + 1) rfl s (fun w h => h.1.1)) ?_
  try simp only [Act.put]
  refine tkH 9 ?_
  try simp only [Act.put]
  refine tkH 10 ?_
  try simp only [Act.put]
  refine tkH 11 ?_
  try simp only [Act.put]
  iterate 4 ((first | refine rdH1 5 (fun K hK => ?_) | refine rdH1 6 (fun K hK => ?_) | refine rdH1 12 (fun K hK => ?_) | refine rdH1 13 (fun K hK => ?_)); go_simp; (first | refine (isecond_any op d c of n _).mono ?_ | refine (RP _).mono ?_ | refine (RJ _).mono ?_); rintro e W ⟨rfl, hb⟩; have hT := hT.keep hb; go_wp2_with fail; refine hK.out _ _ (⟨hH.1.keep hb, cellKeep hb hH.2.1, cellKeep hb hH.2.2⟩) (fun hH => ?_); clear hK K; (try simp only [Act.put]))
  refine rdH 14 (fun K hK => ?_); refine wpO_storeK _ _ rfl (w.heap.size + 1 + 1) rfl A rfl _ hT.k0 ?_; refine hK.out _ _ (⟨hH.1.away (by omega) _, cellRow (by omega) hH.2.1, cellRow (by omega) hH.2.2⟩) (fun hH => ?_); clear hK K; (try simp only [Act.put]); have hT := hT.st0 A
  refine rdH 15 (fun K hK => ?_); refine wpO_storeK _ _ rfl (w.heap.size + 1 + 1 + 1) rfl B rfl _ hT.k1 ?_; refine hK.out _ _ (⟨hH.1.away (by omega) _, cellRow (by omega) hH.2.1, cellRow (by omega) hH.2.2⟩) (fun hH => ?_); clear hK K; (try simp only [Act.put]); have hT := hT.st1 B
  refine wpAnyH_done (by kernel_rfl) ?_ _
  go_wp2_with fail
  exact lkRet Tryz.results170 hT E rfl rfl rfl
 ·have E : cmpL s d (secR op c) A B = none := if_neg hv
  simp only [if_neg hv] at CA
  refine rdH 5 (fun K hK => ?_); go_simp; refine (CA _).mono ?_; rintro e W ⟨rfl, hb⟩; go_simp
  exact ⟨rfl, by rw [E]; rfl, lkDie hT hb⟩
end Go.Proofs.YtoobileejdhikaaGreat
