/-
  The program looks at an instruction: Mov, Add, Sub, Jump, Call, Exit.
  The program looks at an instruction: Call, Exit.
-/
import Derived.Test.YtoobileejdhikaaGreatGa0
import Derived.Test.YtoobileejdhikaaGreatGb2
import Derived.Test.YtoobileejdhikaaGreatGb1
namespace Go.Proofs.YtoobileejdhikaaGreat
set_option maxRecDepth 100000
set_option maxHeartbeats 2000000
open Go.RowKit

def lkEnd (o : Option (KS × KS)) (at1 : Int) : Ending := match o with
 | some (a, b) => .returned (.tuple #[.agg a.cells, .agg b.cells])
 | none => .panicked (thrown 3 at1)
theorem resK2 {fn : Func} {p q : Tmp} (h : fn.results = #[.cell p 117, .cell q 117]) (tmps : Array Value) (w : World) (g g' : Nat) (s s' : KS) (hp : tmps.getD p undef = .pointer (some ⟨g, 0, none⟩)) (hq : tmps.getD q undef = .pointer (some ⟨g', 0, none⟩)) (hg : KAt w g s) (hg' : KAt w g' s') :
  (results fn tmps).run Tryz.prog w = .ok (.tuple #[.agg s.cells, .agg s'.cells]) w := by
 have e1 := run_loadVar_row (P := Tryz.prog) w g _ 117 s.cells (0, 0) _ hg.row Tryz.underlying117 rfl (infoKs s)
 have e2 := run_loadVar_row (P := Tryz.prog) w g' _ 117 s'.cells (0, 0) _ hg'.row Tryz.underlying117 rfl (infoKs s')
 have hp' : tmps[p]?.getD undef = .pointer (some ⟨g, 0, none⟩) := by simpa using hp
 have hq' : tmps[q]?.getD undef = .pointer (some ⟨g', 0, none⟩) := by simpa using hq
 simp [results, h, hp', hq', asAddr, e1, e2]
def sumO (a b : KV) : Option KV := if a.kind = 0 ∨ b.kind = 0 then none else sumK a b
def diffO (a b : KV) : Option KV := if a.kind = 0 ∨ b.kind = 0 then none else differenceK a b
theorem Sum_all (s : KS) (a b : Nat) (w : World) (ha : a < 9) (hb : b < 9) (hs : s.Ok) :
  Calls Tryz.prog 153 #[.agg s.cells, .int .u8 a, .int .u8 b] w fun e w' => e = kEnd (sumO (s.v a) (s.v b)) s.at1 ∧ Below w.heap.size w w' := by
 by_cases h1 : (s.v a).kind = 0
 ·rw [show sumO (s.v a) (s.v b) = none from if_pos (.inl h1)]; exact Sum_na s a b w ha h1
 by_cases h2 : (s.v b).kind = 0
 ·rw [show sumO (s.v a) (s.v b) = none from if_pos (.inr h2)]; exact Sum_nb s a b w ha hb h1 h2
 rw [show sumO (s.v a) (s.v b) = sumK (s.v a) (s.v b) from if_neg (by simp [h1, h2])]
 exact Sum_any s a b w ha hb h1 h2 (hs.v a ha) (hs.v b hb)
theorem Difference_all (s : KS) (a b : Nat) (w : World) (ha : a < 9) (hb : b < 9) (hs : s.Ok) :
  Calls Tryz.prog 155 #[.agg s.cells, .int .u8 a, .int .u8 b] w fun e w' => e = kEnd (diffO (s.v a) (s.v b)) s.at1 ∧ Below w.heap.size w w' := by
 by_cases h1 : (s.v a).kind = 0
 ·rw [show diffO (s.v a) (s.v b) = none from if_pos (.inl h1)]; exact Difference_na s a b w ha h1
 by_cases h2 : (s.v b).kind = 0
 ·rw [show diffO (s.v a) (s.v b) = none from if_pos (.inr h2)]; exact Difference_nb s a b w ha hb h1 h2
 rw [show diffO (s.v a) (s.v b) = differenceK (s.v a) (s.v b) from if_neg (by simp [h1, h2])]
 exact Difference_any s a b w ha hb h1 h2 (hs.v a ha) (hs.v b hb)

def movL (s : KS) (d r : Nat) : Option (KS × KS) := if (s.v r).kind = 0 then none else some (s.set d (s.v r), KS.zero)
def addL (s : KS) (d r : Nat) : Option (KS × KS) := (sumO (s.v d) (s.v r)).map fun v => (s.set d v, KS.zero)
def subL (s : KS) (d r : Nat) : Option (KS × KS) := (diffO (s.v d) (s.v r)).map fun v => (s.set d v, KS.zero)
abbrev LkA (g : Nat) (s : KS) (op of n : Int) (d c : Nat) (W : World) : Prop :=
 KAt W (g + 1) s ∧ W.cell? ⟨g, 0, none⟩ = some (.int .u8 op) ∧ W.cell? ⟨g, 1, none⟩ = some (.int .u8 d) ∧ W.cell? ⟨g, 2, none⟩ = some (.int .u8 c) ∧ W.cell? ⟨g, 3, none⟩ = some (.int .i16 of) ∧ W.cell? ⟨g, 4, none⟩ = some (.int .i32 n)
structure LkR (w W : World) (a b : KS) : Prop where
 k0 : KAt W (w.heap.size + 1 + 1) a
 k1 : KAt W (w.heap.size + 1 + 1 + 1) b
 hB : Below w.heap.size w W
section
variable {g d c : Nat} {s a b : KS} {op of n : Int} {w W V : World}
theorem LkA.drew (h : LkA g s op of n d c W) : LkA g s op of n d c W.drew := ⟨h.1.drew, h.2⟩
theorem LkA.keep (h : LkA g s op of n d c W) (hb : Below W.heap.size W V) : LkA g s op of n d c V :=
 ⟨h.1.keep hb, cellKeep hb h.2.1, cellKeep hb h.2.2.1, cellKeep hb h.2.2.2.1, cellKeep hb h.2.2.2.2.1, cellKeep hb h.2.2.2.2.2⟩
theorem LkA.away (h : LkA g s op of n d c W) {b : Nat} (hb : g + 1 < b) (cs : Array Value) : LkA g s op of n d c (W.setRow b cs) :=
 ⟨h.1.rowAway (by omega) _, cellRow (by omega) h.2.1, cellRow (by omega) h.2.2.1, cellRow (by omega) h.2.2.2.1, cellRow (by omega) h.2.2.2.2.1, cellRow (by omega) h.2.2.2.2.2⟩
theorem LkR.drew (h : LkR w W a b) : LkR w W.drew a b := ⟨h.k0.drew, h.k1.drew, h.hB.drew⟩
theorem LkR.keep (h : LkR w W a b) (hb : Below W.heap.size W V) : LkR w V a b := ⟨h.k0.keep hb, h.k1.keep hb, h.hB.trans (hb.mono h.hB.size)⟩
theorem LkR.st0 (h : LkR w W a b) (x : KS) : LkR w (W.setRow (w.heap.size + 1 + 1) x.cells) x b :=
 ⟨h.k0.over x, h.k1.rowAway (by omega) _, below_setRowK h.hB (by omega) _⟩
theorem LkR.st1 (h : LkR w W a b) (x : KS) : LkR w (W.setRow (w.heap.size + 1 + 1 + 1) x.cells) a x :=
 ⟨h.k0.rowAway (by omega) _, h.k1.over x, below_setRowK h.hB (by omega) _⟩
theorem lkNew (hW : ((((w.alloc (.cells #[.int .u8 op, .int .u8 d, .int .u8 c, .int .i16 of, .int .i32 n] 121)).alloc (.cells s.cells 117)).alloc (.cells KS.zero.cells 117)).alloc (.cells KS.zero.cells 117)) = W) : LkA w.heap.size s op of n d c W ∧ LkR w W KS.zero KS.zero := by
 subst hW
 exact ⟨⟨KAt.alloc (KAt.alloc (KAt.top (by simp <;> omega)) _) _, by simp [go_sem], by simp [go_sem], by simp [go_sem], by simp [go_sem], by simp [go_sem]⟩, KAt.alloc (KAt.top (by simp <;> omega)) _, KAt.top (by simp <;> omega), bel4 _ _ _ _ _⟩
theorem lkOld (hW : ((((w.alloc (.cells #[.int .u8 op, .int .u8 d, .int .u8 c, .int .i16 of, .int .i32 n] 121)).alloc (.cells s.cells 117)).alloc (.cells KS.zero.cells 117)).alloc (.cells KS.zero.cells 117)) = W) {x j : Nat} {v : Value} (h : w.cell? ⟨x, j, none⟩ = some v) : W.cell? ⟨x, j, none⟩ = some v := by
 subst hW; exact cellAlloc _ (cellAlloc _ (cellAlloc _ (cellAlloc _ h)))
theorem lkDie (h : LkR w W a b) {V : World} (hb : Below W.heap.size W V) : Below w.heap.size w V := h.hB.trans (hb.mono h.hB.size)
theorem lkRet {fn : Func} {p q : Tmp} (h : fn.results = #[.cell p 117, .cell q 117]) {A : Act} (hT : LkR w W a b) {o : Option (KS × KS)} {i : Int} (E : o = some (a, b))
  (hp : A.tmps.getD p undef = .pointer (some ⟨w.heap.size + 1 + 1, 0, none⟩)) (hq : A.tmps.getD q undef = .pointer (some ⟨w.heap.size + 1 + 1 + 1, 0, none⟩)) (hd : A.defers = []) :
  bodyPost Tryz.prog fn (fun e w' => e = lkEnd o i ∧ Below w.heap.size w w') .ret A W :=
 bodyPost_ret (resK2 h _ _ _ _ a b hp hq hT.k0 hT.k1) hd ⟨by rw [E]; rfl, hT.hB⟩
end

theorem lookMov_any (s : KS) (op of n : Int) (d c : Nat) (w : World) (hd : d < 9) (hc : secR op c < 9) :
  Calls Tryz.prog 81 #[.agg #[.int .u8 op, .int .u8 d, .int .u8 c, .int .i16 of, .int .i32 n], .agg s.cells] w fun e w' => e = lkEnd (movL s d (secR op c)) s.at1 ∧ Below w.heap.size w w' := by
 have hz := zeroK
 go_enter Tryz.func81, Tryz.ntmps81
 go_wp2_with fail
 generalize hW : World.alloc _ _ = W0
 obtain ⟨hs, hT⟩ := lkNew hW
 clear hW
 refine wp_region_held_drew (S := LkA w.heap.size s op of n d c) (by kernel_rfl) hs.drew (fun hH => ?_)
 have hT := hT.drew
 refine tkY 0 rfl (yieldsK (by rfl) _ rfl (w.heap.size + 1) rfl s (fun w h => h.1)) ?_
 try simp only [Act.put]
 refine tkH 1 ?_
 try simp only [Act.put]
 refine tkH 2 ?_
 try simp only [Act.put]
 refine tkY 3 rfl (yieldsK (by rfl) _ rfl (w.heap.size + 1) rfl s (fun w h => h.1)) ?_
 try simp only [Act.put]
 refine tkH 4 ?_
 try simp only [Act.put]
 refine rdH 5 (fun K hK => ?_); go_simp; refine (isecond_any op d c of n _).mono ?_; rintro e W ⟨rfl, hb⟩; have hT := hT.keep hb; go_wp2_with fail; refine hK.out _ _ (hH.keep hb) (fun hH => ?_); clear hK K; (try simp only [Act.put])
 by_cases hk : (s.v (secR op c)).kind = 0
 ·have E : movL s d (secR op c) = none := if_pos hk
  refine rdH 6 (fun K hK => ?_); go_simp; refine (read_no s _ _ hc hk).mono ?_; rintro e W ⟨rfl, hb⟩; go_simp
  exact ⟨rfl, by rw [E]; rfl, lkDie hT hb⟩
 iterate 3 ((first | refine rdH1 6 (fun K hK => ?_) | refine rdH1 7 (fun K hK => ?_) | refine rdH1 8 (fun K hK => ?_)); go_simp; (first | refine (read_ok s _ _ hc hk).mono ?_ | refine (set_any s d (s.v (secR op c)) _ hd).mono ?_ | refine (nowhere_any _).mono ?_); rintro e W ⟨rfl, hb⟩; have hT := hT.keep hb; go_wp2_with fail; refine hK.out _ _ (hH.keep hb) (fun hH => ?_); clear hK K; (try simp only [Act.put]))
 refine rdH 9 (fun K hK => ?_); refine wpO_storeK _ _ rfl (w.heap.size + 1 + 1) rfl (s.set d (s.v (secR op c))) rfl _ hT.k0 ?_; refine hK.out _ _ (hH.away (by omega) _) (fun hH => ?_); clear hK K; (try simp only [Act.put]); have hT := hT.st0 (s.set d (s.v (secR op c)))
 refine rdH 10 (fun K hK => ?_); refine wpO_storeK _ _ rfl (w.heap.size + 1 + 1 + 1) rfl KS.zero rfl _ hT.k1 ?_; refine hK.out _ _ (hH.away (by omega) _) (fun hH => ?_); clear hK K; (try simp only [Act.put]); have hT := hT.st1 KS.zero
 refine wpAnyH_done (by kernel_rfl) ?_ _
 go_wp2_with fail
 exact lkRet Tryz.results81 hT (if_neg hk) rfl rfl rfl

theorem lookAdd_any (s : KS) (op of n : Int) (d c : Nat) (w : World) (hd : d < 9) (hc : secR op c < 9) (so : s.Ok) :
  Calls Tryz.prog 83 #[.agg #[.int .u8 op, .int .u8 d, .int .u8 c, .int .i16 of, .int .i32 n], .agg s.cells] w fun e w' => e = lkEnd (addL s d (secR op c)) s.at1 ∧ Below w.heap.size w w' := by
 have hz := zeroK
 have C := fun w => Sum_all s d (secR op c) w hd hc so
 have E : addL s d (secR op c) = (sumO (s.v d) (s.v (secR op c))).map fun v => (s.set d v, KS.zero) := rfl
 revert C E
 generalize sumO (s.v d) (s.v (secR op c)) = ov
 intro C E
 go_enter Tryz.func83, Tryz.ntmps83
 go_wp2_with fail
 generalize hW : World.alloc _ _ = W0
 obtain ⟨hs, hT⟩ := lkNew hW
 clear hW
 refine wp_region_held_drew (S := LkA w.heap.size s op of n d c) (by kernel_rfl) hs.drew (fun hH => ?_)
 have hT := hT.drew
 refine tkY 0 rfl (yieldsK (by rfl) _ rfl (w.heap.size + 1) rfl s (fun w h => h.1)) ?_
 try simp only [Act.put]
 refine tkH 1 ?_
 try simp only [Act.put]
 refine tkH 2 ?_
 try simp only [Act.put]
 refine tkY 3 rfl (yieldsK (by rfl) _ rfl (w.heap.size + 1) rfl s (fun w h => h.1)) ?_
 try simp only [Act.put]
 refine tkH 4 ?_
 try simp only [Act.put]
 refine tkH 5 ?_
 try simp only [Act.put]
 refine tkH 6 ?_
 try simp only [Act.put]
 refine rdH 7 (fun K hK => ?_); go_simp; refine (isecond_any op d c of n _).mono ?_; rintro e W ⟨rfl, hb⟩; have hT := hT.keep hb; go_wp2_with fail; refine hK.out _ _ (hH.keep hb) (fun hH => ?_); clear hK K; (try simp only [Act.put])
 cases ov with
 | none =>
  simp only [kEnd] at C
  refine rdH 8 (fun K hK => ?_); go_simp; refine (C _).mono ?_; rintro e W ⟨rfl, hb⟩; go_simp
  exact ⟨rfl, by rw [E]; rfl, lkDie hT hb⟩
 | some v =>
  simp only [kEnd] at C
  iterate 3 ((first | refine rdH1 8 (fun K hK => ?_) | refine rdH1 9 (fun K hK => ?_) | refine rdH1 10 (fun K hK => ?_)); go_simp; (first | refine (C _).mono ?_ | refine (set_any s d v _ hd).mono ?_ | refine (nowhere_any _).mono ?_); rintro e W ⟨rfl, hb⟩; have hT := hT.keep hb; go_wp2_with fail; refine hK.out _ _ (hH.keep hb) (fun hH => ?_); clear hK K; (try simp only [Act.put]))
  refine rdH 11 (fun K hK => ?_); refine wpO_storeK _ _ rfl (w.heap.size + 1 + 1) rfl (s.set d v) rfl _ hT.k0 ?_; refine hK.out _ _ (hH.away (by omega) _) (fun hH => ?_); clear hK K; (try simp only [Act.put]); have hT := hT.st0 (s.set d v)
  refine rdH 12 (fun K hK => ?_); refine wpO_storeK _ _ rfl (w.heap.size + 1 + 1 + 1) rfl KS.zero rfl _ hT.k1 ?_; refine hK.out _ _ (hH.away (by omega) _) (fun hH => ?_); clear hK K; (try simp only [Act.put]); have hT := hT.st1 KS.zero
  refine wpAnyH_done (by kernel_rfl) ?_ _
  go_wp2_with fail
  exact lkRet Tryz.results83 hT E rfl rfl rfl

theorem lookSub_any (s : KS) (op of n : Int) (d c : Nat) (w : World) (hd : d < 9) (hc : secR op c < 9) (so : s.Ok) :
  Calls Tryz.prog 86 #[.agg #[.int .u8 op, .int .u8 d, .int .u8 c, .int .i16 of, .int .i32 n], .agg s.cells] w fun e w' => e = lkEnd (subL s d (secR op c)) s.at1 ∧ Below w.heap.size w w' := by
 have hz := zeroK
 have C := fun w => Difference_all s d (secR op c) w hd hc so
 have E : subL s d (secR op c) = (diffO (s.v d) (s.v (secR op c))).map fun v => (s.set d v, KS.zero) := rfl
 revert C E
 generalize diffO (s.v d) (s.v (secR op c)) = ov
 intro C E
 go_enter Tryz.func86, Tryz.ntmps86
 go_wp2_with fail
 generalize hW : World.alloc _ _ = W0
 obtain ⟨hs, hT⟩ := lkNew hW
 clear hW
 refine wp_region_held_drew (S := LkA w.heap.size s op of n d c) (by kernel_rfl) hs.drew (fun hH => ?_)
 have hT := hT.drew
 refine tkY 0 rfl (yieldsK (by rfl) _ rfl (w.heap.size + 1) rfl s (fun w h => h.1)) ?_
 try simp only [Act.put]
 refine tkH 1 ?_
 try simp only [Act.put]
 refine tkH 2 ?_
 try simp only [Act.put]
 refine tkY 3 rfl (yieldsK (by rfl) _ rfl (w.heap.size + 1) rfl s (fun w h => h.1)) ?_
 try simp only [Act.put]
 refine tkH 4 ?_
 try simp only [Act.put]
 refine tkH 5 ?_
 try simp only [Act.put]
 refine tkH 6 ?_
 try simp only [Act.put]
 refine rdH 7 (fun K hK => ?_); go_simp; refine (isecond_any op d c of n _).mono ?_; rintro e W ⟨rfl, hb⟩; have hT := hT.keep hb; go_wp2_with fail; refine hK.out _ _ (hH.keep hb) (fun hH => ?_); clear hK K; (try simp only [Act.put])
 cases ov with
 | none =>
  simp only [kEnd] at C
  refine rdH 8 (fun K hK => ?_); go_simp; refine (C _).mono ?_; rintro e W ⟨rfl, hb⟩; go_simp
  exact ⟨rfl, by rw [E]; rfl, lkDie hT hb⟩
 | some v =>
  simp only [kEnd] at C
  iterate 3 ((first | refine rdH1 8 (fun K hK => ?_) | refine rdH1 9 (fun K hK => ?_) | refine rdH1 10 (fun K hK => ?_)); go_simp; (first | refine (C _).mono ?_ | refine (set_any s d v _ hd).mono ?_ | refine (nowhere_any _).mono ?_); rintro e W ⟨rfl, hb⟩; have hT := hT.keep hb; go_wp2_with fail; refine hK.out _ _ (hH.keep hb) (fun hH => ?_); clear hK K; (try simp only [Act.put]))
  refine rdH 11 (fun K hK => ?_); refine wpO_storeK _ _ rfl (w.heap.size + 1 + 1) rfl (s.set d v) rfl _ hT.k0 ?_; refine hK.out _ _ (hH.away (by omega) _) (fun hH => ?_); clear hK K; (try simp only [Act.put]); have hT := hT.st0 (s.set d v)
  refine rdH 12 (fun K hK => ?_); refine wpO_storeK _ _ rfl (w.heap.size + 1 + 1 + 1) rfl KS.zero rfl _ hT.k1 ?_; refine hK.out _ _ (hH.away (by omega) _) (fun hH => ?_); clear hK K; (try simp only [Act.put]); have hT := hT.st1 KS.zero
  refine wpAnyH_done (by kernel_rfl) ?_ _
  go_wp2_with fail
  exact lkRet Tryz.results86 hT E rfl rfl rfl

theorem lookJump_any (s : KS) (op of n : Int) (d c : Nat) (w : World)  :
  Calls Tryz.prog 113 #[.agg #[.int .u8 op, .int .u8 d, .int .u8 c, .int .i16 of, .int .i32 n], .agg s.cells] w fun e w' => e = lkEnd (some (KS.zero, s)) s.at1 ∧ Below w.heap.size w w' := by
 have hz := zeroK
 go_enter Tryz.func113, Tryz.ntmps113
 go_wp2_with fail
 generalize hW : World.alloc _ _ = W0
 obtain ⟨hs, hT⟩ := lkNew hW
 clear hW
 refine wp_region_held_drew (S := LkA w.heap.size s op of n d c) (by kernel_rfl) hs.drew (fun hH => ?_)
 have hT := hT.drew
 refine tkY 1 rfl (yieldsK (by rfl) _ rfl (w.heap.size + 1) rfl s (fun w h => h.1)) ?_
 try simp only [Act.put]
 refine rdH 0 (fun K hK => ?_); go_simp; refine (nowhere_any _).mono ?_; rintro e W ⟨rfl, hb⟩; have hT := hT.keep hb; go_wp2_with fail; refine hK.out _ _ (hH.keep hb) (fun hH => ?_); clear hK K; (try simp only [Act.put])
 refine rdH 2 (fun K hK => ?_); refine wpO_storeK _ _ rfl (w.heap.size + 1 + 1) rfl KS.zero rfl _ hT.k0 ?_; refine hK.out _ _ (hH.away (by omega) _) (fun hH => ?_); clear hK K; (try simp only [Act.put]); have hT := hT.st0 KS.zero
 refine rdH 3 (fun K hK => ?_); refine wpO_storeK _ _ rfl (w.heap.size + 1 + 1 + 1) rfl s rfl _ hT.k1 ?_; refine hK.out _ _ (hH.away (by omega) _) (fun hH => ?_); clear hK K; (try simp only [Act.put]); have hT := hT.st1 s
 refine wpAnyH_done (by kernel_rfl) ?_ _
 go_wp2_with fail
 exact lkRet Tryz.results113 hT rfl rfl rfl rfl
end Go.Proofs.YtoobileejdhikaaGreat

namespace Go.Proofs.YtoobileejdhikaaGreat
set_option maxRecDepth 100000
set_option maxHeartbeats 2000000
open Go.RowKit
def callL (s : KS) (n : Int) : Option (KS × KS) :=
 if n = 2 then some (s.set 0 firstV, KS.zero) else if n = 3 then some (s.set 0 endV, KS.zero) else if (s.v 1).kind = 1 then some (shrinkK s, KS.zero) else none
def exitL (s : KS) : Option (KS × KS) := if (s.v 0).kind = 1 ∧ (s.v 0).nm ≤ 3 then some (KS.zero, KS.zero) else none

theorem lookCall_any (s : KS) (op of n : Int) (d c : Nat) (w : World)  :
  Calls Tryz.prog 132 #[.agg #[.int .u8 op, .int .u8 d, .int .u8 c, .int .i16 of, .int .i32 n], .agg s.cells] w fun e w' => e = lkEnd (callL s n) s.at1 ∧ Below w.heap.size w w' := by
 have hz := zeroK
 by_cases h2 : n = 2
 ·have E : callL s n = some (s.set 0 firstV, KS.zero) := if_pos h2
  have q2 : (n == 2) = true := by simpa using h2
  have H2 := hideK h2
  clear h2
  go_enter Tryz.func132, Tryz.ntmps132
  go_wp2_with (first | refine wpK_load rfl _ rfl (w.heap.size + 1) rfl s (by first | exact k1 | exact KAt.alloc (KAt.alloc (KAt.top (by simp <;> omega)) _) _) ?_ | (go_at_call 174; refine (SetFirst_any s _).mono ?_; rintro e W1 ⟨rfl, hb1⟩; have p1 : KAt W1 (w.heap.size + 1 + 1) KS.zero := KAt.keep (s := KS.zero) (by exact KAt.alloc (KAt.top (by simp <;> omega)) _) hb1; have q1 : KAt W1 (w.heap.size + 1 + 1 + 1) KS.zero := KAt.keep (s := KS.zero) (by exact KAt.top (by simp <;> omega)) hb1; have k1 : KAt W1 (w.heap.size + 1) s := KAt.keep (s := s) (by exact KAt.alloc (KAt.alloc (KAt.top (by simp <;> omega)) _) _) hb1; have hB1 : Below w.heap.size w W1 := (bel4 w _ _ _ _).trans (hb1.mono (by simp; omega))) | (go_at_call 152; refine (nowhere_any _).mono ?_; rintro e W2 ⟨rfl, hb2⟩; have p2 : KAt W2 (w.heap.size + 1 + 1) KS.zero := KAt.keep p1 hb2; have q2 : KAt W2 (w.heap.size + 1 + 1 + 1) KS.zero := KAt.keep q1 hb2; have k2 : KAt W2 (w.heap.size + 1) s := KAt.keep k1 hb2; have hB2 : Below w.heap.size w W2 := hB1.trans (hb2.mono hB1.size)) | refine wpK_store rfl _ _ rfl (w.heap.size + 1 + 1) rfl (s.set 0 firstV) rfl KS.zero p2 ?_ | refine wpK_store rfl _ _ rfl (w.heap.size + 1 + 1 + 1) rfl KS.zero rfl KS.zero (KAt.rowAway q2 (by omega) _) ?_)
  exact bodyPost_ret (v := .tuple #[.agg (s.set 0 firstV).cells, .agg KS.zero.cells]) (resK2 Tryz.results132 _ _ (w.heap.size + 1 + 1) (w.heap.size + 1 + 1 + 1) (s.set 0 firstV) KS.zero rfl rfl (KAt.rowAway (KAt.over p2 _) (by omega) _) (KAt.over (KAt.rowAway q2 (by omega) _) _)) rfl ⟨by first | (rw [E]; rfl) | rfl, below_setRowK (below_setRowK hB2 (by omega) _) (by omega) _⟩
 have q2 : (n == 2) = false := by simpa using h2
 by_cases h3 : n = 3
 ·have E : callL s n = some (s.set 0 endV, KS.zero) := by unfold callL; rw [if_neg h2, if_pos h3]
  have q3 : (n == 3) = true := by simpa using h3
  have H3 := hideK h3
  clear h3 h2
  go_enter Tryz.func132, Tryz.ntmps132
  go_wp2_with (first | refine wpK_load rfl _ rfl (w.heap.size + 1) rfl s (by first | exact k1 | exact KAt.alloc (KAt.alloc (KAt.top (by simp <;> omega)) _) _) ?_ | (go_at_call 175; refine (SetLast_any s _).mono ?_; rintro e W1 ⟨rfl, hb1⟩; have p1 : KAt W1 (w.heap.size + 1 + 1) KS.zero := KAt.keep (s := KS.zero) (by exact KAt.alloc (KAt.top (by simp <;> omega)) _) hb1; have q1 : KAt W1 (w.heap.size + 1 + 1 + 1) KS.zero := KAt.keep (s := KS.zero) (by exact KAt.top (by simp <;> omega)) hb1; have k1 : KAt W1 (w.heap.size + 1) s := KAt.keep (s := s) (by exact KAt.alloc (KAt.alloc (KAt.top (by simp <;> omega)) _) _) hb1; have hB1 : Below w.heap.size w W1 := (bel4 w _ _ _ _).trans (hb1.mono (by simp; omega))) | (go_at_call 152; refine (nowhere_any _).mono ?_; rintro e W2 ⟨rfl, hb2⟩; have p2 : KAt W2 (w.heap.size + 1 + 1) KS.zero := KAt.keep p1 hb2; have q2 : KAt W2 (w.heap.size + 1 + 1 + 1) KS.zero := KAt.keep q1 hb2; have k2 : KAt W2 (w.heap.size + 1) s := KAt.keep k1 hb2; have hB2 : Below w.heap.size w W2 := hB1.trans (hb2.mono hB1.size)) | refine wpK_store rfl _ _ rfl (w.heap.size + 1 + 1) rfl (s.set 0 endV) rfl KS.zero p2 ?_ | refine wpK_store rfl _ _ rfl (w.heap.size + 1 + 1 + 1) rfl KS.zero rfl KS.zero (KAt.rowAway q2 (by omega) _) ?_)
  exact bodyPost_ret (v := .tuple #[.agg (s.set 0 endV).cells, .agg KS.zero.cells]) (resK2 Tryz.results132 _ _ (w.heap.size + 1 + 1) (w.heap.size + 1 + 1 + 1) (s.set 0 endV) KS.zero rfl rfl (KAt.rowAway (KAt.over p2 _) (by omega) _) (KAt.over (KAt.rowAway q2 (by omega) _) _)) rfl ⟨by first | (rw [E]; rfl) | rfl, below_setRowK (below_setRowK hB2 (by omega) _) (by omega) _⟩
 have q3 : (n == 3) = false := by simpa using h3
 by_cases h1 : (s.v 1).kind = 1
 ·have E : callL s n = some (shrinkK s, KS.zero) := by unfold callL; rw [if_neg h2, if_neg h3, if_pos h1]
  clear h2 h3
  go_enter Tryz.func132, Tryz.ntmps132
  go_wp2_with (first | refine wpK_load rfl _ rfl (w.heap.size + 1) rfl s (by first | exact k1 | exact KAt.alloc (KAt.alloc (KAt.top (by simp <;> omega)) _) _) ?_ | (go_at_call 176; refine (shrink_any s _ h1).mono ?_; rintro e W1 ⟨rfl, hb1⟩; have p1 : KAt W1 (w.heap.size + 1 + 1) KS.zero := KAt.keep (s := KS.zero) (by exact KAt.alloc (KAt.top (by simp <;> omega)) _) hb1; have q1 : KAt W1 (w.heap.size + 1 + 1 + 1) KS.zero := KAt.keep (s := KS.zero) (by exact KAt.top (by simp <;> omega)) hb1; have k1 : KAt W1 (w.heap.size + 1) s := KAt.keep (s := s) (by exact KAt.alloc (KAt.alloc (KAt.top (by simp <;> omega)) _) _) hb1; have hB1 : Below w.heap.size w W1 := (bel4 w _ _ _ _).trans (hb1.mono (by simp; omega))) | (go_at_call 152; refine (nowhere_any _).mono ?_; rintro e W2 ⟨rfl, hb2⟩; have p2 : KAt W2 (w.heap.size + 1 + 1) KS.zero := KAt.keep p1 hb2; have q2 : KAt W2 (w.heap.size + 1 + 1 + 1) KS.zero := KAt.keep q1 hb2; have k2 : KAt W2 (w.heap.size + 1) s := KAt.keep k1 hb2; have hB2 : Below w.heap.size w W2 := hB1.trans (hb2.mono hB1.size)) | refine wpK_store rfl _ _ rfl (w.heap.size + 1 + 1) rfl (shrinkK s) rfl KS.zero p2 ?_ | refine wpK_store rfl _ _ rfl (w.heap.size + 1 + 1 + 1) rfl KS.zero rfl KS.zero (KAt.rowAway q2 (by omega) _) ?_)
  exact bodyPost_ret (v := .tuple #[.agg (shrinkK s).cells, .agg KS.zero.cells]) (resK2 Tryz.results132 _ _ (w.heap.size + 1 + 1) (w.heap.size + 1 + 1 + 1) (shrinkK s) KS.zero rfl rfl (KAt.rowAway (KAt.over p2 _) (by omega) _) (KAt.over (KAt.rowAway q2 (by omega) _) _)) rfl ⟨by first | (rw [E]; rfl) | rfl, below_setRowK (below_setRowK hB2 (by omega) _) (by omega) _⟩
 ·have E : callL s n = none := by unfold callL; rw [if_neg h2, if_neg h3, if_neg h1]
  clear h2 h3
  go_enter Tryz.func132, Tryz.ntmps132
  go_wp2_with (first | refine wpK_load rfl _ rfl (w.heap.size + 1) rfl s (by first | exact k1 | exact KAt.alloc (KAt.alloc (KAt.top (by simp <;> omega)) _) _) ?_ | (go_at_call 176; refine (shrink_no s _ h1).mono ?_; rintro e W1 ⟨rfl, hb1⟩))
  exact ⟨rfl, by first | (rw [E]; rfl) | rfl, (bel4 w _ _ _ _).trans (hb1.mono (by simp; omega))⟩

theorem lookExit_any (s : KS) (op of n : Int) (d c : Nat) (w : World)  :
  Calls Tryz.prog 135 #[.agg #[.int .u8 op, .int .u8 d, .int .u8 c, .int .i16 of, .int .i32 n], .agg s.cells] w fun e w' => e = lkEnd (exitL s) s.at1 ∧ Below w.heap.size w w' := by
 have hz := zeroK
 have CV := fun w => verdict_any s w
 by_cases hv : (s.v 0).kind = 1 ∧ (s.v 0).nm ≤ 3
 ·have E : exitL s = some (KS.zero, KS.zero) := if_pos hv
  simp only [if_pos hv] at CV
  clear hv
  go_enter Tryz.func135, Tryz.ntmps135
  go_wp2_with (first | refine wpK_load rfl _ rfl (w.heap.size + 1) rfl s (by first | exact k1 | exact KAt.alloc (KAt.alloc (KAt.top (by simp <;> omega)) _) _) ?_ | (go_at_call 180; refine (CV _).mono ?_; rintro e W1 ⟨rfl, hb1⟩; have p1 : KAt W1 (w.heap.size + 1 + 1) KS.zero := KAt.keep (s := KS.zero) (by exact KAt.alloc (KAt.top (by simp <;> omega)) _) hb1; have q1 : KAt W1 (w.heap.size + 1 + 1 + 1) KS.zero := KAt.keep (s := KS.zero) (by exact KAt.top (by simp <;> omega)) hb1; have k1 : KAt W1 (w.heap.size + 1) s := KAt.keep (s := s) (by exact KAt.alloc (KAt.alloc (KAt.top (by simp <;> omega)) _) _) hb1; have hB1 : Below w.heap.size w W1 := (bel4 w _ _ _ _).trans (hb1.mono (by simp; omega))) | (go_at_call 152; refine (nowhere_any _).mono ?_; (first | (have := p2; rintro e W3 ⟨rfl, hb3⟩; have p3 := p2.keep hb3; have q3 := q2.keep hb3; have hB3 : Below w.heap.size w W3 := hB2.trans (hb3.mono hB2.size)) | (rintro e W2 ⟨rfl, hb2⟩; have p2 := p1.keep hb2; have q2 := q1.keep hb2; have hB2 : Below w.heap.size w W2 := hB1.trans (hb2.mono hB1.size)))) | refine wpK_store rfl _ _ rfl (w.heap.size + 1 + 1) rfl KS.zero rfl KS.zero p3 ?_ | refine wpK_store rfl _ _ rfl (w.heap.size + 1 + 1 + 1) rfl KS.zero rfl KS.zero (KAt.rowAway q3 (by omega) _) ?_)
  exact bodyPost_ret (v := .tuple #[.agg KS.zero.cells, .agg KS.zero.cells]) (resK2 Tryz.results135 _ _ (w.heap.size + 1 + 1) (w.heap.size + 1 + 1 + 1) KS.zero KS.zero rfl rfl (KAt.rowAway (KAt.over p3 _) (by omega) _) (KAt.over (KAt.rowAway q3 (by omega) _) _)) rfl ⟨by first | (rw [E]; rfl) | rfl, below_setRowK (below_setRowK hB3 (by omega) _) (by omega) _⟩
 ·have E : exitL s = none := if_neg hv
  simp only [if_neg hv] at CV
  clear hv
  go_enter Tryz.func135, Tryz.ntmps135
  go_wp2_with (first | refine wpK_load rfl _ rfl (w.heap.size + 1) rfl s (by first | exact k1 | exact KAt.alloc (KAt.alloc (KAt.top (by simp <;> omega)) _) _) ?_ | (go_at_call 180; refine (CV _).mono ?_; rintro e W1 ⟨rfl, hb1⟩))
  exact ⟨rfl, by first | (rw [E]; rfl) | rfl, (bel4 w _ _ _ _).trans (hb1.mono (by simp; omega))⟩
end Go.Proofs.YtoobileejdhikaaGreat
