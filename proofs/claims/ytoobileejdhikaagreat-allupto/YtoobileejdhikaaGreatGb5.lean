/-
  The program looks at an instruction: operations on two numbers.
-/
import Derived.Test.YtoobileejdhikaaGreatGa0
import Derived.Test.YtoobileejdhikaaGreatGb3
namespace Go.Proofs.YtoobileejdhikaaGreat
set_option maxRecDepth 100000
set_option maxHeartbeats 2000000
open Go.RowKit
attribute [local go_sem ↓] Go.wp_at_zero Go.wp_at_succ

structure UAt (w : World) (g : Nat) (l m : Int) : Prop where
 row : w.heap[g]? = some (.cells #[.int .u64 l, .int .u64 m] 110)
theorem UAt.lt {w : World} {g : Nat} {l m : Int} (h : UAt w g l m) : g < w.heap.size := (Array.getElem?_eq_some_iff.1 h.row).1
theorem UAt.keep {W w1 : World} {g : Nat} {l m : Int} (h : UAt W g l m) (hb : Below W.heap.size W w1) : UAt w1 g l m := ⟨(hb.block g h.lt).trans h.row⟩
theorem UAt.over {w : World} {g : Nat} {l m : Int} (h : UAt w g l m) (l' m' : Int) : UAt (w.setRow g #[.int .u64 l', .int .u64 m']) g l' m' := ⟨setRow_heap w g _ _ _ _ h.row⟩
theorem UAt.c0 {w : World} {g : Nat} {l m : Int} (h : UAt w g l m) : w.cell? ⟨g, 0, none⟩ = some (.int .u64 l) := by rw [cell_of_row w g _ _ _ _ h.row]; rfl
theorem UAt.c1 {w : World} {g : Nat} {l m : Int} (h : UAt w g l m) : w.cell? ⟨g, 1, none⟩ = some (.int .u64 m) := by rw [cell_of_row w g _ _ _ _ h.row]; rfl
theorem zeroU (w : World) : Sem.run Tryz.prog (zeroValue 110) w = .ok (.agg #[.int .u64 0, .int .u64 0]) w := by kernel_rfl
theorem infoU : (Tryz.prog.info? 110).map (·.size) = some 2 := by kernel_rfl
theorem wpO_allocU {o : Oper} {a : Act} {w : World} {K : Act → World → Prop} {Q : Exit → Act → World → Prop} (d : Nat) (ho : o.op = .alloc 110) (hd : o.dst = some d)
  (h : ∀ (W' : World) (P : Nat), UAt W' P 0 0 → P = w.heap.size → Below w.heap.size w W' → K (a.put (some d) (.pointer (some ⟨P, 0, none⟩))) W') : o.wp Tryz.prog a w K Q := by
 have hz := zeroU
 unfold Oper.wp execOp
 simp only [ho]
 have := h (w.alloc (.cells #[.int .u64 0, .int .u64 0] 110)) w.heap.size ⟨heap_alloc_new w _⟩ rfl ((Below.refl _ _).alloc (Nat.le_refl _) _)
 rw [← hd] at this
 simp [go_sem, hz]
 exact this
theorem wpO_storeU {o : Oper} {a : Act} {w : World} {K : Act → World → Prop} {Q : Exit → Act → World → Prop} (x y : Operand) (ho : o.op = .store 110 x y)
  (g : Nat) (hx : a.eval x = .pointer (some ⟨g, 0, none⟩)) (l' m' : Int) (hy : a.eval y = .agg #[.int .u64 l', .int .u64 m']) (l m : Int) (hg : UAt w g l m)
  (h : K (a.put o.dst undef) (w.setRow g #[.int .u64 l', .int .u64 m'])) : o.wp Tryz.prog a w K Q :=
 wp_store_row _ x y ho g _ hx hy _ _ hg.row infoU rfl (by simp [Value.oneCell']) h
def numL (s : KS) (d r : Nat) (l m : Int) : Option (KS × KS) := if (s.v d).kind = 1 ∧ (s.v r).kind = 1 then some (s.set d (numV l m), KS.zero) else none

theorem LkR.away {w W : World} {a b : KS} (h : LkR w W a b) {x : Nat} (hb : w.heap.size + 1 + 1 + 1 < x) (cs : Array Value) : LkR w (W.setRow x cs) a b :=
 ⟨h.k0.rowAway (by omega) _, h.k1.rowAway (by omega) _, below_setRowK h.hB (by omega) _⟩

theorem lookNumbers1_any (s : KS) (op of n : Int) (d c : Nat) (P : Nat) (w : World) (F : Nat) (fl fm : Int) (eF : ∀ x y w, Sem.run Tryz.prog (callFunc F #[x, y]) w = .ok (.enter F #[x, y]) w) (hP : w.cell? ⟨P, 0, none⟩ = some (.func (.func F) #[] #[])) (hd : d < 9) (hc : secR op c < 9) (CF0 : (s.v d).kind = 1 → (s.v (secR op c)).kind = 1 → ∀ w, Calls Tryz.prog F #[.agg #[.int .u64 (s.v d).nl, .int .u64 (s.v d).nm], .agg #[.int .u64 (s.v (secR op c)).nl, .int .u64 (s.v (secR op c)).nm]] w fun e w' => e = .returned (.agg #[.int .u64 fl, .int .u64 fm]) ∧ Below w.heap.size w w') :
  Calls Tryz.prog 156 #[.agg #[.int .u8 op, .int .u8 d, .int .u8 c, .int .i16 of, .int .i32 n], .agg s.cells, .pointer (some ⟨P, 0, none⟩)] w fun e w' => e = lkEnd (numL s d (secR op c) fl fm) s.at1 ∧ Below w.heap.size w w' := by
 have hz := zeroK
 have C1 := fun w => readNumber_any s d w hd
 have C2 := fun w => readNumber_any s (secR op c) w hc
 have lP : P < w.heap.size := block_lt_of_cell hP
 go_enter Tryz.func156, Tryz.ntmps156
 go_wp2_with fail
 generalize hW : World.alloc _ _ = W0
 obtain ⟨hs, hT⟩ := lkNew hW
 have hx := lkOld hW hP
 clear hW
 by_cases h1 : (s.v d).kind = 1
 ·simp only [if_pos h1] at C1
  by_cases h2 : (s.v (secR op c)).kind = 1
  ·simp only [if_pos h2] at C2
   have E : numL s d (secR op c) fl fm = some (s.set d (numV fl fm), KS.zero) := if_pos ⟨h1, h2⟩
   have CF := CF0 h1 h2
   clear h1 h2 CF0
   go_cut [7] (fun p wx => ∃ PU : Nat, p = .pointer (some ⟨PU, 0, none⟩) ∧ LkA w.heap.size s op of n d c wx ∧ LkR w wx KS.zero KS.zero ∧ UAt wx PU fl fm)
   case first =>
    refine wp_region_held_drew (S := fun W => LkA w.heap.size s op of n d c W ∧ W.cell? ⟨P, 0, none⟩ = some (.func (.func F) #[] #[])) (by kernel_rfl) ⟨hs.drew, hx⟩ (fun hH => ?_)
    have hT := hT.drew
    refine tkH 0 ?_
    try simp only [Act.put]
    refine tkY 1 rfl (yieldsK (by rfl) _ rfl (w.heap.size + 1) rfl s (fun w h => h.1.1)) ?_
    try simp only [Act.put]
    refine tkH 2 ?_
    try simp only [Act.put]
    refine tkH 3 ?_
    try simp only [Act.put]
    refine tkY 5 rfl (yieldsK (by rfl) _ rfl (w.heap.size + 1) rfl s (fun w h => h.1.1)) ?_
    try simp only [Act.put]
    refine tkH 6 ?_
    try simp only [Act.put]
    iterate 6 (all_goals ((first | refine rdH2 4 10 (fun K hK => ?_) (fun K hK => ?_) | refine rdH2 7 10 (fun K hK => ?_) (fun K hK => ?_) | refine rdH2 8 10 (fun K hK => ?_) (fun K hK => ?_) | refine rdH2 9 10 (fun K hK => ?_) (fun K hK => ?_) | refine rdH1 4 (fun K hK => ?_) | refine rdH1 7 (fun K hK => ?_) | refine rdH1 8 (fun K hK => ?_) | refine rdH1 9 (fun K hK => ?_) | refine rdH1 10 (fun K hK => ?_) | refine rdH1 11 (fun K hK => ?_)) <;> (first | (refine wpO_storeU _ _ rfl PU rfl fl fm rfl _ _ kU ?_; refine hK.out _ _ ⟨hH.1.away (by omega) _, cellRow (by omega) hH.2⟩ (fun hH => ?_); clear hK K; (try simp only [Act.put]); have hT := hT.away (x := PU) (by omega) #[.int .u64 fl, .int .u64 fm]; have kU := kU.over fl fm) | (refine wpO_allocU 7 rfl rfl (fun _ PU kU hP hb => ?_); have lU := hT.k1.lt; have lP : w.heap.size + 1 + 1 + 1 < PU := (by omega); clear hP lU; have hT := hT.keep hb; refine hK.out _ _ ⟨hH.1.keep hb, cellKeep hb hH.2⟩ (fun hH => ?_); clear hK K; (try simp only [Act.put]); clear hb) | (go_simp; (first | ((with_reducible show Calls _ 157 #[_, .int .u8 (d : Nat)] _ _); refine (C1 _).mono ?_) | ((with_reducible show Calls _ 151 _ _ _); refine (isecond_any op d c of n _).mono ?_) | ((with_reducible show Calls _ 157 _ _ _); refine (C2 _).mono ?_) | refine (CF _).mono ?_); rintro e W ⟨rfl, hb⟩; have hT := hT.keep hb; (try have kU := kU.keep hb); go_wp2_with fail; refine hK.out _ _ ⟨hH.1.keep hb, cellKeep hb hH.2⟩ (fun hH => ?_); clear hK K; (try simp only [Act.put]); clear hb))))
    all_goals (refine wpAnyH_done (by kernel_rfl) ?_ _; go_wp2_with fail; go_meet; case rel => exact ⟨PU, rfl, hH.1, hT, kU⟩)
   case rest =>
    obtain ⟨PU, rfl, hs, hT, kU⟩ := hcut
    have u0 := kU.c0
    have u1 := kU.c1
    go_wp2_with (first | refine wpK_load rfl _ rfl (w.heap.size + 1) rfl s hs.1 ?_ | (go_at_call 140; refine (setNumber_any s d fl fm _ hd).mono ?_; rintro e W1 ⟨rfl, hb⟩; have hT := hT.keep hb) | (go_at_call 152; refine (nowhere_any _).mono ?_; rintro e W2 ⟨rfl, hb⟩; have hT := hT.keep hb) | refine wpK_store rfl _ _ rfl (w.heap.size + 1 + 1) rfl (s.set d (numV fl fm)) rfl KS.zero hT.k0 ?_ | refine wpK_store rfl _ _ rfl (w.heap.size + 1 + 1 + 1) rfl KS.zero rfl KS.zero (hT.st0 (s.set d (numV fl fm))).k1 ?_)
    exact lkRet Tryz.results156 ((hT.st0 (s.set d (numV fl fm))).st1 KS.zero) E rfl rfl rfl
  ·simp only [if_neg h2] at C2
   have E : numL s d (secR op c) fl fm = none := if_neg (by simp [h2])
   clear h1 h2 CF0
   refine wp_region_held_drew (S := fun W => LkA w.heap.size s op of n d c W ∧ W.cell? ⟨P, 0, none⟩ = some (.func (.func F) #[] #[])) (by kernel_rfl) ⟨hs.drew, hx⟩ (fun hH => ?_)
   have hT := hT.drew
   refine tkH 0 ?_
   try simp only [Act.put]
   refine tkY 1 rfl (yieldsK (by rfl) _ rfl (w.heap.size + 1) rfl s (fun w h => h.1.1)) ?_
   try simp only [Act.put]
   refine tkH 2 ?_
   try simp only [Act.put]
   refine tkH 3 ?_
   try simp only [Act.put]
   refine tkY 5 rfl (yieldsK (by rfl) _ rfl (w.heap.size + 1) rfl s (fun w h => h.1.1)) ?_
   try simp only [Act.put]
   refine tkH 6 ?_
   try simp only [Act.put]
   iterate 4 (all_goals ((first | refine rdH2 4 10 (fun K hK => ?_) (fun K hK => ?_) | refine rdH2 7 10 (fun K hK => ?_) (fun K hK => ?_) | refine rdH2 8 10 (fun K hK => ?_) (fun K hK => ?_) | refine rdH2 9 10 (fun K hK => ?_) (fun K hK => ?_) | refine rdH1 4 (fun K hK => ?_) | refine rdH1 7 (fun K hK => ?_) | refine rdH1 8 (fun K hK => ?_) | refine rdH1 9 (fun K hK => ?_) | refine rdH1 10 (fun K hK => ?_) | refine rdH1 11 (fun K hK => ?_)) <;> (first | (refine wpO_allocU 7 rfl rfl (fun _ PU kU hP hb => ?_); have lU := hT.k1.lt; have lP : w.heap.size + 1 + 1 + 1 < PU := (by omega); clear hP lU; have hT := hT.keep hb; refine hK.out _ _ ⟨hH.1.keep hb, cellKeep hb hH.2⟩ (fun hH => ?_); clear hK K; (try simp only [Act.put]); clear hb) | (go_simp; (first | ((with_reducible show Calls _ 157 #[_, .int .u8 (d : Nat)] _ _); refine (C1 _).mono ?_) | ((with_reducible show Calls _ 151 _ _ _); refine (isecond_any op d c of n _).mono ?_)); rintro e W ⟨rfl, hb⟩; have hT := hT.keep hb; (try have kU := kU.keep hb); go_wp2_with fail; refine hK.out _ _ ⟨hH.1.keep hb, cellKeep hb hH.2⟩ (fun hH => ?_); clear hK K; (try simp only [Act.put]); clear hb) | (go_simp; refine (C2 _).mono ?_; rintro e W ⟨rfl, hb⟩; go_simp; exact ⟨rfl, (by rw [E]; rfl), lkDie hT hb⟩))))
 ·simp only [if_neg h1] at C1
  have E : numL s d (secR op c) fl fm = none := if_neg (by simp [h1])
  clear h1 CF0
  refine wp_region_held_drew (S := fun W => LkA w.heap.size s op of n d c W ∧ W.cell? ⟨P, 0, none⟩ = some (.func (.func F) #[] #[])) (by kernel_rfl) ⟨hs.drew, hx⟩ (fun hH => ?_)
  have hT := hT.drew
  refine tkH 0 ?_
  try simp only [Act.put]
  refine tkY 1 rfl (yieldsK (by rfl) _ rfl (w.heap.size + 1) rfl s (fun w h => h.1.1)) ?_
  try simp only [Act.put]
  refine tkH 2 ?_
  try simp only [Act.put]
  refine tkH 3 ?_
  try simp only [Act.put]
  refine tkY 5 rfl (yieldsK (by rfl) _ rfl (w.heap.size + 1) rfl s (fun w h => h.1.1)) ?_
  try simp only [Act.put]
  refine tkH 6 ?_
  try simp only [Act.put]
  iterate 2 (all_goals ((first | refine rdH2 4 10 (fun K hK => ?_) (fun K hK => ?_) | refine rdH2 7 10 (fun K hK => ?_) (fun K hK => ?_) | refine rdH2 8 10 (fun K hK => ?_) (fun K hK => ?_) | refine rdH2 9 10 (fun K hK => ?_) (fun K hK => ?_) | refine rdH1 4 (fun K hK => ?_) | refine rdH1 7 (fun K hK => ?_) | refine rdH1 8 (fun K hK => ?_) | refine rdH1 9 (fun K hK => ?_) | refine rdH1 10 (fun K hK => ?_) | refine rdH1 11 (fun K hK => ?_)) <;> (first | (refine wpO_allocU 7 rfl rfl (fun _ PU kU hP hb => ?_); have lU := hT.k1.lt; have lP : w.heap.size + 1 + 1 + 1 < PU := (by omega); clear hP lU; have hT := hT.keep hb; refine hK.out _ _ ⟨hH.1.keep hb, cellKeep hb hH.2⟩ (fun hH => ?_); clear hK K; (try simp only [Act.put]); clear hb) | (go_simp; refine (C1 _).mono ?_; rintro e W ⟨rfl, hb⟩; go_simp; exact ⟨rfl, (by rw [E]; rfl), lkDie hT hb⟩))))
end Go.Proofs.YtoobileejdhikaaGreat
