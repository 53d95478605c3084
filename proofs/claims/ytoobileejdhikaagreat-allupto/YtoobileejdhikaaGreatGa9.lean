/-
  The program's Sum and Difference of two values that are known: how the two are read.
-/
import Derived.Test.YtoobileejdhikaaGreatGa0
import Derived.Test.YtoobileejdhikaaGreatGa4
import Derived.Test.YtoobileejdhikaaGreatGa5
import Derived.Deep.DeepCutAuto
namespace Go.Proofs.YtoobileejdhikaaGreat
set_option maxRecDepth 100000
set_option maxHeartbeats 4000000
open Go.RowKit
attribute [local go_sem ↓] Go.wp_at_zero Go.wp_at_succ

structure VAt (w : World) (g : Nat) (v : KV) : Prop where
 row : w.heap[g]? = some (.cells v.arr 114)
theorem VAt.lt {w : World} {g : Nat} {v : KV} (h : VAt w g v) : g < w.heap.size := (Array.getElem?_eq_some_iff.1 h.row).1
theorem VAt.keep {W w1 : World} {g : Nat} {v : KV} (h : VAt W g v) (hb : Below W.heap.size W w1) : VAt w1 g v := ⟨(hb.block g h.lt).trans h.row⟩
theorem VAt.drew {w : World} {g : Nat} {v : KV} (h : VAt w g v) : VAt w.drew g v := ⟨h.row⟩
theorem VAt.rowAway {w : World} {g : Nat} {v : KV} (h : VAt w g v) {b : Nat} (hb : b ≠ g) (cs : Array Value) : VAt (w.setRow b cs) g v := ⟨(setRow_other w b g cs (Ne.symm hb)).trans h.row⟩
theorem VAt.over {w : World} {g : Nat} {v : KV} (h : VAt w g v) (v' : KV) : VAt (w.setRow g v'.arr) g v' := ⟨setRow_heap w g _ _ _ _ h.row⟩
theorem VAt.c0 {w : World} {g : Nat} {v : KV} (h : VAt w g v) : w.cell? ⟨g, 0, none⟩ = some (.int .u8 v.kind) := by rw [cell_of_row w g _ _ _ _ h.row]; rfl
theorem VAt.c1 {w : World} {g : Nat} {v : KV} (h : VAt w g v) : w.cell? ⟨g, 1, none⟩ = some (.int .u64 v.nl) := by rw [cell_of_row w g _ _ _ _ h.row]; rfl
theorem VAt.c2 {w : World} {g : Nat} {v : KV} (h : VAt w g v) : w.cell? ⟨g, 2, none⟩ = some (.int .u64 v.nm) := by rw [cell_of_row w g _ _ _ _ h.row]; rfl
theorem VAt.c3 {w : World} {g : Nat} {v : KV} (h : VAt w g v) : w.cell? ⟨g, 3, none⟩ = some (.int .i64 v.pl) := by rw [cell_of_row w g _ _ _ _ h.row]; rfl
theorem VAt.c4 {w : World} {g : Nat} {v : KV} (h : VAt w g v) : w.cell? ⟨g, 4, none⟩ = some (.int .i64 v.pm) := by rw [cell_of_row w g _ _ _ _ h.row]; rfl
theorem VAt.c5 {w : World} {g : Nat} {v : KV} (h : VAt w g v) : w.cell? ⟨g, 5, none⟩ = some (.bool v.e) := by rw [cell_of_row w g _ _ _ _ h.row]; rfl
theorem VAt.fz {w : World} {g : Nat} {v : KV} (h : VAt w g v) (o : Nat) : w.frozen? ⟨g, o, none⟩ = false := frozen_of_row w g o _ _ h.row
theorem zeroV (w : World) : Sem.run Tryz.prog (zeroValue 114) w = .ok (.agg kNone.arr) w := by kernel_rfl
theorem infoV (v : KV) : (Tryz.prog.info? 114).map (·.size) = some v.arr.size := by kernel_rfl
theorem oneV (v : KV) : v.arr.all (·.oneCell') = true := by simp [KV.arr, Value.oneCell']
theorem wpO_allocV {o : Oper} {a : Act} {w : World} {K : Act → World → Prop} {Q : Exit → Act → World → Prop} (ho : o.op = .alloc 114)
  (h : ∀ (W' : World) (P : Nat), VAt W' P kNone → P = w.heap.size → Below w.heap.size w W' → K (a.put o.dst (.pointer (some ⟨P, 0, none⟩))) W') : o.wp Tryz.prog a w K Q := by
 have hz := zeroV
 unfold Oper.wp execOp
 simp only [ho]
 have := h (w.alloc (.cells kNone.arr 114)) w.heap.size ⟨heap_alloc_new w _⟩ rfl ((Below.refl _ _).alloc (Nat.le_refl _) _)
 simp [go_sem, hz]
 exact this
theorem wpO_allocVd (d : Nat) {o : Oper} {a : Act} {w : World} {K : Act → World → Prop} {Q : Exit → Act → World → Prop} (ho : o.op = .alloc 114) (hd : o.dst = some d)
  (h : ∀ (W' : World) (P : Nat), VAt W' P kNone → P = w.heap.size → Below w.heap.size w W' → K (a.put (some d) (.pointer (some ⟨P, 0, none⟩))) W') : o.wp Tryz.prog a w K Q :=
 wpO_allocV ho (by rw [hd]; exact h)
theorem wpO_storeV {o : Oper} {a : Act} {w : World} {K : Act → World → Prop} {Q : Exit → Act → World → Prop} (x y : Operand) (ho : o.op = .store 114 x y)
  (g : Nat) (hx : a.eval x = .pointer (some ⟨g, 0, none⟩)) (v' : KV) (hy : a.eval y = .agg v'.arr) (v : KV) (hg : VAt w g v)
  (h : K (a.put o.dst undef) (w.setRow g v'.arr)) : o.wp Tryz.prog a w K Q :=
 wp_store_row _ x y ho g v'.arr hx hy _ v.arr hg.row (infoV v') rfl (oneV v') h
structure KV.Ok (v : KV) : Prop where
 k0 : 0 ≤ v.kind
 k3 : v.kind ≤ 3
 nl0 : 0 ≤ v.nl
 nl1 : v.nl < 18446744073709551616
 nm0 : 0 ≤ v.nm
 nm1 : v.nm < 18446744073709551616
 nn : v.nl ≤ v.nm
 pl0 : -1000 ≤ v.pl
 pl1 : v.pl ≤ 1000
 pm0 : -1000 ≤ v.pm
 pm1 : v.pm ≤ 1000
 e2 : v.e = true → v.kind = 2
 e64 : v.e = true → v.pm ≤ 64
 pp : v.pl ≤ v.pm

theorem Sum_na (s : KS) (a b : Nat) (w : World) (ha : a < 9) (ka : (s.v a).kind = 0) :
  Calls Tryz.prog 153 #[.agg s.cells, .int .u8 a, .int .u8 b] w fun e w' => e = .panicked (thrown 3 s.at1) ∧ Below w.heap.size w w' := by
 go_enter Tryz.func153, Tryz.ntmps153
 go_wp2_with fail
 generalize hW : ((w.alloc (Obj.cells s.cells 117)).alloc (Obj.cells #[.int .u8 0, .int .u64 0, .int .u64 0, .int .i64 0, .int .i64 0, .bool false] 114)) = W0
 have k0 : KAt W0 w.heap.size s := by subst hW; with_reducible exact KAt.alloc (KAt.new _ _) _
 have hB : Below w.heap.size w W0 := by subst hW; exact ((Below.refl _ _).alloc (Nat.le_refl _) _).alloc (by simp) _
 clear hW
 refine wp_region_held_drew (S := fun w' => KAt w' w.heap.size s) (by kernel_rfl) k0.drew (fun hHeld => ?_)
 have hB := hB.drew
 refine tkY 0 rfl (yieldsK (by rfl) _ rfl (w.heap.size) rfl s (fun w h => h)) ?_
 try simp only [Act.put]
 refine tkH 1 ?_
 try simp only [Act.put]
 refine tkY 3 rfl (yieldsK (by rfl) _ rfl (w.heap.size) rfl s (fun w h => h)) ?_
 try simp only [Act.put]
 refine tkH 4 ?_
 try simp only [Act.put]
 iterate 3 (all_goals ((first | refine rdH3 2 6 7 (fun K hK => ?_) (fun K hK => ?_) (fun K hK => ?_) | refine rdH2 2 6 (fun K hK => ?_) (fun K hK => ?_) | refine rdH2 2 7 (fun K hK => ?_) (fun K hK => ?_) | refine rdH1 2 (fun K hK => ?_)) <;> (first | ((first | refine wpO_allocVd 7 rfl rfl (fun _ PA _ _ hbX => ?_) | refine wpO_allocVd 8 rfl rfl (fun _ PA _ _ hbX => ?_)); have hN := hHeld.keep hbX; have hB := hB.trans (hbX.mono hB.size); refine hK.out _ _ hN (fun hHeld => ?_); clear hK K hN hbX; (try simp only [Act.put])) | (go_simp; (with_reducible show Calls _ _ #[_, .int .u8 (a : Nat)] _ _); refine (read_no s a _ ha ka).mono ?_; rintro e WX ⟨rfl, hbX⟩; go_simp; exact ⟨rfl, rfl, hB.trans (hbX.mono hB.size)⟩))))
theorem Difference_na (s : KS) (a b : Nat) (w : World) (ha : a < 9) (ka : (s.v a).kind = 0) :
  Calls Tryz.prog 155 #[.agg s.cells, .int .u8 a, .int .u8 b] w fun e w' => e = .panicked (thrown 3 s.at1) ∧ Below w.heap.size w w' := by
 go_enter Tryz.func155, Tryz.ntmps155
 go_wp2_with fail
 generalize hW : ((w.alloc (Obj.cells s.cells 117)).alloc (Obj.cells #[.int .u8 0, .int .u64 0, .int .u64 0, .int .i64 0, .int .i64 0, .bool false] 114)) = W0
 have k0 : KAt W0 w.heap.size s := by subst hW; with_reducible exact KAt.alloc (KAt.new _ _) _
 have hB : Below w.heap.size w W0 := by subst hW; exact ((Below.refl _ _).alloc (Nat.le_refl _) _).alloc (by simp) _
 clear hW
 refine wp_region_held_drew (S := fun w' => KAt w' w.heap.size s) (by kernel_rfl) k0.drew (fun hHeld => ?_)
 have hB := hB.drew
 refine tkY 0 rfl (yieldsK (by rfl) _ rfl (w.heap.size) rfl s (fun w h => h)) ?_
 try simp only [Act.put]
 refine tkH 1 ?_
 try simp only [Act.put]
 refine tkY 3 rfl (yieldsK (by rfl) _ rfl (w.heap.size) rfl s (fun w h => h)) ?_
 try simp only [Act.put]
 refine tkH 4 ?_
 try simp only [Act.put]
 iterate 3 (all_goals ((first | refine rdH3 2 6 7 (fun K hK => ?_) (fun K hK => ?_) (fun K hK => ?_) | refine rdH2 2 6 (fun K hK => ?_) (fun K hK => ?_) | refine rdH2 2 7 (fun K hK => ?_) (fun K hK => ?_) | refine rdH1 2 (fun K hK => ?_)) <;> (first | ((first | refine wpO_allocVd 7 rfl rfl (fun _ PA _ _ hbX => ?_) | refine wpO_allocVd 8 rfl rfl (fun _ PA _ _ hbX => ?_)); have hN := hHeld.keep hbX; have hB := hB.trans (hbX.mono hB.size); refine hK.out _ _ hN (fun hHeld => ?_); clear hK K hN hbX; (try simp only [Act.put])) | (go_simp; (with_reducible show Calls _ _ #[_, .int .u8 (a : Nat)] _ _); refine (read_no s a _ ha ka).mono ?_; rintro e WX ⟨rfl, hbX⟩; go_simp; exact ⟨rfl, rfl, hB.trans (hbX.mono hB.size)⟩))))
theorem Sum_nb (s : KS) (a b : Nat) (w : World) (ha : a < 9) (hb : b < 9) (ka : (s.v a).kind ≠ 0) (kb : (s.v b).kind = 0) :
  Calls Tryz.prog 153 #[.agg s.cells, .int .u8 a, .int .u8 b] w fun e w' => e = .panicked (thrown 3 s.at1) ∧ Below w.heap.size w w' := by
 go_enter Tryz.func153, Tryz.ntmps153
 go_wp2_with fail
 generalize hW : ((w.alloc (Obj.cells s.cells 117)).alloc (Obj.cells #[.int .u8 0, .int .u64 0, .int .u64 0, .int .i64 0, .int .i64 0, .bool false] 114)) = W0
 have k0 : KAt W0 w.heap.size s := by subst hW; with_reducible exact KAt.alloc (KAt.new _ _) _
 have hB : Below w.heap.size w W0 := by subst hW; exact ((Below.refl _ _).alloc (Nat.le_refl _) _).alloc (by simp) _
 clear hW
 refine wp_region_held_drew (S := fun w' => KAt w' w.heap.size s) (by kernel_rfl) k0.drew (fun hHeld => ?_)
 have hB := hB.drew
 refine tkY 0 rfl (yieldsK (by rfl) _ rfl (w.heap.size) rfl s (fun w h => h)) ?_
 try simp only [Act.put]
 refine tkH 1 ?_
 try simp only [Act.put]
 refine tkY 3 rfl (yieldsK (by rfl) _ rfl (w.heap.size) rfl s (fun w h => h)) ?_
 try simp only [Act.put]
 refine tkH 4 ?_
 try simp only [Act.put]
 iterate 4 (all_goals ((first | refine rdH3 2 6 7 (fun K hK => ?_) (fun K hK => ?_) (fun K hK => ?_) | refine rdH3 5 6 7 (fun K hK => ?_) (fun K hK => ?_) (fun K hK => ?_) | refine rdH2 2 6 (fun K hK => ?_) (fun K hK => ?_) | refine rdH2 2 7 (fun K hK => ?_) (fun K hK => ?_) | refine rdH2 5 6 (fun K hK => ?_) (fun K hK => ?_) | refine rdH2 5 7 (fun K hK => ?_) (fun K hK => ?_) | refine rdH1 2 (fun K hK => ?_) | refine rdH1 5 (fun K hK => ?_)) <;> (first | ((first | refine wpO_allocVd 7 rfl rfl (fun _ PA _ _ hbX => ?_) | refine wpO_allocVd 8 rfl rfl (fun _ PA _ _ hbX => ?_)); have hN := hHeld.keep hbX; have hB := hB.trans (hbX.mono hB.size); refine hK.out _ _ hN (fun hHeld => ?_); clear hK K hN hbX; (try simp only [Act.put])) | (go_simp; (with_reducible show Calls _ _ #[_, .int .u8 (a : Nat)] _ _); refine (read_ok s a _ ha ka).mono ?_; rintro e WX ⟨rfl, hbX⟩; have hN := hHeld.keep hbX; have hB := hB.trans (hbX.mono hB.size); go_wp2_with fail; refine hK.out _ _ hN (fun hHeld => ?_); clear hK K hN hbX; (try simp only [Act.put])) | (go_simp; (with_reducible show Calls _ _ #[_, .int .u8 (b : Nat)] _ _); refine (read_no s b _ hb kb).mono ?_; rintro e WX ⟨rfl, hbX⟩; go_simp; exact ⟨rfl, rfl, hB.trans (hbX.mono hB.size)⟩))))
theorem Difference_nb (s : KS) (a b : Nat) (w : World) (ha : a < 9) (hb : b < 9) (ka : (s.v a).kind ≠ 0) (kb : (s.v b).kind = 0) :
  Calls Tryz.prog 155 #[.agg s.cells, .int .u8 a, .int .u8 b] w fun e w' => e = .panicked (thrown 3 s.at1) ∧ Below w.heap.size w w' := by
 go_enter Tryz.func155, Tryz.ntmps155
 go_wp2_with fail
 generalize hW : ((w.alloc (Obj.cells s.cells 117)).alloc (Obj.cells #[.int .u8 0, .int .u64 0, .int .u64 0, .int .i64 0, .int .i64 0, .bool false] 114)) = W0
 have k0 : KAt W0 w.heap.size s := by subst hW; with_reducible exact KAt.alloc (KAt.new _ _) _
 have hB : Below w.heap.size w W0 := by subst hW; exact ((Below.refl _ _).alloc (Nat.le_refl _) _).alloc (by simp) _
 clear hW
 refine wp_region_held_drew (S := fun w' => KAt w' w.heap.size s) (by kernel_rfl) k0.drew (fun hHeld => ?_)
 have hB := hB.drew
 refine tkY 0 rfl (yieldsK (by rfl) _ rfl (w.heap.size) rfl s (fun w h => h)) ?_
 try simp only [Act.put]
 refine tkH 1 ?_
 try simp only [Act.put]
 refine tkY 3 rfl (yieldsK (by rfl) _ rfl (w.heap.size) rfl s (fun w h => h)) ?_
 try simp only [Act.put]
 refine tkH 4 ?_
 try simp only [Act.put]
 iterate 4 (all_goals ((first | refine rdH3 2 6 7 (fun K hK => ?_) (fun K hK => ?_) (fun K hK => ?_) | refine rdH3 5 6 7 (fun K hK => ?_) (fun K hK => ?_) (fun K hK => ?_) | refine rdH2 2 6 (fun K hK => ?_) (fun K hK => ?_) | refine rdH2 2 7 (fun K hK => ?_) (fun K hK => ?_) | refine rdH2 5 6 (fun K hK => ?_) (fun K hK => ?_) | refine rdH2 5 7 (fun K hK => ?_) (fun K hK => ?_) | refine rdH1 2 (fun K hK => ?_) | refine rdH1 5 (fun K hK => ?_)) <;> (first | ((first | refine wpO_allocVd 7 rfl rfl (fun _ PA _ _ hbX => ?_) | refine wpO_allocVd 8 rfl rfl (fun _ PA _ _ hbX => ?_)); have hN := hHeld.keep hbX; have hB := hB.trans (hbX.mono hB.size); refine hK.out _ _ hN (fun hHeld => ?_); clear hK K hN hbX; (try simp only [Act.put])) | (go_simp; (with_reducible show Calls _ _ #[_, .int .u8 (a : Nat)] _ _); refine (read_ok s a _ ha ka).mono ?_; rintro e WX ⟨rfl, hbX⟩; have hN := hHeld.keep hbX; have hB := hB.trans (hbX.mono hB.size); go_wp2_with fail; refine hK.out _ _ hN (fun hHeld => ?_); clear hK K hN hbX; (try simp only [Act.put])) | (go_simp; (with_reducible show Calls _ _ #[_, .int .u8 (b : Nat)] _ _); refine (read_no s b _ hb kb).mono ?_; rintro e WX ⟨rfl, hbX⟩; go_simp; exact ⟨rfl, rfl, hB.trans (hbX.mono hB.size)⟩))))
end Go.Proofs.YtoobileejdhikaaGreat
