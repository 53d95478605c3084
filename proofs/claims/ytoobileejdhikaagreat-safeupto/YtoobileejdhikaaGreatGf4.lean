/-
  The document's machine: a run begins.
-/
import Derived.Test.YtoobileejdhikaaGreatGa0
import Derived.Test.YtoobileejdhikaaGreatGf2
import Derived.Test.YtoobileejdhikaaGreatGf3
import Derived.Test.YtoobileejdhikaaGreatGc0
import Derived.Deep.AppendLies
import Derived.Deep.DeepCutAuto
import Derived.Deep.CutBlock
import Derived.Deep.RegionHeld3
import Derived.Deep.RegionWith
import Derived.Deep.DrawnRows
import Derived.Laws.Tables
namespace Go.Proofs.YtoobileejdhikaaGreat
set_option maxRecDepth 1000000
set_option maxHeartbeats 40000000
open Go.RowKit
attribute [local go_sem ↓] Go.wp_at_zero Go.wp_at_succ

theorem Tryz.info5 : (Tryz.prog.info? 5).map (fun i => (i.zero, i.size, i.bytes)) = some (some (.int .u8 0), 1, 1) := by kernel_rfl

def zM : Mac := { regs := fun _ => vNone, stack := fun _ => 0, frame := [], fault := false }
def zeros58 : Array Value := #[Value.int .i64 0, Value.int .u64 0, Value.int .i64 0, Value.int .i64 0, Value.int .u64 0, Value.int .i64 0, Value.int .i64 0, Value.int .u64 0, Value.int .i64 0, Value.int .i64 0, Value.int .u64 0, Value.int .i64 0, Value.int .i64 0, Value.int .u64 0, Value.int .i64 0, Value.int .i64 0, Value.int .u64 0, Value.int .i64 0, Value.int .i64 0, Value.int .u64 0, Value.int .i64 0, Value.int .i64 0, Value.int .u64 0, Value.int .i64 0, Value.int .u8 0, Value.int .u8 0, Value.int .u8 0, Value.int .u8 0, Value.int .u8 0, Value.int .u8 0, Value.int .u8 0, Value.int .u8 0, Value.int .u8 0, Value.int .u8 0, Value.int .u8 0, Value.int .u8 0, Value.int .u8 0, Value.int .u8 0, Value.int .u8 0, Value.int .u8 0, Value.int .u8 0, Value.int .u8 0, Value.int .u8 0, Value.int .u8 0, Value.int .u8 0, Value.int .u8 0, Value.int .u8 0, Value.int .u8 0, Value.int .u8 0, Value.int .u8 0, Value.int .u8 0, Value.int .u8 0, Value.int .u8 0, Value.int .u8 0, Value.int .u8 0, Value.int .u8 0, Value.slice none 0 0, Value.bool false]

theorem z58_k (d : Nat) (h : d < 8) : zeros58[d * 3]? = some (.int .i64 0) := by
 match d, h with
 | 0, _ => rfl
 | 1, _ => rfl
 | 2, _ => rfl
 | 3, _ => rfl
 | 4, _ => rfl
 | 5, _ => rfl
 | 6, _ => rfl
 | 7, _ => rfl
 | k + 8, h => omega
theorem z58_b (d : Nat) (h : d < 8) : zeros58[d * 3 + 1]? = some (.int .u64 0) := by
 match d, h with
 | 0, _ => rfl
 | 1, _ => rfl
 | 2, _ => rfl
 | 3, _ => rfl
 | 4, _ => rfl
 | 5, _ => rfl
 | 6, _ => rfl
 | 7, _ => rfl
 | k + 8, h => omega
theorem z58_p (d : Nat) (h : d < 8) : zeros58[d * 3 + 2]? = some (.int .i64 0) := by
 match d, h with
 | 0, _ => rfl
 | 1, _ => rfl
 | 2, _ => rfl
 | 3, _ => rfl
 | 4, _ => rfl
 | 5, _ => rfl
 | 6, _ => rfl
 | 7, _ => rfl
 | k + 8, h => omega
theorem z58_s (d : Nat) (h : d < 32) : zeros58[24 + d]? = some (.int .u8 0) := by
 match d, h with
 | 0, _ => rfl
 | 1, _ => rfl
 | 2, _ => rfl
 | 3, _ => rfl
 | 4, _ => rfl
 | 5, _ => rfl
 | 6, _ => rfl
 | 7, _ => rfl
 | 8, _ => rfl
 | 9, _ => rfl
 | 10, _ => rfl
 | 11, _ => rfl
 | 12, _ => rfl
 | 13, _ => rfl
 | 14, _ => rfl
 | 15, _ => rfl
 | 16, _ => rfl
 | 17, _ => rfl
 | 18, _ => rfl
 | 19, _ => rfl
 | 20, _ => rfl
 | 21, _ => rfl
 | 22, _ => rfl
 | 23, _ => rfl
 | 24, _ => rfl
 | 25, _ => rfl
 | 26, _ => rfl
 | 27, _ => rfl
 | 28, _ => rfl
 | 29, _ => rfl
 | 30, _ => rfl
 | 31, _ => rfl
 | k + 32, h => omega

theorem mac_zero (w : World) : MacAt (w.alloc (.cells zeros58 89)) w.heap.size w.heap.size 0 0 zM := by
 have hr := heap_alloc_new w (.cells zeros58 89)
 have hc : ∀ o, (w.alloc (.cells zeros58 89)).cell? ⟨w.heap.size, o, none⟩ = zeros58[o]? := fun o => cell_of_row _ _ o zeros58 _ _ hr
 refine ⟨fun d hd => (hc _).trans (z58_k d hd), fun d hd => (hc _).trans (z58_b d hd), fun d hd => (hc _).trans (z58_p d hd), fun d hd => (hc _).trans (z58_s d hd), ⟨none, (hc _).trans rfl, fun h => ?_⟩, (hc _).trans rfl, fun o => World.frozen?_alloc_new _ _ _ _, fun i hi => ?_, fun i hi => ?_, fun h => ?_, ⟨by simp [zM], by omega⟩, by simp, by simp⟩
 ·simp [zM] at h
 ·simp [zM] at hi
 ·simp [zM] at hi
 ·simp [zM] at h

theorem mac_zero56 (w : World) : (w.alloc (.cells zeros58 89)).cell? ⟨w.heap.size, 56, none⟩ = some (.slice none 0 0) :=
 (cell_of_row _ _ 56 zeros58 _ _ (heap_alloc_new w (.cells zeros58 89))).trans rfl

theorem MacAt.newFrame {w : World} {p g cap : Nat} {F : List Int} (h : MacAt w p p 0 0 zM) (hg : p ≠ g) (hlt : g < w.heap.size) (hc : ∀ i, i < F.length → w.cell? ⟨g, i, none⟩ = some (.int .u8 (F.getD i 0))) (hz : ∀ i, w.frozen? ⟨g, i, none⟩ = false)
  (hcp : F.length ≤ cap) (hcm : cap ≤ 9223372036854775807) : MacAt (w.setCell ⟨p, 56, none⟩ (.slice (some ⟨g, 0, none⟩) F.length cap)) p g 0 cap { zM with frame := F } := by
 obtain ⟨a, f56, _⟩ := h.fr
 refine ⟨fun i hi => ?_, fun i hi => ?_, fun i hi => ?_, fun i hi => ?_, ⟨some ⟨g, 0, none⟩, cell_set_same f56, fun _ => rfl⟩, ?_, fun o => ?_, fun i hi => ?_, fun i hi => ?_, fun _ => hg, ⟨hcp, hcm⟩, ?_, ?_⟩
 ·rw [cell_set_off (by omega)]; exact h.k i hi
 ·rw [cell_set_off (by omega)]; exact h.b i hi
 ·rw [cell_set_off (by omega)]; exact h.pl i hi
 ·rw [cell_set_off (by omega)]; exact h.st i hi
 ·rw [cell_set_off (by omega)]; exact h.fl
 ·rw [World.frozen?_setCell]; exact h.fz o
 ·rw [cell_set_blk (Ne.symm hg), Nat.zero_add]; exact hc i hi
 ·rw [World.frozen?_setCell]; exact hz _
 ·rw [size_setCell]; exact h.lp
 ·rw [size_setCell]; exact hlt

def bytesV (F : List Int) : List Value := F.map (Value.int .u8)

def FrameIs (B : Nat) (w : World) (v : Value) (fr : List Int) : Prop :=
 ∃ a cap g s, v = .slice a fr.length cap ∧ fr.length ≤ cap ∧ (0 < fr.length → a = some ⟨g, s, none⟩ ∧ B ≤ g ∧ g < w.heap.size) ∧ (∀ i, i < fr.length → w.cell? ⟨g, s + i, none⟩ = some (.int .u8 (fr.getD i 0)) ∧ w.frozen? ⟨g, s + i, none⟩ = false)

theorem own_frame {w : World} {base g cap n : Nat} {F : List Int} (h : w.ownsRow base 5 1 (.slice (some ⟨g, 0, none⟩) n cap) n ([] ++ bytesV F)) (hn : n = F.length) :
  (∀ i, i < F.length → w.cell? ⟨g, i, none⟩ = some (.int .u8 (F.getD i 0))) ∧ (∀ i, w.frozen? ⟨g, i, none⟩ = false) ∧ n ≤ cap ∧ cap ≤ 9223372036854775807 ∧ base ≤ g := by
 refine ⟨fun i hi => ?_, fun i => h.frozenAt i, ?_⟩
 ·rw [h.cellAt i (by omega)]
  simp [bytesV, hi]
 ·obtain ⟨_, h | ⟨g', cap', cur, e1, e2, _, e3, e4, _⟩⟩ := h
  ·simp at h
  ·simp at e1
   unfold maxLen at e4
   omega

theorem wpList_append_by {P : Program} {ops : Array Oper} {rest : List Oper} {o : Oper} {a : Act} {w : World} {Q : Exit → Act → World → Prop} (hgd : o.guard = none) (s x : Operand) (t : TypeId)
  (ho : o.op = .call { callee := .builtin .append, args := #[s, x], argTypes := #[t, t] }) (v xv v' : Value) (w' : World) (hs : a.eval s = v) (hx : a.eval x = xv)
  (hr : Sem.run P (Builtin.append_ #[t, t] o.type #[v, xv]) w = .ok v' w') (h : wpList P ops Q rest (a.put o.dst v') w') : wpList P ops Q (o :: rest) a w :=
 wpList_plain hgd fun _ hK => by
  unfold Oper.wp execOp
  simp only [ho, resolve, invoke, builtin, Sem.run_bind, Sem.run_pure, Result.andThen_ok, List.map_toArray, List.map_cons, List.map_nil, hs, hx, hr]
  exact hK _ _ h
theorem size_nat (op : Int) (w : World) (h1 : 20 ≤ op) (h2 : op ≤ 27) :
  Calls Tryz.prog 52 #[.int .i64 op] w fun e w' => e = .returned (.int .i64 (((sizeR op).toNat : Nat) : Int)) ∧ Below w.heap.size w w' := by
 have e : (((sizeR op).toNat : Nat) : Int) = sizeR op := by
  unfold sizeR
  (repeat' split) <;> rfl
 rw [e]
 exact size_any op w h1 h2
theorem size_as (op : Int) (z : Nat) (hz : (sizeR op).toNat = z) (w : World) (h1 : 20 ≤ op) (h2 : op ≤ 27) :
  Calls Tryz.prog 52 #[.int .i64 op] w fun e w' => e = .returned (.int .i64 (z : Int)) ∧ Below w.heap.size w w' := by
 rw [← hz]; exact size_nat op w h1 h2
theorem sizeR_le (op : Int) : (sizeR op).toNat ≤ 8 := by
 unfold sizeR
 (repeat' split) <;> simp
theorem loadGo_regs (m : Mac) (pv : V) (off : Int) (k : Nat) : ∀ i n u : Int, (m.loadGo pv off k i n u).1.regs = m.regs := by
 induction k with
 | zero => intro i n u; rfl
 | succ k ih =>
  intro i n u
  unfold Mac.loadGo
  split
  ·exact ih _ _ _
  ·exact may_regs _ _
theorem load_regs (m : Mac) (pv : V) (off : Int) (sz : Nat) : (m.load pv off sz).1.regs = m.regs := loadGo_regs m pv off sz 0 0 1
theorem storeGo_regs (pv : V) (off : Int) (k : Nat) : ∀ (m : Mac) (i n : Int), (Mac.storeGo pv off k m i n).regs = m.regs := by
 induction k with
 | zero => intro m i n; rfl
 | succ k ih =>
  intro m i n
  unfold Mac.storeGo
  split
  ·exact may_regs _ _
  ·rw [ih]; exact (putByte_regs _ _ _ _).1
theorem store_regs (m : Mac) (pv v : V) (off : Int) (sz : Nat) : (m.store pv off sz v).regs = m.regs := by rw [Mac.store, storeGo_regs, may_regs]
theorem rstep_jump (m : Mac) (x : RI) (h : (stepR m x).2 = true) : 30 ≤ x.op ∧ x.op ≤ 36 := by
 unfold stepR at h
 by_cases c1 : x.op = 1
 ·rw [if_pos c1] at h; simp at h
 rw [if_neg c1] at h
 by_cases c2 : withinB x.op 2 11
 ·rw [if_pos c2] at h; simp at h
 rw [if_neg c2] at h
 by_cases c3 : withinB x.op 20 23
 ·rw [if_pos c3] at h; simp at h
 rw [if_neg c3] at h
 by_cases c4 : withinB x.op 24 27
 ·rw [if_pos c4] at h; simp at h
 rw [if_neg c4] at h
 by_cases c5 : x.op = 30
 ·omega
 rw [if_neg c5] at h
 by_cases c6 : withinB x.op 31 36
 ·simp [withinB] at c6; omega
 rw [if_neg c6] at h; simp at h
theorem mstart_ok (F : List Int) (h : F.length ≤ 64) : MacOk (start F) := by
 refine ⟨fun i _ => ?_, rfl, h⟩
 show vGood (if i = 1 then ⟨2, 0, 0⟩ else if i = 2 then ⟨2, 0, F.length⟩ else if i = 7 then ⟨3, 0, 0⟩ else vNone)
 repeat' split
 all_goals refine ⟨?_, ?_, ?_, ?_⟩ <;> simp [vNone] <;> omega
theorem app0 (fa : Option Addr) (fcap : Nat) (wx : World) : Sem.run Tryz.prog (Builtin.append_ #[22, 22] 22 #[.slice none 0 0, .slice fa 0 fcap]) wx = .ok (.slice none 0 0) wx := by
 cases fa <;> kernel_rfl

theorem rrun_any (L : Nat → RI) (n lb lcap : Nat) (fa : Option Addr) (fb fo flen fcap : Nat) (F : List Int) (w : World) (hL : CodeOk L n) (hLA : LAt w lb L n) (hF : F.length = flen) (h2 : flen ≤ 64) (hcap : flen ≤ fcap) (hfa : 1 ≤ flen → fa = some ⟨fb, fo, none⟩)
  (hc : ∀ i, i < flen → w.cell? ⟨fb, fo + i, none⟩ = some (.int .u8 (F.getD i 0))) :
  Calls Tryz.prog 19 #[.slice (some ⟨lb, 0, none⟩) n lcap, .slice fa flen fcap] w fun e w' => ∃ v, e = .returned (.tuple #[.bool (runGo L n (start F) 0).1, .int .i64 (runGo L n (start F) 0).2.1, v]) ∧ FrameIs w.heap.size w' v (runGo L n (start F) 0).2.2 ∧ Below w.heap.size w w' := by
 obtain ⟨i0, hi, hz0, hz1, hz2⟩ := info_parts Tryz.info5
 have HF := hideM hF
 have HC := hideM hc
 have HFA := hideM hfa
 have HL := hideM hL
 have HLA := hideM hLA
 have hlb := hLA.lt
 have hn1 := hL.pos
 have hn2 := hL.le
 clear hF hc hfa hL hLA
 go_enter Tryz.func19, Tryz.ntmps19
 go_upto_region 2 with fail
 have hW1 := mac_zero w
 have bel1 := below_alloc w (.cells zeros58 89)
 have f56 := mac_zero56 w
 unfold zeros58 at hW1 bel1 f56
 generalize w.alloc (Obj.cells #[Value.int .i64 0, Value.int .u64 0, Value.int .i64 0, Value.int .i64 0, Value.int .u64 0, Value.int .i64 0, Value.int .i64 0, Value.int .u64 0, Value.int .i64 0, Value.int .i64 0, Value.int .u64 0, Value.int .i64 0, Value.int .i64 0, Value.int .u64 0, Value.int .i64 0, Value.int .i64 0, Value.int .u64 0, Value.int .i64 0, Value.int .i64 0, Value.int .u64 0, Value.int .i64 0, Value.int .i64 0, Value.int .u64 0, Value.int .i64 0, Value.int .u8 0, Value.int .u8 0, Value.int .u8 0, Value.int .u8 0, Value.int .u8 0, Value.int .u8 0, Value.int .u8 0, Value.int .u8 0, Value.int .u8 0, Value.int .u8 0, Value.int .u8 0, Value.int .u8 0, Value.int .u8 0, Value.int .u8 0, Value.int .u8 0, Value.int .u8 0, Value.int .u8 0, Value.int .u8 0, Value.int .u8 0, Value.int .u8 0, Value.int .u8 0, Value.int .u8 0, Value.int .u8 0, Value.int .u8 0, Value.int .u8 0, Value.int .u8 0, Value.int .u8 0, Value.int .u8 0, Value.int .u8 0, Value.int .u8 0, Value.int .u8 0, Value.int .u8 0, Value.slice none 0 0, Value.bool false] 89) = W1 at hW1 bel1 f56 ⊢
 have z56 := hW1.fz 56
 have HW1 := hideM hW1
 have HB1 := hideM bel1
 clear hW1 bel1
 go_cut [] from 15 to 23 (fun wc => ∃ g cap, MacAt wc w.heap.size g 0 cap { zM with frame := F } ∧ Below w.heap.size w wc ∧ w.heap.size ≤ g)
 case first =>
  by_cases h0 : flen = 0
  ·subst h0
   go_wp2_with (at_builtin; refine wpList_append_by rfl _ _ 22 rfl (.slice none 0 0) (.slice fa 0 fcap) (.slice none 0 0) _ rfl rfl (app0 fa fcap _) ?_)
   go_meet
   case rel =>
    have hF0 : F = [] := List.length_eq_zero_iff.1 HF.out
    subst hF0
    have hm := HW1.out.setSlice f56 (by simp [zM]) 0 (by omega)
    exact ⟨w.heap.size, 0, by simpa [zM] using hm, HB1.out.setCell (by exact Nat.le_refl _) _, Nat.le_refl _⟩
  ·have hfl := HFA.out (by omega)
   subst hfl
   have hbl : fb < w.heap.size := lt_of_cell (by simpa using HC.out 0 (by omega))
   have hnews : ∀ (j : Nat) (u : Value), (bytesV F)[j]? = some u → W1.cell? ((⟨fb, fo, none⟩ : Addr).add j) = some u := by
    intro j u hu
    have hj : j < F.length := by
     rcases Nat.lt_or_ge j F.length with h | h
     ·exact h
     ·rw [List.getElem?_eq_none (by simpa [bytesV] using h)] at hu; simp at hu
    have hu' : u = .int .u8 (F.getD j 0) := by
     simp [bytesV, hj] at hu; simp [hj, hu]
    rw [hu']
    have hcj := HC.out j (by have := HF.out; omega)
    have hb := HB1.out.cell (p := ⟨fb, fo + j, none⟩) hbl
    by_cases e : j = 0
    ·subst e; simpa [Addr.add] using hb.trans hcj
    ·simpa [Addr.add, e] using hb.trans hcj
   go_wp2_with (at_builtin; refine wpList_append_lies _ rfl _ _ 22 rfl (w.heap.size + 1) 5 i0 _ 1 1 Tryz.underlying22 hi hz0 hz1 hz2 rfl (by omega) _ 0 [] rfl (World.ownsRow_nil _ _ _ _) ⟨fb, fo, none⟩ flen fcap (bytesV F) rfl ?c0 hnews ?c2 (by omega) ?c3 ?c4 ?c5 W1.heap.size rfl ?_)
   case c0 => simp [bytesV, HF.out]
   case c2 => intro u hu; simp [bytesV] at hu; obtain ⟨q, _, rfl⟩ := hu; rfl
   case c3 => unfold maxLen; omega
   case c4 => omega
   case c5 => exact HW1.out.lp
   intro g cap w2 hown hgrow hat hlt
   have ek := hgrow.block _ HW1.out.lp (by simp [Value.ownBlock])
   have hM2 : MacAt w2 w.heap.size w.heap.size 0 0 zM := HW1.out.same ek ek hgrow.size
   have k56 : w2.cell? ⟨w.heap.size, 56, none⟩ = some (.slice none 0 0) := by
    have e2 : w2.cell? ⟨w.heap.size, 56, none⟩ = W1.cell? ⟨w.heap.size, 56, none⟩ := by simp [World.cell?, ek]
    rw [e2]; exact f56
   have kz := hM2.fz 56
   have hB2 : Below w.heap.size w w2 := HB1.out.grown hgrow HB1.out.size (fun k hk => by simp [Value.ownBlock] at hk)
   have HO := hideM hown
   have HM2 := hideM hM2
   have HB2 := hideM hB2
   clear hown hgrow hM2 hnews f56 z56 hat ek hB2
   go_wp2
   go_meet
   case rel =>
    have hfl : flen = F.length := HF.out.symm
    subst hfl
    obtain ⟨q1, q2, q3, q4, q5⟩ := own_frame HO.out (by omega)
    have hm := HM2.out.newFrame (g := g) (cap := cap) (F := F) (by omega) hlt q1 q2 (by omega) q4
    exact ⟨g, cap, by simpa using hm, HB2.out.setCell (by exact Nat.le_refl _) _, by omega⟩
 case rest =>
  clear f56 z56 HW1 HB1 HC HFA
  obtain ⟨g, cap, hM, hB, hg⟩ := hcut
  have a0 := hM.k 1 (by omega)
  have a1 := hM.b 1 (by omega)
  have a2 := hM.pl 1 (by omega)
  have b0 := hM.k 2 (by omega)
  have b1 := hM.b 2 (by omega)
  have b2 := hM.pl 2 (by omega)
  have c0 := hM.k 7 (by omega)
  have c1 := hM.b 7 (by omega)
  have c2 := hM.pl 7 (by omega)
  have hz := hM.fz
  simp only [Nat.reduceMul, Nat.reduceAdd] at a0 a1 a2 b0 b1 b2 c0 c1 c2
  have HM := hideM hM
  have HB := hideM hB
  clear hM hB
  go_wp2
  have HS : Hid (MacAt (((((((((wc.setCell ⟨w.heap.size, 3, none⟩ (.int .i64 2)).setCell ⟨w.heap.size, 4, none⟩ (.int .u64 0)).setCell ⟨w.heap.size, 5, none⟩ (.int .i64 0)).setCell ⟨w.heap.size, 6, none⟩ (.int .i64 2)).setCell ⟨w.heap.size, 7, none⟩ (.int .u64 0)).setCell ⟨w.heap.size, 8, none⟩ (.int .i64 flen)).setCell ⟨w.heap.size, 21, none⟩ (.int .i64 3)).setCell ⟨w.heap.size, 22, none⟩ (.int .u64 0)).setCell ⟨w.heap.size, 23, none⟩ (.int .i64 0)) w.heap.size g 0 cap (start F)) := by
   have h1 := ((HM.out.setRegs 1 (by omega) ⟨2, 0, 0⟩).setRegs 2 (by omega) ⟨2, 0, flen⟩).setRegs 7 (by omega) ⟨3, 0, 0⟩
   have e : (((({ zM with frame := F } : Mac).setReg 1 ⟨2, 0, 0⟩).setReg 2 ⟨2, 0, flen⟩).setReg 7 ⟨3, 0, 0⟩) = start F := by
    unfold Mac.setReg start zM
    simp only [Mac.mk.injEq, and_self, and_true]
    funext i
    have := HF.out
    by_cases e7 : i = 7
    ·subst e7; simp
    ·by_cases e2 : i = 2
     ·subst e2; simp [this]
     ·by_cases e1 : i = 1
      ·subst e1; simp
      ·simp [e7, e2, e1]
   rw [e] at h1
   exact h1
  have HB2 : Hid (Below w.heap.size w (((((((((wc.setCell ⟨w.heap.size, 3, none⟩ (.int .i64 2)).setCell ⟨w.heap.size, 4, none⟩ (.int .u64 0)).setCell ⟨w.heap.size, 5, none⟩ (.int .i64 0)).setCell ⟨w.heap.size, 6, none⟩ (.int .i64 2)).setCell ⟨w.heap.size, 7, none⟩ (.int .u64 0)).setCell ⟨w.heap.size, 8, none⟩ (.int .i64 flen)).setCell ⟨w.heap.size, 21, none⟩ (.int .i64 3)).setCell ⟨w.heap.size, 22, none⟩ (.int .u64 0)).setCell ⟨w.heap.size, 23, none⟩ (.int .i64 0))) :=
   ((((((((HB.out.setCell (by exact Nat.le_refl _) _).setCell (by exact Nat.le_refl _) _).setCell (by exact Nat.le_refl _) _).setCell (by exact Nat.le_refl _) _).setCell (by exact Nat.le_refl _) _).setCell (by exact Nat.le_refl _) _).setCell (by exact Nat.le_refl _) _).setCell (by exact Nat.le_refl _) _).setCell (by exact Nat.le_refl _) _
  generalize (((((((((wc.setCell ⟨w.heap.size, 3, none⟩ (.int .i64 2)).setCell ⟨w.heap.size, 4, none⟩ (.int .u64 0)).setCell ⟨w.heap.size, 5, none⟩ (.int .i64 0)).setCell ⟨w.heap.size, 6, none⟩ (.int .i64 2)).setCell ⟨w.heap.size, 7, none⟩ (.int .u64 0)).setCell ⟨w.heap.size, 8, none⟩ (.int .i64 flen)).setCell ⟨w.heap.size, 21, none⟩ (.int .i64 3)).setCell ⟨w.heap.size, 22, none⟩ (.int .u64 0)).setCell ⟨w.heap.size, 23, none⟩ (.int .i64 0)) = W9 at HS HB2 ⊢
  clear a0 a1 a2 b0 b1 b2 c0 c1 c2 hz HM HB
  go_loopw [8] (fun i wr => ∃ (k : Nat) (m : Mac) (s cap f : Nat), k < n ∧ i = .int .i64 k ∧ Hid (MacOk m) ∧ Hid (n ≤ k + f ∧ runGo L f m k = runGo L n (start F) 0) ∧ Hid (MacAt wr w.heap.size g s cap m ∧ Below w.heap.size w wr)) (fun i _ => n - (intOf i).toNat)
  case atStart => exact ⟨0, start F, 0, cap, n, by omega, rfl, mstart_ok F (by have := HF.out; omega), ⟨by omega, rfl⟩, ⟨HS.out, HB2.out⟩⟩
  case round =>
   clear HS HB2
   obtain ⟨k, m, s, cap, f, hk, rfl, HOk, HR, HS⟩ := hrel
   have HFu : Hid (n ≤ k + f) := HR.out.1
   have hla := HLA.out.later HS.out.2 hlb
   have f0 := hla.op k hk
   have f1 := hla.imm k hk
   have f2 := hla.dst k hk
   have f3 := hla.src k hk
   have f4 := hla.off k hk
   have f5 := hla.num k hk
   have i1 : (k : Int) < (n : Int) := by omega
   have HX : Hid ((L k).dst < 8 ∧ (L k).src < 8 ∧ (-32768 ≤ (L k).off ∧ (L k).off ≤ 32767) ∧ ((1 ≤ (L k).op ∧ (L k).op ≤ 11) ∨ (20 ≤ (L k).op ∧ (L k).op ≤ 27) ∨ (30 ≤ (L k).op ∧ (L k).op ≤ 36) ∨ (L k).op = 40 ∨ (L k).op = 41) ∧ (30 ≤ (L k).op → (L k).op ≤ 36 → 0 ≤ (L k).off ∧ (k : Int) + 1 + (L k).off < n) ∧ ((L k).op = 40 → 1 ≤ (L k).num ∧ (L k).num ≤ 3) ∧ ((L k).op ≠ 41 → k + 1 < n)) :=
    ⟨HL.out.dst k hk, HL.out.src k hk, HL.out.off k hk, HL.out.ops k hk, HL.out.goes k hk, HL.out.calls k hk, HL.out.last k hk⟩
   have HGo : Hid (runGo L n (start F) 0 = if (L k).op = 41 then (if (m.may (((m.regs 0).kind == 1) && decide ((m.regs 0).bits ≤ 3))).fault then (true, 0, []) else (false, (m.regs 0).bits, m.frame))
     else if (stepR m (L k)).1.fault then (true, 0, []) else runGo L (f - 1) (stepR m (L k)).1 (if (stepR m (L k)).2 then k + 1 + (L k).off.toNat else k + 1)) := by
    have h := HR.out.2
    have hf := HFu.out
    rw [show f = (f - 1) + 1 from by omega] at h
    exact h.symm
   clear hla HR
   generalize hxk : L k = x at f0 f1 f2 f3 f4 f5 HX HGo
   have HXK := hideM hxk
   clear hxk
   obtain ⟨op, imm, dst, src, off, num⟩ := x
   simp only at f0 f1 f2 f3 f4 f5 HX HGo
   go_upto_block 2 with fail
   have x1 := Box6.made wr ⟨op, imm, dst, src, off, num⟩
   have bel1 := below_alloc wr (Obj.cells #[.int .i64 op, .bool imm, .int .i64 dst, .int .i64 src, .int .i64 off, .int .i64 num] 74)
   simp only at x1
   have M1 := HS.out.1.later bel1
   have lpr := HS.out.1.lp
   have lgr := HS.out.1.lg
   have t1 : Tch w.heap.size g wr _ := Tch.of_below bel1
   generalize hW1 : wr.alloc (Obj.cells #[.int .i64 op, .bool imm, .int .i64 dst, .int .i64 src, .int .i64 off, .int .i64 num] 74) = W1 at x1 bel1 M1 t1 ⊢
   have HX1 := hideM x1
   have HM1 := hideM M1
   have HT1 := hideM t1
   have hXl := x1.l
   clear x1 M1 t1 bel1 hW1 f0 f1 f2 f3 f4 f5
   obtain ⟨tk, htk⟩ : ∃ b : Bool, (stepR m ⟨op, imm, dst, src, off, num⟩).2 = b := ⟨_, rfl⟩
   have HTk := hideM htk
   clear htk
   obtain ⟨m2, hm2⟩ : ∃ b : Mac, (stepR m ⟨op, imm, dst, src, off, num⟩).1 = b := ⟨_, rfl⟩
   have HM2 := hideM hm2
   clear hm2
   go_cut [8] (fun s8 wd => s8 = .int .i64 (if tk then (k : Int) + off else k) ∧ Hid (¬ op = 41) ∧ ∃ s' cap', MacAt wd w.heap.size g s' cap' m2 ∧ Tch w.heap.size g wr wd)
   case first =>
    have x1 := HX1.out
    have f0 := x1.op
    have f1 := x1.imm
    have f2 := x1.dst
    have f3 := x1.src
    have f4 := x1.off
    have f5 := x1.num
    clear x1
    have hd := HX.out.1
    have hs := HX.out.2.1
    have i3 : (0 : Int) ≤ (dst : Int) := by omega
    have i4 : (dst : Int) < 8 := by omega
    have i5 : (0 : Int) ≤ (src : Int) := by omega
    have i6 : (src : Int) < 8 := by omega
    rcases HX.out.2.2.2.1 with hop | hop | hop | hop | hop
    ·by_cases ho : op = 1
     ·have e1 : (op == 1) = true := by simp; omega
      have hst : stepR m ⟨op, imm, dst, src, off, num⟩ = ((m.may ((m.second ⟨op, imm, dst, src, off, num⟩).kind != 0)).setReg dst (m.second ⟨op, imm, dst, src, off, num⟩), false) := by
       unfold stepR
       show (if op = 1 then _ else _) = _
       rw [if_pos (show op = 1 by omega)]
      have htk : tk = false := by rw [← HTk.out, hst]
      have hm2 : m2 = (m.may ((m.second ⟨op, imm, dst, src, off, num⟩).kind != 0)).setReg dst (m.second ⟨op, imm, dst, src, off, num⟩) := by rw [← HM2.out, hst]
      have Hm2 := hideM hm2
      have HOn : Hid (¬ op = 41) := by show ¬ op = 41; omega
      clear hst hm2
      subst htk
      clear ho
      go_wp2_with fail
      refine (second_any w.heap.size g s cap m ⟨op, imm, dst, src, off, num⟩ W1 HM1.out hs).mono ?_
      rintro e w2 ⟨rfl, bel2⟩
      generalize hvv : m.second ⟨op, imm, dst, src, off, num⟩ = v
      have HVv := hideM hvv
      clear hvv
      have M2 := HM1.out.later bel2
      have x2 := HX1.out.later bel2
      have s2 := bel2.size
      go_upto_region 16 with fail
      have v3 := Box3.made w2 v
      have bel3 := below_alloc w2 (Obj.cells #[.int .i64 v.kind, .int .u64 v.bits, .int .i64 v.place] 85)
      have M3 := M2.later bel3
      have x3 := x2.later bel3
      have t3 : Tch w.heap.size g wr _ := (HT1.out.trans (Tch.of_below bel2)).trans (Tch.of_below bel3)
      generalize w2.alloc (Obj.cells #[.int .i64 v.kind, .int .u64 v.bits, .int .i64 v.place] 85) = W3 at v3 bel3 M3 x3 t3 ⊢
      have hq : wr.heap.size < w2.heap.size := by omega
      generalize w2.heap.size = B2 at v3 hq ⊢
      have fv := v3.ck
      have HM3 := hideM M3
      have HX3 := hideM x3
      have HV3 := hideM v3
      have HT3 := hideM t3
      clear M2 x2 s2 bel2 bel3 M3 x3 v3 t3 f0 f1 f2 f3 f4 f5
      go_wp2_with fail
      refine (may_any w.heap.size g s cap m _ W3 HM3.out).mono ?_
      rintro e w4 ⟨rfl, hM4, ht4⟩
      have x4 := HX3.out.tch ht4 (by omega) (by omega)
      have v4 := HV3.out.tch ht4 (by omega) (by omega)
      have T4 := HT3.out.trans ht4
      have g2 := x4.dst
      have v40 := v4.ck
      have v41 := v4.cb
      have v42 := v4.cp
      have r0 := hM4.k dst hd
      have r1 := hM4.b dst hd
      have r2 := hM4.pl dst hd
      have z0 := hM4.fz (dst * 3)
      have z1 := hM4.fz (dst * 3 + 1)
      have z2 := hM4.fz (dst * 3 + 2)
      have n1 : ¬ wr.heap.size = w.heap.size := by omega
      have n3 : ¬ w.heap.size = wr.heap.size := by omega
      have n2 : ¬ B2 = w.heap.size := by omega
      have n4 : ¬ w.heap.size = B2 := by omega
      have HM4 := hideM hM4
      have HT4 := hideM T4
      clear hM4 ht4 x4 v4 T4 fv
      go_wp2
      go_region_held3 (fun w' => w'.cell? ⟨wr.heap.size, 2, none⟩ = some (.int .i64 dst) ∧ w'.cell? ⟨B2, 0, none⟩ = some (.int .i64 v.kind) ∧ w'.cell? ⟨B2, 1, none⟩ = some (.int .u64 v.bits) ∧ w'.cell? ⟨B2, 2, none⟩ = some (.int .i64 v.place)) (go_keep) (fail)
      all_goals go_wp2
      go_meet
      case rel => exact ⟨rfl, HOn.out, s, cap, by rw [Hm2.out, HVv.out]; exact (HM4.out.setRegs dst hd v).drew, (((HT4.out.setP _ _).setP _ _).setP _ _).drew⟩
     ·have e1 : (op == 1) = false := by simp; omega
      have e2 : withinB op 2 11 = true := by simp [withinB]; omega
      have hst : stepR m ⟨op, imm, dst, src, off, num⟩ = ((m.work ⟨op, imm, dst, src, off, num⟩).1.setReg dst (m.work ⟨op, imm, dst, src, off, num⟩).2, false) := by
       unfold stepR
       show (if op = 1 then _ else _) = _
       rw [if_neg (show ¬ op = 1 by omega)]
       rw [if_pos e2]
      have htk : tk = false := by rw [← HTk.out, hst]
      have hm2 : m2 = (m.work ⟨op, imm, dst, src, off, num⟩).1.setReg dst (m.work ⟨op, imm, dst, src, off, num⟩).2 := by rw [← HM2.out, hst]
      have Hm2 := hideM hm2
      have HOn : Hid (¬ op = 41) := by show ¬ op = 41; omega
      clear hst hm2
      subst htk
      have n1 : ¬ wr.heap.size = w.heap.size := by omega
      have n3 : ¬ w.heap.size = wr.heap.size := by omega
      have hvv : ∀ i, i < 8 → vOk (m.regs i) := fun i hi => (HOk.out.1 i hi).ok
      have HVv := hideM hvv
      clear hvv
      go_upto_region 19 with (go_at_call 40; refine (within_keep _ _ _ _).mono ?_; rintro e w' ⟨rfl, rfl⟩)
      go_region_held3 (fun w' => w'.cell? ⟨wr.heap.size, 0, none⟩ = some (.int .i64 op) ∧ w'.cell? ⟨wr.heap.size, 1, none⟩ = some (.bool imm) ∧ w'.cell? ⟨wr.heap.size, 2, none⟩ = some (.int .i64 dst) ∧ w'.cell? ⟨wr.heap.size, 3, none⟩ = some (.int .i64 src) ∧ w'.cell? ⟨wr.heap.size, 4, none⟩ = some (.int .i64 off) ∧ w'.cell? ⟨wr.heap.size, 5, none⟩ = some (.int .i64 num)) (go_keep) ((go_at_call 50; refine (work_any w.heap.size g s cap m ⟨op, imm, dst, src, off, num⟩ _ HM1.out.drew hd hs (by show 2 ≤ op; omega) (by show op ≤ 11; omega) HVv.out).mono ?_; rintro e w4 ⟨rfl, hM4, ht4⟩; have x4 := (HX1.out.later (Below.refl _ _).drew).tch ht4 (by omega) (by omega); have g0 := x4.op; have g1 := x4.imm; have g2 := x4.dst; have g3 := x4.src; have g4 := x4.off; have g5 := x4.num; have r0 := hM4.k dst hd; have r1 := hM4.b dst hd; have r2 := hM4.pl dst hd; have z0 := hM4.fz (dst * 3); have z1 := hM4.fz (dst * 3 + 1); have z2 := hM4.fz (dst * 3 + 2); have HM4 := hideM hM4; have HT4 := hideM (HT1.out.drew.trans ht4); clear hM4 ht4 x4))
      all_goals go_wp2
      go_meet
      case rel => exact ⟨rfl, HOn.out, s, cap, by rw [Hm2.out]; exact HM4.out.setRegs dst hd _, ((HT4.out.setP _ _).setP _ _).setP _ _⟩
    ·by_cases ho : op ≤ 23
     ·have e1 : (op == 1) = false := by simp; omega
      have e2 : withinB op 2 11 = false := by simp [withinB]; omega
      have e3 : withinB op 20 23 = true := by simp [withinB]; omega
      have hst : stepR m ⟨op, imm, dst, src, off, num⟩ = ((m.load (m.regs src) off (sizeR op).toNat).1.setReg dst (m.load (m.regs src) off (sizeR op).toNat).2, false) := by
       unfold stepR
       show (if op = 1 then _ else _) = _
       rw [if_neg (show ¬ op = 1 by omega)]
       rw [if_neg (by rw [e2]; simp)]
       rw [if_pos e3]
      have htk : tk = false := by rw [← HTk.out, hst]
      have hm2 : m2 = (m.load (m.regs src) off (sizeR op).toNat).1.setReg dst (m.load (m.regs src) off (sizeR op).toNat).2 := by rw [← HM2.out, hst]
      have Hm2 := hideM hm2
      have HOn : Hid (¬ op = 41) := by show ¬ op = 41; omega
      clear hst hm2
      subst htk
      have n1 : ¬ wr.heap.size = w.heap.size := by omega
      have n3 : ¬ w.heap.size = wr.heap.size := by omega
      by_cases hds : dst = src
      ·obtain ⟨z, hzz⟩ : ∃ z : Nat, (sizeR op).toNat = z := ⟨_, rfl⟩
       have HZz := hideM hzz
       have hz8 : z ≤ 8 := by rw [← hzz]; exact sizeR_le op
       clear hzz
       have HVv : Hid (vOk (m.regs src)) := (HOk.out.1 src hs).ok
       have HOf : Hid (-40000 ≤ off ∧ off ≤ 40000) := by have h := HX.out.2.2.1; exact ⟨by omega, by omega⟩
       go_upto_region 21 with (go_at_call 40; refine (within_keep _ _ _ _).mono ?_; rintro e w' ⟨rfl, rfl⟩)
       have q0 := HM1.out.drew.k src hs
       have q1 := HM1.out.drew.b src hs
       have q2 := HM1.out.drew.pl src hs
       subst hds
       refine wp_region_noPanic ?_
       refine wp_region_held_drew (S := fun w' => w'.cell? ⟨wr.heap.size, 0, none⟩ = some (.int .i64 op) ∧ w'.cell? ⟨wr.heap.size, 1, none⟩ = some (.bool imm) ∧ w'.cell? ⟨wr.heap.size, 2, none⟩ = some (.int .i64 dst) ∧ w'.cell? ⟨wr.heap.size, 3, none⟩ = some (.int .i64 dst) ∧ w'.cell? ⟨wr.heap.size, 4, none⟩ = some (.int .i64 off) ∧ w'.cell? ⟨wr.heap.size, 5, none⟩ = some (.int .i64 num)) (by kernel_rfl) ?_ (fun hHeld => ?_)
       ·(try dsimp only); go_keep
       refine tkH 0 ?_
       try simp only [Act.put]
       refine tkH 1 ?_
       try simp only [Act.put]
       refine tkH 2 ?_
       try simp only [Act.put]
       refine tkH 3 ?_
       try simp only [Act.put]
       refine tkH 4 ?_
       try simp only [Act.put]
       refine tkH 5 ?_
       try simp only [Act.put]
       refine tkH 6 ?_
       try simp only [Act.put]
       refine tkH 7 ?_
       try simp only [Act.put]
       refine tkH 8 ?_
       try simp only [Act.put]
       refine tkH 9 ?_
       try simp only [Act.put]
       refine tkH 11 ?_
       try simp only [Act.put]
       refine tkH 12 ?_
       try simp only [Act.put]
       refine tkH 13 ?_
       try simp only [Act.put]
       refine tkH 14 ?_
       try simp only [Act.put]
       refine tkH 17 ?_
       try simp only [Act.put]
       refine tkH 18 ?_
       try simp only [Act.put]
       refine wpAnyH_ready (rs := [10, 15]) (by kernel_rfl) (by simp) ?_
       refine AllReadyH.cons rfl (fun K hK => ?_) ?_
       ·go_simp
        refine hK.out _ _ ?_ (fun hHeld => ?_)
        ·(try dsimp only); go_keep
        clear hK K
        try simp only [Act.put]
        refine rdH 15 (fun K hK => ?_)
        go_simp
        refine (size_as op z HZz.out _ (by omega) (by omega)).mono ?_
        rintro e wA ⟨rfl, belA⟩
        have MA := HM1.out.drew.later belA
        have xA := (HX1.out.later (Below.refl _ _).drew).later belA
        have ga0 := xA.op
        have ga1 := xA.imm
        have ga2 := xA.dst
        have ga3 := xA.src
        have ga4 := xA.off
        have ga5 := xA.num
        have qa0 := MA.k dst hs
        have qa1 := MA.b dst hs
        have qa2 := MA.pl dst hs
        have HMA := hideM MA
        have HXA := hideM xA
        have HTA := hideM (HT1.out.drew.trans (Tch.of_below belA))
        clear MA xA belA
        go_wp2_with fail
        refine hK.out _ _ ?_ (fun hHeld => ?_)
        ·(try dsimp only); go_keep
        clear hK K
        try simp only [Act.put]
        refine rdH 16 (fun K hK => ?_)
        go_simp
        refine (mload_any w.heap.size g s cap m (m.regs dst) off z _ HMA.out HVv.out HOf.out.1 HOf.out.2 hz8).mono ?_
        rintro e w4 ⟨rfl, hM4, ht4⟩
        have x4 := HXA.out.tch ht4 (by omega) (by omega)
        have g0 := x4.op
        have g1 := x4.imm
        have g2 := x4.dst
        have g3 := x4.src
        have g4 := x4.off
        have g5 := x4.num
        have r0 := hM4.k dst hd
        have r1 := hM4.b dst hd
        have r2 := hM4.pl dst hd
        have z0 := hM4.fz (dst * 3)
        have z1 := hM4.fz (dst * 3 + 1)
        have z2 := hM4.fz (dst * 3 + 2)
        have HM4 := hideM hM4
        have HT4 := hideM (HTA.out.trans ht4)
        clear hM4 ht4 x4
        go_wp2_with fail
        refine hK.out _ _ ?_ (fun hHeld => ?_)
        ·(try dsimp only); go_keep
        clear hK K
        try simp only [Act.put]
        refine rdH 19 (fun K hK => ?_)
        go_simp
        refine hK.out _ _ ?_ (fun hHeld => ?_)
        ·(try dsimp only); go_keep
        clear hK K
        try simp only [Act.put]
        refine rdH 20 (fun K hK => ?_)
        go_simp
        refine hK.out _ _ ?_ (fun hHeld => ?_)
        ·(try dsimp only); go_keep
        clear hK K
        try simp only [Act.put]
        refine wpAnyH_done (by kernel_rfl) ?_ _
        refine NoPanic.normal ?_
        all_goals go_wp2
        go_meet
        case rel => exact ⟨rfl, HOn.out, s, cap, by rw [Hm2.out, HZz.out]; exact HM4.out.setRegs dst hd _, ((HT4.out.setP _ _).setP _ _).setP _ _⟩
       refine AllReadyH.cons rfl (fun K hK => ?_) AllReadyH.nil
       ·go_simp
        refine (size_as op z HZz.out _ (by omega) (by omega)).mono ?_
        rintro e wA ⟨rfl, belA⟩
        have MA := HM1.out.drew.later belA
        have xA := (HX1.out.later (Below.refl _ _).drew).later belA
        have ga0 := xA.op
        have ga1 := xA.imm
        have ga2 := xA.dst
        have ga3 := xA.src
        have ga4 := xA.off
        have ga5 := xA.num
        have qa0 := MA.k dst hs
        have qa1 := MA.b dst hs
        have qa2 := MA.pl dst hs
        have HMA := hideM MA
        have HXA := hideM xA
        have HTA := hideM (HT1.out.drew.trans (Tch.of_below belA))
        clear MA xA belA
        go_wp2_with fail
        refine hK.out _ _ ?_ (fun hHeld => ?_)
        ·(try dsimp only); go_keep
        clear hK K
        try simp only [Act.put]
        refine rdH 10 (fun K hK => ?_)
        go_simp
        refine hK.out _ _ ?_ (fun hHeld => ?_)
        ·(try dsimp only); go_keep
        clear hK K
        try simp only [Act.put]
        refine rdH 16 (fun K hK => ?_)
        go_simp
        refine (mload_any w.heap.size g s cap m (m.regs dst) off z _ HMA.out HVv.out HOf.out.1 HOf.out.2 hz8).mono ?_
        rintro e w4 ⟨rfl, hM4, ht4⟩
        have x4 := HXA.out.tch ht4 (by omega) (by omega)
        have g0 := x4.op
        have g1 := x4.imm
        have g2 := x4.dst
        have g3 := x4.src
        have g4 := x4.off
        have g5 := x4.num
        have r0 := hM4.k dst hd
        have r1 := hM4.b dst hd
        have r2 := hM4.pl dst hd
        have z0 := hM4.fz (dst * 3)
        have z1 := hM4.fz (dst * 3 + 1)
        have z2 := hM4.fz (dst * 3 + 2)
        have HM4 := hideM hM4
        have HT4 := hideM (HTA.out.trans ht4)
        clear hM4 ht4 x4
        go_wp2_with fail
        refine hK.out _ _ ?_ (fun hHeld => ?_)
        ·(try dsimp only); go_keep
        clear hK K
        try simp only [Act.put]
        refine rdH 19 (fun K hK => ?_)
        go_simp
        refine hK.out _ _ ?_ (fun hHeld => ?_)
        ·(try dsimp only); go_keep
        clear hK K
        try simp only [Act.put]
        refine rdH 20 (fun K hK => ?_)
        go_simp
        refine hK.out _ _ ?_ (fun hHeld => ?_)
        ·(try dsimp only); go_keep
        clear hK K
        try simp only [Act.put]
        refine wpAnyH_done (by kernel_rfl) ?_ _
        refine NoPanic.normal ?_
        all_goals go_wp2
        go_meet
        case rel => exact ⟨rfl, HOn.out, s, cap, by rw [Hm2.out, HZz.out]; exact HM4.out.setRegs dst hd _, ((HT4.out.setP _ _).setP _ _).setP _ _⟩
      ·obtain ⟨z, hzz⟩ : ∃ z : Nat, (sizeR op).toNat = z := ⟨_, rfl⟩
       have HZz := hideM hzz
       have hz8 : z ≤ 8 := by rw [← hzz]; exact sizeR_le op
       clear hzz
       have HVv : Hid (vOk (m.regs src)) := (HOk.out.1 src hs).ok
       have HOf : Hid (-40000 ≤ off ∧ off ≤ 40000) := by have h := HX.out.2.2.1; exact ⟨by omega, by omega⟩
       go_upto_region 21 with (go_at_call 40; refine (within_keep _ _ _ _).mono ?_; rintro e w' ⟨rfl, rfl⟩)
       have q0 := HM1.out.drew.k src hs
       have q1 := HM1.out.drew.b src hs
       have q2 := HM1.out.drew.pl src hs
       have t00 : ∀ (wx : World) (u : Value), (wx.setCell ⟨w.heap.size, dst * 3, none⟩ u).cell? ⟨w.heap.size, src * 3, none⟩ = wx.cell? ⟨w.heap.size, src * 3, none⟩ := fun wx u => cell_set_off (by omega)
       have t01 : ∀ (wx : World) (u : Value), (wx.setCell ⟨w.heap.size, dst * 3, none⟩ u).cell? ⟨w.heap.size, src * 3 + 1, none⟩ = wx.cell? ⟨w.heap.size, src * 3 + 1, none⟩ := fun wx u => cell_set_off (by omega)
       have t02 : ∀ (wx : World) (u : Value), (wx.setCell ⟨w.heap.size, dst * 3, none⟩ u).cell? ⟨w.heap.size, src * 3 + 2, none⟩ = wx.cell? ⟨w.heap.size, src * 3 + 2, none⟩ := fun wx u => cell_set_off (by omega)
       have t10 : ∀ (wx : World) (u : Value), (wx.setCell ⟨w.heap.size, dst * 3 + 1, none⟩ u).cell? ⟨w.heap.size, src * 3, none⟩ = wx.cell? ⟨w.heap.size, src * 3, none⟩ := fun wx u => cell_set_off (by omega)
       have t11 : ∀ (wx : World) (u : Value), (wx.setCell ⟨w.heap.size, dst * 3 + 1, none⟩ u).cell? ⟨w.heap.size, src * 3 + 1, none⟩ = wx.cell? ⟨w.heap.size, src * 3 + 1, none⟩ := fun wx u => cell_set_off (by omega)
       have t12 : ∀ (wx : World) (u : Value), (wx.setCell ⟨w.heap.size, dst * 3 + 1, none⟩ u).cell? ⟨w.heap.size, src * 3 + 2, none⟩ = wx.cell? ⟨w.heap.size, src * 3 + 2, none⟩ := fun wx u => cell_set_off (by omega)
       have t20 : ∀ (wx : World) (u : Value), (wx.setCell ⟨w.heap.size, dst * 3 + 2, none⟩ u).cell? ⟨w.heap.size, src * 3, none⟩ = wx.cell? ⟨w.heap.size, src * 3, none⟩ := fun wx u => cell_set_off (by omega)
       have t21 : ∀ (wx : World) (u : Value), (wx.setCell ⟨w.heap.size, dst * 3 + 2, none⟩ u).cell? ⟨w.heap.size, src * 3 + 1, none⟩ = wx.cell? ⟨w.heap.size, src * 3 + 1, none⟩ := fun wx u => cell_set_off (by omega)
       have t22 : ∀ (wx : World) (u : Value), (wx.setCell ⟨w.heap.size, dst * 3 + 2, none⟩ u).cell? ⟨w.heap.size, src * 3 + 2, none⟩ = wx.cell? ⟨w.heap.size, src * 3 + 2, none⟩ := fun wx u => cell_set_off (by omega)
       clear hds
       go_region_held3 (fun w' => (w'.cell? ⟨wr.heap.size, 0, none⟩ = some (.int .i64 op) ∧ w'.cell? ⟨wr.heap.size, 1, none⟩ = some (.bool imm) ∧ w'.cell? ⟨wr.heap.size, 2, none⟩ = some (.int .i64 dst) ∧ w'.cell? ⟨wr.heap.size, 3, none⟩ = some (.int .i64 src) ∧ w'.cell? ⟨wr.heap.size, 4, none⟩ = some (.int .i64 off) ∧ w'.cell? ⟨wr.heap.size, 5, none⟩ = some (.int .i64 num)) ∧ w'.cell? ⟨w.heap.size, src * 3, none⟩ = some (.int .i64 (m.regs src).kind) ∧ w'.cell? ⟨w.heap.size, src * 3 + 1, none⟩ = some (.int .u64 (m.regs src).bits) ∧ w'.cell? ⟨w.heap.size, src * 3 + 2, none⟩ = some (.int .i64 (m.regs src).place)) (go_keep) (first | (go_at_call 52; refine (size_as op z HZz.out _ (by omega) (by omega)).mono ?_; rintro e wA ⟨rfl, belA⟩; have MA := HM1.out.drew.later belA; have xA := (HX1.out.later (Below.refl _ _).drew).later belA; have ga0 := xA.op; have ga1 := xA.imm; have ga2 := xA.dst; have ga3 := xA.src; have ga4 := xA.off; have ga5 := xA.num; have qa0 := MA.k src hs; have qa1 := MA.b src hs; have qa2 := MA.pl src hs; have HMA := hideM MA; have HXA := hideM xA; have HTA := hideM (HT1.out.drew.trans (Tch.of_below belA)); clear MA xA belA) | (go_at_call 51; refine (mload_any w.heap.size g s cap m (m.regs src) off z _ HMA.out HVv.out HOf.out.1 HOf.out.2 hz8).mono ?_; rintro e w4 ⟨rfl, hM4, ht4⟩; have x4 := HXA.out.tch ht4 (by omega) (by omega); have g0 := x4.op; have g1 := x4.imm; have g2 := x4.dst; have g3 := x4.src; have g4 := x4.off; have g5 := x4.num; have r0 := hM4.k dst hd; have r1 := hM4.b dst hd; have r2 := hM4.pl dst hd; have z0 := hM4.fz (dst * 3); have z1 := hM4.fz (dst * 3 + 1); have z2 := hM4.fz (dst * 3 + 2); have qb0 := hM4.k src hs; have qb1 := hM4.b src hs; have qb2 := hM4.pl src hs; rw [load_regs] at qb0 qb1 qb2; have HM4 := hideM hM4; have HT4 := hideM (HTA.out.trans ht4); clear hM4 ht4 x4))
       all_goals go_wp2
       go_meet
       case rel => exact ⟨rfl, HOn.out, s, cap, by rw [Hm2.out, HZz.out]; exact HM4.out.setRegs dst hd _, ((HT4.out.setP _ _).setP _ _).setP _ _⟩
     ·have e1 : (op == 1) = false := by simp; omega
      have e2 : withinB op 2 11 = false := by simp [withinB]; omega
      have e3 : withinB op 20 23 = false := by simp [withinB]; omega
      have e4 : withinB op 24 27 = true := by simp [withinB]; omega
      have hst : stepR m ⟨op, imm, dst, src, off, num⟩ = (m.store (m.regs dst) off (sizeR op).toNat (m.regs src), false) := by
       unfold stepR
       show (if op = 1 then _ else _) = _
       rw [if_neg (show ¬ op = 1 by omega)]
       rw [if_neg (by rw [e2]; simp)]
       rw [if_neg (by rw [e3]; simp)]
       rw [if_pos e4]
      have htk : tk = false := by rw [← HTk.out, hst]
      have hm2 : m2 = m.store (m.regs dst) off (sizeR op).toNat (m.regs src) := by rw [← HM2.out, hst]
      have Hm2 := hideM hm2
      have HOn : Hid (¬ op = 41) := by show ¬ op = 41; omega
      clear hst hm2
      subst htk
      have n1 : ¬ wr.heap.size = w.heap.size := by omega
      have n3 : ¬ w.heap.size = wr.heap.size := by omega
      obtain ⟨z, hzz⟩ : ∃ z : Nat, (sizeR op).toNat = z := ⟨_, rfl⟩
      have HZz := hideM hzz
      have hz8 : z ≤ 8 := by rw [← hzz]; exact sizeR_le op
      clear hzz
      have HVv : Hid (vOk (m.regs src)) := (HOk.out.1 src hs).ok
      have HVd : Hid (vOk (m.regs dst)) := (HOk.out.1 dst hd).ok
      have HOf : Hid (-40000 ≤ off ∧ off ≤ 40000) := by have h := HX.out.2.2.1; exact ⟨by omega, by omega⟩
      go_upto_region 23 with (go_at_call 40; refine (within_keep _ _ _ _).mono ?_; rintro e w' ⟨rfl, rfl⟩)
      have q0 := HM1.out.drew.k src hs
      have q1 := HM1.out.drew.b src hs
      have q2 := HM1.out.drew.pl src hs
      have u0 := HM1.out.drew.k dst hd
      have u1 := HM1.out.drew.b dst hd
      have u2 := HM1.out.drew.pl dst hd
      go_region_held3 (fun w' => (w'.cell? ⟨wr.heap.size, 0, none⟩ = some (.int .i64 op) ∧ w'.cell? ⟨wr.heap.size, 1, none⟩ = some (.bool imm) ∧ w'.cell? ⟨wr.heap.size, 2, none⟩ = some (.int .i64 dst) ∧ w'.cell? ⟨wr.heap.size, 3, none⟩ = some (.int .i64 src) ∧ w'.cell? ⟨wr.heap.size, 4, none⟩ = some (.int .i64 off) ∧ w'.cell? ⟨wr.heap.size, 5, none⟩ = some (.int .i64 num)) ∧ (w'.cell? ⟨w.heap.size, src * 3, none⟩ = some (.int .i64 (m.regs src).kind) ∧ w'.cell? ⟨w.heap.size, src * 3 + 1, none⟩ = some (.int .u64 (m.regs src).bits) ∧ w'.cell? ⟨w.heap.size, src * 3 + 2, none⟩ = some (.int .i64 (m.regs src).place)) ∧ w'.cell? ⟨w.heap.size, dst * 3, none⟩ = some (.int .i64 (m.regs dst).kind) ∧ w'.cell? ⟨w.heap.size, dst * 3 + 1, none⟩ = some (.int .u64 (m.regs dst).bits) ∧ w'.cell? ⟨w.heap.size, dst * 3 + 2, none⟩ = some (.int .i64 (m.regs dst).place)) (go_keep) (first | (go_at_call 52; refine (size_as op z HZz.out _ (by omega) (by omega)).mono ?_; rintro e wA ⟨rfl, belA⟩; have MA := HM1.out.drew.later belA; have xA := (HX1.out.later (Below.refl _ _).drew).later belA; have ga0 := xA.op; have ga1 := xA.imm; have ga2 := xA.dst; have ga3 := xA.src; have ga4 := xA.off; have ga5 := xA.num; have qa0 := MA.k src hs; have qa1 := MA.b src hs; have qa2 := MA.pl src hs; have ua0 := MA.k dst hd; have ua1 := MA.b dst hd; have ua2 := MA.pl dst hd; have HMA := hideM MA; have HXA := hideM xA; have HTA := hideM (HT1.out.drew.trans (Tch.of_below belA)); clear MA xA belA) | (go_at_call 53; refine (mstore_any w.heap.size g s cap m (m.regs dst) (m.regs src) off z _ HMA.out HVd.out HVv.out HOf.out.1 HOf.out.2 hz8).mono ?_; rintro e w4 ⟨rfl, hM4, ht4⟩; have x4 := HXA.out.tch ht4 (by omega) (by omega); have g0 := x4.op; have g1 := x4.imm; have g2 := x4.dst; have g3 := x4.src; have g4 := x4.off; have g5 := x4.num; have qb0 := hM4.k src hs; have qb1 := hM4.b src hs; have qb2 := hM4.pl src hs; rw [store_regs] at qb0 qb1 qb2; have ub0 := hM4.k dst hd; have ub1 := hM4.b dst hd; have ub2 := hM4.pl dst hd; rw [store_regs] at ub0 ub1 ub2; have HM4 := hideM hM4; have HT4 := hideM (HTA.out.trans ht4); clear hM4 ht4 x4))
      all_goals go_wp2
      go_meet
      case rel => exact ⟨rfl, HOn.out, s, cap, by rw [Hm2.out, HZz.out]; exact HM4.out, HT4.out⟩
    ·by_cases ho : op = 30
     ·have e1 : (op == 1) = false := by simp; omega
      have e2 : withinB op 2 11 = false := by simp [withinB]; omega
      have e3 : withinB op 20 23 = false := by simp [withinB]; omega
      have e4 : withinB op 24 27 = false := by simp [withinB]; omega
      have e5 : (op == 30) = true := by simp; omega
      have hst : stepR m ⟨op, imm, dst, src, off, num⟩ = (m, true) := by
       unfold stepR
       show (if op = 1 then _ else _) = _
       rw [if_neg (show ¬ op = 1 by omega)]
       rw [if_neg (by rw [e2]; simp)]
       rw [if_neg (by rw [e3]; simp)]
       rw [if_neg (by rw [e4]; simp)]
       rw [if_pos (show op = 30 by omega)]
      have htk : tk = true := by rw [← HTk.out, hst]
      have hm2 : m2 = m := by rw [← HM2.out, hst]
      have Hm2 := hideM hm2
      have HOn : Hid (¬ op = 41) := by show ¬ op = 41; omega
      clear hst hm2
      subst htk
      have hgo := HX.out.2.2.2.2.1 (by omega) (by omega)
      have hko : (k : Int) + off ≤ 64 := by omega
      have hof : 0 ≤ off := by omega
      clear ho
      go_wp2_with (go_at_call 40; refine (within_keep _ _ _ _).mono ?_; rintro e w' ⟨rfl, rfl⟩)
      go_meet
      case rel => exact ⟨rfl, HOn.out, s, cap, by rw [Hm2.out]; exact HM1.out, HT1.out⟩
     ·have e1 : (op == 1) = false := by simp; omega
      have e2 : withinB op 2 11 = false := by simp [withinB]; omega
      have e3 : withinB op 20 23 = false := by simp [withinB]; omega
      have e4 : withinB op 24 27 = false := by simp [withinB]; omega
      have e5 : (op == 30) = false := by simp; omega
      have e6 : withinB op 31 36 = true := by simp [withinB]; omega
      have hst : stepR m ⟨op, imm, dst, src, off, num⟩ = ((m.compares ⟨op, imm, dst, src, off, num⟩).1, (m.compares ⟨op, imm, dst, src, off, num⟩).2) := by
       unfold stepR
       show (if op = 1 then _ else _) = _
       rw [if_neg (show ¬ op = 1 by omega)]
       rw [if_neg (by rw [e2]; simp)]
       rw [if_neg (by rw [e3]; simp)]
       rw [if_neg (by rw [e4]; simp)]
       rw [if_neg (show ¬ op = 30 by omega)]
       rw [if_pos e6]
      have htk : tk = (m.compares ⟨op, imm, dst, src, off, num⟩).2 := by rw [← HTk.out, hst]
      have hm2 : m2 = (m.compares ⟨op, imm, dst, src, off, num⟩).1 := by rw [← HM2.out, hst]
      have Hm2 := hideM hm2
      have HOn : Hid (¬ op = 41) := by show ¬ op = 41; omega
      clear hst hm2
      have hgo := HX.out.2.2.2.2.1 (by omega) (by omega)
      have hko : (k : Int) + off ≤ 64 := by omega
      have hof : 0 ≤ off := by omega
      have HTT := hideM htk
      clear htk
      go_upto_region 27 with (go_at_call 40; refine (within_keep _ _ _ _).mono ?_; rintro e w' ⟨rfl, rfl⟩)
      go_wp2_with fail
      refine (compares_any w.heap.size g s cap m ⟨op, imm, dst, src, off, num⟩ W1 HM1.out hd hs (by show 31 ≤ op; omega) (by show op ≤ 36; omega)).mono ?_
      rintro e w4 ⟨rfl, hM4, ht4⟩
      have x4 := HX1.out.tch ht4 (by omega) (by omega)
      have g4 := x4.off
      have HM4 := hideM hM4
      have HT4 := hideM (HT1.out.trans ht4)
      clear hM4 ht4 x4 f0 f1 f2 f3 f4 f5
      rw [← HTT.out]
      clear HTT
      cases tk
      all_goals
       go_wp2
       go_meet
       case rel => exact ⟨rfl, HOn.out, s, cap, by rw [Hm2.out]; exact HM4.out, HT4.out⟩
    ·have e1 : (op == 1) = false := by simp; omega
     have e2 : withinB op 2 11 = false := by simp [withinB]; omega
     have e3 : withinB op 20 23 = false := by simp [withinB]; omega
     have e4 : withinB op 24 27 = false := by simp [withinB]; omega
     have e5 : (op == 30) = false := by simp; omega
     have e6 : withinB op 31 36 = false := by simp [withinB]; omega
     have e7 : (op == 40) = true := by simp; omega
     have hst : stepR m ⟨op, imm, dst, src, off, num⟩ = (m.call num, false) := by
      unfold stepR
      show (if op = 1 then _ else _) = _
      rw [if_neg (show ¬ op = 1 by omega)]
      rw [if_neg (by rw [e2]; simp)]
      rw [if_neg (by rw [e3]; simp)]
      rw [if_neg (by rw [e4]; simp)]
      rw [if_neg (show ¬ op = 30 by omega)]
      rw [if_neg (by rw [e6]; simp)]
     have htk : tk = false := by rw [← HTk.out, hst]
     have hm2 : m2 = m.call num := by rw [← HM2.out, hst]
     have Hm2 := hideM hm2
     have HOn : Hid (¬ op = 41) := by show ¬ op = 41; omega
     clear hst hm2
     subst htk
     have hnum := HX.out.2.2.2.2.2.1 (by omega)
     clear hop
     go_upto_region 31 with (go_at_call 40; refine (within_keep _ _ _ _).mono ?_; rintro e w' ⟨rfl, rfl⟩)
     go_wp2_with fail
     by_cases hn : num = 1
     ·subst hn
      refine (mcall_shrink w.heap.size g s cap m W1 HM1.out (HOk.out.1 1 (by omega)).ok).mono ?_
      rintro e w4 ⟨rfl, ⟨s4, cap4, hM4⟩, ht4⟩
      have HM4 := hideM hM4
      have HT4 := hideM (HT1.out.trans ht4)
      clear hM4 ht4 f0 f1 f2 f3 f4 f5
      go_wp2
      go_meet
      case rel => exact ⟨rfl, HOn.out, s4, cap4, by rw [Hm2.out]; exact HM4.out, HT4.out⟩
     ·refine (mcall_place w.heap.size g s cap m num W1 HM1.out (by omega)).mono ?_
      rintro e w4 ⟨rfl, hM4, ht4⟩
      have HM4 := hideM hM4
      have HT4 := hideM (HT1.out.trans ht4)
      clear hM4 ht4 f0 f1 f2 f3 f4 f5
      go_wp2
      go_meet
      case rel => exact ⟨rfl, HOn.out, s, cap, by rw [Hm2.out]; exact HM4.out, HT4.out⟩
    ·have e1 : (op == 1) = false := by simp; omega
     have e2 : withinB op 2 11 = false := by simp [withinB]; omega
     have e3 : withinB op 20 23 = false := by simp [withinB]; omega
     have e4 : withinB op 24 27 = false := by simp [withinB]; omega
     have e5 : (op == 30) = false := by simp; omega
     have e6 : withinB op 31 36 = false := by simp [withinB]; omega
     have e7 : (op == 40) = false := by simp; omega
     have HG1 : Hid (runGo L n (start F) 0 = if (m.may (((m.regs 0).kind == 1) && decide ((m.regs 0).bits ≤ 3))).fault then (true, 0, []) else (false, (m.regs 0).bits, m.frame)) := by
      have h := HGo.out
      rw [if_pos hop] at h
      exact h
     have c0 := HM1.out.k 0 (by omega)
     have c1 := HM1.out.b 0 (by omega)
     have c2 := HM1.out.pl 0 (by omega)
     simp only [Nat.zero_mul, Nat.zero_add] at c0 c1 c2
     clear hop HGo
     go_upto_region 10 with (go_at_call 40; refine (within_keep _ _ _ _).mono ?_; rintro e w' ⟨rfl, rfl⟩)
     have v3 := Box3.made W1 (m.regs 0)
     have bel3 := below_alloc W1 (Obj.cells #[.int .i64 (m.regs 0).kind, .int .u64 (m.regs 0).bits, .int .i64 (m.regs 0).place] 85)
     have M3 := HM1.out.later bel3
     have t3 : Tch w.heap.size g wr _ := HT1.out.trans (Tch.of_below bel3)
     generalize W1.alloc (Obj.cells #[.int .i64 (m.regs 0).kind, .int .u64 (m.regs 0).bits, .int .i64 (m.regs 0).place] 85) = W3 at v3 bel3 M3 t3 ⊢
     have hq : wr.heap.size < W1.heap.size := hXl
     generalize W1.heap.size = B3 at v3 hq ⊢
     have k0 := v3.ck
     have k1 := v3.cb
     have HM3 := hideM M3
     have HV3 := hideM v3
     have HT3 := hideM t3
     clear M3 v3 t3 bel3 c0 c1 c2 f0 f1 f2 f3 f4 f5
     cases hkk : ((m.regs 0).kind == 1)
     ·have HKB : Hid ((((m.regs 0).kind == 1) && decide ((m.regs 0).bits ≤ 3)) = false) := by show _ = _; rw [hkk]; rfl
      go_wp2_with fail
      refine (may_any w.heap.size g s cap m _ W3 HM3.out).mono ?_
      rintro e w4 ⟨rfl, hM4, ht4⟩
      have v4 := HV3.out.tch ht4 (by omega) (by omega)
      have HT4 := hideM (HT3.out.trans ht4)
      have ffl := hM4.fl
      have fv1 := v4.cb
      clear ht4 v4
      cases hfl : (m.may false).fault
      ·exact absurd (may_false hfl) (by simp)
      ·have HE : Hid (runGo L n (start F) 0 = (true, 0, [])) := by
        have h := HG1.out
        rw [HKB.out, hfl] at h
        exact h
       rw [hfl] at ffl
       have HB4 : Hid (Below w.heap.size w w4) := HS.out.2.trans (HT4.out.below (Nat.le_refl _) hg HS.out.2.size)
       clear hM4 hfl
       go_wp2
       go_ret3
       refine ⟨.slice none 0 0, ?_, ?_, HB4.out⟩
       ·rw [HE.out]; rfl
       ·rw [HE.out]; exact ⟨none, 0, 0, 0, rfl, by simp, fun h => by simp at h, fun i h => by simp at h⟩
     ·have HKB : Hid ((((m.regs 0).kind == 1) && decide ((m.regs 0).bits ≤ 3)) = decide ((m.regs 0).bits ≤ 3)) := by show _ = _; rw [hkk]; rfl
      go_wp2_with fail
      refine (may_any w.heap.size g s cap m _ W3 HM3.out).mono ?_
      rintro e w4 ⟨rfl, hM4, ht4⟩
      have v4 := HV3.out.tch ht4 (by omega) (by omega)
      have HT4 := hideM (HT3.out.trans ht4)
      have ffl := hM4.fl
      have fv1 := v4.cb
      clear ht4 v4
      cases hfl : (m.may (decide ((m.regs 0).bits ≤ 3))).fault
      ·have hok := may_false hfl
       rw [hfl] at ffl
       rw [hok, may_true] at hM4
       obtain ⟨a, f56, hfa⟩ := hM4.fr
       have HE : Hid (runGo L n (start F) 0 = (false, (m.regs 0).bits, m.frame)) := by
        have h := HG1.out
        rw [HKB.out, hok] at h
        rw [hok, may_true] at hfl
        rw [may_true, hfl] at h
        exact h
       have hb3 : (m.regs 0).bits ≤ 3 := by simpa using hok
       have hb0 : 0 ≤ (m.regs 0).bits := (HOk.out.1 0 (by omega)).1
       have hw1 : IntKind.i64.wrap (m.regs 0).bits = (m.regs 0).bits := by rw [IntKind.wrap_i64]; omega
       have HF4 : Hid (FrameIs w.heap.size w4.drew (.slice a m.frame.length cap) m.frame) := ⟨a, cap, g, s, rfl, hM4.cp.1, fun h => ⟨hfa h, hg, hM4.lg⟩, fun i hi => ⟨hM4.drew.fc i hi, hM4.drew.fg i hi⟩⟩
       have HB4 : Hid (Below w.heap.size w w4.drew) := (HS.out.2.trans (HT4.out.below (Nat.le_refl _) hg HS.out.2.size)).drew
       clear hM4 hfa hok hfl
       go_wp2
       go_region_held3 (fun w' => w'.cell? ⟨B3, 1, none⟩ = some (.int .u64 (m.regs 0).bits) ∧ w'.cell? ⟨w.heap.size, 56, none⟩ = some (.slice a m.frame.length cap)) (go_keep) (fail)
       all_goals go_wp2
       go_ret3
       refine ⟨.slice a m.frame.length cap, ?_, ?_, HB4.out⟩
       ·rw [HE.out]; rfl
       ·rw [HE.out]; exact HF4.out
      ·have HE : Hid (runGo L n (start F) 0 = (true, 0, [])) := by
        have h := HG1.out
        rw [HKB.out, hfl] at h
        exact h
       rw [hfl] at ffl
       have HB4 : Hid (Below w.heap.size w w4) := HS.out.2.trans (HT4.out.below (Nat.le_refl _) hg HS.out.2.size)
       clear hM4 hfl
       go_wp2
       go_ret3
       refine ⟨.slice none 0 0, ?_, ?_, HB4.out⟩
       ·rw [HE.out]; rfl
       ·rw [HE.out]; exact ⟨none, 0, 0, 0, rfl, by simp, fun h => by simp at h, fun i h => by simp at h⟩
   case rest =>
    obtain ⟨rfl, HO, s', cap', hMd, htd⟩ := hcut
    have ffl := hMd.fl
    have HGo2 : Hid (runGo L n (start F) 0 = if m2.fault then (true, 0, []) else runGo L (f - 1) m2 (if tk then k + 1 + off.toNat else k + 1)) := by
     have h := HGo.out
     rw [if_neg HO.out, HM2.out, HTk.out] at h
     exact h
    have HMd := hideM hMd
    have HBd := hideM (HS.out.2.trans (htd.below (Nat.le_refl _) hg HS.out.2.size))
    clear hMd htd HGo
    cases hfl : m2.fault
    ·have hgood : MacOk m2 := by
      have h := step_good HOk.out ⟨op, imm, dst, src, off, num⟩ HX.out.1 HX.out.2.1
      rw [HM2.out] at h
      exact h hfl
     have HGd := hideM hgood
     have HGo3 : Hid (runGo L n (start F) 0 = runGo L (f - 1) m2 (if tk then k + 1 + off.toNat else k + 1)) := by
      have h := HGo2.out
      rw [hfl] at h
      exact h
     rw [hfl] at ffl
     clear hgood HGo2 hfl
     cases tk
     ·go_wp2
      go_roundw
      case rel => exact ⟨k + 1, m2, s', cap', f - 1, HX.out.2.2.2.2.2.2 HO.out, by go_num, HGd.out, ⟨by have := HFu.out; omega, HGo3.out.symm⟩, ⟨HMd.out, HBd.out⟩⟩
      case measure => simp [intOf]; omega
     ·obtain ⟨hj1, hj2⟩ := rstep_jump m ⟨op, imm, dst, src, off, num⟩ HTk.out
      obtain ⟨hj3, hj4⟩ := HX.out.2.2.2.2.1 hj1 hj2

      have hko : (k : Int) + off ≤ 64 := by omega
      have HJ : Hid ((k : Int) + off + 1 = ((k + 1 + off.toNat : Nat) : Int) ∧ k + 1 + off.toNat < n) := by
       constructor
       ·omega
       ·omega
      go_wp2
      go_roundw
      case rel => exact ⟨k + 1 + off.toNat, m2, s', cap', f - 1, HJ.out.2, congrArg (Value.int .i64) HJ.out.1, HGd.out, ⟨by have := HFu.out; omega, HGo3.out.symm⟩, ⟨HMd.out, HBd.out⟩⟩
      case measure => simp [intOf]; omega
    ·have HGo3 : Hid (runGo L n (start F) 0 = (true, 0, [])) := by
      have h := HGo2.out
      rw [hfl] at h
      exact h
     rw [hfl] at ffl
     clear HGo2 hfl
     cases tk
     all_goals
      go_wp2
      go_ret3
      refine ⟨.slice none 0 0, ?_, ?_, HBd.out⟩
      ·rw [HGo3.out]; rfl
      ·rw [HGo3.out]; exact ⟨none, 0, 0, 0, rfl, by simp, fun h => by simp at h, fun i h => by simp at h⟩
end Go.Proofs.YtoobileejdhikaaGreat
