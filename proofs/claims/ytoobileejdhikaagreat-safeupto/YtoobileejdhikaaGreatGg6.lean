/-
  The law's runs: the program's Run against the document's.
  The law's runs, walked.
  The law's runs, of a frame that is too long; the law's shrinks.
  The law's runs, of any frame; the law's step of a Run.
-/
import Derived.Test.YtoobileejdhikaaGreatGg4
import Derived.Test.YtoobileejdhikaaGreatGc9
import Derived.Test.YtoobileejdhikaaGreatGe3
import Derived.Test.YtoobileejdhikaaGreatGf4
import Derived.Test.YtoobileejdhikaaGreatGg5
import Derived.Deep.RegionHeld3
import Derived.Deep.DrawnRows
namespace Go.Proofs.YtoobileejdhikaaGreat
open Go.RowKit
attribute [local go_sem ↓] Go.wp_at_zero Go.wp_at_succ

def byL (B : Nat → Int) (len : Nat) : List Int := (List.range len).map B
theorem byL_len (B : Nat → Int) (len : Nat) : (byL B len).length = len := by simp [byL]
theorem byL_at (B : Nat → Int) (len i : Nat) (h : i < len) : (byL B len).getD i 0 = B i := by simp [byL, List.getD_eq_getElem?_getD, h]
theorem byL_rng {B : Nat → Int} (hB : ∀ i, 0 ≤ B i ∧ B i ≤ 255) (len i : Nat) : 0 ≤ (byL B len).getD i 0 ∧ (byL B len).getD i 0 < 256 := by
 by_cases h : i < len
 ·rw [byL_at B len i h]; have := hB i; omega
 ·rw [List.getD_eq_getElem?_getD, List.getElem?_eq_none (by rw [byL_len]; omega)]; exact ⟨by decide, by decide⟩
theorem byL_mem {B : Nat → Int} (hB : ∀ i, 0 ≤ B i ∧ B i ≤ 255) (len : Nat) : ∀ x ∈ byL B len, 0 ≤ x ∧ x ≤ 255 := fun x hx => by
 simp only [byL, List.mem_map] at hx
 obtain ⟨i, _, rfl⟩ := hx; exact hB i
def verdict (d : PD) (F : List Int) : Int := (runGo (riOf d.B) d.n (start F) 0).2.1
def leftOf (d : PD) (F : List Int) : List Int := (runGo (riOf d.B) d.n (start F) 0).2.2
theorem runGo_le (L : Nat → RI) : ∀ (f : Nat) (m : Mac) (k : Nat), (runGo L f m k).1 = false → (runGo L f m k).2.1 ≤ 3
 | 0, _, _, h => by cases h
 | f + 1, m, k, h => by
  have e : runGo L (f + 1) m k = if (L k).op = 41 then (if (m.may (((m.regs 0).kind == 1) && decide ((m.regs 0).bits ≤ 3))).fault then (true, 0, []) else (false, (m.regs 0).bits, m.frame))
     else if (stepR m (L k)).1.fault then (true, 0, []) else runGo L f (stepR m (L k)).1 (if (stepR m (L k)).2 then k + 1 + (L k).off.toNat else k + 1) := rfl
  rw [e] at h ⊢
  by_cases h1 : (L k).op = 41
  ·rw [if_pos h1] at h ⊢
   cases hf : (m.may (((m.regs 0).kind == 1) && decide ((m.regs 0).bits ≤ 3))).fault
   ·have := may_false hf
    simp only [Bool.and_eq_true, decide_eq_true_eq] at this
    exact this.2
   ·rw [hf] at h; cases h
  ·rw [if_neg h1] at h ⊢
   cases hf : (stepR m (L k)).1.fault
   ·rw [hf] at h
    exact runGo_le L f _ _ h
   ·rw [hf] at h; cases h
theorem runF_any (d : PD) (a : Option Addr) (c len : Nat) (B : Nat → Int) (w : World) (hp : FiltAt w d.f d.g d.c (codeL d.B d.len)) (ho : d.Ok) (hl : len ≤ 64) (hB : ∀ i, 0 ≤ B i ∧ B i ≤ 255) (hb : BytesAt w a (byL B len)) :
  Calls Tryz.prog 33 #[.pointer (some ⟨d.f, 0, none⟩), .slice a len c] w fun e w' => ∃ v, e = .returned (.tuple #[.int .i64 (verdict d (byL B len)), v, .int .i64 0]) ∧ w'.ownsRow w.heap.size 5 1 v (leftOf d (byL B len)).length (byV (leftOf d (byL B len))) ∧ Below w.heap.size w w' := by
 obtain ⟨hC, hT⟩ := code_same ho.by1 ho.n1 ho.n2 ho.good
 obtain ⟨fin, h1, h2, h3, h4, h5⟩ := safe_run hC hT ho.safe (F := byL B len) (by rw [byL_len]; exact hl) (byL_rng hB len)
 have hf := hp
 rw [ho.hl] at hf
 have hv : fin.v 0 < 9223372036854775808 := by have := runGo_le _ _ _ _ h3; omega
 refine (run_any d.B d.n d.f d.g d.c a len c (byL B len) w fin ho.n1 ho.n2 hf ho.by1 (fun j hj => by rw [bad_eq d.B ho.by1 d.n j hj]; exact ho.good j hj) (byL_len B len) hl hb (byL_mem hB len) h1 hv).mono ?_
 rintro e w' ⟨v, rfl, hown, hbel⟩
 refine ⟨v, by rw [h4]; rfl, ?_, hbel⟩
 rw [show leftOf d (byL B len) = fin.left from h5.symm]; exact hown
theorem runP_any (d : PD) (a : Option Addr) (c len : Nat) (B : Nat → Int) (w : World) (hp : PairAt w d) (ho : d.Ok) (hl : len ≤ 64) (hB : ∀ i, 0 ≤ B i ∧ B i ≤ 255) (hb : BytesAt w a (byL B len)) :
  Calls Tryz.prog 33 #[.pointer (some ⟨d.f, 0, none⟩), .slice a len c] w fun e w' => ∃ v, e = .returned (.tuple #[.int .i64 (verdict d (byL B len)), v, .int .i64 0]) ∧ w'.ownsRow w.heap.size 5 1 v (leftOf d (byL B len)).length (byV (leftOf d (byL B len))) ∧ Below w.heap.size w w' :=
 runF_any d a c len B w hp.filt ho hl hB hb
theorem runR_any' (d : PD) (a : Option Addr) (c len b o : Nat) (B : Nat → Int) (w : World) (hp : PairAt w d) (ho : d.Ok) (hl : len ≤ 64) (hB : ∀ i, 0 ≤ B i ∧ B i ≤ 255) (hc : len ≤ c) (h1 : 0 < len → a = some ⟨b, o, none⟩) (h2 : ∀ i, i < len → w.cell? ⟨b, o + i, none⟩ = some (.int .u8 (B i))) :
  Calls Tryz.prog 19 #[.slice (some ⟨d.lb, 0, none⟩) d.n d.lc, .slice a len c] w fun e w' => ∃ fa fc, e = .returned (.tuple #[.bool false, .int .i64 (verdict d (byL B len)), .slice fa (leftOf d (byL B len)).length fc]) ∧ BytesAt w' fa (leftOf d (byL B len)) ∧ Below w.heap.size w w' := by
 refine (rrun_any (riOf d.B) d.n d.lb d.lc a b o len c (byL B len) w (code_same ho.by1 ho.n1 ho.n2 ho.good).1.ok hp.la (byL_len B len) hl hc (fun h => h1 (by omega)) (fun i hi => by rw [byL_at B len i hi]; exact h2 i hi)).mono ?_
 rintro e w' ⟨v, rfl, ⟨fa, fc, g, s, rfl, _, hne, hcell⟩, hbel⟩
 rw [pd_sound ho (by rw [byL_len]; exact hl) (byL_rng hB len)]
 refine ⟨fa, fc, rfl, ?_, hbel⟩
 show BytesAt w' fa (leftOf d (byL B len))
 by_cases h0 : 0 < (leftOf d (byL B len)).length
 ·obtain ⟨rfl, _, _⟩ := hne h0
  refine .inr ⟨_, rfl, fun j u hj => ?_⟩
  have hjl : j < (leftOf d (byL B len)).length := by have := (List.getElem?_eq_some_iff.1 hj).1; rw [byV_len] at this; exact this
  have := (hcell j hjl).1
  rw [addr_add, this]
  simp only [byV, List.getElem?_map] at hj
  rw [List.getElem?_eq_getElem hjl] at hj
  simp only [Option.map_some, Option.some.injEq] at hj
  rw [← hj, List.getD_eq_getElem?_getD]
  show some (Value.int .u8 ((leftOf d (byL B len))[j]?.getD 0)) = _
  rw [List.getElem?_eq_getElem hjl]; rfl
 ·exact .inl (List.length_eq_zero_iff.1 (by omega))
end Go.Proofs.YtoobileejdhikaaGreat

namespace Go.Proofs.YtoobileejdhikaaGreat
set_option maxRecDepth 100000
set_option maxHeartbeats 8000000
open Go.RowKit
attribute [local go_sem ↓] Go.wp_at_zero Go.wp_at_succ

theorem given_bytes {W : World} {g len : Nat} {B : Nat → Int} (h : GivenAt W g len B) : BytesAt W (some ⟨g, 0, none⟩) (byL B len) := by
 refine .inr ⟨_, rfl, fun j u hj => ?_⟩
 have hjl : j < len := by have := (List.getElem?_eq_some_iff.1 hj).1; rw [byV_len, byL_len] at this; exact this
 simp only [byV, byL, List.getElem?_map, List.getElem?_range hjl, Option.map_some, Option.some.injEq] at hj
 rw [addr_add, Nat.zero_add, h.c j hjl, ← hj]
theorem PairAt.drew {W : World} {d : PD} (h : PairAt W d) : PairAt W.drew d := h.later (Below.refl _ _).drew
theorem leftOf_len (d : PD) (ho : d.Ok) (F : List Int) (hF : F.length ≤ 64) (hb : ∀ i, 0 ≤ F.getD i 0 ∧ F.getD i 0 < 256) : (leftOf d F).length ≤ 96 := by
 obtain ⟨hC, hT⟩ := code_same ho.by1 ho.n1 ho.n2 ho.good
 obtain ⟨fin, _, h2, _, _, h5⟩ := safe_run hC hT ho.safe hF hb
 rw [show leftOf d F = fin.left from h5.symm]
 have h3 := h2.f0
 have h4 := h2.l1
 simp only [MS.left, List.length_map, List.length_range]
 omega

theorem runs_any (base pw : Nat) (v vb vk : Value) (ds : List PD) (es : List ES) (d : PD) (ba : Option Addr) (len bc : Nat) (B : Nat → Int) (W : World) (h : LWAt base W pw v ds vb vk es) (hpb : base ≤ pw) (hbase : base ≤ W.heap.size) (hlen : es.length ≤ 4000000000) (hd : d ∈ ds) (hb : BytesIn W ba len bc B) (h64 : len ≤ 64) :
  Calls Tryz.prog 20 #[.pointer (some ⟨pw, 0, none⟩), .agg #[.pointer (some ⟨d.f, 0, none⟩), .slice (some ⟨d.cb, 0, none⟩) d.len d.cc, .slice (some ⟨d.lb, 0, none⟩) d.n d.lc], .slice ba len bc] W fun e W' => e = .returned (.bool true) ∧ Below base W W' ∧ ∃ vb' vk' es', LWAt base W' pw v ds vb' vk' es' ∧ es'.length = es.length + 4 := by
 obtain ⟨bb, bo, hb1, hb2⟩ := hb.lies
 have HH := hideM h
 have HP := hideM (h.w.ds d hd).1
 have HOk := hideM (h.w.ds d hd).2.1
 have HB := hideM hb
 have HB1 := hideM hb1
 have HB2 := hideM hb2
 have hle := hb.le
 clear h hb hb1 hb2
 go_enter Tryz.func20, Tryz.ntmps20
 go_wp2_with fail
 have q0 : (W.alloc (.cells #[.pointer (some ⟨d.f, 0, none⟩), .slice (some ⟨d.cb, 0, none⟩) d.len d.cc, .slice (some ⟨d.lb, 0, none⟩) d.n d.lc] 45)).cell? ⟨W.heap.size, 0, none⟩ = some (.pointer (some ⟨d.f, 0, none⟩)) := by simp
 have q2 : (W.alloc (.cells #[.pointer (some ⟨d.f, 0, none⟩), .slice (some ⟨d.cb, 0, none⟩) d.len d.cc, .slice (some ⟨d.lb, 0, none⟩) d.n d.lc] 45)).cell? ⟨W.heap.size, 2, none⟩ = some (.slice (some ⟨d.lb, 0, none⟩) d.n d.lc) := by simp
 have bel1 := below_alloc W (.cells #[.pointer (some ⟨d.f, 0, none⟩), .slice (some ⟨d.cb, 0, none⟩) d.len d.cc, .slice (some ⟨d.lb, 0, none⟩) d.n d.lc] 45)
 have hs1 : (W.alloc (.cells #[.pointer (some ⟨d.f, 0, none⟩), .slice (some ⟨d.cb, 0, none⟩) d.len d.cc, .slice (some ⟨d.lb, 0, none⟩) d.n d.lc] 45)).heap.size = W.heap.size + 1 := by simp
 generalize W.alloc (.cells #[.pointer (some ⟨d.f, 0, none⟩), .slice (some ⟨d.cb, 0, none⟩) d.len d.cc, .slice (some ⟨d.lb, 0, none⟩) d.n d.lc] 45) = w1 at q0 q2 bel1 hs1 ⊢
 have hc1 : ∀ i, i < len → w1.cell? ⟨bb, bo + i, none⟩ = some (.int .u8 (B i)) := fun i hi => (bel1.cell (p := ⟨bb, bo + i, none⟩) (lt_of_cell (HB2.out i hi))).trans (HB2.out i hi)
 have HC1 := hideM hc1
 have HE1 := hideM bel1
 clear hc1 bel1
 refine (given_any ba bb bo len bc B w1 (by omega) HB1.out HC1.out).mono ?_
 rintro e w2 ⟨g2, rfl, hg2, hge2, hb2⟩
 have HG2 := hideM hg2
 have HE2 : Hid (Below w1.heap.size w1 w2) := hb2
 have c0 : w2.cell? ⟨W.heap.size, 0, none⟩ = some (.pointer (some ⟨d.f, 0, none⟩)) := (hb2.cell (by show W.heap.size < _; omega)).trans q0
 have c2 : w2.cell? ⟨W.heap.size, 2, none⟩ = some (.slice (some ⟨d.lb, 0, none⟩) d.n d.lc) := (hb2.cell (by show W.heap.size < _; omega)).trans q2
 have HBe2 : Hid (Below W.heap.size W w2) := HE1.out.trans (hb2.mono (by omega))
 have hpart : ∃ ra rc, (∀ w, Calls Tryz.prog 45 #[.slice (some ⟨g2, 0, none⟩) (len + 8) (len + 8), .slice ba len bc] w fun e w' => e = .returned (.slice ra len rc) ∧ w = w') ∧ (∀ w', GivenAt w' g2 len B → BytesAt w' ra (byL B len)) := by
  cases ba with
  | none =>
   obtain ⟨rfl, rfl⟩ := HB.out.nil rfl
   exact ⟨none, 0, fun w => part_nil _ w, fun w' _ => .inl rfl⟩
  | some a => exact ⟨_, _, fun w => part_some g2 (len + 8) (len + 8) a len bc w (by omega), fun w' hw => given_bytes hw⟩
 obtain ⟨ra, rc, hp1, hp2⟩ := hpart
 have HPt := hideM hp1
 have HBt := hideM hp2
 clear hg2 hb2 hp1 hp2 q0 q2
 have HPd := hideM (HP.out.later HBe2.out)
 have hg2l := HG2.out.l
 go_wp2_with fail
 go_region_held3 (fun w' => w'.cell? ⟨W.heap.size, 0, none⟩ = some (.pointer (some ⟨d.f, 0, none⟩))) (go_keep) (first | (go_at_call 45; refine (HPt.out _).mono ?_; rintro e w' ⟨rfl, rfl⟩) | (go_at_call 33; refine (runP_any d ra rc len B _ HPd.out.drew HOk.out h64 HB.out.by1 (HBt.out _ (given_later HG2.out (Below.refl _ _).drew))).mono ?_; rintro e w3 ⟨v3, rfl, hown3, hb3⟩; have d0 : w3.cell? ⟨W.heap.size, 0, none⟩ = some (.pointer (some ⟨d.f, 0, none⟩)) := (hb3.cell (by show W.heap.size < w2.heap.size; omega)).trans c0; have HO3 := hideM hown3; have HB3 : Hid (Below w2.heap.size w2 w3) := (Below.refl _ _).drew.trans hb3; clear hown3 hb3))
 all_goals go_wp2_with fail
 have hbe3 : Below W.heap.size W w3 := HBe2.out.trans (HB3.out.mono HBe2.out.size)
 have hg3 := given_later HG2.out HB3.out
 refine (clean_ok g2 bb bo len bc (len + 8) ba B w3 (by omega) hg3.c hg3.s hg3.z HB1.out (fun h0 => by have h2 : bb < W.heap.size := lt_of_cell (HB2.out 0 h0); omega) (fun i hi => by rw [hbe3.cell (p := ⟨bb, bo + i, none⟩) (lt_of_cell (HB2.out i hi))]; exact HB2.out i hi)).mono ?_
 rintro e w4 ⟨rfl, t4⟩
 have HBe4 : Hid (Below W.heap.size W w4) := tch_new hbe3 t4 (by omega)
 have hs3 := HB3.out.size
 have HO4 : Hid (w4.ownsRow w2.heap.size 5 1 v3 (leftOf d (byL B len)).length (byV (leftOf d (byL B len)))) := ownsRow_same HO3.out (fun g hg hl => by
  have h1 : w2.heap.size ≤ g := (HO3.out.lt g hg).1
  exact t4.block g hl (by omega) (by omega))
 have e2 : w4.cell? ⟨W.heap.size, 2, none⟩ = some (.slice (some ⟨d.lb, 0, none⟩) d.n d.lc) := by
  rw [t4.cell (by omega) (by omega) (by omega), HB3.out.cell (p := ⟨W.heap.size, 2, none⟩) (by show W.heap.size < _; have := HBe2.out.size; omega)]; exact c2
 have HP4 := hideM (HP.out.later HBe4.out)
 have HC4 : Hid (∀ i, i < len → w4.cell? ⟨bb, bo + i, none⟩ = some (.int .u8 (B i))) := fun i hi => by rw [HBe4.out.cell (p := ⟨bb, bo + i, none⟩) (lt_of_cell (HB2.out i hi))]; exact HB2.out i hi
 have hlf := leftOf_len d HOk.out (byL B len) (by rw [byL_len]; exact h64) (byL_rng HB.out.by1 len)
 have i64 : ¬ (64 : Int) < (len : Int) := by omega
 clear t4 hbe3 hg3 c0 c2 d0
 go_wp2_with fail
 refine (runR_any' d ba bc len bb bo B w4 HP4.out HOk.out h64 HB.out.by1 hle HB1.out HC4.out).mono ?_
 rintro e w5 ⟨fa, fc, rfl, hby5, hb5⟩
 have hown5 := ownsRow_below HO4.out hb5
 obtain ⟨a3, c3, hv3⟩ := size_row hown5
 subst hv3
 have hc1 := conv_own hown5
 have hc2 := conv_bytes fc rfl hby5
 have HO5 := hideM hown5
 have HBe5 : Hid (Below W.heap.size W w5) := HBe4.out.trans (hb5.mono HBe4.out.size)
 have HBL : Hid (∀ g, a3 = some ⟨g, 0, none⟩ → W.heap.size < g) := fun g hg => by
  have h1 : w2.heap.size ≤ g := (hown5.lt g (by rw [hg]; rfl)).1
  omega
 generalize strOfNums (leftOf d (byL B len)) = st at hc1 hc2
 generalize (leftOf d (byL B len)).length = ll at hc1 hc2 hlf HO5 ⊢
 have HT := hideM (HH.out.later HBe5.out)
 clear hown5 hby5 hb5
 go_wp2_with (go_at_call 15; refine (num_keep _ _).mono ?_; rintro e w' ⟨rfl, rfl⟩)
 refine (own_any base pw vb vk es a3 ll c3 _ _ w5 HT.out.b (by have := HBe5.out.size; omega) hlen HO5.out (by omega) (fun g hg => ?_)).mono ?_
 ·have h1 := HBL.out g hg
  have h2 := HH.out.w.lp
  exact ⟨by omega, fun e => by have := (HH.out.b.rb.lt g e).2; omega, fun e => by have := (HH.out.b.rk.lt g e).2; omega, fun e he h0 q => by
   rcases (HH.out.b.es e he).1 with h3 | ⟨g', h3, h4, _⟩
   ·omega
   ·rw [h3] at q; cases q; omega⟩
 rintro e w6 ⟨rfl, vb', vk', es4, hO⟩
 have hL := HT.out.owned hO (fun g hg => by
  have h1 := HBL.out g hg
  exact ⟨fun e => by have := (HH.out.w.row.lt g e).2; omega, fun d' hd' => Classical.byContradiction fun q => by have := PD.blk (HH.out.w.ds d' hd').1 q; omega⟩) (by omega)
 have HL := hideM hL
 have HF := hideM hO.four
 have HBB := hideM ((HBe5.out.mono hbase).trans (hO.below HT.out.b hpb (by have := HBe5.out.size; omega) (fun g hg => by have := HBL.out g hg; omega)))
 clear hL hO
 go_wp2_with fail
 go_ret
 exact ⟨rfl, HBB.out, vb', vk', es ++ es4, HL.out, by rw [List.length_append, HF.out]⟩
end Go.Proofs.YtoobileejdhikaaGreat

namespace Go.Proofs.YtoobileejdhikaaGreat
set_option maxRecDepth 100000
set_option maxHeartbeats 8000000
open Go.RowKit
attribute [local go_sem ↓] Go.wp_at_zero Go.wp_at_succ

theorem runs_long (base pw : Nat) (v vb vk : Value) (ds : List PD) (es : List ES) (d : PD) (ba : Option Addr) (len bc : Nat) (B : Nat → Int) (W : World) (h : LWAt base W pw v ds vb vk es) (hbase : base ≤ W.heap.size) (hb : BytesIn W ba len bc B) (h64 : 64 < len) (hm : len ≤ 140737488355328) :
  Calls Tryz.prog 20 #[.pointer (some ⟨pw, 0, none⟩), .agg #[.pointer (some ⟨d.f, 0, none⟩), .slice (some ⟨d.cb, 0, none⟩) d.len d.cc, .slice (some ⟨d.lb, 0, none⟩) d.n d.lc], .slice ba len bc] W fun e W' => e = .returned (.bool true) ∧ Below base W W' ∧ LWAt base W' pw v ds vb vk es := by
 obtain ⟨bb, bo, hb1, hb2⟩ := hb.lies
 have HH := hideM h
 have HB := hideM hb
 have HB1 := hideM hb1
 have HB2 := hideM hb2
 have hle := hb.le
 clear h hb hb1 hb2
 go_enter Tryz.func20, Tryz.ntmps20
 go_wp2_with fail
 have q0 : (W.alloc (.cells #[.pointer (some ⟨d.f, 0, none⟩), .slice (some ⟨d.cb, 0, none⟩) d.len d.cc, .slice (some ⟨d.lb, 0, none⟩) d.n d.lc] 45)).cell? ⟨W.heap.size, 0, none⟩ = some (.pointer (some ⟨d.f, 0, none⟩)) := by simp
 have q2 : (W.alloc (.cells #[.pointer (some ⟨d.f, 0, none⟩), .slice (some ⟨d.cb, 0, none⟩) d.len d.cc, .slice (some ⟨d.lb, 0, none⟩) d.n d.lc] 45)).cell? ⟨W.heap.size, 2, none⟩ = some (.slice (some ⟨d.lb, 0, none⟩) d.n d.lc) := by simp
 have bel1 := below_alloc W (.cells #[.pointer (some ⟨d.f, 0, none⟩), .slice (some ⟨d.cb, 0, none⟩) d.len d.cc, .slice (some ⟨d.lb, 0, none⟩) d.n d.lc] 45)
 have hs1 : (W.alloc (.cells #[.pointer (some ⟨d.f, 0, none⟩), .slice (some ⟨d.cb, 0, none⟩) d.len d.cc, .slice (some ⟨d.lb, 0, none⟩) d.n d.lc] 45)).heap.size = W.heap.size + 1 := by simp
 generalize W.alloc (.cells #[.pointer (some ⟨d.f, 0, none⟩), .slice (some ⟨d.cb, 0, none⟩) d.len d.cc, .slice (some ⟨d.lb, 0, none⟩) d.n d.lc] 45) = w1 at q0 q2 bel1 hs1 ⊢
 have hc1 : ∀ i, i < len → w1.cell? ⟨bb, bo + i, none⟩ = some (.int .u8 (B i)) := fun i hi => (bel1.cell (p := ⟨bb, bo + i, none⟩) (lt_of_cell (HB2.out i hi))).trans (HB2.out i hi)
 have HC1 := hideM hc1
 have HE1 := hideM bel1
 clear hc1 bel1
 refine (given_any ba bb bo len bc B w1 hm HB1.out HC1.out).mono ?_
 rintro e w2 ⟨g2, rfl, hg2, hge2, hb2⟩
 have HG2 := hideM hg2
 have HE2 : Hid (Below w1.heap.size w1 w2) := hb2
 have c0 : w2.cell? ⟨W.heap.size, 0, none⟩ = some (.pointer (some ⟨d.f, 0, none⟩)) := (hb2.cell (by show W.heap.size < _; omega)).trans q0
 have c2 : w2.cell? ⟨W.heap.size, 2, none⟩ = some (.slice (some ⟨d.lb, 0, none⟩) d.n d.lc) := (hb2.cell (by show W.heap.size < _; omega)).trans q2
 have HBe2 : Hid (Below W.heap.size W w2) := HE1.out.trans (hb2.mono (by omega))
 have hpart : ∃ ra rc, (∀ w, Calls Tryz.prog 45 #[.slice (some ⟨g2, 0, none⟩) (len + 8) (len + 8), .slice ba len bc] w fun e w' => e = .returned (.slice ra len rc) ∧ w = w') := by
  cases ba with
  | none => have := (HB.out.nil rfl).1; omega
  | some a => exact ⟨_, _, fun w => part_some g2 (len + 8) (len + 8) a len bc w (by omega)⟩
 obtain ⟨ra, rc, hp1⟩ := hpart
 have HPt := hideM hp1
 clear hg2 hb2 hp1 q0 q2 c2
 have hg2l := HG2.out.l
 go_wp2_with fail
 go_region_held3 (fun w' => w'.cell? ⟨W.heap.size, 0, none⟩ = some (.pointer (some ⟨d.f, 0, none⟩))) (go_keep) (first | (go_at_call 45; refine (HPt.out _).mono ?_; rintro e w' ⟨rfl, rfl⟩) | (go_at_call 33; refine (run_long d.f ra len rc _ h64 (by omega)).mono ?_; rintro e w' ⟨rfl, rfl⟩))
 all_goals go_wp2_with fail
 have hbe3 : Below W.heap.size W w2.drew := HBe2.out.drew
 have hg3 := given_later HG2.out (Below.refl _ _).drew
 refine (clean_ok g2 bb bo len bc (len + 8) ba B _ hm hg3.c hg3.s hg3.z HB1.out (fun h0 => by have h2 : bb < W.heap.size := lt_of_cell (HB2.out 0 h0); omega) (fun i hi => by rw [hbe3.cell (p := ⟨bb, bo + i, none⟩) (lt_of_cell (HB2.out i hi))]; exact HB2.out i hi)).mono ?_
 rintro e w4 ⟨rfl, t4⟩
 have HBe4 : Hid (Below W.heap.size W w4) := tch_new hbe3 t4 (by omega)
 have i64 : (64 : Int) < (len : Int) := by omega
 clear t4 hbe3 hg3 c0
 go_wp2_with (go_at_call 15; refine (num_keep _ _).mono ?_; rintro e w' ⟨rfl, rfl⟩)
 go_ret
 exact ⟨rfl, HBe4.out.mono hbase, HH.out.later HBe4.out⟩

def shD (f g c : Nat) : PD := ⟨f, g, c, 0, 0, 0, 0, 10, 80, fclB⟩
theorem shD_ok (f g c : Nat) : (shD f g c).Ok := ⟨calls_bytes, rfl, by show 1 ≤ 10; omega, by show 10 ≤ 64; omega, calls_let.1, calls_safe⟩
def sevB (i : Nat) : Int := if i = 0 then 7 else if i = 1 then 8 else if i = 2 then 9 else 0
theorem sh_1 (f g c : Nat) : verdict (shD f g c) (byL sevB 3) = 2 := by kernel_rfl
theorem sh_2 (f g c : Nat) : leftOf (shD f g c) (byL sevB 3) = [8, 9] := by kernel_rfl
theorem sh_3 (f g c : Nat) : verdict (shD f g c) (byL sevB 0) = 2 := by kernel_rfl
theorem sh_4 (f g c : Nat) : leftOf (shD f g c) (byL sevB 0) = [] := by kernel_rfl
theorem sevB_by (i : Nat) : 0 ≤ sevB i ∧ sevB i ≤ 255 := by unfold sevB; (repeat' split) <;> omega
theorem str89 : strOfNums [8, 9] = ⟨#[8, 9]⟩ := by rfl

theorem shrinks_any (w : World) : Calls Tryz.prog 21 #[] w fun e w' => e = .returned (.bool true) ∧ Below w.heap.size w w' := by
 go_enter Tryz.func21, Tryz.ntmps21
 go_wp2_with fail
 refine (calls_any _).mono ?_
 rintro e w1 ⟨rfl, rfl⟩
 go_wp2_with fail
 refine (load_any fclB w.heap.size 0 80 80 10 (w.alloc (.cells fclA 5)) (by omega) (by omega) (by omega) (by omega) (by omega) (fun i hi => calls_cells w i hi) calls_bytes).mono ?_
 rintro e w2 ⟨hend, hb2⟩
 rcases hend with ⟨i, hi, hbad, _⟩ | ⟨_, ⟨k, hk, _⟩ | ⟨_, f, g, c, rfl, hf, _, _⟩⟩
 ·rw [calls_good i hi] at hbad; cases hbad
 ·rw [calls_safe] at hk; cases hk
 have HF := hideM hf
 have HB2 : Hid (Below w.heap.size w w2) := (below_alloc _ _).trans (hb2.mono (by simp))
 clear hf hb2
 go_wp2_with (go_at_call 15; refine (num_keep _ _).mono ?_; rintro e w' ⟨rfl, rfl⟩)
 have hf3 : FiltAt (w2.alloc (.cells #[.int .u8 7, .int .u8 8, .int .u8 9] 5)) (shD f g c).f (shD f g c).g (shD f g c).c (codeL (shD f g c).B (shD f g c).len) := HF.out.same (heap_alloc_old w2 _ HF.out.lf) (heap_alloc_old w2 _ HF.out.lg) (by simp)
 have hby : BytesAt (w2.alloc (.cells #[.int .u8 7, .int .u8 8, .int .u8 9] 5)) (some ⟨w2.heap.size, 0, none⟩) (byL sevB 3) := .inr ⟨_, rfl, fun j u hj => by
  rw [addr_add, Nat.zero_add, cell_of_row _ _ j _ _ _ (heap_alloc_new w2 _)]
  match j, hj with
  | 0, h => exact h
  | 1, h => exact h
  | 2, h => exact h
  | k + 3, h => cases h⟩
 refine (runF_any (shD f g c) _ 3 3 sevB _ hf3 (shD_ok f g c) (by omega) sevB_by hby).mono ?_
 rintro e w4 ⟨v4, rfl, hown4, hb4⟩
 rw [sh_1]
 rw [sh_2] at hown4
 have hf4 : FiltAt w4 (shD f g c).f (shD f g c).g (shD f g c).c (codeL (shD f g c).B (shD f g c).len) := hf3.same (hb4.block _ hf3.lf) (hb4.block _ hf3.lg) hb4.size
 have HB4 : Hid (Below w.heap.size w w4) := HB2.out.trans (((below_alloc _ _).trans (hb4.mono (by simp))).mono HB2.out.size)
 have HF4 := hideM hf4
 have HO4 := hideM hown4
 clear hf3 hby hown4 hb4 hf4 HF HB2
 go_wp2_with fail
 refine (runF_any (shD f g c) none 0 0 sevB w4 HF4.out (shD_ok f g c) (by omega) sevB_by (.inl rfl)).mono ?_
 rintro e w6 ⟨v6, rfl, hown6, hb6⟩
 rw [sh_3]
 rw [sh_4] at hown6
 obtain ⟨a6, c6, hv6⟩ := size_row hown6
 subst hv6
 have hown4 := ownsRow_below HO4.out hb6
 obtain ⟨a4, c4, hv4⟩ := size_row hown4
 subst hv4
 have hc1 := conv_own hown4
 rw [str89] at hc1
 have HB6 : Hid (Below w.heap.size w w6) := HB4.out.trans (hb6.mono HB4.out.size)
 clear hown4 hown6 hb6 HO4
 generalize List.length (α := Int) [8, 9] = l4 at hc1 ⊢
 simp only [List.length_nil]
 go_wp2_with (go_at_call 15; refine (num_keep _ _).mono ?_; rintro e w' ⟨rfl, rfl⟩)
 go_ret
 exact ⟨rfl, HB6.out⟩
end Go.Proofs.YtoobileejdhikaaGreat

namespace Go.Proofs.YtoobileejdhikaaGreat
set_option maxRecDepth 100000
set_option maxHeartbeats 8000000
open Go.RowKit
attribute [local go_sem ↓] Go.wp_at_zero Go.wp_at_succ

theorem runs_all (base pw : Nat) (v vb vk : Value) (ds : List PD) (es : List ES) (d : PD) (ba : Option Addr) (len bc : Nat) (B : Nat → Int) (W : World) (h : LWAt base W pw v ds vb vk es) (hpb : base ≤ pw) (hbase : base ≤ W.heap.size) (hlen : es.length ≤ 4000000000) (hd : d ∈ ds) (hb : BytesIn W ba len bc B) (hm : len ≤ 140737488355328) :
  Calls Tryz.prog 20 #[.pointer (some ⟨pw, 0, none⟩), .agg #[.pointer (some ⟨d.f, 0, none⟩), .slice (some ⟨d.cb, 0, none⟩) d.len d.cc, .slice (some ⟨d.lb, 0, none⟩) d.n d.lc], .slice ba len bc] W fun e W' => e = .returned (.bool true) ∧ Below base W W' ∧ ∃ vb' vk' es', LWAt base W' pw v ds vb' vk' es' ∧ es.length ≤ es'.length ∧ es'.length ≤ es.length + 4 := by
 by_cases h64 : len ≤ 64
 ·exact (runs_any base pw v vb vk ds es d ba len bc B W h hpb hbase hlen hd hb h64).mono fun e W' ⟨h1, h2, vb', vk', es', h3, h4⟩ => ⟨h1, h2, vb', vk', es', h3, by omega, by omega⟩
 ·exact (runs_long base pw v vb vk ds es d ba len bc B W h hbase hb (by omega) hm).mono fun e W' ⟨h1, h2, h3⟩ => ⟨h1, h2, vb, vk, es, h3, Nat.le_refl _, by omega⟩

theorem step_run (base pw : Nat) (v vb vk : Value) (ds : List PD) (es : List ES) (E : Int) (a : Option Addr) (len cap : Nat) (B : Nat → Int) (W : World) (h : LWAt base W pw v ds vb vk es) (hp : base ≤ pw) (hbase : base ≤ W.heap.size) (hds : ds.length ≤ 1000000000) (hd1 : 1 ≤ ds.length) (hlen : es.length ≤ 4000000000)
  (hE1 : -9223372036854775808 ≤ E) (hE2 : E ≤ 9223372036854775807) (hm : len ≤ 140737488355328) (hb : BytesIn W a len cap B) :
  Calls Tryz.prog 42 #[.pointer (some ⟨pw, 0, none⟩), .agg #[.int .i64 3, .int .i64 E, .slice a len cap]] W fun e W' => e = .returned (.bool true) ∧ Below base W W' ∧ ∃ vb' vk' es', LWAt base W' pw v ds vb' vk' es' ∧ es.length ≤ es'.length ∧ es'.length ≤ es.length + 4 := by
 obtain ⟨g, gc, hv, hg1, hg2, hg3, hg4, hg5⟩ := h.w.slice (by intro e; rw [e] at hd1; simp at hd1)
 subst hv
 have HH := hideM (h.later (below_alloc W (.cells #[.int .i64 3, .int .i64 E, .slice a len cap] 78)))
 have HY := hideM (hb.later (below_alloc W (.cells #[.int .i64 3, .int .i64 E, .slice a len cap] 78)) (Nat.le_refl _))
 have HB1 := hideM (below_alloc W (.cells #[.int .i64 3, .int .i64 E, .slice a len cap] 78))
 have b0 : (W.alloc (.cells #[.int .i64 3, .int .i64 E, .slice a len cap] 78)).cell? ⟨W.heap.size, 0, none⟩ = some (.int .i64 3) := by simp
 have b1 : (W.alloc (.cells #[.int .i64 3, .int .i64 E, .slice a len cap] 78)).cell? ⟨W.heap.size, 1, none⟩ = some (.int .i64 E) := by simp
 have b2 : (W.alloc (.cells #[.int .i64 3, .int .i64 E, .slice a len cap] 78)).cell? ⟨W.heap.size, 2, none⟩ = some (.slice a len cap) := by simp
 have hsz : (W.alloc (.cells #[.int .i64 3, .int .i64 E, .slice a len cap] 78)).heap.size = W.heap.size + 1 := by simp
 have c0 := HH.out.w.c
 have hlb : ¬ (ds.length : Int) = 0 := by omega
 have hlbb : ((ds.length : Int) == 0) = false := by simpa using hlb
 have HP : Hid (∀ r j, r < ds.length → j < 3 → W.cell? ⟨g, r * 3 + j, none⟩ = (ds.getD r ⟨0, 0, 0, 0, 0, 0, 0, 0, 0, fun _ => 0⟩).cells[j]?) := fun r j hr hj => by
  rw [hg5 (r * 3 + j) (by omega), pairsL_at ds r j hr hj, List.getD_eq_getElem?_getD, List.getElem?_eq_getElem hr]; rfl
 clear h hb hg5
 go_enter Tryz.func42, Tryz.ntmps42
 go_wp2_with fail
 generalize W.alloc (.cells #[.int .i64 3, .int .i64 E, .slice a len cap] 78) = w1 at HH HY HB1 b0 b1 b2 hsz c0 ⊢
 have HP1 : Hid (∀ r, r < ds.length → ∃ d ∈ ds, w1.cell? ⟨g, r * 3, none⟩ = some (.pointer (some ⟨d.f, 0, none⟩)) ∧ w1.cell? ⟨g, r * 3 + 1, none⟩ = some (.slice (some ⟨d.cb, 0, none⟩) d.len d.cc) ∧ w1.cell? ⟨g, r * 3 + 2, none⟩ = some (.slice (some ⟨d.lb, 0, none⟩) d.n d.lc)) := fun r hr => by
  refine ⟨ds.getD r ⟨0, 0, 0, 0, 0, 0, 0, 0, 0, fun _ => 0⟩, ?_, ?_, ?_, ?_⟩
  ·rw [List.getD_eq_getElem?_getD, List.getElem?_eq_getElem hr]; exact List.getElem_mem hr
  ·rw [HB1.out.cell (p := ⟨g, r * 3, none⟩) hg2, show r * 3 = r * 3 + 0 from rfl, HP.out r 0 hr (by omega)]; rfl
  ·rw [HB1.out.cell (p := ⟨g, r * 3 + 1, none⟩) hg2, HP.out r 1 hr (by omega)]; rfl
  ·rw [HB1.out.cell (p := ⟨g, r * 3 + 2, none⟩) hg2, HP.out r 2 hr (by omega)]; rfl
 have l0 : (0 : Int) < (ds.length : Int) := by omega
 clear HP
 have hpl := pickN_lt E ds.length hd1
 have HPK := hideM (fun w => pick_any E ds.length w hE1 hE2 hd1 hds)
 generalize pickN E ds.length = r at hpl HPK
 obtain ⟨d, hd, r0, r1, r2⟩ := HP1.out r hpl
 have ri : (r : Int) < (ds.length : Int) := by omega
 have rj : (0 : Int) ≤ (r : Int) := by omega
 have hs1 := HB1.out.size
 have hpd := hideM (HH.out.w.ds d hd).1
 have HD := hideM hd
 clear HP1 hd
 have HB9 : Hid (Below w1.heap.size w1 (w1.alloc (.cells #[.pointer (some ⟨d.f, 0, none⟩), .slice (some ⟨d.cb, 0, none⟩) d.len d.cc, .slice (some ⟨d.lb, 0, none⟩) d.n d.lc] 45)).drew) := (below_alloc _ _).drew
 have HBW : Hid (Below base W (w1.alloc (.cells #[.pointer (some ⟨d.f, 0, none⟩), .slice (some ⟨d.cb, 0, none⟩) d.len d.cc, .slice (some ⟨d.lb, 0, none⟩) d.n d.lc] 45)).drew) := (HB1.out.mono hbase).trans ((below_alloc _ _).drew.mono (by omega))
 go_region_held3 (fun w' => w'.cell? ⟨pw, 0, none⟩ = some (.slice (some ⟨g, 0, none⟩) ds.length gc) ∧ w'.cell? ⟨W.heap.size, 0, none⟩ = some (.int .i64 3) ∧ w'.cell? ⟨W.heap.size, 1, none⟩ = some (.int .i64 E) ∧ w'.cell? ⟨W.heap.size, 2, none⟩ = some (.slice a len cap) ∧ w'.cell? ⟨g, r * 3, none⟩ = some (.pointer (some ⟨d.f, 0, none⟩)) ∧ w'.cell? ⟨g, r * 3 + 1, none⟩ = some (.slice (some ⟨d.cb, 0, none⟩) d.len d.cc) ∧ w'.cell? ⟨g, r * 3 + 2, none⟩ = some (.slice (some ⟨d.lb, 0, none⟩) d.n d.lc)) (go_keep) ((go_at_call 66; refine (HPK.out _).mono ?_; rintro e w' ⟨rfl, rfl⟩))
 all_goals go_wp2_with fail
 all_goals
  refine (runs_all base pw _ vb vk ds es d a len cap B _ (HH.out.later HB9.out) hp (Nat.le_trans hbase HBW.out.size) hlen HD.out (HY.out.later HB9.out (Nat.le_refl _)) hm).mono ?_
  rintro e w5 ⟨rfl, hb5, vb', vk', es', hL, hl, hl'⟩
  have HL := hideM hL
  have HX := hideM (And.intro hl hl')
  have HB5 := hideM (HBW.out.trans hb5)
  clear hL hl hl' hb5
  go_wp2_with fail
  go_ret
  exact ⟨rfl, HB5.out, vb', vk', es', HL.out, (by have := HX.out; omega), (by have := HX.out; omega)⟩
end Go.Proofs.YtoobileejdhikaaGreat
