/-
  The program's Code; bytes as strings.
  The law's World whole; the law's codes.
  The law's pick and step (Load and Code).
-/
import Derived.Test.YtoobileejdhikaaGreatGc6
import Derived.Test.YtoobileejdhikaaGreatGg3
import Derived.Laws.BytesArg
namespace Go.Proofs.YtoobileejdhikaaGreat
set_option maxRecDepth 100000
set_option maxHeartbeats 400000
open Go.RowKit

theorem code_any (f g cap : Nat) (xs : List Int) (w : World) (h : FiltAt w f g cap xs) (hn : xs.length ≤ 140737488355328) :
  Calls Tryz.prog 32 #[.pointer (some ⟨f, 0, none⟩)] w fun e w' => ∃ v, e = .returned v ∧ w'.ownsRow w.heap.size 5 1 v xs.length (byV xs) ∧ Below w.heap.size w w' := by
 have c0 := h.c
 have C := clone_any (some ⟨g, 0, none⟩) xs.length cap xs w rfl hn (.inr ⟨_, rfl, fun j u hj => by rw [addr_add, Nat.zero_add]; exact h.xs j u hj⟩) (fun e => by cases e)
 have HC := hideX C
 clear h C
 go_enter Tryz.func32, Tryz.ntmps32
 go_wp2_with (go_at_call 37; refine HC.out.mono ?_; rintro e w' ⟨v, rfl, hown, hb⟩)
 go_ret
 exact ⟨v, rfl, hown, hb⟩

theorem conv_bytes {w : World} {a : Option Addr} {n : Nat} (c : Nat) {xs : List Int} (hx : xs.length = n) (h : BytesAt w a xs) : Sem.run Tryz.prog (convert 22 9 (.slice a n c)) w = .ok (.string (strOfNums xs)) w := by
 refine (run_convert_bytes_string w 22 9 5 a n c Tryz.underlying22 Tryz.underlying5 Tryz.underlying9).trans ?_
 cases a with
 | none =>
  rcases h with rfl | ⟨ad, e, _⟩
  ·simp [Conv.bytesToString]; rfl
  ·cases e
 | some ad =>
  have hl : (loadCells ad n).run Tryz.prog w = .ok (xs.map (Value.int .u8)).toArray w := by
   have := run_loadCells_list (P := Tryz.prog) w ad (byV xs) (fun j v hj => by
    rcases h with rfl | ⟨ad', e, h⟩
    ·simp [byV] at hj
    ·cases e; exact h j v hj)
   rw [byV_len, hx] at this
   exact this
  rw [run_bytesToString w _ n c xs hl, foldl_push_bytes]
  simp [strOfNums, ByteArray.empty, ByteArray.emptyWithCapacity]
  rfl
theorem conv_own {w : World} {b n : Nat} {v : Value} {xs : List Int} (h : w.ownsRow b 5 1 v n (byV xs)) : Sem.run Tryz.prog (convert 22 9 v) w = .ok (.string (strOfNums xs)) w := by
 have hn : xs.length = n := by have := h.1; rw [byV_len] at this; omega
 have h' := h
 obtain ⟨_, ⟨rfl, rfl⟩ | ⟨g, cap, cur, rfl, _⟩⟩ := h'
 ·exact conv_bytes 0 hn (.inl (List.eq_nil_of_length_eq_zero hn))
 ·exact conv_bytes cap hn (.inr ⟨_, rfl, fun j u hj => World.ownsRow.cells h (g := g) rfl j u hj⟩)
end Go.Proofs.YtoobileejdhikaaGreat

namespace Go.Proofs.YtoobileejdhikaaGreat
set_option maxRecDepth 100000
set_option maxHeartbeats 8000000
open Go.RowKit
attribute [local go_sem ↓] Go.wp_at_zero Go.wp_at_succ

structure LWAt (base : Nat) (W : World) (pw : Nat) (v : Value) (ds : List PD) (vb vk : Value) (es : List ES) : Prop where
 w : WAt base W pw v ds
 b : BAt base W pw vb vk es
 vx : ∀ g, v.ownBlock = some g → vb.ownBlock ≠ some g ∧ vk.ownBlock ≠ some g ∧ ∀ e ∈ es, 0 < e.len → e.a ≠ some ⟨g, 0, none⟩
 dx : ∀ d ∈ ds, (∀ g, vb.ownBlock = some g → d.apart g) ∧ ∀ g, vk.ownBlock = some g → d.apart g
 sm : ∀ e ∈ es, e.len ≤ 1000000000
theorem LWAt.later {base pw : Nat} {W W' : World} {v vb vk : Value} {ds : List PD} {es : List ES} (h : LWAt base W pw v ds vb vk es) (hb : Below W.heap.size W W') : LWAt base W' pw v ds vb vk es :=
 ⟨h.w.later hb, h.b.later hb, h.vx, h.dx, h.sm⟩
theorem WAt.same {base pw : Nat} {W W' : World} {v : Value} {ds : List PD} (h : WAt base W pw v ds) (hs : W.heap.size ≤ W'.heap.size) (hc : W'.cell? ⟨pw, 0, none⟩ = W.cell? ⟨pw, 0, none⟩) (hz : ∀ o, W'.frozen? ⟨pw, o, none⟩ = false)
  (hb : ∀ k, k < W.heap.size → (v.ownBlock = some k ∨ ∃ d ∈ ds, ¬ d.apart k) → W'.heap[k]? = W.heap[k]?) : WAt base W' pw v ds := by
 refine ⟨hc.trans h.c, hz, Nat.lt_of_lt_of_le h.lp hs, ownsRow_same h.row (fun g hg hl => hb g hl (.inl hg)), h.vp, fun d hd => ⟨?_, (h.ds d hd).2⟩⟩
 have hp := (h.ds d hd).1
 exact hp.same (hb _ hp.filt.lf (.inr ⟨d, hd, fun q => q.1 rfl⟩)) (hb _ hp.filt.lg (.inr ⟨d, hd, fun q => q.2.1 rfl⟩)) (hb _ hp.lc (.inr ⟨d, hd, fun q => q.2.2.1 rfl⟩)) (hb _ hp.la.lt (.inr ⟨d, hd, fun q => q.2.2.2 rfl⟩)) hs
theorem PD.blk {d : PD} {W : World} (h : PairAt W d) {k : Nat} (hk : ¬ d.apart k) : k < W.heap.size := by
 have h1 := h.filt.lf; have h2 := h.filt.lg; have h3 := h.lc; have h4 := h.la.lt
 by_cases e1 : d.f = k
 ·omega
 by_cases e2 : d.g = k
 ·omega
 by_cases e3 : d.cb = k
 ·omega
 by_cases e4 : d.lb = k
 ·omega
 exact absurd ⟨e1, e2, e3, e4⟩ hk
theorem LWAt.owned {base pw : Nat} {W W' : World} {v vb vk vb' vk' : Value} {ds : List PD} {es es4 : List ES} {ba : Option Addr} {n : Nat} (h : LWAt base W pw v ds vb vk es) (ho : OwnEnd base pw vb vk es ba n W W' vb' vk' es4) (hba : ∀ g, ba = some ⟨g, 0, none⟩ → (v.ownBlock ≠ some g) ∧ ∀ d ∈ ds, d.apart g) (hn : n ≤ 1000000) : LWAt base W' pw v ds vb' vk' (es ++ es4) := by
 have hvl : ∀ g, v.ownBlock = some g → g < W.heap.size := fun g hg => (h.w.row.lt g hg).2
 refine ⟨h.w.same ho.size ho.c0 ho.b.z (fun k hk hc => ?_), ho.b, fun g hg => ⟨fun e => ?_, fun e => ?_, fun e he h0 q => ?_⟩, fun d hd => ⟨fun g hg => ?_, fun g hg => ?_⟩, fun e he => ?_⟩
 ·refine ho.block k hk (fun e => ?_) (fun e => ?_) (fun e => ?_) (fun e => ?_)
  ·subst e
   rcases hc with hc | ⟨d, hd, hc⟩
   ·exact h.w.vp k hc rfl
   ·exact hc (h.w.ds d hd).2.2.1
  ·rcases hc with hc | ⟨d, hd, hc⟩
   ·exact (h.vx k hc).1 e
   ·exact hc ((h.dx d hd).1 k e)
  ·rcases hc with hc | ⟨d, hd, hc⟩
   ·exact (h.vx k hc).2.1 e
   ·exact hc ((h.dx d hd).2 k e)
  ·rcases hc with hc | ⟨d, hd, hc⟩
   ·exact (hba k e).1 hc
   ·exact hc ((hba k e).2 d hd)
 ·rcases ho.ob g e with e2 | e2
  ·exact (h.vx g hg).1 e2
  ·have := hvl g hg; omega
 ·rcases ho.ok g e with e2 | e2
  ·exact (h.vx g hg).2.1 e2
  ·have := hvl g hg; omega
 ·rcases List.mem_append.1 he with he | he
  ·exact (h.vx g hg).2.2 e he h0 q
  ·rcases (ho.em e he).2 g q with e2 | e2
   ·exact (hba g e2).1 hg
   ·have := hvl g hg; omega
 ·rcases ho.ob g hg with e | e
  ·exact (h.dx d hd).1 g e
  ·exact Classical.byContradiction fun q => by have := PD.blk (h.w.ds d hd).1 q; omega
 ·rcases ho.ok g hg with e | e
  ·exact (h.dx d hd).2 g e
  ·exact Classical.byContradiction fun q => by have := PD.blk (h.w.ds d hd).1 q; omega
 ·rcases List.mem_append.1 he with he | he
  ·exact h.sm e he
  ·have := (ho.em e he).1; omega

theorem OwnEnd.below {base pw : Nat} {W W' : World} {vb vk vb' vk' : Value} {es es4 : List ES} {ba : Option Addr} {n : Nat} (ho : OwnEnd base pw vb vk es ba n W W' vb' vk' es4) (hB : BAt base W pw vb vk es) (hp : base ≤ pw) (hbase : base ≤ W.heap.size) (hba : ∀ g, ba = some ⟨g, 0, none⟩ → base ≤ g) : Below base W W' :=
 ⟨ho.os, ho.tape, ho.output, ho.size, fun k hk => ho.block k (by omega) (by omega) (fun e => by have := (hB.rb.lt k e).1; omega) (fun e => by have := (hB.rk.lt k e).1; omega) (fun e => by have := hba k e; omega)⟩
theorem BAt.keep {base pw : Nat} {W W' : World} {v vb vk : Value} {es : List ES} (h : BAt base W pw vb vk es) (hc : Chg pw v W W') (hz : ∀ o, W'.frozen? ⟨pw, o, none⟩ = false) (hx : ∀ g, v.ownBlock = some g → vb.ownBlock ≠ some g ∧ vk.ownBlock ≠ some g ∧ ∀ e ∈ es, 0 < e.len → e.a ≠ some ⟨g, 0, none⟩) : BAt base W' pw vb vk es :=
 ⟨hc.c1.trans h.c1, hc.c2.trans h.c2, hz, Nat.lt_of_lt_of_le h.lp hc.size, ownsRow_same h.rb (fun g hg hl => hc.block g hl (h.ob g hg).1 (fun e => (hx g e).1 hg)), ownsRow_same h.rk (fun g hg hl => hc.block g hl (h.ok g hg) (fun e => (hx g e).2.1 hg)), h.four, h.ob, h.ok,
  fun e he => ⟨(h.es e he).1.same (fun g h0 hg hl => hc.block g hl ((h.es e he).2.2 g h0 hg).1 (fun e2 => (hx g e2).2.2 e he h0 hg)) hc.size, (h.es e he).2⟩⟩
theorem lw_loads (base pw : Nat) (v vb vk : Value) (ds : List PD) (es : List ES) (a : Option Addr) (len cap : Nat) (B : Nat → Int) (W : World) (h : LWAt base W pw v ds vb vk es) (hp : base ≤ pw) (hbase : base ≤ W.heap.size) (hds : ds.length ≤ 1000000000) (hm : len ≤ 140737488355328) (hb : BytesIn W a len cap B) :
  Calls Tryz.prog 18 #[.pointer (some ⟨pw, 0, none⟩), .slice a len cap] W fun e W' => e = .returned (.bool true) ∧ Below base W W' ∧ ∃ v' ds', LWAt base W' pw v' ds' vb vk es ∧ ((ds' = ds ∧ ∀ n, len = 8 * n → 1 ≤ n → n ≤ 64 → ¬ LetIn B n) ∨ ds'.length = ds.length + 1) := by
 refine (loads_all base pw v ds a len cap B W h.w hbase hds hm hb).mono ?_
 rintro e W' ⟨rfl, v', ds', hw, hv, hc, hend⟩
 have hel : ∀ e ∈ es, 0 < e.len → ∀ g, e.a = some ⟨g, 0, none⟩ → g < W.heap.size := fun e he h0 g hg => by
  rcases (h.b.es e he).1 with q | ⟨g', q1, q2, _⟩
  ·omega
  ·rw [q1] at hg; cases hg; exact q2
 have hbl : ∀ g, vb.ownBlock = some g → g < W.heap.size := fun g hg => (h.b.rb.lt g hg).2
 have hkl : ∀ g, vk.ownBlock = some g → g < W.heap.size := fun g hg => (h.b.rk.lt g hg).2
 refine ⟨rfl, hc.below hp (fun g hg => own_base h.w.row g hg) hbase, v', ds', ⟨hw, h.b.keep hc hw.z h.vx, fun g hg => ?_, fun d hd => ?_, h.sm⟩, ?_⟩
 ·rcases hv g hg with e | e
  ·exact h.vx g e
  ·exact ⟨fun q => by have := hbl g q; omega, fun q => by have := hkl g q; omega, fun x hx h0 q => by have := hel x hx h0 g q; omega⟩
 ·rcases hend with ⟨rfl, _⟩ | ⟨d0, rfl, _, hs⟩
  ·exact h.dx d hd
  ·rcases List.mem_append.1 hd with hd | hd
   ·exact h.dx d hd
   ·rw [List.mem_singleton.1 hd]
    obtain ⟨s1, s2, s3, s4⟩ := hs
    exact ⟨fun g hg => by have := hbl g hg; exact ⟨by omega, by omega, by omega, by omega⟩, fun g hg => by have := hkl g hg; exact ⟨by omega, by omega, by omega, by omega⟩⟩
 ·rcases hend with h1 | ⟨d0, rfl, _, _⟩
  ·exact .inl h1
  ·right; rw [List.length_append, List.length_singleton]

def PD.val (d : PD) : Value := .agg #[.pointer (some ⟨d.f, 0, none⟩), .slice (some ⟨d.cb, 0, none⟩) d.len d.cc, .slice (some ⟨d.lb, 0, none⟩) d.n d.lc]

theorem codes_any (base pw : Nat) (v vb vk : Value) (ds : List PD) (es : List ES) (d : PD) (W : World) (h : LWAt base W pw v ds vb vk es) (hpb : base ≤ pw) (hbase : base ≤ W.heap.size) (hlen : es.length ≤ 4000000000) (hd : d ∈ ds) :
  Calls Tryz.prog 67 #[.pointer (some ⟨pw, 0, none⟩), .agg #[.pointer (some ⟨d.f, 0, none⟩), .slice (some ⟨d.cb, 0, none⟩) d.len d.cc, .slice (some ⟨d.lb, 0, none⟩) d.n d.lc]] W fun e W' => e = .returned (.bool true) ∧ Below base W W' ∧ ∃ vb' vk' es', LWAt base W' pw v ds vb' vk' es' ∧ es'.length = es.length + 4 := by
 have hp := (h.w.ds d hd).1
 have hok := (h.w.ds d hd).2.1
 have hl := hok.hl
 have hn2 := hok.n2
 have hl2 : d.len ≤ 512 := by omega
 have HH := hideM h
 have HP := hideM hp
 clear h hp hok hl hn2
 go_enter Tryz.func67, Tryz.ntmps67
 go_wp2_with fail
 have hfi := HP.out.filt.same (W' := W.alloc (.cells #[.pointer (some ⟨d.f, 0, none⟩), .slice (some ⟨d.cb, 0, none⟩) d.len d.cc, .slice (some ⟨d.lb, 0, none⟩) d.n d.lc] 45)) (heap_alloc_old W _ HP.out.filt.lf) (heap_alloc_old W _ HP.out.filt.lg) (by simp)
 refine (code_any d.f d.g d.c _ _ hfi (by rw [codeL_len]; omega)).mono ?_
 rintro e w2 ⟨v2, rfl, hown2, hb2⟩
 rw [codeL_len] at hown2
 obtain ⟨ba, bc, hv2⟩ := size_row hown2
 subst hv2
 have hb1 : Below W.heap.size W w2 := (below_alloc W _).trans (hb2.mono (by simp))
 have q1 : w2.cell? ⟨W.heap.size, 1, none⟩ = some (.slice (some ⟨d.cb, 0, none⟩) d.len d.cc) := by rw [hb2.cell (by simp)]; simp
 have hc1 := conv_own hown2
 have hby : BytesAt w2 (some ⟨d.cb, 0, none⟩) (codeL d.B d.len) := .inr ⟨_, rfl, fun j u hj => by
  obtain ⟨h1, rfl⟩ := codeL_at _ _ j u hj
  rw [addr_add, Nat.zero_add, hb1.cell (p := ⟨d.cb, j, none⟩) HP.out.lc]; exact HP.out.code j h1⟩
 have hc2 := conv_bytes d.cc (codeL_len _ _) hby
 generalize strOfNums (codeL d.B d.len) = st at hc1 hc2
 have HT := hideM (HH.out.later hb1)
 have HO := hideM hown2
 have hbl : ∀ g, ba = some ⟨g, 0, none⟩ → W.heap.size < g := fun g hg => by
  have := (hown2.lt g (by rw [hg]; rfl)).1
  simp at this; omega
 have HBL := hideM hbl
 have hsz := hb1.size
 have HB1 : Hid (Below base W w2) := hb1.mono hbase
 clear hown2 hby hfi hb2 hb1 hbl
 go_wp2_with fail
 refine (own_any base pw vb vk es ba d.len bc _ _ w2 HT.out.b (by omega) hlen HO.out (by omega) (fun g hg => ?_)).mono ?_
 ·have h1 := HBL.out g hg
  have h2 := HH.out.w.lp
  exact ⟨by omega, fun e => by have := (HH.out.b.rb.lt g e).2; omega, fun e => by have := (HH.out.b.rk.lt g e).2; omega, fun e he h0 q => by
   rcases (HH.out.b.es e he).1 with h3 | ⟨g', h3, h4, _⟩
   ·omega
   ·rw [h3] at q; cases q; omega⟩
 rintro e w3 ⟨rfl, vb', vk', es4, hO⟩
 have hL := HT.out.owned hO (fun g hg => by
  have h1 := HBL.out g hg
  exact ⟨fun e => by have := (HH.out.w.row.lt g e).2; omega, fun d' hd' => Classical.byContradiction fun q => by have := PD.blk (HH.out.w.ds d' hd').1 q; omega⟩) (by omega)
 have HL := hideM hL
 have HF := hideM hO.four
 have HBB := hideM (HB1.out.trans (hO.below HT.out.b hpb (by omega) (fun g hg => by have := HBL.out g hg; omega)))
 clear hL hO
 go_wp2_with fail
 go_ret
 exact ⟨rfl, HBB.out, vb', vk', es ++ es4, HL.out, by rw [List.length_append, HF.out]⟩
end Go.Proofs.YtoobileejdhikaaGreat

namespace Go.Proofs.YtoobileejdhikaaGreat
set_option maxRecDepth 100000
set_option maxHeartbeats 8000000
open Go.RowKit
attribute [local go_sem ↓] Go.wp_at_zero Go.wp_at_succ

def pickN (c : Int) (n : Nat) : Nat := ((if c < 0 then -(c + 1) else c) % (n : Int)).toNat
theorem pickN_lt (c : Int) (n : Nat) (h : 1 ≤ n) : pickN c n < n := by
 unfold pickN
 have e2 := Int.emod_nonneg (if c < 0 then -(c + 1) else c) (show ¬ (n : Int) = 0 by omega)
 have e3 := Int.emod_lt_of_pos (if c < 0 then -(c + 1) else c) (show (0 : Int) < n by omega)
 omega

theorem pick_any (c : Int) (n : Nat) (w : World) (h1 : -9223372036854775808 ≤ c) (h2 : c ≤ 9223372036854775807) (hn : 1 ≤ n) (hn2 : n ≤ 1000000000) :
  Calls Tryz.prog 66 #[.int .i64 c, .int .i64 n] w fun e w' => e = .returned (.int .i64 (pickN c n)) ∧ w = w' := by
 have n0 : ¬ (n : Int) = 0 := by omega
 have nb : ((n : Int) == 0) = false := by simpa using n0
 by_cases hc : c < 0
 ·have w1 : IntKind.i64.wrap (c + 1) = c + 1 := by rw [IntKind.wrap_i64]; omega
  have w2 : IntKind.i64.wrap (-(c + 1)) = -(c + 1) := by rw [IntKind.wrap_i64]; omega
  go_enter Tryz.func66, Tryz.ntmps66
  go_wp2_with fail
  go_ret
  have e1 : -(c + 1).tmod n = (-(c + 1)) % (n : Int) := by rw [← Int.neg_tmod]; exact Int.tmod_eq_emod_of_nonneg (by omega)
  have e2 := Int.emod_nonneg (-(c + 1)) n0
  refine ⟨?_, rfl⟩
  unfold pickN
  rw [if_pos hc, Int.toNat_of_nonneg e2, ← e1]; rfl
 ·go_enter Tryz.func66, Tryz.ntmps66
  go_wp2_with fail
  go_ret
  have e2 := Int.emod_nonneg c n0
  refine ⟨?_, rfl⟩
  unfold pickN
  rw [if_neg (by omega), Int.toNat_of_nonneg e2]; rfl

theorem pairsL_at (ds : List PD) (r j : Nat) (hr : r < ds.length) (hj : j < 3) : (pairsL ds)[r * 3 + j]? = (ds[r]).cells[j]? := by
 induction ds generalizing r with
 | nil => simp at hr
 | cons d ds ih =>
  show ((d.cells) ++ pairsL ds)[r * 3 + j]? = _
  have hl : d.cells.length = 3 := rfl
  cases r with
  | zero => rw [List.getElem?_append_left (by omega)]; simp
  | succ r =>
   rw [List.getElem?_append_right (by omega), hl, show (r + 1) * 3 + j - 3 = r * 3 + j from by omega]
   exact ih r (by simpa using hr)

theorem step_load (base pw : Nat) (v vb vk : Value) (ds : List PD) (es : List ES) (E : Int) (a : Option Addr) (len cap : Nat) (B : Nat → Int) (W : World) (h : LWAt base W pw v ds vb vk es) (hp : base ≤ pw) (hbase : base ≤ W.heap.size) (hds : ds.length ≤ 1000000000) (hm : len ≤ 140737488355328) (hb : BytesIn W a len cap B) :
  Calls Tryz.prog 42 #[.pointer (some ⟨pw, 0, none⟩), .agg #[.int .i64 1, .int .i64 E, .slice a len cap]] W fun e W' => e = .returned (.bool true) ∧ Below base W W' ∧ ∃ v' ds', LWAt base W' pw v' ds' vb vk es ∧ ds.length ≤ ds'.length ∧ ds'.length ≤ ds.length + 1 := by
 have HH := hideM (h.later (below_alloc W (.cells #[.int .i64 1, .int .i64 E, .slice a len cap] 78)))
 have HB := hideM (hb.later (below_alloc W (.cells #[.int .i64 1, .int .i64 E, .slice a len cap] 78)) (Nat.le_refl _))
 clear h hb
 go_enter Tryz.func42, Tryz.ntmps42
 go_wp2_with fail
 refine (lw_loads base pw v vb vk ds es a len cap B _ HH.out hp (by simp; omega) hds hm HB.out).mono ?_
 rintro e w2 ⟨rfl, hb2, v', ds', hL, hor⟩
 have HL := hideM hL
 have HO := hideM hor
 have HB2 : Hid (Below base W w2) := ((below_alloc W _).mono hbase).trans hb2
 clear hL hor hb2
 go_wp2_with fail
 go_ret
 refine ⟨rfl, HB2.out, v', ds', HL.out, ?_⟩
 rcases HO.out with ⟨rfl, _⟩ | h1
 ·exact ⟨Nat.le_refl _, by omega⟩
 ·exact ⟨by omega, by omega⟩

theorem step_code (base pw : Nat) (v vb vk : Value) (ds : List PD) (es : List ES) (K E : Int) (a : Option Addr) (len cap : Nat) (W : World) (h : LWAt base W pw v ds vb vk es) (hp : base ≤ pw) (hbase : base ≤ W.heap.size) (hds : ds.length ≤ 1000000000) (hd1 : 1 ≤ ds.length) (hlen : es.length ≤ 4000000000)
  (hE1 : -9223372036854775808 ≤ E) (hE2 : E ≤ 9223372036854775807) (hK1 : ¬ K = 1) (hK3 : ¬ K = 3) :
  Calls Tryz.prog 42 #[.pointer (some ⟨pw, 0, none⟩), .agg #[.int .i64 K, .int .i64 E, .slice a len cap]] W fun e W' => e = .returned (.bool true) ∧ Below base W W' ∧ ∃ vb' vk' es', LWAt base W' pw v ds vb' vk' es' ∧ es.length ≤ es'.length ∧ es'.length ≤ es.length + 4 := by
 have hK1b : (K == 1) = false := by simpa using hK1
 have hK3b : (K == 3) = false := by simpa using hK3
 obtain ⟨g, gc, hv, hg1, hg2, hg3, hg4, hg5⟩ := h.w.slice (by intro e; rw [e] at hd1; simp at hd1)
 subst hv
 have HH := hideM (h.later (below_alloc W (.cells #[.int .i64 K, .int .i64 E, .slice a len cap] 78)))
 have HB1 := hideM (below_alloc W (.cells #[.int .i64 K, .int .i64 E, .slice a len cap] 78))
 have b0 : (W.alloc (.cells #[.int .i64 K, .int .i64 E, .slice a len cap] 78)).cell? ⟨W.heap.size, 0, none⟩ = some (.int .i64 K) := by simp
 have b1 : (W.alloc (.cells #[.int .i64 K, .int .i64 E, .slice a len cap] 78)).cell? ⟨W.heap.size, 1, none⟩ = some (.int .i64 E) := by simp
 have hsz : (W.alloc (.cells #[.int .i64 K, .int .i64 E, .slice a len cap] 78)).heap.size = W.heap.size + 1 := by simp
 have c0 := HH.out.w.c
 have hlb : ¬ (ds.length : Int) = 0 := by omega
 have hlbb : ((ds.length : Int) == 0) = false := by simpa using hlb
 have HP : Hid (∀ r j, r < ds.length → j < 3 → W.cell? ⟨g, r * 3 + j, none⟩ = (ds.getD r ⟨0, 0, 0, 0, 0, 0, 0, 0, 0, fun _ => 0⟩).cells[j]?) := fun r j hr hj => by
  rw [hg5 (r * 3 + j) (by omega), pairsL_at ds r j hr hj, List.getD_eq_getElem?_getD, List.getElem?_eq_getElem hr]; rfl
 clear h hg5
 go_enter Tryz.func42, Tryz.ntmps42
 go_wp2_with fail
 generalize W.alloc (.cells #[.int .i64 K, .int .i64 E, .slice a len cap] 78) = w1 at HH HB1 b0 b1 hsz c0 ⊢
 have HP1 : Hid (∀ r, r < ds.length → ∃ d ∈ ds, w1.cell? ⟨g, r * 3, none⟩ = some (.pointer (some ⟨d.f, 0, none⟩)) ∧ w1.cell? ⟨g, r * 3 + 1, none⟩ = some (.slice (some ⟨d.cb, 0, none⟩) d.len d.cc) ∧ w1.cell? ⟨g, r * 3 + 2, none⟩ = some (.slice (some ⟨d.lb, 0, none⟩) d.n d.lc)) := fun r hr => by
  refine ⟨ds.getD r ⟨0, 0, 0, 0, 0, 0, 0, 0, 0, fun _ => 0⟩, ?_, ?_, ?_, ?_⟩
  ·rw [List.getD_eq_getElem?_getD, List.getElem?_eq_getElem hr]; exact List.getElem_mem hr
  ·rw [HB1.out.cell (p := ⟨g, r * 3, none⟩) hg2, show r * 3 = r * 3 + 0 from rfl, HP.out r 0 hr (by omega)]; rfl
  ·rw [HB1.out.cell (p := ⟨g, r * 3 + 1, none⟩) hg2, HP.out r 1 hr (by omega)]; rfl
  ·rw [HB1.out.cell (p := ⟨g, r * 3 + 2, none⟩) hg2, HP.out r 2 hr (by omega)]; rfl
 have l0 : (0 : Int) < (ds.length : Int) := by omega
 clear HP
 have hpl := pickN_lt E ds.length hd1
 have HPK := hideM (fun w => pick_any E ds.length w hE1 hE2 hd1 hds)
 generalize pickN E ds.length = r at hpl HPK
 obtain ⟨d, hd, r0, r1, r2⟩ := HP1.out r hpl
 have ri : (r : Int) < (ds.length : Int) := by omega
 have rj : (0 : Int) ≤ (r : Int) := by omega
 have hs1 := HB1.out.size
 have hpd := hideM (HH.out.w.ds d hd).1
 have HD := hideM hd
 clear HP1 hd
 have HB9 : Hid (Below w1.heap.size w1 (w1.alloc (.cells #[.pointer (some ⟨d.f, 0, none⟩), .slice (some ⟨d.cb, 0, none⟩) d.len d.cc, .slice (some ⟨d.lb, 0, none⟩) d.n d.lc] 45)).drew) := (below_alloc _ _).drew
 have HBW : Hid (Below base W (w1.alloc (.cells #[.pointer (some ⟨d.f, 0, none⟩), .slice (some ⟨d.cb, 0, none⟩) d.len d.cc, .slice (some ⟨d.lb, 0, none⟩) d.n d.lc] 45)).drew) := (HB1.out.mono hbase).trans ((below_alloc _ _).drew.mono (by omega))
 by_cases hK2 : K = 2
 ·subst hK2
  go_region_held3 (fun w' => w'.cell? ⟨pw, 0, none⟩ = some (.slice (some ⟨g, 0, none⟩) ds.length gc) ∧ w'.cell? ⟨W.heap.size, 0, none⟩ = some (.int .i64 2) ∧ w'.cell? ⟨W.heap.size, 1, none⟩ = some (.int .i64 E) ∧ w'.cell? ⟨g, r * 3, none⟩ = some (.pointer (some ⟨d.f, 0, none⟩)) ∧ w'.cell? ⟨g, r * 3 + 1, none⟩ = some (.slice (some ⟨d.cb, 0, none⟩) d.len d.cc) ∧ w'.cell? ⟨g, r * 3 + 2, none⟩ = some (.slice (some ⟨d.lb, 0, none⟩) d.n d.lc)) (go_keep) ((go_at_call 66; refine (HPK.out _).mono ?_; rintro e w' ⟨rfl, rfl⟩))
  all_goals go_wp2_with fail
  all_goals
   refine (codes_any base pw _ vb vk ds es d _ (HH.out.later HB9.out) hp (Nat.le_trans hbase HBW.out.size) hlen HD.out).mono ?_
   rintro e w5 ⟨rfl, hb5, vb', vk', es', hL, hl⟩
   have HL := hideM hL
   have HX := hideM hl
   have HB5 := hideM (HBW.out.trans hb5)
   clear hL hl hb5
   go_wp2_with fail
   go_ret
   exact ⟨rfl, HB5.out, vb', vk', es', HL.out, (by have := HX.out; omega), (by have := HX.out; omega)⟩
 ·have hK2b : (K == 2) = false := by simpa using hK2
  go_region_held3 (fun w' => w'.cell? ⟨pw, 0, none⟩ = some (.slice (some ⟨g, 0, none⟩) ds.length gc) ∧ w'.cell? ⟨W.heap.size, 0, none⟩ = some (.int .i64 K) ∧ w'.cell? ⟨W.heap.size, 1, none⟩ = some (.int .i64 E) ∧ w'.cell? ⟨g, r * 3, none⟩ = some (.pointer (some ⟨d.f, 0, none⟩)) ∧ w'.cell? ⟨g, r * 3 + 1, none⟩ = some (.slice (some ⟨d.cb, 0, none⟩) d.len d.cc) ∧ w'.cell? ⟨g, r * 3 + 2, none⟩ = some (.slice (some ⟨d.lb, 0, none⟩) d.n d.lc)) (go_keep) ((go_at_call 66; refine (HPK.out _).mono ?_; rintro e w' ⟨rfl, rfl⟩))
  all_goals go_wp2_with fail
  all_goals
   go_ret
   exact ⟨rfl, HBW.out, vb, vk, es, HH.out.later HB9.out, Nat.le_refl _, by omega⟩
end Go.Proofs.YtoobileejdhikaaGreat
