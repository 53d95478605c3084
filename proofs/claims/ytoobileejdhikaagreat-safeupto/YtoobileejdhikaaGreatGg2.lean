/-
  The law's World in memory: the filters, each with its code and the document's instructions.
  The law's loads: Load, twice, against the document's Shape and Plain.
  The law's loads, of any bytes; its World when it is new.
-/
import Derived.Test.YtoobileejdhikaaGreatGc7
import Derived.Test.YtoobileejdhikaaGreatGg0
import Derived.Test.YtoobileejdhikaaGreatGf9
import Derived.Test.YtoobileejdhikaaGreatGe2
import Derived.Test.YtoobileejdhikaaGreatGg1
import Derived.Deep.AppendLies
import Derived.WalkSpells
import Derived.Deep.RegionHeld3
import Derived.Deep.DrawnRows
namespace Go.Proofs.YtoobileejdhikaaGreat
open Go.RowKit

structure PD where
 f : Nat
 g : Nat
 c : Nat
 cb : Nat
 cc : Nat
 lb : Nat
 lc : Nat
 n : Nat
 len : Nat
 B : Nat → Int
def PD.cells (d : PD) : List Value := [.pointer (some ⟨d.f, 0, none⟩), .slice (some ⟨d.cb, 0, none⟩) d.len d.cc, .slice (some ⟨d.lb, 0, none⟩) d.n d.lc]
def PD.apart (d : PD) (x : Nat) : Prop := d.f ≠ x ∧ d.g ≠ x ∧ d.cb ≠ x ∧ d.lb ≠ x
def PD.since (d : PD) (k : Nat) : Prop := k ≤ d.f ∧ k ≤ d.g ∧ k ≤ d.cb ∧ k ≤ d.lb
structure PD.Ok (d : PD) : Prop where
 by1 : ∀ i, 0 ≤ d.B i ∧ d.B i ≤ 255
 hl : d.len = 8 * d.n
 n1 : 1 ≤ d.n
 n2 : d.n ≤ 64
 good : ∀ j, j < d.n → bad d.B d.n j = false
 safe : safeP (piOf d.B) d.n = none
structure PairAt (W : World) (d : PD) : Prop where
 filt : FiltAt W d.f d.g d.c (codeL d.B d.len)
 code : ∀ i, i < d.len → W.cell? ⟨d.cb, i, none⟩ = some (.int .u8 (d.B i))
 lc : d.cb < W.heap.size
 cle : d.len ≤ d.cc ∧ d.cc ≤ 9223372036854775807
 la : LAt W d.lb (riOf d.B) d.n
 lle : d.n ≤ d.lc
theorem PairAt.same {W W' : World} {d : PD} (h : PairAt W d) (h1 : W'.heap[d.f]? = W.heap[d.f]?) (h2 : W'.heap[d.g]? = W.heap[d.g]?) (h3 : W'.heap[d.cb]? = W.heap[d.cb]?) (h4 : W'.heap[d.lb]? = W.heap[d.lb]?) (hs : W.heap.size ≤ W'.heap.size) : PairAt W' d :=
 ⟨h.filt.same h1 h2 hs, fun i hi => by rw [World.cell?_of_block (w := W) (a := ⟨d.cb, i, none⟩) h3]; exact h.code i hi, Nat.lt_of_lt_of_le h.lc hs, h.cle, h.la.same h4 hs, h.lle⟩
theorem PairAt.later {W W' : World} {d : PD} (h : PairAt W d) (hb : Below W.heap.size W W') : PairAt W' d :=
 h.same (hb.block _ h.filt.lf) (hb.block _ h.filt.lg) (hb.block _ h.lc) (hb.block _ h.la.lt) hb.size
def pairsL (ds : List PD) : List Value := ds.flatMap PD.cells
theorem pairsL_add (ds : List PD) (d : PD) : pairsL (ds ++ [d]) = pairsL ds ++ d.cells := by simp [pairsL]
structure WAt (base : Nat) (W : World) (pw : Nat) (v : Value) (ds : List PD) : Prop where
 c : W.cell? ⟨pw, 0, none⟩ = some v
 z : ∀ o, W.frozen? ⟨pw, o, none⟩ = false
 lp : pw < W.heap.size
 row : W.ownsRow base 45 3 v ds.length (pairsL ds)
 vp : ∀ g, v.ownBlock = some g → g ≠ pw
 ds : ∀ d ∈ ds, PairAt W d ∧ d.Ok ∧ d.apart pw ∧ ∀ g, v.ownBlock = some g → d.apart g
theorem WAt.later {base : Nat} {W W' : World} {pw : Nat} {v : Value} {ds : List PD} (h : WAt base W pw v ds) (hb : Below W.heap.size W W') : WAt base W' pw v ds :=
 ⟨(World.cell?_of_block (w := W) (a := ⟨pw, 0, none⟩) (hb.block pw h.lp)).trans h.c, fun o => (World.frozen?_of_block (a := ⟨pw, o, none⟩) (hb.block pw h.lp)).trans (h.z o), Nat.lt_of_lt_of_le h.lp hb.size, ownsRow_below h.row hb, h.vp, fun d hd => ⟨(h.ds d hd).1.later hb, (h.ds d hd).2⟩⟩
def LetIn (B : Nat → Int) (n : Nat) : Prop := (∀ j, j < n → bad B n j = false) ∧ safeP (piOf B) n = none
structure Chg (pw : Nat) (v : Value) (W W' : World) : Prop where
 os : W'.os = W.os
 tape : W'.tape = W.tape
 output : W'.output = W.output
 size : W.heap.size ≤ W'.heap.size
 block : ∀ k, k < W.heap.size → k ≠ pw → v.ownBlock ≠ some k → W'.heap[k]? = W.heap[k]?
 c1 : W'.cell? ⟨pw, 1, none⟩ = W.cell? ⟨pw, 1, none⟩
 c2 : W'.cell? ⟨pw, 2, none⟩ = W.cell? ⟨pw, 2, none⟩
theorem Chg.of_below {pw : Nat} {v : Value} {W W' : World} (h : Below W.heap.size W W') (hp : pw < W.heap.size) : Chg pw v W W' :=
 ⟨h.os, h.tape, h.output, h.size, fun k hk _ _ => h.block k hk, World.cell?_of_block (w := W) (a := ⟨pw, 1, none⟩) (h.block pw hp), World.cell?_of_block (w := W) (a := ⟨pw, 2, none⟩) (h.block pw hp)⟩
theorem Chg.below {pw base : Nat} {v : Value} {W W' : World} (h : Chg pw v W W') (hp : base ≤ pw) (hv : ∀ g, v.ownBlock = some g → base ≤ g) (hB : base ≤ W.heap.size) : Below base W W' :=
 ⟨h.os, h.tape, h.output, h.size, fun k hk => h.block k (by omega) (by omega) (fun e => by have := hv k e; omega)⟩
def LoadsEnd (base pw : Nat) (v : Value) (ds : List PD) (B : Nat → Int) (n : Nat) (W W' : World) : Prop :=
 ((WAt base W' pw v ds ∧ ¬ LetIn B n) ∨ ∃ v' d, d.B = B ∧ d.n = n ∧ d.since W.heap.size ∧ WAt base W' pw v' (ds ++ [d]) ∧ (∀ g, v'.ownBlock = some g → v.ownBlock = some g ∨ W.heap.size ≤ g)) ∧ Chg pw v W W'
theorem Tryz.infoP : (Tryz.prog.info? 45).map (fun i => (i.zero, i.size, i.bytes)) = some (some (.agg #[.pointer none, .slice none 0 0, .slice none 0 0]), 3, 56) := by kernel_rfl
theorem WAt.added {base pw g cap : Nat} {v : Value} {ds : List PD} {d : PD} {W w2 : World} (h : WAt base W pw v ds) (hown : w2.ownsRow base 45 3 (.slice (some ⟨g, 0, none⟩) (ds.length + 1) cap) (ds.length + 1) (pairsL ds ++ d.cells))
  (hgrow : W.grownBy w2 v.ownBlock) (hat : v.ownBlock = some g ∨ g = W.heap.size) (hd : PairAt W d) (hok : d.Ok) (hap : d.apart pw) (hav : ∀ g, v.ownBlock = some g → d.apart g) :
  WAt base (w2.setCell ⟨pw, 0, none⟩ (.slice (some ⟨g, 0, none⟩) (ds.length + 1) cap)) pw (.slice (some ⟨g, 0, none⟩) (ds.length + 1) cap) (ds ++ [d]) := by
 have hlp := h.lp
 have hgp : g ≠ pw := by
  rcases hat with e | e
  ·exact h.vp g e
  ·omega
 have bpw : w2.heap[pw]? = W.heap[pw]? := hgrow.block pw hlp (fun e => h.vp pw e.symm rfl)
 have blk : ∀ k, k < W.heap.size → k ≠ pw → (∀ g, v.ownBlock = some g → k ≠ g) → (w2.setCell ⟨pw, 0, none⟩ (.slice (some ⟨g, 0, none⟩) (ds.length + 1) cap)).heap[k]? = W.heap[k]? := fun k hk h1 h2 => by
  rw [heap_setCell_other _ _ _ _ h1]; exact hgrow.block k hk (fun e => h2 k e.symm rfl)
 have hsz : W.heap.size ≤ (w2.setCell ⟨pw, 0, none⟩ (.slice (some ⟨g, 0, none⟩) (ds.length + 1) cap)).heap.size := by rw [size_setCell]; exact hgrow.size
 have keep : ∀ q : PD, PairAt W q → q.apart pw → (∀ g, v.ownBlock = some g → q.apart g) → PairAt (w2.setCell ⟨pw, 0, none⟩ (.slice (some ⟨g, 0, none⟩) (ds.length + 1) cap)) q := fun q hq h1 h2 =>
  hq.same (blk _ hq.filt.lf h1.1 (fun g hg => (h2 g hg).1)) (blk _ hq.filt.lg h1.2.1 (fun g hg => (h2 g hg).2.1)) (blk _ hq.lc h1.2.2.1 (fun g hg => (h2 g hg).2.2.1)) (blk _ hq.la.lt h1.2.2.2 (fun g hg => (h2 g hg).2.2.2)) hsz
 have away : ∀ q : PD, PairAt W q → (∀ g, v.ownBlock = some g → q.apart g) → q.apart g := fun q hq h2 => by
  rcases hat with e | e
  ·exact h2 g e
  ·subst e
   have h1 := hq.filt.lf; have h2 := hq.filt.lg; have h3 := hq.lc; have h4 := hq.la.lt
   exact ⟨by omega, by omega, by omega, by omega⟩
 refine ⟨?_, fun o => ?_, Nat.lt_of_lt_of_le hlp hsz, ?_, fun g' hg' => ?_, fun q hq => ?_⟩
 ·exact cell_set_same (v := v) ((World.cell?_of_block (w := W) (a := ⟨pw, 0, none⟩) bpw).trans h.c)
 ·rw [World.frozen?_setCell]; exact (World.frozen?_of_block (a := ⟨pw, o, none⟩) bpw).trans (h.z o)
 ·rw [List.length_append, pairsL_add]
  obtain ⟨hl, h1 | ⟨g', cap', cur, e1, e2, e3, e4⟩⟩ := hown
  ·exact absurd h1.2 (by omega)
  ·refine ⟨hl, .inr ⟨g', cap', cur, e1, e2, ?_, e4⟩⟩
   have : g' = g := by have e5 := e1; simp only [Value.slice.injEq, Option.some.injEq, Addr.mk.injEq] at e5; exact e5.1.1.symm
   subst this
   rw [heap_setCell_other _ _ _ _ hgp]; exact e3
 ·simp only [Value.ownBlock, Option.some.injEq] at hg'
  omega
 ·have key : PairAt W q ∧ q.Ok ∧ q.apart pw ∧ ∀ g, v.ownBlock = some g → q.apart g := by
   rcases List.mem_append.1 hq with hq | hq
   ·exact h.ds q hq
   ·rw [List.mem_singleton.1 hq]; exact ⟨hd, hok, hap, hav⟩
  refine ⟨keep q key.1 key.2.2.1 key.2.2.2, key.2.1, key.2.2.1, fun g' hg' => ?_⟩
  simp only [Value.ownBlock, Option.some.injEq] at hg'
  subst hg'
  exact away q key.1 key.2.2.2
theorem Chg.added {pw g : Nat} {v u : Value} {W w2 : World} (hgrow : W.grownBy w2 v.ownBlock) (hp : pw < W.heap.size) (hv : ∀ g, v.ownBlock = some g → g ≠ pw) (_hg : v.ownBlock = some g ∨ g = W.heap.size) : Chg pw v W (w2.setCell ⟨pw, 0, none⟩ u) := by
 have bpw : w2.heap[pw]? = W.heap[pw]? := hgrow.block pw hp (fun e => hv pw e.symm rfl)
 have hb := (Below.refl 0 w2).setCell (p := ⟨pw, 0, none⟩) (Nat.zero_le _) u
 refine ⟨hb.os.trans hgrow.os, hb.tape.trans hgrow.tape, hb.output.trans hgrow.output, Nat.le_trans hgrow.size hb.size, fun k hk h1 h2 => ?_, ?_, ?_⟩
 ·rw [heap_setCell_other _ _ _ _ h1]; exact hgrow.block k hk (fun e => h2 e.symm)
 ·rw [cell_set_off (by omega)]; exact World.cell?_of_block (w := W) (a := ⟨pw, 1, none⟩) bpw
 ·rw [cell_set_off (by omega)]; exact World.cell?_of_block (w := W) (a := ⟨pw, 2, none⟩) bpw
theorem Chg.after {pw : Nat} {v : Value} {W W1 W2 : World} (h : Chg pw v W1 W2) (hb : Below W.heap.size W W1) (hp : pw < W.heap.size) : Chg pw v W W2 :=
 ⟨h.os.trans hb.os, h.tape.trans hb.tape, h.output.trans hb.output, Nat.le_trans hb.size h.size, fun k hk h1 h2 => (h.block k (Nat.lt_of_lt_of_le hk hb.size) h1 h2).trans (hb.block k hk),
  h.c1.trans (World.cell?_of_block (w := W) (a := ⟨pw, 1, none⟩) (hb.block pw hp)), h.c2.trans (World.cell?_of_block (w := W) (a := ⟨pw, 2, none⟩) (hb.block pw hp))⟩
end Go.Proofs.YtoobileejdhikaaGreat

namespace Go.Proofs.YtoobileejdhikaaGreat
set_option maxRecDepth 100000
set_option maxHeartbeats 8000000
open Go.RowKit
attribute [local go_sem ↓] Go.wp_at_zero Go.wp_at_succ

theorem given_later {W W' : World} {g bl : Nat} {B : Nat → Int} (h : GivenAt W g bl B) (hb : Below W.heap.size W W') : GivenAt W' g bl B :=
 ⟨fun i hi => by rw [World.cell?_of_block (w := W) (a := ⟨g, i, none⟩) (hb.block g h.l)]; exact h.c i hi, fun i h1 h2 => by rw [World.cell?_of_block (w := W) (a := ⟨g, i, none⟩) (hb.block g h.l)]; exact h.s i h1 h2,
  fun i => (World.frozen?_of_block (a := ⟨g, i, none⟩) (hb.block g h.l)).trans (h.z i), Nat.lt_of_lt_of_le h.l hb.size⟩
theorem tch_new {g : Nat} {W w2 w3 : World} (h : Below W.heap.size W w2) (t : Tch g g w2 w3) (hg : W.heap.size ≤ g) : Below W.heap.size W w3 := h.trans (t.below hg hg h.size)

theorem loads_len (base pw : Nat) (v : Value) (ds : List PD) (ba : Option Addr) (b o len bc : Nat) (B : Nat → Int) (W : World) (hW : WAt base W pw v ds) (hm : len ≤ 140737488355328) (hb : 0 < len → ba = some ⟨b, o, none⟩) (hn : ba = none → len = 0 ∧ bc = 0)
  (hc : ∀ i, i < len → W.cell? ⟨b, o + i, none⟩ = some (.int .u8 (B i))) (h : len = 0 ∨ ¬ len % 8 = 0 ∨ 64 < len / 8) :
  Calls Tryz.prog 18 #[.pointer (some ⟨pw, 0, none⟩), .slice ba len bc] W fun e W' => e = .returned (.bool true) ∧ WAt base W' pw v ds ∧ Below W.heap.size W W' := by
 have HW := hideM hW
 have HB := hideM hb
 have HC := hideM hc
 have HH := hideM h
 have HN := hideM hn
 clear hW hb hc h hn
 go_enter Tryz.func18, Tryz.ntmps18
 go_wp2_with fail
 refine (given_any ba b o len bc B W hm HB.out HC.out).mono ?_
 rintro e w1 ⟨g1, rfl, hg1, hge, hb1⟩
 have HG1 := hideM hg1
 have HB1 := hideM hb1
 clear hg1 hb1
 go_wp2_with fail
 have hpart : ∃ ra rc, Calls Tryz.prog 45 #[.slice (some ⟨g1, 0, none⟩) (len + 8) (len + 8), .slice ba len bc] w1 fun e w' => e = .returned (.slice ra len rc) ∧ w1 = w' := by
  cases ba with
  | none =>
   obtain ⟨rfl, rfl⟩ := HN.out rfl
   exact ⟨none, 0, part_nil _ w1⟩
  | some a => exact ⟨_, _, part_some g1 (len + 8) (len + 8) a len bc w1 (by omega)⟩
 obtain ⟨ra, rc, hp⟩ := hpart
 refine hp.mono ?_
 rintro e w1' ⟨rfl, rfl⟩
 clear hp
 go_wp2_with fail
 refine (load_len ra len rc w1 (by omega) HH.out).mono ?_
 rintro e w2 ⟨rfl, hb2⟩
 have hg2 := given_later HG1.out hb2
 have HG2 := hideM hg2
 have HB2 : Hid (Below W.heap.size W w2) := HB1.out.trans (hb2.mono HB1.out.size)
 clear hg2 hb2
 unfold noFilter
 go_wp2_with fail
 refine (clean_ok g1 b o len bc (len + 8) ba B w2 hm HG2.out.c HG2.out.s HG2.out.z HB.out (fun h0 => by have := lt_of_cell (HC.out 0 h0); have h2 : b < W.heap.size := this; omega) (fun i hi => by rw [HB2.out.cell (p := ⟨b, o + i, none⟩) (lt_of_cell (HC.out i hi))]; exact HC.out i hi)).mono ?_
 rintro e w3 ⟨rfl, t3⟩
 have HB3 : Hid (Below W.heap.size W w3) := tch_new HB2.out t3 hge
 clear t3
 go_wp2_with fail
 refine (refShape_len ba len bc w3 (by omega) HH.out).mono ?_
 rintro e w4 ⟨rfl, rfl⟩
 go_wp2_with (go_at_call 15; refine (num_keep _ _).mono ?_; rintro e w' ⟨rfl, rfl⟩)
 go_ret
 exact ⟨rfl, HW.out.later HB3.out, HB3.out⟩

theorem again_no {B : Nat → Int} {n base k : Nat} {e : Ending} {W : World} (h : LoadEnd B n base e W) (hg : ∀ j, j < n → badP B n j = false) (hs : safeP (piOf B) n = some k) : e = noFilter 3 k := by
 rcases h with ⟨i, hi, hb, _⟩ | ⟨_, ⟨k', hk, he⟩ | ⟨hk, _⟩⟩
 ·rw [hg i hi] at hb; cases hb
 ·rw [hs] at hk; cases hk; exact he
 ·rw [hs] at hk; cases hk
theorem again_yes {B : Nat → Int} {n base : Nat} {e : Ending} {W : World} (h : LoadEnd B n base e W) (hg : ∀ j, j < n → badP B n j = false) (hs : safeP (piOf B) n = none) : ∃ f, e = .returned (.tuple #[.pointer (some ⟨f, 0, none⟩), .int .i64 0, .int .i64 0]) := by
 rcases h with ⟨i, hi, hb, _⟩ | ⟨_, ⟨k', hk, _⟩ | ⟨_, f, g, c, he, _⟩⟩
 ·rw [hg i hi] at hb; cases hb
 ·rw [hs] at hk; cases hk
 ·exact ⟨f, he⟩
theorem opTab_ok {op : Nat} (h : opTab op = true) : op < 128 ∨ (129 ≤ op ∧ op ≤ 139) ∨ (159 ≤ op ∧ op ≤ 164) := by
 simp only [opTab, List.contains_cons, List.contains_nil, Bool.or_eq_true, beq_iff_eq, Bool.or_false] at h
 omega
theorem plain_no {B : Nat → Int} {n k : Nat} (hB : ∀ i, 0 ≤ B i ∧ B i ≤ 255) (hn1 : 1 ≤ n) (hn2 : n ≤ 64) (hg : ∀ j, j < n → bad B n j = false) (hs : safeP (piOf B) n = some k) : plainGo (riOf B) n = false := by
 cases e : plainGo (riOf B) n
 ·rfl
 ·obtain ⟨hC, hT⟩ := code_same hB hn1 hn2 hg
  have := plain_safe hC (fun k hk => opTab_ok (hT k hk)) (plain_all (riOf B) n e)
  rw [hs] at this; cases this

theorem loads_any (base pw : Nat) (v : Value) (ds : List PD) (b o len bc n : Nat) (B : Nat → Int) (W : World) (hW : WAt base W pw v ds) (hbase : base ≤ W.heap.size) (hds : ds.length ≤ 1000000000) (hl : len = 8 * n) (hn1 : 1 ≤ n) (hn2 : n ≤ 64) (hcap : len ≤ bc) (hm : bc ≤ 9223372036854775807)
  (hc : ∀ i, i < len → W.cell? ⟨b, o + i, none⟩ = some (.int .u8 (B i))) (hB : ∀ i, 0 ≤ B i ∧ B i ≤ 255) :
  Calls Tryz.prog 18 #[.pointer (some ⟨pw, 0, none⟩), .slice (some ⟨b, o, none⟩) len bc] W fun e W' => e = .returned (.bool true) ∧ LoadsEnd base pw v ds B n W W' := by
 obtain ⟨i0, hi, hz0, hz1, hz2⟩ := info_parts Tryz.infoB
 obtain ⟨i1, hi', hz0', hz1', hz2'⟩ := info_parts Tryz.infoP
 have hbl : b < W.heap.size := lt_of_cell (by simpa using hc 0 (by omega))
 have hpw := hW.lp
 have HW := hideM hW
 have HC := hideM hc
 have HL := hideM hl
 have HBy := hideM hB
 clear hW hc hB hl
 have hl2 : len ≤ 512 := by have := HL.out; omega
 have hl3 : 1 ≤ len := by have := HL.out; omega
 go_enter Tryz.func18, Tryz.ntmps18
 go_wp2_with fail
 refine (given_any (some ⟨b, o, none⟩) b o len bc B W (by omega) (fun _ => rfl) HC.out).mono ?_
 rintro e w1 ⟨g1, rfl, hg1, hge, hb1⟩
 have HG1 := hideM hg1
 have HB1 := hideM hb1
 have hg1s := hg1.l
 clear hg1 hb1
 go_wp2_with fail
 refine (part_some g1 (len + 8) (len + 8) ⟨b, o, none⟩ len bc w1 (by omega)).mono ?_
 rintro e w1' ⟨rfl, rfl⟩
 go_wp2_with fail
 refine (load_any B g1 0 len (len + 8) n w1 HL.out hn1 hn2 (by omega) (by omega) (fun i hi => by rw [Nat.zero_add]; exact HG1.out.c i hi) HBy.out).mono ?_
 rintro e w2 ⟨he, hb2⟩
 have hg2 := given_later HG1.out hb2
 have HG2 := hideM hg2
 have HB2 : Hid (Below W.heap.size W w2) := HB1.out.trans (hb2.mono HB1.out.size)
 have h12 := hb2.size
 have HE := hideM he
 clear hg2 hb2 he
 have hev : ∃ f x y, e = .returned (.tuple #[f, .int .i64 x, .int .i64 y]) := by
  rcases HE.out with ⟨i, _, _, _, h⟩ | ⟨_, ⟨k, _, h⟩ | ⟨_, f, g, c, h, _⟩⟩
  ·exact ⟨_, _, _, h⟩
  ·exact ⟨_, _, _, h⟩
  ·exact ⟨_, _, _, h⟩
 obtain ⟨f, x, y, rfl⟩ := hev
 go_wp2_with fail
 refine (clean_ok g1 b o len bc (len + 8) (some ⟨b, o, none⟩) B w2 (by omega) HG2.out.c HG2.out.s HG2.out.z (fun _ => rfl) (fun _ => by omega) (fun i hi => by rw [HB2.out.cell (p := ⟨b, o + i, none⟩) hbl]; exact HC.out i hi)).mono ?_
 rintro e w3 ⟨rfl, t3⟩
 have HB3 : Hid (Below W.heap.size W w3) := tch_new HB2.out t3 hge
 have HT3 := hideM t3
 clear t3
 go_wp2_with fail
 refine (refShape_list B b o len bc n w3 HL.out hn1 hn2 hcap hm (fun i hi => by rw [HB3.out.cell (p := ⟨b, o + i, none⟩) hbl]; exact HC.out i hi) HBy.out).mono ?_
 rintro e w4 ⟨v4, er, at1, rfl, ho, hlist, hb4⟩
 have HB4 : Hid (Below W.heap.size W w4) := HB3.out.trans (hb4.mono HB3.out.size)
 have HB34 := hideM hb4
 have HLS := hideM hlist
 clear hb4 hlist
 rcases same B HBy.out n _ _ _ er at1 HE.out ho with ⟨rfl, rfl, hbd, ⟨k, hk, he⟩ | ⟨hk, f', g', c', he, hf, hf1, hf2⟩⟩ | ⟨i, rfl, rfl, he⟩
 ·obtain ⟨rfl, rfl, rfl⟩ : f = .pointer none ∧ x = 3 ∧ y = k := by simpa [noFilter] using he
  have HBD := hideM hbd
  have HK := hideM hk
  have HGd : Hid (∀ j, j < n → bad B n j = false) := fun j hj => by rw [← bad_eq B HBy.out n j hj]; exact HBD.out j hj
  obtain ⟨lg, cp, rfl, hcp, hlg, hlg2, hcells⟩ := HLS.out rfl
  have HLA : Hid (LAt w4 lg (riOf B) n) := lat_of HBy.out hcells hlg2
  have hkn : k < n := by have := (safeR_lt n 0 st0 k HK.out).2; omega
  have hkn2 : (k : Int) < (n : Int) := by omega
  clear hbd hk hcells he HE
  go_wp2_with (go_at_call 15; refine (num_keep _ _).mono ?_; rintro e w' ⟨rfl, rfl⟩)
  refine (given_any (some ⟨b, o, none⟩) b o len bc B w4 (by omega) (fun _ => rfl) (fun i hi => by rw [HB4.out.cell (p := ⟨b, o + i, none⟩) hbl]; exact HC.out i hi)).mono ?_
  rintro e w5 ⟨g5, rfl, hg5, hge5, hb5⟩
  have HG5 := hideM hg5
  have HB5 : Hid (Below W.heap.size W w5) := HB4.out.trans (hb5.mono HB4.out.size)
  have HA5 : Hid (LAt w5 lg (riOf B) n) := HLA.out.later hb5 hlg2
  clear hg5 hb5
  go_wp2_with fail
  refine (part_some g5 (len + 8) (len + 8) ⟨b, o, none⟩ len bc w5 (by omega)).mono ?_
  rintro e w5' ⟨rfl, rfl⟩
  go_wp2_with fail
  refine (load_any B g5 0 len (len + 8) n w5 HL.out hn1 hn2 (by omega) (by omega) (fun i hi => by rw [Nat.zero_add]; exact HG5.out.c i hi) HBy.out).mono ?_
  rintro e w6 ⟨he, hb6⟩
  obtain rfl := again_no he HBD.out HK.out
  have HB6 : Hid (Below W.heap.size W w6) := HB5.out.trans (hb6.mono HB5.out.size)
  have HA6 : Hid (LAt w6 lg (riOf B) n) := HA5.out.later hb6 HA5.out.lt
  clear he hb6
  unfold noFilter
  go_wp2_with fail
  refine (plain_any lg cp n (riOf B) w6 HA6.out (code_same HBy.out hn1 hn2 HGd.out).1.ok (num_bd B HBy.out)).mono ?_
  rintro e w7 ⟨rfl, hb7⟩
  rw [plain_no HBy.out hn1 hn2 HGd.out HK.out]
  have HB7 : Hid (Below W.heap.size W w7) := HB6.out.trans (hb7.mono HB6.out.size)
  clear hb7
  go_wp2_with (go_at_call 15; refine (num_keep _ _).mono ?_; rintro e w' ⟨rfl, rfl⟩)
  go_ret
  exact ⟨rfl, .inl ⟨HW.out.later HB7.out, fun q => by have := q.2; rw [HK.out] at this; cases this⟩, Chg.of_below HB7.out hpw⟩
 ·obtain ⟨rfl, rfl, rfl⟩ : f = .pointer (some ⟨f', 0, none⟩) ∧ x = 0 ∧ y = 0 := by simpa using he
  have HBD := hideM hbd
  have HK := hideM hk
  have HGd : Hid (∀ j, j < n → bad B n j = false) := fun j hj => by rw [← bad_eq B HBy.out n j hj]; exact HBD.out j hj
  obtain ⟨lg, cp, rfl, hcp, hlg, hlg2, hcells⟩ := HLS.out rfl
  have HLA : Hid (LAt w4 lg (riOf B) n) := lat_of HBy.out hcells hlg2
  have hlgW : W.heap.size ≤ lg := Nat.le_trans HB3.out.size hlg
  have HF4 : Hid (FiltAt w4 f' g' c' (codeL B (8 * n))) := by
   have h3 : FiltAt w3 f' g' c' (codeL B (8 * n)) := hf.same (HT3.out.block f' hf.lf (by omega) (by omega)) (HT3.out.block g' hf.lg (by omega) (by omega)) HT3.out.size
   exact h3.same (HB34.out.block f' h3.lf) (HB34.out.block g' h3.lg) HB34.out.size
  have hfW : W.heap.size ≤ f' ∧ W.heap.size ≤ g' := ⟨Nat.le_trans HB1.out.size hf1, Nat.le_trans HB1.out.size hf2⟩
  clear hbd hk hcells he HE hf hf1 hf2 HT3 HB34 HLS
  go_wp2_with (go_at_call 15; refine (num_keep _ _).mono ?_; rintro e w' ⟨rfl, rfl⟩)
  refine (given_any (some ⟨b, o, none⟩) b o len bc B w4 (by omega) (fun _ => rfl) (fun i hi => by rw [HB4.out.cell (p := ⟨b, o + i, none⟩) hbl]; exact HC.out i hi)).mono ?_
  rintro e w5 ⟨g5, rfl, hg5, hge5, hb5⟩
  have HG5 := hideM hg5
  have HB5 : Hid (Below W.heap.size W w5) := HB4.out.trans (hb5.mono HB4.out.size)
  have HA5 : Hid (LAt w5 lg (riOf B) n) := HLA.out.later hb5 hlg2
  have HF5 : Hid (FiltAt w5 f' g' c' (codeL B (8 * n))) := HF4.out.same (hb5.block f' HF4.out.lf) (hb5.block g' HF4.out.lg) hb5.size
  clear hg5 hb5
  go_wp2_with fail
  refine (part_some g5 (len + 8) (len + 8) ⟨b, o, none⟩ len bc w5 (by omega)).mono ?_
  rintro e w5' ⟨rfl, rfl⟩
  go_wp2_with fail
  refine (load_any B g5 0 len (len + 8) n w5 HL.out hn1 hn2 (by omega) (by omega) (fun i hi => by rw [Nat.zero_add]; exact HG5.out.c i hi) HBy.out).mono ?_
  rintro e w6 ⟨he, hb6⟩
  obtain ⟨f6, rfl⟩ := again_yes he HBD.out HK.out
  have HB6 : Hid (Below W.heap.size W w6) := HB5.out.trans (hb6.mono HB5.out.size)
  have HA6 : Hid (LAt w6 lg (riOf B) n) := HA5.out.later hb6 HA5.out.lt
  have HF6 : Hid (FiltAt w6 f' g' c' (codeL B (8 * n))) := HF5.out.same (hb6.block f' HF5.out.lf) (hb6.block g' HF5.out.lg) hb6.size
  have HSR : Hid (∀ j u, (byB B len)[j]? = some u → w6.cell? ((⟨b, o, none⟩ : Addr).add j) = some u) := by
   intro j u hu
   obtain ⟨hj, rfl⟩ := byB_of B len j u hu
   have e2 := (HB6.out.cell (p := ⟨b, o + j, none⟩) hbl).trans (HC.out j hj)
   by_cases e : j = 0
   ·subst e; simpa [Addr.add] using e2
   ·simpa [Addr.add, e] using e2
  have HON : Hid (∀ u ∈ byB B len, u.oneCell' = true) := fun u hu => by
   simp only [byB, List.mem_map] at hu
   obtain ⟨_, _, rfl⟩ := hu; rfl
  clear he hb6
  go_upto_region 18 with (at_builtin; refine wpList_append_lies _ rfl _ _ 22 rfl w6.heap.size 5 i0 _ 1 1 Tryz.underlying22 hi hz0 hz1 hz2 rfl (by omega) (.slice none 0 0) 0 [] rfl (World.ownsRow_nil _ _ _ _) ⟨b, o, none⟩ len bc (byB B len) rfl (by rw [byB_len]; omega) HSR.out HON.out (by omega) (by unfold maxLen; omega) (by omega) (Nat.le_refl _) w6.heap.size rfl ?_; intro g7 cap7 w7 hown7 hgrow7 hat7 hlt7)
  have HB7 : Hid (Below W.heap.size W w7) := HB6.out.grown hgrow7 HB6.out.size (fun k hk => by simp [Value.ownBlock] at hk)
  have blk7 : ∀ k, k < w6.heap.size → w7.heap[k]? = w6.heap[k]? := fun k hk => hgrow7.block k hk (by simp [Value.ownBlock])
  have hg7 : g7 = w6.heap.size := by
   rcases hat7 with e | e
   ·simp [Value.ownBlock] at e
   ·exact e
  obtain ⟨_, h70 | ⟨g7', cap7', cur7, e71, _, e73, e74, e75, _, e77⟩⟩ := hown7
  ·exact absurd h70.2 (by omega)
  simp only [Value.slice.injEq, Option.some.injEq, Addr.mk.injEq] at e71
  obtain ⟨⟨rfl, _⟩, _, rfl⟩ := e71
  have hc7 : ∀ i, i < len → w7.cell? ⟨g7, i, none⟩ = some (.int .u8 (B i)) := fun i hi2 => by
   rw [cell_of_row w7 g7 i cur7 _ _ e73]
   have h3 : cur7[i]? = (cur7.toList.take ((0 + len) * 1))[i]? := by rw [List.getElem?_take_of_lt (by omega)]; simp
   rw [h3, e77, List.nil_append, byB_at B len i hi2]
  unfold maxLen at e75
  have HP7 : Hid (PairAt w7 ⟨f', g', c', g7, cap7, lg, cp, n, len, B⟩) := by
   have hlen := HL.out
   refine ⟨?_, hc7, hlt7, ⟨by show len ≤ cap7; omega, by show cap7 ≤ 9223372036854775807; omega⟩, HA6.out.same (blk7 lg HA6.out.lt) hgrow7.size, hcp⟩
   show FiltAt w7 f' g' c' (codeL B len)
   rw [hlen]
   exact HF6.out.same (blk7 f' HF6.out.lf) (blk7 g' HF6.out.lg) hgrow7.size
  have HW7 := hideM (HW.out.later HB7.out)
  have hg7W : W.heap.size ≤ g7 := by rw [hg7]; exact HB6.out.size
  have c0 := HW7.out.c
  have lp7 := HW7.out.lp
  have hb7s := HB7.out.size
  clear hg7 hgrow7 hat7 e73 e74 e75 e77 hc7 blk7
  go_wp2_with (at_builtin; go_must (refine wpList_append_lies _ rfl _ _ 38 rfl base 45 i1 _ 3 56 Tryz.underlying38 hi' hz0' hz1' hz2' rfl (by omega) v ds.length (pairsL ds) rfl (HW7.out.later (below_alloc _ _)).row ⟨w7.heap.size, 0, none⟩ 1 1 (PD.cells ⟨f', g', c', g7, cap7, lg, cp, n, len, B⟩) rfl rfl (World.news_of_block (heap_alloc_new w7 _)) (fun u hu => by simp [PD.cells] at hu; rcases hu with rfl | rfl | rfl <;> rfl) (by omega) (by unfold maxLen; omega) (by omega) (by simp; omega) (w7.heap.size + 1) (by simp) ?_); intro g9 cap9 w9 hown9 hgrow9 hat9 hlt9; have c9 : w9.cell? ⟨pw, 0, none⟩ = some v := (World.cell?_of_block (a := ⟨pw, 0, none⟩) (hgrow9.block pw (by simp; omega) (fun e => HW7.out.vp pw e.symm rfl))).trans (HW7.out.later (below_alloc _ _)).c; have z9 : w9.frozen? ⟨pw, 0, none⟩ = false := (World.frozen?_of_block (a := ⟨pw, 0, none⟩) (hgrow9.block pw (by simp; omega) (fun e => HW7.out.vp pw e.symm rfl))).trans ((HW7.out.later (below_alloc _ _)).z 0))
  go_ret
  have hvlt : ∀ g, v.ownBlock = some g → g < W.heap.size := fun g hg => (HW.out.row.lt g hg).2
  have hd8 := HP7.out.later (below_alloc w7 (.cells #[.pointer (some ⟨f', 0, none⟩), .slice (some ⟨g7, 0, none⟩) len cap7, .slice (some ⟨lg, 0, none⟩) n cp] 45))
  have hw8 := HW7.out.later (below_alloc w7 (.cells #[.pointer (some ⟨f', 0, none⟩), .slice (some ⟨g7, 0, none⟩) len cap7, .slice (some ⟨lg, 0, none⟩) n cp] 45))
  have hadd := hw8.added hown9 hgrow9 (by simpa using hat9) hd8 ⟨HBy.out, HL.out, hn1, hn2, HGd.out, HK.out⟩ ⟨by show f' ≠ pw; omega, by show g' ≠ pw; omega, by show g7 ≠ pw; omega, by show lg ≠ pw; omega⟩
   (fun g hg => by have := hvlt g hg; exact ⟨by show f' ≠ g; omega, by show g' ≠ g; omega, by show g7 ≠ g; omega, by show lg ≠ g; omega⟩)
  refine ⟨rfl, .inr ⟨_, _, rfl, rfl, ⟨hfW.1, hfW.2, hg7W, hlgW⟩, hadd, fun g hg => ?_⟩, (Chg.added hgrow9 hw8.lp hw8.vp (by simpa using hat9)).after (HB7.out.trans ((below_alloc w7 _).mono hb7s)) hpw⟩
  simp only [Value.ownBlock, Option.some.injEq] at hg
  subst hg
  rcases hat9 with e | e
  ·exact .inl e
  ·right; omega
 ·obtain ⟨rfl, rfl, rfl⟩ : f = .pointer none ∧ x = 2 ∧ y = i := by simpa [noFilter] using he
  have hbad : ¬ LetIn B n := fun q => by
   rcases ho with ⟨j, hj, hbj, _⟩ | ⟨_, h, _⟩
   ·rw [q.1 j hj] at hbj; cases hbj
   ·omega
  go_wp2_with (go_at_call 15; refine (num_keep _ _).mono ?_; rintro e w' ⟨rfl, rfl⟩)
  go_ret
  exact ⟨rfl, .inl ⟨HW.out.later HB4.out, hbad⟩, Chg.of_below HB4.out hpw⟩
end Go.Proofs.YtoobileejdhikaaGreat

namespace Go.Proofs.YtoobileejdhikaaGreat
open Go.RowKit

structure BytesIn (W : World) (a : Option Addr) (len cap : Nat) (B : Nat → Int) : Prop where
 nil : a = none → len = 0 ∧ cap = 0
 le : len ≤ cap
 mx : cap ≤ 9223372036854775807
 lies : ∃ b o, (0 < len → a = some ⟨b, o, none⟩) ∧ ∀ i, i < len → W.cell? ⟨b, o + i, none⟩ = some (.int .u8 (B i))
 by1 : ∀ i, 0 ≤ B i ∧ B i ≤ 255
theorem BytesIn.later {W W' : World} {a : Option Addr} {len cap k : Nat} {B : Nat → Int} (h : BytesIn W a len cap B) (hb : Below k W W') (hk : W.heap.size ≤ k) : BytesIn W' a len cap B := by
 obtain ⟨b, o, h1, h2⟩ := h.lies
 refine ⟨h.nil, h.le, h.mx, ⟨b, o, h1, fun i hi => ?_⟩, h.by1⟩
 have hlt : b < k := Nat.lt_of_lt_of_le (lt_of_cell (h2 i hi)) hk
 rw [hb.cell (p := ⟨b, o + i, none⟩) hlt]; exact h2 i hi
def LoadsAll (base pw : Nat) (v : Value) (ds : List PD) (B : Nat → Int) (len : Nat) (W W' : World) : Prop :=
 ∃ v' ds', WAt base W' pw v' ds' ∧ (∀ g, v'.ownBlock = some g → v.ownBlock = some g ∨ W.heap.size ≤ g) ∧ Chg pw v W W' ∧ ((ds' = ds ∧ (∀ n, len = 8 * n → 1 ≤ n → n ≤ 64 → ¬ LetIn B n)) ∨ ∃ d, ds' = ds ++ [d] ∧ d.B = B ∧ d.since W.heap.size)
theorem loads_all (base pw : Nat) (v : Value) (ds : List PD) (a : Option Addr) (len cap : Nat) (B : Nat → Int) (W : World) (hW : WAt base W pw v ds) (hbase : base ≤ W.heap.size) (hds : ds.length ≤ 1000000000) (hm : len ≤ 140737488355328) (h : BytesIn W a len cap B) :
  Calls Tryz.prog 18 #[.pointer (some ⟨pw, 0, none⟩), .slice a len cap] W fun e W' => e = .returned (.bool true) ∧ LoadsAll base pw v ds B len W W' := by
 obtain ⟨b, o, h1, h2⟩ := h.lies
 have hle := h.le
 have hmx := h.mx
 by_cases hl : len = 0 ∨ ¬ len % 8 = 0 ∨ 64 < len / 8
 ·refine (loads_len base pw v ds a b o len cap B W hW hm h1 h.nil h2 hl).mono ?_
  rintro e W' ⟨rfl, hw, hb⟩
  exact ⟨rfl, v, ds, hw, fun g hg => .inl hg, Chg.of_below hb hW.lp, .inl ⟨rfl, fun n hn h1 h2 => by omega⟩⟩
 ·have ha := h1 (by omega)
  subst ha
  refine (loads_any base pw v ds b o len cap (len / 8) B W hW hbase hds (by omega) (by omega) (by omega) hle (by omega) h2 h.by1).mono ?_
  rintro e W' ⟨rfl, ⟨hw, hno⟩ | ⟨v', d, hdB, _, hsi, hw, hv⟩, hc⟩
  ·exact ⟨rfl, v, ds, hw, fun g hg => .inl hg, hc, .inl ⟨rfl, fun n hn _ _ => by rw [show n = len / 8 from by omega]; exact hno⟩⟩
  ·exact ⟨rfl, v', ds ++ [d], hw, hv, hc, .inr ⟨d, rfl, hdB, hsi⟩⟩
theorem WAt.new (w : World) : WAt w.heap.size (w.alloc (.cells #[.slice none 0 0, .slice none 0 0, .slice none 0 0] 41)) w.heap.size (.slice none 0 0) [] :=
 ⟨by simp, fun o => World.frozen?_alloc_new _ _ _ _, by simp, World.ownsRow_nil _ _ _ _, fun g hg => by simp [Value.ownBlock] at hg, fun d hd => by simp at hd⟩
theorem WAt.slice {base pw : Nat} {W : World} {v : Value} {ds : List PD} (h : WAt base W pw v ds) (hd : ds ≠ []) : ∃ g cap, v = .slice (some ⟨g, 0, none⟩) ds.length cap ∧ base ≤ g ∧ g < W.heap.size ∧ ds.length ≤ cap ∧ cap ≤ 9223372036854775807 ∧
  ∀ j, j < ds.length * 3 → W.cell? ⟨g, j, none⟩ = (pairsL ds)[j]? := by
 have hl : 0 < ds.length := List.length_pos_iff.2 hd
 have hr := h.row
 obtain ⟨_, h1 | ⟨g, cap, cur, e1, e2, e3, e4, e5, _⟩⟩ := h.row
 ·omega
 ·subst e1
  unfold maxLen at e5
  exact ⟨g, cap, rfl, e2, lt_of_block e3, e4, e5, fun j hj => hr.cellAt j hj⟩
theorem opTab_41 {op : Nat} (h : opTab op = true) : op = 41 ∨ op % 128 ≠ 41 := by
 simp only [opTab, List.contains_cons, List.contains_nil, Bool.or_eq_true, beq_iff_eq, Bool.or_false] at h
 omega
theorem pd_sound {d : PD} (h : d.Ok) {F : List Int} (hF : F.length ≤ 64) (hb : ∀ i, 0 ≤ F.getD i 0 ∧ F.getD i 0 < 256) : (runGo (riOf d.B) d.n (start F) 0).1 = false := by
 obtain ⟨hC, hT⟩ := code_same h.by1 h.n1 h.n2 h.good
 exact safe_sound hC (fun k hk => opTab_41 (hT k hk)) h.safe hF hb
theorem two_let : LetIn twoB 2 := ⟨fun j hj => by rw [← bad_eq twoB two_bytes 2 j hj]; exact two_good j hj, two_safe⟩
end Go.Proofs.YtoobileejdhikaaGreat
