/-
  The law's mark for a list that came out: sign.
  The law's own: a list that came out is written full of its mark, and kept four times.
  The law's own, walked.
  The law's looks: every list that came out reads as the caller wrote it.
-/
import Derived.Test.YtoobileejdhikaaGreatGg2
import Derived.Deep.AppendLies
import Derived.Deep.CutBlock
import Derived.WalkSpells
import Derived.ArgAppend
import Derived.Deep.RegionHeld3
import Derived.Deep.DrawnRows
namespace Go.Proofs.YtoobileejdhikaaGreat
set_option maxRecDepth 100000
set_option maxHeartbeats 4000000
open Go.RowKit
attribute [local go_sem ↓] Go.wp_at_zero Go.wp_at_succ

def sgnB (k i : Nat) : Int := if i % 2 = 0 then (k : Int) % 256 else (k : Int) / 256 % 256

theorem sign_any (k i : Nat) (w : World) (hk : k ≤ 4611686018427387904) (hi : i ≤ 4611686018427387904) :
  Calls Tryz.prog 68 #[.int .i64 k, .int .i64 i] w fun e w' => e = .returned (.int .u8 (sgnB k i)) ∧ w = w' := by
 unfold sgnB
 by_cases h : i % 2 = 0
 ·rw [if_pos h]
  have h1 : (i : Int) % 2 = 0 := by omega
  go_enter Tryz.func68, Tryz.ntmps68
  go_wp2_with fail
  go_ret
  exact ⟨rfl, rfl⟩
 ·rw [if_neg h]
  have h1 : (i : Int) % 2 = 1 := by omega
  go_enter Tryz.func68, Tryz.ntmps68
  go_wp2_with fail
  go_ret
  exact ⟨rfl, rfl⟩
theorem sign_int (K I : Int) (k i : Nat) (w : World) (hK : K = k) (hI : I = i) (hk : k ≤ 4611686018427387904) (hi : i ≤ 4611686018427387904) :
  Calls Tryz.prog 68 #[.int .i64 K, .int .i64 I] w fun e w' => e = .returned (.int .u8 (sgnB k i)) ∧ w = w' := by
 subst hK hI; exact sign_any k i w hk hi
def sgL (k n : Nat) : List Value := (List.range n).map (fun i => .int .u8 (sgnB k i))
theorem sgL_len (k n : Nat) : (sgL k n).length = n := by simp [sgL]
theorem sgL_at (k n i : Nat) (h : i < n) : (sgL k n)[i]? = some (.int .u8 (sgnB k i)) := by simp [sgL, h]
theorem sgL_next (k n : Nat) : sgL k (n + 1) = sgL k n ++ [.int .u8 (sgnB k n)] := by simp [sgL, List.range_succ]
theorem sgL_next2 (k n : Nat) : sgL k (n + 2) = sgL k n ++ [.int .u8 (sgnB k n), .int .u8 (sgnB k (n + 1))] := by rw [sgL_next, sgL_next, List.append_assoc]; rfl
theorem sgL_next3 (k n : Nat) : sgL k (n + 3) = sgL k n ++ [.int .u8 (sgnB k n), .int .u8 (sgnB k (n + 1)), .int .u8 (sgnB k (n + 2))] := by rw [sgL_next, sgL_next2, List.append_assoc]; rfl
structure ES where
 a : Option Addr
 len : Nat
 cap : Nat
 k : Nat
def EAt (W : World) (e : ES) : Prop := e.len = 0 ∨ ∃ g, e.a = some ⟨g, 0, none⟩ ∧ g < W.heap.size ∧ ∀ q, q < e.len → W.cell? ⟨g, q, none⟩ = some (.int .u8 (sgnB e.k q))
theorem EAt.same {W W' : World} {e : ES} (h : EAt W e) (hb : ∀ g, 0 < e.len → e.a = some ⟨g, 0, none⟩ → g < W.heap.size → W'.heap[g]? = W.heap[g]?) (hs : W.heap.size ≤ W'.heap.size) : EAt W' e := by
 rcases h with h | ⟨g, h1, h2, h3⟩
 ·exact .inl h
 ·exact .inr ⟨g, h1, Nat.lt_of_lt_of_le h2 hs, fun q hq => by rw [World.cell?_of_block (w := W) (a := ⟨g, q, none⟩) (hb g (by omega) h1 h2)]; exact h3 q hq⟩
theorem eat_of {W : World} {base k n cap : Nat} {a : Option Addr} (h : W.ownsRow base 5 1 (.slice a n cap) n (sgL k n)) : EAt W ⟨a, n, cap, k⟩ := by
 have h' := h
 obtain ⟨_, h1 | ⟨g, cap', cur, e1, e2, e3, e4, e5, e6, e7⟩⟩ := h
 ·exact .inl h1.2
 ·simp only [Value.slice.injEq] at e1
  obtain ⟨rfl, _, rfl⟩ := e1
  exact .inr ⟨g, rfl, lt_of_block e3, fun q hq => (h'.cellAt q (by have hq2 : q < n := hq; omega)).trans (sgL_at k n q hq)⟩
end Go.Proofs.YtoobileejdhikaaGreat

namespace Go.Proofs.YtoobileejdhikaaGreat
open Go.RowKit
attribute [local go_sem ↓] Go.wp_at_zero Go.wp_at_succ

theorem Tryz.infoS : (Tryz.prog.info? 22).map (fun i => (i.zero, i.size, i.bytes)) = some (some (.slice none 0 0), 1, 24) := by kernel_rfl
theorem Tryz.infoI : (Tryz.prog.info? 3).map (fun i => (i.zero, i.size, i.bytes)) = some (some (.int .i64 0), 1, 8) := by kernel_rfl
def sliceOf (e : ES) : Value := .slice e.a e.len e.cap
def markOf (e : ES) : Value := .int .i64 e.k
structure BAt (base : Nat) (W : World) (pw : Nat) (vb vk : Value) (es : List ES) : Prop where
 c1 : W.cell? ⟨pw, 1, none⟩ = some vb
 c2 : W.cell? ⟨pw, 2, none⟩ = some vk
 z : ∀ o, W.frozen? ⟨pw, o, none⟩ = false
 lp : pw < W.heap.size
 rb : W.ownsRow base 22 1 vb es.length (es.map sliceOf)
 rk : W.ownsRow base 3 1 vk es.length (es.map markOf)
 four : es.length % 4 = 0
 ob : ∀ g, vb.ownBlock = some g → g ≠ pw ∧ vk.ownBlock ≠ some g
 ok : ∀ g, vk.ownBlock = some g → g ≠ pw
 es : ∀ e ∈ es, EAt W e ∧ e.k ≤ 4000000000 ∧ ∀ g, 0 < e.len → e.a = some ⟨g, 0, none⟩ → g ≠ pw ∧ vb.ownBlock ≠ some g ∧ vk.ownBlock ≠ some g
theorem size_row {W : World} {b : Nat} {e : TypeId} {s : Nat} {v : Value} {n : Nat} {xs : List Value} (h : W.ownsRow b e s v n xs) : ∃ a cap, v = .slice a n cap := by
 obtain ⟨_, h1 | ⟨g, cap, cur, e1, _⟩⟩ := h
 ·exact ⟨none, 0, by rw [h1.1, h1.2]⟩
 ·exact ⟨_, cap, e1⟩

structure Bch (ba : Option Addr) (W W' : World) : Prop where
 os : W'.os = W.os
 tape : W'.tape = W.tape
 output : W'.output = W.output
 size : W.heap.size ≤ W'.heap.size
 block : ∀ k, k < W.heap.size → ba ≠ some ⟨k, 0, none⟩ → W'.heap[k]? = W.heap[k]?
theorem Bch.refl (ba : Option Addr) (W : World) : Bch ba W W := ⟨rfl, rfl, rfl, Nat.le_refl _, fun _ _ _ => rfl⟩
theorem Bch.set {g o : Nat} {W w : World} (h : Bch (some ⟨g, 0, none⟩) W w) (u : Value) : Bch (some ⟨g, 0, none⟩) W (w.setCell ⟨g, o, none⟩ u) := by
 have hb := (Below.refl 0 w).setCell (p := ⟨g, o, none⟩) (Nat.zero_le _) u
 refine ⟨hb.os.trans h.os, hb.tape.trans h.tape, hb.output.trans h.output, Nat.le_trans h.size hb.size, fun k hk hne => ?_⟩
 rw [heap_setCell_other w ⟨g, o, none⟩ k u (fun e => hne (by rw [show k = g from e]))]
 exact h.block k hk hne
structure FillAt (W : World) (b0 : Nat) (ba : Option Addr) (n bc k t : Nat) : Prop where
 nil : ba = none → n = 0 ∧ bc = 0
 le : n ≤ bc
 mx : bc ≤ maxLen
 row : ∀ x, ba = some x → ∃ g cur, x = ⟨g, 0, none⟩ ∧ b0 ≤ g ∧ W.heap[g]? = some (.cells cur 5 (0, 0)) ∧ cur.size = bc ∧ ∀ q, q < t → cur[q]? = some (.int .u8 (sgnB k q))
theorem fill_start {W : World} {b0 n bc k : Nat} {ba : Option Addr} {xs : List Value} (h : W.ownsRow b0 5 1 (.slice ba n bc) n xs) : FillAt W b0 ba n bc k 0 := by
 obtain ⟨hl, h1 | ⟨g, cap', cur, e1, e2, e3, e4, e5, e6, e7⟩⟩ := h
 ·have e := h1.1
  simp only [Value.slice.injEq] at e
  obtain ⟨rfl, rfl, rfl⟩ := e
  exact ⟨fun _ => ⟨rfl, rfl⟩, Nat.le_refl _, by unfold maxLen; omega, fun x hx => by cases hx⟩
 ·simp only [Value.slice.injEq] at e1
  obtain ⟨rfl, _, rfl⟩ := e1
  exact ⟨(fun h => by cases h), e4, e5, (fun x hx => by cases hx; exact ⟨g, cur, rfl, e2, e3, by omega, fun q hq => by omega⟩)⟩
theorem FillAt.same {W W' : World} {b0 n bc k t : Nat} {ba : Option Addr} (h : FillAt W b0 ba n bc k t) (hb : ∀ g, ba = some ⟨g, 0, none⟩ → g < W.heap.size → W'.heap[g]? = W.heap[g]?) : FillAt W' b0 ba n bc k t :=
 ⟨h.nil, h.le, h.mx, fun x hx => by
  obtain ⟨g, cur, rfl, e2, e3, e4, e5⟩ := h.row x hx
  exact ⟨g, cur, rfl, e2, (hb g hx (lt_of_block e3)).trans e3, e4, e5⟩⟩
theorem take_sg {cur : Array Value} {k m : Nat} (hs : m ≤ cur.size) (h : ∀ q, q < m → cur[q]? = some (.int .u8 (sgnB k q))) : cur.toList.take (m * 1) = sgL k m := by
 refine List.ext_getElem? (fun q => ?_)
 by_cases hq : q < m
 ·rw [List.getElem?_take_of_lt (by omega), sgL_at k m q hq]
  simpa using h q hq
 ·rw [List.getElem?_eq_none (by simp; omega), List.getElem?_eq_none (by rw [sgL_len]; omega)]
theorem FillAt.own {W : World} {b0 n bc k t : Nat} {ba : Option Addr} (h : FillAt W b0 ba n bc k t) (ht : n ≤ t) : W.ownsRow b0 5 1 (.slice ba n bc) n (sgL k n) := by
 refine ⟨by rw [sgL_len]; omega, ?_⟩
 cases ba with
 | none =>
  obtain ⟨rfl, rfl⟩ := h.nil rfl
  exact .inl ⟨rfl, rfl⟩
 | some x =>
  obtain ⟨g, cur, rfl, e2, e3, e4, e5⟩ := h.row x rfl
  have hle := h.le
  exact .inr ⟨g, bc, cur, rfl, e2, e3, hle, h.mx, by omega, take_sg (by omega) (fun q hq => e5 q (by omega))⟩
theorem FillAt.eat {W : World} {b0 n bc k t m : Nat} {ba : Option Addr} (h : FillAt W b0 ba n bc k t) (hm : m ≤ t) (h0 : ba = none → m = 0) : EAt W ⟨ba, m, bc, k⟩ := by
 cases ba with
 | none => exact .inl (h0 rfl)
 | some x =>
  obtain ⟨g, cur, rfl, e2, e3, e4, e5⟩ := h.row x rfl
  exact .inr ⟨g, rfl, lt_of_block e3, fun q hq => by rw [cell_of_row W g q cur _ _ e3]; exact e5 q (Nat.lt_of_lt_of_le hq hm)⟩
theorem wpList_mark {w : World} {ops : Array Oper} {rest : List Oper} {o : Oper} {a : Act} {Q : Exit → Act → World → Prop} (hgd : o.guard = none) (s x : Operand)
  (ho : o.op = .call { callee := .builtin .append, args := #[s, x], argTypes := #[22, 22] }) {b0 n bc k t : Nat} {ba : Option Addr} (hs : a.eval s = .slice ba n bc) (hf : FillAt w b0 ba n bc k t) (hnt : n ≤ t) (ad : Addr) (m : Nat) (news : List Value) (hx : a.eval x = .slice (some ad) m m)
  (hn : sgL k (n + m) = sgL k n ++ news) (hm : 0 < m) (htm : t ≤ n + m) (hnews : ∀ j u, news[j]? = some u → w.cell? (ad.add j) = some u) (hsm : n + m ≤ 1000000000)
  (h : ∀ a' cap' t' w', t ≤ t' → t' ≤ n + m → FillAt w' b0 ba n bc k t' → Bch ba w w' → EAt w' ⟨a', n + m, cap', k⟩ → ((a' = ba ∧ cap' = bc ∧ n + m ≤ t') ∨ ∀ g, a' = some ⟨g, 0, none⟩ → w.heap.size ≤ g) → wpList Tryz.prog ops Q rest (a.put o.dst (.slice a' (n + m) cap')) w') : wpList Tryz.prog ops Q (o :: rest) a w := by
 obtain ⟨i0, hi, hz0, hz1, hz2⟩ := info_parts Tryz.infoB
 have hl : news.length = m * 1 := by have := congrArg List.length hn; rw [List.length_append, sgL_len, sgL_len] at this; omega
 have hone : ∀ u ∈ news, u.oneCell' = true := fun u hu => by
  have hu' : u ∈ sgL k (n + m) := by rw [hn]; exact List.mem_append_right _ hu
  simp only [sgL, List.mem_map] at hu'
  obtain ⟨_, _, rfl⟩ := hu'; rfl
 have hown := hf.own hnt
 by_cases hfit : n + m ≤ bc
 ·cases ba with
  | none => have := hf.nil rfl; omega
  | some y =>
   obtain ⟨g, cur, rfl, e2, e3, e4, e5⟩ := hf.row y rfl
   refine wpList_append_fits w hgd s x 22 ho b0 5 i0 1 Tryz.underlying22 hi hz1 g n bc (sgL k n) hs hown ad m m news hx hl hnews hone hfit ?_
   intro w' hown' hgrow
   rw [← hn] at hown'
   have hea := eat_of hown'
   obtain ⟨_, h1 | ⟨g', cap', cur', d1, d2, d3, d4, d5, d6, d7⟩⟩ := hown'
   ·omega
   simp only [Value.slice.injEq, Option.some.injEq, Addr.mk.injEq] at d1
   obtain ⟨⟨rfl, _⟩, _, rfl⟩ := d1
   refine h _ _ (n + m) w' htm (Nat.le_refl _) ⟨hf.nil, hf.le, hf.mx, fun y hy => ?_⟩ ⟨hgrow.os, hgrow.tape, hgrow.output, hgrow.size, fun q hq hne => hgrow.block q hq (fun e => hne (by cases e; rfl))⟩ hea (.inl ⟨rfl, rfl, Nat.le_refl _⟩)
   cases hy
   refine ⟨g, cur', rfl, d2, d3, by omega, fun q hq => ?_⟩
   have hq2 := sgL_at k (n + m) q hq
   rw [← d7, List.getElem?_take_of_lt (by omega)] at hq2
   simpa using hq2
 ·refine wpList_append_grows w hgd s x 22 ho 5 i0 _ 1 1 Tryz.underlying22 hi hz0 hz1 hz2 rfl (by omega) ba n bc (sgL k n) hs hf.nil (by rw [sgL_len]; omega) ?_ ad m m news hx hl hnews hone (by omega) (by unfold maxLen; omega) (by omega) ?_
  ·intro b hb j u hu
   subst hb
   obtain ⟨g, cur, rfl, e2, e3, e4, e5⟩ := hf.row b rfl
   have hj : j < n := by have := (List.getElem?_eq_some_iff.1 hu).1; rw [sgL_len] at this; exact this
   have hc := (hown.cellAt j (by omega)).trans hu
   by_cases e : j = 0
   ·subst e; simpa [Addr.add] using hc
   ·simpa [Addr.add, e] using hc
  ·intro v' w' hown' hgrow
   rw [← hn] at hown'
   have hv := hown'
   obtain ⟨_, h1 | ⟨g', cap', cur', d1, d2, d3, _⟩⟩ := hown'
   ·omega
   subst d1
   exact h _ _ t w' (Nat.le_refl _) htm (hf.same (fun g _ hg => hgrow.block g hg (by simp))) ⟨hgrow.os, hgrow.tape, hgrow.output, hgrow.size, fun q hq _ => hgrow.block q hq (by simp)⟩ (eat_of hv) (.inr (fun g hg => by cases hg; exact d2))

theorem FillAt.alloc {W : World} {b0 n bc k t : Nat} {ba : Option Addr} (h : FillAt W b0 ba n bc k t) (o : Obj) : FillAt (W.alloc o) b0 ba n bc k t := h.same (fun _ _ hg => heap_alloc_old W o hg)
theorem Bch.trans {ba : Option Addr} {a b c : World} (h : Bch ba a b) (k : Bch ba b c) : Bch ba a c :=
 ⟨k.os.trans h.os, k.tape.trans h.tape, k.output.trans h.output, Nat.le_trans h.size k.size, fun i hi hne => (k.block i (Nat.lt_of_lt_of_le hi h.size) hne).trans (h.block i hi hne)⟩
theorem Bch.alloc {ba : Option Addr} {a b : World} (h : Bch ba a b) (o : Obj) : Bch ba a (b.alloc o) := h.trans ⟨rfl, rfl, rfl, by simp, fun k hk _ => heap_alloc_old b o hk⟩
def Kin (W : World) (ba : Option Addr) (bc k t H : Nat) (e : ES) : Prop := EAt W e ∧ e.k = k ∧ ((e.a = ba ∧ e.cap = bc ∧ e.len ≤ t) ∨ ∀ g, e.a = some ⟨g, 0, none⟩ → H ≤ g)
theorem Kin.next {w w' : World} {b0 n bc k t t' H : Nat} {ba : Option Addr} {e : ES} (h : Kin w ba bc k t H e) (hH : ∀ g, ba = some ⟨g, 0, none⟩ → g < H) (hb : Bch ba w w') (hf : FillAt w' b0 ba n bc k t') (ht : t ≤ t') : Kin w' ba bc k t' H e := by
 obtain ⟨h1, h2, h3 | h3⟩ := h
 ·refine ⟨?_, h2, .inl ⟨h3.1, h3.2.1, by omega⟩⟩
  have := hf.eat (m := e.len) (by omega) (fun q => by
   rcases h1 with h1 | ⟨g, h1, _⟩
   ·exact h1
   ·rw [h3.1, q] at h1; cases h1)
  obtain ⟨ea, el, ec, ek⟩ := e
  obtain ⟨rfl, rfl, _⟩ := h3
  cases h2
  exact this
 ·refine ⟨h1.same (fun g _ hg hlt => hb.block g hlt (fun e2 => ?_)) hb.size, h2, .inr h3⟩
  have := h3 g hg
  have := hH g e2
  omega
theorem ownsRow_same {w w' : World} {base : Nat} {e : TypeId} {size : Nat} {v : Value} {n : Nat} {xs : List Value} (h : w.ownsRow base e size v n xs) (hb : ∀ g, v.ownBlock = some g → g < w.heap.size → w'.heap[g]? = w.heap[g]?) : w'.ownsRow base e size v n xs := by
 obtain ⟨hl, h1 | ⟨g, cap, cur, e1, e2, e3, e4⟩⟩ := h
 ·exact ⟨hl, .inl h1⟩
 ·exact ⟨hl, .inr ⟨g, cap, cur, e1, e2, (hb g (by rw [e1]; rfl) (lt_of_block e3)).trans e3, e4⟩⟩
theorem BAt.same {base pw : Nat} {W W' : World} {vb vk : Value} {es : List ES} (h : BAt base W pw vb vk es) (hs : W.heap.size ≤ W'.heap.size) (hp : W'.heap[pw]? = W.heap[pw]?) (hb : ∀ g, vb.ownBlock = some g → W'.heap[g]? = W.heap[g]?) (hk : ∀ g, vk.ownBlock = some g → W'.heap[g]? = W.heap[g]?)
  (he : ∀ e ∈ es, ∀ g, 0 < e.len → e.a = some ⟨g, 0, none⟩ → g < W.heap.size → W'.heap[g]? = W.heap[g]?) : BAt base W' pw vb vk es :=
 ⟨(World.cell?_of_block (w := W) (a := ⟨pw, 1, none⟩) hp).trans h.c1, (World.cell?_of_block (w := W) (a := ⟨pw, 2, none⟩) hp).trans h.c2, fun o => (World.frozen?_of_block (a := ⟨pw, o, none⟩) hp).trans (h.z o), Nat.lt_of_lt_of_le h.lp hs,
  ownsRow_same h.rb (fun g hg _ => hb g hg), ownsRow_same h.rk (fun g hg _ => hk g hg), h.four, h.ob, h.ok, fun e h1 => ⟨(h.es e h1).1.same (fun g h0 hg hl => he e h1 g h0 hg hl) hs, (h.es e h1).2⟩⟩
theorem BAt.later {base pw : Nat} {W W' : World} {vb vk : Value} {es : List ES} (h : BAt base W pw vb vk es) (hb : Below W.heap.size W W') : BAt base W' pw vb vk es :=
 h.same hb.size (hb.block pw h.lp) (fun g hg => hb.block g (h.rb.lt g hg).2) (fun g hg => hb.block g (h.rk.lt g hg).2) (fun _ _ g _ _ hl => hb.block g hl)
theorem BAt.bch {base pw : Nat} {W W' : World} {vb vk : Value} {es : List ES} {ba : Option Addr} (h : BAt base W pw vb vk es) (hb : Bch ba W W') (hap : ∀ g, ba = some ⟨g, 0, none⟩ → g ≠ pw ∧ vb.ownBlock ≠ some g ∧ vk.ownBlock ≠ some g ∧ ∀ e ∈ es, 0 < e.len → e.a ≠ some ⟨g, 0, none⟩) : BAt base W' pw vb vk es :=
 h.same hb.size (hb.block pw h.lp (fun e => (hap pw e).1 rfl)) (fun g hg => hb.block g (h.rb.lt g hg).2 (fun e => (hap g e).2.1 hg)) (fun g hg => hb.block g (h.rk.lt g hg).2 (fun e => (hap g e).2.2.1 hg)) (fun e h1 g h0 hg hl => hb.block g hl (fun e2 => (hap g e2).2.2.2 e h1 h0 hg))
theorem BAt.add {base pw g4 c4 g7 c7 : Nat} {W3 w4 w7 : World} {vb vk : Value} {es es4 : List ES} {X1 X2 : Obj} (h : BAt base W3 pw vb vk es) (hE : ∀ e ∈ es4, EAt W3 e ∧ e.k ≤ 4000000000 ∧ ∀ g, 0 < e.len → e.a = some ⟨g, 0, none⟩ → g ≠ pw ∧ vb.ownBlock ≠ some g ∧ vk.ownBlock ≠ some g) (h4 : es4.length = 4)
  (hown4 : w4.ownsRow base 22 1 (.slice (some ⟨g4, 0, none⟩) (es.length + 4) c4) (es.length + 4) (es.map sliceOf ++ es4.map sliceOf)) (hgrow4 : (W3.alloc X1).grownBy w4 vb.ownBlock) (hat4 : vb.ownBlock = some g4 ∨ g4 = W3.heap.size + 1) (hl4 : g4 < w4.heap.size)
  (hown7 : w7.ownsRow base 3 1 (.slice (some ⟨g7, 0, none⟩) (es.length + 4) c7) (es.length + 4) (es.map markOf ++ es4.map markOf)) (hgrow7 : ((w4.setCell ⟨pw, 1, none⟩ (.slice (some ⟨g4, 0, none⟩) (es.length + 4) c4)).alloc X2).grownBy w7 vk.ownBlock) (hat7 : vk.ownBlock = some g7 ∨ g7 = w4.heap.size + 1) :
  BAt base (w7.setCell ⟨pw, 2, none⟩ (.slice (some ⟨g7, 0, none⟩) (es.length + 4) c7)) pw (.slice (some ⟨g4, 0, none⟩) (es.length + 4) c4) (.slice (some ⟨g7, 0, none⟩) (es.length + 4) c7) (es ++ es4) ∧
  (∀ k, k < W3.heap.size → k ≠ pw → vb.ownBlock ≠ some k → vk.ownBlock ≠ some k → (w7.setCell ⟨pw, 2, none⟩ (.slice (some ⟨g7, 0, none⟩) (es.length + 4) c7)).heap[k]? = W3.heap[k]?) := by
 have hlp := h.lp
 have hs1 : (W3.alloc X1).heap.size = W3.heap.size + 1 := by simp
 have hs4 := hgrow4.size
 have hs5 : ((w4.setCell ⟨pw, 1, none⟩ (.slice (some ⟨g4, 0, none⟩) (es.length + 4) c4)).alloc X2).heap.size = w4.heap.size + 1 := by simp
 have hs7 := hgrow7.size
 have hkl : ∀ g, vk.ownBlock = some g → g < W3.heap.size := fun g hg => (h.rk.lt g hg).2
 have hbl : ∀ g, vb.ownBlock = some g → g < W3.heap.size := fun g hg => (h.rb.lt g hg).2
 have hg4 : g4 ≠ pw ∧ vk.ownBlock ≠ some g4 := by
  rcases hat4 with e | e
  ·exact h.ob g4 e
  ·exact ⟨by omega, fun e2 => by have := hkl g4 e2; omega⟩
 have hg7 : g7 ≠ pw ∧ g7 ≠ g4 := by
  rcases hat7 with e | e
  ·exact ⟨h.ok g7 e, fun e2 => hg4.2 (by rw [← e2]; exact e)⟩
  ·exact ⟨by omega, by omega⟩
 have s4 : ∀ k, k < W3.heap.size → vb.ownBlock ≠ some k → w4.heap[k]? = W3.heap[k]? := fun k hk hne => (hgrow4.block k (by omega) (fun e => hne e.symm)).trans (heap_alloc_old W3 X1 hk)
 have s7 : ∀ k, k < w4.heap.size → k ≠ pw → vk.ownBlock ≠ some k → w7.heap[k]? = w4.heap[k]? := fun k hk h1 hne => by
  rw [hgrow7.block k (by omega) (fun e => hne e.symm), heap_alloc_old _ X2 (by rw [size_setCell]; exact hk), heap_setCell_other _ _ _ _ h1]
 have all : ∀ k, k < W3.heap.size → k ≠ pw → vb.ownBlock ≠ some k → vk.ownBlock ≠ some k → (w7.setCell ⟨pw, 2, none⟩ (.slice (some ⟨g7, 0, none⟩) (es.length + 4) c7)).heap[k]? = W3.heap[k]? := fun k hk h1 h2 h3 => by
  rw [heap_setCell_other _ _ _ _ h1, s7 k (by omega) h1 h3, s4 k hk h2]
 have hpw4 : w4.heap[pw]? = W3.heap[pw]? := s4 pw hlp (fun e => (h.ob pw e).1 rfl)
 have hpw7 : w7.heap[pw]? = (w4.setCell ⟨pw, 1, none⟩ (.slice (some ⟨g4, 0, none⟩) (es.length + 4) c4)).heap[pw]? := by
  rw [hgrow7.block pw (by omega) (fun e => h.ok pw e.symm rfl), heap_alloc_old _ X2 (by rw [size_setCell]; omega)]
 have c41 : w4.cell? ⟨pw, 1, none⟩ = some vb := (World.cell?_of_block (w := W3) (a := ⟨pw, 1, none⟩) hpw4).trans h.c1
 have c42 : w4.cell? ⟨pw, 2, none⟩ = some vk := (World.cell?_of_block (w := W3) (a := ⟨pw, 2, none⟩) hpw4).trans h.c2
 have e4 : (es ++ es4).length = es.length + 4 := by rw [List.length_append, h4]
 refine ⟨⟨?_, ?_, fun o => ?_, ?_, ?_, ?_, ?_, fun g hg => ?_, fun g hg => ?_, fun e he => ?_⟩, all⟩
 ·rw [cell_set_off (by omega), World.cell?_of_block (a := ⟨pw, 1, none⟩) hpw7]; exact cell_set_same c41
 ·refine cell_set_same (v := vk) ?_
  rw [World.cell?_of_block (a := ⟨pw, 2, none⟩) hpw7, cell_set_off (by omega)]; exact c42
 ·rw [World.frozen?_setCell, World.frozen?_of_block (a := ⟨pw, o, none⟩) hpw7, World.frozen?_setCell, World.frozen?_of_block (a := ⟨pw, o, none⟩) hpw4]; exact h.z o
 ·rw [size_setCell]; omega
 ·rw [e4, List.map_append]
  refine ownsRow_same hown4 (fun g hg hl => ?_)
  simp only [Value.ownBlock, Option.some.injEq] at hg
  subst hg
  rw [heap_setCell_other _ _ _ _ hg4.1, s7 g4 hl hg4.1 hg4.2]
 ·rw [e4, List.map_append]
  refine ownsRow_same hown7 (fun g hg _ => ?_)
  simp only [Value.ownBlock, Option.some.injEq] at hg
  subst hg
  rw [heap_setCell_other _ _ _ _ hg7.1]
 ·have := h.four; omega
 ·simp only [Value.ownBlock, Option.some.injEq] at hg
  subst hg
  exact ⟨hg4.1, fun e => by simp only [Value.ownBlock, Option.some.injEq] at e; exact hg7.2 e⟩
 ·simp only [Value.ownBlock, Option.some.injEq] at hg
  subst hg; exact hg7.1
 ·have key : EAt W3 e ∧ e.k ≤ 4000000000 ∧ ∀ g, 0 < e.len → e.a = some ⟨g, 0, none⟩ → g ≠ pw ∧ vb.ownBlock ≠ some g ∧ vk.ownBlock ≠ some g := by
   rcases List.mem_append.1 he with he | he
   ·exact h.es e he
   ·exact hE e he
  have hlt : ∀ g, e.a = some ⟨g, 0, none⟩ → 0 < e.len → g < W3.heap.size := fun g hg h0 => by
   rcases key.1 with q | ⟨g', q1, q2, _⟩
   ·omega
   ·rw [q1] at hg; cases hg; exact q2
  refine ⟨key.1.same (fun g h0 hg hl => all g hl (key.2.2 g h0 hg).1 (key.2.2 g h0 hg).2.1 (key.2.2 g h0 hg).2.2) (by rw [size_setCell]; omega), key.2.1, fun g h0 hg => ⟨(key.2.2 g h0 hg).1, ?_, ?_⟩⟩
  ·intro e2
   simp only [Value.ownBlock, Option.some.injEq] at e2
   have := hlt g hg h0
   rcases hat4 with e5 | e5
   ·exact (key.2.2 g h0 hg).2.1 (by rw [← e2]; exact e5)
   ·omega
  ·intro e2
   simp only [Value.ownBlock, Option.some.injEq] at e2
   have := hlt g hg h0
   rcases hat7 with e5 | e5
   ·exact (key.2.2 g h0 hg).2.2 (by rw [← e2]; exact e5)
   ·omega
end Go.Proofs.YtoobileejdhikaaGreat

namespace Go.Proofs.YtoobileejdhikaaGreat
set_option maxRecDepth 100000
set_option maxHeartbeats 8000000
open Go.RowKit
attribute [local go_sem ↓] Go.wp_at_zero Go.wp_at_succ

structure OwnEnd (base pw : Nat) (vb vk : Value) (es : List ES) (ba : Option Addr) (n : Nat) (W W' : World) (vb' vk' : Value) (es4 : List ES) : Prop where
 four : es4.length = 4
 em : ∀ e ∈ es4, e.len ≤ n + 3 ∧ ∀ g, e.a = some ⟨g, 0, none⟩ → ba = some ⟨g, 0, none⟩ ∨ W.heap.size ≤ g
 b : BAt base W' pw vb' vk' (es ++ es4)
 block : ∀ k, k < W.heap.size → k ≠ pw → vb.ownBlock ≠ some k → vk.ownBlock ≠ some k → ba ≠ some ⟨k, 0, none⟩ → W'.heap[k]? = W.heap[k]?
 ob : ∀ g, vb'.ownBlock = some g → vb.ownBlock = some g ∨ W.heap.size ≤ g
 ok : ∀ g, vk'.ownBlock = some g → vk.ownBlock = some g ∨ W.heap.size ≤ g
 size : W.heap.size ≤ W'.heap.size
 os : W'.os = W.os
 tape : W'.tape = W.tape
 output : W'.output = W.output
 c0 : W'.cell? ⟨pw, 0, none⟩ = W.cell? ⟨pw, 0, none⟩

theorem own_any (base pw : Nat) (vb vk : Value) (es : List ES) (ba : Option Addr) (n bc : Nat) (xs : List Value) (b0 : Nat) (W : World) (h : BAt base W pw vb vk es) (hbase : base ≤ W.heap.size) (hlen : es.length ≤ 4000000000) (hr : W.ownsRow b0 5 1 (.slice ba n bc) n xs) (hn : n ≤ 1000000)
  (hap : ∀ g, ba = some ⟨g, 0, none⟩ → g ≠ pw ∧ vb.ownBlock ≠ some g ∧ vk.ownBlock ≠ some g ∧ ∀ e ∈ es, 0 < e.len → e.a ≠ some ⟨g, 0, none⟩) :
  Calls Tryz.prog 56 #[.pointer (some ⟨pw, 0, none⟩), .slice ba n bc] W fun e W' => e = .returned (.tuple #[]) ∧ ∃ vb' vk' es4, OwnEnd base pw vb vk es ba n W W' vb' vk' es4 := by
 obtain ⟨i1, hi', hz0', hz1', hz2'⟩ := info_parts Tryz.infoS
 obtain ⟨i2, hj, hy0, hy1, hy2⟩ := info_parts Tryz.infoI
 obtain ⟨q, hq⟩ : ∃ q, es.length = 4 * q := ⟨es.length / 4, by have := h.four; omega⟩
 obtain ⟨sa, sc, hvb⟩ := size_row h.rb
 subst hvb
 have c1 := h.c1
 rw [hq] at c1
 have HH := hideM h
 have HR := hideM hr
 have HAP := hideM hap
 have HQ := hideM hq
 have q1 : ((4 * q : Nat) : Int) / 4 = (q : Int) := by omega
 have q2 : (q : Int) ≤ 1000000000 := by omega
 have hbal : ∀ g, ba = some ⟨g, 0, none⟩ → g < W.heap.size := fun g hg => by
  subst hg
  obtain ⟨_, h1 | ⟨g', cap', cur, e1, e2, e3, _⟩⟩ := hr
  ·cases h1.1
  ·simp only [Value.slice.injEq, Option.some.injEq, Addr.mk.injEq] at e1
   rw [e1.1.1]; exact lt_of_block e3
 have HBL := hideM hbal
 have hnil : ba = none → n = 0 := fun h => ((fill_start (k := 0) hr).nil h).1
 have HNL := hideM hnil
 clear h hr hap hq hbal hnil
 go_enter Tryz.func56, Tryz.ntmps56
 go_upto_block 0 with fail
 go_cut [6] from 19 to 29 (fun _ wc => FillAt wc b0 ba n bc (q + 1) n ∧ Bch ba W wc)
 case first =>
  go_wp2_with fail
  go_loopw [6] (fun s6 wr => ∃ j : Nat, j ≤ n ∧ s6 = .int .i64 j ∧ Hid (FillAt wr b0 ba n bc (q + 1) j ∧ Bch ba W wr)) (fun s _ => n - (intOf s).toNat)
  case atStart => exact ⟨0, by omega, rfl, ⟨fill_start HR.out, Bch.refl _ _⟩⟩
  case round =>
   obtain ⟨j, hjn, rfl, HS⟩ := hrel
   by_cases hlt : j < n
   ·have hlt2 : (j : Int) < (n : Int) := by omega
    have j0 : (0 : Int) ≤ (j : Int) := by omega
    cases ba with
    | none => have := HNL.out rfl; omega
    | some x =>
     obtain ⟨g, cur, rfl, e2, e3, e4, e5⟩ := HS.out.1.row x rfl
     have hle := HS.out.1.le
     have hcell : wr.cell? ⟨g, j, none⟩ = some cur[j] := by
      rw [cell_of_row wr g j cur _ _ e3]; exact Array.getElem?_eq_getElem (by omega)
     have hz : wr.frozen? ⟨g, j, none⟩ = false := frozen_of_row wr g j _ _ e3
     have HE3 := hideM e3
     have HE5 := hideM e5
     have HJ : Hid (j < n ∧ cur.size = bc) := ⟨hlt, e4⟩
     clear e3 e5
     go_wp2_with (go_at_call 68; refine (sign_int _ _ (q + 1) j _ (by omega) rfl (by omega) (by omega)).mono ?_; rintro e w' ⟨rfl, rfl⟩)
     go_roundw
     case rel =>
      obtain ⟨hj1, hj2⟩ := HJ.out
      refine ⟨j + 1, by omega, by go_num, ⟨⟨HS.out.1.nil, HS.out.1.le, HS.out.1.mx, fun y hy => ?_⟩, HS.out.2.set _⟩⟩
      cases hy
      refine ⟨g, _, rfl, e2, heap_setCell_same _ _ _ _ _ _ HE3.out, by rw [Array.size_setIfInBounds]; exact hj2, fun r hr => ?_⟩
      rw [Array.getElem?_setIfInBounds]
      by_cases e : j = r
      ·subst e; rw [if_pos rfl, if_pos (by omega)]
      ·rw [if_neg e]; exact HE5.out r (by omega)
     case measure => have := HJ.out.1; simp [intOf]; omega
   ·have hjj : j = n := by omega
    subst hjj
    go_wp2_with fail
    go_meet
    case rel => exact HS.out
 case rest =>
  obtain ⟨hF0, hB0⟩ := hcut
  have HF0 := hideM hF0
  have HB0 := hideM hB0
  clear hF0 hB0 c1 q1
  go_upto_region 7 with (first | (go_at_call 68; refine (sign_int _ _ (q + 1) n _ (by omega) (by omega) (by omega) (by omega)).mono ?_; rintro e w' ⟨rfl, rfl⟩) | (go_at_call 68; refine (sign_int _ _ (q + 1) (n + 1) _ (by omega) (by omega) (by omega) (by omega)).mono ?_; rintro e w' ⟨rfl, rfl⟩) | (go_at_call 68; refine (sign_int _ _ (q + 1) (n + 2) _ (by omega) (by omega) (by omega) (by omega)).mono ?_; rintro e w' ⟨rfl, rfl⟩) | (at_builtin; refine wpList_mark rfl _ _ rfl rfl (HF0.out.alloc _) (Nat.le_refl _) ⟨wc.heap.size, 0, none⟩ 1 [.int .u8 (sgnB (q + 1) n)] rfl (sgL_next _ _) (by omega) (by omega) (World.news_of_block (heap_alloc_new wc _)) (by omega) ?_; intro a1 cap1 t1 w1 ht1 hu1 hF1 hB1 hE1 hK1))
  have hs0 := HB0.out.size
  have HF1 := hideM hF1
  have HB1 : Hid (Bch ba W w1) := (HB0.out.alloc _).trans hB1
  have HK1 : Hid (Kin w1 ba bc (q + 1) t1 W.heap.size ⟨a1, n + 1, cap1, q + 1⟩) := ⟨hE1, rfl, hK1.imp (fun h => h) (fun h g hg => by have := h g hg; simp at this; omega)⟩
  have HK0 : Hid (Kin w1 ba bc (q + 1) t1 W.heap.size ⟨ba, n, bc, q + 1⟩) := ⟨hF1.eat (by omega) (fun h => HNL.out h), rfl, .inl ⟨rfl, rfl, by show n ≤ t1; omega⟩⟩
  clear hF1 hB1 hE1 hK1 HF0
  go_upto_region 8 with (first | (go_at_call 68; refine (sign_int _ _ (q + 1) n _ (by omega) (by omega) (by omega) (by omega)).mono ?_; rintro e w' ⟨rfl, rfl⟩) | (go_at_call 68; refine (sign_int _ _ (q + 1) (n + 1) _ (by omega) (by omega) (by omega) (by omega)).mono ?_; rintro e w' ⟨rfl, rfl⟩) | (go_at_call 68; refine (sign_int _ _ (q + 1) (n + 2) _ (by omega) (by omega) (by omega) (by omega)).mono ?_; rintro e w' ⟨rfl, rfl⟩) | (at_builtin; refine wpList_mark rfl _ _ rfl rfl (HF1.out.alloc _) (by omega) ⟨w1.heap.size, 0, none⟩ 2 [.int .u8 (sgnB (q + 1) n), .int .u8 (sgnB (q + 1) (n + 1))] rfl (sgL_next2 _ _) (by omega) (by omega) (World.news_of_block (heap_alloc_new w1 _)) (by omega) ?_; intro a2 cap2 t2 w2 ht2 hu2 hF2 hB2 hE2 hK2))
  have hB2' : Bch ba w1 w2 := ((Bch.refl ba w1).alloc _).trans hB2
  have HF2 := hideM hF2
  have HB2 : Hid (Bch ba W w2) := HB1.out.trans hB2'
  have hs1 := HB1.out.size
  have HK12 : Hid (Kin w2 ba bc (q + 1) t2 W.heap.size ⟨a1, n + 1, cap1, q + 1⟩) := HK1.out.next HBL.out hB2' hF2 ht2
  have HK02 : Hid (Kin w2 ba bc (q + 1) t2 W.heap.size ⟨ba, n, bc, q + 1⟩) := HK0.out.next HBL.out hB2' hF2 ht2
  have HK2 : Hid (Kin w2 ba bc (q + 1) t2 W.heap.size ⟨a2, n + 2, cap2, q + 1⟩) := ⟨hE2, rfl, hK2.imp (fun h => h) (fun h g hg => by have := h g hg; simp at this; omega)⟩
  clear hF2 hB2 hE2 hK2 HF1 HK1 HK0 hB2'
  go_upto_region 9 with (first | (go_at_call 68; refine (sign_int _ _ (q + 1) n _ (by omega) (by omega) (by omega) (by omega)).mono ?_; rintro e w' ⟨rfl, rfl⟩) | (go_at_call 68; refine (sign_int _ _ (q + 1) (n + 1) _ (by omega) (by omega) (by omega) (by omega)).mono ?_; rintro e w' ⟨rfl, rfl⟩) | (go_at_call 68; refine (sign_int _ _ (q + 1) (n + 2) _ (by omega) (by omega) (by omega) (by omega)).mono ?_; rintro e w' ⟨rfl, rfl⟩) | (at_builtin; refine wpList_mark rfl _ _ rfl rfl (HF2.out.alloc _) (by omega) ⟨w2.heap.size, 0, none⟩ 3 [.int .u8 (sgnB (q + 1) n), .int .u8 (sgnB (q + 1) (n + 1)), .int .u8 (sgnB (q + 1) (n + 2))] rfl (sgL_next3 _ _) (by omega) (by omega) (World.news_of_block (heap_alloc_new w2 _)) (by omega) ?_; intro a3 cap3 t3 w3 ht3 hu3 hF3 hB3 hE3 hK3))
  have hB3' : Bch ba w2 w3 := ((Bch.refl ba w2).alloc _).trans hB3
  have HB3 : Hid (Bch ba W w3) := HB2.out.trans hB3'
  have hs2 := HB2.out.size
  have hs3 := HB3.out.size
  have HE2 : Hid (∀ e ∈ [ES.mk ba n bc (q + 1), ⟨a1, n + 1, cap1, q + 1⟩, ⟨a2, n + 2, cap2, q + 1⟩, ⟨a3, n + 3, cap3, q + 1⟩], e.len ≤ n + 3 ∧ ∀ g, e.a = some ⟨g, 0, none⟩ → ba = some ⟨g, 0, none⟩ ∨ W.heap.size ≤ g) := by
   have k1 := HK12.out.2.2
   have k2 := HK2.out.2.2
   have k3 : (a3 = ba ∧ cap3 = bc ∧ n + 3 ≤ t3) ∨ ∀ g, a3 = some ⟨g, 0, none⟩ → W.heap.size ≤ g := hK3.imp (fun h => h) (fun h g hg => by have := h g hg; simp at this; omega)
   intro e he
   simp only [List.mem_cons, List.not_mem_nil, or_false] at he
   rcases he with rfl | rfl | rfl | rfl
   ·exact ⟨by show n ≤ n + 3; omega, fun g hg => .inl hg⟩
   ·exact ⟨by show n + 1 ≤ n + 3; omega, fun g hg => k1.elim (fun h => .inl (by rw [← h.1]; exact hg)) (fun h => .inr (h g hg))⟩
   ·exact ⟨by show n + 2 ≤ n + 3; omega, fun g hg => k2.elim (fun h => .inl (by rw [← h.1]; exact hg)) (fun h => .inr (h g hg))⟩
   ·exact ⟨Nat.le_refl _, fun g hg => k3.elim (fun h => .inl (by rw [← h.1]; exact hg)) (fun h => .inr (h g hg))⟩
  have HE : Hid (∀ e ∈ [ES.mk ba n bc (q + 1), ⟨a1, n + 1, cap1, q + 1⟩, ⟨a2, n + 2, cap2, q + 1⟩, ⟨a3, n + 3, cap3, q + 1⟩], EAt w3 e ∧ e.k ≤ 4000000000 ∧ ∀ g, 0 < e.len → e.a = some ⟨g, 0, none⟩ → g ≠ pw ∧ (Value.slice sa es.length sc).ownBlock ≠ some g ∧ vk.ownBlock ≠ some g) := by
   have k0 := HK02.out.next HBL.out hB3' hF3 ht3
   have k1 := HK12.out.next HBL.out hB3' hF3 ht3
   have k2 := HK2.out.next HBL.out hB3' hF3 ht3
   have k3 : Kin w3 ba bc (q + 1) t3 W.heap.size ⟨a3, n + 3, cap3, q + 1⟩ := ⟨hE3, rfl, hK3.imp (fun h => h) (fun h g hg => by have := h g hg; simp at this; omega)⟩
   have key : ∀ e : ES, Kin w3 ba bc (q + 1) t3 W.heap.size e → EAt w3 e ∧ e.k ≤ 4000000000 ∧ ∀ g, 0 < e.len → e.a = some ⟨g, 0, none⟩ → g ≠ pw ∧ (Value.slice sa es.length sc).ownBlock ≠ some g ∧ vk.ownBlock ≠ some g := fun e he => by
    refine ⟨he.1, by rw [he.2.1]; omega, fun g _ hg => ?_⟩
    rcases he.2.2 with h1 | h1
    ·have := HAP.out g (by rw [← h1.1]; exact hg)
     exact ⟨this.1, this.2.1, this.2.2.1⟩
    ·have h2 := h1 g hg
     have h3 := HH.out.lp
     exact ⟨by omega, fun e2 => by have := (HH.out.rb.lt g e2).2; omega, fun e2 => by have := (HH.out.rk.lt g e2).2; omega⟩
   intro e he
   simp only [List.mem_cons, List.not_mem_nil, or_false] at he
   rcases he with rfl | rfl | rfl | rfl
   ·exact key _ k0
   ·exact key _ k1
   ·exact key _ k2
   ·exact key _ k3
  have HT := hideM (HH.out.bch HB3.out HAP.out)
  clear hF3 hB3 hE3 hK3 hB3' HF2 HK02 HK12 HK2 HB2 HB1 HB0
  have c1 := HT.out.c1
  have lp3 := HT.out.lp
  have hW3 : base ≤ w3.heap.size := by omega
  have HLN : Hid (es.length ≤ 4000000000) := hlen
  generalize hLe : es.length = le at c1 hlen
  have HLE := hideM hLe
  clear hLe
  go_upto_region 10 with (at_builtin; go_must (refine wpList_append_lies _ rfl _ _ 36 rfl base 22 i1 _ 1 24 Tryz.underlying36 hi' hz0' hz1' hz2' rfl (by omega) (.slice sa le sc) le (es.map sliceOf) rfl (by rw [← HLE.out]; exact (HT.out.later (below_alloc _ _)).rb) ⟨w3.heap.size, 0, none⟩ 4 4 [.slice ba n bc, .slice a1 (n + 1) cap1, .slice a2 (n + 2) cap2, .slice a3 (n + 3) cap3] rfl rfl (World.news_of_block (heap_alloc_new w3 _)) (fun u hu => by simp at hu; rcases hu with rfl | rfl | rfl | rfl <;> rfl) (by omega) (by unfold maxLen; omega) (by omega) (by simp; omega) (w3.heap.size + 1) (by simp) ?_); intro g4 c4 w4 hown4 hgrow4 hat4 hl4; have p4 : w4.heap[pw]? = w3.heap[pw]? := (hgrow4.block pw (by simp; omega) (fun e => (HT.out.ob pw (by rw [HLE.out]; exact e.symm)).1 rfl)).trans (heap_alloc_old w3 _ lp3); have d1 := (World.cell?_of_block (w := w3) (a := ⟨pw, 1, none⟩) p4).trans c1; have z1 := (World.frozen?_of_block (a := ⟨pw, 1, none⟩) p4).trans (HT.out.z 1))
  have HO4 := hideM hown4
  have HG4 := hideM hgrow4
  have HA4 := hideM hat4
  have p4 : w4.heap[pw]? = w3.heap[pw]? := (hgrow4.block pw (by simp; omega) (fun e => (HT.out.ob pw (by rw [HLE.out]; exact e.symm)).1 rfl)).trans (heap_alloc_old w3 _ lp3)
  have HP4 := hideM p4
  have hs4 : w3.heap.size + 1 ≤ w4.heap.size := by have := hgrow4.size; simpa using this
  have d2 : (w4.setCell ⟨pw, 1, none⟩ (.slice (some ⟨g4, 0, none⟩) (le + 4) c4)).cell? ⟨pw, 2, none⟩ = some vk := by
   rw [cell_set_off (by omega)]; exact (World.cell?_of_block (w := w3) (a := ⟨pw, 2, none⟩) HP4.out).trans HT.out.c2
  have HRK : Hid (∀ X, ((w4.setCell ⟨pw, 1, none⟩ (.slice (some ⟨g4, 0, none⟩) (le + 4) c4)).alloc X).ownsRow base 3 1 vk le (es.map markOf)) := by
   intro X
   rw [← HLE.out]
   refine ownsRow_same HT.out.rk (fun g hg hl => ?_)
   rw [heap_alloc_old _ X (by rw [size_setCell]; omega), heap_setCell_other _ _ _ _ (HT.out.ok g hg), HG4.out.block g (by simp; omega) (fun e => ?_), heap_alloc_old w3 _ hl]
   exact (HT.out.ob g (by rw [HLE.out]; exact e.symm)).2 hg
  have hs5 : (w4.setCell ⟨pw, 1, none⟩ (.slice (some ⟨g4, 0, none⟩) (le + 4) c4)).heap.size = w4.heap.size := by simp
  clear hown4 hgrow4 hat4 d1 z1
  generalize hw5 : w4.setCell ⟨pw, 1, none⟩ (.slice (some ⟨g4, 0, none⟩) (le + 4) c4) = w5 at d2 HRK hs5 ⊢
  have HW5 := hideM hw5
  have HS5 := hideM hs5
  clear hw5 hs5
  go_wp2_with (at_builtin; go_must (refine wpList_append_lies _ rfl _ _ 39 rfl base 3 i2 _ 1 8 Tryz.underlying39 hj hy0 hy1 hy2 rfl (by omega) vk le (es.map markOf) rfl (HRK.out _) ⟨w5.heap.size, 0, none⟩ 4 4 [.int .i64 ((q : Int) + 1), .int .i64 ((q : Int) + 1), .int .i64 ((q : Int) + 1), .int .i64 ((q : Int) + 1)] rfl rfl (World.news_of_block (heap_alloc_new w5 _)) (fun u hu => by simp at hu; subst hu; rfl) (by omega) (by unfold maxLen; omega) (by omega) (by have := HS5.out; simp; omega) (w4.heap.size + 1) (by have := HS5.out; simp; omega) ?_); intro g7 c7 w7 hown7 hgrow7 hat7 hl7; have p7 : w7.heap[pw]? = w5.heap[pw]? := (hgrow7.block pw (by have := HS5.out; simp; omega) (fun e => HT.out.ok pw e.symm rfl)).trans (heap_alloc_old w5 _ (by have := HS5.out; omega)); have d7 := (World.cell?_of_block (w := w5) (a := ⟨pw, 2, none⟩) p7).trans d2; have z7 : w7.frozen? ⟨pw, 2, none⟩ = false := by rw [World.frozen?_of_block (a := ⟨pw, 2, none⟩) p7, ← HW5.out, World.frozen?_setCell, World.frozen?_of_block (a := ⟨pw, 2, none⟩) HP4.out]; exact HT.out.z 2)
  go_end0
  obtain rfl := HLE.out
  obtain rfl := HW5.out
  have hadd := HT.out.add HE.out rfl HO4.out HG4.out HA4.out hl4 hown7 hgrow7 hat7
  have hs7 := hgrow7.size
  have hx : ((w4.setCell ⟨pw, 1, none⟩ (.slice (some ⟨g4, 0, none⟩) (es.length + 4) c4)).alloc (.cells #[.int .i64 ((q : Int) + 1), .int .i64 ((q : Int) + 1), .int .i64 ((q : Int) + 1), .int .i64 ((q : Int) + 1)] 3)).heap.size = w4.heap.size + 1 := by simp
  have b1 := (Below.refl 0 w4).setCell (p := ⟨pw, 1, none⟩) (Nat.zero_le _) (.slice (some ⟨g4, 0, none⟩) (es.length + 4) c4)
  have b2 := (Below.refl 0 w7).setCell (p := ⟨pw, 2, none⟩) (Nat.zero_le _) (.slice (some ⟨g7, 0, none⟩) (es.length + 4) c7)
  have hpw : ba ≠ some ⟨pw, 0, none⟩ := fun e => (HAP.out pw e).1 rfl
  refine ⟨rfl, _, _, [⟨ba, n, bc, q + 1⟩, ⟨a1, n + 1, cap1, q + 1⟩, ⟨a2, n + 2, cap2, q + 1⟩, ⟨a3, n + 3, cap3, q + 1⟩], rfl, HE2.out, hadd.1, fun k hk h1 h2 h3 h4 => ?_, fun g hg => ?_, fun g hg => ?_, ?_, ?_, ?_, ?_, ?_⟩
  ·exact (hadd.2 k (by omega) h1 h2 h3).trans (HB3.out.block k hk h4)
  ·simp only [Value.ownBlock, Option.some.injEq] at hg
   subst hg
   rcases HA4.out with e | e
   ·exact .inl e
   ·right; omega
  ·simp only [Value.ownBlock, Option.some.injEq] at hg
   subst hg
   rcases hat7 with e | e
   ·exact .inl e
   ·right; omega
  ·rw [size_setCell]; omega
  ·exact b2.os.trans (hgrow7.os.trans (b1.os.trans (HG4.out.os.trans HB3.out.os)))
  ·exact b2.tape.trans (hgrow7.tape.trans (b1.tape.trans (HG4.out.tape.trans HB3.out.tape)))
  ·exact b2.output.trans (hgrow7.output.trans (b1.output.trans (HG4.out.output.trans HB3.out.output)))
  ·rw [cell_set_off (by omega), World.cell?_of_block (a := ⟨pw, 0, none⟩) p7, cell_set_off (by omega), World.cell?_of_block (a := ⟨pw, 0, none⟩) HP4.out]
   exact World.cell?_of_block (a := ⟨pw, 0, none⟩) (HB3.out.block pw HH.out.lp hpw)
end Go.Proofs.YtoobileejdhikaaGreat

namespace Go.Proofs.YtoobileejdhikaaGreat
set_option maxRecDepth 100000
set_option maxHeartbeats 8000000
open Go.RowKit
attribute [local go_sem ↓] Go.wp_at_zero Go.wp_at_succ

theorem row_at {W : World} {base n : Nat} {t : TypeId} {v : Value} {xs : List Value} (h : W.ownsRow base t 1 v n xs) (i : Nat) (hi : i < n) : ∃ g cap, v = .slice (some ⟨g, 0, none⟩) n cap ∧ W.cell? ⟨g, i, none⟩ = xs[i]? ∧ n ≤ cap ∧ cap ≤ 9223372036854775807 := by
 have h' := h
 obtain ⟨_, h1 | ⟨g, cap, cur, e1, e2, e3, e4, e5, _⟩⟩ := h
 ·omega
 ·subst e1
  unfold maxLen at e5
  exact ⟨g, cap, rfl, h'.cellAt i (by omega), e4, e5⟩

theorem wlooks_any (base pw : Nat) (vb vk : Value) (es : List ES) (W : World) (h : BAt base W pw vb vk es) (hlen : es.length ≤ 4000000000) (hsm : ∀ e ∈ es, e.len ≤ 1000000000) :
  Calls Tryz.prog 43 #[.pointer (some ⟨pw, 0, none⟩)] W fun e W' => e = .returned (.bool true) ∧ Below W.heap.size W W' := by
 obtain ⟨sa, sc, hvb⟩ := size_row h.rb
 subst hvb
 obtain ⟨ka, kc, hvk⟩ := size_row h.rk
 subst hvk
 have HH := hideM h
 have HSM := hideM hsm
 clear h hsm
 go_enter Tryz.func43, Tryz.ntmps43
 go_wp2_with fail
 go_loopw [3] (fun s3 wo => ∃ i : Nat, i ≤ es.length ∧ s3 = .int .i64 i ∧ Below W.heap.size W wo) (fun s _ => es.length - (intOf s).toNat)
 case atStart => exact ⟨0, by omega, rfl, Below.refl _ _⟩
 case round =>
  obtain ⟨i, hin, rfl, hbo⟩ := hrel
  have HBo := hideM hbo
  have c1 := (HH.out.later hbo).c1
  clear hbo
  by_cases hlt : i < es.length
  ·have hlt2 : (i : Int) < (es.length : Int) := by omega
   have i0 : (0 : Int) ≤ (i : Int) := by omega
   go_wp2_with fail
   go_loopw [4] (fun s4 wr => ∃ k : Nat, k ≤ (es[i]).len ∧ s4 = .int .i64 k ∧ Below W.heap.size W wr) (fun s _ => (es[i]).len - (intOf s).toNat)
   case atStart => exact ⟨0, by omega, rfl, HBo.out⟩
   case round =>
    clear HBo c1
    obtain ⟨k, hkn, rfl, hbr⟩ := hrel
    have hT := HH.out.later hbr
    have hmem : es[i] ∈ es := List.getElem_mem hlt
    obtain ⟨gb, cb, eb, cb1, cb2, cb3⟩ := row_at hT.rb i hlt
    obtain ⟨gk, ck, ek, ck1, ck2, ck3⟩ := row_at hT.rk i hlt
    simp only [Value.slice.injEq, true_and] at eb ek
    obtain ⟨rfl, rfl⟩ := eb
    obtain ⟨rfl, rfl⟩ := ek
    rw [List.getElem?_map, List.getElem?_eq_getElem hlt] at cb1 ck1
    simp only [Option.map_some, sliceOf, markOf] at cb1 ck1
    have c1 := hT.c1
    have c2 := hT.c2
    have hE := hT.es _ hmem
    have hl9 := HSM.out _ hmem
    generalize es[i] = e at cb1 ck1 hE hkn hl9 ⊢
    have HBr := hideM hbr
    have HI : Hid (i < es.length) := hlt
    have hek := hE.2.1
    clear hbr hT
    obtain ⟨ea, el, ec, ekk⟩ := e
    simp only at cb1 ck1 hkn hl9 hek
    by_cases hk : k < el
    ·have hk2 : (k : Int) < (el : Int) := by omega
     have k0 : (0 : Int) ≤ (k : Int) := by omega
     rcases hE.1 with h0 | ⟨ge, h1, h2, h3⟩
     ·simp only at h0; omega
     simp only at h1 h3
     subst h1
     have c5 := h3 k hk
     clear h3 hE
     go_wp2_with fail
     have HK : Hid (k < el) := hk
     go_region_held3 (fun w' => w'.cell? ⟨pw, 1, none⟩ = some (.slice (some ⟨gb, 0, none⟩) es.length sc) ∧ w'.cell? ⟨pw, 2, none⟩ = some (.slice (some ⟨gk, 0, none⟩) es.length kc) ∧ w'.cell? ⟨gb, i, none⟩ = some (.slice (some ⟨ge, 0, none⟩) el ec) ∧ w'.cell? ⟨gk, i, none⟩ = some (.int .i64 ekk) ∧ w'.cell? ⟨ge, k, none⟩ = some (.int .u8 (sgnB ekk k))) (go_keep) ((go_at_call 68; refine (sign_any ekk k _ (by omega) (by omega)).mono ?_; rintro e w' ⟨rfl, rfl⟩))
     all_goals go_wp2
     go_roundw
     case rel => exact ⟨k + 1, (by have := HK.out; show k + 1 ≤ el; omega), by go_num, HBr.out.drew⟩
     case measure => have := HK.out; simp [intOf]; omega
    ·have hkk : k = el := by omega
     subst hkk
     clear hE
     go_wp2_with fail
     go_roundw
     case rel => exact ⟨i + 1, (by have := HI.out; omega), by go_num, HBr.out⟩
     case measure => have := HI.out; simp [intOf]; omega
  ·have hii : i = es.length := by omega
   subst hii
   go_wp2_with fail
   go_ret
   exact ⟨rfl, HBo.out⟩
end Go.Proofs.YtoobileejdhikaaGreat
