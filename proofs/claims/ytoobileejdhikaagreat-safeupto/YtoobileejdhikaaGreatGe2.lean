/-
  Plain code, as plain functions: what registers hold on all ways, what was tested, and that it is let in.
  Plain code is let in.
  Plain code is let in: the whole.
-/
import Derived.Test.YtoobileejdhikaaGreatGf3
import Derived.Test.YtoobileejdhikaaGreatGd3
import Derived.Test.YtoobileejdhikaaGreatGe1
namespace Go.Proofs.YtoobileejdhikaaGreat
open Go.RowKit

theorem heldGo_in {f : Nat → Option HK} : ∀ (n j : Nat) (h : HK), j < n → f j = some h → (∀ i g, f i = some g → 0 ≤ g.kind) → (heldGo f n = ⟨7, 0⟩ ∨ heldGo f n = h) ∧ 0 ≤ (heldGo f n).kind
 | 0, _, _, h, _, _ => by omega
 | n + 1, j, h, hj, hf, h0 => by
  unfold heldGo
  by_cases e : j = n
  ·subst e
   rw [hf]
   show (meetH (heldGo f j) h = _ ∨ meetH (heldGo f j) h = _) ∧ 0 ≤ (meetH (heldGo f j) h).kind
   unfold meetH
   split
   ·exact ⟨.inl rfl, (by decide : (0 : Int) ≤ 7)⟩
   ·exact ⟨.inr rfl, h0 j h hf⟩
  ·have ih := heldGo_in n j h (by omega) hf h0
   cases hn : f n with
   | none => exact ih
   | some g =>
    show (meetH (heldGo f n) g = _ ∨ meetH (heldGo f n) g = _) ∧ 0 ≤ (meetH (heldGo f n) g).kind
    unfold meetH
    split
    ·exact ⟨.inl rfl, (by decide : (0 : Int) ≤ 7)⟩
    ·rename_i hq
     have hs : g.same (heldGo f n) = true := by
      cases e : g.same (heldGo f n)
      ·exact absurd ⟨ih.2, e⟩ hq
      ·rfl
     have hg := HK.eq_of_same hs
     rw [hg]; exact ih
theorem sureGo_in {f : Nat → Option (Int × Bool)} : ∀ (n j : Nat) (s : Int) (m : Bool), j < n → f j = some (s, m) → ∃ s' m', sureGo f n = some (s', m') ∧ s' ≤ s ∧ (m' = true → m = true)
 | 0, _, _, _, h, _ => by omega
 | n + 1, j, s, m, hj, hf => by
  unfold sureGo
  by_cases e : j = n
  ·subst e
   rw [hf]
   cases hg : sureGo f j with
   | none => exact ⟨s, m, rfl, Int.le_refl _, fun h => h⟩
   | some p =>
    obtain ⟨s', m'⟩ := p
    refine ⟨_, _, rfl, ?_, fun h => ?_⟩
    ·split <;> omega
    ·simp only [Bool.and_eq_true] at h; exact h.1
  ·obtain ⟨s', m', h1, h2, h3⟩ := sureGo_in n j s m (by omega) hf
   cases hn : f n with
   | none => exact ⟨s', m', h1, h2, h3⟩
   | some p =>
    obtain ⟨t, u⟩ := p
    simp only [h1]
    refine ⟨_, _, rfl, ?_, fun h => ?_⟩
    ·split <;> omega
    ·simp only [Bool.and_eq_true] at h; exact h3 h.2

def toHd (h : HK) : Hd := if h.kind = 1 then .num else if h.kind = 4 then .first h.k else if h.kind = 5 then .deep h.k else if h.kind = 6 then .fin else .any
def kindsOf (t : PL) : Nat → Hd := fun r => toHd (t.held r)
theorem setsP_0 {x : RI} {t : PL} (h : ∀ r, 0 ≤ (t.held r).kind) (r : Nat) : 0 ≤ (setsP x t r).kind := by
 unfold setsP
 split
 ·unfold calledP
  repeat' split
  all_goals first | exact h r | exact (by decide)
 ·repeat' split
  all_goals first | exact h _ | exact (by decide)
theorem sureGo_some {f : Nat → Option (Int × Bool)} : ∀ n : Nat, (sureGo f n).isSome = true → ∃ j p, j < n ∧ f j = some p
 | 0, h => by cases h
 | n + 1, h => by
  unfold sureGo at h
  cases hn : f n with
  | none =>
   rw [hn] at h
   obtain ⟨j, p, h1, h2⟩ := sureGo_some n h
   exact ⟨j, p, by omega, h2⟩
  | some p => exact ⟨n, p, by omega, hn⟩
theorem heldGo_0 {f : Nat → Option HK} (n : Nat) (h0 : ∀ i g, i < n → f i = some g → 0 ≤ g.kind) (h : ∃ j g, j < n ∧ f j = some g) : 0 ≤ (heldGo f n).kind := by
 obtain ⟨j, g, h1, h2⟩ := h
 have e : heldGo f n = heldGo (fun i => if i < n then f i else none) n := heldGo_ext n (fun j hj => by show _ = if j < n then _ else _; rw [if_pos hj])
 rw [e]
 refine (heldGo_in n j g h1 (by show (if j < n then f j else none) = _; rw [if_pos h1]; exact h2) (fun i g hg => ?_)).2
 by_cases hi : i < n
 ·have hg' : f i = some g := by have q : (if i < n then f i else none) = some g := hg; rw [if_pos hi] at q; exact q
  exact h0 i g hi hg'
 ·have q : (if i < n then f i else none) = some g := hg
  rw [if_neg hi] at q; cases q
theorem held_0 (L : Nat → RI) : ∀ (b i : Nat), i < b → (lkP L i).way = true → ∀ r, 0 ≤ ((lkP L i).held r).kind
 | 0, _, h, _, _ => by omega
 | b + 1, i, hi, hw, r => by
  by_cases i0 : i = 0
  ·subst i0
   rw [lkP_zero]
   show 0 ≤ (heldStart r).kind
   unfold heldStart
   repeat' split
   all_goals exact (by decide)
  ·rw [lkP_held L i0]
   have hs := lkP_sure L i0
   have hw2 : (sureGo (fun j => if edge L j i then some (sureP (L j) (lkP L j) (fromP (L j) (lkP L j) j i).1, movP (L j) (lkP L j)) else none) i).isSome = true := by
    rw [← (Prod.mk.inj hs).1]; exact hw
   obtain ⟨j, p, h1, h2⟩ := sureGo_some i hw2
   have he : edge L j i = true := by
    cases e : edge L j i
    ·have q : (if edge L j i then some (sureP (L j) (lkP L j) (fromP (L j) (lkP L j) j i).1, movP (L j) (lkP L j)) else none) = some p := h2
     rw [e] at q; cases q
    ·rfl
   have hway : ∀ j, edge L j i = true → (lkP L j).way = true := fun j e => by
    cases q : (lkP L j).way
    ·unfold edge fromP at e; rw [q] at e; cases e
    ·rfl
   refine heldGo_0 i (fun k g hk hg => ?_) ⟨j, _, h1, by show (if edge L j i then _ else _) = _; rw [he]; rfl⟩
   cases e : edge L k i
   ·have q : (if edge L k i then some (setsP (L k) (lkP L k) r) else none) = some g := hg
    rw [e] at q; cases q
   ·have q : (if edge L k i then some (setsP (L k) (lkP L k) r) else none) = some g := hg
    rw [e] at q
    cases q
    exact setsP_0 (held_0 L b k (by omega) (hway k e)) r
theorem edge_in (L : Nat → RI) {j i : Nat} (hj : j < i) (he : edge L j i = true) :
  (lkP L i).way = true ∧ (lkP L i).sure ≤ sureP (L j) (lkP L j) (fromP (L j) (lkP L j) j i).1 ∧ ((lkP L i).mov = true → movP (L j) (lkP L j) = true) ∧
  ∀ r, kindsOf (lkP L i) r = .any ∨ kindsOf (lkP L i) r = toHd (setsP (L j) (lkP L j) r) := by
 have i0 : i ≠ 0 := by omega
 have hs := lkP_sure L i0
 obtain ⟨s', m', h1, h2, h3⟩ := sureGo_in (f := fun j => if edge L j i then some (sureP (L j) (lkP L j) (fromP (L j) (lkP L j) j i).1, movP (L j) (lkP L j)) else none) i j _ _ hj (by show (if edge L j i then _ else _) = _; rw [he]; rfl)
 rw [h1] at hs
 have w1 := (Prod.mk.inj hs).1
 have w2 := (Prod.mk.inj (Prod.mk.inj hs).2).1
 have w3 := (Prod.mk.inj (Prod.mk.inj hs).2).2
 have hway : ∀ j, edge L j i = true → (lkP L j).way = true := fun j e => by
  cases q : (lkP L j).way
  ·unfold edge fromP at e; rw [q] at e; cases e
  ·rfl
 refine ⟨w1, by rw [w2]; exact h2, by rw [w3]; exact h3, fun r => ?_⟩
 unfold kindsOf
 rw [lkP_held L i0]
 have q := (heldGo_in (f := fun j => if edge L j i then some (setsP (L j) (lkP L j) r) else none) i j _ hj (by show (if edge L j i then _ else _) = _; rw [he]; rfl) (fun k g hg => by
  cases e : edge L k i
  ·have q : (if edge L k i then some (setsP (L k) (lkP L k) r) else none) = some g := hg
   rw [e] at q; cases q
  ·have q : (if edge L k i then some (setsP (L k) (lkP L k) r) else none) = some g := hg
   rw [e] at q
   cases q
   exact setsP_0 (held_0 L (k + 1) k (by omega) (hway k e)) r)).1
 rcases q with q | q
 ·left; rw [q]; rfl
 ·right; rw [q]
end Go.Proofs.YtoobileejdhikaaGreat

namespace Go.Proofs.YtoobileejdhikaaGreat
open Go.RowKit

theorem hd_num {h : HK} (e : h.kind = 1) : toHd h = .num := by unfold toHd; rw [if_pos e]
theorem hd_first {h : HK} (e : h.kind = 4) : toHd h = .first h.k := by unfold toHd; rw [if_neg (by omega), if_pos e]
theorem hd_deep {h : HK} (e : h.kind = 5) : toHd h = .deep h.k := by unfold toHd; rw [if_neg (by omega), if_neg (by omega), if_pos e]
theorem hd_fin {h : HK} (e : h.kind = 6) : toHd h = .fin := by unfold toHd; rw [if_neg (by omega), if_neg (by omega), if_neg (by omega), if_pos e]
structure PC (L : Nat → RI) (i : Nat) (s : KS) : Prop where
 ok : s.Ok
 way : (lkP L i).way = true
 ts : TS (kindsOf (lkP L i)) (lkP L i).sure (lkP L i).mov s
theorem hand {L : Nat → RI} {j i : Nat} {a : KS} {Γ : Nat → Hd} {m : Int} {mv : Bool} (hj : j < i) (he : edge L j i = true) (ho : a.Ok) (hts : TS Γ m mv a) (hΓ : ∀ r, r < 8 → Γ r = toHd (setsP (L j) (lkP L j) r))
  (hm : sureP (L j) (lkP L j) (fromP (L j) (lkP L j) j i).1 ≤ m) (hmv : movP (L j) (lkP L j) = true → mv = true) : PC L i a := by
 obtain ⟨h1, h2, h3, h4⟩ := edge_in L hj he
 refine ⟨ho, h1, hts.weak (fun r hr => ?_) (Int.le_trans h2 hm) (fun h => hmv (h3 h))⟩
 rcases h4 r with e | e
 ·exact .inl e
 ·right; rw [e, hΓ r hr]
theorem edge_next {L : Nat → RI} {i : Nat} (hw : (lkP L i).way = true) (h41 : (L i).op ≠ 41) (h30 : (L i).op ≠ 30) : edge L i (i + 1) = true := by
 unfold edge fromP
 rw [hw, show ((L i).op == 41) = false from by simpa using h41, if_neg (by decide), show ((L i).op == 30) = false from by simpa using h30, show (i + 1 == i + 1) = true from beq_self_eq_true _]
 simp
theorem edge_jump {L : Nat → RI} {i i' : Nat} (hw : (lkP L i).way = true) (h1 : 30 ≤ (L i).op) (h2 : (L i).op ≤ 36) (hi : (i : Int) + 1 + (L i).off = i') : edge L i i' = true := by
 unfold edge fromP
 rw [hw, show ((L i).op == 41) = false from by simp; omega, if_neg (by decide), hi, show withinB (L i).op 30 36 = true from by simp [withinB]; omega]
 simp
theorem sure_plain {x : RI} {t : PL} {a : Bool} (h1 : x.op ≠ 40 ∨ x.num ≠ 1) (h2 : x.op ≠ 33) : sureP x t a = t.sure := by
 unfold sureP
 rw [if_neg (fun e => by rcases h1 with h | h; exact h e.1; exact h e.2), if_neg (fun e => h2 e.1)]
theorem sets_upd {x : RI} {t : PL} (h : x.op ≤ 23) (r : Nat) : upd (kindsOf t) x.dst (toHd (setsP x t x.dst)) r = toHd (setsP x t r) := by
 unfold upd
 split
 ·rename_i e; rw [e]
 ·rename_i e
  unfold kindsOf
  rw [show setsP x t r = t.held r from by unfold setsP; rw [if_neg (by omega), if_pos (.inr (Ne.symm e))]]
theorem sets_self {x : RI} {t : PL} (h : x.op ≤ 23) : setsP x t x.dst = if 20 ≤ x.op ∨ (x.op = 1 ∧ x.imm = true) then ⟨1, 0⟩ else if x.op = 1 then t.held x.src
  else if (t.held x.dst).kind = 4 ∨ (t.held x.dst).kind = 5 then (if x.op = 3 then ⟨(t.held x.dst).kind, (t.held x.dst).k - x.num⟩ else ⟨(t.held x.dst).kind, (t.held x.dst).k + x.num⟩) else ⟨1, 0⟩ := by
 unfold setsP; rw [if_neg (by omega), if_neg (by omega)]
theorem mov_low {x : RI} {t : PL} (h : x.op ≤ 23) (hn : ¬ (x.op = 1 ∧ x.imm = true)) : movP x t = true → (if x.dst = 0 then false else t.mov) = true := by
 unfold movP
 rw [if_neg (by omega)]
 by_cases e : x.dst = 0
 ·rw [if_pos ⟨h, e⟩, if_pos e]
  intro q
  simp only [Bool.and_eq_true, beq_iff_eq] at q
  exact absurd ⟨q.1.1, q.1.2⟩ hn
 ·rw [if_neg (fun q => e q.2), if_neg e]; exact fun q => q
theorem next_low {I : Nat → PI} {L : Nat → RI} {n i : Nat} (hC : SameC I L n) (hi : i < n) {s : KS} (hp : PC L i s) (h23 : (L i).op ≤ 23) (h33 : (L i).op ≠ 33 ∧ (L i).op ≠ 30 ∧ (L i).op ≠ 40 ∧ (L i).op ≠ 41) {k : Hd} {mv : Bool}
  (hn : Next (I i) (s.ahead i (I i).n) (TS (upd (kindsOf (lkP L i)) (I i).d k) (lkP L i).sure mv)) (hk : toHd (setsP (L i) (lkP L i) (L i).dst) = k) (hmv : movP (L i) (lkP L i) = true → mv = true) :
  ∃ a b, lookK (I i) (s.ahead i (I i).n) = some (a, b) ∧ (a.reached = true → PC L (i + 1) a) ∧ (b.reached = true → PC L (i + 1 + (I i).of.toNat) b) := by
 obtain ⟨a, hl, ha⟩ := hn
 have hx := hC.i i hi
 have hab := lookK_ok (ahead_ok hp.ok i (I i).n) (by rw [← hx.d]; have := hC.ok.dst i hi; omega) (by rw [← hx.c]; have := hC.ok.src i hi; omega) hl
 refine ⟨a, KS.zero, hl, fun _ => hand (by omega) (edge_next hp.way h33.2.2.2 h33.2.1) hab.1 ha (fun r _ => ?_) (by rw [sure_plain (.inl h33.2.2.1) h33.1]; exact Int.le_refl _) hmv, fun h => by cases h⟩
 rw [← hk, ← hx.d]; exact sets_upd h23 r
theorem tv_pl {t : PL} {s : KS} {r : Nat} {m : Int} {mv : Bool} (hr : r < 8) (h : TS (kindsOf t) m mv s) (ho : s.Ok) (hk : (t.held r).kind = 4 ∨ (t.held r).kind = 5) : -1000 ≤ (t.held r).k ∧ (t.held r).k ≤ 1000 := by
 have v := h.v r hr
 have o := ho.v r (by omega)
 have e : (s.v r).pl = (t.held r).k := by
  unfold kindsOf at v
  rcases hk with k | k
  ·rw [hd_first k] at v; exact v.2.1
  ·rw [hd_deep k] at v; exact v.2.1
 have := o.pl0; have := o.pl1
 omega
theorem sz_eq {x : PI} {y : RI} (hxy : SameI x y) (h : (20 ≤ x.op ∧ x.op ≤ 27)) : sizeR y.op = (szOf x.op : Nat) := by
 rw [hxy.op]
 rcases (show x.op = 20 ∨ x.op = 21 ∨ x.op = 22 ∨ x.op = 23 ∨ x.op = 24 ∨ x.op = 25 ∨ x.op = 26 ∨ x.op = 27 from by omega) with e | e | e | e | e | e | e | e <;> rw [e] <;> rfl
theorem rch_of {t : PL} {h : HK} {off : Int} {z : Nat} (hr : reachP t h off z = true) : rch (toHd h) t.sure off z := by
 unfold reachP at hr
 split at hr
 ·rename_i e
  simp only [Bool.and_eq_true, decide_eq_true_eq] at hr
  exact .inl ⟨h.k, hd_first e, hr.1, hr.2⟩
 ·simp only [Bool.and_eq_true, decide_eq_true_eq, beq_iff_eq] at hr
  exact .inr ⟨h.k, hd_deep hr.1.1, hr.1.2, hr.2⟩
end Go.Proofs.YtoobileejdhikaaGreat

namespace Go.Proofs.YtoobileejdhikaaGreat
open Go.RowKit

theorem kinds_num2 {x : PI} {y : RI} {t : PL} (hxy : SameI x y) (hc : x.c < 8) (h : bothP y t = true) : num2 x (kindsOf t) := by
 unfold bothP secH at h
 simp only [Bool.and_eq_true, beq_iff_eq] at h
 refine ⟨by unfold kindsOf; rw [← hxy.d]; exact hd_num h.1, ?_⟩
 by_cases e : 128 ≤ x.op
 ·exact .inl e
 ·right
  have h2 := h.2
  rw [hxy.imm, decide_eq_false e, if_neg (by decide), hxy.c] at h2
  exact ⟨hc, hd_num h2⟩
theorem plain_safe {I : Nat → PI} {L : Nat → RI} {n : Nat} (hC : SameC I L n) (hv : ∀ k, k < n → (I k).op < 128 ∨ (129 ≤ (I k).op ∧ (I k).op ≤ 139) ∨ (159 ≤ (I k).op ∧ (I k).op ≤ 164))
  (hp : ∀ k, k < n → (lkP L k).way = true → goodP (L k) (lkP L k) = true) : safeP I n = none := by
 refine safe_of I n (PC L) ⟨start_ok, by rw [lkP_zero], ?_⟩ (fun i s t hr h1 h2 => ⟨KS.or_ok h1.ok h2.ok, h1.way, TS.or hr h1.ts h2.ts⟩) (fun i s hi hr hP => ?_)
 ·rw [lkP_zero]
  refine ts_start.weak (fun r _ => .inr ?_) (Int.le_refl _) (fun h => h)
  show toHd (heldStart r) = Γ0 r
  unfold heldStart Γ0
  by_cases h1 : r = 1
  ·rw [if_pos h1, if_pos h1]; rfl
  rw [if_neg h1, if_neg h1]
  by_cases h2 : r = 2
  ·rw [if_pos h2, if_pos h2]; rfl
  rw [if_neg h2, if_neg h2]
  by_cases h7 : r = 7
  ·rw [if_pos h7, if_pos h7]; rfl
  rw [if_neg h7, if_neg h7]; rfl
 have hg := hp i hi hP.way
 have hx := hC.i i hi
 have hd := hC.ok.dst i hi
 have hc := hC.ok.src i hi
 have hops := hC.ok.ops i hi
 have hop := hx.op
 have hvi := hv i hi
 have hd' : (I i).d < 8 := by rw [← hx.d]; exact hd
 have hc' : (I i).c < 8 := by rw [← hx.c]; exact hc
 have himm : (L i).imm = decide (128 ≤ (I i).op) := hx.imm
 have hsec : (I i).op < 128 → secH (L i) (lkP L i) = (lkP L i).held (I i).c := fun h => by
  unfold secH; rw [himm, decide_eq_false (by omega), if_neg (by decide), hx.c]
 have hab : ∀ {a b : KS}, lookK (I i) (s.ahead i (I i).n) = some (a, b) → a.Ok ∧ b.Ok := fun hl => lookK_ok (ahead_ok hP.ok i (I i).n) (by omega) (by omega) hl
 unfold goodP at hg
 by_cases o1 : (L i).op = 1
 ·rw [if_pos o1] at hg
  by_cases e : 128 ≤ (I i).op
  ·have e129 : (I i).op = 129 := by omega
   refine next_low hC hi hP (by omega) ⟨by omega, by omega, by omega, by omega⟩ (ty_movI e129 hP.ts) (by rw [sets_self (by omega), if_pos (.inr ⟨o1, by rw [himm]; exact decide_eq_true e⟩)]; rfl) ?_
   unfold movP
   rw [if_neg (by omega), ← hx.d, ← hx.n]
   by_cases d0 : (L i).dst = 0
   ·rw [if_pos ⟨by omega, d0⟩, if_pos d0]
    intro q
    simp only [Bool.and_eq_true] at q
    have q2 := q.2
    unfold withinB at q2
    exact q2
   ·rw [if_neg (fun q => d0 q.2), if_neg d0]; exact fun q => q
  ·have e1 : (I i).op = 1 := by omega
   have hs := hsec (by omega)
   rw [hs] at hg
   have him : (L i).imm = false := by rw [himm]; exact decide_eq_false e
   have hk : 1 ≤ (kindsOf (lkP L i) (I i).c).t ∧ (kindsOf (lkP L i) (I i).c).t ≤ 4 := by
    unfold single at hg
    simp only [Bool.or_eq_true, beq_iff_eq] at hg
    unfold kindsOf
    rcases hg with ((k | k) | k) | k
    ·rw [hd_num k]; exact ⟨by decide, by decide⟩
    ·rw [hd_first k]; exact ⟨by show 1 ≤ 2; decide, by show 2 ≤ 4; decide⟩
    ·rw [hd_deep k]; exact ⟨by show 1 ≤ 3; decide, by show 3 ≤ 4; decide⟩
    ·rw [hd_fin k]; exact ⟨by decide, by decide⟩
   refine next_low hC hi hP (by omega) ⟨by omega, by omega, by omega, by omega⟩ (ty_movR e1 hc' hk hP.ts) ?_ ?_
   ·rw [sets_self (by omega), if_neg (by rw [him]; simp; omega), if_pos o1, hx.c]; rfl
   ·rw [← hx.d]; exact mov_low (by omega) (by rw [him]; simp)
 rw [if_neg o1] at hg
 by_cases o2 : (withinB (L i).op 2 3 && (L i).imm && ((((lkP L i).held (L i).dst).kind == 4) || (((lkP L i).held (L i).dst).kind == 5))) = true
 ·rw [if_pos o2] at hg
  simp only [Bool.and_eq_true, Bool.or_eq_true, beq_iff_eq] at o2
  obtain ⟨⟨w, im⟩, hk⟩ := o2
  have w' : 2 ≤ (L i).op ∧ (L i).op ≤ 3 := by simp [withinB] at w; exact w
  have e : 128 ≤ (I i).op := by rw [himm] at im; exact of_decide_eq_true im
  have hpl := tv_pl hd hP.ts hP.ok hk
  have hkk : ∃ dp, kindsOf (lkP L i) (I i).d = plH dp ((lkP L i).held (L i).dst).k := by
   unfold kindsOf; rw [← hx.d]
   rcases hk with k | k
   ·exact ⟨false, by rw [hd_first k]; rfl⟩
   ·exact ⟨true, by rw [hd_deep k]; rfl⟩
  obtain ⟨dp, hkk⟩ := hkk
  have htd : ∀ z : Int, toHd ⟨((lkP L i).held (L i).dst).kind, z⟩ = plH dp z := fun z => by
   rw [← hx.d] at hkk
   unfold kindsOf at hkk
   rcases hk with k | k
   ·rw [hd_first k] at hkk
    cases dp
    ·rw [hd_first (show (⟨((lkP L i).held (L i).dst).kind, z⟩ : HK).kind = 4 from k)]; rfl
    ·exact absurd (congrArg Hd.t hkk) (by show ¬ 2 = 3; decide)
   ·rw [hd_deep k] at hkk
    cases dp
    ·exact absurd (congrArg Hd.t hkk) (by show ¬ 3 = 2; decide)
    ·rw [hd_deep (show (⟨((lkP L i).held (L i).dst).kind, z⟩ : HK).kind = 5 from k)]; rfl
  by_cases o3 : (L i).op = 3
  ·rw [if_pos o3] at hg
   simp only [Bool.and_eq_true, decide_eq_true_eq] at hg
   rw [hx.n] at hg
   refine next_low hC hi hP (by omega) ⟨by omega, by omega, by omega, by omega⟩ (ty_subI (by omega) hd' hkk hpl.1 hpl.2 hg.1 hg.2 hP.ts) ?_ ?_
   ·rw [sets_self (by omega), if_neg (by omega), if_neg (by omega), if_pos hk, if_pos o3, hx.n]; exact htd _
   ·rw [← hx.d]; exact mov_low (by omega) (by omega)
  ·rw [if_neg o3] at hg
   simp only [Bool.and_eq_true, decide_eq_true_eq] at hg
   rw [hx.n] at hg
   refine next_low hC hi hP (by omega) ⟨by omega, by omega, by omega, by omega⟩ (ty_addI (by omega) hd' hkk hpl.1 hpl.2 hg.1 hg.2 hP.ts) ?_ ?_
   ·rw [sets_self (by omega), if_neg (by omega), if_neg (by omega), if_pos hk, if_neg o3, hx.n]; exact htd _
   ·rw [← hx.d]; exact mov_low (by omega) (by omega)
 rw [if_neg o2] at hg
 by_cases o11 : withinB (L i).op 2 11 = true
 ·rw [if_pos o11] at hg
  have w' : 2 ≤ (L i).op ∧ (L i).op ≤ 11 := by simp [withinB] at o11; exact o11
  have h2 := kinds_num2 hx hc' hg
  have hka : ((lkP L i).held (L i).dst).kind = 1 := by
   unfold bothP at hg
   simp only [Bool.and_eq_true, beq_iff_eq] at hg; exact hg.1
  refine next_low hC hi hP (by omega) ⟨by omega, by omega, by omega, by omega⟩ (ty_num (by omega) hd' h2 hP.ts) ?_ ?_
  ·rw [sets_self (by omega), if_neg (by omega), if_neg (by omega), if_neg (by omega)]; rfl
  ·rw [← hx.d]; exact mov_low (by omega) (by omega)
 rw [if_neg o11] at hg
 have o11' : ¬ (2 ≤ (L i).op ∧ (L i).op ≤ 11) := fun e => o11 (by simp [withinB]; exact e)
 by_cases o20 : withinB (L i).op 20 23 = true
 ·rw [if_pos o20] at hg
  have w' : 20 ≤ (L i).op ∧ (L i).op ≤ 23 := by simp [withinB] at o20; exact o20
  rw [hsec (by omega), hx.of, sz_eq hx (by omega)] at hg
  have hrr := rch_of hg
  refine next_low hC hi hP (by omega) ⟨by omega, by omega, by omega, by omega⟩ (ty_load (by omega) hc' hrr hP.ts) ?_ ?_
  ·rw [sets_self (by omega), if_pos (.inl w'.1)]; rfl
  ·rw [← hx.d]; exact mov_low (by omega) (by omega)
 rw [if_neg o20] at hg
 have o20' : ¬ (20 ≤ (L i).op ∧ (L i).op ≤ 23) := fun e => o20 (by simp [withinB]; exact e)
 have sets_hi : 23 < (L i).op → (L i).op ≠ 40 → ∀ r, r < 8 → kindsOf (lkP L i) r = toHd (setsP (L i) (lkP L i) r) := fun h1 h2 r _ => by
  unfold kindsOf setsP; rw [if_neg h2, if_pos (.inl h1)]
 have mov_hi : 23 < (L i).op → (L i).op ≠ 40 → (movP (L i) (lkP L i) = true → (lkP L i).mov = true) := fun h1 h2 => by
  unfold movP; rw [if_neg h2, if_neg (fun e => by omega)]; exact fun q => q
 by_cases o24 : withinB (L i).op 24 27 = true
 ·rw [if_pos o24] at hg
  have w' : 24 ≤ (L i).op ∧ (L i).op ≤ 27 := by simp [withinB] at o24; exact o24
  rw [hsec (by omega), hx.of, sz_eq hx (by omega), hx.d] at hg
  simp only [Bool.and_eq_true, beq_iff_eq] at hg
  obtain ⟨a, hl, ha⟩ := ty_store (i := i) (x := I i) (by omega) hd' hc' (hd_num hg.1) (rch_of hg.2) hP.ts
  exact ⟨a, KS.zero, hl, fun _ => hand (by omega) (edge_next hP.way (by omega) (by omega)) (hab hl).1 ha (sets_hi (by omega) (by omega)) (by rw [sure_plain (.inl (by omega)) (by omega)]; exact Int.le_refl _) (mov_hi (by omega) (by omega)), fun h => by cases h⟩
 rw [if_neg o24] at hg
 have o24' : ¬ (24 ≤ (L i).op ∧ (L i).op ≤ 27) := fun e => o24 (by simp [withinB]; exact e)
 have jmp : 30 ≤ (L i).op → (L i).op ≤ 36 → ((i : Int) + 1 + (L i).off = ((i + 1 + (I i).of.toNat : Nat) : Int)) := fun h1 h2 => by
  have := hC.ok.goes i hi h1 h2
  rw [hx.of] at this ⊢; omega
 by_cases o30 : (L i).op = 30
 ·obtain ⟨b, hl, hb⟩ := ty_jump (i := i) (x := I i) (by omega) hP.ts
  exact ⟨KS.zero, b, hl, fun h => (by cases h), fun _ => hand (by omega) (edge_jump hP.way (by omega) (by omega) (jmp (by omega) (by omega))) (hab hl).2 hb (sets_hi (by omega) (by omega)) (by rw [sure_plain (.inl (by omega)) (by omega)]; exact Int.le_refl _) (mov_hi (by omega) (by omega))⟩
 rw [if_neg o30] at hg
 by_cases o40 : (L i).op = 40
 ·rw [if_pos o40] at hg
  have e40 : (I i).op = 40 := by omega
  have hn := hC.ok.calls i hi o40
  rw [hx.n] at hn
  have hmf : movP (L i) (lkP L i) = true → false = true := by unfold movP; rw [if_pos o40]; exact fun q => q
  have hedge := edge_next hP.way (L := L) (i := i) (by omega) (by omega)
  by_cases n1 : (I i).n = 1
  ·have k1 : ((lkP L i).held 1).kind = 1 := by
    rw [hx.n, n1] at hg
    simpa using hg
   obtain ⟨a, hl, ha⟩ := ty_call1 (i := i) (x := I i) e40 n1 (hd_num k1) hP.ts
   refine ⟨a, KS.zero, hl, fun _ => hand (by omega) hedge (hab hl).1 ha (fun r hr => ?_) (by unfold sureP; rw [if_pos ⟨o40, by rw [hx.n]; exact n1⟩]; exact Int.le_refl _) hmf, fun h => by cases h⟩
   unfold setsP calledP
   rw [if_pos o40, hx.n, n1]
   by_cases r0 : r = 0
   ·rw [if_pos r0, if_pos ⟨r0, rfl⟩]; rfl
   have q0 : ∀ z : Int, (if r = 0 ∧ (1 : Int) = 1 then (⟨1, 0⟩ : HK) else if r = 0 ∧ (1 : Int) = 2 then ⟨4, 0⟩ else if r = 0 then ⟨6, 0⟩ else if (1 : Int) = 1 ∧ ((1 ≤ r ∧ r ≤ 3) ∨ ((lkP L i).held r).kind = 4 ∨ ((lkP L i).held r).kind = 6) then ⟨0, 0⟩ else (lkP L i).held r)
     = if (1 : Int) = 1 ∧ ((1 ≤ r ∧ r ≤ 3) ∨ ((lkP L i).held r).kind = 4 ∨ ((lkP L i).held r).kind = 6) then ⟨0, 0⟩ else (lkP L i).held r := fun _ => by
    rw [if_neg (c := r = 0 ∧ (1 : Int) = 1) (fun e => r0 e.1), if_neg (c := r = 0 ∧ (1 : Int) = 2) (fun e => r0 e.1), if_neg (c := r = 0) r0]
   rw [q0 0, if_neg (c := r = 0) r0]
   by_cases r13 : 1 ≤ r ∧ r ≤ 3
   ·rw [if_pos (c := 1 ≤ r ∧ r ≤ 3) r13, if_pos ⟨rfl, .inl r13⟩]; rfl
   rw [if_neg (c := 1 ≤ r ∧ r ≤ 3) r13]
   unfold kindsOf
   by_cases k46 : ((lkP L i).held r).kind = 4 ∨ ((lkP L i).held r).kind = 6
   ·rw [if_pos ⟨rfl, .inr k46⟩]
    rcases k46 with k | k
    ·rw [hd_first k]; rfl
    ·rw [hd_fin k]; rfl
   ·rw [if_neg (fun e => by rcases e.2 with q | q; exact r13 q; exact k46 q)]
    unfold toHd
    repeat' split
    all_goals first | rfl | (exfalso; omega)
  ·by_cases n2 : (I i).n = 2
   ·obtain ⟨a, hl, ha⟩ := ty_call2 (i := i) (x := I i) e40 n2 hP.ts
    refine ⟨a, KS.zero, hl, fun _ => hand (by omega) hedge (hab hl).1 ha (fun r hr => ?_) (by rw [sure_plain (.inr (by rw [hx.n]; exact n1)) (by omega)]; exact Int.le_refl _) hmf, fun h => by cases h⟩
    unfold setsP calledP upd
    rw [if_pos o40, hx.n, n2]
    by_cases r0 : r = 0
    ·rw [if_pos r0, if_neg (by omega), if_pos ⟨r0, rfl⟩]; rfl
    ·rw [if_neg r0, if_neg (by omega), if_neg (by omega), if_neg r0, if_neg (fun e => absurd e.1 (by decide))]; rfl
   ·have n3 : (I i).n = 3 := by omega
    obtain ⟨a, hl, ha⟩ := ty_call3 (i := i) (x := I i) e40 n3 hP.ts
    refine ⟨a, KS.zero, hl, fun _ => hand (by omega) hedge (hab hl).1 ha (fun r hr => ?_) (by rw [sure_plain (.inr (by rw [hx.n]; exact n1)) (by omega)]; exact Int.le_refl _) hmf, fun h => by cases h⟩
    unfold setsP calledP upd
    rw [if_pos o40, hx.n, n3]
    by_cases r0 : r = 0
    ·rw [if_pos r0, if_neg (by omega), if_neg (by omega), if_pos r0]; rfl
    ·rw [if_neg r0, if_neg (by omega), if_neg (by omega), if_neg r0, if_neg (fun e => absurd e.1 (by decide))]; rfl
 rw [if_neg o40] at hg
 by_cases o31 : withinB (L i).op 31 36 = true
 ·rw [if_pos o31] at hg
  have w' : 31 ≤ (L i).op ∧ (L i).op ≤ 36 := by simp [withinB] at o31; exact o31
  simp only [Bool.or_eq_true, Bool.and_eq_true, beq_iff_eq] at hg
  have hcmp : cmpT (I i) (kindsOf (lkP L i)) := by
   rcases hg with (hg | hg) | hg
   ·exact .inl (kinds_num2 hx hc' hg)
   ·have e : (I i).op < 128 := by
     rcases (show (I i).op < 128 ∨ 128 ≤ (I i).op from by omega) with e | e
     ·exact e
     ·have q := hg.2; unfold secH at q; rw [himm, decide_eq_true e, if_pos rfl] at q; exact absurd q (by decide)
    have q := hg.2
    rw [hsec e] at q
    exact .inr ⟨e, hc', _, .inl ⟨by unfold kindsOf; rw [← hx.d]; exact hd_first hg.1, hd_fin q⟩⟩
   ·have e : (I i).op < 128 := by
     rcases (show (I i).op < 128 ∨ 128 ≤ (I i).op from by omega) with e | e
     ·exact e
     ·have q := hg.2; unfold secH at q; rw [himm, decide_eq_true e, if_pos rfl] at q; exact absurd q (by decide)
    have q := hg.2
    rw [hsec e] at q
    exact .inr ⟨e, hc', _, .inr ⟨by unfold kindsOf; rw [← hx.d]; exact hd_fin hg.1, hd_first q⟩⟩
  obtain ⟨a, b, hl, ha, hb, hk⟩ := ty_cmp (i := i) (x := I i) (by omega) hd' hcmp hP.ts
  have hedgeN := edge_next hP.way (L := L) (i := i) (by omega) (by omega)
  have hedgeJ := edge_jump hP.way (by omega) w'.2 (jmp (by omega) w'.2)
  refine ⟨a, b, hl, fun hr => ?_, fun hr => ?_⟩
  ·by_cases c33 : (L i).op = 33 ∧ (L i).imm = false ∧ (fromP (L i) (lkP L i) i (i + 1)).1 = false ∧ ((lkP L i).held (L i).dst).kind = 4 ∧ ((lkP L i).held (L i).src).kind = 6 ∧ (lkP L i).sure < ((lkP L i).held (L i).dst).k
   ·have e : (I i).op = 33 := by
     have q := c33.2.1
     rw [himm] at q
     have := of_decide_eq_false q
     omega
    have t := hk ((lkP L i).held (L i).dst).k e (by unfold kindsOf; rw [← hx.d]; exact hd_first c33.2.2.2.1) (by unfold kindsOf; rw [← hx.c]; exact hd_fin c33.2.2.2.2.1) hr
    refine hand (by omega) hedgeN (hab hl).1 t (sets_hi (by omega) (by omega)) ?_ (mov_hi (by omega) (by omega))
    unfold sureP
    rw [if_neg (by omega), if_pos c33]; omega
   ·refine hand (by omega) hedgeN (hab hl).1 (ha hr) (sets_hi (by omega) (by omega)) ?_ (mov_hi (by omega) (by omega))
    unfold sureP
    rw [if_neg (by omega), if_neg c33]; exact Int.le_refl _
  ·refine hand (by omega) hedgeJ (hab hl).2 (hb hr) (sets_hi (by omega) (by omega)) ?_ (mov_hi (by omega) (by omega))
   unfold sureP
   have hf : (fromP (L i) (lkP L i) i (i + 1 + (I i).of.toNat)).1 = true := by
    unfold fromP
    rw [hP.way, show ((L i).op == 41) = false from by simp; omega, if_neg (by decide), jmp (by omega) w'.2, show withinB (L i).op 30 36 = true from by simp [withinB]; omega]
    simp
   rw [if_neg (by omega), if_neg (fun e => by rw [hf] at e; exact absurd e.2.2.1 (by decide))]; exact Int.le_refl _
 ·rw [if_neg o31] at hg
  simp only [Bool.and_eq_true, beq_iff_eq] at hg
  have ts := hP.ts
  rw [hg.2] at ts
  exact ⟨KS.zero, KS.zero, ty_exit (by omega) ts, fun h => (by cases h), fun h => (by cases h)⟩
end Go.Proofs.YtoobileejdhikaaGreat
