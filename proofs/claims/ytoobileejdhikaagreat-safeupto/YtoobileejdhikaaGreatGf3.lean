/-
  Plain code, as plain functions: what registers hold on all ways, what was tested; what is good.
  The document's look for plain code, in memory: what was found out already.
-/
import Derived.Test.YtoobileejdhikaaGreatGf2
namespace Go.Proofs.YtoobileejdhikaaGreat
open Go.RowKit

structure HK where
 kind : Int
 k : Int
structure PL where
 way : Bool
 sure : Int
 mov : Bool
 held : Nat → HK
def HK.same (a b : HK) : Bool := (a.kind == b.kind) && (a.k == b.k)
theorem HK.eq_of_same {a b : HK} (h : a.same b = true) : a = b := by
 obtain ⟨a1, a2⟩ := a
 obtain ⟨b1, b2⟩ := b
 simp only [HK.same, Bool.and_eq_true, beq_iff_eq] at h
 rw [h.1, h.2]
def heldStart (r : Nat) : HK := if r = 1 then ⟨4, 0⟩ else if r = 2 then ⟨6, 0⟩ else if r = 7 then ⟨5, 0⟩ else ⟨0, 0⟩
def fromP (x : RI) (t : PL) (j i : Nat) : Bool × Bool :=
 if !t.way || x.op == 41 then (false, false) else (withinB x.op 30 36 && ((j : Int) + 1 + x.off == i), !(x.op == 30) && (j + 1 == i))
def calledP (x : RI) (t : PL) (r : Nat) : HK :=
 if r = 0 ∧ x.num = 1 then ⟨1, 0⟩ else if r = 0 ∧ x.num = 2 then ⟨4, 0⟩ else if r = 0 then ⟨6, 0⟩
 else if x.num = 1 ∧ ((1 ≤ r ∧ r ≤ 3) ∨ (t.held r).kind = 4 ∨ (t.held r).kind = 6) then ⟨0, 0⟩ else t.held r
def setsP (x : RI) (t : PL) (r : Nat) : HK :=
 if x.op = 40 then calledP x t r else if 23 < x.op ∨ x.dst ≠ r then t.held r
 else if 20 ≤ x.op ∨ (x.op = 1 ∧ x.imm = true) then ⟨1, 0⟩ else if x.op = 1 then t.held x.src
 else if (t.held r).kind = 4 ∨ (t.held r).kind = 5 then (if x.op = 3 then ⟨(t.held r).kind, (t.held r).k - x.num⟩ else ⟨(t.held r).kind, (t.held r).k + x.num⟩)
 else ⟨1, 0⟩
def meetH (o h : HK) : HK := if 0 ≤ o.kind ∧ h.same o = false then ⟨7, 0⟩ else h
def heldGo (f : Nat → Option HK) : Nat → HK
 | 0 => ⟨-1, 0⟩
 | j + 1 => match f j with
  | none => heldGo f j
  | some h => meetH (heldGo f j) h
def movP (x : RI) (t : PL) : Bool := if x.op = 40 then false else if x.op ≤ 23 ∧ x.dst = 0 then (x.op == 1 && x.imm && withinB x.num 0 3) else t.mov
def sureP (x : RI) (t : PL) (a : Bool) : Int :=
 if x.op = 40 ∧ x.num = 1 then 0
 else if x.op = 33 ∧ x.imm = false ∧ a = false ∧ (t.held x.dst).kind = 4 ∧ (t.held x.src).kind = 6 ∧ t.sure < (t.held x.dst).k then (t.held x.dst).k else t.sure
def sureGo (f : Nat → Option (Int × Bool)) : Nat → Option (Int × Bool)
 | 0 => none
 | j + 1 => match f j with
  | none => sureGo f j
  | some (s, m) => match sureGo f j with
   | none => some (s, m)
   | some (s', m') => some (if s < s' then s else s', m && m')
def stepP (L : Nat → RI) (T : Nat → PL) (i : Nat) : PL :=
 if i = 0 then ⟨true, 0, false, heldStart⟩
 else
  let e := sureGo (fun j => if (fromP (L j) (T j) j i).1 || (fromP (L j) (T j) j i).2 then some (sureP (L j) (T j) (fromP (L j) (T j) j i).1, movP (L j) (T j)) else none) i
  ⟨e.isSome, (e.map (·.1)).getD 0, (e.map (·.2)).getD false, fun r => heldGo (fun j => if (fromP (L j) (T j) j i).1 || (fromP (L j) (T j) j i).2 then some (setsP (L j) (T j) r) else none) i⟩
def tabQ (L : Nat → RI) : Nat → Nat → PL
 | 0 => fun _ => ⟨false, 0, false, fun _ => ⟨-1, 0⟩⟩
 | i + 1 => fun j => if j = i then stepP L (tabQ L i) i else tabQ L i j
def lkP (L : Nat → RI) (i : Nat) : PL := tabQ L (i + 1) i
theorem heldGo_ext {f g : Nat → Option HK} : ∀ n : Nat, (∀ j, j < n → f j = g j) → heldGo f n = heldGo g n
 | 0, _ => rfl
 | n + 1, h => by unfold heldGo; rw [h n (by omega), heldGo_ext n (fun j hj => h j (by omega))]
theorem sureGo_ext {f g : Nat → Option (Int × Bool)} : ∀ n : Nat, (∀ j, j < n → f j = g j) → sureGo f n = sureGo g n
 | 0, _ => rfl
 | n + 1, h => by unfold sureGo; rw [h n (by omega), sureGo_ext n (fun j hj => h j (by omega))]
theorem stepP_ext {L : Nat → RI} {T U : Nat → PL} {i : Nat} (h : ∀ j, j < i → T j = U j) : stepP L T i = stepP L U i := by
 unfold stepP
 split
 ·rfl
 ·rw [sureGo_ext (g := fun j => if (fromP (L j) (U j) j i).1 || (fromP (L j) (U j) j i).2 then some (sureP (L j) (U j) (fromP (L j) (U j) j i).1, movP (L j) (U j)) else none) i (fun j hj => by rw [h j hj])]
  have e2 : (fun r => heldGo (fun j => if (fromP (L j) (T j) j i).1 || (fromP (L j) (T j) j i).2 then some (setsP (L j) (T j) r) else none) i) = fun r => heldGo (fun j => if (fromP (L j) (U j) j i).1 || (fromP (L j) (U j) j i).2 then some (setsP (L j) (U j) r) else none) i :=
   funext fun r => heldGo_ext i (fun j hj => by rw [h j hj])
  show PL.mk _ _ _ _ = PL.mk _ _ _ _
  rw [e2]
theorem tabQ_lk (L : Nat → RI) : ∀ (k j : Nat), j < k → tabQ L k j = lkP L j
 | 0, _, h => by omega
 | k + 1, j, h => by
  by_cases e : j = k
  ·subst e; rfl
  ·show (if j = k then _ else tabQ L k j) = _
   rw [if_neg e]; exact tabQ_lk L k j (by omega)
theorem lkP_eq (L : Nat → RI) (i : Nat) : lkP L i = stepP L (lkP L) i := by
 show (if i = i then stepP L (tabQ L i) i else _) = _
 rw [if_pos rfl]; exact stepP_ext (fun j hj => tabQ_lk L i j hj)
theorem lkP_zero (L : Nat → RI) : lkP L 0 = ⟨true, 0, false, heldStart⟩ := by rw [lkP_eq]; unfold stepP; rw [if_pos rfl]
def edge (L : Nat → RI) (j i : Nat) : Bool := (fromP (L j) (lkP L j) j i).1 || (fromP (L j) (lkP L j) j i).2
theorem lkP_held (L : Nat → RI) {i : Nat} (h : i ≠ 0) (r : Nat) : (lkP L i).held r = heldGo (fun j => if edge L j i then some (setsP (L j) (lkP L j) r) else none) i := by
 rw [lkP_eq]; unfold stepP; rw [if_neg h]; rfl
theorem lkP_sure (L : Nat → RI) {i : Nat} (h : i ≠ 0) : ((lkP L i).way, (lkP L i).sure, (lkP L i).mov) = ((sureGo (fun j => if edge L j i then some (sureP (L j) (lkP L j) (fromP (L j) (lkP L j) j i).1, movP (L j) (lkP L j)) else none) i).isSome,
  ((sureGo (fun j => if edge L j i then some (sureP (L j) (lkP L j) (fromP (L j) (lkP L j) j i).1, movP (L j) (lkP L j)) else none) i).map (·.1)).getD 0, ((sureGo (fun j => if edge L j i then some (sureP (L j) (lkP L j) (fromP (L j) (lkP L j) j i).1, movP (L j) (lkP L j)) else none) i).map (·.2)).getD false) := by
 rw [lkP_eq]; unfold stepP; rw [if_neg h]; rfl

def single (h : HK) : Bool := (h.kind == 1) || (h.kind == 4) || (h.kind == 5) || (h.kind == 6)
def reachP (t : PL) (h : HK) (off n : Int) : Bool :=
 if h.kind = 4 then decide (0 ≤ h.k + off) && decide (h.k + off + n ≤ t.sure) else (h.kind == 5) && decide (-32 ≤ h.k + off) && decide (h.k + off + n ≤ 0)
def secH (x : RI) (t : PL) : HK := if x.imm then ⟨1, 0⟩ else t.held x.src
def bothP (x : RI) (t : PL) : Bool := ((t.held x.dst).kind == 1) && ((secH x t).kind == 1)
def goodP (x : RI) (t : PL) : Bool :=
 if x.op = 1 then single (secH x t)
 else if (withinB x.op 2 3 && x.imm && (((t.held x.dst).kind == 4) || ((t.held x.dst).kind == 5))) = true then
  (if x.op = 3 then decide (-1000 ≤ (t.held x.dst).k - x.num) && decide ((t.held x.dst).k - x.num ≤ 1000) else decide (-1000 ≤ (t.held x.dst).k + x.num) && decide ((t.held x.dst).k + x.num ≤ 1000))
 else if withinB x.op 2 11 then bothP x t
 else if withinB x.op 20 23 then reachP t (secH x t) x.off (sizeR x.op)
 else if withinB x.op 24 27 then ((secH x t).kind == 1) && reachP t (t.held x.dst) x.off (sizeR x.op)
 else if x.op = 30 then true
 else if x.op = 40 then !(x.num == 1) || ((t.held 1).kind == 1)
 else if withinB x.op 31 36 then bothP x t || (((t.held x.dst).kind == 4) && ((secH x t).kind == 6)) || (((t.held x.dst).kind == 6) && ((secH x t).kind == 4))
 else (x.op == 41) && t.mov


def Small (b : Nat) (h : HK) : Prop := -(b : Int) ≤ h.k ∧ h.k ≤ b ∧ -1 ≤ h.kind ∧ h.kind ≤ 7
theorem small_sets {x : RI} {t : PL} {b : Nat} (hn : -2147483648 ≤ x.num ∧ x.num ≤ 2147483647) (h : ∀ r, Small b (t.held r)) (r : Nat) : Small (b + 2147483648) (setsP x t r) := by
 have h1 := h r
 have h2 := h x.src
 unfold Small at h1 h2
 unfold setsP calledP
 repeat' split
 all_goals (unfold Small; first | omega | (dsimp only; omega))
theorem small_go {f : Nat → Option HK} {b : Nat} : ∀ n : Nat, (∀ j h, j < n → f j = some h → Small b h) → Small b (heldGo f n)
 | 0, _ => by unfold heldGo Small; dsimp only; omega
 | n + 1, h => by
  unfold heldGo
  cases e : f n with
  | none => exact small_go n (fun j g hj => h j g (by omega))
  | some g =>
   show Small b (meetH _ g)
   unfold meetH
   split
   ·unfold Small; dsimp only; omega
   ·exact h n g (by omega) e
theorem Small.up {b c : Nat} {h : HK} (hs : Small b h) (hbc : b ≤ c) : Small c h := by
 unfold Small at hs ⊢
 omega
theorem lkP_small (L : Nat → RI) (hn : ∀ i, -2147483648 ≤ (L i).num ∧ (L i).num ≤ 2147483647) : ∀ (b i : Nat), i < b → ∀ r, Small (i * 2147483648) ((lkP L i).held r)
 | 0, _, h, _ => by omega
 | b + 1, i, hi, r => by
  by_cases i0 : i = 0
  ·subst i0
   rw [lkP_zero]
   show Small _ (heldStart r)
   unfold heldStart
   repeat' split
   all_goals unfold Small; dsimp only; omega
  ·rw [lkP_held L i0]
   refine small_go i (fun j g hj hg => ?_)
   cases e : edge L j i
   ·have q : (if edge L j i then some (setsP (L j) (lkP L j) r) else none) = some g := hg
    rw [e] at q; cases q
   ·have q : (if edge L j i then some (setsP (L j) (lkP L j) r) else none) = some g := hg
    rw [e] at q
    cases q
    exact (small_sets (hn j) (fun r => lkP_small L hn b j (by omega) r) r).up (by omega)

structure LAt (w : World) (lb : Nat) (L : Nat → RI) (n : Nat) : Prop where
 op : ∀ i, i < n → w.cell? ⟨lb, i * 6, none⟩ = some (.int .i64 (L i).op)
 imm : ∀ i, i < n → w.cell? ⟨lb, i * 6 + 1, none⟩ = some (.bool (L i).imm)
 dst : ∀ i, i < n → w.cell? ⟨lb, i * 6 + 2, none⟩ = some (.int .i64 (L i).dst)
 src : ∀ i, i < n → w.cell? ⟨lb, i * 6 + 3, none⟩ = some (.int .i64 (L i).src)
 off : ∀ i, i < n → w.cell? ⟨lb, i * 6 + 4, none⟩ = some (.int .i64 (L i).off)
 num : ∀ i, i < n → w.cell? ⟨lb, i * 6 + 5, none⟩ = some (.int .i64 (L i).num)
 lt : lb < w.heap.size
theorem LAt.same {w w' : World} {lb : Nat} {L : Nat → RI} {n : Nat} (h : LAt w lb L n) (hb : w'.heap[lb]? = w.heap[lb]?) (hs : w.heap.size ≤ w'.heap.size) : LAt w' lb L n := by
 have c : ∀ o, w'.cell? ⟨lb, o, none⟩ = w.cell? ⟨lb, o, none⟩ := fun o => by simp [World.cell?, hb]
 exact ⟨fun i hi => (c _).trans (h.op i hi), fun i hi => (c _).trans (h.imm i hi), fun i hi => (c _).trans (h.dst i hi), fun i hi => (c _).trans (h.src i hi), fun i hi => (c _).trans (h.off i hi), fun i hi => (c _).trans (h.num i hi), Nat.lt_of_lt_of_le h.lt hs⟩
theorem LAt.later {w w' : World} {lb : Nat} {L : Nat → RI} {n B : Nat} (h : LAt w lb L n) (hb : Below B w w') (hB : lb < B) : LAt w' lb L n := h.same (hb.block lb hB) hb.size
end Go.Proofs.YtoobileejdhikaaGreat

namespace Go.Proofs.YtoobileejdhikaaGreat
open Go.RowKit

structure MemAt (w : World) (p : Nat) (L : Nat → RI) : Prop where
 mem : ∃ (kn : Nat → Nat → Bool) (hd : Nat → Nat → HK), (∀ i r, i < 65 → r < 8 → w.cell? ⟨p, 1 + i * 8 + r, none⟩ = some (.bool (kn i r))) ∧
  (∀ i r, i < 65 → r < 8 → w.cell? ⟨p, 521 + i * 16 + r * 2, none⟩ = some (.int .i64 (hd i r).kind)) ∧ (∀ i r, i < 65 → r < 8 → w.cell? ⟨p, 521 + i * 16 + r * 2 + 1, none⟩ = some (.int .i64 (hd i r).k)) ∧
  (∀ i r, i < 65 → r < 8 → kn i r = true → hd i r = (lkP L i).held r)
structure LkAt (w : World) (p lb lcap n : Nat) (L : Nat → RI) (way : Nat → Bool) (sure : Nat → Int) (mov : Nat → Bool) : Prop where
 l : w.cell? ⟨p, 0, none⟩ = some (.slice (some ⟨lb, 0, none⟩) n lcap)
 mem : MemAt w p L
 way : ∀ i, i < 65 → w.cell? ⟨p, 1561 + i, none⟩ = some (.bool (way i))
 sure : ∀ i, i < 65 → w.cell? ⟨p, 1626 + i, none⟩ = some (.int .i64 (sure i))
 mov : ∀ i, i < 65 → w.cell? ⟨p, 1691 + i, none⟩ = some (.bool (mov i))
 fz : ∀ o, w.frozen? ⟨p, o, none⟩ = false
 lp : p < w.heap.size
 la : LAt w lb L n
 ne : lb ≠ p
theorem LkAt.same {w w' : World} {p lb lcap n : Nat} {L : Nat → RI} {way : Nat → Bool} {sure : Nat → Int} {mov : Nat → Bool} (h : LkAt w p lb lcap n L way sure mov)
  (hp : w'.heap[p]? = w.heap[p]?) (hl : w'.heap[lb]? = w.heap[lb]?) (hs : w.heap.size ≤ w'.heap.size) : LkAt w' p lb lcap n L way sure mov := by
 have c : ∀ o, w'.cell? ⟨p, o, none⟩ = w.cell? ⟨p, o, none⟩ := fun o => by simp [World.cell?, hp]
 obtain ⟨kn, hd, h1, h2, h3, h4⟩ := h.mem.mem
 exact ⟨(c _).trans h.l, ⟨kn, hd, fun i r hi hr => (c _).trans (h1 i r hi hr), fun i r hi hr => (c _).trans (h2 i r hi hr), fun i r hi hr => (c _).trans (h3 i r hi hr), h4⟩,
  fun i hi => (c _).trans (h.way i hi), fun i hi => (c _).trans (h.sure i hi), fun i hi => (c _).trans (h.mov i hi), fun o => (World.frozen?_of_block hp).trans (h.fz o), Nat.lt_of_lt_of_le h.lp hs, h.la.same hl hs, h.ne⟩
theorem LkAt.later {w w' : World} {p lb lcap n : Nat} {L : Nat → RI} {way : Nat → Bool} {sure : Nat → Int} {mov : Nat → Bool} (h : LkAt w p lb lcap n L way sure mov) (hb : Below w.heap.size w w') : LkAt w' p lb lcap n L way sure mov :=
 h.same (hb.block p h.lp) (hb.block lb h.la.lt) hb.size
theorem LkAt.drew {w : World} {p lb lcap n : Nat} {L : Nat → RI} {way : Nat → Bool} {sure : Nat → Int} {mov : Nat → Bool} (h : LkAt w p lb lcap n L way sure mov) : LkAt w.drew p lb lcap n L way sure mov := h.later (Below.refl _ _).drew
theorem LkAt.away {w : World} {p lb lcap n : Nat} {L : Nat → RI} {way : Nat → Bool} {sure : Nat → Int} {mov : Nat → Bool} (h : LkAt w p lb lcap n L way sure mov) {b o : Nat} (hb : b ≠ p) (hl : b ≠ lb) (u : Value) : LkAt (w.setCell ⟨b, o, none⟩ u) p lb lcap n L way sure mov :=
 h.same (heap_setCell_other w ⟨b, o, none⟩ p u (Ne.symm hb)) (heap_setCell_other w ⟨b, o, none⟩ lb u (Ne.symm hl)) (by rw [size_setCell]; exact Nat.le_refl _)
theorem LkAt.found {w : World} {p lb lcap n : Nat} {L : Nat → RI} {way : Nat → Bool} {sure : Nat → Int} {mov : Nat → Bool} (h : LkAt w p lb lcap n L way sure mov) (i r : Nat) (hi : i < 65) (hr : r < 8) {v : HK} (hv : v = (lkP L i).held r) :
  LkAt (((w.setCell ⟨p, 1 + i * 8 + r, none⟩ (.bool true)).setCell ⟨p, 521 + i * 16 + r * 2, none⟩ (.int .i64 v.kind)).setCell ⟨p, 521 + i * 16 + r * 2 + 1, none⟩ (.int .i64 v.k)) p lb lcap n L way sure mov := by
 obtain ⟨kn, hd, h1, h2, h3, h4⟩ := h.mem.mem
 refine ⟨?_, ⟨fun a b => if a = i ∧ b = r then true else kn a b, fun a b => if a = i ∧ b = r then v else hd a b, fun a b ha hb => ?_, fun a b ha hb => ?_, fun a b ha hb => ?_, fun a b ha hb hk => ?_⟩, fun a ha => ?_, fun a ha => ?_, fun a ha => ?_, fun o => ?_, ?_, ?_, h.ne⟩
 ·rw [cell_set_off (by omega), cell_set_off (by omega), cell_set_off (by omega)]; exact h.l
 ·rw [cell_set_off (by omega), cell_set_off (by omega)]
  dsimp only
  by_cases e : a = i ∧ b = r
  ·obtain ⟨rfl, rfl⟩ := e
   rw [cell_set_same (h1 a b ha hb), if_pos (show a = a ∧ b = b from ⟨rfl, rfl⟩)]
  ·rw [cell_set_off (by omega), h1 a b ha hb, if_neg e]
 ·rw [cell_set_off (by omega)]
  dsimp only
  by_cases e : a = i ∧ b = r
  ·obtain ⟨rfl, rfl⟩ := e
   rw [cell_set_same (v := .int .i64 (hd a b).kind) (by rw [cell_set_off (by omega)]; exact h2 a b ha hb), if_pos (show a = a ∧ b = b from ⟨rfl, rfl⟩)]
  ·rw [cell_set_off (by omega), cell_set_off (by omega), h2 a b ha hb, if_neg e]
 ·dsimp only
  by_cases e : a = i ∧ b = r
  ·obtain ⟨rfl, rfl⟩ := e
   rw [cell_set_same (v := .int .i64 (hd a b).k) (by rw [cell_set_off (by omega), cell_set_off (by omega)]; exact h3 a b ha hb), if_pos (show a = a ∧ b = b from ⟨rfl, rfl⟩)]
  ·rw [cell_set_off (by omega), cell_set_off (by omega), cell_set_off (by omega), h3 a b ha hb, if_neg e]
 ·dsimp only
  by_cases e : a = i ∧ b = r
  ·rw [if_pos e, e.1, e.2]; exact hv
  ·dsimp only at hk; rw [if_neg e] at hk ⊢; exact h4 a b ha hb hk
 ·rw [cell_set_off (by omega), cell_set_off (by omega), cell_set_off (by omega)]; exact h.way a ha
 ·rw [cell_set_off (by omega), cell_set_off (by omega), cell_set_off (by omega)]; exact h.sure a ha
 ·rw [cell_set_off (by omega), cell_set_off (by omega), cell_set_off (by omega)]; exact h.mov a ha
 ·rw [World.frozen?_setCell, World.frozen?_setCell, World.frozen?_setCell]; exact h.fz o
 ·rw [size_setCell, size_setCell, size_setCell]; exact h.lp
 ·refine h.la.same ?_ (by rw [size_setCell, size_setCell, size_setCell]; exact Nat.le_refl _)
  rw [heap_setCell_other _ _ _ _ h.ne, heap_setCell_other _ _ _ _ h.ne, heap_setCell_other _ _ _ _ h.ne]
theorem MemAt.set {w : World} {p o : Nat} {L : Nat → RI} (h : MemAt w p L) (ho : 1561 ≤ o) (u : Value) : MemAt (w.setCell ⟨p, o, none⟩ u) p L := by
 obtain ⟨kn, hd, h1, h2, h3, h4⟩ := h.mem
 exact ⟨kn, hd, fun i r hi hr => by rw [cell_set_off (by omega)]; exact h1 i r hi hr, fun i r hi hr => by rw [cell_set_off (by omega)]; exact h2 i r hi hr, fun i r hi hr => by rw [cell_set_off (by omega)]; exact h3 i r hi hr, h4⟩
theorem LkAt.setWay {w : World} {p lb lcap n : Nat} {L : Nat → RI} {way : Nat → Bool} {sure : Nat → Int} {mov : Nat → Bool} (h : LkAt w p lb lcap n L way sure mov) (i : Nat) (hi : i < 65) (b : Bool) :
  LkAt (w.setCell ⟨p, 1561 + i, none⟩ (.bool b)) p lb lcap n L (fun j => if j = i then b else way j) sure mov := by
 refine ⟨?_, h.mem.set (by omega) _, fun a ha => ?_, fun a ha => ?_, fun a ha => ?_, fun o => by rw [World.frozen?_setCell]; exact h.fz o, by rw [size_setCell]; exact h.lp, h.la.same (heap_setCell_other _ _ _ _ h.ne) (by rw [size_setCell]; exact Nat.le_refl _), h.ne⟩
 ·rw [cell_set_off (by omega)]; exact h.l
 ·by_cases e : a = i
  ·subst e; rw [cell_set_same (h.way a ha), if_pos rfl]
  ·rw [cell_set_off (by omega), h.way a ha, if_neg e]
 ·rw [cell_set_off (by omega)]; exact h.sure a ha
 ·rw [cell_set_off (by omega)]; exact h.mov a ha
theorem LkAt.setSure {w : World} {p lb lcap n : Nat} {L : Nat → RI} {way : Nat → Bool} {sure : Nat → Int} {mov : Nat → Bool} (h : LkAt w p lb lcap n L way sure mov) (i : Nat) (hi : i < 65) (b : Int) :
  LkAt (w.setCell ⟨p, 1626 + i, none⟩ (.int .i64 b)) p lb lcap n L way (fun j => if j = i then b else sure j) mov := by
 refine ⟨?_, h.mem.set (by omega) _, fun a ha => ?_, fun a ha => ?_, fun a ha => ?_, fun o => by rw [World.frozen?_setCell]; exact h.fz o, by rw [size_setCell]; exact h.lp, h.la.same (heap_setCell_other _ _ _ _ h.ne) (by rw [size_setCell]; exact Nat.le_refl _), h.ne⟩
 ·rw [cell_set_off (by omega)]; exact h.l
 ·rw [cell_set_off (by omega)]; exact h.way a ha
 ·by_cases e : a = i
  ·subst e; rw [cell_set_same (h.sure a ha), if_pos rfl]
  ·rw [cell_set_off (by omega), h.sure a ha, if_neg e]
 ·rw [cell_set_off (by omega)]; exact h.mov a ha
theorem LkAt.setMov {w : World} {p lb lcap n : Nat} {L : Nat → RI} {way : Nat → Bool} {sure : Nat → Int} {mov : Nat → Bool} (h : LkAt w p lb lcap n L way sure mov) (i : Nat) (hi : i < 65) (b : Bool) :
  LkAt (w.setCell ⟨p, 1691 + i, none⟩ (.bool b)) p lb lcap n L way sure (fun j => if j = i then b else mov j) := by
 refine ⟨?_, h.mem.set (by omega) _, fun a ha => ?_, fun a ha => ?_, fun a ha => ?_, fun o => by rw [World.frozen?_setCell]; exact h.fz o, by rw [size_setCell]; exact h.lp, h.la.same (heap_setCell_other _ _ _ _ h.ne) (by rw [size_setCell]; exact Nat.le_refl _), h.ne⟩
 ·rw [cell_set_off (by omega)]; exact h.l
 ·rw [cell_set_off (by omega)]; exact h.way a ha
 ·rw [cell_set_off (by omega)]; exact h.sure a ha
 ·by_cases e : a = i
  ·subst e; rw [cell_set_same (h.mov a ha), if_pos rfl]
  ·rw [cell_set_off (by omega), h.mov a ha, if_neg e]
end Go.Proofs.YtoobileejdhikaaGreat
