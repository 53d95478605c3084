/-
  Code that keeps to kinds is let in: what is known of registers by kinds, and that the look gives up nowhere.
-/
import Derived.Test.YtoobileejdhikaaGreatGb7
namespace Go.Proofs.YtoobileejdhikaaGreat
open Go.RowKit

structure Hd where
 t : Nat
 k : Int
abbrev Hd.any : Hd := ⟨0, 0⟩
abbrev Hd.num : Hd := ⟨1, 0⟩
abbrev Hd.first (k : Int) : Hd := ⟨2, k⟩
abbrev Hd.deep (k : Int) : Hd := ⟨3, k⟩
abbrev Hd.fin : Hd := ⟨4, 0⟩
def TvT (t : Nat) (k : Int) (v : KV) : Prop := match t with
 | 1 => v.kind = 1
 | 2 => v.kind = 2 ∧ v.pl = k ∧ v.pm = k
 | 3 => v.kind = 3 ∧ v.pl = k ∧ v.pm = k
 | 4 => v.kind = 2 ∧ v.e = true
 | _ => True
abbrev Tv (h : Hd) (v : KV) : Prop := TvT h.t h.k v
theorem Hd.five (t : Nat) : t = 1 ∨ t = 2 ∨ t = 3 ∨ t = 4 ∨ (∀ k v, TvT t k v) := by
 by_cases h : t = 1 ∨ t = 2 ∨ t = 3 ∨ t = 4
 ·omega
 ·refine Or.inr (Or.inr (Or.inr (Or.inr (fun k v => ?_))))
  unfold TvT; split <;> first | omega | trivial
def Hd.past (h : Hd) : Hd := if h.t = 1 then .num else if h.t = 3 then .deep h.k else .any
theorem Tv.or {h : Hd} {a b : KV} (ha : Tv h a) (hb : Tv h b) : Tv h (a.or b) := by
 obtain ⟨t, k⟩ := h
 rcases Hd.five t with rfl | rfl | rfl | rfl | e
 ·replace ha : a.kind = 1 := ha; replace hb : b.kind = 1 := hb; show (a.or b).kind = 1; rw [KV.or, if_pos (ha.trans hb.symm)]; exact ha
 ·replace ha : a.kind = 2 ∧ a.pl = k ∧ a.pm = k := ha
  replace hb : b.kind = 2 ∧ b.pl = k ∧ b.pm = k := hb
  show (a.or b).kind = 2 ∧ (a.or b).pl = k ∧ (a.or b).pm = k
  rw [KV.or, if_pos (ha.1.trans hb.1.symm)]
  refine ⟨ha.1, ?_, ?_⟩
  ·show min a.pl b.pl = k; rw [ha.2.1, hb.2.1]; omega
  ·show max a.pm b.pm = k; rw [ha.2.2, hb.2.2]; omega
 ·replace ha : a.kind = 3 ∧ a.pl = k ∧ a.pm = k := ha
  replace hb : b.kind = 3 ∧ b.pl = k ∧ b.pm = k := hb
  show (a.or b).kind = 3 ∧ (a.or b).pl = k ∧ (a.or b).pm = k
  rw [KV.or, if_pos (ha.1.trans hb.1.symm)]
  refine ⟨ha.1, ?_, ?_⟩
  ·show min a.pl b.pl = k; rw [ha.2.1, hb.2.1]; omega
  ·show max a.pm b.pm = k; rw [ha.2.2, hb.2.2]; omega
 ·replace ha : a.kind = 2 ∧ a.e = true := ha
  replace hb : b.kind = 2 ∧ b.e = true := hb
  show (a.or b).kind = 2 ∧ (a.or b).e = true
  rw [KV.or, if_pos (ha.1.trans hb.1.symm)]
  refine ⟨ha.1, ?_⟩
  show (a.e && b.e) = true
  rw [ha.2, hb.2]; rfl
 ·exact e _ _
structure TS (Γ : Nat → Hd) (m : Int) (mv : Bool) (s : KS) : Prop where
 v : ∀ r, r < 8 → Tv (Γ r) (s.v r)
 f : m ≤ s.frame
 m : mv = true → (s.v 0).kind = 1 ∧ (s.v 0).nm ≤ 3
theorem TS.or {Γ : Nat → Hd} {m : Int} {mv : Bool} {s t : KS} (hr : s.reached = true) (hs : TS Γ m mv s) (ht : TS Γ m mv t) : TS Γ m mv (s.or t) := by
 rw [KS.or, if_pos hr]
 have e : ∀ r, r < 9 → (orV s t 9).v r = (s.v r).or (t.v r) := fun r h => by show (if r < 9 then _ else _) = _; rw [if_pos h]
 refine ⟨fun r h => ?_, ?_, fun h => ?_⟩
 ·show Tv (Γ r) ((orV s t 9).v r); rw [e r (by omega)]; exact (hs.v r h).or (ht.v r h)
 ·show m ≤ min s.frame t.frame; have := hs.f; have := ht.f; omega
 ·show ((orV s t 9).v 0).kind = 1 ∧ ((orV s t 9).v 0).nm ≤ 3
  rw [e 0 (by omega)]
  have h1 := hs.m h
  have h2 := ht.m h
  rw [KV.or, if_pos (h1.1.trans h2.1.symm)]
  exact ⟨h1.1, by show max (s.v 0).nm (t.v 0).nm ≤ 3; omega⟩
theorem TS.weak {Γ Δ : Nat → Hd} {m m' : Int} {mv mv' : Bool} {s : KS} (h : TS Γ m mv s) (h1 : ∀ r, r < 8 → Δ r = .any ∨ Δ r = Γ r) (h2 : m' ≤ m) (h3 : mv' = true → mv = true) : TS Δ m' mv' s :=
 ⟨fun r hr => by rcases h1 r hr with e | e <;> rw [e]; exact trivial; exact h.v r hr, Int.le_trans h2 h.f, fun hm => h.m (h3 hm)⟩
def upd (Γ : Nat → Hd) (d : Nat) (h : Hd) : Nat → Hd := fun r => if r = d then h else Γ r
theorem TS.ahead {Γ : Nat → Hd} {m : Int} {mv : Bool} {s : KS} (h : TS Γ m mv s) (i n : Int) : TS Γ m mv (s.ahead i n) := by
 have e : ∀ r, r < 8 → (s.ahead i n).v r = s.v r := fun r hr => by show (if r = 8 then _ else _) = _; rw [if_neg (by omega)]; rfl
 exact ⟨fun r hr => by rw [e r hr]; exact h.v r hr, h.f, fun hm => by rw [e 0 (by omega)]; exact h.m hm⟩
theorem TS.set {Γ : Nat → Hd} {m : Int} {mv : Bool} {s : KS} (h : TS Γ m mv s) (d : Nat) {k : Hd} {v : KV} (hv : Tv k v) {mv' : Bool} (hm : mv' = true → if d = 0 then v.kind = 1 ∧ v.nm ≤ 3 else mv = true) : TS (upd Γ d k) m mv' (s.set d v) := by
 refine ⟨fun r hr => ?_, h.f, fun h' => ?_⟩
 ·show Tv (if r = d then k else Γ r) (if r = d then v else s.v r)
  split
  ·exact hv
  ·exact h.v r hr
 ·show ((if 0 = d then v else s.v 0) : KV).kind = 1 ∧ ((if 0 = d then v else s.v 0) : KV).nm ≤ 3
  have := hm h'
  by_cases e : d = 0
  ·subst e; rw [if_pos rfl] at this; rw [if_pos rfl]; exact this
  ·rw [if_neg e] at this; rw [if_neg (Ne.symm e)]; exact h.m this

theorem safe_of (I : Nat → PI) (n : Nat) (P : Nat → KS → Prop) (h0 : P 0 KS.start) (hor : ∀ i s t, s.reached = true → P i s → P i t → P i (s.or t))
  (hstep : ∀ i s, i < n → s.reached = true → P i s → ∃ a b, lookK (I i) (s.ahead i (I i).n) = some (a, b) ∧ (a.reached = true → P (i + 1) a) ∧ (b.reached = true → P (i + 1 + (I i).of.toNat) b)) : safeP I n = none := by
 have meet : ∀ (st : Nat → KS) (q : Nat) (s : KS), (∀ j, (st j).reached = true → P j (st j)) → (s.reached = true → P q s) → ∀ j, (meetK st q s j).reached = true → P j (meetK st q s j) := fun st q s hst hs j hj => by
  unfold meetK at hj ⊢
  cases hr : s.reached
  ·rw [hr] at hj; exact hst j hj
  ·rw [hr] at hj
   simp only [if_true] at hj ⊢
   by_cases e : j = q
   ·subst e
    rw [if_pos rfl] at hj ⊢
    cases hq : (st j).reached
    ·have e2 : (st j).or s = s := by rw [KS.or, hq]; rfl
     rw [e2]; exact hs hr
    ·exact hor j _ _ hq (hst j hq) (hs hr)
   ·rw [if_neg e] at hj ⊢; exact hst j hj
 have go : ∀ (m i : Nat) (st : Nat → KS), i + m = n → (∀ j, (st j).reached = true → P j (st j)) → safeR I m i st = none := by
  intro m
  induction m with
  | zero => intro i st _ _; rfl
  | succ m ih =>
   intro i st hi hst
   cases hr : (st i).reached
   ·rw [safeR_skip hr]; exact ih (i + 1) st (by omega) hst
   ·obtain ⟨a, b, hl, ha, hb⟩ := hstep i (st i) (by omega) hr (hst i hr)
    rw [safeR_some hr hl]
    exact ih (i + 1) _ (by omega) (meet _ _ _ (meet _ _ _ hst ha) hb)
 refine go n 0 st0 (by omega) (fun j hj => ?_)
 unfold st0 at hj ⊢
 by_cases e : j = 0
 ·subst e; rw [if_pos rfl]; exact h0
 ·rw [if_neg e] at hj; cases hj

def Next (x : PI) (s : KS) (Q : KS → Prop) : Prop := ∃ a, lookK x s = some (a, KS.zero) ∧ Q a
theorem kn0 (l m : Int) : (numV l m).kind ≠ 0 := by show (1 : Int) ≠ 0; decide
theorem s8 (s : KS) (i n : Int) : (s.ahead i n).v 8 = numV (numW n) (numW n) := rfl
theorem r_imm {x : PI} (h : 128 ≤ x.op) : x.r = 8 := by unfold PI.r secR; rw [if_pos (by omega)]
theorem r_reg {x : PI} (h : x.op < 128) : x.r = x.c := by unfold PI.r secR; rw [if_neg (by omega)]
theorem numW_small {n : Int} (h0 : 0 ≤ n) (h1 : n ≤ 3) : numW n = n := by rw [numW_bd]; omega

theorem ty_movI {x : PI} {Γ : Nat → Hd} {m : Int} {mv : Bool} {s : KS} {i : Int} (ho : x.op = 129) (h : TS Γ m mv s) :
  Next x (s.ahead i x.n) (TS (upd Γ x.d .num) m (if x.d = 0 then decide (0 ≤ x.n) && decide (x.n ≤ 3) else mv)) := by
 have e : lookK x (s.ahead i x.n) = movL (s.ahead i x.n) x.d x.r := by obtain ⟨op, d, c, of, n⟩ := x; cases ho; rfl
 rw [Next, e, r_imm (by omega), movL, s8, if_neg (kn0 _ _)]
 refine ⟨_, rfl, (h.ahead i x.n).set x.d (k := .num) (v := numV (numW x.n) (numW x.n)) rfl (fun hm => ?_)⟩
 by_cases e : x.d = 0
 ·rw [if_pos e] at hm ⊢
  simp only [Bool.and_eq_true, decide_eq_true_eq] at hm
  exact ⟨rfl, by show numW x.n ≤ 3; rw [numW_small hm.1 hm.2]; exact hm.2⟩
 ·rw [if_neg e] at hm ⊢; exact hm
theorem Tv.some {h : Hd} {v : KV} (hn : 1 ≤ h.t ∧ h.t ≤ 4) (hv : Tv h v) : v.kind ≠ 0 := by
 obtain ⟨t, k⟩ := h
 rcases (show t = 1 ∨ t = 2 ∨ t = 3 ∨ t = 4 from by have q1 : 1 ≤ t := hn.1; have q2 : t ≤ 4 := hn.2; omega) with rfl | rfl | rfl | rfl
 ·have q : v.kind = 1 := hv; omega
 ·have q : v.kind = 2 := hv.1; omega
 ·have q : v.kind = 3 := hv.1; omega
 ·have q : v.kind = 2 := hv.1; omega
theorem ty_movR {x : PI} {Γ : Nat → Hd} {m : Int} {mv : Bool} {s : KS} {i : Int} (ho : x.op = 1) (hc : x.c < 8) (hk : 1 ≤ (Γ x.c).t ∧ (Γ x.c).t ≤ 4) (h : TS Γ m mv s) :
  Next x (s.ahead i x.n) (TS (upd Γ x.d (Γ x.c)) m (if x.d = 0 then false else mv)) := by
 have e : lookK x (s.ahead i x.n) = movL (s.ahead i x.n) x.d x.r := by obtain ⟨op, d, c, of, n⟩ := x; cases ho; rfl
 have ha := h.ahead i x.n
 rw [Next, e, r_reg (by omega), movL, if_neg (Tv.some hk (ha.v _ hc))]
 refine ⟨_, rfl, ha.set x.d (ha.v _ hc) (fun hm => ?_)⟩
 by_cases e : x.d = 0
 ·rw [if_pos e] at hm; cases hm
 ·rw [if_neg e] at hm ⊢; exact hm
theorem wrap_num {n : Int} (h1 : -2147483648 ≤ n) (h2 : n ≤ 2147483647) : wrap64 (numW n) = n := by rw [numW_bd, wrap64]; omega
theorem steps_num {n : Int} (h1 : -2000 ≤ n) (h2 : n ≤ 2000) : stepsOk (numV (numW n) (numW n)) := by
 have e := wrap_num (n := n) (by omega) (by omega)
 refine ⟨?_, ?_, ?_⟩ <;> (show _ ≤ _; simp only [numV]; rw [e]; omega)
def plH (d : Bool) (k : Int) : Hd := if d then .deep k else .first k
theorem plH_kind {d : Bool} {k : Int} {v : KV} (h : Tv (plH d k) v) : v.kind = (if d then 3 else 2) ∧ v.pl = k ∧ v.pm = k := by
 cases d <;> exact h
theorem ty_addI {x : PI} {Γ : Nat → Hd} {m : Int} {mv : Bool} {s : KS} {i : Int} (ho : x.op = 130) (hd : x.d < 8) {dp : Bool} {k : Int} (hk : Γ x.d = plH dp k) (k1 : -1000 ≤ k) (k2 : k ≤ 1000) (h1 : -1000 ≤ k + x.n) (h2 : k + x.n ≤ 1000) (h : TS Γ m mv s) :
  Next x (s.ahead i x.n) (TS (upd Γ x.d (plH dp (k + x.n))) m (if x.d = 0 then false else mv)) := by
 have e : lookK x (s.ahead i x.n) = addL (s.ahead i x.n) x.d x.r := by obtain ⟨op, d, c, of, n⟩ := x; cases ho; rfl
 have ha := h.ahead i x.n
 have hv := ha.v x.d hd
 rw [hk] at hv
 have hp := plH_kind hv
 have hw := wrap_num (n := x.n) (by omega) (by omega)
 have e2 : sumO ((s.ahead i x.n).v x.d) (numV (numW x.n) (numW x.n)) = some ⟨if dp then 3 else 2, 0, 0, k + x.n, k + x.n, false⟩ := by
  have hk0 : ((s.ahead i x.n).v x.d).kind ≠ 0 ∧ ((s.ahead i x.n).v x.d).kind ≠ 1 := by rw [hp.1]; cases dp <;> decide
  rw [sumO, if_neg (by intro h; rcases h with h | h; exact hk0.1 h; exact absurd h (kn0 _ _)), sumK, if_neg hk0.2, if_pos (show (numV (numW x.n) (numW x.n)).kind = 1 from rfl), if_pos (steps_num (by omega) (by omega)), movedK]
  simp only [numV, hw, hp]
  rw [if_pos ⟨h1, h2⟩]
 rw [Next, e, r_imm (by omega), addL, s8, e2]
 refine ⟨_, rfl, ha.set x.d (k := plH dp (k + x.n)) (by cases dp <;> exact ⟨rfl, rfl, rfl⟩) (fun hm => ?_)⟩
 by_cases e : x.d = 0
 ·rw [if_pos e] at hm; cases hm
 ·rw [if_neg e] at hm ⊢; exact hm
theorem ty_subI {x : PI} {Γ : Nat → Hd} {m : Int} {mv : Bool} {s : KS} {i : Int} (ho : x.op = 131) (hd : x.d < 8) {dp : Bool} {k : Int} (hk : Γ x.d = plH dp k) (k1 : -1000 ≤ k) (k2 : k ≤ 1000) (h1 : -1000 ≤ k - x.n) (h2 : k - x.n ≤ 1000) (h : TS Γ m mv s) :
  Next x (s.ahead i x.n) (TS (upd Γ x.d (plH dp (k - x.n))) m (if x.d = 0 then false else mv)) := by
 have e : lookK x (s.ahead i x.n) = subL (s.ahead i x.n) x.d x.r := by obtain ⟨op, d, c, of, n⟩ := x; cases ho; rfl
 have ha := h.ahead i x.n
 have hv := ha.v x.d hd
 rw [hk] at hv
 have hp := plH_kind hv
 have hw := wrap_num (n := x.n) (by omega) (by omega)
 have e2 : diffO ((s.ahead i x.n).v x.d) (numV (numW x.n) (numW x.n)) = some ⟨if dp then 3 else 2, 0, 0, k - x.n, k - x.n, false⟩ := by
  have hk0 : ((s.ahead i x.n).v x.d).kind ≠ 0 ∧ ((s.ahead i x.n).v x.d).kind ≠ 1 := by rw [hp.1]; cases dp <;> decide
  rw [diffO, if_neg (by intro h; rcases h with h | h; exact hk0.1 h; exact absurd h (kn0 _ _)), differenceK, if_pos (show (numV (numW x.n) (numW x.n)).kind = 1 from rfl), if_neg hk0.2, if_pos (steps_num (by omega) (by omega)), movedK]
  simp only [numV, hw, hp]
  rw [if_pos (by omega)]
  simp only [Int.sub_eq_add_neg]
 rw [Next, e, r_imm (by omega), subL, s8, e2]
 refine ⟨_, rfl, ha.set x.d (k := plH dp (k - x.n)) (by cases dp <;> exact ⟨rfl, rfl, rfl⟩) (fun hm => ?_)⟩
 by_cases e : x.d = 0
 ·rw [if_pos e] at hm; cases hm
 ·rw [if_neg e] at hm ⊢; exact hm

theorem TS.setNum {Γ : Nat → Hd} {m : Int} {mv : Bool} {s : KS} (h : TS Γ m mv s) (d : Nat) (l u : Int) : TS (upd Γ d .num) m (if d = 0 then false else mv) (s.set d (numV l u)) :=
 h.set d (k := .num) (v := numV l u) rfl (fun hm => by
  by_cases e : d = 0
  ·rw [if_pos e] at hm; cases hm
  ·rw [if_neg e] at hm ⊢; exact hm)
def num2 (x : PI) (Γ : Nat → Hd) : Prop := Γ x.d = .num ∧ (128 ≤ x.op ∨ (x.c < 8 ∧ Γ x.c = .num))
theorem num2_kind {x : PI} {Γ : Nat → Hd} {m : Int} {mv : Bool} {s : KS} {i : Int} (hd : x.d < 8) (h2 : num2 x Γ) (h : TS Γ m mv s) : ((s.ahead i x.n).v x.d).kind = 1 ∧ ((s.ahead i x.n).v x.r).kind = 1 := by
 have ha := h.ahead i x.n
 have hv := ha.v x.d hd
 rw [h2.1] at hv
 refine ⟨hv, ?_⟩
 by_cases hi : 128 ≤ x.op
 ·rw [r_imm hi, s8]; rfl
 ·rcases h2.2 with h3 | ⟨h3, h4⟩
  ·exact absurd h3 hi
  ·rw [r_reg (by omega)]
   have := ha.v x.c h3
   rw [h4] at this; exact this
theorem ty_num {x : PI} {Γ : Nat → Hd} {m : Int} {mv : Bool} {s : KS} {i : Int} (ho : (2 ≤ x.op ∧ x.op ≤ 11) ∨ (130 ≤ x.op ∧ x.op ≤ 139)) (hd : x.d < 8) (h2 : num2 x Γ) (h : TS Γ m mv s) :
  Next x (s.ahead i x.n) (TS (upd Γ x.d .num) m (if x.d = 0 then false else mv)) := by
 obtain ⟨k1, k2⟩ := num2_kind (i := i) hd h2 h
 have ha := h.ahead i x.n
 have hN : ∀ l u, numL (s.ahead i x.n) x.d x.r l u = some ((s.ahead i x.n).set x.d (numV l u), KS.zero) := fun l u => if_pos ⟨k1, k2⟩
 have hA : ∃ l u, addL (s.ahead i x.n) x.d x.r = some ((s.ahead i x.n).set x.d (numV l u), KS.zero) := by
  refine ⟨(numAdd ((s.ahead i x.n).v x.d) ((s.ahead i x.n).v x.r)).nl, (numAdd ((s.ahead i x.n).v x.d) ((s.ahead i x.n).v x.r)).nm, ?_⟩
  rw [addL, sumO, if_neg (by omega), sumK, if_pos k1, if_pos k2]; rfl
 have hS : ∃ l u, subL (s.ahead i x.n) x.d x.r = some ((s.ahead i x.n).set x.d (numV l u), KS.zero) := by
  refine ⟨(numSub ((s.ahead i x.n).v x.d) ((s.ahead i x.n).v x.r)).nl, (numSub ((s.ahead i x.n).v x.d) ((s.ahead i x.n).v x.r)).nm, ?_⟩
  rw [subL, diffO, if_neg (by omega), differenceK, if_pos k2, if_pos k1]; rfl
 have key : ∃ l u, lookK x (s.ahead i x.n) = some ((s.ahead i x.n).set x.d (numV l u), KS.zero) := by
  obtain ⟨op, d, c, of, n⟩ := x
  dsimp only at ho
  rcases (show op = 2 ∨ op = 3 ∨ op = 4 ∨ op = 5 ∨ op = 6 ∨ op = 7 ∨ op = 8 ∨ op = 9 ∨ op = 10 ∨ op = 11 ∨ op = 130 ∨ op = 131 ∨ op = 132 ∨ op = 133 ∨ op = 134 ∨ op = 135 ∨ op = 136 ∨ op = 137 ∨ op = 138 ∨ op = 139 from by omega) with rfl | rfl | rfl | rfl | rfl | rfl | rfl | rfl | rfl | rfl | rfl | rfl | rfl | rfl | rfl | rfl | rfl | rfl | rfl | rfl
  all_goals first | exact hA | exact hS | exact ⟨_, _, hN _ _⟩
 obtain ⟨l, u, e⟩ := key
 exact ⟨_, e, ha.setNum x.d l u⟩
def rch (h : Hd) (m of : Int) (z : Nat) : Prop := (∃ k, h = .first k ∧ 0 ≤ k + of ∧ k + of + z ≤ m) ∨ (∃ k, h = .deep k ∧ -32 ≤ k + of ∧ k + of + z ≤ 0)
theorem rch_ok {h : Hd} {m of : Int} {z : Nat} {v : KV} {fr : Int} (hr : rch h m of z) (hv : Tv h v) (hf : m ≤ fr) : v.kind ≠ 0 ∧ reachB v fr of z = true := by
 rcases hr with ⟨k, rfl, h1, h2⟩ | ⟨k, rfl, h1, h2⟩
 ·simp only [Tv, TvT] at hv
  refine ⟨by omega, ?_⟩
  simp only [reachB, hv, Bool.or_eq_true, Bool.and_eq_true, decide_eq_true_eq, beq_iff_eq]
  exact .inl ⟨⟨trivial, h1⟩, by omega⟩
 ·simp only [Tv, TvT] at hv
  refine ⟨by omega, ?_⟩
  simp only [reachB, hv, Bool.or_eq_true, Bool.and_eq_true, decide_eq_true_eq, beq_iff_eq]
  exact .inr ⟨⟨trivial, h1⟩, by omega⟩
def szOf (op : Nat) : Nat := match op with
 | 20 => 1 | 21 => 2 | 22 => 4 | 24 => 1 | 25 => 2 | 26 => 4 | _ => 8
theorem ty_load {x : PI} {Γ : Nat → Hd} {m : Int} {mv : Bool} {s : KS} {i : Int} (ho : 20 ≤ x.op ∧ x.op ≤ 23) (hc : x.c < 8) (hr : rch (Γ x.c) m x.of (szOf x.op)) (h : TS Γ m mv s) :
  Next x (s.ahead i x.n) (TS (upd Γ x.d .num) m (if x.d = 0 then false else mv)) := by
 have ha := h.ahead i x.n
 have hR := rch_ok hr (ha.v x.c hc) ha.f
 have e : lookK x (s.ahead i x.n) = loadL (s.ahead i x.n) x.d x.c x.of (szOf x.op) := by
  obtain ⟨op, d, c, of, n⟩ := x
  dsimp only at ho
  rcases (show op = 20 ∨ op = 21 ∨ op = 22 ∨ op = 23 from by omega) with rfl | rfl | rfl | rfl <;> rfl
 rw [Next, e, loadL, if_pos hR]
 exact ⟨_, rfl, ha.setNum x.d _ _⟩
theorem ty_store {x : PI} {Γ : Nat → Hd} {m : Int} {mv : Bool} {s : KS} {i : Int} (ho : 24 ≤ x.op ∧ x.op ≤ 27) (hd : x.d < 8) (hc : x.c < 8) (hk : Γ x.c = .num) (hr : rch (Γ x.d) m x.of (szOf x.op)) (h : TS Γ m mv s) :
  Next x (s.ahead i x.n) (TS Γ m mv) := by
 have ha := h.ahead i x.n
 have hR := rch_ok hr (ha.v x.d hd) ha.f
 have hv := ha.v x.c hc
 rw [hk] at hv
 simp only [Tv, TvT] at hv
 have e : lookK x (s.ahead i x.n) = storeL (s.ahead i x.n) x.d x.c x.of (szOf x.op) := by
  obtain ⟨op, d, c, of, n⟩ := x
  dsimp only at ho
  rcases (show op = 24 ∨ op = 25 ∨ op = 26 ∨ op = 27 from by omega) with rfl | rfl | rfl | rfl <;> rfl
 rw [Next, e, storeL, if_pos hR, if_pos hv]
 exact ⟨_, rfl, ha⟩
theorem ty_call1 {x : PI} {Γ : Nat → Hd} {m : Int} {mv : Bool} {s : KS} {i : Int} (ho : x.op = 40) (hn : x.n = 1) (hk : Γ 1 = .num) (h : TS Γ m mv s) :
  Next x (s.ahead i x.n) (TS (fun r => if r = 0 then .num else if 1 ≤ r ∧ r ≤ 3 then .any else (Γ r).past) 0 false) := by
 have ha := h.ahead i x.n
 have hv := ha.v 1 (by omega)
 rw [hk] at hv
 simp only [Tv, TvT] at hv
 have e : lookK x (s.ahead i x.n) = callL (s.ahead i x.n) x.n := by obtain ⟨op, d, c, of, n⟩ := x; cases ho; rfl
 rw [Next, e, callL, if_neg (by omega), if_neg (by omega), if_pos hv]
 refine ⟨_, rfl, ⟨fun r hr => ?_, Int.le_refl _, fun h => by cases h⟩⟩
 have e2 : (shrinkK (s.ahead i x.n)).v r = if r = 0 then numV 0 1 else if r < 9 ∧ shrC (s.ahead i x.n) r then kNone else (s.ahead i x.n).v r := rfl
 rw [e2]
 by_cases h0 : r = 0
 ·rw [if_pos h0, if_pos h0]; exact rfl
 rw [if_neg h0, if_neg h0]
 by_cases h1 : 1 ≤ r ∧ r ≤ 3
 ·rw [if_pos h1]; trivial
 rw [if_neg h1]
 have hvr := ha.v r hr
 unfold Hd.past
 by_cases t1 : (Γ r).t = 1
 ·rw [if_pos t1]
  have hv1 : ((s.ahead i x.n).v r).kind = 1 := by have q := hvr; unfold Tv at q; rw [t1] at q; exact q
  rw [if_neg (by unfold shrC; omega)]; exact hv1
 rw [if_neg t1]
 by_cases t3 : (Γ r).t = 3
 ·rw [if_pos t3]
  have hv3 : ((s.ahead i x.n).v r).kind = 3 ∧ ((s.ahead i x.n).v r).pl = (Γ r).k ∧ ((s.ahead i x.n).v r).pm = (Γ r).k := by have q := hvr; unfold Tv at q; rw [t3] at q; exact q
  rw [if_neg (by unfold shrC; omega)]; exact hv3
 ·rw [if_neg t3]; trivial
theorem ty_call2 {x : PI} {Γ : Nat → Hd} {m : Int} {mv : Bool} {s : KS} {i : Int} (ho : x.op = 40) (hn : x.n = 2) (h : TS Γ m mv s) : Next x (s.ahead i x.n) (TS (upd Γ 0 (.first 0)) m false) := by
 have ha := h.ahead i x.n
 have e : lookK x (s.ahead i x.n) = callL (s.ahead i x.n) x.n := by obtain ⟨op, d, c, of, n⟩ := x; cases ho; rfl
 rw [Next, e, callL, if_pos hn]
 exact ⟨_, rfl, ha.set 0 (k := .first 0) (v := firstV) ⟨rfl, rfl, rfl⟩ (fun h => by cases h)⟩
theorem ty_call3 {x : PI} {Γ : Nat → Hd} {m : Int} {mv : Bool} {s : KS} {i : Int} (ho : x.op = 40) (hn : x.n = 3) (h : TS Γ m mv s) : Next x (s.ahead i x.n) (TS (upd Γ 0 .fin) m false) := by
 have ha := h.ahead i x.n
 have e : lookK x (s.ahead i x.n) = callL (s.ahead i x.n) x.n := by obtain ⟨op, d, c, of, n⟩ := x; cases ho; rfl
 rw [Next, e, callL, if_neg (by omega), if_pos hn]
 exact ⟨_, rfl, ha.set 0 (k := .fin) (v := endV) ⟨rfl, rfl⟩ (fun h => by cases h)⟩
theorem ty_exit {x : PI} {Γ : Nat → Hd} {m : Int} {s : KS} {i : Int} (ho : x.op = 41) (h : TS Γ m true s) : lookK x (s.ahead i x.n) = some (KS.zero, KS.zero) := by
 have ha := h.ahead i x.n
 have e : lookK x (s.ahead i x.n) = exitL (s.ahead i x.n) := by obtain ⟨op, d, c, of, n⟩ := x; cases ho; rfl
 rw [e, exitL, if_pos (ha.m rfl)]
theorem ty_jump {x : PI} {Γ : Nat → Hd} {m : Int} {mv : Bool} {s : KS} {i : Int} (ho : x.op = 30) (h : TS Γ m mv s) : ∃ b, lookK x (s.ahead i x.n) = some (KS.zero, b) ∧ TS Γ m mv b := by
 have e : lookK x (s.ahead i x.n) = some (KS.zero, s.ahead i x.n) := by obtain ⟨op, d, c, of, n⟩ := x; cases ho; rfl
 exact ⟨_, e, h.ahead i x.n⟩

theorem Tv_num {h : Hd} {v v' : KV} (hv : Tv h v) (h1 : v.kind = 1) (h2 : v'.kind = 1) : Tv h v' := by
 obtain ⟨t, k⟩ := h
 rcases Hd.five t with rfl | rfl | rfl | rfl | e
 ·exact h2
 ·have q : v.kind = 2 := hv.1; omega
 ·have q : v.kind = 3 := hv.1; omega
 ·have q : v.kind = 2 := hv.1; omega
 ·exact e _ _
theorem frK_v (s : KS) (A B : KV) (g : Int) : (frK s A B g).v = s.v := by unfold frK; split <;> rfl
theorem frK_f (s : KS) (A B : KV) (g : Int) : s.frame ≤ (frK s A B g).frame := by unfold frK; split; exact (show s.frame ≤ max s.frame _ by omega); exact Int.le_refl _
theorem frK_r (s : KS) (A B : KV) (g : Int) : (frK s A B g).reached = s.reached := by unfold frK; split <;> rfl
theorem ap_reached {s : KS} {a b : Nat} {g : Int} (h : (apartByK s a b g).reached = true) : s.reached = true := by
 unfold apartByK at h
 split at h
 ·split at h
  ·exact (frK_r s _ _ g).symm.trans h
  ·cases h
 ·split at h
  ·exact (frK_r s _ _ g).symm.trans h
  ·cases h
theorem set2_v (s : KS) (a b r : Nat) (x y : KV) : ((s.set a x).set b y).v r = if r = b then y else if r = a then x else s.v r := rfl
theorem ap_num {s : KS} {a b : Nat} {g : Int} {Γ : Nat → Hd} {m : Int} {mv : Bool} (ka : (s.v a).kind = 1) (kb : (s.v b).kind = 1) (h : TS Γ m mv s) (hr : (apartByK s a b g).reached = true) :
  TS Γ m mv (apartByK s a b g) ∧ ((apartByK s a b g).v a).kind = 1 ∧ ((apartByK s a b g).v b).kind = 1 := by
 unfold apartByK at hr ⊢
 rw [if_pos ka] at hr ⊢
 split at hr
 ·rename_i hc
  rw [if_pos hc]
  refine ⟨⟨fun r hr8 => ?_, ?_, fun hm => ?_⟩, ?_, ?_⟩
  ·rw [set2_v, frK_v]
   split
   ·rename_i e; subst e; exact Tv_num (h.v r hr8) kb kb
   ·split
    ·rename_i e; subst e; exact Tv_num (h.v r hr8) ka ka
    ·exact h.v r hr8
  ·exact Int.le_trans h.f (frK_f s _ _ g)
  ·rw [set2_v, frK_v]
   have hm' := h.m hm
   split
   ·rename_i e; subst e; exact ⟨hm'.1, hm'.2⟩
   ·split
    ·rename_i e; subst e; exact ⟨hm'.1, by show min _ _ ≤ 3; omega⟩
    ·exact hm'
  ·rw [set2_v]
   split
   ·exact kb
   ·rw [if_pos rfl]; exact ka
  ·rw [set2_v, if_pos rfl]; exact kb
 ·cases hr
theorem ap_ff {s : KS} {a b : Nat} {g : Int} {Γ : Nat → Hd} {m : Int} {mv : Bool} (ha : a < 8) (hb : b < 8) {k : Int} (hk : (Γ a = .first k ∧ Γ b = .fin) ∨ (Γ a = .fin ∧ Γ b = .first k)) (h : TS Γ m mv s) (hr : (apartByK s a b g).reached = true) :
  TS Γ m mv (apartByK s a b g) ∧ (Γ a = .first k → TS Γ (max m (k + g)) mv (apartByK s a b g)) := by
 have hva := h.v a ha
 have hvb := h.v b hb
 have ka : (s.v a).kind = 2 := by rcases hk with ⟨e, _⟩ | ⟨e, _⟩ <;> rw [e] at hva <;> exact hva.1
 have kb : (s.v b).kind = 2 := by rcases hk with ⟨_, e⟩ | ⟨_, e⟩ <;> rw [e] at hvb <;> exact hvb.1
 unfold apartByK at hr ⊢
 rw [if_neg (by omega)] at hr ⊢
 split at hr
 ·rename_i hc
  rw [if_pos hc]
  have hv : ∀ r, r < 8 → Tv (Γ r) ((((frK s (s.v a) (s.v b) g).set a { s.v a with pm := min (s.v a).pm ((s.v b).pm - g) }).set b { s.v b with pl := max (s.v b).pl ((s.v a).pl + g) }).v r) := fun r hr => by
   rw [set2_v, frK_v]
   split
   ·rename_i e; subst e
    rcases hk with ⟨e1, e2⟩ | ⟨e1, e2⟩
    ·rw [e2] at hvb ⊢; exact ⟨hvb.1, hvb.2⟩
    ·rw [e2] at hvb ⊢
     simp only [Tv, TvT] at hvb ⊢
     exact ⟨hvb.1, by omega, hvb.2.2⟩
   ·split
    ·rename_i e; subst e
     rcases hk with ⟨e1, e2⟩ | ⟨e1, e2⟩
     ·rw [e1] at hva ⊢
      simp only [Tv, TvT] at hva ⊢
      exact ⟨hva.1, hva.2.1, by omega⟩
     ·rw [e1] at hva ⊢; exact ⟨hva.1, hva.2⟩
    ·exact h.v r hr
  have hmv : mv = true → ((((frK s (s.v a) (s.v b) g).set a { s.v a with pm := min (s.v a).pm ((s.v b).pm - g) }).set b { s.v b with pl := max (s.v b).pl ((s.v a).pl + g) }).v 0).kind = 1 ∧ ((((frK s (s.v a) (s.v b) g).set a { s.v a with pm := min (s.v a).pm ((s.v b).pm - g) }).set b { s.v b with pl := max (s.v b).pl ((s.v a).pl + g) }).v 0).nm ≤ 3 := fun hm => by
   have hm' := h.m hm
   rw [set2_v, frK_v]
   by_cases e1 : 0 = b
   ·subst e1; omega
   ·rw [if_neg e1]
    by_cases e2 : 0 = a
    ·subst e2; omega
    ·rw [if_neg e2]; exact hm'
  refine ⟨⟨hv, Int.le_trans h.f (frK_f s _ _ g), hmv⟩, fun e1 => ⟨hv, ?_, hmv⟩⟩
  have hbe : (s.v b).e = true := by
   rcases hk with ⟨_, e2⟩ | ⟨e2, _⟩
   ·rw [e2] at hvb; exact hvb.2
   ·rw [e1] at e2; cases e2
  rw [e1] at hva
  simp only [Tv, TvT] at hva
  show max m (k + g) ≤ (frK s (s.v a) (s.v b) g).frame
  unfold frK
  rw [if_pos hbe]
  show max m (k + g) ≤ max s.frame ((s.v a).pl + g)
  have := h.f
  omega
 ·cases hr
def relsOf (op : Nat) : Option ((KS → Nat → Nat → KS) × (KS → Nat → Nat → KS)) := match op with
 | 31 => some (notEqualK, equalK) | 32 => some (equalK, notEqualK) | 33 => some (notGreaterK, greaterK) | 34 => some (lessK, notLessK) | 35 => some (notLessK, lessK) | 36 => some (greaterK, notGreaterK)
 | 159 => some (notEqualK, equalK) | 160 => some (equalK, notEqualK) | 161 => some (notGreaterK, greaterK) | 162 => some (lessK, notLessK) | 163 => some (notLessK, lessK) | 164 => some (greaterK, notGreaterK)
 | _ => none
def RelT (f : KS → Nat → Nat → KS) (Γ : Nat → Hd) (m : Int) (mv : Bool) (a b : Nat) : Prop := ∀ s, TS Γ m mv s → ((s.v a).kind = 1 ∧ (s.v b).kind = 1 ∨ (∃ k, a < 8 ∧ b < 8 ∧ ((Γ a = .first k ∧ Γ b = .fin) ∨ (Γ a = .fin ∧ Γ b = .first k)))) → (f s a b).reached = true → TS Γ m mv (f s a b)
theorem ap_any {s : KS} {a b : Nat} {g : Int} {Γ : Nat → Hd} {m : Int} {mv : Bool} (h : TS Γ m mv s) (hk : (s.v a).kind = 1 ∧ (s.v b).kind = 1 ∨ (∃ k, a < 8 ∧ b < 8 ∧ ((Γ a = .first k ∧ Γ b = .fin) ∨ (Γ a = .fin ∧ Γ b = .first k)))) (hr : (apartByK s a b g).reached = true) :
  TS Γ m mv (apartByK s a b g) ∧ (((apartByK s a b g).v a).kind = 1 ∧ ((apartByK s a b g).v b).kind = 1 ∨ (∃ k, a < 8 ∧ b < 8 ∧ ((Γ a = .first k ∧ Γ b = .fin) ∨ (Γ a = .fin ∧ Γ b = .first k)))) := by
 rcases hk with ⟨ka, kb⟩ | ⟨k, ha, hb, hk⟩
 ·have := ap_num ka kb h hr; exact ⟨this.1, .inl this.2⟩
 ·exact ⟨(ap_ff ha hb hk h hr).1, .inr ⟨k, ha, hb, hk⟩⟩
theorem relT_ng {Γ : Nat → Hd} {m : Int} {mv : Bool} (a b : Nat) : RelT notGreaterK Γ m mv a b := fun _ h hk hr => (ap_any h hk hr).1
theorem relT_less {Γ : Nat → Hd} {m : Int} {mv : Bool} (a b : Nat) : RelT lessK Γ m mv a b := fun _ h hk hr => (ap_any h hk hr).1
theorem swapK {s : KS} {a b : Nat} {Γ : Nat → Hd} (hk : (s.v a).kind = 1 ∧ (s.v b).kind = 1 ∨ (∃ k, a < 8 ∧ b < 8 ∧ ((Γ a = .first k ∧ Γ b = .fin) ∨ (Γ a = .fin ∧ Γ b = .first k)))) : (s.v b).kind = 1 ∧ (s.v a).kind = 1 ∨ (∃ k, b < 8 ∧ a < 8 ∧ ((Γ b = .first k ∧ Γ a = .fin) ∨ (Γ b = .fin ∧ Γ a = .first k))) := by
 rcases hk with ⟨h1, h2⟩ | ⟨k, h1, h2, ⟨h3, h4⟩ | ⟨h3, h4⟩⟩
 ·exact .inl ⟨h2, h1⟩
 ·exact .inr ⟨k, h2, h1, .inr ⟨h4, h3⟩⟩
 ·exact .inr ⟨k, h2, h1, .inl ⟨h4, h3⟩⟩
theorem relT_gt {Γ : Nat → Hd} {m : Int} {mv : Bool} (a b : Nat) : RelT greaterK Γ m mv a b := fun _ h hk hr => (ap_any h (swapK hk) hr).1
theorem relT_nl {Γ : Nat → Hd} {m : Int} {mv : Bool} (a b : Nat) : RelT notLessK Γ m mv a b := fun _ h hk hr => (ap_any h (swapK hk) hr).1
theorem relT_ne {Γ : Nat → Hd} {m : Int} {mv : Bool} (a b : Nat) : RelT notEqualK Γ m mv a b := fun _ h _ _ => h
theorem relT_eq {Γ : Nat → Hd} {m : Int} {mv : Bool} (a b : Nat) : RelT equalK Γ m mv a b := fun s h hk hr => by
 have h1 : (notGreaterK s a b).reached = true := ap_reached hr
 have h2 := ap_any (s := s) (a := a) (b := b) (g := 0) h hk h1
 exact relT_nl a b _ h2.1 h2.2 hr
def cmpT (x : PI) (Γ : Nat → Hd) : Prop := num2 x Γ ∨ (x.op < 128 ∧ x.c < 8 ∧ ∃ k, (Γ x.d = .first k ∧ Γ x.c = .fin) ∨ (Γ x.d = .fin ∧ Γ x.c = .first k))
theorem ty_cmp {x : PI} {Γ : Nat → Hd} {m : Int} {mv : Bool} {s : KS} {i : Int} (ho : (31 ≤ x.op ∧ x.op ≤ 36) ∨ (159 ≤ x.op ∧ x.op ≤ 164)) (hd : x.d < 8) (hc : cmpT x Γ) (h : TS Γ m mv s) :
  ∃ a b, lookK x (s.ahead i x.n) = some (a, b) ∧ (a.reached = true → TS Γ m mv a) ∧ (b.reached = true → TS Γ m mv b) ∧
   (∀ k, x.op = 33 → Γ x.d = .first k → Γ x.c = .fin → a.reached = true → TS Γ (max m k) mv a) := by
 have ha := h.ahead i x.n
 have hkk : (((s.ahead i x.n).v x.d).kind = 1 ∧ ((s.ahead i x.n).v x.r).kind = 1) ∨ (∃ k, x.d < 8 ∧ x.r < 8 ∧ ((Γ x.d = .first k ∧ Γ x.r = .fin) ∨ (Γ x.d = .fin ∧ Γ x.r = .first k))) := by
  rcases hc with h2 | ⟨h1, h2, k, h3⟩
  ·exact .inl (num2_kind (i := i) hd h2 h)
  ·rw [r_reg h1]; exact .inr ⟨k, hd, h2, h3⟩
 have hkind : ((s.ahead i x.n).v x.d).kind ≠ 0 ∧ ((s.ahead i x.n).v x.r).kind ≠ 0 ∧ ((s.ahead i x.n).v x.d).kind = ((s.ahead i x.n).v x.r).kind := by
  rcases hkk with ⟨h1, h2⟩ | ⟨k, h1, h2, h3⟩
  ·omega
  ·have va := ha.v _ h1
   have vb := ha.v _ h2
   rcases h3 with ⟨e1, e2⟩ | ⟨e1, e2⟩ <;> rw [e1] at va <;> rw [e2] at vb <;> simp only [Tv, TvT] at va vb <;> omega
 have e : ∃ P J, relsOf x.op = some (P, J) ∧ lookK x (s.ahead i x.n) = cmpO P J x (s.ahead i x.n) ∧ RelT P Γ m mv x.d x.r ∧ RelT J Γ m mv x.d x.r := by
  obtain ⟨op, d, c, of, n⟩ := x
  dsimp only at ho
  rcases (show op = 31 ∨ op = 32 ∨ op = 33 ∨ op = 34 ∨ op = 35 ∨ op = 36 ∨ op = 159 ∨ op = 160 ∨ op = 161 ∨ op = 162 ∨ op = 163 ∨ op = 164 from by omega) with rfl | rfl | rfl | rfl | rfl | rfl | rfl | rfl | rfl | rfl | rfl | rfl
  all_goals exact ⟨_, _, rfl, rfl, by first | exact relT_ng _ _ | exact relT_less _ _ | exact relT_gt _ _ | exact relT_nl _ _ | exact relT_ne _ _ | exact relT_eq _ _, by first | exact relT_ng _ _ | exact relT_less _ _ | exact relT_gt _ _ | exact relT_nl _ _ | exact relT_ne _ _ | exact relT_eq _ _⟩
 obtain ⟨P, J, e0, e1, hP, hJ⟩ := e
 refine ⟨P (s.ahead i x.n) x.d x.r, J (s.ahead i x.n) x.d x.r, ?_, hP _ ha hkk, hJ _ ha hkk, fun k h33 hf hfin hr => ?_⟩
 ·rw [e1, cmpO, cmpL, if_pos hkind]
 ·rw [h33] at e0
  cases e0
  have hxr : x.r = x.c := r_reg (by omega)
  rcases hkk with ⟨h1, _⟩ | ⟨k', h1, h2, h3⟩
  ·have va := ha.v _ hd
   rw [hf] at va; simp only [Tv, TvT] at va; omega
  ·rw [hxr] at hr h2 h3 ⊢
   have := (ap_ff (s := s.ahead i x.n) (g := 0) h1 h2 (.inl ⟨hf, hfin⟩) ha hr).2 hf
   rw [Int.add_zero] at this
   exact this
def Γ0 : Nat → Hd := fun r => if r = 1 then .first 0 else if r = 2 then .fin else if r = 7 then .deep 0 else .any
theorem ts_start : TS Γ0 0 false KS.start := by
 refine ⟨fun r hr => ?_, Int.le_refl _, fun h => by cases h⟩
 have e : KS.start.v r = if r = 7 then stackV else if r = 2 then endV else if r = 1 then firstV else kNone := rfl
 rw [e]
 unfold Γ0
 by_cases h1 : r = 1
 ·subst h1; exact ⟨rfl, rfl, rfl⟩
 by_cases h2 : r = 2
 ·subst h2; exact ⟨rfl, rfl⟩
 by_cases h7 : r = 7
 ·subst h7; exact ⟨rfl, rfl, rfl⟩
 rw [if_neg h1, if_neg h2, if_neg h7]; trivial
end Go.Proofs.YtoobileejdhikaaGreat
