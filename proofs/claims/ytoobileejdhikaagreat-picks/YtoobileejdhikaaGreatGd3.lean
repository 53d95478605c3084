/-
  Code that keeps to kinds is let in: what is known of registers by kinds, and that the look gives up nowhere.
  Code that is put together of instructions: what the program takes it apart to; its shape.
  A list of frames, as it came in.
-/
import Derived.Test.YtoobileejdhikaaGreatGb7
import Derived.Test.YtoobileejdhikaaGreatGd0
namespace Go.Proofs.YtoobileejdhikaaGreat
open Go.RowKit

/-- A kind: anything; a number; the frame's first place plus k; a stack place k; the end. -/
structure Hd where
  t : Nat
  k : Int
abbrev Hd.any : Hd := ⟨0, 0⟩
abbrev Hd.num : Hd := ⟨1, 0⟩
abbrev Hd.first (k : Int) : Hd := ⟨2, k⟩
abbrev Hd.deep (k : Int) : Hd := ⟨3, k⟩
abbrev Hd.fin : Hd := ⟨4, 0⟩
def TvT (t : Nat) (k : Int) (v : KV) : Prop := match t with
  | 1 => v.kind = 1
  | 2 => v.kind = 2 ∧ v.pl = k ∧ v.pm = k
  | 3 => v.kind = 3 ∧ v.pl = k ∧ v.pm = k
  | 4 => v.kind = 2 ∧ v.e = true
  | _ => True
abbrev Tv (h : Hd) (v : KV) : Prop := TvT h.t h.k v
theorem Hd.five (t : Nat) : t = 1 ∨ t = 2 ∨ t = 3 ∨ t = 4 ∨ (∀ k v, TvT t k v) := by
  by_cases h : t = 1 ∨ t = 2 ∨ t = 3 ∨ t = 4
  · omega
  · refine Or.inr (Or.inr (Or.inr (Or.inr (fun k v => ?_))))
    unfold TvT; split <;> first | omega | trivial
/-- What a kind is behind a call that moves the frame. -/
def Hd.past (h : Hd) : Hd := if h.t = 1 then .num else if h.t = 3 then .deep h.k else .any
theorem Tv.or {h : Hd} {a b : KV} (ha : Tv h a) (hb : Tv h b) : Tv h (a.or b) := by
  obtain ⟨t, k⟩ := h
  rcases Hd.five t with rfl | rfl | rfl | rfl | e
  · replace ha : a.kind = 1 := ha; replace hb : b.kind = 1 := hb; show (a.or b).kind = 1; rw [KV.or, if_pos (ha.trans hb.symm)]; exact ha
  · replace ha : a.kind = 2 ∧ a.pl = k ∧ a.pm = k := ha
    replace hb : b.kind = 2 ∧ b.pl = k ∧ b.pm = k := hb
    show (a.or b).kind = 2 ∧ (a.or b).pl = k ∧ (a.or b).pm = k
    rw [KV.or, if_pos (ha.1.trans hb.1.symm)]
    refine ⟨ha.1, ?_, ?_⟩
    · show min a.pl b.pl = k; rw [ha.2.1, hb.2.1]; omega
    · show max a.pm b.pm = k; rw [ha.2.2, hb.2.2]; omega
  · replace ha : a.kind = 3 ∧ a.pl = k ∧ a.pm = k := ha
    replace hb : b.kind = 3 ∧ b.pl = k ∧ b.pm = k := hb
    show (a.or b).kind = 3 ∧ (a.or b).pl = k ∧ (a.or b).pm = k
    rw [KV.or, if_pos (ha.1.trans hb.1.symm)]
    refine ⟨ha.1, ?_, ?_⟩
    · show min a.pl b.pl = k; rw [ha.2.1, hb.2.1]; omega
    · show max a.pm b.pm = k; rw [ha.2.2, hb.2.2]; omega
  · replace ha : a.kind = 2 ∧ a.e = true := ha
    replace hb : b.kind = 2 ∧ b.e = true := hb
    show (a.or b).kind = 2 ∧ (a.or b).e = true
    rw [KV.or, if_pos (ha.1.trans hb.1.symm)]
    refine ⟨ha.1, ?_⟩
    show (a.e && b.e) = true
    rw [ha.2, hb.2]; rfl
  · exact e _ _
/-- The registers are of these kinds; the frame has at least m bytes; register 0 is a verdict, if mv. -/
structure TS (Γ : Nat → Hd) (m : Int) (mv : Bool) (s : KS) : Prop where
  v : ∀ r, r < 8 → Tv (Γ r) (s.v r)
  f : m ≤ s.frame
  m : mv = true → (s.v 0).kind = 1 ∧ (s.v 0).nm ≤ 3
theorem TS.or {Γ : Nat → Hd} {m : Int} {mv : Bool} {s t : KS} (hr : s.reached = true) (hs : TS Γ m mv s) (ht : TS Γ m mv t) : TS Γ m mv (s.or t) := by
  rw [KS.or, if_pos hr]
  have e : ∀ r, r < 9 → (orV s t 9).v r = (s.v r).or (t.v r) := fun r h => by show (if r < 9 then _ else _) = _; rw [if_pos h]
  refine ⟨fun r h => ?_, ?_, fun h => ?_⟩
  · show Tv (Γ r) ((orV s t 9).v r); rw [e r (by omega)]; exact (hs.v r h).or (ht.v r h)
  · show m ≤ min s.frame t.frame; have := hs.f; have := ht.f; omega
  · show ((orV s t 9).v 0).kind = 1 ∧ ((orV s t 9).v 0).nm ≤ 3
    rw [e 0 (by omega)]
    have h1 := hs.m h
    have h2 := ht.m h
    rw [KV.or, if_pos (h1.1.trans h2.1.symm)]
    exact ⟨h1.1, by show max (s.v 0).nm (t.v 0).nm ≤ 3; omega⟩
theorem TS.weak {Γ Δ : Nat → Hd} {m m' : Int} {mv mv' : Bool} {s : KS} (h : TS Γ m mv s) (h1 : ∀ r, r < 8 → Δ r = .any ∨ Δ r = Γ r) (h2 : m' ≤ m) (h3 : mv' = true → mv = true) : TS Δ m' mv' s :=
  ⟨fun r hr => by rcases h1 r hr with e | e <;> rw [e]; exact trivial; exact h.v r hr, Int.le_trans h2 h.f, fun hm => h.m (h3 hm)⟩
def upd (Γ : Nat → Hd) (d : Nat) (h : Hd) : Nat → Hd := fun r => if r = d then h else Γ r
theorem TS.ahead {Γ : Nat → Hd} {m : Int} {mv : Bool} {s : KS} (h : TS Γ m mv s) (i n : Int) : TS Γ m mv (s.ahead i n) := by
  have e : ∀ r, r < 8 → (s.ahead i n).v r = s.v r := fun r hr => by show (if r = 8 then _ else _) = _; rw [if_neg (by omega)]; rfl
  exact ⟨fun r hr => by rw [e r hr]; exact h.v r hr, h.f, fun hm => by rw [e 0 (by omega)]; exact h.m hm⟩
theorem TS.set {Γ : Nat → Hd} {m : Int} {mv : Bool} {s : KS} (h : TS Γ m mv s) (d : Nat) {k : Hd} {v : KV} (hv : Tv k v) {mv' : Bool} (hm : mv' = true → if d = 0 then v.kind = 1 ∧ v.nm ≤ 3 else mv = true) : TS (upd Γ d k) m mv' (s.set d v) := by
  refine ⟨fun r hr => ?_, h.f, fun h' => ?_⟩
  · show Tv (if r = d then k else Γ r) (if r = d then v else s.v r)
    split
    · exact hv
    · exact h.v r hr
  · show ((if 0 = d then v else s.v 0) : KV).kind = 1 ∧ ((if 0 = d then v else s.v 0) : KV).nm ≤ 3
    have := hm h'
    by_cases e : d = 0
    · subst e; rw [if_pos rfl] at this; rw [if_pos rfl]; exact this
    · rw [if_neg e] at this; rw [if_neg (Ne.symm e)]; exact h.m this

/-- If a condition holds at the first, is handed on by each look, and by two ways that meet, code is let in. -/
theorem safe_of (I : Nat → PI) (n : Nat) (P : Nat → KS → Prop) (h0 : P 0 KS.start) (hor : ∀ i s t, s.reached = true → P i s → P i t → P i (s.or t))
    (hstep : ∀ i s, i < n → s.reached = true → P i s → ∃ a b, lookK (I i) (s.ahead i (I i).n) = some (a, b) ∧ (a.reached = true → P (i + 1) a) ∧ (b.reached = true → P (i + 1 + (I i).of.toNat) b)) : safeP I n = none := by
  have meet : ∀ (st : Nat → KS) (q : Nat) (s : KS), (∀ j, (st j).reached = true → P j (st j)) → (s.reached = true → P q s) → ∀ j, (meetK st q s j).reached = true → P j (meetK st q s j) := fun st q s hst hs j hj => by
    unfold meetK at hj ⊢
    cases hr : s.reached
    · rw [hr] at hj; exact hst j hj
    · rw [hr] at hj
      simp only [if_true] at hj ⊢
      by_cases e : j = q
      · subst e
        rw [if_pos rfl] at hj ⊢
        cases hq : (st j).reached
        · have e2 : (st j).or s = s := by rw [KS.or, hq]; rfl
          rw [e2]; exact hs hr
        · exact hor j _ _ hq (hst j hq) (hs hr)
      · rw [if_neg e] at hj ⊢; exact hst j hj
  have go : ∀ (m i : Nat) (st : Nat → KS), i + m = n → (∀ j, (st j).reached = true → P j (st j)) → safeR I m i st = none := by
    intro m
    induction m with
    | zero => intro i st _ _; rfl
    | succ m ih =>
      intro i st hi hst
      cases hr : (st i).reached
      · rw [safeR_skip hr]; exact ih (i + 1) st (by omega) hst
      · obtain ⟨a, b, hl, ha, hb⟩ := hstep i (st i) (by omega) hr (hst i hr)
        rw [safeR_some hr hl]
        exact ih (i + 1) _ (by omega) (meet _ _ _ (meet _ _ _ hst ha) hb)
  refine go n 0 st0 (by omega) (fun j hj => ?_)
  unfold st0 at hj ⊢
  by_cases e : j = 0
  · subst e; rw [if_pos rfl]; exact h0
  · rw [if_neg e] at hj; cases hj

/-- A look that goes on to the next instruction alone. -/
def Next (x : PI) (s : KS) (Q : KS → Prop) : Prop := ∃ a, lookK x s = some (a, KS.zero) ∧ Q a
theorem kn0 (l m : Int) : (numV l m).kind ≠ 0 := by show (1 : Int) ≠ 0; decide
theorem s8 (s : KS) (i n : Int) : (s.ahead i n).v 8 = numV (numW n) (numW n) := rfl
theorem r_imm {x : PI} (h : 128 ≤ x.op) : x.r = 8 := by unfold PI.r secR; rw [if_pos (by omega)]
theorem r_reg {x : PI} (h : x.op < 128) : x.r = x.c := by unfold PI.r secR; rw [if_neg (by omega)]
theorem numW_small {n : Int} (h0 : 0 ≤ n) (h1 : n ≤ 3) : numW n = n := by rw [numW_bd]; omega

theorem ty_movI {x : PI} {Γ : Nat → Hd} {m : Int} {mv : Bool} {s : KS} {i : Int} (ho : x.op = 129) (h : TS Γ m mv s) :
    Next x (s.ahead i x.n) (TS (upd Γ x.d .num) m (if x.d = 0 then decide (0 ≤ x.n) && decide (x.n ≤ 3) else mv)) := by
  have e : lookK x (s.ahead i x.n) = movL (s.ahead i x.n) x.d x.r := by obtain ⟨op, d, c, of, n⟩ := x; cases ho; rfl
  rw [Next, e, r_imm (by omega), movL, s8, if_neg (kn0 _ _)]
  refine ⟨_, rfl, (h.ahead i x.n).set x.d (k := .num) (v := numV (numW x.n) (numW x.n)) rfl (fun hm => ?_)⟩
  by_cases e : x.d = 0
  · rw [if_pos e] at hm ⊢
    simp only [Bool.and_eq_true, decide_eq_true_eq] at hm
    exact ⟨rfl, by show numW x.n ≤ 3; rw [numW_small hm.1 hm.2]; exact hm.2⟩
  · rw [if_neg e] at hm ⊢; exact hm
theorem Tv.some {h : Hd} {v : KV} (hn : 1 ≤ h.t ∧ h.t ≤ 4) (hv : Tv h v) : v.kind ≠ 0 := by
  obtain ⟨t, k⟩ := h
  rcases (show t = 1 ∨ t = 2 ∨ t = 3 ∨ t = 4 from by have q1 : 1 ≤ t := hn.1; have q2 : t ≤ 4 := hn.2; omega) with rfl | rfl | rfl | rfl
  · have q : v.kind = 1 := hv; omega
  · have q : v.kind = 2 := hv.1; omega
  · have q : v.kind = 3 := hv.1; omega
  · have q : v.kind = 2 := hv.1; omega
theorem ty_movR {x : PI} {Γ : Nat → Hd} {m : Int} {mv : Bool} {s : KS} {i : Int} (ho : x.op = 1) (hc : x.c < 8) (hk : 1 ≤ (Γ x.c).t ∧ (Γ x.c).t ≤ 4) (h : TS Γ m mv s) :
    Next x (s.ahead i x.n) (TS (upd Γ x.d (Γ x.c)) m (if x.d = 0 then false else mv)) := by
  have e : lookK x (s.ahead i x.n) = movL (s.ahead i x.n) x.d x.r := by obtain ⟨op, d, c, of, n⟩ := x; cases ho; rfl
  have ha := h.ahead i x.n
  rw [Next, e, r_reg (by omega), movL, if_neg (Tv.some hk (ha.v _ hc))]
  refine ⟨_, rfl, ha.set x.d (ha.v _ hc) (fun hm => ?_)⟩
  by_cases e : x.d = 0
  · rw [if_pos e] at hm; cases hm
  · rw [if_neg e] at hm ⊢; exact hm
/-- A place and NUM. -/
theorem wrap_num {n : Int} (h1 : -2147483648 ≤ n) (h2 : n ≤ 2147483647) : wrap64 (numW n) = n := by rw [numW_bd, wrap64]; omega
theorem steps_num {n : Int} (h1 : -2000 ≤ n) (h2 : n ≤ 2000) : stepsOk (numV (numW n) (numW n)) := by
  have e := wrap_num (n := n) (by omega) (by omega)
  refine ⟨?_, ?_, ?_⟩ <;> (show _ ≤ _; simp only [numV]; rw [e]; omega)
/-- Places by name. -/
def plH (d : Bool) (k : Int) : Hd := if d then .deep k else .first k
theorem plH_kind {d : Bool} {k : Int} {v : KV} (h : Tv (plH d k) v) : v.kind = (if d then 3 else 2) ∧ v.pl = k ∧ v.pm = k := by
  cases d <;> exact h
theorem ty_addI {x : PI} {Γ : Nat → Hd} {m : Int} {mv : Bool} {s : KS} {i : Int} (ho : x.op = 130) (hd : x.d < 8) {dp : Bool} {k : Int} (hk : Γ x.d = plH dp k) (k1 : -1000 ≤ k) (k2 : k ≤ 1000) (h1 : -1000 ≤ k + x.n) (h2 : k + x.n ≤ 1000) (h : TS Γ m mv s) :
    Next x (s.ahead i x.n) (TS (upd Γ x.d (plH dp (k + x.n))) m (if x.d = 0 then false else mv)) := by
  have e : lookK x (s.ahead i x.n) = addL (s.ahead i x.n) x.d x.r := by obtain ⟨op, d, c, of, n⟩ := x; cases ho; rfl
  have ha := h.ahead i x.n
  have hv := ha.v x.d hd
  rw [hk] at hv
  have hp := plH_kind hv
  have hw := wrap_num (n := x.n) (by omega) (by omega)
  have e2 : sumO ((s.ahead i x.n).v x.d) (numV (numW x.n) (numW x.n)) = some ⟨if dp then 3 else 2, 0, 0, k + x.n, k + x.n, false⟩ := by
    have hk0 : ((s.ahead i x.n).v x.d).kind ≠ 0 ∧ ((s.ahead i x.n).v x.d).kind ≠ 1 := by rw [hp.1]; cases dp <;> decide
    rw [sumO, if_neg (by intro h; rcases h with h | h; exact hk0.1 h; exact absurd h (kn0 _ _)), sumK, if_neg hk0.2, if_pos (show (numV (numW x.n) (numW x.n)).kind = 1 from rfl), if_pos (steps_num (by omega) (by omega)), movedK]
    simp only [numV, hw, hp]
    rw [if_pos ⟨h1, h2⟩]
  rw [Next, e, r_imm (by omega), addL, s8, e2]
  refine ⟨_, rfl, ha.set x.d (k := plH dp (k + x.n)) (by cases dp <;> exact ⟨rfl, rfl, rfl⟩) (fun hm => ?_)⟩
  by_cases e : x.d = 0
  · rw [if_pos e] at hm; cases hm
  · rw [if_neg e] at hm ⊢; exact hm
theorem ty_subI {x : PI} {Γ : Nat → Hd} {m : Int} {mv : Bool} {s : KS} {i : Int} (ho : x.op = 131) (hd : x.d < 8) {dp : Bool} {k : Int} (hk : Γ x.d = plH dp k) (k1 : -1000 ≤ k) (k2 : k ≤ 1000) (h1 : -1000 ≤ k - x.n) (h2 : k - x.n ≤ 1000) (h : TS Γ m mv s) :
    Next x (s.ahead i x.n) (TS (upd Γ x.d (plH dp (k - x.n))) m (if x.d = 0 then false else mv)) := by
  have e : lookK x (s.ahead i x.n) = subL (s.ahead i x.n) x.d x.r := by obtain ⟨op, d, c, of, n⟩ := x; cases ho; rfl
  have ha := h.ahead i x.n
  have hv := ha.v x.d hd
  rw [hk] at hv
  have hp := plH_kind hv
  have hw := wrap_num (n := x.n) (by omega) (by omega)
  have e2 : diffO ((s.ahead i x.n).v x.d) (numV (numW x.n) (numW x.n)) = some ⟨if dp then 3 else 2, 0, 0, k - x.n, k - x.n, false⟩ := by
    have hk0 : ((s.ahead i x.n).v x.d).kind ≠ 0 ∧ ((s.ahead i x.n).v x.d).kind ≠ 1 := by rw [hp.1]; cases dp <;> decide
    rw [diffO, if_neg (by intro h; rcases h with h | h; exact hk0.1 h; exact absurd h (kn0 _ _)), differenceK, if_pos (show (numV (numW x.n) (numW x.n)).kind = 1 from rfl), if_neg hk0.2, if_pos (steps_num (by omega) (by omega)), movedK]
    simp only [numV, hw, hp]
    rw [if_pos (by omega)]
    simp only [Int.sub_eq_add_neg]
  rw [Next, e, r_imm (by omega), subL, s8, e2]
  refine ⟨_, rfl, ha.set x.d (k := plH dp (k - x.n)) (by cases dp <;> exact ⟨rfl, rfl, rfl⟩) (fun hm => ?_)⟩
  by_cases e : x.d = 0
  · rw [if_pos e] at hm; cases hm
  · rw [if_neg e] at hm ⊢; exact hm

theorem TS.setNum {Γ : Nat → Hd} {m : Int} {mv : Bool} {s : KS} (h : TS Γ m mv s) (d : Nat) (l u : Int) : TS (upd Γ d .num) m (if d = 0 then false else mv) (s.set d (numV l u)) :=
  h.set d (k := .num) (v := numV l u) rfl (fun hm => by
    by_cases e : d = 0
    · rw [if_pos e] at hm; cases hm
    · rw [if_neg e] at hm ⊢; exact hm)
/-- Two numbers, or a number and NUM. -/
def num2 (x : PI) (Γ : Nat → Hd) : Prop := Γ x.d = .num ∧ (128 ≤ x.op ∨ (x.c < 8 ∧ Γ x.c = .num))
theorem num2_kind {x : PI} {Γ : Nat → Hd} {m : Int} {mv : Bool} {s : KS} {i : Int} (hd : x.d < 8) (h2 : num2 x Γ) (h : TS Γ m mv s) : ((s.ahead i x.n).v x.d).kind = 1 ∧ ((s.ahead i x.n).v x.r).kind = 1 := by
  have ha := h.ahead i x.n
  have hv := ha.v x.d hd
  rw [h2.1] at hv
  refine ⟨hv, ?_⟩
  by_cases hi : 128 ≤ x.op
  · rw [r_imm hi, s8]; rfl
  · rcases h2.2 with h3 | ⟨h3, h4⟩
    · exact absurd h3 hi
    · rw [r_reg (by omega)]
      have := ha.v x.c h3
      rw [h4] at this; exact this
theorem ty_num {x : PI} {Γ : Nat → Hd} {m : Int} {mv : Bool} {s : KS} {i : Int} (ho : (2 ≤ x.op ∧ x.op ≤ 11) ∨ (130 ≤ x.op ∧ x.op ≤ 139)) (hd : x.d < 8) (h2 : num2 x Γ) (h : TS Γ m mv s) :
    Next x (s.ahead i x.n) (TS (upd Γ x.d .num) m (if x.d = 0 then false else mv)) := by
  obtain ⟨k1, k2⟩ := num2_kind (i := i) hd h2 h
  have ha := h.ahead i x.n
  have hN : ∀ l u, numL (s.ahead i x.n) x.d x.r l u = some ((s.ahead i x.n).set x.d (numV l u), KS.zero) := fun l u => if_pos ⟨k1, k2⟩
  have hA : ∃ l u, addL (s.ahead i x.n) x.d x.r = some ((s.ahead i x.n).set x.d (numV l u), KS.zero) := by
    refine ⟨(numAdd ((s.ahead i x.n).v x.d) ((s.ahead i x.n).v x.r)).nl, (numAdd ((s.ahead i x.n).v x.d) ((s.ahead i x.n).v x.r)).nm, ?_⟩
    rw [addL, sumO, if_neg (by omega), sumK, if_pos k1, if_pos k2]; rfl
  have hS : ∃ l u, subL (s.ahead i x.n) x.d x.r = some ((s.ahead i x.n).set x.d (numV l u), KS.zero) := by
    refine ⟨(numSub ((s.ahead i x.n).v x.d) ((s.ahead i x.n).v x.r)).nl, (numSub ((s.ahead i x.n).v x.d) ((s.ahead i x.n).v x.r)).nm, ?_⟩
    rw [subL, diffO, if_neg (by omega), differenceK, if_pos k2, if_pos k1]; rfl
  have key : ∃ l u, lookK x (s.ahead i x.n) = some ((s.ahead i x.n).set x.d (numV l u), KS.zero) := by
    obtain ⟨op, d, c, of, n⟩ := x
    dsimp only at ho
    rcases (show op = 2 ∨ op = 3 ∨ op = 4 ∨ op = 5 ∨ op = 6 ∨ op = 7 ∨ op = 8 ∨ op = 9 ∨ op = 10 ∨ op = 11 ∨ op = 130 ∨ op = 131 ∨ op = 132 ∨ op = 133 ∨ op = 134 ∨ op = 135 ∨ op = 136 ∨ op = 137 ∨ op = 138 ∨ op = 139 from by omega) with rfl | rfl | rfl | rfl | rfl | rfl | rfl | rfl | rfl | rfl | rfl | rfl | rfl | rfl | rfl | rfl | rfl | rfl | rfl | rfl
    all_goals first | exact hA | exact hS | exact ⟨_, _, hN _ _⟩
  obtain ⟨l, u, e⟩ := key
  exact ⟨_, e, ha.setNum x.d l u⟩
/-- Bytes that lie where they may. -/
def rch (h : Hd) (m of : Int) (z : Nat) : Prop := (∃ k, h = .first k ∧ 0 ≤ k + of ∧ k + of + z ≤ m) ∨ (∃ k, h = .deep k ∧ -32 ≤ k + of ∧ k + of + z ≤ 0)
theorem rch_ok {h : Hd} {m of : Int} {z : Nat} {v : KV} {fr : Int} (hr : rch h m of z) (hv : Tv h v) (hf : m ≤ fr) : v.kind ≠ 0 ∧ reachB v fr of z = true := by
  rcases hr with ⟨k, rfl, h1, h2⟩ | ⟨k, rfl, h1, h2⟩
  · simp only [Tv, TvT] at hv
    refine ⟨by omega, ?_⟩
    simp only [reachB, hv, Bool.or_eq_true, Bool.and_eq_true, decide_eq_true_eq, beq_iff_eq]
    exact .inl ⟨⟨trivial, h1⟩, by omega⟩
  · simp only [Tv, TvT] at hv
    refine ⟨by omega, ?_⟩
    simp only [reachB, hv, Bool.or_eq_true, Bool.and_eq_true, decide_eq_true_eq, beq_iff_eq]
    exact .inr ⟨⟨trivial, h1⟩, by omega⟩
def szOf (op : Nat) : Nat := match op with
  | 20 => 1 | 21 => 2 | 22 => 4 | 24 => 1 | 25 => 2 | 26 => 4 | _ => 8
theorem ty_load {x : PI} {Γ : Nat → Hd} {m : Int} {mv : Bool} {s : KS} {i : Int} (ho : 20 ≤ x.op ∧ x.op ≤ 23) (hc : x.c < 8) (hr : rch (Γ x.c) m x.of (szOf x.op)) (h : TS Γ m mv s) :
    Next x (s.ahead i x.n) (TS (upd Γ x.d .num) m (if x.d = 0 then false else mv)) := by
  have ha := h.ahead i x.n
  have hR := rch_ok hr (ha.v x.c hc) ha.f
  have e : lookK x (s.ahead i x.n) = loadL (s.ahead i x.n) x.d x.c x.of (szOf x.op) := by
    obtain ⟨op, d, c, of, n⟩ := x
    dsimp only at ho
    rcases (show op = 20 ∨ op = 21 ∨ op = 22 ∨ op = 23 from by omega) with rfl | rfl | rfl | rfl <;> rfl
  rw [Next, e, loadL, if_pos hR]
  exact ⟨_, rfl, ha.setNum x.d _ _⟩
theorem ty_store {x : PI} {Γ : Nat → Hd} {m : Int} {mv : Bool} {s : KS} {i : Int} (ho : 24 ≤ x.op ∧ x.op ≤ 27) (hd : x.d < 8) (hc : x.c < 8) (hk : Γ x.c = .num) (hr : rch (Γ x.d) m x.of (szOf x.op)) (h : TS Γ m mv s) :
    Next x (s.ahead i x.n) (TS Γ m mv) := by
  have ha := h.ahead i x.n
  have hR := rch_ok hr (ha.v x.d hd) ha.f
  have hv := ha.v x.c hc
  rw [hk] at hv
  simp only [Tv, TvT] at hv
  have e : lookK x (s.ahead i x.n) = storeL (s.ahead i x.n) x.d x.c x.of (szOf x.op) := by
    obtain ⟨op, d, c, of, n⟩ := x
    dsimp only at ho
    rcases (show op = 24 ∨ op = 25 ∨ op = 26 ∨ op = 27 from by omega) with rfl | rfl | rfl | rfl <;> rfl
  rw [Next, e, storeL, if_pos hR, if_pos hv]
  exact ⟨_, rfl, ha⟩
theorem ty_call1 {x : PI} {Γ : Nat → Hd} {m : Int} {mv : Bool} {s : KS} {i : Int} (ho : x.op = 40) (hn : x.n = 1) (hk : Γ 1 = .num) (h : TS Γ m mv s) :
    Next x (s.ahead i x.n) (TS (fun r => if r = 0 then .num else if 1 ≤ r ∧ r ≤ 3 then .any else (Γ r).past) 0 false) := by
  have ha := h.ahead i x.n
  have hv := ha.v 1 (by omega)
  rw [hk] at hv
  simp only [Tv, TvT] at hv
  have e : lookK x (s.ahead i x.n) = callL (s.ahead i x.n) x.n := by obtain ⟨op, d, c, of, n⟩ := x; cases ho; rfl
  rw [Next, e, callL, if_neg (by omega), if_neg (by omega), if_pos hv]
  refine ⟨_, rfl, ⟨fun r hr => ?_, Int.le_refl _, fun h => by cases h⟩⟩
  have e2 : (shrinkK (s.ahead i x.n)).v r = if r = 0 then numV 0 1 else if r < 9 ∧ shrC (s.ahead i x.n) r then kNone else (s.ahead i x.n).v r := rfl
  rw [e2]
  by_cases h0 : r = 0
  · rw [if_pos h0, if_pos h0]; exact rfl
  rw [if_neg h0, if_neg h0]
  by_cases h1 : 1 ≤ r ∧ r ≤ 3
  · rw [if_pos h1]; trivial
  rw [if_neg h1]
  have hvr := ha.v r hr
  unfold Hd.past
  by_cases t1 : (Γ r).t = 1
  · rw [if_pos t1]
    have hv1 : ((s.ahead i x.n).v r).kind = 1 := by have q := hvr; unfold Tv at q; rw [t1] at q; exact q
    rw [if_neg (by unfold shrC; omega)]; exact hv1
  rw [if_neg t1]
  by_cases t3 : (Γ r).t = 3
  · rw [if_pos t3]
    have hv3 : ((s.ahead i x.n).v r).kind = 3 ∧ ((s.ahead i x.n).v r).pl = (Γ r).k ∧ ((s.ahead i x.n).v r).pm = (Γ r).k := by have q := hvr; unfold Tv at q; rw [t3] at q; exact q
    rw [if_neg (by unfold shrC; omega)]; exact hv3
  · rw [if_neg t3]; trivial
theorem ty_call2 {x : PI} {Γ : Nat → Hd} {m : Int} {mv : Bool} {s : KS} {i : Int} (ho : x.op = 40) (hn : x.n = 2) (h : TS Γ m mv s) : Next x (s.ahead i x.n) (TS (upd Γ 0 (.first 0)) m false) := by
  have ha := h.ahead i x.n
  have e : lookK x (s.ahead i x.n) = callL (s.ahead i x.n) x.n := by obtain ⟨op, d, c, of, n⟩ := x; cases ho; rfl
  rw [Next, e, callL, if_pos hn]
  exact ⟨_, rfl, ha.set 0 (k := .first 0) (v := firstV) ⟨rfl, rfl, rfl⟩ (fun h => by cases h)⟩
theorem ty_call3 {x : PI} {Γ : Nat → Hd} {m : Int} {mv : Bool} {s : KS} {i : Int} (ho : x.op = 40) (hn : x.n = 3) (h : TS Γ m mv s) : Next x (s.ahead i x.n) (TS (upd Γ 0 .fin) m false) := by
  have ha := h.ahead i x.n
  have e : lookK x (s.ahead i x.n) = callL (s.ahead i x.n) x.n := by obtain ⟨op, d, c, of, n⟩ := x; cases ho; rfl
  rw [Next, e, callL, if_neg (by omega), if_pos hn]
  exact ⟨_, rfl, ha.set 0 (k := .fin) (v := endV) ⟨rfl, rfl⟩ (fun h => by cases h)⟩
theorem ty_exit {x : PI} {Γ : Nat → Hd} {m : Int} {s : KS} {i : Int} (ho : x.op = 41) (h : TS Γ m true s) : lookK x (s.ahead i x.n) = some (KS.zero, KS.zero) := by
  have ha := h.ahead i x.n
  have e : lookK x (s.ahead i x.n) = exitL (s.ahead i x.n) := by obtain ⟨op, d, c, of, n⟩ := x; cases ho; rfl
  rw [e, exitL, if_pos (ha.m rfl)]
theorem ty_jump {x : PI} {Γ : Nat → Hd} {m : Int} {mv : Bool} {s : KS} {i : Int} (ho : x.op = 30) (h : TS Γ m mv s) : ∃ b, lookK x (s.ahead i x.n) = some (KS.zero, b) ∧ TS Γ m mv b := by
  have e : lookK x (s.ahead i x.n) = some (KS.zero, s.ahead i x.n) := by obtain ⟨op, d, c, of, n⟩ := x; cases ho; rfl
  exact ⟨_, e, h.ahead i x.n⟩

theorem Tv_num {h : Hd} {v v' : KV} (hv : Tv h v) (h1 : v.kind = 1) (h2 : v'.kind = 1) : Tv h v' := by
  obtain ⟨t, k⟩ := h
  rcases Hd.five t with rfl | rfl | rfl | rfl | e
  · exact h2
  · have q : v.kind = 2 := hv.1; omega
  · have q : v.kind = 3 := hv.1; omega
  · have q : v.kind = 2 := hv.1; omega
  · exact e _ _
theorem frK_v (s : KS) (A B : KV) (g : Int) : (frK s A B g).v = s.v := by unfold frK; split <;> rfl
theorem frK_f (s : KS) (A B : KV) (g : Int) : s.frame ≤ (frK s A B g).frame := by unfold frK; split; exact (show s.frame ≤ max s.frame _ by omega); exact Int.le_refl _
theorem frK_r (s : KS) (A B : KV) (g : Int) : (frK s A B g).reached = s.reached := by unfold frK; split <;> rfl
theorem ap_reached {s : KS} {a b : Nat} {g : Int} (h : (apartByK s a b g).reached = true) : s.reached = true := by
  unfold apartByK at h
  split at h
  · split at h
    · exact (frK_r s _ _ g).symm.trans h
    · cases h
  · split at h
    · exact (frK_r s _ _ g).symm.trans h
    · cases h
theorem set2_v (s : KS) (a b r : Nat) (x y : KV) : ((s.set a x).set b y).v r = if r = b then y else if r = a then x else s.v r := rfl
/-- Two numbers compared. -/
theorem ap_num {s : KS} {a b : Nat} {g : Int} {Γ : Nat → Hd} {m : Int} {mv : Bool} (ka : (s.v a).kind = 1) (kb : (s.v b).kind = 1) (h : TS Γ m mv s) (hr : (apartByK s a b g).reached = true) :
    TS Γ m mv (apartByK s a b g) ∧ ((apartByK s a b g).v a).kind = 1 ∧ ((apartByK s a b g).v b).kind = 1 := by
  unfold apartByK at hr ⊢
  rw [if_pos ka] at hr ⊢
  split at hr
  · rename_i hc
    rw [if_pos hc]
    refine ⟨⟨fun r hr8 => ?_, ?_, fun hm => ?_⟩, ?_, ?_⟩
    · rw [set2_v, frK_v]
      split
      · rename_i e; subst e; exact Tv_num (h.v r hr8) kb kb
      · split
        · rename_i e; subst e; exact Tv_num (h.v r hr8) ka ka
        · exact h.v r hr8
    · exact Int.le_trans h.f (frK_f s _ _ g)
    · rw [set2_v, frK_v]
      have hm' := h.m hm
      split
      · rename_i e; subst e; exact ⟨hm'.1, hm'.2⟩
      · split
        · rename_i e; subst e; exact ⟨hm'.1, by show min _ _ ≤ 3; omega⟩
        · exact hm'
    · rw [set2_v]
      split
      · exact kb
      · rw [if_pos rfl]; exact ka
    · rw [set2_v, if_pos rfl]; exact kb
  · cases hr
/-- The first place plus k and the end, compared: either way round. -/
theorem ap_ff {s : KS} {a b : Nat} {g : Int} {Γ : Nat → Hd} {m : Int} {mv : Bool} (ha : a < 8) (hb : b < 8) {k : Int} (hk : (Γ a = .first k ∧ Γ b = .fin) ∨ (Γ a = .fin ∧ Γ b = .first k)) (h : TS Γ m mv s) (hr : (apartByK s a b g).reached = true) :
    TS Γ m mv (apartByK s a b g) ∧ (Γ a = .first k → TS Γ (max m (k + g)) mv (apartByK s a b g)) := by
  have hva := h.v a ha
  have hvb := h.v b hb
  have ka : (s.v a).kind = 2 := by rcases hk with ⟨e, _⟩ | ⟨e, _⟩ <;> rw [e] at hva <;> exact hva.1
  have kb : (s.v b).kind = 2 := by rcases hk with ⟨_, e⟩ | ⟨_, e⟩ <;> rw [e] at hvb <;> exact hvb.1
  unfold apartByK at hr ⊢
  rw [if_neg (by omega)] at hr ⊢
  split at hr
  · rename_i hc
    rw [if_pos hc]
    have hv : ∀ r, r < 8 → Tv (Γ r) ((((frK s (s.v a) (s.v b) g).set a { s.v a with pm := min (s.v a).pm ((s.v b).pm - g) }).set b { s.v b with pl := max (s.v b).pl ((s.v a).pl + g) }).v r) := fun r hr => by
      rw [set2_v, frK_v]
      split
      · rename_i e; subst e
        rcases hk with ⟨e1, e2⟩ | ⟨e1, e2⟩
        · rw [e2] at hvb ⊢; exact ⟨hvb.1, hvb.2⟩
        · rw [e2] at hvb ⊢
          simp only [Tv, TvT] at hvb ⊢
          exact ⟨hvb.1, by omega, hvb.2.2⟩
      · split
        · rename_i e; subst e
          rcases hk with ⟨e1, e2⟩ | ⟨e1, e2⟩
          · rw [e1] at hva ⊢
            simp only [Tv, TvT] at hva ⊢
            exact ⟨hva.1, hva.2.1, by omega⟩
          · rw [e1] at hva ⊢; exact ⟨hva.1, hva.2⟩
        · exact h.v r hr
    have hmv : mv = true → ((((frK s (s.v a) (s.v b) g).set a { s.v a with pm := min (s.v a).pm ((s.v b).pm - g) }).set b { s.v b with pl := max (s.v b).pl ((s.v a).pl + g) }).v 0).kind = 1 ∧ ((((frK s (s.v a) (s.v b) g).set a { s.v a with pm := min (s.v a).pm ((s.v b).pm - g) }).set b { s.v b with pl := max (s.v b).pl ((s.v a).pl + g) }).v 0).nm ≤ 3 := fun hm => by
      have hm' := h.m hm
      rw [set2_v, frK_v]
      by_cases e1 : 0 = b
      · subst e1; omega
      · rw [if_neg e1]
        by_cases e2 : 0 = a
        · subst e2; omega
        · rw [if_neg e2]; exact hm'
    refine ⟨⟨hv, Int.le_trans h.f (frK_f s _ _ g), hmv⟩, fun e1 => ⟨hv, ?_, hmv⟩⟩
    have hbe : (s.v b).e = true := by
      rcases hk with ⟨_, e2⟩ | ⟨e2, _⟩
      · rw [e2] at hvb; exact hvb.2
      · rw [e1] at e2; cases e2
    rw [e1] at hva
    simp only [Tv, TvT] at hva
    show max m (k + g) ≤ (frK s (s.v a) (s.v b) g).frame
    unfold frK
    rw [if_pos hbe]
    show max m (k + g) ≤ max s.frame ((s.v a).pl + g)
    have := h.f
    omega
  · cases hr
/-- The two sides of a comparison, whichever it is. -/
def relsOf (op : Nat) : Option ((KS → Nat → Nat → KS) × (KS → Nat → Nat → KS)) := match op with
  | 31 => some (notEqualK, equalK) | 32 => some (equalK, notEqualK) | 33 => some (notGreaterK, greaterK) | 34 => some (lessK, notLessK) | 35 => some (notLessK, lessK) | 36 => some (greaterK, notGreaterK)
  | 159 => some (notEqualK, equalK) | 160 => some (equalK, notEqualK) | 161 => some (notGreaterK, greaterK) | 162 => some (lessK, notLessK) | 163 => some (notLessK, lessK) | 164 => some (greaterK, notGreaterK)
  | _ => none
/-- A relation keeps to kinds. -/
def RelT (f : KS → Nat → Nat → KS) (Γ : Nat → Hd) (m : Int) (mv : Bool) (a b : Nat) : Prop := ∀ s, TS Γ m mv s → ((s.v a).kind = 1 ∧ (s.v b).kind = 1 ∨ (∃ k, a < 8 ∧ b < 8 ∧ ((Γ a = .first k ∧ Γ b = .fin) ∨ (Γ a = .fin ∧ Γ b = .first k)))) → (f s a b).reached = true → TS Γ m mv (f s a b)
theorem ap_any {s : KS} {a b : Nat} {g : Int} {Γ : Nat → Hd} {m : Int} {mv : Bool} (h : TS Γ m mv s) (hk : (s.v a).kind = 1 ∧ (s.v b).kind = 1 ∨ (∃ k, a < 8 ∧ b < 8 ∧ ((Γ a = .first k ∧ Γ b = .fin) ∨ (Γ a = .fin ∧ Γ b = .first k)))) (hr : (apartByK s a b g).reached = true) :
    TS Γ m mv (apartByK s a b g) ∧ (((apartByK s a b g).v a).kind = 1 ∧ ((apartByK s a b g).v b).kind = 1 ∨ (∃ k, a < 8 ∧ b < 8 ∧ ((Γ a = .first k ∧ Γ b = .fin) ∨ (Γ a = .fin ∧ Γ b = .first k)))) := by
  rcases hk with ⟨ka, kb⟩ | ⟨k, ha, hb, hk⟩
  · have := ap_num ka kb h hr; exact ⟨this.1, .inl this.2⟩
  · exact ⟨(ap_ff ha hb hk h hr).1, .inr ⟨k, ha, hb, hk⟩⟩
theorem relT_ng {Γ : Nat → Hd} {m : Int} {mv : Bool} (a b : Nat) : RelT notGreaterK Γ m mv a b := fun _ h hk hr => (ap_any h hk hr).1
theorem relT_less {Γ : Nat → Hd} {m : Int} {mv : Bool} (a b : Nat) : RelT lessK Γ m mv a b := fun _ h hk hr => (ap_any h hk hr).1
theorem swapK {s : KS} {a b : Nat} {Γ : Nat → Hd} (hk : (s.v a).kind = 1 ∧ (s.v b).kind = 1 ∨ (∃ k, a < 8 ∧ b < 8 ∧ ((Γ a = .first k ∧ Γ b = .fin) ∨ (Γ a = .fin ∧ Γ b = .first k)))) : (s.v b).kind = 1 ∧ (s.v a).kind = 1 ∨ (∃ k, b < 8 ∧ a < 8 ∧ ((Γ b = .first k ∧ Γ a = .fin) ∨ (Γ b = .fin ∧ Γ a = .first k))) := by
  rcases hk with ⟨h1, h2⟩ | ⟨k, h1, h2, ⟨h3, h4⟩ | ⟨h3, h4⟩⟩
  · exact .inl ⟨h2, h1⟩
  · exact .inr ⟨k, h2, h1, .inr ⟨h4, h3⟩⟩
  · exact .inr ⟨k, h2, h1, .inl ⟨h4, h3⟩⟩
theorem relT_gt {Γ : Nat → Hd} {m : Int} {mv : Bool} (a b : Nat) : RelT greaterK Γ m mv a b := fun _ h hk hr => (ap_any h (swapK hk) hr).1
theorem relT_nl {Γ : Nat → Hd} {m : Int} {mv : Bool} (a b : Nat) : RelT notLessK Γ m mv a b := fun _ h hk hr => (ap_any h (swapK hk) hr).1
theorem relT_ne {Γ : Nat → Hd} {m : Int} {mv : Bool} (a b : Nat) : RelT notEqualK Γ m mv a b := fun _ h _ _ => h
theorem relT_eq {Γ : Nat → Hd} {m : Int} {mv : Bool} (a b : Nat) : RelT equalK Γ m mv a b := fun s h hk hr => by
  have h1 : (notGreaterK s a b).reached = true := ap_reached hr
  have h2 := ap_any (s := s) (a := a) (b := b) (g := 0) h hk h1
  exact relT_nl a b _ h2.1 h2.2 hr
/-- Kinds that may be compared. -/
def cmpT (x : PI) (Γ : Nat → Hd) : Prop := num2 x Γ ∨ (x.op < 128 ∧ x.c < 8 ∧ ∃ k, (Γ x.d = .first k ∧ Γ x.c = .fin) ∨ (Γ x.d = .fin ∧ Γ x.c = .first k))
theorem ty_cmp {x : PI} {Γ : Nat → Hd} {m : Int} {mv : Bool} {s : KS} {i : Int} (ho : (31 ≤ x.op ∧ x.op ≤ 36) ∨ (159 ≤ x.op ∧ x.op ≤ 164)) (hd : x.d < 8) (hc : cmpT x Γ) (h : TS Γ m mv s) :
    ∃ a b, lookK x (s.ahead i x.n) = some (a, b) ∧ (a.reached = true → TS Γ m mv a) ∧ (b.reached = true → TS Γ m mv b) ∧
      (∀ k, x.op = 33 → Γ x.d = .first k → Γ x.c = .fin → a.reached = true → TS Γ (max m k) mv a) := by
  have ha := h.ahead i x.n
  have hkk : (((s.ahead i x.n).v x.d).kind = 1 ∧ ((s.ahead i x.n).v x.r).kind = 1) ∨ (∃ k, x.d < 8 ∧ x.r < 8 ∧ ((Γ x.d = .first k ∧ Γ x.r = .fin) ∨ (Γ x.d = .fin ∧ Γ x.r = .first k))) := by
    rcases hc with h2 | ⟨h1, h2, k, h3⟩
    · exact .inl (num2_kind (i := i) hd h2 h)
    · rw [r_reg h1]; exact .inr ⟨k, hd, h2, h3⟩
  have hkind : ((s.ahead i x.n).v x.d).kind ≠ 0 ∧ ((s.ahead i x.n).v x.r).kind ≠ 0 ∧ ((s.ahead i x.n).v x.d).kind = ((s.ahead i x.n).v x.r).kind := by
    rcases hkk with ⟨h1, h2⟩ | ⟨k, h1, h2, h3⟩
    · omega
    · have va := ha.v _ h1
      have vb := ha.v _ h2
      rcases h3 with ⟨e1, e2⟩ | ⟨e1, e2⟩ <;> rw [e1] at va <;> rw [e2] at vb <;> simp only [Tv, TvT] at va vb <;> omega
  have e : ∃ P J, relsOf x.op = some (P, J) ∧ lookK x (s.ahead i x.n) = cmpO P J x (s.ahead i x.n) ∧ RelT P Γ m mv x.d x.r ∧ RelT J Γ m mv x.d x.r := by
    obtain ⟨op, d, c, of, n⟩ := x
    dsimp only at ho
    rcases (show op = 31 ∨ op = 32 ∨ op = 33 ∨ op = 34 ∨ op = 35 ∨ op = 36 ∨ op = 159 ∨ op = 160 ∨ op = 161 ∨ op = 162 ∨ op = 163 ∨ op = 164 from by omega) with rfl | rfl | rfl | rfl | rfl | rfl | rfl | rfl | rfl | rfl | rfl | rfl
    all_goals exact ⟨_, _, rfl, rfl, by first | exact relT_ng _ _ | exact relT_less _ _ | exact relT_gt _ _ | exact relT_nl _ _ | exact relT_ne _ _ | exact relT_eq _ _, by first | exact relT_ng _ _ | exact relT_less _ _ | exact relT_gt _ _ | exact relT_nl _ _ | exact relT_ne _ _ | exact relT_eq _ _⟩
  obtain ⟨P, J, e0, e1, hP, hJ⟩ := e
  refine ⟨P (s.ahead i x.n) x.d x.r, J (s.ahead i x.n) x.d x.r, ?_, hP _ ha hkk, hJ _ ha hkk, fun k h33 hf hfin hr => ?_⟩
  · rw [e1, cmpO, cmpL, if_pos hkind]
  · rw [h33] at e0
    cases e0
    have hxr : x.r = x.c := r_reg (by omega)
    rcases hkk with ⟨h1, _⟩ | ⟨k', h1, h2, h3⟩
    · have va := ha.v _ hd
      rw [hf] at va; simp only [Tv, TvT] at va; omega
    · rw [hxr] at hr h2 h3 ⊢
      have := (ap_ff (s := s.ahead i x.n) (g := 0) h1 h2 (.inl ⟨hf, hfin⟩) ha hr).2 hf
      rw [Int.add_zero] at this
      exact this
/-- What is known at the first, by kinds. -/
def Γ0 : Nat → Hd := fun r => if r = 1 then .first 0 else if r = 2 then .fin else if r = 7 then .deep 0 else .any
theorem ts_start : TS Γ0 0 false KS.start := by
  refine ⟨fun r hr => ?_, Int.le_refl _, fun h => by cases h⟩
  have e : KS.start.v r = if r = 7 then stackV else if r = 2 then endV else if r = 1 then firstV else kNone := rfl
  rw [e]
  unfold Γ0
  by_cases h1 : r = 1
  · subst h1; exact ⟨rfl, rfl, rfl⟩
  by_cases h2 : r = 2
  · subst h2; exact ⟨rfl, rfl⟩
  by_cases h7 : r = 7
  · subst h7; exact ⟨rfl, rfl, rfl⟩
  rw [if_neg h1, if_neg h2, if_neg h7]; trivial
end Go.Proofs.YtoobileejdhikaaGreat

namespace Go.Proofs.YtoobileejdhikaaGreat
open Go.RowKit

theorem rOff_ins (o : Int) (h1 : -32768 ≤ o) (h2 : o ≤ 32767) : rOff (o % 256) (o / 256 % 256) = o := by
  have h3 : p2 15 = 32768 := by decide
  unfold rOff sgn; rw [h3]; split <;> omega
theorem rNum_ins (n : Int) (h1 : -2147483648 ≤ n) (h2 : n ≤ 2147483647) : rNum (n % 256) (n / 256 % 256) (n / 65536 % 256) (n / 16777216 % 256) = n := by
  have h3 : p2 31 = 2147483648 := by decide
  unfold rNum sgn; rw [h3]; split <;> omega
/-- An instruction as the program takes it apart, out of its bytes. -/
theorem pi_ins {B : Nat → Int} {i : Nat} (op d s o n : Int) (h0 : B (8 * i) = op) (h1 : B (8 * i + 1) = d + 16 * s) (h2 : B (8 * i + 2) = o % 256) (h3 : B (8 * i + 3) = o / 256 % 256) (h4 : B (8 * i + 4) = n % 256) (h5 : B (8 * i + 5) = n / 256 % 256) (h6 : B (8 * i + 6) = n / 65536 % 256) (h7 : B (8 * i + 7) = n / 16777216 % 256)
    (d0 : 0 ≤ d) (d1 : d ≤ 15) (_s0 : 0 ≤ s) (o1 : -32768 ≤ o) (o2 : o ≤ 32767) (n1 : -2147483648 ≤ n) (n2 : n ≤ 2147483647) : piOf B i = ⟨op.toNat, d.toNat, s.toNat, o, n⟩ := by
  unfold piOf oOf nOf
  rw [h0, h1, h2, h3, h4, h5, h6, h7, rOff_ins o o1 o2, rNum_ins n n1 n2, show (d + 16 * s) % 16 = d from by omega, show (d + 16 * s) / 16 = s from by omega]
/-- An instruction, plainly. -/
structure In5 where
  op : Nat
  d : Nat
  s : Nat
  o : Int
  n : Int
def In5.by8 (x : In5) : List Int := insB x.op x.d x.s x.o x.n
def In5.pi (x : In5) : PI := ⟨x.op, x.d, x.s, x.o, x.n⟩
structure In5.Ok (x : In5) : Prop where
  op : x.op < 256
  d : x.d ≤ 15
  s : x.s ≤ 15
  o1 : -32768 ≤ x.o
  o2 : x.o ≤ 32767
  n1 : -2147483648 ≤ x.n
  n2 : x.n ≤ 2147483647
theorem lt_ {a b : Nat} (h : Nat.ble (a + 1) b = true) : a < b := Nat.le_of_ble_eq_true h
theorem le_ {a b : Nat} (h : Nat.ble a b = true) : a ≤ b := Nat.le_of_ble_eq_true h
theorem in5_ok {op d s : Nat} {o n : Int} (h1 : op < 256) (h2 : d ≤ 15) (h3 : s ≤ 15) (h4 : -32768 ≤ o) (h5 : o ≤ 32767) (h6 : -2147483648 ≤ n) (h7 : n ≤ 2147483647) : (⟨op, d, s, o, n⟩ : In5).Ok := ⟨h1, h2, h3, h4, h5, h6, h7⟩
/-- The bytes of a row of instructions. -/
def cat8 : List In5 → List Int
  | [] => []
  | x :: l => x.by8 ++ cat8 l
theorem by8_len (x : In5) : x.by8.length = 8 := rfl
theorem cat8_len : ∀ l : List In5, (cat8 l).length = 8 * l.length
  | [] => rfl
  | x :: l => by simp only [cat8, List.length_append, by8_len, cat8_len l, List.length_cons]; omega
theorem cat8_at : ∀ (l : List In5) (i : Nat) (x : In5), l[i]? = some x → ∀ j, j < 8 → (cat8 l)[8 * i + j]? = x.by8[j]?
  | [], _, _, h => by simp at h
  | y :: l, 0, x, h => by
    simp at h; subst h
    intro j hj
    simp only [cat8, Nat.mul_zero, Nat.zero_add]
    rw [List.getElem?_append_left (by rw [by8_len]; exact hj)]
  | y :: l, i + 1, x, h => by
    intro j hj
    simp only [cat8]
    rw [List.getElem?_append_right (by rw [by8_len]; omega), by8_len, show 8 * (i + 1) + j - 8 = 8 * i + j from by omega]
    exact cat8_at l i x (by simpa using h) j hj
theorem cat8_pi (l : List In5) (i : Nat) (x : In5) (h : l[i]? = some x) (ok : x.Ok) : piOf (lb (cat8 l)) i = x.pi := by
  have c := cat8_at l i x h
  have g : ∀ j, j < 8 → ∀ v, x.by8[j]? = some v → lb (cat8 l) (8 * i + j) = v := fun j hj v hv => by
    have := (c j hj).trans hv
    simp [lb, this]
  have := pi_ins (B := lb (cat8 l)) (i := i) x.op x.d x.s x.o x.n (g 0 (by omega) _ rfl) (g 1 (by omega) _ rfl) (g 2 (by omega) _ rfl) (g 3 (by omega) _ rfl) (g 4 (by omega) _ rfl) (g 5 (by omega) _ rfl) (g 6 (by omega) _ rfl) (g 7 (by omega) _ rfl) (by omega) (by have := ok.d; omega) (by omega) ok.o1 ok.o2 ok.n1 ok.n2
  rw [this]; rfl
theorem by8_bd {x : In5} (ok : x.Ok) : ∀ v ∈ x.by8, 0 ≤ v ∧ v ≤ 255 := fun v hv => by
  have := ok.op; have := ok.d; have := ok.s
  simp only [In5.by8, insB, List.mem_cons, List.not_mem_nil, or_false] at hv
  rcases hv with rfl | rfl | rfl | rfl | rfl | rfl | rfl | rfl <;> omega
theorem cat8_bd : ∀ (l : List In5), (∀ x ∈ l, x.Ok) → ∀ v ∈ cat8 l, 0 ≤ v ∧ v ≤ 255
  | [], _ => fun v hv => by simp [cat8] at hv
  | x :: l, h => fun v hv => by
    simp only [cat8, List.mem_append] at hv
    rcases hv with hv | hv
    · exact by8_bd (h x (by simp)) v hv
    · exact cat8_bd l (fun y hy => h y (by simp [hy])) v hv
/-- The shape of a row of instructions. -/
theorem cat8_good (l : List In5) (i : Nat) (x : In5) (h : l[i]? = some x) (ok : x.Ok) (hf : fitP x.op x.d x.s x.o x.n ((l.length : Int) - 1 - i) = true) (hl : x.op = 41 ∨ i + 1 < l.length) : badP (lb (cat8 l)) l.length i = false := by
  have hpi := cat8_pi l i x h ok
  have hi : i < l.length := (List.getElem?_eq_some_iff.1 h).1
  have hB := lb_bd (xs := cat8 l)
  have c := cat8_at l i x h
  have g : ∀ j, j < 8 → ∀ v, x.by8[j]? = some v → lb (cat8 l) (8 * i + j) = v := fun j hj v hv => by
    have := (c j hj).trans hv
    simp [lb, this]
  have g0 : lb (cat8 l) (8 * i) = (x.op : Int) := g 0 (by omega) _ rfl
  have g1 : lb (cat8 l) (8 * i + 1) = (x.d : Int) + 16 * x.s := g 1 (by omega) _ rfl
  have e1 : oOf (lb (cat8 l)) i = x.o := congrArg PI.of hpi
  have e2 : nOf (lb (cat8 l)) i = x.n := congrArg PI.n hpi
  have := ok.d; have := ok.s
  unfold badP
  rw [g0, g1, e1, e2, Int.toNat_natCast, show ((x.d : Int) + 16 * x.s) % 16 = x.d from by omega, show ((x.d : Int) + 16 * x.s) / 16 = x.s from by omega, hf]
  have hlast : lastB (x.op : Int) ((l.length : Int) - 1 - i) = false := by
    unfold lastB
    rcases hl with e | e
    · rw [e]; simp
    · have : (((l.length : Int) - 1 - i) == 0) = false := by simp; omega
      rw [this]; rfl
  rw [hlast]; rfl
/-- All that is asked of a row of instructions to be code of a right shape. -/
theorem cat8_is (l : List In5) (ok : ∀ x ∈ l, x.Ok) (hf : ∀ (i : Nat) (x : In5), l[i]? = some x → fitP x.op x.d x.s x.o x.n ((l.length : Int) - 1 - i) = true ∧ (x.op = 41 ∨ i + 1 < l.length)) :
    (∀ v ∈ cat8 l, 0 ≤ v ∧ v ≤ 255) ∧ (∀ j, j < l.length → badP (lb (cat8 l)) l.length j = false) := by
  refine ⟨cat8_bd l ok, fun j hj => ?_⟩
  have h : l[j]? = some l[j] := List.getElem?_eq_getElem hj
  exact cat8_good l j _ h (ok _ (List.getElem_mem hj)) (hf j _ h).1 (hf j _ h).2

/-- A look at one instruction, on the way of 'safe_of'. -/
theorem go_next {x : PI} {s : KS} {Q : KS → Prop} {P1 P2 : KS → Prop} (h : Next x s Q) (hQ : ∀ a, Q a → P1 a) : ∃ a b, lookK x s = some (a, b) ∧ (a.reached = true → P1 a) ∧ (b.reached = true → P2 b) := by
  obtain ⟨a, e, q⟩ := h
  exact ⟨a, _, e, fun _ => hQ a q, fun hb => by cases hb⟩
theorem go_exit {x : PI} {s : KS} {P1 P2 : KS → Prop} (h : lookK x s = some (KS.zero, KS.zero)) : ∃ a b, lookK x s = some (a, b) ∧ (a.reached = true → P1 a) ∧ (b.reached = true → P2 b) :=
  ⟨_, _, h, (fun hb => by cases hb), (fun hb => by cases hb)⟩
def Γn : Nat → Hd := fun _ => .any
theorem TS.none {Γ : Nat → Hd} {m : Int} {mv : Bool} {s : KS} (h : TS Γ m mv s) (hm : 0 ≤ m) : TS Γn 0 false s := h.weak (fun _ _ => .inl rfl) hm (fun h => by cases h)
theorem TS.verdict {Γ : Nat → Hd} {m : Int} {s : KS} (h : TS Γ m true s) (hm : 0 ≤ m) : TS Γn 0 true s := h.weak (fun _ _ => .inl rfl) hm (fun h => h)
/-- Running: one step. -/
theorem run_step {I : Nat → PI} {n f i : Nat} {s s' : MS} {ov : Int} (hi : i < n) (h : doK (I i) (s.ahead (I i).n) = some (s', ov)) : runR I n (f + 1) i s = runR I n f (i + 1 + ov.toNat) s' := by
  show (if i < n then _ else _) = _
  rw [if_pos hi, h]
/-- Memory and the frame's bounds are the same. -/
def Same (s t : MS) : Prop := s.m = t.m ∧ s.f = t.f ∧ s.l = t.l
theorem Same.left {s t : MS} (h : Same s t) : s.left = t.left := by unfold MS.left; rw [h.1, h.2.1, h.2.2]
theorem Same.setV {s t : MS} (h : Same s t) (r : Nat) (x : Int) : Same (s.setV r x) t := h
theorem Same.ahead {s t : MS} (h : Same s t) (n : Int) : Same (s.ahead n) t := h
theorem Same.refl (s : MS) : Same s s := ⟨rfl, rfl, rfl⟩
theorem start_left (xs : List Int) : (startM xs).left = xs := by
  apply List.ext_getElem?
  intro i
  have e1 : ((startM xs).l - (startM xs).f).toNat = xs.length := by show ((1032 : Int) + xs.length - 1032).toNat = _; omega
  have e2 : ((startM xs).f - 1000).toNat = 32 := by show ((1032 : Int) - 1000).toNat = 32; decide
  unfold MS.left
  rw [e1, e2]
  by_cases h : i < xs.length
  · rw [List.getElem?_map, List.getElem?_range h]
    show some ((startM xs).m (32 + i)) = _
    have : (startM xs).m (32 + i) = xs.getD i 0 := by show (if 32 ≤ 32 + i then xs.getD (32 + i - 32) 0 else 0) = _; rw [if_pos (by omega), show 32 + i - 32 = i from by omega]
    rw [this, List.getElem?_eq_getElem h]
    simp [List.getElem?_eq_getElem h]
  · rw [List.getElem?_eq_none (by simp; omega), List.getElem?_eq_none (by omega)]
/-- The two last instructions: register 0 is a verdict; Exit. -/
theorem run_out {I : Nat → PI} {n f i : Nat} {s : MS} {a : Int} (hn : n ≤ 64) (hi : i + 1 < n) (h0 : I i = ⟨129, 0, 0, 0, a⟩) (h1 : I (i + 1) = ⟨41, 0, 0, 0, 0⟩) (a0 : 0 ≤ a) (a1 : a ≤ 3) : ∃ e, runR I n (f + 2) i s = some e ∧ e.v 0 = a ∧ Same e s := by
  have e1 : doK (I i) (s.ahead (I i).n) = some ((s.ahead a).setV 0 ((s.ahead a).v 8), 0) := by rw [h0]; rfl
  rw [run_step (by omega) e1]
  have e2 : doK (I (i + 1)) (((s.ahead a).setV 0 ((s.ahead a).v 8)).ahead (I (i + 1)).n) = some (((s.ahead a).setV 0 ((s.ahead a).v 8)).ahead 0, 64) := by rw [h1]; rfl
  rw [show i + 1 + (0 : Int).toNat = i + 1 from rfl, run_step (by omega) e2, runR_end (by show ¬ i + 1 + 1 + 64 < n; omega)]
  refine ⟨_, rfl, ?_, ⟨rfl, rfl, rfl⟩⟩
  show w64 a = a
  rw [w64_eq]; omega
end Go.Proofs.YtoobileejdhikaaGreat

namespace Go.Proofs.YtoobileejdhikaaGreat
open Go.RowKit

/-- The frames: row r is a list of bytes, nil or not. -/
structure FrAt (W : World) (b off len : Nat) (A : Nat → Option Addr) (L C : Nat → Nat) (Z : Nat → List Int) : Prop where
  c : ∀ r, r < len → W.cell? ⟨b, off + r, none⟩ = some (.slice (A r) (L r) (C r))
  lc : ∀ r, r < len → L r ≤ C r
  cm : ∀ r, r < len → C r ≤ 9223372036854775807
  zl : ∀ r, r < len → (Z r).length = C r
  zb : ∀ r, r < len → ∀ n ∈ Z r, 0 ≤ n ∧ n ≤ 255
  an : ∀ r, r < len → A r = none → C r = 0
  az : ∀ r, r < len → ∀ a, A r = some a → ∀ j, j < C r → W.cell? (a.add j) = some (.int .u8 ((Z r).getD j 0))
theorem FrAt.later {W W' : World} {b off len : Nat} {A : Nat → Option Addr} {L C : Nat → Nat} {Z : Nat → List Int} (h : FrAt W b off len A L C Z) (hb : Below W.heap.size W W') : FrAt W' b off len A L C Z :=
  ⟨fun r hr => cell_later' hb rfl (h.c r hr), h.lc, h.cm, h.zl, h.zb, h.an, fun r hr a ha j hj => cell_later' hb rfl (h.az r hr a ha j hj)⟩
/-- How many bytes of a frame are looked at; and which. -/
def cut64 (n : Nat) : Nat := if 64 < n then 64 else n
theorem cut64_le (n : Nat) : cut64 n ≤ 64 ∧ cut64 n ≤ n := by unfold cut64; split <;> omega
def frX (L : Nat → Nat) (Z : Nat → List Int) (r : Nat) : List Int := (Z r).take (cut64 (L r))
theorem FrAt.len {W : World} {b off len : Nat} {A : Nat → Option Addr} {L C : Nat → Nat} {Z : Nat → List Int} (h : FrAt W b off len A L C Z) {r : Nat} (hr : r < len) : (frX L Z r).length = cut64 (L r) := by
  have := h.lc r hr; have := h.zl r hr; have := (cut64_le (L r)).2
  simp only [frX, List.length_take]; omega
theorem FrAt.bytes {W : World} {b off len : Nat} {A : Nat → Option Addr} {L C : Nat → Nat} {Z : Nat → List Int} (h : FrAt W b off len A L C Z) {r : Nat} (hr : r < len) : BytesAt W (A r) (frX L Z r) := by
  have hl := h.len hr
  cases ha : A r with
  | none =>
    have := h.an r hr ha; have := h.lc r hr; have := (cut64_le (L r)).2
    exact .inl (List.eq_nil_of_length_eq_zero (by omega))
  | some a =>
    refine .inr ⟨a, rfl, fun j u hj => ?_⟩
    have hj' : j < cut64 (L r) := by have := (List.getElem?_eq_some_iff.1 hj).1; rw [byV_len, hl] at this; exact this
    have hj2 : j < (Z r).length := by have := h.lc r hr; have := h.zl r hr; have := (cut64_le (L r)).2; omega
    have e : (byV (frX L Z r))[j]? = some (.int .u8 ((Z r).getD j 0)) := by
      simp only [byV, frX, List.getElem?_map, List.getElem?_take_of_lt hj', List.getElem?_eq_getElem hj2]
      simp [List.getElem?_eq_getElem hj2]
    rw [e] at hj
    cases hj
    exact h.az r hr a ha j (by have := h.zl r hr; omega)
theorem FrAt.bd {W : World} {b off len : Nat} {A : Nat → Option Addr} {L C : Nat → Nat} {Z : Nat → List Int} (h : FrAt W b off len A L C Z) {r : Nat} (hr : r < len) : ∀ x ∈ frX L Z r, 0 ≤ x ∧ x ≤ 255 :=
  fun x hx => h.zb r hr x (List.mem_of_mem_take hx)
/-- A byte of a frame, where it lies. -/
theorem FrAt.cell {W : World} {b off len : Nat} {A : Nat → Option Addr} {L C : Nat → Nat} {Z : Nat → List Int} (h : FrAt W b off len A L C Z) {r : Nat} (hr : r < len) {j : Nat} (hj : j < cut64 (L r)) :
    ∃ q o, A r = some ⟨q, o, none⟩ ∧ W.cell? ⟨q, o + j, none⟩ = some (.int .u8 ((frX L Z r).getD j 0)) := by
  have hl := h.len hr
  have h1 := h.lc r hr; have h2 := h.zl r hr; have h3 := (cut64_le (L r)).2
  cases ha : A r with
  | none => have := h.an r hr ha; omega
  | some a =>
    obtain ⟨q, o, sp⟩ := a
    have hc := h.az r hr _ ha j (by omega)
    have hc0 := h.az r hr _ ha 0 (by omega)
    have hsp : sp = none := by simpa [Addr.add] using World.cell?_spot hc0
    subst hsp
    rw [addr_add] at hc
    refine ⟨q, o, rfl, ?_⟩
    rw [hc]
    have hj2 : j < (Z r).length := by omega
    simp [frX, List.getElem?_take_of_lt hj]
end Go.Proofs.YtoobileejdhikaaGreat
