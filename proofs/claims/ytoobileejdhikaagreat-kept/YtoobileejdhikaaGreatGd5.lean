/-
  Numbers in bytes, the low byte first; the statement Sums: its code is let in, and does what is asked.
-/
import Derived.Test.YtoobileejdhikaaGreatGd4
namespace Go.Proofs.YtoobileejdhikaaGreat
open Go.RowKit

/-- The number in so many bytes from the i-th on. -/
def hN (g : Nat → Int) : Nat → Nat → Int
  | 0, _ => 0
  | k + 1, i => g i + 256 * hN g k (i + 1)
theorem or_add {n b : Int} {i : Nat} (n0 : 0 ≤ n) (n1 : n < 2 ^ (8 * i)) (b0 : 0 ≤ b) (b1 : b ≤ 255) (hi : i ≤ 7) : bits .or .u64 n (IntKind.u64.wrap (b * 2 ^ (8 * i))) = n + b * 2 ^ (8 * i) := by
  obtain ⟨N, rfl⟩ := Int.eq_ofNat_of_zero_le n0
  obtain ⟨q, rfl⟩ := Int.eq_ofNat_of_zero_le b0
  have hp : (2 : Int) ^ (8 * i) = ((2 ^ (8 * i) : Nat) : Int) := by simp
  have h56 : 2 ^ (8 * i) ≤ 2 ^ 56 := Nat.pow_le_pow_right (by decide) (by omega)
  have hN : N < 2 ^ (8 * i) := by rw [hp] at n1; omega
  have hq : q * 2 ^ (8 * i) ≤ 255 * 2 ^ 56 := Nat.mul_le_mul (by omega) h56
  have e1 : IntKind.u64.wrap ((q : Int) * 2 ^ (8 * i)) = ((q * 2 ^ (8 * i) : Nat) : Int) := by
    show w64 _ = _
    rw [w64_eq, hp, Int.natCast_mul]
    have : ((q * 2 ^ (8 * i) : Nat) : Int) ≤ ((255 * 2 ^ 56 : Nat) : Int) := by exact_mod_cast hq
    rw [Int.natCast_mul] at this
    have h0 : (0 : Int) ≤ (q : Int) * ((2 ^ (8 * i) : Nat) : Int) := Int.mul_nonneg (by omega) (by omega)
    omega
  rw [e1, or_nat N (q * 2 ^ (8 * i)) (by omega) (by omega), Nat.or_comm, Nat.mul_comm q, ← Nat.two_pow_add_eq_or_of_lt hN, hp]
  simp only [Int.natCast_add, Int.natCast_mul]
  rw [Int.mul_comm (q : Int)]; omega
theorem ldGo_eq (m : Nat → Int) (F : Nat) (hm : ∀ i, 0 ≤ m i ∧ m i ≤ 255) : ∀ (k i : Nat) (n : Int), 0 ≤ n → n < 2 ^ (8 * i) → i + k ≤ 8 → ldGo m F k i n = n + 2 ^ (8 * i) * hN (fun t => m (F + t)) k i
  | 0, i, n, _, _, _ => by simp [ldGo, hN]
  | k + 1, i, n, n0, n1, h => by
    have hb := hm (F + i)
    have e := or_add n0 n1 hb.1 hb.2 (show i ≤ 7 by omega)
    have hp : (2 : Int) ^ (8 * (i + 1)) = 256 * 2 ^ (8 * i) := by rw [show 8 * (i + 1) = 8 * i + 8 from by omega, Int.pow_add]; omega
    have h2 : (0 : Int) < 2 ^ (8 * i) := Int.pow_pos (by decide)
    show ldGo m F k (i + 1) (bits .or .u64 n (IntKind.u64.wrap (m (F + i) * 2 ^ (8 * i)))) = _
    rw [e]
    have hle : m (F + i) * 2 ^ (8 * i) ≤ 255 * 2 ^ (8 * i) := Int.mul_le_mul_of_nonneg_right hb.2 (by omega)
    have hge : 0 ≤ m (F + i) * 2 ^ (8 * i) := Int.mul_nonneg hb.1 (by omega)
    rw [ldGo_eq m F hm k (i + 1) _ (by omega) (by rw [hp]; omega) (by omega), hp]
    show _ = n + 2 ^ (8 * i) * (m (F + i) + 256 * hN (fun t => m (F + t)) k (i + 1))
    rw [Int.mul_add, Int.mul_comm (m (F + i)), Int.mul_comm 256, Int.mul_assoc]
    omega
theorem ld_eq (s : MS) (F z : Nat) (hm : ∀ i, 0 ≤ s.m i ∧ s.m i ≤ 255) (hz : z ≤ 8) : s.ld F z = hN (fun t => s.m (F + t)) z 0 := by
  have := ldGo_eq s.m F hm z 0 0 (by decide) (by decide) (by omega)
  unfold MS.ld
  rw [this]; simp
theorem hN_congr {g g' : Nat → Int} : ∀ (k i : Nat), (∀ t, t < i + k → g t = g' t) → hN g k i = hN g' k i
  | 0, _, _ => rfl
  | k + 1, i, h => by simp only [hN]; rw [h i (by omega), hN_congr k (i + 1) (fun t ht => h t (by omega))]
theorem hN_bd {g : Nat → Int} (hg : ∀ i, 0 ≤ g i ∧ g i ≤ 255) : ∀ (k i : Nat), 0 ≤ hN g k i ∧ hN g k i < 256 ^ k
  | 0, _ => by simp [hN]
  | k + 1, i => by
    have h1 := hN_bd hg k (i + 1)
    have h2 := hg i
    simp only [hN]
    rw [Int.pow_succ]
    omega
theorem doK_wk {x : PI} (h : (2 ≤ x.op ∧ x.op ≤ 11) ∨ (130 ≤ x.op ∧ x.op ≤ 139)) (s : MS) : doK x s = some (s.setV x.d (wkR (x.op % 128) (s.v x.d) (s.v x.r)), 0) := by
  obtain ⟨op, d, c, of, n⟩ := x
  dsimp only at h
  rcases (show op = 2 ∨ op = 3 ∨ op = 4 ∨ op = 5 ∨ op = 6 ∨ op = 7 ∨ op = 8 ∨ op = 9 ∨ op = 10 ∨ op = 11 ∨ op = 130 ∨ op = 131 ∨ op = 132 ∨ op = 133 ∨ op = 134 ∨ op = 135 ∨ op = 136 ∨ op = 137 ∨ op = 138 ∨ op = 139 from by omega) with rfl | rfl | rfl | rfl | rfl | rfl | rfl | rfl | rfl | rfl | rfl | rfl | rfl | rfl | rfl | rfl | rfl | rfl | rfl | rfl
  all_goals (simp only [Nat.reduceMod]; rfl)
theorem doK_ld {x : PI} (h : 20 ≤ x.op ∧ x.op ≤ 23) (s : MS) : doK x s = doLd x s (szOf x.op) := by
  obtain ⟨op, d, c, of, n⟩ := x
  dsimp only at h
  rcases (show op = 20 ∨ op = 21 ∨ op = 22 ∨ op = 23 from by omega) with rfl | rfl | rfl | rfl
  all_goals rfl
theorem doK_st {x : PI} (h : 24 ≤ x.op ∧ x.op ≤ 27) (s : MS) : doK x s = doSt x s (szOf x.op) := by
  obtain ⟨op, d, c, of, n⟩ := x
  dsimp only at h
  rcases (show op = 24 ∨ op = 25 ∨ op = 26 ∨ op = 27 from by omega) with rfl | rfl | rfl | rfl
  all_goals rfl
theorem and255 (b : Int) (h0 : 0 ≤ b) (h1 : b < 18446744073709551616) : bits .and .u64 b 255 = b % 256 := by
  obtain ⟨n, rfl⟩ := Int.eq_ofNat_of_zero_le h0
  show IntKind.u64.wrap ((BitVec.ofInt 64 (n : Int) &&& BitVec.ofInt 64 ((255 : Nat) : Int)).toNat : Int) = _
  simp only [BitVec.ofInt_natCast, BitVec.toNat_and, BitVec.toNat_ofNat]
  rw [Nat.mod_eq_of_lt (by omega), show 255 % 2 ^ 64 = 2 ^ 8 - 1 from by decide, Nat.and_two_pow_sub_one_eq_mod]
  show w64 _ = _
  rw [w64_eq]; omega

def sumL (s k : Nat) (z b : Int) : List In5 := [⟨1, 3, 1, 0, 0⟩, ⟨130, 3, 0, 0, z⟩, ⟨33, 3, 2, 8, 0⟩, ⟨20 + s, 5, 1, 0, 0⟩, ⟨k + 128, 5, 0, 0, b⟩, ⟨135, 5, 0, 0, 255⟩, ⟨161, 5, 0, 2, 100⟩, ⟨129, 0, 0, 0, 1⟩, ⟨41, 0, 0, 0, 0⟩, ⟨129, 0, 0, 0, 2⟩, ⟨41, 0, 0, 0, 0⟩, ⟨129, 0, 0, 0, 3⟩, ⟨41, 0, 0, 0, 0⟩]
structure SumOk (s k : Nat) (z b : Int) : Prop where
  s4 : s < 4
  zz : z = szOf (20 + s)
  k2 : 2 ≤ k
  k11 : k ≤ 11
  b0 : -2147483648 ≤ b
  b1 : b ≤ 2147483647
theorem sz_bd {s : Nat} (h : s < 4) : 1 ≤ szOf (20 + s) ∧ szOf (20 + s) ≤ 8 := by
  rcases (show s = 0 ∨ s = 1 ∨ s = 2 ∨ s = 3 from by omega) with rfl | rfl | rfl | rfl <;> decide
theorem sumL_ok {s k : Nat} {z b : Int} (h : SumOk s k z b) : ∀ x ∈ sumL s k z b, x.Ok := fun x hx => by
  have := h.s4; have := h.k2; have := h.k11; have := h.b0; have := h.b1; have hz := h.zz; have := sz_bd h.s4
  simp only [sumL, List.mem_cons, List.not_mem_nil, or_false] at hx
  rcases hx with rfl | rfl | rfl | rfl | rfl | rfl | rfl | rfl | rfl | rfl | rfl | rfl | rfl <;> exact in5_ok (by omega) (by decide) (by decide) (by omega) (by omega) (by omega) (by omega)
theorem sumL_fit {s k : Nat} {z b : Int} (h : SumOk s k z b) (i : Nat) (x : In5) (hx : (sumL s k z b)[i]? = some x) : fitP x.op x.d x.s x.o x.n (((sumL s k z b).length : Int) - 1 - i) = true ∧ (x.op = 41 ∨ i + 1 < (sumL s k z b).length) := by
  match i, hx with
  | 0, hx => cases hx; exact ⟨rfl, .inr (by show 1 < 13; decide)⟩
  | 1, hx => cases hx; exact ⟨rfl, .inr (by show 2 < 13; decide)⟩
  | 2, hx => cases hx; exact ⟨rfl, .inr (by show 3 < 13; decide)⟩
  | 3, hx =>
    cases hx
    refine ⟨?_, .inr (by show 4 < 13; decide)⟩
    have := h.s4
    rcases (show s = 0 ∨ s = 1 ∨ s = 2 ∨ s = 3 from by omega) with rfl | rfl | rfl | rfl <;> rfl
  | 4, hx =>
    cases hx
    refine ⟨?_, .inr (by show 5 < 13; decide)⟩
    have := h.k2; have := h.k11
    rcases (show k = 2 ∨ k = 3 ∨ k = 4 ∨ k = 5 ∨ k = 6 ∨ k = 7 ∨ k = 8 ∨ k = 9 ∨ k = 10 ∨ k = 11 from by omega) with rfl | rfl | rfl | rfl | rfl | rfl | rfl | rfl | rfl | rfl <;> rfl
  | 5, hx => cases hx; exact ⟨rfl, .inr (by show 6 < 13; decide)⟩
  | 6, hx => cases hx; exact ⟨rfl, .inr (by show 7 < 13; decide)⟩
  | 7, hx => cases hx; exact ⟨rfl, .inr (by show 8 < 13; decide)⟩
  | 8, hx => cases hx; exact ⟨rfl, .inl rfl⟩
  | 9, hx => cases hx; exact ⟨rfl, .inr (by show 10 < 13; decide)⟩
  | 10, hx => cases hx; exact ⟨rfl, .inl rfl⟩
  | 11, hx => cases hx; exact ⟨rfl, .inr (by show 12 < 13; decide)⟩
  | 12, hx => cases hx; exact ⟨rfl, .inl rfl⟩
  | k + 13, hx => exact absurd hx (by simp [sumL])
theorem sumL_pi {s k : Nat} {z b : Int} (h : SumOk s k z b) (i : Nat) (x : In5) (hx : (sumL s k z b)[i]? = some x) : piOf (lb (cat8 (sumL s k z b))) i = x.pi :=
  cat8_pi _ i x hx (sumL_ok h x (List.mem_of_getElem? hx))
def sumP (z : Int) : Nat → KS → Prop
  | 0 => TS Γ0 0 false
  | 1 => TS (upd Γ0 3 (.first 0)) 0 false
  | 2 => TS (upd Γ0 3 (.first z)) 0 false
  | 3 => TS Γ0 z false
  | 4 => TS (upd Γ0 5 .num) 0 false
  | 5 => TS (upd Γ0 5 .num) 0 false
  | 6 => TS (upd Γ0 5 .num) 0 false
  | 7 => TS Γn 0 false
  | 8 => TS Γn 0 true
  | 9 => TS Γn 0 false
  | 10 => TS Γn 0 true
  | 11 => TS Γn 0 false
  | 12 => TS Γn 0 true
  | _ => fun _ => True
theorem upd_twice (Γ : Nat → Hd) (d : Nat) (a b : Hd) (r : Nat) : upd (upd Γ d a) d b r = upd Γ d b r := by
  show (if r = d then _ else (if r = d then _ else _)) = (if r = d then _ else _)
  split <;> rfl
theorem out_step {x : PI} {s : KS} {i : Int} (ho : x.op = 129) (hd : x.d = 0) (h0 : 0 ≤ x.n) (h1 : x.n ≤ 3) (hs : TS Γn 0 false s) {P2 : KS → Prop} : ∃ a b, lookK x (s.ahead i x.n) = some (a, b) ∧ (a.reached = true → TS Γn 0 true a) ∧ (b.reached = true → P2 b) :=
  go_next (ty_movI ho hs) (fun a ha => by
    rw [if_pos hd, show (decide (0 ≤ x.n) && decide (x.n ≤ 3)) = true from by simp; omega] at ha
    exact ha.verdict (Int.le_refl _))
set_option maxRecDepth 100000 in
theorem sum_let {s k : Nat} {z b : Int} (h : SumOk s k z b) : safeP (piOf (lb (cat8 (sumL s k z b)))) 13 = none := by
  have hp := sumL_pi h
  have hz := h.zz; have hs4 := h.s4; have hk2 := h.k2; have hk11 := h.k11; have hsz := sz_bd h.s4
  refine safe_of _ 13 (sumP z) ts_start (fun i s t hr hs ht => ?_) (fun i st hi hr hs => ?_)
  · match i, hs, ht with
    | 0, hs, ht => exact TS.or hr hs ht
    | 1, hs, ht => exact TS.or hr hs ht
    | 2, hs, ht => exact TS.or hr hs ht
    | 3, hs, ht => exact TS.or hr hs ht
    | 4, hs, ht => exact TS.or hr hs ht
    | 5, hs, ht => exact TS.or hr hs ht
    | 6, hs, ht => exact TS.or hr hs ht
    | 7, hs, ht => exact TS.or hr hs ht
    | 8, hs, ht => exact TS.or hr hs ht
    | 9, hs, ht => exact TS.or hr hs ht
    | 10, hs, ht => exact TS.or hr hs ht
    | 11, hs, ht => exact TS.or hr hs ht
    | 12, hs, ht => exact TS.or hr hs ht
    | k + 13, _, _ => trivial
  · match i, hi, hs with
    | 0, _, hs =>
      rw [hp 0 _ rfl]
      exact go_next (ty_movR rfl (by decide) (by decide) hs) (fun a h => h.weak (fun r _ => .inr rfl) (Int.le_refl _) (fun h => h))
    | 1, _, hs =>
      rw [hp 1 _ rfl]
      refine go_next (ty_addI (x := In5.pi ⟨130, 3, 0, 0, z⟩) (dp := false) (k := 0) rfl (lt_ rfl) rfl (by decide) (by decide) ?_ ?_ hs) (fun a h => h.weak (fun r _ => ?_) (Int.le_refl _) (fun h => h))
      · show -1000 ≤ 0 + z; omega
      · show 0 + z ≤ 1000; omega
      · right
        show upd Γ0 3 (.first z) r = upd (upd Γ0 3 (.first 0)) 3 (.first (0 + z)) r
        rw [upd_twice, Int.zero_add]
    | 2, _, hs =>
      rw [hp 2 _ rfl]
      obtain ⟨x, y, e, h1, h2, h3⟩ := ty_cmp (x := In5.pi ⟨33, 3, 2, 8, 0⟩) (i := ((2 : Nat) : Int)) (.inl ⟨by decide, by decide⟩) (by decide) (.inr ⟨by decide, by decide, z, .inl ⟨rfl, rfl⟩⟩) hs
      refine ⟨x, y, e, fun hr => ?_, fun hr => ?_⟩
      · refine (h3 z rfl rfl rfl hr).weak (fun r _ => ?_) (by omega) (fun h => h)
        by_cases e : r = 3
        · left; subst e; rfl
        · right; show Γ0 r = (if r = 3 then _ else Γ0 r); rw [if_neg e]
      · exact (h2 hr).none (Int.le_refl _)
    | 3, _, hs =>
      rw [hp 3 _ rfl]
      exact go_next (ty_load (x := In5.pi ⟨20 + s, 5, 1, 0, 0⟩) ⟨by show 20 ≤ 20 + s; omega, by show 20 + s ≤ 23; omega⟩ (lt_ rfl) (.inl ⟨0, rfl, by show (0 : Int) ≤ 0 + 0; decide, by show 0 + 0 + ((szOf (20 + s) : Nat) : Int) ≤ z; omega⟩) hs) (fun a h => h.weak (fun r _ => .inr rfl) (by omega) (fun h => h))
    | 4, _, hs =>
      rw [hp 4 _ rfl]
      exact go_next (ty_num (x := In5.pi ⟨k + 128, 5, 0, 0, b⟩) (.inr ⟨by show 130 ≤ k + 128; omega, by show k + 128 ≤ 139; omega⟩) (lt_ rfl) ⟨rfl, .inl (by show 128 ≤ k + 128; omega)⟩ hs) (fun a h => h.weak (fun r _ => .inr (upd_twice _ _ _ _ r).symm) (Int.le_refl _) (fun h => h))
    | 5, _, hs =>
      rw [hp 5 _ rfl]
      exact go_next (ty_num (x := In5.pi ⟨135, 5, 0, 0, 255⟩) (.inr ⟨by decide, by decide⟩) (by decide) ⟨rfl, .inl (by decide)⟩ hs) (fun a h => h.weak (fun r _ => .inr (upd_twice _ _ _ _ r).symm) (Int.le_refl _) (fun h => h))
    | 6, _, hs =>
      rw [hp 6 _ rfl]
      obtain ⟨x, y, e, h1, h2, _⟩ := ty_cmp (x := In5.pi ⟨161, 5, 0, 2, 100⟩) (i := ((6 : Nat) : Int)) (.inr ⟨by decide, by decide⟩) (by decide) (.inl ⟨rfl, .inl (by decide)⟩) hs
      exact ⟨x, y, e, fun hr => (h1 hr).none (Int.le_refl _), fun hr => (h2 hr).none (Int.le_refl _)⟩
    | 7, _, hs => rw [hp 7 _ rfl]; exact out_step rfl rfl (by decide) (by decide) hs
    | 8, _, hs => rw [hp 8 _ rfl]; exact go_exit (ty_exit rfl hs)
    | 9, _, hs => rw [hp 9 _ rfl]; exact out_step rfl rfl (by decide) (by decide) hs
    | 10, _, hs => rw [hp 10 _ rfl]; exact go_exit (ty_exit rfl hs)
    | 11, _, hs => rw [hp 11 _ rfl]; exact out_step rfl rfl (by decide) (by decide) hs
    | 12, _, hs => rw [hp 12 _ rfl]; exact go_exit (ty_exit rfl hs)
    | k + 13, hi, _ => exact absurd hi (by omega)

/-- What the filter that works out a number says. -/
def sumV (k : Nat) (z : Nat) (b : Int) (xs : List Int) : Int := if z ≤ xs.length then (if 100 < wkR k (hN (fun t => xs.getD t 0) z 0) (w64 b) % 256 then 2 else 1) else 3
theorem sum_run {s k : Nat} {z b : Int} (h : SumOk s k z b) (xs : List Int) (hx : ∀ x ∈ xs, 0 ≤ x ∧ x ≤ 255) :
    ∃ fin, runR (piOf (lb (cat8 (sumL s k z b)))) 13 13 0 (startM xs) = some fin ∧ fin.v 0 = sumV k (szOf (20 + s)) b xs ∧ fin.left = xs := by
  have hp := sumL_pi h
  have hz := h.zz; have hs4 := h.s4; have hk2 := h.k2; have hk11 := h.k11; have hsz := sz_bd h.s4
  have hxb : ∀ t, 0 ≤ xs.getD t 0 ∧ xs.getD t 0 ≤ 255 := lb_bd hx
  generalize hI : piOf (lb (cat8 (sumL s k z b))) = I at hp
  have tail : ∀ (i f : Nat) (st : MS) (a : Int), Same st (startM xs) → i + 1 < 13 → I i = ⟨129, 0, 0, 0, a⟩ → I (i + 1) = ⟨41, 0, 0, 0, 0⟩ → 0 ≤ a → a ≤ 3 → ∃ fin, runR I 13 (f + 2) i st = some fin ∧ fin.v 0 = a ∧ fin.left = xs := fun i f st a hs hi h1 h2 a0 a1 => by
    obtain ⟨e, h1, h2, h3⟩ := run_out (I := I) (n := 13) (f := f) (i := i) (s := st) (a := a) (by decide) hi h1 h2 a0 a1
    exact ⟨e, h1, h2, (h3.left.trans hs.left).trans (start_left xs)⟩
  have e0 : doK (I 0) ((startM xs).ahead (I 0).n) = some (((startM xs).ahead 0).setV 3 1032, 0) := by rw [hp 0 _ rfl]; rfl
  rw [run_step (by decide) e0]
  generalize hs1 : ((startM xs).ahead 0).setV 3 1032 = s1
  have v13 : s1.v 3 = 1032 := by subst hs1; rfl
  have v12 : s1.v 2 = 1032 + xs.length := by subst hs1; rfl
  have v11 : s1.v 1 = 1032 := by subst hs1; rfl
  have sm1 : Same s1 (startM xs) := by subst hs1; exact ⟨rfl, rfl, rfl⟩
  clear hs1 e0
  have e1 : doK (I (0 + 1 + (0 : Int).toNat)) (s1.ahead (I (0 + 1 + (0 : Int).toNat)).n) = some ((s1.ahead z).setV 3 (w64 (s1.v 3 + w64 z)), 0) := by rw [show 0 + 1 + (0 : Int).toNat = 1 from rfl, hp 1 _ rfl]; rfl
  rw [run_step (by decide) e1]
  have ew : w64 (s1.v 3 + w64 z) = 1032 + z := by rw [v13, w64_eq, w64_eq]; omega
  rw [ew]
  generalize hs2 : (s1.ahead z).setV 3 (1032 + z) = s2
  have v23 : s2.v 3 = 1032 + z := by subst hs2; rfl
  have v22 : s2.v 2 = 1032 + xs.length := by subst hs2; exact v12
  have v21 : s2.v 1 = 1032 := by subst hs2; exact v11
  have sm2 : Same s2 (startM xs) := by subst hs2; exact sm1
  clear hs2 e1 ew v13 v12 v11 sm1
  by_cases hlen : xs.length < szOf (20 + s)
  · have e2 : doK (I (0 + 1 + (0 : Int).toNat + 1 + (0 : Int).toNat)) (s2.ahead (I (0 + 1 + (0 : Int).toNat + 1 + (0 : Int).toNat)).n) = some (s2.ahead 0, 8) := by
      rw [show 0 + 1 + (0 : Int).toNat + 1 + (0 : Int).toNat = 2 from rfl, hp 2 _ rfl]
      show some (s2.ahead 0, if cpR 33 (s2.v 3) (s2.v 2) then (8 : Int) else 0) = _
      have : cpR 33 (s2.v 3) (s2.v 2) = true := by rw [v23, v22]; show decide _ = true; simp; omega
      rw [this]; rfl
    rw [run_step (by decide) e2, sumV, if_neg (by omega)]
    exact tail 11 8 (s2.ahead 0) 3 sm2 (by decide) (hp 11 _ rfl) (hp 12 _ rfl) (by decide) (by decide)
  · have e2 : doK (I (0 + 1 + (0 : Int).toNat + 1 + (0 : Int).toNat)) (s2.ahead (I (0 + 1 + (0 : Int).toNat + 1 + (0 : Int).toNat)).n) = some (s2.ahead 0, 0) := by
      rw [show 0 + 1 + (0 : Int).toNat + 1 + (0 : Int).toNat = 2 from rfl, hp 2 _ rfl]
      show some (s2.ahead 0, if cpR 33 (s2.v 3) (s2.v 2) then (8 : Int) else 0) = _
      have : cpR 33 (s2.v 3) (s2.v 2) = false := by rw [v23, v22]; show decide _ = false; simp; omega
      rw [this]; rfl
    rw [run_step (by decide) e2]
    generalize hs3 : s2.ahead 0 = s3
    have v31 : s3.v 1 = 1032 := by subst hs3; exact v21
    have sm3 : Same s3 (startM xs) := by subst hs3; exact sm2
    clear hs3 e2 v23 v22 v21 sm2
    have hm : ∀ t, s3.m (32 + t) = xs.getD t 0 := fun t => by rw [sm3.1]; show (if 32 ≤ 32 + t then xs.getD (32 + t - 32) 0 else 0) = _; rw [if_pos (by omega), show 32 + t - 32 = t from by omega]
    have hmb : ∀ i, 0 ≤ s3.m i ∧ s3.m i ≤ 255 := fun i => by
      rw [sm3.1]; show 0 ≤ (if 32 ≤ i then xs.getD (i - 32) 0 else 0) ∧ (if 32 ≤ i then xs.getD (i - 32) 0 else 0) ≤ 255
      split
      · exact hxb _
      · omega
    have hld : (s3.ahead 0).ld 32 (szOf (20 + s)) = hN (fun t => xs.getD t 0) (szOf (20 + s)) 0 := by
      rw [ld_eq (s3.ahead 0) 32 (szOf (20 + s)) hmb hsz.2]
      exact hN_congr _ 0 (fun t _ => hm t)
    have e3 : doK (I 3) (s3.ahead (I 3).n) = some ((s3.ahead 0).setV 5 (hN (fun t => xs.getD t 0) (szOf (20 + s)) 0), 0) := by
      rw [hp 3 _ rfl, doK_ld ⟨by show 20 ≤ 20 + s; omega, by show 20 + s ≤ 23; omega⟩]
      have ha : acc (s3.ahead 0) 1 0 = ((32 : Nat) : Int) := by show s3.v 1 + 0 - 1000 = _; rw [v31]; rfl
      have ha2 : accOk (s3.ahead 0) 1 0 (szOf (20 + s)) = true := by unfold accOk; rw [ha]; simp; omega
      show (if accOk (s3.ahead 0) 1 0 (szOf (20 + s)) then some ((s3.ahead 0).setV 5 ((s3.ahead 0).ld (acc (s3.ahead 0) 1 0).toNat (szOf (20 + s))), (0 : Int)) else none) = _
      rw [ha2, ha, Int.toNat_natCast, hld]; rfl
    rw [show 0 + 1 + (0 : Int).toNat + 1 + (0 : Int).toNat + 1 + (0 : Int).toNat = 3 from rfl, run_step (by decide) e3]
    have hNb := hN_bd (g := fun t => xs.getD t 0) hxb (szOf (20 + s)) 0
    have h8 : (256 : Int) ^ (szOf (20 + s)) ≤ 256 ^ 8 := by rcases (show s = 0 ∨ s = 1 ∨ s = 2 ∨ s = 3 from by omega) with rfl | rfl | rfl | rfl <;> decide
    rw [sumV, if_pos (by omega)]
    generalize hN (fun t => xs.getD t 0) (szOf (20 + s)) 0 = y at hNb
    generalize hs4' : (s3.ahead 0).setV 5 y = s4
    have v45 : s4.v 5 = y := by subst hs4'; rfl
    have sm4 : Same s4 (startM xs) := by subst hs4'; exact sm3
    clear hs4' e3 v31 sm3 hm hmb hld
    have e4 : doK (I (3 + 1 + (0 : Int).toNat)) (s4.ahead (I (3 + 1 + (0 : Int).toNat)).n) = some ((s4.ahead b).setV 5 (wkR k y (w64 b)), 0) := by
      rw [show 3 + 1 + (0 : Int).toNat = 4 from rfl, hp 4 _ rfl, doK_wk (.inr ⟨by show 130 ≤ k + 128; omega, by show k + 128 ≤ 139; omega⟩)]
      show some ((s4.ahead b).setV 5 (wkR ((k + 128) % 128) (s4.v 5) ((s4.ahead b).v (In5.pi ⟨k + 128, 5, 0, 0, b⟩).r)), (0 : Int)) = _
      rw [r_imm (x := In5.pi ⟨k + 128, 5, 0, 0, b⟩) (by show 128 ≤ k + 128; omega), show (k + 128) % 128 = k from by omega, v45]; rfl
    rw [run_step (by decide) e4]
    have hwb := wkR_bd k (a := y) (b := w64 b) hNb.1 (by omega) (w64_bd b).1
    generalize wkR k y (w64 b) = u at hwb
    generalize hs5 : (s4.ahead b).setV 5 u = s5
    have v55 : s5.v 5 = u := by subst hs5; rfl
    have sm5 : Same s5 (startM xs) := by subst hs5; exact sm4
    clear hs5 e4 v45 sm4
    have e5 : doK (I (3 + 1 + (0 : Int).toNat + 1 + (0 : Int).toNat)) (s5.ahead (I (3 + 1 + (0 : Int).toNat + 1 + (0 : Int).toNat)).n) = some ((s5.ahead 255).setV 5 (u % 256), 0) := by
      rw [show 3 + 1 + (0 : Int).toNat + 1 + (0 : Int).toNat = 5 from rfl, hp 5 _ rfl]
      show some ((s5.ahead 255).setV 5 (bits .and .u64 (s5.v 5) (w64 255)), (0 : Int)) = _
      rw [v55, show w64 255 = 255 from by rw [w64_eq]; decide, and255 u hwb.1 hwb.2]
    rw [run_step (by decide) e5]
    generalize hs6 : (s5.ahead 255).setV 5 (u % 256) = s6
    have v65 : s6.v 5 = u % 256 := by subst hs6; rfl
    have sm6 : Same s6 (startM xs) := by subst hs6; exact sm5
    clear hs6 e5 v55 sm5
    have e6 : doK (I (3 + 1 + (0 : Int).toNat + 1 + (0 : Int).toNat + 1 + (0 : Int).toNat)) (s6.ahead (I (3 + 1 + (0 : Int).toNat + 1 + (0 : Int).toNat + 1 + (0 : Int).toNat)).n) = some (s6.ahead 100, if 100 < u % 256 then 2 else 0) := by
      rw [show 3 + 1 + (0 : Int).toNat + 1 + (0 : Int).toNat + 1 + (0 : Int).toNat = 6 from rfl, hp 6 _ rfl]
      show some (s6.ahead 100, if cpR 33 (s6.v 5) (w64 100) then (2 : Int) else 0) = _
      rw [v65, show w64 100 = 100 from by rw [w64_eq]; decide]
      show some (s6.ahead 100, if decide (100 < u % 256) = true then (2 : Int) else 0) = _
      simp
    rw [run_step (by decide) e6]
    by_cases hu : 100 < u % 256
    · rw [if_pos hu, if_pos hu]
      exact tail 9 4 (s6.ahead 100) 2 sm6 (by decide) (hp 9 _ rfl) (hp 10 _ rfl) (by decide) (by decide)
    · rw [if_neg hu, if_neg hu]
      exact tail 7 4 (s6.ahead 100) 1 sm6 (by decide) (hp 7 _ rfl) (hp 8 _ rfl) (by decide) (by decide)
end Go.Proofs.YtoobileejdhikaaGreat
