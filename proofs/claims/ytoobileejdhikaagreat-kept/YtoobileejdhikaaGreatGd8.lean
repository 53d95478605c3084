/-
  The statement Writes: its code is let in, and does what is asked.
  append of bytes that came in; a byte written into memory that a call owns.
  The statement Writes: the walk.
-/
import Derived.Test.YtoobileejdhikaaGreatGd5
import Derived.Test.YtoobileejdhikaaGreatGd3
import Derived.Laws.AppendOwnNone
namespace Go.Proofs.YtoobileejdhikaaGreat
open Go.RowKit

theorem stGo_at (n : Int) (F : Nat) : ∀ (k i : Nat) (s : MS), (stGo n F k i s).m = (fun t => if F + i ≤ t ∧ t < F + i + k then n / 2 ^ (8 * (t - F)) % 256 else s.m t) ∧ (stGo n F k i s).v = s.v ∧ (stGo n F k i s).f = s.f ∧ (stGo n F k i s).l = s.l
  | 0, i, s => ⟨by funext t; rw [if_neg (by omega)]; rfl, rfl, rfl, rfl⟩
  | k + 1, i, s => by
    obtain ⟨h1, h2, h3, h4⟩ := stGo_at n F k (i + 1) (s.setM (F + i) (n / 2 ^ (8 * i) % 256))
    refine ⟨?_, h2, h3, h4⟩
    show (stGo n F k (i + 1) _).m = _
    rw [h1]
    funext t
    by_cases e : t = F + i
    · subst e
      rw [if_neg (by omega), if_pos (by omega)]
      show (if F + i = F + i then _ else _) = _
      rw [if_pos rfl, show F + i - F = i from by omega]
    · by_cases e2 : F + (i + 1) ≤ t ∧ t < F + (i + 1) + k
      · rw [if_pos e2, if_pos (by omega)]
      · rw [if_neg e2, if_neg (by omega)]
        show (if t = F + i then _ else s.m t) = _
        rw [if_neg e]
theorem st_at (s : MS) (F k : Nat) (n : Int) : (s.st F k n).m = (fun t => if F ≤ t ∧ t < F + k then n / 2 ^ (8 * (t - F)) % 256 else s.m t) ∧ (s.st F k n).v = s.v ∧ (s.st F k n).f = s.f ∧ (s.st F k n).l = s.l := stGo_at n F k 0 s

def wrtL (K : Nat) (b s : Int) : List In5 := [⟨129, 4, 0, 0, b⟩, ⟨27, 7, 4, s, 0⟩, ⟨1, 3, 1, 0, 0⟩, ⟨130, 3, 0, 0, (K : Int) + 2⟩, ⟨33, 3, 2, 4, 0⟩, ⟨21, 5, 7, s, 0⟩, ⟨25, 1, 5, K, 0⟩, ⟨129, 0, 0, 0, 1⟩, ⟨41, 0, 0, 0, 0⟩, ⟨129, 0, 0, 0, 0⟩, ⟨41, 0, 0, 0, 0⟩]
structure WrtOk (K : Nat) (b s : Int) : Prop where
  kk : K < 60
  b0 : 0 ≤ b
  b1 : b < 2147483648
  s0 : -32 ≤ s
  s1 : s ≤ -8
theorem wrtL_ok {K : Nat} {b s : Int} (h : WrtOk K b s) : ∀ x ∈ wrtL K b s, x.Ok := fun x hx => by
  have := h.kk; have := h.b0; have := h.b1; have := h.s0; have := h.s1
  simp only [wrtL, List.mem_cons, List.not_mem_nil, or_false] at hx
  rcases hx with rfl | rfl | rfl | rfl | rfl | rfl | rfl | rfl | rfl | rfl | rfl <;> exact in5_ok (by decide) (by decide) (by decide) (by omega) (by omega) (by omega) (by omega)
theorem wrtL_fit {K : Nat} {b s : Int} (i : Nat) (x : In5) (hx : (wrtL K b s)[i]? = some x) : fitP x.op x.d x.s x.o x.n (((wrtL K b s).length : Int) - 1 - i) = true ∧ (x.op = 41 ∨ i + 1 < (wrtL K b s).length) := by
  match i, hx with
  | 0, hx => cases hx; exact ⟨rfl, .inr (by show 1 < 11; decide)⟩
  | 1, hx => cases hx; exact ⟨rfl, .inr (by show 2 < 11; decide)⟩
  | 2, hx => cases hx; exact ⟨rfl, .inr (by show 3 < 11; decide)⟩
  | 3, hx => cases hx; exact ⟨rfl, .inr (by show 4 < 11; decide)⟩
  | 4, hx => cases hx; exact ⟨rfl, .inr (by show 5 < 11; decide)⟩
  | 5, hx => cases hx; exact ⟨rfl, .inr (by show 6 < 11; decide)⟩
  | 6, hx => cases hx; exact ⟨rfl, .inr (by show 7 < 11; decide)⟩
  | 7, hx => cases hx; exact ⟨rfl, .inr (by show 8 < 11; decide)⟩
  | 8, hx => cases hx; exact ⟨rfl, .inl rfl⟩
  | 9, hx => cases hx; exact ⟨rfl, .inr (by show 10 < 11; decide)⟩
  | 10, hx => cases hx; exact ⟨rfl, .inl rfl⟩
  | k + 11, hx => exact absurd hx (by simp [wrtL])
theorem wrtL_pi {K : Nat} {b s : Int} (h : WrtOk K b s) (i : Nat) (x : In5) (hx : (wrtL K b s)[i]? = some x) : piOf (lb (cat8 (wrtL K b s))) i = x.pi :=
  cat8_pi _ i x hx (wrtL_ok h x (List.mem_of_getElem? hx))
def Γ4 : Nat → Hd := upd Γ0 4 .num
def wrtP (K : Nat) : Nat → KS → Prop
  | 0 => TS Γ0 0 false
  | 1 => TS Γ4 0 false
  | 2 => TS Γ4 0 false
  | 3 => TS (upd Γ4 3 (.first 0)) 0 false
  | 4 => TS (upd Γ4 3 (.first ((K : Int) + 2))) 0 false
  | 5 => TS Γ4 ((K : Int) + 2) false
  | 6 => TS (upd Γ4 5 .num) ((K : Int) + 2) false
  | 7 => TS Γn 0 false
  | 8 => TS Γn 0 true
  | 9 => TS Γn 0 false
  | 10 => TS Γn 0 true
  | _ => fun _ => True
set_option maxRecDepth 100000 in
theorem wrt_let {K : Nat} {b s : Int} (h : WrtOk K b s) : safeP (piOf (lb (cat8 (wrtL K b s)))) 11 = none := by
  have hp := wrtL_pi h
  have hk := h.kk; have hs0 := h.s0; have hs1 := h.s1
  refine safe_of _ 11 (wrtP K) ts_start (fun i s t hr hs ht => ?_) (fun i st hi hr hs => ?_)
  · match i, hs, ht with
    | 0, hs, ht => exact TS.or hr hs ht
    | 1, hs, ht => exact TS.or hr hs ht
    | 2, hs, ht => exact TS.or hr hs ht
    | 3, hs, ht => exact TS.or hr hs ht
    | 4, hs, ht => exact TS.or hr hs ht
    | 5, hs, ht => exact TS.or hr hs ht
    | 6, hs, ht => exact TS.or hr hs ht
    | 7, hs, ht => exact TS.or hr hs ht
    | 8, hs, ht => exact TS.or hr hs ht
    | 9, hs, ht => exact TS.or hr hs ht
    | 10, hs, ht => exact TS.or hr hs ht
    | k + 11, _, _ => trivial
  · match i, hi, hs with
    | 0, _, hs =>
      rw [hp 0 _ rfl]
      exact go_next (ty_movI rfl hs) (fun a h => h.weak (fun r _ => .inr rfl) (Int.le_refl _) (fun h => by cases h))
    | 1, _, hs =>
      rw [hp 1 _ rfl]
      exact go_next (ty_store (x := In5.pi ⟨27, 7, 4, s, 0⟩) ⟨le_ rfl, le_ rfl⟩ (lt_ rfl) (lt_ rfl) rfl (.inr ⟨0, rfl, by show -32 ≤ 0 + s; omega, by show 0 + s + ((8 : Nat) : Int) ≤ 0; omega⟩) hs) (fun a h => h)
    | 2, _, hs =>
      rw [hp 2 _ rfl]
      exact go_next (ty_movR rfl (by decide) (by decide) hs) (fun a h => h.weak (fun r _ => .inr rfl) (Int.le_refl _) (fun h => h))
    | 3, _, hs =>
      rw [hp 3 _ rfl]
      refine go_next (ty_addI (x := In5.pi ⟨130, 3, 0, 0, (K : Int) + 2⟩) (dp := false) (k := 0) rfl (lt_ rfl) rfl (by decide) (by decide) ?_ ?_ hs) (fun a h => h.weak (fun r _ => ?_) (Int.le_refl _) (fun h => h))
      · show -1000 ≤ 0 + ((K : Int) + 2); omega
      · show 0 + ((K : Int) + 2) ≤ 1000; omega
      · right
        show upd Γ4 3 (.first ((K : Int) + 2)) r = upd (upd Γ4 3 (.first 0)) 3 (.first (0 + ((K : Int) + 2))) r
        rw [upd_twice, Int.zero_add]
    | 4, _, hs =>
      rw [hp 4 _ rfl]
      obtain ⟨x, y, e, h1, h2, h3⟩ := ty_cmp (x := In5.pi ⟨33, 3, 2, 4, 0⟩) (i := ((4 : Nat) : Int)) (.inl ⟨by decide, by decide⟩) (by decide) (.inr ⟨by decide, by decide, (K : Int) + 2, .inl ⟨rfl, rfl⟩⟩) hs
      refine ⟨x, y, e, fun hr => ?_, fun hr => ?_⟩
      · refine (h3 ((K : Int) + 2) rfl rfl rfl hr).weak (fun r _ => ?_) (by omega) (fun h => h)
        by_cases e : r = 3
        · left; subst e; rfl
        · right; show Γ4 r = (if r = 3 then _ else Γ4 r); rw [if_neg e]
      · exact (h2 hr).none (Int.le_refl _)
    | 5, _, hs =>
      rw [hp 5 _ rfl]
      exact go_next (ty_load (x := In5.pi ⟨21, 5, 7, s, 0⟩) ⟨le_ rfl, le_ rfl⟩ (lt_ rfl) (.inr ⟨0, rfl, by show -32 ≤ 0 + s; omega, by show 0 + s + ((2 : Nat) : Int) ≤ 0; omega⟩) hs) (fun a h => h.weak (fun r _ => .inr rfl) (Int.le_refl _) (fun h => h))
    | 6, _, hs =>
      rw [hp 6 _ rfl]
      exact go_next (ty_store (x := In5.pi ⟨25, 1, 5, K, 0⟩) ⟨le_ rfl, le_ rfl⟩ (lt_ rfl) (lt_ rfl) rfl (.inl ⟨0, rfl, by show 0 ≤ 0 + (K : Int); omega, by show 0 + (K : Int) + ((2 : Nat) : Int) ≤ (K : Int) + 2; omega⟩) hs) (fun a h => h.none (by omega))
    | 7, _, hs => rw [hp 7 _ rfl]; exact out_step rfl rfl (by decide) (by decide) hs
    | 8, _, hs => rw [hp 8 _ rfl]; exact go_exit (ty_exit rfl hs)
    | 9, _, hs => rw [hp 9 _ rfl]; exact out_step rfl rfl (by decide) (by decide) hs
    | 10, _, hs => rw [hp 10 _ rfl]; exact go_exit (ty_exit rfl hs)
    | k + 11, hi, _ => exact absurd hi (by omega)
/-- The frame's part of the memory holds these bytes; the bounds are as at the first. -/
structure Fr (s : MS) (ys : List Int) : Prop where
  m : ∀ t, t < ys.length → s.m (32 + t) = ys.getD t 0
  f : s.f = 1032
  l : s.l = 1032 + ys.length
theorem Fr.left {s : MS} {ys : List Int} (h : Fr s ys) : s.left = ys := by
  apply List.ext_getElem?
  intro i
  have e1 : (s.l - s.f).toNat = ys.length := by rw [h.f, h.l]; omega
  have e2 : (s.f - 1000).toNat = 32 := by rw [h.f]; decide
  unfold MS.left
  rw [e1, e2]
  by_cases hi : i < ys.length
  · rw [List.getElem?_map, List.getElem?_range hi]
    show some (s.m (32 + i)) = _
    rw [h.m i hi, List.getElem?_eq_getElem hi]
    simp [List.getElem?_eq_getElem hi]
  · rw [List.getElem?_eq_none (by simp; omega), List.getElem?_eq_none (by omega)]
theorem fr_start (xs : List Int) : Fr (startM xs) xs := ⟨fun t _ => by show (if 32 ≤ 32 + t then xs.getD (32 + t - 32) 0 else 0) = _; rw [if_pos (by omega), show 32 + t - 32 = t from by omega], rfl, rfl⟩
theorem Fr.same {s t : MS} {ys : List Int} (h : Fr t ys) (e : Same s t) : Fr s ys := ⟨fun i hi => by rw [e.1]; exact h.m i hi, e.2.1.trans h.f, e.2.2.trans h.l⟩
def wrtX (K : Nat) (b : Int) (xs : List Int) : List Int := if K + 2 ≤ xs.length then (xs.set K (b % 256)).set (K + 1) (b / 256 % 256) else xs
def wrtV (K : Nat) (xs : List Int) : Int := if K + 2 ≤ xs.length then 1 else 0
theorem wrt_run {K : Nat} {b s : Int} (h : WrtOk K b s) (xs : List Int) :
    ∃ fin, runR (piOf (lb (cat8 (wrtL K b s)))) 11 11 0 (startM xs) = some fin ∧ fin.v 0 = wrtV K xs ∧ fin.left = wrtX K b xs := by
  have hp := wrtL_pi h
  have hk := h.kk; have hs0 := h.s0; have hs1 := h.s1; have hb0 := h.b0; have hb1 := h.b1
  generalize hI : piOf (lb (cat8 (wrtL K b s))) = I at hp
  obtain ⟨F, hF⟩ := Int.eq_ofNat_of_zero_le (show 0 ≤ 32 + s by omega)
  have hF24 : F ≤ 24 := by omega
  have tail : ∀ (i f : Nat) (st : MS) (a : Int) (ys : List Int), Fr st ys → i + 1 < 11 → I i = ⟨129, 0, 0, 0, a⟩ → I (i + 1) = ⟨41, 0, 0, 0, 0⟩ → 0 ≤ a → a ≤ 3 → ∃ fin, runR I 11 (f + 2) i st = some fin ∧ fin.v 0 = a ∧ fin.left = ys := fun i f st a ys hs hi h1 h2 a0 a1 => by
    obtain ⟨e, h1, h2, h3⟩ := run_out (I := I) (n := 11) (f := f) (i := i) (s := st) (a := a) (by decide) hi h1 h2 a0 a1
    exact ⟨e, h1, h2, (hs.same h3).left⟩
  have hwb : w64 b = b := by rw [w64_eq]; omega
  have e0 : doK (I 0) ((startM xs).ahead (I 0).n) = some (((startM xs).ahead b).setV 4 b, 0) := by
    rw [hp 0 _ rfl]
    show some (((startM xs).ahead b).setV 4 (w64 b), (0 : Int)) = _
    rw [hwb]
  rw [run_step (by decide) e0]
  generalize hs1' : ((startM xs).ahead b).setV 4 b = s1
  have v14 : s1.v 4 = b := by subst hs1'; rfl
  have v17 : s1.v 7 = 1032 := by subst hs1'; rfl
  have v12 : s1.v 2 = 1032 + xs.length := by subst hs1'; rfl
  have v11 : s1.v 1 = 1032 := by subst hs1'; rfl
  have f1 : Fr s1 xs := by subst hs1'; exact (fr_start xs).same ⟨rfl, rfl, rfl⟩
  clear hs1' e0
  have e1 : doK (I (0 + 1 + (0 : Int).toNat)) (s1.ahead (I (0 + 1 + (0 : Int).toNat)).n) = some ((s1.ahead 0).st F 8 b, 0) := by
    rw [show 0 + 1 + (0 : Int).toNat = 1 from rfl, hp 1 _ rfl]
    have ha : acc (s1.ahead 0) 7 s = (F : Int) := by show s1.v 7 + s - 1000 = _; rw [v17]; omega
    have ha2 : accOk (s1.ahead 0) 7 s 8 = true := by unfold accOk; rw [ha]; simp; omega
    show (if accOk (s1.ahead 0) 7 s 8 then some ((s1.ahead 0).st (acc (s1.ahead 0) 7 s).toNat 8 (s1.v 4), (0 : Int)) else none) = _
    rw [ha2, ha, Int.toNat_natCast, v14]; rfl
  rw [run_step (by decide) e1]
  obtain ⟨q1, q2, q3, q4⟩ := st_at (s1.ahead 0) F 8 b
  generalize (s1.ahead 0).st F 8 b = s2 at q1 q2 q3 q4
  have v22 : s2.v 2 = 1032 + xs.length := by rw [q2]; exact v12
  have v21 : s2.v 1 = 1032 := by rw [q2]; exact v11
  have v27 : s2.v 7 = 1032 := by rw [q2]; exact v17
  have f2 : Fr s2 xs := ⟨fun t ht => by rw [q1]; dsimp only; rw [if_neg (by omega)]; exact f1.m t ht, q3.trans f1.f, q4.trans f1.l⟩
  have mF : ∀ t, t < 8 → s2.m (F + t) = b / 2 ^ (8 * t) % 256 := fun t ht => by rw [q1]; dsimp only; rw [if_pos (by omega), show F + t - F = t from by omega]
  clear e1 q1 q2 q3 q4 v14 v17 v12 v11 f1
  have e2 : doK (I (0 + 1 + (0 : Int).toNat + 1 + (0 : Int).toNat)) (s2.ahead (I (0 + 1 + (0 : Int).toNat + 1 + (0 : Int).toNat)).n) = some ((s2.ahead 0).setV 3 1032, 0) := by
    rw [show 0 + 1 + (0 : Int).toNat + 1 + (0 : Int).toNat = 2 from rfl, hp 2 _ rfl]
    show some ((s2.ahead 0).setV 3 (s2.v 1), (0 : Int)) = _
    rw [v21]
  rw [run_step (by decide) e2]
  generalize hs3 : (s2.ahead 0).setV 3 1032 = s3
  have v33 : s3.v 3 = 1032 := by subst hs3; rfl
  have v32 : s3.v 2 = 1032 + xs.length := by subst hs3; exact v22
  have v31 : s3.v 1 = 1032 := by subst hs3; exact v21
  have v37 : s3.v 7 = 1032 := by subst hs3; exact v27
  have f3 : Fr s3 xs := by subst hs3; exact f2.same ⟨rfl, rfl, rfl⟩
  have m3 : ∀ t, t < 8 → s3.m (F + t) = b / 2 ^ (8 * t) % 256 := by subst hs3; exact mF
  clear hs3 e2 v22 v21 v27 f2 mF
  have e3 : doK (I (0 + 1 + (0 : Int).toNat + 1 + (0 : Int).toNat + 1 + (0 : Int).toNat)) (s3.ahead (I (0 + 1 + (0 : Int).toNat + 1 + (0 : Int).toNat + 1 + (0 : Int).toNat)).n) = some ((s3.ahead ((K : Int) + 2)).setV 3 (1034 + K), 0) := by
    rw [show 0 + 1 + (0 : Int).toNat + 1 + (0 : Int).toNat + 1 + (0 : Int).toNat = 3 from rfl, hp 3 _ rfl]
    show some ((s3.ahead ((K : Int) + 2)).setV 3 (w64 (s3.v 3 + w64 ((K : Int) + 2))), (0 : Int)) = _
    rw [v33, show w64 (1032 + w64 ((K : Int) + 2)) = 1034 + K from by rw [w64_eq, w64_eq]; omega]
  rw [run_step (by decide) e3]
  generalize hs4 : (s3.ahead ((K : Int) + 2)).setV 3 (1034 + (K : Int)) = s4
  have v43 : s4.v 3 = 1034 + K := by subst hs4; rfl
  have v42 : s4.v 2 = 1032 + xs.length := by subst hs4; exact v32
  have v41 : s4.v 1 = 1032 := by subst hs4; exact v31
  have v47 : s4.v 7 = 1032 := by subst hs4; exact v37
  have f4 : Fr s4 xs := by subst hs4; exact f3.same ⟨rfl, rfl, rfl⟩
  have m4 : ∀ t, t < 8 → s4.m (F + t) = b / 2 ^ (8 * t) % 256 := by subst hs4; exact m3
  clear hs4 e3 v33 v32 v31 v37 f3 m3
  rw [show 0 + 1 + (0 : Int).toNat + 1 + (0 : Int).toNat + 1 + (0 : Int).toNat + 1 + (0 : Int).toNat = 4 from rfl]
  by_cases hlen : xs.length < K + 2
  · have e4 : doK (I 4) (s4.ahead (I 4).n) = some (s4.ahead 0, 4) := by
      rw [hp 4 _ rfl]
      show some (s4.ahead 0, if cpR 33 (s4.v 3) (s4.v 2) then (4 : Int) else 0) = _
      have : cpR 33 (s4.v 3) (s4.v 2) = true := by rw [v43, v42]; show decide _ = true; simp; omega
      rw [this]; rfl
    rw [run_step (by decide) e4, wrtV, wrtX, if_neg (by omega), if_neg (by omega)]
    exact tail 9 4 (s4.ahead 0) 0 xs (f4.same ⟨rfl, rfl, rfl⟩) (by decide) (hp 9 _ rfl) (hp 10 _ rfl) (by decide) (by decide)
  · have e4 : doK (I 4) (s4.ahead (I 4).n) = some (s4.ahead 0, 0) := by
      rw [hp 4 _ rfl]
      show some (s4.ahead 0, if cpR 33 (s4.v 3) (s4.v 2) then (4 : Int) else 0) = _
      have : cpR 33 (s4.v 3) (s4.v 2) = false := by rw [v43, v42]; show decide _ = false; simp; omega
      rw [this]; rfl
    rw [run_step (by decide) e4, wrtV, wrtX, if_pos (by omega), if_pos (by omega)]
    have hbits : bits .or .u64 (bits .or .u64 0 (IntKind.u64.wrap (b % 256 * 2 ^ (8 * 0)))) (IntKind.u64.wrap (b / 256 % 256 * 2 ^ (8 * 1))) = b % 65536 := by
      have h1 := or_add (n := 0) (b := b % 256) (i := 0) (by decide) (by decide) (by omega) (by omega) (by decide)
      rw [h1]
      have h2 := or_add (n := 0 + b % 256 * 2 ^ (8 * 0)) (b := b / 256 % 256) (i := 1) (by simp; omega) (by simp; omega) (by omega) (by omega) (by decide)
      rw [h2]
      simp; omega
    have e5 : doK (I 5) ((s4.ahead 0).ahead (I 5).n) = some (((s4.ahead 0).ahead 0).setV 5 (b % 65536), 0) := by
      rw [hp 5 _ rfl]
      have ha : acc ((s4.ahead 0).ahead 0) 7 s = (F : Int) := by show s4.v 7 + s - 1000 = _; rw [v47]; omega
      have ha2 : accOk ((s4.ahead 0).ahead 0) 7 s 2 = true := by unfold accOk; rw [ha]; simp; omega
      show (if accOk ((s4.ahead 0).ahead 0) 7 s 2 then some (((s4.ahead 0).ahead 0).setV 5 (((s4.ahead 0).ahead 0).ld (acc ((s4.ahead 0).ahead 0) 7 s).toNat 2), (0 : Int)) else none) = _
      rw [ha2, ha, Int.toNat_natCast]
      have hl : ((s4.ahead 0).ahead 0).ld F 2 = b % 65536 := by
        show bits .or .u64 (bits .or .u64 0 (IntKind.u64.wrap (s4.m (F + 0) * 2 ^ (8 * 0)))) (IntKind.u64.wrap (s4.m (F + 1) * 2 ^ (8 * 1))) = _
        rw [m4 0 (by decide), m4 1 (by decide)]
        simpa using hbits
      rw [hl]; rfl
    rw [show 4 + 1 + (0 : Int).toNat = 5 from rfl, run_step (by decide) e5]
    generalize hs6 : ((s4.ahead 0).ahead 0).setV 5 (b % 65536) = s6
    have v65 : s6.v 5 = b % 65536 := by subst hs6; rfl
    have v61 : s6.v 1 = 1032 := by subst hs6; exact v41
    have f6 : Fr s6 xs := by subst hs6; exact f4.same ⟨rfl, rfl, rfl⟩
    clear hs6 e5 e4 v43 v42 v41 v47 f4 m4
    have e6 : doK (I (5 + 1 + (0 : Int).toNat)) (s6.ahead (I (5 + 1 + (0 : Int).toNat)).n) = some ((s6.ahead 0).st (32 + K) 2 (b % 65536), 0) := by
      rw [show 5 + 1 + (0 : Int).toNat = 6 from rfl, hp 6 _ rfl]
      have ha : acc (s6.ahead 0) 1 (K : Int) = ((32 + K : Nat) : Int) := by show s6.v 1 + (K : Int) - 1000 = _; rw [v61]; omega
      have ha2 : accOk (s6.ahead 0) 1 (K : Int) 2 = true := by unfold accOk; rw [ha]; simp; omega
      show (if accOk (s6.ahead 0) 1 (K : Int) 2 then some ((s6.ahead 0).st (acc (s6.ahead 0) 1 (K : Int)).toNat 2 (s6.v 5), (0 : Int)) else none) = _
      rw [ha2, ha, Int.toNat_natCast, v65]; rfl
    rw [run_step (by decide) e6]
    obtain ⟨q1, q2, q3, q4⟩ := st_at (s6.ahead 0) (32 + K) 2 (b % 65536)
    generalize (s6.ahead 0).st (32 + K) 2 (b % 65536) = s7 at q1 q2 q3 q4
    have f7 : Fr s7 ((xs.set K (b % 256)).set (K + 1) (b / 256 % 256)) := by
      refine ⟨fun t ht => ?_, q3.trans f6.f, by rw [q4]; show s6.l = _; simpa using f6.l⟩
      have ht' : t < xs.length := by simpa using ht
      rw [q1]
      dsimp only
      by_cases e1 : t = K
      · subst e1
        rw [if_pos (by omega), show 32 + t - (32 + t) = 0 from by omega]
        simp [ht']
      · by_cases e2 : t = K + 1
        · subst e2
          rw [if_pos (by omega), show 32 + (K + 1) - (32 + K) = 1 from by omega]
          simp [ht']; omega
        · rw [if_neg (by omega)]
          have := f6.m t ht'
          rw [show (s6.ahead 0).m (32 + t) = s6.m (32 + t) from rfl, this]
          simp [Ne.symm e1, Ne.symm e2]
    exact tail 7 2 s7 1 _ f7 (by decide) (hp 7 _ rfl) (hp 8 _ rfl) (by decide) (by decide)
end Go.Proofs.YtoobileejdhikaaGreat

namespace Go.Proofs.YtoobileejdhikaaGreat
open Go.RowKit

theorem grown_refl (w : World) (r : Option Nat) : w.grownBy w r := ⟨rfl, rfl, rfl, Nat.le_refl _, fun _ _ _ => rfl⟩
/-- append of bytes, nil or not, onto memory that the call owns. -/
theorem wpList_appB {w : World} {ops : Array Oper} {rest : List Oper} {o : Oper} {a : Act} {Q : Exit → Act → World → Prop} (hgd : o.guard = none) (s x : Operand)
    (ho : o.op = .call { callee := .builtin .append, args := #[s, x], argTypes := #[22, 22] }) (base : Nat) (v : Value) (xs ys : List Int) (ad : Option Addr) (n c : Nat) (hs : a.eval s = v) (hown : Bys w base v xs) (hx : a.eval x = .slice ad n c) (hn : ys.length = n) (hp : BytesAt w ad ys) (hnil : ad = none → n = 0 ∧ c = 0)
    (h63 : xs.length + ys.length ≤ 140737488355328) (hbase : base ≤ w.heap.size)
    (h : ∀ v' w', Bys w' base v' (xs ++ ys) → w.grownBy w' v.ownBlock → wpList Tryz.prog ops Q rest (a.put o.dst v') w') : wpList Tryz.prog ops Q (o :: rest) a w := by
  obtain ⟨i0, hi, hz0, hz1, hz2⟩ := info_partsX infoU8
  cases ad with
  | none =>
    obtain ⟨rfl, rfl⟩ := hnil rfl
    have hy : ys = [] := List.eq_nil_of_length_eq_zero hn
    subst hy
    refine wpList_append_own_none hgd s x 22 ho base 5 i0 1 Tryz.underlying22 hi v xs.length (byV xs) hs hown hx (h v w ?_ (grown_refl _ _))
    rw [List.append_nil]; exact hown
  | some ad =>
    have hp' : ∀ j u, (byV ys)[j]? = some u → w.cell? (ad.add j) = some u := fun j u hj => by
      rcases hp with rfl | ⟨ad', e, hp⟩
      · simp [byV] at hj
      · cases e; exact hp j u hj
    refine wpList_append_own _ hgd s x 22 ho base 5 i0 _ 1 1 Tryz.underlying22 hi hz0 hz1 hz2 rfl (by omega) v xs.length (byV xs) hs hown ad n c (byV ys) hx (by rw [byV_len]; omega) hp' (byV_one ys) (by unfold maxLen; omega) (by omega) hbase ?_
    intro v1 w1 h1 h2 _
    refine h v1 w1 ?_ h2
    unfold Bys
    rw [List.length_append, hn]
    have : byV (xs ++ ys) = byV xs ++ byV ys := by simp [byV]
    rw [this]; exact h1
theorem Bys.cell {w : World} {b g n cap : Nat} {xs : List Int} (h : Bys w b (.slice (some ⟨g, 0, none⟩) n cap) xs) {i : Nat} (hi : i < xs.length) : w.cell? ⟨g, i, none⟩ = some (.int .u8 (xs.getD i 0)) ∧ w.frozen? ⟨g, i, none⟩ = false := by
  refine ⟨?_, ?_⟩
  · have := World.ownsRow.cells h (g := g) rfl i (.int .u8 (xs.getD i 0)) (by simp [byV, List.getElem?_eq_getElem hi])
    rw [addr_add, Nat.zero_add] at this
    exact this
  · obtain ⟨_, h1 | ⟨g', cap', cur, h1, h2, h3, _⟩⟩ := h
    · simp at h1
    · simp only [Value.slice.injEq, Option.some.injEq, Addr.mk.injEq] at h1
      obtain ⟨⟨rfl, _⟩, _, rfl⟩ := h1
      exact frozen_of_row w g _ cur _ h3
/-- A byte written. -/
theorem Bys.set {w : World} {b g n cap : Nat} {xs : List Int} (h : Bys w b (.slice (some ⟨g, 0, none⟩) n cap) xs) (i : Nat) (c : Int) : Bys (w.setCell ⟨g, i, none⟩ (.int .u8 c)) b (.slice (some ⟨g, 0, none⟩) n cap) (xs.set i c) := by
  obtain ⟨h0, h1 | ⟨g', cap', cur, h1, h2, h3, h4, h5, h6, h7⟩⟩ := h
  · simp at h1
  · simp only [Value.slice.injEq, Option.some.injEq, Addr.mk.injEq] at h1
    obtain ⟨⟨rfl, _⟩, e, rfl⟩ := h1
    have hb := heap_setCell_same w g i cur _ (.int .u8 c) h3
    refine ⟨by simp [byV], .inr ⟨g, cap, cur.setIfInBounds i (.int .u8 c), by simp [e], h2, hb, by simpa using h4, h5, by simpa using h6, ?_⟩⟩
    simp only [Array.toList_setIfInBounds, List.length_set]
    rw [List.take_set, h7]
    simp [byV, List.map_set]
theorem Bys.setOther {w : World} {b : Nat} {v : Value} {xs : List Int} (h : Bys w b v xs) {q o : Nat} (hq : v.ownBlock ≠ some q) (u : Value) : Bys (w.setCell ⟨q, o, none⟩ u) b v xs := by
  obtain ⟨h0, h1 | ⟨g, cap, cur, h1, h2, h3, h4⟩⟩ := h
  · exact ⟨h0, .inl h1⟩
  · subst h1
    refine ⟨h0, .inr ⟨g, cap, cur, rfl, h2, ?_, h4⟩⟩
    rw [heap_setCell_other w ⟨q, o, none⟩ g u (by intro e; apply hq; simp [Value.ownBlock]; exact e)]
    exact h3
end Go.Proofs.YtoobileejdhikaaGreat

namespace Go.Proofs.YtoobileejdhikaaGreat
open Go.RowKit

theorem bys_slice {w : World} {b n : Nat} {v : Value} {xs : List Int} (hn : xs.length = n) (h : Bys w b v xs) : ∃ la lc, v = .slice la n lc ∧ BytesAt w la xs := by
  have h' := h
  obtain ⟨h0, ⟨rfl, h1⟩ | ⟨g, cap, cur, rfl, _⟩⟩ := h'
  · exact ⟨none, 0, by rw [← hn, h1], .inl (List.eq_nil_of_length_eq_zero h1)⟩
  · exact ⟨_, cap, by rw [hn], .inr ⟨_, rfl, fun j u hj => World.ownsRow.cells h (g := g) rfl j u hj⟩⟩
theorem ownNil {q : Nat} (h : (Value.slice none 0 0).ownBlock = some q) : False := by cases h
set_option maxRecDepth 100000 in
set_option maxHeartbeats 1000000 in
theorem writes_walk (place n slot : Int) (fa : Option Addr) (b off len cap : Nat) (A : Nat → Option Addr) (L C : Nat → Nat) (Z : Nat → List Int) (w : World)
    (hplace : -9223372036854775808 ≤ place ∧ place ≤ 9223372036854775807) (hn : -9223372036854775808 ≤ n ∧ n ≤ 9223372036854775807) (hslot : -9223372036854775808 ≤ slot ∧ slot ≤ 9223372036854775807)
    (hfa : 0 < len → fa = some ⟨b, off, none⟩) (hfr : FrAt w b off len A L C Z) (hlen : len ≤ 9223372036854775807) :
    Calls Tryz.prog 11 #[.int .i64 place, .int .i64 n, .int .i64 slot, .slice fa len cap] w fun e w' => e = .returned (.bool true) ∧ Below w.heap.size w w' := by
  have HFRS := hideX hfr
  have HFA := hideX hfa
  clear hfr hfa
  go_enter Tryz.func11, Tryz.ntmps11
  go_wp2_with fail
  refine (wpick_any place 60 w hplace.1 hplace.2 (by decide) (by decide)).mono ?_
  rintro e w' ⟨rfl, rfl⟩
  obtain ⟨K, hK⟩ := Int.eq_ofNat_of_zero_le (pickR_bd place 60 (by decide)).1
  have hKb : K < 60 := by have := (pickR_bd place 60 (by decide)).2; omega
  rw [hK]
  clear hK
  go_wp2_with fail
  refine (wpick_any n 2147483648 w hn.1 hn.2 (by decide) (by decide)).mono ?_
  rintro e w' ⟨rfl, rfl⟩
  have hbb0 := (pickR_bd n 2147483648 (by decide)).1
  have hbb1 := (pickR_bd n 2147483648 (by decide)).2
  generalize pickR n 2147483648 = bb at hbb0 hbb1 ⊢
  go_wp2_with fail
  refine (wpick_any slot 25 w hslot.1 hslot.2 (by decide) (by decide)).mono ?_
  rintro e w' ⟨rfl, rfl⟩
  have hsp0 := (pickR_bd slot 25 (by decide)).1
  have hsp1 := (pickR_bd slot 25 (by decide)).2
  generalize pickR slot 25 = sp at hsp0 hsp1 ⊢
  go_wp2_with fail
  refine (wmov_any 4 bb _ (by decide) (by decide)).mono ?_
  rintro e W1 ⟨g1, c1, rfl, o1, h1⟩
  have B := h1
  have p1 := hideX (o1.part (by show 0 < 8; decide))
  clear o1 h1
  go_wp2_with fail
  refine (wins_any 27 7 4 (sp - 32) 0 _ (by decide) (by decide) (by decide) (by decide) (by decide) (by decide)).mono ?_
  rintro e W2 ⟨g2, c2, rfl, o2, h2⟩
  replace p1 := hideX (p1.out.later h2)
  replace B := B.trans (h2.mono B.size)
  have p2 := hideX (o2.part (by show 0 < 8; decide))
  clear o2 h2
  go_wp2_with fail
  refine (wtest_any ((K : Int) + 2) 4 _).mono ?_
  rintro e W3 ⟨g3, c3, rfl, o3, h3⟩
  replace p1 := hideX (p1.out.later h3)
  replace p2 := hideX (p2.out.later h3)
  replace B := B.trans (h3.mono B.size)
  have p3 := hideX (o3.part (by show 0 < 24; decide))
  clear o3 h3
  go_wp2_with fail
  refine (wins_any 21 5 7 (sp - 32) 0 _ (by decide) (by decide) (by decide) (by decide) (by decide) (by decide)).mono ?_
  rintro e W4 ⟨g4, c4, rfl, o4, h4⟩
  replace p1 := hideX (p1.out.later h4)
  replace p2 := hideX (p2.out.later h4)
  replace p3 := hideX (p3.out.later h4)
  replace B := B.trans (h4.mono B.size)
  have p4 := hideX (o4.part (by show 0 < 8; decide))
  clear o4 h4
  go_wp2_with fail
  refine (wins_any 25 1 5 (K : Int) 0 _ (by decide) (by decide) (by decide) (by decide) (by decide) (by decide)).mono ?_
  rintro e W5 ⟨g5, c5, rfl, o5, h5⟩
  replace p1 := hideX (p1.out.later h5)
  replace p2 := hideX (p2.out.later h5)
  replace p3 := hideX (p3.out.later h5)
  replace p4 := hideX (p4.out.later h5)
  replace B := B.trans (h5.mono B.size)
  have p5 := hideX (o5.part (by show 0 < 8; decide))
  clear o5 h5
  go_wp2_with fail
  refine (wout_any 1 _).mono ?_
  rintro e W6 ⟨g6, c6, rfl, o6, h6⟩
  replace p1 := hideX (p1.out.later h6)
  replace p2 := hideX (p2.out.later h6)
  replace p3 := hideX (p3.out.later h6)
  replace p4 := hideX (p4.out.later h6)
  replace p5 := hideX (p5.out.later h6)
  replace B := B.trans (h6.mono B.size)
  have p6 := hideX (o6.part (by show 0 < 16; decide))
  clear o6 h6
  go_wp2_with fail
  refine (wout_any 0 _).mono ?_
  rintro e W7 ⟨g7, c7, rfl, o7, h7⟩
  replace p1 := hideX (p1.out.later h7)
  replace p2 := hideX (p2.out.later h7)
  replace p3 := hideX (p3.out.later h7)
  replace p4 := hideX (p4.out.later h7)
  replace p5 := hideX (p5.out.later h7)
  replace p6 := hideX (p6.out.later h7)
  replace B := B.trans (h7.mono B.size)
  have p7 := hideX (o7.part (by show 0 < 16; decide))
  clear o7 h7
  have hA8 : Below W7.heap.size W7 (W7.alloc (.cells #[Value.slice (some ⟨g1, 0, none⟩) 8 c1, Value.slice (some ⟨g2, 0, none⟩) 8 c2, Value.slice (some ⟨g3, 0, none⟩) 24 c3, Value.slice (some ⟨g4, 0, none⟩) 8 c4, Value.slice (some ⟨g5, 0, none⟩) 8 c5, Value.slice (some ⟨g6, 0, none⟩) 16 c6, Value.slice (some ⟨g7, 0, none⟩) 16 c7] 22)) := (Below.refl _ _).alloc (Nat.le_refl _) _
  have C8 := fun (wx : World) (hx : wx = (W7.alloc (.cells #[Value.slice (some ⟨g1, 0, none⟩) 8 c1, Value.slice (some ⟨g2, 0, none⟩) 8 c2, Value.slice (some ⟨g3, 0, none⟩) 24 c3, Value.slice (some ⟨g4, 0, none⟩) 8 c4, Value.slice (some ⟨g5, 0, none⟩) 8 c5, Value.slice (some ⟨g6, 0, none⟩) 16 c6, Value.slice (some ⟨g7, 0, none⟩) 16 c7] 22))) => wcode_any W7.heap.size 7 7 (fun i => [Value.slice (some ⟨g1, 0, none⟩) 8 c1, Value.slice (some ⟨g2, 0, none⟩) 8 c2, Value.slice (some ⟨g3, 0, none⟩) 24 c3, Value.slice (some ⟨g4, 0, none⟩) 8 c4, Value.slice (some ⟨g5, 0, none⟩) 8 c5, Value.slice (some ⟨g6, 0, none⟩) 16 c6, Value.slice (some ⟨g7, 0, none⟩) 16 c7].getD i .nilFunc) (fun i => [insB 129 4 0 0 bb, insB 27 7 4 (sp - 32) 0, testB ((K : Int) + 2) 4, insB 21 5 7 (sp - 32) 0, insB 25 1 5 (K : Int) 0, (insB 129 0 0 0 1 ++ insB 41 0 0 0 0), (insB 129 0 0 0 0 ++ insB 41 0 0 0 0)].getD i []) wx (by decide) (fun i hi => by match i, hi with | 0, _ => exact (by decide : 8 ≤ 100) | 1, _ => exact (by decide : 8 ≤ 100) | 2, _ => exact (by decide : 24 ≤ 100) | 3, _ => exact (by decide : 8 ≤ 100) | 4, _ => exact (by decide : 8 ≤ 100) | 5, _ => exact (by decide : 16 ≤ 100) | 6, _ => exact (by decide : 16 ≤ 100)) (fun i hi => by subst hx; match i, hi with | 0, _ => simp [go_sem] | 1, _ => simp [go_sem] | 2, _ => simp [go_sem] | 3, _ => simp [go_sem] | 4, _ => simp [go_sem] | 5, _ => simp [go_sem] | 6, _ => simp [go_sem]) (fun i hi => by subst hx; match i, hi with | 0, _ => exact p1.out.later hA8 | 1, _ => exact p2.out.later hA8 | 2, _ => exact p3.out.later hA8 | 3, _ => exact p4.out.later hA8 | 4, _ => exact p5.out.later hA8 | 5, _ => exact p6.out.later hA8 | 6, _ => exact p7.out.later hA8) 88 rfl (by decide)
  go_wp2_with fail
  refine (C8 _ rfl).mono ?_
  rintro e W8 ⟨g8, c8, rfl, o8, h8⟩
  replace h8 := hA8.trans (h8.mono hA8.size)
  replace B := B.trans (h8.mono B.size)
  replace o8 := hideX o8
  clear C8 hA8 p1 p2 p3 p4 p5 p6 p7
  have hP : WrtOk K bb (sp - 32) := ⟨hKb, hbb0, hbb1, by omega, by omega⟩
  obtain ⟨hby, hgood⟩ := cat8_is (wrtL K bb (sp - 32)) (wrtL_ok hP) wrtL_fit
  have oF : Bys W8 _ _ (cat8 (wrtL K bb (sp - 32))) := o8.out
  have CL := wlet_any (n := 11) W8 (cat8_len _) (by decide) (by decide) hby oF hgood (wrt_let hP)
  have HCL := hideX CL
  clear CL oF o8
  go_wp2_with fail
  refine HCL.out.mono ?_
  rintro e W9 ⟨ff, gg, cc, rfl, hF, hfl, hgl, h9⟩
  replace B := B.trans (h9.mono B.size)
  clear h9 HCL
  have HF := hideX hF
  have HGd := hideX hgood
  have HBy := hideX hby
  have HP := hideX hP
  clear hF hgood hby hP
  obtain ⟨fin0, r01, r02, r03⟩ := wrt_run HP.out []
  rw [wrtV, if_neg (by simp)] at r02
  rw [wrtX, if_neg (by simp)] at r03
  have CN := says_any (n := 11) ff gg cc none 0 0 [] 0 none 0 0 [] W9 fin0 (cat8_len _) (by decide) (by decide) HF.out HBy.out HGd.out rfl (by decide) (.inl rfl) (fun x hx => by cases hx) r01 r02 (by decide) rfl (.inl rfl) r03
  have HCN := hideX CN
  clear CN r01 r02 r03
  go_wp2_with fail
  refine HCN.out.mono ?_
  rintro e WN ⟨rfl, hN1⟩
  replace HF := hideX (HF.out.keep hN1)
  replace B := B.trans (hN1.mono B.size)
  clear HCN hN1 fin0
  go_wp2_with fail
  go_loopw [13, 14] (fun ok i wr => ∃ j : Nat, j ≤ len ∧ i = .int .i64 j ∧ ok = .bool true ∧ Hid (FiltAt wr ff gg cc (cat8 (wrtL K bb (sp - 32)))) ∧ Below w.heap.size w wr) (fun _ i _ => len - (intOf i).toNat)
  case atStart => exact ⟨0, by omega, rfl, rfl, HF, B⟩
  case round =>
    obtain ⟨j, hj, rfl, rfl, HFr, hb⟩ := hrel
    clear HF B
    by_cases hlt : j < len
    · obtain rfl := HFA.out (by omega)
      have i1 : (0 : Int) ≤ (j : Int) := by omega
      have i2 : (j : Int) < (len : Int) := by omega
      have hfr := HFRS.out.later hb
      have cj := hfr.c j hlt
      have hxl := hfr.len hlt
      have hxB := hfr.bytes hlt
      have hxb := hfr.bd hlt
      have CFm := fun wx => framed_any (A j) (L j) (C j) wx (hfr.lc j hlt) (hfr.cm j hlt)
      have hnil : A j = none → cut64 (L j) = 0 ∧ C j = 0 := fun e => by have h1 := hfr.an j hlt e; have h2 := hfr.lc j hlt; have h3 := (cut64_le (L j)).2; omega
      obtain ⟨fin, r1, r2, r3⟩ := wrt_run HP.out (frX L Z j)
      have CS := fun (wx : World) (hbx : Below wr.heap.size wr wx) (la : Option Addr) (ll lc : Nat) (v : Int) (ys : List Int) (hv : fin.v 0 = v) (hv2 : v < 9223372036854775808) (hy : ys.length = ll) (hyb : BytesAt wx la ys) (hys : fin.left = ys) => says_any (n := 11) ff gg cc (A j) (cut64 (L j)) (C j) (frX L Z j) v la ll lc ys wx fin (cat8_len _) (by decide) (by decide) (HFr.out.keep hbx) HBy.out HGd.out hxl (cut64_le _).1 (hxB.later hbx) hxb r1 hv hv2 hy hyb hys
      have HCS := hideX CS
      have HR2 := hideX r2
      have HR3 := hideX r3
      have HXB := hideX hxB
      have HNil := hideX hnil
      clear CS r1 r2 r3 hfr hxB hxb hnil
      change ∀ wx, Calls Tryz.prog 30 #[.slice (A j) (L j) (C j)] wx fun e w' => e = .returned (.slice (A j) (cut64 (L j)) (C j)) ∧ wx = w' at CFm
      have HCF := hideX CFm
      clear CFm
      have l64 := (cut64_le (L j)).1
      generalize cut64 (L j) = lj at *
      generalize frX L Z j = xs at *
      by_cases hk : K + 2 ≤ lj
      · have k1 : (K : Int) + 2 ≤ (lj : Int) := by omega
        have k2 : (0 : Int) ≤ (K : Int) := by omega
        have k3 : (K : Int) < (lj : Int) := by omega
        have k4 : (0 : Int) ≤ (K : Int) + 1 := by omega
        have k5 : (K : Int) + 1 < (lj : Int) := by omega
        have hr2 := HR2.out
        have hr3 := HR3.out
        rw [wrtV, if_pos (by rw [hxl]; exact hk)] at hr2
        rw [wrtX, if_pos (by rw [hxl]; exact hk)] at hr3
        have HR4 := hideX hr2
        have HR5 := hideX hr3
        clear HR2 HR3 hr2 hr3
        go_wp2_with (first | (go_at_call 30; refine (HCF.out _).mono ?_; rintro e w' ⟨rfl, rfl⟩) | ((refine wpList_appB rfl _ _ rfl wr.heap.size (.slice none 0 0) [] xs (A j) lj (C j) rfl (World.ownsRow_nil _ _ _ _) rfl hxl HXB.out HNil.out (by simp; omega) (Nat.le_refl _) ?_; intro v3 w3 o3 g3; rw [List.nil_append] at o3); have h3 := (Below.refl wr.heap.size wr).grown g3 (Nat.le_refl _) (fun q hq => (ownNil hq).elim); obtain ⟨g4, c4, rfl, hg4, hl4⟩ := o3.form (by omega); have cK := o3.cell (i := K) (by omega); have cK1 := o3.cell (i := K + 1) (by omega); obtain ⟨d1, d2⟩ := cK; obtain ⟨d3, d4⟩ := cK1; rw [hxl] at o3; have HO3 := hideX o3; rw [hxl]; clear o3 g3))
        have HS := hideX (HCS.out ((w3.setCell ⟨g4, K, none⟩ (.int .u8 (bb % 256))).setCell ⟨g4, K + 1, none⟩ (.int .u8 (bb / 256 % 256))) ((h3.setCell (p := ⟨g4, K, none⟩) hg4 _).setCell (p := ⟨g4, K + 1, none⟩) hg4 _) (some ⟨g4, 0, none⟩) lj c4 1 ((xs.set K (bb % 256)).set (K + 1) (bb / 256 % 256)) HR4.out (by decide) (by simpa using hxl) (.inr ⟨_, rfl, fun q u hq => World.ownsRow.cells ((HO3.out.set K (bb % 256)).set (K + 1) (bb / 256 % 256)) (g := g4) rfl q u hq⟩) HR5.out)
        have hbx := (h3.setCell (p := ⟨g4, K, none⟩) hg4 (.int .u8 (bb % 256))).setCell (p := ⟨g4, K + 1, none⟩) hg4 (.int .u8 (bb / 256 % 256))
        refine HS.out.mono ?_
        rintro e WS ⟨rfl, hS⟩
        go_wp2
        go_roundw
        case rel => exact ⟨j + 1, by omega, by go_num, rfl, hideX ((HFr.out.keep hbx).keep hS), (hb.trans (hbx.mono hb.size)).trans (hS.mono (hb.trans (hbx.mono hb.size)).size)⟩
        case measure => simp [intOf]; omega
      · have k1 : (lj : Int) < (K : Int) + 2 := by omega
        have hr2 := HR2.out
        have hr3 := HR3.out
        rw [wrtV, if_neg (by rw [hxl]; exact hk)] at hr2
        rw [wrtX, if_neg (by rw [hxl]; exact hk)] at hr3
        have HR4 := hideX hr2
        have HR5 := hideX hr3
        clear HR2 HR3 hr2 hr3
        go_wp2_with (first | (go_at_call 30; refine (HCF.out _).mono ?_; rintro e w' ⟨rfl, rfl⟩) | ((refine wpList_appB rfl _ _ rfl wr.heap.size (.slice none 0 0) [] xs (A j) lj (C j) rfl (World.ownsRow_nil _ _ _ _) rfl hxl HXB.out HNil.out (by simp; omega) (Nat.le_refl _) ?_; intro v3 w3 o3 g3; rw [List.nil_append] at o3); have h3 := (Below.refl wr.heap.size wr).grown g3 (Nat.le_refl _) (fun q hq => (ownNil hq).elim); have hv3 : ∃ la lc, v3 = .slice la lj lc ∧ BytesAt w3 la xs := bys_slice hxl o3; obtain ⟨la, lc, rfl, hla⟩ := hv3; have HLA := hideX hla; clear o3 g3 hla))
        have HS := hideX (HCS.out w3 h3 la lj lc 0 xs HR4.out (by decide) hxl HLA.out HR5.out)
        refine HS.out.mono ?_
        rintro e WS ⟨rfl, hS⟩
        go_wp2
        go_roundw
        case rel => exact ⟨j + 1, by omega, by go_num, rfl, hideX ((HFr.out.keep h3).keep hS), (hb.trans (h3.mono hb.size)).trans (hS.mono (hb.trans (h3.mono hb.size)).size)⟩
        case measure => simp [intOf]; omega
    · have hjl : j = len := by omega
      subst hjl
      go_wp2
      go_ret
      exact ⟨rfl, hb⟩
end Go.Proofs.YtoobileejdhikaaGreat
