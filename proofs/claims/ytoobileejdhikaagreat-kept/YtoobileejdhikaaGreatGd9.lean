/-
  The statement Kept: its two pieces of code are let in, and do what is asked.
-/
import Derived.Test.YtoobileejdhikaaGreatGd8
import Derived.Test.YtoobileejdhikaaGreatGd1
namespace Go.Proofs.YtoobileejdhikaaGreat
open Go.RowKit

def kcL (a b : Int) : List In5 := [⟨129, 4, 0, 0, 300⟩, ⟨27, 7, 4, -8, 0⟩, ⟨1, 3, 1, 0, 0⟩, ⟨130, 3, 0, 0, 1⟩, ⟨33, 3, 2, 3, 0⟩, ⟨24, 1, 4, 0, 0⟩, ⟨129, 0, 0, 0, a⟩, ⟨41, 0, 0, 0, 0⟩, ⟨129, 0, 0, 0, b⟩, ⟨41, 0, 0, 0, 0⟩]
def kdL (a b : Int) : List In5 := [⟨23, 4, 7, -8, 0⟩, ⟨159, 4, 0, 2, 0⟩, ⟨129, 0, 0, 0, a⟩, ⟨41, 0, 0, 0, 0⟩, ⟨129, 0, 0, 0, b⟩, ⟨41, 0, 0, 0, 0⟩]
set_option maxRecDepth 100000 in
theorem kept_all : (List.range 4).all (fun a => (List.range 4).all (fun b => shapeOk (cat8 (kcL (a : Int) (b : Int))) 10 && letB (cat8 (kcL (a : Int) (b : Int))) 10 && (shapeOk (cat8 (kdL (a : Int) (b : Int))) 6 && letB (cat8 (kdL (a : Int) (b : Int))) 6))) = true := by kernel_rfl
theorem kept_code (a b : Nat) (ha : a < 4) (hb : b < 4) : (CodeIs (cat8 (kcL (a : Int) (b : Int))) 10 ∧ safeP (piOf (lb (cat8 (kcL (a : Int) (b : Int))))) 10 = none) ∧ (CodeIs (cat8 (kdL (a : Int) (b : Int))) 6 ∧ safeP (piOf (lb (cat8 (kdL (a : Int) (b : Int))))) 6 = none) := by
  have h := List.all_eq_true.1 (List.all_eq_true.1 kept_all a (List.mem_range.2 ha)) b (List.mem_range.2 hb)
  simp only [Bool.and_eq_true] at h
  exact ⟨⟨shapeOk_is h.1.1, Option.isNone_iff_eq_none.1 h.1.2⟩, ⟨shapeOk_is h.2.1, Option.isNone_iff_eq_none.1 h.2.2⟩⟩
theorem kcL_pi {a b : Int} (a0 : 0 ≤ a) (a1 : a < 4) (b0 : 0 ≤ b) (b1 : b < 4) (i : Nat) (x : In5) (hx : (kcL a b)[i]? = some x) : piOf (lb (cat8 (kcL a b))) i = x.pi := by
  refine cat8_pi _ i x hx ?_
  have hm := List.mem_of_getElem? hx
  simp only [kcL, List.mem_cons, List.not_mem_nil, or_false] at hm
  rcases hm with rfl | rfl | rfl | rfl | rfl | rfl | rfl | rfl | rfl | rfl <;> exact in5_ok (by decide) (by decide) (by decide) (by omega) (by omega) (by omega) (by omega)
theorem kdL_pi {a b : Int} (a0 : 0 ≤ a) (a1 : a < 4) (b0 : 0 ≤ b) (b1 : b < 4) (i : Nat) (x : In5) (hx : (kdL a b)[i]? = some x) : piOf (lb (cat8 (kdL a b))) i = x.pi := by
  refine cat8_pi _ i x hx ?_
  have hm := List.mem_of_getElem? hx
  simp only [kdL, List.mem_cons, List.not_mem_nil, or_false] at hm
  rcases hm with rfl | rfl | rfl | rfl | rfl | rfl <;> exact in5_ok (by decide) (by decide) (by decide) (by omega) (by omega) (by omega) (by omega)
def keptX (xs : List Int) : List Int := if 0 < xs.length then xs.set 0 44 else xs
set_option maxRecDepth 10000 in
theorem kc_run {a b : Int} (a0 : 0 ≤ a) (a1 : a < 4) (b0 : 0 ≤ b) (b1 : b < 4) (xs : List Int) :
    ∃ fin, runR (piOf (lb (cat8 (kcL a b)))) 10 10 0 (startM xs) = some fin ∧ fin.v 0 = (if 0 < xs.length then a else b) ∧ fin.left = keptX xs := by
  have hp := kcL_pi a0 a1 b0 b1
  generalize hI : piOf (lb (cat8 (kcL a b))) = I at hp
  have tail : ∀ (i f : Nat) (st : MS) (a : Int) (ys : List Int), Fr st ys → i + 1 < 10 → I i = ⟨129, 0, 0, 0, a⟩ → I (i + 1) = ⟨41, 0, 0, 0, 0⟩ → 0 ≤ a → a ≤ 3 → ∃ fin, runR I 10 (f + 2) i st = some fin ∧ fin.v 0 = a ∧ fin.left = ys := fun i f st a ys hs hi h1 h2 a0 a1 => by
    obtain ⟨e, h1, h2, h3⟩ := run_out (I := I) (n := 10) (f := f) (i := i) (s := st) (a := a) (by decide) hi h1 h2 a0 a1
    exact ⟨e, h1, h2, (hs.same h3).left⟩
  have e0 : doK (I 0) ((startM xs).ahead (I 0).n) = some (((startM xs).ahead 300).setV 4 300, 0) := by
    rw [hp 0 _ rfl]
    show some (((startM xs).ahead 300).setV 4 (w64 300), (0 : Int)) = _
    rw [show w64 300 = 300 from by rw [w64_eq]; decide]
  rw [run_step (by decide) e0]
  generalize hs1' : ((startM xs).ahead 300).setV 4 300 = s1
  have v14 : s1.v 4 = 300 := by subst hs1'; rfl
  have v17 : s1.v 7 = 1032 := by subst hs1'; rfl
  have v12 : s1.v 2 = 1032 + xs.length := by subst hs1'; rfl
  have v11 : s1.v 1 = 1032 := by subst hs1'; rfl
  have f1 : Fr s1 xs := by subst hs1'; exact (fr_start xs).same ⟨rfl, rfl, rfl⟩
  clear hs1' e0
  have e1 : doK (I (0 + 1 + (0 : Int).toNat)) (s1.ahead (I (0 + 1 + (0 : Int).toNat)).n) = some ((s1.ahead 0).st 24 8 300, 0) := by
    rw [show 0 + 1 + (0 : Int).toNat = 1 from rfl, hp 1 _ rfl]
    have ha : acc (s1.ahead 0) 7 (-8) = ((24 : Nat) : Int) := by show s1.v 7 + (-8) - 1000 = _; rw [v17]; omega
    have ha2 : accOk (s1.ahead 0) 7 (-8) 8 = true := by unfold accOk; rw [ha]; decide
    show (if accOk (s1.ahead 0) 7 (-8) 8 then some ((s1.ahead 0).st (acc (s1.ahead 0) 7 (-8)).toNat 8 (s1.v 4), (0 : Int)) else none) = _
    rw [ha2, ha, Int.toNat_natCast, v14]; rfl
  rw [run_step (by decide) e1]
  obtain ⟨q1, q2, q3, q4⟩ := st_at (s1.ahead 0) 24 8 300
  generalize (s1.ahead 0).st 24 8 300 = s2 at q1 q2 q3 q4
  have v22 : s2.v 2 = 1032 + xs.length := by rw [q2]; exact v12
  have v21 : s2.v 1 = 1032 := by rw [q2]; exact v11
  have v24 : s2.v 4 = 300 := by rw [q2]; exact v14
  have f2 : Fr s2 xs := ⟨fun t ht => by rw [q1]; dsimp only; rw [if_neg (by omega)]; exact f1.m t ht, q3.trans f1.f, q4.trans f1.l⟩
  clear e1 q1 q2 q3 q4 v14 v17 v12 v11 f1
  have e2 : doK (I (0 + 1 + (0 : Int).toNat + 1 + (0 : Int).toNat)) (s2.ahead (I (0 + 1 + (0 : Int).toNat + 1 + (0 : Int).toNat)).n) = some ((s2.ahead 0).setV 3 1032, 0) := by
    rw [show 0 + 1 + (0 : Int).toNat + 1 + (0 : Int).toNat = 2 from rfl, hp 2 _ rfl]
    show some ((s2.ahead 0).setV 3 (s2.v 1), (0 : Int)) = _
    rw [v21]
  rw [run_step (by decide) e2]
  generalize hs3 : (s2.ahead 0).setV 3 1032 = s3
  have v33 : s3.v 3 = 1032 := by subst hs3; rfl
  have v32 : s3.v 2 = 1032 + xs.length := by subst hs3; exact v22
  have v31 : s3.v 1 = 1032 := by subst hs3; exact v21
  have v34 : s3.v 4 = 300 := by subst hs3; exact v24
  have f3 : Fr s3 xs := by subst hs3; exact f2.same ⟨rfl, rfl, rfl⟩
  clear hs3 e2 v22 v21 v24 f2
  have e3 : doK (I (0 + 1 + (0 : Int).toNat + 1 + (0 : Int).toNat + 1 + (0 : Int).toNat)) (s3.ahead (I (0 + 1 + (0 : Int).toNat + 1 + (0 : Int).toNat + 1 + (0 : Int).toNat)).n) = some ((s3.ahead 1).setV 3 1033, 0) := by
    rw [show 0 + 1 + (0 : Int).toNat + 1 + (0 : Int).toNat + 1 + (0 : Int).toNat = 3 from rfl, hp 3 _ rfl]
    show some ((s3.ahead 1).setV 3 (w64 (s3.v 3 + w64 1)), (0 : Int)) = _
    rw [v33, show w64 (1032 + w64 1) = 1033 from by rw [w64_eq, w64_eq]; decide]
  rw [run_step (by decide) e3]
  generalize hs4 : (s3.ahead 1).setV 3 1033 = s4
  have v43 : s4.v 3 = 1033 := by subst hs4; rfl
  have v42 : s4.v 2 = 1032 + xs.length := by subst hs4; exact v32
  have v41 : s4.v 1 = 1032 := by subst hs4; exact v31
  have v44 : s4.v 4 = 300 := by subst hs4; exact v34
  have f4 : Fr s4 xs := by subst hs4; exact f3.same ⟨rfl, rfl, rfl⟩
  clear hs4 e3 v33 v32 v31 v34 f3
  rw [show 0 + 1 + (0 : Int).toNat + 1 + (0 : Int).toNat + 1 + (0 : Int).toNat + 1 + (0 : Int).toNat = 4 from rfl]
  by_cases hlen : 0 < xs.length
  · have e4 : doK (I 4) (s4.ahead (I 4).n) = some (s4.ahead 0, 0) := by
      rw [hp 4 _ rfl]
      show some (s4.ahead 0, if cpR 33 (s4.v 3) (s4.v 2) then (3 : Int) else 0) = _
      have : cpR 33 (s4.v 3) (s4.v 2) = false := by rw [v43, v42]; show decide _ = false; simp; omega
      rw [this]; rfl
    rw [run_step (by decide) e4, keptX, if_pos hlen, if_pos hlen]
    have e5 : doK (I 5) ((s4.ahead 0).ahead (I 5).n) = some (((s4.ahead 0).ahead 0).st 32 1 300, 0) := by
      rw [hp 5 _ rfl]
      have ha : acc ((s4.ahead 0).ahead 0) 1 0 = ((32 : Nat) : Int) := by show s4.v 1 + 0 - 1000 = _; rw [v41]; omega
      have ha2 : accOk ((s4.ahead 0).ahead 0) 1 0 1 = true := by unfold accOk; rw [ha]; decide
      show (if accOk ((s4.ahead 0).ahead 0) 1 0 1 then some (((s4.ahead 0).ahead 0).st (acc ((s4.ahead 0).ahead 0) 1 0).toNat 1 (s4.v 4), (0 : Int)) else none) = _
      rw [ha2, ha, Int.toNat_natCast, v44]; rfl
    rw [show 4 + 1 + (0 : Int).toNat = 5 from rfl, run_step (by decide) e5]
    obtain ⟨q1, q2, q3, q4⟩ := st_at ((s4.ahead 0).ahead 0) 32 1 300
    generalize ((s4.ahead 0).ahead 0).st 32 1 300 = s6 at q1 q2 q3 q4
    have f6 : Fr s6 (xs.set 0 44) := by
      refine ⟨fun t ht => ?_, q3.trans f4.f, by rw [q4]; show s4.l = _; simpa using f4.l⟩
      have ht' : t < xs.length := by simpa using ht
      rw [q1]
      dsimp only
      by_cases e1 : t = 0
      · subst e1
        rw [if_pos (by omega)]
        simp [ht']
      · rw [if_neg (by omega)]
        have := f4.m t ht'
        rw [show ((s4.ahead 0).ahead 0).m (32 + t) = s4.m (32 + t) from rfl, this]
        simp [Ne.symm e1]
    exact tail 6 2 s6 a _ f6 (by decide) (hp 6 _ rfl) (hp 7 _ rfl) a0 (by omega)
  · have e4 : doK (I 4) (s4.ahead (I 4).n) = some (s4.ahead 0, 3) := by
      rw [hp 4 _ rfl]
      show some (s4.ahead 0, if cpR 33 (s4.v 3) (s4.v 2) then (3 : Int) else 0) = _
      have : cpR 33 (s4.v 3) (s4.v 2) = true := by rw [v43, v42]; show decide _ = true; simp; omega
      rw [this]; rfl
    rw [run_step (by decide) e4, keptX, if_neg hlen, if_neg hlen]
    exact tail 8 3 (s4.ahead 0) b xs (f4.same ⟨rfl, rfl, rfl⟩) (by decide) (hp 8 _ rfl) (hp 9 _ rfl) b0 (by omega)
set_option maxRecDepth 10000 in
theorem kd_run {a b : Int} (a0 : 0 ≤ a) (a1 : a < 4) (b0 : 0 ≤ b) (b1 : b < 4) (xs : List Int) :
    ∃ fin, runR (piOf (lb (cat8 (kdL a b)))) 6 6 0 (startM xs) = some fin ∧ fin.v 0 = b ∧ fin.left = xs := by
  have hp := kdL_pi a0 a1 b0 b1
  generalize hI : piOf (lb (cat8 (kdL a b))) = I at hp
  have e0 : doK (I 0) ((startM xs).ahead (I 0).n) = some (((startM xs).ahead 0).setV 4 0, 0) := by
    rw [hp 0 _ rfl]
    show (if accOk ((startM xs).ahead 0) 7 (-8) 8 then some (((startM xs).ahead 0).setV 4 (((startM xs).ahead 0).ld (acc ((startM xs).ahead 0) 7 (-8)).toNat 8), (0 : Int)) else none) = _
    have ha : acc ((startM xs).ahead 0) 7 (-8) = ((24 : Nat) : Int) := by show (1032 : Int) + (-8) - 1000 = _; omega
    have ha2 : accOk ((startM xs).ahead 0) 7 (-8) 8 = true := by unfold accOk; rw [ha]; decide
    rw [ha2, ha, Int.toNat_natCast]
    have hz : ∀ t, t < 0 + 8 → ((startM xs).ahead 0).m (24 + t) = (fun _ => (0 : Int)) t := fun t ht => by show (if 32 ≤ 24 + t then _ else (0 : Int)) = 0; rw [if_neg (by omega)]
    have hl : ((startM xs).ahead 0).ld 24 8 = 0 := by
      show bits .or .u64 (bits .or .u64 (bits .or .u64 (bits .or .u64 (bits .or .u64 (bits .or .u64 (bits .or .u64 (bits .or .u64 0 (IntKind.u64.wrap (((startM xs).ahead 0).m (24 + 0) * 2 ^ (8 * 0)))) (IntKind.u64.wrap (((startM xs).ahead 0).m (24 + 1) * 2 ^ (8 * 1)))) (IntKind.u64.wrap (((startM xs).ahead 0).m (24 + 2) * 2 ^ (8 * 2)))) (IntKind.u64.wrap (((startM xs).ahead 0).m (24 + 3) * 2 ^ (8 * 3)))) (IntKind.u64.wrap (((startM xs).ahead 0).m (24 + 4) * 2 ^ (8 * 4)))) (IntKind.u64.wrap (((startM xs).ahead 0).m (24 + 5) * 2 ^ (8 * 5)))) (IntKind.u64.wrap (((startM xs).ahead 0).m (24 + 6) * 2 ^ (8 * 6)))) (IntKind.u64.wrap (((startM xs).ahead 0).m (24 + 7) * 2 ^ (8 * 7))) = 0
      rw [hz 0 (by decide), hz 1 (by decide), hz 2 (by decide), hz 3 (by decide), hz 4 (by decide), hz 5 (by decide), hz 6 (by decide), hz 7 (by decide)]
      rfl
    rw [hl]; rfl
  rw [run_step (by decide) e0]
  generalize hs1' : ((startM xs).ahead 0).setV 4 0 = s1
  have v14 : s1.v 4 = 0 := by subst hs1'; rfl
  have f1 : Fr s1 xs := by subst hs1'; exact (fr_start xs).same ⟨rfl, rfl, rfl⟩
  clear hs1' e0
  have e1 : doK (I (0 + 1 + (0 : Int).toNat)) (s1.ahead (I (0 + 1 + (0 : Int).toNat)).n) = some (s1.ahead 0, 2) := by
    rw [show 0 + 1 + (0 : Int).toNat = 1 from rfl, hp 1 _ rfl]
    show some (s1.ahead 0, if cpR 31 (s1.v 4) (w64 0) then (2 : Int) else 0) = _
    have : cpR 31 (s1.v 4) (w64 0) = true := by rw [v14]; rfl
    rw [this]; rfl
  rw [run_step (by decide) e1]
  obtain ⟨e, h1, h2, h3⟩ := run_out (I := I) (n := 6) (f := 2) (i := 4) (s := s1.ahead 0) (a := b) (by decide) (by decide) (hp 4 _ rfl) (hp 5 _ rfl) b0 (by omega)
  exact ⟨e, h1, h2, ((f1.same (s := s1.ahead 0) ⟨rfl, rfl, rfl⟩).same h3).left⟩
end Go.Proofs.YtoobileejdhikaaGreat
