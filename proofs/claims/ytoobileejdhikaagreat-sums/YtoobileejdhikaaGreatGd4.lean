/-
  The statement Picks: its code is let in, and does what is asked.
  The statement Picks: the walk.
-/
import Derived.Test.YtoobileejdhikaaGreatGd3
namespace Go.Proofs.YtoobileejdhikaaGreat
open Go.RowKit

def pickL (K : Nat) (c a b : Int) : List In5 := [⟨1, 3, 1, 0, 0⟩, ⟨130, 3, 0, 0, (K : Int) + 1⟩, ⟨33, 3, 2, 4, 0⟩, ⟨20, 4, 1, K, 0⟩, ⟨160, 4, 0, 2, c⟩, ⟨129, 0, 0, 0, a⟩, ⟨41, 0, 0, 0, 0⟩, ⟨129, 0, 0, 0, b⟩, ⟨41, 0, 0, 0, 0⟩]
structure PickOk (K : Nat) (c a b : Int) : Prop where
  K : K < 64
  c0 : 0 ≤ c
  c1 : c < 256
  a0 : 0 ≤ a
  a1 : a < 4
  b0 : 0 ≤ b
  b1 : b < 4
theorem pickL_ok {K : Nat} {c a b : Int} (h : PickOk K c a b) : ∀ x ∈ pickL K c a b, x.Ok := fun x hx => by
  have := h.K; have := h.c0; have := h.c1; have := h.a0; have := h.a1; have := h.b0; have := h.b1
  simp only [pickL, List.mem_cons, List.not_mem_nil, or_false] at hx
  rcases hx with rfl | rfl | rfl | rfl | rfl | rfl | rfl | rfl | rfl <;> exact in5_ok (by decide) (by decide) (by decide) (by omega) (by omega) (by omega) (by omega)
theorem pickL_fit {K : Nat} {c a b : Int} (i : Nat) (x : In5) (hx : (pickL K c a b)[i]? = some x) : fitP x.op x.d x.s x.o x.n (((pickL K c a b).length : Int) - 1 - i) = true ∧ (x.op = 41 ∨ i + 1 < (pickL K c a b).length) := by
  match i, hx with
  | 0, hx => cases hx; exact ⟨rfl, .inr (by show 1 < 9; decide)⟩
  | 1, hx => cases hx; exact ⟨rfl, .inr (by show 2 < 9; decide)⟩
  | 2, hx => cases hx; exact ⟨rfl, .inr (by show 3 < 9; decide)⟩
  | 3, hx => cases hx; exact ⟨rfl, .inr (by show 4 < 9; decide)⟩
  | 4, hx => cases hx; exact ⟨rfl, .inr (by show 5 < 9; decide)⟩
  | 5, hx => cases hx; exact ⟨rfl, .inr (by show 6 < 9; decide)⟩
  | 6, hx => cases hx; exact ⟨rfl, .inl rfl⟩
  | 7, hx => cases hx; exact ⟨rfl, .inr (by show 8 < 9; decide)⟩
  | 8, hx => cases hx; exact ⟨rfl, .inl rfl⟩
  | k + 9, hx => exact absurd hx (by simp [pickL])
theorem pickL_pi {K : Nat} {c a b : Int} (h : PickOk K c a b) (i : Nat) (x : In5) (hx : (pickL K c a b)[i]? = some x) : piOf (lb (cat8 (pickL K c a b))) i = x.pi :=
  cat8_pi _ i x hx (pickL_ok h x (List.mem_of_getElem? hx))
def pickP (K : Nat) : Nat → KS → Prop
  | 0 => TS Γ0 0 false
  | 1 => TS (upd Γ0 3 (.first 0)) 0 false
  | 2 => TS (upd Γ0 3 (.first ((K : Int) + 1))) 0 false
  | 3 => TS Γ0 ((K : Int) + 1) false
  | 4 => TS (upd Γ0 4 .num) 0 false
  | 5 => TS Γn 0 false
  | 6 => TS Γn 0 true
  | 7 => TS Γn 0 false
  | 8 => TS Γn 0 true
  | _ => fun _ => True
theorem mv_out {a : Int} (a0 : 0 ≤ a) (a1 : a < 4) : (if (0 : Nat) = 0 then decide (0 ≤ a) && decide (a ≤ 3) else false) = true := by
  rw [if_pos rfl]; simp; omega
set_option maxRecDepth 100000 in
theorem pick_let {K : Nat} {c a b : Int} (h : PickOk K c a b) : safeP (piOf (lb (cat8 (pickL K c a b)))) 9 = none := by
  have hp := pickL_pi h
  have hK := h.K
  refine safe_of _ 9 (pickP K) ts_start (fun i s t hr hs ht => ?_) (fun i s hi hr hs => ?_)
  · match i, hs, ht with
    | 0, hs, ht => exact TS.or hr hs ht
    | 1, hs, ht => exact TS.or hr hs ht
    | 2, hs, ht => exact TS.or hr hs ht
    | 3, hs, ht => exact TS.or hr hs ht
    | 4, hs, ht => exact TS.or hr hs ht
    | 5, hs, ht => exact TS.or hr hs ht
    | 6, hs, ht => exact TS.or hr hs ht
    | 7, hs, ht => exact TS.or hr hs ht
    | 8, hs, ht => exact TS.or hr hs ht
    | k + 9, _, _ => trivial
  · match i, hi, hs with
    | 0, _, hs =>
      rw [hp 0 _ rfl]
      exact go_next (ty_movR rfl (by decide) (by decide) hs) (fun a h => h.weak (fun r _ => .inr rfl) (Int.le_refl _) (fun h => h))
    | 1, _, hs =>
      rw [hp 1 _ rfl]
      refine go_next (ty_addI (dp := false) (k := 0) rfl (lt_ rfl) rfl (by decide) (by decide) ?_ ?_ hs) (fun a h => h.weak (fun r _ => ?_) (Int.le_refl _) (fun h => h))
      · show -1000 ≤ 0 + ((K : Int) + 1); omega
      · show 0 + ((K : Int) + 1) ≤ 1000; omega
      · right
        show (if r = 3 then _ else _) = (if r = 3 then _ else (if r = 3 then _ else _))
        by_cases e : r = 3
        · simp only [if_pos e, plH]; show Hd.first _ = (if false = true then _ else Hd.first (0 + ((K : Int) + 1))); simp
        · simp only [if_neg e]
    | 2, _, hs =>
      rw [hp 2 _ rfl]
      obtain ⟨x, y, e, h1, h2, h3⟩ := ty_cmp (x := In5.pi ⟨33, 3, 2, 4, 0⟩) (i := ((2 : Nat) : Int)) (.inl ⟨by decide, by decide⟩) (by decide) (.inr ⟨by decide, by decide, (K : Int) + 1, .inl ⟨rfl, rfl⟩⟩) hs
      refine ⟨x, y, e, fun hr => ?_, fun hr => ?_⟩
      · refine (h3 ((K : Int) + 1) rfl rfl rfl hr).weak (fun r _ => ?_) (by omega) (fun h => h)
        by_cases e : r = 3
        · left; subst e; rfl
        · right; show Γ0 r = (if r = 3 then _ else Γ0 r); rw [if_neg e]
      · exact (h2 hr).none (Int.le_refl _)
    | 3, _, hs =>
      rw [hp 3 _ rfl]
      exact go_next (ty_load (x := In5.pi ⟨20, 4, 1, K, 0⟩) ⟨le_ rfl, le_ rfl⟩ (lt_ rfl) (.inl ⟨0, rfl, by show 0 ≤ 0 + (K : Int); omega, by show 0 + (K : Int) + ((1 : Nat) : Int) ≤ (K : Int) + 1; omega⟩) hs) (fun a h => h.weak (fun r _ => .inr rfl) (by omega) (fun h => h))
    | 4, _, hs =>
      rw [hp 4 _ rfl]
      obtain ⟨x, y, e, h1, h2, _⟩ := ty_cmp (x := In5.pi ⟨160, 4, 0, 2, c⟩) (i := ((4 : Nat) : Int)) (.inr ⟨le_ rfl, le_ rfl⟩) (lt_ rfl) (.inl ⟨rfl, .inl (le_ rfl)⟩) hs
      exact ⟨x, y, e, fun hr => (h1 hr).none (Int.le_refl _), fun hr => (h2 hr).none (Int.le_refl _)⟩
    | 5, _, hs =>
      rw [hp 5 _ rfl]
      exact go_next (ty_movI rfl hs) (fun x hx => by rw [show (if (In5.pi ⟨129, 0, 0, 0, a⟩).d = 0 then decide (0 ≤ (In5.pi ⟨129, 0, 0, 0, a⟩).n) && decide ((In5.pi ⟨129, 0, 0, 0, a⟩).n ≤ 3) else false) = true from mv_out h.a0 h.a1] at hx; exact hx.verdict (Int.le_refl _))
    | 6, _, hs => rw [hp 6 _ rfl]; exact go_exit (ty_exit rfl hs)
    | 7, _, hs =>
      rw [hp 7 _ rfl]
      exact go_next (ty_movI rfl hs) (fun x hx => by rw [show (if (In5.pi ⟨129, 0, 0, 0, b⟩).d = 0 then decide (0 ≤ (In5.pi ⟨129, 0, 0, 0, b⟩).n) && decide ((In5.pi ⟨129, 0, 0, 0, b⟩).n ≤ 3) else false) = true from mv_out h.b0 h.b1] at hx; exact hx.verdict (Int.le_refl _))
    | 8, _, hs => rw [hp 8 _ rfl]; exact go_exit (ty_exit rfl hs)
    | k + 9, hi, _ => exact absurd hi (by omega)

theorem ld1 (s : MS) (F : Nat) (h0 : 0 ≤ s.m F) (h1 : s.m F ≤ 255) : s.ld F 1 = s.m F := by
  obtain ⟨q, hq⟩ := Int.eq_ofNat_of_zero_le h0
  have e : s.ld F 1 = bits .or .u64 0 (IntKind.u64.wrap (s.m (F + 0) * 2 ^ (8 * 0))) := rfl
  rw [e, Nat.add_zero, hq]
  have e2 : IntKind.u64.wrap ((q : Int) * 2 ^ (8 * 0)) = (q : Int) := by show w64 _ = _; rw [w64_eq]; simp; omega
  rw [e2]
  have := or_nat 0 q (by decide) (by omega)
  simpa using this
/-- What the filter by a byte says. -/
theorem pick_run {K : Nat} {c a b : Int} (h : PickOk K c a b) (xs : List Int) (hx : ∀ x ∈ xs, 0 ≤ x ∧ x ≤ 255) :
    ∃ fin, runR (piOf (lb (cat8 (pickL K c a b)))) 9 9 0 (startM xs) = some fin ∧ fin.v 0 = (if K < xs.length ∧ xs.getD K 0 = c then a else b) ∧ fin.left = xs := by
  have hp := pickL_pi h
  have hK := h.K
  have hc0 := h.c0; have hc1 := h.c1
  generalize hI : piOf (lb (cat8 (pickL K c a b))) = I at hp
  have tail : ∀ (f : Nat) (s : MS), Same s (startM xs) → ∀ v : Int, v = b → ∃ fin, runR I 9 (f + 2) 7 s = some fin ∧ fin.v 0 = v ∧ fin.left = xs := fun f s hs v hv => by
    obtain ⟨e, h1, h2, h3⟩ := run_out (I := I) (n := 9) (f := f) (i := 7) (s := s) (a := b) (by decide) (by decide) (hp 7 _ rfl) (hp 8 _ rfl) h.b0 (by have := h.b1; omega)
    exact ⟨e, h1, h2.trans hv.symm, (h3.left.trans hs.left).trans (start_left xs)⟩
  -- Mov, Add
  have e0 : doK (I 0) ((startM xs).ahead (I 0).n) = some (((startM xs).ahead 0).setV 3 1032, 0) := by rw [hp 0 _ rfl]; rfl
  rw [run_step (by decide) e0]
  generalize hs1 : ((startM xs).ahead 0).setV 3 1032 = s1
  have v13 : s1.v 3 = 1032 := by subst hs1; rfl
  have v12 : s1.v 2 = 1032 + xs.length := by subst hs1; rfl
  have v11 : s1.v 1 = 1032 := by subst hs1; rfl
  have sm1 : Same s1 (startM xs) := by subst hs1; exact ⟨rfl, rfl, rfl⟩
  clear hs1 e0
  have e1 : doK (I (0 + 1 + (0 : Int).toNat)) (s1.ahead (I (0 + 1 + (0 : Int).toNat)).n) = some ((s1.ahead ((K : Int) + 1)).setV 3 (w64 (s1.v 3 + w64 ((K : Int) + 1))), 0) := by rw [show 0 + 1 + (0 : Int).toNat = 1 from rfl, hp 1 _ rfl]; rfl
  rw [run_step (by decide) e1]
  have ew : w64 (s1.v 3 + w64 ((K : Int) + 1)) = 1033 + K := by rw [v13, w64_eq, w64_eq]; omega
  rw [ew]
  generalize hs2 : (s1.ahead ((K : Int) + 1)).setV 3 (1033 + (K : Int)) = s2
  have v23 : s2.v 3 = 1033 + K := by subst hs2; rfl
  have v22 : s2.v 2 = 1032 + xs.length := by subst hs2; exact v12
  have v21 : s2.v 1 = 1032 := by subst hs2; exact v11
  have sm2 : Same s2 (startM xs) := by subst hs2; exact sm1
  clear hs2 e1 ew v13 v12 v11 sm1
  -- Jgt
  by_cases hlen : xs.length ≤ K
  · have e2 : doK (I (0 + 1 + (0 : Int).toNat + 1 + (0 : Int).toNat)) (s2.ahead (I (0 + 1 + (0 : Int).toNat + 1 + (0 : Int).toNat)).n) = some (s2.ahead 0, 4) := by
      rw [show 0 + 1 + (0 : Int).toNat + 1 + (0 : Int).toNat = 2 from rfl, hp 2 _ rfl]
      show some (s2.ahead 0, if cpR 33 (s2.v 3) (s2.v 2) then (4 : Int) else 0) = _
      have : cpR 33 (s2.v 3) (s2.v 2) = true := by rw [v23, v22]; show decide _ = true; simp; omega
      rw [this]; rfl
    rw [run_step (by decide) e2, if_neg (by omega)]
    exact tail 4 (s2.ahead 0) sm2 b rfl
  · have e2 : doK (I (0 + 1 + (0 : Int).toNat + 1 + (0 : Int).toNat)) (s2.ahead (I (0 + 1 + (0 : Int).toNat + 1 + (0 : Int).toNat)).n) = some (s2.ahead 0, 0) := by
      rw [show 0 + 1 + (0 : Int).toNat + 1 + (0 : Int).toNat = 2 from rfl, hp 2 _ rfl]
      show some (s2.ahead 0, if cpR 33 (s2.v 3) (s2.v 2) then (4 : Int) else 0) = _
      have : cpR 33 (s2.v 3) (s2.v 2) = false := by rw [v23, v22]; show decide _ = false; simp; omega
      rw [this]; rfl
    rw [run_step (by decide) e2]
    generalize hs3 : s2.ahead 0 = s3
    have v31 : s3.v 1 = 1032 := by subst hs3; exact v21
    have sm3 : Same s3 (startM xs) := by subst hs3; exact sm2
    clear hs3 e2 v23 v22 v21 sm2
    -- Load1
    have hm : s3.m (32 + K) = xs.getD K 0 := by rw [sm3.1]; show (if 32 ≤ 32 + K then xs.getD (32 + K - 32) 0 else 0) = _; rw [if_pos (by omega), show 32 + K - 32 = K from by omega]
    have hb := lb_bd hx K
    have hb' : 0 ≤ xs.getD K 0 ∧ xs.getD K 0 ≤ 255 := hb
    have e3 : doK (I 3) (s3.ahead (I 3).n) = some ((s3.ahead 0).setV 4 (xs.getD K 0), 0) := by
      rw [hp 3 _ rfl]
      show doLd (In5.pi ⟨20, 4, 1, K, 0⟩) (s3.ahead 0) 1 = _
      have ha : acc (s3.ahead 0) 1 (K : Int) = ((32 + K : Nat) : Int) := by show s3.v 1 + (K : Int) - 1000 = _; rw [v31]; omega
      have ha2 : accOk (s3.ahead 0) 1 (K : Int) 1 = true := by unfold accOk; rw [ha]; simp; omega
      show (if accOk (s3.ahead 0) 1 (K : Int) 1 then some ((s3.ahead 0).setV 4 ((s3.ahead 0).ld (acc (s3.ahead 0) 1 (K : Int)).toNat 1), (0 : Int)) else none) = _
      rw [ha2, ha, Int.toNat_natCast, ld1 (s3.ahead 0) (32 + K) (by show 0 ≤ s3.m _; rw [hm]; exact hb'.1) (by show s3.m _ ≤ 255; rw [hm]; exact hb'.2)]
      show some ((s3.ahead 0).setV 4 (s3.m (32 + K)), (0 : Int)) = _
      rw [hm]
    rw [show 0 + 1 + (0 : Int).toNat + 1 + (0 : Int).toNat + 1 + (0 : Int).toNat = 3 from rfl, run_step (by decide) e3]
    generalize hs4 : (s3.ahead 0).setV 4 (xs.getD K 0) = s4
    have v44 : s4.v 4 = xs.getD K 0 := by subst hs4; rfl
    have sm4 : Same s4 (startM xs) := by subst hs4; exact sm3
    clear hs4 e3 v31 sm3 hm
    -- Jne
    have hwc : w64 c = c := by rw [w64_eq]; omega
    by_cases hc : xs.getD K 0 = c
    · have e4 : doK (I (3 + 1 + (0 : Int).toNat)) (s4.ahead (I (3 + 1 + (0 : Int).toNat)).n) = some (s4.ahead c, 0) := by
        rw [show 3 + 1 + (0 : Int).toNat = 4 from rfl, hp 4 _ rfl]
        show some (s4.ahead c, if cpR 32 (s4.v 4) (w64 c) then (2 : Int) else 0) = _
        have : cpR 32 (s4.v 4) (w64 c) = false := by rw [v44, hwc, hc]; show (_ != _) = false; simp
        rw [this]; rfl
      rw [run_step (by decide) e4, if_pos ⟨by omega, hc⟩]
      obtain ⟨e, h1, h2, h3⟩ := run_out (I := I) (n := 9) (f := 2) (i := 5) (s := s4.ahead c) (a := a) (by decide) (by decide) (hp 5 _ rfl) (hp 6 _ rfl) h.a0 (by have := h.a1; omega)
      exact ⟨e, h1, h2, (h3.left.trans sm4.left).trans (start_left xs)⟩
    · have e4 : doK (I (3 + 1 + (0 : Int).toNat)) (s4.ahead (I (3 + 1 + (0 : Int).toNat)).n) = some (s4.ahead c, 2) := by
        rw [show 3 + 1 + (0 : Int).toNat = 4 from rfl, hp 4 _ rfl]
        show some (s4.ahead c, if cpR 32 (s4.v 4) (w64 c) then (2 : Int) else 0) = _
        have : cpR 32 (s4.v 4) (w64 c) = true := by rw [v44, hwc]; show (_ != _) = true; simpa using hc
        rw [this]; rfl
      rw [run_step (by decide) e4, if_neg (by intro h; exact hc h.2)]
      exact tail 2 (s4.ahead c) sm4 b rfl
end Go.Proofs.YtoobileejdhikaaGreat

namespace Go.Proofs.YtoobileejdhikaaGreat
open Go.RowKit

set_option maxRecDepth 100000 in
set_option maxHeartbeats 4000000 in
theorem picks_walk (place value one other : Int) (fa : Option Addr) (b off len cap : Nat) (A : Nat → Option Addr) (L C : Nat → Nat) (Z : Nat → List Int) (w : World)
    (hplace : -9223372036854775808 ≤ place ∧ place ≤ 9223372036854775807) (hvalue : -9223372036854775808 ≤ value ∧ value ≤ 9223372036854775807) (hone : -9223372036854775808 ≤ one ∧ one ≤ 9223372036854775807) (hother : -9223372036854775808 ≤ other ∧ other ≤ 9223372036854775807)
    (hfa : 0 < len → fa = some ⟨b, off, none⟩) (hfr : FrAt w b off len A L C Z) (hlen : len ≤ 9223372036854775807) :
    Calls Tryz.prog 9 #[.int .i64 place, .int .i64 value, .int .i64 one, .int .i64 other, .slice fa len cap] w fun e w' => e = .returned (.bool true) ∧ Below w.heap.size w w' := by
  have HFRS := hideX hfr
  have HFA := hideX hfa
  clear hfr hfa
  go_enter Tryz.func9, Tryz.ntmps9
  go_wp2_with fail
  refine (wpick_any place 64 w hplace.1 hplace.2 (by decide) (by decide)).mono ?_
  rintro e w' ⟨rfl, rfl⟩
  obtain ⟨K, hK⟩ := Int.eq_ofNat_of_zero_le (pickR_bd place 64 (by decide)).1
  have hKb : K < 64 := by have := (pickR_bd place 64 (by decide)).2; omega
  rw [hK]
  clear hK
  go_wp2_with fail
  refine (wpick_any value 256 w hvalue.1 hvalue.2 (by decide) (by decide)).mono ?_
  rintro e w' ⟨rfl, rfl⟩
  have hc0 := (pickR_bd value 256 (by decide)).1
  have hc1 := (pickR_bd value 256 (by decide)).2
  generalize pickR value 256 = c at hc0 hc1 ⊢
  go_wp2_with fail
  refine (wpick_any one 4 w hone.1 hone.2 (by decide) (by decide)).mono ?_
  rintro e w' ⟨rfl, rfl⟩
  have ha0 := (pickR_bd one 4 (by decide)).1
  have ha1 := (pickR_bd one 4 (by decide)).2
  generalize pickR one 4 = a at ha0 ha1 ⊢
  go_wp2_with fail
  refine (wpick_any other 4 w hother.1 hother.2 (by decide) (by decide)).mono ?_
  rintro e w' ⟨rfl, rfl⟩
  have hb0 := (pickR_bd other 4 (by decide)).1
  have hb1 := (pickR_bd other 4 (by decide)).2
  generalize pickR other 4 = b at hb0 hb1 ⊢
  go_wp2_with fail
  refine (wtest_any ((K : Int) + 1) 4 _).mono ?_
  rintro e W1 ⟨g1, c1, rfl, o1, h1⟩
  have B := h1
  have p1 := hideX (o1.part (by show 0 < 24; decide))
  clear o1 h1
  go_wp2_with fail
  refine (wins_any 20 4 1 (K : Int) 0 _ (by decide) (by decide) (by decide) (by decide) (by decide) (by decide)).mono ?_
  rintro e W2 ⟨g2, c2, rfl, o2, h2⟩
  replace p1 := hideX (p1.out.later h2)
  replace B := B.trans (h2.mono B.size)
  have p2 := hideX (o2.part (by show 0 < 8; decide))
  clear o2 h2
  go_wp2_with fail
  refine (wins_any 160 4 0 2 c _ (by decide) (by decide) (by decide) (by decide) (by decide) (by decide)).mono ?_
  rintro e W3 ⟨g3, c3, rfl, o3, h3⟩
  replace p1 := hideX (p1.out.later h3)
  replace p2 := hideX (p2.out.later h3)
  replace B := B.trans (h3.mono B.size)
  have p3 := hideX (o3.part (by show 0 < 8; decide))
  clear o3 h3
  go_wp2_with fail
  refine (wout_any a _).mono ?_
  rintro e W4 ⟨g4, c4, rfl, o4, h4⟩
  replace p1 := hideX (p1.out.later h4)
  replace p2 := hideX (p2.out.later h4)
  replace p3 := hideX (p3.out.later h4)
  replace B := B.trans (h4.mono B.size)
  have p4 := hideX (o4.part (by show 0 < 16; decide))
  clear o4 h4
  go_wp2_with fail
  refine (wout_any b _).mono ?_
  rintro e W5 ⟨g5, c5, rfl, o5, h5⟩
  replace p1 := hideX (p1.out.later h5)
  replace p2 := hideX (p2.out.later h5)
  replace p3 := hideX (p3.out.later h5)
  replace p4 := hideX (p4.out.later h5)
  replace B := B.trans (h5.mono B.size)
  have p5 := hideX (o5.part (by show 0 < 16; decide))
  clear o5 h5
  have hA6 : Below W5.heap.size W5 (W5.alloc (.cells #[Value.slice (some ⟨g1, 0, none⟩) 24 c1, Value.slice (some ⟨g2, 0, none⟩) 8 c2, Value.slice (some ⟨g3, 0, none⟩) 8 c3, Value.slice (some ⟨g4, 0, none⟩) 16 c4, Value.slice (some ⟨g5, 0, none⟩) 16 c5] 22)) := (Below.refl _ _).alloc (Nat.le_refl _) _
  have C6 := fun (wx : World) (hx : wx = (W5.alloc (.cells #[Value.slice (some ⟨g1, 0, none⟩) 24 c1, Value.slice (some ⟨g2, 0, none⟩) 8 c2, Value.slice (some ⟨g3, 0, none⟩) 8 c3, Value.slice (some ⟨g4, 0, none⟩) 16 c4, Value.slice (some ⟨g5, 0, none⟩) 16 c5] 22))) => wcode_any W5.heap.size 5 5 (fun i => [Value.slice (some ⟨g1, 0, none⟩) 24 c1, Value.slice (some ⟨g2, 0, none⟩) 8 c2, Value.slice (some ⟨g3, 0, none⟩) 8 c3, Value.slice (some ⟨g4, 0, none⟩) 16 c4, Value.slice (some ⟨g5, 0, none⟩) 16 c5].getD i .nilFunc) (fun i => [testB ((K : Int) + 1) 4, insB 20 4 1 (K : Int) 0, insB 160 4 0 2 c, (insB 129 0 0 0 a ++ insB 41 0 0 0 0), (insB 129 0 0 0 b ++ insB 41 0 0 0 0)].getD i []) wx (by decide) (fun i hi => by match i, hi with | 0, _ => exact (by decide : 24 ≤ 100) | 1, _ => exact (by decide : 8 ≤ 100) | 2, _ => exact (by decide : 8 ≤ 100) | 3, _ => exact (by decide : 16 ≤ 100) | 4, _ => exact (by decide : 16 ≤ 100)) (fun i hi => by subst hx; match i, hi with | 0, _ => simp [go_sem] | 1, _ => simp [go_sem] | 2, _ => simp [go_sem] | 3, _ => simp [go_sem] | 4, _ => simp [go_sem]) (fun i hi => by subst hx; match i, hi with | 0, _ => exact p1.out.later hA6 | 1, _ => exact p2.out.later hA6 | 2, _ => exact p3.out.later hA6 | 3, _ => exact p4.out.later hA6 | 4, _ => exact p5.out.later hA6) 72 rfl (by decide)
  go_wp2_with fail
  refine (C6 _ rfl).mono ?_
  rintro e W6 ⟨g6, c6, rfl, o6, h6⟩
  replace h6 := hA6.trans (h6.mono hA6.size)
  replace B := B.trans (h6.mono B.size)
  replace o6 := hideX o6
  clear C6 hA6 p1 p2 p3 p4 p5
  have hP : PickOk K c a b := ⟨hKb, hc0, hc1, ha0, ha1, hb0, hb1⟩
  obtain ⟨hby, hgood⟩ := cat8_is (pickL K c a b) (pickL_ok hP) pickL_fit
  have oF : Bys W6 _ _ (cat8 (pickL K c a b)) := o6.out
  have CL := wlet_any (n := 9) W6 (cat8_len _) (by decide) (by decide) hby oF hgood (pick_let hP)
  have HCL := hideX CL
  clear CL oF o6
  go_wp2_with fail
  refine HCL.out.mono ?_
  rintro e W7 ⟨ff, gg, cc, rfl, hF, hfl, hgl, h7⟩
  replace B := B.trans (h7.mono B.size)
  clear h7 HCL
  have HF := hideX hF
  have HGd := hideX hgood
  have HBy := hideX hby
  have HP := hideX hP
  clear hF hgood hby hP
  obtain ⟨fin0, r01, r02, r03⟩ := pick_run HP.out [] (fun x hx => by cases hx)
  rw [if_neg (by simp)] at r02
  have CN := says_any (n := 9) ff gg cc none 0 0 [] b none 0 0 [] W7 fin0 (cat8_len _) (by decide) (by decide) HF.out HBy.out HGd.out rfl (by decide) (.inl rfl) (fun x hx => by cases hx) r01 r02 (by omega) rfl (.inl rfl) r03
  have HCN := hideX CN
  clear CN r01 r02 r03
  go_wp2_with fail
  refine HCN.out.mono ?_
  rintro e WN ⟨rfl, hN⟩
  replace HF := hideX (HF.out.keep hN)
  replace B := B.trans (hN.mono B.size)
  clear HCN hN fin0
  go_wp2_with fail
  go_loopw [16, 17] (fun ok i wr => ∃ j : Nat, j ≤ len ∧ i = .int .i64 j ∧ ok = .bool true ∧ Hid (FiltAt wr ff gg cc (cat8 (pickL K c a b))) ∧ Below w.heap.size w wr) (fun _ i _ => len - (intOf i).toNat)
  case atStart => exact ⟨0, by omega, rfl, rfl, HF, B⟩
  case round =>
    obtain ⟨j, hj, rfl, rfl, HFr, hb⟩ := hrel
    clear HF B
    by_cases hlt : j < len
    · obtain rfl := HFA.out (by omega)
      have i1 : (0 : Int) ≤ (j : Int) := by omega
      have i2 : (j : Int) < (len : Int) := by omega
      have hfr := HFRS.out.later hb
      have cj := hfr.c j hlt
      have hxl := hfr.len hlt
      have hxB := hfr.bytes hlt
      have hxb := hfr.bd hlt
      have e64 : (frX L Z j).length ≤ 64 := by rw [hxl]; exact (cut64_le _).1
      have CFm := fun wx => framed_any (A j) (L j) (C j) wx (hfr.lc j hlt) (by have := hfr.cm j hlt; omega)
      have hcellx := fun q (hq : q < cut64 (L j)) => hfr.cell hlt hq
      obtain ⟨fin, r1, r2, r3⟩ := pick_run HP.out (frX L Z j) hxb
      have CS := fun (v : Int) (hv : fin.v 0 = v) (hv2 : v < 9223372036854775808) => says_any (n := 9) ff gg cc (A j) (cut64 (L j)) (C j) (frX L Z j) v (A j) (cut64 (L j)) (C j) (frX L Z j) wr fin (cat8_len _) (by decide) (by decide) HFr.out HBy.out HGd.out hxl (cut64_le _).1 hxB hxb r1 hv hv2 hxl hxB r3
      have HCS := hideX CS
      have HCX := hideX hcellx
      have HR2 := hideX r2
      clear CS hcellx r1 r2 r3 hfr hxB hxb
      change ∀ wx, Calls Tryz.prog 30 #[.slice (A j) (L j) (C j)] wx fun e w' => e = .returned (.slice (A j) (cut64 (L j)) (C j)) ∧ wx = w' at CFm
      have HCF := hideX CFm
      clear CFm
      have l64 := (cut64_le (L j)).1
      generalize cut64 (L j) = lj at *
      by_cases hk : K < lj
      · obtain ⟨q, o, hA, hcx⟩ := HCX.out K hk
        have k1 : (K : Int) < (lj : Int) := by omega
        have k0 : (0 : Int) ≤ (K : Int) := by omega
        rw [hA] at cj HCF
        have HS0 := HCS.out
        rw [hA] at HS0
        have hxr := lb_bd (xs := frX L Z j) (fun x hx => HFRS.out.bd hlt x hx) K
        change 0 ≤ (frX L Z j).getD K 0 ∧ (frX L Z j).getD K 0 ≤ 255 at hxr
        have hr2 := HR2.out
        generalize (frX L Z j).getD K 0 = y at hcx hr2 hxr
        by_cases hy : y = c
        · rw [if_pos ⟨by rw [hxl]; exact hk, hy⟩] at hr2
          have HS := hideX (HS0 a hr2 (by omega))
          clear HS0 HCS HCX HR2 hr2
          have q1 : (y == c) = true := by simpa using hy
          go_wp2_with (first | (go_at_call 30; refine (HCF.out _).mono ?_; rintro e w' ⟨rfl, rfl⟩) | (go_at_call 29; refine HS.out.mono ?_; rintro e WS ⟨rfl, hS⟩))
          go_roundw
          case rel => exact ⟨j + 1, by omega, by go_num, rfl, hideX (HFr.out.keep hS), hb.trans (hS.mono hb.size)⟩
          case measure => simp [intOf]; omega
        · rw [if_neg (by intro h; exact hy h.2)] at hr2
          have HS := hideX (HS0 b hr2 (by omega))
          clear HS0 HCS HCX HR2 hr2
          have q1 : (y == c) = false := by simpa using hy
          go_wp2_with (first | (go_at_call 30; refine (HCF.out _).mono ?_; rintro e w' ⟨rfl, rfl⟩) | (go_at_call 29; refine HS.out.mono ?_; rintro e WS ⟨rfl, hS⟩))
          go_roundw
          case rel => exact ⟨j + 1, by omega, by go_num, rfl, hideX (HFr.out.keep hS), hb.trans (hS.mono hb.size)⟩
          case measure => simp [intOf]; omega
      · have k1 : ¬ ((K : Int) < (lj : Int)) := by omega
        have hr2 := HR2.out
        rw [if_neg (by intro h; rw [hxl] at h; exact hk h.1)] at hr2
        have HS := hideX (HCS.out b hr2 (by omega))
        clear HCS HCX HR2 hr2
        have k2 : (lj : Int) ≤ (K : Int) := by omega
        go_wp2_with (first | (go_at_call 30; refine (HCF.out _).mono ?_; rintro e w' ⟨rfl, rfl⟩) | (go_at_call 29; refine HS.out.mono ?_; rintro e WS ⟨rfl, hS⟩))
        go_roundw
        case rel => exact ⟨j + 1, by omega, by go_num, rfl, hideX (HFr.out.keep hS), hb.trans (hS.mono hb.size)⟩
        case measure => simp [intOf]; omega
    · have hjl : j = len := by omega
      subst hjl
      go_wp2
      go_ret
      exact ⟨rfl, hb⟩
end Go.Proofs.YtoobileejdhikaaGreat
