/-
  The program's machine does what the document's machine does, wherever that does not fault: values, one step.
  The program's machine does what the document's machine does: loads and stores.
  The program's machine does what the document's machine does: stores, comparisons, calls.
  The program's machine does what the document's machine does, wherever that does not fault: the whole run.
  Code that is let in: the program's run is the document's run.
-/
import Derived.Test.YtoobileejdhikaaGreatGe1
import Derived.Test.YtoobileejdhikaaGreatGc9
namespace Go.Proofs.YtoobileejdhikaaGreat
open Go.RowKit

structure sameAs (f : Int) (v : V) (z : Int) : Prop where
 k : 0 ≤ v.kind ∧ v.kind ≤ 3
 n : v.kind = 1 → z = v.bits
 p : v.kind = 2 → z = f + v.place
 q : v.kind = 3 → z = 1032 + v.place
structure AG (s : MS) (m : Mac) : Prop where
 ok : MOk s
 f : 1032 ≤ s.f
 l : s.l = s.f + m.frame.length
 v : ∀ i, i < 8 → sameAs s.f (m.regs i) (s.v i)
 st : ∀ i, i < 32 → s.m i = m.stack i
 fr : ∀ i, i < m.frame.length → s.m ((s.f - 1000).toNat + i) = m.frame.getD i 0
theorem and_nat (m n : Nat) (hm : m < 18446744073709551616) (hn : n < 18446744073709551616) : bits .and .u64 (m : Int) (n : Int) = ((m &&& n : Nat) : Int) := by
 show IntKind.u64.wrap ((BitVec.ofInt 64 (m : Int) &&& BitVec.ofInt 64 (n : Int)).toNat : Int) = _
 simp only [BitVec.ofInt_natCast, BitVec.toNat_and, BitVec.toNat_ofNat]
 rw [Nat.mod_eq_of_lt (by omega), Nat.mod_eq_of_lt (by omega), wrapU]
 have : m &&& n < 2 ^ 64 := Nat.and_lt_two_pow _ (by omega)
 omega
theorem xor_nat (m n : Nat) (hm : m < 18446744073709551616) (hn : n < 18446744073709551616) : bits .xor .u64 (m : Int) (n : Int) = ((m ^^^ n : Nat) : Int) := by
 show IntKind.u64.wrap ((BitVec.ofInt 64 (m : Int) ^^^ BitVec.ofInt 64 (n : Int)).toNat : Int) = _
 simp only [BitVec.ofInt_natCast, BitVec.toNat_xor, BitVec.toNat_ofNat]
 rw [Nat.mod_eq_of_lt (by omega), Nat.mod_eq_of_lt (by omega), wrapU]
 have : m ^^^ n < 2 ^ 64 := Nat.xor_lt_two_pow (by omega) (by omega)
 omega
theorem numR_wk {k : Nat} (h1 : 2 ≤ k) (h2 : k ≤ 11) {a b : Int} (a0 : 0 ≤ a) (a1 : a < 18446744073709551616) (b0 : 0 ≤ b) (b1 : b < 18446744073709551616) : wkR k a b = numR (k : Int) a b := by
 obtain ⟨A, rfl⟩ : ∃ A : Nat, a = A := ⟨a.toNat, by omega⟩
 obtain ⟨B, rfl⟩ : ∃ B : Nat, b = B := ⟨b.toNat, by omega⟩
 rcases (show k = 2 ∨ k = 3 ∨ k = 4 ∨ k = 5 ∨ k = 6 ∨ k = 7 ∨ k = 8 ∨ k = 9 ∨ k = 10 ∨ k = 11 from by omega) with rfl | rfl | rfl | rfl | rfl | rfl | rfl | rfl | rfl | rfl
 ·rfl
 ·rfl
 ·rfl
 ·exact (numR_div a0 a1 b0).symm
 ·exact (numR_mod a0 a1 b0).symm
 ·rw [show ((7 : Nat) : Int) = 7 from rfl, numR_bit (.inl rfl)]; exact (and_nat A B (by omega) (by omega)).trans (bit_and A B (by omega) (by omega)).symm
 ·rw [show ((8 : Nat) : Int) = 8 from rfl, numR_bit (.inr (.inl rfl))]; exact (or_nat A B (by omega) (by omega)).trans (bit_or A B (by omega) (by omega)).symm
 ·rw [show ((9 : Nat) : Int) = 9 from rfl, numR_bit (.inr (.inr rfl))]; exact (xor_nat A B (by omega) (by omega)).trans (bit_xor A B (by omega) (by omega)).symm
 ·rw [show ((10 : Nat) : Int) = 10 from rfl, numR_shl]; show w64 _ = _; rw [w64_eq]
 ·exact (numR_shr _ a0 a1).symm

theorem AG.setV {s : MS} {m : Mac} (h : AG s m) (d : Nat) {n : Int} {v : V} (hv : sameAs s.f v n) (h0 : 0 ≤ n) (h1 : n < 18446744073709551616) : AG (s.setV d n) (m.setReg d v) := by
 refine ⟨setV_ok h.ok d h0 h1, h.f, h.l, fun i hi => ?_, h.st, h.fr⟩
 show sameAs s.f (if i = d then v else m.regs i) (if i = d then n else s.v i)
 split
 ·exact hv
 ·exact h.v i hi
theorem AG.ahead {s : MS} {m : Mac} (h : AG s m) (n : Int) : AG (s.ahead n) m := by
 refine ⟨setV_ok h.ok 8 (w64_rng n).1 (w64_rng n).2, h.f, h.l, fun i hi => ?_, h.st, h.fr⟩
 show sameAs s.f (m.regs i) (if i = 8 then w64 n else s.v i)
 rw [if_neg (by omega)]; exact h.v i hi
theorem same_num {f n : Int} : sameAs f (nV n) n := ⟨⟨(by decide : (0 : Int) ≤ 1), (by decide : (1 : Int) ≤ 3)⟩, fun _ => rfl, fun h => absurd (show (1 : Int) = 2 from h) (by decide), fun h => absurd (show (1 : Int) = 3 from h) (by decide)⟩
theorem AG.sec {s : MS} {m : Mac} {x : PI} {y : RI} (h : AG s m) (hxy : SameI x y) (hc : x.c < 8) : sameAs s.f (m.second y) ((s.ahead x.n).v x.r) := by
 unfold Mac.second
 rw [hxy.imm, hxy.c, hxy.n]
 by_cases e : 128 ≤ x.op
 ·rw [show x.r = 8 from by unfold PI.r secR; rw [if_pos (by omega)], decide_eq_true e]; exact same_num
 ·rw [show x.r = x.c from by unfold PI.r secR; rw [if_neg (by omega)], decide_eq_false e]; exact (h.ahead x.n).v x.c hc
def Both (x : PI) (s : MS) (m : Mac) (y : RI) : Prop := ∃ s' ov, doK x (s.ahead x.n) = some (s', ov) ∧ AG s' (stepR m y).1 ∧ ov = if (stepR m y).2 then x.of else 0
theorem kinds3 {v : V} (h : v.kind ≠ 0) (hk : 0 ≤ v.kind ∧ v.kind ≤ 3) : v.kind = 1 ∨ v.kind = 2 ∨ v.kind = 3 := by omega
theorem may_was {m : Mac} {b : Bool} (h : (m.may b).fault = false) : b = true ∧ m.may b = m := by
 have e := may_false h
 rw [e]; exact ⟨rfl, rfl⟩
theorem moved_ag {m : Mac} {pv nv : V} {sg f p n : Int} (hf : (m.moved pv nv sg).1.fault = false) (f1 : 1000 ≤ f) (f2 : f ≤ 1096) (hk : pv.kind = 2 ∨ pv.kind = 3) (hp : sameAs f pv p) (hn : nv.kind = 1 → n = nv.bits) (k1 : nv.kind = 1) (hs : sg = 1 ∨ sg = -1) :
  (m.moved pv nv sg).1 = m ∧ sameAs f (m.moved pv nv sg).2 (w64 (p + sg * n)) := by
 have hn' := hn k1
 unfold Mac.moved at hf ⊢
 split at hf
 ·rename_i hb
  rw [if_pos hb]
  obtain ⟨h1, h2⟩ := may_was hf
  refine ⟨h2, ?_⟩
  unfold placeB at h1
  simp only [Bool.and_eq_true, decide_eq_true_eq] at h1
  have e : ∀ b : Int, 1000 ≤ b → b ≤ 1096 → p = b + pv.place → w64 (p + sg * n) = b + (pv.place + sg * wrap64 nv.bits) := fun b b1 b2 e => by
   rw [w64_eq, e, hn']
   rcases hs with rfl | rfl <;> unfold wrap64 at h1 ⊢ <;> omega
  exact ⟨hp.k, fun q => (by rcases hk with k | k <;> (have q' : pv.kind = 1 := q; omega)), fun q => e f f1 f2 (hp.p q), fun q => e 1032 (by decide) (by decide) (hp.q q)⟩
 ·exact absurd (may_false hf) (by decide)
theorem work_ag {s : MS} {m : Mac} {y : RI} {a b : Int} {k : Nat} (h : AG s m) (hm : MacOk m) (hd : y.dst < 8) (hs : y.src < 8) (hop : y.op = (k : Int)) (h1 : 2 ≤ k) (h2 : k ≤ 11) (hf : (m.work y).1.fault = false)
  (va : sameAs s.f (m.regs y.dst) a) (vb : sameAs s.f (m.second y) b) : (m.work y).1 = m ∧ sameAs s.f (m.work y).2 (wkR k a b) := by
 have ka := va.k
 have kb := vb.k
 have ga := hm.1 y.dst hd
 have gb := second_good hm y hs
 have f1 := h.ok.f0
 have f2 : s.f ≤ 1096 := by have := h.ok.fl; have := h.ok.l1; omega
 have q := work_good hm y hd hs hf
 refine ⟨q.1, ?_⟩
 unfold Mac.work at hf ⊢
 simp only at hf ⊢
 by_cases e1 : (m.regs y.dst).kind = 1 ∧ (m.second y).kind = 1
 ·rw [if_pos e1] at hf ⊢
  rw [va.n e1.1, vb.n e1.2, numR_wk h1 h2 ga.1 ga.2.1 gb.1 gb.2.1, hop]; exact same_num
 rw [if_neg e1] at hf ⊢
 have nz : ∀ (b : Bool) (c : Mac), ((m.may b).may false).fault = false → False := fun b c e => may_both e
 by_cases e2 : y.op = 2 ∧ (m.second y).kind = 1
 ·rw [if_pos e2] at hf ⊢
  have k2 : k = 2 := by omega
  obtain ⟨w1, w2⟩ := (show (m.may (((m.regs y.dst).kind != 0) && ((m.second y).kind != 0))).fault = false ∧ True from by
   refine ⟨?_, trivial⟩
   cases hb : (((m.regs y.dst).kind != 0) && ((m.second y).kind != 0))
   ·exfalso; rw [hb] at hf
    unfold Mac.moved at hf
    split at hf
    ·cases hq : placeB ((m.regs y.dst).place + 1 * wrap64 (m.second y).bits) <;> rw [hq] at hf <;> cases hf
    ·cases hf
   ·exact hm.2.1)
  obtain ⟨w3, w4⟩ := may_was w1
  rw [w4] at hf ⊢
  have hk : (m.regs y.dst).kind = 2 ∨ (m.regs y.dst).kind = 3 := by
   simp only [Bool.and_eq_true, bne_iff_ne, ne_eq] at w3
   have := w3.1; have := e2.2; omega
  have r := (moved_ag hf f1 f2 hk va vb.n e2.2 (.inl rfl)).2
  rw [k2, show wkR 2 a b = w64 (a + 1 * b) from by rw [Int.one_mul]; rfl]; exact r
 rw [if_neg e2] at hf ⊢
 by_cases e3 : y.op = 2 ∧ (m.regs y.dst).kind = 1
 ·rw [if_pos e3] at hf ⊢
  have k2 : k = 2 := by omega
  obtain ⟨w1, w2⟩ := (show (m.may (((m.regs y.dst).kind != 0) && ((m.second y).kind != 0))).fault = false ∧ True from by
   refine ⟨?_, trivial⟩
   cases hb : (((m.regs y.dst).kind != 0) && ((m.second y).kind != 0))
   ·exfalso; rw [hb] at hf
    unfold Mac.moved at hf
    split at hf
    ·cases hq : placeB ((m.second y).place + 1 * wrap64 (m.regs y.dst).bits) <;> rw [hq] at hf <;> cases hf
    ·cases hf
   ·exact hm.2.1)
  obtain ⟨w3, w4⟩ := may_was w1
  rw [w4] at hf ⊢
  have hk : (m.second y).kind = 2 ∨ (m.second y).kind = 3 := by
   simp only [Bool.and_eq_true, bne_iff_ne, ne_eq] at w3
   have := w3.2; have := e3.2; omega
  have r := (moved_ag hf f1 f2 hk vb va.n e3.2 (.inl rfl)).2
  rw [k2, show wkR 2 a b = w64 (b + 1 * a) from by rw [Int.one_mul, Int.add_comm]; rfl]; exact r
 rw [if_neg e3] at hf ⊢
 by_cases e4 : y.op = 3 ∧ (m.second y).kind = 1
 ·rw [if_pos e4] at hf ⊢
  have k2 : k = 3 := by omega
  obtain ⟨w1, w2⟩ := (show (m.may (((m.regs y.dst).kind != 0) && ((m.second y).kind != 0))).fault = false ∧ True from by
   refine ⟨?_, trivial⟩
   cases hb : (((m.regs y.dst).kind != 0) && ((m.second y).kind != 0))
   ·exfalso; rw [hb] at hf
    unfold Mac.moved at hf
    split at hf
    ·cases hq : placeB ((m.regs y.dst).place + -1 * wrap64 (m.second y).bits) <;> rw [hq] at hf <;> cases hf
    ·cases hf
   ·exact hm.2.1)
  obtain ⟨w3, w4⟩ := may_was w1
  rw [w4] at hf ⊢
  have hk : (m.regs y.dst).kind = 2 ∨ (m.regs y.dst).kind = 3 := by
   simp only [Bool.and_eq_true, bne_iff_ne, ne_eq] at w3
   have := w3.1; have := e4.2; omega
  have r := (moved_ag hf f1 f2 hk va vb.n e4.2 (.inr rfl)).2
  rw [k2, show wkR 3 a b = w64 (a + -1 * b) from by rw [show a + -1 * b = a - b from by omega]; rfl]; exact r
 rw [if_neg e4] at hf ⊢
 by_cases e5 : y.op = 3 ∧ (m.regs y.dst).kind = (m.second y).kind
 ·rw [if_pos e5] at hf ⊢
  have k2 : k = 3 := by omega
  obtain ⟨w3, w4⟩ := may_was hf
  simp only [Bool.and_eq_true, bne_iff_ne, ne_eq] at w3
  have hk : (m.regs y.dst).kind = 2 ∨ (m.regs y.dst).kind = 3 := by
   have := w3.1; have : (m.regs y.dst).kind ≠ 1 := fun e => e1 ⟨e, e5.2 ▸ e⟩; omega
  have e : a - b = (m.regs y.dst).place - (m.second y).place := by
   rcases hk with k | k
   ·rw [va.p k, vb.p (e5.2 ▸ k)]; omega
   ·rw [va.q k, vb.q (e5.2 ▸ k)]; omega
  rw [k2, show wkR 3 a b = w64 (a - b) from rfl, e]; exact same_num
 rw [if_neg e5] at hf
 exact (may_both hf).elim
end Go.Proofs.YtoobileejdhikaaGreat

namespace Go.Proofs.YtoobileejdhikaaGreat
open Go.RowKit

theorem loadGo_all {m : Mac} (pv : V) (of : Int) : ∀ (r i : Nat) (n u : Int), m.fault = false → (m.loadGo pv of r i n u).1.fault = false → ∀ j : Nat, i ≤ j → j < i + r → (m.byteAt pv (of + j)).2 = true
 | 0, i, _, _, _, _, j, h1, h2 => by omega
 | r + 1, i, n, u, h0, hf, j, h1, h2 => by
  have e : m.loadGo pv of (r + 1) i n u = if (m.byteAt pv (of + i)).2 then m.loadGo pv of r ((i + 1 : Nat) : Int) (w64 (n + w64 (u * w64 (m.byteOf pv (m.byteAt pv (of + i)).1)))) (w64 (256 * u)) else (m.may false, vNone) := rfl
  rw [e] at hf
  by_cases hb : (m.byteAt pv (of + i)).2 = true
  ·rw [if_pos hb] at hf
   by_cases ej : j = i
   ·subst ej; exact hb
   ·exact loadGo_all pv of r (i + 1) _ _ h0 hf j (by omega) (by omega)
  ·rw [if_neg hb] at hf; exact absurd (may_false hf) (by decide)
theorem or_add {n c : Int} {i : Nat} (h0 : 0 ≤ n) (h1 : n < 256 ^ i) (c0 : 0 ≤ c) (c1 : c < 256) (hi : i < 8) : bits .or .u64 n (IntKind.u64.wrap (c * 2 ^ (8 * i))) = n + 256 ^ i * c := by
 obtain ⟨N, rfl⟩ : ∃ N : Nat, n = N := ⟨n.toNat, by omega⟩
 obtain ⟨C, rfl⟩ : ∃ C : Nat, c = C := ⟨c.toNat, by omega⟩
 have e8 : (2 : Int) ^ (8 * i) = 256 ^ i := by rw [Int.pow_mul]; rfl
 have eN : (256 : Nat) ^ i = 2 ^ (8 * i) := by rw [Nat.pow_mul]
 have p8 := pow256_le (i := i + 1) (by omega)
 have ps := pow256 i
 rw [ps] at p8
 have cast1 : ((256 ^ i : Nat) : Int) = (256 : Int) ^ i := by rw [Int.natCast_pow]; rfl
 have castC : ((C * 256 ^ i : Nat) : Int) = (C : Int) * 256 ^ i := by rw [Int.natCast_mul, cast1]
 have hN : N < 2 ^ (8 * i) := by
  rw [← cast1] at h1
  have := Int.ofNat_lt.1 h1
  rw [← eN]; exact this
 have m2 : (C : Int) * 256 ^ i ≤ 255 * 256 ^ i := Int.mul_le_mul_of_nonneg_right (by omega) (by omega)
 have m0 : (0 : Int) ≤ (C : Int) * 256 ^ i := Int.mul_nonneg (by omega) (by omega)
 have hC : C * 256 ^ i < 18446744073709551616 := by
  have : ((C * 256 ^ i : Nat) : Int) < ((18446744073709551616 : Nat) : Int) := by rw [castC]; show (C : Int) * 256 ^ i < 18446744073709551616; omega
  exact Int.ofNat_lt.1 this
 have hN2 : N < 18446744073709551616 := by
  have := pow256_le (i := i) (by omega)
  omega
 rw [e8, wrapU, Int.emod_eq_of_lt m0 (by omega), ← castC, or_nat N (C * 256 ^ i) hN2 hC]
 have q := Nat.shiftLeft_add_eq_or_of_lt hN C
 rw [Nat.shiftLeft_eq, ← eN] at q
 rw [Nat.or_comm, ← q, Int.natCast_add, castC, Int.mul_comm (256 ^ i) (C : Int), Int.add_comm]
theorem loadGo_ld {m : Mac} {s : MS} (hb : ByOk m) (pv : V) (of : Int) (F : Nat) : ∀ (r i : Nat) (n : Int), i + r ≤ 8 → 0 ≤ n → n < 256 ^ i → (∀ j : Nat, i ≤ j → j < i + r → (m.byteAt pv (of + j)).2 = true ∧ s.m (F + j) = m.byteOf pv (m.byteAt pv (of + j)).1) →
  m.loadGo pv of r i n (w64 (256 ^ i)) = (m, nV (ldGo s.m F r i n))
 | 0, i, n, _, _, _, _ => rfl
 | r + 1, i, n, hi, h0, h1, hy => by
  have hbi := hy i (Nat.le_refl _) (by omega)
  have q := byteOf_rng hb pv (m.byteAt pv (of + i)).1
  have p7 := pow256_le (i := i) (by omega)
  have p8 := pow256_le (i := i + 1) (by omega)
  have ps := pow256 i
  have hlt : (256 : Int) ^ i < 18446744073709551616 := by rw [ps] at p8; omega
  have eu : w64 ((256 : Int) ^ i) = 256 ^ i := by rw [w64_eq]; omega
  have hc := hbi.2.symm
  generalize m.byteOf pv (m.byteAt pv (of + i)).1 = c at q hc
  have ec : w64 c = c := by rw [w64_eq]; omega
  have m1 : 0 ≤ (256 : Int) ^ i * c := Int.mul_nonneg (by omega) q.1
  have m2 : (256 : Int) ^ i * c ≤ 256 ^ i * 255 := Int.mul_le_mul_of_nonneg_left (by omega) (by omega)
  have e1 : w64 ((256 : Int) ^ i * c) = 256 ^ i * c := by rw [w64_eq]; omega
  have e2 : w64 (n + (256 : Int) ^ i * c) = n + 256 ^ i * c := by rw [w64_eq]; omega
  have e3 : w64 (256 * (256 : Int) ^ i) = w64 (256 ^ (i + 1)) := by rw [ps]
  have hc2 : m.byteOf pv (m.byteAt pv (of + i)).1 = s.m (F + i) := hbi.2.symm
  have hstep : m.loadGo pv of (r + 1) i n (w64 (256 ^ i)) = m.loadGo pv of r ((i + 1 : Nat) : Int) (n + 256 ^ i * c) (w64 (256 ^ (i + 1))) := by
   show (if (m.byteAt pv (of + i)).2 then m.loadGo pv of r ((i : Int) + 1) (w64 (n + w64 (w64 (256 ^ i) * w64 (m.byteOf pv (m.byteAt pv (of + i)).1)))) (w64 (256 * w64 (256 ^ i))) else (m.may false, vNone)) = _
   rw [if_pos hbi.1, hc2, ← hc, eu, ec, e1, e2, e3]; rfl
  rw [hstep, loadGo_ld hb pv of F r (i + 1) (n + 256 ^ i * c) (by omega) (by omega) (by rw [ps]; omega) (fun j h1 h2 => hy j (by omega) (by omega))]
  show (m, nV (ldGo s.m F r (i + 1) (n + 256 ^ i * c))) = (m, nV (ldGo s.m F r (i + 1) (bits .or .u64 n (IntKind.u64.wrap (s.m (F + i) * 2 ^ (8 * i))))))
  rw [← hc, or_add h0 h1 q.1 q.2 (by omega)]
theorem byte_ag {s : MS} {m : Mac} (h : AG s m) {pv : V} {p of : Int} (hp : sameAs s.f pv p) (j : Nat) (hb : (m.byteAt pv (of + j)).2 = true) :
  0 ≤ p + of - 1000 + j ∧ p + of - 1000 + j < 96 ∧ s.m (p + of - 1000 + j).toNat = m.byteOf pv (m.byteAt pv (of + j)).1 := by
 have hl := h.l
 have h1 := h.ok.l1
 have hf := h.f
 unfold Mac.byteAt at hb ⊢
 unfold Mac.byteOf
 by_cases k : pv.kind = 2
 ·simp only [if_pos k, Bool.and_eq_true, decide_eq_true_eq] at hb ⊢
  have e := hp.p k
  refine ⟨by omega, by omega, ?_⟩
  rw [← h.fr (pv.place + (of + j)).toNat (by omega)]
  congr 1; omega
 ·simp only [if_neg k, Bool.and_eq_true, decide_eq_true_eq] at hb ⊢
  have e := hp.q hb.1.1
  refine ⟨by omega, by omega, ?_⟩
  rw [← h.st (pv.place + (of + j) + 32).toNat (by omega)]
  congr 1; omega
theorem load_ag {s : MS} {m : Mac} {x : PI} {y : RI} {z : Nat} (h : AG s m) (hm : MacOk m) (hb : ByOk m) (hc : x.c < 8) (hxy : SameI x y) (h1 : 20 ≤ y.op) (h2 : y.op ≤ 23) (hz : z = 1 ∨ z = 2 ∨ z = 4 ∨ z = 8) (hsz : (sizeR y.op).toNat = z)
  (hf : (stepR m y).1.fault = false) : ∃ s', doLd x (s.ahead x.n) z = some (s', 0) ∧ AG s' (stepR m y).1 ∧ (stepR m y).2 = false := by
 have ha := h.ahead x.n
 have vc := ha.v x.c hc
 have e0 : stepR m y = ((m.load (m.regs x.c) x.of z).1.setReg x.d (m.load (m.regs x.c) x.of z).2, false) := by
  unfold stepR
  rw [if_neg (by omega), if_neg (by simp [withinB]; omega), if_pos (by simp [withinB]; omega), hsz, hxy.c, hxy.of, hxy.d]
 rw [e0] at hf ⊢
 have hf' : (m.loadGo (m.regs x.c) x.of z ((0 : Nat) : Int) 0 1).1.fault = false := hf
 have hall := loadGo_all (m.regs x.c) x.of z 0 0 1 hm.2.1 hf'
 have hby : ∀ j : Nat, j < z → 0 ≤ (s.ahead x.n).v x.c + x.of - 1000 + j ∧ (s.ahead x.n).v x.c + x.of - 1000 + j < 96 ∧ (s.ahead x.n).m ((s.ahead x.n).v x.c + x.of - 1000 + j).toNat = m.byteOf (m.regs x.c) (m.byteAt (m.regs x.c) (x.of + j)).1 :=
  fun j hj => byte_ag ha vc j (hall j (by omega) (by omega))
 have b0 := hby 0 (by omega)
 have bz := hby (z - 1) (by omega)
 have hld := loadGo_ld (s := s.ahead x.n) hb (m.regs x.c) x.of ((s.ahead x.n).v x.c + x.of - 1000).toNat z 0 0 (by omega) (Int.le_refl 0) (by decide) (fun j _ hj => ⟨hall j (by omega) hj, by
  have q := (hby j (by omega)).2.2
  rw [← q]; congr 1; omega⟩)
 have e1 : m.load (m.regs x.c) x.of z = (m, nV ((s.ahead x.n).ld ((s.ahead x.n).v x.c + x.of - 1000).toNat z)) := hld
 rw [e1]
 have hg := (load_good (m := m) (m.regs x.c) x.of z (by exact hf')).2
 rw [e1] at hg
 refine ⟨(s.ahead x.n).setV x.d ((s.ahead x.n).ld ((s.ahead x.n).v x.c + x.of - 1000).toNat z), ?_, ?_, rfl⟩
 ·unfold doLd accOk acc
  rw [decide_eq_true (by omega), decide_eq_true (by omega)]; rfl
 ·exact ha.setV x.d same_num hg.1 hg.2.1
end Go.Proofs.YtoobileejdhikaaGreat

namespace Go.Proofs.YtoobileejdhikaaGreat
open Go.RowKit

theorem put_ag {s : MS} {m : Mac} (h : AG s m) {pv : V} {p of : Int} (hp : sameAs s.f pv p) (j : Nat) (hb : (m.byteAt pv (of + j)).2 = true) {c : Int} (c0 : 0 ≤ c) (c1 : c ≤ 255) :
  AG (s.setM (p + of - 1000 + j).toNat c) (m.putByte pv (m.byteAt pv (of + j)).1 c) := by
 have hl := h.l
 have h1 := h.ok.l1
 have hf := h.f
 have hok : MOk (s.setM (p + of - 1000 + j).toNat c) := ⟨h.ok.v0, h.ok.v1, fun i => by show 0 ≤ (if i = _ then c else s.m i) ∧ (if i = _ then c else s.m i) ≤ 255; split; exact ⟨c0, c1⟩; exact h.ok.m i, h.ok.f0, h.ok.fl, h.ok.l1⟩
 unfold Mac.byteAt at hb ⊢
 unfold Mac.putByte
 by_cases k : pv.kind = 2
 ·simp only [if_pos k, Bool.and_eq_true, decide_eq_true_eq] at hb ⊢
  have e := hp.p k
  refine ⟨hok, hf, ?_, h.v, fun i hi => ?_, fun i hi => ?_⟩
  ·show s.l = s.f + ((m.frame.set _ c).length : Nat); rw [List.length_set]; exact hl
  ·show (if i = (p + of - 1000 + j).toNat then c else s.m i) = m.stack i
   rw [if_neg (by omega)]; exact h.st i hi
  ·have hi' : i < m.frame.length := by have q : i < (m.frame.set (pv.place + (of + j)).toNat c).length := hi; rw [List.length_set] at q; exact q
   show (if (s.f - 1000).toNat + i = (p + of - 1000 + j).toNat then c else s.m ((s.f - 1000).toNat + i)) = (m.frame.set (pv.place + (of + j)).toNat c).getD i 0
   by_cases ei : i = (pv.place + (of + j)).toNat
   ·rw [if_pos (by omega), ei, List.getD_eq_getElem?_getD, List.getElem?_set_self (by omega)]; rfl
   ·rw [if_neg (by omega), List.getD_eq_getElem?_getD, List.getElem?_set_ne (Ne.symm ei), ← List.getD_eq_getElem?_getD]; exact h.fr i hi'
 ·simp only [if_neg k, Bool.and_eq_true, decide_eq_true_eq] at hb ⊢
  have e := hp.q hb.1.1
  refine ⟨hok, hf, hl, h.v, fun i hi => ?_, fun i hi => ?_⟩
  ·show (if i = (p + of - 1000 + j).toNat then c else s.m i) = (if i = (pv.place + (of + j) + 32).toNat then c else m.stack i)
   by_cases ei : i = (p + of - 1000 + j).toNat
   ·rw [if_pos ei, if_pos (by omega)]
   ·rw [if_neg ei, if_neg (by omega)]; exact h.st i hi
  ·show (if (s.f - 1000).toNat + i = (p + of - 1000 + j).toNat then c else s.m ((s.f - 1000).toNat + i)) = m.frame.getD i 0
   rw [if_neg (by omega)]; exact h.fr i hi
theorem byteAt_put {m : Mac} (pv : V) (i c : Int) (n : Int) : (m.putByte pv i c).byteAt pv n = m.byteAt pv n := by
 unfold Mac.byteAt
 rw [(putByte_regs m pv i c).2.2]
theorem storeGo_ag {pv : V} {p of n0 : Int} : ∀ (r i : Nat) (s : MS) (m : Mac), AG s m → sameAs s.f pv p → m.fault = false → 0 ≤ p + of - 1000 → (Mac.storeGo pv of r m i (n0 / 256 ^ i)).fault = false →
  AG (stGo n0 (p + of - 1000).toNat r i s) (Mac.storeGo pv of r m i (n0 / 256 ^ i)) ∧ (∀ j : Nat, i ≤ j → j < i + r → (m.byteAt pv (of + j)).2 = true)
 | 0, i, s, m, h, _, _, _, _ => ⟨h, fun j _ _ => by omega⟩
 | r + 1, i, s, m, h, hp, h0, hz, hf => by
  have e : Mac.storeGo pv of (r + 1) m i (n0 / 256 ^ i) = if (m.may (m.byteAt pv (of + i)).2).fault then m.may (m.byteAt pv (of + i)).2 else Mac.storeGo pv of r (m.putByte pv (m.byteAt pv (of + i)).1 (n0 / 256 ^ i % 256)) ((i + 1 : Nat) : Int) (n0 / 256 ^ i / 256) := rfl
  rw [e] at hf ⊢
  cases hb : (m.byteAt pv (of + i)).2
  ·rw [hb] at hf; cases hf
  ·rw [hb, may_true, h0, if_neg (by decide)] at hf
   rw [may_true, h0, if_neg (by decide)]
   have ed : n0 / 256 ^ i / 256 = n0 / 256 ^ (i + 1) := by rw [pow256, Int.mul_comm, Int.ediv_ediv_of_nonneg (Int.le_of_lt (by have : (0 : Int) < 256 ^ i := Int.pow_pos (by decide); exact this))]
   rw [ed] at hf ⊢
   have hput := put_ag h hp i hb (c := n0 / 256 ^ i % 256) (by omega) (by omega)
   have q := putByte_regs m pv (m.byteAt pv (of + i)).1 (n0 / 256 ^ i % 256)
   have e8 : (2 : Int) ^ (8 * i) = 256 ^ i := by rw [Int.pow_mul]; rfl
   have es : stGo n0 (p + of - 1000).toNat (r + 1) i s = stGo n0 (p + of - 1000).toNat r (i + 1) (s.setM (p + of - 1000 + i).toNat (n0 / 256 ^ i % 256)) := by
    show stGo n0 (p + of - 1000).toNat r (i + 1) (s.setM ((p + of - 1000).toNat + i) (n0 / 2 ^ (8 * i) % 256)) = _
    rw [e8, show (p + of - 1000).toNat + i = (p + of - 1000 + i).toNat from by omega]
   rw [es]
   have ih := storeGo_ag r (i + 1) (s.setM (p + of - 1000 + i).toNat (n0 / 256 ^ i % 256)) (m.putByte pv (m.byteAt pv (of + i)).1 (n0 / 256 ^ i % 256)) hput hp (q.2.1.trans h0) hz hf
   refine ⟨ih.1, fun j j1 j2 => ?_⟩
   by_cases ej : j = i
   ·subst ej; exact hb
   ·have := ih.2 j (by omega) (by omega)
    rw [byteAt_put] at this; exact this
theorem store_first {pv : V} {of n : Int} {r : Nat} {m : Mac} (hr : 0 < r) (hf : (Mac.storeGo pv of r m ((0 : Nat) : Int) n).fault = false) : (m.byteAt pv (of + ((0 : Nat) : Int))).2 = true := by
 cases r with
 | zero => omega
 | succ r =>
  have e : Mac.storeGo pv of (r + 1) m ((0 : Nat) : Int) n = if (m.may (m.byteAt pv (of + ((0 : Nat) : Int))).2).fault then m.may (m.byteAt pv (of + ((0 : Nat) : Int))).2 else Mac.storeGo pv of r (m.putByte pv (m.byteAt pv (of + ((0 : Nat) : Int))).1 (n % 256)) (((0 : Nat) : Int) + 1) (n / 256) := rfl
  rw [e] at hf
  cases hb : (m.byteAt pv (of + ((0 : Nat) : Int))).2
  ·rw [hb] at hf; cases hf
  ·rfl
theorem store_ag {s : MS} {m : Mac} {x : PI} {y : RI} {z : Nat} (h : AG s m) (hm : MacOk m) (hc : x.c < 8) (hd : x.d < 8) (hxy : SameI x y) (h1 : 24 ≤ y.op) (h2 : y.op ≤ 27) (hz : z = 1 ∨ z = 2 ∨ z = 4 ∨ z = 8) (hsz : (sizeR y.op).toNat = z)
  (hf : (stepR m y).1.fault = false) : ∃ s', doSt x (s.ahead x.n) z = some (s', 0) ∧ AG s' (stepR m y).1 ∧ (stepR m y).2 = false := by
 have ha := h.ahead x.n
 have vd := ha.v x.d hd
 have vc := ha.v x.c hc
 have e0 : stepR m y = (Mac.storeGo (m.regs x.d) x.of z (m.may ((m.regs x.c).kind == 1)) ((0 : Nat) : Int) (m.regs x.c).bits, false) := by
  unfold stepR
  rw [if_neg (by omega), if_neg (by simp [withinB]; omega), if_neg (by simp [withinB]; omega), if_pos (by simp [withinB]; omega), hsz, hxy.c, hxy.of, hxy.d]; rfl
 rw [e0] at hf ⊢
 have hk : ((m.regs x.c).kind == 1) = true := by
  cases hq : ((m.regs x.c).kind == 1)
  ·exfalso
   rw [hq] at hf
   obtain ⟨r, rfl⟩ : ∃ r, z = r + 1 := ⟨z - 1, by omega⟩
   have e : (Mac.storeGo (m.regs x.d) x.of (r + 1) (m.may false) ((0 : Nat) : Int) (m.regs x.c).bits) = if ((m.may false).may ((m.may false).byteAt (m.regs x.d) (x.of + ((0 : Nat) : Int))).2).fault then (m.may false).may ((m.may false).byteAt (m.regs x.d) (x.of + ((0 : Nat) : Int))).2 else _ := rfl
   have ht : ((m.may false).may ((m.may false).byteAt (m.regs x.d) (x.of + ((0 : Nat) : Int))).2).fault = true := by
    cases ((m.may false).byteAt (m.regs x.d) (x.of + ((0 : Nat) : Int))).2 <;> rfl
   have hf2 : (Mac.storeGo (m.regs x.d) x.of (r + 1) (m.may false) ((0 : Nat) : Int) (m.regs x.c).bits).fault = false := hf
   rw [e, if_pos ht, ht] at hf2; cases hf2
  ·rfl
 rw [hk, may_true] at hf ⊢
 have hf2 : (Mac.storeGo (m.regs x.d) x.of z m ((0 : Nat) : Int) (m.regs x.c).bits).fault = false := hf
 have hb0 := store_first (by omega) hf2
 have b0 := byte_ag ha vd 0 hb0
 have e1 : (m.regs x.c).bits = (m.regs x.c).bits / 256 ^ 0 := by rw [Int.pow_zero, Int.ediv_one]
 rw [e1] at hf2
 have q := storeGo_ag (of := x.of) (n0 := (m.regs x.c).bits) z 0 (s.ahead x.n) m ha vd hm.2.1 (by omega) hf2
 rw [← e1] at q
 have bz := byte_ag ha vd (z - 1) (q.2 (z - 1) (by omega) (by omega))
 refine ⟨stGo (m.regs x.c).bits ((s.ahead x.n).v x.d + x.of - 1000).toNat z 0 (s.ahead x.n), ?_, q.1, rfl⟩
 unfold doSt accOk acc
 rw [decide_eq_true (by omega), decide_eq_true (by omega)]
 show some ((s.ahead x.n).st ((s.ahead x.n).v x.d + x.of - 1000).toNat z ((s.ahead x.n).v x.c), 0) = _
 rw [vc.n (by simpa using hk)]; rfl
theorem cp_ag {f a b : Int} {u v : V} {k : Nat} (ha : sameAs f u a) (hb : sameAs f v b) (h0 : u.kind ≠ 0) (hk : u.kind = v.kind) (k1 : 31 ≤ k) (k2 : k ≤ 36) : holdsB (k : Int) (lessV u v) (sameV u v) = cpR k a b := by
 obtain ⟨l1, l2⟩ := less_meas hk
 have e : ∃ z, a = z + meas u ∧ b = z + meas v := by
  have := ha.k
  unfold meas
  rcases (show u.kind = 1 ∨ u.kind = 2 ∨ u.kind = 3 from by omega) with e | e | e
  ·rw [if_pos e, if_pos (hk ▸ e)]; exact ⟨0, by rw [ha.n e]; omega, by rw [hb.n (hk ▸ e)]; omega⟩
  ·rw [if_neg (by omega), if_neg (by omega)]; exact ⟨f, ha.p e, hb.p (hk ▸ e)⟩
  ·rw [if_neg (by omega), if_neg (by omega)]; exact ⟨1032, ha.q e, hb.q (hk ▸ e)⟩
 obtain ⟨z, rfl, rfl⟩ := e
 rw [l1, l2]
 generalize meas u = a
 generalize meas v = b
 rcases (show k = 31 ∨ k = 32 ∨ k = 33 ∨ k = 34 ∨ k = 35 ∨ k = 36 from by omega) with rfl | rfl | rfl | rfl | rfl | rfl
 all_goals
  rw [Bool.eq_iff_iff]
  simp [holdsB, cpR]
  try omega
end Go.Proofs.YtoobileejdhikaaGreat

namespace Go.Proofs.YtoobileejdhikaaGreat
open Go.RowKit

theorem none_same (f n : Int) : sameAs f vNone n := ⟨⟨(by decide : (0 : Int) ≤ 0), (by decide : (0 : Int) ≤ 3)⟩, fun h => absurd (show (0 : Int) = 1 from h) (by decide), fun h => absurd (show (0 : Int) = 2 from h) (by decide), fun h => absurd (show (0 : Int) = 3 from h) (by decide)⟩
theorem call_ag {s : MS} {m : Mac} {n : Int} (h : AG s m) (hm : MacOk m) (hn : 1 ≤ n ∧ n ≤ 3) (hf : (m.call n).fault = false) : AG (s.call n) (m.call n) := by
 have hl := h.l
 have l1 := h.ok.l1
 have f0 := h.f
 unfold MS.call Mac.call at *
 by_cases n2 : n = 2
 ·rw [if_pos n2, if_pos (by omega), if_neg (by omega)]
  exact h.setV 0 ⟨⟨(by decide : (0 : Int) ≤ 2), (by decide : (2 : Int) ≤ 3)⟩, fun h => absurd (show (2 : Int) = 1 from h) (by decide), fun _ => (by show s.f = s.f + 0; omega), fun h => absurd (show (2 : Int) = 3 from h) (by decide)⟩ (by omega) (by omega)
 rw [if_neg n2]
 by_cases n3 : n = 3
 ·rw [if_pos n3, if_pos (by omega), if_pos n3]
  exact h.setV 0 ⟨⟨(by decide : (0 : Int) ≤ 2), (by decide : (2 : Int) ≤ 3)⟩, fun h => absurd (show (2 : Int) = 1 from h) (by decide), fun _ => hl, fun h => absurd (show (2 : Int) = 3 from h) (by decide)⟩ (by omega) (by omega)
 rw [if_neg n3]
 rw [if_neg (by omega)] at hf ⊢
 have hk : ((m.regs 1).kind == 1) = true := by
  cases hq : ((m.regs 1).kind == 1)
  ·exfalso; rw [hq] at hf
   unfold Mac.shrink at hf
   split at hf <;> cases hf
  ·rfl
 rw [hk, may_true]
 have v1 := (h.v 1 (by omega)).n (by simpa using hk)
 have hw : w64 m.frame.length = m.frame.length := by rw [w64_eq]; have := hm.2.2; omega
 have g1 := hm.1 1 (by omega)
 have hreg : ∀ (f' : Int) (c : Int) (i : Nat), i < 8 → sameAs f' ((((m.clearTo 8).setReg 0 (nV 1)).setReg 0 (nV c)).regs i) (if i = 0 then c else s.v i) := by
  intro f' c i hi
  have e2 : (((m.clearTo 8).setReg 0 (nV 1)).setReg 0 (nV c)).regs i = if i = 0 then nV c else if i = 0 then nV 1 else if decide (i < 8) && clrB i (m.regs i) then vNone else m.regs i := rfl
  rw [e2]
  by_cases i0 : i = 0
  ·rw [if_pos i0, if_pos i0]; exact same_num
  ·rw [if_neg i0, if_neg i0, if_neg i0]
   have hv := h.v i hi
   cases hc : (decide (i < 8) && clrB i (m.regs i))
   ·rw [if_neg (by decide)]
    refine ⟨hv.k, hv.n, fun e => ?_, hv.q⟩
    exfalso
    unfold clrB at hc
    rw [decide_eq_true hi, show ((m.regs i).kind == 2) = true from by rw [e]; rfl] at hc
    simp at hc
   ·rw [if_pos rfl]; exact none_same _ _
 unfold MS.shrink Mac.shrink
 show AG (if s.l - s.f < s.v 1 then _ else _) (if (m.regs 1).bits ≤ w64 m.frame.length then _ else _)
 rw [hw]
 by_cases hs : s.l - s.f < s.v 1
 ·rw [if_pos hs, if_neg (by rw [← v1]; omega)]
  refine ⟨setV_ok h.ok 0 (by decide) (by decide), h.f, hl, fun i hi => ?_, h.st, h.fr⟩
  have := hreg s.f 1 i hi
  have e2 : ((m.clearTo 8).setReg 0 (nV 1)).regs i = (((m.clearTo 8).setReg 0 (nV 1)).setReg 0 (nV 1)).regs i := by
   show (if i = 0 then _ else _) = (if i = 0 then _ else (if i = 0 then _ else _)); split <;> rfl
  rw [e2]; exact this
 ·rw [if_neg hs, if_pos (by rw [← v1]; omega)]
  have b0 : 0 ≤ s.v 1 := h.ok.v0 1 (by omega)
  have hlen : ((m.frame.drop (m.regs 1).bits.toNat).length : Int) = m.frame.length - s.v 1 := by rw [List.length_drop, v1]; omega
  refine ⟨setV_ok (s := { s with f := s.f + s.v 1 }) ⟨h.ok.v0, h.ok.v1, h.ok.m, (by show 1000 ≤ s.f + s.v 1; omega), (by show s.f + s.v 1 ≤ s.l; omega), h.ok.l1⟩ 0 (by decide) (by decide), (by show 1032 ≤ s.f + s.v 1; omega), ?_, fun i hi => hreg (s.f + s.v 1) 0 i hi, h.st, fun i hi => ?_⟩
  ·show s.l = s.f + s.v 1 + ((m.frame.drop (m.regs 1).bits.toNat).length : Int)
   rw [hlen]; omega
  ·have hi' : i < (m.frame.drop (m.regs 1).bits.toNat).length := hi
   rw [List.length_drop] at hi'
   show s.m ((s.f + s.v 1 - 1000).toNat + i) = (m.frame.drop (m.regs 1).bits.toNat).getD i 0
   rw [List.getD_eq_getElem?_getD, List.getElem?_drop, ← List.getD_eq_getElem?_getD, ← h.fr ((m.regs 1).bits.toNat + i) (by omega)]
   congr 1; omega
theorem mov_ag {s : MS} {m : Mac} {x : PI} {y : RI} (h : AG s m) (hxy : SameI x y) (hc : x.c < 8) (ho : y.op = 1) (hf : (stepR m y).1.fault = false) : AG ((s.ahead x.n).setV x.d ((s.ahead x.n).v x.r)) (stepR m y).1 ∧ (stepR m y).2 = false := by
 have e : stepR m y = ((m.may ((m.second y).kind != 0)).setReg x.d (m.second y), false) := by unfold stepR; rw [if_pos ho, hxy.d]
 rw [e] at hf ⊢
 have hf' : (m.may ((m.second y).kind != 0)).fault = false := hf
 rw [(may_was hf').2]
 have hr : x.r < 9 := PI.r_lt (by omega)
 exact ⟨(h.ahead x.n).setV x.d (h.sec hxy hc) ((h.ahead x.n).ok.v0 x.r hr) ((h.ahead x.n).ok.v1 x.r hr), rfl⟩
theorem wk_ag {s : MS} {m : Mac} {x : PI} {y : RI} {k : Nat} (h : AG s m) (hm : MacOk m) (hxy : SameI x y) (hc : x.c < 8) (hd : x.d < 8) (ho : y.op = (k : Int)) (h1 : 2 ≤ k) (h2 : k ≤ 11) (hf : (stepR m y).1.fault = false) : ∃ s', doWk k x (s.ahead x.n) = some (s', 0) ∧ AG s' (stepR m y).1 ∧ (stepR m y).2 = false := by
 have e := step_work (m := m) (y := y) (by omega) (by omega)
 rw [e] at hf ⊢
 have ha := h.ahead x.n
 have hr : x.r < 9 := PI.r_lt (by omega)
 have hf' : (m.work y).1.fault = false := hf
 have q := work_ag (k := k) ha hm (by rw [hxy.d]; exact hd) (by rw [hxy.c]; exact hc) ho h1 h2 hf' (by rw [hxy.d]; exact ha.v x.d hd) (h.sec hxy hc)
 refine ⟨_, rfl, ?_, rfl⟩
 rw [q.1, hxy.d]
 have b := wkR_bd k (ha.ok.v0 x.d (by omega)) (ha.ok.v1 x.d (by omega)) (ha.ok.v0 x.r hr)
 exact ha.setV x.d q.2 b.1 b.2
theorem cmp_ag {s : MS} {m : Mac} {x : PI} {y : RI} {k : Nat} (h : AG s m) (hxy : SameI x y) (hc : x.c < 8) (hd : x.d < 8) (ho : y.op = (k : Int)) (h1 : 31 ≤ k) (h2 : k ≤ 36) (hf : (stepR m y).1.fault = false) : ∃ s' ov, doCp k x (s.ahead x.n) = some (s', ov) ∧ AG s' (stepR m y).1 ∧ ov = if (stepR m y).2 then x.of else 0 := by
 have e : stepR m y = m.compares y := by
  unfold stepR
  rw [if_neg (by omega), if_neg (by simp [withinB]; omega), if_neg (by simp [withinB]; omega), if_neg (by simp [withinB]; omega), if_neg (by omega), if_pos (by simp [withinB]; omega)]
 rw [e] at hf ⊢
 unfold Mac.compares at hf ⊢
 have hf' : (m.may (((m.regs y.dst).kind != 0) && ((m.regs y.dst).kind == (m.second y).kind))).fault = false := hf
 obtain ⟨w1, w2⟩ := may_was hf'
 simp only [Bool.and_eq_true, bne_iff_ne, ne_eq, beq_iff_eq] at w1
 have ha := h.ahead x.n
 have q := cp_ag (k := k) (ha.v x.d hd) (h.sec hxy hc) (by rw [← hxy.d]; exact w1.1) (by rw [← hxy.d]; exact w1.2) h1 h2
 refine ⟨_, _, rfl, ?_, ?_⟩
 ·show AG (s.ahead x.n) (m.may _); rw [w2]; exact ha
 ·show (if cpR k ((s.ahead x.n).v x.d) ((s.ahead x.n).v x.r) then x.of else 0) = if holdsB y.op (lessV (m.regs y.dst) (m.second y)) (sameV (m.regs y.dst) (m.second y)) then x.of else 0
  rw [ho, hxy.d, q]
theorem step_ag {s : MS} {m : Mac} {x : PI} {y : RI} (h : AG s m) (hm : MacOk m) (hb : ByOk m) (hxy : SameI x y) (hd : x.d < 8) (hc : x.c < 8) (hn : x.op = 40 → 1 ≤ x.n ∧ x.n ≤ 3) (h41 : x.op ≠ 41) (hl : opTab x.op = true)
  (hf : (stepR m y).1.fault = false) : Both x s m y := by
 have hop := hxy.op
 have fin : ∀ {r : Option (MS × Int)}, doK x (s.ahead x.n) = r → (∃ s', r = some (s', 0) ∧ AG s' (stepR m y).1 ∧ (stepR m y).2 = false) → Both x s m y := fun e q => by
  obtain ⟨s', q1, q2, q3⟩ := q
  exact ⟨s', 0, e.trans q1, q2, by rw [q3]; rfl⟩
 have wk : ∀ k : Nat, x.op % 128 = k → 2 ≤ k → k ≤ 11 → doK x (s.ahead x.n) = doWk k x (s.ahead x.n) → Both x s m y := fun k e k1 k2 ed => fin ed (wk_ag h hm hxy hc hd (by rw [hop, e]) k1 k2 hf)
 have cp : ∀ k : Nat, x.op % 128 = k → 31 ≤ k → k ≤ 36 → doK x (s.ahead x.n) = doCp k x (s.ahead x.n) → Both x s m y := fun k e k1 k2 ed => by
  obtain ⟨s', ov, q1, q2, q3⟩ := cmp_ag h hxy hc hd (by rw [hop, e]) k1 k2 hf
  exact ⟨s', ov, ed.trans q1, q2, q3⟩
 have ld : ∀ k z : Nat, x.op % 128 = k → 20 ≤ k → k ≤ 23 → (z = 1 ∨ z = 2 ∨ z = 4 ∨ z = 8) → (sizeR (k : Int)).toNat = z → doK x (s.ahead x.n) = doLd x (s.ahead x.n) z → Both x s m y := fun k z e k1 k2 hz hsz ed => fin ed (load_ag h hm hb hc hxy (by rw [hop, e]; omega) (by rw [hop, e]; omega) hz (by rw [hop, e]; exact hsz) hf)
 have sr : ∀ k z : Nat, x.op % 128 = k → 24 ≤ k → k ≤ 27 → (z = 1 ∨ z = 2 ∨ z = 4 ∨ z = 8) → (sizeR (k : Int)).toNat = z → doK x (s.ahead x.n) = doSt x (s.ahead x.n) z → Both x s m y := fun k z e k1 k2 hz hsz ed => fin ed (store_ag h hm hc hd hxy (by rw [hop, e]; omega) (by rw [hop, e]; omega) hz (by rw [hop, e]; exact hsz) hf)
 have mv : x.op % 128 = 1 → doK x (s.ahead x.n) = some ((s.ahead x.n).setV x.d ((s.ahead x.n).v x.r), 0) → Both x s m y := fun e ed => by
  have q := mov_ag h hxy hc (by rw [hop, e]; rfl) hf
  exact ⟨_, 0, ed, q.1, by rw [q.2]; rfl⟩
 by_cases hx : (x.op = 1 ∨ x.op = 129) ∨ (2 ≤ x.op ∧ x.op ≤ 11) ∨ (130 ≤ x.op ∧ x.op ≤ 139) ∨ (20 ≤ x.op ∧ x.op ≤ 27) ∨ x.op = 30 ∨ (31 ≤ x.op ∧ x.op ≤ 36) ∨ (159 ≤ x.op ∧ x.op ≤ 164) ∨ x.op = 40
 ·obtain ⟨op, d, c, of, n⟩ := x
  dsimp only at *
  rcases hx with (rfl | rfl) | hx | hx | hx | rfl | hx | hx | rfl
  ·exact mv rfl rfl
  ·exact mv rfl rfl
  ·rcases (show op = 2 ∨ op = 3 ∨ op = 4 ∨ op = 5 ∨ op = 6 ∨ op = 7 ∨ op = 8 ∨ op = 9 ∨ op = 10 ∨ op = 11 from by omega) with rfl | rfl | rfl | rfl | rfl | rfl | rfl | rfl | rfl | rfl <;> exact wk _ rfl (by decide) (by decide) rfl
  ·rcases (show op = 130 ∨ op = 131 ∨ op = 132 ∨ op = 133 ∨ op = 134 ∨ op = 135 ∨ op = 136 ∨ op = 137 ∨ op = 138 ∨ op = 139 from by omega) with rfl | rfl | rfl | rfl | rfl | rfl | rfl | rfl | rfl | rfl <;> exact wk _ rfl (by decide) (by decide) rfl
  ·rcases (show op = 20 ∨ op = 21 ∨ op = 22 ∨ op = 23 ∨ op = 24 ∨ op = 25 ∨ op = 26 ∨ op = 27 from by omega) with rfl | rfl | rfl | rfl | rfl | rfl | rfl | rfl
   ·exact ld 20 1 rfl (by decide) (by decide) (by decide) rfl rfl
   ·exact ld 21 2 rfl (by decide) (by decide) (by decide) rfl rfl
   ·exact ld 22 4 rfl (by decide) (by decide) (by decide) rfl rfl
   ·exact ld 23 8 rfl (by decide) (by decide) (by decide) rfl rfl
   ·exact sr 24 1 rfl (by decide) (by decide) (by decide) rfl rfl
   ·exact sr 25 2 rfl (by decide) (by decide) (by decide) rfl rfl
   ·exact sr 26 4 rfl (by decide) (by decide) (by decide) rfl rfl
   ·exact sr 27 8 rfl (by decide) (by decide) (by decide) rfl rfl
  ·have q := step_jmp (m := m) (y := y) (by rw [hop]; rfl)
   exact ⟨_, _, rfl, by rw [q]; exact h.ahead n, by rw [q]; rfl⟩
  ·rcases (show op = 31 ∨ op = 32 ∨ op = 33 ∨ op = 34 ∨ op = 35 ∨ op = 36 from by omega) with rfl | rfl | rfl | rfl | rfl | rfl <;> exact cp _ rfl (by decide) (by decide) rfl
  ·rcases (show op = 159 ∨ op = 160 ∨ op = 161 ∨ op = 162 ∨ op = 163 ∨ op = 164 from by omega) with rfl | rfl | rfl | rfl | rfl | rfl <;> exact cp _ rfl (by decide) (by decide) rfl
  ·have q := step_call (m := m) (y := y) (by rw [hop]; rfl)
   have qn : y.num = n := hxy.n
   rw [qn] at q
   rw [q] at hf
   exact ⟨_, 0, rfl, by rw [q]; exact call_ag (h.ahead n) hm (hn rfl) hf, by rw [q]; rfl⟩
 ·exfalso
  simp only [opTab, List.contains_cons, List.contains_nil, Bool.or_eq_true, beq_iff_eq, Bool.or_false] at hl
  omega
end Go.Proofs.YtoobileejdhikaaGreat

namespace Go.Proofs.YtoobileejdhikaaGreat
open Go.RowKit

theorem left_ag {s : MS} {m : Mac} (h : AG s m) : s.left = m.frame := by
 have hl := h.l
 unfold MS.left
 refine List.ext_getElem? (fun i => ?_)
 rw [List.getElem?_map]
 by_cases hi : i < m.frame.length
 ·rw [List.getElem?_range (by omega), Option.map_some, h.fr i hi, List.getD_eq_getElem?_getD, List.getElem?_eq_getElem hi]; rfl
 ·rw [List.getElem?_eq_none (by rw [List.length_range]; omega), List.getElem?_eq_none (by omega)]; rfl
theorem run_ag {I : Nat → PI} {L : Nat → RI} {n : Nat} (hC : SameC I L n) (hw : ∀ k, k < n → opTab (I k).op = true) : ∀ (r i : Nat) (st : Nat → KS), i + r = n → StOk st → safeR I r i st = none →
  ∀ (f k : Nat) (m : Mac) (s : MS), i ≤ k → k < n → n ≤ k + f → HM (st k) m → AG s m → ∃ e, runR I n f k s = some e ∧ MOk e ∧ (runGo L f m k).1 = false ∧ e.v 0 = (runGo L f m k).2.1 ∧ e.left = (runGo L f m k).2.2
 | 0, i, st, hi, _, _, f, k, m, s, h1, h2, _, _, _ => by omega
 | r + 1, i, st, hi, hst, hs, f, k, m, s, h1, h2, hf, hm, ha => by
  have hx := hC.i i (by omega)
  have hdd : (I i).d < 8 := by rw [← hx.d]; exact hC.ok.dst i (by omega)
  have hcc : (I i).c < 8 := by rw [← hx.c]; exact hC.ok.src i (by omega)
  cases hr : (st i).reached
  ·rw [safeR_skip hr] at hs
   have hne : i ≠ k := fun e => by subst e; rw [hm.r] at hr; cases hr
   exact run_ag hC hw r (i + 1) st (by omega) hst hs f k m s (by omega) h2 hf hm ha
  ·cases hl : lookK (I i) ((st i).ahead i (I i).n) with
   | none => rw [safeR_none hr hl] at hs; cases hs
   | some ab =>
    obtain ⟨a, b⟩ := ab
    rw [safeR_some hr hl] at hs
    have hab := lookK_ok (ahead_ok (hst i) i (I i).n) (by omega) (by omega) hl
    have hst1 := meetK_ok hst hab.1 (i + 1)
    have hst2 := meetK_ok hst1 hab.2 (i + 1 + (I i).of.toNat)
    by_cases e : k = i
    ·subst e
     cases f with
     | zero => omega
     | succ f =>
      have eg : runGo L (f + 1) m k = if (L k).op = 41 then (if (m.may (((m.regs 0).kind == 1) && decide ((m.regs 0).bits ≤ 3))).fault then (true, 0, []) else (false, (m.regs 0).bits, m.frame)) else if (stepR m (L k)).1.fault then (true, 0, []) else runGo L f (stepR m (L k)).1 (if (stepR m (L k)).2 then k + 1 + (L k).off.toNat else k + 1) := rfl
      have er : runR I n (f + 1) k s = if k < n then (match doK (I k) (s.ahead (I k).n) with | none => none | some (s', ov) => runR I n f (k + 1 + ov.toNat) s') else some s := rfl
      rw [eg, er, if_pos h2]
      have hop := hx.op
      have hv := hw k h2
      simp only [opTab, List.contains_cons, List.contains_nil, Bool.or_eq_true, beq_iff_eq, Bool.or_false] at hv
      by_cases h41 : (I k).op = 41
      ·rw [if_pos (by rw [hx.op, h41]; rfl)]
       have hq : exitL ((st k).ahead k (I k).n) = some (a, b) := by
        have e : lookK (I k) ((st k).ahead k (I k).n) = exitL ((st k).ahead k (I k).n) := by
         generalize (st k).ahead k (I k).n = t
         unfold lookK; rw [h41]; rfl
        rw [← e]; exact hl
       unfold exitL at hq
       split at hq
       ·rename_i hk
        have v0 := ((hm.ahead k (I k).n).v 0 (by omega)).n hk.1
        have hb : (((m.regs 0).kind == 1) && decide ((m.regs 0).bits ≤ 3)) = true := by
         rw [v0.1, decide_eq_true (by have := v0.2.2; omega)]; rfl
        have ed : doK (I k) (s.ahead (I k).n) = some (s.ahead (I k).n, 64) := by
         generalize s.ahead (I k).n = t
         unfold doK; rw [h41]; rfl
        have aa := ha.ahead (I k).n
        rw [hb, may_true, hm.m.2.1, ed, if_neg (by decide)]
        refine ⟨s.ahead (I k).n, ?_, aa.ok, rfl, (aa.v 0 (by omega)).n v0.1, left_ag aa⟩
        exact runR_end (by have := hC.ok.le; show ¬ k + 1 + (64 : Int).toNat < n; rw [show (64 : Int).toNat = 64 from rfl]; omega)
       ·cases hq
      ·have n41 : (L k).op ≠ 41 := by rw [hx.op]; omega
       rw [if_neg n41]
       have hlast := hC.ok.last k h2 n41
       have hcall : (I k).op = 40 → 1 ≤ (I k).n ∧ (I k).n ≤ 3 := fun e => by have := hC.ok.calls k h2 (by rw [hx.op, e]; rfl); rw [hx.n] at this; exact this
       rcases snd_any k hm hx hdd hcc hcall h41 hl with q | q
       ·obtain ⟨s', ov, d1, d2, d3⟩ := step_ag ha hm.m hm.by_ hx hdd hcc hcall h41 (hw k h2) q.ok
        rw [q.no, if_neg (by decide)] at d3
        subst d3
        rw [q.ok, if_neg (by decide), q.no, if_neg (by decide), d1]
        exact run_ag hC hw r (k + 1) _ (by omega) hst2 hs f (k + 1) _ s' (Nat.le_refl _) hlast (by omega) (meet_keep hab.2 (meet_in hst q.hm)) d2
       ·obtain ⟨s', ov, d1, d2, d3⟩ := step_ag ha hm.m hm.by_ hx hdd hcc hcall h41 (hw k h2) q.ok
        rw [q.yes, if_pos rfl] at d3
        subst d3
        have hj := step_leap m (L k) q.yes
        have hgo := hC.ok.goes k h2 hj.1 hj.2
        rw [hx.of] at hgo
        rw [q.ok, if_neg (by decide), q.yes, if_pos rfl, hx.of, d1]
        exact run_ag hC hw r (k + 1) _ (by omega) hst2 hs f (k + 1 + (I k).of.toNat) _ s' (by omega) (by omega) (by omega) (meet_in hst1 q.hm) d2
    ·exact run_ag hC hw r (i + 1) _ (by omega) hst2 hs f k m s (by omega) h2 hf (meet_keep hab.2 (meet_keep hab.1 hm)) ha
theorem start_ag {F : List Int} (h : F.length ≤ 64) (hb : ∀ i, 0 ≤ F.getD i 0 ∧ F.getD i 0 < 256) : AG (startM F) (start F) := by
 have hlen : ((start F).frame.length : Int) = F.length := rfl
 refine ⟨⟨fun r _ => ?_, fun r _ => ?_, fun i => ?_, (by decide : (1000 : Int) ≤ 1032), (by show (1032 : Int) ≤ 1032 + F.length; omega), (by show (1032 : Int) + F.length ≤ 1096; omega)⟩, (by decide : (1032 : Int) ≤ 1032), rfl, fun i hi => ?_, fun i hi => ?_, fun i hi => ?_⟩
 ·show 0 ≤ (if r = 1 then (1032 : Int) else if r = 2 then 1032 + F.length else if r = 7 then 1032 else 0)
  repeat' split
  all_goals omega
 ·show (if r = 1 then (1032 : Int) else if r = 2 then 1032 + F.length else if r = 7 then 1032 else 0) < _
  repeat' split
  all_goals omega
 ·show 0 ≤ (if 32 ≤ i then F.getD (i - 32) 0 else 0) ∧ (if 32 ≤ i then F.getD (i - 32) 0 else 0) ≤ 255
  split
  ·have := hb (i - 32); omega
  ·omega
 ·show sameAs 1032 (if i = 1 then ⟨2, 0, 0⟩ else if i = 2 then ⟨2, 0, F.length⟩ else if i = 7 then ⟨3, 0, 0⟩ else vNone) (if i = 1 then 1032 else if i = 2 then 1032 + F.length else if i = 7 then 1032 else 0)
  by_cases e1 : i = 1
  ·rw [if_pos e1, if_pos e1]
   exact ⟨⟨(by decide : (0 : Int) ≤ 2), (by decide : (2 : Int) ≤ 3)⟩, fun h => absurd (show (2 : Int) = 1 from h) (by decide), fun _ => rfl, fun h => absurd (show (2 : Int) = 3 from h) (by decide)⟩
  rw [if_neg e1, if_neg e1]
  by_cases e2 : i = 2
  ·rw [if_pos e2, if_pos e2]
   exact ⟨⟨(by decide : (0 : Int) ≤ 2), (by decide : (2 : Int) ≤ 3)⟩, fun h => absurd (show (2 : Int) = 1 from h) (by decide), fun _ => rfl, fun h => absurd (show (2 : Int) = 3 from h) (by decide)⟩
  rw [if_neg e2, if_neg e2]
  by_cases e7 : i = 7
  ·rw [if_pos e7, if_pos e7]
   exact ⟨⟨(by decide : (0 : Int) ≤ 3), (by decide : (3 : Int) ≤ 3)⟩, fun h => absurd (show (3 : Int) = 1 from h) (by decide), fun h => absurd (show (3 : Int) = 2 from h) (by decide), fun _ => rfl⟩
  rw [if_neg e7, if_neg e7]; exact none_same _ _
 ·show (if 32 ≤ i then F.getD (i - 32) 0 else 0) = 0
  rw [if_neg (by omega)]
 ·show (if 32 ≤ ((1032 : Int) - 1000).toNat + i then F.getD (((1032 : Int) - 1000).toNat + i - 32) 0 else 0) = F.getD i 0
  rw [show ((1032 : Int) - 1000).toNat = 32 from rfl, if_pos (by omega), show 32 + i - 32 = i from by omega]
theorem safe_run {I : Nat → PI} {L : Nat → RI} {n : Nat} (hC : SameC I L n) (hw : ∀ k, k < n → opTab (I k).op = true) (hs : safeP I n = none) {F : List Int} (h : F.length ≤ 64) (hb : ∀ i, 0 ≤ F.getD i 0 ∧ F.getD i 0 < 256) :
  ∃ e, runR I n n 0 (startM F) = some e ∧ MOk e ∧ (runGo L n (start F) 0).1 = false ∧ e.v 0 = (runGo L n (start F) 0).2.1 ∧ e.left = (runGo L n (start F) 0).2.2 :=
 run_ag hC hw n 0 st0 (by omega) st0_ok hs n 0 (start F) (startM F) (Nat.le_refl _) hC.ok.pos (by omega) (start_hm h hb) (start_ag h hb)
end Go.Proofs.YtoobileejdhikaaGreat
