/-
  What the look knows holds of the document's machine: values, states, numbers.
  What the look knows holds of the document's machine: a step of mov and of the work with numbers and places.
  What the look knows holds of the document's machine: sums and differences with places, loads, stores.
  What the look knows holds of the document's machine: loads and stores.
  What the look knows holds of the document's machine: comparisons, jumps, calls.
  Code that is let in does not fault on the document's machine.
  Code that is let in does not fault on the document's machine: states that meet, and the whole run.
-/
import Derived.Test.YtoobileejdhikaaGreatGb7
import Derived.Test.YtoobileejdhikaaGreatGf2
namespace Go.Proofs.YtoobileejdhikaaGreat
open Go.RowKit

structure HV (fl : Nat) (k : KV) (v : V) : Prop where
 n : k.kind = 1 → v.kind = 1 ∧ In k v.bits
 p : k.kind = 2 → v.kind = 2 ∧ (k.e = true → v.place = fl)
 q : k.kind = 3 → v.kind = 3
 pl : k.kind = 2 ∨ k.kind = 3 → k.pl ≤ v.place ∧ v.place ≤ k.pm
def ByOk (m : Mac) : Prop := (∀ i, 0 ≤ m.stack i ∧ m.stack i < 256) ∧ (∀ i, 0 ≤ m.frame.getD i 0 ∧ m.frame.getD i 0 < 256)
structure HM (s : KS) (m : Mac) : Prop where
 r : s.reached = true
 ok : s.Ok
 v : ∀ i, i < 8 → HV m.frame.length (s.v i) (m.regs i)
 f : s.frame ≤ m.frame.length
 by_ : ByOk m
 m : MacOk m
structure SameI (x : PI) (y : RI) : Prop where
 op : y.op = ((x.op % 128 : Nat) : Int)
 imm : y.imm = decide (128 ≤ x.op)
 d : y.dst = x.d
 c : y.src = x.c
 of : y.off = x.of
 n : y.num = x.n
theorem HV.kind {fl : Nat} {k : KV} {v : V} (h : HV fl k v) (ho : k.Ok) (h0 : k.kind ≠ 0) : v.kind = k.kind := by
 have h1 := ho.k0
 have h2 := ho.k3
 rcases (show k.kind = 1 ∨ k.kind = 2 ∨ k.kind = 3 from by omega) with e | e | e
 ·exact (h.n e).1.trans e.symm
 ·exact (h.p e).1.trans e.symm
 ·exact (h.q e).trans e.symm
theorem HV.none (fl : Nat) (v : V) : HV fl kNone v := ⟨fun h => absurd h (by decide), fun h => absurd h (by decide), fun h => absurd h (by decide), fun h => absurd h (by decide)⟩
theorem HV.num {fl : Nat} {l u n : Int} (h : l ≤ n ∧ n ≤ u) : HV fl (numV l u) (nV n) :=
 ⟨fun _ => ⟨rfl, h⟩, fun h => absurd (show (1 : Int) = 2 from h) (by decide), fun h => absurd (show (1 : Int) = 3 from h) (by decide), fun h => absurd (show (1 : Int) = 2 ∨ (1 : Int) = 3 from h) (by decide)⟩
theorem HM.set {s : KS} {m : Mac} (h : HM s m) (d : Nat) {k : KV} {v : V} (hv : HV m.frame.length k v) (hk : k.Ok) (hg : vGood v) : HM (s.set d k) (m.setReg d v) := by
 refine ⟨h.r, h.ok.set d hk, fun i hi => ?_, h.f, h.by_, ⟨fun i hi => ?_, h.m.2.1, h.m.2.2⟩⟩
 ·show HV _ (if i = d then k else s.v i) (if i = d then v else m.regs i)
  split
  ·exact hv
  ·exact h.v i hi
 ·show vGood (if i = d then v else m.regs i)
  split
  ·exact hg
  ·exact h.m.1 i hi
theorem HM.ahead {s : KS} {m : Mac} (h : HM s m) (i n : Int) : HM (s.ahead i n) m := by
 refine ⟨h.r, ahead_ok h.ok i n, fun r hr => ?_, h.f, h.by_, h.m⟩
 have e : (s.ahead i n).v r = s.v r := by show (if r = 8 then _ else _) = _; rw [if_neg (by omega)]; rfl
 rw [e]; exact h.v r hr
theorem sec_hv {s : KS} {m : Mac} {x : PI} {y : RI} (h : HM s m) (hxy : SameI x y) (hc : x.c < 8) (i : Int) : HV m.frame.length ((s.ahead i x.n).v x.r) (m.second y) := by
 unfold Mac.second
 rw [hxy.imm, hxy.c, hxy.n]
 by_cases e : 128 ≤ x.op
 ·have e1 : x.r = 8 := by unfold PI.r secR; rw [if_pos (by omega)]
  have e2 : (s.ahead i x.n).v 8 = numV (numW x.n) (numW x.n) := rfl
  rw [e1, e2, decide_eq_true e, numW_bd]
  exact HV.num (by rw [w64_eq]; omega)
 ·have e1 : x.r = x.c := by unfold PI.r secR; rw [if_neg (by omega)]
  rw [e1, decide_eq_false e]
  exact (h.ahead i x.n).v x.c hc

theorem bitR_all (op : Int) (f : Nat → Nat → Nat) (f0 : f 0 0 = 0) (fd : ∀ a b, f a b / 2 = f (a / 2) (b / 2)) (fb : ∀ a b : Nat, bitOne op ((a : Int) % 2 + (b : Int) % 2) = decide (f a b % 2 = 1)) :
  ∀ (k j A B : Nat) (out : Int), j + k = 64 → A < 2 ^ k → B < 2 ^ k → 0 ≤ out → out < 2 ^ j → bitR op k A B (if j = 64 then 0 else 2 ^ j) out = out + 2 ^ j * (f A B : Nat)
 | 0, j, A, B, out, hj, hA, hB, h0, h1 => by
  have eA : A = 0 := by simpa using hA
  have eB : B = 0 := by simpa using hB
  subst eA; subst eB
  rw [f0]; show out = _; simp
 | k + 1, j, A, B, out, hj, hA, hB, h0, h1 => by
  rw [if_neg (by omega)]
  show bitR op k ((A : Int) / 2) ((B : Int) / 2) (w64 (2 * 2 ^ j)) (if bitOne op ((A : Int) % 2 + (B : Int) % 2) then w64 (out + 2 ^ j) else out) = _
  have p1 : (2 : Int) ^ j ≤ 2 ^ 63 := by
   have := Nat.pow_le_pow_right (n := 2) (by omega) (show j ≤ 63 by omega)
   exact_mod_cast this
  have p0 : (0 : Int) < 2 ^ j := by exact_mod_cast Nat.pow_pos (n := j) (show 0 < 2 by omega)
  have e63 : (2 : Int) ^ 63 = 9223372036854775808 := by decide
  have ps : (2 : Int) ^ (j + 1) = 2 * 2 ^ j := by rw [Int.pow_succ]; omega
  have ew : w64 (2 * 2 ^ j) = if j + 1 = 64 then 0 else 2 ^ (j + 1) := by
   rw [w64_eq, ps]
   by_cases e : j + 1 = 64
   ·rw [if_pos e, show j = 63 from by omega]; decide
   ·rw [if_neg e]
    have q : (2 : Int) ^ j ≤ 2 ^ 62 := by
     have := Nat.pow_le_pow_right (n := 2) (by omega) (show j ≤ 62 by omega)
     exact_mod_cast this
    have e62 : (2 : Int) ^ 62 = 4611686018427387904 := by decide
    omega
  have eo : w64 (out + 2 ^ j) = out + 2 ^ j := by rw [w64_eq]; omega
  rw [ew, fb, eo, show ((A : Int) / 2) = ((A / 2 : Nat) : Int) from by omega, show ((B : Int) / 2) = ((B / 2 : Nat) : Int) from by omega]
  have hf := fd A B
  have hA2 : A / 2 < 2 ^ k := by rw [Nat.pow_succ] at hA; omega
  have hB2 : B / 2 < 2 ^ k := by rw [Nat.pow_succ] at hB; omega
  have hm : f A B = 2 * (f A B / 2) + f A B % 2 := by omega
  by_cases e : f A B % 2 = 1
  ·rw [if_pos (c := decide (f A B % 2 = 1) = true) (by simpa using e)]
   rw [bitR_all op f f0 fd fb k (j + 1) (A / 2) (B / 2) (out + 2 ^ j) (by omega) hA2 hB2 (by omega) (by rw [ps]; omega), ← hf, ps]
   rw [show ((f A B : Nat) : Int) = 2 * ((f A B / 2 : Nat) : Int) + 1 from by omega, Int.mul_add, Int.mul_one, show 2 * (2 : Int) ^ j * ((f A B / 2 : Nat) : Int) = 2 ^ j * (2 * ((f A B / 2 : Nat) : Int)) from by rw [Int.mul_comm 2, Int.mul_assoc]]
   omega
  ·rw [if_neg (c := decide (f A B % 2 = 1) = true) (by simpa using e)]
   rw [bitR_all op f f0 fd fb k (j + 1) (A / 2) (B / 2) out (by omega) hA2 hB2 h0 (by rw [ps]; omega), ← hf, ps]
   rw [show ((f A B : Nat) : Int) = 2 * ((f A B / 2 : Nat) : Int) from by omega, show 2 * (2 : Int) ^ j * ((f A B / 2 : Nat) : Int) = 2 ^ j * (2 * ((f A B / 2 : Nat) : Int)) from by rw [Int.mul_comm 2, Int.mul_assoc]]
theorem bit64 (op : Int) (f : Nat → Nat → Nat) (f0 : f 0 0 = 0) (fd : ∀ a b, f a b / 2 = f (a / 2) (b / 2)) (fb : ∀ a b : Nat, bitOne op ((a : Int) % 2 + (b : Int) % 2) = decide (f a b % 2 = 1)) (A B : Nat) (hA : A < 18446744073709551616) (hB : B < 18446744073709551616) :
  bitR op 64 A B 1 0 = (f A B : Nat) := by
 have := bitR_all op f f0 fd fb 64 0 A B 0 rfl hA hB (by decide) (by decide)
 simpa using this
theorem bit_and (A B : Nat) (hA : A < 18446744073709551616) (hB : B < 18446744073709551616) : bitR 7 64 A B 1 0 = ((A &&& B : Nat) : Int) :=
 bit64 7 (· &&& ·) rfl (fun a b => Nat.and_div_two) (fun a b => by
  have h := Nat.and_mod_two_pow (a := a) (b := b) (n := 1)
  simp only [Nat.pow_one] at h
  show bitOne 7 _ = decide ((a &&& b) % 2 = 1)
  rw [h]
  rcases Nat.mod_two_eq_zero_or_one a with ea | ea <;> rcases Nat.mod_two_eq_zero_or_one b with eb | eb <;> rw [show (a : Int) % 2 = ((a % 2 : Nat) : Int) from by omega, show (b : Int) % 2 = ((b % 2 : Nat) : Int) from by omega, ea, eb] <;> decide) A B hA hB
theorem bit_or (A B : Nat) (hA : A < 18446744073709551616) (hB : B < 18446744073709551616) : bitR 8 64 A B 1 0 = ((A ||| B : Nat) : Int) :=
 bit64 8 (· ||| ·) rfl (fun a b => Nat.or_div_two) (fun a b => by
  have h := Nat.or_mod_two_pow (a := a) (b := b) (n := 1)
  simp only [Nat.pow_one] at h
  show bitOne 8 _ = decide ((a ||| b) % 2 = 1)
  rw [h]
  rcases Nat.mod_two_eq_zero_or_one a with ea | ea <;> rcases Nat.mod_two_eq_zero_or_one b with eb | eb <;> rw [show (a : Int) % 2 = ((a % 2 : Nat) : Int) from by omega, show (b : Int) % 2 = ((b % 2 : Nat) : Int) from by omega, ea, eb] <;> decide) A B hA hB
theorem bit_xor (A B : Nat) (hA : A < 18446744073709551616) (hB : B < 18446744073709551616) : bitR 9 64 A B 1 0 = ((A ^^^ B : Nat) : Int) :=
 bit64 9 (· ^^^ ·) rfl (fun a b => Nat.xor_div_two) (fun a b => by
  have h := Nat.xor_mod_two_pow (a := a) (b := b) (n := 1)
  simp only [Nat.pow_one] at h
  show bitOne 9 _ = decide ((a ^^^ b) % 2 = 1)
  rw [h]
  rcases Nat.mod_two_eq_zero_or_one a with ea | ea <;> rcases Nat.mod_two_eq_zero_or_one b with eb | eb <;> rw [show (a : Int) % 2 = ((a % 2 : Nat) : Int) from by omega, show (b : Int) % 2 = ((b % 2 : Nat) : Int) from by omega, ea, eb] <;> decide) A B hA hB
end Go.Proofs.YtoobileejdhikaaGreat

namespace Go.Proofs.YtoobileejdhikaaGreat
open Go.RowKit

structure Fell (m : Mac) (y : RI) (a : KS) : Prop where
 no : (stepR m y).2 = false
 ok : (stepR m y).1.fault = false
 hm : HM a (stepR m y).1
theorem ne_beq {a : Int} (h : a ≠ 0) : (a != 0) = true := by simpa using h
theorem snd_mov {s a b : KS} {m : Mac} {x : PI} {y : RI} (h : HM s m) (hs : HV m.frame.length (s.v x.r) (m.second y)) (hr : x.r < 9) (hg : vGood (m.second y)) (hxy : SameI x y) (ho : y.op = 1)
  (hl : movL s x.d x.r = some (a, b)) : Fell m y a := by
 unfold movL at hl
 split at hl
 ·cases hl
 rename_i hk
 cases hl
 have hok := h.ok.v x.r hr
 have e : stepR m y = (m.setReg x.d (m.second y), false) := by
  unfold stepR
  rw [if_pos ho, show ((m.second y).kind != 0) = true from ne_beq (by rw [hs.kind hok hk]; exact hk), may_true, hxy.d]
 exact ⟨by rw [e], by rw [e]; exact h.m.2.1, by rw [e]; exact h.set x.d hs hok hg⟩

theorem numR_add (a b : Int) : numR 2 a b = (a + b) % 18446744073709551616 := by unfold numR; rw [if_pos rfl, w64_eq]
theorem numR_sub (a b : Int) : numR 3 a b = (a - b) % 18446744073709551616 := by unfold numR; rw [if_neg (by decide), if_pos rfl, w64_eq]
theorem numR_mul (a b : Int) : numR 4 a b = (a * b) % 18446744073709551616 := by unfold numR; rw [if_neg (by decide), if_neg (by decide), if_pos rfl, w64_eq]
theorem numR_div {a b : Int} (ha : 0 ≤ a) (ha2 : a < 18446744073709551616) (hb : 0 ≤ b) : numR 5 a b = if b = 0 then 0 else a / b := by
 unfold numR
 rw [if_neg (by decide), if_neg (by decide), if_neg (by decide), if_pos rfl]
 split
 ·rfl
 ·rw [Int.tdiv_eq_ediv_of_nonneg ha, w64_eq]
  have h1 : 0 ≤ a / b := Int.ediv_nonneg ha hb
  have h2 : a / b ≤ a := Int.ediv_le_self b ha
  omega
theorem numR_mod {a b : Int} (ha : 0 ≤ a) (ha2 : a < 18446744073709551616) (hb : 0 ≤ b) : numR 6 a b = if b = 0 then a else a % b := by
 unfold numR
 rw [if_neg (by decide), if_neg (by decide), if_neg (by decide), if_neg (by decide), if_pos rfl]
 split
 ·rfl
 ·rename_i hb0
  rw [Int.tdiv_eq_ediv_of_nonneg ha]
  have h1 : 0 ≤ a / b := Int.ediv_nonneg ha hb
  have h2 : a / b ≤ a := Int.ediv_le_self b ha
  have e1 : w64 (a / b) = a / b := by rw [w64_eq]; omega
  have e2 : a / b * b + a % b = a := by have := Int.mul_ediv_add_emod a b; rw [Int.mul_comm] at this; exact this
  have h3 : 0 ≤ a % b := Int.emod_nonneg a hb0
  have h4 : 0 ≤ a / b * b := Int.mul_nonneg h1 hb
  rw [e1]
  have e3 : w64 (a / b * b) = a / b * b := by rw [w64_eq]; omega
  rw [e3, w64_eq]; omega
theorem p2_pow : ∀ k : Nat, p2 k = 2 ^ k
 | 0 => rfl
 | k + 1 => by rw [Int.pow_succ, ← p2_pow k]; show 2 * p2 k = p2 k * 2; omega
theorem numR_shl (a b : Int) : numR 10 a b = (a * 2 ^ (b % 64).toNat) % 18446744073709551616 := by
 unfold numR
 rw [if_neg (by decide), if_neg (by decide), if_neg (by decide), if_neg (by decide), if_neg (by decide), if_pos rfl, w64_eq, p2_pow]
theorem numR_shr {a : Int} (b : Int) (ha : 0 ≤ a) (ha2 : a < 18446744073709551616) : numR 11 a b = a / 2 ^ (b % 64).toNat := by
 unfold numR
 rw [if_neg (by decide), if_neg (by decide), if_neg (by decide), if_neg (by decide), if_neg (by decide), if_neg (by decide), if_pos rfl, p2_pow, Int.tdiv_eq_ediv_of_nonneg ha, w64_eq]
 have h0 : (0 : Int) ≤ 2 ^ (b % 64).toNat := by exact_mod_cast Nat.zero_le (2 ^ (b % 64).toNat)
 have h1 : 0 ≤ a / 2 ^ (b % 64).toNat := Int.ediv_nonneg ha h0
 have h2 : a / 2 ^ (b % 64).toNat ≤ a := Int.ediv_le_self _ ha
 omega
theorem numR_bit {op : Int} (h : op = 7 ∨ op = 8 ∨ op = 9) (a b : Int) : numR op a b = bitR op 64 a b 1 0 := by
 unfold numR
 rw [if_neg (by omega), if_neg (by omega), if_neg (by omega), if_neg (by omega), if_neg (by omega), if_neg (by omega), if_neg (by omega)]
def NumIn (op : Int) (f : KV → KV → Int × Int) : Prop := ∀ (a b : KV) (x y : Int), a.Ok → b.Ok → In a x → In b y → (f a b).1 ≤ numR op x y ∧ numR op x y ≤ (f a b).2
theorem ni_mul : NumIn 4 nMul := fun _ _ _ _ ha hb hx hy => by rw [numR_mul]; exact mul_in ha.num hb.num hx hy
theorem ni_div : NumIn 5 nDiv := fun _ _ _ _ ha hb hx hy => by rw [numR_div (In.nonneg ha.num hx) (In.lt ha.num hx) (In.nonneg hb.num hy)]; exact div_in ha.num hb.num hx hy
theorem ni_mod : NumIn 6 nMod := fun _ _ _ _ ha hb hx hy => by rw [numR_mod (In.nonneg ha.num hx) (In.lt ha.num hx) (In.nonneg hb.num hy)]; exact mod_in ha.num hb.num hx hy
theorem ni_shl : NumIn 10 nShl := fun _ _ _ _ ha _ hx hy => by rw [numR_shl]; exact shl_in ha.num hx hy
theorem ni_shr : NumIn 11 nShr := fun _ _ _ _ ha _ hx hy => by rw [numR_shr _ (In.nonneg ha.num hx) (In.lt ha.num hx)]; exact shr_in ha.num hx hy
theorem nat_in {v : KV} (h : v.Ok) {x : Int} (hx : In v x) : ∃ X : Nat, x = X ∧ X < 18446744073709551616 := ⟨x.toNat, by have := In.nonneg h.num hx; omega, by have := In.lt h.num hx; have := In.nonneg h.num hx; omega⟩
theorem ni_and : NumIn 7 nAnd := fun a b x y ha hb hx hy => by
 obtain ⟨X, rfl, hX⟩ := nat_in ha hx
 obtain ⟨Y, rfl, hY⟩ := nat_in hb hy
 rw [numR_bit (by omega), bit_and X Y hX hY]; exact and_in hx hy
theorem ni_or : NumIn 8 nOr := fun a b x y ha hb hx hy => by
 obtain ⟨X, rfl, hX⟩ := nat_in ha hx
 obtain ⟨Y, rfl, hY⟩ := nat_in hb hy
 rw [numR_bit (by omega), bit_or X Y hX hY]; exact or_in ha.num hb.num hx hy
theorem ni_xor : NumIn 9 nXor := fun a b x y ha hb hx hy => by
 obtain ⟨X, rfl, hX⟩ := nat_in ha hx
 obtain ⟨Y, rfl, hY⟩ := nat_in hb hy
 rw [numR_bit (by omega), bit_xor X Y hX hY]; exact xor_in ha.num hb.num hx hy

theorem step_work {m : Mac} {y : RI} (h1 : 2 ≤ y.op) (h2 : y.op ≤ 11) : stepR m y = ((m.work y).1.setReg y.dst (m.work y).2, false) := by
 unfold stepR
 rw [if_neg (by omega), if_pos (by simp [withinB]; omega)]
theorem work_num {m : Mac} {y : RI} (ha : (m.regs y.dst).kind = 1) (hb : (m.second y).kind = 1) : m.work y = (m, nV (numR y.op (m.regs y.dst).bits (m.second y).bits)) := by
 unfold Mac.work
 simp only [ha, hb, and_self, if_true]
 rfl
theorem snd_num {f : KV → KV → Int × Int} {s a b : KS} {m : Mac} {x : PI} {y : RI} (h : HM s m) (hs : HV m.frame.length (s.v x.r) (m.second y)) (hr : x.r < 9) (hd : x.d < 8) (hxy : SameI x y)
  (h1 : 2 ≤ y.op) (h2 : y.op ≤ 11) (hf : SpanF f) (hn : NumIn y.op f) (hl : numO f x s = some (a, b)) : Fell m y a := by
 unfold numO numL at hl
 split at hl
 ·rename_i hk
  cases hl
  have va := (h.v x.d hd).n hk.1
  have vb := hs.n hk.2
  have e : stepR m y = (m.setReg x.d (nV (numR y.op (m.regs x.d).bits (m.second y).bits)), false) := by
   rw [step_work h1 h2, work_num (by rw [hxy.d]; exact va.1) vb.1, hxy.d]
  have oa := h.ok.v x.d (by omega)
  have ob := h.ok.v x.r hr
  have q := hf _ _ oa ob
  have hin := hn _ _ _ _ oa ob va.2 vb.2
  exact ⟨by rw [e], by rw [e]; exact h.m.2.1, by rw [e]; exact h.set x.d (HV.num hin) (numV_ok q.1 q.2.1 q.2.2) (nV_good (by omega) (by omega))⟩
 ·cases hl
end Go.Proofs.YtoobileejdhikaaGreat

namespace Go.Proofs.YtoobileejdhikaaGreat
open Go.RowKit

theorem step_in {a : KV} (ho : a.Ok) {x : Int} (hx : In a x) (hs : stepsOk a) : wrap64 a.nl ≤ wrap64 x ∧ wrap64 x ≤ wrap64 a.nm ∧ nearB x = true := by
 have h1 := ho.nl0; have h2 := ho.nm1
 obtain ⟨x1, x2⟩ := hx
 obtain ⟨s1, s2, s3⟩ := hs
 have q : wrap64 a.nl ≤ wrap64 x ∧ wrap64 x ≤ wrap64 a.nm := by unfold wrap64 at *; omega
 refine ⟨q.1, q.2, ?_⟩
 unfold nearB
 rw [decide_eq_true (by omega), decide_eq_true (by omega)]; rfl
theorem moved_hv {fl : Nat} {m : Mac} {p k : KV} {pv nv : V} {l u sg : Int} (hp : HV fl p pv) (kp : p.kind = 2 ∨ p.kind = 3) (hn : nearB nv.bits = true) (h1 : l ≤ sg * wrap64 nv.bits) (h2 : sg * wrap64 nv.bits ≤ u) (hm : movedK p l u = some k) (hg : vGood pv) :
  (m.moved pv nv sg).1 = m ∧ HV fl k (m.moved pv nv sg).2 ∧ vGood (m.moved pv nv sg).2 := by
 unfold movedK at hm
 split at hm
 ·rename_i hc
  cases hm
  have hpl := hp.pl kp
  have hb : placeB (pv.place + sg * wrap64 nv.bits) = true := by
   unfold placeB
   rw [decide_eq_true (by omega), decide_eq_true (by omega)]; rfl
  have e : m.moved pv nv sg = (m, { pv with place := pv.place + sg * wrap64 nv.bits }) := by
   unfold Mac.moved; rw [if_pos hn, hb, may_true]
  rw [e]
  refine ⟨rfl, ⟨fun h => ?_, fun h => ⟨(hp.p h).1, fun h => by cases h⟩, fun h => hp.q h, fun _ => ?_⟩, hg.1, hg.2.1, ?_, ?_⟩
  ·have h' : p.kind = 1 := h
   rcases kp with e | e <;> omega
  ·show p.pl + l ≤ pv.place + sg * wrap64 nv.bits ∧ pv.place + sg * wrap64 nv.bits ≤ p.pm + u
   omega
  ·show -1000 ≤ pv.place + sg * wrap64 nv.bits; omega
  ·show pv.place + sg * wrap64 nv.bits ≤ 1000; omega
 ·cases hm
theorem kind_or {k : KV} (ho : k.Ok) (h0 : k.kind ≠ 0) (h1 : k.kind ≠ 1) : k.kind = 2 ∨ k.kind = 3 := by have := ho.k0; have := ho.k3; omega
theorem may_and {m : Mac} {a b : Int} (ha : a ≠ 0) (hb : b ≠ 0) : m.may ((a != 0) && (b != 0)) = m := by rw [ne_beq ha, ne_beq hb]; rfl
theorem fell_work {s : KS} {m : Mac} {x : PI} {y : RI} {k : KV} (h : HM s m) (hxy : SameI x y) (h1 : 2 ≤ y.op) (h2 : y.op ≤ 11) (hk : k.Ok) (hw : (m.work y).1 = m ∧ HV m.frame.length k (m.work y).2 ∧ vGood (m.work y).2) : Fell m y (s.set x.d k) := by
 have e : stepR m y = (m.setReg x.d (m.work y).2, false) := by rw [step_work h1 h2, hw.1, hxy.d]
 exact ⟨by rw [e], by rw [e]; exact h.m.2.1, by rw [e]; exact h.set x.d hw.2.1 hk hw.2.2⟩
theorem snd_add {s a b : KS} {m : Mac} {x : PI} {y : RI} (h : HM s m) (hs : HV m.frame.length (s.v x.r) (m.second y)) (hr : x.r < 9) (hd : x.d < 8) (hg : vGood (m.second y)) (hxy : SameI x y) (ho : y.op = 2)
  (hl : addL s x.d x.r = some (a, b)) : Fell m y a := by
 have oa := h.ok.v x.d (by omega)
 have ob := h.ok.v x.r hr
 have va := h.v x.d hd
 have ga := h.m.1 x.d hd
 unfold addL at hl
 cases hq : sumO (s.v x.d) (s.v x.r) with
 | none => rw [hq] at hl; cases hl
 | some k =>
  rw [hq] at hl
  cases hl
  have hk := sumO_ok oa ob hq
  refine fell_work h hxy (by omega) (by omega) hk ?_
  unfold sumO at hq
  split at hq
  ·cases hq
  rename_i h0
  have n1 : (s.v x.d).kind ≠ 0 := fun e => h0 (.inl e)
  have n2 : (s.v x.r).kind ≠ 0 := fun e => h0 (.inr e)
  have ea := va.kind oa n1
  have eb := hs.kind ob n2
  have em : m.may (((m.regs x.d).kind != 0) && ((m.second y).kind != 0)) = m := may_and (by rw [ea]; exact n1) (by rw [eb]; exact n2)
  unfold Mac.work
  simp only [hxy.d, em]
  unfold sumK at hq
  split at hq
  ·rename_i ka
   have va1 := va.n ka
   split at hq
   ·rename_i kb
    have vb1 := hs.n kb
    cases hq
    rw [if_pos ⟨va1.1, vb1.1⟩, ho, numR_add]
    have q := add_in oa.num ob.num va1.2 vb1.2
    exact ⟨rfl, HV.num q, nV_good (by omega) (by omega)⟩
   ·rename_i kb
    split at hq
    ·rename_i hst
     have q := step_in oa va1.2 hst
     rw [if_neg (by rw [eb]; exact fun e => kb e.2), if_neg (by rw [eb]; exact fun e => kb e.2), if_pos ⟨ho, va1.1⟩]
     exact moved_hv hs (kind_or ob n2 kb) q.2.2 (by omega) (by omega) hq hg
    ·cases hq
  ·rename_i ka
   split at hq
   ·rename_i kb
    have vb1 := hs.n kb
    split at hq
    ·rename_i hst
     have q := step_in ob vb1.2 hst
     rw [if_neg (by rw [ea]; exact fun e => ka e.1), if_pos ⟨ho, vb1.1⟩]
     exact moved_hv va (kind_or oa n1 ka) q.2.2 (by omega) (by omega) hq ga
    ·cases hq
   ·cases hq
theorem snd_sub {s a b : KS} {m : Mac} {x : PI} {y : RI} (h : HM s m) (hs : HV m.frame.length (s.v x.r) (m.second y)) (hr : x.r < 9) (hd : x.d < 8) (hxy : SameI x y) (ho : y.op = 3)
  (hl : subL s x.d x.r = some (a, b)) : Fell m y a := by
 have oa := h.ok.v x.d (by omega)
 have ob := h.ok.v x.r hr
 have va := h.v x.d hd
 have ga := h.m.1 x.d hd
 unfold subL at hl
 cases hq : diffO (s.v x.d) (s.v x.r) with
 | none => rw [hq] at hl; cases hl
 | some k =>
  rw [hq] at hl
  cases hl
  have hk := diffO_ok oa ob hq
  refine fell_work h hxy (by omega) (by omega) hk ?_
  unfold diffO at hq
  split at hq
  ·cases hq
  rename_i h0
  have n1 : (s.v x.d).kind ≠ 0 := fun e => h0 (.inl e)
  have n2 : (s.v x.r).kind ≠ 0 := fun e => h0 (.inr e)
  have ea := va.kind oa n1
  have eb := hs.kind ob n2
  have em : m.may (((m.regs x.d).kind != 0) && ((m.second y).kind != 0)) = m := may_and (by rw [ea]; exact n1) (by rw [eb]; exact n2)
  unfold Mac.work
  simp only [hxy.d, em]
  unfold differenceK at hq
  split at hq
  ·rename_i kb
   have vb1 := hs.n kb
   split at hq
   ·rename_i ka
    have va1 := va.n ka
    cases hq
    rw [if_pos ⟨va1.1, vb1.1⟩, ho, numR_sub]
    have q := sub_in oa.num ob.num va1.2 vb1.2
    exact ⟨rfl, HV.num q, nV_good (by omega) (by omega)⟩
   ·rename_i ka
    split at hq
    ·rename_i hst
     have q := step_in ob vb1.2 hst
     rw [if_neg (by rw [ea]; exact fun e => ka e.1), if_neg (by omega), if_neg (by omega), if_pos ⟨ho, vb1.1⟩]
     exact moved_hv va (kind_or oa n1 ka) q.2.2 (by omega) (by omega) hq ga
    ·cases hq
  ·rename_i kb
   split at hq
   ·rename_i kk
    cases hq
    have ka : (s.v x.d).kind ≠ 1 := by rw [kk]; exact kb
    have pa := va.pl (kind_or oa n1 ka)
    have pb := hs.pl (kind_or ob n2 kb)
    rw [if_neg (by rw [ea]; exact fun e => ka e.1), if_neg (by omega), if_neg (by omega), if_neg (by rw [eb]; exact fun e => kb e.2), if_pos ⟨ho, by rw [ea, eb]; exact kk⟩]
    have := oa.pl0; have := oa.pm1; have := ob.pl0; have := ob.pm1
    refine ⟨rfl, HV.num ?_, nV_good (w64_rng _).1 (w64_rng _).2⟩
    unfold apartL apartM
    rw [w64_eq]
    split
    ·omega
    ·rw [wrapU, wrapU]; omega
   ·cases hq
end Go.Proofs.YtoobileejdhikaaGreat

namespace Go.Proofs.YtoobileejdhikaaGreat
open Go.RowKit

theorem reach_byte {s : KS} {m : Mac} {k : KV} {pv : V} {of : Int} {z : Nat} (hf : s.frame ≤ m.frame.length) (hv : HV m.frame.length k pv) (hr : reachB k s.frame of z = true) (i : Nat) (hi : i < z) :
  (m.byteAt pv (of + i)).2 = true := by
 unfold reachB at hr
 simp only [Bool.or_eq_true, Bool.and_eq_true, decide_eq_true_eq, beq_iff_eq] at hr
 unfold Mac.byteAt
 rcases hr with ⟨⟨k2, h1⟩, h2⟩ | ⟨⟨k3, h1⟩, h2⟩
 ·have p := hv.pl (.inl k2)
  rw [if_pos (hv.p k2).1]
  show (decide _ && decide _) = true
  rw [decide_eq_true (by omega), decide_eq_true (by omega)]; rfl
 ·have p := hv.pl (.inr k3)
  have e := hv.q k3
  rw [if_neg (by omega)]
  show (decide _ && decide _ && decide _) = true
  rw [decide_eq_true e, decide_eq_true (by omega), decide_eq_true (by omega)]; rfl
theorem byteOf_rng {m : Mac} (h : ByOk m) (pv : V) (i : Int) : 0 ≤ m.byteOf pv i ∧ m.byteOf pv i < 256 := by
 unfold Mac.byteOf
 split
 ·exact h.2 _
 ·exact h.1 _
theorem pow256 (i : Nat) : (256 : Int) ^ (i + 1) = 256 * 256 ^ i := by rw [Int.pow_succ]; omega
theorem pow256_le {i : Nat} (h : i ≤ 8) : (256 : Int) ^ i ≤ 18446744073709551616 ∧ 0 < (256 : Int) ^ i := by
 rcases (show i = 0 ∨ i = 1 ∨ i = 2 ∨ i = 3 ∨ i = 4 ∨ i = 5 ∨ i = 6 ∨ i = 7 ∨ i = 8 from by omega) with rfl | rfl | rfl | rfl | rfl | rfl | rfl | rfl | rfl <;> decide
theorem loadGo_in {m : Mac} (hb : ByOk m) (pv : V) (of : Int) : ∀ (r i : Nat) (n : Int), i + r ≤ 8 → 0 ≤ n → n < 256 ^ i → (∀ j : Nat, i ≤ j → j < i + r → (m.byteAt pv (of + j)).2 = true) →
  ∃ N, m.loadGo pv of r i n (w64 (256 ^ i)) = (m, nV N) ∧ 0 ≤ N ∧ N < 256 ^ (i + r)
 | 0, i, n, _, h0, h1, _ => ⟨n, rfl, h0, h1⟩
 | r + 1, i, n, hi, h0, h1, hy => by
  have hbi := hy i (Nat.le_refl _) (by omega)
  have q := byteOf_rng hb pv (m.byteAt pv (of + i)).1
  have p7 := pow256_le (i := i) (by omega)
  have p8 := pow256_le (i := i + 1) (by omega)
  have ps := pow256 i
  have hlt : (256 : Int) ^ i < 18446744073709551616 := by rw [ps] at p8; omega
  have eu : w64 ((256 : Int) ^ i) = 256 ^ i := by rw [w64_eq]; omega
  generalize hc : m.byteOf pv (m.byteAt pv (of + i)).1 = c at q
  have ec : w64 c = c := by rw [w64_eq]; omega
  have m1 : 0 ≤ (256 : Int) ^ i * c := Int.mul_nonneg (by omega) q.1
  have m2 : (256 : Int) ^ i * c ≤ 256 ^ i * 255 := Int.mul_le_mul_of_nonneg_left (by omega) (by omega)
  have e1 : w64 ((256 : Int) ^ i * c) = 256 ^ i * c := by rw [w64_eq]; omega
  have e2 : w64 (n + (256 : Int) ^ i * c) = n + 256 ^ i * c := by rw [w64_eq]; omega
  have e3 : w64 (256 * (256 : Int) ^ i) = w64 (256 ^ (i + 1)) := by rw [ps]
  have hstep : m.loadGo pv of (r + 1) i n (w64 (256 ^ i)) = m.loadGo pv of r ((i + 1 : Nat) : Int) (n + 256 ^ i * c) (w64 (256 ^ (i + 1))) := by
   show (if (m.byteAt pv (of + i)).2 then m.loadGo pv of r ((i : Int) + 1) (w64 (n + w64 (w64 (256 ^ i) * w64 (m.byteOf pv (m.byteAt pv (of + i)).1)))) (w64 (256 * w64 (256 ^ i))) else (m.may false, vNone)) = _
   rw [if_pos hbi, hc, eu, ec, e1, e2, e3]; rfl
  rw [hstep]
  obtain ⟨N, hN, hN0, hN1⟩ := loadGo_in hb pv of r (i + 1) (n + 256 ^ i * c) (by omega) (by omega) (by rw [ps]; omega) (fun j h1 h2 => hy j (by omega) (by omega))
  exact ⟨N, hN, hN0, by rw [show i + (r + 1) = i + 1 + r from by omega]; exact hN1⟩
theorem pow28 {z : Nat} (h : z = 1 ∨ z = 2 ∨ z = 4 ∨ z = 8) : (2 : Int) ^ (8 * z) = 256 ^ z := by rcases h with rfl | rfl | rfl | rfl <;> decide
theorem snd_load {s a b : KS} {m : Mac} {x : PI} {y : RI} {z : Nat} (h : HM s m) (hc : x.c < 8) (hxy : SameI x y) (h1 : 20 ≤ y.op) (h2 : y.op ≤ 23) (hz : z = 1 ∨ z = 2 ∨ z = 4 ∨ z = 8) (hsz : (sizeR y.op).toNat = z)
  (hl : loadL s x.d x.c x.of z = some (a, b)) : Fell m y a := by
 unfold loadL at hl
 split at hl
 ·rename_i hk
  cases hl
  have vc := h.v x.c hc
  obtain ⟨N, hN, n0, n1⟩ := loadGo_in h.by_ (m.regs x.c) x.of z 0 0 (by omega) (Int.le_refl 0) (by decide) (fun j _ hj => reach_byte h.f vc hk.2 j (by omega))
  have e0 : m.load (m.regs x.c) x.of z = (m, nV N) := by
   show m.loadGo (m.regs x.c) x.of z 0 0 1 = _
   rw [← hN]; rfl
  have e : stepR m y = (m.setReg x.d (nV N), false) := by
   unfold stepR
   rw [if_neg (by omega), if_neg (by simp [withinB]; omega), if_pos (by simp [withinB]; omega), hsz, hxy.c, hxy.of, e0, hxy.d]
  have p := pow28 hz
  have p2 := pow256_le (i := z) (by omega)
  rw [Nat.zero_add] at n1
  exact ⟨by rw [e], by rw [e]; exact h.m.2.1, by rw [e]; exact h.set x.d (HV.num ⟨n0, by rw [p]; omega⟩) (numV_ok (Int.le_refl 0) (by rw [p]; omega) (by rw [p]; omega)) (nV_good n0 (by omega))⟩
 ·cases hl

theorem putByte_by {m : Mac} (h : ByOk m) (pv : V) (i c : Int) (h0 : 0 ≤ c) (h1 : c < 256) : ByOk (m.putByte pv i c) := by
 unfold Mac.putByte
 split
 ·refine ⟨h.1, fun j => ?_⟩
  show 0 ≤ (m.frame.set i.toNat c).getD j 0 ∧ (m.frame.set i.toNat c).getD j 0 < 256
  have q := h.2 j
  rw [List.getD_eq_getElem?_getD, List.getElem?_set]
  rw [List.getD_eq_getElem?_getD] at q
  split
  ·split
   ·exact ⟨h0, h1⟩
   ·exact ⟨Int.le_refl 0, by decide⟩
  ·exact q
 ·refine ⟨fun j => ?_, h.2⟩
  show 0 ≤ (if j = i.toNat then c else m.stack j) ∧ (if j = i.toNat then c else m.stack j) < 256
  split
  ·exact ⟨h0, h1⟩
  ·exact h.1 j
theorem storeGo_in (pv : V) (of : Int) (fl : Nat) (R : Nat → V) : ∀ (r i : Nat) (m : Mac) (n : Int), m.fault = false → m.frame.length = fl → m.regs = R → ByOk m → (∀ (m' : Mac) (j : Nat), m'.frame.length = fl → i ≤ j → j < i + r → (m'.byteAt pv (of + j)).2 = true) →
  (Mac.storeGo pv of r m i n).fault = false ∧ (Mac.storeGo pv of r m i n).frame.length = fl ∧ (Mac.storeGo pv of r m i n).regs = R ∧ ByOk (Mac.storeGo pv of r m i n)
 | 0, _, m, _, h1, h2, h3, h4, _ => ⟨h1, h2, h3, h4⟩
 | r + 1, i, m, n, h1, h2, h3, h4, hy => by
  have hb := hy m i h2 (Nat.le_refl _) (by omega)
  have e : Mac.storeGo pv of (r + 1) m i n = Mac.storeGo pv of r (m.putByte pv (m.byteAt pv (of + i)).1 (n % 256)) ((i + 1 : Nat) : Int) (n / 256) := by
   show (if (m.may (m.byteAt pv (of + i)).2).fault then m.may (m.byteAt pv (of + i)).2 else Mac.storeGo pv of r (m.putByte pv (m.byteAt pv (of + i)).1 (n % 256)) ((i : Int) + 1) (n / 256)) = _
   rw [hb, may_true, h1]; rfl
  rw [e]
  have q := putByte_regs m pv (m.byteAt pv (of + i)).1 (n % 256)
  exact storeGo_in pv of fl R r (i + 1) _ (n / 256) (q.2.1.trans h1) (q.2.2.trans h2) (q.1.trans h3) (putByte_by h4 pv _ _ (by omega) (by omega)) (fun m' j e1 e2 e3 => hy m' j e1 (by omega) (by omega))
theorem snd_store {s a b : KS} {m : Mac} {x : PI} {y : RI} {z : Nat} (h : HM s m) (hd : x.d < 8) (hc : x.c < 8) (hxy : SameI x y) (h1 : 24 ≤ y.op) (h2 : y.op ≤ 27) (hsz : (sizeR y.op).toNat = z)
  (hl : storeL s x.d x.c x.of z = some (a, b)) : Fell m y a := by
 unfold storeL at hl
 split at hl
 ·rename_i hk
  split at hl
  ·rename_i kc
   cases hl
   have vd := h.v x.d hd
   have vc := (h.v x.c hc).n kc
   have e : stepR m y = (Mac.storeGo (m.regs x.d) x.of z m 0 (m.regs x.c).bits, false) := by
    unfold stepR
    rw [if_neg (by omega), if_neg (by simp [withinB]; omega), if_neg (by simp [withinB]; omega), if_pos (by simp [withinB]; omega), hsz, hxy.c, hxy.of, hxy.d]
    unfold Mac.store
    rw [show ((m.regs x.c).kind == 1) = true from by rw [vc.1]; rfl, may_true]
   have q := storeGo_in (m.regs x.d) x.of m.frame.length m.regs z 0 m (m.regs x.c).bits h.m.2.1 rfl rfl h.by_ (fun m' j e1 _ hj => by
    have hf : s.frame ≤ m'.frame.length := by rw [e1]; exact h.f
    exact reach_byte hf (by rw [e1]; exact vd) hk.2 j (by omega))
   refine ⟨by rw [e], by rw [e]; exact q.1, ?_⟩
   rw [e]
   refine ⟨h.r, h.ok, fun i hi => ?_, ?_, q.2.2.2, fun i hi => ?_, q.1, ?_⟩
   ·show HV (Mac.storeGo (m.regs x.d) x.of z m ((0 : Nat) : Int) (m.regs x.c).bits).frame.length _ ((Mac.storeGo (m.regs x.d) x.of z m ((0 : Nat) : Int) (m.regs x.c).bits).regs i)
    rw [q.2.1, q.2.2.1]; exact h.v i hi
   ·show _ ≤ (((Mac.storeGo (m.regs x.d) x.of z m ((0 : Nat) : Int) (m.regs x.c).bits).frame.length : Nat) : Int)
    rw [q.2.1]; exact h.f
   ·show vGood ((Mac.storeGo (m.regs x.d) x.of z m ((0 : Nat) : Int) (m.regs x.c).bits).regs i)
    rw [q.2.2.1]; exact h.m.1 i hi
   ·show (Mac.storeGo (m.regs x.d) x.of z m ((0 : Nat) : Int) (m.regs x.c).bits).frame.length ≤ 64
    rw [q.2.1]; exact h.m.2.2
  ·cases hl
 ·cases hl
end Go.Proofs.YtoobileejdhikaaGreat

namespace Go.Proofs.YtoobileejdhikaaGreat
open Go.RowKit

structure HE (s : KS) (fl : Nat) (val : Nat → V) : Prop where
 v : ∀ i, i < 9 → HV fl (s.v i) (val i)
 f : s.frame ≤ fl
def meas (v : V) : Int := if v.kind = 1 then v.bits else v.place
def RelS (f : KS → Nat → Nat → KS) (Q : V → V → Prop) : Prop := ∀ (s : KS) (fl : Nat) (val : Nat → V) (a b : Nat), s.Ok → HE s fl val → a < 9 → b < 9 → (s.v a).kind ≠ 0 → (s.v a).kind = (s.v b).kind → Q (val a) (val b) → (f s a b).reached = s.reached ∧ HE (f s a b) fl val
theorem frK_v' (s : KS) (A B : KV) (g : Int) : (frK s A B g).v = s.v := by unfold frK; split <;> rfl
theorem frK_r' (s : KS) (A B : KV) (g : Int) : (frK s A B g).reached = s.reached := by unfold frK; split <;> rfl
theorem set2_v' (s : KS) (a b r : Nat) (x y : KV) : ((s.set a x).set b y).v r = if r = b then y else if r = a then x else s.v r := rfl
theorem HV.narrowN {fl : Nat} {k : KV} {v : V} (h : HV fl k v) (hk : k.kind = 1) {l u : Int} (h1 : l ≤ v.bits) (h2 : v.bits ≤ u) : HV fl { k with nl := l, nm := u } v :=
 ⟨fun _ => ⟨(h.n hk).1, h1, h2⟩, fun e => absurd (show k.kind = 2 from e) (by omega), fun e => absurd (show k.kind = 3 from e) (by omega), fun e => absurd (show k.kind = 2 ∨ k.kind = 3 from e) (by omega)⟩
theorem HV.narrowP {fl : Nat} {k : KV} {v : V} (h : HV fl k v) (hk : k.kind ≠ 1) {l u : Int} (h1 : l ≤ v.place) (h2 : v.place ≤ u) : HV fl { k with pl := l, pm := u } v :=
 ⟨fun e => absurd (show k.kind = 1 from e) hk, fun e => h.p e, fun e => h.q e, fun _ => ⟨h1, h2⟩⟩
theorem apart_hv {s : KS} {fl : Nat} {val : Nat → V} {a b : Nat} {g : Int} (ho : s.Ok) (h : HE s fl val) (ha : a < 9) (hb : b < 9) (h0 : (s.v a).kind ≠ 0) (hk : (s.v a).kind = (s.v b).kind) (g0 : 0 ≤ g) (hq : meas (val a) + g ≤ meas (val b)) :
  (apartByK s a b g).reached = s.reached ∧ HE (apartByK s a b g) fl val ∧ ∀ i, ((apartByK s a b g).v i).kind = (s.v i).kind := by
 have va := h.v a ha
 have vb := h.v b hb
 have oa := ho.v a ha
 have ob := ho.v b hb
 have ea := va.kind oa h0
 have eb := vb.kind ob (by rw [← hk]; exact h0)
 unfold meas at hq
 by_cases k1 : (s.v a).kind = 1
 ·have na := va.n k1
  have nb := vb.n (hk ▸ k1)
  rw [if_pos na.1, if_pos nb.1] at hq
  have a1 := na.2.1; have a2 := na.2.2; have b1 := nb.2.1; have b2 := nb.2.2
  have be : (s.v b).e = false := by
   cases e : (s.v b).e
   ·rfl
   ·have := ob.e2 e; omega
  unfold apartByK
  rw [if_pos k1, if_pos ⟨by omega, by omega⟩]
  have ef : frK s (s.v a) (s.v b) g = s := by unfold frK; rw [be]; rfl
  rw [ef]
  refine ⟨rfl, ⟨fun i hi => ?_, h.f⟩, fun i => ?_⟩
  rotate_left
  ·rw [set2_v']
   split
   ·rename_i e; subst e; rfl
   ·split
    ·rename_i e; subst e; rfl
    ·rfl
  rw [set2_v']
  split
  ·rename_i e; subst e
   exact vb.narrowN (hk ▸ k1) (by omega) b2
  ·split
   ·rename_i e; subst e
    exact va.narrowN k1 a1 (by omega)
   ·exact h.v i hi
 ·have pa := va.pl (kind_or oa h0 k1)
  have pb := vb.pl (by rw [← hk]; exact kind_or oa h0 k1)
  rw [if_neg (by rw [ea]; exact k1), if_neg (by rw [eb, ← hk]; exact k1)] at hq
  unfold apartByK
  rw [if_neg k1, if_pos ⟨by omega, by omega⟩]
  refine ⟨frK_r' s _ _ g, ⟨fun i hi => ?_, ?_⟩, fun i => ?_⟩
  rotate_left 2
  ·rw [set2_v', frK_v']
   split
   ·rename_i e; subst e; rfl
   ·split
    ·rename_i e; subst e; rfl
    ·rfl
  ·rw [set2_v', frK_v']
   split
   ·rename_i e; subst e
    exact vb.narrowP (by rw [← hk]; exact k1) (by omega) pb.2
   ·split
    ·rename_i e; subst e
     exact va.narrowP k1 pa.1 (by omega)
    ·exact h.v i hi
  ·show (frK s (s.v a) (s.v b) g).frame ≤ fl
   unfold frK
   split
   ·rename_i he
    have q := (vb.p (ob.e2 he)).2 he
    have := h.f
    show max s.frame ((s.v a).pl + g) ≤ fl
    omega
   ·exact h.f
theorem rs_less : RelS lessK (fun u v => meas u < meas v) := fun _ _ _ _ _ ho h ha hb h0 hk hq => have q := apart_hv (g := 1) ho h ha hb h0 hk (by decide) (by omega); ⟨q.1, q.2.1⟩
theorem rs_ng : RelS notGreaterK (fun u v => meas u ≤ meas v) := fun _ _ _ _ _ ho h ha hb h0 hk hq => have q := apart_hv (g := 0) ho h ha hb h0 hk (by decide) (by omega); ⟨q.1, q.2.1⟩
theorem rs_gt : RelS greaterK (fun u v => meas v < meas u) := fun s fl val a b ho h ha hb h0 hk hq => rs_less s fl val b a ho h hb ha (by rw [← hk]; exact h0) hk.symm hq
theorem rs_nl : RelS notLessK (fun u v => meas v ≤ meas u) := fun s fl val a b ho h ha hb h0 hk hq => rs_ng s fl val b a ho h hb ha (by rw [← hk]; exact h0) hk.symm hq
theorem rs_ne : RelS notEqualK (fun _ _ => True) := fun _ _ _ _ _ _ h _ _ _ _ _ => ⟨rfl, h⟩
theorem rs_eq : RelS equalK (fun u v => meas u = meas v) := fun s fl val a b ho h ha hb h0 hk hq => by
 have q1 := apart_hv (g := 0) ho h ha hb h0 hk (by decide) (by omega)
 have o1 := rel_ng s a b ho ha hb hk
 have n0 : ((notGreaterK s a b).v a).kind ≠ 0 := by show ((apartByK s a b 0).v a).kind ≠ 0; rw [q1.2.2 a]; exact h0
 have k2 : ((notGreaterK s a b).v a).kind = ((notGreaterK s a b).v b).kind := by show ((apartByK s a b 0).v a).kind = ((apartByK s a b 0).v b).kind; rw [q1.2.2 a, q1.2.2 b]; exact hk
 have q2 := rs_nl (notGreaterK s a b) fl val a b o1 q1.2.1 ha hb n0 k2 (by omega)
 exact ⟨q2.1.trans q1.1, q2.2⟩

structure Leapt (m : Mac) (y : RI) (b : KS) : Prop where
 yes : (stepR m y).2 = true
 ok : (stepR m y).1.fault = false
 hm : HM b (stepR m y).1
def valOf (m : Mac) (n : Int) : Nat → V := fun i => if i = 8 then nV (w64 n) else m.regs i
theorem HM.he {s : KS} {m : Mac} (h : HM s m) (i n : Int) : HE (s.ahead i n) m.frame.length (valOf m n) := by
 refine ⟨fun j hj => ?_, h.f⟩
 show HV _ (if j = 8 then numV (numW n) (numW n) else s.v j) (if j = 8 then _ else _)
 split
 ·rw [numW_bd]; exact HV.num (by rw [w64_eq]; omega)
 ·exact h.v j (by omega)
theorem HE.hm {s t : KS} {m : Mac} {val : Nat → V} (h : HM s m) (he : HE t m.frame.length val) (hr : t.reached = true) (hto : t.Ok) (hv : ∀ i, i < 8 → val i = m.regs i) : HM t m :=
 ⟨hr, hto, fun i hi => by rw [← hv i hi]; exact he.v i (by omega), he.f, h.by_, h.m⟩
theorem val_sec {m : Mac} {x : PI} {y : RI} (hxy : SameI x y) (hc : x.c < 8) : valOf m x.n x.r = m.second y := by
 unfold Mac.second valOf
 rw [hxy.imm, hxy.c, hxy.n]
 by_cases e : 128 ≤ x.op
 ·rw [show x.r = 8 from by unfold PI.r secR; rw [if_pos (by omega)], if_pos rfl, decide_eq_true e]; rfl
 ·rw [show x.r = x.c from by unfold PI.r secR; rw [if_neg (by omega)], if_neg (by omega), decide_eq_false e]; rfl
theorem less_meas {u v : V} (h : u.kind = v.kind) : lessV u v = decide (meas u < meas v) ∧ sameV u v = decide (meas u = meas v) := by
 unfold lessV sameV meas
 by_cases k : u.kind = 1
 ·rw [if_pos k, if_pos k, if_pos k, if_pos (h ▸ k)]
  refine ⟨rfl, ?_⟩
  by_cases e : u.bits = v.bits
  ·rw [decide_eq_true e, e]; simp
  ·rw [decide_eq_false e]; simpa using e
 ·rw [if_neg k, if_neg k, if_neg k, if_neg (h ▸ k)]
  refine ⟨rfl, ?_⟩
  by_cases e : u.place = v.place
  ·rw [decide_eq_true e, e]; simp
  ·rw [decide_eq_false e]; simpa using e
theorem snd_cmp {P J : KS → Nat → Nat → KS} {QP QJ : V → V → Prop} {s a b : KS} {m : Mac} {x : PI} {y : RI} (h : HM s m) (i : Int) (hd : x.d < 8) (hc : x.c < 8) (hxy : SameI x y) (h1 : 31 ≤ y.op) (h2 : y.op ≤ 36)
  (hP : RelS P QP) (hJ : RelS J QJ) (oP : RelF P) (oJ : RelF J)
  (hQ : ∀ u v : V, u.kind = v.kind → (holdsB y.op (lessV u v) (sameV u v) = true → QJ u v) ∧ (holdsB y.op (lessV u v) (sameV u v) = false → QP u v))
  (hl : cmpO P J x (s.ahead i x.n) = some (a, b)) : Fell m y a ∨ Leapt m y b := by
 have ha := h.ahead i x.n
 have he := h.he i x.n
 have hr : x.r < 9 := PI.r_lt (by omega)
 unfold cmpO cmpL at hl
 split at hl
 ·rename_i hk
  cases hl
  have vd := ha.v x.d hd
  have vr := sec_hv h hxy hc i
  have od := ha.ok.v x.d (by omega)
  have orr := ha.ok.v x.r hr
  have ed := vd.kind od hk.1
  have er := vr.kind orr hk.2.1
  have ek : (m.regs x.d).kind = (m.second y).kind := by rw [ed, er]; exact hk.2.2
  have e : stepR m y = (m, holdsB y.op (lessV (m.regs x.d) (m.second y)) (sameV (m.regs x.d) (m.second y))) := by
   unfold stepR
   rw [if_neg (by omega), if_neg (by simp [withinB]; omega), if_neg (by simp [withinB]; omega), if_neg (by simp [withinB]; omega), if_neg (by omega), if_pos (by simp [withinB]; omega)]
   unfold Mac.compares
   rw [hxy.d, ← ek, ne_beq (by rw [ed]; exact hk.1), show ((m.regs x.d).kind == (m.regs x.d).kind) = true from beq_self_eq_true _]; rfl
  have ev1 : valOf m x.n x.d = m.regs x.d := if_neg (by omega)
  have ev2 : valOf m x.n x.r = m.second y := val_sec hxy hc
  have hv : ∀ j, j < 8 → valOf m x.n j = m.regs j := fun j hj => if_neg (by omega)
  have q := hQ (m.regs x.d) (m.second y) ek
  cases hb : holdsB y.op (lessV (m.regs x.d) (m.second y)) (sameV (m.regs x.d) (m.second y))
  ·left
   have z := hP _ _ _ x.d x.r ha.ok he (by omega) hr hk.1 hk.2.2 (by rw [ev1, ev2]; exact q.2 hb)
   exact ⟨by rw [e]; exact hb, by rw [e]; exact h.m.2.1, by rw [e]; exact HE.hm h z.2 (z.1.trans ha.r) (oP _ _ _ ha.ok (by omega) hr hk.2.2) hv⟩
  ·right
   have z := hJ _ _ _ x.d x.r ha.ok he (by omega) hr hk.1 hk.2.2 (by rw [ev1, ev2]; exact q.1 hb)
   exact ⟨by rw [e]; exact hb, by rw [e]; exact h.m.2.1, by rw [e]; exact HE.hm h z.2 (z.1.trans ha.r) (oJ _ _ _ ha.ok (by omega) hr hk.2.2) hv⟩
 ·cases hl
end Go.Proofs.YtoobileejdhikaaGreat

namespace Go.Proofs.YtoobileejdhikaaGreat
open Go.RowKit

theorem step_call {m : Mac} {y : RI} (h : y.op = 40) : stepR m y = (m.call y.num, false) := by
 unfold stepR
 rw [if_neg (by omega), if_neg (by simp [withinB]; omega), if_neg (by simp [withinB]; omega), if_neg (by simp [withinB]; omega), if_neg (by omega), if_neg (by simp [withinB]; omega)]
theorem step_jmp {m : Mac} {y : RI} (h : y.op = 30) : stepR m y = (m, true) := by
 unfold stepR
 rw [if_neg (by omega), if_neg (by simp [withinB]; omega), if_neg (by simp [withinB]; omega), if_neg (by simp [withinB]; omega), if_pos h]
theorem drop_by {F : List Int} (n : Nat) (h : ∀ i, 0 ≤ F.getD i 0 ∧ F.getD i 0 < 256) (i : Nat) : 0 ≤ (F.drop n).getD i 0 ∧ (F.drop n).getD i 0 < 256 := by
 have q := h (n + i)
 rw [List.getD_eq_getElem?_getD] at q ⊢
 rw [List.getElem?_drop]; exact q
theorem snd_call {s a b : KS} {m : Mac} {x : PI} {y : RI} (h : HM s m) (hxy : SameI x y) (ho : y.op = 40) (hn : 1 ≤ x.n ∧ x.n ≤ 3) (hl : callL s x.n = some (a, b)) : Fell m y a := by
 have e0 := step_call (m := m) ho
 rw [hxy.n] at e0
 have hfl := h.m.2.2
 unfold callL at hl
 split at hl
 ·rename_i n2
  cases hl
  have e : m.call x.n = m.setReg 0 ⟨2, 0, 0⟩ := by unfold Mac.call; rw [if_pos (by omega), if_neg (by omega)]
  refine ⟨by rw [e0], by rw [e0, e]; exact h.m.2.1, ?_⟩
  rw [e0, e]
  exact h.set 0 ⟨fun h => absurd (show (2 : Int) = 1 from h) (by decide), fun _ => ⟨rfl, fun h => by cases h⟩, fun h => absurd (show (2 : Int) = 3 from h) (by decide), fun _ => ⟨Int.le_refl 0, Int.le_refl 0⟩⟩ firstV_ok ⟨Int.le_refl 0, (by decide : (0 : Int) < 18446744073709551616), (by decide : (-1000 : Int) ≤ 0), (by decide : (0 : Int) ≤ 1000)⟩
 ·rename_i n2
  split at hl
  ·rename_i n3
   cases hl
   have e : m.call x.n = m.setReg 0 ⟨2, 0, m.frame.length⟩ := by unfold Mac.call; rw [if_pos (by omega), if_pos (by omega)]
   refine ⟨by rw [e0], by rw [e0, e]; exact h.m.2.1, ?_⟩
   rw [e0, e]
   exact h.set 0 ⟨fun h => absurd (show (2 : Int) = 1 from h) (by decide), fun _ => ⟨rfl, fun _ => rfl⟩, fun h => absurd (show (2 : Int) = 3 from h) (by decide), fun _ => ⟨(by omega : (0 : Int) ≤ (m.frame.length : Int)), (by omega : (m.frame.length : Int) ≤ 64)⟩⟩ endV_ok ⟨Int.le_refl 0, (by decide : (0 : Int) < 18446744073709551616), (by omega : (-1000 : Int) ≤ (m.frame.length : Int)), (by omega : (m.frame.length : Int) ≤ 1000)⟩
  ·rename_i n3
   split at hl
   ·rename_i k1
    cases hl
    have v1 := (h.v 1 (by omega)).n k1
    have e : m.call x.n = ((m.clearTo 8).setReg 0 (nV 1)).shrink (m.regs 1).bits := by
     unfold Mac.call; rw [if_neg (by omega), show ((m.regs 1).kind == 1) = true from by rw [v1.1]; rfl, may_true]
    have hsk : ∀ (fl : Nat) (c : Int), (c = 0 ∨ c = 1) → ∀ i, i < 8 → HV fl ((shrinkK s).v i) ((((m.clearTo 8).setReg 0 (nV 1)).setReg 0 (nV c)).regs i) ∧ vGood ((((m.clearTo 8).setReg 0 (nV 1)).setReg 0 (nV c)).regs i) := by
     intro fl c hc i hi
     have e1 : (shrinkK s).v i = if i = 0 then numV 0 1 else if i < 9 ∧ shrC s i then kNone else s.v i := rfl
     have e2 : (((m.clearTo 8).setReg 0 (nV 1)).setReg 0 (nV c)).regs i = if i = 0 then nV c else if i = 0 then nV 1 else if decide (i < 8) && clrB i (m.regs i) then vNone else m.regs i := rfl
     rw [e1, e2]
     by_cases i0 : i = 0
     ·rw [if_pos i0, if_pos i0]
      exact ⟨HV.num (by omega), nV_good (by omega) (by omega)⟩
     ·rw [if_neg i0, if_neg i0, if_neg i0]
      have hv := h.v i hi
      have hg := h.m.1 i hi
      have ok := h.ok.v i (by omega)
      have gN : vGood vNone := ⟨Int.le_refl 0, (by decide : (0 : Int) < 18446744073709551616), (by decide : (-1000 : Int) ≤ 0), (by decide : (0 : Int) ≤ 1000)⟩
      refine ⟨?_, by split; exact gN; exact hg⟩
      by_cases hs : shrC s i
      ·rw [if_pos ⟨by omega, hs⟩]; exact HV.none _ _
      ·rw [if_neg (fun e => hs e.2)]
       by_cases k0 : (s.v i).kind = 0
       ·exact ⟨fun e => absurd e (by omega), fun e => absurd e (by omega), fun e => absurd e (by omega), fun e => absurd e (by omega)⟩
       ·have ek := hv.kind ok k0
        have hc2 : clrB i (m.regs i) = false := by
         unfold clrB
         have w1 : withinB (i : Int) 1 3 = false := by
          cases hw : withinB (i : Int) 1 3
          ·rfl
          ·exfalso; simp [withinB] at hw; exact hs (.inr (by omega))
         rw [w1, show ((m.regs i).kind == 2) = false from by rw [ek]; simpa using fun e => hs (.inl e)]; rfl
        rw [hc2, Bool.and_false, if_neg (by decide)]
        exact ⟨hv.n, fun e => absurd (show (s.v i).kind = 2 from e) (fun e => hs (.inl e)), hv.q, hv.pl⟩
    have okS := shrinkK_ok h.ok
    have hw : w64 m.frame.length = m.frame.length := by rw [w64_eq]; omega
    refine ⟨by rw [e0], ?_, ?_⟩
    ·rw [e0, e]; show (((m.clearTo 8).setReg 0 (nV 1)).shrink (m.regs 1).bits).fault = false
     unfold Mac.shrink; split <;> exact h.m.2.1
    ·rw [e0, e]
     show HM (shrinkK s) (((m.clearTo 8).setReg 0 (nV 1)).shrink (m.regs 1).bits)
     unfold Mac.shrink
     split
     ·refine ⟨h.r, okS, fun i hi => (hsk _ 0 (.inl rfl) i hi).1, ?_, ⟨h.by_.1, drop_by _ h.by_.2⟩, fun i hi => (hsk 0 0 (.inl rfl) i hi).2, h.m.2.1, ?_⟩
      ·show (0 : Int) ≤ _; omega
      ·show (m.frame.drop (m.regs 1).bits.toNat).length ≤ 64
       rw [List.length_drop]; omega
     ·have e2 : ∀ i, ((m.clearTo 8).setReg 0 (nV 1)).regs i = (((m.clearTo 8).setReg 0 (nV 1)).setReg 0 (nV 1)).regs i := fun i => by
       show (if i = 0 then _ else _) = (if i = 0 then _ else (if i = 0 then _ else _)); split <;> rfl
      refine ⟨h.r, okS, fun i hi => by rw [e2 i]; exact (hsk _ 1 (.inr rfl) i hi).1, ?_, h.by_, fun i hi => by rw [e2 i]; exact (hsk 0 1 (.inr rfl) i hi).2, h.m.2.1, h.m.2.2⟩
      show (0 : Int) ≤ (m.frame.length : Int); omega
   ·cases hl

theorem snd_any {s a b : KS} {m : Mac} {x : PI} {y : RI} (i : Int) (h : HM s m) (hxy : SameI x y) (hd : x.d < 8) (hc : x.c < 8) (hn : x.op = 40 → 1 ≤ x.n ∧ x.n ≤ 3) (h41 : x.op ≠ 41)
  (hl : lookK x (s.ahead i x.n) = some (a, b)) : Fell m y a ∨ Leapt m y b := by
 have ha := h.ahead i x.n
 have hs := sec_hv h hxy hc i
 have hr : x.r < 9 := PI.r_lt (by omega)
 have hg : vGood (m.second y) := second_good h.m y (by rw [hxy.c]; exact hc)
 have hop := hxy.op
 have eq31 : ∀ u v : V, u.kind = v.kind → (holdsB 31 (lessV u v) (sameV u v) = true → meas u = meas v) ∧ (holdsB 31 (lessV u v) (sameV u v) = false → True) := fun u v e => ⟨fun q => by rw [(less_meas e).2] at q; simpa [holdsB] using q, fun _ => trivial⟩
 have eq32 : ∀ u v : V, u.kind = v.kind → (holdsB 32 (lessV u v) (sameV u v) = true → True) ∧ (holdsB 32 (lessV u v) (sameV u v) = false → meas u = meas v) := fun u v e => ⟨fun _ => trivial, fun q => by rw [(less_meas e).2] at q; simpa [holdsB] using q⟩
 have eq33 : ∀ u v : V, u.kind = v.kind → (holdsB 33 (lessV u v) (sameV u v) = true → meas v < meas u) ∧ (holdsB 33 (lessV u v) (sameV u v) = false → meas u ≤ meas v) := fun u v e => ⟨fun q => by rw [(less_meas e).2, (less_meas e).1] at q; simp [holdsB] at q; omega, fun q => by rw [(less_meas e).2, (less_meas e).1] at q; simp [holdsB] at q; omega⟩
 have eq34 : ∀ u v : V, u.kind = v.kind → (holdsB 34 (lessV u v) (sameV u v) = true → meas v ≤ meas u) ∧ (holdsB 34 (lessV u v) (sameV u v) = false → meas u < meas v) := fun u v e => ⟨fun q => by rw [(less_meas e).1] at q; simp [holdsB] at q; omega, fun q => by rw [(less_meas e).1] at q; simp [holdsB] at q; omega⟩
 have eq35 : ∀ u v : V, u.kind = v.kind → (holdsB 35 (lessV u v) (sameV u v) = true → meas u < meas v) ∧ (holdsB 35 (lessV u v) (sameV u v) = false → meas v ≤ meas u) := fun u v e => ⟨fun q => by rw [(less_meas e).1] at q; simp [holdsB] at q; omega, fun q => by rw [(less_meas e).1] at q; simp [holdsB] at q; omega⟩
 have eq36 : ∀ u v : V, u.kind = v.kind → (holdsB 36 (lessV u v) (sameV u v) = true → meas u ≤ meas v) ∧ (holdsB 36 (lessV u v) (sameV u v) = false → meas v < meas u) := fun u v e => ⟨fun q => by rw [(less_meas e).2, (less_meas e).1] at q; simp [holdsB] at q; omega, fun q => by rw [(less_meas e).2, (less_meas e).1] at q; simp [holdsB] at q; omega⟩
 have work : ∀ (k : Nat) (f : KV → KV → Int × Int), x.op % 128 = k → 2 ≤ k → k ≤ 11 → SpanF f → NumIn (k : Int) f → numO f x (s.ahead i x.n) = some (a, b) → Fell m y a ∨ Leapt m y b :=
  fun k f e k1 k2 hf hni hl => .inl (snd_num ha hs hr hd hxy (by rw [hop, e]; omega) (by rw [hop, e]; omega) hf (by rw [hop, e]; exact hni) hl)
 have load : ∀ (k z : Nat), x.op % 128 = k → 20 ≤ k → k ≤ 23 → (z = 1 ∨ z = 2 ∨ z = 4 ∨ z = 8) → (sizeR (k : Int)).toNat = z → loadL (s.ahead i x.n) x.d x.c x.of z = some (a, b) → Fell m y a ∨ Leapt m y b :=
  fun k z e k1 k2 hz hsz hl => .inl (snd_load ha hc hxy (by rw [hop, e]; omega) (by rw [hop, e]; omega) hz (by rw [hop, e]; exact hsz) hl)
 have store : ∀ (k z : Nat), x.op % 128 = k → 24 ≤ k → k ≤ 27 → (sizeR (k : Int)).toNat = z → storeL (s.ahead i x.n) x.d x.c x.of z = some (a, b) → Fell m y a ∨ Leapt m y b :=
  fun k z e k1 k2 hsz hl => .inl (snd_store ha hd hc hxy (by rw [hop, e]; omega) (by rw [hop, e]; omega) (by rw [hop, e]; exact hsz) hl)
 have cmp : ∀ (k : Nat) (P J : KS → Nat → Nat → KS) (QP QJ : V → V → Prop), x.op % 128 = k → 31 ≤ k → k ≤ 36 → RelS P QP → RelS J QJ → RelF P → RelF J →
   (∀ u v : V, u.kind = v.kind → (holdsB (k : Int) (lessV u v) (sameV u v) = true → QJ u v) ∧ (holdsB (k : Int) (lessV u v) (sameV u v) = false → QP u v)) → cmpO P J x (s.ahead i x.n) = some (a, b) → Fell m y a ∨ Leapt m y b :=
  fun k P J QP QJ e k1 k2 hP hJ oP oJ hQ hl => snd_cmp h i hd hc hxy (by rw [hop, e]; omega) (by rw [hop, e]; omega) hP hJ oP oJ (by rw [hop, e]; exact hQ) hl
 have he : ∀ k : Nat, x.op = k → x.op % 128 = k % 128 := fun k e => by rw [e]
 unfold lookK at hl
 split at hl
 ·rename_i e; exact .inl (snd_mov ha hs hr hg hxy (by rw [hop, e]; rfl) hl)
 ·rename_i e; exact .inl (snd_add ha hs hr hd hg hxy (by rw [hop, e]; rfl) hl)
 ·rename_i e; exact .inl (snd_sub ha hs hr hd hxy (by rw [hop, e]; rfl) hl)
 ·rename_i e; exact work 4 _ (he _ e) (by decide) (by decide) sp_mul ni_mul hl
 ·rename_i e; exact work 5 _ (he _ e) (by decide) (by decide) sp_div ni_div hl
 ·rename_i e; exact work 6 _ (he _ e) (by decide) (by decide) sp_mod ni_mod hl
 ·rename_i e; exact work 7 _ (he _ e) (by decide) (by decide) sp_and ni_and hl
 ·rename_i e; exact work 8 _ (he _ e) (by decide) (by decide) sp_or ni_or hl
 ·rename_i e; exact work 9 _ (he _ e) (by decide) (by decide) sp_xor ni_xor hl
 ·rename_i e; exact work 10 _ (he _ e) (by decide) (by decide) sp_shl ni_shl hl
 ·rename_i e; exact work 11 _ (he _ e) (by decide) (by decide) sp_shr ni_shr hl
 ·rename_i e; exact load 20 1 (he _ e) (by decide) (by decide) (by decide) rfl hl
 ·rename_i e; exact load 21 2 (he _ e) (by decide) (by decide) (by decide) rfl hl
 ·rename_i e; exact load 22 4 (he _ e) (by decide) (by decide) (by decide) rfl hl
 ·rename_i e; exact load 23 8 (he _ e) (by decide) (by decide) (by decide) rfl hl
 ·rename_i e; exact store 24 1 (he _ e) (by decide) (by decide) rfl hl
 ·rename_i e; exact store 25 2 (he _ e) (by decide) (by decide) rfl hl
 ·rename_i e; exact store 26 4 (he _ e) (by decide) (by decide) rfl hl
 ·rename_i e; exact store 27 8 (he _ e) (by decide) (by decide) rfl hl
 ·rename_i e
  cases hl
  have q := step_jmp (m := m) (y := y) (by rw [hop, e]; rfl)
  exact .inr ⟨by rw [q], by rw [q]; exact h.m.2.1, by rw [q]; exact ha⟩
 ·rename_i e; exact cmp 31 _ _ _ _ (he _ e) (by decide) (by decide) rs_ne rs_eq rel_ne rel_eq eq31 hl
 ·rename_i e; exact cmp 32 _ _ _ _ (he _ e) (by decide) (by decide) rs_eq rs_ne rel_eq rel_ne eq32 hl
 ·rename_i e; exact cmp 33 _ _ _ _ (he _ e) (by decide) (by decide) rs_ng rs_gt rel_ng rel_gt eq33 hl
 ·rename_i e; exact cmp 34 _ _ _ _ (he _ e) (by decide) (by decide) rs_less rs_nl rel_less rel_nl eq34 hl
 ·rename_i e; exact cmp 35 _ _ _ _ (he _ e) (by decide) (by decide) rs_nl rs_less rel_nl rel_less eq35 hl
 ·rename_i e; exact cmp 36 _ _ _ _ (he _ e) (by decide) (by decide) rs_gt rs_ng rel_gt rel_ng eq36 hl
 ·rename_i e; exact .inl (snd_call ha hxy (by rw [hop, e]; rfl) (hn e) hl)
 ·rename_i e; exact absurd e h41
 ·rename_i e; exact .inl (snd_mov ha hs hr hg hxy (by rw [hop, e]; rfl) hl)
 ·rename_i e; exact .inl (snd_add ha hs hr hd hg hxy (by rw [hop, e]; rfl) hl)
 ·rename_i e; exact .inl (snd_sub ha hs hr hd hxy (by rw [hop, e]; rfl) hl)
 ·rename_i e; exact work 4 _ (he _ e) (by decide) (by decide) sp_mul ni_mul hl
 ·rename_i e; exact work 5 _ (he _ e) (by decide) (by decide) sp_div ni_div hl
 ·rename_i e; exact work 6 _ (he _ e) (by decide) (by decide) sp_mod ni_mod hl
 ·rename_i e; exact work 7 _ (he _ e) (by decide) (by decide) sp_and ni_and hl
 ·rename_i e; exact work 8 _ (he _ e) (by decide) (by decide) sp_or ni_or hl
 ·rename_i e; exact work 9 _ (he _ e) (by decide) (by decide) sp_xor ni_xor hl
 ·rename_i e; exact work 10 _ (he _ e) (by decide) (by decide) sp_shl ni_shl hl
 ·rename_i e; exact work 11 _ (he _ e) (by decide) (by decide) sp_shr ni_shr hl
 ·rename_i e; exact cmp 31 _ _ _ _ (he _ e) (by decide) (by decide) rs_ne rs_eq rel_ne rel_eq eq31 hl
 ·rename_i e; exact cmp 32 _ _ _ _ (he _ e) (by decide) (by decide) rs_eq rs_ne rel_eq rel_ne eq32 hl
 ·rename_i e; exact cmp 33 _ _ _ _ (he _ e) (by decide) (by decide) rs_ng rs_gt rel_ng rel_gt eq33 hl
 ·rename_i e; exact cmp 34 _ _ _ _ (he _ e) (by decide) (by decide) rs_less rs_nl rel_less rel_nl eq34 hl
 ·rename_i e; exact cmp 35 _ _ _ _ (he _ e) (by decide) (by decide) rs_nl rs_less rel_nl rel_less eq35 hl
 ·rename_i e; exact cmp 36 _ _ _ _ (he _ e) (by decide) (by decide) rs_gt rs_ng rel_gt rel_ng eq36 hl
 ·cases hl
end Go.Proofs.YtoobileejdhikaaGreat

namespace Go.Proofs.YtoobileejdhikaaGreat
open Go.RowKit

theorem step_leap (m : Mac) (x : RI) (h : (stepR m x).2 = true) : 30 ≤ x.op ∧ x.op ≤ 36 := by
 unfold stepR at h
 by_cases c1 : x.op = 1
 ·rw [if_pos c1] at h; simp at h
 rw [if_neg c1] at h
 by_cases c2 : withinB x.op 2 11
 ·rw [if_pos c2] at h; simp at h
 rw [if_neg c2] at h
 by_cases c3 : withinB x.op 20 23
 ·rw [if_pos c3] at h; simp at h
 rw [if_neg c3] at h
 by_cases c4 : withinB x.op 24 27
 ·rw [if_pos c4] at h; simp at h
 rw [if_neg c4] at h
 by_cases c5 : x.op = 30
 ·omega
 rw [if_neg c5] at h
 by_cases c6 : withinB x.op 31 36
 ·simp [withinB] at c6; omega
 rw [if_neg c6] at h; simp at h
theorem HV.orL {fl : Nat} {k : KV} {v : V} (h : HV fl k v) (k' : KV) : HV fl (k.or k') v := by
 unfold KV.or
 split
 ·refine ⟨fun e => ⟨(h.n e).1, ?_, ?_⟩, fun e => ⟨(h.p e).1, fun q => (h.p e).2 ?_⟩, fun e => h.q e, fun e => ?_⟩
  ·show min k.nl k'.nl ≤ v.bits; have := (h.n e).2.1; omega
  ·show v.bits ≤ max k.nm k'.nm; have := (h.n e).2.2; omega
  ·have q' : (k.e && k'.e) = true := q
   simp only [Bool.and_eq_true] at q'; exact q'.1
  ·have q := h.pl e
   exact ⟨(by omega : min k.pl k'.pl ≤ v.place), (by omega : v.place ≤ max k.pm k'.pm)⟩
 ·exact HV.none _ _
theorem HV.orR {fl : Nat} {k' : KV} {v : V} (h : HV fl k' v) (k : KV) : HV fl (k.or k') v := by
 unfold KV.or
 split
 ·rename_i ek
  refine ⟨fun e => ⟨(h.n (ek ▸ e)).1, ?_, ?_⟩, fun e => ⟨(h.p (ek ▸ e)).1, fun q => (h.p (ek ▸ e)).2 ?_⟩, fun e => h.q (ek ▸ e), fun e => ?_⟩
  ·have e' : k'.kind = 1 := ek ▸ e
   show min k.nl k'.nl ≤ v.bits; have := (h.n e').2.1; omega
  ·have e' : k'.kind = 1 := ek ▸ e
   show v.bits ≤ max k.nm k'.nm; have := (h.n e').2.2; omega
  ·have q' : (k.e && k'.e) = true := q
   simp only [Bool.and_eq_true] at q'; exact q'.2
  ·have e' : k'.kind = 2 ∨ k'.kind = 3 := ek ▸ e
   have q := h.pl e'
   exact ⟨(by omega : min k.pl k'.pl ≤ v.place), (by omega : v.place ≤ max k.pm k'.pm)⟩
 ·exact HV.none _ _
theorem orV_v {s y : KS} {r : Nat} (h : r < 9) : (orV s y 9).v r = (s.v r).or (y.v r) := by show (if r < 9 then _ else _) = _; rw [if_pos h]
theorem HM.orL {s y : KS} {m : Mac} (h : HM s m) (hy : y.Ok) : HM (s.or y) m := by
 have ho := KS.or_ok h.ok hy
 revert ho
 rw [KS.or, if_pos h.r]
 intro ho
 refine ⟨h.r, ho, fun i hi => ?_, ?_, h.by_, h.m⟩
 ·show HV _ ((orV s y 9).v i) _
  rw [orV_v (by omega)]; exact (h.v i hi).orL _
 ·show min s.frame y.frame ≤ _; have := h.f; omega
theorem HM.orR {s y : KS} {m : Mac} (h : HM y m) (hs : s.Ok) : HM (s.or y) m := by
 have ho := KS.or_ok hs h.ok
 revert ho
 rw [KS.or]
 split
 ·rename_i hr
  intro ho
  refine ⟨hr, ho, fun i hi => ?_, ?_, h.by_, h.m⟩
  ·show HV _ ((orV s y 9).v i) _
   rw [orV_v (by omega)]; exact (h.v i hi).orR _
  ·show min s.frame y.frame ≤ _; have := h.f; omega
 ·intro _; exact h
theorem meet_in {st : Nat → KS} (hst : StOk st) {i : Nat} {s : KS} {m : Mac} (h : HM s m) : HM (meetK st i s i) m := by
 unfold meetK
 rw [if_pos h.r]
 show HM (if i = i then (st i).or s else st i) m
 rw [if_pos rfl]; exact h.orR (hst i)
theorem meet_keep {st : Nat → KS} {i j : Nat} {s : KS} (hs : s.Ok) {m : Mac} (h : HM (st j) m) : HM (meetK st i s j) m := by
 unfold meetK
 split
 ·show HM (if j = i then (st i).or s else st j) m
  split
  ·rename_i e; subst e; exact h.orL hs
  ·exact h
 ·exact h
structure SameC (I : Nat → PI) (L : Nat → RI) (n : Nat) : Prop where
 ok : CodeOk L n
 i : ∀ k, k < n → SameI (I k) (L k)
theorem run_safe {I : Nat → PI} {L : Nat → RI} {n : Nat} (hC : SameC I L n) (hw : ∀ k, k < n → (I k).op = 41 ∨ (I k).op % 128 ≠ 41) : ∀ (r i : Nat) (st : Nat → KS), i + r = n → StOk st → safeR I r i st = none →
  ∀ (f k : Nat) (m : Mac), i ≤ k → k < n → n ≤ k + f → HM (st k) m → (runGo L f m k).1 = false
 | 0, i, st, hi, _, _, f, k, m, h1, h2, _, _ => by omega
 | r + 1, i, st, hi, hst, hs, f, k, m, h1, h2, hf, hm => by
  have hx := hC.i i (by omega)
  have hdd : (I i).d < 8 := by rw [← hx.d]; exact hC.ok.dst i (by omega)
  have hcc : (I i).c < 8 := by rw [← hx.c]; exact hC.ok.src i (by omega)
  cases hr : (st i).reached
  ·rw [safeR_skip hr] at hs
   have hne : i ≠ k := fun e => by subst e; rw [hm.r] at hr; cases hr
   exact run_safe hC hw r (i + 1) st (by omega) hst hs f k m (by omega) h2 hf hm
  ·cases hl : lookK (I i) ((st i).ahead i (I i).n) with
   | none => rw [safeR_none hr hl] at hs; cases hs
   | some ab =>
    obtain ⟨a, b⟩ := ab
    rw [safeR_some hr hl] at hs
    have hab := lookK_ok (ahead_ok (hst i) i (I i).n) (by omega) (by omega) hl
    have hst1 := meetK_ok hst hab.1 (i + 1)
    have hst2 := meetK_ok hst1 hab.2 (i + 1 + (I i).of.toNat)
    by_cases e : k = i
    ·subst e
     cases f with
     | zero => omega
     | succ f =>
      show (if (L k).op = 41 then _ else _ : Bool × Int × List Int).1 = false
      rcases hw k h2 with h41 | h41
      ·rw [if_pos (by rw [hx.op, h41]; rfl)]
       have hq : exitL ((st k).ahead k (I k).n) = some (a, b) := by
        have e : lookK (I k) ((st k).ahead k (I k).n) = exitL ((st k).ahead k (I k).n) := by
         generalize (st k).ahead k (I k).n = t
         unfold lookK; rw [h41]; rfl
        rw [← e]; exact hl
       unfold exitL at hq
       split at hq
       ·rename_i hk
        have v0 := ((hm.ahead k (I k).n).v 0 (by omega)).n hk.1
        have hb : (((m.regs 0).kind == 1) && decide ((m.regs 0).bits ≤ 3)) = true := by
         rw [v0.1, decide_eq_true (by have := v0.2.2; omega)]; rfl
        rw [hb, may_true, hm.m.2.1]; rfl
       ·cases hq
      ·have n41 : (L k).op ≠ 41 := by rw [hx.op]; omega
       rw [if_neg n41]
       have hlast := hC.ok.last k h2 n41
       rcases snd_any k hm hx hdd hcc (fun e => by have := hC.ok.calls k h2 (by rw [hx.op, e]; rfl); rw [hx.n] at this; exact this) (fun e => h41 (by rw [e])) hl with q | q
       ·rw [q.ok, if_neg (by decide), q.no, if_neg (by decide)]
        exact run_safe hC hw r (k + 1) _ (by omega) hst2 hs f (k + 1) _ (Nat.le_refl _) hlast (by omega) (meet_keep hab.2 (meet_in hst q.hm))
       ·rw [q.ok, if_neg (by decide), q.yes, if_pos rfl, hx.of]
        have hj := step_leap m (L k) q.yes
        have hgo := hC.ok.goes k h2 hj.1 hj.2
        rw [hx.of] at hgo
        exact run_safe hC hw r (k + 1) _ (by omega) hst2 hs f (k + 1 + (I k).of.toNat) _ (by omega) (by omega) (by omega) (meet_in hst1 q.hm)
    ·exact run_safe hC hw r (i + 1) _ (by omega) hst2 hs f k m (by omega) h2 hf (meet_keep hab.2 (meet_keep hab.1 hm))
theorem start_hm {F : List Int} (h : F.length ≤ 64) (hb : ∀ i, 0 ≤ F.getD i 0 ∧ F.getD i 0 < 256) : HM KS.start (start F) := by
 have z : vGood vNone := ⟨Int.le_refl 0, (by decide : (0 : Int) < 18446744073709551616), (by decide : (-1000 : Int) ≤ 0), (by decide : (0 : Int) ≤ 1000)⟩
 refine ⟨rfl, start_ok, fun i hi => ?_, ?_, ⟨fun _ => ⟨Int.le_refl 0, (by decide : (0 : Int) < 256)⟩, hb⟩, fun i hi => ?_, rfl, h⟩
 ·show HV F.length (if i = 7 then stackV else if i = 2 then endV else if i = 1 then firstV else kNone) (if i = 1 then ⟨2, 0, 0⟩ else if i = 2 then ⟨2, 0, F.length⟩ else if i = 7 then ⟨3, 0, 0⟩ else vNone)
  by_cases e7 : i = 7
  ·subst e7
   exact ⟨fun h => absurd (show (3 : Int) = 1 from h) (by decide), fun h => absurd (show (3 : Int) = 2 from h) (by decide), fun _ => rfl, fun _ => ⟨Int.le_refl 0, Int.le_refl 0⟩⟩
  ·by_cases e2 : i = 2
   ·subst e2
    exact ⟨fun h => absurd (show (2 : Int) = 1 from h) (by decide), fun _ => ⟨rfl, fun _ => rfl⟩, fun h => absurd (show (2 : Int) = 3 from h) (by decide), fun _ => ⟨(by omega : (0 : Int) ≤ (F.length : Int)), (by omega : (F.length : Int) ≤ 64)⟩⟩
   ·by_cases e1 : i = 1
    ·subst e1
     exact ⟨fun h => absurd (show (2 : Int) = 1 from h) (by decide), fun _ => ⟨rfl, fun h => by cases h⟩, fun h => absurd (show (2 : Int) = 3 from h) (by decide), fun _ => ⟨Int.le_refl 0, Int.le_refl 0⟩⟩
    ·rw [if_neg e7, if_neg e2, if_neg e1]; exact HV.none _ _
 ·show (0 : Int) ≤ (F.length : Int); omega
 ·show vGood (if i = 1 then ⟨2, 0, 0⟩ else if i = 2 then ⟨2, 0, F.length⟩ else if i = 7 then ⟨3, 0, 0⟩ else vNone)
  split
  ·exact z
  ·split
   ·exact ⟨Int.le_refl 0, (by decide : (0 : Int) < 18446744073709551616), (by omega : (-1000 : Int) ≤ (F.length : Int)), (by omega : (F.length : Int) ≤ 1000)⟩
   ·split <;> exact z
theorem safe_sound {I : Nat → PI} {L : Nat → RI} {n : Nat} (hC : SameC I L n) (hw : ∀ k, k < n → (I k).op = 41 ∨ (I k).op % 128 ≠ 41) (hs : safeP I n = none) {F : List Int} (h : F.length ≤ 64) (hb : ∀ i, 0 ≤ F.getD i 0 ∧ F.getD i 0 < 256) :
  (runGo L n (start F) 0).1 = false :=
 run_safe hC hw n 0 st0 (by omega) st0_ok hs n 0 (start F) (Nat.le_refl _) hC.ok.pos (by omega) (start_hm h hb)
end Go.Proofs.YtoobileejdhikaaGreat
