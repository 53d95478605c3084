/-
  Proved: for every code and every list of frames whose bulk together is at most the bound of the statement, sharing memory or not, the call of the statement Safe returns true and leaves its arguments as they were.
-/
import Derived.Test.YtoobileejdhikaaGreatRows
import Derived.Test.YtoobileejdhikaaGreatGg8
import Derived.WalkKit
import Derived.ProofKit
import Derived.OpenShut
import Derived.ShutString
import Derived.ChangeOld
import Derived.Below
import Derived.JoinedCond
import Derived.Deep.Slices
import Derived.Deep.Strs
namespace Go.Proofs.YtoobileejdhikaaGreat.saf
set_option maxRecDepth 100000
open Go.ChangeShapes Go.WideShapes Go.ChangeAt Go.RowKit
open Go.ChangeMaps (open_string shut_string)
open Go.Deep

theorem own : ownKnob Tryz.prog.godebug = none := by kernel_rfl
theorem laidOut : laidOutB Tryz.prog = true := by kernel_rfl
theorem cellsB : Tryz.prog.cellsOf 22 = 1 := by kernel_rfl

theorem bulk_one {H : Type} (d : DataW H) : 1 ≤ Rows.uptoBulk d := by
 cases d with
 | lit l => cases l <;> simp [Rows.uptoBulk]
 | _ => simp [Rows.uptoBulk]
theorem bulk_len {H : Type} : ∀ l : List (DataW H), l.length ≤ Rows.uptoBulkAll l
 | [] => by simp [Rows.uptoBulkAll]
 | d :: r => by
  have h1 := bulk_one d
  have h2 := bulk_len r
  simp only [Rows.uptoBulkAll, List.length_cons]; omega
theorem bulk_mem {H : Type} : ∀ (l : List (DataW H)) (d : DataW H), d ∈ l → Rows.uptoBulk d ≤ Rows.uptoBulkAll l
 | [], _, h => by cases h
 | x :: r, d, h => by
  simp only [Rows.uptoBulkAll]
  rcases List.mem_cons.1 h with rfl | h
  ·omega
  ·have := bulk_mem r d h; omega

theorem range_by {zs : List Int} (hw : ∀ n ∈ zs, (Lit.int .u8 n).wf = true) (i : Nat) : 0 ≤ zs.getD i 0 ∧ zs.getD i 0 ≤ 255 := by simpa using range_u8 hw i
theorem add_at {W : World} {x : Addr} {v : Nat → Value} {n : Nat} (hn : 0 < n) (h : ∀ i, i < n → W.cell? (x.add i) = some (v i)) : ∃ b o, x = ⟨b, o, none⟩ ∧ ∀ i, i < n → W.cell? ⟨b, o + i, none⟩ = some (v i) := by
 obtain ⟨b, o, spot⟩ := x
 have hc := h 0 hn
 have hspot : spot = none := by simpa [Addr.add] using World.cell?_spot hc
 subst hspot
 refine ⟨b, o, rfl, fun i hi => ?_⟩
 have h1 := h i hi
 by_cases e : i = 0 <;> simpa [Addr.add, e] using h1
theorem open_bytes {H : Type} {enc : TypeId × Value → H} {W : World} {n : Nat} {cs : List Value} {x : DataW H × List MemPlace} (hf : DataW.trod enc Tryz.prog W 0 (fun _ => true) true n 22 cs = some x) (hb : Rows.uptoBulk x.1 ≤ 1048576) :
  ∃ A L C Z, cs = [.slice A L C] ∧ BytesIn W A L C Z ∧ L ≤ 1048576 := by
 rcases open_ints Tryz.underlying22 Tryz.underlying5 (by kernel_rfl) hf with ⟨hcs, _⟩ | ⟨y, l, c, zs, hcs, _, hl, hm, hz, hx, hcell, hwz⟩
 ·exact ⟨none, 0, 0, fun _ => 0, hcs, ⟨fun _ => ⟨rfl, rfl⟩, Nat.le_refl _, by omega, ⟨0, 0, fun h => by omega, fun i hi => by omega⟩, fun _ => by omega⟩, by omega⟩
 ·simp only [if_true] at hz
  rw [hx] at hb
  simp only [Rows.uptoBulk] at hb
  have hlen := bulk_len (H := H) (lits .u8 (zs.take l))
  have hlt : (lits (H := H) .u8 (zs.take l)).length = l := by simp [lits]; omega
  unfold maxLen at hm
  refine ⟨some y, l, c, fun i => zs.getD i 0, hcs, ⟨(fun h => by cases h), hl, hm, ?_, range_by hwz⟩, by omega⟩
  by_cases h0 : 0 < l
  ·obtain ⟨b, o, rfl, hb⟩ := add_at (n := l) (v := fun i => .int .u8 (zs.getD i 0)) h0 (fun i hi => hcell i (by omega))
   exact ⟨b, o, fun _ => rfl, hb⟩
  ·exact ⟨0, 0, fun h => absurd h h0, fun i hi => by omega⟩
theorem addr0 (a : Addr) : a.add 0 = a := by simp [Addr.add]
theorem open_frames {H : Type} {enc : TypeId × Value → H} {W : World} {a1 : Option Addr} {len1 cap1 : Nat} {d1 : DataW H} {p1 : List MemPlace} (h1 : DataW.Trod enc Tryz.prog W 0 (fun _ => true) true 36 (.slice a1 len1 cap1) d1 p1) (hk : Rows.uptoBulk d1 ≤ 1048576) :
  ∃ fb fo A L C Z, FrIn W a1 len1 fb fo A L C Z := by
 obtain ⟨fuel, hf⟩ := h1
 rcases open_slice Tryz.underlying36 hf with ⟨hcs, _⟩ | ⟨a, len, cap, m, n, D, Pl, hcs, _, hl, hm, hmm, hx, hall⟩
 ·simp [Value.cells] at hcs
  obtain ⟨rfl, rfl, rfl⟩ := hcs
  exact ⟨0, 0, fun _ => none, fun _ => 0, fun _ => 0, fun _ _ => 0, by omega, fun h => by omega, fun r hr => by omega, fun r hr => by omega⟩
 ·simp [Value.cells] at hcs
  obtain ⟨rfl, rfl, rfl⟩ := hcs
  simp only [if_true] at hmm
  subst hmm
  simp only [Prod.mk.injEq] at hx
  obtain ⟨rfl, _⟩ := hx
  have hk2 : Rows.uptoBulkAll ((List.range len1).map D) ≤ 1048576 := by simp only [Rows.uptoBulk] at hk; omega
  have hlen : len1 ≤ 1048576 := by have := bulk_len ((List.range len1).map D); simp only [List.length_map, List.length_range] at this; omega
  have hst : ∀ i, i < len1 → ∃ y : Option Addr × Nat × Nat × (Nat → Int), W.cell? (a.add i) = some (.slice y.1 y.2.1 y.2.2.1) ∧ BytesIn W y.1 y.2.1 y.2.2.1 y.2.2.2 ∧ y.2.1 ≤ 1048576 := fun i hi => by
   obtain ⟨cs', h2, h3⟩ := hall i (by omega)
   rw [cellsB] at h2
   have hD : Rows.uptoBulk (D i) ≤ 1048576 := Nat.le_trans (bulk_mem _ (D i) (List.mem_map.2 ⟨i, List.mem_range.2 hi, rfl⟩)) hk2
   obtain ⟨A, L, C, Z, rfl, hr, hL⟩ := open_bytes h3 hD
   refine ⟨(A, L, C, Z), ?_, hr, hL⟩
   have := (World.cells?_some h2).2.2 0 (by omega)
   rw [addr0, Nat.mul_one] at this
   exact this
  by_cases h0 : 0 < len1
  ·obtain ⟨y0, hy0⟩ := hst 0 h0
   let Y : Nat → Option Addr × Nat × Nat × (Nat → Int) := fun i => if hi : i < len1 then (hst i hi).choose else y0
   have hY : ∀ i, i < len1 → W.cell? (a.add i) = some (.slice (Y i).1 (Y i).2.1 (Y i).2.2.1) ∧ BytesIn W (Y i).1 (Y i).2.1 (Y i).2.2.1 (Y i).2.2.2 ∧ (Y i).2.1 ≤ 1048576 := fun i hi => by
    have e : Y i = (hst i hi).choose := by show (if hi : i < len1 then (hst i hi).choose else y0) = _; rw [dif_pos hi]
    rw [e]; exact (hst i hi).choose_spec
   obtain ⟨b, o, rfl, hb⟩ := add_at h0 (fun r hr => (hY r hr).1)
   exact ⟨b, o, fun i => (Y i).1, fun i => (Y i).2.1, fun i => (Y i).2.2.1, fun i => (Y i).2.2.2, hlen, fun _ => rfl, hb, fun r hr => ⟨(hY r hr).2.1, by have := (hY r hr).2.2; omega⟩⟩
  ·exact ⟨0, 0, fun _ => none, fun _ => 0, fun _ => 0, fun _ _ => 0, hlen, fun h => absurd h h0, fun r hr => by omega, fun r hr => by omega⟩

theorem contract (H : Type) (enc : TypeId × Value → H) (W : World) (base : Nat) (args : Array Value) (ds gs : List (DataW H)) (before : List MemPlace)
  (hval0 : ∀ (j : Nat) t v, Tryz.f6.params[j]? = some t → args[j]? = some v → Value.okWide Tryz.prog W .any base t v)
  (hW : DataW.Whole enc Tryz.prog Tryz.f6.params.toList Rows.safeSpec.vars false W args.toList ds gs before) (hk : Rows.uptoSmall H (ds ++ gs) = true) :
  Calls Tryz.prog 6 args W fun e W' => ∃ v, e = .returned v ∧ Rows.safeSpec.post enc Tryz.prog Tryz.f6 false true false false W args v W' := by
 have hval : ∀ (j : Nat) t v, Tryz.f6.params[j]? = some t → args[j]? = some v → Value.okWide Tryz.prog W .any base t v := hval0
 have hW' := hW
 obtain ⟨p, q, hA0, hV, rfl, hfz, hnd⟩ := hW
 have hA : DataW.TrodAll enc Tryz.prog W 0 (fun _ => true) true Tryz.f6.params.toList args.toList ds p := hA0
 rw [Tryz.params6] at hA hval
 obtain ⟨v0, vs0, d0, ds0, p0, q0, hargs, rfl, rfl, h0, r0⟩ := trodAll_cons hA
 obtain ⟨v1, vs1, d1, ds1, p1, q1, hargs1, rfl, rfl, h1, r1⟩ := trodAll_cons r0
 obtain ⟨rfl, rfl, rfl⟩ := trodAll_nil r1
 subst hargs1
 obtain rfl : args = #[v0, v1] := by cases args; simp_all
 obtain ⟨rfl, rfl⟩ := trodVars_none hV
 obtain ⟨a0, len0, cap0, rfl⟩ := okWide_slice Tryz.underlying22 (hval 0 22 v0 rfl rfl)
 obtain ⟨a1, len1, cap1, rfl⟩ := okWide_slice Tryz.underlying36 (hval 1 36 v1 rfl rfl)
 have k0 := h0
 have k1 := h1
 have lt1 : ∀ x ∈ p1, x.block < W.heap.size := by obtain ⟨m, hm⟩ := k1; exact DataW.trod_lt m _ _ _ hm
 have lt0 : ∀ x ∈ p0, x.block < W.heap.size := by obtain ⟨m, hm⟩ := k0; exact DataW.trod_lt m _ _ _ hm
 have hb : Rows.uptoBulkAll [d0, d1] ≤ 1048576 := of_decide_eq_true hk
 have hb2 : Rows.uptoBulk d0 ≤ 1048576 := by simp only [Rows.uptoBulkAll] at hb; omega
 have hb3 : Rows.uptoBulk d1 ≤ 1048576 := by simp only [Rows.uptoBulkAll] at hb; omega
 obtain ⟨fuel, hf⟩ := h0
 obtain ⟨A0, L0, C0, B, hc0, w0, hl0⟩ := open_bytes hf hb2
 simp [Value.cells] at hc0
 obtain ⟨rfl, rfl, rfl⟩ := hc0
 obtain ⟨fb, fo, A, L, C, Z, w1⟩ := open_frames h1 hb3
 clear hA0 hval0
 refine (lawSafe_any a0 len0 cap0 B a1 len1 cap1 fb fo A L C Z W (by omega) w0 w1).mono fun e W' ⟨he, bel⟩ => ?_
 subst he
 exact ⟨_, rfl, _, _, _, [], _, [], hW', trodAll_mk1 (shut_bool Tryz.underlying4 _), (trodAll_cons_mk (Below.trod laidOut (by kernel_rfl) (of_decide_eq_true (by kernel_rfl)) k0 bel lt0) (trodAll_cons_mk (Below.trod laidOut (by kernel_rfl) (of_decide_eq_true (by kernel_rfl)) k1 bel lt1) trodAll_mk0)), rfl, bel.frame _, fun h => by cases h⟩

theorem lifted (os : Os) (started : os.Started) (H : Type) (enc : TypeId × Value → H) (F : Stop.Interp) :
  ReturnsInHanded {} Tryz.checked os 6 .any ((Rows.OpenSpec.upto Rows.safeSpec).pre6 enc Tryz.prog Tryz.f6 Rows.safeUptoRow.domain false) (((Rows.OpenSpec.upto Rows.safeSpec).at F).post enc Tryz.prog Tryz.f6 false true false false) := by
 refine returnsInHanded_of_cond (C := Tryz.checked) (s := Rows.OpenSpec.upto Rows.safeSpec) (k := Rows.uptoSmall) rfl own started (by kernel_rfl) Tryz.func6
  (OpenSpec.witness (enc := enc) (C := Tryz.checked) (s := Rows.OpenSpec.upto Rows.safeSpec) (k := Rows.uptoSmall) rfl false ⟨#[], #[.slice none 0 0, .slice none 0 0], []⟩ 8 (by kernel_rfl) (by kernel_rfl) (by kernel_rfl)
   (x := ([.nil, .nil], [], [])) (by kernel_rfl) rfl (by kernel_rfl)) ?_
 intro W base args ds gs before hval hW _ hk _
 exact contract H enc W base args ds gs before hval hW hk

theorem over : Rows.SafeUptoSaid :=
 OpenClaim.holds_of_cond 6 Tryz.f6 rfl rfl rfl rfl rfl rfl rfl ⟨rfl, rfl, rfl, rfl, rfl⟩ rfl rfl rfl rfl rfl (by kernel_rfl) Tryz.func6 (by kernel_rfl)
  (of_decide_eq_true (by kernel_rfl)) (by unfold Func.isWrapper; first | (rw [if_pos (by decide +kernel)]; kernel_rfl) | (rw [if_neg (by decide +kernel)]; exact ⟨rfl, rfl⟩))
  (fun os started H enc _ F => lifted os started H enc F)
end Go.Proofs.YtoobileejdhikaaGreat.saf
namespace Go.Proofs.YtoobileejdhikaaGreat
theorem safe_upto_holds : Rows.SafeUptoSaid := saf.over
#print axioms safe_upto_holds
end Go.Proofs.YtoobileejdhikaaGreat
