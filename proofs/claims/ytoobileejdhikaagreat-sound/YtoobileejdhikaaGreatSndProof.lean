/-
  Proved: for every code and every list of frames, of whatever lengths and capacities, sharing memory or not, the call of the statement Sound returns true and leaves its arguments as they were. No condition.
-/
import Derived.Test.YtoobileejdhikaaGreatRows
import Derived.Test.YtoobileejdhikaaGreatSnd
import Derived.WalkKit
import Derived.ProofKit
import Derived.OpenShut
import Derived.ShutString
import Derived.ChangeOld
import Derived.Below
import Derived.SizedLaws
import Derived.Deep.Matrix
namespace Go.Proofs.YtoobileejdhikaaGreat.sound
set_option maxRecDepth 100000
open Go.ChangeShapes Go.WideShapes Go.ChangeAt Go.RowKit
open Go.ChangeMaps (open_string shut_string)
open Go.Deep

theorem own : ownKnob Tryz.prog.godebug = none := by kernel_rfl
theorem laidOut : laidOutB Tryz.prog = true := by kernel_rfl
theorem bytes5 : Tryz.prog.bytesOf 5 = 1 := by kernel_rfl

theorem range_by {zs : List Int} (hw : ∀ n ∈ zs, (Lit.int .u8 n).wf = true) (i : Nat) : 0 ≤ zs.getD i 0 ∧ zs.getD i 0 ≤ 255 := by simpa using range_u8 hw i
theorem add_at {W : World} {x : Addr} {v : Nat → Value} {n : Nat} (hn : 0 < n) (h : ∀ i, i < n → W.cell? (x.add i) = some (v i)) : ∃ b o, x = ⟨b, o, none⟩ ∧ ∀ i, i < n → W.cell? ⟨b, o + i, none⟩ = some (v i) := by
 obtain ⟨b, o, spot⟩ := x
 have hc := h 0 hn
 have hspot : spot = none := by simpa [Addr.add] using World.cell?_spot hc
 subst hspot
 refine ⟨b, o, rfl, fun i hi => ?_⟩
 have h1 := h i hi
 by_cases e : i = 0 <;> simpa [Addr.add, e] using h1
theorem open_code {H : Type} {enc : TypeId × Value → H} {W : World} {a0 : Option Addr} {len0 cap0 : Nat} {d0 : DataW H} {p0 : List MemPlace} (h0 : DataW.Trod enc Tryz.prog W 0 (fun _ => true) true 22 (.slice a0 len0 cap0) d0 p0) :
  ∃ B, BytesIn W a0 len0 cap0 B ∧ (cap0 = 0 ∨ ∃ el sp, d0 = .slice el sp ∧ cap0 = el.length + sp.length) := by
 obtain ⟨fuel, hf⟩ := h0
 rcases open_ints Tryz.underlying22 Tryz.underlying5 (by kernel_rfl) hf with ⟨hcs, _⟩ | ⟨x, l, c, zs, hcs, _, hl, hm, hz, hx, hcell, hwz⟩
 ·simp [Value.cells] at hcs
  obtain ⟨rfl, rfl, rfl⟩ := hcs
  exact ⟨fun _ => 0, ⟨fun _ => ⟨rfl, rfl⟩, Nat.le_refl _, by omega, ⟨0, 0, fun h => by omega, fun i hi => by omega⟩, fun _ => by omega⟩, .inl rfl⟩
 ·simp [Value.cells] at hcs
  obtain ⟨rfl, rfl, rfl⟩ := hcs
  simp only [if_true] at hz
  simp only [Prod.mk.injEq] at hx
  unfold maxLen at hm
  refine ⟨fun i => zs.getD i 0, ⟨fun h => (by cases h), hl, hm, ?_, range_by hwz⟩, .inr ⟨_, _, hx.1, ?_⟩⟩
  ·by_cases h0 : 0 < len0
   ·obtain ⟨b, o, rfl, hb⟩ := add_at (n := len0) (v := fun i => .int .u8 (zs.getD i 0)) h0 (fun i hi => hcell i (by omega))
    exact ⟨b, o, fun _ => rfl, hb⟩
   ·exact ⟨0, 0, fun h => absurd h h0, fun i hi => by omega⟩
  ·simp [lits]; omega
theorem open_frames {H : Type} {enc : TypeId × Value → H} {W : World} {a1 : Option Addr} {len1 cap1 : Nat} {d1 : DataW H} {p1 : List MemPlace} (h1 : DataW.Trod enc Tryz.prog W 0 (fun _ => true) true 36 (.slice a1 len1 cap1) d1 p1) :
  ∃ fb fo A L C Z, FramesIn W a1 len1 fb fo A L C Z := by
 obtain ⟨fuel, hf⟩ := h1
 rcases open_int_rows Tryz.underlying36 Tryz.underlying22 Tryz.underlying5 (by kernel_rfl) (by kernel_rfl) hf with ⟨hcs, _⟩ | ⟨a, l, c, A, L, C, Z, hcs, _, hl, hm, _, hrows⟩
 ·simp [Value.cells] at hcs
  obtain ⟨rfl, rfl, rfl⟩ := hcs
  exact ⟨0, 0, fun _ => none, fun _ => 0, fun _ => 0, fun _ _ => 0, by omega, fun h => by omega, fun r hr => by omega, fun r hr => by omega⟩
 ·simp [Value.cells] at hcs
  obtain ⟨rfl, rfl, rfl⟩ := hcs
  unfold maxLen at hm
  by_cases h0 : 0 < len1
  ·obtain ⟨b, o, rfl, hb⟩ := add_at (n := len1) (v := fun r => .slice (A r) (L r) (C r)) h0 (fun r hr => (hrows r (by omega)).1)
   refine ⟨b, o, A, L, C, fun r i => (Z r).getD i 0, by omega, fun _ => rfl, hb, fun r hr => ?_⟩
   obtain ⟨_, e1, e2, e3, e4, e5, e6⟩ := hrows r (by omega)
   unfold maxLen at e2
   refine ⟨fun h => by have := e5 h; omega, e1, e2, ?_, range_by e4⟩
   by_cases hp : 0 < L r
   ·cases hA : A r with
    | none => have := e5 hA; omega
    | some x =>
     obtain ⟨_, e7⟩ := e6 x hA
     obtain ⟨b', o', rfl, hb'⟩ := add_at (n := L r) (v := fun i => .int .u8 ((Z r).getD i 0)) hp (fun i hi => e7 i (by omega))
     exact ⟨b', o', fun _ => rfl, hb'⟩
   ·exact ⟨0, 0, fun h => absurd h hp, fun i hi => by omega⟩
  ·exact ⟨0, 0, A, L, C, fun _ _ => 0, by omega, fun h => absurd h h0, fun r hr => by omega, fun r hr => by omega⟩

theorem lifted (os : Os) (started : os.Started) (H : Type) (enc : TypeId × Value → H) :
  ReturnsInHanded {} Tryz.checked os 5 .any (Rows.soundSpec.pre6 enc Tryz.prog Tryz.f5 Rows.soundRow.domain false) (Rows.soundSpec.post enc Tryz.prog Tryz.f5 false true false false) := by
 refine returnsInHanded_of_change_sized (C := Tryz.checked) own started (by kernel_rfl) Tryz.func5
  (ChangeSpec.witness6 (enc := enc) (C := Tryz.checked) false ⟨#[], #[.slice none 0 0, .slice none 0 0], []⟩ 8 (by kernel_rfl) (by kernel_rfl) (by kernel_rfl) (by kernel_rfl)) ?_
 intro W base args ds gs before hval0 hW hcnd hsz0 _
 have hval : ∀ (j : Nat) t v, Tryz.f5.params[j]? = some t → args[j]? = some v → Value.okWide Tryz.prog W .any base t v := hval0
 have hsz : (DataW.weightsEach Tryz.prog (Tryz.f5.params.toList ++ Rows.soundSpec.plain.varTypes Tryz.prog) (ds ++ gs)).all (· ≤ reachBytes) = true := hsz0
 clear hsz0
 have hW' := hW
 obtain ⟨p, q, hA0, hV, rfl, hfz, hnd⟩ := hW
 have hA : DataW.TrodAll enc Tryz.prog W 0 (fun _ => true) true Tryz.f5.params.toList args.toList ds p := hA0
 rw [Tryz.params5] at hA hval hsz
 obtain ⟨v0, vs0, d0, ds0, p0, q0, hargs, rfl, rfl, h0, r0⟩ := trodAll_cons hA
 obtain ⟨v1, vs1, d1, ds1, p1, q1, hargs1, rfl, rfl, h1, r1⟩ := trodAll_cons r0
 obtain ⟨rfl, rfl, rfl⟩ := trodAll_nil r1
 subst hargs1
 obtain rfl : args = #[v0, v1] := by cases args; simp_all
 obtain ⟨rfl, rfl⟩ := trodVars_none hV
 obtain ⟨a0, len0, cap0, rfl⟩ := okWide_slice Tryz.underlying22 (hval 0 22 v0 rfl rfl)
 obtain ⟨a1, len1, cap1, rfl⟩ := okWide_slice Tryz.underlying36 (hval 1 36 v1 rfl rfl)
 have k0 := h0
 have k1 := h1
 have lt0 : ∀ x ∈ p0, x.block < W.heap.size := by obtain ⟨m, hm⟩ := k0; exact DataW.trod_lt m _ _ _ hm
 have lt1 : ∀ x ∈ p1, x.block < W.heap.size := by obtain ⟨m, hm⟩ := k1; exact DataW.trod_lt m _ _ _ hm
 obtain ⟨B, w0, hd0⟩ := open_code h0
 have hm0 : len0 ≤ 140737488355328 := by
  have hle := w0.le
  rcases hd0 with h | ⟨el, sp, rfl, hc⟩
  ·omega
  ·have hreach := sized_slice hsz (j := 0) (t := 22) (e := 5) rfl rfl Tryz.underlying22
   rw [bytes5] at hreach
   unfold reachBytes at hreach
   omega
 obtain ⟨fb, fo, A, L, C, Z, w1⟩ := open_frames h1
 clear hA0 hval0
 refine (sound_any a0 len0 cap0 B a1 len1 cap1 fb fo A L C Z W hm0 w0 w1).mono fun e W' ⟨he, bel⟩ => ?_
 subst he
 exact ⟨_, rfl, _, _, _, [], _, [], hW', trodAll_mk1 (shut_bool Tryz.underlying4 _), (trodAll_cons_mk (Below.trod laidOut (by kernel_rfl) (of_decide_eq_true (by kernel_rfl)) k0 bel lt0) (trodAll_cons_mk (Below.trod laidOut (by kernel_rfl) (of_decide_eq_true (by kernel_rfl)) k1 bel lt1) trodAll_mk0)), rfl, bel.frame _, fun h => by cases h⟩

theorem over : Rows.soundRow.holds Tryz.pinned (OpenSpec.ofChange Rows.soundSpec) :=
 OpenClaim.holds_of_wide 5 Tryz.f5 rfl rfl rfl rfl rfl rfl rfl ⟨rfl, rfl, rfl, rfl, rfl⟩ rfl rfl rfl rfl rfl (by kernel_rfl) Tryz.func5 (by kernel_rfl)
  (of_decide_eq_true (by kernel_rfl)) (by unfold Func.isWrapper; first | (rw [if_pos (by decide +kernel)]; kernel_rfl) | (rw [if_neg (by decide +kernel)]; exact ⟨rfl, rfl⟩))
  (fun os started H enc _ => lifted os started H enc)

end Go.Proofs.YtoobileejdhikaaGreat.sound
namespace Go.Proofs.YtoobileejdhikaaGreat
theorem sound_holds : Rows.SoundSaid := sound.over
#print axioms sound_holds
end Go.Proofs.YtoobileejdhikaaGreat
