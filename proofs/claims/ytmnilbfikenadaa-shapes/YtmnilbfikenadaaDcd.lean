/-
  The program's Decode: code taken apart.
-/
import Derived.Test.YtmnilbfikenadaaOwn
namespace Go.Proofs.Ytmnilbfikenadaa
open Go.RowKit

theorem hide' {p : Prop} (h : p) : Hid p := h
theorem Try.info82 : (Try.prog.info? 82).map (fun i => (i.zero, i.size, i.bytes)) = some (some (.agg #[.int .u8 0, .int .u8 0, .int .u8 0, .int .i16 0, .int .i32 0]), 5, 12) := by kernel_rfl

set_option maxRecDepth 100000 in
set_option maxHeartbeats 1000000 in
theorem decode_any (B : Nat → Int) (b off len cap n : Nat) (w : World) (hl : len = 8 * n) (hn1 : 1 ≤ n) (hn2 : n ≤ 64) (hcap : len ≤ cap) (_hm : cap ≤ 9223372036854775807)
    (hc : ∀ i, i < len → w.cell? ⟨b, off + i, none⟩ = some (.int .u8 (B i))) (hB : ∀ i, 0 ≤ B i ∧ B i ≤ 255) :
    Calls Try.prog 30 #[.slice (some ⟨b, off, none⟩) len cap] w fun e w' => ∃ v, e = .returned v ∧ w'.ownsRow w.heap.size 82 5 v n (insL B n) ∧ Below w.heap.size w w' := by
  obtain ⟨i0, hi, hz0, hz1, hz2⟩ := info_parts Try.info82
  have HL : Hid (len = 8 * n) := hl
  have hbl : b < w.heap.size := lt_of_cell (by simpa using hc 0 (by omega))
  have q1 : (len : Int) / 8 = (n : Int) := by omega
  have q5 : (len : Int) ≤ 512 := by omega
  clear hl
  go_enter Try.func30, Try.ntmps30
  go_wp2_with (refine wpList_make_own _ rfl _ _ 78 rfl w.heap.size 82 i0 _ 5 Try.underlying78 hi hz0 hz1 .i64 .i64 _ n rfl rfl rfl (by rw [hz2]; omega) (by unfold maxLen; omega) (Nat.le_refl _) ?_; intro w1 hown1 hg1)
  go_loopw [0, 3] (fun cd v wr => ∃ k : Nat, k ≤ n ∧ (∃ a c, cd = .slice a (len - 8 * k) c ∧ (k < n → a = some ⟨b, off + 8 * k, none⟩ ∧ c = cap - 8 * k)) ∧ wr.ownsRow w.heap.size 82 5 v k (insL B k) ∧ Below w.heap.size w wr)
    (fun cd _ _ => match cd with | .slice _ l _ => l | _ => 0)
  case atStart => exact ⟨0, Nat.zero_le _, ⟨_, _, rfl, fun _ => ⟨rfl, rfl⟩⟩, hown1, (Below.refl _ _).grown hg1 (Nat.le_refl _) (fun k hk => by simp at hk)⟩
  case round =>
    obtain ⟨k, hk, ⟨a, c, rfl, hac⟩, hown, hbw⟩ := hrel
    clear hown1 hg1
    by_cases hlt : k < n
    · obtain ⟨rfl, rfl⟩ := hac hlt
      have q7 : (8 : Int) ≤ ((len - 8 * k : Nat) : Int) := by have := HL.out; omega
      have har : ∀ wx, Sem.run Try.prog (Instr.arrayAt 104 (.slice (some ⟨b, off + 8 * k, none⟩) (len - 8 * k) (cap - 8 * k))) wx = .ok (.pointer (some ⟨b, off + 8 * k, none⟩)) wx := fun wx => run_arrayAt wx 104 5 8 _ _ _ Try.underlying104 (by omega)
      have hcr : ∀ j, j < 8 → wr.cell? ⟨b, off + 8 * k + j, none⟩ = some (.int .u8 (B (8 * k + j))) := fun j hj => by rw [hbw.cell (by exact hbl), Nat.add_assoc]; exact hc _ (by have := HL.out; omega)
      have d0 : wr.cell? ⟨b, off + 8 * k, none⟩ = some (.int .u8 (B (8 * k))) := hcr 0 (by omega)
      have d1 := hcr 1 (by omega)
      have d2 := hcr 2 (by omega)
      have d3 := hcr 3 (by omega)
      have d4 := hcr 4 (by omega)
      have d5 := hcr 5 (by omega)
      have d6 := hcr 6 (by omega)
      have d7 := hcr 7 (by omega)
      have q8 : (8 : Int) ≤ ((cap - 8 * k : Nat) : Int) := by have := HL.out; omega
      clear hcr hac
      go_wp2_with fail
      refine (decodeOne_any _ _ _ _ _ _ _ _ _ (hB _).1 (hB _).2 (hB _).1 (hB _).2 (hB _).1 (hB _).2 (hB _).1 (hB _).2 (hB _).1 (hB _).2 (hB _).1 (hB _).2 (hB _).1 (hB _).2 (hB _).1 (hB _).2).mono ?_
      rintro e w1 ⟨rfl, hb1⟩
      unfold insV
      have hown1 := ownsRow_below hown hb1
      clear d0 d1 d2 d3 d4 d5 d6 d7 har
      go_wp2_with (at_builtin; refine wpList_append_lies _ rfl _ _ 78 rfl w.heap.size 82 i0 _ 5 12 Try.underlying78 hi hz0 hz1 hz2 rfl (by omega) _ k (insL B k) rfl (hown1.alloc _) ⟨w1.heap.size, 0, none⟩ 1 1 (insAt B k).toList rfl rfl ?c1 ?c2 (by omega) ?c3 ?c4 ?c5 (w1.heap.size + 1) (by simp) ?_)
      case c1 => exact World.news_of_block (heap_alloc_new w1 _)
      case c2 => intro u hu; simp [insAt] at hu; rcases hu with rfl | rfl | rfl | rfl | rfl <;> rfl
      case c3 => unfold maxLen; omega
      case c4 => omega
      case c5 => have := hbw.size; have := hb1.size; simp; omega
      intro g cap' w2 hown2 hgrow hat hlt2
      have hbw2 := round_app hown hbw hb1 hgrow
      clear hown1 hgrow hat hlt2 hb1 hown hbw
      go_wp2
      refine ⟨⟨k + 1, by omega, ⟨_, _, by rw [show len - 8 * (k + 1) = len - 8 * k - 8 from by omega], fun h => ?_⟩, hown2, hbw2⟩, by show len - 8 * k - 8 < len - 8 * k; omega⟩
      have := HL.out
      rw [if_neg (by omega), show off + 8 * (k + 1) = off + 8 * k + 8 from by omega]
      exact ⟨rfl, by omega⟩
    · have hkn : k = n := by omega
      subst hkn
      have q9 : ((len - 8 * k : Nat) : Int) < 8 := by have := HL.out; omega
      go_wp2
      go_ret
      exact ⟨_, rfl, hown, hbw⟩
end Go.Proofs.Ytmnilbfikenadaa
