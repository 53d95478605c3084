/-
  The document's answer, Shape: the error of code's shape, and its place.
  The document's Shape, with the list that it gives.
-/
import Derived.Test.YtoobileejdhikaaGreatGc0
import Derived.Test.YtoobileejdhikaaGreatGc2
namespace Go.Proofs.YtoobileejdhikaaGreat
set_option maxRecDepth 100000
set_option maxHeartbeats 1000000
open Go.RowKit

theorem hide {p : Prop} (h : p) : Hid p := h
theorem Tryz.info50 : (Tryz.prog.info? 74).map (fun i => (i.zero, i.size, i.bytes)) = some (some (.agg #[.int .i64 0, .bool false, .int .i64 0, .int .i64 0, .int .i64 0, .int .i64 0]), 6, 48) := by kernel_rfl

def rowAt (B : Nat → Int) (i : Nat) : Bool := rowB (B (8 * i) % 128) (decide (128 ≤ B (8 * i))) (B (8 * i + 1) % 16) (B (8 * i + 1) / 16) (oOf B i) (nOf B i)
def goesAt (B : Nat → Int) (n i : Nat) : Bool := withinB (B (8 * i) % 128) 30 36 && decide ((n : Int) ≤ i + 1 + oOf B i)
def lastAt (B : Nat → Int) (n i : Nat) : Bool := ((i : Int) == (n : Int) - 1) && (B (8 * i) % 128 != 41)
def bad (B : Nat → Int) (n i : Nat) : Bool := !rowAt B i || goesAt B n i || lastAt B n i

def Out (B : Nat → Int) (n : Nat) (er at1 : Int) : Prop := (∃ i, i < n ∧ bad B n i = true ∧ (∀ j, j < i → bad B n j = false) ∧ er = 2 ∧ at1 = (i : Int)) ∨ ((∀ j, j < n → bad B n j = false) ∧ er = 0 ∧ at1 = 0)

theorem sgn_bd (h n : Int) (h0 : 0 ≤ n) (h1 : n < 2 * h) : -h ≤ sgn h n ∧ sgn h n < h := by
  unfold sgn; split <;> omega
theorem oOf_bd (B : Nat → Int) (hB : ∀ i, 0 ≤ B i ∧ B i ≤ 255) (i : Nat) : -32768 ≤ oOf B i ∧ oOf B i ≤ 32767 := by
  have h1 := hB (8 * i + 2); have h2 := hB (8 * i + 3)
  have h3 : p2 15 = 32768 := by decide
  have := sgn_bd 32768 (B (8 * i + 2) + 256 * B (8 * i + 3)) (by omega) (by omega)
  unfold oOf rOff; rw [h3]; omega
theorem good_next {B : Nat → Int} {n m : Nat} (h : ∀ j, j < m → bad B n j = false) (hm : bad B n m = false) : ∀ j, j < m + 1 → bad B n j = false := fun j hj => by
  by_cases e : j = m
  · subst e; exact hm
  · exact h j (by omega)

theorem row_any (op : Int) (imm : Bool) (d s o n : Int) (w : World) :
    Calls Tryz.prog 39 #[.agg #[.int .i64 op, .bool imm, .int .i64 d, .int .i64 s, .int .i64 o, .int .i64 n]] w fun e w' => e = .returned (.bool (rowB op imm d s o n)) ∧ w' = w.alloc (.cells #[.int .i64 op, .bool imm, .int .i64 d, .int .i64 s, .int .i64 o, .int .i64 n] 74) := by
  cases imm
  · exact row_false op d s o n w
  · exact row_true op d s o n w

theorem refShape_any (B : Nat → Int) (b off len cap n : Nat) (w : World) (hl : len = 8 * n) (hn1 : 1 ≤ n) (hn2 : n ≤ 64) (hcap : len ≤ cap) (_hm : cap ≤ 9223372036854775807)
    (hc : ∀ i, i < len → w.cell? ⟨b, off + i, none⟩ = some (.int .u8 (B i))) (hB : ∀ i, 0 ≤ B i ∧ B i ≤ 255) :
    Calls Tryz.prog 16 #[.slice (some ⟨b, off, none⟩) len cap] w fun e w' => ∃ (v : Value) (er at1 : Int), e = .returned (.tuple #[v, .int .i64 er, .int .i64 at1]) ∧ Out B n er at1 ∧ Below w.heap.size w w' := by
  obtain ⟨i0, hi, hz0, hz1, hz2⟩ := info_parts Tryz.info50
  have HL : Hid (len = 8 * n) := hl
  have hbl : b < w.heap.size := lt_of_cell (by simpa using hc 0 (by omega))
  have q1 : (len : Int) / 8 = (n : Int) := by omega
  have q2 : ((n : Int) < 1) = False := by simp; omega
  have q3 : ((64 : Int) < n) = False := by simp; omega
  have q4 : ((len : Int) != 8 * n) = false := by simp; omega
  have q5 : (len : Int) ≤ 512 := by omega
  have q6 : (8 * (n : Int)) ≤ 512 := by omega
  clear hl
  go_enter Tryz.func16, Tryz.ntmps16
  go_wp2
  go_loopw [6, 7] (fun v i wr => ∃ k : Nat, k ≤ n ∧ i = .int .i64 k ∧ wr.ownsRow w.heap.size 74 6 v k (refL B k) ∧ Below w.heap.size w wr) (fun _ i _ => n - (intOf i).toNat)
  case atStart => exact ⟨0, Nat.zero_le _, rfl, World.ownsRow_nil _ _ _ _, Below.refl _ _⟩
  case round =>
    obtain ⟨k, hk, rfl, hown, hbw⟩ := hrel
    by_cases hlt : k < n
    · have hcr : ∀ j, j < 8 → wr.cell? ⟨b, off + 8 * k + j, none⟩ = some (.int .u8 (B (8 * k + j))) := fun j hj => by rw [hbw.cell (by exact hbl), Nat.add_assoc]; exact hc _ (by have := HL.out; omega)
      have R := read_any b (off + 8 * k) (cap - 8 * k) (B (8 * k)) (B (8 * k + 1)) (B (8 * k + 2)) (B (8 * k + 3)) (B (8 * k + 4)) (B (8 * k + 5)) (B (8 * k + 6)) (B (8 * k + 7)) wr (by have := HL.out; omega)
        (hcr 0 (by omega)) (hcr 1 (by omega)) (hcr 2 (by omega)) (hcr 3 (by omega)) (hcr 4 (by omega)) (hcr 5 (by omega)) (hcr 6 (by omega)) (hcr 7 (by omega))
        (hB _).1 (hB _).2 (hB _).1 (hB _).2 (hB _).1 (hB _).2 (hB _).1 (hB _).2 (hB _).1 (hB _).2 (hB _).1 (hB _).2 (hB _).1 (hB _).2 (hB _).1 (hB _).2
      clear hcr
      have HR := hide R
      clear R
      go_wp2_with fail
      refine HR.out.mono ?_
      rintro e w1 ⟨rfl, hb1⟩
      unfold refC
      have hown1 := ownsRow_below hown hb1
      go_wp2_with (at_builtin; refine wpList_append_lies _ rfl _ _ 29 rfl w.heap.size 74 i0 _ 6 48 Tryz.underlying29 hi hz0 hz1 hz2 rfl (by omega) _ k (refL B k) rfl (hown1.alloc _) ⟨w1.heap.size, 0, none⟩ 1 1 (refAt B k).toList rfl rfl ?c1 ?c2 (by omega) ?c3 ?c4 ?c5 (w1.heap.size + 1) (by simp) ?_)
      case c1 => exact World.news_of_block (heap_alloc_new w1 _)
      case c2 => intro u hu; simp [refAt, refC] at hu; rcases hu with rfl | rfl | rfl | rfl | rfl | rfl <;> rfl
      case c3 => unfold maxLen; omega
      case c4 => omega
      case c5 => have := hbw.size; have := hb1.size; simp; omega
      intro g cap' w2 hown2 hgrow hat hlt2
      have hbw2 := round_app hown hbw hb1 hgrow
      clear hown1 hgrow hat hlt2 hb1 hown hbw
      go_wp2
      go_roundw
      case rel => exact ⟨k + 1, by omega, by go_num, hown2, hbw2⟩
      case measure => simp [intOf]; omega
    · have hkn : k = n := by omega
      subst hkn
      obtain ⟨g, cp, rfl, hg1, hg2⟩ := hown.form (by omega)
      have hcell : ∀ i j, i < k → j < 6 → wr.cell? ⟨g, i * 6 + j, none⟩ = (refAt B i)[j]? := fun i j h1 h2 => by
        rw [hown.cellAt (i * 6 + j) (by omega), Nat.mul_comm i 6]; exact refL_at B k i j h1 h2
      have hcpk : k ≤ cp := by
        obtain ⟨_, h | ⟨g', cap', cur, h1, h2, h3, h4, h5⟩⟩ := hown
        · simp at h
        · simp at h1; omega
      clear hown
      go_wp2
      go_loopw [8] (fun i w3 => ∃ m : Nat, m ≤ k ∧ i = .int .i64 m ∧ (∀ j, j < m → bad B k j = false) ∧ (∀ i j, i < k → j < 6 → w3.cell? ⟨g, i * 6 + j, none⟩ = (refAt B i)[j]?) ∧ Below w.heap.size w w3 ∧ g < w3.heap.size) (fun i _ => k - (intOf i).toNat)
      case atStart => exact ⟨0, Nat.zero_le _, rfl, fun j h => by omega, hcell, hbw, hg2⟩
      case round =>
        clear hcell hbw hg2
        obtain ⟨m, hm2, rfl, hgood, hcell, hbw, hg2⟩ := hrel
        by_cases hlt2 : m < k
        · have f0 : wr.cell? ⟨g, m * 6, none⟩ = some (.int .i64 (B (8 * m) % 128)) := hcell m 0 hlt2 (by omega)
          have f1 : wr.cell? ⟨g, m * 6 + 1, none⟩ = some (.bool (decide (128 ≤ B (8 * m)))) := hcell m 1 hlt2 (by omega)
          have f2 : wr.cell? ⟨g, m * 6 + 2, none⟩ = some (.int .i64 (B (8 * m + 1) % 16)) := hcell m 2 hlt2 (by omega)
          have f3 : wr.cell? ⟨g, m * 6 + 3, none⟩ = some (.int .i64 (B (8 * m + 1) / 16)) := hcell m 3 hlt2 (by omega)
          have f4 : wr.cell? ⟨g, m * 6 + 4, none⟩ = some (.int .i64 (oOf B m)) := hcell m 4 hlt2 (by omega)
          have f5 : wr.cell? ⟨g, m * 6 + 5, none⟩ = some (.int .i64 (nOf B m)) := hcell m 5 hlt2 (by omega)
          have HC := hide hcell
          have HG := hide hgood
          clear hcell hgood
          obtain ⟨o1, o2⟩ := oOf_bd B hB m
          cases hL : ((m : Int) == (k : Int) - 1)
          all_goals
            go_wp2_with (first | (go_at_call 39; refine (row_any _ _ _ _ _ _ _).mono ?_; rintro e w' ⟨rfl, rfl⟩) | (go_at_call 40; refine (within_any _ _ _ _).mono ?_; rintro e w' ⟨rfl, rfl⟩))
            all_goals first
              | (go_ret3
                 refine ⟨_, 2, m, rfl, .inl ⟨m, hlt2, ?_, HG.out, rfl, rfl⟩, hbw.alloc hbw.size _⟩
                 simp_all [bad, rowAt, goesAt, lastAt]
                 done)
              | (go_roundw
                 case rel => 
                  refine ⟨m + 1, by omega, by go_num, good_next HG.out ?_, fun i j h1 h2 => by rw [World.cell?_alloc_past _ _ _ hg2]; exact HC.out i j h1 h2, hbw.alloc hbw.size _, by simp; omega⟩
                  simp_all [bad, rowAt, goesAt, lastAt]
                  done
                 case measure => simp [intOf]; omega)
        · have hmk : m = k := by omega
          subst hmk
          go_wp2
          go_ret3
          exact ⟨_, 0, 0, rfl, .inr ⟨hgood, rfl, rfl⟩, hbw⟩

theorem refShape_len (a : Option Addr) (len cap : Nat) (w : World) (hm : len ≤ 9223372036854775807) (h : len = 0 ∨ ¬ len % 8 = 0 ∨ 64 < len / 8) :
    Calls Tryz.prog 16 #[.slice a len cap] w fun e w' => e = .returned (.tuple #[.slice none 0 0, .int .i64 1, .int .i64 0]) ∧ w' = w := by
  by_cases h1 : (len : Int) / 8 < 1
  · go_enter Tryz.func16, Tryz.ntmps16
    go_wp2
    go_ret3
    exact ⟨rfl, rfl⟩
  · by_cases h2 : (64 : Int) < (len : Int) / 8
    · go_enter Tryz.func16, Tryz.ntmps16
      go_wp2
      go_ret3
      exact ⟨rfl, rfl⟩
    · have h3 : ((len : Int) != 8 * ((len : Int) / 8)) = true := by simp; omega
      go_enter Tryz.func16, Tryz.ntmps16
      go_wp2
      go_ret3
      exact ⟨rfl, rfl⟩
end Go.Proofs.YtoobileejdhikaaGreat


namespace Go.Proofs.YtoobileejdhikaaGreat
set_option maxRecDepth 100000
set_option maxHeartbeats 1000000
open Go.RowKit

theorem refShape_list (B : Nat → Int) (b off len cap n : Nat) (w : World) (hl : len = 8 * n) (hn1 : 1 ≤ n) (hn2 : n ≤ 64) (hcap : len ≤ cap) (_hm : cap ≤ 9223372036854775807)
    (hc : ∀ i, i < len → w.cell? ⟨b, off + i, none⟩ = some (.int .u8 (B i))) (hB : ∀ i, 0 ≤ B i ∧ B i ≤ 255) :
    Calls Tryz.prog 16 #[.slice (some ⟨b, off, none⟩) len cap] w fun e w' => ∃ (v : Value) (er at1 : Int), e = .returned (.tuple #[v, .int .i64 er, .int .i64 at1]) ∧ Out B n er at1 ∧ (er = 0 → ∃ g cp, v = .slice (some ⟨g, 0, none⟩) n cp ∧ n ≤ cp ∧ w.heap.size ≤ g ∧ g < w'.heap.size ∧ ∀ i j, i < n → j < 6 → w'.cell? ⟨g, i * 6 + j, none⟩ = (refAt B i)[j]?) ∧ Below w.heap.size w w' := by
  obtain ⟨i0, hi, hz0, hz1, hz2⟩ := info_parts Tryz.info50
  have HL : Hid (len = 8 * n) := hl
  have hbl : b < w.heap.size := lt_of_cell (by simpa using hc 0 (by omega))
  have q1 : (len : Int) / 8 = (n : Int) := by omega
  have q2 : ((n : Int) < 1) = False := by simp; omega
  have q3 : ((64 : Int) < n) = False := by simp; omega
  have q4 : ((len : Int) != 8 * n) = false := by simp; omega
  have q5 : (len : Int) ≤ 512 := by omega
  have q6 : (8 * (n : Int)) ≤ 512 := by omega
  clear hl
  go_enter Tryz.func16, Tryz.ntmps16
  go_wp2
  go_loopw [6, 7] (fun v i wr => ∃ k : Nat, k ≤ n ∧ i = .int .i64 k ∧ wr.ownsRow w.heap.size 74 6 v k (refL B k) ∧ Below w.heap.size w wr) (fun _ i _ => n - (intOf i).toNat)
  case atStart => exact ⟨0, Nat.zero_le _, rfl, World.ownsRow_nil _ _ _ _, Below.refl _ _⟩
  case round =>
    obtain ⟨k, hk, rfl, hown, hbw⟩ := hrel
    by_cases hlt : k < n
    · have hcr : ∀ j, j < 8 → wr.cell? ⟨b, off + 8 * k + j, none⟩ = some (.int .u8 (B (8 * k + j))) := fun j hj => by rw [hbw.cell (by exact hbl), Nat.add_assoc]; exact hc _ (by have := HL.out; omega)
      have R := read_any b (off + 8 * k) (cap - 8 * k) (B (8 * k)) (B (8 * k + 1)) (B (8 * k + 2)) (B (8 * k + 3)) (B (8 * k + 4)) (B (8 * k + 5)) (B (8 * k + 6)) (B (8 * k + 7)) wr (by have := HL.out; omega)
        (hcr 0 (by omega)) (hcr 1 (by omega)) (hcr 2 (by omega)) (hcr 3 (by omega)) (hcr 4 (by omega)) (hcr 5 (by omega)) (hcr 6 (by omega)) (hcr 7 (by omega))
        (hB _).1 (hB _).2 (hB _).1 (hB _).2 (hB _).1 (hB _).2 (hB _).1 (hB _).2 (hB _).1 (hB _).2 (hB _).1 (hB _).2 (hB _).1 (hB _).2 (hB _).1 (hB _).2
      clear hcr
      have HR := hide R
      clear R
      go_wp2_with fail
      refine HR.out.mono ?_
      rintro e w1 ⟨rfl, hb1⟩
      unfold refC
      have hown1 := ownsRow_below hown hb1
      go_wp2_with (at_builtin; refine wpList_append_lies _ rfl _ _ 29 rfl w.heap.size 74 i0 _ 6 48 Tryz.underlying29 hi hz0 hz1 hz2 rfl (by omega) _ k (refL B k) rfl (hown1.alloc _) ⟨w1.heap.size, 0, none⟩ 1 1 (refAt B k).toList rfl rfl ?c1 ?c2 (by omega) ?c3 ?c4 ?c5 (w1.heap.size + 1) (by simp) ?_)
      case c1 => exact World.news_of_block (heap_alloc_new w1 _)
      case c2 => intro u hu; simp [refAt, refC] at hu; rcases hu with rfl | rfl | rfl | rfl | rfl | rfl <;> rfl
      case c3 => unfold maxLen; omega
      case c4 => omega
      case c5 => have := hbw.size; have := hb1.size; simp; omega
      intro g cap' w2 hown2 hgrow hat hlt2
      have hbw2 := round_app hown hbw hb1 hgrow
      clear hown1 hgrow hat hlt2 hb1 hown hbw
      go_wp2
      go_roundw
      case rel => exact ⟨k + 1, by omega, by go_num, hown2, hbw2⟩
      case measure => simp [intOf]; omega
    · have hkn : k = n := by omega
      subst hkn
      obtain ⟨g, cp, rfl, hg1, hg2⟩ := hown.form (by omega)
      have hcell : ∀ i j, i < k → j < 6 → wr.cell? ⟨g, i * 6 + j, none⟩ = (refAt B i)[j]? := fun i j h1 h2 => by
        rw [hown.cellAt (i * 6 + j) (by omega), Nat.mul_comm i 6]; exact refL_at B k i j h1 h2
      have hcpk : k ≤ cp := by
        obtain ⟨_, h | ⟨g', cap', cur, h1, h2, h3, h4, h5⟩⟩ := hown
        · simp at h
        · simp at h1; omega
      clear hown
      go_wp2
      go_loopw [8] (fun i w3 => ∃ m : Nat, m ≤ k ∧ i = .int .i64 m ∧ (∀ j, j < m → bad B k j = false) ∧ (∀ i j, i < k → j < 6 → w3.cell? ⟨g, i * 6 + j, none⟩ = (refAt B i)[j]?) ∧ Below w.heap.size w w3 ∧ g < w3.heap.size) (fun i _ => k - (intOf i).toNat)
      case atStart => exact ⟨0, Nat.zero_le _, rfl, fun j h => by omega, hcell, hbw, hg2⟩
      case round =>
        clear hcell hbw hg2
        obtain ⟨m, hm2, rfl, hgood, hcell, hbw, hg2⟩ := hrel
        by_cases hlt2 : m < k
        · have f0 : wr.cell? ⟨g, m * 6, none⟩ = some (.int .i64 (B (8 * m) % 128)) := hcell m 0 hlt2 (by omega)
          have f1 : wr.cell? ⟨g, m * 6 + 1, none⟩ = some (.bool (decide (128 ≤ B (8 * m)))) := hcell m 1 hlt2 (by omega)
          have f2 : wr.cell? ⟨g, m * 6 + 2, none⟩ = some (.int .i64 (B (8 * m + 1) % 16)) := hcell m 2 hlt2 (by omega)
          have f3 : wr.cell? ⟨g, m * 6 + 3, none⟩ = some (.int .i64 (B (8 * m + 1) / 16)) := hcell m 3 hlt2 (by omega)
          have f4 : wr.cell? ⟨g, m * 6 + 4, none⟩ = some (.int .i64 (oOf B m)) := hcell m 4 hlt2 (by omega)
          have f5 : wr.cell? ⟨g, m * 6 + 5, none⟩ = some (.int .i64 (nOf B m)) := hcell m 5 hlt2 (by omega)
          have HC := hide hcell
          have HG := hide hgood
          clear hcell hgood
          obtain ⟨o1, o2⟩ := oOf_bd B hB m
          cases hL : ((m : Int) == (k : Int) - 1)
          all_goals
            go_wp2_with (first | (go_at_call 39; refine (row_any _ _ _ _ _ _ _).mono ?_; rintro e w' ⟨rfl, rfl⟩) | (go_at_call 40; refine (within_any _ _ _ _).mono ?_; rintro e w' ⟨rfl, rfl⟩))
            all_goals first
              | (go_ret3
                 refine ⟨_, 2, m, rfl, .inl ⟨m, hlt2, ?_, HG.out, rfl, rfl⟩, (fun e => absurd e (by decide)), hbw.alloc hbw.size _⟩
                 simp_all [bad, rowAt, goesAt, lastAt]
                 done)
              | (go_roundw
                 case rel => 
                  refine ⟨m + 1, by omega, by go_num, good_next HG.out ?_, fun i j h1 h2 => by rw [World.cell?_alloc_past _ _ _ hg2]; exact HC.out i j h1 h2, hbw.alloc hbw.size _, by simp; omega⟩
                  simp_all [bad, rowAt, goesAt, lastAt]
                  done
                 case measure => simp [intOf]; omega)
        · have hmk : m = k := by omega
          subst hmk
          go_wp2
          go_ret3
          exact ⟨_, 0, 0, rfl, .inr ⟨hgood, rfl, rfl⟩, (fun _ => ⟨g, cp, rfl, hcpk, hg1, hg2, hcell⟩), hbw⟩
end Go.Proofs.YtoobileejdhikaaGreat
