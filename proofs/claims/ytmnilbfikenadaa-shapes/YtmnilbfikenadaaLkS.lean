/-
  The program's look at the shape of code: it returns where the code is right, and else gives up at the first instruction that is wrong.
-/
import Derived.Test.YtmnilbfikenadaaLen
import Derived.Test.YtmnilbfikenadaaDcd
import Derived.Deep.RegionHeld3
import Derived.RegionDies
import Derived.Deep.DrawnRows
namespace Go.Proofs.Ytmnilbfikenadaa
open Go.RowKit
attribute [local go_sem ↓] Go.wp_at_zero Go.wp_at_succ

/-- Does the program find the instruction i of n wrong? -/
def badP (B : Nat → Int) (n i : Nat) : Bool :=
  !(fitV (opF (B (8 * i)).toNat) (B (8 * i + 1) % 16) (B (8 * i + 1) / 16) (oOf B i) (nOf B i) ((n : Int) - 1 - i) && !lastB (B (8 * i)) ((n : Int) - 1 - i))
def LkEnd (B : Nat → Int) (n : Nat) (e : Ending) : Prop :=
  ((∀ j, j < n → badP B n j = false) ∧ e = .returned (.tuple #[])) ∨ (∃ i, i < n ∧ badP B n i = true ∧ (∀ j, j < i → badP B n j = false) ∧ e = .panicked (thrown 2 i))

theorem good_next' {B : Nat → Int} {n m : Nat} (h : ∀ j, j < m → badP B n j = false) (hm : badP B n m = false) : ∀ j, j < m + 1 → badP B n j = false := fun j hj => by
  by_cases e : j = m
  · subst e; exact hm
  · exact h j (by omega)
theorem rOff_bd (a b : Int) (h0 : 0 ≤ a) (h1 : a ≤ 255) (h2 : 0 ≤ b) (h3 : b ≤ 255) : -32768 ≤ rOff a b ∧ rOff a b ≤ 32767 := by
  have h3 : p2 15 = 32768 := by decide
  unfold rOff sgn; rw [h3]; split <;> omega

set_option maxRecDepth 100000 in
set_option maxHeartbeats 1000000 in
theorem lookShape_any (B : Nat → Int) (b off len cap n : Nat) (w : World) (hl : len = 8 * n) (hn1 : 1 ≤ n) (hn2 : n ≤ 64) (hcap : len ≤ cap) (hm : cap ≤ 9223372036854775807)
    (hc : ∀ i, i < len → w.cell? ⟨b, off + i, none⟩ = some (.int .u8 (B i))) (hB : ∀ i, 0 ≤ B i ∧ B i ≤ 255) :
    Calls Try.prog 12 #[.slice (some ⟨b, off, none⟩) len cap] w fun e w' => LkEnd B n e ∧ Below w.heap.size w w' := by
  have hz := zero76
  have HL : Hid (len = 8 * n) := hl
  have hbl : b < w.heap.size := lt_of_cell (by simpa using hc 0 (by omega))
  clear hl
  have HC := hide' hc
  clear hc
  go_enter Try.func12, Try.ntmps12
  go_wp2_with fail
  refine (length_ok _ _ _ n _ HL.out hn1 hn2).mono ?_
  rintro e w' ⟨rfl, hw⟩
  obtain rfl : w = w' := hw.symm
  go_wp2_with fail
  refine (table_any _).mono ?_
  rintro e w1 ⟨rfl, hb1⟩
  go_wp2_with (refine wpList_store_row rfl 76 _ _ rfl w1.heap.size tabA rfl rfl 76 zeros76 (heap_alloc_new w1 _) (by kernel_rfl) (by kernel_rfl) (by kernel_rfl) ?_)
  have hb2 : Below w.heap.size w ((w1.alloc (Obj.cells zeros76 76)).setRow w1.heap.size tabA) := below_setRow (hb1.alloc hb1.size _) hb1.size _
  have hT := setRow_heap (w1.alloc (Obj.cells zeros76 76)) w1.heap.size zeros76 tabA 76 (0, 0) (heap_alloc_new w1 _)
  generalize (w1.alloc (Obj.cells zeros76 76)).setRow w1.heap.size tabA = W2 at hb2 hT ⊢
  have hTlt := lt_of_block hT
  have hwT := hb1.size
  generalize w1.heap.size = T at hTlt hwT hT ⊢
  clear hz hb1
  have HT := hide' hT
  clear hT
  refine (decode_any B b off len cap n W2 HL.out hn1 hn2 hcap hm (fun i hi => by rw [hb2.cell (by exact hbl)]; exact HC.out i hi) hB).mono ?_
  rintro e w3 ⟨v, rfl, hown, hb3⟩
  obtain ⟨g, cp, rfl, hg1, hg2⟩ := hown.form (by omega)
  have hcell : ∀ i j, i < n → j < 5 → w3.cell? ⟨g, i * 5 + j, none⟩ = (insAt B i)[j]? := fun i j h1 h2 => by
    rw [hown.cellAt (i * 5 + j) (by omega), Nat.mul_comm i 5]; exact insL_at B n i j h1 h2
  have hcpk : n ≤ cp := by
    obtain ⟨_, h | ⟨g', cap', cur, h1, h2, h3, h4, h5⟩⟩ := hown
    · simp at h
    · simp at h1; omega
  have hT3 : w3.heap[T]? = some (.cells tabA 76 (0, 0)) := by rw [hb3.block T hTlt]; exact HT.out
  have hbw3 : Below w.heap.size w w3 := hb2.trans (hb3.mono hb2.size)
  have hT3lt := lt_of_block hT3
  clear hown hb3 hb2 HT
  have HCELL := hide' hcell
  have HT3 := hide' hT3
  clear hcell hT3
  go_wp2

  go_loopw [13] (fun i wr => ∃ k : Nat, k ≤ n ∧ i = .int .i64 k ∧ (∀ j, j < k → badP B n j = false) ∧ (∀ i j, i < n → j < 5 → wr.cell? ⟨g, i * 5 + j, none⟩ = (insAt B i)[j]?) ∧ wr.heap[T]? = some (.cells tabA 76 (0, 0)) ∧ Below w.heap.size w wr ∧ g < wr.heap.size) (fun i _ => n - (intOf i).toNat)
  case atStart => exact ⟨0, Nat.zero_le _, rfl, fun j h => by omega, HCELL.out, HT3.out, hbw3, hg2⟩
  case round =>
    clear HCELL HT3 hbw3 hg2 hT3lt hTlt
    obtain ⟨k, hk, rfl, hgood, hcell, hT, hbw, hg2⟩ := hrel
    by_cases hlt : k < n
    · obtain ⟨x, hx⟩ := Int.eq_ofNat_of_zero_le (hB (8 * k)).1
      have hxlt : (x : Int) < 256 := by have := (hB (8 * k)).2; omega
      have HX := hide' hx
      have f0 : wr.cell? ⟨g, k * 5, none⟩ = some (.int .u8 x) := by rw [← hx]; exact hcell k 0 hlt (by omega)
      have f1 : wr.cell? ⟨g, k * 5 + 1, none⟩ = some (.int .u8 (B (8 * k + 1) % 16)) := hcell k 1 hlt (by omega)
      have f2 : wr.cell? ⟨g, k * 5 + 2, none⟩ = some (.int .u8 (B (8 * k + 1) / 16)) := hcell k 2 hlt (by omega)
      have f3 : wr.cell? ⟨g, k * 5 + 3, none⟩ = some (.int .i16 (oOf B k)) := hcell k 3 hlt (by omega)
      have f4 : wr.cell? ⟨g, k * 5 + 4, none⟩ = some (.int .i32 (nOf B k)) := hcell k 4 hlt (by omega)
      have fT : wr.cell? ⟨T, x, none⟩ = some (fnV (opF x)) := by rw [cell_of_row wr T x tabA 76 (0, 0) hT]; exact tabA_at x (by omega)
      have hTlt := lt_of_block hT
      have HC := hide' hcell
      have HG := hide' hgood
      have HT := hide' hT
      clear hcell hgood hT hx
      have nT := World.new_ne wr _ fT
      have e1 : IntKind.i64.wrap ((n : Int) - 1) = (n : Int) - 1 := by rw [IntKind.wrap_i64]; omega
      have e2 : IntKind.i64.wrap ((n : Int) - 1 - k) = (n : Int) - 1 - k := by rw [IntKind.wrap_i64]; omega
      obtain ⟨o1, o2⟩ : -32768 ≤ oOf B k ∧ oOf B k ≤ 32767 := rOff_bd _ _ (hB _).1 (hB _).2 (hB _).1 (hB _).2
      have C := fun wx => instr_any x (x : Int) (B (8 * k + 1) % 16) (B (8 * k + 1) / 16) (oOf B k) (nOf B k) (k : Int) ((n : Int) - 1 - k) wx o1 o2
      cases hbad : badP B n k
      · have hE : insEnd (fitV (opF x) (B (8 * k + 1) % 16) (B (8 * k + 1) / 16) (oOf B k) (nOf B k) ((n : Int) - 1 - k)) x ((n : Int) - 1 - k) k = .returned (.tuple #[]) := by
          have h1 := hbad
          unfold badP at h1
          rw [HX.out, Int.toNat_natCast] at h1
          unfold insEnd
          rw [if_pos (by simpa using h1)]
        rw [hE] at C
        have HCt := hide' C
        have HBad := hide' hbad
        clear C hE hbad
        go_wp2
        go_region_held3 (fun w' => w'.cell? ⟨wr.heap.size, 0, none⟩ = some (.int .u8 x) ∧ w'.cell? ⟨wr.heap.size, 1, none⟩ = some (.int .u8 (B (8 * k + 1) % 16)) ∧ w'.cell? ⟨wr.heap.size, 2, none⟩ = some (.int .u8 (B (8 * k + 1) / 16)) ∧ w'.cell? ⟨wr.heap.size, 3, none⟩ = some (.int .i16 (oOf B k)) ∧ w'.cell? ⟨wr.heap.size, 4, none⟩ = some (.int .i32 (nOf B k)) ∧ w'.cell? ⟨T, x, none⟩ = some (fnV (opF x))) (first | go_keep | (go_split_ands; refine ⟨?_, ?_, ?_, ?_, ?_, ?_⟩ <;> (rw [hb4.cell (by simp; try omega)]; first | assumption | simp [*]))) ((go_at_call 31; refine (HCt.out _).mono ?_; rintro e w4 ⟨rfl, hb4⟩))
        have hb5 : Below wr.heap.size wr w4 := by first | exact (((Below.refl wr.heap.size wr).alloc (Nat.le_refl _) _).drew).trans (hb4.mono (by simp)) | exact ((Below.refl wr.heap.size wr).alloc (Nat.le_refl _) _).trans (hb4.mono (by simp))
        clear hb4
        go_wp2
        go_roundw
        case rel => exact ⟨k + 1, by omega, by go_num, good_next' HG.out HBad.out, fun i j h1 h2 => by rw [hb5.cell (by exact hg2)]; exact HC.out i j h1 h2, by rw [hb5.block T hTlt]; exact HT.out, hbw.trans (hb5.mono hbw.size), Nat.lt_of_lt_of_le hg2 hb5.size⟩
        case measure => simp [intOf]; omega
      · have hE : insEnd (fitV (opF x) (B (8 * k + 1) % 16) (B (8 * k + 1) / 16) (oOf B k) (nOf B k) ((n : Int) - 1 - k)) x ((n : Int) - 1 - k) k = .panicked (thrown 2 k) := by
          have h1 := hbad
          unfold badP at h1
          rw [HX.out, Int.toNat_natCast] at h1
          unfold insEnd
          rw [if_neg (by intro h2; rw [h2] at h1; simp at h1)]
        rw [hE] at C
        have HCt := hide' C
        have HBad := hide' hbad
        clear C hE hbad
        go_wp2
        go_region_dies
        all_goals
          refine (HCt.out _).mono ?_
          rintro e w4 ⟨rfl, hb4⟩
          go_simp
          exact ⟨rfl, .inr ⟨k, hlt, HBad.out, HG.out, rfl⟩, hbw.trans (((((Below.refl wr.heap.size wr).alloc (Nat.le_refl _) _).drew).trans (hb4.mono (by simp))).mono hbw.size)⟩
    · have hkn : k = n := by omega
      subst hkn
      go_wp2
      go_end0
      exact ⟨.inl ⟨hgood, rfl⟩, hbw⟩
end Go.Proofs.Ytmnilbfikenadaa
