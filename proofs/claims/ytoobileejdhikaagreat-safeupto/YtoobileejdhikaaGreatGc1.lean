/-
  The program's look at the shape of code: it returns where the code is right, and else gives up at the first instruction that is wrong.
  The program's deferred function literal of Load: what was thrown becomes the answer.
  Code whose shape is right: its instructions are such as the look at code asks.
-/
import Derived.Test.YtoobileejdhikaaGreatGb9
import Derived.Test.YtoobileejdhikaaGreatGc0
import Derived.Deep.RegionHeld3
import Derived.RegionDies
import Derived.Deep.DrawnRows
import Derived.Defers
import Derived.Recover
namespace Go.Proofs.YtoobileejdhikaaGreat
set_option maxRecDepth 100000
set_option maxHeartbeats 1000000
open Go.RowKit
attribute [local go_sem ↓] Go.wp_at_zero Go.wp_at_succ

def badP (B : Nat → Int) (n i : Nat) : Bool :=
 !(fitP (B (8 * i)).toNat (B (8 * i + 1) % 16) (B (8 * i + 1) / 16) (oOf B i) (nOf B i) ((n : Int) - 1 - i) && !lastB (B (8 * i)) ((n : Int) - 1 - i))
def LkEnd (B : Nat → Int) (n base : Nat) (e : Ending) (W : World) : Prop :=
 ((∀ j, j < n → badP B n j = false) ∧ ∃ g cp, e = .returned (.slice (some ⟨g, 0, none⟩) n cp) ∧ n ≤ cp ∧ cp ≤ 9223372036854775807 ∧ base ≤ g ∧ g < W.heap.size ∧ ∀ i j, i < n → j < 5 → W.cell? ⟨g, i * 5 + j, none⟩ = (insAt B i)[j]?) ∨ (∃ i, i < n ∧ badP B n i = true ∧ (∀ j, j < i → badP B n j = false) ∧ e = .panicked (thrown 2 i))

theorem good_next' {B : Nat → Int} {n m : Nat} (h : ∀ j, j < m → badP B n j = false) (hm : badP B n m = false) : ∀ j, j < m + 1 → badP B n j = false := fun j hj => by
 by_cases e : j = m
 ·subst e; exact hm
 ·exact h j (by omega)
theorem rOff_bd (a b : Int) (h0 : 0 ≤ a) (h1 : a ≤ 255) (h2 : 0 ≤ b) (h3 : b ≤ 255) : -32768 ≤ rOff a b ∧ rOff a b ≤ 32767 := by
 have h3 : p2 15 = 32768 := by decide
 unfold rOff sgn; rw [h3]; split <;> omega

theorem lookShape_any (B : Nat → Int) (b off len cap n : Nat) (w : World) (hl : len = 8 * n) (hn1 : 1 ≤ n) (hn2 : n ≤ 64) (hcap : len ≤ cap) (hm : cap ≤ 9223372036854775807)
  (hc : ∀ i, i < len → w.cell? ⟨b, off + i, none⟩ = some (.int .u8 (B i))) (hB : ∀ i, 0 ≤ B i ∧ B i ≤ 255) :
  Calls Tryz.prog 36 #[.slice (some ⟨b, off, none⟩) len cap] w fun e w' => LkEnd B n w.heap.size e w' ∧ Below w.heap.size w w' := by
 have hz := zeroT
 have HL : Hid (len = 8 * n) := hl
 have hbl : b < w.heap.size := lt_of_cell (by simpa using hc 0 (by omega))
 clear hl
 have HC := hide' hc
 clear hc
 go_enter Tryz.func36, Tryz.ntmps36
 go_wp2_with fail
 refine (length_ok _ _ _ n _ HL.out hn1 hn2).mono ?_
 rintro e w' ⟨rfl, hw⟩
 obtain rfl : w = w' := hw.symm
 go_wp2_with fail
 refine (table_any _).mono ?_
 rintro e w1 ⟨p, rfl, _, hb1⟩
 go_wp2_with (refine wpList_store_row rfl 105 _ _ rfl w1.heap.size (tabP p) rfl rfl 105 zeros768 (heap_alloc_new w1 _) (by kernel_rfl) (by kernel_rfl) (by kernel_rfl) ?_)
 have hb2 : Below w.heap.size w ((w1.alloc (Obj.cells zeros768 105)).setRow w1.heap.size (tabP p)) := below_setRowK (hb1.alloc hb1.size _) hb1.size _
 have hT := setRow_heap (w1.alloc (Obj.cells zeros768 105)) w1.heap.size zeros768 (tabP p) 105 (0, 0) (heap_alloc_new w1 _)
 generalize (w1.alloc (Obj.cells zeros768 105)).setRow w1.heap.size (tabP p) = W2 at hb2 hT ⊢
 have hTlt := lt_of_block hT
 have hwT := hb1.size
 generalize w1.heap.size = T at hTlt hwT hT ⊢
 clear hz hb1
 have HT := hide' hT
 clear hT
 refine (decode_any B b off len cap n W2 HL.out hn1 hn2 hcap hm (fun i hi => by rw [hb2.cell (by exact hbl)]; exact HC.out i hi) hB).mono ?_
 rintro e w3 ⟨v, rfl, hown, hb3⟩
 obtain ⟨g, cp, rfl, hg1, hg2⟩ := hown.form (by omega)
 have hcell : ∀ i j, i < n → j < 5 → w3.cell? ⟨g, i * 5 + j, none⟩ = (insAt B i)[j]? := fun i j h1 h2 => by
  rw [hown.cellAt (i * 5 + j) (by omega), Nat.mul_comm i 5]; exact insL_at B n i j h1 h2
 have hcpk : n ≤ cp ∧ cp ≤ 9223372036854775807 := by
  obtain ⟨_, h | ⟨g', cap', cur, h1, h2, h3, h4, h5, h6⟩⟩ := hown
  ·simp at h
  ·simp at h1; unfold maxLen at h5; omega
 have hgb : w.heap.size ≤ g := by have := hb2.size; omega
 have hT3 : w3.heap[T]? = some (.cells (tabP p) 105 (0, 0)) := by rw [hb3.block T hTlt]; exact HT.out
 have hbw3 : Below w.heap.size w w3 := hb2.trans (hb3.mono hb2.size)
 have hT3lt := lt_of_block hT3
 clear hown hb3 hb2 HT
 have HCELL := hide' hcell
 have HT3 := hide' hT3
 clear hcell hT3
 go_wp2

 go_loopw [14] (fun i wr => ∃ k : Nat, k ≤ n ∧ i = .int .i64 k ∧ (∀ j, j < k → badP B n j = false) ∧ (∀ i j, i < n → j < 5 → wr.cell? ⟨g, i * 5 + j, none⟩ = (insAt B i)[j]?) ∧ wr.heap[T]? = some (.cells (tabP p) 105 (0, 0)) ∧ Below w.heap.size w wr ∧ g < wr.heap.size) (fun i _ => n - (intOf i).toNat)
 case atStart => exact ⟨0, Nat.zero_le _, rfl, fun j h => by omega, HCELL.out, HT3.out, hbw3, hg2⟩
 case round =>
  clear HCELL HT3 hbw3 hg2 hT3lt hTlt
  obtain ⟨k, hk, rfl, hgood, hcell, hT, hbw, hg2⟩ := hrel
  by_cases hlt : k < n
  ·obtain ⟨x, hx⟩ := Int.eq_ofNat_of_zero_le (hB (8 * k)).1
   have hxlt : (x : Int) < 256 := by have := (hB (8 * k)).2; omega
   have HX := hide' hx
   have f0 : wr.cell? ⟨g, k * 5, none⟩ = some (.int .u8 x) := by rw [← hx]; exact hcell k 0 hlt (by omega)
   have f1 : wr.cell? ⟨g, k * 5 + 1, none⟩ = some (.int .u8 (B (8 * k + 1) % 16)) := hcell k 1 hlt (by omega)
   have f2 : wr.cell? ⟨g, k * 5 + 2, none⟩ = some (.int .u8 (B (8 * k + 1) / 16)) := hcell k 2 hlt (by omega)
   have f3 : wr.cell? ⟨g, k * 5 + 3, none⟩ = some (.int .i16 (oOf B k)) := hcell k 3 hlt (by omega)
   have f4 : wr.cell? ⟨g, k * 5 + 4, none⟩ = some (.int .i32 (nOf B k)) := hcell k 4 hlt (by omega)
   have fT : wr.cell? ⟨T, x * 3, none⟩ = some (fitAt x) := by rw [cell_of_row wr T (x * 3) (tabP p) 105 (0, 0) hT, Nat.mul_comm]; exact tabP_fit p x (by omega)
   have fT1 : wr.cell? ⟨T, x * 3 + 1, none⟩ = some (lookAt p x) := by rw [cell_of_row wr T (x * 3 + 1) (tabP p) 105 (0, 0) hT, Nat.mul_comm]; exact tabP_look p x (by omega)
   have fT2 : wr.cell? ⟨T, x * 3 + 2, none⟩ = some (doAt p x) := by rw [cell_of_row wr T (x * 3 + 2) (tabP p) 105 (0, 0) hT, Nat.mul_comm]; exact tabP_do p x (by omega)
   generalize hF0 : fitAt x = F0 at fT
   generalize lookAt p x = F1 at fT1
   generalize doAt p x = F2 at fT2
   have hTlt := lt_of_block hT
   have HC := hide' hcell
   have HG := hide' hgood
   have HT := hide' hT
   clear hcell hgood hT hx
   have nT := World.new_ne wr _ fT
   have e1 : IntKind.i64.wrap ((n : Int) - 1) = (n : Int) - 1 := by rw [IntKind.wrap_i64]; omega
   have e2 : IntKind.i64.wrap ((n : Int) - 1 - k) = (n : Int) - 1 - k := by rw [IntKind.wrap_i64]; omega
   obtain ⟨o1, o2⟩ : -32768 ≤ oOf B k ∧ oOf B k ≤ 32767 := rOff_bd _ _ (hB _).1 (hB _).2 (hB _).1 (hB _).2
   have C := fun wx => instr_any x (by omega) F1 F2 (x : Int) (B (8 * k + 1) % 16) (B (8 * k + 1) / 16) (oOf B k) (nOf B k) (k : Int) ((n : Int) - 1 - k) wx o1 o2
   rw [hF0] at C
   clear hF0
   cases hbad : badP B n k
   ·have hE : insEnd (fitP x (B (8 * k + 1) % 16) (B (8 * k + 1) / 16) (oOf B k) (nOf B k) ((n : Int) - 1 - k)) x ((n : Int) - 1 - k) k = .returned (.tuple #[]) := by
     have h1 := hbad
     unfold badP at h1
     rw [HX.out, Int.toNat_natCast] at h1
     unfold insEnd
     rw [if_pos (by simpa using h1)]
    rw [hE] at C
    have HCt := hide' C
    have HBad := hide' hbad
    clear C hE hbad
    go_wp2
    go_region_held3 (fun w' => w'.cell? ⟨wr.heap.size, 0, none⟩ = some (.int .u8 x) ∧ w'.cell? ⟨wr.heap.size, 1, none⟩ = some (.int .u8 (B (8 * k + 1) % 16)) ∧ w'.cell? ⟨wr.heap.size, 2, none⟩ = some (.int .u8 (B (8 * k + 1) / 16)) ∧ w'.cell? ⟨wr.heap.size, 3, none⟩ = some (.int .i16 (oOf B k)) ∧ w'.cell? ⟨wr.heap.size, 4, none⟩ = some (.int .i32 (nOf B k)) ∧ w'.cell? ⟨T, x * 3, none⟩ = some F0 ∧ w'.cell? ⟨T, x * 3 + 1, none⟩ = some F1 ∧ w'.cell? ⟨T, x * 3 + 2, none⟩ = some F2) (first | go_keep | (go_split_ands; refine ⟨?_, ?_, ?_, ?_, ?_, ?_, ?_, ?_⟩ <;> (rw [hb4.cell (by simp; try omega)]; first | assumption | simp [*]))) ((go_at_call 64; refine (HCt.out _).mono ?_; rintro e w4 ⟨rfl, hb4⟩))
    have hb5 : Below wr.heap.size wr w4 := by first | exact (((Below.refl wr.heap.size wr).alloc (Nat.le_refl _) _).drew).trans (hb4.mono (by simp)) | exact ((Below.refl wr.heap.size wr).alloc (Nat.le_refl _) _).trans (hb4.mono (by simp))
    clear hb4
    go_wp2
    go_roundw
    case rel => exact ⟨k + 1, by omega, by go_num, good_next' HG.out HBad.out, fun i j h1 h2 => by rw [hb5.cell (by exact hg2)]; exact HC.out i j h1 h2, by rw [hb5.block T hTlt]; exact HT.out, hbw.trans (hb5.mono hbw.size), Nat.lt_of_lt_of_le hg2 hb5.size⟩
    case measure => simp [intOf]; omega
   ·have hE : insEnd (fitP x (B (8 * k + 1) % 16) (B (8 * k + 1) / 16) (oOf B k) (nOf B k) ((n : Int) - 1 - k)) x ((n : Int) - 1 - k) k = .panicked (thrown 2 k) := by
     have h1 := hbad
     unfold badP at h1
     rw [HX.out, Int.toNat_natCast] at h1
     unfold insEnd
     rw [if_neg (by intro h2; rw [h2] at h1; simp at h1)]
    rw [hE] at C
    have HCt := hide' C
    have HBad := hide' hbad
    clear C hE hbad
    go_wp2
    go_region_dies
    all_goals
     refine (HCt.out _).mono ?_
     rintro e w4 ⟨rfl, hb4⟩
     go_simp
     exact ⟨rfl, .inr ⟨k, hlt, HBad.out, HG.out, rfl⟩, hbw.trans (((((Below.refl wr.heap.size wr).alloc (Nat.le_refl _) _).drew).trans (hb4.mono (by simp))).mono hbw.size)⟩
  ·have hkn : k = n := by omega
   subst hkn
   go_wp2
   go_ret
   exact ⟨.inl ⟨hgood, g, cp, rfl, hcpk.1, hcpk.2, hgb, hg2, hcell⟩, hbw⟩
end Go.Proofs.YtoobileejdhikaaGreat

namespace Go.Proofs.YtoobileejdhikaaGreat
set_option maxRecDepth 100000
set_option maxHeartbeats 1000000
open Go.RowKit

theorem assert_wrong (er at1 : Int) (w : World) : Sem.run Tryz.prog (Instr.typeAssert (.iface 67 (.agg #[.int .i64 er, .int .i64 at1])) 20 67 true) w = .ok (.tuple #[.agg #[.int .i64 er, .int .i64 at1], .bool true]) w := by kernel_rfl

theorem catch_idle (p0 p1 p2 : Addr) (w : World) :
  CallsD Tryz.prog 34 #[.pointer (some p0), .pointer (some p1), .pointer (some p2)] .returning w fun e u' w' => e = .returned (.tuple #[]) ∧ u' = .returning ∧ w' = w := by
 refine callsD_of_wpS Tryz.func34 rfl fun c₀ cs hu => ?_
 apply wpS_seq
 apply wpS_region
 simp [wpOpsS, go_sem, recoverD, hu, Tryz.ntmps34, Exit.thenS]
 refine wpS_of_wp ?_
 go_wp2
 cases c₀
 simp_all [bodyPostS, results, Tryz.results34]

theorem catch_panicking (H : Nat) (er at1 : Int) (older : List PanicEntry) (w : World) (v0 : Option Addr) (x1 x2 : Int) (hH : H + 1 + 1 < w.heap.size)
  (c0 : w.cell? ⟨H, 0, none⟩ = some (.pointer v0)) (c1 : w.cell? ⟨H + 1, 0, none⟩ = some (.int .i64 x1)) (c2 : w.cell? ⟨H + 1 + 1, 0, none⟩ = some (.int .i64 x2))
  (z0 : w.frozen? ⟨H, 0, none⟩ = false) (z1 : w.frozen? ⟨H + 1, 0, none⟩ = false) (z2 : w.frozen? ⟨H + 1 + 1, 0, none⟩ = false) :
  CallsD Tryz.prog 34 #[.pointer (some ⟨H, 0, none⟩), .pointer (some ⟨H + 1, 0, none⟩), .pointer (some ⟨H + 1 + 1, 0, none⟩)] (.panicking ({ v := .iface 67 (.agg #[.int .i64 er, .int .i64 at1]), recovered := false } :: older)) w fun e u' w' =>
   e = .returned (.tuple #[]) ∧ u' = .panicking ({ v := .iface 67 (.agg #[.int .i64 er, .int .i64 at1]), recovered := true } :: older) ∧
   w'.cell? ⟨H, 0, none⟩ = some (.pointer none) ∧ w'.cell? ⟨H + 1, 0, none⟩ = some (.int .i64 er) ∧ w'.cell? ⟨H + 1 + 1, 0, none⟩ = some (.int .i64 at1) ∧ Below H w w' := by
 refine callsD_of_wpS Tryz.func34 rfl fun c₀ cs hu => ?_
 apply wpS_seq
 apply wpS_region
 simp [wpOpsS, go_sem, recoverD, hu, Tryz.ntmps34, Exit.thenS]
 rw [show (#[Value.pointer (some { block := H, off := 0 }), Value.pointer (some { block := H + 1, off := 0 }), Value.pointer (some { block := H + 1 + 1, off := 0 })] ++
     ((Array.replicate 12 undef).setIfInBounds 3 (Value.iface 67 (Value.agg #[Value.int IntKind.i64 er, Value.int IntKind.i64 at1])))) =
   #[Value.pointer (some { block := H, off := 0 }), Value.pointer (some { block := H + 1, off := 0 }), Value.pointer (some { block := H + 1 + 1, off := 0 }), undef, undef, undef,
    (Value.iface 67 (Value.agg #[Value.int IntKind.i64 er, Value.int IntKind.i64 at1])), undef, undef, undef, undef, undef, undef, undef, undef] from rfl]
 have ta := assert_wrong er at1
 refine wpS_of_wp ?_
 have a0 : ∀ o, (w.alloc o).cell? ⟨H, 0, none⟩ = some (.pointer v0) := fun o => by rw [World.cell?_alloc_past _ _ _ (by show H < _; omega)]; exact c0
 have a1 : ∀ o, (w.alloc o).cell? ⟨H + 1, 0, none⟩ = some (.int .i64 x1) := fun o => by rw [World.cell?_alloc_past _ _ _ (by show H + 1 < _; omega)]; exact c1
 have a2 : ∀ o, (w.alloc o).cell? ⟨H + 1 + 1, 0, none⟩ = some (.int .i64 x2) := fun o => by rw [World.cell?_alloc_past _ _ _ (by show H + 1 + 1 < _; omega)]; exact c2
 have b0 : ∀ o, (w.alloc o).frozen? ⟨H, 0, none⟩ = false := fun o => by rw [World.frozen?_alloc_past _ _ _ (by show H < _; omega)]; exact z0
 have b1 : ∀ o, (w.alloc o).frozen? ⟨H + 1, 0, none⟩ = false := fun o => by rw [World.frozen?_alloc_past _ _ _ (by show H + 1 < _; omega)]; exact z1
 have b2 : ∀ o, (w.alloc o).frozen? ⟨H + 1 + 1, 0, none⟩ = false := fun o => by rw [World.frozen?_alloc_past _ _ _ (by show H + 1 + 1 < _; omega)]; exact z2
 have n0 : ¬ H = w.heap.size := by omega
 have n1 : ¬ H + 1 = w.heap.size := by omega
 have n2 : ¬ H + 1 + 1 = w.heap.size := by omega
 have m0 : ¬ w.heap.size = H := by omega
 have m1 : ¬ w.heap.size = H + 1 := by omega
 have m2 : ¬ w.heap.size = H + 1 + 1 := by omega
 go_wp2
 go_region_held3 (fun w' => w'.cell? ⟨w.heap.size, 0, none⟩ = some (.int .i64 er) ∧ w'.cell? ⟨w.heap.size, 1, none⟩ = some (.int .i64 at1)) (go_keep) (fail)
 all_goals go_wp2
 have bel : ∀ o, Below H w ((((w.alloc o).setCell ⟨H, 0, none⟩ (.pointer none)).setCell ⟨H + 1, 0, none⟩ (.int .i64 er)).setCell ⟨H + 1 + 1, 0, none⟩ (.int .i64 at1)).drew := fun o =>
  (((((Below.refl H w).alloc (by omega) o).setCell (by exact Nat.le_refl _) _).setCell (by exact Nat.le_succ _) _).setCell (by show H ≤ H + 1 + 1; omega) _).drew
 cases c₀
 simp [bodyPostS, results, Tryz.results34, go_sem, a0, a1, a2, bel]
end Go.Proofs.YtoobileejdhikaaGreat

namespace Go.Proofs.YtoobileejdhikaaGreat
open Go.RowKit

def piOf (B : Nat → Int) (i : Nat) : PI := ⟨(B (8 * i)).toNat, (B (8 * i + 1) % 16).toNat, (B (8 * i + 1) / 16).toNat, oOf B i, nOf B i⟩
theorem fit_bounds {op : Nat} {d s o n b : Int} (h : fitP op d s o n b = true) : d ≤ 7 ∧ s ≤ 7 ∧ (jumps op = true → 0 ≤ o ∧ o < b) := by
 unfold fitP at h
 split at h
 all_goals first | (cases h; done) | (simp only [fWork, fWorkNum, fLoad, fStore, fJump, fCompare, fCompareNum, fCall, fExit, leapB, Bool.and_eq_true, decide_eq_true_eq, beq_iff_eq] at h; refine ⟨by omega, by omega, fun hj => ?_⟩; first | omega | (simp [jumps] at hj))
theorem nOf_bd (B : Nat → Int) (hB : ∀ i, 0 ≤ B i ∧ B i ≤ 255) (i : Nat) : -2147483648 ≤ nOf B i ∧ nOf B i ≤ 2147483647 := by
 have h0 := hB (8 * i + 4); have h1 := hB (8 * i + 5); have h2 := hB (8 * i + 6); have h3 := hB (8 * i + 7)
 have h4 : p2 31 = 2147483648 := by decide
 unfold nOf rNum sgn; rw [h4]; split <;> omega
theorem right_of_good {B : Nat → Int} {n i : Nat} (hB : ∀ i, 0 ≤ B i ∧ B i ≤ 255) (hi : i < n) (h : badP B n i = false) : (piOf B i).Right i n := by
 have hop : (B (8 * i)).toNat < 256 := by have := hB (8 * i); omega
 have hb1 := hB (8 * i + 1)
 unfold badP at h
 simp only [Bool.not_eq_false', Bool.and_eq_true] at h
 obtain ⟨hf, hl⟩ := h
 obtain ⟨e1, e2, e3⟩ := fit_bounds hf
 have hin : opIn (B (8 * i)).toNat = true := by
  cases hq : opIn (B (8 * i)).toNat
  ·rw [fitP_not _ hop hq] at hf; cases hf
  ·rfl
 obtain ⟨o1, o2⟩ : -32768 ≤ oOf B i ∧ oOf B i ≤ 32767 := rOff_bd _ _ (hB _).1 (hB _).2 (hB _).1 (hB _).2
 obtain ⟨n1, n2⟩ := nOf_bd B hB i
 refine ⟨hop, by show (B (8 * i + 1) % 16).toNat < 9; omega, by show (B (8 * i + 1) / 16).toNat < 9; omega, n1, n2, o1, o2, e3, fun hne => ?_, fun p s W hbx hs => looks_any p _ _ _ _ _ s W hbx hs (by show (B (8 * i + 1) % 16).toNat < 9; omega) (by show (B (8 * i + 1) / 16).toNat < 9; omega) o1 o2 hin⟩
 simp only [lastB, Bool.not_eq_true', Bool.and_eq_false_iff, beq_eq_false_iff_ne, bne_eq_false_iff_eq] at hl
 have hne' : (B (8 * i)).toNat ≠ 41 := hne
 have := hB (8 * i)
 omega
end Go.Proofs.YtoobileejdhikaaGreat
