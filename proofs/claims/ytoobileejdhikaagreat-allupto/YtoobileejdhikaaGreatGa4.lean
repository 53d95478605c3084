/-
  The program's spans of numbers: what comes of an operation on two numbers.
  The program's spans of numbers: bits.
  The program's spans of numbers: or.
-/
import Derived.Test.YtoobileejdhikaaGreatGa3
import Derived.Test.YtoobileejdhikaaGreatGa0
import Derived.Laws.Externs
namespace Go.Proofs.YtoobileejdhikaaGreat
set_option maxRecDepth 100000
set_option maxHeartbeats 1000000
open Go.RowKit

theorem add64_call (x y : Int) (w : World) : (callFunc 199 #[.int .u64 x, .int .u64 y, .int .u64 0]).run Tryz.prog w = ((add64Entry #[.int .u64 x, .int .u64 y, .int .u64 0]).run Tryz.prog w).andThen fun v w' => .ok (.value v) w' := by kernel_rfl
theorem add64_0 (x y : Int) (hx : 0 ≤ x) (hy : 0 ≤ y) (w : World) : (callFunc 199 #[.int .u64 x, .int .u64 y, .int .u64 0]).run Tryz.prog w =
  .ok (.value (.tuple #[.int .u64 ((x + y) % 18446744073709551616), .int .u64 ((x + y) / 18446744073709551616)])) w := by
 rw [add64_call, run_add64 x y 0 hx hy (by omega) (by omega)]
 simp
def bor (x y : Int) : Int := if x < y then 1 else 0
theorem sub64_call (x y : Int) (w : World) : (callFunc 200 #[.int .u64 x, .int .u64 y, .int .u64 0]).run Tryz.prog w = .ok (.value (Extern.MathBitsCarry.pair ((x.toNat + Extern.MathBitsCarry.m64 - y.toNat - 0) % Extern.MathBitsCarry.m64) (if x.toNat < y.toNat + 0 then 1 else 0))) w := by kernel_rfl
theorem sub64_0 (x y : Int) (hx : 0 ≤ x) (hy : 0 ≤ y) (hy' : y < 18446744073709551616) (w : World) : (callFunc 200 #[.int .u64 x, .int .u64 y, .int .u64 0]).run Tryz.prog w =
  .ok (.value (.tuple #[.int .u64 ((x - y) % 18446744073709551616), .int .u64 (bor x y)])) w := by
 rw [sub64_call]
 obtain ⟨X, rfl⟩ := Int.eq_ofNat_of_zero_le hx
 obtain ⟨Y, rfl⟩ := Int.eq_ofNat_of_zero_le hy
 simp only [Extern.MathBitsCarry.pair, Extern.MathBitsCarry.m64, Int.toNat_natCast]
 have e1 : Int.ofNat ((X + 2 ^ 64 - Y - 0) % 2 ^ 64) = ((X : Int) - Y) % 18446744073709551616 := by simp; omega
 have e2 : Int.ofNat (if X < Y + 0 then 1 else 0) = bor X Y := by unfold bor; simp only [Nat.add_zero]; split <;> split <;> first | rfl | omega
 rw [e1, e2]

theorem frozenKeep {W w1 : World} {g : Nat} (hb : Below W.heap.size W w1) (hlt : g < W.heap.size) (h : ∀ j, W.frozen? ⟨g, j, none⟩ = false) (j : Nat) : w1.frozen? ⟨g, j, none⟩ = false := by
 rw [hb.frozen (by exact hlt)]; exact h j
def ordL (b : Bool) (l : Int) : Int := if b then l else 0
def ordM (b : Bool) (m : Int) : Int := if b then m else 18446744073709551615
theorem inOrder_any (l m : Int) (b : Bool) (w : World) :
  Calls Tryz.prog 159 #[.int .u64 l, .int .u64 m, .bool b] w fun e w' => e = .returned (.agg #[.int .u64 (ordL b l), .int .u64 (ordM b m)]) ∧ Below w.heap.size w w' := by
 cases b
 ·exact (inOrder_no l m w).mono fun _ _ ⟨h1, h2⟩ => ⟨h1, by rw [h2]; exact ((Below.refl _ _).alloc (Nat.le_refl _) _).alloc (by simp) _⟩
 ·exact (inOrder_yes l m w).mono fun _ _ ⟨h1, h2⟩ => ⟨h1, by rw [h2]; exact (Below.refl _ _).alloc (Nat.le_refl _) _⟩

theorem kAnd_any (al am bl bm : Int) (w : World) (_h1 : 0 ≤ al) (_h2 : 0 ≤ am) (_h3 : 0 ≤ bl) (_h4 : 0 ≤ bm) (_g1 : al < 18446744073709551616) (_g2 : am < 18446744073709551616) (_g3 : bl < 18446744073709551616) (_g4 : bm < 18446744073709551616) :
  Calls Tryz.prog 95 #[.agg #[.int .u64 al, .int .u64 am], .agg #[.int .u64 bl, .int .u64 bm]] w fun e w' => e = .returned (.agg #[.int .u64 (0), .int .u64 (min am bm)]) ∧ Below w.heap.size w w' := by
 go_enter Tryz.func95, Tryz.ntmps95
 go_wp2
 ·rw [show min am bm = bm from by omega]; exact bodyPost_ret (v := .agg #[.int .u64 (0), .int .u64 (bm)]) (by simp [results, Tryz.results95, go_sem]) rfl ⟨rfl, bel3 _ _ _ _⟩
 ·rw [show min am bm = am from by omega]; exact bodyPost_ret (v := .agg #[.int .u64 (0), .int .u64 (am)]) (by simp [results, Tryz.results95, go_sem]) rfl ⟨rfl, bel3 _ _ _ _⟩

theorem kMod_any (al am bl bm : Int) (w : World) (_h1 : 0 ≤ al) (_h2 : 0 ≤ am) (_h3 : 0 ≤ bl) (_h4 : 0 ≤ bm) (_g1 : al < 18446744073709551616) (_g2 : am < 18446744073709551616) (_g3 : bl < 18446744073709551616) (_g4 : bm < 18446744073709551616) (_hb : bl ≤ bm) :
  Calls Tryz.prog 93 #[.agg #[.int .u64 al, .int .u64 am], .agg #[.int .u64 bl, .int .u64 bm]] w fun e w' => e = .returned (.agg #[.int .u64 (0), .int .u64 (if bl = 0 then am else min am (bm - 1))]) ∧ Below w.heap.size w w' := by
 by_cases hb : bl = 0
 ·rw [if_pos hb]
  have hb' : (bl == 0) = true := by simpa using hb
  have HB := hideK hb
  clear hb
  go_enter Tryz.func93, Tryz.ntmps93
  go_wp2
  exact bodyPost_ret (v := .agg #[.int .u64 (0), .int .u64 (am)]) (by simp [results, Tryz.results93, go_sem]) rfl ⟨rfl, bel3 _ _ _ _⟩
 ·rw [if_neg hb]
  have hb' : (bl == 0) = false := by simpa using hb
  have q : IntKind.u64.wrap (bm - 1) = bm - 1 := by rw [wrapU]; omega
  have HB := hideK hb
  clear hb
  go_enter Tryz.func93, Tryz.ntmps93
  go_wp2
  ·rw [show min am (bm - 1) = bm - 1 from by omega]; exact bodyPost_ret (v := .agg #[.int .u64 (0), .int .u64 (bm - 1)]) (by simp [results, Tryz.results93, go_sem]) rfl ⟨rfl, bel3 _ _ _ _⟩
  ·rw [show min am (bm - 1) = am from by omega]; exact bodyPost_ret (v := .agg #[.int .u64 (0), .int .u64 (am)]) (by simp [results, Tryz.results93, go_sem]) rfl ⟨rfl, bel3 _ _ _ _⟩

theorem kDiv_any (al am bl bm : Int) (w : World) (_h1 : 0 ≤ al) (_h2 : 0 ≤ am) (_h3 : 0 ≤ bl) (_h4 : 0 ≤ bm) (_g1 : al < 18446744073709551616) (_g2 : am < 18446744073709551616) (_g3 : bl < 18446744073709551616) (_g4 : bm < 18446744073709551616) (_hb : bl ≤ bm) :
  Calls Tryz.prog 91 #[.agg #[.int .u64 al, .int .u64 am], .agg #[.int .u64 bl, .int .u64 bm]] w fun e w' => e = .returned (.agg #[.int .u64 (if bl = 0 then 0 else al / bm), .int .u64 (if bl = 0 then am else am / bl)]) ∧ Below w.heap.size w w' := by
 by_cases hb : bl = 0
 ·rw [if_pos hb, if_pos hb]
  have hb' : (bl == 0) = true := by simpa using hb
  have HB := hideK hb
  clear hb
  go_enter Tryz.func91, Tryz.ntmps91
  go_wp2
  exact bodyPost_ret (v := .agg #[.int .u64 (0), .int .u64 (am)]) (by simp [results, Tryz.results91, go_sem]) rfl ⟨rfl, bel3 _ _ _ _⟩
 ·rw [if_neg hb, if_neg hb]
  have hb' : (bl == 0) = false := by simpa using hb
  have n2 : ¬ bm = 0 := by omega
  have n2' : (bm == 0) = false := by simpa using n2
  have q1 : IntKind.u64.wrap (al.tdiv bm) = al / bm := by rw [Int.tdiv_eq_ediv_of_nonneg (by omega), wrapU, Int.emod_eq_of_lt (Int.ediv_nonneg (by omega) (by omega)) (Int.lt_of_le_of_lt (Int.ediv_le_self _ (by omega)) (by omega))]
  have q2 : IntKind.u64.wrap (am.tdiv bl) = am / bl := by rw [Int.tdiv_eq_ediv_of_nonneg (by omega), wrapU, Int.emod_eq_of_lt (Int.ediv_nonneg (by omega) (by omega)) (Int.lt_of_le_of_lt (Int.ediv_le_self _ (by omega)) (by omega))]
  go_enter Tryz.func91, Tryz.ntmps91
  go_wp2
  go_region_held3 (fun w' => w'.cell? ⟨w.heap.size, 0, none⟩ = some (.int .u64 al) ∧ w'.cell? ⟨w.heap.size, 1, none⟩ = some (.int .u64 am) ∧ w'.cell? ⟨w.heap.size + 1, 0, none⟩ = some (.int .u64 bl) ∧ w'.cell? ⟨w.heap.size + 1, 1, none⟩ = some (.int .u64 bm)) (go_keep) (fail)
  all_goals go_wp2
  exact bodyPost_ret (v := .agg #[.int .u64 (al / bm), .int .u64 (am / bl)]) (by simp [results, Tryz.results91, go_sem]) rfl ⟨rfl, (bel3 _ _ _ _).drew⟩

theorem kAdd_any (al am bl bm : Int) (w : World) (_h1 : 0 ≤ al) (_h2 : 0 ≤ am) (_h3 : 0 ≤ bl) (_h4 : 0 ≤ bm) (_g1 : al < 18446744073709551616) (_g2 : am < 18446744073709551616) (_g3 : bl < 18446744073709551616) (_g4 : bm < 18446744073709551616) :
  Calls Tryz.prog 186 #[.agg #[.int .u64 al, .int .u64 am], .agg #[.int .u64 bl, .int .u64 bm]] w fun e w' => e = .returned (.agg #[.int .u64 (ordL ((al + bl) / 18446744073709551616 == (am + bm) / 18446744073709551616) ((al + bl) % 18446744073709551616)), .int .u64 (ordM ((al + bl) / 18446744073709551616 == (am + bm) / 18446744073709551616) ((am + bm) % 18446744073709551616))]) ∧ Below w.heap.size w w' := by
 go_enter Tryz.func186, Tryz.ntmps186
 go_wp2_with (first | simp only [add64_0 al bl _h1 _h3] | simp only [add64_0 am bm _h2 _h4] | (go_at_call 159; refine (inOrder_any _ _ _ _).mono ?_; rintro e w1 ⟨rfl, hb1⟩; have c0 := cellKeep hb1 (g := w.heap.size + 1 + 1) (j := 0) (v := .int .u64 0) (by simp [go_sem]); have c1 := cellKeep hb1 (g := w.heap.size + 1 + 1) (j := 1) (v := .int .u64 0) (by simp [go_sem]); have z0 := frozenKeep hb1 (g := w.heap.size + 1 + 1) (by simp) (fun j => by simp [go_sem])))
 have hB1 : Below w.heap.size w w1 := (bel3 w _ _ _).trans (hb1.mono (by simp; omega))
 exact bodyPost_ret (v := .agg #[.int .u64 (ordL ((al + bl) / 18446744073709551616 == (am + bm) / 18446744073709551616) ((al + bl) % 18446744073709551616)), .int .u64 (ordM ((al + bl) / 18446744073709551616 == (am + bm) / 18446744073709551616) ((am + bm) % 18446744073709551616))]) (by simp [results, Tryz.results186, go_sem, c0, c1]) rfl ⟨rfl, (hB1.setCell (by simp; try omega) _).setCell (by simp; try omega) _⟩

theorem kSub_any (al am bl bm : Int) (w : World) (_h1 : 0 ≤ al) (_h2 : 0 ≤ am) (_h3 : 0 ≤ bl) (_h4 : 0 ≤ bm) (_g1 : al < 18446744073709551616) (_g2 : am < 18446744073709551616) (_g3 : bl < 18446744073709551616) (_g4 : bm < 18446744073709551616) :
  Calls Tryz.prog 189 #[.agg #[.int .u64 al, .int .u64 am], .agg #[.int .u64 bl, .int .u64 bm]] w fun e w' => e = .returned (.agg #[.int .u64 (ordL (bor al bm == bor am bl) ((al - bm) % 18446744073709551616)), .int .u64 (ordM (bor al bm == bor am bl) ((am - bl) % 18446744073709551616))]) ∧ Below w.heap.size w w' := by
 go_enter Tryz.func189, Tryz.ntmps189
 go_wp2_with (first | simp only [sub64_0 al bm _h1 _h4 _g4] | simp only [sub64_0 am bl _h2 _h3 _g3] | (go_at_call 159; refine (inOrder_any _ _ _ _).mono ?_; rintro e w1 ⟨rfl, hb1⟩; have c0 := cellKeep hb1 (g := w.heap.size + 1 + 1) (j := 0) (v := .int .u64 0) (by simp [go_sem]); have c1 := cellKeep hb1 (g := w.heap.size + 1 + 1) (j := 1) (v := .int .u64 0) (by simp [go_sem]); have z0 := frozenKeep hb1 (g := w.heap.size + 1 + 1) (by simp) (fun j => by simp [go_sem])))
 have hB1 : Below w.heap.size w w1 := (bel3 w _ _ _).trans (hb1.mono (by simp; omega))
 exact bodyPost_ret (v := .agg #[.int .u64 (ordL (bor al bm == bor am bl) ((al - bm) % 18446744073709551616)), .int .u64 (ordM (bor al bm == bor am bl) ((am - bl) % 18446744073709551616))]) (by simp [results, Tryz.results189, go_sem, c0, c1]) rfl ⟨rfl, (hB1.setCell (by simp; try omega) _).setCell (by simp; try omega) _⟩
end Go.Proofs.YtoobileejdhikaaGreat

namespace Go.Proofs.YtoobileejdhikaaGreat
set_option maxRecDepth 100000
set_option maxHeartbeats 1000000
open Go.RowKit

def mulHi (x y : Int) : Int := IntKind.u64.wrap (IntKind.u64.wrap (IntKind.u64.wrap (x / 4294967296 * (y / 4294967296)) + IntKind.u64.wrap (IntKind.u64.wrap (x / 4294967296 * bits BinOp.and IntKind.u64 y 4294967295) + IntKind.u64.wrap (bits BinOp.and IntKind.u64 x 4294967295 * bits BinOp.and IntKind.u64 y 4294967295) / 4294967296) / 4294967296) + IntKind.u64.wrap (bits BinOp.and IntKind.u64 (IntKind.u64.wrap (IntKind.u64.wrap (x / 4294967296 * bits BinOp.and IntKind.u64 y 4294967295) + IntKind.u64.wrap (bits BinOp.and IntKind.u64 x 4294967295 * bits BinOp.and IntKind.u64 y 4294967295) / 4294967296)) 4294967295 + IntKind.u64.wrap (bits BinOp.and IntKind.u64 x 4294967295 * (y / 4294967296))) / 4294967296)

theorem mul64_any (x y : Int) (w : World) (_h1 : 0 ≤ x) (_h2 : 0 ≤ y) (_g1 : x < 18446744073709551616) (_g2 : y < 18446744073709551616) :
  Calls Tryz.prog 158 #[.int .u64 x, .int .u64 y] w fun e w' => e = .returned (.tuple #[.int .u64 (mulHi x y), .int .u64 (IntKind.u64.wrap (x * y))]) ∧ w' = w := by
 unfold mulHi
 go_enter Tryz.func158, Tryz.ntmps158
 go_wp2
 exact bodyPost_ret (by simp [results, Tryz.results158, go_sem]) rfl ⟨rfl, rfl⟩

theorem kMul_any (al am bl bm : Int) (w : World) (_h1 : 0 ≤ al) (_h2 : 0 ≤ am) (_h3 : 0 ≤ bl) (_h4 : 0 ≤ bm) (_g1 : al < 18446744073709551616) (_g2 : am < 18446744073709551616) (_g3 : bl < 18446744073709551616) (_g4 : bm < 18446744073709551616) :
  Calls Tryz.prog 89 #[.agg #[.int .u64 al, .int .u64 am], .agg #[.int .u64 bl, .int .u64 bm]] w fun e w' => e = .returned (.agg #[.int .u64 (ordL (mulHi am bm == 0) (IntKind.u64.wrap (al * bl))), .int .u64 (ordM (mulHi am bm == 0) (IntKind.u64.wrap (am * bm)))]) ∧ Below w.heap.size w w' := by
 go_enter Tryz.func89, Tryz.ntmps89
 go_wp2_with (first | (go_at_call 158; refine (mul64_any am bm _ _h2 _h4 _g2 _g4).mono ?_; rintro e w0 ⟨rfl, rfl⟩) | (go_at_call 159; refine (inOrder_any _ _ _ _).mono ?_; rintro e w1 ⟨rfl, hb1⟩; have c0 := cellKeep hb1 (g := w.heap.size + 1 + 1) (j := 0) (v := .int .u64 0) (by simp [go_sem]); have c1 := cellKeep hb1 (g := w.heap.size + 1 + 1) (j := 1) (v := .int .u64 0) (by simp [go_sem]); have z0 := frozenKeep hb1 (g := w.heap.size + 1 + 1) (by simp) (fun j => by simp [go_sem])))
 have hB1 : Below w.heap.size w w1 := (bel3 w _ _ _).trans (hb1.mono (by simp; omega))
 exact bodyPost_ret (v := .agg #[.int .u64 (ordL (mulHi am bm == 0) (IntKind.u64.wrap (al * bl))), .int .u64 (ordM (mulHi am bm == 0) (IntKind.u64.wrap (am * bm)))]) (by simp [results, Tryz.results89, go_sem, c0, c1]) rfl ⟨rfl, (hB1.setCell (by simp; try omega) _).setCell (by simp; try omega) _⟩

def lenN (x : Nat) : Nat := if x = 0 then 0 else Nat.log2 x + 1
def lenTab : ByteArray := ⟨#[0, 1, 2, 2, 3, 3, 3, 3, 4, 4, 4, 4, 4, 4, 4, 4, 5, 5, 5, 5, 5, 5, 5, 5, 5, 5, 5, 5, 5, 5, 5, 5, 6, 6, 6, 6, 6, 6, 6, 6, 6, 6, 6, 6, 6, 6, 6, 6, 6, 6, 6, 6, 6, 6, 6, 6, 6, 6, 6, 6, 6, 6, 6, 6, 7, 7, 7, 7, 7, 7, 7, 7, 7, 7, 7, 7, 7, 7, 7, 7, 7, 7, 7, 7, 7, 7, 7, 7, 7, 7, 7, 7, 7, 7, 7, 7, 7, 7, 7, 7, 7, 7, 7, 7, 7, 7, 7, 7, 7, 7, 7, 7, 7, 7, 7, 7, 7, 7, 7, 7, 7, 7, 7, 7, 7, 7, 7, 7, 8, 8, 8, 8, 8, 8, 8, 8, 8, 8, 8, 8, 8, 8, 8, 8, 8, 8, 8, 8, 8, 8, 8, 8, 8, 8, 8, 8, 8, 8, 8, 8, 8, 8, 8, 8, 8, 8, 8, 8, 8, 8, 8, 8, 8, 8, 8, 8, 8, 8, 8, 8, 8, 8, 8, 8, 8, 8, 8, 8, 8, 8, 8, 8, 8, 8, 8, 8, 8, 8, 8, 8, 8, 8, 8, 8, 8, 8, 8, 8, 8, 8, 8, 8, 8, 8, 8, 8, 8, 8, 8, 8, 8, 8, 8, 8, 8, 8, 8, 8, 8, 8, 8, 8, 8, 8, 8, 8, 8, 8, 8, 8, 8, 8, 8, 8, 8, 8, 8, 8, 8, 8, 8, 8, 8, 8, 8, 8]⟩
theorem lenTab_at (i : Nat) (h : i < lenTab.size) : (lenTab[i]).toNat = lenN i := by
 have h1 : lenTab.data.size = 256 := by decide +kernel
 have h2 : ∀ i : Fin 256, (lenTab.data[i.1]!).toNat = lenN i.1 := by decide +kernel
 have h4 : i < lenTab.data.size := h
 have h3 : lenTab.data[i]! = lenTab[i] := getElem!_pos lenTab.data i h4
 rw [← h3]; exact h2 ⟨i, by omega⟩
theorem lenN_lt (x : Nat) : x < 2 ^ lenN x := by
 unfold lenN
 split
 ·rename_i h; subst h; decide
 ·exact Nat.lt_log2_self
theorem lenN_le (x : Nat) (h : x ≠ 0) : 2 ^ (lenN x - 1) ≤ x := by
 unfold lenN
 rw [if_neg h]
 exact Nat.log2_self_le h
theorem lenN_unique (x n : Nat) (h1 : x < 2 ^ n) (h2 : 2 ^ (n - 1) ≤ x) : lenN x = n := by
 have hx : x ≠ 0 := by have := Nat.two_pow_pos (n - 1); omega
 have a := lenN_lt x
 have b := lenN_le x hx
 have h3 : ¬ lenN x < n := fun hc => by
  have : 2 ^ lenN x ≤ 2 ^ (n - 1) := Nat.pow_le_pow_right (by decide) (by omega)
  omega
 have h4 : ¬ n < lenN x := fun hc => by
  have : 2 ^ n ≤ 2 ^ (lenN x - 1) := Nat.pow_le_pow_right (by decide) (by omega)
  omega
 omega
theorem lenN_shift (x b : Nat) (h : x / 2 ^ b ≠ 0) : lenN x = b + lenN (x / 2 ^ b) := by
 have hp := Nat.two_pow_pos b
 have a := lenN_lt (x / 2 ^ b)
 have c := lenN_le (x / 2 ^ b) h
 have d : 1 ≤ lenN (x / 2 ^ b) := by unfold lenN; rw [if_neg h]; omega
 refine lenN_unique x _ ?_ ?_
 ·rw [Nat.pow_add, Nat.mul_comm]; exact (Nat.div_lt_iff_lt_mul hp).1 a
 ·rw [show b + lenN (x / 2 ^ b) - 1 = (lenN (x / 2 ^ b) - 1) + b from by omega, Nat.pow_add]; exact (Nat.le_div_iff_mul_le hp).1 c
theorem lenN_small (i : Nat) (h : i < 256) : lenN i ≤ 8 := by
 by_cases h0 : i = 0
 ·subst h0; decide
 ·have := lenN_le i h0
  have h3 : ¬ 8 < lenN i := fun hc => by
   have : 2 ^ 8 ≤ 2 ^ (lenN i - 1) := Nat.pow_le_pow_right (by decide) (by omega)
   omega
  omega
theorem lenN_64 (x : Nat) (h : x < 18446744073709551616) : lenN x ≤ 64 := by
 by_cases h0 : x = 0
 ·subst h0; decide
 ·have := lenN_le x h0
  have h3 : ¬ 64 < lenN x := fun hc => by
   have : 2 ^ 64 ≤ 2 ^ (lenN x - 1) := Nat.pow_le_pow_right (by decide) (by omega)
   omega
  omega
theorem len_part (X b i : Nat) (hi : i = X / 2 ^ b) (h0 : i ≠ 0) (h8 : i < 256) (hb : b ≤ 56) : wrap64 (b + wrap64 ((lenN i : Nat) : Int)) = ((lenN X : Nat) : Int) := by
 have h1 := lenN_small i h8
 rw [lenN_shift X b (by omega), ← hi]
 unfold wrap64
 omega

theorem len64_any (x : Int) (w : World) (_h1 : 0 ≤ x) (_g1 : x < 18446744073709551616) :
  Calls Tryz.prog 192 #[.int .u64 x] w fun e w' => e = .returned (.int .i64 (lenN x.toNat)) ∧ w' = w := by
 go_enter Tryz.func192, Tryz.ntmps192
 go_wp2
 all_goals go_ret
 all_goals refine ⟨ret_int ?_, rfl⟩
 ·have e := lenTab_at (x / 4294967296 / 65536 / 256).toNat (by show _ < 256; omega)
  unfold lenTab at e
  rw [e]
  obtain ⟨X, rfl⟩ := Int.eq_ofNat_of_zero_le _h1
  rw [Int.toNat_natCast]
  have q : ((X : Int) / 4294967296 / 65536 / 256).toNat = X / 2 ^ 56 := by rw [show (2 ^ 56 : Nat) = 72057594037927936 from by decide]; omega
  rw [q]
  exact len_part X 56 _ rfl (by rw [show (2 ^ 56 : Nat) = 72057594037927936 from by decide]; omega) (by rw [show (2 ^ 56 : Nat) = 72057594037927936 from by decide]; omega) (by decide)
 ·have e := lenTab_at (x / 4294967296 / 65536).toNat (by show _ < 256; omega)
  unfold lenTab at e
  rw [e]
  obtain ⟨X, rfl⟩ := Int.eq_ofNat_of_zero_le _h1
  rw [Int.toNat_natCast]
  have q : ((X : Int) / 4294967296 / 65536).toNat = X / 2 ^ 48 := by rw [show (2 ^ 48 : Nat) = 281474976710656 from by decide]; omega
  rw [q]
  exact len_part X 48 _ rfl (by rw [show (2 ^ 48 : Nat) = 281474976710656 from by decide]; omega) (by rw [show (2 ^ 48 : Nat) = 281474976710656 from by decide]; omega) (by decide)
 ·have e := lenTab_at (x / 4294967296 / 256).toNat (by show _ < 256; omega)
  unfold lenTab at e
  rw [e]
  obtain ⟨X, rfl⟩ := Int.eq_ofNat_of_zero_le _h1
  rw [Int.toNat_natCast]
  have q : ((X : Int) / 4294967296 / 256).toNat = X / 2 ^ 40 := by rw [show (2 ^ 40 : Nat) = 1099511627776 from by decide]; omega
  rw [q]
  exact len_part X 40 _ rfl (by rw [show (2 ^ 40 : Nat) = 1099511627776 from by decide]; omega) (by rw [show (2 ^ 40 : Nat) = 1099511627776 from by decide]; omega) (by decide)
 ·have e := lenTab_at (x / 4294967296).toNat (by show _ < 256; omega)
  unfold lenTab at e
  rw [e]
  obtain ⟨X, rfl⟩ := Int.eq_ofNat_of_zero_le _h1
  rw [Int.toNat_natCast]
  have q : ((X : Int) / 4294967296).toNat = X / 2 ^ 32 := by rw [show (2 ^ 32 : Nat) = 4294967296 from by decide]; omega
  rw [q]
  exact len_part X 32 _ rfl (by rw [show (2 ^ 32 : Nat) = 4294967296 from by decide]; omega) (by rw [show (2 ^ 32 : Nat) = 4294967296 from by decide]; omega) (by decide)
 ·have e := lenTab_at (x / 65536 / 256).toNat (by show _ < 256; omega)
  unfold lenTab at e
  rw [e]
  obtain ⟨X, rfl⟩ := Int.eq_ofNat_of_zero_le _h1
  rw [Int.toNat_natCast]
  have q : ((X : Int) / 65536 / 256).toNat = X / 2 ^ 24 := by rw [show (2 ^ 24 : Nat) = 16777216 from by decide]; omega
  rw [q]
  exact len_part X 24 _ rfl (by rw [show (2 ^ 24 : Nat) = 16777216 from by decide]; omega) (by rw [show (2 ^ 24 : Nat) = 16777216 from by decide]; omega) (by decide)
 ·have e := lenTab_at (x / 65536).toNat (by show _ < 256; omega)
  unfold lenTab at e
  rw [e]
  obtain ⟨X, rfl⟩ := Int.eq_ofNat_of_zero_le _h1
  rw [Int.toNat_natCast]
  have q : ((X : Int) / 65536).toNat = X / 2 ^ 16 := by rw [show (2 ^ 16 : Nat) = 65536 from by decide]; omega
  rw [q]
  exact len_part X 16 _ rfl (by rw [show (2 ^ 16 : Nat) = 65536 from by decide]; omega) (by rw [show (2 ^ 16 : Nat) = 65536 from by decide]; omega) (by decide)
 ·have e := lenTab_at (x / 256).toNat (by show _ < 256; omega)
  unfold lenTab at e
  rw [e]
  obtain ⟨X, rfl⟩ := Int.eq_ofNat_of_zero_le _h1
  rw [Int.toNat_natCast]
  have q : ((X : Int) / 256).toNat = X / 2 ^ 8 := by rw [show (2 ^ 8 : Nat) = 256 from by decide]; omega
  rw [q]
  exact len_part X 8 _ rfl (by rw [show (2 ^ 8 : Nat) = 256 from by decide]; omega) (by rw [show (2 ^ 8 : Nat) = 256 from by decide]; omega) (by decide)
 ·have e := lenTab_at x.toNat (by show _ < 256; omega)
  unfold lenTab at e
  rw [e]
  have h1 := lenN_small x.toNat (by omega)
  unfold wrap64
  omega

theorem and63 (b : Int) (h0 : 0 ≤ b) (h1 : b < 18446744073709551616) : bits .and .u64 b 63 = b % 64 := by
 obtain ⟨n, rfl⟩ := Int.eq_ofNat_of_zero_le h0
 show IntKind.u64.wrap ((BitVec.ofInt 64 (n : Int) &&& BitVec.ofInt 64 ((63 : Nat) : Int)).toNat : Int) = _
 simp only [BitVec.ofInt_natCast, BitVec.toNat_and, BitVec.toNat_ofNat]
 rw [Nat.mod_eq_of_lt (by omega), show 63 % 2 ^ 64 = 2 ^ 6 - 1 from by decide, Nat.and_two_pow_sub_one_eq_mod, wrapU]
 omega
def allB (x : Int) : Int := IntKind.u64.wrap (IntKind.u64.wrap (2 ^ lenN x.toNat) - 1)

theorem allBits_any (x : Int) (w : World) (_h1 : 0 ≤ x) (_g1 : x < 18446744073709551616) :
  Calls Tryz.prog 160 #[.int .u64 x] w fun e w' => e = .returned (.int .u64 (allB x)) ∧ w' = w := by
 have l1 : (0 : Int) ≤ ((lenN x.toNat : Nat) : Int) := by omega
 have l2 : ((lenN x.toNat : Nat) : Int) ≤ 64 := by have := lenN_64 x.toNat (by omega); omega
 unfold allB
 go_enter Tryz.func160, Tryz.ntmps160
 go_wp2_with (go_at_call 192; refine (len64_any x _ _h1 _g1).mono ?_; rintro e w0 ⟨rfl, rfl⟩)
 go_ret
 exact ⟨rfl, rfl⟩

theorem kXor_any (al am bl bm : Int) (w : World) (_h1 : 0 ≤ al) (_h2 : 0 ≤ am) (_h3 : 0 ≤ bl) (_h4 : 0 ≤ bm) (_g1 : al < 18446744073709551616) (_g2 : am < 18446744073709551616) (_g3 : bl < 18446744073709551616) (_g4 : bm < 18446744073709551616) (_q1 : 0 ≤ bits .or .u64 am bm) (_q2 : bits .or .u64 am bm < 18446744073709551616) :
  Calls Tryz.prog 99 #[.agg #[.int .u64 al, .int .u64 am], .agg #[.int .u64 bl, .int .u64 bm]] w fun e w' => e = .returned (.agg #[.int .u64 (0), .int .u64 (allB (bits .or .u64 am bm))]) ∧ Below w.heap.size w w' := by
 go_enter Tryz.func99, Tryz.ntmps99
 go_wp2_with (go_at_call 160; refine (allBits_any _ _ _q1 _q2).mono ?_; rintro e w0 ⟨rfl, rfl⟩)
 exact bodyPost_ret (v := .agg #[.int .u64 (0), .int .u64 (allB (bits .or .u64 am bm))]) (by simp [results, Tryz.results99, go_sem]) rfl ⟨rfl, bel3 _ _ _ _⟩

theorem kShl_any (al am bl bm : Int) (w : World) (_h1 : 0 ≤ al) (_h2 : 0 ≤ am) (_h3 : 0 ≤ bl) (_h4 : 0 ≤ bm) (_g1 : al < 18446744073709551616) (_g2 : am < 18446744073709551616) (_g3 : bl < 18446744073709551616) (_g4 : bm < 18446744073709551616) :
  Calls Tryz.prog 101 #[.agg #[.int .u64 al, .int .u64 am], .agg #[.int .u64 bl, .int .u64 bm]] w fun e w' => e = .returned (.agg #[.int .u64 (ordL ((bl == bm) && (IntKind.u64.wrap (am * 2 ^ (bl % 64).toNat) / 2 ^ (bl % 64).toNat == am)) (IntKind.u64.wrap (al * 2 ^ (bl % 64).toNat))), .int .u64 (ordM ((bl == bm) && (IntKind.u64.wrap (am * 2 ^ (bl % 64).toNat) / 2 ^ (bl % 64).toNat == am)) (IntKind.u64.wrap (am * 2 ^ (bl % 64).toNat)))]) ∧ Below w.heap.size w w' := by
 have a63 := and63 bl _h3 _g3
 have y0 : 0 ≤ bl % 64 := by omega
 have y1 : bl % 64 ≤ 64 := by omega
 cases hq : (bl == bm)
 ·go_enter Tryz.func101, Tryz.ntmps101
  go_wp2_with (go_at_call 159; refine (inOrder_any _ _ _ _).mono ?_; rintro e w1 ⟨rfl, hb1⟩; have c0 := cellKeep hb1 (g := w.heap.size + 1 + 1) (j := 0) (v := .int .u64 0) (by simp [go_sem]); have c1 := cellKeep hb1 (g := w.heap.size + 1 + 1) (j := 1) (v := .int .u64 0) (by simp [go_sem]); have z0 := frozenKeep hb1 (g := w.heap.size + 1 + 1) (by simp) (fun j => by simp [go_sem]))
  have hB1 : Below w.heap.size w w1 := (bel3 w _ _ _).trans (hb1.mono (by simp; omega))
  exact bodyPost_ret (v := .agg #[.int .u64 (ordL (false && (IntKind.u64.wrap (am * 2 ^ (bl % 64).toNat) / 2 ^ (bl % 64).toNat == am)) (IntKind.u64.wrap (al * 2 ^ (bl % 64).toNat))), .int .u64 (ordM (false && (IntKind.u64.wrap (am * 2 ^ (bl % 64).toNat) / 2 ^ (bl % 64).toNat == am)) (IntKind.u64.wrap (am * 2 ^ (bl % 64).toNat)))]) (by simp [results, Tryz.results101, go_sem, c0, c1]) rfl ⟨rfl, (hB1.setCell (by simp; try omega) _).setCell (by simp; try omega) _⟩
 ·go_enter Tryz.func101, Tryz.ntmps101
  go_wp2_with (go_at_call 159; refine (inOrder_any _ _ _ _).mono ?_; rintro e w1 ⟨rfl, hb1⟩; have c0 := cellKeep hb1 (g := w.heap.size + 1 + 1) (j := 0) (v := .int .u64 0) (by simp [go_sem]); have c1 := cellKeep hb1 (g := w.heap.size + 1 + 1) (j := 1) (v := .int .u64 0) (by simp [go_sem]); have z0 := frozenKeep hb1 (g := w.heap.size + 1 + 1) (by simp) (fun j => by simp [go_sem]))
  have hB1 : Below w.heap.size w w1 := (bel3 w _ _ _).trans (hb1.mono (by simp; omega))
  exact bodyPost_ret (v := .agg #[.int .u64 (ordL (true && (IntKind.u64.wrap (am * 2 ^ (bl % 64).toNat) / 2 ^ (bl % 64).toNat == am)) (IntKind.u64.wrap (al * 2 ^ (bl % 64).toNat))), .int .u64 (ordM (true && (IntKind.u64.wrap (am * 2 ^ (bl % 64).toNat) / 2 ^ (bl % 64).toNat == am)) (IntKind.u64.wrap (am * 2 ^ (bl % 64).toNat)))]) (by simp [results, Tryz.results101, go_sem, c0, c1]) rfl ⟨rfl, (hB1.setCell (by simp; try omega) _).setCell (by simp; try omega) _⟩

theorem kShr_any (al am bl bm : Int) (w : World) (_h1 : 0 ≤ al) (_h2 : 0 ≤ am) (_h3 : 0 ≤ bl) (_h4 : 0 ≤ bm) (_g1 : al < 18446744073709551616) (_g2 : am < 18446744073709551616) (_g3 : bl < 18446744073709551616) (_g4 : bm < 18446744073709551616) :
  Calls Tryz.prog 103 #[.agg #[.int .u64 al, .int .u64 am], .agg #[.int .u64 bl, .int .u64 bm]] w fun e w' => e = .returned (.agg #[.int .u64 (if bl = bm then al / 2 ^ (bl % 64).toNat else 0), .int .u64 (if bl = bm then am / 2 ^ (bl % 64).toNat else am)]) ∧ Below w.heap.size w w' := by
 have a63 := and63 bl _h3 _g3
 have y0 : 0 ≤ bl % 64 := by omega
 have y1 : bl % 64 ≤ 64 := by omega
 by_cases hb : bl = bm
 ·rw [if_pos hb, if_pos hb]
  have hb' : (bl != bm) = false := by simpa using hb
  have HB := hideK hb
  clear hb
  go_enter Tryz.func103, Tryz.ntmps103
  go_wp2
  exact bodyPost_ret (v := .agg #[.int .u64 (al / 2 ^ (bl % 64).toNat), .int .u64 (am / 2 ^ (bl % 64).toNat)]) (by simp [results, Tryz.results103, go_sem]) rfl ⟨rfl, bel3 _ _ _ _⟩
 ·rw [if_neg hb, if_neg hb]
  have hb' : (bl != bm) = true := by simpa using hb
  have HB := hideK hb
  clear hb
  go_enter Tryz.func103, Tryz.ntmps103
  go_wp2
  exact bodyPost_ret (v := .agg #[.int .u64 (0), .int .u64 (am)]) (by simp [results, Tryz.results103, go_sem]) rfl ⟨rfl, bel3 _ _ _ _⟩
end Go.Proofs.YtoobileejdhikaaGreat

namespace Go.Proofs.YtoobileejdhikaaGreat
set_option maxRecDepth 100000
set_option maxHeartbeats 1000000
open Go.RowKit

def maxI (a b : Int) : Int := if a < b then b else a

theorem kOr_any (al am bl bm : Int) (w : World) (_h1 : 0 ≤ al) (_h2 : 0 ≤ am) (_h3 : 0 ≤ bl) (_h4 : 0 ≤ bm) (_g1 : al < 18446744073709551616) (_g2 : am < 18446744073709551616) (_g3 : bl < 18446744073709551616) (_g4 : bm < 18446744073709551616) (_q1 : 0 ≤ bits .or .u64 am bm) (_q2 : bits .or .u64 am bm < 18446744073709551616) :
  Calls Tryz.prog 97 #[.agg #[.int .u64 al, .int .u64 am], .agg #[.int .u64 bl, .int .u64 bm]] w fun e w' => e = .returned (.agg #[.int .u64 (maxI al bl), .int .u64 (allB (bits .or .u64 am bm))]) ∧ Below w.heap.size w w' := by
 have hmx : (if al < bl then bl else al) = maxI al bl := rfl
 go_enter Tryz.func97, Tryz.ntmps97
 go_wp2_with fail
 refine wp_region_noPanic ?_
 refine wp_region_held_drew (S := fun w' => w'.cell? ⟨w.heap.size, 0, none⟩ = some (.int .u64 al) ∧ w'.cell? ⟨w.heap.size, 1, none⟩ = some (.int .u64 am) ∧ w'.cell? ⟨w.heap.size + 1, 0, none⟩ = some (.int .u64 bl) ∧ w'.cell? ⟨w.heap.size + 1, 1, none⟩ = some (.int .u64 bm)) (by kernel_rfl) (by (try dsimp only); go_keep) (fun hHeld => ?_)
 refine tkH 0 ?_
 try simp only [Act.put]
 refine tkH 1 ?_
 try simp only [Act.put]
 refine tkH 2 ?_
 try simp only [Act.put]
 refine tkH 3 ?_
 try simp only [Act.put]
 refine tkH 5 ?_
 try simp only [Act.put]
 refine tkH 6 ?_
 try simp only [Act.put]
 refine tkH 7 ?_
 try simp only [Act.put]
 refine tkH 8 ?_
 try simp only [Act.put]
 refine tkH 9 ?_
 try simp only [Act.put]
 refine wpAnyH_ready (rs := [4, 10]) (by kernel_rfl) (by simp) ?_
 refine AllReadyH.cons rfl (fun K hK => ?_) ?_
 ·go_simp
  refine hK.out _ _ ?_ (fun hHeld => ?_)
  ·(try dsimp only); first | exact hHeld | go_keep
  clear hK K
  try simp only [Act.put]
  refine rdH 10 (fun K hK => ?_)
  go_simp
  refine (allBits_any _ _ _q1 _q2).mono ?_
  rintro e w0 ⟨rfl, rfl⟩
  go_wp2_with fail
  refine hK.out _ _ ?_ (fun hHeld => ?_)
  ·(try dsimp only); first | exact hHeld | go_keep
  clear hK K
  try simp only [Act.put]
  refine rdH 11 (fun K hK => ?_)
  go_simp
  refine hK.out _ _ ?_ (fun hHeld => ?_)
  ·(try dsimp only); first | exact hHeld | go_keep
  clear hK K
  try simp only [Act.put]
  refine rdH 12 (fun K hK => ?_)
  go_simp
  refine hK.out _ _ ?_ (fun hHeld => ?_)
  ·(try dsimp only); first | exact hHeld | go_keep
  clear hK K
  try simp only [Act.put]
  refine wpAnyH_done (by kernel_rfl) ?_ _
  refine NoPanic.normal ?_
  all_goals go_wp2
  exact bodyPost_ret (v := .agg #[.int .u64 (maxI al bl), .int .u64 (allB (bits .or .u64 am bm))]) (by simp [results, Tryz.results97, go_sem]) rfl ⟨rfl, (bel3 _ _ _ _).drew⟩
 refine AllReadyH.cons rfl (fun K hK => ?_) AllReadyH.nil
 go_simp
 refine (allBits_any _ _ _q1 _q2).mono ?_
 rintro e w0 ⟨rfl, rfl⟩
 go_wp2_with fail
 refine hK.out _ _ ?_ (fun hHeld => ?_)
 ·(try dsimp only); first | exact hHeld | go_keep
 clear hK K
 try simp only [Act.put]
 refine rdH 4 (fun K hK => ?_)
 go_simp
 refine hK.out _ _ ?_ (fun hHeld => ?_)
 ·(try dsimp only); first | exact hHeld | go_keep
 clear hK K
 try simp only [Act.put]
 refine rdH 11 (fun K hK => ?_)
 go_simp
 refine hK.out _ _ ?_ (fun hHeld => ?_)
 ·(try dsimp only); first | exact hHeld | go_keep
 clear hK K
 try simp only [Act.put]
 refine rdH 12 (fun K hK => ?_)
 go_simp
 refine hK.out _ _ ?_ (fun hHeld => ?_)
 ·(try dsimp only); first | exact hHeld | go_keep
 clear hK K
 try simp only [Act.put]
 refine wpAnyH_done (by kernel_rfl) ?_ _
 refine NoPanic.normal ?_
 all_goals go_wp2
 exact bodyPost_ret (v := .agg #[.int .u64 (maxI al bl), .int .u64 (allB (bits .or .u64 am bm))]) (by simp [results, Tryz.results97, go_sem]) rfl ⟨rfl, (bel3 _ _ _ _).drew⟩

end Go.Proofs.YtoobileejdhikaaGreat
