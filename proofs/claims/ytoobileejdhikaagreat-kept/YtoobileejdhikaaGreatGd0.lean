/-
  The statements without the document's answer: their own small functions: numbers folded into bounds, instructions, code.
  The statements without the document's answer: tests, code that is let in, what a filter says of a frame.
-/
import Derived.Test.YtoobileejdhikaaGreatGc9
import Derived.Deep.AppendLies
import Derived.Laws.BytesArg
namespace Go.Proofs.YtoobileejdhikaaGreat
open Go.RowKit

def pickR (c n : Int) : Int := (if c < 0 then -(c + 1) else c) % n
theorem pickR_bd (c n : Int) (hn : 0 < n) : 0 ≤ pickR c n ∧ pickR c n < n := ⟨Int.emod_nonneg _ (by omega), Int.emod_lt_of_pos _ hn⟩
theorem pickR_eq (c n : Int) : pickR c n = (if c < 0 then -(c + 1) else c) % n := rfl

set_option maxRecDepth 100000 in
set_option maxHeartbeats 400000 in
theorem wpick_any (c n : Int) (w : World) (c0 : -9223372036854775808 ≤ c) (c1 : c ≤ 9223372036854775807) (n0 : 0 < n) (n1 : n ≤ 9223372036854775807) :
    Calls Tryz.prog 22 #[.int .i64 c, .int .i64 n] w fun e w' => e = .returned (.int .i64 (pickR c n)) ∧ w = w' := by
  have nz : (n == 0) = false := by simp; omega
  by_cases h : c < 0
  · have HE : Hid (pickR c n = -(c + 1) % n) := by show _ = _; rw [pickR, if_pos h]
    rw [HE.out]
    clear HE
    go_enter Tryz.func22, Tryz.ntmps22
    go_wp2
    go_ret
    refine ⟨ret_int ?_, rfl⟩
    rw [← Int.neg_tmod, Int.tmod_eq_emod_of_nonneg (by omega)]
  · have HE : Hid (pickR c n = c % n) := by show _ = _; rw [pickR, if_neg h]
    rw [HE.out]
    clear HE
    have h' : 0 ≤ c := by omega
    go_enter Tryz.func22, Tryz.ntmps22
    go_wp2
    go_ret
    exact ⟨rfl, rfl⟩

/-- An instruction's bytes. -/
def insB (op d s o n : Int) : List Int := [op, d + 16 * s, o % 256, o / 256 % 256, n % 256, n / 256 % 256, n / 65536 % 256, n / 16777216 % 256]
/-- Memory that a call owns and that holds these bytes. -/
def Bys (W : World) (base : Nat) (v : Value) (xs : List Int) : Prop := W.ownsRow base 5 1 v xs.length (byV xs)
/-- A list of bytes that is not nil. -/
def PartAt (W : World) (v : Value) (xs : List Int) : Prop := ∃ ad c, v = .slice (some ad) xs.length c ∧ ∀ j u, (byV xs)[j]? = some u → W.cell? (ad.add j) = some u
theorem PartAt.later {W W' : World} {v : Value} {xs : List Int} (h : PartAt W v xs) (hb : Below W.heap.size W W') : PartAt W' v xs := by
  obtain ⟨ad, c, e, h⟩ := h
  exact ⟨ad, c, e, fun j u hj => cell_later' hb rfl (h j u hj)⟩
theorem Bys.form {W : World} {b : Nat} {v : Value} {xs : List Int} (h : Bys W b v xs) (hn : 0 < xs.length) : ∃ g c, v = .slice (some ⟨g, 0, none⟩) xs.length c ∧ b ≤ g ∧ g < W.heap.size := World.ownsRow.form h hn
theorem Bys.part {W : World} {b : Nat} {v : Value} {xs : List Int} (h : Bys W b v xs) (hn : 0 < xs.length) : PartAt W v xs := by
  obtain ⟨g, c, rfl, _, _⟩ := h.form hn
  exact ⟨_, c, rfl, fun j u hj => World.ownsRow.cells h (g := g) rfl j u hj⟩
theorem Bys.later {W W' : World} {b : Nat} {v : Value} {xs : List Int} (h : Bys W b v xs) (hb : Below W.heap.size W W') : Bys W' b v xs := ownsRow_below h hb
theorem Bys.base {W : World} {b b' : Nat} {v : Value} {xs : List Int} (h : Bys W b' v xs) (hb : b ≤ b') : Bys W b v xs := ownsRow_base hb h

set_option maxRecDepth 100000 in
set_option maxHeartbeats 400000 in
theorem wins_any (op d s o n : Int) (w : World) (h1 : 0 ≤ op) (h2 : op ≤ 255) (d1 : 0 ≤ d) (d2 : d ≤ 15) (s1 : 0 ≤ s) (s2 : s ≤ 15) :
    Calls Tryz.prog 23 #[.int .i64 op, .int .i64 d, .int .i64 s, .int .i64 o, .int .i64 n] w fun e w' => ∃ g c, e = .returned (.slice (some ⟨g, 0, none⟩) 8 c) ∧ Bys w' w.heap.size (.slice (some ⟨g, 0, none⟩) 8 c) (insB op d s o n) ∧ Below w.heap.size w w' := by
  go_enter Tryz.func23, Tryz.ntmps23
  go_wp2
  go_ret
  exact ⟨_, _, rfl, ⟨rfl, .inr ⟨_, _, _, rfl, Nat.le_refl _, heap_alloc_new w _, Nat.le_refl _, by unfold maxLen; decide, rfl, rfl⟩⟩, (Below.refl _ _).alloc (Nat.le_refl _) _⟩

set_option maxRecDepth 100000 in
set_option maxHeartbeats 400000 in
theorem wmov_any (d n : Int) (w : World) (d1 : 0 ≤ d) (d2 : d ≤ 15) :
    Calls Tryz.prog 28 #[.int .i64 d, .int .i64 n] w fun e w' => ∃ g c, e = .returned (.slice (some ⟨g, 0, none⟩) 8 c) ∧ Bys w' w.heap.size (.slice (some ⟨g, 0, none⟩) 8 c) (insB 129 d 0 0 n) ∧ Below w.heap.size w w' := by
  go_enter Tryz.func28, Tryz.ntmps28
  go_wp2_with (go_at_call 23; refine (wins_any 129 d 0 0 n _ (by decide) (by decide) d1 d2 (by decide) (by decide)).mono ?_; rintro e w' ⟨g, c, rfl, hown, hb⟩)
  go_ret
  exact ⟨g, c, rfl, hown, hb⟩

/-- The law of append, at bytes: onto memory that the call owns, from a part. -/
theorem wpList_app {w : World} {ops : Array Oper} {rest : List Oper} {o : Oper} {a : Act} {Q : Exit → Act → World → Prop} (hgd : o.guard = none) (s x : Operand)
    (ho : o.op = .call { callee := .builtin .append, args := #[s, x], argTypes := #[22, 22] }) (base : Nat) (v : Value) (xs ys : List Int) (u : Value) (hs : a.eval s = v) (hown : Bys w base v xs) (hx : a.eval x = u) (hp : PartAt w u ys)
    (h63 : xs.length + ys.length ≤ 100000) (hbase : base ≤ w.heap.size)
    (h : ∀ v' w', Bys w' base v' (xs ++ ys) → w.grownBy w' v.ownBlock → wpList Tryz.prog ops Q rest (a.put o.dst v') w') : wpList Tryz.prog ops Q (o :: rest) a w := by
  obtain ⟨i0, hi, hz0, hz1, hz2⟩ := info_partsX infoU8
  obtain ⟨ad, c, rfl, hp⟩ := hp
  refine wpList_append_own _ hgd s x 22 ho base 5 i0 _ 1 1 Tryz.underlying22 hi hz0 hz1 hz2 rfl (by omega) v xs.length (byV xs) hs hown ad ys.length c (byV ys) hx (by rw [byV_len]; omega) hp (byV_one ys) (by unfold maxLen; omega) (by omega) hbase ?_
  intro v1 w1 h1 h2 _
  refine h v1 w1 ?_ h2
  unfold Bys
  rw [List.length_append]
  have : byV (xs ++ ys) = byV xs ++ byV ys := by simp [byV]
  rw [this]; exact h1

set_option maxRecDepth 100000 in
set_option maxHeartbeats 400000 in
theorem wout_any (n : Int) (w : World) :
    Calls Tryz.prog 27 #[.int .i64 n] w fun e w' => ∃ g c, e = .returned (.slice (some ⟨g, 0, none⟩) 16 c) ∧ Bys w' w.heap.size (.slice (some ⟨g, 0, none⟩) 16 c) (insB 129 0 0 0 n ++ insB 41 0 0 0 0) ∧ Below w.heap.size w w' := by
  go_enter Tryz.func27, Tryz.ntmps27
  go_wp2_with fail
  refine (wmov_any 0 n _ (by decide) (by decide)).mono ?_
  rintro e w1 ⟨g1, c1, rfl, o1, b1⟩
  go_wp2_with fail
  refine (wins_any 41 0 0 0 0 _ (by decide) (by decide) (by decide) (by decide) (by decide) (by decide)).mono ?_
  rintro e w2 ⟨g2, c2, rfl, o2, b2⟩
  have o1' := o1.later b2
  have p2 := o2.part (by decide)
  have b12 := b1.trans (b2.mono b1.size)
  go_wp2_with (refine wpList_app rfl _ _ rfl w.heap.size _ _ _ _ rfl o1' rfl p2 (by simp [insB]) b12.size ?_; intro v3 w3 o3 g3)
  go_ret
  obtain ⟨g4, c4, rfl, _, _⟩ := o3.form (by show 0 < 16; decide)
  exact ⟨g4, c4, rfl, o3, b12.grown g3 b12.size (fun k hk => (World.ownsRow.lt o1' k hk).1)⟩

def catP (P : Nat → List Int) : Nat → List Int
  | 0 => []
  | k + 1 => catP P k ++ P k
theorem catP_le (P : Nat → List Int) (m : Nat) : ∀ k, (∀ i, i < k → (P i).length ≤ m) → (catP P k).length ≤ k * m
  | 0, _ => by simp [catP]
  | k + 1, h => by
    have h1 := catP_le P m k (fun i hi => h i (by omega))
    have h2 := h k (by omega)
    simp only [catP, List.length_append, Nat.add_mul]; omega

set_option maxRecDepth 100000 in
set_option maxHeartbeats 400000 in
theorem wcode_any (L k cap : Nat) (vals : Nat → Value) (P : Nat → List Int) (w : World) (hk : k ≤ 64) (hl : ∀ i, i < k → (P i).length ≤ 100) (hc : ∀ i, i < k → w.cell? ⟨L, i, none⟩ = some (vals i)) (hp : ∀ i, i < k → PartAt w (vals i) (P i)) (N : Nat) (hN : (catP P k).length = N) (hN1 : 0 < N) :
    Calls Tryz.prog 25 #[.slice (some ⟨L, 0, none⟩) k cap] w fun e w' => ∃ g c, e = .returned (.slice (some ⟨g, 0, none⟩) N c) ∧ Bys w' w.heap.size (.slice (some ⟨g, 0, none⟩) N c) (catP P k) ∧ Below w.heap.size w w' := by
  have HL := hideX hl
  have HC := hideX hc
  have HP := hideX hp
  clear hl hc hp
  go_enter Tryz.func25, Tryz.ntmps25
  go_wp2
  go_loopw [3, 4] (fun out i wr => ∃ j : Nat, j ≤ k ∧ i = .int .i64 j ∧ Bys wr w.heap.size out (catP P j) ∧ Below w.heap.size w wr) (fun _ i _ => k - (intOf i).toNat)
  case atStart => exact ⟨0, by omega, rfl, World.ownsRow_nil _ _ _ _, Below.refl _ _⟩
  case round =>
    obtain ⟨j, hj, rfl, ho, hb⟩ := hrel
    by_cases hlt : j < k
    · have cj := cell_later' hb rfl (HC.out j hlt)
      have pj := (HP.out j hlt).later hb
      have lj := catP_le P 100 j (fun i hi => HL.out i (by omega))
      have lk := HL.out j hlt
      have HO := hideX ho
      clear ho
      go_wp2_with (refine wpList_app rfl _ _ rfl w.heap.size _ _ _ (vals j) rfl HO.out rfl pj (by omega) hb.size ?_; intro v3 w3 o3 g3)
      go_roundw
      case rel => exact ⟨j + 1, by omega, by go_num, o3, hb.grown g3 hb.size (fun q hq => (World.ownsRow.lt HO.out q hq).1)⟩
      case measure => simp [intOf]; omega
    · have hjk : j = k := by omega
      subst hjk
      obtain ⟨g4, c4, e4, _, _⟩ := ho.form (by omega)
      rw [hN] at e4
      subst e4
      go_wp2
      go_ret
      exact ⟨g4, c4, rfl, ho, hb⟩
end Go.Proofs.YtoobileejdhikaaGreat

namespace Go.Proofs.YtoobileejdhikaaGreat
open Go.RowKit

theorem conv_bytes {w : World} {a : Option Addr} {n : Nat} (c : Nat) {xs : List Int} (hx : xs.length = n) (h : BytesAt w a xs) : Sem.run Tryz.prog (convert 22 9 (.slice a n c)) w = .ok (.string (strOfNums xs)) w := by
  refine (run_convert_bytes_string w 22 9 5 a n c Tryz.underlying22 Tryz.underlying5 Tryz.underlying9).trans ?_
  cases a with
  | none =>
    rcases h with rfl | ⟨ad, e, _⟩
    · simp [Conv.bytesToString]; rfl
    · cases e
  | some ad =>
    have hl : (loadCells ad n).run Tryz.prog w = .ok (xs.map (Value.int .u8)).toArray w := by
      have := run_loadCells_list (P := Tryz.prog) w ad (byV xs) (fun j v hj => by
        rcases h with rfl | ⟨ad', e, h⟩
        · simp [byV] at hj
        · cases e; exact h j v hj)
      rw [byV_len, hx] at this
      exact this
    rw [run_bytesToString w _ n c xs hl, foldl_push_bytes]
    simp [strOfNums, ByteArray.empty, ByteArray.emptyWithCapacity]
    rfl
theorem conv_own {w : World} {b n : Nat} {v : Value} {xs : List Int} (h : w.ownsRow b 5 1 v n (byV xs)) : Sem.run Tryz.prog (convert 22 9 v) w = .ok (.string (strOfNums xs)) w := by
  have hn : xs.length = n := by have := h.1; rw [byV_len] at this; omega
  have h' := h
  obtain ⟨_, ⟨rfl, rfl⟩ | ⟨g, cap, cur, rfl, _⟩⟩ := h'
  · exact conv_bytes 0 hn (.inl (List.eq_nil_of_length_eq_zero hn))
  · exact conv_bytes cap hn (.inr ⟨_, rfl, fun j u hj => World.ownsRow.cells h (g := g) rfl j u hj⟩)
theorem BytesAt.later {w w' : World} {a : Option Addr} {xs : List Int} (h : BytesAt w a xs) (hb : Below w.heap.size w w') : BytesAt w' a xs := by
  rcases h with e | ⟨ad, e, h⟩
  · exact .inl e
  · exact .inr ⟨ad, e, fun j u hj => cell_later' hb rfl (h j u hj)⟩

def testB (n over : Int) : List Int := insB 1 3 1 0 0 ++ insB 130 3 0 0 n ++ insB 33 3 2 over 0

set_option maxRecDepth 100000 in
set_option maxHeartbeats 400000 in
theorem wtest_any (n over : Int) (w : World) :
    Calls Tryz.prog 26 #[.int .i64 n, .int .i64 over] w fun e w' => ∃ g c, e = .returned (.slice (some ⟨g, 0, none⟩) 24 c) ∧ Bys w' w.heap.size (.slice (some ⟨g, 0, none⟩) 24 c) (testB n over) ∧ Below w.heap.size w w' := by
  go_enter Tryz.func26, Tryz.ntmps26
  go_wp2_with fail
  refine (wins_any 1 3 1 0 0 _ (by decide) (by decide) (by decide) (by decide) (by decide) (by decide)).mono ?_
  rintro e w1 ⟨g1, c1, rfl, o1, b1⟩
  go_wp2_with fail
  refine (wins_any 130 3 0 0 n _ (by decide) (by decide) (by decide) (by decide) (by decide) (by decide)).mono ?_
  rintro e w2 ⟨g2, c2, rfl, o2, b2⟩
  go_wp2_with fail
  refine (wins_any 33 3 2 over 0 _ (by decide) (by decide) (by decide) (by decide) (by decide) (by decide)).mono ?_
  rintro e w3 ⟨g3, c3, rfl, o3, b3⟩
  have p1 := ((o1.part (by show 0 < 8; decide)).later b2).later b3
  have p2 := (o2.part (by show 0 < 8; decide)).later b3
  have p3 := o3.part (by show 0 < 8; decide)
  have b13 := (b1.trans (b2.mono b1.size)).trans (b3.mono (Nat.le_trans b1.size b2.size))
  have C := fun (wx : World) (hx : wx = w3.alloc (.cells #[Value.slice (some ⟨g1, 0, none⟩) 8 c1, Value.slice (some ⟨g2, 0, none⟩) 8 c2, Value.slice (some ⟨g3, 0, none⟩) 8 c3] 22)) => wcode_any w3.heap.size 3 3 (fun i => [Value.slice (some ⟨g1, 0, none⟩) 8 c1, Value.slice (some ⟨g2, 0, none⟩) 8 c2, Value.slice (some ⟨g3, 0, none⟩) 8 c3].getD i .nilFunc) (fun i => [insB 1 3 1 0 0, insB 130 3 0 0 n, insB 33 3 2 over 0].getD i []) wx (by decide)
    (fun i hi => by match i, hi with | 0, _ => exact (by decide : 8 ≤ 100) | 1, _ => exact (by decide : 8 ≤ 100) | 2, _ => exact (by decide : 8 ≤ 100))
    (fun i hi => by subst hx; match i, hi with | 0, _ => simp [go_sem] | 1, _ => simp [go_sem] | 2, _ => simp [go_sem])
    (fun i hi => by
      subst hx
      have hb : Below w3.heap.size w3 (w3.alloc (.cells #[Value.slice (some ⟨g1, 0, none⟩) 8 c1, Value.slice (some ⟨g2, 0, none⟩) 8 c2, Value.slice (some ⟨g3, 0, none⟩) 8 c3] 22)) := (Below.refl _ _).alloc (Nat.le_refl _) _
      match i, hi with
      | 0, _ => exact p1.later hb
      | 1, _ => exact p2.later hb
      | 2, _ => exact p3.later hb) 24 rfl (by decide)
  go_wp2_with fail
  refine (C _ rfl).mono ?_
  rintro e w4 ⟨g4, c4, rfl, o4, b4⟩
  have hb : Below w.heap.size w (w3.alloc (.cells #[Value.slice (some ⟨g1, 0, none⟩) 8 c1, Value.slice (some ⟨g2, 0, none⟩) 8 c2, Value.slice (some ⟨g3, 0, none⟩) 8 c3] 22)) := b13.alloc b13.size _
  go_wp2_with fail
  go_ret
  exact ⟨g4, c4, rfl, by have := o4.base hb.size; simpa [catP, testB] using this, hb.trans (b4.mono hb.size)⟩

def lb (xs : List Int) (i : Nat) : Int := xs.getD i 0
theorem lb_code (xs : List Int) : codeL (lb xs) xs.length = xs := by
  apply List.ext_getElem?
  intro i
  by_cases h : i < xs.length
  · simp [codeL, lb, List.getElem?_range h, List.getElem?_eq_getElem h]
  · rw [List.getElem?_eq_none (by rw [codeL_len]; omega), List.getElem?_eq_none (by omega)]
theorem lb_bd {xs : List Int} (h : ∀ x ∈ xs, 0 ≤ x ∧ x ≤ 255) (i : Nat) : 0 ≤ lb xs i ∧ lb xs i ≤ 255 := by
  unfold lb
  by_cases hi : i < xs.length
  · have := h _ (List.getElem_mem hi)
    simpa [List.getElem?_eq_getElem hi] using this
  · simp [List.getElem?_eq_none (Nat.le_of_not_lt hi)]
/-- Load of code that the call holds. -/
theorem load_part {xs : List Int} {n : Nat} {v : Value} (w : World) {b : Nat} (hl : xs.length = 8 * n) (hn1 : 1 ≤ n) (hn2 : n ≤ 64) (hx : ∀ x ∈ xs, 0 ≤ x ∧ x ≤ 255) (h : Bys w b v xs) :
    Calls Tryz.prog 13 #[v] w fun e w' => LoadEnd (lb xs) n w.heap.size e w' ∧ Below w.heap.size w w' := by
  obtain ⟨g, c, rfl, _, _⟩ := h.form (by omega)
  have hc : xs.length ≤ c ∧ c ≤ 9223372036854775807 := by
    obtain ⟨_, h1 | ⟨g', cap', cur, h1, h2, h3, h4, h5, h6⟩⟩ := h
    · simp at h1
    · simp at h1; unfold maxLen at h5; omega
  refine load_any (lb xs) g 0 xs.length c n w hl hn1 hn2 hc.1 hc.2 (fun i hi => ?_) (lb_bd hx)
  have := World.ownsRow.cells h (g := g) rfl i (.int .u8 (lb xs i)) (by simp [byV, lb, List.getElem?_eq_getElem hi])
  rw [addr_add] at this
  exact this

set_option maxRecDepth 100000 in
set_option maxHeartbeats 400000 in
theorem wlet_any {xs : List Int} {n : Nat} {v : Value} (w : World) {b : Nat} (hl : xs.length = 8 * n) (hn1 : 1 ≤ n) (hn2 : n ≤ 64) (hx : ∀ x ∈ xs, 0 ≤ x ∧ x ≤ 255) (h : Bys w b v xs) (hg : ∀ j, j < n → badP (lb xs) n j = false) (hs : safeP (piOf (lb xs)) n = none) :
    Calls Tryz.prog 24 #[v] w fun e w' => ∃ f g c, e = .returned (.pointer (some ⟨f, 0, none⟩)) ∧ FiltAt w' f g c xs ∧ w.heap.size ≤ f ∧ w.heap.size ≤ g ∧ Below w.heap.size w w' := by
  have C := load_part w hl hn1 hn2 hx h
  have HC := hideX C
  clear C
  go_enter Tryz.func24, Tryz.ntmps24
  go_wp2_with fail
  refine HC.out.mono ?_
  rintro e w1 ⟨he, hb⟩
  have he' : ∃ f g c, e = .returned (.tuple #[.pointer (some ⟨f, 0, none⟩), .int .i64 0, .int .i64 0]) ∧ FiltAt w1 f g c xs ∧ w.heap.size ≤ f ∧ w.heap.size ≤ g := by
    rcases he with ⟨i, hi, hbad, _⟩ | ⟨_, ⟨k, hk, _⟩ | ⟨_, f, g, c, e1, e2, e3, e4⟩⟩
    · rw [hg i hi] at hbad; cases hbad
    · rw [hs] at hk; cases hk
    · rw [← hl, lb_code] at e2; exact ⟨f, g, c, e1, e2, e3, e4⟩
  obtain ⟨f, g, c, rfl, hf, h1, h2⟩ := he'
  clear he HC
  go_wp2_with fail
  go_ret
  exact ⟨f, g, c, rfl, hf, h1, h2, hb⟩

set_option maxRecDepth 100000 in
set_option maxHeartbeats 400000 in
theorem framed_any (a : Option Addr) (n c : Nat) (w : World) (hn : n ≤ c) (_hc : c ≤ 9223372036854775807) :
    Calls Tryz.prog 30 #[.slice a n c] w fun e w' => e = .returned (.slice a (if 64 < n then 64 else n) c) ∧ w = w' := by
  by_cases h : 64 < n
  · have q : (64 : Int) < n := by omega
    have q2 : (64 : Int) ≤ c := by omega
    rw [if_pos h]
    go_enter Tryz.func30, Tryz.ntmps30
    go_wp2
    go_ret
    exact ⟨rfl, rfl⟩
  · have q : (n : Int) ≤ 64 := by omega
    rw [if_neg h]
    go_enter Tryz.func30, Tryz.ntmps30
    go_wp2
    go_ret
    exact ⟨rfl, rfl⟩

set_option maxRecDepth 100000 in
set_option maxHeartbeats 400000 in
theorem says_any {cs : List Int} {n : Nat} (f g cap : Nat) (a : Option Addr) (ln c : Nat) (xs : List Int) (v : Int) (la : Option Addr) (ll lc : Nat) (ys : List Int) (w : World) (fin : MS) (hl : cs.length = 8 * n) (hn1 : 1 ≤ n) (hn2 : n ≤ 64) (h : FiltAt w f g cap cs) (hcs : ∀ x ∈ cs, 0 ≤ x ∧ x ≤ 255)
    (hgood : ∀ j, j < n → badP (lb cs) n j = false) (hx : xs.length = ln) (hln : ln ≤ 64) (hc : BytesAt w a xs) (hxb : ∀ x ∈ xs, 0 ≤ x ∧ x ≤ 255) (hrun : runR (piOf (lb cs)) n n 0 (startM xs) = some fin) (hv : fin.v 0 = v) (hv2 : v < 9223372036854775808) (hy : ys.length = ll) (hcy : BytesAt w la ys) (hleft : fin.left = ys) :
    Calls Tryz.prog 29 #[.pointer (some ⟨f, 0, none⟩), .slice a ln c, .int .i64 v, .slice la ll lc] w fun e w' => e = .returned (.bool true) ∧ Below w.heap.size w w' := by
  have C := run_any (lb cs) n f g cap a ln c xs w fin hn1 hn2 (by rw [← hl, lb_code]; exact h) (lb_bd hcs) hgood hx hln hc hxb hrun (by omega)
  subst hv hleft
  have HC := hideX C
  clear C hrun hgood h
  go_enter Tryz.func29, Tryz.ntmps29
  go_wp2_with fail
  refine HC.out.mono ?_
  rintro e w1 ⟨v1, rfl, hown, hb⟩
  have k1 := conv_own hown
  have k2 := conv_bytes lc hy (hcy.later hb)
  clear HC
  go_wp2
  go_ret
  exact ⟨rfl, hb⟩
end Go.Proofs.YtoobileejdhikaaGreat
