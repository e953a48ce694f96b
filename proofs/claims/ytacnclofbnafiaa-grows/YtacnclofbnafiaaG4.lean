import Derived.Test.YtacnclofbnafiaaG3
import Derived.Test.YtacnclofbnafiaaG2
namespace Go.Proofs.Ytacnclofbnafiaa
open Go.RowKit Fl

theorem interval_g (x y : Nat) : ∀ w, Calls Try.prog 32 #[.float .f64 x, .float .f64 y] w fun e w' => e = .returned (.agg #[.float .f64 x, .float .f64 y]) ∧ Below w.heap.size w w' := by
  intro w
  go_enter Try.func32, Try.ntmps32
  go_wp2_with fail
  refine bodyPost_ret (v := .agg #[.float .f64 x, .float .f64 y]) (by simp [results, Try.results32, go_sem, *]) rfl ⟨rfl, ?_⟩
  repeat (first | exact Below.refl _ _ | refine bl_alloc ?_)
theorem pdiv_no {X1 X2 Y1 Y2 : Nat} (hX1 : X1 < 18446744073709551616) (hX2 : X2 < 18446744073709551616) (hY1 : Y1 < 18446744073709551616) (hY2 : Y2 < 18446744073709551616) (h : NoIv X1 X2 ∨ NoIv Y1 Y2) : ∀ w, Calls Try.prog 105 #[.agg #[.float .f64 X1, .float .f64 X2], .agg #[.float .f64 Y1, .float .f64 Y2]] w fun e w' => e = .returned (.agg #[.float .f64 (B INF), .float .f64 (B (-INF))]) ∧ Below w.heap.size w w' := by
  rcases Iv.or X1 X2 with ⟨k, l, g⟩ | g
  · rcases h with h | h
    · exact absurd g (h k l)
    · exact div_noy_w X1 X2 Y1 Y2 _ _ (none_no g) (none_yes h hY1 hY2) pempty
  · exact div_nox_w X1 X2 Y1 Y2 _ _ (none_yes g hX1 hX2) pempty
theorem psqr_no {X1 X2 : Nat} (hX1 : X1 < 18446744073709551616) (hX2 : X2 < 18446744073709551616) (g : NoIv X1 X2) : ∀ w, Calls Try.prog 107 #[.agg #[.float .f64 X1, .float .f64 X2]] w fun e w' => e = .returned (.agg #[.float .f64 (B INF), .float .f64 (B (-INF))]) ∧ Below w.heap.size w w' := sqr_w X1 X2 _ _ _ _ (sizes_no_w X1 X2 (none_yes g hX1 hX2)) (pmul_no hX1 hX2 hX1 hX2 (.inl g))
theorem psqrt_no {X1 X2 : Nat} (hX1 : X1 < 18446744073709551616) (hX2 : X2 < 18446744073709551616) (g : NoIv X1 X2) : ∀ w, Calls Try.prog 108 #[.agg #[.float .f64 X1, .float .f64 X2]] w fun e w' => e = .returned (.agg #[.float .f64 (B INF), .float .f64 (B (-INF))]) ∧ Below w.heap.size w w' := psqrt_emp (pmeet_no hX1 hX2 (by rw [← W_zero]; exact W_lt _ _ (by omega)) emp1 (.inl g))
def Ops.sqLo (F : Ops) (k l : Int) : Int := if k < 0 ∧ 0 < l then 0 else F.pLo k l k l
theorem psqr_exact (F : Ops) {X1 X2 : Nat} {k l : Int} (g : Iv X1 X2 k l) : ∀ w, Calls Try.prog 107 #[.agg #[.float .f64 X1, .float .f64 X2]] w fun e w' => e = .returned (.agg #[.float .f64 (B (F.sqLo k l)), .float .f64 (B (F.pHi k l k l))]) ∧ Below w.heap.size w w' := by
  have hI := INF_pos
  have u1 := g.le
  have u2 := g.lo
  have u3 := g.hi
  unfold Ops.sqLo
  by_cases c1 : 0 ≤ k
  · rw [if_neg (by omega)]
    have s : ∀ w, Calls Try.prog 144 #[.agg #[.float .f64 X1, .float .f64 X2]] w fun e w' => e = .returned (.agg #[.float .f64 X1, .float .f64 X2]) ∧ Below w.heap.size w w' := by
      by_cases c0 : k = 0
      · exact sizes_eq_w X1 X2 (none_no g) (g.x.oeq Key.zero c0)
      · exact sizes_gt_w X1 X2 (none_no g) (g.x.ogt Key.zero (by omega))
    exact sqr_w X1 X2 _ _ _ _ s (pmul_ok F g g)
  · by_cases c2 : l ≤ 0
    · rw [if_neg (by omega)]
      have s : ∀ w, Calls Try.prog 144 #[.agg #[.float .f64 X1, .float .f64 X2]] w fun e w' => e = .returned (.agg #[.float .f64 (B (-l)), .float .f64 (B (-k))]) ∧ Below w.heap.size w w' := by
        by_cases c0 : l = 0
        · exact sizes_neg_le_w X1 X2 _ _ (none_no g) (g.x.olt Key.zero (by omega)) (g.y.oeq Key.zero c0) (pneg g.x g.y)
        · exact sizes_neg_lt_w X1 X2 _ _ (none_no g) (g.x.olt Key.zero (by omega)) (g.y.olt Key.zero (by omega)) (pneg g.x g.y)
      have e := F.p_neg g.x.pl g.y.pl
      have m := pmul_ok F g.neg g.neg
      rw [e.1, e.2] at m
      exact sqr_w X1 X2 _ _ _ _ s m
    · rw [if_pos (by omega)]
      obtain ⟨n, hn, kn⟩ := g.x.neg
      obtain ⟨m, km, _, rm⟩ := max_key kn g.y
      have i : Iv 0 m 0 (max (-k) l) := ⟨Key.zero, km, by omega, by omega, by omega⟩
      have p := pmul_ok F i i
      have e := F.p_sq km.pl (show 0 ≤ max (-k) l by omega)
      have e' := F.p_amid g.x.pl g.y.pl (show k ≤ 0 by omega) (by omega)
      rw [e.1, e.2, ← e'] at p
      exact sqr_w X1 X2 _ _ _ _ (sizes_amid_w X1 X2 n m (none_no g) (g.x.olt Key.zero (by omega)) (g.y.ogt Key.zero (by omega)) hn rm) p
theorem sq_nonneg (F : Ops) {c : Int} (pc : Pl c) : 0 ≤ F.mD c c := by
  rcases Int.lt_or_le c 0 with g | g
  · have e := F.mul_negneg pc pc
    have := F.mul_pos (pl_neg pc) (pl_neg pc) (by omega) (by omega)
    omega
  · exact (F.mul_pos pc pc g g).1
theorem psqr_ans (F : Ops) {X1 X2 : Nat} {k l : Int} (g : Iv X1 X2 k l) : Iv (B (F.sqLo k l)) (B (F.pHi k l k l)) (F.sqLo k l) (F.pHi k l k l) := by
  have hI := INF_pos
  have u1 := g.le
  have i := pmul_iv F g g
  unfold Ops.sqLo
  by_cases c : k < 0 ∧ 0 < l
  · rw [if_pos c]
    have z := sq_nonneg F g.x.pl
    have e := F.mul_le g.x.pl g.x.pl
    have q := F.p_has g.x.pl g.y.pl g.x.pl g.y.pl g.x.pl g.x.pl (Int.le_refl k) u1 (Int.le_refl k) u1
    exact ⟨Key.at pl_zero, i.y, by omega, by omega, i.hi⟩
  · rw [if_neg c]; exact i
/-- Squares grow. -/
theorem sq_grow (F : Ops) {a b k l : Int} (ha : Pl a) (hb : Pl b) (hk : Pl k) (hl : Pl l) (h1 : a ≤ k) (h2 : k ≤ l) (h3 : l ≤ b) : F.sqLo a b ≤ F.sqLo k l ∧ F.pHi k l k l ≤ F.pHi a b a b := by
  have q1 := F.p_has ha hb ha hb hk hk h1 (by omega) h1 (by omega)
  have q2 := F.p_has ha hb ha hb hk hl h1 (by omega) (by omega) h3
  have q3 := F.p_has ha hb ha hb hl hk (by omega) h3 h1 (by omega)
  have q4 := F.p_has ha hb ha hb hl hl (by omega) h3 (by omega) h3
  have e1 : F.pLo k l k l = min (min (F.mD k k) (F.mD k l)) (min (F.mD l k) (F.mD l l)) := rfl
  have e2 : F.pHi k l k l = max (max (F.mU k k) (F.mU k l)) (max (F.mU l k) (F.mU l l)) := rfl
  refine ⟨?_, by rw [e2]; omega⟩
  unfold Ops.sqLo
  by_cases c : k < 0 ∧ 0 < l
  · rw [if_pos c, if_pos (by omega)]; omega
  · rw [if_neg c]
    have n : 0 ≤ F.pLo k l k l := by
      have z1 := sq_nonneg F hk
      have z2 := sq_nonneg F hl
      have m := F.mul_comm hk hl
      have z3 : 0 ≤ F.mD k l := by
        by_cases g : 0 ≤ k
        · exact (F.mul_pos hk hl g (by omega)).1
        · have e := F.mul_negneg hk hl
          have := F.mul_pos (pl_neg hk) (pl_neg hl) (by omega) (by omega)
          omega
      rw [e1]; omega
    by_cases c' : a < 0 ∧ 0 < b
    · rw [if_pos c']; exact n
    · rw [if_neg c', e1]; omega
theorem psqrt_iv (F : Ops) {X1 X2 : Nat} {k l : Int} (h : Iv X1 X2 k l) (hm : max k 0 ≤ min l INF) : Iv (B (F.sD (max k 0))) (B (F.sU (min l INF))) (F.sD (max k 0)) (F.sU (min l INF)) := by
  have hI := INF_pos
  have u2 := h.lo
  have p1 := pl_max h.x.pl pl_zero
  have p2 := pl_min h.y.pl pl_inf
  have r1 := (F.sqrt p1 (by omega)).num (by omega) (by omega)
  have m := F.sqrt_mono p1 p2 (by omega) hm
  have le := r1.le (Er_anti _)
  have lo := r1.up.lo
  exact ⟨Key.at (F.sqrt_pl p1 (by omega)).1, Key.at (F.sqrt_pl p2 (by omega)).2, by omega, r1.dn.hi, by omega⟩
-- any two words: some answer
theorem add_ans (F : Ops) (X1 X2 Y1 Y2 : Nat) (hX1 : X1 < 18446744073709551616) (hX2 : X2 < 18446744073709551616) (hY1 : Y1 < 18446744073709551616) (hY2 : Y2 < 18446744073709551616) : ∃ a b, Ans a b ∧ (∀ w, Calls Try.prog 96 #[.agg #[.float .f64 X1, .float .f64 X2], .agg #[.float .f64 Y1, .float .f64 Y2]] w fun e w' => e = .returned (.agg #[.float .f64 (B a), .float .f64 (B b)]) ∧ Below w.heap.size w w') := by
  by_cases h : NoIv X1 X2 ∨ NoIv Y1 Y2
  · exact ⟨_, _, Ans.emp, padd_no hX1 hX2 hY1 hY2 h⟩
  · rcases Iv.or X1 X2 with ⟨k, l, g⟩ | g
    · rcases Iv.or Y1 Y2 with ⟨k', l', g'⟩ | g'
      · exact ⟨_, _, .inr (padd_iv F g g'), padd_ok F g g'⟩
      · exact absurd (.inr g') h
    · exact absurd (.inl g) h
theorem sub_ans (F : Ops) (X1 X2 Y1 Y2 : Nat) (hX1 : X1 < 18446744073709551616) (hX2 : X2 < 18446744073709551616) (hY1 : Y1 < 18446744073709551616) (hY2 : Y2 < 18446744073709551616) : ∃ a b, Ans a b ∧ (∀ w, Calls Try.prog 100 #[.agg #[.float .f64 X1, .float .f64 X2], .agg #[.float .f64 Y1, .float .f64 Y2]] w fun e w' => e = .returned (.agg #[.float .f64 (B a), .float .f64 (B b)]) ∧ Below w.heap.size w w') := by
  by_cases h : NoIv X1 X2 ∨ NoIv Y1 Y2
  · exact ⟨_, _, Ans.emp, psub_no hX1 hX2 hY1 hY2 h⟩
  · rcases Iv.or X1 X2 with ⟨k, l, g⟩ | g
    · rcases Iv.or Y1 Y2 with ⟨k', l', g'⟩ | g'
      · exact ⟨_, _, .inr (padd_iv F g g'.neg), psub_ok F g g'⟩
      · exact absurd (.inr g') h
    · exact absurd (.inl g) h
theorem mul_ans (F : Ops) (X1 X2 Y1 Y2 : Nat) (hX1 : X1 < 18446744073709551616) (hX2 : X2 < 18446744073709551616) (hY1 : Y1 < 18446744073709551616) (hY2 : Y2 < 18446744073709551616) : ∃ a b, Ans a b ∧ (∀ w, Calls Try.prog 102 #[.agg #[.float .f64 X1, .float .f64 X2], .agg #[.float .f64 Y1, .float .f64 Y2]] w fun e w' => e = .returned (.agg #[.float .f64 (B a), .float .f64 (B b)]) ∧ Below w.heap.size w w') := by
  by_cases h : NoIv X1 X2 ∨ NoIv Y1 Y2
  · exact ⟨_, _, Ans.emp, pmul_no hX1 hX2 hY1 hY2 h⟩
  · rcases Iv.or X1 X2 with ⟨k, l, g⟩ | g
    · rcases Iv.or Y1 Y2 with ⟨k', l', g'⟩ | g'
      · exact ⟨_, _, .inr (pmul_iv F g g'), pmul_ok F g g'⟩
      · exact absurd (.inr g') h
    · exact absurd (.inl g) h
theorem div_ans (F : Ops) (X1 X2 Y1 Y2 : Nat) (hX1 : X1 < 18446744073709551616) (hX2 : X2 < 18446744073709551616) (hY1 : Y1 < 18446744073709551616) (hY2 : Y2 < 18446744073709551616) : ∃ a b, Ans a b ∧ (∀ w, Calls Try.prog 105 #[.agg #[.float .f64 X1, .float .f64 X2], .agg #[.float .f64 Y1, .float .f64 Y2]] w fun e w' => e = .returned (.agg #[.float .f64 (B a), .float .f64 (B b)]) ∧ Below w.heap.size w w') := by
  by_cases h : NoIv X1 X2 ∨ NoIv Y1 Y2
  · exact ⟨_, _, Ans.emp, pdiv_no hX1 hX2 hY1 hY2 h⟩
  · rcases Iv.or X1 X2 with ⟨k, l, g⟩ | g
    · rcases Iv.or Y1 Y2 with ⟨k', l', g'⟩ | g'
      · obtain ⟨a, b, h1, _, h2⟩ := pdiv_any F g g'
        exact ⟨a, b, h1, h2⟩
      · exact absurd (.inr g') h
    · exact absurd (.inl g) h
theorem sqr_ans (F : Ops) (X1 X2 : Nat) (hX1 : X1 < 18446744073709551616) (hX2 : X2 < 18446744073709551616) : ∃ a b, Ans a b ∧ (∀ w, Calls Try.prog 107 #[.agg #[.float .f64 X1, .float .f64 X2]] w fun e w' => e = .returned (.agg #[.float .f64 (B a), .float .f64 (B b)]) ∧ Below w.heap.size w w') := by
  rcases Iv.or X1 X2 with ⟨k, l, g⟩ | g
  · exact ⟨_, _, .inr (psqr_ans F g), psqr_exact F g⟩
  · exact ⟨_, _, Ans.emp, psqr_no hX1 hX2 g⟩
theorem sqrt_ans (F : Ops) (X1 X2 : Nat) (hX1 : X1 < 18446744073709551616) (hX2 : X2 < 18446744073709551616) : ∃ a b, Ans a b ∧ (∀ w, Calls Try.prog 108 #[.agg #[.float .f64 X1, .float .f64 X2]] w fun e w' => e = .returned (.agg #[.float .f64 (B a), .float .f64 (B b)]) ∧ Below w.heap.size w w') := by
  rcases Iv.or X1 X2 with ⟨k, l, g⟩ | g
  · rcases Int.lt_or_le (min l INF) (max k 0) with m | m
    · exact ⟨_, _, Ans.emp, psqrt_emp (pmeet_emp g iv_pos m)⟩
    · exact ⟨_, _, .inr (psqrt_iv F g m), psqrt_ok F g m⟩
  · exact ⟨_, _, Ans.emp, psqrt_no hX1 hX2 g⟩
/-- Hull has both. -/
theorem hull_any (X1 X2 Y1 Y2 : Nat) (hX1 : X1 < 18446744073709551616) (hX2 : X2 < 18446744073709551616) (hY1 : Y1 < 18446744073709551616) (hY2 : Y2 < 18446744073709551616) : ∃ a b, Ans a b ∧ (∀ w, Calls Try.prog 110 #[.agg #[.float .f64 X1, .float .f64 X2], .agg #[.float .f64 Y1, .float .f64 Y2]] w fun e w' => e = .returned (.agg #[.float .f64 (B a), .float .f64 (B b)]) ∧ Below w.heap.size w w') ∧ (∀ k l, Iv X1 X2 k l → Iv (B a) (B b) a b ∧ a ≤ k ∧ l ≤ b) ∧ (∀ k l, Iv Y1 Y2 k l → Iv (B a) (B b) a b ∧ a ≤ k ∧ l ≤ b) := by
  rcases Iv.or X1 X2 with ⟨k, l, g⟩ | g
  · rcases Iv.or Y1 Y2 with ⟨k', l', g'⟩ | g'
    · have u1 := g.le
      have u2 := g.lo
      have u3 := g.hi
      have v1 := g'.le
      have v2 := g'.lo
      have v3 := g'.hi
      have i : Iv (B (min k k')) (B (max l l')) (min k k') (max l l') := ⟨Key.at (pl_min g.x.pl g'.x.pl), Key.at (pl_max g.y.pl g'.y.pl), by omega, by omega, by omega⟩
      exact ⟨_, _, .inr i, phull_ok g g', fun k2 l2 h => by obtain ⟨rfl, rfl⟩ := h.unique g; exact ⟨i, by omega, by omega⟩, fun k2 l2 h => by obtain ⟨rfl, rfl⟩ := h.unique g'; exact ⟨i, by omega, by omega⟩⟩
    · have i : Iv (B k) (B l) k l := ⟨Key.at g.x.pl, Key.at g.y.pl, g.le, g.lo, g.hi⟩
      exact ⟨_, _, .inr i, phull_noy hY1 hY2 g g', fun k2 l2 h => by obtain ⟨rfl, rfl⟩ := h.unique g; exact ⟨i, by omega, by omega⟩, fun k2 l2 h => absurd h (g' k2 l2)⟩
  · rcases Iv.or Y1 Y2 with ⟨k', l', g'⟩ | g'
    · have i : Iv (B k') (B l') k' l' := ⟨Key.at g'.x.pl, Key.at g'.y.pl, g'.le, g'.lo, g'.hi⟩
      exact ⟨_, _, .inr i, phull_nox hX1 hX2 g g', fun k2 l2 h => absurd h (g k2 l2), fun k2 l2 h => by obtain ⟨rfl, rfl⟩ := h.unique g'; exact ⟨i, by omega, by omega⟩⟩
    · exact ⟨_, _, Ans.emp, phull_no hX1 hX2 hY1 hY2 g g', fun k2 l2 h => absurd h (g k2 l2), fun k2 l2 h => absurd h (g' k2 l2)⟩
/-- Both have Meet. -/
theorem meet_any (X1 X2 Y1 Y2 : Nat) (hX1 : X1 < 18446744073709551616) (hX2 : X2 < 18446744073709551616) (hY1 : Y1 < 18446744073709551616) (hY2 : Y2 < 18446744073709551616) : ∃ a b, Ans a b ∧ (∀ w, Calls Try.prog 109 #[.agg #[.float .f64 X1, .float .f64 X2], .agg #[.float .f64 Y1, .float .f64 Y2]] w fun e w' => e = .returned (.agg #[.float .f64 (B a), .float .f64 (B b)]) ∧ Below w.heap.size w w') ∧ (∀ w, Calls Try.prog 56 #[.agg #[.float .f64 (B a), .float .f64 (B b)], .agg #[.float .f64 X1, .float .f64 X2]] w fun e w' => e = .returned (.bool true) ∧ Below w.heap.size w w') ∧ (∀ w, Calls Try.prog 56 #[.agg #[.float .f64 (B a), .float .f64 (B b)], .agg #[.float .f64 Y1, .float .f64 Y2]] w fun e w' => e = .returned (.bool true) ∧ Below w.heap.size w w') := by
  rcases Iv.or X1 X2 with ⟨k, l, g⟩ | g
  · rcases Iv.or Y1 Y2 with ⟨k', l', g'⟩ | g'
    · rcases Int.lt_or_le (min l l') (max k k') with m | m
      · exact ⟨_, _, Ans.emp, pmeet_emp g g' m, within_emp _ _, within_emp _ _⟩
      · have u2 := g.lo
        have u3 := g.hi
        have v2 := g'.lo
        have v3 := g'.hi
        have i : Iv (B (max k k')) (B (min l l')) (max k k') (min l l') := ⟨Key.at (pl_max g.x.pl g'.x.pl), Key.at (pl_min g.y.pl g'.y.pl), m, by omega, by omega⟩
        exact ⟨_, _, .inr i, pmeet_ok g g' m, within_iv i g.x g.y (by omega) (by omega), within_iv i g'.x g'.y (by omega) (by omega)⟩
    · exact ⟨_, _, Ans.emp, pmeet_no hX1 hX2 hY1 hY2 (.inr g'), within_emp _ _, within_emp _ _⟩
  · exact ⟨_, _, Ans.emp, pmeet_no hX1 hX2 hY1 hY2 (.inl g), within_emp _ _, within_emp _ _⟩
def eightW (a b c d e f g h : Nat) (k : Nat) : Nat := if k = 0 then a else if k = 1 then b else if k = 2 then c else if k = 3 then d else if k = 4 then e else if k = 5 then f else if k = 6 then g else h
/-- A pair of answers, the first in the second. -/
def Pair (f : FuncId) (v v' : Array Value) (A A' C C' : Nat) : Prop :=
  (∀ w, Calls Try.prog f v w fun e w' => e = .returned (.agg #[.float .f64 A, .float .f64 A']) ∧ Below w.heap.size w w') ∧
  (∀ w, Calls Try.prog f v' w fun e w' => e = .returned (.agg #[.float .f64 C, .float .f64 C']) ∧ Below w.heap.size w w') ∧
  (∀ w, Calls Try.prog 56 #[.agg #[.float .f64 A, .float .f64 A'], .agg #[.float .f64 C, .float .f64 C']] w fun e w' => e = .returned (.bool true) ∧ Below w.heap.size w w')
theorem grows_pairs (X1 X2 Y1 Y2 Z1 Z2 ga gb ma mb : Nat) (hh : ∀ w, Calls Try.prog 48 #[.agg #[.float .f64 X1, .float .f64 X2], .agg #[.float .f64 Z1, .float .f64 Z2]] w fun e w' => e = .returned (.agg #[.float .f64 ga, .float .f64 gb]) ∧ Below w.heap.size w w') (hm : ∀ w, Calls Try.prog 46 #[.agg #[.float .f64 X1, .float .f64 X2], .agg #[.float .f64 Z1, .float .f64 Z2]] w fun e w' => e = .returned (.agg #[.float .f64 ma, .float .f64 mb]) ∧ Below w.heap.size w w') (wa : ∀ w, Calls Try.prog 56 #[.agg #[.float .f64 X1, .float .f64 X2], .agg #[.float .f64 ga, .float .f64 gb]] w fun e w' => e = .returned (.bool true) ∧ Below w.heap.size w w') (wb : ∀ w, Calls Try.prog 56 #[.agg #[.float .f64 Z1, .float .f64 Z2], .agg #[.float .f64 ga, .float .f64 gb]] w fun e w' => e = .returned (.bool true) ∧ Below w.heap.size w w') (wc : ∀ w, Calls Try.prog 56 #[.agg #[.float .f64 ma, .float .f64 mb], .agg #[.float .f64 X1, .float .f64 X2]] w fun e w' => e = .returned (.bool true) ∧ Below w.heap.size w w') (wd : ∀ w, Calls Try.prog 56 #[.agg #[.float .f64 ma, .float .f64 mb], .agg #[.float .f64 Z1, .float .f64 Z2]] w fun e w' => e = .returned (.bool true) ∧ Below w.heap.size w w')
    (P0 : ∃ A A' C C', Pair 33 #[.agg #[.float .f64 X1, .float .f64 X2], .agg #[.float .f64 Y1, .float .f64 Y2]] #[.agg #[.float .f64 ga, .float .f64 gb], .agg #[.float .f64 Y1, .float .f64 Y2]] A A' C C') (P1 : ∃ A A' C C', Pair 36 #[.agg #[.float .f64 X1, .float .f64 X2], .agg #[.float .f64 Y1, .float .f64 Y2]] #[.agg #[.float .f64 ga, .float .f64 gb], .agg #[.float .f64 Y1, .float .f64 Y2]] A A' C C') (P2 : ∃ A A' C C', Pair 36 #[.agg #[.float .f64 Y1, .float .f64 Y2], .agg #[.float .f64 X1, .float .f64 X2]] #[.agg #[.float .f64 Y1, .float .f64 Y2], .agg #[.float .f64 ga, .float .f64 gb]] A A' C C')
    (P3 : ∃ A A' C C', Pair 38 #[.agg #[.float .f64 X1, .float .f64 X2], .agg #[.float .f64 Y1, .float .f64 Y2]] #[.agg #[.float .f64 ga, .float .f64 gb], .agg #[.float .f64 Y1, .float .f64 Y2]] A A' C C') (P4 : ∃ A A' C C', Pair 40 #[.agg #[.float .f64 X1, .float .f64 X2], .agg #[.float .f64 Y1, .float .f64 Y2]] #[.agg #[.float .f64 ga, .float .f64 gb], .agg #[.float .f64 Y1, .float .f64 Y2]] A A' C C') (P5 : ∃ A A' C C', Pair 40 #[.agg #[.float .f64 Y1, .float .f64 Y2], .agg #[.float .f64 X1, .float .f64 X2]] #[.agg #[.float .f64 Y1, .float .f64 Y2], .agg #[.float .f64 ga, .float .f64 gb]] A A' C C')
    (P6 : ∃ A A' C C', Pair 42 #[.agg #[.float .f64 X1, .float .f64 X2]] #[.agg #[.float .f64 ga, .float .f64 gb]] A A' C C') (P7 : ∃ A A' C C', Pair 44 #[.agg #[.float .f64 X1, .float .f64 X2]] #[.agg #[.float .f64 ga, .float .f64 gb]] A A' C C') : ∀ w, Calls Try.prog 10 #[.float .f64 X1, .float .f64 X2, .float .f64 Y1, .float .f64 Y2, .float .f64 Z1, .float .f64 Z2] w fun e w' => e = .returned (.bool true) ∧ Below w.heap.size w w' := by
  obtain ⟨a0, b0, c0, d0, p0, q0, r0⟩ := P0
  obtain ⟨a1, b1, c1, d1, p1, q1, r1⟩ := P1
  obtain ⟨a2, b2, c2, d2, p2, q2, r2⟩ := P2
  obtain ⟨a3, b3, c3, d3, p3, q3, r3⟩ := P3
  obtain ⟨a4, b4, c4, d4, p4, q4, r4⟩ := P4
  obtain ⟨a5, b5, c5, d5, p5, q5, r5⟩ := P5
  obtain ⟨a6, b6, c6, d6, p6, q6, r6⟩ := P6
  obtain ⟨a7, b7, c7, d7, p7, q7, r7⟩ := P7
  refine grows_w X1 X2 Y1 Y2 Z1 Z2 ga gb ma mb (eightW a0 a1 a2 a3 a4 a5 a6 a7) (eightW b0 b1 b2 b3 b4 b5 b6 b7) (eightW c0 c1 c2 c3 c4 c5 c6 c7) (eightW d0 d1 d2 d3 d4 d5 d6 d7)
    (interval_g X1 X2) (interval_g Y1 Y2) (interval_g Z1 Z2) hh hm wa wb wc wd p0 q0 p1 q1 p2 q2 p3 q3 p4 q4 p5 q5 p6 q6 p7 q7 (fun j hj => ?_)
  have : j = 0 ∨ j = 1 ∨ j = 2 ∨ j = 3 ∨ j = 4 ∨ j = 5 ∨ j = 6 ∨ j = 7 := by omega
  rcases this with rfl | rfl | rfl | rfl | rfl | rfl | rfl | rfl
  · exact r0
  · exact r1
  · exact r2
  · exact r3
  · exact r4
  · exact r5
  · exact r6
  · exact r7
theorem grows_any (X1 X2 Y1 Y2 Z1 Z2 : Nat) (hX1 : X1 < 18446744073709551616) (hX2 : X2 < 18446744073709551616) (hY1 : Y1 < 18446744073709551616) (hY2 : Y2 < 18446744073709551616) (hZ1 : Z1 < 18446744073709551616) (hZ2 : Z2 < 18446744073709551616) : ∀ w, Calls Try.prog 10 #[.float .f64 X1, .float .f64 X2, .float .f64 Y1, .float .f64 Y2, .float .f64 Z1, .float .f64 Z2] w fun e w' => e = .returned (.bool true) ∧ Below w.heap.size w w' := by
  obtain ⟨F⟩ := ops
  obtain ⟨g1, g2, hg, hh, gx, gz⟩ := hull_any X1 X2 Z1 Z2 hX1 hX2 hZ1 hZ2
  obtain ⟨m1, m2, hm, hme, mx, mz⟩ := meet_any X1 X2 Z1 Z2 hX1 hX2 hZ1 hZ2
  have G1 := (Key.at hg.pl.1).lt
  have G2 := (Key.at hg.pl.2).lt
  have inG : ∀ (U1 U2 : Nat), U1 < 18446744073709551616 → U2 < 18446744073709551616 → (∀ k l, Iv U1 U2 k l → Iv (B g1) (B g2) g1 g2 ∧ g1 ≤ k ∧ l ≤ g2) → ∀ w, Calls Try.prog 56 #[.agg #[.float .f64 U1, .float .f64 U2], .agg #[.float .f64 (B g1), .float .f64 (B g2)]] w fun e w' => e = .returned (.bool true) ∧ Below w.heap.size w w' := fun U1 U2 h1 h2 h => by
    rcases Iv.or U1 U2 with ⟨k, l, i⟩ | i
    · obtain ⟨j, c1, c2⟩ := h k l i
      exact within_iv i j.x j.y c1 c2
    · exact within_no _ _ i h1 h2
  have fin : ∀ {f : FuncId} {v v' : Array Value} {a b c d : Int}, Ans a b → Ans c d → (∀ w, Calls Try.prog f v w fun e w' => e = .returned (.agg #[.float .f64 (B a), .float .f64 (B b)]) ∧ Below w.heap.size w w') → (∀ w, Calls Try.prog f v' w fun e w' => e = .returned (.agg #[.float .f64 (B c), .float .f64 (B d)]) ∧ Below w.heap.size w w') → (Iv (B a) (B b) a b → c ≤ a ∧ b ≤ d) → ∃ A A' C C', Pair f v v' A A' C C' := fun h1 h2 p q r => ⟨_, _, _, _, p, q, within_ans h1 h2 r⟩
  have emp : Iv (B INF) (B (-INF)) INF (-INF) → ∀ c d : Int, c ≤ (INF : Int) ∧ -(INF : Int) ≤ d := fun i => absurd i (emp_no _ _)
  obtain ⟨a0, b0, n0, s0⟩ := add_ans F (B g1) (B g2) Y1 Y2 G1 G2 hY1 hY2
  obtain ⟨a1, b1, n1, s1⟩ := sub_ans F (B g1) (B g2) Y1 Y2 G1 G2 hY1 hY2
  obtain ⟨a2, b2, n2, s2⟩ := sub_ans F Y1 Y2 (B g1) (B g2) hY1 hY2 G1 G2
  obtain ⟨a3, b3, n3, s3⟩ := mul_ans F (B g1) (B g2) Y1 Y2 G1 G2 hY1 hY2
  obtain ⟨a4, b4, n4, s4⟩ := div_ans F (B g1) (B g2) Y1 Y2 G1 G2 hY1 hY2
  obtain ⟨a5, b5, n5, s5⟩ := div_ans F Y1 Y2 (B g1) (B g2) hY1 hY2 G1 G2
  obtain ⟨a6, b6, n6, s6⟩ := sqr_ans F (B g1) (B g2) G1 G2
  obtain ⟨a7, b7, n7, s7⟩ := sqrt_ans F (B g1) (B g2) G1 G2
  have two := grows_pairs X1 X2 Y1 Y2 Z1 Z2 _ _ _ _ (iHull_w X1 X2 Z1 Z2 _ _ hh) (iMeet_w X1 X2 Z1 Z2 _ _ hme) (inG X1 X2 hX1 hX2 gx) (inG Z1 Z2 hZ1 hZ2 gz) mx mz
  rcases Iv.or X1 X2 with ⟨k, l, x⟩ | x
  · obtain ⟨g, c1, c2⟩ := gx k l x
    have u1 := x.le
    have u2 := x.lo
    have u3 := x.hi
    have P6 := fin (.inr (psqr_ans F x)) (.inr (psqr_ans F g)) (iSqr_w X1 X2 _ _ (psqr_exact F x)) (iSqr_w _ _ _ _ (psqr_exact F g)) fun _ => sq_grow F g.x.pl g.y.pl x.x.pl x.y.pl c1 u1 c2
    have P7 : ∃ A A' C C', Pair 44 #[.agg #[.float .f64 X1, .float .f64 X2]] #[.agg #[.float .f64 (B g1), .float .f64 (B g2)]] A A' C C' := by
      rcases Int.lt_or_le (min l INF) (max k 0) with m | m
      · exact fin Ans.emp n7 (iSqrt_w X1 X2 _ _ (psqrt_emp (pmeet_emp x iv_pos m))) (iSqrt_w _ _ _ _ s7) fun i => emp i _ _
      · have m' : max g1 0 ≤ min g2 (INF : Int) := by omega
        refine fin (.inr (psqrt_iv F x m)) (.inr (psqrt_iv F g m')) (iSqrt_w X1 X2 _ _ (psqrt_ok F x m)) (iSqrt_w _ _ _ _ (psqrt_ok F g m')) fun _ => ?_
        exact ⟨(F.sqrt_mono (pl_max g.x.pl pl_zero) (pl_max x.x.pl pl_zero) (by omega) (by omega)).1, (F.sqrt_mono (pl_min x.y.pl pl_inf) (pl_min g.y.pl pl_inf) (by omega) (by omega)).2⟩
    rcases Iv.or Y1 Y2 with ⟨k', l', y⟩ | y
    · have v1 := y.le
      have v2 := y.lo
      have v3 := y.hi
      obtain ⟨p, q, h1, h2, h3⟩ := pdiv_any F x y
      obtain ⟨p', q', h1', h2', h3'⟩ := pdiv_any F g y
      obtain ⟨r, s, h4, h5, h6⟩ := pdiv_any F y x
      obtain ⟨r', s', h4', h5', h6'⟩ := pdiv_any F y g
      refine two
        (fin (.inr (padd_iv F x y)) (.inr (padd_iv F g y)) (iAdd_w X1 X2 Y1 Y2 _ _ (padd_ok F x y)) (iAdd_w _ _ Y1 Y2 _ _ (padd_ok F g y)) fun _ => ⟨(F.add_mono g.x.pl y.x.pl x.x.pl y.x.pl c1 (Int.le_refl _)).1, (F.add_mono x.y.pl y.y.pl g.y.pl y.y.pl c2 (Int.le_refl _)).2⟩)
        (fin (.inr (padd_iv F x y.neg)) (.inr (padd_iv F g y.neg)) (iSub_w X1 X2 Y1 Y2 _ _ (psub_ok F x y)) (iSub_w _ _ Y1 Y2 _ _ (psub_ok F g y)) fun _ => ⟨(F.add_mono g.x.pl y.neg.x.pl x.x.pl y.neg.x.pl c1 (Int.le_refl _)).1, (F.add_mono x.y.pl y.neg.y.pl g.y.pl y.neg.y.pl c2 (Int.le_refl _)).2⟩)
        (fin (.inr (padd_iv F y x.neg)) (.inr (padd_iv F y g.neg)) (iSub_w Y1 Y2 X1 X2 _ _ (psub_ok F y x)) (iSub_w Y1 Y2 _ _ _ _ (psub_ok F y g)) fun _ => ⟨(F.add_mono y.x.pl g.neg.x.pl y.x.pl x.neg.x.pl (Int.le_refl _) (by omega)).1, (F.add_mono y.y.pl x.neg.y.pl y.y.pl g.neg.y.pl (Int.le_refl _) (by omega)).2⟩)
        (fin (.inr (pmul_iv F x y)) (.inr (pmul_iv F g y)) (iMul_w X1 X2 Y1 Y2 _ _ (pmul_ok F x y)) (iMul_w _ _ Y1 Y2 _ _ (pmul_ok F g y)) fun _ => F.p_grow g.x.pl g.y.pl x.x.pl x.y.pl y.x.pl y.y.pl c1 u1 c2 v1)
        (fin h1 h1' (iDiv_w X1 X2 Y1 Y2 _ _ h3) (iDiv_w _ _ Y1 Y2 _ _ h3') fun i => div_grow1 F g.x.pl g.y.pl y.x.pl y.y.pl u1 u2 u3 v1 v2 v3 c1 c2 h2 h2' h1 i)
        (fin h4 h4' (iDiv_w Y1 Y2 X1 X2 _ _ h6) (iDiv_w Y1 Y2 _ _ _ _ h6') fun i => div_grow2 F g.x.pl g.y.pl x.x.pl x.y.pl y.x.pl y.y.pl u1 u2 u3 v2 v3 c1 c2 h5 h5' h4 i)
        P6 P7
    · exact two
        (fin Ans.emp n0 (iAdd_w X1 X2 Y1 Y2 _ _ (padd_no hX1 hX2 hY1 hY2 (.inr y))) (iAdd_w _ _ Y1 Y2 _ _ s0) fun i => emp i _ _)
        (fin Ans.emp n1 (iSub_w X1 X2 Y1 Y2 _ _ (psub_no hX1 hX2 hY1 hY2 (.inr y))) (iSub_w _ _ Y1 Y2 _ _ s1) fun i => emp i _ _)
        (fin Ans.emp n2 (iSub_w Y1 Y2 X1 X2 _ _ (psub_no hY1 hY2 hX1 hX2 (.inl y))) (iSub_w Y1 Y2 _ _ _ _ s2) fun i => emp i _ _)
        (fin Ans.emp n3 (iMul_w X1 X2 Y1 Y2 _ _ (pmul_no hX1 hX2 hY1 hY2 (.inr y))) (iMul_w _ _ Y1 Y2 _ _ s3) fun i => emp i _ _)
        (fin Ans.emp n4 (iDiv_w X1 X2 Y1 Y2 _ _ (pdiv_no hX1 hX2 hY1 hY2 (.inr y))) (iDiv_w _ _ Y1 Y2 _ _ s4) fun i => emp i _ _)
        (fin Ans.emp n5 (iDiv_w Y1 Y2 X1 X2 _ _ (pdiv_no hY1 hY2 hX1 hX2 (.inl y))) (iDiv_w Y1 Y2 _ _ _ _ s5) fun i => emp i _ _)
        P6 P7
  · exact two
      (fin Ans.emp n0 (iAdd_w X1 X2 Y1 Y2 _ _ (padd_no hX1 hX2 hY1 hY2 (.inl x))) (iAdd_w _ _ Y1 Y2 _ _ s0) fun i => emp i _ _)
      (fin Ans.emp n1 (iSub_w X1 X2 Y1 Y2 _ _ (psub_no hX1 hX2 hY1 hY2 (.inl x))) (iSub_w _ _ Y1 Y2 _ _ s1) fun i => emp i _ _)
      (fin Ans.emp n2 (iSub_w Y1 Y2 X1 X2 _ _ (psub_no hY1 hY2 hX1 hX2 (.inr x))) (iSub_w Y1 Y2 _ _ _ _ s2) fun i => emp i _ _)
      (fin Ans.emp n3 (iMul_w X1 X2 Y1 Y2 _ _ (pmul_no hX1 hX2 hY1 hY2 (.inl x))) (iMul_w _ _ Y1 Y2 _ _ s3) fun i => emp i _ _)
      (fin Ans.emp n4 (iDiv_w X1 X2 Y1 Y2 _ _ (pdiv_no hX1 hX2 hY1 hY2 (.inl x))) (iDiv_w _ _ Y1 Y2 _ _ s4) fun i => emp i _ _)
      (fin Ans.emp n5 (iDiv_w Y1 Y2 X1 X2 _ _ (pdiv_no hY1 hY2 hX1 hX2 (.inr x))) (iDiv_w Y1 Y2 _ _ _ _ s5) fun i => emp i _ _)
      (fin Ans.emp n6 (iSqr_w X1 X2 _ _ (psqr_no hX1 hX2 x)) (iSqr_w _ _ _ _ s6) fun i => emp i _ _)
      (fin Ans.emp n7 (iSqrt_w X1 X2 _ _ (psqrt_no hX1 hX2 x)) (iSqrt_w _ _ _ _ s7) fun i => emp i _ _)
end Go.Proofs.Ytacnclofbnafiaa
