import Derived.Test.YtcfjicfmcmbepabS0r
import Derived.Test.YtcfjicfmcmbepabT2
import Derived.Test.YtcfjicfmcmbepabX7a
namespace Go.Proofs.Ytcfjicfmcmbepab
open Go.RowKit Fl

theorem tb_yes : ∀ w, Calls Try.prog 11 #[.agg #[.float .f64 (B INF), .float .f64 (B (-INF))], .agg #[.float .f64 (B INF), .float .f64 (B (-INF))]] w fun e w' => e = .returned (.bool true) ∧ Below w.heap.size w w' :=
  alike_w _ _ (same_any _ (Key.at pl_inf).self) (same_any _ (Key.at pl_ninf).self)
theorem tb_no {k l : Int} (h : Iv (B k) (B l) k l) : ∀ w, Calls Try.prog 11 #[.agg #[.float .f64 (B k), .float .f64 (B l)], .agg #[.float .f64 (B INF), .float .f64 (B (-INF))]] w fun e w' => e = .returned (.bool false) ∧ Below w.heap.size w w' := by
  have hI := INF_pos
  have n1 : B k ≠ B INF := fun c => by
    have := B_inj h.x.pl.1 h.x.pl.2 (by omega) (Int.le_refl _) c
    have := h.lo
    omega
  by_cases c : B l = B (-INF)
  · rw [c]
    exact alike_f_w _ _ _ _ true (same_no h.x.self n1) (same_any _ (Key.at pl_ninf).self)
  · exact alike_f_w _ _ _ _ false (same_no h.x.self n1) (same_no h.y.self c)
/-- What ToBox answers: EMPTY twice just where there is no number. -/
theorem toBox_ans (F : Ops) {a b r : Nat} (ha : a < 18446744073709551616) (hb : b < 18446744073709551616) (hr : r < 18446744073709551616) :
    (∀ w, Calls Try.prog 6 #[.agg #[.complex .f64 a b, .float .f64 r]] w fun e w' => e = .returned (.bool true) ∧ Below w.heap.size w w') ∧ (∀ w, Calls Try.prog 7 #[.agg #[.complex .f64 a b, .float .f64 r]] w fun e w' => e = .returned (.agg #[.float .f64 (B INF), .float .f64 (B (-INF)), .float .f64 (B INF), .float .f64 (B (-INF))]) ∧ Below w.heap.size w w')
    ∨ ∃ k l m n, Iv (B k) (B l) k l ∧ Iv (B m) (B n) m n ∧ (∀ w, Calls Try.prog 6 #[.agg #[.complex .f64 a b, .float .f64 r]] w fun e w' => e = .returned (.bool false) ∧ Below w.heap.size w w') ∧ ∀ w, Calls Try.prog 7 #[.agg #[.complex .f64 a b, .float .f64 r]] w fun e w' => e = .returned (.agg #[.float .f64 (B k), .float .f64 (B l), .float .f64 (B m), .float .f64 (B n)]) ∧ Below w.heap.size w w' := by
  have hI := INF_pos
  rcases disc_cases a b r ha hb hr with ⟨x, y, t, h⟩ | h | h
  · right
    have r0 := h.r0
    have r1 := h.r1
    have i1 : Iv a a x x := ⟨h.ka, h.ka, Int.le_refl _, h.fa.2, h.fa.1⟩
    have i2 : Iv b b y y := ⟨h.kb, h.kb, Int.le_refl _, h.fb.2, h.fb.1⟩
    have j : Iv (B (-t)) r (-t) t := ⟨Key.at (pl_neg h.kr.pl), h.kr, by omega, by omega, by omega⟩
    exact ⟨_, _, _, _, padd_iv F i1 j, padd_iv F i2 j, rlone_fin h, toBox_fin F h⟩
  · have i : Iv (B (-INF)) (B INF) (-INF) INF := ⟨Key.at pl_ninf, Key.at pl_inf, by omega, by omega, by omega⟩
    exact .inr ⟨_, _, _, _, i, i, rlone_all h, toBox_all h⟩
  · exact .inl ⟨rlone_no ha hb h, toBox_no ha hb h⟩
/-- What ToDisc answers: the disc without numbers just where there is none. -/
theorem toDisc_ans (F : Ops) {X1 X2 X3 X4 : Nat} (h1 : X1 < 18446744073709551616) (h2 : X2 < 18446744073709551616) (h3 : X3 < 18446744073709551616) (h4 : X4 < 18446744073709551616) :
    ∃ (c : Bool) (e f i : Nat), (∀ w, Calls Try.prog 9 #[.agg #[.float .f64 X1, .float .f64 X2, .float .f64 X3, .float .f64 X4]] w fun e w' => e = .returned (.bool c) ∧ Below w.heap.size w w') ∧ (∀ w, Calls Try.prog 10 #[.agg #[.float .f64 X1, .float .f64 X2, .float .f64 X3, .float .f64 X4]] w fun e' w' => e' = .returned (.agg #[.complex .f64 e f, .float .f64 i]) ∧ Below w.heap.size w w')
      ∧ (∀ w, Calls Try.prog 13 #[.agg #[.complex .f64 e f, .float .f64 i]] w fun e w' => e = .returned (.bool true) ∧ Below w.heap.size w w') ∧ (Ieee.double.order i 13830554455654793216 == some .eq) = c := by
  rcases Bx.or X1 X2 X3 X4 with ⟨k, l, m, n, g, g2⟩ | g
  · obtain ⟨e, f, i, c, q⟩ := toDisc_some F g g2
    refine ⟨false, e, f, i, rbare_no g g2, c, ?_⟩
    rcases q with q | ⟨u, v, c, A, lt, rfl, rfl, rfl⟩
    · refine ⟨form_alld q, ?_⟩
      obtain ⟨_, _, rfl⟩ := q
      exact ne_mone (Key.at pl_inf) (by have := INF_pos; omega)
    · have z := (A.rad pl_zero (Int.le_refl _) lt).2.2.2.2.2
      exact ⟨form_fin A.fu A.fv z lt, ne_mone (Key.at (Fin.of z lt).pl) z⟩
  · obtain ⟨e, f, i, q, c⟩ := toDisc_no h1 h2 h3 h4 g
    refine ⟨true, e, f, i, rbare_yes h1 h2 h3 h4 g, c, form_nod q, ?_⟩
    obtain ⟨_, _, rfl⟩ := q
    rw [Key.mone.self]; rfl
theorem turns_any (v : Value) (f : Nat → Nat) (w : World) (hl : Lst w v f) : Calls Try.prog 3 #[v] w fun e w' => e = .returned (.bool true) ∧ Below w.heap.size w w' := by
  obtain ⟨F⟩ := ops
  have L := hl.lt
  obtain ⟨c, d1, d2, d3, ba, td, fo, hd⟩ := toDisc_ans F (L 3) (L 4) (L 5) (L 6)
  rcases toBox_ans F (L 0) (L 1) (L 2) with ⟨lo, tb⟩ | ⟨k, l, m, n, i1, i2, lo, tb⟩
  · exact turns_t_w v f _ _ _ _ d1 d2 d3 _ _ c lo tb ba td rempty tb_yes tb_yes fo (none_yes emp_no emp1 emp2) hd w hl
  · exact turns_f_w v f _ _ _ _ d1 d2 d3 _ _ c lo tb ba td rempty (tb_no i1) fo (none_no i1) (none_no i2) hd w hl
end Go.Proofs.Ytcfjicfmcmbepab
