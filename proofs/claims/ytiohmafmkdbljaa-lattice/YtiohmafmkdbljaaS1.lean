import Derived.Test.YtiohmafmkdbljaaK7
import Derived.Test.YtiohmafmkdbljaaK9
import Derived.Test.YtiohmafmkdbljaaK10
namespace Go.Proofs.Ytiohmafmkdbljaa
open Go.RowKit Fl

theorem pempty : ∀ w, Calls Try.prog 92 #[] w fun e w' => e = .returned (.agg #[.float .f64 (B INF), .float .f64 (B (-INF))]) ∧ Below w.heap.size w w' := empty_w _ _ infp infn
theorem pall : ∀ w, Calls Try.prog 97 #[] w fun e w' => e = .returned (.agg #[.float .f64 (B (-INF)), .float .f64 (B INF)]) ∧ Below w.heap.size w w' := all_w _ _ infp infn
theorem rempty : ∀ w, Calls Try.prog 68 #[] w fun e w' => e = .returned (.agg #[.float .f64 (B INF), .float .f64 (B (-INF))]) ∧ Below w.heap.size w w' := rempty_w _ _ infp infn
theorem emp_no : NoIv (B INF) (B (-INF)) := by
  intro k l h
  have hI := INF_pos
  have h1 := h.x.unique (Key.of_B (by omega) (Int.le_refl _))
  have h2 := h.y.unique (Key.of_B (Int.le_refl _) (by omega))
  have := h.le
  omega
theorem emp1 : B INF < 18446744073709551616 := (Key.of_B (by omega) (Int.le_refl _)).lt
theorem emp2 : B (-INF) < 18446744073709551616 := (Key.of_B (Int.le_refl _) (by omega)).lt
theorem rnone_no {X1 X2 : Nat} {k l : Int} (h : Iv X1 X2 k l) : ∀ w, Calls Try.prog 67 #[.agg #[.float .f64 X1, .float .f64 X2]] w fun e w' => e = .returned (.bool false) ∧ Below w.heap.size w w' := by
  have hI := INF_pos
  have h1 : (Ieee.double.order X1 X1 != some .eq) = false := by rw [h.x.self]; rfl
  have h2 : (Ieee.double.order X2 X2 != some .eq) = false := by rw [h.y.self]; rfl
  have e1 := h.le
  have e2 := h.lo
  have e3 := h.hi
  have h3 : (Ieee.double.order X1 X2 == some .gt) = false := by
    rw [h.x.order h.y]
    have : compare k l ≠ .gt := by rw [Ne, Int.compare_eq_gt]; omega
    simp [this]
  have h4 : (Ieee.double.order X1 9218868437227405311 == some .gt) = false := by
    rw [h.x.order Key.max]
    have : compare k (INF - 1) ≠ .gt := by rw [Ne, Int.compare_eq_gt]; omega
    simp [this]
  have h5 : (Ieee.double.order X2 18442240474082181119 == some .lt) = false := by
    rw [h.y.order Key.nmax]
    have : compare l (1 - INF) ≠ .lt := by rw [Ne, Int.compare_eq_lt]; omega
    simp [this]
  exact rnone5_w X1 X2 h1 h2 h3 h4 h5
theorem rnone_yes {X1 X2 : Nat} (h : NoIv X1 X2) (hX1 : X1 < 18446744073709551616) (hX2 : X2 < 18446744073709551616) : ∀ w, Calls Try.prog 67 #[.agg #[.float .f64 X1, .float .f64 X2]] w fun e w' => e = .returned (.bool true) ∧ Below w.heap.size w w' := by
  rcases h.cases hX1 hX2 with g | ⟨k, g1, g⟩ | ⟨k, l, g1, g2, g⟩
  · exact rnone0_w X1 X2 (by rw [g.l]; rfl)
  · exact rnone1_w X1 X2 (by rw [g1.self]; rfl) (by rw [g.l]; rfl)
  · have h1 : (Ieee.double.order X1 X1 != some .eq) = false := by rw [g1.self]; rfl
    have h2 : (Ieee.double.order X2 X2 != some .eq) = false := by rw [g2.self]; rfl
    rcases g with g | ⟨g, g3⟩ | ⟨g, g3, g4⟩
    · exact rnone2_w X1 X2 h1 h2 (by rw [g1.ogt g2 g]; rfl)
    · have h3 : (Ieee.double.order X1 X2 == some .gt) = false := by
        rw [g1.order g2]
        have : compare k l ≠ .gt := by rw [Ne, Int.compare_eq_gt]; omega
        simp [this]
      exact rnone3_w X1 X2 h1 h2 h3 (by rw [g1.ogt Key.max (by omega)]; rfl)
    · have h3 : (Ieee.double.order X1 X2 == some .gt) = false := by
        rw [g1.order g2]
        have : compare k l ≠ .gt := by rw [Ne, Int.compare_eq_gt]; omega
        simp [this]
      have h4 : (Ieee.double.order X1 9218868437227405311 == some .gt) = false := by
        rw [g1.order Key.max]
        have : compare k (INF - 1) ≠ .gt := by rw [Ne, Int.compare_eq_gt]; omega
        simp [this]
      exact rnone4_w X1 X2 h1 h2 h3 h4 (by rw [g2.olt Key.nmax (by omega)]; rfl)
theorem rplain {x y : Nat} {k l : Int} (hx : Key x k) (hy : Key y l) : ∀ w, Calls Try.prog 69 #[.float .f64 x, .float .f64 y] w fun e w' => e = .returned (.agg #[.float .f64 (B k), .float .f64 (B l)]) ∧ Below w.heap.size w w' := rplain_w x y _ _ hx.plus0 hy.plus0
theorem pneg {X1 X2 : Nat} {k l : Int} (hx : Key X1 k) (hy : Key X2 l) : ∀ w, Calls Try.prog 93 #[.agg #[.float .f64 X1, .float .f64 X2]] w fun e w' => e = .returned (.agg #[.float .f64 (B (-l)), .float .f64 (B (-k))]) ∧ Below w.heap.size w w' := neg_w X1 X2 _ _ hy.minus hx.minus
theorem neg_pl {k : Int} (h : Pl k) : Pl (-k) := by unfold Pl at *; omega
theorem Iv.neg {X1 X2 : Nat} {k l : Int} (h : Iv X1 X2 k l) : Iv (B (-l)) (B (-k)) (-l) (-k) :=
  ⟨Key.at (neg_pl h.y.pl), Key.at (neg_pl h.x.pl), by have := h.le; omega, by have := h.hi; omega, by have := h.lo; omega⟩
theorem rneg_ok {X1 X2 : Nat} {k l : Int} (h : Iv X1 X2 k l) : ∀ w, Calls Try.prog 71 #[.agg #[.float .f64 X1, .float .f64 X2]] w fun e w' => e = .returned (.agg #[.float .f64 (B (-l)), .float .f64 (B (-k))]) ∧ Below w.heap.size w w' :=
  rneg_ok_w X1 X2 _ _ _ _ (rnone_no h) h.y.minus h.x.minus (rplain (Key.at (neg_pl h.y.pl)) (Key.at (neg_pl h.x.pl)))
theorem rneg_no {X1 X2 : Nat} (h : NoIv X1 X2) (hX1 : X1 < 18446744073709551616) (hX2 : X2 < 18446744073709551616) : ∀ w, Calls Try.prog 71 #[.agg #[.float .f64 X1, .float .f64 X2]] w fun e w' => e = .returned (.agg #[.float .f64 (B INF), .float .f64 (B (-INF))]) ∧ Below w.heap.size w w' := rneg_no_w X1 X2 _ _ (rnone_yes h hX1 hX2) rempty
-- sums
theorem padd_ok (F : Ops) {X1 X2 Y1 Y2 : Nat} {k l k' l' : Int} (h : Iv X1 X2 k l) (h' : Iv Y1 Y2 k' l') : ∀ w, Calls Try.prog 66 #[.agg #[.float .f64 X1, .float .f64 X2], .agg #[.float .f64 Y1, .float .f64 Y2]] w fun e w' => e = .returned (.agg #[.float .f64 (B (F.aD k k')), .float .f64 (B (F.aU l l'))]) ∧ Below w.heap.size w w' :=
  add_ok_w X1 X2 Y1 Y2 _ _ _ _ (none_no h) (none_no h') (F.add_p h.x h'.x) (F.add_p h.y h'.y)
theorem padd_no {X1 X2 Y1 Y2 : Nat} (hX1 : X1 < 18446744073709551616) (hX2 : X2 < 18446744073709551616) (hY1 : Y1 < 18446744073709551616) (hY2 : Y2 < 18446744073709551616) (h : NoIv X1 X2 ∨ NoIv Y1 Y2) : ∀ w, Calls Try.prog 66 #[.agg #[.float .f64 X1, .float .f64 X2], .agg #[.float .f64 Y1, .float .f64 Y2]] w fun e w' => e = .returned (.agg #[.float .f64 (B INF), .float .f64 (B (-INF))]) ∧ Below w.heap.size w w' := by
  rcases Iv.or X1 X2 with ⟨k, l, g⟩ | g
  · rcases h with h | h
    · exact absurd g (h k l)
    · exact add_noy_w X1 X2 Y1 Y2 _ _ (none_no g) (none_yes h hY1 hY2) pempty
  · exact add_nox_w X1 X2 Y1 Y2 _ _ (none_yes g hX1 hX2) pempty
theorem aD_pl (F : Ops) {k l : Int} (hk : Pl k) (hl : Pl l) : Pl (F.aD k l) ∧ Pl (F.aU k l) := by
  have := (F.add hk hl).bd
  unfold Pl; omega
theorem rsum_ok (F : Ops) {X1 X2 Y1 Y2 : Nat} {k l k' l' : Int} (h : Iv X1 X2 k l) (h' : Iv Y1 Y2 k' l') : ∀ w, Calls Try.prog 30 #[.agg #[.float .f64 X1, .float .f64 X2], .agg #[.float .f64 Y1, .float .f64 Y2]] w fun e w' => e = .returned (.agg #[.float .f64 (B (F.aD k k')), .float .f64 (B (F.aU l l'))]) ∧ Below w.heap.size w w' :=
  rsum_ok_w X1 X2 Y1 Y2 _ _ _ _ (rnone_no h) (rnone_no h') (F.add_d h.x h'.x) (F.add_u h.y h'.y) (rplain (Key.at (aD_pl F h.x.pl h'.x.pl).1) (Key.at (aD_pl F h.y.pl h'.y.pl).2))
theorem rsum_no {X1 X2 Y1 Y2 : Nat} (hX1 : X1 < 18446744073709551616) (hX2 : X2 < 18446744073709551616) (hY1 : Y1 < 18446744073709551616) (hY2 : Y2 < 18446744073709551616) (h : NoIv X1 X2 ∨ NoIv Y1 Y2) : ∀ w, Calls Try.prog 30 #[.agg #[.float .f64 X1, .float .f64 X2], .agg #[.float .f64 Y1, .float .f64 Y2]] w fun e w' => e = .returned (.agg #[.float .f64 (B INF), .float .f64 (B (-INF))]) ∧ Below w.heap.size w w' := by
  rcases Iv.or X1 X2 with ⟨k, l, g⟩ | g
  · rcases h with h | h
    · exact absurd g (h k l)
    · exact rsum_noy_w X1 X2 Y1 Y2 _ _ (rnone_no g) (rnone_yes h hY1 hY2) rempty
  · rcases Iv.or Y1 Y2 with ⟨k, l, g'⟩ | g'
    · exact rsum_nox_w X1 X2 Y1 Y2 _ _ false (rnone_yes g hX1 hX2) (rnone_no g') rempty
    · exact rsum_nox_w X1 X2 Y1 Y2 _ _ true (rnone_yes g hX1 hX2) (rnone_yes g' hY1 hY2) rempty
theorem psub_ok (F : Ops) {X1 X2 Y1 Y2 : Nat} {k l k' l' : Int} (h : Iv X1 X2 k l) (h' : Iv Y1 Y2 k' l') : ∀ w, Calls Try.prog 70 #[.agg #[.float .f64 X1, .float .f64 X2], .agg #[.float .f64 Y1, .float .f64 Y2]] w fun e w' => e = .returned (.agg #[.float .f64 (B (F.aD k (-l'))), .float .f64 (B (F.aU l (-k')))]) ∧ Below w.heap.size w w' :=
  sub_w X1 X2 Y1 Y2 _ _ _ _ (pneg h'.x h'.y) (padd_ok F h h'.neg)
theorem rdiff_ok (F : Ops) {X1 X2 Y1 Y2 : Nat} {k l k' l' : Int} (h : Iv X1 X2 k l) (h' : Iv Y1 Y2 k' l') : ∀ w, Calls Try.prog 33 #[.agg #[.float .f64 X1, .float .f64 X2], .agg #[.float .f64 Y1, .float .f64 Y2]] w fun e w' => e = .returned (.agg #[.float .f64 (B (F.aD k (-l'))), .float .f64 (B (F.aU l (-k')))]) ∧ Below w.heap.size w w' :=
  rdiff_w X1 X2 Y1 Y2 _ _ _ _ (rneg_ok h') (rsum_ok F h h'.neg)
theorem psub_no {X1 X2 Y1 Y2 : Nat} (hX1 : X1 < 18446744073709551616) (hX2 : X2 < 18446744073709551616) (hY1 : Y1 < 18446744073709551616) (hY2 : Y2 < 18446744073709551616) (h : NoIv X1 X2 ∨ NoIv Y1 Y2) : ∀ w, Calls Try.prog 70 #[.agg #[.float .f64 X1, .float .f64 X2], .agg #[.float .f64 Y1, .float .f64 Y2]] w fun e w' => e = .returned (.agg #[.float .f64 (B INF), .float .f64 (B (-INF))]) ∧ Below w.heap.size w w' := by
  have nan : NegNan Y1 Y2 → ∀ w, Calls Try.prog 70 #[.agg #[.float .f64 X1, .float .f64 X2], .agg #[.float .f64 Y1, .float .f64 Y2]] w fun e w' => e = .returned (.agg #[.float .f64 (B INF), .float .f64 (B (-INF))]) ∧ Below w.heap.size w w' := fun g => sub_nan_w X1 X2 Y1 Y2 _ _ g fun a b z1 z2 z3 => padd_no hX1 hX2 z2 z3 (.inr z1)
  have keys : ∀ k l, Key Y1 k → Key Y2 l → (NoIv X1 X2 ∨ NoIv (B (-l)) (B (-k))) → ∀ w, Calls Try.prog 70 #[.agg #[.float .f64 X1, .float .f64 X2], .agg #[.float .f64 Y1, .float .f64 Y2]] w fun e w' => e = .returned (.agg #[.float .f64 (B INF), .float .f64 (B (-INF))]) ∧ Below w.heap.size w w' := fun k l g1 g2 g =>
    sub_w X1 X2 Y1 Y2 _ _ _ _ (pneg g1 g2) (padd_no hX1 hX2 (Key.at (neg_pl g2.pl)).lt (Key.at (neg_pl g1.pl)).lt g)
  rcases Iv.or Y1 Y2 with ⟨k, l, g⟩ | g
  · refine keys k l g.x g.y (.inl ?_)
    rcases h with h | h
    · exact h
    · exact absurd g (h k l)
  · rcases g.cases hY1 hY2 with c | ⟨k, c1, c⟩ | ⟨k, l, c1, c2, c⟩
    · rcases word_cases Y2 hY2 with ⟨l, c'⟩ | c'
      · exact nan (neg_nan1 c c')
      · exact nan (neg_nan12 c c')
    · exact nan (neg_nan2 c1 c)
    · refine keys k l c1 c2 (.inr ?_)
      intro k2 l2 q
      have u1 := q.x.unique (Key.at (neg_pl c2.pl))
      have u2 := q.y.unique (Key.at (neg_pl c1.pl))
      have := q.le
      have := q.lo
      have := q.hi
      omega
theorem rdiff_no {X1 X2 Y1 Y2 : Nat} (hX1 : X1 < 18446744073709551616) (hX2 : X2 < 18446744073709551616) (hY1 : Y1 < 18446744073709551616) (hY2 : Y2 < 18446744073709551616) (h : NoIv X1 X2 ∨ NoIv Y1 Y2) : ∀ w, Calls Try.prog 33 #[.agg #[.float .f64 X1, .float .f64 X2], .agg #[.float .f64 Y1, .float .f64 Y2]] w fun e w' => e = .returned (.agg #[.float .f64 (B INF), .float .f64 (B (-INF))]) ∧ Below w.heap.size w w' := by
  rcases Iv.or Y1 Y2 with ⟨k, l, g⟩ | g
  · rcases h with h | h
    · exact rdiff_w X1 X2 Y1 Y2 _ _ _ _ (rneg_ok g) (rsum_no hX1 hX2 g.neg.x.lt g.neg.y.lt (.inl h))
    · exact absurd g (h k l)
  · exact rdiff_w X1 X2 Y1 Y2 _ _ _ _ (rneg_no g hY1 hY2) (rsum_no hX1 hX2 emp1 emp2 (.inr emp_no))
/-- Two calls that answer the same, with no NaN. -/
theorem alike_any {a b : Int} (ha : Pl a) (hb : Pl b) : ∀ w, Calls Try.prog 31 #[.agg #[.float .f64 (B a), .float .f64 (B b)], .agg #[.float .f64 (B a), .float .f64 (B b)]] w fun e w' => e = .returned (.bool true) ∧ Below w.heap.size w w' := alike_w _ _ (same_any _ (Key.at ha).self) (same_any _ (Key.at hb).self)
theorem emp_pl : Pl INF ∧ Pl (-INF) := by have := INF_pos; unfold Pl; omega
theorem sums_any (X1 X2 Y1 Y2 : Nat) (hX1 : X1 < 18446744073709551616) (hX2 : X2 < 18446744073709551616) (hY1 : Y1 < 18446744073709551616) (hY2 : Y2 < 18446744073709551616) : ∀ w, Calls Try.prog 5 #[.float .f64 X1, .float .f64 X2, .float .f64 Y1, .float .f64 Y2] w fun e w' => e = .returned (.bool true) ∧ Below w.heap.size w w' := by
  obtain ⟨F⟩ := ops
  by_cases h : NoIv X1 X2 ∨ NoIv Y1 Y2
  · exact sums_w X1 X2 Y1 Y2 _ _ _ _ (iAdd_w X1 X2 Y1 Y2 _ _ (padd_no hX1 hX2 hY1 hY2 h)) (rsum_no hX1 hX2 hY1 hY2 h) (alike_any emp_pl.1 emp_pl.2)
      (iSub_w X1 X2 Y1 Y2 _ _ (psub_no hX1 hX2 hY1 hY2 h)) (rdiff_no hX1 hX2 hY1 hY2 h) (alike_any emp_pl.1 emp_pl.2) (interval_w X1 X2) (interval_w Y1 Y2)
  · rcases Iv.or X1 X2 with ⟨k, l, g⟩ | g
    · rcases Iv.or Y1 Y2 with ⟨k', l', g'⟩ | g'
      · exact sums_w X1 X2 Y1 Y2 _ _ _ _ (iAdd_w X1 X2 Y1 Y2 _ _ (padd_ok F g g')) (rsum_ok F g g') (alike_any (aD_pl F g.x.pl g'.x.pl).1 (aD_pl F g.y.pl g'.y.pl).2)
          (iSub_w X1 X2 Y1 Y2 _ _ (psub_ok F g g')) (rdiff_ok F g g') (alike_any (aD_pl F g.x.pl (neg_pl g'.y.pl)).1 (aD_pl F g.y.pl (neg_pl g'.x.pl)).2) (interval_w X1 X2) (interval_w Y1 Y2)
      · exact absurd (.inr g') h
    · exact absurd (.inl g) h
end Go.Proofs.Ytiohmafmkdbljaa
