import Derived.Test.YtcfjicfmcmbepabK5
import Derived.Test.YtcfjicfmcmbepabK6
import Derived.Test.YtcfjicfmcmbepabK7
import Derived.Test.YtcfjicfmcmbepabK8
import Derived.Test.YtcfjicfmcmbepabK10
import Derived.Test.YtcfjicfmcmbepabM1
namespace Go.Proofs.Ytcfjicfmcmbepab
open Go.RowKit Fl

theorem pempty : ∀ w, Calls Try.prog 56 #[] w fun e w' => e = .returned (.agg #[.float .f64 (B INF), .float .f64 (B (-INF))]) ∧ Below w.heap.size w w' := empty_w _ _ infp infn
theorem pall : ∀ w, Calls Try.prog 57 #[] w fun e w' => e = .returned (.agg #[.float .f64 (B (-INF)), .float .f64 (B INF)]) ∧ Below w.heap.size w w' := all_w _ _ infp infn
theorem emp_no : NoIv (B INF) (B (-INF)) := by
  intro k l h
  have hI := INF_pos
  have h1 := h.x.unique (Key.of_B (by omega) (Int.le_refl _))
  have h2 := h.y.unique (Key.of_B (Int.le_refl _) (by omega))
  have := h.le
  omega
theorem emp1 : B INF < 18446744073709551616 := (Key.of_B (by omega) (Int.le_refl _)).lt
theorem emp2 : B (-INF) < 18446744073709551616 := (Key.of_B (Int.le_refl _) (by omega)).lt
theorem pneg {X1 X2 : Nat} {k l : Int} (hx : Key X1 k) (hy : Key X2 l) : ∀ w, Calls Try.prog 72 #[.agg #[.float .f64 X1, .float .f64 X2]] w fun e w' => e = .returned (.agg #[.float .f64 (B (-l)), .float .f64 (B (-k))]) ∧ Below w.heap.size w w' := neg_w X1 X2 _ _ hy.minus hx.minus
theorem neg_pl {k : Int} (h : Pl k) : Pl (-k) := by unfold Pl at *; omega
theorem Iv.neg {X1 X2 : Nat} {k l : Int} (h : Iv X1 X2 k l) : Iv (B (-l)) (B (-k)) (-l) (-k) :=
  ⟨Key.at (neg_pl h.y.pl), Key.at (neg_pl h.x.pl), by have := h.le; omega, by have := h.hi; omega, by have := h.lo; omega⟩
theorem emp_pl : Pl INF ∧ Pl (-INF) := by have := INF_pos; unfold Pl; omega
theorem tgt {x y : Nat} {k l : Int} (hx : Key x k) (hy : Key y l) (h : l < k) : (Ieee.double.order x y == some .gt) = true := by rw [hx.ogt hy h]; rfl
theorem tlt {x y : Nat} {k l : Int} (hx : Key x k) (hy : Key y l) (h : k < l) : (Ieee.double.order x y == some .lt) = true := by rw [hx.olt hy h]; rfl
theorem ngt {x y : Nat} {k l : Int} (hx : Key x k) (hy : Key y l) (h : k ≤ l) : (Ieee.double.order x y == some .gt) = false := by
  rw [hx.order hy]
  have : compare k l ≠ .gt := by rw [Ne, Int.compare_eq_gt]; omega
  simp [this]
theorem nlt {x y : Nat} {k l : Int} (hx : Key x k) (hy : Key y l) (h : l ≤ k) : (Ieee.double.order x y == some .lt) = false := by
  rw [hx.order hy]
  have : compare k l ≠ .lt := by rw [Ne, Int.compare_eq_lt]; omega
  simp [this]
theorem tge {x y : Nat} {k l : Int} (hx : Key x k) (hy : Key y l) (h : l ≤ k) : (Ieee.double.order x y == some .gt || Ieee.double.order x y == some .eq) = true := by
  rcases Int.lt_or_eq_of_le h with g | g
  · rw [hx.ogt hy g]; rfl
  · rw [hx.oeq hy g.symm]; rfl
theorem nge {x y : Nat} {k l : Int} (hx : Key x k) (hy : Key y l) (h : k < l) : (Ieee.double.order x y == some .gt || Ieee.double.order x y == some .eq) = false := by
  rw [hx.olt hy h]; rfl
theorem tle {x y : Nat} {k l : Int} (hx : Key x k) (hy : Key y l) (h : k ≤ l) : (Ieee.double.order x y == some .lt || Ieee.double.order x y == some .eq) = true := by
  rcases Int.lt_or_eq_of_le h with g | g
  · rw [hx.olt hy g]; rfl
  · rw [hx.oeq hy g]; rfl
theorem nle {x y : Nat} {k l : Int} (hx : Key x k) (hy : Key y l) (h : l < k) : (Ieee.double.order x y == some .lt || Ieee.double.order x y == some .eq) = false := by
  rw [hx.ogt hy h]; rfl
theorem no_of {X1 X2 : Nat} {k l : Int} (hx : Key X1 k) (hy : Key X2 l) (h : l < k) : NoIv X1 X2 := fun k2 l2 g => by
  have u1 := g.x.unique hx
  have u2 := g.y.unique hy
  have := g.le
  omega
theorem padd_ok (F : Ops) {X1 X2 Y1 Y2 : Nat} {k l k' l' : Int} (h : Iv X1 X2 k l) (h' : Iv Y1 Y2 k' l') : ∀ w, Calls Try.prog 59 #[.agg #[.float .f64 X1, .float .f64 X2], .agg #[.float .f64 Y1, .float .f64 Y2]] w fun e w' => e = .returned (.agg #[.float .f64 (B (F.aD k k')), .float .f64 (B (F.aU l l'))]) ∧ Below w.heap.size w w' :=
  add_ok_w X1 X2 Y1 Y2 _ _ _ _ (none_no h) (none_no h') (F.add_p h.x h'.x) (F.add_p h.y h'.y)
theorem padd_no {X1 X2 Y1 Y2 : Nat} (hX1 : X1 < 18446744073709551616) (hX2 : X2 < 18446744073709551616) (hY1 : Y1 < 18446744073709551616) (hY2 : Y2 < 18446744073709551616) (h : NoIv X1 X2 ∨ NoIv Y1 Y2) : ∀ w, Calls Try.prog 59 #[.agg #[.float .f64 X1, .float .f64 X2], .agg #[.float .f64 Y1, .float .f64 Y2]] w fun e w' => e = .returned (.agg #[.float .f64 (B INF), .float .f64 (B (-INF))]) ∧ Below w.heap.size w w' := by
  rcases Iv.or X1 X2 with ⟨k, l, g⟩ | g
  · rcases h with h | h
    · exact absurd g (h k l)
    · exact add_noy_w X1 X2 Y1 Y2 _ _ (none_no g) (none_yes h hY1 hY2) pempty
  · exact add_nox_w X1 X2 Y1 Y2 _ _ (none_yes g hX1 hX2) pempty
theorem psub_ok (F : Ops) {X1 X2 Y1 Y2 : Nat} {k l k' l' : Int} (h : Iv X1 X2 k l) (h' : Iv Y1 Y2 k' l') : ∀ w, Calls Try.prog 66 #[.agg #[.float .f64 X1, .float .f64 X2], .agg #[.float .f64 Y1, .float .f64 Y2]] w fun e w' => e = .returned (.agg #[.float .f64 (B (F.aD k (-l'))), .float .f64 (B (F.aU l (-k')))]) ∧ Below w.heap.size w w' :=
  sub_w X1 X2 Y1 Y2 _ _ _ _ (pneg h'.x h'.y) (padd_ok F h h'.neg)
theorem psub_no {X1 X2 Y1 Y2 : Nat} (hX1 : X1 < 18446744073709551616) (hX2 : X2 < 18446744073709551616) (hY1 : Y1 < 18446744073709551616) (hY2 : Y2 < 18446744073709551616) (h : NoIv X1 X2 ∨ NoIv Y1 Y2) : ∀ w, Calls Try.prog 66 #[.agg #[.float .f64 X1, .float .f64 X2], .agg #[.float .f64 Y1, .float .f64 Y2]] w fun e w' => e = .returned (.agg #[.float .f64 (B INF), .float .f64 (B (-INF))]) ∧ Below w.heap.size w w' := by
  have nan : NegNan Y1 Y2 → ∀ w, Calls Try.prog 66 #[.agg #[.float .f64 X1, .float .f64 X2], .agg #[.float .f64 Y1, .float .f64 Y2]] w fun e w' => e = .returned (.agg #[.float .f64 (B INF), .float .f64 (B (-INF))]) ∧ Below w.heap.size w w' := fun g => sub_nan_w X1 X2 Y1 Y2 _ _ g fun a b z1 z2 z3 => padd_no hX1 hX2 z2 z3 (.inr z1)
  have keys : ∀ k l, Key Y1 k → Key Y2 l → (NoIv X1 X2 ∨ NoIv (B (-l)) (B (-k))) → ∀ w, Calls Try.prog 66 #[.agg #[.float .f64 X1, .float .f64 X2], .agg #[.float .f64 Y1, .float .f64 Y2]] w fun e w' => e = .returned (.agg #[.float .f64 (B INF), .float .f64 (B (-INF))]) ∧ Below w.heap.size w w' := fun k l g1 g2 g =>
    sub_w X1 X2 Y1 Y2 _ _ _ _ (pneg g1 g2) (padd_no hX1 hX2 (Key.at (neg_pl g2.pl)).lt (Key.at (neg_pl g1.pl)).lt g)
  rcases Iv.or Y1 Y2 with ⟨k, l, g⟩ | g
  · refine keys k l g.x g.y (.inl ?_)
    rcases h with h | h
    · exact h
    · exact absurd g (h k l)
  · rcases g.cases hY1 hY2 with c | ⟨k, c1, c⟩ | ⟨k, l, c1, c2, c⟩
    · rcases word_cases Y2 hY2 with ⟨l, c'⟩ | c'
      · exact nan (neg_nan1 c c')
      · exact nan (neg_nan12 c c')
    · exact nan (neg_nan2 c1 c)
    · refine keys k l c1 c2 (.inr ?_)
      intro k2 l2 q
      have u1 := q.x.unique (Key.at (neg_pl c2.pl))
      have u2 := q.y.unique (Key.at (neg_pl c1.pl))
      have := q.le
      have := q.lo
      have := q.hi
      omega
theorem quo_iv (F : Ops) {k l k' l' : Int} (hk : Pl k) (hl : Pl l) (hl' : Pl l') (h1 : k ≤ l) (h2 : k < INF) (h3 : -(INF : Int) < l) (h0 : 0 ≤ k') (h4 : k' ≤ l') (h5 : 0 < l') (h6 : k' < INF) :
    Iv (B (F.qLo k k' l')) (B (F.qHi l k' l')) (F.qLo k k' l') (F.qHi l k' l') := by
  have hk' : Pl k' := by unfold Pl; omega
  exact ⟨Key.at (F.q_pl hk hk' hl' h0 (by omega)).1, Key.at (F.q_pl hl hk' hl' h0 (by omega)).2, F.q_le hk hl hl' h1 h2 h3 h0 h4 h5 h6, F.q_top hk h2 hk' hl' h0 (by omega), F.q_bot hl h3 hk' hl' h0 (by omega)⟩
theorem neq0 {x : Nat} {k : Int} (hx : Key x k) (h : k ≠ 0) : (Ieee.double.order x 0 == some .eq) = false := by
  rcases Int.lt_or_le k 0 with g | g
  · rw [hx.olt Key.zero g]; rfl
  · rw [hx.ogt Key.zero (by omega)]; rfl
end Go.Proofs.Ytcfjicfmcmbepab
