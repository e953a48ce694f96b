import Derived.Test.YtacnclofbnafiabGreatDoorK5
import Derived.Test.YtacnclofbnafiabGreatDoorKB
import Derived.Test.YtacnclofbnafiabGreatDoorK8
import Derived.Test.YtacnclofbnafiabGreatDoorK10
import Derived.Test.YtacnclofbnafiabGreatDoorM1
namespace Go.Proofs.YtacnclofbnafiabGreatDoor
open Go.RowKit Fl

theorem pempty : ∀ w, Calls Tryz.prog 145 #[] w fun e w' => e = .returned (.agg #[.float .f64 (B INF), .float .f64 (B (-INF))]) ∧ Below w.heap.size w w' := empty_w _ _ infp infn
theorem pall : ∀ w, Calls Tryz.prog 146 #[] w fun e w' => e = .returned (.agg #[.float .f64 (B (-INF)), .float .f64 (B INF)]) ∧ Below w.heap.size w w' := all_w _ _ infp infn
theorem emp_no : NoIv (B INF) (B (-INF)) := by
  intro k l h
  have hI := INF_pos
  have h1 := h.x.unique (Key.of_B (by omega) (Int.le_refl _))
  have h2 := h.y.unique (Key.of_B (Int.le_refl _) (by omega))
  have := h.le
  omega
theorem emp1 : B INF < 18446744073709551616 := (Key.of_B (by omega) (Int.le_refl _)).lt
theorem emp2 : B (-INF) < 18446744073709551616 := (Key.of_B (Int.le_refl _) (by omega)).lt
theorem pneg {X1 X2 : Nat} {k l : Int} (hx : Key X1 k) (hy : Key X2 l) : ∀ w, Calls Tryz.prog 134 #[.agg #[.float .f64 X1, .float .f64 X2]] w fun e w' => e = .returned (.agg #[.float .f64 (B (-l)), .float .f64 (B (-k))]) ∧ Below w.heap.size w w' := neg_w X1 X2 _ _ hy.minus hx.minus
theorem neg_pl {k : Int} (h : Pl k) : Pl (-k) := by unfold Pl at *; omega
theorem Iv.neg {X1 X2 : Nat} {k l : Int} (h : Iv X1 X2 k l) : Iv (B (-l)) (B (-k)) (-l) (-k) :=
  ⟨Key.at (neg_pl h.y.pl), Key.at (neg_pl h.x.pl), by have := h.le; omega, by have := h.hi; omega, by have := h.lo; omega⟩
theorem tgt {x y : Nat} {k l : Int} (hx : Key x k) (hy : Key y l) (h : l < k) : (Ieee.double.order x y == some .gt) = true := by rw [hx.ogt hy h]; rfl
theorem tlt {x y : Nat} {k l : Int} (hx : Key x k) (hy : Key y l) (h : k < l) : (Ieee.double.order x y == some .lt) = true := by rw [hx.olt hy h]; rfl
theorem ngt {x y : Nat} {k l : Int} (hx : Key x k) (hy : Key y l) (h : k ≤ l) : (Ieee.double.order x y == some .gt) = false := by
  rw [hx.order hy]
  have : compare k l ≠ .gt := by rw [Ne, Int.compare_eq_gt]; omega
  simp [this]
theorem nlt {x y : Nat} {k l : Int} (hx : Key x k) (hy : Key y l) (h : l ≤ k) : (Ieee.double.order x y == some .lt) = false := by
  rw [hx.order hy]
  have : compare k l ≠ .lt := by rw [Ne, Int.compare_eq_lt]; omega
  simp [this]
theorem pplain_ok {X1 X2 : Nat} {k l : Int} (h : Iv X1 X2 k l) : ∀ w, Calls Tryz.prog 133 #[.agg #[.float .f64 X1, .float .f64 X2]] w fun e w' => e = .returned (.agg #[.float .f64 (B k), .float .f64 (B l)]) ∧ Below w.heap.size w w' := plain_ok_w X1 X2 _ _ (none_no h) (plain_key h.x) (plain_key h.y)
theorem pplain_no {X1 X2 : Nat} (h : NoIv X1 X2) (hX1 : X1 < 18446744073709551616) (hX2 : X2 < 18446744073709551616) : ∀ w, Calls Tryz.prog 133 #[.agg #[.float .f64 X1, .float .f64 X2]] w fun e w' => e = .returned (.agg #[.float .f64 (B INF), .float .f64 (B (-INF))]) ∧ Below w.heap.size w w' := plain_no_w X1 X2 _ _ (none_yes h hX1 hX2) pempty
theorem padd_ok (F : Ops) {X1 X2 Y1 Y2 : Nat} {k l k' l' : Int} (h : Iv X1 X2 k l) (h' : Iv Y1 Y2 k' l') : ∀ w, Calls Tryz.prog 118 #[.agg #[.float .f64 X1, .float .f64 X2], .agg #[.float .f64 Y1, .float .f64 Y2]] w fun e w' => e = .returned (.agg #[.float .f64 (B (F.aD k k')), .float .f64 (B (F.aU l l'))]) ∧ Below w.heap.size w w' :=
  add_ok_w X1 X2 Y1 Y2 _ _ _ _ (none_no h) (none_no h') (F.add_p h.x h'.x) (F.add_p h.y h'.y)
theorem padd_no {X1 X2 Y1 Y2 : Nat} (hX1 : X1 < 18446744073709551616) (hX2 : X2 < 18446744073709551616) (hY1 : Y1 < 18446744073709551616) (hY2 : Y2 < 18446744073709551616) (h : NoIv X1 X2 ∨ NoIv Y1 Y2) : ∀ w, Calls Tryz.prog 118 #[.agg #[.float .f64 X1, .float .f64 X2], .agg #[.float .f64 Y1, .float .f64 Y2]] w fun e w' => e = .returned (.agg #[.float .f64 (B INF), .float .f64 (B (-INF))]) ∧ Below w.heap.size w w' := by
  rcases Iv.or X1 X2 with ⟨k, l, g⟩ | g
  · rcases h with h | h
    · exact absurd g (h k l)
    · exact add_noy_w X1 X2 Y1 Y2 _ _ (none_no g) (none_yes h hY1 hY2) pempty
  · exact add_nox_w X1 X2 Y1 Y2 _ _ (none_yes g hX1 hX2) pempty
theorem psub_ok (F : Ops) {X1 X2 Y1 Y2 : Nat} {k l k' l' : Int} (h : Iv X1 X2 k l) (h' : Iv Y1 Y2 k' l') : ∀ w, Calls Tryz.prog 119 #[.agg #[.float .f64 X1, .float .f64 X2], .agg #[.float .f64 Y1, .float .f64 Y2]] w fun e w' => e = .returned (.agg #[.float .f64 (B (F.aD k (-l'))), .float .f64 (B (F.aU l (-k')))]) ∧ Below w.heap.size w w' :=
  sub_w X1 X2 Y1 Y2 _ _ _ _ (pneg h'.x h'.y) (padd_ok F h h'.neg)
theorem psub_no {X1 X2 Y1 Y2 : Nat} (hX1 : X1 < 18446744073709551616) (hX2 : X2 < 18446744073709551616) (hY1 : Y1 < 18446744073709551616) (hY2 : Y2 < 18446744073709551616) (h : NoIv X1 X2 ∨ NoIv Y1 Y2) : ∀ w, Calls Tryz.prog 119 #[.agg #[.float .f64 X1, .float .f64 X2], .agg #[.float .f64 Y1, .float .f64 Y2]] w fun e w' => e = .returned (.agg #[.float .f64 (B INF), .float .f64 (B (-INF))]) ∧ Below w.heap.size w w' := by
  have nan : NegNan Y1 Y2 → ∀ w, Calls Tryz.prog 119 #[.agg #[.float .f64 X1, .float .f64 X2], .agg #[.float .f64 Y1, .float .f64 Y2]] w fun e w' => e = .returned (.agg #[.float .f64 (B INF), .float .f64 (B (-INF))]) ∧ Below w.heap.size w w' := fun g => sub_nan_w X1 X2 Y1 Y2 _ _ g fun a b z1 z2 z3 => padd_no hX1 hX2 z2 z3 (.inr z1)
  have keys : ∀ k l, Key Y1 k → Key Y2 l → (NoIv X1 X2 ∨ NoIv (B (-l)) (B (-k))) → ∀ w, Calls Tryz.prog 119 #[.agg #[.float .f64 X1, .float .f64 X2], .agg #[.float .f64 Y1, .float .f64 Y2]] w fun e w' => e = .returned (.agg #[.float .f64 (B INF), .float .f64 (B (-INF))]) ∧ Below w.heap.size w w' := fun k l g1 g2 g =>
    sub_w X1 X2 Y1 Y2 _ _ _ _ (pneg g1 g2) (padd_no hX1 hX2 (Key.at (neg_pl g2.pl)).lt (Key.at (neg_pl g1.pl)).lt g)
  rcases Iv.or Y1 Y2 with ⟨k, l, g⟩ | g
  · refine keys k l g.x g.y (.inl ?_)
    rcases h with h | h
    · exact h
    · exact absurd g (h k l)
  · rcases g.cases hY1 hY2 with c | ⟨k, c1, c⟩ | ⟨k, l, c1, c2, c⟩
    · rcases word_cases Y2 hY2 with ⟨l, c'⟩ | c'
      · exact nan (neg_nan1 c c')
      · exact nan (neg_nan12 c c')
    · exact nan (neg_nan2 c1 c)
    · refine keys k l c1 c2 (.inr ?_)
      intro k2 l2 q
      have u1 := q.x.unique (Key.at (neg_pl c2.pl))
      have u2 := q.y.unique (Key.at (neg_pl c1.pl))
      have := q.le
      have := q.lo
      have := q.hi
      omega
theorem pcorner (F : Ops) {x y : Nat} {k l : Int} (hx : Key x k) (hy : Key y l) : ∀ w, Calls Tryz.prog 149 #[.float .f64 x, .float .f64 y] w fun e w' => e = .returned (.agg #[.float .f64 (B (F.mD k l)), .float .f64 (B (F.mU k l))]) ∧ Below w.heap.size w w' := corner_w x y _ _ (F.mul_p hx hy)
theorem pcover {a b c q : Int} (ha : Pl a) (hb : Pl b) (hc : Pl c) (hq : Pl q) : ∀ w, Calls Tryz.prog 148 #[.agg #[.float .f64 (B a), .float .f64 (B b)], .agg #[.float .f64 (B c), .float .f64 (B q)]] w fun e w' => e = .returned (.agg #[.float .f64 (B (min a c)), .float .f64 (B (max b q))]) ∧ Below w.heap.size w w' := cover_w (B a) (B b) (B c) (B q) _ _ (min_B ha hc) (max_B hb hq)
theorem pmul_ok (F : Ops) {X1 X2 Y1 Y2 : Nat} {k l k' l' : Int} (h : Iv X1 X2 k l) (h' : Iv Y1 Y2 k' l') : ∀ w, Calls Tryz.prog 120 #[.agg #[.float .f64 X1, .float .f64 X2], .agg #[.float .f64 Y1, .float .f64 Y2]] w fun e w' => e = .returned (.agg #[.float .f64 (B (F.pLo k l k' l')), .float .f64 (B (F.pHi k l k' l'))]) ∧ Below w.heap.size w w' := by
  have a1 := F.mul_pl h.x.pl h'.x.pl
  have a2 := F.mul_pl h.x.pl h'.y.pl
  have a3 := F.mul_pl h.y.pl h'.x.pl
  have a4 := F.mul_pl h.y.pl h'.y.pl
  exact mul_ok_w X1 X2 Y1 Y2 _ _ _ _ _ _ _ _ _ _ _ _ _ _ (none_no h) (none_no h') (pcorner F h.x h'.x) (pcorner F h.x h'.y) (pcorner F h.y h'.x) (pcorner F h.y h'.y)
    (pcover a1.1 a1.2 a2.1 a2.2) (pcover a3.1 a3.2 a4.1 a4.2) (pcover (pl_min a1.1 a2.1) (pl_max a1.2 a2.2) (pl_min a3.1 a4.1) (pl_max a3.2 a4.2))
theorem pmul_no {X1 X2 Y1 Y2 : Nat} (hX1 : X1 < 18446744073709551616) (hX2 : X2 < 18446744073709551616) (hY1 : Y1 < 18446744073709551616) (hY2 : Y2 < 18446744073709551616) (h : NoIv X1 X2 ∨ NoIv Y1 Y2) : ∀ w, Calls Tryz.prog 120 #[.agg #[.float .f64 X1, .float .f64 X2], .agg #[.float .f64 Y1, .float .f64 Y2]] w fun e w' => e = .returned (.agg #[.float .f64 (B INF), .float .f64 (B (-INF))]) ∧ Below w.heap.size w w' := by
  rcases Iv.or X1 X2 with ⟨k, l, g⟩ | g
  · rcases h with h | h
    · exact absurd g (h k l)
    · exact mul_noy_w X1 X2 Y1 Y2 _ _ (none_no g) (none_yes h hY1 hY2) pempty
  · exact mul_nox_w X1 X2 Y1 Y2 _ _ (none_yes g hX1 hX2) pempty
end Go.Proofs.YtacnclofbnafiabGreatDoor
