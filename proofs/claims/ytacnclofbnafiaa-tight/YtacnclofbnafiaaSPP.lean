import Derived.Test.YtacnclofbnafiaaK5
import Derived.Test.YtacnclofbnafiaaK6
import Derived.Test.YtacnclofbnafiaaK7
import Derived.Test.YtacnclofbnafiaaK8
import Derived.Test.YtacnclofbnafiaaK10
import Derived.Test.YtacnclofbnafiaaM1
namespace Go.Proofs.Ytacnclofbnafiaa
open Go.RowKit Fl

theorem pempty : ∀ w, Calls Try.prog 137 #[] w fun e w' => e = .returned (.agg #[.float .f64 (B INF), .float .f64 (B (-INF))]) ∧ Below w.heap.size w w' := empty_w _ _ infp infn
theorem pall : ∀ w, Calls Try.prog 142 #[] w fun e w' => e = .returned (.agg #[.float .f64 (B (-INF)), .float .f64 (B INF)]) ∧ Below w.heap.size w w' := all_w _ _ infp infn
theorem emp_no : NoIv (B INF) (B (-INF)) := by
  intro k l h
  have hI := INF_pos
  have h1 := h.x.unique (Key.of_B (by omega) (Int.le_refl _))
  have h2 := h.y.unique (Key.of_B (Int.le_refl _) (by omega))
  have := h.le
  omega
theorem emp1 : B INF < 18446744073709551616 := (Key.of_B (by omega) (Int.le_refl _)).lt
theorem emp2 : B (-INF) < 18446744073709551616 := (Key.of_B (Int.le_refl _) (by omega)).lt
theorem pneg {X1 X2 : Nat} {k l : Int} (hx : Key X1 k) (hy : Key X2 l) : ∀ w, Calls Try.prog 138 #[.agg #[.float .f64 X1, .float .f64 X2]] w fun e w' => e = .returned (.agg #[.float .f64 (B (-l)), .float .f64 (B (-k))]) ∧ Below w.heap.size w w' := neg_w X1 X2 _ _ hy.minus hx.minus
theorem neg_pl {k : Int} (h : Pl k) : Pl (-k) := by unfold Pl at *; omega
theorem Iv.neg {X1 X2 : Nat} {k l : Int} (h : Iv X1 X2 k l) : Iv (B (-l)) (B (-k)) (-l) (-k) :=
  ⟨Key.at (neg_pl h.y.pl), Key.at (neg_pl h.x.pl), by have := h.le; omega, by have := h.hi; omega, by have := h.lo; omega⟩
theorem emp_pl : Pl INF ∧ Pl (-INF) := by have := INF_pos; unfold Pl; omega
theorem tgt {x y : Nat} {k l : Int} (hx : Key x k) (hy : Key y l) (h : l < k) : (Ieee.double.order x y == some .gt) = true := by rw [hx.ogt hy h]; rfl
theorem tlt {x y : Nat} {k l : Int} (hx : Key x k) (hy : Key y l) (h : k < l) : (Ieee.double.order x y == some .lt) = true := by rw [hx.olt hy h]; rfl
theorem ngt {x y : Nat} {k l : Int} (hx : Key x k) (hy : Key y l) (h : k ≤ l) : (Ieee.double.order x y == some .gt) = false := by
  rw [hx.order hy]
  have : compare k l ≠ .gt := by rw [Ne, Int.compare_eq_gt]; omega
  simp [this]
theorem nlt {x y : Nat} {k l : Int} (hx : Key x k) (hy : Key y l) (h : l ≤ k) : (Ieee.double.order x y == some .lt) = false := by
  rw [hx.order hy]
  have : compare k l ≠ .lt := by rw [Ne, Int.compare_eq_lt]; omega
  simp [this]
theorem tge {x y : Nat} {k l : Int} (hx : Key x k) (hy : Key y l) (h : l ≤ k) : (Ieee.double.order x y == some .gt || Ieee.double.order x y == some .eq) = true := by
  rcases Int.lt_or_eq_of_le h with g | g
  · rw [hx.ogt hy g]; rfl
  · rw [hx.oeq hy g.symm]; rfl
theorem nge {x y : Nat} {k l : Int} (hx : Key x k) (hy : Key y l) (h : k < l) : (Ieee.double.order x y == some .gt || Ieee.double.order x y == some .eq) = false := by
  rw [hx.olt hy h]; rfl
theorem tle {x y : Nat} {k l : Int} (hx : Key x k) (hy : Key y l) (h : k ≤ l) : (Ieee.double.order x y == some .lt || Ieee.double.order x y == some .eq) = true := by
  rcases Int.lt_or_eq_of_le h with g | g
  · rw [hx.olt hy g]; rfl
  · rw [hx.oeq hy g]; rfl
theorem nle {x y : Nat} {k l : Int} (hx : Key x k) (hy : Key y l) (h : l < k) : (Ieee.double.order x y == some .lt || Ieee.double.order x y == some .eq) = false := by
  rw [hx.ogt hy h]; rfl
theorem pplain_ok {X1 X2 : Nat} {k l : Int} (h : Iv X1 X2 k l) : ∀ w, Calls Try.prog 145 #[.agg #[.float .f64 X1, .float .f64 X2]] w fun e w' => e = .returned (.agg #[.float .f64 (B k), .float .f64 (B l)]) ∧ Below w.heap.size w w' := plain_ok_w X1 X2 _ _ (none_no h) (plain_key h.x) (plain_key h.y)
theorem pplain_no {X1 X2 : Nat} (h : NoIv X1 X2) (hX1 : X1 < 18446744073709551616) (hX2 : X2 < 18446744073709551616) : ∀ w, Calls Try.prog 145 #[.agg #[.float .f64 X1, .float .f64 X2]] w fun e w' => e = .returned (.agg #[.float .f64 (B INF), .float .f64 (B (-INF))]) ∧ Below w.heap.size w w' := plain_no_w X1 X2 _ _ (none_yes h hX1 hX2) pempty
theorem no_of {X1 X2 : Nat} {k l : Int} (hx : Key X1 k) (hy : Key X2 l) (h : l < k) : NoIv X1 X2 := fun k2 l2 g => by
  have u1 := g.x.unique hx
  have u2 := g.y.unique hy
  have := g.le
  omega
theorem padd_ok (F : Ops) {X1 X2 Y1 Y2 : Nat} {k l k' l' : Int} (h : Iv X1 X2 k l) (h' : Iv Y1 Y2 k' l') : ∀ w, Calls Try.prog 96 #[.agg #[.float .f64 X1, .float .f64 X2], .agg #[.float .f64 Y1, .float .f64 Y2]] w fun e w' => e = .returned (.agg #[.float .f64 (B (F.aD k k')), .float .f64 (B (F.aU l l'))]) ∧ Below w.heap.size w w' :=
  add_ok_w X1 X2 Y1 Y2 _ _ _ _ (none_no h) (none_no h') (F.add_p h.x h'.x) (F.add_p h.y h'.y)
theorem padd_no {X1 X2 Y1 Y2 : Nat} (hX1 : X1 < 18446744073709551616) (hX2 : X2 < 18446744073709551616) (hY1 : Y1 < 18446744073709551616) (hY2 : Y2 < 18446744073709551616) (h : NoIv X1 X2 ∨ NoIv Y1 Y2) : ∀ w, Calls Try.prog 96 #[.agg #[.float .f64 X1, .float .f64 X2], .agg #[.float .f64 Y1, .float .f64 Y2]] w fun e w' => e = .returned (.agg #[.float .f64 (B INF), .float .f64 (B (-INF))]) ∧ Below w.heap.size w w' := by
  rcases Iv.or X1 X2 with ⟨k, l, g⟩ | g
  · rcases h with h | h
    · exact absurd g (h k l)
    · exact add_noy_w X1 X2 Y1 Y2 _ _ (none_no g) (none_yes h hY1 hY2) pempty
  · exact add_nox_w X1 X2 Y1 Y2 _ _ (none_yes g hX1 hX2) pempty
theorem psub_ok (F : Ops) {X1 X2 Y1 Y2 : Nat} {k l k' l' : Int} (h : Iv X1 X2 k l) (h' : Iv Y1 Y2 k' l') : ∀ w, Calls Try.prog 100 #[.agg #[.float .f64 X1, .float .f64 X2], .agg #[.float .f64 Y1, .float .f64 Y2]] w fun e w' => e = .returned (.agg #[.float .f64 (B (F.aD k (-l'))), .float .f64 (B (F.aU l (-k')))]) ∧ Below w.heap.size w w' :=
  sub_w X1 X2 Y1 Y2 _ _ _ _ (pneg h'.x h'.y) (padd_ok F h h'.neg)
theorem psub_no {X1 X2 Y1 Y2 : Nat} (hX1 : X1 < 18446744073709551616) (hX2 : X2 < 18446744073709551616) (hY1 : Y1 < 18446744073709551616) (hY2 : Y2 < 18446744073709551616) (h : NoIv X1 X2 ∨ NoIv Y1 Y2) : ∀ w, Calls Try.prog 100 #[.agg #[.float .f64 X1, .float .f64 X2], .agg #[.float .f64 Y1, .float .f64 Y2]] w fun e w' => e = .returned (.agg #[.float .f64 (B INF), .float .f64 (B (-INF))]) ∧ Below w.heap.size w w' := by
  have nan : NegNan Y1 Y2 → ∀ w, Calls Try.prog 100 #[.agg #[.float .f64 X1, .float .f64 X2], .agg #[.float .f64 Y1, .float .f64 Y2]] w fun e w' => e = .returned (.agg #[.float .f64 (B INF), .float .f64 (B (-INF))]) ∧ Below w.heap.size w w' := fun g => sub_nan_w X1 X2 Y1 Y2 _ _ g fun a b z1 z2 z3 => padd_no hX1 hX2 z2 z3 (.inr z1)
  have keys : ∀ k l, Key Y1 k → Key Y2 l → (NoIv X1 X2 ∨ NoIv (B (-l)) (B (-k))) → ∀ w, Calls Try.prog 100 #[.agg #[.float .f64 X1, .float .f64 X2], .agg #[.float .f64 Y1, .float .f64 Y2]] w fun e w' => e = .returned (.agg #[.float .f64 (B INF), .float .f64 (B (-INF))]) ∧ Below w.heap.size w w' := fun k l g1 g2 g =>
    sub_w X1 X2 Y1 Y2 _ _ _ _ (pneg g1 g2) (padd_no hX1 hX2 (Key.at (neg_pl g2.pl)).lt (Key.at (neg_pl g1.pl)).lt g)
  rcases Iv.or Y1 Y2 with ⟨k, l, g⟩ | g
  · refine keys k l g.x g.y (.inl ?_)
    rcases h with h | h
    · exact h
    · exact absurd g (h k l)
  · rcases g.cases hY1 hY2 with c | ⟨k, c1, c⟩ | ⟨k, l, c1, c2, c⟩
    · rcases word_cases Y2 hY2 with ⟨l, c'⟩ | c'
      · exact nan (neg_nan1 c c')
      · exact nan (neg_nan12 c c')
    · exact nan (neg_nan2 c1 c)
    · refine keys k l c1 c2 (.inr ?_)
      intro k2 l2 q
      have u1 := q.x.unique (Key.at (neg_pl c2.pl))
      have u2 := q.y.unique (Key.at (neg_pl c1.pl))
      have := q.le
      have := q.lo
      have := q.hi
      omega
theorem pcorner (F : Ops) {x y : Nat} {k l : Int} (hx : Key x k) (hy : Key y l) : ∀ w, Calls Try.prog 140 #[.float .f64 x, .float .f64 y] w fun e w' => e = .returned (.agg #[.float .f64 (B (F.mD k l)), .float .f64 (B (F.mU k l))]) ∧ Below w.heap.size w w' := corner_w x y _ _ (F.mul_p hx hy)
theorem pcover {a b c q : Int} (ha : Pl a) (hb : Pl b) (hc : Pl c) (hq : Pl q) : ∀ w, Calls Try.prog 139 #[.agg #[.float .f64 (B a), .float .f64 (B b)], .agg #[.float .f64 (B c), .float .f64 (B q)]] w fun e w' => e = .returned (.agg #[.float .f64 (B (min a c)), .float .f64 (B (max b q))]) ∧ Below w.heap.size w w' := cover_w (B a) (B b) (B c) (B q) _ _ (min_B ha hc) (max_B hb hq)
theorem pmul_ok (F : Ops) {X1 X2 Y1 Y2 : Nat} {k l k' l' : Int} (h : Iv X1 X2 k l) (h' : Iv Y1 Y2 k' l') : ∀ w, Calls Try.prog 102 #[.agg #[.float .f64 X1, .float .f64 X2], .agg #[.float .f64 Y1, .float .f64 Y2]] w fun e w' => e = .returned (.agg #[.float .f64 (B (F.pLo k l k' l')), .float .f64 (B (F.pHi k l k' l'))]) ∧ Below w.heap.size w w' := by
  have a1 := F.mul_pl h.x.pl h'.x.pl
  have a2 := F.mul_pl h.x.pl h'.y.pl
  have a3 := F.mul_pl h.y.pl h'.x.pl
  have a4 := F.mul_pl h.y.pl h'.y.pl
  exact mul_ok_w X1 X2 Y1 Y2 _ _ _ _ _ _ _ _ _ _ _ _ _ _ (none_no h) (none_no h') (pcorner F h.x h'.x) (pcorner F h.x h'.y) (pcorner F h.y h'.x) (pcorner F h.y h'.y)
    (pcover a1.1 a1.2 a2.1 a2.2) (pcover a3.1 a3.2 a4.1 a4.2) (pcover (pl_min a1.1 a2.1) (pl_max a1.2 a2.2) (pl_min a3.1 a4.1) (pl_max a3.2 a4.2))
theorem pmul_no {X1 X2 Y1 Y2 : Nat} (hX1 : X1 < 18446744073709551616) (hX2 : X2 < 18446744073709551616) (hY1 : Y1 < 18446744073709551616) (hY2 : Y2 < 18446744073709551616) (h : NoIv X1 X2 ∨ NoIv Y1 Y2) : ∀ w, Calls Try.prog 102 #[.agg #[.float .f64 X1, .float .f64 X2], .agg #[.float .f64 Y1, .float .f64 Y2]] w fun e w' => e = .returned (.agg #[.float .f64 (B INF), .float .f64 (B (-INF))]) ∧ Below w.heap.size w w' := by
  rcases Iv.or X1 X2 with ⟨k, l, g⟩ | g
  · rcases h with h | h
    · exact absurd g (h k l)
    · exact mul_noy_w X1 X2 Y1 Y2 _ _ (none_no g) (none_yes h hY1 hY2) pempty
  · exact mul_nox_w X1 X2 Y1 Y2 _ _ (none_yes g hX1 hX2) pempty
theorem pleast (F : Ops) {x Y1 Y2 : Nat} {a k' l' : Int} (hx : Key x a) (h' : Iv Y1 Y2 k' l') (h0 : 0 ≤ k') : ∀ w, Calls Try.prog 170 #[.float .f64 x, .agg #[.float .f64 Y1, .float .f64 Y2]] w fun e w' => e = .returned (.float .f64 (B (F.qLo a k' l'))) ∧ Below w.heap.size w w' := by
  have h1 := h'.le
  unfold Ops.qLo
  rcases Int.lt_trichotomy a 0 with g | g | g
  · rw [if_neg (by omega)]
    exact leastOver_lt_w x Y1 Y2 _ _ (hx.olt Key.zero g) (F.div_p hx h'.x h0)
  · rw [if_pos (by omega)]
    exact leastOver_eq_w x Y1 Y2 _ _ (hx.oeq Key.zero g) (F.div_p hx h'.y (by omega))
  · rw [if_pos (by omega)]
    exact leastOver_gt_w x Y1 Y2 _ _ (hx.ogt Key.zero g) (F.div_p hx h'.y (by omega))
theorem pover_ok (F : Ops) {X1 X2 Y1 Y2 : Nat} {k l k' l' : Int} (h : Iv X1 X2 k l) (h' : Iv Y1 Y2 k' l') (h0 : 0 ≤ k') : ∀ w, Calls Try.prog 143 #[.agg #[.float .f64 X1, .float .f64 X2], .agg #[.float .f64 Y1, .float .f64 Y2]] w fun e w' => e = .returned (.agg #[.float .f64 (B (F.qLo k k' l')), .float .f64 (B (F.qHi l k' l'))]) ∧ Below w.heap.size w w' := by
  have h1 := h'.le
  obtain ⟨n, hn, kn⟩ := h.y.neg
  have q := F.q_pl (pl_neg h.y.pl) h'.x.pl h'.y.pl h0 (by omega)
  have e := F.q_neg h.y.pl h'.x.pl h'.y.pl h0 (by omega)
  have m := (Key.at q.1).minus
  rw [show -F.qLo (-l) k' l' = F.qHi l k' l' by omega] at m
  exact over_w X1 X2 Y1 Y2 n _ _ _ (pleast F h.x h' h0) hn (pleast F kn h' h0) m
theorem quo_iv (F : Ops) {k l k' l' : Int} (hk : Pl k) (hl : Pl l) (hl' : Pl l') (h1 : k ≤ l) (h2 : k < INF) (h3 : -(INF : Int) < l) (h0 : 0 ≤ k') (h4 : k' ≤ l') (h5 : 0 < l') (h6 : k' < INF) :
    Iv (B (F.qLo k k' l')) (B (F.qHi l k' l')) (F.qLo k k' l') (F.qHi l k' l') := by
  have hk' : Pl k' := by unfold Pl; omega
  exact ⟨Key.at (F.q_pl hk hk' hl' h0 (by omega)).1, Key.at (F.q_pl hl hk' hl' h0 (by omega)).2, F.q_le hk hl hl' h1 h2 h3 h0 h4 h5 h6, F.q_top hk h2 hk' hl' h0 (by omega), F.q_bot hl h3 hk' hl' h0 (by omega)⟩
theorem nought_yes {X1 X2 : Nat} (hx : Key X1 0) (hy : Key X2 0) : ∀ w, Calls Try.prog 141 #[.agg #[.float .f64 X1, .float .f64 X2]] w fun e w' => e = .returned (.bool true) ∧ Below w.heap.size w w' := isNought_tt_w X1 X2 (by rw [hx.oeq Key.zero rfl]; rfl) (by rw [hy.oeq Key.zero rfl]; rfl)
theorem neq0 {x : Nat} {k : Int} (hx : Key x k) (h : k ≠ 0) : (Ieee.double.order x 0 == some .eq) = false := by
  rcases Int.lt_or_le k 0 with g | g
  · rw [hx.olt Key.zero g]; rfl
  · rw [hx.ogt Key.zero (by omega)]; rfl
theorem nought_no {X1 X2 : Nat} {k l : Int} (hx : Key X1 k) (hy : Key X2 l) (h : ¬ (k = 0 ∧ l = 0)) : ∀ w, Calls Try.prog 141 #[.agg #[.float .f64 X1, .float .f64 X2]] w fun e w' => e = .returned (.bool false) ∧ Below w.heap.size w w' := by
  by_cases e : k = 0
  · subst e
    exact isNought_tf_w X1 X2 (by rw [hx.oeq Key.zero rfl]; rfl) (neq0 hy (by omega))
  · exact isNought_f_w X1 X2 (neq0 hx e)
end Go.Proofs.Ytacnclofbnafiaa
