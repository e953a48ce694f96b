import Derived.Test.YtacnclofbnafiaaSP
import Derived.Test.YtacnclofbnafiaaSH
import Derived.Test.YtacnclofbnafiaaK12
import Derived.Test.YtacnclofbnafiaaK14
import Derived.Test.YtacnclofbnafiaaK9p
namespace Go.Proofs.Ytacnclofbnafiaa
open Go.RowKit Fl

theorem pleast (F : Ops) {x Y1 Y2 : Nat} {a k' l' : Int} (hx : Key x a) (h' : Iv Y1 Y2 k' l') (h0 : 0 ≤ k') : ∀ w, Calls Try.prog 170 #[.float .f64 x, .agg #[.float .f64 Y1, .float .f64 Y2]] w fun e w' => e = .returned (.float .f64 (B (F.qLo a k' l'))) ∧ Below w.heap.size w w' := by
  have h1 := h'.le
  unfold Ops.qLo
  rcases Int.lt_trichotomy a 0 with g | g | g
  · rw [if_neg (by omega)]
    exact leastOver_lt_w x Y1 Y2 _ _ (hx.olt Key.zero g) (F.div_p hx h'.x h0)
  · rw [if_pos (by omega)]
    exact leastOver_eq_w x Y1 Y2 _ _ (hx.oeq Key.zero g) (F.div_p hx h'.y (by omega))
  · rw [if_pos (by omega)]
    exact leastOver_gt_w x Y1 Y2 _ _ (hx.ogt Key.zero g) (F.div_p hx h'.y (by omega))
theorem pover_ok (F : Ops) {X1 X2 Y1 Y2 : Nat} {k l k' l' : Int} (h : Iv X1 X2 k l) (h' : Iv Y1 Y2 k' l') (h0 : 0 ≤ k') : ∀ w, Calls Try.prog 143 #[.agg #[.float .f64 X1, .float .f64 X2], .agg #[.float .f64 Y1, .float .f64 Y2]] w fun e w' => e = .returned (.agg #[.float .f64 (B (F.qLo k k' l')), .float .f64 (B (F.qHi l k' l'))]) ∧ Below w.heap.size w w' := by
  have h1 := h'.le
  obtain ⟨n, hn, kn⟩ := h.y.neg
  have q := F.q_pl (pl_neg h.y.pl) h'.x.pl h'.y.pl h0 (by omega)
  have e := F.q_neg h.y.pl h'.x.pl h'.y.pl h0 (by omega)
  have m := (Key.at q.1).minus
  rw [show -F.qLo (-l) k' l' = F.qHi l k' l' by omega] at m
  exact over_w X1 X2 Y1 Y2 n _ _ _ (pleast F h.x h' h0) hn (pleast F kn h' h0) m
theorem rover_ok (F : Ops) {X1 X2 Y1 Y2 : Nat} {k l k' l' : Int} (h : Iv X1 X2 k l) (h' : Iv Y1 Y2 k' l') (h0 : 0 ≤ k') (h1 : 0 < l') : ∀ w, Calls Try.prog 106 #[.agg #[.float .f64 X1, .float .f64 X2], .agg #[.float .f64 Y1, .float .f64 Y2]] w fun e w' => e = .returned (.agg #[.float .f64 (B (F.qLo k k' l')), .float .f64 (B (F.qHi l k' l'))]) ∧ Below w.heap.size w w' := by
  have hq := h'.le
  have q := F.q_pl h.x.pl h'.x.pl h'.y.pl h0 (by omega)
  have r := F.q_pl h.y.pl h'.x.pl h'.y.pl h0 (by omega)
  have p := rplain (Key.at q.1) (Key.at r.2)
  have zx := F.div_zero h.x.pl
  have zy := F.div_zero h.y.pl
  by_cases a : 0 ≤ k
  · have e1 : F.qLo k k' l' = F.dD k l' := by unfold Ops.qLo; rw [if_pos a]
    rw [e1] at p ⊢
    by_cases b : l ≤ 0
    · have e2 : F.qHi l k' l' = F.dU l l' := by unfold Ops.qHi; rw [if_pos b]
      rw [e2] at p ⊢
      exact rover_hi_hi_w X1 X2 Y1 Y2 _ _ _ _ _ _ infp infn (tge h.x Key.zero a) (tle h.y Key.zero b) (F.div_d h.x h'.y (by omega)) (F.div_u h.y h'.y (by omega)) p
    · have e2 : F.qHi l k' l' = F.dU l k' := by unfold Ops.qHi; rw [if_neg b]
      rw [e2] at p ⊢
      by_cases c : 0 < k'
      · exact rover_hi_lo_w X1 X2 Y1 Y2 _ _ _ _ _ _ infp infn (tge h.x Key.zero a) (nle h.y Key.zero (by omega)) (tgt h'.x Key.zero c) (F.div_d h.x h'.y (by omega)) (F.div_u h.y h'.x h0) p
      · have c0 : k' = 0 := by omega
        subst c0
        rw [zy.2] at p ⊢
        exact rover_hi_inf_w X1 X2 Y1 Y2 _ _ _ _ _ infp infn (tge h.x Key.zero a) (nle h.y Key.zero (by omega)) (ngt h'.x Key.zero (by omega)) (F.div_d h.x h'.y (by omega)) p
  · have e1 : F.qLo k k' l' = F.dD k k' := by unfold Ops.qLo; rw [if_neg a]
    rw [e1] at p ⊢
    by_cases b : l ≤ 0
    · have e2 : F.qHi l k' l' = F.dU l l' := by unfold Ops.qHi; rw [if_pos b]
      rw [e2] at p ⊢
      by_cases c : 0 < k'
      · exact rover_lo_hi_w X1 X2 Y1 Y2 _ _ _ _ _ _ infp infn (nge h.x Key.zero (by omega)) (tle h.y Key.zero b) (tgt h'.x Key.zero c) (F.div_d h.x h'.x h0) (F.div_u h.y h'.y (by omega)) p
      · have c0 : k' = 0 := by omega
        subst c0
        rw [zx.1] at p ⊢
        exact rover_inf_hi_w X1 X2 Y1 Y2 _ _ _ _ _ infp infn (nge h.x Key.zero (by omega)) (tle h.y Key.zero b) (ngt h'.x Key.zero (by omega)) (F.div_u h.y h'.y (by omega)) p
    · have e2 : F.qHi l k' l' = F.dU l k' := by unfold Ops.qHi; rw [if_neg b]
      rw [e2] at p ⊢
      by_cases c : 0 < k'
      · exact rover_lo_lo_w X1 X2 Y1 Y2 _ _ _ _ _ _ infp infn (nge h.x Key.zero (by omega)) (nle h.y Key.zero (by omega)) (tgt h'.x Key.zero c) (F.div_d h.x h'.x h0) (F.div_u h.y h'.x h0) p
      · have c0 : k' = 0 := by omega
        subst c0
        rw [zx.1, zy.2] at p ⊢
        exact rover_inf_inf_w X1 X2 Y1 Y2 _ _ _ _ infp infn (nge h.x Key.zero (by omega)) (nle h.y Key.zero (by omega)) (ngt h'.x Key.zero (by omega)) p
/-- A quotient has numbers. -/
theorem quo_iv (F : Ops) {k l k' l' : Int} (hk : Pl k) (hl : Pl l) (hl' : Pl l') (h1 : k ≤ l) (h2 : k < INF) (h3 : -(INF : Int) < l) (h0 : 0 ≤ k') (h4 : k' ≤ l') (h5 : 0 < l') (h6 : k' < INF) :
    Iv (B (F.qLo k k' l')) (B (F.qHi l k' l')) (F.qLo k k' l') (F.qHi l k' l') := by
  have hk' : Pl k' := by unfold Pl; omega
  exact ⟨Key.at (F.q_pl hk hk' hl' h0 (by omega)).1, Key.at (F.q_pl hl hk' hl' h0 (by omega)).2, F.q_le hk hl hl' h1 h2 h3 h0 h4 h5 h6, F.q_top hk h2 hk' hl' h0 (by omega), F.q_bot hl h3 hk' hl' h0 (by omega)⟩
theorem nought_yes {X1 X2 : Nat} (hx : Key X1 0) (hy : Key X2 0) : ∀ w, Calls Try.prog 141 #[.agg #[.float .f64 X1, .float .f64 X2]] w fun e w' => e = .returned (.bool true) ∧ Below w.heap.size w w' := isNought_tt_w X1 X2 (by rw [hx.oeq Key.zero rfl]; rfl) (by rw [hy.oeq Key.zero rfl]; rfl)
theorem neq0 {x : Nat} {k : Int} (hx : Key x k) (h : k ≠ 0) : (Ieee.double.order x 0 == some .eq) = false := by
  rcases Int.lt_or_le k 0 with g | g
  · rw [hx.olt Key.zero g]; rfl
  · rw [hx.ogt Key.zero (by omega)]; rfl
theorem nought_no {X1 X2 : Nat} {k l : Int} (hx : Key X1 k) (hy : Key X2 l) (h : ¬ (k = 0 ∧ l = 0)) : ∀ w, Calls Try.prog 141 #[.agg #[.float .f64 X1, .float .f64 X2]] w fun e w' => e = .returned (.bool false) ∧ Below w.heap.size w w' := by
  by_cases e : k = 0
  · subst e
    exact isNought_tf_w X1 X2 (by rw [hx.oeq Key.zero rfl]; rfl) (neq0 hy (by omega))
  · exact isNought_f_w X1 X2 (neq0 hx e)
theorem key0 : Key 0 0 := Key.zero
theorem iv0 {m : Int} (h : 0 < m) {M' : Nat} (hM : Key M' m) : Iv 0 M' 0 m := ⟨Key.zero, hM, by omega, by have := INF_pos; omega, by have := INF_pos; omega⟩
/-- Div and Quotient answer the same. -/
theorem div_pair (F : Ops) (X1 X2 Y1 Y2 : Nat) (hX1 : X1 < 18446744073709551616) (hX2 : X2 < 18446744073709551616) (hY1 : Y1 < 18446744073709551616) (hY2 : Y2 < 18446744073709551616) : ∃ a b, Pl a ∧ Pl b ∧ (∀ w, Calls Try.prog 105 #[.agg #[.float .f64 X1, .float .f64 X2], .agg #[.float .f64 Y1, .float .f64 Y2]] w fun e w' => e = .returned (.agg #[.float .f64 (B a), .float .f64 (B b)]) ∧ Below w.heap.size w w') ∧ (∀ w, Calls Try.prog 41 #[.agg #[.float .f64 X1, .float .f64 X2], .agg #[.float .f64 Y1, .float .f64 Y2]] w fun e w' => e = .returned (.agg #[.float .f64 (B a), .float .f64 (B b)]) ∧ Below w.heap.size w w') := by
  have hI := INF_pos
  rcases Iv.or X1 X2 with ⟨k, l, g⟩ | g
  · rcases Iv.or Y1 Y2 with ⟨k', l', g'⟩ | g'
    · have u1 := g.le
      have u2 := g.lo
      have u3 := g.hi
      have v1 := g'.le
      have v2 := g'.lo
      have v3 := g'.hi
      by_cases y0 : k' = 0 ∧ l' = 0
      · obtain ⟨rfl, rfl⟩ := y0
        exact ⟨_, _, emp_pl.1, emp_pl.2, div_y0_w X1 X2 Y1 Y2 _ _ (none_no g) (none_no g') (nought_yes g'.x g'.y) pempty,
          rquo_zero_w X1 X2 Y1 Y2 _ _ (rnone_no g) (rnone_no g') rempty (ngt g'.y Key.zero (by omega)) (nlt g'.x Key.zero (by omega))⟩
      have ny0 := nought_no g'.x g'.y y0
      by_cases x0 : k = 0 ∧ l = 0
      · obtain ⟨rfl, rfl⟩ := x0
        have xi : ∀ {M' : Nat} {m : Int}, Key M' m → 0 < m → ∀ {Q : Nat} {c : Int}, Iv Q M' c m → 0 ≤ c → F.qLo 0 c m = 0 ∧ F.qHi 0 c m = 0 := fun hM hm Q c hc h0 => by
          unfold Ops.qLo Ops.qHi
          rw [if_pos (by omega), if_pos (by omega)]
          exact F.div_nought hM.pl hm
        have e0 : Iv (B 0) (B 0) 0 0 := ⟨Key.at pl_zero, Key.at pl_zero, by omega, by omega, by omega⟩
        have p : ∀ w, Calls Try.prog 105 #[.agg #[.float .f64 X1, .float .f64 X2], .agg #[.float .f64 Y1, .float .f64 Y2]] w fun e w' => e = .returned (.agg #[.float .f64 (B 0), .float .f64 (B 0)]) ∧ Below w.heap.size w w' := div_x0_w X1 X2 Y1 Y2 (none_no g) (none_no g') ny0 (nought_yes g.x g.y)
        refine ⟨0, 0, pl_zero, pl_zero, p, ?_⟩
        have ov : ∀ {A A' M' Q : Nat} {m c : Int}, Iv A A' 0 0 → Iv Q M' c m → 0 ≤ c → 0 < m → ∀ w, Calls Try.prog 106 #[.agg #[.float .f64 A, .float .f64 A'], .agg #[.float .f64 Q, .float .f64 M']] w fun e w' => e = .returned (.agg #[.float .f64 (B 0), .float .f64 (B 0)]) ∧ Below w.heap.size w w' := fun ha hq hc hm => by
          have r := rover_ok F ha hq hc hm
          have z := xi hq.y hm hq hc
          rw [z.1, z.2] at r
          exact r
        have gn := g.neg
        rw [Int.neg_zero] at gn
        by_cases y1 : 0 < l'
        · by_cases y2 : 0 ≤ k'
          · exact rquo_pos_w X1 X2 Y1 Y2 _ _ _ _ _ _ (rnone_no g) (rnone_no g') rempty (tgt g'.y Key.zero y1) (nlt g'.x Key.zero y2) (ov g g' y2 y1) (reither_nox emp1 emp2 emp_no e0)
          · have i1 := iv0 y1 g'.y
            have i2 := iv0 (m := -k') (by omega) (Key.at (pl_neg g'.x.pl))
            exact rquo_amid_w X1 X2 Y1 Y2 _ _ _ _ _ _ _ _ _ _ _ _ _ (rnone_no g) (rnone_no g') rempty (tgt g'.y Key.zero y1) (tlt g'.x Key.zero (by omega)) (nlt g'.y Key.zero (by omega)) g'.x.minus
              (ov g i1 (by omega) y1) (reither_nox emp1 emp2 emp_no e0) (by have := rneg_ok g; rwa [Int.neg_zero] at this) (ov gn i2 (by omega) (by omega)) (reither_ok e0 e0)
        · by_cases y2 : l' = 0
          · have i2 := iv0 (m := -k') (by omega) (Key.at (pl_neg g'.x.pl))
            exact rquo_neg0_w X1 X2 Y1 Y2 _ _ _ _ _ _ _ _ _ (rnone_no g) (rnone_no g') rempty (ngt g'.y Key.zero (by omega)) (tlt g'.x Key.zero (by omega)) (nlt g'.y Key.zero (by omega)) g'.x.minus
              (by have := rneg_ok g; rwa [Int.neg_zero] at this) (ov gn i2 (by omega) (by omega)) (reither_nox emp1 emp2 emp_no e0)
          · exact rquo_neg1_w X1 X2 Y1 Y2 _ _ _ _ _ _ _ _ _ _ (rnone_no g) (rnone_no g') rempty (ngt g'.y Key.zero (by omega)) (tlt g'.x Key.zero (by omega)) (tlt g'.y Key.zero (by omega)) g'.x.minus g'.y.minus
              (by have := rneg_ok g; rwa [Int.neg_zero] at this) (ov gn g'.neg (by omega) (by omega)) (reither_nox emp1 emp2 emp_no e0)
      have nx0 := nought_no g.x g.y x0
      by_cases y1 : 0 < l'
      · by_cases y2 : 0 ≤ k'
        · -- y above 0
          have q := quo_iv F g.x.pl g.y.pl g'.y.pl u1 u2 u3 y2 v1 y1 v2
          refine ⟨_, _, q.x.pl, q.y.pl, div_pos_w X1 X2 Y1 Y2 _ _ (none_no g) (none_no g') ny0 nx0 (nlt g'.x Key.zero y2) (pover_ok F g g' y2), ?_⟩
          exact rquo_pos_w X1 X2 Y1 Y2 _ _ _ _ _ _ (rnone_no g) (rnone_no g') rempty (tgt g'.y Key.zero y1) (nlt g'.x Key.zero y2) (rover_ok F g g' y2 y1) (reither_nox emp1 emp2 emp_no q)
        · -- 0 amid y
          refine ⟨_, _, pl_ninf, pl_inf, div_all_w X1 X2 Y1 Y2 _ _ (none_no g) (none_no g') ny0 nx0 (g'.x.olt Key.zero (by omega)) (g'.y.ogt Key.zero y1) pall, ?_⟩
          have i1 := iv0 y1 g'.y
          have i2 := iv0 (m := -k') (by omega) (Key.at (pl_neg g'.x.pl))
          have q1 := quo_iv F g.x.pl g.y.pl g'.y.pl u1 u2 u3 (Int.le_refl 0) (by omega) y1 (by omega)
          have q2 := quo_iv F (pl_neg g.y.pl) (pl_neg g.x.pl) (pl_neg g'.x.pl) (by omega) (by omega) (by omega) (Int.le_refl 0) (by omega) (show 0 < -k' by omega) (by omega)
          have r := reither_ok q1 q2
          have b1 := (F.q_pl g.x.pl pl_zero g'.y.pl (Int.le_refl 0) (by omega)).1
          have b2 := (F.q_pl g.y.pl pl_zero g'.y.pl (Int.le_refl 0) (by omega)).2
          have b3 := (F.q_pl (pl_neg g.y.pl) pl_zero (pl_neg g'.x.pl) (Int.le_refl 0) (by omega)).1
          have b4 := (F.q_pl (pl_neg g.x.pl) pl_zero (pl_neg g'.x.pl) (Int.le_refl 0) (by omega)).2
          have z1 := F.div_zero g.x.pl
          have z2 := F.div_zero g.y.pl
          have z3 := F.div_zero (pl_neg g.y.pl)
          have z4 := F.div_zero (pl_neg g.x.pl)
          have lo : min (F.qLo k 0 l') (F.qLo (-l) 0 (-k')) = -(INF : Int) := by
            unfold Pl at b1 b3
            by_cases c : 0 ≤ k
            · have : F.qLo (-l) 0 (-k') = -(INF : Int) := by unfold Ops.qLo; rw [if_neg (by omega)]; exact z3.1
              omega
            · have : F.qLo k 0 l' = -(INF : Int) := by unfold Ops.qLo; rw [if_neg c]; exact z1.1
              omega
          have hi : max (F.qHi l 0 l') (F.qHi (-k) 0 (-k')) = (INF : Int) := by
            unfold Pl at b2 b4
            by_cases c : l ≤ 0
            · have : F.qHi (-k) 0 (-k') = (INF : Int) := by unfold Ops.qHi; rw [if_neg (by omega)]; exact z4.2
              omega
            · have : F.qHi l 0 l' = (INF : Int) := by unfold Ops.qHi; rw [if_neg c]; exact z2.2
              omega
          rw [lo, hi] at r
          exact rquo_amid_w X1 X2 Y1 Y2 _ _ _ _ _ _ _ _ _ _ _ _ _ (rnone_no g) (rnone_no g') rempty (tgt g'.y Key.zero y1) (tlt g'.x Key.zero (by omega)) (nlt g'.y Key.zero (by omega)) g'.x.minus
            (rover_ok F g i1 (Int.le_refl 0) y1) (reither_nox emp1 emp2 emp_no q1) (rneg_ok g) (rover_ok F g.neg i2 (Int.le_refl 0) (by omega)) r
      · -- y below 0
        have q := quo_iv F (pl_neg g.y.pl) (pl_neg g.x.pl) (pl_neg g'.x.pl) (k' := -l') (l' := -k') (by omega) (by omega) (by omega) (by omega) (by omega) (by omega) (by omega)
        refine ⟨_, _, q.x.pl, q.y.pl, div_neg_w X1 X2 Y1 Y2 _ _ _ _ _ _ (none_no g) (none_no g') ny0 nx0 (g'.x.olt Key.zero (by omega)) (ngt g'.y Key.zero (by omega)) (pneg g.x g.y) (pneg g'.x g'.y) (pover_ok F g.neg g'.neg (by omega)), ?_⟩
        by_cases y2 : l' = 0
        · subst y2
          have r := rover_ok F g.neg g'.neg (by omega) (by omega)
          rw [Int.neg_zero] at r q ⊢
          exact rquo_neg0_w X1 X2 Y1 Y2 _ _ _ _ _ _ _ _ _ (rnone_no g) (rnone_no g') rempty (ngt g'.y Key.zero (by omega)) (tlt g'.x Key.zero (by omega)) (nlt g'.y Key.zero (by omega)) g'.x.minus
            (rneg_ok g) r (reither_nox emp1 emp2 emp_no q)
        · exact rquo_neg1_w X1 X2 Y1 Y2 _ _ _ _ _ _ _ _ _ _ (rnone_no g) (rnone_no g') rempty (ngt g'.y Key.zero (by omega)) (tlt g'.x Key.zero (by omega)) (tlt g'.y Key.zero (by omega)) g'.x.minus g'.y.minus
            (rneg_ok g) (rover_ok F g.neg g'.neg (by omega) (by omega)) (reither_nox emp1 emp2 emp_no q)
    · exact ⟨_, _, emp_pl.1, emp_pl.2, div_noy_w X1 X2 Y1 Y2 _ _ (none_no g) (none_yes g' hY1 hY2) pempty, rquo_noy_w X1 X2 Y1 Y2 _ _ (rnone_no g) (rnone_yes g' hY1 hY2) rempty⟩
  · refine ⟨_, _, emp_pl.1, emp_pl.2, div_nox_w X1 X2 Y1 Y2 _ _ (none_yes g hX1 hX2) pempty, ?_⟩
    rcases Iv.or Y1 Y2 with ⟨k, l, g'⟩ | g'
    · exact rquo_nox_w X1 X2 Y1 Y2 _ _ false (rnone_yes g hX1 hX2) (rnone_no g') rempty
    · exact rquo_nox_w X1 X2 Y1 Y2 _ _ true (rnone_yes g hX1 hX2) (rnone_yes g' hY1 hY2) rempty
theorem mul_pair (F : Ops) (X1 X2 Y1 Y2 : Nat) (hX1 : X1 < 18446744073709551616) (hX2 : X2 < 18446744073709551616) (hY1 : Y1 < 18446744073709551616) (hY2 : Y2 < 18446744073709551616) : ∃ a b, Pl a ∧ Pl b ∧ (∀ w, Calls Try.prog 102 #[.agg #[.float .f64 X1, .float .f64 X2], .agg #[.float .f64 Y1, .float .f64 Y2]] w fun e w' => e = .returned (.agg #[.float .f64 (B a), .float .f64 (B b)]) ∧ Below w.heap.size w w') ∧ (∀ w, Calls Try.prog 39 #[.agg #[.float .f64 X1, .float .f64 X2], .agg #[.float .f64 Y1, .float .f64 Y2]] w fun e w' => e = .returned (.agg #[.float .f64 (B a), .float .f64 (B b)]) ∧ Below w.heap.size w w') := by
  by_cases h : NoIv X1 X2 ∨ NoIv Y1 Y2
  · exact ⟨_, _, emp_pl.1, emp_pl.2, pmul_no hX1 hX2 hY1 hY2 h, rprod_no hX1 hX2 hY1 hY2 h⟩
  · rcases Iv.or X1 X2 with ⟨k, l, g⟩ | g
    · rcases Iv.or Y1 Y2 with ⟨k', l', g'⟩ | g'
      · have q := F.p_pl g.x.pl g.y.pl g'.x.pl g'.y.pl
        exact ⟨_, _, q.1, q.2, pmul_ok F g g', rprod_ok F g g'⟩
      · exact absurd (.inr g') h
    · exact absurd (.inl g) h
theorem products_any (X1 X2 Y1 Y2 : Nat) (hX1 : X1 < 18446744073709551616) (hX2 : X2 < 18446744073709551616) (hY1 : Y1 < 18446744073709551616) (hY2 : Y2 < 18446744073709551616) : ∀ w, Calls Try.prog 6 #[.float .f64 X1, .float .f64 X2, .float .f64 Y1, .float .f64 Y2] w fun e w' => e = .returned (.bool true) ∧ Below w.heap.size w w' := by
  obtain ⟨F⟩ := ops
  obtain ⟨a, b, ha, hb, m1, m2⟩ := mul_pair F X1 X2 Y1 Y2 hX1 hX2 hY1 hY2
  obtain ⟨c, d, hc, hd, m3, m4⟩ := div_pair F X1 X2 Y1 Y2 hX1 hX2 hY1 hY2
  exact products_w X1 X2 Y1 Y2 _ _ _ _ (iMul_w X1 X2 Y1 Y2 _ _ m1) m2 (alike_any ha hb) (iDiv_w X1 X2 Y1 Y2 _ _ m3) m4 (alike_any hc hd) (interval_w X1 X2) (interval_w Y1 Y2)
end Go.Proofs.Ytacnclofbnafiaa
