import Derived.Test.YtacnclofbnafiaaE1
import Derived.Test.YtacnclofbnafiaaE2
import Derived.Test.YtacnclofbnafiaaSQ
import Derived.Test.YtacnclofbnafiaaSPP
namespace Go.Proofs.Ytacnclofbnafiaa
open Go.RowKit Fl

/-- around: an interval that has v. -/
theorem around_any {v a b : Nat} {k : Int} (hv : Key v k) (h1 : -(INF : Int) < k) (h2 : k < INF) (ha : a < 18446744073709551616) (hb : b < 18446744073709551616) :
    ∃ A A' c e, Iv A A' c e ∧ c ≤ k ∧ k ≤ e ∧ (∀ w, Calls Try.prog 51 #[.float .f64 v, .float .f64 a, .float .f64 b] w fun e w' => e = .returned (.agg #[.float .f64 A, .float .f64 A']) ∧ Below w.heap.size w w') := by
  have cmp : ∀ {x y : Nat} {l : Int}, x < 18446744073709551616 → Key y l → ((Ieee.double.order x y == some .lt) = true ∧ ∃ j, Key x j ∧ j < l) ∨ (Ieee.double.order x y == some .lt) = false := fun hx hy => by
    rcases word_cases _ hx with ⟨j, hj⟩ | hj
    · rcases Int.lt_or_le j _ with g | g
      · exact .inl ⟨tlt hj hy g, j, hj, g⟩
      · exact .inr (nlt hj hy g)
    · exact .inr (by rw [hj.l]; rfl)
  have cmg : ∀ {x y : Nat} {l : Int}, x < 18446744073709551616 → Key y l → ((Ieee.double.order x y == some .gt) = true ∧ ∃ j, Key x j ∧ l < j) ∨ (Ieee.double.order x y == some .gt) = false := fun hx hy => by
    rcases word_cases _ hx with ⟨j, hj⟩ | hj
    · rcases Int.lt_or_le _ j with g | g
      · exact .inl ⟨tgt hj hy g, j, hj, g⟩
      · exact .inr (ngt hj hy g)
    · exact .inr (by rw [hj.l]; rfl)
  rcases cmg hb hv with ⟨o2, j2, kj2, g2⟩ | o2
  · rcases cmp ha hv with ⟨o1, j1, kj1, g1⟩ | o1
    · rcases cmp hb kj1 with ⟨o3, j3, kj3, g3⟩ | o3
      · have := kj3.unique kj2; omega
      · exact ⟨_, _, _, _, ⟨kj1, kj2, by omega, by omega, by omega⟩, by omega, by omega, around_110_w v a b o1 o2 o3⟩
    · rcases cmp hb hv with ⟨o3, j3, kj3, g3⟩ | o3
      · have := kj3.unique kj2; omega
      · exact ⟨_, _, _, _, ⟨hv, kj2, by omega, by omega, by omega⟩, by omega, by omega, around_010_w v a b o1 o2 o3⟩
  · rcases cmp ha hv with ⟨o1, j1, kj1, g1⟩ | o1
    · rcases cmp hb kj1 with ⟨o3, j3, kj3, g3⟩ | o3
      · exact ⟨_, _, _, _, ⟨kj3, hv, by omega, by omega, by omega⟩, by omega, by omega, around_101_w v a b o1 o2 o3⟩
      · exact ⟨_, _, _, _, ⟨kj1, hv, by omega, by omega, by omega⟩, by omega, by omega, around_100_w v a b o1 o2 o3⟩
    · rcases cmp hb hv with ⟨o3, j3, kj3, g3⟩ | o3
      · exact ⟨_, _, _, _, ⟨kj3, hv, by omega, by omega, by omega⟩, by omega, by omega, around_001_w v a b o1 o2 o3⟩
      · exact ⟨_, _, _, _, ⟨hv, hv, by omega, by omega, by omega⟩, by omega, by omega, around_000_w v a b o1 o2 o3⟩
theorem isInf_no {x : Nat} {k : Int} (hx : Key x k) (h1 : -(INF : Int) < k) (h2 : k < INF) (w : World) :
    Calls Try.prog 29 #[.float .f64 x, .int .i64 0] w fun e w' => e = .returned (.bool false) ∧ w' = w := by
  obtain ⟨s, r, rfl, hr, rfl⟩ := hx
  have := isInf0 s r (fin_lt hr) w
  rwa [decide_eq_false (by unfold ixI at h1 h2; cases s <;> simp at h1 h2 <;> omega)] at this
theorem has_any {a b m : Int} {v : Nat} (ha : Pl a) (hb : Pl b) (hv : Key v m) (h1 : -(INF : Int) < m) (h2 : m < INF) (g1 : a ≤ m) (g2 : m ≤ b) : ∀ w, Calls Try.prog 52 #[.agg #[.float .f64 (B a), .float .f64 (B b)], .float .f64 v] w fun e w' => e = .returned (.bool true) ∧ Below w.heap.size w w' :=
  has_w _ _ v (tle (Key.at ha) hv g1) (tle hv (Key.at hb) g2) (isInf_no hv h1 h2)
theorem abs_num {x : Nat} {n k : Int} (h : Num x n k) : ∃ y m, Num y n.natAbs m ∧ (∀ w, Calls Try.prog 53 #[.float .f64 x] w fun e w' => e = .returned (.float .f64 y) ∧ Below w.heap.size w w') := by
  obtain ⟨s, r, rfl, hr, e⟩ := h.parts
  have hM : M r = (n.natAbs : Int).natAbs * U := by rw [← V_natAbs s r, e, natAbs_U]; rfl
  obtain ⟨m, hm⟩ := num_word false r n.natAbs hr hM ⟨fun g => by omega, fun _ => rfl⟩
  exact ⟨_, m, hm, fun w => (abs_any s r (fin_lt (Nat.le_of_lt hr)) w).mono fun _ _ ⟨he, hw⟩ => ⟨he, hw ▸ Below.refl _ _⟩⟩
/-- Side, by places: b above 0. -/
theorem side_any {u v o : Nat} {p q k l j : Int} (hu : Num u p k) (hv : Num v q l) (hq : q ≠ 0) (ho : Key o j) (h1 : -(INF : Int) < j) (h2 : j < INF) :
    ∃ i, (∀ w, Calls Try.prog 55 #[.int .i64 2, .float .f64 u, .float .f64 v, .float .f64 o] w fun e w' => e = .returned (.int .i64 i) ∧ Below w.heap.size w w') ∧ i = (if q < 0 then Eo false (-Vk k * (U : Int)) (-Vk l) (Vk j) else Eo false (Vk k * (U : Int)) (Vk l) (Vk j)).sign := by
  obtain ⟨s, r, rfl, hr, e1⟩ := hu.parts
  obtain ⟨t, z, rfl, hz, e2⟩ := hv.parts
  obtain ⟨u', y, rfl, hy, rfl⟩ := ho
  have hyI : y < INF := by unfold ixI at h1 h2; cases u' <;> simp at h1 h2 <;> omega
  have hz0 : 0 < z := by
    rcases Nat.eq_zero_or_pos z with g | g
    · subst g
      rw [V_zero] at e2
      have := Int.mul_eq_zero.1 e2.symm
      rcases this with c | c
      · exact absurd c hq
      · have := U_posI; omega
    · exact g
  refine ⟨_, Side_over' s t u' r z y hr hz hz0 hyI, ?_⟩
  have hs := SgnOk_mul (V_sgn t z) e2
  rw [hu.val, hv.val, ← e1, ← e2, Vk_ix]
  by_cases g : q < 0
  · rw [if_pos g, hs.1 g]
    congr 1
    unfold Eo
    simp only [if_true, Bool.false_eq_true, if_false, Int.neg_mul, Int.mul_neg]
    omega
  · rw [if_neg g, hs.2 (by omega)]
/-- Div holds every quotient. -/
theorem pdiv_has (F : Ops) {X1 X2 Y1 Y2 : Nat} {k l k' l' c d : Int} (h : Iv X1 X2 k l) (h' : Iv Y1 Y2 k' l') (c1 : k ≤ c) (c2 : c ≤ l) (d1 : k' ≤ d) (d2 : d ≤ l') (f1 : -(INF : Int) < c) (f2 : c < INF) (f3 : -(INF : Int) < d) (f4 : d < INF) (d0 : d ≠ 0) :
    ∃ a b, Iv (B a) (B b) a b ∧ (∀ w, Calls Try.prog 105 #[.agg #[.float .f64 X1, .float .f64 X2], .agg #[.float .f64 Y1, .float .f64 Y2]] w fun e w' => e = .returned (.agg #[.float .f64 (B a), .float .f64 (B b)]) ∧ Below w.heap.size w w') ∧ (if d < 0 then a ≤ F.dD (-c) (-d) ∧ F.dU (-c) (-d) ≤ b else a ≤ F.dD c d ∧ F.dU c d ≤ b) := by
  have hI := INF_pos
  have u1 := h.le
  have u2 := h.lo
  have u3 := h.hi
  have v1 := h'.le
  have v2 := h'.lo
  have v3 := h'.hi
  have pc : Pl c := ⟨by omega, by omega⟩
  have pd : Pl d := ⟨by omega, by omega⟩
  have ny0 := nought_no h'.x h'.y (show ¬ (k' = 0 ∧ l' = 0) by omega)
  have e1 : ∀ a' : Int, F.qLo a' d d = F.dD a' d := fun a' => by unfold Ops.qLo; split <;> rfl
  have e2 : ∀ a' : Int, F.qHi a' d d = F.dU a' d := fun a' => by unfold Ops.qHi; split <;> rfl
  have e3 : ∀ a' : Int, F.qLo a' (-d) (-d) = F.dD a' (-d) := fun a' => by unfold Ops.qLo; split <;> rfl
  have e4 : ∀ a' : Int, F.qHi a' (-d) (-d) = F.dU a' (-d) := fun a' => by unfold Ops.qHi; split <;> rfl
  by_cases x0 : k = 0 ∧ l = 0
  · obtain ⟨rfl, rfl⟩ := x0
    have c0 : c = 0 := by omega
    subst c0
    refine ⟨0, 0, ⟨Key.at pl_zero, Key.at pl_zero, by omega, by omega, by omega⟩, div_x0_w X1 X2 Y1 Y2 (none_no h) (none_no h') ny0 (nought_yes h.x h.y), ?_⟩
    by_cases g : d < 0
    · rw [if_pos g, Int.neg_zero]
      have := F.div_nought (pl_neg pd) (by omega)
      omega
    · rw [if_neg g]
      have := F.div_nought pd (by omega)
      omega
  have nx0 := nought_no h.x h.y x0
  by_cases y1 : 0 < l'
  · by_cases y2 : 0 ≤ k'
    · have q := quo_iv F h.x.pl h.y.pl h'.y.pl u1 u2 u3 y2 v1 y1 v2
      refine ⟨_, _, q, div_pos_w X1 X2 Y1 Y2 _ _ (none_no h) (none_no h') ny0 nx0 (nlt h'.x Key.zero y2) (pover_ok F h h' y2), ?_⟩
      rw [if_neg (by omega), ← e1, ← e2]
      exact ⟨F.q_mono h.x.pl f2 h'.y.pl pd f4 c1 y2 d1 d2 (by omega), F.qh_mono h.y.pl f1 h'.y.pl pd f4 c2 y2 d1 d2 (by omega)⟩
    · refine ⟨-INF, INF, ⟨Key.at pl_ninf, Key.at pl_inf, by omega, by omega, by omega⟩, div_all_w X1 X2 Y1 Y2 _ _ (none_no h) (none_no h') ny0 nx0 (h'.x.olt Key.zero (by omega)) (h'.y.ogt Key.zero y1) pall, ?_⟩
      by_cases g : d < 0
      · rw [if_pos g]
        have := F.div_pl (pl_neg pc) (pl_neg pd) (by omega)
        unfold Pl at this
        omega
      · rw [if_neg g]
        have := F.div_pl pc pd (by omega)
        unfold Pl at this
        omega
  · have q := quo_iv F (pl_neg h.y.pl) (pl_neg h.x.pl) (pl_neg h'.x.pl) (k' := -l') (l' := -k') (by omega) (by omega) (by omega) (by omega) (by omega) (by omega) (by omega)
    refine ⟨_, _, q, div_neg_w X1 X2 Y1 Y2 _ _ _ _ _ _ (none_no h) (none_no h') ny0 nx0 (h'.x.olt Key.zero (by omega)) (ngt h'.y Key.zero (by omega)) (pneg h.x h.y) (pneg h'.x h'.y) (pover_ok F h.neg h'.neg (by omega)), ?_⟩
    rw [if_pos (by omega), ← e3, ← e4]
    exact ⟨F.q_mono (pl_neg h.y.pl) (by omega) (pl_neg h'.x.pl) (pl_neg pd) (by omega) (by omega) (by omega) (by omega) (by omega) (by omega), F.qh_mono (pl_neg h.x.pl) (by omega) (pl_neg h'.x.pl) (pl_neg pd) (by omega) (by omega) (by omega) (by omega) (by omega) (by omega)⟩
/-- Sqr holds every square. -/
theorem psqr_has (F : Ops) {X1 X2 : Nat} {k l c : Int} (h : Iv X1 X2 k l) (c1 : k ≤ c) (c2 : c ≤ l) :
    ∃ a b, Pl a ∧ Pl b ∧ (∀ w, Calls Try.prog 107 #[.agg #[.float .f64 X1, .float .f64 X2]] w fun e w' => e = .returned (.agg #[.float .f64 (B a), .float .f64 (B b)]) ∧ Below w.heap.size w w') ∧ a ≤ F.mD c c ∧ F.mU c c ≤ b := by
  have pc : Pl c := ⟨by have := h.x.pl.1; omega, by have := h.y.pl.2; omega⟩
  obtain ⟨a, b, ha, hb, hc, ho⟩ := psqr_any F h
  have q := F.p_has h.x.pl h.y.pl h.x.pl h.y.pl pc pc c1 c2 c1 c2
  have z : 0 ≤ F.mD c c := by
    rcases Int.lt_or_le c 0 with g | g
    · have e := F.mul_negneg pc pc
      have := F.mul_pos (pl_neg pc) (pl_neg pc) (by omega) (by omega)
      omega
    · exact (F.mul_pos pc pc g g).1
  refine ⟨a, b, ha, hb, hc, ?_, by omega⟩
  rcases ho.1 with e | e <;> omega
end Go.Proofs.Ytacnclofbnafiaa
