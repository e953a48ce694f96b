import Derived.Test.YtacnclofbnafiaaG1
import Derived.Test.YtacnclofbnafiaaSQ
namespace Go.Proofs.Ytacnclofbnafiaa
open Go.RowKit Fl

/-- An answer's two places: EMPTY, or with numbers. -/
def Ans (a b : Int) : Prop := (a = INF ∧ b = -(INF : Int)) ∨ Iv (B a) (B b) a b
theorem Ans.emp : Ans INF (-INF) := .inl ⟨rfl, rfl⟩
theorem Ans.pl {a b : Int} (h : Ans a b) : Pl a ∧ Pl b := by
  rcases h with ⟨rfl, rfl⟩ | h
  · exact ⟨emp_pl.1, emp_pl.2⟩
  · exact ⟨h.x.pl, h.y.pl⟩
theorem within_emp (Y1 Y2 : Nat) : ∀ w, Calls Try.prog 56 #[.agg #[.float .f64 (B INF), .float .f64 (B (-INF))], .agg #[.float .f64 Y1, .float .f64 Y2]] w fun e w' => e = .returned (.bool true) ∧ Below w.heap.size w w' := within_no_w _ _ Y1 Y2 (none_yes emp_no emp1 emp2)
theorem within_iv {X1 X2 Y1 Y2 : Nat} {k l k' l' : Int} (h : Iv X1 X2 k l) (h1 : Key Y1 k') (h2 : Key Y2 l') (g1 : k' ≤ k) (g2 : l ≤ l') : ∀ w, Calls Try.prog 56 #[.agg #[.float .f64 X1, .float .f64 X2], .agg #[.float .f64 Y1, .float .f64 Y2]] w fun e w' => e = .returned (.bool true) ∧ Below w.heap.size w w' :=
  within_ok_w X1 X2 Y1 Y2 (none_no h) (tle h1 h.x g1) (tle h.y h2 g2)
theorem within_no {X1 X2 : Nat} (Y1 Y2 : Nat) (h : NoIv X1 X2) (hX1 : X1 < 18446744073709551616) (hX2 : X2 < 18446744073709551616) : ∀ w, Calls Try.prog 56 #[.agg #[.float .f64 X1, .float .f64 X2], .agg #[.float .f64 Y1, .float .f64 Y2]] w fun e w' => e = .returned (.bool true) ∧ Below w.heap.size w w' := within_no_w X1 X2 Y1 Y2 (none_yes h hX1 hX2)
/-- One answer in another. -/
theorem within_ans {a b c d : Int} (h : Ans a b) (h' : Ans c d) (g : Iv (B a) (B b) a b → c ≤ a ∧ b ≤ d) : ∀ w, Calls Try.prog 56 #[.agg #[.float .f64 (B a), .float .f64 (B b)], .agg #[.float .f64 (B c), .float .f64 (B d)]] w fun e w' => e = .returned (.bool true) ∧ Below w.heap.size w w' := by
  rcases h with ⟨rfl, rfl⟩ | h
  · exact within_emp _ _
  · exact within_iv h (Key.at h'.pl.1) (Key.at h'.pl.2) (g h).1 (g h).2
-- what the calls answer, by places
theorem padd_iv (F : Ops) {X1 X2 Y1 Y2 : Nat} {k l k' l' : Int} (h : Iv X1 X2 k l) (h' : Iv Y1 Y2 k' l') : Iv (B (F.aD k k')) (B (F.aU l l')) (F.aD k k') (F.aU l l') := by
  have hI := INF_pos
  have u1 := h.le
  have u2 := h.lo
  have u3 := h.hi
  have v1 := h'.le
  have v2 := h'.lo
  have v3 := h'.hi
  have p := F.add_pl h.x.pl h'.x.pl
  have q := F.add_pl h.y.pl h'.y.pl
  have m := F.add_mono h.x.pl h'.x.pl h.y.pl h'.y.pl u1 v1
  have A := F.add h.x.pl h'.x.pl
  have Z := F.add h.y.pl h'.y.pl
  have px := h.x.pl
  have py := h'.x.pl
  have qx := h.y.pl
  have qy := h'.y.pl
  unfold Pl at px py qx qy
  have lo : F.aD k k' < INF := by
    by_cases f : -(INF : Int) < k ∧ -(INF : Int) < k'
    · exact (A.num f.1 u2 f.2 v2).dn.hi
    · have := A.bot (by omega); omega
  have hi : -(INF : Int) < F.aU l l' := by
    by_cases f : l < INF ∧ l' < INF
    · exact (Z.num u3 f.1 v3 f.2).up.lo
    · have := Z.top (by omega); omega
  have le : F.aD k k' ≤ F.aU k k' := by
    by_cases f : -(INF : Int) < k ∧ -(INF : Int) < k'
    · exact (A.num f.1 u2 f.2 v2).le (Ep_anti _)
    · have := A.bot (by omega); omega
  exact ⟨Key.at p.1, Key.at q.2, by omega, lo, hi⟩
theorem pmul_iv (F : Ops) {X1 X2 Y1 Y2 : Nat} {k l k' l' : Int} (h : Iv X1 X2 k l) (h' : Iv Y1 Y2 k' l') : Iv (B (F.pLo k l k' l')) (B (F.pHi k l k' l')) (F.pLo k l k' l') (F.pHi k l k' l') := by
  have hI := INF_pos
  have u1 := h.le
  have u2 := h.lo
  have u3 := h.hi
  have v1 := h'.le
  have v2 := h'.lo
  have v3 := h'.hi
  have p := F.p_pl h.x.pl h.y.pl h'.x.pl h'.y.pl
  have px := h.x.pl
  have py := h'.x.pl
  have qx := h.y.pl
  have qy := h'.y.pl
  -- a number of x times a number of y: both finite
  obtain ⟨c, c1, c2, c3, c4⟩ : ∃ c, k ≤ c ∧ c ≤ l ∧ -(INF : Int) < c ∧ c < INF := by
    by_cases f : -(INF : Int) < k
    · exact ⟨k, by omega, u1, f, u2⟩
    · by_cases f' : l < INF
      · exact ⟨l, u1, by omega, u3, f'⟩
      · exact ⟨0, by omega, by omega, by omega, by omega⟩
  obtain ⟨d, d1, d2, d3, d4⟩ : ∃ d, k' ≤ d ∧ d ≤ l' ∧ -(INF : Int) < d ∧ d < INF := by
    by_cases f : -(INF : Int) < k'
    · exact ⟨k', by omega, v1, f, v2⟩
    · by_cases f' : l' < INF
      · exact ⟨l', v1, by omega, v3, f'⟩
      · exact ⟨0, by omega, by omega, by omega, by omega⟩
  have pc : Pl c := ⟨by omega, by omega⟩
  have pd : Pl d := ⟨by omega, by omega⟩
  have q := F.p_has px qx py qy pc pd c1 c2 d1 d2
  have r := (F.mul pc pd).num c3 c4 d3 d4
  have e := F.mul_le pc pd
  have a1 := r.dn.hi
  have a2 := r.up.lo
  exact ⟨Key.at p.1, Key.at p.2, by omega, by omega, by omega⟩
theorem Ops.p_grow (F : Ops) {a b k l c d : Int} (ha : Pl a) (hb : Pl b) (hk : Pl k) (hl : Pl l) (hc : Pl c) (hd : Pl d) (h1 : a ≤ k) (h2 : k ≤ l) (h3 : l ≤ b) (h4 : c ≤ d) :
    F.pLo a b c d ≤ F.pLo k l c d ∧ F.pHi k l c d ≤ F.pHi a b c d := by
  have q1 := F.p_has ha hb hc hd hk hc h1 (by omega) (Int.le_refl c) h4
  have q2 := F.p_has ha hb hc hd hk hd h1 (by omega) h4 (Int.le_refl d)
  have q3 := F.p_has ha hb hc hd hl hc (by omega) h3 (Int.le_refl c) h4
  have q4 := F.p_has ha hb hc hd hl hd (by omega) h3 h4 (Int.le_refl d)
  have e1 : F.pLo k l c d = min (min (F.mD k c) (F.mD k d)) (min (F.mD l c) (F.mD l d)) := rfl
  have e2 : F.pHi k l c d = max (max (F.mU k c) (F.mU k d)) (max (F.mU l c) (F.mU l d)) := rfl
  rw [e1, e2]
  omega
/-- Div, by places: EMPTY, 0, all, or the quotients of one sign. -/
structure DivA (F : Ops) (k l k' l' a b : Int) : Prop where
  emp : k' = 0 → l' = 0 → a = INF ∧ b = -(INF : Int)
  nought : k = 0 → l = 0 → ¬ (k' = 0 ∧ l' = 0) → a = 0 ∧ b = 0
  all : ¬ (k = 0 ∧ l = 0) → k' < 0 → 0 < l' → a = -(INF : Int) ∧ b = INF
  pos : ¬ (k = 0 ∧ l = 0) → 0 ≤ k' → 0 < l' → a = F.qLo k k' l' ∧ b = F.qHi l k' l'
  neg : ¬ (k = 0 ∧ l = 0) → k' < 0 → l' ≤ 0 → a = F.qLo (-l) (-l') (-k') ∧ b = F.qHi (-k) (-l') (-k')
theorem pdiv_any (F : Ops) {X1 X2 Y1 Y2 : Nat} {k l k' l' : Int} (h : Iv X1 X2 k l) (h' : Iv Y1 Y2 k' l') : ∃ a b, Ans a b ∧ DivA F k l k' l' a b ∧ (∀ w, Calls Try.prog 105 #[.agg #[.float .f64 X1, .float .f64 X2], .agg #[.float .f64 Y1, .float .f64 Y2]] w fun e w' => e = .returned (.agg #[.float .f64 (B a), .float .f64 (B b)]) ∧ Below w.heap.size w w') := by
  have hI := INF_pos
  have u1 := h.le
  have u2 := h.lo
  have u3 := h.hi
  have v1 := h'.le
  have v2 := h'.lo
  have v3 := h'.hi
  by_cases y0 : k' = 0 ∧ l' = 0
  · obtain ⟨rfl, rfl⟩ := y0
    exact ⟨_, _, Ans.emp, ⟨fun _ _ => ⟨rfl, rfl⟩, fun _ _ c => absurd ⟨rfl, rfl⟩ c, fun _ _ _ => by omega, fun _ _ _ => by omega, fun _ _ _ => by omega⟩, div_y0_w X1 X2 Y1 Y2 _ _ (none_no h) (none_no h') (nought_yes h'.x h'.y) pempty⟩
  have ny0 := nought_no h'.x h'.y y0
  by_cases x0 : k = 0 ∧ l = 0
  · obtain ⟨rfl, rfl⟩ := x0
    exact ⟨0, 0, .inr ⟨Key.at pl_zero, Key.at pl_zero, by omega, by omega, by omega⟩, ⟨fun _ _ => by omega, fun _ _ _ => ⟨rfl, rfl⟩, fun c => absurd ⟨rfl, rfl⟩ c, fun c => absurd ⟨rfl, rfl⟩ c, fun c => absurd ⟨rfl, rfl⟩ c⟩, div_x0_w X1 X2 Y1 Y2 (none_no h) (none_no h') ny0 (nought_yes h.x h.y)⟩
  have nx0 := nought_no h.x h.y x0
  by_cases y1 : 0 < l'
  · by_cases y2 : 0 ≤ k'
    · have q := quo_iv F h.x.pl h.y.pl h'.y.pl u1 u2 u3 y2 v1 y1 v2
      exact ⟨_, _, .inr q, ⟨fun _ _ => by omega, fun _ _ => by omega, fun _ _ _ => by omega, fun _ _ _ => ⟨rfl, rfl⟩, fun _ _ _ => by omega⟩, div_pos_w X1 X2 Y1 Y2 _ _ (none_no h) (none_no h') ny0 nx0 (nlt h'.x Key.zero y2) (pover_ok F h h' y2)⟩
    · exact ⟨-INF, INF, .inr ⟨Key.at pl_ninf, Key.at pl_inf, by omega, by omega, by omega⟩, ⟨fun _ _ => by omega, fun _ _ => by omega, fun _ _ _ => ⟨rfl, rfl⟩, fun _ _ _ => by omega, fun _ _ _ => by omega⟩, div_all_w X1 X2 Y1 Y2 _ _ (none_no h) (none_no h') ny0 nx0 (h'.x.olt Key.zero (by omega)) (h'.y.ogt Key.zero y1) pall⟩
  · have q := quo_iv F (pl_neg h.y.pl) (pl_neg h.x.pl) (pl_neg h'.x.pl) (k' := -l') (l' := -k') (by omega) (by omega) (by omega) (by omega) (by omega) (by omega) (by omega)
    exact ⟨_, _, .inr q, ⟨fun _ _ => by omega, fun _ _ => by omega, fun _ _ _ => by omega, fun _ _ _ => by omega, fun _ _ _ => ⟨rfl, rfl⟩⟩, div_neg_w X1 X2 Y1 Y2 _ _ _ _ _ _ (none_no h) (none_no h') ny0 nx0 (h'.x.olt Key.zero (by omega)) (ngt h'.y Key.zero (by omega)) (pneg h.x h.y) (pneg h'.x h'.y) (pover_ok F h.neg h'.neg (by omega))⟩
/-- 0 is among the quotients of what has 0. -/
theorem q_zero (F : Ops) {a b c d : Int} (ha : Pl a) (hb : Pl b) (hd : Pl d) (h1 : a ≤ 0) (h2 : 0 ≤ b) (h3 : 0 ≤ c) (h4 : c ≤ d) (h5 : 0 < d) (h6 : c < INF) : F.qLo a c d ≤ 0 ∧ 0 ≤ F.qHi b c d := by
  have hI := INF_pos
  by_cases c0 : c = 0
  · have z1 := F.div_zero ha
    have z2 := F.div_zero hb
    have n := F.div_nought hd h5
    unfold Ops.qLo Ops.qHi
    refine ⟨?_, ?_⟩
    · by_cases g : 0 ≤ a
      · rw [if_pos g, show a = 0 by omega]; omega
      · rw [if_neg g, c0]; omega
    · by_cases g : b ≤ 0
      · rw [if_pos g, show b = 0 by omega]; omega
      · rw [if_neg g, c0]; omega
  · have q := F.q_mono (a' := 0) (c' := c) (d' := c) ha (by omega) hd ⟨by omega, by omega⟩ h6 h1 h3 (Int.le_refl c) h4 (by omega)
    have r := F.qh_mono (b' := 0) (c' := c) (d' := c) hb (by omega) hd ⟨by omega, by omega⟩ h6 h2 h3 (Int.le_refl c) h4 (by omega)
    have n := F.div_nought (d := c) ⟨by omega, by omega⟩ (by omega)
    have e1 : F.qLo 0 c c = 0 := by unfold Ops.qLo; rw [if_pos (by omega)]; exact n.1
    have e2 : F.qHi 0 c c = 0 := by unfold Ops.qHi; rw [if_pos (by omega)]; exact n.2
    omega
/-- The dividend grows. -/
theorem div_grow1 (F : Ops) {k l k' l' gk gl a b c d : Int} (hgk : Pl gk) (hgl : Pl gl) (hk' : Pl k') (hl' : Pl l') (u1 : k ≤ l) (u2 : k < INF) (u3 : -(INF : Int) < l) (v1 : k' ≤ l') (v2 : k' < INF) (v3 : -(INF : Int) < l') (h1 : gk ≤ k) (h2 : l ≤ gl)
    (A : DivA F k l k' l' a b) (C : DivA F gk gl k' l' c d) (ha : Ans a b) (hn : Iv (B a) (B b) a b) : c ≤ a ∧ b ≤ d := by
  have hI := INF_pos
  have pa := ha.pl
  unfold Pl at pa
  by_cases y0 : k' = 0 ∧ l' = 0
  · have := A.emp y0.1 y0.2
    have := hn.le
    omega
  by_cases g0 : gk = 0 ∧ gl = 0
  · have q1 := C.nought g0.1 g0.2 y0
    have q2 := A.nought (by omega) (by omega) y0
    omega
  by_cases y1 : k' < 0 ∧ 0 < l'
  · have := C.all g0 y1.1 y1.2
    omega
  by_cases y2 : 0 ≤ k'
  · have q1 := C.pos g0 y2 (by omega)
    by_cases x0 : k = 0 ∧ l = 0
    · have q2 := A.nought x0.1 x0.2 y0
      have z := q_zero F hgk hgl hl' (by omega) (by omega) y2 v1 (by omega) v2
      omega
    · have q2 := A.pos x0 y2 (by omega)
      have m1 := F.q_mono hgk u2 hl' hl' v2 h1 y2 (Int.le_refl k') (Int.le_refl l') (by omega)
      have m2 := F.qh_mono hgl u3 hl' hl' v2 h2 y2 (Int.le_refl k') (Int.le_refl l') (by omega)
      omega
  · have q1 := C.neg g0 (by omega) (by omega)
    by_cases x0 : k = 0 ∧ l = 0
    · have q2 := A.nought x0.1 x0.2 y0
      have z := q_zero F (pl_neg hgl) (pl_neg hgk) (pl_neg hk') (c := -l') (by omega) (by omega) (by omega) (by omega) (by omega) (by omega)
      omega
    · have q2 := A.neg x0 (by omega) (by omega)
      have m1 := F.q_mono (pl_neg hgl) (a' := -l) (by omega) (pl_neg hk') (pl_neg hk') (c := -l') (c' := -l') (by omega) (by omega) (by omega) (Int.le_refl _) (Int.le_refl _) (by omega)
      have m2 := F.qh_mono (pl_neg hgk) (b' := -k) (by omega) (pl_neg hk') (pl_neg hk') (c := -l') (c' := -l') (by omega) (by omega) (by omega) (Int.le_refl _) (Int.le_refl _) (by omega)
      omega
/-- The divisor grows. -/
theorem div_grow2 (F : Ops) {k l k' l' gk gl a b c d : Int} (hgk : Pl gk) (hgl : Pl gl) (hk : Pl k) (hl : Pl l) (hk' : Pl k') (hl' : Pl l') (u1 : k ≤ l) (u2 : k < INF) (u3 : -(INF : Int) < l) (v2 : k' < INF) (v3 : -(INF : Int) < l') (h1 : gk ≤ k) (h2 : l ≤ gl)
    (A : DivA F k' l' k l a b) (C : DivA F k' l' gk gl c d) (ha : Ans a b) (hn : Iv (B a) (B b) a b) : c ≤ a ∧ b ≤ d := by
  have hI := INF_pos
  have pa := ha.pl
  unfold Pl at pa
  by_cases x0 : k = 0 ∧ l = 0
  · have := A.emp x0.1 x0.2
    have := hn.le
    omega
  have g0 : ¬ (gk = 0 ∧ gl = 0) := by omega
  by_cases y0 : k' = 0 ∧ l' = 0
  · have q1 := C.nought y0.1 y0.2 g0
    have q2 := A.nought y0.1 y0.2 x0
    omega
  by_cases g1 : gk < 0 ∧ 0 < gl
  · have := C.all y0 g1.1 g1.2
    omega
  by_cases g2 : 0 ≤ gk
  · have q1 := C.pos y0 g2 (by omega)
    have q2 := A.pos y0 (by omega) (by omega)
    have m1 := F.q_mono hk' (a' := k') v2 hgl hl u2 (Int.le_refl _) g2 h1 h2 (by omega)
    have m2 := F.qh_mono hl' (b' := l') v3 hgl hl u2 (Int.le_refl _) g2 h1 h2 (by omega)
    omega
  · have q1 := C.neg y0 (by omega) (by omega)
    have q2 := A.neg y0 (by omega) (by omega)
    have m1 := F.q_mono (pl_neg hl') (a' := -l') (by omega) (pl_neg hgk) (pl_neg hk) (c := -gl) (c' := -l) (by omega) (Int.le_refl _) (by omega) (by omega) (by omega) (by omega)
    have m2 := F.qh_mono (pl_neg hk') (b' := -k') (by omega) (pl_neg hgk) (pl_neg hk) (c := -gl) (c' := -l) (by omega) (Int.le_refl _) (by omega) (by omega) (by omega) (by omega)
    omega
end Go.Proofs.Ytacnclofbnafiaa
