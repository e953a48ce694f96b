import Derived.Test.YtacnclofbnafiaaK3
namespace Go.Proofs.Ytacnclofbnafiaa
open Go.RowKit Fl

theorem pl_neg {k : Int} (h : Pl k) : Pl (-k) := by unfold Pl at *; omega
theorem pl_zero : Pl 0 := by unfold Pl; omega
theorem pl_min {a b : Int} (ha : Pl a) (hb : Pl b) : Pl (min a b) := by unfold Pl at *; omega
theorem pl_max {a b : Int} (ha : Pl a) (hb : Pl b) : Pl (max a b) := by unfold Pl at *; omega
theorem pl_inf : Pl INF := by unfold Pl; omega
theorem pl_ninf : Pl (-INF) := by unfold Pl; omega
/-- DOWN is not above UP. -/
theorem Rk.le {E : Int → Int} {D P : Int} (hE : AntiI E) (h : Rk E D P) : D ≤ P := by
  rcases Int.lt_or_le P D with g | g
  · exfalso
    have h1 := h.dn.hi
    have h2 := h.up.lo
    have h3 := (h.dn.ok D (by omega) h1).2 (Int.le_refl _)
    have h4 := (h.up.ok P h2 (by omega)).2 (Int.le_refl _)
    have := hE _ _ (Vk_lt.2 g) h3
    omega
  · exact g

-- sums
theorem Ops.add_pl (F : Ops) {k l : Int} (hk : Pl k) (hl : Pl l) : Pl (F.aD k l) ∧ Pl (F.aU k l) := by
  have := (F.add hk hl).bd
  unfold Pl; omega
theorem Ops.add_mono (F : Ops) {k l k' l' : Int} (hk : Pl k) (hl : Pl l) (hk' : Pl k') (hl' : Pl l') (h1 : k ≤ k') (h2 : l ≤ l') : F.aD k l ≤ F.aD k' l' ∧ F.aU k l ≤ F.aU k' l' :=
  (F.add hk hl).mono (F.add hk' hl') hk.1 hk'.2 hl.1 hl'.2 h1 h2

-- products
theorem Ops.mul_pl (F : Ops) {k l : Int} (hk : Pl k) (hl : Pl l) : Pl (F.mD k l) ∧ Pl (F.mU k l) := by
  have := (F.mul hk hl).bd
  unfold Pl; omega
theorem Ops.mul_comm (F : Ops) {k l : Int} (hk : Pl k) (hl : Pl l) : F.mD k l = F.mD l k ∧ F.mU k l = F.mU l k :=
  (F.mul hk hl).unique (F.mul hl hk).comm hk.1 hk.2 hl.1 hl.2
theorem Ops.mul_neg (F : Ops) {k l : Int} (hk : Pl k) (hl : Pl l) : F.mD (-k) l = -F.mU k l ∧ F.mU (-k) l = -F.mD k l :=
  (F.mul (pl_neg hk) hl).unique (F.mul hk hl).neg (pl_neg hk).1 (pl_neg hk).2 hl.1 hl.2
theorem Ops.mul_negneg (F : Ops) {k l : Int} (hk : Pl k) (hl : Pl l) : F.mD (-k) (-l) = F.mD k l ∧ F.mU (-k) (-l) = F.mU k l := by
  have h1 := F.mul_neg hk (pl_neg hl)
  have h2 := F.mul_comm hk (pl_neg hl)
  have h3 := F.mul_neg hl hk
  have h4 := F.mul_comm hl hk
  omega
theorem Ops.mul_zero (F : Ops) {l : Int} (hl : Pl l) : F.mD 0 l = 0 ∧ F.mU 0 l = 0 := (F.mul pl_zero hl).zero (.inl rfl)
theorem Ops.mul_zero' (F : Ops) {l : Int} (hl : Pl l) : F.mD l 0 = 0 ∧ F.mU l 0 = 0 := (F.mul hl pl_zero).zero (.inr rfl)
theorem Ops.mul_mono (F : Ops) {k k' l : Int} (hk : Pl k) (hk' : Pl k') (hl : Pl l) (h : k ≤ k') (h0 : 0 ≤ l) : F.mD k l ≤ F.mD k' l ∧ F.mU k l ≤ F.mU k' l :=
  (F.mul hk hl).mono (F.mul hk' hl) hk.1 hk'.2 h0 hl.2 h
theorem Ops.mul_anti (F : Ops) {k k' l : Int} (hk : Pl k) (hk' : Pl k') (hl : Pl l) (h : k ≤ k') (h0 : l ≤ 0) : F.mD k' l ≤ F.mD k l ∧ F.mU k' l ≤ F.mU k l := by
  have h1 := F.mul_mono hk hk' (pl_neg hl) h (by omega)
  have e1 := F.mul_comm hk (pl_neg hl)
  have e2 := F.mul_neg hl hk
  have e3 := F.mul_comm hl hk
  have e4 := F.mul_comm hk' (pl_neg hl)
  have e5 := F.mul_neg hl hk'
  have e6 := F.mul_comm hl hk'
  omega
theorem Ops.mul_pos (F : Ops) {k l : Int} (hk : Pl k) (hl : Pl l) (h1 : 0 ≤ k) (h2 : 0 ≤ l) : 0 ≤ F.mD k l ∧ 0 ≤ F.mU k l := by
  have h := F.mul_mono pl_zero hk hl h1 h2
  have := F.mul_zero hl
  omega
theorem Ops.mul_le (F : Ops) {k l : Int} (hk : Pl k) (hl : Pl l) : F.mD k l ≤ F.mU k l := by
  have h := F.mul hk hl
  unfold Pl at hk hl
  by_cases f : -(INF : Int) < k ∧ k < INF ∧ -(INF : Int) < l ∧ l < INF
  · exact (h.num f.1 f.2.1 f.2.2.1 f.2.2.2).le (Et_anti _)
  · have o1 := h.zero
    have o2 := h.infp
    have o3 := h.infn
    generalize F.mD k l = D at *
    generalize F.mU k l = P at *
    clear h
    omega
/-- Between two corners. -/
theorem Ops.mul_between (F : Ops) {a k b l : Int} (ha : Pl a) (hk : Pl k) (hb : Pl b) (hl : Pl l) (h1 : a ≤ k) (h2 : k ≤ b) :
    min (F.mD a l) (F.mD b l) ≤ F.mD k l ∧ F.mU k l ≤ max (F.mU a l) (F.mU b l) := by
  rcases Int.lt_or_le l 0 with g | g
  · have e1 := F.mul_anti hk hb hl h2 (by omega)
    have e2 := F.mul_anti ha hk hl h1 (by omega)
    omega
  · have e1 := F.mul_mono hk hb hl h2 g
    have e2 := F.mul_mono ha hk hl h1 g
    omega
/-- The product of two intervals, by places. -/
def Ops.pLo (F : Ops) (a b c d : Int) : Int := min (min (F.mD a c) (F.mD a d)) (min (F.mD b c) (F.mD b d))
def Ops.pHi (F : Ops) (a b c d : Int) : Int := max (max (F.mU a c) (F.mU a d)) (max (F.mU b c) (F.mU b d))
theorem Ops.p_pl (F : Ops) {a b c d : Int} (ha : Pl a) (hb : Pl b) (hc : Pl c) (hd : Pl d) : Pl (F.pLo a b c d) ∧ Pl (F.pHi a b c d) :=
  ⟨pl_min (pl_min (F.mul_pl ha hc).1 (F.mul_pl ha hd).1) (pl_min (F.mul_pl hb hc).1 (F.mul_pl hb hd).1), pl_max (pl_max (F.mul_pl ha hc).2 (F.mul_pl ha hd).2) (pl_max (F.mul_pl hb hc).2 (F.mul_pl hb hd).2)⟩
theorem Ops.p_has (F : Ops) {a b c d k l : Int} (ha : Pl a) (hb : Pl b) (hc : Pl c) (hd : Pl d) (hk : Pl k) (hl : Pl l) (h1 : a ≤ k) (h2 : k ≤ b) (h3 : c ≤ l) (h4 : l ≤ d) :
    F.pLo a b c d ≤ F.mD k l ∧ F.mU k l ≤ F.pHi a b c d := by
  have e1 := F.mul_between ha hk hb hl h1 h2
  have e2 := F.mul_between hc hl hd ha h3 h4
  have e3 := F.mul_between hc hl hd hb h3 h4
  have q1 := F.mul_comm ha hl
  have q2 := F.mul_comm hb hl
  have q3 := F.mul_comm ha hc
  have q4 := F.mul_comm ha hd
  have q5 := F.mul_comm hb hc
  have q6 := F.mul_comm hb hd
  unfold Ops.pLo Ops.pHi
  omega

-- quotients
theorem Ops.div_pl (F : Ops) {k l : Int} (hk : Pl k) (hl : Pl l) (h0 : 0 ≤ l) : Pl (F.dD k l) ∧ Pl (F.dU k l) := by
  have := (F.div hk hl h0).bd
  unfold Pl; omega
theorem Ops.div_neg (F : Ops) {k l : Int} (hk : Pl k) (hl : Pl l) (h0 : 0 ≤ l) : F.dD (-k) l = -F.dU k l ∧ F.dU (-k) l = -F.dD k l :=
  (F.div (pl_neg hk) hl h0).unique (F.div hk hl h0).neg (pl_neg hk).1 (pl_neg hk).2 h0 hl.2
theorem Ops.div_zero (F : Ops) {k : Int} (hk : Pl k) : F.dD k 0 = -INF ∧ F.dU k 0 = INF := (F.div hk pl_zero (Int.le_refl _)).all (.inl rfl)
theorem Ops.div_inf (F : Ops) {k : Int} (hk : Pl k) (h1 : -(INF : Int) < k) (h2 : k < INF) : F.dD k INF = 0 ∧ F.dU k INF = 0 := (F.div hk pl_inf (by omega)).infr h1 h2 rfl
theorem Ops.div_ninf (F : Ops) {l : Int} (hl : Pl l) (h1 : 0 < l) (h2 : l < INF) : F.dD (-INF) l = -INF ∧ F.dU (-INF) l = -INF := (F.div pl_ninf hl (by omega)).infn rfl h1 h2
theorem Ops.div_pinf (F : Ops) {l : Int} (hl : Pl l) (h1 : 0 < l) (h2 : l < INF) : F.dD INF l = INF ∧ F.dU INF l = INF := (F.div pl_inf hl (by omega)).infp rfl h1 h2
theorem Ops.div_top (F : Ops) {k l : Int} (hk : Pl k) (hl : Pl l) (h0 : 0 ≤ l) (h2 : k < INF) : F.dD k l < INF := by
  have hI := INF_pos
  have h := F.div hk hl h0
  unfold Pl at hk hl
  by_cases f : -(INF : Int) < k ∧ 0 < l ∧ l < INF
  · exact (h.num f.1 h2 f.2.1 f.2.2).dn.hi
  · have o1 := h.all
    have o2 := h.infr
    have o4 := h.infn
    generalize F.dD k l = D at *
    clear h
    omega
theorem Ops.div_cross (F : Ops) {k l k' l' : Int} (b1 : -(INF : Int) < k) (b2 : k < INF) (b3 : -(INF : Int) < k') (b4 : k' < INF) (c1 : 0 < l) (c2 : l < INF) (c3 : 0 < l') (c4 : l' < INF)
    (hx : Vk k * Vk l' ≤ Vk k' * Vk l) : F.dD k l ≤ F.dD k' l' ∧ F.dU k l ≤ F.dU k' l' :=
  (F.div ⟨by omega, by omega⟩ ⟨by omega, by omega⟩ (by omega)).cross (F.div ⟨by omega, by omega⟩ ⟨by omega, by omega⟩ (by omega)) b1 b2 b3 b4 c1 c2 c3 c4 hx
theorem Ops.div_self_le (F : Ops) {k l : Int} (hk : Pl k) (hl : Pl l) (h0 : 0 ≤ l) : F.dD k l ≤ F.dU k l := by
  have hI := INF_pos
  have h := F.div hk hl h0
  unfold Pl at hk hl
  by_cases f : -(INF : Int) < k ∧ k < INF ∧ 0 < l ∧ l < INF
  · refine (h.num f.1 f.2.1 f.2.2.1 f.2.2.2).le ?_
    have := Eo_anti false (Vk k * (U : Int)) l.natAbs (by omega)
    have e : V false l.natAbs = Vk l := by
      unfold Vk; rw [decide_eq_false (by omega)]
    rwa [e] at this
  · have o1 := h.all
    have o2 := h.infr
    have o3 := h.infp
    have o4 := h.infn
    generalize F.dD k l = D at *
    generalize F.dU k l = P at *
    clear h
    omega
/-- What a / b comes to at the least, b from c to d (0 ≤ c, 0 < d). -/
def Ops.qLo (F : Ops) (a c d : Int) : Int := if 0 ≤ a then F.dD a d else F.dD a c
def Ops.qHi (F : Ops) (a c d : Int) : Int := if a ≤ 0 then F.dU a d else F.dU a c
theorem Ops.q_neg (F : Ops) {a c d : Int} (ha : Pl a) (hc : Pl c) (hd : Pl d) (h1 : 0 ≤ c) (h2 : 0 ≤ d) : F.qLo (-a) c d = -F.qHi a c d := by
  unfold Ops.qLo Ops.qHi
  by_cases h : a ≤ 0
  · rw [if_pos h, if_pos (by omega), (F.div_neg ha hd h2).1]
  · rw [if_neg h, if_neg (by omega), (F.div_neg ha hc h1).1]
theorem Ops.q_pl (F : Ops) {a c d : Int} (ha : Pl a) (hc : Pl c) (hd : Pl d) (h1 : 0 ≤ c) (h2 : 0 ≤ d) : Pl (F.qLo a c d) ∧ Pl (F.qHi a c d) := by
  unfold Ops.qLo Ops.qHi
  refine ⟨?_, ?_⟩
  · split
    · exact (F.div_pl ha hd h2).1
    · exact (F.div_pl ha hc h1).1
  · split
    · exact (F.div_pl ha hd h2).2
    · exact (F.div_pl ha hc h1).2
theorem Ops.div_pos (F : Ops) {a d : Int} (hd : Pl d) (h0 : 0 ≤ a) (h1 : a < INF) (h2 : 0 < d) : 0 ≤ F.dD a d := by
  have hI := INF_pos
  by_cases hd' : d = INF
  · have := F.div_inf (k := a) ⟨by omega, by omega⟩ (by omega) h1
    rw [hd']; omega
  · have hdI : d < INF := by unfold Pl at hd; omega
    have r := (F.div (k := a) ⟨by omega, by omega⟩ hd (by omega)).num (by omega) h1 h2 hdI
    refine (r.dn.ok 0 (by omega) (by omega)).1 ?_
    unfold Eo
    rw [Vk_zero]
    simp only [Bool.false_eq_true, if_false, Int.zero_mul, Int.sub_zero]
    exact Int.mul_nonneg (Vk_nonneg h0) (Int.le_of_lt U_posI)
theorem Ops.div_npos (F : Ops) {a c : Int} (ha : Pl a) (h0 : a ≤ 0) (h2 : 0 ≤ c) (h3 : c < INF) : F.dD a c ≤ 0 := by
  have hI := INF_pos
  by_cases hc : c = 0
  · subst hc
    have := F.div_zero ha
    omega
  by_cases hA : a = -(INF : Int)
  · have := F.div_ninf (l := c) ⟨by omega, by omega⟩ (by omega) h3
    rw [hA]; omega
  have ha' : -(INF : Int) < a := by unfold Pl at ha; omega
  have r := (F.div ha (l := c) ⟨by omega, by omega⟩ h2).num ha' (by omega) (by omega) h3
  rcases Int.lt_or_le 0 (F.dD a c) with g | g
  · exfalso
    have h4 := (r.dn.ok (F.dD a c) (by omega) r.dn.hi).2 (Int.le_refl _)
    unfold Eo at h4
    simp only [Bool.false_eq_true, if_false] at h4
    have h5 := Int.mul_pos (Vk_pos g) (Vk_pos (show 0 < c by omega))
    have h6 := Int.mul_nonneg (show 0 ≤ -Vk a by have := Vk_nonpos h0; omega) (Int.le_of_lt U_posI)
    rw [Int.neg_mul] at h6
    omega
  · exact g
theorem mul_anti_le {a b c : Int} (h : a ≤ b) (hc : c ≤ 0) : b * c ≤ a * c := by
  have := Int.mul_le_mul_of_nonneg_right h (show 0 ≤ -c by omega)
  rw [Int.mul_neg, Int.mul_neg] at this
  omega
/-- The greater a, the greater the least quotient; the greater y, the less. -/
theorem Ops.q_mono (F : Ops) {a a' c d c' d' : Int} (ha : Pl a) (ha' : a' < INF) (hd : Pl d) (hd' : Pl d') (hc' : c' < INF) (h1 : a ≤ a') (h2 : 0 ≤ c) (h3 : c ≤ c') (h4 : d' ≤ d) (h5 : 0 < d') :
    F.qLo a c d ≤ F.qLo a' c' d' := by
  have hI := INF_pos
  have hc : Pl c := by unfold Pl; omega
  have hcp' : Pl c' := by unfold Pl; omega
  have hap' : Pl a' := by unfold Pl at *; omega
  unfold Ops.qLo
  by_cases g : 0 ≤ a
  · rw [if_pos g, if_pos (by omega)]
    by_cases e : d = INF
    · have z := F.div_inf ha (by omega) (by omega)
      have p := F.div_pos hd' (show 0 ≤ a' by omega) ha' h5
      rw [e]; omega
    · have hdI : d < INF := by unfold Pl at hd; omega
      refine (F.div_cross (by omega) (by omega) (by omega) ha' (by omega) hdI h5 (by omega) ?_).1
      have q1 := Int.mul_le_mul_of_nonneg_left (Vk_le.2 h4) (Vk_nonneg g)
      have q2 := Int.mul_le_mul_of_nonneg_right (Vk_le.2 h1) (Vk_nonneg (show 0 ≤ d by omega))
      omega
  · rw [if_neg g]
    by_cases g' : 0 ≤ a'
    · rw [if_pos g']
      have n := F.div_npos ha (by omega) h2 (by omega)
      have p := F.div_pos hd' g' ha' h5
      omega
    · rw [if_neg g']
      by_cases e0 : c = 0
      · have z := F.div_zero ha
        have := (F.div_pl hap' hcp' (by omega)).1.1
        rw [e0]; omega
      by_cases eA : a = -(INF : Int)
      · have z := F.div_ninf hc (by omega) (by omega)
        have := (F.div_pl hap' hcp' (by omega)).1.1
        rw [eA]; omega
      have hA : -(INF : Int) < a := by unfold Pl at ha; omega
      refine (F.div_cross hA (by omega) (by omega) ha' (by omega) (by omega) (by omega) hc' ?_).1
      have q1 := mul_anti_le (Vk_le.2 h3) (Vk_nonpos (show a' ≤ 0 by omega))
      have q2 := Int.mul_le_mul_of_nonneg_right (Vk_le.2 h1) (Vk_nonneg (show 0 ≤ c' by omega))
      rw [Int.mul_comm (Vk c'), Int.mul_comm (Vk c)] at q1
      omega
theorem Ops.qh_mono (F : Ops) {b b' c d c' d' : Int} (hb : Pl b) (hb' : -(INF : Int) < b') (hd : Pl d) (hd' : Pl d') (hc' : c' < INF) (h1 : b' ≤ b) (h2 : 0 ≤ c) (h3 : c ≤ c') (h4 : d' ≤ d) (h5 : 0 < d') :
    F.qHi b' c' d' ≤ F.qHi b c d := by
  have hb2 : Pl b' := by unfold Pl at *; omega
  have e1 := F.q_neg hb (c := c) (by unfold Pl; omega) hd h2 (by omega)
  have e2 := F.q_neg hb2 (c := c') (by unfold Pl; omega) hd' (by omega) (by omega)
  have := F.q_mono (pl_neg hb) (a' := -b') (by omega) hd hd' hc' (by omega) h2 h3 h4 h5
  omega
theorem Ops.q_top (F : Ops) {a c d : Int} (ha : Pl a) (h0 : a < INF) (hc : Pl c) (hd : Pl d) (h1 : 0 ≤ c) (h2 : 0 ≤ d) : F.qLo a c d < INF := by
  unfold Ops.qLo
  split
  · exact F.div_top ha hd h2 h0
  · exact F.div_top ha hc h1 h0
theorem Ops.q_bot (F : Ops) {b c d : Int} (hb : Pl b) (h0 : -(INF : Int) < b) (hc : Pl c) (hd : Pl d) (h1 : 0 ≤ c) (h2 : 0 ≤ d) : -(INF : Int) < F.qHi b c d := by
  have e := F.q_neg hb hc hd h1 h2
  have := F.q_top (pl_neg hb) (by omega) hc hd h1 h2
  omega
/-- The least is not above the greatest. -/
theorem Ops.q_le (F : Ops) {a b c d : Int} (ha : Pl a) (hb : Pl b) (hd : Pl d) (hab : a ≤ b) (ha0 : a < INF) (hb0 : -(INF : Int) < b) (h1 : 0 ≤ c) (h2 : c ≤ d) (h3 : 0 < d) (h4 : c < INF) : F.qLo a c d ≤ F.qHi b c d := by
  have hI := INF_pos
  have hc : Pl c := by unfold Pl; omega
  by_cases g : 0 ≤ a
  · by_cases g' : b ≤ 0
    · have e1 : a = 0 := by omega
      have e2 : b = 0 := by omega
      subst e1; subst e2
      unfold Ops.qLo Ops.qHi
      rw [if_pos (by omega), if_pos (by omega)]
      exact F.div_self_le pl_zero hd (by omega)
    · by_cases c0 : c = 0
      · have := F.div_zero hb
        have q := (F.q_pl ha hc hd h1 (by omega)).1.2
        unfold Ops.qHi
        rw [if_neg g', c0]
        rw [c0] at q
        omega
      · -- a / d ≤ a / c ≤ b / c
        have m := F.q_mono ha ha0 hd (d' := c) hc h4 (Int.le_refl a) h1 (Int.le_refl c) h2 (by omega)
        have s := F.div_self_le ha hc h1
        have e1 : F.qLo a c c = F.dD a c := by unfold Ops.qLo; split <;> rfl
        have e2 : F.qHi b c d = F.dU b c := by unfold Ops.qHi; rw [if_neg g']
        by_cases bI : b = INF
        · have := F.div_pinf hc (by omega) h4
          rw [e2, bI]
          have q := (F.q_pl ha hc hd h1 (by omega)).1.2
          omega
        · have x := (F.div_cross (k := a) (l := c) (k' := b) (l' := c) (by omega) ha0 (by omega) (by unfold Pl at hb; omega) (by omega) h4 (by omega) h4 (Int.mul_le_mul_of_nonneg_right (Vk_le.2 hab) (Vk_nonneg h1))).2
          omega
  · -- a below 0
    have n : F.qLo a c d ≤ 0 := by
      unfold Ops.qLo; rw [if_neg g]; exact F.div_npos ha (by omega) h1 h4
    by_cases g' : b ≤ 0
    · by_cases c0 : c = 0
      · have := F.div_zero ha
        have q := (F.q_pl hb hc hd h1 (by omega)).2.1
        unfold Ops.qLo
        rw [if_neg g, c0]
        rw [c0] at q
        omega
      · have s := F.div_self_le hb hd (by omega)
        have e2 : F.qHi b c d = F.dU b d := by unfold Ops.qHi; rw [if_pos g']
        have e1 : F.qLo a c d = F.dD a c := by unfold Ops.qLo; rw [if_neg g]
        by_cases dI : d = INF
        · have := F.div_inf hb hb0 (by omega)
          rw [dI] at n e2 ⊢
          omega
        · have hdI : d < INF := by unfold Pl at hd; omega
          by_cases aI : a = -(INF : Int)
          · have := F.div_ninf hc (by omega) h4
            have q := (F.q_pl hb hc hd h1 (by omega)).2.1
            rw [e1, aI]; omega
          · have hA : -(INF : Int) < a := by unfold Pl at ha; omega
            have x := (F.div_cross (k := a) (l := c) (k' := b) (l' := d) hA (by omega) hb0 (by omega) (by omega) h4 h3 hdI (by
              have q1 := mul_anti_le (Vk_le.2 h2) (Vk_nonpos (show b ≤ 0 by omega))
              have q2 := Int.mul_le_mul_of_nonneg_right (Vk_le.2 hab) (Vk_nonneg (show 0 ≤ d by omega))
              rw [Int.mul_comm (Vk d), Int.mul_comm (Vk c)] at q1
              omega)).1
            omega
    · have p : 0 ≤ F.qHi b c d := by
        have e := F.q_neg hb hc hd h1 (by omega)
        have : F.qLo (-b) c d ≤ 0 := by
          unfold Ops.qLo; rw [if_neg (by omega)]; exact F.div_npos (pl_neg hb) (by omega) h1 h4
        omega
      omega
theorem Ops.div_nought (F : Ops) {d : Int} (hd : Pl d) (h : 0 < d) : F.dD 0 d = 0 ∧ F.dU 0 d = 0 := by
  have hI := INF_pos
  have p := F.div_pos hd (Int.le_refl 0) (by omega) h
  have e := F.div_neg pl_zero hd (by omega)
  rw [Int.neg_zero] at e
  have s := F.div_self_le pl_zero hd (by omega)
  by_cases dI : d = INF
  · have := F.div_inf pl_zero (by omega) (by omega)
    rw [dI]; exact this
  · have n := F.div_npos pl_zero (Int.le_refl 0) (c := d) (by omega) (by unfold Pl at hd; omega)
    omega

-- roots
theorem Ops.sqrt_pl (F : Ops) {k : Int} (hk : Pl k) (h0 : 0 ≤ k) : Pl (F.sD k) ∧ Pl (F.sU k) := by
  have := (F.sqrt hk h0).bd
  unfold Pl; omega
theorem Ops.sqrt_mono (F : Ops) {k k' : Int} (hk : Pl k) (hk' : Pl k') (h0 : 0 ≤ k) (h : k ≤ k') : F.sD k ≤ F.sD k' ∧ F.sU k ≤ F.sU k' :=
  (F.sqrt hk h0).mono (F.sqrt hk' (by omega)) h0 hk'.2 h
end Go.Proofs.Ytacnclofbnafiaa
