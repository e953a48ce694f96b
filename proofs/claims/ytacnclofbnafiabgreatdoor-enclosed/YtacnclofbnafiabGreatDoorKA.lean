import Derived.Test.YtacnclofbnafiabGreatDoorK1
import Derived.Test.YtacnclofbnafiabGreatDoorRB
namespace Go.Proofs.YtacnclofbnafiabGreatDoor
open Go.RowKit Fl

structure Rk (E : Int → Int) (D P : Int) : Prop where
  dn : DnK E D
  up : UpK E P
theorem Rk.bd {E : Int → Int} {D P : Int} (h : Rk E D P) : -(INF : Int) ≤ D ∧ D ≤ INF ∧ -(INF : Int) ≤ P ∧ P ≤ INF := by
  have h1 := h.dn.lo
  have h2 := h.dn.hi
  have h3 := h.up.lo
  have h4 := h.up.hi
  omega
theorem ix_true (r : Nat) : ixI true r = -(r : Int) := rfl
theorem ix_false (r : Nat) : ixI false r = r := rfl

-- sums
structure AddK (k l D P : Int) : Prop where
  bd : -(INF : Int) ≤ D ∧ D ≤ INF ∧ -(INF : Int) ≤ P ∧ P ≤ INF
  opp : (k = INF ∧ l = -(INF : Int)) ∨ (k = -(INF : Int) ∧ l = INF) → D = -(INF : Int) ∧ P = INF
  top : (k = INF ∧ -(INF : Int) < l) ∨ (-(INF : Int) < k ∧ l = INF) → D = INF ∧ P = INF
  bot : (k = -(INF : Int) ∧ l < INF) ∨ (k < INF ∧ l = -(INF : Int)) → D = -(INF : Int) ∧ P = -(INF : Int)
  num : -(INF : Int) < k → k < INF → -(INF : Int) < l → l < INF → Rk (Ep (Vk k + Vk l)) D P
theorem AddSpec.key {s t : Bool} {r q D P : Nat} (hr : r ≤ INF) (hq : q ≤ INF) (H : AddSpec s r t q D P) :
    ∃ d p, D = B d ∧ P = B p ∧ AddK (ixI s r) (ixI t q) d p := by
  have hI := INF_pos
  by_cases h0 : r = INF ∧ q = INF ∧ s ≠ t
  · obtain ⟨rfl, rfl⟩ := H.all (.inr (.inr h0))
    obtain ⟨rfl, rfl, hst⟩ := h0
    refine ⟨-INF, INF, B_ninf.symm, B_inf.symm, ?_⟩
    cases s <;> cases t <;> simp only [ix_true, ix_false] at * <;> first | exact absurd rfl hst | (constructor <;> intros <;> first | omega | (exfalso; omega))
  by_cases h1 : r = INF
  · subst h1
    have hst : q = INF → s = t := fun h => Classical.byContradiction fun c => h0 ⟨rfl, h, c⟩
    obtain ⟨rfl, rfl⟩ := H.inf_l rfl hq hst
    clear h0
    cases s
    · refine ⟨INF, INF, B_inf.symm, B_inf.symm, ?_⟩
      cases t
      · simp only [ix_false]; constructor <;> intros <;> first | omega | (exfalso; omega)
      · have : q ≠ INF := fun h => by cases hst h
        simp only [ix_false, ix_true]; constructor <;> intros <;> first | omega | (exfalso; omega)
    · refine ⟨-INF, -INF, B_ninf.symm, B_ninf.symm, ?_⟩
      cases t
      · have : q ≠ INF := fun h => by cases hst h
        simp only [ix_false, ix_true]; constructor <;> intros <;> first | omega | (exfalso; omega)
      · simp only [ix_true]; constructor <;> intros <;> first | omega | (exfalso; omega)
  by_cases h2 : q = INF
  · subst h2
    obtain ⟨rfl, rfl⟩ := H.inf_r (by omega) rfl
    cases t
    · refine ⟨INF, INF, B_inf.symm, B_inf.symm, ?_⟩
      cases s <;> simp only [ix_false, ix_true] <;> constructor <;> intros <;> first | omega | (exfalso; omega)
    · refine ⟨-INF, -INF, B_ninf.symm, B_ninf.symm, ?_⟩
      cases s <;> simp only [ix_false, ix_true] <;> constructor <;> intros <;> first | omega | (exfalso; omega)
  obtain ⟨sg, lo, hi, k1, k2, rfl, rfl⟩ := H.num (by omega) (by omega)
  obtain ⟨o1, o2⟩ := lohi_ok (Ep_anti _) (link_p sg _ k1) k2
  obtain ⟨d, e1, g1⟩ := o1.key (Ep_anti _)
  obtain ⟨p, e2, g2⟩ := o2.key (Ep_anti _)
  refine ⟨d, p, e1, e2, ?_⟩
  have g : Rk (Ep (Vk (ixI s r) + Vk (ixI t q))) d p := by rw [Vk_ix, Vk_ix]; exact ⟨g1, g2⟩
  have b := g.bd
  refine ⟨b, ?_, ?_, ?_, fun _ _ _ _ => g⟩
  · cases s <;> cases t <;> simp only [ix_true, ix_false] <;> intros <;> omega
  · cases s <;> cases t <;> simp only [ix_true, ix_false] <;> intros <;> omega
  · cases s <;> cases t <;> simp only [ix_true, ix_false] <;> intros <;> omega
theorem AddK.mono {k l D P k' l' D' P' : Int} (h : AddK k l D P) (h' : AddK k' l' D' P') (b1 : -(INF : Int) ≤ k) (b2 : k' ≤ INF) (b3 : -(INF : Int) ≤ l) (b4 : l' ≤ INF) (hk : k ≤ k') (hl : l ≤ l') : D ≤ D' ∧ P ≤ P' := by
  have b := h.bd
  have b' := h'.bd
  have hI := INF_pos
  by_cases f : -(INF : Int) < k ∧ -(INF : Int) < l ∧ k' < INF ∧ l' < INF
  · have r1 := h.num (by omega) (by omega) (by omega) (by omega)
    have r2 := h'.num (by omega) (by omega) (by omega) (by omega)
    have e1 := Vk_le.2 hk
    have e2 := Vk_le.2 hl
    exact ⟨r1.dn.mono r2.dn fun v => by unfold Ep; omega, r1.up.mono r2.up fun v => by unfold Ep; omega⟩
  · have o1 := h.opp
    have o2 := h.top
    have o3 := h.bot
    have o4 := h'.opp
    have o5 := h'.top
    have o6 := h'.bot
    clear h h'
    omega
theorem AddK.unique {k l D P D' P' : Int} (h : AddK k l D P) (h' : AddK k l D' P') (b1 : -(INF : Int) ≤ k) (b2 : k ≤ INF) (b3 : -(INF : Int) ≤ l) (b4 : l ≤ INF) : D = D' ∧ P = P' := by
  have h1 := h.mono h' b1 b2 b3 b4 (Int.le_refl _) (Int.le_refl _)
  have h2 := h'.mono h b1 b2 b3 b4 (Int.le_refl _) (Int.le_refl _)
  omega

-- products
structure MulK (k l D P : Int) : Prop where
  bd : -(INF : Int) ≤ D ∧ D ≤ INF ∧ -(INF : Int) ≤ P ∧ P ≤ INF
  zero : k = 0 ∨ l = 0 → D = 0 ∧ P = 0
  infp : k = INF ∨ k = -(INF : Int) ∨ l = INF ∨ l = -(INF : Int) → (0 < k ∧ 0 < l) ∨ (k < 0 ∧ l < 0) → D = INF ∧ P = INF
  infn : k = INF ∨ k = -(INF : Int) ∨ l = INF ∨ l = -(INF : Int) → (0 < k ∧ l < 0) ∨ (k < 0 ∧ 0 < l) → D = -(INF : Int) ∧ P = -(INF : Int)
  num : -(INF : Int) < k → k < INF → -(INF : Int) < l → l < INF → Rk (Et (Vk k * Vk l)) D P
theorem U_posI : (0 : Int) < U := by have := U_pos; omega
theorem Rk_zero : Rk (Et 0) 0 0 := by
  have hI := INF_pos
  have hU := U_posI
  refine ⟨⟨by omega, by omega, fun j h1 h2 => ?_⟩, ⟨by omega, by omega, fun j h1 h2 => ?_⟩⟩
  · have h3 := @Vk_le j 0
    rw [Vk_zero] at h3
    rw [← h3]
    unfold Et
    constructor
    · intro h
      rcases Int.lt_or_le 0 (Vk j) with g | g
      · have := Int.mul_pos g hU; omega
      · exact g
    · intro h
      have := Int.mul_nonneg (show 0 ≤ -Vk j by omega) (Int.le_of_lt hU)
      rw [Int.neg_mul] at this
      omega
  · have h3 := @Vk_le 0 j
    rw [Vk_zero] at h3
    rw [← h3]
    unfold Et
    constructor
    · intro h
      rcases Int.lt_or_le (Vk j) 0 with g | g
      · have := Int.mul_pos (show 0 < -Vk j by omega) hU
        rw [Int.neg_mul] at this
        omega
      · exact g
    · intro h
      have := Int.mul_nonneg h (Int.le_of_lt hU)
      omega
theorem MulSpec.key {s t : Bool} {r q D P : Nat} (hr : r ≤ INF) (hq : q ≤ INF) (H : MulSpec s r t q D P) :
    ∃ d p, D = B d ∧ P = B p ∧ MulK (ixI s r) (ixI t q) d p := by
  have hI := INF_pos
  by_cases h0 : r = 0 ∨ q = 0
  · obtain ⟨rfl, rfl⟩ := H.zero hr hq h0
    refine ⟨0, 0, rfl, rfl, by omega, fun _ => ⟨rfl, rfl⟩, ?_, ?_, fun _ _ _ _ => ?_⟩
    · cases s <;> cases t <;> simp only [ix_true, ix_false] <;> intros <;> omega
    · cases s <;> cases t <;> simp only [ix_true, ix_false] <;> intros <;> omega
    · have e : Vk (ixI s r) * Vk (ixI t q) = 0 := by
        rw [Vk_ix, Vk_ix]
        rcases h0 with h | h
        · rw [h, V_zero, Int.zero_mul]
        · rw [h, V_zero, Int.mul_zero]
      rw [e]; exact Rk_zero
  by_cases h1 : r = INF ∨ q = INF
  · obtain ⟨rfl, rfl⟩ := H.inf (by omega) (by omega) hr hq h1
    cases s <;> cases t <;> simp only [ix_true, ix_false, Bool.xor_false, Bool.xor_true, Bool.not_false, Bool.not_true] <;>
      first
        | (refine ⟨INF, INF, B_inf.symm, B_inf.symm, ?_⟩; constructor <;> intros <;> first | omega | (exfalso; omega))
        | (refine ⟨-INF, -INF, B_ninf.symm, B_ninf.symm, ?_⟩; constructor <;> intros <;> first | omega | (exfalso; omega))
  obtain ⟨lo, hi, k2, rfl, rfl⟩ := H.num (by omega) (by omega) (by omega) (by omega)
  obtain ⟨o1, o2⟩ := lohi_ok (Et_anti _) (link_t s t r q) k2
  obtain ⟨d, e1, g1⟩ := o1.key (Et_anti _)
  obtain ⟨p, e2, g2⟩ := o2.key (Et_anti _)
  refine ⟨d, p, e1, e2, ?_⟩
  have b := (⟨g1, g2⟩ : Rk _ d p).bd
  refine ⟨b, ?_, ?_, ?_, fun _ _ _ _ => ?_⟩
  · cases s <;> cases t <;> simp only [ix_true, ix_false] <;> intros <;> omega
  · cases s <;> cases t <;> simp only [ix_true, ix_false] <;> intros <;> omega
  · cases s <;> cases t <;> simp only [ix_true, ix_false] <;> intros <;> omega
  · rw [Vk_ix, Vk_ix]; exact ⟨g1, g2⟩
theorem Vk_nonneg {l : Int} (h : 0 ≤ l) : 0 ≤ Vk l := by have := Vk_le.2 h; rwa [Vk_zero] at this
theorem Vk_pos {l : Int} (h : 0 < l) : 0 < Vk l := by have := Vk_lt.2 h; rwa [Vk_zero] at this
theorem MulK.mono {k l D P k' D' P' : Int} (h : MulK k l D P) (h' : MulK k' l D' P') (b1 : -(INF : Int) ≤ k) (b2 : k' ≤ INF) (b3 : 0 ≤ l) (b4 : l ≤ INF) (hk : k ≤ k') : D ≤ D' ∧ P ≤ P' := by
  have b := h.bd
  have b' := h'.bd
  have hI := INF_pos
  by_cases f : -(INF : Int) < k ∧ k' < INF ∧ l < INF
  · have r1 := h.num (by omega) (by omega) (by omega) (by omega)
    have r2 := h'.num (by omega) (by omega) (by omega) (by omega)
    have e1 := Int.mul_le_mul_of_nonneg_right (Vk_le.2 hk) (Vk_nonneg b3)
    exact ⟨r1.dn.mono r2.dn fun v => by unfold Et; omega, r1.up.mono r2.up fun v => by unfold Et; omega⟩
  · have o1 := h.zero
    have o2 := h.infp
    have o3 := h.infn
    have o4 := h'.zero
    have o5 := h'.infp
    have o6 := h'.infn
    clear h h'
    omega
theorem MulK.comm {k l D P : Int} (h : MulK k l D P) : MulK l k D P := by
  refine ⟨h.bd, fun g => h.zero (by omega), fun g g' => h.infp (by omega) (by omega), fun g g' => h.infn (by omega) (by omega), fun a b c d => ?_⟩
  rw [Int.mul_comm]; exact h.num c d a b
theorem MulK.neg {k l D P : Int} (h : MulK k l D P) : MulK (-k) l (-P) (-D) := by
  have b := h.bd
  refine ⟨by omega, fun g => ?_, fun g g' => ?_, fun g g' => ?_, fun a1 a2 a3 a4 => ?_⟩
  · have := h.zero (by omega); omega
  · have := h.infn (by omega) (by omega); omega
  · have := h.infp (by omega) (by omega); omega
  · have r := h.num (by omega) (by omega) a3 a4
    rw [Vk_neg, Int.neg_mul]
    refine ⟨r.up.neg fun v => ?_, r.dn.neg fun v => ?_⟩
    · unfold Et; rw [Int.neg_mul]; omega
    · unfold Et; rw [Int.neg_mul]; omega
theorem MulK.unique {k l D P D' P' : Int} (h : MulK k l D P) (h' : MulK k l D' P') (b1 : -(INF : Int) ≤ k) (b2 : k ≤ INF) (b3 : -(INF : Int) ≤ l) (b4 : l ≤ INF) : D = D' ∧ P = P' := by
  rcases Int.lt_or_le l 0 with hl | hl
  · have g := h.comm.neg.comm
    have g' := h'.comm.neg.comm
    have h1 := g.mono g' b1 b2 (by omega) (by omega) (Int.le_refl _)
    have h2 := g'.mono g b1 b2 (by omega) (by omega) (Int.le_refl _)
    omega
  · have h1 := h.mono h' b1 b2 hl b4 (Int.le_refl _)
    have h2 := h'.mono h b1 b2 hl b4 (Int.le_refl _)
    omega

-- quotients by what is not below 0
structure DivK (k l D P : Int) : Prop where
  bd : -(INF : Int) ≤ D ∧ D ≤ INF ∧ -(INF : Int) ≤ P ∧ P ≤ INF
  all : l = 0 ∨ ((k = INF ∨ k = -(INF : Int)) ∧ l = INF) → D = -(INF : Int) ∧ P = INF
  infr : -(INF : Int) < k → k < INF → l = INF → D = 0 ∧ P = 0
  infp : k = INF → 0 < l → l < INF → D = INF ∧ P = INF
  infn : k = -(INF : Int) → 0 < l → l < INF → D = -(INF : Int) ∧ P = -(INF : Int)
  num : -(INF : Int) < k → k < INF → 0 < l → l < INF → Rk (Eo false (Vk k * (U : Int)) (Vk l)) D P
theorem DivSpec.key {s t : Bool} {r q D P : Nat} (hr : r ≤ INF) (hq : q ≤ INF) (hl : 0 ≤ ixI t q) (H : DivSpec s r t q D P) :
    ∃ d p, D = B d ∧ P = B p ∧ DivK (ixI s r) (ixI t q) d p := by
  have hI := INF_pos
  by_cases h0 : q = 0 ∨ (r = INF ∧ q = INF)
  · obtain ⟨rfl, rfl⟩ := H.all (.inr (.inr h0))
    refine ⟨-INF, INF, B_ninf.symm, B_inf.symm, ?_⟩
    clear H
    cases s <;> cases t <;> simp only [ix_true, ix_false] at * <;> (constructor <;> intros <;> first | omega | (exfalso; omega))
  have ht : t = false := by
    cases t
    · rfl
    · simp only [ix_true] at hl; omega
  subst ht
  by_cases h1 : q = INF
  · obtain ⟨rfl, rfl⟩ := H.inf_r (by omega) h1
    refine ⟨0, 0, rfl, rfl, ?_⟩
    clear H
    cases s <;> simp only [ix_true, ix_false] at * <;> (constructor <;> intros <;> first | omega | (exfalso; omega))
  by_cases h2 : r = INF
  · obtain ⟨rfl, rfl⟩ := H.inf_l h2 (by omega) (by omega)
    clear H
    cases s
    · refine ⟨INF, INF, B_inf.symm, B_inf.symm, ?_⟩
      simp only [ix_false] at * ; (constructor <;> intros <;> first | omega | (exfalso; omega))
    · refine ⟨-INF, -INF, B_ninf.symm, B_ninf.symm, ?_⟩
      simp only [ix_true, ix_false] at * ; (constructor <;> intros <;> first | omega | (exfalso; omega))
  obtain ⟨lo, hi, k2, rfl, rfl⟩ := H.num (by omega) (by omega) (by omega)
  have hA := Eo_anti false (V s r * (U : Int)) q (by omega)
  obtain ⟨o1, o2⟩ := lohi_ok hA (link_o s false r q) k2
  obtain ⟨d, e1, g1⟩ := o1.key hA
  obtain ⟨p, e2, g2⟩ := o2.key hA
  refine ⟨d, p, e1, e2, ?_⟩
  have b := (⟨g1, g2⟩ : Rk _ d p).bd
  refine ⟨b, ?_, ?_, ?_, ?_, fun _ _ _ _ => ?_⟩
  · cases s <;> simp only [ix_true, ix_false] <;> intros <;> omega
  · cases s <;> simp only [ix_true, ix_false] <;> intros <;> omega
  · cases s <;> simp only [ix_true, ix_false] <;> intros <;> omega
  · cases s <;> simp only [ix_true, ix_false] <;> intros <;> omega
  · rw [Vk_ix, Vk_ix]; exact ⟨g1, g2⟩
/-- Quotients, by cross products. -/
theorem Div_cross {A B' K L K' L' v : Int} (hA : A = K * (U : Int) - v * L) (hB : B' = K' * (U : Int) - v * L') (hL : 0 < L) (hL' : 0 < L') (h : K * L' ≤ K' * L) : (0 ≤ A → 0 ≤ B') ∧ (B' ≤ 0 → A ≤ 0) := by
  have hU := U_posI
  have e1 : A * L' = K * L' * (U : Int) - v * L * L' := by rw [hA, Int.sub_mul, Int.mul_right_comm]
  have e2 : B' * L = K' * L * (U : Int) - v * L * L' := by rw [hB, Int.sub_mul, Int.mul_right_comm, Int.mul_right_comm v]
  have e3 := Int.mul_le_mul_of_nonneg_right h (Int.le_of_lt hU)
  have e4 : A * L' ≤ B' * L := by omega
  constructor
  · intro g
    have g1 := Int.mul_nonneg g (Int.le_of_lt hL')
    rcases Int.lt_or_le B' 0 with c | c
    · have := Int.mul_pos (show 0 < -B' by omega) hL
      rw [Int.neg_mul] at this; omega
    · exact c
  · intro g
    have g1 := Int.mul_nonneg (show 0 ≤ -B' by omega) (Int.le_of_lt hL)
    rw [Int.neg_mul] at g1
    rcases Int.lt_or_le 0 A with c | c
    · have := Int.mul_pos c hL'
      omega
    · exact c
theorem DivK.cross {k l D P k' l' D' P' : Int} (h : DivK k l D P) (h' : DivK k' l' D' P') (b1 : -(INF : Int) < k) (b2 : k < INF) (b3 : -(INF : Int) < k') (b4 : k' < INF) (c1 : 0 < l) (c2 : l < INF) (c3 : 0 < l') (c4 : l' < INF)
    (hx : Vk k * Vk l' ≤ Vk k' * Vk l) : D ≤ D' ∧ P ≤ P' := by
  have r1 := h.num b1 b2 c1 c2
  have r2 := h'.num b3 b4 c3 c4
  have hc := fun v => Div_cross (A := Eo false (Vk k * (U : Int)) (Vk l) v) (B' := Eo false (Vk k' * (U : Int)) (Vk l') v) (v := v) (by simp [Eo]) (by simp [Eo]) (Vk_pos c1) (Vk_pos c3) hx
  exact ⟨r1.dn.mono r2.dn fun v => (hc v).1, r1.up.mono r2.up fun v => (hc v).2⟩
theorem DivK.unique {k l D P D' P' : Int} (h : DivK k l D P) (h' : DivK k l D' P') (b1 : -(INF : Int) ≤ k) (b2 : k ≤ INF) (b3 : 0 ≤ l) (b4 : l ≤ INF) : D = D' ∧ P = P' := by
  by_cases f : -(INF : Int) < k ∧ k < INF ∧ 0 < l ∧ l < INF
  · have h1 := h.cross h' f.1 f.2.1 f.1 f.2.1 f.2.2.1 f.2.2.2 f.2.2.1 f.2.2.2 (Int.le_refl _)
    have h2 := h'.cross h f.1 f.2.1 f.1 f.2.1 f.2.2.1 f.2.2.2 f.2.2.1 f.2.2.2 (Int.le_refl _)
    omega
  · by_cases c1 : l = 0 ∨ ((k = INF ∨ k = -(INF : Int)) ∧ l = INF)
    · have o1 := h.all c1
      have o2 := h'.all c1
      omega
    by_cases c2 : l = INF
    · have o1 := h.infr (by omega) (by omega) c2
      have o2 := h'.infr (by omega) (by omega) c2
      omega
    by_cases c3 : k = INF
    · have o1 := h.infp c3 (by omega) (by omega)
      have o2 := h'.infp c3 (by omega) (by omega)
      omega
    have o1 := h.infn (by omega) (by omega) (by omega)
    have o2 := h'.infn (by omega) (by omega) (by omega)
    omega
theorem DivK.neg {k l D P : Int} (h : DivK k l D P) : DivK (-k) l (-P) (-D) := by
  have b := h.bd
  refine ⟨by omega, fun g => ?_, fun g1 g2 g3 => ?_, fun g1 g2 g3 => ?_, fun g1 g2 g3 => ?_, fun a1 a2 a3 a4 => ?_⟩
  · have := h.all (by omega); omega
  · have := h.infr (by omega) (by omega) g3; omega
  · have := h.infn (by omega) g2 g3; omega
  · have := h.infp (by omega) g2 g3; omega
  · have r := h.num (by omega) (by omega) a3 a4
    rw [Vk_neg, Int.neg_mul]
    refine ⟨r.up.neg fun v => ?_, r.dn.neg fun v => ?_⟩
    · simp only [Eo, Bool.false_eq_true, if_false, Int.neg_mul]; omega
    · simp only [Eo, Bool.false_eq_true, if_false, Int.neg_mul]; omega

-- roots of what is not below 0
structure SqrtK (k D P : Int) : Prop where
  bd : -(INF : Int) ≤ D ∧ D ≤ INF ∧ -(INF : Int) ≤ P ∧ P ≤ INF
  inf : k = INF → D = INF ∧ P = INF
  num : 0 ≤ k → k < INF → Rk (Er (Vk k * (U : Int))) D P
theorem SqrtSpec.key {s : Bool} {r D P : Nat} (hr : r ≤ INF) (hk : 0 ≤ ixI s r) (H : SqrtSpec s r D P) :
    ∃ d p, D = B d ∧ P = B p ∧ SqrtK (ixI s r) d p := by
  have hI := INF_pos
  by_cases h0 : r = 0
  · obtain ⟨rfl, rfl⟩ := H.zero h0
    subst h0
    have ez : ixI s 0 = 0 := by cases s <;> rfl
    refine ⟨0, 0, rfl, rfl, by omega, by omega, fun _ _ => ?_⟩
    rw [ez, Vk_zero, Int.zero_mul]
    have hE0 : Er 0 (Vk 0) = 0 := by unfold Er; rw [Vk_zero]; simp
    have hA := Er_anti 0
    refine ⟨⟨by omega, by omega, fun j h1 h2 => ⟨fun h => ?_, fun h => hA.le (Vk_le.2 h) (by omega)⟩⟩, ⟨by omega, by omega, fun j h1 h2 => ⟨fun h => ?_, fun h => hA.le' (Vk_le.2 h) (by omega)⟩⟩⟩
    · rcases Int.lt_or_le 0 j with g | g
      · have := hA.neg (Vk_lt.2 g) (by omega); omega
      · exact g
    · rcases Int.lt_or_le j 0 with g | g
      · have := hA _ _ (Vk_lt.2 g) (by omega); omega
      · exact g
  have hs : s = false := by
    cases s
    · rfl
    · simp only [ix_true] at hk; omega
  subst hs
  by_cases h1 : r = INF
  · obtain ⟨rfl, rfl⟩ := H.inf rfl h1
    refine ⟨INF, INF, B_inf.symm, B_inf.symm, ?_⟩
    clear H
    simp only [ix_false] at *
    constructor <;> intros <;> first | omega | (exfalso; omega)
  obtain ⟨lo, hi, k2, hD, hP⟩ := H.num rfl (by omega) (by omega)
  obtain ⟨o1, o2⟩ := lohi_ok (Er_anti _) (link_r r) k2
  have eD : dnW false lo hi = D := hD.symm
  have eP : upW false lo hi = P := hP.symm
  rw [eD] at o1
  rw [eP] at o2
  obtain ⟨d, e1, g1⟩ := o1.key (Er_anti _)
  obtain ⟨p, e2, g2⟩ := o2.key (Er_anti _)
  have b := (⟨g1, g2⟩ : Rk _ d p).bd
  refine ⟨d, p, e1, e2, b, by simp only [ix_false]; intros; omega, fun _ _ => ?_⟩
  rw [Vk_ix]; exact ⟨g1, g2⟩
theorem SqrtK.mono {k D P k' D' P' : Int} (h : SqrtK k D P) (h' : SqrtK k' D' P') (b1 : 0 ≤ k) (b2 : k' ≤ INF) (hk : k ≤ k') : D ≤ D' ∧ P ≤ P' := by
  have b := h.bd
  have b' := h'.bd
  by_cases f : k' < INF
  · have r1 := h.num b1 (by omega)
    have r2 := h'.num (by omega) f
    have e1 := Int.mul_le_mul_of_nonneg_right (Vk_le.2 hk) (Int.le_of_lt U_posI)
    refine ⟨r1.dn.mono r2.dn fun v => ?_, r1.up.mono r2.up fun v => ?_⟩
    · unfold Er; split <;> omega
    · unfold Er; split <;> omega
  · have := h'.inf (by omega); omega
theorem SqrtK.unique {k D P D' P' : Int} (h : SqrtK k D P) (h' : SqrtK k D' P') (b1 : 0 ≤ k) (b2 : k ≤ INF) : D = D' ∧ P = P' := by
  have h1 := h.mono h' b1 b2 (Int.le_refl _)
  have h2 := h'.mono h b1 b2 (Int.le_refl _)
  omega
end Go.Proofs.YtacnclofbnafiabGreatDoor

namespace Go.Proofs.YtacnclofbnafiabGreatDoor
open Go.RowKit Fl

/-- A place of a float. -/
def Pl (k : Int) : Prop := -(INF : Int) ≤ k ∧ k ≤ INF
theorem Key.pl {x : Nat} {k : Int} (h : Key x k) : Pl k := h.bd
theorem Key.at {k : Int} (h : Pl k) : Key (B k) k := Key.of_B h.1 h.2

-- DOWN and UP are there
theorem int_max {p : Int → Prop} {lo hi : Int} : ∀ (n : Nat) (j : Int), (hi - j).toNat ≤ n → lo < j → j < hi → p j → ∃ m, lo < m ∧ m < hi ∧ p m ∧ ∀ i, lo < i → i < hi → p i → i ≤ m := by
  intro n
  induction n with
  | zero => intro j h1 _ h3; omega
  | succ n ih =>
    intro j h1 h2 h3 h4
    by_cases c : ∃ i, j < i ∧ i < hi ∧ p i
    · obtain ⟨i, c1, c2, c3⟩ := c
      exact ih i (by omega) (by omega) c2 c3
    · refine ⟨j, h2, h3, h4, fun i i1 i2 i3 => ?_⟩
      rcases Int.lt_or_le j i with g | g
      · exact absurd ⟨i, g, i2, i3⟩ c
      · exact g
theorem DnK.ex {E : Int → Int} (hE : AntiI E) : ∃ D, DnK E D := by
  have hI := INF_pos
  by_cases c : ∃ j, -(INF : Int) < j ∧ j < INF ∧ 0 ≤ E (Vk j)
  · obtain ⟨j, c1, c2, c3⟩ := c
    obtain ⟨m, m1, m2, m3, m4⟩ := int_max (p := fun j => 0 ≤ E (Vk j)) _ j (Nat.le_refl _) c1 c2 c3
    refine ⟨m, by omega, m2, fun i i1 i2 => ⟨fun h => m4 i i1 i2 h, fun h => hE.le (Vk_le.2 h) m3⟩⟩
  · exact ⟨-INF, Int.le_refl _, by omega, fun i i1 i2 => ⟨fun h => absurd ⟨i, i1, i2, h⟩ c, fun h => by omega⟩⟩
theorem UpK.ex {E : Int → Int} (hE : AntiI E) : ∃ P, UpK E P := by
  have hI := INF_pos
  by_cases c : ∃ j, -(INF : Int) < j ∧ j < INF ∧ E (Vk j) ≤ 0
  · obtain ⟨j, c1, c2, c3⟩ := c
    obtain ⟨m, m1, m2, m3, m4⟩ := int_max (p := fun j => E (Vk (-j)) ≤ 0) (lo := -(INF : Int)) (hi := INF) _ (-j) (Nat.le_refl _) (by omega) (by omega) (by rw [Int.neg_neg]; exact c3)
    refine ⟨-m, by omega, by omega, fun i i1 i2 => ⟨fun h => ?_, fun h => hE.le' (Vk_le.2 h) m3⟩⟩
    have := m4 (-i) (by omega) (by omega) (by rw [Int.neg_neg]; exact h)
    omega
  · exact ⟨INF, by omega, Int.le_refl _, fun i i1 i2 => ⟨fun h => absurd ⟨i, i1, i2, h⟩ c, fun h => by omega⟩⟩
theorem Rk.ex {E : Int → Int} (hE : AntiI E) : ∃ D P, Rk E D P := by
  obtain ⟨D, d⟩ := DnK.ex hE
  obtain ⟨P, p⟩ := UpK.ex hE
  exact ⟨D, P, d, p⟩
theorem AddK.has {k l : Int} (_ : Pl k) (hl : Pl l) : ∃ D P, AddK k l D P := by
  have hI := INF_pos
  unfold Pl at hl
  by_cases c1 : (k = INF ∧ l = -(INF : Int)) ∨ (k = -(INF : Int) ∧ l = INF)
  · exact ⟨-INF, INF, by omega, fun _ => by omega, fun _ => by omega, fun _ => by omega, fun _ _ _ _ => by omega⟩
  · by_cases c2 : k = INF ∨ l = INF
    · exact ⟨INF, INF, by omega, fun _ => by omega, fun _ => by omega, fun _ => by omega, fun _ _ _ _ => by omega⟩
    · by_cases c3 : k = -(INF : Int) ∨ l = -(INF : Int)
      · exact ⟨-INF, -INF, by omega, fun _ => by omega, fun _ => by omega, fun _ => by omega, fun _ _ _ _ => by omega⟩
      · obtain ⟨D, P, h⟩ := Rk.ex (Ep_anti (Vk k + Vk l))
        exact ⟨D, P, h.bd, fun _ => by omega, fun _ => by omega, fun _ => by omega, fun _ _ _ _ => h⟩
theorem MulK.has {k l : Int} (hk : Pl k) (hl : Pl l) : ∃ D P, MulK k l D P := by
  have hI := INF_pos
  unfold Pl at hk hl
  by_cases c0 : k = 0 ∨ l = 0
  · refine ⟨0, 0, by omega, fun _ => ⟨rfl, rfl⟩, fun _ _ => by omega, fun _ _ => by omega, fun _ _ _ _ => ?_⟩
    have e : Vk k * Vk l = 0 := by
      rcases c0 with c | c
      · rw [c, Vk_zero, Int.zero_mul]
      · rw [c, Vk_zero, Int.mul_zero]
    rw [e]
    exact Rk_zero
  · by_cases c1 : k = INF ∨ k = -(INF : Int) ∨ l = INF ∨ l = -(INF : Int)
    · by_cases c2 : (0 < k ∧ 0 < l) ∨ (k < 0 ∧ l < 0)
      · exact ⟨INF, INF, by omega, fun _ => by omega, fun _ _ => by omega, fun _ _ => by omega, fun _ _ _ _ => by omega⟩
      · exact ⟨-INF, -INF, by omega, fun _ => by omega, fun _ _ => by omega, fun _ _ => by omega, fun _ _ _ _ => by omega⟩
    · obtain ⟨D, P, h⟩ := Rk.ex (Et_anti (Vk k * Vk l))
      exact ⟨D, P, h.bd, fun _ => by omega, fun _ _ => by omega, fun _ _ => by omega, fun _ _ _ _ => h⟩
theorem DivK.has {k l : Int} (hk : Pl k) (hl : Pl l) (h0 : 0 ≤ l) : ∃ D P, DivK k l D P := by
  have hI := INF_pos
  unfold Pl at hk hl
  by_cases c0 : l = 0 ∨ ((k = INF ∨ k = -(INF : Int)) ∧ l = INF)
  · exact ⟨-INF, INF, by omega, fun _ => by omega, fun _ _ _ => by omega, fun _ _ _ => by omega, fun _ _ _ => by omega, fun _ _ _ _ => by omega⟩
  · by_cases c1 : l = INF
    · exact ⟨0, 0, by omega, fun _ => by omega, fun _ _ _ => by omega, fun _ _ _ => by omega, fun _ _ _ => by omega, fun _ _ _ _ => by omega⟩
    · by_cases c2 : k = INF
      · exact ⟨INF, INF, by omega, fun _ => by omega, fun _ _ _ => by omega, fun _ _ _ => by omega, fun _ _ _ => by omega, fun _ _ _ _ => by omega⟩
      · by_cases c3 : k = -(INF : Int)
        · exact ⟨-INF, -INF, by omega, fun _ => by omega, fun _ _ _ => by omega, fun _ _ _ => by omega, fun _ _ _ => by omega, fun _ _ _ _ => by omega⟩
        · have an : AntiI (Eo false (Vk k * (U : Int)) (Vk l)) := by
            intro a b hab h
            unfold Eo at *
            simp only [Bool.false_eq_true, if_false] at *
            have := Int.mul_lt_mul_of_pos_right hab (Vk_pos (show 0 < l by omega))
            omega
          obtain ⟨D, P, h⟩ := Rk.ex an
          exact ⟨D, P, h.bd, fun _ => by omega, fun _ _ _ => by omega, fun _ _ _ => by omega, fun _ _ _ => by omega, fun _ _ _ _ => h⟩
theorem SqrtK.has {k : Int} (_ : Pl k) (_ : 0 ≤ k) : ∃ D P, SqrtK k D P := by
  have hI := INF_pos
  by_cases c : k = INF
  · exact ⟨INF, INF, by omega, fun _ => by omega, fun _ _ => by omega⟩
  · obtain ⟨D, P, h⟩ := Rk.ex (Er_anti (Vk k * (U : Int)))
    exact ⟨D, P, h.bd, fun _ => by omega, fun _ _ => h⟩
/-- DOWN and UP as functions of places. -/
structure Ops where
  aD : Int → Int → Int
  aU : Int → Int → Int
  mD : Int → Int → Int
  mU : Int → Int → Int
  dD : Int → Int → Int
  dU : Int → Int → Int
  sD : Int → Int
  sU : Int → Int
  add : ∀ {k l}, Pl k → Pl l → AddK k l (aD k l) (aU k l)
  mul : ∀ {k l}, Pl k → Pl l → MulK k l (mD k l) (mU k l)
  div : ∀ {k l}, Pl k → Pl l → 0 ≤ l → DivK k l (dD k l) (dU k l)
  sqrt : ∀ {k}, Pl k → 0 ≤ k → SqrtK k (sD k) (sU k)
theorem pick2 {R : Int → Int → Int → Int → Prop} {Q : Int → Int → Prop} (h : ∀ k l, Q k l → ∃ D P, R k l D P) : ∃ f g : Int → Int → Int, ∀ k l, Q k l → R k l (f k l) (g k l) := by
  classical
  have h1 : ∀ k l, ∃ d : Int × Int, Q k l → R k l d.1 d.2 := by
    intro k l
    by_cases hq : Q k l
    · obtain ⟨D, P, hr⟩ := h k l hq
      exact ⟨(D, P), fun _ => hr⟩
    · exact ⟨(0, 0), fun g => absurd g hq⟩
  exact ⟨fun k l => (Classical.choose (h1 k l)).1, fun k l => (Classical.choose (h1 k l)).2, fun k l => Classical.choose_spec (h1 k l)⟩
theorem ops : Nonempty Ops := by
  obtain ⟨a, a', ha⟩ := pick2 (R := AddK) (Q := fun k l => Pl k ∧ Pl l) fun k l h => AddK.has h.1 h.2
  obtain ⟨m, m', hm⟩ := pick2 (R := MulK) (Q := fun k l => Pl k ∧ Pl l) fun k l h => MulK.has h.1 h.2
  obtain ⟨d, d', hd⟩ := pick2 (R := DivK) (Q := fun k l => Pl k ∧ Pl l ∧ 0 ≤ l) fun k l h => DivK.has h.1 h.2.1 h.2.2
  obtain ⟨s, s', hs⟩ := pick2 (R := fun k _ => SqrtK k) (Q := fun k _ => Pl k ∧ 0 ≤ k) fun k _ h => SqrtK.has h.1 h.2
  exact ⟨⟨a, a', m, m', d, d', fun k => s k 0, fun k => s' k 0, fun h g => ha _ _ ⟨h, g⟩, fun h g => hm _ _ ⟨h, g⟩, fun h g p => hd _ _ ⟨h, g, p⟩, fun h p => hs _ _ ⟨h, p⟩⟩⟩

theorem AddK.ex {x y : Nat} {k l : Int} (hx : Key x k) (hy : Key y l) : ∃ D P, AddK k l D P ∧ (∀ w, Calls Tryz.prog 147 #[.float .f64 x, .float .f64 y] w fun e w' => e = .returned (.tuple #[.float .f64 (B D), .float .f64 (B P)]) ∧ Below w.heap.size w w') := by
  obtain ⟨s, r, rfl, hr, rfl⟩ := hx
  obtain ⟨t, q, rfl, hq, rfl⟩ := hy
  obtain ⟨D, P, h1, h2⟩ := Add_any s t r q (fin_lt hr) (fin_lt hq)
  obtain ⟨d, p, rfl, rfl, h3⟩ := h1.key hr hq
  exact ⟨d, p, h3, h2⟩
theorem MulK.ex {x y : Nat} {k l : Int} (hx : Key x k) (hy : Key y l) : ∃ D P, MulK k l D P ∧ (∀ w, Calls Tryz.prog 163 #[.float .f64 x, .float .f64 y] w fun e w' => e = .returned (.tuple #[.float .f64 (B D), .float .f64 (B P)]) ∧ Below w.heap.size w w') := by
  obtain ⟨s, r, rfl, hr, rfl⟩ := hx
  obtain ⟨t, q, rfl, hq, rfl⟩ := hy
  obtain ⟨D, P, h1, h2⟩ := Mul_any s t r q (fin_lt hr) (fin_lt hq)
  obtain ⟨d, p, rfl, rfl, h3⟩ := h1.key hr hq
  exact ⟨d, p, h3, h2⟩
theorem SqrtK.ex {x : Nat} {k : Int} (hx : Key x k) (hk : 0 ≤ k) : ∃ D P, SqrtK k D P ∧ (∀ w, Calls Tryz.prog 172 #[.float .f64 x] w fun e w' => e = .returned (.tuple #[.float .f64 (B D), .float .f64 (B P)]) ∧ Below w.heap.size w w') := by
  obtain ⟨s, r, rfl, hr, rfl⟩ := hx
  obtain ⟨D, P, h1, h2⟩ := Sqrt_all s r (fin_lt hr)
  obtain ⟨d, p, rfl, rfl, h3⟩ := h1.key hr hk
  exact ⟨d, p, h3, h2⟩
theorem Ops.add_p (F : Ops) {x y : Nat} {k l : Int} (hx : Key x k) (hy : Key y l) (w : World) :
    Calls Tryz.prog 147 #[.float .f64 x, .float .f64 y] w fun e w' => e = .returned (.tuple #[.float .f64 (B (F.aD k l)), .float .f64 (B (F.aU k l))]) ∧ Below w.heap.size w w' := by
  obtain ⟨D, P, h1, h2⟩ := AddK.ex hx hy
  obtain ⟨rfl, rfl⟩ := h1.unique (F.add hx.pl hy.pl) hx.bd.1 hx.bd.2 hy.bd.1 hy.bd.2
  exact h2 w
theorem Ops.mul_p (F : Ops) {x y : Nat} {k l : Int} (hx : Key x k) (hy : Key y l) (w : World) :
    Calls Tryz.prog 163 #[.float .f64 x, .float .f64 y] w fun e w' => e = .returned (.tuple #[.float .f64 (B (F.mD k l)), .float .f64 (B (F.mU k l))]) ∧ Below w.heap.size w w' := by
  obtain ⟨D, P, h1, h2⟩ := MulK.ex hx hy
  obtain ⟨rfl, rfl⟩ := h1.unique (F.mul hx.pl hy.pl) hx.bd.1 hx.bd.2 hy.bd.1 hy.bd.2
  exact h2 w
theorem Ops.sqrt_p (F : Ops) {x : Nat} {k : Int} (hx : Key x k) (hk : 0 ≤ k) (w : World) :
    Calls Tryz.prog 172 #[.float .f64 x] w fun e w' => e = .returned (.tuple #[.float .f64 (B (F.sD k)), .float .f64 (B (F.sU k))]) ∧ Below w.heap.size w w' := by
  obtain ⟨D, P, h1, h2⟩ := SqrtK.ex hx hk
  obtain ⟨rfl, rfl⟩ := h1.unique (F.sqrt hx.pl hk) hk hx.bd.2
  exact h2 w
end Go.Proofs.YtacnclofbnafiabGreatDoor

namespace Go.Proofs.YtacnclofbnafiabGreatDoor
open Go.RowKit Fl

/-- The interval of the words X and Y has numbers: from place k to place l. -/
structure Iv (X Y : Nat) (k l : Int) : Prop where
  x : Key X k
  y : Key Y l
  le : k ≤ l
  lo : k < INF
  hi : -(INF : Int) < l
def NoIv (X Y : Nat) : Prop := ∀ k l, ¬ Iv X Y k l
theorem Iv.or (X Y : Nat) : (∃ k l, Iv X Y k l) ∨ NoIv X Y := by
  by_cases h : ∃ k l, Iv X Y k l
  · exact .inl h
  · exact .inr fun k l g => h ⟨k, l, g⟩
theorem NoIv.cases {X Y : Nat} (h : NoIv X Y) (hX : X < 18446744073709551616) (hY : Y < 18446744073709551616) :
    NaNw X ∨ (∃ k, Key X k ∧ NaNw Y) ∨ ∃ k l, Key X k ∧ Key Y l ∧ (l < k ∨ (k ≤ l ∧ k = INF) ∨ (k ≤ l ∧ k < INF ∧ l = -(INF : Int))) := by
  rcases word_cases X hX with ⟨k, hk⟩ | hk
  · rcases word_cases Y hY with ⟨l, hl⟩ | hl
    · right; right
      refine ⟨k, l, hk, hl, ?_⟩
      have h1 := hk.bd
      have h2 := hl.bd
      rcases Int.lt_or_le l k with g | g
      · exact .inl g
      · rcases Int.lt_or_le k INF with g1 | g1
        · rcases Int.lt_or_le (-(INF : Int)) l with g2 | g2
          · exact absurd ⟨hk, hl, g, g1, g2⟩ (h k l)
          · exact .inr (.inr ⟨g, g1, by omega⟩)
        · exact .inr (.inl ⟨g, by omega⟩)
    · exact .inr (.inl ⟨k, hk, hl⟩)
  · exact .inl hk
theorem Iv.at {k l : Int} (h : k ≤ l) (h1 : k < INF) (h2 : -(INF : Int) < l) (hk : -(INF : Int) ≤ k) (hl : l ≤ INF) : Iv (B k) (B l) k l :=
  ⟨Key.of_B hk (by omega), Key.of_B (by omega) hl, h, h1, h2⟩
theorem Iv.unique {X Y : Nat} {k l k' l' : Int} (h : Iv X Y k l) (h' : Iv X Y k' l') : k = k' ∧ l = l' := ⟨h.x.unique h'.x, h.y.unique h'.y⟩

theorem isInfP {x : Nat} {k : Int} (hx : Key x k) (w : World) :
    Calls Tryz.prog 60 #[.float .f64 x, .int .i64 1] w fun e w' => e = .returned (.bool (decide (k = INF))) ∧ w' = w := by
  have h1 : (Ieee.double.order x 9218868437227405311 == some .gt) = decide (k = INF) := by
    rw [hx.order Key.max]
    have := hx.bd
    by_cases c : k = INF
    · rw [Int.compare_eq_gt.2 (by omega)]; simp [c]
    · have : compare k (INF - 1) ≠ .gt := by rw [Ne, Int.compare_eq_gt]; omega
      simp [c, this]
  go_enter Tryz.func60, Tryz.ntmps60
  go_wp2
  go_ret
  exact ⟨rfl, rfl⟩
theorem isInfN {x : Nat} {k : Int} (hx : Key x k) (w : World) :
    Calls Tryz.prog 60 #[.float .f64 x, .int .i64 (-1)] w fun e w' => e = .returned (.bool (decide (k = -(INF : Int)))) ∧ w' = w := by
  obtain ⟨x', hn, hx'⟩ := hx.neg
  have h1 : (Ieee.double.order x' 9218868437227405311 == some .gt) = decide (k = -(INF : Int)) := by
    rw [hx'.order Key.max]
    have := hx.bd
    by_cases c : k = -(INF : Int)
    · rw [Int.compare_eq_gt.2 (by omega)]; simp [c]
    · have : compare (-k) (INF - 1) ≠ .gt := by rw [Ne, Int.compare_eq_gt]; omega
      simp [c, this]
  go_enter Tryz.func60, Tryz.ntmps60
  go_wp2
  go_ret
  exact ⟨rfl, rfl⟩

-- None
theorem none_no {X Y : Nat} {k l : Int} (h : Iv X Y k l) (w : World) :
    Calls Tryz.prog 121 #[.agg #[.float .f64 X, .float .f64 Y]] w fun e w' => e = .returned (.bool false) ∧ Below w.heap.size w w' := by
  have i1 := isInfP h.x
  have i2 := isInfN h.y
  have e1 := h.lo
  have e2 := h.hi
  rw [decide_eq_false (by omega)] at i1 i2
  rcases Int.lt_or_eq_of_le h.le with g | g
  · have o := h.x.olt h.y g
    clear h e1 e2 g
    go_enter Tryz.func121, Tryz.ntmps121
    go_wp2_with (first
      | (go_at_call 60; with_reducible refine (i1 _).mono ?_; rintro e w' ⟨rfl, rfl⟩)
      | (go_at_call 60; with_reducible refine (i2 _).mono ?_; rintro e w' ⟨rfl, rfl⟩))
    go_ret
    exact ⟨rfl, (Below.refl _ _).alloc (Nat.le_refl _) _⟩
  · have o := h.x.oeq h.y g
    clear h e1 e2 g
    go_enter Tryz.func121, Tryz.ntmps121
    go_wp2_with (first
      | (go_at_call 60; with_reducible refine (i1 _).mono ?_; rintro e w' ⟨rfl, rfl⟩)
      | (go_at_call 60; with_reducible refine (i2 _).mono ?_; rintro e w' ⟨rfl, rfl⟩))
    go_ret
    exact ⟨rfl, (Below.refl _ _).alloc (Nat.le_refl _) _⟩
theorem none_far {X Y : Nat} (h : Ieee.double.order X Y = none ∨ Ieee.double.order X Y = some .gt) (w : World) :
    Calls Tryz.prog 121 #[.agg #[.float .f64 X, .float .f64 Y]] w fun e w' => e = .returned (.bool true) ∧ Below w.heap.size w w' := by
  rcases h with h | h
  all_goals
    go_enter Tryz.func121, Tryz.ntmps121
    go_wp2
    go_ret
    exact ⟨rfl, (Below.refl _ _).alloc (Nat.le_refl _) _⟩
theorem none_inf {X Y : Nat} {o : Ordering} (h : Ieee.double.order X Y = some o) (ho : o = .lt ∨ o = .eq)
    (i1 : ∀ w, Calls Tryz.prog 60 #[.float .f64 X, .int .i64 1] w fun e w' => e = .returned (.bool true) ∧ w' = w) (w : World) :
    Calls Tryz.prog 121 #[.agg #[.float .f64 X, .float .f64 Y]] w fun e w' => e = .returned (.bool true) ∧ Below w.heap.size w w' := by
  rcases ho with rfl | rfl
  all_goals
    go_enter Tryz.func121, Tryz.ntmps121
    go_wp2_with (go_at_call 60; refine (i1 _).mono ?_; rintro e w' ⟨rfl, rfl⟩)
    go_ret
    exact ⟨rfl, (Below.refl _ _).alloc (Nat.le_refl _) _⟩
theorem none_ninf {X Y : Nat} {o : Ordering} (h : Ieee.double.order X Y = some o) (ho : o = .lt ∨ o = .eq)
    (i1 : ∀ w, Calls Tryz.prog 60 #[.float .f64 X, .int .i64 1] w fun e w' => e = .returned (.bool false) ∧ w' = w)
    (i2 : ∀ w, Calls Tryz.prog 60 #[.float .f64 Y, .int .i64 (-1)] w fun e w' => e = .returned (.bool true) ∧ w' = w) (w : World) :
    Calls Tryz.prog 121 #[.agg #[.float .f64 X, .float .f64 Y]] w fun e w' => e = .returned (.bool true) ∧ Below w.heap.size w w' := by
  rcases ho with rfl | rfl
  all_goals
    go_enter Tryz.func121, Tryz.ntmps121
    go_wp2_with (first
      | (go_at_call 60; with_reducible refine (i1 _).mono ?_; rintro e w' ⟨rfl, rfl⟩)
      | (go_at_call 60; with_reducible refine (i2 _).mono ?_; rintro e w' ⟨rfl, rfl⟩))
    go_ret
    exact ⟨rfl, (Below.refl _ _).alloc (Nat.le_refl _) _⟩
theorem cmp_le {k l : Int} (h : k ≤ l) : compare k l = .lt ∨ compare k l = .eq := by
  rcases Int.lt_or_eq_of_le h with g | g
  · exact .inl (Int.compare_eq_lt.2 g)
  · exact .inr (by rw [g]; simp)
theorem none_yes {X Y : Nat} (h : NoIv X Y) (hX : X < 18446744073709551616) (hY : Y < 18446744073709551616) (w : World) :
    Calls Tryz.prog 121 #[.agg #[.float .f64 X, .float .f64 Y]] w fun e w' => e = .returned (.bool true) ∧ Below w.heap.size w w' := by
  rcases h.cases hX hY with g | ⟨k, g1, g⟩ | ⟨k, l, g1, g2, g | ⟨g, g3⟩ | ⟨g, g3, g4⟩⟩
  · exact none_far (.inl (g.l _)) w
  · exact none_far (.inl (g.r _)) w
  · exact none_far (.inr (g1.ogt g2 g)) w
  · have i1 := isInfP g1
    rw [decide_eq_true g3] at i1
    exact none_inf (g1.order g2) (cmp_le g) i1 w
  · have i1 := isInfP g1
    have i2 := isInfN g2
    rw [decide_eq_false (by omega)] at i1
    rw [decide_eq_true g4] at i2
    exact none_ninf (g1.order g2) (cmp_le g) i1 i2 w

theorem max_key {x y : Nat} {k l : Int} (hx : Key x k) (hy : Key y l) : ∃ m, Key m (max k l) ∧ (x = B k → y = B l → m = B (max k l)) ∧ ∀ ts t w, (Builtin.max_ ts t #[.float .f64 x, .float .f64 y]).run Tryz.prog w = .ok (.float .f64 m) w := by
  have ho := hx.order hy
  have h' : FloatKind.f64.format.order x y = some (compare k l) := ho
  rcases Int.lt_trichotomy k l with g | g | g
  · have e : max k l = l := by omega
    rw [Int.compare_eq_lt.2 g] at h'
    exact ⟨y, by rw [e]; exact hy, fun _ h => by rw [e]; exact h, fun ts t w => by simp [Builtin.max_, Builtin.max2, h']⟩
  · have e : max k l = k := by omega
    rw [g] at h'
    have h2 : compare l l = .eq := by simp
    rw [h2] at h'
    refine ⟨if (FloatKind.f64.decode x).neg then y else x, ?_, fun h1 h3 => ?_, fun ts t w => by simp [Builtin.max_, Builtin.max2, h']⟩
    · rw [e]; split
      · rw [g]; exact hy
      · exact hx
    · rw [e]; split
      · rw [h3, g]
      · exact h1
  · have e : max k l = k := by omega
    rw [Int.compare_eq_gt.2 g] at h'
    exact ⟨x, by rw [e]; exact hx, fun h _ => by rw [e]; exact h, fun ts t w => by simp [Builtin.max_, Builtin.max2, h']⟩
theorem min_key {x y : Nat} {k l : Int} (hx : Key x k) (hy : Key y l) : ∃ m, Key m (min k l) ∧ (x = B k → y = B l → m = B (min k l)) ∧ ∀ ts t w, (Builtin.min_ ts t #[.float .f64 x, .float .f64 y]).run Tryz.prog w = .ok (.float .f64 m) w := by
  have ho := hx.order hy
  have h' : FloatKind.f64.format.order x y = some (compare k l) := ho
  rcases Int.lt_trichotomy k l with g | g | g
  · have e : min k l = k := by omega
    rw [Int.compare_eq_lt.2 g] at h'
    exact ⟨x, by rw [e]; exact hx, fun h _ => by rw [e]; exact h, fun ts t w => by simp [Builtin.min_, Builtin.min2, h']⟩
  · have e : min k l = k := by omega
    rw [g] at h'
    have h2 : compare l l = .eq := by simp
    rw [h2] at h'
    refine ⟨if (FloatKind.f64.decode x).neg then x else y, ?_, fun h1 h3 => ?_, fun ts t w => by simp [Builtin.min_, Builtin.min2, h']⟩
    · rw [e]; split
      · exact hx
      · rw [g]; exact hy
    · rw [e]; split
      · exact h1
      · rw [h3, g]
  · have e : min k l = l := by omega
    rw [Int.compare_eq_gt.2 g] at h'
    exact ⟨y, by rw [e]; exact hy, fun _ h => by rw [e]; exact h, fun ts t w => by simp [Builtin.min_, Builtin.min2, h']⟩
theorem max_B {k l : Int} (hk : Pl k) (hl : Pl l) (ts : Array TypeId) (t : TypeId) (w : World) : (Builtin.max_ ts t #[.float .f64 (B k), .float .f64 (B l)]).run Tryz.prog w = .ok (.float .f64 (B (max k l))) w := by
  obtain ⟨m, _, h1, h2⟩ := max_key (Key.at hk) (Key.at hl)
  rw [h2, h1 rfl rfl]
theorem min_B {k l : Int} (hk : Pl k) (hl : Pl l) (ts : Array TypeId) (t : TypeId) (w : World) : (Builtin.min_ ts t #[.float .f64 (B k), .float .f64 (B l)]).run Tryz.prog w = .ok (.float .f64 (B (min k l))) w := by
  obtain ⟨m, _, h1, h2⟩ := min_key (Key.at hk) (Key.at hl)
  rw [h2, h1 rfl rfl]
theorem plain_key {x : Nat} {k : Int} (hx : Key x k) (w : World) :
    Calls Tryz.prog 136 #[.float .f64 x] w fun e w' => e = .returned (.float .f64 (B k)) ∧ w' = w := by
  obtain ⟨s, r, rfl, hr, rfl⟩ := hx
  rw [B_ix]
  exact plain_any s r (fin_lt hr) w
theorem infp (w : World) : Calls Tryz.prog 141 #[.int .i64 1] w fun e w' => e = .returned (.float .f64 (B INF)) ∧ w' = w := by
  rw [B_inf]; exact inf_pos w
theorem infn (w : World) : Calls Tryz.prog 141 #[.int .i64 (-1)] w fun e w' => e = .returned (.float .f64 (B (-INF))) ∧ w' = w := by
  rw [B_ninf]; exact inf_neg w
end Go.Proofs.YtacnclofbnafiabGreatDoor
