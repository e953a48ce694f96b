import Derived.Test.YtacnclofbnafiabGreatDoorK1
import Derived.Test.YtacnclofbnafiabGreatDoorRB
namespace Go.Proofs.YtacnclofbnafiabGreatDoor
open Go.RowKit Fl

structure Rk (E : Int → Int) (D P : Int) : Prop where
  dn : DnK E D
  up : UpK E P
theorem Rk.bd {E : Int → Int} {D P : Int} (h : Rk E D P) : -(INF : Int) ≤ D ∧ D ≤ INF ∧ -(INF : Int) ≤ P ∧ P ≤ INF := by
  have h1 := h.dn.lo
  have h2 := h.dn.hi
  have h3 := h.up.lo
  have h4 := h.up.hi
  omega
theorem ix_true (r : Nat) : ixI true r = -(r : Int) := rfl
theorem ix_false (r : Nat) : ixI false r = r := rfl

-- sums
structure AddK (k l D P : Int) : Prop where
  bd : -(INF : Int) ≤ D ∧ D ≤ INF ∧ -(INF : Int) ≤ P ∧ P ≤ INF
  opp : (k = INF ∧ l = -(INF : Int)) ∨ (k = -(INF : Int) ∧ l = INF) → D = -(INF : Int) ∧ P = INF
  top : (k = INF ∧ -(INF : Int) < l) ∨ (-(INF : Int) < k ∧ l = INF) → D = INF ∧ P = INF
  bot : (k = -(INF : Int) ∧ l < INF) ∨ (k < INF ∧ l = -(INF : Int)) → D = -(INF : Int) ∧ P = -(INF : Int)
  num : -(INF : Int) < k → k < INF → -(INF : Int) < l → l < INF → Rk (Ep (Vk k + Vk l)) D P
theorem AddSpec.key {s t : Bool} {r q D P : Nat} (hr : r ≤ INF) (hq : q ≤ INF) (H : AddSpec s r t q D P) :
    ∃ d p, D = B d ∧ P = B p ∧ AddK (ixI s r) (ixI t q) d p := by
  have hI := INF_pos
  by_cases h0 : r = INF ∧ q = INF ∧ s ≠ t
  · obtain ⟨rfl, rfl⟩ := H.all (.inr (.inr h0))
    obtain ⟨rfl, rfl, hst⟩ := h0
    refine ⟨-INF, INF, B_ninf.symm, B_inf.symm, ?_⟩
    cases s <;> cases t <;> simp only [ix_true, ix_false] at * <;> first | exact absurd rfl hst | (constructor <;> intros <;> first | omega | (exfalso; omega))
  by_cases h1 : r = INF
  · subst h1
    have hst : q = INF → s = t := fun h => Classical.byContradiction fun c => h0 ⟨rfl, h, c⟩
    obtain ⟨rfl, rfl⟩ := H.inf_l rfl hq hst
    clear h0
    cases s
    · refine ⟨INF, INF, B_inf.symm, B_inf.symm, ?_⟩
      cases t
      · simp only [ix_false]; constructor <;> intros <;> first | omega | (exfalso; omega)
      · have : q ≠ INF := fun h => by cases hst h
        simp only [ix_false, ix_true]; constructor <;> intros <;> first | omega | (exfalso; omega)
    · refine ⟨-INF, -INF, B_ninf.symm, B_ninf.symm, ?_⟩
      cases t
      · have : q ≠ INF := fun h => by cases hst h
        simp only [ix_false, ix_true]; constructor <;> intros <;> first | omega | (exfalso; omega)
      · simp only [ix_true]; constructor <;> intros <;> first | omega | (exfalso; omega)
  by_cases h2 : q = INF
  · subst h2
    obtain ⟨rfl, rfl⟩ := H.inf_r (by omega) rfl
    cases t
    · refine ⟨INF, INF, B_inf.symm, B_inf.symm, ?_⟩
      cases s <;> simp only [ix_false, ix_true] <;> constructor <;> intros <;> first | omega | (exfalso; omega)
    · refine ⟨-INF, -INF, B_ninf.symm, B_ninf.symm, ?_⟩
      cases s <;> simp only [ix_false, ix_true] <;> constructor <;> intros <;> first | omega | (exfalso; omega)
  obtain ⟨sg, lo, hi, k1, k2, rfl, rfl⟩ := H.num (by omega) (by omega)
  obtain ⟨o1, o2⟩ := lohi_ok (Ep_anti _) (link_p sg _ k1) k2
  obtain ⟨d, e1, g1⟩ := o1.key (Ep_anti _)
  obtain ⟨p, e2, g2⟩ := o2.key (Ep_anti _)
  refine ⟨d, p, e1, e2, ?_⟩
  have g : Rk (Ep (Vk (ixI s r) + Vk (ixI t q))) d p := by rw [Vk_ix, Vk_ix]; exact ⟨g1, g2⟩
  have b := g.bd
  refine ⟨b, ?_, ?_, ?_, fun _ _ _ _ => g⟩
  · cases s <;> cases t <;> simp only [ix_true, ix_false] <;> intros <;> omega
  · cases s <;> cases t <;> simp only [ix_true, ix_false] <;> intros <;> omega
  · cases s <;> cases t <;> simp only [ix_true, ix_false] <;> intros <;> omega
theorem AddK.mono {k l D P k' l' D' P' : Int} (h : AddK k l D P) (h' : AddK k' l' D' P') (b1 : -(INF : Int) ≤ k) (b2 : k' ≤ INF) (b3 : -(INF : Int) ≤ l) (b4 : l' ≤ INF) (hk : k ≤ k') (hl : l ≤ l') : D ≤ D' ∧ P ≤ P' := by
  have b := h.bd
  have b' := h'.bd
  have hI := INF_pos
  by_cases f : -(INF : Int) < k ∧ -(INF : Int) < l ∧ k' < INF ∧ l' < INF
  · have r1 := h.num (by omega) (by omega) (by omega) (by omega)
    have r2 := h'.num (by omega) (by omega) (by omega) (by omega)
    have e1 := Vk_le.2 hk
    have e2 := Vk_le.2 hl
    exact ⟨r1.dn.mono r2.dn fun v => by unfold Ep; omega, r1.up.mono r2.up fun v => by unfold Ep; omega⟩
  · have o1 := h.opp
    have o2 := h.top
    have o3 := h.bot
    have o4 := h'.opp
    have o5 := h'.top
    have o6 := h'.bot
    clear h h'
    omega
theorem AddK.unique {k l D P D' P' : Int} (h : AddK k l D P) (h' : AddK k l D' P') (b1 : -(INF : Int) ≤ k) (b2 : k ≤ INF) (b3 : -(INF : Int) ≤ l) (b4 : l ≤ INF) : D = D' ∧ P = P' := by
  have h1 := h.mono h' b1 b2 b3 b4 (Int.le_refl _) (Int.le_refl _)
  have h2 := h'.mono h b1 b2 b3 b4 (Int.le_refl _) (Int.le_refl _)
  omega

-- products
structure MulK (k l D P : Int) : Prop where
  bd : -(INF : Int) ≤ D ∧ D ≤ INF ∧ -(INF : Int) ≤ P ∧ P ≤ INF
  zero : k = 0 ∨ l = 0 → D = 0 ∧ P = 0
  infp : k = INF ∨ k = -(INF : Int) ∨ l = INF ∨ l = -(INF : Int) → (0 < k ∧ 0 < l) ∨ (k < 0 ∧ l < 0) → D = INF ∧ P = INF
  infn : k = INF ∨ k = -(INF : Int) ∨ l = INF ∨ l = -(INF : Int) → (0 < k ∧ l < 0) ∨ (k < 0 ∧ 0 < l) → D = -(INF : Int) ∧ P = -(INF : Int)
  num : -(INF : Int) < k → k < INF → -(INF : Int) < l → l < INF → Rk (Et (Vk k * Vk l)) D P
theorem U_posI : (0 : Int) < U := by have := U_pos; omega
theorem Rk_zero : Rk (Et 0) 0 0 := by
  have hI := INF_pos
  have hU := U_posI
  refine ⟨⟨by omega, by omega, fun j h1 h2 => ?_⟩, ⟨by omega, by omega, fun j h1 h2 => ?_⟩⟩
  · have h3 := @Vk_le j 0
    rw [Vk_zero] at h3
    rw [← h3]
    unfold Et
    constructor
    · intro h
      rcases Int.lt_or_le 0 (Vk j) with g | g
      · have := Int.mul_pos g hU; omega
      · exact g
    · intro h
      have := Int.mul_nonneg (show 0 ≤ -Vk j by omega) (Int.le_of_lt hU)
      rw [Int.neg_mul] at this
      omega
  · have h3 := @Vk_le 0 j
    rw [Vk_zero] at h3
    rw [← h3]
    unfold Et
    constructor
    · intro h
      rcases Int.lt_or_le (Vk j) 0 with g | g
      · have := Int.mul_pos (show 0 < -Vk j by omega) hU
        rw [Int.neg_mul] at this
        omega
      · exact g
    · intro h
      have := Int.mul_nonneg h (Int.le_of_lt hU)
      omega
theorem MulSpec.key {s t : Bool} {r q D P : Nat} (hr : r ≤ INF) (hq : q ≤ INF) (H : MulSpec s r t q D P) :
    ∃ d p, D = B d ∧ P = B p ∧ MulK (ixI s r) (ixI t q) d p := by
  have hI := INF_pos
  by_cases h0 : r = 0 ∨ q = 0
  · obtain ⟨rfl, rfl⟩ := H.zero hr hq h0
    refine ⟨0, 0, rfl, rfl, by omega, fun _ => ⟨rfl, rfl⟩, ?_, ?_, fun _ _ _ _ => ?_⟩
    · cases s <;> cases t <;> simp only [ix_true, ix_false] <;> intros <;> omega
    · cases s <;> cases t <;> simp only [ix_true, ix_false] <;> intros <;> omega
    · have e : Vk (ixI s r) * Vk (ixI t q) = 0 := by
        rw [Vk_ix, Vk_ix]
        rcases h0 with h | h
        · rw [h, V_zero, Int.zero_mul]
        · rw [h, V_zero, Int.mul_zero]
      rw [e]; exact Rk_zero
  by_cases h1 : r = INF ∨ q = INF
  · obtain ⟨rfl, rfl⟩ := H.inf (by omega) (by omega) hr hq h1
    cases s <;> cases t <;> simp only [ix_true, ix_false, Bool.xor_false, Bool.xor_true, Bool.not_false, Bool.not_true] <;>
      first
        | (refine ⟨INF, INF, B_inf.symm, B_inf.symm, ?_⟩; constructor <;> intros <;> first | omega | (exfalso; omega))
        | (refine ⟨-INF, -INF, B_ninf.symm, B_ninf.symm, ?_⟩; constructor <;> intros <;> first | omega | (exfalso; omega))
  obtain ⟨lo, hi, k2, rfl, rfl⟩ := H.num (by omega) (by omega) (by omega) (by omega)
  obtain ⟨o1, o2⟩ := lohi_ok (Et_anti _) (link_t s t r q) k2
  obtain ⟨d, e1, g1⟩ := o1.key (Et_anti _)
  obtain ⟨p, e2, g2⟩ := o2.key (Et_anti _)
  refine ⟨d, p, e1, e2, ?_⟩
  have b := (⟨g1, g2⟩ : Rk _ d p).bd
  refine ⟨b, ?_, ?_, ?_, fun _ _ _ _ => ?_⟩
  · cases s <;> cases t <;> simp only [ix_true, ix_false] <;> intros <;> omega
  · cases s <;> cases t <;> simp only [ix_true, ix_false] <;> intros <;> omega
  · cases s <;> cases t <;> simp only [ix_true, ix_false] <;> intros <;> omega
  · rw [Vk_ix, Vk_ix]; exact ⟨g1, g2⟩
theorem Vk_nonneg {l : Int} (h : 0 ≤ l) : 0 ≤ Vk l := by have := Vk_le.2 h; rwa [Vk_zero] at this
theorem Vk_pos {l : Int} (h : 0 < l) : 0 < Vk l := by have := Vk_lt.2 h; rwa [Vk_zero] at this
theorem MulK.mono {k l D P k' D' P' : Int} (h : MulK k l D P) (h' : MulK k' l D' P') (b1 : -(INF : Int) ≤ k) (b2 : k' ≤ INF) (b3 : 0 ≤ l) (b4 : l ≤ INF) (hk : k ≤ k') : D ≤ D' ∧ P ≤ P' := by
  have b := h.bd
  have b' := h'.bd
  have hI := INF_pos
  by_cases f : -(INF : Int) < k ∧ k' < INF ∧ l < INF
  · have r1 := h.num (by omega) (by omega) (by omega) (by omega)
    have r2 := h'.num (by omega) (by omega) (by omega) (by omega)
    have e1 := Int.mul_le_mul_of_nonneg_right (Vk_le.2 hk) (Vk_nonneg b3)
    exact ⟨r1.dn.mono r2.dn fun v => by unfold Et; omega, r1.up.mono r2.up fun v => by unfold Et; omega⟩
  · have o1 := h.zero
    have o2 := h.infp
    have o3 := h.infn
    have o4 := h'.zero
    have o5 := h'.infp
    have o6 := h'.infn
    clear h h'
    omega
theorem MulK.comm {k l D P : Int} (h : MulK k l D P) : MulK l k D P := by
  refine ⟨h.bd, fun g => h.zero (by omega), fun g g' => h.infp (by omega) (by omega), fun g g' => h.infn (by omega) (by omega), fun a b c d => ?_⟩
  rw [Int.mul_comm]; exact h.num c d a b
theorem MulK.neg {k l D P : Int} (h : MulK k l D P) : MulK (-k) l (-P) (-D) := by
  have b := h.bd
  refine ⟨by omega, fun g => ?_, fun g g' => ?_, fun g g' => ?_, fun a1 a2 a3 a4 => ?_⟩
  · have := h.zero (by omega); omega
  · have := h.infn (by omega) (by omega); omega
  · have := h.infp (by omega) (by omega); omega
  · have r := h.num (by omega) (by omega) a3 a4
    rw [Vk_neg, Int.neg_mul]
    refine ⟨r.up.neg fun v => ?_, r.dn.neg fun v => ?_⟩
    · unfold Et; rw [Int.neg_mul]; omega
    · unfold Et; rw [Int.neg_mul]; omega
theorem MulK.unique {k l D P D' P' : Int} (h : MulK k l D P) (h' : MulK k l D' P') (b1 : -(INF : Int) ≤ k) (b2 : k ≤ INF) (b3 : -(INF : Int) ≤ l) (b4 : l ≤ INF) : D = D' ∧ P = P' := by
  rcases Int.lt_or_le l 0 with hl | hl
  · have g := h.comm.neg.comm
    have g' := h'.comm.neg.comm
    have h1 := g.mono g' b1 b2 (by omega) (by omega) (Int.le_refl _)
    have h2 := g'.mono g b1 b2 (by omega) (by omega) (Int.le_refl _)
    omega
  · have h1 := h.mono h' b1 b2 hl b4 (Int.le_refl _)
    have h2 := h'.mono h b1 b2 hl b4 (Int.le_refl _)
    omega

-- quotients by what is not below 0
structure DivK (k l D P : Int) : Prop where
  bd : -(INF : Int) ≤ D ∧ D ≤ INF ∧ -(INF : Int) ≤ P ∧ P ≤ INF
  all : l = 0 ∨ ((k = INF ∨ k = -(INF : Int)) ∧ l = INF) → D = -(INF : Int) ∧ P = INF
  infr : -(INF : Int) < k → k < INF → l = INF → D = 0 ∧ P = 0
  infp : k = INF → 0 < l → l < INF → D = INF ∧ P = INF
  infn : k = -(INF : Int) → 0 < l → l < INF → D = -(INF : Int) ∧ P = -(INF : Int)
  num : -(INF : Int) < k → k < INF → 0 < l → l < INF → Rk (Eo false (Vk k * (U : Int)) (Vk l)) D P
theorem DivSpec.key {s t : Bool} {r q D P : Nat} (hr : r ≤ INF) (hq : q ≤ INF) (hl : 0 ≤ ixI t q) (H : DivSpec s r t q D P) :
    ∃ d p, D = B d ∧ P = B p ∧ DivK (ixI s r) (ixI t q) d p := by
  have hI := INF_pos
  by_cases h0 : q = 0 ∨ (r = INF ∧ q = INF)
  · obtain ⟨rfl, rfl⟩ := H.all (.inr (.inr h0))
    refine ⟨-INF, INF, B_ninf.symm, B_inf.symm, ?_⟩
    clear H
    cases s <;> cases t <;> simp only [ix_true, ix_false] at * <;> (constructor <;> intros <;> first | omega | (exfalso; omega))
  have ht : t = false := by
    cases t
    · rfl
    · simp only [ix_true] at hl; omega
  subst ht
  by_cases h1 : q = INF
  · obtain ⟨rfl, rfl⟩ := H.inf_r (by omega) h1
    refine ⟨0, 0, rfl, rfl, ?_⟩
    clear H
    cases s <;> simp only [ix_true, ix_false] at * <;> (constructor <;> intros <;> first | omega | (exfalso; omega))
  by_cases h2 : r = INF
  · obtain ⟨rfl, rfl⟩ := H.inf_l h2 (by omega) (by omega)
    clear H
    cases s
    · refine ⟨INF, INF, B_inf.symm, B_inf.symm, ?_⟩
      simp only [ix_false] at * ; (constructor <;> intros <;> first | omega | (exfalso; omega))
    · refine ⟨-INF, -INF, B_ninf.symm, B_ninf.symm, ?_⟩
      simp only [ix_true, ix_false] at * ; (constructor <;> intros <;> first | omega | (exfalso; omega))
  obtain ⟨lo, hi, k2, rfl, rfl⟩ := H.num (by omega) (by omega) (by omega)
  have hA := Eo_anti false (V s r * (U : Int)) q (by omega)
  obtain ⟨o1, o2⟩ := lohi_ok hA (link_o s false r q) k2
  obtain ⟨d, e1, g1⟩ := o1.key hA
  obtain ⟨p, e2, g2⟩ := o2.key hA
  refine ⟨d, p, e1, e2, ?_⟩
  have b := (⟨g1, g2⟩ : Rk _ d p).bd
  refine ⟨b, ?_, ?_, ?_, ?_, fun _ _ _ _ => ?_⟩
  · cases s <;> simp only [ix_true, ix_false] <;> intros <;> omega
  · cases s <;> simp only [ix_true, ix_false] <;> intros <;> omega
  · cases s <;> simp only [ix_true, ix_false] <;> intros <;> omega
  · cases s <;> simp only [ix_true, ix_false] <;> intros <;> omega
  · rw [Vk_ix, Vk_ix]; exact ⟨g1, g2⟩
/-- Quotients, by cross products. -/
theorem Div_cross {A B' K L K' L' v : Int} (hA : A = K * (U : Int) - v * L) (hB : B' = K' * (U : Int) - v * L') (hL : 0 < L) (hL' : 0 < L') (h : K * L' ≤ K' * L) : (0 ≤ A → 0 ≤ B') ∧ (B' ≤ 0 → A ≤ 0) := by
  have hU := U_posI
  have e1 : A * L' = K * L' * (U : Int) - v * L * L' := by rw [hA, Int.sub_mul, Int.mul_right_comm]
  have e2 : B' * L = K' * L * (U : Int) - v * L * L' := by rw [hB, Int.sub_mul, Int.mul_right_comm, Int.mul_right_comm v]
  have e3 := Int.mul_le_mul_of_nonneg_right h (Int.le_of_lt hU)
  have e4 : A * L' ≤ B' * L := by omega
  constructor
  · intro g
    have g1 := Int.mul_nonneg g (Int.le_of_lt hL')
    rcases Int.lt_or_le B' 0 with c | c
    · have := Int.mul_pos (show 0 < -B' by omega) hL
      rw [Int.neg_mul] at this; omega
    · exact c
  · intro g
    have g1 := Int.mul_nonneg (show 0 ≤ -B' by omega) (Int.le_of_lt hL)
    rw [Int.neg_mul] at g1
    rcases Int.lt_or_le 0 A with c | c
    · have := Int.mul_pos c hL'
      omega
    · exact c
theorem DivK.cross {k l D P k' l' D' P' : Int} (h : DivK k l D P) (h' : DivK k' l' D' P') (b1 : -(INF : Int) < k) (b2 : k < INF) (b3 : -(INF : Int) < k') (b4 : k' < INF) (c1 : 0 < l) (c2 : l < INF) (c3 : 0 < l') (c4 : l' < INF)
    (hx : Vk k * Vk l' ≤ Vk k' * Vk l) : D ≤ D' ∧ P ≤ P' := by
  have r1 := h.num b1 b2 c1 c2
  have r2 := h'.num b3 b4 c3 c4
  have hc := fun v => Div_cross (A := Eo false (Vk k * (U : Int)) (Vk l) v) (B' := Eo false (Vk k' * (U : Int)) (Vk l') v) (v := v) (by simp [Eo]) (by simp [Eo]) (Vk_pos c1) (Vk_pos c3) hx
  exact ⟨r1.dn.mono r2.dn fun v => (hc v).1, r1.up.mono r2.up fun v => (hc v).2⟩
theorem DivK.unique {k l D P D' P' : Int} (h : DivK k l D P) (h' : DivK k l D' P') (b1 : -(INF : Int) ≤ k) (b2 : k ≤ INF) (b3 : 0 ≤ l) (b4 : l ≤ INF) : D = D' ∧ P = P' := by
  by_cases f : -(INF : Int) < k ∧ k < INF ∧ 0 < l ∧ l < INF
  · have h1 := h.cross h' f.1 f.2.1 f.1 f.2.1 f.2.2.1 f.2.2.2 f.2.2.1 f.2.2.2 (Int.le_refl _)
    have h2 := h'.cross h f.1 f.2.1 f.1 f.2.1 f.2.2.1 f.2.2.2 f.2.2.1 f.2.2.2 (Int.le_refl _)
    omega
  · by_cases c1 : l = 0 ∨ ((k = INF ∨ k = -(INF : Int)) ∧ l = INF)
    · have o1 := h.all c1
      have o2 := h'.all c1
      omega
    by_cases c2 : l = INF
    · have o1 := h.infr (by omega) (by omega) c2
      have o2 := h'.infr (by omega) (by omega) c2
      omega
    by_cases c3 : k = INF
    · have o1 := h.infp c3 (by omega) (by omega)
      have o2 := h'.infp c3 (by omega) (by omega)
      omega
    have o1 := h.infn (by omega) (by omega) (by omega)
    have o2 := h'.infn (by omega) (by omega) (by omega)
    omega
theorem DivK.neg {k l D P : Int} (h : DivK k l D P) : DivK (-k) l (-P) (-D) := by
  have b := h.bd
  refine ⟨by omega, fun g => ?_, fun g1 g2 g3 => ?_, fun g1 g2 g3 => ?_, fun g1 g2 g3 => ?_, fun a1 a2 a3 a4 => ?_⟩
  · have := h.all (by omega); omega
  · have := h.infr (by omega) (by omega) g3; omega
  · have := h.infn (by omega) g2 g3; omega
  · have := h.infp (by omega) g2 g3; omega
  · have r := h.num (by omega) (by omega) a3 a4
    rw [Vk_neg, Int.neg_mul]
    refine ⟨r.up.neg fun v => ?_, r.dn.neg fun v => ?_⟩
    · simp only [Eo, Bool.false_eq_true, if_false, Int.neg_mul]; omega
    · simp only [Eo, Bool.false_eq_true, if_false, Int.neg_mul]; omega

-- roots of what is not below 0
structure SqrtK (k D P : Int) : Prop where
  bd : -(INF : Int) ≤ D ∧ D ≤ INF ∧ -(INF : Int) ≤ P ∧ P ≤ INF
  inf : k = INF → D = INF ∧ P = INF
  num : 0 ≤ k → k < INF → Rk (Er (Vk k * (U : Int))) D P
theorem SqrtSpec.key {s : Bool} {r D P : Nat} (hr : r ≤ INF) (hk : 0 ≤ ixI s r) (H : SqrtSpec s r D P) :
    ∃ d p, D = B d ∧ P = B p ∧ SqrtK (ixI s r) d p := by
  have hI := INF_pos
  by_cases h0 : r = 0
  · obtain ⟨rfl, rfl⟩ := H.zero h0
    subst h0
    have ez : ixI s 0 = 0 := by cases s <;> rfl
    refine ⟨0, 0, rfl, rfl, by omega, by omega, fun _ _ => ?_⟩
    rw [ez, Vk_zero, Int.zero_mul]
    have hE0 : Er 0 (Vk 0) = 0 := by unfold Er; rw [Vk_zero]; simp
    have hA := Er_anti 0
    refine ⟨⟨by omega, by omega, fun j h1 h2 => ⟨fun h => ?_, fun h => hA.le (Vk_le.2 h) (by omega)⟩⟩, ⟨by omega, by omega, fun j h1 h2 => ⟨fun h => ?_, fun h => hA.le' (Vk_le.2 h) (by omega)⟩⟩⟩
    · rcases Int.lt_or_le 0 j with g | g
      · have := hA.neg (Vk_lt.2 g) (by omega); omega
      · exact g
    · rcases Int.lt_or_le j 0 with g | g
      · have := hA _ _ (Vk_lt.2 g) (by omega); omega
      · exact g
  have hs : s = false := by
    cases s
    · rfl
    · simp only [ix_true] at hk; omega
  subst hs
  by_cases h1 : r = INF
  · obtain ⟨rfl, rfl⟩ := H.inf rfl h1
    refine ⟨INF, INF, B_inf.symm, B_inf.symm, ?_⟩
    clear H
    simp only [ix_false] at *
    constructor <;> intros <;> first | omega | (exfalso; omega)
  obtain ⟨lo, hi, k2, hD, hP⟩ := H.num rfl (by omega) (by omega)
  obtain ⟨o1, o2⟩ := lohi_ok (Er_anti _) (link_r r) k2
  have eD : dnW false lo hi = D := hD.symm
  have eP : upW false lo hi = P := hP.symm
  rw [eD] at o1
  rw [eP] at o2
  obtain ⟨d, e1, g1⟩ := o1.key (Er_anti _)
  obtain ⟨p, e2, g2⟩ := o2.key (Er_anti _)
  have b := (⟨g1, g2⟩ : Rk _ d p).bd
  refine ⟨d, p, e1, e2, b, by simp only [ix_false]; intros; omega, fun _ _ => ?_⟩
  rw [Vk_ix]; exact ⟨g1, g2⟩
theorem SqrtK.mono {k D P k' D' P' : Int} (h : SqrtK k D P) (h' : SqrtK k' D' P') (b1 : 0 ≤ k) (b2 : k' ≤ INF) (hk : k ≤ k') : D ≤ D' ∧ P ≤ P' := by
  have b := h.bd
  have b' := h'.bd
  by_cases f : k' < INF
  · have r1 := h.num b1 (by omega)
    have r2 := h'.num (by omega) f
    have e1 := Int.mul_le_mul_of_nonneg_right (Vk_le.2 hk) (Int.le_of_lt U_posI)
    refine ⟨r1.dn.mono r2.dn fun v => ?_, r1.up.mono r2.up fun v => ?_⟩
    · unfold Er; split <;> omega
    · unfold Er; split <;> omega
  · have := h'.inf (by omega); omega
theorem SqrtK.unique {k D P D' P' : Int} (h : SqrtK k D P) (h' : SqrtK k D' P') (b1 : 0 ≤ k) (b2 : k ≤ INF) : D = D' ∧ P = P' := by
  have h1 := h.mono h' b1 b2 (Int.le_refl _)
  have h2 := h'.mono h b1 b2 (Int.le_refl _)
  omega
end Go.Proofs.YtacnclofbnafiabGreatDoor
