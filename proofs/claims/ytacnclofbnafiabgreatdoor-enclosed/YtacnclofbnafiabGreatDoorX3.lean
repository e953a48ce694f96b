import Derived.Test.YtacnclofbnafiabGreatDoorXA
import Derived.Test.YtacnclofbnafiabGreatDoorQB
namespace Go.Proofs.YtacnclofbnafiabGreatDoor
open Go.RowKit Fl

theorem nself {x : Nat} {k : Int} (h : Key x k) : (Ieee.double.order x x != some .eq) = false := by rw [h.self]; rfl
theorem nselfN {x : Nat} (h : NaNw x) : (Ieee.double.order x x != some .eq) = true := by rw [h.l]; rfl
theorem rinf_key {x : Nat} {k : Int} (h : Key x k) : ∀ w, Calls Tryz.prog 45 #[.float .f64 x] w fun e w' => e = .returned (.bool (decide (k = INF ∨ k = -(INF : Int)))) ∧ w' = w := by
  obtain ⟨s, r, rfl, hr, rfl⟩ := h
  have e : decide (ixI s r = INF ∨ ixI s r = -(INF : Int)) = decide (r = INF) := by
    have hI := INF_pos
    apply decide_eq_decide.2
    cases s
    · rw [ix_false]; omega
    · rw [ix_true]; omega
  rw [e]
  exact inf_any s r hr
theorem rinf_fin {x : Nat} {k : Int} (h : Key x k) (f : Fin k) : ∀ w, Calls Tryz.prog 45 #[.float .f64 x] w fun e w' => e = .returned (.bool false) ∧ w' = w := by
  have i := rinf_key h
  rwa [decide_eq_false (by unfold Fin at f; omega)] at i
theorem lt0 {x : Nat} {k : Int} (h : Key x k) : (Ieee.double.order x 0 == some .lt) = decide (k < 0) := by
  rw [ord0 h]
  by_cases c : k < 0
  · rw [Int.compare_eq_lt.2 c]; simp [c]
  · have : compare k 0 ≠ .lt := by rw [Ne, Int.compare_eq_lt]; exact c
    simp [this, c]
theorem gtM {x : Nat} {k : Int} (h : Key x k) : (Ieee.double.order x 9218868437227405311 == some .gt) = decide (k = INF) := by
  rw [h.order Key.max]
  have := h.bd
  by_cases c : k = INF
  · rw [Int.compare_eq_gt.2 (by omega)]; simp [c]
  · have : compare k ((INF : Int) - 1) ≠ .gt := by rw [Ne, Int.compare_eq_gt]; omega
    simp [this, c]
/-- Is the number (P, Q) in the disc about (A, C) with the radius R? -/
def inD (P Q A C R : Int) : Prop := (Vk P - Vk A) * (Vk P - Vk A) + (Vk Q - Vk C) * (Vk Q - Vk C) ≤ Vk R * Vk R
theorem rinDisc_fin {p q a b r : Nat} {P Q A C R : Int} (kp : Key p P) (fp : Fin P) (kq : Key q Q) (fq : Fin Q) (h : DFin a b r A C R) :
    ∃ v : Bool, (v = true ↔ inD P Q A C R) ∧ ∀ w, Calls Tryz.prog 22 #[.float .f64 p, .float .f64 q, .agg #[.complex .f64 a b, .float .f64 r]] w fun e w' => e = .returned (.bool v) ∧ Below w.heap.size w w' := by
  have hI := INF_pos
  have r0 := h.r0
  have r1 := h.r1
  obtain ⟨pn, g1, n1⟩ := kp.neg
  obtain ⟨qn, g2, n2⟩ := kq.neg
  obtain ⟨rn, g3, n3⟩ := h.kr.neg
  have l0 := lt0 h.kr
  rw [decide_eq_false (by omega)] at l0
  have gm := gtM h.kr
  rw [decide_eq_false (by omega)] at gm
  unfold Fin at fp fq
  have fa := h.fa
  have fb := h.fb
  unfold Fin at fa fb
  refine ⟨_, ?_, inDisc_w p q a b r pn qn rn P Q A C R (nself h.kr) l0 gm (nself h.ka) (nself h.kb) (rinf_fin h.ka h.fa) (rinf_fin h.kb h.fb) g1 g2 g3 kp fp.1 fp.2 kq fq.1 fq.2 h.ka fa.1 fa.2 h.kb fb.1 fb.2 h.kr (by omega) r1 n1 (by omega) (by omega) n2 (by omega) (by omega) n3 (by omega) (by omega)⟩
  rw [decide_eq_true_iff]
  unfold inD
  omega
theorem rinDisc_all {p q a b r : Nat} (h : Key r INF) : ∀ w, Calls Tryz.prog 22 #[.float .f64 p, .float .f64 q, .agg #[.complex .f64 a b, .float .f64 r]] w fun e w' => e = .returned (.bool true) ∧ Below w.heap.size w w' := by
  have hI := INF_pos
  have l0 := lt0 h
  rw [decide_eq_false (by omega)] at l0
  have gm := gtM h
  rw [decide_eq_true rfl] at gm
  exact inDisc_all_w p q a b r (nself h) l0 gm
theorem Bad.ways {a b : Nat} (ha : a < 18446744073709551616) (hb : b < 18446744073709551616) (h : Bad a ∨ Bad b) :
    NaNw a ∨ ((∃ k, Key a k) ∧ NaNw b) ∨ ((∃ k, Key a k ∧ (k = INF ∨ k = -(INF : Int))) ∧ ∃ l, Key b l) ∨ ((∃ k, Key a k ∧ Fin k) ∧ ∃ l, Key b l ∧ (l = INF ∨ l = -(INF : Int))) := by
  rcases word_fin a ha with ⟨k, k1, k2⟩ | (n | ⟨k, k1, k2⟩)
  · have hb' : Bad b := by
      rcases h with h | h
      · exact (h.no k1 k2).elim
      · exact h
    rcases hb' with n | l
    · exact .inr (.inl ⟨⟨k, k1⟩, n⟩)
    · exact .inr (.inr (.inr ⟨⟨k, k1, k2⟩, l⟩))
  · exact .inl n
  · rcases word_cases b hb with l | n
    · exact .inr (.inr (.inl ⟨⟨k, k1, k2⟩, l⟩))
    · exact .inr (.inl ⟨⟨k, k1⟩, n⟩)
theorem rinDisc_no {p q a b r : Nat} (ha : a < 18446744073709551616) (hb : b < 18446744073709551616) (h : DNo a b r) : ∀ w, Calls Tryz.prog 22 #[.float .f64 p, .float .f64 q, .agg #[.complex .f64 a b, .float .f64 r]] w fun e w' => e = .returned (.bool false) ∧ Below w.heap.size w w' := by
  rcases h with h | ⟨t, h, c⟩ | ⟨t, h, c1, c2, hbad⟩
  · exact inDisc_nan_w p q a b r (nselfN h)
  · have l0 := lt0 h
    rw [decide_eq_true c] at l0
    exact inDisc_neg_w p q a b r (nself h) l0
  · have l0 := lt0 h
    rw [decide_eq_false (by omega)] at l0
    have gm := gtM h
    rw [decide_eq_false (by omega)] at gm
    rcases Bad.ways ha hb hbad with n | ⟨⟨k, k1⟩, n⟩ | ⟨⟨k, k1, k2⟩, l, l1⟩ | ⟨⟨k, k1, k2⟩, l, l1, l2⟩
    · exact inDisc_a_w p q a b r (nself h) l0 gm (nselfN n)
    · exact inDisc_b_w p q a b r (nself h) l0 gm (nself k1) (nselfN n)
    · have i := rinf_key k1
      rw [decide_eq_true k2] at i
      exact inDisc_c_w p q a b r (nself h) l0 gm (nself k1) (nself l1) i
    · have i := rinf_key l1
      rw [decide_eq_true l2] at i
      exact inDisc_d_w p q a b r (nself h) l0 gm (nself k1) (nself l1) (rinf_fin k1 k2) i
end Go.Proofs.YtacnclofbnafiabGreatDoor
