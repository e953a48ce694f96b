import Derived.Test.YtacnclofbnafiabGreatDoorXA
import Derived.Test.YtacnclofbnafiabGreatDoorQB
namespace Go.Proofs.YtacnclofbnafiabGreatDoor
open Go.RowKit Fl

theorem nself {x : Nat} {k : Int} (h : Key x k) : (Ieee.double.order x x != some .eq) = false := by rw [h.self]; rfl
theorem nselfN {x : Nat} (h : NaNw x) : (Ieee.double.order x x != some .eq) = true := by rw [h.l]; rfl
theorem rinf_key {x : Nat} {k : Int} (h : Key x k) : ∀ w, Calls Tryz.prog 45 #[.float .f64 x] w fun e w' => e = .returned (.bool (decide (k = INF ∨ k = -(INF : Int)))) ∧ w' = w := by
  obtain ⟨s, r, rfl, hr, rfl⟩ := h
  have e : decide (ixI s r = INF ∨ ixI s r = -(INF : Int)) = decide (r = INF) := by
    have hI := INF_pos
    apply decide_eq_decide.2
    cases s
    · rw [ix_false]; omega
    · rw [ix_true]; omega
  rw [e]
  exact inf_any s r hr
theorem rinf_fin {x : Nat} {k : Int} (h : Key x k) (f : Fin k) : ∀ w, Calls Tryz.prog 45 #[.float .f64 x] w fun e w' => e = .returned (.bool false) ∧ w' = w := by
  have i := rinf_key h
  rwa [decide_eq_false (by unfold Fin at f; omega)] at i
theorem lt0 {x : Nat} {k : Int} (h : Key x k) : (Ieee.double.order x 0 == some .lt) = decide (k < 0) := by
  rw [ord0 h]
  by_cases c : k < 0
  · rw [Int.compare_eq_lt.2 c]; simp [c]
  · have : compare k 0 ≠ .lt := by rw [Ne, Int.compare_eq_lt]; exact c
    simp [this, c]
/-- Is the number (P, Q) in the disc about (A, C) with the radius R? -/
def inD (P Q A C R : Int) : Prop := (Vk P - Vk A) * (Vk P - Vk A) + (Vk Q - Vk C) * (Vk Q - Vk C) ≤ Vk R * Vk R
theorem Bad.ways {a b : Nat} (ha : a < 18446744073709551616) (hb : b < 18446744073709551616) (h : Bad a ∨ Bad b) :
    NaNw a ∨ ((∃ k, Key a k) ∧ NaNw b) ∨ ((∃ k, Key a k ∧ (k = INF ∨ k = -(INF : Int))) ∧ ∃ l, Key b l) ∨ ((∃ k, Key a k ∧ Fin k) ∧ ∃ l, Key b l ∧ (l = INF ∨ l = -(INF : Int))) := by
  rcases word_fin a ha with ⟨k, k1, k2⟩ | (n | ⟨k, k1, k2⟩)
  · have hb' : Bad b := by
      rcases h with h | h
      · exact (h.no k1 k2).elim
      · exact h
    rcases hb' with n | l
    · exact .inr (.inl ⟨⟨k, k1⟩, n⟩)
    · exact .inr (.inr (.inr ⟨⟨k, k1, k2⟩, l⟩))
  · exact .inl n
  · rcases word_cases b hb with l | n
    · exact .inr (.inr (.inl ⟨⟨k, k1, k2⟩, l⟩))
    · exact .inr (.inl ⟨⟨k, k1⟩, n⟩)
theorem rlone_no {a b r : Nat} (ha : a < 18446744073709551616) (hb : b < 18446744073709551616) (h : DNo a b r) : ∀ w, Calls Tryz.prog 59 #[.agg #[.complex .f64 a b, .float .f64 r]] w fun e w' => e = .returned (.bool true) ∧ Below w.heap.size w w' := by
  rcases h with h | ⟨t, h, c⟩ | ⟨t, h, c1, c2, hbad⟩
  · exact lone_nan_w a b r (nselfN h)
  · have l0 := lt0 h
    rw [decide_eq_true c] at l0
    exact lone_neg_w a b r (nself h) l0
  · have l0 := lt0 h
    rw [decide_eq_false (by omega)] at l0
    have gm := rinf_fin h (by unfold Fin; omega)
    rcases Bad.ways ha hb hbad with n | ⟨⟨k, k1⟩, n⟩ | ⟨⟨k, k1, k2⟩, l, l1⟩ | ⟨⟨k, k1, k2⟩, l, l1, l2⟩
    · exact lone_a_w a b r (nself h) l0 gm (nselfN n)
    · exact lone_b_w a b r (nself h) l0 gm (nself k1) (nselfN n)
    · have i := rinf_key k1
      rw [decide_eq_true k2] at i
      exact lone_c_w a b r (nself h) l0 gm (nself k1) (nself l1) i
    · have i := rinf_key l1
      rw [decide_eq_true l2] at i
      exact lone_d_w a b r (nself h) l0 gm (nself k1) (nself l1) (rinf_fin k1 k2) i
theorem rlone_fin {a b r : Nat} {A C R : Int} (h : DFin a b r A C R) : ∀ w, Calls Tryz.prog 59 #[.agg #[.complex .f64 a b, .float .f64 r]] w fun e w' => e = .returned (.bool false) ∧ Below w.heap.size w w' := by
  have l0 := lt0 h.kr
  have r0 := h.r0
  have r1 := h.r1
  rw [decide_eq_false (by omega)] at l0
  exact lone_ok_w a b r (nself h.kr) l0 (rinf_fin h.kr (by unfold Fin; omega)) (nself h.ka) (nself h.kb) (rinf_fin h.ka h.fa) (rinf_fin h.kb h.fb)
theorem rlone_all {a b r : Nat} (h : Key r INF) : ∀ w, Calls Tryz.prog 59 #[.agg #[.complex .f64 a b, .float .f64 r]] w fun e w' => e = .returned (.bool false) ∧ Below w.heap.size w w' := by
  have hI := INF_pos
  have l0 := lt0 h
  rw [decide_eq_false (by omega)] at l0
  have i := rinf_key h
  rw [decide_eq_true (.inl rfl)] at i
  exact lone_all_w a b r (nself h) l0 i
end Go.Proofs.YtacnclofbnafiabGreatDoor
