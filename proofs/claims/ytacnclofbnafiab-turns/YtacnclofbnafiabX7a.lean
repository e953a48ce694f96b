import Derived.Test.YtacnclofbnafiabYA
import Derived.Test.YtacnclofbnafiabX3
import Derived.Test.YtacnclofbnafiabX5
namespace Go.Proofs.Ytacnclofbnafiab
open Go.RowKit Fl

theorem Key.mone : Key 13830554455654793216 (-4607182418800017408) := ⟨true, 4607182418800017408, rfl, by rw [INF_eq]; omega, rfl⟩
theorem ne_mone {x : Nat} {k : Int} (h : Key x k) (h0 : 0 ≤ k) : (Ieee.double.order x 13830554455654793216 == some .eq) = false := by
  rw [h.order Key.mone, Int.compare_eq_gt.2 (by omega)]; rfl
/-- The forms that answers have. -/
theorem form_nod {e f i : Nat} (h : NoD e f i) : ∀ w, Calls Try.prog 13 #[.agg #[.complex .f64 e f, .float .f64 i]] w fun e w' => e = .returned (.bool true) ∧ Below w.heap.size w w' := by
  obtain ⟨rfl, rfl, rfl⟩ := h
  refine form_no_w _ _ _ ?_ (same_any 0 Key.zero.self) (same_any 0 Key.zero.self)
  rw [Key.mone.self]; rfl
theorem form_alld {e f i : Nat} (h : AllD e f i) : ∀ w, Calls Try.prog 13 #[.agg #[.complex .f64 e f, .float .f64 i]] w fun e w' => e = .returned (.bool true) ∧ Below w.heap.size w w' := by
  obtain ⟨rfl, rfl, rfl⟩ := h
  have i := isInf1_key (Key.at pl_inf)
  rw [decide_eq_true rfl] at i
  exact form_all_w _ _ _ (ne_mone (Key.at pl_inf) (by have := INF_pos; omega)) i (same_any 0 Key.zero.self) (same_any 0 Key.zero.self)
theorem form_fin {u v t : Int} (fu : Fin u) (fv : Fin v) (t0 : 0 ≤ t) (t1 : t < INF) : ∀ w, Calls Try.prog 13 #[.agg #[.complex .f64 (B u) (B v), .float .f64 (B t)]] w fun e w' => e = .returned (.bool true) ∧ Below w.heap.size w w' := by
  have ft := Fin.of t0 t1
  have ku := Key.at fu.pl
  have kv := Key.at fv.pl
  have kt := Key.at ft.pl
  have i := isInf1_key kt
  rw [decide_eq_false (by omega)] at i
  have j1 := isInf0_key ku
  have j2 := isInf0_key kv
  unfold Fin at fu fv
  rw [decide_eq_false (by omega)] at j1 j2
  have o := ord0 kt
  rcases Int.lt_or_eq_of_le t0 with g | g
  · rw [Int.compare_eq_gt.2 g] at o
    exact form_gt_w _ _ _ (ne_mone kt t0) i ku.plus0 kv.plus0 kt.plus0 (same_any _ ku.self) (same_any _ kv.self) (same_any _ kt.self) o j1 j2
  · rw [Int.compare_eq_eq.2 g.symm] at o
    exact form_eq_w _ _ _ (ne_mone kt t0) i ku.plus0 kv.plus0 kt.plus0 (same_any _ ku.self) (same_any _ kv.self) (same_any _ kt.self) o j1 j2
end Go.Proofs.Ytacnclofbnafiab
