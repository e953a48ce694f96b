import Derived.Test.YtacnclofbnafiaaX7a
import Derived.Test.YtacnclofbnafiaaEA
import Derived.Test.YtacnclofbnafiaaX3
namespace Go.Proofs.Ytacnclofbnafiaa
open Go.RowKit Fl

theorem whole_any (k : Int) (w : World) : Calls Try.prog 50 #[.int .i64 k] w fun e w' => e = .returned (.int .i64 (k.tmod 1048577)) ∧ w' = w := by
  go_enter Try.func50, Try.ntmps50
  go_wp2
  go_ret
  exact ⟨rfl, rfl⟩
theorem whole_bd (k : Int) : -1048576 ≤ k.tmod 1048577 ∧ k.tmod 1048577 ≤ 1048576 := by
  have := Int.tmod_lt_of_pos k (show (0 : Int) < 1048577 by omega)
  have := Int.lt_tmod_of_pos k (show (0 : Int) < 1048577 by omega)
  omega
/-- A number is in an answer, and the answer has the form. -/
def Holds (e f i s si : Nat) : Prop := (∀ w, Calls Try.prog 66 #[.float .f64 s, .float .f64 si, .agg #[.complex .f64 e f, .float .f64 i]] w fun e w' => e = .returned (.bool true) ∧ Below w.heap.size w w') ∧ ∀ w, Calls Try.prog 70 #[.agg #[.complex .f64 e f, .float .f64 i]] w fun e w' => e = .returned (.bool true) ∧ Below w.heap.size w w'
theorem holds_all {e f i s si : Nat} (h : AllD e f i) : Holds e f i s si := by
  refine ⟨?_, form_alld h⟩
  obtain ⟨rfl, rfl, rfl⟩ := h
  exact rinDisc_all (Key.at pl_inf)
theorem holds_fin {e f i s si : Nat} {u v t n m k l : Int} (fu : Fin u) (fv : Fin v) (t0 : 0 ≤ t) (t1 : t < INF) (he : e = B u) (hf : f = B v) (hi : i = B t) (hs : Num s n k) (hsi : Num si m l)
    (h : (n * (U : Int) - Vk u) * (n * (U : Int) - Vk u) + (m * (U : Int) - Vk v) * (m * (U : Int) - Vk v) ≤ Vk t * Vk t) : Holds e f i s si := by
  subst he; subst hf; subst hi
  refine ⟨?_, form_fin fu fv t0 t1⟩
  obtain ⟨b, hb, c⟩ := rinDisc_fin hs.key ⟨hs.lo, hs.hi⟩ hsi.key ⟨hsi.lo, hsi.hi⟩ (dfin_B fu fv t0 t1)
  have : b = true := hb.2 (by unfold inD; rw [hs.val, hsi.val]; exact h)
  subst this
  exact c
theorem num_f (n : Int) (h : n.natAbs ≤ 9007199254740992) : ∃ x m, floatOfInt .f64 n = x ∧ Num x n m := by
  obtain ⟨m, h⟩ := num_int n h
  exact ⟨_, m, rfl, h⟩
end Go.Proofs.Ytacnclofbnafiaa
