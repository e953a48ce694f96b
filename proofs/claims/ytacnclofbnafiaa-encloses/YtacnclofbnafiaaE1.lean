import Derived.Test.YtacnclofbnafiaaK7
import Derived.Test.YtacnclofbnafiaaK7b
namespace Go.Proofs.Ytacnclofbnafiaa
open Go.RowKit Fl

theorem whole_w (k : Int) (w : World) : Calls Try.prog 50 #[.int .i64 k] w fun e w' => e = .returned (.int .i64 (k.tmod 1048577)) ∧ w' = w := by
  go_enter Try.func50, Try.ntmps50
  go_wp2_with fail
  go_ret
  exact ⟨rfl, rfl⟩

theorem around_000_w (v a b : Nat)
    (o1 : (Ieee.double.order a v == some .lt) = false)
    (o2 : (Ieee.double.order b v == some .gt) = false)
    (o3 : (Ieee.double.order b v == some .lt) = false) (w : World) :
    Calls Try.prog 51 #[.float .f64 v, .float .f64 a, .float .f64 b] w fun e w' => e = .returned (.agg #[.float .f64 v, .float .f64 v]) ∧ Below w.heap.size w w' := by
  go_enter Try.func51, Try.ntmps51
  go_wp2_with fail
  refine bodyPost_ret (v := .agg #[.float .f64 v, .float .f64 v]) (by simp [results, Try.results51, go_sem, *]) rfl ⟨rfl, ?_⟩
  repeat (first | exact Below.refl _ _ | assumption | refine Below.drew ?_ | refine bl_drewN ?_ _ | refine Below.setCell ?_ (by first | omega | (simp; done) | (simp; omega)) _ | refine Below.alloc ?_ (by first | omega | (simp; done) | (simp; omega)) _ | refine bl_next ?_ (by assumption) | refine bl_trans ?_ (by assumption) (by first | omega | (simp; done) | (simp; omega)))

theorem around_001_w (v a b : Nat)
    (o1 : (Ieee.double.order a v == some .lt) = false)
    (o2 : (Ieee.double.order b v == some .gt) = false)
    (o3 : (Ieee.double.order b v == some .lt) = true) (w : World) :
    Calls Try.prog 51 #[.float .f64 v, .float .f64 a, .float .f64 b] w fun e w' => e = .returned (.agg #[.float .f64 b, .float .f64 v]) ∧ Below w.heap.size w w' := by
  go_enter Try.func51, Try.ntmps51
  go_wp2_with fail
  refine bodyPost_ret (v := .agg #[.float .f64 b, .float .f64 v]) (by simp [results, Try.results51, go_sem, *]) rfl ⟨rfl, ?_⟩
  repeat (first | exact Below.refl _ _ | assumption | refine Below.drew ?_ | refine bl_drewN ?_ _ | refine Below.setCell ?_ (by first | omega | (simp; done) | (simp; omega)) _ | refine Below.alloc ?_ (by first | omega | (simp; done) | (simp; omega)) _ | refine bl_next ?_ (by assumption) | refine bl_trans ?_ (by assumption) (by first | omega | (simp; done) | (simp; omega)))

theorem around_010_w (v a b : Nat)
    (o1 : (Ieee.double.order a v == some .lt) = false)
    (o2 : (Ieee.double.order b v == some .gt) = true)
    (o3 : (Ieee.double.order b v == some .lt) = false) (w : World) :
    Calls Try.prog 51 #[.float .f64 v, .float .f64 a, .float .f64 b] w fun e w' => e = .returned (.agg #[.float .f64 v, .float .f64 b]) ∧ Below w.heap.size w w' := by
  go_enter Try.func51, Try.ntmps51
  go_wp2_with fail
  refine bodyPost_ret (v := .agg #[.float .f64 v, .float .f64 b]) (by simp [results, Try.results51, go_sem, *]) rfl ⟨rfl, ?_⟩
  repeat (first | exact Below.refl _ _ | assumption | refine Below.drew ?_ | refine bl_drewN ?_ _ | refine Below.setCell ?_ (by first | omega | (simp; done) | (simp; omega)) _ | refine Below.alloc ?_ (by first | omega | (simp; done) | (simp; omega)) _ | refine bl_next ?_ (by assumption) | refine bl_trans ?_ (by assumption) (by first | omega | (simp; done) | (simp; omega)))

theorem around_011_w (v a b : Nat)
    (o1 : (Ieee.double.order a v == some .lt) = false)
    (o2 : (Ieee.double.order b v == some .gt) = true)
    (o3 : (Ieee.double.order b v == some .lt) = true) (w : World) :
    Calls Try.prog 51 #[.float .f64 v, .float .f64 a, .float .f64 b] w fun e w' => e = .returned (.agg #[.float .f64 b, .float .f64 b]) ∧ Below w.heap.size w w' := by
  go_enter Try.func51, Try.ntmps51
  go_wp2_with fail
  refine bodyPost_ret (v := .agg #[.float .f64 b, .float .f64 b]) (by simp [results, Try.results51, go_sem, *]) rfl ⟨rfl, ?_⟩
  repeat (first | exact Below.refl _ _ | assumption | refine Below.drew ?_ | refine bl_drewN ?_ _ | refine Below.setCell ?_ (by first | omega | (simp; done) | (simp; omega)) _ | refine Below.alloc ?_ (by first | omega | (simp; done) | (simp; omega)) _ | refine bl_next ?_ (by assumption) | refine bl_trans ?_ (by assumption) (by first | omega | (simp; done) | (simp; omega)))

theorem around_100_w (v a b : Nat)
    (o1 : (Ieee.double.order a v == some .lt) = true)
    (o2 : (Ieee.double.order b v == some .gt) = false)
    (o3 : (Ieee.double.order b a == some .lt) = false) (w : World) :
    Calls Try.prog 51 #[.float .f64 v, .float .f64 a, .float .f64 b] w fun e w' => e = .returned (.agg #[.float .f64 a, .float .f64 v]) ∧ Below w.heap.size w w' := by
  go_enter Try.func51, Try.ntmps51
  go_wp2_with fail
  refine bodyPost_ret (v := .agg #[.float .f64 a, .float .f64 v]) (by simp [results, Try.results51, go_sem, *]) rfl ⟨rfl, ?_⟩
  repeat (first | exact Below.refl _ _ | assumption | refine Below.drew ?_ | refine bl_drewN ?_ _ | refine Below.setCell ?_ (by first | omega | (simp; done) | (simp; omega)) _ | refine Below.alloc ?_ (by first | omega | (simp; done) | (simp; omega)) _ | refine bl_next ?_ (by assumption) | refine bl_trans ?_ (by assumption) (by first | omega | (simp; done) | (simp; omega)))

theorem around_101_w (v a b : Nat)
    (o1 : (Ieee.double.order a v == some .lt) = true)
    (o2 : (Ieee.double.order b v == some .gt) = false)
    (o3 : (Ieee.double.order b a == some .lt) = true) (w : World) :
    Calls Try.prog 51 #[.float .f64 v, .float .f64 a, .float .f64 b] w fun e w' => e = .returned (.agg #[.float .f64 b, .float .f64 v]) ∧ Below w.heap.size w w' := by
  go_enter Try.func51, Try.ntmps51
  go_wp2_with fail
  refine bodyPost_ret (v := .agg #[.float .f64 b, .float .f64 v]) (by simp [results, Try.results51, go_sem, *]) rfl ⟨rfl, ?_⟩
  repeat (first | exact Below.refl _ _ | assumption | refine Below.drew ?_ | refine bl_drewN ?_ _ | refine Below.setCell ?_ (by first | omega | (simp; done) | (simp; omega)) _ | refine Below.alloc ?_ (by first | omega | (simp; done) | (simp; omega)) _ | refine bl_next ?_ (by assumption) | refine bl_trans ?_ (by assumption) (by first | omega | (simp; done) | (simp; omega)))

theorem around_110_w (v a b : Nat)
    (o1 : (Ieee.double.order a v == some .lt) = true)
    (o2 : (Ieee.double.order b v == some .gt) = true)
    (o3 : (Ieee.double.order b a == some .lt) = false) (w : World) :
    Calls Try.prog 51 #[.float .f64 v, .float .f64 a, .float .f64 b] w fun e w' => e = .returned (.agg #[.float .f64 a, .float .f64 b]) ∧ Below w.heap.size w w' := by
  go_enter Try.func51, Try.ntmps51
  go_wp2_with fail
  refine bodyPost_ret (v := .agg #[.float .f64 a, .float .f64 b]) (by simp [results, Try.results51, go_sem, *]) rfl ⟨rfl, ?_⟩
  repeat (first | exact Below.refl _ _ | assumption | refine Below.drew ?_ | refine bl_drewN ?_ _ | refine Below.setCell ?_ (by first | omega | (simp; done) | (simp; omega)) _ | refine Below.alloc ?_ (by first | omega | (simp; done) | (simp; omega)) _ | refine bl_next ?_ (by assumption) | refine bl_trans ?_ (by assumption) (by first | omega | (simp; done) | (simp; omega)))

theorem around_111_w (v a b : Nat)
    (o1 : (Ieee.double.order a v == some .lt) = true)
    (o2 : (Ieee.double.order b v == some .gt) = true)
    (o3 : (Ieee.double.order b a == some .lt) = true) (w : World) :
    Calls Try.prog 51 #[.float .f64 v, .float .f64 a, .float .f64 b] w fun e w' => e = .returned (.agg #[.float .f64 b, .float .f64 b]) ∧ Below w.heap.size w w' := by
  go_enter Try.func51, Try.ntmps51
  go_wp2_with fail
  refine bodyPost_ret (v := .agg #[.float .f64 b, .float .f64 b]) (by simp [results, Try.results51, go_sem, *]) rfl ⟨rfl, ?_⟩
  repeat (first | exact Below.refl _ _ | assumption | refine Below.drew ?_ | refine bl_drewN ?_ _ | refine Below.setCell ?_ (by first | omega | (simp; done) | (simp; omega)) _ | refine Below.alloc ?_ (by first | omega | (simp; done) | (simp; omega)) _ | refine bl_next ?_ (by assumption) | refine bl_trans ?_ (by assumption) (by first | omega | (simp; done) | (simp; omega)))

theorem has_w (X1 X2 v : Nat)
    (o1 : (Ieee.double.order X1 v == some .lt || Ieee.double.order X1 v == some .eq) = true)
    (o2 : (Ieee.double.order v X2 == some .lt || Ieee.double.order v X2 == some .eq) = true)
    (i1 : ∀ w, Calls Try.prog 29 #[.float .f64 v, .int .i64 0] w fun e w' => e = .returned (.bool false) ∧ w' = w) (w : World) :
    Calls Try.prog 52 #[.agg #[.float .f64 X1, .float .f64 X2], .float .f64 v] w fun e w' => e = .returned (.bool true) ∧ Below w.heap.size w w' := by
  go_enter Try.func52, Try.ntmps52
  go_wp2_with fail
  go_at_call 29
  refine (i1 _).mono ?_
  rintro e w' ⟨rfl, rfl⟩
  go_wp2_with fail
  go_ret
  refine ⟨rfl, ?_⟩
  repeat (first | exact Below.refl _ _ | assumption | refine Below.drew ?_ | refine bl_drewN ?_ _ | refine Below.setCell ?_ (by first | omega | (simp; done) | (simp; omega)) _ | refine Below.alloc ?_ (by first | omega | (simp; done) | (simp; omega)) _ | refine bl_next ?_ (by assumption) | refine bl_trans ?_ (by assumption) (by first | omega | (simp; done) | (simp; omega)))

end Go.Proofs.Ytacnclofbnafiaa
