import Derived.Test.YtacnclofbnafiaaZ9
import Derived.Test.YtacnclofbnafiaaB2
import Derived.Test.YtacnclofbnafiaaC3
import Derived.Test.YtacnclofbnafiaaX4
namespace Go.Proofs.Ytacnclofbnafiaa
open Go.RowKit Fl

set_option maxHeartbeats 1000000 in
theorem side_w (v p o s d d1 p1 o1 m : Nat)
    (h1 : Ieee.double.add p o = some s)
    (h2 : Ieee.double.sub v s = some d)
    (a1 : ∀ w, Calls Try.prog 53 #[.float .f64 d] w fun e w' => e = .returned (.float .f64 d1) ∧ w' = w)
    (a2 : ∀ w, Calls Try.prog 53 #[.float .f64 p] w fun e w' => e = .returned (.float .f64 p1) ∧ w' = w)
    (a3 : ∀ w, Calls Try.prog 53 #[.float .f64 o] w fun e w' => e = .returned (.float .f64 o1) ∧ w' = w)
    (h3 : Ieee.double.add p1 o1 = some m)
    (bo : ∀ w, Calls Try.prog 81 #[.float .f64 d1, .float .f64 0, .float .f64 m] w fun e w' => e = .returned (.bool true) ∧ Below w.heap.size w w') (w : World) :
    Calls Try.prog 82 #[.float .f64 v, .float .f64 p, .float .f64 o] w fun e w' => e = .returned (.bool true) ∧ Below w.heap.size w w' := by
  have q1 := fun t' w => run_float_arith (P := Try.prog) w .add t' .f64 _ _ _ h1
  have q2 := fun t' w => run_float_arith (P := Try.prog) w .sub t' .f64 _ _ _ h2
  have q3 := fun t' w => run_float_arith (P := Try.prog) w .add t' .f64 _ _ _ h3
  clear h1 h2 h3
  go_enter Try.func82, Try.ntmps82
  go_wp2_with fail
  go_at_call 53
  refine (a1 _).mono ?_
  rintro e w' ⟨rfl, rfl⟩
  go_wp2_with fail
  go_at_call 53
  refine (a2 _).mono ?_
  rintro e w' ⟨rfl, rfl⟩
  go_wp2_with fail
  go_at_call 53
  refine (a3 _).mono ?_
  rintro e w' ⟨rfl, rfl⟩
  go_wp2_with fail
  go_at_call 81
  refine (bo _).mono ?_
  rintro e w1 ⟨rfl, hb1⟩
  have s1 := hb1.size
  try simp at s1
  go_wp2_with fail
  go_ret
  refine ⟨rfl, ?_⟩
  repeat (with_reducible first | exact Below.refl _ _ | assumption | refine Below.drew ?_ | refine bl_drewN ?_ _ | refine Below.setCell ?_ (by first | omega | (simp; done) | (simp; omega)) _ | refine Below.alloc ?_ (by first | omega | (simp; done) | (simp; omega)) _ | refine bl_next ?_ (by assumption) | refine bl_trans ?_ (by assumption) (by first | omega | (simp; done) | (simp; omega)))

set_option maxHeartbeats 1000000 in
theorem inBox_0_w (p q X1 X2 X3 X4 : Nat)
    (t0 : (Ieee.double.order X1 p == some .lt || Ieee.double.order X1 p == some .eq) = false) (w : World) :
    Calls Try.prog 77 #[.float .f64 p, .float .f64 q, .agg #[.float .f64 X1, .float .f64 X2, .float .f64 X3, .float .f64 X4]] w fun e w' => e = .returned (.bool false) ∧ Below w.heap.size w w' := by
  go_enter Try.func77, Try.ntmps77
  go_wp2_with fail
  obtain ⟨w0, hw0⟩ : ∃ v, v = (w.alloc (.cells #[.float .f64 X1, .float .f64 X2, .float .f64 X3, .float .f64 X4] 47)) := ⟨_, rfl⟩
  rw [← hw0]
  have c00 : w0.cell? ⟨w.heap.size, 0, none⟩ = some (.float .f64 X1) := by simp [hw0, go_sem]
  have c01 : w0.cell? ⟨w.heap.size, 1, none⟩ = some (.float .f64 X2) := by simp [hw0, go_sem]
  have c02 : w0.cell? ⟨w.heap.size, 2, none⟩ = some (.float .f64 X3) := by simp [hw0, go_sem]
  have c03 : w0.cell? ⟨w.heap.size, 3, none⟩ = some (.float .f64 X4) := by simp [hw0, go_sem]
  have s0 : w.heap.size + 1 ≤ w0.heap.size := by simp [hw0]
  have hB0 : Below w.heap.size w w0 := by
    rw [hw0]
    repeat (with_reducible first | exact Below.refl _ _ | assumption | refine Below.drew ?_ | refine bl_drewN ?_ _ | refine Below.setCell ?_ (by first | omega | (simp; done) | (simp; omega)) _ | refine Below.alloc ?_ (by first | omega | (simp; done) | (simp; omega)) _ | refine bl_next ?_ (by assumption) | refine bl_trans ?_ (by assumption) (by first | omega | (simp; done) | (simp; omega)))
  clear hw0
  go_ret
  refine ⟨rfl, ?_⟩
  repeat (with_reducible first | exact Below.refl _ _ | assumption | refine Below.drew ?_ | refine bl_drewN ?_ _ | refine Below.setCell ?_ (by first | omega | (simp; done) | (simp; omega)) _ | refine Below.alloc ?_ (by first | omega | (simp; done) | (simp; omega)) _ | refine bl_next ?_ (by assumption) | refine bl_trans ?_ (by assumption) (by first | omega | (simp; done) | (simp; omega)))

set_option maxHeartbeats 1000000 in
theorem inBox_1_w (p q X1 X2 X3 X4 : Nat)
    (t0 : (Ieee.double.order X1 p == some .lt || Ieee.double.order X1 p == some .eq) = true)
    (t1 : (Ieee.double.order p X2 == some .lt || Ieee.double.order p X2 == some .eq) = false) (w : World) :
    Calls Try.prog 77 #[.float .f64 p, .float .f64 q, .agg #[.float .f64 X1, .float .f64 X2, .float .f64 X3, .float .f64 X4]] w fun e w' => e = .returned (.bool false) ∧ Below w.heap.size w w' := by
  go_enter Try.func77, Try.ntmps77
  go_wp2_with fail
  obtain ⟨w0, hw0⟩ : ∃ v, v = (w.alloc (.cells #[.float .f64 X1, .float .f64 X2, .float .f64 X3, .float .f64 X4] 47)) := ⟨_, rfl⟩
  rw [← hw0]
  have c00 : w0.cell? ⟨w.heap.size, 0, none⟩ = some (.float .f64 X1) := by simp [hw0, go_sem]
  have c01 : w0.cell? ⟨w.heap.size, 1, none⟩ = some (.float .f64 X2) := by simp [hw0, go_sem]
  have c02 : w0.cell? ⟨w.heap.size, 2, none⟩ = some (.float .f64 X3) := by simp [hw0, go_sem]
  have c03 : w0.cell? ⟨w.heap.size, 3, none⟩ = some (.float .f64 X4) := by simp [hw0, go_sem]
  have s0 : w.heap.size + 1 ≤ w0.heap.size := by simp [hw0]
  have hB0 : Below w.heap.size w w0 := by
    rw [hw0]
    repeat (with_reducible first | exact Below.refl _ _ | assumption | refine Below.drew ?_ | refine bl_drewN ?_ _ | refine Below.setCell ?_ (by first | omega | (simp; done) | (simp; omega)) _ | refine Below.alloc ?_ (by first | omega | (simp; done) | (simp; omega)) _ | refine bl_next ?_ (by assumption) | refine bl_trans ?_ (by assumption) (by first | omega | (simp; done) | (simp; omega)))
  clear hw0
  go_ret
  refine ⟨rfl, ?_⟩
  repeat (with_reducible first | exact Below.refl _ _ | assumption | refine Below.drew ?_ | refine bl_drewN ?_ _ | refine Below.setCell ?_ (by first | omega | (simp; done) | (simp; omega)) _ | refine Below.alloc ?_ (by first | omega | (simp; done) | (simp; omega)) _ | refine bl_next ?_ (by assumption) | refine bl_trans ?_ (by assumption) (by first | omega | (simp; done) | (simp; omega)))

set_option maxHeartbeats 1000000 in
theorem inBox_2_w (p q X1 X2 X3 X4 : Nat)
    (t0 : (Ieee.double.order X1 p == some .lt || Ieee.double.order X1 p == some .eq) = true)
    (t1 : (Ieee.double.order p X2 == some .lt || Ieee.double.order p X2 == some .eq) = true)
    (t2 : (Ieee.double.order X3 q == some .lt || Ieee.double.order X3 q == some .eq) = false) (w : World) :
    Calls Try.prog 77 #[.float .f64 p, .float .f64 q, .agg #[.float .f64 X1, .float .f64 X2, .float .f64 X3, .float .f64 X4]] w fun e w' => e = .returned (.bool false) ∧ Below w.heap.size w w' := by
  go_enter Try.func77, Try.ntmps77
  go_wp2_with fail
  obtain ⟨w0, hw0⟩ : ∃ v, v = (w.alloc (.cells #[.float .f64 X1, .float .f64 X2, .float .f64 X3, .float .f64 X4] 47)) := ⟨_, rfl⟩
  rw [← hw0]
  have c00 : w0.cell? ⟨w.heap.size, 0, none⟩ = some (.float .f64 X1) := by simp [hw0, go_sem]
  have c01 : w0.cell? ⟨w.heap.size, 1, none⟩ = some (.float .f64 X2) := by simp [hw0, go_sem]
  have c02 : w0.cell? ⟨w.heap.size, 2, none⟩ = some (.float .f64 X3) := by simp [hw0, go_sem]
  have c03 : w0.cell? ⟨w.heap.size, 3, none⟩ = some (.float .f64 X4) := by simp [hw0, go_sem]
  have s0 : w.heap.size + 1 ≤ w0.heap.size := by simp [hw0]
  have hB0 : Below w.heap.size w w0 := by
    rw [hw0]
    repeat (with_reducible first | exact Below.refl _ _ | assumption | refine Below.drew ?_ | refine bl_drewN ?_ _ | refine Below.setCell ?_ (by first | omega | (simp; done) | (simp; omega)) _ | refine Below.alloc ?_ (by first | omega | (simp; done) | (simp; omega)) _ | refine bl_next ?_ (by assumption) | refine bl_trans ?_ (by assumption) (by first | omega | (simp; done) | (simp; omega)))
  clear hw0
  go_ret
  refine ⟨rfl, ?_⟩
  repeat (with_reducible first | exact Below.refl _ _ | assumption | refine Below.drew ?_ | refine bl_drewN ?_ _ | refine Below.setCell ?_ (by first | omega | (simp; done) | (simp; omega)) _ | refine Below.alloc ?_ (by first | omega | (simp; done) | (simp; omega)) _ | refine bl_next ?_ (by assumption) | refine bl_trans ?_ (by assumption) (by first | omega | (simp; done) | (simp; omega)))

set_option maxHeartbeats 1000000 in
theorem inBox_3_w (p q X1 X2 X3 X4 : Nat)
    (t0 : (Ieee.double.order X1 p == some .lt || Ieee.double.order X1 p == some .eq) = true)
    (t1 : (Ieee.double.order p X2 == some .lt || Ieee.double.order p X2 == some .eq) = true)
    (t2 : (Ieee.double.order X3 q == some .lt || Ieee.double.order X3 q == some .eq) = true)
    (t3 : (Ieee.double.order q X4 == some .lt || Ieee.double.order q X4 == some .eq) = false) (w : World) :
    Calls Try.prog 77 #[.float .f64 p, .float .f64 q, .agg #[.float .f64 X1, .float .f64 X2, .float .f64 X3, .float .f64 X4]] w fun e w' => e = .returned (.bool false) ∧ Below w.heap.size w w' := by
  go_enter Try.func77, Try.ntmps77
  go_wp2_with fail
  obtain ⟨w0, hw0⟩ : ∃ v, v = (w.alloc (.cells #[.float .f64 X1, .float .f64 X2, .float .f64 X3, .float .f64 X4] 47)) := ⟨_, rfl⟩
  rw [← hw0]
  have c00 : w0.cell? ⟨w.heap.size, 0, none⟩ = some (.float .f64 X1) := by simp [hw0, go_sem]
  have c01 : w0.cell? ⟨w.heap.size, 1, none⟩ = some (.float .f64 X2) := by simp [hw0, go_sem]
  have c02 : w0.cell? ⟨w.heap.size, 2, none⟩ = some (.float .f64 X3) := by simp [hw0, go_sem]
  have c03 : w0.cell? ⟨w.heap.size, 3, none⟩ = some (.float .f64 X4) := by simp [hw0, go_sem]
  have s0 : w.heap.size + 1 ≤ w0.heap.size := by simp [hw0]
  have hB0 : Below w.heap.size w w0 := by
    rw [hw0]
    repeat (with_reducible first | exact Below.refl _ _ | assumption | refine Below.drew ?_ | refine bl_drewN ?_ _ | refine Below.setCell ?_ (by first | omega | (simp; done) | (simp; omega)) _ | refine Below.alloc ?_ (by first | omega | (simp; done) | (simp; omega)) _ | refine bl_next ?_ (by assumption) | refine bl_trans ?_ (by assumption) (by first | omega | (simp; done) | (simp; omega)))
  clear hw0
  go_ret
  refine ⟨rfl, ?_⟩
  repeat (with_reducible first | exact Below.refl _ _ | assumption | refine Below.drew ?_ | refine bl_drewN ?_ _ | refine Below.setCell ?_ (by first | omega | (simp; done) | (simp; omega)) _ | refine Below.alloc ?_ (by first | omega | (simp; done) | (simp; omega)) _ | refine bl_next ?_ (by assumption) | refine bl_trans ?_ (by assumption) (by first | omega | (simp; done) | (simp; omega)))

set_option maxHeartbeats 1000000 in
theorem inBox_4_w (p q X1 X2 X3 X4 : Nat)
    (t0 : (Ieee.double.order X1 p == some .lt || Ieee.double.order X1 p == some .eq) = true)
    (t1 : (Ieee.double.order p X2 == some .lt || Ieee.double.order p X2 == some .eq) = true)
    (t2 : (Ieee.double.order X3 q == some .lt || Ieee.double.order X3 q == some .eq) = true)
    (t3 : (Ieee.double.order q X4 == some .lt || Ieee.double.order q X4 == some .eq) = true) (w : World) :
    Calls Try.prog 77 #[.float .f64 p, .float .f64 q, .agg #[.float .f64 X1, .float .f64 X2, .float .f64 X3, .float .f64 X4]] w fun e w' => e = .returned (.bool true) ∧ Below w.heap.size w w' := by
  go_enter Try.func77, Try.ntmps77
  go_wp2_with fail
  obtain ⟨w0, hw0⟩ : ∃ v, v = (w.alloc (.cells #[.float .f64 X1, .float .f64 X2, .float .f64 X3, .float .f64 X4] 47)) := ⟨_, rfl⟩
  rw [← hw0]
  have c00 : w0.cell? ⟨w.heap.size, 0, none⟩ = some (.float .f64 X1) := by simp [hw0, go_sem]
  have c01 : w0.cell? ⟨w.heap.size, 1, none⟩ = some (.float .f64 X2) := by simp [hw0, go_sem]
  have c02 : w0.cell? ⟨w.heap.size, 2, none⟩ = some (.float .f64 X3) := by simp [hw0, go_sem]
  have c03 : w0.cell? ⟨w.heap.size, 3, none⟩ = some (.float .f64 X4) := by simp [hw0, go_sem]
  have s0 : w.heap.size + 1 ≤ w0.heap.size := by simp [hw0]
  have hB0 : Below w.heap.size w w0 := by
    rw [hw0]
    repeat (with_reducible first | exact Below.refl _ _ | assumption | refine Below.drew ?_ | refine bl_drewN ?_ _ | refine Below.setCell ?_ (by first | omega | (simp; done) | (simp; omega)) _ | refine Below.alloc ?_ (by first | omega | (simp; done) | (simp; omega)) _ | refine bl_next ?_ (by assumption) | refine bl_trans ?_ (by assumption) (by first | omega | (simp; done) | (simp; omega)))
  clear hw0
  go_ret
  refine ⟨rfl, ?_⟩
  repeat (with_reducible first | exact Below.refl _ _ | assumption | refine Below.drew ?_ | refine bl_drewN ?_ _ | refine Below.setCell ?_ (by first | omega | (simp; done) | (simp; omega)) _ | refine Below.alloc ?_ (by first | omega | (simp; done) | (simp; omega)) _ | refine bl_next ?_ (by assumption) | refine bl_trans ?_ (by assumption) (by first | omega | (simp; done) | (simp; omega)))

theorem amax_run {x y h : Nat} (e : Extern.MathDim.pick "math.archMax" false .gt #[.float .f64 x, .float .f64 y] = pure (.float .f64 h)) (w : World) : (callFunc 127 #[.float .f64 x, .float .f64 y]).run Try.prog w = .ok (.value (.float .f64 h)) w := by
  rw [run_callFunc_extern Try.func127 (by kernel_rfl) (by kernel_rfl) (by kernel_rfl) (e := Extern.MathDim.pick "math.archMax" false .gt) (by kernel_rfl), e]
  rfl
theorem Max_w {x y h : Nat} (e : Extern.MathDim.pick "math.archMax" false .gt #[.float .f64 x, .float .f64 y] = pure (.float .f64 h)) (w : World) : Calls Try.prog 80 #[.float .f64 x, .float .f64 y] w fun e w' => e = .returned (.float .f64 h) ∧ w' = w := by
  have hr := amax_run e
  clear e
  go_enter Try.func80, Try.ntmps80
  go_wp2
  go_ret
  exact ⟨rfl, rfl⟩

end Go.Proofs.Ytacnclofbnafiaa
