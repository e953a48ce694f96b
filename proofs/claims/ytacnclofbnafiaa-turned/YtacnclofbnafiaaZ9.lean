import Derived.Test.YtacnclofbnafiaaZP
import Derived.Test.YtacnclofbnafiaaC3
namespace Go.Proofs.Ytacnclofbnafiaa
open Go.RowKit Fl

set_option maxHeartbeats 1000000 in
theorem bound_lt_w (v r m a b c d g f : Nat)
    (l1 : ∀ w, Calls Try.prog 79 #[.float .f64 r, .int .i64 (-39)] w fun e w' => e = .returned (.float .f64 a) ∧ w' = w)
    (h1 : Ieee.double.add r a = some b)
    (l2 : ∀ w, Calls Try.prog 79 #[.float .f64 m, .int .i64 (-39)] w fun e w' => e = .returned (.float .f64 c) ∧ w' = w)
    (h2 : Ieee.double.add b c = some d)
    (l3 : ∀ w, Calls Try.prog 79 #[.float .f64 4607182418800017408, .int .i64 (-499)] w fun e w' => e = .returned (.float .f64 g) ∧ w' = w)
    (h3 : Ieee.double.add d g = some f)
    (o : Ieee.double.order v f = some .lt) (w : World) :
    Calls Try.prog 81 #[.float .f64 v, .float .f64 r, .float .f64 m] w fun e w' => e = .returned (.bool true) ∧ Below w.heap.size w w' := by
  have a1 := fun t' w => run_float_arith (P := Try.prog) w .add t' .f64 _ _ _ h1
  have a2 := fun t' w => run_float_arith (P := Try.prog) w .add t' .f64 _ _ _ h2
  have a3 := fun t' w => run_float_arith (P := Try.prog) w .add t' .f64 _ _ _ h3
  clear h1 h2 h3
  go_enter Try.func81, Try.ntmps81
  go_wp2_with fail
  go_at_call 79
  refine (l1 _).mono ?_
  rintro e w' ⟨rfl, rfl⟩
  go_wp2_with fail
  go_at_call 79
  refine (l2 _).mono ?_
  rintro e w' ⟨rfl, rfl⟩
  go_wp2_with fail
  go_at_call 79
  refine (l3 _).mono ?_
  rintro e w' ⟨rfl, rfl⟩
  go_wp2_with fail
  go_ret
  refine ⟨rfl, ?_⟩
  repeat (with_reducible first | exact Below.refl _ _ | assumption | refine Below.drew ?_ | refine bl_drewN ?_ _ | refine Below.setCell ?_ (by first | omega | (simp; done) | (simp; omega)) _ | refine Below.alloc ?_ (by first | omega | (simp; done) | (simp; omega)) _ | refine bl_next ?_ (by assumption) | refine bl_trans ?_ (by assumption) (by first | omega | (simp; done) | (simp; omega)))

set_option maxHeartbeats 1000000 in
theorem bound_eq_w (v r m a b c d g f : Nat)
    (l1 : ∀ w, Calls Try.prog 79 #[.float .f64 r, .int .i64 (-39)] w fun e w' => e = .returned (.float .f64 a) ∧ w' = w)
    (h1 : Ieee.double.add r a = some b)
    (l2 : ∀ w, Calls Try.prog 79 #[.float .f64 m, .int .i64 (-39)] w fun e w' => e = .returned (.float .f64 c) ∧ w' = w)
    (h2 : Ieee.double.add b c = some d)
    (l3 : ∀ w, Calls Try.prog 79 #[.float .f64 4607182418800017408, .int .i64 (-499)] w fun e w' => e = .returned (.float .f64 g) ∧ w' = w)
    (h3 : Ieee.double.add d g = some f)
    (o : Ieee.double.order v f = some .eq) (w : World) :
    Calls Try.prog 81 #[.float .f64 v, .float .f64 r, .float .f64 m] w fun e w' => e = .returned (.bool true) ∧ Below w.heap.size w w' := by
  have a1 := fun t' w => run_float_arith (P := Try.prog) w .add t' .f64 _ _ _ h1
  have a2 := fun t' w => run_float_arith (P := Try.prog) w .add t' .f64 _ _ _ h2
  have a3 := fun t' w => run_float_arith (P := Try.prog) w .add t' .f64 _ _ _ h3
  clear h1 h2 h3
  go_enter Try.func81, Try.ntmps81
  go_wp2_with fail
  go_at_call 79
  refine (l1 _).mono ?_
  rintro e w' ⟨rfl, rfl⟩
  go_wp2_with fail
  go_at_call 79
  refine (l2 _).mono ?_
  rintro e w' ⟨rfl, rfl⟩
  go_wp2_with fail
  go_at_call 79
  refine (l3 _).mono ?_
  rintro e w' ⟨rfl, rfl⟩
  go_wp2_with fail
  go_ret
  refine ⟨rfl, ?_⟩
  repeat (with_reducible first | exact Below.refl _ _ | assumption | refine Below.drew ?_ | refine bl_drewN ?_ _ | refine Below.setCell ?_ (by first | omega | (simp; done) | (simp; omega)) _ | refine Below.alloc ?_ (by first | omega | (simp; done) | (simp; omega)) _ | refine bl_next ?_ (by assumption) | refine bl_trans ?_ (by assumption) (by first | omega | (simp; done) | (simp; omega)))

set_option maxHeartbeats 1000000 in
theorem size_w (a b h : Nat)
    (hy : ∀ w, Calls Try.prog 122 #[.float .f64 a, .float .f64 b] w fun e w' => e = .returned (.float .f64 h) ∧ w' = w) (w : World) :
    Calls Try.prog 74 #[.complex .f64 a b] w fun e w' => e = .returned (.float .f64 h) ∧ Below w.heap.size w w' := by
  go_enter Try.func74, Try.ntmps74
  go_wp2_with fail
  go_at_call 122
  refine (hy _).mono ?_
  rintro e w' ⟨rfl, rfl⟩
  go_wp2_with fail
  go_ret
  refine ⟨rfl, ?_⟩
  repeat (with_reducible first | exact Below.refl _ _ | assumption | refine Below.drew ?_ | refine bl_drewN ?_ _ | refine Below.setCell ?_ (by first | omega | (simp; done) | (simp; omega)) _ | refine Below.alloc ?_ (by first | omega | (simp; done) | (simp; omega)) _ | refine bl_next ?_ (by assumption) | refine bl_trans ?_ (by assumption) (by first | omega | (simp; done) | (simp; omega)))

set_option maxHeartbeats 1000000 in
theorem modest_1_w (a b r m x : Nat)
    (l1 : ∀ w, Calls Try.prog 79 #[.float .f64 4607182418800017408, .int .i64 (300)] w fun e w' => e = .returned (.float .f64 m) ∧ w' = w)
    (a1 : ∀ w, Calls Try.prog 53 #[.float .f64 a] w fun e w' => e = .returned (.float .f64 x) ∧ w' = w)
    (t1 : (Ieee.double.order x m == some .lt || Ieee.double.order x m == some .eq) = false) (w : World) :
    Calls Try.prog 73 #[.agg #[.complex .f64 a b, .float .f64 r]] w fun e w' => e = .returned (.bool false) ∧ Below w.heap.size w w' := by
  go_enter Try.func73, Try.ntmps73
  go_wp2_with fail
  obtain ⟨w0, hw0⟩ : ∃ v, v = (w.alloc (.cells #[.complex .f64 a b, .float .f64 r] 55)) := ⟨_, rfl⟩
  rw [← hw0]
  have c00 : w0.cell? ⟨w.heap.size, 0, none⟩ = some (.complex .f64 a b) := by simp [hw0, go_sem]
  have c01 : w0.cell? ⟨w.heap.size, 1, none⟩ = some (.float .f64 r) := by simp [hw0, go_sem]
  have s0 : w.heap.size + 1 ≤ w0.heap.size := by simp [hw0]
  have hB0 : Below w.heap.size w w0 := by
    rw [hw0]
    repeat (with_reducible first | exact Below.refl _ _ | assumption | refine Below.drew ?_ | refine bl_drewN ?_ _ | refine Below.setCell ?_ (by first | omega | (simp; done) | (simp; omega)) _ | refine Below.alloc ?_ (by first | omega | (simp; done) | (simp; omega)) _ | refine bl_next ?_ (by assumption) | refine bl_trans ?_ (by assumption) (by first | omega | (simp; done) | (simp; omega)))
  clear hw0
  go_at_call 79
  refine (l1 _).mono ?_
  rintro e w' ⟨rfl, rfl⟩
  go_wp2_with fail
  go_at_call 53
  refine (a1 _).mono ?_
  rintro e w' ⟨rfl, rfl⟩
  go_wp2_with fail
  go_ret
  refine ⟨rfl, ?_⟩
  repeat (with_reducible first | exact Below.refl _ _ | assumption | refine Below.drew ?_ | refine bl_drewN ?_ _ | refine Below.setCell ?_ (by first | omega | (simp; done) | (simp; omega)) _ | refine Below.alloc ?_ (by first | omega | (simp; done) | (simp; omega)) _ | refine bl_next ?_ (by assumption) | refine bl_trans ?_ (by assumption) (by first | omega | (simp; done) | (simp; omega)))

set_option maxHeartbeats 1000000 in
theorem modest_2_w (a b r m x y : Nat)
    (l1 : ∀ w, Calls Try.prog 79 #[.float .f64 4607182418800017408, .int .i64 (300)] w fun e w' => e = .returned (.float .f64 m) ∧ w' = w)
    (a1 : ∀ w, Calls Try.prog 53 #[.float .f64 a] w fun e w' => e = .returned (.float .f64 x) ∧ w' = w)
    (a2 : ∀ w, Calls Try.prog 53 #[.float .f64 b] w fun e w' => e = .returned (.float .f64 y) ∧ w' = w)
    (t1 : (Ieee.double.order x m == some .lt || Ieee.double.order x m == some .eq) = true)
    (t2 : (Ieee.double.order y m == some .lt || Ieee.double.order y m == some .eq) = false) (w : World) :
    Calls Try.prog 73 #[.agg #[.complex .f64 a b, .float .f64 r]] w fun e w' => e = .returned (.bool false) ∧ Below w.heap.size w w' := by
  go_enter Try.func73, Try.ntmps73
  go_wp2_with fail
  obtain ⟨w0, hw0⟩ : ∃ v, v = (w.alloc (.cells #[.complex .f64 a b, .float .f64 r] 55)) := ⟨_, rfl⟩
  rw [← hw0]
  have c00 : w0.cell? ⟨w.heap.size, 0, none⟩ = some (.complex .f64 a b) := by simp [hw0, go_sem]
  have c01 : w0.cell? ⟨w.heap.size, 1, none⟩ = some (.float .f64 r) := by simp [hw0, go_sem]
  have s0 : w.heap.size + 1 ≤ w0.heap.size := by simp [hw0]
  have hB0 : Below w.heap.size w w0 := by
    rw [hw0]
    repeat (with_reducible first | exact Below.refl _ _ | assumption | refine Below.drew ?_ | refine bl_drewN ?_ _ | refine Below.setCell ?_ (by first | omega | (simp; done) | (simp; omega)) _ | refine Below.alloc ?_ (by first | omega | (simp; done) | (simp; omega)) _ | refine bl_next ?_ (by assumption) | refine bl_trans ?_ (by assumption) (by first | omega | (simp; done) | (simp; omega)))
  clear hw0
  go_at_call 79
  refine (l1 _).mono ?_
  rintro e w' ⟨rfl, rfl⟩
  go_wp2_with fail
  go_at_call 53
  refine (a1 _).mono ?_
  rintro e w' ⟨rfl, rfl⟩
  go_wp2_with fail
  go_at_call 53
  refine (a2 _).mono ?_
  rintro e w' ⟨rfl, rfl⟩
  go_wp2_with fail
  go_ret
  refine ⟨rfl, ?_⟩
  repeat (with_reducible first | exact Below.refl _ _ | assumption | refine Below.drew ?_ | refine bl_drewN ?_ _ | refine Below.setCell ?_ (by first | omega | (simp; done) | (simp; omega)) _ | refine Below.alloc ?_ (by first | omega | (simp; done) | (simp; omega)) _ | refine bl_next ?_ (by assumption) | refine bl_trans ?_ (by assumption) (by first | omega | (simp; done) | (simp; omega)))

set_option maxHeartbeats 1000000 in
theorem modest_3_w (a b r m x y : Nat)
    (l1 : ∀ w, Calls Try.prog 79 #[.float .f64 4607182418800017408, .int .i64 (300)] w fun e w' => e = .returned (.float .f64 m) ∧ w' = w)
    (a1 : ∀ w, Calls Try.prog 53 #[.float .f64 a] w fun e w' => e = .returned (.float .f64 x) ∧ w' = w)
    (a2 : ∀ w, Calls Try.prog 53 #[.float .f64 b] w fun e w' => e = .returned (.float .f64 y) ∧ w' = w)
    (t1 : (Ieee.double.order x m == some .lt || Ieee.double.order x m == some .eq) = true)
    (t2 : (Ieee.double.order y m == some .lt || Ieee.double.order y m == some .eq) = true)
    (t3 : (Ieee.double.order r 0 == some .gt || Ieee.double.order r 0 == some .eq) = false) (w : World) :
    Calls Try.prog 73 #[.agg #[.complex .f64 a b, .float .f64 r]] w fun e w' => e = .returned (.bool false) ∧ Below w.heap.size w w' := by
  go_enter Try.func73, Try.ntmps73
  go_wp2_with fail
  obtain ⟨w0, hw0⟩ : ∃ v, v = (w.alloc (.cells #[.complex .f64 a b, .float .f64 r] 55)) := ⟨_, rfl⟩
  rw [← hw0]
  have c00 : w0.cell? ⟨w.heap.size, 0, none⟩ = some (.complex .f64 a b) := by simp [hw0, go_sem]
  have c01 : w0.cell? ⟨w.heap.size, 1, none⟩ = some (.float .f64 r) := by simp [hw0, go_sem]
  have s0 : w.heap.size + 1 ≤ w0.heap.size := by simp [hw0]
  have hB0 : Below w.heap.size w w0 := by
    rw [hw0]
    repeat (with_reducible first | exact Below.refl _ _ | assumption | refine Below.drew ?_ | refine bl_drewN ?_ _ | refine Below.setCell ?_ (by first | omega | (simp; done) | (simp; omega)) _ | refine Below.alloc ?_ (by first | omega | (simp; done) | (simp; omega)) _ | refine bl_next ?_ (by assumption) | refine bl_trans ?_ (by assumption) (by first | omega | (simp; done) | (simp; omega)))
  clear hw0
  go_at_call 79
  refine (l1 _).mono ?_
  rintro e w' ⟨rfl, rfl⟩
  go_wp2_with fail
  go_at_call 53
  refine (a1 _).mono ?_
  rintro e w' ⟨rfl, rfl⟩
  go_wp2_with fail
  go_at_call 53
  refine (a2 _).mono ?_
  rintro e w' ⟨rfl, rfl⟩
  go_wp2_with fail
  go_ret
  refine ⟨rfl, ?_⟩
  repeat (with_reducible first | exact Below.refl _ _ | assumption | refine Below.drew ?_ | refine bl_drewN ?_ _ | refine Below.setCell ?_ (by first | omega | (simp; done) | (simp; omega)) _ | refine Below.alloc ?_ (by first | omega | (simp; done) | (simp; omega)) _ | refine bl_next ?_ (by assumption) | refine bl_trans ?_ (by assumption) (by first | omega | (simp; done) | (simp; omega)))

set_option maxHeartbeats 1000000 in
theorem modest_4_w (a b r m x y : Nat)
    (l1 : ∀ w, Calls Try.prog 79 #[.float .f64 4607182418800017408, .int .i64 (300)] w fun e w' => e = .returned (.float .f64 m) ∧ w' = w)
    (a1 : ∀ w, Calls Try.prog 53 #[.float .f64 a] w fun e w' => e = .returned (.float .f64 x) ∧ w' = w)
    (a2 : ∀ w, Calls Try.prog 53 #[.float .f64 b] w fun e w' => e = .returned (.float .f64 y) ∧ w' = w)
    (t1 : (Ieee.double.order x m == some .lt || Ieee.double.order x m == some .eq) = true)
    (t2 : (Ieee.double.order y m == some .lt || Ieee.double.order y m == some .eq) = true)
    (t3 : (Ieee.double.order r 0 == some .gt || Ieee.double.order r 0 == some .eq) = true)
    (t4 : (Ieee.double.order r m == some .lt || Ieee.double.order r m == some .eq) = false) (w : World) :
    Calls Try.prog 73 #[.agg #[.complex .f64 a b, .float .f64 r]] w fun e w' => e = .returned (.bool false) ∧ Below w.heap.size w w' := by
  go_enter Try.func73, Try.ntmps73
  go_wp2_with fail
  obtain ⟨w0, hw0⟩ : ∃ v, v = (w.alloc (.cells #[.complex .f64 a b, .float .f64 r] 55)) := ⟨_, rfl⟩
  rw [← hw0]
  have c00 : w0.cell? ⟨w.heap.size, 0, none⟩ = some (.complex .f64 a b) := by simp [hw0, go_sem]
  have c01 : w0.cell? ⟨w.heap.size, 1, none⟩ = some (.float .f64 r) := by simp [hw0, go_sem]
  have s0 : w.heap.size + 1 ≤ w0.heap.size := by simp [hw0]
  have hB0 : Below w.heap.size w w0 := by
    rw [hw0]
    repeat (with_reducible first | exact Below.refl _ _ | assumption | refine Below.drew ?_ | refine bl_drewN ?_ _ | refine Below.setCell ?_ (by first | omega | (simp; done) | (simp; omega)) _ | refine Below.alloc ?_ (by first | omega | (simp; done) | (simp; omega)) _ | refine bl_next ?_ (by assumption) | refine bl_trans ?_ (by assumption) (by first | omega | (simp; done) | (simp; omega)))
  clear hw0
  go_at_call 79
  refine (l1 _).mono ?_
  rintro e w' ⟨rfl, rfl⟩
  go_wp2_with fail
  go_at_call 53
  refine (a1 _).mono ?_
  rintro e w' ⟨rfl, rfl⟩
  go_wp2_with fail
  go_at_call 53
  refine (a2 _).mono ?_
  rintro e w' ⟨rfl, rfl⟩
  go_wp2_with fail
  go_ret
  refine ⟨rfl, ?_⟩
  repeat (with_reducible first | exact Below.refl _ _ | assumption | refine Below.drew ?_ | refine bl_drewN ?_ _ | refine Below.setCell ?_ (by first | omega | (simp; done) | (simp; omega)) _ | refine Below.alloc ?_ (by first | omega | (simp; done) | (simp; omega)) _ | refine bl_next ?_ (by assumption) | refine bl_trans ?_ (by assumption) (by first | omega | (simp; done) | (simp; omega)))

set_option maxHeartbeats 1000000 in
theorem modest_5_w (a b r m x y : Nat)
    (l1 : ∀ w, Calls Try.prog 79 #[.float .f64 4607182418800017408, .int .i64 (300)] w fun e w' => e = .returned (.float .f64 m) ∧ w' = w)
    (a1 : ∀ w, Calls Try.prog 53 #[.float .f64 a] w fun e w' => e = .returned (.float .f64 x) ∧ w' = w)
    (a2 : ∀ w, Calls Try.prog 53 #[.float .f64 b] w fun e w' => e = .returned (.float .f64 y) ∧ w' = w)
    (t1 : (Ieee.double.order x m == some .lt || Ieee.double.order x m == some .eq) = true)
    (t2 : (Ieee.double.order y m == some .lt || Ieee.double.order y m == some .eq) = true)
    (t3 : (Ieee.double.order r 0 == some .gt || Ieee.double.order r 0 == some .eq) = true)
    (t4 : (Ieee.double.order r m == some .lt || Ieee.double.order r m == some .eq) = true) (w : World) :
    Calls Try.prog 73 #[.agg #[.complex .f64 a b, .float .f64 r]] w fun e w' => e = .returned (.bool true) ∧ Below w.heap.size w w' := by
  go_enter Try.func73, Try.ntmps73
  go_wp2_with fail
  obtain ⟨w0, hw0⟩ : ∃ v, v = (w.alloc (.cells #[.complex .f64 a b, .float .f64 r] 55)) := ⟨_, rfl⟩
  rw [← hw0]
  have c00 : w0.cell? ⟨w.heap.size, 0, none⟩ = some (.complex .f64 a b) := by simp [hw0, go_sem]
  have c01 : w0.cell? ⟨w.heap.size, 1, none⟩ = some (.float .f64 r) := by simp [hw0, go_sem]
  have s0 : w.heap.size + 1 ≤ w0.heap.size := by simp [hw0]
  have hB0 : Below w.heap.size w w0 := by
    rw [hw0]
    repeat (with_reducible first | exact Below.refl _ _ | assumption | refine Below.drew ?_ | refine bl_drewN ?_ _ | refine Below.setCell ?_ (by first | omega | (simp; done) | (simp; omega)) _ | refine Below.alloc ?_ (by first | omega | (simp; done) | (simp; omega)) _ | refine bl_next ?_ (by assumption) | refine bl_trans ?_ (by assumption) (by first | omega | (simp; done) | (simp; omega)))
  clear hw0
  go_at_call 79
  refine (l1 _).mono ?_
  rintro e w' ⟨rfl, rfl⟩
  go_wp2_with fail
  go_at_call 53
  refine (a1 _).mono ?_
  rintro e w' ⟨rfl, rfl⟩
  go_wp2_with fail
  go_at_call 53
  refine (a2 _).mono ?_
  rintro e w' ⟨rfl, rfl⟩
  go_wp2_with fail
  go_ret
  refine ⟨rfl, ?_⟩
  repeat (with_reducible first | exact Below.refl _ _ | assumption | refine Below.drew ?_ | refine bl_drewN ?_ _ | refine Below.setCell ?_ (by first | omega | (simp; done) | (simp; omega)) _ | refine Below.alloc ?_ (by first | omega | (simp; done) | (simp; omega)) _ | refine bl_next ?_ (by assumption) | refine bl_trans ?_ (by assumption) (by first | omega | (simp; done) | (simp; omega)))

end Go.Proofs.Ytacnclofbnafiaa
