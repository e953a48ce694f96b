import Derived.Test.YtacnclofbnafiabGreatDoorST
import Derived.Test.YtacnclofbnafiabGreatDoorPG
import Derived.Test.YtacnclofbnafiabGreatDoorX3
import Derived.Laws.BytesArg
namespace Go.Proofs.YtacnclofbnafiabGreatDoor
open Go.RowKit Fl

set_option maxHeartbeats 1000000 in
theorem lasBox0_w (X1 X2 X3 X4 a b r : Nat) (w : World) : Calls Tryz.prog 26 #[.int .i64 0, .agg #[.float .f64 X1, .float .f64 X2, .float .f64 X3, .float .f64 X4], .agg #[.complex .f64 a b, .float .f64 r]] w fun e w' => e = .returned (.agg #[.float .f64 X1, .float .f64 X2, .float .f64 X3, .float .f64 X4]) ∧ Below w.heap.size w w' := by
  go_enter Tryz.func26, Tryz.ntmps26
  go_wp2
  refine bodyPost_ret (v := .agg #[.float .f64 X1, .float .f64 X2, .float .f64 X3, .float .f64 X4]) (by simp [results, Tryz.results26, go_sem]) rfl ⟨rfl, ?_⟩
  repeat (with_reducible first | exact Below.refl _ _ | refine bl_alloc ?_ | refine Below.setCell ?_ (by first | omega | (simp; done) | (simp; omega)) _ | refine Below.alloc ?_ (by first | omega | (simp; done) | (simp; omega)) _ | refine bl_drewN ?_ _)

set_option maxHeartbeats 1000000 in
theorem lasBox1_w (X1 X2 X3 X4 a b r e1 e2 e3 e4 : Nat)
    (h : ∀ w, Calls Tryz.prog 51 #[.agg #[.complex .f64 a b, .float .f64 r]] w fun e w' => e = .returned (.agg #[.float .f64 e1, .float .f64 e2, .float .f64 e3, .float .f64 e4]) ∧ Below w.heap.size w w') (w : World) :
    Calls Tryz.prog 26 #[.int .i64 1, .agg #[.float .f64 X1, .float .f64 X2, .float .f64 X3, .float .f64 X4], .agg #[.complex .f64 a b, .float .f64 r]] w fun e w' => e = .returned (.agg #[.float .f64 e1, .float .f64 e2, .float .f64 e3, .float .f64 e4]) ∧ Below w.heap.size w w' := by
  go_enter Tryz.func26, Tryz.ntmps26
  go_wp2_with fail
  obtain ⟨w0, hw0⟩ : ∃ v, v = (((w.alloc (.cells #[.float .f64 X1, .float .f64 X2, .float .f64 X3, .float .f64 X4] 39)).alloc (.cells #[.complex .f64 a b, .float .f64 r] 42)).alloc (.cells #[.float .f64 0, .float .f64 0, .float .f64 0, .float .f64 0] 39)) := ⟨_, rfl⟩
  rw [← hw0]
  have c00 : w0.cell? ⟨w.heap.size, 0, none⟩ = some (.float .f64 X1) := by simp [hw0, go_sem]
  have c01 : w0.cell? ⟨w.heap.size, 1, none⟩ = some (.float .f64 X2) := by simp [hw0, go_sem]
  have c02 : w0.cell? ⟨w.heap.size, 2, none⟩ = some (.float .f64 X3) := by simp [hw0, go_sem]
  have c03 : w0.cell? ⟨w.heap.size, 3, none⟩ = some (.float .f64 X4) := by simp [hw0, go_sem]
  have c10 : w0.cell? ⟨w.heap.size + 1, 0, none⟩ = some (.complex .f64 a b) := by simp [hw0, go_sem]
  have c11 : w0.cell? ⟨w.heap.size + 1, 1, none⟩ = some (.float .f64 r) := by simp [hw0, go_sem]
  have c20 : w0.cell? ⟨w.heap.size + 1 + 1, 0, none⟩ = some (.float .f64 0) := by simp [hw0, go_sem]
  have fc20 : w0.frozen? ⟨w.heap.size + 1 + 1, 0, none⟩ = false := by simp [hw0, go_sem]
  have c21 : w0.cell? ⟨w.heap.size + 1 + 1, 1, none⟩ = some (.float .f64 0) := by simp [hw0, go_sem]
  have fc21 : w0.frozen? ⟨w.heap.size + 1 + 1, 1, none⟩ = false := by simp [hw0, go_sem]
  have c22 : w0.cell? ⟨w.heap.size + 1 + 1, 2, none⟩ = some (.float .f64 0) := by simp [hw0, go_sem]
  have fc22 : w0.frozen? ⟨w.heap.size + 1 + 1, 2, none⟩ = false := by simp [hw0, go_sem]
  have c23 : w0.cell? ⟨w.heap.size + 1 + 1, 3, none⟩ = some (.float .f64 0) := by simp [hw0, go_sem]
  have fc23 : w0.frozen? ⟨w.heap.size + 1 + 1, 3, none⟩ = false := by simp [hw0, go_sem]
  have s0 : w.heap.size + 1 + 1 + 1 ≤ w0.heap.size := by simp [hw0]
  have hB0 : Below w.heap.size w w0 := by
    rw [hw0]
    repeat (with_reducible first | exact Below.refl _ _ | assumption | refine Below.drew ?_ | refine bl_drewN ?_ _ | refine Below.setCell ?_ (by first | omega | (simp; done) | (simp; omega)) _ | refine Below.alloc ?_ (by first | omega | (simp; done) | (simp; omega)) _ | refine bl_next ?_ (by assumption) | refine bl_trans ?_ (by assumption) (by first | omega | (simp; done) | (simp; omega)))
  clear hw0
  go_at_call 51
  refine (h _).mono ?_
  rintro e w1 ⟨rfl, hb1⟩
  have s1 := hb1.size
  try simp at s1
  replace fc20 := bfroz2 hb1 c20 fc20
  replace fc21 := bfroz2 hb1 c21 fc21
  replace fc22 := bfroz2 hb1 c22 fc22
  replace fc23 := bfroz2 hb1 c23 fc23
  replace c00 := bkeep2 hb1 c00
  replace c01 := bkeep2 hb1 c01
  replace c02 := bkeep2 hb1 c02
  replace c03 := bkeep2 hb1 c03
  replace c10 := bkeep2 hb1 c10
  replace c11 := bkeep2 hb1 c11
  replace c20 := bkeep2 hb1 c20
  replace c21 := bkeep2 hb1 c21
  replace c22 := bkeep2 hb1 c22
  replace c23 := bkeep2 hb1 c23
  have l0 : w.heap.size < w1.heap.size := cell_lt c00
  have l1 : w.heap.size + 1 < w1.heap.size := cell_lt c10
  have l2 : w.heap.size + 1 + 1 < w1.heap.size := cell_lt c20
  go_wp2_with fail
  refine bodyPost_ret (v := .agg #[.float .f64 e1, .float .f64 e2, .float .f64 e3, .float .f64 e4]) (by simp [results, Tryz.results26, go_sem, *]) rfl ⟨rfl, ?_⟩
  repeat (with_reducible first | exact Below.refl _ _ | assumption | refine Below.drew ?_ | refine bl_drewN ?_ _ | refine Below.setCell ?_ (by first | omega | (simp; done) | (simp; omega)) _ | refine Below.alloc ?_ (by first | omega | (simp; done) | (simp; omega)) _ | refine bl_next ?_ (by assumption) | refine bl_trans ?_ (by assumption) (by first | omega | (simp; done) | (simp; omega)))

set_option maxHeartbeats 1000000 in
theorem lasDisc0_w (X1 X2 X3 X4 a b r k1 k2 k3 : Nat)
    (h : ∀ w, Calls Tryz.prog 55 #[.agg #[.float .f64 X1, .float .f64 X2, .float .f64 X3, .float .f64 X4]] w fun e w' => e = .returned (.agg #[.complex .f64 k1 k2, .float .f64 k3]) ∧ Below w.heap.size w w') (w : World) :
    Calls Tryz.prog 28 #[.int .i64 0, .agg #[.float .f64 X1, .float .f64 X2, .float .f64 X3, .float .f64 X4], .agg #[.complex .f64 a b, .float .f64 r]] w fun e w' => e = .returned (.agg #[.complex .f64 k1 k2, .float .f64 k3]) ∧ Below w.heap.size w w' := by
  go_enter Tryz.func28, Tryz.ntmps28
  go_wp2_with fail
  obtain ⟨w0, hw0⟩ : ∃ v, v = (((w.alloc (.cells #[.float .f64 X1, .float .f64 X2, .float .f64 X3, .float .f64 X4] 39)).alloc (.cells #[.complex .f64 a b, .float .f64 r] 42)).alloc (.cells #[.complex .f64 0 0, .float .f64 0] 42)) := ⟨_, rfl⟩
  rw [← hw0]
  have c00 : w0.cell? ⟨w.heap.size, 0, none⟩ = some (.float .f64 X1) := by simp [hw0, go_sem]
  have c01 : w0.cell? ⟨w.heap.size, 1, none⟩ = some (.float .f64 X2) := by simp [hw0, go_sem]
  have c02 : w0.cell? ⟨w.heap.size, 2, none⟩ = some (.float .f64 X3) := by simp [hw0, go_sem]
  have c03 : w0.cell? ⟨w.heap.size, 3, none⟩ = some (.float .f64 X4) := by simp [hw0, go_sem]
  have c10 : w0.cell? ⟨w.heap.size + 1, 0, none⟩ = some (.complex .f64 a b) := by simp [hw0, go_sem]
  have c11 : w0.cell? ⟨w.heap.size + 1, 1, none⟩ = some (.float .f64 r) := by simp [hw0, go_sem]
  have c20 : w0.cell? ⟨w.heap.size + 1 + 1, 0, none⟩ = some (.complex .f64 0 0) := by simp [hw0, go_sem]
  have fc20 : w0.frozen? ⟨w.heap.size + 1 + 1, 0, none⟩ = false := by simp [hw0, go_sem]
  have c21 : w0.cell? ⟨w.heap.size + 1 + 1, 1, none⟩ = some (.float .f64 0) := by simp [hw0, go_sem]
  have fc21 : w0.frozen? ⟨w.heap.size + 1 + 1, 1, none⟩ = false := by simp [hw0, go_sem]
  have s0 : w.heap.size + 1 + 1 + 1 ≤ w0.heap.size := by simp [hw0]
  have hB0 : Below w.heap.size w w0 := by
    rw [hw0]
    repeat (with_reducible first | exact Below.refl _ _ | assumption | refine Below.drew ?_ | refine bl_drewN ?_ _ | refine Below.setCell ?_ (by first | omega | (simp; done) | (simp; omega)) _ | refine Below.alloc ?_ (by first | omega | (simp; done) | (simp; omega)) _ | refine bl_next ?_ (by assumption) | refine bl_trans ?_ (by assumption) (by first | omega | (simp; done) | (simp; omega)))
  clear hw0
  go_at_call 55
  refine (h _).mono ?_
  rintro e w1 ⟨rfl, hb1⟩
  have s1 := hb1.size
  try simp at s1
  replace fc20 := bfroz2 hb1 c20 fc20
  replace fc21 := bfroz2 hb1 c21 fc21
  replace c00 := bkeep2 hb1 c00
  replace c01 := bkeep2 hb1 c01
  replace c02 := bkeep2 hb1 c02
  replace c03 := bkeep2 hb1 c03
  replace c10 := bkeep2 hb1 c10
  replace c11 := bkeep2 hb1 c11
  replace c20 := bkeep2 hb1 c20
  replace c21 := bkeep2 hb1 c21
  have l0 : w.heap.size < w1.heap.size := cell_lt c00
  have l1 : w.heap.size + 1 < w1.heap.size := cell_lt c10
  have l2 : w.heap.size + 1 + 1 < w1.heap.size := cell_lt c20
  go_wp2_with fail
  refine bodyPost_ret (v := .agg #[.complex .f64 k1 k2, .float .f64 k3]) (by simp [results, Tryz.results28, go_sem, *]) rfl ⟨rfl, ?_⟩
  repeat (with_reducible first | exact Below.refl _ _ | assumption | refine Below.drew ?_ | refine bl_drewN ?_ _ | refine Below.setCell ?_ (by first | omega | (simp; done) | (simp; omega)) _ | refine Below.alloc ?_ (by first | omega | (simp; done) | (simp; omega)) _ | refine bl_next ?_ (by assumption) | refine bl_trans ?_ (by assumption) (by first | omega | (simp; done) | (simp; omega)))

set_option maxHeartbeats 1000000 in
theorem lasDisc1_w (X1 X2 X3 X4 a b r : Nat) (w : World) : Calls Tryz.prog 28 #[.int .i64 1, .agg #[.float .f64 X1, .float .f64 X2, .float .f64 X3, .float .f64 X4], .agg #[.complex .f64 a b, .float .f64 r]] w fun e w' => e = .returned (.agg #[.complex .f64 a b, .float .f64 r]) ∧ Below w.heap.size w w' := by
  go_enter Tryz.func28, Tryz.ntmps28
  go_wp2
  refine bodyPost_ret (v := .agg #[.complex .f64 a b, .float .f64 r]) (by simp [results, Tryz.results28, go_sem]) rfl ⟨rfl, ?_⟩
  repeat (with_reducible first | exact Below.refl _ _ | refine bl_alloc ?_ | refine Below.setCell ?_ (by first | omega | (simp; done) | (simp; omega)) _ | refine Below.alloc ?_ (by first | omega | (simp; done) | (simp; omega)) _ | refine bl_drewN ?_ _)

set_option maxHeartbeats 1000000 in
theorem lboxed_add_w (X1 X2 X3 X4 Y1 Y2 Y3 Y4 e1 e2 e3 e4 : Nat)
    (h : ∀ w, Calls Tryz.prog 52 #[.agg #[.float .f64 X1, .float .f64 X2, .float .f64 X3, .float .f64 X4], .agg #[.float .f64 Y1, .float .f64 Y2, .float .f64 Y3, .float .f64 Y4]] w fun e w' => e = .returned (.agg #[.float .f64 e1, .float .f64 e2, .float .f64 e3, .float .f64 e4]) ∧ Below w.heap.size w w') (w : World) :
    Calls Tryz.prog 27 #[.int .u8 43, .agg #[.float .f64 X1, .float .f64 X2, .float .f64 X3, .float .f64 X4], .agg #[.float .f64 Y1, .float .f64 Y2, .float .f64 Y3, .float .f64 Y4]] w fun e w' => e = .returned (.agg #[.float .f64 e1, .float .f64 e2, .float .f64 e3, .float .f64 e4]) ∧ Below w.heap.size w w' := by
  go_enter Tryz.func27, Tryz.ntmps27
  go_wp2_with fail
  obtain ⟨w0, hw0⟩ : ∃ v, v = (((w.alloc (.cells #[.float .f64 X1, .float .f64 X2, .float .f64 X3, .float .f64 X4] 39)).alloc (.cells #[.float .f64 Y1, .float .f64 Y2, .float .f64 Y3, .float .f64 Y4] 39)).alloc (.cells #[.float .f64 0, .float .f64 0, .float .f64 0, .float .f64 0] 39)) := ⟨_, rfl⟩
  rw [← hw0]
  have c00 : w0.cell? ⟨w.heap.size, 0, none⟩ = some (.float .f64 X1) := by simp [hw0, go_sem]
  have c01 : w0.cell? ⟨w.heap.size, 1, none⟩ = some (.float .f64 X2) := by simp [hw0, go_sem]
  have c02 : w0.cell? ⟨w.heap.size, 2, none⟩ = some (.float .f64 X3) := by simp [hw0, go_sem]
  have c03 : w0.cell? ⟨w.heap.size, 3, none⟩ = some (.float .f64 X4) := by simp [hw0, go_sem]
  have c10 : w0.cell? ⟨w.heap.size + 1, 0, none⟩ = some (.float .f64 Y1) := by simp [hw0, go_sem]
  have c11 : w0.cell? ⟨w.heap.size + 1, 1, none⟩ = some (.float .f64 Y2) := by simp [hw0, go_sem]
  have c12 : w0.cell? ⟨w.heap.size + 1, 2, none⟩ = some (.float .f64 Y3) := by simp [hw0, go_sem]
  have c13 : w0.cell? ⟨w.heap.size + 1, 3, none⟩ = some (.float .f64 Y4) := by simp [hw0, go_sem]
  have c20 : w0.cell? ⟨w.heap.size + 1 + 1, 0, none⟩ = some (.float .f64 0) := by simp [hw0, go_sem]
  have fc20 : w0.frozen? ⟨w.heap.size + 1 + 1, 0, none⟩ = false := by simp [hw0, go_sem]
  have c21 : w0.cell? ⟨w.heap.size + 1 + 1, 1, none⟩ = some (.float .f64 0) := by simp [hw0, go_sem]
  have fc21 : w0.frozen? ⟨w.heap.size + 1 + 1, 1, none⟩ = false := by simp [hw0, go_sem]
  have c22 : w0.cell? ⟨w.heap.size + 1 + 1, 2, none⟩ = some (.float .f64 0) := by simp [hw0, go_sem]
  have fc22 : w0.frozen? ⟨w.heap.size + 1 + 1, 2, none⟩ = false := by simp [hw0, go_sem]
  have c23 : w0.cell? ⟨w.heap.size + 1 + 1, 3, none⟩ = some (.float .f64 0) := by simp [hw0, go_sem]
  have fc23 : w0.frozen? ⟨w.heap.size + 1 + 1, 3, none⟩ = false := by simp [hw0, go_sem]
  have s0 : w.heap.size + 1 + 1 + 1 ≤ w0.heap.size := by simp [hw0]
  have hB0 : Below w.heap.size w w0 := by
    rw [hw0]
    repeat (with_reducible first | exact Below.refl _ _ | assumption | refine Below.drew ?_ | refine bl_drewN ?_ _ | refine Below.setCell ?_ (by first | omega | (simp; done) | (simp; omega)) _ | refine Below.alloc ?_ (by first | omega | (simp; done) | (simp; omega)) _ | refine bl_next ?_ (by assumption) | refine bl_trans ?_ (by assumption) (by first | omega | (simp; done) | (simp; omega)))
  clear hw0
  go_at_call 52
  refine (h _).mono ?_
  rintro e w1 ⟨rfl, hb1⟩
  have s1 := hb1.size
  try simp at s1
  replace fc20 := bfroz2 hb1 c20 fc20
  replace fc21 := bfroz2 hb1 c21 fc21
  replace fc22 := bfroz2 hb1 c22 fc22
  replace fc23 := bfroz2 hb1 c23 fc23
  replace c00 := bkeep2 hb1 c00
  replace c01 := bkeep2 hb1 c01
  replace c02 := bkeep2 hb1 c02
  replace c03 := bkeep2 hb1 c03
  replace c10 := bkeep2 hb1 c10
  replace c11 := bkeep2 hb1 c11
  replace c12 := bkeep2 hb1 c12
  replace c13 := bkeep2 hb1 c13
  replace c20 := bkeep2 hb1 c20
  replace c21 := bkeep2 hb1 c21
  replace c22 := bkeep2 hb1 c22
  replace c23 := bkeep2 hb1 c23
  have l0 : w.heap.size < w1.heap.size := cell_lt c00
  have l1 : w.heap.size + 1 < w1.heap.size := cell_lt c10
  have l2 : w.heap.size + 1 + 1 < w1.heap.size := cell_lt c20
  go_wp2_with fail
  refine bodyPost_ret (v := .agg #[.float .f64 e1, .float .f64 e2, .float .f64 e3, .float .f64 e4]) (by simp [results, Tryz.results27, go_sem, *]) rfl ⟨rfl, ?_⟩
  repeat (with_reducible first | exact Below.refl _ _ | assumption | refine Below.drew ?_ | refine bl_drewN ?_ _ | refine Below.setCell ?_ (by first | omega | (simp; done) | (simp; omega)) _ | refine Below.alloc ?_ (by first | omega | (simp; done) | (simp; omega)) _ | refine bl_next ?_ (by assumption) | refine bl_trans ?_ (by assumption) (by first | omega | (simp; done) | (simp; omega)))

set_option maxHeartbeats 1000000 in
theorem lboxed_sub_w (X1 X2 X3 X4 Y1 Y2 Y3 Y4 e1 e2 e3 e4 : Nat)
    (h : ∀ w, Calls Tryz.prog 53 #[.agg #[.float .f64 X1, .float .f64 X2, .float .f64 X3, .float .f64 X4], .agg #[.float .f64 Y1, .float .f64 Y2, .float .f64 Y3, .float .f64 Y4]] w fun e w' => e = .returned (.agg #[.float .f64 e1, .float .f64 e2, .float .f64 e3, .float .f64 e4]) ∧ Below w.heap.size w w') (w : World) :
    Calls Tryz.prog 27 #[.int .u8 45, .agg #[.float .f64 X1, .float .f64 X2, .float .f64 X3, .float .f64 X4], .agg #[.float .f64 Y1, .float .f64 Y2, .float .f64 Y3, .float .f64 Y4]] w fun e w' => e = .returned (.agg #[.float .f64 e1, .float .f64 e2, .float .f64 e3, .float .f64 e4]) ∧ Below w.heap.size w w' := by
  go_enter Tryz.func27, Tryz.ntmps27
  go_wp2_with fail
  obtain ⟨w0, hw0⟩ : ∃ v, v = (((w.alloc (.cells #[.float .f64 X1, .float .f64 X2, .float .f64 X3, .float .f64 X4] 39)).alloc (.cells #[.float .f64 Y1, .float .f64 Y2, .float .f64 Y3, .float .f64 Y4] 39)).alloc (.cells #[.float .f64 0, .float .f64 0, .float .f64 0, .float .f64 0] 39)) := ⟨_, rfl⟩
  rw [← hw0]
  have c00 : w0.cell? ⟨w.heap.size, 0, none⟩ = some (.float .f64 X1) := by simp [hw0, go_sem]
  have c01 : w0.cell? ⟨w.heap.size, 1, none⟩ = some (.float .f64 X2) := by simp [hw0, go_sem]
  have c02 : w0.cell? ⟨w.heap.size, 2, none⟩ = some (.float .f64 X3) := by simp [hw0, go_sem]
  have c03 : w0.cell? ⟨w.heap.size, 3, none⟩ = some (.float .f64 X4) := by simp [hw0, go_sem]
  have c10 : w0.cell? ⟨w.heap.size + 1, 0, none⟩ = some (.float .f64 Y1) := by simp [hw0, go_sem]
  have c11 : w0.cell? ⟨w.heap.size + 1, 1, none⟩ = some (.float .f64 Y2) := by simp [hw0, go_sem]
  have c12 : w0.cell? ⟨w.heap.size + 1, 2, none⟩ = some (.float .f64 Y3) := by simp [hw0, go_sem]
  have c13 : w0.cell? ⟨w.heap.size + 1, 3, none⟩ = some (.float .f64 Y4) := by simp [hw0, go_sem]
  have c20 : w0.cell? ⟨w.heap.size + 1 + 1, 0, none⟩ = some (.float .f64 0) := by simp [hw0, go_sem]
  have fc20 : w0.frozen? ⟨w.heap.size + 1 + 1, 0, none⟩ = false := by simp [hw0, go_sem]
  have c21 : w0.cell? ⟨w.heap.size + 1 + 1, 1, none⟩ = some (.float .f64 0) := by simp [hw0, go_sem]
  have fc21 : w0.frozen? ⟨w.heap.size + 1 + 1, 1, none⟩ = false := by simp [hw0, go_sem]
  have c22 : w0.cell? ⟨w.heap.size + 1 + 1, 2, none⟩ = some (.float .f64 0) := by simp [hw0, go_sem]
  have fc22 : w0.frozen? ⟨w.heap.size + 1 + 1, 2, none⟩ = false := by simp [hw0, go_sem]
  have c23 : w0.cell? ⟨w.heap.size + 1 + 1, 3, none⟩ = some (.float .f64 0) := by simp [hw0, go_sem]
  have fc23 : w0.frozen? ⟨w.heap.size + 1 + 1, 3, none⟩ = false := by simp [hw0, go_sem]
  have s0 : w.heap.size + 1 + 1 + 1 ≤ w0.heap.size := by simp [hw0]
  have hB0 : Below w.heap.size w w0 := by
    rw [hw0]
    repeat (with_reducible first | exact Below.refl _ _ | assumption | refine Below.drew ?_ | refine bl_drewN ?_ _ | refine Below.setCell ?_ (by first | omega | (simp; done) | (simp; omega)) _ | refine Below.alloc ?_ (by first | omega | (simp; done) | (simp; omega)) _ | refine bl_next ?_ (by assumption) | refine bl_trans ?_ (by assumption) (by first | omega | (simp; done) | (simp; omega)))
  clear hw0
  go_at_call 53
  refine (h _).mono ?_
  rintro e w1 ⟨rfl, hb1⟩
  have s1 := hb1.size
  try simp at s1
  replace fc20 := bfroz2 hb1 c20 fc20
  replace fc21 := bfroz2 hb1 c21 fc21
  replace fc22 := bfroz2 hb1 c22 fc22
  replace fc23 := bfroz2 hb1 c23 fc23
  replace c00 := bkeep2 hb1 c00
  replace c01 := bkeep2 hb1 c01
  replace c02 := bkeep2 hb1 c02
  replace c03 := bkeep2 hb1 c03
  replace c10 := bkeep2 hb1 c10
  replace c11 := bkeep2 hb1 c11
  replace c12 := bkeep2 hb1 c12
  replace c13 := bkeep2 hb1 c13
  replace c20 := bkeep2 hb1 c20
  replace c21 := bkeep2 hb1 c21
  replace c22 := bkeep2 hb1 c22
  replace c23 := bkeep2 hb1 c23
  have l0 : w.heap.size < w1.heap.size := cell_lt c00
  have l1 : w.heap.size + 1 < w1.heap.size := cell_lt c10
  have l2 : w.heap.size + 1 + 1 < w1.heap.size := cell_lt c20
  go_wp2_with fail
  refine bodyPost_ret (v := .agg #[.float .f64 e1, .float .f64 e2, .float .f64 e3, .float .f64 e4]) (by simp [results, Tryz.results27, go_sem, *]) rfl ⟨rfl, ?_⟩
  repeat (with_reducible first | exact Below.refl _ _ | assumption | refine Below.drew ?_ | refine bl_drewN ?_ _ | refine Below.setCell ?_ (by first | omega | (simp; done) | (simp; omega)) _ | refine Below.alloc ?_ (by first | omega | (simp; done) | (simp; omega)) _ | refine bl_next ?_ (by assumption) | refine bl_trans ?_ (by assumption) (by first | omega | (simp; done) | (simp; omega)))

set_option maxHeartbeats 1000000 in
theorem lboxed_mul_w (X1 X2 X3 X4 Y1 Y2 Y3 Y4 e1 e2 e3 e4 : Nat)
    (h : ∀ w, Calls Tryz.prog 54 #[.agg #[.float .f64 X1, .float .f64 X2, .float .f64 X3, .float .f64 X4], .agg #[.float .f64 Y1, .float .f64 Y2, .float .f64 Y3, .float .f64 Y4]] w fun e w' => e = .returned (.agg #[.float .f64 e1, .float .f64 e2, .float .f64 e3, .float .f64 e4]) ∧ Below w.heap.size w w') (w : World) :
    Calls Tryz.prog 27 #[.int .u8 42, .agg #[.float .f64 X1, .float .f64 X2, .float .f64 X3, .float .f64 X4], .agg #[.float .f64 Y1, .float .f64 Y2, .float .f64 Y3, .float .f64 Y4]] w fun e w' => e = .returned (.agg #[.float .f64 e1, .float .f64 e2, .float .f64 e3, .float .f64 e4]) ∧ Below w.heap.size w w' := by
  go_enter Tryz.func27, Tryz.ntmps27
  go_wp2_with fail
  obtain ⟨w0, hw0⟩ : ∃ v, v = (((w.alloc (.cells #[.float .f64 X1, .float .f64 X2, .float .f64 X3, .float .f64 X4] 39)).alloc (.cells #[.float .f64 Y1, .float .f64 Y2, .float .f64 Y3, .float .f64 Y4] 39)).alloc (.cells #[.float .f64 0, .float .f64 0, .float .f64 0, .float .f64 0] 39)) := ⟨_, rfl⟩
  rw [← hw0]
  have c00 : w0.cell? ⟨w.heap.size, 0, none⟩ = some (.float .f64 X1) := by simp [hw0, go_sem]
  have c01 : w0.cell? ⟨w.heap.size, 1, none⟩ = some (.float .f64 X2) := by simp [hw0, go_sem]
  have c02 : w0.cell? ⟨w.heap.size, 2, none⟩ = some (.float .f64 X3) := by simp [hw0, go_sem]
  have c03 : w0.cell? ⟨w.heap.size, 3, none⟩ = some (.float .f64 X4) := by simp [hw0, go_sem]
  have c10 : w0.cell? ⟨w.heap.size + 1, 0, none⟩ = some (.float .f64 Y1) := by simp [hw0, go_sem]
  have c11 : w0.cell? ⟨w.heap.size + 1, 1, none⟩ = some (.float .f64 Y2) := by simp [hw0, go_sem]
  have c12 : w0.cell? ⟨w.heap.size + 1, 2, none⟩ = some (.float .f64 Y3) := by simp [hw0, go_sem]
  have c13 : w0.cell? ⟨w.heap.size + 1, 3, none⟩ = some (.float .f64 Y4) := by simp [hw0, go_sem]
  have c20 : w0.cell? ⟨w.heap.size + 1 + 1, 0, none⟩ = some (.float .f64 0) := by simp [hw0, go_sem]
  have fc20 : w0.frozen? ⟨w.heap.size + 1 + 1, 0, none⟩ = false := by simp [hw0, go_sem]
  have c21 : w0.cell? ⟨w.heap.size + 1 + 1, 1, none⟩ = some (.float .f64 0) := by simp [hw0, go_sem]
  have fc21 : w0.frozen? ⟨w.heap.size + 1 + 1, 1, none⟩ = false := by simp [hw0, go_sem]
  have c22 : w0.cell? ⟨w.heap.size + 1 + 1, 2, none⟩ = some (.float .f64 0) := by simp [hw0, go_sem]
  have fc22 : w0.frozen? ⟨w.heap.size + 1 + 1, 2, none⟩ = false := by simp [hw0, go_sem]
  have c23 : w0.cell? ⟨w.heap.size + 1 + 1, 3, none⟩ = some (.float .f64 0) := by simp [hw0, go_sem]
  have fc23 : w0.frozen? ⟨w.heap.size + 1 + 1, 3, none⟩ = false := by simp [hw0, go_sem]
  have s0 : w.heap.size + 1 + 1 + 1 ≤ w0.heap.size := by simp [hw0]
  have hB0 : Below w.heap.size w w0 := by
    rw [hw0]
    repeat (with_reducible first | exact Below.refl _ _ | assumption | refine Below.drew ?_ | refine bl_drewN ?_ _ | refine Below.setCell ?_ (by first | omega | (simp; done) | (simp; omega)) _ | refine Below.alloc ?_ (by first | omega | (simp; done) | (simp; omega)) _ | refine bl_next ?_ (by assumption) | refine bl_trans ?_ (by assumption) (by first | omega | (simp; done) | (simp; omega)))
  clear hw0
  go_at_call 54
  refine (h _).mono ?_
  rintro e w1 ⟨rfl, hb1⟩
  have s1 := hb1.size
  try simp at s1
  replace fc20 := bfroz2 hb1 c20 fc20
  replace fc21 := bfroz2 hb1 c21 fc21
  replace fc22 := bfroz2 hb1 c22 fc22
  replace fc23 := bfroz2 hb1 c23 fc23
  replace c00 := bkeep2 hb1 c00
  replace c01 := bkeep2 hb1 c01
  replace c02 := bkeep2 hb1 c02
  replace c03 := bkeep2 hb1 c03
  replace c10 := bkeep2 hb1 c10
  replace c11 := bkeep2 hb1 c11
  replace c12 := bkeep2 hb1 c12
  replace c13 := bkeep2 hb1 c13
  replace c20 := bkeep2 hb1 c20
  replace c21 := bkeep2 hb1 c21
  replace c22 := bkeep2 hb1 c22
  replace c23 := bkeep2 hb1 c23
  have l0 : w.heap.size < w1.heap.size := cell_lt c00
  have l1 : w.heap.size + 1 < w1.heap.size := cell_lt c10
  have l2 : w.heap.size + 1 + 1 < w1.heap.size := cell_lt c20
  go_wp2_with fail
  refine bodyPost_ret (v := .agg #[.float .f64 e1, .float .f64 e2, .float .f64 e3, .float .f64 e4]) (by simp [results, Tryz.results27, go_sem, *]) rfl ⟨rfl, ?_⟩
  repeat (with_reducible first | exact Below.refl _ _ | assumption | refine Below.drew ?_ | refine bl_drewN ?_ _ | refine Below.setCell ?_ (by first | omega | (simp; done) | (simp; omega)) _ | refine Below.alloc ?_ (by first | omega | (simp; done) | (simp; omega)) _ | refine bl_next ?_ (by assumption) | refine bl_trans ?_ (by assumption) (by first | omega | (simp; done) | (simp; omega)))

set_option maxHeartbeats 1000000 in
theorem lboxed_sqr_w (X1 X2 X3 X4 Y1 Y2 Y3 Y4 e1 e2 e3 e4 : Nat)
    (h : ∀ w, Calls Tryz.prog 54 #[.agg #[.float .f64 X1, .float .f64 X2, .float .f64 X3, .float .f64 X4], .agg #[.float .f64 X1, .float .f64 X2, .float .f64 X3, .float .f64 X4]] w fun e w' => e = .returned (.agg #[.float .f64 e1, .float .f64 e2, .float .f64 e3, .float .f64 e4]) ∧ Below w.heap.size w w') (w : World) :
    Calls Tryz.prog 27 #[.int .u8 94, .agg #[.float .f64 X1, .float .f64 X2, .float .f64 X3, .float .f64 X4], .agg #[.float .f64 Y1, .float .f64 Y2, .float .f64 Y3, .float .f64 Y4]] w fun e w' => e = .returned (.agg #[.float .f64 e1, .float .f64 e2, .float .f64 e3, .float .f64 e4]) ∧ Below w.heap.size w w' := by
  go_enter Tryz.func27, Tryz.ntmps27
  go_wp2_with fail
  obtain ⟨w0, hw0⟩ : ∃ v, v = (((w.alloc (.cells #[.float .f64 X1, .float .f64 X2, .float .f64 X3, .float .f64 X4] 39)).alloc (.cells #[.float .f64 Y1, .float .f64 Y2, .float .f64 Y3, .float .f64 Y4] 39)).alloc (.cells #[.float .f64 0, .float .f64 0, .float .f64 0, .float .f64 0] 39)) := ⟨_, rfl⟩
  rw [← hw0]
  have c00 : w0.cell? ⟨w.heap.size, 0, none⟩ = some (.float .f64 X1) := by simp [hw0, go_sem]
  have c01 : w0.cell? ⟨w.heap.size, 1, none⟩ = some (.float .f64 X2) := by simp [hw0, go_sem]
  have c02 : w0.cell? ⟨w.heap.size, 2, none⟩ = some (.float .f64 X3) := by simp [hw0, go_sem]
  have c03 : w0.cell? ⟨w.heap.size, 3, none⟩ = some (.float .f64 X4) := by simp [hw0, go_sem]
  have c10 : w0.cell? ⟨w.heap.size + 1, 0, none⟩ = some (.float .f64 Y1) := by simp [hw0, go_sem]
  have c11 : w0.cell? ⟨w.heap.size + 1, 1, none⟩ = some (.float .f64 Y2) := by simp [hw0, go_sem]
  have c12 : w0.cell? ⟨w.heap.size + 1, 2, none⟩ = some (.float .f64 Y3) := by simp [hw0, go_sem]
  have c13 : w0.cell? ⟨w.heap.size + 1, 3, none⟩ = some (.float .f64 Y4) := by simp [hw0, go_sem]
  have c20 : w0.cell? ⟨w.heap.size + 1 + 1, 0, none⟩ = some (.float .f64 0) := by simp [hw0, go_sem]
  have fc20 : w0.frozen? ⟨w.heap.size + 1 + 1, 0, none⟩ = false := by simp [hw0, go_sem]
  have c21 : w0.cell? ⟨w.heap.size + 1 + 1, 1, none⟩ = some (.float .f64 0) := by simp [hw0, go_sem]
  have fc21 : w0.frozen? ⟨w.heap.size + 1 + 1, 1, none⟩ = false := by simp [hw0, go_sem]
  have c22 : w0.cell? ⟨w.heap.size + 1 + 1, 2, none⟩ = some (.float .f64 0) := by simp [hw0, go_sem]
  have fc22 : w0.frozen? ⟨w.heap.size + 1 + 1, 2, none⟩ = false := by simp [hw0, go_sem]
  have c23 : w0.cell? ⟨w.heap.size + 1 + 1, 3, none⟩ = some (.float .f64 0) := by simp [hw0, go_sem]
  have fc23 : w0.frozen? ⟨w.heap.size + 1 + 1, 3, none⟩ = false := by simp [hw0, go_sem]
  have s0 : w.heap.size + 1 + 1 + 1 ≤ w0.heap.size := by simp [hw0]
  have hB0 : Below w.heap.size w w0 := by
    rw [hw0]
    repeat (with_reducible first | exact Below.refl _ _ | assumption | refine Below.drew ?_ | refine bl_drewN ?_ _ | refine Below.setCell ?_ (by first | omega | (simp; done) | (simp; omega)) _ | refine Below.alloc ?_ (by first | omega | (simp; done) | (simp; omega)) _ | refine bl_next ?_ (by assumption) | refine bl_trans ?_ (by assumption) (by first | omega | (simp; done) | (simp; omega)))
  clear hw0
  go_at_call 54
  refine (h _).mono ?_
  rintro e w1 ⟨rfl, hb1⟩
  have s1 := hb1.size
  try simp at s1
  replace fc20 := bfroz2 hb1 c20 fc20
  replace fc21 := bfroz2 hb1 c21 fc21
  replace fc22 := bfroz2 hb1 c22 fc22
  replace fc23 := bfroz2 hb1 c23 fc23
  replace c00 := bkeep2 hb1 c00
  replace c01 := bkeep2 hb1 c01
  replace c02 := bkeep2 hb1 c02
  replace c03 := bkeep2 hb1 c03
  replace c10 := bkeep2 hb1 c10
  replace c11 := bkeep2 hb1 c11
  replace c12 := bkeep2 hb1 c12
  replace c13 := bkeep2 hb1 c13
  replace c20 := bkeep2 hb1 c20
  replace c21 := bkeep2 hb1 c21
  replace c22 := bkeep2 hb1 c22
  replace c23 := bkeep2 hb1 c23
  have l0 : w.heap.size < w1.heap.size := cell_lt c00
  have l1 : w.heap.size + 1 < w1.heap.size := cell_lt c10
  have l2 : w.heap.size + 1 + 1 < w1.heap.size := cell_lt c20
  go_wp2_with fail
  refine bodyPost_ret (v := .agg #[.float .f64 e1, .float .f64 e2, .float .f64 e3, .float .f64 e4]) (by simp [results, Tryz.results27, go_sem, *]) rfl ⟨rfl, ?_⟩
  repeat (with_reducible first | exact Below.refl _ _ | assumption | refine Below.drew ?_ | refine bl_drewN ?_ _ | refine Below.setCell ?_ (by first | omega | (simp; done) | (simp; omega)) _ | refine Below.alloc ?_ (by first | omega | (simp; done) | (simp; omega)) _ | refine bl_next ?_ (by assumption) | refine bl_trans ?_ (by assumption) (by first | omega | (simp; done) | (simp; omega)))

set_option maxHeartbeats 1000000 in
theorem lboxed_conj_w (X1 X2 X3 X4 Y1 Y2 Y3 Y4 e1 e2 e3 e4 : Nat)
    (h : ∀ w, Calls Tryz.prog 41 #[.agg #[.float .f64 X1, .float .f64 X2, .float .f64 X3, .float .f64 X4]] w fun e w' => e = .returned (.agg #[.float .f64 e1, .float .f64 e2, .float .f64 e3, .float .f64 e4]) ∧ Below w.heap.size w w') (w : World) :
    Calls Tryz.prog 27 #[.int .u8 126, .agg #[.float .f64 X1, .float .f64 X2, .float .f64 X3, .float .f64 X4], .agg #[.float .f64 Y1, .float .f64 Y2, .float .f64 Y3, .float .f64 Y4]] w fun e w' => e = .returned (.agg #[.float .f64 e1, .float .f64 e2, .float .f64 e3, .float .f64 e4]) ∧ Below w.heap.size w w' := by
  go_enter Tryz.func27, Tryz.ntmps27
  go_wp2_with fail
  obtain ⟨w0, hw0⟩ : ∃ v, v = (((w.alloc (.cells #[.float .f64 X1, .float .f64 X2, .float .f64 X3, .float .f64 X4] 39)).alloc (.cells #[.float .f64 Y1, .float .f64 Y2, .float .f64 Y3, .float .f64 Y4] 39)).alloc (.cells #[.float .f64 0, .float .f64 0, .float .f64 0, .float .f64 0] 39)) := ⟨_, rfl⟩
  rw [← hw0]
  have c00 : w0.cell? ⟨w.heap.size, 0, none⟩ = some (.float .f64 X1) := by simp [hw0, go_sem]
  have c01 : w0.cell? ⟨w.heap.size, 1, none⟩ = some (.float .f64 X2) := by simp [hw0, go_sem]
  have c02 : w0.cell? ⟨w.heap.size, 2, none⟩ = some (.float .f64 X3) := by simp [hw0, go_sem]
  have c03 : w0.cell? ⟨w.heap.size, 3, none⟩ = some (.float .f64 X4) := by simp [hw0, go_sem]
  have c10 : w0.cell? ⟨w.heap.size + 1, 0, none⟩ = some (.float .f64 Y1) := by simp [hw0, go_sem]
  have c11 : w0.cell? ⟨w.heap.size + 1, 1, none⟩ = some (.float .f64 Y2) := by simp [hw0, go_sem]
  have c12 : w0.cell? ⟨w.heap.size + 1, 2, none⟩ = some (.float .f64 Y3) := by simp [hw0, go_sem]
  have c13 : w0.cell? ⟨w.heap.size + 1, 3, none⟩ = some (.float .f64 Y4) := by simp [hw0, go_sem]
  have c20 : w0.cell? ⟨w.heap.size + 1 + 1, 0, none⟩ = some (.float .f64 0) := by simp [hw0, go_sem]
  have fc20 : w0.frozen? ⟨w.heap.size + 1 + 1, 0, none⟩ = false := by simp [hw0, go_sem]
  have c21 : w0.cell? ⟨w.heap.size + 1 + 1, 1, none⟩ = some (.float .f64 0) := by simp [hw0, go_sem]
  have fc21 : w0.frozen? ⟨w.heap.size + 1 + 1, 1, none⟩ = false := by simp [hw0, go_sem]
  have c22 : w0.cell? ⟨w.heap.size + 1 + 1, 2, none⟩ = some (.float .f64 0) := by simp [hw0, go_sem]
  have fc22 : w0.frozen? ⟨w.heap.size + 1 + 1, 2, none⟩ = false := by simp [hw0, go_sem]
  have c23 : w0.cell? ⟨w.heap.size + 1 + 1, 3, none⟩ = some (.float .f64 0) := by simp [hw0, go_sem]
  have fc23 : w0.frozen? ⟨w.heap.size + 1 + 1, 3, none⟩ = false := by simp [hw0, go_sem]
  have s0 : w.heap.size + 1 + 1 + 1 ≤ w0.heap.size := by simp [hw0]
  have hB0 : Below w.heap.size w w0 := by
    rw [hw0]
    repeat (with_reducible first | exact Below.refl _ _ | assumption | refine Below.drew ?_ | refine bl_drewN ?_ _ | refine Below.setCell ?_ (by first | omega | (simp; done) | (simp; omega)) _ | refine Below.alloc ?_ (by first | omega | (simp; done) | (simp; omega)) _ | refine bl_next ?_ (by assumption) | refine bl_trans ?_ (by assumption) (by first | omega | (simp; done) | (simp; omega)))
  clear hw0
  go_at_call 41
  refine (h _).mono ?_
  rintro e w1 ⟨rfl, hb1⟩
  have s1 := hb1.size
  try simp at s1
  replace fc20 := bfroz2 hb1 c20 fc20
  replace fc21 := bfroz2 hb1 c21 fc21
  replace fc22 := bfroz2 hb1 c22 fc22
  replace fc23 := bfroz2 hb1 c23 fc23
  replace c00 := bkeep2 hb1 c00
  replace c01 := bkeep2 hb1 c01
  replace c02 := bkeep2 hb1 c02
  replace c03 := bkeep2 hb1 c03
  replace c10 := bkeep2 hb1 c10
  replace c11 := bkeep2 hb1 c11
  replace c12 := bkeep2 hb1 c12
  replace c13 := bkeep2 hb1 c13
  replace c20 := bkeep2 hb1 c20
  replace c21 := bkeep2 hb1 c21
  replace c22 := bkeep2 hb1 c22
  replace c23 := bkeep2 hb1 c23
  have l0 : w.heap.size < w1.heap.size := cell_lt c00
  have l1 : w.heap.size + 1 < w1.heap.size := cell_lt c10
  have l2 : w.heap.size + 1 + 1 < w1.heap.size := cell_lt c20
  go_wp2_with fail
  refine bodyPost_ret (v := .agg #[.float .f64 e1, .float .f64 e2, .float .f64 e3, .float .f64 e4]) (by simp [results, Tryz.results27, go_sem, *]) rfl ⟨rfl, ?_⟩
  repeat (with_reducible first | exact Below.refl _ _ | assumption | refine Below.drew ?_ | refine bl_drewN ?_ _ | refine Below.setCell ?_ (by first | omega | (simp; done) | (simp; omega)) _ | refine Below.alloc ?_ (by first | omega | (simp; done) | (simp; omega)) _ | refine bl_next ?_ (by assumption) | refine bl_trans ?_ (by assumption) (by first | omega | (simp; done) | (simp; omega)))

set_option maxHeartbeats 1000000 in
theorem ldisced_add_w (a b r c d s k1 k2 k3 : Nat)
    (h : ∀ w, Calls Tryz.prog 56 #[.agg #[.complex .f64 a b, .float .f64 r], .agg #[.complex .f64 c d, .float .f64 s]] w fun e w' => e = .returned (.agg #[.complex .f64 k1 k2, .float .f64 k3]) ∧ Below w.heap.size w w') (w : World) :
    Calls Tryz.prog 29 #[.int .u8 43, .agg #[.complex .f64 a b, .float .f64 r], .agg #[.complex .f64 c d, .float .f64 s]] w fun e w' => e = .returned (.agg #[.complex .f64 k1 k2, .float .f64 k3]) ∧ Below w.heap.size w w' := by
  go_enter Tryz.func29, Tryz.ntmps29
  go_wp2_with fail
  obtain ⟨w0, hw0⟩ : ∃ v, v = (((w.alloc (.cells #[.complex .f64 a b, .float .f64 r] 42)).alloc (.cells #[.complex .f64 c d, .float .f64 s] 42)).alloc (.cells #[.complex .f64 0 0, .float .f64 0] 42)) := ⟨_, rfl⟩
  rw [← hw0]
  have c00 : w0.cell? ⟨w.heap.size, 0, none⟩ = some (.complex .f64 a b) := by simp [hw0, go_sem]
  have c01 : w0.cell? ⟨w.heap.size, 1, none⟩ = some (.float .f64 r) := by simp [hw0, go_sem]
  have c10 : w0.cell? ⟨w.heap.size + 1, 0, none⟩ = some (.complex .f64 c d) := by simp [hw0, go_sem]
  have c11 : w0.cell? ⟨w.heap.size + 1, 1, none⟩ = some (.float .f64 s) := by simp [hw0, go_sem]
  have c20 : w0.cell? ⟨w.heap.size + 1 + 1, 0, none⟩ = some (.complex .f64 0 0) := by simp [hw0, go_sem]
  have fc20 : w0.frozen? ⟨w.heap.size + 1 + 1, 0, none⟩ = false := by simp [hw0, go_sem]
  have c21 : w0.cell? ⟨w.heap.size + 1 + 1, 1, none⟩ = some (.float .f64 0) := by simp [hw0, go_sem]
  have fc21 : w0.frozen? ⟨w.heap.size + 1 + 1, 1, none⟩ = false := by simp [hw0, go_sem]
  have s0 : w.heap.size + 1 + 1 + 1 ≤ w0.heap.size := by simp [hw0]
  have hB0 : Below w.heap.size w w0 := by
    rw [hw0]
    repeat (with_reducible first | exact Below.refl _ _ | assumption | refine Below.drew ?_ | refine bl_drewN ?_ _ | refine Below.setCell ?_ (by first | omega | (simp; done) | (simp; omega)) _ | refine Below.alloc ?_ (by first | omega | (simp; done) | (simp; omega)) _ | refine bl_next ?_ (by assumption) | refine bl_trans ?_ (by assumption) (by first | omega | (simp; done) | (simp; omega)))
  clear hw0
  go_at_call 56
  refine (h _).mono ?_
  rintro e w1 ⟨rfl, hb1⟩
  have s1 := hb1.size
  try simp at s1
  replace fc20 := bfroz2 hb1 c20 fc20
  replace fc21 := bfroz2 hb1 c21 fc21
  replace c00 := bkeep2 hb1 c00
  replace c01 := bkeep2 hb1 c01
  replace c10 := bkeep2 hb1 c10
  replace c11 := bkeep2 hb1 c11
  replace c20 := bkeep2 hb1 c20
  replace c21 := bkeep2 hb1 c21
  have l0 : w.heap.size < w1.heap.size := cell_lt c00
  have l1 : w.heap.size + 1 < w1.heap.size := cell_lt c10
  have l2 : w.heap.size + 1 + 1 < w1.heap.size := cell_lt c20
  go_wp2_with fail
  refine bodyPost_ret (v := .agg #[.complex .f64 k1 k2, .float .f64 k3]) (by simp [results, Tryz.results29, go_sem, *]) rfl ⟨rfl, ?_⟩
  repeat (with_reducible first | exact Below.refl _ _ | assumption | refine Below.drew ?_ | refine bl_drewN ?_ _ | refine Below.setCell ?_ (by first | omega | (simp; done) | (simp; omega)) _ | refine Below.alloc ?_ (by first | omega | (simp; done) | (simp; omega)) _ | refine bl_next ?_ (by assumption) | refine bl_trans ?_ (by assumption) (by first | omega | (simp; done) | (simp; omega)))

set_option maxHeartbeats 1000000 in
theorem ldisced_sub_w (a b r c d s k1 k2 k3 : Nat)
    (h : ∀ w, Calls Tryz.prog 57 #[.agg #[.complex .f64 a b, .float .f64 r], .agg #[.complex .f64 c d, .float .f64 s]] w fun e w' => e = .returned (.agg #[.complex .f64 k1 k2, .float .f64 k3]) ∧ Below w.heap.size w w') (w : World) :
    Calls Tryz.prog 29 #[.int .u8 45, .agg #[.complex .f64 a b, .float .f64 r], .agg #[.complex .f64 c d, .float .f64 s]] w fun e w' => e = .returned (.agg #[.complex .f64 k1 k2, .float .f64 k3]) ∧ Below w.heap.size w w' := by
  go_enter Tryz.func29, Tryz.ntmps29
  go_wp2_with fail
  obtain ⟨w0, hw0⟩ : ∃ v, v = (((w.alloc (.cells #[.complex .f64 a b, .float .f64 r] 42)).alloc (.cells #[.complex .f64 c d, .float .f64 s] 42)).alloc (.cells #[.complex .f64 0 0, .float .f64 0] 42)) := ⟨_, rfl⟩
  rw [← hw0]
  have c00 : w0.cell? ⟨w.heap.size, 0, none⟩ = some (.complex .f64 a b) := by simp [hw0, go_sem]
  have c01 : w0.cell? ⟨w.heap.size, 1, none⟩ = some (.float .f64 r) := by simp [hw0, go_sem]
  have c10 : w0.cell? ⟨w.heap.size + 1, 0, none⟩ = some (.complex .f64 c d) := by simp [hw0, go_sem]
  have c11 : w0.cell? ⟨w.heap.size + 1, 1, none⟩ = some (.float .f64 s) := by simp [hw0, go_sem]
  have c20 : w0.cell? ⟨w.heap.size + 1 + 1, 0, none⟩ = some (.complex .f64 0 0) := by simp [hw0, go_sem]
  have fc20 : w0.frozen? ⟨w.heap.size + 1 + 1, 0, none⟩ = false := by simp [hw0, go_sem]
  have c21 : w0.cell? ⟨w.heap.size + 1 + 1, 1, none⟩ = some (.float .f64 0) := by simp [hw0, go_sem]
  have fc21 : w0.frozen? ⟨w.heap.size + 1 + 1, 1, none⟩ = false := by simp [hw0, go_sem]
  have s0 : w.heap.size + 1 + 1 + 1 ≤ w0.heap.size := by simp [hw0]
  have hB0 : Below w.heap.size w w0 := by
    rw [hw0]
    repeat (with_reducible first | exact Below.refl _ _ | assumption | refine Below.drew ?_ | refine bl_drewN ?_ _ | refine Below.setCell ?_ (by first | omega | (simp; done) | (simp; omega)) _ | refine Below.alloc ?_ (by first | omega | (simp; done) | (simp; omega)) _ | refine bl_next ?_ (by assumption) | refine bl_trans ?_ (by assumption) (by first | omega | (simp; done) | (simp; omega)))
  clear hw0
  go_at_call 57
  refine (h _).mono ?_
  rintro e w1 ⟨rfl, hb1⟩
  have s1 := hb1.size
  try simp at s1
  replace fc20 := bfroz2 hb1 c20 fc20
  replace fc21 := bfroz2 hb1 c21 fc21
  replace c00 := bkeep2 hb1 c00
  replace c01 := bkeep2 hb1 c01
  replace c10 := bkeep2 hb1 c10
  replace c11 := bkeep2 hb1 c11
  replace c20 := bkeep2 hb1 c20
  replace c21 := bkeep2 hb1 c21
  have l0 : w.heap.size < w1.heap.size := cell_lt c00
  have l1 : w.heap.size + 1 < w1.heap.size := cell_lt c10
  have l2 : w.heap.size + 1 + 1 < w1.heap.size := cell_lt c20
  go_wp2_with fail
  refine bodyPost_ret (v := .agg #[.complex .f64 k1 k2, .float .f64 k3]) (by simp [results, Tryz.results29, go_sem, *]) rfl ⟨rfl, ?_⟩
  repeat (with_reducible first | exact Below.refl _ _ | assumption | refine Below.drew ?_ | refine bl_drewN ?_ _ | refine Below.setCell ?_ (by first | omega | (simp; done) | (simp; omega)) _ | refine Below.alloc ?_ (by first | omega | (simp; done) | (simp; omega)) _ | refine bl_next ?_ (by assumption) | refine bl_trans ?_ (by assumption) (by first | omega | (simp; done) | (simp; omega)))

set_option maxHeartbeats 1000000 in
theorem ldisced_mul_w (a b r c d s k1 k2 k3 : Nat)
    (h : ∀ w, Calls Tryz.prog 58 #[.agg #[.complex .f64 a b, .float .f64 r], .agg #[.complex .f64 c d, .float .f64 s]] w fun e w' => e = .returned (.agg #[.complex .f64 k1 k2, .float .f64 k3]) ∧ Below w.heap.size w w') (w : World) :
    Calls Tryz.prog 29 #[.int .u8 42, .agg #[.complex .f64 a b, .float .f64 r], .agg #[.complex .f64 c d, .float .f64 s]] w fun e w' => e = .returned (.agg #[.complex .f64 k1 k2, .float .f64 k3]) ∧ Below w.heap.size w w' := by
  go_enter Tryz.func29, Tryz.ntmps29
  go_wp2_with fail
  obtain ⟨w0, hw0⟩ : ∃ v, v = (((w.alloc (.cells #[.complex .f64 a b, .float .f64 r] 42)).alloc (.cells #[.complex .f64 c d, .float .f64 s] 42)).alloc (.cells #[.complex .f64 0 0, .float .f64 0] 42)) := ⟨_, rfl⟩
  rw [← hw0]
  have c00 : w0.cell? ⟨w.heap.size, 0, none⟩ = some (.complex .f64 a b) := by simp [hw0, go_sem]
  have c01 : w0.cell? ⟨w.heap.size, 1, none⟩ = some (.float .f64 r) := by simp [hw0, go_sem]
  have c10 : w0.cell? ⟨w.heap.size + 1, 0, none⟩ = some (.complex .f64 c d) := by simp [hw0, go_sem]
  have c11 : w0.cell? ⟨w.heap.size + 1, 1, none⟩ = some (.float .f64 s) := by simp [hw0, go_sem]
  have c20 : w0.cell? ⟨w.heap.size + 1 + 1, 0, none⟩ = some (.complex .f64 0 0) := by simp [hw0, go_sem]
  have fc20 : w0.frozen? ⟨w.heap.size + 1 + 1, 0, none⟩ = false := by simp [hw0, go_sem]
  have c21 : w0.cell? ⟨w.heap.size + 1 + 1, 1, none⟩ = some (.float .f64 0) := by simp [hw0, go_sem]
  have fc21 : w0.frozen? ⟨w.heap.size + 1 + 1, 1, none⟩ = false := by simp [hw0, go_sem]
  have s0 : w.heap.size + 1 + 1 + 1 ≤ w0.heap.size := by simp [hw0]
  have hB0 : Below w.heap.size w w0 := by
    rw [hw0]
    repeat (with_reducible first | exact Below.refl _ _ | assumption | refine Below.drew ?_ | refine bl_drewN ?_ _ | refine Below.setCell ?_ (by first | omega | (simp; done) | (simp; omega)) _ | refine Below.alloc ?_ (by first | omega | (simp; done) | (simp; omega)) _ | refine bl_next ?_ (by assumption) | refine bl_trans ?_ (by assumption) (by first | omega | (simp; done) | (simp; omega)))
  clear hw0
  go_at_call 58
  refine (h _).mono ?_
  rintro e w1 ⟨rfl, hb1⟩
  have s1 := hb1.size
  try simp at s1
  replace fc20 := bfroz2 hb1 c20 fc20
  replace fc21 := bfroz2 hb1 c21 fc21
  replace c00 := bkeep2 hb1 c00
  replace c01 := bkeep2 hb1 c01
  replace c10 := bkeep2 hb1 c10
  replace c11 := bkeep2 hb1 c11
  replace c20 := bkeep2 hb1 c20
  replace c21 := bkeep2 hb1 c21
  have l0 : w.heap.size < w1.heap.size := cell_lt c00
  have l1 : w.heap.size + 1 < w1.heap.size := cell_lt c10
  have l2 : w.heap.size + 1 + 1 < w1.heap.size := cell_lt c20
  go_wp2_with fail
  refine bodyPost_ret (v := .agg #[.complex .f64 k1 k2, .float .f64 k3]) (by simp [results, Tryz.results29, go_sem, *]) rfl ⟨rfl, ?_⟩
  repeat (with_reducible first | exact Below.refl _ _ | assumption | refine Below.drew ?_ | refine bl_drewN ?_ _ | refine Below.setCell ?_ (by first | omega | (simp; done) | (simp; omega)) _ | refine Below.alloc ?_ (by first | omega | (simp; done) | (simp; omega)) _ | refine bl_next ?_ (by assumption) | refine bl_trans ?_ (by assumption) (by first | omega | (simp; done) | (simp; omega)))

set_option maxHeartbeats 1000000 in
theorem ldisced_sqr_w (a b r c d s k1 k2 k3 : Nat)
    (h : ∀ w, Calls Tryz.prog 58 #[.agg #[.complex .f64 a b, .float .f64 r], .agg #[.complex .f64 a b, .float .f64 r]] w fun e w' => e = .returned (.agg #[.complex .f64 k1 k2, .float .f64 k3]) ∧ Below w.heap.size w w') (w : World) :
    Calls Tryz.prog 29 #[.int .u8 94, .agg #[.complex .f64 a b, .float .f64 r], .agg #[.complex .f64 c d, .float .f64 s]] w fun e w' => e = .returned (.agg #[.complex .f64 k1 k2, .float .f64 k3]) ∧ Below w.heap.size w w' := by
  go_enter Tryz.func29, Tryz.ntmps29
  go_wp2_with fail
  obtain ⟨w0, hw0⟩ : ∃ v, v = (((w.alloc (.cells #[.complex .f64 a b, .float .f64 r] 42)).alloc (.cells #[.complex .f64 c d, .float .f64 s] 42)).alloc (.cells #[.complex .f64 0 0, .float .f64 0] 42)) := ⟨_, rfl⟩
  rw [← hw0]
  have c00 : w0.cell? ⟨w.heap.size, 0, none⟩ = some (.complex .f64 a b) := by simp [hw0, go_sem]
  have c01 : w0.cell? ⟨w.heap.size, 1, none⟩ = some (.float .f64 r) := by simp [hw0, go_sem]
  have c10 : w0.cell? ⟨w.heap.size + 1, 0, none⟩ = some (.complex .f64 c d) := by simp [hw0, go_sem]
  have c11 : w0.cell? ⟨w.heap.size + 1, 1, none⟩ = some (.float .f64 s) := by simp [hw0, go_sem]
  have c20 : w0.cell? ⟨w.heap.size + 1 + 1, 0, none⟩ = some (.complex .f64 0 0) := by simp [hw0, go_sem]
  have fc20 : w0.frozen? ⟨w.heap.size + 1 + 1, 0, none⟩ = false := by simp [hw0, go_sem]
  have c21 : w0.cell? ⟨w.heap.size + 1 + 1, 1, none⟩ = some (.float .f64 0) := by simp [hw0, go_sem]
  have fc21 : w0.frozen? ⟨w.heap.size + 1 + 1, 1, none⟩ = false := by simp [hw0, go_sem]
  have s0 : w.heap.size + 1 + 1 + 1 ≤ w0.heap.size := by simp [hw0]
  have hB0 : Below w.heap.size w w0 := by
    rw [hw0]
    repeat (with_reducible first | exact Below.refl _ _ | assumption | refine Below.drew ?_ | refine bl_drewN ?_ _ | refine Below.setCell ?_ (by first | omega | (simp; done) | (simp; omega)) _ | refine Below.alloc ?_ (by first | omega | (simp; done) | (simp; omega)) _ | refine bl_next ?_ (by assumption) | refine bl_trans ?_ (by assumption) (by first | omega | (simp; done) | (simp; omega)))
  clear hw0
  go_at_call 58
  refine (h _).mono ?_
  rintro e w1 ⟨rfl, hb1⟩
  have s1 := hb1.size
  try simp at s1
  replace fc20 := bfroz2 hb1 c20 fc20
  replace fc21 := bfroz2 hb1 c21 fc21
  replace c00 := bkeep2 hb1 c00
  replace c01 := bkeep2 hb1 c01
  replace c10 := bkeep2 hb1 c10
  replace c11 := bkeep2 hb1 c11
  replace c20 := bkeep2 hb1 c20
  replace c21 := bkeep2 hb1 c21
  have l0 : w.heap.size < w1.heap.size := cell_lt c00
  have l1 : w.heap.size + 1 < w1.heap.size := cell_lt c10
  have l2 : w.heap.size + 1 + 1 < w1.heap.size := cell_lt c20
  go_wp2_with fail
  refine bodyPost_ret (v := .agg #[.complex .f64 k1 k2, .float .f64 k3]) (by simp [results, Tryz.results29, go_sem, *]) rfl ⟨rfl, ?_⟩
  repeat (with_reducible first | exact Below.refl _ _ | assumption | refine Below.drew ?_ | refine bl_drewN ?_ _ | refine Below.setCell ?_ (by first | omega | (simp; done) | (simp; omega)) _ | refine Below.alloc ?_ (by first | omega | (simp; done) | (simp; omega)) _ | refine bl_next ?_ (by assumption) | refine bl_trans ?_ (by assumption) (by first | omega | (simp; done) | (simp; omega)))

set_option maxHeartbeats 2000000 in
theorem raws_b_w (X1 X2 X3 X4 a b r : Nat) (w : World) : Calls Tryz.prog 25 #[.agg #[.int .i64 0, .float .f64 X1, .float .f64 X2, .float .f64 X3, .float .f64 X4, .complex .f64 0 0, .float .f64 0], .int .i64 0, .agg #[.float .f64 X1, .float .f64 X2, .float .f64 X3, .float .f64 X4], .agg #[.complex .f64 a b, .float .f64 r]] w fun e w' => e = .returned (.bool true) ∧ Below w.heap.size w w' := by
  go_enter Tryz.func25, Tryz.ntmps25
  go_wp2_with (go_at_call 17; refine (raw_eq _ _).mono ?_; rintro e w1 ⟨rfl, hw1⟩; subst hw1)
  go_ret
  refine ⟨rfl, ?_⟩
  repeat (first | exact Below.refl _ _ | refine bl_alloc ?_ | refine bl_drewN ?_ _)

set_option maxHeartbeats 2000000 in
theorem raws_d_w (X1 X2 X3 X4 a b r : Nat) (w : World) : Calls Tryz.prog 25 #[.agg #[.int .i64 1, .float .f64 0, .float .f64 0, .float .f64 0, .float .f64 0, .complex .f64 a b, .float .f64 r], .int .i64 1, .agg #[.float .f64 X1, .float .f64 X2, .float .f64 X3, .float .f64 X4], .agg #[.complex .f64 a b, .float .f64 r]] w fun e w' => e = .returned (.bool true) ∧ Below w.heap.size w w' := by
  go_enter Tryz.func25, Tryz.ntmps25
  go_wp2_with (go_at_call 17; refine (raw_eq _ _).mono ?_; rintro e w1 ⟨rfl, hw1⟩; subst hw1)
  go_ret
  refine ⟨rfl, ?_⟩
  repeat (first | exact Below.refl _ _ | refine bl_alloc ?_ | refine bl_drewN ?_ _)

set_option maxHeartbeats 2000000 in
theorem alikeDisc_w (a b r : Nat) (ha : Ieee.double.order a a = some .eq) (hb : Ieee.double.order b b = some .eq) (hr : Ieee.double.order r r = some .eq) (w : World) : Calls Tryz.prog 30 #[.agg #[.complex .f64 a b, .float .f64 r], .agg #[.complex .f64 a b, .float .f64 r]] w fun e w' => e = .returned (.bool true) ∧ Below w.heap.size w w' := by
  go_enter Tryz.func30, Tryz.ntmps30
  go_wp2_with (first | (go_at_call 61; with_reducible refine (same_any a ha _).mono ?_; rintro e w1 ⟨rfl, hw1⟩; subst hw1) | (go_at_call 61; with_reducible refine (same_any b hb _).mono ?_; rintro e w1 ⟨rfl, hw1⟩; subst hw1) | (go_at_call 61; with_reducible refine (same_any r hr _).mono ?_; rintro e w1 ⟨rfl, hw1⟩; subst hw1))
  go_ret
  refine ⟨rfl, ?_⟩
  repeat (first | exact Below.refl _ _ | refine bl_alloc ?_ | refine bl_drewN ?_ _)

set_option maxHeartbeats 1000000 in
theorem ldisced_n_w (a b r c d s : Nat)
    (n1 : ∀ w, Calls Tryz.prog 59 #[.agg #[.complex .f64 a b, .float .f64 r]] w fun e w' => e = .returned (.bool true) ∧ Below w.heap.size w w') (w : World) :
    Calls Tryz.prog 29 #[.int .u8 126, .agg #[.complex .f64 a b, .float .f64 r], .agg #[.complex .f64 c d, .float .f64 s]] w fun e w' => e = .returned (.agg #[.complex .f64 0 0, .float .f64 13830554455654793216]) ∧ Below w.heap.size w w' := by
  go_enter Tryz.func29, Tryz.ntmps29
  go_wp2_with fail
  obtain ⟨w0, hw0⟩ : ∃ v, v = (((w.alloc (.cells #[.complex .f64 a b, .float .f64 r] 42)).alloc (.cells #[.complex .f64 c d, .float .f64 s] 42)).alloc (.cells #[.complex .f64 0 0, .float .f64 0] 42)) := ⟨_, rfl⟩
  rw [← hw0]
  have c00 : w0.cell? ⟨w.heap.size, 0, none⟩ = some (.complex .f64 a b) := by simp [hw0, go_sem]
  have c01 : w0.cell? ⟨w.heap.size, 1, none⟩ = some (.float .f64 r) := by simp [hw0, go_sem]
  have c10 : w0.cell? ⟨w.heap.size + 1, 0, none⟩ = some (.complex .f64 c d) := by simp [hw0, go_sem]
  have c11 : w0.cell? ⟨w.heap.size + 1, 1, none⟩ = some (.float .f64 s) := by simp [hw0, go_sem]
  have c20 : w0.cell? ⟨w.heap.size + 1 + 1, 0, none⟩ = some (.complex .f64 0 0) := by simp [hw0, go_sem]
  have fc20 : w0.frozen? ⟨w.heap.size + 1 + 1, 0, none⟩ = false := by simp [hw0, go_sem]
  have c21 : w0.cell? ⟨w.heap.size + 1 + 1, 1, none⟩ = some (.float .f64 0) := by simp [hw0, go_sem]
  have fc21 : w0.frozen? ⟨w.heap.size + 1 + 1, 1, none⟩ = false := by simp [hw0, go_sem]
  have s0 : w.heap.size + 1 + 1 + 1 ≤ w0.heap.size := by simp [hw0]
  have hB0 : Below w.heap.size w w0 := by
    rw [hw0]
    repeat (with_reducible first | exact Below.refl _ _ | assumption | refine Below.drew ?_ | refine bl_drewN ?_ _ | refine Below.setCell ?_ (by first | omega | (simp; done) | (simp; omega)) _ | refine Below.alloc ?_ (by first | omega | (simp; done) | (simp; omega)) _ | refine bl_next ?_ (by assumption) | refine bl_trans ?_ (by assumption) (by first | omega | (simp; done) | (simp; omega)))
  clear hw0
  go_at_call 59
  refine (n1 _).mono ?_
  rintro e w1 ⟨rfl, hb1⟩
  have s1 := hb1.size
  try simp at s1
  replace fc20 := bfroz2 hb1 c20 fc20
  replace fc21 := bfroz2 hb1 c21 fc21
  replace c00 := bkeep2 hb1 c00
  replace c01 := bkeep2 hb1 c01
  replace c10 := bkeep2 hb1 c10
  replace c11 := bkeep2 hb1 c11
  replace c20 := bkeep2 hb1 c20
  replace c21 := bkeep2 hb1 c21
  have l0 : w.heap.size < w1.heap.size := cell_lt c00
  have l1 : w.heap.size + 1 < w1.heap.size := cell_lt c10
  have l2 : w.heap.size + 1 + 1 < w1.heap.size := cell_lt c20
  go_wp2_with fail
  refine bodyPost_ret (v := .agg #[.complex .f64 0 0, .float .f64 13830554455654793216]) (by simp [results, Tryz.results29, go_sem, *]) rfl ⟨rfl, ?_⟩
  repeat (with_reducible first | exact Below.refl _ _ | assumption | refine Below.drew ?_ | refine bl_drewN ?_ _ | refine Below.setCell ?_ (by first | omega | (simp; done) | (simp; omega)) _ | refine Below.alloc ?_ (by first | omega | (simp; done) | (simp; omega)) _ | refine bl_next ?_ (by assumption) | refine bl_trans ?_ (by assumption) (by first | omega | (simp; done) | (simp; omega)))

set_option maxHeartbeats 1000000 in
theorem ldisced_a_w (a b r c d s : Nat)
    (n1 : ∀ w, Calls Tryz.prog 59 #[.agg #[.complex .f64 a b, .float .f64 r]] w fun e w' => e = .returned (.bool false) ∧ Below w.heap.size w w')
    (i1 : ∀ w, Calls Tryz.prog 60 #[.float .f64 r, .int .i64 1] w fun e w' => e = .returned (.bool true) ∧ w' = w) (w : World) :
    Calls Tryz.prog 29 #[.int .u8 126, .agg #[.complex .f64 a b, .float .f64 r], .agg #[.complex .f64 c d, .float .f64 s]] w fun e w' => e = .returned (.agg #[.complex .f64 0 0, .float .f64 r]) ∧ Below w.heap.size w w' := by
  go_enter Tryz.func29, Tryz.ntmps29
  go_wp2_with fail
  obtain ⟨w0, hw0⟩ : ∃ v, v = (((w.alloc (.cells #[.complex .f64 a b, .float .f64 r] 42)).alloc (.cells #[.complex .f64 c d, .float .f64 s] 42)).alloc (.cells #[.complex .f64 0 0, .float .f64 0] 42)) := ⟨_, rfl⟩
  rw [← hw0]
  have c00 : w0.cell? ⟨w.heap.size, 0, none⟩ = some (.complex .f64 a b) := by simp [hw0, go_sem]
  have c01 : w0.cell? ⟨w.heap.size, 1, none⟩ = some (.float .f64 r) := by simp [hw0, go_sem]
  have c10 : w0.cell? ⟨w.heap.size + 1, 0, none⟩ = some (.complex .f64 c d) := by simp [hw0, go_sem]
  have c11 : w0.cell? ⟨w.heap.size + 1, 1, none⟩ = some (.float .f64 s) := by simp [hw0, go_sem]
  have c20 : w0.cell? ⟨w.heap.size + 1 + 1, 0, none⟩ = some (.complex .f64 0 0) := by simp [hw0, go_sem]
  have fc20 : w0.frozen? ⟨w.heap.size + 1 + 1, 0, none⟩ = false := by simp [hw0, go_sem]
  have c21 : w0.cell? ⟨w.heap.size + 1 + 1, 1, none⟩ = some (.float .f64 0) := by simp [hw0, go_sem]
  have fc21 : w0.frozen? ⟨w.heap.size + 1 + 1, 1, none⟩ = false := by simp [hw0, go_sem]
  have s0 : w.heap.size + 1 + 1 + 1 ≤ w0.heap.size := by simp [hw0]
  have hB0 : Below w.heap.size w w0 := by
    rw [hw0]
    repeat (with_reducible first | exact Below.refl _ _ | assumption | refine Below.drew ?_ | refine bl_drewN ?_ _ | refine Below.setCell ?_ (by first | omega | (simp; done) | (simp; omega)) _ | refine Below.alloc ?_ (by first | omega | (simp; done) | (simp; omega)) _ | refine bl_next ?_ (by assumption) | refine bl_trans ?_ (by assumption) (by first | omega | (simp; done) | (simp; omega)))
  clear hw0
  go_at_call 59
  refine (n1 _).mono ?_
  rintro e w1 ⟨rfl, hb1⟩
  have s1 := hb1.size
  try simp at s1
  replace fc20 := bfroz2 hb1 c20 fc20
  replace fc21 := bfroz2 hb1 c21 fc21
  replace c00 := bkeep2 hb1 c00
  replace c01 := bkeep2 hb1 c01
  replace c10 := bkeep2 hb1 c10
  replace c11 := bkeep2 hb1 c11
  replace c20 := bkeep2 hb1 c20
  replace c21 := bkeep2 hb1 c21
  have l0 : w.heap.size < w1.heap.size := cell_lt c00
  have l1 : w.heap.size + 1 < w1.heap.size := cell_lt c10
  have l2 : w.heap.size + 1 + 1 < w1.heap.size := cell_lt c20
  go_wp2_with fail
  go_at_call 60
  refine (i1 _).mono ?_
  rintro e w' ⟨rfl, rfl⟩
  go_wp2_with fail
  refine bodyPost_ret (v := .agg #[.complex .f64 0 0, .float .f64 r]) (by simp [results, Tryz.results29, go_sem, *]) rfl ⟨rfl, ?_⟩
  repeat (with_reducible first | exact Below.refl _ _ | assumption | refine Below.drew ?_ | refine bl_drewN ?_ _ | refine Below.setCell ?_ (by first | omega | (simp; done) | (simp; omega)) _ | refine Below.alloc ?_ (by first | omega | (simp; done) | (simp; omega)) _ | refine bl_next ?_ (by assumption) | refine bl_trans ?_ (by assumption) (by first | omega | (simp; done) | (simp; omega)))

set_option maxHeartbeats 1000000 in
theorem ldisced_f_w (a b r c d s t1 t2 t3 : Nat)
    (n1 : ∀ w, Calls Tryz.prog 59 #[.agg #[.complex .f64 a b, .float .f64 r]] w fun e w' => e = .returned (.bool false) ∧ Below w.heap.size w w')
    (i1 : ∀ w, Calls Tryz.prog 60 #[.float .f64 r, .int .i64 1] w fun e w' => e = .returned (.bool false) ∧ w' = w)
    (g1 : Ieee.double.add a 0 = some t1)
    (g2 : Ieee.double.sub 0 b = some t2)
    (g3 : Ieee.double.add r 0 = some t3) (w : World) :
    Calls Tryz.prog 29 #[.int .u8 126, .agg #[.complex .f64 a b, .float .f64 r], .agg #[.complex .f64 c d, .float .f64 s]] w fun e w' => e = .returned (.agg #[.complex .f64 t1 t2, .float .f64 t3]) ∧ Below w.heap.size w w' := by
  have q1 := fun t' w => run_float_arith (P := Tryz.prog) w .add t' .f64 _ _ _ g1
  have q2 := fun t' w => run_float_arith (P := Tryz.prog) w .sub t' .f64 _ _ _ g2
  have q3 := fun t' w => run_float_arith (P := Tryz.prog) w .add t' .f64 _ _ _ g3
  clear g1 g2 g3
  go_enter Tryz.func29, Tryz.ntmps29
  go_wp2_with fail
  obtain ⟨w0, hw0⟩ : ∃ v, v = (((w.alloc (.cells #[.complex .f64 a b, .float .f64 r] 42)).alloc (.cells #[.complex .f64 c d, .float .f64 s] 42)).alloc (.cells #[.complex .f64 0 0, .float .f64 0] 42)) := ⟨_, rfl⟩
  rw [← hw0]
  have c00 : w0.cell? ⟨w.heap.size, 0, none⟩ = some (.complex .f64 a b) := by simp [hw0, go_sem]
  have c01 : w0.cell? ⟨w.heap.size, 1, none⟩ = some (.float .f64 r) := by simp [hw0, go_sem]
  have c10 : w0.cell? ⟨w.heap.size + 1, 0, none⟩ = some (.complex .f64 c d) := by simp [hw0, go_sem]
  have c11 : w0.cell? ⟨w.heap.size + 1, 1, none⟩ = some (.float .f64 s) := by simp [hw0, go_sem]
  have c20 : w0.cell? ⟨w.heap.size + 1 + 1, 0, none⟩ = some (.complex .f64 0 0) := by simp [hw0, go_sem]
  have fc20 : w0.frozen? ⟨w.heap.size + 1 + 1, 0, none⟩ = false := by simp [hw0, go_sem]
  have c21 : w0.cell? ⟨w.heap.size + 1 + 1, 1, none⟩ = some (.float .f64 0) := by simp [hw0, go_sem]
  have fc21 : w0.frozen? ⟨w.heap.size + 1 + 1, 1, none⟩ = false := by simp [hw0, go_sem]
  have s0 : w.heap.size + 1 + 1 + 1 ≤ w0.heap.size := by simp [hw0]
  have hB0 : Below w.heap.size w w0 := by
    rw [hw0]
    repeat (with_reducible first | exact Below.refl _ _ | assumption | refine Below.drew ?_ | refine bl_drewN ?_ _ | refine Below.setCell ?_ (by first | omega | (simp; done) | (simp; omega)) _ | refine Below.alloc ?_ (by first | omega | (simp; done) | (simp; omega)) _ | refine bl_next ?_ (by assumption) | refine bl_trans ?_ (by assumption) (by first | omega | (simp; done) | (simp; omega)))
  clear hw0
  go_at_call 59
  refine (n1 _).mono ?_
  rintro e w1 ⟨rfl, hb1⟩
  have s1 := hb1.size
  try simp at s1
  replace fc20 := bfroz2 hb1 c20 fc20
  replace fc21 := bfroz2 hb1 c21 fc21
  replace c00 := bkeep2 hb1 c00
  replace c01 := bkeep2 hb1 c01
  replace c10 := bkeep2 hb1 c10
  replace c11 := bkeep2 hb1 c11
  replace c20 := bkeep2 hb1 c20
  replace c21 := bkeep2 hb1 c21
  have l0 : w.heap.size < w1.heap.size := cell_lt c00
  have l1 : w.heap.size + 1 < w1.heap.size := cell_lt c10
  have l2 : w.heap.size + 1 + 1 < w1.heap.size := cell_lt c20
  go_wp2_with fail
  go_at_call 60
  refine (i1 _).mono ?_
  rintro e w' ⟨rfl, rfl⟩
  go_wp2_with fail
  refine bodyPost_ret (v := .agg #[.complex .f64 t1 t2, .float .f64 t3]) (by simp [results, Tryz.results29, go_sem, *]) rfl ⟨rfl, ?_⟩
  repeat (with_reducible first | exact Below.refl _ _ | assumption | refine Below.drew ?_ | refine bl_drewN ?_ _ | refine Below.setCell ?_ (by first | omega | (simp; done) | (simp; omega)) _ | refine Below.alloc ?_ (by first | omega | (simp; done) | (simp; omega)) _ | refine bl_next ?_ (by assumption) | refine bl_trans ?_ (by assumption) (by first | omega | (simp; done) | (simp; omega)))

end Go.Proofs.YtacnclofbnafiabGreatDoor

namespace Go.Proofs.YtacnclofbnafiabGreatDoor
open Go.RowKit Fl

/-- No NaN. -/
def Ord (x : Nat) : Prop := Ieee.double.order x x = some .eq
theorem ord_B {k : Int} (h : Pl k) : Ord (B k) := (Key.at h).self
theorem ord_inf : Ord (B INF) := ord_B pl_inf
theorem ord_0 : Ord 0 := by show Ieee.double.order 0 0 = some .eq; decide +kernel
theorem ord_m1 : Ord 13830554455654793216 := by show Ieee.double.order 13830554455654793216 13830554455654793216 = some .eq; decide +kernel
theorem ord_all {e f i : Nat} (h : AllD e f i) : Ord e ∧ Ord f ∧ Ord i := by
  obtain ⟨rfl, rfl, rfl⟩ := h
  exact ⟨ord_0, ord_0, ord_inf⟩
theorem ord_no {e f i : Nat} (h : NoD e f i) : Ord e ∧ Ord f ∧ Ord i := by
  obtain ⟨rfl, rfl, rfl⟩ := h
  exact ⟨ord_0, ord_0, ord_m1⟩
def OrdD2 (f : FuncId) : Prop := ∀ a b r a2 b2 r2 : Nat, W64 a → W64 b → W64 r → W64 a2 → W64 b2 → W64 r2 → ∃ e1 e2 e3, Ord e1 ∧ Ord e2 ∧ Ord e3 ∧ ∀ w, Calls Tryz.prog f #[.agg #[.complex .f64 a b, .float .f64 r], .agg #[.complex .f64 a2 b2, .float .f64 r2]] w fun e w' => e = .returned (.agg #[.complex .f64 e1 e2, .float .f64 e3]) ∧ Below w.heap.size w w'
def OrdD1 (f : FuncId) : Prop := ∀ a b r : Nat, W64 a → W64 b → W64 r → ∃ e1 e2 e3, Ord e1 ∧ Ord e2 ∧ Ord e3 ∧ ∀ w, Calls Tryz.prog f #[.agg #[.complex .f64 a b, .float .f64 r]] w fun e w' => e = .returned (.agg #[.complex .f64 e1 e2, .float .f64 e3]) ∧ Below w.heap.size w w'
theorem discAdd_ord (F : Ops) : OrdD2 89 := fun a b r a2 b2 r2 h1 h2 h3 g1 g2 g3 => by
  rcases disc_cases a b r h1 h2 h3 with ⟨x, y, t, h⟩ | h | h
  · rcases disc_cases a2 b2 r2 g1 g2 g3 with ⟨x2, y2, t2, g⟩ | g | g
    · obtain ⟨e, f, i, c, q⟩ := pdiscAdd_fin F h g
      rcases q with ⟨q, _⟩ | ⟨u, v, c, A, lt, rfl, rfl, rfl⟩
      · exact ⟨e, f, i, (ord_all q).1, (ord_all q).2.1, (ord_all q).2.2, c⟩
      · refine ⟨_, _, _, ord_B A.fu.pl, ord_B A.fv.pl, ord_B ?_, c⟩
        exact (F.add_pl (A.len.ge A.pl.1 A.pl.2).1 (F.add_pl h.kr.pl g.kr.pl).2).2
    · obtain ⟨e, f, i, q, c⟩ := pdiscAdd_all2 (a2 := a2) (b2 := b2) h g
      exact ⟨e, f, i, (ord_all q).1, (ord_all q).2.1, (ord_all q).2.2, c⟩
    · obtain ⟨e, f, i, q, c⟩ := pdiscAdd_no h1 h2 g1 g2 h3 g3 (.inr g)
      exact ⟨e, f, i, (ord_no q).1, (ord_no q).2.1, (ord_no q).2.2, c⟩
  · rcases disc_cases a2 b2 r2 g1 g2 g3 with g | g | g
    · obtain ⟨e, f, i, q, c⟩ := pdiscAdd_all1 (a := a) (b := b) h (.inl g)
      exact ⟨e, f, i, (ord_all q).1, (ord_all q).2.1, (ord_all q).2.2, c⟩
    · obtain ⟨e, f, i, q, c⟩ := pdiscAdd_all1 (a := a) (b := b) (a2 := a2) (b2 := b2) h (.inr g)
      exact ⟨e, f, i, (ord_all q).1, (ord_all q).2.1, (ord_all q).2.2, c⟩
    · obtain ⟨e, f, i, q, c⟩ := pdiscAdd_no h1 h2 g1 g2 h3 g3 (.inr g)
      exact ⟨e, f, i, (ord_no q).1, (ord_no q).2.1, (ord_no q).2.2, c⟩
  · obtain ⟨e, f, i, q, c⟩ := pdiscAdd_no h1 h2 g1 g2 h3 g3 (.inl h)
    exact ⟨e, f, i, (ord_no q).1, (ord_no q).2.1, (ord_no q).2.2, c⟩
theorem discSub_ord (F : Ops) : OrdD2 90 := fun a b r a2 b2 r2 h1 h2 h3 g1 g2 g3 => by
  rcases disc_cases a b r h1 h2 h3 with ⟨x, y, t, h⟩ | h | h
  · rcases disc_cases a2 b2 r2 g1 g2 g3 with ⟨x2, y2, t2, g⟩ | g | g
    · obtain ⟨e, f, i, c, q⟩ := pdiscSub_fin F h g
      rcases q with ⟨q, _⟩ | ⟨u, v, c, A, lt, rfl, rfl, rfl⟩
      · exact ⟨e, f, i, (ord_all q).1, (ord_all q).2.1, (ord_all q).2.2, c⟩
      · refine ⟨_, _, _, ord_B A.fu.pl, ord_B A.fv.pl, ord_B ?_, c⟩
        exact (F.add_pl (A.len.ge A.pl.1 A.pl.2).1 (F.add_pl h.kr.pl g.kr.pl).2).2
    · obtain ⟨e, f, i, q, c⟩ := pdiscSub_all2 (a2 := a2) (b2 := b2) h g
      exact ⟨e, f, i, (ord_all q).1, (ord_all q).2.1, (ord_all q).2.2, c⟩
    · obtain ⟨e, f, i, q, c⟩ := pdiscSub_no h1 h2 g1 g2 h3 g3 (.inr g)
      exact ⟨e, f, i, (ord_no q).1, (ord_no q).2.1, (ord_no q).2.2, c⟩
  · rcases disc_cases a2 b2 r2 g1 g2 g3 with g | g | g
    · obtain ⟨e, f, i, q, c⟩ := pdiscSub_all1 (a := a) (b := b) h (.inl g)
      exact ⟨e, f, i, (ord_all q).1, (ord_all q).2.1, (ord_all q).2.2, c⟩
    · obtain ⟨e, f, i, q, c⟩ := pdiscSub_all1 (a := a) (b := b) (a2 := a2) (b2 := b2) h (.inr g)
      exact ⟨e, f, i, (ord_all q).1, (ord_all q).2.1, (ord_all q).2.2, c⟩
    · obtain ⟨e, f, i, q, c⟩ := pdiscSub_no h1 h2 g1 g2 h3 g3 (.inr g)
      exact ⟨e, f, i, (ord_no q).1, (ord_no q).2.1, (ord_no q).2.2, c⟩
  · obtain ⟨e, f, i, q, c⟩ := pdiscSub_no h1 h2 g1 g2 h3 g3 (.inl h)
    exact ⟨e, f, i, (ord_no q).1, (ord_no q).2.1, (ord_no q).2.2, c⟩
theorem discMul_ord (F : Ops) : OrdD2 91 := fun a b r a2 b2 r2 h1 h2 h3 g1 g2 g3 => by
  rcases disc_cases a b r h1 h2 h3 with ⟨x, y, t, h⟩ | h | h
  · rcases disc_cases a2 b2 r2 g1 g2 g3 with ⟨x2, y2, t2, g⟩ | g | g
    · obtain ⟨e, f, i, c, q⟩ := pdiscMul_fin F h g
      rcases q with ⟨q, _⟩ | ⟨q1, q2, l1, l2, u, v, c, A, lt, rfl, rfl, rfl⟩
      · exact ⟨e, f, i, (ord_all q).1, (ord_all q).2.1, (ord_all q).2.2, c⟩
      · refine ⟨_, _, _, ord_B A.fu.pl, ord_B A.fv.pl, ord_B ?_, c⟩
        exact (F.add_pl (A.len.ge A.pl.1 A.pl.2).1 (F.add_pl (F.add_pl (F.mul_pl (l1.ge h.fa.pl h.fb.pl).1 g.kr.pl).2 (F.mul_pl (l2.ge g.fa.pl g.fb.pl).1 h.kr.pl).2).2 (F.mul_pl h.kr.pl g.kr.pl).2).2).2
    · obtain ⟨e, f, i, q, c⟩ := pdiscMul_all2 (a2 := a2) (b2 := b2) h g
      exact ⟨e, f, i, (ord_all q).1, (ord_all q).2.1, (ord_all q).2.2, c⟩
    · obtain ⟨e, f, i, q, c⟩ := pdiscMul_no h1 h2 g1 g2 h3 g3 (.inr g)
      exact ⟨e, f, i, (ord_no q).1, (ord_no q).2.1, (ord_no q).2.2, c⟩
  · rcases disc_cases a2 b2 r2 g1 g2 g3 with g | g | g
    · obtain ⟨e, f, i, q, c⟩ := pdiscMul_all1 (a := a) (b := b) h (.inl g)
      exact ⟨e, f, i, (ord_all q).1, (ord_all q).2.1, (ord_all q).2.2, c⟩
    · obtain ⟨e, f, i, q, c⟩ := pdiscMul_all1 (a := a) (b := b) (a2 := a2) (b2 := b2) h (.inr g)
      exact ⟨e, f, i, (ord_all q).1, (ord_all q).2.1, (ord_all q).2.2, c⟩
    · obtain ⟨e, f, i, q, c⟩ := pdiscMul_no h1 h2 g1 g2 h3 g3 (.inr g)
      exact ⟨e, f, i, (ord_no q).1, (ord_no q).2.1, (ord_no q).2.2, c⟩
  · obtain ⟨e, f, i, q, c⟩ := pdiscMul_no h1 h2 g1 g2 h3 g3 (.inl h)
    exact ⟨e, f, i, (ord_no q).1, (ord_no q).2.1, (ord_no q).2.2, c⟩
theorem discConj_ord : OrdD1 95 := fun a b r h1 h2 h3 => by
  rcases disc_cases a b r h1 h2 h3 with ⟨x, y, t, h⟩ | h | h
  · exact ⟨_, _, _, ord_B h.ka.pl, ord_B (pl_neg h.kb.pl), ord_B h.kr.pl, discConj_fin h⟩
  · exact ⟨0, 0, _, ord_0, ord_0, ord_inf, discConj_a_w _ _ _ _ _ _ (hasNone_all h) (hasAll_yes h) pallDisc⟩
  · exact ⟨0, 0, _, ord_0, ord_0, ord_m1, discConj_n_w _ _ _ _ _ _ (hasNone_yes h1 h2 h) pnoDisc⟩
def NmD (z : Dc) : Prop := Ord z.a ∧ Ord z.b ∧ Ord z.r
theorem dadd_nm (F : Ops) (P : Plane) (w : World) {x y : Dc} (hx : x.ok) (hy : y.ok) : NmD (P.dadd x y) := by
  obtain ⟨e1, e2, e3, h1, h2, h3, hw⟩ := discAdd_ord F x.a x.b x.r y.a y.b y.r hx.1 hx.2.1 hx.2.2 hy.1 hy.2.1 hy.2.2
  rw [P.is_dadd w hx hy (z := ⟨e1, e2, e3⟩) hw]; exact ⟨h1, h2, h3⟩
theorem dsub_nm (F : Ops) (P : Plane) (w : World) {x y : Dc} (hx : x.ok) (hy : y.ok) : NmD (P.dsub x y) := by
  obtain ⟨e1, e2, e3, h1, h2, h3, hw⟩ := discSub_ord F x.a x.b x.r y.a y.b y.r hx.1 hx.2.1 hx.2.2 hy.1 hy.2.1 hy.2.2
  rw [P.is_dsub w hx hy (z := ⟨e1, e2, e3⟩) hw]; exact ⟨h1, h2, h3⟩
theorem dmul_nm (F : Ops) (P : Plane) (w : World) {x y : Dc} (hx : x.ok) (hy : y.ok) : NmD (P.dmul x y) := by
  obtain ⟨e1, e2, e3, h1, h2, h3, hw⟩ := discMul_ord F x.a x.b x.r y.a y.b y.r hx.1 hx.2.1 hx.2.2 hy.1 hy.2.1 hy.2.2
  rw [P.is_dmul w hx hy (z := ⟨e1, e2, e3⟩) hw]; exact ⟨h1, h2, h3⟩
theorem dconj_nm (P : Plane) (w : World) {x : Dc} (hx : x.ok) : NmD (P.dconj x) := by
  obtain ⟨e1, e2, e3, h1, h2, h3, hw⟩ := discConj_ord x.a x.b x.r hx.1 hx.2.1 hx.2.2
  rw [P.is_dconj w hx (z := ⟨e1, e2, e3⟩) hw]; exact ⟨h1, h2, h3⟩
theorem key_inf {x : Nat} (h : Key x INF) : x = B INF := by
  obtain ⟨s, r, rfl, hr, hk⟩ := h
  have hI := INF_pos
  have r0 : r ≠ 0 := by
    rintro rfl
    cases s <;> simp [ixI] at hk <;> omega
  rw [← hk, B_ix, pw_W _ _ (by omega)]
/-- One operation, as the law names it. -/
def Plane.bop (P : Plane) (c : Int) (x y : Bx) : Bx := if c = 43 then P.badd x y else if c = 45 then P.bsub x y else if c = 42 then P.bmul x y else if c = 94 then P.bmul x x else P.bconj x
def Plane.dop (P : Plane) (c : Int) (x y : Dc) : Dc := if c = 43 then P.dadd x y else if c = 45 then P.dsub x y else if c = 42 then P.dmul x y else if c = 94 then P.dmul x x else P.dconj x
theorem boxed_op (F : Ops) (P : Plane) (w : World) {c : Int} (hc : c = 43 ∨ c = 45 ∨ c = 42 ∨ c = 94 ∨ c = 126) {x y : Bx} (hx : x.ok) (hy : y.ok) : Ret 27 #[.int .u8 c, x.v, y.v] (P.bop c x y).v ∧ Nm (P.bop c x y) := by
  rcases hc with rfl | rfl | rfl | rfl | rfl
  · exact ⟨lboxed_add_w _ _ _ _ _ _ _ _ _ _ _ _ (iBoxAdd_w _ _ _ _ _ _ _ _ _ _ _ _ (P.hbadd x y hx hy).2), badd_nm F P w hx hy⟩
  · exact ⟨lboxed_sub_w _ _ _ _ _ _ _ _ _ _ _ _ (iBoxSub_w _ _ _ _ _ _ _ _ _ _ _ _ (P.hbsub x y hx hy).2), bsub_nm F P w hx hy⟩
  · exact ⟨lboxed_mul_w _ _ _ _ _ _ _ _ _ _ _ _ (iBoxMul_w _ _ _ _ _ _ _ _ _ _ _ _ (P.hbmul x y hx hy).2), bmul_nm F P w hx hy⟩
  · exact ⟨lboxed_sqr_w _ _ _ _ _ _ _ _ _ _ _ _ (iBoxMul_w _ _ _ _ _ _ _ _ _ _ _ _ (P.hbmul x x hx hx).2), bmul_nm F P w hx hx⟩
  · exact ⟨lboxed_conj_w _ _ _ _ _ _ _ _ _ _ _ _ (bconj_ref P w hx).1, (bconj_ref P w hx).2⟩
theorem disced_conj (P : Plane) (w : World) {x : Dc} (hx : x.ok) (y : Dc) : Ret 29 #[.int .u8 126, x.v, y.v] (P.dconj x).v := by
  rcases disc_cases x.a x.b x.r hx.1 hx.2.1 hx.2.2 with ⟨X, Y, T, h⟩ | h | h
  · rw [P.is_dconj w hx (z := ⟨B X, B (-Y), B T⟩) (discConj_fin h)]
    have i := isInf1_key h.kr
    rw [decide_eq_false (by have := h.r1; omega)] at i
    exact ldisced_f_w _ _ _ _ _ _ _ _ _ (rlone_fin h) i h.ka.plus0 h.kb.minus h.kr.plus0
  · rw [P.is_dconj w hx (z := ⟨0, 0, B INF⟩) (discConj_a_w _ _ _ _ _ _ (hasNone_all h) (hasAll_yes h) pallDisc)]
    have i := isInf1_key h
    rw [decide_eq_true rfl] at i
    have e : x.r = B INF := key_inf h
    have := ldisced_a_w x.a x.b x.r y.a y.b y.r (rlone_all h) i
    rw [e] at this
    intro w
    have q := this w
    unfold Dc.v
    rw [e]
    exact q
  · rw [P.is_dconj w hx (z := ⟨0, 0, 13830554455654793216⟩) (discConj_n_w _ _ _ _ _ _ (hasNone_yes hx.1 hx.2.1 h) pnoDisc)]
    exact ldisced_n_w _ _ _ _ _ _ (rlone_no hx.1 hx.2.1 h)
theorem disced_op (F : Ops) (P : Plane) (w : World) {c : Int} (hc : c = 43 ∨ c = 45 ∨ c = 42 ∨ c = 94 ∨ c = 126) {x y : Dc} (hx : x.ok) (hy : y.ok) : Ret 29 #[.int .u8 c, x.v, y.v] (P.dop c x y).v ∧ NmD (P.dop c x y) := by
  rcases hc with rfl | rfl | rfl | rfl | rfl
  · exact ⟨ldisced_add_w _ _ _ _ _ _ _ _ _ (iDiscAdd_w _ _ _ _ _ _ _ _ _ (P.hdadd x y hx hy).2), dadd_nm F P w hx hy⟩
  · exact ⟨ldisced_sub_w _ _ _ _ _ _ _ _ _ (iDiscSub_w _ _ _ _ _ _ _ _ _ (P.hdsub x y hx hy).2), dsub_nm F P w hx hy⟩
  · exact ⟨ldisced_mul_w _ _ _ _ _ _ _ _ _ (iDiscMul_w _ _ _ _ _ _ _ _ _ (P.hdmul x y hx hy).2), dmul_nm F P w hx hy⟩
  · exact ⟨ldisced_sqr_w _ _ _ _ _ _ _ _ _ (iDiscMul_w _ _ _ _ _ _ _ _ _ (P.hdmul x x hx hx).2), dmul_nm F P w hx hx⟩
  · exact ⟨disced_conj P w hx y, dconj_nm P w hx⟩
def inp (k : Int) (b : Bx) (d : Dc) : St := if k = 0 then .box b else .disc d
theorem lasBox_op (P : Plane) {k : Int} (hk : k = 0 ∨ k = 1) {b : Bx} {d : Dc} (hd : d.ok) : Ret 26 #[.int .i64 k, b.v, d.v] (P.asB (inp k b d)).v := by
  rcases hk with rfl | rfl
  · exact lasBox0_w _ _ _ _ _ _ _
  · exact lasBox1_w _ _ _ _ _ _ _ _ _ _ _ (iToBox_w _ _ _ _ _ _ _ (P.htoB d hd).2)
theorem lasDisc_op (P : Plane) {k : Int} (hk : k = 0 ∨ k = 1) {b : Bx} {d : Dc} (hb : b.ok) : Ret 28 #[.int .i64 k, b.v, d.v] (P.asD (inp k b d)).v := by
  rcases hk with rfl | rfl
  · exact lasDisc0_w _ _ _ _ _ _ _ _ _ _ (iToDisc_w _ _ _ _ _ _ _ (P.htoD b hb).2)
  · exact lasDisc1_w _ _ _ _ _ _ _
end Go.Proofs.YtacnclofbnafiabGreatDoor

namespace Go.Proofs.YtacnclofbnafiabGreatDoor
open Go.RowKit Fl

theorem i64_and1 (n : Int) : bits .and .i64 n 1 = n % 2 := by
  have h1 : (BitVec.ofInt 64 1).toNat = 2 ^ 1 - 1 := by decide
  have key : (BitVec.ofInt 64 n &&& BitVec.ofInt 64 1).toNat = (n % ((2 ^ 64 : Nat) : Int)).toNat % 2 ^ 1 := by
    rw [BitVec.toNat_and, BitVec.toNat_ofInt, h1, Nat.and_two_pow_sub_one_eq_mod]
  show IntKind.i64.wrap ((BitVec.ofInt 64 n &&& BitVec.ofInt 64 1).toNat : Nat) = n % 2
  rw [key, IntKind.wrap_i64]
  omega
theorem bit_is (b : Int) : bits .and .i64 b 1 = 0 ∨ bits .and .i64 b 1 = 1 := by rw [i64_and1]; omega
theorem op_idx (op : Int) : wrap64 ((IntKind.u64.wrap op).tmod 5) = (op % 18446744073709551616) % 5 := by
  rw [IntKind.wrap_u64]
  have h1 : 0 ≤ op % 18446744073709551616 := by omega
  rw [Int.tmod_eq_emod_of_nonneg h1]
  unfold wrap64
  omega
theorem byts_app (a b : ByteArray) : byts (a ++ b) = byts a ++ byts b := by simp [byts]
theorem byts_one (c : Int) (h0 : 0 ≤ c) (h1 : c < 256) : byts (strOfNums [c]) = [c] := by
  simp [byts, strOfNums]
  omega
theorem byts_first (s : ByteArray) : byts (s.extract 0 1) = (byts s).take 1 := by
  simp [byts]
theorem byts_sz {s : ByteArray} {l : List Int} (h : byts s = l) : s.size = l.length := by rw [← h, byts_len]
/-- An input of a program. -/
def inAt (bs ds : List St) (c : Int) (x : St) : Prop := (48 ≤ c ∧ c < 52 ∧ bs[(c - 48).toNat]? = some x) ∨ (97 ≤ c ∧ c < 101 ∧ ds[(c - 97).toNat]? = some x)
section
variable (P : Plane) {bs ds : List St} (kdf : Nat → Int) (gd : Nat → Bool) (i : Int) (qs : List (Int × Int))
theorem stp_in {c : Int} {x : St} (h : inAt bs ds c x) (st : List St) : stp P bs ds kdf gd c i st qs = (0, st ++ [x], qs) := by
  unfold stp
  rcases h with ⟨h1, h2, h3⟩ | ⟨h1, h2, h3⟩
  · rw [if_pos ⟨h1, h2⟩, h3]
  · rw [if_neg (by omega), if_pos ⟨h1, h2⟩, h3]
theorem stp_two {c : Int} (hc : c = 43 ∨ c = 45 ∨ c = 42) (x y : St) (hg : gd qs.length = true) : stp P bs ds kdf gd c i [x, y] qs = (0, [P.op2 c (kdf qs.length) x y], qs ++ [(c, i)]) := by
  have ht : tk c = 2 := by rcases hc with rfl | rfl | rfl <;> rfl
  have hi : idx c ≠ -1 := by rcases hc with rfl | rfl | rfl <;> decide
  unfold stp
  rw [if_neg (by omega), if_neg (by omega), if_neg hi, if_neg (by rw [ht]; simp), if_pos hg]
  unfold after
  rw [if_neg (by omega)]
  simp
theorem stp_one {c : Int} (hc : c = 94 ∨ c = 126) (x : St) (hg : gd qs.length = true) : stp P bs ds kdf gd c i [x] qs = (0, [P.op1 c (kdf qs.length) x], qs ++ [(c, i)]) := by
  have ht : tk c = 1 := by rcases hc with rfl | rfl <;> rfl
  have hi : idx c ≠ -1 := by rcases hc with rfl | rfl <;> decide
  unfold stp
  rw [if_neg (by omega), if_neg (by omega), if_neg hi, if_neg (by rw [ht]; simp), if_pos hg]
  unfold after
  rw [if_pos ht]
  simp
theorem runs_in {c : Int} {x : St} (h : inAt bs ds c x) : runs P bs ds kdf gd [c] 0 [] [] = (0, 1, [x], []) := by
  rw [runs_cons, stp_in P kdf gd 0 [] h, if_pos rfl, runs_nil]; rfl
theorem runs_two {f s c : Int} {x y : St} (hx : inAt bs ds f x) (hy : inAt bs ds s y) (hc : c = 43 ∨ c = 45 ∨ c = 42) (hg : gd 0 = true) : runs P bs ds kdf gd [f, s, c] 0 [] [] = (0, 3, [P.op2 c (kdf 0) x y], [(c, 2)]) := by
  rw [runs_cons, stp_in P kdf gd 0 [] hx, if_pos rfl, runs_cons, stp_in P kdf gd _ _ hy, if_pos rfl]
  show runs P bs ds kdf gd [c] (0 + 1 + 1) [x, y] [] = _
  rw [runs_cons, stp_two P kdf gd _ [] hc x y hg, if_pos rfl, runs_nil]; rfl
theorem runs_one {f c : Int} {x : St} (hx : inAt bs ds f x) (hc : c = 94 ∨ c = 126) (hg : gd 0 = true) : runs P bs ds kdf gd [f, c] 0 [] [] = (0, 2, [P.op1 c (kdf 0) x], [(c, 1)]) := by
  rw [runs_cons, stp_in P kdf gd 0 [] hx, if_pos rfl]
  show runs P bs ds kdf gd [c] (0 + 1) [x] [] = _
  rw [runs_cons, stp_one P kdf gd _ [] hc x hg, if_pos rfl, runs_nil]; rfl
end
theorem op2_b (P : Plane) {c : Int} (hc : c = 43 ∨ c = 45 ∨ c = 42) (x y : St) : P.op2 c 0 x y = .box (P.bop c (P.asB x) (P.asB y)) := by
  rcases hc with rfl | rfl | rfl <;> rfl
theorem op2_d (P : Plane) {c : Int} (hc : c = 43 ∨ c = 45 ∨ c = 42) (x y : St) : P.op2 c 1 x y = .disc (P.dop c (P.asD x) (P.asD y)) := by
  rcases hc with rfl | rfl | rfl <;> rfl
theorem op1_b (P : Plane) {c : Int} (hc : c = 94 ∨ c = 126) (x : St) (y : Bx) : P.op1 c 0 x = .box (P.bop c (P.asB x) y) := by
  rcases hc with rfl | rfl <;> rfl
theorem op1_d (P : Plane) {c : Int} (hc : c = 94 ∨ c = 126) (x : St) (y : Dc) : P.op1 c 1 x = .disc (P.dop c (P.asD x) y) := by
  rcases hc with rfl | rfl <;> rfl
theorem conv_one (c : Int) (w : World) : (convert 77 9 (.slice (some ⟨w.heap.size, 0, none⟩) 1 1)).run Tryz.prog (w.alloc (.cells #[.int .u8 c] 5)) = .ok (.string (strOfNums [c])) (w.alloc (.cells #[.int .u8 c] 5)) := by
  refine run_convert_bytes_arg (P := Tryz.prog) (w.alloc (.cells #[.int .u8 c] 5)) 77 5 Tryz.underlying77 Tryz.underlying5 w.heap.size 0 1 1 [c] rfl (fun i h => ?_) 9 Tryz.underlying9
  obtain rfl : i = 0 := by omega
  simp [go_sem]
theorem lint_one {w : World} {b : Nat} {k : Int} (h : w.cell? ⟨b, 0, none⟩ = some (.int .i64 k)) : LInt w (.slice (some ⟨b, 0, none⟩) 1 1) [k] := by
  refine ⟨⟨_, 1, rfl⟩, fun j x e => ?_⟩
  match j, e with
  | 0, e => simp at e; subst e; exact ⟨b, 0, 1, rfl, cell_lt h, h⟩
theorem ans_runs (P : Plane) {s : ByteArray} {l : List Int} (hs : byts s = l) (hl : l.length ≤ 60) {bl : List Bx} {dl : List Dc} (hb : bl.length ≤ 4) (hd : dl.length ≤ 4) (kdf : Nat → Int) (gd : Nat → Bool) : ans P s bl dl kdf gd = runs P (bl.map St.box) (dl.map St.disc) kdf gd l 0 [] [] := by
  unfold ans
  rw [if_neg (by have := byts_sz hs; omega), hs]
theorem lkd_bit {k : Int} (h : k = 0 ∨ k = 1) : lkd [k] 0 = k ∧ lgd [k] 0 = true := by
  rcases h with rfl | rfl <;> exact ⟨rfl, rfl⟩
end Go.Proofs.YtacnclofbnafiabGreatDoor
