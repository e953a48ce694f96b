import Derived.Test.YtacnclofbnafiabGreatDoorB1
import Derived.Test.YtacnclofbnafiabGreatDoorB2
namespace Go.Proofs.YtacnclofbnafiabGreatDoor
open Go.RowKit Fl

set_option maxHeartbeats 1000000 in
theorem rnoBox_w (e1 e2 : Nat)
    (em : ∀ w, Calls Tryz.prog 106 #[] w fun e w' => e = .returned (.agg #[.float .f64 e1, .float .f64 e2]) ∧ Below w.heap.size w w') (w : World) :
    Calls Tryz.prog 75 #[] w fun e w' => e = .returned (.agg #[.float .f64 e1, .float .f64 e2, .float .f64 e1, .float .f64 e2]) ∧ Below w.heap.size w w' := by
  go_enter Tryz.func75, Tryz.ntmps75
  go_wp2_with fail
  obtain ⟨w0, hw0⟩ : ∃ v, v = (w.alloc (.cells #[.float .f64 0, .float .f64 0, .float .f64 0, .float .f64 0] 39)) := ⟨_, rfl⟩
  rw [← hw0]
  have c00 : w0.cell? ⟨w.heap.size, 0, none⟩ = some (.float .f64 0) := by simp [hw0, go_sem]
  have fc00 : w0.frozen? ⟨w.heap.size, 0, none⟩ = false := by simp [hw0, go_sem]
  have c01 : w0.cell? ⟨w.heap.size, 1, none⟩ = some (.float .f64 0) := by simp [hw0, go_sem]
  have fc01 : w0.frozen? ⟨w.heap.size, 1, none⟩ = false := by simp [hw0, go_sem]
  have c02 : w0.cell? ⟨w.heap.size, 2, none⟩ = some (.float .f64 0) := by simp [hw0, go_sem]
  have fc02 : w0.frozen? ⟨w.heap.size, 2, none⟩ = false := by simp [hw0, go_sem]
  have c03 : w0.cell? ⟨w.heap.size, 3, none⟩ = some (.float .f64 0) := by simp [hw0, go_sem]
  have fc03 : w0.frozen? ⟨w.heap.size, 3, none⟩ = false := by simp [hw0, go_sem]
  have s0 : w.heap.size + 1 ≤ w0.heap.size := by simp [hw0]
  have hB0 : Below w.heap.size w w0 := by
    rw [hw0]
    repeat (with_reducible first | exact Below.refl _ _ | assumption | refine Below.drew ?_ | refine bl_drewN ?_ _ | refine Below.setCell ?_ (by first | omega | (simp; done) | (simp; omega)) _ | refine Below.alloc ?_ (by first | omega | (simp; done) | (simp; omega)) _ | refine bl_next ?_ (by assumption) | refine bl_trans ?_ (by assumption) (by first | omega | (simp; done) | (simp; omega)))
  clear hw0
  go_at_call 106
  refine (em _).mono ?_
  rintro e w1 ⟨rfl, hb1⟩
  have s1 := hb1.size
  try simp at s1
  replace fc00 := bfroz2 hb1 c00 fc00
  replace fc01 := bfroz2 hb1 c01 fc01
  replace fc02 := bfroz2 hb1 c02 fc02
  replace fc03 := bfroz2 hb1 c03 fc03
  replace c00 := bkeep2 hb1 c00
  replace c01 := bkeep2 hb1 c01
  replace c02 := bkeep2 hb1 c02
  replace c03 := bkeep2 hb1 c03
  have l0 : w.heap.size < w1.heap.size := cell_lt c00
  go_wp2_with fail
  go_at_call 106
  refine (em _).mono ?_
  rintro e w2 ⟨rfl, hb2⟩
  have s2 := hb2.size
  try simp at s2
  replace fc00 := bfroz3 hb2 c00 fc00
  replace fc01 := bfroz3 hb2 c01 fc01
  replace fc02 := bfroz3 hb2 c02 fc02
  replace fc03 := bfroz3 hb2 c03 fc03
  replace c00 := bkeep3 hb2 c00
  replace c01 := bkeep3 hb2 c01
  replace c02 := bkeep3 hb2 c02
  replace c03 := bkeep3 hb2 c03
  have d20 : w2.cell? ⟨w1.heap.size, 0, none⟩ = some (.float .f64 e1) := bkeep2 hb2 (by simp [go_sem])
  have d21 : w2.cell? ⟨w1.heap.size, 1, none⟩ = some (.float .f64 e2) := bkeep2 hb2 (by simp [go_sem])
  have l0 : w.heap.size < w2.heap.size := cell_lt c00
  have l1 : w1.heap.size < w2.heap.size := cell_lt d20
  go_wp2_with fail
  refine bodyPost_ret (v := .agg #[.float .f64 e1, .float .f64 e2, .float .f64 e1, .float .f64 e2]) (by simp [results, Tryz.results75, go_sem, *]) rfl ⟨rfl, ?_⟩
  repeat (with_reducible first | exact Below.refl _ _ | assumption | refine Below.drew ?_ | refine bl_drewN ?_ _ | refine Below.setCell ?_ (by first | omega | (simp; done) | (simp; omega)) _ | refine Below.alloc ?_ (by first | omega | (simp; done) | (simp; omega)) _ | refine bl_next ?_ (by assumption) | refine bl_trans ?_ (by assumption) (by first | omega | (simp; done) | (simp; omega)))

set_option maxHeartbeats 1000000 in
theorem rbare_tt_w (X1 X2 X3 X4 : Nat)
    (n1 : ∀ w, Calls Tryz.prog 105 #[.agg #[.float .f64 X1, .float .f64 X2]] w fun e w' => e = .returned (.bool true) ∧ Below w.heap.size w w')
    (n2 : ∀ w, Calls Tryz.prog 105 #[.agg #[.float .f64 X3, .float .f64 X4]] w fun e w' => e = .returned (.bool true) ∧ Below w.heap.size w w') (w : World) :
    Calls Tryz.prog 74 #[.agg #[.float .f64 X1, .float .f64 X2, .float .f64 X3, .float .f64 X4]] w fun e w' => e = .returned (.bool true) ∧ Below w.heap.size w w' := by
  go_enter Tryz.func74, Tryz.ntmps74
  go_wp2_with fail
  obtain ⟨w0, hw0⟩ : ∃ v, v = (w.alloc (.cells #[.float .f64 X1, .float .f64 X2, .float .f64 X3, .float .f64 X4] 39)) := ⟨_, rfl⟩
  rw [← hw0]
  have c00 : w0.cell? ⟨w.heap.size, 0, none⟩ = some (.float .f64 X1) := by simp [hw0, go_sem]
  have c01 : w0.cell? ⟨w.heap.size, 1, none⟩ = some (.float .f64 X2) := by simp [hw0, go_sem]
  have c02 : w0.cell? ⟨w.heap.size, 2, none⟩ = some (.float .f64 X3) := by simp [hw0, go_sem]
  have c03 : w0.cell? ⟨w.heap.size, 3, none⟩ = some (.float .f64 X4) := by simp [hw0, go_sem]
  have s0 : w.heap.size + 1 ≤ w0.heap.size := by simp [hw0]
  have hB0 : Below w.heap.size w w0 := by
    rw [hw0]
    repeat (with_reducible first | exact Below.refl _ _ | assumption | refine Below.drew ?_ | refine bl_drewN ?_ _ | refine Below.setCell ?_ (by first | omega | (simp; done) | (simp; omega)) _ | refine Below.alloc ?_ (by first | omega | (simp; done) | (simp; omega)) _ | refine bl_next ?_ (by assumption) | refine bl_trans ?_ (by assumption) (by first | omega | (simp; done) | (simp; omega)))
  clear hw0
  go_at_call 105
  refine (n1 _).mono ?_
  rintro e w1 ⟨rfl, hb1⟩
  have s1 := hb1.size
  try simp at s1
  replace c00 := bkeep2 hb1 c00
  replace c01 := bkeep2 hb1 c01
  replace c02 := bkeep2 hb1 c02
  replace c03 := bkeep2 hb1 c03
  have l0 : w.heap.size < w1.heap.size := cell_lt c00
  go_wp2_with fail
  go_at_call 105
  refine (n2 _).mono ?_
  rintro e w2 ⟨rfl, hb2⟩
  have s2 := hb2.size
  try simp at s2
  replace c00 := bkeep2 hb2 c00
  replace c01 := bkeep2 hb2 c01
  replace c02 := bkeep2 hb2 c02
  replace c03 := bkeep2 hb2 c03
  have l0 : w.heap.size < w2.heap.size := cell_lt c00
  go_wp2_with fail
  go_ret
  refine ⟨rfl, ?_⟩
  repeat (with_reducible first | exact Below.refl _ _ | assumption | refine Below.drew ?_ | refine bl_drewN ?_ _ | refine Below.setCell ?_ (by first | omega | (simp; done) | (simp; omega)) _ | refine Below.alloc ?_ (by first | omega | (simp; done) | (simp; omega)) _ | refine bl_next ?_ (by assumption) | refine bl_trans ?_ (by assumption) (by first | omega | (simp; done) | (simp; omega)))

set_option maxHeartbeats 1000000 in
theorem rbare_tf_w (X1 X2 X3 X4 : Nat)
    (n1 : ∀ w, Calls Tryz.prog 105 #[.agg #[.float .f64 X1, .float .f64 X2]] w fun e w' => e = .returned (.bool true) ∧ Below w.heap.size w w')
    (n2 : ∀ w, Calls Tryz.prog 105 #[.agg #[.float .f64 X3, .float .f64 X4]] w fun e w' => e = .returned (.bool false) ∧ Below w.heap.size w w') (w : World) :
    Calls Tryz.prog 74 #[.agg #[.float .f64 X1, .float .f64 X2, .float .f64 X3, .float .f64 X4]] w fun e w' => e = .returned (.bool true) ∧ Below w.heap.size w w' := by
  go_enter Tryz.func74, Tryz.ntmps74
  go_wp2_with fail
  obtain ⟨w0, hw0⟩ : ∃ v, v = (w.alloc (.cells #[.float .f64 X1, .float .f64 X2, .float .f64 X3, .float .f64 X4] 39)) := ⟨_, rfl⟩
  rw [← hw0]
  have c00 : w0.cell? ⟨w.heap.size, 0, none⟩ = some (.float .f64 X1) := by simp [hw0, go_sem]
  have c01 : w0.cell? ⟨w.heap.size, 1, none⟩ = some (.float .f64 X2) := by simp [hw0, go_sem]
  have c02 : w0.cell? ⟨w.heap.size, 2, none⟩ = some (.float .f64 X3) := by simp [hw0, go_sem]
  have c03 : w0.cell? ⟨w.heap.size, 3, none⟩ = some (.float .f64 X4) := by simp [hw0, go_sem]
  have s0 : w.heap.size + 1 ≤ w0.heap.size := by simp [hw0]
  have hB0 : Below w.heap.size w w0 := by
    rw [hw0]
    repeat (with_reducible first | exact Below.refl _ _ | assumption | refine Below.drew ?_ | refine bl_drewN ?_ _ | refine Below.setCell ?_ (by first | omega | (simp; done) | (simp; omega)) _ | refine Below.alloc ?_ (by first | omega | (simp; done) | (simp; omega)) _ | refine bl_next ?_ (by assumption) | refine bl_trans ?_ (by assumption) (by first | omega | (simp; done) | (simp; omega)))
  clear hw0
  go_at_call 105
  refine (n1 _).mono ?_
  rintro e w1 ⟨rfl, hb1⟩
  have s1 := hb1.size
  try simp at s1
  replace c00 := bkeep2 hb1 c00
  replace c01 := bkeep2 hb1 c01
  replace c02 := bkeep2 hb1 c02
  replace c03 := bkeep2 hb1 c03
  have l0 : w.heap.size < w1.heap.size := cell_lt c00
  go_wp2_with fail
  go_at_call 105
  refine (n2 _).mono ?_
  rintro e w2 ⟨rfl, hb2⟩
  have s2 := hb2.size
  try simp at s2
  replace c00 := bkeep2 hb2 c00
  replace c01 := bkeep2 hb2 c01
  replace c02 := bkeep2 hb2 c02
  replace c03 := bkeep2 hb2 c03
  have l0 : w.heap.size < w2.heap.size := cell_lt c00
  go_wp2_with fail
  go_ret
  refine ⟨rfl, ?_⟩
  repeat (with_reducible first | exact Below.refl _ _ | assumption | refine Below.drew ?_ | refine bl_drewN ?_ _ | refine Below.setCell ?_ (by first | omega | (simp; done) | (simp; omega)) _ | refine Below.alloc ?_ (by first | omega | (simp; done) | (simp; omega)) _ | refine bl_next ?_ (by assumption) | refine bl_trans ?_ (by assumption) (by first | omega | (simp; done) | (simp; omega)))

set_option maxHeartbeats 1000000 in
theorem rbare_ft_w (X1 X2 X3 X4 : Nat)
    (n1 : ∀ w, Calls Tryz.prog 105 #[.agg #[.float .f64 X1, .float .f64 X2]] w fun e w' => e = .returned (.bool false) ∧ Below w.heap.size w w')
    (n2 : ∀ w, Calls Tryz.prog 105 #[.agg #[.float .f64 X3, .float .f64 X4]] w fun e w' => e = .returned (.bool true) ∧ Below w.heap.size w w') (w : World) :
    Calls Tryz.prog 74 #[.agg #[.float .f64 X1, .float .f64 X2, .float .f64 X3, .float .f64 X4]] w fun e w' => e = .returned (.bool true) ∧ Below w.heap.size w w' := by
  go_enter Tryz.func74, Tryz.ntmps74
  go_wp2_with fail
  obtain ⟨w0, hw0⟩ : ∃ v, v = (w.alloc (.cells #[.float .f64 X1, .float .f64 X2, .float .f64 X3, .float .f64 X4] 39)) := ⟨_, rfl⟩
  rw [← hw0]
  have c00 : w0.cell? ⟨w.heap.size, 0, none⟩ = some (.float .f64 X1) := by simp [hw0, go_sem]
  have c01 : w0.cell? ⟨w.heap.size, 1, none⟩ = some (.float .f64 X2) := by simp [hw0, go_sem]
  have c02 : w0.cell? ⟨w.heap.size, 2, none⟩ = some (.float .f64 X3) := by simp [hw0, go_sem]
  have c03 : w0.cell? ⟨w.heap.size, 3, none⟩ = some (.float .f64 X4) := by simp [hw0, go_sem]
  have s0 : w.heap.size + 1 ≤ w0.heap.size := by simp [hw0]
  have hB0 : Below w.heap.size w w0 := by
    rw [hw0]
    repeat (with_reducible first | exact Below.refl _ _ | assumption | refine Below.drew ?_ | refine bl_drewN ?_ _ | refine Below.setCell ?_ (by first | omega | (simp; done) | (simp; omega)) _ | refine Below.alloc ?_ (by first | omega | (simp; done) | (simp; omega)) _ | refine bl_next ?_ (by assumption) | refine bl_trans ?_ (by assumption) (by first | omega | (simp; done) | (simp; omega)))
  clear hw0
  go_at_call 105
  refine (n1 _).mono ?_
  rintro e w1 ⟨rfl, hb1⟩
  have s1 := hb1.size
  try simp at s1
  replace c00 := bkeep2 hb1 c00
  replace c01 := bkeep2 hb1 c01
  replace c02 := bkeep2 hb1 c02
  replace c03 := bkeep2 hb1 c03
  have l0 : w.heap.size < w1.heap.size := cell_lt c00
  go_wp2_with fail
  go_at_call 105
  refine (n2 _).mono ?_
  rintro e w2 ⟨rfl, hb2⟩
  have s2 := hb2.size
  try simp at s2
  replace c00 := bkeep2 hb2 c00
  replace c01 := bkeep2 hb2 c01
  replace c02 := bkeep2 hb2 c02
  replace c03 := bkeep2 hb2 c03
  have l0 : w.heap.size < w2.heap.size := cell_lt c00
  go_wp2_with fail
  go_ret
  refine ⟨rfl, ?_⟩
  repeat (with_reducible first | exact Below.refl _ _ | assumption | refine Below.drew ?_ | refine bl_drewN ?_ _ | refine Below.setCell ?_ (by first | omega | (simp; done) | (simp; omega)) _ | refine Below.alloc ?_ (by first | omega | (simp; done) | (simp; omega)) _ | refine bl_next ?_ (by assumption) | refine bl_trans ?_ (by assumption) (by first | omega | (simp; done) | (simp; omega)))

set_option maxHeartbeats 1000000 in
theorem rbare_ff_w (X1 X2 X3 X4 : Nat)
    (n1 : ∀ w, Calls Tryz.prog 105 #[.agg #[.float .f64 X1, .float .f64 X2]] w fun e w' => e = .returned (.bool false) ∧ Below w.heap.size w w')
    (n2 : ∀ w, Calls Tryz.prog 105 #[.agg #[.float .f64 X3, .float .f64 X4]] w fun e w' => e = .returned (.bool false) ∧ Below w.heap.size w w') (w : World) :
    Calls Tryz.prog 74 #[.agg #[.float .f64 X1, .float .f64 X2, .float .f64 X3, .float .f64 X4]] w fun e w' => e = .returned (.bool false) ∧ Below w.heap.size w w' := by
  go_enter Tryz.func74, Tryz.ntmps74
  go_wp2_with fail
  obtain ⟨w0, hw0⟩ : ∃ v, v = (w.alloc (.cells #[.float .f64 X1, .float .f64 X2, .float .f64 X3, .float .f64 X4] 39)) := ⟨_, rfl⟩
  rw [← hw0]
  have c00 : w0.cell? ⟨w.heap.size, 0, none⟩ = some (.float .f64 X1) := by simp [hw0, go_sem]
  have c01 : w0.cell? ⟨w.heap.size, 1, none⟩ = some (.float .f64 X2) := by simp [hw0, go_sem]
  have c02 : w0.cell? ⟨w.heap.size, 2, none⟩ = some (.float .f64 X3) := by simp [hw0, go_sem]
  have c03 : w0.cell? ⟨w.heap.size, 3, none⟩ = some (.float .f64 X4) := by simp [hw0, go_sem]
  have s0 : w.heap.size + 1 ≤ w0.heap.size := by simp [hw0]
  have hB0 : Below w.heap.size w w0 := by
    rw [hw0]
    repeat (with_reducible first | exact Below.refl _ _ | assumption | refine Below.drew ?_ | refine bl_drewN ?_ _ | refine Below.setCell ?_ (by first | omega | (simp; done) | (simp; omega)) _ | refine Below.alloc ?_ (by first | omega | (simp; done) | (simp; omega)) _ | refine bl_next ?_ (by assumption) | refine bl_trans ?_ (by assumption) (by first | omega | (simp; done) | (simp; omega)))
  clear hw0
  go_at_call 105
  refine (n1 _).mono ?_
  rintro e w1 ⟨rfl, hb1⟩
  have s1 := hb1.size
  try simp at s1
  replace c00 := bkeep2 hb1 c00
  replace c01 := bkeep2 hb1 c01
  replace c02 := bkeep2 hb1 c02
  replace c03 := bkeep2 hb1 c03
  have l0 : w.heap.size < w1.heap.size := cell_lt c00
  go_wp2_with fail
  go_at_call 105
  refine (n2 _).mono ?_
  rintro e w2 ⟨rfl, hb2⟩
  have s2 := hb2.size
  try simp at s2
  replace c00 := bkeep2 hb2 c00
  replace c01 := bkeep2 hb2 c01
  replace c02 := bkeep2 hb2 c02
  replace c03 := bkeep2 hb2 c03
  have l0 : w.heap.size < w2.heap.size := cell_lt c00
  go_wp2_with fail
  go_ret
  refine ⟨rfl, ?_⟩
  repeat (with_reducible first | exact Below.refl _ _ | assumption | refine Below.drew ?_ | refine bl_drewN ?_ _ | refine Below.setCell ?_ (by first | omega | (simp; done) | (simp; omega)) _ | refine Below.alloc ?_ (by first | omega | (simp; done) | (simp; omega)) _ | refine bl_next ?_ (by assumption) | refine bl_trans ?_ (by assumption) (by first | omega | (simp; done) | (simp; omega)))

set_option maxHeartbeats 1000000 in
theorem rboxSum_nox_t_w (X1 X2 X3 X4 Y1 Y2 Y3 Y4 e1 e2 e3 e4 : Nat) (bb : Bool)
    (b1 : ∀ w, Calls Tryz.prog 74 #[.agg #[.float .f64 X1, .float .f64 X2, .float .f64 X3, .float .f64 X4]] w fun e w' => e = .returned (.bool true) ∧ Below w.heap.size w w')
    (b2 : ∀ w, Calls Tryz.prog 74 #[.agg #[.float .f64 Y1, .float .f64 Y2, .float .f64 Y3, .float .f64 Y4]] w fun e w' => e = .returned (.bool bb) ∧ Below w.heap.size w w')
    (nb : ∀ w, Calls Tryz.prog 75 #[] w fun e w' => e = .returned (.agg #[.float .f64 e1, .float .f64 e2, .float .f64 e3, .float .f64 e4]) ∧ Below w.heap.size w w') (w : World) :
    Calls Tryz.prog 39 #[.agg #[.float .f64 X1, .float .f64 X2, .float .f64 X3, .float .f64 X4], .agg #[.float .f64 Y1, .float .f64 Y2, .float .f64 Y3, .float .f64 Y4], .bool true] w fun e w' => e = .returned (.agg #[.float .f64 e1, .float .f64 e2, .float .f64 e3, .float .f64 e4]) ∧ Below w.heap.size w w' := by
  go_enter Tryz.func39, Tryz.ntmps39
  go_wp2_with fail
  obtain ⟨w0, hw0⟩ : ∃ v, v = (((w.alloc (.cells #[.float .f64 X1, .float .f64 X2, .float .f64 X3, .float .f64 X4] 39)).alloc (.cells #[.float .f64 Y1, .float .f64 Y2, .float .f64 Y3, .float .f64 Y4] 39)).alloc (.cells #[.float .f64 0, .float .f64 0, .float .f64 0, .float .f64 0] 39)) := ⟨_, rfl⟩
  rw [← hw0]
  have c00 : w0.cell? ⟨w.heap.size, 0, none⟩ = some (.float .f64 X1) := by simp [hw0, go_sem]
  have c01 : w0.cell? ⟨w.heap.size, 1, none⟩ = some (.float .f64 X2) := by simp [hw0, go_sem]
  have c02 : w0.cell? ⟨w.heap.size, 2, none⟩ = some (.float .f64 X3) := by simp [hw0, go_sem]
  have c03 : w0.cell? ⟨w.heap.size, 3, none⟩ = some (.float .f64 X4) := by simp [hw0, go_sem]
  have c10 : w0.cell? ⟨w.heap.size + 1, 0, none⟩ = some (.float .f64 Y1) := by simp [hw0, go_sem]
  have c11 : w0.cell? ⟨w.heap.size + 1, 1, none⟩ = some (.float .f64 Y2) := by simp [hw0, go_sem]
  have c12 : w0.cell? ⟨w.heap.size + 1, 2, none⟩ = some (.float .f64 Y3) := by simp [hw0, go_sem]
  have c13 : w0.cell? ⟨w.heap.size + 1, 3, none⟩ = some (.float .f64 Y4) := by simp [hw0, go_sem]
  have c20 : w0.cell? ⟨w.heap.size + 1 + 1, 0, none⟩ = some (.float .f64 0) := by simp [hw0, go_sem]
  have fc20 : w0.frozen? ⟨w.heap.size + 1 + 1, 0, none⟩ = false := by simp [hw0, go_sem]
  have c21 : w0.cell? ⟨w.heap.size + 1 + 1, 1, none⟩ = some (.float .f64 0) := by simp [hw0, go_sem]
  have fc21 : w0.frozen? ⟨w.heap.size + 1 + 1, 1, none⟩ = false := by simp [hw0, go_sem]
  have c22 : w0.cell? ⟨w.heap.size + 1 + 1, 2, none⟩ = some (.float .f64 0) := by simp [hw0, go_sem]
  have fc22 : w0.frozen? ⟨w.heap.size + 1 + 1, 2, none⟩ = false := by simp [hw0, go_sem]
  have c23 : w0.cell? ⟨w.heap.size + 1 + 1, 3, none⟩ = some (.float .f64 0) := by simp [hw0, go_sem]
  have fc23 : w0.frozen? ⟨w.heap.size + 1 + 1, 3, none⟩ = false := by simp [hw0, go_sem]
  have s0 : w.heap.size + 1 + 1 + 1 ≤ w0.heap.size := by simp [hw0]
  have hB0 : Below w.heap.size w w0 := by
    rw [hw0]
    repeat (with_reducible first | exact Below.refl _ _ | assumption | refine Below.drew ?_ | refine bl_drewN ?_ _ | refine Below.setCell ?_ (by first | omega | (simp; done) | (simp; omega)) _ | refine Below.alloc ?_ (by first | omega | (simp; done) | (simp; omega)) _ | refine bl_next ?_ (by assumption) | refine bl_trans ?_ (by assumption) (by first | omega | (simp; done) | (simp; omega)))
  clear hw0
  go_at_call 74
  refine (b1 _).mono ?_
  rintro e w1 ⟨rfl, hb1⟩
  have s1 := hb1.size
  try simp at s1
  replace fc20 := bfroz2 hb1 c20 fc20
  replace fc21 := bfroz2 hb1 c21 fc21
  replace fc22 := bfroz2 hb1 c22 fc22
  replace fc23 := bfroz2 hb1 c23 fc23
  replace c00 := bkeep2 hb1 c00
  replace c01 := bkeep2 hb1 c01
  replace c02 := bkeep2 hb1 c02
  replace c03 := bkeep2 hb1 c03
  replace c10 := bkeep2 hb1 c10
  replace c11 := bkeep2 hb1 c11
  replace c12 := bkeep2 hb1 c12
  replace c13 := bkeep2 hb1 c13
  replace c20 := bkeep2 hb1 c20
  replace c21 := bkeep2 hb1 c21
  replace c22 := bkeep2 hb1 c22
  replace c23 := bkeep2 hb1 c23
  have l0 : w.heap.size < w1.heap.size := cell_lt c00
  have l1 : w.heap.size + 1 < w1.heap.size := cell_lt c10
  have l2 : w.heap.size + 1 + 1 < w1.heap.size := cell_lt c20
  go_wp2_with fail
  go_at_call 74
  refine (b2 _).mono ?_
  rintro e w2 ⟨rfl, hb2⟩
  have s2 := hb2.size
  try simp at s2
  replace fc20 := bfroz2 hb2 c20 fc20
  replace fc21 := bfroz2 hb2 c21 fc21
  replace fc22 := bfroz2 hb2 c22 fc22
  replace fc23 := bfroz2 hb2 c23 fc23
  replace c00 := bkeep2 hb2 c00
  replace c01 := bkeep2 hb2 c01
  replace c02 := bkeep2 hb2 c02
  replace c03 := bkeep2 hb2 c03
  replace c10 := bkeep2 hb2 c10
  replace c11 := bkeep2 hb2 c11
  replace c12 := bkeep2 hb2 c12
  replace c13 := bkeep2 hb2 c13
  replace c20 := bkeep2 hb2 c20
  replace c21 := bkeep2 hb2 c21
  replace c22 := bkeep2 hb2 c22
  replace c23 := bkeep2 hb2 c23
  have l0 : w.heap.size < w2.heap.size := cell_lt c00
  have l1 : w.heap.size + 1 < w2.heap.size := cell_lt c10
  have l2 : w.heap.size + 1 + 1 < w2.heap.size := cell_lt c20
  go_wp2_with fail
  go_at_call 75
  refine (nb _).mono ?_
  rintro e w3 ⟨rfl, hb3⟩
  have s3 := hb3.size
  try simp at s3
  replace fc20 := bfroz2 hb3 c20 fc20
  replace fc21 := bfroz2 hb3 c21 fc21
  replace fc22 := bfroz2 hb3 c22 fc22
  replace fc23 := bfroz2 hb3 c23 fc23
  replace c00 := bkeep2 hb3 c00
  replace c01 := bkeep2 hb3 c01
  replace c02 := bkeep2 hb3 c02
  replace c03 := bkeep2 hb3 c03
  replace c10 := bkeep2 hb3 c10
  replace c11 := bkeep2 hb3 c11
  replace c12 := bkeep2 hb3 c12
  replace c13 := bkeep2 hb3 c13
  replace c20 := bkeep2 hb3 c20
  replace c21 := bkeep2 hb3 c21
  replace c22 := bkeep2 hb3 c22
  replace c23 := bkeep2 hb3 c23
  have l0 : w.heap.size < w3.heap.size := cell_lt c00
  have l1 : w.heap.size + 1 < w3.heap.size := cell_lt c10
  have l2 : w.heap.size + 1 + 1 < w3.heap.size := cell_lt c20
  go_wp2_with fail
  refine bodyPost_ret (v := .agg #[.float .f64 e1, .float .f64 e2, .float .f64 e3, .float .f64 e4]) (by simp [results, Tryz.results39, go_sem, *]) rfl ⟨rfl, ?_⟩
  repeat (with_reducible first | exact Below.refl _ _ | assumption | refine Below.drew ?_ | refine bl_drewN ?_ _ | refine Below.setCell ?_ (by first | omega | (simp; done) | (simp; omega)) _ | refine Below.alloc ?_ (by first | omega | (simp; done) | (simp; omega)) _ | refine bl_next ?_ (by assumption) | refine bl_trans ?_ (by assumption) (by first | omega | (simp; done) | (simp; omega)))

set_option maxHeartbeats 1000000 in
theorem rboxSum_nox_f_w (X1 X2 X3 X4 Y1 Y2 Y3 Y4 e1 e2 e3 e4 : Nat) (bb : Bool)
    (b1 : ∀ w, Calls Tryz.prog 74 #[.agg #[.float .f64 X1, .float .f64 X2, .float .f64 X3, .float .f64 X4]] w fun e w' => e = .returned (.bool true) ∧ Below w.heap.size w w')
    (b2 : ∀ w, Calls Tryz.prog 74 #[.agg #[.float .f64 Y1, .float .f64 Y2, .float .f64 Y3, .float .f64 Y4]] w fun e w' => e = .returned (.bool bb) ∧ Below w.heap.size w w')
    (nb : ∀ w, Calls Tryz.prog 75 #[] w fun e w' => e = .returned (.agg #[.float .f64 e1, .float .f64 e2, .float .f64 e3, .float .f64 e4]) ∧ Below w.heap.size w w') (w : World) :
    Calls Tryz.prog 39 #[.agg #[.float .f64 X1, .float .f64 X2, .float .f64 X3, .float .f64 X4], .agg #[.float .f64 Y1, .float .f64 Y2, .float .f64 Y3, .float .f64 Y4], .bool false] w fun e w' => e = .returned (.agg #[.float .f64 e1, .float .f64 e2, .float .f64 e3, .float .f64 e4]) ∧ Below w.heap.size w w' := by
  go_enter Tryz.func39, Tryz.ntmps39
  go_wp2_with fail
  obtain ⟨w0, hw0⟩ : ∃ v, v = (((w.alloc (.cells #[.float .f64 X1, .float .f64 X2, .float .f64 X3, .float .f64 X4] 39)).alloc (.cells #[.float .f64 Y1, .float .f64 Y2, .float .f64 Y3, .float .f64 Y4] 39)).alloc (.cells #[.float .f64 0, .float .f64 0, .float .f64 0, .float .f64 0] 39)) := ⟨_, rfl⟩
  rw [← hw0]
  have c00 : w0.cell? ⟨w.heap.size, 0, none⟩ = some (.float .f64 X1) := by simp [hw0, go_sem]
  have c01 : w0.cell? ⟨w.heap.size, 1, none⟩ = some (.float .f64 X2) := by simp [hw0, go_sem]
  have c02 : w0.cell? ⟨w.heap.size, 2, none⟩ = some (.float .f64 X3) := by simp [hw0, go_sem]
  have c03 : w0.cell? ⟨w.heap.size, 3, none⟩ = some (.float .f64 X4) := by simp [hw0, go_sem]
  have c10 : w0.cell? ⟨w.heap.size + 1, 0, none⟩ = some (.float .f64 Y1) := by simp [hw0, go_sem]
  have c11 : w0.cell? ⟨w.heap.size + 1, 1, none⟩ = some (.float .f64 Y2) := by simp [hw0, go_sem]
  have c12 : w0.cell? ⟨w.heap.size + 1, 2, none⟩ = some (.float .f64 Y3) := by simp [hw0, go_sem]
  have c13 : w0.cell? ⟨w.heap.size + 1, 3, none⟩ = some (.float .f64 Y4) := by simp [hw0, go_sem]
  have c20 : w0.cell? ⟨w.heap.size + 1 + 1, 0, none⟩ = some (.float .f64 0) := by simp [hw0, go_sem]
  have fc20 : w0.frozen? ⟨w.heap.size + 1 + 1, 0, none⟩ = false := by simp [hw0, go_sem]
  have c21 : w0.cell? ⟨w.heap.size + 1 + 1, 1, none⟩ = some (.float .f64 0) := by simp [hw0, go_sem]
  have fc21 : w0.frozen? ⟨w.heap.size + 1 + 1, 1, none⟩ = false := by simp [hw0, go_sem]
  have c22 : w0.cell? ⟨w.heap.size + 1 + 1, 2, none⟩ = some (.float .f64 0) := by simp [hw0, go_sem]
  have fc22 : w0.frozen? ⟨w.heap.size + 1 + 1, 2, none⟩ = false := by simp [hw0, go_sem]
  have c23 : w0.cell? ⟨w.heap.size + 1 + 1, 3, none⟩ = some (.float .f64 0) := by simp [hw0, go_sem]
  have fc23 : w0.frozen? ⟨w.heap.size + 1 + 1, 3, none⟩ = false := by simp [hw0, go_sem]
  have s0 : w.heap.size + 1 + 1 + 1 ≤ w0.heap.size := by simp [hw0]
  have hB0 : Below w.heap.size w w0 := by
    rw [hw0]
    repeat (with_reducible first | exact Below.refl _ _ | assumption | refine Below.drew ?_ | refine bl_drewN ?_ _ | refine Below.setCell ?_ (by first | omega | (simp; done) | (simp; omega)) _ | refine Below.alloc ?_ (by first | omega | (simp; done) | (simp; omega)) _ | refine bl_next ?_ (by assumption) | refine bl_trans ?_ (by assumption) (by first | omega | (simp; done) | (simp; omega)))
  clear hw0
  go_at_call 74
  refine (b1 _).mono ?_
  rintro e w1 ⟨rfl, hb1⟩
  have s1 := hb1.size
  try simp at s1
  replace fc20 := bfroz2 hb1 c20 fc20
  replace fc21 := bfroz2 hb1 c21 fc21
  replace fc22 := bfroz2 hb1 c22 fc22
  replace fc23 := bfroz2 hb1 c23 fc23
  replace c00 := bkeep2 hb1 c00
  replace c01 := bkeep2 hb1 c01
  replace c02 := bkeep2 hb1 c02
  replace c03 := bkeep2 hb1 c03
  replace c10 := bkeep2 hb1 c10
  replace c11 := bkeep2 hb1 c11
  replace c12 := bkeep2 hb1 c12
  replace c13 := bkeep2 hb1 c13
  replace c20 := bkeep2 hb1 c20
  replace c21 := bkeep2 hb1 c21
  replace c22 := bkeep2 hb1 c22
  replace c23 := bkeep2 hb1 c23
  have l0 : w.heap.size < w1.heap.size := cell_lt c00
  have l1 : w.heap.size + 1 < w1.heap.size := cell_lt c10
  have l2 : w.heap.size + 1 + 1 < w1.heap.size := cell_lt c20
  go_wp2_with fail
  go_at_call 74
  refine (b2 _).mono ?_
  rintro e w2 ⟨rfl, hb2⟩
  have s2 := hb2.size
  try simp at s2
  replace fc20 := bfroz2 hb2 c20 fc20
  replace fc21 := bfroz2 hb2 c21 fc21
  replace fc22 := bfroz2 hb2 c22 fc22
  replace fc23 := bfroz2 hb2 c23 fc23
  replace c00 := bkeep2 hb2 c00
  replace c01 := bkeep2 hb2 c01
  replace c02 := bkeep2 hb2 c02
  replace c03 := bkeep2 hb2 c03
  replace c10 := bkeep2 hb2 c10
  replace c11 := bkeep2 hb2 c11
  replace c12 := bkeep2 hb2 c12
  replace c13 := bkeep2 hb2 c13
  replace c20 := bkeep2 hb2 c20
  replace c21 := bkeep2 hb2 c21
  replace c22 := bkeep2 hb2 c22
  replace c23 := bkeep2 hb2 c23
  have l0 : w.heap.size < w2.heap.size := cell_lt c00
  have l1 : w.heap.size + 1 < w2.heap.size := cell_lt c10
  have l2 : w.heap.size + 1 + 1 < w2.heap.size := cell_lt c20
  go_wp2_with fail
  go_at_call 75
  refine (nb _).mono ?_
  rintro e w3 ⟨rfl, hb3⟩
  have s3 := hb3.size
  try simp at s3
  replace fc20 := bfroz2 hb3 c20 fc20
  replace fc21 := bfroz2 hb3 c21 fc21
  replace fc22 := bfroz2 hb3 c22 fc22
  replace fc23 := bfroz2 hb3 c23 fc23
  replace c00 := bkeep2 hb3 c00
  replace c01 := bkeep2 hb3 c01
  replace c02 := bkeep2 hb3 c02
  replace c03 := bkeep2 hb3 c03
  replace c10 := bkeep2 hb3 c10
  replace c11 := bkeep2 hb3 c11
  replace c12 := bkeep2 hb3 c12
  replace c13 := bkeep2 hb3 c13
  replace c20 := bkeep2 hb3 c20
  replace c21 := bkeep2 hb3 c21
  replace c22 := bkeep2 hb3 c22
  replace c23 := bkeep2 hb3 c23
  have l0 : w.heap.size < w3.heap.size := cell_lt c00
  have l1 : w.heap.size + 1 < w3.heap.size := cell_lt c10
  have l2 : w.heap.size + 1 + 1 < w3.heap.size := cell_lt c20
  go_wp2_with fail
  refine bodyPost_ret (v := .agg #[.float .f64 e1, .float .f64 e2, .float .f64 e3, .float .f64 e4]) (by simp [results, Tryz.results39, go_sem, *]) rfl ⟨rfl, ?_⟩
  repeat (with_reducible first | exact Below.refl _ _ | assumption | refine Below.drew ?_ | refine bl_drewN ?_ _ | refine Below.setCell ?_ (by first | omega | (simp; done) | (simp; omega)) _ | refine Below.alloc ?_ (by first | omega | (simp; done) | (simp; omega)) _ | refine bl_next ?_ (by assumption) | refine bl_trans ?_ (by assumption) (by first | omega | (simp; done) | (simp; omega)))

set_option maxHeartbeats 1000000 in
theorem rboxProduct_nox_w (X1 X2 X3 X4 Y1 Y2 Y3 Y4 e1 e2 e3 e4 : Nat) (bb : Bool)
    (b1 : ∀ w, Calls Tryz.prog 74 #[.agg #[.float .f64 X1, .float .f64 X2, .float .f64 X3, .float .f64 X4]] w fun e w' => e = .returned (.bool true) ∧ Below w.heap.size w w')
    (b2 : ∀ w, Calls Tryz.prog 74 #[.agg #[.float .f64 Y1, .float .f64 Y2, .float .f64 Y3, .float .f64 Y4]] w fun e w' => e = .returned (.bool bb) ∧ Below w.heap.size w w')
    (nb : ∀ w, Calls Tryz.prog 75 #[] w fun e w' => e = .returned (.agg #[.float .f64 e1, .float .f64 e2, .float .f64 e3, .float .f64 e4]) ∧ Below w.heap.size w w') (w : World) :
    Calls Tryz.prog 40 #[.agg #[.float .f64 X1, .float .f64 X2, .float .f64 X3, .float .f64 X4], .agg #[.float .f64 Y1, .float .f64 Y2, .float .f64 Y3, .float .f64 Y4]] w fun e w' => e = .returned (.agg #[.float .f64 e1, .float .f64 e2, .float .f64 e3, .float .f64 e4]) ∧ Below w.heap.size w w' := by
  go_enter Tryz.func40, Tryz.ntmps40
  go_wp2_with fail
  obtain ⟨w0, hw0⟩ : ∃ v, v = (((w.alloc (.cells #[.float .f64 X1, .float .f64 X2, .float .f64 X3, .float .f64 X4] 39)).alloc (.cells #[.float .f64 Y1, .float .f64 Y2, .float .f64 Y3, .float .f64 Y4] 39)).alloc (.cells #[.float .f64 0, .float .f64 0, .float .f64 0, .float .f64 0] 39)) := ⟨_, rfl⟩
  rw [← hw0]
  have c00 : w0.cell? ⟨w.heap.size, 0, none⟩ = some (.float .f64 X1) := by simp [hw0, go_sem]
  have c01 : w0.cell? ⟨w.heap.size, 1, none⟩ = some (.float .f64 X2) := by simp [hw0, go_sem]
  have c02 : w0.cell? ⟨w.heap.size, 2, none⟩ = some (.float .f64 X3) := by simp [hw0, go_sem]
  have c03 : w0.cell? ⟨w.heap.size, 3, none⟩ = some (.float .f64 X4) := by simp [hw0, go_sem]
  have c10 : w0.cell? ⟨w.heap.size + 1, 0, none⟩ = some (.float .f64 Y1) := by simp [hw0, go_sem]
  have c11 : w0.cell? ⟨w.heap.size + 1, 1, none⟩ = some (.float .f64 Y2) := by simp [hw0, go_sem]
  have c12 : w0.cell? ⟨w.heap.size + 1, 2, none⟩ = some (.float .f64 Y3) := by simp [hw0, go_sem]
  have c13 : w0.cell? ⟨w.heap.size + 1, 3, none⟩ = some (.float .f64 Y4) := by simp [hw0, go_sem]
  have c20 : w0.cell? ⟨w.heap.size + 1 + 1, 0, none⟩ = some (.float .f64 0) := by simp [hw0, go_sem]
  have fc20 : w0.frozen? ⟨w.heap.size + 1 + 1, 0, none⟩ = false := by simp [hw0, go_sem]
  have c21 : w0.cell? ⟨w.heap.size + 1 + 1, 1, none⟩ = some (.float .f64 0) := by simp [hw0, go_sem]
  have fc21 : w0.frozen? ⟨w.heap.size + 1 + 1, 1, none⟩ = false := by simp [hw0, go_sem]
  have c22 : w0.cell? ⟨w.heap.size + 1 + 1, 2, none⟩ = some (.float .f64 0) := by simp [hw0, go_sem]
  have fc22 : w0.frozen? ⟨w.heap.size + 1 + 1, 2, none⟩ = false := by simp [hw0, go_sem]
  have c23 : w0.cell? ⟨w.heap.size + 1 + 1, 3, none⟩ = some (.float .f64 0) := by simp [hw0, go_sem]
  have fc23 : w0.frozen? ⟨w.heap.size + 1 + 1, 3, none⟩ = false := by simp [hw0, go_sem]
  have s0 : w.heap.size + 1 + 1 + 1 ≤ w0.heap.size := by simp [hw0]
  have hB0 : Below w.heap.size w w0 := by
    rw [hw0]
    repeat (with_reducible first | exact Below.refl _ _ | assumption | refine Below.drew ?_ | refine bl_drewN ?_ _ | refine Below.setCell ?_ (by first | omega | (simp; done) | (simp; omega)) _ | refine Below.alloc ?_ (by first | omega | (simp; done) | (simp; omega)) _ | refine bl_next ?_ (by assumption) | refine bl_trans ?_ (by assumption) (by first | omega | (simp; done) | (simp; omega)))
  clear hw0
  go_at_call 74
  refine (b1 _).mono ?_
  rintro e w1 ⟨rfl, hb1⟩
  have s1 := hb1.size
  try simp at s1
  replace fc20 := bfroz2 hb1 c20 fc20
  replace fc21 := bfroz2 hb1 c21 fc21
  replace fc22 := bfroz2 hb1 c22 fc22
  replace fc23 := bfroz2 hb1 c23 fc23
  replace c00 := bkeep2 hb1 c00
  replace c01 := bkeep2 hb1 c01
  replace c02 := bkeep2 hb1 c02
  replace c03 := bkeep2 hb1 c03
  replace c10 := bkeep2 hb1 c10
  replace c11 := bkeep2 hb1 c11
  replace c12 := bkeep2 hb1 c12
  replace c13 := bkeep2 hb1 c13
  replace c20 := bkeep2 hb1 c20
  replace c21 := bkeep2 hb1 c21
  replace c22 := bkeep2 hb1 c22
  replace c23 := bkeep2 hb1 c23
  have l0 : w.heap.size < w1.heap.size := cell_lt c00
  have l1 : w.heap.size + 1 < w1.heap.size := cell_lt c10
  have l2 : w.heap.size + 1 + 1 < w1.heap.size := cell_lt c20
  go_wp2_with fail
  go_at_call 74
  refine (b2 _).mono ?_
  rintro e w2 ⟨rfl, hb2⟩
  have s2 := hb2.size
  try simp at s2
  replace fc20 := bfroz2 hb2 c20 fc20
  replace fc21 := bfroz2 hb2 c21 fc21
  replace fc22 := bfroz2 hb2 c22 fc22
  replace fc23 := bfroz2 hb2 c23 fc23
  replace c00 := bkeep2 hb2 c00
  replace c01 := bkeep2 hb2 c01
  replace c02 := bkeep2 hb2 c02
  replace c03 := bkeep2 hb2 c03
  replace c10 := bkeep2 hb2 c10
  replace c11 := bkeep2 hb2 c11
  replace c12 := bkeep2 hb2 c12
  replace c13 := bkeep2 hb2 c13
  replace c20 := bkeep2 hb2 c20
  replace c21 := bkeep2 hb2 c21
  replace c22 := bkeep2 hb2 c22
  replace c23 := bkeep2 hb2 c23
  have l0 : w.heap.size < w2.heap.size := cell_lt c00
  have l1 : w.heap.size + 1 < w2.heap.size := cell_lt c10
  have l2 : w.heap.size + 1 + 1 < w2.heap.size := cell_lt c20
  go_wp2_with fail
  go_at_call 75
  refine (nb _).mono ?_
  rintro e w3 ⟨rfl, hb3⟩
  have s3 := hb3.size
  try simp at s3
  replace fc20 := bfroz2 hb3 c20 fc20
  replace fc21 := bfroz2 hb3 c21 fc21
  replace fc22 := bfroz2 hb3 c22 fc22
  replace fc23 := bfroz2 hb3 c23 fc23
  replace c00 := bkeep2 hb3 c00
  replace c01 := bkeep2 hb3 c01
  replace c02 := bkeep2 hb3 c02
  replace c03 := bkeep2 hb3 c03
  replace c10 := bkeep2 hb3 c10
  replace c11 := bkeep2 hb3 c11
  replace c12 := bkeep2 hb3 c12
  replace c13 := bkeep2 hb3 c13
  replace c20 := bkeep2 hb3 c20
  replace c21 := bkeep2 hb3 c21
  replace c22 := bkeep2 hb3 c22
  replace c23 := bkeep2 hb3 c23
  have l0 : w.heap.size < w3.heap.size := cell_lt c00
  have l1 : w.heap.size + 1 < w3.heap.size := cell_lt c10
  have l2 : w.heap.size + 1 + 1 < w3.heap.size := cell_lt c20
  go_wp2_with fail
  refine bodyPost_ret (v := .agg #[.float .f64 e1, .float .f64 e2, .float .f64 e3, .float .f64 e4]) (by simp [results, Tryz.results40, go_sem, *]) rfl ⟨rfl, ?_⟩
  repeat (with_reducible first | exact Below.refl _ _ | assumption | refine Below.drew ?_ | refine bl_drewN ?_ _ | refine Below.setCell ?_ (by first | omega | (simp; done) | (simp; omega)) _ | refine Below.alloc ?_ (by first | omega | (simp; done) | (simp; omega)) _ | refine bl_next ?_ (by assumption) | refine bl_trans ?_ (by assumption) (by first | omega | (simp; done) | (simp; omega)))

set_option maxHeartbeats 1000000 in
theorem rboxSum_noy_t_w (X1 X2 X3 X4 Y1 Y2 Y3 Y4 e1 e2 e3 e4 : Nat)
    (b1 : ∀ w, Calls Tryz.prog 74 #[.agg #[.float .f64 X1, .float .f64 X2, .float .f64 X3, .float .f64 X4]] w fun e w' => e = .returned (.bool false) ∧ Below w.heap.size w w')
    (b2 : ∀ w, Calls Tryz.prog 74 #[.agg #[.float .f64 Y1, .float .f64 Y2, .float .f64 Y3, .float .f64 Y4]] w fun e w' => e = .returned (.bool true) ∧ Below w.heap.size w w')
    (nb : ∀ w, Calls Tryz.prog 75 #[] w fun e w' => e = .returned (.agg #[.float .f64 e1, .float .f64 e2, .float .f64 e3, .float .f64 e4]) ∧ Below w.heap.size w w') (w : World) :
    Calls Tryz.prog 39 #[.agg #[.float .f64 X1, .float .f64 X2, .float .f64 X3, .float .f64 X4], .agg #[.float .f64 Y1, .float .f64 Y2, .float .f64 Y3, .float .f64 Y4], .bool true] w fun e w' => e = .returned (.agg #[.float .f64 e1, .float .f64 e2, .float .f64 e3, .float .f64 e4]) ∧ Below w.heap.size w w' := by
  go_enter Tryz.func39, Tryz.ntmps39
  go_wp2_with fail
  obtain ⟨w0, hw0⟩ : ∃ v, v = (((w.alloc (.cells #[.float .f64 X1, .float .f64 X2, .float .f64 X3, .float .f64 X4] 39)).alloc (.cells #[.float .f64 Y1, .float .f64 Y2, .float .f64 Y3, .float .f64 Y4] 39)).alloc (.cells #[.float .f64 0, .float .f64 0, .float .f64 0, .float .f64 0] 39)) := ⟨_, rfl⟩
  rw [← hw0]
  have c00 : w0.cell? ⟨w.heap.size, 0, none⟩ = some (.float .f64 X1) := by simp [hw0, go_sem]
  have c01 : w0.cell? ⟨w.heap.size, 1, none⟩ = some (.float .f64 X2) := by simp [hw0, go_sem]
  have c02 : w0.cell? ⟨w.heap.size, 2, none⟩ = some (.float .f64 X3) := by simp [hw0, go_sem]
  have c03 : w0.cell? ⟨w.heap.size, 3, none⟩ = some (.float .f64 X4) := by simp [hw0, go_sem]
  have c10 : w0.cell? ⟨w.heap.size + 1, 0, none⟩ = some (.float .f64 Y1) := by simp [hw0, go_sem]
  have c11 : w0.cell? ⟨w.heap.size + 1, 1, none⟩ = some (.float .f64 Y2) := by simp [hw0, go_sem]
  have c12 : w0.cell? ⟨w.heap.size + 1, 2, none⟩ = some (.float .f64 Y3) := by simp [hw0, go_sem]
  have c13 : w0.cell? ⟨w.heap.size + 1, 3, none⟩ = some (.float .f64 Y4) := by simp [hw0, go_sem]
  have c20 : w0.cell? ⟨w.heap.size + 1 + 1, 0, none⟩ = some (.float .f64 0) := by simp [hw0, go_sem]
  have fc20 : w0.frozen? ⟨w.heap.size + 1 + 1, 0, none⟩ = false := by simp [hw0, go_sem]
  have c21 : w0.cell? ⟨w.heap.size + 1 + 1, 1, none⟩ = some (.float .f64 0) := by simp [hw0, go_sem]
  have fc21 : w0.frozen? ⟨w.heap.size + 1 + 1, 1, none⟩ = false := by simp [hw0, go_sem]
  have c22 : w0.cell? ⟨w.heap.size + 1 + 1, 2, none⟩ = some (.float .f64 0) := by simp [hw0, go_sem]
  have fc22 : w0.frozen? ⟨w.heap.size + 1 + 1, 2, none⟩ = false := by simp [hw0, go_sem]
  have c23 : w0.cell? ⟨w.heap.size + 1 + 1, 3, none⟩ = some (.float .f64 0) := by simp [hw0, go_sem]
  have fc23 : w0.frozen? ⟨w.heap.size + 1 + 1, 3, none⟩ = false := by simp [hw0, go_sem]
  have s0 : w.heap.size + 1 + 1 + 1 ≤ w0.heap.size := by simp [hw0]
  have hB0 : Below w.heap.size w w0 := by
    rw [hw0]
    repeat (with_reducible first | exact Below.refl _ _ | assumption | refine Below.drew ?_ | refine bl_drewN ?_ _ | refine Below.setCell ?_ (by first | omega | (simp; done) | (simp; omega)) _ | refine Below.alloc ?_ (by first | omega | (simp; done) | (simp; omega)) _ | refine bl_next ?_ (by assumption) | refine bl_trans ?_ (by assumption) (by first | omega | (simp; done) | (simp; omega)))
  clear hw0
  go_at_call 74
  refine (b1 _).mono ?_
  rintro e w1 ⟨rfl, hb1⟩
  have s1 := hb1.size
  try simp at s1
  replace fc20 := bfroz2 hb1 c20 fc20
  replace fc21 := bfroz2 hb1 c21 fc21
  replace fc22 := bfroz2 hb1 c22 fc22
  replace fc23 := bfroz2 hb1 c23 fc23
  replace c00 := bkeep2 hb1 c00
  replace c01 := bkeep2 hb1 c01
  replace c02 := bkeep2 hb1 c02
  replace c03 := bkeep2 hb1 c03
  replace c10 := bkeep2 hb1 c10
  replace c11 := bkeep2 hb1 c11
  replace c12 := bkeep2 hb1 c12
  replace c13 := bkeep2 hb1 c13
  replace c20 := bkeep2 hb1 c20
  replace c21 := bkeep2 hb1 c21
  replace c22 := bkeep2 hb1 c22
  replace c23 := bkeep2 hb1 c23
  have l0 : w.heap.size < w1.heap.size := cell_lt c00
  have l1 : w.heap.size + 1 < w1.heap.size := cell_lt c10
  have l2 : w.heap.size + 1 + 1 < w1.heap.size := cell_lt c20
  go_wp2_with fail
  go_at_call 74
  refine (b2 _).mono ?_
  rintro e w2 ⟨rfl, hb2⟩
  have s2 := hb2.size
  try simp at s2
  replace fc20 := bfroz2 hb2 c20 fc20
  replace fc21 := bfroz2 hb2 c21 fc21
  replace fc22 := bfroz2 hb2 c22 fc22
  replace fc23 := bfroz2 hb2 c23 fc23
  replace c00 := bkeep2 hb2 c00
  replace c01 := bkeep2 hb2 c01
  replace c02 := bkeep2 hb2 c02
  replace c03 := bkeep2 hb2 c03
  replace c10 := bkeep2 hb2 c10
  replace c11 := bkeep2 hb2 c11
  replace c12 := bkeep2 hb2 c12
  replace c13 := bkeep2 hb2 c13
  replace c20 := bkeep2 hb2 c20
  replace c21 := bkeep2 hb2 c21
  replace c22 := bkeep2 hb2 c22
  replace c23 := bkeep2 hb2 c23
  have l0 : w.heap.size < w2.heap.size := cell_lt c00
  have l1 : w.heap.size + 1 < w2.heap.size := cell_lt c10
  have l2 : w.heap.size + 1 + 1 < w2.heap.size := cell_lt c20
  go_wp2_with fail
  go_at_call 75
  refine (nb _).mono ?_
  rintro e w3 ⟨rfl, hb3⟩
  have s3 := hb3.size
  try simp at s3
  replace fc20 := bfroz2 hb3 c20 fc20
  replace fc21 := bfroz2 hb3 c21 fc21
  replace fc22 := bfroz2 hb3 c22 fc22
  replace fc23 := bfroz2 hb3 c23 fc23
  replace c00 := bkeep2 hb3 c00
  replace c01 := bkeep2 hb3 c01
  replace c02 := bkeep2 hb3 c02
  replace c03 := bkeep2 hb3 c03
  replace c10 := bkeep2 hb3 c10
  replace c11 := bkeep2 hb3 c11
  replace c12 := bkeep2 hb3 c12
  replace c13 := bkeep2 hb3 c13
  replace c20 := bkeep2 hb3 c20
  replace c21 := bkeep2 hb3 c21
  replace c22 := bkeep2 hb3 c22
  replace c23 := bkeep2 hb3 c23
  have l0 : w.heap.size < w3.heap.size := cell_lt c00
  have l1 : w.heap.size + 1 < w3.heap.size := cell_lt c10
  have l2 : w.heap.size + 1 + 1 < w3.heap.size := cell_lt c20
  go_wp2_with fail
  refine bodyPost_ret (v := .agg #[.float .f64 e1, .float .f64 e2, .float .f64 e3, .float .f64 e4]) (by simp [results, Tryz.results39, go_sem, *]) rfl ⟨rfl, ?_⟩
  repeat (with_reducible first | exact Below.refl _ _ | assumption | refine Below.drew ?_ | refine bl_drewN ?_ _ | refine Below.setCell ?_ (by first | omega | (simp; done) | (simp; omega)) _ | refine Below.alloc ?_ (by first | omega | (simp; done) | (simp; omega)) _ | refine bl_next ?_ (by assumption) | refine bl_trans ?_ (by assumption) (by first | omega | (simp; done) | (simp; omega)))

set_option maxHeartbeats 1000000 in
theorem rboxSum_noy_f_w (X1 X2 X3 X4 Y1 Y2 Y3 Y4 e1 e2 e3 e4 : Nat)
    (b1 : ∀ w, Calls Tryz.prog 74 #[.agg #[.float .f64 X1, .float .f64 X2, .float .f64 X3, .float .f64 X4]] w fun e w' => e = .returned (.bool false) ∧ Below w.heap.size w w')
    (b2 : ∀ w, Calls Tryz.prog 74 #[.agg #[.float .f64 Y1, .float .f64 Y2, .float .f64 Y3, .float .f64 Y4]] w fun e w' => e = .returned (.bool true) ∧ Below w.heap.size w w')
    (nb : ∀ w, Calls Tryz.prog 75 #[] w fun e w' => e = .returned (.agg #[.float .f64 e1, .float .f64 e2, .float .f64 e3, .float .f64 e4]) ∧ Below w.heap.size w w') (w : World) :
    Calls Tryz.prog 39 #[.agg #[.float .f64 X1, .float .f64 X2, .float .f64 X3, .float .f64 X4], .agg #[.float .f64 Y1, .float .f64 Y2, .float .f64 Y3, .float .f64 Y4], .bool false] w fun e w' => e = .returned (.agg #[.float .f64 e1, .float .f64 e2, .float .f64 e3, .float .f64 e4]) ∧ Below w.heap.size w w' := by
  go_enter Tryz.func39, Tryz.ntmps39
  go_wp2_with fail
  obtain ⟨w0, hw0⟩ : ∃ v, v = (((w.alloc (.cells #[.float .f64 X1, .float .f64 X2, .float .f64 X3, .float .f64 X4] 39)).alloc (.cells #[.float .f64 Y1, .float .f64 Y2, .float .f64 Y3, .float .f64 Y4] 39)).alloc (.cells #[.float .f64 0, .float .f64 0, .float .f64 0, .float .f64 0] 39)) := ⟨_, rfl⟩
  rw [← hw0]
  have c00 : w0.cell? ⟨w.heap.size, 0, none⟩ = some (.float .f64 X1) := by simp [hw0, go_sem]
  have c01 : w0.cell? ⟨w.heap.size, 1, none⟩ = some (.float .f64 X2) := by simp [hw0, go_sem]
  have c02 : w0.cell? ⟨w.heap.size, 2, none⟩ = some (.float .f64 X3) := by simp [hw0, go_sem]
  have c03 : w0.cell? ⟨w.heap.size, 3, none⟩ = some (.float .f64 X4) := by simp [hw0, go_sem]
  have c10 : w0.cell? ⟨w.heap.size + 1, 0, none⟩ = some (.float .f64 Y1) := by simp [hw0, go_sem]
  have c11 : w0.cell? ⟨w.heap.size + 1, 1, none⟩ = some (.float .f64 Y2) := by simp [hw0, go_sem]
  have c12 : w0.cell? ⟨w.heap.size + 1, 2, none⟩ = some (.float .f64 Y3) := by simp [hw0, go_sem]
  have c13 : w0.cell? ⟨w.heap.size + 1, 3, none⟩ = some (.float .f64 Y4) := by simp [hw0, go_sem]
  have c20 : w0.cell? ⟨w.heap.size + 1 + 1, 0, none⟩ = some (.float .f64 0) := by simp [hw0, go_sem]
  have fc20 : w0.frozen? ⟨w.heap.size + 1 + 1, 0, none⟩ = false := by simp [hw0, go_sem]
  have c21 : w0.cell? ⟨w.heap.size + 1 + 1, 1, none⟩ = some (.float .f64 0) := by simp [hw0, go_sem]
  have fc21 : w0.frozen? ⟨w.heap.size + 1 + 1, 1, none⟩ = false := by simp [hw0, go_sem]
  have c22 : w0.cell? ⟨w.heap.size + 1 + 1, 2, none⟩ = some (.float .f64 0) := by simp [hw0, go_sem]
  have fc22 : w0.frozen? ⟨w.heap.size + 1 + 1, 2, none⟩ = false := by simp [hw0, go_sem]
  have c23 : w0.cell? ⟨w.heap.size + 1 + 1, 3, none⟩ = some (.float .f64 0) := by simp [hw0, go_sem]
  have fc23 : w0.frozen? ⟨w.heap.size + 1 + 1, 3, none⟩ = false := by simp [hw0, go_sem]
  have s0 : w.heap.size + 1 + 1 + 1 ≤ w0.heap.size := by simp [hw0]
  have hB0 : Below w.heap.size w w0 := by
    rw [hw0]
    repeat (with_reducible first | exact Below.refl _ _ | assumption | refine Below.drew ?_ | refine bl_drewN ?_ _ | refine Below.setCell ?_ (by first | omega | (simp; done) | (simp; omega)) _ | refine Below.alloc ?_ (by first | omega | (simp; done) | (simp; omega)) _ | refine bl_next ?_ (by assumption) | refine bl_trans ?_ (by assumption) (by first | omega | (simp; done) | (simp; omega)))
  clear hw0
  go_at_call 74
  refine (b1 _).mono ?_
  rintro e w1 ⟨rfl, hb1⟩
  have s1 := hb1.size
  try simp at s1
  replace fc20 := bfroz2 hb1 c20 fc20
  replace fc21 := bfroz2 hb1 c21 fc21
  replace fc22 := bfroz2 hb1 c22 fc22
  replace fc23 := bfroz2 hb1 c23 fc23
  replace c00 := bkeep2 hb1 c00
  replace c01 := bkeep2 hb1 c01
  replace c02 := bkeep2 hb1 c02
  replace c03 := bkeep2 hb1 c03
  replace c10 := bkeep2 hb1 c10
  replace c11 := bkeep2 hb1 c11
  replace c12 := bkeep2 hb1 c12
  replace c13 := bkeep2 hb1 c13
  replace c20 := bkeep2 hb1 c20
  replace c21 := bkeep2 hb1 c21
  replace c22 := bkeep2 hb1 c22
  replace c23 := bkeep2 hb1 c23
  have l0 : w.heap.size < w1.heap.size := cell_lt c00
  have l1 : w.heap.size + 1 < w1.heap.size := cell_lt c10
  have l2 : w.heap.size + 1 + 1 < w1.heap.size := cell_lt c20
  go_wp2_with fail
  go_at_call 74
  refine (b2 _).mono ?_
  rintro e w2 ⟨rfl, hb2⟩
  have s2 := hb2.size
  try simp at s2
  replace fc20 := bfroz2 hb2 c20 fc20
  replace fc21 := bfroz2 hb2 c21 fc21
  replace fc22 := bfroz2 hb2 c22 fc22
  replace fc23 := bfroz2 hb2 c23 fc23
  replace c00 := bkeep2 hb2 c00
  replace c01 := bkeep2 hb2 c01
  replace c02 := bkeep2 hb2 c02
  replace c03 := bkeep2 hb2 c03
  replace c10 := bkeep2 hb2 c10
  replace c11 := bkeep2 hb2 c11
  replace c12 := bkeep2 hb2 c12
  replace c13 := bkeep2 hb2 c13
  replace c20 := bkeep2 hb2 c20
  replace c21 := bkeep2 hb2 c21
  replace c22 := bkeep2 hb2 c22
  replace c23 := bkeep2 hb2 c23
  have l0 : w.heap.size < w2.heap.size := cell_lt c00
  have l1 : w.heap.size + 1 < w2.heap.size := cell_lt c10
  have l2 : w.heap.size + 1 + 1 < w2.heap.size := cell_lt c20
  go_wp2_with fail
  go_at_call 75
  refine (nb _).mono ?_
  rintro e w3 ⟨rfl, hb3⟩
  have s3 := hb3.size
  try simp at s3
  replace fc20 := bfroz2 hb3 c20 fc20
  replace fc21 := bfroz2 hb3 c21 fc21
  replace fc22 := bfroz2 hb3 c22 fc22
  replace fc23 := bfroz2 hb3 c23 fc23
  replace c00 := bkeep2 hb3 c00
  replace c01 := bkeep2 hb3 c01
  replace c02 := bkeep2 hb3 c02
  replace c03 := bkeep2 hb3 c03
  replace c10 := bkeep2 hb3 c10
  replace c11 := bkeep2 hb3 c11
  replace c12 := bkeep2 hb3 c12
  replace c13 := bkeep2 hb3 c13
  replace c20 := bkeep2 hb3 c20
  replace c21 := bkeep2 hb3 c21
  replace c22 := bkeep2 hb3 c22
  replace c23 := bkeep2 hb3 c23
  have l0 : w.heap.size < w3.heap.size := cell_lt c00
  have l1 : w.heap.size + 1 < w3.heap.size := cell_lt c10
  have l2 : w.heap.size + 1 + 1 < w3.heap.size := cell_lt c20
  go_wp2_with fail
  refine bodyPost_ret (v := .agg #[.float .f64 e1, .float .f64 e2, .float .f64 e3, .float .f64 e4]) (by simp [results, Tryz.results39, go_sem, *]) rfl ⟨rfl, ?_⟩
  repeat (with_reducible first | exact Below.refl _ _ | assumption | refine Below.drew ?_ | refine bl_drewN ?_ _ | refine Below.setCell ?_ (by first | omega | (simp; done) | (simp; omega)) _ | refine Below.alloc ?_ (by first | omega | (simp; done) | (simp; omega)) _ | refine bl_next ?_ (by assumption) | refine bl_trans ?_ (by assumption) (by first | omega | (simp; done) | (simp; omega)))

set_option maxHeartbeats 1000000 in
theorem rboxProduct_noy_w (X1 X2 X3 X4 Y1 Y2 Y3 Y4 e1 e2 e3 e4 : Nat)
    (b1 : ∀ w, Calls Tryz.prog 74 #[.agg #[.float .f64 X1, .float .f64 X2, .float .f64 X3, .float .f64 X4]] w fun e w' => e = .returned (.bool false) ∧ Below w.heap.size w w')
    (b2 : ∀ w, Calls Tryz.prog 74 #[.agg #[.float .f64 Y1, .float .f64 Y2, .float .f64 Y3, .float .f64 Y4]] w fun e w' => e = .returned (.bool true) ∧ Below w.heap.size w w')
    (nb : ∀ w, Calls Tryz.prog 75 #[] w fun e w' => e = .returned (.agg #[.float .f64 e1, .float .f64 e2, .float .f64 e3, .float .f64 e4]) ∧ Below w.heap.size w w') (w : World) :
    Calls Tryz.prog 40 #[.agg #[.float .f64 X1, .float .f64 X2, .float .f64 X3, .float .f64 X4], .agg #[.float .f64 Y1, .float .f64 Y2, .float .f64 Y3, .float .f64 Y4]] w fun e w' => e = .returned (.agg #[.float .f64 e1, .float .f64 e2, .float .f64 e3, .float .f64 e4]) ∧ Below w.heap.size w w' := by
  go_enter Tryz.func40, Tryz.ntmps40
  go_wp2_with fail
  obtain ⟨w0, hw0⟩ : ∃ v, v = (((w.alloc (.cells #[.float .f64 X1, .float .f64 X2, .float .f64 X3, .float .f64 X4] 39)).alloc (.cells #[.float .f64 Y1, .float .f64 Y2, .float .f64 Y3, .float .f64 Y4] 39)).alloc (.cells #[.float .f64 0, .float .f64 0, .float .f64 0, .float .f64 0] 39)) := ⟨_, rfl⟩
  rw [← hw0]
  have c00 : w0.cell? ⟨w.heap.size, 0, none⟩ = some (.float .f64 X1) := by simp [hw0, go_sem]
  have c01 : w0.cell? ⟨w.heap.size, 1, none⟩ = some (.float .f64 X2) := by simp [hw0, go_sem]
  have c02 : w0.cell? ⟨w.heap.size, 2, none⟩ = some (.float .f64 X3) := by simp [hw0, go_sem]
  have c03 : w0.cell? ⟨w.heap.size, 3, none⟩ = some (.float .f64 X4) := by simp [hw0, go_sem]
  have c10 : w0.cell? ⟨w.heap.size + 1, 0, none⟩ = some (.float .f64 Y1) := by simp [hw0, go_sem]
  have c11 : w0.cell? ⟨w.heap.size + 1, 1, none⟩ = some (.float .f64 Y2) := by simp [hw0, go_sem]
  have c12 : w0.cell? ⟨w.heap.size + 1, 2, none⟩ = some (.float .f64 Y3) := by simp [hw0, go_sem]
  have c13 : w0.cell? ⟨w.heap.size + 1, 3, none⟩ = some (.float .f64 Y4) := by simp [hw0, go_sem]
  have c20 : w0.cell? ⟨w.heap.size + 1 + 1, 0, none⟩ = some (.float .f64 0) := by simp [hw0, go_sem]
  have fc20 : w0.frozen? ⟨w.heap.size + 1 + 1, 0, none⟩ = false := by simp [hw0, go_sem]
  have c21 : w0.cell? ⟨w.heap.size + 1 + 1, 1, none⟩ = some (.float .f64 0) := by simp [hw0, go_sem]
  have fc21 : w0.frozen? ⟨w.heap.size + 1 + 1, 1, none⟩ = false := by simp [hw0, go_sem]
  have c22 : w0.cell? ⟨w.heap.size + 1 + 1, 2, none⟩ = some (.float .f64 0) := by simp [hw0, go_sem]
  have fc22 : w0.frozen? ⟨w.heap.size + 1 + 1, 2, none⟩ = false := by simp [hw0, go_sem]
  have c23 : w0.cell? ⟨w.heap.size + 1 + 1, 3, none⟩ = some (.float .f64 0) := by simp [hw0, go_sem]
  have fc23 : w0.frozen? ⟨w.heap.size + 1 + 1, 3, none⟩ = false := by simp [hw0, go_sem]
  have s0 : w.heap.size + 1 + 1 + 1 ≤ w0.heap.size := by simp [hw0]
  have hB0 : Below w.heap.size w w0 := by
    rw [hw0]
    repeat (with_reducible first | exact Below.refl _ _ | assumption | refine Below.drew ?_ | refine bl_drewN ?_ _ | refine Below.setCell ?_ (by first | omega | (simp; done) | (simp; omega)) _ | refine Below.alloc ?_ (by first | omega | (simp; done) | (simp; omega)) _ | refine bl_next ?_ (by assumption) | refine bl_trans ?_ (by assumption) (by first | omega | (simp; done) | (simp; omega)))
  clear hw0
  go_at_call 74
  refine (b1 _).mono ?_
  rintro e w1 ⟨rfl, hb1⟩
  have s1 := hb1.size
  try simp at s1
  replace fc20 := bfroz2 hb1 c20 fc20
  replace fc21 := bfroz2 hb1 c21 fc21
  replace fc22 := bfroz2 hb1 c22 fc22
  replace fc23 := bfroz2 hb1 c23 fc23
  replace c00 := bkeep2 hb1 c00
  replace c01 := bkeep2 hb1 c01
  replace c02 := bkeep2 hb1 c02
  replace c03 := bkeep2 hb1 c03
  replace c10 := bkeep2 hb1 c10
  replace c11 := bkeep2 hb1 c11
  replace c12 := bkeep2 hb1 c12
  replace c13 := bkeep2 hb1 c13
  replace c20 := bkeep2 hb1 c20
  replace c21 := bkeep2 hb1 c21
  replace c22 := bkeep2 hb1 c22
  replace c23 := bkeep2 hb1 c23
  have l0 : w.heap.size < w1.heap.size := cell_lt c00
  have l1 : w.heap.size + 1 < w1.heap.size := cell_lt c10
  have l2 : w.heap.size + 1 + 1 < w1.heap.size := cell_lt c20
  go_wp2_with fail
  go_at_call 74
  refine (b2 _).mono ?_
  rintro e w2 ⟨rfl, hb2⟩
  have s2 := hb2.size
  try simp at s2
  replace fc20 := bfroz2 hb2 c20 fc20
  replace fc21 := bfroz2 hb2 c21 fc21
  replace fc22 := bfroz2 hb2 c22 fc22
  replace fc23 := bfroz2 hb2 c23 fc23
  replace c00 := bkeep2 hb2 c00
  replace c01 := bkeep2 hb2 c01
  replace c02 := bkeep2 hb2 c02
  replace c03 := bkeep2 hb2 c03
  replace c10 := bkeep2 hb2 c10
  replace c11 := bkeep2 hb2 c11
  replace c12 := bkeep2 hb2 c12
  replace c13 := bkeep2 hb2 c13
  replace c20 := bkeep2 hb2 c20
  replace c21 := bkeep2 hb2 c21
  replace c22 := bkeep2 hb2 c22
  replace c23 := bkeep2 hb2 c23
  have l0 : w.heap.size < w2.heap.size := cell_lt c00
  have l1 : w.heap.size + 1 < w2.heap.size := cell_lt c10
  have l2 : w.heap.size + 1 + 1 < w2.heap.size := cell_lt c20
  go_wp2_with fail
  go_at_call 75
  refine (nb _).mono ?_
  rintro e w3 ⟨rfl, hb3⟩
  have s3 := hb3.size
  try simp at s3
  replace fc20 := bfroz2 hb3 c20 fc20
  replace fc21 := bfroz2 hb3 c21 fc21
  replace fc22 := bfroz2 hb3 c22 fc22
  replace fc23 := bfroz2 hb3 c23 fc23
  replace c00 := bkeep2 hb3 c00
  replace c01 := bkeep2 hb3 c01
  replace c02 := bkeep2 hb3 c02
  replace c03 := bkeep2 hb3 c03
  replace c10 := bkeep2 hb3 c10
  replace c11 := bkeep2 hb3 c11
  replace c12 := bkeep2 hb3 c12
  replace c13 := bkeep2 hb3 c13
  replace c20 := bkeep2 hb3 c20
  replace c21 := bkeep2 hb3 c21
  replace c22 := bkeep2 hb3 c22
  replace c23 := bkeep2 hb3 c23
  have l0 : w.heap.size < w3.heap.size := cell_lt c00
  have l1 : w.heap.size + 1 < w3.heap.size := cell_lt c10
  have l2 : w.heap.size + 1 + 1 < w3.heap.size := cell_lt c20
  go_wp2_with fail
  refine bodyPost_ret (v := .agg #[.float .f64 e1, .float .f64 e2, .float .f64 e3, .float .f64 e4]) (by simp [results, Tryz.results40, go_sem, *]) rfl ⟨rfl, ?_⟩
  repeat (with_reducible first | exact Below.refl _ _ | assumption | refine Below.drew ?_ | refine bl_drewN ?_ _ | refine Below.setCell ?_ (by first | omega | (simp; done) | (simp; omega)) _ | refine Below.alloc ?_ (by first | omega | (simp; done) | (simp; omega)) _ | refine bl_next ?_ (by assumption) | refine bl_trans ?_ (by assumption) (by first | omega | (simp; done) | (simp; omega)))

end Go.Proofs.YtacnclofbnafiabGreatDoor

namespace Go.Proofs.YtacnclofbnafiabGreatDoor
open Go.RowKit Fl

set_option maxHeartbeats 1000000 in
theorem rboxSum_t_w (X1 X2 X3 X4 Y1 Y2 Y3 Y4 a b c d : Nat)
    (b1 : ∀ w, Calls Tryz.prog 74 #[.agg #[.float .f64 X1, .float .f64 X2, .float .f64 X3, .float .f64 X4]] w fun e w' => e = .returned (.bool false) ∧ Below w.heap.size w w')
    (b2 : ∀ w, Calls Tryz.prog 74 #[.agg #[.float .f64 Y1, .float .f64 Y2, .float .f64 Y3, .float .f64 Y4]] w fun e w' => e = .returned (.bool false) ∧ Below w.heap.size w w')
    (a1 : ∀ w, Calls Tryz.prog 76 #[.agg #[.float .f64 X1, .float .f64 X2], .agg #[.float .f64 Y1, .float .f64 Y2]] w fun e w' => e = .returned (.agg #[.float .f64 a, .float .f64 b]) ∧ Below w.heap.size w w')
    (a2 : ∀ w, Calls Tryz.prog 76 #[.agg #[.float .f64 X3, .float .f64 X4], .agg #[.float .f64 Y3, .float .f64 Y4]] w fun e w' => e = .returned (.agg #[.float .f64 c, .float .f64 d]) ∧ Below w.heap.size w w') (w : World) :
    Calls Tryz.prog 39 #[.agg #[.float .f64 X1, .float .f64 X2, .float .f64 X3, .float .f64 X4], .agg #[.float .f64 Y1, .float .f64 Y2, .float .f64 Y3, .float .f64 Y4], .bool true] w fun e w' => e = .returned (.agg #[.float .f64 a, .float .f64 b, .float .f64 c, .float .f64 d]) ∧ Below w.heap.size w w' := by
  go_enter Tryz.func39, Tryz.ntmps39
  go_wp2_with fail
  obtain ⟨w0, hw0⟩ : ∃ v, v = (((w.alloc (.cells #[.float .f64 X1, .float .f64 X2, .float .f64 X3, .float .f64 X4] 39)).alloc (.cells #[.float .f64 Y1, .float .f64 Y2, .float .f64 Y3, .float .f64 Y4] 39)).alloc (.cells #[.float .f64 0, .float .f64 0, .float .f64 0, .float .f64 0] 39)) := ⟨_, rfl⟩
  rw [← hw0]
  have c00 : w0.cell? ⟨w.heap.size, 0, none⟩ = some (.float .f64 X1) := by simp [hw0, go_sem]
  have c01 : w0.cell? ⟨w.heap.size, 1, none⟩ = some (.float .f64 X2) := by simp [hw0, go_sem]
  have c02 : w0.cell? ⟨w.heap.size, 2, none⟩ = some (.float .f64 X3) := by simp [hw0, go_sem]
  have c03 : w0.cell? ⟨w.heap.size, 3, none⟩ = some (.float .f64 X4) := by simp [hw0, go_sem]
  have c10 : w0.cell? ⟨w.heap.size + 1, 0, none⟩ = some (.float .f64 Y1) := by simp [hw0, go_sem]
  have c11 : w0.cell? ⟨w.heap.size + 1, 1, none⟩ = some (.float .f64 Y2) := by simp [hw0, go_sem]
  have c12 : w0.cell? ⟨w.heap.size + 1, 2, none⟩ = some (.float .f64 Y3) := by simp [hw0, go_sem]
  have c13 : w0.cell? ⟨w.heap.size + 1, 3, none⟩ = some (.float .f64 Y4) := by simp [hw0, go_sem]
  have c20 : w0.cell? ⟨w.heap.size + 1 + 1, 0, none⟩ = some (.float .f64 0) := by simp [hw0, go_sem]
  have fc20 : w0.frozen? ⟨w.heap.size + 1 + 1, 0, none⟩ = false := by simp [hw0, go_sem]
  have c21 : w0.cell? ⟨w.heap.size + 1 + 1, 1, none⟩ = some (.float .f64 0) := by simp [hw0, go_sem]
  have fc21 : w0.frozen? ⟨w.heap.size + 1 + 1, 1, none⟩ = false := by simp [hw0, go_sem]
  have c22 : w0.cell? ⟨w.heap.size + 1 + 1, 2, none⟩ = some (.float .f64 0) := by simp [hw0, go_sem]
  have fc22 : w0.frozen? ⟨w.heap.size + 1 + 1, 2, none⟩ = false := by simp [hw0, go_sem]
  have c23 : w0.cell? ⟨w.heap.size + 1 + 1, 3, none⟩ = some (.float .f64 0) := by simp [hw0, go_sem]
  have fc23 : w0.frozen? ⟨w.heap.size + 1 + 1, 3, none⟩ = false := by simp [hw0, go_sem]
  have s0 : w.heap.size + 1 + 1 + 1 ≤ w0.heap.size := by simp [hw0]
  have hB0 : Below w.heap.size w w0 := by
    rw [hw0]
    repeat (with_reducible first | exact Below.refl _ _ | assumption | refine Below.drew ?_ | refine bl_drewN ?_ _ | refine Below.setCell ?_ (by first | omega | (simp; done) | (simp; omega)) _ | refine Below.alloc ?_ (by first | omega | (simp; done) | (simp; omega)) _ | refine bl_next ?_ (by assumption) | refine bl_trans ?_ (by assumption) (by first | omega | (simp; done) | (simp; omega)))
  clear hw0
  go_at_call 74
  refine (b1 _).mono ?_
  rintro e w1 ⟨rfl, hb1⟩
  have s1 := hb1.size
  try simp at s1
  replace fc20 := bfroz2 hb1 c20 fc20
  replace fc21 := bfroz2 hb1 c21 fc21
  replace fc22 := bfroz2 hb1 c22 fc22
  replace fc23 := bfroz2 hb1 c23 fc23
  replace c00 := bkeep2 hb1 c00
  replace c01 := bkeep2 hb1 c01
  replace c02 := bkeep2 hb1 c02
  replace c03 := bkeep2 hb1 c03
  replace c10 := bkeep2 hb1 c10
  replace c11 := bkeep2 hb1 c11
  replace c12 := bkeep2 hb1 c12
  replace c13 := bkeep2 hb1 c13
  replace c20 := bkeep2 hb1 c20
  replace c21 := bkeep2 hb1 c21
  replace c22 := bkeep2 hb1 c22
  replace c23 := bkeep2 hb1 c23
  have l0 : w.heap.size < w1.heap.size := cell_lt c00
  have l1 : w.heap.size + 1 < w1.heap.size := cell_lt c10
  have l2 : w.heap.size + 1 + 1 < w1.heap.size := cell_lt c20
  go_wp2_with fail
  go_at_call 74
  refine (b2 _).mono ?_
  rintro e w2 ⟨rfl, hb2⟩
  have s2 := hb2.size
  try simp at s2
  replace fc20 := bfroz2 hb2 c20 fc20
  replace fc21 := bfroz2 hb2 c21 fc21
  replace fc22 := bfroz2 hb2 c22 fc22
  replace fc23 := bfroz2 hb2 c23 fc23
  replace c00 := bkeep2 hb2 c00
  replace c01 := bkeep2 hb2 c01
  replace c02 := bkeep2 hb2 c02
  replace c03 := bkeep2 hb2 c03
  replace c10 := bkeep2 hb2 c10
  replace c11 := bkeep2 hb2 c11
  replace c12 := bkeep2 hb2 c12
  replace c13 := bkeep2 hb2 c13
  replace c20 := bkeep2 hb2 c20
  replace c21 := bkeep2 hb2 c21
  replace c22 := bkeep2 hb2 c22
  replace c23 := bkeep2 hb2 c23
  have l0 : w.heap.size < w2.heap.size := cell_lt c00
  have l1 : w.heap.size + 1 < w2.heap.size := cell_lt c10
  have l2 : w.heap.size + 1 + 1 < w2.heap.size := cell_lt c20
  go_wp2_with fail
  go_at_call 76
  refine (a1 _).mono ?_
  rintro e w3 ⟨rfl, hb3⟩
  have s3 := hb3.size
  try simp at s3
  replace fc20 := bfroz2 hb3 c20 fc20
  replace fc21 := bfroz2 hb3 c21 fc21
  replace fc22 := bfroz2 hb3 c22 fc22
  replace fc23 := bfroz2 hb3 c23 fc23
  replace c00 := bkeep2 hb3 c00
  replace c01 := bkeep2 hb3 c01
  replace c02 := bkeep2 hb3 c02
  replace c03 := bkeep2 hb3 c03
  replace c10 := bkeep2 hb3 c10
  replace c11 := bkeep2 hb3 c11
  replace c12 := bkeep2 hb3 c12
  replace c13 := bkeep2 hb3 c13
  replace c20 := bkeep2 hb3 c20
  replace c21 := bkeep2 hb3 c21
  replace c22 := bkeep2 hb3 c22
  replace c23 := bkeep2 hb3 c23
  have l0 : w.heap.size < w3.heap.size := cell_lt c00
  have l1 : w.heap.size + 1 < w3.heap.size := cell_lt c10
  have l2 : w.heap.size + 1 + 1 < w3.heap.size := cell_lt c20
  go_wp2_with fail
  go_at_call 76
  refine (a2 _).mono ?_
  rintro e w4 ⟨rfl, hb4⟩
  have s4 := hb4.size
  try simp at s4
  replace fc20 := bfroz3 hb4 c20 fc20
  replace fc21 := bfroz3 hb4 c21 fc21
  replace fc22 := bfroz3 hb4 c22 fc22
  replace fc23 := bfroz3 hb4 c23 fc23
  replace c00 := bkeep3 hb4 c00
  replace c01 := bkeep3 hb4 c01
  replace c02 := bkeep3 hb4 c02
  replace c03 := bkeep3 hb4 c03
  replace c10 := bkeep3 hb4 c10
  replace c11 := bkeep3 hb4 c11
  replace c12 := bkeep3 hb4 c12
  replace c13 := bkeep3 hb4 c13
  replace c20 := bkeep3 hb4 c20
  replace c21 := bkeep3 hb4 c21
  replace c22 := bkeep3 hb4 c22
  replace c23 := bkeep3 hb4 c23
  have d40 : w4.cell? ⟨w3.heap.size, 0, none⟩ = some (.float .f64 a) := bkeep2 hb4 (by simp [go_sem])
  have d41 : w4.cell? ⟨w3.heap.size, 1, none⟩ = some (.float .f64 b) := bkeep2 hb4 (by simp [go_sem])
  have l0 : w.heap.size < w4.heap.size := cell_lt c00
  have l1 : w.heap.size + 1 < w4.heap.size := cell_lt c10
  have l2 : w.heap.size + 1 + 1 < w4.heap.size := cell_lt c20
  have l3 : w3.heap.size < w4.heap.size := cell_lt d40
  go_wp2_with fail
  refine bodyPost_ret (v := .agg #[.float .f64 a, .float .f64 b, .float .f64 c, .float .f64 d]) (by simp [results, Tryz.results39, go_sem, *]) rfl ⟨rfl, ?_⟩
  repeat (with_reducible first | exact Below.refl _ _ | assumption | refine Below.drew ?_ | refine bl_drewN ?_ _ | refine Below.setCell ?_ (by first | omega | (simp; done) | (simp; omega)) _ | refine Below.alloc ?_ (by first | omega | (simp; done) | (simp; omega)) _ | refine bl_next ?_ (by assumption) | refine bl_trans ?_ (by assumption) (by first | omega | (simp; done) | (simp; omega)))

set_option maxHeartbeats 1000000 in
theorem rboxSum_f_w (X1 X2 X3 X4 Y1 Y2 Y3 Y4 a b c d : Nat)
    (b1 : ∀ w, Calls Tryz.prog 74 #[.agg #[.float .f64 X1, .float .f64 X2, .float .f64 X3, .float .f64 X4]] w fun e w' => e = .returned (.bool false) ∧ Below w.heap.size w w')
    (b2 : ∀ w, Calls Tryz.prog 74 #[.agg #[.float .f64 Y1, .float .f64 Y2, .float .f64 Y3, .float .f64 Y4]] w fun e w' => e = .returned (.bool false) ∧ Below w.heap.size w w')
    (a1 : ∀ w, Calls Tryz.prog 77 #[.agg #[.float .f64 X1, .float .f64 X2], .agg #[.float .f64 Y1, .float .f64 Y2]] w fun e w' => e = .returned (.agg #[.float .f64 a, .float .f64 b]) ∧ Below w.heap.size w w')
    (a2 : ∀ w, Calls Tryz.prog 77 #[.agg #[.float .f64 X3, .float .f64 X4], .agg #[.float .f64 Y3, .float .f64 Y4]] w fun e w' => e = .returned (.agg #[.float .f64 c, .float .f64 d]) ∧ Below w.heap.size w w') (w : World) :
    Calls Tryz.prog 39 #[.agg #[.float .f64 X1, .float .f64 X2, .float .f64 X3, .float .f64 X4], .agg #[.float .f64 Y1, .float .f64 Y2, .float .f64 Y3, .float .f64 Y4], .bool false] w fun e w' => e = .returned (.agg #[.float .f64 a, .float .f64 b, .float .f64 c, .float .f64 d]) ∧ Below w.heap.size w w' := by
  go_enter Tryz.func39, Tryz.ntmps39
  go_wp2_with fail
  obtain ⟨w0, hw0⟩ : ∃ v, v = (((w.alloc (.cells #[.float .f64 X1, .float .f64 X2, .float .f64 X3, .float .f64 X4] 39)).alloc (.cells #[.float .f64 Y1, .float .f64 Y2, .float .f64 Y3, .float .f64 Y4] 39)).alloc (.cells #[.float .f64 0, .float .f64 0, .float .f64 0, .float .f64 0] 39)) := ⟨_, rfl⟩
  rw [← hw0]
  have c00 : w0.cell? ⟨w.heap.size, 0, none⟩ = some (.float .f64 X1) := by simp [hw0, go_sem]
  have c01 : w0.cell? ⟨w.heap.size, 1, none⟩ = some (.float .f64 X2) := by simp [hw0, go_sem]
  have c02 : w0.cell? ⟨w.heap.size, 2, none⟩ = some (.float .f64 X3) := by simp [hw0, go_sem]
  have c03 : w0.cell? ⟨w.heap.size, 3, none⟩ = some (.float .f64 X4) := by simp [hw0, go_sem]
  have c10 : w0.cell? ⟨w.heap.size + 1, 0, none⟩ = some (.float .f64 Y1) := by simp [hw0, go_sem]
  have c11 : w0.cell? ⟨w.heap.size + 1, 1, none⟩ = some (.float .f64 Y2) := by simp [hw0, go_sem]
  have c12 : w0.cell? ⟨w.heap.size + 1, 2, none⟩ = some (.float .f64 Y3) := by simp [hw0, go_sem]
  have c13 : w0.cell? ⟨w.heap.size + 1, 3, none⟩ = some (.float .f64 Y4) := by simp [hw0, go_sem]
  have c20 : w0.cell? ⟨w.heap.size + 1 + 1, 0, none⟩ = some (.float .f64 0) := by simp [hw0, go_sem]
  have fc20 : w0.frozen? ⟨w.heap.size + 1 + 1, 0, none⟩ = false := by simp [hw0, go_sem]
  have c21 : w0.cell? ⟨w.heap.size + 1 + 1, 1, none⟩ = some (.float .f64 0) := by simp [hw0, go_sem]
  have fc21 : w0.frozen? ⟨w.heap.size + 1 + 1, 1, none⟩ = false := by simp [hw0, go_sem]
  have c22 : w0.cell? ⟨w.heap.size + 1 + 1, 2, none⟩ = some (.float .f64 0) := by simp [hw0, go_sem]
  have fc22 : w0.frozen? ⟨w.heap.size + 1 + 1, 2, none⟩ = false := by simp [hw0, go_sem]
  have c23 : w0.cell? ⟨w.heap.size + 1 + 1, 3, none⟩ = some (.float .f64 0) := by simp [hw0, go_sem]
  have fc23 : w0.frozen? ⟨w.heap.size + 1 + 1, 3, none⟩ = false := by simp [hw0, go_sem]
  have s0 : w.heap.size + 1 + 1 + 1 ≤ w0.heap.size := by simp [hw0]
  have hB0 : Below w.heap.size w w0 := by
    rw [hw0]
    repeat (with_reducible first | exact Below.refl _ _ | assumption | refine Below.drew ?_ | refine bl_drewN ?_ _ | refine Below.setCell ?_ (by first | omega | (simp; done) | (simp; omega)) _ | refine Below.alloc ?_ (by first | omega | (simp; done) | (simp; omega)) _ | refine bl_next ?_ (by assumption) | refine bl_trans ?_ (by assumption) (by first | omega | (simp; done) | (simp; omega)))
  clear hw0
  go_at_call 74
  refine (b1 _).mono ?_
  rintro e w1 ⟨rfl, hb1⟩
  have s1 := hb1.size
  try simp at s1
  replace fc20 := bfroz2 hb1 c20 fc20
  replace fc21 := bfroz2 hb1 c21 fc21
  replace fc22 := bfroz2 hb1 c22 fc22
  replace fc23 := bfroz2 hb1 c23 fc23
  replace c00 := bkeep2 hb1 c00
  replace c01 := bkeep2 hb1 c01
  replace c02 := bkeep2 hb1 c02
  replace c03 := bkeep2 hb1 c03
  replace c10 := bkeep2 hb1 c10
  replace c11 := bkeep2 hb1 c11
  replace c12 := bkeep2 hb1 c12
  replace c13 := bkeep2 hb1 c13
  replace c20 := bkeep2 hb1 c20
  replace c21 := bkeep2 hb1 c21
  replace c22 := bkeep2 hb1 c22
  replace c23 := bkeep2 hb1 c23
  have l0 : w.heap.size < w1.heap.size := cell_lt c00
  have l1 : w.heap.size + 1 < w1.heap.size := cell_lt c10
  have l2 : w.heap.size + 1 + 1 < w1.heap.size := cell_lt c20
  go_wp2_with fail
  go_at_call 74
  refine (b2 _).mono ?_
  rintro e w2 ⟨rfl, hb2⟩
  have s2 := hb2.size
  try simp at s2
  replace fc20 := bfroz2 hb2 c20 fc20
  replace fc21 := bfroz2 hb2 c21 fc21
  replace fc22 := bfroz2 hb2 c22 fc22
  replace fc23 := bfroz2 hb2 c23 fc23
  replace c00 := bkeep2 hb2 c00
  replace c01 := bkeep2 hb2 c01
  replace c02 := bkeep2 hb2 c02
  replace c03 := bkeep2 hb2 c03
  replace c10 := bkeep2 hb2 c10
  replace c11 := bkeep2 hb2 c11
  replace c12 := bkeep2 hb2 c12
  replace c13 := bkeep2 hb2 c13
  replace c20 := bkeep2 hb2 c20
  replace c21 := bkeep2 hb2 c21
  replace c22 := bkeep2 hb2 c22
  replace c23 := bkeep2 hb2 c23
  have l0 : w.heap.size < w2.heap.size := cell_lt c00
  have l1 : w.heap.size + 1 < w2.heap.size := cell_lt c10
  have l2 : w.heap.size + 1 + 1 < w2.heap.size := cell_lt c20
  go_wp2_with fail
  go_at_call 77
  refine (a1 _).mono ?_
  rintro e w3 ⟨rfl, hb3⟩
  have s3 := hb3.size
  try simp at s3
  replace fc20 := bfroz2 hb3 c20 fc20
  replace fc21 := bfroz2 hb3 c21 fc21
  replace fc22 := bfroz2 hb3 c22 fc22
  replace fc23 := bfroz2 hb3 c23 fc23
  replace c00 := bkeep2 hb3 c00
  replace c01 := bkeep2 hb3 c01
  replace c02 := bkeep2 hb3 c02
  replace c03 := bkeep2 hb3 c03
  replace c10 := bkeep2 hb3 c10
  replace c11 := bkeep2 hb3 c11
  replace c12 := bkeep2 hb3 c12
  replace c13 := bkeep2 hb3 c13
  replace c20 := bkeep2 hb3 c20
  replace c21 := bkeep2 hb3 c21
  replace c22 := bkeep2 hb3 c22
  replace c23 := bkeep2 hb3 c23
  have l0 : w.heap.size < w3.heap.size := cell_lt c00
  have l1 : w.heap.size + 1 < w3.heap.size := cell_lt c10
  have l2 : w.heap.size + 1 + 1 < w3.heap.size := cell_lt c20
  go_wp2_with fail
  go_at_call 77
  refine (a2 _).mono ?_
  rintro e w4 ⟨rfl, hb4⟩
  have s4 := hb4.size
  try simp at s4
  replace fc20 := bfroz3 hb4 c20 fc20
  replace fc21 := bfroz3 hb4 c21 fc21
  replace fc22 := bfroz3 hb4 c22 fc22
  replace fc23 := bfroz3 hb4 c23 fc23
  replace c00 := bkeep3 hb4 c00
  replace c01 := bkeep3 hb4 c01
  replace c02 := bkeep3 hb4 c02
  replace c03 := bkeep3 hb4 c03
  replace c10 := bkeep3 hb4 c10
  replace c11 := bkeep3 hb4 c11
  replace c12 := bkeep3 hb4 c12
  replace c13 := bkeep3 hb4 c13
  replace c20 := bkeep3 hb4 c20
  replace c21 := bkeep3 hb4 c21
  replace c22 := bkeep3 hb4 c22
  replace c23 := bkeep3 hb4 c23
  have d40 : w4.cell? ⟨w3.heap.size, 0, none⟩ = some (.float .f64 a) := bkeep2 hb4 (by simp [go_sem])
  have d41 : w4.cell? ⟨w3.heap.size, 1, none⟩ = some (.float .f64 b) := bkeep2 hb4 (by simp [go_sem])
  have l0 : w.heap.size < w4.heap.size := cell_lt c00
  have l1 : w.heap.size + 1 < w4.heap.size := cell_lt c10
  have l2 : w.heap.size + 1 + 1 < w4.heap.size := cell_lt c20
  have l3 : w3.heap.size < w4.heap.size := cell_lt d40
  go_wp2_with fail
  refine bodyPost_ret (v := .agg #[.float .f64 a, .float .f64 b, .float .f64 c, .float .f64 d]) (by simp [results, Tryz.results39, go_sem, *]) rfl ⟨rfl, ?_⟩
  repeat (with_reducible first | exact Below.refl _ _ | assumption | refine Below.drew ?_ | refine bl_drewN ?_ _ | refine Below.setCell ?_ (by first | omega | (simp; done) | (simp; omega)) _ | refine Below.alloc ?_ (by first | omega | (simp; done) | (simp; omega)) _ | refine bl_next ?_ (by assumption) | refine bl_trans ?_ (by assumption) (by first | omega | (simp; done) | (simp; omega)))

set_option maxHeartbeats 2000000 in
theorem rboxProduct_w (X1 X2 X3 X4 Y1 Y2 Y3 Y4 p1 p2 q1 q2 r1 r2 t1 t2 a b c d : Nat)
    (b1 : ∀ w, Calls Tryz.prog 74 #[.agg #[.float .f64 X1, .float .f64 X2, .float .f64 X3, .float .f64 X4]] w fun e w' => e = .returned (.bool false) ∧ Below w.heap.size w w')
    (b2 : ∀ w, Calls Tryz.prog 74 #[.agg #[.float .f64 Y1, .float .f64 Y2, .float .f64 Y3, .float .f64 Y4]] w fun e w' => e = .returned (.bool false) ∧ Below w.heap.size w w')
    (m1 : ∀ w, Calls Tryz.prog 78 #[.agg #[.float .f64 X1, .float .f64 X2], .agg #[.float .f64 Y1, .float .f64 Y2]] w fun e w' => e = .returned (.agg #[.float .f64 p1, .float .f64 p2]) ∧ Below w.heap.size w w')
    (m2 : ∀ w, Calls Tryz.prog 78 #[.agg #[.float .f64 X3, .float .f64 X4], .agg #[.float .f64 Y3, .float .f64 Y4]] w fun e w' => e = .returned (.agg #[.float .f64 q1, .float .f64 q2]) ∧ Below w.heap.size w w')
    (m3 : ∀ w, Calls Tryz.prog 78 #[.agg #[.float .f64 X1, .float .f64 X2], .agg #[.float .f64 Y3, .float .f64 Y4]] w fun e w' => e = .returned (.agg #[.float .f64 r1, .float .f64 r2]) ∧ Below w.heap.size w w')
    (m4 : ∀ w, Calls Tryz.prog 78 #[.agg #[.float .f64 X3, .float .f64 X4], .agg #[.float .f64 Y1, .float .f64 Y2]] w fun e w' => e = .returned (.agg #[.float .f64 t1, .float .f64 t2]) ∧ Below w.heap.size w w')
    (a1 : ∀ w, Calls Tryz.prog 76 #[.agg #[.float .f64 p1, .float .f64 p2], .agg #[.float .f64 q1, .float .f64 q2]] w fun e w' => e = .returned (.agg #[.float .f64 a, .float .f64 b]) ∧ Below w.heap.size w w')
    (a2 : ∀ w, Calls Tryz.prog 77 #[.agg #[.float .f64 r1, .float .f64 r2], .agg #[.float .f64 t1, .float .f64 t2]] w fun e w' => e = .returned (.agg #[.float .f64 c, .float .f64 d]) ∧ Below w.heap.size w w') (w : World) :
    Calls Tryz.prog 40 #[.agg #[.float .f64 X1, .float .f64 X2, .float .f64 X3, .float .f64 X4], .agg #[.float .f64 Y1, .float .f64 Y2, .float .f64 Y3, .float .f64 Y4]] w fun e w' => e = .returned (.agg #[.float .f64 a, .float .f64 b, .float .f64 c, .float .f64 d]) ∧ Below w.heap.size w w' := by
  go_enter Tryz.func40, Tryz.ntmps40
  go_wp2_with fail
  obtain ⟨w0, hw0⟩ : ∃ v, v = (((w.alloc (.cells #[.float .f64 X1, .float .f64 X2, .float .f64 X3, .float .f64 X4] 39)).alloc (.cells #[.float .f64 Y1, .float .f64 Y2, .float .f64 Y3, .float .f64 Y4] 39)).alloc (.cells #[.float .f64 0, .float .f64 0, .float .f64 0, .float .f64 0] 39)) := ⟨_, rfl⟩
  rw [← hw0]
  have c00 : w0.cell? ⟨w.heap.size, 0, none⟩ = some (.float .f64 X1) := by simp [hw0, go_sem]
  have c01 : w0.cell? ⟨w.heap.size, 1, none⟩ = some (.float .f64 X2) := by simp [hw0, go_sem]
  have c02 : w0.cell? ⟨w.heap.size, 2, none⟩ = some (.float .f64 X3) := by simp [hw0, go_sem]
  have c03 : w0.cell? ⟨w.heap.size, 3, none⟩ = some (.float .f64 X4) := by simp [hw0, go_sem]
  have c10 : w0.cell? ⟨w.heap.size + 1, 0, none⟩ = some (.float .f64 Y1) := by simp [hw0, go_sem]
  have c11 : w0.cell? ⟨w.heap.size + 1, 1, none⟩ = some (.float .f64 Y2) := by simp [hw0, go_sem]
  have c12 : w0.cell? ⟨w.heap.size + 1, 2, none⟩ = some (.float .f64 Y3) := by simp [hw0, go_sem]
  have c13 : w0.cell? ⟨w.heap.size + 1, 3, none⟩ = some (.float .f64 Y4) := by simp [hw0, go_sem]
  have c20 : w0.cell? ⟨w.heap.size + 1 + 1, 0, none⟩ = some (.float .f64 0) := by simp [hw0, go_sem]
  have fc20 : w0.frozen? ⟨w.heap.size + 1 + 1, 0, none⟩ = false := by simp [hw0, go_sem]
  have c21 : w0.cell? ⟨w.heap.size + 1 + 1, 1, none⟩ = some (.float .f64 0) := by simp [hw0, go_sem]
  have fc21 : w0.frozen? ⟨w.heap.size + 1 + 1, 1, none⟩ = false := by simp [hw0, go_sem]
  have c22 : w0.cell? ⟨w.heap.size + 1 + 1, 2, none⟩ = some (.float .f64 0) := by simp [hw0, go_sem]
  have fc22 : w0.frozen? ⟨w.heap.size + 1 + 1, 2, none⟩ = false := by simp [hw0, go_sem]
  have c23 : w0.cell? ⟨w.heap.size + 1 + 1, 3, none⟩ = some (.float .f64 0) := by simp [hw0, go_sem]
  have fc23 : w0.frozen? ⟨w.heap.size + 1 + 1, 3, none⟩ = false := by simp [hw0, go_sem]
  have s0 : w.heap.size + 1 + 1 + 1 ≤ w0.heap.size := by simp [hw0]
  have hB0 : Below w.heap.size w w0 := by
    rw [hw0]
    repeat (with_reducible first | exact Below.refl _ _ | assumption | refine Below.drew ?_ | refine bl_drewN ?_ _ | refine Below.setCell ?_ (by first | omega | (simp; done) | (simp; omega)) _ | refine Below.alloc ?_ (by first | omega | (simp; done) | (simp; omega)) _ | refine bl_next ?_ (by assumption) | refine bl_trans ?_ (by assumption) (by first | omega | (simp; done) | (simp; omega)))
  clear hw0
  go_at_call 74
  refine (b1 _).mono ?_
  rintro e w1 ⟨rfl, hb1⟩
  have s1 := hb1.size
  try simp at s1
  replace fc20 := bfroz2 hb1 c20 fc20
  replace fc21 := bfroz2 hb1 c21 fc21
  replace fc22 := bfroz2 hb1 c22 fc22
  replace fc23 := bfroz2 hb1 c23 fc23
  replace c00 := bkeep2 hb1 c00
  replace c01 := bkeep2 hb1 c01
  replace c02 := bkeep2 hb1 c02
  replace c03 := bkeep2 hb1 c03
  replace c10 := bkeep2 hb1 c10
  replace c11 := bkeep2 hb1 c11
  replace c12 := bkeep2 hb1 c12
  replace c13 := bkeep2 hb1 c13
  replace c20 := bkeep2 hb1 c20
  replace c21 := bkeep2 hb1 c21
  replace c22 := bkeep2 hb1 c22
  replace c23 := bkeep2 hb1 c23
  have l0 : w.heap.size < w1.heap.size := cell_lt c00
  have l1 : w.heap.size + 1 < w1.heap.size := cell_lt c10
  have l2 : w.heap.size + 1 + 1 < w1.heap.size := cell_lt c20
  go_wp2_with fail
  go_at_call 74
  refine (b2 _).mono ?_
  rintro e w2 ⟨rfl, hb2⟩
  have s2 := hb2.size
  try simp at s2
  replace fc20 := bfroz2 hb2 c20 fc20
  replace fc21 := bfroz2 hb2 c21 fc21
  replace fc22 := bfroz2 hb2 c22 fc22
  replace fc23 := bfroz2 hb2 c23 fc23
  replace c00 := bkeep2 hb2 c00
  replace c01 := bkeep2 hb2 c01
  replace c02 := bkeep2 hb2 c02
  replace c03 := bkeep2 hb2 c03
  replace c10 := bkeep2 hb2 c10
  replace c11 := bkeep2 hb2 c11
  replace c12 := bkeep2 hb2 c12
  replace c13 := bkeep2 hb2 c13
  replace c20 := bkeep2 hb2 c20
  replace c21 := bkeep2 hb2 c21
  replace c22 := bkeep2 hb2 c22
  replace c23 := bkeep2 hb2 c23
  have l0 : w.heap.size < w2.heap.size := cell_lt c00
  have l1 : w.heap.size + 1 < w2.heap.size := cell_lt c10
  have l2 : w.heap.size + 1 + 1 < w2.heap.size := cell_lt c20
  go_wp2_with fail
  go_at_call 78
  refine (m1 _).mono ?_
  rintro e w3 ⟨rfl, hb3⟩
  have s3 := hb3.size
  try simp at s3
  replace fc20 := bfroz2 hb3 c20 fc20
  replace fc21 := bfroz2 hb3 c21 fc21
  replace fc22 := bfroz2 hb3 c22 fc22
  replace fc23 := bfroz2 hb3 c23 fc23
  replace c00 := bkeep2 hb3 c00
  replace c01 := bkeep2 hb3 c01
  replace c02 := bkeep2 hb3 c02
  replace c03 := bkeep2 hb3 c03
  replace c10 := bkeep2 hb3 c10
  replace c11 := bkeep2 hb3 c11
  replace c12 := bkeep2 hb3 c12
  replace c13 := bkeep2 hb3 c13
  replace c20 := bkeep2 hb3 c20
  replace c21 := bkeep2 hb3 c21
  replace c22 := bkeep2 hb3 c22
  replace c23 := bkeep2 hb3 c23
  have l0 : w.heap.size < w3.heap.size := cell_lt c00
  have l1 : w.heap.size + 1 < w3.heap.size := cell_lt c10
  have l2 : w.heap.size + 1 + 1 < w3.heap.size := cell_lt c20
  go_wp2_with fail
  go_at_call 78
  refine (m2 _).mono ?_
  rintro e w4 ⟨rfl, hb4⟩
  have s4 := hb4.size
  try simp at s4
  replace fc20 := bfroz3 hb4 c20 fc20
  replace fc21 := bfroz3 hb4 c21 fc21
  replace fc22 := bfroz3 hb4 c22 fc22
  replace fc23 := bfroz3 hb4 c23 fc23
  replace c00 := bkeep3 hb4 c00
  replace c01 := bkeep3 hb4 c01
  replace c02 := bkeep3 hb4 c02
  replace c03 := bkeep3 hb4 c03
  replace c10 := bkeep3 hb4 c10
  replace c11 := bkeep3 hb4 c11
  replace c12 := bkeep3 hb4 c12
  replace c13 := bkeep3 hb4 c13
  replace c20 := bkeep3 hb4 c20
  replace c21 := bkeep3 hb4 c21
  replace c22 := bkeep3 hb4 c22
  replace c23 := bkeep3 hb4 c23
  have d40 : w4.cell? ⟨w3.heap.size, 0, none⟩ = some (.float .f64 p1) := bkeep2 hb4 (by simp [go_sem])
  have d41 : w4.cell? ⟨w3.heap.size, 1, none⟩ = some (.float .f64 p2) := bkeep2 hb4 (by simp [go_sem])
  have l0 : w.heap.size < w4.heap.size := cell_lt c00
  have l1 : w.heap.size + 1 < w4.heap.size := cell_lt c10
  have l2 : w.heap.size + 1 + 1 < w4.heap.size := cell_lt c20
  have l3 : w3.heap.size < w4.heap.size := cell_lt d40
  go_wp2_with fail
  go_at_call 78
  refine (m3 _).mono ?_
  rintro e w5 ⟨rfl, hb5⟩
  have s5 := hb5.size
  try simp at s5
  replace fc20 := bfroz3 hb5 c20 fc20
  replace fc21 := bfroz3 hb5 c21 fc21
  replace fc22 := bfroz3 hb5 c22 fc22
  replace fc23 := bfroz3 hb5 c23 fc23
  replace c00 := bkeep3 hb5 c00
  replace c01 := bkeep3 hb5 c01
  replace c02 := bkeep3 hb5 c02
  replace c03 := bkeep3 hb5 c03
  replace c10 := bkeep3 hb5 c10
  replace c11 := bkeep3 hb5 c11
  replace c12 := bkeep3 hb5 c12
  replace c13 := bkeep3 hb5 c13
  replace c20 := bkeep3 hb5 c20
  replace c21 := bkeep3 hb5 c21
  replace c22 := bkeep3 hb5 c22
  replace c23 := bkeep3 hb5 c23
  replace d40 := bkeep3 hb5 d40
  replace d41 := bkeep3 hb5 d41
  have d50 : w5.cell? ⟨w4.heap.size, 0, none⟩ = some (.float .f64 q1) := bkeep2 hb5 (by simp [go_sem])
  have d51 : w5.cell? ⟨w4.heap.size, 1, none⟩ = some (.float .f64 q2) := bkeep2 hb5 (by simp [go_sem])
  have l0 : w.heap.size < w5.heap.size := cell_lt c00
  have l1 : w.heap.size + 1 < w5.heap.size := cell_lt c10
  have l2 : w.heap.size + 1 + 1 < w5.heap.size := cell_lt c20
  have l3 : w3.heap.size < w5.heap.size := cell_lt d40
  have l4 : w4.heap.size < w5.heap.size := cell_lt d50
  go_wp2_with fail
  go_at_call 78
  refine (m4 _).mono ?_
  rintro e w6 ⟨rfl, hb6⟩
  have s6 := hb6.size
  try simp at s6
  replace fc20 := bfroz3 hb6 c20 fc20
  replace fc21 := bfroz3 hb6 c21 fc21
  replace fc22 := bfroz3 hb6 c22 fc22
  replace fc23 := bfroz3 hb6 c23 fc23
  replace c00 := bkeep3 hb6 c00
  replace c01 := bkeep3 hb6 c01
  replace c02 := bkeep3 hb6 c02
  replace c03 := bkeep3 hb6 c03
  replace c10 := bkeep3 hb6 c10
  replace c11 := bkeep3 hb6 c11
  replace c12 := bkeep3 hb6 c12
  replace c13 := bkeep3 hb6 c13
  replace c20 := bkeep3 hb6 c20
  replace c21 := bkeep3 hb6 c21
  replace c22 := bkeep3 hb6 c22
  replace c23 := bkeep3 hb6 c23
  replace d40 := bkeep3 hb6 d40
  replace d41 := bkeep3 hb6 d41
  replace d50 := bkeep3 hb6 d50
  replace d51 := bkeep3 hb6 d51
  have d60 : w6.cell? ⟨w5.heap.size, 0, none⟩ = some (.float .f64 r1) := bkeep2 hb6 (by simp [go_sem])
  have d61 : w6.cell? ⟨w5.heap.size, 1, none⟩ = some (.float .f64 r2) := bkeep2 hb6 (by simp [go_sem])
  have l0 : w.heap.size < w6.heap.size := cell_lt c00
  have l1 : w.heap.size + 1 < w6.heap.size := cell_lt c10
  have l2 : w.heap.size + 1 + 1 < w6.heap.size := cell_lt c20
  have l3 : w3.heap.size < w6.heap.size := cell_lt d40
  have l4 : w4.heap.size < w6.heap.size := cell_lt d50
  have l5 : w5.heap.size < w6.heap.size := cell_lt d60
  go_wp2_with fail
  go_at_call 76
  refine (a1 _).mono ?_
  rintro e w7 ⟨rfl, hb7⟩
  have s7 := hb7.size
  try simp at s7
  replace fc20 := bfroz3 hb7 c20 fc20
  replace fc21 := bfroz3 hb7 c21 fc21
  replace fc22 := bfroz3 hb7 c22 fc22
  replace fc23 := bfroz3 hb7 c23 fc23
  replace c00 := bkeep3 hb7 c00
  replace c01 := bkeep3 hb7 c01
  replace c02 := bkeep3 hb7 c02
  replace c03 := bkeep3 hb7 c03
  replace c10 := bkeep3 hb7 c10
  replace c11 := bkeep3 hb7 c11
  replace c12 := bkeep3 hb7 c12
  replace c13 := bkeep3 hb7 c13
  replace c20 := bkeep3 hb7 c20
  replace c21 := bkeep3 hb7 c21
  replace c22 := bkeep3 hb7 c22
  replace c23 := bkeep3 hb7 c23
  replace d40 := bkeep3 hb7 d40
  replace d41 := bkeep3 hb7 d41
  replace d50 := bkeep3 hb7 d50
  replace d51 := bkeep3 hb7 d51
  replace d60 := bkeep3 hb7 d60
  replace d61 := bkeep3 hb7 d61
  have d70 : w7.cell? ⟨w6.heap.size, 0, none⟩ = some (.float .f64 t1) := bkeep2 hb7 (by simp [go_sem])
  have d71 : w7.cell? ⟨w6.heap.size, 1, none⟩ = some (.float .f64 t2) := bkeep2 hb7 (by simp [go_sem])
  have l0 : w.heap.size < w7.heap.size := cell_lt c00
  have l1 : w.heap.size + 1 < w7.heap.size := cell_lt c10
  have l2 : w.heap.size + 1 + 1 < w7.heap.size := cell_lt c20
  have l3 : w3.heap.size < w7.heap.size := cell_lt d40
  have l4 : w4.heap.size < w7.heap.size := cell_lt d50
  have l5 : w5.heap.size < w7.heap.size := cell_lt d60
  have l6 : w6.heap.size < w7.heap.size := cell_lt d70
  go_wp2_with fail
  go_at_call 77
  refine (a2 _).mono ?_
  rintro e w8 ⟨rfl, hb8⟩
  have s8 := hb8.size
  try simp at s8
  replace fc20 := bfroz3 hb8 c20 fc20
  replace fc21 := bfroz3 hb8 c21 fc21
  replace fc22 := bfroz3 hb8 c22 fc22
  replace fc23 := bfroz3 hb8 c23 fc23
  replace c00 := bkeep3 hb8 c00
  replace c01 := bkeep3 hb8 c01
  replace c02 := bkeep3 hb8 c02
  replace c03 := bkeep3 hb8 c03
  replace c10 := bkeep3 hb8 c10
  replace c11 := bkeep3 hb8 c11
  replace c12 := bkeep3 hb8 c12
  replace c13 := bkeep3 hb8 c13
  replace c20 := bkeep3 hb8 c20
  replace c21 := bkeep3 hb8 c21
  replace c22 := bkeep3 hb8 c22
  replace c23 := bkeep3 hb8 c23
  replace d40 := bkeep3 hb8 d40
  replace d41 := bkeep3 hb8 d41
  replace d50 := bkeep3 hb8 d50
  replace d51 := bkeep3 hb8 d51
  replace d60 := bkeep3 hb8 d60
  replace d61 := bkeep3 hb8 d61
  replace d70 := bkeep3 hb8 d70
  replace d71 := bkeep3 hb8 d71
  have d80 : w8.cell? ⟨w7.heap.size, 0, none⟩ = some (.float .f64 a) := bkeep2 hb8 (by simp [go_sem])
  have d81 : w8.cell? ⟨w7.heap.size, 1, none⟩ = some (.float .f64 b) := bkeep2 hb8 (by simp [go_sem])
  have l0 : w.heap.size < w8.heap.size := cell_lt c00
  have l1 : w.heap.size + 1 < w8.heap.size := cell_lt c10
  have l2 : w.heap.size + 1 + 1 < w8.heap.size := cell_lt c20
  have l3 : w3.heap.size < w8.heap.size := cell_lt d40
  have l4 : w4.heap.size < w8.heap.size := cell_lt d50
  have l5 : w5.heap.size < w8.heap.size := cell_lt d60
  have l6 : w6.heap.size < w8.heap.size := cell_lt d70
  have l7 : w7.heap.size < w8.heap.size := cell_lt d80
  go_wp2_with fail
  refine bodyPost_ret (v := .agg #[.float .f64 a, .float .f64 b, .float .f64 c, .float .f64 d]) (by simp [results, Tryz.results40, go_sem, *]) rfl ⟨rfl, ?_⟩
  repeat (with_reducible first | exact Below.refl _ _ | assumption | refine Below.drew ?_ | refine bl_drewN ?_ _ | refine Below.setCell ?_ (by first | omega | (simp; done) | (simp; omega)) _ | refine Below.alloc ?_ (by first | omega | (simp; done) | (simp; omega)) _ | refine bl_next ?_ (by assumption) | refine bl_trans ?_ (by assumption) (by first | omega | (simp; done) | (simp; omega)))

end Go.Proofs.YtacnclofbnafiabGreatDoor

namespace Go.Proofs.YtacnclofbnafiabGreatDoor
open Go.RowKit Fl

end Go.Proofs.YtacnclofbnafiabGreatDoor
