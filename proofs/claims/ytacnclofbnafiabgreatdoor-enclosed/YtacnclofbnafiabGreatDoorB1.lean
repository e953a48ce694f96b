import Derived.Test.YtacnclofbnafiabGreatDoorK5
import Derived.Deep.DeepCutAuto
import Derived.Deep.RegionHeld3
namespace Go.Proofs.YtacnclofbnafiabGreatDoor
open Go.RowKit Fl

@[go_sem] theorem buildBox (a b c d : Nat) (w : World) : (Instr.build 39 #[(0, .agg #[.float .f64 a, .float .f64 b]), (1, .agg #[.float .f64 c, .float .f64 d])]).run Tryz.prog w = .ok (.agg #[.float .f64 a, .float .f64 b, .float .f64 c, .float .f64 d]) w := run_build w 39 _ _ (by kernel_rfl)
set_option maxHeartbeats 1000000 in
theorem noBox_w (e1 e2 : Nat)
    (em : ∀ w, Calls Tryz.prog 145 #[] w fun e w' => e = .returned (.agg #[.float .f64 e1, .float .f64 e2]) ∧ Below w.heap.size w w') (w : World) :
    Calls Tryz.prog 112 #[] w fun e w' => e = .returned (.agg #[.float .f64 e1, .float .f64 e2, .float .f64 e1, .float .f64 e2]) ∧ Below w.heap.size w w' := by
  go_enter Tryz.func112, Tryz.ntmps112
  go_wp2_with fail
  obtain ⟨w0, hw0⟩ : ∃ v, v = (w.alloc (.cells #[.float .f64 0, .float .f64 0, .float .f64 0, .float .f64 0] 39)) := ⟨_, rfl⟩
  rw [← hw0]
  have c00 : w0.cell? ⟨w.heap.size, 0, none⟩ = some (.float .f64 0) := by simp [hw0, go_sem]
  have fc00 : w0.frozen? ⟨w.heap.size, 0, none⟩ = false := by simp [hw0, go_sem]
  have c01 : w0.cell? ⟨w.heap.size, 1, none⟩ = some (.float .f64 0) := by simp [hw0, go_sem]
  have fc01 : w0.frozen? ⟨w.heap.size, 1, none⟩ = false := by simp [hw0, go_sem]
  have c02 : w0.cell? ⟨w.heap.size, 2, none⟩ = some (.float .f64 0) := by simp [hw0, go_sem]
  have fc02 : w0.frozen? ⟨w.heap.size, 2, none⟩ = false := by simp [hw0, go_sem]
  have c03 : w0.cell? ⟨w.heap.size, 3, none⟩ = some (.float .f64 0) := by simp [hw0, go_sem]
  have fc03 : w0.frozen? ⟨w.heap.size, 3, none⟩ = false := by simp [hw0, go_sem]
  have s0 : w.heap.size + 1 ≤ w0.heap.size := by simp [hw0]
  have hB0 : Below w.heap.size w w0 := by
    rw [hw0]
    repeat (with_reducible first | exact Below.refl _ _ | assumption | refine Below.drew ?_ | refine bl_drewN ?_ _ | refine Below.setCell ?_ (by first | omega | (simp; done) | (simp; omega)) _ | refine Below.alloc ?_ (by first | omega | (simp; done) | (simp; omega)) _ | refine bl_next ?_ (by assumption) | refine bl_trans ?_ (by assumption) (by first | omega | (simp; done) | (simp; omega)))
  clear hw0
  go_at_call 145
  refine (em _).mono ?_
  rintro e w1 ⟨rfl, hb1⟩
  have s1 := hb1.size
  try simp at s1
  replace fc00 := bfroz2 hb1 c00 fc00
  replace fc01 := bfroz2 hb1 c01 fc01
  replace fc02 := bfroz2 hb1 c02 fc02
  replace fc03 := bfroz2 hb1 c03 fc03
  replace c00 := bkeep2 hb1 c00
  replace c01 := bkeep2 hb1 c01
  replace c02 := bkeep2 hb1 c02
  replace c03 := bkeep2 hb1 c03
  have l0 : w.heap.size < w1.heap.size := cell_lt c00
  go_wp2_with fail
  go_at_call 145
  refine (em _).mono ?_
  rintro e w2 ⟨rfl, hb2⟩
  have s2 := hb2.size
  try simp at s2
  replace fc00 := bfroz2 hb2 c00 fc00
  replace fc01 := bfroz2 hb2 c01 fc01
  replace fc02 := bfroz2 hb2 c02 fc02
  replace fc03 := bfroz2 hb2 c03 fc03
  replace c00 := bkeep2 hb2 c00
  replace c01 := bkeep2 hb2 c01
  replace c02 := bkeep2 hb2 c02
  replace c03 := bkeep2 hb2 c03
  have l0 : w.heap.size < w2.heap.size := cell_lt c00
  go_wp2_with fail
  refine bodyPost_ret (v := .agg #[.float .f64 e1, .float .f64 e2, .float .f64 e1, .float .f64 e2]) (by simp [results, Tryz.results112, go_sem, *]) rfl ⟨rfl, ?_⟩
  repeat (with_reducible first | exact Below.refl _ _ | assumption | refine Below.drew ?_ | refine bl_drewN ?_ _ | refine Below.setCell ?_ (by first | omega | (simp; done) | (simp; omega)) _ | refine Below.alloc ?_ (by first | omega | (simp; done) | (simp; omega)) _ | refine bl_next ?_ (by assumption) | refine bl_trans ?_ (by assumption) (by first | omega | (simp; done) | (simp; omega)))

set_option maxHeartbeats 1000000 in
theorem boxOf_1_w (a b c d e1 e2 e3 e4 : Nat)
    (n1 : ∀ w, Calls Tryz.prog 121 #[.agg #[.float .f64 a, .float .f64 b]] w fun e w' => e = .returned (.bool true) ∧ Below w.heap.size w w')
    (nb : ∀ w, Calls Tryz.prog 112 #[] w fun e w' => e = .returned (.agg #[.float .f64 e1, .float .f64 e2, .float .f64 e3, .float .f64 e4]) ∧ Below w.heap.size w w') (w : World) :
    Calls Tryz.prog 117 #[.agg #[.float .f64 a, .float .f64 b], .agg #[.float .f64 c, .float .f64 d]] w fun e w' => e = .returned (.agg #[.float .f64 e1, .float .f64 e2, .float .f64 e3, .float .f64 e4]) ∧ Below w.heap.size w w' := by
  go_enter Tryz.func117, Tryz.ntmps117
  go_wp2_with fail
  obtain ⟨w0, hw0⟩ : ∃ v, v = (((w.alloc (.cells #[.float .f64 a, .float .f64 b] 37)).alloc (.cells #[.float .f64 c, .float .f64 d] 37)).alloc (.cells #[.float .f64 0, .float .f64 0, .float .f64 0, .float .f64 0] 39)) := ⟨_, rfl⟩
  rw [← hw0]
  have c00 : w0.cell? ⟨w.heap.size, 0, none⟩ = some (.float .f64 a) := by simp [hw0, go_sem]
  have c01 : w0.cell? ⟨w.heap.size, 1, none⟩ = some (.float .f64 b) := by simp [hw0, go_sem]
  have c10 : w0.cell? ⟨w.heap.size + 1, 0, none⟩ = some (.float .f64 c) := by simp [hw0, go_sem]
  have c11 : w0.cell? ⟨w.heap.size + 1, 1, none⟩ = some (.float .f64 d) := by simp [hw0, go_sem]
  have c20 : w0.cell? ⟨w.heap.size + 1 + 1, 0, none⟩ = some (.float .f64 0) := by simp [hw0, go_sem]
  have fc20 : w0.frozen? ⟨w.heap.size + 1 + 1, 0, none⟩ = false := by simp [hw0, go_sem]
  have c21 : w0.cell? ⟨w.heap.size + 1 + 1, 1, none⟩ = some (.float .f64 0) := by simp [hw0, go_sem]
  have fc21 : w0.frozen? ⟨w.heap.size + 1 + 1, 1, none⟩ = false := by simp [hw0, go_sem]
  have c22 : w0.cell? ⟨w.heap.size + 1 + 1, 2, none⟩ = some (.float .f64 0) := by simp [hw0, go_sem]
  have fc22 : w0.frozen? ⟨w.heap.size + 1 + 1, 2, none⟩ = false := by simp [hw0, go_sem]
  have c23 : w0.cell? ⟨w.heap.size + 1 + 1, 3, none⟩ = some (.float .f64 0) := by simp [hw0, go_sem]
  have fc23 : w0.frozen? ⟨w.heap.size + 1 + 1, 3, none⟩ = false := by simp [hw0, go_sem]
  have s0 : w.heap.size + 1 + 1 + 1 ≤ w0.heap.size := by simp [hw0]
  have hB0 : Below w.heap.size w w0 := by
    rw [hw0]
    repeat (with_reducible first | exact Below.refl _ _ | assumption | refine Below.drew ?_ | refine bl_drewN ?_ _ | refine Below.setCell ?_ (by first | omega | (simp; done) | (simp; omega)) _ | refine Below.alloc ?_ (by first | omega | (simp; done) | (simp; omega)) _ | refine bl_next ?_ (by assumption) | refine bl_trans ?_ (by assumption) (by first | omega | (simp; done) | (simp; omega)))
  clear hw0
  go_at_call 121
  refine (n1 _).mono ?_
  rintro e w1 ⟨rfl, hb1⟩
  have s1 := hb1.size
  try simp at s1
  replace fc20 := bfroz2 hb1 c20 fc20
  replace fc21 := bfroz2 hb1 c21 fc21
  replace fc22 := bfroz2 hb1 c22 fc22
  replace fc23 := bfroz2 hb1 c23 fc23
  replace c00 := bkeep2 hb1 c00
  replace c01 := bkeep2 hb1 c01
  replace c10 := bkeep2 hb1 c10
  replace c11 := bkeep2 hb1 c11
  replace c20 := bkeep2 hb1 c20
  replace c21 := bkeep2 hb1 c21
  replace c22 := bkeep2 hb1 c22
  replace c23 := bkeep2 hb1 c23
  have l0 : w.heap.size < w1.heap.size := cell_lt c00
  have l1 : w.heap.size + 1 < w1.heap.size := cell_lt c10
  have l2 : w.heap.size + 1 + 1 < w1.heap.size := cell_lt c20
  go_wp2_with fail
  go_at_call 112
  refine (nb _).mono ?_
  rintro e w2 ⟨rfl, hb2⟩
  have s2 := hb2.size
  try simp at s2
  replace fc20 := bfroz2 hb2 c20 fc20
  replace fc21 := bfroz2 hb2 c21 fc21
  replace fc22 := bfroz2 hb2 c22 fc22
  replace fc23 := bfroz2 hb2 c23 fc23
  replace c00 := bkeep2 hb2 c00
  replace c01 := bkeep2 hb2 c01
  replace c10 := bkeep2 hb2 c10
  replace c11 := bkeep2 hb2 c11
  replace c20 := bkeep2 hb2 c20
  replace c21 := bkeep2 hb2 c21
  replace c22 := bkeep2 hb2 c22
  replace c23 := bkeep2 hb2 c23
  have l0 : w.heap.size < w2.heap.size := cell_lt c00
  have l1 : w.heap.size + 1 < w2.heap.size := cell_lt c10
  have l2 : w.heap.size + 1 + 1 < w2.heap.size := cell_lt c20
  go_wp2_with fail
  refine bodyPost_ret (v := .agg #[.float .f64 e1, .float .f64 e2, .float .f64 e3, .float .f64 e4]) (by simp [results, Tryz.results117, go_sem, *]) rfl ⟨rfl, ?_⟩
  repeat (with_reducible first | exact Below.refl _ _ | assumption | refine Below.drew ?_ | refine bl_drewN ?_ _ | refine Below.setCell ?_ (by first | omega | (simp; done) | (simp; omega)) _ | refine Below.alloc ?_ (by first | omega | (simp; done) | (simp; omega)) _ | refine bl_next ?_ (by assumption) | refine bl_trans ?_ (by assumption) (by first | omega | (simp; done) | (simp; omega)))

set_option maxHeartbeats 1000000 in
theorem boxOf_2_w (a b c d e1 e2 e3 e4 : Nat)
    (n1 : ∀ w, Calls Tryz.prog 121 #[.agg #[.float .f64 a, .float .f64 b]] w fun e w' => e = .returned (.bool false) ∧ Below w.heap.size w w')
    (n2 : ∀ w, Calls Tryz.prog 121 #[.agg #[.float .f64 c, .float .f64 d]] w fun e w' => e = .returned (.bool true) ∧ Below w.heap.size w w')
    (nb : ∀ w, Calls Tryz.prog 112 #[] w fun e w' => e = .returned (.agg #[.float .f64 e1, .float .f64 e2, .float .f64 e3, .float .f64 e4]) ∧ Below w.heap.size w w') (w : World) :
    Calls Tryz.prog 117 #[.agg #[.float .f64 a, .float .f64 b], .agg #[.float .f64 c, .float .f64 d]] w fun e w' => e = .returned (.agg #[.float .f64 e1, .float .f64 e2, .float .f64 e3, .float .f64 e4]) ∧ Below w.heap.size w w' := by
  go_enter Tryz.func117, Tryz.ntmps117
  go_wp2_with fail
  obtain ⟨w0, hw0⟩ : ∃ v, v = (((w.alloc (.cells #[.float .f64 a, .float .f64 b] 37)).alloc (.cells #[.float .f64 c, .float .f64 d] 37)).alloc (.cells #[.float .f64 0, .float .f64 0, .float .f64 0, .float .f64 0] 39)) := ⟨_, rfl⟩
  rw [← hw0]
  have c00 : w0.cell? ⟨w.heap.size, 0, none⟩ = some (.float .f64 a) := by simp [hw0, go_sem]
  have c01 : w0.cell? ⟨w.heap.size, 1, none⟩ = some (.float .f64 b) := by simp [hw0, go_sem]
  have c10 : w0.cell? ⟨w.heap.size + 1, 0, none⟩ = some (.float .f64 c) := by simp [hw0, go_sem]
  have c11 : w0.cell? ⟨w.heap.size + 1, 1, none⟩ = some (.float .f64 d) := by simp [hw0, go_sem]
  have c20 : w0.cell? ⟨w.heap.size + 1 + 1, 0, none⟩ = some (.float .f64 0) := by simp [hw0, go_sem]
  have fc20 : w0.frozen? ⟨w.heap.size + 1 + 1, 0, none⟩ = false := by simp [hw0, go_sem]
  have c21 : w0.cell? ⟨w.heap.size + 1 + 1, 1, none⟩ = some (.float .f64 0) := by simp [hw0, go_sem]
  have fc21 : w0.frozen? ⟨w.heap.size + 1 + 1, 1, none⟩ = false := by simp [hw0, go_sem]
  have c22 : w0.cell? ⟨w.heap.size + 1 + 1, 2, none⟩ = some (.float .f64 0) := by simp [hw0, go_sem]
  have fc22 : w0.frozen? ⟨w.heap.size + 1 + 1, 2, none⟩ = false := by simp [hw0, go_sem]
  have c23 : w0.cell? ⟨w.heap.size + 1 + 1, 3, none⟩ = some (.float .f64 0) := by simp [hw0, go_sem]
  have fc23 : w0.frozen? ⟨w.heap.size + 1 + 1, 3, none⟩ = false := by simp [hw0, go_sem]
  have s0 : w.heap.size + 1 + 1 + 1 ≤ w0.heap.size := by simp [hw0]
  have hB0 : Below w.heap.size w w0 := by
    rw [hw0]
    repeat (with_reducible first | exact Below.refl _ _ | assumption | refine Below.drew ?_ | refine bl_drewN ?_ _ | refine Below.setCell ?_ (by first | omega | (simp; done) | (simp; omega)) _ | refine Below.alloc ?_ (by first | omega | (simp; done) | (simp; omega)) _ | refine bl_next ?_ (by assumption) | refine bl_trans ?_ (by assumption) (by first | omega | (simp; done) | (simp; omega)))
  clear hw0
  go_at_call 121
  refine (n1 _).mono ?_
  rintro e w1 ⟨rfl, hb1⟩
  have s1 := hb1.size
  try simp at s1
  replace fc20 := bfroz2 hb1 c20 fc20
  replace fc21 := bfroz2 hb1 c21 fc21
  replace fc22 := bfroz2 hb1 c22 fc22
  replace fc23 := bfroz2 hb1 c23 fc23
  replace c00 := bkeep2 hb1 c00
  replace c01 := bkeep2 hb1 c01
  replace c10 := bkeep2 hb1 c10
  replace c11 := bkeep2 hb1 c11
  replace c20 := bkeep2 hb1 c20
  replace c21 := bkeep2 hb1 c21
  replace c22 := bkeep2 hb1 c22
  replace c23 := bkeep2 hb1 c23
  have l0 : w.heap.size < w1.heap.size := cell_lt c00
  have l1 : w.heap.size + 1 < w1.heap.size := cell_lt c10
  have l2 : w.heap.size + 1 + 1 < w1.heap.size := cell_lt c20
  go_wp2_with fail
  go_at_call 121
  refine (n2 _).mono ?_
  rintro e w2 ⟨rfl, hb2⟩
  have s2 := hb2.size
  try simp at s2
  replace fc20 := bfroz2 hb2 c20 fc20
  replace fc21 := bfroz2 hb2 c21 fc21
  replace fc22 := bfroz2 hb2 c22 fc22
  replace fc23 := bfroz2 hb2 c23 fc23
  replace c00 := bkeep2 hb2 c00
  replace c01 := bkeep2 hb2 c01
  replace c10 := bkeep2 hb2 c10
  replace c11 := bkeep2 hb2 c11
  replace c20 := bkeep2 hb2 c20
  replace c21 := bkeep2 hb2 c21
  replace c22 := bkeep2 hb2 c22
  replace c23 := bkeep2 hb2 c23
  have l0 : w.heap.size < w2.heap.size := cell_lt c00
  have l1 : w.heap.size + 1 < w2.heap.size := cell_lt c10
  have l2 : w.heap.size + 1 + 1 < w2.heap.size := cell_lt c20
  go_wp2_with fail
  go_at_call 112
  refine (nb _).mono ?_
  rintro e w3 ⟨rfl, hb3⟩
  have s3 := hb3.size
  try simp at s3
  replace fc20 := bfroz2 hb3 c20 fc20
  replace fc21 := bfroz2 hb3 c21 fc21
  replace fc22 := bfroz2 hb3 c22 fc22
  replace fc23 := bfroz2 hb3 c23 fc23
  replace c00 := bkeep2 hb3 c00
  replace c01 := bkeep2 hb3 c01
  replace c10 := bkeep2 hb3 c10
  replace c11 := bkeep2 hb3 c11
  replace c20 := bkeep2 hb3 c20
  replace c21 := bkeep2 hb3 c21
  replace c22 := bkeep2 hb3 c22
  replace c23 := bkeep2 hb3 c23
  have l0 : w.heap.size < w3.heap.size := cell_lt c00
  have l1 : w.heap.size + 1 < w3.heap.size := cell_lt c10
  have l2 : w.heap.size + 1 + 1 < w3.heap.size := cell_lt c20
  go_wp2_with fail
  refine bodyPost_ret (v := .agg #[.float .f64 e1, .float .f64 e2, .float .f64 e3, .float .f64 e4]) (by simp [results, Tryz.results117, go_sem, *]) rfl ⟨rfl, ?_⟩
  repeat (with_reducible first | exact Below.refl _ _ | assumption | refine Below.drew ?_ | refine bl_drewN ?_ _ | refine Below.setCell ?_ (by first | omega | (simp; done) | (simp; omega)) _ | refine Below.alloc ?_ (by first | omega | (simp; done) | (simp; omega)) _ | refine bl_next ?_ (by assumption) | refine bl_trans ?_ (by assumption) (by first | omega | (simp; done) | (simp; omega)))

set_option maxHeartbeats 1000000 in
theorem boxOf_3_w (a b c d : Nat)
    (n1 : ∀ w, Calls Tryz.prog 121 #[.agg #[.float .f64 a, .float .f64 b]] w fun e w' => e = .returned (.bool false) ∧ Below w.heap.size w w')
    (n2 : ∀ w, Calls Tryz.prog 121 #[.agg #[.float .f64 c, .float .f64 d]] w fun e w' => e = .returned (.bool false) ∧ Below w.heap.size w w') (w : World) :
    Calls Tryz.prog 117 #[.agg #[.float .f64 a, .float .f64 b], .agg #[.float .f64 c, .float .f64 d]] w fun e w' => e = .returned (.agg #[.float .f64 a, .float .f64 b, .float .f64 c, .float .f64 d]) ∧ Below w.heap.size w w' := by
  go_enter Tryz.func117, Tryz.ntmps117
  go_wp2_with fail
  obtain ⟨w0, hw0⟩ : ∃ v, v = (((w.alloc (.cells #[.float .f64 a, .float .f64 b] 37)).alloc (.cells #[.float .f64 c, .float .f64 d] 37)).alloc (.cells #[.float .f64 0, .float .f64 0, .float .f64 0, .float .f64 0] 39)) := ⟨_, rfl⟩
  rw [← hw0]
  have c00 : w0.cell? ⟨w.heap.size, 0, none⟩ = some (.float .f64 a) := by simp [hw0, go_sem]
  have c01 : w0.cell? ⟨w.heap.size, 1, none⟩ = some (.float .f64 b) := by simp [hw0, go_sem]
  have c10 : w0.cell? ⟨w.heap.size + 1, 0, none⟩ = some (.float .f64 c) := by simp [hw0, go_sem]
  have c11 : w0.cell? ⟨w.heap.size + 1, 1, none⟩ = some (.float .f64 d) := by simp [hw0, go_sem]
  have c20 : w0.cell? ⟨w.heap.size + 1 + 1, 0, none⟩ = some (.float .f64 0) := by simp [hw0, go_sem]
  have fc20 : w0.frozen? ⟨w.heap.size + 1 + 1, 0, none⟩ = false := by simp [hw0, go_sem]
  have c21 : w0.cell? ⟨w.heap.size + 1 + 1, 1, none⟩ = some (.float .f64 0) := by simp [hw0, go_sem]
  have fc21 : w0.frozen? ⟨w.heap.size + 1 + 1, 1, none⟩ = false := by simp [hw0, go_sem]
  have c22 : w0.cell? ⟨w.heap.size + 1 + 1, 2, none⟩ = some (.float .f64 0) := by simp [hw0, go_sem]
  have fc22 : w0.frozen? ⟨w.heap.size + 1 + 1, 2, none⟩ = false := by simp [hw0, go_sem]
  have c23 : w0.cell? ⟨w.heap.size + 1 + 1, 3, none⟩ = some (.float .f64 0) := by simp [hw0, go_sem]
  have fc23 : w0.frozen? ⟨w.heap.size + 1 + 1, 3, none⟩ = false := by simp [hw0, go_sem]
  have s0 : w.heap.size + 1 + 1 + 1 ≤ w0.heap.size := by simp [hw0]
  have hB0 : Below w.heap.size w w0 := by
    rw [hw0]
    repeat (with_reducible first | exact Below.refl _ _ | assumption | refine Below.drew ?_ | refine bl_drewN ?_ _ | refine Below.setCell ?_ (by first | omega | (simp; done) | (simp; omega)) _ | refine Below.alloc ?_ (by first | omega | (simp; done) | (simp; omega)) _ | refine bl_next ?_ (by assumption) | refine bl_trans ?_ (by assumption) (by first | omega | (simp; done) | (simp; omega)))
  clear hw0
  go_at_call 121
  refine (n1 _).mono ?_
  rintro e w1 ⟨rfl, hb1⟩
  have s1 := hb1.size
  try simp at s1
  replace fc20 := bfroz2 hb1 c20 fc20
  replace fc21 := bfroz2 hb1 c21 fc21
  replace fc22 := bfroz2 hb1 c22 fc22
  replace fc23 := bfroz2 hb1 c23 fc23
  replace c00 := bkeep2 hb1 c00
  replace c01 := bkeep2 hb1 c01
  replace c10 := bkeep2 hb1 c10
  replace c11 := bkeep2 hb1 c11
  replace c20 := bkeep2 hb1 c20
  replace c21 := bkeep2 hb1 c21
  replace c22 := bkeep2 hb1 c22
  replace c23 := bkeep2 hb1 c23
  have l0 : w.heap.size < w1.heap.size := cell_lt c00
  have l1 : w.heap.size + 1 < w1.heap.size := cell_lt c10
  have l2 : w.heap.size + 1 + 1 < w1.heap.size := cell_lt c20
  go_wp2_with fail
  go_at_call 121
  refine (n2 _).mono ?_
  rintro e w2 ⟨rfl, hb2⟩
  have s2 := hb2.size
  try simp at s2
  replace fc20 := bfroz2 hb2 c20 fc20
  replace fc21 := bfroz2 hb2 c21 fc21
  replace fc22 := bfroz2 hb2 c22 fc22
  replace fc23 := bfroz2 hb2 c23 fc23
  replace c00 := bkeep2 hb2 c00
  replace c01 := bkeep2 hb2 c01
  replace c10 := bkeep2 hb2 c10
  replace c11 := bkeep2 hb2 c11
  replace c20 := bkeep2 hb2 c20
  replace c21 := bkeep2 hb2 c21
  replace c22 := bkeep2 hb2 c22
  replace c23 := bkeep2 hb2 c23
  have l0 : w.heap.size < w2.heap.size := cell_lt c00
  have l1 : w.heap.size + 1 < w2.heap.size := cell_lt c10
  have l2 : w.heap.size + 1 + 1 < w2.heap.size := cell_lt c20
  go_wp2_with fail
  refine bodyPost_ret (v := .agg #[.float .f64 a, .float .f64 b, .float .f64 c, .float .f64 d]) (by simp [results, Tryz.results117, go_sem, *]) rfl ⟨rfl, ?_⟩
  repeat (with_reducible first | exact Below.refl _ _ | assumption | refine Below.drew ?_ | refine bl_drewN ?_ _ | refine Below.setCell ?_ (by first | omega | (simp; done) | (simp; omega)) _ | refine Below.alloc ?_ (by first | omega | (simp; done) | (simp; omega)) _ | refine bl_next ?_ (by assumption) | refine bl_trans ?_ (by assumption) (by first | omega | (simp; done) | (simp; omega)))

set_option maxHeartbeats 2000000 in
theorem boxAdd_w (X1 X2 X3 X4 Y1 Y2 Y3 Y4 a b c d e1 e2 e3 e4 : Nat)
    (a1 : ∀ w, Calls Tryz.prog 118 #[.agg #[.float .f64 X1, .float .f64 X2], .agg #[.float .f64 Y1, .float .f64 Y2]] w fun e w' => e = .returned (.agg #[.float .f64 a, .float .f64 b]) ∧ Below w.heap.size w w')
    (a2 : ∀ w, Calls Tryz.prog 118 #[.agg #[.float .f64 X3, .float .f64 X4], .agg #[.float .f64 Y3, .float .f64 Y4]] w fun e w' => e = .returned (.agg #[.float .f64 c, .float .f64 d]) ∧ Below w.heap.size w w')
    (bo : ∀ w, Calls Tryz.prog 117 #[.agg #[.float .f64 a, .float .f64 b], .agg #[.float .f64 c, .float .f64 d]] w fun e w' => e = .returned (.agg #[.float .f64 e1, .float .f64 e2, .float .f64 e3, .float .f64 e4]) ∧ Below w.heap.size w w') (w : World) :
    Calls Tryz.prog 85 #[.agg #[.float .f64 X1, .float .f64 X2, .float .f64 X3, .float .f64 X4], .agg #[.float .f64 Y1, .float .f64 Y2, .float .f64 Y3, .float .f64 Y4]] w fun e w' => e = .returned (.agg #[.float .f64 e1, .float .f64 e2, .float .f64 e3, .float .f64 e4]) ∧ Below w.heap.size w w' := by
  go_enter Tryz.func85, Tryz.ntmps85
  go_wp2_with fail
  obtain ⟨w0, hw0⟩ : ∃ v, v = (((w.alloc (.cells #[.float .f64 X1, .float .f64 X2, .float .f64 X3, .float .f64 X4] 39)).alloc (.cells #[.float .f64 Y1, .float .f64 Y2, .float .f64 Y3, .float .f64 Y4] 39)).alloc (.cells #[.float .f64 0, .float .f64 0, .float .f64 0, .float .f64 0] 39)) := ⟨_, rfl⟩
  rw [← hw0]
  have c00 : w0.cell? ⟨w.heap.size, 0, none⟩ = some (.float .f64 X1) := by simp [hw0, go_sem]
  have c01 : w0.cell? ⟨w.heap.size, 1, none⟩ = some (.float .f64 X2) := by simp [hw0, go_sem]
  have c02 : w0.cell? ⟨w.heap.size, 2, none⟩ = some (.float .f64 X3) := by simp [hw0, go_sem]
  have c03 : w0.cell? ⟨w.heap.size, 3, none⟩ = some (.float .f64 X4) := by simp [hw0, go_sem]
  have c10 : w0.cell? ⟨w.heap.size + 1, 0, none⟩ = some (.float .f64 Y1) := by simp [hw0, go_sem]
  have c11 : w0.cell? ⟨w.heap.size + 1, 1, none⟩ = some (.float .f64 Y2) := by simp [hw0, go_sem]
  have c12 : w0.cell? ⟨w.heap.size + 1, 2, none⟩ = some (.float .f64 Y3) := by simp [hw0, go_sem]
  have c13 : w0.cell? ⟨w.heap.size + 1, 3, none⟩ = some (.float .f64 Y4) := by simp [hw0, go_sem]
  have c20 : w0.cell? ⟨w.heap.size + 1 + 1, 0, none⟩ = some (.float .f64 0) := by simp [hw0, go_sem]
  have fc20 : w0.frozen? ⟨w.heap.size + 1 + 1, 0, none⟩ = false := by simp [hw0, go_sem]
  have c21 : w0.cell? ⟨w.heap.size + 1 + 1, 1, none⟩ = some (.float .f64 0) := by simp [hw0, go_sem]
  have fc21 : w0.frozen? ⟨w.heap.size + 1 + 1, 1, none⟩ = false := by simp [hw0, go_sem]
  have c22 : w0.cell? ⟨w.heap.size + 1 + 1, 2, none⟩ = some (.float .f64 0) := by simp [hw0, go_sem]
  have fc22 : w0.frozen? ⟨w.heap.size + 1 + 1, 2, none⟩ = false := by simp [hw0, go_sem]
  have c23 : w0.cell? ⟨w.heap.size + 1 + 1, 3, none⟩ = some (.float .f64 0) := by simp [hw0, go_sem]
  have fc23 : w0.frozen? ⟨w.heap.size + 1 + 1, 3, none⟩ = false := by simp [hw0, go_sem]
  have s0 : w.heap.size + 1 + 1 + 1 ≤ w0.heap.size := by simp [hw0]
  have hB0 : Below w.heap.size w w0 := by
    rw [hw0]
    repeat (with_reducible first | exact Below.refl _ _ | assumption | refine Below.drew ?_ | refine bl_drewN ?_ _ | refine Below.setCell ?_ (by first | omega | (simp; done) | (simp; omega)) _ | refine Below.alloc ?_ (by first | omega | (simp; done) | (simp; omega)) _ | refine bl_next ?_ (by assumption) | refine bl_trans ?_ (by assumption) (by first | omega | (simp; done) | (simp; omega)))
  clear hw0
  go_region_held3 (fun w' => w'.cell? ⟨w.heap.size, 0, none⟩ = some (.float .f64 X1) ∧ w'.cell? ⟨w.heap.size, 1, none⟩ = some (.float .f64 X2) ∧ w'.cell? ⟨w.heap.size, 2, none⟩ = some (.float .f64 X3) ∧ w'.cell? ⟨w.heap.size, 3, none⟩ = some (.float .f64 X4) ∧ w'.cell? ⟨w.heap.size + 1, 0, none⟩ = some (.float .f64 Y1) ∧ w'.cell? ⟨w.heap.size + 1, 1, none⟩ = some (.float .f64 Y2) ∧ w'.cell? ⟨w.heap.size + 1, 2, none⟩ = some (.float .f64 Y3) ∧ w'.cell? ⟨w.heap.size + 1, 3, none⟩ = some (.float .f64 Y4)) (((try dsimp only); (try go_split_ands); (repeat' apply And.intro) <;> first | (with_reducible assumption) | (rw [set_other (by first | omega | (simp; done) | (simp; omega)), set_other (by first | omega | (simp; done) | (simp; omega)), set_other (by first | omega | (simp; done) | (simp; omega)), set_other (by first | omega | (simp; done) | (simp; omega))]; (with_reducible assumption)) | (with_reducible refine bkeep2 hb ?_; first | (with_reducible assumption) | (simp [*]; done)) | go_keep)) (first | (go_at_call 118; with_reducible refine (a1 _).mono ?_; rintro e w' ⟨rfl, hb⟩; have z0 := bkeep2 hb (p := ⟨w.heap.size + 1 + 1, 0, none⟩) (v := .float .f64 0) (by first | (with_reducible assumption) | simp [*]); have y0 := bfroz2 hb (p := ⟨w.heap.size + 1 + 1, 0, none⟩) (v := .float .f64 0) (by first | (with_reducible assumption) | simp [*]) (by first | (with_reducible assumption) | simp [*]); have z1 := bkeep2 hb (p := ⟨w.heap.size + 1 + 1, 1, none⟩) (v := .float .f64 0) (by first | (with_reducible assumption) | simp [*]); have y1 := bfroz2 hb (p := ⟨w.heap.size + 1 + 1, 1, none⟩) (v := .float .f64 0) (by first | (with_reducible assumption) | simp [*]) (by first | (with_reducible assumption) | simp [*]); have z2 := bkeep2 hb (p := ⟨w.heap.size + 1 + 1, 2, none⟩) (v := .float .f64 0) (by first | (with_reducible assumption) | simp [*]); have y2 := bfroz2 hb (p := ⟨w.heap.size + 1 + 1, 2, none⟩) (v := .float .f64 0) (by first | (with_reducible assumption) | simp [*]) (by first | (with_reducible assumption) | simp [*]); have z3 := bkeep2 hb (p := ⟨w.heap.size + 1 + 1, 3, none⟩) (v := .float .f64 0) (by first | (with_reducible assumption) | simp [*]); have y3 := bfroz2 hb (p := ⟨w.heap.size + 1 + 1, 3, none⟩) (v := .float .f64 0) (by first | (with_reducible assumption) | simp [*]) (by first | (with_reducible assumption) | simp [*])) | (go_at_call 118; with_reducible refine (a2 _).mono ?_; rintro e w' ⟨rfl, hb⟩; have z0 := bkeep2 hb (p := ⟨w.heap.size + 1 + 1, 0, none⟩) (v := .float .f64 0) (by first | (with_reducible assumption) | simp [*]); have y0 := bfroz2 hb (p := ⟨w.heap.size + 1 + 1, 0, none⟩) (v := .float .f64 0) (by first | (with_reducible assumption) | simp [*]) (by first | (with_reducible assumption) | simp [*]); have z1 := bkeep2 hb (p := ⟨w.heap.size + 1 + 1, 1, none⟩) (v := .float .f64 0) (by first | (with_reducible assumption) | simp [*]); have y1 := bfroz2 hb (p := ⟨w.heap.size + 1 + 1, 1, none⟩) (v := .float .f64 0) (by first | (with_reducible assumption) | simp [*]) (by first | (with_reducible assumption) | simp [*]); have z2 := bkeep2 hb (p := ⟨w.heap.size + 1 + 1, 2, none⟩) (v := .float .f64 0) (by first | (with_reducible assumption) | simp [*]); have y2 := bfroz2 hb (p := ⟨w.heap.size + 1 + 1, 2, none⟩) (v := .float .f64 0) (by first | (with_reducible assumption) | simp [*]) (by first | (with_reducible assumption) | simp [*]); have z3 := bkeep2 hb (p := ⟨w.heap.size + 1 + 1, 3, none⟩) (v := .float .f64 0) (by first | (with_reducible assumption) | simp [*]); have y3 := bfroz2 hb (p := ⟨w.heap.size + 1 + 1, 3, none⟩) (v := .float .f64 0) (by first | (with_reducible assumption) | simp [*]) (by first | (with_reducible assumption) | simp [*])) | (go_at_call 117; with_reducible refine (bo _).mono ?_; rintro e w' ⟨rfl, hb⟩; have z0 := bkeep2 hb (p := ⟨w.heap.size + 1 + 1, 0, none⟩) (v := .float .f64 0) (by first | (with_reducible assumption) | simp [*]); have y0 := bfroz2 hb (p := ⟨w.heap.size + 1 + 1, 0, none⟩) (v := .float .f64 0) (by first | (with_reducible assumption) | simp [*]) (by first | (with_reducible assumption) | simp [*]); have z1 := bkeep2 hb (p := ⟨w.heap.size + 1 + 1, 1, none⟩) (v := .float .f64 0) (by first | (with_reducible assumption) | simp [*]); have y1 := bfroz2 hb (p := ⟨w.heap.size + 1 + 1, 1, none⟩) (v := .float .f64 0) (by first | (with_reducible assumption) | simp [*]) (by first | (with_reducible assumption) | simp [*]); have z2 := bkeep2 hb (p := ⟨w.heap.size + 1 + 1, 2, none⟩) (v := .float .f64 0) (by first | (with_reducible assumption) | simp [*]); have y2 := bfroz2 hb (p := ⟨w.heap.size + 1 + 1, 2, none⟩) (v := .float .f64 0) (by first | (with_reducible assumption) | simp [*]) (by first | (with_reducible assumption) | simp [*]); have z3 := bkeep2 hb (p := ⟨w.heap.size + 1 + 1, 3, none⟩) (v := .float .f64 0) (by first | (with_reducible assumption) | simp [*]); have y3 := bfroz2 hb (p := ⟨w.heap.size + 1 + 1, 3, none⟩) (v := .float .f64 0) (by first | (with_reducible assumption) | simp [*]) (by first | (with_reducible assumption) | simp [*])))
  all_goals (go_wp2_with fail; refine bodyPost_ret (v := .agg #[.float .f64 e1, .float .f64 e2, .float .f64 e3, .float .f64 e4]) (by simp [results, Tryz.results85, go_sem, *]) rfl ⟨rfl, ?_⟩; repeat (with_reducible first | exact Below.refl _ _ | assumption | refine Below.drew ?_ | refine bl_drewN ?_ _ | refine Below.setCell ?_ (by first | omega | (simp; done) | (simp; omega)) _ | refine Below.alloc ?_ (by first | omega | (simp; done) | (simp; omega)) _ | refine bl_next ?_ (by assumption) | refine bl_trans ?_ (by assumption) (by first | omega | (simp; done) | (simp; omega))))

set_option maxHeartbeats 2000000 in
theorem boxSub_w (X1 X2 X3 X4 Y1 Y2 Y3 Y4 a b c d e1 e2 e3 e4 : Nat)
    (a1 : ∀ w, Calls Tryz.prog 119 #[.agg #[.float .f64 X1, .float .f64 X2], .agg #[.float .f64 Y1, .float .f64 Y2]] w fun e w' => e = .returned (.agg #[.float .f64 a, .float .f64 b]) ∧ Below w.heap.size w w')
    (a2 : ∀ w, Calls Tryz.prog 119 #[.agg #[.float .f64 X3, .float .f64 X4], .agg #[.float .f64 Y3, .float .f64 Y4]] w fun e w' => e = .returned (.agg #[.float .f64 c, .float .f64 d]) ∧ Below w.heap.size w w')
    (bo : ∀ w, Calls Tryz.prog 117 #[.agg #[.float .f64 a, .float .f64 b], .agg #[.float .f64 c, .float .f64 d]] w fun e w' => e = .returned (.agg #[.float .f64 e1, .float .f64 e2, .float .f64 e3, .float .f64 e4]) ∧ Below w.heap.size w w') (w : World) :
    Calls Tryz.prog 86 #[.agg #[.float .f64 X1, .float .f64 X2, .float .f64 X3, .float .f64 X4], .agg #[.float .f64 Y1, .float .f64 Y2, .float .f64 Y3, .float .f64 Y4]] w fun e w' => e = .returned (.agg #[.float .f64 e1, .float .f64 e2, .float .f64 e3, .float .f64 e4]) ∧ Below w.heap.size w w' := by
  go_enter Tryz.func86, Tryz.ntmps86
  go_wp2_with fail
  obtain ⟨w0, hw0⟩ : ∃ v, v = (((w.alloc (.cells #[.float .f64 X1, .float .f64 X2, .float .f64 X3, .float .f64 X4] 39)).alloc (.cells #[.float .f64 Y1, .float .f64 Y2, .float .f64 Y3, .float .f64 Y4] 39)).alloc (.cells #[.float .f64 0, .float .f64 0, .float .f64 0, .float .f64 0] 39)) := ⟨_, rfl⟩
  rw [← hw0]
  have c00 : w0.cell? ⟨w.heap.size, 0, none⟩ = some (.float .f64 X1) := by simp [hw0, go_sem]
  have c01 : w0.cell? ⟨w.heap.size, 1, none⟩ = some (.float .f64 X2) := by simp [hw0, go_sem]
  have c02 : w0.cell? ⟨w.heap.size, 2, none⟩ = some (.float .f64 X3) := by simp [hw0, go_sem]
  have c03 : w0.cell? ⟨w.heap.size, 3, none⟩ = some (.float .f64 X4) := by simp [hw0, go_sem]
  have c10 : w0.cell? ⟨w.heap.size + 1, 0, none⟩ = some (.float .f64 Y1) := by simp [hw0, go_sem]
  have c11 : w0.cell? ⟨w.heap.size + 1, 1, none⟩ = some (.float .f64 Y2) := by simp [hw0, go_sem]
  have c12 : w0.cell? ⟨w.heap.size + 1, 2, none⟩ = some (.float .f64 Y3) := by simp [hw0, go_sem]
  have c13 : w0.cell? ⟨w.heap.size + 1, 3, none⟩ = some (.float .f64 Y4) := by simp [hw0, go_sem]
  have c20 : w0.cell? ⟨w.heap.size + 1 + 1, 0, none⟩ = some (.float .f64 0) := by simp [hw0, go_sem]
  have fc20 : w0.frozen? ⟨w.heap.size + 1 + 1, 0, none⟩ = false := by simp [hw0, go_sem]
  have c21 : w0.cell? ⟨w.heap.size + 1 + 1, 1, none⟩ = some (.float .f64 0) := by simp [hw0, go_sem]
  have fc21 : w0.frozen? ⟨w.heap.size + 1 + 1, 1, none⟩ = false := by simp [hw0, go_sem]
  have c22 : w0.cell? ⟨w.heap.size + 1 + 1, 2, none⟩ = some (.float .f64 0) := by simp [hw0, go_sem]
  have fc22 : w0.frozen? ⟨w.heap.size + 1 + 1, 2, none⟩ = false := by simp [hw0, go_sem]
  have c23 : w0.cell? ⟨w.heap.size + 1 + 1, 3, none⟩ = some (.float .f64 0) := by simp [hw0, go_sem]
  have fc23 : w0.frozen? ⟨w.heap.size + 1 + 1, 3, none⟩ = false := by simp [hw0, go_sem]
  have s0 : w.heap.size + 1 + 1 + 1 ≤ w0.heap.size := by simp [hw0]
  have hB0 : Below w.heap.size w w0 := by
    rw [hw0]
    repeat (with_reducible first | exact Below.refl _ _ | assumption | refine Below.drew ?_ | refine bl_drewN ?_ _ | refine Below.setCell ?_ (by first | omega | (simp; done) | (simp; omega)) _ | refine Below.alloc ?_ (by first | omega | (simp; done) | (simp; omega)) _ | refine bl_next ?_ (by assumption) | refine bl_trans ?_ (by assumption) (by first | omega | (simp; done) | (simp; omega)))
  clear hw0
  go_region_held3 (fun w' => w'.cell? ⟨w.heap.size, 0, none⟩ = some (.float .f64 X1) ∧ w'.cell? ⟨w.heap.size, 1, none⟩ = some (.float .f64 X2) ∧ w'.cell? ⟨w.heap.size, 2, none⟩ = some (.float .f64 X3) ∧ w'.cell? ⟨w.heap.size, 3, none⟩ = some (.float .f64 X4) ∧ w'.cell? ⟨w.heap.size + 1, 0, none⟩ = some (.float .f64 Y1) ∧ w'.cell? ⟨w.heap.size + 1, 1, none⟩ = some (.float .f64 Y2) ∧ w'.cell? ⟨w.heap.size + 1, 2, none⟩ = some (.float .f64 Y3) ∧ w'.cell? ⟨w.heap.size + 1, 3, none⟩ = some (.float .f64 Y4)) (((try dsimp only); (try go_split_ands); (repeat' apply And.intro) <;> first | (with_reducible assumption) | (rw [set_other (by first | omega | (simp; done) | (simp; omega)), set_other (by first | omega | (simp; done) | (simp; omega)), set_other (by first | omega | (simp; done) | (simp; omega)), set_other (by first | omega | (simp; done) | (simp; omega))]; (with_reducible assumption)) | (with_reducible refine bkeep2 hb ?_; first | (with_reducible assumption) | (simp [*]; done)) | go_keep)) (first | (go_at_call 119; with_reducible refine (a1 _).mono ?_; rintro e w' ⟨rfl, hb⟩; have z0 := bkeep2 hb (p := ⟨w.heap.size + 1 + 1, 0, none⟩) (v := .float .f64 0) (by first | (with_reducible assumption) | simp [*]); have y0 := bfroz2 hb (p := ⟨w.heap.size + 1 + 1, 0, none⟩) (v := .float .f64 0) (by first | (with_reducible assumption) | simp [*]) (by first | (with_reducible assumption) | simp [*]); have z1 := bkeep2 hb (p := ⟨w.heap.size + 1 + 1, 1, none⟩) (v := .float .f64 0) (by first | (with_reducible assumption) | simp [*]); have y1 := bfroz2 hb (p := ⟨w.heap.size + 1 + 1, 1, none⟩) (v := .float .f64 0) (by first | (with_reducible assumption) | simp [*]) (by first | (with_reducible assumption) | simp [*]); have z2 := bkeep2 hb (p := ⟨w.heap.size + 1 + 1, 2, none⟩) (v := .float .f64 0) (by first | (with_reducible assumption) | simp [*]); have y2 := bfroz2 hb (p := ⟨w.heap.size + 1 + 1, 2, none⟩) (v := .float .f64 0) (by first | (with_reducible assumption) | simp [*]) (by first | (with_reducible assumption) | simp [*]); have z3 := bkeep2 hb (p := ⟨w.heap.size + 1 + 1, 3, none⟩) (v := .float .f64 0) (by first | (with_reducible assumption) | simp [*]); have y3 := bfroz2 hb (p := ⟨w.heap.size + 1 + 1, 3, none⟩) (v := .float .f64 0) (by first | (with_reducible assumption) | simp [*]) (by first | (with_reducible assumption) | simp [*])) | (go_at_call 119; with_reducible refine (a2 _).mono ?_; rintro e w' ⟨rfl, hb⟩; have z0 := bkeep2 hb (p := ⟨w.heap.size + 1 + 1, 0, none⟩) (v := .float .f64 0) (by first | (with_reducible assumption) | simp [*]); have y0 := bfroz2 hb (p := ⟨w.heap.size + 1 + 1, 0, none⟩) (v := .float .f64 0) (by first | (with_reducible assumption) | simp [*]) (by first | (with_reducible assumption) | simp [*]); have z1 := bkeep2 hb (p := ⟨w.heap.size + 1 + 1, 1, none⟩) (v := .float .f64 0) (by first | (with_reducible assumption) | simp [*]); have y1 := bfroz2 hb (p := ⟨w.heap.size + 1 + 1, 1, none⟩) (v := .float .f64 0) (by first | (with_reducible assumption) | simp [*]) (by first | (with_reducible assumption) | simp [*]); have z2 := bkeep2 hb (p := ⟨w.heap.size + 1 + 1, 2, none⟩) (v := .float .f64 0) (by first | (with_reducible assumption) | simp [*]); have y2 := bfroz2 hb (p := ⟨w.heap.size + 1 + 1, 2, none⟩) (v := .float .f64 0) (by first | (with_reducible assumption) | simp [*]) (by first | (with_reducible assumption) | simp [*]); have z3 := bkeep2 hb (p := ⟨w.heap.size + 1 + 1, 3, none⟩) (v := .float .f64 0) (by first | (with_reducible assumption) | simp [*]); have y3 := bfroz2 hb (p := ⟨w.heap.size + 1 + 1, 3, none⟩) (v := .float .f64 0) (by first | (with_reducible assumption) | simp [*]) (by first | (with_reducible assumption) | simp [*])) | (go_at_call 117; with_reducible refine (bo _).mono ?_; rintro e w' ⟨rfl, hb⟩; have z0 := bkeep2 hb (p := ⟨w.heap.size + 1 + 1, 0, none⟩) (v := .float .f64 0) (by first | (with_reducible assumption) | simp [*]); have y0 := bfroz2 hb (p := ⟨w.heap.size + 1 + 1, 0, none⟩) (v := .float .f64 0) (by first | (with_reducible assumption) | simp [*]) (by first | (with_reducible assumption) | simp [*]); have z1 := bkeep2 hb (p := ⟨w.heap.size + 1 + 1, 1, none⟩) (v := .float .f64 0) (by first | (with_reducible assumption) | simp [*]); have y1 := bfroz2 hb (p := ⟨w.heap.size + 1 + 1, 1, none⟩) (v := .float .f64 0) (by first | (with_reducible assumption) | simp [*]) (by first | (with_reducible assumption) | simp [*]); have z2 := bkeep2 hb (p := ⟨w.heap.size + 1 + 1, 2, none⟩) (v := .float .f64 0) (by first | (with_reducible assumption) | simp [*]); have y2 := bfroz2 hb (p := ⟨w.heap.size + 1 + 1, 2, none⟩) (v := .float .f64 0) (by first | (with_reducible assumption) | simp [*]) (by first | (with_reducible assumption) | simp [*]); have z3 := bkeep2 hb (p := ⟨w.heap.size + 1 + 1, 3, none⟩) (v := .float .f64 0) (by first | (with_reducible assumption) | simp [*]); have y3 := bfroz2 hb (p := ⟨w.heap.size + 1 + 1, 3, none⟩) (v := .float .f64 0) (by first | (with_reducible assumption) | simp [*]) (by first | (with_reducible assumption) | simp [*])))
  all_goals (go_wp2_with fail; refine bodyPost_ret (v := .agg #[.float .f64 e1, .float .f64 e2, .float .f64 e3, .float .f64 e4]) (by simp [results, Tryz.results86, go_sem, *]) rfl ⟨rfl, ?_⟩; repeat (with_reducible first | exact Below.refl _ _ | assumption | refine Below.drew ?_ | refine bl_drewN ?_ _ | refine Below.setCell ?_ (by first | omega | (simp; done) | (simp; omega)) _ | refine Below.alloc ?_ (by first | omega | (simp; done) | (simp; omega)) _ | refine bl_next ?_ (by assumption) | refine bl_trans ?_ (by assumption) (by first | omega | (simp; done) | (simp; omega))))

end Go.Proofs.YtacnclofbnafiabGreatDoor
